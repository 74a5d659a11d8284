/- Split, Join and Common of package lines, walked. Own work. -/
import Derived.Test.YtegnkmfdchljkaaLnFunA
import Derived.Test.YtegnkmfdchljkaaLit
set_option linter.unusedVariables false
set_option linter.unusedSimpArgs false
namespace Go.Proofs.Ytegnkmfdchljkaa
open Go.RowKit

theorem lnconv_str {w : World} {A : Option Addr} {l : List UInt8} (c : Nat) (h : RB w 0 A l) : (convert 41 9 (.slice A l.length c)).run Try.prog w = .ok (.string ⟨l.toArray⟩) w := by
  cases A with
  | none =>
    have : l = [] := by
      cases l with
      | nil => rfl
      | cons x t => obtain ⟨_, h1, _⟩ := h (by simp); cases h1
    subst this
    exact run_convert_bytes_nil w 41 5 Try.underlying41 Try.underlying5 0 c 9 Try.underlying9
  | some a => exact run_convert_bytes_back w 41 9 5 a c l Try.underlying41 Try.underlying5 Try.underlying9 (fun j hj => h.cell hj rfl)
theorem Ln.parts_le : ∀ (l : List UInt8), ∀ p ∈ Ln.parts l, p.length ≤ l.length
  | [] => by simp [Ln.parts]
  | c :: l => by
    have ih := Ln.parts_le l
    obtain ⟨p, ps, e⟩ := Ln.parts_ne l
    rw [e] at ih
    by_cases h : c = 10
    · subst h
      rw [Ln.parts_feed, e]
      intro q hq
      rw [List.mem_cons] at hq
      rcases hq with rfl | hq
      · simp
      · have := ih q hq; simp only [List.length_cons]; omega
    · rw [Ln.parts_cons h e]
      intro q hq
      rw [List.mem_cons] at hq
      rcases hq with rfl | hq
      · have := ih p List.mem_cons_self; simp only [List.length_cons]; omega
      · have := ih q (List.mem_cons_of_mem _ hq); simp only [List.length_cons]; omega
theorem Ln.chk_zero {l : List UInt8} (h : Ln.chk l = 0) : l.length ≤ 2000 ∧ l.count 10 < 60 := by
  unfold Ln.chk at h
  split at h
  · cases h
  · omega
theorem Ln.chk_cases (l : List UInt8) : Ln.chk l = 4 ∨ Ln.chk l = 0 := by
  unfold Ln.chk
  split
  · exact .inl rfl
  · exact .inr rfl
/-- Strings fresh in a row of their own. -/
theorem sm_alloc (w : World) (ps : List ByteArray) (h1 : ps.length ≤ 100000) (h2 : ∀ p ∈ ps, p.size ≤ 100000) : SM (w.alloc (.cells (ps.map Value.string).toArray 9)) (some ⟨w.heap.size, 0, none⟩) ps.length ps :=
  ⟨fun _ => ⟨_, _, rfl, fun j hj => by
    unfold World.cell?
    rw [show (w.alloc (.cells (ps.map Value.string).toArray 9)).heap[w.heap.size]? = some (.cells (ps.map Value.string).toArray 9) from by (repeat (first | exact new_plain wnA | with_reducible refine old_alloc ?_ | with_reducible refine old_drew ?_ | with_reducible refine old_set ?_ wnA | with_reducible refine old_ab (by assumption) ?_))]
    simp [hj]⟩, Nat.le_refl _, by omega, h1, h2⟩
/-- What Split returns. -/
def RetSp (w : World) (l : List UInt8) (e : Ending) (w' : World) : Prop := ∃ B d ps, e = .returned (.tuple #[.slice B ps.length d, .int .i64 (Ln.chk l : Nat)]) ∧ Ln.L ps = (if Ln.chk l = 0 then Ln.parts l else []) ∧ SM w' B d ps ∧ Ab w w'
theorem RetSp.mk {w w' : World} {l : List UInt8} {e : Ending} {k : Nat} (hk : Hid (Ln.chk l = k)) (B : Option Addr) (d : Nat) (ps : List ByteArray) (he : e = .returned (.tuple #[.slice B ps.length d, .int .i64 (k : Nat)])) (hL : Ln.L ps = (if k = 0 then Ln.parts l else [])) (h1 : SM w' B d ps) (h2 : Ab w w') : RetSp w l e w' := by
  have hk := hk.out
  subst hk
  exact ⟨B, d, ps, he, hL, h1, h2⟩
/-- What Join returns. -/
def RetJn (w : World) (L : List (List UInt8)) (e : Ending) (w' : World) : Prop := ∃ B d y, e = .returned (.tuple #[.slice B y.length d, .int .i64 (Ln.err L : Nat)]) ∧ y = (if Ln.err L = 0 then Ln.text L else []) ∧ RB w' 0 B y ∧ y.length ≤ d ∧ y.length ≤ 2000 ∧ Ab w w'
theorem RetJn.mk {w w' : World} {L : List (List UInt8)} {e : Ending} {k : Nat} (hk : Hid (Ln.err L = k)) (B : Option Addr) (d : Nat) (y : List UInt8) (he : e = .returned (.tuple #[.slice B y.length d, .int .i64 (k : Nat)])) (hL : y = (if k = 0 then Ln.text L else [])) (h1 : RB w' 0 B y) (h2 : y.length ≤ d) (h3 : y.length ≤ 2000) (h4 : Ab w w') : RetJn w L e w' := by
  have hk := hk.out
  subst hk
  exact ⟨B, d, y, he, hL, h1, h2, h3, h4⟩
end Go.Proofs.Ytegnkmfdchljkaa
