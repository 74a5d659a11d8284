/- Literal bytes, strings of bytes, and the examples' device. Own work. -/
import Derived.Test.YtojhdecgipjkeaaPost
import Derived.Lib.SlBytesConst
import Derived.Lib.BufferRead
import Derived.Lib.SmallJoins
import Derived.Laws.IdiomStrings
set_option linter.unusedVariables false
set_option linter.unusedSimpArgs false
namespace Go.Proofs.Ytojhdecgipjkeaa
open Go.RowKit Disk

theorem old_set {W : World} {n : Nat} {p : Obj} {q : Addr} {u : Value} (h : W.heap[n]? = some p) (hq : q.block ≠ n) : (W.setCell q u).heap[n]? = some p := by
  rw [Below.heap_setCell W q u n (fun e => hq e.symm)]; exact h
/-- A block that holds the bytes l. -/
theorem RB.blk {w : World} {lo g : Nat} {l : List UInt8} {T : TypeId} {fr : Nat × Nat} (hg : w.heap[g]? = some (.cells (l.map cb).toArray T fr)) (hlo : lo ≤ g) : RB w lo (some ⟨g, 0, none⟩) l := by
  intro hl
  refine ⟨_, rfl, hlo, fun i hi => ?_⟩
  have : (⟨g, 0, none⟩ : Addr).add i = ⟨g, i, none⟩ := by unfold Addr.add; split <;> simp_all
  rw [this]
  unfold World.cell?
  rw [hg]
  simp [List.getElem?_eq_getElem hi]
/-- string(b) of bytes. -/
theorem conv_rb {w : World} {lo : Nat} {A : Option Addr} {l : List UInt8} (c : Nat) (h : RB w lo A l) :
    (convert 24 9 (.slice A l.length c)).run Try.prog w = .ok (.string ⟨l.toArray⟩) w := by
  rcases Nat.eq_zero_or_pos l.length with h0 | hpos
  · have hl : l = [] := List.eq_nil_of_length_eq_zero h0
    subst hl
    cases A with
    | none => exact Lib.run_convert_nil_bytes w _ _ 5 c Try.underlying24 Try.underlying5 Try.underlying9
    | some a => exact run_convert_bytes_back w _ _ 5 a c [] Try.underlying24 Try.underlying5 Try.underlying9 (fun j hj => absurd hj (by simp))
  · obtain ⟨a, rfl, _, hc⟩ := h hpos
    exact run_convert_bytes_back w _ _ 5 a c l Try.underlying24 Try.underlying5 Try.underlying9 hc

/-- It returns the device m; nothing is said of whether its bytes may be written. -/
def RetDevR (w : World) (m : Dev) (e : Ending) (w' : World) : Prop :=
  ∃ (D E : Option Addr) (cd ce : Nat), e = .returned (.agg #[.slice D m.s.length cd, .slice E m.t.length ce, .int .i64 m.cap, .bool m.down]) ∧ RB w' w.heap.size D m.s ∧ RB w' w.heap.size E m.t ∧ m.s.length ≤ cd ∧ m.t.length ≤ ce ∧ Ab w w'

theorem given_any (w : World) : Calls Try.prog 11 #[] w (RetDevR w ⟨[97, 98], [99, 100, 101], 10, false⟩) := by
  have kc := fun (w : World) (C : Array Value) (n c g : Nat) (hg : g = w.heap.size) => Joins.run_convert_bytes_const_at (P := Try.prog) w 24 5 C n c g hg Try.underlying24 Try.underlying5
  go_enter Try.func11, Try.ntmps11
  go_wp2
  refine bodyPost_ret (v := .agg #[.slice (some ⟨w.heap.size + 1, 0, none⟩) 2 2, .slice (some ⟨w.heap.size + 1 + 1, 0, none⟩) 3 3, .int .i64 10, .bool false]) (by simp [results, Try.results11, go_sem]) rfl ?_
  refine ⟨_, _, _, _, rfl, RB.blk (T := 5) (fr := (2, 3)) ?_ (by omega), RB.blk (T := 5) (fr := (3, 4)) ?_ (by omega), by simp, by simp, (by repeat (first | with_reducible exact Ab.refl _ | with_reducible assumption | with_reducible refine Ab.drew ?_ | with_reducible refine Ab.drewN ?_ _ | with_reducible refine Ab.alloc ?_ _ | with_reducible refine Ab.trans ?_ (by assumption) | with_reducible refine Ab.set ?_ (by first | (simp; done) | omega | (simp; omega)) _))⟩
  · repeat (first | with_reducible refine old_set ?_ (by first | (simp; done) | omega | (simp; omega)) | exact new_plain (by first | (simp; done) | omega | (simp; omega)) | with_reducible refine old_alloc ?_)
  · repeat (first | with_reducible refine old_set ?_ (by first | (simp; done) | omega | (simp; omega)) | exact new_plain (by first | (simp; done) | omega | (simp; omega)) | with_reducible refine old_alloc ?_)

theorem is_true (A B : Option Addr) (ca cb : Nat) (s t : List UInt8) (cap : Int) (dn : Bool) (w : World) (hs : RB w 0 A s) (ht : RB w 0 B t) (hca : s.length ≤ ca) (hcb : t.length ≤ cb) (e : Int) (u v : List UInt8) (he : e = 0) (hu : s = u) (hv : t = v) (hc : cap = 10) :
    Calls Try.prog 21 #[.agg #[.slice A s.length ca, .slice B t.length cb, .int .i64 cap, .bool dn], .int .i64 e, .string ⟨u.toArray⟩, .string ⟨v.toArray⟩] w (RetBool w true) := by
  subst he hu hv hc
  have c1 := conv_rb ca (RB.ab (w' := w.alloc (.cells #[.slice A s.length ca, .slice B t.length cb, .int .i64 10, .bool dn] 26)) hs (by repeat (first | with_reducible exact Ab.refl _ | with_reducible assumption | with_reducible refine Ab.drew ?_ | with_reducible refine Ab.drewN ?_ _ | with_reducible refine Ab.alloc ?_ _ | with_reducible refine Ab.trans ?_ (by assumption) | with_reducible refine Ab.set ?_ (by first | (simp; done) | omega | (simp; omega)) _)))
  have c2 := conv_rb cb (RB.ab (w' := w.alloc (.cells #[.slice A s.length ca, .slice B t.length cb, .int .i64 10, .bool dn] 26)) ht (by repeat (first | with_reducible exact Ab.refl _ | with_reducible assumption | with_reducible refine Ab.drew ?_ | with_reducible refine Ab.drewN ?_ _ | with_reducible refine Ab.alloc ?_ _ | with_reducible refine Ab.trans ?_ (by assumption) | with_reducible refine Ab.set ?_ (by first | (simp; done) | omega | (simp; omega)) _)))
  go_enter Try.func21, Try.ntmps21
  go_wp2
  go_ret
  exact ⟨ret_bool (by simp), (by repeat (first | with_reducible exact Ab.refl _ | with_reducible assumption | with_reducible refine Ab.drew ?_ | with_reducible refine Ab.drewN ?_ _ | with_reducible refine Ab.alloc ?_ _ | with_reducible refine Ab.trans ?_ (by assumption) | with_reducible refine Ab.set ?_ (by first | (simp; done) | omega | (simp; omega)) _))⟩
end Go.Proofs.Ytojhdecgipjkeaa
