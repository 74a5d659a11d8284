/- What LinesNames is made of: repeated bytes, rows of empty lines, calls with their errors. Own work. -/
import Derived.Test.YtegnkmfdchljkaaDoorLnAlive
import Derived.Test.YtegnkmfdchljkaaDoorLnRefC
set_option linter.unusedVariables false
set_option linter.unusedSimpArgs false
namespace Go.Proofs.YtegnkmfdchljkaaDoor
open Go.RowKit

theorem repeated_any (b : UInt8) (n : Nat) (hn : n ≤ 5000) (w : World) : Calls Tryd.prog 17 #[.int .u8 (b.toNat : Int), .int .i64 (n : Int)] w fun e w' => e = .returned (.string ⟨(List.replicate n b).toArray⟩) ∧ Ab w w' := by
  go_enter Tryd.func17, Tryd.ntmps17
  go_wp2_with fail
  go_loopw [5, 6] (fun s i w' => ∃ (k : Nat) (B : Option Addr) (d : Nat) (y : List UInt8), k ≤ n ∧ i = .int .i64 k ∧ s = .slice B y.length d ∧ Hid (y = List.replicate k b) ∧ OR 5 w.heap.size w' B d y ∧ Ab w w') (fun _ i _ => n - (intOf i).toNat)
  case atStart => exact ⟨0, none, 0, [], Nat.zero_le _, rfl, rfl, rfl, OR.none_, abA⟩
  case round =>
    obtain ⟨k, B, d, y, hk, rfl, rfl, hY, ho, hb⟩ := hrel
    rename World => w1
    have hyl : y.length ≤ 5000 := by rw [hY.out, List.length_replicate]; omega
    by_cases hlt : k < n
    · have hT : (k : Int) < n := by omega
      go_wp2_with (first
        | (at_builtin
           refine listApp (m := [b]) (n := 1) (lb := 0) rfl _ _ rfl rfl rfl rfl (ho.alloc _) (by have := hb.size; simp; omega) (rb_feed (by (repeat (first | exact new_plain wnA | with_reducible refine old_alloc ?_ | with_reducible refine old_drew ?_ | with_reducible refine old_set ?_ wnA | with_reducible refine old_ab (by assumption) ?_))) rfl) (by simp) (by simp; omega) ?_
           intro A5 c5 w5 y5 e5 o5 _ f5
           have b5 := f5 w (by exact abA) (Nat.le_refl _)
           clear f5)
        | fail)
      go_roundw
      case rel => exact ⟨k + 1, A5, c5, y5, by omega, by go_num, rfl, by rw [e5.out, hY.out, List.replicate_succ']; exact rfl, o5, b5⟩
      case measure => simp [intOf]; omega
    · obtain rfl : k = n := by omega
      have cs := lnconv_str d (ho.rb.zero)
      have hT : ¬ (k : Int) < k := by omega
      go_wp2
      go_ret
      exact ⟨by rw [hY.out]; rfl, hb⟩
/-- Bytes of a kind, under a name. -/
theorem rep_ex (b : UInt8) (n : Nat) (hn : n ≤ 5000) (v m : Int) (hv : v = (b.toNat : Int)) (hm : m = (n : Int)) : ∃ l : List UInt8, Hid (l.length = n) ∧ Hid (l.count 10 = if b = 10 then n else 0) ∧ Hid (∀ w, Calls Tryd.prog 17 #[.int .u8 v, .int .i64 m] w fun e w' => e = .returned (.string ⟨l.toArray⟩) ∧ Ab w w') := by
  subst hv hm
  refine ⟨List.replicate n b, by simp [Hid], ?_, fun w => repeated_any b n hn w⟩
  unfold Hid
  rw [List.count_replicate]
  simp
theorem make_strs (n : Nat) (hn : n ≤ 1000) (v : Int) (hv : v = (n : Int)) : ∃ (Z : Array Value) (ps : List ByteArray),
    (∀ w : World, (Instr.makeSlice 23 (.int .i64 v) (.int .i64 v)).run Tryd.prog w = .ok (.slice (some ⟨w.heap.size, 0, none⟩) n n) (w.alloc (.cells Z 9))) ∧
    Hid (ps.length = n) ∧ Hid (∀ p ∈ ps, p = ⟨#[]⟩) ∧ Hid (∀ (w : World) (g : Nat), w.heap[g]? = some (.cells Z 9 (0, 0)) → SM w (some ⟨g, 0, none⟩) n ps) := by
  subst hv
  obtain ⟨i0, hi, hz, hs, hb⟩ : ∃ i0, Tryd.prog.info? 9 = some i0 ∧ i0.zero = some (.string ⟨#[]⟩) ∧ i0.size = 1 ∧ i0.bytes = 16 := by
    have : (Tryd.prog.info? 9).map (fun i => (i.zero, i.size, i.bytes)) = some (some (.string ⟨#[]⟩), 1, 16) := by kernel_rfl
    cases h : Tryd.prog.info? 9 with
    | none => rw [h] at this; cases this
    | some i => rw [h] at this; simp at this; exact ⟨i, rfl, this⟩
  refine ⟨madeCells (Value.string ⟨#[]⟩).cells n, List.replicate n ⟨#[]⟩, fun w => ?_, by simp [Hid], fun p hp => List.eq_of_mem_replicate hp, ?_⟩
  · have := run_makeSlice (P := Tryd.prog) w 23 9 i0 _ Tryd.underlying23 hi hz .i64 .i64 n n (by omega) (Int.le_refl _) (by rw [hs]; simp; omega) (by rw [hb]; omega) (by omega)
    rw [hs, Int.toNat_natCast, Nat.mul_one] at this
    exact this
  · intro w g hg
    have ht : (madeCells (Value.string ⟨#[]⟩).cells n).toList = List.replicate n (.string ⟨#[]⟩) := toList_madeCells_one _ _
    refine ⟨fun _ => ⟨g, 0, rfl, fun j hj => ?_⟩, by simp, by omega, by simp; omega, fun p hp => by rw [List.eq_of_mem_replicate hp]; exact Nat.zero_le _⟩
    unfold World.cell?
    rw [hg]
    have e := congrArg (fun l => l[0 + j]?) ht
    rw [List.length_replicate] at hj
    simp only [Nat.zero_add, List.getElem?_replicate, if_pos hj] at e
    simp only [Nat.zero_add, List.getElem_replicate]
    simpa using e
theorem Ln.err_many {l : List (List UInt8)} (h : 60 < l.length ∨ 2001 < Ln.len l) : Ln.err l = 4 := by unfold Ln.err; rw [if_pos h]
theorem smN {w : World} {g : Nat} {cs : Array Value} {fr : Nat × Nat} (ps : List ByteArray) (hg : w.heap[g]? = some (.cells cs 9 fr)) (hc : cs = (ps.map Value.string).toArray) (hk : ps.length ≤ 100000) (hs : ∀ p ∈ ps, p.size ≤ 100000) : SM w (some ⟨g, 0, none⟩) ps.length ps := by
  subst hc
  refine ⟨fun _ => ⟨_, _, rfl, fun j hj => ?_⟩, Nat.le_refl _, by omega, hk, hs⟩
  unfold World.cell?
  rw [hg]
  simp [hj]
/-- Join that fails. -/
theorem joinN (A : Option Addr) (c n k : Nat) (ps : List ByteArray) (hn : ps.length = n) (he : Ln.err (Ln.L ps) = k) (w : World) (h : SM w A c ps) : Calls Tryd.prog 11 #[.slice A n c] w fun e w' => ∃ (B : Option Addr) (d m : Nat), e = .returned (.tuple #[.slice B m d, .int .i64 (k : Int)]) ∧ Ab w w' := by
  subst hn
  refine (join_any A c ps w h).mono fun e w2 h => ?_
  obtain ⟨B, d, y, h1, _, _, _, _, h6⟩ := h
  rw [he] at h1
  exact ⟨B, d, y.length, h1, h6⟩
/-- Join that goes well. -/
theorem joinY (A : Option Addr) (c n k : Nat) (ps : List ByteArray) (hn : ps.length = n) (he : Ln.err (Ln.L ps) = 0) (hk : Ln.len (Ln.L ps) = k + 1) (w : World) (h : SM w A c ps) : Calls Tryd.prog 11 #[.slice A n c] w fun e w' => ∃ (B : Option Addr) (d : Nat), e = .returned (.tuple #[.slice B k d, .int .i64 0]) ∧ Ab w w' := by
  subst hn
  refine (join_any A c ps w h).mono fun e w2 h => ?_
  obtain ⟨B, d, y, h1, h2, _, _, _, h6⟩ := h
  have htl := Ln.text_len _ (Ln.err_zero he).2.2.1
  rw [he] at h1
  rw [if_pos he] at h2
  have : y.length = k := by rw [h2]; omega
  rw [this] at h1
  exact ⟨B, d, h1, h6⟩
theorem commonN (A B : Option Addr) (c d n m k : Nat) (ps qs : List ByteArray) (hn : ps.length = n) (hm : qs.length = m) (he : Ln.errs (Ln.L ps) (Ln.L qs) = k) (h0 : k ≠ 0) (w : World) (h : SM w A c ps) (h' : SM w B d qs) : Calls Tryd.prog 18 #[.slice A n c, .slice B m d] w fun e w' => e = .returned (.tuple #[.int .i64 0, .int .i64 0, .int .i64 (k : Int)]) ∧ Ab w w' := by
  subst hn hm
  refine (common_any A B c d ps qs w h h').mono fun e w2 h => ?_
  unfold RetCm Ln.comF Ln.comB at h
  rw [if_neg (by rw [he]; exact h0), if_neg (by rw [he]; exact h0), he] at h
  exact h
theorem replaceN (A B : Option Addr) (c d n m k : Nat) (ps qs : List ByteArray) (i j : Int) (hn : ps.length = n) (hm : qs.length = m) (he : Ln.repE (Ln.L ps) i j (Ln.L qs) = k) (hmm : m ≤ 50000) (i0 : -9223372036854775808 ≤ i) (i1 : i ≤ 9223372036854775807) (j0 : -9223372036854775808 ≤ j) (j1 : j ≤ 9223372036854775807) (w : World) (h : SM w A c ps) (h' : SM w B d qs) : Calls Tryd.prog 19 #[.slice A n c, .int .i64 i, .int .i64 j, .slice B m d] w fun e w' => ∃ (C : Option Addr) (f : Nat) (rs : List ByteArray), e = .returned (.tuple #[.slice C rs.length f, .int .i64 (k : Int)]) ∧ Ln.L rs = Ln.repL (Ln.L ps) i j (Ln.L qs) ∧ SM w' C f rs ∧ Ab w w' := by
  subst hn hm
  refine (replace_any A B c d ps qs i j w h h' hmm i0 i1 j0 j1).mono fun e w2 h => ?_
  obtain ⟨C, f, rs, h1, h2, h3, h4⟩ := h
  rw [he] at h1
  exact ⟨C, f, rs, h1, h2, h3, h4⟩
end Go.Proofs.YtegnkmfdchljkaaDoor
