/- Deltas compared, where they are the same; examples of least deltas. Own work. -/
import Derived.Test.YtjgijpfknhfnjaaDlFunA
import Derived.Laws.IdiomStrings
import Derived.Laws.BytesArg
set_option linter.unusedVariables false
set_option linter.unusedSimpArgs false
namespace Go.Proofs.Ytjgijpfknhfnjaa
open Go.RowKit

theorem conv_str {w : World} {A : Option Addr} {l : List UInt8} (c : Nat) (h : RB w 0 A l) : (convert 22 9 (.slice A l.length c)).run Try.prog w = .ok (.string ⟨l.toArray⟩) w := by
  cases A with
  | none =>
    have : l = [] := by
      cases l with
      | nil => rfl
      | cons x t => obtain ⟨_, h1, _⟩ := h (by simp); cases h1
    subst this
    exact run_convert_bytes_nil w 22 5 Try.underlying22 Try.underlying5 0 c 9 Try.underlying9
  | some a => exact run_convert_bytes_back w 22 9 5 a c l Try.underlying22 Try.underlying5 Try.underlying9 (fun j hj => h.cell hj rfl)
set_option maxRecDepth 100000 in
set_option maxHeartbeats 4000000 in
theorem dsame_any (A B : Option Addr) (c d : Nat) (xs ys : List PM) (w : World) (h : Pts w A c xs) (k : Pts w B d ys) (he : xs.map PM.d = ys.map PM.d) :
    Calls Try.prog 14 #[.slice A xs.length c, .slice B ys.length d] w (RetTrue w) := by
  have hl : ys.length = xs.length := by have := congrArg List.length he; simpa using this.symm
  have hn' := h.n'
  have H := Lib.hid h
  have K := Lib.hid k
  have HE := Lib.hid he
  have HL := Lib.hid hl
  rw [hl]
  clear h k he hl
  go_enter Try.func14, Try.ntmps14
  go_wp2_with fail
  go_loopw [5] (fun i w' => ∃ q : Nat, q ≤ xs.length ∧ i = .int .i64 q ∧ Ab w w') (fun i _ => xs.length - (intOf i).toNat)
  case atStart => exact ⟨0, Nat.zero_le _, rfl, abA⟩
  case round =>
    obtain ⟨q, hq, rfl, hb⟩ := hrel
    rename World => w1
    by_cases hlt : q < xs.length
    · have hT : (q : Int) < xs.length := by omega
      have hlt2 : q < ys.length := by have := HL.out; omega
      obtain ⟨g, o, rfl, hR0, hPx⟩ := pts_at H.out hlt
      obtain ⟨g2, o2, rfl, hS0, hPy⟩ := pts_at K.out hlt2
      have hd : xs[q].d = ys[q].d := by
        have h1 : (xs.map PM.d)[q]? = (ys.map PM.d)[q]? := by rw [HE.out]
        simpa [hlt, hlt2] using h1
      generalize xs[q] = x at *
      generalize ys[q] = y at *
      obtain ⟨p, n, xA, b, xc⟩ := x
      obtain ⟨p2, n2, yA, b2, yc⟩ := y
      have e1 : p = p2 := congrArg Dl.Part.p hd
      have e2 : n = n2 := congrArg Dl.Part.n hd
      have e3 : b = b2 := congrArg Dl.Part.b hd
      subst e1 e2 e3
      have x0 : w1.cell? ⟨g, o + q * 3, none⟩ = some (.int .i64 p) := hb.at (hR0 0 _ rfl)
      have x1 : w1.cell? ⟨g, o + q * 3 + 1, none⟩ = some (.int .i64 n) := hb.at (hR0 1 _ rfl)
      have x2 : w1.cell? ⟨g, o + q * 3 + 2, none⟩ = some (.slice xA b.length xc) := hb.at (hR0 2 _ rfl)
      have y0 : w1.cell? ⟨g2, o2 + q * 3, none⟩ = some (.int .i64 p) := hb.at (hS0 0 _ rfl)
      have y1 : w1.cell? ⟨g2, o2 + q * 3 + 1, none⟩ = some (.int .i64 n) := hb.at (hS0 1 _ rfl)
      have y2 : w1.cell? ⟨g2, o2 + q * 3 + 2, none⟩ = some (.slice yA b.length yc) := hb.at (hS0 2 _ rfl)
      have rx : RB w1 0 xA b := hPx.b.ab hb
      have ry : RB w1 0 yA b := hPy.b.ab hb
      clear hR0 hS0 hPx hPy hd
      go_upto_region 6 with fail
      refine wp_region_held_drew (by kernel_rfl) (S := fun w' => w'.cell? ⟨g, o + q * 3, none⟩ = some (.int .i64 p) ∧ w'.cell? ⟨g, o + q * 3 + 1, none⟩ = some (.int .i64 n) ∧ w'.cell? ⟨g, o + q * 3 + 2, none⟩ = some (.slice xA b.length xc) ∧ w'.cell? ⟨g2, o2 + q * 3, none⟩ = some (.int .i64 p) ∧ w'.cell? ⟨g2, o2 + q * 3 + 1, none⟩ = some (.int .i64 n) ∧ w'.cell? ⟨g2, o2 + q * 3 + 2, none⟩ = some (.slice yA b.length yc) ∧ RB w' 0 xA b ∧ RB w' 0 yA b) ?_ (fun hHeld => ?_)
      · exact ⟨cell_drew x0, cell_drew x1, cell_drew x2, cell_drew y0, cell_drew y1, cell_drew y2, rx.ab abA, ry.ab abA⟩
      (refine rtA 0 ?_ ?_
       (try simp only [Act.put, stA, st0, st1]))
      (refine rtA 1 ?_ ?_
       (try simp only [Act.put, stA, st0, st1]))
      (refine rtA 2 ?_ ?_
       (try simp only [Act.put, stA, st0, st1]))
      (refine rtA 3 ?_ ?_
       (try simp only [Act.put, stA, st0, st1]))
      (try simp only [Act.put, List.getElem_toArray, List.getElem_cons_succ, List.getElem_cons_zero, stA, st0, st1])
      (refine rtA 4 (.int .i64 p) ?_ (hy := by intro w hSw; have z0 := hSw.1; go_simp; (try with_reducible rfl)); (try simp only [Act.put, stA, st0, st1]))
      (refine rtA 5 ?_ ?_
       (try simp only [Act.put, stA, st0, st1]))
      (refine rtA 6 ?_ ?_
       (try simp only [Act.put, stA, st0, st1]))
      (refine rtA 7 ?_ ?_
       (try simp only [Act.put, stA, st0, st1]))
      (refine rtA 8 ?_ ?_
       (try simp only [Act.put, stA, st0, st1]))
      (try simp only [Act.put, List.getElem_toArray, List.getElem_cons_succ, List.getElem_cons_zero, stA, st0, st1])
      (refine rtA 9 (.int .i64 p) ?_ (hy := by intro w hSw; have z0 := hSw.2.2.2.1; go_simp; (try with_reducible rfl)); (try simp only [Act.put, stA, st0, st1]))
      (refine rtA 10 (.bool false) ?_ (hy := by intro w hSw; go_simp; (try with_reducible rfl)); (try simp only [Act.put, stA, st0, st1]))
      (refine rtA 11 ?_ ?_
       (try simp only [Act.put, stA, st0, st1]))
      (refine rtA 12 ?_ ?_
       (try simp only [Act.put, stA, st0, st1]))
      (refine rtA 13 ?_ ?_
       (try simp only [Act.put, stA, st0, st1]))
      (refine rtA 14 ?_ ?_
       (try simp only [Act.put, stA, st0, st1]))
      (refine rtA 15 ?_ ?_
       (try simp only [Act.put, stA, st0, st1]))
      (try simp only [Act.put, List.getElem_toArray, List.getElem_cons_succ, List.getElem_cons_zero, stA, st0, st1])
      (refine rtA 16 (.int .i64 n) ?_ (hy := by intro w hSw; have z0 := hSw.2.1; go_simp; (try with_reducible rfl)); (try simp only [Act.put, stA, st0, st1]))
      (refine rtA 17 ?_ ?_
       (try simp only [Act.put, stA, st0, st1]))
      (refine rtA 18 ?_ ?_
       (try simp only [Act.put, stA, st0, st1]))
      (refine rtA 19 ?_ ?_
       (try simp only [Act.put, stA, st0, st1]))
      (refine rtA 20 ?_ ?_
       (try simp only [Act.put, stA, st0, st1]))
      (try simp only [Act.put, List.getElem_toArray, List.getElem_cons_succ, List.getElem_cons_zero, stA, st0, st1])
      (refine rtA 21 (.int .i64 n) ?_ (hy := by intro w hSw; have z0 := hSw.2.2.2.2.1; go_simp; (try with_reducible rfl)); (try simp only [Act.put, stA, st0, st1]))
      (refine rtA 22 (.bool false) ?_ (hy := by intro w hSw; go_simp; (try with_reducible rfl)); (try simp only [Act.put, stA, st0, st1]))
      refine r1A 23 (fun K hK => ?_)
      (go_simp
       (refine hK.out _ _ ?_ (fun hHeld => ?_)
        · (try dsimp only); exact hHeld
        clear hK K
        (try simp only [Act.put, stA, st0, st1])))
      (refine rtA 24 ?_ ?_
       (try simp only [Act.put, stA, st0, st1]))
      (refine rtA 25 ?_ ?_
       (try simp only [Act.put, stA, st0, st1]))
      (refine rtA 26 ?_ ?_
       (try simp only [Act.put, stA, st0, st1]))
      (refine rtA 27 ?_ ?_
       (try simp only [Act.put, stA, st0, st1]))
      (refine rtA 28 ?_ ?_
       (try simp only [Act.put, stA, st0, st1]))
      (try simp only [Act.put, List.getElem_toArray, List.getElem_cons_succ, List.getElem_cons_zero, stA, st0, st1])
      (refine rtA 29 (.slice xA b.length xc) ?_ (hy := by intro w hSw; have z0 := hSw.2.2.1; go_simp; (try with_reducible rfl)); (try simp only [Act.put, stA, st0, st1]))
      (try simp only [Act.put, List.getElem_toArray, List.getElem_cons_succ, List.getElem_cons_zero, stA, st0, st1])
      (refine rtA 30 (.string ⟨b.toArray⟩) ?_ (hy := by intro w hSw; have z0 := conv_str xc (hSw.2.2.2.2.2.2.1); go_simp; (try with_reducible rfl)); (try simp only [Act.put, stA, st0, st1]))
      (refine rtA 31 ?_ ?_
       (try simp only [Act.put, stA, st0, st1]))
      (refine rtA 32 ?_ ?_
       (try simp only [Act.put, stA, st0, st1]))
      (refine rtA 33 ?_ ?_
       (try simp only [Act.put, stA, st0, st1]))
      (refine rtA 34 ?_ ?_
       (try simp only [Act.put, stA, st0, st1]))
      (try simp only [Act.put, List.getElem_toArray, List.getElem_cons_succ, List.getElem_cons_zero, stA, st0, st1])
      (refine rtA 35 (.slice yA b.length yc) ?_ (hy := by intro w hSw; have z0 := hSw.2.2.2.2.2.1; go_simp; (try with_reducible rfl)); (try simp only [Act.put, stA, st0, st1]))
      (try simp only [Act.put, List.getElem_toArray, List.getElem_cons_succ, List.getElem_cons_zero, stA, st0, st1])
      (refine rtA 36 (.string ⟨b.toArray⟩) ?_ (hy := by intro w hSw; have z0 := conv_str yc (hSw.2.2.2.2.2.2.2); go_simp; (try with_reducible rfl)); (try simp only [Act.put, stA, st0, st1]))
      (refine rtA 37 (.bool false) ?_ (hy := by intro w hSw; go_simp; (try with_reducible rfl)); (try simp only [Act.put, stA, st0, st1]))
      refine r1A 38 (fun K hK => ?_)
      (go_simp
       (refine hK.out _ _ ?_ (fun hHeld => ?_)
        · (try dsimp only); exact hHeld
        clear hK K
        (try simp only [Act.put, stA, st0, st1])))
      refine wpAnyH_done (by kernel_rfl) ?_ _
      go_wp2
      go_roundw
      case rel => exact ⟨q + 1, by omega, by go_num, hb.trans abA⟩
      case measure => simp [intOf] <;> omega
    · obtain rfl : q = xs.length := by omega
      go_wp2
      go_ret
      exact ⟨rfl, hb⟩
namespace Dl
/-- A table checked. -/
def chkT (B T : List UInt8) (f : List Int) (g : List Nat) : Bool :=
  decide (f.getD T.length 0 = 0) && (List.range T.length).all fun i =>
    decide (g.getD i 0 ≤ (T.drop i).length) && has B ((T.drop i).take (g.getD i 0)) && ((List.range ((T.drop i).length + 1)).all fun m => !(has B ((T.drop i).take m)) || decide (m ≤ g.getD i 0)) &&
    ((List.range (T.length - i)).all fun m => decide (f.getD i 0 ≤ 1 + ((m + 1 : Nat) : Int) + f.getD (i + (m + 1)) 0) && (!(decide (m + 1 ≤ g.getD i 0)) || decide (f.getD i 0 ≤ 3 + f.getD (i + (m + 1)) 0))) &&
    ((List.range (T.length - i)).any fun m => (decide (m + 1 ≤ g.getD i 0) && decide (f.getD i 0 = 3 + f.getD (i + (m + 1)) 0)) || decide (f.getD i 0 = 1 + ((m + 1 : Nat) : Int) + f.getD (i + (m + 1)) 0))
theorem tab_of {B T : List UInt8} {f : List Int} {g : List Nat} (h : chkT B T f g = true) : Tab B T (fun i => f.getD i 0) (fun i => g.getD i 0) 0 := by
  unfold chkT at h
  rw [Bool.and_eq_true, decide_eq_true_eq, List.all_eq_true] at h
  obtain ⟨h0, h1⟩ := h
  have key := fun i (hi : i < T.length) => h1 i (List.mem_range.2 hi)
  simp only [Bool.and_eq_true, decide_eq_true_eq, List.all_eq_true, List.any_eq_true, List.mem_range, Bool.or_eq_true, Bool.not_eq_true', decide_eq_false_iff_not] at key
  refine ⟨fun i _ hi => ?_, h0, fun i m _ hi h2 h3 => ?_, fun i m _ hi h2 h3 => ?_, fun i _ hi => ?_⟩
  · obtain ⟨⟨⟨⟨k1, k2⟩, k3⟩, _⟩, _⟩ := key i hi
    refine ⟨k1, k2, fun m hm hh => ?_⟩
    rcases k3 m (by omega) with h | h
    · rw [hh] at h; cases h
    · exact h
  · obtain ⟨⟨⟨⟨k1, k2⟩, k3⟩, k4⟩, _⟩ := key i hi
    have h3' : m ≤ g.getD i 0 := h3
    have hr : i + m ≤ T.length := by rw [List.length_drop] at k1; omega
    obtain ⟨_, k5⟩ := k4 (m - 1) (by omega)
    rw [show m - 1 + 1 = m by omega] at k5
    rcases k5 with h | h
    · exact absurd h3 h
    · exact h
  · obtain ⟨⟨_, k4⟩, _⟩ := key i hi
    obtain ⟨k5, _⟩ := k4 (m - 1) (by omega)
    rw [show m - 1 + 1 = m by omega] at k5
    exact k5
  · obtain ⟨_, m, hm, k5⟩ := key i hi
    exact ⟨m + 1, by omega, by omega, k5⟩
/-- A row of starts checked. -/
def chkS (n : Nat) (f : List Int) (g : List Nat) (i k : Nat) (cp : Bool) : Bool :=
  decide (1 ≤ k) && decide (i + k ≤ n) && (if cp then decide (k ≤ g.getD i 0) && decide (f.getD i 0 = 3 + f.getD (i + k) 0) && (List.range (g.getD i 0 + 1)).all fun m => decide (m ≤ k) || !(decide (f.getD i 0 = 3 + f.getD (i + m) 0))
    else ((List.range (g.getD i 0 + 1)).all fun m => decide (m = 0) || !(decide (f.getD i 0 = 3 + f.getD (i + m) 0))) && decide (f.getD i 0 = 1 + (k : Int) + f.getD (i + k) 0) && (List.range k).all fun m => decide (m = 0) || !(decide (f.getD i 0 = 1 + (m : Int) + f.getD (i + m) 0)))
theorem start_of {n : Nat} {f : List Int} {g : List Nat} {i k : Nat} {cp : Bool} (h : chkS n f g i k cp = true) : Start n (fun i => f.getD i 0) (fun i => g.getD i 0) i k cp := by
  unfold chkS at h
  simp only [Bool.and_eq_true, decide_eq_true_eq] at h
  obtain ⟨⟨h1, h2⟩, h3⟩ := h
  refine ⟨h1, h2, fun e => ?_, fun e => ?_⟩
  · subst e
    simp only [if_true, Bool.and_eq_true, decide_eq_true_eq, List.all_eq_true, List.mem_range, Bool.or_eq_true, Bool.not_eq_true', decide_eq_false_iff_not] at h3
    obtain ⟨⟨h4, h5⟩, h6⟩ := h3
    exact ⟨h4, h5, fun m hm hg => by
      rcases h6 m (by omega) with h | h
      · omega
      · exact h⟩
  · subst e
    simp only [Bool.false_eq_true, if_false, Bool.and_eq_true, decide_eq_true_eq, List.all_eq_true, List.mem_range, Bool.or_eq_true, Bool.not_eq_true', decide_eq_false_iff_not] at h3
    obtain ⟨⟨h4, h5⟩, h6⟩ := h3
    exact ⟨fun m hm hg => by
      rcases h4 m (by omega) with h | h
      · omega
      · exact h, h5, fun m hm hk => by
      rcases h6 m hk with h | h
      · omega
      · exact h⟩
def chkP (n : Nat) (f : List Int) (g : List Nat) : Nat → List (Nat × Bool) → Bool
  | i, [] => i == n
  | i, (k, cp) :: r => chkS n f g i k cp && chkP n f g (i + k) r
def mkP (B T : List UInt8) : Nat → List (Nat × Bool) → List Part
  | _, [] => []
  | i, (k, cp) :: r => part B T i k cp :: mkP B T (i + k) r
theorem mk_of {B T : List UInt8} {f : List Int} {g : List Nat} : ∀ (r : List (Nat × Bool)) (i : Nat), chkP T.length f g i r = true → Mk B T (fun i => f.getD i 0) (fun i => g.getD i 0) i (mkP B T i r)
  | [], i, h => by
    obtain rfl : i = T.length := by simpa [chkP] using h
    exact .done
  | (k, cp) :: r, i, h => by
    unfold chkP at h
    rw [Bool.and_eq_true] at h
    exact .step (start_of h.1) (mk_of r (i + k) h.2)
/-- The least delta of an example. -/
theorem least_is {B T : List UInt8} {f : List Int} {g : List Nat} {r : List (Nat × Bool)} (h : (chkT B T f g && chkP T.length f g 0 r) = true) {F : Nat → Int} {G : Nat → Nat} {l : List Part} (ht : Tab B T F G 0) (hm : Mk B T F G 0 l) : l = mkP B T 0 r := by
  rw [Bool.and_eq_true] at h
  exact Mk.same ht (tab_of h.1) hm (mk_of r 0 h.2)
def exB : List UInt8 := [97, 98, 99, 100, 101, 102]
theorem ex1 {F : Nat → Int} {G : Nat → Nat} {l : List Part} (ht : Tab exB [97, 98, 99, 120, 100, 101, 102] F G 0) (hm : Mk exB [97, 98, 99, 120, 100, 101, 102] F G 0 l) : l = [⟨0, 3, []⟩, ⟨0, 0, [120]⟩, ⟨3, 3, []⟩] :=
  (least_is (f := [8, 7, 6, 5, 3, 3, 2, 0]) (g := [3, 2, 1, 0, 3, 2, 1]) (r := [(3, true), (1, false), (3, true)]) (by decide +kernel) ht hm).trans (by rfl)
theorem ex2 {F : Nat → Int} {G : Nat → Nat} {l : List Part} (ht : Tab exB [99, 100, 101, 102, 99, 100, 101, 102] F G 0) (hm : Mk exB [99, 100, 101, 102, 99, 100, 101, 102] F G 0 l) : l = [⟨2, 4, []⟩, ⟨2, 4, []⟩] :=
  (least_is (f := [6, 6, 6, 5, 3, 3, 3, 2, 0]) (g := [4, 3, 2, 1, 4, 3, 2, 1]) (r := [(4, true), (4, true)]) (by decide +kernel) ht hm).trans (by rfl)
theorem ex3 {F : Nat → Int} {G : Nat → Nat} {l : List Part} (ht : Tab exB [97, 98] F G 0) (hm : Mk exB [97, 98] F G 0 l) : l = [⟨0, 2, []⟩] :=
  (least_is (f := [3, 2, 0]) (g := [2, 1]) (r := [(2, true)]) (by decide +kernel) ht hm).trans (by rfl)
theorem ex4 {F : Nat → Int} {G : Nat → Nat} {l : List Part} (ht : Tab exB [97] F G 0) (hm : Mk exB [97] F G 0 l) : l = [⟨0, 0, [97]⟩] :=
  (least_is (f := [2, 0]) (g := [1]) (r := [(1, false)]) (by decide +kernel) ht hm).trans (by rfl)
end Dl
end Go.Proofs.Ytjgijpfknhfnjaa
