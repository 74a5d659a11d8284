/- The reference's front, back and Common, walked. Own work. Written by genln_re.py. -/
import Derived.Test.YtegnkmfdchljkaaLnRefC
import Derived.Test.YtegnkmfdchljkaaLnFunC
import Derived.Test.YtegnkmfdchljkaaLnConc
set_option linter.unusedVariables false
set_option linter.unusedSimpArgs false
namespace Go.Proofs.Ytegnkmfdchljkaa
open Go.RowKit

theorem Ln.front_zl {a b : List (List UInt8)} (h : a = []) : Ln.front a b = 0 := by subst h; exact Ln.front_nil_l b
theorem Ln.front_zr {a b : List (List UInt8)} (h : b = []) : Ln.front a b = 0 := by subst h; exact Ln.front_nil_r a
theorem Ln.front_step {a b : List (List UInt8)} (ha : 0 < a.length) (hb : 0 < b.length) : Ln.front a b = if a[0] = b[0] then Ln.front (a.drop 1) (b.drop 1) + 1 else 0 := by
  cases a with
  | nil => simp at ha
  | cons x a =>
    cases b with
    | nil => simp at hb
    | cons y b => simp only [Ln.front, List.getElem_cons_zero, List.drop_succ_cons, List.drop_zero]
/-- How many lines are the same from the last one on. -/
def Ln.bk (a b : List (List UInt8)) : Nat := Ln.front a.reverse b.reverse
theorem Ln.bk_zl {a b : List (List UInt8)} (h : a = []) : Ln.bk a b = 0 := by subst h; exact Ln.front_nil_l _
theorem Ln.bk_zr {a b : List (List UInt8)} (h : b = []) : Ln.bk a b = 0 := by subst h; exact Ln.front_nil_r _
theorem Ln.bk_step {a b : List (List UInt8)} {i j : Nat} (ha : a.length = i + 1) (hb : b.length = j + 1) : Ln.bk a b = if a[i] = b[j] then Ln.bk (a.take i) (b.take j) + 1 else 0 := by
  unfold Ln.bk
  rw [Ln.front_step (by simp; omega) (by simp; omega)]
  have e1 : a.reverse[0]'(by simp; omega) = a[i] := by rw [List.getElem_reverse]; congr 1; omega
  have e2 : b.reverse[0]'(by simp; omega) = b[j] := by rw [List.getElem_reverse]; congr 1; omega
  have e3 : a.length - 1 = i := by omega
  have e4 : b.length - 1 = j := by omega
  rw [e1, e2, List.drop_reverse, List.drop_reverse, e3, e4]
theorem Ln.back_bk (a b : List (List UInt8)) : Ln.back a b = Ln.bk (a.drop (Ln.front a b)) (b.drop (Ln.front a b)) := rfl
set_option maxHeartbeats 8000000 in
set_option maxRecDepth 100000 in
theorem rfront_any : ∀ (n : Nat) (ps qs : List ByteArray) (A B : Option Addr) (c d : Nat) (w : World), ps.length = n → SM w A c ps → SM w B d qs → Calls Try.prog 12 #[.slice A ps.length c, .slice B qs.length d] w fun e w' => e = .returned (.int .i64 (Ln.front (Ln.L ps) (Ln.L qs) : Nat)) ∧ Ab w w' := by
  intro n
  induction n with
  | zero =>
    intro ps qs A B c d w hn hp hq
    have HE : Hid (Ln.front (Ln.L ps) (Ln.L qs) = 0) := Ln.front_zl (by simp; exact List.eq_nil_of_length_eq_zero hn)
    generalize Ln.front (Ln.L ps) (Ln.L qs) = mm at *
    have z1 : (ps.length : Int) = 0 := by omega
    have hxy' : True := trivial
    clear hp hq hn
    generalize ps.length = k1 at *
    go_enter Try.func12, Try.ntmps12
    go_wp2_with fail
    refine wp_region_held_drew (by kernel_rfl) (S := fun w' => True) ?_ (fun hHeld => ?_)
    · trivial
    (refine rtA 0 ?_ ?_
     (try simp only [Act.put, stA, st0, st1]))
    (refine rtA 1 ?_ ?_
     (try simp only [Act.put, stA, st0, st1]))
    (try simp only [Act.put, List.getElem_toArray, List.getElem_cons_succ, List.getElem_cons_zero, stA, st0, st1])
    (refine rtA 2 (.bool true) ?_ (hy := by intro w hSw; (try rw [decide_eq_true z1]); go_simp; (first | with_reducible rfl | exact hxy' | exact zp | exact zq | skip)); (try simp only [Act.put, stA, st0, st1]))
    (refine rtA 3 ?_ ?_
     (try simp only [Act.put, stA, st0, st1]))
    (refine rtS 4 ?_
     (try simp only [Act.put, stA, st0, st1]))
    (refine rtS 5 ?_
     (try simp only [Act.put, stA, st0, st1]))
    (refine rtS 6 ?_
     (try simp only [Act.put, stA, st0, st1]))
    (try simp only [Act.put, List.getElem_toArray, List.getElem_cons_succ, List.getElem_cons_zero, stA, st0, st1])
    (refine rtA 7 (.bool true) ?_ (hy := by intro w hSw; go_simp; (first | with_reducible rfl | exact hxy' | exact zp | exact zq | skip)); (try simp only [Act.put, stA, st0, st1]))
    (refine rtA 8 ?_ ?_
     (try simp only [Act.put, stA, st0, st1]))
    (refine rtS 9 ?_
     (try simp only [Act.put, stA, st0, st1]))
    (refine rtS 10 ?_
     (try simp only [Act.put, stA, st0, st1]))
    (refine rtS 11 ?_
     (try simp only [Act.put, stA, st0, st1]))
    (refine rtS 12 ?_
     (try simp only [Act.put, stA, st0, st1]))
    (refine rtS 13 ?_
     (try simp only [Act.put, stA, st0, st1]))
    (refine rtS 14 ?_
     (try simp only [Act.put, stA, st0, st1]))
    (refine rtS 15 ?_
     (try simp only [Act.put, stA, st0, st1]))
    (try simp only [Act.put, List.getElem_toArray, List.getElem_cons_succ, List.getElem_cons_zero, stA, st0, st1])
    (refine rtA 16 (.bool true) ?_ (hy := by intro w hSw; go_simp; (first | with_reducible rfl | exact hxy' | exact zp | exact zq | skip)); (try simp only [Act.put, stA, st0, st1]))
    (try simp only [Act.put, List.getElem_toArray, List.getElem_cons_succ, List.getElem_cons_zero, stA, st0, st1])
    refine wpAnyH_done (by kernel_rfl) ?_ _
    (try simp only [Act.put, List.getElem_toArray, List.getElem_cons_succ, List.getElem_cons_zero, stA, st0, st1])
    go_wp2
    go_ret
    exact ⟨by rw [HE.out]; rfl, by exact abA⟩
  | succ n ih =>
    intro ps qs A B c d w hn hp hq
    have z1 : ¬ (ps.length : Int) = 0 := by omega
    have zp : ¬ ps = [] := by intro e; rw [e] at hn; simp at hn
    by_cases h2 : qs.length = 0
    · have HE : Hid (Ln.front (Ln.L ps) (Ln.L qs) = 0) := Ln.front_zr (by simp; exact List.eq_nil_of_length_eq_zero h2)
      generalize Ln.front (Ln.L ps) (Ln.L qs) = mm at *
      have z2 : (qs.length : Int) = 0 := by omega
      have hxy' : True := trivial
      clear hp hq hn h2 ih
      generalize qs.length = k2 at *
      go_enter Try.func12, Try.ntmps12
      go_wp2_with fail
      refine wp_region_held_drew (by kernel_rfl) (S := fun w' => True) ?_ (fun hHeld => ?_)
      · trivial
      (refine rtA 0 ?_ ?_
       (try simp only [Act.put, stA, st0, st1]))
      (refine rtA 1 ?_ ?_
       (try simp only [Act.put, stA, st0, st1]))
      (try simp only [Act.put, List.getElem_toArray, List.getElem_cons_succ, List.getElem_cons_zero, stA, st0, st1])
      (refine rtA 2 (.bool false) ?_ (hy := by intro w hSw; (try rw [decide_eq_false z1]); go_simp; (first | with_reducible rfl | exact hxy' | exact zp | exact zq | skip)); (try simp only [Act.put, stA, st0, st1]))
      (refine rtA 3 ?_ ?_
       (try simp only [Act.put, stA, st0, st1]))
      (refine rtA 4 ?_ ?_
       (try simp only [Act.put, stA, st0, st1]))
      (refine rtA 5 ?_ ?_
       (try simp only [Act.put, stA, st0, st1]))
      (try simp only [Act.put, List.getElem_toArray, List.getElem_cons_succ, List.getElem_cons_zero, stA, st0, st1])
      (refine rtA 6 (.bool true) ?_ (hy := by intro w hSw; (try rw [decide_eq_true z2]); go_simp; (first | with_reducible rfl | exact hxy' | exact zp | exact zq | skip)); (try simp only [Act.put, stA, st0, st1]))
      (try simp only [Act.put, List.getElem_toArray, List.getElem_cons_succ, List.getElem_cons_zero, stA, st0, st1])
      (refine rtA 7 (.bool true) ?_ (hy := by intro w hSw; go_simp; (first | with_reducible rfl | exact hxy' | exact zp | exact zq | skip)); (try simp only [Act.put, stA, st0, st1]))
      (refine rtA 8 ?_ ?_
       (try simp only [Act.put, stA, st0, st1]))
      (refine rtS 9 ?_
       (try simp only [Act.put, stA, st0, st1]))
      (refine rtS 10 ?_
       (try simp only [Act.put, stA, st0, st1]))
      (refine rtS 11 ?_
       (try simp only [Act.put, stA, st0, st1]))
      (refine rtS 12 ?_
       (try simp only [Act.put, stA, st0, st1]))
      (refine rtS 13 ?_
       (try simp only [Act.put, stA, st0, st1]))
      (refine rtS 14 ?_
       (try simp only [Act.put, stA, st0, st1]))
      (refine rtS 15 ?_
       (try simp only [Act.put, stA, st0, st1]))
      (try simp only [Act.put, List.getElem_toArray, List.getElem_cons_succ, List.getElem_cons_zero, stA, st0, st1])
      (refine rtA 16 (.bool true) ?_ (hy := by intro w hSw; go_simp; (first | with_reducible rfl | exact hxy' | exact zp | exact zq | skip)); (try simp only [Act.put, stA, st0, st1]))
      (try simp only [Act.put, List.getElem_toArray, List.getElem_cons_succ, List.getElem_cons_zero, stA, st0, st1])
      refine wpAnyH_done (by kernel_rfl) ?_ _
      (try simp only [Act.put, List.getElem_toArray, List.getElem_cons_succ, List.getElem_cons_zero, stA, st0, st1])
      go_wp2
      go_ret
      exact ⟨by rw [HE.out]; rfl, by exact abA⟩
    · have z2 : ¬ (qs.length : Int) = 0 := by omega
      have zq : ¬ qs = [] := by intro e; exact h2 (by rw [e]; rfl)
      obtain ⟨g, o, rfl, hR⟩ := hp.r (by omega)
      obtain ⟨g2, o2, rfl, hS⟩ := hq.r (by omega)
      have n1 : 0 < ps.length := by omega
      have n2 : 0 < qs.length := by omega
      have hpk := hp.k
      have hqk := hq.k
      have hpc := hp.n
      have hqc := hq.n
      have c0 : w.cell? ⟨g, o, none⟩ = some (.string ps[0]) := hR 0 n1
      have c1 : w.cell? ⟨g2, o2, none⟩ = some (.string qs[0]) := hS 0 n2
      have HS := Lib.hid (Ln.front_step (a := Ln.L ps) (b := Ln.L qs) (by simp; omega) (by simp; omega))
      have q1 : (0 : Int) < ps.length := by omega
      have q2 : (0 : Int) < qs.length := by omega
      have q3 : (1 : Int) ≤ ps.length := by omega
      have q4 : (1 : Int) ≤ qs.length := by omega
      have q5 : 1 ≤ ps.length := n1
      have q6 : 1 ≤ qs.length := n2
      by_cases hxy : ps[0] = qs[0]
      · have IH0 : ∀ (X Y : Option Addr), (c ≠ 1 → X = some ⟨g, o + 1, none⟩) → (d ≠ 1 → Y = some ⟨g2, o2 + 1, none⟩) → ∀ w', Ab w w' → Calls Try.prog 12 #[.slice X (ps.length - 1) (c - 1), .slice Y (qs.length - 1) (d - 1)] w' fun e w'' => e = .returned (.int .i64 (Ln.front ((Ln.L ps).drop 1) ((Ln.L qs).drop 1) : Nat)) ∧ Ab w' w'' := fun X Y hX hY w' hw => by
          have P := sm_sub hp 1 ps.length n1 (Nat.le_refl _) X (fun g' o' e h => by injection e with e; injection e with e1 e2; subst e1 e2; exact hX (by omega))
          have Q := sm_sub hq 1 qs.length n2 (Nat.le_refl _) Y (fun g' o' e h => by injection e with e; injection e with e1 e2; subst e1 e2; exact hY (by omega))
          rw [List.take_length] at P Q
          have G := ih _ _ X Y (c - 1) (d - 1) w' (by simp; omega) (P.ab hw) (Q.ab hw)
          have l1 : (ps.drop 1).length = ps.length - 1 := by simp
          have l2 : (qs.drop 1).length = qs.length - 1 := by simp
          have l3 : Ln.L (ps.drop 1) = (Ln.L ps).drop 1 := by unfold Ln.L; rw [List.map_drop]
          have l4 : Ln.L (qs.drop 1) = (Ln.L qs).drop 1 := by unfold Ln.L; rw [List.map_drop]
          rw [l1, l2, l3, l4] at G
          exact G
        have HE : Hid (Ln.front (Ln.L ps) (Ln.L qs) = Ln.front ((Ln.L ps).drop 1) ((Ln.L qs).drop 1) + 1) := by
          unfold Hid; rw [HS.out, if_pos (by simp only [Ln.L, List.getElem_map]; rw [hxy])]
        have hm : Ln.front ((Ln.L ps).drop 1) ((Ln.L qs).drop 1) ≤ 100000 := by have := (Ln.front_le ((Ln.L ps).drop 1) ((Ln.L qs).drop 1)).1; rw [List.length_drop, List.length_map] at this; omega
        have IH := IH0
        clear IH0 ih HS hR hS hp hq hn
        generalize Ln.front ((Ln.L ps).drop 1) ((Ln.L qs).drop 1) = m at *
        generalize Ln.front (Ln.L ps) (Ln.L qs) = mm at *
        have wm : IntKind.i64.wrap (1 + (m : Int)) = 1 + (m : Int) := IntWalk.i64_in _ (by omega)
        have hxy' : ps[0].toList = qs[0].toList := by rw [hxy]
        generalize ps[0] = x at *
        generalize qs[0] = y at *
        go_enter Try.func12, Try.ntmps12
        go_wp2_with fail
        refine wp_region_held_drew (by kernel_rfl) (S := fun w' => w'.cell? ⟨g, o, none⟩ = some (.string x) ∧ w'.cell? ⟨g2, o2, none⟩ = some (.string y)) ?_ (fun hHeld => ?_)
        · exact ⟨cell_drew c0, cell_drew c1⟩
        (refine rtA 0 ?_ ?_
         (try simp only [Act.put, stA, st0, st1]))
        (refine rtA 1 ?_ ?_
         (try simp only [Act.put, stA, st0, st1]))
        (try simp only [Act.put, List.getElem_toArray, List.getElem_cons_succ, List.getElem_cons_zero, stA, st0, st1])
        (refine rtA 2 (.bool false) ?_ (hy := by intro w hSw; (try rw [decide_eq_false z1]); go_simp; (first | with_reducible rfl | exact hxy' | exact zp | exact zq | skip)); (try simp only [Act.put, stA, st0, st1]))
        (refine rtA 3 ?_ ?_
         (try simp only [Act.put, stA, st0, st1]))
        (refine rtA 4 ?_ ?_
         (try simp only [Act.put, stA, st0, st1]))
        (refine rtA 5 ?_ ?_
         (try simp only [Act.put, stA, st0, st1]))
        (try simp only [Act.put, List.getElem_toArray, List.getElem_cons_succ, List.getElem_cons_zero, stA, st0, st1])
        (refine rtA 6 (.bool false) ?_ (hy := by intro w hSw; (try rw [decide_eq_false z2]); go_simp; (first | with_reducible rfl | exact hxy' | exact zp | exact zq | skip)); (try simp only [Act.put, stA, st0, st1]))
        (try simp only [Act.put, List.getElem_toArray, List.getElem_cons_succ, List.getElem_cons_zero, stA, st0, st1])
        (refine rtA 7 (.bool false) ?_ (hy := by intro w hSw; go_simp; (first | with_reducible rfl | exact hxy' | exact zp | exact zq | skip)); (try simp only [Act.put, stA, st0, st1]))
        (refine rtA 8 ?_ ?_
         (try simp only [Act.put, stA, st0, st1]))
        (refine rtA 9 ?_ ?_
         (try simp only [Act.put, stA, st0, st1]))
        (refine rtA 10 ?_ ?_
         (try simp only [Act.put, stA, st0, st1]))
        (try simp only [Act.put, List.getElem_toArray, List.getElem_cons_succ, List.getElem_cons_zero, stA, st0, st1])
        (refine rtA 11 (.string x) ?_ (hy := by intro w hSw; have z0 := hSw.1; go_simp; (first | with_reducible rfl | exact hxy' | exact zp | exact zq | skip)); (try simp only [Act.put, stA, st0, st1]))
        (refine rtA 12 ?_ ?_
         (try simp only [Act.put, stA, st0, st1]))
        (refine rtA 13 ?_ ?_
         (try simp only [Act.put, stA, st0, st1]))
        (try simp only [Act.put, List.getElem_toArray, List.getElem_cons_succ, List.getElem_cons_zero, stA, st0, st1])
        (refine rtA 14 (.string y) ?_ (hy := by intro w hSw; have z0 := hSw.2; go_simp; (first | with_reducible rfl | exact hxy' | exact zp | exact zq | skip)); (try simp only [Act.put, stA, st0, st1]))
        (try simp only [Act.put, List.getElem_toArray, List.getElem_cons_succ, List.getElem_cons_zero, stA, st0, st1])
        (refine rtA 15 (.bool false) ?_ (hy := by intro w hSw; go_simp; (first | with_reducible rfl | exact hxy' | exact zp | exact zq | skip)); (try simp only [Act.put, stA, st0, st1]))
        (try simp only [Act.put, List.getElem_toArray, List.getElem_cons_succ, List.getElem_cons_zero, stA, st0, st1])
        (refine rtA 16 (.bool false) ?_ (hy := by intro w hSw; go_simp; (first | with_reducible rfl | exact hxy' | exact zp | exact zq | skip)); (try simp only [Act.put, stA, st0, st1]))
        (try simp only [Act.put, List.getElem_toArray, List.getElem_cons_succ, List.getElem_cons_zero, stA, st0, st1])
        refine wpAnyH_done (by kernel_rfl) ?_ _
        (try simp only [Act.put, List.getElem_toArray, List.getElem_cons_succ, List.getElem_cons_zero, stA, st0, st1])
        go_wp2_with fail
        refine wp_region_held_drew (by kernel_rfl) (S := fun w' => True) ?_ (fun hHeld => ?_)
        · trivial
        (refine rtA 0 ?_ ?_
         (try simp only [Act.put, stA, st0, st1]))
        (try simp only [Act.put, List.getElem_toArray, List.getElem_cons_succ, List.getElem_cons_zero, stA, st0, st1])
        (refine rtA 1 ?_ ?_
         (try simp only [Act.put, stA, st0, st1]))
        (try simp only [Act.put, List.getElem_toArray, List.getElem_cons_succ, List.getElem_cons_zero, stA, st0, st1])
        obtain ⟨X, hX⟩ : ∃ X : Option Addr, X = if c = 1 then some ({ block := g, off := o } : Addr) else some { block := g, off := o + 1 } := ⟨_, rfl⟩
        rw [← hX]
        (refine rtA 2 ?_ ?_
         (try simp only [Act.put, stA, st0, st1]))
        (try simp only [Act.put, List.getElem_toArray, List.getElem_cons_succ, List.getElem_cons_zero, stA, st0, st1])
        (refine rtA 3 ?_ ?_
         (try simp only [Act.put, stA, st0, st1]))
        (try simp only [Act.put, List.getElem_toArray, List.getElem_cons_succ, List.getElem_cons_zero, stA, st0, st1])
        obtain ⟨Y, hY⟩ : ∃ Y : Option Addr, Y = if d = 1 then some ({ block := g2, off := o2 } : Addr) else some { block := g2, off := o2 + 1 } := ⟨_, rfl⟩
        rw [← hY]
        have C := IH X Y (fun h => by rw [hX, if_neg h]) (fun h => by rw [hY, if_neg h])
        clear hX hY IH
        refine r1A 4 (fun K hK => ?_)
        (go_simp
         (refine (C _ abA).mono ?_; rintro e w3 ⟨rfl, hb3⟩)
         (try go_wp2_with fail)
         (refine hK.out _ _ ?_ (fun hHeld => ?_)
          · (try dsimp only); (try trivial)
          clear hK K
          (try simp only [Act.put, stA, st0, st1])))
        (try simp only [Act.put, List.getElem_toArray, List.getElem_cons_succ, List.getElem_cons_zero, stA, st0, st1])
        (refine rtA 5 (.int .i64 (1 + (m : Int))) ?_ (hy := by intro w hSw; (try rw [wm]); go_simp; (first | with_reducible rfl | exact hxy' | exact zp | exact zq | skip)); (try simp only [Act.put, stA, st0, st1]))
        (refine rtA 6 ?_ ?_
         (try simp only [Act.put, stA, st0, st1]))
        (try simp only [Act.put, List.getElem_toArray, List.getElem_cons_succ, List.getElem_cons_zero, stA, st0, st1])
        refine wpAnyH_done (by kernel_rfl) ?_ _
        (try simp only [Act.put, List.getElem_toArray, List.getElem_cons_succ, List.getElem_cons_zero, stA, st0, st1])
        have hfin : (1 : Int) + (m : Int) = ((m + 1 : Nat) : Int) := by omega
        go_wp2
        go_ret
        exact ⟨by rw [HE.out]; exact congrArg (fun b => Ending.returned (Value.int .i64 b)) hfin, Ab.trans (by exact abA) hb3⟩
      · have HE : Hid (Ln.front (Ln.L ps) (Ln.L qs) = 0) := by
          unfold Hid; rw [HS.out, if_neg (by simp only [Ln.L, List.getElem_map]; exact fun e => hxy (ba_eq.1 e))]
        clear ih HS hR hS hp hq hn
        generalize Ln.front (Ln.L ps) (Ln.L qs) = mm at *
        have hxy' : ¬ ps[0].toList = qs[0].toList := fun e => hxy (ba_eq.1 (by rw [← ByteArray.toList_eq, ← ByteArray.toList_eq]; exact e))
        generalize ps[0] = x at *
        generalize qs[0] = y at *
        go_enter Try.func12, Try.ntmps12
        go_wp2_with fail
        refine wp_region_held_drew (by kernel_rfl) (S := fun w' => w'.cell? ⟨g, o, none⟩ = some (.string x) ∧ w'.cell? ⟨g2, o2, none⟩ = some (.string y)) ?_ (fun hHeld => ?_)
        · exact ⟨cell_drew c0, cell_drew c1⟩
        (refine rtA 0 ?_ ?_
         (try simp only [Act.put, stA, st0, st1]))
        (refine rtA 1 ?_ ?_
         (try simp only [Act.put, stA, st0, st1]))
        (try simp only [Act.put, List.getElem_toArray, List.getElem_cons_succ, List.getElem_cons_zero, stA, st0, st1])
        (refine rtA 2 (.bool false) ?_ (hy := by intro w hSw; (try rw [decide_eq_false z1]); go_simp; (first | with_reducible rfl | exact hxy' | exact zp | exact zq | skip)); (try simp only [Act.put, stA, st0, st1]))
        (refine rtA 3 ?_ ?_
         (try simp only [Act.put, stA, st0, st1]))
        (refine rtA 4 ?_ ?_
         (try simp only [Act.put, stA, st0, st1]))
        (refine rtA 5 ?_ ?_
         (try simp only [Act.put, stA, st0, st1]))
        (try simp only [Act.put, List.getElem_toArray, List.getElem_cons_succ, List.getElem_cons_zero, stA, st0, st1])
        (refine rtA 6 (.bool false) ?_ (hy := by intro w hSw; (try rw [decide_eq_false z2]); go_simp; (first | with_reducible rfl | exact hxy' | exact zp | exact zq | skip)); (try simp only [Act.put, stA, st0, st1]))
        (try simp only [Act.put, List.getElem_toArray, List.getElem_cons_succ, List.getElem_cons_zero, stA, st0, st1])
        (refine rtA 7 (.bool false) ?_ (hy := by intro w hSw; go_simp; (first | with_reducible rfl | exact hxy' | exact zp | exact zq | skip)); (try simp only [Act.put, stA, st0, st1]))
        (refine rtA 8 ?_ ?_
         (try simp only [Act.put, stA, st0, st1]))
        (refine rtA 9 ?_ ?_
         (try simp only [Act.put, stA, st0, st1]))
        (refine rtA 10 ?_ ?_
         (try simp only [Act.put, stA, st0, st1]))
        (try simp only [Act.put, List.getElem_toArray, List.getElem_cons_succ, List.getElem_cons_zero, stA, st0, st1])
        (refine rtA 11 (.string x) ?_ (hy := by intro w hSw; have z0 := hSw.1; go_simp; (first | with_reducible rfl | exact hxy' | exact zp | exact zq | skip)); (try simp only [Act.put, stA, st0, st1]))
        (refine rtA 12 ?_ ?_
         (try simp only [Act.put, stA, st0, st1]))
        (refine rtA 13 ?_ ?_
         (try simp only [Act.put, stA, st0, st1]))
        (try simp only [Act.put, List.getElem_toArray, List.getElem_cons_succ, List.getElem_cons_zero, stA, st0, st1])
        (refine rtA 14 (.string y) ?_ (hy := by intro w hSw; have z0 := hSw.2; go_simp; (first | with_reducible rfl | exact hxy' | exact zp | exact zq | skip)); (try simp only [Act.put, stA, st0, st1]))
        (try simp only [Act.put, List.getElem_toArray, List.getElem_cons_succ, List.getElem_cons_zero, stA, st0, st1])
        (refine rtA 15 (.bool true) ?_ (hy := by intro w hSw; go_simp; (first | with_reducible rfl | exact hxy' | exact zp | exact zq | skip)); (try simp only [Act.put, stA, st0, st1]))
        (try simp only [Act.put, List.getElem_toArray, List.getElem_cons_succ, List.getElem_cons_zero, stA, st0, st1])
        (refine rtA 16 (.bool true) ?_ (hy := by intro w hSw; go_simp; (first | with_reducible rfl | exact hxy' | exact zp | exact zq | skip)); (try simp only [Act.put, stA, st0, st1]))
        (try simp only [Act.put, List.getElem_toArray, List.getElem_cons_succ, List.getElem_cons_zero, stA, st0, st1])
        refine wpAnyH_done (by kernel_rfl) ?_ _
        (try simp only [Act.put, List.getElem_toArray, List.getElem_cons_succ, List.getElem_cons_zero, stA, st0, st1])
        go_wp2
        go_ret
        exact ⟨by rw [HE.out]; rfl, by exact abA⟩
set_option maxHeartbeats 8000000 in
set_option maxRecDepth 100000 in
theorem rback_any : ∀ (n : Nat) (ps qs : List ByteArray) (A B : Option Addr) (c d : Nat) (w : World), ps.length = n → SM w A c ps → SM w B d qs → Calls Try.prog 13 #[.slice A ps.length c, .slice B qs.length d] w fun e w' => e = .returned (.int .i64 (Ln.bk (Ln.L ps) (Ln.L qs) : Nat)) ∧ Ab w w' := by
  intro n
  induction n with
  | zero =>
    intro ps qs A B c d w hn hp hq
    have HE : Hid (Ln.bk (Ln.L ps) (Ln.L qs) = 0) := Ln.bk_zl (by simp; exact List.eq_nil_of_length_eq_zero hn)
    generalize Ln.bk (Ln.L ps) (Ln.L qs) = mm at *
    have z1 : (ps.length : Int) = 0 := by omega
    have hxy' : True := trivial
    clear hp hq hn
    generalize ps.length = k1 at *
    go_enter Try.func13, Try.ntmps13
    go_wp2_with fail
    refine wp_region_held_drew (by kernel_rfl) (S := fun w' => True) ?_ (fun hHeld => ?_)
    · trivial
    (refine rtA 0 ?_ ?_
     (try simp only [Act.put, stA, st0, st1]))
    (refine rtA 1 ?_ ?_
     (try simp only [Act.put, stA, st0, st1]))
    (try simp only [Act.put, List.getElem_toArray, List.getElem_cons_succ, List.getElem_cons_zero, stA, st0, st1])
    (refine rtA 2 (.bool true) ?_ (hy := by intro w hSw; (try rw [decide_eq_true z1]); go_simp; (first | with_reducible rfl | exact hxy' | exact zp | exact zq | skip)); (try simp only [Act.put, stA, st0, st1]))
    (refine rtA 3 ?_ ?_
     (try simp only [Act.put, stA, st0, st1]))
    (refine rtS 4 ?_
     (try simp only [Act.put, stA, st0, st1]))
    (refine rtS 5 ?_
     (try simp only [Act.put, stA, st0, st1]))
    (refine rtS 6 ?_
     (try simp only [Act.put, stA, st0, st1]))
    (try simp only [Act.put, List.getElem_toArray, List.getElem_cons_succ, List.getElem_cons_zero, stA, st0, st1])
    (refine rtA 7 (.bool true) ?_ (hy := by intro w hSw; go_simp; (first | with_reducible rfl | exact hxy' | exact zp | exact zq | skip)); (try simp only [Act.put, stA, st0, st1]))
    (refine rtA 8 ?_ ?_
     (try simp only [Act.put, stA, st0, st1]))
    (refine rtS 9 ?_
     (try simp only [Act.put, stA, st0, st1]))
    (refine rtS 10 ?_
     (try simp only [Act.put, stA, st0, st1]))
    (refine rtS 11 ?_
     (try simp only [Act.put, stA, st0, st1]))
    (refine rtS 12 ?_
     (try simp only [Act.put, stA, st0, st1]))
    (refine rtS 13 ?_
     (try simp only [Act.put, stA, st0, st1]))
    (refine rtS 14 ?_
     (try simp only [Act.put, stA, st0, st1]))
    (refine rtS 15 ?_
     (try simp only [Act.put, stA, st0, st1]))
    (refine rtS 16 ?_
     (try simp only [Act.put, stA, st0, st1]))
    (refine rtS 17 ?_
     (try simp only [Act.put, stA, st0, st1]))
    (refine rtS 18 ?_
     (try simp only [Act.put, stA, st0, st1]))
    (refine rtS 19 ?_
     (try simp only [Act.put, stA, st0, st1]))
    (refine rtS 20 ?_
     (try simp only [Act.put, stA, st0, st1]))
    (refine rtS 21 ?_
     (try simp only [Act.put, stA, st0, st1]))
    (try simp only [Act.put, List.getElem_toArray, List.getElem_cons_succ, List.getElem_cons_zero, stA, st0, st1])
    (refine rtA 22 (.bool true) ?_ (hy := by intro w hSw; go_simp; (first | with_reducible rfl | exact hxy' | exact zp | exact zq | skip)); (try simp only [Act.put, stA, st0, st1]))
    (try simp only [Act.put, List.getElem_toArray, List.getElem_cons_succ, List.getElem_cons_zero, stA, st0, st1])
    refine wpAnyH_done (by kernel_rfl) ?_ _
    (try simp only [Act.put, List.getElem_toArray, List.getElem_cons_succ, List.getElem_cons_zero, stA, st0, st1])
    go_wp2
    go_ret
    exact ⟨by rw [HE.out]; rfl, by exact abA⟩
  | succ n ih =>
    intro ps qs A B c d w hn hp hq
    have z1 : ¬ (ps.length : Int) = 0 := by omega
    have zp : ¬ ps = [] := by intro e; rw [e] at hn; simp at hn
    by_cases h2 : qs.length = 0
    · have HE : Hid (Ln.bk (Ln.L ps) (Ln.L qs) = 0) := Ln.bk_zr (by simp; exact List.eq_nil_of_length_eq_zero h2)
      generalize Ln.bk (Ln.L ps) (Ln.L qs) = mm at *
      have z2 : (qs.length : Int) = 0 := by omega
      have hxy' : True := trivial
      clear hp hq hn h2 ih
      generalize qs.length = k2 at *
      go_enter Try.func13, Try.ntmps13
      go_wp2_with fail
      refine wp_region_held_drew (by kernel_rfl) (S := fun w' => True) ?_ (fun hHeld => ?_)
      · trivial
      (refine rtA 0 ?_ ?_
       (try simp only [Act.put, stA, st0, st1]))
      (refine rtA 1 ?_ ?_
       (try simp only [Act.put, stA, st0, st1]))
      (try simp only [Act.put, List.getElem_toArray, List.getElem_cons_succ, List.getElem_cons_zero, stA, st0, st1])
      (refine rtA 2 (.bool false) ?_ (hy := by intro w hSw; (try rw [decide_eq_false z1]); go_simp; (first | with_reducible rfl | exact hxy' | exact zp | exact zq | skip)); (try simp only [Act.put, stA, st0, st1]))
      (refine rtA 3 ?_ ?_
       (try simp only [Act.put, stA, st0, st1]))
      (refine rtA 4 ?_ ?_
       (try simp only [Act.put, stA, st0, st1]))
      (refine rtA 5 ?_ ?_
       (try simp only [Act.put, stA, st0, st1]))
      (try simp only [Act.put, List.getElem_toArray, List.getElem_cons_succ, List.getElem_cons_zero, stA, st0, st1])
      (refine rtA 6 (.bool true) ?_ (hy := by intro w hSw; (try rw [decide_eq_true z2]); go_simp; (first | with_reducible rfl | exact hxy' | exact zp | exact zq | skip)); (try simp only [Act.put, stA, st0, st1]))
      (try simp only [Act.put, List.getElem_toArray, List.getElem_cons_succ, List.getElem_cons_zero, stA, st0, st1])
      (refine rtA 7 (.bool true) ?_ (hy := by intro w hSw; go_simp; (first | with_reducible rfl | exact hxy' | exact zp | exact zq | skip)); (try simp only [Act.put, stA, st0, st1]))
      (refine rtA 8 ?_ ?_
       (try simp only [Act.put, stA, st0, st1]))
      (refine rtS 9 ?_
       (try simp only [Act.put, stA, st0, st1]))
      (refine rtS 10 ?_
       (try simp only [Act.put, stA, st0, st1]))
      (refine rtS 11 ?_
       (try simp only [Act.put, stA, st0, st1]))
      (refine rtS 12 ?_
       (try simp only [Act.put, stA, st0, st1]))
      (refine rtS 13 ?_
       (try simp only [Act.put, stA, st0, st1]))
      (refine rtS 14 ?_
       (try simp only [Act.put, stA, st0, st1]))
      (refine rtS 15 ?_
       (try simp only [Act.put, stA, st0, st1]))
      (refine rtS 16 ?_
       (try simp only [Act.put, stA, st0, st1]))
      (refine rtS 17 ?_
       (try simp only [Act.put, stA, st0, st1]))
      (refine rtS 18 ?_
       (try simp only [Act.put, stA, st0, st1]))
      (refine rtS 19 ?_
       (try simp only [Act.put, stA, st0, st1]))
      (refine rtS 20 ?_
       (try simp only [Act.put, stA, st0, st1]))
      (refine rtS 21 ?_
       (try simp only [Act.put, stA, st0, st1]))
      (try simp only [Act.put, List.getElem_toArray, List.getElem_cons_succ, List.getElem_cons_zero, stA, st0, st1])
      (refine rtA 22 (.bool true) ?_ (hy := by intro w hSw; go_simp; (first | with_reducible rfl | exact hxy' | exact zp | exact zq | skip)); (try simp only [Act.put, stA, st0, st1]))
      (try simp only [Act.put, List.getElem_toArray, List.getElem_cons_succ, List.getElem_cons_zero, stA, st0, st1])
      refine wpAnyH_done (by kernel_rfl) ?_ _
      (try simp only [Act.put, List.getElem_toArray, List.getElem_cons_succ, List.getElem_cons_zero, stA, st0, st1])
      go_wp2
      go_ret
      exact ⟨by rw [HE.out]; rfl, by exact abA⟩
    · have z2 : ¬ (qs.length : Int) = 0 := by omega
      have zq : ¬ qs = [] := by intro e; exact h2 (by rw [e]; rfl)
      obtain ⟨g, o, rfl, hR⟩ := hp.r (by omega)
      obtain ⟨g2, o2, rfl, hS⟩ := hq.r (by omega)
      have n1 : 0 < ps.length := by omega
      have n2 : 0 < qs.length := by omega
      have hpk := hp.k
      have hqk := hq.k
      have hpc := hp.n
      have hqc := hq.n
      obtain ⟨i1, hi1⟩ : ∃ i1, ps.length = i1 + 1 := ⟨ps.length - 1, by omega⟩
      obtain ⟨i2, hi2⟩ : ∃ i2, qs.length = i2 + 1 := ⟨qs.length - 1, by omega⟩
      have g1 : i1 < ps.length := by omega
      have g2' : i2 < qs.length := by omega
      have c0 := hR i1 g1
      have c1 := hS i2 g2'
      have HS := Lib.hid (Ln.bk_step (a := Ln.L ps) (b := Ln.L qs) (i := i1) (j := i2) (by simpa using hi1) (by simpa using hi2))
      have wp1 : IntKind.i64.wrap ((ps.length : Int) - 1) = (i1 : Int) := by rw [IntWalk.i64_in _ (by omega)]; omega
      have wq1 : IntKind.i64.wrap ((qs.length : Int) - 1) = (i2 : Int) := by rw [IntWalk.i64_in _ (by omega)]; omega
      have q1 : (i1 : Int) < ps.length := by omega
      have q2 : (i2 : Int) < qs.length := by omega
      have q3 : i1 ≤ c := by omega
      have q4 : i2 ≤ d := by omega
      have e1 : (Ln.L ps)[i1]'(by simp; omega) = ps[i1].data.toList := by simp [Ln.L]
      have e2 : (Ln.L qs)[i2]'(by simp; omega) = qs[i2].data.toList := by simp [Ln.L]
      by_cases hxy : ps[i1] = qs[i2]
      · have IH : ∀ w', Ab w w' → Calls Try.prog 13 #[.slice (some ⟨g, o, none⟩) i1 c, .slice (some ⟨g2, o2, none⟩) i2 d] w' fun e w'' => e = .returned (.int .i64 (Ln.bk ((Ln.L ps).take i1) ((Ln.L qs).take i2) : Nat)) ∧ Ab w' w'' := fun w' hw => by
          have P := sm_sub hp 0 i1 (Nat.zero_le _) (by omega) (some ⟨g, o, none⟩) (fun g' o' e _ => by injection e with e; injection e with e1 e2; subst e1 e2; rfl)
          have Q := sm_sub hq 0 i2 (Nat.zero_le _) (by omega) (some ⟨g2, o2, none⟩) (fun g' o' e _ => by injection e with e; injection e with e1 e2; subst e1 e2; rfl)
          rw [List.drop_zero, Nat.sub_zero] at P Q
          have G := ih _ _ _ _ c d w' (by simp; omega) (P.ab hw) (Q.ab hw)
          have l1 : (ps.take i1).length = i1 := by simp; omega
          have l2 : (qs.take i2).length = i2 := by simp; omega
          have l3 : Ln.L (ps.take i1) = (Ln.L ps).take i1 := by unfold Ln.L; rw [List.map_take]
          have l4 : Ln.L (qs.take i2) = (Ln.L qs).take i2 := by unfold Ln.L; rw [List.map_take]
          rw [l1, l2, l3, l4] at G
          exact G
        have HE : Hid (Ln.bk (Ln.L ps) (Ln.L qs) = Ln.bk ((Ln.L ps).take i1) ((Ln.L qs).take i2) + 1) := by
          unfold Hid; rw [HS.out, if_pos (by rw [e1, e2, hxy])]
        have hm : Ln.bk ((Ln.L ps).take i1) ((Ln.L qs).take i2) ≤ 100000 := by have := (Ln.front_le ((Ln.L ps).take i1).reverse ((Ln.L qs).take i2).reverse).1; unfold Ln.bk; simp at this ⊢; omega
        clear ih HS hR hS hp hq hn e1 e2 hi1 hi2
        generalize Ln.bk ((Ln.L ps).take i1) ((Ln.L qs).take i2) = m at *
        generalize Ln.bk (Ln.L ps) (Ln.L qs) = mm at *
        have wm : IntKind.i64.wrap (1 + (m : Int)) = 1 + (m : Int) := IntWalk.i64_in _ (by omega)
        have hxy' : ps[i1].toList = qs[i2].toList := by rw [hxy]
        generalize ps[i1] = x at *
        generalize qs[i2] = y at *
        go_enter Try.func13, Try.ntmps13
        go_wp2_with fail
        refine wp_region_held_drew (by kernel_rfl) (S := fun w' => w'.cell? ⟨g, o + i1, none⟩ = some (.string x) ∧ w'.cell? ⟨g2, o2 + i2, none⟩ = some (.string y)) ?_ (fun hHeld => ?_)
        · exact ⟨cell_drew c0, cell_drew c1⟩
        (refine rtA 0 ?_ ?_
         (try simp only [Act.put, stA, st0, st1]))
        (refine rtA 1 ?_ ?_
         (try simp only [Act.put, stA, st0, st1]))
        (try simp only [Act.put, List.getElem_toArray, List.getElem_cons_succ, List.getElem_cons_zero, stA, st0, st1])
        (refine rtA 2 (.bool false) ?_ (hy := by intro w hSw; (try rw [decide_eq_false z1]); go_simp; (first | with_reducible rfl | exact hxy' | exact zp | exact zq | skip)); (try simp only [Act.put, stA, st0, st1]))
        (refine rtA 3 ?_ ?_
         (try simp only [Act.put, stA, st0, st1]))
        (refine rtA 4 ?_ ?_
         (try simp only [Act.put, stA, st0, st1]))
        (refine rtA 5 ?_ ?_
         (try simp only [Act.put, stA, st0, st1]))
        (try simp only [Act.put, List.getElem_toArray, List.getElem_cons_succ, List.getElem_cons_zero, stA, st0, st1])
        (refine rtA 6 (.bool false) ?_ (hy := by intro w hSw; (try rw [decide_eq_false z2]); go_simp; (first | with_reducible rfl | exact hxy' | exact zp | exact zq | skip)); (try simp only [Act.put, stA, st0, st1]))
        (try simp only [Act.put, List.getElem_toArray, List.getElem_cons_succ, List.getElem_cons_zero, stA, st0, st1])
        (refine rtA 7 (.bool false) ?_ (hy := by intro w hSw; go_simp; (first | with_reducible rfl | exact hxy' | exact zp | exact zq | skip)); (try simp only [Act.put, stA, st0, st1]))
        (refine rtA 8 ?_ ?_
         (try simp only [Act.put, stA, st0, st1]))
        (refine rtA 9 ?_ ?_
         (try simp only [Act.put, stA, st0, st1]))
        (refine rtA 10 ?_ ?_
         (try simp only [Act.put, stA, st0, st1]))
        (refine rtA 11 ?_ ?_
         (try simp only [Act.put, stA, st0, st1]))
        (try simp only [Act.put, List.getElem_toArray, List.getElem_cons_succ, List.getElem_cons_zero, stA, st0, st1])
        (refine rtA 12 (.int .i64 (i1 : Int)) ?_ (hy := by intro w hSw; (try rw [wp1]); go_simp; (first | with_reducible rfl | exact hxy' | exact zp | exact zq | skip)); (try simp only [Act.put, stA, st0, st1]))
        (refine rtA 13 ?_ ?_
         (try simp only [Act.put, stA, st0, st1]))
        (try simp only [Act.put, List.getElem_toArray, List.getElem_cons_succ, List.getElem_cons_zero, stA, st0, st1])
        (refine rtA 14 (.string x) ?_ (hy := by intro w hSw; have z0 := hSw.1; go_simp; (first | with_reducible rfl | exact hxy' | exact zp | exact zq | skip)); (try simp only [Act.put, stA, st0, st1]))
        (refine rtA 15 ?_ ?_
         (try simp only [Act.put, stA, st0, st1]))
        (refine rtA 16 ?_ ?_
         (try simp only [Act.put, stA, st0, st1]))
        (refine rtA 17 ?_ ?_
         (try simp only [Act.put, stA, st0, st1]))
        (try simp only [Act.put, List.getElem_toArray, List.getElem_cons_succ, List.getElem_cons_zero, stA, st0, st1])
        (refine rtA 18 (.int .i64 (i2 : Int)) ?_ (hy := by intro w hSw; (try rw [wq1]); go_simp; (first | with_reducible rfl | exact hxy' | exact zp | exact zq | skip)); (try simp only [Act.put, stA, st0, st1]))
        (refine rtA 19 ?_ ?_
         (try simp only [Act.put, stA, st0, st1]))
        (try simp only [Act.put, List.getElem_toArray, List.getElem_cons_succ, List.getElem_cons_zero, stA, st0, st1])
        (refine rtA 20 (.string y) ?_ (hy := by intro w hSw; have z0 := hSw.2; go_simp; (first | with_reducible rfl | exact hxy' | exact zp | exact zq | skip)); (try simp only [Act.put, stA, st0, st1]))
        (try simp only [Act.put, List.getElem_toArray, List.getElem_cons_succ, List.getElem_cons_zero, stA, st0, st1])
        (refine rtA 21 (.bool false) ?_ (hy := by intro w hSw; go_simp; (first | with_reducible rfl | exact hxy' | exact zp | exact zq | skip)); (try simp only [Act.put, stA, st0, st1]))
        (try simp only [Act.put, List.getElem_toArray, List.getElem_cons_succ, List.getElem_cons_zero, stA, st0, st1])
        (refine rtA 22 (.bool false) ?_ (hy := by intro w hSw; go_simp; (first | with_reducible rfl | exact hxy' | exact zp | exact zq | skip)); (try simp only [Act.put, stA, st0, st1]))
        (try simp only [Act.put, List.getElem_toArray, List.getElem_cons_succ, List.getElem_cons_zero, stA, st0, st1])
        refine wpAnyH_done (by kernel_rfl) ?_ _
        (try simp only [Act.put, List.getElem_toArray, List.getElem_cons_succ, List.getElem_cons_zero, stA, st0, st1])
        go_wp2_with fail
        refine wp_region_held_drew (by kernel_rfl) (S := fun w' => True) ?_ (fun hHeld => ?_)
        · trivial
        (refine rtA 0 ?_ ?_
         (try simp only [Act.put, stA, st0, st1]))
        (refine rtA 1 ?_ ?_
         (try simp only [Act.put, stA, st0, st1]))
        (refine rtA 2 ?_ ?_
         (try simp only [Act.put, stA, st0, st1]))
        (try simp only [Act.put, List.getElem_toArray, List.getElem_cons_succ, List.getElem_cons_zero, stA, st0, st1])
        (refine rtA 3 (.int .i64 (i1 : Int)) ?_ (hy := by intro w hSw; (try rw [wp1]); go_simp; (first | with_reducible rfl | exact hxy' | exact zp | exact zq | skip)); (try simp only [Act.put, stA, st0, st1]))
        (refine rtA 4 ?_ ?_
         (try simp only [Act.put, stA, st0, st1]))
        (try simp only [Act.put, List.getElem_toArray, List.getElem_cons_succ, List.getElem_cons_zero, stA, st0, st1])
        (refine rtA 5 ?_ ?_
         (try simp only [Act.put, stA, st0, st1]))
        (refine rtA 6 ?_ ?_
         (try simp only [Act.put, stA, st0, st1]))
        (refine rtA 7 ?_ ?_
         (try simp only [Act.put, stA, st0, st1]))
        (try simp only [Act.put, List.getElem_toArray, List.getElem_cons_succ, List.getElem_cons_zero, stA, st0, st1])
        (refine rtA 8 (.int .i64 (i2 : Int)) ?_ (hy := by intro w hSw; (try rw [wq1]); go_simp; (first | with_reducible rfl | exact hxy' | exact zp | exact zq | skip)); (try simp only [Act.put, stA, st0, st1]))
        (refine rtA 9 ?_ ?_
         (try simp only [Act.put, stA, st0, st1]))
        (try simp only [Act.put, List.getElem_toArray, List.getElem_cons_succ, List.getElem_cons_zero, stA, st0, st1])
        refine r1A 10 (fun K hK => ?_)
        (go_simp
         (refine (IH _ abA).mono ?_; rintro e w3 ⟨rfl, hb3⟩)
         (try go_wp2_with fail)
         (refine hK.out _ _ ?_ (fun hHeld => ?_)
          · (try dsimp only); (try trivial)
          clear hK K
          (try simp only [Act.put, stA, st0, st1])))
        (try simp only [Act.put, List.getElem_toArray, List.getElem_cons_succ, List.getElem_cons_zero, stA, st0, st1])
        (refine rtA 11 (.int .i64 (1 + (m : Int))) ?_ (hy := by intro w hSw; (try rw [wm]); go_simp; (first | with_reducible rfl | exact hxy' | exact zp | exact zq | skip)); (try simp only [Act.put, stA, st0, st1]))
        (refine rtA 12 ?_ ?_
         (try simp only [Act.put, stA, st0, st1]))
        (try simp only [Act.put, List.getElem_toArray, List.getElem_cons_succ, List.getElem_cons_zero, stA, st0, st1])
        refine wpAnyH_done (by kernel_rfl) ?_ _
        (try simp only [Act.put, List.getElem_toArray, List.getElem_cons_succ, List.getElem_cons_zero, stA, st0, st1])
        have hfin : (1 : Int) + (m : Int) = ((m + 1 : Nat) : Int) := by omega
        go_wp2
        go_ret
        exact ⟨by rw [HE.out]; exact congrArg (fun b => Ending.returned (Value.int .i64 b)) hfin, Ab.trans (by exact abA) hb3⟩
      · have HE : Hid (Ln.bk (Ln.L ps) (Ln.L qs) = 0) := by
          unfold Hid; rw [HS.out, if_neg (by rw [e1, e2]; exact fun e => hxy (ba_eq.1 e))]
        clear ih HS hR hS hp hq hn e1 e2 hi1 hi2
        generalize Ln.bk (Ln.L ps) (Ln.L qs) = mm at *
        have hxy' : ¬ ps[i1].toList = qs[i2].toList := fun e => hxy (ba_eq.1 (by rw [← ByteArray.toList_eq, ← ByteArray.toList_eq]; exact e))
        generalize ps[i1] = x at *
        generalize qs[i2] = y at *
        go_enter Try.func13, Try.ntmps13
        go_wp2_with fail
        refine wp_region_held_drew (by kernel_rfl) (S := fun w' => w'.cell? ⟨g, o + i1, none⟩ = some (.string x) ∧ w'.cell? ⟨g2, o2 + i2, none⟩ = some (.string y)) ?_ (fun hHeld => ?_)
        · exact ⟨cell_drew c0, cell_drew c1⟩
        (refine rtA 0 ?_ ?_
         (try simp only [Act.put, stA, st0, st1]))
        (refine rtA 1 ?_ ?_
         (try simp only [Act.put, stA, st0, st1]))
        (try simp only [Act.put, List.getElem_toArray, List.getElem_cons_succ, List.getElem_cons_zero, stA, st0, st1])
        (refine rtA 2 (.bool false) ?_ (hy := by intro w hSw; (try rw [decide_eq_false z1]); go_simp; (first | with_reducible rfl | exact hxy' | exact zp | exact zq | skip)); (try simp only [Act.put, stA, st0, st1]))
        (refine rtA 3 ?_ ?_
         (try simp only [Act.put, stA, st0, st1]))
        (refine rtA 4 ?_ ?_
         (try simp only [Act.put, stA, st0, st1]))
        (refine rtA 5 ?_ ?_
         (try simp only [Act.put, stA, st0, st1]))
        (try simp only [Act.put, List.getElem_toArray, List.getElem_cons_succ, List.getElem_cons_zero, stA, st0, st1])
        (refine rtA 6 (.bool false) ?_ (hy := by intro w hSw; (try rw [decide_eq_false z2]); go_simp; (first | with_reducible rfl | exact hxy' | exact zp | exact zq | skip)); (try simp only [Act.put, stA, st0, st1]))
        (try simp only [Act.put, List.getElem_toArray, List.getElem_cons_succ, List.getElem_cons_zero, stA, st0, st1])
        (refine rtA 7 (.bool false) ?_ (hy := by intro w hSw; go_simp; (first | with_reducible rfl | exact hxy' | exact zp | exact zq | skip)); (try simp only [Act.put, stA, st0, st1]))
        (refine rtA 8 ?_ ?_
         (try simp only [Act.put, stA, st0, st1]))
        (refine rtA 9 ?_ ?_
         (try simp only [Act.put, stA, st0, st1]))
        (refine rtA 10 ?_ ?_
         (try simp only [Act.put, stA, st0, st1]))
        (refine rtA 11 ?_ ?_
         (try simp only [Act.put, stA, st0, st1]))
        (try simp only [Act.put, List.getElem_toArray, List.getElem_cons_succ, List.getElem_cons_zero, stA, st0, st1])
        (refine rtA 12 (.int .i64 (i1 : Int)) ?_ (hy := by intro w hSw; (try rw [wp1]); go_simp; (first | with_reducible rfl | exact hxy' | exact zp | exact zq | skip)); (try simp only [Act.put, stA, st0, st1]))
        (refine rtA 13 ?_ ?_
         (try simp only [Act.put, stA, st0, st1]))
        (try simp only [Act.put, List.getElem_toArray, List.getElem_cons_succ, List.getElem_cons_zero, stA, st0, st1])
        (refine rtA 14 (.string x) ?_ (hy := by intro w hSw; have z0 := hSw.1; go_simp; (first | with_reducible rfl | exact hxy' | exact zp | exact zq | skip)); (try simp only [Act.put, stA, st0, st1]))
        (refine rtA 15 ?_ ?_
         (try simp only [Act.put, stA, st0, st1]))
        (refine rtA 16 ?_ ?_
         (try simp only [Act.put, stA, st0, st1]))
        (refine rtA 17 ?_ ?_
         (try simp only [Act.put, stA, st0, st1]))
        (try simp only [Act.put, List.getElem_toArray, List.getElem_cons_succ, List.getElem_cons_zero, stA, st0, st1])
        (refine rtA 18 (.int .i64 (i2 : Int)) ?_ (hy := by intro w hSw; (try rw [wq1]); go_simp; (first | with_reducible rfl | exact hxy' | exact zp | exact zq | skip)); (try simp only [Act.put, stA, st0, st1]))
        (refine rtA 19 ?_ ?_
         (try simp only [Act.put, stA, st0, st1]))
        (try simp only [Act.put, List.getElem_toArray, List.getElem_cons_succ, List.getElem_cons_zero, stA, st0, st1])
        (refine rtA 20 (.string y) ?_ (hy := by intro w hSw; have z0 := hSw.2; go_simp; (first | with_reducible rfl | exact hxy' | exact zp | exact zq | skip)); (try simp only [Act.put, stA, st0, st1]))
        (try simp only [Act.put, List.getElem_toArray, List.getElem_cons_succ, List.getElem_cons_zero, stA, st0, st1])
        (refine rtA 21 (.bool true) ?_ (hy := by intro w hSw; go_simp; (first | with_reducible rfl | exact hxy' | exact zp | exact zq | skip)); (try simp only [Act.put, stA, st0, st1]))
        (try simp only [Act.put, List.getElem_toArray, List.getElem_cons_succ, List.getElem_cons_zero, stA, st0, st1])
        (refine rtA 22 (.bool true) ?_ (hy := by intro w hSw; go_simp; (first | with_reducible rfl | exact hxy' | exact zp | exact zq | skip)); (try simp only [Act.put, stA, st0, st1]))
        (try simp only [Act.put, List.getElem_toArray, List.getElem_cons_succ, List.getElem_cons_zero, stA, st0, st1])
        refine wpAnyH_done (by kernel_rfl) ?_ _
        (try simp only [Act.put, List.getElem_toArray, List.getElem_cons_succ, List.getElem_cons_zero, stA, st0, st1])
        go_wp2
        go_ret
        exact ⟨by rw [HE.out]; rfl, by exact abA⟩
set_option maxHeartbeats 8000000 in
set_option maxRecDepth 100000 in
theorem rcommon_any (A B : Option Addr) (c d : Nat) (ps qs : List ByteArray) (w : World) (hp : SM w A c ps) (hq : SM w B d qs) (hs : ∀ p ∈ ps, p.size ≤ 5000) (hs' : ∀ p ∈ qs, p.size ≤ 5000) : Calls Try.prog 6 #[.slice A ps.length c, .slice B qs.length d] w (RetCm w (Ln.L ps) (Ln.L qs)) := by
  have C := fun w' (hk : Ab w w') => rlines_any A c ps w' (hp.ab hk) hs
  have D := fun w' (hk : Ab w w') => rlines_any B d qs w' (hq.ab hk) hs'
  by_cases h1 : Ln.err (Ln.L ps) = 0
  · by_cases h2 : Ln.err (Ln.L qs) = 0
    · have HE : Hid (Ln.errs (Ln.L ps) (Ln.L qs) = 0) := by unfold Hid Ln.errs; rw [if_pos h1, h2]
      rw [h1] at C
      rw [h2] at D
      have n1 : 0 < ps.length := by
        have := (Ln.err_zero h1).2.2.1
        cases ps with
        | nil => exact absurd rfl this
        | cons x t => simp
      have n2 : 0 < qs.length := by
        have := (Ln.err_zero h2).2.2.1
        cases qs with
        | nil => exact absurd rfl this
        | cons x t => simp
      obtain ⟨g, o, rfl, hR⟩ := hp.r n1
      obtain ⟨g2, o2, rfl, hS⟩ := hq.r n2
      have hfl := Ln.front_le (Ln.L ps) (Ln.L qs)
      rw [List.length_map, List.length_map] at hfl
      obtain ⟨f, hf⟩ : ∃ f, f = Ln.front (Ln.L ps) (Ln.L qs) := ⟨_, rfl⟩
      rw [← hf] at hfl
      have hpc := hp.n
      have hqc := hq.n
      have CF : ∀ w', Ab w w' → Calls Try.prog 12 #[.slice (some ⟨g, o, none⟩) ps.length c, .slice (some ⟨g2, o2, none⟩) qs.length d] w' fun e w'' => e = .returned (.int .i64 (f : Int)) ∧ Ab w' w'' := fun w' hw => by rw [hf]; exact rfront_any _ ps qs _ _ c d w' rfl (hp.ab hw) (hq.ab hw)
      have CB : ∀ (X Y : Option Addr), (c ≠ f → X = some ⟨g, o + f, none⟩) → (d ≠ f → Y = some ⟨g2, o2 + f, none⟩) → ∀ w', Ab w w' → Calls Try.prog 13 #[.slice X (ps.length - f) (c - f), .slice Y (qs.length - f) (d - f)] w' fun e w'' => e = .returned (.int .i64 (Ln.back (Ln.L ps) (Ln.L qs) : Nat)) ∧ Ab w' w'' := fun X Y hX hY w' hw => by
        have P := sm_sub hp f ps.length hfl.1 (Nat.le_refl _) X (fun g' o' e h => by injection e with e; injection e with e1 e2; subst e1 e2; exact hX (by omega))
        have Q := sm_sub hq f qs.length hfl.2 (Nat.le_refl _) Y (fun g' o' e h => by injection e with e; injection e with e1 e2; subst e1 e2; exact hY (by omega))
        rw [List.take_length] at P Q
        have G := rback_any _ _ _ X Y (c - f) (d - f) w' rfl (P.ab hw) (Q.ab hw)
        have l1 : (ps.drop f).length = ps.length - f := by simp
        have l2 : (qs.drop f).length = qs.length - f := by simp
        have l3 : Ln.L (ps.drop f) = (Ln.L ps).drop f := by unfold Ln.L; rw [List.map_drop]
        have l4 : Ln.L (qs.drop f) = (Ln.L qs).drop f := by unfold Ln.L; rw [List.map_drop]
        rw [l1, l2, l3, l4] at G
        rw [Ln.back_bk, ← hf]
        exact G
      have HF := Lib.hid hf
      have s1 : f ≤ ps.length := hfl.1
      have s2 : f ≤ qs.length := hfl.2
      have s3 : f ≤ c := by omega
      have s4 : f ≤ d := by omega
      have hxy' : True := trivial
      obtain ⟨k, hk⟩ : ∃ k, k = Ln.back (Ln.L ps) (Ln.L qs) := ⟨_, rfl⟩
      rw [← hk] at CB
      have HK := Lib.hid hk
      clear h1 h2 hp hq hs hs' hR hS hf hfl hk
      go_enter Try.func6, Try.ntmps6
      go_wp2_with fail
      refine (C _ abA).mono ?_
      rintro e w1 ⟨rfl, hb1⟩
      go_wp2_with fail
      refine (D _ abA).mono ?_
      rintro e w2 ⟨rfl, hb2⟩
      have B2 : Ab w w2 := hb1.trans hb2
      clear C D hb1 hb2
      go_wp2_with fail
      refine (CF _ abA).mono ?_
      rintro e w3 ⟨rfl, hb3⟩
      have B3 : Ab w w3 := Ab.trans (by exact abA) hb3
      clear CF hb3 B2
      go_wp2_with fail
      refine wp_region_held_drew (by kernel_rfl) (S := fun w' => True) ?_ (fun hHeld => ?_)
      · trivial
      (refine rtA 0 ?_ ?_
       (try simp only [Act.put, stA, st0, st1]))
      (refine rtA 1 ?_ ?_
       (try simp only [Act.put, stA, st0, st1]))
      (refine rtA 2 ?_ ?_
       (try simp only [Act.put, stA, st0, st1]))
      (try simp only [Act.put, List.getElem_toArray, List.getElem_cons_succ, List.getElem_cons_zero, stA, st0, st1])
      (refine rtA 3 ?_ ?_
       (try simp only [Act.put, stA, st0, st1]))
      (try simp only [Act.put, List.getElem_toArray, List.getElem_cons_succ, List.getElem_cons_zero, stA, st0, st1])
      obtain ⟨X, hX⟩ : ∃ X : Option Addr, X = if c = f then some ({ block := g, off := o } : Addr) else some { block := g, off := o + f } := ⟨_, rfl⟩
      rw [← hX]
      (refine rtA 4 ?_ ?_
       (try simp only [Act.put, stA, st0, st1]))
      (refine rtA 5 ?_ ?_
       (try simp only [Act.put, stA, st0, st1]))
      (try simp only [Act.put, List.getElem_toArray, List.getElem_cons_succ, List.getElem_cons_zero, stA, st0, st1])
      (refine rtA 6 ?_ ?_
       (try simp only [Act.put, stA, st0, st1]))
      (try simp only [Act.put, List.getElem_toArray, List.getElem_cons_succ, List.getElem_cons_zero, stA, st0, st1])
      obtain ⟨Y, hY⟩ : ∃ Y : Option Addr, Y = if d = f then some ({ block := g2, off := o2 } : Addr) else some { block := g2, off := o2 + f } := ⟨_, rfl⟩
      rw [← hY]
      have C := CB X Y (fun h => by rw [hX, if_neg h]) (fun h => by rw [hY, if_neg h])
      clear hX hY CB
      refine r1A 7 (fun K hK => ?_)
      (go_simp
       (refine (C _ abA).mono ?_; rintro e w4 ⟨rfl, hb4⟩)
       (try go_wp2_with fail)
       (refine hK.out _ _ ?_ (fun hHeld => ?_)
        · (try dsimp only); (try trivial)
        clear hK K
        (try simp only [Act.put, stA, st0, st1])))
      (refine rtA 8 ?_ ?_
       (try simp only [Act.put, stA, st0, st1]))
      (refine rtA 9 ?_ ?_
       (try simp only [Act.put, stA, st0, st1]))
      (refine rtA 10 ?_ ?_
       (try simp only [Act.put, stA, st0, st1]))
      (try simp only [Act.put, List.getElem_toArray, List.getElem_cons_succ, List.getElem_cons_zero, stA, st0, st1])
      refine wpAnyH_done (by kernel_rfl) ?_ _
      (try simp only [Act.put, List.getElem_toArray, List.getElem_cons_succ, List.getElem_cons_zero, stA, st0, st1])
      go_wp2
      go_ret3
      exact ⟨by unfold Ln.comF Ln.comB; rw [if_pos HE.out, if_pos HE.out, HE.out, ← HF.out, ← HK.out]; rfl, Ab.trans (by exact abA) hb4⟩
    · have hz : ¬ (Ln.err (Ln.L qs) : Int) = 0 := by omega
      have HE : Hid (Ln.errs (Ln.L ps) (Ln.L qs) = Ln.err (Ln.L qs)) := by unfold Hid Ln.errs; rw [if_pos h1]
      have HZ := Lib.hid h2
      rw [h1] at C
      clear h1 h2 hp hq hs hs'
      generalize Ln.err (Ln.L qs) = n at *
      go_enter Try.func6, Try.ntmps6
      go_wp2_with fail
      refine (C _ abA).mono ?_
      rintro e w1 ⟨rfl, hb1⟩
      go_wp2_with fail
      refine (D _ abA).mono ?_
      rintro e w2 ⟨rfl, hb2⟩
      go_wp2_with fail
      refine (D _ (hb1.trans hb2)).mono ?_
      rintro e w3 ⟨rfl, hb3⟩
      go_wp2
      go_ret3
      exact ⟨by unfold Ln.comF Ln.comB; rw [HE.out, if_neg HZ.out, if_neg HZ.out]; rfl, (hb1.trans hb2).trans hb3⟩
  · have hz : ¬ (Ln.err (Ln.L ps) : Int) = 0 := by omega
    have HE : Hid (Ln.errs (Ln.L ps) (Ln.L qs) = Ln.err (Ln.L ps)) := by unfold Hid Ln.errs; rw [if_neg h1]
    have HZ := Lib.hid h1
    clear h1 hp hq D hs hs'
    generalize Ln.err (Ln.L ps) = n at *
    go_enter Try.func6, Try.ntmps6
    go_wp2_with fail
    refine (C _ abA).mono ?_
    rintro e w1 ⟨rfl, hb1⟩
    go_wp2_with fail
    refine (C _ hb1).mono ?_
    rintro e w2 ⟨rfl, hb2⟩
    go_wp2
    go_ret3
    exact ⟨by unfold Ln.comF Ln.comB; rw [HE.out, if_neg HZ.out, if_neg HZ.out]; rfl, hb1.trans hb2⟩
end Go.Proofs.Ytegnkmfdchljkaa
