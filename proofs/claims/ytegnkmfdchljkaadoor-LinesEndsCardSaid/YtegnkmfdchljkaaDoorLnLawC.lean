/- LinesEnds, walked. Own work. Written by genln_le.py. -/
import Derived.Test.YtegnkmfdchljkaaDoorLnAlive
import Derived.Test.YtegnkmfdchljkaaDoorLnRefC
set_option linter.unusedVariables false
set_option linter.unusedSimpArgs false
namespace Go.Proofs.YtegnkmfdchljkaaDoor
open Go.RowKit

set_option maxHeartbeats 16000000 in
set_option maxRecDepth 100000 in
theorem lends_walk (A B : Option Addr) (c d : Nat) (ps qs : List ByteArray) (w : World) (ha : SO w A c ps) (hb : SO w B d qs) :
    Calls Tryd.prog 6 #[.slice A ps.length c, .slice B qs.length d] w (RetTrue w) := by
  have C1 := fun w' => lalive_any w'
  have L1 := fun w' (hk : Ab w w') => rlong_any A c ps w' (ha.ab hk)
  have L2 := fun w' (hk : Ab w w') => rlong_any B d qs w' (hb.ab hk)
  go_enter Tryd.func6, Tryd.ntmps6
  go_wp2_with fail
  refine (C1 _).mono ?_
  rintro e w1 ⟨rfl, hb1⟩
  go_wp2_with fail
  refine (L1 _ abA).mono ?_
  rintro e w2 ⟨q, rfl, hq, hb2⟩
  have B2 : Ab w w2 := Ab.trans (by exact abA) hb2
  clear C1 L1 hb1 hb2
  cases q with
  | true =>
    go_wp2
    go_ret
    exact ⟨rfl, by exact abA⟩
  | false =>
    have HA1 := hq rfl
    have HA := ha.sm HA1
    have HA2 := HA1.s
    clear hq ha HA1
    go_wp2_with fail
    refine (L2 _ abA).mono ?_
    rintro e w3 ⟨q, rfl, hq, hb3⟩
    have B3 : Ab w w3 := Ab.trans (by exact abA) hb3
    clear L2 hb3 B2
    cases q with
    | true =>
      go_wp2
      go_ret
      exact ⟨rfl, by exact abA⟩
    | false =>
      have HB1 := hq rfl
      have HB := hb.sm HB1
      have HB2 := HB1.s
      clear hq hb HB1
      have M1 := fun w' (hk : Ab w w') => rlines_any A c ps w' (HA.ab hk) (fun p hp => by have := HA2 p hp; omega)
      have M2 := fun w' (hk : Ab w w') => rlines_any B d qs w' (HB.ab hk) (fun p hp => by have := HB2 p hp; omega)
      clear HA2 HB2
      by_cases hE1 : Ln.err (Ln.L ps) = 0
      · rw [hE1] at M1
        go_wp2_with fail
        refine (M1 _ abA).mono ?_
        rintro e w4 ⟨rfl, hb4⟩
        have B4 : Ab w w4 := Ab.trans (by exact abA) hb4
        clear M1 hb4 B3
        by_cases hE2 : Ln.err (Ln.L qs) = 0
        · rw [hE2] at M2
          go_wp2_with fail
          refine (M2 _ abA).mono ?_
          rintro e w5 ⟨rfl, hb5⟩
          have B5 : Ab w w5 := Ab.trans (by exact abA) hb5
          clear M2 hb5 B4
          have hE0 : Ln.errs (Ln.L ps) (Ln.L qs) = 0 := by unfold Ln.errs; rw [if_pos hE1, hE2]
          have n1 : 0 < ps.length := by
            have := (Ln.err_zero hE1).2.2.1
            cases ps with
            | nil => exact absurd rfl this
            | cons x t => simp
          have n2 : 0 < qs.length := by
            have := (Ln.err_zero hE2).2.2.1
            cases qs with
            | nil => exact absurd rfl this
            | cons x t => simp
          obtain ⟨g, o, rfl, hR⟩ := HA.r n1
          obtain ⟨g2, o2, rfl, hS⟩ := HB.r n2
          have hl := Ln.back_le (Ln.L ps) (Ln.L qs)
          simp only [List.length_map] at hl
          obtain ⟨hl1, hl2⟩ := hl
          obtain ⟨f, hf⟩ : ∃ f, f = Ln.front (Ln.L ps) (Ln.L qs) := ⟨_, rfl⟩
          obtain ⟨k, hk⟩ : ∃ k, k = Ln.back (Ln.L ps) (Ln.L qs) := ⟨_, rfl⟩
          have CM : ∀ w', Ab w w' → Calls Tryd.prog 18 #[.slice (some ⟨g, o, none⟩) ps.length c, .slice (some ⟨g2, o2, none⟩) qs.length d] w' fun e w2 => e = .returned (.tuple #[.int .i64 (f : Int), .int .i64 (k : Int), .int .i64 0]) ∧ Ab w' w2 := fun w' hw => (common_any _ _ c d ps qs w' (HA.ab hw) (HB.ab hw)).mono fun e w2 h => by
            unfold RetCm Ln.comF Ln.comB at h
            rw [if_pos hE0, if_pos hE0, hE0, ← hf, ← hk] at h
            exact h
          obtain ⟨x1, hx1⟩ : ∃ x1, x1 = ps.length - k := ⟨_, rfl⟩
          obtain ⟨y1, hy1⟩ : ∃ y1, y1 = qs.length - k := ⟨_, rfl⟩
          have hpc := HA.n
          have hqc := HB.n
          have hc' := HA.c'
          have hd' := HB.c'
          have hpk := HA.k
          have hqk := HB.k
          rw [← hf, ← hk] at hl1 hl2
          have CT : ∀ w', Ab w w' → Calls Tryd.prog 15 #[.slice (some ⟨g, o, none⟩) f c, .slice (some ⟨g2, o2, none⟩) f d] w' (RetTrue w') := fun w' hw => by
            have P := sm_sub HA 0 f (Nat.zero_le _) (by omega) (some ⟨g, o, none⟩) (fun g' o' e _ => by injection e with e; injection e with e1 e2; subst e1 e2; rfl)
            have Q := sm_sub HB 0 f (Nat.zero_le _) (by omega) (some ⟨g2, o2, none⟩) (fun g' o' e _ => by injection e with e; injection e with e1 e2; subst e1 e2; rfl)
            rw [List.drop_zero, Nat.sub_zero] at P Q
            have G := rsame_any _ _ c d _ _ w' (P.ab hw) (Q.ab hw) (by
              have := Ln.front_take (Ln.L ps) (Ln.L qs) f (by omega)
              unfold Ln.L at this ⊢
              rw [List.map_take, List.map_take]
              exact this)
            have l1 : (ps.take f).length = f := by simp; omega
            have l2 : (qs.take f).length = f := by simp; omega
            rw [l1, l2] at G
            exact G
          have CDg : ∀ (X Y : Option Addr), (c ≠ x1 → X = some ⟨g, o + x1, none⟩) → (d ≠ y1 → Y = some ⟨g2, o2 + y1, none⟩) → ∀ w', Ab w w' → Calls Tryd.prog 15 #[.slice X (ps.length - x1) (c - x1), .slice Y (qs.length - y1) (d - y1)] w' (RetTrue w') := fun X Y hX hY w' hw => by
            have P := sm_sub HA x1 ps.length (by omega) (Nat.le_refl _) X (fun g' o' e h => by injection e with e; injection e with e1 e2; subst e1 e2; exact hX (by omega))
            have Q := sm_sub HB y1 qs.length (by omega) (Nat.le_refl _) Y (fun g' o' e h => by injection e with e; injection e with e1 e2; subst e1 e2; exact hY (by omega))
            rw [List.take_length] at P Q
            have G := rsame_any _ _ (c - x1) (d - y1) _ _ w' (P.ab hw) (Q.ab hw) (by
              have := Ln.back_same (Ln.L ps) (Ln.L qs)
              rw [← hk, List.length_map, List.length_map, ← hx1, ← hy1] at this
              unfold Ln.L at this ⊢
              rw [List.map_drop, List.map_drop]
              exact this)
            have l1 : (ps.drop x1).length = ps.length - x1 := by simp
            have l2 : (qs.drop y1).length = qs.length - y1 := by simp
            rw [l1, l2] at G
            exact G
          have HN : Hid (f < x1 → f < y1 → ps[f]? ≠ qs[f]? ∧ ps[x1 - 1]? ≠ qs[y1 - 1]?) := fun h1 h2 => by
            have g1 : f < ps.length := by omega
            have g2 : f < qs.length := by omega
            have g3 : x1 - 1 < ps.length := by omega
            have g4 : y1 - 1 < qs.length := by omega
            rw [List.getElem?_eq_getElem g1, List.getElem?_eq_getElem g2, List.getElem?_eq_getElem g3, List.getElem?_eq_getElem g4]
            constructor
            · intro e
              have e := Option.some.inj e
              have a := Ln.front_ends (Ln.L ps) (Ln.L qs) (by simp; omega) (by simp; omega)
              refine a ?_
              have e1 : (Ln.L ps)[f]? = (Ln.L qs)[f]? := by rw [Ln.at_ g1, Ln.at_ g2, e]
              rw [hf] at e1
              rw [List.getElem?_eq_getElem (by simp; omega), List.getElem?_eq_getElem (by simp; omega)] at e1
              exact Option.some.inj e1
            · intro e
              have e := Option.some.inj e
              have a := Ln.back_ends (Ln.L ps) (Ln.L qs) (by simp; omega) (by simp; omega)
              refine a ?_
              rw [← hk, List.length_map, List.length_map, show ps.length - 1 - k = x1 - 1 by omega, show qs.length - 1 - k = y1 - 1 by omega, Ln.at_ g3, Ln.at_ g4, e]
          clear hf hk hE0 hE1 hE2
          have wfk : IntKind.i64.wrap ((f : Int) + k) = (f : Int) + k := IntWalk.i64_in _ (by omega)
          have wp : IntKind.i64.wrap ((ps.length : Int) - k) = (x1 : Int) := by rw [IntWalk.i64_in _ (by omega)]; omega
          have wq : IntKind.i64.wrap ((qs.length : Int) - k) = (y1 : Int) := by rw [IntWalk.i64_in _ (by omega)]; omega
          have f0 : ¬ (f : Int) < 0 := by omega
          have f1 : ¬ (k : Int) < 0 := by omega
          have f2 : ¬ (ps.length : Int) < (f : Int) + k := by omega
          have f3 : ¬ (qs.length : Int) < (f : Int) + k := by omega
          have p0 : f ≤ c := by omega
          have p1 : x1 ≤ ps.length := by omega
          have p2 : f ≤ x1 := by omega
          have p3 : x1 ≤ c := by omega
          have q0 : f ≤ d := by omega
          have q1 : y1 ≤ qs.length := by omega
          have q2 : f ≤ y1 := by omega
          have q3 : y1 ≤ d := by omega
          have hxy' : True := trivial
          clear hx1 hy1
          go_wp2_with fail
          refine (CM _ abA).mono ?_
          rintro e w6 ⟨rfl, hb6⟩
          have B6 : Ab w w6 := Ab.trans (by exact abA) hb6
          clear CM hb6 B5
          go_upto_region 5 with fail
          refine wp_region_held_drew (by kernel_rfl) (S := fun w' => True) ?_ (fun hHeld => ?_)
          · trivial
          (refine rtA 0 ?_ ?_
           (try simp only [Act.put, stA, st0, st1]))
          (try simp only [Act.put, List.getElem_toArray, List.getElem_cons_succ, List.getElem_cons_zero, stA, st0, st1])
          (refine rtA 1 (.bool false) ?_ (hy := by intro w hSw; go_simp; (first | with_reducible rfl | exact hxy' | skip)); (try simp only [Act.put, stA, st0, st1]))
          (refine rtA 2 ?_ ?_
           (try simp only [Act.put, stA, st0, st1]))
          (refine rtA 3 ?_ ?_
           (try simp only [Act.put, stA, st0, st1]))
          (try simp only [Act.put, List.getElem_toArray, List.getElem_cons_succ, List.getElem_cons_zero, stA, st0, st1])
          (refine rtA 4 (.bool false) ?_ (hy := by intro w hSw; (try rw [decide_eq_false f0]); go_simp; (first | with_reducible rfl | exact hxy' | skip)); (try simp only [Act.put, stA, st0, st1]))
          (try simp only [Act.put, List.getElem_toArray, List.getElem_cons_succ, List.getElem_cons_zero, stA, st0, st1])
          (refine rtA 5 (.bool false) ?_ (hy := by intro w hSw; go_simp; (first | with_reducible rfl | exact hxy' | skip)); (try simp only [Act.put, stA, st0, st1]))
          (refine rtA 6 ?_ ?_
           (try simp only [Act.put, stA, st0, st1]))
          (refine rtA 7 ?_ ?_
           (try simp only [Act.put, stA, st0, st1]))
          (try simp only [Act.put, List.getElem_toArray, List.getElem_cons_succ, List.getElem_cons_zero, stA, st0, st1])
          (refine rtA 8 (.bool false) ?_ (hy := by intro w hSw; (try rw [decide_eq_false f1]); go_simp; (first | with_reducible rfl | exact hxy' | skip)); (try simp only [Act.put, stA, st0, st1]))
          (try simp only [Act.put, List.getElem_toArray, List.getElem_cons_succ, List.getElem_cons_zero, stA, st0, st1])
          (refine rtA 9 (.bool false) ?_ (hy := by intro w hSw; go_simp; (first | with_reducible rfl | exact hxy' | skip)); (try simp only [Act.put, stA, st0, st1]))
          (refine rtA 10 ?_ ?_
           (try simp only [Act.put, stA, st0, st1]))
          (refine rtA 11 ?_ ?_
           (try simp only [Act.put, stA, st0, st1]))
          (refine rtA 12 ?_ ?_
           (try simp only [Act.put, stA, st0, st1]))
          (try simp only [Act.put, List.getElem_toArray, List.getElem_cons_succ, List.getElem_cons_zero, stA, st0, st1])
          (refine rtA 13 (.int .i64 ((f : Int) + k)) ?_ (hy := by intro w hSw; (try rw [wfk]); go_simp; (first | with_reducible rfl | exact hxy' | skip)); (try simp only [Act.put, stA, st0, st1]))
          (refine rtA 14 ?_ ?_
           (try simp only [Act.put, stA, st0, st1]))
          (refine rtA 15 ?_ ?_
           (try simp only [Act.put, stA, st0, st1]))
          (try simp only [Act.put, List.getElem_toArray, List.getElem_cons_succ, List.getElem_cons_zero, stA, st0, st1])
          (refine rtA 16 (.bool false) ?_ (hy := by intro w hSw; (try rw [decide_eq_false f2]); go_simp; (first | with_reducible rfl | exact hxy' | skip)); (try simp only [Act.put, stA, st0, st1]))
          (try simp only [Act.put, List.getElem_toArray, List.getElem_cons_succ, List.getElem_cons_zero, stA, st0, st1])
          (refine rtA 17 (.bool false) ?_ (hy := by intro w hSw; go_simp; (first | with_reducible rfl | exact hxy' | skip)); (try simp only [Act.put, stA, st0, st1]))
          (refine rtA 18 ?_ ?_
           (try simp only [Act.put, stA, st0, st1]))
          (refine rtA 19 ?_ ?_
           (try simp only [Act.put, stA, st0, st1]))
          (refine rtA 20 ?_ ?_
           (try simp only [Act.put, stA, st0, st1]))
          (try simp only [Act.put, List.getElem_toArray, List.getElem_cons_succ, List.getElem_cons_zero, stA, st0, st1])
          (refine rtA 21 (.int .i64 ((f : Int) + k)) ?_ (hy := by intro w hSw; (try rw [wfk]); go_simp; (first | with_reducible rfl | exact hxy' | skip)); (try simp only [Act.put, stA, st0, st1]))
          (refine rtA 22 ?_ ?_
           (try simp only [Act.put, stA, st0, st1]))
          (refine rtA 23 ?_ ?_
           (try simp only [Act.put, stA, st0, st1]))
          (try simp only [Act.put, List.getElem_toArray, List.getElem_cons_succ, List.getElem_cons_zero, stA, st0, st1])
          (refine rtA 24 (.bool false) ?_ (hy := by intro w hSw; (try rw [decide_eq_false f3]); go_simp; (first | with_reducible rfl | exact hxy' | skip)); (try simp only [Act.put, stA, st0, st1]))
          (try simp only [Act.put, List.getElem_toArray, List.getElem_cons_succ, List.getElem_cons_zero, stA, st0, st1])
          (refine rtA 25 (.bool false) ?_ (hy := by intro w hSw; go_simp; (first | with_reducible rfl | exact hxy' | skip)); (try simp only [Act.put, stA, st0, st1]))
          (refine rtA 26 ?_ ?_
           (try simp only [Act.put, stA, st0, st1]))
          (refine rtA 27 ?_ ?_
           (try simp only [Act.put, stA, st0, st1]))
          (refine rtA 28 ?_ ?_
           (try simp only [Act.put, stA, st0, st1]))
          (try simp only [Act.put, List.getElem_toArray, List.getElem_cons_succ, List.getElem_cons_zero, stA, st0, st1])
          (refine rtA 29 ?_ ?_
           (try simp only [Act.put, stA, st0, st1]))
          (try simp only [Act.put, List.getElem_toArray, List.getElem_cons_succ, List.getElem_cons_zero, stA, st0, st1])
          (refine rtA 30 ?_ ?_
           (try simp only [Act.put, stA, st0, st1]))
          (refine rtA 31 ?_ ?_
           (try simp only [Act.put, stA, st0, st1]))
          (try simp only [Act.put, List.getElem_toArray, List.getElem_cons_succ, List.getElem_cons_zero, stA, st0, st1])
          (refine rtA 32 ?_ ?_
           (try simp only [Act.put, stA, st0, st1]))
          (try simp only [Act.put, List.getElem_toArray, List.getElem_cons_succ, List.getElem_cons_zero, stA, st0, st1])
          refine r1A 33 (fun K hK => ?_)
          (go_simp
           (refine (CT _ abA).mono ?_; rintro e w7 ⟨rfl, hb7⟩)
           (try go_wp2_with fail)
           (refine hK.out _ _ ?_ (fun hHeld => ?_)
            · (try dsimp only); (try trivial)
            clear hK K
            (try simp only [Act.put, stA, st0, st1])))
          have B7 : Ab w w7 := Ab.trans (by exact abA) hb7
          clear CT hb7
          (try simp only [Act.put, List.getElem_toArray, List.getElem_cons_succ, List.getElem_cons_zero, stA, st0, st1])
          (refine rtA 34 (.bool false) ?_ (hy := by intro w hSw; go_simp; (first | with_reducible rfl | exact hxy' | skip)); (try simp only [Act.put, stA, st0, st1]))
          (try simp only [Act.put, List.getElem_toArray, List.getElem_cons_succ, List.getElem_cons_zero, stA, st0, st1])
          (refine rtA 35 (.bool false) ?_ (hy := by intro w hSw; go_simp; (first | with_reducible rfl | exact hxy' | skip)); (try simp only [Act.put, stA, st0, st1]))
          (refine rtA 36 ?_ ?_
           (try simp only [Act.put, stA, st0, st1]))
          (refine rtA 37 ?_ ?_
           (try simp only [Act.put, stA, st0, st1]))
          (refine rtA 38 ?_ ?_
           (try simp only [Act.put, stA, st0, st1]))
          (refine rtA 39 ?_ ?_
           (try simp only [Act.put, stA, st0, st1]))
          (refine rtA 40 ?_ ?_
           (try simp only [Act.put, stA, st0, st1]))
          (try simp only [Act.put, List.getElem_toArray, List.getElem_cons_succ, List.getElem_cons_zero, stA, st0, st1])
          (refine rtA 41 (.int .i64 (x1 : Int)) ?_ (hy := by intro w hSw; (try rw [wp]); go_simp; (first | with_reducible rfl | exact hxy' | skip)); (try simp only [Act.put, stA, st0, st1]))
          (try simp only [Act.put, List.getElem_toArray, List.getElem_cons_succ, List.getElem_cons_zero, stA, st0, st1])
          (refine rtA 42 ?_ ?_
           (try simp only [Act.put, stA, st0, st1]))
          (try simp only [Act.put, List.getElem_toArray, List.getElem_cons_succ, List.getElem_cons_zero, stA, st0, st1])
          obtain ⟨X, hX⟩ : ∃ X : Option Addr, X = if c = x1 then some ({ block := g, off := o } : Addr) else some { block := g, off := o + x1 } := ⟨_, rfl⟩
          rw [← hX]
          (refine rtA 43 ?_ ?_
           (try simp only [Act.put, stA, st0, st1]))
          (refine rtA 44 ?_ ?_
           (try simp only [Act.put, stA, st0, st1]))
          (refine rtA 45 ?_ ?_
           (try simp only [Act.put, stA, st0, st1]))
          (refine rtA 46 ?_ ?_
           (try simp only [Act.put, stA, st0, st1]))
          (try simp only [Act.put, List.getElem_toArray, List.getElem_cons_succ, List.getElem_cons_zero, stA, st0, st1])
          (refine rtA 47 (.int .i64 (y1 : Int)) ?_ (hy := by intro w hSw; (try rw [wq]); go_simp; (first | with_reducible rfl | exact hxy' | skip)); (try simp only [Act.put, stA, st0, st1]))
          (try simp only [Act.put, List.getElem_toArray, List.getElem_cons_succ, List.getElem_cons_zero, stA, st0, st1])
          (refine rtA 48 ?_ ?_
           (try simp only [Act.put, stA, st0, st1]))
          (try simp only [Act.put, List.getElem_toArray, List.getElem_cons_succ, List.getElem_cons_zero, stA, st0, st1])
          obtain ⟨Y, hY⟩ : ∃ Y : Option Addr, Y = if d = y1 then some ({ block := g2, off := o2 } : Addr) else some { block := g2, off := o2 + y1 } := ⟨_, rfl⟩
          rw [← hY]
          have CD := CDg X Y (fun h => by rw [hX, if_neg h]) (fun h => by rw [hY, if_neg h])
          clear CDg hX hY
          refine r1A 49 (fun K hK => ?_)
          (go_simp
           (refine (CD _ abA).mono ?_; rintro e w8 ⟨rfl, hb8⟩)
           (try go_wp2_with fail)
           (refine hK.out _ _ ?_ (fun hHeld => ?_)
            · (try dsimp only); (try trivial)
            clear hK K
            (try simp only [Act.put, stA, st0, st1])))
          have B8 : Ab w w8 := Ab.trans (by exact abA) hb8
          clear CD hb8 B7
          (try simp only [Act.put, List.getElem_toArray, List.getElem_cons_succ, List.getElem_cons_zero, stA, st0, st1])
          (refine rtA 50 (.bool false) ?_ (hy := by intro w hSw; go_simp; (first | with_reducible rfl | exact hxy' | skip)); (try simp only [Act.put, stA, st0, st1]))
          (try simp only [Act.put, List.getElem_toArray, List.getElem_cons_succ, List.getElem_cons_zero, stA, st0, st1])
          (refine rtA 51 (.bool false) ?_ (hy := by intro w hSw; go_simp; (first | with_reducible rfl | exact hxy' | skip)); (try simp only [Act.put, stA, st0, st1]))
          refine wpAnyH_done (by kernel_rfl) ?_ _
          (try simp only [Act.put, List.getElem_toArray, List.getElem_cons_succ, List.getElem_cons_zero, stA, st0, st1])
          go_wp2_with fail
          refine wp_region_held_drew (by kernel_rfl) (S := fun w' => True) ?_ (fun hHeld => ?_)
          · trivial
          (refine rtA 0 ?_ ?_
           (try simp only [Act.put, stA, st0, st1]))
          (refine rtA 1 ?_ ?_
           (try simp only [Act.put, stA, st0, st1]))
          (refine rtA 2 ?_ ?_
           (try simp only [Act.put, stA, st0, st1]))
          (refine rtA 3 ?_ ?_
           (try simp only [Act.put, stA, st0, st1]))
          (refine rtA 4 ?_ ?_
           (try simp only [Act.put, stA, st0, st1]))
          (try simp only [Act.put, List.getElem_toArray, List.getElem_cons_succ, List.getElem_cons_zero, stA, st0, st1])
          (refine rtA 5 (.int .i64 (x1 : Int)) ?_ (hy := by intro w hSw; (try rw [wp]); go_simp; (first | with_reducible rfl | exact hxy' | skip)); (try simp only [Act.put, stA, st0, st1]))
          (try simp only [Act.put, List.getElem_toArray, List.getElem_cons_succ, List.getElem_cons_zero, stA, st0, st1])
          (refine rtA 6 ?_ ?_
           (try simp only [Act.put, stA, st0, st1]))
          (try simp only [Act.put, List.getElem_toArray, List.getElem_cons_succ, List.getElem_cons_zero, stA, st0, st1])
          obtain ⟨X2, hX2⟩ : ∃ X : Option Addr, X = if c = f then some ({ block := g, off := o } : Addr) else some { block := g, off := o + f } := ⟨_, rfl⟩
          rw [← hX2]
          have HX2 := Lib.hid hX2
          clear hX2
          (refine rtA 7 ?_ ?_
           (try simp only [Act.put, stA, st0, st1]))
          (refine rtA 8 ?_ ?_
           (try simp only [Act.put, stA, st0, st1]))
          (refine rtA 9 ?_ ?_
           (try simp only [Act.put, stA, st0, st1]))
          (refine rtA 10 ?_ ?_
           (try simp only [Act.put, stA, st0, st1]))
          (refine rtA 11 ?_ ?_
           (try simp only [Act.put, stA, st0, st1]))
          (try simp only [Act.put, List.getElem_toArray, List.getElem_cons_succ, List.getElem_cons_zero, stA, st0, st1])
          (refine rtA 12 (.int .i64 (y1 : Int)) ?_ (hy := by intro w hSw; (try rw [wq]); go_simp; (first | with_reducible rfl | exact hxy' | skip)); (try simp only [Act.put, stA, st0, st1]))
          (try simp only [Act.put, List.getElem_toArray, List.getElem_cons_succ, List.getElem_cons_zero, stA, st0, st1])
          (refine rtA 13 ?_ ?_
           (try simp only [Act.put, stA, st0, st1]))
          (try simp only [Act.put, List.getElem_toArray, List.getElem_cons_succ, List.getElem_cons_zero, stA, st0, st1])
          obtain ⟨Y2, hY2⟩ : ∃ Y : Option Addr, Y = if d = f then some ({ block := g2, off := o2 } : Addr) else some { block := g2, off := o2 + f } := ⟨_, rfl⟩
          rw [← hY2]
          have HY2 := Lib.hid hY2
          clear hY2
          (refine rtA 14 ?_ ?_
           (try simp only [Act.put, stA, st0, st1]))
          (refine rtA 15 ?_ ?_
           (try simp only [Act.put, stA, st0, st1]))
          (try simp only [Act.put, List.getElem_toArray, List.getElem_cons_succ, List.getElem_cons_zero, stA, st0, st1])
          refine wpAnyH_done (by kernel_rfl) ?_ _
          (try simp only [Act.put, List.getElem_toArray, List.getElem_cons_succ, List.getElem_cons_zero, stA, st0, st1])
          obtain ⟨aa, hu⟩ : ∃ aa, x1 - f = aa := ⟨_, rfl⟩
          obtain ⟨bb, hv⟩ : ∃ bb, y1 - f = bb := ⟨_, rfl⟩
          rw [hu, hv]
          have HU := Lib.hid hu
          have HV := Lib.hid hv
          clear hu hv
          rcases aa with _ | u1
          · go_wp2
            go_ret
            exact ⟨rfl, by exact abA⟩
          · have u0 : ¬ ((u1 + 1 : Nat) : Int) = 0 := by omega
            rcases bb with _ | v1
            · go_wp2
              go_ret
              exact ⟨rfl, by exact abA⟩
            · have v0 : ¬ ((v1 + 1 : Nat) : Int) = 0 := by omega
              have hu := HU.out
              have hv := HV.out
              have g1 : f < ps.length := by omega
              have g2' : f < qs.length := by omega
              have g3 : x1 - 1 < ps.length := by omega
              have g4 : y1 - 1 < qs.length := by omega
              obtain ⟨nn1, nn2⟩ := HN.out (by omega) (by omega)
              rw [List.getElem?_eq_getElem g1, List.getElem?_eq_getElem g2'] at nn1
              rw [List.getElem?_eq_getElem g3, List.getElem?_eq_getElem g4] at nn2
              have c0 := B8.at (hR f g1)
              have c1 := B8.at (hS f g2')
              have c2 := B8.at (hR (x1 - 1) g3)
              have c3 := B8.at (hS (y1 - 1) g4)
              rw [show o + (x1 - 1) = o + f + u1 by omega] at c2
              rw [show o2 + (y1 - 1) = o2 + f + v1 by omega] at c3
              have hX2 := HX2.out
              have hY2 := HY2.out
              clear HX2 HY2
              rw [if_neg (by omega)] at hX2 hY2
              subst hX2 hY2
              generalize ps[f] = xf at *
              generalize qs[f] = yf at *
              generalize ps[x1 - 1] = xl at *
              generalize qs[y1 - 1] = yl at *
              have hn1 : ¬ xf.toList = yf.toList := fun e => nn1 (congrArg some (ba_eq.1 (by rw [← ByteArray.toList_eq, ← ByteArray.toList_eq]; exact e)))
              have hn2 : ¬ xl.toList = yl.toList := fun e => nn2 (congrArg some (ba_eq.1 (by rw [← ByteArray.toList_eq, ← ByteArray.toList_eq]; exact e)))
              have wu : IntKind.i64.wrap (u1 : Int) = (u1 : Int) := IntWalk.i64_in _ (by omega)
              have wv : IntKind.i64.wrap (v1 : Int) = (v1 : Int) := IntWalk.i64_in _ (by omega)
              have lu : (u1 : Int) < (u1 : Int) + 1 := by omega
              have lv : (v1 : Int) < (v1 : Int) + 1 := by omega
              clear hu hv nn1 nn2 g1 g2' g3 g4 HN hR hS HU HV
              go_upto_region 10 with fail
              · go_ret
                exact ⟨rfl, by exact abA⟩
              refine wp_region_held_drew (by kernel_rfl) (S := fun w' => w'.cell? ⟨g, o + f, none⟩ = some (.string xf) ∧ w'.cell? ⟨g2, o2 + f, none⟩ = some (.string yf) ∧ w'.cell? ⟨g, o + f + u1, none⟩ = some (.string xl) ∧ w'.cell? ⟨g2, o2 + f + v1, none⟩ = some (.string yl)) ?_ (fun hHeld => ?_)
              · exact ⟨cell_drew c0, cell_drew c1, cell_drew c2, cell_drew c3⟩
              (refine rtA 0 ?_ ?_
               (try simp only [Act.put, stA, st0, st1]))
              (refine rtA 1 ?_ ?_
               (try simp only [Act.put, stA, st0, st1]))
              (refine rtA 2 ?_ ?_
               (try simp only [Act.put, stA, st0, st1]))
              (refine rtA 3 ?_ ?_
               (try simp only [Act.put, stA, st0, st1]))
              (try simp only [Act.put, List.getElem_toArray, List.getElem_cons_succ, List.getElem_cons_zero, stA, st0, st1])
              (refine rtA 4 (.string xf) ?_ (hy := by intro w hSw; have z0 := hSw.1; go_simp; (first | with_reducible rfl | exact hxy' | skip)); (try simp only [Act.put, stA, st0, st1]))
              (refine rtA 5 ?_ ?_
               (try simp only [Act.put, stA, st0, st1]))
              (refine rtA 6 ?_ ?_
               (try simp only [Act.put, stA, st0, st1]))
              (try simp only [Act.put, List.getElem_toArray, List.getElem_cons_succ, List.getElem_cons_zero, stA, st0, st1])
              (refine rtA 7 (.string yf) ?_ (hy := by intro w hSw; have z0 := hSw.2.1; go_simp; (first | with_reducible rfl | exact hxy' | skip)); (try simp only [Act.put, stA, st0, st1]))
              (try simp only [Act.put, List.getElem_toArray, List.getElem_cons_succ, List.getElem_cons_zero, stA, st0, st1])
              (refine rtA 8 (.bool true) ?_ (hy := by intro w hSw; go_simp; (first | with_reducible rfl | exact hn1 | skip)); (try simp only [Act.put, stA, st0, st1]))
              (try simp only [Act.put, List.getElem_toArray, List.getElem_cons_succ, List.getElem_cons_zero, stA, st0, st1])
              (refine rtA 9 (.bool true) ?_ (hy := by intro w hSw; go_simp; (first | with_reducible rfl | exact hxy' | skip)); (try simp only [Act.put, stA, st0, st1]))
              (refine rtA 10 ?_ ?_
               (try simp only [Act.put, stA, st0, st1]))
              (refine rtA 11 ?_ ?_
               (try simp only [Act.put, stA, st0, st1]))
              (refine rtA 12 ?_ ?_
               (try simp only [Act.put, stA, st0, st1]))
              (refine rtA 13 ?_ ?_
               (try simp only [Act.put, stA, st0, st1]))
              (try simp only [Act.put, List.getElem_toArray, List.getElem_cons_succ, List.getElem_cons_zero, stA, st0, st1])
              (refine rtA 14 (.int .i64 (u1 : Int)) ?_ (hy := by intro w hSw; (try rw [wu]); go_simp; (first | with_reducible rfl | exact wu | exact hxy' | skip)); (try simp only [Act.put, stA, st0, st1]))
              (refine rtA 15 ?_ ?_
               (try simp only [Act.put, stA, st0, st1]))
              (try simp only [Act.put, List.getElem_toArray, List.getElem_cons_succ, List.getElem_cons_zero, stA, st0, st1])
              (refine rtA 16 (.string xl) ?_ (hy := by intro w hSw; have z0 := hSw.2.2.1; go_simp; (first | with_reducible rfl | exact hxy' | skip)); (try simp only [Act.put, stA, st0, st1]))
              (refine rtA 17 ?_ ?_
               (try simp only [Act.put, stA, st0, st1]))
              (refine rtA 18 ?_ ?_
               (try simp only [Act.put, stA, st0, st1]))
              (refine rtA 19 ?_ ?_
               (try simp only [Act.put, stA, st0, st1]))
              (try simp only [Act.put, List.getElem_toArray, List.getElem_cons_succ, List.getElem_cons_zero, stA, st0, st1])
              (refine rtA 20 (.int .i64 (v1 : Int)) ?_ (hy := by intro w hSw; (try rw [wv]); go_simp; (first | with_reducible rfl | exact wv | exact hxy' | skip)); (try simp only [Act.put, stA, st0, st1]))
              (refine rtA 21 ?_ ?_
               (try simp only [Act.put, stA, st0, st1]))
              (try simp only [Act.put, List.getElem_toArray, List.getElem_cons_succ, List.getElem_cons_zero, stA, st0, st1])
              (refine rtA 22 (.string yl) ?_ (hy := by intro w hSw; have z0 := hSw.2.2.2; go_simp; (first | with_reducible rfl | exact hxy' | skip)); (try simp only [Act.put, stA, st0, st1]))
              (try simp only [Act.put, List.getElem_toArray, List.getElem_cons_succ, List.getElem_cons_zero, stA, st0, st1])
              (refine rtA 23 (.bool true) ?_ (hy := by intro w hSw; go_simp; (first | with_reducible rfl | exact hn2 | skip)); (try simp only [Act.put, stA, st0, st1]))
              (try simp only [Act.put, List.getElem_toArray, List.getElem_cons_succ, List.getElem_cons_zero, stA, st0, st1])
              (refine rtA 24 (.bool true) ?_ (hy := by intro w hSw; go_simp; (first | with_reducible rfl | exact hxy' | skip)); (try simp only [Act.put, stA, st0, st1]))
              (try simp only [Act.put, List.getElem_toArray, List.getElem_cons_succ, List.getElem_cons_zero, stA, st0, st1])
              (refine rtA 25 ?_ ?_
               (try simp only [Act.put, stA, st0, st1]))
              (try simp only [Act.put, List.getElem_toArray, List.getElem_cons_succ, List.getElem_cons_zero, stA, st0, st1])
              refine wpAnyH_done (by kernel_rfl) ?_ _
              (try simp only [Act.put, List.getElem_toArray, List.getElem_cons_succ, List.getElem_cons_zero, stA, st0, st1])
              go_wp2
              go_ret
              exact ⟨rfl, by exact abA⟩
        · have hz : ¬ (Ln.err (Ln.L qs) : Int) = 0 := by omega
          clear hE1
          generalize Ln.err (Ln.L qs) = en at *
          go_wp2_with fail
          refine (M2 _ abA).mono ?_
          rintro e w5 ⟨rfl, hb5⟩
          go_wp2
          go_ret
          exact ⟨rfl, by exact abA⟩
      · have hz : ¬ (Ln.err (Ln.L ps) : Int) = 0 := by omega
        generalize Ln.err (Ln.L ps) = en at *
        go_wp2_with fail
        refine (M1 _ abA).mono ?_
        rintro e w4 ⟨rfl, hb4⟩
        go_wp2
        go_ret
        exact ⟨rfl, by exact abA⟩
end Go.Proofs.YtegnkmfdchljkaaDoor
