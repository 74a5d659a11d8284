/- ObjectBytes, walked. Own work. -/
import Derived.Test.YthfffbpcmlgoiaaGreatDoorCObRefF
import Derived.Test.YthfffbpcmlgoiaaGreatDoorCKF
set_option linter.unusedVariables false
set_option linter.unusedSimpArgs false
namespace Go.Proofs.YthfffbpcmlgoiaaGreatDoor
open Go.RowKit

set_option maxRecDepth 100000 in
set_option maxHeartbeats 8000000 in
theorem obytes_walk (o : OM) (W : World) (hG : Glob W) (h : OL W o) :
    Calls Tryz.prog 4 #[.agg o.cells.toArray] W (RetTrue W) := by
  have V : VB (W.alloc (.cells o.cells.toArray 32)) W.heap.size o.cells := VB.box (xs := o.cells.toArray) (T := 32) (by (repeat (first | exact new_plain wnA | with_reducible refine old_alloc ?_ | with_reducible refine old_drew ?_ | with_reducible refine old_set ?_ wnA | with_reducible refine old_ab (by assumption) ?_)))
  have b : Ab W (W.alloc (.cells o.cells.toArray 32)) := abA
  have hcl := OM.len h.m.t
  have hml := CM.len h.m.t
  have TG := fun w' (hk : Ab W w') => r9great_any o w' (h.ab hk)
  have TE := Lib.hid (fun w' (hk : Ab W w') => encode9_any o w' (h.ab hk))
  have TF := Lib.hid (fun w' (hk : Ab W w') => r9encode_any o w' (h.ab hk))
  have TN := Lib.hid (fun w' (hk : Ab W w') => name9_any o w' (hG.ab hk) (h.ab hk))
  have TO := Lib.hid (fun w' (hk : Ab W w') => r9name_any o w' (h.ab hk))
  have TB := Lib.hid (fun w' (hk : Ab W w') => blob9_any o.A o.t o.c w' (hG.ab hk) (h.b.ab hk) h.c h.c')
  have TP := Lib.hid (fun w' (hk : Ab W w') (hs : o.t.length ≤ 3000) => r9blob_any o.A o.t o.c w' (h.b.ab hk) h.c (by omega))
  have TC := Lib.hid (fun w' (hk : Ab W w') => commit9_any o.m w' (hG.ab hk) (h.m.ab hk))
  have TD := Lib.hid (fun w' (hk : Ab W w') => r9commit_any o.m w' (h.m.ab hk))
  have TK := Lib.hid (fun w' (hk : Ab W w') => check9_any o w' (h.ab hk))
  have TL := Lib.hid (fun w' (hk : Ab W w') => r9check_any o w' (h.ab hk))
  have e1 : o.cells[1]? = some (.slice o.A o.t.length o.c) := rfl
  have RM := Lib.hid (fun (w' : World) (k : VB w' W.heap.size o.cells) => range_m k)
  have n1 := OM.name_len o
  have n2 := OM.name_len (obB o.A o.t o.c)
  have n3 := OM.name_len (obC o.m)
  have hel : o.encE.1.length ≤ 3000 := by
    unfold OM.encE
    split
    · rename_i hok; exact ok_len o hok h.l h.m.l h.m.t
    · simp
  clear h hG
  generalize OM.nameE (obB o.A o.t o.c) = q2 at *
  generalize OM.nameE (obC o.m) = q3 at *
  generalize OM.nameE o = q1 at *
  generalize OM.encE o = qe at *
  generalize OM.e o = n9 at *
  generalize CM.cells o.m = ms at *
  generalize OM.cells o = cs at *
  obtain ⟨k, A, t, c, E, es, d, m⟩ := o
  simp only at TG TP TB e1
  obtain ⟨i1, x1⟩ := q1
  obtain ⟨i2, x2⟩ := q2
  obtain ⟨i3, x3⟩ := q3
  obtain ⟨ie, xe⟩ := qe
  simp only at n1 n2 n3 hel
  have m1 := Lib.hid (idc_len n1)
  have m2 := Lib.hid (idc_len n2)
  have m3 := Lib.hid (idc_len n3)
  have HE1 := Lib.hid (fun w => run_eqId 9998 i1 i1 n1 n1 w)
  have HE2 := Lib.hid (fun w => run_eqId 9998 i2 i2 n2 n2 w)
  have HE3 := Lib.hid (fun w => run_eqId 9998 i3 i3 n3 n3 w)
  clear n1 n2 n3
  go_enter Tryz.func4, Tryz.ntmps4
  go_wp2_with (refine list_ldM (o := ⟨some 19, _, _, _, _, _⟩) _ 0 cs (VB.range V) infoOM Tryz.underlying32 rfl (by kernel_rfl) _ rfl rfl hcl ?_)
  refine (TG _ b).mono ?_
  rintro e w1 ⟨v, rfl, hv, hb⟩
  replace V := V.ab hb
  replace b := b.trans hb
  clear hb TG
  cases v with
  | true =>
    go_wp2
    go_ret
    exact ⟨rfl, b⟩
  | false =>
    have hs := Lib.hid (hv.out rfl)
    clear hv
    go_wp2_with (refine list_ldM (o := ⟨some 22, _, _, _, _, _⟩) _ 0 cs (VB.range V) infoOM Tryz.underlying32 rfl (by kernel_rfl) _ rfl rfl hcl ?_)
    refine (TE.out _ b).mono ?_
    rintro e w2 ⟨A1, c1, L1, hL1, rfl, R1, hc1, hb⟩
    replace R1 := R1.zero
    obtain rfl : L1 = ie := hL1.out
    replace V := V.ab hb
    replace b := b.trans hb
    clear hb
    go_wp2_with (refine list_ldM (o := ⟨some 27, _, _, _, _, _⟩) _ 0 cs (VB.range V) infoOM Tryz.underlying32 rfl (by kernel_rfl) _ rfl rfl hcl ?_)
    refine (TF.out _ b).mono ?_
    rintro e w3 ⟨A2, c2, L2, hL2, rfl, R2, hc2, hb⟩
    replace R2 := R2.zero
    obtain rfl : L1 = L2 := hL2.out.symm
    replace R1 := R1.ab hb
    replace V := V.ab hb
    replace b := b.trans hb
    clear hb
    go_wp2_with (refine list_ldM (o := ⟨some 32, _, _, _, _, _⟩) _ 0 cs (VB.range V) infoOM Tryz.underlying32 rfl (by kernel_rfl) _ rfl rfl hcl ?_)
    refine (TN.out _ b).mono ?_
    rintro e vP1 ⟨he, hb⟩
    obtain rfl : e = .returned (.tuple #[.agg (idc i1).toArray, .int .i64 x1]) := he
    have Z : VB (vP1.alloc (.cells (idc (List.replicate 32 0)).toArray 27)) vP1.heap.size (idc (List.replicate 32 0)) := VB.box (xs := (idc (List.replicate 32 0)).toArray) (T := 27) (by (repeat (first | exact new_plain wnA | with_reducible refine old_alloc ?_ | with_reducible refine old_drew ?_ | with_reducible refine old_set ?_ wnA | with_reducible refine old_ab (by assumption) ?_)))
    go_upto_region 6 with (refine list_stV (o := ⟨none, _, _, _, _, _⟩) (us := idc i1) _ infoIdT rfl _ _ rfl rfl rfl Z (by rw [m1.out]; rfl) m1.out (idc_one _) ?_; intro uP1 h9)
    have b9 : Ab vP1 uP1 := h9.ab vP1 abA (Nat.le_refl _)
    replace R1 := R1.ab (hb.trans b9)
    replace R2 := R2.ab (hb.trans b9)
    replace V := V.ab (hb.trans b9)
    have P1 : VB uP1 vP1.heap.size (idc i1) := h9.v
    replace b := b.trans (hb.trans b9)
    clear hb b9 h9 Z
    generalize vP1.heap.size = pP1 at *
    go_wp2_with (refine list_ldM (o := ⟨some 37, _, _, _, _, _⟩) _ 0 cs (VB.range V) infoOM Tryz.underlying32 rfl (by kernel_rfl) _ rfl rfl hcl ?_)
    refine (TO.out _ b).mono ?_
    rintro e vP2 ⟨he, hb⟩
    obtain rfl : e = .returned (.tuple #[.agg (idc i1).toArray, .int .i64 x1]) := he
    have Z : VB (vP2.alloc (.cells (idc (List.replicate 32 0)).toArray 27)) vP2.heap.size (idc (List.replicate 32 0)) := VB.box (xs := (idc (List.replicate 32 0)).toArray) (T := 27) (by (repeat (first | exact new_plain wnA | with_reducible refine old_alloc ?_ | with_reducible refine old_drew ?_ | with_reducible refine old_set ?_ wnA | with_reducible refine old_ab (by assumption) ?_)))
    go_upto_region 7 with (refine list_stV (o := ⟨none, _, _, _, _, _⟩) (us := idc i1) _ infoIdT rfl _ _ rfl rfl rfl Z (by rw [m1.out]; rfl) m1.out (idc_one _) ?_; intro uP2 h9)
    have b9 : Ab vP2 uP2 := h9.ab vP2 abA (Nat.le_refl _)
    replace R1 := R1.ab (hb.trans b9)
    replace R2 := R2.ab (hb.trans b9)
    replace V := V.ab (hb.trans b9)
    replace P1 := P1.ab (hb.trans b9)
    have P2 : VB uP2 vP2.heap.size (idc i1) := h9.v
    replace b := b.trans (hb.trans b9)
    clear hb b9 h9 Z
    generalize vP2.heap.size = pP2 at *
    have cA := V.at 1 e1
    go_wp2_with fail
    refine (TB.out _ b).mono ?_
    rintro e vP3 ⟨he, hb⟩
    obtain rfl : e = .returned (.tuple #[.agg (idc i2).toArray, .int .i64 x2]) := he
    have Z : VB (vP3.alloc (.cells (idc (List.replicate 32 0)).toArray 27)) vP3.heap.size (idc (List.replicate 32 0)) := VB.box (xs := (idc (List.replicate 32 0)).toArray) (T := 27) (by (repeat (first | exact new_plain wnA | with_reducible refine old_alloc ?_ | with_reducible refine old_drew ?_ | with_reducible refine old_set ?_ wnA | with_reducible refine old_ab (by assumption) ?_)))
    go_upto_region 8 with (refine list_stV (o := ⟨none, _, _, _, _, _⟩) (us := idc i2) _ infoIdT rfl _ _ rfl rfl rfl Z (by rw [m2.out]; rfl) m2.out (idc_one _) ?_; intro uP3 h9)
    have b9 : Ab vP3 uP3 := h9.ab vP3 abA (Nat.le_refl _)
    replace R1 := R1.ab (hb.trans b9)
    replace R2 := R2.ab (hb.trans b9)
    replace V := V.ab (hb.trans b9)
    replace P1 := P1.ab (hb.trans b9)
    replace P2 := P2.ab (hb.trans b9)
    have P3 : VB uP3 vP3.heap.size (idc i2) := h9.v
    replace b := b.trans (hb.trans b9)
    clear hb b9 h9 Z cA
    generalize vP3.heap.size = pP3 at *
    have cA := V.at 1 e1
    go_wp2_with fail
    refine (TP.out _ b hs.out).mono ?_
    rintro e vP4 ⟨he, hb⟩
    obtain rfl : e = .returned (.tuple #[.agg (idc i2).toArray, .int .i64 x2]) := he
    have Z : VB (vP4.alloc (.cells (idc (List.replicate 32 0)).toArray 27)) vP4.heap.size (idc (List.replicate 32 0)) := VB.box (xs := (idc (List.replicate 32 0)).toArray) (T := 27) (by (repeat (first | exact new_plain wnA | with_reducible refine old_alloc ?_ | with_reducible refine old_drew ?_ | with_reducible refine old_set ?_ wnA | with_reducible refine old_ab (by assumption) ?_)))
    go_upto_region 9 with (refine list_stV (o := ⟨none, _, _, _, _, _⟩) (us := idc i2) _ infoIdT rfl _ _ rfl rfl rfl Z (by rw [m2.out]; rfl) m2.out (idc_one _) ?_; intro uP4 h9)
    have b9 : Ab vP4 uP4 := h9.ab vP4 abA (Nat.le_refl _)
    replace R1 := R1.ab (hb.trans b9)
    replace R2 := R2.ab (hb.trans b9)
    replace V := V.ab (hb.trans b9)
    replace P1 := P1.ab (hb.trans b9)
    replace P2 := P2.ab (hb.trans b9)
    replace P3 := P3.ab (hb.trans b9)
    have P4 : VB uP4 vP4.heap.size (idc i2) := h9.v
    replace b := b.trans (hb.trans b9)
    clear hb b9 h9 Z cA
    generalize vP4.heap.size = pP4 at *
    go_wp2_with (refine list_ldM (o := ⟨some 55, _, _, _, _, _⟩) _ 3 ms (RM.out _ V) infoCM Tryz.underlying30 rfl (by kernel_rfl) _ rfl rfl hml ?_)
    refine (TC.out _ b).mono ?_
    rintro e vP5 ⟨he, hb⟩
    obtain rfl : e = .returned (.tuple #[.agg (idc i3).toArray, .int .i64 x3]) := he
    have Z : VB (vP5.alloc (.cells (idc (List.replicate 32 0)).toArray 27)) vP5.heap.size (idc (List.replicate 32 0)) := VB.box (xs := (idc (List.replicate 32 0)).toArray) (T := 27) (by (repeat (first | exact new_plain wnA | with_reducible refine old_alloc ?_ | with_reducible refine old_drew ?_ | with_reducible refine old_set ?_ wnA | with_reducible refine old_ab (by assumption) ?_)))
    go_upto_region 10 with (refine list_stV (o := ⟨none, _, _, _, _, _⟩) (us := idc i3) _ infoIdT rfl _ _ rfl rfl rfl Z (by rw [m3.out]; rfl) m3.out (idc_one _) ?_; intro uP5 h9)
    have b9 : Ab vP5 uP5 := h9.ab vP5 abA (Nat.le_refl _)
    replace R1 := R1.ab (hb.trans b9)
    replace R2 := R2.ab (hb.trans b9)
    replace V := V.ab (hb.trans b9)
    replace P1 := P1.ab (hb.trans b9)
    replace P2 := P2.ab (hb.trans b9)
    replace P3 := P3.ab (hb.trans b9)
    replace P4 := P4.ab (hb.trans b9)
    have P5 : VB uP5 vP5.heap.size (idc i3) := h9.v
    replace b := b.trans (hb.trans b9)
    clear hb b9 h9 Z
    generalize vP5.heap.size = pP5 at *
    go_wp2_with (refine list_ldM (o := ⟨some 61, _, _, _, _, _⟩) _ 3 ms (RM.out _ V) infoCM Tryz.underlying30 rfl (by kernel_rfl) _ rfl rfl hml ?_)
    refine (TD.out _ b).mono ?_
    rintro e vP6 ⟨he, hb⟩
    obtain rfl : e = .returned (.tuple #[.agg (idc i3).toArray, .int .i64 x3]) := he
    have Z : VB (vP6.alloc (.cells (idc (List.replicate 32 0)).toArray 27)) vP6.heap.size (idc (List.replicate 32 0)) := VB.box (xs := (idc (List.replicate 32 0)).toArray) (T := 27) (by (repeat (first | exact new_plain wnA | with_reducible refine old_alloc ?_ | with_reducible refine old_drew ?_ | with_reducible refine old_set ?_ wnA | with_reducible refine old_ab (by assumption) ?_)))
    go_upto_region 11 with (refine list_stV (o := ⟨none, _, _, _, _, _⟩) (us := idc i3) _ infoIdT rfl _ _ rfl rfl rfl Z (by rw [m3.out]; rfl) m3.out (idc_one _) ?_; intro uP6 h9)
    have b9 : Ab vP6 uP6 := h9.ab vP6 abA (Nat.le_refl _)
    replace R1 := R1.ab (hb.trans b9)
    replace R2 := R2.ab (hb.trans b9)
    replace V := V.ab (hb.trans b9)
    replace P1 := P1.ab (hb.trans b9)
    replace P2 := P2.ab (hb.trans b9)
    replace P3 := P3.ab (hb.trans b9)
    replace P4 := P4.ab (hb.trans b9)
    replace P5 := P5.ab (hb.trans b9)
    have P6 : VB uP6 vP6.heap.size (idc i3) := h9.v
    replace b := b.trans (hb.trans b9)
    clear hb b9 h9 Z
    generalize vP6.heap.size = pP6 at *
    refine wp_region_held_drew (by kernel_rfl) (S := fun w' => VB w' W.heap.size cs ∧ VB w' pP1 (idc i1) ∧ VB w' pP2 (idc i1) ∧ VB w' pP3 (idc i2) ∧ VB w' pP4 (idc i2) ∧ VB w' pP5 (idc i3) ∧ VB w' pP6 (idc i3)) ?_ (fun hHeld => ?_)
    · exact ⟨V.ab abA, P1.ab abA, P2.ab abA, P3.ab abA, P4.ab abA, P5.ab abA, P6.ab abA⟩
    (try simp only [Act.put, List.getElem_toArray, List.getElem_cons_succ, List.getElem_cons_zero, stA, st0, st1])
    (refine rtL 0 cs 0 (fun w hSw => VB.range hSw.1) Tryz.underlying32 ?_ (hz := by rw [infoOM, hcl])
     (try simp only [Act.put, stA, st0, st1]))
    (try simp only [Act.put, List.getElem_toArray, List.getElem_cons_succ, List.getElem_cons_zero, stA, st0, st1])
    (refine rtL 2 cs 0 (fun w hSw => VB.range hSw.1) Tryz.underlying32 ?_ (hz := by rw [infoOM, hcl])
     (try simp only [Act.put, stA, st0, st1]))
    refine r1A 1 (fun K hK => ?_)
    (go_simp
     (refine (TK.out _ (b.trans (by exact abA))).mono ?_; rintro e y1 ⟨rfl, hb1⟩)
     (try go_wp2_with fail)
     (refine hK.out _ _ ?_ (fun hHeld => ?_)
      · (try dsimp only); exact ⟨V.ab (Ab.trans (by exact abA) hb1), P1.ab (Ab.trans (by exact abA) hb1), P2.ab (Ab.trans (by exact abA) hb1), P3.ab (Ab.trans (by exact abA) hb1), P4.ab (Ab.trans (by exact abA) hb1), P5.ab (Ab.trans (by exact abA) hb1), P6.ab (Ab.trans (by exact abA) hb1)⟩
      clear hK K
      (try simp only [Act.put, stA, st0, st1])))
    have a1 : Ab uP6 y1 := Ab.trans (by exact abA) hb1
    refine r1A 3 (fun K hK => ?_)
    (go_simp
     (refine (TL.out _ (b.trans a1)).mono ?_; rintro e y2 ⟨rfl, hb2⟩)
     (try go_wp2_with fail)
     (refine hK.out _ _ ?_ (fun hHeld => ?_)
      · (try dsimp only); exact ⟨V.ab (a1.trans hb2), P1.ab (a1.trans hb2), P2.ab (a1.trans hb2), P3.ab (a1.trans hb2), P4.ab (a1.trans hb2), P5.ab (a1.trans hb2), P6.ab (a1.trans hb2)⟩
      clear hK K
      (try simp only [Act.put, stA, st0, st1])))
    have a2 := a1.trans hb2
    (refine rtA 4 (.bool true) ?_ (hy := by intro w hSw; go_simp; (try with_reducible rfl)); (try simp only [Act.put, stA, st0, st1]))
    (refine rtA 5 ?_ ?_
     (try simp only [Act.put, stA, st0, st1]))
    (refine rtA 6 ?_ ?_
     (try simp only [Act.put, stA, st0, st1]))
    (refine rtA 7 ?_ ?_
     (try simp only [Act.put, stA, st0, st1]))
    refine r1A 8 (fun K hK => ?_)
    (go_simp
     (refine (sameBytes_all A1 A2 c1 c2 L1 L1 _ (R1.ab a2) (R2.ab a2) (by omega) (by omega)).mono ?_; rintro e y3 ⟨he, n3, rfl⟩; obtain rfl : e = .returned (.bool true) := by rw [he, beq_self_eq_true])
     (try go_wp2_with fail)
     (refine hK.out _ _ ?_ (fun hHeld => ?_)
      · (try dsimp only); exact ⟨V.ab (Ab.drewN a2 n3), P1.ab (Ab.drewN a2 n3), P2.ab (Ab.drewN a2 n3), P3.ab (Ab.drewN a2 n3), P4.ab (Ab.drewN a2 n3), P5.ab (Ab.drewN a2 n3), P6.ab (Ab.drewN a2 n3)⟩
      clear hK K
      (try simp only [Act.put, stA, st0, st1])))
    have a3 : Ab uP6 (y2.drewN n3) := Ab.drewN a2 n3
    refine r1A 9 (fun K hK => ?_)
    (go_simp
     (refine hK.out _ _ ?_ (fun hHeld => ?_)
      · (try dsimp only); exact hHeld
      clear hK K
      (try simp only [Act.put, stA, st0, st1])))
    (refine rtA 10 ?_ ?_
     (try simp only [Act.put, stA, st0, st1]))
    (refine rtA 11 ?_ ?_
     (try simp only [Act.put, stA, st0, st1]))
    (refine rtA 12 ?_ ?_
     (try simp only [Act.put, stA, st0, st1]))
    (refine rtA 13 (.bool true) ?_ (hy := by intro w hSw; go_simp; (try with_reducible rfl)); (try simp only [Act.put, stA, st0, st1]))
    refine r1A 14 (fun K hK => ?_)
    (go_simp
     (refine hK.out _ _ ?_ (fun hHeld => ?_)
      · (try dsimp only); exact hHeld
      clear hK K
      (try simp only [Act.put, stA, st0, st1])))
    (refine rtA 15 ?_ ?_
     (try simp only [Act.put, stA, st0, st1]))
    (try simp only [Act.put, List.getElem_toArray, List.getElem_cons_succ, List.getElem_cons_zero, stA, st0, st1])
    (refine rtL 16 (idc i1) 0 (fun w hSw => VB.range (hSw.2.1)) Tryz.underlying27 ?_ (hz := by rw [infoIdT, m1.out])
     (try simp only [Act.put, stA, st0, st1]))
    (try simp only [Act.put, List.getElem_toArray, List.getElem_cons_succ, List.getElem_cons_zero, stA, st0, st1])
    (refine rtL 17 (idc i1) 0 (fun w hSw => VB.range (hSw.2.2.1)) Tryz.underlying27 ?_ (hz := by rw [infoIdT, m1.out])
     (try simp only [Act.put, stA, st0, st1]))
    (refine rtA 18 (.bool true) ?_ (hy := by intro w hSw; have z0 := HE1.out w; rw [beq_self_eq_true] at z0; go_simp; (try with_reducible rfl)); (try simp only [Act.put, stA, st0, st1]))
    refine r1A 19 (fun K hK => ?_)
    (go_simp
     (refine hK.out _ _ ?_ (fun hHeld => ?_)
      · (try dsimp only); exact hHeld
      clear hK K
      (try simp only [Act.put, stA, st0, st1])))
    (refine rtA 20 ?_ ?_
     (try simp only [Act.put, stA, st0, st1]))
    (refine rtA 21 ?_ ?_
     (try simp only [Act.put, stA, st0, st1]))
    (refine rtA 22 ?_ ?_
     (try simp only [Act.put, stA, st0, st1]))
    (refine rtA 23 (.bool true) ?_ (hy := by intro w hSw; go_simp; (try with_reducible rfl)); (try simp only [Act.put, stA, st0, st1]))
    refine r1A 24 (fun K hK => ?_)
    (go_simp
     (refine hK.out _ _ ?_ (fun hHeld => ?_)
      · (try dsimp only); exact hHeld
      clear hK K
      (try simp only [Act.put, stA, st0, st1])))
    (refine rtA 25 ?_ ?_
     (try simp only [Act.put, stA, st0, st1]))
    (try simp only [Act.put, List.getElem_toArray, List.getElem_cons_succ, List.getElem_cons_zero, stA, st0, st1])
    (refine rtL 26 (idc i2) 0 (fun w hSw => VB.range (hSw.2.2.2.1)) Tryz.underlying27 ?_ (hz := by rw [infoIdT, m2.out])
     (try simp only [Act.put, stA, st0, st1]))
    (try simp only [Act.put, List.getElem_toArray, List.getElem_cons_succ, List.getElem_cons_zero, stA, st0, st1])
    (refine rtL 27 (idc i2) 0 (fun w hSw => VB.range (hSw.2.2.2.2.1)) Tryz.underlying27 ?_ (hz := by rw [infoIdT, m2.out])
     (try simp only [Act.put, stA, st0, st1]))
    (refine rtA 28 (.bool true) ?_ (hy := by intro w hSw; have z0 := HE2.out w; rw [beq_self_eq_true] at z0; go_simp; (try with_reducible rfl)); (try simp only [Act.put, stA, st0, st1]))
    refine r1A 29 (fun K hK => ?_)
    (go_simp
     (refine hK.out _ _ ?_ (fun hHeld => ?_)
      · (try dsimp only); exact hHeld
      clear hK K
      (try simp only [Act.put, stA, st0, st1])))
    (refine rtA 30 ?_ ?_
     (try simp only [Act.put, stA, st0, st1]))
    (refine rtA 31 ?_ ?_
     (try simp only [Act.put, stA, st0, st1]))
    (refine rtA 32 ?_ ?_
     (try simp only [Act.put, stA, st0, st1]))
    (refine rtA 33 (.bool true) ?_ (hy := by intro w hSw; go_simp; (try with_reducible rfl)); (try simp only [Act.put, stA, st0, st1]))
    refine r1A 34 (fun K hK => ?_)
    (go_simp
     (refine hK.out _ _ ?_ (fun hHeld => ?_)
      · (try dsimp only); exact hHeld
      clear hK K
      (try simp only [Act.put, stA, st0, st1])))
    (refine rtA 35 ?_ ?_
     (try simp only [Act.put, stA, st0, st1]))
    (try simp only [Act.put, List.getElem_toArray, List.getElem_cons_succ, List.getElem_cons_zero, stA, st0, st1])
    (refine rtL 36 (idc i3) 0 (fun w hSw => VB.range (hSw.2.2.2.2.2.1)) Tryz.underlying27 ?_ (hz := by rw [infoIdT, m3.out])
     (try simp only [Act.put, stA, st0, st1]))
    (try simp only [Act.put, List.getElem_toArray, List.getElem_cons_succ, List.getElem_cons_zero, stA, st0, st1])
    (refine rtL 37 (idc i3) 0 (fun w hSw => VB.range (hSw.2.2.2.2.2.2)) Tryz.underlying27 ?_ (hz := by rw [infoIdT, m3.out])
     (try simp only [Act.put, stA, st0, st1]))
    (refine rtA 38 (.bool true) ?_ (hy := by intro w hSw; have z0 := HE3.out w; rw [beq_self_eq_true] at z0; go_simp; (try with_reducible rfl)); (try simp only [Act.put, stA, st0, st1]))
    refine r1A 39 (fun K hK => ?_)
    (go_simp
     (refine hK.out _ _ ?_ (fun hHeld => ?_)
      · (try dsimp only); exact hHeld
      clear hK K
      (try simp only [Act.put, stA, st0, st1])))
    (refine rtA 40 ?_ ?_
     (try simp only [Act.put, stA, st0, st1]))
    (refine rtA 41 ?_ ?_
     (try simp only [Act.put, stA, st0, st1]))
    (refine rtA 42 ?_ ?_
     (try simp only [Act.put, stA, st0, st1]))
    (refine rtA 43 (.bool true) ?_ (hy := by intro w hSw; go_simp; (try with_reducible rfl)); (try simp only [Act.put, stA, st0, st1]))
    refine r1A 44 (fun K hK => ?_)
    (go_simp
     (refine hK.out _ _ ?_ (fun hHeld => ?_)
      · (try dsimp only); exact hHeld
      clear hK K
      (try simp only [Act.put, stA, st0, st1])))
    refine r1A 45 (fun K hK => ?_)
    (go_simp
     (refine hK.out _ _ ?_ (fun hHeld => ?_)
      · (try dsimp only); exact hHeld
      clear hK K
      (try simp only [Act.put, stA, st0, st1])))
    refine wpAnyH_done (by kernel_rfl) ?_ _
    go_wp2
    go_ret
    exact ⟨rfl, b.trans a3⟩
end Go.Proofs.YthfffbpcmlgoiaaGreatDoor
