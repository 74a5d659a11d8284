/- Sum of package sha, walked. Own work. -/
import Derived.Test.YthfffbpcmlgoiaaGreatDoorCShFunI
set_option linter.unusedVariables false
set_option linter.unusedSimpArgs false
set_option maxRecDepth 100000
namespace Go.Proofs.YthfffbpcmlgoiaaGreatDoor
open Go.RowKit

/-- What Sum returns. -/
def sumE (l : List UInt8) : List UInt8 × Int := if l.length ≤ 1000000 then (Sha.of l, 0) else (List.replicate 32 0, 4)
theorem wr_start (l : List UInt8) (h : l.length ≤ 1000000) : wrE Sha.first [] 0 l = ⟨Sha.after Sha.first l, Sha.tail l, l.length, 0⟩ := by
  unfold wrE
  rw [if_pos (by decide), if_pos (by omega)]
  simp
theorem wr_many (l : List UInt8) (h : ¬ l.length ≤ 1000000) : wrE Sha.first [] 0 l = ⟨W0, [], 0, 4⟩ := by
  unfold wrE
  rw [if_pos (by decide), if_neg (by omega)]
theorem vh_tail (l : List UInt8) (n : Int) (hn : n = l.length) (h : l.length ≤ 1000000) : vh (Sha.tail l).length n = true := by
  unfold vh
  rw [Sha.tail_length, decide_eq_true_eq]
  subst hn
  omega
theorem fin_start (l : List UInt8) (h : l.length ≤ 1000000) : finE (Sha.after Sha.first l) (Sha.tail l) l.length = (Sha.of l, 0) := by
  unfold finE
  rw [if_pos (vh_tail l _ rfl h), ← Sha.after_append]
  rfl
theorem sumE_len (l : List UInt8) : (sumE l).1.length = 32 := by
  unfold sumE
  split
  · exact Sha.dig_length _
  · simp
set_option maxRecDepth 100000 in
set_option maxHeartbeats 1000000 in
theorem sum_any (A : Option Addr) (l : List UInt8) (c : Nat) (w : World) (hG : Glob w) (hb : RB w 0 A l) (hc : l.length ≤ c) (ll : l.length ≤ 9223372036854775807) :
    Calls Tryz.prog 53 #[.slice A l.length c] w fun e w' => e = .returned (.tuple #[.agg (idv (sumE l).1).toArray, .int .i64 (sumE l).2]) ∧ Ab w w' := by
  by_cases h6 : l.length ≤ 1000000
  · have HE : Hid (sumE l = (Sha.of l, 0)) := by unfold Hid sumE; rw [if_pos h6]
    have HS := fun w' (hk : Ab w w') => start_any w' (hG.ab hk)
    have HW := fun w' (hk : Ab w w') => write_any Sha.first none [] 0 0 A l c w' (hG.ab hk) RB.nil (Nat.le_refl _) (by simp) (hb.ab hk) hc ll
    rw [wr_start l h6] at HW
    have htl : (Sha.tail l).length ≤ 64 := by rw [Sha.tail_length]; omega
    have HF := fun (R : Option Addr) (cr : Nat) w' (hk : Ab w w') (hr : RB w' 0 R (Sha.tail l)) (hcr : (Sha.tail l).length ≤ cr) => finish_any (Sha.after Sha.first l) R (Sha.tail l) cr (l.length : Int) w' (hG.ab hk) hr hcr (by omega)
    rw [fin_start l h6] at HF
    have hol : (Sha.of l).length = 32 := Sha.dig_length _
    generalize Sha.after Sha.first l = H at *
    generalize Sha.tail l = tl at *
    generalize Sha.of l = dg at *
    have HOL := Lib.hid hol
    clear hol
    go_enter Tryz.func53, Tryz.ntmps53
    have Z0 : VB (w.alloc (.cells (idv (List.replicate 32 0)).toArray 27)) w.heap.size (idv (List.replicate 32 0)) := VB.box (xs := (idv (List.replicate 32 0)).toArray) (T := 27) (by (repeat (first | exact new_plain wnA | with_reducible refine old_alloc ?_ | with_reducible refine old_drew ?_ | with_reducible refine old_set ?_ wnA | with_reducible refine old_ab (by assumption) ?_)))
    go_wp2_with fail
    refine (HS _ abA).mono ?_
    rintro e w1 ⟨rfl, hb1⟩
    have hab1 : Ab w w1 := Ab.trans abA hb1
    have Z1 := VB.ab Z0 hb1
    go_wp2_with fail
    refine (HW _ hab1).mono ?_
    rintro e w2 ⟨R, cr, rfl, hr, hcr, hb2⟩
    have hab2 := hab1.trans hb2
    have Z2 := VB.ab Z1 hb2
    have Y0 : VB (w2.alloc (.cells (hv W0 none 0 0 0).toArray 127)) w2.heap.size (hv W0 none 0 0 0) := VB.box (xs := (hv W0 none 0 0 0).toArray) (T := 127) (by (repeat (first | exact new_plain wnA | with_reducible refine old_alloc ?_ | with_reducible refine old_drew ?_ | with_reducible refine old_set ?_ wnA | with_reducible refine old_ab (by assumption) ?_)))
    have zl := Z2.lt
    go_wp2_with (first
      | (refine list_stV (o := ⟨none, _, _, _, _, _⟩) (us := hv H R tl.length cr (l.length : Int)) _ infoH rfl _ _ rfl rfl rfl Y0 (hv_len2 _ _ _ _ _ _ _ _ _ _) (hv_len _ _ _ _ _) (hv_one _ _ _ _ _) ?_
         intro w3 h3
         have hab3 : Ab w2 w3 := h3.ab _ ((Ab.refl _).alloc _) (Nat.le_refl _))
      | (refine list_ldV (o := ⟨some 16, _, _, _, _, _⟩) _ infoH Tryz.underlying127 rfl rfl _ rfl rfl h3.v (hv_len _ _ _ _ _) ?_))
    refine (HF R cr _ (hab2.trans hab3) (hr.zero.ab hab3) hcr).mono ?_
    rintro e w4 ⟨rfl, hb4⟩
    have Z4 := VB.ab Z2 (hab3.trans hb4)
    go_wp2_with (refine list_stV (o := ⟨none, _, _, _, _, _⟩) (us := idv dg) _ infoId rfl _ _ rfl rfl rfl Z4 ((idv_len HOL.out).symm) (idv_len HOL.out) (idv_one _) ?_
                 intro w9 h9)
    refine bodyPost_ret (res_V2 _ infoId Tryz.underlying27 rfl Tryz.results53 _ rfl h9.v (idv_len HOL.out)) rfl ?_
    exact ⟨by rw [HE.out]; rfl, h9.ab _ (hab2.trans (hab3.trans hb4)) (by omega)⟩
  · have HE : Hid (sumE l = (List.replicate 32 0, 4)) := by unfold Hid sumE; rw [if_neg h6]
    have HS := fun w' (hk : Ab w w') => start_any w' (hG.ab hk)
    have HW := fun w' (hk : Ab w w') => write_any Sha.first none [] 0 0 A l c w' (hG.ab hk) RB.nil (Nat.le_refl _) (by simp) (hb.ab hk) hc ll
    rw [wr_many l h6] at HW
    go_enter Tryz.func53, Tryz.ntmps53
    have Z0 : VB (w.alloc (.cells (idv (List.replicate 32 0)).toArray 27)) w.heap.size (idv (List.replicate 32 0)) := VB.box (xs := (idv (List.replicate 32 0)).toArray) (T := 27) (by (repeat (first | exact new_plain wnA | with_reducible refine old_alloc ?_ | with_reducible refine old_drew ?_ | with_reducible refine old_set ?_ wnA | with_reducible refine old_ab (by assumption) ?_)))
    go_wp2_with fail
    refine (HS _ abA).mono ?_
    rintro e w1 ⟨rfl, hb1⟩
    have hab1 : Ab w w1 := Ab.trans abA hb1
    have Z1 := VB.ab Z0 hb1
    go_wp2_with fail
    refine (HW _ hab1).mono ?_
    rintro e w2 ⟨R, cr, rfl, hr, hcr, hb2⟩
    have hab2 := hab1.trans hb2
    have Z2 := VB.ab Z1 hb2
    have Y0 : VB (w2.alloc (.cells (hv W0 none 0 0 0).toArray 127)) w2.heap.size (hv W0 none 0 0 0) := VB.box (xs := (hv W0 none 0 0 0).toArray) (T := 127) (by (repeat (first | exact new_plain wnA | with_reducible refine old_alloc ?_ | with_reducible refine old_drew ?_ | with_reducible refine old_set ?_ wnA | with_reducible refine old_ab (by assumption) ?_)))
    have zl := Z2.lt
    go_wp2_with (first
      | (refine list_stV (o := ⟨none, _, _, _, _, _⟩) (us := hv W0 R 0 cr 0) _ infoH rfl _ _ rfl rfl rfl Y0 (hv_len2 _ _ _ _ _ _ _ _ _ _) (hv_len _ _ _ _ _) (hv_one _ _ _ _ _) ?_
         intro w3 h3
         have hab3 : Ab w2 w3 := h3.ab _ ((Ab.refl _).alloc _) (Nat.le_refl _)
         have Z3 := VB.ab Z2 hab3)
      | (refine list_stV (o := ⟨none, _, _, _, _, _⟩) (us := idv (List.replicate 32 0)) _ infoId rfl _ _ rfl rfl rfl Z3 rfl rfl rfl ?_
         intro w9 h9))
    refine bodyPost_ret (res_V2 _ infoId Tryz.underlying27 rfl Tryz.results53 _ rfl h9.v rfl) rfl ?_
    exact ⟨by rw [HE.out]; rfl, h9.ab _ (hab2.trans hab3) (by omega)⟩
end Go.Proofs.YthfffbpcmlgoiaaGreatDoor
