/- ShParts, walked: its middle. Own work. -/
import Derived.Test.YtmechdddhfcckaaDoorShLawC
set_option linter.unusedVariables false
set_option linter.unusedSimpArgs false
namespace Go.Proofs.YtmechdddhfcckaaDoor
open Go.RowKit

set_option maxRecDepth 100000 in
set_option maxHeartbeats 4000000 in
theorem parts_small (w : World) (hG : Glob w) (F : List UInt8 → Sha.W8) (T O : List UInt8 → List UInt8) (hP : Pkg w F T O) (A B C : Option Addr) (a b c : List UInt8) (ca cb cc : Nat) (ha : RB w 0 A a) (hb : RB w 0 B b) (hc : RB w 0 C c)
    (hca : a.length ≤ ca) (hcb : b.length ≤ cb) (hcc : c.length ≤ cc) (ka : a.length ≤ 1000) (kb : b.length ≤ 1000) (kc : c.length ≤ 1000) :
    Calls Tryd.prog 5 #[.slice A a.length ca, .slice B b.length cb, .slice C c.length cc] w (RetTrue w) := by
  obtain ⟨ab, hab'⟩ : ∃ y, Hid (y = a ++ b) := ⟨_, rfl⟩
  obtain ⟨abc, habc⟩ : ∃ y, Hid (y = ab ++ c) := ⟨_, rfl⟩
  have lab : Hid (ab.length = a.length + b.length) := by rw [hab'.out, List.length_append]; rfl
  have labc : Hid (abc.length = a.length + b.length + c.length) := by rw [habc.out, List.length_append, lab.out]; rfl
  have nab : ab.length ≤ 2000 := by rw [lab.out]; omega
  have nabc : abc.length ≤ 3000 := by rw [labc.out]; omega
  have ha0 : Hid (a = [] ++ a) := rfl
  have T0 := Lib.hid hP.nil
  have O32 := Lib.hid hP.len
  have hE8 := Lib.hid (fun (H : Sha.W8) (w : World) => run_eq8 H w)
  have hE32 : ∀ w, (Op.equalIn 10000 24 (.agg (idv (O abc)).toArray) (.agg (idv (O abc)).toArray)).run Tryd.prog w = .ok true w := fun w => run_eq32 _ (hP.len abc) w
  go_enter Tryd.func5, Tryd.ntmps5
  go_wp2_with fail
  refine (hP.start _ abA).mono ?_
  rintro e w1 ⟨rfl, hb1⟩
  go_wp2_with fail
  refine (hP.write [] a a 0 (a.length : Int) none 0 A ca _ hb1 (Lib.hid rfl) (Lib.hid rfl) ha0 (by rw [T0.out]; exact RB.nil) (by rw [T0.out]; exact Nat.le_refl _) (ha.ab hb1) hca (by omega) (by omega)).mono ?_
  rintro e w2 ⟨R1, c1, rfl, r1, k1, hb2⟩
  have ab2 : Ab w w2 := hb1.trans hb2
  have z2 := ab2.size
  have Y2 : VB (w2.alloc (.cells #[.int .u32 0, .int .u32 0, .int .u32 0, .int .u32 0, .int .u32 0, .int .u32 0, .int .u32 0, .int .u32 0, .slice none 0 0, .int .i64 0] 36)) w2.heap.size (hv W0 none 0 0 0) := VB.box (xs := #[.int .u32 0, .int .u32 0, .int .u32 0, .int .u32 0, .int .u32 0, .int .u32 0, .int .u32 0, .int .u32 0, .slice none 0 0, .int .i64 0]) (T := 36) (by (repeat (first | exact new_plain wnA | with_reducible refine old_alloc ?_ | with_reducible refine old_drew ?_ | with_reducible refine old_set ?_ wnA | with_reducible refine old_ab (by assumption) ?_)))
  go_wp2_with (first
    | (refine list_stV (o := ⟨none, _, _, _, _, _⟩) (us := hv (F a) R1 (T a).length c1 (a.length : Int)) _ infoH rfl _ _ rfl rfl rfl Y2 (hv_len2 _ _ _ _ _ _ _ _ _ _) (hv_len _ _ _ _ _) (hv_one _ _ _ _ _) ?_
       intro w3 h3
       have ab3 : Ab w2 w3 := h3.ab _ ((Ab.refl _).alloc _) (Nat.le_refl _)
       have V3 := h3.v)
    | (refine list_ldV (o := ⟨some 39, _, _, _, _, _⟩) _ infoH Tryd.underlying36 rfl rfl _ rfl rfl V3 (hv_len _ _ _ _ _) ?_))
  refine (hP.write a b ab (a.length : Int) (ab.length : Int) R1 c1 B cb _ (ab2.trans ab3) (Lib.hid rfl) (Lib.hid rfl) hab' (r1.zero.ab ab3) k1 (hb.ab (ab2.trans ab3)) hcb (by omega) (by omega)).mono ?_
  rintro e w4 ⟨R2, c2, rfl, r2, k2, hb4⟩
  have ab4 : Ab w w4 := (ab2.trans ab3).trans hb4
  have V4 := V3.ab hb4
  have lt3 := V3.lt
  generalize hbh : w2.heap.size = bh at *
  clear hb1 hb2 r1 h3 ab3 hb4 V3 ab2
  go_wp2_with (first
    | (refine list_stV (o := ⟨none, _, _, _, _, _⟩) (us := hv (F ab) R2 (T ab).length c2 (ab.length : Int)) _ infoH rfl _ _ rfl rfl rfl V4 (hv_len2 _ _ _ _ _ _ _ _ _ _) (hv_len _ _ _ _ _) (hv_one _ _ _ _ _) ?_
       intro w5 h5
       have ab5 : Ab w w5 := h5.ab _ ab4 z2
       have V5 := h5.v)
    | (refine list_ldV (o := ⟨some 45, _, _, _, _, _⟩) _ infoH Tryd.underlying36 rfl rfl _ rfl rfl V5 (hv_len _ _ _ _ _) ?_))
  have r5 := (r2.stored h5 lt3).zero
  refine (hP.write ab c abc (ab.length : Int) (abc.length : Int) R2 c2 C cc _ ab5 (Lib.hid rfl) (Lib.hid rfl) habc r5 k2 (hc.ab ab5) hcc (by omega) (by omega)).mono ?_
  rintro e w6 ⟨R3, c3, rfl, r3, k3, hb6⟩
  have ab6 : Ab w w6 := ab5.trans hb6
  have V6 := V5.ab hb6
  have lt5 := V5.lt
  clear r2 h5 hb6 V5 ab5 r5 ab4 k1 k2
  go_wp2_with (first
    | (refine list_stV (o := ⟨none, _, _, _, _, _⟩) (us := hv (F abc) R3 (T abc).length c3 (abc.length : Int)) _ infoH rfl _ _ rfl rfl rfl V6 (hv_len2 _ _ _ _ _ _ _ _ _ _) (hv_len _ _ _ _ _) (hv_one _ _ _ _ _) ?_
       intro w7 h7
       have ab7 : Ab w w7 := h7.ab _ ab6 z2
       have V7 := h7.v)
    | (refine list_ldV (o := ⟨some 51, _, _, _, _, _⟩) _ infoH Tryd.underlying36 rfl rfl _ rfl rfl V7 (hv_len _ _ _ _ _) ?_))
  have r7 := (r3.stored h7 lt5).zero
  refine (hP.finish abc (abc.length : Int) R3 c3 _ ab7 (Lib.hid rfl) r7 k3 (by omega)).mono ?_
  rintro e w8' ⟨rfl, hb8⟩
  have ab8 : Ab w w8' := ab7.trans hb8
  have V8 := V7.ab hb8
  have r8 := r7.ab hb8
  have zz8 := ab8.size
  have lD := Lib.hid (O32.out abc)
  generalize hD : O abc = D at *
  have HD := Lib.hid hD
  clear hD
  have Z8 : VB (w8'.alloc (.cells (idv (List.replicate 32 0)).toArray 24)) w8'.heap.size (idv (List.replicate 32 0)) := VB.box (xs := (idv (List.replicate 32 0)).toArray) (T := 24) (by (repeat (first | exact new_plain wnA | with_reducible refine old_alloc ?_ | with_reducible refine old_drew ?_ | with_reducible refine old_set ?_ wnA | with_reducible refine old_ab (by assumption) ?_)))
  clear r3 h7 hb8 V7 r7
  go_wp2_with (first
    | (refine list_stV (o := ⟨none, _, _, _, _, _⟩) (us := idv D) _ infoId rfl _ _ rfl rfl rfl Z8 ((idv_len lD.out).symm) (idv_len lD.out) (idv_one _) ?_
       intro w9 h9
       have ab89 : Ab w8' w9 := h9.ab _ ((Ab.refl _).alloc _) (Nat.le_refl _)
       have D9 := h9.v
       have V9 := V8.ab ab89
       have r9 := r8.ab ab89
       have ab9 := ab8.trans ab89)
    | ((at_builtin
        refine listLit rfl _ _ rfl rfl rfl (m := a) rfl (by (repeat (first | exact new_plain wnA | with_reducible refine old_alloc ?_ | with_reducible refine old_drew ?_ | with_reducible refine old_set ?_ wnA | with_reducible refine old_ab (by assumption) ?_))) (RB.ab ha (show Ab w _ from abA)) hca (by omega) ?_
        intro A1 d1 wA L1 e1 bA oA
        have abA1 : Ab w9 wA := Ab.trans abA bA
        have oA1 := oA w9.heap.size (Nat.le_refl _) wnA
        have zA := abA1.size
        have l1 : L1.length ≤ 1000 := by rw [e1.out]; exact ka))
    | ((at_builtin
        refine listApp (o := ⟨some 59, _, _, _, _, _⟩) rfl _ _ rfl rfl rfl (m := b) rfl oA1 zA (RB.ab hb (ab9.trans abA1)) hcb (by omega) ?_
        intro A2 d2 wB L2 e2 oB _ gB
        have abB := gB w9 abA1 (Nat.le_refl _)
        have zB := abB.size
        have l2 : L2.length ≤ 2000 := by rw [e2.out, List.length_append]; omega))
    | ((at_builtin
        refine listApp (o := ⟨some 61, _, _, _, _, _⟩) rfl _ _ rfl rfl rfl (m := c) rfl oB zB (RB.ab hc (ab9.trans abB)) hcc (by omega) ?_
        intro A3 d3 wC L3 e3 oC _ gC
        have abC := gC w9 abB (Nat.le_refl _)
        have e4 : Hid (L3 = abc) := by rw [e3.out, e2.out, e1.out, habc.out, hab'.out]; rfl))
    )
  have ab10 := ab9.trans abC
  have e4' := e4.out
  subst e4'
  have l3 : L3.length ≤ 3000 := nabc
  have rC := oC.rb.zero
  have dC := oC.le
  have Dc := D9.ab abC
  have Vc := V9.ab abC
  have rc := r9.ab abC
  clear e4 e3 e2 e1 oC oB oA oA1 gB gC abA1 abB abC bA D9 V9 r9 ab9 ab89 r8 V8 Z8 h9 l1 l2
  refine (hP.sum L3 A3 d3 _ ab10 rC dC (by omega)).mono ?_
  rintro e w11 ⟨rfl, hb11⟩
  rw [HD.out]
  have ab11 := ab10.trans hb11
  have Z11 : VB (w11.alloc (.cells (idv (List.replicate 32 0)).toArray 24)) w11.heap.size (idv (List.replicate 32 0)) := VB.box (xs := (idv (List.replicate 32 0)).toArray) (T := 24) (by (repeat (first | exact new_plain wnA | with_reducible refine old_alloc ?_ | with_reducible refine old_drew ?_ | with_reducible refine old_set ?_ wnA | with_reducible refine old_ab (by assumption) ?_)))
  replace Dc := Dc.ab hb11
  replace Vc := Vc.ab hb11
  replace rc := rc.ab hb11
  replace rC := rC.ab hb11
  go_wp2_with (refine list_stV (o := ⟨none, _, _, _, _, _⟩) (us := idv D) _ infoId rfl _ _ rfl rfl rfl Z11 ((idv_len lD.out).symm) (idv_len lD.out) (idv_one _) ?_
               intro w12 h12
               have ab12' : Ab w11 w12 := h12.ab _ ((Ab.refl _).alloc _) (Nat.le_refl _)
               have E12 := h12.v)
  replace Dc := Dc.ab ab12'
  replace Vc := Vc.ab ab12'
  replace rc := rc.ab ab12'
  replace rC := rC.ab ab12'
  have ab12 := ab11.trans ab12'
  clear h12 ab12' Z11 ab11 hb11 ab10
  refine (hP.start _ ab12).mono ?_
  rintro e w13 ⟨rfl, hb13⟩
  replace Dc := Dc.ab hb13
  replace Vc := Vc.ab hb13
  replace rc := rc.ab hb13
  replace rC := rC.ab hb13
  replace E12 := E12.ab hb13
  have ab13 := ab12.trans hb13
  clear hb13 ab12
  go_wp2_with fail
  refine (hP.write [] L3 L3 0 (L3.length : Int) none 0 A3 d3 _ ab13 (Lib.hid rfl) (Lib.hid rfl) (Lib.hid rfl) (by rw [T0.out]; exact RB.nil) (by rw [T0.out]; exact Nat.le_refl _) rC dC (by omega) (by omega)).mono ?_
  rintro e w14 ⟨R4, c4, rfl, r4, k4, hb14⟩
  replace Dc := Dc.ab hb14
  replace Vc := Vc.ab hb14
  replace rc := rc.ab hb14
  replace E12 := E12.ab hb14
  have ab14 := ab13.trans hb14
  clear hb14 ab13 rC dC
  have Y14 : VB (w14.alloc (.cells #[.int .u32 0, .int .u32 0, .int .u32 0, .int .u32 0, .int .u32 0, .int .u32 0, .int .u32 0, .int .u32 0, .slice none 0 0, .int .i64 0] 36)) w14.heap.size (hv W0 none 0 0 0) := VB.box (xs := #[.int .u32 0, .int .u32 0, .int .u32 0, .int .u32 0, .int .u32 0, .int .u32 0, .int .u32 0, .int .u32 0, .slice none 0 0, .int .i64 0]) (T := 36) (by (repeat (first | exact new_plain wnA | with_reducible refine old_alloc ?_ | with_reducible refine old_drew ?_ | with_reducible refine old_set ?_ wnA | with_reducible refine old_ab (by assumption) ?_)))
  go_upto_region 10 with (first
    | (refine list_stV (o := ⟨none, _, _, _, _, _⟩) (us := hv (F L3) R4 (T L3).length c4 (L3.length : Int)) _ infoH rfl _ _ rfl rfl rfl Y14 (hv_len2 _ _ _ _ _ _ _ _ _ _) (hv_len _ _ _ _ _) (hv_one _ _ _ _ _) ?_
       intro w15 h15
       have ab15' : Ab w14 w15 := h15.ab _ ((Ab.refl _).alloc _) (Nat.le_refl _)
       have G15 := h15.v
       have D15 := Dc.ab ab15'
       have E15 := E12.ab ab15'
       have V15 := Vc.ab ab15'
       have y107 := V15.at 9 rfl
       have ab15 := ab14.trans ab15'
       have rc15 := rc.ab ab15'
       have r415 := r4.zero.ab ab15'))
  clear hcc hcb hca ha hb hc ka kb kc hab' lab labc nab nabc habc T0 hE8 HD rc Dc Vc E12
  clear Y14 r4 k4 ab14
  clear ab6 ab7 ab8 V4 V6 Y2 lt3 lt5 zA zz8 ha0 l3
  have H32 := hE32
  go_wp2_with (first
    | (refine list_ldG (o := ⟨some 92, _, _, _, _, _⟩) _ infoId Tryd.underlying24 rfl (by kernel_rfl) _ rfl rfl D15 (idv_len lD.out) ?_)
    | (refine list_ldG (o := ⟨some 93, _, _, _, _, _⟩) _ infoId Tryd.underlying24 rfl (by kernel_rfl) _ rfl rfl E15 (idv_len lD.out) ?_)
    | (refine list_ldG (o := ⟨some 101, _, _, _, _, _⟩) _ infoH Tryd.underlying36 rfl (by kernel_rfl) _ rfl rfl V15 (hv_len _ _ _ _ _) ?_)
    | (refine list_ldG (o := ⟨some 102, _, _, _, _, _⟩) _ infoH Tryd.underlying36 rfl (by kernel_rfl) _ rfl rfl G15 (hv_len _ _ _ _ _) ?_))
  refine (same_true (F L3) R3 R4 (T L3) c3 c4 (L3.length : Int) _ rc15 r415 (by have := hP.tl L3; omega)).mono ?_
  rintro e w16 ⟨rfl, hb16⟩
  replace y107 := hb16.at y107
  clear D15 E15 V15 G15 rc15 r415
  go_wp2_with fail
  refine (alive_true _ (hG.ab (ab15.trans hb16))).mono ?_
  rintro e w17 ⟨rfl, hb17⟩
  go_wp2
  go_ret
  exact ⟨rfl, ab15.trans (hb16.trans hb17)⟩
theorem parts_walk (w : World) (hG : Glob w) (A B C : Option Addr) (a b c : List UInt8) (ca cb cc : Nat) (ha : RB w 0 A a) (hb : RB w 0 B b) (hc : RB w 0 C c) (hca : a.length ≤ ca) (hcb : b.length ≤ cb) (hcc : c.length ≤ cc) :
    Calls Tryd.prog 5 #[.slice A a.length ca, .slice B b.length cb, .slice C c.length cc] w (RetTrue w) := by
  by_cases h : 1000 < a.length ∨ 1000 < b.length ∨ 1000 < c.length
  · exact parts_great w hG A B C a b c ca cb cc h
  · exact parts_small w hG _ _ _ (pkg w hG) A B C a b c ca cb cc ha hb hc hca hcb hcc (by omega) (by omega) (by omega)
end Go.Proofs.YtmechdddhfcckaaDoor
