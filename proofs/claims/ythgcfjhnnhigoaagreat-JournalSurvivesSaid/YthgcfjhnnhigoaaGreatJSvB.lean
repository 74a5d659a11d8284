/- JournalSurvives: the steps that sync, make a checkpoint, or do nothing. Own work. -/
import Derived.Test.YthgcfjhnnhigoaaGreatJSvC
set_option linter.unusedVariables false
set_option linter.unusedSimpArgs false
namespace Go.Proofs.YthgcfjhnnhigoaaGreat
open Go.RowKit

theorem tmod2 {v : Int} (h : 7 < v) : v.tmod 2 = v % 2 ∧ IntKind.i64.wrap (v % 2) = v % 2 := ⟨IntWalk.rem_in _ _ (by omega), IntWalk.i64_in _ (by omega)⟩
set_option maxRecDepth 1000000 in
set_option maxHeartbeats 9600000 in
theorem sv_switch (x : JX) (w wr : World) (A : Option Addr) (c0 : Nat) (k keep : Int) (ms : List Jour.Move) (HM : Mvs w 0 A ms) (l20 : ms.length ≤ 20) (i : Nat) (hi : i < ms.length) (act : Act) (h : VPre x w A ms.length c0 k keep i act wr)
    (K : Act → World → Prop) (Q : Exit → Act → World → Prop)
    (hQ : ∀ ch (x : Act) (wz : World) o u, Q (.panic ch) (x.put o u) wz → Q (.panic ch) x wz)
    (hK : ∀ a' w', VMid x w A ms.length c0 k keep i a' w' → K a' w') : Code.wp Tryz.prog svSwitch (Exit.then K Q) act wr := by
  obtain ⟨r, m, g, cs, sts, safe, rs, n, c, b15, hd, ⟨hs, f1, f2, f3, f4, f9, f10, f11, f14⟩, f15, f16, V4, V15, hb15, hg15, J, hO, BW, hSv⟩ := h
  obtain ⟨T, d⟩ := act
  simp only at hd hs f1 f2 f3 f4 f9 f10 f11 f14 f15 f16
  subst hd
  obtain ⟨gg, hg, hT⟩ := opq_lit 253 T hs
  rw [lit_253] at hT
  have e1 := (hg 1).trans f1; have e2 := (hg 2).trans f2; have e3 := (hg 3).trans f3; have e4 := (hg 4).trans f4; have e9 := (hg 9).trans f9; have e10 := (hg 10).trans f10; have e11 := (hg 11).trans f11; have e14 := (hg 14).trans f14
  have e15 := (hg 15).trans f15; have e16 := (hg 16).trans f16
  clear hg hs f1 f2 f3 f4 f9 f10 f11 f14 f15 f16
  subst hT
  rw [e1, e2, e3, e4, e9, e10, e11, e14, e15, e16]
  clear e1 e2 e3 e4 e9 e10 e11 e14 e15 e16
  obtain ⟨ad, hA, _, c1, c2⟩ := (HM.ab BW).at_ hi
  subst hA
  have i0 : (0 : Int) ≤ (i : Int) := by omega
  have i1 : (i : Int) < (ms.length : Int) := by omega
  have hsl : sts.length ≤ 21 := by have := hSv.out.many; omega
  have wl : IntKind.i64.wrap ((sts.length : Int) - 1) = (sts.length : Int) - 1 := IntWalk.i64_in _ (by have := hSv.out.pos; omega)
  have z15 := V15.lt
  generalize hmi : ms[i] = mv at c1 c2
  obtain ⟨mc, mx⟩ := mv
  dsimp only at c1 c2
  have HMI := Lib.hid hmi
  clear hmi
  by_cases h7 : 7 < mc
  · have d7 : decide (7 < mc) = true := by simpa using h7
    obtain ⟨t1, t2⟩ := tmod2 h7
    by_cases h2 : mc % 2 = 0
    · have d2 : (mc % 2 == 0) = true := by simpa using h2
      have HSY := Lib.hid hSv.out.sync
      clear h7 h2
      conv => arg 2; whnf
      go_wp2_with (first
        | (refine list_stJ rfl _ _ rfl rfl rfl ((V15.ab hb5).var rfl) rfl rfl ?_
           intro w6 h6
           have V4' := ((V4.ab hb5).mid h6.m (by omega)).var rfl
           have V15' := h6.v
           have J' := JM.stored J5 h6
           have hO' := (hO.ab hb5).stored h6 (by omega)
           have BW' := h6.ab w (BW.trans hb5) (by omega)
           clear h6)
        | (refine list_ldJ rfl _ rfl rfl V4 rfl ?_))
      refine (jsync_any m r _ J (some rs) hSv.out.good.is).mono ?_
      rintro e w5 ⟨r5, e5, m5, hr5, rfl, J5, hb5⟩
      obtain ⟨h51, rfl⟩ := Prod.mk.inj (hr5.out.trans HSY.out.1)
      have H5 := Lib.hid h51
      clear hr5 h51
      go_wp2_with (first
        | (refine list_stJ rfl _ _ rfl rfl rfl ((V15.ab hb5).var rfl) rfl rfl ?_
           intro w6 h6
           have V4' := ((V4.ab hb5).mid h6.m (by omega)).var rfl
           have V15' := h6.v
           have J' := JM.stored J5 h6
           have hO' := (hO.ab hb5).stored h6 (by omega)
           have BW' := h6.ab w (BW.trans hb5) (by omega)
           clear h6))
      exact ⟨r5, m5, g, cs, sts, (sts.length : Int) - 1, rs, n, c, b15, rfl, ⟨rfl, rfl, rfl, rfl, rfl, rfl, rfl, rfl, rfl⟩, rfl, rfl, V4', V15', hb15, J', hO', BW', Lib.hid (by rw [H5.out]; exact HSY.out.2)⟩
    · have d2 : (mc % 2 == 0) = false := by simpa using h2
      have HSA := Lib.hid (hSv.out.save (by omega))
      clear h7 h2
      conv => arg 2; whnf
      go_wp2_with (first
        | (refine list_ldJ rfl _ rfl rfl V4 rfl ?_))
      refine (jsave_any m r _ J (some rs) hSv.out.good.is).mono ?_
      rintro e w5 ⟨r5, e5, m5, hr5, rfl, J5, hb5⟩
      obtain ⟨h51, rfl⟩ := Prod.mk.inj (hr5.out.trans HSA.out.1)
      have H5 := Lib.hid h51
      clear hr5 h51
      go_wp2_with (first
        | (refine list_stJ rfl _ _ rfl rfl rfl ((V15.ab hb5).var rfl) rfl rfl ?_
           intro w6 h6
           have V4' := ((V4.ab hb5).mid h6.m (by omega)).var rfl
           have V15' := h6.v
           have J' := JM.stored J5 h6
           have hO' := (hO.ab hb5).stored h6 (by omega)
           have BW' := h6.ab w (BW.trans hb5) (by omega)
           clear h6))
      exact ⟨r5, m5, g, cs, sts, (sts.length : Int) - 1, [], r.l.next, r.c, b15, rfl, ⟨rfl, rfl, rfl, rfl, rfl, rfl, rfl, rfl, rfl⟩, rfl, rfl, V4', V15', hb15, J', hO', BW', Lib.hid (by rw [H5.out]; exact HSA.out.2)⟩
  · have d7 : decide (7 < mc) = false := by simpa using h7
    by_cases hv : Jour.Valid ⟨mc, mx⟩
    · have HV := Lib.hid hv
      clear h7 hv
      conv => arg 2; whnf
      go_wp2_with fail
      refine (jrvalid_any ⟨mc, mx⟩ _ true (decide_eq_true HV.out)).mono ?_
      rintro e w5 ⟨rfl, hb5⟩
      go_upto_if 98 with fail
      refine wp_cond (t := true) (by first | rfl | (simp [Act.eval]; done)) ?_
      exact sv_do x w w5 (some ad) c0 k keep ms HM l20 i hi (by rw [HMI.out]; exact HV.out) _ ⟨r, m, g, cs, sts, safe, rs, n, c, b15, rfl, ⟨rfl, rfl, rfl, rfl, rfl, rfl, rfl, rfl, rfl⟩, rfl, rfl, V4.ab hb5, V15.ab hb5, hb15, hg15, J.ab hb5, hO.ab hb5, BW.trans hb5, hSv⟩ K Q hQ hK
    · have HV := Lib.hid hv
      clear h7 hv
      conv => arg 2; whnf
      go_wp2_with fail
      refine (jrvalid_any ⟨mc, mx⟩ _ false (decide_eq_false HV.out)).mono ?_
      rintro e w5 ⟨rfl, hb5⟩
      go_wp2
      exact ⟨r, m, g, cs, sts, safe, rs, n, c, b15, rfl, ⟨rfl, rfl, rfl, rfl, rfl, rfl, rfl, rfl, rfl⟩, rfl, rfl, (V4.ab hb5).var rfl, V15.ab hb5, hb15, J.ab hb5, hO.ab hb5, BW.trans hb5, Lib.hid hSv.out.skip⟩
end Go.Proofs.YthgcfjhnnhigoaaGreat
