/- CodecOne, walked. Own work. -/
import Derived.Test.YtllcdmohipcegaaCvLawB
set_option linter.unusedVariables false
set_option linter.unusedSimpArgs false
namespace Go.Proofs.Ytllcdmohipcegaa
open Go.RowKit
open Codec (V)

/-- Different values: none of their bytes begins with the other ones. -/
theorem apart {v u : V} (hv : Codec.check v = 0) (hu : Codec.check u = 0) (wv : Codec.wf 6 v) (wu : Codec.wf 6 u) (h : v ≠ u) : ¬ Codec.enc 6 u <+: Codec.enc 6 v ∧ ¬ Codec.enc 6 v <+: Codec.enc 6 u := by
  refine ⟨fun ⟨t, ht⟩ => h ?_, fun ⟨t, ht⟩ => h ?_⟩
  · exact Codec.enc_prefix hv hu wv wu (t := []) (s := t) (by rw [List.append_nil]; exact ht.symm)
  · exact Codec.enc_prefix hv hu wv wu (t := t) (s := []) (by rw [List.append_nil]; exact ht)
set_option maxRecDepth 100000 in
set_option maxHeartbeats 8000000 in
theorem one_walk (D1 D2 : Nat) (S1 S2 : Nat → Prop) (x y : VM) (A : Option Addr) (b : List UInt8) (c : Nat) (w : World) (hx : VL D1 w S1 x) (hy : VL D2 w S2 y) (hb : RB w 0 A b) (hc : b.length ≤ c) (lb : b.length ≤ 9223372036854775807) :
    Calls Try.prog 6 #[x.val, y.val, .slice A b.length c] w (RetTrue w) := by
  have wf1 := hx.wf
  have wf2 := hy.wf
  have HF1 := fun w' (hk' : Ab w w') => fit_any D1 S1 x w' (hx.ab hk')
  have HF2 := fun w' (hk' : Ab w w') => fit_any D2 S2 y w' (hy.ab hk')
  have HE1 := Lib.hid (fun (hf : Fits x.v) w' (hk' : Ab w w') => encode_any D1 S1 x w' (hx.ab hk') hf)
  have HE2 := Lib.hid (fun (hf : Fits y.v) w' (hk' : Ab w w') => encode_any D2 S2 y w' (hy.ab hk') hf)
  obtain ⟨v1, hv1⟩ : ∃ v1, v1 = x.v := ⟨_, rfl⟩
  obtain ⟨v2, hv2⟩ : ∃ v2, v2 = y.v := ⟨_, rfl⟩
  rw [← hv1] at HF1 HE1 wf1
  rw [← hv2] at HF2 HE2 wf2
  have HV1 := Lib.hid hv1
  have HV2 := Lib.hid hv2
  have HX := Lib.hid hx
  have HY := Lib.hid hy
  have HB := Lib.hid hb
  have WF1 := Lib.hid wf1
  have WF2 := Lib.hid wf2
  clear hv1 hv2 hx hy hb wf1 wf2
  obtain ⟨k1, n1, A1, s1, c1, L1, l1, d1⟩ := x
  obtain ⟨k2, n2, A2, s2, c2, L2, l2, d2⟩ := y
  unfold VM.val VM.cells at HF1 HF2 HE1 HE2 ⊢
  have V0 : VB ((w.alloc (.cells #[.int .u8 (k1 : Int), .int .i64 n1, .slice A1 s1.length c1, .slice L1 l1.length d1] 26)).alloc (.cells #[.int .u8 (k2 : Int), .int .i64 n2, .slice A2 s2.length c2, .slice L2 l2.length d2] 26)) w.heap.size [.int .u8 (k1 : Int), .int .i64 n1, .slice A1 s1.length c1, .slice L1 l1.length d1] := VB.box (xs := #[.int .u8 (k1 : Int), .int .i64 n1, .slice A1 s1.length c1, .slice L1 l1.length d1]) (T := 26) (by (repeat (first | exact new_plain wnA | with_reducible refine old_alloc ?_ | with_reducible refine old_drew ?_ | with_reducible refine old_set ?_ wnA | with_reducible refine old_ab (by assumption) ?_)))
  have U0 : VB ((w.alloc (.cells #[.int .u8 (k1 : Int), .int .i64 n1, .slice A1 s1.length c1, .slice L1 l1.length d1] 26)).alloc (.cells #[.int .u8 (k2 : Int), .int .i64 n2, .slice A2 s2.length c2, .slice L2 l2.length d2] 26)) (w.heap.size + 1) [.int .u8 (k2 : Int), .int .i64 n2, .slice A2 s2.length c2, .slice L2 l2.length d2] := VB.box (xs := #[.int .u8 (k2 : Int), .int .i64 n2, .slice A2 s2.length c2, .slice L2 l2.length d2]) (T := 26) (by (repeat (first | exact new_plain wnA | with_reducible refine old_alloc ?_ | with_reducible refine old_drew ?_ | with_reducible refine old_set ?_ wnA | with_reducible refine old_ab (by assumption) ?_)))
  have ab0 : Ab w ((w.alloc (.cells #[.int .u8 (k1 : Int), .int .i64 n1, .slice A1 s1.length c1, .slice L1 l1.length d1] 26)).alloc (.cells #[.int .u8 (k2 : Int), .int .i64 n2, .slice A2 s2.length c2, .slice L2 l2.length d2] 26)) := abA
  go_enter Try.func6, Try.ntmps6
  go_wp2_with fail
  refine (HF1 _ ab0).mono ?_
  rintro e w1 ⟨r1, rfl, hr1, hb1⟩
  have ab1 := ab0.trans hb1
  have V1 := V0.ab hb1
  have U1 := U0.ab hb1
  generalize w.heap.size = g0 at *
  clear V0 U0 ab0 hb1 HF1
  have y0 := U1.at 0 rfl
  have y1 := U1.at 1 rfl
  have y2 := U1.at 2 rfl
  have y3 := U1.at 3 rfl
  cases r1 with
  | false =>
    clear hr1 HF2 HE1 HE2
    go_wp2_with fail
    refine (valive_any _).mono ?_
    rintro e wz ⟨rfl, hbz⟩
    go_wp2
    go_ret
    exact ⟨rfl, ab1.trans hbz⟩
  | true =>
    obtain ⟨hc1, hf1⟩ := hr1.out rfl
    have HC1 := Lib.hid hc1
    have HFF1 := Lib.hid hf1
    clear hc1 hf1 hr1
    go_wp2_with fail
    refine (HF2 _ ab1).mono ?_
    rintro e w2 ⟨r2, rfl, hr2, hb2⟩
    have ab2 := ab1.trans hb2
    have V2 := V1.ab hb2
    have U2 := U1.ab hb2
    clear V1 U1 hb2 HF2 ab1 y0 y1 y2 y3
    cases r2 with
    | false =>
      clear hr2 HE1 HE2
      go_wp2_with fail
      refine (valive_any _).mono ?_
      rintro e wz ⟨rfl, hbz⟩
      go_wp2
      go_ret
      exact ⟨rfl, ab2.trans hbz⟩
    | true =>
      obtain ⟨hc2, hf2⟩ := hr2.out rfl
      have HC2 := Lib.hid hc2
      have HFF2 := Lib.hid hf2
      clear hc2 hf2 hr2
      by_cases h3 : 3000 < b.length
      · have h3' : (3000 : Int) < (b.length : Int) := by omega
        clear h3 HE1 HE2
        go_wp2_with fail
        refine (valive_any _).mono ?_
        rintro e wz ⟨rfl, hbz⟩
        go_wp2
        go_ret
        exact ⟨rfl, ab2.trans hbz⟩
      · have h3' : ¬ (3000 : Int) < (b.length : Int) := by omega
        have hbl : b.length ≤ 3000 := by omega
        clear h3
        have hk1 := check_kinds HC1.out
        have hk2 := check_kinds HC2.out
        obtain ⟨HK1, hl1⟩ := hk1
        obtain ⟨HK2, hl2⟩ := hk2
        replace HK1 := Lib.hid HK1
        replace HK2 := Lib.hid HK2
        go_wp2_with (refine list_ldV (o := ⟨some 32, _, _, _, _, _⟩) _ infoV Try.underlying26 rfl rfl _ rfl rfl V2 rfl ?_)
        refine (HE1.out HFF1.out _ ab2).mono ?_
        rintro e w3 ⟨B3, e3, M3, er3, rfl, h3, O3, hb3⟩
        obtain ⟨rfl, rfl⟩ := Prod.mk.inj (h3.out.symm.trans (encode_ok HC1.out))
        have ab3 := ab2.trans hb3
        have V3 := V2.ab hb3
        have U3 := U2.ab hb3
        clear V2 U2 hb3 h3 ab2
        go_wp2_with (refine list_ldV (o := ⟨some 37, _, _, _, _, _⟩) _ infoV Try.underlying26 rfl rfl _ rfl rfl U3 rfl ?_)
        refine (HE2.out HFF2.out _ ab3).mono ?_
        rintro e w4 ⟨B4, e4, M4, er4, rfl, h4, O4, hb4⟩
        obtain ⟨rfl, rfl⟩ := Prod.mk.inj (h4.out.symm.trans (encode_ok HC2.out))
        have ab4 := ab3.trans hb4
        have V4 := V3.ab hb4
        have U4 := U3.ab hb4
        have O34 := O3.keep hb4
        clear V3 U3 hb4 h4 ab3 O3
        have hd : Codec.decode (Codec.enc 6 v1) = (v1, 0) := Codec.decode_enc HC1.out (wf_kinds 6 D1 _ HK1.out WF1.out)
        have HD := Lib.hid hd
        have hap := Lib.hid (fun h => apart HC1.out HC2.out (wf_kinds 6 D1 _ HK1.out WF1.out) (wf_kinds 6 D2 _ HK2.out WF2.out) h)
        clear hd
        generalize Codec.enc 6 v1 = E1 at *
        generalize Codec.enc 6 v2 = E2 at *
        go_wp2_with fail
        refine (decode_any B3 E1 e3 _ O34.rb.zero O34.le (by omega)).mono ?_
        rintro e w5 ⟨x5, er5, rfl, h5, q5, hb5⟩
        obtain ⟨e5, rfl⟩ := Prod.mk.inj (h5.out.symm.trans HD.out)
        have ab5 := ab4.trans hb5
        have V5 := V4.ab hb5
        have U5 := U4.ab hb5
        have O35 := O34.keep hb5
        have O45 := O4.keep hb5
        have Z5 : VB (w5.alloc (.cells VM.zero.cells.toArray 26)) w5.heap.size VM.zero.cells := VB.box (xs := VM.zero.cells.toArray) (T := 26) (by (repeat (first | exact new_plain wnA | with_reducible refine old_alloc ?_ | with_reducible refine old_drew ?_ | with_reducible refine old_set ?_ wnA | with_reducible refine old_ab (by assumption) ?_)))
        have hs5 := V5.lt
        have hs5' := U5.lt
        clear V4 U4 hb5 h5 ab4 O34 O4
        go_upto_region 6 with (refine list_stV (o := ⟨none, _, _, _, _, _⟩) (us := x5.cells) _ infoV rfl _ _ rfl rfl rfl Z5 rfl rfl x5.one ?_; intro w6 h6)
        have b56 : Ab w5 w6 := h6.ab w5 ((Ab.refl _).alloc _) (Nat.le_refl _)
        have X6 : VB w6 w5.heap.size x5.cells := h6.v
        have V6 := V5.ab b56
        have U6 := U5.ab b56
        have O36 := O35.keep b56
        have O46 := O45.keep b56
        have ab6 := ab5.trans b56
        have q6 := q5.ab b56
        clear h6 Z5 V5 U5 O35 O45 ab5 q5 b56
        have HQ := same_any (max 6 D1) _ _ x5 ⟨k1, n1, A1, s1, c1, L1, l1, d1⟩ w6 (q6.le (Nat.le_max_left _ _)) ((HX.out.ab ab6).le (Nat.le_max_right _ _))
        rw [e5, ← HV1.out, Codec.same_refl] at HQ
        unfold VM.val at HQ
        go_wp2_with (first
          | (refine list_ldG7 (o := ⟨some 57, _, _, _, _, _⟩) _ infoV Try.underlying26 rfl (by kernel_rfl) _ rfl rfl X6 rfl ?_)
          | (refine list_ldG7 (o := ⟨some 58, _, _, _, _, _⟩) _ infoV Try.underlying26 rfl (by kernel_rfl) _ rfl rfl V6 rfl ?_))
        refine HQ.mono ?_
        rintro e w7 ⟨rfl, hb7⟩
        have ab7 := ab6.trans hb7
        have V7 := V6.ab hb7
        have U7 := U6.ab hb7
        have O37 := O36.keep hb7
        have O47 := O46.keep hb7
        clear HQ X6 V6 U6 O36 O46 ab6 q6 hb7
        have HQ2 := same_any (max D1 D2) _ _ ⟨k1, n1, A1, s1, c1, L1, l1, d1⟩ ⟨k2, n2, A2, s2, c2, L2, l2, d2⟩ w7 ((HX.out.ab ab7).le (Nat.le_max_left _ _)) ((HY.out.ab ab7).le (Nat.le_max_right _ _))
        have hsi := Codec.same_iff (d := max D1 D2) (b := v2) ((HX.out.ab ab7).le (Nat.le_max_left D1 D2)).dep
        rw [← HV1.out] at hsi
        rw [← HV1.out, ← HV2.out] at HQ2
        unfold VM.val at HQ2
        have HSI := Lib.hid hsi
        clear hsi
        go_wp2_with (first
          | (refine list_ldG7 (o := ⟨some 63, _, _, _, _, _⟩) _ infoV Try.underlying26 rfl (by kernel_rfl) _ rfl rfl V7 rfl ?_)
          | (refine list_ldG7 (o := ⟨some 64, _, _, _, _, _⟩) _ infoV Try.underlying26 rfl (by kernel_rfl) _ rfl rfl U7 rfl ?_))
        refine HQ2.mono ?_
        rintro e w8 ⟨rfl, hb8⟩
        have ab8 := ab7.trans hb8
        have O38 := O37.keep hb8
        have O48 := O47.keep hb8
        clear HQ2 V7 U7 O37 O47 ab7 hb8
        rcases hsm : Codec.same (max D1 D2) v1 v2 with _ | _
        · have hne : v1 ≠ v2 := fun h => by rw [HSI.out.2 h] at hsm; cases hsm
          obtain ⟨p1, p2⟩ := hap.out hne
          have hl1' := hl1
          have ST1 := vstarts_any B3 B4 e3 e4 E1 E2 w8 O38.rb.zero O48.rb.zero O38.le (by omega) (by omega)
          have P1 := Lib.hid p1
          have P2 := Lib.hid p2
          clear hsm hne p1 p2 HSI hap HD
          go_wp2_with fail
          refine ST1.mono ?_
          rintro e w9 ⟨r9, h9, rfl, hb9⟩
          have ab9 := ab8.trans hb9
          cases r9 with
          | true => exact absurd (h9.out.1 rfl) P1.out
          | false =>
            have ST2 := vstarts_any B4 B3 e4 e3 E2 E1 w9 (O48.keep hb9).rb.zero (O38.keep hb9).rb.zero O48.le (by omega) (by omega)
            clear ST1 h9
            go_wp2_with fail
            refine ST2.mono ?_
            rintro e w10 ⟨r10, h10, rfl, hb10⟩
            have ab10 := ab9.trans hb10
            cases r10 with
            | true => exact absurd (h10.out.1 rfl) P2.out
            | false =>
              clear ST2 h10 hb10 hb9 ab9 ab8 O38 O48 P1 P2
              go_wp2_with fail
              refine (decode_any A b c _ (HB.out.ab ab10) hc lb).mono ?_
              rintro e w11 ⟨x11, er11, rfl, h11, q11, hb11⟩
              have ab11 := ab10.trans hb11
              have Z11 : VB (w11.alloc (.cells VM.zero.cells.toArray 26)) w11.heap.size VM.zero.cells := VB.box (xs := VM.zero.cells.toArray) (T := 26) (by (repeat (first | exact new_plain wnA | with_reducible refine old_alloc ?_ | with_reducible refine old_drew ?_ | with_reducible refine old_set ?_ wnA | with_reducible refine old_ab (by assumption) ?_)))
              clear hb11
              go_upto_region 9 with (refine list_stV (o := ⟨none, _, _, _, _, _⟩) (us := x11.cells) _ infoV rfl _ _ rfl rfl rfl Z11 rfl rfl x11.one ?_; intro w12 h12)
              have b12 : Ab w11 w12 := h12.ab w11 ((Ab.refl _).alloc _) (Nat.le_refl _)
              have X12 : VB w12 w11.heap.size x11.cells := h12.v
              have ab12 := ab11.trans b12
              have q12 := q11.ab b12
              clear h12 Z11 q11 b12 ab11
              by_cases he : er11 = 0
              · subst he
                obtain ⟨hck, hbe⟩ := decode_ok (by omega) h11.out
                have hft : Fits x11.v := fun _ => by rw [← hbe]; omega
                have HEN := encode_any 6 _ x11 w12 q12 hft
                have HEK : Hid (Codec.encode x11.v = (b, 0)) := by unfold Hid; rw [encode_ok hck, ← hbe]
                have HCK := Lib.hid hck
                have HFT := Lib.hid hft
                unfold VM.val at HEN
                clear hck hbe hft h11
                go_wp2_with (refine list_ldV (o := ⟨some 91, _, _, _, _, _⟩) _ infoV Try.underlying26 rfl rfl _ rfl rfl X12 rfl ?_)
                refine HEN.mono ?_
                rintro e w13 ⟨B13, e13, M13, er13, rfl, h13, O13, hb13⟩
                obtain ⟨rfl, rfl⟩ := Prod.mk.inj (h13.out.symm.trans HEK.out)
                have ab13 := ab12.trans hb13
                have X13 := X12.ab hb13
                have q13 := q12.ab hb13
                have SB := sameBytes_all B13 A e13 c M13 M13 w13 O13.rb.zero (HB.out.ab ab13) (by omega) (by omega)
                rw [beq_self_eq_true] at SB
                clear HEN h13 HEK X12 q12 hb13
                go_wp2_with fail
                refine SB.mono ?_
                rintro e w14 ⟨rfl, n14, rfl⟩
                have RC := rcheck_any 6 _ x11 (w13.drewN n14) (q13.ab (show Ab w13 (w13.drewN n14) from abA)) HFT.out
                rw [HCK.out] at RC
                have X14 := X13.ab (show Ab w13 (w13.drewN n14) from abA)
                unfold VM.val at RC
                clear SB
                go_wp2_with (refine list_ldG7 (o := ⟨some 103, _, _, _, _, _⟩) _ infoV Try.underlying26 rfl (by kernel_rfl) _ rfl rfl X14 rfl ?_)
                refine RC.mono ?_
                rintro e w15 ⟨rfl, hb15⟩
                have ab15 := (ab13.drewN n14).trans hb15
                clear RC X13 X14 q13
                go_wp2_with fail
                refine (valive_any _).mono ?_
                rintro e wz ⟨rfl, hbz⟩
                go_wp2
                go_ret
                exact ⟨rfl, ab15.trans hbz⟩
              · have h12 := decode_err h11.out he
                subst h12
                clear he h11 q12 X12
                go_wp2_with fail
                refine (valive_any _).mono ?_
                rintro e wz ⟨rfl, hbz⟩
                go_wp2
                go_ret
                exact ⟨rfl, ab12.trans hbz⟩
        · clear hsm HSI hap HD O38 O48
          go_wp2_with fail
          refine (decode_any A b c _ (HB.out.ab ab8) hc lb).mono ?_
          rintro e w11 ⟨x11, er11, rfl, h11, q11, hb11⟩
          have ab11 := ab8.trans hb11
          have Z11 : VB (w11.alloc (.cells VM.zero.cells.toArray 26)) w11.heap.size VM.zero.cells := VB.box (xs := VM.zero.cells.toArray) (T := 26) (by (repeat (first | exact new_plain wnA | with_reducible refine old_alloc ?_ | with_reducible refine old_drew ?_ | with_reducible refine old_set ?_ wnA | with_reducible refine old_ab (by assumption) ?_)))
          clear hb11
          go_upto_region 9 with (refine list_stV (o := ⟨none, _, _, _, _, _⟩) (us := x11.cells) _ infoV rfl _ _ rfl rfl rfl Z11 rfl rfl x11.one ?_; intro w12 h12)
          have b12 : Ab w11 w12 := h12.ab w11 ((Ab.refl _).alloc _) (Nat.le_refl _)
          have X12 : VB w12 w11.heap.size x11.cells := h12.v
          have ab12 := ab11.trans b12
          have q12 := q11.ab b12
          clear h12 Z11 q11 b12 ab11
          by_cases he : er11 = 0
          · subst he
            obtain ⟨hck, hbe⟩ := decode_ok (by omega) h11.out
            have hft : Fits x11.v := fun _ => by rw [← hbe]; omega
            have HEN := encode_any 6 _ x11 w12 q12 hft
            have HEK : Hid (Codec.encode x11.v = (b, 0)) := by unfold Hid; rw [encode_ok hck, ← hbe]
            have HCK := Lib.hid hck
            have HFT := Lib.hid hft
            unfold VM.val at HEN
            clear hck hbe hft h11
            go_wp2_with (refine list_ldV (o := ⟨some 91, _, _, _, _, _⟩) _ infoV Try.underlying26 rfl rfl _ rfl rfl X12 rfl ?_)
            refine HEN.mono ?_
            rintro e w13 ⟨B13, e13, M13, er13, rfl, h13, O13, hb13⟩
            obtain ⟨rfl, rfl⟩ := Prod.mk.inj (h13.out.symm.trans HEK.out)
            have ab13 := ab12.trans hb13
            have X13 := X12.ab hb13
            have q13 := q12.ab hb13
            have SB := sameBytes_all B13 A e13 c M13 M13 w13 O13.rb.zero (HB.out.ab ab13) (by omega) (by omega)
            rw [beq_self_eq_true] at SB
            clear HEN h13 HEK X12 q12 hb13
            go_wp2_with fail
            refine SB.mono ?_
            rintro e w14 ⟨rfl, n14, rfl⟩
            have RC := rcheck_any 6 _ x11 (w13.drewN n14) (q13.ab (show Ab w13 (w13.drewN n14) from abA)) HFT.out
            rw [HCK.out] at RC
            have X14 := X13.ab (show Ab w13 (w13.drewN n14) from abA)
            unfold VM.val at RC
            clear SB
            go_wp2_with (refine list_ldG7 (o := ⟨some 103, _, _, _, _, _⟩) _ infoV Try.underlying26 rfl (by kernel_rfl) _ rfl rfl X14 rfl ?_)
            refine RC.mono ?_
            rintro e w15 ⟨rfl, hb15⟩
            have ab15 := (ab13.drewN n14).trans hb15
            clear RC X13 X14 q13
            go_wp2_with fail
            refine (valive_any _).mono ?_
            rintro e wz ⟨rfl, hbz⟩
            go_wp2
            go_ret
            exact ⟨rfl, ab15.trans hbz⟩
          · have h12 := decode_err h11.out he
            subst h12
            clear he h11 q12 X12
            go_wp2_with fail
            refine (valive_any _).mono ?_
            rintro e wz ⟨rfl, hbz⟩
            go_wp2
            go_ret
            exact ⟨rfl, ab12.trans hbz⟩
end Go.Proofs.Ytllcdmohipcegaa
