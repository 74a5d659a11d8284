/- CodecOrder, walked. Own work. -/
import Derived.Test.YtllcdmohipcegaaCvCmpC
import Derived.Test.YtllcdmohipcegaaCodecH
set_option linter.unusedVariables false
set_option linter.unusedSimpArgs false
namespace Go.Proofs.Ytllcdmohipcegaa
open Go.RowKit
open Codec (V)

theorem up_to (d : Nat) : ∀ (D : Nat), d ≤ D → ∀ {v : V}, Codec.kinds d v = true → Codec.kinds D v = true := by
  intro D h
  induction D with
  | zero => intro v hv; obtain rfl : d = 0 := by omega
            exact hv
  | succ D ih =>
    intro v hv
    by_cases he : d = D + 1
    · subst he; exact hv
    · exact (Codec.up D v (ih (by omega) hv)).1
theorem cmpv_ok {D : Nat} {a b : V} (ha : Codec.check a = 0) (hb : Codec.check b = 0) : Codec.cmpv D a b = (Codec.order D a b, 0) := by
  unfold Codec.cmpv
  rw [if_neg (fun h => h ha), if_neg (fun h => h hb)]
set_option maxRecDepth 100000 in
set_option maxHeartbeats 8000000 in
theorem order_at (D : Nat) (hD : 6 ≤ D) (S1 S2 S3 : Nat → Prop) (x y z : VM) (w : World) (hx : VL D w S1 x) (hy : VL D w S2 y) (hz : VL D w S3 z) :
    Calls Try.prog 8 #[x.val, y.val, z.val] w (RetTrue w) := by
  have HF1 := fun w' (hk' : Ab w w') => fit_any D S1 x w' (hx.ab hk')
  have HF2 := fun w' (hk' : Ab w w') => fit_any D S2 y w' (hy.ab hk')
  have HF3 := fun w' (hk' : Ab w w') => fit_any D S3 z w' (hz.ab hk')
  have HX := Lib.hid hx
  have HY := Lib.hid hy
  have HZ := Lib.hid hz
  clear hx hy hz
  obtain ⟨k1, n1, A1, s1, c1, L1, l1, d1⟩ := x
  obtain ⟨k2, n2, A2, s2, c2, L2, l2, d2⟩ := y
  obtain ⟨k3, n3, A3, s3, c3, L3, l3, d3⟩ := z
  unfold VM.val VM.cells at HF1 HF2 HF3 ⊢
  have V0 : VB (((w.alloc (.cells #[.int .u8 (k1 : Int), .int .i64 n1, .slice A1 s1.length c1, .slice L1 l1.length d1] 26)).alloc (.cells #[.int .u8 (k2 : Int), .int .i64 n2, .slice A2 s2.length c2, .slice L2 l2.length d2] 26)).alloc (.cells #[.int .u8 (k3 : Int), .int .i64 n3, .slice A3 s3.length c3, .slice L3 l3.length d3] 26)) w.heap.size [.int .u8 (k1 : Int), .int .i64 n1, .slice A1 s1.length c1, .slice L1 l1.length d1] := VB.box (xs := #[.int .u8 (k1 : Int), .int .i64 n1, .slice A1 s1.length c1, .slice L1 l1.length d1]) (T := 26) (by (repeat (first | exact new_plain wnA | with_reducible refine old_alloc ?_ | with_reducible refine old_drew ?_ | with_reducible refine old_set ?_ wnA | with_reducible refine old_ab (by assumption) ?_)))
  have U0 : VB (((w.alloc (.cells #[.int .u8 (k1 : Int), .int .i64 n1, .slice A1 s1.length c1, .slice L1 l1.length d1] 26)).alloc (.cells #[.int .u8 (k2 : Int), .int .i64 n2, .slice A2 s2.length c2, .slice L2 l2.length d2] 26)).alloc (.cells #[.int .u8 (k3 : Int), .int .i64 n3, .slice A3 s3.length c3, .slice L3 l3.length d3] 26)) (w.heap.size + 1) [.int .u8 (k2 : Int), .int .i64 n2, .slice A2 s2.length c2, .slice L2 l2.length d2] := VB.box (xs := #[.int .u8 (k2 : Int), .int .i64 n2, .slice A2 s2.length c2, .slice L2 l2.length d2]) (T := 26) (by (repeat (first | exact new_plain wnA | with_reducible refine old_alloc ?_ | with_reducible refine old_drew ?_ | with_reducible refine old_set ?_ wnA | with_reducible refine old_ab (by assumption) ?_)))
  have T0 : VB (((w.alloc (.cells #[.int .u8 (k1 : Int), .int .i64 n1, .slice A1 s1.length c1, .slice L1 l1.length d1] 26)).alloc (.cells #[.int .u8 (k2 : Int), .int .i64 n2, .slice A2 s2.length c2, .slice L2 l2.length d2] 26)).alloc (.cells #[.int .u8 (k3 : Int), .int .i64 n3, .slice A3 s3.length c3, .slice L3 l3.length d3] 26)) (w.heap.size + 1 + 1) [.int .u8 (k3 : Int), .int .i64 n3, .slice A3 s3.length c3, .slice L3 l3.length d3] := VB.box (xs := #[.int .u8 (k3 : Int), .int .i64 n3, .slice A3 s3.length c3, .slice L3 l3.length d3]) (T := 26) (by (repeat (first | exact new_plain wnA | with_reducible refine old_alloc ?_ | with_reducible refine old_drew ?_ | with_reducible refine old_set ?_ wnA | with_reducible refine old_ab (by assumption) ?_)))
  have ab0 : Ab w (((w.alloc (.cells #[.int .u8 (k1 : Int), .int .i64 n1, .slice A1 s1.length c1, .slice L1 l1.length d1] 26)).alloc (.cells #[.int .u8 (k2 : Int), .int .i64 n2, .slice A2 s2.length c2, .slice L2 l2.length d2] 26)).alloc (.cells #[.int .u8 (k3 : Int), .int .i64 n3, .slice A3 s3.length c3, .slice L3 l3.length d3] 26)) := abA
  go_enter Try.func8, Try.ntmps8
  go_wp2_with fail
  refine (HF1 _ ab0).mono ?_
  rintro e w1 ⟨r1, rfl, hr1, hb1⟩
  have V1 := V0.ab hb1
  have U1 := U0.ab hb1
  have T1 := T0.ab hb1
  have ab1 := ab0.trans hb1
  clear V0 U0 T0 ab0 hb1
  generalize w.heap.size = g0 at *
  clear HF1
  cases r1 with
  | false =>
    clear hr1
    go_wp2_with fail
    refine (valive_any _).mono ?_
    rintro e wz ⟨rfl, hbz⟩
    go_wp2
    go_ret
    exact ⟨rfl, ab1.trans hbz⟩
  | true =>
    obtain ⟨hc1, hf1⟩ := hr1.out rfl
    have HC1 := Lib.hid hc1
    have HFF1 := Lib.hid hf1
    clear hc1 hf1 hr1
    go_wp2_with (refine list_ldG7 (o := ⟨some 19, _, _, _, _, _⟩) _ infoV Try.underlying26 rfl (by kernel_rfl) _ rfl rfl U1 rfl ?_)
    refine (HF2 _ ab1).mono ?_
    rintro e w2 ⟨r2, rfl, hr2, hb2⟩
    have V2 := V1.ab hb2
    have U2 := U1.ab hb2
    have T2 := T1.ab hb2
    have ab2 := ab1.trans hb2
    clear V1 U1 T1 ab1 hb2

    clear HF2
    cases r2 with
    | false =>
      clear hr2
      go_wp2_with fail
      refine (valive_any _).mono ?_
      rintro e wz ⟨rfl, hbz⟩
      go_wp2
      go_ret
      exact ⟨rfl, ab2.trans hbz⟩
    | true =>
      obtain ⟨hc2, hf2⟩ := hr2.out rfl
      have HC2 := Lib.hid hc2
      have HFF2 := Lib.hid hf2
      clear hc2 hf2 hr2
      go_wp2_with (refine list_ldG7 (o := ⟨some 24, _, _, _, _, _⟩) _ infoV Try.underlying26 rfl (by kernel_rfl) _ rfl rfl T2 rfl ?_)
      refine (HF3 _ ab2).mono ?_
      rintro e w3 ⟨r3, rfl, hr3, hb3⟩
      have V3 := V2.ab hb3
      have U3 := U2.ab hb3
      have T3 := T2.ab hb3
      have ab3 := ab2.trans hb3
      clear V2 U2 T2 ab2 hb3

      clear HF3
      cases r3 with
      | false =>
        clear hr3
        go_wp2_with fail
        refine (valive_any _).mono ?_
        rintro e wz ⟨rfl, hbz⟩
        go_wp2
        go_ret
        exact ⟨rfl, ab3.trans hbz⟩
      | true =>
        obtain ⟨hc3, hf3⟩ := hr3.out rfl
        have HC3 := Lib.hid hc3
        have HFF3 := Lib.hid hf3
        clear hc3 hf3 hr3
        have hk1 := up_to 6 D hD (check_kinds HC1.out).1
        have hk2 := up_to 6 D hD (check_kinds HC2.out).1
        have hk3 := up_to 6 D hD (check_kinds HC3.out).1
        have OD := Codec.order_ord D
        have C12 := fun w' (hk' : Ab w w') => vcmp_any D S1 S2 _ _ w' (HX.out.ab hk') (HY.out.ab hk') HFF1.out HFF2.out
        have C21 := fun w' (hk' : Ab w w') => vcmp_any D S2 S1 _ _ w' (HY.out.ab hk') (HX.out.ab hk') HFF2.out HFF1.out
        have C23 := fun w' (hk' : Ab w w') => vcmp_any D S2 S3 _ _ w' (HY.out.ab hk') (HZ.out.ab hk') HFF2.out HFF3.out
        have C13 := fun w' (hk' : Ab w w') => vcmp_any D S1 S3 _ _ w' (HX.out.ab hk') (HZ.out.ab hk') HFF1.out HFF3.out
        have QQ := fun w' (hk' : Ab w w') => same_any D S1 S2 _ _ w' (HX.out.ab hk') (HY.out.ab hk')
        rw [cmpv_ok HC1.out HC2.out] at C12
        rw [cmpv_ok HC2.out HC1.out] at C21
        rw [cmpv_ok HC2.out HC3.out] at C23
        rw [cmpv_ok HC1.out HC3.out] at C13
        have R1 := OD.rng (VM.v ⟨k1, n1, A1, s1, c1, L1, l1, d1⟩) (VM.v ⟨k2, n2, A2, s2, c2, L2, l2, d2⟩)
        have R2 := OD.rng (VM.v ⟨k2, n2, A2, s2, c2, L2, l2, d2⟩) (VM.v ⟨k1, n1, A1, s1, c1, L1, l1, d1⟩)
        have AN := OD.anti _ _ hk1 hk2
        have TR := Lib.hid (OD.trans _ _ _ hk1 hk2 hk3)
        have ST := Lib.hid (fun h h' h0 => OD.strict hk1 hk2 hk3 h h' h0)
        have ZR := OD.zero _ _ hk1 hk2
        have SM : Hid (Codec.same D (VM.v ⟨k1, n1, A1, s1, c1, L1, l1, d1⟩) (VM.v ⟨k2, n2, A2, s2, c2, L2, l2, d2⟩) = (Codec.order D (VM.v ⟨k1, n1, A1, s1, c1, L1, l1, d1⟩) (VM.v ⟨k2, n2, A2, s2, c2, L2, l2, d2⟩) == 0)) := by
          unfold Hid
          rw [Bool.eq_iff_iff, Codec.same_iff (VL.dep HX.out), beq_iff_eq]
          exact ZR.symm
        generalize Codec.order D (VM.v ⟨k1, n1, A1, s1, c1, L1, l1, d1⟩) (VM.v ⟨k2, n2, A2, s2, c2, L2, l2, d2⟩) = z1 at *
        generalize Codec.order D (VM.v ⟨k2, n2, A2, s2, c2, L2, l2, d2⟩) (VM.v ⟨k1, n1, A1, s1, c1, L1, l1, d1⟩) = z2 at *
        generalize Codec.order D (VM.v ⟨k2, n2, A2, s2, c2, L2, l2, d2⟩) (VM.v ⟨k3, n3, A3, s3, c3, L3, l3, d3⟩) = z3 at *
        generalize Codec.order D (VM.v ⟨k1, n1, A1, s1, c1, L1, l1, d1⟩) (VM.v ⟨k3, n3, A3, s3, c3, L3, l3, d3⟩) = z4 at *
        have jw : IntKind.i64.wrap (-z2) = -z2 := IntWalk.i64_in _ (by omega)
        have jn : (z1 != -z2) = false := by rw [bne_eq_false_iff_eq]; exact AN
        replace AN := Lib.hid AN
        clear hk1 hk2 hk3 OD ZR HC1 HC2 HC3 HFF1 HFF2 HFF3 HX HY HZ
        unfold VM.val at C12 C21 C23 C13 QQ
        unfold VM.cells at C12 C21 C23 C13 QQ
        dsimp only at C12 C21 C23 C13
        go_wp2_with (first
          | (refine list_ldV (o := ⟨some 30, _, _, _, _, _⟩) _ infoV Try.underlying26 rfl rfl _ rfl rfl V3 rfl ?_)
          | (refine list_ldV (o := ⟨some 31, _, _, _, _, _⟩) _ infoV Try.underlying26 rfl rfl _ rfl rfl U3 rfl ?_))
        refine (C12 _ ab3).mono ?_
        rintro e w4 ⟨rfl, hb4⟩
        have V4 := V3.ab hb4
        have U4 := U3.ab hb4
        have T4 := T3.ab hb4
        have ab4 := ab3.trans hb4
        clear V3 U3 T3 ab3 hb4
        clear C12
        go_wp2_with (first
          | (refine list_ldV (o := ⟨some 36, _, _, _, _, _⟩) _ infoV Try.underlying26 rfl rfl _ rfl rfl U4 rfl ?_)
          | (refine list_ldV (o := ⟨some 37, _, _, _, _, _⟩) _ infoV Try.underlying26 rfl rfl _ rfl rfl V4 rfl ?_))
        refine (C21 _ ab4).mono ?_
        rintro e w5 ⟨rfl, hb5⟩
        have V5 := V4.ab hb5
        have U5 := U4.ab hb5
        have T5 := T4.ab hb5
        have ab5 := ab4.trans hb5
        clear V4 U4 T4 ab4 hb5
        clear C21
        go_wp2_with (first
          | (refine list_ldV (o := ⟨some 42, _, _, _, _, _⟩) _ infoV Try.underlying26 rfl rfl _ rfl rfl U5 rfl ?_)
          | (refine list_ldV (o := ⟨some 43, _, _, _, _, _⟩) _ infoV Try.underlying26 rfl rfl _ rfl rfl T5 rfl ?_))
        refine (C23 _ ab5).mono ?_
        rintro e w6 ⟨rfl, hb6⟩
        have V6 := V5.ab hb6
        have U6 := U5.ab hb6
        have T6 := T5.ab hb6
        have ab6 := ab5.trans hb6
        clear V5 U5 T5 ab5 hb6
        clear C23
        go_wp2_with (first
          | (refine list_ldV (o := ⟨some 48, _, _, _, _, _⟩) _ infoV Try.underlying26 rfl rfl _ rfl rfl V6 rfl ?_)
          | (refine list_ldV (o := ⟨some 49, _, _, _, _, _⟩) _ infoV Try.underlying26 rfl rfl _ rfl rfl T6 rfl ?_))
        refine (C13 _ ab6).mono ?_
        rintro e w7 ⟨rfl, hb7⟩
        have V7 := V6.ab hb7
        have U7 := U6.ab hb7
        have T7 := T6.ab hb7
        have ab7 := ab6.trans hb7
        clear V6 U6 T6 ab6 hb7
        clear C13
        have HQ := QQ w7 ab7
        clear QQ
        by_cases h1 : z1 = 0
        · have h2z : z2 = 0 := by have := AN.out; omega
          subst h1
          subst h2z
          clear jw jn AN
          have e1 : ((0 : Int) == 0) = true := rfl
          rw [SM.out, e1] at HQ
          clear SM
          by_cases h3 : 0 < z3
          · go_wp2_with (first
              | (refine list_ldG7 (o := ⟨some 76, _, _, _, _, _⟩) _ infoV Try.underlying26 rfl (by kernel_rfl) _ rfl rfl V7 rfl ?_)
              | (refine list_ldG7 (o := ⟨some 77, _, _, _, _, _⟩) _ infoV Try.underlying26 rfl (by kernel_rfl) _ rfl rfl U7 rfl ?_))
            refine HQ.mono ?_
            rintro e w8 ⟨rfl, hb8⟩
            have ab8 := ab7.trans hb8
            clear HQ V7 U7 T7 ab7 hb8
            go_wp2_with fail
            refine (valive_any _).mono ?_
            rintro e wz ⟨rfl, hbz⟩
            go_wp2
            go_ret
            exact ⟨rfl, ab8.trans hbz⟩
          · have h4 : z4 ≤ 0 := TR.out (by omega) (by omega)
            by_cases h5 : z4 < 0
            · go_wp2_with (first
                | (refine list_ldG7 (o := ⟨some 76, _, _, _, _, _⟩) _ infoV Try.underlying26 rfl (by kernel_rfl) _ rfl rfl V7 rfl ?_)
                | (refine list_ldG7 (o := ⟨some 77, _, _, _, _, _⟩) _ infoV Try.underlying26 rfl (by kernel_rfl) _ rfl rfl U7 rfl ?_))
              refine HQ.mono ?_
              rintro e w8 ⟨rfl, hb8⟩
              have ab8 := ab7.trans hb8
              clear HQ V7 U7 T7 ab7 hb8
              go_wp2_with fail
              refine (valive_any _).mono ?_
              rintro e wz ⟨rfl, hbz⟩
              go_wp2
              go_ret
              exact ⟨rfl, ab8.trans hbz⟩
            · have h6 := ST.out (by omega) (by omega) (by omega)
              have e3 : (z3 == 0) = true := by rw [beq_iff_eq]; exact h6.2
              go_wp2_with (first
                | (refine list_ldG7 (o := ⟨some 76, _, _, _, _, _⟩) _ infoV Try.underlying26 rfl (by kernel_rfl) _ rfl rfl V7 rfl ?_)
                | (refine list_ldG7 (o := ⟨some 77, _, _, _, _, _⟩) _ infoV Try.underlying26 rfl (by kernel_rfl) _ rfl rfl U7 rfl ?_))
              refine HQ.mono ?_
              rintro e w8 ⟨rfl, hb8⟩
              have ab8 := ab7.trans hb8
              clear HQ V7 U7 T7 ab7 hb8
              go_wp2_with fail
              refine (valive_any _).mono ?_
              rintro e wz ⟨rfl, hbz⟩
              go_wp2
              go_ret
              exact ⟨rfl, ab8.trans hbz⟩
        · have e1 : (z1 == 0) = false := by rw [beq_eq_false_iff_ne]; exact h1
          rw [SM.out, e1] at HQ
          clear SM
          by_cases h2 : 0 < z1
          · go_wp2_with (first
              | (refine list_ldG7 (o := ⟨some 76, _, _, _, _, _⟩) _ infoV Try.underlying26 rfl (by kernel_rfl) _ rfl rfl V7 rfl ?_)
              | (refine list_ldG7 (o := ⟨some 77, _, _, _, _, _⟩) _ infoV Try.underlying26 rfl (by kernel_rfl) _ rfl rfl U7 rfl ?_))
            refine HQ.mono ?_
            rintro e w8 ⟨rfl, hb8⟩
            have ab8 := ab7.trans hb8
            clear HQ V7 U7 T7 ab7 hb8
            go_wp2_with fail
            refine (valive_any _).mono ?_
            rintro e wz ⟨rfl, hbz⟩
            go_wp2
            go_ret
            exact ⟨rfl, ab8.trans hbz⟩
          · by_cases h3 : 0 < z3
            · go_wp2_with (first
                | (refine list_ldG7 (o := ⟨some 76, _, _, _, _, _⟩) _ infoV Try.underlying26 rfl (by kernel_rfl) _ rfl rfl V7 rfl ?_)
                | (refine list_ldG7 (o := ⟨some 77, _, _, _, _, _⟩) _ infoV Try.underlying26 rfl (by kernel_rfl) _ rfl rfl U7 rfl ?_))
              refine HQ.mono ?_
              rintro e w8 ⟨rfl, hb8⟩
              have ab8 := ab7.trans hb8
              clear HQ V7 U7 T7 ab7 hb8
              go_wp2_with fail
              refine (valive_any _).mono ?_
              rintro e wz ⟨rfl, hbz⟩
              go_wp2
              go_ret
              exact ⟨rfl, ab8.trans hbz⟩
            · have h4 : z4 ≤ 0 := TR.out (by omega) (by omega)
              by_cases h5 : z4 < 0
              · go_wp2_with (first
                  | (refine list_ldG7 (o := ⟨some 76, _, _, _, _, _⟩) _ infoV Try.underlying26 rfl (by kernel_rfl) _ rfl rfl V7 rfl ?_)
                  | (refine list_ldG7 (o := ⟨some 77, _, _, _, _, _⟩) _ infoV Try.underlying26 rfl (by kernel_rfl) _ rfl rfl U7 rfl ?_))
                refine HQ.mono ?_
                rintro e w8 ⟨rfl, hb8⟩
                have ab8 := ab7.trans hb8
                clear HQ V7 U7 T7 ab7 hb8
                go_wp2_with fail
                refine (valive_any _).mono ?_
                rintro e wz ⟨rfl, hbz⟩
                go_wp2
                go_ret
                exact ⟨rfl, ab8.trans hbz⟩
              · exact absurd (ST.out (by omega) (by omega) (by omega)).1 h1
theorem order_walk (D1 D2 D3 : Nat) (S1 S2 S3 : Nat → Prop) (x y z : VM) (w : World) (hx : VL D1 w S1 x) (hy : VL D2 w S2 y) (hz : VL D3 w S3 z) :
    Calls Try.prog 8 #[x.val, y.val, z.val] w (RetTrue w) :=
  order_at (max 6 (max D1 (max D2 D3))) (by omega) S1 S2 S3 x y z w (hx.le (by omega)) (hy.le (by omega)) (hz.le (by omega))
end Go.Proofs.Ytllcdmohipcegaa
