/- CodecWrites, walked. Own work. -/
import Derived.Test.YtllcdmohipcegaaCvRefG
import Derived.Test.YtllcdmohipcegaaCvLawE
set_option linter.unusedVariables false
set_option linter.unusedSimpArgs false
namespace Go.Proofs.Ytllcdmohipcegaa
open Go.RowKit
open Codec (V)

set_option maxRecDepth 100000 in
set_option maxHeartbeats 8000000 in
theorem writes_at (D : Nat) (hD : 6 ≤ D) (S1 S2 : Nat → Prop) (x y : VM) (w : World) (hx : VL D w S1 x) (hy : VL D w S2 y) :
    Calls Try.prog 4 #[x.val, y.val] w (RetTrue w) := by
  have HG1 := fun w' (hk' : Ab w w') => great_any D S1 x w' (hx.ab hk')
  have HG2 := fun w' (hk' : Ab w w') => great_any D S2 y w' (hy.ab hk')
  have HX := Lib.hid hx
  have HY := Lib.hid hy
  clear hx hy
  obtain ⟨k1, n1, A1, s1, c1, L1, l1, d1⟩ := x
  obtain ⟨k2, n2, A2, s2, c2, L2, l2, d2⟩ := y
  unfold VM.val VM.cells at HG1 HG2 ⊢
  have V0 : VB ((w.alloc (.cells #[.int .u8 (k1 : Int), .int .i64 n1, .slice A1 s1.length c1, .slice L1 l1.length d1] 26)).alloc (.cells #[.int .u8 (k2 : Int), .int .i64 n2, .slice A2 s2.length c2, .slice L2 l2.length d2] 26)) w.heap.size [.int .u8 (k1 : Int), .int .i64 n1, .slice A1 s1.length c1, .slice L1 l1.length d1] := VB.box (xs := #[.int .u8 (k1 : Int), .int .i64 n1, .slice A1 s1.length c1, .slice L1 l1.length d1]) (T := 26) (by (repeat (first | exact new_plain wnA | with_reducible refine old_alloc ?_ | with_reducible refine old_drew ?_ | with_reducible refine old_set ?_ wnA | with_reducible refine old_ab (by assumption) ?_)))
  have U0 : VB ((w.alloc (.cells #[.int .u8 (k1 : Int), .int .i64 n1, .slice A1 s1.length c1, .slice L1 l1.length d1] 26)).alloc (.cells #[.int .u8 (k2 : Int), .int .i64 n2, .slice A2 s2.length c2, .slice L2 l2.length d2] 26)) (w.heap.size + 1) [.int .u8 (k2 : Int), .int .i64 n2, .slice A2 s2.length c2, .slice L2 l2.length d2] := VB.box (xs := #[.int .u8 (k2 : Int), .int .i64 n2, .slice A2 s2.length c2, .slice L2 l2.length d2]) (T := 26) (by (repeat (first | exact new_plain wnA | with_reducible refine old_alloc ?_ | with_reducible refine old_drew ?_ | with_reducible refine old_set ?_ wnA | with_reducible refine old_ab (by assumption) ?_)))
  have ab0 : Ab w ((w.alloc (.cells #[.int .u8 (k1 : Int), .int .i64 n1, .slice A1 s1.length c1, .slice L1 l1.length d1] 26)).alloc (.cells #[.int .u8 (k2 : Int), .int .i64 n2, .slice A2 s2.length c2, .slice L2 l2.length d2] 26)) := abA
  go_enter Try.func4, Try.ntmps4
  go_wp2_with fail
  refine (HG1 _ ab0).mono ?_
  rintro e w1 ⟨r1, rfl, hr1, hb1⟩
  have V1 := V0.ab hb1
  have U1 := U0.ab hb1
  have ab1 := ab0.trans hb1
  clear V0 U0 ab0 hb1
  generalize w.heap.size = g0 at *
  clear HG1
  cases r1 with
  | true =>
    clear hr1
    go_wp2_with fail
    go_ret
    exact ⟨rfl, ab1⟩
  | false =>
    have HH1 := Lib.hid (hr1.out rfl)
    clear hr1
    go_wp2_with (refine list_ldG7 (o := ⟨some 20, _, _, _, _, _⟩) _ infoV Try.underlying26 rfl (by kernel_rfl) _ rfl rfl U1 rfl ?_)
    refine (HG2 _ ab1).mono ?_
    rintro e w2 ⟨r2, rfl, hr2, hb2⟩
    have V2 := V1.ab hb2
    have U2 := U1.ab hb2
    have ab2 := ab1.trans hb2
    clear V1 U1 ab1 hb2

    clear HG2
    cases r2 with
    | true =>
      clear hr2
      go_wp2_with fail
      go_ret
      exact ⟨rfl, ab2⟩
    | false =>
      have HH2 := Lib.hid (hr2.out rfl)
      clear hr2
      have fx : Fits (VM.v ⟨k1, n1, A1, s1, c1, L1, l1, d1⟩) := fits_of HX.out HH1.out
      have fy : Fits (VM.v ⟨k2, n2, A2, s2, c2, L2, l2, d2⟩) := fits_of HY.out HH2.out
      have hD' : ∀ v : V, Codec.check v = 0 → Codec.kinds D v = true := fun v hc => up_to 6 D hD (check_kinds hc).1
      have F3 := fun w' (hk' : Ab w w') => size_any D S1 _ w' (HX.out.ab hk') fx
      have F4 := fun w' (hk' : Ab w w') => rsize_any D S1 _ w' (HX.out.ab hk') fx
      have F5 := fun w' (hk' : Ab w w') => encode_any D S1 _ w' (HX.out.ab hk') fx
      have F6 := fun w' (hk' : Ab w w') => rencode_any D S1 _ w' (HX.out.ab hk') fx
      have F7 := fun w' (hk' : Ab w w') => vcmp_any D S1 S2 _ _ w' (HX.out.ab hk') (HY.out.ab hk') fx fy
      have F8 := fun w' (hk' : Ab w w') => rcmp_any D hD' S1 S2 _ _ w' (HX.out.ab hk') (HY.out.ab hk') fx fy
      have F9 := Lib.hid (fun w' (hk' : Ab w w') => check_any D S1 _ w' (HX.out.ab hk') fx)
      have F10 := Lib.hid (fun w' (hk' : Ab w w') => rcheck_any D S1 _ w' (HX.out.ab hk') fx)
      clear fx fy hD' HH1 HH2 HX HY
      generalize Codec.cmpv D (VM.v ⟨k1, n1, A1, s1, c1, L1, l1, d1⟩) (VM.v ⟨k2, n2, A2, s2, c2, L2, l2, d2⟩) = cr at *
      generalize VM.v ⟨k1, n1, A1, s1, c1, L1, l1, d1⟩ = v at *
      generalize Codec.size v = sz at *
      unfold VM.val VM.cells at F3 F4 F5 F6 F7 F8 F9 F10
      dsimp only at F3 F4 F5 F6 F7 F8 F9 F10
      go_wp2_with (refine list_ldV (o := ⟨some 24, _, _, _, _, _⟩) _ infoV Try.underlying26 rfl rfl _ rfl rfl V2 rfl ?_)
      refine (F3 _ ab2).mono ?_
      rintro e w3 ⟨rfl, hb3⟩
      have V3 := V2.ab hb3
      have U3 := U2.ab hb3
      have ab3 := ab2.trans hb3
      clear V2 U2 ab2 hb3
      clear F3
      go_wp2_with (refine list_ldV (o := ⟨some 29, _, _, _, _, _⟩) _ infoV Try.underlying26 rfl rfl _ rfl rfl V3 rfl ?_)
      refine (F4 _ ab3).mono ?_
      rintro e w4 ⟨rfl, hb4⟩
      have V4 := V3.ab hb4
      have U4 := U3.ab hb4
      have ab4 := ab3.trans hb4
      clear V3 U3 ab3 hb4
      clear F4
      go_wp2_with (refine list_ldV (o := ⟨some 34, _, _, _, _, _⟩) _ infoV Try.underlying26 rfl rfl _ rfl rfl V4 rfl ?_)
      refine (F5 _ ab4).mono ?_
      rintro e w5 ⟨A5, c5, L5, er5, rfl, h5, O5, hb5⟩
      have V5 := V4.ab hb5
      have U5 := U4.ab hb5
      have ab5 := ab4.trans hb5
      clear V4 U4 ab4 hb5
      clear F5
      go_wp2_with (refine list_ldV (o := ⟨some 39, _, _, _, _, _⟩) _ infoV Try.underlying26 rfl rfl _ rfl rfl V5 rfl ?_)
      refine (F6 _ ab5).mono ?_
      rintro e w6 ⟨A6, c6, L6, er6, rfl, h6, P6, hb6⟩
      have V6 := V5.ab hb6
      have U6 := U5.ab hb6
      have O6 := O5.keep hb6
      have ab6 := ab5.trans hb6
      clear V5 U5 O5 ab5 hb6
      clear F6
      have h56 := Prod.mk.inj (h6.out.symm.trans h5.out)
      obtain ⟨rfl, rfl⟩ := h56
      have hl6 : L6.length ≤ 3000 := by
        have h := h5.out
        unfold Codec.encode at h
        split at h
        · have := (Prod.mk.inj h).1; rw [← this]; simp
        · rename_i hc; have := (Prod.mk.inj h).1; rw [← this]; exact (check_kinds (by omega)).2
      clear h5 h6
      go_wp2_with (first
        | (refine list_ldV (o := ⟨some 44, _, _, _, _, _⟩) _ infoV Try.underlying26 rfl rfl _ rfl rfl V6 rfl ?_)
        | (refine list_ldV (o := ⟨some 45, _, _, _, _, _⟩) _ infoV Try.underlying26 rfl rfl _ rfl rfl U6 rfl ?_))
      refine (F7 _ ab6).mono ?_
      rintro e w7 ⟨rfl, hb7⟩
      have V7 := V6.ab hb7
      have U7 := U6.ab hb7
      have O7 := O6.keep hb7
      have P7 := P6.keep hb7
      have ab7 := ab6.trans hb7
      clear V6 U6 O6 P6 ab6 hb7
      clear F7
      go_wp2_with (first
        | (refine list_ldV (o := ⟨some 50, _, _, _, _, _⟩) _ infoV Try.underlying26 rfl rfl _ rfl rfl V7 rfl ?_)
        | (refine list_ldV (o := ⟨some 51, _, _, _, _, _⟩) _ infoV Try.underlying26 rfl rfl _ rfl rfl U7 rfl ?_))
      refine (F8 _ ab7).mono ?_
      rintro e w8 ⟨rfl, hb8⟩
      have V8 := V7.ab hb8
      have U8 := U7.ab hb8
      have O8 := O7.keep hb8
      have P8 := P7.keep hb8
      have ab8 := ab7.trans hb8
      clear V7 U7 O7 P7 ab7 hb8
      clear F8
      have y0 := V8.at 0 rfl
      have y1 := V8.at 1 rfl
      have y2 := V8.at 2 rfl
      have y3 := V8.at 3 rfl
      have SB := Lib.hid (fun w' (hk' : Ab w8 w') => sameBytes_all A5 A6 c5 c6 L6 L6 w' (O8.rb.zero.ab hk') (P8.rb.zero.ab hk') (by have := hl6; omega) (by have := hl6; omega))
      rw [beq_self_eq_true] at SB
      have C9 := Lib.hid (fun w' (hk' : Ab w8 w') => F9.out w' (ab8.trans hk'))
      have C10 := Lib.hid (fun w' (hk' : Ab w8 w') => F10.out w' (ab8.trans hk'))
      clear F9 F10 V8 U8 O8 P8
      go_upto_region 9 with fail
      refine wp_region_held_drew (by kernel_rfl) (S := fun w' => Ab w8 w') ?_ (fun hHeld => ?_)
      · exact abA
      (refine rtA 0 ?_ ?_ (hy := by intro w hSw; have hS1 : Ab w8 w := hSw; have z0 := hS1.at y0; have z1 := hS1.at y1; have z2 := hS1.at y2; have z3 := hS1.at y3; go_simp; (try with_reducible rfl)); (try simp only [Act.put, stA, st0, st1]))
      (refine rtA 2 ?_ ?_ (hy := by intro w hSw; have hS1 : Ab w8 w := hSw; have z0 := hS1.at y0; have z1 := hS1.at y1; have z2 := hS1.at y2; have z3 := hS1.at y3; go_simp; (try with_reducible rfl)); (try simp only [Act.put, stA, st0, st1]))
      refine r1A 1 (fun K hK => ?_)
      (go_simp
       (refine (C9.out _ abA).mono ?_; rintro e w9 ⟨rfl, hb9⟩)
       (try go_wp2_with fail)
       (refine hK.out _ _ ?_ (fun hHeld => ?_)
        · (try dsimp only); (exact Ab.trans abA hb9)
        clear hK K
        (try simp only [Act.put, stA, st0, st1])))
      refine r1A 3 (fun K hK => ?_)
      (go_simp
       (refine (C10.out _ (by assumption)).mono ?_; rintro e w10 ⟨rfl, hb10⟩)
       (try go_wp2_with fail)
       (refine hK.out _ _ ?_ (fun hHeld => ?_)
        · (try dsimp only); (exact Ab.trans (by assumption) hb10)
        clear hK K
        (try simp only [Act.put, stA, st0, st1])))
      (refine rtA 4 (.bool true) ?_ (hy := by intro w hSw; go_simp; (try simp only [beq_self_eq_true]); (try with_reducible rfl)); (try simp only [Act.put, stA, st0, st1]))
      (refine rtA 5 ?_ ?_
       (try simp only [Act.put, stA, st0, st1]))
      (refine rtA 6 ?_ ?_
       (try simp only [Act.put, stA, st0, st1]))
      (refine rtA 7 ?_ ?_
       (try simp only [Act.put, stA, st0, st1]))
      (refine rtA 8 (.bool true) ?_ (hy := by intro w hSw; go_simp; (try simp only [beq_self_eq_true]); (try with_reducible rfl)); (try simp only [Act.put, stA, st0, st1]))
      (refine rtA 9 ?_ ?_
       (try simp only [Act.put, stA, st0, st1]))
      (refine rtA 10 ?_ ?_
       (try simp only [Act.put, stA, st0, st1]))
      (refine rtA 11 ?_ ?_
       (try simp only [Act.put, stA, st0, st1]))
      (refine rtA 12 ?_ ?_
       (try simp only [Act.put, stA, st0, st1]))
      (refine rtA 13 (.bool true) ?_ (hy := by intro w hSw; go_simp; (try simp only [beq_self_eq_true]); (try with_reducible rfl)); (try simp only [Act.put, stA, st0, st1]))
      (refine rtA 14 ?_ ?_
       (try simp only [Act.put, stA, st0, st1]))
      (refine rtA 15 ?_ ?_
       (try simp only [Act.put, stA, st0, st1]))
      (refine rtA 16 ?_ ?_
       (try simp only [Act.put, stA, st0, st1]))
      (refine rtA 17 ?_ ?_
       (try simp only [Act.put, stA, st0, st1]))
      refine r1A 18 (fun K hK => ?_)
      (go_simp
       (refine (SB.out _ (by assumption)).mono ?_; rintro e w11 ⟨rfl, n11, rfl⟩)
       (try go_wp2_with fail)
       (refine hK.out _ _ ?_ (fun hHeld => ?_)
        · (try dsimp only); (exact abA)
        clear hK K
        (try simp only [Act.put, stA, st0, st1])))
      (refine rtA 19 ?_ ?_
       (try simp only [Act.put, stA, st0, st1]))
      (refine rtA 20 ?_ ?_
       (try simp only [Act.put, stA, st0, st1]))
      (refine rtA 21 ?_ ?_
       (try simp only [Act.put, stA, st0, st1]))
      (refine rtA 22 ?_ ?_
       (try simp only [Act.put, stA, st0, st1]))
      (refine rtA 23 (.bool true) ?_ (hy := by intro w hSw; go_simp; (try simp only [beq_self_eq_true]); (try with_reducible rfl)); (try simp only [Act.put, stA, st0, st1]))
      (refine rtA 24 ?_ ?_
       (try simp only [Act.put, stA, st0, st1]))
      (refine rtA 25 ?_ ?_
       (try simp only [Act.put, stA, st0, st1]))
      (refine rtA 26 ?_ ?_
       (try simp only [Act.put, stA, st0, st1]))
      (refine rtA 27 ?_ ?_
       (try simp only [Act.put, stA, st0, st1]))
      (refine rtA 28 (.bool true) ?_ (hy := by intro w hSw; go_simp; (try simp only [beq_self_eq_true]); (try with_reducible rfl)); (try simp only [Act.put, stA, st0, st1]))
      (refine rtA 29 ?_ ?_
       (try simp only [Act.put, stA, st0, st1]))
      (refine rtA 30 ?_ ?_
       (try simp only [Act.put, stA, st0, st1]))
      (refine rtA 31 ?_ ?_
       (try simp only [Act.put, stA, st0, st1]))
      (refine rtA 32 ?_ ?_
       (try simp only [Act.put, stA, st0, st1]))
      (refine rtA 33 (.bool true) ?_ (hy := by intro w hSw; go_simp; (try simp only [beq_self_eq_true]); (try with_reducible rfl)); (try simp only [Act.put, stA, st0, st1]))
      (refine rtA 34 ?_ ?_
       (try simp only [Act.put, stA, st0, st1]))
      refine r1A 35 (fun K hK => ?_)
      (go_simp
       (refine hK.out _ _ ?_ (fun hHeld => ?_)
        · (try dsimp only); (assumption)
        clear hK K
        (try simp only [Act.put, stA, st0, st1])))
      refine wpAnyH_done (by kernel_rfl) ?_ _
      go_wp2_with fail
      go_ret
      exact ⟨rfl, ab8.trans abA⟩
theorem writes_walk (D1 D2 : Nat) (S1 S2 : Nat → Prop) (x y : VM) (w : World) (hx : VL D1 w S1 x) (hy : VL D2 w S2 y) :
    Calls Try.prog 4 #[x.val, y.val] w (RetTrue w) :=
  writes_at (max 6 (max D1 D2)) (by omega) S1 S2 x y w (hx.le (by omega)) (hy.le (by omega))
end Go.Proofs.Ytllcdmohipcegaa
