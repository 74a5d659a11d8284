/- ShaSums, walked. Own work. -/
import Derived.Test.YtiijehmbpjakhaaDoorShRefE
import Derived.Test.YtiijehmbpjakhaaDoorShFunJ
import Derived.Test.YtiijehmbpjakhaaDoorShLawA
import Derived.Test.YtiijehmbpjakhaaDoorShEqG
import Derived.Test.YtiijehmbpjakhaaDoorTry1
set_option linter.unusedVariables false
set_option linter.unusedSimpArgs false
namespace Go.Proofs.YtiijehmbpjakhaaDoor
open Go.RowKit

theorem same_bytes (A B : Option Addr) (c d m : Nat) (x : List UInt8) (w : World) (hm : m = x.length) (hx : RB w 0 A x) (hy : RB w 0 B x) (hl : x.length ≤ 140737488351232) :
    Calls Tryd.prog 10 #[.slice A m c, .slice B m d] w fun e w' => e = .returned (.bool true) ∧ Ab w w' := by
  subst hm
  refine (sameBytes_eq A B c d x x w hx hy hl hl).mono ?_
  rintro e w' ⟨rfl, n, rfl⟩
  exact ⟨by simp, (Ab.refl w).drewN n⟩
theorem padE_le (n : Int) : (padE n).1.length ≤ 80 := by
  unfold padE
  split
  · show (Sha.pad _).length ≤ 80
    rw [Sha.pad_length]
    have := Sha.zeros_le n.toNat
    omega
  · simp
set_option maxRecDepth 100000 in
set_option maxHeartbeats 4000000 in
theorem sums_walk (w : World) (hG : Glob w) (A : Option Addr) (b : List UInt8) (c : Nat) (n : Int) (h : Sha.W8) (hb : RB w 0 A b) (hc : b.length ≤ c) :
    Calls Tryd.prog 3 #[.slice A b.length c, .int .i64 n, .agg (w8 h).toArray] w (RetTrue w) := by
  by_cases hg : 3000 < b.length
  · go_enter Tryd.func3, Tryd.ntmps3
    go_wp2
    go_ret
    exact ⟨rfl, abA⟩
  · have ll : b.length ≤ 3000 := by omega
    have lO : (Sha.of b).length = 32 := rfl
    have S1 := Lib.hid (fun w' (hk : Ab w w') => by
      have := sum_any A b c w' (hG.ab hk) (hb.ab hk) hc (by omega)
      rw [show sumE b = (Sha.of b, 0) by unfold sumE; rw [if_pos (by omega)]] at this
      exact this)
    have S2 := Lib.hid (fun w' (hk : Ab w w') => rsum_any A b c w' (hb.ab hk) hc (by omega))
    have hE32 := Lib.hid (run_eq32 (Sha.of b) lO)
    have LO := Lib.hid lO
    have B1 := Lib.hid (fun w' (hk : Ab w w') => block_any h A b c w' (hG.ab hk) (hb.ab hk) hc (by omega))
    have B2 := Lib.hid (fun w' (hk : Ab w w') => rblock_any h A b c w' (hb.ab hk) hc (by omega))
    clear lO
    unfold idv at S1
    generalize Sha.of b = D at *
    generalize blkE h b = E at *
    have P1 := Lib.hid (fun w' => pad_any n w')
    have P2 := Lib.hid (fun w' => rpad_any n w')
    have hp := Lib.hid (padE_le n)
    generalize padE n = P at *
    obtain ⟨E1, E2⟩ := E
    obtain ⟨Pl, Pe⟩ := P
    have hE8 := Lib.hid (run_eq8 E1)
    go_enter Tryd.func3, Tryd.ntmps3
    have b0 : Ab w (w.alloc (.cells (w8 h).toArray 24)) := abA
    have V0 : VB (w.alloc (.cells (w8 h).toArray 24)) w.heap.size (w8 h) := VB.box (xs := (w8 h).toArray) (T := 24) (by (repeat (first | exact new_plain wnA | with_reducible refine old_alloc ?_ | with_reducible refine old_drew ?_ | with_reducible refine old_set ?_ wnA | with_reducible refine old_ab (by assumption) ?_)))
    go_upto_region 3 with fail
    generalize w.alloc (.cells (w8 h).toArray 24) = w0 at *
    go_wp2_with (first
      | ((at_builtin
          refine listLit (o := ⟨some 25, _, _, _, _, _⟩) rfl _ _ rfl rfl rfl (m := b) rfl (by (repeat (first | exact new_plain wnA | with_reducible refine old_alloc ?_ | with_reducible refine old_drew ?_ | with_reducible refine old_set ?_ wnA | with_reducible refine old_ab (by assumption) ?_))) (RB.ab hb (show Ab w (w0.alloc (.cells #[] 5)) from b0.trans abA)) hc (by omega) ?_
          intro A1 c1 w1 L1 e1 q1 p1)))
    have b1 : Ab w0 w1 := Ab.trans (by exact abA) q1
    have o1 := (p1 w0.heap.size (Nat.le_refl _) (by simp)).rb.zero
    obtain rfl : L1 = b := e1.out
    have V1 := V0.ab b1
    have a1 := b0.trans b1
    clear p1 q1 e1 b1 V0
    refine (S1.out w1 a1).mono ?_
    rintro e w2 ⟨rfl, hb2⟩
    have b2 := hb2
    have a2 := a1.trans hb2
    have V2 := V1.ab hb2
    have Y2 : VB (w2.alloc (.cells (idv (List.replicate 32 0)).toArray 26)) w2.heap.size (idv (List.replicate 32 0)) := VB.box (xs := (idv (List.replicate 32 0)).toArray) (T := 26) (by (repeat (first | exact new_plain wnA | with_reducible refine old_alloc ?_ | with_reducible refine old_drew ?_ | with_reducible refine old_set ?_ wnA | with_reducible refine old_ab (by assumption) ?_)))
    go_upto_region 5 with (first
      | (refine list_stV (o := ⟨none, _, _, _, _, _⟩) (us := idv D) _ infoId rfl _ _ rfl rfl rfl Y2 (by simp [idv, LO.out]) (by simp [idv, LO.out]) (idv_one D) ?_
         intro w3 h3
         have bs3 : Ab w2 w3 := h3.ab _ ((Ab.refl _).alloc _) (Nat.le_refl _)
         have a3 := a2.trans bs3
         have X3 := h3.v
         have V3 := V2.ab bs3
         have r3 := (o1.ab hb2).ab bs3
         clear h3 bs3 Y2))
    go_wp2_with fail
    refine (S2.out w3 a3).mono ?_
    rintro e w4 ⟨rfl, hb4⟩
    have a4 := a3.trans hb4
    have V4 := V3.ab hb4
    have D4 := X3.ab hb4
    have r4 := r3.ab hb4
    clear V3 X3 r3 hb4 V2 hb2 V1
    have Y4 : VB (w4.alloc (.cells (idv (List.replicate 32 0)).toArray 26)) w4.heap.size (idv (List.replicate 32 0)) := VB.box (xs := (idv (List.replicate 32 0)).toArray) (T := 26) (by (repeat (first | exact new_plain wnA | with_reducible refine old_alloc ?_ | with_reducible refine old_drew ?_ | with_reducible refine old_set ?_ wnA | with_reducible refine old_ab (by assumption) ?_)))
    go_upto_region 6 with (first
      | (refine list_stV (o := ⟨none, _, _, _, _, _⟩) (us := idv D) _ infoId rfl _ _ rfl rfl rfl Y4 (by simp [idv, LO.out]) (by simp [idv, LO.out]) (idv_one D) ?_
         intro w5 h5
         have bs5 : Ab w4 w5 := h5.ab _ ((Ab.refl _).alloc _) (Nat.le_refl _)
         have a5 := a4.trans bs5
         have X5 := h5.v
         have V5 := V4.ab bs5
         have D5 := D4.ab bs5
         have r5 := r4.ab bs5
         clear h5 bs5 Y4))
    clear V4 D4 r4
    go_wp2_with fail
    refine (P1.out w5).mono ?_
    rintro e w6 ⟨A6, c6, L6, e6, rfl, r6, k6, hb6⟩
    have a6 := a5.trans hb6
    have V6 := V5.ab hb6
    have D6 := D5.ab hb6
    have F6 := X5.ab hb6
    have q6 := r5.ab hb6
    obtain rfl : L6 = Pl := e6.out
    clear V5 D5 X5 r5 hb6 e6
    go_wp2_with fail
    refine (P2.out w6).mono ?_
    rintro e w7 ⟨A7, c7, L7, e7, rfl, r7, k7, hb7⟩
    have a7 := a6.trans hb7
    have V7 := V6.ab hb7
    have D7 := D6.ab hb7
    have F7 := F6.ab hb7
    have q7 := q6.ab hb7
    have s7 := r6.ab hb7
    obtain rfl : L7 = L6 := e7.out
    clear V6 D6 F6 q6 r6 hb7 e7
    go_wp2_with (refine list_ldV (o := ⟨some 47, _, _, _, _, _⟩) _ info8 Tryd.underlying24 rfl rfl _ rfl rfl V7 (w8_len _) ?_)
    refine (B1.out w7 a7).mono ?_
    rintro e w8' ⟨rfl, hb8⟩
    have a8 := a7.trans hb8
    have V8 := V7.ab hb8
    have D8 := D7.ab hb8
    have F8 := F7.ab hb8
    have q8 := q7.ab hb8
    have s8 := s7.ab hb8
    have r8 := r7.ab hb8
    clear V7 D7 F7 q7 s7 r7 hb8
    have Y8 : VB (w8'.alloc (.cells #[.int .u32 0, .int .u32 0, .int .u32 0, .int .u32 0, .int .u32 0, .int .u32 0, .int .u32 0, .int .u32 0] 24)) w8'.heap.size [.int .u32 0, .int .u32 0, .int .u32 0, .int .u32 0, .int .u32 0, .int .u32 0, .int .u32 0, .int .u32 0] := VB.box (xs := #[.int .u32 0, .int .u32 0, .int .u32 0, .int .u32 0, .int .u32 0, .int .u32 0, .int .u32 0, .int .u32 0]) (T := 24) (by (repeat (first | exact new_plain wnA | with_reducible refine old_alloc ?_ | with_reducible refine old_drew ?_ | with_reducible refine old_set ?_ wnA | with_reducible refine old_ab (by assumption) ?_)))
    go_upto_region 9 with (first
      | (refine list_stV (o := ⟨none, _, _, _, _, _⟩) (us := w8 E1) _ info8 rfl _ _ rfl rfl rfl Y8 (w8_len _).symm (w8_len _) (w8_one _) ?_
         intro w9 h9
         have bs9 : Ab w8' w9 := h9.ab _ ((Ab.refl _).alloc _) (Nat.le_refl _)
         have a9 := a8.trans bs9
         have X9 := h9.v
         have V9 := V8.ab bs9
         have D9 := D8.ab bs9
         have F9 := F8.ab bs9
         have q9 := q8.ab bs9
         have s9 := s8.ab bs9
         have r9 := r8.ab bs9
         clear h9 bs9 Y8))
    clear V8 D8 F8 q8 s8 r8
    go_wp2_with (refine list_ldV (o := ⟨some 53, _, _, _, _, _⟩) _ info8 Tryd.underlying24 rfl rfl _ rfl rfl V9 (w8_len _) ?_)
    refine (B2.out w9 a9).mono ?_
    rintro e w10 ⟨rfl, hb10⟩
    have a10 := a9.trans hb10
    have D10 := D9.ab hb10
    have F10 := F9.ab hb10
    have G10 := X9.ab hb10
    have q10 := q9.ab hb10
    have s10 := s9.ab hb10
    have r10 := r9.ab hb10
    clear V9 D9 F9 X9 q9 s9 r9 hb10
    have Y10 : VB (w10.alloc (.cells #[.int .u32 0, .int .u32 0, .int .u32 0, .int .u32 0, .int .u32 0, .int .u32 0, .int .u32 0, .int .u32 0] 24)) w10.heap.size [.int .u32 0, .int .u32 0, .int .u32 0, .int .u32 0, .int .u32 0, .int .u32 0, .int .u32 0, .int .u32 0] := VB.box (xs := #[.int .u32 0, .int .u32 0, .int .u32 0, .int .u32 0, .int .u32 0, .int .u32 0, .int .u32 0, .int .u32 0]) (T := 24) (by (repeat (first | exact new_plain wnA | with_reducible refine old_alloc ?_ | with_reducible refine old_drew ?_ | with_reducible refine old_set ?_ wnA | with_reducible refine old_ab (by assumption) ?_)))
    go_upto_region 10 with (first
      | (refine list_stV (o := ⟨none, _, _, _, _, _⟩) (us := w8 E1) _ info8 rfl _ _ rfl rfl rfl Y10 (w8_len _).symm (w8_len _) (w8_one _) ?_
         intro w11 h11
         have bs11 : Ab w10 w11 := h11.ab _ ((Ab.refl _).alloc _) (Nat.le_refl _)
         have a11 := a10.trans bs11
         have X11 := h11.v
         have D11 := D10.ab bs11
         have F11 := F10.ab bs11
         have G11 := G10.ab bs11
         have q11 := q10.ab bs11
         have s11 := s10.ab bs11
         have r11 := r10.ab bs11
         clear h11 bs11 Y10))
    clear D10 F10 G10 q10 s10 r10
    have ld := LO.out
    have lp := hp.out
    go_wp2_with (first
      | (refine list_ldV (o := ⟨some 58, _, _, _, _, _⟩) _ infoId Tryd.underlying26 rfl rfl _ rfl rfl D11 (idv_len ld) ?_)
      | (refine list_ldV (o := ⟨some 59, _, _, _, _, _⟩) _ infoId Tryd.underlying26 rfl rfl _ rfl rfl F11 (idv_len ld) ?_)
      | (refine list_eqG (o := ⟨some 60, _, _, _, _, _⟩) 26 26 (.tmp 58) (.tmp 59) (idv D).toArray (idv D).toArray (by kernel_rfl) rfl rfl rfl (by kernel_rfl) (hE32.out _) ?_))
    refine (same_bytes A6 A7 c6 c7 _ L7 _ rfl s11 r11 (by omega)).mono ?_
    rintro e w12 ⟨rfl, hb12⟩
    have a12 := a11.trans hb12
    have G12 := G11.ab hb12
    have X12 := X11.ab hb12
    have q12 := q11.ab hb12
    clear D11 F11 G11 X11 q11 s11 r11 hb12
    go_wp2_with (first
      | (refine list_ldG (o := ⟨some 77, _, _, _, _, _⟩) _ info8 Tryd.underlying24 rfl (by kernel_rfl) _ rfl rfl G12 (w8_len _) ?_)
      | (refine list_ldG (o := ⟨some 78, _, _, _, _, _⟩) _ info8 Tryd.underlying24 rfl (by kernel_rfl) _ rfl rfl X12 (w8_len _) ?_)
      | (refine list_eqG (o := ⟨some 79, _, _, _, _, _⟩) 24 24 (.tmp 77) (.tmp 78) (w8 E1).toArray (w8 E1).toArray (by kernel_rfl) rfl rfl rfl (by kernel_rfl) (hE8.out _) ?_))
    refine (same_bytes A A1 c c1 _ L1 _ rfl (hb.ab a12) q12 (by omega)).mono ?_
    rintro e w13 ⟨rfl, hb13⟩
    go_wp2
    go_ret
    exact ⟨rfl, a12.trans hb13⟩
end Go.Proofs.YtiijehmbpjakhaaDoor
