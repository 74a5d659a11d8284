/- ShaNames, walked (written by a program). Own work. -/
import Derived.Test.YtmechdddhfcckaaDoorShLawC
set_option linter.unusedVariables false
set_option linter.unusedSimpArgs false
namespace Go.Proofs.YtmechdddhfcckaaDoor
open Go.RowKit

theorem ex_long : (Sha.of [97, 98, 99, 100, 98, 99, 100, 101, 99, 100, 101, 102, 100, 101, 102, 103, 101, 102, 103, 104, 102, 103, 104, 105, 103, 104, 105, 106, 104, 105, 106, 107, 105, 106, 107, 108, 106, 107, 108, 109, 107, 108, 109, 110, 108, 109, 110, 111, 109, 110, 111, 112, 110, 111, 112, 113])[0]? = some 0x24 ∧ (Sha.of [97, 98, 99, 100, 98, 99, 100, 101, 99, 100, 101, 102, 100, 101, 102, 103, 101, 102, 103, 104, 102, 103, 104, 105, 103, 104, 105, 106, 104, 105, 106, 107, 105, 106, 107, 108, 106, 107, 108, 109, 107, 108, 109, 110, 108, 109, 110, 111, 109, 110, 111, 112, 110, 111, 112, 113])[1]? = some 0x8d ∧ (Sha.of [97, 98, 99, 100, 98, 99, 100, 101, 99, 100, 101, 102, 100, 101, 102, 103, 101, 102, 103, 104, 102, 103, 104, 105, 103, 104, 105, 106, 104, 105, 106, 107, 105, 106, 107, 108, 106, 107, 108, 109, 107, 108, 109, 110, 108, 109, 110, 111, 109, 110, 111, 112, 110, 111, 112, 113])[2]? = some 0x6a ∧ (Sha.of [97, 98, 99, 100, 98, 99, 100, 101, 99, 100, 101, 102, 100, 101, 102, 103, 101, 102, 103, 104, 102, 103, 104, 105, 103, 104, 105, 106, 104, 105, 106, 107, 105, 106, 107, 108, 106, 107, 108, 109, 107, 108, 109, 110, 108, 109, 110, 111, 109, 110, 111, 112, 110, 111, 112, 113])[3]? = some 0x61 ∧ (Sha.of [97, 98, 99, 100, 98, 99, 100, 101, 99, 100, 101, 102, 100, 101, 102, 103, 101, 102, 103, 104, 102, 103, 104, 105, 103, 104, 105, 106, 104, 105, 106, 107, 105, 106, 107, 108, 106, 107, 108, 109, 107, 108, 109, 110, 108, 109, 110, 111, 109, 110, 111, 112, 110, 111, 112, 113])[31]? = some 0xc1 := by decide +kernel
theorem ex_padm : (Sha.pad 1000000)[61]? = some 0x7a ∧ (Sha.pad 1000000)[62]? = some 0x12 ∧ (Sha.pad 1000000)[63]? = some 0 ∧ (Sha.pad 0)[63]? = some 0 := by decide +kernel
theorem pad_bad (n : Int) (h : n < 0 ∨ 1000000 < n) (w : World) : Calls Tryd.prog 10 #[.int .i64 n] w fun e w' => e = .returned (.tuple #[.slice none 0 0, .int .i64 2]) ∧ Ab w w' := by
  rcases h with h | h
  · go_enter Tryd.func10, Tryd.ntmps10
    go_wp2
    go_ret2
    exact ⟨rfl, abA⟩
  · have h' : ¬ n < 0 := by omega
    go_enter Tryd.func10, Tryd.ntmps10
    go_wp2
    go_ret2
    exact ⟨rfl, abA⟩
theorem block_bad (A : Option Addr) (l : List UInt8) (k c : Nat) (w : World) (hG : Glob w) (hb : RB w 0 A l) (hk : l.length = k) (hc : k ≤ c) (h4 : k ≠ 64) (ll : k ≤ 1000) :
    Calls Tryd.prog 11 #[.agg #[.int .u32 0, .int .u32 0, .int .u32 0, .int .u32 0, .int .u32 0, .int .u32 0, .int .u32 0, .int .u32 0], .slice A k c] w fun e w' => e = .returned (.tuple #[.agg (w8 W0).toArray, .int .i64 2]) ∧ Ab w w' := by
  subst hk
  have := block_any W0 A l c w hG hb hc (by omega)
  have e : blkE W0 l = (W0, 2) := by unfold blkE; rw [if_neg h4]
  rw [e] at this
  exact this
theorem write_lit (m : WR) (R : Option Addr) (r : List UInt8) (k cr : Nat) (n : Int) (A : Option Addr) (l : List UInt8) (j c : Nat) (w : World) (hG : Glob w) (hr : RB w 0 R r) (hk : r.length = k) (hcr : k ≤ cr) (hb : RB w 0 A l) (hj : l.length = j) (hc : j ≤ c) (hK : k ≤ 1000) (hJ : j ≤ 1000) (hE : wrE W0 r n l = m) :
    Calls Tryd.prog 12 #[.agg #[.int .u32 0, .int .u32 0, .int .u32 0, .int .u32 0, .int .u32 0, .int .u32 0, .int .u32 0, .int .u32 0, .slice R k cr, .int .i64 n], .slice A j c] w (RetW w m) := by
  subst hk hj hE
  exact write_any W0 R r cr n A l c w hG hr hcr (by omega) hb hc (by omega)
theorem wbad (k : Nat) (r l : List UInt8) (n : Int) (h : vh r.length n = false) : wrE W0 r n l = ⟨W0, [], 0, 8⟩ := by
  unfold wrE; rw [if_neg (by rw [h]; simp)]
theorem wmany (r l : List UInt8) (n : Int) (h : vh r.length n = true) (h2 : ¬ (l.length : Int) ≤ 1000000 - n) : wrE W0 r n l = ⟨W0, [], 0, 4⟩ := by
  unfold wrE; rw [if_pos h, if_neg h2]
theorem finish_bad (R : Option Addr) (r : List UInt8) (k cr : Nat) (n : Int) (w : World) (hG : Glob w) (hr : RB w 0 R r) (hk : r.length = k) (hcr : k ≤ cr) (hK : k ≤ 1000) (h : vh k n = false) :
    Calls Tryd.prog 13 #[.agg #[.int .u32 0, .int .u32 0, .int .u32 0, .int .u32 0, .int .u32 0, .int .u32 0, .int .u32 0, .int .u32 0, .slice R k cr, .int .i64 n]] w fun e w' => e = .returned (.tuple #[.agg (idv (List.replicate 32 0)).toArray, .int .i64 8]) ∧ Ab w w' := by
  subst hk
  have := finish_any W0 R r cr n w hG hr hcr (by omega)
  have e : finE W0 r n = (List.replicate 32 0, 8) := by unfold finE; rw [if_neg (by rw [h]; simp)]
  rw [e] at this
  exact this
theorem sum_many (A : Option Addr) (l : List UInt8) (k c : Nat) (w : World) (hG : Glob w) (hb : RB w 0 A l) (hk : l.length = k) (hc : k ≤ c) (h : 1000000 < k) (h' : k ≤ 2000000) :
    Calls Tryd.prog 9 #[.slice A k c] w fun e w' => e = .returned (.tuple #[.agg (idv (List.replicate 32 0)).toArray, .int .i64 4]) ∧ Ab w w' := by
  subst hk
  have := sum_any A l c w hG hb hc (by omega)
  have e : sumE l = (List.replicate 32 0, 4) := by unfold sumE; rw [if_neg (by omega)]
  rw [e] at this
  exact this
set_option maxRecDepth 100000 in
set_option maxHeartbeats 8000000 in
theorem names_walk (w : World) (hG : Glob w) : Calls Tryd.prog 3 #[] w (RetTrue w) := by
  obtain ⟨ZM, lM, hlM, _, rM, hZM⟩ := make_bytes 1000001 (by omega) 1000001 rfl
  obtain ⟨ZA, lA, hlA, _, rA, hZA⟩ := make_bytes 63 (by omega) 63 rfl
  obtain ⟨ZB, lB, hlB, _, rB, hZB⟩ := make_bytes 65 (by omega) 65 rfl
  obtain ⟨ZC, lC, hlC, _, rC, hZC⟩ := make_bytes 64 (by omega) 64 rfl
  go_enter Tryd.func3, Tryd.ntmps3
  go_wp2_with fail
  refine (is_true' [97, 98, 99, 100, 98, 99, 100, 101, 99, 100, 101, 102, 100, 101, 102, 103, 101, 102, 103, 104, 102, 103, 104, 105, 103, 104, 105, 106, 104, 105, 106, 107, 105, 106, 107, 108, 106, 107, 108, 109, 107, 108, 109, 110, 108, 109, 110, 111, 109, 110, 111, 112, 110, 111, 112, 113] 0x24 0x8d 0x6a 0x61 0xc1 _ _ _ _ _ rfl rfl rfl rfl rfl _ hG (by simp) ex_long).mono ?_
  rintro e x1 ⟨rfl, hb1⟩
  have ab1 : Ab w x1 := Ab.trans abA hb1
  clear hb1
  go_wp2_with fail
  refine (sum_many _ lM 1000001 1000001 _ (hG.ab (Ab.trans ab1 abA)) (hZM.out _ _ (0, 0) (by (repeat (first | exact new_plain wnA | with_reducible refine old_alloc ?_ | with_reducible refine old_drew ?_ | with_reducible refine old_set ?_ wnA | with_reducible refine old_ab (by assumption) ?_)))) hlM.out (Nat.le_refl _) (by omega) (by omega)).mono ?_
  rintro e x2 ⟨rfl, hb2⟩
  have st2 : Ab x1 x2 := Ab.trans abA hb2
  have ab2 : Ab w x2 := Ab.trans ab1 st2
  clear st2
  clear hb2 ab1
  have Y2 : VB (x2.alloc (.cells (idv (List.replicate 32 0)).toArray 24)) x2.heap.size (idv (List.replicate 32 0)) := VB.box (xs := (idv (List.replicate 32 0)).toArray) (T := 24) (by (repeat (first | exact new_plain wnA | with_reducible refine old_alloc ?_ | with_reducible refine old_drew ?_ | with_reducible refine old_set ?_ wnA | with_reducible refine old_ab (by assumption) ?_)))
  go_wp2_with (refine list_stV (o := ⟨none, _, _, _, _, _⟩) (us := idv (List.replicate 32 0)) _ infoId rfl _ _ rfl rfl rfl Y2 rfl rfl rfl ?_
               intro v2 hs2
               have sb2 : Ab x2 v2 := hs2.ab _ ((Ab.refl _).alloc _) (Nat.le_refl _))
  have sab2 : Ab w v2 := Ab.trans ab2 sb2
  clear hs2 sb2 Y2 ab2
  refine (pad_bad (-1) (.inl (by omega)) _).mono ?_
  rintro e x3 ⟨rfl, hb3⟩
  have st3 : Ab v2 x3 := Ab.trans abA hb3
  have ab3 : Ab w x3 := Ab.trans sab2 st3
  clear st3
  clear hb3 sab2
  go_wp2_with fail
  refine (pad_bad 1000001 (.inr (by omega)) _).mono ?_
  rintro e x4 ⟨rfl, hb4⟩
  have st4 : Ab x3 x4 := Ab.trans abA hb4
  have ab4 : Ab w x4 := Ab.trans ab3 st4
  clear st4
  clear hb4 ab3
  go_wp2_with fail
  refine (pad_ok 1000000 1000000 rfl (by omega) _).mono ?_
  rintro e x5 ⟨gp, _, rfl, hop, hb5⟩
  have p61 := hop.at' ex_padm.1
  have p62 := hop.at' ex_padm.2.1
  have p63 := hop.at' ex_padm.2.2.1
  clear hop
  have st5 : Ab x4 x5 := Ab.trans abA hb5
  have ab5 : Ab w x5 := Ab.trans ab4 st5
  clear st5
  clear hb5 ab4
  go_wp2_with fail
  refine (pad_ok 0 0 rfl (by omega) _).mono ?_
  rintro e x6 ⟨gq, _, rfl, hoq, hb6⟩
  have q63 := hoq.at' ex_padm.2.2.2
  clear hoq
  have st6 : Ab x5 x6 := Ab.trans abA hb6
  have ab6 : Ab w x6 := Ab.trans ab5 st6
  replace p61 := st6.at p61
  replace p62 := st6.at p62
  replace p63 := st6.at p63
  clear st6
  clear hb6 ab5
  go_wp2_with fail
  refine (block_bad _ lA 63 63 _ (hG.ab (Ab.trans ab6 abA)) (hZA.out _ _ (0, 0) (by (repeat (first | exact new_plain wnA | with_reducible refine old_alloc ?_ | with_reducible refine old_drew ?_ | with_reducible refine old_set ?_ wnA | with_reducible refine old_ab (by assumption) ?_)))) hlA.out (Nat.le_refl _) (by omega) (by omega)).mono ?_
  rintro e x7 ⟨rfl, hb7⟩
  have st7 : Ab x6 x7 := Ab.trans abA hb7
  have ab7 : Ab w x7 := Ab.trans ab6 st7
  replace p61 := st7.at p61
  replace p62 := st7.at p62
  replace p63 := st7.at p63
  replace q63 := st7.at q63
  clear st7
  clear hb7 ab6
  have Y7 : VB (x7.alloc (.cells #[.int .u32 0, .int .u32 0, .int .u32 0, .int .u32 0, .int .u32 0, .int .u32 0, .int .u32 0, .int .u32 0] 32)) x7.heap.size [.int .u32 0, .int .u32 0, .int .u32 0, .int .u32 0, .int .u32 0, .int .u32 0, .int .u32 0, .int .u32 0] := VB.box (xs := #[.int .u32 0, .int .u32 0, .int .u32 0, .int .u32 0, .int .u32 0, .int .u32 0, .int .u32 0, .int .u32 0]) (T := 32) (by (repeat (first | exact new_plain wnA | with_reducible refine old_alloc ?_ | with_reducible refine old_drew ?_ | with_reducible refine old_set ?_ wnA | with_reducible refine old_ab (by assumption) ?_)))
  go_wp2_with (refine list_stV (o := ⟨none, _, _, _, _, _⟩) (us := w8 W0) _ info8 rfl _ _ rfl rfl rfl Y7 (w8_len _).symm (w8_len _) (w8_one _) ?_
               intro v7 hs7
               have sb7 : Ab x7 v7 := hs7.ab _ ((Ab.refl _).alloc _) (Nat.le_refl _))
  have sab7 : Ab w v7 := Ab.trans ab7 sb7
  replace p61 := sb7.at p61
  replace p62 := sb7.at p62
  replace p63 := sb7.at p63
  replace q63 := sb7.at q63
  clear hs7 sb7 Y7 ab7
  refine (block_bad _ lB 65 65 _ (hG.ab (Ab.trans sab7 abA)) (hZB.out _ _ (0, 0) (by (repeat (first | exact new_plain wnA | with_reducible refine old_alloc ?_ | with_reducible refine old_drew ?_ | with_reducible refine old_set ?_ wnA | with_reducible refine old_ab (by assumption) ?_)))) hlB.out (Nat.le_refl _) (by omega) (by omega)).mono ?_
  rintro e x8 ⟨rfl, hb8⟩
  have st8 : Ab v7 x8 := Ab.trans abA hb8
  have ab8 : Ab w x8 := Ab.trans sab7 st8
  replace p61 := st8.at p61
  replace p62 := st8.at p62
  replace p63 := st8.at p63
  replace q63 := st8.at q63
  clear st8
  clear hb8 sab7
  have Y8 : VB (x8.alloc (.cells #[.int .u32 0, .int .u32 0, .int .u32 0, .int .u32 0, .int .u32 0, .int .u32 0, .int .u32 0, .int .u32 0] 32)) x8.heap.size [.int .u32 0, .int .u32 0, .int .u32 0, .int .u32 0, .int .u32 0, .int .u32 0, .int .u32 0, .int .u32 0] := VB.box (xs := #[.int .u32 0, .int .u32 0, .int .u32 0, .int .u32 0, .int .u32 0, .int .u32 0, .int .u32 0, .int .u32 0]) (T := 32) (by (repeat (first | exact new_plain wnA | with_reducible refine old_alloc ?_ | with_reducible refine old_drew ?_ | with_reducible refine old_set ?_ wnA | with_reducible refine old_ab (by assumption) ?_)))
  go_wp2_with (refine list_stV (o := ⟨none, _, _, _, _, _⟩) (us := w8 W0) _ info8 rfl _ _ rfl rfl rfl Y8 (w8_len _).symm (w8_len _) (w8_one _) ?_
               intro v8 hs8
               have sb8 : Ab x8 v8 := hs8.ab _ ((Ab.refl _).alloc _) (Nat.le_refl _))
  have sab8 : Ab w v8 := Ab.trans ab8 sb8
  replace p61 := sb8.at p61
  replace p62 := sb8.at p62
  replace p63 := sb8.at p63
  replace q63 := sb8.at q63
  clear hs8 sb8 Y8 ab8
  refine (write_lit ⟨W0, [], 0, 8⟩ none [] 0 0 (-64) none [] 0 0 _ (hG.ab (Ab.trans sab8 abA)) RB.nil rfl (Nat.le_refl _) RB.nil rfl (Nat.le_refl _) (by omega) (by omega) (wbad 0 [] [] (-64) (by decide))).mono ?_
  rintro e x9 ⟨R9, c9, rfl, _, _, hb9⟩
  have st9 : Ab v8 x9 := Ab.trans abA hb9
  have ab9 : Ab w x9 := Ab.trans sab8 st9
  replace p61 := st9.at p61
  replace p62 := st9.at p62
  replace p63 := st9.at p63
  replace q63 := st9.at q63
  clear st9
  clear hb9 sab8
  have Y9 : VB (x9.alloc (.cells #[.int .u32 0, .int .u32 0, .int .u32 0, .int .u32 0, .int .u32 0, .int .u32 0, .int .u32 0, .int .u32 0, .slice none 0 0, .int .i64 0] 36)) x9.heap.size (hv W0 none 0 0 0) := VB.box (xs := #[.int .u32 0, .int .u32 0, .int .u32 0, .int .u32 0, .int .u32 0, .int .u32 0, .int .u32 0, .int .u32 0, .slice none 0 0, .int .i64 0]) (T := 36) (by (repeat (first | exact new_plain wnA | with_reducible refine old_alloc ?_ | with_reducible refine old_drew ?_ | with_reducible refine old_set ?_ wnA | with_reducible refine old_ab (by assumption) ?_)))
  go_wp2_with (refine list_stV (o := ⟨none, _, _, _, _, _⟩) (us := hv W0 R9 0 c9 0) _ infoH rfl _ _ rfl rfl rfl Y9 (hv_len2 _ _ _ _ _ _ _ _ _ _) (hv_len _ _ _ _ _) (hv_one _ _ _ _ _) ?_
               intro v9 hs9
               have sb9 : Ab x9 v9 := hs9.ab _ ((Ab.refl _).alloc _) (Nat.le_refl _))
  have sab9 : Ab w v9 := Ab.trans ab9 sb9
  replace p61 := sb9.at p61
  replace p62 := sb9.at p62
  replace p63 := sb9.at p63
  replace q63 := sb9.at q63
  clear hs9 sb9 Y9 ab9
  refine (write_lit ⟨W0, [], 0, 8⟩ none [] 0 0 (1) none [] 0 0 _ (hG.ab (Ab.trans sab9 abA)) RB.nil rfl (Nat.le_refl _) RB.nil rfl (Nat.le_refl _) (by omega) (by omega) (wbad 0 [] [] 1 (by decide))).mono ?_
  rintro e x10 ⟨R10, c10, rfl, _, _, hb10⟩
  have st10 : Ab v9 x10 := Ab.trans abA hb10
  have ab10 : Ab w x10 := Ab.trans sab9 st10
  replace p61 := st10.at p61
  replace p62 := st10.at p62
  replace p63 := st10.at p63
  replace q63 := st10.at q63
  clear st10
  clear hb10 sab9
  have Y10 : VB (x10.alloc (.cells #[.int .u32 0, .int .u32 0, .int .u32 0, .int .u32 0, .int .u32 0, .int .u32 0, .int .u32 0, .int .u32 0, .slice none 0 0, .int .i64 0] 36)) x10.heap.size (hv W0 none 0 0 0) := VB.box (xs := #[.int .u32 0, .int .u32 0, .int .u32 0, .int .u32 0, .int .u32 0, .int .u32 0, .int .u32 0, .int .u32 0, .slice none 0 0, .int .i64 0]) (T := 36) (by (repeat (first | exact new_plain wnA | with_reducible refine old_alloc ?_ | with_reducible refine old_drew ?_ | with_reducible refine old_set ?_ wnA | with_reducible refine old_ab (by assumption) ?_)))
  go_wp2_with (refine list_stV (o := ⟨none, _, _, _, _, _⟩) (us := hv W0 R10 0 c10 0) _ infoH rfl _ _ rfl rfl rfl Y10 (hv_len2 _ _ _ _ _ _ _ _ _ _) (hv_len _ _ _ _ _) (hv_one _ _ _ _ _) ?_
               intro v10 hs10
               have sb10 : Ab x10 v10 := hs10.ab _ ((Ab.refl _).alloc _) (Nat.le_refl _))
  have sab10 : Ab w v10 := Ab.trans ab10 sb10
  replace p61 := sb10.at p61
  replace p62 := sb10.at p62
  replace p63 := sb10.at p63
  replace q63 := sb10.at q63
  clear hs10 sb10 Y10 ab10
  refine (write_lit ⟨W0, [], 0, 8⟩ _ lC 64 64 64 none [] 0 0 _ (hG.ab (Ab.trans sab10 abA)) (hZC.out _ _ (0, 0) (by (repeat (first | exact new_plain wnA | with_reducible refine old_alloc ?_ | with_reducible refine old_drew ?_ | with_reducible refine old_set ?_ wnA | with_reducible refine old_ab (by assumption) ?_)))) hlC.out (Nat.le_refl _) RB.nil rfl (Nat.le_refl _) (by omega) (by omega) (wbad 64 lC [] 64 (by rw [hlC.out]; decide))).mono ?_
  rintro e x11 ⟨R11, c11, rfl, _, _, hb11⟩
  have st11 : Ab v10 x11 := Ab.trans abA hb11
  have ab11 : Ab w x11 := Ab.trans sab10 st11
  replace p61 := st11.at p61
  replace p62 := st11.at p62
  replace p63 := st11.at p63
  replace q63 := st11.at q63
  clear st11
  clear hb11 sab10
  have Y11 : VB (x11.alloc (.cells #[.int .u32 0, .int .u32 0, .int .u32 0, .int .u32 0, .int .u32 0, .int .u32 0, .int .u32 0, .int .u32 0, .slice none 0 0, .int .i64 0] 36)) x11.heap.size (hv W0 none 0 0 0) := VB.box (xs := #[.int .u32 0, .int .u32 0, .int .u32 0, .int .u32 0, .int .u32 0, .int .u32 0, .int .u32 0, .int .u32 0, .slice none 0 0, .int .i64 0]) (T := 36) (by (repeat (first | exact new_plain wnA | with_reducible refine old_alloc ?_ | with_reducible refine old_drew ?_ | with_reducible refine old_set ?_ wnA | with_reducible refine old_ab (by assumption) ?_)))
  go_wp2_with (refine list_stV (o := ⟨none, _, _, _, _, _⟩) (us := hv W0 R11 0 c11 0) _ infoH rfl _ _ rfl rfl rfl Y11 (hv_len2 _ _ _ _ _ _ _ _ _ _) (hv_len _ _ _ _ _) (hv_one _ _ _ _ _) ?_
               intro v11 hs11
               have sb11 : Ab x11 v11 := hs11.ab _ ((Ab.refl _).alloc _) (Nat.le_refl _))
  have sab11 : Ab w v11 := Ab.trans ab11 sb11
  replace p61 := sb11.at p61
  replace p62 := sb11.at p62
  replace p63 := sb11.at p63
  replace q63 := sb11.at q63
  clear hs11 sb11 Y11 ab11
  refine (write_lit ⟨W0, [], 0, 4⟩ none [] 0 0 1000000 _ [1] 1 1 _ (hG.ab (Ab.trans sab11 abA)) RB.nil rfl (Nat.le_refl _) (RB.blk (T := 5) (fr := (0, 0)) (by (repeat (first | exact new_plain wnA | with_reducible refine old_alloc ?_ | with_reducible refine old_drew ?_ | with_reducible refine old_set ?_ wnA | with_reducible refine old_ab (by assumption) ?_))) (Nat.zero_le _)) rfl (Nat.le_refl _) (by omega) (by omega) (wmany [] [1] 1000000 (by decide) (by decide))).mono ?_
  rintro e x12 ⟨R12, c12, rfl, _, _, hb12⟩
  have st12 : Ab v11 x12 := Ab.trans abA hb12
  have ab12 : Ab w x12 := Ab.trans sab11 st12
  replace p61 := st12.at p61
  replace p62 := st12.at p62
  replace p63 := st12.at p63
  replace q63 := st12.at q63
  clear st12
  clear hb12 sab11
  have Y12 : VB (x12.alloc (.cells #[.int .u32 0, .int .u32 0, .int .u32 0, .int .u32 0, .int .u32 0, .int .u32 0, .int .u32 0, .int .u32 0, .slice none 0 0, .int .i64 0] 36)) x12.heap.size (hv W0 none 0 0 0) := VB.box (xs := #[.int .u32 0, .int .u32 0, .int .u32 0, .int .u32 0, .int .u32 0, .int .u32 0, .int .u32 0, .int .u32 0, .slice none 0 0, .int .i64 0]) (T := 36) (by (repeat (first | exact new_plain wnA | with_reducible refine old_alloc ?_ | with_reducible refine old_drew ?_ | with_reducible refine old_set ?_ wnA | with_reducible refine old_ab (by assumption) ?_)))
  go_wp2_with (refine list_stV (o := ⟨none, _, _, _, _, _⟩) (us := hv W0 R12 0 c12 0) _ infoH rfl _ _ rfl rfl rfl Y12 (hv_len2 _ _ _ _ _ _ _ _ _ _) (hv_len _ _ _ _ _) (hv_one _ _ _ _ _) ?_
               intro v12 hs12
               have sb12 : Ab x12 v12 := hs12.ab _ ((Ab.refl _).alloc _) (Nat.le_refl _))
  have sab12 : Ab w v12 := Ab.trans ab12 sb12
  replace p61 := sb12.at p61
  replace p62 := sb12.at p62
  replace p63 := sb12.at p63
  replace q63 := sb12.at q63
  clear hs12 sb12 Y12 ab12
  refine (write_lit ⟨W0, [], 0, 4⟩ none [] 0 0 999936 _ lB 65 65 _ (hG.ab (Ab.trans sab12 abA)) RB.nil rfl (Nat.le_refl _) (hZB.out _ _ (0, 0) (by (repeat (first | exact new_plain wnA | with_reducible refine old_alloc ?_ | with_reducible refine old_drew ?_ | with_reducible refine old_set ?_ wnA | with_reducible refine old_ab (by assumption) ?_)))) hlB.out (Nat.le_refl _) (by omega) (by omega) (wmany [] lB 999936 (by decide) (by rw [hlB.out]; decide))).mono ?_
  rintro e x13 ⟨R13, c13, rfl, _, _, hb13⟩
  have st13 : Ab v12 x13 := Ab.trans abA hb13
  have ab13 : Ab w x13 := Ab.trans sab12 st13
  replace p61 := st13.at p61
  replace p62 := st13.at p62
  replace p63 := st13.at p63
  replace q63 := st13.at q63
  clear st13
  clear hb13 sab12
  have hFull : wrE W0 [] 999936 lC = ⟨Sha.after W0 lC, [], 1000000, 0⟩ := by
    unfold wrE
    rw [if_pos (by decide), if_pos (by rw [hlC.out]; decide), List.nil_append, Sha.tail_block lC (by rw [hlC.out]), hlC.out]
    rfl
  generalize Sha.after W0 lC = HF at *
  have Y13 : VB (x13.alloc (.cells #[.int .u32 0, .int .u32 0, .int .u32 0, .int .u32 0, .int .u32 0, .int .u32 0, .int .u32 0, .int .u32 0, .slice none 0 0, .int .i64 0] 36)) x13.heap.size (hv W0 none 0 0 0) := VB.box (xs := #[.int .u32 0, .int .u32 0, .int .u32 0, .int .u32 0, .int .u32 0, .int .u32 0, .int .u32 0, .int .u32 0, .slice none 0 0, .int .i64 0]) (T := 36) (by (repeat (first | exact new_plain wnA | with_reducible refine old_alloc ?_ | with_reducible refine old_drew ?_ | with_reducible refine old_set ?_ wnA | with_reducible refine old_ab (by assumption) ?_)))
  go_wp2_with (refine list_stV (o := ⟨none, _, _, _, _, _⟩) (us := hv W0 R13 0 c13 0) _ infoH rfl _ _ rfl rfl rfl Y13 (hv_len2 _ _ _ _ _ _ _ _ _ _) (hv_len _ _ _ _ _) (hv_one _ _ _ _ _) ?_
               intro v13 hs13
               have sb13 : Ab x13 v13 := hs13.ab _ ((Ab.refl _).alloc _) (Nat.le_refl _))
  have sab13 : Ab w v13 := Ab.trans ab13 sb13
  replace p61 := sb13.at p61
  replace p62 := sb13.at p62
  replace p63 := sb13.at p63
  replace q63 := sb13.at q63
  clear hs13 sb13 Y13 ab13
  refine (write_lit ⟨HF, [], 1000000, 0⟩ none [] 0 0 999936 _ lC 64 64 _ (hG.ab (Ab.trans sab13 abA)) RB.nil rfl (Nat.le_refl _) (hZC.out _ _ (0, 0) (by (repeat (first | exact new_plain wnA | with_reducible refine old_alloc ?_ | with_reducible refine old_drew ?_ | with_reducible refine old_set ?_ wnA | with_reducible refine old_ab (by assumption) ?_)))) hlC.out (Nat.le_refl _) (by omega) (by omega) hFull).mono ?_
  rintro e x14 ⟨R14, c14, rfl, _, _, hb14⟩
  have st14 : Ab v13 x14 := Ab.trans abA hb14
  have ab14 : Ab w x14 := Ab.trans sab13 st14
  replace p61 := st14.at p61
  replace p62 := st14.at p62
  replace p63 := st14.at p63
  replace q63 := st14.at q63
  clear st14
  clear hb14 sab13
  have Y14 : VB (x14.alloc (.cells #[.int .u32 0, .int .u32 0, .int .u32 0, .int .u32 0, .int .u32 0, .int .u32 0, .int .u32 0, .int .u32 0, .slice none 0 0, .int .i64 0] 36)) x14.heap.size (hv W0 none 0 0 0) := VB.box (xs := #[.int .u32 0, .int .u32 0, .int .u32 0, .int .u32 0, .int .u32 0, .int .u32 0, .int .u32 0, .int .u32 0, .slice none 0 0, .int .i64 0]) (T := 36) (by (repeat (first | exact new_plain wnA | with_reducible refine old_alloc ?_ | with_reducible refine old_drew ?_ | with_reducible refine old_set ?_ wnA | with_reducible refine old_ab (by assumption) ?_)))
  go_wp2_with (refine list_stV (o := ⟨none, _, _, _, _, _⟩) (us := hv HF R14 0 c14 1000000) _ infoH rfl _ _ rfl rfl rfl Y14 (hv_len2 _ _ _ _ _ _ _ _ _ _) (hv_len _ _ _ _ _) (hv_one _ _ _ _ _) ?_
               intro v14 hs14
               have sb14 : Ab x14 v14 := hs14.ab _ ((Ab.refl _).alloc _) (Nat.le_refl _)
               have f8 := hs14.v.at 8 rfl
               have f9 := hs14.v.at 9 rfl)
  have sab14 : Ab w v14 := Ab.trans ab14 sb14
  replace p61 := sb14.at p61
  replace p62 := sb14.at p62
  replace p63 := sb14.at p63
  replace q63 := sb14.at q63
  clear hs14 sb14 Y14 ab14
  refine (finish_bad none [] 0 0 1000064 _ (hG.ab (Ab.trans sab14 abA)) RB.nil rfl (Nat.le_refl _) (by omega) (by decide)).mono ?_
  rintro e x15 ⟨rfl, hb15⟩
  replace f8 := Ab.at (show Ab v14 _ from Ab.trans abA hb15) f8
  replace f9 := Ab.at (show Ab v14 _ from Ab.trans abA hb15) f9
  have st15 : Ab v14 x15 := Ab.trans abA hb15
  have ab15 : Ab w x15 := Ab.trans sab14 st15
  replace p61 := st15.at p61
  replace p62 := st15.at p62
  replace p63 := st15.at p63
  replace q63 := st15.at q63
  clear st15
  clear hb15 sab14
  have Y15 : VB (x15.alloc (.cells (idv (List.replicate 32 0)).toArray 24)) x15.heap.size (idv (List.replicate 32 0)) := VB.box (xs := (idv (List.replicate 32 0)).toArray) (T := 24) (by (repeat (first | exact new_plain wnA | with_reducible refine old_alloc ?_ | with_reducible refine old_drew ?_ | with_reducible refine old_set ?_ wnA | with_reducible refine old_ab (by assumption) ?_)))
  go_wp2_with (refine list_stV (o := ⟨none, _, _, _, _, _⟩) (us := idv (List.replicate 32 0)) _ infoId rfl _ _ rfl rfl rfl Y15 rfl rfl rfl ?_
               intro v15 hs15
               have sb15 : Ab x15 v15 := hs15.ab _ ((Ab.refl _).alloc _) (Nat.le_refl _))
  have sab15 : Ab w v15 := Ab.trans ab15 sb15
  replace p61 := sb15.at p61
  replace p62 := sb15.at p62
  replace p63 := sb15.at p63
  replace q63 := sb15.at q63
  replace f8 := sb15.at f8
  replace f9 := sb15.at f9
  clear hs15 sb15 Y15 ab15
  refine (finish_bad _ [1, 2] 2 2 3 _ (hG.ab (Ab.trans sab15 abA)) (RB.blk (T := 5) (fr := (0, 0)) (by (repeat (first | exact new_plain wnA | with_reducible refine old_alloc ?_ | with_reducible refine old_drew ?_ | with_reducible refine old_set ?_ wnA | with_reducible refine old_ab (by assumption) ?_))) (Nat.zero_le _)) rfl (Nat.le_refl _) (by omega) (by decide)).mono ?_
  rintro e x16 ⟨rfl, hb16⟩
  have st16 : Ab v15 x16 := Ab.trans abA hb16
  have ab16 : Ab w x16 := Ab.trans sab15 st16
  replace p61 := st16.at p61
  replace p62 := st16.at p62
  replace p63 := st16.at p63
  replace q63 := st16.at q63
  replace f8 := st16.at f8
  replace f9 := st16.at f9
  clear st16
  clear hb16 sab15
  have Y16 : VB (x16.alloc (.cells (idv (List.replicate 32 0)).toArray 24)) x16.heap.size (idv (List.replicate 32 0)) := VB.box (xs := (idv (List.replicate 32 0)).toArray) (T := 24) (by (repeat (first | exact new_plain wnA | with_reducible refine old_alloc ?_ | with_reducible refine old_drew ?_ | with_reducible refine old_set ?_ wnA | with_reducible refine old_ab (by assumption) ?_)))
  have hz1 : Hid (Sha.zeros 1000000 + 9 = 64) := rfl
  have hz0 : Hid (Sha.zeros 0 + 9 = 64) := rfl
  go_wp2_with (refine list_stV (o := ⟨none, _, _, _, _, _⟩) (us := idv (List.replicate 32 0)) _ infoId rfl _ _ rfl rfl rfl Y16 rfl rfl rfl ?_
               intro v16 hs16
               have sb16 : Ab x16 v16 := hs16.ab _ ((Ab.refl _).alloc _) (Nat.le_refl _)
               replace p61 := sb16.at p61
               replace p62 := sb16.at p62
               replace p63 := sb16.at p63
               replace q63 := sb16.at q63
               replace f8 := sb16.at f8
               replace f9 := sb16.at f9)
  refine (alive_true _ (hG.ab (Ab.trans ab16 sb16))).mono ?_
  rintro e wE ⟨rfl, hbE⟩
  go_wp2
  go_ret
  exact ⟨rfl, Ab.trans (Ab.trans ab16 sb16) hbE⟩
end Go.Proofs.YtmechdddhfcckaaDoor
