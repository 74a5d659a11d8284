/- CodecNames, walked: regions 1 to 22 so far. Own work. -/
import Derived.Test.YtmdjdcllehaphaaCvNmA
import Derived.Test.YtmdjdcllehaphaaCvLawB
import Derived.Test.YtmdjdcllehaphaaCvApp
import Derived.Test.YtmdjdcllehaphaaMake
import Derived.Test.YtmdjdcllehaphaaCvCmpC
set_option linter.unusedVariables false
set_option linter.unusedSimpArgs false
namespace Go.Proofs.Ytmdjdcllehaphaa
open Go.RowKit
open Codec (V)

theorem flat_succ (k : Nat) : (List.replicate k ([3, 1] : List UInt8)).flatten ++ [3, 1] = (List.replicate (k + 1) ([3, 1] : List UInt8)).flatten := by
  rw [List.replicate_succ', List.flatten_append]; simp
theorem flat_len : ∀ k : Nat, ((List.replicate k ([3, 1] : List UInt8)).flatten).length = 2 * k
  | 0 => rfl
  | k + 1 => by rw [← flat_succ, List.length_append, flat_len k]; simp; omega
theorem text_enc (l : List UInt8) (h : 128 ≤ l.length) (h' : l.length < 16384) : Codec.kinds 6 (.mk 2 0 l []) = true ∧ (Codec.enc 6 (.mk 2 0 l [])).length = l.length + 3 := by
  refine ⟨rfl, ?_⟩
  show (2 :: (Codec.code l.length ++ l)).length = _
  rw [Codec.code_big (by omega), Codec.code_small (by omega)]
  simp
theorem text_fits (l : List UInt8) (h : 128 ≤ l.length) (h' : l.length < 16384) : Fits (.mk 2 0 l []) := fun _ => by
  rw [(text_enc l h h').2]; omega
theorem text_size (l : List UInt8) (h : l.length = 2997) : Codec.size (.mk 2 0 l []) = (3000, 0) := by
  obtain ⟨h1, h2⟩ := text_enc l (by omega) (by omega)
  have hc : Codec.check (.mk 2 0 l []) = 0 := by unfold Codec.check; rw [h1, if_neg (by simp), if_neg (by omega)]
  unfold Codec.size
  rw [hc, h2, h]; rfl
theorem text_check (l : List UInt8) (h : l.length = 2998) : Codec.check (.mk 2 0 l []) = 4 := by
  obtain ⟨h1, h2⟩ := text_enc l (by omega) (by omega)
  unfold Codec.check
  rw [h1, if_neg (by simp), if_pos (by omega)]
theorem fits_ok {v : V} (h : Codec.check v = 0) : Fits v := fun _ => by have := (check_kinds h).2; omega
theorem small_ok (n : Int) (h : 0 ≤ n) (h' : n < 64) : Codec.check (.mk 1 n [] []) = 0 := by
  unfold Codec.check
  have hf : Codec.fold n < 128 := by unfold Codec.fold; rw [if_pos h]; omega
  rw [Codec.kinds_num, if_neg (by simp), Codec.enc_num, Codec.code_small hf]
  simp
theorem cmpv_ok' {D : Nat} {a b : V} (ha : Codec.check a = 0) (hb : Codec.check b = 0) : Codec.cmpv D a b = (Codec.order D a b, 0) := by
  unfold Codec.cmpv
  rw [if_neg (fun h => h ha), if_neg (fun h => h hb)]
theorem vl_two {w : World} {g : Nat} (h : VB w g [.int .u8 1, .int .i64 1, .slice none 0 0, .slice none 0 0, .int .u8 1, .int .i64 2, .slice none 0 0, .slice none 0 0]) :
    VL 2 w (fun _ => True) ⟨3, 0, none, [], 0, some ⟨g, 0, none⟩, [.mk 1 1 [] [], .mk 1 2 [] []], 2⟩ := by
  refine ⟨⟨by simp, by simp, by simp, by simp, by simp, by simp, by simp⟩, RS.nil, fun _ => ⟨g, 0, rfl, trivial, fun i hi => ?_⟩⟩
  have : i = 0 ∨ i = 1 := by simp at hi; omega
  rcases this with rfl | rfl
  · refine ⟨⟨1, 1, none, [], 0, none, [], 0⟩, rfl, fun j v hj => ?_, vl_num⟩
    have hj4 : j < 4 := (List.getElem?_eq_some_iff.1 hj).1
    refine h.q (0 + 0 * 4 + j) v ?_
    have : j = 0 ∨ j = 1 ∨ j = 2 ∨ j = 3 := by omega
    rcases this with rfl | rfl | rfl | rfl <;> exact hj
  · refine ⟨⟨1, 2, none, [], 0, none, [], 0⟩, rfl, fun j v hj => ?_, vl_num⟩
    have hj4 : j < 4 := (List.getElem?_eq_some_iff.1 hj).1
    refine h.q (0 + 1 * 4 + j) v ?_
    have : j = 0 ∨ j = 1 ∨ j = 2 ∨ j = 3 := by omega
    rcases this with rfl | rfl | rfl | rfl <;> exact hj
theorem two_ok : Codec.check (.mk 3 0 [] [.mk 1 1 [] [], .mk 1 2 [] []]) = 0 := by
  unfold Codec.check
  rw [show Codec.kinds 6 (.mk 3 0 [] [.mk 1 1 [] [], .mk 1 2 [] []]) = true from rfl, if_neg (by simp), if_neg]
  show ¬ 3000 < (3 :: (Codec.code 2 ++ ((1 :: Codec.code (Codec.fold 1)) ++ ((1 :: Codec.code (Codec.fold 2)) ++ [])))).length
  rw [show Codec.fold 1 = 2 from rfl, show Codec.fold 2 = 4 from rfl, Codec.code_small (n := 2) (by omega), Codec.code_small (n := 4) (by omega)]
  simp
theorem one_ok : Codec.check (.mk 3 0 [] [.mk 1 1 [] []]) = 0 := by
  unfold Codec.check
  rw [show Codec.kinds 6 (.mk 3 0 [] [.mk 1 1 [] []]) = true from rfl, if_neg (by simp), if_neg]
  show ¬ 3000 < (3 :: (Codec.code 1 ++ ((1 :: Codec.code (Codec.fold 1)) ++ []))).length
  rw [show Codec.fold 1 = 2 from rfl, Codec.code_small (n := 2) (by omega), Codec.code_small (n := 1) (by omega)]
  simp
theorem bad_fits {v : V} (h : Codec.kinds 6 v = false) : Fits v := fun h2 => by rw [h] at h2; cases h2
theorem bad_check {v : V} (h : Codec.kinds 6 v = false) : Codec.check v = 8 := by unfold Codec.check; rw [h, if_pos rfl]
theorem make_one (w : World) : (Instr.makeSlice 24 (.int .i64 1) (.int .i64 1)).run Try.prog w = .ok (.slice (some ⟨w.heap.size, 0, none⟩) 1 1) (w.alloc (.cells VM.zero.cells.toArray 26)) := by
  have hi8 : (Try.prog.info? 26).map (fun i => (i.zero, i.size, i.bytes)) = some (some (.agg VM.zero.cells.toArray), 4, 64) := by kernel_rfl
  obtain ⟨i0, hi, hz, hs, hb⟩ := info_parts hi8
  have := run_makeSlice (P := Try.prog) w 24 26 i0 _ Try.underlying24 hi hz .i64 .i64 1 1 (by omega) (Int.le_refl _) (by rw [hs]; simp) (by rw [hb]; omega) (by omega)
  rw [hs, show madeCells (Value.agg VM.zero.cells.toArray).cells (Int.toNat 1 * 4) = VM.zero.cells.toArray by first | rfl | (simp [madeCells, VM.zero, VM.cells, Value.cells]; done) | kernel_rfl] at this
  exact this
/-- A value of any kind with one zero value in its list. -/
theorem vl_z {w : World} {g : Nat} (k : Nat) (hk : k < 256) (h : VB w g VM.zero.cells) : VL 2 w (fun _ => True) ⟨k, 0, none, [], 0, some ⟨g, 0, none⟩, [VM.zero.v], 1⟩ := by
  have := vl_one (d := 1) (x := VM.zero) h (vl_zero (S := fun _ => True)) trivial
  exact ⟨⟨hk, this.1.2⟩, this.2⟩
/-- A value of any kind with bytes. -/
theorem vl_b {w : World} {g : Nat} (k : Nat) (hk : k < 256) (h : RB w 0 (some ⟨g, 0, none⟩) [1]) : VL 1 w (fun _ => True) ⟨k, 0, some ⟨g, 0, none⟩, [1], 1, none, [], 0⟩ :=
  ⟨⟨hk, by simp, by simp, by simp, by simp, by simp, by simp⟩, h.rs fun _ _ => trivial, fun h => absurd h (by simp)⟩
theorem vl_n {w : World} (k : Nat) (hk : k < 256) : VL 1 w (fun _ => True) ⟨k, 1, none, [], 0, none, [], 0⟩ :=
  ⟨⟨hk, by simp, by simp, by simp, by simp, by simp, by simp⟩, RS.nil, fun h => absurd h (by simp)⟩
theorem vl_no {k : Nat} {w : World} {S : Nat → Prop} (h : k < 256) : VL 1 w S ⟨k, 0, none, [], 0, none, [], 0⟩ :=
  ⟨⟨h, by simp, by simp, by simp, by simp, by simp, by simp⟩, RS.nil, fun h => absurd h (by simp)⟩
theorem fits_deep : ∀ v : V, v = Codec.deepV 5 ∨ v = Codec.deepV 6 → Fits v := by
  intro v h hk
  rcases h with rfl | rfl
  · have := (check_kinds Codec.deep_6).2
    omega
  · exact absurd hk (by rw [show Codec.kinds 6 (Codec.deepV 6) = false from rfl]; simp)
set_option maxRecDepth 100000 in
set_option maxHeartbeats 8000000 in
theorem names_walk (w : World) : Calls Try.prog 3 #[] w (RetTrue w) := by
  have ab0 : Ab w w := Ab.refl w
  go_enter Try.func3, Try.ntmps3
  go_wp2_with fail
  refine (number_any (9223372036854775807) _).mono ?_
  rintro e w1 ⟨rfl, hb1⟩
  have I1 := is_any 1 (fun _ => True) ⟨1, 9223372036854775807, none, [], 0, none, [], 0⟩ _ [1, 254, 255, 255, 255, 255, 255, 255, 255, 255, 1] 11 _ vl_num (lit_rb w1 [1, 254, 255, 255, 255, 255, 255, 255, 255, 255, 1] #[.int .u8 1, .int .u8 254, .int .u8 255, .int .u8 255, .int .u8 255, .int .u8 255, .int .u8 255, .int .u8 255, .int .u8 255, .int .u8 255, .int .u8 1] rfl) (Nat.le_refl _) (by simp) Codec.num_0.1 Codec.num_0.2
  go_wp2_with fail
  refine I1.mono ?_
  rintro e w2 ⟨rfl, hb2⟩
  have ab2 : Ab w w2 := ab0.trans (hb1.trans (Ab.trans (by exact abA) hb2))
  clear I1 hb1 hb2 ab0
  go_wp2_with fail
  refine (number_any (-9223372036854775808) _).mono ?_
  rintro e w3 ⟨rfl, hb1⟩
  have I1 := is_any 1 (fun _ => True) ⟨1, -9223372036854775808, none, [], 0, none, [], 0⟩ _ [1, 255, 255, 255, 255, 255, 255, 255, 255, 255, 1] 11 _ vl_num (lit_rb w3 [1, 255, 255, 255, 255, 255, 255, 255, 255, 255, 1] #[.int .u8 1, .int .u8 255, .int .u8 255, .int .u8 255, .int .u8 255, .int .u8 255, .int .u8 255, .int .u8 255, .int .u8 255, .int .u8 255, .int .u8 1] rfl) (Nat.le_refl _) (by simp) Codec.num_1.1 Codec.num_1.2
  go_wp2_with fail
  refine I1.mono ?_
  rintro e w4 ⟨rfl, hb2⟩
  have ab4 : Ab w w4 := ab2.trans (hb1.trans (Ab.trans (by exact abA) hb2))
  clear I1 hb1 hb2 ab2
  go_wp2_with fail
  refine (number_any (63) _).mono ?_
  rintro e w5 ⟨rfl, hb1⟩
  have I1 := is_any 1 (fun _ => True) ⟨1, 63, none, [], 0, none, [], 0⟩ _ [1, 126] 2 _ vl_num (lit_rb w5 [1, 126] #[.int .u8 1, .int .u8 126] rfl) (Nat.le_refl _) (by simp) Codec.num_2.1 Codec.num_2.2
  go_wp2_with fail
  refine I1.mono ?_
  rintro e w6 ⟨rfl, hb2⟩
  have ab6 : Ab w w6 := ab4.trans (hb1.trans (Ab.trans (by exact abA) hb2))
  clear I1 hb1 hb2 ab4
  go_wp2_with fail
  refine (number_any (64) _).mono ?_
  rintro e w7 ⟨rfl, hb1⟩
  have I1 := is_any 1 (fun _ => True) ⟨1, 64, none, [], 0, none, [], 0⟩ _ [1, 128, 1] 3 _ vl_num (lit_rb w7 [1, 128, 1] #[.int .u8 1, .int .u8 128, .int .u8 1] rfl) (Nat.le_refl _) (by simp) Codec.num_3.1 Codec.num_3.2
  go_wp2_with fail
  refine I1.mono ?_
  rintro e w8 ⟨rfl, hb2⟩
  have ab8 : Ab w w8 := ab6.trans (hb1.trans (Ab.trans (by exact abA) hb2))
  clear I1 hb1 hb2 ab6
  go_wp2_with fail
  refine (number_any (-64) _).mono ?_
  rintro e w9 ⟨rfl, hb1⟩
  have I1 := is_any 1 (fun _ => True) ⟨1, -64, none, [], 0, none, [], 0⟩ _ [1, 127] 2 _ vl_num (lit_rb w9 [1, 127] #[.int .u8 1, .int .u8 127] rfl) (Nat.le_refl _) (by simp) Codec.num_4.1 Codec.num_4.2
  go_wp2_with fail
  refine I1.mono ?_
  rintro e w10 ⟨rfl, hb2⟩
  have ab10 : Ab w w10 := ab8.trans (hb1.trans (Ab.trans (by exact abA) hb2))
  clear I1 hb1 hb2 ab8
  have I1 := is_any 1 (fun _ => True) ⟨2, 0, none, [], 0, none, [], 0⟩ _ [2, 0] 2 _ (vl_no (by omega)) (lit_rb w10 [2, 0] #[.int .u8 2, .int .u8 0] rfl) (Nat.le_refl _) (by simp) Codec.no_text.1 Codec.no_text.2
  go_wp2_with fail
  refine I1.mono ?_
  rintro e w11 ⟨rfl, hb2⟩
  have ab11 : Ab w w11 := ab10.trans (Ab.trans (by exact abA) hb2)
  clear I1 hb2 ab10
  have I1 := is_any 1 (fun _ => True) ⟨3, 0, none, [], 0, none, [], 0⟩ _ [3, 0] 2 _ (vl_no (by omega)) (lit_rb w11 [3, 0] #[.int .u8 3, .int .u8 0] rfl) (Nat.le_refl _) (by simp) Codec.no_list.1 Codec.no_list.2
  go_wp2_with fail
  refine I1.mono ?_
  rintro e w12 ⟨rfl, hb2⟩
  have ab12 : Ab w w12 := ab11.trans (Ab.trans (by exact abA) hb2)
  clear I1 hb2 ab11
  have I1 := refused_any none [] 0 w12 RB.nil (Nat.le_refl _) (by simp) Codec.ref_0
  go_wp2_with fail
  refine I1.mono ?_
  rintro e w13 ⟨rfl, hb2⟩
  have ab13 : Ab w w13 := ab12.trans (Ab.trans (by exact abA) hb2)
  clear I1 hb2 ab12
  have I1 := refused_any (some ⟨w13.heap.size, 0, none⟩) [1] 1 _ (lit_rb w13 [1] #[.int .u8 1] rfl) (Nat.le_refl _) (by simp) Codec.ref_1
  go_wp2_with fail
  refine I1.mono ?_
  rintro e w14 ⟨rfl, hb2⟩
  have ab14 : Ab w w14 := ab13.trans (Ab.trans (by exact abA) hb2)
  clear I1 hb2 ab13
  have I1 := refused_any (some ⟨w14.heap.size, 0, none⟩) [0, 0] 2 _ (lit_rb w14 [0, 0] #[.int .u8 0, .int .u8 0] rfl) (Nat.le_refl _) (by simp) Codec.ref_2
  go_wp2_with fail
  refine I1.mono ?_
  rintro e w15 ⟨rfl, hb2⟩
  have ab15 : Ab w w15 := ab14.trans (Ab.trans (by exact abA) hb2)
  clear I1 hb2 ab14
  have I1 := refused_any (some ⟨w15.heap.size, 0, none⟩) [4, 0] 2 _ (lit_rb w15 [4, 0] #[.int .u8 4, .int .u8 0] rfl) (Nat.le_refl _) (by simp) Codec.ref_3
  go_wp2_with fail
  refine I1.mono ?_
  rintro e w16 ⟨rfl, hb2⟩
  have ab16 : Ab w w16 := ab15.trans (Ab.trans (by exact abA) hb2)
  clear I1 hb2 ab15
  have I1 := refused_any (some ⟨w16.heap.size, 0, none⟩) [1, 128] 2 _ (lit_rb w16 [1, 128] #[.int .u8 1, .int .u8 128] rfl) (Nat.le_refl _) (by simp) Codec.ref_4
  go_wp2_with fail
  refine I1.mono ?_
  rintro e w17 ⟨rfl, hb2⟩
  have ab17 : Ab w w17 := ab16.trans (Ab.trans (by exact abA) hb2)
  clear I1 hb2 ab16
  have I1 := refused_any (some ⟨w17.heap.size, 0, none⟩) [1, 255, 255, 255, 255, 255, 255, 255, 255, 255, 2] 11 _ (lit_rb w17 [1, 255, 255, 255, 255, 255, 255, 255, 255, 255, 2] #[.int .u8 1, .int .u8 255, .int .u8 255, .int .u8 255, .int .u8 255, .int .u8 255, .int .u8 255, .int .u8 255, .int .u8 255, .int .u8 255, .int .u8 2] rfl) (Nat.le_refl _) (by simp) Codec.ref_5
  go_wp2_with fail
  refine I1.mono ?_
  rintro e w18 ⟨rfl, hb2⟩
  have ab18 : Ab w w18 := ab17.trans (Ab.trans (by exact abA) hb2)
  clear I1 hb2 ab17
  have I1 := refused_any (some ⟨w18.heap.size, 0, none⟩) [1, 255, 255, 255, 255, 255, 255, 255, 255, 255, 129, 0] 12 _ (lit_rb w18 [1, 255, 255, 255, 255, 255, 255, 255, 255, 255, 129, 0] #[.int .u8 1, .int .u8 255, .int .u8 255, .int .u8 255, .int .u8 255, .int .u8 255, .int .u8 255, .int .u8 255, .int .u8 255, .int .u8 255, .int .u8 129, .int .u8 0] rfl) (Nat.le_refl _) (by simp) Codec.ref_6
  go_wp2_with fail
  refine I1.mono ?_
  rintro e w19 ⟨rfl, hb2⟩
  have ab19 : Ab w w19 := ab18.trans (Ab.trans (by exact abA) hb2)
  clear I1 hb2 ab18
  have I1 := refused_any (some ⟨w19.heap.size, 0, none⟩) [2, 1] 2 _ (lit_rb w19 [2, 1] #[.int .u8 2, .int .u8 1] rfl) (Nat.le_refl _) (by simp) Codec.ref_7
  go_wp2_with fail
  refine I1.mono ?_
  rintro e w20 ⟨rfl, hb2⟩
  have ab20 : Ab w w20 := ab19.trans (Ab.trans (by exact abA) hb2)
  clear I1 hb2 ab19
  have I1 := refused_any (some ⟨w20.heap.size, 0, none⟩) [2, 128, 0] 3 _ (lit_rb w20 [2, 128, 0] #[.int .u8 2, .int .u8 128, .int .u8 0] rfl) (Nat.le_refl _) (by simp) Codec.ref_8
  go_wp2_with fail
  refine I1.mono ?_
  rintro e w21 ⟨rfl, hb2⟩
  have ab21 : Ab w w21 := ab20.trans (Ab.trans (by exact abA) hb2)
  clear I1 hb2 ab20
  have I1 := refused_any (some ⟨w21.heap.size, 0, none⟩) [3, 1] 2 _ (lit_rb w21 [3, 1] #[.int .u8 3, .int .u8 1] rfl) (Nat.le_refl _) (by simp) Codec.ref_9
  go_wp2_with fail
  refine I1.mono ?_
  rintro e w22 ⟨rfl, hb2⟩
  have ab22 : Ab w w22 := ab21.trans (Ab.trans (by exact abA) hb2)
  clear I1 hb2 ab21
  have I1 := refused_any (some ⟨w22.heap.size, 0, none⟩) [3, 2, 1, 0] 4 _ (lit_rb w22 [3, 2, 1, 0] #[.int .u8 3, .int .u8 2, .int .u8 1, .int .u8 0] rfl) (Nat.le_refl _) (by simp) Codec.ref_10
  go_wp2_with fail
  refine I1.mono ?_
  rintro e w23 ⟨rfl, hb2⟩
  have ab23 : Ab w w23 := ab22.trans (Ab.trans (by exact abA) hb2)
  clear I1 hb2 ab22
  have I1 := refused_any (some ⟨w23.heap.size, 0, none⟩) [3, 255, 255, 255, 255, 255, 255, 255, 255, 255, 1] 11 _ (lit_rb w23 [3, 255, 255, 255, 255, 255, 255, 255, 255, 255, 1] #[.int .u8 3, .int .u8 255, .int .u8 255, .int .u8 255, .int .u8 255, .int .u8 255, .int .u8 255, .int .u8 255, .int .u8 255, .int .u8 255, .int .u8 1] rfl) (Nat.le_refl _) (by simp) Codec.ref_11
  go_wp2_with fail
  refine I1.mono ?_
  rintro e w24 ⟨rfl, hb2⟩
  have ab24 : Ab w w24 := ab23.trans (Ab.trans (by exact abA) hb2)
  clear I1 hb2 ab23
  have I1 := decode_any (some ⟨w24.heap.size, 0, none⟩) [1, 0, 0] 3 _ (lit_rb w24 [1, 0, 0] #[.int .u8 1, .int .u8 0, .int .u8 0] rfl) (Nat.le_refl _) (by simp)
  go_wp2_with fail
  refine I1.mono ?_
  rintro e w25 ⟨x1, er1, rfl, h1, v1, hb2⟩
  obtain ⟨e1, rfl⟩ := Prod.mk.inj (h1.out.symm.trans Codec.long_decode)
  have Z1 : VB (w25.alloc (.cells VM.zero.cells.toArray 26)) w25.heap.size VM.zero.cells := VB.box (xs := VM.zero.cells.toArray) (T := 26) (by (repeat (first | exact new_plain wnA | with_reducible refine old_alloc ?_ | with_reducible refine old_drew ?_ | with_reducible refine old_set ?_ wnA | with_reducible refine old_ab (by assumption) ?_)))
  have b1 : Ab w w25 := ab24.trans (Ab.trans (by exact abA) hb2)
  clear I1 hb2 ab24 h1 e1 v1
  go_upto_region 4 with (refine list_stV (o := ⟨none, _, _, _, _, _⟩) (us := x1.cells) _ infoV rfl _ _ rfl rfl rfl Z1 rfl rfl x1.one ?_; intro w26 h2)
  have ab26 : Ab w w26 := b1.trans (h2.ab w25 ((Ab.refl _).alloc _) (Nat.le_refl _))
  clear b1 h2 Z1
  have I1 := next_any (some ⟨w26.heap.size, 0, none⟩) [1, 0, 0] 3 _ (lit_rb w26 [1, 0, 0] #[.int .u8 1, .int .u8 0, .int .u8 0] rfl) (Nat.le_refl _) (by simp)
  go_wp2_with fail
  refine I1.mono ?_
  rintro e w27 ⟨x2, u2, er2, rfl, h1, v1, hb2⟩
  obtain ⟨e1, e2⟩ := Prod.mk.inj (h1.out.symm.trans Codec.long_next)
  obtain ⟨rfl, rfl⟩ := Prod.mk.inj e2
  have Z1 : VB (w27.alloc (.cells VM.zero.cells.toArray 26)) w27.heap.size VM.zero.cells := VB.box (xs := VM.zero.cells.toArray) (T := 26) (by (repeat (first | exact new_plain wnA | with_reducible refine old_alloc ?_ | with_reducible refine old_drew ?_ | with_reducible refine old_set ?_ wnA | with_reducible refine old_ab (by assumption) ?_)))
  have b1 : Ab w w27 := ab26.trans (Ab.trans (by exact abA) hb2)
  clear I1 hb2 ab26 h1 e1 e2 v1
  go_upto_region 5 with (refine list_stV (o := ⟨none, _, _, _, _, _⟩) (us := x2.cells) _ infoV rfl _ _ rfl rfl rfl Z1 rfl rfl x2.one ?_; intro w28 h2)
  have ab28 : Ab w w28 := b1.trans (h2.ab w27 ((Ab.refl _).alloc _) (Nat.le_refl _))
  clear b1 h2 Z1
  have I1 := deep_any 5 (by omega) w28
  rw [show ((5 : Nat) : Int) + 1 = 6 from rfl] at I1
  go_wp2_with fail
  refine I1.mono ?_
  rintro e w29 ⟨x1, rfl, hv1, hx1, hb2⟩
  have I2 := check_any _ _ x1 w29 hx1 (fits_deep _ (by rw [hv1.out]; first | exact .inl rfl | exact .inr rfl))
  rw [hv1.out, Codec.deep_6] at I2
  go_wp2_with fail
  refine I2.mono ?_
  rintro e w30 ⟨rfl, hb3⟩
  have ab30 : Ab w w30 := ab28.trans (hb2.trans hb3)
  clear I1 I2 hb2 hb3 ab28 hv1 hx1
  have I1 := deep_any 6 (by omega) w30
  rw [show ((6 : Nat) : Int) + 1 = 7 from rfl] at I1
  go_wp2_with fail
  refine I1.mono ?_
  rintro e w31 ⟨x1, rfl, hv1, hx1, hb2⟩
  have I2 := check_any _ _ x1 w31 hx1 (fits_deep _ (by rw [hv1.out]; first | exact .inl rfl | exact .inr rfl))
  rw [hv1.out, Codec.deep_7] at I2
  go_wp2_with fail
  refine I2.mono ?_
  rintro e w32 ⟨rfl, hb3⟩
  have ab32 : Ab w w32 := ab30.trans (hb2.trans hb3)
  clear I1 I2 hb2 hb3 ab30 hv1 hx1
  go_wp2_with fail
  go_loopw [10, 11] (fun s i w' => ∃ (j : Nat) (A : Option Addr) (c : Nat) (L : List UInt8), j ≤ 6 ∧ s = .slice A L.length c ∧ i = .int .i64 (j : Int) ∧ Hid (L = (List.replicate j ([3, 1] : List UInt8)).flatten) ∧ OR 5 w32.heap.size w' A c L ∧ Ab w32 w') (fun _ i _ => 6 - (intOf i).toNat)
  case atStart => exact ⟨0, none, 0, [], by omega, rfl, rfl, rfl, OR.none_, Ab.refl _⟩
  case round =>
    obtain ⟨j, A, c, L, hj, rfl, rfl, hL, hO, hb⟩ := hrel
    rename World => wl
    have hLl : L.length ≤ 12 := by rw [hL.out, flat_len]; omega
    by_cases hlt : j < 6
    · have hki : (j : Int) < 6 := by omega
      have b1 : Ab wl (wl.alloc (.cells #[.int .u8 3, .int .u8 1] 5)) := abA
      have ab5 : Ab w32 (wl.alloc (.cells #[.int .u8 3, .int .u8 1] 5)) := hb.trans b1
      have oA := hO.keep b1
      have z5 := ab5.size
      have R5 := lit_rb wl [3, 1] #[.int .u8 3, .int .u8 1] rfl
      go_wp2_with (first
        | ((at_builtin
            refine listApn (o := ⟨some 137, _, _, _, _, _⟩) rfl _ _ rfl rfl rfl (m := [3, 1]) rfl oA z5 R5 (Nat.le_refl _) (by simp; omega) ?_
            intro A6 d6 w6 L6 e6 p6
            have ab6 : Ab w32 w6 := grown_ab ab5 p6.g (fun g e => oA.low g e)
            have l6 : Hid (L6 = (List.replicate (j + 1) ([3, 1] : List UInt8)).flatten) := by unfold Hid; rw [e6.out, hL.out, flat_succ])))
      go_roundw
      case rel => exact ⟨j + 1, A6, d6, L6, by omega, rfl, by go_num, l6, p6.o, ab6⟩
      case measure => simp [intOf]; omega
    · have hki : ¬ (j : Int) < 6 := by omega
      obtain rfl : j = 6 := by omega
      have b1 : Ab wl (wl.alloc (.cells #[.int .u8 3, .int .u8 0] 5)) := abA
      have ab5 : Ab w32 (wl.alloc (.cells #[.int .u8 3, .int .u8 0] 5)) := hb.trans b1
      have oA := hO.keep b1
      have z5 := ab5.size
      have R5 := lit_rb wl [3, 0] #[.int .u8 3, .int .u8 0] rfl
      go_wp2_with (first
        | ((at_builtin
            refine listApn (o := ⟨some 140, _, _, _, _, _⟩) rfl _ _ rfl rfl rfl (m := [3, 0]) rfl oA z5 R5 (Nat.le_refl _) (by simp; omega) ?_
            intro A6 d6 w6 L6 e6 p6
            have ab6 : Ab w32 w6 := grown_ab ab5 p6.g (fun g e => oA.low g e)
            have l6 : Hid (L6 = [3, 1, 3, 1, 3, 1, 3, 1, 3, 1, 3, 1, 3, 0]) := by unfold Hid; rw [e6.out, hL.out]; rfl)))
      have I1 := refused_any A6 L6 d6 w6 p6.o.rb.zero p6.o.le (by rw [l6.out]; simp) (by rw [l6.out]; exact Codec.ref_12)
      refine I1.mono ?_
      rintro e wm ⟨rfl, hb2⟩
      have abm : Ab w wm := ab32.trans (ab6.trans hb2)
      clear I1 hb2 l6 p6 e6 ab6 R5 z5 oA ab5 b1 hb hO hL hLl hki hlt hj ab32
      obtain ⟨Z, l, hl, hz, M, HR⟩ := make_bytes 2997 (by omega) 2997 rfl
      have I1 := text_any (some ⟨wm.heap.size, 0, none⟩) l 2997 (wm.alloc (.cells Z 5)) (HR.out _ _ _ (new_plain rfl)) (Nat.le_of_eq hl.out) (by rw [hl.out]; omega)
      rw [hl.out] at I1
      go_wp2_with fail
      refine I1.mono ?_
      rintro e w33 ⟨A1, c1, rfl, v1, hb2⟩
      have I2 := size_any 1 _ _ w33 v1 (text_fits l (by rw [hl.out]; omega) (by rw [hl.out]; omega))
      rw [show VM.v ⟨2, 0, A1, l, c1, none, [], 0⟩ = V.mk 2 0 l [] from rfl, text_size l hl.out] at I2
      go_wp2_with fail
      refine I2.mono ?_
      rintro e w34 ⟨rfl, hb3⟩
      have ab34 : Ab w w34 := abm.trans (Ab.trans (by exact abA) (hb2.trans hb3))
      clear I1 I2 hb2 hb3 abm v1 HR M hl hz
      obtain ⟨Z, l, hl, hz, M, HR⟩ := make_bytes 2998 (by omega) 2998 rfl
      have I1 := text_any (some ⟨w34.heap.size, 0, none⟩) l 2998 (w34.alloc (.cells Z 5)) (HR.out _ _ _ (new_plain rfl)) (Nat.le_of_eq hl.out) (by rw [hl.out]; omega)
      rw [hl.out] at I1
      go_wp2_with fail
      refine I1.mono ?_
      rintro e w35 ⟨A1, c1, rfl, v1, hb2⟩
      have I2 := check_any 1 _ _ w35 v1 (text_fits l (by rw [hl.out]; omega) (by rw [hl.out]; omega))
      rw [show VM.v ⟨2, 0, A1, l, c1, none, [], 0⟩ = V.mk 2 0 l [] from rfl, text_check l hl.out] at I2
      go_wp2_with fail
      refine I2.mono ?_
      rintro e w36 ⟨rfl, hb3⟩
      have ab36 : Ab w w36 := ab34.trans (Ab.trans (by exact abA) (hb2.trans hb3))
      clear I1 I2 hb2 hb3 ab34 v1 HR M hl hz
      have M1 := make_one w36
      have B1 : VB (w36.alloc (.cells VM.zero.cells.toArray 26)) w36.heap.size VM.zero.cells := VB.box (xs := VM.zero.cells.toArray) (T := 26) (by (repeat (first | exact new_plain wnA | with_reducible refine old_alloc ?_ | with_reducible refine old_drew ?_ | with_reducible refine old_set ?_ wnA | with_reducible refine old_ab (by assumption) ?_)))
      go_wp2_with fail
      refine (list_any (some ⟨w36.heap.size, 0, none⟩) 1 1 _).mono ?_
      rintro e w37 ⟨rfl, hb2⟩
      have I2 := check_any 2 _ ⟨3, 0, none, [], 0, some ⟨w36.heap.size, 0, none⟩, [VM.zero.v], 1⟩ w37 (vl_z 3 (by omega) (B1.ab hb2)) (bad_fits rfl)
      rw [bad_check (v := VM.v ⟨3, 0, none, [], 0, some ⟨w36.heap.size, 0, none⟩, [VM.zero.v], 1⟩) rfl] at I2
      go_wp2_with fail
      refine I2.mono ?_
      rintro e w38 ⟨rfl, hb3⟩
      have ab38 : Ab w w38 := ab36.trans (Ab.trans (by exact abA) (hb2.trans hb3))
      clear I2 hb2 hb3 ab36 B1 M1
      have I2 := check_any 1 _ ⟨1, 0, some ⟨w38.heap.size, 0, none⟩, [1], 1, none, [], 0⟩ _ (vl_b 1 (by omega) (lit_rb w38 [1] #[.int .u8 1] rfl)) (bad_fits rfl)
      rw [bad_check (v := VM.v ⟨1, 0, some ⟨w38.heap.size, 0, none⟩, [1], 1, none, [], 0⟩) rfl] at I2
      go_wp2_with fail
      refine I2.mono ?_
      rintro e w39 ⟨rfl, hb3⟩
      have ab39 : Ab w w39 := ab38.trans (Ab.trans (by exact abA) hb3)
      clear I2 hb3 ab38
      have I2 := check_any 1 _ ⟨2, 1, none, [], 0, none, [], 0⟩ w39 (vl_n 2 (by omega)) (bad_fits rfl)
      rw [bad_check (v := VM.v ⟨2, 1, none, [], 0, none, [], 0⟩) rfl] at I2
      go_wp2_with fail
      refine I2.mono ?_
      rintro e w40 ⟨rfl, hb3⟩
      have ab40 : Ab w w40 := ab39.trans hb3
      clear I2 hb3 ab39
      have I2 := check_any 1 _ ⟨3, 1, none, [], 0, none, [], 0⟩ w40 (vl_n 3 (by omega)) (bad_fits rfl)
      rw [bad_check (v := VM.v ⟨3, 1, none, [], 0, none, [], 0⟩) rfl] at I2
      go_wp2_with fail
      refine I2.mono ?_
      rintro e w41 ⟨rfl, hb3⟩
      have ab41 : Ab w w41 := ab40.trans hb3
      clear I2 hb3 ab40
      have M1 := make_one w41
      have B1 : VB (w41.alloc (.cells VM.zero.cells.toArray 26)) w41.heap.size VM.zero.cells := VB.box (xs := VM.zero.cells.toArray) (T := 26) (by (repeat (first | exact new_plain wnA | with_reducible refine old_alloc ?_ | with_reducible refine old_drew ?_ | with_reducible refine old_set ?_ wnA | with_reducible refine old_ab (by assumption) ?_)))
      have I2 := check_any 2 _ ⟨2, 0, none, [], 0, some ⟨w41.heap.size, 0, none⟩, [VM.zero.v], 1⟩ _ (vl_z 2 (by omega) B1) (bad_fits rfl)
      rw [bad_check (v := VM.v ⟨2, 0, none, [], 0, some ⟨w41.heap.size, 0, none⟩, [VM.zero.v], 1⟩) rfl] at I2
      go_wp2_with fail
      refine I2.mono ?_
      rintro e w42 ⟨rfl, hb3⟩
      have ab42 : Ab w w42 := ab41.trans (Ab.trans (by exact abA) hb3)
      clear I2 hb3 ab41 B1 M1
      have I2 := check_any 1 _ ⟨3, 0, some ⟨w42.heap.size, 0, none⟩, [1], 1, none, [], 0⟩ _ (vl_b 3 (by omega) (lit_rb w42 [1] #[.int .u8 1] rfl)) (bad_fits rfl)
      rw [bad_check (v := VM.v ⟨3, 0, some ⟨w42.heap.size, 0, none⟩, [1], 1, none, [], 0⟩) rfl] at I2
      go_wp2_with fail
      refine I2.mono ?_
      rintro e w43 ⟨rfl, hb3⟩
      have ab43 : Ab w w43 := ab42.trans (Ab.trans (by exact abA) hb3)
      clear I2 hb3 ab42
      go_wp2_with fail
      refine (number_any 1 _).mono ?_
      rintro e w44 ⟨rfl, hb1⟩
      go_wp2_with fail
      refine (number_any 2 _).mono ?_
      rintro e w45 ⟨rfl, hb2⟩
      have abb : Ab w w45 := ab43.trans (hb1.trans hb2)
      clear hb1 hb2 ab43
      have Y1 : VB ((w45.alloc (.cells VM.zero.cells.toArray 26)).alloc (.cells VM.zero.cells.toArray 26)) w45.heap.size VM.zero.cells := VB.box (xs := VM.zero.cells.toArray) (T := 26) (by (repeat (first | exact new_plain wnA | with_reducible refine old_alloc ?_ | with_reducible refine old_drew ?_ | with_reducible refine old_set ?_ wnA | with_reducible refine old_ab (by assumption) ?_)))
      have Y2 : VB ((w45.alloc (.cells VM.zero.cells.toArray 26)).alloc (.cells VM.zero.cells.toArray 26)) (w45.heap.size + 1) VM.zero.cells := VB.box (xs := VM.zero.cells.toArray) (T := 26) (by (repeat (first | exact new_plain wnA | with_reducible refine old_alloc ?_ | with_reducible refine old_drew ?_ | with_reducible refine old_set ?_ wnA | with_reducible refine old_ab (by assumption) ?_)))
      go_upto_region 22 with (first
        | (refine list_stV (o := ⟨none, .store _ (.tmp 23) _, _, _, _, _⟩) (us := [.int .u8 1, .int .i64 1, .slice none 0 0, .slice none 0 0]) _ infoV rfl _ _ rfl rfl rfl Y1 rfl rfl rfl ?_; intro w46 h3; have Y3 := h3.vb Y2 (by omega); have V3 := h3.v; have b3 : Ab w45 w46 := h3.ab w45 abA (Nat.le_refl _); clear h3 Y1 Y2)
        | (refine list_stV (o := ⟨none, .store _ (.tmp 24) _, _, _, _, _⟩) (us := [.int .u8 1, .int .i64 2, .slice none 0 0, .slice none 0 0]) _ infoV rfl _ _ rfl rfl rfl Y3 rfl rfl rfl ?_; intro w47 h4; have V4 := h4.vb V3 (by omega); have U4 := h4.v; have b4 : Ab w45 w47 := h4.ab w45 b3 (by omega); clear h4 V3 Y3 b3))
      have abt := abb.trans b4
      clear b4 abb
      have I2 := vcmp_any 6 _ _ ⟨1, 1, none, [], 0, none, [], 0⟩ ⟨1, 2, none, [], 0, none, [], 0⟩ w47 (VL.le (vl_num (S := fun _ => True)) (by omega)) (VL.le (vl_num (S := fun _ => True)) (by omega)) (fits_ok (small_ok 1 (by omega) (by omega))) (fits_ok (small_ok 2 (by omega) (by omega)))
      rw [show VM.v ⟨1, 1, none, [], 0, none, [], 0⟩ = V.mk 1 1 [] [] from rfl, show VM.v ⟨1, 2, none, [], 0, none, [], 0⟩ = V.mk 1 2 [] [] from rfl, cmpv_ok' (small_ok 1 (by omega) (by omega)) (small_ok 2 (by omega) (by omega)), show Codec.order 6 (V.mk 1 1 [] []) (V.mk 1 2 [] []) = -1 from rfl] at I2
      go_wp2_with (first
        | (refine list_ldV (o := ⟨some 227, _, _, _, _, _⟩) _ infoV Try.underlying26 rfl rfl _ rfl rfl V4 rfl ?_)
        | (refine list_ldV (o := ⟨some 228, _, _, _, _, _⟩) _ infoV Try.underlying26 rfl rfl _ rfl rfl U4 rfl ?_))
      refine I2.mono ?_
      rintro e w48 ⟨rfl, hb3⟩
      have ab48 : Ab w w48 := abt.trans hb3
      have V5 := V4.ab hb3
      have U5 := U4.ab hb3
      clear I2 hb3 abt V4 U4
      have y0 := V5.at 0 rfl
      have y1 := V5.at 1 rfl
      have y2 := V5.at 2 rfl
      have y3 := V5.at 3 rfl
      have u0 := U5.at 0 rfl
      have u1 := U5.at 1 rfl
      have u2 := U5.at 2 rfl
      have u3 := U5.at 3 rfl
      clear V5 U5
      go_upto_region 23 with fail
      refine wp_region_held_drew (by kernel_rfl) (S := fun w' => Ab w48 w') ?_ (fun hHeld => ?_)
      · exact (Ab.refl w48).drew
      (refine rtA 0 ?_ ?_ (hy := by intro w hSw; have hS1 : Ab w48 w := hSw; have z0 := hS1.at y0; have z1 := hS1.at y1; have z2 := hS1.at y2; have z3 := hS1.at y3; go_simp; (try with_reducible rfl)); (try simp only [Act.put, stA, st0, st1]))
      (refine rtA 1 ?_ ?_ (hy := by intro w hSw; have hS1 : Ab w48 w := hSw; have z0 := hS1.at u0; have z1 := hS1.at u1; have z2 := hS1.at u2; have z3 := hS1.at u3; go_simp; (try with_reducible rfl)); (try simp only [Act.put, stA, st0, st1]))
      (refine rtA 4 ?_ ?_ (hy := by intro w hSw; have hS1 : Ab w48 w := hSw; have z0 := hS1.at y0; have z1 := hS1.at y1; have z2 := hS1.at y2; have z3 := hS1.at y3; go_simp; (try with_reducible rfl)); (try simp only [Act.put, stA, st0, st1]))
      (refine wpAnyH_ready (rs := [2, 5]) (by kernel_rfl) (by simp) ?_)
      refine AllReadyH.cons rfl (fun K hK => ?_) (AllReadyH.cons rfl (fun K hK => ?_) AllReadyH.nil)
      · (go_simp
         (refine hK.out _ _ ?_ (fun hHeld => ?_)
          · (try dsimp only); (exact Ab.trans (by assumption) (show Ab w48.drew (w48.drew.alloc (.cells #[.int .u8 1, .int .i64 1, .slice none 0 0, .slice none 0 0, .int .u8 1, .int .i64 2, .slice none 0 0, .slice none 0 0] 26)) from abA))
          clear hK K
          (try simp only [Act.put, stA, st0, st1])))
        have BA : VB (w48.drew.alloc (.cells #[.int .u8 1, .int .i64 1, .slice none 0 0, .slice none 0 0, .int .u8 1, .int .i64 2, .slice none 0 0, .slice none 0 0] 26)) w48.drew.heap.size [.int .u8 1, .int .i64 1, .slice none 0 0, .slice none 0 0, .int .u8 1, .int .i64 2, .slice none 0 0, .slice none 0 0] := VB.box (xs := #[.int .u8 1, .int .i64 1, .slice none 0 0, .slice none 0 0, .int .u8 1, .int .i64 2, .slice none 0 0, .slice none 0 0]) (T := 26) (by (repeat (first | exact new_plain wnA | with_reducible refine old_alloc ?_ | with_reducible refine old_drew ?_ | with_reducible refine old_set ?_ wnA | with_reducible refine old_ab (by assumption) ?_)))
        (refine wpAnyH_ready (rs := [3, 5]) (by kernel_rfl) (by simp) ?_)
        refine AllReadyH.cons rfl (fun K hK => ?_) (AllReadyH.cons rfl (fun K hK => ?_) AllReadyH.nil)
        · (go_simp
           (refine (list_any (some ⟨w48.drew.heap.size, 0, none⟩) 2 2 _).mono ?_; rintro e wz1 ⟨rfl, hz1⟩)
           (try go_wp2_with fail)
           (refine hK.out _ _ ?_ (fun hHeld => ?_)
            · (try dsimp only); (exact Ab.trans (by assumption) hz1)
            clear hK K
            (try simp only [Act.put, stA, st0, st1])))
          replace BA := BA.ab hz1
          refine r1A 5 (fun K hK => ?_)
          (go_simp
           (refine hK.out _ _ ?_ (fun hHeld => ?_)
            · (try dsimp only); (exact Ab.trans (by assumption) (show Ab wz1 (wz1.alloc (.cells #[.int .u8 1, .int .i64 1, .slice none 0 0, .slice none 0 0] 26)) from abA))
            clear hK K
            (try simp only [Act.put, stA, st0, st1])))
          have BB : VB (wz1.alloc (.cells #[.int .u8 1, .int .i64 1, .slice none 0 0, .slice none 0 0] 26)) wz1.heap.size [.int .u8 1, .int .i64 1, .slice none 0 0, .slice none 0 0] := VB.box (xs := #[.int .u8 1, .int .i64 1, .slice none 0 0, .slice none 0 0]) (T := 26) (by (repeat (first | exact new_plain wnA | with_reducible refine old_alloc ?_ | with_reducible refine old_drew ?_ | with_reducible refine old_set ?_ wnA | with_reducible refine old_ab (by assumption) ?_)))
          replace BA := BA.ab (show Ab wz1 (wz1.alloc (.cells #[.int .u8 1, .int .i64 1, .slice none 0 0, .slice none 0 0] 26)) from abA)
          refine r1A 6 (fun K hK => ?_)
          (go_simp
           (refine (list_any (some ⟨wz1.heap.size, 0, none⟩) 1 1 _).mono ?_; rintro e wz2 ⟨rfl, hz2⟩)
           (try go_wp2_with fail)
           (refine hK.out _ _ ?_ (fun hHeld => ?_)
            · (try dsimp only); (exact Ab.trans (by assumption) hz2)
            clear hK K
            (try simp only [Act.put, stA, st0, st1])))
          replace BA := BA.ab hz2
          replace BB := BB.ab hz2
          have I2 := vcmp_any 6 _ _ ⟨3, 0, none, [], 0, some ⟨w48.drew.heap.size, 0, none⟩, [.mk 1 1 [] [], .mk 1 2 [] []], 2⟩ ⟨3, 0, none, [], 0, some ⟨wz1.heap.size, 0, none⟩, [VM.v ⟨1, 1, none, [], 0, none, [], 0⟩], 1⟩ wz2 ((vl_two BA).le (by omega)) ((vl_one (S := fun _ => True) (x := ⟨1, 1, none, [], 0, none, [], 0⟩) BB vl_num trivial).le (by omega)) (fits_ok two_ok) (fits_ok one_ok)
          rw [cmpv_ok' (a := VM.v ⟨3, 0, none, [], 0, some ⟨w48.drew.heap.size, 0, none⟩, [.mk 1 1 [] [], .mk 1 2 [] []], 2⟩) (b := VM.v ⟨3, 0, none, [], 0, some ⟨wz1.heap.size, 0, none⟩, [VM.v ⟨1, 1, none, [], 0, none, [], 0⟩], 1⟩) two_ok one_ok, show Codec.order 6 (VM.v ⟨3, 0, none, [], 0, some ⟨w48.drew.heap.size, 0, none⟩, [.mk 1 1 [] [], .mk 1 2 [] []], 2⟩) (VM.v ⟨3, 0, none, [], 0, some ⟨wz1.heap.size, 0, none⟩, [VM.v ⟨1, 1, none, [], 0, none, [], 0⟩], 1⟩) = 1 from rfl] at I2
          refine r1A 7 (fun K hK => ?_)
          (go_simp
           (refine I2.mono ?_; rintro e wz3 ⟨rfl, hz3⟩)
           (try go_wp2_with fail)
           (refine hK.out _ _ ?_ (fun hHeld => ?_)
            · (try dsimp only); (exact Ab.trans (by assumption) hz3)
            clear hK K
            (try simp only [Act.put, stA, st0, st1])))
          (refine rtA 8 ?_ ?_
           (try simp only [Act.put, stA, st0, st1]))
          (refine rtA 9 ?_ ?_
           (try simp only [Act.put, stA, st0, st1]))
          (refine rtA 10 ?_ ?_
           (try simp only [Act.put, stA, st0, st1]))
          refine r1A 11 (fun K hK => ?_)
          (go_simp
           (refine hK.out _ _ ?_ (fun hHeld => ?_)
            · (try dsimp only); (assumption)
            clear hK K
            (try simp only [Act.put, stA, st0, st1])))
          refine r1A 12 (fun K hK => ?_)
          (go_simp
           (refine hK.out _ _ ?_ (fun hHeld => ?_)
            · (try dsimp only); (assumption)
            clear hK K
            (try simp only [Act.put, stA, st0, st1])))
          refine wpAnyH_done (by kernel_rfl) ?_ _
          have abz : Ab w wz3 := ab48.trans (by assumption)
          have R1 := lit_rb wz3 [98] #[.int .u8 98] rfl (1, 2)
          have CV1 := Lib.run_convert_bytes_const (P := Try.prog) wz3 23 5 #[.int .u8 98] 1 1 Try.underlying23 Try.underlying5
          have T1 := text_any _ [98] 1 _ R1 (Nat.le_refl _) (by simp)
          go_wp2_with fail
          refine T1.mono ?_
          rintro e x1 ⟨A1, c1, rfl, v1, k1⟩
          have a1 : Ab wz3 x1 := Ab.trans (by exact abA) k1
          clear R1 T1 CV1 k1
          have R2 := lit_rb x1 [97, 98] #[.int .u8 97, .int .u8 98] rfl (2, 3)
          have CV2 := Lib.run_convert_bytes_const (P := Try.prog) x1 23 5 #[.int .u8 97, .int .u8 98] 2 2 Try.underlying23 Try.underlying5
          have T2 := text_any _ [97, 98] 2 _ R2 (Nat.le_refl _) (by simp)
          go_wp2_with fail
          refine T2.mono ?_
          rintro e x2 ⟨A2, c2, rfl, v2, k2⟩
          have a2 : Ab x1 x2 := Ab.trans (by exact abA) k2
          clear R2 T2 CV2 k2
          replace v1 := v1.ab a2
          have tb : Codec.check (V.mk 2 0 [98] []) = 0 := by decide +kernel
          have ta : Codec.check (V.mk 2 0 [97, 98] []) = 0 := by decide +kernel
          have I1 := vcmp_any 6 _ _ _ _ x2 (v1.le (by omega)) (v2.le (by omega)) (fits_ok tb) (fits_ok ta)
          rw [show VM.v ⟨2, 0, A1, [98], c1, none, [], 0⟩ = V.mk 2 0 [98] [] from rfl, show VM.v ⟨2, 0, A2, [97, 98], c2, none, [], 0⟩ = V.mk 2 0 [97, 98] [] from rfl, cmpv_ok' tb ta, show Codec.order 6 (V.mk 2 0 [98] []) (V.mk 2 0 [97, 98] []) = 1 from rfl] at I1
          go_wp2_with fail
          refine I1.mono ?_
          rintro e x3 ⟨rfl, k3⟩
          have b3 : Ab w x3 := abz.trans (a1.trans (a2.trans k3))
          clear I1 a1 a2 k3 v1 v2 tb ta
          have I1 := deep_any 2 (by omega) x3
          rw [show ((2 : Nat) : Int) + 1 = 3 from rfl] at I1
          go_wp2_with fail
          refine I1.mono ?_
          rintro e x4 ⟨d1, rfl, hv1, hx1, k4⟩
          have I2 := deep_any 2 (by omega) x4
          rw [show ((2 : Nat) : Int) + 1 = 3 from rfl] at I2
          clear I1
          go_wp2_with fail
          refine I2.mono ?_
          rintro e x5 ⟨d2, rfl, hv2, hx2, k5⟩
          clear I2
          have dd : Codec.check (Codec.deepV 2) = 0 := by decide +kernel
          have I3 := vcmp_any 6 _ _ d1 d2 x5 ((hx1.ab k5).le (by omega)) (hx2.le (by omega)) (by rw [hv1.out]; exact fits_ok dd) (by rw [hv2.out]; exact fits_ok dd)
          rw [hv1.out, hv2.out, cmpv_ok' dd dd, show Codec.order 6 (Codec.deepV 2) (Codec.deepV 2) = 0 from rfl] at I3
          go_wp2_with fail
          refine I3.mono ?_
          rintro e x6 ⟨rfl, k6⟩
          have b6 : Ab w x6 := b3.trans (k4.trans (k5.trans k6))
          clear I3 b3 k4 k5 k6 hx1 hx2 hv1 hv2 dd
          have I1 := deep_any 6 (by omega) x6
          rw [show ((6 : Nat) : Int) + 1 = 7 from rfl] at I1
          go_wp2_with fail
          refine I1.mono ?_
          rintro e x7 ⟨d3, rfl, hv3, hx3, k7⟩
          clear I1
          have I2 := vcmp_any 7 (fun _ => True) _ VM.zero d3 x7 vl_zero (hx3.le (by omega)) (bad_fits rfl) (fits_deep _ (.inr hv3.out))
          rw [show Codec.cmpv 7 VM.zero.v d3.v = (0, 8) from by unfold Codec.cmpv; rw [bad_check (v := VM.zero.v) rfl, if_pos (by omega)]] at I2
          go_wp2_with fail
          refine I2.mono ?_
          rintro e x8 ⟨rfl, k8⟩
          have b8 : Ab w x8 := b6.trans (k7.trans k8)
          clear I2 b6 k7 k8 hx3 hv3
          have I1 := text_any none [] 0 x8 RB.nil (Nat.le_refl _) (by simp)
          go_wp2_with fail
          refine I1.mono ?_
          rintro e x9 ⟨A9, c9, rfl, v9, k9⟩
          clear I1
          go_wp2_with fail
          refine (number_any 9 _).mono ?_
          rintro e x10 ⟨rfl, k10⟩
          have tn : Codec.check (V.mk 2 0 [] []) = 0 := by decide +kernel
          have I2 := vcmp_any 6 _ (fun _ => True) _ ⟨1, 9, none, [], 0, none, [], 0⟩ x10 ((v9.ab k10).le (by omega)) (VL.le vl_num (by omega)) (fits_ok tn) (fits_ok (small_ok 9 (by omega) (by omega)))
          rw [show VM.v ⟨2, 0, A9, [], c9, none, [], 0⟩ = V.mk 2 0 [] [] from rfl, show VM.v ⟨1, 9, none, [], 0, none, [], 0⟩ = V.mk 1 9 [] [] from rfl, cmpv_ok' tn (small_ok 9 (by omega) (by omega)), show Codec.order 6 (V.mk 2 0 [] []) (V.mk 1 9 [] []) = 1 from rfl] at I2
          go_wp2_with fail
          refine I2.mono ?_
          rintro e x11 ⟨rfl, k11⟩
          have b11 : Ab w x11 := b8.trans (k9.trans (k10.trans k11))
          clear I2 b8 k9 k10 k11 v9 tn
          go_wp2_with fail
          refine (valive_any _).mono ?_
          rintro e x12 ⟨rfl, k12⟩
          go_wp2
          go_ret
          exact ⟨rfl, b11.trans (Ab.trans (by exact abA) k12)⟩
        · (go_simp
           (refine hK.out _ _ ?_ (fun hHeld => ?_)
            · (try dsimp only); (exact Ab.trans (by assumption) (show Ab (w48.drew.alloc (.cells #[.int .u8 1, .int .i64 1, .slice none 0 0, .slice none 0 0, .int .u8 1, .int .i64 2, .slice none 0 0, .slice none 0 0] 26)) ((w48.drew.alloc (.cells #[.int .u8 1, .int .i64 1, .slice none 0 0, .slice none 0 0, .int .u8 1, .int .i64 2, .slice none 0 0, .slice none 0 0] 26)).alloc (.cells #[.int .u8 1, .int .i64 1, .slice none 0 0, .slice none 0 0] 26)) from abA))
            clear hK K
            (try simp only [Act.put, stA, st0, st1])))
          have BB : VB ((w48.drew.alloc (.cells #[.int .u8 1, .int .i64 1, .slice none 0 0, .slice none 0 0, .int .u8 1, .int .i64 2, .slice none 0 0, .slice none 0 0] 26)).alloc (.cells #[.int .u8 1, .int .i64 1, .slice none 0 0, .slice none 0 0] 26)) (w48.drew.alloc (.cells #[.int .u8 1, .int .i64 1, .slice none 0 0, .slice none 0 0, .int .u8 1, .int .i64 2, .slice none 0 0, .slice none 0 0] 26)).heap.size [.int .u8 1, .int .i64 1, .slice none 0 0, .slice none 0 0] := VB.box (xs := #[.int .u8 1, .int .i64 1, .slice none 0 0, .slice none 0 0]) (T := 26) (by (repeat (first | exact new_plain wnA | with_reducible refine old_alloc ?_ | with_reducible refine old_drew ?_ | with_reducible refine old_set ?_ wnA | with_reducible refine old_ab (by assumption) ?_)))
          rw [show (w48.drew.alloc (.cells #[.int .u8 1, .int .i64 1, .slice none 0 0, .slice none 0 0, .int .u8 1, .int .i64 2, .slice none 0 0, .slice none 0 0] 26)).heap.size = w48.heap.size + 1 by simp] at BB
          replace BA := BA.ab (show Ab (w48.drew.alloc (.cells #[.int .u8 1, .int .i64 1, .slice none 0 0, .slice none 0 0, .int .u8 1, .int .i64 2, .slice none 0 0, .slice none 0 0] 26)) ((w48.drew.alloc (.cells #[.int .u8 1, .int .i64 1, .slice none 0 0, .slice none 0 0, .int .u8 1, .int .i64 2, .slice none 0 0, .slice none 0 0] 26)).alloc (.cells #[.int .u8 1, .int .i64 1, .slice none 0 0, .slice none 0 0] 26)) from abA)
          refine r1A 3 (fun K hK => ?_)
          (go_simp
           (refine (list_any (some ⟨w48.drew.heap.size, 0, none⟩) 2 2 _).mono ?_; rintro e wz1 ⟨rfl, hz1⟩)
           (try go_wp2_with fail)
           (refine hK.out _ _ ?_ (fun hHeld => ?_)
            · (try dsimp only); (exact Ab.trans (by assumption) hz1)
            clear hK K
            (try simp only [Act.put, stA, st0, st1])))
          replace BA := BA.ab hz1
          replace BB := BB.ab hz1
          refine r1A 6 (fun K hK => ?_)
          (go_simp
           (refine (list_any (some ⟨(w48.heap.size + 1), 0, none⟩) 1 1 _).mono ?_; rintro e wz2 ⟨rfl, hz2⟩)
           (try go_wp2_with fail)
           (refine hK.out _ _ ?_ (fun hHeld => ?_)
            · (try dsimp only); (exact Ab.trans (by assumption) hz2)
            clear hK K
            (try simp only [Act.put, stA, st0, st1])))
          replace BA := BA.ab hz2
          replace BB := BB.ab hz2
          have I2 := vcmp_any 6 _ _ ⟨3, 0, none, [], 0, some ⟨w48.drew.heap.size, 0, none⟩, [.mk 1 1 [] [], .mk 1 2 [] []], 2⟩ ⟨3, 0, none, [], 0, some ⟨(w48.heap.size + 1), 0, none⟩, [VM.v ⟨1, 1, none, [], 0, none, [], 0⟩], 1⟩ wz2 ((vl_two BA).le (by omega)) ((vl_one (S := fun _ => True) (x := ⟨1, 1, none, [], 0, none, [], 0⟩) BB vl_num trivial).le (by omega)) (fits_ok two_ok) (fits_ok one_ok)
          rw [cmpv_ok' (a := VM.v ⟨3, 0, none, [], 0, some ⟨w48.drew.heap.size, 0, none⟩, [.mk 1 1 [] [], .mk 1 2 [] []], 2⟩) (b := VM.v ⟨3, 0, none, [], 0, some ⟨(w48.heap.size + 1), 0, none⟩, [VM.v ⟨1, 1, none, [], 0, none, [], 0⟩], 1⟩) two_ok one_ok, show Codec.order 6 (VM.v ⟨3, 0, none, [], 0, some ⟨w48.drew.heap.size, 0, none⟩, [.mk 1 1 [] [], .mk 1 2 [] []], 2⟩) (VM.v ⟨3, 0, none, [], 0, some ⟨(w48.heap.size + 1), 0, none⟩, [VM.v ⟨1, 1, none, [], 0, none, [], 0⟩], 1⟩) = 1 from rfl] at I2
          refine r1A 7 (fun K hK => ?_)
          (go_simp
           (refine I2.mono ?_; rintro e wz3 ⟨rfl, hz3⟩)
           (try go_wp2_with fail)
           (refine hK.out _ _ ?_ (fun hHeld => ?_)
            · (try dsimp only); (exact Ab.trans (by assumption) hz3)
            clear hK K
            (try simp only [Act.put, stA, st0, st1])))
          (refine rtA 8 ?_ ?_
           (try simp only [Act.put, stA, st0, st1]))
          (refine rtA 9 ?_ ?_
           (try simp only [Act.put, stA, st0, st1]))
          (refine rtA 10 ?_ ?_
           (try simp only [Act.put, stA, st0, st1]))
          refine r1A 11 (fun K hK => ?_)
          (go_simp
           (refine hK.out _ _ ?_ (fun hHeld => ?_)
            · (try dsimp only); (assumption)
            clear hK K
            (try simp only [Act.put, stA, st0, st1])))
          refine r1A 12 (fun K hK => ?_)
          (go_simp
           (refine hK.out _ _ ?_ (fun hHeld => ?_)
            · (try dsimp only); (assumption)
            clear hK K
            (try simp only [Act.put, stA, st0, st1])))
          refine wpAnyH_done (by kernel_rfl) ?_ _
          have abz : Ab w wz3 := ab48.trans (by assumption)
          have R1 := lit_rb wz3 [98] #[.int .u8 98] rfl (1, 2)
          have CV1 := Lib.run_convert_bytes_const (P := Try.prog) wz3 23 5 #[.int .u8 98] 1 1 Try.underlying23 Try.underlying5
          have T1 := text_any _ [98] 1 _ R1 (Nat.le_refl _) (by simp)
          go_wp2_with fail
          refine T1.mono ?_
          rintro e x1 ⟨A1, c1, rfl, v1, k1⟩
          have a1 : Ab wz3 x1 := Ab.trans (by exact abA) k1
          clear R1 T1 CV1 k1
          have R2 := lit_rb x1 [97, 98] #[.int .u8 97, .int .u8 98] rfl (2, 3)
          have CV2 := Lib.run_convert_bytes_const (P := Try.prog) x1 23 5 #[.int .u8 97, .int .u8 98] 2 2 Try.underlying23 Try.underlying5
          have T2 := text_any _ [97, 98] 2 _ R2 (Nat.le_refl _) (by simp)
          go_wp2_with fail
          refine T2.mono ?_
          rintro e x2 ⟨A2, c2, rfl, v2, k2⟩
          have a2 : Ab x1 x2 := Ab.trans (by exact abA) k2
          clear R2 T2 CV2 k2
          replace v1 := v1.ab a2
          have tb : Codec.check (V.mk 2 0 [98] []) = 0 := by decide +kernel
          have ta : Codec.check (V.mk 2 0 [97, 98] []) = 0 := by decide +kernel
          have I1 := vcmp_any 6 _ _ _ _ x2 (v1.le (by omega)) (v2.le (by omega)) (fits_ok tb) (fits_ok ta)
          rw [show VM.v ⟨2, 0, A1, [98], c1, none, [], 0⟩ = V.mk 2 0 [98] [] from rfl, show VM.v ⟨2, 0, A2, [97, 98], c2, none, [], 0⟩ = V.mk 2 0 [97, 98] [] from rfl, cmpv_ok' tb ta, show Codec.order 6 (V.mk 2 0 [98] []) (V.mk 2 0 [97, 98] []) = 1 from rfl] at I1
          go_wp2_with fail
          refine I1.mono ?_
          rintro e x3 ⟨rfl, k3⟩
          have b3 : Ab w x3 := abz.trans (a1.trans (a2.trans k3))
          clear I1 a1 a2 k3 v1 v2 tb ta
          have I1 := deep_any 2 (by omega) x3
          rw [show ((2 : Nat) : Int) + 1 = 3 from rfl] at I1
          go_wp2_with fail
          refine I1.mono ?_
          rintro e x4 ⟨d1, rfl, hv1, hx1, k4⟩
          have I2 := deep_any 2 (by omega) x4
          rw [show ((2 : Nat) : Int) + 1 = 3 from rfl] at I2
          clear I1
          go_wp2_with fail
          refine I2.mono ?_
          rintro e x5 ⟨d2, rfl, hv2, hx2, k5⟩
          clear I2
          have dd : Codec.check (Codec.deepV 2) = 0 := by decide +kernel
          have I3 := vcmp_any 6 _ _ d1 d2 x5 ((hx1.ab k5).le (by omega)) (hx2.le (by omega)) (by rw [hv1.out]; exact fits_ok dd) (by rw [hv2.out]; exact fits_ok dd)
          rw [hv1.out, hv2.out, cmpv_ok' dd dd, show Codec.order 6 (Codec.deepV 2) (Codec.deepV 2) = 0 from rfl] at I3
          go_wp2_with fail
          refine I3.mono ?_
          rintro e x6 ⟨rfl, k6⟩
          have b6 : Ab w x6 := b3.trans (k4.trans (k5.trans k6))
          clear I3 b3 k4 k5 k6 hx1 hx2 hv1 hv2 dd
          have I1 := deep_any 6 (by omega) x6
          rw [show ((6 : Nat) : Int) + 1 = 7 from rfl] at I1
          go_wp2_with fail
          refine I1.mono ?_
          rintro e x7 ⟨d3, rfl, hv3, hx3, k7⟩
          clear I1
          have I2 := vcmp_any 7 (fun _ => True) _ VM.zero d3 x7 vl_zero (hx3.le (by omega)) (bad_fits rfl) (fits_deep _ (.inr hv3.out))
          rw [show Codec.cmpv 7 VM.zero.v d3.v = (0, 8) from by unfold Codec.cmpv; rw [bad_check (v := VM.zero.v) rfl, if_pos (by omega)]] at I2
          go_wp2_with fail
          refine I2.mono ?_
          rintro e x8 ⟨rfl, k8⟩
          have b8 : Ab w x8 := b6.trans (k7.trans k8)
          clear I2 b6 k7 k8 hx3 hv3
          have I1 := text_any none [] 0 x8 RB.nil (Nat.le_refl _) (by simp)
          go_wp2_with fail
          refine I1.mono ?_
          rintro e x9 ⟨A9, c9, rfl, v9, k9⟩
          clear I1
          go_wp2_with fail
          refine (number_any 9 _).mono ?_
          rintro e x10 ⟨rfl, k10⟩
          have tn : Codec.check (V.mk 2 0 [] []) = 0 := by decide +kernel
          have I2 := vcmp_any 6 _ (fun _ => True) _ ⟨1, 9, none, [], 0, none, [], 0⟩ x10 ((v9.ab k10).le (by omega)) (VL.le vl_num (by omega)) (fits_ok tn) (fits_ok (small_ok 9 (by omega) (by omega)))
          rw [show VM.v ⟨2, 0, A9, [], c9, none, [], 0⟩ = V.mk 2 0 [] [] from rfl, show VM.v ⟨1, 9, none, [], 0, none, [], 0⟩ = V.mk 1 9 [] [] from rfl, cmpv_ok' tn (small_ok 9 (by omega) (by omega)), show Codec.order 6 (V.mk 2 0 [] []) (V.mk 1 9 [] []) = 1 from rfl] at I2
          go_wp2_with fail
          refine I2.mono ?_
          rintro e x11 ⟨rfl, k11⟩
          have b11 : Ab w x11 := b8.trans (k9.trans (k10.trans k11))
          clear I2 b8 k9 k10 k11 v9 tn
          go_wp2_with fail
          refine (valive_any _).mono ?_
          rintro e x12 ⟨rfl, k12⟩
          go_wp2
          go_ret
          exact ⟨rfl, b11.trans (Ab.trans (by exact abA) k12)⟩
      · (go_simp
         (refine hK.out _ _ ?_ (fun hHeld => ?_)
          · (try dsimp only); (exact Ab.trans (by assumption) (show Ab w48.drew (w48.drew.alloc (.cells #[.int .u8 1, .int .i64 1, .slice none 0 0, .slice none 0 0] 26)) from abA))
          clear hK K
          (try simp only [Act.put, stA, st0, st1])))
        have BB : VB (w48.drew.alloc (.cells #[.int .u8 1, .int .i64 1, .slice none 0 0, .slice none 0 0] 26)) w48.drew.heap.size [.int .u8 1, .int .i64 1, .slice none 0 0, .slice none 0 0] := VB.box (xs := #[.int .u8 1, .int .i64 1, .slice none 0 0, .slice none 0 0]) (T := 26) (by (repeat (first | exact new_plain wnA | with_reducible refine old_alloc ?_ | with_reducible refine old_drew ?_ | with_reducible refine old_set ?_ wnA | with_reducible refine old_ab (by assumption) ?_)))
        refine r1A 2 (fun K hK => ?_)
        (go_simp
         (refine hK.out _ _ ?_ (fun hHeld => ?_)
          · (try dsimp only); (exact Ab.trans (by assumption) (show Ab (w48.drew.alloc (.cells #[.int .u8 1, .int .i64 1, .slice none 0 0, .slice none 0 0] 26)) ((w48.drew.alloc (.cells #[.int .u8 1, .int .i64 1, .slice none 0 0, .slice none 0 0] 26)).alloc (.cells #[.int .u8 1, .int .i64 1, .slice none 0 0, .slice none 0 0, .int .u8 1, .int .i64 2, .slice none 0 0, .slice none 0 0] 26)) from abA))
          clear hK K
          (try simp only [Act.put, stA, st0, st1])))
        have BA : VB ((w48.drew.alloc (.cells #[.int .u8 1, .int .i64 1, .slice none 0 0, .slice none 0 0] 26)).alloc (.cells #[.int .u8 1, .int .i64 1, .slice none 0 0, .slice none 0 0, .int .u8 1, .int .i64 2, .slice none 0 0, .slice none 0 0] 26)) (w48.drew.alloc (.cells #[.int .u8 1, .int .i64 1, .slice none 0 0, .slice none 0 0] 26)).heap.size [.int .u8 1, .int .i64 1, .slice none 0 0, .slice none 0 0, .int .u8 1, .int .i64 2, .slice none 0 0, .slice none 0 0] := VB.box (xs := #[.int .u8 1, .int .i64 1, .slice none 0 0, .slice none 0 0, .int .u8 1, .int .i64 2, .slice none 0 0, .slice none 0 0]) (T := 26) (by (repeat (first | exact new_plain wnA | with_reducible refine old_alloc ?_ | with_reducible refine old_drew ?_ | with_reducible refine old_set ?_ wnA | with_reducible refine old_ab (by assumption) ?_)))
        rw [show (w48.drew.alloc (.cells #[.int .u8 1, .int .i64 1, .slice none 0 0, .slice none 0 0] 26)).heap.size = w48.heap.size + 1 by simp] at BA
        replace BB := BB.ab (show Ab (w48.drew.alloc (.cells #[.int .u8 1, .int .i64 1, .slice none 0 0, .slice none 0 0] 26)) ((w48.drew.alloc (.cells #[.int .u8 1, .int .i64 1, .slice none 0 0, .slice none 0 0] 26)).alloc (.cells #[.int .u8 1, .int .i64 1, .slice none 0 0, .slice none 0 0, .int .u8 1, .int .i64 2, .slice none 0 0, .slice none 0 0] 26)) from abA)
        refine r1A 3 (fun K hK => ?_)
        (go_simp
         (refine (list_any (some ⟨(w48.heap.size + 1), 0, none⟩) 2 2 _).mono ?_; rintro e wz1 ⟨rfl, hz1⟩)
         (try go_wp2_with fail)
         (refine hK.out _ _ ?_ (fun hHeld => ?_)
          · (try dsimp only); (exact Ab.trans (by assumption) hz1)
          clear hK K
          (try simp only [Act.put, stA, st0, st1])))
        replace BA := BA.ab hz1
        replace BB := BB.ab hz1
        refine r1A 6 (fun K hK => ?_)
        (go_simp
         (refine (list_any (some ⟨w48.drew.heap.size, 0, none⟩) 1 1 _).mono ?_; rintro e wz2 ⟨rfl, hz2⟩)
         (try go_wp2_with fail)
         (refine hK.out _ _ ?_ (fun hHeld => ?_)
          · (try dsimp only); (exact Ab.trans (by assumption) hz2)
          clear hK K
          (try simp only [Act.put, stA, st0, st1])))
        replace BA := BA.ab hz2
        replace BB := BB.ab hz2
        have I2 := vcmp_any 6 _ _ ⟨3, 0, none, [], 0, some ⟨(w48.heap.size + 1), 0, none⟩, [.mk 1 1 [] [], .mk 1 2 [] []], 2⟩ ⟨3, 0, none, [], 0, some ⟨w48.drew.heap.size, 0, none⟩, [VM.v ⟨1, 1, none, [], 0, none, [], 0⟩], 1⟩ wz2 ((vl_two BA).le (by omega)) ((vl_one (S := fun _ => True) (x := ⟨1, 1, none, [], 0, none, [], 0⟩) BB vl_num trivial).le (by omega)) (fits_ok two_ok) (fits_ok one_ok)
        rw [cmpv_ok' (a := VM.v ⟨3, 0, none, [], 0, some ⟨(w48.heap.size + 1), 0, none⟩, [.mk 1 1 [] [], .mk 1 2 [] []], 2⟩) (b := VM.v ⟨3, 0, none, [], 0, some ⟨w48.drew.heap.size, 0, none⟩, [VM.v ⟨1, 1, none, [], 0, none, [], 0⟩], 1⟩) two_ok one_ok, show Codec.order 6 (VM.v ⟨3, 0, none, [], 0, some ⟨(w48.heap.size + 1), 0, none⟩, [.mk 1 1 [] [], .mk 1 2 [] []], 2⟩) (VM.v ⟨3, 0, none, [], 0, some ⟨w48.drew.heap.size, 0, none⟩, [VM.v ⟨1, 1, none, [], 0, none, [], 0⟩], 1⟩) = 1 from rfl] at I2
        refine r1A 7 (fun K hK => ?_)
        (go_simp
         (refine I2.mono ?_; rintro e wz3 ⟨rfl, hz3⟩)
         (try go_wp2_with fail)
         (refine hK.out _ _ ?_ (fun hHeld => ?_)
          · (try dsimp only); (exact Ab.trans (by assumption) hz3)
          clear hK K
          (try simp only [Act.put, stA, st0, st1])))
        (refine rtA 8 ?_ ?_
         (try simp only [Act.put, stA, st0, st1]))
        (refine rtA 9 ?_ ?_
         (try simp only [Act.put, stA, st0, st1]))
        (refine rtA 10 ?_ ?_
         (try simp only [Act.put, stA, st0, st1]))
        refine r1A 11 (fun K hK => ?_)
        (go_simp
         (refine hK.out _ _ ?_ (fun hHeld => ?_)
          · (try dsimp only); (assumption)
          clear hK K
          (try simp only [Act.put, stA, st0, st1])))
        refine r1A 12 (fun K hK => ?_)
        (go_simp
         (refine hK.out _ _ ?_ (fun hHeld => ?_)
          · (try dsimp only); (assumption)
          clear hK K
          (try simp only [Act.put, stA, st0, st1])))
        refine wpAnyH_done (by kernel_rfl) ?_ _
        have abz : Ab w wz3 := ab48.trans (by assumption)
        have R1 := lit_rb wz3 [98] #[.int .u8 98] rfl (1, 2)
        have CV1 := Lib.run_convert_bytes_const (P := Try.prog) wz3 23 5 #[.int .u8 98] 1 1 Try.underlying23 Try.underlying5
        have T1 := text_any _ [98] 1 _ R1 (Nat.le_refl _) (by simp)
        go_wp2_with fail
        refine T1.mono ?_
        rintro e x1 ⟨A1, c1, rfl, v1, k1⟩
        have a1 : Ab wz3 x1 := Ab.trans (by exact abA) k1
        clear R1 T1 CV1 k1
        have R2 := lit_rb x1 [97, 98] #[.int .u8 97, .int .u8 98] rfl (2, 3)
        have CV2 := Lib.run_convert_bytes_const (P := Try.prog) x1 23 5 #[.int .u8 97, .int .u8 98] 2 2 Try.underlying23 Try.underlying5
        have T2 := text_any _ [97, 98] 2 _ R2 (Nat.le_refl _) (by simp)
        go_wp2_with fail
        refine T2.mono ?_
        rintro e x2 ⟨A2, c2, rfl, v2, k2⟩
        have a2 : Ab x1 x2 := Ab.trans (by exact abA) k2
        clear R2 T2 CV2 k2
        replace v1 := v1.ab a2
        have tb : Codec.check (V.mk 2 0 [98] []) = 0 := by decide +kernel
        have ta : Codec.check (V.mk 2 0 [97, 98] []) = 0 := by decide +kernel
        have I1 := vcmp_any 6 _ _ _ _ x2 (v1.le (by omega)) (v2.le (by omega)) (fits_ok tb) (fits_ok ta)
        rw [show VM.v ⟨2, 0, A1, [98], c1, none, [], 0⟩ = V.mk 2 0 [98] [] from rfl, show VM.v ⟨2, 0, A2, [97, 98], c2, none, [], 0⟩ = V.mk 2 0 [97, 98] [] from rfl, cmpv_ok' tb ta, show Codec.order 6 (V.mk 2 0 [98] []) (V.mk 2 0 [97, 98] []) = 1 from rfl] at I1
        go_wp2_with fail
        refine I1.mono ?_
        rintro e x3 ⟨rfl, k3⟩
        have b3 : Ab w x3 := abz.trans (a1.trans (a2.trans k3))
        clear I1 a1 a2 k3 v1 v2 tb ta
        have I1 := deep_any 2 (by omega) x3
        rw [show ((2 : Nat) : Int) + 1 = 3 from rfl] at I1
        go_wp2_with fail
        refine I1.mono ?_
        rintro e x4 ⟨d1, rfl, hv1, hx1, k4⟩
        have I2 := deep_any 2 (by omega) x4
        rw [show ((2 : Nat) : Int) + 1 = 3 from rfl] at I2
        clear I1
        go_wp2_with fail
        refine I2.mono ?_
        rintro e x5 ⟨d2, rfl, hv2, hx2, k5⟩
        clear I2
        have dd : Codec.check (Codec.deepV 2) = 0 := by decide +kernel
        have I3 := vcmp_any 6 _ _ d1 d2 x5 ((hx1.ab k5).le (by omega)) (hx2.le (by omega)) (by rw [hv1.out]; exact fits_ok dd) (by rw [hv2.out]; exact fits_ok dd)
        rw [hv1.out, hv2.out, cmpv_ok' dd dd, show Codec.order 6 (Codec.deepV 2) (Codec.deepV 2) = 0 from rfl] at I3
        go_wp2_with fail
        refine I3.mono ?_
        rintro e x6 ⟨rfl, k6⟩
        have b6 : Ab w x6 := b3.trans (k4.trans (k5.trans k6))
        clear I3 b3 k4 k5 k6 hx1 hx2 hv1 hv2 dd
        have I1 := deep_any 6 (by omega) x6
        rw [show ((6 : Nat) : Int) + 1 = 7 from rfl] at I1
        go_wp2_with fail
        refine I1.mono ?_
        rintro e x7 ⟨d3, rfl, hv3, hx3, k7⟩
        clear I1
        have I2 := vcmp_any 7 (fun _ => True) _ VM.zero d3 x7 vl_zero (hx3.le (by omega)) (bad_fits rfl) (fits_deep _ (.inr hv3.out))
        rw [show Codec.cmpv 7 VM.zero.v d3.v = (0, 8) from by unfold Codec.cmpv; rw [bad_check (v := VM.zero.v) rfl, if_pos (by omega)]] at I2
        go_wp2_with fail
        refine I2.mono ?_
        rintro e x8 ⟨rfl, k8⟩
        have b8 : Ab w x8 := b6.trans (k7.trans k8)
        clear I2 b6 k7 k8 hx3 hv3
        have I1 := text_any none [] 0 x8 RB.nil (Nat.le_refl _) (by simp)
        go_wp2_with fail
        refine I1.mono ?_
        rintro e x9 ⟨A9, c9, rfl, v9, k9⟩
        clear I1
        go_wp2_with fail
        refine (number_any 9 _).mono ?_
        rintro e x10 ⟨rfl, k10⟩
        have tn : Codec.check (V.mk 2 0 [] []) = 0 := by decide +kernel
        have I2 := vcmp_any 6 _ (fun _ => True) _ ⟨1, 9, none, [], 0, none, [], 0⟩ x10 ((v9.ab k10).le (by omega)) (VL.le vl_num (by omega)) (fits_ok tn) (fits_ok (small_ok 9 (by omega) (by omega)))
        rw [show VM.v ⟨2, 0, A9, [], c9, none, [], 0⟩ = V.mk 2 0 [] [] from rfl, show VM.v ⟨1, 9, none, [], 0, none, [], 0⟩ = V.mk 1 9 [] [] from rfl, cmpv_ok' tn (small_ok 9 (by omega) (by omega)), show Codec.order 6 (V.mk 2 0 [] []) (V.mk 1 9 [] []) = 1 from rfl] at I2
        go_wp2_with fail
        refine I2.mono ?_
        rintro e x11 ⟨rfl, k11⟩
        have b11 : Ab w x11 := b8.trans (k9.trans (k10.trans k11))
        clear I2 b8 k9 k10 k11 v9 tn
        go_wp2_with fail
        refine (valive_any _).mono ?_
        rintro e x12 ⟨rfl, k12⟩
        go_wp2
        go_ret
        exact ⟨rfl, b11.trans (Ab.trans (by exact abA) k12)⟩
end Go.Proofs.Ytmdjdcllehaphaa
