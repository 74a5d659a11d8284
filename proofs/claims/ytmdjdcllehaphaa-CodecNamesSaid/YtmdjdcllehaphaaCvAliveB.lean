/- The chapter's examples, walked. Own work. -/
import Derived.Test.YtmdjdcllehaphaaCvAlive
import Derived.Test.YtmdjdcllehaphaaCodecE
import Derived.Lib.SlBytesConst
set_option linter.unusedVariables false
set_option linter.unusedSimpArgs false
namespace Go.Proofs.Ytmdjdcllehaphaa
open Go.RowKit
open Codec (V)

theorem lit_rb (w : World) (l : List UInt8) (cs : Array Value) (h : cs = (l.map cb).toArray) (fr : Nat × Nat := (0, 0)) : RB (w.alloc (.cells cs 5 fr)) 0 (some ⟨w.heap.size, 0, none⟩) l := by
  subst h
  exact RB.blk (new_plain rfl) (Nat.zero_le _)
theorem vl_num {n : Int} {w : World} {S : Nat → Prop} (h1 : -9223372036854775808 ≤ n := by omega) (h2 : n ≤ 9223372036854775807 := by omega) : VL 1 w S ⟨1, n, none, [], 0, none, [], 0⟩ :=
  ⟨⟨by simp, h1, h2, by simp, by simp, by simp, by simp⟩, RS.nil, fun h => absurd h (by simp)⟩
theorem vl_both {w : World} {g c2 : Nat} {A2 : Option Addr} (h : VB w g [.int .u8 1, .int .i64 300, .slice none 0 0, .slice none 0 0, .int .u8 2, .int .i64 0, .slice A2 2 c2, .slice none 0 0]) (q : VL 1 w (fun _ => True) ⟨2, 0, A2, [97, 98], c2, none, [], 0⟩) :
    VL 2 w (fun _ => True) ⟨3, 0, none, [], 0, some ⟨g, 0, none⟩, [Codec.v300, Codec.vab], 2⟩ := by
  refine ⟨⟨by simp, by simp, by simp, by simp, by simp, by simp, by simp⟩, RS.nil, fun _ => ⟨g, 0, rfl, trivial, fun i hi => ?_⟩⟩
  have : i = 0 ∨ i = 1 := by simp at hi; omega
  rcases this with rfl | rfl
  · refine ⟨⟨1, 300, none, [], 0, none, [], 0⟩, rfl, fun j v hj => ?_, vl_num⟩
    have hj4 : j < 4 := (List.getElem?_eq_some_iff.1 hj).1
    refine h.q (0 + 0 * 4 + j) v ?_
    have : j = 0 ∨ j = 1 ∨ j = 2 ∨ j = 3 := by omega
    rcases this with rfl | rfl | rfl | rfl <;> exact hj
  · refine ⟨⟨2, 0, A2, [97, 98], c2, none, [], 0⟩, rfl, fun j v hj => ?_, q⟩
    have hj4 : j < 4 := (List.getElem?_eq_some_iff.1 hj).1
    refine h.q (0 + 1 * 4 + j) v ?_
    have : j = 0 ∨ j = 1 ∨ j = 2 ∨ j = 3 := by omega
    rcases this with rfl | rfl | rfl | rfl <;> exact hj
set_option maxRecDepth 100000 in
set_option maxHeartbeats 4000000 in
theorem valive_any (w : World) : Calls Try.prog 15 #[] w (RetTrue w) := by
  go_enter Try.func15, Try.ntmps15
  go_wp2_with fail
  refine (number_any 300 _).mono ?_
  rintro e w1 ⟨rfl, hb1⟩
  have R1 := lit_rb w1 [97, 98] #[.int .u8 97, .int .u8 98] rfl (2, 3)
  have CV := Lib.run_convert_bytes_const (P := Try.prog) w1 23 5 #[.int .u8 97, .int .u8 98] 2 2 Try.underlying23 Try.underlying5
  have T1 := text_any _ [97, 98] 2 _ R1 (Nat.le_refl _) (by simp)
  go_wp2_with fail
  refine T1.mono ?_
  rintro e w2 ⟨A2, c2, rfl, v2, hb2⟩
  have ab2 : Ab w w2 := hb1.trans (Ab.trans (by exact abA) hb2)
  clear R1 T1 hb1 hb2
  have Y1 : VB ((w2.alloc (.cells VM.zero.cells.toArray 26)).alloc (.cells VM.zero.cells.toArray 26)) w2.heap.size VM.zero.cells := VB.box (xs := VM.zero.cells.toArray) (T := 26) (by (repeat (first | exact new_plain wnA | with_reducible refine old_alloc ?_ | with_reducible refine old_drew ?_ | with_reducible refine old_set ?_ wnA | with_reducible refine old_ab (by assumption) ?_)))
  have Y2 : VB ((w2.alloc (.cells VM.zero.cells.toArray 26)).alloc (.cells VM.zero.cells.toArray 26)) (w2.heap.size + 1) VM.zero.cells := VB.box (xs := VM.zero.cells.toArray) (T := 26) (by (repeat (first | exact new_plain wnA | with_reducible refine old_alloc ?_ | with_reducible refine old_drew ?_ | with_reducible refine old_set ?_ wnA | with_reducible refine old_ab (by assumption) ?_)))
  go_upto_region 2 with (first
    | (refine list_stV (o := ⟨none, .store _ (.tmp 1) _, _, _, _, _⟩) (us := [.int .u8 1, .int .i64 300, .slice none 0 0, .slice none 0 0]) _ infoV rfl _ _ rfl rfl rfl Y1 rfl rfl rfl ?_; intro w3 h3; have Y3 := h3.vb Y2 (by omega); have V3 := h3.v; have b3 : Ab w2 w3 := h3.ab w2 abA (Nat.le_refl _); clear h3 Y1 Y2)
    | (refine list_stV (o := ⟨none, .store _ (.tmp 2) _, _, _, _, _⟩) (us := [.int .u8 2, .int .i64 0, .slice A2 2 c2, .slice none 0 0]) _ infoV rfl _ _ rfl rfl rfl Y3 rfl rfl rfl ?_; intro w4 h4; have V4 := h4.vb V3 (by omega); have U4 := h4.v; have b4 : Ab w2 w4 := h4.ab w2 b3 (by omega); clear h4 V3 Y3 b3))
  have ab4 := ab2.trans b4
  have q4 := v2.ab b4
  clear v2 b4 ab2
  have R5 := lit_rb w4 [1, 128, 0] #[.int .u8 1, .int .u8 128, .int .u8 0] rfl
  have D5 := decode_any _ [1, 128, 0] 3 _ R5 (Nat.le_refl _) (by simp)
  go_wp2_with fail
  refine D5.mono ?_
  rintro e w5 ⟨x5, er5, rfl, h5, v5, hb5⟩
  obtain ⟨e5, rfl⟩ := Prod.mk.inj (h5.out.symm.trans Codec.ex_none)
  have b45 : Ab w4 w5 := Ab.trans (by exact abA) hb5
  replace V4 := V4.ab b45
  replace U4 := U4.ab b45
  replace q4 := q4.ab b45
  have ab5 := ab4.trans b45
  have Z5 : VB (w5.alloc (.cells VM.zero.cells.toArray 26)) w5.heap.size VM.zero.cells := VB.box (xs := VM.zero.cells.toArray) (T := 26) (by (repeat (first | exact new_plain wnA | with_reducible refine old_alloc ?_ | with_reducible refine old_drew ?_ | with_reducible refine old_set ?_ wnA | with_reducible refine old_ab (by assumption) ?_)))
  clear R5 D5 h5 e5 v5 hb5 b45 ab4 CV
  go_upto_region 3 with (refine list_stV (o := ⟨none, _, _, _, _, _⟩) (us := x5.cells) _ infoV rfl _ _ rfl rfl rfl Z5 rfl rfl x5.one ?_; intro w6 h6)
  have b56 : Ab w5 w6 := h6.ab w5 ((Ab.refl _).alloc _) (Nat.le_refl _)
  replace V4 := V4.ab b56
  replace U4 := U4.ab b56
  replace q4 := q4.ab b56
  have ab6 := ab5.trans b56
  generalize w2.heap.size = g1 at *
  clear h6 Z5 b56 ab5
  go_wp2_with fail
  refine (number_any 0 _).mono ?_
  rintro e w7 ⟨rfl, hb7⟩
  have I7 := is_any 1 (fun _ => True) ⟨1, 0, none, [], 0, none, [], 0⟩ _ [1, 0] 2 _ vl_num (lit_rb w7 [1, 0] #[.int .u8 1, .int .u8 0] rfl) (Nat.le_refl _) (by simp) Codec.ex_0.1 Codec.ex_0.2
  go_wp2_with fail
  refine I7.mono ?_
  rintro e w8 ⟨rfl, hb8⟩
  have b68 : Ab w6 w8 := hb7.trans (Ab.trans (by exact abA) hb8)
  replace V4 := V4.ab b68
  replace U4 := U4.ab b68
  replace q4 := q4.ab b68
  have ab8 := ab6.trans b68
  clear I7 hb7 hb8 b68 ab6
  go_wp2_with fail
  refine (number_any (-1) _).mono ?_
  rintro e w9 ⟨rfl, hb9⟩
  have I9 := is_any 1 (fun _ => True) ⟨1, -1, none, [], 0, none, [], 0⟩ _ [1, 1] 2 _ vl_num (lit_rb w9 [1, 1] #[.int .u8 1, .int .u8 1] rfl) (Nat.le_refl _) (by simp) Codec.ex_1.1 Codec.ex_1.2
  go_wp2_with fail
  refine I9.mono ?_
  rintro e w10 ⟨rfl, hb10⟩
  have b10 : Ab w8 w10 := hb9.trans (Ab.trans (by exact abA) hb10)
  replace V4 := V4.ab b10
  replace U4 := U4.ab b10
  replace q4 := q4.ab b10
  have ab10 := ab8.trans b10
  clear I9 hb9 hb10 b10 ab8
  have I11 := is_any 1 (fun _ => True) ⟨1, 300, none, [], 0, none, [], 0⟩ _ [1, 216, 4] 3 _ vl_num (lit_rb w10 [1, 216, 4] #[.int .u8 1, .int .u8 216, .int .u8 4] rfl) (Nat.le_refl _) (by simp) Codec.ex_300.1 Codec.ex_300.2
  go_wp2_with (refine list_ldG7 (o := ⟨some 23, _, _, _, _, _⟩) _ infoV Try.underlying26 rfl (by kernel_rfl) _ rfl rfl V4 rfl ?_)
  refine I11.mono ?_
  rintro e w11 ⟨rfl, hb11⟩
  have b11 : Ab w10 w11 := Ab.trans (by exact abA) hb11
  replace V4 := V4.ab b11
  replace U4 := U4.ab b11
  replace q4 := q4.ab b11
  have ab11 := ab10.trans b11
  clear I11 hb11 b11 ab10
  have I12 := is_any 1 (fun _ => True) ⟨2, 0, A2, [97, 98], c2, none, [], 0⟩ _ [2, 2, 97, 98] 4 _ (q4.ab (show Ab w11 (w11.alloc (.cells #[.int .u8 2, .int .u8 2, .int .u8 97, .int .u8 98] 5)) from abA)) (lit_rb w11 [2, 2, 97, 98] #[.int .u8 2, .int .u8 2, .int .u8 97, .int .u8 98] rfl) (Nat.le_refl _) (by simp) Codec.ex_ab.1 Codec.ex_ab.2
  go_wp2_with (refine list_ldG7 (o := ⟨some 28, _, _, _, _, _⟩) _ infoV Try.underlying26 rfl (by kernel_rfl) _ rfl rfl U4 rfl ?_)
  refine I12.mono ?_
  rintro e w12 ⟨rfl, hb12⟩
  have b12 : Ab w11 w12 := Ab.trans (by exact abA) hb12
  replace V4 := V4.ab b12
  replace U4 := U4.ab b12
  replace q4 := q4.ab b12
  have ab12 := ab11.trans b12
  clear I12 hb12 b12 ab11
  go_wp2_with (first
    | (refine list_ldG7 (o := ⟨some 33, _, _, _, _, _⟩) _ infoV Try.underlying26 rfl (by kernel_rfl) _ rfl rfl V4 rfl ?_)
    | (refine list_ldG7 (o := ⟨some 34, _, _, _, _, _⟩) _ infoV Try.underlying26 rfl (by kernel_rfl) _ rfl rfl U4 rfl ?_))
  refine (list_any _ _ _ _).mono ?_
  rintro e w13 ⟨rfl, hb13⟩
  have B12 : VB (w12.alloc (.cells #[.int .u8 1, .int .i64 300, .slice none 0 0, .slice none 0 0, .int .u8 2, .int .i64 0, .slice A2 2 c2, .slice none 0 0] 26)) w12.heap.size [.int .u8 1, .int .i64 300, .slice none 0 0, .slice none 0 0, .int .u8 2, .int .i64 0, .slice A2 2 c2, .slice none 0 0] := VB.box (xs := #[.int .u8 1, .int .i64 300, .slice none 0 0, .slice none 0 0, .int .u8 2, .int .i64 0, .slice A2 2 c2, .slice none 0 0]) (T := 26) (by (repeat (first | exact new_plain wnA | with_reducible refine old_alloc ?_ | with_reducible refine old_drew ?_ | with_reducible refine old_set ?_ wnA | with_reducible refine old_ab (by assumption) ?_)))
  have B13 := B12.ab hb13
  have b13 : Ab w12 w13 := Ab.trans (by exact abA) hb13
  have q13 := q4.ab b13
  have ab13 := ab12.trans b13
  clear V4 U4 q4 B12 hb13 b13 ab12
  have X13 : Ab w13 (w13.alloc (.cells #[.int .u8 3, .int .u8 2, .int .u8 1, .int .u8 216, .int .u8 4, .int .u8 2, .int .u8 2, .int .u8 97, .int .u8 98] 5)) := abA
  have I14 := is_any 2 (fun _ => True) ⟨3, 0, none, [], 0, some ⟨w12.heap.size, 0, none⟩, [Codec.v300, Codec.vab], 2⟩ _ [3, 2, 1, 216, 4, 2, 2, 97, 98] 9 _ (vl_both (B13.ab X13) (q13.ab X13)) (lit_rb w13 [3, 2, 1, 216, 4, 2, 2, 97, 98] #[.int .u8 3, .int .u8 2, .int .u8 1, .int .u8 216, .int .u8 4, .int .u8 2, .int .u8 2, .int .u8 97, .int .u8 98] rfl) (Nat.le_refl _) (by simp) Codec.ex_both.1 Codec.ex_both.2
  clear B13 q13
  go_wp2_with fail
  refine I14.mono ?_
  rintro e w14 ⟨rfl, hb14⟩
  go_wp2
  go_ret
  exact ⟨rfl, ab13.trans (X13.trans hb14)⟩
end Go.Proofs.Ytmdjdcllehaphaa
