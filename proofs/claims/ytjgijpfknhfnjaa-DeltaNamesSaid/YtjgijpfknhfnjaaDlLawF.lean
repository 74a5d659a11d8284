/- DeltaNames, walked. Own work. -/
import Derived.Test.YtjgijpfknhfnjaaDlNmD
set_option linter.unusedVariables false
set_option linter.unusedSimpArgs false
namespace Go.Proofs.Ytjgijpfknhfnjaa
open Go.RowKit

set_option maxRecDepth 100000 in
set_option maxHeartbeats 32000000 in
theorem names_walk (W : World) (hM : MaxL W) : Calls Try.prog 3 #[] W (RetTrue W) := by
  obtain ⟨Z2001, l2001, hz2001, hy2001, mk2001, rb2001⟩ := make_bytes 2001 (by omega) 2001 rfl
  obtain ⟨Z2000, l2000, hz2000, hy2000, mk2000, rb2000⟩ := make_bytes 2000 (by omega) 2000 rfl
  obtain ⟨Z1001, l1001, hz1001, hy1001, mk1001, rb1001⟩ := make_bytes 1001 (by omega) 1001 rfl
  obtain ⟨Z1000, l1000, hz1000, hy1000, mk1000, rb1000⟩ := make_bytes 1000 (by omega) 1000 rfl
  obtain ⟨Z301, l301, hz301, hy301, mk301, rb301⟩ := make_bytes 301 (by omega) 301 rfl
  obtain ⟨Z300, l300, hz300, hy300, mk300, rb300⟩ := make_bytes 300 (by omega) 300 rfl
  obtain ⟨Zp, mkp, vbp⟩ := make_parts 201 (by omega) 201 rfl
  have HM := Lib.hid hM
  clear hM
  go_enter Try.func3, Try.ntmps3
  have b1 : Ab W ((((W.alloc (.cells #[.int .u8 1] 5)).alloc (.cells #[.int .u8 1] 5)).alloc (.cells Z2001 5)).alloc (.cells #[.int .i64 0, .int .i64 0, .slice none 0 0, .int .i64 1, .int .i64 0, .slice none 0 0, .int .i64 0, .int .i64 (-1), .slice none 0 0, .int .i64 (-1), .int .i64 1, .slice none 0 0, .int .i64 0, .int .i64 1, .slice (some ⟨W.heap.size, 0, none⟩) 1 1, .int .i64 1, .int .i64 0, .slice (some ⟨W.heap.size + 1, 0, none⟩) 1 1, .int .i64 0, .int .i64 2001, .slice none 0 0, .int .i64 2001, .int .i64 1, .slice none 0 0, .int .i64 0, .int .i64 0, .slice (some ⟨W.heap.size + 2, 0, none⟩) 2001 2001] 24)) := abA
  have V1 : VB ((((W.alloc (.cells #[.int .u8 1] 5)).alloc (.cells #[.int .u8 1] 5)).alloc (.cells Z2001 5)).alloc (.cells #[.int .i64 0, .int .i64 0, .slice none 0 0, .int .i64 1, .int .i64 0, .slice none 0 0, .int .i64 0, .int .i64 (-1), .slice none 0 0, .int .i64 (-1), .int .i64 1, .slice none 0 0, .int .i64 0, .int .i64 1, .slice (some ⟨W.heap.size, 0, none⟩) 1 1, .int .i64 1, .int .i64 0, .slice (some ⟨W.heap.size + 1, 0, none⟩) 1 1, .int .i64 0, .int .i64 2001, .slice none 0 0, .int .i64 2001, .int .i64 1, .slice none 0 0, .int .i64 0, .int .i64 0, .slice (some ⟨W.heap.size + 2, 0, none⟩) 2001 2001] 24)) (W.heap.size + 3) [.int .i64 0, .int .i64 0, .slice none 0 0, .int .i64 1, .int .i64 0, .slice none 0 0, .int .i64 0, .int .i64 (-1), .slice none 0 0, .int .i64 (-1), .int .i64 1, .slice none 0 0, .int .i64 0, .int .i64 1, .slice (some ⟨W.heap.size, 0, none⟩) 1 1, .int .i64 1, .int .i64 0, .slice (some ⟨W.heap.size + 1, 0, none⟩) 1 1, .int .i64 0, .int .i64 2001, .slice none 0 0, .int .i64 2001, .int .i64 1, .slice none 0 0, .int .i64 0, .int .i64 0, .slice (some ⟨W.heap.size + 2, 0, none⟩) 2001 2001] := VB.box (xs := #[.int .i64 0, .int .i64 0, .slice none 0 0, .int .i64 1, .int .i64 0, .slice none 0 0, .int .i64 0, .int .i64 (-1), .slice none 0 0, .int .i64 (-1), .int .i64 1, .slice none 0 0, .int .i64 0, .int .i64 1, .slice (some ⟨W.heap.size, 0, none⟩) 1 1, .int .i64 1, .int .i64 0, .slice (some ⟨W.heap.size + 1, 0, none⟩) 1 1, .int .i64 0, .int .i64 2001, .slice none 0 0, .int .i64 2001, .int .i64 1, .slice none 0 0, .int .i64 0, .int .i64 0, .slice (some ⟨W.heap.size + 2, 0, none⟩) 2001 2001]) (T := 24) (by (repeat (first | exact new_plain wnA | with_reducible refine old_alloc ?_ | with_reducible refine old_drew ?_ | with_reducible refine old_set ?_ wnA | with_reducible refine old_ab (by assumption) ?_)))
  have R1 : RB ((((W.alloc (.cells #[.int .u8 1] 5)).alloc (.cells #[.int .u8 1] 5)).alloc (.cells Z2001 5)).alloc (.cells #[.int .i64 0, .int .i64 0, .slice none 0 0, .int .i64 1, .int .i64 0, .slice none 0 0, .int .i64 0, .int .i64 (-1), .slice none 0 0, .int .i64 (-1), .int .i64 1, .slice none 0 0, .int .i64 0, .int .i64 1, .slice (some ⟨W.heap.size, 0, none⟩) 1 1, .int .i64 1, .int .i64 0, .slice (some ⟨W.heap.size + 1, 0, none⟩) 1 1, .int .i64 0, .int .i64 2001, .slice none 0 0, .int .i64 2001, .int .i64 1, .slice none 0 0, .int .i64 0, .int .i64 0, .slice (some ⟨W.heap.size + 2, 0, none⟩) 2001 2001] 24)) 0 (some ⟨W.heap.size, 0, none⟩) [1] := lit_at [1] (cs := #[.int .u8 1]) (fr := (0, 0)) (by (repeat (first | exact new_plain wnA | with_reducible refine old_alloc ?_ | with_reducible refine old_drew ?_ | with_reducible refine old_set ?_ wnA | with_reducible refine old_ab (by assumption) ?_))) rfl
  have R2 : RB ((((W.alloc (.cells #[.int .u8 1] 5)).alloc (.cells #[.int .u8 1] 5)).alloc (.cells Z2001 5)).alloc (.cells #[.int .i64 0, .int .i64 0, .slice none 0 0, .int .i64 1, .int .i64 0, .slice none 0 0, .int .i64 0, .int .i64 (-1), .slice none 0 0, .int .i64 (-1), .int .i64 1, .slice none 0 0, .int .i64 0, .int .i64 1, .slice (some ⟨W.heap.size, 0, none⟩) 1 1, .int .i64 1, .int .i64 0, .slice (some ⟨W.heap.size + 1, 0, none⟩) 1 1, .int .i64 0, .int .i64 2001, .slice none 0 0, .int .i64 2001, .int .i64 1, .slice none 0 0, .int .i64 0, .int .i64 0, .slice (some ⟨W.heap.size + 2, 0, none⟩) 2001 2001] 24)) 0 (some ⟨W.heap.size + 1, 0, none⟩) [1] := lit_at [1] (cs := #[.int .u8 1]) (fr := (0, 0)) (by (repeat (first | exact new_plain wnA | with_reducible refine old_alloc ?_ | with_reducible refine old_drew ?_ | with_reducible refine old_set ?_ wnA | with_reducible refine old_ab (by assumption) ?_))) rfl
  have R3 : RB ((((W.alloc (.cells #[.int .u8 1] 5)).alloc (.cells #[.int .u8 1] 5)).alloc (.cells Z2001 5)).alloc (.cells #[.int .i64 0, .int .i64 0, .slice none 0 0, .int .i64 1, .int .i64 0, .slice none 0 0, .int .i64 0, .int .i64 (-1), .slice none 0 0, .int .i64 (-1), .int .i64 1, .slice none 0 0, .int .i64 0, .int .i64 1, .slice (some ⟨W.heap.size, 0, none⟩) 1 1, .int .i64 1, .int .i64 0, .slice (some ⟨W.heap.size + 1, 0, none⟩) 1 1, .int .i64 0, .int .i64 2001, .slice none 0 0, .int .i64 2001, .int .i64 1, .slice none 0 0, .int .i64 0, .int .i64 0, .slice (some ⟨W.heap.size + 2, 0, none⟩) 2001 2001] 24)) 0 (some ⟨W.heap.size + 2, 0, none⟩) l2001 := rb2001.out _ _ (0, 0) (by (repeat (first | exact new_plain wnA | with_reducible refine old_alloc ?_ | with_reducible refine old_drew ?_ | with_reducible refine old_set ?_ wnA | with_reducible refine old_ab (by assumption) ?_)))
  go_upto_region 2 with fail
  generalize ((((W.alloc (.cells #[.int .u8 1] 5)).alloc (.cells #[.int .u8 1] 5)).alloc (.cells Z2001 5)).alloc (.cells #[.int .i64 0, .int .i64 0, .slice none 0 0, .int .i64 1, .int .i64 0, .slice none 0 0, .int .i64 0, .int .i64 (-1), .slice none 0 0, .int .i64 (-1), .int .i64 1, .slice none 0 0, .int .i64 0, .int .i64 1, .slice (some ⟨W.heap.size, 0, none⟩) 1 1, .int .i64 1, .int .i64 0, .slice (some ⟨W.heap.size + 1, 0, none⟩) 1 1, .int .i64 0, .int .i64 2001, .slice none 0 0, .int .i64 2001, .int .i64 1, .slice none 0 0, .int .i64 0, .int .i64 0, .slice (some ⟨W.heap.size + 2, 0, none⟩) 2001 2001] 24)) = w1 at *
  obtain ⟨xs, hxs⟩ : ∃ xs : List PM, xs = [⟨0, 0, none, [], 0⟩, ⟨1, 0, none, [], 0⟩, ⟨0, -1, none, [], 0⟩, ⟨-1, 1, none, [], 0⟩, ⟨0, 1, some ⟨W.heap.size, 0, none⟩, [1], 1⟩, ⟨1, 0, some ⟨W.heap.size + 1, 0, none⟩, [1], 1⟩, ⟨0, 2001, none, [], 0⟩, ⟨2001, 1, none, [], 0⟩, ⟨0, 0, some ⟨W.heap.size + 2, 0, none⟩, l2001, 2001⟩] := ⟨_, rfl⟩
  have hlen : xs.length = 9 := by rw [hxs]; rfl
  have hvx : ∀ x ∈ xs, Dl.valid [x.d] = 8 := fun x hx => Dl.bads_bad hz2001.out x.d (by
    have : xs.map PM.d = Dl.bads l2001 := by rw [hxs]; rfl
    rw [← this]; exact List.mem_map.2 ⟨x, hx, rfl⟩)
  have hpl : ∀ x ∈ xs, PL w1 x := by
    intro x hx
    rw [hxs] at hx
    have hz := hz2001.out
    simp only [List.mem_cons, List.not_mem_nil, or_false] at hx
    rcases hx with rfl | rfl | rfl | rfl | rfl | rfl | rfl | rfl | rfl
    · exact pl_copy _ (by omega) (by omega) (by omega) (by omega)
    · exact pl_copy _ (by omega) (by omega) (by omega) (by omega)
    · exact pl_copy _ (by omega) (by omega) (by omega) (by omega)
    · exact pl_copy _ (by omega) (by omega) (by omega) (by omega)
    · exact pl_data R1 (by simp) (by simp) (by omega) (by omega) (by omega) (by omega)
    · exact pl_data R2 (by simp) (by simp) (by omega) (by omega) (by omega) (by omega)
    · exact pl_copy _ (by omega) (by omega) (by omega) (by omega)
    · exact pl_copy _ (by omega) (by omega) (by omega) (by omega)
    · exact pl_data R3 (by omega) (by omega) (by omega) (by omega) (by omega) (by omega)
  have hrow : w1.rangeAt (W.heap.size + 3) 0 (pcells xs) := by
    have e : pcells xs = [.int .i64 0, .int .i64 0, .slice none 0 0, .int .i64 1, .int .i64 0, .slice none 0 0, .int .i64 0, .int .i64 (-1), .slice none 0 0, .int .i64 (-1), .int .i64 1, .slice none 0 0, .int .i64 0, .int .i64 1, .slice (some ⟨W.heap.size, 0, none⟩) 1 1, .int .i64 1, .int .i64 0, .slice (some ⟨W.heap.size + 1, 0, none⟩) 1 1, .int .i64 0, .int .i64 2001, .slice none 0 0, .int .i64 2001, .int .i64 1, .slice none 0 0, .int .i64 0, .int .i64 0, .slice (some ⟨W.heap.size + 2, 0, none⟩) 2001 2001] := by rw [hxs]; simp [pcells, PM.cells, hz2001.out]
    rw [e]
    exact V1.range
  have P1 := Lib.hid (fun k (hk : k < xs.length) w' (ka : Ab w1 w') => (show Pts w' (some ⟨W.heap.size + 3, k * 3, none⟩) (9 - k) [xs[k]] from
    Pts.ab (pts_row [xs[k]] (fun j v hv => by
      have hv' : xs[k].cells[j]? = some v := by rw [pcells_one] at hv; exact hv
      have := hrow _ v (pcells_at xs k hk j v hv')
      rw [Nat.zero_add] at this
      exact this) (fun x hx => by
        obtain rfl : x = xs[k] := by simpa using hx
        exact hpl _ (List.getElem_mem hk)) (by show 1 ≤ 9 - k; omega) (by simp)) ka))
  have PV := Lib.hid (fun k (hk : k < xs.length) => hvx xs[k] (List.getElem_mem hk))
  clear hrow hpl hvx V1 R1 R2 R3 hxs
  generalize W.heap.size + 3 = bb at *
  go_wp2_with fail
  go_loopw [2] (fun i w' => ∃ k : Nat, k ≤ 9 ∧ i = .int .i64 k ∧ Ab w1 w') (fun i _ => 9 - (intOf i).toNat)
  case atStart => exact ⟨0, by omega, rfl, abA⟩
  case round =>
    obtain ⟨k, hk, rfl, c1⟩ := hrel
    rename World => w2
    by_cases hlt : k < 9
    · as_aux_lemma =>
        have hT : (k : Int) < 9 := by omega
        have ro := fun w' => run_one bb k w' hlt
        have hkx : k < xs.length := by omega
        have TP := Lib.hid (P1.out k hkx)
        have TV := Lib.hid (PV.out k hkx)
        generalize xs[k] = x at *
        clear P1 PV hkx hlen b1 HM
        go_wp2_with fail
        refine (one_cost _ _ x _ (TP.out _ (c1.trans abA)) TV.out).mono ?_
        rintro e w3 ⟨rfl, hb3⟩
        have c3 := c1.trans (Ab.trans (by exact abA) hb3)
        clear c1 hb3
        go_wp2_with fail
        refine (enc_n _ _ 1 [x] _ (TP.out _ (c3.trans abA)) rfl 8 (Dl.bad_encode TV.out)).mono ?_
        rintro e w4 ⟨A4, c4', rfl, hb4⟩
        have c4 := c3.trans (Ab.trans (by exact abA) hb4)
        clear c3 hb4
        go_wp2_with fail
        refine (apply_n _ 2000 l2000 hz2000.out (by omega) _ _ 1 [x] _ (rb2000.out _ _ (0, 0) (by (repeat (first | exact new_plain wnA | with_reducible refine old_alloc ?_ | with_reducible refine old_drew ?_ | with_reducible refine old_set ?_ wnA | with_reducible refine old_ab (by assumption) ?_)))) (TP.out _ (c4.trans abA)) rfl ([], 8) (Dl.bad_apply TV.out hz2000.out)).mono ?_
        rintro e w5 ⟨A5, c5', L5, hL5, rfl, _, hb5⟩
        have c5 := c4.trans (Ab.trans (by exact abA) hb5)
        clear c4 hb5
        go_wp2_with fail
        refine (check_n _ _ 1 [x] 5000 8 _ (TP.out _ (c5.trans abA)) rfl (Dl.bad_check TV.out 5000)).mono ?_
        rintro e w6 ⟨rfl, hb6⟩
        have c6 := c5.trans (Ab.trans (by exact abA) hb6)
        clear c5 hb6
        go_wp2
        go_roundw
        case rel => exact ⟨k + 1, by omega, by go_num, c6.trans abA⟩
        case measure => simp [intOf] <;> omega
    · have hT : ¬ (k : Int) < 9 := by omega
      have b2 := b1.trans c1
      clear b1 c1 hk hlt P1 PV hlen
      go_upto_region 11 with fail
      have VP : VB (w2.alloc (.cells #[.int .i64 2, .int .i64 3, .slice none 0 0] 24)) w2.heap.size (pcells [⟨2, 3, none, [], 0⟩]) := VB.box (xs := #[.int .i64 2, .int .i64 3, .slice none 0 0]) (T := 24) (by (repeat (first | exact new_plain wnA | with_reducible refine old_alloc ?_ | with_reducible refine old_drew ?_ | with_reducible refine old_set ?_ wnA | with_reducible refine old_ab (by assumption) ?_)))
      have bp : Ab W (w2.alloc (.cells #[.int .i64 2, .int .i64 3, .slice none 0 0] 24)) := b2.trans abA
      go_upto_region 12 with fail
      generalize (w2.alloc (.cells #[.int .i64 2, .int .i64 3, .slice none 0 0] 24)) = wp at *
      generalize w2.heap.size = pg at *
      have PC := Lib.hid (fun w' (k : Ab wp w') => (show Pts w' (some ⟨pg, 0, none⟩) 1 [⟨2, 3, none, [], 0⟩] from Pts.ab (pts_row _ VP.range (fun x hx => by
        obtain rfl : x = ⟨2, 3, none, [], 0⟩ := by simpa using hx
        exact pl_copy _ (by omega) (by omega) (by omega) (by omega)) (Nat.le_refl _) (by simp)) k))
      have BP := Lib.hid bp
      have c0 : Ab wp wp := Ab.refl _
      clear VP bp b2
      refine wp_cut (DSt13 W) ?_ ?_
      rotate_left
      · intro J K' hJ hK'
        go_wp2_with fail
        refine (check_n _ _ 1 [⟨2, 3, none, [], 0⟩] 5 0 _ (PC.out _ (c0.trans abA)) rfl Dl.check_5).mono ?_
        rintro e x1 ⟨rfl, hb⟩
        have d1 : Ab wp x1 := Ab.trans (by exact abA) hb
        have c1 := c0.trans d1
        clear hb c0
        clear d1
        go_wp2_with fail
        refine (check_n _ _ 1 [⟨2, 3, none, [], 0⟩] 4 16 _ (PC.out _ (c1.trans abA)) rfl Dl.check_4).mono ?_
        rintro e x2 ⟨rfl, hb⟩
        have d2 : Ab x1 x2 := Ab.trans (by exact abA) hb
        have c2 := c1.trans d2
        clear hb c1
        clear d2
        go_wp2_with fail
        refine (check_n _ _ 1 [⟨2, 3, none, [], 0⟩] (-1) 16 _ (PC.out _ (c2.trans abA)) rfl Dl.check_1).mono ?_
        rintro e x3 ⟨rfl, hb⟩
        have d3 : Ab x2 x3 := Ab.trans (by exact abA) hb
        have c3 := c2.trans d3
        clear hb c2
        clear d3
        go_wp2_with fail
        refine (check_n none 0 0 [] 0 0 _ (pts_no _ _) rfl Dl.check_no).mono ?_
        rintro e x4 ⟨rfl, hb⟩
        have d4 : Ab x3 x4 := Ab.trans (by exact abA) hb
        have c4 := c3.trans d4
        clear hb c3
        clear d4
        go_wp2_with fail
        refine (check_n _ _ 201 (List.replicate 201 PM.zero) 0 4 _ (pts_zero 201 (by omega) (vbp.out _ _ (by (repeat (first | exact new_plain wnA | with_reducible refine old_alloc ?_ | with_reducible refine old_drew ?_ | with_reducible refine old_set ?_ wnA | with_reducible refine old_ab (by assumption) ?_))))) List.length_replicate (Dl.check_many (by rw [List.length_map, List.length_replicate]) 0)).mono ?_
        rintro e x5 ⟨rfl, hb⟩
        have d5 : Ab x4 x5 := Ab.trans (by exact abA) hb
        have c5 := c4.trans d5
        clear hb c4
        clear d5
        go_wp2
        refine Met.intro (hJ _ _ ?_)
        exact ⟨rfl, rfl, rfl, pg, rfl, PC.out _ c5, BP.out.trans c5⟩
      rename_i KK hKK
      rintro ⟨T2, d2⟩ wz ⟨hd2, hs2, f11, pg', f10, hP, HAz⟩
      simp only at hd2 hs2 f11 f10
      subst hd2
      refine hKK _ _ ?_
      exact dpart13 W wz HM.out HAz T2 hs2 pg' hP f11 f10
end Go.Proofs.Ytjgijpfknhfnjaa
