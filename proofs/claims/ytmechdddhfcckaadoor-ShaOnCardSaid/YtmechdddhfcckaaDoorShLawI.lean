/- ShaOn, walked (its regions written by a program). Own work. -/
import Derived.Test.YtmechdddhfcckaaDoorShLawH
import Derived.Test.YtmechdddhfcckaaDoorShLawF
import Derived.Test.YtmechdddhfcckaaDoorShEqG
import Derived.Deep.DeepCutAuto
set_option linter.unusedVariables false
set_option linter.unusedSimpArgs false
namespace Go.Proofs.YtmechdddhfcckaaDoor
open Go.RowKit

set_option maxRecDepth 100000 in
set_option maxHeartbeats 8000000 in
theorem on_small (w : World) (hG : Glob w) (h : Sha.W8) (k q : Nat) (F : List UInt8 → Sha.W8) (T O : List UInt8 → List UInt8) (hP : PkgW w (64 * k) F T O) (N : Nat → Sha.W8) (b : List UInt8) (hN : BlkOk w N b) (A : Option Addr) (c : Nat) (hb : RB w 0 A b) (hc : b.length ≤ c) (kb : b.length ≤ 1000) (kk : k ≤ 1000) (xq : List UInt8)
    (hF0 : Hid (F [] = h)) (hN0 : Hid (N 0 = h)) (hq : Hid (b.length / 64 = q)) (hxq : Hid (xq = b.take (64 * q))) (hFq : Hid (F xq = N q)) (hTq : Hid (T xq = [])) (hFb : Hid (F b = N q)) (hTb : Hid (T b = b.drop (64 * q))) :
    Calls Tryd.prog 7 #[.agg (w8 h).toArray, .int .i64 (k : Int), .slice A b.length c] w (RetTrue w) := by
  have T0 := Lib.hid hP.nil
  have hE32 : ∀ w, (Op.equalIn 10000 24 (.agg (idv (O b)).toArray) (.agg (idv (O b)).toArray)).run Tryd.prog w = .ok true w := fun w => run_eq32 _ (hP.len b) w
  have q1 : 64 * q ≤ b.length := by have := hq.out; omega
  have q2 : (b.length : Int) / 64 = (q : Int) := by have := hq.out; omega
  have k0 : ¬ (k : Int) < 0 := by omega
  have k1 : ¬ 1000 < (k : Int) := by omega
  go_enter Tryd.func7, Tryd.ntmps7
  have B0 : VB (w.alloc (.cells (w8 h).toArray 32)) w.heap.size (w8 h) := VB.box (xs := (w8 h).toArray) (T := 32) (by (repeat (first | exact new_plain wnA | with_reducible refine old_alloc ?_ | with_reducible refine old_drew ?_ | with_reducible refine old_set ?_ wnA | with_reducible refine old_ab (by assumption) ?_)))
  have Y1 : VB ((w.alloc (.cells (w8 h).toArray 32)).alloc (.cells #[.int .u32 0, .int .u32 0, .int .u32 0, .int .u32 0, .int .u32 0, .int .u32 0, .int .u32 0, .int .u32 0, .slice none 0 0, .int .i64 0] 36)) (w.heap.size + 1) [.int .u32 0, .int .u32 0, .int .u32 0, .int .u32 0, .int .u32 0, .int .u32 0, .int .u32 0, .int .u32 0, .slice none 0 0, .int .i64 0] := VB.box (xs := #[.int .u32 0, .int .u32 0, .int .u32 0, .int .u32 0, .int .u32 0, .int .u32 0, .int .u32 0, .int .u32 0, .slice none 0 0, .int .i64 0]) (T := 36) (by (repeat (first | exact new_plain wnA | with_reducible refine old_alloc ?_ | with_reducible refine old_drew ?_ | with_reducible refine old_set ?_ wnA | with_reducible refine old_ab (by assumption) ?_)))
  go_wp2_with (first
    | (refine list_ldV (o := ⟨some 37, _, _, _, _, _⟩) _ info8 Tryd.underlying32 rfl rfl _ rfl rfl (VB.ab B0 abA) (w8_len _) ?_)
    | (refine list_val (o := ⟨some 40, _, _, _, _, _⟩) (.agg (hv h none 0 0 (64 * (k : Int))).toArray) rfl (by kernel_rfl) ?_)
    | (refine list_stV (o := ⟨none, _, _, _, _, _⟩) (us := hv h none 0 0 (64 * (k : Int))) _ infoH rfl _ _ rfl rfl rfl Y1 rfl (hv_len _ _ _ _ _) (hv_one _ _ _ _ _) ?_
       intro w1 h1
       have ab1 : Ab w w1 := h1.ab w abA (by omega)
       have B1 := h1.vb (VB.ab B0 abA) (by omega)
       have V1 := h1.v
       clear h1 B0 Y1)
    | (refine list_ldV (o := ⟨some 42, _, _, _, _, _⟩) _ infoH Tryd.underlying36 rfl rfl _ rfl rfl V1 (hv_len _ _ _ _ _) ?_))
  have W1 := hP.write [] [] [] (64 * (k : Int)) (64 * (k : Int)) none 0 none 0 w1 ab1 (Lib.hid (by simp)) (Lib.hid (by simp)) (Lib.hid rfl) (by rw [T0.out]; exact RB.nil) (by rw [T0.out]; exact Nat.le_refl _) RB.nil (Nat.le_refl _) (by simp)
  unfold RetG at W1
  rw [hF0.out, T0.out] at W1
  refine W1.mono ?_
  rintro e w2 ⟨R2, c2, rfl, r2, _, hb2⟩
  clear W1
  have ab2 : Ab w w2 := ab1.trans hb2
  have B2 := B1.ab hb2
  have V2 := V1.ab hb2
  have Y2 : VB (w2.alloc (.cells #[.int .u32 0, .int .u32 0, .int .u32 0, .int .u32 0, .int .u32 0, .int .u32 0, .int .u32 0, .int .u32 0, .slice none 0 0, .int .i64 0] 36)) w2.heap.size [.int .u32 0, .int .u32 0, .int .u32 0, .int .u32 0, .int .u32 0, .int .u32 0, .int .u32 0, .int .u32 0, .slice none 0 0, .int .i64 0] := VB.box (xs := #[.int .u32 0, .int .u32 0, .int .u32 0, .int .u32 0, .int .u32 0, .int .u32 0, .int .u32 0, .int .u32 0, .slice none 0 0, .int .i64 0]) (T := 36) (by (repeat (first | exact new_plain wnA | with_reducible refine old_alloc ?_ | with_reducible refine old_drew ?_ | with_reducible refine old_set ?_ wnA | with_reducible refine old_ab (by assumption) ?_)))
  clear hb2 B1 V1 ab1
  go_wp2_with (first
    | (refine list_stV (o := ⟨none, _, _, _, _, _⟩) (us := hv h R2 0 c2 (64 * (k : Int))) _ infoH rfl _ _ rfl rfl rfl Y2 rfl (hv_len _ _ _ _ _) (hv_one _ _ _ _ _) ?_
       intro w3 h3
       have b23 : Ab w2 w3 := h3.ab _ ((Ab.refl _).alloc _) (Nat.le_refl _)
       have ab3 := ab2.trans b23
       have B3 := B2.ab b23
       have V3 := V2.ab b23
       have U3 := h3.v
       clear h3 B2 V2 Y2)
    | (refine list_ldG (o := ⟨some 49, _, _, _, _, _⟩) _ infoH Tryd.underlying36 rfl (by kernel_rfl) _ rfl rfl U3 (hv_len _ _ _ _ _) ?_)
    | (refine list_ldG (o := ⟨some 50, _, _, _, _, _⟩) _ infoH Tryd.underlying36 rfl (by kernel_rfl) _ rfl rfl V3 (hv_len _ _ _ _ _) ?_))
  have S3 := same_true h R2 none [] c2 0 (64 * (k : Int)) w3 RB.nil RB.nil (by simp)
  refine S3.mono ?_
  rintro e w4 ⟨rfl, hb4⟩
  have ab4 := ab3.trans hb4
  have B4 := B3.ab hb4
  have V4 := V3.ab hb4
  clear S3 U3 B3 V3 ab3 hb4 b23 ab2
  rw [← hN0.out] at B4
  have zB : w.heap.size < w4.heap.size := B4.lt
  go_wp2
  go_loopw [6, 11] (fun r i w' => ∃ j : Nat, j ≤ q ∧ r = .bool false ∧ i = .int .i64 ((j : Int) * 64) ∧ Ab w w' ∧ VB w' w.heap.size (w8 (N j)) ∧ VB w' (w.heap.size + 1) (hv h none 0 0 (64 * (k : Int)))) (fun _ i _ => q * 64 - (intOf i).toNat)
  case atStart => exact ⟨0, by omega, rfl, rfl, ab4, B4, V4⟩
  case round =>
    obtain ⟨j, hj, rfl, rfl, hab, hx8, hV⟩ := hrel
    rename World => w1
    by_cases hlt : j < q
    · have HBk := hN j (by omega)
      have hcut : RB w1 0 (cutA A c (64 * j)) (Sha.blk b j) := ((hb.ab hab).cut (64 * j) c hc).take 64
      have hcap : 64 ≤ c - 64 * j := by omega
      have M : ∀ w0, (Instr.slice 28 (.slice A b.length c) (some (.int .i64 ((j : Int) * 64))) (some (.int .i64 ((j : Int) * 64 + 64))) none).run Tryd.prog w0 = .ok (.slice (cutA A c (64 * j)) 64 (c - 64 * j)) w0 := fun w0 => by
        have := run_cuts (64 * j) (64 * j + 64) .i64 .i64 A b.length c w0 (by omega) (by omega)
        have e1 : ((64 * j : Nat) : Int) = (j : Int) * 64 := by omega
        have e2 : ((64 * j + 64 : Nat) : Int) = (j : Int) * 64 + 64 := by omega
        have e3 : 64 * j + 64 - 64 * j = 64 := by omega
        rw [e1, e2, e3] at this
        exact this
      have j1 : IntKind.i64.wrap ((j : Int) * 64 + 64) = (j : Int) * 64 + 64 := IntWalk.i64_in _ (by omega)
      have hT : (j : Int) * 64 < (q : Int) * 64 := by omega
      generalize hH2 : N (j + 1) = H2 at *
      have HH2 := Lib.hid hH2
      clear hH2
      have zv := hx8.lt
      generalize hH : N j = H at *
      have HH := Lib.hid hH
      clear hH
      generalize hb0 : w.heap.size = b0 at *
      have HB0 := Lib.hid hb0
      clear hb0
      go_upto_region 11 with fail
      go_cut [12, 13] (fun s8 s9 wx => ∃ v, s8 = .pointer (some ⟨v, 0, none⟩) ∧ s9 = .int .i64 0 ∧ VB wx v (w8 H2) ∧ w1.heap.size ≤ v ∧ Ab w1 wx)
      case first =>
        refine wp_region_held_drew (by kernel_rfl) (S := fun w' => VB w' b0 (w8 H)) ?_ (fun hHeld => ?_)
        · (exact VB.ab hx8 abA)
        (refine rtL 0 (w8 H) 0 (fun w hSw => VB.range hSw) Tryd.underlying32 ?_
         (try simp only [Act.put, stA, st0, st1]))
        (refine rtA 1 ?_ ?_
         (try simp only [Act.put, stA, st0, st1]))
        (refine rtA 2 ?_ ?_
         (try simp only [Act.put, stA, st0, st1]))
        (refine rtA 3 ?_ ?_
         (try simp only [Act.put, stA, st0, st1]))
        (refine rtA 4 ?_ ?_
         (try simp only [Act.put, stA, st0, st1]))
        (refine rtA 5 ?_ ?_
         (try simp only [Act.put, stA, st0, st1]))
        (refine wpAnyH_ready (rs := [6, 10]) (by kernel_rfl) (by simp) ?_)
        refine AllReadyH.cons rfl (fun K hK => ?_) (AllReadyH.cons rfl (fun K hK => ?_) AllReadyH.nil)
        · (go_simp
           (refine (HBk _ (show Ab w _ from Ab.trans hab abA) _ _ (RB.ab hcut abA) hcap).mono ?_; rintro e wb ⟨rfl, hbb⟩; have zb := hbb.size; (try simp at zb))
           (try go_wp2_with fail)
           (refine hK.out _ _ ?_ (fun hHeld => ?_)
            · (try dsimp only); (exact VB.ab hx8 abA)
            clear hK K
            (try simp only [Act.put, stA, st0, st1])))
          (refine rtA 7 ?_ ?_
           (try simp only [Act.put, stA, st0, st1]))
          (refine rtA 8 ?_ ?_
           (try simp only [Act.put, stA, st0, st1]))
          (refine rtA 9 ?_ ?_
           (try simp only [Act.put, stA, st0, st1]))
          refine r1A 10 (fun K hK => ?_)
          (go_simp
           (refine hK.out _ _ ?_ (fun hHeld => ?_)
            · (try dsimp only); (exact VB.ab hx8 abA)
            clear hK K
            (try simp only [Act.put, stA, st0, st1])))
          refine r1A 11 (fun K hK => ?_)
          (try simp only [Act.put, List.getElem_toArray, List.getElem_cons_succ, List.getElem_cons_zero, stA, st0, st1])
          refine if_go (by rfl) ?_
          refine wp_stV (us := w8 H2) _ info8 _ _ rfl rfl rfl (VB.box (xs := #[.int .u32 0, .int .u32 0, .int .u32 0, .int .u32 0, .int .u32 0, .int .u32 0, .int .u32 0, .int .u32 0]) (T := 32) (by (repeat (first | exact new_plain wnA | with_reducible refine old_alloc ?_ | with_reducible refine old_drew ?_ | with_reducible refine old_set ?_ wnA | with_reducible refine old_ab (by assumption) ?_)))) (w8_len H2).symm (w8_len H2) (w8_one H2) ?_
          intro w9 h9
          (refine hK.out _ _ ?_ (fun hHeld => ?_)
           · (try dsimp only); exact h9.vb (VB.ab hx8 abA) (by omega)
           clear hK K
           (try simp only [Act.put, stA, st0, st1]))
          refine r1A 12 (fun K hK => ?_)
          (go_simp
           (refine hK.out _ _ ?_ (fun hHeld => ?_)
            · (try dsimp only); exact h9.vb (VB.ab hx8 abA) (by omega)
            clear hK K
            (try simp only [Act.put, stA, st0, st1])))
          refine wpAnyH_done (by kernel_rfl) ?_ _
          go_wp2_with fail
          go_meet
          exact ⟨_, rfl, rfl, VB.ab h9.v abA, by omega, Ab.trans (h9.ab w1 abA (by omega)) abA⟩
        · (go_simp
           (refine hK.out _ _ ?_ (fun hHeld => ?_)
            · (try dsimp only); (exact VB.ab hx8 abA)
            clear hK K
            (try simp only [Act.put, stA, st0, st1])))
          refine r1A 6 (fun K hK => ?_)
          (go_simp
           (refine (HBk _ (show Ab w _ from Ab.trans hab abA) _ _ (RB.ab hcut abA) hcap).mono ?_; rintro e wb ⟨rfl, hbb⟩; have zb := hbb.size; (try simp at zb))
           (try go_wp2_with fail)
           (refine hK.out _ _ ?_ (fun hHeld => ?_)
            · (try dsimp only); (exact VB.ab hx8 abA)
            clear hK K
            (try simp only [Act.put, stA, st0, st1])))
          (refine rtA 7 ?_ ?_
           (try simp only [Act.put, stA, st0, st1]))
          (refine rtA 8 ?_ ?_
           (try simp only [Act.put, stA, st0, st1]))
          (refine rtA 9 ?_ ?_
           (try simp only [Act.put, stA, st0, st1]))
          refine r1A 11 (fun K hK => ?_)
          (try simp only [Act.put, List.getElem_toArray, List.getElem_cons_succ, List.getElem_cons_zero, stA, st0, st1])
          refine if_go (by rfl) ?_
          refine wp_stV (us := w8 H2) _ info8 _ _ rfl rfl rfl (VB.box (xs := #[.int .u32 0, .int .u32 0, .int .u32 0, .int .u32 0, .int .u32 0, .int .u32 0, .int .u32 0, .int .u32 0]) (T := 32) (by (repeat (first | exact new_plain wnA | with_reducible refine old_alloc ?_ | with_reducible refine old_drew ?_ | with_reducible refine old_set ?_ wnA | with_reducible refine old_ab (by assumption) ?_)))) (w8_len H2).symm (w8_len H2) (w8_one H2) ?_
          intro w9 h9
          (refine hK.out _ _ ?_ (fun hHeld => ?_)
           · (try dsimp only); exact h9.vb (VB.ab hx8 abA) (by omega)
           clear hK K
           (try simp only [Act.put, stA, st0, st1]))
          refine r1A 12 (fun K hK => ?_)
          (go_simp
           (refine hK.out _ _ ?_ (fun hHeld => ?_)
            · (try dsimp only); exact h9.vb (VB.ab hx8 abA) (by omega)
            clear hK K
            (try simp only [Act.put, stA, st0, st1])))
          refine wpAnyH_done (by kernel_rfl) ?_ _
          go_wp2_with fail
          go_meet
          exact ⟨_, rfl, rfl, VB.ab h9.v abA, by omega, Ab.trans (h9.ab w1 abA (by omega)) abA⟩
      obtain ⟨v8, rfl, rfl, hv8, zv8, hbx⟩ := hcut
      have hvx := hx8.ab hbx
      have hVx := hV.ab hbx
      have habx := hab.trans hbx
      go_wp2_with (first
        | (refine list_ldV (o := ⟨some 75, _, _, _, _, _⟩) _ info8 Tryd.underlying32 rfl rfl _ rfl rfl hv8 (w8_len _) ?_)
        | (refine list_stV (o := ⟨none, _, _, _, _, _⟩) (us := w8 H2) _ info8 rfl _ _ rfl rfl rfl hvx (w8_len2 _ _) (w8_len _) (w8_one _) ?_
           intro w9 h9))
      go_roundw
      case rel => exact ⟨j + 1, by omega, rfl, congrArg (Value.int .i64) (by omega), h9.ab _ habx (Nat.le_of_eq HB0.out), by rw [HH2.out]; exact h9.v, h9.vb hVx (by omega)⟩
      case measure => simp [intOf]; omega
    · obtain rfl : j = q := by omega
      have lxq : Hid (xq.length = 64 * j) := by unfold Hid; rw [hxq.out, List.length_take]; omega
      have ltb : Hid ((b.drop (64 * j)).length = b.length - 64 * j) := Lib.hid List.length_drop
      have Wq : ∀ w', Ab w w' → Calls Tryd.prog 12 #[.agg (hv h none 0 0 (64 * (k : Int))).toArray, .slice A (64 * j) c] w' (fun e w2 => ∃ R c', e = .returned (.tuple #[.agg (hv (N j) R 0 c' (64 * (k : Int) + (j : Int) * 64)).toArray, .int .i64 0]) ∧ Ab w' w2) := by
        intro w' hk
        have := hP.write [] xq xq (64 * (k : Int)) (64 * (k : Int) + (j : Int) * 64) none 0 A c w' hk (Lib.hid (by simp)) (Lib.hid (by rw [lxq.out]; omega)) (Lib.hid rfl) (by rw [T0.out]; exact RB.nil) (by rw [T0.out]; exact Nat.le_refl _) (by rw [hxq.out]; exact (hb.ab hk).take _) (by rw [lxq.out]; omega) (by rw [lxq.out]; omega)
        unfold RetG at this
        rw [hF0.out, T0.out, hFq.out, hTq.out, lxq.out] at this
        exact this.mono fun e w2 ⟨R, c', he, _, _, hk2⟩ => ⟨R, c', he, hk2⟩
      have Wb : ∀ w', Ab w w' → Calls Tryd.prog 12 #[.agg (hv h none 0 0 (64 * (k : Int))).toArray, .slice A b.length c] w' (fun e w2 => ∃ R c', e = .returned (.tuple #[.agg (hv (N j) R (b.drop (64 * j)).length c' (64 * (k : Int) + (b.length : Int))).toArray, .int .i64 0]) ∧ RB w2 0 R (b.drop (64 * j)) ∧ (b.drop (64 * j)).length ≤ c' ∧ Ab w' w2) := by
        intro w' hk
        have := hP.write [] b b (64 * (k : Int)) (64 * (k : Int) + (b.length : Int)) none 0 A c w' hk (Lib.hid (by simp)) (Lib.hid (by simp)) (Lib.hid rfl) (by rw [T0.out]; exact RB.nil) (by rw [T0.out]; exact Nat.le_refl _) (hb.ab hk) hc kb
        unfold RetG at this
        rw [hF0.out, T0.out, hFb.out, hTb.out] at this
        exact this.mono fun e w2 ⟨R, c', he, h1, h2, hk2⟩ => ⟨R, c', he, h1.zero, h2, hk2⟩
      have Wr : ∀ w', Ab w w' → Calls Tryd.prog 12 #[.agg (hv (N j) none 0 0 (64 * (k : Int) + (j : Int) * 64)).toArray, .slice (cutA A c (64 * j)) (b.length - 64 * j) (c - 64 * j)] w' (fun e w2 => ∃ R c', e = .returned (.tuple #[.agg (hv (N j) R (b.drop (64 * j)).length c' (64 * (k : Int) + (b.length : Int))).toArray, .int .i64 0]) ∧ RB w2 w'.heap.size R (b.drop (64 * j)) ∧ (b.drop (64 * j)).length ≤ c' ∧ Ab w' w2) := by
        intro w' hk
        have := hP.write xq (b.drop (64 * j)) b (64 * (k : Int) + (j : Int) * 64) (64 * (k : Int) + (b.length : Int)) none 0 (cutA A c (64 * j)) (c - 64 * j) w' hk (Lib.hid (by rw [lxq.out]; omega)) (Lib.hid (by simp)) (Lib.hid (by rw [hxq.out, List.take_append_drop])) (by rw [hTq.out]; exact RB.nil) (by rw [hTq.out]; exact Nat.le_refl _) ((hb.ab hk).cut _ _ hc) (by rw [ltb.out]; omega) kb
        unfold RetG at this
        rw [hFq.out, hTq.out, hFb.out, hTb.out, ltb.out] at this
        rw [ltb.out]
        exact this.mono fun e w2 ⟨R, c', he, h1, h2, hk2⟩ => ⟨R, c', he, h1, h2, hk2⟩
      have HFin : ∀ w' R c', Ab w w' → RB w' 0 R (b.drop (64 * j)) → (b.drop (64 * j)).length ≤ c' → Calls Tryd.prog 13 #[.agg (hv (N j) R (b.drop (64 * j)).length c' (64 * (k : Int) + (b.length : Int))).toArray] w' fun e w2 => e = .returned (.tuple #[.agg (idv (O b)).toArray, .int .i64 0]) ∧ Ab w' w2 := by
        intro w' R c' hk hr hcr
        have := hP.finish b (64 * (k : Int) + (b.length : Int)) R c' w' hk (Lib.hid (by simp)) (by rw [hTb.out]; exact hr) (by rw [hTb.out]; exact hcr) kb
        rw [hFb.out, hTb.out] at this
        exact this
      have M15 : ∀ w0, (Instr.slice 28 (.slice A b.length c) none (some (.int .i64 ((j : Int) * 64))) none).run Tryd.prog w0 = .ok (.slice A (64 * j) c) w0 := fun w0 => by
        have := run_head (64 * j) .i64 A b.length c w0 (by omega)
        have e1 : ((64 * j : Nat) : Int) = (j : Int) * 64 := by omega
        rwa [e1] at this
      have M18 : ∀ w0, (Instr.slice 28 (.slice A b.length c) (some (.int .i64 ((j : Int) * 64))) none none).run Tryd.prog w0 = .ok (.slice (cutA A c (64 * j)) (b.length - 64 * j) (c - 64 * j)) w0 := fun w0 => by
        have := run_cut (64 * j) .i64 A b.length c w0 (by omega)
        have e1 : ((64 * j : Nat) : Int) = (j : Int) * 64 := by omega
        rwa [e1] at this
      have lD := Lib.hid (hP.len b)
      have hct := hb.cut (64 * j) c hc
      generalize O b = D at *
      generalize b.drop (64 * j) = tb at *
      clear hN hxq hFq hTq hFb hTb hF0 hN0 T0 hq lxq hP
      have zw := hV.lt
      go_upto_region 15 with fail
      go_cut [14, 15] (fun s14 s15 wx => ∃ v R c', s14 = .pointer (some ⟨v, 0, none⟩) ∧ s15 = .int .i64 0 ∧ VB wx v (hv (N j) R 0 c' (64 * (k : Int) + (j : Int) * 64)) ∧ w1.heap.size ≤ v ∧ Ab w1 wx)
      case first =>
        refine wp_region_held_drew (by kernel_rfl) (S := fun w' => VB w' (w.heap.size + 1) (hv h none 0 0 (64 * (k : Int)))) ?_ (fun hHeld => ?_)
        · (exact VB.ab hV abA)
        (refine rtL 0 (hv h none 0 0 (64 * (k : Int))) 0 (fun w hSw => VB.range hSw) Tryd.underlying36 ?_
         (try simp only [Act.put, stA, st0, st1]))
        (refine rtA 1 ?_ ?_
         (try simp only [Act.put, stA, st0, st1]))
        (refine rtA 2 ?_ ?_
         (try simp only [Act.put, stA, st0, st1]))
        (refine rtA 3 ?_ ?_
         (try simp only [Act.put, stA, st0, st1]))
        (refine wpAnyH_ready (rs := [4, 8]) (by kernel_rfl) (by simp) ?_)
        refine AllReadyH.cons rfl (fun K hK => ?_) (AllReadyH.cons rfl (fun K hK => ?_) AllReadyH.nil)
        · (go_simp
           (refine (Wq _ (Ab.trans hab abA)).mono ?_; rintro e wb ⟨R15, c15, rfl, hbb⟩; have zb := hbb.size; (try simp at zb))
           (try go_wp2_with fail)
           (refine hK.out _ _ ?_ (fun hHeld => ?_)
            · (try dsimp only); (exact VB.ab hV abA)
            clear hK K
            (try simp only [Act.put, stA, st0, st1])))
          (refine rtA 5 ?_ ?_
           (try simp only [Act.put, stA, st0, st1]))
          (refine rtA 6 ?_ ?_
           (try simp only [Act.put, stA, st0, st1]))
          (refine rtA 7 ?_ ?_
           (try simp only [Act.put, stA, st0, st1]))
          refine r1A 8 (fun K hK => ?_)
          (go_simp
           (refine hK.out _ _ ?_ (fun hHeld => ?_)
            · (try dsimp only); (exact VB.ab hV abA)
            clear hK K
            (try simp only [Act.put, stA, st0, st1])))
          refine r1A 9 (fun K hK => ?_)
          (try simp only [Act.put, List.getElem_toArray, List.getElem_cons_succ, List.getElem_cons_zero, stA, st0, st1])
          refine if_go (by rfl) ?_
          refine wp_stV (us := hv (N j) R15 0 c15 (64 * (k : Int) + (j : Int) * 64)) _ infoH _ _ rfl rfl rfl (VB.box (xs := #[.int .u32 0, .int .u32 0, .int .u32 0, .int .u32 0, .int .u32 0, .int .u32 0, .int .u32 0, .int .u32 0, .slice none 0 0, .int .i64 0]) (T := 36) (by (repeat (first | exact new_plain wnA | with_reducible refine old_alloc ?_ | with_reducible refine old_drew ?_ | with_reducible refine old_set ?_ wnA | with_reducible refine old_ab (by assumption) ?_)))) (hv_len _ _ _ _ _).symm (hv_len _ _ _ _ _) (hv_one _ _ _ _ _) ?_
          intro w9 h9
          have b9 : Ab w1 w9 := h9.ab w1 abA (by omega)
          (refine hK.out _ _ ?_ (fun hHeld => ?_)
           · (try dsimp only); exact h9.vb (VB.ab hV abA) (by omega)
           clear hK K
           (try simp only [Act.put, stA, st0, st1]))
          refine r1A 10 (fun K hK => ?_)
          (go_simp
           (refine hK.out _ _ ?_ (fun hHeld => ?_)
            · (try dsimp only); exact h9.vb (VB.ab hV abA) (by omega)
            clear hK K
            (try simp only [Act.put, stA, st0, st1])))
          refine wpAnyH_done (by kernel_rfl) ?_ _
          go_wp2_with fail
          go_meet
          exact ⟨_, R15, c15, rfl, rfl, VB.ab h9.v abA, by omega, Ab.trans b9 abA⟩
        · (go_simp
           (refine hK.out _ _ ?_ (fun hHeld => ?_)
            · (try dsimp only); (exact VB.ab hV abA)
            clear hK K
            (try simp only [Act.put, stA, st0, st1])))
          refine r1A 4 (fun K hK => ?_)
          (go_simp
           (refine (Wq _ (Ab.trans hab abA)).mono ?_; rintro e wb ⟨R15, c15, rfl, hbb⟩; have zb := hbb.size; (try simp at zb))
           (try go_wp2_with fail)
           (refine hK.out _ _ ?_ (fun hHeld => ?_)
            · (try dsimp only); (exact VB.ab hV abA)
            clear hK K
            (try simp only [Act.put, stA, st0, st1])))
          (refine rtA 5 ?_ ?_
           (try simp only [Act.put, stA, st0, st1]))
          (refine rtA 6 ?_ ?_
           (try simp only [Act.put, stA, st0, st1]))
          (refine rtA 7 ?_ ?_
           (try simp only [Act.put, stA, st0, st1]))
          refine r1A 9 (fun K hK => ?_)
          (try simp only [Act.put, List.getElem_toArray, List.getElem_cons_succ, List.getElem_cons_zero, stA, st0, st1])
          refine if_go (by rfl) ?_
          refine wp_stV (us := hv (N j) R15 0 c15 (64 * (k : Int) + (j : Int) * 64)) _ infoH _ _ rfl rfl rfl (VB.box (xs := #[.int .u32 0, .int .u32 0, .int .u32 0, .int .u32 0, .int .u32 0, .int .u32 0, .int .u32 0, .int .u32 0, .slice none 0 0, .int .i64 0]) (T := 36) (by (repeat (first | exact new_plain wnA | with_reducible refine old_alloc ?_ | with_reducible refine old_drew ?_ | with_reducible refine old_set ?_ wnA | with_reducible refine old_ab (by assumption) ?_)))) (hv_len _ _ _ _ _).symm (hv_len _ _ _ _ _) (hv_one _ _ _ _ _) ?_
          intro w9 h9
          have b9 : Ab w1 w9 := h9.ab w1 abA (by omega)
          (refine hK.out _ _ ?_ (fun hHeld => ?_)
           · (try dsimp only); exact h9.vb (VB.ab hV abA) (by omega)
           clear hK K
           (try simp only [Act.put, stA, st0, st1]))
          refine r1A 10 (fun K hK => ?_)
          (go_simp
           (refine hK.out _ _ ?_ (fun hHeld => ?_)
            · (try dsimp only); exact h9.vb (VB.ab hV abA) (by omega)
            clear hK K
            (try simp only [Act.put, stA, st0, st1])))
          refine wpAnyH_done (by kernel_rfl) ?_ _
          go_wp2_with fail
          go_meet
          exact ⟨_, R15, c15, rfl, rfl, VB.ab h9.v abA, by omega, Ab.trans b9 abA⟩
      obtain ⟨v14, R14, c14, rfl, rfl, G14, z14, hb15⟩ := hcut
      rename World => w2
      have ab2 : Ab w w2 := hab.trans hb15
      have V2 := hV.ab hb15
      have B2 := hx8.ab hb15
      clear hV hx8 hb15 hab
      go_wp2_with (refine list_ldV (o := ⟨some 85, _, _, _, _, _⟩) _ infoH Tryd.underlying36 rfl rfl _ rfl rfl V2 (hv_len _ _ _ _ _) ?_)
      refine (Wb _ ab2).mono ?_
      rintro e w3 ⟨R16, c16, rfl, r16, k16, hb3⟩
      have ab3 := ab2.trans hb3
      have B3 := B2.ab hb3
      have G3 := G14.ab hb3
      have Y3 : VB (w3.alloc (.cells #[.int .u32 0, .int .u32 0, .int .u32 0, .int .u32 0, .int .u32 0, .int .u32 0, .int .u32 0, .int .u32 0, .slice none 0 0, .int .i64 0] 36)) w3.heap.size [.int .u32 0, .int .u32 0, .int .u32 0, .int .u32 0, .int .u32 0, .int .u32 0, .int .u32 0, .int .u32 0, .slice none 0 0, .int .i64 0] := VB.box (xs := #[.int .u32 0, .int .u32 0, .int .u32 0, .int .u32 0, .int .u32 0, .int .u32 0, .int .u32 0, .int .u32 0, .slice none 0 0, .int .i64 0]) (T := 36) (by (repeat (first | exact new_plain wnA | with_reducible refine old_alloc ?_ | with_reducible refine old_drew ?_ | with_reducible refine old_set ?_ wnA | with_reducible refine old_ab (by assumption) ?_)))
      clear V2 B2 G14 hb3 Wb ab2
      go_wp2_with (first
        | (refine list_stV (o := ⟨none, _, _, _, _, _⟩) (us := hv (N j) R16 tb.length c16 (64 * (k : Int) + (b.length : Int))) _ infoH rfl _ _ rfl rfl rfl Y3 rfl (hv_len _ _ _ _ _) (hv_one _ _ _ _ _) ?_
           intro w4 h4
           have b34 : Ab w3 w4 := h4.ab _ ((Ab.refl _).alloc _) (Nat.le_refl _)
           have ab4 := ab3.trans b34
           have B4 := B3.ab b34
           have G4 := G3.ab b34
           have G16' := h4.v
           have r4 := r16.ab b34
           have Y4 : VB (w4.alloc (.cells #[.int .u32 0, .int .u32 0, .int .u32 0, .int .u32 0, .int .u32 0, .int .u32 0, .int .u32 0, .int .u32 0, .slice none 0 0, .int .i64 0] 36)) w4.heap.size [.int .u32 0, .int .u32 0, .int .u32 0, .int .u32 0, .int .u32 0, .int .u32 0, .int .u32 0, .int .u32 0, .slice none 0 0, .int .i64 0] := VB.box (xs := #[.int .u32 0, .int .u32 0, .int .u32 0, .int .u32 0, .int .u32 0, .int .u32 0, .int .u32 0, .int .u32 0, .slice none 0 0, .int .i64 0]) (T := 36) (by (repeat (first | exact new_plain wnA | with_reducible refine old_alloc ?_ | with_reducible refine old_drew ?_ | with_reducible refine old_set ?_ wnA | with_reducible refine old_ab (by assumption) ?_)))
           clear h4 B3 G3 Y3)
        | (refine list_ldV (o := ⟨some 90, _, _, _, _, _⟩) _ info8 Tryd.underlying32 rfl rfl _ rfl rfl B4 (w8_len _) ?_)
        | (refine list_val (o := ⟨some 95, _, _, _, _, _⟩) (.agg (hv (N j) none 0 0 (64 * (k : Int) + (j : Int) * 64)).toArray) rfl (by kernel_rfl) ?_)
        | (refine list_stV (o := ⟨none, _, _, _, _, _⟩) (us := hv (N j) none 0 0 (64 * (k : Int) + (j : Int) * 64)) _ infoH rfl _ _ rfl rfl rfl Y4 rfl (hv_len _ _ _ _ _) (hv_one _ _ _ _ _) ?_
           intro w5 h5
           have b45 : Ab w4 w5 := h5.ab _ ((Ab.refl _).alloc _) (Nat.le_refl _)
           have ab5 := ab4.trans b45
           have B5 := B4.ab b45
           have G14 := G4.ab b45
           have G16 := G16'.ab b45
           have G18 := h5.v
           have r5 := r4.ab b45
           clear h5 B4 G4 Y4 G16' r4))
      have hE8 : ∀ w, (Op.equalIn 10000 32 (.agg (w8 (N j)).toArray) (.agg (w8 (N j)).toArray)).run Tryd.prog w = .ok true w := fun w => run_eq8 _ w
      have S18 : ∀ w', Ab w5 w' → Calls Tryd.prog 20 #[.agg (hv (N j) R14 0 c14 (64 * (k : Int) + (j : Int) * 64)).toArray, .agg (hv (N j) none 0 0 (64 * (k : Int) + (j : Int) * 64)).toArray] w' (RetTrue w') := fun w' hk => same_true (N j) R14 none [] c14 0 _ w' RB.nil RB.nil (by simp)
      have SB18 : ∀ w', Ab w5 w' → Calls Tryd.prog 18 #[.slice R16 tb.length c16, .slice (cutA A c (64 * j)) (b.length - 64 * j) (c - 64 * j)] w' (fun e w2 => e = .returned (.bool true) ∧ ∃ n, w2 = w'.drewN n) := by
        intro w' hk
        have := sameBytes_eq R16 (cutA A c (64 * j)) c16 (c - 64 * j) tb tb w' (r5.ab hk) (hct.ab (ab5.trans hk)) (by rw [ltb.out]; omega) (by rw [ltb.out]; omega)
        rw [beq_self_eq_true] at this
        rw [ltb.out] at this ⊢
        exact this
      have jw : IntKind.i64.wrap (64 * (k : Int)) = 64 * (k : Int) := IntWalk.i64_in _ (by omega)
      have jw2 : IntKind.i64.wrap (64 * (k : Int) + (b.length : Int)) = 64 * (k : Int) + (b.length : Int) := IntWalk.i64_in _ (by omega)
      simp only [Act.put]
      go_cut [132] (fun s wx => s = .bool false ∧ Ab w5 wx)
      case first =>
        refine wp_region_held_drew (by kernel_rfl) (S := fun w' => Ab w5 w') ?_ (fun hHeld => ?_)
        · (exact abA)
        (refine rtA 0 ?_ ?_
         (try simp only [Act.put, stA, st0, st1]))
        (refine rtA 1 ?_ ?_
         (try simp only [Act.put, stA, st0, st1]))
        (refine rtA 2 ?_ ?_
         (try simp only [Act.put, stA, st0, st1]))
        (refine rtA 3 ?_ ?_
         (try simp only [Act.put, stA, st0, st1]))
        (refine rtA 4 ?_ ?_
         (try simp only [Act.put, stA, st0, st1]))
        refine r1A 5 (fun K hK => ?_)
        (go_simp
         (refine hK.out _ _ ?_ (fun hHeld => ?_)
          · (try dsimp only); (exact abA)
          clear hK K
          (try simp only [Act.put, stA, st0, st1])))
        (refine rtA 6 ?_ ?_
         (try simp only [Act.put, stA, st0, st1]))
        (refine rtL 7 (hv (N j) R14 0 c14 (64 * (k : Int) + (j : Int) * 64)) 0 (fun w hSw => VB.range (VB.ab G14 hSw)) Tryd.underlying36 ?_
         (try simp only [Act.put, stA, st0, st1]))
        (refine rtL 8 (hv (N j) none 0 0 (64 * (k : Int) + (j : Int) * 64)) 0 (fun w hSw => VB.range (VB.ab G18 hSw)) Tryd.underlying36 ?_
         (try simp only [Act.put, stA, st0, st1]))
        refine r1A 9 (fun K hK => ?_)
        (go_simp
         (refine (S18 _ (by assumption)).mono ?_; rintro e wS ⟨rfl, hbS⟩)
         (try go_wp2_with fail)
         (refine hK.out _ _ ?_ (fun hHeld => ?_)
          · (try dsimp only); (exact abA)
          clear hK K
          (try simp only [Act.put, stA, st0, st1])))
        (refine rtA 10 ?_ ?_
         (try simp only [Act.put, stA, st0, st1]))
        refine r1A 11 (fun K hK => ?_)
        (go_simp
         (refine hK.out _ _ ?_ (fun hHeld => ?_)
          · (try dsimp only); (exact abA)
          clear hK K
          (try simp only [Act.put, stA, st0, st1])))
        (refine rtA 12 ?_ ?_
         (try simp only [Act.put, stA, st0, st1]))
        (refine rtA 13 ?_ ?_
         (try simp only [Act.put, stA, st0, st1]))
        (refine rtL 14 (w8 (N j)) 0 (fun w hSw => VB.pre (VB.ab G16 hSw)) Tryd.underlying32 ?_
         (try simp only [Act.put, stA, st0, st1]))
        (refine rtL 15 (w8 (N j)) 0 (fun w hSw => VB.range (VB.ab B5 hSw)) Tryd.underlying32 ?_
         (try simp only [Act.put, stA, st0, st1]))
        (refine rtA 16 ?_ ?_
         (try simp only [Act.put, stA, st0, st1]))
        refine r1A 17 (fun K hK => ?_)
        (go_simp
         (refine hK.out _ _ ?_ (fun hHeld => ?_)
          · (try dsimp only); (exact abA)
          clear hK K
          (try simp only [Act.put, stA, st0, st1])))
        (refine rtA 18 ?_ ?_
         (try simp only [Act.put, stA, st0, st1]))
        (refine rtA 19 ?_ ?_
         (try simp only [Act.put, stA, st0, st1]))
        (refine rtA 20 (.int .i64 (64 * (k : Int) + (b.length : Int))) ?_ (hy := fun w hSw => by have y := (VB.ab G16 hSw).at 9 rfl; go_simp; (try with_reducible rfl))
         (try simp only [Act.put, stA, st0, st1]))
        (refine rtA 21 ?_ ?_
         (try simp only [Act.put, stA, st0, st1]))
        (refine rtA 22 ?_ ?_
         (try simp only [Act.put, stA, st0, st1]))
        (refine rtA 23 ?_ ?_
         (try simp only [Act.put, stA, st0, st1]))
        (refine rtA 24 ?_ ?_
         (try simp only [Act.put, stA, st0, st1]))
        (refine rtA 25 ?_ ?_
         (try simp only [Act.put, stA, st0, st1]))
        (refine rtA 26 ?_ ?_
         (try simp only [Act.put, stA, st0, st1]))
        refine r1A 27 (fun K hK => ?_)
        (go_simp
         (refine hK.out _ _ ?_ (fun hHeld => ?_)
          · (try dsimp only); (exact abA)
          clear hK K
          (try simp only [Act.put, stA, st0, st1])))
        (refine rtA 28 ?_ ?_
         (try simp only [Act.put, stA, st0, st1]))
        (refine rtA 29 ?_ ?_
         (try simp only [Act.put, stA, st0, st1]))
        (refine rtA 30 (.slice R16 tb.length c16) ?_ (hy := fun w hSw => by have y := (VB.ab G16 hSw).at 8 rfl; go_simp; (try with_reducible rfl))
         (try simp only [Act.put, stA, st0, st1]))
        (refine rtA 31 ?_ ?_
         (try simp only [Act.put, stA, st0, st1]))
        (refine rtA 32 ?_ ?_
         (try simp only [Act.put, stA, st0, st1]))
        (refine rtA 33 ?_ ?_
         (try simp only [Act.put, stA, st0, st1]))
        refine r1A 34 (fun K hK => ?_)
        (go_simp
         (refine (SB18 _ (by assumption)).mono ?_; rintro e wT ⟨rfl, nT, rfl⟩)
         (try go_wp2_with fail)
         (refine hK.out _ _ ?_ (fun hHeld => ?_)
          · (try dsimp only); (exact abA)
          clear hK K
          (try simp only [Act.put, stA, st0, st1])))
        (refine rtA 35 ?_ ?_
         (try simp only [Act.put, stA, st0, st1]))
        refine r1A 36 (fun K hK => ?_)
        (go_simp
         (refine hK.out _ _ ?_ (fun hHeld => ?_)
          · (try dsimp only); (exact abA)
          clear hK K
          (try simp only [Act.put, stA, st0, st1])))
        refine wpAnyH_done (by kernel_rfl) ?_ _
        go_wp2_with fail
        go_meet
        exact ⟨rfl, abA⟩
      obtain ⟨rfl, hb18⟩ := hcut
      rename World => w6
      have ab6 : Ab w w6 := ab5.trans hb18
      have G6 := G16.ab hb18
      have G7 := G18.ab hb18
      have r6 := r5.ab hb18
      have z46 : w4.heap.size < w6.heap.size := G7.lt
      clear G14 G16 G18 B5 r5 hE8 S18 SB18 hb18
      go_wp2_with (refine list_ldV (o := ⟨some 134, _, _, _, _, _⟩) _ infoH Tryd.underlying36 rfl rfl _ rfl rfl G6 (hv_len _ _ _ _ _) ?_)
      refine (HFin _ R16 c16 ab6 r6 k16).mono ?_
      rintro e w7 ⟨rfl, hb7⟩
      have ab7 := ab6.trans hb7
      have G77 := G7.ab hb7
      have Y7 : VB (w7.alloc (.cells (idv (List.replicate 32 0)).toArray 24)) w7.heap.size (idv (List.replicate 32 0)) := VB.box (xs := (idv (List.replicate 32 0)).toArray) (T := 24) (by (repeat (first | exact new_plain wnA | with_reducible refine old_alloc ?_ | with_reducible refine old_drew ?_ | with_reducible refine old_set ?_ wnA | with_reducible refine old_ab (by assumption) ?_)))
      clear G6 G7 r6 hb7 ab6
      go_wp2_with (refine list_stV (o := ⟨none, _, _, _, _, _⟩) (us := idv D) _ infoId rfl _ _ rfl rfl rfl Y7 ((idv_len lD.out).symm) (idv_len lD.out) (idv_one _) ?_
                   intro x8 h8
                   have b78 : Ab w7 x8 := h8.ab _ ((Ab.refl _).alloc _) (Nat.le_refl _)
                   have ab8 := ab7.trans b78
                   have G8 := G77.ab b78
                   have D8 := h8.v
                   clear h8 G77 Y7)
      have zG8 := G8.lt
      (try simp only [Act.put])
      go_cut [21, 22] (fun s21 s22 wx => ∃ v R c', s21 = .pointer (some ⟨v, 0, none⟩) ∧ s22 = .int .i64 0 ∧ VB wx v (hv (N j) R tb.length c' (64 * (k : Int) + (b.length : Int))) ∧ RB wx 0 R tb ∧ tb.length ≤ c' ∧ x8.heap.size ≤ v ∧ Ab x8 wx)
      case first =>
        refine wp_region_held_drew (by kernel_rfl) (S := fun w' => VB w' (w4.heap.size) (hv (N j) none 0 0 (64 * (k : Int) + (j : Int) * 64))) ?_ (fun hHeld => ?_)
        · (exact VB.ab G8 abA)
        (refine rtL 0 (hv (N j) none 0 0 (64 * (k : Int) + (j : Int) * 64)) 0 (fun w hSw => VB.range hSw) Tryd.underlying36 ?_
         (try simp only [Act.put, stA, st0, st1]))
        (refine rtA 1 ?_ ?_
         (try simp only [Act.put, stA, st0, st1]))
        (refine rtA 2 ?_ ?_
         (try simp only [Act.put, stA, st0, st1]))
        (refine rtA 3 ?_ ?_
         (try simp only [Act.put, stA, st0, st1]))
        (refine wpAnyH_ready (rs := [4, 8]) (by kernel_rfl) (by simp) ?_)
        refine AllReadyH.cons rfl (fun K hK => ?_) (AllReadyH.cons rfl (fun K hK => ?_) AllReadyH.nil)
        · (go_simp
           (refine (Wr _ (Ab.trans ab8 abA)).mono ?_; rintro e wb ⟨R21, c21, rfl, r21, k21, hbb⟩; have zb := hbb.size; (try simp at zb))
           (try go_wp2_with fail)
           (refine hK.out _ _ ?_ (fun hHeld => ?_)
            · (try dsimp only); (exact VB.ab G8 abA)
            clear hK K
            (try simp only [Act.put, stA, st0, st1])))
          (refine rtA 5 ?_ ?_
           (try simp only [Act.put, stA, st0, st1]))
          (refine rtA 6 ?_ ?_
           (try simp only [Act.put, stA, st0, st1]))
          (refine rtA 7 ?_ ?_
           (try simp only [Act.put, stA, st0, st1]))
          refine r1A 8 (fun K hK => ?_)
          (go_simp
           (refine hK.out _ _ ?_ (fun hHeld => ?_)
            · (try dsimp only); (exact VB.ab G8 abA)
            clear hK K
            (try simp only [Act.put, stA, st0, st1])))
          refine r1A 9 (fun K hK => ?_)
          (try simp only [Act.put, List.getElem_toArray, List.getElem_cons_succ, List.getElem_cons_zero, stA, st0, st1])
          refine if_go (by rfl) ?_
          refine wp_stV (us := hv (N j) R21 tb.length c21 (64 * (k : Int) + (b.length : Int))) _ infoH _ _ rfl rfl rfl (VB.box (xs := #[.int .u32 0, .int .u32 0, .int .u32 0, .int .u32 0, .int .u32 0, .int .u32 0, .int .u32 0, .int .u32 0, .slice none 0 0, .int .i64 0]) (T := 36) (by (repeat (first | exact new_plain wnA | with_reducible refine old_alloc ?_ | with_reducible refine old_drew ?_ | with_reducible refine old_set ?_ wnA | with_reducible refine old_ab (by assumption) ?_)))) (hv_len _ _ _ _ _).symm (hv_len _ _ _ _ _) (hv_one _ _ _ _ _) ?_
          intro w9 h9
          have b9 : Ab x8 w9 := h9.ab x8 abA (by omega)
          (refine hK.out _ _ ?_ (fun hHeld => ?_)
           · (try dsimp only); exact h9.vb (VB.ab G8 abA) (by omega)
           clear hK K
           (try simp only [Act.put, stA, st0, st1]))
          refine r1A 10 (fun K hK => ?_)
          (go_simp
           (refine hK.out _ _ ?_ (fun hHeld => ?_)
            · (try dsimp only); exact h9.vb (VB.ab G8 abA) (by omega)
            clear hK K
            (try simp only [Act.put, stA, st0, st1])))
          refine wpAnyH_done (by kernel_rfl) ?_ _
          go_wp2_with fail
          go_meet
          exact ⟨_, R21, c21, rfl, rfl, VB.ab h9.v abA, ((r21.ab (h9.ab wb abA wnA)).ab abA).zero, k21, by omega, Ab.trans b9 abA⟩
        · (go_simp
           (refine hK.out _ _ ?_ (fun hHeld => ?_)
            · (try dsimp only); (exact VB.ab G8 abA)
            clear hK K
            (try simp only [Act.put, stA, st0, st1])))
          refine r1A 4 (fun K hK => ?_)
          (go_simp
           (refine (Wr _ (Ab.trans ab8 abA)).mono ?_; rintro e wb ⟨R21, c21, rfl, r21, k21, hbb⟩; have zb := hbb.size; (try simp at zb))
           (try go_wp2_with fail)
           (refine hK.out _ _ ?_ (fun hHeld => ?_)
            · (try dsimp only); (exact VB.ab G8 abA)
            clear hK K
            (try simp only [Act.put, stA, st0, st1])))
          (refine rtA 5 ?_ ?_
           (try simp only [Act.put, stA, st0, st1]))
          (refine rtA 6 ?_ ?_
           (try simp only [Act.put, stA, st0, st1]))
          (refine rtA 7 ?_ ?_
           (try simp only [Act.put, stA, st0, st1]))
          refine r1A 9 (fun K hK => ?_)
          (try simp only [Act.put, List.getElem_toArray, List.getElem_cons_succ, List.getElem_cons_zero, stA, st0, st1])
          refine if_go (by rfl) ?_
          refine wp_stV (us := hv (N j) R21 tb.length c21 (64 * (k : Int) + (b.length : Int))) _ infoH _ _ rfl rfl rfl (VB.box (xs := #[.int .u32 0, .int .u32 0, .int .u32 0, .int .u32 0, .int .u32 0, .int .u32 0, .int .u32 0, .int .u32 0, .slice none 0 0, .int .i64 0]) (T := 36) (by (repeat (first | exact new_plain wnA | with_reducible refine old_alloc ?_ | with_reducible refine old_drew ?_ | with_reducible refine old_set ?_ wnA | with_reducible refine old_ab (by assumption) ?_)))) (hv_len _ _ _ _ _).symm (hv_len _ _ _ _ _) (hv_one _ _ _ _ _) ?_
          intro w9 h9
          have b9 : Ab x8 w9 := h9.ab x8 abA (by omega)
          (refine hK.out _ _ ?_ (fun hHeld => ?_)
           · (try dsimp only); exact h9.vb (VB.ab G8 abA) (by omega)
           clear hK K
           (try simp only [Act.put, stA, st0, st1]))
          refine r1A 10 (fun K hK => ?_)
          (go_simp
           (refine hK.out _ _ ?_ (fun hHeld => ?_)
            · (try dsimp only); exact h9.vb (VB.ab G8 abA) (by omega)
            clear hK K
            (try simp only [Act.put, stA, st0, st1])))
          refine wpAnyH_done (by kernel_rfl) ?_ _
          go_wp2_with fail
          go_meet
          exact ⟨_, R21, c21, rfl, rfl, VB.ab h9.v abA, (((r21.ab abA).stored h9 wnA).ab abA).zero, k21, by omega, Ab.trans b9 abA⟩
      obtain ⟨v21, R21, c21, rfl, rfl, G21, r21, k21, z21, hb21⟩ := hcut
      rename World => x9
      have ab9 := ab8.trans hb21
      have D9 := D8.ab hb21
      clear G8 D8 hb21 ab7 Wr M15 M18 hct q2 jw jw2 q1 k0 k1 z14 z21 z46 zG8 zB zw hb hc r16 k16 b34 b45 ab3 ab4 ab5 ab8 b78
      go_wp2_with (refine list_ldV (o := ⟨some 147, _, _, _, _, _⟩) _ infoH Tryd.underlying36 rfl rfl _ rfl rfl G21 (hv_len _ _ _ _ _) ?_)
      with_reducible refine (HFin _ R21 c21 ab9 r21 k21).mono ?_
      rintro e x10 ⟨rfl, hb10⟩
      have ab10 := ab9.trans hb10
      have D10 := D9.ab hb10
      have Y10 : VB (x10.alloc (.cells (idv (List.replicate 32 0)).toArray 24)) x10.heap.size (idv (List.replicate 32 0)) := VB.box (xs := (idv (List.replicate 32 0)).toArray) (T := 24) (by (repeat (first | exact new_plain wnA | with_reducible refine old_alloc ?_ | with_reducible refine old_drew ?_ | with_reducible refine old_set ?_ wnA | with_reducible refine old_ab (by assumption) ?_)))
      clear G21 r21 k21 HFin D9 hb10
      clear Wq hj hlt
      go_upto_region 23 with (first
        | (refine list_stV (o := ⟨none, _, _, _, _, _⟩) (us := idv D) _ infoId rfl _ _ rfl rfl rfl Y10 ((idv_len lD.out).symm) (idv_len lD.out) (idv_one _) ?_
           intro x11 h11
           have b11 : Ab x10 x11 := h11.ab _ ((Ab.refl _).alloc _) (Nat.le_refl _)
           have ab11 := ab10.trans b11
           have D11 := D10.ab b11
           have E11 := h11.v
           clear h11 D10 Y10 b11))
      have ld := lD.out
      clear ltb
      have HE := Lib.hid hE32
      clear hE32
      go_wp2_with (first
        | (refine list_ldG (o := ⟨some 162, _, _, _, _, _⟩) _ infoId Tryd.underlying24 rfl (by kernel_rfl) _ rfl rfl D11 (idv_len ld) ?_)
        | (refine list_ldG (o := ⟨some 163, _, _, _, _, _⟩) _ infoId Tryd.underlying24 rfl (by kernel_rfl) _ rfl rfl E11 (idv_len ld) ?_)
        | (refine list_eqG (o := ⟨some 164, _, _, _, _, _⟩) 24 24 (.tmp 162) (.tmp 163) (idv D).toArray (idv D).toArray (by kernel_rfl) rfl rfl rfl (by kernel_rfl) (HE.out _) ?_))
      refine (alive_true _ (hG.ab ab11)).mono ?_
      rintro e x12 ⟨rfl, hb12⟩
      go_wp2
      go_ret
      exact ⟨rfl, ab11.trans hb12⟩
theorem on_walk (w : World) (hG : Glob w) (h : Sha.W8) (n : Int) (A : Option Addr) (b : List UInt8) (c : Nat) (hb : RB w 0 A b) (hc : b.length ≤ c) :
    Calls Tryd.prog 7 #[.agg (w8 h).toArray, .int .i64 n, .slice A b.length c] w (RetTrue w) := by
  by_cases hg : n < 0 ∨ 1000 < n ∨ 1000 < b.length
  · exact on_great w hG h n A b c hg
  · obtain ⟨k, rfl⟩ : ∃ k : Nat, n = (k : Int) := ⟨n.toNat, by omega⟩
    have hk : k ≤ 1000 := by omega
    have hl : b.length ≤ 1000 := by omega
    have lx : (b.take (64 * (b.length / 64))).length = 64 * (b.length / 64) := by rw [List.length_take]; omega
    have e1 : Sha.after h (b.take (64 * (b.length / 64))) = Sha.afterN h b (b.length / 64) := by
      unfold Sha.after
      rw [lx, Nat.mul_div_cancel_left _ (by omega : 0 < 64)]
      have := Sha.afterN_append h (b.take (64 * (b.length / 64))) (b.drop (64 * (b.length / 64))) (b.length / 64) (by rw [lx]; omega)
      rw [List.take_append_drop] at this
      exact this.symm
    have e2 : Sha.tail (b.take (64 * (b.length / 64))) = [] := Sha.tail_block _ (by rw [lx]; omega)
    exact on_small w hG h k (b.length / 64) _ _ _ (pkgw w hG h (64 * k) (by omega) (by omega)) (Sha.afterN h b) b (blk_ok w hG h b) A c hb hc hl hk (b.take (64 * (b.length / 64))) (Lib.hid rfl) (Lib.hid rfl) (Lib.hid rfl) (Lib.hid rfl) (Lib.hid e1) (Lib.hid e2) (Lib.hid rfl) (Lib.hid rfl)
end Go.Proofs.YtmechdddhfcckaaDoor
