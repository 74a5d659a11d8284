/- Finish and Sum of package sha, walked (its middle written by a program). Own work. -/
import Derived.Test.YthfffbpcmlgoiaaGreatDoorCShFunH
set_option linter.unusedVariables false
set_option linter.unusedSimpArgs false
set_option maxRecDepth 100000
namespace Go.Proofs.YthfffbpcmlgoiaaGreatDoor
open Go.RowKit

/-- What Finish returns. -/
def finE (h : Sha.W8) (r : List UInt8) (n : Int) : List UInt8 × Int := if vh r.length n = true then (Sha.dig (Sha.after h (r ++ Sha.pad n.toNat)), 0) else (List.replicate 32 0, 8)
theorem finE_len (h : Sha.W8) (r : List UInt8) (n : Int) : (finE h r n).1.length = 32 := by
  unfold finE
  split
  · exact Sha.dig_length _
  · simp
def idv (l : List UInt8) : List Value := l.map cb
theorem idv_len {l : List UInt8} (h : l.length = 32) : (idv l).length = 32 := by unfold idv; simpa using h
theorem idv_one (l : List UInt8) : (idv l).all (·.oneCell') = true := by
  unfold idv
  rw [List.all_map]
  exact List.all_eq_true.2 fun x _ => rfl
set_option maxRecDepth 100000 in
set_option maxHeartbeats 2000000 in
theorem finish_any (h : Sha.W8) (R : Option Addr) (r : List UInt8) (cr : Nat) (n : Int) (w : World) (hG : Glob w) (hr : RB w 0 R r) (hcr : r.length ≤ cr) (lr : r.length ≤ 9223372036854775807) :
    Calls Tryz.prog 88 #[.agg (hv h R r.length cr n).toArray] w fun e w' => e = .returned (.tuple #[.agg (idv (finE h r n).1).toArray, .int .i64 (finE h r n).2]) ∧ Ab w w' := by
  have HI := fun w' => isHash_any h R r.length cr n w' lr
  cases hv' : vh r.length n with
  | false =>
    have HE : Hid (finE h r n = (List.replicate 32 0, 8)) := by unfold Hid finE; rw [if_neg (by rw [hv']; simp)]
    have HV := Lib.hid hv'
    clear hv'
    go_enter Tryz.func88, Tryz.ntmps88
    have V0 : VB (w.alloc (.cells (hv h R r.length cr n).toArray 127)) w.heap.size (hv h R r.length cr n) := VB.box (xs := (hv h R r.length cr n).toArray) (T := 127) (by (repeat (first | exact new_plain wnA | with_reducible refine old_alloc ?_ | with_reducible refine old_drew ?_ | with_reducible refine old_set ?_ wnA | with_reducible refine old_ab (by assumption) ?_)))
    go_wp2_with ((refine list_ldV _ infoH Tryz.underlying127 rfl rfl _ rfl rfl (VB.ab V0 abA) (hv_len _ _ _ _ _) ?_))
    refine (HI _).mono ?_
    rintro e w1 ⟨rfl, hb1⟩
    rw [HV.out]
    have Z1 : VB w1 (w.heap.size + 1) (idv (List.replicate 32 0)) := VB.box (xs := (idv (List.replicate 32 0)).toArray) (T := 27) (by (repeat (first | exact new_plain wnA | with_reducible refine old_alloc ?_ | with_reducible refine old_drew ?_ | with_reducible refine old_set ?_ wnA | with_reducible refine old_ab (by assumption) ?_)))
    go_wp2_with (refine list_stV (o := ⟨none, _, _, _, _, _⟩) (us := idv (List.replicate 32 0)) _ infoId rfl _ _ rfl rfl rfl Z1 rfl rfl rfl ?_
                 intro w9 h9)
    refine bodyPost_ret (res_V2 _ infoId Tryz.underlying27 rfl Tryz.results88 _ rfl h9.v rfl) rfl ?_
    exact ⟨by rw [HE.out]; rfl, h9.ab _ abA (by omega)⟩
  | true =>
    obtain ⟨n0, n1, n2⟩ := vh_bd hv'
    obtain ⟨k, rfl⟩ : ∃ k : Nat, n = (k : Int) := ⟨n.toNat, by omega⟩
    have hk : k ≤ 1000000 := by omega
    have HE : Hid (finE h r (k : Int) = (Sha.dig (Sha.after h (r ++ Sha.pad k)), 0)) := by unfold Hid finE; rw [if_pos hv']; rfl
    have HV := Lib.hid hv'
    clear hv'
    have HTA : ∀ (g : Nat) (P : Option Addr) (w' : World), Glob w' → w'.heap[g]? = some (.cells #[.slice R r.length cr, .slice P (Sha.zeros k + 9) (Sha.zeros k + 9)] 24 (0, 0)) → RB w' 0 R r → RB w' 0 P (Sha.pad k) →
        Calls Tryz.prog 102 #[.agg (w8 h).toArray, .slice (some ⟨g, 0, none⟩) 2 2] w' (fun e w2 => ∃ G, e = .returned (.tuple #[.agg (w8 (Sha.after h (r ++ Sha.pad k))).toArray, .slice (some ⟨G, 0, none⟩) (Sha.tail (r ++ Sha.pad k)).length 64]) ∧ Ab w' w2) := by
      intro g P w' hG' hg h1 h2
      have hl := Sha.pad_length k
      have hz := Sha.zeros_le k
      have VG := VB.box (xs := #[.slice R r.length cr, .slice P (Sha.zeros k + 9) (Sha.zeros k + 9)]) hg
      refine (takeAll_any h g R P r (Sha.pad k) cr (Sha.zeros k + 9) w' hG' (VG.at 0 rfl) (by rw [hl]; exact VG.at 1 rfl) h1 h2 hcr (by omega) lr (by omega)).mono ?_
      rintro e w2 ⟨G, rfl, _, hb⟩
      exact ⟨G, rfl, hb⟩
    generalize Sha.after h (r ++ Sha.pad k) = H at *
    generalize (Sha.tail (r ++ Sha.pad k)).length = tl at *
    have HD := fun w' => digest_any H w'
    go_enter Tryz.func88, Tryz.ntmps88
    have V0 : VB (w.alloc (.cells (hv h R r.length cr (k : Int)).toArray 127)) w.heap.size (hv h R r.length cr (k : Int)) := VB.box (xs := (hv h R r.length cr (k : Int)).toArray) (T := 127) (by (repeat (first | exact new_plain wnA | with_reducible refine old_alloc ?_ | with_reducible refine old_drew ?_ | with_reducible refine old_set ?_ wnA | with_reducible refine old_ab (by assumption) ?_)))
    go_wp2_with ((refine list_ldV _ infoH Tryz.underlying127 rfl rfl _ rfl rfl (VB.ab V0 abA) (hv_len _ _ _ _ _) ?_))
    refine (HI _).mono ?_
    rintro e w1 ⟨rfl, hb1⟩
    rw [HV.out]
    have V1 : VB w1 w.heap.size (hv h R r.length cr (k : Int)) := V0.ab abA
    have Z1 : VB w1 (w.heap.size + 1) (idv (List.replicate 32 0)) := VB.box (xs := (idv (List.replicate 32 0)).toArray) (T := 27) (by (repeat (first | exact new_plain wnA | with_reducible refine old_alloc ?_ | with_reducible refine old_drew ?_ | with_reducible refine old_set ?_ wnA | with_reducible refine old_ab (by assumption) ?_)))
    have hab1 : Ab w w1 := abA
    have z1 : w.heap.size + 1 < w1.heap.size := Z1.lt
    have hG1 := hG.ab hab1
    have hr1 := hr.ab hab1
    clear V0 hb1
    go_upto_region 3 with fail
    go_cut [4] (fun s4 wx => ∃ v, s4 = .pointer (some ⟨v, 0, none⟩) ∧ VB wx v (w8 H) ∧ Ab w1 wx)
    case first =>
      refine wp_region_held_drew (by kernel_rfl) (S := fun w' => VB w' w.heap.size (hv h R r.length cr (k : Int))) ?_ (fun hHeld => ?_)
      · (exact VB.ab V1 abA)
      (refine rtA 0 ?_ ?_
       (try simp only [Act.put, stA, st0, st1]))
      (refine rtL 1 (w8 h) 0 (fun w hSw => VB.pre hSw) Tryz.underlying101 ?_
       (try simp only [Act.put, stA, st0, st1]))
      (refine rtA 2 ?_ ?_
       (try simp only [Act.put, stA, st0, st1]))
      (refine rtA 3 (.slice R r.length cr) ?_ (hy := fun w hSw => by have y8 := hSw.at 8 rfl; go_simp; (try with_reducible rfl))
       (try simp only [Act.put, stA, st0, st1]))
      (refine rtA 4 ?_ ?_
       (try simp only [Act.put, stA, st0, st1]))
      (refine rtA 5 (.int .i64 (k : Int)) ?_ (hy := fun w hSw => by have y9 := hSw.at 9 rfl; go_simp; (try with_reducible rfl))
       (try simp only [Act.put, stA, st0, st1]))
      (refine wpAnyH_ready (rs := [6, 12]) (by kernel_rfl) (by simp) ?_)
      refine AllReadyH.cons rfl (fun K hK => ?_) (AllReadyH.cons rfl (fun K hK => ?_) AllReadyH.nil)
      · (go_simp
         (refine (padding_any k _ hk).mono ?_; rintro e wp ⟨g, hg, rfl, ho, hbp⟩; have hor := ho.rb.zero; clear ho; have zp := hbp.size; (try simp at zp))
         (try go_wp2_with fail)
         (refine hK.out _ _ ?_ (fun hHeld => ?_)
          · (try dsimp only); (exact VB.ab V1 abA)
          clear hK K
          (try simp only [Act.put, stA, st0, st1])))
        (refine wpAnyH_ready (rs := [7, 12]) (by kernel_rfl) (by simp) ?_)
        refine AllReadyH.cons rfl (fun K hK => ?_) (AllReadyH.cons rfl (fun K hK => ?_) AllReadyH.nil)
        · (go_simp
           (refine hK.out _ _ ?_ (fun hHeld => ?_)
            · (try dsimp only); (exact VB.ab V1 abA)
            clear hK K
            (try simp only [Act.put, stA, st0, st1])))
          (refine wpAnyH_ready (rs := [8, 12]) (by kernel_rfl) (by simp) ?_)
          refine AllReadyH.cons rfl (fun K hK => ?_) (AllReadyH.cons rfl (fun K hK => ?_) AllReadyH.nil)
          · go_simp
            refine (HTA _ _ _ (hG1.ab abA) (by (repeat (first | exact new_plain wnA | with_reducible refine old_alloc ?_ | with_reducible refine old_drew ?_ | with_reducible refine old_set ?_ wnA | with_reducible refine old_ab (by assumption) ?_))) (RB.ab hr1 abA) (RB.ab hor abA)).mono ?_
            rintro e wt ⟨G, rfl, hbt⟩
            have zt := hbt.size; (try simp at zt)
            (try go_wp2_with fail)
            (refine hK.out _ _ ?_ (fun hHeld => ?_)
             · (try dsimp only); (exact VB.ab V1 abA)
             clear hK K
             (try simp only [Act.put, stA, st0, st1]))
            (refine rtA 9 ?_ ?_
             (try simp only [Act.put, stA, st0, st1]))
            (refine rtA 10 ?_ ?_
             (try simp only [Act.put, stA, st0, st1]))
            (refine rtA 11 ?_ ?_
             (try simp only [Act.put, stA, st0, st1]))
            refine r1A 12 (fun K hK => ?_)
            (go_simp
             (refine hK.out _ _ ?_ (fun hHeld => ?_)
              · (try dsimp only); (exact VB.ab V1 abA)
              clear hK K
              (try simp only [Act.put, stA, st0, st1])))
            refine r1A 13 (fun K hK => ?_)
            (try simp only [Act.put, List.getElem_toArray, List.getElem_cons_succ, List.getElem_cons_zero, stA, st0, st1])
            refine if_go (by rfl) ?_
            refine wp_stV (us := w8 H) _ info8 _ _ rfl rfl rfl (VB.box (xs := #[.int .u32 0, .int .u32 0, .int .u32 0, .int .u32 0, .int .u32 0, .int .u32 0, .int .u32 0, .int .u32 0]) (T := 101) (by (repeat (first | exact new_plain wnA | with_reducible refine old_alloc ?_ | with_reducible refine old_drew ?_ | with_reducible refine old_set ?_ wnA | with_reducible refine old_ab (by assumption) ?_)))) (w8_len H).symm (w8_len H) (w8_one H) ?_
            intro w9 h9
            (refine hK.out _ _ ?_ (fun hHeld => ?_)
             · (try dsimp only); exact h9.vb (VB.ab V1 abA) (by omega)
             clear hK K
             (try simp only [Act.put, stA, st0, st1]))
            refine r1A 14 (fun K hK => ?_)
            (go_simp
             (refine hK.out _ _ ?_ (fun hHeld => ?_)
              · (try dsimp only); exact h9.vb (VB.ab V1 abA) (by omega)
              clear hK K
              (try simp only [Act.put, stA, st0, st1])))
            refine wpAnyH_done (by kernel_rfl) ?_ _
            go_wp2_with fail
            go_meet
            exact ⟨_, rfl, VB.ab h9.v abA, Ab.trans (h9.ab w1 abA (by omega)) abA⟩
          · (go_simp
             (refine hK.out _ _ ?_ (fun hHeld => ?_)
              · (try dsimp only); (exact VB.ab V1 abA)
              clear hK K
              (try simp only [Act.put, stA, st0, st1])))
            refine r1A 8 (fun K hK => ?_)
            go_simp
            refine (HTA _ _ _ (hG1.ab abA) (by (repeat (first | exact new_plain wnA | with_reducible refine old_alloc ?_ | with_reducible refine old_drew ?_ | with_reducible refine old_set ?_ wnA | with_reducible refine old_ab (by assumption) ?_))) (RB.ab hr1 abA) (RB.ab hor abA)).mono ?_
            rintro e wt ⟨G, rfl, hbt⟩
            have zt := hbt.size; (try simp at zt)
            (try go_wp2_with fail)
            (refine hK.out _ _ ?_ (fun hHeld => ?_)
             · (try dsimp only); (exact VB.ab V1 abA)
             clear hK K
             (try simp only [Act.put, stA, st0, st1]))
            (refine rtA 9 ?_ ?_
             (try simp only [Act.put, stA, st0, st1]))
            (refine rtA 10 ?_ ?_
             (try simp only [Act.put, stA, st0, st1]))
            (refine rtA 11 ?_ ?_
             (try simp only [Act.put, stA, st0, st1]))
            refine r1A 13 (fun K hK => ?_)
            (try simp only [Act.put, List.getElem_toArray, List.getElem_cons_succ, List.getElem_cons_zero, stA, st0, st1])
            refine if_go (by rfl) ?_
            refine wp_stV (us := w8 H) _ info8 _ _ rfl rfl rfl (VB.box (xs := #[.int .u32 0, .int .u32 0, .int .u32 0, .int .u32 0, .int .u32 0, .int .u32 0, .int .u32 0, .int .u32 0]) (T := 101) (by (repeat (first | exact new_plain wnA | with_reducible refine old_alloc ?_ | with_reducible refine old_drew ?_ | with_reducible refine old_set ?_ wnA | with_reducible refine old_ab (by assumption) ?_)))) (w8_len H).symm (w8_len H) (w8_one H) ?_
            intro w9 h9
            (refine hK.out _ _ ?_ (fun hHeld => ?_)
             · (try dsimp only); exact h9.vb (VB.ab V1 abA) (by omega)
             clear hK K
             (try simp only [Act.put, stA, st0, st1]))
            refine r1A 14 (fun K hK => ?_)
            (go_simp
             (refine hK.out _ _ ?_ (fun hHeld => ?_)
              · (try dsimp only); exact h9.vb (VB.ab V1 abA) (by omega)
              clear hK K
              (try simp only [Act.put, stA, st0, st1])))
            refine wpAnyH_done (by kernel_rfl) ?_ _
            go_wp2_with fail
            go_meet
            exact ⟨_, rfl, VB.ab h9.v abA, Ab.trans (h9.ab w1 abA (by omega)) abA⟩
        · (go_simp
           (refine hK.out _ _ ?_ (fun hHeld => ?_)
            · (try dsimp only); (exact VB.ab V1 abA)
            clear hK K
            (try simp only [Act.put, stA, st0, st1])))
          refine r1A 7 (fun K hK => ?_)
          (go_simp
           (refine hK.out _ _ ?_ (fun hHeld => ?_)
            · (try dsimp only); (exact VB.ab V1 abA)
            clear hK K
            (try simp only [Act.put, stA, st0, st1])))
          refine r1A 8 (fun K hK => ?_)
          go_simp
          refine (HTA _ _ _ (hG1.ab abA) (by (repeat (first | exact new_plain wnA | with_reducible refine old_alloc ?_ | with_reducible refine old_drew ?_ | with_reducible refine old_set ?_ wnA | with_reducible refine old_ab (by assumption) ?_))) (RB.ab hr1 abA) (RB.ab hor abA)).mono ?_
          rintro e wt ⟨G, rfl, hbt⟩
          have zt := hbt.size; (try simp at zt)
          (try go_wp2_with fail)
          (refine hK.out _ _ ?_ (fun hHeld => ?_)
           · (try dsimp only); (exact VB.ab V1 abA)
           clear hK K
           (try simp only [Act.put, stA, st0, st1]))
          (refine rtA 9 ?_ ?_
           (try simp only [Act.put, stA, st0, st1]))
          (refine rtA 10 ?_ ?_
           (try simp only [Act.put, stA, st0, st1]))
          (refine rtA 11 ?_ ?_
           (try simp only [Act.put, stA, st0, st1]))
          refine r1A 13 (fun K hK => ?_)
          (try simp only [Act.put, List.getElem_toArray, List.getElem_cons_succ, List.getElem_cons_zero, stA, st0, st1])
          refine if_go (by rfl) ?_
          refine wp_stV (us := w8 H) _ info8 _ _ rfl rfl rfl (VB.box (xs := #[.int .u32 0, .int .u32 0, .int .u32 0, .int .u32 0, .int .u32 0, .int .u32 0, .int .u32 0, .int .u32 0]) (T := 101) (by (repeat (first | exact new_plain wnA | with_reducible refine old_alloc ?_ | with_reducible refine old_drew ?_ | with_reducible refine old_set ?_ wnA | with_reducible refine old_ab (by assumption) ?_)))) (w8_len H).symm (w8_len H) (w8_one H) ?_
          intro w9 h9
          (refine hK.out _ _ ?_ (fun hHeld => ?_)
           · (try dsimp only); exact h9.vb (VB.ab V1 abA) (by omega)
           clear hK K
           (try simp only [Act.put, stA, st0, st1]))
          refine r1A 14 (fun K hK => ?_)
          (go_simp
           (refine hK.out _ _ ?_ (fun hHeld => ?_)
            · (try dsimp only); exact h9.vb (VB.ab V1 abA) (by omega)
            clear hK K
            (try simp only [Act.put, stA, st0, st1])))
          refine wpAnyH_done (by kernel_rfl) ?_ _
          go_wp2_with fail
          go_meet
          exact ⟨_, rfl, VB.ab h9.v abA, Ab.trans (h9.ab w1 abA (by omega)) abA⟩
      · (go_simp
         (refine hK.out _ _ ?_ (fun hHeld => ?_)
          · (try dsimp only); (exact VB.ab V1 abA)
          clear hK K
          (try simp only [Act.put, stA, st0, st1])))
        refine r1A 6 (fun K hK => ?_)
        (go_simp
         (refine (padding_any k _ hk).mono ?_; rintro e wp ⟨g, hg, rfl, ho, hbp⟩; have hor := ho.rb.zero; clear ho; have zp := hbp.size; (try simp at zp))
         (try go_wp2_with fail)
         (refine hK.out _ _ ?_ (fun hHeld => ?_)
          · (try dsimp only); (exact VB.ab V1 abA)
          clear hK K
          (try simp only [Act.put, stA, st0, st1])))
        refine r1A 7 (fun K hK => ?_)
        (go_simp
         (refine hK.out _ _ ?_ (fun hHeld => ?_)
          · (try dsimp only); (exact VB.ab V1 abA)
          clear hK K
          (try simp only [Act.put, stA, st0, st1])))
        refine r1A 8 (fun K hK => ?_)
        go_simp
        refine (HTA _ _ _ (hG1.ab abA) (by (repeat (first | exact new_plain wnA | with_reducible refine old_alloc ?_ | with_reducible refine old_drew ?_ | with_reducible refine old_set ?_ wnA | with_reducible refine old_ab (by assumption) ?_))) (RB.ab hr1 abA) (RB.ab hor abA)).mono ?_
        rintro e wt ⟨G, rfl, hbt⟩
        have zt := hbt.size; (try simp at zt)
        (try go_wp2_with fail)
        (refine hK.out _ _ ?_ (fun hHeld => ?_)
         · (try dsimp only); (exact VB.ab V1 abA)
         clear hK K
         (try simp only [Act.put, stA, st0, st1]))
        (refine rtA 9 ?_ ?_
         (try simp only [Act.put, stA, st0, st1]))
        (refine rtA 10 ?_ ?_
         (try simp only [Act.put, stA, st0, st1]))
        (refine rtA 11 ?_ ?_
         (try simp only [Act.put, stA, st0, st1]))
        refine r1A 13 (fun K hK => ?_)
        (try simp only [Act.put, List.getElem_toArray, List.getElem_cons_succ, List.getElem_cons_zero, stA, st0, st1])
        refine if_go (by rfl) ?_
        refine wp_stV (us := w8 H) _ info8 _ _ rfl rfl rfl (VB.box (xs := #[.int .u32 0, .int .u32 0, .int .u32 0, .int .u32 0, .int .u32 0, .int .u32 0, .int .u32 0, .int .u32 0]) (T := 101) (by (repeat (first | exact new_plain wnA | with_reducible refine old_alloc ?_ | with_reducible refine old_drew ?_ | with_reducible refine old_set ?_ wnA | with_reducible refine old_ab (by assumption) ?_)))) (w8_len H).symm (w8_len H) (w8_one H) ?_
        intro w9 h9
        (refine hK.out _ _ ?_ (fun hHeld => ?_)
         · (try dsimp only); exact h9.vb (VB.ab V1 abA) (by omega)
         clear hK K
         (try simp only [Act.put, stA, st0, st1]))
        refine r1A 14 (fun K hK => ?_)
        (go_simp
         (refine hK.out _ _ ?_ (fun hHeld => ?_)
          · (try dsimp only); exact h9.vb (VB.ab V1 abA) (by omega)
          clear hK K
          (try simp only [Act.put, stA, st0, st1])))
        refine wpAnyH_done (by kernel_rfl) ?_ _
        go_wp2_with fail
        go_meet
        exact ⟨_, rfl, VB.ab h9.v abA, Ab.trans (h9.ab w1 abA (by omega)) abA⟩
    obtain ⟨v, rfl, hv1, hb2⟩ := hcut
    have Z2 := Z1.ab hb2
    go_wp2_with (refine list_ldV (o := ⟨some 22, _, _, _, _, _⟩) _ info8 Tryz.underlying101 rfl rfl _ rfl rfl hv1 (w8_len _) ?_)
    refine (HD _).mono ?_
    rintro e w3 ⟨rfl, hb3⟩
    have hid : (Sha.dig H).length = 32 := Sha.dig_length H
    generalize Sha.dig H = dg at *
    have HL := Lib.hid hid
    clear hid
    go_wp2_with (refine list_stV (o := ⟨none, _, _, _, _, _⟩) (us := idv dg) _ infoId rfl _ _ rfl rfl rfl (VB.ab Z2 hb3) ((idv_len HL.out).symm) (idv_len HL.out) (idv_one _) ?_
                 intro w9 h9)
    refine bodyPost_ret (res_V2 _ infoId Tryz.underlying27 rfl Tryz.results88 _ rfl h9.v (idv_len HL.out)) rfl ?_
    exact ⟨by rw [HE.out]; rfl, h9.ab _ (Ab.trans hab1 (Ab.trans hb2 hb3)) (by omega)⟩
end Go.Proofs.YthfffbpcmlgoiaaGreatDoor
