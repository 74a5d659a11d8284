/- DeltaNames: regions 25 and 26. Written by gendl_ng.py. Own work. -/
import Derived.Test.YtjgijpfknhfnjaaDlNmC
set_option linter.unusedVariables false
set_option linter.unusedSimpArgs false
namespace Go.Proofs.Ytjgijpfknhfnjaa
open Go.RowKit

set_option maxRecDepth 1000000 in
set_option maxHeartbeats 32000000 in
theorem dpart25 (W yc : World) (hM : MaxL W) (cyc : Ab W yc) (T : Array Value) (hsT : T.size = 370)
    (f11 : T.getD 11 undef = .bool true) (f32 : T.getD 32 undef = .bool true) (f34 : T.getD 34 undef = .int .i64 4) :
    Code.wp Try.prog dtail25 (bodyPost Try.prog Try.f3 (RetTrue W)) ⟨T, []⟩ yc := by
  obtain ⟨Z2000, l2000, hz2000, hy2000, mk2000, rb2000⟩ := make_bytes 2000 (by omega) 2000 rfl
  have HM := Lib.hid hM
  clear hM
  obtain ⟨g, hg, hT⟩ := dq_lit 370 T hsT
  rw [lit_370] at hT
  have e11 := (hg 11).trans f11
  have e32 := (hg 32).trans f32
  have e34 := (hg 34).trans f34
  clear hg hsT f11 f32 f34
  subst hT
  rw [e11, e32, e34]
  clear e11 e32 e34
  conv => arg 2; whnf
  go_upto_region 25 with fail
  go_cut [36] (fun s36 wx => s36 = .int .i64 4 ∧ Ab yc wx)
  case first =>
    refine wp_region_held_drew (by kernel_rfl) (S := fun w' => Ab yc w') ?_ (fun hHeld => ?_)
    · exact (Ab.refl yc).drew
    (refine wpAnyH_ready (rs := [0, 2]) (by kernel_rfl) (by simp) ?_)
    refine AllReadyH.cons rfl (fun K hK => ?_) (AllReadyH.cons rfl (fun K hK => ?_) AllReadyH.nil)
    · focus
        (go_simp
         (refine hK.out _ _ ?_ (fun hHeld => ?_)
          · (try dsimp only); exact (show Ab yc _ from abA)
          clear hK K
          (try simp only [Act.put, stA, st0, st1])))
        (refine rtA 1 ?_ ?_
         (try simp only [Act.put, stA, st0, st1]))
        refine r1A 2 (fun K hK => ?_)
        (go_simp
         (refine hK.out _ _ ?_ (fun hHeld => ?_)
          · (try dsimp only); exact (show Ab yc _ from abA)
          clear hK K
          (try simp only [Act.put, stA, st0, st1])))
        (refine rtA 3 ?_ ?_
         (try simp only [Act.put, stA, st0, st1]))
        refine r1A 4 (fun K hK => ?_)
        (go_simp
         (refine hK.out _ _ ?_ (fun hHeld => ?_)
          · (try dsimp only); exact (show Ab yc _ from abA)
          clear hK K
          (try simp only [Act.put, stA, st0, st1])))
        refine r1A 5 (fun K hK => ?_)
        (go_simp
         (refine (enc_n _ _ 2 [⟨0, 0, some ⟨yc.drew.heap.size, 0, none⟩, l2000, 2000⟩, ⟨0, 0, some ⟨yc.drew.heap.size + 1, 0, none⟩, l2000, 2000⟩] _ (pts_lit [⟨0, 0, some ⟨yc.drew.heap.size, 0, none⟩, l2000, 2000⟩, ⟨0, 0, some ⟨yc.drew.heap.size + 1, 0, none⟩, l2000, 2000⟩] (by (repeat (first | exact new_plain wnA | with_reducible refine old_alloc ?_ | with_reducible refine old_drew ?_ | with_reducible refine old_set ?_ wnA | with_reducible refine old_ab (by assumption) ?_))) (by simp [pcells, PM.cells, hz2000.out]) (fun x hx => by (simp only [List.mem_cons, List.not_mem_nil, or_false] at hx); rcases hx with rfl | rfl <;> exact pl_data (rb2000.out _ _ (0, 0) (by (repeat (first | exact new_plain wnA | with_reducible refine old_alloc ?_ | with_reducible refine old_drew ?_ | with_reducible refine old_set ?_ wnA | with_reducible refine old_ab (by assumption) ?_)))) (by rw [hz2000.out]; omega) (by rw [hz2000.out]; omega) (by omega) (by omega) (by omega) (by omega)) (by simp)) rfl 4 (Dl.enc_great hz2000.out hz2000.out)).mono ?_; rintro e y ⟨A5, q5, rfl, hb⟩; have dS : Ab yc y := Ab.trans abA hb; clear hb)
         (try go_wp2_with fail)
         (refine hK.out _ _ ?_ (fun hHeld => ?_)
          · (try dsimp only); exact dS
          clear hK K
          (try simp only [Act.put, stA, st0, st1])))
        (refine rtA 6 ?_ ?_
         (try simp only [Act.put, stA, st0, st1]))
        (refine rtA 7 ?_ ?_
         (try simp only [Act.put, stA, st0, st1]))
        (refine rtA 8 ?_ ?_
         (try simp only [Act.put, stA, st0, st1]))
        refine r1A 9 (fun K hK => ?_)
        (go_simp
         (refine hK.out _ _ ?_ (fun hHeld => ?_)
          · (try dsimp only); exact dS
          clear hK K
          (try simp only [Act.put, stA, st0, st1])))
        refine r1A 10 (fun K hK => ?_)
        (go_simp
         (refine hK.out _ _ ?_ (fun hHeld => ?_)
          · (try dsimp only); exact dS
          clear hK K
          (try simp only [Act.put, stA, st0, st1])))
        refine wpAnyH_done (by kernel_rfl) ?_ _
        go_wp2_with fail
        go_meet
        exact ⟨rfl, dS⟩
    · focus
        (go_simp
         (refine hK.out _ _ ?_ (fun hHeld => ?_)
          · (try dsimp only); exact (show Ab yc _ from abA)
          clear hK K
          (try simp only [Act.put, stA, st0, st1])))
        (refine rtA 3 ?_ ?_
         (try simp only [Act.put, stA, st0, st1]))
        refine r1A 0 (fun K hK => ?_)
        (go_simp
         (refine hK.out _ _ ?_ (fun hHeld => ?_)
          · (try dsimp only); exact (show Ab yc _ from abA)
          clear hK K
          (try simp only [Act.put, stA, st0, st1])))
        (refine rtA 1 ?_ ?_
         (try simp only [Act.put, stA, st0, st1]))
        refine r1A 4 (fun K hK => ?_)
        (go_simp
         (refine hK.out _ _ ?_ (fun hHeld => ?_)
          · (try dsimp only); exact (show Ab yc _ from abA)
          clear hK K
          (try simp only [Act.put, stA, st0, st1])))
        refine r1A 5 (fun K hK => ?_)
        (go_simp
         (refine (enc_n _ _ 2 [⟨0, 0, some ⟨yc.drew.heap.size + 1, 0, none⟩, l2000, 2000⟩, ⟨0, 0, some ⟨yc.drew.heap.size, 0, none⟩, l2000, 2000⟩] _ (pts_lit [⟨0, 0, some ⟨yc.drew.heap.size + 1, 0, none⟩, l2000, 2000⟩, ⟨0, 0, some ⟨yc.drew.heap.size, 0, none⟩, l2000, 2000⟩] (by (repeat (first | exact new_plain wnA | with_reducible refine old_alloc ?_ | with_reducible refine old_drew ?_ | with_reducible refine old_set ?_ wnA | with_reducible refine old_ab (by assumption) ?_))) (by simp [pcells, PM.cells, hz2000.out]) (fun x hx => by (simp only [List.mem_cons, List.not_mem_nil, or_false] at hx); rcases hx with rfl | rfl <;> exact pl_data (rb2000.out _ _ (0, 0) (by (repeat (first | exact new_plain wnA | with_reducible refine old_alloc ?_ | with_reducible refine old_drew ?_ | with_reducible refine old_set ?_ wnA | with_reducible refine old_ab (by assumption) ?_)))) (by rw [hz2000.out]; omega) (by rw [hz2000.out]; omega) (by omega) (by omega) (by omega) (by omega)) (by simp)) rfl 4 (Dl.enc_great hz2000.out hz2000.out)).mono ?_; rintro e y ⟨A5, q5, rfl, hb⟩; have dS : Ab yc y := Ab.trans abA hb; clear hb)
         (try go_wp2_with fail)
         (refine hK.out _ _ ?_ (fun hHeld => ?_)
          · (try dsimp only); exact dS
          clear hK K
          (try simp only [Act.put, stA, st0, st1])))
        (refine rtA 6 ?_ ?_
         (try simp only [Act.put, stA, st0, st1]))
        (refine rtA 7 ?_ ?_
         (try simp only [Act.put, stA, st0, st1]))
        (refine rtA 8 ?_ ?_
         (try simp only [Act.put, stA, st0, st1]))
        refine r1A 9 (fun K hK => ?_)
        (go_simp
         (refine hK.out _ _ ?_ (fun hHeld => ?_)
          · (try dsimp only); exact dS
          clear hK K
          (try simp only [Act.put, stA, st0, st1])))
        refine r1A 10 (fun K hK => ?_)
        (go_simp
         (refine hK.out _ _ ?_ (fun hHeld => ?_)
          · (try dsimp only); exact dS
          clear hK K
          (try simp only [Act.put, stA, st0, st1])))
        refine wpAnyH_done (by kernel_rfl) ?_ _
        go_wp2_with fail
        go_meet
        exact ⟨rfl, dS⟩
  case rest =>
    focus
      obtain ⟨rfl, dS⟩ := hcut
      rename World => yd
      have cyd := cyc.trans dS
      clear dS cyc
      go_upto_region 26 with fail
      refine wp_cut (DSt27 W) ?_ ?_
      rotate_left
      · intro J K' hJ hK'
        have CV := Lib.run_convert_bytes_const (P := Try.prog) yd 22 5 #[.int .u8 122] 1 1 Try.underlying22 Try.underlying5
        go_wp2_with fail
        refine (enc_r _ 2 2 [⟨1, 2, none, [], 0⟩, ⟨0, 0, some ⟨yd.heap.size, 0, none⟩, [122], 1⟩] _ (pts_lit [⟨1, 2, none, [], 0⟩, ⟨0, 0, some ⟨yd.heap.size, 0, none⟩, [122], 1⟩] (by (repeat (first | exact new_plain wnA | with_reducible refine old_alloc ?_ | with_reducible refine old_drew ?_ | with_reducible refine old_set ?_ wnA | with_reducible refine old_ab (by assumption) ?_))) rfl (fun x hx => by (simp only [List.mem_cons, List.not_mem_nil, or_false] at hx); (rcases hx with rfl | rfl); (· exact pl_copy _ (by omega) (by omega) (by omega) (by omega)); (· exact pl_data (lit_at [122] (cs := #[.int .u8 122]) (fr := (1, 2)) (by (repeat (first | exact new_plain wnA | with_reducible refine old_alloc ?_ | with_reducible refine old_drew ?_ | with_reducible refine old_set ?_ wnA | with_reducible refine old_ab (by assumption) ?_))) rfl) (by simp) (by simp) (by omega) (by omega) (by omega) (by omega))) (by simp)) rfl).mono ?_
        rintro e ye ⟨AO, qo, LO, er, rfl, hE, oO, hb⟩
        have dd : Ab yd ye := Ab.trans (by exact abA) hb
        have cye := cyd.trans dd
        clear hb cyd
        clear CV
        obtain ⟨rfl, rfl⟩ := Prod.mk.inj (hE.out.symm.trans Dl.enc_code)
        have RCo := oO.rb.zero
        clear oO hE
        clear dd
        go_wp2
        refine Met.intro (hJ _ _ ?_)
        exact ⟨rfl, rfl, rfl, rfl, rfl, rfl, rfl, AO, qo, rfl, RCo, cye⟩
      rename_i KK hKK
      rintro ⟨T2, d2⟩ wz ⟨hd2, hs2, f11, f32, f34, f36, f38, AO, qo, f37, RCo, HAz⟩
      simp only at hd2 hs2 f11 f32 f34 f36 f37 f38
      subst hd2
      refine hKK _ _ ?_
      exact dpart27 W wz HM.out HAz T2 hs2 AO qo RCo f11 f32 f34 f36 f37 f38
end Go.Proofs.Ytjgijpfknhfnjaa
