/- DeltaNames: regions 13 to 24. Written by gendl_ng.py. Own work. -/
import Derived.Test.YtjgijpfknhfnjaaDlNmB
set_option linter.unusedVariables false
set_option linter.unusedSimpArgs false
namespace Go.Proofs.Ytjgijpfknhfnjaa
open Go.RowKit

set_option maxRecDepth 1000000 in
set_option maxHeartbeats 32000000 in
theorem dpart13 (W x5 : World) (hM : MaxL W) (HA0 : Ab W x5) (T : Array Value) (hsT : T.size = 370) (pg : Nat) (hP : Pts x5 (some ⟨pg, 0, none⟩) 1 [⟨2, 3, none, [], 0⟩])
    (f11 : T.getD 11 undef = .bool true) (f10 : T.getD 10 undef = .slice (some ⟨pg, 0, none⟩) 1 1) :
    Code.wp Try.prog dtail13 (bodyPost Try.prog Try.f3 (RetTrue W)) ⟨T, []⟩ x5 := by
  obtain ⟨Z2001, l2001, hz2001, hy2001, mk2001, rb2001⟩ := make_bytes 2001 (by omega) 2001 rfl
  obtain ⟨Z2000, l2000, hz2000, hy2000, mk2000, rb2000⟩ := make_bytes 2000 (by omega) 2000 rfl
  obtain ⟨Z1001, l1001, hz1001, hy1001, mk1001, rb1001⟩ := make_bytes 1001 (by omega) 1001 rfl
  obtain ⟨Z1000, l1000, hz1000, hy1000, mk1000, rb1000⟩ := make_bytes 1000 (by omega) 1000 rfl
  obtain ⟨Z301, l301, hz301, hy301, mk301, rb301⟩ := make_bytes 301 (by omega) 301 rfl
  obtain ⟨Z300, l300, hz300, hy300, mk300, rb300⟩ := make_bytes 300 (by omega) 300 rfl
  obtain ⟨Zp, mkp, vbp⟩ := make_parts 201 (by omega) 201 rfl
  have HM := Lib.hid hM
  have BP := Lib.hid HA0
  have PC := Lib.hid (fun w' (k : Ab x5 w') => hP.ab k)
  clear hM HA0 hP
  have c5 : Ab x5 x5 := Ab.refl x5
  obtain ⟨g, hg, hT⟩ := dq_lit 370 T hsT
  rw [lit_370] at hT
  have e10 := (hg 10).trans f10
  have e11 := (hg 11).trans f11
  clear hg hsT f10 f11
  subst hT
  rw [e10, e11]
  clear e10 e11
  conv => arg 2; whnf
  go_wp2_with fail
  refine (apply_n _ 2001 l2001 hz2001.out (by omega) none 0 0 [] _ (rb2001.out _ _ (0, 0) (by (repeat (first | exact new_plain wnA | with_reducible refine old_alloc ?_ | with_reducible refine old_drew ?_ | with_reducible refine old_set ?_ wnA | with_reducible refine old_ab (by assumption) ?_)))) (pts_no _ _) rfl ([], 4) (Dl.apply_2001 hz2001.out)).mono ?_
  rintro e x6 ⟨A5, q5, L5, hL5, rfl, _, hb⟩
  have d6 : Ab x5 x6 := Ab.trans (by exact abA) hb
  have c6 := c5.trans d6
  clear hb c5
  clear d6
  have CV := Lib.run_convert_bytes_const (P := Try.prog) x6 22 5 #[.int .u8 97, .int .u8 98, .int .u8 99, .int .u8 100] 4 4 Try.underlying22 Try.underlying5
  go_wp2_with fail
  refine (apply_n _ 4 [97, 98, 99, 100] rfl (by omega) _ _ 1 [⟨2, 3, none, [], 0⟩] _ (lit_at [97, 98, 99, 100] (cs := #[.int .u8 97, .int .u8 98, .int .u8 99, .int .u8 100]) (fr := (4, 5)) (by (repeat (first | exact new_plain wnA | with_reducible refine old_alloc ?_ | with_reducible refine old_drew ?_ | with_reducible refine old_set ?_ wnA | with_reducible refine old_ab (by assumption) ?_))) rfl) (PC.out _ (c6.trans abA)) rfl ([], 16) Dl.apply_abcd).mono ?_
  rintro e x7 ⟨A5, q5, L5, hL5, rfl, _, hb⟩
  have d7 : Ab x6 x7 := Ab.trans (by exact abA) hb
  have c7 := c6.trans d7
  clear hb c6
  clear CV
  clear d7
  have CV := Lib.run_convert_bytes_const (P := Try.prog) x7 22 5 #[.int .u8 97, .int .u8 98, .int .u8 99, .int .u8 100, .int .u8 101] 5 5 Try.underlying22 Try.underlying5
  go_wp2_with fail
  refine (apply_n _ 5 [97, 98, 99, 100, 101] rfl (by omega) _ _ 1 [⟨2, 3, none, [], 0⟩] _ (lit_at [97, 98, 99, 100, 101] (cs := #[.int .u8 97, .int .u8 98, .int .u8 99, .int .u8 100, .int .u8 101]) (fr := (5, 6)) (by (repeat (first | exact new_plain wnA | with_reducible refine old_alloc ?_ | with_reducible refine old_drew ?_ | with_reducible refine old_set ?_ wnA | with_reducible refine old_ab (by assumption) ?_))) rfl) (PC.out _ (c7.trans abA)) rfl ([99, 100, 101], 0) Dl.apply_abcde).mono ?_
  rintro e x8 ⟨AC, qc, LC, hLC, rfl, oC, hb⟩
  have d8 : Ab x7 x8 := Ab.trans (by exact abA) hb
  have c8 := c7.trans d8
  clear hb c7
  clear CV
  obtain rfl : LC = [99, 100, 101] := hLC.out
  have RC := oC.rb.zero
  clear oC hLC
  clear d8
  go_wp2_with fail
  refine (apply_n _ 1001 l1001 hz1001.out (by omega) _ _ 2 [⟨0, 1000, none, [], 0⟩, ⟨0, 1001, none, [], 0⟩] _ (rb1001.out _ _ (0, 0) (by (repeat (first | exact new_plain wnA | with_reducible refine old_alloc ?_ | with_reducible refine old_drew ?_ | with_reducible refine old_set ?_ wnA | with_reducible refine old_ab (by assumption) ?_)))) (pts_lit [⟨0, 1000, none, [], 0⟩, ⟨0, 1001, none, [], 0⟩] (by (repeat (first | exact new_plain wnA | with_reducible refine old_alloc ?_ | with_reducible refine old_drew ?_ | with_reducible refine old_set ?_ wnA | with_reducible refine old_ab (by assumption) ?_))) rfl (fun x hx => by simp only [List.mem_cons, List.not_mem_nil, or_false] at hx; rcases hx with rfl | rfl <;> exact pl_copy _ (by omega) (by omega) (by omega) (by omega)) (by simp)) rfl ([], 4) (Dl.apply_1001 hz1001.out)).mono ?_
  rintro e x9 ⟨A5, q5, L5, hL5, rfl, _, hb⟩
  have d9 : Ab x8 x9 := Ab.trans (by exact abA) hb
  have c9 := c8.trans d9
  have RC := RC.ab d9
  clear hb c8
  clear d9
  go_wp2_with fail
  refine (apply_n _ 1000 l1000 hz1000.out (by omega) _ _ 2 [⟨0, 1000, none, [], 0⟩, ⟨0, 1000, none, [], 0⟩] _ (rb1000.out _ _ (0, 0) (by (repeat (first | exact new_plain wnA | with_reducible refine old_alloc ?_ | with_reducible refine old_drew ?_ | with_reducible refine old_set ?_ wnA | with_reducible refine old_ab (by assumption) ?_)))) (pts_lit [⟨0, 1000, none, [], 0⟩, ⟨0, 1000, none, [], 0⟩] (by (repeat (first | exact new_plain wnA | with_reducible refine old_alloc ?_ | with_reducible refine old_drew ?_ | with_reducible refine old_set ?_ wnA | with_reducible refine old_ab (by assumption) ?_))) rfl (fun x hx => by simp only [List.mem_cons, List.not_mem_nil, or_false] at hx; rcases hx with rfl | rfl <;> exact pl_copy _ (by omega) (by omega) (by omega) (by omega)) (by simp)) rfl _ rfl).mono ?_
  rintro e x10 ⟨AF, qf, LF, hLF, he, _, hb⟩
  have d10 : Ab x9 x10 := Ab.trans (by exact abA) hb
  have c10 := c9.trans d10
  have RC := RC.ab d10
  clear hb c9
  have h20 := Dl.apply_1000 hz1000.out
  have e20 : LF.length = 2000 := by rw [hLF.out]; exact h20.2
  have he' : e = .returned (.tuple #[.slice AF 2000 qf, .int .i64 0]) := by
    rw [he, e20]
    exact congrArg (fun v => Ending.returned (.tuple #[.slice AF 2000 qf, .int .i64 v])) h20.1
  subst he'
  clear he h20 e20 hLF
  clear d10
  go_upto_region 18 with fail
  focus
    go_wp2_with fail
    refine (make_n _ none l301 [] 301 0 _ (HM.out.ab (BP.out.trans (c10.trans abA))) (rb301.out _ _ (0, 0) (by (repeat (first | exact new_plain wnA | with_reducible refine old_alloc ?_ | with_reducible refine old_drew ?_ | with_reducible refine old_set ?_ wnA | with_reducible refine old_ab (by assumption) ?_)))) (rb_no _) hz301.out rfl (by omega) (by omega) (fun h => by cases h)).mono ?_
    rintro e x11 ⟨P5, q5, p5, er, rfl, _, hb, hr⟩
    have d11 : Ab x10 x11 := Ab.trans (by exact abA) hb
    have c11 := c10.trans d11
    have RC := RC.ab d11
    clear hb c10
    obtain ⟨rfl, rfl⟩ := mk_great hr (.inl (by rw [hz301.out]; omega))
    clear hr
    clear d11
    go_wp2_with fail
    refine (make_n none _ [] l301 0 301 _ (HM.out.ab (BP.out.trans (c11.trans abA))) (rb_no _) (rb301.out _ _ (0, 0) (by (repeat (first | exact new_plain wnA | with_reducible refine old_alloc ?_ | with_reducible refine old_drew ?_ | with_reducible refine old_set ?_ wnA | with_reducible refine old_ab (by assumption) ?_)))) rfl hz301.out (by omega) (by omega) (fun _ => rfl)).mono ?_
    rintro e x12 ⟨P5, q5, p5, er, rfl, _, hb, hr⟩
    have d12 : Ab x11 x12 := Ab.trans (by exact abA) hb
    have c12 := c11.trans d12
    have RC := RC.ab d12
    clear hb c11
    obtain ⟨rfl, rfl⟩ := mk_great hr (.inr (by rw [hz301.out]; omega))
    clear hr
    clear d12
    have CV := Lib.run_convert_bytes_const (P := Try.prog) x12 22 5 #[.int .u8 97] 1 1 Try.underlying22 Try.underlying5
    go_wp2_with fail
    refine (make_n _ none [97] [] 1 0 _ (HM.out.ab (BP.out.trans (c12.trans abA))) (lit_at [97] (cs := #[.int .u8 97]) (fr := (1, 2)) (by (repeat (first | exact new_plain wnA | with_reducible refine old_alloc ?_ | with_reducible refine old_drew ?_ | with_reducible refine old_set ?_ wnA | with_reducible refine old_ab (by assumption) ?_))) rfl) (rb_no _) rfl rfl (by omega) (by omega) (fun h => by cases h)).mono ?_
    rintro e x13 ⟨PN, qn, pn, er, rfl, _, hb, hr⟩
    have d13 : Ab x12 x13 := Ab.trans (by exact abA) hb
    have c13 := c12.trans d13
    have RC := RC.ab d13
    clear hb c12
    clear CV
    obtain ⟨rfl, hpn⟩ := mk_small hr (by simp) [] (fun F G l' _ h => Dl.make_no h)
    have hpn' : pn = [] := by simpa using hpn
    subst hpn'
    clear hr hpn
    clear d13
    have CV := Lib.run_convert_bytes_const (P := Try.prog) x13 22 5 #[.int .u8 97, .int .u8 98, .int .u8 99] 3 3 Try.underlying22 Try.underlying5
    go_wp2_with fail
    refine (make_n none _ [] [97, 98, 99] 0 3 _ (HM.out.ab (BP.out.trans (c13.trans abA))) (rb_no _) (lit_at [97, 98, 99] (cs := #[.int .u8 97, .int .u8 98, .int .u8 99]) (fr := (3, 4)) (by (repeat (first | exact new_plain wnA | with_reducible refine old_alloc ?_ | with_reducible refine old_drew ?_ | with_reducible refine old_set ?_ wnA | with_reducible refine old_ab (by assumption) ?_))) rfl) rfl rfl (by omega) (by omega) (fun _ => rfl)).mono ?_
    rintro e x14 ⟨PA, qa, pa, er, rfl, oA, hb, hr⟩
    have d14 : Ab x13 x14 := Ab.trans (by exact abA) hb
    have c14 := c13.trans d14
    have RC := RC.ab d14
    clear hb c13
    clear CV
    obtain ⟨rfl, hpa⟩ := mk_small hr (by simp) [⟨0, 0, [97, 98, 99]⟩] (fun F G l' h1 h2 => Dl.make_abc h1 h2)
    have hla : pa.length = 1 := by have := congrArg List.length hpa; simpa using this
    have TA := oA.pts (by omega)
    have HPA := Lib.hid hpa
    clear hr hpa oA hla
    clear d14
    go_upto_region 22 with fail
    focus
      go_cut [30, 31] (fun s30 s31 wx => ∃ (P : Option Addr) (cp : Nat) (ps : List PM), s30 = .slice P ps.length cp ∧ s31 = .int .i64 0 ∧ Pts wx P cp ps ∧ Hid (ps.map PM.d = [⟨0, 300, []⟩]) ∧ Ab x14 wx)
      case first =>
        refine wp_region_held_drew (by kernel_rfl) (S := fun w' => Ab x14 w') ?_ (fun hHeld => ?_)
        · exact (Ab.refl x14).drew
        (refine wpAnyH_ready (rs := [0, 1]) (by kernel_rfl) (by simp) ?_)
        refine AllReadyH.cons rfl (fun K hK => ?_) (AllReadyH.cons rfl (fun K hK => ?_) AllReadyH.nil)
        · focus
            (go_simp
             (refine hK.out _ _ ?_ (fun hHeld => ?_)
              · (try dsimp only); exact (show Ab x14 _ from abA)
              clear hK K
              (try simp only [Act.put, stA, st0, st1])))
            refine r1A 1 (fun K hK => ?_)
            (go_simp
             (refine hK.out _ _ ?_ (fun hHeld => ?_)
              · (try dsimp only); exact (show Ab x14 _ from abA)
              clear hK K
              (try simp only [Act.put, stA, st0, st1])))
            refine r1A 2 (fun K hK => ?_)
            (go_simp
             (refine (make_n _ _ l300 l300 300 300 _ (HM.out.ab (BP.out.trans (c14.trans abA))) (rb300.out _ _ (0, 0) (by (repeat (first | exact new_plain wnA | with_reducible refine old_alloc ?_ | with_reducible refine old_drew ?_ | with_reducible refine old_set ?_ wnA | with_reducible refine old_ab (by assumption) ?_)))) (rb300.out _ _ (0, 0) (by (repeat (first | exact new_plain wnA | with_reducible refine old_alloc ?_ | with_reducible refine old_drew ?_ | with_reducible refine old_set ?_ wnA | with_reducible refine old_ab (by assumption) ?_)))) hz300.out hz300.out (by omega) (by omega) (fun h => by cases h)).mono ?_; rintro e y ⟨PS, qs, ps, er, rfl, oS, hb, hr⟩; obtain ⟨rfl, hps⟩ := mk_small hr (by rw [hz300.out]; omega) [⟨0, 300, []⟩] (fun F G l' h1 h2 => by rw [zeros_eq hz300.out hy300.out] at h1 h2; exact Dl.make_same h1 h2); have hls : ps.length = 1 := (by have := congrArg List.length hps; simpa using this); have TS := oS.pts (by omega); have HPS := Lib.hid hps; have dS : Ab x14 y := Ab.trans abA hb; clear hr hps oS hls hb)
             (try go_wp2_with fail)
             (refine hK.out _ _ ?_ (fun hHeld => ?_)
              · (try dsimp only); exact dS
              clear hK K
              (try simp only [Act.put, stA, st0, st1])))
            (refine rtA 3 ?_ ?_
             (try simp only [Act.put, stA, st0, st1]))
            (refine rtA 4 ?_ ?_
             (try simp only [Act.put, stA, st0, st1]))
            (refine rtA 5 ?_ ?_
             (try simp only [Act.put, stA, st0, st1]))
            refine r1A 6 (fun K hK => ?_)
            (go_simp
             (refine hK.out _ _ ?_ (fun hHeld => ?_)
              · (try dsimp only); exact dS
              clear hK K
              (try simp only [Act.put, stA, st0, st1])))
            refine r1A 7 (fun K hK => ?_)
            (go_simp
             (refine hK.out _ _ ?_ (fun hHeld => ?_)
              · (try dsimp only); exact dS
              clear hK K
              (try simp only [Act.put, stA, st0, st1])))
            refine wpAnyH_done (by kernel_rfl) ?_ _
            go_wp2_with fail
            go_meet
            exact ⟨PS, qs, ps, rfl, rfl, TS, HPS, dS⟩
        · focus
            (go_simp
             (refine hK.out _ _ ?_ (fun hHeld => ?_)
              · (try dsimp only); exact (show Ab x14 _ from abA)
              clear hK K
              (try simp only [Act.put, stA, st0, st1])))
            refine r1A 0 (fun K hK => ?_)
            (go_simp
             (refine hK.out _ _ ?_ (fun hHeld => ?_)
              · (try dsimp only); exact (show Ab x14 _ from abA)
              clear hK K
              (try simp only [Act.put, stA, st0, st1])))
            refine r1A 2 (fun K hK => ?_)
            (go_simp
             (refine (make_n _ _ l300 l300 300 300 _ (HM.out.ab (BP.out.trans (c14.trans abA))) (rb300.out _ _ (0, 0) (by (repeat (first | exact new_plain wnA | with_reducible refine old_alloc ?_ | with_reducible refine old_drew ?_ | with_reducible refine old_set ?_ wnA | with_reducible refine old_ab (by assumption) ?_)))) (rb300.out _ _ (0, 0) (by (repeat (first | exact new_plain wnA | with_reducible refine old_alloc ?_ | with_reducible refine old_drew ?_ | with_reducible refine old_set ?_ wnA | with_reducible refine old_ab (by assumption) ?_)))) hz300.out hz300.out (by omega) (by omega) (fun h => by cases h)).mono ?_; rintro e y ⟨PS, qs, ps, er, rfl, oS, hb, hr⟩; obtain ⟨rfl, hps⟩ := mk_small hr (by rw [hz300.out]; omega) [⟨0, 300, []⟩] (fun F G l' h1 h2 => by rw [zeros_eq hz300.out hy300.out] at h1 h2; exact Dl.make_same h1 h2); have hls : ps.length = 1 := (by have := congrArg List.length hps; simpa using this); have TS := oS.pts (by omega); have HPS := Lib.hid hps; have dS : Ab x14 y := Ab.trans abA hb; clear hr hps oS hls hb)
             (try go_wp2_with fail)
             (refine hK.out _ _ ?_ (fun hHeld => ?_)
              · (try dsimp only); exact dS
              clear hK K
              (try simp only [Act.put, stA, st0, st1])))
            (refine rtA 3 ?_ ?_
             (try simp only [Act.put, stA, st0, st1]))
            (refine rtA 4 ?_ ?_
             (try simp only [Act.put, stA, st0, st1]))
            (refine rtA 5 ?_ ?_
             (try simp only [Act.put, stA, st0, st1]))
            refine r1A 6 (fun K hK => ?_)
            (go_simp
             (refine hK.out _ _ ?_ (fun hHeld => ?_)
              · (try dsimp only); exact dS
              clear hK K
              (try simp only [Act.put, stA, st0, st1])))
            refine r1A 7 (fun K hK => ?_)
            (go_simp
             (refine hK.out _ _ ?_ (fun hHeld => ?_)
              · (try dsimp only); exact dS
              clear hK K
              (try simp only [Act.put, stA, st0, st1])))
            refine wpAnyH_done (by kernel_rfl) ?_ _
            go_wp2_with fail
            go_meet
            exact ⟨PS, qs, ps, rfl, rfl, TS, HPS, dS⟩
      case rest =>
        focus
          obtain ⟨PS, qs, ps, rfl, rfl, TS, HPS, dS⟩ := hcut
          rename World => y22
          have RC := RC.ab dS
          have TA := TA.ab dS
          have c22 := c14.trans dS
          clear dS c14
          have CS : (convert 22 9 (.slice AC 3 qc)).run Try.prog y22 = .ok (.string ⟨#[99, 100, 101]⟩) y22 := conv_str qc RC
          have CV := Lib.run_convert_bytes_const (P := Try.prog) y22 22 5 #[.int .u8 97, .int .u8 98, .int .u8 99] 3 3 Try.underlying22 Try.underlying5
          go_wp2_with fail
          refine (dsame_n PA _ qa _ 1 pa [⟨0, 0, some ⟨y22.heap.size, 0, none⟩, [97, 98, 99], 3⟩] _ (TA.ab abA) (pts_lit [⟨0, 0, some ⟨y22.heap.size, 0, none⟩, [97, 98, 99], 3⟩] (by (repeat (first | exact new_plain wnA | with_reducible refine old_alloc ?_ | with_reducible refine old_drew ?_ | with_reducible refine old_set ?_ wnA | with_reducible refine old_ab (by assumption) ?_))) rfl (fun x hx => by (obtain rfl : x = ⟨0, 0, some ⟨y22.heap.size, 0, none⟩, [97, 98, 99], 3⟩ := (by simpa using hx)); exact pl_data (lit_at [97, 98, 99] (cs := #[.int .u8 97, .int .u8 98, .int .u8 99]) (fr := (3, 4)) (by (repeat (first | exact new_plain wnA | with_reducible refine old_alloc ?_ | with_reducible refine old_drew ?_ | with_reducible refine old_set ?_ wnA | with_reducible refine old_ab (by assumption) ?_))) rfl) (by simp) (by simp) (by omega) (by omega) (by omega) (by omega)) (by simp)) rfl HPA.out).mono ?_
          rintro e ya ⟨rfl, hb⟩
          have dd : Ab y22 ya := Ab.trans (by exact abA) hb
          have cya := c22.trans dd
          have RC := RC.ab dd
          have TA := TA.ab dd
          have TS := TS.ab dd
          clear hb c22
          clear CV CS TA HPA RC
          clear dd
          go_wp2_with fail
          refine (dsame_n PS _ qs _ 1 ps [⟨0, 300, none, [], 0⟩] _ (TS.ab abA) (pts_lit [⟨0, 300, none, [], 0⟩] (by (repeat (first | exact new_plain wnA | with_reducible refine old_alloc ?_ | with_reducible refine old_drew ?_ | with_reducible refine old_set ?_ wnA | with_reducible refine old_ab (by assumption) ?_))) rfl (fun x hx => by (obtain rfl : x = ⟨0, 300, none, [], 0⟩ := (by simpa using hx)); exact pl_copy _ (by omega) (by omega) (by omega) (by omega)) (by simp)) rfl HPS.out).mono ?_
          rintro e yb ⟨rfl, hb⟩
          have dd : Ab ya yb := Ab.trans (by exact abA) hb
          have cyb := cya.trans dd
          have TS := TS.ab dd
          clear hb cya
          clear TS HPS
          clear dd
          go_upto_region 24 with fail
          refine wp_cut (DSt25 W) ?_ ?_
          rotate_left
          · intro J K' hJ hK'
            go_wp2_with fail
            refine (enc_n _ 201 201 (List.replicate 201 PM.zero) _ (pts_zero 201 (by omega) (vbp.out _ _ (by (repeat (first | exact new_plain wnA | with_reducible refine old_alloc ?_ | with_reducible refine old_drew ?_ | with_reducible refine old_set ?_ wnA | with_reducible refine old_ab (by assumption) ?_))))) List.length_replicate 4 (Dl.encode_many (by rw [List.length_map, List.length_replicate]))).mono ?_
            rintro e yc ⟨A5, q5, rfl, hb⟩
            have dd : Ab yb yc := Ab.trans (by exact abA) hb
            have cyc := cyb.trans dd
            clear hb cyb
            clear dd
            go_wp2
            refine Met.intro (hJ _ _ ?_)
            exact ⟨rfl, rfl, rfl, rfl, rfl, BP.out.trans cyc⟩
          rename_i KK hKK
          rintro ⟨T2, d2⟩ wz ⟨hd2, hs2, f11, f32, f34, HAz⟩
          simp only at hd2 hs2 f11 f32 f34
          subst hd2
          refine hKK _ _ ?_
          exact dpart25 W wz HM.out HAz T2 hs2 f11 f32 f34
end Go.Proofs.Ytjgijpfknhfnjaa
