/- The reference of layer 9: Check at commits. Own work. -/
import Derived.Test.YthfffbpcmlgoiaaGreatDoorCObRefB
set_option linter.unusedVariables false
set_option linter.unusedSimpArgs false
namespace Go.Proofs.YthfffbpcmlgoiaaGreatDoor
open Go.RowKit

set_option maxRecDepth 100000 in
set_option maxHeartbeats 4000000 in
theorem rcheck_3 (o : OM) (w : World) (h : OL w o) (hk0 : o.k = 3) :
    Calls Tryz.prog 27 #[.agg o.cells.toArray] w fun e w' => e = .returned (.int .i64 o.e) ∧ Ab w w' := by
  have V0 : VB (w.alloc (.cells o.cells.toArray 32)) w.heap.size o.cells := VB.box (xs := o.cells.toArray) (T := 32) (by (repeat (first | exact new_plain wnA | with_reducible refine old_alloc ?_ | with_reducible refine old_drew ?_ | with_reducible refine old_set ?_ wnA | with_reducible refine old_ab (by assumption) ?_)))
  have b0 : Ab w (w.alloc (.cells o.cells.toArray 32)) := abA
  have T1 := fun w' (hk : Ab w w') => rtext_any o.A o.t o.c w' (h.b.ab hk) h.c h.c'
  have e0 : o.cells[0]? = some (.int .u8 (o.k : Int)) := rfl
  have e1 : o.cells[1]? = some (.slice o.A o.t.length o.c) := rfl
  have e2 : o.cells[2]? = some (.slice o.E o.es.length o.d) := rfl
  obtain ⟨e35, e36, e37⟩ := cells_o o h.m.t
  have RM := Lib.hid (fun (w' : World) (k : VB w' w.heap.size o.cells) => range_m k)
  have RT := Lib.hid (fun (w' : World) (k : VB w' w.heap.size o.cells) => cells_t o.m h.m.t (range_m k))
  have hml := CM.len h.m.t
  have hmt := h.m.t
  have hO : Hid (o.e = if (if o.k = 1 then Obj.text o.t && decide (o.es.length = 0) && o.m.empty else if o.k = 2 then decide (o.t.length = 0) && Obj.tree o.es && o.m.empty else if o.k = 3 then decide (o.t.length = 0) && decide (o.es.length = 0) && o.m.ok else false) then 0 else 8) := Lib.hid rfl
  have hM : Hid (o.m.empty = ((o.m.t == List.replicate 32 0) && decide (o.m.ps.length = 0) && decide (o.m.note = ByteArray.empty) && decide (o.m.tick = 0))) := Lib.hid rfl
  have hr := Lib.hid h.r
  have hmr := Lib.hid h.m
  obtain ⟨k, A, t, c, E, es, d, m⟩ := o
  obtain ⟨t', A', ps, c', note, tick⟩ := m
  simp only at hk0
  simp only at T1 e0 e1 e2 e35 e36 e37 RM RT hml hmt hO hM hr hmr
  clear h
  have htl := idc_len hmt
  have HE := Lib.hid (run_eqId 9998 t' (List.replicate 32 0) hmt (by simp))
  have hN : Hid (note.toList = [] ↔ note = ByteArray.empty) := by
    unfold Hid
    rw [ByteArray.toList_eq]
    constructor
    · intro h
      exact ByteArray.ext (Array.ext' (by simpa using h))
    · rintro rfl
      rfl
  generalize OM.e _ = n9 at *
  generalize OM.cells _ = cs at *
  generalize CM.empty _ = q3 at *
  generalize Obj.text t = q1 at *
  generalize (t' == List.replicate 32 0) = zt at *
  have R0 := RT.out _ V0
  have c1 := V0.at 35 e35
  have c2 := V0.at 36 e36
  have c3 := V0.at 37 e37
  go_enter Tryz.func27, Tryz.ntmps27
  go_upto_region 1 with fail
  generalize w.alloc (.cells cs.toArray 32) = w0 at *
  go_cut [3] (fun s wx => s = .bool q3 ∧ Ab w0 wx)
  case first =>
    cases zt with
    | false =>
      go_wp2_with (first
        | (refine list_ldM (o := ⟨some 8, _, _, _, _, _⟩) _ 3 (idc t') R0 infoIdT Tryz.underlying27 rfl (by kernel_rfl) _ rfl rfl htl ?_)
        | (refine list_eqB (o := ⟨some 10, _, _, _, _, _⟩) 27 27 (.tmp 8) (.tmp 9) (idc t').toArray (idc (List.replicate 32 0)).toArray false (by kernel_rfl) rfl rfl rfl (by kernel_rfl) (HE.out _) ?_))
      go_meet
      exact ⟨congrArg Value.bool (by rw [hM.out]; simp), Ab.refl _⟩
    | true =>
      by_cases p1 : ps.length = 0
      · have k1 : (ps.length : Int) = 0 := by omega
        by_cases p2 : note = ByteArray.empty
        · have k2 := hN.out.2 p2
          by_cases p3 : tick = 0
          · subst p3
            go_wp2_with (first
              | (refine list_ldM (o := ⟨some 8, _, _, _, _, _⟩) _ 3 (idc t') R0 infoIdT Tryz.underlying27 rfl (by kernel_rfl) _ rfl rfl htl ?_)
              | (refine list_eqB (o := ⟨some 10, _, _, _, _, _⟩) 27 27 (.tmp 8) (.tmp 9) (idc t').toArray (idc (List.replicate 32 0)).toArray true (by kernel_rfl) rfl rfl rfl (by kernel_rfl) (HE.out _) ?_))
            go_meet
            exact ⟨congrArg Value.bool (by rw [hM.out]; simp [p1, p2]), Ab.refl _⟩
          · skip
            go_wp2_with (first
              | (refine list_ldM (o := ⟨some 8, _, _, _, _, _⟩) _ 3 (idc t') R0 infoIdT Tryz.underlying27 rfl (by kernel_rfl) _ rfl rfl htl ?_)
              | (refine list_eqB (o := ⟨some 10, _, _, _, _, _⟩) 27 27 (.tmp 8) (.tmp 9) (idc t').toArray (idc (List.replicate 32 0)).toArray true (by kernel_rfl) rfl rfl rfl (by kernel_rfl) (HE.out _) ?_))
            go_meet
            exact ⟨congrArg Value.bool (by rw [hM.out]; simp [p1, p2, p3]), Ab.refl _⟩
        · have k2 : ¬ note.toList = [] := fun h => p2 (hN.out.1 h)
          go_wp2_with (first
            | (refine list_ldM (o := ⟨some 8, _, _, _, _, _⟩) _ 3 (idc t') R0 infoIdT Tryz.underlying27 rfl (by kernel_rfl) _ rfl rfl htl ?_)
            | (refine list_eqB (o := ⟨some 10, _, _, _, _, _⟩) 27 27 (.tmp 8) (.tmp 9) (idc t').toArray (idc (List.replicate 32 0)).toArray true (by kernel_rfl) rfl rfl rfl (by kernel_rfl) (HE.out _) ?_))
          go_meet
          exact ⟨congrArg Value.bool (by rw [hM.out]; simp [p1, p2]), Ab.refl _⟩
      · have k1 : ¬ (ps.length : Int) = 0 := by omega
        go_wp2_with (first
          | (refine list_ldM (o := ⟨some 8, _, _, _, _, _⟩) _ 3 (idc t') R0 infoIdT Tryz.underlying27 rfl (by kernel_rfl) _ rfl rfl htl ?_)
          | (refine list_eqB (o := ⟨some 10, _, _, _, _, _⟩) 27 27 (.tmp 8) (.tmp 9) (idc t').toArray (idc (List.replicate 32 0)).toArray true (by kernel_rfl) rfl rfl rfl (by kernel_rfl) (HE.out _) ?_))
        go_meet
        exact ⟨congrArg Value.bool (by rw [hM.out]; simp [p1]), Ab.refl _⟩
  obtain ⟨rfl, hbx⟩ := hcut
  rename World => w1
  have V1 := V0.ab hbx
  have b1 := b0.trans hbx
  clear V0 b0 hbx R0 c1 c2 c3 HE hN
  have c0 := V1.at 0 e0
  have c1 := V1.at 1 e1
  have c2 := V1.at 2 e2
  by_cases hk1 : k = 1
  · exact absurd hk1 (by omega)
  · have j1 : ¬ (k : Int) = 1 := by omega
    by_cases hk2 : k = 2
    · exact absurd hk2 (by omega)
    · have j2 : ¬ (k : Int) = 2 := by omega
      by_cases hk3 : k = 3
      · subst hk3
        have RM1 := RM.out w1 V1
        obtain ⟨f32, f33, f34⟩ := cells_34 ⟨t', A', ps, c', note, tick⟩ hmt
        have mo := CM.one ⟨t', A', ps, c', note, tick⟩
        simp only at f32 f33 f34
        clear RM RT
        generalize CM.cells ⟨t', A', ps, c', note, tick⟩ = ms at *
        have Z1 : VB (w1.alloc (.cells CM.zero.cells.toArray 30)) w1.heap.size CM.zero.cells := VB.box (xs := CM.zero.cells.toArray) (T := 30) (by (repeat (first | exact new_plain wnA | with_reducible refine old_alloc ?_ | with_reducible refine old_drew ?_ | with_reducible refine old_set ?_ wnA | with_reducible refine old_ab (by assumption) ?_)))
        go_upto_region 18 with (first
          | (refine list_ldM (o := ⟨some 102, _, _, _, _, _⟩) _ 3 ms RM1 infoCM Tryz.underlying30 rfl (by kernel_rfl) _ rfl rfl hml ?_)
          | (refine list_stV (o := ⟨none, _, _, _, _, _⟩) (us := ms) _ infoCM rfl _ _ rfl rfl rfl Z1 (by rw [hml]; rfl) hml mo ?_
             intro w2 h2))
        have b12 : Ab w1 w2 := h2.ab w1 abA (Nat.le_refl _)
        have V2 := V1.ab b12
        have C2 := h2.v
        have b2 := b1.trans b12
        clear c0 c1 c2 V1 Z1 RM1 h2 b12
        generalize w1.heap.size = tb at *
        have c1 := V2.at 1 e1
        have c2 := V2.at 2 e2
        have d1 := C2.at 32 f32
        have d2 := C2.at 33 f33
        have d3 := C2.at 34 f34
        by_cases h1 : t.length = 0
        · have k1 : ¬ (0 : Int) < (t.length : Int) := by omega
          by_cases h2 : es.length = 0
          · have k2 : ¬ (0 : Int) < (es.length : Int) := by omega
            by_cases p3 : ps.length ≤ 2
            · have k3 : ¬ (2 : Int) < (ps.length : Int) := by omega
              by_cases p4 : note.size ≤ 200
              · have k4 : ¬ (200 : Int) < (note.size : Int) := by omega
                by_cases p5 : 0 ≤ tick
                · have k5 : ¬ tick < 0 := by omega
                  by_cases p6 : tick ≤ 1000000
                  · have k6 : ¬ (1000000 : Int) < tick := by omega
                    go_upto_region 20 with fail
                    by_cases hp2 : ps.length = 2
                    · obtain ⟨a, b, rfl⟩ : ∃ a b, ps = [a, b] := by
                        match ps, hp2 with
                        | [a, b], _ => exact ⟨a, b, rfl⟩
                      obtain ⟨g, o, rfl, hR⟩ := hmr.out.r (by simp)
                      have ha : a.length = 32 := hmr.out.l a (by simp)
                      have hb : b.length = 32 := hmr.out.l b (by simp)
                      have Ra : w2.rangeAt g o (idc a) := fun j u hu => by
                        have := b2.at (hR 0 (by simp) j u hu)
                        rwa [Nat.zero_mul, Nat.add_zero] at this
                      have Rb : w2.rangeAt g (o + 32) (idc b) := fun j u hu => by
                        have := b2.at (hR 1 (by simp) j u hu)
                        rwa [Nat.one_mul] at this
                      have HE := run_eqId 9998 a b ha hb
                      clear hR
                      by_cases hab : a = b
                      · have hz : (a == b) = true := by simp [hab]
                        rw [hz] at HE
                        have HAB := Lib.hid hab
                        clear hab hz
                        refine wp_region_held_drew (by kernel_rfl) (S := fun w' => w'.cell? ⟨tb, 32, none⟩ = some (.slice (some ⟨g, o, none⟩) 2 c') ∧ w'.rangeAt g o (idc a) ∧ w'.rangeAt g (o + 32) (idc b)) ?_ (fun hHeld => ?_)
                        · exact ⟨cell_drew d1, fun j u hu => cell_drew (Ra j u hu), fun j u hu => cell_drew (Rb j u hu)⟩
                        (refine rtA 0 ?_ ?_
                         (try simp only [Act.put, stA, st0, st1]))
                        (refine rtA 1 ?_ ?_
                         (try simp only [Act.put, stA, st0, st1]))
                        (refine rtA 2 ?_ ?_
                         (try simp only [Act.put, stA, st0, st1]))
                        (refine rtA 3 ?_ ?_
                         (try simp only [Act.put, stA, st0, st1]))
                        (refine rtA 4 ?_ ?_
                         (try simp only [Act.put, stA, st0, st1]))
                        (refine rtA 5 ?_ ?_
                         (try simp only [Act.put, stA, st0, st1]))
                        (refine rtA 6 ?_ ?_
                         (try simp only [Act.put, stA, st0, st1]))
                        (refine rtA 7 ?_ ?_
                         (try simp only [Act.put, stA, st0, st1]))
                        (try simp only [Act.put, List.getElem_toArray, List.getElem_cons_succ, List.getElem_cons_zero, stA, st0, st1])
                        (refine rtL 8 (idc a) o (fun w hSw => hSw.2.1) Tryz.underlying27 ?_ (hz := by rw [infoIdT, idc_len (by assumption)])
                         (try simp only [Act.put, stA, st0, st1]))
                        (refine rtA 9 ?_ ?_
                         (try simp only [Act.put, stA, st0, st1]))
                        (refine rtA 10 ?_ ?_
                         (try simp only [Act.put, stA, st0, st1]))
                        (refine rtA 11 ?_ ?_
                         (try simp only [Act.put, stA, st0, st1]))
                        (try simp only [Act.put, List.getElem_toArray, List.getElem_cons_succ, List.getElem_cons_zero, stA, st0, st1])
                        (refine rtL 12 (idc b) (o + 32) (fun w hSw => hSw.2.2) Tryz.underlying27 ?_ (hz := by rw [infoIdT, idc_len (by assumption)])
                         (try simp only [Act.put, stA, st0, st1]))
                        (refine rtA 13 ?_ ?_
                         (try simp only [Act.put, stA, st0, st1]))
                        refine r1A 14 (fun K hK => ?_)
                        (go_simp
                         (refine hK.out _ _ ?_ (fun hHeld => ?_)
                          · (try dsimp only); exact ⟨cell_drew d1, fun j u hu => cell_drew (Ra j u hu), fun j u hu => cell_drew (Rb j u hu)⟩
                          clear hK K
                          (try simp only [Act.put, stA, st0, st1])))
                        refine wpAnyH_done (by kernel_rfl) ?_ _
                        have hF : Hid (n9 = 8) := by unfold Hid; rw [hO.out]; simp [CM.ok, h1, h2, p4, p5, p6, dif2, HAB.out]
                        go_wp2
                        go_ret
                        exact ⟨by rw [hF.out]; rfl, b2.trans abA⟩
                      · have hz : (a == b) = false := by simp [hab]
                        rw [hz] at HE
                        have HAB := Lib.hid hab
                        clear hab hz
                        refine wp_region_held_drew (by kernel_rfl) (S := fun w' => w'.cell? ⟨tb, 32, none⟩ = some (.slice (some ⟨g, o, none⟩) 2 c') ∧ w'.rangeAt g o (idc a) ∧ w'.rangeAt g (o + 32) (idc b)) ?_ (fun hHeld => ?_)
                        · exact ⟨cell_drew d1, fun j u hu => cell_drew (Ra j u hu), fun j u hu => cell_drew (Rb j u hu)⟩
                        (refine rtA 0 ?_ ?_
                         (try simp only [Act.put, stA, st0, st1]))
                        (refine rtA 1 ?_ ?_
                         (try simp only [Act.put, stA, st0, st1]))
                        (refine rtA 2 ?_ ?_
                         (try simp only [Act.put, stA, st0, st1]))
                        (refine rtA 3 ?_ ?_
                         (try simp only [Act.put, stA, st0, st1]))
                        (refine rtA 4 ?_ ?_
                         (try simp only [Act.put, stA, st0, st1]))
                        (refine rtA 5 ?_ ?_
                         (try simp only [Act.put, stA, st0, st1]))
                        (refine rtA 6 ?_ ?_
                         (try simp only [Act.put, stA, st0, st1]))
                        (refine rtA 7 ?_ ?_
                         (try simp only [Act.put, stA, st0, st1]))
                        (try simp only [Act.put, List.getElem_toArray, List.getElem_cons_succ, List.getElem_cons_zero, stA, st0, st1])
                        (refine rtL 8 (idc a) o (fun w hSw => hSw.2.1) Tryz.underlying27 ?_ (hz := by rw [infoIdT, idc_len (by assumption)])
                         (try simp only [Act.put, stA, st0, st1]))
                        (refine rtA 9 ?_ ?_
                         (try simp only [Act.put, stA, st0, st1]))
                        (refine rtA 10 ?_ ?_
                         (try simp only [Act.put, stA, st0, st1]))
                        (refine rtA 11 ?_ ?_
                         (try simp only [Act.put, stA, st0, st1]))
                        (try simp only [Act.put, List.getElem_toArray, List.getElem_cons_succ, List.getElem_cons_zero, stA, st0, st1])
                        (refine rtL 12 (idc b) (o + 32) (fun w hSw => hSw.2.2) Tryz.underlying27 ?_ (hz := by rw [infoIdT, idc_len (by assumption)])
                         (try simp only [Act.put, stA, st0, st1]))
                        (refine rtA 13 ?_ ?_
                         (try simp only [Act.put, stA, st0, st1]))
                        refine r1A 14 (fun K hK => ?_)
                        (go_simp
                         (refine hK.out _ _ ?_ (fun hHeld => ?_)
                          · (try dsimp only); exact ⟨cell_drew d1, fun j u hu => cell_drew (Ra j u hu), fun j u hu => cell_drew (Rb j u hu)⟩
                          clear hK K
                          (try simp only [Act.put, stA, st0, st1])))
                        refine wpAnyH_done (by kernel_rfl) ?_ _
                        have hF : Hid (n9 = 0) := by unfold Hid; rw [hO.out]; simp [CM.ok, h1, h2, p4, p5, p6, dif2, HAB.out]
                        go_wp2
                        go_ret
                        exact ⟨by rw [hF.out]; rfl, b2.trans abA⟩
                    · have hd2 : decide ((ps.length : Int) = 2) = false := decide_eq_false (by omega)
                      have H0 := Lib.hid hp2
                      have hdif : Hid (Obj.dif ps ps.length = true) := dif01 ps (by omega)
                      refine wp_region_held_drew (by kernel_rfl) (S := fun w' => w'.cell? ⟨tb, 32, none⟩ = some (.slice A' ps.length c')) ?_ (fun hHeld => ?_)
                      · exact cell_drew d1
                      (refine rtA 0 ?_ ?_
                       (try simp only [Act.put, stA, st0, st1]))
                      (refine rtA 1 ?_ ?_
                       (try simp only [Act.put, stA, st0, st1]))
                      (refine rtA 2 ?_ ?_
                       (try simp only [Act.put, stA, st0, st1]))
                      (refine rtA 3 (.bool false) ?_ (hy := by intro w hSw; go_simp; (try simp only [hd2]); (try with_reducible rfl); (try omega); (try (have h0' := H0.out; omega))); (try simp only [Act.put, stA, st0, st1]))
                      (refine rtA 4 ?_ ?_
                       (try simp only [Act.put, stA, st0, st1]))
                      (refine rtS 5 ?_
                       (try simp only [Act.put, stA, st0, st1]))
                      (refine rtS 6 ?_
                       (try simp only [Act.put, stA, st0, st1]))
                      (refine rtS 7 ?_
                       (try simp only [Act.put, stA, st0, st1]))
                      (refine rtS 8 ?_
                       (try simp only [Act.put, stA, st0, st1]))
                      (refine rtS 9 ?_
                       (try simp only [Act.put, stA, st0, st1]))
                      (refine rtS 10 ?_
                       (try simp only [Act.put, stA, st0, st1]))
                      (refine rtS 11 ?_
                       (try simp only [Act.put, stA, st0, st1]))
                      (refine rtS 12 ?_
                       (try simp only [Act.put, stA, st0, st1]))
                      (refine rtS 13 ?_
                       (try simp only [Act.put, stA, st0, st1]))
                      refine r1A 14 (fun K hK => ?_)
                      (go_simp
                       (refine hK.out _ _ ?_ (fun hHeld => ?_)
                        · (try dsimp only); exact cell_drew d1
                        clear hK K
                        (try simp only [Act.put, stA, st0, st1])))
                      refine wpAnyH_done (by kernel_rfl) ?_ _
                      have hF : Hid (n9 = 0) := by unfold Hid; rw [hO.out]; simp [CM.ok, h1, h2, p3, p4, p5, p6, hdif.out]
                      go_wp2
                      go_ret
                      exact ⟨by rw [hF.out]; rfl, b2.trans abA⟩
                  · have k6 : (1000000 : Int) < tick := by omega
                    have hF : Hid (n9 = 8) := by unfold Hid; rw [hO.out]; simp [CM.ok, h1, h2, p3, p4, p5, p6] <;> omega
                    go_wp2
                    go_ret
                    exact ⟨by rw [hF.out]; rfl, b2⟩
                · have k5 : tick < 0 := by omega
                  have hF : Hid (n9 = 8) := by unfold Hid; rw [hO.out]; simp [CM.ok, h1, h2, p3, p4, p5] <;> omega
                  go_wp2
                  go_ret
                  exact ⟨by rw [hF.out]; rfl, b2⟩
              · have k4 : (200 : Int) < (note.size : Int) := by omega
                have hF : Hid (n9 = 8) := by unfold Hid; rw [hO.out]; simp [CM.ok, h1, h2, p3, p4] <;> omega
                go_wp2
                go_ret
                exact ⟨by rw [hF.out]; rfl, b2⟩
            · have k3 : (2 : Int) < (ps.length : Int) := by omega
              have hF : Hid (n9 = 8) := by unfold Hid; rw [hO.out]; simp [CM.ok, h1, h2, p3] <;> omega
              go_wp2
              go_ret
              exact ⟨by rw [hF.out]; rfl, b2⟩
          · have k2 : (0 : Int) < (es.length : Int) := by omega
            have hF : Hid (n9 = 8) := by unfold Hid; rw [hO.out]; simp [CM.ok, h1, h2] <;> omega
            go_wp2
            go_ret
            exact ⟨by rw [hF.out]; rfl, b2⟩
        · have k1 : (0 : Int) < (t.length : Int) := by omega
          have hF : Hid (n9 = 8) := by unfold Hid; rw [hO.out]; simp [CM.ok, h1] <;> omega
          go_wp2
          go_ret
          exact ⟨by rw [hF.out]; rfl, b2⟩
      · exact absurd hk0 hk3
theorem r9check_any (o : OM) (w : World) (h : OL w o) :
    Calls Tryz.prog 27 #[.agg o.cells.toArray] w fun e w' => e = .returned (.int .i64 o.e) ∧ Ab w w' := by
  by_cases hk : o.k = 3
  · exact rcheck_3 o w h hk
  · exact rcheck9_any o w h hk
end Go.Proofs.YthfffbpcmlgoiaaGreatDoor
