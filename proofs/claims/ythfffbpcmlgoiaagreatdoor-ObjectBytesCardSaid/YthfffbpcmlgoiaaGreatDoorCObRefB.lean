/- The reference of layer 9: Check. Own work. -/
import Derived.Test.YthfffbpcmlgoiaaGreatDoorCObRefA
set_option linter.unusedVariables false
set_option linter.unusedSimpArgs false
namespace Go.Proofs.YthfffbpcmlgoiaaGreatDoor
open Go.RowKit

theorem less_irr : ∀ a : List UInt8, Op.bytesLess a a = false
  | [] => rfl
  | x :: a => by
    unfold Op.bytesLess
    rw [less_irr a]
    simp
theorem less_total : ∀ a b : List UInt8, (!(Op.bytesLess a b)) = (Op.bytesLess b a || b == a)
  | [], [] => rfl
  | [], y :: b => by simp [Op.bytesLess]
  | x :: a, [] => by simp [Op.bytesLess]
  | x :: a, y :: b => by
    have ih := less_total a b
    unfold Op.bytesLess
    by_cases h : x = y
    · subst h
      have hx : ¬ x < x := by rw [UInt8.lt_iff_toNat_lt]; omega
      simp only [hx, decide_false, Bool.false_or, beq_self_eq_true, Bool.true_and]
      rw [ih]
      simp
    · have h' : ¬ y = x := fun e => h e.symm
      by_cases hl : x < y
      · have hg : ¬ y < x := by rw [UInt8.lt_iff_toNat_lt] at *; omega
        simp [hl, hg, h, h']
      · have hg : y < x := by
          rw [UInt8.lt_iff_toNat_lt] at *
          have : x.toNat ≠ y.toNat := fun e => h (UInt8.toNat_inj.1 e)
          omega
        simp [hl, hg, h, h']
theorem cells_o (o : OM) (h : o.m.t.length = 32) : o.cells[35]? = some (.slice o.m.A o.m.ps.length o.m.c) ∧ o.cells[36]? = some (.string o.m.note) ∧ o.cells[37]? = some (.int .i64 o.m.tick) := cells_34 o.m h
theorem dif2 (a b : List UInt8) : Obj.dif [a, b] 2 = !(a == b) := by
  by_cases h : a = b
  · subst h; simp [Obj.dif, List.range_succ]
  · have h' : ¬ b = a := fun e => h e.symm
    simp [Obj.dif, List.range_succ, h, h']
theorem dif01 (ps : List (List UInt8)) (h : ps.length ≤ 1) : Hid (Obj.dif ps ps.length = true) := by
  unfold Hid
  match ps, h with
  | [], _ => rfl
  | [a], _ => simp [Obj.dif, List.range_succ]
theorem rpathB_any (s : ByteArray) (w : World) : Calls Tryz.prog 57 #[.string s] w fun e w' => e = .returned (.bool (Obj.path s.data.toList)) ∧ Ab w w' := by
  have := rpath_any s.data.toList w
  have e : (⟨s.data.toList.toArray⟩ : ByteArray) = s := by simp
  rw [e] at this
  exact this
set_option maxRecDepth 100000 in
set_option maxHeartbeats 4000000 in
theorem rcheck9_any (o : OM) (w : World) (h : OL w o) (hno3 : o.k ≠ 3) :
    Calls Tryz.prog 27 #[.agg o.cells.toArray] w fun e w' => e = .returned (.int .i64 o.e) ∧ Ab w w' := by
  have V0 : VB (w.alloc (.cells o.cells.toArray 32)) w.heap.size o.cells := VB.box (xs := o.cells.toArray) (T := 32) (by (repeat (first | exact new_plain wnA | with_reducible refine old_alloc ?_ | with_reducible refine old_drew ?_ | with_reducible refine old_set ?_ wnA | with_reducible refine old_ab (by assumption) ?_)))
  have b0 : Ab w (w.alloc (.cells o.cells.toArray 32)) := abA
  have T1 := fun w' (hk : Ab w w') => rtext_any o.A o.t o.c w' (h.b.ab hk) h.c h.c'
  have e0 : o.cells[0]? = some (.int .u8 (o.k : Int)) := rfl
  have e1 : o.cells[1]? = some (.slice o.A o.t.length o.c) := rfl
  have e2 : o.cells[2]? = some (.slice o.E o.es.length o.d) := rfl
  obtain ⟨e35, e36, e37⟩ := cells_o o h.m.t
  have RM := Lib.hid (fun (w' : World) (k : VB w' w.heap.size o.cells) => range_m k)
  have RT := Lib.hid (fun (w' : World) (k : VB w' w.heap.size o.cells) => cells_t o.m h.m.t (range_m k))
  have hml := CM.len h.m.t
  have hmt := h.m.t
  have hO : Hid (o.e = if (if o.k = 1 then Obj.text o.t && decide (o.es.length = 0) && o.m.empty else if o.k = 2 then decide (o.t.length = 0) && Obj.tree o.es && o.m.empty else if o.k = 3 then decide (o.t.length = 0) && decide (o.es.length = 0) && o.m.ok else false) then 0 else 8) := Lib.hid rfl
  have hM : Hid (o.m.empty = ((o.m.t == List.replicate 32 0) && decide (o.m.ps.length = 0) && decide (o.m.note = ByteArray.empty) && decide (o.m.tick = 0))) := Lib.hid rfl
  have hr := Lib.hid h.r
  have hmr := Lib.hid h.m
  obtain ⟨k, A, t, c, E, es, d, m⟩ := o
  obtain ⟨t', A', ps, c', note, tick⟩ := m
  simp only at hno3
  simp only at T1 e0 e1 e2 e35 e36 e37 RM RT hml hmt hO hM hr hmr
  clear h
  have htl := idc_len hmt
  have HE := Lib.hid (run_eqId 9998 t' (List.replicate 32 0) hmt (by simp))
  have hN : Hid (note.toList = [] ↔ note = ByteArray.empty) := by
    unfold Hid
    rw [ByteArray.toList_eq]
    constructor
    · intro h
      exact ByteArray.ext (Array.ext' (by simpa using h))
    · rintro rfl
      rfl
  generalize OM.e _ = n9 at *
  generalize OM.cells _ = cs at *
  generalize CM.empty _ = q3 at *
  generalize Obj.text t = q1 at *
  generalize (t' == List.replicate 32 0) = zt at *
  have R0 := RT.out _ V0
  have c1 := V0.at 35 e35
  have c2 := V0.at 36 e36
  have c3 := V0.at 37 e37
  go_enter Tryz.func27, Tryz.ntmps27
  go_upto_region 1 with fail
  generalize w.alloc (.cells cs.toArray 32) = w0 at *
  go_cut [3] (fun s wx => s = .bool q3 ∧ Ab w0 wx)
  case first =>
    cases zt with
    | false =>
      go_wp2_with (first
        | (refine list_ldM (o := ⟨some 8, _, _, _, _, _⟩) _ 3 (idc t') R0 infoIdT Tryz.underlying27 rfl (by kernel_rfl) _ rfl rfl htl ?_)
        | (refine list_eqB (o := ⟨some 10, _, _, _, _, _⟩) 27 27 (.tmp 8) (.tmp 9) (idc t').toArray (idc (List.replicate 32 0)).toArray false (by kernel_rfl) rfl rfl rfl (by kernel_rfl) (HE.out _) ?_))
      go_meet
      exact ⟨congrArg Value.bool (by rw [hM.out]; simp), Ab.refl _⟩
    | true =>
      by_cases p1 : ps.length = 0
      · have k1 : (ps.length : Int) = 0 := by omega
        by_cases p2 : note = ByteArray.empty
        · have k2 := hN.out.2 p2
          by_cases p3 : tick = 0
          · subst p3
            go_wp2_with (first
              | (refine list_ldM (o := ⟨some 8, _, _, _, _, _⟩) _ 3 (idc t') R0 infoIdT Tryz.underlying27 rfl (by kernel_rfl) _ rfl rfl htl ?_)
              | (refine list_eqB (o := ⟨some 10, _, _, _, _, _⟩) 27 27 (.tmp 8) (.tmp 9) (idc t').toArray (idc (List.replicate 32 0)).toArray true (by kernel_rfl) rfl rfl rfl (by kernel_rfl) (HE.out _) ?_))
            go_meet
            exact ⟨congrArg Value.bool (by rw [hM.out]; simp [p1, p2]), Ab.refl _⟩
          · skip
            go_wp2_with (first
              | (refine list_ldM (o := ⟨some 8, _, _, _, _, _⟩) _ 3 (idc t') R0 infoIdT Tryz.underlying27 rfl (by kernel_rfl) _ rfl rfl htl ?_)
              | (refine list_eqB (o := ⟨some 10, _, _, _, _, _⟩) 27 27 (.tmp 8) (.tmp 9) (idc t').toArray (idc (List.replicate 32 0)).toArray true (by kernel_rfl) rfl rfl rfl (by kernel_rfl) (HE.out _) ?_))
            go_meet
            exact ⟨congrArg Value.bool (by rw [hM.out]; simp [p1, p2, p3]), Ab.refl _⟩
        · have k2 : ¬ note.toList = [] := fun h => p2 (hN.out.1 h)
          go_wp2_with (first
            | (refine list_ldM (o := ⟨some 8, _, _, _, _, _⟩) _ 3 (idc t') R0 infoIdT Tryz.underlying27 rfl (by kernel_rfl) _ rfl rfl htl ?_)
            | (refine list_eqB (o := ⟨some 10, _, _, _, _, _⟩) 27 27 (.tmp 8) (.tmp 9) (idc t').toArray (idc (List.replicate 32 0)).toArray true (by kernel_rfl) rfl rfl rfl (by kernel_rfl) (HE.out _) ?_))
          go_meet
          exact ⟨congrArg Value.bool (by rw [hM.out]; simp [p1, p2]), Ab.refl _⟩
      · have k1 : ¬ (ps.length : Int) = 0 := by omega
        go_wp2_with (first
          | (refine list_ldM (o := ⟨some 8, _, _, _, _, _⟩) _ 3 (idc t') R0 infoIdT Tryz.underlying27 rfl (by kernel_rfl) _ rfl rfl htl ?_)
          | (refine list_eqB (o := ⟨some 10, _, _, _, _, _⟩) 27 27 (.tmp 8) (.tmp 9) (idc t').toArray (idc (List.replicate 32 0)).toArray true (by kernel_rfl) rfl rfl rfl (by kernel_rfl) (HE.out _) ?_))
        go_meet
        exact ⟨congrArg Value.bool (by rw [hM.out]; simp [p1]), Ab.refl _⟩
  obtain ⟨rfl, hbx⟩ := hcut
  rename World => w1
  have V1 := V0.ab hbx
  have b1 := b0.trans hbx
  clear V0 b0 hbx R0 c1 c2 c3 HE hN
  have c0 := V1.at 0 e0
  have c1 := V1.at 1 e1
  have c2 := V1.at 2 e2
  by_cases hk1 : k = 1
  · subst hk1
    cases q3 with
    | false =>
      have hF : Hid (n9 = 8) := by unfold Hid; rw [hO.out]; simp
      go_wp2
      go_ret
      exact ⟨by rw [hF.out]; rfl, b1⟩
    | true =>
      by_cases h2 : es.length = 0
      · have k2 : ¬ (0 : Int) < (es.length : Int) := by omega
        go_wp2_with fail
        refine (T1 _ b1).mono ?_
        rintro e w3 ⟨rfl, hb3⟩
        have b3 := b1.trans hb3
        cases q1 with
        | false =>
          have hF : Hid (n9 = 8) := by unfold Hid; rw [hO.out]; simp [h2]
          go_wp2
          go_ret
          exact ⟨by rw [hF.out]; rfl, b3⟩
        | true =>
          have hF : Hid (n9 = 0) := by unfold Hid; rw [hO.out]; simp [h2]
          go_wp2
          go_ret
          exact ⟨by rw [hF.out]; rfl, b3⟩
      · have k2 : (0 : Int) < (es.length : Int) := by omega
        have hF : Hid (n9 = 8) := by unfold Hid; rw [hO.out]; simp [h2]
        go_wp2
        go_ret
        exact ⟨by rw [hF.out]; rfl, b1⟩
  · have j1 : ¬ (k : Int) = 1 := by omega
    by_cases hk2 : k = 2
    · subst hk2
      cases q3 with
      | false =>
        have hF : Hid (n9 = 8) := by unfold Hid; rw [hO.out]; simp
        go_wp2
        go_ret
        exact ⟨by rw [hF.out]; rfl, b1⟩
      | true =>
        by_cases h1 : t.length = 0
        · have k1 : ¬ (0 : Int) < (t.length : Int) := by omega
          by_cases h12 : es.length ≤ 12
          · have k12 : ¬ (12 : Int) < (es.length : Int) := by omega
            rw [show (if (if (2 : Nat) = 1 then q1 && decide (es.length = 0) && true else if (2 : Nat) = 2 then decide (t.length = 0) && Obj.tree es && true else if (2 : Nat) = 3 then decide (t.length = 0) && decide (es.length = 0) && CM.ok ⟨t', A', ps, c', note, tick⟩ else false) then (0 : Int) else 8) = if Obj.tree es then 0 else 8 from by simp [h1]] at hO
            go_wp2_with fail
            go_loopw [4] (fun i w' => ∃ k : Nat, k ≤ es.length ∧ i = .int .i64 k ∧ Hid (Obj.ents es k = true) ∧ Ab w w' ∧ Ab w1 w') (fun i _ => es.length - (intOf i).toNat)
            case atStart => exact ⟨0, Nat.zero_le _, rfl, rfl, b1, abA⟩
            case round =>
              obtain ⟨k, hk, rfl, hA, hb, b1'⟩ := hrel
              rename World => w5
              have cE' := (V1.ab b1').at 2 e2
              by_cases hlt : k < es.length
              · have hT : (k : Int) < es.length := by omega
                obtain ⟨g, o, rfl, hR⟩ := hr.out (by simp; omega)
                have cE := cE'
                clear cE'
                have hR1 := hR k (by simpa using hlt) 0 (.string es[k].p) (by rw [List.getElem_map]; rfl)
                have cX := hb.at hR1
                rw [Nat.add_zero] at cX
                have P1 : 0 < k → w5.cell? ⟨g, o + (k - 1) * 33, none⟩ = some (.string (es[k - 1]'(by omega)).p) := fun h0 => by
                  have := hR (k - 1) (by simp; omega) 0 (.string (es[k - 1]'(by omega)).p) (by rw [List.getElem_map]; rfl)
                  exact hb.at this
                have hS : Hid (Obj.ents es (k + 1) = (Obj.path es[k].p.data.toList && (decide (k = 0) || Obj.bef (es[k - 1]'(by omega)).p es[k].p))) := by
                  unfold Hid
                  rw [Obj.ents_succ, hA.out]
                  unfold Obj.ent
                  rw [List.getD_eq_getElem?_getD, List.getElem?_eq_getElem hlt, List.getD_eq_getElem?_getD, List.getElem?_eq_getElem (by omega)]
                  rfl
                have hD : Hid (Obj.ents es (k + 1) = false → Obj.ents es es.length = false) := fun h => Obj.ents_le es (k + 1) _ (by omega) h
                have IP := Lib.hid (fun w' => rpathB_any es[k].p w')
                generalize es[k] = x at *
                clear hR hR1 hA
                generalize Obj.path x.p.data.toList = q at *
                go_upto_region 13 with fail
                by_cases h0 : k = 0
                · have n0 : ¬ (0 : Int) < (k : Int) := by omega
                  have hd : decide ((0 : Int) < (k : Int)) = false := decide_eq_false n0
                  have H0 := Lib.hid h0
                  clear n0 h0
                  refine wp_region_held_drew (by kernel_rfl) (S := fun w' => w'.cell? ⟨w.heap.size, 2, none⟩ = some (.slice (some ⟨g, o, none⟩) es.length d) ∧ w'.cell? ⟨g, o + k * 33, none⟩ = some (.string x.p)) ?_ (fun hHeld => ?_)
                  · exact ⟨cell_drew cE, cell_drew cX⟩
                  (refine rtA 0 ?_ ?_
                   (try simp only [Act.put, stA, st0, st1]))
                  (refine rtA 1 ?_ ?_
                   (try simp only [Act.put, stA, st0, st1]))
                  (refine rtA 2 ?_ ?_
                   (try simp only [Act.put, stA, st0, st1]))
                  (refine rtA 3 ?_ ?_
                   (try simp only [Act.put, stA, st0, st1]))
                  (refine rtA 4 ?_ ?_
                   (try simp only [Act.put, stA, st0, st1]))
                  (refine rtA 5 ?_ ?_
                   (try simp only [Act.put, stA, st0, st1]))
                  refine r1A 6 (fun K hK => ?_)
                  (go_simp
                   (refine (IP.out _).mono ?_; rintro e w3 ⟨rfl, hb3⟩)
                   (try go_wp2_with fail)
                   (refine hK.out _ _ ?_ (fun hHeld => ?_)
                    · (try dsimp only); exact ⟨hb3.at (cell_drew cE), hb3.at (cell_drew cX)⟩
                    clear hK K
                    (try simp only [Act.put, stA, st0, st1])))
                  have b3 : Ab w w3 := hb.trans (Ab.trans (by exact abA) hb3)
                  (refine rtA 7 ?_ ?_
                   (try simp only [Act.put, stA, st0, st1]))
                  (refine rtA 8 ?_ ?_
                   (try simp only [Act.put, stA, st0, st1]))
                  cases q with
                  | false =>
                    (refine rtS 9 ?_
                     (try simp only [Act.put, stA, st0, st1]))
                    (refine rtS 10 ?_
                     (try simp only [Act.put, stA, st0, st1]))
                    (refine rtS 11 ?_
                     (try simp only [Act.put, stA, st0, st1]))
                    (refine rtS 12 ?_
                     (try simp only [Act.put, stA, st0, st1]))
                    (refine rtS 13 ?_
                     (try simp only [Act.put, stA, st0, st1]))
                    (refine rtS 14 ?_
                     (try simp only [Act.put, stA, st0, st1]))
                    (refine rtS 15 ?_
                     (try simp only [Act.put, stA, st0, st1]))
                    (refine rtS 16 ?_
                     (try simp only [Act.put, stA, st0, st1]))
                    (refine rtS 17 ?_
                     (try simp only [Act.put, stA, st0, st1]))
                    (refine rtS 18 ?_
                     (try simp only [Act.put, stA, st0, st1]))
                    (refine rtS 19 ?_
                     (try simp only [Act.put, stA, st0, st1]))
                    (refine rtS 20 ?_
                     (try simp only [Act.put, stA, st0, st1]))
                    (refine rtS 21 ?_
                     (try simp only [Act.put, stA, st0, st1]))
                    (refine rtS 22 ?_
                     (try simp only [Act.put, stA, st0, st1]))
                    (refine rtS 23 ?_
                     (try simp only [Act.put, stA, st0, st1]))
                    (refine rtS 24 ?_
                     (try simp only [Act.put, stA, st0, st1]))
                    (refine rtS 25 ?_
                     (try simp only [Act.put, stA, st0, st1]))
                    (refine rtS 26 ?_
                     (try simp only [Act.put, stA, st0, st1]))
                    refine r1A 27 (fun K hK => ?_)
                    (go_simp
                     (refine hK.out _ _ ?_ (fun hHeld => ?_)
                      · (try dsimp only); exact ⟨hb3.at (cell_drew cE), hb3.at (cell_drew cX)⟩
                      clear hK K
                      (try simp only [Act.put, stA, st0, st1])))
                    refine wpAnyH_done (by kernel_rfl) ?_ _
                    have hF : Hid (Obj.ents es es.length = false) := hD.out (by rw [hS.out]; simp)
                    have hF9 : Hid (n9 = 8) := by unfold Hid; rw [hO.out]; simp [Obj.tree, hF.out]
                    go_wp2
                    go_ret
                    exact ⟨by rw [hF9.out]; rfl, b3⟩
                  | true =>
                    (refine rtA 9 ?_ ?_
                     (try simp only [Act.put, stA, st0, st1]))
                    (refine rtA 10 (.bool false) ?_ (hy := by intro w hSw; go_simp; (try simp only [hd]); (try with_reducible rfl); (try omega); (try (have h0' := H0.out; omega))); (try simp only [Act.put, stA, st0, st1]))
                    (refine rtA 11 ?_ ?_
                     (try simp only [Act.put, stA, st0, st1]))
                    (refine rtS 12 ?_
                     (try simp only [Act.put, stA, st0, st1]))
                    (refine rtS 13 ?_
                     (try simp only [Act.put, stA, st0, st1]))
                    (refine rtS 14 ?_
                     (try simp only [Act.put, stA, st0, st1]))
                    (refine rtS 15 ?_
                     (try simp only [Act.put, stA, st0, st1]))
                    (refine rtS 16 ?_
                     (try simp only [Act.put, stA, st0, st1]))
                    (refine rtS 17 ?_
                     (try simp only [Act.put, stA, st0, st1]))
                    (refine rtS 18 ?_
                     (try simp only [Act.put, stA, st0, st1]))
                    (refine rtS 19 ?_
                     (try simp only [Act.put, stA, st0, st1]))
                    (refine rtS 20 ?_
                     (try simp only [Act.put, stA, st0, st1]))
                    (refine rtS 21 ?_
                     (try simp only [Act.put, stA, st0, st1]))
                    (refine rtS 22 ?_
                     (try simp only [Act.put, stA, st0, st1]))
                    (refine rtS 23 ?_
                     (try simp only [Act.put, stA, st0, st1]))
                    (refine rtS 24 ?_
                     (try simp only [Act.put, stA, st0, st1]))
                    (refine rtS 25 ?_
                     (try simp only [Act.put, stA, st0, st1]))
                    refine r1A 26 (fun K hK => ?_)
                    (go_simp
                     (refine hK.out _ _ ?_ (fun hHeld => ?_)
                      · (try dsimp only); exact ⟨hb3.at (cell_drew cE), hb3.at (cell_drew cX)⟩
                      clear hK K
                      (try simp only [Act.put, stA, st0, st1])))
                    refine r1A 27 (fun K hK => ?_)
                    (go_simp
                     (refine hK.out _ _ ?_ (fun hHeld => ?_)
                      · (try dsimp only); exact ⟨hb3.at (cell_drew cE), hb3.at (cell_drew cX)⟩
                      clear hK K
                      (try simp only [Act.put, stA, st0, st1])))
                    refine wpAnyH_done (by kernel_rfl) ?_ _
                    have hF : Hid (Obj.ents es (k + 1) = true) := by unfold Hid; rw [hS.out]; simp [H0.out]
                    go_wp2
                    go_roundw
                    case rel => exact ⟨k + 1, by omega, by go_num, hF, b3, b1'.trans (Ab.trans (by exact abA) hb3)⟩
                    case measure => simp [intOf] <;> omega
                · have P2 := P1 (by omega)
                  have n0 : (0 : Int) < (k : Int) := by omega
                  have hd : decide ((0 : Int) < (k : Int)) = true := decide_eq_true n0
                  clear n0
                  have n1 : ((k : Int) - 1).toNat = k - 1 := by omega
                  have n5 : 1 ≤ (k : Int) := by omega
                  have n2 : 0 ≤ (k : Int) - 1 := by omega
                  have n3 : (k : Int) - 1 < (es.length : Int) := by omega
                  have n4 : IntKind.i64.wrap ((k : Int) - 1) = (k : Int) - 1 := IntWalk.i64_in _ (by omega)
                  generalize (es[k - 1]'(by omega)).p = y at *
                  refine wp_region_held_drew (by kernel_rfl) (S := fun w' => w'.cell? ⟨w.heap.size, 2, none⟩ = some (.slice (some ⟨g, o, none⟩) es.length d) ∧ w'.cell? ⟨g, o + k * 33, none⟩ = some (.string x.p) ∧ w'.cell? ⟨g, o + (k - 1) * 33, none⟩ = some (.string y)) ?_ (fun hHeld => ?_)
                  · exact ⟨cell_drew cE, cell_drew cX, cell_drew P2⟩
                  (refine rtA 0 ?_ ?_
                   (try simp only [Act.put, stA, st0, st1]))
                  (refine rtA 1 ?_ ?_
                   (try simp only [Act.put, stA, st0, st1]))
                  (refine rtA 2 ?_ ?_
                   (try simp only [Act.put, stA, st0, st1]))
                  (refine rtA 3 ?_ ?_
                   (try simp only [Act.put, stA, st0, st1]))
                  (refine rtA 4 ?_ ?_
                   (try simp only [Act.put, stA, st0, st1]))
                  (refine rtA 5 ?_ ?_
                   (try simp only [Act.put, stA, st0, st1]))
                  refine r1A 6 (fun K hK => ?_)
                  (go_simp
                   (refine (IP.out _).mono ?_; rintro e w3 ⟨rfl, hb3⟩)
                   (try go_wp2_with fail)
                   (refine hK.out _ _ ?_ (fun hHeld => ?_)
                    · (try dsimp only); exact ⟨hb3.at (cell_drew cE), hb3.at (cell_drew cX), hb3.at (cell_drew P2)⟩
                    clear hK K
                    (try simp only [Act.put, stA, st0, st1])))
                  have b3 : Ab w w3 := hb.trans (Ab.trans (by exact abA) hb3)
                  (refine rtA 7 ?_ ?_
                   (try simp only [Act.put, stA, st0, st1]))
                  (refine rtA 8 ?_ ?_
                   (try simp only [Act.put, stA, st0, st1]))
                  cases q with
                  | false =>
                    (refine rtS 9 ?_
                     (try simp only [Act.put, stA, st0, st1]))
                    (refine rtS 10 ?_
                     (try simp only [Act.put, stA, st0, st1]))
                    (refine rtS 11 ?_
                     (try simp only [Act.put, stA, st0, st1]))
                    (refine rtS 12 ?_
                     (try simp only [Act.put, stA, st0, st1]))
                    (refine rtS 13 ?_
                     (try simp only [Act.put, stA, st0, st1]))
                    (refine rtS 14 ?_
                     (try simp only [Act.put, stA, st0, st1]))
                    (refine rtS 15 ?_
                     (try simp only [Act.put, stA, st0, st1]))
                    (refine rtS 16 ?_
                     (try simp only [Act.put, stA, st0, st1]))
                    (refine rtS 17 ?_
                     (try simp only [Act.put, stA, st0, st1]))
                    (refine rtS 18 ?_
                     (try simp only [Act.put, stA, st0, st1]))
                    (refine rtS 19 ?_
                     (try simp only [Act.put, stA, st0, st1]))
                    (refine rtS 20 ?_
                     (try simp only [Act.put, stA, st0, st1]))
                    (refine rtS 21 ?_
                     (try simp only [Act.put, stA, st0, st1]))
                    (refine rtS 22 ?_
                     (try simp only [Act.put, stA, st0, st1]))
                    (refine rtS 23 ?_
                     (try simp only [Act.put, stA, st0, st1]))
                    (refine rtS 24 ?_
                     (try simp only [Act.put, stA, st0, st1]))
                    (refine rtS 25 ?_
                     (try simp only [Act.put, stA, st0, st1]))
                    (refine rtS 26 ?_
                     (try simp only [Act.put, stA, st0, st1]))
                    refine r1A 27 (fun K hK => ?_)
                    (go_simp
                     (refine hK.out _ _ ?_ (fun hHeld => ?_)
                      · (try dsimp only); exact ⟨hb3.at (cell_drew cE), hb3.at (cell_drew cX), hb3.at (cell_drew P2)⟩
                      clear hK K
                      (try simp only [Act.put, stA, st0, st1])))
                    refine wpAnyH_done (by kernel_rfl) ?_ _
                    have hF : Hid (Obj.ents es es.length = false) := hD.out (by rw [hS.out]; simp)
                    have hF9 : Hid (n9 = 8) := by unfold Hid; rw [hO.out]; simp [Obj.tree, hF.out]
                    go_wp2
                    go_ret
                    exact ⟨by rw [hF9.out]; rfl, b3⟩
                  | true =>
                    cases hz : Obj.bef y x.p with
                    | false =>
                      have hz' : (Op.bytesLess x.p.toList y.toList || x.p.toList == y.toList) = true := by rw [← less_total]; rw [show Op.bytesLess y.toList x.p.toList = false from hz]; rfl
                      (refine rtA 9 ?_ ?_
                       (try simp only [Act.put, stA, st0, st1]))
                      (refine rtA 10 (.bool true) ?_ (hy := by intro w hSw; go_simp; (try simp only [hd]); (try with_reducible rfl); (try omega); (try (have h0' := H0.out; omega))); (try simp only [Act.put, stA, st0, st1]))
                      (refine rtA 11 ?_ ?_
                       (try simp only [Act.put, stA, st0, st1]))
                      (refine rtA 12 ?_ ?_
                       (try simp only [Act.put, stA, st0, st1]))
                      (refine rtA 13 ?_ ?_
                       (try simp only [Act.put, stA, st0, st1]))
                      (refine rtA 14 ?_ ?_
                       (try simp only [Act.put, stA, st0, st1]))
                      (refine rtA 15 ?_ ?_
                       (try simp only [Act.put, stA, st0, st1]))
                      (refine rtA 16 ?_ ?_
                       (try simp only [Act.put, stA, st0, st1]))
                      (refine rtA 17 ?_ ?_
                       (try simp only [Act.put, stA, st0, st1]))
                      (refine rtA 18 ?_ ?_
                       (try simp only [Act.put, stA, st0, st1]))
                      (refine rtA 19 ?_ ?_
                       (try simp only [Act.put, stA, st0, st1]))
                      (refine rtA 20 ?_ ?_
                       (try simp only [Act.put, stA, st0, st1]))
                      (refine rtA 21 ?_ ?_
                       (try simp only [Act.put, stA, st0, st1]))
                      (refine rtA 22 ?_ ?_
                       (try simp only [Act.put, stA, st0, st1]))
                      (refine rtA 23 ?_ ?_
                       (try simp only [Act.put, stA, st0, st1]))
                      (refine rtA 24 ?_ ?_
                       (try simp only [Act.put, stA, st0, st1]))
                      (refine rtA 25 (.bool true) ?_ (hy := by intro w hSw; go_simp; (try simp only [hz']); (try with_reducible rfl); (try omega); (try (have h0' := H0.out; omega))); (try simp only [Act.put, stA, st0, st1]))
                      refine r1A 26 (fun K hK => ?_)
                      (go_simp
                       (refine hK.out _ _ ?_ (fun hHeld => ?_)
                        · (try dsimp only); exact ⟨hb3.at (cell_drew cE), hb3.at (cell_drew cX), hb3.at (cell_drew P2)⟩
                        clear hK K
                        (try simp only [Act.put, stA, st0, st1])))
                      refine r1A 27 (fun K hK => ?_)
                      (go_simp
                       (refine hK.out _ _ ?_ (fun hHeld => ?_)
                        · (try dsimp only); exact ⟨hb3.at (cell_drew cE), hb3.at (cell_drew cX), hb3.at (cell_drew P2)⟩
                        clear hK K
                        (try simp only [Act.put, stA, st0, st1])))
                      refine wpAnyH_done (by kernel_rfl) ?_ _
                      have hF : Hid (Obj.ents es es.length = false) := hD.out (by rw [hS.out]; simp [h0, hz])
                      have hF9 : Hid (n9 = 8) := by unfold Hid; rw [hO.out]; simp [Obj.tree, hF.out]
                      go_wp2
                      go_ret
                      exact ⟨by rw [hF9.out]; rfl, b3⟩
                    | true =>
                      have hz' : (Op.bytesLess x.p.toList y.toList || x.p.toList == y.toList) = false := by rw [← less_total]; rw [show Op.bytesLess y.toList x.p.toList = true from hz]; rfl
                      (refine rtA 9 ?_ ?_
                       (try simp only [Act.put, stA, st0, st1]))
                      (refine rtA 10 (.bool true) ?_ (hy := by intro w hSw; go_simp; (try simp only [hd]); (try with_reducible rfl); (try omega); (try (have h0' := H0.out; omega))); (try simp only [Act.put, stA, st0, st1]))
                      (refine rtA 11 ?_ ?_
                       (try simp only [Act.put, stA, st0, st1]))
                      (refine rtA 12 ?_ ?_
                       (try simp only [Act.put, stA, st0, st1]))
                      (refine rtA 13 ?_ ?_
                       (try simp only [Act.put, stA, st0, st1]))
                      (refine rtA 14 ?_ ?_
                       (try simp only [Act.put, stA, st0, st1]))
                      (refine rtA 15 ?_ ?_
                       (try simp only [Act.put, stA, st0, st1]))
                      (refine rtA 16 ?_ ?_
                       (try simp only [Act.put, stA, st0, st1]))
                      (refine rtA 17 ?_ ?_
                       (try simp only [Act.put, stA, st0, st1]))
                      (refine rtA 18 ?_ ?_
                       (try simp only [Act.put, stA, st0, st1]))
                      (refine rtA 19 ?_ ?_
                       (try simp only [Act.put, stA, st0, st1]))
                      (refine rtA 20 ?_ ?_
                       (try simp only [Act.put, stA, st0, st1]))
                      (refine rtA 21 ?_ ?_
                       (try simp only [Act.put, stA, st0, st1]))
                      (refine rtA 22 ?_ ?_
                       (try simp only [Act.put, stA, st0, st1]))
                      (refine rtA 23 ?_ ?_
                       (try simp only [Act.put, stA, st0, st1]))
                      (refine rtA 24 ?_ ?_
                       (try simp only [Act.put, stA, st0, st1]))
                      (refine rtA 25 (.bool false) ?_ (hy := by intro w hSw; go_simp; (try simp only [hz']); (try with_reducible rfl); (try omega); (try (have h0' := H0.out; omega))); (try simp only [Act.put, stA, st0, st1]))
                      refine r1A 26 (fun K hK => ?_)
                      (go_simp
                       (refine hK.out _ _ ?_ (fun hHeld => ?_)
                        · (try dsimp only); exact ⟨hb3.at (cell_drew cE), hb3.at (cell_drew cX), hb3.at (cell_drew P2)⟩
                        clear hK K
                        (try simp only [Act.put, stA, st0, st1])))
                      refine r1A 27 (fun K hK => ?_)
                      (go_simp
                       (refine hK.out _ _ ?_ (fun hHeld => ?_)
                        · (try dsimp only); exact ⟨hb3.at (cell_drew cE), hb3.at (cell_drew cX), hb3.at (cell_drew P2)⟩
                        clear hK K
                        (try simp only [Act.put, stA, st0, st1])))
                      refine wpAnyH_done (by kernel_rfl) ?_ _
                      have hF : Hid (Obj.ents es (k + 1) = true) := by unfold Hid; rw [hS.out]; simp [h0, hz]
                      go_wp2
                      go_roundw
                      case rel => exact ⟨k + 1, by omega, by go_num, hF, b3, b1'.trans (Ab.trans (by exact abA) hb3)⟩
                      case measure => simp [intOf] <;> omega
              · obtain rfl : k = es.length := by omega
                have hF9 : Hid (n9 = 0) := by unfold Hid; rw [hO.out]; simp [Obj.tree, h12, hA.out]
                go_wp2
                go_ret
                exact ⟨by rw [hF9.out]; rfl, hb⟩
          · have k12 : (12 : Int) < (es.length : Int) := by omega
            have hF : Hid (n9 = 8) := by unfold Hid; rw [hO.out]; simp [Obj.tree, h12]
            go_wp2
            go_ret
            exact ⟨by rw [hF.out]; rfl, b1⟩
        · have k1 : (0 : Int) < (t.length : Int) := by omega
          have hF : Hid (n9 = 8) := by unfold Hid; rw [hO.out]; simp [h1]
          go_wp2
          go_ret
          exact ⟨by rw [hF.out]; rfl, b1⟩
    · have j2 : ¬ (k : Int) = 2 := by omega
      by_cases hk3 : k = 3
      · subst hk3
        exact absurd rfl hno3
      · have j3 : ¬ (k : Int) = 3 := by omega
        have hF : Hid (n9 = 8) := by unfold Hid; rw [hO.out]; simp [hk1, hk2, hk3]
        go_wp2
        go_ret
        exact ⟨by rw [hF.out]; rfl, b1⟩
end Go.Proofs.YthfffbpcmlgoiaaGreatDoor
