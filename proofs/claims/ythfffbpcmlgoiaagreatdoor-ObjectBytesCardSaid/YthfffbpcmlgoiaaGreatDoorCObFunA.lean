/- Names sought among names. Own work. -/
import Derived.Test.YthfffbpcmlgoiaaGreatDoorCObMem
import Derived.Deep.DeepCutAuto
import Derived.Deep.QuietTactic
import Derived.BigQuiet
set_option linter.unusedVariables false
set_option linter.unusedSimpArgs false
namespace Go.Proofs.YthfffbpcmlgoiaaGreatDoor
open Go.RowKit

/-- The place of a name, counted from k on, or -1. -/
def Obj.fnd : List (List UInt8) → List UInt8 → Nat → Int
  | [], _, _ => -1
  | p :: ps, v, k => if p = v then (k : Int) else Obj.fnd ps v (k + 1)
theorem Obj.fnd_mem : ∀ (ps : List (List UInt8)) (v : List UInt8) (k : Nat), decide (0 ≤ Obj.fnd ps v k) = ps.contains v
  | [], v, k => rfl
  | p :: ps, v, k => by
    unfold Obj.fnd
    by_cases h : p = v
    · subst h; simp
    · rw [if_neg h, Obj.fnd_mem ps v (k + 1)]
      have h' : ¬ v = p := fun e => h e.symm
      simp [h']
theorem infoIdT : (Tryz.prog.info? 27).map (·.size) = some 32 := by kernel_rfl
set_option maxRecDepth 100000 in
set_option maxHeartbeats 1000000 in
theorem nIndex_any (A : Option Addr) (ps : List (List UInt8)) (c : Nat) (v : List UInt8) (w : World) (hr : Rw w 32 A (ps.map idc)) (hl : ∀ p ∈ ps, p.length = 32) (hv : v.length = 32) (hn : ps.length ≤ 9223372036854775807) :
    Calls Tryz.prog 45 #[.slice A ps.length c, .agg (idc v).toArray] w fun e w' => e = .returned (.int .i64 (Obj.fnd ps v 0)) ∧ Ab w w' := by
  have HR := Lib.hid hr
  have HL := Lib.hid hl
  clear hr hl
  go_enter Tryz.func45, Tryz.ntmps45
  have V0 : VB (w.alloc (.cells (idc v).toArray 27)) w.heap.size (idc v) := VB.box (xs := (idc v).toArray) (T := 27) (by (repeat (first | exact new_plain wnA | with_reducible refine old_alloc ?_ | with_reducible refine old_drew ?_ | with_reducible refine old_set ?_ wnA | with_reducible refine old_ab (by assumption) ?_)))
  have b0 : Ab w (w.alloc (.cells (idc v).toArray 27)) := abA
  go_upto_region 1 with fail
  generalize w.alloc (.cells (idc v).toArray 27) = w0 at *
  go_wp2_with fail
  go_loopw [8] (fun i w' => ∃ k : Nat, k ≤ ps.length ∧ i = .int .i64 k ∧ Hid (Obj.fnd ps v 0 = Obj.fnd (ps.drop k) v k) ∧ Ab w0 w') (fun i _ => ps.length - (intOf i).toNat)
  case atStart => exact ⟨0, Nat.zero_le _, rfl, rfl, abA⟩
  case round =>
    obtain ⟨k, hk, rfl, hA, hb⟩ := hrel
    rename World => w1
    by_cases hlt : k < ps.length
    · have hT : (k : Int) < ps.length := by omega
      obtain ⟨g, o, rfl, hR⟩ := HR.out (by simp; omega)
      have hp := HL.out ps[k] (List.getElem_mem hlt)
      have hR1 := hR k (by simpa using hlt)
      rw [List.getElem_map] at hR1
      have hR2 : w1.rangeAt g (o + k * 32) (idc ps[k]) := fun j u hu => hb.at (b0.at (hR1 j u hu))
      have V1 := V0.ab hb
      have hS : Hid (Obj.fnd (ps.drop k) v k = if ps[k] = v then (k : Int) else Obj.fnd (ps.drop (k + 1)) v (k + 1)) := by
        unfold Hid
        rw [List.drop_eq_getElem_cons hlt]
        rfl
      have HE : ∀ w, (Op.equalIn 10000 27 (.agg (idc v).toArray) (.agg (idc ps[k]).toArray)).run Tryz.prog w = .ok (v == ps[k]) w := fun w => run_eqId 9998 v ps[k] hv hp w
      have hpl := idc_len hp
      clear hR hR1
      generalize ps[k] = p at *
      go_upto_region 4 with fail
      refine wp_region_held_drew (by kernel_rfl) (S := fun w' => w'.rangeAt w.heap.size 0 (idc v) ∧ w'.rangeAt g (o + k * 32) (idc p)) ?_ (fun hHeld => ?_)
      · exact ⟨VB.range (VB.ab V1 abA), fun j u hu => Ab.at (show Ab w1 _ from abA) (hR2 j u hu)⟩
      (refine rtL 0 (idc v) 0 (fun w hSw => hSw.1) Tryz.underlying27 ?_ (hz := by rw [infoIdT, idc_len hv])
       (try simp only [Act.put, stA, st0, st1]))
      (refine rtA 1 ?_ ?_
       (try simp only [Act.put, stA, st0, st1]))
      (refine rtA 2 ?_ ?_
       (try simp only [Act.put, stA, st0, st1]))
      (refine rtA 3 ?_ ?_
       (try simp only [Act.put, stA, st0, st1]))
      (refine rtL 4 (idc p) (o + k * 32) (fun w hSw => hSw.2) Tryz.underlying27 ?_ (hz := by rw [infoIdT, hpl])
       (try simp only [Act.put, stA, st0, st1]))
      by_cases h : v = p
      · have hE1 : (v == p) = true := by simp [h]
        rw [hE1] at HE
        have hF : Hid (Obj.fnd ps v 0 = (k : Int)) := by unfold Hid; rw [hA.out, hS.out, if_pos h.symm]
        clear hE1 h hS hA
        (refine rtA 5 ?_ ?_
         (try simp only [Act.put, stA, st0, st1]))
        refine wpAnyH_done (by kernel_rfl) ?_ _
        go_wp2
        go_ret
        exact ⟨by rw [hF.out]; rfl, b0.trans (hb.trans abA)⟩
      · have hE1 : (v == p) = false := by simp [h]
        rw [hE1] at HE
        have hF : Hid (Obj.fnd ps v 0 = Obj.fnd (ps.drop (k + 1)) v (k + 1)) := by unfold Hid; rw [hA.out, hS.out, if_neg fun e => h e.symm]
        clear hE1 h hS hA
        (refine rtA 5 ?_ ?_
         (try simp only [Act.put, stA, st0, st1]))
        refine wpAnyH_done (by kernel_rfl) ?_ _
        go_wp2
        go_roundw
        case rel => exact ⟨k + 1, by omega, by go_num, hF, hb.trans abA⟩
        case measure => simp [intOf]; omega
    · obtain rfl : k = ps.length := by omega
      have hF : Hid (Obj.fnd ps v 0 = -1) := by
        unfold Hid
        rw [hA.out, List.drop_of_length_le (Nat.le_refl _)]
        rfl
      clear hA
      go_wp2
      go_ret
      exact ⟨by rw [hF.out]; rfl, b0.trans hb⟩
theorem nContains_any (A : Option Addr) (ps : List (List UInt8)) (c : Nat) (v : List UInt8) (w : World) (hr : Rw w 32 A (ps.map idc)) (hl : ∀ p ∈ ps, p.length = 32) (hv : v.length = 32) (hn : ps.length ≤ 9223372036854775807) :
    Calls Tryz.prog 113 #[.slice A ps.length c, .agg (idc v).toArray] w fun e w' => e = .returned (.bool (ps.contains v)) ∧ Ab w w' := by
  have C := Lib.hid (fun w' (hk : Ab w w') => nIndex_any A ps c v w' (hr.ab hk) hl hv hn)
  have HM := Lib.hid (Obj.fnd_mem ps v 0)
  generalize Obj.fnd ps v 0 = n at *
  generalize ps.contains v = q at *
  go_enter Tryz.func113, Tryz.ntmps113
  have V0 : VB (w.alloc (.cells (idc v).toArray 27)) w.heap.size (idc v) := VB.box (xs := (idc v).toArray) (T := 27) (by (repeat (first | exact new_plain wnA | with_reducible refine old_alloc ?_ | with_reducible refine old_drew ?_ | with_reducible refine old_set ?_ wnA | with_reducible refine old_ab (by assumption) ?_)))
  have b0 : Ab w (w.alloc (.cells (idc v).toArray 27)) := abA
  go_wp2_with (first
    | (refine list_ldV _ infoIdT Tryz.underlying27 rfl rfl _ rfl rfl V0 (idc_len hv) ?_))
  refine (C.out _ b0).mono ?_
  rintro e w1 ⟨rfl, hb1⟩
  go_wp2
  go_ret
  exact ⟨congrArg (fun b => Ending.returned (Value.bool b)) (by rw [← HM.out]), b0.trans hb1⟩
theorem run_headI (h : Nat) (kd : IntKind) (a : Option Addr) (len cap : Nat) (w : World) (h2 : h ≤ cap) :
    (Instr.slice 28 (.slice a len cap) none (some (.int kd (h : Int))) none).run Tryz.prog w = .ok (.slice a h cap) w := by
  have hu : Tryz.prog.underlying 28 = some (.slice (Tryz.prog.elem 28)) := by kernel_rfl
  have hi8 : (Tryz.prog.info? 27).map (fun i => i.size) = some 32 := by kernel_rfl
  have he : Tryz.prog.elem 28 = 27 := by kernel_rfl
  rw [run_slice_h w 28 a len cap hu kd (h : Int) (by omega) (by omega), he]
  simp only [sizeOf, typeInfo, sliced, Int.toNat_natCast, Sem.run_bind, Sem.run_pure]
  cases hq : Tryz.prog.info? 27 with
  | none => rw [hq] at hi8; cases hi8
  | some i0 =>
    simp [hq]
    try (cases a <;> simp [Addr.add])
/-- Is no name there twice, among the first k? -/
def Obj.dif (ps : List (List UInt8)) (k : Nat) : Bool := (List.range k).all fun i => !((ps.take i).contains (ps.getD i []))
theorem Obj.dif_succ (ps : List (List UInt8)) (k : Nat) : Obj.dif ps (k + 1) = (Obj.dif ps k && !((ps.take k).contains (ps.getD k []))) := by
  unfold Obj.dif; rw [List.range_succ, List.all_append]; simp
theorem Obj.dif_le (ps : List (List UInt8)) (k n : Nat) (h : k ≤ n) (hf : Obj.dif ps k = false) : Obj.dif ps n = false := by
  induction n with
  | zero => obtain rfl : k = 0 := by omega
            exact hf
  | succ n ih =>
    by_cases e : k = n + 1
    · subst e; exact hf
    · rw [Obj.dif_succ, ih (by omega)]; rfl
set_option maxRecDepth 100000 in
set_option maxHeartbeats 1000000 in
theorem areDif_any (A : Option Addr) (ps : List (List UInt8)) (c : Nat) (w : World) (hr : Rw w 32 A (ps.map idc)) (hl : ∀ p ∈ ps, p.length = 32) (hc : ps.length ≤ c) (hn : ps.length ≤ 9223372036854775807) :
    Calls Tryz.prog 94 #[.slice A ps.length c] w fun e w' => e = .returned (.bool (Obj.dif ps ps.length)) ∧ Ab w w' := by
  have HR := Lib.hid hr
  have HL := Lib.hid hl
  clear hr hl
  go_enter Tryz.func94, Tryz.ntmps94
  go_wp2_with fail
  go_loopw [7] (fun i w' => ∃ k : Nat, k ≤ ps.length ∧ i = .int .i64 k ∧ Hid (Obj.dif ps k = true) ∧ Ab w w') (fun i _ => ps.length - (intOf i).toNat)
  case atStart => exact ⟨0, Nat.zero_le _, rfl, rfl, abA⟩
  case round =>
    obtain ⟨k, hk, rfl, hA, hb⟩ := hrel
    rename World => w1
    by_cases hlt : k < ps.length
    · have hT : (k : Int) < ps.length := by omega
      obtain ⟨g, o, rfl, hR⟩ := HR.out (by simp; omega)
      have hp := HL.out ps[k] (List.getElem_mem hlt)
      have hR1 := hR k (by simpa using hlt)
      rw [List.getElem_map] at hR1
      have hR2 : w1.rangeAt g (o + k * 32) (idc ps[k]) := fun j u hu => hb.at (hR1 j u hu)
      have hS : Hid (Obj.dif ps (k + 1) = (Obj.dif ps k && !((ps.take k).contains ps[k]))) := by
        unfold Hid
        rw [Obj.dif_succ, List.getD_eq_getElem?_getD, List.getElem?_eq_getElem hlt]
        rfl
      have hpl := idc_len hp
      have hTk : (ps.take k).length = k := by simp; omega
      have NC : ∀ w', Ab w w' → Calls Tryz.prog 113 #[.slice (some ⟨g, o, none⟩) k c, .agg (idc ps[k]).toArray] w' fun e w2 => e = .returned (.bool ((ps.take k).contains ps[k])) ∧ Ab w' w2 := fun w' hk' => by
        have h := nContains_any (some ⟨g, o, none⟩) (ps.take k) c ps[k] w' (fun h0 => by
          obtain ⟨g', o', e, h2⟩ := (HR.out.ab hk') (by simp; omega)
          exact ⟨g', o', e, fun i hi => by
            have hi2 : i < k := by rw [List.length_map, hTk] at hi; exact hi
            have := h2 i (by simp; omega)
            simpa using this⟩) (fun p hp => HL.out p (List.mem_of_mem_take hp)) hp (by rw [hTk]; omega)
        rw [hTk] at h
        exact h
      have M : ∀ w0, (Instr.slice 28 (.slice (some ⟨g, o, none⟩) ps.length c) none (some (.int .i64 (k : Int))) none).run Tryz.prog w0 = .ok (.slice (some ⟨g, o, none⟩) k c) w0 := fun w0 => run_headI k .i64 _ _ _ w0 (by omega)
      have Z1 : VB (w1.alloc (.cells (idc (List.replicate 32 0)).toArray 27)) w1.heap.size (idc (List.replicate 32 0)) := VB.box (xs := (idc (List.replicate 32 0)).toArray) (T := 27) (by (repeat (first | exact new_plain wnA | with_reducible refine old_alloc ?_ | with_reducible refine old_drew ?_ | with_reducible refine old_set ?_ wnA | with_reducible refine old_ab (by assumption) ?_)))
      have hR3 : (w1.alloc (.cells (idc (List.replicate 32 0)).toArray 27)).rangeAt g (o + k * 32) (idc ps[k]) := fun j u hu => Ab.at (show Ab w1 _ from abA) (hR2 j u hu)
      have hD : Hid (Obj.dif ps (k + 1) = false → Obj.dif ps ps.length = false) := fun h => Obj.dif_le ps (k + 1) _ (by omega) h
      generalize (ps.take k).contains ps[k] = q at *
      generalize ps[k] = p at *
      clear hR hR1
      go_upto_region 4 with (first
        | (refine list_ldM (o := ⟨some 11, _, _, _, _, _⟩) _ (o + k * 32) (idc p) hR2 infoIdT Tryz.underlying27 rfl (by kernel_rfl) _ rfl rfl hpl ?_)
        | (refine list_stV (o := ⟨none, _, _, _, _, _⟩) (us := idc p) _ infoIdT rfl _ _ rfl rfl rfl Z1 (by rw [hpl]; rfl) hpl (idc_one p) ?_
           intro w2 h2))
      have b2 : Ab w1 w2 := h2.ab w1 abA (Nat.le_refl _)
      have V2 := h2.v
      clear Z1 hR2 hR3 h2
      refine wp_region_held_drew (by kernel_rfl) (S := fun w' => VB w' w1.heap.size (idc p)) ?_ (fun hHeld => ?_)
      · exact VB.ab V2 abA
      (refine rtA 0 ?_ ?_
       (try simp only [Act.put, stA, st0, st1]))
      (refine rtA 1 ?_ ?_
       (try simp only [Act.put, stA, st0, st1]))
      (refine rtA 2 ?_ ?_
       (try simp only [Act.put, stA, st0, st1]))
      (refine rtL 3 (idc p) 0 (fun w hSw => VB.range hSw) Tryz.underlying27 ?_ (hz := by rw [infoIdT, hpl])
       (try simp only [Act.put, stA, st0, st1]))
      refine r1A 4 (fun K hK => ?_)
      (go_simp
       (refine (NC _ (hb.trans (b2.trans abA))).mono ?_; rintro e w3 ⟨rfl, hb3⟩)
       (try go_wp2_with fail)
       (refine hK.out _ _ ?_ (fun hHeld => ?_)
        · (try dsimp only); (exact (VB.ab V2 abA).ab hb3)
        clear hK K
        (try simp only [Act.put, stA, st0, st1])))
      refine wpAnyH_done (by kernel_rfl) ?_ _
      have b3 : Ab w w3 := hb.trans (b2.trans (Ab.trans (by exact abA) hb3))
      cases q with
      | true =>
        have hF : Hid (Obj.dif ps ps.length = false) := hD.out (by rw [hS.out]; simp)
        clear hS hA
        go_wp2
        go_ret
        exact ⟨by rw [hF.out]; rfl, b3⟩
      | false =>
        have hF : Hid (Obj.dif ps (k + 1) = true) := by unfold Hid; rw [hS.out, hA.out]; rfl
        clear hS hA
        go_wp2
        go_roundw
        case rel => exact ⟨k + 1, by omega, by go_num, hF, b3⟩
        case measure => simp [intOf]; omega
    · obtain rfl : k = ps.length := by omega
      go_wp2
      go_ret
      exact ⟨by rw [hA.out]; rfl, hb⟩
/-- What makes a commit valid, and empty. -/
def CM.ok (c : CM) : Bool := decide (c.ps.length ≤ 2) && Obj.dif c.ps c.ps.length && decide (c.note.size ≤ 200) && decide (0 ≤ c.tick) && decide (c.tick ≤ 1000000)
def CM.empty (c : CM) : Bool := (c.t == List.replicate 32 0) && decide (c.ps.length = 0) && decide (c.note = ByteArray.empty) && decide (c.tick = 0)
theorem infoCM : (Tryz.prog.info? 30).map (·.size) = some 35 := by kernel_rfl
theorem cells_34 (c : CM) (h : c.t.length = 32) : c.cells[32]? = some (.slice c.A c.ps.length c.c) ∧ c.cells[33]? = some (.string c.note) ∧ c.cells[34]? = some (.int .i64 c.tick) := by
  have := idc_len h
  unfold CM.cells
  refine ⟨?_, ?_, ?_⟩ <;> rw [List.getElem?_append_right (by omega), this] <;> rfl
theorem cells_t (c : CM) (h : c.t.length = 32) {w : World} {b o : Nat} (k : w.rangeAt b o c.cells) : w.rangeAt b o (idc c.t) := fun j v hv => k j v (by
  unfold CM.cells
  rw [List.getElem?_append_left ((List.getElem?_eq_some_iff.1 hv).1)]
  exact hv)
set_option maxRecDepth 100000 in
set_option maxHeartbeats 1000000 in
theorem isCommit_any (c : CM) (w : World) (h : CL w c) :
    Calls Tryz.prog 66 #[.agg c.cells.toArray] w fun e w' => e = .returned (.bool c.ok) ∧ Ab w w' := by
  have V0 : VB (w.alloc (.cells c.cells.toArray 30)) w.heap.size c.cells := VB.box (xs := c.cells.toArray) (T := 30) (by (repeat (first | exact new_plain wnA | with_reducible refine old_alloc ?_ | with_reducible refine old_drew ?_ | with_reducible refine old_set ?_ wnA | with_reducible refine old_ab (by assumption) ?_)))
  have b0 : Ab w (w.alloc (.cells c.cells.toArray 30)) := abA
  have DC := fun w' (hk : Ab w w') => areDif_any c.A c.ps c.c w' (h.r.ab hk) h.l h.n h.n'
  obtain ⟨e1, e2, e3⟩ := cells_34 c h.t
  have c1 := V0.at 32 e1
  have c2 := V0.at 33 e2
  have c3 := V0.at 34 e3
  have hO : Hid (c.ok = (decide (c.ps.length ≤ 2) && Obj.dif c.ps c.ps.length && decide (c.note.size ≤ 200) && decide (0 ≤ c.tick) && decide (c.tick ≤ 1000000))) := Lib.hid rfl
  obtain ⟨t, A, ps, cc, note, tick⟩ := c
  simp only at c1 c2 c3 DC hO
  have hn := h.n'
  simp only at hn
  clear e1 e2 e3 h V0
  generalize CM.ok _ = q at *
  generalize CM.cells _ = cs at *
  go_enter Tryz.func66, Tryz.ntmps66
  generalize Obj.dif ps ps.length = d at *
  go_upto_region 1 with fail
  generalize w.alloc (.cells cs.toArray 30) = w0 at *
  by_cases h1 : ps.length ≤ 2
  · have k1 : (ps.length : Int) ≤ 2 := by omega
    go_wp2_with fail
    refine (DC _ b0).mono ?_
    rintro e w3 ⟨rfl, hb3⟩
    replace c2 := hb3.at c2
    replace c3 := hb3.at c3
    have b3 := b0.trans hb3
    have H1 := Lib.hid h1
    have HO := Lib.hid hO.out
    rw [decide_eq_true h1] at hO
    clear DC c1 h1
    cases d with
    | false =>
      go_wp2
      go_ret
      exact ⟨congrArg (fun b => Ending.returned (Value.bool b)) (by rw [hO.out]; simp []), b3⟩
    | true =>
      by_cases h2 : note.size ≤ 200
      · have k2 : (note.size : Int) ≤ 200 := by omega
        by_cases h3 : 0 ≤ tick
        · by_cases h4 : tick ≤ 1000000
          · go_wp2
            go_ret
            exact ⟨congrArg (fun b => Ending.returned (Value.bool b)) (by rw [hO.out]; simp [h2, h3, h4]), b3⟩
          · go_wp2
            go_ret
            exact ⟨congrArg (fun b => Ending.returned (Value.bool b)) (by rw [hO.out]; simp [h2, h3, h4]), b3⟩
        · go_wp2
          go_ret
          exact ⟨congrArg (fun b => Ending.returned (Value.bool b)) (by rw [hO.out]; simp [h2, h3] <;> omega), b3⟩
      · have k2 : ¬ (note.size : Int) ≤ 200 := by omega
        go_wp2
        go_ret
        exact ⟨congrArg (fun b => Ending.returned (Value.bool b)) (by rw [hO.out]; simp <;> omega), b3⟩
  · have k1 : ¬ (ps.length : Int) ≤ 2 := by omega
    go_wp2
    go_ret
    exact ⟨congrArg (fun b => Ending.returned (Value.bool b)) (by rw [hO.out]; simp [h1]), b0⟩
set_option maxRecDepth 100000 in
set_option maxHeartbeats 1000000 in
theorem isEmpty_any (c : CM) (w : World) (h : CL w c) :
    Calls Tryz.prog 64 #[.agg c.cells.toArray] w fun e w' => e = .returned (.bool c.empty) ∧ Ab w w' := by
  have V0 : VB (w.alloc (.cells c.cells.toArray 30)) w.heap.size c.cells := VB.box (xs := c.cells.toArray) (T := 30) (by (repeat (first | exact new_plain wnA | with_reducible refine old_alloc ?_ | with_reducible refine old_drew ?_ | with_reducible refine old_set ?_ wnA | with_reducible refine old_ab (by assumption) ?_)))
  have b0 : Ab w (w.alloc (.cells c.cells.toArray 30)) := abA
  obtain ⟨e1, e2, e3⟩ := cells_34 c h.t
  have c1 := V0.at 32 e1
  have c2 := V0.at 33 e2
  have c3 := V0.at 34 e3
  have R0 := cells_t c h.t (VB.range V0)
  have hO : Hid (c.empty = ((c.t == List.replicate 32 0) && decide (c.ps.length = 0) && decide (c.note = ByteArray.empty) && decide (c.tick = 0))) := Lib.hid rfl
  have ht := h.t
  obtain ⟨t, A, ps, cc, note, tick⟩ := c
  simp only at c1 c2 c3 hO R0 ht
  have htl := idc_len ht
  have HE := Lib.hid (run_eqId 9998 t (List.replicate 32 0) ht (by simp))
  clear e1 e2 e3 h V0
  generalize CM.empty _ = q at *
  generalize CM.cells _ = cs at *
  have hN : Hid (note.toList = [] ↔ note = ByteArray.empty) := by
    unfold Hid
    rw [ByteArray.toList_eq]
    constructor
    · intro h
      exact ByteArray.ext (Array.ext' (by simpa using h))
    · rintro rfl
      rfl
  generalize (t == List.replicate 32 0) = z at *
  go_enter Tryz.func64, Tryz.ntmps64
  go_upto_region 1 with fail
  generalize w.alloc (.cells cs.toArray 30) = w0 at *
  cases z with
  | false =>
    go_wp2_with (first
      | (refine list_ldM (o := ⟨some 4, _, _, _, _, _⟩) _ 0 (idc t) R0 infoIdT Tryz.underlying27 rfl (by kernel_rfl) _ rfl rfl htl ?_)
      | (refine list_eqB (o := ⟨some 6, _, _, _, _, _⟩) 27 27 (.tmp 4) (.tmp 5) (idc t).toArray (idc (List.replicate 32 0)).toArray false (by kernel_rfl) rfl rfl rfl (by kernel_rfl) (HE.out _) ?_))
    go_ret
    exact ⟨congrArg (fun b => Ending.returned (Value.bool b)) (by rw [hO.out]; simp), b0⟩
  | true =>
    by_cases h1 : ps.length = 0
    · have k1 : (ps.length : Int) = 0 := by omega
      by_cases h2 : note = ByteArray.empty
      · have k2 := hN.out.2 h2
        by_cases h3 : tick = 0
        · subst h3
          go_wp2_with (first
            | (refine list_ldM (o := ⟨some 4, _, _, _, _, _⟩) _ 0 (idc t) R0 infoIdT Tryz.underlying27 rfl (by kernel_rfl) _ rfl rfl htl ?_)
            | (refine list_eqB (o := ⟨some 6, _, _, _, _, _⟩) 27 27 (.tmp 4) (.tmp 5) (idc t).toArray (idc (List.replicate 32 0)).toArray true (by kernel_rfl) rfl rfl rfl (by kernel_rfl) (HE.out _) ?_))
          go_ret
          exact ⟨congrArg (fun b => Ending.returned (Value.bool b)) (by rw [hO.out]; simp [h1, h2]), b0⟩
        · go_wp2_with (first
            | (refine list_ldM (o := ⟨some 4, _, _, _, _, _⟩) _ 0 (idc t) R0 infoIdT Tryz.underlying27 rfl (by kernel_rfl) _ rfl rfl htl ?_)
            | (refine list_eqB (o := ⟨some 6, _, _, _, _, _⟩) 27 27 (.tmp 4) (.tmp 5) (idc t).toArray (idc (List.replicate 32 0)).toArray true (by kernel_rfl) rfl rfl rfl (by kernel_rfl) (HE.out _) ?_))
          go_ret
          exact ⟨congrArg (fun b => Ending.returned (Value.bool b)) (by rw [hO.out]; simp [h1, h2, h3]), b0⟩
      · have k2 : ¬ note.toList = [] := fun h => h2 (hN.out.1 h)
        go_wp2_with (first
          | (refine list_ldM (o := ⟨some 4, _, _, _, _, _⟩) _ 0 (idc t) R0 infoIdT Tryz.underlying27 rfl (by kernel_rfl) _ rfl rfl htl ?_)
          | (refine list_eqB (o := ⟨some 6, _, _, _, _, _⟩) 27 27 (.tmp 4) (.tmp 5) (idc t).toArray (idc (List.replicate 32 0)).toArray true (by kernel_rfl) rfl rfl rfl (by kernel_rfl) (HE.out _) ?_))
        go_ret
        exact ⟨congrArg (fun b => Ending.returned (Value.bool b)) (by rw [hO.out]; simp [h1, h2]), b0⟩
    · have k1 : ¬ (ps.length : Int) = 0 := by omega
      go_wp2_with (first
        | (refine list_ldM (o := ⟨some 4, _, _, _, _, _⟩) _ 0 (idc t) R0 infoIdT Tryz.underlying27 rfl (by kernel_rfl) _ rfl rfl htl ?_)
        | (refine list_eqB (o := ⟨some 6, _, _, _, _, _⟩) 27 27 (.tmp 4) (.tmp 5) (idc t).toArray (idc (List.replicate 32 0)).toArray true (by kernel_rfl) rfl rfl rfl (by kernel_rfl) (HE.out _) ?_))
      go_ret
      exact ⟨congrArg (fun b => Ending.returned (Value.bool b)) (by rw [hO.out]; simp [h1]), b0⟩
end Go.Proofs.YthfffbpcmlgoiaaGreatDoor
