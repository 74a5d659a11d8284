/- Trees and objects checked. Own work. -/
import Derived.Test.YthfffbpcmlgoiaaGreatDoorCObFunA
import Derived.Laws.Cover1
set_option linter.unusedVariables false
set_option linter.unusedSimpArgs false
namespace Go.Proofs.YthfffbpcmlgoiaaGreatDoor
open Go.RowKit

theorem infoEM : (Tryz.prog.info? 38).map (·.size) = some 33 := by kernel_rfl
def EM.zero : EM := ⟨ByteArray.empty, List.replicate 32 0⟩
/-- Does a string come before another one? -/
def Obj.bef (a b : ByteArray) : Bool := Op.bytesLess a.toList b.toList
/-- Are the first k entries right? -/
def Obj.ent (es : List EM) (i : Nat) : Bool := Obj.path ((es.getD i EM.zero).p).data.toList && (decide (i = 0) || Obj.bef (es.getD (i - 1) EM.zero).p (es.getD i EM.zero).p)
def Obj.ents (es : List EM) (k : Nat) : Bool := (List.range k).all (Obj.ent es)
theorem Obj.ents_succ (es : List EM) (k : Nat) : Obj.ents es (k + 1) = (Obj.ents es k && Obj.ent es k) := by
  unfold Obj.ents; rw [List.range_succ, List.all_append]; simp
theorem Obj.ents_le (es : List EM) (k n : Nat) (h : k ≤ n) (hf : Obj.ents es k = false) : Obj.ents es n = false := by
  induction n with
  | zero => obtain rfl : k = 0 := by omega
            exact hf
  | succ n ih =>
    by_cases e : k = n + 1
    · subst e; exact hf
    · rw [Obj.ents_succ, ih (by omega)]; rfl
def Obj.tree (es : List EM) : Bool := decide (es.length ≤ 12) && Obj.ents es es.length
set_option maxRecDepth 100000 in
set_option maxHeartbeats 1000000 in
theorem isTree_any (A : Option Addr) (es : List EM) (c : Nat) (w : World) (hr : Rw w 33 A (es.map EM.cells)) (hl : ∀ e ∈ es, e.b.length = 32) (hc : es.length ≤ c) (hn : es.length ≤ 9223372036854775807) :
    Calls Tryz.prog 65 #[.slice A es.length c] w fun e w' => e = .returned (.bool (Obj.tree es)) ∧ Ab w w' := by
  by_cases h12 : es.length ≤ 12
  · have k12 : (es.length : Int) ≤ 12 := by omega
    have hO : Hid (Obj.tree es = Obj.ents es es.length) := by unfold Hid Obj.tree; simp [h12]
    generalize Obj.tree es = q0 at *
    have HR := Lib.hid hr
    have HL := Lib.hid hl
    clear hr hl
    go_enter Tryz.func65, Tryz.ntmps65
    go_wp2_with fail
    go_loopw [10] (fun i w' => ∃ k : Nat, k ≤ es.length ∧ i = .int .i64 k ∧ Hid (Obj.ents es k = true) ∧ Ab w w') (fun i _ => es.length - (intOf i).toNat)
    case atStart => exact ⟨0, Nat.zero_le _, rfl, rfl, abA⟩
    case round =>
      obtain ⟨k, hk, rfl, hA, hb⟩ := hrel
      rename World => w1
      by_cases hlt : k < es.length
      · have hT : (k : Int) < es.length := by omega
        obtain ⟨g, o, rfl, hR⟩ := HR.out (by simp; omega)
        have hp := HL.out es[k] (List.getElem_mem hlt)
        have hR1 := hR k (by simpa using hlt)
        rw [List.getElem_map] at hR1
        have hR2 : w1.rangeAt g (o + k * 33) es[k].cells := fun j u hu => hb.at (hR1 j u hu)
        have hel := EM.len hp
        have Z1 : VB (w1.alloc (.cells EM.zero.cells.toArray 38)) w1.heap.size EM.zero.cells := VB.box (xs := EM.zero.cells.toArray) (T := 38) (by (repeat (first | exact new_plain wnA | with_reducible refine old_alloc ?_ | with_reducible refine old_drew ?_ | with_reducible refine old_set ?_ wnA | with_reducible refine old_ab (by assumption) ?_)))
        have hP1 : 0 < k → w1.cell? ⟨g, o + (k - 1) * 33, none⟩ = some (.string (es[k - 1]'(by omega)).p) := fun h0 => by
          have := hR (k - 1) (by simp; omega) 0 (.string (es[k - 1]'(by omega)).p) (by rw [List.getElem_map]; rfl)
          exact hb.at this
        have e0 : es[k].cells[0]? = some (.string es[k].p) := rfl
        have eo := EM.one es[k]
        have hS : Hid (Obj.ents es (k + 1) = (Obj.path es[k].p.data.toList && (decide (k = 0) || Obj.bef (es[k - 1]'(by omega)).p es[k].p))) := by
          unfold Hid
          rw [Obj.ents_succ, hA.out]
          unfold Obj.ent
          rw [List.getD_eq_getElem?_getD, List.getElem?_eq_getElem hlt, List.getD_eq_getElem?_getD, List.getElem?_eq_getElem (by omega)]
          rfl
        have hD : Hid (Obj.ents es (k + 1) = false → Obj.ents es es.length = false) := fun h => Obj.ents_le es (k + 1) _ (by omega) h
        generalize es[k] = x at *
        clear hR hR1 hA
        go_upto_region 6 with (first
          | (refine list_ldM (o := ⟨some 14, _, _, _, _, _⟩) _ (o + k * 33) x.cells hR2 infoEM Tryz.underlying38 rfl (by kernel_rfl) _ rfl rfl hel ?_)
          | (refine list_stV (o := ⟨none, _, _, _, _, _⟩) (us := x.cells) _ infoEM rfl _ _ rfl rfl rfl Z1 (by rw [hel]; rfl) hel eo ?_
             intro w2 h2))
        have b2 : Ab w1 w2 := h2.ab w1 abA (Nat.le_refl _)
        have c0 := h2.v.at 0 e0
        have P1 := fun h => b2.at (hP1 h)
        clear Z1 hR2 h2 hP1
        have IP := Lib.hid (fun w' => isPath_any x.p w')
        generalize Obj.path x.p.data.toList = q at *
        by_cases h0 : k = 0
        · have n0 : ¬ (0 : Int) < (k : Int) := by omega
          have hd : decide ((0 : Int) < (k : Int)) = false := decide_eq_false n0
          clear n0
          refine wp_region_held_drew (by kernel_rfl) (S := fun w' => w'.cell? ⟨w1.heap.size, 0, none⟩ = some (.string x.p)) ?_ (fun hHeld => ?_)
          · exact cell_drew c0
          (refine rtA 0 ?_ ?_
           (try simp only [Act.put, stA, st0, st1]))
          (refine rtA 1 ?_ ?_
           (try simp only [Act.put, stA, st0, st1]))
          refine r1A 2 (fun K hK => ?_)
          (go_simp
           (refine (IP.out _).mono ?_; rintro e w3 ⟨rfl, hb3⟩)
           (try go_wp2_with fail)
           (refine hK.out _ _ ?_ (fun hHeld => ?_)
            · (try dsimp only); exact hb3.at (cell_drew c0)
            clear hK K
            (try simp only [Act.put, stA, st0, st1])))
          have b3 : Ab w w3 := hb.trans (b2.trans (Ab.trans (by exact abA) hb3))
          (refine rtA 3 ?_ ?_
           (try simp only [Act.put, stA, st0, st1]))
          (refine rtA 4 ?_ ?_
           (try simp only [Act.put, stA, st0, st1]))
          cases q with
          | false =>
            (refine rtS 5 ?_
             (try simp only [Act.put, stA, st0, st1]))
            (refine rtS 6 ?_
             (try simp only [Act.put, stA, st0, st1]))
            (refine rtS 7 ?_
             (try simp only [Act.put, stA, st0, st1]))
            (refine rtS 8 ?_
             (try simp only [Act.put, stA, st0, st1]))
            (refine rtS 9 ?_
             (try simp only [Act.put, stA, st0, st1]))
            (refine rtS 10 ?_
             (try simp only [Act.put, stA, st0, st1]))
            (refine rtS 11 ?_
             (try simp only [Act.put, stA, st0, st1]))
            (refine rtS 12 ?_
             (try simp only [Act.put, stA, st0, st1]))
            (refine rtS 13 ?_
             (try simp only [Act.put, stA, st0, st1]))
            (refine rtS 14 ?_
             (try simp only [Act.put, stA, st0, st1]))
            (refine rtS 15 ?_
             (try simp only [Act.put, stA, st0, st1]))
            (refine rtS 16 ?_
             (try simp only [Act.put, stA, st0, st1]))
            (refine rtS 17 ?_
             (try simp only [Act.put, stA, st0, st1]))
            refine r1A 18 (fun K hK => ?_)
            (go_simp
             (refine hK.out _ _ ?_ (fun hHeld => ?_)
              · (try dsimp only); exact hb3.at (cell_drew c0)
              clear hK K
              (try simp only [Act.put, stA, st0, st1])))
            refine wpAnyH_done (by kernel_rfl) ?_ _
            have hF : Hid (Obj.ents es es.length = false) := hD.out (by rw [hS.out]; simp)
            go_wp2
            go_ret
            exact ⟨by rw [hO.out, hF.out]; rfl, b3⟩
          | true =>
            (refine rtA 5 ?_ ?_
             (try simp only [Act.put, stA, st0, st1]))
            (refine rtA 6 (.bool false) ?_ (hy := by intro w hSw; go_simp; (try simp only [hd]); (try with_reducible rfl); (try omega)); (try simp only [Act.put, stA, st0, st1]))
            (refine rtA 7 ?_ ?_
             (try simp only [Act.put, stA, st0, st1]))
            (refine rtS 8 ?_
             (try simp only [Act.put, stA, st0, st1]))
            (refine rtS 9 ?_
             (try simp only [Act.put, stA, st0, st1]))
            (refine rtS 10 ?_
             (try simp only [Act.put, stA, st0, st1]))
            (refine rtS 11 ?_
             (try simp only [Act.put, stA, st0, st1]))
            (refine rtS 12 ?_
             (try simp only [Act.put, stA, st0, st1]))
            (refine rtS 13 ?_
             (try simp only [Act.put, stA, st0, st1]))
            (refine rtS 14 ?_
             (try simp only [Act.put, stA, st0, st1]))
            (refine rtS 15 ?_
             (try simp only [Act.put, stA, st0, st1]))
            (refine rtS 16 ?_
             (try simp only [Act.put, stA, st0, st1]))
            refine r1A 17 (fun K hK => ?_)
            (go_simp
             (refine hK.out _ _ ?_ (fun hHeld => ?_)
              · (try dsimp only); exact hb3.at (cell_drew c0)
              clear hK K
              (try simp only [Act.put, stA, st0, st1])))
            refine r1A 18 (fun K hK => ?_)
            (go_simp
             (refine hK.out _ _ ?_ (fun hHeld => ?_)
              · (try dsimp only); exact hb3.at (cell_drew c0)
              clear hK K
              (try simp only [Act.put, stA, st0, st1])))
            refine wpAnyH_done (by kernel_rfl) ?_ _
            have hF : Hid (Obj.ents es (k + 1) = true) := by unfold Hid; rw [hS.out]; simp [h0]
            go_wp2
            go_roundw
            case rel => exact ⟨k + 1, by omega, by go_num, hF, b3⟩
            case measure => simp [intOf] <;> omega
        · have P2 := P1 (by omega)
          have n0 : (0 : Int) < (k : Int) := by omega
          have hd : decide ((0 : Int) < (k : Int)) = true := decide_eq_true n0
          clear n0
          have n1 : ((k : Int) - 1).toNat = k - 1 := by omega
          have n5 : 1 ≤ (k : Int) := by omega
          have n2 : 0 ≤ (k : Int) - 1 := by omega
          have n3 : (k : Int) - 1 < (es.length : Int) := by omega
          have n4 : IntKind.i64.wrap ((k : Int) - 1) = (k : Int) - 1 := IntWalk.i64_in _ (by omega)
          generalize (es[k - 1]'(by omega)).p = y at *
          refine wp_region_held_drew (by kernel_rfl) (S := fun w' => w'.cell? ⟨w1.heap.size, 0, none⟩ = some (.string x.p) ∧ w'.cell? ⟨g, o + (k - 1) * 33, none⟩ = some (.string y)) ?_ (fun hHeld => ?_)
          · exact ⟨cell_drew c0, cell_drew P2⟩
          (refine rtA 0 ?_ ?_
           (try simp only [Act.put, stA, st0, st1]))
          (refine rtA 1 ?_ ?_
           (try simp only [Act.put, stA, st0, st1]))
          refine r1A 2 (fun K hK => ?_)
          (go_simp
           (refine (IP.out _).mono ?_; rintro e w3 ⟨rfl, hb3⟩)
           (try go_wp2_with fail)
           (refine hK.out _ _ ?_ (fun hHeld => ?_)
            · (try dsimp only); exact ⟨hb3.at (cell_drew c0), hb3.at (cell_drew P2)⟩
            clear hK K
            (try simp only [Act.put, stA, st0, st1])))
          have b3 : Ab w w3 := hb.trans (b2.trans (Ab.trans (by exact abA) hb3))
          (refine rtA 3 ?_ ?_
           (try simp only [Act.put, stA, st0, st1]))
          (refine rtA 4 ?_ ?_
           (try simp only [Act.put, stA, st0, st1]))
          cases q with
          | false =>
            (refine rtS 5 ?_
             (try simp only [Act.put, stA, st0, st1]))
            (refine rtS 6 ?_
             (try simp only [Act.put, stA, st0, st1]))
            (refine rtS 7 ?_
             (try simp only [Act.put, stA, st0, st1]))
            (refine rtS 8 ?_
             (try simp only [Act.put, stA, st0, st1]))
            (refine rtS 9 ?_
             (try simp only [Act.put, stA, st0, st1]))
            (refine rtS 10 ?_
             (try simp only [Act.put, stA, st0, st1]))
            (refine rtS 11 ?_
             (try simp only [Act.put, stA, st0, st1]))
            (refine rtS 12 ?_
             (try simp only [Act.put, stA, st0, st1]))
            (refine rtS 13 ?_
             (try simp only [Act.put, stA, st0, st1]))
            (refine rtS 14 ?_
             (try simp only [Act.put, stA, st0, st1]))
            (refine rtS 15 ?_
             (try simp only [Act.put, stA, st0, st1]))
            (refine rtS 16 ?_
             (try simp only [Act.put, stA, st0, st1]))
            (refine rtS 17 ?_
             (try simp only [Act.put, stA, st0, st1]))
            refine r1A 18 (fun K hK => ?_)
            (go_simp
             (refine hK.out _ _ ?_ (fun hHeld => ?_)
              · (try dsimp only); exact ⟨hb3.at (cell_drew c0), hb3.at (cell_drew P2)⟩
              clear hK K
              (try simp only [Act.put, stA, st0, st1])))
            refine wpAnyH_done (by kernel_rfl) ?_ _
            have hF : Hid (Obj.ents es es.length = false) := hD.out (by rw [hS.out]; simp)
            go_wp2
            go_ret
            exact ⟨by rw [hO.out, hF.out]; rfl, b3⟩
          | true =>
            cases hz : Obj.bef y x.p with
            | false =>
              have hz' : Op.bytesLess y.toList x.p.toList = false := hz
              (refine rtA 5 ?_ ?_
               (try simp only [Act.put, stA, st0, st1]))
              (refine rtA 6 (.bool true) ?_ (hy := by intro w hSw; go_simp; (try simp only [hd]); (try with_reducible rfl); (try omega)); (try simp only [Act.put, stA, st0, st1]))
              (refine rtA 7 ?_ ?_
               (try simp only [Act.put, stA, st0, st1]))
              (refine rtA 8 ?_ ?_
               (try simp only [Act.put, stA, st0, st1]))
              (refine rtA 9 ?_ ?_
               (try simp only [Act.put, stA, st0, st1]))
              (refine rtA 10 ?_ ?_
               (try simp only [Act.put, stA, st0, st1]))
              (refine rtA 11 ?_ ?_
               (try simp only [Act.put, stA, st0, st1]))
              (refine rtA 12 ?_ ?_
               (try simp only [Act.put, stA, st0, st1]))
              (refine rtA 13 ?_ ?_
               (try simp only [Act.put, stA, st0, st1]))
              (refine rtA 14 ?_ ?_
               (try simp only [Act.put, stA, st0, st1]))
              (refine rtA 15 ?_ ?_
               (try simp only [Act.put, stA, st0, st1]))
              (refine rtA 16 ?_ ?_
               (try simp only [Act.put, stA, st0, st1]))
              refine r1A 17 (fun K hK => ?_)
              (go_simp
               (refine hK.out _ _ ?_ (fun hHeld => ?_)
                · (try dsimp only); exact ⟨hb3.at (cell_drew c0), hb3.at (cell_drew P2)⟩
                clear hK K
                (try simp only [Act.put, stA, st0, st1])))
              refine r1A 18 (fun K hK => ?_)
              (go_simp
               (refine hK.out _ _ ?_ (fun hHeld => ?_)
                · (try dsimp only); exact ⟨hb3.at (cell_drew c0), hb3.at (cell_drew P2)⟩
                clear hK K
                (try simp only [Act.put, stA, st0, st1])))
              refine wpAnyH_done (by kernel_rfl) ?_ _
              have hF : Hid (Obj.ents es es.length = false) := hD.out (by rw [hS.out]; simp [h0, hz])
              go_wp2
              go_ret
              exact ⟨by rw [hO.out, hF.out]; rfl, b3⟩
            | true =>
              have hz' : Op.bytesLess y.toList x.p.toList = true := hz
              (refine rtA 5 ?_ ?_
               (try simp only [Act.put, stA, st0, st1]))
              (refine rtA 6 (.bool true) ?_ (hy := by intro w hSw; go_simp; (try simp only [hd]); (try with_reducible rfl); (try omega)); (try simp only [Act.put, stA, st0, st1]))
              (refine rtA 7 ?_ ?_
               (try simp only [Act.put, stA, st0, st1]))
              (refine rtA 8 ?_ ?_
               (try simp only [Act.put, stA, st0, st1]))
              (refine rtA 9 ?_ ?_
               (try simp only [Act.put, stA, st0, st1]))
              (refine rtA 10 ?_ ?_
               (try simp only [Act.put, stA, st0, st1]))
              (refine rtA 11 ?_ ?_
               (try simp only [Act.put, stA, st0, st1]))
              (refine rtA 12 ?_ ?_
               (try simp only [Act.put, stA, st0, st1]))
              (refine rtA 13 ?_ ?_
               (try simp only [Act.put, stA, st0, st1]))
              (refine rtA 14 ?_ ?_
               (try simp only [Act.put, stA, st0, st1]))
              (refine rtA 15 ?_ ?_
               (try simp only [Act.put, stA, st0, st1]))
              (refine rtA 16 ?_ ?_
               (try simp only [Act.put, stA, st0, st1]))
              refine r1A 17 (fun K hK => ?_)
              (go_simp
               (refine hK.out _ _ ?_ (fun hHeld => ?_)
                · (try dsimp only); exact ⟨hb3.at (cell_drew c0), hb3.at (cell_drew P2)⟩
                clear hK K
                (try simp only [Act.put, stA, st0, st1])))
              refine r1A 18 (fun K hK => ?_)
              (go_simp
               (refine hK.out _ _ ?_ (fun hHeld => ?_)
                · (try dsimp only); exact ⟨hb3.at (cell_drew c0), hb3.at (cell_drew P2)⟩
                clear hK K
                (try simp only [Act.put, stA, st0, st1])))
              refine wpAnyH_done (by kernel_rfl) ?_ _
              have hF : Hid (Obj.ents es (k + 1) = true) := by unfold Hid; rw [hS.out]; simp [h0, hz]
              go_wp2
              go_roundw
              case rel => exact ⟨k + 1, by omega, by go_num, hF, b3⟩
              case measure => simp [intOf] <;> omega
      · obtain rfl : k = es.length := by omega
        go_wp2
        go_ret
        exact ⟨by rw [hO.out, hA.out]; rfl, hb⟩
  · have k12 : ¬ (es.length : Int) ≤ 12 := by omega
    have hO : Hid (Obj.tree es = false) := by unfold Hid Obj.tree; simp [h12]
    go_enter Tryz.func65, Tryz.ntmps65
    go_wp2
    go_ret
    exact ⟨by rw [hO.out]; rfl, abA⟩
end Go.Proofs.YthfffbpcmlgoiaaGreatDoor
