/- Kinds of parts, valid deltas, checks, costs, walked. Own work. -/
import Derived.Test.YtjgijpfknhfnjaaDlMem
import Derived.Deep.DeepCutAuto
import Derived.Deep.QuietTactic
import Derived.BigQuiet
import Derived.Laws.Cover1
set_option linter.unusedVariables false
set_option linter.unusedSimpArgs false
namespace Go.Proofs.Ytjgijpfknhfnjaa
open Go.RowKit

set_option maxRecDepth 100000 in
theorem iscopy_any (x : PM) (w : World) : Calls Try.prog 27 #[.agg x.cells.toArray] w fun e w' => e = .returned (.bool (Dl.copies x.d)) ∧ Ab w w' := by
  obtain ⟨p, n, A, b, c⟩ := x
  show Calls Try.prog 27 #[.agg #[.int .i64 p, .int .i64 n, .slice A b.length c]] w _
  have hO : Hid (Dl.copies (PM.d ⟨p, n, A, b, c⟩) = (decide (1 ≤ n) && decide (n ≤ 2000) && decide (0 ≤ p) && decide (p ≤ 2000) && decide (b.length = 0))) := Lib.hid rfl
  generalize Dl.copies _ = q at *
  go_enter Try.func27, Try.ntmps27
  by_cases h0 : 1 ≤ n
  · have i0 : (1 : Int) ≤ n := by omega
    by_cases h1 : n ≤ 2000
    · have i1 : n ≤ 2000 := by omega
      by_cases h2 : 0 ≤ p
      · have i2 : (0 : Int) ≤ p := by omega
        by_cases h3 : p ≤ 2000
        · have i3 : p ≤ 2000 := by omega
          by_cases h4 : b.length = 0
          · have i4 : (b.length : Int) = 0 := by omega
            go_wp2
            go_ret
            exact ⟨congrArg (fun b => Ending.returned (Value.bool b)) (by rw [hO.out]; simp [h0, h1, h2, h3, h4] <;> (intros; omega)), abA⟩
          · have i4 : ¬ (b.length : Int) = 0 := by omega
            go_wp2
            go_ret
            exact ⟨congrArg (fun b => Ending.returned (Value.bool b)) (by rw [hO.out]; simp [h0, h1, h2, h3, h4] <;> (intros; omega)), abA⟩
        · have i3 : ¬ p ≤ 2000 := by omega
          go_wp2
          go_ret
          exact ⟨congrArg (fun b => Ending.returned (Value.bool b)) (by rw [hO.out]; simp [h0, h1, h2, h3] <;> (intros; omega)), abA⟩
      · have i2 : ¬ (0 : Int) ≤ p := by omega
        go_wp2
        go_ret
        exact ⟨congrArg (fun b => Ending.returned (Value.bool b)) (by rw [hO.out]; simp [h0, h1, h2] <;> (intros; omega)), abA⟩
    · have i1 : ¬ n ≤ 2000 := by omega
      go_wp2
      go_ret
      exact ⟨congrArg (fun b => Ending.returned (Value.bool b)) (by rw [hO.out]; simp [h0, h1] <;> (intros; omega)), abA⟩
  · have i0 : ¬ (1 : Int) ≤ n := by omega
    go_wp2
    go_ret
    exact ⟨congrArg (fun b => Ending.returned (Value.bool b)) (by rw [hO.out]; simp [h0] <;> (intros; omega)), abA⟩
set_option maxRecDepth 100000 in
theorem rcopies_any (x : PM) (w : World) : Calls Try.prog 38 #[.agg x.cells.toArray] w fun e w' => e = .returned (.bool (Dl.copies x.d)) ∧ Ab w w' := by
  obtain ⟨p, n, A, b, c⟩ := x
  show Calls Try.prog 38 #[.agg #[.int .i64 p, .int .i64 n, .slice A b.length c]] w _
  have hO : Hid (Dl.copies (PM.d ⟨p, n, A, b, c⟩) = (decide (1 ≤ n) && decide (n ≤ 2000) && decide (0 ≤ p) && decide (p ≤ 2000) && decide (b.length = 0))) := Lib.hid rfl
  generalize Dl.copies _ = q at *
  go_enter Try.func38, Try.ntmps38
  by_cases h0 : 1 ≤ n
  · have i0 : (1 : Int) ≤ n := by omega
    by_cases h1 : n ≤ 2000
    · have i1 : n ≤ 2000 := by omega
      by_cases h2 : 0 ≤ p
      · have i2 : (0 : Int) ≤ p := by omega
        by_cases h3 : p ≤ 2000
        · have i3 : p ≤ 2000 := by omega
          by_cases h4 : b.length = 0
          · have i4 : (b.length : Int) = 0 := by omega
            go_wp2
            go_ret
            exact ⟨congrArg (fun b => Ending.returned (Value.bool b)) (by rw [hO.out]; simp [h0, h1, h2, h3, h4] <;> (intros; omega)), abA⟩
          · have i4 : ¬ (b.length : Int) = 0 := by omega
            go_wp2
            go_ret
            exact ⟨congrArg (fun b => Ending.returned (Value.bool b)) (by rw [hO.out]; simp [h0, h1, h2, h3, h4] <;> (intros; omega)), abA⟩
        · have i3 : ¬ p ≤ 2000 := by omega
          go_wp2
          go_ret
          exact ⟨congrArg (fun b => Ending.returned (Value.bool b)) (by rw [hO.out]; simp [h0, h1, h2, h3] <;> (intros; omega)), abA⟩
      · have i2 : ¬ (0 : Int) ≤ p := by omega
        go_wp2
        go_ret
        exact ⟨congrArg (fun b => Ending.returned (Value.bool b)) (by rw [hO.out]; simp [h0, h1, h2] <;> (intros; omega)), abA⟩
    · have i1 : ¬ n ≤ 2000 := by omega
      go_wp2
      go_ret
      exact ⟨congrArg (fun b => Ending.returned (Value.bool b)) (by rw [hO.out]; simp [h0, h1] <;> (intros; omega)), abA⟩
  · have i0 : ¬ (1 : Int) ≤ n := by omega
    go_wp2
    go_ret
    exact ⟨congrArg (fun b => Ending.returned (Value.bool b)) (by rw [hO.out]; simp [h0] <;> (intros; omega)), abA⟩
set_option maxRecDepth 100000 in
theorem isinsert_any (x : PM) (w : World) : Calls Try.prog 47 #[.agg x.cells.toArray] w fun e w' => e = .returned (.bool (Dl.inserts x.d)) ∧ Ab w w' := by
  obtain ⟨p, n, A, b, c⟩ := x
  show Calls Try.prog 47 #[.agg #[.int .i64 p, .int .i64 n, .slice A b.length c]] w _
  have hO : Hid (Dl.inserts (PM.d ⟨p, n, A, b, c⟩) = (decide (n = 0) && decide (p = 0) && decide (1 ≤ b.length) && decide (b.length ≤ 2000))) := Lib.hid rfl
  generalize Dl.inserts _ = q at *
  go_enter Try.func47, Try.ntmps47
  by_cases h0 : n = 0
  · have i0 : n = 0 := by omega
    by_cases h1 : p = 0
    · have i1 : p = 0 := by omega
      by_cases h2 : 1 ≤ b.length
      · have i2 : (1 : Int) ≤ (b.length : Int) := by omega
        by_cases h3 : b.length ≤ 2000
        · have i3 : (b.length : Int) ≤ 2000 := by omega
          go_wp2
          go_ret
          exact ⟨congrArg (fun b => Ending.returned (Value.bool b)) (by rw [hO.out]; simp [h0, h1, h2, h3] <;> (intros; omega)), abA⟩
        · have i3 : ¬ (b.length : Int) ≤ 2000 := by omega
          go_wp2
          go_ret
          exact ⟨congrArg (fun b => Ending.returned (Value.bool b)) (by rw [hO.out]; simp [h0, h1, h2, h3] <;> (intros; omega)), abA⟩
      · have i2 : ¬ (1 : Int) ≤ (b.length : Int) := by omega
        go_wp2
        go_ret
        exact ⟨congrArg (fun b => Ending.returned (Value.bool b)) (by rw [hO.out]; simp [h0, h1, h2] <;> (intros; omega)), abA⟩
    · have i1 : ¬ p = 0 := by omega
      go_wp2
      go_ret
      exact ⟨congrArg (fun b => Ending.returned (Value.bool b)) (by rw [hO.out]; simp [h0, h1] <;> (intros; omega)), abA⟩
  · have i0 : ¬ n = 0 := by omega
    go_wp2
    go_ret
    exact ⟨congrArg (fun b => Ending.returned (Value.bool b)) (by rw [hO.out]; simp [h0] <;> (intros; omega)), abA⟩
set_option maxRecDepth 100000 in
theorem rinserts_any (x : PM) (w : World) : Calls Try.prog 46 #[.agg x.cells.toArray] w fun e w' => e = .returned (.bool (Dl.inserts x.d)) ∧ Ab w w' := by
  obtain ⟨p, n, A, b, c⟩ := x
  show Calls Try.prog 46 #[.agg #[.int .i64 p, .int .i64 n, .slice A b.length c]] w _
  have hO : Hid (Dl.inserts (PM.d ⟨p, n, A, b, c⟩) = (decide (n = 0) && decide (p = 0) && decide (1 ≤ b.length) && decide (b.length ≤ 2000))) := Lib.hid rfl
  generalize Dl.inserts _ = q at *
  go_enter Try.func46, Try.ntmps46
  by_cases h0 : n = 0
  · have i0 : n = 0 := by omega
    by_cases h1 : p = 0
    · have i1 : p = 0 := by omega
      by_cases h2 : 1 ≤ b.length
      · have i2 : (1 : Int) ≤ (b.length : Int) := by omega
        by_cases h3 : b.length ≤ 2000
        · have i3 : (b.length : Int) ≤ 2000 := by omega
          go_wp2
          go_ret
          exact ⟨congrArg (fun b => Ending.returned (Value.bool b)) (by rw [hO.out]; simp [h0, h1, h2, h3] <;> (intros; omega)), abA⟩
        · have i3 : ¬ (b.length : Int) ≤ 2000 := by omega
          go_wp2
          go_ret
          exact ⟨congrArg (fun b => Ending.returned (Value.bool b)) (by rw [hO.out]; simp [h0, h1, h2, h3] <;> (intros; omega)), abA⟩
      · have i2 : ¬ (1 : Int) ≤ (b.length : Int) := by omega
        go_wp2
        go_ret
        exact ⟨congrArg (fun b => Ending.returned (Value.bool b)) (by rw [hO.out]; simp [h0, h1, h2] <;> (intros; omega)), abA⟩
    · have i1 : ¬ p = 0 := by omega
      go_wp2
      go_ret
      exact ⟨congrArg (fun b => Ending.returned (Value.bool b)) (by rw [hO.out]; simp [h0, h1] <;> (intros; omega)), abA⟩
  · have i0 : ¬ n = 0 := by omega
    go_wp2
    go_ret
    exact ⟨congrArg (fun b => Ending.returned (Value.bool b)) (by rw [hO.out]; simp [h0] <;> (intros; omega)), abA⟩
theorem valid_of {xs : List PM} (h2 : xs.length ≤ 200) : (∀ k, k < xs.length → (∃ h : k < xs.length, Dl.fine xs[k].d = false) → Dl.valid (xs.map PM.d) = 8) ∧ ((∀ j (h : j < xs.length), Dl.fine xs[j].d = true) → Dl.valid (xs.map PM.d) = 0) := by
  refine ⟨fun k hk ⟨h, hf⟩ => ?_, fun hf => ?_⟩
  · unfold Dl.valid
    rw [if_neg (by simp; omega), if_neg]
    intro ha
    have := List.all_eq_true.1 ha xs[k].d (List.mem_map.2 ⟨_, List.getElem_mem h, rfl⟩)
    rw [hf] at this; cases this
  · refine Dl.valid_zero.2 ⟨by simp; omega, fun y hy => ?_⟩
    obtain ⟨x, hx, rfl⟩ := List.mem_map.1 hy
    obtain ⟨j, hj, rfl⟩ := List.getElem_of_mem hx
    exact hf j hj
set_option maxRecDepth 100000 in
set_option maxHeartbeats 1000000 in
theorem checkparts_any (A : Option Addr) (c : Nat) (xs : List PM) (w : World) (h : Pts w A c xs) : Calls Try.prog 26 #[.slice A xs.length c] w fun e w' => e = .returned (.int .i64 (Dl.valid (xs.map PM.d))) ∧ Ab w w' := by
  by_cases h2 : xs.length ≤ 200
  · have k2 : ¬ (200 : Int) < (xs.length : Int) := by omega
    have HV := Lib.hid (valid_of h2)
    have H := Lib.hid h
    have hn' := h.n'
    clear h
    generalize Dl.valid _ = q at *
    go_enter Try.func26, Try.ntmps26
    go_wp2_with fail
    go_loopw [10] (fun i w' => ∃ k : Nat, k ≤ xs.length ∧ i = .int .i64 k ∧ Hid (∀ j (hj : j < xs.length), j < k → Dl.fine xs[j].d = true) ∧ Ab w w') (fun i _ => xs.length - (intOf i).toNat)
    case atStart => exact ⟨0, Nat.zero_le _, rfl, Lib.hid (fun j hj h => absurd h (by omega)), abA⟩
    case round =>
      obtain ⟨k, hk, rfl, hA, hb⟩ := hrel
      rename World => w1
      by_cases hlt : k < xs.length
      · have hT : (k : Int) < xs.length := by omega
        obtain ⟨g, o, rfl, hR0, _⟩ := pts_at H.out hlt
        have hR : w1.rangeAt g (o + k * 3) xs[k].cells := fun j u hu => hb.at (hR0 j u hu)
        have hS : Hid (Dl.fine xs[k].d = true → ∀ j (hj : j < xs.length), j < k + 1 → Dl.fine xs[j].d = true) := Lib.hid (fun hf j hj h => by
          by_cases e : j = k
          · subst e; exact hf
          · exact hA.out j hj (by omega))
        have hBad : Hid (Dl.fine xs[k].d = false → q = 8) := Lib.hid (fun hf => HV.out.1 k hlt ⟨hlt, hf⟩)
        have hF : Hid (Dl.fine xs[k].d = (Dl.copies xs[k].d || Dl.inserts xs[k].d)) := Lib.hid rfl
        generalize xs[k] = x at *
        clear hR0 hA
        have TC := fun w' => iscopy_any x w'
        have TI := fun w' => isinsert_any x w'
        generalize Dl.fine x.d = ff at *
        generalize Dl.copies x.d = fc at *
        generalize Dl.inserts x.d = fi at *
        have Z1 : VB (w1.alloc (.cells #[.int .i64 0, .int .i64 0, .slice none 0 0] 24)) w1.heap.size PM.zero.cells := VB.box (xs := #[.int .i64 0, .int .i64 0, .slice none 0 0]) (T := 24) (by (repeat (first | exact new_plain wnA | with_reducible refine old_alloc ?_ | with_reducible refine old_drew ?_ | with_reducible refine old_set ?_ wnA | with_reducible refine old_ab (by assumption) ?_)))
        go_upto_region 6 with (first
          | (refine list_ldP (o := ⟨some 13, _, _, _, _, _⟩) (o + k * 3) x hR (by kernel_rfl) _ rfl rfl ?_)
          | (refine list_stV (o := ⟨none, _, _, _, _, _⟩) (us := x.cells) _ infoP rfl _ _ rfl rfl rfl Z1 rfl rfl (PM.one x) ?_
             intro w2 h2))
        have b2 : Ab w1 w2 := h2.ab w1 abA (Nat.le_refl _)
        have V2 := h2.v
        clear Z1 h2
        generalize w1.heap.size = xb at *
        go_wp2_with (refine list_ldP (o := ⟨some 14, _, _, _, _, _⟩) 0 x (VB.range V2) (by kernel_rfl) _ rfl rfl ?_)
        refine (TC _).mono ?_
        rintro e w3 ⟨rfl, hb3⟩
        have V3 := V2.ab hb3
        have b3 := hb.trans (b2.trans hb3)
        cases fc with
        | true =>
          have hG := hS.out (by rw [hF.out]; rfl)
          go_wp2
          go_roundw
          case rel => exact ⟨k + 1, by omega, by go_num, Lib.hid hG, b3⟩
          case measure => simp [intOf] <;> omega
        | false =>
          go_wp2_with (refine list_ldP (o := ⟨some 18, _, _, _, _, _⟩) 0 x (VB.range V3) (by kernel_rfl) _ rfl rfl ?_)
          refine (TI _).mono ?_
          rintro e w4 ⟨rfl, hb4⟩
          have b4 := b3.trans hb4
          cases fi with
          | true =>
            have hG := hS.out (by rw [hF.out]; rfl)
            go_wp2
            go_roundw
            case rel => exact ⟨k + 1, by omega, by go_num, Lib.hid hG, b4⟩
            case measure => simp [intOf] <;> omega
          | false =>
            have hQ := hBad.out (by rw [hF.out]; rfl)
            go_wp2
            go_ret
            exact ⟨by rw [hQ]; rfl, b4⟩
      · obtain rfl : k = xs.length := by omega
        have hQ : q = 0 := HV.out.2 (fun j hj => hA.out j hj hj)
        go_wp2
        go_ret
        exact ⟨by rw [hQ]; rfl, hb⟩
  · have k2 : (200 : Int) < (xs.length : Int) := by omega
    have hQ : Hid (Dl.valid (xs.map PM.d) = 4) := by unfold Hid Dl.valid; rw [if_pos (by simp; omega)]
    generalize Dl.valid _ = q at *
    go_enter Try.func26, Try.ntmps26
    go_wp2
    go_ret
    exact ⟨by rw [hQ.out]; rfl, abA⟩
set_option maxRecDepth 100000 in
set_option maxHeartbeats 1000000 in
theorem rvalid_any (A : Option Addr) (c : Nat) (xs : List PM) (w : World) (h : Pts w A c xs) : Calls Try.prog 37 #[.slice A xs.length c] w fun e w' => e = .returned (.int .i64 (Dl.valid (xs.map PM.d))) ∧ Ab w w' := by
  by_cases h2 : xs.length ≤ 200
  · have k2 : ¬ (200 : Int) < (xs.length : Int) := by omega
    have HV := Lib.hid (valid_of h2)
    have H := Lib.hid h
    have hn' := h.n'
    clear h
    generalize Dl.valid _ = q at *
    go_enter Try.func37, Try.ntmps37
    go_wp2_with fail
    go_loopw [3] (fun i w' => ∃ k : Nat, k ≤ xs.length ∧ i = .int .i64 k ∧ Hid (∀ j (hj : j < xs.length), j < k → Dl.fine xs[j].d = true) ∧ Ab w w') (fun i _ => xs.length - (intOf i).toNat)
    case atStart => exact ⟨0, Nat.zero_le _, rfl, Lib.hid (fun j hj h => absurd h (by omega)), abA⟩
    case round =>
      obtain ⟨k, hk, rfl, hA, hb⟩ := hrel
      rename World => w1
      by_cases hlt : k < xs.length
      · have hT : (k : Int) < xs.length := by omega
        obtain ⟨g, o, rfl, hR0, _⟩ := pts_at H.out hlt
        have hR : w1.rangeAt g (o + k * 3) xs[k].cells := fun j u hu => hb.at (hR0 j u hu)
        have hS : Hid (Dl.fine xs[k].d = true → ∀ j (hj : j < xs.length), j < k + 1 → Dl.fine xs[j].d = true) := Lib.hid (fun hf j hj h => by
          by_cases e : j = k
          · subst e; exact hf
          · exact hA.out j hj (by omega))
        have hBad : Hid (Dl.fine xs[k].d = false → q = 8) := Lib.hid (fun hf => HV.out.1 k hlt ⟨hlt, hf⟩)
        have hF : Hid (Dl.fine xs[k].d = (Dl.copies xs[k].d || Dl.inserts xs[k].d)) := Lib.hid rfl
        generalize xs[k] = x at *
        clear hR0 hA
        have TC := fun w' => rcopies_any x w'
        have TI := fun w' => rinserts_any x w'
        generalize Dl.fine x.d = ff at *
        generalize Dl.copies x.d = fc at *
        generalize Dl.inserts x.d = fi at *
        go_wp2_with (refine list_ldP (o := ⟨some 16, _, _, _, _, _⟩) (o + k * 3) x hR (by kernel_rfl) _ rfl rfl ?_)
        refine (TC _).mono ?_
        rintro e w3 ⟨rfl, hb3⟩
        have hR3 : w3.rangeAt g (o + k * 3) x.cells := fun j u hu => hb3.at (hR j u hu)
        have b3 := hb.trans hb3
        cases fc with
        | true =>
          have hG := hS.out (by rw [hF.out]; rfl)
          go_wp2
          go_roundw
          case rel => exact ⟨k + 1, by omega, by go_num, Lib.hid hG, b3⟩
          case measure => simp [intOf] <;> omega
        | false =>
          go_wp2_with (refine list_ldP (o := ⟨some 23, _, _, _, _, _⟩) (o + k * 3) x hR3 (by kernel_rfl) _ rfl rfl ?_)
          refine (TI _).mono ?_
          rintro e w4 ⟨rfl, hb4⟩
          have b4 := b3.trans hb4
          cases fi with
          | true =>
            have hG := hS.out (by rw [hF.out]; rfl)
            go_wp2
            go_roundw
            case rel => exact ⟨k + 1, by omega, by go_num, Lib.hid hG, b4⟩
            case measure => simp [intOf] <;> omega
          | false =>
            have hQ := hBad.out (by rw [hF.out]; rfl)
            go_wp2
            go_ret
            exact ⟨by rw [hQ]; rfl, b4⟩
      · obtain rfl : k = xs.length := by omega
        have hQ : q = 0 := HV.out.2 (fun j hj => hA.out j hj hj)
        go_wp2
        go_ret
        exact ⟨by rw [hQ]; rfl, hb⟩
  · have k2 : (200 : Int) < (xs.length : Int) := by omega
    have hQ : Hid (Dl.valid (xs.map PM.d) = 4) := by unfold Hid Dl.valid; rw [if_pos (by simp; omega)]
    generalize Dl.valid _ = q at *
    go_enter Try.func37, Try.ntmps37
    go_wp2
    go_ret
    exact ⟨by rw [hQ.out]; rfl, abA⟩
end Go.Proofs.Ytjgijpfknhfnjaa
