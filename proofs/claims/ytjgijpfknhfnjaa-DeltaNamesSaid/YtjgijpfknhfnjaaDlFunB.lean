/- Checks and costs of deltas, what is great, walked. Own work. -/
import Derived.Test.YtjgijpfknhfnjaaDlFunA
set_option linter.unusedVariables false
set_option linter.unusedSimpArgs false
namespace Go.Proofs.Ytjgijpfknhfnjaa
open Go.RowKit

theorem check_of {xs : List PM} {base : Int} (hv : Dl.valid (xs.map PM.d) = 0) : (∀ k (h : k < xs.length), Dl.over base xs[k].d = true → Dl.check (xs.map PM.d) base = 16) ∧ ((∀ j (h : j < xs.length), Dl.over base xs[j].d = false) → Dl.check (xs.map PM.d) base = 0) := by
  refine ⟨fun k h hf => ?_, fun hf => ?_⟩
  · unfold Dl.check
    rw [if_pos hv, if_pos]
    exact List.any_eq_true.2 ⟨xs[k].d, List.mem_map.2 ⟨_, List.getElem_mem h, rfl⟩, hf⟩
  · refine Dl.check_zero.2 ⟨hv, fun y hy => ?_⟩
    obtain ⟨x, hx, rfl⟩ := List.mem_map.1 hy
    obtain ⟨j, hj, rfl⟩ := List.getElem_of_mem hx
    exact hf j hj
theorem cost_bound {xs : List PM} (hv : Dl.valid (xs.map PM.d) = 0) (k : Nat) : 0 ≤ Dl.sum ((xs.map PM.d).take k) ∧ Dl.sum ((xs.map PM.d).take k) ≤ 1000000 := by
  have h := Dl.valid_zero.1 hv
  have h1 := Dl.sum_bound ((xs.map PM.d).take k) 3000 (fun x hx => by
    have hf := h.2 x (List.mem_of_mem_take hx)
    unfold Dl.cost1
    split
    · omega
    · rename_i hc
      unfold Dl.fine at hf
      simp only [Bool.not_eq_true] at hc
      rw [hc, Bool.false_or] at hf
      have := (Dl.inserts_iff.1 hf).2.2
      omega)
  have h2 : ((xs.map PM.d).take k).length ≤ 200 := by
    have := h.1
    simp at this ⊢
    omega
  omega
theorem cost_next {xs : List PM} {k : Nat} (h : k < xs.length) : Dl.sum ((xs.map PM.d).take (k + 1)) = Dl.sum ((xs.map PM.d).take k) + Dl.cost1 xs[k].d := by
  have := Dl.sum_take_succ (xs.map PM.d) k (by simpa using h)
  simpa using this
set_option maxRecDepth 100000 in
set_option maxHeartbeats 1000000 in
theorem dcheck_any (A : Option Addr) (c : Nat) (xs : List PM) (base : Int) (w : World) (h : Pts w A c xs) : Calls Try.prog 12 #[.slice A xs.length c, .int .i64 base] w fun e w' => e = .returned (.int .i64 (Dl.check (xs.map PM.d) base)) ∧ Ab w w' := by
  have TV := fun w' (k : Ab w w') => checkparts_any A c xs w' (h.ab k)
  have hn' := h.n'
  by_cases hv : Dl.valid (xs.map PM.d) = 0
  · have HC := Lib.hid (check_of (base := base) hv)
    have HF := Lib.hid (Dl.valid_zero.1 hv).2
    have H := Lib.hid h
    rw [hv] at TV
    clear h hv
    generalize Dl.check _ base = q at *
    go_enter Try.func12, Try.ntmps12
    go_wp2_with fail
    refine (TV _ abA).mono ?_
    rintro e w0 ⟨rfl, hb0⟩
    have b0 : Ab w w0 := Ab.trans abA hb0
    go_wp2_with fail
    go_loopw [15] (fun i w' => ∃ k : Nat, k ≤ xs.length ∧ i = .int .i64 k ∧ Hid (∀ j (hj : j < xs.length), j < k → Dl.over base xs[j].d = false) ∧ Ab w w') (fun i _ => xs.length - (intOf i).toNat)
    case atStart => exact ⟨0, Nat.zero_le _, rfl, Lib.hid (fun j hj h => absurd h (by omega)), b0⟩
    case round =>
      obtain ⟨k, hk, rfl, hA, hb⟩ := hrel
      rename World => w1
      by_cases hlt : k < xs.length
      · have hT : (k : Int) < xs.length := by omega
        obtain ⟨g, o, rfl, hR0, _⟩ := pts_at H.out hlt
        have hR : w1.rangeAt g (o + k * 3) xs[k].cells := fun j u hu => hb.at (hR0 j u hu)
        have hS : Hid (Dl.over base xs[k].d = false → ∀ j (hj : j < xs.length), j < k + 1 → Dl.over base xs[j].d = false) := Lib.hid (fun hf j hj h => by
          by_cases e : j = k
          · subst e; exact hf
          · exact hA.out j hj (by omega))
        have hBad : Hid (Dl.over base xs[k].d = true → q = 16) := Lib.hid (fun hf => HC.out.1 k hlt hf)
        have hO : Hid (Dl.over base xs[k].d = (Dl.copies xs[k].d && decide (base < xs[k].p + xs[k].n))) := Lib.hid rfl
        have hCp : Hid (Dl.copies xs[k].d = true → 1 ≤ xs[k].n ∧ xs[k].n ≤ 2000 ∧ 0 ≤ xs[k].p ∧ xs[k].p ≤ 2000) := Lib.hid (fun h => by
          obtain ⟨h1, h2, h3, h4, _⟩ := Dl.copies_iff.1 h
          exact ⟨h1, h2, h3, h4⟩)
        generalize xs[k] = x at *
        clear hR0 hA
        have TC := fun w' => iscopy_any x w'
        generalize Dl.over base x.d = ff at *
        generalize Dl.copies x.d = fc at *
        have Z1 : VB (w1.alloc (.cells #[.int .i64 0, .int .i64 0, .slice none 0 0] 24)) w1.heap.size PM.zero.cells := VB.box (xs := #[.int .i64 0, .int .i64 0, .slice none 0 0]) (T := 24) (by (repeat (first | exact new_plain wnA | with_reducible refine old_alloc ?_ | with_reducible refine old_drew ?_ | with_reducible refine old_set ?_ wnA | with_reducible refine old_ab (by assumption) ?_)))
        go_upto_region 7 with (first
          | (refine list_ldP (o := ⟨some 18, _, _, _, _, _⟩) (o + k * 3) x hR (by kernel_rfl) _ rfl rfl ?_)
          | (refine list_stV (o := ⟨none, _, _, _, _, _⟩) (us := x.cells) _ infoP rfl _ _ rfl rfl rfl Z1 rfl rfl (PM.one x) ?_
             intro w2 h2))
        have b2 : Ab w1 w2 := h2.ab w1 abA (Nat.le_refl _)
        have V2 := h2.v
        clear Z1 h2
        generalize w1.heap.size = xb at *
        go_wp2_with (refine list_ldP (o := ⟨some 19, _, _, _, _, _⟩) 0 x (VB.range V2) (by kernel_rfl) _ rfl rfl ?_)
        refine (TC _).mono ?_
        rintro e w3 ⟨rfl, hb3⟩
        have V3 := V2.ab hb3
        have b3 := hb.trans (b2.trans hb3)
        have c0 := V3.at 0 (v := .int .i64 x.p) rfl
        have c1 := V3.at 1 (v := .int .i64 x.n) rfl
        cases fc with
        | false =>
          have hG := hS.out (by rw [hO.out]; simp)
          go_wp2
          go_roundw
          case rel => exact ⟨k + 1, by omega, by go_num, Lib.hid hG, b3⟩
          case measure => simp [intOf] <;> omega
        | true =>
          obtain ⟨n1, n2, p1, p2⟩ := hCp.out rfl
          have hw : IntKind.i64.wrap (x.p + x.n) = x.p + x.n := IntWalk.i64_in _ (by omega)
          by_cases ho : base < x.p + x.n
          · have HO := Lib.hid ho
            have hQ := hBad.out (by rw [hO.out]; simp [HO.out])
            go_wp2
            go_ret
            exact ⟨by first | (rw [hQ]; rfl) | rfl, b3⟩
          · have HO := Lib.hid ho
            have hG := hS.out (by rw [hO.out]; simp [HO.out] <;> (intros; omega))
            go_wp2
            go_roundw
            case rel => exact ⟨k + 1, by omega, by go_num, Lib.hid hG, b3⟩
            case measure => simp [intOf] <;> omega
      · obtain rfl : k = xs.length := by omega
        have hQ : q = 0 := HC.out.2 (fun j hj => hA.out j hj hj)
        go_wp2
        go_ret
        exact ⟨by rw [hQ]; rfl, hb⟩
  · have hQ : Hid (Dl.check (xs.map PM.d) base = Dl.valid (xs.map PM.d)) := by unfold Hid Dl.check; rw [if_neg hv]
    generalize Dl.check _ base = q at *
    generalize Dl.valid _ = v at *
    have hne : (v != 0) = true := by simpa using hv
    have HV := Lib.hid hv
    clear hv h
    go_enter Try.func12, Try.ntmps12
    go_wp2_with fail
    refine (TV _ abA).mono ?_
    rintro e w0 ⟨rfl, hb0⟩
    have b0 : Ab w w0 := Ab.trans abA hb0
    go_wp2
    go_ret
    exact ⟨by rw [hQ.out]; rfl, b0⟩
set_option maxRecDepth 100000 in
set_option maxHeartbeats 1000000 in
theorem rdcheck_any (A : Option Addr) (c : Nat) (xs : List PM) (base : Int) (w : World) (h : Pts w A c xs) : Calls Try.prog 21 #[.slice A xs.length c, .int .i64 base] w fun e w' => e = .returned (.int .i64 (Dl.check (xs.map PM.d) base)) ∧ Ab w w' := by
  have TV := fun w' (k : Ab w w') => rvalid_any A c xs w' (h.ab k)
  have hn' := h.n'
  by_cases hv : Dl.valid (xs.map PM.d) = 0
  · have HC := Lib.hid (check_of (base := base) hv)
    have HF := Lib.hid (Dl.valid_zero.1 hv).2
    have H := Lib.hid h
    rw [hv] at TV
    clear h hv
    generalize Dl.check _ base = q at *
    go_enter Try.func21, Try.ntmps21
    go_wp2_with fail
    refine (TV _ abA).mono ?_
    rintro e w0 ⟨rfl, hb0⟩
    have b0 : Ab w w0 := Ab.trans abA hb0
    go_wp2_with fail
    go_loopw [5] (fun i w' => ∃ k : Nat, k ≤ xs.length ∧ i = .int .i64 k ∧ Hid (∀ j (hj : j < xs.length), j < k → Dl.over base xs[j].d = false) ∧ Ab w w') (fun i _ => xs.length - (intOf i).toNat)
    case atStart => exact ⟨0, Nat.zero_le _, rfl, Lib.hid (fun j hj h => absurd h (by omega)), b0⟩
    case round =>
      obtain ⟨k, hk, rfl, hA, hb⟩ := hrel
      rename World => w1
      by_cases hlt : k < xs.length
      · have hT : (k : Int) < xs.length := by omega
        obtain ⟨g, o, rfl, hR0, _⟩ := pts_at H.out hlt
        have hR : w1.rangeAt g (o + k * 3) xs[k].cells := fun j u hu => hb.at (hR0 j u hu)
        have hS : Hid (Dl.over base xs[k].d = false → ∀ j (hj : j < xs.length), j < k + 1 → Dl.over base xs[j].d = false) := Lib.hid (fun hf j hj h => by
          by_cases e : j = k
          · subst e; exact hf
          · exact hA.out j hj (by omega))
        have hBad : Hid (Dl.over base xs[k].d = true → q = 16) := Lib.hid (fun hf => HC.out.1 k hlt hf)
        have hO : Hid (Dl.over base xs[k].d = (Dl.copies xs[k].d && decide (base < xs[k].p + xs[k].n))) := Lib.hid rfl
        have hCp : Hid (Dl.copies xs[k].d = true → 1 ≤ xs[k].n ∧ xs[k].n ≤ 2000 ∧ 0 ≤ xs[k].p ∧ xs[k].p ≤ 2000) := Lib.hid (fun h => by
          obtain ⟨h1, h2, h3, h4, _⟩ := Dl.copies_iff.1 h
          exact ⟨h1, h2, h3, h4⟩)
        generalize xs[k] = x at *
        clear hR0 hA
        have TC := fun w' => rcopies_any x w'
        generalize Dl.over base x.d = ff at *
        generalize Dl.copies x.d = fc at *
        have cP : w1.cell? ⟨g, o + k * 3, none⟩ = some (.int .i64 x.p) := hR 0 _ rfl
        have cN : w1.cell? ⟨g, o + k * 3 + 1, none⟩ = some (.int .i64 x.n) := hR 1 _ rfl
        go_upto_region 6 with fail
        refine wp_region_held_drew (by kernel_rfl) (S := fun w' => w'.rangeAt g (o + k * 3) x.cells ∧ w'.cell? ⟨g, o + k * 3, none⟩ = some (.int .i64 x.p) ∧ w'.cell? ⟨g, o + k * 3 + 1, none⟩ = some (.int .i64 x.n)) ?_ (fun hHeld => ?_)
        · exact ⟨fun j u hu => cell_drew (hR j u hu), cell_drew cP, cell_drew cN⟩
        (refine rtA 0 ?_ ?_
         (try simp only [Act.put, stA, st0, st1]))
        (refine rtA 1 ?_ ?_
         (try simp only [Act.put, stA, st0, st1]))
        (refine rtA 2 ?_ ?_
         (try simp only [Act.put, stA, st0, st1]))
        (try simp only [Act.put, List.getElem_toArray, List.getElem_cons_succ, List.getElem_cons_zero, stA, st0, st1])
        (refine rtL 3 x.cells (o + k * 3) (fun w hSw => hSw.1) Try.underlying24 ?_ (hz := by rw [infoP]; rfl)
         (try simp only [Act.put, stA, st0, st1]))
        refine r1A 4 (fun K hK => ?_)
        (go_simp
         (refine (TC _).mono ?_; rintro e w3 ⟨rfl, hb3⟩)
         (try go_wp2_with fail)
         (refine hK.out _ _ ?_ (fun hHeld => ?_)
          · (try dsimp only); exact ⟨fun j u hu => hb3.at (cell_drew (hR j u hu)), hb3.at (cell_drew cP), hb3.at (cell_drew cN)⟩
          clear hK K
          (try simp only [Act.put, stA, st0, st1])))
        have b3 : Ab w w3 := hb.trans (Ab.trans (by exact abA) hb3)
        (refine rtA 5 ?_ ?_
         (try simp only [Act.put, stA, st0, st1]))
        cases fc with
        | false =>
          (refine rtS 6 ?_
           (try simp only [Act.put, stA, st0, st1]))
          (refine rtS 7 ?_
           (try simp only [Act.put, stA, st0, st1]))
          (refine rtS 8 ?_
           (try simp only [Act.put, stA, st0, st1]))
          (refine rtS 9 ?_
           (try simp only [Act.put, stA, st0, st1]))
          (refine rtS 10 ?_
           (try simp only [Act.put, stA, st0, st1]))
          (refine rtS 11 ?_
           (try simp only [Act.put, stA, st0, st1]))
          (refine rtS 12 ?_
           (try simp only [Act.put, stA, st0, st1]))
          (refine rtS 13 ?_
           (try simp only [Act.put, stA, st0, st1]))
          (refine rtS 14 ?_
           (try simp only [Act.put, stA, st0, st1]))
          (refine rtS 15 ?_
           (try simp only [Act.put, stA, st0, st1]))
          (refine rtS 16 ?_
           (try simp only [Act.put, stA, st0, st1]))
          (refine rtS 17 ?_
           (try simp only [Act.put, stA, st0, st1]))
          (refine rtS 18 ?_
           (try simp only [Act.put, stA, st0, st1]))
          refine r1A 19 (fun K hK => ?_)
          (go_simp
           (refine hK.out _ _ ?_ (fun hHeld => ?_)
            · (try dsimp only); exact hHeld
            clear hK K
            (try simp only [Act.put, stA, st0, st1])))
          refine wpAnyH_done (by kernel_rfl) ?_ _
          have hG := hS.out (by rw [hO.out]; simp)
          go_wp2
          go_roundw
          case rel => exact ⟨k + 1, by omega, by go_num, Lib.hid hG, b3⟩
          case measure => simp [intOf] <;> omega
        | true =>
          obtain ⟨n1, n2, p1, p2⟩ := hCp.out rfl
          have hw : IntKind.i64.wrap (x.p + x.n) = x.p + x.n := IntWalk.i64_in _ (by omega)
          by_cases ho : base < x.p + x.n
          · have HO := Lib.hid ho
            have hd : decide (base < x.p + x.n) = true := decide_eq_true ho
            (refine rtA 6 ?_ ?_
             (try simp only [Act.put, stA, st0, st1]))
            (refine rtA 7 ?_ ?_
             (try simp only [Act.put, stA, st0, st1]))
            (refine rtA 8 ?_ ?_
             (try simp only [Act.put, stA, st0, st1]))
            (refine rtA 9 ?_ ?_
             (try simp only [Act.put, stA, st0, st1]))
            (try simp only [Act.put, List.getElem_toArray, List.getElem_cons_succ, List.getElem_cons_zero, stA, st0, st1])
            (refine rtA 10 (.int .i64 x.p) ?_ (hy := by intro w hSw; have z0 := hSw.2.1; go_simp; (try with_reducible rfl)); (try simp only [Act.put, stA, st0, st1]))
            (refine rtA 11 ?_ ?_
             (try simp only [Act.put, stA, st0, st1]))
            (refine rtA 12 ?_ ?_
             (try simp only [Act.put, stA, st0, st1]))
            (refine rtA 13 ?_ ?_
             (try simp only [Act.put, stA, st0, st1]))
            (refine rtA 14 ?_ ?_
             (try simp only [Act.put, stA, st0, st1]))
            (try simp only [Act.put, List.getElem_toArray, List.getElem_cons_succ, List.getElem_cons_zero, stA, st0, st1])
            (refine rtA 15 (.int .i64 x.n) ?_ (hy := by intro w hSw; have z0 := hSw.2.2; go_simp; (try with_reducible rfl)); (try simp only [Act.put, stA, st0, st1]))
            (try simp only [Act.put, List.getElem_toArray, List.getElem_cons_succ, List.getElem_cons_zero, stA, st0, st1])
            (refine rtA 16 (.int .i64 (x.p + x.n)) ?_ (hy := by intro w hSw; go_simp; (try rw [hw]); (try with_reducible rfl)); (try simp only [Act.put, stA, st0, st1]))
            (refine rtA 17 ?_ ?_
             (try simp only [Act.put, stA, st0, st1]))
            (refine rtA 18 (.bool true) ?_ (hy := by intro w hSw; go_simp; (try rw [hd]); (try with_reducible rfl)); (try simp only [Act.put, stA, st0, st1]))
            refine r1A 19 (fun K hK => ?_)
            (go_simp
             (refine hK.out _ _ ?_ (fun hHeld => ?_)
              · (try dsimp only); exact hHeld
              clear hK K
              (try simp only [Act.put, stA, st0, st1])))
            refine wpAnyH_done (by kernel_rfl) ?_ _
            have hQ := hBad.out (by rw [hO.out]; simp [HO.out])
            go_wp2
            go_ret
            exact ⟨by first | (rw [hQ]; rfl) | rfl, b3⟩
          · have HO := Lib.hid ho
            have hd : decide (base < x.p + x.n) = false := decide_eq_false ho
            (refine rtA 6 ?_ ?_
             (try simp only [Act.put, stA, st0, st1]))
            (refine rtA 7 ?_ ?_
             (try simp only [Act.put, stA, st0, st1]))
            (refine rtA 8 ?_ ?_
             (try simp only [Act.put, stA, st0, st1]))
            (refine rtA 9 ?_ ?_
             (try simp only [Act.put, stA, st0, st1]))
            (try simp only [Act.put, List.getElem_toArray, List.getElem_cons_succ, List.getElem_cons_zero, stA, st0, st1])
            (refine rtA 10 (.int .i64 x.p) ?_ (hy := by intro w hSw; have z0 := hSw.2.1; go_simp; (try with_reducible rfl)); (try simp only [Act.put, stA, st0, st1]))
            (refine rtA 11 ?_ ?_
             (try simp only [Act.put, stA, st0, st1]))
            (refine rtA 12 ?_ ?_
             (try simp only [Act.put, stA, st0, st1]))
            (refine rtA 13 ?_ ?_
             (try simp only [Act.put, stA, st0, st1]))
            (refine rtA 14 ?_ ?_
             (try simp only [Act.put, stA, st0, st1]))
            (try simp only [Act.put, List.getElem_toArray, List.getElem_cons_succ, List.getElem_cons_zero, stA, st0, st1])
            (refine rtA 15 (.int .i64 x.n) ?_ (hy := by intro w hSw; have z0 := hSw.2.2; go_simp; (try with_reducible rfl)); (try simp only [Act.put, stA, st0, st1]))
            (try simp only [Act.put, List.getElem_toArray, List.getElem_cons_succ, List.getElem_cons_zero, stA, st0, st1])
            (refine rtA 16 (.int .i64 (x.p + x.n)) ?_ (hy := by intro w hSw; go_simp; (try rw [hw]); (try with_reducible rfl)); (try simp only [Act.put, stA, st0, st1]))
            (refine rtA 17 ?_ ?_
             (try simp only [Act.put, stA, st0, st1]))
            (refine rtA 18 (.bool false) ?_ (hy := by intro w hSw; go_simp; (try rw [hd]); (try with_reducible rfl)); (try simp only [Act.put, stA, st0, st1]))
            refine r1A 19 (fun K hK => ?_)
            (go_simp
             (refine hK.out _ _ ?_ (fun hHeld => ?_)
              · (try dsimp only); exact hHeld
              clear hK K
              (try simp only [Act.put, stA, st0, st1])))
            refine wpAnyH_done (by kernel_rfl) ?_ _
            have hG := hS.out (by rw [hO.out]; simp [HO.out] <;> (intros; omega))
            go_wp2
            go_roundw
            case rel => exact ⟨k + 1, by omega, by go_num, Lib.hid hG, b3⟩
            case measure => simp [intOf] <;> omega
      · obtain rfl : k = xs.length := by omega
        have hQ : q = 0 := HC.out.2 (fun j hj => hA.out j hj hj)
        go_wp2
        go_ret
        exact ⟨by rw [hQ]; rfl, hb⟩
  · have hQ : Hid (Dl.check (xs.map PM.d) base = Dl.valid (xs.map PM.d)) := by unfold Hid Dl.check; rw [if_neg hv]
    generalize Dl.check _ base = q at *
    generalize Dl.valid _ = v at *
    have hne : (v != 0) = true := by simpa using hv
    have HV := Lib.hid hv
    clear hv h
    go_enter Try.func21, Try.ntmps21
    go_wp2_with fail
    refine (TV _ abA).mono ?_
    rintro e w0 ⟨rfl, hb0⟩
    have b0 : Ab w w0 := Ab.trans abA hb0
    go_wp2_with fail
    refine (TV _ b0).mono ?_
    rintro e w1 ⟨rfl, hb1⟩
    have b0 := b0.trans hb1
    go_wp2
    go_ret
    exact ⟨by rw [hQ.out]; rfl, b0⟩
set_option maxRecDepth 100000 in
set_option maxHeartbeats 1000000 in
theorem cost_any (A : Option Addr) (c : Nat) (xs : List PM) (w : World) (h : Pts w A c xs) : Calls Try.prog 9 #[.slice A xs.length c] w fun e w' => e = .returned (.tuple #[.int .i64 (Dl.cost (xs.map PM.d)).1, .int .i64 (Dl.cost (xs.map PM.d)).2]) ∧ Ab w w' := by
  have TV := fun w' (k : Ab w w') => checkparts_any A c xs w' (h.ab k)
  have hn' := h.n'
  by_cases hv : Dl.valid (xs.map PM.d) = 0
  · have HB := Lib.hid (fun k => cost_bound hv k)
    have HL := Lib.hid (Dl.valid_zero.1 hv).1
    have HC : Hid (Dl.cost (xs.map PM.d) = (Dl.sum ((xs.map PM.d).take xs.length), 0)) := by
      unfold Hid Dl.cost
      rw [if_pos hv, List.take_of_length_le (by simp)]
    have HN := Lib.hid (fun k (h : k < xs.length) => cost_next h)
    have H := Lib.hid h
    rw [hv] at TV
    clear h hv
    generalize Dl.cost _ = q at *
    go_enter Try.func9, Try.ntmps9
    go_wp2_with fail
    refine (TV _ abA).mono ?_
    rintro e w0 ⟨rfl, hb0⟩
    have b0 : Ab w w0 := Ab.trans abA hb0
    go_wp2_with fail
    go_loopw [5, 15] (fun n i w' => ∃ (k : Nat) (s : Int), k ≤ xs.length ∧ n = .int .i64 s ∧ i = .int .i64 k ∧ Hid (s = Dl.sum ((xs.map PM.d).take k)) ∧ Ab w w') (fun _ i _ => xs.length - (intOf i).toNat)
    case atStart => exact ⟨0, 0, Nat.zero_le _, rfl, rfl, Lib.hid (by simp [Dl.sum]), b0⟩
    case round =>
      obtain ⟨k, s, hk, rfl, rfl, hA, hb⟩ := hrel
      rename World => w1
      have hs : 0 ≤ s ∧ s ≤ 1000000 := by rw [hA.out]; exact HB.out k
      by_cases hlt : k < xs.length
      · have hT : (k : Int) < xs.length := by omega
        obtain ⟨g, o, rfl, hR0, hPL⟩ := pts_at H.out hlt
        have hl' := hPL.l
        have hR : w1.rangeAt g (o + k * 3) xs[k].cells := fun j u hu => hb.at (hR0 j u hu)
        have hS : Hid (Dl.sum ((xs.map PM.d).take (k + 1)) = s + Dl.cost1 xs[k].d) := by unfold Hid; rw [HN.out k hlt, hA.out]
        have hb1 := HB.out (k + 1)
        rw [hS.out] at hb1
        have hO : Hid (Dl.cost1 xs[k].d = if Dl.copies xs[k].d then 3 else 1 + (xs[k].b.length : Int)) := Lib.hid rfl
        rw [hO.out] at hb1
        generalize xs[k] = x at *
        clear hR0 hA hPL
        have TC := fun w' => iscopy_any x w'
        generalize Dl.cost1 x.d = c1 at *
        generalize Dl.copies x.d = fc at *
        have Z1 : VB (w1.alloc (.cells #[.int .i64 0, .int .i64 0, .slice none 0 0] 24)) w1.heap.size PM.zero.cells := VB.box (xs := #[.int .i64 0, .int .i64 0, .slice none 0 0]) (T := 24) (by (repeat (first | exact new_plain wnA | with_reducible refine old_alloc ?_ | with_reducible refine old_drew ?_ | with_reducible refine old_set ?_ wnA | with_reducible refine old_ab (by assumption) ?_)))
        go_upto_region 8 with (first
          | (refine list_ldP (o := ⟨some 18, _, _, _, _, _⟩) (o + k * 3) x hR (by kernel_rfl) _ rfl rfl ?_)
          | (refine list_stV (o := ⟨none, _, _, _, _, _⟩) (us := x.cells) _ infoP rfl _ _ rfl rfl rfl Z1 rfl rfl (PM.one x) ?_
             intro w2 h2))
        have b2 : Ab w1 w2 := h2.ab w1 abA (Nat.le_refl _)
        have V2 := h2.v
        clear Z1 h2
        generalize w1.heap.size = xb at *
        go_wp2_with (refine list_ldP (o := ⟨some 19, _, _, _, _, _⟩) 0 x (VB.range V2) (by kernel_rfl) _ rfl rfl ?_)
        refine (TC _).mono ?_
        rintro e w3 ⟨rfl, hb3⟩
        have V3 := V2.ab hb3
        have b3 := hb.trans (b2.trans hb3)
        have c2 := V3.at 2 (v := .slice x.A x.b.length x.c) rfl
        cases fc with
        | true =>
          simp only [if_true] at hb1
          have hw : IntKind.i64.wrap (s + 3) = s + 3 := IntWalk.i64_in _ (by omega)
          have hG := hS.out
          rw [hO.out] at hG
          go_wp2
          go_roundw
          case rel => exact ⟨k + 1, s + 3, by omega, rfl, by go_num, Lib.hid hG.symm, b3⟩
          case measure => simp [intOf] <;> omega
        | false =>
          simp only [Bool.false_eq_true, if_false] at hb1
          have hw1 : IntKind.i64.wrap (1 + (x.b.length : Int)) = 1 + (x.b.length : Int) := IntWalk.i64_in _ (by omega)
          have hw : IntKind.i64.wrap (s + (1 + (x.b.length : Int))) = s + (1 + (x.b.length : Int)) := IntWalk.i64_in _ (by omega)
          have hG := hS.out
          rw [hO.out] at hG
          go_wp2
          go_roundw
          case rel => exact ⟨k + 1, s + (1 + (x.b.length : Int)), by omega, rfl, by go_num, Lib.hid hG.symm, b3⟩
          case measure => simp [intOf] <;> omega
      · obtain rfl : k = xs.length := by omega
        go_wp2
        go_ret2
        exact ⟨by rw [HC.out, ← hA.out]; rfl, hb⟩
  · have hQ : Hid (Dl.cost (xs.map PM.d) = (0, Dl.valid (xs.map PM.d))) := by unfold Hid Dl.cost; rw [if_neg hv]
    generalize Dl.cost _ = q at *
    generalize Dl.valid _ = v at *
    have hne : (v != 0) = true := by simpa using hv
    have HV := Lib.hid hv
    clear hv h
    go_enter Try.func9, Try.ntmps9
    go_wp2_with fail
    refine (TV _ abA).mono ?_
    rintro e w0 ⟨rfl, hb0⟩
    have b0 : Ab w w0 := Ab.trans abA hb0
    go_wp2
    go_ret2
    exact ⟨by rw [hQ.out]; rfl, b0⟩
set_option maxRecDepth 100000 in
set_option maxHeartbeats 1000000 in
theorem rcost_any (A : Option Addr) (c : Nat) (xs : List PM) (w : World) (h : Pts w A c xs) : Calls Try.prog 19 #[.slice A xs.length c] w fun e w' => e = .returned (.tuple #[.int .i64 (Dl.cost (xs.map PM.d)).1, .int .i64 (Dl.cost (xs.map PM.d)).2]) ∧ Ab w w' := by
  have TV := fun w' (k : Ab w w') => rvalid_any A c xs w' (h.ab k)
  have hn' := h.n'
  by_cases hv : Dl.valid (xs.map PM.d) = 0
  · have HB := Lib.hid (fun k => cost_bound hv k)
    have HL := Lib.hid (Dl.valid_zero.1 hv).1
    have HC : Hid (Dl.cost (xs.map PM.d) = (Dl.sum ((xs.map PM.d).take xs.length), 0)) := by
      unfold Hid Dl.cost
      rw [if_pos hv, List.take_of_length_le (by simp)]
    have HN := Lib.hid (fun k (h : k < xs.length) => cost_next h)
    have H := Lib.hid h
    rw [hv] at TV
    clear h hv
    generalize Dl.cost _ = q at *
    go_enter Try.func19, Try.ntmps19
    go_wp2_with fail
    refine (TV _ abA).mono ?_
    rintro e w0 ⟨rfl, hb0⟩
    have b0 : Ab w w0 := Ab.trans abA hb0
    go_wp2_with fail
    go_loopw [4, 5] (fun n i w' => ∃ (k : Nat) (s : Int), k ≤ xs.length ∧ n = .int .i64 s ∧ i = .int .i64 k ∧ Hid (s = Dl.sum ((xs.map PM.d).take k)) ∧ Ab w w') (fun _ i _ => xs.length - (intOf i).toNat)
    case atStart => exact ⟨0, 0, Nat.zero_le _, rfl, rfl, Lib.hid (by simp [Dl.sum]), b0⟩
    case round =>
      obtain ⟨k, s, hk, rfl, rfl, hA, hb⟩ := hrel
      rename World => w1
      have hs : 0 ≤ s ∧ s ≤ 1000000 := by rw [hA.out]; exact HB.out k
      by_cases hlt : k < xs.length
      · have hT : (k : Int) < xs.length := by omega
        obtain ⟨g, o, rfl, hR0, hPL⟩ := pts_at H.out hlt
        have hl' := hPL.l
        have hR : w1.rangeAt g (o + k * 3) xs[k].cells := fun j u hu => hb.at (hR0 j u hu)
        have hS : Hid (Dl.sum ((xs.map PM.d).take (k + 1)) = s + Dl.cost1 xs[k].d) := by unfold Hid; rw [HN.out k hlt, hA.out]
        have hb1 := HB.out (k + 1)
        rw [hS.out] at hb1
        have hO : Hid (Dl.cost1 xs[k].d = if Dl.copies xs[k].d then 3 else 1 + (xs[k].b.length : Int)) := Lib.hid rfl
        rw [hO.out] at hb1
        generalize xs[k] = x at *
        clear hR0 hA hPL
        have TC := fun w' => rcopies_any x w'
        generalize Dl.cost1 x.d = c1 at *
        generalize Dl.copies x.d = fc at *
        go_wp2_with (refine list_ldP (o := ⟨some 20, _, _, _, _, _⟩) (o + k * 3) x hR (by kernel_rfl) _ rfl rfl ?_)
        refine (TC _).mono ?_
        rintro e w3 ⟨rfl, hb3⟩
        have b3 := hb.trans hb3
        have c2 : w3.cell? ⟨g, o + k * 3 + 2, none⟩ = some (.slice x.A x.b.length x.c) := hb3.at (hR 2 _ rfl)
        cases fc with
        | true =>
          simp only [if_true] at hb1
          have hw : IntKind.i64.wrap (s + 3) = s + 3 := IntWalk.i64_in _ (by omega)
          have hG := hS.out
          rw [hO.out] at hG
          go_wp2
          go_roundw
          case rel => exact ⟨k + 1, s + 3, by omega, rfl, by go_num, Lib.hid hG.symm, b3⟩
          case measure => simp [intOf] <;> omega
        | false =>
          simp only [Bool.false_eq_true, if_false] at hb1
          have hw1 : IntKind.i64.wrap (1 + (x.b.length : Int)) = 1 + (x.b.length : Int) := IntWalk.i64_in _ (by omega)
          have hw : IntKind.i64.wrap (s + (1 + (x.b.length : Int))) = s + (1 + (x.b.length : Int)) := IntWalk.i64_in _ (by omega)
          have hG := hS.out
          rw [hO.out] at hG
          go_wp2
          go_roundw
          case rel => exact ⟨k + 1, s + (1 + (x.b.length : Int)), by omega, rfl, by go_num, Lib.hid hG.symm, b3⟩
          case measure => simp [intOf] <;> omega
      · obtain rfl : k = xs.length := by omega
        go_wp2
        go_ret2
        exact ⟨by rw [HC.out, ← hA.out]; rfl, hb⟩
  · have hQ : Hid (Dl.cost (xs.map PM.d) = (0, Dl.valid (xs.map PM.d))) := by unfold Hid Dl.cost; rw [if_neg hv]
    generalize Dl.cost _ = q at *
    generalize Dl.valid _ = v at *
    have hne : (v != 0) = true := by simpa using hv
    have HV := Lib.hid hv
    clear hv h
    go_enter Try.func19, Try.ntmps19
    go_wp2_with fail
    refine (TV _ abA).mono ?_
    rintro e w0 ⟨rfl, hb0⟩
    have b0 : Ab w w0 := Ab.trans abA hb0
    go_wp2_with fail
    refine (TV _ b0).mono ?_
    rintro e w1 ⟨rfl, hb1⟩
    have b0 := b0.trans hb1
    go_wp2
    go_ret2
    exact ⟨by rw [hQ.out]; rfl, b0⟩
/-- What Great returns: if it is no, the delta is small. -/
def RetGd (xs : List PM) (w : World) (e : Ending) (w' : World) : Prop := ∃ v : Bool, e = .returned (.bool v) ∧ Hid (v = false → xs.length ≤ 300 ∧ ∀ j (h : j < xs.length), xs[j].b.length ≤ 2100) ∧ Ab w w'
set_option maxRecDepth 100000 in
set_option maxHeartbeats 1000000 in
theorem dgreat_any (A : Option Addr) (c : Nat) (xs : List PM) (w : World) (h : Pts w A c xs) : Calls Try.prog 18 #[.slice A xs.length c] w (RetGd xs w) := by
  have hn' := h.n'
  have H := Lib.hid h
  clear h
  go_enter Try.func18, Try.ntmps18
  go_wp2_with fail
  go_loopw [3] (fun i w' => ∃ k : Nat, k ≤ xs.length ∧ i = .int .i64 k ∧ Hid (∀ j (hj : j < xs.length), j < k → xs[j].b.length ≤ 2100) ∧ Ab w w') (fun i _ => xs.length - (intOf i).toNat)
  case atStart => exact ⟨0, Nat.zero_le _, rfl, Lib.hid (fun j hj h => absurd h (by omega)), abA⟩
  case round =>
    obtain ⟨k, hk, rfl, hA, hb⟩ := hrel
    rename World => w1
    by_cases hlt : k < xs.length
    · have hT : (k : Int) < xs.length := by omega
      obtain ⟨g, o, rfl, hR0, hPL⟩ := pts_at H.out hlt
      have hl' := hPL.l
      have c2 : w1.cell? ⟨g, o + k * 3 + 2, none⟩ = some (.slice xs[k].A xs[k].b.length xs[k].c) := hb.at (hR0 2 _ rfl)
      have hS : Hid (xs[k].b.length ≤ 2100 → ∀ j (hj : j < xs.length), j < k + 1 → xs[j].b.length ≤ 2100) := Lib.hid (fun hf j hj h => by
        by_cases e : j = k
        · subst e; exact hf
        · exact hA.out j hj (by omega))
      generalize xs[k] = x at *
      clear hR0 hPL hA
      by_cases hx : x.b.length ≤ 2100
      · have k2 : ¬ (2100 : Int) < (x.b.length : Int) := by omega
        have hG := hS.out hx
        go_wp2
        go_roundw
        case rel => exact ⟨k + 1, by omega, by go_num, Lib.hid hG, hb⟩
        case measure => simp [intOf] <;> omega
      · have k2 : (2100 : Int) < (x.b.length : Int) := by omega
        go_wp2
        go_ret
        exact ⟨_, rfl, Lib.hid (fun h => by cases h), hb⟩
    · obtain rfl : k = xs.length := by omega
      have hG : ∀ j (hj : j < xs.length), xs[j].b.length ≤ 2100 := fun j hj => hA.out j hj hj
      have HG := Lib.hid hG
      clear hG hA
      by_cases h30 : xs.length ≤ 30
      · have k30 : ¬ (30 : Int) < (xs.length : Int) := by omega
        have k300 : ¬ (300 : Int) < (xs.length : Int) := by omega
        go_wp2
        go_ret
        exact ⟨_, rfl, Lib.hid (fun _ => ⟨by omega, HG.out⟩), hb⟩
      · have k30 : (30 : Int) < (xs.length : Int) := by omega
        by_cases h200 : xs.length ≤ 200
        · have k200 : (xs.length : Int) ≤ 200 := by omega
          go_wp2
          go_ret
          exact ⟨_, rfl, Lib.hid (fun h => by cases h), hb⟩
        · have k200 : ¬ (xs.length : Int) ≤ 200 := by omega
          by_cases h300 : xs.length ≤ 300
          · have k300 : ¬ (300 : Int) < (xs.length : Int) := by omega
            go_wp2
            go_ret
            exact ⟨_, rfl, Lib.hid (fun _ => ⟨h300, HG.out⟩), hb⟩
          · have k300 : (300 : Int) < (xs.length : Int) := by omega
            go_wp2
            go_ret
            exact ⟨_, rfl, Lib.hid (fun h => by cases h), hb⟩
end Go.Proofs.Ytjgijpfknhfnjaa
