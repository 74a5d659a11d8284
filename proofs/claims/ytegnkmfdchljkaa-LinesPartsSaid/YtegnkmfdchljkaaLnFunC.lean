/- Common of package lines, walked. Own work. -/
import Derived.Test.YtegnkmfdchljkaaLnFunB
set_option linter.unusedVariables false
set_option linter.unusedSimpArgs false
namespace Go.Proofs.Ytegnkmfdchljkaa
open Go.RowKit

theorem Ln.take_next {a b : List (List UInt8)} {k : Nat} (h : a.take k = b.take k) (e : a[k]? = b[k]?) : a.take (k + 1) = b.take (k + 1) := by
  rw [List.take_add_one, List.take_add_one, h, e]
theorem Ln.at_ {ps : List ByteArray} {k : Nat} (h : k < ps.length) : (Ln.L ps)[k]? = some ps[k].data.toList := by simp [h]
theorem ba_eq {x y : ByteArray} : x.data.toList = y.data.toList ↔ x = y := by
  constructor
  · intro h
    cases x; cases y
    simp only at h
    rw [Array.toList_inj.1 h]
  · rintro rfl; rfl
/-- The error of two lists: of the first, and then of the second one. -/
def Ln.errs (a b : List (List UInt8)) : Nat := if Ln.err a = 0 then Ln.err b else Ln.err a
def Ln.comF (a b : List (List UInt8)) : Nat := if Ln.errs a b = 0 then Ln.front a b else 0
def Ln.comB (a b : List (List UInt8)) : Nat := if Ln.errs a b = 0 then Ln.back a b else 0
def RetCm (w : World) (a b : List (List UInt8)) (e : Ending) (w' : World) : Prop := e = .returned (.tuple #[.int .i64 (Ln.comF a b : Nat), .int .i64 (Ln.comB a b : Nat), .int .i64 (Ln.errs a b : Nat)]) ∧ Ab w w'
set_option maxHeartbeats 16000000 in
set_option maxRecDepth 100000 in
theorem common_any (A B : Option Addr) (c d : Nat) (ps qs : List ByteArray) (w : World) (hp : SM w A c ps) (hq : SM w B d qs) : Calls Try.prog 5 #[.slice A ps.length c, .slice B qs.length d] w (RetCm w (Ln.L ps) (Ln.L qs)) := by
  have C := fun w' (hk : Ab w w') => valid_any A c ps w' (hp.ab hk)
  have D := fun w' (hk : Ab w w') => valid_any B d qs w' (hq.ab hk)
  by_cases h1 : Ln.err (Ln.L ps) = 0
  · by_cases h2 : Ln.err (Ln.L qs) = 0
    · have HE : Hid (Ln.errs (Ln.L ps) (Ln.L qs) = 0) := by unfold Hid Ln.errs; rw [if_pos h1, h2]
      rw [h1] at C
      rw [h2] at D
      have hkp := hp.k
      have hkq := hq.k
      have hl1 : 0 < ps.length := by
        have := (Ln.err_zero h1).2.2.1
        cases ps with
        | nil => exact absurd rfl this
        | cons x t => simp
      have hl2 : 0 < qs.length := by
        have := (Ln.err_zero h2).2.2.1
        cases qs with
        | nil => exact absurd rfl this
        | cons x t => simp
      obtain ⟨g, o, rfl, hR⟩ := hp.r hl1
      obtain ⟨g2, o2, rfl, hS⟩ := hq.r hl2
      have HR := Lib.hid hR
      have HS := Lib.hid hS
      clear h1 h2 hp hq hR hS hl1 hl2
      obtain ⟨m, hm⟩ : ∃ m : Nat, m = min ps.length qs.length := ⟨_, rfl⟩
      go_enter Try.func5, Try.ntmps5
      go_wp2_with fail
      refine (C _ abA).mono ?_
      rintro e w1 ⟨rfl, hb1⟩
      go_wp2_with fail
      refine (D _ abA).mono ?_
      rintro e w2 ⟨rfl, hb2⟩
      have hb0 : Ab w w2 := hb1.trans hb2
      clear C D
      go_wp2_with fail
      go_loopw [4] (fun i w' => ∃ k : Nat, k ≤ m ∧ i = .int .i64 k ∧ Hid ((Ln.L ps).take k = (Ln.L qs).take k) ∧ Ab w w') (fun i _ => m - (intOf i).toNat)
      case atStart => exact ⟨0, Nat.zero_le _, rfl, rfl, abA⟩
      case round =>
        obtain ⟨k, hk, rfl, hA, hb⟩ := hrel
        rename World => w3
        by_cases hlt : k < m
        · have hl1 : k < ps.length := by omega
          have hl2 : k < qs.length := by omega
          have c0 := hb.at (HR.out k hl1)
          have c1 := hb.at (HS.out k hl2)
          have hT : (k : Int) < min (ps.length : Int) qs.length := by omega
          have hT1 : (k : Int) < ps.length := by omega
          have hT2 : (k : Int) < qs.length := by omega
          have H1 := Lib.hid (Ln.at_ hl1)
          have H2 := Lib.hid (Ln.at_ hl2)
          generalize ps[k] = x at *
          generalize qs[k] = y at *
          by_cases hxy : x = y
          · have hxy' : decide (x = y) = true := decide_eq_true hxy
            go_wp2_with fail
            refine wp_region_held_drew (by kernel_rfl) (S := fun w' => w'.cell? ⟨g, o + k, none⟩ = some (.string x) ∧ w'.cell? ⟨g2, o2 + k, none⟩ = some (.string y)) ?_ (fun hHeld => ?_)
            · exact ⟨cell_drew c0, cell_drew c1⟩
            (refine rtA 0 ?_ ?_
             (try simp only [Act.put, stA, st0, st1]))
            (refine rtA 1 ?_ ?_
             (try simp only [Act.put, stA, st0, st1]))
            (try simp only [Act.put, List.getElem_toArray, List.getElem_cons_succ, List.getElem_cons_zero, stA, st0, st1])
            (refine rtA 2 (.bool true) ?_ (hy := by intro w hSw; (try rw [decide_eq_true hT]); go_simp; (first | with_reducible rfl | exact hxy' | skip)); (try simp only [Act.put, stA, st0, st1]))
            (refine rtA 3 ?_ ?_
             (try simp only [Act.put, stA, st0, st1]))
            (refine rtA 4 ?_ ?_
             (try simp only [Act.put, stA, st0, st1]))
            (refine rtA 5 ?_ ?_
             (try simp only [Act.put, stA, st0, st1]))
            (refine rtA 6 ?_ ?_
             (try simp only [Act.put, stA, st0, st1]))
            (try simp only [Act.put, List.getElem_toArray, List.getElem_cons_succ, List.getElem_cons_zero, stA, st0, st1])
            (refine rtA 7 (.string x) ?_ (hy := by intro w hSw; have z0 := hSw.1; go_simp; (first | with_reducible rfl | exact hxy' | skip)); (try simp only [Act.put, stA, st0, st1]))
            (refine rtA 8 ?_ ?_
             (try simp only [Act.put, stA, st0, st1]))
            (refine rtA 9 ?_ ?_
             (try simp only [Act.put, stA, st0, st1]))
            (refine rtA 10 ?_ ?_
             (try simp only [Act.put, stA, st0, st1]))
            (try simp only [Act.put, List.getElem_toArray, List.getElem_cons_succ, List.getElem_cons_zero, stA, st0, st1])
            (refine rtA 11 (.string y) ?_ (hy := by intro w hSw; have z0 := hSw.2; go_simp; (first | with_reducible rfl | exact hxy' | skip)); (try simp only [Act.put, stA, st0, st1]))
            (try simp only [Act.put, List.getElem_toArray, List.getElem_cons_succ, List.getElem_cons_zero, stA, st0, st1])
            (refine rtA 12 (.bool true) ?_ (hy := by intro w hSw; go_simp; (first | with_reducible rfl | exact hxy' | skip)); (try simp only [Act.put, stA, st0, st1]))
            (try simp only [Act.put, List.getElem_toArray, List.getElem_cons_succ, List.getElem_cons_zero, stA, st0, st1])
            (refine rtA 13 (.bool true) ?_ (hy := by intro w hSw; go_simp; (first | with_reducible rfl | exact hxy' | skip)); (try simp only [Act.put, stA, st0, st1]))
            (try simp only [Act.put, List.getElem_toArray, List.getElem_cons_succ, List.getElem_cons_zero, stA, st0, st1])
            refine wpAnyH_done (by kernel_rfl) ?_ _
            (try simp only [Act.put, List.getElem_toArray, List.getElem_cons_succ, List.getElem_cons_zero, stA, st0, st1])
            go_wp2
            go_roundw
            case rel => exact ⟨k + 1, by omega, by go_num, Ln.take_next hA.out (by rw [H1.out, H2.out, hxy]), abA⟩
            case measure => simp [intOf]; omega
          · have hxy' : ¬ x.toList = y.toList := fun e => hxy (ba_eq.1 (by rw [← ByteArray.toList_eq, ← ByteArray.toList_eq]; exact e))
            go_wp2_with fail
            refine wp_region_held_drew (by kernel_rfl) (S := fun w' => w'.cell? ⟨g, o + k, none⟩ = some (.string x) ∧ w'.cell? ⟨g2, o2 + k, none⟩ = some (.string y)) ?_ (fun hHeld => ?_)
            · exact ⟨cell_drew c0, cell_drew c1⟩
            (refine rtA 0 ?_ ?_
             (try simp only [Act.put, stA, st0, st1]))
            (refine rtA 1 ?_ ?_
             (try simp only [Act.put, stA, st0, st1]))
            (try simp only [Act.put, List.getElem_toArray, List.getElem_cons_succ, List.getElem_cons_zero, stA, st0, st1])
            (refine rtA 2 (.bool true) ?_ (hy := by intro w hSw; (try rw [decide_eq_true hT]); go_simp; (first | with_reducible rfl | exact hxy' | skip)); (try simp only [Act.put, stA, st0, st1]))
            (refine rtA 3 ?_ ?_
             (try simp only [Act.put, stA, st0, st1]))
            (refine rtA 4 ?_ ?_
             (try simp only [Act.put, stA, st0, st1]))
            (refine rtA 5 ?_ ?_
             (try simp only [Act.put, stA, st0, st1]))
            (refine rtA 6 ?_ ?_
             (try simp only [Act.put, stA, st0, st1]))
            (try simp only [Act.put, List.getElem_toArray, List.getElem_cons_succ, List.getElem_cons_zero, stA, st0, st1])
            (refine rtA 7 (.string x) ?_ (hy := by intro w hSw; have z0 := hSw.1; go_simp; (first | with_reducible rfl | exact hxy' | skip)); (try simp only [Act.put, stA, st0, st1]))
            (refine rtA 8 ?_ ?_
             (try simp only [Act.put, stA, st0, st1]))
            (refine rtA 9 ?_ ?_
             (try simp only [Act.put, stA, st0, st1]))
            (refine rtA 10 ?_ ?_
             (try simp only [Act.put, stA, st0, st1]))
            (try simp only [Act.put, List.getElem_toArray, List.getElem_cons_succ, List.getElem_cons_zero, stA, st0, st1])
            (refine rtA 11 (.string y) ?_ (hy := by intro w hSw; have z0 := hSw.2; go_simp; (first | with_reducible rfl | exact hxy' | skip)); (try simp only [Act.put, stA, st0, st1]))
            (try simp only [Act.put, List.getElem_toArray, List.getElem_cons_succ, List.getElem_cons_zero, stA, st0, st1])
            (refine rtA 12 (.bool false) ?_ (hy := by intro w hSw; go_simp; (first | with_reducible rfl | exact hxy' | skip)); (try simp only [Act.put, stA, st0, st1]))
            (try simp only [Act.put, List.getElem_toArray, List.getElem_cons_succ, List.getElem_cons_zero, stA, st0, st1])
            (refine rtA 13 (.bool false) ?_ (hy := by intro w hSw; go_simp; (first | with_reducible rfl | exact hxy' | skip)); (try simp only [Act.put, stA, st0, st1]))
            (try simp only [Act.put, List.getElem_toArray, List.getElem_cons_succ, List.getElem_cons_zero, stA, st0, st1])
            refine wpAnyH_done (by kernel_rfl) ?_ _
            (try simp only [Act.put, List.getElem_toArray, List.getElem_cons_succ, List.getElem_cons_zero, stA, st0, st1])
            have HF : Hid (Ln.front (Ln.L ps) (Ln.L qs) = k) := by
              refine Ln.front_is _ _ k hA.out (by simp; omega) (by simp; omega) (Or.inr (Or.inr ?_))
              rw [H1.out, H2.out]
              exact fun e => hxy (ba_eq.1 (Option.some.inj e))
            clear c0 c1 H1 H2 hxy hxy' hT hT1 hT2 hlt hl1 hl2 hA
            go_wp2_with fail
            (try simp only [stA, st0, st1])
            go_loopw [5] (fun i w' => ∃ j : Nat, k + j ≤ m ∧ i = .int .i64 j ∧ Hid (((Ln.L ps).drop k).reverse.take j = ((Ln.L qs).drop k).reverse.take j) ∧ Ab w w') (fun i _ => m - k - (intOf i).toNat)
            case atStart => exact ⟨0, by omega, rfl, rfl, abA⟩
            case round =>
              obtain ⟨j, hj, rfl, hA2, hb⟩ := hrel
              rename World => w4
              have wm : IntKind.i64.wrap (min (ps.length : Int) qs.length - k) = min (ps.length : Int) qs.length - k := IntWalk.i64_in _ (by omega)
              by_cases hlt : k + j < m
              · obtain ⟨i1, hi1⟩ : ∃ i1 : Nat, i1 = ps.length - 1 - j := ⟨_, rfl⟩
                obtain ⟨i2, hi2⟩ : ∃ i2 : Nat, i2 = qs.length - 1 - j := ⟨_, rfl⟩
                have hl1 : i1 < ps.length := by omega
                have hl2 : i2 < qs.length := by omega
                have c0 := hb.at (HR.out i1 hl1)
                have c1 := hb.at (HS.out i2 hl2)
                have hT : (j : Int) < min (ps.length : Int) qs.length - k := by omega
                have hT1 : (i1 : Int) < ps.length := by omega
                have hT2 : (i2 : Int) < qs.length := by omega
                have wp1 : IntKind.i64.wrap ((ps.length : Int) - 1) = (ps.length : Int) - 1 := IntWalk.i64_in _ (by omega)
                have wq1 : IntKind.i64.wrap ((qs.length : Int) - 1) = (qs.length : Int) - 1 := IntWalk.i64_in _ (by omega)
                have wp2 : IntKind.i64.wrap ((ps.length : Int) - 1 - j) = (i1 : Int) := by rw [IntWalk.i64_in _ (by omega)]; omega
                have wq2 : IntKind.i64.wrap ((qs.length : Int) - 1 - j) = (i2 : Int) := by rw [IntWalk.i64_in _ (by omega)]; omega
                have H1 : Hid (((Ln.L ps).drop k).reverse[j]? = some ps[i1].data.toList) := by
                  have h1 := Ln.rev_at (Ln.L ps) k j (by simp; omega)
                  have h2 := Ln.at_ hl1
                  have h3 : (Ln.L ps).length - 1 - j = i1 := by simp; omega
                  rw [h3, h2] at h1
                  exact h1
                have H2 : Hid (((Ln.L qs).drop k).reverse[j]? = some qs[i2].data.toList) := by
                  have h1 := Ln.rev_at (Ln.L qs) k j (by simp; omega)
                  have h2 := Ln.at_ hl2
                  have h3 : (Ln.L qs).length - 1 - j = i2 := by simp; omega
                  rw [h3, h2] at h1
                  exact h1
                clear hi1 hi2
                generalize ps[i1] = x at *
                generalize qs[i2] = y at *
                by_cases hxy : x = y
                · have hxy' : decide (x = y) = true := decide_eq_true hxy
                  go_wp2_with fail
                  refine wp_region_held_drew (by kernel_rfl) (S := fun w' => w'.cell? ⟨g, o + i1, none⟩ = some (.string x) ∧ w'.cell? ⟨g2, o2 + i2, none⟩ = some (.string y)) ?_ (fun hHeld => ?_)
                  · exact ⟨cell_drew c0, cell_drew c1⟩
                  (refine rtA 0 ?_ ?_
                   (try simp only [Act.put, stA, st0, st1]))
                  (refine rtA 1 ?_ ?_
                   (try simp only [Act.put, stA, st0, st1]))
                  (refine rtA 2 ?_ ?_
                   (try simp only [Act.put, stA, st0, st1]))
                  (try simp only [Act.put, List.getElem_toArray, List.getElem_cons_succ, List.getElem_cons_zero, stA, st0, st1])
                  (refine rtA 3 (.int .i64 (min (ps.length : Int) qs.length - k)) ?_ (hy := by intro w hSw; (try rw [wm]); go_simp; (first | with_reducible rfl | exact hxy' | skip)); (try simp only [Act.put, stA, st0, st1]))
                  (try simp only [Act.put, List.getElem_toArray, List.getElem_cons_succ, List.getElem_cons_zero, stA, st0, st1])
                  (refine rtA 4 (.bool true) ?_ (hy := by intro w hSw; (try rw [decide_eq_true hT]); go_simp; (first | with_reducible rfl | exact hxy' | skip)); (try simp only [Act.put, stA, st0, st1]))
                  (refine rtA 5 ?_ ?_
                   (try simp only [Act.put, stA, st0, st1]))
                  (refine rtA 6 ?_ ?_
                   (try simp only [Act.put, stA, st0, st1]))
                  (refine rtA 7 ?_ ?_
                   (try simp only [Act.put, stA, st0, st1]))
                  (refine rtA 8 ?_ ?_
                   (try simp only [Act.put, stA, st0, st1]))
                  (try simp only [Act.put, List.getElem_toArray, List.getElem_cons_succ, List.getElem_cons_zero, stA, st0, st1])
                  (refine rtA 9 (.int .i64 ((ps.length : Int) - 1)) ?_ (hy := by intro w hSw; (try rw [wp1]); go_simp; (first | with_reducible rfl | exact hxy' | skip)); (try simp only [Act.put, stA, st0, st1]))
                  (refine rtA 10 ?_ ?_
                   (try simp only [Act.put, stA, st0, st1]))
                  (try simp only [Act.put, List.getElem_toArray, List.getElem_cons_succ, List.getElem_cons_zero, stA, st0, st1])
                  (refine rtA 11 (.int .i64 (i1 : Int)) ?_ (hy := by intro w hSw; (try rw [wp2]); go_simp; (first | with_reducible rfl | exact hxy' | skip)); (try simp only [Act.put, stA, st0, st1]))
                  (refine rtA 12 ?_ ?_
                   (try simp only [Act.put, stA, st0, st1]))
                  (try simp only [Act.put, List.getElem_toArray, List.getElem_cons_succ, List.getElem_cons_zero, stA, st0, st1])
                  (refine rtA 13 (.string x) ?_ (hy := by intro w hSw; have z0 := hSw.1; go_simp; (first | with_reducible rfl | exact hxy' | skip)); (try simp only [Act.put, stA, st0, st1]))
                  (refine rtA 14 ?_ ?_
                   (try simp only [Act.put, stA, st0, st1]))
                  (refine rtA 15 ?_ ?_
                   (try simp only [Act.put, stA, st0, st1]))
                  (refine rtA 16 ?_ ?_
                   (try simp only [Act.put, stA, st0, st1]))
                  (try simp only [Act.put, List.getElem_toArray, List.getElem_cons_succ, List.getElem_cons_zero, stA, st0, st1])
                  (refine rtA 17 (.int .i64 ((qs.length : Int) - 1)) ?_ (hy := by intro w hSw; (try rw [wq1]); go_simp; (first | with_reducible rfl | exact hxy' | skip)); (try simp only [Act.put, stA, st0, st1]))
                  (refine rtA 18 ?_ ?_
                   (try simp only [Act.put, stA, st0, st1]))
                  (try simp only [Act.put, List.getElem_toArray, List.getElem_cons_succ, List.getElem_cons_zero, stA, st0, st1])
                  (refine rtA 19 (.int .i64 (i2 : Int)) ?_ (hy := by intro w hSw; (try rw [wq2]); go_simp; (first | with_reducible rfl | exact hxy' | skip)); (try simp only [Act.put, stA, st0, st1]))
                  (refine rtA 20 ?_ ?_
                   (try simp only [Act.put, stA, st0, st1]))
                  (try simp only [Act.put, List.getElem_toArray, List.getElem_cons_succ, List.getElem_cons_zero, stA, st0, st1])
                  (refine rtA 21 (.string y) ?_ (hy := by intro w hSw; have z0 := hSw.2; go_simp; (first | with_reducible rfl | exact hxy' | skip)); (try simp only [Act.put, stA, st0, st1]))
                  (try simp only [Act.put, List.getElem_toArray, List.getElem_cons_succ, List.getElem_cons_zero, stA, st0, st1])
                  (refine rtA 22 (.bool true) ?_ (hy := by intro w hSw; go_simp; (first | with_reducible rfl | exact hxy' | skip)); (try simp only [Act.put, stA, st0, st1]))
                  (try simp only [Act.put, List.getElem_toArray, List.getElem_cons_succ, List.getElem_cons_zero, stA, st0, st1])
                  (refine rtA 23 (.bool true) ?_ (hy := by intro w hSw; go_simp; (first | with_reducible rfl | exact hxy' | skip)); (try simp only [Act.put, stA, st0, st1]))
                  (try simp only [Act.put, List.getElem_toArray, List.getElem_cons_succ, List.getElem_cons_zero, stA, st0, st1])
                  refine wpAnyH_done (by kernel_rfl) ?_ _
                  (try simp only [Act.put, List.getElem_toArray, List.getElem_cons_succ, List.getElem_cons_zero, stA, st0, st1])
                  go_wp2
                  go_roundw
                  case rel => exact ⟨j + 1, by omega, by go_num, Ln.take_next hA2.out (by rw [H1.out, H2.out, hxy]), abA⟩
                  case measure => simp [intOf]; omega
                · have hxy' : ¬ x.toList = y.toList := fun e => hxy (ba_eq.1 (by rw [← ByteArray.toList_eq, ← ByteArray.toList_eq]; exact e))
                  go_wp2_with fail
                  refine wp_region_held_drew (by kernel_rfl) (S := fun w' => w'.cell? ⟨g, o + i1, none⟩ = some (.string x) ∧ w'.cell? ⟨g2, o2 + i2, none⟩ = some (.string y)) ?_ (fun hHeld => ?_)
                  · exact ⟨cell_drew c0, cell_drew c1⟩
                  (refine rtA 0 ?_ ?_
                   (try simp only [Act.put, stA, st0, st1]))
                  (refine rtA 1 ?_ ?_
                   (try simp only [Act.put, stA, st0, st1]))
                  (refine rtA 2 ?_ ?_
                   (try simp only [Act.put, stA, st0, st1]))
                  (try simp only [Act.put, List.getElem_toArray, List.getElem_cons_succ, List.getElem_cons_zero, stA, st0, st1])
                  (refine rtA 3 (.int .i64 (min (ps.length : Int) qs.length - k)) ?_ (hy := by intro w hSw; (try rw [wm]); go_simp; (first | with_reducible rfl | exact hxy' | skip)); (try simp only [Act.put, stA, st0, st1]))
                  (try simp only [Act.put, List.getElem_toArray, List.getElem_cons_succ, List.getElem_cons_zero, stA, st0, st1])
                  (refine rtA 4 (.bool true) ?_ (hy := by intro w hSw; (try rw [decide_eq_true hT]); go_simp; (first | with_reducible rfl | exact hxy' | skip)); (try simp only [Act.put, stA, st0, st1]))
                  (refine rtA 5 ?_ ?_
                   (try simp only [Act.put, stA, st0, st1]))
                  (refine rtA 6 ?_ ?_
                   (try simp only [Act.put, stA, st0, st1]))
                  (refine rtA 7 ?_ ?_
                   (try simp only [Act.put, stA, st0, st1]))
                  (refine rtA 8 ?_ ?_
                   (try simp only [Act.put, stA, st0, st1]))
                  (try simp only [Act.put, List.getElem_toArray, List.getElem_cons_succ, List.getElem_cons_zero, stA, st0, st1])
                  (refine rtA 9 (.int .i64 ((ps.length : Int) - 1)) ?_ (hy := by intro w hSw; (try rw [wp1]); go_simp; (first | with_reducible rfl | exact hxy' | skip)); (try simp only [Act.put, stA, st0, st1]))
                  (refine rtA 10 ?_ ?_
                   (try simp only [Act.put, stA, st0, st1]))
                  (try simp only [Act.put, List.getElem_toArray, List.getElem_cons_succ, List.getElem_cons_zero, stA, st0, st1])
                  (refine rtA 11 (.int .i64 (i1 : Int)) ?_ (hy := by intro w hSw; (try rw [wp2]); go_simp; (first | with_reducible rfl | exact hxy' | skip)); (try simp only [Act.put, stA, st0, st1]))
                  (refine rtA 12 ?_ ?_
                   (try simp only [Act.put, stA, st0, st1]))
                  (try simp only [Act.put, List.getElem_toArray, List.getElem_cons_succ, List.getElem_cons_zero, stA, st0, st1])
                  (refine rtA 13 (.string x) ?_ (hy := by intro w hSw; have z0 := hSw.1; go_simp; (first | with_reducible rfl | exact hxy' | skip)); (try simp only [Act.put, stA, st0, st1]))
                  (refine rtA 14 ?_ ?_
                   (try simp only [Act.put, stA, st0, st1]))
                  (refine rtA 15 ?_ ?_
                   (try simp only [Act.put, stA, st0, st1]))
                  (refine rtA 16 ?_ ?_
                   (try simp only [Act.put, stA, st0, st1]))
                  (try simp only [Act.put, List.getElem_toArray, List.getElem_cons_succ, List.getElem_cons_zero, stA, st0, st1])
                  (refine rtA 17 (.int .i64 ((qs.length : Int) - 1)) ?_ (hy := by intro w hSw; (try rw [wq1]); go_simp; (first | with_reducible rfl | exact hxy' | skip)); (try simp only [Act.put, stA, st0, st1]))
                  (refine rtA 18 ?_ ?_
                   (try simp only [Act.put, stA, st0, st1]))
                  (try simp only [Act.put, List.getElem_toArray, List.getElem_cons_succ, List.getElem_cons_zero, stA, st0, st1])
                  (refine rtA 19 (.int .i64 (i2 : Int)) ?_ (hy := by intro w hSw; (try rw [wq2]); go_simp; (first | with_reducible rfl | exact hxy' | skip)); (try simp only [Act.put, stA, st0, st1]))
                  (refine rtA 20 ?_ ?_
                   (try simp only [Act.put, stA, st0, st1]))
                  (try simp only [Act.put, List.getElem_toArray, List.getElem_cons_succ, List.getElem_cons_zero, stA, st0, st1])
                  (refine rtA 21 (.string y) ?_ (hy := by intro w hSw; have z0 := hSw.2; go_simp; (first | with_reducible rfl | exact hxy' | skip)); (try simp only [Act.put, stA, st0, st1]))
                  (try simp only [Act.put, List.getElem_toArray, List.getElem_cons_succ, List.getElem_cons_zero, stA, st0, st1])
                  (refine rtA 22 (.bool false) ?_ (hy := by intro w hSw; go_simp; (first | with_reducible rfl | exact hxy' | skip)); (try simp only [Act.put, stA, st0, st1]))
                  (try simp only [Act.put, List.getElem_toArray, List.getElem_cons_succ, List.getElem_cons_zero, stA, st0, st1])
                  (refine rtA 23 (.bool false) ?_ (hy := by intro w hSw; go_simp; (first | with_reducible rfl | exact hxy' | skip)); (try simp only [Act.put, stA, st0, st1]))
                  (try simp only [Act.put, List.getElem_toArray, List.getElem_cons_succ, List.getElem_cons_zero, stA, st0, st1])
                  refine wpAnyH_done (by kernel_rfl) ?_ _
                  (try simp only [Act.put, List.getElem_toArray, List.getElem_cons_succ, List.getElem_cons_zero, stA, st0, st1])
                  have hG : Ln.back (Ln.L ps) (Ln.L qs) = j := by
                    unfold Ln.back
                    rw [HF.out]
                    refine Ln.front_is _ _ j hA2.out (by simp; omega) (by simp; omega) (Or.inr (Or.inr ?_))
                    rw [H1.out, H2.out]
                    exact fun e => hxy (ba_eq.1 (Option.some.inj e))
                  have HG := Lib.hid hG
                  clear hG
                  go_wp2
                  go_ret3
                  exact ⟨by unfold Ln.comF Ln.comB; rw [if_pos HE.out, if_pos HE.out, HF.out, HG.out, HE.out]; rfl, abA⟩
              · have hT : ¬ (j : Int) < min (ps.length : Int) qs.length - k := by omega
                go_wp2_with fail
                refine wp_region_held_drew (by kernel_rfl) (S := fun w' => True) ?_ (fun hHeld => ?_)
                · trivial
                (refine rtA 0 ?_ ?_
                 (try simp only [Act.put, stA, st0, st1]))
                (refine rtA 1 ?_ ?_
                 (try simp only [Act.put, stA, st0, st1]))
                (refine rtA 2 ?_ ?_
                 (try simp only [Act.put, stA, st0, st1]))
                (try simp only [Act.put, List.getElem_toArray, List.getElem_cons_succ, List.getElem_cons_zero, stA, st0, st1])
                (refine rtA 3 (.int .i64 (min (ps.length : Int) qs.length - k)) ?_ (hy := by intro w hSw; (try rw [wm]); go_simp; (first | with_reducible rfl | exact hxy' | skip)); (try simp only [Act.put, stA, st0, st1]))
                (try simp only [Act.put, List.getElem_toArray, List.getElem_cons_succ, List.getElem_cons_zero, stA, st0, st1])
                (refine rtA 4 (.bool false) ?_ (hy := by intro w hSw; (try rw [decide_eq_false hT]); go_simp; (first | with_reducible rfl | exact hxy' | skip)); (try simp only [Act.put, stA, st0, st1]))
                (refine rtA 5 ?_ ?_
                 (try simp only [Act.put, stA, st0, st1]))
                (refine rtS 6 ?_
                 (try simp only [Act.put, stA, st0, st1]))
                (refine rtS 7 ?_
                 (try simp only [Act.put, stA, st0, st1]))
                (refine rtS 8 ?_
                 (try simp only [Act.put, stA, st0, st1]))
                (refine rtS 9 ?_
                 (try simp only [Act.put, stA, st0, st1]))
                (refine rtS 10 ?_
                 (try simp only [Act.put, stA, st0, st1]))
                (refine rtS 11 ?_
                 (try simp only [Act.put, stA, st0, st1]))
                (refine rtS 12 ?_
                 (try simp only [Act.put, stA, st0, st1]))
                (refine rtS 13 ?_
                 (try simp only [Act.put, stA, st0, st1]))
                (refine rtS 14 ?_
                 (try simp only [Act.put, stA, st0, st1]))
                (refine rtS 15 ?_
                 (try simp only [Act.put, stA, st0, st1]))
                (refine rtS 16 ?_
                 (try simp only [Act.put, stA, st0, st1]))
                (refine rtS 17 ?_
                 (try simp only [Act.put, stA, st0, st1]))
                (refine rtS 18 ?_
                 (try simp only [Act.put, stA, st0, st1]))
                (refine rtS 19 ?_
                 (try simp only [Act.put, stA, st0, st1]))
                (refine rtS 20 ?_
                 (try simp only [Act.put, stA, st0, st1]))
                (refine rtS 21 ?_
                 (try simp only [Act.put, stA, st0, st1]))
                (refine rtS 22 ?_
                 (try simp only [Act.put, stA, st0, st1]))
                (refine rtA 23 (.bool false) ?_ (hy := by intro w hSw; go_simp; (first | with_reducible rfl | exact hxy' | skip)); (try simp only [Act.put, stA, st0, st1]))
                (try simp only [Act.put, List.getElem_toArray, List.getElem_cons_succ, List.getElem_cons_zero, stA, st0, st1])
                refine wpAnyH_done (by kernel_rfl) ?_ _
                (try simp only [Act.put, List.getElem_toArray, List.getElem_cons_succ, List.getElem_cons_zero, stA, st0, st1])
                have hG : Ln.back (Ln.L ps) (Ln.L qs) = j := by
                  unfold Ln.back
                  rw [HF.out]
                  refine Ln.front_is _ _ j hA2.out (by simp; omega) (by simp; omega) ?_
                  by_cases h : ps.length ≤ qs.length
                  · exact Or.inl (by simp; omega)
                  · exact Or.inr (Or.inl (by simp; omega))
                have HG := Lib.hid hG
                clear hG
                go_wp2
                go_ret3
                exact ⟨by unfold Ln.comF Ln.comB; rw [if_pos HE.out, if_pos HE.out, HF.out, HG.out, HE.out]; rfl, abA⟩
        · have hT : ¬ (k : Int) < min (ps.length : Int) qs.length := by omega
          go_wp2_with fail
          refine wp_region_held_drew (by kernel_rfl) (S := fun w' => True) ?_ (fun hHeld => ?_)
          · trivial
          (refine rtA 0 ?_ ?_
           (try simp only [Act.put, stA, st0, st1]))
          (refine rtA 1 ?_ ?_
           (try simp only [Act.put, stA, st0, st1]))
          (try simp only [Act.put, List.getElem_toArray, List.getElem_cons_succ, List.getElem_cons_zero, stA, st0, st1])
          (refine rtA 2 (.bool false) ?_ (hy := by intro w hSw; (try rw [decide_eq_false hT]); go_simp; (first | with_reducible rfl | exact hxy' | skip)); (try simp only [Act.put, stA, st0, st1]))
          (refine rtA 3 ?_ ?_
           (try simp only [Act.put, stA, st0, st1]))
          (refine rtS 4 ?_
           (try simp only [Act.put, stA, st0, st1]))
          (refine rtS 5 ?_
           (try simp only [Act.put, stA, st0, st1]))
          (refine rtS 6 ?_
           (try simp only [Act.put, stA, st0, st1]))
          (refine rtS 7 ?_
           (try simp only [Act.put, stA, st0, st1]))
          (refine rtS 8 ?_
           (try simp only [Act.put, stA, st0, st1]))
          (refine rtS 9 ?_
           (try simp only [Act.put, stA, st0, st1]))
          (refine rtS 10 ?_
           (try simp only [Act.put, stA, st0, st1]))
          (refine rtS 11 ?_
           (try simp only [Act.put, stA, st0, st1]))
          (refine rtS 12 ?_
           (try simp only [Act.put, stA, st0, st1]))
          (refine rtA 13 (.bool false) ?_ (hy := by intro w hSw; go_simp; (first | with_reducible rfl | exact hxy' | skip)); (try simp only [Act.put, stA, st0, st1]))
          (try simp only [Act.put, List.getElem_toArray, List.getElem_cons_succ, List.getElem_cons_zero, stA, st0, st1])
          refine wpAnyH_done (by kernel_rfl) ?_ _
          (try simp only [Act.put, List.getElem_toArray, List.getElem_cons_succ, List.getElem_cons_zero, stA, st0, st1])
          have HF : Hid (Ln.front (Ln.L ps) (Ln.L qs) = k) := by
            refine Ln.front_is _ _ k hA.out (by simp; omega) (by simp; omega) ?_
            by_cases h : ps.length ≤ qs.length
            · exact Or.inl (by simp; omega)
            · exact Or.inr (Or.inl (by simp; omega))
          clear hT hlt hA
          go_wp2_with fail
          (try simp only [stA, st0, st1])
          go_loopw [5] (fun i w' => ∃ j : Nat, k + j ≤ m ∧ i = .int .i64 j ∧ Hid (((Ln.L ps).drop k).reverse.take j = ((Ln.L qs).drop k).reverse.take j) ∧ Ab w w') (fun i _ => m - k - (intOf i).toNat)
          case atStart => exact ⟨0, by omega, rfl, rfl, abA⟩
          case round =>
            obtain ⟨j, hj, rfl, hA2, hb⟩ := hrel
            rename World => w4
            have wm : IntKind.i64.wrap (min (ps.length : Int) qs.length - k) = min (ps.length : Int) qs.length - k := IntWalk.i64_in _ (by omega)
            by_cases hlt : k + j < m
            · obtain ⟨i1, hi1⟩ : ∃ i1 : Nat, i1 = ps.length - 1 - j := ⟨_, rfl⟩
              obtain ⟨i2, hi2⟩ : ∃ i2 : Nat, i2 = qs.length - 1 - j := ⟨_, rfl⟩
              have hl1 : i1 < ps.length := by omega
              have hl2 : i2 < qs.length := by omega
              have c0 := hb.at (HR.out i1 hl1)
              have c1 := hb.at (HS.out i2 hl2)
              have hT : (j : Int) < min (ps.length : Int) qs.length - k := by omega
              have hT1 : (i1 : Int) < ps.length := by omega
              have hT2 : (i2 : Int) < qs.length := by omega
              have wp1 : IntKind.i64.wrap ((ps.length : Int) - 1) = (ps.length : Int) - 1 := IntWalk.i64_in _ (by omega)
              have wq1 : IntKind.i64.wrap ((qs.length : Int) - 1) = (qs.length : Int) - 1 := IntWalk.i64_in _ (by omega)
              have wp2 : IntKind.i64.wrap ((ps.length : Int) - 1 - j) = (i1 : Int) := by rw [IntWalk.i64_in _ (by omega)]; omega
              have wq2 : IntKind.i64.wrap ((qs.length : Int) - 1 - j) = (i2 : Int) := by rw [IntWalk.i64_in _ (by omega)]; omega
              have H1 : Hid (((Ln.L ps).drop k).reverse[j]? = some ps[i1].data.toList) := by
                have h1 := Ln.rev_at (Ln.L ps) k j (by simp; omega)
                have h2 := Ln.at_ hl1
                have h3 : (Ln.L ps).length - 1 - j = i1 := by simp; omega
                rw [h3, h2] at h1
                exact h1
              have H2 : Hid (((Ln.L qs).drop k).reverse[j]? = some qs[i2].data.toList) := by
                have h1 := Ln.rev_at (Ln.L qs) k j (by simp; omega)
                have h2 := Ln.at_ hl2
                have h3 : (Ln.L qs).length - 1 - j = i2 := by simp; omega
                rw [h3, h2] at h1
                exact h1
              clear hi1 hi2
              generalize ps[i1] = x at *
              generalize qs[i2] = y at *
              by_cases hxy : x = y
              · have hxy' : decide (x = y) = true := decide_eq_true hxy
                go_wp2_with fail
                refine wp_region_held_drew (by kernel_rfl) (S := fun w' => w'.cell? ⟨g, o + i1, none⟩ = some (.string x) ∧ w'.cell? ⟨g2, o2 + i2, none⟩ = some (.string y)) ?_ (fun hHeld => ?_)
                · exact ⟨cell_drew c0, cell_drew c1⟩
                (refine rtA 0 ?_ ?_
                 (try simp only [Act.put, stA, st0, st1]))
                (refine rtA 1 ?_ ?_
                 (try simp only [Act.put, stA, st0, st1]))
                (refine rtA 2 ?_ ?_
                 (try simp only [Act.put, stA, st0, st1]))
                (try simp only [Act.put, List.getElem_toArray, List.getElem_cons_succ, List.getElem_cons_zero, stA, st0, st1])
                (refine rtA 3 (.int .i64 (min (ps.length : Int) qs.length - k)) ?_ (hy := by intro w hSw; (try rw [wm]); go_simp; (first | with_reducible rfl | exact hxy' | skip)); (try simp only [Act.put, stA, st0, st1]))
                (try simp only [Act.put, List.getElem_toArray, List.getElem_cons_succ, List.getElem_cons_zero, stA, st0, st1])
                (refine rtA 4 (.bool true) ?_ (hy := by intro w hSw; (try rw [decide_eq_true hT]); go_simp; (first | with_reducible rfl | exact hxy' | skip)); (try simp only [Act.put, stA, st0, st1]))
                (refine rtA 5 ?_ ?_
                 (try simp only [Act.put, stA, st0, st1]))
                (refine rtA 6 ?_ ?_
                 (try simp only [Act.put, stA, st0, st1]))
                (refine rtA 7 ?_ ?_
                 (try simp only [Act.put, stA, st0, st1]))
                (refine rtA 8 ?_ ?_
                 (try simp only [Act.put, stA, st0, st1]))
                (try simp only [Act.put, List.getElem_toArray, List.getElem_cons_succ, List.getElem_cons_zero, stA, st0, st1])
                (refine rtA 9 (.int .i64 ((ps.length : Int) - 1)) ?_ (hy := by intro w hSw; (try rw [wp1]); go_simp; (first | with_reducible rfl | exact hxy' | skip)); (try simp only [Act.put, stA, st0, st1]))
                (refine rtA 10 ?_ ?_
                 (try simp only [Act.put, stA, st0, st1]))
                (try simp only [Act.put, List.getElem_toArray, List.getElem_cons_succ, List.getElem_cons_zero, stA, st0, st1])
                (refine rtA 11 (.int .i64 (i1 : Int)) ?_ (hy := by intro w hSw; (try rw [wp2]); go_simp; (first | with_reducible rfl | exact hxy' | skip)); (try simp only [Act.put, stA, st0, st1]))
                (refine rtA 12 ?_ ?_
                 (try simp only [Act.put, stA, st0, st1]))
                (try simp only [Act.put, List.getElem_toArray, List.getElem_cons_succ, List.getElem_cons_zero, stA, st0, st1])
                (refine rtA 13 (.string x) ?_ (hy := by intro w hSw; have z0 := hSw.1; go_simp; (first | with_reducible rfl | exact hxy' | skip)); (try simp only [Act.put, stA, st0, st1]))
                (refine rtA 14 ?_ ?_
                 (try simp only [Act.put, stA, st0, st1]))
                (refine rtA 15 ?_ ?_
                 (try simp only [Act.put, stA, st0, st1]))
                (refine rtA 16 ?_ ?_
                 (try simp only [Act.put, stA, st0, st1]))
                (try simp only [Act.put, List.getElem_toArray, List.getElem_cons_succ, List.getElem_cons_zero, stA, st0, st1])
                (refine rtA 17 (.int .i64 ((qs.length : Int) - 1)) ?_ (hy := by intro w hSw; (try rw [wq1]); go_simp; (first | with_reducible rfl | exact hxy' | skip)); (try simp only [Act.put, stA, st0, st1]))
                (refine rtA 18 ?_ ?_
                 (try simp only [Act.put, stA, st0, st1]))
                (try simp only [Act.put, List.getElem_toArray, List.getElem_cons_succ, List.getElem_cons_zero, stA, st0, st1])
                (refine rtA 19 (.int .i64 (i2 : Int)) ?_ (hy := by intro w hSw; (try rw [wq2]); go_simp; (first | with_reducible rfl | exact hxy' | skip)); (try simp only [Act.put, stA, st0, st1]))
                (refine rtA 20 ?_ ?_
                 (try simp only [Act.put, stA, st0, st1]))
                (try simp only [Act.put, List.getElem_toArray, List.getElem_cons_succ, List.getElem_cons_zero, stA, st0, st1])
                (refine rtA 21 (.string y) ?_ (hy := by intro w hSw; have z0 := hSw.2; go_simp; (first | with_reducible rfl | exact hxy' | skip)); (try simp only [Act.put, stA, st0, st1]))
                (try simp only [Act.put, List.getElem_toArray, List.getElem_cons_succ, List.getElem_cons_zero, stA, st0, st1])
                (refine rtA 22 (.bool true) ?_ (hy := by intro w hSw; go_simp; (first | with_reducible rfl | exact hxy' | skip)); (try simp only [Act.put, stA, st0, st1]))
                (try simp only [Act.put, List.getElem_toArray, List.getElem_cons_succ, List.getElem_cons_zero, stA, st0, st1])
                (refine rtA 23 (.bool true) ?_ (hy := by intro w hSw; go_simp; (first | with_reducible rfl | exact hxy' | skip)); (try simp only [Act.put, stA, st0, st1]))
                (try simp only [Act.put, List.getElem_toArray, List.getElem_cons_succ, List.getElem_cons_zero, stA, st0, st1])
                refine wpAnyH_done (by kernel_rfl) ?_ _
                (try simp only [Act.put, List.getElem_toArray, List.getElem_cons_succ, List.getElem_cons_zero, stA, st0, st1])
                go_wp2
                go_roundw
                case rel => exact ⟨j + 1, by omega, by go_num, Ln.take_next hA2.out (by rw [H1.out, H2.out, hxy]), abA⟩
                case measure => simp [intOf]; omega
              · have hxy' : ¬ x.toList = y.toList := fun e => hxy (ba_eq.1 (by rw [← ByteArray.toList_eq, ← ByteArray.toList_eq]; exact e))
                go_wp2_with fail
                refine wp_region_held_drew (by kernel_rfl) (S := fun w' => w'.cell? ⟨g, o + i1, none⟩ = some (.string x) ∧ w'.cell? ⟨g2, o2 + i2, none⟩ = some (.string y)) ?_ (fun hHeld => ?_)
                · exact ⟨cell_drew c0, cell_drew c1⟩
                (refine rtA 0 ?_ ?_
                 (try simp only [Act.put, stA, st0, st1]))
                (refine rtA 1 ?_ ?_
                 (try simp only [Act.put, stA, st0, st1]))
                (refine rtA 2 ?_ ?_
                 (try simp only [Act.put, stA, st0, st1]))
                (try simp only [Act.put, List.getElem_toArray, List.getElem_cons_succ, List.getElem_cons_zero, stA, st0, st1])
                (refine rtA 3 (.int .i64 (min (ps.length : Int) qs.length - k)) ?_ (hy := by intro w hSw; (try rw [wm]); go_simp; (first | with_reducible rfl | exact hxy' | skip)); (try simp only [Act.put, stA, st0, st1]))
                (try simp only [Act.put, List.getElem_toArray, List.getElem_cons_succ, List.getElem_cons_zero, stA, st0, st1])
                (refine rtA 4 (.bool true) ?_ (hy := by intro w hSw; (try rw [decide_eq_true hT]); go_simp; (first | with_reducible rfl | exact hxy' | skip)); (try simp only [Act.put, stA, st0, st1]))
                (refine rtA 5 ?_ ?_
                 (try simp only [Act.put, stA, st0, st1]))
                (refine rtA 6 ?_ ?_
                 (try simp only [Act.put, stA, st0, st1]))
                (refine rtA 7 ?_ ?_
                 (try simp only [Act.put, stA, st0, st1]))
                (refine rtA 8 ?_ ?_
                 (try simp only [Act.put, stA, st0, st1]))
                (try simp only [Act.put, List.getElem_toArray, List.getElem_cons_succ, List.getElem_cons_zero, stA, st0, st1])
                (refine rtA 9 (.int .i64 ((ps.length : Int) - 1)) ?_ (hy := by intro w hSw; (try rw [wp1]); go_simp; (first | with_reducible rfl | exact hxy' | skip)); (try simp only [Act.put, stA, st0, st1]))
                (refine rtA 10 ?_ ?_
                 (try simp only [Act.put, stA, st0, st1]))
                (try simp only [Act.put, List.getElem_toArray, List.getElem_cons_succ, List.getElem_cons_zero, stA, st0, st1])
                (refine rtA 11 (.int .i64 (i1 : Int)) ?_ (hy := by intro w hSw; (try rw [wp2]); go_simp; (first | with_reducible rfl | exact hxy' | skip)); (try simp only [Act.put, stA, st0, st1]))
                (refine rtA 12 ?_ ?_
                 (try simp only [Act.put, stA, st0, st1]))
                (try simp only [Act.put, List.getElem_toArray, List.getElem_cons_succ, List.getElem_cons_zero, stA, st0, st1])
                (refine rtA 13 (.string x) ?_ (hy := by intro w hSw; have z0 := hSw.1; go_simp; (first | with_reducible rfl | exact hxy' | skip)); (try simp only [Act.put, stA, st0, st1]))
                (refine rtA 14 ?_ ?_
                 (try simp only [Act.put, stA, st0, st1]))
                (refine rtA 15 ?_ ?_
                 (try simp only [Act.put, stA, st0, st1]))
                (refine rtA 16 ?_ ?_
                 (try simp only [Act.put, stA, st0, st1]))
                (try simp only [Act.put, List.getElem_toArray, List.getElem_cons_succ, List.getElem_cons_zero, stA, st0, st1])
                (refine rtA 17 (.int .i64 ((qs.length : Int) - 1)) ?_ (hy := by intro w hSw; (try rw [wq1]); go_simp; (first | with_reducible rfl | exact hxy' | skip)); (try simp only [Act.put, stA, st0, st1]))
                (refine rtA 18 ?_ ?_
                 (try simp only [Act.put, stA, st0, st1]))
                (try simp only [Act.put, List.getElem_toArray, List.getElem_cons_succ, List.getElem_cons_zero, stA, st0, st1])
                (refine rtA 19 (.int .i64 (i2 : Int)) ?_ (hy := by intro w hSw; (try rw [wq2]); go_simp; (first | with_reducible rfl | exact hxy' | skip)); (try simp only [Act.put, stA, st0, st1]))
                (refine rtA 20 ?_ ?_
                 (try simp only [Act.put, stA, st0, st1]))
                (try simp only [Act.put, List.getElem_toArray, List.getElem_cons_succ, List.getElem_cons_zero, stA, st0, st1])
                (refine rtA 21 (.string y) ?_ (hy := by intro w hSw; have z0 := hSw.2; go_simp; (first | with_reducible rfl | exact hxy' | skip)); (try simp only [Act.put, stA, st0, st1]))
                (try simp only [Act.put, List.getElem_toArray, List.getElem_cons_succ, List.getElem_cons_zero, stA, st0, st1])
                (refine rtA 22 (.bool false) ?_ (hy := by intro w hSw; go_simp; (first | with_reducible rfl | exact hxy' | skip)); (try simp only [Act.put, stA, st0, st1]))
                (try simp only [Act.put, List.getElem_toArray, List.getElem_cons_succ, List.getElem_cons_zero, stA, st0, st1])
                (refine rtA 23 (.bool false) ?_ (hy := by intro w hSw; go_simp; (first | with_reducible rfl | exact hxy' | skip)); (try simp only [Act.put, stA, st0, st1]))
                (try simp only [Act.put, List.getElem_toArray, List.getElem_cons_succ, List.getElem_cons_zero, stA, st0, st1])
                refine wpAnyH_done (by kernel_rfl) ?_ _
                (try simp only [Act.put, List.getElem_toArray, List.getElem_cons_succ, List.getElem_cons_zero, stA, st0, st1])
                have hG : Ln.back (Ln.L ps) (Ln.L qs) = j := by
                  unfold Ln.back
                  rw [HF.out]
                  refine Ln.front_is _ _ j hA2.out (by simp; omega) (by simp; omega) (Or.inr (Or.inr ?_))
                  rw [H1.out, H2.out]
                  exact fun e => hxy (ba_eq.1 (Option.some.inj e))
                have HG := Lib.hid hG
                clear hG
                go_wp2
                go_ret3
                exact ⟨by unfold Ln.comF Ln.comB; rw [if_pos HE.out, if_pos HE.out, HF.out, HG.out, HE.out]; rfl, abA⟩
            · have hT : ¬ (j : Int) < min (ps.length : Int) qs.length - k := by omega
              go_wp2_with fail
              refine wp_region_held_drew (by kernel_rfl) (S := fun w' => True) ?_ (fun hHeld => ?_)
              · trivial
              (refine rtA 0 ?_ ?_
               (try simp only [Act.put, stA, st0, st1]))
              (refine rtA 1 ?_ ?_
               (try simp only [Act.put, stA, st0, st1]))
              (refine rtA 2 ?_ ?_
               (try simp only [Act.put, stA, st0, st1]))
              (try simp only [Act.put, List.getElem_toArray, List.getElem_cons_succ, List.getElem_cons_zero, stA, st0, st1])
              (refine rtA 3 (.int .i64 (min (ps.length : Int) qs.length - k)) ?_ (hy := by intro w hSw; (try rw [wm]); go_simp; (first | with_reducible rfl | exact hxy' | skip)); (try simp only [Act.put, stA, st0, st1]))
              (try simp only [Act.put, List.getElem_toArray, List.getElem_cons_succ, List.getElem_cons_zero, stA, st0, st1])
              (refine rtA 4 (.bool false) ?_ (hy := by intro w hSw; (try rw [decide_eq_false hT]); go_simp; (first | with_reducible rfl | exact hxy' | skip)); (try simp only [Act.put, stA, st0, st1]))
              (refine rtA 5 ?_ ?_
               (try simp only [Act.put, stA, st0, st1]))
              (refine rtS 6 ?_
               (try simp only [Act.put, stA, st0, st1]))
              (refine rtS 7 ?_
               (try simp only [Act.put, stA, st0, st1]))
              (refine rtS 8 ?_
               (try simp only [Act.put, stA, st0, st1]))
              (refine rtS 9 ?_
               (try simp only [Act.put, stA, st0, st1]))
              (refine rtS 10 ?_
               (try simp only [Act.put, stA, st0, st1]))
              (refine rtS 11 ?_
               (try simp only [Act.put, stA, st0, st1]))
              (refine rtS 12 ?_
               (try simp only [Act.put, stA, st0, st1]))
              (refine rtS 13 ?_
               (try simp only [Act.put, stA, st0, st1]))
              (refine rtS 14 ?_
               (try simp only [Act.put, stA, st0, st1]))
              (refine rtS 15 ?_
               (try simp only [Act.put, stA, st0, st1]))
              (refine rtS 16 ?_
               (try simp only [Act.put, stA, st0, st1]))
              (refine rtS 17 ?_
               (try simp only [Act.put, stA, st0, st1]))
              (refine rtS 18 ?_
               (try simp only [Act.put, stA, st0, st1]))
              (refine rtS 19 ?_
               (try simp only [Act.put, stA, st0, st1]))
              (refine rtS 20 ?_
               (try simp only [Act.put, stA, st0, st1]))
              (refine rtS 21 ?_
               (try simp only [Act.put, stA, st0, st1]))
              (refine rtS 22 ?_
               (try simp only [Act.put, stA, st0, st1]))
              (refine rtA 23 (.bool false) ?_ (hy := by intro w hSw; go_simp; (first | with_reducible rfl | exact hxy' | skip)); (try simp only [Act.put, stA, st0, st1]))
              (try simp only [Act.put, List.getElem_toArray, List.getElem_cons_succ, List.getElem_cons_zero, stA, st0, st1])
              refine wpAnyH_done (by kernel_rfl) ?_ _
              (try simp only [Act.put, List.getElem_toArray, List.getElem_cons_succ, List.getElem_cons_zero, stA, st0, st1])
              have hG : Ln.back (Ln.L ps) (Ln.L qs) = j := by
                unfold Ln.back
                rw [HF.out]
                refine Ln.front_is _ _ j hA2.out (by simp; omega) (by simp; omega) ?_
                by_cases h : ps.length ≤ qs.length
                · exact Or.inl (by simp; omega)
                · exact Or.inr (Or.inl (by simp; omega))
              have HG := Lib.hid hG
              clear hG
              go_wp2
              go_ret3
              exact ⟨by unfold Ln.comF Ln.comB; rw [if_pos HE.out, if_pos HE.out, HF.out, HG.out, HE.out]; rfl, abA⟩
    · have hz : ¬ (Ln.err (Ln.L qs) : Int) = 0 := by omega
      have HE : Hid (Ln.errs (Ln.L ps) (Ln.L qs) = Ln.err (Ln.L qs)) := by unfold Hid Ln.errs; rw [if_pos h1]
      have HZ := Lib.hid h2
      rw [h1] at C
      clear h1 h2 hp hq
      generalize Ln.err (Ln.L qs) = n at *
      go_enter Try.func5, Try.ntmps5
      go_wp2_with fail
      refine (C _ abA).mono ?_
      rintro e w1 ⟨rfl, hb1⟩
      go_wp2_with fail
      refine (D _ abA).mono ?_
      rintro e w2 ⟨rfl, hb2⟩
      go_wp2
      go_ret3
      exact ⟨by unfold Ln.comF Ln.comB; rw [HE.out, if_neg HZ.out, if_neg HZ.out]; rfl, hb1.trans hb2⟩
  · have hz : ¬ (Ln.err (Ln.L ps) : Int) = 0 := by omega
    have HE : Hid (Ln.errs (Ln.L ps) (Ln.L qs) = Ln.err (Ln.L ps)) := by unfold Hid Ln.errs; rw [if_neg h1]
    have HZ := Lib.hid h1
    clear h1 hp hq D
    generalize Ln.err (Ln.L ps) = n at *
    go_enter Try.func5, Try.ntmps5
    go_wp2_with fail
    refine (C _ abA).mono ?_
    rintro e w1 ⟨rfl, hb1⟩
    go_wp2
    go_ret3
    exact ⟨by unfold Ln.comF Ln.comB; rw [HE.out, if_neg HZ.out, if_neg HZ.out]; rfl, hb1⟩
end Go.Proofs.Ytegnkmfdchljkaa
