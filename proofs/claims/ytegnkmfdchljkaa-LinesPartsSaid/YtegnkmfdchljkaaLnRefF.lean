/- The reference's Replace, walked. Own work. Written by genln_rf.py. -/
import Derived.Test.YtegnkmfdchljkaaLnRefE
set_option linter.unusedVariables false
set_option linter.unusedSimpArgs false
namespace Go.Proofs.Ytegnkmfdchljkaa
open Go.RowKit

set_option maxHeartbeats 16000000 in
set_option maxRecDepth 100000 in
theorem rreplace_any (A B : Option Addr) (c d : Nat) (ps qs : List ByteArray) (i j : Int) (w : World) (hp : SM w A c ps) (hq : SM w B d qs) (hm : qs.length ≤ 50000) (hs : ∀ p ∈ ps, p.size ≤ 5000) (hs' : ∀ p ∈ qs, p.size ≤ 5000) :
    Calls Try.prog 8 #[.slice A ps.length c, .int .i64 i, .int .i64 j, .slice B qs.length d] w (RetRp w (Ln.L ps) i j (Ln.L qs)) := by
  have C := fun w' (hk : Ab w w') => rlines_any A c ps w' (hp.ab hk) hs
  have D := fun w' (hk : Ab w w') => rfeed_any B d qs w' (hq.ab hk) hs'
  by_cases h1 : Ln.err (Ln.L ps) = 0
  · rw [h1] at C
    by_cases hij : i < 0 ∨ j < i ∨ (ps.length : Int) < j
    · have HE : Hid (Ln.repE (Ln.L ps) i j (Ln.L qs) = 2) := by unfold Hid Ln.repE; rw [if_neg (by simp [h1]), if_pos (by simpa using hij)]
      clear hp hq h1 hm D hs hs'
      by_cases a1 : i < 0
      · go_enter Try.func8, Try.ntmps8
        go_wp2_with fail
        refine (C _ abA).mono ?_
        rintro e w1 ⟨rfl, hb1⟩
        go_wp2
        go_ret2
        exact RetRp.no HE (by omega) rfl hb1
      · by_cases a2 : j < i
        · go_enter Try.func8, Try.ntmps8
          go_wp2_with fail
          refine (C _ abA).mono ?_
          rintro e w1 ⟨rfl, hb1⟩
          go_wp2
          go_ret2
          exact RetRp.no HE (by omega) rfl hb1
        · have a3 : (ps.length : Int) < j := by omega
          go_enter Try.func8, Try.ntmps8
          go_wp2_with fail
          refine (C _ abA).mono ?_
          rintro e w1 ⟨rfl, hb1⟩
          go_wp2
          go_ret2
          exact RetRp.no HE (by omega) rfl hb1
    · obtain ⟨m, rfl⟩ : ∃ m : Nat, i = (m : Int) := ⟨i.toNat, by omega⟩
      obtain ⟨n, rfl⟩ : ∃ n : Nat, j = (n : Int) := ⟨j.toNat, by omega⟩
      have a1 : ¬ (m : Int) < 0 := by omega
      have a2 : ¬ (n : Int) < (m : Int) := by omega
      have a3 : ¬ (ps.length : Int) < (n : Int) := by omega
      by_cases h2 : (Ln.L qs).any Ln.bad = true
      · have HE : Hid (Ln.repE (Ln.L ps) m n (Ln.L qs) = 8) := by unfold Hid Ln.repE; rw [if_neg (by simp [h1]), if_neg (by simpa using hij), if_pos h2]
        rw [h2] at D
        clear hp hq h1 hm hij h2 hs hs'
        go_enter Try.func8, Try.ntmps8
        go_wp2_with fail
        refine (C _ abA).mono ?_
        rintro e w1 ⟨rfl, hb1⟩
        go_wp2_with fail
        refine (D _ abA).mono ?_
        rintro e w2 ⟨rfl, hb2⟩
        go_wp2
        go_ret2
        exact RetRp.no HE (by omega) rfl (hb1.trans hb2)
      · rw [Bool.not_eq_true] at h2
        have HE : Hid (Ln.repE (Ln.L ps) m n (Ln.L qs) = Ln.err (Ln.rep (Ln.L ps) m n (Ln.L qs))) := by unfold Hid Ln.repE; rw [if_neg (by simp [h1]), if_neg (by simpa using hij), if_neg (by simp [h2])]; rfl
        rw [h2] at D
        have hlen : 0 < ps.length := by
          have := (Ln.err_zero h1).2.2.1
          cases ps with
          | nil => exact absurd rfl this
          | cons x t => simp
        obtain ⟨g, o, rfl, hR⟩ := hp.r hlen
        have HR : Hid (∀ j (h : j < ps.length), w.cell? ⟨g, o + j, none⟩ = some (.string ps[j])) := hR
        have HRs : Hid (∀ p ∈ ps, p.size ≤ 100000) := hp.s
        have HSs : Hid (∀ p ∈ qs, p.size ≤ 100000) := hq.s
        have hpn := hp.n
        have h60 := (Ln.err_zero h1).1
        rw [List.length_map] at h60
        obtain ⟨g2, o2, hBB, HS⟩ : ∃ g2 o2, (0 < qs.length → B = some ⟨g2, o2, none⟩) ∧ Hid (∀ j (h : j < qs.length), w.cell? ⟨g2, o2 + j, none⟩ = some (.string qs[j])) := by
          by_cases h0 : 0 < qs.length
          · obtain ⟨g2, o2, e, hS⟩ := hq.r h0
            exact ⟨g2, o2, fun _ => e, hS⟩
          · exact ⟨0, 0, fun h => absurd h h0, fun j h => by omega⟩
        have HX := Lib.hid hs
        have HY := Lib.hid hs'
        have m1 : m ≤ n := by omega
        have m2 : n ≤ ps.length := by omega
        clear hp hq h1 hij h2 hR hs hs'
        go_enter Try.func8, Try.ntmps8
        go_wp2_with fail
        refine (C _ abA).mono ?_
        rintro e w1 ⟨rfl, hb1⟩
        go_wp2_with fail
        refine (D _ abA).mono ?_
        rintro e w2 ⟨rfl, hb2⟩
        have hb0 : Ab w w2 := hb1.trans hb2
        clear C D hb1 hb2
        go_wp2_with fail
        go_loopw [10, 11] (fun s i w' => ∃ (k : Nat) (X : Option Addr) (e : Nat), k ≤ m ∧ i = .int .i64 (k : Int) ∧ s = .slice X (ps.take k).length e ∧ OwnS w.heap.size w' X e (ps.take k) ∧ Ab w w') (fun _ i _ => m - (intOf i).toNat)
        case atStart => exact ⟨0, none, 0, Nat.zero_le _, rfl, rfl, OwnS.nil, by exact abA⟩
        case round =>
          obtain ⟨k, X, e, hk, rfl, rfl, ho, hb⟩ := hrel
          rename World => wl
          have hul : (ps.take k).length ≤ 200000 := by simp only [List.length_append, List.length_take, List.length_drop]; omega
          by_cases hlt : k < m
          · have hlx : k < ps.length := by omega
            have hsx : ps[k].size ≤ 100000 := HRs.out _ (List.getElem_mem hlx)
            have hcx := hb.at (HR.out (k) hlx)
            have hT : ((k : Nat) : Int) < ps.length := by omega
            have hT2 : (k : Int) < (m : Int) := by omega
            have hT3 : (k : Int) < ps.length := by omega
            have HN : Hid (ps.take (k + 1) = ps.take k ++ [ps[k]]) := by unfold Hid; rw [List.take_succ_eq_append_getElem hlx]
            generalize ps.take k = us at *
            generalize ps[k] = xv at *
            go_wp2_with (first
              | (at_builtin
                 refine listAppS (ps := us) (qs := [xv]) rfl _ _ rfl rfl rfl rfl rfl (ho.ab (by exact abA)) (by have := hb.size; simp; omega) ((OwnS.one (lo := 0) (Nat.zero_le _) (by (repeat (first | exact new_plain wnA | with_reducible refine old_alloc ?_ | with_reducible refine old_drew ?_ | with_reducible refine old_set ?_ wnA | with_reducible refine old_ab (by assumption) ?_)))).sm (by simp) (fun p hp => by simp at hp; subst hp; exact hsx)) (by omega) ?_
                 intro A6 c6 w6 o6 f6
                 have b6 := f6 w (by exact abA) (Nat.le_refl _)
                 clear f6)
              | fail)
            go_roundw
            case rel => exact ⟨k + 1, A6, c6, by omega, by go_num, by rw [HN.out, List.length_append]; rfl, by rw [HN.out]; exact o6, b6⟩
            case measure => simp [intOf]; omega
          · obtain rfl : m = k := by omega
            have hT2 : ¬ (((m : Nat) : Int) : Int) < (m : Int) := by omega
            go_wp2_with fail
            go_loopw [10, 12] (fun s i w' => ∃ (k : Nat) (X : Option Addr) (e : Nat), k ≤ qs.length ∧ i = .int .i64 (k : Int) ∧ s = .slice X (ps.take m ++ qs.take k).length e ∧ OwnS w.heap.size w' X e (ps.take m ++ qs.take k) ∧ Ab w w') (fun _ i _ => qs.length - (intOf i).toNat)
            case atStart => exact ⟨0, X, e, Nat.zero_le _, rfl, by simp, by rw [List.take_zero, List.append_nil]; exact ho, hb⟩
            case round =>
              obtain ⟨k, X, e, hk, rfl, rfl, ho, hb⟩ := hrel
              rename World => wl
              have hul : (ps.take m ++ qs.take k).length ≤ 200000 := by simp only [List.length_append, List.length_take, List.length_drop]; omega
              by_cases hlt : k < qs.length
              · have hlx : k < qs.length := by omega
                have hsx : qs[k].size ≤ 100000 := HSs.out _ (List.getElem_mem hlx)
                obtain rfl := hBB (by omega)
                have hcx := hb.at (HS.out (k) hlx)
                have hT : ((k : Nat) : Int) < qs.length := by omega
                have hT2 : (k : Int) < (qs.length : Int) := by omega
                have hT3 : (k : Int) < qs.length := by omega
                have HN : Hid (ps.take m ++ qs.take (k + 1) = ps.take m ++ qs.take k ++ [qs[k]]) := by unfold Hid; rw [List.take_succ_eq_append_getElem hlx, List.append_assoc]
                generalize ps.take m ++ qs.take k = us at *
                generalize qs[k] = xv at *
                go_wp2_with (first
                  | (at_builtin
                     refine listAppS (ps := us) (qs := [xv]) rfl _ _ rfl rfl rfl rfl rfl (ho.ab (by exact abA)) (by have := hb.size; simp; omega) ((OwnS.one (lo := 0) (Nat.zero_le _) (by (repeat (first | exact new_plain wnA | with_reducible refine old_alloc ?_ | with_reducible refine old_drew ?_ | with_reducible refine old_set ?_ wnA | with_reducible refine old_ab (by assumption) ?_)))).sm (by simp) (fun p hp => by simp at hp; subst hp; exact hsx)) (by omega) ?_
                     intro A6 c6 w6 o6 f6
                     have b6 := f6 w (by exact abA) (Nat.le_refl _)
                     clear f6)
                  | fail)
                go_roundw
                case rel => exact ⟨k + 1, A6, c6, by omega, by go_num, by rw [HN.out, List.length_append]; rfl, by rw [HN.out]; exact o6, b6⟩
                case measure => simp [intOf]; omega
              · obtain rfl : qs.length = k := by omega
                have hT2 : ¬ (((qs.length : Nat) : Int) : Int) < (qs.length : Int) := by omega
                go_wp2_with fail
                go_loopw [10, 13] (fun s i w' => ∃ (k : Nat) (X : Option Addr) (e : Nat), k ≤ ps.length - n ∧ i = .int .i64 ((n : Int) + k : Int) ∧ s = .slice X (ps.take m ++ qs ++ (ps.drop n).take k).length e ∧ OwnS w.heap.size w' X e (ps.take m ++ qs ++ (ps.drop n).take k) ∧ Ab w w') (fun _ i _ => ps.length - (intOf i).toNat)
                case atStart => exact ⟨0, X, e, Nat.zero_le _, by simp, by simp, by rw [List.take_zero, List.append_nil]; rw [List.take_length] at ho; exact ho, hb⟩
                case round =>
                  obtain ⟨k, X, e, hk, rfl, rfl, ho, hb⟩ := hrel
                  rename World => wl
                  have hul : (ps.take m ++ qs ++ (ps.drop n).take k).length ≤ 200000 := by simp only [List.length_append, List.length_take, List.length_drop]; omega
                  by_cases hlt : k < ps.length - n
                  · have hlx : n + k < ps.length := by omega
                    have hsx : ps[n + k].size ≤ 100000 := HRs.out _ (List.getElem_mem hlx)
                    have hcx := hb.at (HR.out (n + k) hlx)
                    have hT : ((n + k : Nat) : Int) < ps.length := by omega
                    have hT2 : ((n : Int) + k : Int) < (ps.length : Int) := by omega
                    have hT3 : ((n : Int) + k : Int) < ps.length := by omega
                    have HN : Hid (ps.take m ++ qs ++ (ps.drop n).take (k + 1) = ps.take m ++ qs ++ (ps.drop n).take k ++ [ps[n + k]]) := by unfold Hid; rw [List.take_succ_eq_append_getElem (by simp; omega), List.getElem_drop]; simp only [List.append_assoc]
                    generalize ps.take m ++ qs ++ (ps.drop n).take k = us at *
                    generalize ps[n + k] = xv at *
                    go_wp2_with (first
                      | (at_builtin
                         refine listAppS (ps := us) (qs := [xv]) rfl _ _ rfl rfl rfl rfl rfl (ho.ab (by exact abA)) (by have := hb.size; simp; omega) ((OwnS.one (lo := 0) (Nat.zero_le _) (by (repeat (first | exact new_plain wnA | with_reducible refine old_alloc ?_ | with_reducible refine old_drew ?_ | with_reducible refine old_set ?_ wnA | with_reducible refine old_ab (by assumption) ?_)))).sm (by simp) (fun p hp => by simp at hp; subst hp; exact hsx)) (by omega) ?_
                         intro A6 c6 w6 o6 f6
                         have b6 := f6 w (by exact abA) (Nat.le_refl _)
                         clear f6)
                      | fail)
                    go_roundw
                    case rel => exact ⟨k + 1, A6, c6, by omega, by go_num, by rw [HN.out, List.length_append]; rfl, by rw [HN.out]; exact o6, b6⟩
                    case measure => simp [intOf]; omega
                  · obtain rfl : ps.length - n = k := by omega
                    have hT2 : ¬ ((n : Int) + ((ps.length - n : Nat) : Int) : Int) < (ps.length : Int) := by omega
                    rw [show (ps.drop n).take (ps.length - n) = ps.drop n by rw [← List.length_drop, List.take_length]] at *
                    have HL : Hid (Ln.L (ps.take m ++ qs ++ ps.drop n) = Ln.rep (Ln.L ps) (m : Int).toNat (n : Int).toNat (Ln.L qs)) := by unfold Hid Ln.rep; simp [List.map_take, List.map_drop]
                    have HE2 : Hid (Ln.repE (Ln.L ps) m n (Ln.L qs) = Ln.err (Ln.L (ps.take m ++ qs ++ ps.drop n))) := by have := HE.out; rw [HL.out]; exact this
                    have hmem : ∀ p ∈ ps.take m ++ qs ++ ps.drop n, p.size ≤ 5000 := fun p hp => by
                      rcases List.mem_append.1 hp with hp | hp
                      · rcases List.mem_append.1 hp with hp | hp
                        · exact HX.out p (List.mem_of_mem_take hp)
                        · exact HY.out p hp
                      · exact HX.out p (List.mem_of_mem_drop hp)
                    have HM := Lib.hid hmem
                    have hrl : (ps.take m ++ qs ++ ps.drop n).length ≤ 60000 := by simp only [List.length_append, List.length_take, List.length_drop]; omega
                    clear hmem HE
                    generalize ps.take m ++ qs ++ ps.drop n = rs at *
                    have hS3 := ho.sm (by omega) (fun p hp => by have := HM.out p hp; omega)
                    have CV := fun w' (hk : Ab wl w') => rlines_any X e rs w' (hS3.ab hk) HM.out
                    by_cases h5 : Ln.err (Ln.L rs) = 0
                    · rw [h5] at CV HE2
                      go_wp2_with fail
                      refine (CV _ abA).mono ?_
                      rintro e' w4 ⟨rfl, hb4⟩
                      go_wp2
                      go_ret2
                      exact RetRp.yes HE2 rfl HL.out (hS3.ab abA) abA
                    · have hz : ¬ (Ln.err (Ln.L rs) : Int) = 0 := by omega
                      clear HL
                      generalize Ln.err (Ln.L rs) = nn at *
                      go_wp2_with fail
                      refine (CV _ abA).mono ?_
                      rintro e' w4 ⟨rfl, hb4⟩
                      go_wp2_with fail
                      refine (CV _ (by exact hb4)).mono ?_
                      rintro e' w5 ⟨rfl, hb5⟩
                      go_wp2
                      go_ret2
                      exact RetRp.no HE2 h5 rfl (Ab.trans (by exact abA) hb5)
  · have hz : ¬ (Ln.err (Ln.L ps) : Int) = 0 := by omega
    have HE : Hid (Ln.repE (Ln.L ps) i j (Ln.L qs) = Ln.err (Ln.L ps)) := by unfold Hid Ln.repE; rw [if_pos h1]
    clear hp hq D hm hs hs'
    generalize Ln.err (Ln.L ps) = n at *
    go_enter Try.func8, Try.ntmps8
    go_wp2_with fail
    refine (C _ abA).mono ?_
    rintro e w1 ⟨rfl, hb1⟩
    go_wp2_with fail
    refine (C _ hb1).mono ?_
    rintro e w2 ⟨rfl, hb2⟩
    go_wp2
    go_ret2
    exact RetRp.no HE h1 rfl (hb1.trans hb2)
end Go.Proofs.Ytegnkmfdchljkaa
