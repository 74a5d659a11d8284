/- The texts ImpA, ImpB, ImpC, one behind the other. Own work. -/
import Derived.Test.YthgcfjhnnhigoaaGreatGB
import Derived.Deep.DeepCutAuto
set_option linter.unusedVariables false
namespace Go.Proofs.YthgcfjhnnhigoaaGreat
open Go.RowKit Disk

set_option maxRecDepth 100000 in
theorem grow_any (n : Nat) (hn : n ≤ 70368744177664) (w : World) :
    Calls Tryz.prog 132 #[.slice none 0 0, .int .i64 (n : Int)] w (RetB w []) := by
  obtain ⟨i0, hi0, hz0, hz1, hz2⟩ := info_parts infoU8
  rcases Nat.eq_zero_or_pos n with h | h
  · subst h
    go_enter Tryz.func132, Tryz.ntmps132
    go_wp2
    go_ret
    exact ⟨[], none, 0, Lib.hid rfl, rfl, OR.none_, Ab.refl _⟩
  · have hr := Lib.run_append_nil_zeros (P := Tryz.prog) w 22 3 22 5 i0 (.int .u8 0) .i64 .i64 Tryz.underlying22 Tryz.underlying3 hi0 hz0 n h (by omega) (by omega) (by rw [hz2]; omega)
    have hge := grownCap_ge w n 0 5
    have hcm : grownCap w n 0 5 ≤ maxLen := grownCap_le_maxLen w n 0 5 (by unfold maxLen; omega)
    have h1 : (0 : Int) < (n : Int) := by omega
    generalize hC : grownCap w n 0 5 = C at hr hge hcm
    have HC := Lib.hid hC; clear hC
    go_enter Tryz.func132, Tryz.ntmps132
    go_wp2_with ((at_builtin; refine Lib.wpList_append_run _ rfl _ _ _ _ rfl _ _ rfl rfl _ _ hr ?_))
    go_ret
    refine ⟨[], some ⟨w.heap.size, 0, none⟩, C, Lib.hid rfl, rfl, ⟨rfl, .inr ⟨w.heap.size, C, _, rfl, Nat.le_refl _, by (repeat (first | with_reducible exact new_drew (by first | (simp; done) | (simp; omega)) | with_reducible exact new_plain (by first | (simp; done) | (simp; omega)) | with_reducible exact new_drewN (by first | (simp; done) | (simp; omega)) | with_reducible refine old_alloc ?_ | with_reducible refine old_drew ?_ | with_reducible refine old_drewN ?_ _ | with_reducible refine old_grown (by assumption) (by simp) ?_ | with_reducible refine old_ab (by assumption) ?_)), Nat.zero_le _, hcm, ?_, by simp⟩⟩, abA⟩
    simp only [Array.size_append, size_zeroCells]
    simp; omega

/-- The bytes of rows, one behind the other. -/
def flat (xs : List (Option Addr × Nat × List UInt8)) : List UInt8 := xs.flatMap (·.2.2)
/-- The slices xs lie at a. -/
def Outer (w : World) (a : Addr) (xs : List (Option Addr × Nat × List UInt8)) : Prop :=
  ∀ i (h : i < xs.length), w.cell? (a.add i) = some (.slice xs[i].1 xs[i].2.2.length xs[i].2.1) ∧ RB w 0 xs[i].1 xs[i].2.2 ∧ xs[i].2.2.length ≤ xs[i].2.1
theorem Outer.ab {w w' : World} {a : Addr} {xs : List (Option Addr × Nat × List UInt8)} (h : Outer w a xs) (hb : Ab w w') : Outer w' a xs :=
  fun i hi => ⟨hb.at (h i hi).1, (h i hi).2.1.ab hb, (h i hi).2.2⟩
theorem flat_take_succ (xs : List (Option Addr × Nat × List UInt8)) (k : Nat) (h : k < xs.length) : flat (xs.take (k + 1)) = flat (xs.take k) ++ xs[k].2.2 := by
  rw [List.take_succ_eq_append_getElem h]; simp only [flat, List.flatMap_append, List.flatMap_cons, List.flatMap_nil, List.append_nil]
theorem flat_take_le (xs : List (Option Addr × Nat × List UInt8)) (k : Nat) : (flat (xs.take k)).length ≤ (flat xs).length := by
  have h : flat xs = flat (xs.take k) ++ flat (xs.drop k) := by unfold flat; rw [← List.flatMap_append, List.take_append_drop]
  rw [h]; simp

/-- What holds at the head of each round of Concat's second loop. -/
def CatRel (w : World) (xs : List (Option Addr × Nat × List UInt8)) (n : Nat) (v i : Value) (wr : World) : Prop :=
  ∃ (k : Nat) (A : Option Addr) (c : Nat) (l : List UInt8), k ≤ n ∧ Hid (l = flat (xs.take k)) ∧ i = .int .i64 (k : Int) ∧ v = .slice A l.length c ∧ OR 5 w.heap.size wr A c l ∧ Ab w wr

set_option maxHeartbeats 1600000 in
theorem concat_any (a : Addr) (n c : Nat) (xs : List (Option Addr × Nat × List UInt8)) (w : World) (ho : Outer w a xs) (hn : xs.length = n) (hn1 : n ≤ 1000000) (hl : (flat xs).length ≤ 70368744177664) :
    Calls Tryz.prog 116 #[.slice (some a) n c] w (RetB w (flat xs)) := by
  have hn2 := Nat.le_of_eq hn
  have hn3 := Nat.le_of_eq hn.symm
  clear hn
  go_enter Tryz.func116, Tryz.ntmps116
  go_wp2
  go_loop [3, 5, 11] (fun t x i => ∃ k : Nat, k ≤ n ∧ i = .int .i64 (k : Int) ∧ t = .int .i64 ((flat (xs.take k)).length : Int)) (fun _ _ i => n - (intOf i).toNat)
  case atStart => exact ⟨0, Nat.zero_le _, rfl, rfl⟩
  case round =>
    obtain ⟨k, hk, rfl, rfl⟩ := hrel
    by_cases hlt : k < n
    · have hkx : k < xs.length := by omega
      have hc := (ho k hkx).1
      have hf := flat_take_succ xs k hkx
      have hle := flat_take_le xs (k + 1)
      have hfl := congrArg List.length hf
      rw [List.length_append] at hfl
      generalize flat (xs.take k) = u at *
      generalize hv : flat (xs.take (k + 1)) = v at *
      have HV := Lib.hid hv; clear hv
      generalize xs[k] = row at *
      obtain ⟨A, cc, b⟩ := row
      have HF := Lib.hid hfl; clear hfl hf
      have hub : u.length + b.length ≤ 70368744177664 := by have := HF.out; simp only at this; omega
      simp only at hc
      go_wp2
      go_round
      case rel => exact ⟨k + 1, by omega, by go_num, by rw [HV.out]; exact congrArg (Value.int .i64) (by have := HF.out; simp only at this; omega)⟩
      case measure => simp [intOf]; omega
    · obtain rfl : k = n := by omega
      have hall : flat (xs.take k) = flat xs := by rw [List.take_of_length_le (by omega)]
      rw [hall]
      clear hall hlt
      have hlf : (0 : Int) ≤ ((flat xs).length : Int) := by omega
      go_wp2_with fail
      refine (grow_any (flat xs).length hl _).mono ?_
      rintro e w1 ⟨r, D, c1, hr, rfl, o1, hb1⟩
      obtain rfl : r = [] := hr.out
      go_wp2_with fail
      go_loopw [6, 8, 27] (fun v x i wr => CatRel w xs k v i wr) (fun _ _ i _ => k - (intOf i).toNat)
      case atStart => exact ⟨0, D, c1, [], Nat.zero_le _, Lib.hid rfl, rfl, rfl, o1, hb1⟩
      case round =>
        obtain ⟨j, A, cc, l, hj, hl1, rfl, rfl, o2, hb2⟩ := hrel
        by_cases hlt : j < k
        · have hkx : j < xs.length := by omega
          obtain ⟨hc, hb, hcl⟩ := (ho.ab hb2) j hkx
          have hf := flat_take_succ xs j hkx
          have hle := flat_take_le xs (j + 1)
          have hll := congrArg List.length hl1.out
          rw [hf, List.length_append] at hle
          generalize xs[j] = row at *
          obtain ⟨A2, cc2, b⟩ := row
          have hlen : l.length + b.length ≤ 70368744177664 := by simp only at hle; omega
          have HF := Lib.hid hf; clear hf hll hle
          simp only at hc hb hcl
          have hsz := hb2.size
          go_wp2_with ((at_builtin
                        refine listApp rfl _ _ rfl rfl rfl (m := b) rfl o2 hsz hb hcl hlen ?_
                        intro A3 c3 w3 L hL o3 _ hf3
                        have hb3 := hf3 w hb2 (Nat.le_refl _); clear hf3))
          go_roundw
          case rel => exact ⟨j + 1, A3, c3, L, by omega, Lib.hid (by rw [hL.out, hl1.out, HF.out]), by go_num, rfl, o3, hb3⟩
          case measure => simp [intOf]; omega
        · obtain rfl : j = k := by omega
          go_wp2
          go_ret
          exact ⟨l, A, cc, Lib.hid (by rw [hl1.out, List.take_of_length_le (by omega)]), rfl, o2, hb2⟩

theorem concat1_any (g c n ca : Nat) (A : Option Addr) (l : List UInt8) (w : World) (hc : w.cell? ⟨g, 0, none⟩ = some (.slice A n ca)) (hn : l.length = n) (hr : RB w 0 A l) (hl : l.length ≤ ca) (hb : l.length ≤ 70368744177664) :
    Calls Tryz.prog 116 #[.slice (some ⟨g, 0, none⟩) 1 c] w (RetB w l) := by
  subst hn
  have ho : Outer w ⟨g, 0, none⟩ [(A, ca, l)] := by
    intro i hi
    obtain rfl : i = 0 := by simpa using hi
    exact ⟨hc, hr, hl⟩
  have h := concat_any ⟨g, 0, none⟩ 1 c [(A, ca, l)] w ho rfl (by omega) (by simpa [flat] using hb)
  simpa [flat] using h
theorem concat2_any (g c n ca n' ca' : Nat) (A A' : Option Addr) (l m : List UInt8) (w : World) (hc : w.cell? ⟨g, 0, none⟩ = some (.slice A n ca)) (hn : l.length = n) (hr : RB w 0 A l) (hl : l.length ≤ ca)
    (hc' : w.cell? ⟨g, 1, none⟩ = some (.slice A' n' ca')) (hn' : m.length = n') (hr' : RB w 0 A' m) (hl' : m.length ≤ ca') (hb : l.length + m.length ≤ 70368744177664) :
    Calls Tryz.prog 116 #[.slice (some ⟨g, 0, none⟩) 2 c] w (RetB w (l ++ m)) := by
  subst hn; subst hn'
  have ho : Outer w ⟨g, 0, none⟩ [(A, ca, l), (A', ca', m)] := by
    intro i hi
    have h2 : i = 0 ∨ i = 1 := by simp at hi; omega
    rcases h2 with rfl | rfl
    · exact ⟨hc, hr, hl⟩
    · exact ⟨hc', hr', hl'⟩
  have h := concat_any ⟨g, 0, none⟩ 2 c [(A, ca, l), (A', ca', m)] w ho rfl (by omega) (by simpa [flat] using hb)
  simpa [flat] using h

theorem with_any (A B : Option Addr) (ca cb : Nat) (s t : List UInt8) (cap : Int) (dn : Bool) (w : World) (C D : Option Addr) (nc nd cc cd : Nat) :
    Calls Tryz.prog 115 #[.agg #[.slice A s.length ca, .slice B t.length cb, .int .i64 cap, .bool dn], .slice C nc cc, .slice D nd cd] w fun e w' =>
      e = .returned (.agg #[.slice C nc cc, .slice D nd cd, .int .i64 cap, .bool dn]) ∧ Ab w w' := by
  go_enter Tryz.func115, Tryz.ntmps115
  go_wp2
  refine bodyPost_ret (v := .agg #[.slice C nc cc, .slice D nd cd, .int .i64 cap, .bool dn]) (by simp [results, Tryz.results115, go_sem]) rfl ?_
  exact ⟨rfl, abA⟩
end Go.Proofs.YthgcfjhnnhigoaaGreat

namespace Go.Proofs.YthgcfjhnnhigoaaGreat
open Go.RowKit Disk

theorem bytesOf_any (A B : Option Addr) (ca cb : Nat) (s t : List UInt8) (cap : Int) (dn : Bool) (w : World) (ls : s.length ≤ 1000000) (lt : t.length ≤ 1000000) :
    Calls Tryz.prog 114 #[.agg #[.slice A s.length ca, .slice B t.length cb, .int .i64 cap, .bool dn]] w fun e w' => e = .returned (.int .i64 ((s.length : Int) + t.length)) ∧ Ab w w' := by
  go_enter Tryz.func114, Tryz.ntmps114
  go_wp2
  go_ret
  exact ⟨rfl, abA⟩

theorem check_any (A B : Option Addr) (ca cb : Nat) (s t : List UInt8) (cap : Int) (dn : Bool) (w : World) (ls : s.length ≤ 1000000) (lt : t.length ≤ 1000000) :
    Calls Tryz.prog 102 #[.agg #[.slice A s.length ca, .slice B t.length cb, .int .i64 cap, .bool dn]] w (RetInt w (check ⟨s, t, cap, dn⟩)) := by
  by_cases h1 : cap < 0
  · have HC := Lib.hid (check_bad (d := ⟨s, t, cap, dn⟩) (.inl h1))
    have hd : decide (cap < 0) = true := by simpa using h1
    go_enter Tryz.func102, Tryz.ntmps102
    go_wp2_with fail
    go_quiet (fail)
    go_wp2
    go_ret
    exact RetInt.mk (by rw [HC.out]; rfl) abA
  by_cases h2 : 20000 < cap
  · have HC := Lib.hid (check_bad (d := ⟨s, t, cap, dn⟩) (.inr (.inl h2)))
    have hd : decide (cap < 0) = false := by simpa using h1
    have hd2 : decide (20000 < cap) = true := by simpa using h2
    go_enter Tryz.func102, Tryz.ntmps102
    go_wp2_with fail
    go_quiet (fail)
    go_wp2
    go_ret
    exact RetInt.mk (by rw [HC.out]; rfl) abA
  have hd : decide (cap < 0) = false := by simpa using h1
  have hd2 : decide (20000 < cap) = false := by simpa using h2
  by_cases h3 : cap < (s.length : Int) + t.length
  · have HC := Lib.hid (check_bad (d := ⟨s, t, cap, dn⟩) (bad_iff.2 (.inr (.inr (.inl h3)))))
    have hd3 : decide (cap < (s.length : Int) + t.length) = true := by simpa using h3
    go_enter Tryz.func102, Tryz.ntmps102
    go_wp2_with fail
    go_region_held3 (fun w' => w'.cell? ⟨w.heap.size, 0, none⟩ = some (.slice A s.length ca) ∧ w'.cell? ⟨w.heap.size, 1, none⟩ = some (.slice B t.length cb) ∧ w'.cell? ⟨w.heap.size, 2, none⟩ = some (.int .i64 cap) ∧ w'.cell? ⟨w.heap.size, 3, none⟩ = some (.bool dn))
      ((first | (simp [go_sem]; done) | (refine ⟨hb.at ?_, hb.at ?_, hb.at ?_, hb.at ?_⟩ <;> simp [go_sem]))) ((go_at_call 114; refine (bytesOf_any A B ca cb s t cap dn _ ls lt).mono ?_; rintro e w1 ⟨rfl, hb⟩))
    go_wp2
    go_ret
    exact RetInt.mk (by rw [HC.out]; rfl) abA
  have hd3 : decide (cap < (s.length : Int) + t.length) = false := by simpa using h3
  by_cases h4 : dn = true ∧ 0 < t.length
  · obtain ⟨rfl, h5⟩ := h4
    have HC := Lib.hid (check_bad (d := ⟨s, t, cap, true⟩) (.inr (.inr (.inr ⟨rfl, h5⟩))))
    go_enter Tryz.func102, Tryz.ntmps102
    go_wp2_with fail
    go_region_held3 (fun w' => w'.cell? ⟨w.heap.size, 0, none⟩ = some (.slice A s.length ca) ∧ w'.cell? ⟨w.heap.size, 1, none⟩ = some (.slice B t.length cb) ∧ w'.cell? ⟨w.heap.size, 2, none⟩ = some (.int .i64 cap) ∧ w'.cell? ⟨w.heap.size, 3, none⟩ = some (.bool true))
      ((first | (simp [go_sem]; done) | (refine ⟨hb.at ?_, hb.at ?_, hb.at ?_, hb.at ?_⟩ <;> simp [go_sem]))) ((go_at_call 114; refine (bytesOf_any A B ca cb s t cap true _ ls lt).mono ?_; rintro e w1 ⟨rfl, hb⟩))
    rename_i hH
    obtain ⟨q0, q1, q2, q3⟩ := hH
    go_wp2
    go_ret
    exact RetInt.mk (by rw [HC.out]; rfl) abA
  · have HC := Lib.hid (check_ok (d := ⟨s, t, cap, dn⟩) (by rw [bad_iff]; simp only [not_or]; exact ⟨h1, h2, h3, h4⟩))
    cases dn
    · go_enter Tryz.func102, Tryz.ntmps102
      go_wp2_with fail
      go_region_held3 (fun w' => w'.cell? ⟨w.heap.size, 0, none⟩ = some (.slice A s.length ca) ∧ w'.cell? ⟨w.heap.size, 1, none⟩ = some (.slice B t.length cb) ∧ w'.cell? ⟨w.heap.size, 2, none⟩ = some (.int .i64 cap) ∧ w'.cell? ⟨w.heap.size, 3, none⟩ = some (.bool false))
        ((first | (simp [go_sem]; done) | (refine ⟨hb.at ?_, hb.at ?_, hb.at ?_, hb.at ?_⟩ <;> simp [go_sem]))) ((go_at_call 114; refine (bytesOf_any A B ca cb s t cap false _ ls lt).mono ?_; rintro e w1 ⟨rfl, hb⟩))
      rename_i hH
      obtain ⟨q0, q1, q2, q3⟩ := hH
      go_wp2
      go_ret
      exact RetInt.mk (by rw [HC.out]; rfl) abA
    · have h5 : ¬ 0 < t.length := fun h => h4 ⟨rfl, h⟩
      have h6 : decide (0 < t.length) = false := by rw [decide_eq_false_iff_not]; omega
      clear h5 h4
      go_enter Tryz.func102, Tryz.ntmps102
      go_wp2_with fail
      go_region_held3 (fun w' => w'.cell? ⟨w.heap.size, 0, none⟩ = some (.slice A s.length ca) ∧ w'.cell? ⟨w.heap.size, 1, none⟩ = some (.slice B t.length cb) ∧ w'.cell? ⟨w.heap.size, 2, none⟩ = some (.int .i64 cap) ∧ w'.cell? ⟨w.heap.size, 3, none⟩ = some (.bool true))
        ((first | (simp [go_sem]; done) | (refine ⟨hb.at ?_, hb.at ?_, hb.at ?_, hb.at ?_⟩ <;> simp [go_sem]))) ((go_at_call 114; refine (bytesOf_any A B ca cb s t cap true _ ls lt).mono ?_; rintro e w1 ⟨rfl, hb⟩))
      rename_i hH
      obtain ⟨q0, q1, q2, q3⟩ := hH
      go_wp2
      go_ret
      exact RetInt.mk (by rw [HC.out]; rfl) abA

theorem checkUp_any (A B : Option Addr) (ca cb : Nat) (s t : List UInt8) (cap : Int) (dn : Bool) (w : World) (ls : s.length ≤ 1000000) (lt : t.length ≤ 1000000) :
    Calls Tryz.prog 113 #[.agg #[.slice A s.length ca, .slice B t.length cb, .int .i64 cap, .bool dn]] w (RetInt w (up ⟨s, t, cap, dn⟩)) := by
  by_cases hb : bad ⟨s, t, cap, dn⟩
  · have HB := Lib.hid hb; clear hb
    go_enter Tryz.func113, Tryz.ntmps113
    go_wp2_with fail
    refine (check_any A B ca cb s t cap dn _ ls lt).mono ?_
    rintro e w1 ⟨r, hr, rfl, hb1⟩
    obtain rfl : r = 8 := by rw [hr.out, check_bad HB.out]
    go_wp2
    go_ret
    exact RetInt.mk (by rw [up_bad HB.out]; rfl) abA
  · have HB := Lib.hid hb; clear hb
    go_enter Tryz.func113, Tryz.ntmps113
    go_wp2_with fail
    refine (check_any A B ca cb s t cap dn _ ls lt).mono ?_
    rintro e w1 ⟨r, hr, rfl, hb1⟩
    obtain rfl : r = 0 := by rw [hr.out, check_ok HB.out]
    have bq2 := hb1.at (p := ⟨w.heap.size, 2, none⟩) (v := .int .i64 cap) ckA; have bq3 := hb1.at (p := ⟨w.heap.size, 3, none⟩) (v := .bool dn) ckA
    go_wp2
    all_goals go_ret
    all_goals refine RetInt.mk (congrArg (Value.int .i64) ?_) abA
    all_goals first | exact (up_down HB.out (by assumption)).symm | exact (up_ok HB.out (by simp_all)).symm
end Go.Proofs.YthgcfjhnnhigoaaGreat

namespace Go.Proofs.YthgcfjhnnhigoaaGreat
open Go.RowKit Disk

theorem new_any (n : Int) (w : World) : Calls Tryz.prog 37 #[.int .i64 n] w (RetDevE w (Disk.new n)) := by
  by_cases h : n < 0 ∨ 20000 < n
  · have HM := Lib.hid (show Disk.new n = (Disk.zero, 2) from if_pos h)
    go_enter Tryz.func37, Tryz.ntmps37
    go_wp2
    all_goals first | (exfalso; omega) | skip
    all_goals refine bodyPost_ret (v := .tuple #[.agg #[.slice none 0 0, .slice none 0 0, .int .i64 0, .bool false], .int .i64 2]) (by simp [results, Tryz.results37, go_sem]) rfl ?_
    all_goals exact RetDevE.zero HM.out.symm abA
  · have HM := Lib.hid (show Disk.new n = (⟨[], [], n, false⟩, 0) from if_neg h)
    go_enter Tryz.func37, Tryz.ntmps37
    go_wp2
    all_goals first | (exfalso; omega) | skip
    all_goals refine bodyPost_ret (v := .tuple #[.agg #[.slice none 0 0, .slice none 0 0, .int .i64 n, .bool false], .int .i64 0]) (by simp [results, Tryz.results37, go_sem]) rfl ?_
    all_goals exact ⟨⟨[], [], n, false⟩, 0, none, none, 0, 0, HM.out.symm, rfl, OR.none_, OR.none_, abA⟩

theorem size_any (A B : Option Addr) (ca cb : Nat) (s t : List UInt8) (cap : Int) (dn : Bool) (w : World) (ls : s.length ≤ 1000000) (lt : t.length ≤ 1000000) :
    Calls Tryz.prog 126 #[.agg #[.slice A s.length ca, .slice B t.length cb, .int .i64 cap, .bool dn]] w (RetIntE w (Disk.size ⟨s, t, cap, dn⟩)) := by
  by_cases hb : bad ⟨s, t, cap, dn⟩
  · have HM := Lib.hid (show Disk.size ⟨s, t, cap, dn⟩ = (0, 8) from if_pos hb)
    have HB := Lib.hid hb; clear hb
    go_enter Tryz.func126, Tryz.ntmps126
    go_wp2_with fail
    refine (check_any A B ca cb s t cap dn _ ls lt).mono ?_
    rintro e w1 ⟨r, hr, rfl, hb1⟩
    obtain rfl : r = 8 := by rw [hr.out, check_bad HB.out]
    go_wp2
    go_ret2
    exact ⟨0, 8, HM.out.symm, rfl, abA⟩
  · have HM := Lib.hid (show Disk.size ⟨s, t, cap, dn⟩ = (((s.length + t.length : Nat) : Int), 0) from if_neg hb)
    have HB := Lib.hid hb; clear hb
    go_enter Tryz.func126, Tryz.ntmps126
    go_wp2_with fail
    refine (check_any A B ca cb s t cap dn _ ls lt).mono ?_
    rintro e w1 ⟨r, hr, rfl, hb1⟩
    obtain rfl : r = 0 := by rw [hr.out, check_ok HB.out]
    have bq0 := hb1.at (p := ⟨w.heap.size, 0, none⟩) (v := .slice A s.length ca) ckA; have bq1 := hb1.at (p := ⟨w.heap.size, 1, none⟩) (v := .slice B t.length cb) ckA; have bq2 := hb1.at (p := ⟨w.heap.size, 2, none⟩) (v := .int .i64 cap) ckA; have bq3 := hb1.at (p := ⟨w.heap.size, 3, none⟩) (v := .bool dn) ckA
    go_wp2_with fail
    refine (bytesOf_any A B ca cb s t cap dn _ ls lt).mono ?_
    rintro e w2 ⟨rfl, hb2⟩
    go_wp2
    go_ret2
    exact ⟨(s.length : Int) + t.length, 0, Lib.hid (by rw [HM.out]; simp), rfl, abA⟩

set_option maxHeartbeats 1600000 in
theorem append_any (A B : Option Addr) (ca cb : Nat) (s t : List UInt8) (cap : Int) (dn : Bool) (w : World) (hs : RB w 0 A s) (ht : RB w 0 B t) (hca : s.length ≤ ca) (hcb : t.length ≤ cb) (ls : s.length ≤ 1000000) (lt : t.length ≤ 1000000) (C : Option Addr) (cc : Nat) (b : List UInt8) (hb : RB w 0 C b) (hcc : b.length ≤ cc) (lb : b.length ≤ 1000000) :
    Calls Tryz.prog 78 #[.agg #[.slice A s.length ca, .slice B t.length cb, .int .i64 cap, .bool dn], .slice C b.length cc] w (RetDevE w (append ⟨s, t, cap, dn⟩ b)) := by
  by_cases hu : up ⟨s, t, cap, dn⟩ = 0
  · obtain ⟨hnb, hdn⟩ := up_zero hu
    obtain rfl : dn = false := hdn
    have HU := Lib.hid hu; have HN := Lib.hid hnb; clear hu hnb
    have hcap := size_le HN.out
    simp only at hcap
    obtain ⟨hc0, hc1, _⟩ := hcap
    by_cases hfull : cap - ((s.length : Int) + t.length) < b.length
    · have HM := Lib.hid (show append ⟨s, t, cap, false⟩ b = (Disk.zero, 18) by
        unfold append; rw [if_neg (by simpa using HU.out), if_pos (by simp only [Dev.size]; omega)])
      go_enter Tryz.func78, Tryz.ntmps78
      go_wp2_with fail
      refine (checkUp_any A B ca cb s t cap false _ ls lt).mono ?_
      rintro e w1 ⟨r, hr, rfl, hz⟩
      obtain rfl : r = 0 := hr.out.trans HU.out
      have bq0 := hz.at (p := ⟨w.heap.size, 0, none⟩) (v := .slice A s.length ca) ckA; have bq1 := hz.at (p := ⟨w.heap.size, 1, none⟩) (v := .slice B t.length cb) ckA; have bq2 := hz.at (p := ⟨w.heap.size, 2, none⟩) (v := .int .i64 cap) ckA; have bq3 := hz.at (p := ⟨w.heap.size, 3, none⟩) (v := .bool false) ckA
      have zq0 := hz.at (p := ⟨w.heap.size + 1, 0, none⟩) (v := .slice none 0 0) (by simp [go_sem]); have zq1 := hz.at (p := ⟨w.heap.size + 1, 1, none⟩) (v := .slice none 0 0) (by simp [go_sem]); have zq2 := hz.at (p := ⟨w.heap.size + 1, 2, none⟩) (v := .int .i64 0) (by simp [go_sem]); have zq3 := hz.at (p := ⟨w.heap.size + 1, 3, none⟩) (v := .bool false) (by simp [go_sem])
      have zr0 : w1.frozen? ⟨w.heap.size + 1, 0, none⟩ = false := (hz.frozen (p := ⟨w.heap.size + 1, 0, none⟩) (by simp)).trans (by simp [go_sem]); have zr1 : w1.frozen? ⟨w.heap.size + 1, 1, none⟩ = false := (hz.frozen (p := ⟨w.heap.size + 1, 1, none⟩) (by simp)).trans (by simp [go_sem]); have zr2 : w1.frozen? ⟨w.heap.size + 1, 2, none⟩ = false := (hz.frozen (p := ⟨w.heap.size + 1, 2, none⟩) (by simp)).trans (by simp [go_sem]); have zr3 : w1.frozen? ⟨w.heap.size + 1, 3, none⟩ = false := (hz.frozen (p := ⟨w.heap.size + 1, 3, none⟩) (by simp)).trans (by simp [go_sem])
      have z1 := hz.size; simp at z1
      go_wp2_with fail
      have hw : IntKind.i64.wrap (cap - ((s.length : Int) + t.length)) = cap - ((s.length : Int) + t.length) := IntWalk.i64_in _ (by omega)
      go_region_held3 (fun w' => w'.cell? ⟨w.heap.size, 0, none⟩ = some (.slice A s.length ca) ∧ w'.cell? ⟨w.heap.size, 1, none⟩ = some (.slice B t.length cb) ∧ w'.cell? ⟨w.heap.size, 2, none⟩ = some (.int .i64 cap) ∧ w'.cell? ⟨w.heap.size, 3, none⟩ = some (.bool false)) ((refine ⟨?_, ?_, ?_, ?_⟩ <;> (exact ckA)))
        ((go_at_call 114
          refine (bytesOf_any A B ca cb s t cap false _ ls lt).mono ?_
          rintro e w2 ⟨rfl, hb2⟩))
      have hz2 : Ab ((w.alloc (.cells #[.slice A s.length ca, .slice B t.length cb, .int .i64 cap, .bool false] 24)).alloc (.cells #[.slice none 0 0, .slice none 0 0, .int .i64 0, .bool false] 24)) w2 := abA
      have zq0 := hz2.at (p := ⟨w.heap.size + 1, 0, none⟩) (v := .slice none 0 0) (by simp [go_sem]); have zq1 := hz2.at (p := ⟨w.heap.size + 1, 1, none⟩) (v := .slice none 0 0) (by simp [go_sem]); have zq2 := hz2.at (p := ⟨w.heap.size + 1, 2, none⟩) (v := .int .i64 0) (by simp [go_sem]); have zq3 := hz2.at (p := ⟨w.heap.size + 1, 3, none⟩) (v := .bool false) (by simp [go_sem])
      have zr0 : w2.frozen? ⟨w.heap.size + 1, 0, none⟩ = false := (hz2.frozen (p := ⟨w.heap.size + 1, 0, none⟩) (by simp)).trans (by simp [go_sem]); have zr1 : w2.frozen? ⟨w.heap.size + 1, 1, none⟩ = false := (hz2.frozen (p := ⟨w.heap.size + 1, 1, none⟩) (by simp)).trans (by simp [go_sem]); have zr2 : w2.frozen? ⟨w.heap.size + 1, 2, none⟩ = false := (hz2.frozen (p := ⟨w.heap.size + 1, 2, none⟩) (by simp)).trans (by simp [go_sem]); have zr3 : w2.frozen? ⟨w.heap.size + 1, 3, none⟩ = false := (hz2.frozen (p := ⟨w.heap.size + 1, 3, none⟩) (by simp)).trans (by simp [go_sem])
      go_wp2
      refine bodyPost_ret (v := .tuple #[.agg #[.slice none 0 0, .slice none 0 0, .int .i64 0, .bool false], .int .i64 18]) (by simp [results, Tryz.results78, go_sem, zq0, zq1, zq2, zq3]) rfl ?_
      exact RetDevE.zero HM.out.symm abA
    · have HM := Lib.hid (show append ⟨s, t, cap, false⟩ b = (⟨s, t ++ b, cap, false⟩, 0) by
        unfold append; rw [if_neg (by simpa using HU.out), if_neg (by simp only [Dev.size]; omega)])
      go_enter Tryz.func78, Tryz.ntmps78
      go_wp2_with fail
      refine (checkUp_any A B ca cb s t cap false _ ls lt).mono ?_
      rintro e w1 ⟨r, hr, rfl, hz⟩
      obtain rfl : r = 0 := hr.out.trans HU.out
      have bq0 := hz.at (p := ⟨w.heap.size, 0, none⟩) (v := .slice A s.length ca) ckA; have bq1 := hz.at (p := ⟨w.heap.size, 1, none⟩) (v := .slice B t.length cb) ckA; have bq2 := hz.at (p := ⟨w.heap.size, 2, none⟩) (v := .int .i64 cap) ckA; have bq3 := hz.at (p := ⟨w.heap.size, 3, none⟩) (v := .bool false) ckA
      have zq0 := hz.at (p := ⟨w.heap.size + 1, 0, none⟩) (v := .slice none 0 0) (by simp [go_sem]); have zq1 := hz.at (p := ⟨w.heap.size + 1, 1, none⟩) (v := .slice none 0 0) (by simp [go_sem]); have zq2 := hz.at (p := ⟨w.heap.size + 1, 2, none⟩) (v := .int .i64 0) (by simp [go_sem]); have zq3 := hz.at (p := ⟨w.heap.size + 1, 3, none⟩) (v := .bool false) (by simp [go_sem])
      have zr0 : w1.frozen? ⟨w.heap.size + 1, 0, none⟩ = false := (hz.frozen (p := ⟨w.heap.size + 1, 0, none⟩) (by simp)).trans (by simp [go_sem]); have zr1 : w1.frozen? ⟨w.heap.size + 1, 1, none⟩ = false := (hz.frozen (p := ⟨w.heap.size + 1, 1, none⟩) (by simp)).trans (by simp [go_sem]); have zr2 : w1.frozen? ⟨w.heap.size + 1, 2, none⟩ = false := (hz.frozen (p := ⟨w.heap.size + 1, 2, none⟩) (by simp)).trans (by simp [go_sem]); have zr3 : w1.frozen? ⟨w.heap.size + 1, 3, none⟩ = false := (hz.frozen (p := ⟨w.heap.size + 1, 3, none⟩) (by simp)).trans (by simp [go_sem])
      have z1 := hz.size; simp at z1
      go_wp2_with fail
      have hw : IntKind.i64.wrap (cap - ((s.length : Int) + t.length)) = cap - ((s.length : Int) + t.length) := IntWalk.i64_in _ (by omega)
      go_region_held3 (fun w' => w'.cell? ⟨w.heap.size, 0, none⟩ = some (.slice A s.length ca) ∧ w'.cell? ⟨w.heap.size, 1, none⟩ = some (.slice B t.length cb) ∧ w'.cell? ⟨w.heap.size, 2, none⟩ = some (.int .i64 cap) ∧ w'.cell? ⟨w.heap.size, 3, none⟩ = some (.bool false)) ((refine ⟨?_, ?_, ?_, ?_⟩ <;> (exact ckA)))
        ((go_at_call 114
          refine (bytesOf_any A B ca cb s t cap false _ ls lt).mono ?_
          rintro e w2 ⟨rfl, hb2⟩))
      go_wp2_with fail
      have hz2 : Ab ((w.alloc (.cells #[.slice A s.length ca, .slice B t.length cb, .int .i64 cap, .bool false] 24)).alloc (.cells #[.slice none 0 0, .slice none 0 0, .int .i64 0, .bool false] 24)) w2 := abA
      have z2 := hz2.size; simp at z2
      go_region_held3 (fun w' => w'.cell? ⟨w.heap.size, 0, none⟩ = some (.slice A s.length ca) ∧ w'.cell? ⟨w.heap.size, 1, none⟩ = some (.slice B t.length cb) ∧ w'.cell? ⟨w.heap.size, 2, none⟩ = some (.int .i64 cap) ∧ w'.cell? ⟨w.heap.size, 3, none⟩ = some (.bool false)) ((refine ⟨?_, ?_, ?_, ?_⟩ <;> (exact ckA)))
        ((first
          | (go_at_call 116
             (with_reducible refine (concat2_any _ _ t.length cb b.length cc B C t b _ (by (exact ckA)) (by first | rfl | (simp; done) | (simp; omega) | omega) (RB.ab ht abA) hcb (by (exact ckA)) (by first | rfl | (simp; done) | (simp; omega) | omega) (RB.ab hb abA) hcc wnA).mono ?_)
             rintro e w4 ⟨L4, D4, c4, e4, rfl, o4, hb4⟩
             have zw4 := hb4.size; (try simp at zw4)
             have o4 : OR 5 (w.heap.size + 1 + 1) w4 D4 c4 L4 := OR.mono o4 wnA)
          | (go_at_call 116
             (with_reducible refine (concat1_any _ _ s.length ca A s _ (by (exact ckA)) (by first | rfl | (simp; done) | (simp; omega) | omega) (RB.ab hs abA) hca wnA).mono ?_)
             rintro e w3 ⟨L3, D3, c3, e3, rfl, o3, hb3⟩
             have zw3 := hb3.size; (try simp at zw3)
             have o3 : OR 5 (w.heap.size + 1 + 1) w3 D3 c3 L3 := OR.mono o3 wnA)
          | (go_at_call 115
             refine (with_any A B ca cb s t cap false _ D3 D4 _ _ c3 c4).mono ?_
             rintro e w5 ⟨rfl, hb5⟩
             have hz5 : Ab ((w.alloc (.cells #[.slice A s.length ca, .slice B t.length cb, .int .i64 cap, .bool false] 24)).alloc (.cells #[.slice none 0 0, .slice none 0 0, .int .i64 0, .bool false] 24)) w5 := abA
             have zq0 := hz5.at (p := ⟨w.heap.size + 1, 0, none⟩) (v := .slice none 0 0) (by simp [go_sem]); have zq1 := hz5.at (p := ⟨w.heap.size + 1, 1, none⟩) (v := .slice none 0 0) (by simp [go_sem]); have zq2 := hz5.at (p := ⟨w.heap.size + 1, 2, none⟩) (v := .int .i64 0) (by simp [go_sem]); have zq3 := hz5.at (p := ⟨w.heap.size + 1, 3, none⟩) (v := .bool false) (by simp [go_sem])
             have zr0 : w5.frozen? ⟨w.heap.size + 1, 0, none⟩ = false := (hz5.frozen (p := ⟨w.heap.size + 1, 0, none⟩) (by simp)).trans (by simp [go_sem]); have zr1 : w5.frozen? ⟨w.heap.size + 1, 1, none⟩ = false := (hz5.frozen (p := ⟨w.heap.size + 1, 1, none⟩) (by simp)).trans (by simp [go_sem]); have zr2 : w5.frozen? ⟨w.heap.size + 1, 2, none⟩ = false := (hz5.frozen (p := ⟨w.heap.size + 1, 2, none⟩) (by simp)).trans (by simp [go_sem]); have zr3 : w5.frozen? ⟨w.heap.size + 1, 3, none⟩ = false := (hz5.frozen (p := ⟨w.heap.size + 1, 3, none⟩) (by simp)).trans (by simp [go_sem]); clear hz5)))
      all_goals go_wp2
      all_goals refine bodyPost_ret (v := .tuple #[.agg #[.slice D3 L3.length c3, .slice D4 L4.length c4, .int .i64 cap, .bool false], .int .i64 0]) (by simp [results, Tryz.results78, go_sem, zq0, zq1, zq2, zq3]) rfl ?_
      all_goals exact ⟨⟨L3, L4, cap, false⟩, 0, D3, D4, c3, c4, Lib.hid (by rw [HM.out, e3.out, e4.out]), rfl, (show OR 5 w.heap.size _ D3 c3 L3 from OR.mono (lo := w.heap.size + 1 + 1) orA wnA), (show OR 5 w.heap.size _ D4 c4 L4 from OR.mono (lo := w.heap.size + 1 + 1) orA wnA), abA⟩
  · have HM := Lib.hid (show append ⟨s, t, cap, dn⟩ b = (Disk.zero, up ⟨s, t, cap, dn⟩) from if_pos hu)
    generalize hv : up ⟨s, t, cap, dn⟩ = u at hu HM
    have HV := Lib.hid hv; clear hv
    have hne : (u != 0) = true := by simpa using hu
    clear hu
    go_enter Tryz.func78, Tryz.ntmps78
    go_wp2_with fail
    refine (checkUp_any A B ca cb s t cap dn _ ls lt).mono ?_
    rintro e w1 ⟨r, hr, rfl, hb1⟩
    obtain rfl : r = u := hr.out.trans HV.out
    have zq0 := hb1.at (p := ⟨w.heap.size + 1, 0, none⟩) (v := .slice none 0 0) (by simp [go_sem]); have zq1 := hb1.at (p := ⟨w.heap.size + 1, 1, none⟩) (v := .slice none 0 0) (by simp [go_sem]); have zq2 := hb1.at (p := ⟨w.heap.size + 1, 2, none⟩) (v := .int .i64 0) (by simp [go_sem]); have zq3 := hb1.at (p := ⟨w.heap.size + 1, 3, none⟩) (v := .bool false) (by simp [go_sem])
    have zr0 : w1.frozen? ⟨w.heap.size + 1, 0, none⟩ = false := (hb1.frozen (p := ⟨w.heap.size + 1, 0, none⟩) (by simp)).trans (by simp [go_sem]); have zr1 : w1.frozen? ⟨w.heap.size + 1, 1, none⟩ = false := (hb1.frozen (p := ⟨w.heap.size + 1, 1, none⟩) (by simp)).trans (by simp [go_sem]); have zr2 : w1.frozen? ⟨w.heap.size + 1, 2, none⟩ = false := (hb1.frozen (p := ⟨w.heap.size + 1, 2, none⟩) (by simp)).trans (by simp [go_sem]); have zr3 : w1.frozen? ⟨w.heap.size + 1, 3, none⟩ = false := (hb1.frozen (p := ⟨w.heap.size + 1, 3, none⟩) (by simp)).trans (by simp [go_sem])
    go_wp2
    refine bodyPost_ret (v := .tuple #[.agg #[.slice none 0 0, .slice none 0 0, .int .i64 0, .bool false], .int .i64 r]) (by simp [results, Tryz.results78, go_sem, zq0, zq1, zq2, zq3]) rfl ?_
    exact RetDevE.zero HM.out.symm abA
end Go.Proofs.YthgcfjhnnhigoaaGreat
