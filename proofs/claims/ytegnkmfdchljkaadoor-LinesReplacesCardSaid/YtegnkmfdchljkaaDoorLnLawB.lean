/- LinesReplaces, walked. Own work. Written by genln_le.py. -/
import Derived.Test.YtegnkmfdchljkaaDoorLnAlive
import Derived.Test.YtegnkmfdchljkaaDoorLnRefC
set_option linter.unusedVariables false
set_option linter.unusedSimpArgs false
namespace Go.Proofs.YtegnkmfdchljkaaDoor
open Go.RowKit

theorem Ln.repE_mid {a b : List (List UInt8)} (ha : Ln.err a = 0) (hb : Ln.err b = 0) : Ln.repE a (Ln.front a b : Nat) ((a.length - Ln.back a b : Nat) : Int) ((b.take (b.length - Ln.back a b)).drop (Ln.front a b)) = 0 ∧ Ln.repL a (Ln.front a b : Nat) ((a.length - Ln.back a b : Nat) : Int) ((b.take (b.length - Ln.back a b)).drop (Ln.front a b)) = b := by
  have hl := Ln.back_le a b
  have hr := Ln.rep_mid a b
  have hbad := Ln.any_mid (Ln.err_zero hb).2.2.2 (Ln.front a b) (b.length - Ln.back a b)
  have h1 : Ln.repE a (Ln.front a b : Nat) ((a.length - Ln.back a b : Nat) : Int) ((b.take (b.length - Ln.back a b)).drop (Ln.front a b)) = 0 := by
    unfold Ln.repE
    rw [if_neg (by simp [ha]), if_neg (by omega), if_neg (by simp [hbad]), Int.toNat_natCast, Int.toNat_natCast, hr]
    exact hb
  refine ⟨h1, ?_⟩
  unfold Ln.repL
  rw [if_pos h1, Int.toNat_natCast, Int.toNat_natCast, hr]
theorem Ln.repE_same {a : List (List UInt8)} (ha : Ln.err a = 0) (i j : Nat) (hi : i ≤ j) (hj : j ≤ a.length) : Ln.repE a (i : Int) (j : Int) ((a.take j).drop i) = 0 ∧ Ln.repL a (i : Int) (j : Int) ((a.take j).drop i) = a := by
  have hr := Ln.rep_same a i j hi
  have hbad := Ln.any_mid (Ln.err_zero ha).2.2.2 i j
  have h1 : Ln.repE a (i : Int) (j : Int) ((a.take j).drop i) = 0 := by
    unfold Ln.repE
    rw [if_neg (by simp [ha]), if_neg (by omega), if_neg (by simp [hbad]), Int.toNat_natCast, Int.toNat_natCast, hr]
    exact ha
  refine ⟨h1, ?_⟩
  unfold Ln.repL
  rw [if_pos h1, Int.toNat_natCast, Int.toNat_natCast, hr]
set_option maxHeartbeats 16000000 in
set_option maxRecDepth 100000 in
theorem lreps_walk (A B : Option Addr) (c d : Nat) (ps qs : List ByteArray) (i j : Int) (i0 : -9223372036854775808 ≤ i) (i1 : i ≤ 9223372036854775807) (j0 : -9223372036854775808 ≤ j) (j1 : j ≤ 9223372036854775807) (w : World) (ha : SO w A c ps) (hb : SO w B d qs) :
    Calls Tryd.prog 7 #[.slice A ps.length c, .slice B qs.length d, .int .i64 i, .int .i64 j] w (RetTrue w) := by
  have C1 := fun w' => lalive_any w'
  have L1 := fun w' (hk : Ab w w') => rlong_any A c ps w' (ha.ab hk)
  have L2 := fun w' (hk : Ab w w') => rlong_any B d qs w' (hb.ab hk)
  go_enter Tryd.func7, Tryd.ntmps7
  go_wp2_with fail
  refine (C1 _).mono ?_
  rintro e w1 ⟨rfl, hb1⟩
  go_wp2_with fail
  refine (L1 _ abA).mono ?_
  rintro e w2 ⟨q, rfl, hq, hb2⟩
  have B2 : Ab w w2 := Ab.trans (by exact abA) hb2
  clear C1 L1 hb1 hb2
  cases q with
  | true =>
    go_wp2
    go_ret
    exact ⟨rfl, by exact abA⟩
  | false =>
    have HA1 := hq rfl
    have HA := ha.sm HA1
    have HA2 := HA1.s
    clear hq ha HA1
    go_wp2_with fail
    refine (L2 _ abA).mono ?_
    rintro e w3 ⟨q, rfl, hq, hb3⟩
    have B3 : Ab w w3 := Ab.trans (by exact abA) hb3
    clear L2 hb3 B2
    cases q with
    | true =>
      go_wp2
      go_ret
      exact ⟨rfl, by exact abA⟩
    | false =>
      have HB1 := hq rfl
      have HB := hb.sm HB1
      have HB2 := HB1.s
      clear hq hb HB1
      have M1 := fun w' (hk : Ab w w') => rlines_any A c ps w' (HA.ab hk) (fun p hp => by have := HA2 p hp; omega)
      have M2 := fun w' (hk : Ab w w') => rlines_any B d qs w' (HB.ab hk) (fun p hp => by have := HB2 p hp; omega)
      clear HA2 HB2
      by_cases hE1 : Ln.err (Ln.L ps) = 0
      · rw [hE1] at M1
        go_wp2_with fail
        refine (M1 _ abA).mono ?_
        rintro e w4 ⟨rfl, hb4⟩
        have B4 : Ab w w4 := Ab.trans (by exact abA) hb4
        clear M1 hb4 B3
        by_cases hE2 : Ln.err (Ln.L qs) = 0
        · rw [hE2] at M2
          go_wp2_with fail
          refine (M2 _ abA).mono ?_
          rintro e w5 ⟨rfl, hb5⟩
          have B5 : Ab w w5 := Ab.trans (by exact abA) hb5
          clear M2 hb5 B4
          have hE0 : Ln.errs (Ln.L ps) (Ln.L qs) = 0 := by unfold Ln.errs; rw [if_pos hE1, hE2]
          have n1 : 0 < ps.length := by
            have := (Ln.err_zero hE1).2.2.1
            cases ps with
            | nil => exact absurd rfl this
            | cons x t => simp
          have n2 : 0 < qs.length := by
            have := (Ln.err_zero hE2).2.2.1
            cases qs with
            | nil => exact absurd rfl this
            | cons x t => simp
          obtain ⟨g, o, rfl, hR⟩ := HA.r n1
          obtain ⟨g2, o2, rfl, hS⟩ := HB.r n2
          have hl := Ln.back_le (Ln.L ps) (Ln.L qs)
          simp only [List.length_map] at hl
          obtain ⟨hl1, hl2⟩ := hl
          obtain ⟨f, hf⟩ : ∃ f, f = Ln.front (Ln.L ps) (Ln.L qs) := ⟨_, rfl⟩
          obtain ⟨k, hk⟩ : ∃ k, k = Ln.back (Ln.L ps) (Ln.L qs) := ⟨_, rfl⟩
          have CM : ∀ w', Ab w w' → Calls Tryd.prog 18 #[.slice (some ⟨g, o, none⟩) ps.length c, .slice (some ⟨g2, o2, none⟩) qs.length d] w' fun e w2 => e = .returned (.tuple #[.int .i64 (f : Int), .int .i64 (k : Int), .int .i64 0]) ∧ Ab w' w2 := fun w' hw => (common_any _ _ c d ps qs w' (HA.ab hw) (HB.ab hw)).mono fun e w2 h => by
            unfold RetCm Ln.comF Ln.comB at h
            rw [if_pos hE0, if_pos hE0, hE0, ← hf, ← hk] at h
            exact h
          obtain ⟨x1, hx1⟩ : ∃ x1, x1 = ps.length - k := ⟨_, rfl⟩
          obtain ⟨y1, hy1⟩ : ∃ y1, y1 = qs.length - k := ⟨_, rfl⟩
          have hpc := HA.n
          have hqc := HB.n
          have hc' := HA.c'
          have hd' := HB.c'
          have hpk := HA.k
          have hqk := HB.k
          rw [← hf, ← hk] at hl1 hl2
          have ql : ((qs.take y1).drop f).length = y1 - f := by simp; omega
          have CRg : ∀ B' cap, SM w B' cap ((qs.take y1).drop f) → ∀ w', Ab w w' → Calls Tryd.prog 19 #[.slice (some ⟨g, o, none⟩) ps.length c, .int .i64 (f : Int), .int .i64 (x1 : Int), .slice B' (y1 - f) cap] w' fun e w2 => ∃ B d rs, e = .returned (.tuple #[.slice B (List.length (α := ByteArray) rs) d, .int .i64 0]) ∧ Hid (Ln.L rs = Ln.L qs) ∧ SM w2 B d rs ∧ Ab w' w2 := fun B' cap hsm w' hw => by
            have G := replace_any _ _ c cap ps ((qs.take y1).drop f) (f : Int) (x1 : Int) w' (HA.ab hw) (hsm.ab hw) (by rw [ql]; have := (Ln.err_zero hE2).1; simp at this; omega) (by omega) (by omega) (by omega) (by omega)
            rw [ql] at G
            refine G.mono fun e w2 h => ?_
            obtain ⟨B, d, rs, h1, h2, h3⟩ := h
            have hm := Ln.repE_mid hE1 hE2
            have e1 : Ln.L ((qs.take y1).drop f) = ((Ln.L qs).take ((Ln.L qs).length - Ln.back (Ln.L ps) (Ln.L qs))).drop (Ln.front (Ln.L ps) (Ln.L qs)) := by
              rw [← hf, ← hk, List.length_map, ← hy1]
              unfold Ln.L
              rw [List.map_drop, List.map_take]
            have e2 : (x1 : Int) = (((Ln.L ps).length - Ln.back (Ln.L ps) (Ln.L qs) : Nat) : Int) := by rw [← hk, List.length_map, ← hx1]
            rw [e1, e2, hf, hm.1] at h1
            rw [e1, e2, hf, hm.2] at h2
            exact ⟨B, d, rs, h1, h2, h3⟩
          have S1 := Lib.hid (fun (i j : Nat) (hi : i ≤ j) (hj : j ≤ ps.length) => Ln.repE_same hE1 i j hi (by simpa using hj))
          have HE60 := (Ln.err_zero hE1).1
          rw [List.length_map] at HE60
          clear hf hk hE0 hE1 hE2 hR hS ql
          have wp : IntKind.i64.wrap ((ps.length : Int) - k) = (x1 : Int) := by rw [IntWalk.i64_in _ (by omega)]; omega
          have wp' : (ps.length : Int) - k = (x1 : Int) := by omega
          have wq' : (qs.length : Int) - k = (y1 : Int) := by omega
          have f0 : ¬ (f : Int) < 0 := by omega
          have f1 : ¬ (k : Int) < 0 := by omega
          have f2 : ¬ (ps.length : Int) < (f : Int) + k := by omega
          have f3 : ¬ (qs.length : Int) < (f : Int) + k := by omega
          have f4 : f ≤ y1 := by omega
          have f5 : y1 ≤ qs.length := by omega
          have f6 : y1 ≤ d := by omega
          clear hx1 hy1
          go_wp2_with fail
          refine (CM _ abA).mono ?_
          rintro e w6 ⟨rfl, hb6⟩
          have B6 : Ab w w6 := Ab.trans (by exact abA) hb6
          clear CM hb6 B5
          by_cases hdf : d = f
          · have CR := CRg (some ⟨g2, o2, none⟩) 0 (by have := sm_sub HB f y1 f4 f5 (some ⟨g2, o2, none⟩) (fun _ _ _ h => by omega); rwa [hdf, Nat.sub_self] at this)
            rw [show y1 - f = 0 by omega] at CR
            clear CRg
            subst hdf
            go_wp2_with fail
            refine (CR _ abA).mono ?_
            rintro e w7 ⟨B7, d7, rs, rfl, hL7, hS7, hb7⟩
            have B7' : Ab w w7 := Ab.trans (by exact abA) hb7
            clear CR hb7 B6
            have CQ := fun w' (hk : Ab w7 w') => rsame_any B7 _ d7 d rs qs w' (hS7.ab hk) (HB.ab (B7'.trans hk)) hL7.out
            go_wp2_with fail
            refine (CQ _ abA).mono ?_
            rintro e w8 ⟨rfl, hb8⟩
            have B8 : Ab w w8 := Ab.trans (by exact abA) hb8
            clear CQ hb8 hS7 hL7 B7'
            by_cases a1 : i < 0
            · go_wp2
              go_ret
              exact ⟨rfl, by exact abA⟩
            · by_cases a2 : j < i
              · go_wp2
                go_ret
                exact ⟨rfl, by exact abA⟩
              · by_cases a3 : (ps.length : Int) < j
                · go_wp2
                  go_ret
                  exact ⟨rfl, by exact abA⟩
                · obtain ⟨m, rfl⟩ : ∃ m : Nat, i = (m : Int) := ⟨i.toNat, by omega⟩
                  obtain ⟨n, rfl⟩ : ∃ n : Nat, j = (n : Int) := ⟨j.toNat, by omega⟩
                  have m1 : m ≤ n := by omega
                  have m2 : n ≤ ps.length := by omega
                  have m3 : n ≤ c := by omega
                  have pl : ((ps.take n).drop m).length = n - m := by simp; omega
                  have CSg : ∀ B' cap, SM w B' cap ((ps.take n).drop m) → ∀ w', Ab w w' → Calls Tryd.prog 19 #[.slice (some ⟨g, o, none⟩) ps.length c, .int .i64 (m : Int), .int .i64 (n : Int), .slice B' (n - m) cap] w' fun e w2 => ∃ B d rs, e = .returned (.tuple #[.slice B (List.length (α := ByteArray) rs) d, .int .i64 0]) ∧ Hid (Ln.L rs = Ln.L ps) ∧ SM w2 B d rs ∧ Ab w' w2 := fun B' cap hsm w' hw => by
                    have G := replace_any _ _ c cap ps ((ps.take n).drop m) (m : Int) (n : Int) w' (HA.ab hw) (hsm.ab hw) (by rw [pl]; omega) (by omega) (by omega) (by omega) (by omega)
                    rw [pl] at G
                    refine G.mono fun e w2 h => ?_
                    obtain ⟨B, d, rs, h1, h2, h3⟩ := h
                    have hm := S1.out m n m1 m2
                    have e1 : Ln.L ((ps.take n).drop m) = ((Ln.L ps).take n).drop m := by unfold Ln.L; rw [List.map_drop, List.map_take]
                    rw [e1, hm.1] at h1
                    rw [e1, hm.2] at h2
                    exact ⟨B, d, rs, h1, h2, h3⟩
                  clear S1 pl
                  by_cases hcm : c = m
                  · have CS := CSg (some ⟨g, o, none⟩) 0 (by have := sm_sub HA m n m1 m2 (some ⟨g, o, none⟩) (fun _ _ _ h => by omega); rwa [hcm, Nat.sub_self] at this)
                    rw [show n - m = 0 by omega] at CS
                    clear CSg
                    subst hcm
                    go_wp2_with fail
                    refine (CS _ abA).mono ?_
                    rintro e w9 ⟨B9, d9, rs9, rfl, hL9, hS9, hb9⟩
                    have B9' : Ab w w9 := Ab.trans (by exact abA) hb9
                    clear CS hb9 B8
                    have CQ := fun w' (hk : Ab w9 w') => rsame_any B9 _ d9 c rs9 ps w' (hS9.ab hk) (HA.ab (B9'.trans hk)) hL9.out
                    go_wp2_with fail
                    refine (CQ _ abA).mono ?_
                    rintro e w10 ⟨rfl, hb10⟩
                    go_wp2
                    go_ret
                    exact ⟨rfl, Ab.trans (by exact abA) hb10⟩
                  · have CS := CSg (some ⟨g, o + m, none⟩) (c - m) (sm_sub HA m n m1 m2 _ (fun g' o' e _ => by injection e with e; injection e with e1 e2; subst e1 e2; rfl))
                    clear CSg
                    go_wp2_with fail
                    refine (CS _ abA).mono ?_
                    rintro e w9 ⟨B9, d9, rs9, rfl, hL9, hS9, hb9⟩
                    have B9' : Ab w w9 := Ab.trans (by exact abA) hb9
                    clear CS hb9 B8
                    have CQ := fun w' (hk : Ab w9 w') => rsame_any B9 _ d9 c rs9 ps w' (hS9.ab hk) (HA.ab (B9'.trans hk)) hL9.out
                    go_wp2_with fail
                    refine (CQ _ abA).mono ?_
                    rintro e w10 ⟨rfl, hb10⟩
                    go_wp2
                    go_ret
                    exact ⟨rfl, Ab.trans (by exact abA) hb10⟩
          · have CR := CRg (some ⟨g2, o2 + f, none⟩) (d - f) (sm_sub HB f y1 f4 f5 _ (fun g' o' e _ => by injection e with e; injection e with e1 e2; subst e1 e2; rfl))
            clear CRg
            go_wp2_with fail
            refine (CR _ abA).mono ?_
            rintro e w7 ⟨B7, d7, rs, rfl, hL7, hS7, hb7⟩
            have B7' : Ab w w7 := Ab.trans (by exact abA) hb7
            clear CR hb7 B6
            have CQ := fun w' (hk : Ab w7 w') => rsame_any B7 _ d7 d rs qs w' (hS7.ab hk) (HB.ab (B7'.trans hk)) hL7.out
            go_wp2_with fail
            refine (CQ _ abA).mono ?_
            rintro e w8 ⟨rfl, hb8⟩
            have B8 : Ab w w8 := Ab.trans (by exact abA) hb8
            clear CQ hb8 hS7 hL7 B7'
            by_cases a1 : i < 0
            · go_wp2
              go_ret
              exact ⟨rfl, by exact abA⟩
            · by_cases a2 : j < i
              · go_wp2
                go_ret
                exact ⟨rfl, by exact abA⟩
              · by_cases a3 : (ps.length : Int) < j
                · go_wp2
                  go_ret
                  exact ⟨rfl, by exact abA⟩
                · obtain ⟨m, rfl⟩ : ∃ m : Nat, i = (m : Int) := ⟨i.toNat, by omega⟩
                  obtain ⟨n, rfl⟩ : ∃ n : Nat, j = (n : Int) := ⟨j.toNat, by omega⟩
                  have m1 : m ≤ n := by omega
                  have m2 : n ≤ ps.length := by omega
                  have m3 : n ≤ c := by omega
                  have pl : ((ps.take n).drop m).length = n - m := by simp; omega
                  have CSg : ∀ B' cap, SM w B' cap ((ps.take n).drop m) → ∀ w', Ab w w' → Calls Tryd.prog 19 #[.slice (some ⟨g, o, none⟩) ps.length c, .int .i64 (m : Int), .int .i64 (n : Int), .slice B' (n - m) cap] w' fun e w2 => ∃ B d rs, e = .returned (.tuple #[.slice B (List.length (α := ByteArray) rs) d, .int .i64 0]) ∧ Hid (Ln.L rs = Ln.L ps) ∧ SM w2 B d rs ∧ Ab w' w2 := fun B' cap hsm w' hw => by
                    have G := replace_any _ _ c cap ps ((ps.take n).drop m) (m : Int) (n : Int) w' (HA.ab hw) (hsm.ab hw) (by rw [pl]; omega) (by omega) (by omega) (by omega) (by omega)
                    rw [pl] at G
                    refine G.mono fun e w2 h => ?_
                    obtain ⟨B, d, rs, h1, h2, h3⟩ := h
                    have hm := S1.out m n m1 m2
                    have e1 : Ln.L ((ps.take n).drop m) = ((Ln.L ps).take n).drop m := by unfold Ln.L; rw [List.map_drop, List.map_take]
                    rw [e1, hm.1] at h1
                    rw [e1, hm.2] at h2
                    exact ⟨B, d, rs, h1, h2, h3⟩
                  clear S1 pl
                  by_cases hcm : c = m
                  · have CS := CSg (some ⟨g, o, none⟩) 0 (by have := sm_sub HA m n m1 m2 (some ⟨g, o, none⟩) (fun _ _ _ h => by omega); rwa [hcm, Nat.sub_self] at this)
                    rw [show n - m = 0 by omega] at CS
                    clear CSg
                    subst hcm
                    go_wp2_with fail
                    refine (CS _ abA).mono ?_
                    rintro e w9 ⟨B9, d9, rs9, rfl, hL9, hS9, hb9⟩
                    have B9' : Ab w w9 := Ab.trans (by exact abA) hb9
                    clear CS hb9 B8
                    have CQ := fun w' (hk : Ab w9 w') => rsame_any B9 _ d9 c rs9 ps w' (hS9.ab hk) (HA.ab (B9'.trans hk)) hL9.out
                    go_wp2_with fail
                    refine (CQ _ abA).mono ?_
                    rintro e w10 ⟨rfl, hb10⟩
                    go_wp2
                    go_ret
                    exact ⟨rfl, Ab.trans (by exact abA) hb10⟩
                  · have CS := CSg (some ⟨g, o + m, none⟩) (c - m) (sm_sub HA m n m1 m2 _ (fun g' o' e _ => by injection e with e; injection e with e1 e2; subst e1 e2; rfl))
                    clear CSg
                    go_wp2_with fail
                    refine (CS _ abA).mono ?_
                    rintro e w9 ⟨B9, d9, rs9, rfl, hL9, hS9, hb9⟩
                    have B9' : Ab w w9 := Ab.trans (by exact abA) hb9
                    clear CS hb9 B8
                    have CQ := fun w' (hk : Ab w9 w') => rsame_any B9 _ d9 c rs9 ps w' (hS9.ab hk) (HA.ab (B9'.trans hk)) hL9.out
                    go_wp2_with fail
                    refine (CQ _ abA).mono ?_
                    rintro e w10 ⟨rfl, hb10⟩
                    go_wp2
                    go_ret
                    exact ⟨rfl, Ab.trans (by exact abA) hb10⟩
        · have hz : ¬ (Ln.err (Ln.L qs) : Int) = 0 := by omega
          clear hE1
          generalize Ln.err (Ln.L qs) = en at *
          go_wp2_with fail
          refine (M2 _ abA).mono ?_
          rintro e w5 ⟨rfl, hb5⟩
          go_wp2
          go_ret
          exact ⟨rfl, by exact abA⟩
      · have hz : ¬ (Ln.err (Ln.L ps) : Int) = 0 := by omega
        generalize Ln.err (Ln.L ps) = en at *
        go_wp2_with fail
        refine (M1 _ abA).mono ?_
        rintro e w4 ⟨rfl, hb4⟩
        go_wp2
        go_ret
        exact ⟨rfl, by exact abA⟩
end Go.Proofs.YtegnkmfdchljkaaDoor
