/- LinesNames, walked. Own work. Written by genln_nm.py. -/
import Derived.Test.YtegnkmfdchljkaaDoorLnRep
set_option linter.unusedVariables false
set_option linter.unusedSimpArgs false
namespace Go.Proofs.YtegnkmfdchljkaaDoor
open Go.RowKit

set_option maxHeartbeats 32000000 in
set_option maxRecDepth 100000 in
theorem lnames_walk (w : World) : Calls Tryd.prog 4 #[] w (RetTrue w) := by
  obtain ⟨x1, X1n, X1c, X1⟩ := rep_ex 120 2001 (by omega) 120 2001 rfl rfl
  obtain ⟨x2, X2n, X2c, X2⟩ := rep_ex 120 2000 (by omega) 120 2000 rfl rfl
  obtain ⟨x3, X3n, X3c, X3⟩ := rep_ex 10 60 (by omega) 10 60 rfl rfl
  obtain ⟨x4, X4n, X4c, X4⟩ := rep_ex 10 59 (by omega) 10 59 rfl rfl
  obtain ⟨x5, X5n, X5c, X5⟩ := rep_ex 120 1000 (by omega) 120 1000 rfl rfl
  obtain ⟨x6, X6n, X6c, X6⟩ := rep_ex 121 1000 (by omega) 121 1000 rfl rfl
  obtain ⟨x7, X7n, X7c, X7⟩ := rep_ex 121 999 (by omega) 121 999 rfl rfl
  obtain ⟨x8, X8n, X8c, X8⟩ := rep_ex 10 2001 (by omega) 10 2001 rfl rfl
  obtain ⟨Z61, p61, M61, P61n, P61z, P61⟩ := make_strs 61 (by omega) 61 rfl
  obtain ⟨Z60, p60, M60, P60n, P60z, P60⟩ := make_strs 60 (by omega) 60 rfl
  have k1 : Ln.chk x1 = 4 := by
    have h1 := X1n.out
    have h2 := X1c.out
    simp at h2
    unfold Ln.chk
    rw [if_pos (Or.inl (by omega))]
  have k2 : Ln.chk x2 = 0 := by
    have h1 := X2n.out
    have h2 := X2c.out
    simp at h2
    unfold Ln.chk
    rw [if_neg (by omega)]
  have k3 : Ln.chk x3 = 4 := by
    have h1 := X3n.out
    have h2 := X3c.out
    simp at h2
    unfold Ln.chk
    rw [if_pos (Or.inr (by omega))]
  have k4 : Ln.chk x4 = 0 := by
    have h1 := X4n.out
    have h2 := X4c.out
    simp at h2
    unfold Ln.chk
    rw [if_neg (by omega)]
  have K1 : ∀ (w' : World) (A : Option Addr) (c : Nat), RB w' 0 A x1 → x1.length ≤ c → Calls Tryd.prog 13 #[.slice A x1.length c] w' fun e w2 => e = .returned (.int .i64 4) ∧ Ab w' w2 := fun w' A c hr hc => by
    have G := check_any A x1 c w' hr hc (by have := X1n.out; omega)
    rw [k1] at G
    exact G
  have K2 : ∀ (w' : World) (A : Option Addr) (c : Nat), RB w' 0 A x2 → x2.length ≤ c → Calls Tryd.prog 13 #[.slice A x2.length c] w' fun e w2 => e = .returned (.int .i64 0) ∧ Ab w' w2 := fun w' A c hr hc => by
    have G := check_any A x2 c w' hr hc (by have := X2n.out; omega)
    rw [k2] at G
    exact G
  have K3 : ∀ (w' : World) (A : Option Addr) (c : Nat), RB w' 0 A x3 → x3.length ≤ c → Calls Tryd.prog 13 #[.slice A x3.length c] w' fun e w2 => e = .returned (.int .i64 4) ∧ Ab w' w2 := fun w' A c hr hc => by
    have G := check_any A x3 c w' hr hc (by have := X3n.out; omega)
    rw [k3] at G
    exact G
  have K4 : ∀ (w' : World) (A : Option Addr) (c : Nat), RB w' 0 A x4 → x4.length ≤ c → Calls Tryd.prog 9 #[.slice A x4.length c] w' fun e w2 => ∃ B d, e = .returned (.tuple #[.slice B 60 d, .int .i64 0]) ∧ Ab w' w2 := fun w' A c hr hc => by
    refine (split_any A x4 c w' hr hc (by have := X4n.out; omega)).mono fun e w2 h => ?_
    obtain ⟨B, d, ps, h1, h2, _, h4⟩ := h
    rw [k4] at h1
    rw [if_pos k4] at h2
    have h5 := congrArg List.length h2
    rw [List.length_map, Ln.parts_length, X4c.out] at h5
    have h6 : ps.length = 60 := by rw [h5]; rfl
    rw [h6] at h1
    exact ⟨B, d, h1, h4⟩
  have e8 : Ln.err (Ln.L [⟨x5.toArray⟩, ⟨x6.toArray⟩]) = 4 := Ln.err_many (Or.inr (by show 2001 < Ln.len [x5, x6]; have h1 := X5n.out; have h2 := X6n.out; simp only [Ln.len, Lib.lens, List.map_cons, List.map_nil, List.sum_cons, List.sum_nil, List.length_cons, List.length_nil]; omega))
  have c5 : Ln.bad x5 = false := Ln.not_bad (List.count_eq_zero.1 (by have h2 := X5c.out; simpa using h2))
  have c7 : Ln.bad x7 = false := Ln.not_bad (List.count_eq_zero.1 (by have h2 := X7c.out; simpa using h2))
  have l9 : Ln.len (Ln.L [⟨x5.toArray⟩, ⟨x7.toArray⟩]) = 2000 + 1 := by show Ln.len [x5, x7] = _; have h1 := X5n.out; have h2 := X7n.out; simp only [Ln.len, Lib.lens, List.map_cons, List.map_nil, List.sum_cons, List.sum_nil, List.length_cons, List.length_nil]; omega
  have e9 : Ln.err (Ln.L [⟨x5.toArray⟩, ⟨x7.toArray⟩]) = 0 := Ln.err_of (by simp) (by rw [l9]; omega) (by simp) (by show [x5, x7].any Ln.bad = false; simp [c5, c7])
  have e10 : Ln.err (Ln.L [⟨x8.toArray⟩]) = 4 := Ln.err_many (Or.inr (by show 2001 < Ln.len [x8]; have h1 := X8n.out; simp only [Ln.len, Lib.lens, List.map_cons, List.map_nil, List.sum_cons, List.sum_nil, List.length_cons, List.length_nil]; omega))
  have e61 : Ln.err (Ln.L p61) = 4 := Ln.err_many (Or.inl (by rw [List.length_map, P61n.out]; omega))
  have e13 : Ln.errs (Ln.L p61) (Ln.L []) = 4 := by unfold Ln.errs; rw [if_neg (by rw [e61]; omega), e61]
  have z60 : ∀ q ∈ Ln.L p60, q = [] := fun q hq => by obtain ⟨p, hp, rfl⟩ := List.mem_map.1 hq; rw [P60z.out p hp]
  have s60 : Lib.lens (Ln.L p60) = 0 := by
    have : ∀ (l : List (List UInt8)), (∀ q ∈ l, q = []) → Lib.lens l = 0 := fun l => by
      induction l with
      | nil => intro _; rfl
      | cons q l ih => intro h; have h1 := h q List.mem_cons_self; have h2 := ih (fun r hr => h r (List.mem_cons_of_mem _ hr)); subst h1; unfold Lib.lens at h2 ⊢; simpa using h2
    exact this _ z60
  have b60 : (Ln.L p60).any Ln.bad = false := by rw [List.any_eq_false]; intro q hq; rw [z60 q hq]; decide
  have n60 : (Ln.L p60).length = 60 := by rw [List.length_map, P60n.out]
  have e60 : Ln.err (Ln.L p60) = 0 := Ln.err_of (by omega) (by unfold Ln.len; omega) (by intro h; rw [h] at n60; cases n60) b60
  have e19 : Ln.repE (Ln.L p60) 0 0 (Ln.L [⟨#[97]⟩]) = 4 := by
    unfold Ln.repE
    rw [if_neg (by rw [e60]; simp), if_neg (by rw [n60]; omega), if_neg (by decide)]
    refine Ln.err_many (Or.inl ?_)
    show 60 < ((Ln.L p60).take 0 ++ Ln.L [⟨#[97]⟩] ++ (Ln.L p60).drop 0).length
    rw [List.take_zero, List.drop_zero, List.nil_append, List.length_append, n60]
    decide
  clear k1 k2 k3 k4 c5 c7 z60 s60 b60 n60 e60 e61 X1c X2c X3c X4c X5c X6c X7c X8c P61z P60z
  have J5 := fun w' => joinN none 0 0 8 [] rfl rfl w' (SM.none (by omega))
  have J6 := fun w' A (h : SM w' A 1 [⟨#[97, 10]⟩]) => joinN A 1 1 8 _ rfl rfl w' h
  have J7 := fun w' A (h : SM w' A 61 p61) => joinN A 61 61 4 _ P61n.out (Ln.err_many (Or.inl (by rw [List.length_map, P61n.out]; omega))) w' h
  have J8 := fun w' A (h : SM w' A 2 [⟨x5.toArray⟩, ⟨x6.toArray⟩]) => joinN A 2 2 4 _ rfl e8 w' h
  have J9 := fun w' A (h : SM w' A 2 [⟨x5.toArray⟩, ⟨x7.toArray⟩]) => joinY A 2 2 2000 _ rfl e9 l9 w' h
  have J10 := fun w' A (h : SM w' A 1 [⟨x8.toArray⟩]) => joinN A 1 1 4 _ rfl e10 w' h
  have C12 := fun w' A (h : SM w' A 1 [⟨#[97]⟩]) => commonN A none 1 0 1 0 8 _ [] rfl rfl rfl (by omega) w' h (SM.none (by omega))
  have C13 := fun w' A (h : SM w' A 61 p61) => commonN A none 61 0 61 0 4 _ [] P61n.out rfl e13 (by omega) w' h (SM.none (by omega))
  have R14 := fun w' A (h : SM w' A 1 [⟨#[97]⟩]) => replaceN A none 1 0 1 0 2 _ [] (0) (2) rfl rfl rfl (by omega) (by omega) (by omega) (by omega) (by omega) w' h (SM.none (by omega))
  have R15 := fun w' A (h : SM w' A 1 [⟨#[97]⟩]) => replaceN A none 1 0 1 0 2 _ [] (1) (0) rfl rfl rfl (by omega) (by omega) (by omega) (by omega) (by omega) w' h (SM.none (by omega))
  have R16 := fun w' A (h : SM w' A 1 [⟨#[97]⟩]) => replaceN A none 1 0 1 0 2 _ [] (-1) (0) rfl rfl rfl (by omega) (by omega) (by omega) (by omega) (by omega) w' h (SM.none (by omega))
  have R18 := fun w' A (h : SM w' A 1 [⟨#[97]⟩]) => replaceN A none 1 0 1 0 8 _ [] (0) (1) rfl rfl rfl (by omega) (by omega) (by omega) (by omega) (by omega) w' h (SM.none (by omega))
  have R17 := fun w' A B (h : SM w' A 1 [⟨#[97]⟩]) (h' : SM w' B 1 [⟨#[10]⟩]) => replaceN A B 1 1 1 1 8 _ _ 0 0 rfl rfl rfl (by omega) (by omega) (by omega) (by omega) (by omega) w' h h'
  have R19 := fun w' A B (h : SM w' A 60 p60) (h' : SM w' B 1 [⟨#[97]⟩]) => replaceN A B 60 1 60 1 4 _ _ 0 0 P60n.out rfl e19 (by omega) (by omega) (by omega) (by omega) (by omega) w' h h'
  have R20 := fun w' A B (h : SM w' A 1 [⟨#[97]⟩]) (h' : SM w' B 1 [⟨#[]⟩]) => replaceN A B 1 1 1 1 0 _ _ 1 1 rfl rfl rfl (by omega) (by omega) (by omega) (by omega) (by omega) w' h h'
  clear e8 e9 l9 e10 e13 e19
  go_enter Tryd.func4, Tryd.ntmps4
  go_wp2_with fail
  refine (X1.out _).mono ?_
  rintro e u0 ⟨rfl, hb⟩
  have B0 : Ab w u0 := Ab.trans (by exact abA) hb
  clear hb
  have hcv := conv_bytes u0 x1
  have hge := grownCap_ge u0 x1.length 0 5
  have hR : RB (u0.drew.alloc (.cells (bytesRow ⟨x1.toArray⟩ (grownCap u0 x1.length 0 5)) 5 ((bytesRow ⟨x1.toArray⟩ (grownCap u0 x1.length 0 5)).size, (bytesRow ⟨x1.toArray⟩ (grownCap u0 x1.length 0 5)).size + 1))) 0 (some ⟨u0.heap.size, 0, none⟩) x1 := rb_row (by (repeat (first | exact new_plain wnA | with_reducible refine old_alloc ?_ | with_reducible refine old_drew ?_ | with_reducible refine old_set ?_ wnA | with_reducible refine old_ab (by assumption) ?_)))
  generalize grownCap u0 x1.length 0 5 = cp at *
  have hcp : x1.length ≤ cp := by omega
  go_wp2_with fail
  refine (K1 _ _ _ hR hcp).mono ?_
  rintro e u1 ⟨rfl, hb⟩
  clear hcv hR hge hcp
  have B1 : Ab w u1 := Ab.trans (by exact abA) hb
  clear hb B0
  go_wp2_with fail
  refine (X2.out _).mono ?_
  rintro e u2 ⟨rfl, hb⟩
  have B2 : Ab w u2 := Ab.trans (by exact abA) hb
  clear hb B1
  have hcv := conv_bytes u2 x2
  have hge := grownCap_ge u2 x2.length 0 5
  have hR : RB (u2.drew.alloc (.cells (bytesRow ⟨x2.toArray⟩ (grownCap u2 x2.length 0 5)) 5 ((bytesRow ⟨x2.toArray⟩ (grownCap u2 x2.length 0 5)).size, (bytesRow ⟨x2.toArray⟩ (grownCap u2 x2.length 0 5)).size + 1))) 0 (some ⟨u2.heap.size, 0, none⟩) x2 := rb_row (by (repeat (first | exact new_plain wnA | with_reducible refine old_alloc ?_ | with_reducible refine old_drew ?_ | with_reducible refine old_set ?_ wnA | with_reducible refine old_ab (by assumption) ?_)))
  generalize grownCap u2 x2.length 0 5 = cp at *
  have hcp : x2.length ≤ cp := by omega
  go_wp2_with fail
  refine (K2 _ _ _ hR hcp).mono ?_
  rintro e u3 ⟨rfl, hb⟩
  clear hcv hR hge hcp
  have B3 : Ab w u3 := Ab.trans (by exact abA) hb
  clear hb B2
  go_wp2_with fail
  refine (X3.out _).mono ?_
  rintro e u4 ⟨rfl, hb⟩
  have B4 : Ab w u4 := Ab.trans (by exact abA) hb
  clear hb B3
  have hcv := conv_bytes u4 x3
  have hge := grownCap_ge u4 x3.length 0 5
  have hR : RB (u4.drew.alloc (.cells (bytesRow ⟨x3.toArray⟩ (grownCap u4 x3.length 0 5)) 5 ((bytesRow ⟨x3.toArray⟩ (grownCap u4 x3.length 0 5)).size, (bytesRow ⟨x3.toArray⟩ (grownCap u4 x3.length 0 5)).size + 1))) 0 (some ⟨u4.heap.size, 0, none⟩) x3 := rb_row (by (repeat (first | exact new_plain wnA | with_reducible refine old_alloc ?_ | with_reducible refine old_drew ?_ | with_reducible refine old_set ?_ wnA | with_reducible refine old_ab (by assumption) ?_)))
  generalize grownCap u4 x3.length 0 5 = cp at *
  have hcp : x3.length ≤ cp := by omega
  go_wp2_with fail
  refine (K3 _ _ _ hR hcp).mono ?_
  rintro e u5 ⟨rfl, hb⟩
  clear hcv hR hge hcp
  have B5 : Ab w u5 := Ab.trans (by exact abA) hb
  clear hb B4
  go_wp2_with fail
  refine (X4.out _).mono ?_
  rintro e u6 ⟨rfl, hb⟩
  have B6 : Ab w u6 := Ab.trans (by exact abA) hb
  clear hb B5
  have hcv := conv_bytes u6 x4
  have hge := grownCap_ge u6 x4.length 0 5
  have hR : RB (u6.drew.alloc (.cells (bytesRow ⟨x4.toArray⟩ (grownCap u6 x4.length 0 5)) 5 ((bytesRow ⟨x4.toArray⟩ (grownCap u6 x4.length 0 5)).size, (bytesRow ⟨x4.toArray⟩ (grownCap u6 x4.length 0 5)).size + 1))) 0 (some ⟨u6.heap.size, 0, none⟩) x4 := rb_row (by (repeat (first | exact new_plain wnA | with_reducible refine old_alloc ?_ | with_reducible refine old_drew ?_ | with_reducible refine old_set ?_ wnA | with_reducible refine old_ab (by assumption) ?_)))
  generalize grownCap u6 x4.length 0 5 = cp at *
  have hcp : x4.length ≤ cp := by omega
  go_wp2_with fail
  refine (K4 _ _ _ hR hcp).mono ?_
  rintro e u7 ⟨Q4, q4, rfl, hb⟩
  clear hcv hR hge hcp
  have B7 : Ab w u7 := Ab.trans (by exact abA) hb
  clear hb B6
  go_wp2_with fail
  refine (J5 _).mono ?_
  rintro e u8 ⟨Q5, q5, r5, rfl, hb⟩
  have B8 : Ab w u8 := Ab.trans (by exact abA) hb
  clear hb B7
  go_wp2_with fail
  refine (J6 _ _ ?_).mono ?_
  · exact sm_lit [⟨#[97, 10]⟩] (by (repeat (first | exact new_plain wnA | with_reducible refine old_alloc ?_ | with_reducible refine old_drew ?_ | with_reducible refine old_set ?_ wnA | with_reducible refine old_ab (by assumption) ?_))) rfl
  rintro e u9 ⟨Q6, q6, r6, rfl, hb⟩
  have B9 : Ab w u9 := Ab.trans (by exact abA) hb
  clear hb B8
  go_wp2_with fail
  refine (J7 _ _ ?_).mono ?_
  · exact P61.out _ _ (by (repeat (first | exact new_plain wnA | with_reducible refine old_alloc ?_ | with_reducible refine old_drew ?_ | with_reducible refine old_set ?_ wnA | with_reducible refine old_ab (by assumption) ?_)))
  rintro e u10 ⟨Q7, q7, r7, rfl, hb⟩
  have B10 : Ab w u10 := Ab.trans (by exact abA) hb
  clear hb B9
  go_wp2_with fail
  refine (X5.out _).mono ?_
  rintro e u11 ⟨rfl, hb⟩
  have B11 : Ab w u11 := Ab.trans (by exact abA) hb
  clear hb B10
  go_wp2_with fail
  refine (X6.out _).mono ?_
  rintro e u12 ⟨rfl, hb⟩
  have B12 : Ab w u12 := Ab.trans (by exact abA) hb
  clear hb B11
  go_wp2_with fail
  refine (J8 _ _ ?_).mono ?_
  · exact smN [⟨x5.toArray⟩, ⟨x6.toArray⟩] (by (repeat (first | exact new_plain wnA | with_reducible refine old_alloc ?_ | with_reducible refine old_drew ?_ | with_reducible refine old_set ?_ wnA | with_reducible refine old_ab (by assumption) ?_))) rfl (by simp) (fun p hp => by
      have h1 := X5n.out
      have h2 := X6n.out
      simp at hp
      rcases hp with rfl | rfl
      · show x5.length ≤ _; omega
      · show x6.length ≤ _; omega)
  rintro e u13 ⟨Q8, q8, r8, rfl, hb⟩
  have B13 : Ab w u13 := Ab.trans (by exact abA) hb
  clear hb B12
  go_wp2_with fail
  refine (X5.out _).mono ?_
  rintro e u14 ⟨rfl, hb⟩
  have B14 : Ab w u14 := Ab.trans (by exact abA) hb
  clear hb B13
  go_wp2_with fail
  refine (X7.out _).mono ?_
  rintro e u15 ⟨rfl, hb⟩
  have B15 : Ab w u15 := Ab.trans (by exact abA) hb
  clear hb B14
  go_wp2_with fail
  refine (J9 _ _ ?_).mono ?_
  · exact smN [⟨x5.toArray⟩, ⟨x7.toArray⟩] (by (repeat (first | exact new_plain wnA | with_reducible refine old_alloc ?_ | with_reducible refine old_drew ?_ | with_reducible refine old_set ?_ wnA | with_reducible refine old_ab (by assumption) ?_))) rfl (by simp) (fun p hp => by
      have h1 := X5n.out
      have h2 := X7n.out
      simp at hp
      rcases hp with rfl | rfl
      · show x5.length ≤ _; omega
      · show x7.length ≤ _; omega)
  rintro e u16 ⟨Q9, q9, rfl, hb⟩
  have B16 : Ab w u16 := Ab.trans (by exact abA) hb
  clear hb B15
  go_wp2_with fail
  refine (X8.out _).mono ?_
  rintro e u17 ⟨rfl, hb⟩
  have B17 : Ab w u17 := Ab.trans (by exact abA) hb
  clear hb B16
  go_wp2_with fail
  refine (J10 _ _ ?_).mono ?_
  · exact smN [⟨x8.toArray⟩] (by (repeat (first | exact new_plain wnA | with_reducible refine old_alloc ?_ | with_reducible refine old_drew ?_ | with_reducible refine old_set ?_ wnA | with_reducible refine old_ab (by assumption) ?_))) rfl (by simp) (fun p hp => by
      have h1 := X8n.out
      simp at hp
      subst hp
      show x8.length ≤ _; omega)
  rintro e u18 ⟨Q10, q10, r10, rfl, hb⟩
  have B18 : Ab w u18 := Ab.trans (by exact abA) hb
  clear hb B17
  go_wp2_with fail
  refine (C12 _ _ ?_).mono ?_
  · exact sm_lit [⟨#[97]⟩] (by (repeat (first | exact new_plain wnA | with_reducible refine old_alloc ?_ | with_reducible refine old_drew ?_ | with_reducible refine old_set ?_ wnA | with_reducible refine old_ab (by assumption) ?_))) rfl
  rintro e u19 ⟨rfl, hb⟩
  have hone := SM.ab (sm_lit (n := 1) (g := u18.heap.size) [⟨#[97]⟩] (by (repeat (first | exact new_plain wnA | with_reducible refine old_alloc ?_ | with_reducible refine old_drew ?_ | with_reducible refine old_set ?_ wnA | with_reducible refine old_ab (by assumption) ?_))) rfl) hb
  have B19 : Ab w u19 := Ab.trans (by exact abA) hb
  clear hb B18
  go_wp2_with fail
  refine (C13 _ _ ?_).mono ?_
  · exact P61.out _ _ (by (repeat (first | exact new_plain wnA | with_reducible refine old_alloc ?_ | with_reducible refine old_drew ?_ | with_reducible refine old_set ?_ wnA | with_reducible refine old_ab (by assumption) ?_)))
  rintro e u20 ⟨rfl, hb⟩
  have hone := SM.ab hone (Ab.trans (by exact abA) hb)
  have B20 : Ab w u20 := Ab.trans (by exact abA) hb
  clear hb B19
  go_wp2_with fail
  refine (R14 _ _ (hone.ab (by exact abA))).mono ?_
  rintro e u21 ⟨Q14, q14, r14, rfl, _, _, hb⟩
  have hone := SM.ab hone (Ab.trans (by exact abA) hb)
  have B21 : Ab w u21 := Ab.trans (by exact abA) hb
  clear hb B20
  go_wp2_with fail
  refine (R15 _ _ (hone.ab (by exact abA))).mono ?_
  rintro e u22 ⟨Q15, q15, r15, rfl, _, _, hb⟩
  have hone := SM.ab hone (Ab.trans (by exact abA) hb)
  have B22 : Ab w u22 := Ab.trans (by exact abA) hb
  clear hb B21
  go_wp2_with fail
  refine (R16 _ _ (hone.ab (by exact abA))).mono ?_
  rintro e u23 ⟨Q16, q16, r16, rfl, _, _, hb⟩
  have hone := SM.ab hone (Ab.trans (by exact abA) hb)
  have B23 : Ab w u23 := Ab.trans (by exact abA) hb
  clear hb B22
  go_wp2_with fail
  refine (R17 _ _ _ (hone.ab (by exact abA)) ?_).mono ?_
  · exact sm_lit [⟨#[10]⟩] (by (repeat (first | exact new_plain wnA | with_reducible refine old_alloc ?_ | with_reducible refine old_drew ?_ | with_reducible refine old_set ?_ wnA | with_reducible refine old_ab (by assumption) ?_))) rfl
  rintro e u24 ⟨Q17, q17, r17, rfl, _, _, hb⟩
  have hone := SM.ab hone (Ab.trans (by exact abA) hb)
  have B24 : Ab w u24 := Ab.trans (by exact abA) hb
  clear hb B23
  go_wp2_with fail
  refine (R18 _ _ (hone.ab (by exact abA))).mono ?_
  rintro e u25 ⟨Q18, q18, r18, rfl, _, _, hb⟩
  have hone := SM.ab hone (Ab.trans (by exact abA) hb)
  have B25 : Ab w u25 := Ab.trans (by exact abA) hb
  clear hb B24
  go_wp2_with fail
  refine (R19 _ _ _ ?_ (hone.ab (by exact abA))).mono ?_
  · exact P60.out _ _ (by (repeat (first | exact new_plain wnA | with_reducible refine old_alloc ?_ | with_reducible refine old_drew ?_ | with_reducible refine old_set ?_ wnA | with_reducible refine old_ab (by assumption) ?_)))
  rintro e u26 ⟨Q19, q19, r19, rfl, _, _, hb⟩
  have hone := SM.ab hone (Ab.trans (by exact abA) hb)
  have B26 : Ab w u26 := Ab.trans (by exact abA) hb
  clear hb B25
  go_wp2_with fail
  refine (R20 _ _ _ (hone.ab (by exact abA)) ?_).mono ?_
  · exact sm_lit [⟨#[]⟩] (by (repeat (first | exact new_plain wnA | with_reducible refine old_alloc ?_ | with_reducible refine old_drew ?_ | with_reducible refine old_set ?_ wnA | with_reducible refine old_ab (by assumption) ?_))) rfl
  rintro e u27 ⟨Q20, q20, r20, rfl, hL20, hS20, hb⟩
  have B27 : Ab w u27 := Ab.trans (by exact abA) hb
  clear hb B26
  go_wp2_with fail
  refine (lalive_any _).mono ?_
  rintro e u28 ⟨rfl, hb⟩
  have hS20 := SM.ab hS20 (Ab.trans (by exact abA) hb)
  have B28 : Ab w u28 := Ab.trans (by exact abA) hb
  clear hb B27
  go_wp2_with fail
  refine (rsame_any _ _ _ _ r20 [⟨#[97]⟩, ⟨#[]⟩] _ (hS20.ab (by exact abA)) ?_ hL20).mono ?_
  · exact sm_lit [⟨#[97]⟩, ⟨#[]⟩] (by (repeat (first | exact new_plain wnA | with_reducible refine old_alloc ?_ | with_reducible refine old_drew ?_ | with_reducible refine old_set ?_ wnA | with_reducible refine old_ab (by assumption) ?_))) rfl
  rintro e u29 ⟨rfl, hb⟩
  have B29 : Ab w u29 := Ab.trans (by exact abA) hb
  clear hb B28
  go_wp2
  go_ret
  exact ⟨rfl, B29⟩
end Go.Proofs.YtegnkmfdchljkaaDoor
