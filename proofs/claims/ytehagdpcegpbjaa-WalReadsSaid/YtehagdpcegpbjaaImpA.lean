import Derived.Test.YtehagdpcegpbjaaPost
import Derived.Deep.DeepCutAuto
set_option linter.unusedVariables false
namespace Go.Proofs.Ytehagdpcegpbjaa
open Go.RowKit Disk

set_option maxRecDepth 100000 in
theorem grow_any (n : Nat) (hn : n ≤ 70368744177664) (w : World) :
    Calls Try.prog 76 #[.slice none 0 0, .int .i64 (n : Int)] w (RetB w []) := by
  obtain ⟨i0, hi0, hz0, hz1, hz2⟩ := info_parts infoU8
  rcases Nat.eq_zero_or_pos n with h | h
  · subst h
    go_enter Try.func76, Try.ntmps76
    go_wp2
    go_ret
    exact ⟨[], none, 0, Lib.hid rfl, rfl, OR.none_, Ab.refl _⟩
  · have hr := Lib.run_append_nil_zeros (P := Try.prog) w 22 3 22 5 i0 (.int .u8 0) .i64 .i64 Try.underlying22 Try.underlying3 hi0 hz0 n h (by omega) (by omega) (by rw [hz2]; omega)
    have hge := grownCap_ge w n 0 5
    have hcm : grownCap w n 0 5 ≤ maxLen := grownCap_le_maxLen w n 0 5 (by unfold maxLen; omega)
    have h1 : (0 : Int) < (n : Int) := by omega
    generalize hC : grownCap w n 0 5 = C at hr hge hcm
    have HC := Lib.hid hC; clear hC
    go_enter Try.func76, Try.ntmps76
    go_wp2_with ((at_builtin; refine Lib.wpList_append_run _ rfl _ _ _ _ rfl _ _ rfl rfl _ _ hr ?_))
    go_ret
    refine ⟨[], some ⟨w.heap.size, 0, none⟩, C, Lib.hid rfl, rfl, ⟨rfl, .inr ⟨w.heap.size, C, _, rfl, Nat.le_refl _, by (repeat (first | with_reducible exact new_drew (by first | (simp; done) | (simp; omega)) | with_reducible exact new_plain (by first | (simp; done) | (simp; omega)) | with_reducible exact new_drewN (by first | (simp; done) | (simp; omega)) | with_reducible refine old_alloc ?_ | with_reducible refine old_drew ?_ | with_reducible refine old_drewN ?_ _ | with_reducible refine old_grown (by assumption) (by simp) ?_ | with_reducible refine old_ab (by assumption) ?_)), Nat.zero_le _, hcm, ?_, by simp⟩⟩, (by repeat (first | with_reducible exact Ab.refl _ | with_reducible assumption | with_reducible refine Ab.drew ?_ | with_reducible refine Ab.drewN ?_ _ | with_reducible refine Ab.alloc ?_ _ | with_reducible refine Ab.trans ?_ (by assumption) | with_reducible refine Ab.set ?_ (by first | (simp; done) | omega | (simp; omega)) _))⟩
    simp only [Array.size_append, size_zeroCells]
    simp; omega

/-- The bytes of rows, one behind the other. -/
def flat (xs : List (Option Addr × Nat × List UInt8)) : List UInt8 := xs.flatMap (·.2.2)
/-- The slices xs lie at a. -/
def Outer (w : World) (a : Addr) (xs : List (Option Addr × Nat × List UInt8)) : Prop :=
  ∀ i (h : i < xs.length), w.cell? (a.add i) = some (.slice xs[i].1 xs[i].2.2.length xs[i].2.1) ∧ RB w 0 xs[i].1 xs[i].2.2 ∧ xs[i].2.2.length ≤ xs[i].2.1
theorem Outer.ab {w w' : World} {a : Addr} {xs : List (Option Addr × Nat × List UInt8)} (h : Outer w a xs) (hb : Ab w w') : Outer w' a xs :=
  fun i hi => ⟨hb.at (h i hi).1, (h i hi).2.1.ab hb, (h i hi).2.2⟩
theorem flat_take_succ (xs : List (Option Addr × Nat × List UInt8)) (k : Nat) (h : k < xs.length) : flat (xs.take (k + 1)) = flat (xs.take k) ++ xs[k].2.2 := by
  rw [List.take_succ_eq_append_getElem h]; simp only [flat, List.flatMap_append, List.flatMap_cons, List.flatMap_nil, List.append_nil]
theorem flat_take_le (xs : List (Option Addr × Nat × List UInt8)) (k : Nat) : (flat (xs.take k)).length ≤ (flat xs).length := by
  have h : flat xs = flat (xs.take k) ++ flat (xs.drop k) := by unfold flat; rw [← List.flatMap_append, List.take_append_drop]
  rw [h]; simp

/-- What holds at the head of each round of Concat's second loop. -/
def CatRel (w : World) (xs : List (Option Addr × Nat × List UInt8)) (n : Nat) (v i : Value) (wr : World) : Prop :=
  ∃ (k : Nat) (A : Option Addr) (c : Nat) (l : List UInt8), k ≤ n ∧ Hid (l = flat (xs.take k)) ∧ i = .int .i64 (k : Int) ∧ v = .slice A l.length c ∧ OR 5 w.heap.size wr A c l ∧ Ab w wr

set_option maxHeartbeats 1600000 in
theorem concat_any (a : Addr) (n c : Nat) (xs : List (Option Addr × Nat × List UInt8)) (w : World) (ho : Outer w a xs) (hn : xs.length = n) (hn1 : n ≤ 1000000) (hl : (flat xs).length ≤ 70368744177664) :
    Calls Try.prog 63 #[.slice (some a) n c] w (RetB w (flat xs)) := by
  have hn2 := Nat.le_of_eq hn
  have hn3 := Nat.le_of_eq hn.symm
  clear hn
  go_enter Try.func63, Try.ntmps63
  go_wp2
  go_loop [3, 5, 11] (fun t x i => ∃ k : Nat, k ≤ n ∧ i = .int .i64 (k : Int) ∧ t = .int .i64 ((flat (xs.take k)).length : Int)) (fun _ _ i => n - (intOf i).toNat)
  case atStart => exact ⟨0, Nat.zero_le _, rfl, rfl⟩
  case round =>
    obtain ⟨k, hk, rfl, rfl⟩ := hrel
    by_cases hlt : k < n
    · have hkx : k < xs.length := by omega
      have hc := (ho k hkx).1
      have hf := flat_take_succ xs k hkx
      have hle := flat_take_le xs (k + 1)
      have hfl := congrArg List.length hf
      rw [List.length_append] at hfl
      generalize flat (xs.take k) = u at *
      generalize hv : flat (xs.take (k + 1)) = v at *
      have HV := Lib.hid hv; clear hv
      generalize xs[k] = row at *
      obtain ⟨A, cc, b⟩ := row
      have HF := Lib.hid hfl; clear hfl hf
      have hub : u.length + b.length ≤ 70368744177664 := by have := HF.out; simp only at this; omega
      simp only at hc
      go_wp2
      go_round
      case rel => exact ⟨k + 1, by omega, by go_num, by rw [HV.out]; exact congrArg (Value.int .i64) (by have := HF.out; simp only at this; omega)⟩
      case measure => simp [intOf]; omega
    · obtain rfl : k = n := by omega
      have hall : flat (xs.take k) = flat xs := by rw [List.take_of_length_le (by omega)]
      rw [hall]
      clear hall hlt
      have hlf : (0 : Int) ≤ ((flat xs).length : Int) := by omega
      go_wp2_with fail
      refine (grow_any (flat xs).length hl _).mono ?_
      rintro e w1 ⟨r, D, c1, hr, rfl, o1, hb1⟩
      obtain rfl : r = [] := hr.out
      go_wp2_with fail
      go_loopw [6, 8, 27] (fun v x i wr => CatRel w xs k v i wr) (fun _ _ i _ => k - (intOf i).toNat)
      case atStart => exact ⟨0, D, c1, [], Nat.zero_le _, Lib.hid rfl, rfl, rfl, o1, hb1⟩
      case round =>
        obtain ⟨j, A, cc, l, hj, hl1, rfl, rfl, o2, hb2⟩ := hrel
        by_cases hlt : j < k
        · have hkx : j < xs.length := by omega
          obtain ⟨hc, hb, hcl⟩ := (ho.ab hb2) j hkx
          have hf := flat_take_succ xs j hkx
          have hle := flat_take_le xs (j + 1)
          have hll := congrArg List.length hl1.out
          rw [hf, List.length_append] at hle
          generalize xs[j] = row at *
          obtain ⟨A2, cc2, b⟩ := row
          have hlen : l.length + b.length ≤ 70368744177664 := by simp only at hle; omega
          have HF := Lib.hid hf; clear hf hll hle
          simp only at hc hb hcl
          have hsz := hb2.size
          go_wp2_with ((at_builtin
                        refine listApp rfl _ _ rfl rfl rfl (m := b) rfl o2 hsz hb hcl hlen ?_
                        intro A3 c3 w3 L hL o3 _ hf3
                        have hb3 := hf3 w hb2 (Nat.le_refl _); clear hf3))
          go_roundw
          case rel => exact ⟨j + 1, A3, c3, L, by omega, Lib.hid (by rw [hL.out, hl1.out, HF.out]), by go_num, rfl, o3, hb3⟩
          case measure => simp [intOf]; omega
        · obtain rfl : j = k := by omega
          go_wp2
          go_ret
          exact ⟨l, A, cc, Lib.hid (by rw [hl1.out, List.take_of_length_le (by omega)]), rfl, o2, hb2⟩

theorem concat1_any (g c n ca : Nat) (A : Option Addr) (l : List UInt8) (w : World) (hc : w.cell? ⟨g, 0, none⟩ = some (.slice A n ca)) (hn : l.length = n) (hr : RB w 0 A l) (hl : l.length ≤ ca) (hb : l.length ≤ 70368744177664) :
    Calls Try.prog 63 #[.slice (some ⟨g, 0, none⟩) 1 c] w (RetB w l) := by
  subst hn
  have ho : Outer w ⟨g, 0, none⟩ [(A, ca, l)] := by
    intro i hi
    obtain rfl : i = 0 := by simpa using hi
    exact ⟨hc, hr, hl⟩
  have h := concat_any ⟨g, 0, none⟩ 1 c [(A, ca, l)] w ho rfl (by omega) (by simpa [flat] using hb)
  simpa [flat] using h
theorem concat2_any (g c n ca n' ca' : Nat) (A A' : Option Addr) (l m : List UInt8) (w : World) (hc : w.cell? ⟨g, 0, none⟩ = some (.slice A n ca)) (hn : l.length = n) (hr : RB w 0 A l) (hl : l.length ≤ ca)
    (hc' : w.cell? ⟨g, 1, none⟩ = some (.slice A' n' ca')) (hn' : m.length = n') (hr' : RB w 0 A' m) (hl' : m.length ≤ ca') (hb : l.length + m.length ≤ 70368744177664) :
    Calls Try.prog 63 #[.slice (some ⟨g, 0, none⟩) 2 c] w (RetB w (l ++ m)) := by
  subst hn; subst hn'
  have ho : Outer w ⟨g, 0, none⟩ [(A, ca, l), (A', ca', m)] := by
    intro i hi
    have h2 : i = 0 ∨ i = 1 := by simp at hi; omega
    rcases h2 with rfl | rfl
    · exact ⟨hc, hr, hl⟩
    · exact ⟨hc', hr', hl'⟩
  have h := concat_any ⟨g, 0, none⟩ 2 c [(A, ca, l), (A', ca', m)] w ho rfl (by omega) (by simpa [flat] using hb)
  simpa [flat] using h

theorem with_any (A B : Option Addr) (ca cb : Nat) (s t : List UInt8) (cap : Int) (dn : Bool) (w : World) (C D : Option Addr) (nc nd cc cd : Nat) :
    Calls Try.prog 62 #[.agg #[.slice A s.length ca, .slice B t.length cb, .int .i64 cap, .bool dn], .slice C nc cc, .slice D nd cd] w fun e w' =>
      e = .returned (.agg #[.slice C nc cc, .slice D nd cd, .int .i64 cap, .bool dn]) ∧ Ab w w' := by
  go_enter Try.func62, Try.ntmps62
  go_wp2
  refine bodyPost_ret (v := .agg #[.slice C nc cc, .slice D nd cd, .int .i64 cap, .bool dn]) (by simp [results, Try.results62, go_sem]) rfl ?_
  exact ⟨rfl, (by repeat (first | with_reducible exact Ab.refl _ | with_reducible assumption | with_reducible refine Ab.drew ?_ | with_reducible refine Ab.drewN ?_ _ | with_reducible refine Ab.alloc ?_ _ | with_reducible refine Ab.trans ?_ (by assumption) | with_reducible refine Ab.set ?_ (by first | (simp; done) | omega | (simp; omega)) _))⟩
end Go.Proofs.Ytehagdpcegpbjaa
