/- How the least delta begins, walked. Own work. -/
import Derived.Test.YtjgijpfknhfnjaaDlFunA
set_option linter.unusedVariables false
set_option linter.unusedSimpArgs false
namespace Go.Proofs.Ytjgijpfknhfnjaa
open Go.RowKit

/-- The first of the starts with the least cost: of copies of up to lg bytes, the longer ones first, and then inserts of up to m. -/
structure Dl.Best (f : Nat → Int) (lg m : Nat) (c : Int) (k : Nat) (cp : Bool) : Prop where
  one : 1 ≤ k
  le : k ≤ m
  copy : ∀ j, 1 ≤ j → j ≤ lg → c ≤ 3 + f j
  ins : ∀ j, 1 ≤ j → j ≤ m → c ≤ 1 + j + f j
  t : cp = true → k ≤ lg ∧ c = 3 + f k ∧ ∀ j, k < j → j ≤ lg → c ≠ 3 + f j
  f : cp = false → c = 1 + k + f k ∧ (∀ j, 1 ≤ j → j ≤ lg → c ≠ 3 + f j) ∧ ∀ j, 1 ≤ j → j < k → c ≠ 1 + j + f j
/-- What is known behind the copies down to n. -/
def Dl.P1 (f : Nat → Int) (lg n : Nat) (c : Int) (k : Nat) (cp : Bool) : Prop :=
  (∀ j, n < j → j ≤ lg → c ≤ 3 + f j) ∧ ((c = 9223372036854775807 ∧ k = 0 ∧ cp = false ∧ n = lg) ∨ (cp = true ∧ n < k ∧ k ≤ lg ∧ c = 3 + f k ∧ ∀ j, k < j → j ≤ lg → c ≠ 3 + f j))
/-- .. behind the inserts below n. -/
def Dl.P2 (f : Nat → Int) (lg n : Nat) (c : Int) (k : Nat) (cp : Bool) : Prop :=
  (∀ j, 1 ≤ j → j ≤ lg → c ≤ 3 + f j) ∧ (∀ j, 1 ≤ j → j < n → c ≤ 1 + j + f j) ∧
  ((c = 9223372036854775807 ∧ k = 0 ∧ cp = false ∧ n = 1 ∧ lg = 0) ∨ (cp = true ∧ 1 ≤ k ∧ k ≤ lg ∧ c = 3 + f k ∧ ∀ j, k < j → j ≤ lg → c ≠ 3 + f j) ∨
    (cp = false ∧ 1 ≤ k ∧ k < n ∧ c = 1 + k + f k ∧ (∀ j, 1 ≤ j → j ≤ lg → c ≠ 3 + f j) ∧ ∀ j, 1 ≤ j → j < k → c ≠ 1 + j + f j))
theorem Dl.P1.start (f : Nat → Int) (lg : Nat) : Dl.P1 f lg lg 9223372036854775807 0 false := ⟨fun j h1 h2 => by omega, .inl ⟨rfl, rfl, rfl, rfl⟩⟩
theorem Dl.P1.less {f : Nat → Int} {lg n : Nat} {c : Int} {k : Nat} {cp : Bool} (h : Dl.P1 f lg (n + 1) c k cp) (hn : n + 1 ≤ lg) (hl : 3 + f (n + 1) < c) : Dl.P1 f lg n (3 + f (n + 1)) (n + 1) true := by
  refine ⟨fun j h1 h2 => ?_, .inr ⟨rfl, by omega, hn, rfl, fun j h1 h2 => ?_⟩⟩
  · by_cases e : j = n + 1
    · subst e; omega
    · have := h.1 j (by omega) h2; omega
  · have := h.1 j h1 h2; omega
theorem Dl.P1.not {f : Nat → Int} {lg n : Nat} {c : Int} {k : Nat} {cp : Bool} (h : Dl.P1 f lg (n + 1) c k cp) (hn : n + 1 ≤ lg) (hl : ¬ 3 + f (n + 1) < c) (hf : f (n + 1) ≤ 1000000) : Dl.P1 f lg n c k cp := by
  refine ⟨fun j h1 h2 => ?_, ?_⟩
  · by_cases e : j = n + 1
    · subst e; omega
    · exact h.1 j (by omega) h2
  · rcases h.2 with ⟨h1, _⟩ | ⟨h1, h2, h3⟩
    · omega
    · exact .inr ⟨h1, by omega, h3⟩
theorem Dl.P1.next {f : Nat → Int} {lg : Nat} {c : Int} {k : Nat} {cp : Bool} (h : Dl.P1 f lg 0 c k cp) : Dl.P2 f lg 1 c k cp := by
  refine ⟨fun j h1 h2 => h.1 j (by omega) h2, fun j h1 h2 => by omega, ?_⟩
  rcases h.2 with ⟨h1, h2, h3, h4⟩ | ⟨h1, h2, h3⟩
  · exact .inl ⟨h1, h2, h3, rfl, h4.symm⟩
  · exact .inr (.inl ⟨h1, by omega, h3⟩)
theorem Dl.P2.less {f : Nat → Int} {lg n : Nat} {c : Int} {k : Nat} {cp : Bool} (h : Dl.P2 f lg n c k cp) (hn : 1 ≤ n) (hl : 1 + n + f n < c) : Dl.P2 f lg (n + 1) (1 + n + f n) n false := by
  refine ⟨fun j h1 h2 => by have := h.1 j h1 h2; omega, fun j h1 h2 => ?_, .inr (.inr ⟨rfl, hn, by omega, rfl, fun j h1 h2 => by have := h.1 j h1 h2; omega, fun j h1 h2 => by have := h.2.1 j h1 h2; omega⟩)⟩
  by_cases e : j = n
  · subst e; omega
  · have := h.2.1 j h1 (by omega); omega
theorem Dl.P2.not {f : Nat → Int} {lg n : Nat} {c : Int} {k : Nat} {cp : Bool} (h : Dl.P2 f lg n c k cp) (hn : 1 ≤ n) (hl : ¬ 1 + n + f n < c) (hf : f n ≤ 1000000) (hm : n ≤ 1000000) : Dl.P2 f lg (n + 1) c k cp := by
  refine ⟨h.1, fun j h1 h2 => ?_, ?_⟩
  · by_cases e : j = n
    · subst e; omega
    · exact h.2.1 j h1 (by omega)
  · rcases h.2.2 with ⟨h1, _⟩ | h3 | ⟨h1, h2, h3, h4⟩
    · omega
    · exact .inr (.inl h3)
    · exact .inr (.inr ⟨h1, h2, by omega, h4⟩)
theorem Dl.P2.best {f : Nat → Int} {lg m : Nat} {c : Int} {k : Nat} {cp : Bool} (h : Dl.P2 f lg (m + 1) c k cp) (hm : 1 ≤ m) (hlg : lg ≤ m) : Dl.Best f lg m c k cp := by
  have hi : ∀ j, 1 ≤ j → j ≤ m → c ≤ 1 + j + f j := fun j h1 h2 => h.2.1 j h1 (by omega)
  rcases h.2.2 with ⟨_, _, _, h4, _⟩ | ⟨h1, h2, h3, h4, h5⟩ | ⟨h1, h2, h3, h4, h5, h6⟩
  · omega
  · exact ⟨h2, by omega, h.1, hi, fun _ => ⟨h3, h4, h5⟩, fun e => by rw [h1] at e; cases e⟩
  · exact ⟨h2, by omega, h.1, hi, fun e => by (rw [h1] at e; cases e), fun _ => ⟨h4, h5, h6⟩⟩
theorem infoS : (Try.prog.info? 64).map (·.size) = some 3 := by kernel_rfl
/-- What best returns. -/
def RetBest (f : Nat → Int) (lg m : Nat) (w : World) (e : Ending) (w' : World) : Prop := ∃ (c : Int) (k : Nat) (cp : Bool), e = .returned (.agg #[.int .i64 c, .int .i64 (k : Int), .bool cp]) ∧ Hid (Dl.Best f lg m c k cp) ∧ Ab w w'
set_option maxRecDepth 100000 in
set_option maxHeartbeats 2000000 in
theorem best_any (g off cap lg m : Nat) (f : Nat → Int) (w : World) (hc : ∀ j, 1 ≤ j → j ≤ m → w.cell? ⟨g, off + j * 3, none⟩ = some (.int .i64 (f j))) (hf : ∀ j, 1 ≤ j → j ≤ m → 0 ≤ f j ∧ f j ≤ 1000000) (hm : 1 ≤ m) (hm2 : m ≤ 1000000) (hlg : lg ≤ m) :
    Calls Try.prog 51 #[.slice (some ⟨g, off, none⟩) (m + 1) cap, .int .i64 (lg : Int)] w (RetBest f lg m w) := by
  have HC := Lib.hid hc
  have HF := Lib.hid hf
  clear hc hf
  obtain ⟨mm, hmm⟩ : ∃ mm : Nat, mm = m + 1 := ⟨_, rfl⟩
  rw [← hmm]
  have HM := Lib.hid hmm
  have hmi : mm ≤ 1000001 := by omega
  have hlm : lg < mm := by omega
  go_enter Try.func51, Try.ntmps51
  have R0 : VB ((w.alloc (.cells #[.int .i64 0, .int .i64 0, .bool false] 64)).alloc (.cells #[.int .i64 0, .int .i64 0, .bool false] 64)) w.heap.size [.int .i64 0, .int .i64 0, .bool false] := VB.box (xs := #[.int .i64 0, .int .i64 0, .bool false]) (T := 64) (by (repeat (first | exact new_plain wnA | with_reducible refine old_alloc ?_ | with_reducible refine old_drew ?_ | with_reducible refine old_set ?_ wnA | with_reducible refine old_ab (by assumption) ?_)))
  have S0 : VB ((w.alloc (.cells #[.int .i64 0, .int .i64 0, .bool false] 64)).alloc (.cells #[.int .i64 0, .int .i64 0, .bool false] 64)) (w.heap.size + 1) [.int .i64 0, .int .i64 0, .bool false] := VB.box (xs := #[.int .i64 0, .int .i64 0, .bool false]) (T := 64) (by (repeat (first | exact new_plain wnA | with_reducible refine old_alloc ?_ | with_reducible refine old_drew ?_ | with_reducible refine old_set ?_ wnA | with_reducible refine old_ab (by assumption) ?_)))
  have b0 : Ab w ((w.alloc (.cells #[.int .i64 0, .int .i64 0, .bool false] 64)).alloc (.cells #[.int .i64 0, .int .i64 0, .bool false] 64)) := abA
  go_upto_region 2 with (refine list_stV (o := ⟨none, _, _, _, _, _⟩) (us := [.int .i64 9223372036854775807, .int .i64 0, .bool false]) _ infoS rfl _ _ rfl rfl rfl S0 rfl rfl rfl ?_; intro w1 h1)
  have b1 : Ab w w1 := h1.ab w b0 (by omega)
  have R1 := h1.vb R0 (by omega)
  have S1 := h1.v
  clear h1 R0 S0 b0
  go_wp2_with fail
  go_loopw [6] (fun n w' => ∃ (i : Nat) (c : Int) (k : Nat) (cp : Bool), i ≤ lg ∧ n = .int .i64 (i : Int) ∧ Hid (Dl.P1 f lg i c k cp) ∧ VB w' (w.heap.size + 1) [.int .i64 c, .int .i64 (k : Int), .bool cp] ∧ VB w' w.heap.size [.int .i64 0, .int .i64 0, .bool false] ∧ Ab w w') (fun n _ => (intOf n).toNat)
  case atStart => exact ⟨lg, _, 0, false, Nat.le_refl _, rfl, Lib.hid (Dl.P1.start f lg), S1, R1, b1⟩
  case round =>
    obtain ⟨i, c, k, cp, hi, rfl, hP, S2, R2, b2⟩ := hrel
    rename World => w2
    have c0 := S2.at 0 (v := .int .i64 c) rfl
    by_cases h0 : i = 0
    · subst h0
      have hT : ¬ (0 : Int) < ((0 : Nat) : Int) := by omega
      have HQ := Lib.hid (hP.out.next)
      clear hP
      go_wp2_with fail
      go_loopw [8] (fun n w' => ∃ (j : Nat) (c : Int) (k : Nat) (cp : Bool), 1 ≤ j ∧ j ≤ mm ∧ n = .int .i64 (j : Int) ∧ Hid (Dl.P2 f lg j c k cp) ∧ VB w' (w.heap.size + 1) [.int .i64 c, .int .i64 (k : Int), .bool cp] ∧ VB w' w.heap.size [.int .i64 0, .int .i64 0, .bool false] ∧ Ab w w') (fun n _ => mm - (intOf n).toNat)
      case atStart => exact ⟨1, c, k, cp, Nat.le_refl _, by omega, rfl, HQ, S2, R2, b2⟩
      case round =>
        clear c0 S2 R2 b2 HQ
        obtain ⟨j, c, k, cp, hj1, hj, rfl, hP, S3, R3, b3⟩ := hrel
        rename World => w3
        have c0 := S3.at 0 (v := .int .i64 c) rfl
        by_cases hlt : j < mm
        · have hT : (j : Int) < mm := by omega
          have hcj := b3.at (HC.out j hj1 (by have := HM.out; omega))
          have hfj := HF.out j hj1 (by have := HM.out; omega)
          have HL := Lib.hid (fun h : 1 + (j : Int) + f j < c => hP.out.less hj1 h)
          have HN := Lib.hid (fun h : ¬ 1 + (j : Int) + f j < c => hP.out.not hj1 h hfj.2 (by omega))
          generalize f j = fj at *
          have hw1 : IntKind.i64.wrap (1 + (j : Int)) = 1 + (j : Int) := IntWalk.i64_in _ (by omega)
          have hw : IntKind.i64.wrap (1 + (j : Int) + fj) = 1 + (j : Int) + fj := IntWalk.i64_in _ (by omega)
          by_cases hl : 1 + (j : Int) + fj < c
          · have HR := HL.out hl
            have HR := Lib.hid HR
            go_wp2_with (refine list_stV (o := ⟨none, _, _, _, _, _⟩) (us := [.int .i64 (1 + (j : Int) + fj), .int .i64 (j : Int), .bool false]) _ infoS rfl _ _ rfl rfl rfl S3 rfl rfl rfl ?_; intro w4 h4)
            go_roundw
            case rel => exact ⟨j + 1, _, j, false, by omega, by omega, by go_num, HR, h4.v, h4.vb R3 (by omega), h4.ab w b3 (by omega)⟩
            case measure => simp [intOf] <;> omega
          · have HR := Lib.hid (HN.out hl)
            go_wp2
            go_roundw
            case rel => exact ⟨j + 1, c, k, cp, by omega, by omega, by go_num, HR, S3, R3, b3⟩
            case measure => simp [intOf] <;> omega
        · obtain rfl : j = mm := by omega
          have HB : Hid (Dl.Best f lg m c k cp) := by
            have := hP.out
            rw [HM.out] at this
            exact this.best hm hlg
          clear hP
          go_wp2_with (first
            | (refine list_ldV (o := ⟨some 50, _, _, _, _, _⟩) _ infoS Try.underlying64 rfl rfl _ rfl rfl S3 rfl ?_)
            | (refine list_stV (o := ⟨none, _, _, _, _, _⟩) (us := [.int .i64 c, .int .i64 (k : Int), .bool cp]) _ infoS rfl _ _ rfl rfl rfl R3 rfl rfl rfl ?_; intro w9 h9))
          refine bodyPost_ret (res_V1 _ infoS Try.underlying64 rfl Try.results51 _ rfl h9.v rfl) rfl ?_
          exact ⟨c, k, cp, rfl, HB, h9.ab w b3 (by omega)⟩
    · have hT : (0 : Int) < (i : Int) := by omega
      have hcj := b2.at (HC.out i (by omega) (by omega))
      have hfj := HF.out i (by omega) (by omega)
      have HL := Lib.hid (fun h : 3 + f i < c => (show Dl.P1 f lg (i - 1) (3 + f i) i true by
        obtain ⟨n, rfl⟩ : ∃ n, i = n + 1 := ⟨i - 1, by omega⟩
        exact hP.out.less hi h))
      have HN := Lib.hid (fun h : ¬ 3 + f i < c => (show Dl.P1 f lg (i - 1) c k cp by
        obtain ⟨n, rfl⟩ : ∃ n, i = n + 1 := ⟨i - 1, by omega⟩
        exact hP.out.not hi h hfj.2))
      generalize f i = fj at *
      have hli : (i : Int) < mm := by omega
      have hw : IntKind.i64.wrap (3 + fj) = 3 + fj := IntWalk.i64_in _ (by omega)
      have hw2 : IntKind.i64.wrap ((i : Int) - 1) = ((i - 1 : Nat) : Int) := by rw [show ((i - 1 : Nat) : Int) = (i : Int) - 1 by omega]; exact IntWalk.i64_in _ (by omega)
      by_cases hl : 3 + fj < c
      · have HR := Lib.hid (HL.out hl)
        go_wp2_with (refine list_stV (o := ⟨none, _, _, _, _, _⟩) (us := [.int .i64 (3 + fj), .int .i64 (i : Int), .bool true]) _ infoS rfl _ _ rfl rfl rfl S2 rfl rfl rfl ?_; intro w4 h4)
        go_roundw
        case rel => exact ⟨i - 1, _, i, true, by omega, by go_num, HR, h4.v, h4.vb R2 (by omega), h4.ab w b2 (by omega)⟩
        case measure => simp [intOf] <;> omega
      · have HR := Lib.hid (HN.out hl)
        go_wp2
        go_roundw
        case rel => exact ⟨i - 1, c, k, cp, by omega, by go_num, HR, S2, R2, b2⟩
        case measure => simp [intOf] <;> omega
end Go.Proofs.Ytjgijpfknhfnjaa
