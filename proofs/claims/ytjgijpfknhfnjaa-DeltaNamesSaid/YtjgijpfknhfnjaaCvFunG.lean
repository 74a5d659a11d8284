/- Codes of whole numbers: their sizes, folds, walked. Own work. -/
import Derived.Test.YtjgijpfknhfnjaaCvVals
import Derived.Test.YtjgijpfknhfnjaaCvInt
import Derived.Deep.DeepCutAuto
set_option linter.unusedVariables false
set_option linter.unusedSimpArgs false
namespace Go.Proofs.Ytjgijpfknhfnjaa
open Go.RowKit
open Codec (V)

theorem code_le : ∀ (k n : Nat), n < 128 ^ (k + 1) → (Codec.code n).length ≤ k + 1 := by
  intro k
  induction k with
  | zero => intro n h; rw [Codec.code_small (by simpa using h)]; simp
  | succ k ih =>
    intro n h
    by_cases hn : n < 128
    · rw [Codec.code_small hn]; simp
    · rw [Codec.code_big hn, List.length_cons]
      have := ih (n / 128) (by rw [Nat.div_lt_iff_lt_mul (by decide)]; rw [Nat.pow_succ] at h; exact h)
      omega
theorem code_10 {n : Nat} (h : n < 18446744073709551616) : (Codec.code n).length ≤ 10 := code_le 9 n (Nat.lt_of_lt_of_le h (by decide))
def natOf (v : Value) : Nat := (intOf v).toNat
set_option maxRecDepth 100000 in
theorem codeSize_any (n : Nat) (w : World) (hn : n < 18446744073709551616) :
    Calls Try.prog 82 #[.int .u64 (n : Int)] w fun e w' => e = .returned (.int .i64 ((Codec.code n).length : Int)) ∧ w = w' := by
  have h10 := Lib.hid (code_10 hn)
  clear hn
  go_enter Try.func82, Try.ntmps82
  go_wp2
  go_loop [0, 3] (fun n0 s => ∃ (k j : Nat), n0 = .int .u64 (k : Int) ∧ s = .int .i64 (j : Int) ∧ Hid (j + (Codec.code k).length = (Codec.code n).length + 1)) (fun n0 _ => (intOf n0).toNat)
  case atStart => exact ⟨n, 1, rfl, rfl, Lib.hid (by omega)⟩
  case round =>
    obtain ⟨k, j, rfl, rfl, hj⟩ := hrel
    by_cases hlt : k < 128
    · have hk : ¬ (128 : Int) ≤ (k : Int) := by omega
      have HR : Hid (j = (Codec.code n).length) := by have := hj.out; unfold Hid; rw [Codec.code_small hlt] at this; simp at this; omega
      clear hlt
      go_wp2
      go_ret
      exact ⟨ret_int (by rw [HR.out]), rfl⟩
    · have hk : (128 : Int) ≤ (k : Int) := by omega
      have HR : Hid ((j + 1) + (Codec.code (k / 128)).length = (Codec.code n).length + 1) := by have := hj.out; unfold Hid; rw [Codec.code_big hlt, List.length_cons] at this; omega
      have hjb : (j : Int) ≤ 11 := by have := hj.out; have := h10.out; omega
      go_wp2
      go_round
      case rel => exact ⟨k / 128, j + 1, congrArg (Value.int .u64) (by omega), by go_num, HR⟩
      case measure => simp [intOf]; omega
theorem fold_form (n : Int) (h1 : -9223372036854775808 ≤ n) (h2 : n ≤ 9223372036854775807) : IntKind.u64.wrap (bits .xor .i64 (wrap64 (n * 2)) (n / 9223372036854775808)) = (Codec.fold n : Int) := by
  unfold Codec.fold
  by_cases h : 0 ≤ n
  · rw [if_pos h, Int.ediv_eq_zero_of_lt h (by omega)]
    obtain ⟨a, rfl⟩ : ∃ a : Nat, n = (a : Int) := ⟨n.toNat, by omega⟩
    have e : bits .xor .i64 (wrap64 ((a : Int) * 2)) 0 = wrap64 ((a : Int) * 2) := by
      show IntKind.i64.wrap ((BitVec.ofInt 64 (wrap64 ((a : Int) * 2)) ^^^ BitVec.ofInt 64 0).toNat : Int) = _
      have e1 : BitVec.ofInt 64 0 = 0#64 := by decide
      rw [e1, BitVec.xor_zero, BitVec.toNat_ofInt]
      simp [IntKind.wrap, IntKind.bits, IntKind.signed, wrap64]
      omega
    rw [e]
    simp [IntKind.wrap, IntKind.bits, IntKind.signed, wrap64]
    omega
  · rw [if_neg h]
    have e0 : n / 9223372036854775808 = -1 := by omega
    rw [e0]
    have e : bits .xor .i64 (wrap64 (n * 2)) (-1) = -(wrap64 (n * 2)) - 1 := by
      show IntKind.i64.wrap ((BitVec.ofInt 64 (wrap64 (n * 2)) ^^^ BitVec.ofInt 64 (-1)).toNat : Int) = _
      have e1 : BitVec.ofInt 64 (-1) = BitVec.allOnes 64 := by decide
      rw [e1, BitVec.xor_allOnes, BitVec.toNat_not, BitVec.toNat_ofInt]
      simp [IntKind.wrap, IntKind.bits, IntKind.signed, wrap64]
      omega
    rw [e]
    simp [IntKind.wrap, IntKind.bits, IntKind.signed, wrap64]
    omega
theorem fold_any (n : Int) (w : World) (h1 : -9223372036854775808 ≤ n) (h2 : n ≤ 9223372036854775807) :
    Calls Try.prog 62 #[.int .i64 n] w fun e w' => e = .returned (.int .u64 (Codec.fold n : Int)) ∧ w = w' := by
  have HF := Lib.hid (fold_form n h1 h2)
  clear h1 h2
  go_enter Try.func62, Try.ntmps62
  go_wp2
  go_ret
  refine ⟨ret_int ?_, rfl⟩
  rw [← HF.out]
end Go.Proofs.Ytjgijpfknhfnjaa
