/- Shifts and bits of uint64, as the codec makes them. Own work. -/
import Derived.Test.YtjgijpfknhfnjaaShBase
import Derived.Laws.Shifts
set_option linter.unusedVariables false
set_option linter.unusedSimpArgs false
namespace Go.Proofs.Ytjgijpfknhfnjaa
open Go.RowKit

theorem pow7 (s : Nat) : 128 ^ s = 2 ^ (7 * s) := by rw [Nat.pow_mul]
theorem wrap64u (n : Nat) : IntKind.u64.wrap (n : Int) = ((n % 18446744073709551616 : Nat) : Int) := by
  simp [IntKind.wrap, IntKind.bits, IntKind.signed]
theorem big_mod (p k : Nat) (h : 64 ≤ k) : p * 2 ^ k % 18446744073709551616 = 0 := by
  obtain ⟨j, rfl⟩ : ∃ j, k = 64 + j := ⟨k - 64, by omega⟩
  rw [Nat.pow_add, show (2 : Nat) ^ 64 = 18446744073709551616 by decide, Nat.mul_comm 18446744073709551616, ← Nat.mul_assoc]
  exact Nat.mul_mod_left _ _
theorem shl7 (p s : Nat) (v : Int) (hv : v = 7 * (s : Int)) : Op.shift .shl .u64 (p : Int) .i64 v = pure (.int .u64 ((p * 128 ^ s % 18446744073709551616 : Nat) : Int)) := by
  subst hv
  rw [shift_shl_any _ _ _ _ (by omega), show (7 * (s : Int)).toNat = 7 * s by omega, pow7]
  have e : (p : Int) * 2 ^ min (7 * s) IntKind.u64.bits = ((p * 2 ^ min (7 * s) 64 : Nat) : Int) := by
    rw [Int.natCast_mul, Int.natCast_pow]; rfl
  rw [e, wrap64u]
  by_cases h : 7 * s ≤ 64
  · rw [Nat.min_eq_left h]
  · rw [Nat.min_eq_right (by omega), big_mod _ _ (by omega), big_mod _ _ (by omega)]
theorem shr7 (P s : Nat) (v : Int) (hv : v = 7 * (s : Int)) : Op.shift .shr .u64 (P : Int) .i64 v = pure (.int .u64 ((P / 2 ^ min (7 * s) 64 : Nat) : Int)) := by
  subst hv
  rw [shift_shr_any _ _ _ _ (by omega), show (7 * (s : Int)).toNat = 7 * s by omega]
  have e : (P : Int) / 2 ^ min (7 * s) IntKind.u64.bits = ((P / 2 ^ min (7 * s) 64 : Nat) : Int) := by
    rw [Int.natCast_ediv, Int.natCast_pow]; rfl
  rw [e]
theorem back7 (p s : Nat) (hp : p < 128) : (p * 128 ^ s % 18446744073709551616) / 2 ^ min (7 * s) 64 = p ↔ p * 128 ^ s < 18446744073709551616 := by
  rw [pow7]
  by_cases h : p * 2 ^ (7 * s) < 18446744073709551616
  · rw [Nat.mod_eq_of_lt h]
    refine ⟨fun _ => h, fun _ => ?_⟩
    by_cases h7 : 7 * s ≤ 64
    · rw [Nat.min_eq_left h7, Nat.mul_div_cancel _ (Nat.two_pow_pos _)]
    · have hz : p = 0 := by
        refine Decidable.byContradiction fun hp0 => ?_
        have h1 : 2 ^ 64 ≤ 2 ^ (7 * s) := Nat.pow_le_pow_right (by decide) (by omega)
        have h2 : 1 * 2 ^ (7 * s) ≤ p * 2 ^ (7 * s) := Nat.mul_le_mul_right _ (by omega)
        have h3 : (2 : Nat) ^ 64 = 18446744073709551616 := by decide
        omega
      subst hz
      simp
  · refine ⟨fun e => ?_, fun e => absurd e h⟩
    exfalso
    by_cases h7 : 64 ≤ 7 * s
    · rw [big_mod _ _ h7, Nat.zero_div] at e
      subst e
      simp at h
    · rw [Nat.min_eq_left (by omega)] at e
      have h1 : p * 2 ^ (7 * s) % 18446744073709551616 < 18446744073709551616 := Nat.mod_lt _ (by decide)
      generalize hm : p * 2 ^ (7 * s) % 18446744073709551616 = m at *
      have h2 := Nat.div_mul_le_self m (2 ^ (7 * s))
      rw [e] at h2
      omega
theorem or64 (n P i : Nat) (h : n < 2 ^ i) (q : Nat) (hP : P = q * 2 ^ i) (hb : P < 18446744073709551616) (hn : n < 18446744073709551616) : bits .or .u64 (n : Int) (P : Int) = ((n + P : Nat) : Int) := by
  show IntKind.u64.wrap ((BitVec.ofInt 64 (n : Int) ||| BitVec.ofInt 64 (P : Int)).toNat : Int) = _
  have e : n ||| P = n + P := by
    subst hP
    have := Nat.shiftLeft_add_eq_or_of_lt h q
    rw [Nat.shiftLeft_eq] at this
    rw [Nat.or_comm, ← this, Nat.add_comm]
  have h1 : n ||| P < 2 ^ 64 := Nat.or_lt_two_pow (by omega) (by omega)
  rw [wrap64u, BitVec.toNat_or, BitVec.toNat_ofInt, BitVec.toNat_ofInt]
  have en : ((n : Int) % ((2 ^ 64 : Nat) : Int)).toNat = n := by omega
  have eP : ((P : Int) % ((2 ^ 64 : Nat) : Int)).toNat = P := by omega
  rw [en, eP, e, Nat.mod_eq_of_lt (by rw [← e]; exact h1)]
theorem wrapu (v : Int) (h0 : 0 ≤ v) (h1 : v < 18446744073709551616) : IntKind.u64.wrap v = v := by
  simp [IntKind.wrap, IntKind.bits, IntKind.signed]; omega
theorem and1 (n : Nat) (h : n < 18446744073709551616) : bits .and .u64 (n : Int) 1 = ((n % 2 : Nat) : Int) := by
  show IntKind.u64.wrap ((BitVec.ofInt 64 (n : Int) &&& BitVec.ofInt 64 1).toNat : Int) = _
  rw [wrap64u, BitVec.toNat_and, BitVec.toNat_ofInt, BitVec.toNat_ofInt]
  have en : ((n : Int) % ((2 ^ 64 : Nat) : Int)).toNat = n := by omega
  have e1 : ((1 : Int) % ((2 ^ 64 : Nat) : Int)).toNat = 1 := by decide
  rw [en, e1, Nat.and_one_is_mod]
  congr 1
  omega
theorem xor_m1 (m : Nat) (h : m < 9223372036854775808) : bits .xor .i64 (m : Int) (-1) = -(m : Int) - 1 := by
  show IntKind.i64.wrap ((BitVec.ofInt 64 (m : Int) ^^^ BitVec.ofInt 64 (-1)).toNat : Int) = _
  have e1 : BitVec.ofInt 64 (-1) = BitVec.allOnes 64 := by decide
  rw [e1, BitVec.xor_allOnes, BitVec.toNat_not, BitVec.toNat_ofInt]
  have en : ((m : Int) % ((2 ^ 64 : Nat) : Int)).toNat = m := by omega
  rw [en]
  simp [IntKind.wrap, IntKind.bits, IntKind.signed]
  omega
theorem xor_00 (m : Nat) (h : m < 9223372036854775808) : bits .xor .i64 (m : Int) 0 = (m : Int) := by
  show IntKind.i64.wrap ((BitVec.ofInt 64 (m : Int) ^^^ BitVec.ofInt 64 0).toNat : Int) = _
  have e1 : BitVec.ofInt 64 0 = 0#64 := by decide
  rw [e1, BitVec.xor_zero, BitVec.toNat_ofInt]
  have en : ((m : Int) % ((2 ^ 64 : Nat) : Int)).toNat = m := by omega
  rw [en]
  simp [IntKind.wrap, IntKind.bits, IntKind.signed]
  omega
end Go.Proofs.Ytjgijpfknhfnjaa
