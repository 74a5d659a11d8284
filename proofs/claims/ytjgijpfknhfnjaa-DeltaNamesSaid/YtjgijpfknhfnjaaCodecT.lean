/- Plain mathematics of layer 7: the package's way of taking the code of a whole number. No program is named. Own work. -/
import Derived.Test.YtjgijpfknhfnjaaCodec
set_option linter.unusedVariables false
namespace Go.Proofs.Ytjgijpfknhfnjaa
namespace Codec

/-- Behind s bytes, which say n: the number, and how many bytes more it has. -/
def tc : Nat → Nat → List UInt8 → Option (Nat × Nat)
  | _, _, [] => none
  | s, n, x :: t => if 18446744073709551616 ≤ x.toNat % 128 * 128 ^ s then none
    else if x.toNat < 128 then (if 0 < x.toNat ∨ s = 0 then some (n + x.toNat % 128 * 128 ^ s, 1) else none)
    else match tc (s + 1) (n + x.toNat % 128 * 128 ^ s) t with
      | none => none
      | some (m, u) => some (m, u + 1)
theorem tc_none : ∀ (t : List UInt8) (s n : Nat), 10 ≤ s → tc s n t = none := by
  intro t
  induction t with
  | nil => intro s n _; rfl
  | cons x t ih =>
    intro s n hs
    have hp : 128 ^ 10 ≤ 128 ^ s := Nat.pow_le_pow_right (by decide) hs
    have h10 : (128 : Nat) ^ 10 = 1180591620717411303424 := by decide
    unfold tc
    by_cases h1 : 18446744073709551616 ≤ x.toNat % 128 * 128 ^ s
    · rw [if_pos h1]
    · rw [if_neg h1]
      have h0 : x.toNat % 128 = 0 := by
        refine Decidable.byContradiction fun h => h1 ?_
        have : 1 * 128 ^ s ≤ x.toNat % 128 * 128 ^ s := Nat.mul_le_mul_right _ (by omega)
        omega
      by_cases h2 : x.toNat < 128
      · rw [if_pos h2, if_neg (by omega)]
      · rw [if_neg h2, ih (s + 1) _ (by omega)]
theorem fits {s n x : Nat} (h9 : s ≤ 9) (hn : n < 128 ^ s) (hx : x * 128 ^ s < 18446744073709551616) : n + x * 128 ^ s < 18446744073709551616 := by
  have : s = 0 ∨ s = 1 ∨ s = 2 ∨ s = 3 ∨ s = 4 ∨ s = 5 ∨ s = 6 ∨ s = 7 ∨ s = 8 ∨ s = 9 := by omega
  rcases this with rfl | rfl | rfl | rfl | rfl | rfl | rfl | rfl | rfl | rfl <;> simp only [Nat.reducePow] at hn hx ⊢ <;> omega
theorem tc_take : ∀ (t : List UInt8) (s n : Nat), 1 ≤ s → s ≤ 10 → n < 128 ^ s → tc s n t = match take (10 - s) t with
    | none => none
    | some (m, u) => if m = 0 then none else if n + m * 128 ^ s < 18446744073709551616 then some (n + m * 128 ^ s, u) else none := by
  intro t
  induction t with
  | nil =>
    intro s n _ _ _
    rcases h : 10 - s with _ | k <;> rfl
  | cons x t ih =>
    intro s n h1 h10 hn
    by_cases hs : s = 10
    · subst hs
      rw [tc_none _ _ _ (by omega)]
      rfl
    obtain ⟨k, hk⟩ : ∃ k, 10 - s = k + 1 := ⟨9 - s, by omega⟩
    have hx := x.toNat_lt
    rw [hk, take, tc]
    by_cases h2 : x.toNat < 128
    · have hm : x.toNat % 128 = x.toNat := by omega
      rw [if_pos h2, if_pos h2, hm]
      simp only
      by_cases h0 : x.toNat = 0
      · rw [if_neg (by rw [h0]; simp), if_neg (by omega), if_pos h0]
      · rw [if_neg h0]
        by_cases h3 : 18446744073709551616 ≤ x.toNat * 128 ^ s
        · rw [if_pos h3, if_neg (by omega)]
        · rw [if_neg h3, if_pos (.inl (by omega)), if_pos (fits (by omega) hn (by omega))]
    · rw [if_neg h2, if_neg h2]
      have hm : x.toNat % 128 = x.toNat - 128 := by omega
      rw [hm]
      have hp : n + (x.toNat - 128) * 128 ^ s < 128 ^ (s + 1) := by
        have h4 : (x.toNat - 128) * 128 ^ s ≤ 127 * 128 ^ s := Nat.mul_le_mul_right _ (by omega)
        rw [Nat.pow_succ]
        omega
      have hi := ih (s + 1) (n + (x.toNat - 128) * 128 ^ s) (by omega) (by omega) hp
      rw [show 10 - (s + 1) = k by omega] at hi
      rw [hi]
      rcases take k t with _ | ⟨m, u⟩
      · simp only
        split <;> rfl
      · simp only
        by_cases hm0 : m = 0
        · rw [if_pos hm0, if_pos hm0]
          split <;> rfl
        · rw [if_neg hm0, if_neg hm0]
          simp only
          have e : n + (x.toNat - 128 + 128 * m) * 128 ^ s = n + (x.toNat - 128) * 128 ^ s + m * 128 ^ (s + 1) := by
            rw [Nat.add_mul, Nat.pow_succ, ← Nat.add_assoc]
            congr 1
            rw [Nat.mul_comm 128 m, Nat.mul_assoc, Nat.mul_comm 128 (128 ^ s)]
          rw [if_neg (show ¬ (x.toNat - 128 + 128 * m = 0) by omega), e]
          by_cases h3 : 18446744073709551616 ≤ (x.toNat - 128) * 128 ^ s
          · rw [if_pos h3, if_neg (by omega)]
          · rw [if_neg h3]
            by_cases h5 : n + (x.toNat - 128) * 128 ^ s + m * 128 ^ (s + 1) < 18446744073709551616
            · rw [if_pos h5, if_pos h5]
            · rw [if_neg h5, if_neg h5]
theorem tc_coded (t : List UInt8) : tc 0 0 t = coded t := by
  cases t with
  | nil => rfl
  | cons x t =>
    have hx := x.toNat_lt
    unfold coded
    rw [take, tc]
    simp only [Nat.pow_zero, Nat.mul_one, Nat.zero_add]
    rw [if_neg (by omega)]
    by_cases h2 : x.toNat < 128
    · rw [if_pos h2, if_pos h2, if_pos (.inr trivial)]
      simp only
      rw [if_pos (by omega), show x.toNat % 128 = x.toNat by omega]
    · rw [if_neg h2, if_neg h2, tc_take t 1 _ (by omega) (by omega) (by omega)]
      rcases take 9 t with _ | ⟨m, u⟩
      · rfl
      · simp only
        by_cases hm0 : m = 0
        · rw [if_pos hm0, if_pos hm0]
        · rw [if_neg hm0, if_neg hm0]
          simp only
          rw [show x.toNat % 128 + m * 128 ^ 1 = x.toNat - 128 + 128 * m by omega]
          by_cases h5 : x.toNat - 128 + 128 * m < 18446744073709551616
          · rw [if_pos h5, if_pos h5]
          · rw [if_neg h5, if_neg h5]
end Codec
end Go.Proofs.Ytjgijpfknhfnjaa
