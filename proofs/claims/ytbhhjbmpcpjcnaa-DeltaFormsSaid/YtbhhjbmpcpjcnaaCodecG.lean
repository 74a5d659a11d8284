/- Plain mathematics of layer 7: values that are not great. No program is named. Own work. -/
import Derived.Test.YtbhhjbmpcpjcnaaCodec
set_option linter.unusedVariables false
namespace Go.Proofs.Ytbhhjbmpcpjcnaa
namespace Codec

/-- How many values there are down to a depth. -/
def tot : Nat → V → Nat
  | 0, _ => 1
  | d + 1, v => 1 + (v.l.map (tot d)).sum
def tsum (d : Nat) (l : List V) (k : Nat) : Nat := ((l.take k).map (tot d)).sum
theorem tsum_succ (d : Nat) (l : List V) (k : Nat) (h : k < l.length) : tsum d l (k + 1) = tsum d l k + tot d l[k] := by
  unfold tsum
  rw [List.take_succ_eq_append_getElem h, List.map_append, List.sum_append]
  simp only [List.map_cons, List.map_nil, List.sum_cons, List.sum_nil, Nat.add_zero]
theorem tsum_all (d : Nat) (v : V) : tot (d + 1) v = 1 + tsum d v.l v.l.length := by unfold tsum; rw [List.take_length]; rfl
/-- Not deeper than d, with bytes of at most 4,000. -/
def wok : Nat → V → Prop
  | 0, _ => False
  | d + 1, v => v.b.length ≤ 4000 ∧ ∀ x ∈ v.l, wok d x
theorem code_le_ : ∀ (k n : Nat), n < 128 ^ (k + 1) → (code n).length ≤ k + 1 := by
  intro k
  induction k with
  | zero => intro n h; rw [code_small (by simpa using h)]; simp
  | succ k ih =>
    intro n h
    by_cases hn : n < 128
    · rw [code_small hn]; simp
    · rw [code_big hn, List.length_cons]
      have := ih (n / 128) (by rw [Nat.div_lt_iff_lt_mul (by decide)]; rw [Nat.pow_succ] at h; exact h)
      omega
theorem flat_le (d f : Nat) : ∀ (l : List V), (∀ x ∈ l, (enc d x).length ≤ 4011 * tot f x) → ((l.map (enc d)).flatten).length ≤ 4011 * (l.map (tot f)).sum := by
  intro l
  induction l with
  | nil => intro _; simp
  | cons x l ih =>
    intro h
    have h1 := h x (by simp)
    have h2 := ih fun y hy => h y (by simp [hy])
    simp only [List.map_cons, List.flatten_cons, List.length_append, List.sum_cons]
    omega
theorem enc_tot : ∀ (d e f : Nat) (v : V), kinds d v = true → wf d v → wok e v → d ≤ e → d ≤ f + 1 → (enc d v).length ≤ 4011 * tot f v := by
  intro d
  induction d with
  | zero => intro e f v hk; simp [kinds] at hk
  | succ d ih =>
    intro e f v hk hw ho he hf
    cases e with
    | zero => exact ho.elim
    | succ e =>
      have ht : 1 ≤ tot f v := by cases f <;> unfold tot <;> omega
      obtain ⟨w1, w2, w3, w4, w5⟩ := hw
      rcases kinds_cases hk with ⟨n, rfl⟩ | ⟨b, rfl⟩ | ⟨l, rfl, hl⟩
      · have h1 := code_le_ 9 (fold n) (Nat.lt_of_lt_of_le (fold_lt w1 w2) (by decide))
        have e1 : enc (d + 1) (.mk 1 n [] []) = 1 :: code (fold n) := rfl
        rw [e1, List.length_cons]; omega
      · have hb : b.length ≤ 4000 := ho.1
        have h1 := code_le_ 9 b.length (Nat.lt_of_le_of_lt hb (by decide))
        have e1 : enc (d + 1) (.mk 2 0 b []) = 2 :: (code b.length ++ b) := rfl
        rw [e1, List.length_cons, List.length_append]; omega
      · simp only [V.l] at w4 w5
        have h1 := code_le_ 9 l.length (Nat.lt_of_lt_of_le w4 (by decide))
        have e1 : enc (d + 1) (.mk 3 0 [] l) = 3 :: (code l.length ++ (l.map (enc d)).flatten) := rfl
        rw [e1, List.length_cons, List.length_append]
        cases l with
        | nil =>
          have : (code ([] : List V).length).length = 1 := by rw [code_small (by simp)]; rfl
          rw [this]; simp; omega
        | cons y l =>
          have hd : 1 ≤ d := by
            cases d with
            | zero => have := hl y (by simp); simp [kinds] at this
            | succ d => omega
          obtain ⟨f', rfl⟩ : ∃ f', f = f' + 1 := ⟨f - 1, by omega⟩
          have h2 := flat_le d f' (y :: l) fun x hx => ih e f' x (hl x hx) (w5 x hx) (ho.2 x hx) (by omega) (by omega)
          have e2 : tot (f' + 1) (.mk 3 0 [] (y :: l)) = 1 + ((y :: l).map (tot f')).sum := rfl
          rw [e2]
          omega
end Codec
end Go.Proofs.Ytbhhjbmpcpjcnaa
