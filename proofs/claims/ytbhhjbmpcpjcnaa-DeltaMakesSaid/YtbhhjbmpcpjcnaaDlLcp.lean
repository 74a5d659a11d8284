/- The reference's table of least costs: mathematics. Own work. -/
import Derived.Test.YtbhhjbmpcpjcnaaDelMk
set_option linter.unusedVariables false
set_option linter.unusedSimpArgs false
namespace Go.Proofs.Ytbhhjbmpcpjcnaa
namespace Dl

/-- How many bytes agree. -/
def lcp : List UInt8 → List UInt8 → Nat
  | x :: xs, y :: ys => if x = y then lcp xs ys + 1 else 0
  | _, _ => 0
theorem lcp_nil (xs : List UInt8) : lcp xs [] = 0 := by cases xs <;> rfl
theorem lcp_nil' (ys : List UInt8) : lcp [] ys = 0 := rfl
theorem lcp_cons (x : UInt8) (xs : List UInt8) (y : UInt8) (ys : List UInt8) : lcp (x :: xs) (y :: ys) = if x = y then lcp xs ys + 1 else 0 := rfl
theorem lcp_le : ∀ (xs ys : List UInt8), lcp xs ys ≤ xs.length ∧ lcp xs ys ≤ ys.length
  | [], ys => ⟨Nat.zero_le _, Nat.zero_le _⟩
  | _ :: _, [] => ⟨Nat.zero_le _, Nat.zero_le _⟩
  | x :: xs, y :: ys => by
    rw [lcp_cons]
    have := lcp_le xs ys
    split <;> simp <;> omega
theorem lcp_pre : ∀ (xs ys : List UInt8), ys.take (lcp xs ys) <+: xs
  | [], ys => by rw [lcp_nil']; exact List.nil_prefix
  | x :: xs, [] => by rw [lcp_nil]; exact List.nil_prefix
  | x :: xs, y :: ys => by
    rw [lcp_cons]
    split
    · rename_i h
      subst h
      rw [List.take_succ_cons]
      exact (List.prefix_cons_inj x).2 (lcp_pre xs ys)
    · exact List.nil_prefix
theorem lcp_max : ∀ (xs ys : List UInt8) (m : Nat), m ≤ ys.length → ys.take m <+: xs → m ≤ lcp xs ys
  | _, _, 0, _, _ => Nat.zero_le _
  | [], ys, m + 1, hm, h => by
    have := h.length_le
    rw [List.length_take, Nat.min_eq_left hm] at this
    simp at this
  | x :: xs, [], m + 1, hm, h => by simp at hm
  | x :: xs, y :: ys, m + 1, hm, h => by
    rw [List.take_succ_cons] at h
    have hxy := List.cons_prefix_cons.1 h
    rw [lcp_cons, if_pos hxy.1.symm]
    have := lcp_max xs ys m (by simpa using hm) hxy.2
    omega
/-- The greatest agreement with the first k ends of B. -/
def most (B t : List UInt8) : Nat → Nat
  | 0 => 0
  | k + 1 => max (most B t k) (lcp (B.drop k) t)
theorem most_ge (B t : List UInt8) : ∀ k i, i < k → lcp (B.drop i) t ≤ most B t k
  | 0, i, h => absurd h (by omega)
  | k + 1, i, h => by
    unfold most
    by_cases e : i = k
    · subst e; omega
    · have := most_ge B t k i (by omega); omega
theorem most_at (B t : List UInt8) : ∀ k, most B t k = 0 ∨ ∃ i, i < k ∧ most B t k = lcp (B.drop i) t
  | 0 => .inl rfl
  | k + 1 => by
    unfold most
    rcases Nat.le_total (most B t k) (lcp (B.drop k) t) with h | h
    · exact .inr ⟨k, by omega, by omega⟩
    · rw [Nat.max_eq_left h]
      rcases most_at B t k with h0 | ⟨i, h1, h2⟩
      · exact .inl h0
      · exact .inr ⟨i, by omega, h2⟩
theorem most_long (B t : List UInt8) : Long B t (most B t B.length) := by
  refine ⟨?_, ?_, fun m hm hh => ?_⟩
  · rcases most_at B t B.length with h | ⟨i, _, h⟩
    · omega
    · have := (lcp_le (B.drop i) t).2; omega
  · rcases most_at B t B.length with h | ⟨i, h1, h⟩
    · rw [h]; exact has_nil B
    · rw [h]; exact has_iff.2 ⟨i, by omega, lcp_pre _ _⟩
  · obtain ⟨i, hi, hp⟩ := has_iff.1 hh
    have := lcp_max _ _ m hm hp
    by_cases e : i < B.length
    · have := most_ge B t B.length i e; omega
    · rw [List.drop_of_length_le (by omega), lcp_nil'] at this
      omega
theorem most_le (B t : List UInt8) (k : Nat) : most B t k ≤ t.length := by
  rcases most_at B t k with h | ⟨i, _, h⟩
  · omega
  · have := (lcp_le (B.drop i) t).2; omega
/-- The next row from the one before. -/
theorem lcp_step {B T : List UInt8} {k i : Nat} (hk : k < B.length) (hi : i < T.length) : lcp (B.drop k) (T.drop i) = if B[k] = T[i] then lcp (B.drop (k + 1)) (T.drop (i + 1)) + 1 else 0 := by
  rw [List.drop_eq_getElem_cons hk, List.drop_eq_getElem_cons hi, lcp_cons]

/-- The least of the ways with fewer than m bytes. -/
structure Low (n : Nat) (f : Nat → Int) (g i m : Nat) (v : Int) : Prop where
  att : ∃ k, 1 ≤ k ∧ i + k ≤ n ∧ ((k ≤ g ∧ v = 3 + f (i + k)) ∨ v = 1 + k + f (i + k))
  ins : ∀ k, 1 ≤ k → k < m → v ≤ 1 + k + f (i + k)
  copy : ∀ k, 1 ≤ k → k < m → k ≤ g → v ≤ 3 + f (i + k)
theorem Low.start {n : Nat} {f : Nat → Int} {g i : Nat} (hi : i < n) : Low n f g i 1 (2 + f (i + 1)) :=
  ⟨⟨1, by omega, by omega, .inr (by omega)⟩, fun k h1 h2 => by omega, fun k h1 h2 => by omega⟩
theorem Low.next {n : Nat} {f : Nat → Int} {g i m : Nat} {v : Int} (h : Low n f g i m v) (h1 : 1 ≤ m) (hm : i + m ≤ n) :
    Low n f g i (m + 1) (if m ≤ g then min (min v (1 + m + f (i + m))) (3 + f (i + m)) else min v (1 + m + f (i + m))) := by
  have key : ∀ u : Int, u ≤ v → u ≤ 1 + m + f (i + m) → (m ≤ g → u ≤ 3 + f (i + m)) → (u = v ∨ u = 1 + m + f (i + m) ∨ (m ≤ g ∧ u = 3 + f (i + m))) → Low n f g i (m + 1) u := by
    intro u a1 a2 a3 a4
    refine ⟨?_, fun k k1 k2 => ?_, fun k k1 k2 k3 => ?_⟩
    · rcases a4 with rfl | e | ⟨e1, e⟩
      · exact h.att
      · exact ⟨m, h1, hm, .inr e⟩
      · exact ⟨m, h1, hm, .inl ⟨e1, e⟩⟩
    · by_cases e : k = m
      · subst e; exact a2
      · have := h.ins k k1 (by omega); omega
    · by_cases e : k = m
      · subst e; exact a3 k3
      · have := h.copy k k1 (by omega) k3; omega
  split
  · rename_i hg
    exact key _ (by omega) (by omega) (fun _ => by omega) (by omega)
  · rename_i hg
    exact key _ (by omega) (by omega) (fun h => absurd h hg) (by omega)
/-- One row more of the table. -/
theorem Tab.low {B T : List UInt8} {f f' : Nat → Int} {g g' : Nat → Nat} {i : Nat} (h : Tab B T f g (i + 1)) (hi : i < T.length) (hf : ∀ j, i + 1 ≤ j → f' j = f j) (hg : ∀ j, i + 1 ≤ j → g' j = g j)
    (hl : Long B (T.drop i) (g' i)) (hw : Low T.length f (g' i) i (T.length - i + 1) (f' i)) : Tab B T f' g' i := by
  have hr := hl.le
  rw [List.length_drop] at hr
  refine ⟨fun j h1 h2 => ?_, by rw [hf _ (by omega)]; exact h.last, fun j m h1 h2 h3 h4 => ?_, fun j m h1 h2 h3 h4 => ?_, fun j h1 h2 => ?_⟩
  · by_cases e : j = i
    · subst e; exact hl
    · rw [hg j (by omega)]; exact h.long j (by omega) h2
  · by_cases e : j = i
    · subst e
      rw [hf (j + m) (by omega)]
      exact hw.copy m h3 (by omega) h4
    · rw [hg j (by omega)] at h4
      rw [hf j (by omega), hf (j + m) (by omega)]
      exact h.copy j m (by omega) h2 h3 h4
  · by_cases e : j = i
    · subst e
      rw [hf (j + m) (by omega)]
      exact hw.ins m h3 (by omega)
    · rw [hf j (by omega), hf (j + m) (by omega)]
      exact h.ins j m (by omega) h2 h3 h4
  · by_cases e : j = i
    · subst e
      obtain ⟨k, k1, k2, k3⟩ := hw.att
      refine ⟨k, k1, k2, ?_⟩
      rw [hf (j + k) (by omega)]
      exact k3
    · obtain ⟨m, m1, m2, m3⟩ := h.att j (by omega) h2
      refine ⟨m, m1, m2, ?_⟩
      rw [hf j (by omega), hf (j + m) (by omega), hg j (by omega)]
      exact m3
end Dl
end Go.Proofs.Ytbhhjbmpcpjcnaa
