/- Plain mathematics of layer 7: values compared. No program is named. Own work. -/
import Derived.Test.YtbhhjbmpcpjcnaaCodec
set_option linter.unusedVariables false
namespace Go.Proofs.Ytbhhjbmpcpjcnaa
namespace Codec

/-- Not deeper than d. -/
def dep : Nat → V → Prop
  | 0, _ => False
  | d + 1, v => ∀ e ∈ v.l, dep d e
/-- The same value, not deeper than d. -/
def same : Nat → V → V → Bool
  | 0, _, _ => true
  | d + 1, a, b => a.kind == b.kind && (a.num == b.num && (a.b == b.b && (a.l.length == b.l.length && (a.l.zip b.l).all fun p => same d p.1 p.2)))
theorem zip_true {f : V → V → Bool} {a b : List V} (hl : a.length = b.length) (h : ∀ i (h : i < a.length) (h' : i < b.length), f a[i] b[i] = true) : ((a.zip b).all fun p => f p.1 p.2) = true := by
  rw [List.all_eq_true]
  intro p hp
  obtain ⟨i, hi, rfl⟩ := List.mem_iff_getElem.1 hp
  rw [List.length_zip] at hi
  rw [List.getElem_zip]
  exact h i (by omega) (by omega)
theorem zip_false {f : V → V → Bool} {a b : List V} (i : Nat) (h : i < a.length) (h' : i < b.length) (hf : f a[i] b[i] = false) : ((a.zip b).all fun p => f p.1 p.2) = false := by
  rw [List.all_eq_false]
  refine ⟨(a[i], b[i]), ?_, by simp [hf]⟩
  rw [List.mem_iff_getElem]
  exact ⟨i, by rw [List.length_zip]; omega, by rw [List.getElem_zip]⟩
theorem zip_back {f : V → V → Bool} {a b : List V} (h : ((a.zip b).all fun p => f p.1 p.2) = true) (i : Nat) (h1 : i < a.length) (h2 : i < b.length) : f a[i] b[i] = true := by
  refine Decidable.byContradiction fun hf => ?_
  rw [zip_false i h1 h2 (by simpa using hf)] at h
  cases h
theorem same_eq : ∀ {d : Nat} {a b : V}, dep d a → same d a b = true → a = b := by
  intro d
  induction d with
  | zero => intro a b h; exact h.elim
  | succ d ih =>
    intro a b hd h
    unfold same at h
    simp only [Bool.and_eq_true, beq_iff_eq] at h
    obtain ⟨h1, h2, h3, h4, h5⟩ := h
    rw [V.eta a, V.eta b, h1, h2, h3]
    congr 1
    refine List.ext_getElem h4 fun i k1 k2 => ?_
    exact ih (hd _ (List.getElem_mem k1)) (zip_back h5 i k1 k2)
theorem same_refl : ∀ (d : Nat) (a : V), same d a a = true := by
  intro d
  induction d with
  | zero => intro a; rfl
  | succ d ih =>
    intro a
    unfold same
    simp only [Bool.and_eq_true, beq_iff_eq, true_and]
    exact zip_true rfl fun i _ _ => ih _
theorem same_iff {d : Nat} {a b : V} (h : dep d a) : same d a b = true ↔ a = b := ⟨same_eq h, fun e => e ▸ same_refl d a⟩
theorem kinds_dep : ∀ {d : Nat} {v : V}, kinds d v = true → dep d v := by
  intro d
  induction d with
  | zero => intro v h; simp [kinds] at h
  | succ d ih =>
    intro v h
    rcases kinds_cases h with ⟨n, rfl⟩ | ⟨b, rfl⟩ | ⟨l, rfl, hl⟩
    · intro e he; simp [V.l] at he
    · intro e he; simp [V.l] at he
    · intro e he; exact ih (hl e he)
end Codec
end Go.Proofs.Ytbhhjbmpcpjcnaa
