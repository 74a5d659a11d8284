/- All, walked. Own work. -/
import Derived.Test.YtehagdpcegpbjaaFrSize
import Derived.Deep.DeepCutAuto
set_option linter.unusedVariables false
set_option linter.unusedSimpArgs false
namespace Go.Proofs.Ytehagdpcegpbjaa
open Go.RowKit

def AllE (l : List Frame.Rec) (L : List UInt8) (er : Int) : Prop :=
  ((∃ i, ∃ h : i < l.length, ¬ Frame.Valid l[i]) ∧ L = [] ∧ er = 8) ∨
  ((∀ i (h : i < l.length), Frame.Valid l[i]) ∧ 20000 < (Frame.all l).length ∧ L = [] ∧ er = 4) ∨
  ((∀ i (h : i < l.length), Frame.Valid l[i]) ∧ (Frame.all l).length ≤ 20000 ∧ L = Frame.all l ∧ er = 0)
theorem AllE.unique {l : List Frame.Rec} {L M : List UInt8} {e f : Int} (h : AllE l L e) (k : AllE l M f) : L = M ∧ e = f := by
  rcases h with ⟨⟨i, hi, h⟩, h1, h2⟩ | ⟨h, h', h1, h2⟩ | ⟨h, h', h1, h2⟩ <;> rcases k with ⟨⟨j, hj, k⟩, k1, k2⟩ | ⟨k, k', k1, k2⟩ | ⟨k, k', k1, k2⟩ <;>
    first | exact absurd (k i hi) h | exact absurd (h j hj) k | omega | (subst h1 h2 k1 k2; exact ⟨rfl, rfl⟩)
theorem all_le (l : List Frame.Rec) (h : ∀ i (h : i < l.length), Frame.Valid l[i]) : (Frame.all l).length ≤ 1012 * l.length := by
  induction l with
  | nil => simp [Frame.all_nil]
  | cons r l ih =>
    have h0 := (h 0 (by simp)).2.2
    have h1 := ih (fun i hi => h (i + 1) (by simpa using hi))
    rw [Frame.all_cons, List.length_append, Frame.enc_length, List.length_cons]
    simp only [List.getElem_cons_zero] at h0
    omega

theorem take_len (xs : List RecM) (k : Nat) (h : k < xs.length) : (Frame.all (recs (xs.take (k + 1)))).length = (Frame.all (recs (xs.take k))).length + (12 + xs[k].b.length) := by
  rw [List.take_succ_eq_append_getElem h, recs_append, Frame.all_append, List.length_append]
  congr 1
  show (Frame.all [xs[k].r]).length = _
  rw [Frame.all_one, Frame.enc_length]; rfl
theorem take_enc (xs : List RecM) (k : Nat) (h : k < xs.length) : Frame.all (recs (xs.take (k + 1))) = Frame.all (recs (xs.take k)) ++ Frame.enc ⟨xs[k].num, xs[k].b⟩ := by
  rw [List.take_succ_eq_append_getElem h, recs_append, Frame.all_append]
  congr 1
  show Frame.all [xs[k].r] = _
  rw [Frame.all_one]; rfl

end Go.Proofs.Ytehagdpcegpbjaa
