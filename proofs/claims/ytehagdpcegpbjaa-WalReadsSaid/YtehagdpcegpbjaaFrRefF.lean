/- Following, walked. Own work. -/
import Derived.Test.YtehagdpcegpbjaaFrRefA
import Derived.Test.YtehagdpcegpbjaaLast
set_option linter.unusedVariables false
set_option linter.unusedSimpArgs false
namespace Go.Proofs.Ytehagdpcegpbjaa
open Go.RowKit

def FollP (xs : List RecM) (w : World) (e : Ending) (w' : World) : Prop := ∃ v : Bool, Hid (v = true ↔ Frame.Foll (recs xs)) ∧ e = .returned (.bool v) ∧ Ab w w'
theorem foll_yes {xs : List RecM} (h : ∀ j (hj : j < xs.length), Frame.Valid xs[j].r ∧ ∀ _ : 0 < j, xs[j].num = (xs[j - 1]'(by omega)).num + 1) : Frame.Foll (recs xs) := by
  intro i hi
  rw [recs_length] at hi
  obtain ⟨h1, h2⟩ := h i hi
  rw [recs_get xs i hi]
  refine ⟨h1, fun h0 => ?_⟩
  rw [recs_get xs (i - 1) (by omega)]
  exact h2 h0
theorem foll_no1 {xs : List RecM} (j : Nat) (hj : j < xs.length) (h : ¬ Frame.Valid xs[j].r) : ¬ Frame.Foll (recs xs) := fun hF => by
  have := (hF j (by rw [recs_length]; exact hj)).1
  rw [recs_get xs j hj] at this
  exact h this
theorem foll_no2 {xs : List RecM} (j : Nat) (hj : j < xs.length) (h0 : 0 < j) (h : ¬ xs[j].num = (xs[j - 1]'(by omega)).num + 1) : ¬ Frame.Foll (recs xs) := fun hF => by
  have := (hF j (by rw [recs_length]; exact hj)).2 h0
  rw [recs_get xs j hj, recs_get xs (j - 1) (by omega)] at this
  exact h this

end Go.Proofs.Ytehagdpcegpbjaa
