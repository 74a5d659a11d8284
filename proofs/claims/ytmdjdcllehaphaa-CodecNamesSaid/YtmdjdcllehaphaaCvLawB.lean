/- What the statements of the codec share: fit, beginnings of bytes. Own work. -/
import Derived.Test.YtmdjdcllehaphaaCvAliveB
set_option linter.unusedVariables false
set_option linter.unusedSimpArgs false
namespace Go.Proofs.Ytmdjdcllehaphaa
open Go.RowKit
open Codec (V)

/-- What fit returns. -/
def RetFit (w : World) (v : V) (e : Ending) (w' : World) : Prop := ∃ r, e = .returned (.bool r) ∧ Hid (r = true → Codec.check v = 0 ∧ Fits v) ∧ Ab w w'
def VStartsP (x y : List UInt8) (w : World) (e : Ending) (w' : World) : Prop := ∃ v : Bool, Hid (v = true ↔ y <+: x) ∧ e = .returned (.bool v) ∧ Ab w w'
theorem encode_ok {v : V} (h : Codec.check v = 0) : Codec.encode v = (Codec.enc 6 v, 0) := by unfold Codec.encode; rw [h]; rfl
theorem check_kinds {v : V} (h : Codec.check v = 0) : Codec.kinds 6 v = true ∧ (Codec.enc 6 v).length ≤ 3000 := by
  unfold Codec.check at h
  split at h
  · cases h
  · rename_i h1
    split at h
    · cases h
    · rename_i h2
      exact ⟨by simpa using h1, by omega⟩
/-- What decoding tells. -/
theorem decode_ok {t : List UInt8} (ht : t.length < 9223372036854775808) {v : V} (h : Codec.decode t = (v, 0)) : Codec.check v = 0 ∧ t = Codec.enc 6 v := by
  unfold Codec.decode at h
  split at h
  · cases h
  · rename_i h1
    have h2 := (Prod.mk.inj h).1
    have h3 : (Codec.next t).2.2 = 0 := Decidable.byContradiction fun h => h1 (.inl h)
    have h4 : (Codec.next t).2.1 = t.length := Decidable.byContradiction fun h => h1 (.inr h)
    obtain ⟨a1, a2, a3, a4⟩ := Codec.next_ok ht (show Codec.next t = ((Codec.next t).1, (Codec.next t).2.1, 0) by rw [← h3])
    rw [h2] at a1 a3 a4
    rw [h4] at a3
    refine ⟨a1, ?_⟩
    have h5 : t.drop (Codec.enc 6 v).length = [] := List.drop_eq_nil_of_le (by omega)
    rw [h5, List.append_nil] at a4
    exact a4
theorem decode_err {t : List UInt8} {v : V} {er : Int} (h : Codec.decode t = (v, er)) (h0 : er ≠ 0) : er = 12 := by
  unfold Codec.decode at h
  split at h
  · exact (Prod.mk.inj h).2.symm
  · exact absurd (Prod.mk.inj h).2.symm h0
end Go.Proofs.Ytmdjdcllehaphaa
