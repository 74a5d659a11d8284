/- The reference of the codec: Check; values that are not great, walked. Own work. -/
import Derived.Test.YtmdjdcllehaphaaCvRefE
import Derived.Test.YtmdjdcllehaphaaCodecG
set_option linter.unusedVariables false
set_option linter.unusedSimpArgs false
namespace Go.Proofs.Ytmdjdcllehaphaa
open Go.RowKit
open Codec (V)

theorem VL.wf : ∀ {d : Nat} {w : World} {S : Nat → Prop} {x : VM}, VL d w S x → Codec.wf d x.v := by
  intro d
  induction d with
  | zero => intro w S x h; exact h.elim
  | succ d ih =>
    intro w S x h
    refine ⟨h.1.2.1, h.1.2.2.1, by show x.b.length < _; have := h.1.2.2.2.2.1; omega, by show x.l.length < _; have := h.1.2.2.2.2.2.2; omega, fun e he => ?_⟩
    obtain ⟨i, hi, rfl⟩ := List.mem_iff_getElem.1 he
    obtain ⟨g, o, _, _, h3⟩ := h.2.2 (by show 0 < x.l.length; have : i < x.l.length := hi; omega)
    obtain ⟨y, y1, _, y3⟩ := h3 i hi
    have := ih y3
    rw [y1] at this
    exact this
theorem wf_kinds : ∀ (d e : Nat) (v : V), Codec.kinds d v = true → Codec.wf e v → Codec.wf d v := by
  intro d
  induction d with
  | zero => intro e v h; simp [Codec.kinds] at h
  | succ d ih =>
    intro e v hk hw
    cases e with
    | zero => exact hw.elim
    | succ e =>
      refine ⟨hw.1, hw.2.1, hw.2.2.1, hw.2.2.2.1, fun x hx => ?_⟩
      rcases Codec.kinds_cases hk with ⟨n, rfl⟩ | ⟨b, rfl⟩ | ⟨l, rfl, hl⟩
      · simp [V.l] at hx
      · simp [V.l] at hx
      · exact ih e x (hl x hx) (hw.2.2.2.2 x hx)
/-- A value that is not great has a size. -/
theorem fits_of {D : Nat} {w : World} {S : Nat → Prop} {x : VM} (hx : VL D w S x) (h : Codec.tot 20 x.v ≤ 2000 ∧ Codec.wok 21 x.v) : Fits x.v := by
  intro hk
  have := Codec.enc_tot 6 21 20 x.v hk (wf_kinds 6 D _ hk hx.wf) h.2 (by omega) (by omega)
  omega
/-- What wide returns. -/
def RetWd (d : Nat) (w : World) (v : V) (e : Ending) (w' : World) : Prop := ∃ r, e = .returned (.bool r) ∧ Hid (r = false → Codec.wok d v) ∧ Ab w w'
/-- What Great returns. -/
def RetGr (w : World) (v : V) (e : Ending) (w' : World) : Prop := ∃ r, e = .returned (.bool r) ∧ Hid (r = false → Codec.tot 20 v ≤ 2000 ∧ Codec.wok 21 v) ∧ Ab w w'
end Go.Proofs.Ytmdjdcllehaphaa
