/- Eight words by value, opened. Own work. -/
import Derived.Test.YtiijehmbpjakhaaDoorShOpen
import Derived.Laws.IdiomArrays
set_option linter.unusedVariables false
namespace Go.Proofs.YtiijehmbpjakhaaDoor
open Go.ChangeShapes Go.WideShapes Go.ChangeAt Go.RowKit Go.Joins

theorem list8 {α : Type} (l : List α) (h : (⟨l⟩ : Array α).size = 8) : ∃ a b c d e f g z, l = [a, b, c, d, e, f, g, z] := by
  match l, h with
  | [a, b, c, d, e, f, g, z], _ => exact ⟨a, b, c, d, e, f, g, z, rfl⟩
theorem open_w8 {H : Type} {enc : TypeId × Value → H} {w : World} {r : Reach} {b0 base : Nat} {spare : Nat → Bool} {held : Bool} {v : Value} {d : DataW H} {p : List MemPlace}
    (hv : Value.okWide Tryd.prog w r b0 24 v) (h : DataW.Trod enc Tryd.prog w base spare held 24 v d p) :
    ∃ h : Sha.W8, v = .agg (w8 h).toArray := by
  obtain ⟨cs, rfl, hsz, _⟩ : ∃ cs, v = .agg cs ∧ cs.size = Tryd.prog.cellsOf 24 ∧ Row.okWide Tryd.prog w r b0 24 cs := by
    simpa [Value.okWide, Tryd.underlying24] using hv
  rw [show Tryd.prog.cellsOf 24 = 8 by kernel_rfl] at hsz
  obtain ⟨l⟩ := cs
  obtain ⟨fuel, hf⟩ := h
  have key : ∀ i, i < 8 → ∃ x : BitVec 32, l[i]? = some (.int .u32 (x.toNat : Int)) := by
    intro i hi
    obtain ⟨xs, m, _, hx, hlen, hn2, hel⟩ := DataW.trod_array Tryd.underlying24 hf
    have c1 : Tryd.prog.cellsOf 23 = 1 := by kernel_rfl
    have h1 := hel i (by omega)
    rw [c1, Nat.mul_one] at h1
    have hxs : i < xs.length := by omega
    rw [List.getElem?_eq_getElem hxs] at h1
    obtain ⟨k, e1, e2, w2⟩ := DataW.trod_int Tryd.underlying23 h1
    have hb : 0 ≤ k ∧ k ≤ 4294967295 := by simpa [Lit.wf, IntKind.min, IntKind.max, IntKind.signed, IntKind.bits] using w2
    refine ⟨BitVec.ofNat 32 k.toNat, ?_⟩
    have h5 : ((l.drop i).take 1)[0]? = some (.int .u32 k) := by
      have e1' : (l.drop i).take 1 = [.int .u32 k] := e1
      rw [e1']; rfl
    rw [List.getElem?_take_of_lt (by omega), List.getElem?_drop] at h5
    have hk : k = ((BitVec.ofNat 32 k.toNat).toNat : Int) := by rw [BitVec.toNat_ofNat]; omega
    rw [← hk]
    simpa using h5
  obtain ⟨c0, c1, c2, c3, c4, c5, c6, c7, rfl⟩ := list8 l hsz
  obtain ⟨x0, e0⟩ := key 0 (by omega)
  obtain ⟨x1, e1⟩ := key 1 (by omega)
  obtain ⟨x2, e2⟩ := key 2 (by omega)
  obtain ⟨x3, e3⟩ := key 3 (by omega)
  obtain ⟨x4, e4⟩ := key 4 (by omega)
  obtain ⟨x5, e5⟩ := key 5 (by omega)
  obtain ⟨x6, e6⟩ := key 6 (by omega)
  obtain ⟨x7, e7⟩ := key 7 (by omega)
  simp at e0 e1 e2 e3 e4 e5 e6 e7
  subst e0 e1 e2 e3 e4 e5 e6 e7
  exact ⟨⟨x0, x1, x2, x3, x4, x5, x6, x7⟩, rfl⟩
end Go.Proofs.YtiijehmbpjakhaaDoor
