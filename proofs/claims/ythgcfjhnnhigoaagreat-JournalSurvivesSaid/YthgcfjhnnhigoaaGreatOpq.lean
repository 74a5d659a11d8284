/- A frame kept as a letter while a drawn region is walked. Own work. -/
import Derived.Test.YthgcfjhnnhigoaaGreatGB
set_option linter.unusedVariables false
namespace Go.Proofs.YthgcfjhnnhigoaaGreat
theorem opq_set (t : Array Value) (i j : Nat) (v u : Value) : (t.setIfInBounds i v).getD j u = if i = j ∧ j < t.size then v else t.getD j u := by
  simp only [Array.getD_eq_getD_getElem?, Array.getElem?_setIfInBounds]
  by_cases h : i = j
  · subst h
    by_cases h2 : i < t.size <;> simp [h2]
  · simp [h]
theorem opq {P : Program} {c : Code} {Q : Exit → Act → World → Prop} {t : Array Value} {d : List Deferred} {w : World} (h : ∀ T : Array Value, T = t → Code.wp P c Q ⟨T, d⟩ w) : Code.wp P c Q ⟨t, d⟩ w := h t rfl
theorem opq_ne (t : Array Value) (i j : Nat) (v u : Value) (h : i ≠ j) : (t.setIfInBounds i v).getD j u = t.getD j u := by
  rw [opq_set, if_neg (fun e => h e.1)]
theorem opq_at (t : Array Value) (i n : Nat) (v u : Value) (hs : t.size = n) (h : i < n) : (t.setIfInBounds i v).getD i u = v := by
  rw [opq_set, if_pos ⟨rfl, by omega⟩]
/-- A frame of known size, its slots as letters. -/
theorem opq_lit (n : Nat) (T : Array Value) (hs : T.size = n) : ∃ g : Nat → Value, (∀ i, g i = T.getD i undef) ∧ T = ((List.range n).map g).toArray := by
  refine ⟨fun i => T.getD i undef, fun _ => rfl, ?_⟩
  apply Array.ext
  · simp [hs]
  · intro i h1 h2
    simp [Array.getD, h1]
theorem grown_frz {w0 w : World} {D : Option Addr} (h : w0.grownBy w (D.map (·.block))) {b o : Nat} (hD : ∀ a, D = some a → a.block ≠ b) (hp : b < w0.heap.size) (hf : w0.frozen? ⟨b, o, none⟩ = false) : w.frozen? ⟨b, o, none⟩ = false := by
  have hb := h.block b hp (by
    intro he
    cases D with
    | none => cases he
    | some x => exact hD x rfl (by simpa using he.symm))
  unfold World.frozen? at hf ⊢
  simp only at hf ⊢
  rw [hb]
  exact hf
theorem RB.setOther {w : World} {lo : Nat} {A : Option Addr} {l : List UInt8} {q : Addr} {v : Value} (h : RB w lo A l) (hq : w.cell? q = some v) (hv : ∀ x, v ≠ cb x) (u : Value) : RB (w.setCell q u) lo A l := fun hl => by
  obtain ⟨ad, h1, h2, h3⟩ := h hl
  exact ⟨ad, h1, h2, fun i hi => cell_set (h3 i hi) (fun e => by
    have := h3 i hi
    rw [e, hq] at this
    exact hv _ (Option.some.inj this))⟩
/-- The body of a code's first loop; a block's code; the parts of a code. -/
def loopIn : Code → Option Code
  | .loop c => some c
  | .seq a b => match loopIn a with
    | some c => some c
    | none => loopIn b
  | .block _ c => loopIn c
  | .scope c => loopIn c
  | .cond _ a b => match loopIn a with
    | some c => some c
    | none => loopIn b
  | _ => none
def findB (n : Nat) : Code → Option Code
  | .loop c => findB n c
  | .seq a b => match findB n a with
    | some c => some c
    | none => findB n b
  | .block id c => if id = n then some c else findB n c
  | .scope c => findB n c
  | .cond _ a b => match findB n a with
    | some c => some c
    | none => findB n b
  | _ => none
def fstC : Code → Code
  | .seq a _ => a
  | c => c
def sndC : Code → Code
  | .seq _ b => b
  | c => c
def thnC : Code → Code
  | .cond _ a _ => a
  | c => c
def elsC : Code → Code
  | .cond _ _ b => b
  | c => c
/-- The region of a number in a code. -/
def findR (n : Nat) : Code → Option Code
  | .loop c => findR n c
  | .seq a b => match findR n a with
    | some c => some c
    | none => findR n b
  | .block _ c => findR n c
  | .scope c => findR n c
  | .cond _ a b => match findR n a with
    | some c => some c
    | none => findR n b
  | .region id ops d => if id = n then some (.region id ops d) else none
  | _ => none
/-- The code from the region of a number on. -/
def tailR (n : Nat) : Code → Option Code
  | .seq a b => match a with
    | .region id ops d => if id = n then some (.seq (.region id ops d) b) else tailR n b
    | a => match tailR n a with
      | some c => some c
      | none => tailR n b
  | .loop c => tailR n c
  | .block _ c => tailR n c
  | .scope c => tailR n c
  | .cond _ a b => match tailR n a with
    | some c => some c
    | none => tailR n b
  | .region id ops d => if id = n then some (.region id ops d) else none
  | _ => none
end Go.Proofs.YthgcfjhnnhigoaaGreat
