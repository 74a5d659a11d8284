/- Arguments that are values of the codec, opened. Own work. -/
import Derived.Test.YtmdjdcllehaphaaOpenB
import Derived.Test.YtmdjdcllehaphaaCvMem
import Derived.Deep.Slices
import Derived.Deep.Fields
set_option linter.unusedVariables false
set_option linter.unusedSimpArgs false
namespace Go.Proofs.Ytmdjdcllehaphaa
open Go.ChangeShapes Go.WideShapes Go.ChangeAt Go.RowKit Go.Joins Go.Deep
open Codec (V)

instance : Inhabited VM := ⟨VM.zero⟩
theorem spot_none {w : World} {p : Addr} {v : Value} (h : w.cell? p = some v) : p = ⟨p.block, p.off, none⟩ := by
  obtain ⟨b, o, s⟩ := p
  cases s with
  | none => rfl
  | some s =>
    unfold World.cell? at h
    split at h
    · simp at h
    · cases h
set_option maxRecDepth 100000 in
theorem open_vcells {H : Type} {enc : TypeId × Value → H} {w : World} {base : Nat} {spare : Nat → Bool} {held : Bool} : ∀ (fuel : Nat) (v0 v1 v2 v3 : Value) (y : DataW H × List MemPlace),
    DataW.trod enc Try.prog w base spare held fuel 26 [v0, v1, v2, v3] = some y → ∃ x : VM, [v0, v1, v2, v3] = x.cells ∧ VL fuel w (fun _ => True) x := by
  intro fuel
  induction fuel using Nat.strongRecOn with
  | _ fuel ih =>
    intro v0 v1 v2 v3 y h
    obtain ⟨xs, n, hn, _, _, hlen, hg⟩ := DataW.trod_struct Try.underlying26 h
    subst hn
    match xs, hlen with
    | [y0, y1, y2, y3], _ =>
      have g0 : DataW.trod enc Try.prog w base spare held n 5 (List.take (Try.prog.cellsOf 5) (List.drop 0 [v0, v1, v2, v3])) = [y0, y1, y2, y3][0]? := hg 0 _ rfl
      have g1 : DataW.trod enc Try.prog w base spare held n 2 (List.take (Try.prog.cellsOf 2) (List.drop 1 [v0, v1, v2, v3])) = [y0, y1, y2, y3][1]? := hg 1 _ rfl
      have g2 : DataW.trod enc Try.prog w base spare held n 23 (List.take (Try.prog.cellsOf 23) (List.drop 2 [v0, v1, v2, v3])) = [y0, y1, y2, y3][2]? := hg 2 _ rfl
      have g3 : DataW.trod enc Try.prog w base spare held n 24 (List.take (Try.prog.cellsOf 24) (List.drop 3 [v0, v1, v2, v3])) = [y0, y1, y2, y3][3]? := hg 3 _ rfl
      rw [show Try.prog.cellsOf 5 = 1 by kernel_rfl] at g0
      rw [show Try.prog.cellsOf 2 = 1 by kernel_rfl] at g1
      rw [show Try.prog.cellsOf 23 = 1 by kernel_rfl] at g2
      rw [show Try.prog.cellsOf 24 = 1 by kernel_rfl] at g3
      simp only [List.drop_zero, List.drop_succ_cons, List.take_succ_cons, List.take_zero, List.getElem?_cons_zero, List.getElem?_cons_succ] at g0 g1 g2 g3
      obtain ⟨k, e0, _, w0⟩ := DataW.trod_int Try.underlying5 g0
      obtain ⟨z, e1, _, w1⟩ := DataW.trod_int Try.underlying2 g1
      obtain ⟨A, c, b, rfl, hb, hbc, hbl⟩ := open_bytes g2
      simp at e0 e1
      subst e0 e1
      have k1 : 0 ≤ k ∧ k ≤ 255 := by simpa [Lit.wf, IntKind.min, IntKind.max, IntKind.signed, IntKind.bits] using w0
      have z1 : -9223372036854775808 ≤ z ∧ z ≤ 9223372036854775807 := by simpa [Lit.wf, IntKind.min, IntKind.max, IntKind.signed, IntKind.bits] using w1
      obtain ⟨kn, rfl⟩ : ∃ kn : Nat, k = (kn : Int) := ⟨k.toNat, by omega⟩
      have hbs : RS w (fun _ => True) A b := hb.rs (fun _ _ => trivial)
      rcases DataW.trod_slice Try.underlying24 g3 with ⟨hcs, _⟩ | ⟨a, len, cap, elems, rest, n', hn', hcs, _, _, hl, hm, hel, hi, _, _⟩
      · obtain rfl : v3 = .slice none 0 0 := by simpa using hcs
        exact ⟨⟨kn, z, A, b, c, none, [], 0⟩, rfl, ⟨by show kn < 256; omega, z1.1, z1.2, hbc, hbl, by simp, by simp⟩, hbs, fun h => absurd h (by simp)⟩
      · obtain rfl : v3 = .slice (some a) len cap := by simpa using hcs
        subst hn'
        rw [show Try.prog.cellsOf 26 = 4 by kernel_rfl] at hi
        obtain ⟨F, hF⟩ := choose_lt (α := VM) (n := len) (p := fun i x => (∀ j v, x.cells[j]? = some v → w.cell? (a.add (i * 4 + j)) = some v) ∧ VL n' w (fun _ => True) x) (fun i hlt => by
          have h1 := hi i hlt
          rw [List.getElem?_eq_getElem (by omega)] at h1
          obtain ⟨cs, h2, h3⟩ := Option.bind_eq_some_iff.1 h1
          obtain ⟨_, hcl, hat⟩ := World.cells?_some h2
          match cs, hcl with
          | [u0, u1, u2, u3], _ =>
            obtain ⟨x, hx, hv⟩ := ih n' (by omega) u0 u1 u2 u3 _ h3
            refine ⟨x, fun j v hj => ?_, hv⟩
            rw [← hx] at hj
            have hjl : j < 4 := by have := (List.getElem?_eq_some_iff.1 hj).1; simpa using this
            have := hat j (by simpa using hjl)
            rw [addr_add_add] at this
            rw [this]
            exact hj)
        unfold maxLen at hm
        have hlen : ((List.range len).map fun i => (F i).v).length = len := by simp
        refine ⟨⟨kn, z, A, b, c, some a, (List.range len).map fun i => (F i).v, cap⟩, by unfold VM.cells; rw [hlen], ⟨by show kn < 256; omega, z1.1, z1.2, hbc, hbl, by show _ ≤ cap; rw [hlen]; exact hl, by show _ ≤ 9223372036854775807; rw [hlen]; omega⟩, hbs, fun hpos => ?_⟩
        have hpos' : 0 < len := by have : 0 < ((List.range len).map fun i => (F i).v).length := hpos; rwa [hlen] at this
        have ha : a = ⟨a.block, a.off, none⟩ := spot_none (v := .int .u8 ((F 0).kind : Int)) (by have := (hF 0 hpos').1 0 _ rfl; simpa [Addr.add] using this)
        refine ⟨a.block, a.off, congrArg some ha, trivial, fun i hi' => ?_⟩
        have hil : i < len := by have : i < ((List.range len).map fun i => (F i).v).length := hi'; rwa [hlen] at this
        refine ⟨F i, by simp, fun j v hj => ?_, (hF i hil).2.le (by omega)⟩
        have := (hF i hil).1 j v hj
        rw [ha] at this
        have e : (⟨a.block, a.off, none⟩ : Addr).add (i * 4 + j) = ⟨a.block, a.off + i * 4 + j, none⟩ := by
          unfold Addr.add
          split
          · rename_i h0
            rw [show a.off + i * 4 + j = a.off by omega]
          · simp; omega
        rw [e] at this
        exact this
/-- A value that came in. -/
theorem open_value {H : Type} {enc : TypeId × Value → H} {w : World} {r : Reach} {b0 base : Nat} {spare : Nat → Bool} {held : Bool} {v : Value} {d : DataW H} {p : List MemPlace}
    (hv : Value.okWide Try.prog w r b0 26 v) (h : DataW.Trod enc Try.prog w base spare held 26 v d p) :
    ∃ (D : Nat) (x : VM), v = x.val ∧ VL D w (fun g => g < w.heap.size) x := by
  obtain ⟨cs, rfl, hsz, _⟩ : ∃ cs, v = .agg cs ∧ cs.size = Try.prog.cellsOf 26 ∧ Row.okWide Try.prog w r b0 26 cs := by
    simpa [Value.okWide, Try.underlying26] using hv
  rw [show Try.prog.cellsOf 26 = 4 by kernel_rfl] at hsz
  obtain ⟨l⟩ := cs
  match l, hsz with
  | [v0, v1, v2, v3], _ =>
    obtain ⟨fuel, hf⟩ := h
    obtain ⟨x, hx, hl⟩ := open_vcells fuel v0 v1 v2 v3 _ hf
    exact ⟨fuel, x, by unfold VM.val; rw [← hx], hl.lt.mono fun g hg => hg.2⟩
end Go.Proofs.Ytmdjdcllehaphaa
