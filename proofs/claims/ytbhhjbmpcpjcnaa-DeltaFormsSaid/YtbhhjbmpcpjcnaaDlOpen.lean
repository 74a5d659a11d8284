/- Arguments that are deltas, opened. Own work. -/
import Derived.Test.YtbhhjbmpcpjcnaaOpenB
import Derived.Test.YtbhhjbmpcpjcnaaDlMem
import Derived.Deep.Slices
import Derived.Deep.Fields
set_option linter.unusedVariables false
set_option linter.unusedSimpArgs false
namespace Go.Proofs.Ytbhhjbmpcpjcnaa
open Go.ChangeShapes Go.WideShapes Go.ChangeAt Go.RowKit Go.Joins Go.Deep

theorem spotD_none {w : World} {p : Addr} {v : Value} (h : w.cell? p = some v) : p = ⟨p.block, p.off, none⟩ := by
  obtain ⟨b, o, s⟩ := p
  cases s with
  | none => rfl
  | some s =>
    unfold World.cell? at h
    split at h
    · simp at h
    · cases h
section
variable {H : Type} {enc : TypeId × Value → H} {w : World} {base : Nat} {spare : Nat → Bool} {held : Bool} {fuel : Nat} {y : DataW H × List MemPlace}
set_option maxRecDepth 100000 in
theorem open_pcells {cs : List Value} (hc : cs.length = 3) (h : DataW.trod enc Try.prog w base spare held fuel 24 cs = some y) : ∃ x : PM, cs = x.cells ∧ PL w x := by
  obtain ⟨xs, n, _, _, _, hlen, hg⟩ := DataW.trod_struct Try.underlying24 h
  match xs, hlen, cs, hc with
  | [y0, y1, y2], _, [v0, v1, v2], _ =>
    have g0 : DataW.trod enc Try.prog w base spare held n 3 (List.take (Try.prog.cellsOf 3) (List.drop 0 [v0, v1, v2])) = [y0, y1, y2][0]? := hg 0 _ rfl
    have g1 : DataW.trod enc Try.prog w base spare held n 3 (List.take (Try.prog.cellsOf 3) (List.drop 1 [v0, v1, v2])) = [y0, y1, y2][1]? := hg 1 _ rfl
    have g2 : DataW.trod enc Try.prog w base spare held n 22 (List.take (Try.prog.cellsOf 22) (List.drop 2 [v0, v1, v2])) = [y0, y1, y2][2]? := hg 2 _ rfl
    rw [show Try.prog.cellsOf 3 = 1 by kernel_rfl] at g0 g1
    rw [show Try.prog.cellsOf 22 = 1 by kernel_rfl] at g2
    simp only [List.drop_zero, List.drop_succ_cons, List.take_succ_cons, List.take_zero, List.getElem?_cons_zero, List.getElem?_cons_succ] at g0 g1 g2
    obtain ⟨p, e0, _, wp⟩ := DataW.trod_int Try.underlying3 g0
    obtain ⟨m, e1, _, wm⟩ := DataW.trod_int Try.underlying3 g1
    obtain ⟨A, c, b, rfl, hb, hbc, hbl⟩ := open_bytes g2
    simp at e0 e1
    subst e0 e1
    have p1 : -9223372036854775808 ≤ p ∧ p ≤ 9223372036854775807 := by simpa [Lit.wf, IntKind.min, IntKind.max, IntKind.signed, IntKind.bits] using wp
    have m1 : -9223372036854775808 ≤ m ∧ m ≤ 9223372036854775807 := by simpa [Lit.wf, IntKind.min, IntKind.max, IntKind.signed, IntKind.bits] using wm
    exact ⟨⟨p, m, A, b, c⟩, rfl, ⟨hb, hbc, hbl, p1.1, p1.2, m1.1, m1.2⟩⟩
set_option maxRecDepth 100000 in
theorem open_parts {v : Value} (h : DataW.trod enc Try.prog w base spare held fuel 25 [v] = some y) :
    ∃ (A : Option Addr) (c : Nat) (xs : List PM), v = .slice A xs.length c ∧ Pts w A c xs := by
  rcases open_slice Try.underlying25 h with ⟨hcs, _⟩ | ⟨a, len, cap, m, n, D, Pl, hcs, _, hl, hm, hmm, _, hi⟩
  · obtain rfl : v = .slice none 0 0 := by simpa using hcs
    exact ⟨none, 0, [], rfl, ⟨fun h => absurd h (by simp), fun x hx => absurd hx (by simp), by simp, by simp⟩⟩
  · obtain rfl : v = .slice (some a) len cap := by simpa using hcs
    have hlm : len ≤ m := by rw [hmm]; split <;> omega
    rw [show Try.prog.cellsOf 24 = 3 by kernel_rfl] at hi
    obtain ⟨V, hV⟩ := choose_lt (α := PM) (n := len) (p := fun i o => (∀ j v, o.cells[j]? = some v → w.cell? (a.add (i * 3 + j)) = some v) ∧ PL w o) (fun i hlt => by
      obtain ⟨cs, h1, h2⟩ := hi i (by omega)
      obtain ⟨_, hcl, hat⟩ := World.cells?_some h1
      obtain ⟨x, rfl, hx⟩ := open_pcells hcl h2
      refine ⟨x, fun j v hj => ?_, hx⟩
      have := hat j (by have := (List.getElem?_eq_some_iff.1 hj).1; omega)
      rw [addr_add_add] at this
      rw [this]; exact hj)
    unfold maxLen at hm
    have hlen : ((List.range len).map V).length = len := by simp
    refine ⟨some a, cap, (List.range len).map V, by rw [hlen], ⟨fun hn => ?_, fun x hx => ?_, by rw [hlen]; exact hl, by rw [hlen]; omega⟩⟩
    · have hn' : 0 < len := by simpa using hn
      have ha : a = ⟨a.block, a.off, none⟩ := by
        have := (hV 0 hn').1 0 _ rfl
        exact spotD_none (v := .int .i64 (V 0).p) (by simpa [Addr.add] using this)
      refine ⟨a.block, a.off, congrArg some ha, fun i hi j v hv => ?_⟩
      have hi' : i < len := by simpa using hi
      have := (hV i hi').1 j v (by simpa using hv)
      rw [ha] at this
      have e : (⟨a.block, a.off, none⟩ : Addr).add (i * 3 + j) = ⟨a.block, a.off + i * 3 + j, none⟩ := by
        unfold Addr.add
        split
        · rename_i hz
          rw [show a.off + i * 3 + j = a.off by omega]
        · simp; omega
      rw [e] at this
      exact this
    · obtain ⟨i, hi, rfl⟩ := List.mem_map.1 hx
      exact (hV i (List.mem_range.1 hi)).2
end
end Go.Proofs.Ytbhhjbmpcpjcnaa
