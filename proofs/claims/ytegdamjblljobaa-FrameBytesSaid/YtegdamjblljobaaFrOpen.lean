/- Arguments that are records, opened. Own work. -/
import Derived.Test.YtegdamjblljobaaOpenB
import Derived.Test.YtegdamjblljobaaFrRec
import Derived.Deep.Slices
import Derived.Deep.Fields
set_option linter.unusedVariables false
namespace Go.Proofs.Ytegdamjblljobaa
open Go.ChangeShapes Go.WideShapes Go.ChangeAt Go.RowKit Go.Joins Go.Deep

theorem open_cells {H : Type} {enc : TypeId × Value → H} {w : World} {base : Nat} {spare : Nat → Bool} {held : Bool} {fuel : Nat} {v0 v1 : Value} {y : DataW H × List MemPlace}
    (h : DataW.trod enc Try.prog w base spare held fuel 27 [v0, v1] = some y) :
    ∃ x : RecM, v0 = .int .i64 x.num ∧ v1 = .slice x.A x.b.length x.c ∧ Laid w 0 x := by
  obtain ⟨xs, n, _, _, _, hlen, hg⟩ := DataW.trod_struct Try.underlying27 h
  match xs, hlen with
  | [y0, y1], _ =>
    have g0 : DataW.trod enc Try.prog w base spare held n 3 (List.take (Try.prog.cellsOf 3) (List.drop 0 [v0, v1])) = [y0, y1][0]? := hg 0 _ rfl
    have g1 : DataW.trod enc Try.prog w base spare held n 25 (List.take (Try.prog.cellsOf 25) (List.drop 1 [v0, v1])) = [y0, y1][1]? := hg 1 _ rfl
    rw [show Try.prog.cellsOf 3 = 1 by kernel_rfl] at g0
    rw [show Try.prog.cellsOf 25 = 1 by kernel_rfl] at g1
    simp only [List.drop_zero, List.drop_succ_cons, List.take_succ_cons, List.take_zero, List.getElem?_cons_zero, List.getElem?_cons_succ] at g0 g1
    obtain ⟨A, c, b, rfl, hb, hbc, hbl⟩ := open_bytes g1
    obtain ⟨m, e0, _, _⟩ := DataW.trod_int Try.underlying3 g0
    simp at e0
    subst e0
    exact ⟨⟨m, A, c, b⟩, rfl, rfl, hb, hbc, hbl⟩

theorem open_rec {H : Type} {enc : TypeId × Value → H} {w : World} {r : Reach} {b0 base : Nat} {spare : Nat → Bool} {held : Bool} {v : Value} {d : DataW H} {p : List MemPlace}
    (hv : Value.okWide Try.prog w r b0 27 v) (h : DataW.Trod enc Try.prog w base spare held 27 v d p) :
    ∃ x : RecM, v = .agg #[.int .i64 x.num, .slice x.A x.b.length x.c] ∧ Laid w 0 x := by
  obtain ⟨cs, rfl, hsz, _⟩ : ∃ cs, v = .agg cs ∧ cs.size = Try.prog.cellsOf 27 ∧ Row.okWide Try.prog w r b0 27 cs := by
    simpa [Value.okWide, Try.underlying27] using hv
  rw [show Try.prog.cellsOf 27 = 2 by kernel_rfl] at hsz
  obtain ⟨l⟩ := cs
  match l, hsz with
  | [v0, v1], _ =>
    obtain ⟨fuel, hf⟩ := h
    obtain ⟨x, rfl, rfl, hl⟩ := open_cells (v0 := v0) (v1 := v1) hf
    exact ⟨x, rfl, hl⟩

/-- A list of records that came in. -/
theorem open_recs {H : Type} {enc : TypeId × Value → H} {w : World} {base : Nat} {spare : Nat → Bool} {held : Bool} {fuel : Nat} {v : Value} {y : DataW H × List MemPlace}
    (h : DataW.trod enc Try.prog w base spare held fuel 30 [v] = some y) :
    ∃ (A : Option Addr) (c : Nat) (xs : List RecM), v = .slice A xs.length c ∧ Recs w 0 A xs ∧ xs.length ≤ c ∧ xs.length ≤ 9223372036854775807 := by
  rcases open_slice Try.underlying30 h with ⟨hcs, _⟩ | ⟨a, len, cap, m, n, D, Pl, hcs, _, hl, hm, hmm, _, hi⟩
  · obtain rfl : v = .slice none 0 0 := by simpa using hcs
    exact ⟨none, 0, [], rfl, Recs.nil, by simp, by simp⟩
  · obtain rfl : v = .slice (some a) len cap := by simpa using hcs
    have hlm : len ≤ m := by rw [hmm]; split <;> omega
    rw [show Try.prog.cellsOf 27 = 2 by kernel_rfl] at hi
    obtain ⟨V, hV⟩ := choose_lt (α := RecM) (n := len) (p := fun i o => w.cell? (a.add (i * 2)) = some (.int .i64 o.num) ∧ w.cell? (a.add (i * 2 + 1)) = some (.slice o.A o.b.length o.c) ∧ Laid w 0 o) (fun i hlt => by
      obtain ⟨cs, h1, h2⟩ := hi i (by omega)
      obtain ⟨_, hcl, hat⟩ := World.cells?_some h1
      match cs, hcl with
      | [v0, v1], _ =>
        have c0 : w.cell? ((a.add (i * 2)).add 0) = some v0 := hat 0 (by omega)
        have c1 : w.cell? ((a.add (i * 2)).add 1) = some v1 := hat 1 (by omega)
        obtain ⟨x, rfl, rfl, hx⟩ := open_cells h2
        rw [addr_add_add] at c1
        exact ⟨x, c0, c1, hx⟩)
    unfold maxLen at hm
    have hlen : ((List.range len).map V).length = len := by simp
    refine ⟨some a, cap, (List.range len).map V, by rw [hlen], fun _ => ⟨a, rfl, Nat.zero_le _, fun i hi => ?_⟩, by rw [hlen]; exact hl, by rw [hlen]; omega⟩
    have hi' : i < len := by simpa using hi
    simp only [List.getElem_map, List.getElem_range]
    exact hV i hi'
end Go.Proofs.Ytegdamjblljobaa
