/- An argument that is a list of operations of a device, opened. Own work. -/
import Derived.Test.YtkcbdkdlghpkhaaOpen
import Derived.Test.YtkcbdkdlghpkhaaOps
import Derived.Deep.Slices
import Derived.Deep.Fields
set_option linter.unusedVariables false
namespace Go.Proofs.Ytkcbdkdlghpkhaa
open Go.ChangeShapes Go.WideShapes Go.ChangeAt Go.RowKit Go.Joins Go.Deep

instance : Inhabited OpM := ⟨⟨0, none, 0, [], 0⟩⟩

theorem open_op {H : Type} {enc : TypeId × Value → H} {w : World} {base : Nat} {spare : Nat → Bool} {held : Bool} {fuel : Nat} {a : Addr} {cs : List Value} {y : DataW H × List MemPlace}
    (hc : w.cells? base a 3 = some cs) (h : DataW.trod enc Try.prog w base spare held fuel 39 cs = some y) :
    ∃ o : OpM, w.cell? a = some (.int .u8 o.k) ∧ w.cell? (a.add 1) = some (.slice o.A o.b.length o.c) ∧ w.cell? (a.add 2) = some (.int .i64 o.n) ∧ RB w 0 o.A o.b ∧ o.b.length ≤ o.c ∧ o.b.length ≤ 9223372036854775807 := by
  obtain ⟨_, hl, hat⟩ := World.cells?_some hc
  match cs, hl with
  | [v0, v1, v2], _ =>
    have c0 : w.cell? (a.add 0) = some v0 := hat 0 (by omega)
    have c1 : w.cell? (a.add 1) = some v1 := hat 1 (by omega)
    have c2 : w.cell? (a.add 2) = some v2 := hat 2 (by omega)
    obtain ⟨xs, n, _, _, _, hlen, hg⟩ := DataW.trod_struct Try.underlying39 h
    match xs, hlen with
    | [y0, y1, y2], _ =>
      have g0 : DataW.trod enc Try.prog w base spare held n 5 (List.take (Try.prog.cellsOf 5) (List.drop 0 [v0, v1, v2])) = [y0, y1, y2][0]? := hg 0 _ rfl
      have g1 : DataW.trod enc Try.prog w base spare held n 24 (List.take (Try.prog.cellsOf 24) (List.drop 1 [v0, v1, v2])) = [y0, y1, y2][1]? := hg 1 _ rfl
      have g2 : DataW.trod enc Try.prog w base spare held n 3 (List.take (Try.prog.cellsOf 3) (List.drop 2 [v0, v1, v2])) = [y0, y1, y2][2]? := hg 2 _ rfl
      rw [show Try.prog.cellsOf 5 = 1 by kernel_rfl] at g0
      rw [show Try.prog.cellsOf 24 = 1 by kernel_rfl] at g1
      rw [show Try.prog.cellsOf 3 = 1 by kernel_rfl] at g2
      simp only [List.drop_zero, List.drop_succ_cons, List.take_succ_cons, List.take_zero, List.getElem?_cons_zero, List.getElem?_cons_succ] at g0 g1 g2
      obtain ⟨k, e0, _, _⟩ := DataW.trod_int Try.underlying5 g0
      obtain ⟨A, c, b, rfl, hb, hbc, hbl⟩ := open_bytes g1
      obtain ⟨m, e2, _, _⟩ := DataW.trod_int Try.underlying3 g2
      simp at e0 e2
      subst e0 e2
      exact ⟨⟨k, A, c, b, m⟩, c0, c1, c2, hb, hbc, hbl⟩

/-- A list of operations that came in. -/
theorem open_ops {H : Type} {enc : TypeId × Value → H} {w : World} {base : Nat} {spare : Nat → Bool} {held : Bool} {fuel : Nat} {v : Value} {y : DataW H × List MemPlace}
    (h : DataW.trod enc Try.prog w base spare held fuel 40 [v] = some y) :
    ∃ (A : Option Addr) (n c : Nat) (xs : List OpM), v = .slice A n c ∧ Ops w A n xs ∧ n ≤ c ∧ n ≤ 9223372036854775807 := by
  rcases open_slice Try.underlying40 h with ⟨hcs, _⟩ | ⟨a, len, cap, m, n, D, Pl, hcs, _, hl, hm, hmm, _, hi⟩
  · obtain rfl : v = .slice none 0 0 := by simpa using hcs
    exact ⟨none, 0, 0, [], rfl, ⟨rfl, fun h => absurd h (by omega)⟩, by omega, by omega⟩
  · obtain rfl : v = .slice (some a) len cap := by simpa using hcs
    have hlm : len ≤ m := by rw [hmm]; split <;> omega
    rw [show Try.prog.cellsOf 39 = 3 by kernel_rfl] at hi
    obtain ⟨V, hV⟩ := choose_lt (α := OpM) (n := len) (p := fun i o => w.cell? (a.add (i * 3)) = some (.int .u8 o.k) ∧ w.cell? (a.add (i * 3 + 1)) = some (.slice o.A o.b.length o.c) ∧
        w.cell? (a.add (i * 3 + 2)) = some (.int .i64 o.n) ∧ RB w 0 o.A o.b ∧ o.b.length ≤ o.c ∧ o.b.length ≤ 9223372036854775807) (fun i hlt => by
      obtain ⟨cs, h1, h2⟩ := hi i (by omega)
      obtain ⟨o, h3⟩ := open_op h1 h2
      rw [addr_add_add, addr_add_add] at h3
      exact ⟨o, h3⟩)
    unfold maxLen at hm
    refine ⟨some a, len, cap, (List.range len).map V, rfl, ⟨by simp, fun _ => ⟨a, rfl, fun i hi => ?_⟩⟩, hl, by omega⟩
    have hi' : i < len := by simpa using hi
    simp only [List.getElem_map, List.getElem_range]
    exact hV i hi'
end Go.Proofs.Ytkcbdkdlghpkhaa
