/- A slice of ints that came in, opened. Own work. -/
import Derived.Test.YtehagdpcegpbjaaGO
import Derived.Test.YtehagdpcegpbjaaWLiveA
import Derived.Deep.Slices
import Derived.Deep.Fields
set_option linter.unusedVariables false
namespace Go.Proofs.Ytehagdpcegpbjaa
open Go.ChangeShapes Go.WideShapes Go.ChangeAt Go.RowKit Go.Joins Go.Deep

theorem open_intlist {H : Type} {enc : TypeId × Value → H} {w : World} {base : Nat} {spare : Nat → Bool} {held : Bool} {fuel : Nat} {v : Value} {y : DataW H × List MemPlace}
    (h : DataW.trod enc Try.prog w base spare held fuel 70 [v] = some y) :
    ∃ (A : Option Addr) (c : Nat) (ns : List Int), v = .slice A ns.length c ∧ Ints w A ns ∧ (∀ x ∈ ns, -9223372036854775808 ≤ x) ∧ ns.length ≤ 9223372036854775807 := by
  rcases open_slice1 Try.underlying70 (show Try.prog.cellsOf 3 = 1 by kernel_rfl) h with ⟨hcs, _⟩ | ⟨a, len, cap, m, n, V0, D, Pl, hcs, _, hl, hm, hmm, _, hi⟩
  · obtain rfl : v = .slice none 0 0 := by simpa using hcs
    exact ⟨none, 0, [], rfl, fun h => absurd h (by simp), by simp, by simp⟩
  · obtain rfl : v = .slice (some a) len cap := by simpa using hcs
    have hlm : len ≤ m := by rw [hmm]; split <;> omega
    obtain ⟨V, hV⟩ := choose_lt (α := Int) (n := len) (p := fun i o => w.cell? (a.add i) = some (.int .i64 o) ∧ -9223372036854775808 ≤ o) (fun i hlt => by
      obtain ⟨h1, h2⟩ := hi i (by omega)
      obtain ⟨k, e0, _, wf⟩ := DataW.trod_int Try.underlying3 h2
      have e1 : V0 i = .int .i64 k := by simpa using e0
      have hb : -9223372036854775808 ≤ k ∧ k ≤ 9223372036854775807 := by simpa [Lit.wf, IntKind.min, IntKind.max, IntKind.signed, IntKind.bits] using wf
      exact ⟨k, by rw [h1, e1], hb.1⟩)
    unfold maxLen at hm
    have hlen : ((List.range len).map V).length = len := by simp
    refine ⟨some a, cap, (List.range len).map V, by rw [hlen], fun _ => ⟨a, rfl, fun i hi => ?_⟩, ?_, by rw [hlen]; omega⟩
    · have hi' : i < len := by simpa using hi
      simp only [List.getElem_map, List.getElem_range]
      exact (hV i hi').1
    · intro x hx
      obtain ⟨i, hi, rfl⟩ := List.mem_map.1 hx
      exact (hV i (List.mem_range.1 hi)).2
end Go.Proofs.Ytehagdpcegpbjaa
