/- Bytes opened, with what a nil slice has room for; the library's variable of a world's shape. Own work. -/
import Derived.Test.YtjgijpfknhfnjaaOpenB
import Derived.Test.YtjgijpfknhfnjaaDlLib
import Derived.Shelf.Vars
import Derived.HandedShaped
set_option linter.unusedVariables false
set_option linter.unusedSimpArgs false
namespace Go.Proofs.Ytjgijpfknhfnjaa
open Go.ChangeShapes Go.WideShapes Go.ChangeAt Go.RowKit Go.Joins Go.Deep

theorem open_bytesN {H : Type} {enc : TypeId × Value → H} {w : World} {base : Nat} {spare : Nat → Bool} {held : Bool} {fuel : Nat} {v : Value} {y : DataW H × List MemPlace}
    (h : DataW.trod enc Try.prog w base spare held fuel 22 [v] = some y) :
    ∃ (A : Option Addr) (ca : Nat) (s : List UInt8), v = .slice A s.length ca ∧ RB w 0 A s ∧ s.length ≤ ca ∧ s.length ≤ 9223372036854775807 ∧ (A = none → ca = 0) := by
  rcases open_ints Try.underlying22 Try.underlying5 (by kernel_rfl) h with ⟨hcs, _⟩ | ⟨x, l, c, zs, hcs, _, hl, hm, hz, _, hcell, hwz⟩
  · obtain rfl : v = .slice none 0 0 := by simpa using hcs
    exact ⟨none, 0, [], rfl, RB.nil, Nat.le_refl _, Nat.zero_le _, fun _ => rfl⟩
  · obtain rfl : v = .slice (some x) l c := by simpa using hcs
    obtain ⟨h1, h2⟩ := rb_of_ints hz (by split <;> omega) hcell hwz
    unfold maxLen at hm
    exact ⟨some x, c, u8s (zs.take l), by rw [h2], h1, by omega, by omega, fun h => by cases h⟩
theorem maxl_of {w : World} (h : w.ShapedOpen Try.prog) : MaxL w :=
  cell_of_shapedOpen_int (P := Try.prog) (g := 0) (t := 3) (zero := #[.int .i64 0]) h (of_decide_eq_true (by kernel_rfl)) (by kernel_rfl) rfl (by kernel_rfl) (by kernel_rfl) Try.underlying3
end Go.Proofs.Ytjgijpfknhfnjaa
