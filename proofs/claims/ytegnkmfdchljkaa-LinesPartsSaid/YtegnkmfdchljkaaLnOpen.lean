/- Arguments that are lists of strings, or bytes, opened. Own work. -/
import Derived.Test.YtegnkmfdchljkaaRows
import Derived.Test.YtegnkmfdchljkaaOpenB
import Derived.Test.YtegnkmfdchljkaaLnRefA
import Derived.SliceStrings
import Derived.ProofKit
import Derived.OpenShut
import Derived.Stop.Joined
set_option linter.unusedVariables false
set_option linter.unusedSimpArgs false
namespace Go.Proofs.Ytegnkmfdchljkaa
open Go.ChangeShapes Go.WideShapes Go.ChangeAt Go.RowKit Go.Joins

theorem spotS_none {w : World} {p : Addr} {v : Value} (h : w.cell? p = some v) : p = ⟨p.block, p.off, none⟩ := by
  obtain ⟨b, o, s⟩ := p
  cases s with
  | none => rfl
  | some k =>
    exfalso
    unfold World.cell? at h
    split at h
    · simp at h
    · cases h
theorem open_bytesS {H : Type} {enc : TypeId × Value → H} {w : World} {base : Nat} {spare : Nat → Bool} {held : Bool} {fuel : Nat} {v : Value} {y : DataW H × List MemPlace}
    (h : DataW.trod enc Try.prog w base spare held fuel 41 [v] = some y) :
    ∃ (A : Option Addr) (ca : Nat) (s : List UInt8), v = .slice A s.length ca ∧ RB w 0 A s ∧ s.length ≤ ca ∧ ca ≤ 9223372036854775807 ∧ (A = none → ca = 0) := by
  rcases open_ints Try.underlying41 Try.underlying5 (by kernel_rfl) h with ⟨hcs, _⟩ | ⟨x, l, c, zs, hcs, _, hl, hm, hz, _, hcell, hwz⟩
  · obtain rfl : v = .slice none 0 0 := by simpa using hcs
    exact ⟨none, 0, [], rfl, RB.nil, Nat.le_refl _, Nat.zero_le _, fun _ => rfl⟩
  · obtain rfl : v = .slice (some x) l c := by simpa using hcs
    obtain ⟨h1, h2⟩ := rb_of_ints hz (by split <;> omega) hcell hwz
    unfold maxLen at hm
    exact ⟨some x, c, u8s (zs.take l), by rw [h2], h1, by omega, by omega, fun h => by cases h⟩
theorem open_lines {H : Type} {enc : TypeId × Value → H} {w : World} {base : Nat} {spare : Nat → Bool} {held : Bool} {fuel : Nat} {v : Value} {y : DataW H × List MemPlace}
    (h : DataW.trod enc Try.prog w base spare held fuel 22 [v] = some y) :
    ∃ (A : Option Addr) (c : Nat) (ps : List ByteArray), v = .slice A ps.length c ∧ SO w A c ps := by
  rcases open_strings Try.underlying22 Try.underlying9 (by kernel_rfl) h with ⟨hcs, _⟩ | ⟨a, len, cap, ss, hcs, _, hl, hm, hn, _, hcell, hsz⟩
  · obtain rfl : v = .slice none 0 0 := by simpa using hcs
    exact ⟨none, 0, [], rfl, ⟨fun h => absurd h (by simp), Nat.le_refl _, Nat.zero_le _, by simp⟩⟩
  · obtain rfl : v = .slice (some a) len cap := by simpa using hcs
    have hlen : len ≤ ss.length := by rw [hn]; split <;> omega
    have ht : (ss.take len).length = len := by simp; omega
    unfold maxLen at hm
    refine ⟨some a, cap, ss.take len, by rw [ht], ⟨fun hpos => ?_, by omega, hm, fun p hp => by have := hsz p (List.mem_of_mem_take hp); unfold maxLen at this; exact this⟩⟩
    have h0 := hcell 0 (by omega)
    have ha : a = ⟨a.block, a.off, none⟩ := spotS_none (by simpa [Addr.add] using h0)
    refine ⟨a.block, a.off, by rw [← ha], fun j hj => ?_⟩
    rw [ht] at hj
    have h1 := hcell j (by omega)
    have e : a.add j = ⟨a.block, a.off + j, none⟩ := by
      unfold Addr.add
      by_cases hj0 : j = 0
      · rw [if_pos hj0, hj0, Nat.add_zero]
        exact ha
      · rw [if_neg hj0]
    rw [e] at h1
    rw [h1]
    simp [List.getD_eq_getElem?_getD, List.getElem?_eq_getElem (show j < ss.length by omega)]
end Go.Proofs.Ytegnkmfdchljkaa
