/- The chapter's examples, hashes compared. Own work. -/
import Derived.Test.YtiijehmbpjakhaaDoorShLawA
set_option linter.unusedVariables false
set_option linter.unusedSimpArgs false
namespace Go.Proofs.YtiijehmbpjakhaaDoor
open Go.RowKit

theorem ex_none : (Sha.of [])[0]? = some 0xe3 ∧ (Sha.of [])[1]? = some 0xb0 ∧ (Sha.of [])[2]? = some 0xc4 ∧ (Sha.of [])[3]? = some 0x42 ∧ (Sha.of [])[31]? = some 0x55 := by decide +kernel
theorem ex_abc : (Sha.of [97, 98, 99])[0]? = some 0xba ∧ (Sha.of [97, 98, 99])[1]? = some 0x78 ∧ (Sha.of [97, 98, 99])[2]? = some 0x16 ∧ (Sha.of [97, 98, 99])[3]? = some 0xbf ∧ (Sha.of [97, 98, 99])[31]? = some 0xad := by decide +kernel
theorem pad_ok (n : Int) (k : Nat) (hn : n = (k : Int)) (hk : k ≤ 1000000) (w : World) :
    Calls Tryd.prog 6 #[.int .i64 n] w fun e w' => ∃ g, w.heap.size ≤ g ∧ e = .returned (.tuple #[.slice (some ⟨g, 0, none⟩) (Sha.zeros k + 9) (Sha.zeros k + 9), .int .i64 0]) ∧ OR 5 w.heap.size w' (some ⟨g, 0, none⟩) (Sha.zeros k + 9) (Sha.pad k) ∧ Ab w w' := by
  subst hn
  have h1 : 0 ≤ (k : Int) := by omega
  have h2 : (k : Int) ≤ 1000000 := by omega
  go_enter Tryd.func6, Tryd.ntmps6
  go_wp2_with fail
  refine (padding_any k _ hk).mono ?_
  rintro e w' ⟨g, hg, rfl, ho, hb⟩
  go_wp2
  go_ret2
  exact ⟨g, hg, rfl, ho, hb⟩
theorem ex_pad3 : (Sha.pad 3).length = 61 ∧ (Sha.pad 3)[0]? = some 128 ∧ (Sha.pad 3)[60]? = some 24 ∧ (∀ i : Fin 59, (Sha.pad 3)[i.val + 1]? = some 0) := by decide +kernel
theorem OR.at' {e : TypeId} {lo : Nat} {w : World} {g c i : Nat} {l : List UInt8} {x : UInt8} (h : OR e lo w (some ⟨g, 0, none⟩) c l) (hx : l[i]? = some x) : w.cell? ⟨g, i, none⟩ = some (.int .u8 (x.toNat : Int)) := by
  obtain ⟨hi, he⟩ := List.getElem?_eq_some_iff.1 hx
  have := h.cellAt hi
  rw [he] at this; exact this
end Go.Proofs.YtiijehmbpjakhaaDoor
