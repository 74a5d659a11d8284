/- Arguments opened: bytes, numbers of 32 bits. Own work. -/
import Derived.Test.YtjgijpfknhfnjaaRows
import Derived.Test.YtjgijpfknhfnjaaMem
import Derived.ProofKit
import Derived.OpenShut
import Derived.ShutString
import Derived.ChangeOld
import Derived.Below
import Derived.Lib.SmallJoins
set_option linter.unusedVariables false
namespace Go.Proofs.Ytjgijpfknhfnjaa
open Go.ChangeShapes Go.WideShapes Go.ChangeAt Go.RowKit Go.Joins
open Go.ChangeMaps (open_string shut_string)

theorem own : ownKnob Try.prog.godebug = none := by kernel_rfl
theorem laidOut : laidOutB Try.prog = true := by kernel_rfl

def u8s (zs : List Int) : List UInt8 := zs.map fun z => UInt8.ofNat z.toNat
theorem rb_of_ints {w : World} {x : Addr} {zs : List Int} {len cap : Nat} (hz : zs.length = cap) (hl : len ≤ cap)
    (hc : ∀ i, i < zs.length → w.cell? (x.add i) = some (.int .u8 (zs.getD i 0))) (hw : ∀ n ∈ zs, (Lit.int .u8 n).wf = true) :
    RB w 0 (some x) (u8s (zs.take len)) ∧ (u8s (zs.take len)).length = len := by
  have hlen : (u8s (zs.take len)).length = len := by simp [u8s]; omega
  refine ⟨fun _ => ⟨x, rfl, Nat.zero_le _, fun i hi => ?_⟩, hlen⟩
  have hi' : i < zs.length := by omega
  rw [hc i hi']
  have hm := hw zs[i] (List.getElem_mem hi')
  have hb : 0 ≤ zs[i] ∧ zs[i] ≤ 255 := by simpa [Lit.wf, IntKind.min, IntKind.max, IntKind.signed, IntKind.bits] using hm
  have hg : zs.getD i 0 = zs[i] := by simp [hi']
  have hn : ((UInt8.ofNat zs[i].toNat).toNat : Int) = zs[i] := by
    rw [UInt8.toNat_ofNat']; omega
  rw [hg]
  unfold cb
  simp only [u8s, List.getElem_map, List.getElem_take]
  rw [hn]

/-- A slice of bytes that came in. -/
theorem open_bytes {H : Type} {enc : TypeId × Value → H} {w : World} {base : Nat} {spare : Nat → Bool} {held : Bool} {fuel : Nat} {v : Value} {y : DataW H × List MemPlace}
    (h : DataW.trod enc Try.prog w base spare held fuel 22 [v] = some y) :
    ∃ (A : Option Addr) (ca : Nat) (s : List UInt8), v = .slice A s.length ca ∧ RB w 0 A s ∧ s.length ≤ ca ∧ s.length ≤ 9223372036854775807 := by
  rcases open_ints Try.underlying22 Try.underlying5 (by kernel_rfl) h with ⟨hcs, _⟩ | ⟨x, l, c, zs, hcs, _, hl, hm, hz, _, hcell, hwz⟩
  · obtain rfl : v = .slice none 0 0 := by simpa using hcs
    exact ⟨none, 0, [], rfl, RB.nil, Nat.le_refl _, Nat.zero_le _⟩
  · obtain rfl : v = .slice (some x) l c := by simpa using hcs
    obtain ⟨h1, h2⟩ := rb_of_ints hz (by split <;> omega) hcell hwz
    unfold maxLen at hm
    exact ⟨some x, c, u8s (zs.take l), by rw [h2], h1, by omega, by omega⟩

theorem reg_of {n : Int} (h : (Lit.int .u32 n).wf = true) : ∃ x : BitVec 32, n = (x.toNat : Int) := by
  have hb : 0 ≤ n ∧ n ≤ 4294967295 := by simpa [Lit.wf, IntKind.min, IntKind.max, IntKind.signed, IntKind.bits] using h
  exact ⟨BitVec.ofNat 32 n.toNat, by rw [BitVec.toNat_ofNat]; omega⟩
end Go.Proofs.Ytjgijpfknhfnjaa
