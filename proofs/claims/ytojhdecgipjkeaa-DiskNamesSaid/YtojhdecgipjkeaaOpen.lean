/- An argument that is a device, opened. Own work. -/
import Derived.Test.YtojhdecgipjkeaaRows
import Derived.Test.YtojhdecgipjkeaaMem2
import Derived.Test.YtojhdecgipjkeaaDisk
import Derived.ProofKit
import Derived.OpenShut
import Derived.ShutString
import Derived.ChangeOld
import Derived.Below
import Derived.Lib.SmallJoins
set_option linter.unusedVariables false
namespace Go.Proofs.Ytojhdecgipjkeaa
open Go.ChangeShapes Go.WideShapes Go.ChangeAt Go.RowKit Go.Joins
open Go.ChangeMaps (open_string shut_string)

theorem own : ownKnob Try.prog.godebug = none := by kernel_rfl
theorem laidOut : laidOutB Try.prog = true := by kernel_rfl

def u8s (zs : List Int) : List UInt8 := zs.map fun z => UInt8.ofNat z.toNat
theorem rb_of_ints {w : World} {x : Addr} {zs : List Int} {len cap : Nat} (hz : zs.length = cap) (hl : len ≤ cap)
    (hc : ∀ i, i < zs.length → w.cell? (x.add i) = some (.int .u8 (zs.getD i 0))) (hw : ∀ n ∈ zs, (Lit.int .u8 n).wf = true) :
    RB w 0 (some x) (u8s (zs.take len)) ∧ (u8s (zs.take len)).length = len := by
  have hlen : (u8s (zs.take len)).length = len := by simp [u8s]; omega
  refine ⟨fun _ => ⟨x, rfl, Nat.zero_le _, fun i hi => ?_⟩, hlen⟩
  have hi' : i < zs.length := by omega
  rw [hc i hi']
  have hm := hw zs[i] (List.getElem_mem hi')
  have hb : 0 ≤ zs[i] ∧ zs[i] ≤ 255 := by simpa [Lit.wf, IntKind.min, IntKind.max, IntKind.signed, IntKind.bits] using hm
  have hg : zs.getD i 0 = zs[i] := by simp [hi']
  have hn : ((UInt8.ofNat zs[i].toNat).toNat : Int) = zs[i] := by
    rw [UInt8.toNat_ofNat']; omega
  rw [hg]
  unfold cb
  simp only [u8s, List.getElem_map, List.getElem_take]
  rw [hn]

/-- A slice of bytes that came in. -/
theorem open_bytes {H : Type} {enc : TypeId × Value → H} {w : World} {base : Nat} {spare : Nat → Bool} {held : Bool} {fuel : Nat} {v : Value} {y : DataW H × List MemPlace}
    (h : DataW.trod enc Try.prog w base spare held fuel 24 [v] = some y) :
    ∃ (A : Option Addr) (ca : Nat) (s : List UInt8), v = .slice A s.length ca ∧ RB w 0 A s ∧ s.length ≤ ca ∧ s.length ≤ 9223372036854775807 := by
  rcases open_ints Try.underlying24 Try.underlying5 (by kernel_rfl) h with ⟨hcs, _⟩ | ⟨x, l, c, zs, hcs, _, hl, hm, hz, _, hcell, hwz⟩
  · obtain rfl : v = .slice none 0 0 := by simpa using hcs
    exact ⟨none, 0, [], rfl, RB.nil, Nat.le_refl _, Nat.zero_le _⟩
  · obtain rfl : v = .slice (some x) l c := by simpa using hcs
    obtain ⟨h1, h2⟩ := rb_of_ints hz (by split <;> omega) hcell hwz
    unfold maxLen at hm
    exact ⟨some x, c, u8s (zs.take l), by rw [h2], h1, by omega, by omega⟩

/-- A device that came in. -/
theorem open_dev {H : Type} {enc : TypeId × Value → H} {w : World} {r : Reach} {b0 base : Nat} {spare : Nat → Bool} {held : Bool} {v : Value} {d : DataW H} {p : List MemPlace}
    (hv : Value.okWide Try.prog w r b0 26 v) (h : DataW.Trod enc Try.prog w base spare held 26 v d p) :
    ∃ (A B : Option Addr) (ca cb : Nat) (s t : List UInt8) (cap : Int) (dn : Bool), v = .agg #[.slice A s.length ca, .slice B t.length cb, .int .i64 cap, .bool dn] ∧ RB w 0 A s ∧ RB w 0 B t ∧ s.length ≤ ca ∧ t.length ≤ cb ∧
      s.length ≤ 9223372036854775807 ∧ t.length ≤ 9223372036854775807 ∧ -9223372036854775808 ≤ cap ∧ cap ≤ 9223372036854775807 := by
  obtain ⟨v0, v1, v2, v3, y0, y1, y2, y3, m, rfl, rfl, rfl, h0, h1, h2, h3⟩ := open_agg4 Try.underlying26 (by kernel_rfl) (show Try.prog.cellsOf 26 = 4 by kernel_rfl) hv h
  obtain ⟨A, ca, s, rfl, hs, hca, ls⟩ := open_bytes h0
  obtain ⟨B, cb, t, rfl, ht, hcb, lt⟩ := open_bytes h1
  obtain ⟨n, e2, _, w2⟩ := DataW.trod_int Try.underlying3 h2
  obtain ⟨b, e3, _⟩ := DataW.trod_bool Try.underlying4 h3
  simp at e2 e3
  subst e2 e3
  have hb : -9223372036854775808 ≤ n ∧ n ≤ 9223372036854775807 := by simpa [Lit.wf, IntKind.min, IntKind.max, IntKind.signed, IntKind.bits] using w2
  exact ⟨A, B, ca, cb, s, t, n, b, rfl, hs, ht, hca, hcb, ls, lt, hb.1, hb.2⟩
end Go.Proofs.Ytojhdecgipjkeaa
