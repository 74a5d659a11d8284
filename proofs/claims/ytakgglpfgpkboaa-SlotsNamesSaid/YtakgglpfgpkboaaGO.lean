/- The texts OpenB, Open, WOpen, one behind the other. Own work. -/
import Derived.Test.YtakgglpfgpkboaaRows
import Derived.Test.YtakgglpfgpkboaaGB
import Derived.ProofKit
import Derived.OpenShut
import Derived.ShutString
import Derived.ChangeOld
import Derived.Below
import Derived.Lib.SmallJoins
import Derived.Test.YtakgglpfgpkboaaGA
import Derived.Deep.Slices
import Derived.Deep.Fields
set_option linter.unusedVariables false
/- Arguments opened: bytes, numbers of 32 bits. Own work. -/
namespace Go.Proofs.Ytakgglpfgpkboaa
open Go.ChangeShapes Go.WideShapes Go.ChangeAt Go.RowKit Go.Joins
open Go.ChangeMaps (open_string shut_string)

theorem own : ownKnob Try.prog.godebug = none := by kernel_rfl
theorem laidOut : laidOutB Try.prog = true := by kernel_rfl

def u8s (zs : List Int) : List UInt8 := zs.map fun z => UInt8.ofNat z.toNat
theorem rb_of_ints {w : World} {x : Addr} {zs : List Int} {len cap : Nat} (hz : zs.length = cap) (hl : len ≤ cap)
    (hc : ∀ i, i < zs.length → w.cell? (x.add i) = some (.int .u8 (zs.getD i 0))) (hw : ∀ n ∈ zs, (Lit.int .u8 n).wf = true) :
    RB w 0 (some x) (u8s (zs.take len)) ∧ (u8s (zs.take len)).length = len := by
  have hlen : (u8s (zs.take len)).length = len := by simp [u8s]; omega
  refine ⟨fun _ => ⟨x, rfl, Nat.zero_le _, fun i hi => ?_⟩, hlen⟩
  have hi' : i < zs.length := by omega
  rw [hc i hi']
  have hm := hw zs[i] (List.getElem_mem hi')
  have hb : 0 ≤ zs[i] ∧ zs[i] ≤ 255 := by simpa [Lit.wf, IntKind.min, IntKind.max, IntKind.signed, IntKind.bits] using hm
  have hg : zs.getD i 0 = zs[i] := by simp [hi']
  have hn : ((UInt8.ofNat zs[i].toNat).toNat : Int) = zs[i] := by
    rw [UInt8.toNat_ofNat']; omega
  rw [hg]
  unfold cb
  simp only [u8s, List.getElem_map, List.getElem_take]
  rw [hn]

/-- A slice of bytes that came in. -/
theorem open_bytes {H : Type} {enc : TypeId × Value → H} {w : World} {base : Nat} {spare : Nat → Bool} {held : Bool} {fuel : Nat} {v : Value} {y : DataW H × List MemPlace}
    (h : DataW.trod enc Try.prog w base spare held fuel 22 [v] = some y) :
    ∃ (A : Option Addr) (ca : Nat) (s : List UInt8), v = .slice A s.length ca ∧ RB w 0 A s ∧ s.length ≤ ca ∧ s.length ≤ 9223372036854775807 := by
  rcases open_ints Try.underlying22 Try.underlying5 (by kernel_rfl) h with ⟨hcs, _⟩ | ⟨x, l, c, zs, hcs, _, hl, hm, hz, _, hcell, hwz⟩
  · obtain rfl : v = .slice none 0 0 := by simpa using hcs
    exact ⟨none, 0, [], rfl, RB.nil, Nat.le_refl _, Nat.zero_le _⟩
  · obtain rfl : v = .slice (some x) l c := by simpa using hcs
    obtain ⟨h1, h2⟩ := rb_of_ints hz (by split <;> omega) hcell hwz
    unfold maxLen at hm
    exact ⟨some x, c, u8s (zs.take l), by rw [h2], h1, by omega, by omega⟩

theorem reg_of {n : Int} (h : (Lit.int .u32 n).wf = true) : ∃ x : BitVec 32, n = (x.toNat : Int) := by
  have hb : 0 ≤ n ∧ n ≤ 4294967295 := by simpa [Lit.wf, IntKind.min, IntKind.max, IntKind.signed, IntKind.bits] using h
  exact ⟨BitVec.ofNat 32 n.toNat, by rw [BitVec.toNat_ofNat]; omega⟩
end Go.Proofs.Ytakgglpfgpkboaa

/- An argument that is a device, opened. Own work. -/
namespace Go.Proofs.Ytakgglpfgpkboaa
open Go.ChangeShapes Go.WideShapes Go.ChangeAt Go.RowKit Go.Joins
open Go.ChangeMaps (open_string shut_string)

set_option maxRecDepth 100000 in
/-- A device that came in. -/
theorem open_dev {H : Type} {enc : TypeId × Value → H} {w : World} {r : Reach} {b0 base : Nat} {spare : Nat → Bool} {held : Bool} {v : Value} {d : DataW H} {p : List MemPlace}
    (hv : Value.okWide Try.prog w r b0 24 v) (h : DataW.Trod enc Try.prog w base spare held 24 v d p) :
    ∃ (A B : Option Addr) (ca cb : Nat) (s t : List UInt8) (cap : Int) (dn : Bool), v = .agg #[.slice A s.length ca, .slice B t.length cb, .int .i64 cap, .bool dn] ∧ RB w 0 A s ∧ RB w 0 B t ∧ s.length ≤ ca ∧ t.length ≤ cb ∧
      s.length ≤ 9223372036854775807 ∧ t.length ≤ 9223372036854775807 ∧ -9223372036854775808 ≤ cap ∧ cap ≤ 9223372036854775807 := by
  obtain ⟨v0, v1, v2, v3, y0, y1, y2, y3, m, rfl, rfl, rfl, h0, h1, h2, h3⟩ := open_agg4 Try.underlying24 (by kernel_rfl) (show Try.prog.cellsOf 24 = 4 by kernel_rfl) hv h
  obtain ⟨A, ca, s, rfl, hs, hca, ls⟩ := open_bytes h0
  obtain ⟨B, cb, t, rfl, ht, hcb, lt⟩ := open_bytes h1
  obtain ⟨n, e2, _, w2⟩ := DataW.trod_int Try.underlying3 h2
  obtain ⟨b, e3, _⟩ := DataW.trod_bool Try.underlying4 h3
  simp at e2 e3
  subst e2 e3
  have hb : -9223372036854775808 ≤ n ∧ n ≤ 9223372036854775807 := by simpa [Lit.wf, IntKind.min, IntKind.max, IntKind.signed, IntKind.bits] using w2
  exact ⟨A, B, ca, cb, s, t, n, b, rfl, hs, ht, hca, hcb, ls, lt, hb.1, hb.2⟩
end Go.Proofs.Ytakgglpfgpkboaa

/- An argument that is a log, opened. Own work. -/
namespace Go.Proofs.Ytakgglpfgpkboaa
open Go.ChangeShapes Go.WideShapes Go.ChangeAt Go.RowKit Go.Joins Go.Deep

set_option maxRecDepth 100000 in
theorem open_devcells {H : Type} {enc : TypeId × Value → H} {w : World} {base : Nat} {spare : Nat → Bool} {held : Bool} {fuel : Nat} {v0 v1 v2 v3 : Value} {y : DataW H × List MemPlace}
    (h : DataW.trod enc Try.prog w base spare held fuel 24 [v0, v1, v2, v3] = some y) :
    ∃ (A B : Option Addr) (ca cb : Nat) (s t : List UInt8) (cap : Int) (dn : Bool), v0 = .slice A s.length ca ∧ v1 = .slice B t.length cb ∧ v2 = .int .i64 cap ∧ v3 = .bool dn ∧ RB w 0 A s ∧ RB w 0 B t ∧ s.length ≤ ca ∧ t.length ≤ cb ∧
      s.length ≤ 9223372036854775807 ∧ t.length ≤ 9223372036854775807 ∧ -9223372036854775808 ≤ cap ∧ cap ≤ 9223372036854775807 := by
  obtain ⟨xs, n, _, _, _, hlen, hg⟩ := DataW.trod_struct Try.underlying24 h
  match xs, hlen with
  | [y0, y1, y2, y3], _ =>
    have g0 : DataW.trod enc Try.prog w base spare held n 22 (List.take (Try.prog.cellsOf 22) (List.drop 0 [v0, v1, v2, v3])) = [y0, y1, y2, y3][0]? := hg 0 _ rfl
    have g1 : DataW.trod enc Try.prog w base spare held n 22 (List.take (Try.prog.cellsOf 22) (List.drop 1 [v0, v1, v2, v3])) = [y0, y1, y2, y3][1]? := hg 1 _ rfl
    have g2 : DataW.trod enc Try.prog w base spare held n 3 (List.take (Try.prog.cellsOf 3) (List.drop 2 [v0, v1, v2, v3])) = [y0, y1, y2, y3][2]? := hg 2 _ rfl
    have g3 : DataW.trod enc Try.prog w base spare held n 4 (List.take (Try.prog.cellsOf 4) (List.drop 3 [v0, v1, v2, v3])) = [y0, y1, y2, y3][3]? := hg 3 _ rfl
    rw [show Try.prog.cellsOf 22 = 1 by kernel_rfl] at g0 g1
    rw [show Try.prog.cellsOf 3 = 1 by kernel_rfl] at g2
    rw [show Try.prog.cellsOf 4 = 1 by kernel_rfl] at g3
    simp only [List.drop_zero, List.drop_succ_cons, List.take_succ_cons, List.take_zero, List.getElem?_cons_zero, List.getElem?_cons_succ] at g0 g1 g2 g3
    obtain ⟨A, ca, s, rfl, hs, hca, ls⟩ := open_bytes g0
    obtain ⟨B, cb, t, rfl, ht, hcb, lt⟩ := open_bytes g1
    obtain ⟨m, e2, _, w2⟩ := DataW.trod_int Try.underlying3 g2
    obtain ⟨b, e3, _⟩ := DataW.trod_bool Try.underlying4 g3
    simp at e2 e3
    subst e2 e3
    have hb : -9223372036854775808 ≤ m ∧ m ≤ 9223372036854775807 := by simpa [Lit.wf, IntKind.min, IntKind.max, IntKind.signed, IntKind.bits] using w2
    exact ⟨A, B, ca, cb, s, t, m, b, rfl, rfl, rfl, rfl, hs, ht, hca, hcb, ls, lt, hb.1, hb.2⟩

end Go.Proofs.Ytakgglpfgpkboaa
