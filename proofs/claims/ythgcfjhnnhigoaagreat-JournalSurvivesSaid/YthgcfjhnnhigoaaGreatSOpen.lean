/- An argument that is slots, opened. Own work. -/
import Derived.Test.YthgcfjhnnhigoaaGreatGO
import Derived.Test.YthgcfjhnnhigoaaGreatGT
set_option linter.unusedVariables false
namespace Go.Proofs.YthgcfjhnnhigoaaGreat
open Go.ChangeShapes Go.WideShapes Go.ChangeAt Go.RowKit Go.Joins Go.Deep
open Slots (Sl)

set_option maxRecDepth 100000 in
theorem open_devcells' {H : Type} {enc : TypeId × Value → H} {w : World} {base : Nat} {spare : Nat → Bool} {held : Bool} {fuel : Nat} {v0 v1 v2 v3 : Value} {y : DataW H × List MemPlace}
    (h : DataW.trod enc Tryz.prog w base spare held fuel 24 [v0, v1, v2, v3] = some y) :
    ∃ (A B : Option Addr) (ca cb : Nat) (s t : List UInt8) (cap : Int) (dn : Bool), v0 = .slice A s.length ca ∧ v1 = .slice B t.length cb ∧ v2 = .int .i64 cap ∧ v3 = .bool dn ∧ RB w 0 A s ∧ RB w 0 B t ∧ s.length ≤ ca ∧ t.length ≤ cb ∧
      s.length ≤ 9223372036854775807 ∧ t.length ≤ 9223372036854775807 ∧ -9223372036854775808 ≤ cap ∧ cap ≤ 9223372036854775807 := by
  obtain ⟨xs, n, _, _, _, hlen, hg⟩ := DataW.trod_struct Tryz.underlying24 h
  match xs, hlen with
  | [y0, y1, y2, y3], _ =>
    have g0 : DataW.trod enc Tryz.prog w base spare held n 22 (List.take (Tryz.prog.cellsOf 22) (List.drop 0 [v0, v1, v2, v3])) = [y0, y1, y2, y3][0]? := hg 0 _ rfl
    have g1 : DataW.trod enc Tryz.prog w base spare held n 22 (List.take (Tryz.prog.cellsOf 22) (List.drop 1 [v0, v1, v2, v3])) = [y0, y1, y2, y3][1]? := hg 1 _ rfl
    have g2 : DataW.trod enc Tryz.prog w base spare held n 3 (List.take (Tryz.prog.cellsOf 3) (List.drop 2 [v0, v1, v2, v3])) = [y0, y1, y2, y3][2]? := hg 2 _ rfl
    have g3 : DataW.trod enc Tryz.prog w base spare held n 4 (List.take (Tryz.prog.cellsOf 4) (List.drop 3 [v0, v1, v2, v3])) = [y0, y1, y2, y3][3]? := hg 3 _ rfl
    rw [show Tryz.prog.cellsOf 22 = 1 by kernel_rfl] at g0 g1
    rw [show Tryz.prog.cellsOf 3 = 1 by kernel_rfl] at g2
    rw [show Tryz.prog.cellsOf 4 = 1 by kernel_rfl] at g3
    simp only [List.drop_zero, List.drop_succ_cons, List.take_succ_cons, List.take_zero, List.getElem?_cons_zero, List.getElem?_cons_succ] at g0 g1 g2 g3
    obtain ⟨A, ca, s, rfl, hs, hca, ls⟩ := open_bytes g0
    obtain ⟨B, cb, t, rfl, ht, hcb, lt⟩ := open_bytes g1
    obtain ⟨m, e2, _, w2⟩ := DataW.trod_int Tryz.underlying3 g2
    obtain ⟨b, e3, _⟩ := DataW.trod_bool Tryz.underlying4 g3
    simp at e2 e3
    subst e2 e3
    have hb : -9223372036854775808 ≤ m ∧ m ≤ 9223372036854775807 := by simpa [Lit.wf, IntKind.min, IntKind.max, IntKind.signed, IntKind.bits] using w2
    exact ⟨A, B, ca, cb, s, t, m, b, rfl, rfl, rfl, rfl, hs, ht, hca, hcb, ls, lt, hb.1, hb.2⟩

/-- Slots that came in. -/
structure SlA (w : World) (m : AM) (r : Sl) : Prop where
  a : RB w 0 m.A r.a.s
  b : RB w 0 m.B r.a.t
  c : RB w 0 m.C r.b.s
  d : RB w 0 m.D r.b.t
  la : r.a.s.length ≤ m.ca
  lb : r.a.t.length ≤ m.cb
  lc : r.b.s.length ≤ m.cc
  ld : r.b.t.length ≤ m.cd

end Go.Proofs.YthgcfjhnnhigoaaGreat
