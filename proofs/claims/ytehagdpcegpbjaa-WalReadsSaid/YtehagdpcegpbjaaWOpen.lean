/- An argument that is a log, opened. Own work. -/
import Derived.Test.YtehagdpcegpbjaaOpen
import Derived.Test.YtehagdpcegpbjaaOpenB
import Derived.Deep.Slices
import Derived.Deep.Fields
set_option linter.unusedVariables false
namespace Go.Proofs.Ytehagdpcegpbjaa
open Go.ChangeShapes Go.WideShapes Go.ChangeAt Go.RowKit Go.Joins Go.Deep

set_option maxRecDepth 100000 in
theorem open_devcells {H : Type} {enc : TypeId × Value → H} {w : World} {base : Nat} {spare : Nat → Bool} {held : Bool} {fuel : Nat} {v0 v1 v2 v3 : Value} {y : DataW H × List MemPlace}
    (h : DataW.trod enc Try.prog w base spare held fuel 24 [v0, v1, v2, v3] = some y) :
    ∃ (A B : Option Addr) (ca cb : Nat) (s t : List UInt8) (cap : Int) (dn : Bool), v0 = .slice A s.length ca ∧ v1 = .slice B t.length cb ∧ v2 = .int .i64 cap ∧ v3 = .bool dn ∧ RB w 0 A s ∧ RB w 0 B t ∧ s.length ≤ ca ∧ t.length ≤ cb ∧
      s.length ≤ 9223372036854775807 ∧ t.length ≤ 9223372036854775807 ∧ -9223372036854775808 ≤ cap ∧ cap ≤ 9223372036854775807 := by
  obtain ⟨xs, n, _, _, _, hlen, hg⟩ := DataW.trod_struct Try.underlying24 h
  match xs, hlen with
  | [y0, y1, y2, y3], _ =>
    have g0 : DataW.trod enc Try.prog w base spare held n 22 (List.take (Try.prog.cellsOf 22) (List.drop 0 [v0, v1, v2, v3])) = [y0, y1, y2, y3][0]? := hg 0 _ rfl
    have g1 : DataW.trod enc Try.prog w base spare held n 22 (List.take (Try.prog.cellsOf 22) (List.drop 1 [v0, v1, v2, v3])) = [y0, y1, y2, y3][1]? := hg 1 _ rfl
    have g2 : DataW.trod enc Try.prog w base spare held n 3 (List.take (Try.prog.cellsOf 3) (List.drop 2 [v0, v1, v2, v3])) = [y0, y1, y2, y3][2]? := hg 2 _ rfl
    have g3 : DataW.trod enc Try.prog w base spare held n 4 (List.take (Try.prog.cellsOf 4) (List.drop 3 [v0, v1, v2, v3])) = [y0, y1, y2, y3][3]? := hg 3 _ rfl
    rw [show Try.prog.cellsOf 22 = 1 by kernel_rfl] at g0 g1
    rw [show Try.prog.cellsOf 3 = 1 by kernel_rfl] at g2
    rw [show Try.prog.cellsOf 4 = 1 by kernel_rfl] at g3
    simp only [List.drop_zero, List.drop_succ_cons, List.take_succ_cons, List.take_zero, List.getElem?_cons_zero, List.getElem?_cons_succ] at g0 g1 g2 g3
    obtain ⟨A, ca, s, rfl, hs, hca, ls⟩ := open_bytes g0
    obtain ⟨B, cb, t, rfl, ht, hcb, lt⟩ := open_bytes g1
    obtain ⟨m, e2, _, w2⟩ := DataW.trod_int Try.underlying3 g2
    obtain ⟨b, e3, _⟩ := DataW.trod_bool Try.underlying4 g3
    simp at e2 e3
    subst e2 e3
    have hb : -9223372036854775808 ≤ m ∧ m ≤ 9223372036854775807 := by simpa [Lit.wf, IntKind.min, IntKind.max, IntKind.signed, IntKind.bits] using w2
    exact ⟨A, B, ca, cb, s, t, m, b, rfl, rfl, rfl, rfl, hs, ht, hca, hcb, ls, lt, hb.1, hb.2⟩

set_option maxRecDepth 100000 in
theorem open_log {H : Type} {enc : TypeId × Value → H} {w : World} {r : Reach} {b0 base : Nat} {spare : Nat → Bool} {held : Bool} {v : Value} {d : DataW H} {p : List MemPlace}
    (hv : Value.okWide Try.prog w r b0 26 v) (h : DataW.Trod enc Try.prog w base spare held 26 v d p) :
    ∃ (A B : Option Addr) (ca cb : Nat) (s t : List UInt8) (cap : Int) (dn : Bool) (f n : Int), v = .agg #[.slice A s.length ca, .slice B t.length cb, .int .i64 cap, .bool dn, .int .i64 f, .int .i64 n] ∧ RB w 0 A s ∧ RB w 0 B t ∧ s.length ≤ ca ∧ t.length ≤ cb ∧
      s.length ≤ 9223372036854775807 ∧ t.length ≤ 9223372036854775807 ∧ -9223372036854775808 ≤ f ∧ f ≤ 9223372036854775807 ∧ -9223372036854775808 ≤ n ∧ n ≤ 9223372036854775807 := by
  obtain ⟨cs, rfl, hsz, _⟩ : ∃ cs, v = .agg cs ∧ cs.size = Try.prog.cellsOf 26 ∧ Row.okWide Try.prog w r b0 26 cs := by
    simpa [Value.okWide, Try.underlying26] using hv
  rw [show Try.prog.cellsOf 26 = 6 by kernel_rfl] at hsz
  obtain ⟨l⟩ := cs
  match l, hsz with
  | [v0, v1, v2, v3, v4, v5], _ =>
    obtain ⟨fuel, hf⟩ := h
    replace hf : DataW.trod enc Try.prog w base spare held fuel 26 [v0, v1, v2, v3, v4, v5] = some (d, p) := hf
    obtain ⟨xs, n, _, _, _, hlen, hg⟩ := DataW.trod_struct Try.underlying26 hf
    match xs, hlen with
    | [y0, y1, y2], _ =>
      have g0 : DataW.trod enc Try.prog w base spare held n 24 (List.take (Try.prog.cellsOf 24) (List.drop 0 [v0, v1, v2, v3, v4, v5])) = [y0, y1, y2][0]? := hg 0 _ rfl
      have g1 : DataW.trod enc Try.prog w base spare held n 3 (List.take (Try.prog.cellsOf 3) (List.drop 4 [v0, v1, v2, v3, v4, v5])) = [y0, y1, y2][1]? := hg 1 _ rfl
      have g2 : DataW.trod enc Try.prog w base spare held n 3 (List.take (Try.prog.cellsOf 3) (List.drop 5 [v0, v1, v2, v3, v4, v5])) = [y0, y1, y2][2]? := hg 2 _ rfl
      rw [show Try.prog.cellsOf 24 = 4 by kernel_rfl] at g0
      rw [show Try.prog.cellsOf 3 = 1 by kernel_rfl] at g1 g2
      simp only [List.drop_zero, List.drop_succ_cons, List.take_succ_cons, List.take_zero, List.getElem?_cons_zero, List.getElem?_cons_succ] at g0 g1 g2
      obtain ⟨A, B, ca, cb, s, t, cap, dn, rfl, rfl, rfl, rfl, hs, ht, hca, hcb, ls, lt, _, _⟩ := open_devcells g0
      obtain ⟨f, e1, _, w1⟩ := DataW.trod_int Try.underlying3 g1
      obtain ⟨m, e2, _, w2⟩ := DataW.trod_int Try.underlying3 g2
      simp at e1 e2
      subst e1 e2
      have hb1 : -9223372036854775808 ≤ f ∧ f ≤ 9223372036854775807 := by simpa [Lit.wf, IntKind.min, IntKind.max, IntKind.signed, IntKind.bits] using w1
      have hb2 : -9223372036854775808 ≤ m ∧ m ≤ 9223372036854775807 := by simpa [Lit.wf, IntKind.min, IntKind.max, IntKind.signed, IntKind.bits] using w2
      exact ⟨A, B, ca, cb, s, t, cap, dn, f, m, rfl, hs, ht, hca, hcb, ls, lt, hb1.1, hb1.2, hb2.1, hb2.2⟩
end Go.Proofs.Ytehagdpcegpbjaa
