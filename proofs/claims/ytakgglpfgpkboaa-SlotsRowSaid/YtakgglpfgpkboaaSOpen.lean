/- An argument that is slots, opened. Own work. -/
import Derived.Test.YtakgglpfgpkboaaGO
import Derived.Test.YtakgglpfgpkboaaSMem
set_option linter.unusedVariables false
namespace Go.Proofs.Ytakgglpfgpkboaa
open Go.ChangeShapes Go.WideShapes Go.ChangeAt Go.RowKit Go.Joins Go.Deep
open Slots (Sl)

set_option maxRecDepth 100000 in
theorem open_devcells' {H : Type} {enc : TypeId × Value → H} {w : World} {base : Nat} {spare : Nat → Bool} {held : Bool} {fuel : Nat} {v0 v1 v2 v3 : Value} {y : DataW H × List MemPlace}
    (h : DataW.trod enc Try.prog w base spare held fuel 24 [v0, v1, v2, v3] = some y) :
    ∃ (A B : Option Addr) (ca cb : Nat) (s t : List UInt8) (cap : Int) (dn : Bool), v0 = .slice A s.length ca ∧ v1 = .slice B t.length cb ∧ v2 = .int .i64 cap ∧ v3 = .bool dn ∧ RB w 0 A s ∧ RB w 0 B t ∧ s.length ≤ ca ∧ t.length ≤ cb ∧
      s.length ≤ 9223372036854775807 ∧ t.length ≤ 9223372036854775807 ∧ -9223372036854775808 ≤ cap ∧ cap ≤ 9223372036854775807 := by
  obtain ⟨xs, n, _, _, _, hlen, hg⟩ := DataW.trod_struct Try.underlying24 h
  match xs, hlen with
  | [y0, y1, y2, y3], _ =>
    have g0 : DataW.trod enc Try.prog w base spare held n 22 (List.take (Try.prog.cellsOf 22) (List.drop 0 [v0, v1, v2, v3])) = [y0, y1, y2, y3][0]? := hg 0 _ rfl
    have g1 : DataW.trod enc Try.prog w base spare held n 22 (List.take (Try.prog.cellsOf 22) (List.drop 1 [v0, v1, v2, v3])) = [y0, y1, y2, y3][1]? := hg 1 _ rfl
    have g2 : DataW.trod enc Try.prog w base spare held n 3 (List.take (Try.prog.cellsOf 3) (List.drop 2 [v0, v1, v2, v3])) = [y0, y1, y2, y3][2]? := hg 2 _ rfl
    have g3 : DataW.trod enc Try.prog w base spare held n 4 (List.take (Try.prog.cellsOf 4) (List.drop 3 [v0, v1, v2, v3])) = [y0, y1, y2, y3][3]? := hg 3 _ rfl
    rw [show Try.prog.cellsOf 22 = 1 by kernel_rfl] at g0 g1
    rw [show Try.prog.cellsOf 3 = 1 by kernel_rfl] at g2
    rw [show Try.prog.cellsOf 4 = 1 by kernel_rfl] at g3
    simp only [List.drop_zero, List.drop_succ_cons, List.take_succ_cons, List.take_zero, List.getElem?_cons_zero, List.getElem?_cons_succ] at g0 g1 g2 g3
    obtain ⟨A, ca, s, rfl, hs, hca, ls⟩ := open_bytes g0
    obtain ⟨B, cb, t, rfl, ht, hcb, lt⟩ := open_bytes g1
    obtain ⟨m, e2, _, w2⟩ := DataW.trod_int Try.underlying3 g2
    obtain ⟨b, e3, _⟩ := DataW.trod_bool Try.underlying4 g3
    simp at e2 e3
    subst e2 e3
    have hb : -9223372036854775808 ≤ m ∧ m ≤ 9223372036854775807 := by simpa [Lit.wf, IntKind.min, IntKind.max, IntKind.signed, IntKind.bits] using w2
    exact ⟨A, B, ca, cb, s, t, m, b, rfl, rfl, rfl, rfl, hs, ht, hca, hcb, ls, lt, hb.1, hb.2⟩

/-- Slots that came in. -/
structure SlA (w : World) (m : AM) (r : Sl) : Prop where
  a : RB w 0 m.A r.a.s
  b : RB w 0 m.B r.a.t
  c : RB w 0 m.C r.b.s
  d : RB w 0 m.D r.b.t
  la : r.a.s.length ≤ m.ca
  lb : r.a.t.length ≤ m.cb
  lc : r.b.s.length ≤ m.cc
  ld : r.b.t.length ≤ m.cd

set_option maxRecDepth 100000 in
theorem open_slots {H : Type} {enc : TypeId × Value → H} {w : World} {r : Reach} {b0 base : Nat} {spare : Nat → Bool} {held : Bool} {v : Value} {d : DataW H} {p : List MemPlace}
    (hv : Value.okWide Try.prog w r b0 27 v) (h : DataW.Trod enc Try.prog w base spare held 27 v d p) :
    ∃ (m : AM) (s : Sl), v = .agg #[.slice m.A s.a.s.length m.ca, .slice m.B s.a.t.length m.cb, .int .i64 s.a.cap, .bool s.a.down, .slice m.C s.b.s.length m.cc, .slice m.D s.b.t.length m.cd, .int .i64 s.b.cap, .bool s.b.down, .int .i64 s.n] ∧ SlA w m s := by
  obtain ⟨cs, rfl, hsz, _⟩ : ∃ cs, v = .agg cs ∧ cs.size = Try.prog.cellsOf 27 ∧ Row.okWide Try.prog w r b0 27 cs := by
    simpa [Value.okWide, Try.underlying27] using hv
  rw [show Try.prog.cellsOf 27 = 9 by kernel_rfl] at hsz
  obtain ⟨l⟩ := cs
  match l, hsz with
  | [v0, v1, v2, v3, v4, v5, v6, v7, v8], _ =>
    obtain ⟨fuel, hf⟩ := h
    replace hf : DataW.trod enc Try.prog w base spare held fuel 27 [v0, v1, v2, v3, v4, v5, v6, v7, v8] = some (d, p) := hf
    obtain ⟨xs, n, _, _, _, hlen, hg⟩ := DataW.trod_struct Try.underlying27 hf
    match xs, hlen with
    | [y0, y1], _ =>
      have g0 : DataW.trod enc Try.prog w base spare held n 25 (List.take (Try.prog.cellsOf 25) (List.drop 0 [v0, v1, v2, v3, v4, v5, v6, v7, v8])) = [y0, y1][0]? := hg 0 _ rfl
      have g1 : DataW.trod enc Try.prog w base spare held n 3 (List.take (Try.prog.cellsOf 3) (List.drop 8 [v0, v1, v2, v3, v4, v5, v6, v7, v8])) = [y0, y1][1]? := hg 1 _ rfl
      rw [show Try.prog.cellsOf 25 = 8 by kernel_rfl] at g0
      rw [show Try.prog.cellsOf 3 = 1 by kernel_rfl] at g1
      simp only [List.drop_zero, List.drop_succ_cons, List.take_succ_cons, List.take_zero, List.getElem?_cons_zero, List.getElem?_cons_succ] at g0 g1
      obtain ⟨zs, k, _, _, _, zlen, hz⟩ := DataW.trod_array Try.underlying25 g0
      match zs, zlen with
      | [z0, z1], _ =>
        have f0 := hz 0 (by decide)
        have f1 := hz 1 (by decide)
        rw [show Try.prog.cellsOf 24 = 4 by kernel_rfl] at f0 f1
        simp only [Nat.zero_mul, Nat.one_mul, List.drop_zero, List.drop_succ_cons, List.take_succ_cons, List.take_zero, List.getElem?_cons_zero, List.getElem?_cons_succ] at f0 f1
        obtain ⟨A, B, ca, cb, s, t, cap, dn, rfl, rfl, rfl, rfl, hs, ht, hca, hcb, _⟩ := open_devcells' f0
        obtain ⟨C, D, cc, cd, p, q, cep, dm, rfl, rfl, rfl, rfl, hp, hq, hcc, hcd, _⟩ := open_devcells' f1
        obtain ⟨nx, e1, _, w1⟩ := DataW.trod_int Try.underlying3 g1
        simp at e1
        subst e1
        exact ⟨⟨A, B, C, D, ca, cb, cc, cd⟩, ⟨⟨s, t, cap, dn⟩, ⟨p, q, cep, dm⟩, nx⟩, rfl, ⟨hs, ht, hp, hq, hca, hcb, hcc, hcd⟩⟩
end Go.Proofs.Ytakgglpfgpkboaa
