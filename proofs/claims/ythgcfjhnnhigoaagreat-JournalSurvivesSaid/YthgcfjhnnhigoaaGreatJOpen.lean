/- Arguments that are journals, operations and states, opened. Own work. -/
import Derived.Test.YthgcfjhnnhigoaaGreatSOpen
import Derived.Test.YthgcfjhnnhigoaaGreatGT
import Derived.Deep.Slices
import Derived.Deep.Fields
set_option linter.unusedVariables false
set_option linter.unusedSimpArgs false
namespace Go.Proofs.YthgcfjhnnhigoaaGreat
open Go.ChangeShapes Go.WideShapes Go.ChangeAt Go.RowKit Go.Joins Go.Deep
open Slots (Sl)

instance : Inhabited Jour.Move := ⟨⟨0, 0⟩⟩
def InI (n : Int) : Prop := -9223372036854775808 ≤ n ∧ n ≤ 9223372036854775807
section
variable {H : Type} {enc : TypeId × Value → H} {w : World} {base : Nat} {spare : Nat → Bool} {held : Bool} {fuel : Nat} {y : DataW H × List MemPlace}
theorem open_int1 {v : Value} (h : DataW.trod enc Tryz.prog w base spare held fuel 3 [v] = some y) : ∃ n : Int, v = .int .i64 n ∧ InI n := by
  obtain ⟨m, e0, _, w2⟩ := DataW.trod_int Tryz.underlying3 h
  have e1 : v = .int .i64 m := by simpa using e0
  exact ⟨m, e1, by simpa [InI, Lit.wf, IntKind.min, IntKind.max, IntKind.signed, IntKind.bits] using w2⟩
set_option maxRecDepth 100000 in
theorem open_mvcells {v0 v1 : Value} (h : DataW.trod enc Tryz.prog w base spare held fuel 34 [v0, v1] = some y) :
    ∃ m : Jour.Move, v0 = .int .i64 m.cell ∧ v1 = .int .i64 m.add ∧ InI m.cell ∧ InI m.add := by
  obtain ⟨xs, n, _, _, _, hlen, hg⟩ := DataW.trod_struct Tryz.underlying34 h
  match xs, hlen with
  | [y0, y1], _ =>
    have g0 : DataW.trod enc Tryz.prog w base spare held n 3 (List.take (Tryz.prog.cellsOf 3) (List.drop 0 [v0, v1])) = [y0, y1][0]? := hg 0 _ rfl
    have g1 : DataW.trod enc Tryz.prog w base spare held n 3 (List.take (Tryz.prog.cellsOf 3) (List.drop 1 [v0, v1])) = [y0, y1][1]? := hg 1 _ rfl
    rw [show Tryz.prog.cellsOf 3 = 1 by kernel_rfl] at g0 g1
    simp only [List.drop_zero, List.drop_succ_cons, List.take_succ_cons, List.take_zero, List.getElem?_cons_zero, List.getElem?_cons_succ] at g0 g1
    obtain ⟨a, rfl, ha⟩ := open_int1 g0
    obtain ⟨b, rfl, hb⟩ := open_int1 g1
    exact ⟨⟨a, b⟩, rfl, rfl, ha, hb⟩
/-- A list of operations that came in. -/
theorem open_moves {v : Value} (h : DataW.trod enc Tryz.prog w base spare held fuel 35 [v] = some y) :
    ∃ (A : Option Addr) (c : Nat) (ms : List Jour.Move), v = .slice A ms.length c ∧ Mvs w 0 A ms ∧ (∀ m ∈ ms, InI m.cell ∧ InI m.add) ∧ ms.length ≤ c ∧ ms.length ≤ 9223372036854775807 := by
  rcases open_slice Tryz.underlying35 h with ⟨hcs, _⟩ | ⟨a, len, cap, m, n, D, Pl, hcs, _, hl, hm, hmm, _, hi⟩
  · obtain rfl : v = .slice none 0 0 := by simpa using hcs
    exact ⟨none, 0, [], rfl, Mvs.nil, by simp, by simp, by simp⟩
  · obtain rfl : v = .slice (some a) len cap := by simpa using hcs
    have hlm : len ≤ m := by rw [hmm]; split <;> omega
    rw [show Tryz.prog.cellsOf 34 = 2 by kernel_rfl] at hi
    obtain ⟨V, hV⟩ := choose_lt (α := Jour.Move) (n := len) (p := fun i o => w.cell? (a.add (i * 2)) = some (.int .i64 o.cell) ∧ w.cell? (a.add (i * 2 + 1)) = some (.int .i64 o.add) ∧ InI o.cell ∧ InI o.add) (fun i hlt => by
      obtain ⟨cs, h1, h2⟩ := hi i (by omega)
      obtain ⟨_, hcl, hat⟩ := World.cells?_some h1
      match cs, hcl with
      | [v0, v1], _ =>
        have c0 : w.cell? ((a.add (i * 2)).add 0) = some v0 := hat 0 (by omega)
        have c1 : w.cell? ((a.add (i * 2)).add 1) = some v1 := hat 1 (by omega)
        obtain ⟨x, rfl, rfl, hx⟩ := open_mvcells h2
        rw [addr_add_add] at c1
        exact ⟨x, c0, c1, hx⟩)
    unfold maxLen at hm
    have hlen : ((List.range len).map V).length = len := by simp
    refine ⟨some a, cap, (List.range len).map V, by rw [hlen], fun _ => ⟨a, rfl, Nat.zero_le _, fun i hi => ?_⟩, ?_, by rw [hlen]; exact hl, by rw [hlen]; omega⟩
    · have hi' : i < len := by simpa using hi
      simp only [List.getElem_map, List.getElem_range]
      exact ⟨(hV i hi').1, (hV i hi').2.1⟩
    · intro x hx
      obtain ⟨i, hi, rfl⟩ := List.mem_map.1 hx
      exact (hV i (List.mem_range.1 hi)).2.2
set_option maxRecDepth 100000 in
theorem open_eight {v0 v1 v2 v3 v4 v5 v6 v7 : Value} (h : DataW.trod enc Tryz.prog w base spare held fuel 30 [v0, v1, v2, v3, v4, v5, v6, v7] = some y) :
    ∃ c : List Int, c.length = 8 ∧ v0 = .int .i64 (cx c 0) ∧ v1 = .int .i64 (cx c 1) ∧ v2 = .int .i64 (cx c 2) ∧ v3 = .int .i64 (cx c 3) ∧ v4 = .int .i64 (cx c 4) ∧ v5 = .int .i64 (cx c 5) ∧ v6 = .int .i64 (cx c 6) ∧ v7 = .int .i64 (cx c 7) := by
  obtain ⟨zs, k, _, _, _, zlen, hz⟩ := DataW.trod_array Tryz.underlying30 h
  match zs, zlen with
  | [z0, z1, z2, z3, z4, z5, z6, z7], _ =>
    have f0 := hz 0 (by decide)
    have f1 := hz 1 (by decide)
    have f2 := hz 2 (by decide)
    have f3 := hz 3 (by decide)
    have f4 := hz 4 (by decide)
    have f5 := hz 5 (by decide)
    have f6 := hz 6 (by decide)
    have f7 := hz 7 (by decide)
    rw [show Tryz.prog.cellsOf 3 = 1 by kernel_rfl] at f0 f1 f2 f3 f4 f5 f6 f7
    simp only [Nat.zero_mul, Nat.one_mul, Nat.mul_one, List.drop_zero, List.drop_succ_cons, List.take_succ_cons, List.take_zero, List.getElem?_cons_zero, List.getElem?_cons_succ] at f0 f1 f2 f3 f4 f5 f6 f7
    obtain ⟨a0, rfl, _⟩ := open_int1 f0
    obtain ⟨a1, rfl, _⟩ := open_int1 f1
    obtain ⟨a2, rfl, _⟩ := open_int1 f2
    obtain ⟨a3, rfl, _⟩ := open_int1 f3
    obtain ⟨a4, rfl, _⟩ := open_int1 f4
    obtain ⟨a5, rfl, _⟩ := open_int1 f5
    obtain ⟨a6, rfl, _⟩ := open_int1 f6
    obtain ⟨a7, rfl, _⟩ := open_int1 f7
    exact ⟨[a0, a1, a2, a3, a4, a5, a6, a7], rfl, rfl, rfl, rfl, rfl, rfl, rfl, rfl, rfl⟩
set_option maxRecDepth 100000 in
theorem open_slcells {v0 v1 v2 v3 v4 v5 v6 v7 v8 : Value} (hf : DataW.trod enc Tryz.prog w base spare held fuel 27 [v0, v1, v2, v3, v4, v5, v6, v7, v8] = some y) :
    ∃ (m : AM) (s : Sl), [v0, v1, v2, v3, v4, v5, v6, v7, v8] = [.slice m.A s.a.s.length m.ca, .slice m.B s.a.t.length m.cb, .int .i64 s.a.cap, .bool s.a.down, .slice m.C s.b.s.length m.cc, .slice m.D s.b.t.length m.cd, .int .i64 s.b.cap, .bool s.b.down, .int .i64 s.n] ∧ SlA w m s := by
  obtain ⟨xs, n, _, _, _, hlen, hg⟩ := DataW.trod_struct Tryz.underlying27 hf
  match xs, hlen with
  | [y0, y1], _ =>
    have g0 : DataW.trod enc Tryz.prog w base spare held n 25 (List.take (Tryz.prog.cellsOf 25) (List.drop 0 [v0, v1, v2, v3, v4, v5, v6, v7, v8])) = [y0, y1][0]? := hg 0 _ rfl
    have g1 : DataW.trod enc Tryz.prog w base spare held n 3 (List.take (Tryz.prog.cellsOf 3) (List.drop 8 [v0, v1, v2, v3, v4, v5, v6, v7, v8])) = [y0, y1][1]? := hg 1 _ rfl
    rw [show Tryz.prog.cellsOf 25 = 8 by kernel_rfl] at g0
    rw [show Tryz.prog.cellsOf 3 = 1 by kernel_rfl] at g1
    simp only [List.drop_zero, List.drop_succ_cons, List.take_succ_cons, List.take_zero, List.getElem?_cons_zero, List.getElem?_cons_succ] at g0 g1
    obtain ⟨zs, k, _, _, _, zlen, hz⟩ := DataW.trod_array Tryz.underlying25 g0
    match zs, zlen with
    | [z0, z1], _ =>
      have f0 := hz 0 (by decide)
      have f1 := hz 1 (by decide)
      rw [show Tryz.prog.cellsOf 24 = 4 by kernel_rfl] at f0 f1
      simp only [Nat.zero_mul, Nat.one_mul, List.drop_zero, List.drop_succ_cons, List.take_succ_cons, List.take_zero, List.getElem?_cons_zero, List.getElem?_cons_succ] at f0 f1
      obtain ⟨A, B, ca, cb, s, t, cap, dn, rfl, rfl, rfl, rfl, hs, ht, hca, hcb, _⟩ := open_devcells' f0
      obtain ⟨C, D, cc, cd, p, q, cep, dm, rfl, rfl, rfl, rfl, hp, hq, hcc, hcd, _⟩ := open_devcells' f1
      obtain ⟨nx, rfl, _⟩ := open_int1 g1
      exact ⟨⟨A, B, C, D, ca, cb, cc, cd⟩, ⟨⟨s, t, cap, dn⟩, ⟨p, q, cep, dm⟩, nx⟩, rfl, ⟨hs, ht, hp, hq, hca, hcb, hcc, hcd⟩⟩
/-- A log that came in. -/
structure LgA (w : World) (A B : Option Addr) (ca cb : Nat) (d : Disk.Dev) : Prop where
  p : RB w 0 A d.s
  q : RB w 0 B d.t
  lp : d.s.length ≤ ca
  lq : d.t.length ≤ cb
  np : d.s.length ≤ 9223372036854775807
  nq : d.t.length ≤ 9223372036854775807
set_option maxRecDepth 100000 in
theorem open_lgcells {v0 v1 v2 v3 v4 v5 : Value} (hf : DataW.trod enc Tryz.prog w base spare held fuel 29 [v0, v1, v2, v3, v4, v5] = some y) :
    ∃ (A B : Option Addr) (ca cb : Nat) (l : Wal.Log), [v0, v1, v2, v3, v4, v5] = [.slice A l.dev.s.length ca, .slice B l.dev.t.length cb, .int .i64 l.dev.cap, .bool l.dev.down, .int .i64 l.first, .int .i64 l.next] ∧ LgA w A B ca cb l.dev := by
  obtain ⟨xs, n, _, _, _, hlen, hg⟩ := DataW.trod_struct Tryz.underlying29 hf
  match xs, hlen with
  | [y0, y1, y2], _ =>
    have g0 : DataW.trod enc Tryz.prog w base spare held n 24 (List.take (Tryz.prog.cellsOf 24) (List.drop 0 [v0, v1, v2, v3, v4, v5])) = [y0, y1, y2][0]? := hg 0 _ rfl
    have g1 : DataW.trod enc Tryz.prog w base spare held n 3 (List.take (Tryz.prog.cellsOf 3) (List.drop 4 [v0, v1, v2, v3, v4, v5])) = [y0, y1, y2][1]? := hg 1 _ rfl
    have g2 : DataW.trod enc Tryz.prog w base spare held n 3 (List.take (Tryz.prog.cellsOf 3) (List.drop 5 [v0, v1, v2, v3, v4, v5])) = [y0, y1, y2][2]? := hg 2 _ rfl
    rw [show Tryz.prog.cellsOf 24 = 4 by kernel_rfl] at g0
    rw [show Tryz.prog.cellsOf 3 = 1 by kernel_rfl] at g1 g2
    simp only [List.drop_zero, List.drop_succ_cons, List.take_succ_cons, List.take_zero, List.getElem?_cons_zero, List.getElem?_cons_succ] at g0 g1 g2
    obtain ⟨A, B, ca, cb, s, t, cap, dn, rfl, rfl, rfl, rfl, hs, ht, hca, hcb, ls, lt, _⟩ := open_devcells' g0
    obtain ⟨f, rfl, _⟩ := open_int1 g1
    obtain ⟨nx, rfl, _⟩ := open_int1 g2
    exact ⟨A, B, ca, cb, ⟨⟨s, t, cap, dn⟩, f, nx⟩, rfl, ⟨hs, ht, hca, hcb, ls, lt⟩⟩
/-- A journal that came in. -/
structure JAr (w : World) (a : JA) (x : JX) : Prop where
  s : SlA w a.m x.s
  l : LgA w a.A a.B a.ca a.cb x.l.dev
  hc : x.c.length = 8
set_option maxRecDepth 100000 in
theorem open_journal {r : Reach} {b0 : Nat} {v : Value} {d : DataW H} {p : List MemPlace}
    (hv : Value.okWide Tryz.prog w r b0 32 v) (h : DataW.Trod enc Tryz.prog w base spare held 32 v d p) :
    ∃ (a : JA) (x : JX), v = .agg #[.slice a.m.A x.s.a.s.length a.m.ca, .slice a.m.B x.s.a.t.length a.m.cb, .int .i64 x.s.a.cap, .bool x.s.a.down, .slice a.m.C x.s.b.s.length a.m.cc, .slice a.m.D x.s.b.t.length a.m.cd, .int .i64 x.s.b.cap, .bool x.s.b.down, .int .i64 x.s.n, .slice a.A x.l.dev.s.length a.ca, .slice a.B x.l.dev.t.length a.cb, .int .i64 x.l.dev.cap, .bool x.l.dev.down, .int .i64 x.l.first, .int .i64 x.l.next, .int .i64 (cx x.c 0), .int .i64 (cx x.c 1), .int .i64 (cx x.c 2), .int .i64 (cx x.c 3), .int .i64 (cx x.c 4), .int .i64 (cx x.c 5), .int .i64 (cx x.c 6), .int .i64 (cx x.c 7)] ∧ JAr w a x := by
  obtain ⟨cs, rfl, hsz, _⟩ : ∃ cs, v = .agg cs ∧ cs.size = Tryz.prog.cellsOf 32 ∧ Row.okWide Tryz.prog w r b0 32 cs := by
    simpa [Value.okWide, Tryz.underlying32] using hv
  rw [show Tryz.prog.cellsOf 32 = 23 by kernel_rfl] at hsz
  obtain ⟨l⟩ := cs
  match l, hsz with
  | [v0, v1, v2, v3, v4, v5, v6, v7, v8, v9, v10, v11, v12, v13, v14, v15, v16, v17, v18, v19, v20, v21, v22], _ =>
    obtain ⟨fuel, hf⟩ := h
    replace hf : DataW.trod enc Tryz.prog w base spare held fuel 32 [v0, v1, v2, v3, v4, v5, v6, v7, v8, v9, v10, v11, v12, v13, v14, v15, v16, v17, v18, v19, v20, v21, v22] = some (d, p) := hf
    obtain ⟨xs, n, _, _, _, hlen, hg⟩ := DataW.trod_struct Tryz.underlying32 hf
    match xs, hlen with
    | [y0, y1, y2], _ =>
      have g0 : DataW.trod enc Tryz.prog w base spare held n 27 (List.take (Tryz.prog.cellsOf 27) (List.drop 0 [v0, v1, v2, v3, v4, v5, v6, v7, v8, v9, v10, v11, v12, v13, v14, v15, v16, v17, v18, v19, v20, v21, v22])) = [y0, y1, y2][0]? := hg 0 _ rfl
      have g1 : DataW.trod enc Tryz.prog w base spare held n 29 (List.take (Tryz.prog.cellsOf 29) (List.drop 9 [v0, v1, v2, v3, v4, v5, v6, v7, v8, v9, v10, v11, v12, v13, v14, v15, v16, v17, v18, v19, v20, v21, v22])) = [y0, y1, y2][1]? := hg 1 _ rfl
      have g2 : DataW.trod enc Tryz.prog w base spare held n 30 (List.take (Tryz.prog.cellsOf 30) (List.drop 15 [v0, v1, v2, v3, v4, v5, v6, v7, v8, v9, v10, v11, v12, v13, v14, v15, v16, v17, v18, v19, v20, v21, v22])) = [y0, y1, y2][2]? := hg 2 _ rfl
      rw [show Tryz.prog.cellsOf 27 = 9 by kernel_rfl] at g0
      rw [show Tryz.prog.cellsOf 29 = 6 by kernel_rfl] at g1
      rw [show Tryz.prog.cellsOf 30 = 8 by kernel_rfl] at g2
      simp only [List.drop_zero, List.drop_succ_cons, List.take_succ_cons, List.take_zero, List.getElem?_cons_zero, List.getElem?_cons_succ] at g0 g1 g2
      obtain ⟨m, s, e0, hs⟩ := open_slcells g0
      obtain ⟨A, B, ca, cb, lg, e1, hl⟩ := open_lgcells g1
      obtain ⟨c, hc, rfl, rfl, rfl, rfl, rfl, rfl, rfl, rfl⟩ := open_eight g2
      injection e0 with e0 e01
      injection e01 with e02 e03
      injection e03 with e04 e05
      injection e05 with e06 e07
      injection e07 with e08 e09
      injection e09 with e10 e11
      injection e11 with e12 e13
      injection e13 with e14 e15
      injection e15 with e16 e17
      injection e1 with e20 e21
      injection e21 with e22 e23
      injection e23 with e24 e25
      injection e25 with e26 e27
      injection e27 with e28 e29
      injection e29 with e30 e31
      subst e0 e02 e04 e06 e08 e10 e12 e14 e16 e20 e22 e24 e26 e28 e30
      exact ⟨⟨m, A, B, ca, cb⟩, ⟨s, lg, c⟩, rfl, ⟨hs, hl, hc⟩⟩
end
end Go.Proofs.YthgcfjhnnhigoaaGreat
