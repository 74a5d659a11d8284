/- given, loads and alive of layer 5's law, walked. Own work. -/
import Derived.Test.YtakgglpfgpkboaaSMathA
import Derived.Test.YtakgglpfgpkboaaSSet
import Derived.Test.YtakgglpfgpkboaaSFunD
import Derived.Test.YtakgglpfgpkboaaSFunE
import Derived.Test.YtakgglpfgpkboaaSFunF
import Derived.Test.YtakgglpfgpkboaaSFunG
import Derived.Test.YtakgglpfgpkboaaSFunN
import Derived.Lib.BufferRead
import Derived.Lib.SlBytesConst
import Derived.Lib.SmallJoins
import Derived.Laws.IdiomStrings
import Derived.IntWalk
set_option linter.unusedVariables false
set_option linter.unusedSimpArgs false
namespace Go.Proofs.Ytakgglpfgpkboaa
open Go.RowKit
open Slots (Sl)
open Disk (Dev)

/-- string(b) of bytes. -/
theorem sconv_rb {w : World} {lo : Nat} {A : Option Addr} {l : List UInt8} (c : Nat) (h : RB w lo A l) :
    (convert 22 9 (.slice A l.length c)).run Try.prog w = .ok (.string ⟨l.toArray⟩) w := by
  rcases Nat.eq_zero_or_pos l.length with h0 | hpos
  · have hl : l = [] := List.eq_nil_of_length_eq_zero h0
    subst hl
    cases A with
    | none => exact Lib.run_convert_nil_bytes w _ _ 5 c Try.underlying22 Try.underlying5 Try.underlying9
    | some a => exact run_convert_bytes_back w _ _ 5 a c [] Try.underlying22 Try.underlying5 Try.underlying9 (fun j hj => absurd hj (by simp))
  · obtain ⟨a, rfl, _, hc⟩ := h hpos
    exact run_convert_bytes_back w _ _ 5 a c l Try.underlying22 Try.underlying5 Try.underlying9 hc

def RetSl0 (w : World) (m : Sl) (e : Ending) (w' : World) : Prop := ∃ (k : AM), e = .returned (.agg #[.slice k.A m.a.s.length k.ca, .slice k.B m.a.t.length k.cb, .int .i64 m.a.cap, .bool m.a.down, .slice k.C m.b.s.length k.cc, .slice k.D m.b.t.length k.cd, .int .i64 m.b.cap, .bool m.b.down, .int .i64 m.n]) ∧ SlM w' 0 k m ∧ Ab w w'

set_option maxRecDepth 100000 in
set_option maxHeartbeats 1600000 in
theorem loads_true (m : AM) (r : Sl) (w : World) (h : SlM w 0 m r) (er num : Int) (want : List UInt8) (he : er = 0) (hl : Slots.Lds r num want) :
    Calls Try.prog 13 #[.agg #[.slice m.A r.a.s.length m.ca, .slice m.B r.a.t.length m.cb, .int .i64 r.a.cap, .bool r.a.down, .slice m.C r.b.s.length m.cc, .slice m.D r.b.t.length m.cd, .int .i64 r.b.cap, .bool r.b.down, .int .i64 r.n], .int .i64 er, .int .i64 num, .string ⟨want.toArray⟩] w fun e w' => e = .returned (.bool true) ∧ Ab w w' := by
  subst he
  obtain ⟨o, h1, h2, h3, h4, h5⟩ := hl
  have HO := Lib.hid h1
  have HL := Lib.hid h2
  have HN := Lib.hid h3
  have hw : IntKind.i64.wrap (num + 1) = num + 1 := IntWalk.i64_in _ (by omega)
  clear h1 h2 h3
  go_enter Try.func13, Try.ntmps13
  go_wp2_with fail
  refine (sopen_any m r _ (h.ab (by repeat (first | with_reducible exact Ab.refl _ | with_reducible assumption | with_reducible refine Ab.drew ?_ | with_reducible refine Ab.drewN ?_ _ | with_reducible refine Ab.alloc ?_ _ | with_reducible refine Ab.trans ?_ (by assumption) | with_reducible refine Ab.set ?_ (by first | (simp; done) | omega | (simp; omega)) _)))).mono ?_
  rintro e w1 ⟨r1, e1, m1, hr1, rfl, hM1, hb1⟩
  obtain ⟨e2, e3⟩ := Prod.mk.inj (hr1.out.trans HO.out)
  obtain rfl : r1 = o := e2
  obtain rfl : e1 = 0 := e3
  clear hr1
  have hal : Ab w1 (w1.alloc (.cells #[.slice m1.A r1.a.s.length m1.ca, .slice m1.B r1.a.t.length m1.cb, .int .i64 r1.a.cap, .bool r1.a.down, .slice m1.C r1.b.s.length m1.cc, .slice m1.D r1.b.t.length m1.cd, .int .i64 r1.b.cap, .bool r1.b.down, .int .i64 r1.n] 27)) := (Ab.refl w1).alloc _
  go_wp2_with fail
  refine (load_any m1 r1 _ (hM1.zero.ab (by repeat (first | with_reducible exact Ab.refl _ | with_reducible assumption | with_reducible refine Ab.drew ?_ | with_reducible refine Ab.drewN ?_ _ | with_reducible refine Ab.alloc ?_ _ | with_reducible refine Ab.trans ?_ (by assumption) | with_reducible refine Ab.set ?_ (by first | (simp; done) | omega | (simp; omega)) _)))).mono ?_
  rintro e w2 ⟨n2, e2, b2, A2, c2, hr2, rfl, hA2, hc2, hl2, hb2⟩
  obtain ⟨e3, e4⟩ := Prod.mk.inj (hr2.out.trans HL.out)
  obtain ⟨e5, e6⟩ := Prod.mk.inj e4
  obtain rfl : num = n2 := e3.symm
  obtain rfl : want = b2 := e5.symm
  obtain rfl : e2 = 0 := e6
  clear hr2 e4
  have H9 : SlB w2 w1.heap.size m1 r1 := (SlB.box (new_plain rfl)).ab hb2
  obtain ⟨yq0, yq1, yq2, yq3, yq4, yq5, yq6, yq7, yq8, yg0, yg1, yg2, yg3, yg4, yg5, yg6, yg7, yg8⟩ := H9
  (try simp only [AM.nil, Slots.zero, Disk.zero, List.length_nil] at yq0 yq1 yq2 yq3 yq4 yq5 yq6 yq7 yq8)
  have hn : r1.n = num + 1 := HN.out
  have cv := sconv_rb c2 hA2
  go_wp2
  go_ret
  exact ⟨ret_bool (by simp), (by repeat (first | with_reducible exact Ab.refl _ | with_reducible assumption | with_reducible refine Ab.drew ?_ | with_reducible refine Ab.drewN ?_ _ | with_reducible refine Ab.alloc ?_ _ | with_reducible refine Ab.trans ?_ (by assumption) | with_reducible refine Ab.set ?_ (by first | (simp; done) | omega | (simp; omega)) _))⟩

set_option maxRecDepth 100000 in
set_option maxHeartbeats 1600000 in
theorem sgiven_any (w : World) : Calls Try.prog 11 #[] w (RetSl0 w Slots.G2) := by
  have kc := fun (w : World) (C : Array Value) (n c g : Nat) (hg : g = w.heap.size) => Joins.run_convert_bytes_const_at (P := Try.prog) w 22 5 C n c g hg Try.underlying22 Try.underlying5
  go_enter Try.func11, Try.ntmps11
  go_wp2_with fail
  refine (snew_any 100 _).mono ?_
  rintro e w1 ⟨r1, e1, m1, hr1, rfl, hM1, hb1⟩
  obtain ⟨e2, e3⟩ := Prod.mk.inj (hr1.out.trans Slots.new_100)
  obtain rfl : r1 = Slots.G0 := e2
  obtain rfl : e1 = 0 := e3
  clear hr1
  have hz1 := (SlB.box (w := w.alloc (.cells #[.slice none 0 0, .slice none 0 0, .int .i64 0, .bool false, .slice none 0 0, .slice none 0 0, .int .i64 0, .bool false, .int .i64 0] 27)) (b := w.heap.size) (m := AM.nil) (r := Slots.zero) (new_plain rfl)).ab hb1
  have zz1 := hz1.lt
  go_wp2_with fail
  refine (ssave_any m1 Slots.G0 _ (hM1.zero.ab (by repeat (first | with_reducible exact Ab.refl _ | with_reducible assumption | with_reducible refine Ab.drew ?_ | with_reducible refine Ab.drewN ?_ _ | with_reducible refine Ab.alloc ?_ _ | with_reducible refine Ab.trans ?_ (by assumption) | with_reducible refine Ab.set ?_ (by first | (simp; done) | omega | (simp; omega)) _))) (some ⟨w1.heap.size + 1, 0, none⟩) [97] 1 (RB.blk (T := 5) (fr := (1, 2)) (lo := 0) (by repeat (first | with_reducible refine old_set ?_ (by first | (simp; done) | omega | (simp; omega)) | exact new_plain (by first | (simp; done) | omega | (simp; omega)) | with_reducible refine old_alloc ?_ | with_reducible refine old_ab (by assumption) ?_)) (by omega)) (by simp)).mono ?_
  rintro e w2 ⟨r2, n2, e2, m2, hr2, rfl, hM2, hb2⟩
  obtain ⟨e3, e4⟩ := Prod.mk.inj (hr2.out.trans Slots.save_G0)
  obtain ⟨e5, e6⟩ := Prod.mk.inj e4
  obtain rfl : r2 = Slots.G1 := e3
  obtain rfl : n2 = 1 := e5
  obtain rfl : e2 = 0 := e6
  clear hr2 e4
  have b12 : Ab w1 w2 := (((Ab.refl w1).alloc _).alloc _).trans hb2
  have b12' : Ab (w1.alloc (.cells #[.slice m1.A Slots.G0.a.s.length m1.ca, .slice m1.B Slots.G0.a.t.length m1.cb, .int .i64 Slots.G0.a.cap, .bool Slots.G0.a.down, .slice m1.C Slots.G0.b.s.length m1.cc, .slice m1.D Slots.G0.b.t.length m1.cd, .int .i64 Slots.G0.b.cap, .bool Slots.G0.b.down, .int .i64 Slots.G0.n] 27)) w2 := ((Ab.refl _).alloc _).trans hb2
  have hz2 := hz1.ab b12
  have zz2 := hz2.lt
  have hy2 := (SlB.box (w := w1.alloc (.cells #[.slice m1.A Slots.G0.a.s.length m1.ca, .slice m1.B Slots.G0.a.t.length m1.cb, .int .i64 Slots.G0.a.cap, .bool Slots.G0.a.down, .slice m1.C Slots.G0.b.s.length m1.cc, .slice m1.D Slots.G0.b.t.length m1.cd, .int .i64 Slots.G0.b.cap, .bool Slots.G0.b.down, .int .i64 Slots.G0.n] 27)) (b := w1.heap.size) (m := m1) (r := Slots.G0) (new_plain rfl)).ab b12'
  have yy2 := hy2.lt
  have S2 := hy2
  obtain ⟨yq0, yq1, yq2, yq3, yq4, yq5, yq6, yq7, yq8, yg0, yg1, yg2, yg3, yg4, yg5, yg6, yg7, yg8⟩ := S2
  (try simp only [AM.nil, Slots.zero, Disk.zero, List.length_nil] at yq0 yq1 yq2 yq3 yq4 yq5 yq6 yq7 yq8)
  have bw2 : Ab w w2 := (by repeat (first | with_reducible exact Ab.refl _ | with_reducible assumption | with_reducible refine Ab.drew ?_ | with_reducible refine Ab.drewN ?_ _ | with_reducible refine Ab.alloc ?_ _ | with_reducible refine Ab.trans ?_ (by assumption) | with_reducible refine Ab.set ?_ (by first | (simp; done) | omega | (simp; omega)) _))
  have hsz3 : ((((((((((w2.setCell ⟨w1.heap.size, 0, none⟩ (.slice m2.A Slots.G1.a.s.length m2.ca)).setCell ⟨w1.heap.size, 1, none⟩ (.slice m2.B Slots.G1.a.t.length m2.cb)).setCell ⟨w1.heap.size, 2, none⟩ (.int .i64 Slots.G1.a.cap)).setCell ⟨w1.heap.size, 3, none⟩ (.bool Slots.G1.a.down)).setCell ⟨w1.heap.size, 4, none⟩ (.slice m2.C Slots.G1.b.s.length m2.cc)).setCell ⟨w1.heap.size, 5, none⟩ (.slice m2.D Slots.G1.b.t.length m2.cd)).setCell ⟨w1.heap.size, 6, none⟩ (.int .i64 Slots.G1.b.cap)).setCell ⟨w1.heap.size, 7, none⟩ (.bool Slots.G1.b.down)).setCell ⟨w1.heap.size, 8, none⟩ (.int .i64 Slots.G1.n))).heap.size = w2.heap.size := set9_size
  have y3 : SlB (((((((((w2.setCell ⟨w1.heap.size, 0, none⟩ (.slice m2.A Slots.G1.a.s.length m2.ca)).setCell ⟨w1.heap.size, 1, none⟩ (.slice m2.B Slots.G1.a.t.length m2.cb)).setCell ⟨w1.heap.size, 2, none⟩ (.int .i64 Slots.G1.a.cap)).setCell ⟨w1.heap.size, 3, none⟩ (.bool Slots.G1.a.down)).setCell ⟨w1.heap.size, 4, none⟩ (.slice m2.C Slots.G1.b.s.length m2.cc)).setCell ⟨w1.heap.size, 5, none⟩ (.slice m2.D Slots.G1.b.t.length m2.cd)).setCell ⟨w1.heap.size, 6, none⟩ (.int .i64 Slots.G1.b.cap)).setCell ⟨w1.heap.size, 7, none⟩ (.bool Slots.G1.b.down)).setCell ⟨w1.heap.size, 8, none⟩ (.int .i64 Slots.G1.n)) w1.heap.size m2 Slots.G1 := hy2.set9
  have z3 : SlB (((((((((w2.setCell ⟨w1.heap.size, 0, none⟩ (.slice m2.A Slots.G1.a.s.length m2.ca)).setCell ⟨w1.heap.size, 1, none⟩ (.slice m2.B Slots.G1.a.t.length m2.cb)).setCell ⟨w1.heap.size, 2, none⟩ (.int .i64 Slots.G1.a.cap)).setCell ⟨w1.heap.size, 3, none⟩ (.bool Slots.G1.a.down)).setCell ⟨w1.heap.size, 4, none⟩ (.slice m2.C Slots.G1.b.s.length m2.cc)).setCell ⟨w1.heap.size, 5, none⟩ (.slice m2.D Slots.G1.b.t.length m2.cd)).setCell ⟨w1.heap.size, 6, none⟩ (.int .i64 Slots.G1.b.cap)).setCell ⟨w1.heap.size, 7, none⟩ (.bool Slots.G1.b.down)).setCell ⟨w1.heap.size, 8, none⟩ (.int .i64 Slots.G1.n)) w.heap.size AM.nil Slots.zero := hz2.set9_other (by omega) _ _
  have hM3 : SlM (((((((((w2.setCell ⟨w1.heap.size, 0, none⟩ (.slice m2.A Slots.G1.a.s.length m2.ca)).setCell ⟨w1.heap.size, 1, none⟩ (.slice m2.B Slots.G1.a.t.length m2.cb)).setCell ⟨w1.heap.size, 2, none⟩ (.int .i64 Slots.G1.a.cap)).setCell ⟨w1.heap.size, 3, none⟩ (.bool Slots.G1.a.down)).setCell ⟨w1.heap.size, 4, none⟩ (.slice m2.C Slots.G1.b.s.length m2.cc)).setCell ⟨w1.heap.size, 5, none⟩ (.slice m2.D Slots.G1.b.t.length m2.cd)).setCell ⟨w1.heap.size, 6, none⟩ (.int .i64 Slots.G1.b.cap)).setCell ⟨w1.heap.size, 7, none⟩ (.bool Slots.G1.b.down)).setCell ⟨w1.heap.size, 8, none⟩ (.int .i64 Slots.G1.n)) 0 m2 Slots.G1 := hM2.set9 hy2 _ _
  have b3 : Ab w (((((((((w2.setCell ⟨w1.heap.size, 0, none⟩ (.slice m2.A Slots.G1.a.s.length m2.ca)).setCell ⟨w1.heap.size, 1, none⟩ (.slice m2.B Slots.G1.a.t.length m2.cb)).setCell ⟨w1.heap.size, 2, none⟩ (.int .i64 Slots.G1.a.cap)).setCell ⟨w1.heap.size, 3, none⟩ (.bool Slots.G1.a.down)).setCell ⟨w1.heap.size, 4, none⟩ (.slice m2.C Slots.G1.b.s.length m2.cc)).setCell ⟨w1.heap.size, 5, none⟩ (.slice m2.D Slots.G1.b.t.length m2.cd)).setCell ⟨w1.heap.size, 6, none⟩ (.int .i64 Slots.G1.b.cap)).setCell ⟨w1.heap.size, 7, none⟩ (.bool Slots.G1.b.down)).setCell ⟨w1.heap.size, 8, none⟩ (.int .i64 Slots.G1.n)) := bw2.set9 (by omega) _ _
  go_wp2_with fail
  refine (ssave_any m2 Slots.G1 _ (hM3.ab ((Ab.refl _).alloc _)) (some ⟨w2.heap.size, 0, none⟩) [98, 99] 2 (RB.blk (T := 5) (fr := (2, 3)) (lo := 0) (new_plain hsz3) (by omega)) (by simp)).mono ?_
  rintro e w4 ⟨r4, n4, e4, m4, hr4, rfl, hM4, hb4⟩
  obtain ⟨e3, e5⟩ := Prod.mk.inj (hr4.out.trans Slots.save_G1)
  obtain ⟨e6, e7⟩ := Prod.mk.inj e5
  obtain rfl : r4 = Slots.G2 := e3
  obtain rfl : n4 = 2 := e6
  obtain rfl : e4 = 0 := e7
  clear hr4 e5
  have hal3 := ((Ab.refl (((((((((w2.setCell ⟨w1.heap.size, 0, none⟩ (.slice m2.A Slots.G1.a.s.length m2.ca)).setCell ⟨w1.heap.size, 1, none⟩ (.slice m2.B Slots.G1.a.t.length m2.cb)).setCell ⟨w1.heap.size, 2, none⟩ (.int .i64 Slots.G1.a.cap)).setCell ⟨w1.heap.size, 3, none⟩ (.bool Slots.G1.a.down)).setCell ⟨w1.heap.size, 4, none⟩ (.slice m2.C Slots.G1.b.s.length m2.cc)).setCell ⟨w1.heap.size, 5, none⟩ (.slice m2.D Slots.G1.b.t.length m2.cd)).setCell ⟨w1.heap.size, 6, none⟩ (.int .i64 Slots.G1.b.cap)).setCell ⟨w1.heap.size, 7, none⟩ (.bool Slots.G1.b.down)).setCell ⟨w1.heap.size, 8, none⟩ (.int .i64 Slots.G1.n))).alloc (.cells #[.int .u8 98, .int .u8 99] 5 (2, 3))).trans hb4
  have y4 := y3.ab hal3
  have z4 := z3.ab hal3
  have b4 : Ab w w4 := b3.trans hal3
  have hM5 : SlM (((((((((w4.setCell ⟨w1.heap.size, 0, none⟩ (.slice m4.A Slots.G2.a.s.length m4.ca)).setCell ⟨w1.heap.size, 1, none⟩ (.slice m4.B Slots.G2.a.t.length m4.cb)).setCell ⟨w1.heap.size, 2, none⟩ (.int .i64 Slots.G2.a.cap)).setCell ⟨w1.heap.size, 3, none⟩ (.bool Slots.G2.a.down)).setCell ⟨w1.heap.size, 4, none⟩ (.slice m4.C Slots.G2.b.s.length m4.cc)).setCell ⟨w1.heap.size, 5, none⟩ (.slice m4.D Slots.G2.b.t.length m4.cd)).setCell ⟨w1.heap.size, 6, none⟩ (.int .i64 Slots.G2.b.cap)).setCell ⟨w1.heap.size, 7, none⟩ (.bool Slots.G2.b.down)).setCell ⟨w1.heap.size, 8, none⟩ (.int .i64 Slots.G2.n)) 0 m4 Slots.G2 := hM4.set9 y4 _ _
  have z5 : SlB (((((((((w4.setCell ⟨w1.heap.size, 0, none⟩ (.slice m4.A Slots.G2.a.s.length m4.ca)).setCell ⟨w1.heap.size, 1, none⟩ (.slice m4.B Slots.G2.a.t.length m4.cb)).setCell ⟨w1.heap.size, 2, none⟩ (.int .i64 Slots.G2.a.cap)).setCell ⟨w1.heap.size, 3, none⟩ (.bool Slots.G2.a.down)).setCell ⟨w1.heap.size, 4, none⟩ (.slice m4.C Slots.G2.b.s.length m4.cc)).setCell ⟨w1.heap.size, 5, none⟩ (.slice m4.D Slots.G2.b.t.length m4.cd)).setCell ⟨w1.heap.size, 6, none⟩ (.int .i64 Slots.G2.b.cap)).setCell ⟨w1.heap.size, 7, none⟩ (.bool Slots.G2.b.down)).setCell ⟨w1.heap.size, 8, none⟩ (.int .i64 Slots.G2.n)) w.heap.size AM.nil Slots.zero := z4.set9_other (by omega) _ _
  have y5 : SlB (((((((((w4.setCell ⟨w1.heap.size, 0, none⟩ (.slice m4.A Slots.G2.a.s.length m4.ca)).setCell ⟨w1.heap.size, 1, none⟩ (.slice m4.B Slots.G2.a.t.length m4.cb)).setCell ⟨w1.heap.size, 2, none⟩ (.int .i64 Slots.G2.a.cap)).setCell ⟨w1.heap.size, 3, none⟩ (.bool Slots.G2.a.down)).setCell ⟨w1.heap.size, 4, none⟩ (.slice m4.C Slots.G2.b.s.length m4.cc)).setCell ⟨w1.heap.size, 5, none⟩ (.slice m4.D Slots.G2.b.t.length m4.cd)).setCell ⟨w1.heap.size, 6, none⟩ (.int .i64 Slots.G2.b.cap)).setCell ⟨w1.heap.size, 7, none⟩ (.bool Slots.G2.b.down)).setCell ⟨w1.heap.size, 8, none⟩ (.int .i64 Slots.G2.n)) w1.heap.size m4 Slots.G2 := y4.set9
  have b5 : Ab w (((((((((w4.setCell ⟨w1.heap.size, 0, none⟩ (.slice m4.A Slots.G2.a.s.length m4.ca)).setCell ⟨w1.heap.size, 1, none⟩ (.slice m4.B Slots.G2.a.t.length m4.cb)).setCell ⟨w1.heap.size, 2, none⟩ (.int .i64 Slots.G2.a.cap)).setCell ⟨w1.heap.size, 3, none⟩ (.bool Slots.G2.a.down)).setCell ⟨w1.heap.size, 4, none⟩ (.slice m4.C Slots.G2.b.s.length m4.cc)).setCell ⟨w1.heap.size, 5, none⟩ (.slice m4.D Slots.G2.b.t.length m4.cd)).setCell ⟨w1.heap.size, 6, none⟩ (.int .i64 Slots.G2.b.cap)).setCell ⟨w1.heap.size, 7, none⟩ (.bool Slots.G2.b.down)).setCell ⟨w1.heap.size, 8, none⟩ (.int .i64 Slots.G2.n)) := b4.set9 (by omega) _ _
  have hM6 : SlM (((((((((((((((((((w4.setCell ⟨w1.heap.size, 0, none⟩ (.slice m4.A Slots.G2.a.s.length m4.ca)).setCell ⟨w1.heap.size, 1, none⟩ (.slice m4.B Slots.G2.a.t.length m4.cb)).setCell ⟨w1.heap.size, 2, none⟩ (.int .i64 Slots.G2.a.cap)).setCell ⟨w1.heap.size, 3, none⟩ (.bool Slots.G2.a.down)).setCell ⟨w1.heap.size, 4, none⟩ (.slice m4.C Slots.G2.b.s.length m4.cc)).setCell ⟨w1.heap.size, 5, none⟩ (.slice m4.D Slots.G2.b.t.length m4.cd)).setCell ⟨w1.heap.size, 6, none⟩ (.int .i64 Slots.G2.b.cap)).setCell ⟨w1.heap.size, 7, none⟩ (.bool Slots.G2.b.down)).setCell ⟨w1.heap.size, 8, none⟩ (.int .i64 Slots.G2.n))).setCell ⟨w.heap.size, 0, none⟩ (.slice m4.A Slots.G2.a.s.length m4.ca)).setCell ⟨w.heap.size, 1, none⟩ (.slice m4.B Slots.G2.a.t.length m4.cb)).setCell ⟨w.heap.size, 2, none⟩ (.int .i64 Slots.G2.a.cap)).setCell ⟨w.heap.size, 3, none⟩ (.bool Slots.G2.a.down)).setCell ⟨w.heap.size, 4, none⟩ (.slice m4.C Slots.G2.b.s.length m4.cc)).setCell ⟨w.heap.size, 5, none⟩ (.slice m4.D Slots.G2.b.t.length m4.cd)).setCell ⟨w.heap.size, 6, none⟩ (.int .i64 Slots.G2.b.cap)).setCell ⟨w.heap.size, 7, none⟩ (.bool Slots.G2.b.down)).setCell ⟨w.heap.size, 8, none⟩ (.int .i64 Slots.G2.n)) 0 m4 Slots.G2 := hM5.set9 z5 _ _
  clear y3 z3 hM3 b3 hal3 hM2 hb2 hb4
  have Y := y4
  have Z := z4
  clear yq0 yq1 yq2 yq3 yq4 yq5 yq6 yq7 yq8 yg0 yg1 yg2 yg3 yg4 yg5 yg6 yg7 yg8
  obtain ⟨yq0, yq1, yq2, yq3, yq4, yq5, yq6, yq7, yq8, yg0, yg1, yg2, yg3, yg4, yg5, yg6, yg7, yg8⟩ := Y
  (try simp only [AM.nil, Slots.zero, Disk.zero, List.length_nil] at yq0 yq1 yq2 yq3 yq4 yq5 yq6 yq7 yq8)
  obtain ⟨zq0, zq1, zq2, zq3, zq4, zq5, zq6, zq7, zq8, zg0, zg1, zg2, zg3, zg4, zg5, zg6, zg7, zg8⟩ := Z
  (try simp only [AM.nil, Slots.zero, Disk.zero, List.length_nil] at zq0 zq1 zq2 zq3 zq4 zq5 zq6 zq7 zq8)
  have ne1 : w.heap.size ≠ w1.heap.size := by omega
  have ne2 : w1.heap.size ≠ w.heap.size := by omega
  go_wp2
  refine bodyPost_ret (v := .agg #[.slice m4.A Slots.G2.a.s.length m4.ca, .slice m4.B Slots.G2.a.t.length m4.cb, .int .i64 Slots.G2.a.cap, .bool Slots.G2.a.down, .slice m4.C Slots.G2.b.s.length m4.cc, .slice m4.D Slots.G2.b.t.length m4.cd, .int .i64 Slots.G2.b.cap, .bool Slots.G2.b.down, .int .i64 Slots.G2.n]) (by simp [results, Try.results11, go_sem, *]) rfl ?_
  exact ⟨m4, rfl, hM6, b5.set9 (Nat.le_refl _) _ _⟩

theorem left12 : Slots.left Slots.G2 [100] 2 12 ((Frame.enc ⟨3, [100]⟩).take 12) := .inr (.inr (.inl ⟨rfl, by decide, by decide, rfl⟩))
theorem left13 : Slots.left Slots.G2 [100] 2 13 (Frame.enc ⟨3, [100]⟩) := .inr (.inr (.inl ⟨rfl, by decide, by decide, (List.take_of_length_le (by rw [Frame.enc_length]; decide)).symm⟩))
theorem half12 : Slots.half Slots.G2 [100] 2 12 = (Slots.GH ((Frame.enc ⟨3, [100]⟩).take 12), 0) := Slots.half_G2 (by decide) _ left12 (by decide)
theorem half13 : Slots.half Slots.G2 [100] 2 13 = (Slots.GH (Frame.enc ⟨3, [100]⟩), 0) := Slots.half_G2 (by decide) _ left13 (by decide)

set_option maxRecDepth 100000 in
set_option maxHeartbeats 3200000 in
theorem salive_true (w : World) : Calls Try.prog 17 #[] w fun e w' => e = .returned (.bool true) ∧ Ab w w' := by
  have kc := fun (w : World) (C : Array Value) (n c g : Nat) (hg : g = w.heap.size) => Joins.run_convert_bytes_const_at (P := Try.prog) w 22 5 C n c g hg Try.underlying22 Try.underlying5
  go_enter Try.func17, Try.ntmps17
  go_wp2_with fail
  refine (snew_any 100 _).mono ?_
  rintro e w1 ⟨r1, e1, m1, hr1, rfl, hM1, hb1⟩
  obtain ⟨e2, e3⟩ := Prod.mk.inj (hr1.out.trans Slots.new_100)
  obtain rfl : r1 = Slots.G0 := e2
  obtain rfl : e1 = 0 := e3
  clear hr1
  have hal1 : Ab w1 (w1.alloc (.cells #[.slice m1.A Slots.G0.a.s.length m1.ca, .slice m1.B Slots.G0.a.t.length m1.cb, .int .i64 Slots.G0.a.cap, .bool Slots.G0.a.down, .slice m1.C Slots.G0.b.s.length m1.cc, .slice m1.D Slots.G0.b.t.length m1.cd, .int .i64 Slots.G0.b.cap, .bool Slots.G0.b.down, .int .i64 Slots.G0.n] 27)) := (Ab.refl w1).alloc _
  go_wp2_with fail
  refine (load_any m1 Slots.G0 _ (hM1.zero.ab (by repeat (first | with_reducible exact Ab.refl _ | with_reducible assumption | with_reducible refine Ab.drew ?_ | with_reducible refine Ab.drewN ?_ _ | with_reducible refine Ab.alloc ?_ _ | with_reducible refine Ab.trans ?_ (by assumption) | with_reducible refine Ab.set ?_ (by first | (simp; done) | omega | (simp; omega)) _)))).mono ?_
  rintro e w2 ⟨n2, e2, b2, A2, c2, hr2, rfl, hA2, hc2, hl2, hb2⟩
  obtain ⟨e3, e4⟩ := Prod.mk.inj (hr2.out.trans Slots.load_G0)
  obtain ⟨e5, e6⟩ := Prod.mk.inj e4
  obtain rfl : n2 = 0 := e3
  obtain rfl : b2 = [] := e5
  obtain rfl : e2 = 6 := e6
  clear hr2 e4
  have H1 : SlB w2 w1.heap.size m1 Slots.G0 := (SlB.box (new_plain rfl)).ab hb2
  have S1 := H1
  obtain ⟨yq0, yq1, yq2, yq3, yq4, yq5, yq6, yq7, yq8, yg0, yg1, yg2, yg3, yg4, yg5, yg6, yg7, yg8⟩ := S1
  (try simp only [AM.nil, Slots.zero, Disk.zero, List.length_nil] at yq0 yq1 yq2 yq3 yq4 yq5 yq6 yq7 yq8)
  go_wp2_with fail
  refine (ssave_any m1 Slots.G0 _ (hM1.zero.ab (by repeat (first | with_reducible exact Ab.refl _ | with_reducible assumption | with_reducible refine Ab.drew ?_ | with_reducible refine Ab.drewN ?_ _ | with_reducible refine Ab.alloc ?_ _ | with_reducible refine Ab.trans ?_ (by assumption) | with_reducible refine Ab.set ?_ (by first | (simp; done) | omega | (simp; omega)) _))) (some ⟨w2.heap.size, 0, none⟩) [97] 1 (RB.blk (T := 5) (fr := (1, 2)) (lo := 0) (by repeat (first | with_reducible refine old_set ?_ (by first | (simp; done) | omega | (simp; omega)) | exact new_plain (by first | (simp; done) | omega | (simp; omega)) | with_reducible refine old_alloc ?_ | with_reducible refine old_ab (by assumption) ?_)) (by omega)) (by simp)).mono ?_
  rintro e w3 ⟨r3, n3, e3, m3, hr3, rfl, hM3, hb3⟩
  obtain ⟨e4, e5⟩ := Prod.mk.inj (hr3.out.trans Slots.save_G0)
  obtain ⟨e6, e7⟩ := Prod.mk.inj e5
  obtain rfl : r3 = Slots.G1 := e4
  obtain rfl : n3 = 1 := e6
  obtain rfl : e3 = 0 := e7
  clear hr3 e5
  clear yq0 yq1 yq2 yq3 yq4 yq5 yq6 yq7 yq8 yg0 yg1 yg2 yg3 yg4 yg5 yg6 yg7 yg8
  have b03 : Ab w w3 := (by repeat (first | with_reducible exact Ab.refl _ | with_reducible assumption | with_reducible refine Ab.drew ?_ | with_reducible refine Ab.drewN ?_ _ | with_reducible refine Ab.alloc ?_ _ | with_reducible refine Ab.trans ?_ (by assumption) | with_reducible refine Ab.set ?_ (by first | (simp; done) | omega | (simp; omega)) _))
  go_wp2_with fail
  refine (sgiven_any _).mono ?_
  rintro e w4 ⟨m4, rfl, hM4, hb4⟩
  have H6 : SlB w4 w3.heap.size m3 Slots.G1 := (SlB.box (new_plain rfl)).ab hb4
  go_wp2_with fail
  refine (shalf_any m4 Slots.G2 _ (hM4.ab (by repeat (first | with_reducible exact Ab.refl _ | with_reducible assumption | with_reducible refine Ab.drew ?_ | with_reducible refine Ab.drewN ?_ _ | with_reducible refine Ab.alloc ?_ _ | with_reducible refine Ab.trans ?_ (by assumption) | with_reducible refine Ab.set ?_ (by first | (simp; done) | omega | (simp; omega)) _))) (some ⟨w4.heap.size, 0, none⟩) [100] 1 (RB.blk (T := 5) (fr := (1, 2)) (lo := 0) (by repeat (first | with_reducible refine old_set ?_ (by first | (simp; done) | omega | (simp; omega)) | exact new_plain (by first | (simp; done) | omega | (simp; omega)) | with_reducible refine old_alloc ?_ | with_reducible refine old_ab (by assumption) ?_)) (by omega)) (by simp) 2 12).mono ?_
  rintro e w5 ⟨r5, e5, m5, hr5, rfl, hM5, hb5⟩
  obtain ⟨e6, e7⟩ := Prod.mk.inj (hr5.out.trans half12)
  obtain rfl : r5 = _ := e6
  obtain rfl : e5 = 0 := e7
  clear hr5
  have H6 := H6.ab (((Ab.refl w4).alloc _).trans hb5)
  have b35 : Ab w3 w5 := ((((Ab.refl w3).alloc _).trans hb4).trans ((Ab.refl w4).alloc _)).trans hb5
  have b05 : Ab w w5 := b03.trans b35
  go_wp2_with fail
  refine (sgiven_any _).mono ?_
  rintro e w6 ⟨m6, rfl, hM6, hb6⟩
  have H9 : SlB w6 w5.heap.size m5 (Slots.GH ((Frame.enc ⟨3, [100]⟩).take 12)) := (SlB.box (new_plain rfl)).ab hb6
  have H6 := H6.ab (((Ab.refl w5).alloc _).trans hb6)
  go_wp2_with fail
  refine (shalf_any m6 Slots.G2 _ (hM6.ab (by repeat (first | with_reducible exact Ab.refl _ | with_reducible assumption | with_reducible refine Ab.drew ?_ | with_reducible refine Ab.drewN ?_ _ | with_reducible refine Ab.alloc ?_ _ | with_reducible refine Ab.trans ?_ (by assumption) | with_reducible refine Ab.set ?_ (by first | (simp; done) | omega | (simp; omega)) _))) (some ⟨w6.heap.size, 0, none⟩) [100] 1 (RB.blk (T := 5) (fr := (1, 2)) (lo := 0) (by repeat (first | with_reducible refine old_set ?_ (by first | (simp; done) | omega | (simp; omega)) | exact new_plain (by first | (simp; done) | omega | (simp; omega)) | with_reducible refine old_alloc ?_ | with_reducible refine old_ab (by assumption) ?_)) (by omega)) (by simp) 2 13).mono ?_
  rintro e w7 ⟨r7, e7, m7, hr7, rfl, hM7, hb7⟩
  obtain ⟨e8, e9⟩ := Prod.mk.inj (hr7.out.trans half13)
  obtain rfl : r7 = _ := e8
  obtain rfl : e7 = 0 := e9
  clear hr7
  have H9 := H9.ab (((Ab.refl w6).alloc _).trans hb7)
  have H6 := H6.ab (((Ab.refl w6).alloc _).trans hb7)
  have S6 := H6
  obtain ⟨yq0, yq1, yq2, yq3, yq4, yq5, yq6, yq7, yq8, yg0, yg1, yg2, yg3, yg4, yg5, yg6, yg7, yg8⟩ := S6
  (try simp only [AM.nil, Slots.zero, Disk.zero, List.length_nil] at yq0 yq1 yq2 yq3 yq4 yq5 yq6 yq7 yq8)
  have nya := fun (o : Obj) (j : Nat) => World.cell?_alloc_lt w7 o ⟨w3.heap.size, j, none⟩ H6.lt
  have nyb := fun (o : Obj) (j : Nat) => ((Ab.refl w7).alloc o).frozen (p := ⟨w3.heap.size, j, none⟩) H6.lt
  go_wp2_with fail
  refine (loads_true m3 Slots.G1 _ (hM3.ab (by repeat (first | with_reducible exact Ab.refl _ | with_reducible assumption | with_reducible refine Ab.drew ?_ | with_reducible refine Ab.drewN ?_ _ | with_reducible refine Ab.alloc ?_ _ | with_reducible refine Ab.trans ?_ (by assumption) | with_reducible refine Ab.set ?_ (by first | (simp; done) | omega | (simp; omega)) _))) 0 1 [97] rfl Slots.lds_G1).mono ?_
  rintro e w8 ⟨rfl, hb8⟩
  clear yq0 yq1 yq2 yq3 yq4 yq5 yq6 yq7 yq8 yg0 yg1 yg2 yg3 yg4 yg5 yg6 yg7 yg8
  go_wp2_with fail
  refine (sgiven_any _).mono ?_
  rintro e w9 ⟨m9, rfl, hM9, hb9⟩
  go_wp2_with fail
  refine (loads_true m9 Slots.G2 _ (hM9.ab (by repeat (first | with_reducible exact Ab.refl _ | with_reducible assumption | with_reducible refine Ab.drew ?_ | with_reducible refine Ab.drewN ?_ _ | with_reducible refine Ab.alloc ?_ _ | with_reducible refine Ab.trans ?_ (by assumption) | with_reducible refine Ab.set ?_ (by first | (simp; done) | omega | (simp; omega)) _))) 0 2 [98, 99] rfl Slots.lds_G2).mono ?_
  rintro e w10 ⟨rfl, hb10⟩
  have hal7 : Ab w7 (w7.alloc (.cells #[.slice m7.A (Slots.GH (Frame.enc ⟨3, [100]⟩)).a.s.length m7.ca, .slice m7.B (Slots.GH (Frame.enc ⟨3, [100]⟩)).a.t.length m7.cb, .int .i64 (Slots.GH (Frame.enc ⟨3, [100]⟩)).a.cap, .bool (Slots.GH (Frame.enc ⟨3, [100]⟩)).a.down, .slice m7.C (Slots.GH (Frame.enc ⟨3, [100]⟩)).b.s.length m7.cc, .slice m7.D (Slots.GH (Frame.enc ⟨3, [100]⟩)).b.t.length m7.cd, .int .i64 (Slots.GH (Frame.enc ⟨3, [100]⟩)).b.cap, .bool (Slots.GH (Frame.enc ⟨3, [100]⟩)).b.down, .int .i64 (Slots.GH (Frame.enc ⟨3, [100]⟩)).n] 27)) := (Ab.refl w7).alloc _
  have b7 : Ab w7 w10 := ((hal7.trans hb8).trans hb9).trans hb10
  have H9 := H9.ab b7
  have H11 : SlB w10 w7.heap.size m7 (Slots.GH (Frame.enc ⟨3, [100]⟩)) := (((SlB.box (w := w7.alloc (.cells #[.slice m7.A (Slots.GH (Frame.enc ⟨3, [100]⟩)).a.s.length m7.ca, .slice m7.B (Slots.GH (Frame.enc ⟨3, [100]⟩)).a.t.length m7.cb, .int .i64 (Slots.GH (Frame.enc ⟨3, [100]⟩)).a.cap, .bool (Slots.GH (Frame.enc ⟨3, [100]⟩)).a.down, .slice m7.C (Slots.GH (Frame.enc ⟨3, [100]⟩)).b.s.length m7.cc, .slice m7.D (Slots.GH (Frame.enc ⟨3, [100]⟩)).b.t.length m7.cd, .int .i64 (Slots.GH (Frame.enc ⟨3, [100]⟩)).b.cap, .bool (Slots.GH (Frame.enc ⟨3, [100]⟩)).b.down, .int .i64 (Slots.GH (Frame.enc ⟨3, [100]⟩)).n] 27)) (new_plain rfl)).ab hb8).ab hb9).ab hb10
  have S9 := H9
  obtain ⟨yq0, yq1, yq2, yq3, yq4, yq5, yq6, yq7, yq8, yg0, yg1, yg2, yg3, yg4, yg5, yg6, yg7, yg8⟩ := S9
  (try simp only [AM.nil, Slots.zero, Disk.zero, List.length_nil] at yq0 yq1 yq2 yq3 yq4 yq5 yq6 yq7 yq8)
  go_wp2_with fail
  refine (loads_true m5 _ _ (hM5.zero.ab (by repeat (first | with_reducible exact Ab.refl _ | with_reducible assumption | with_reducible refine Ab.drew ?_ | with_reducible refine Ab.drewN ?_ _ | with_reducible refine Ab.alloc ?_ _ | with_reducible refine Ab.trans ?_ (by assumption) | with_reducible refine Ab.set ?_ (by first | (simp; done) | omega | (simp; omega)) _))) 0 2 [98, 99] rfl (Slots.lds_before (b := [100]) (by decide) left12 (by rw [List.length_take]; omega) (.inr (.inr ⟨rfl, by decide⟩)))).mono ?_
  rintro e w11 ⟨rfl, hb11⟩
  clear yq0 yq1 yq2 yq3 yq4 yq5 yq6 yq7 yq8 yg0 yg1 yg2 yg3 yg4 yg5 yg6 yg7 yg8
  have S11 := H11.ab hb11
  obtain ⟨yq0, yq1, yq2, yq3, yq4, yq5, yq6, yq7, yq8, yg0, yg1, yg2, yg3, yg4, yg5, yg6, yg7, yg8⟩ := S11
  (try simp only [AM.nil, Slots.zero, Disk.zero, List.length_nil] at yq0 yq1 yq2 yq3 yq4 yq5 yq6 yq7 yq8)
  go_wp2_with fail
  refine (loads_true m7 _ _ (hM7.zero.ab (by repeat (first | with_reducible exact Ab.refl _ | with_reducible assumption | with_reducible refine Ab.drew ?_ | with_reducible refine Ab.drewN ?_ _ | with_reducible refine Ab.alloc ?_ _ | with_reducible refine Ab.trans ?_ (by assumption) | with_reducible refine Ab.set ?_ (by first | (simp; done) | omega | (simp; omega)) _))) 0 3 [100] rfl (Slots.lds_after (b := [100]) (by decide))).mono ?_
  rintro e w12 ⟨rfl, hb12⟩
  go_wp2
  go_ret
  exact ⟨rfl, (by repeat (first | with_reducible exact Ab.refl _ | with_reducible assumption | with_reducible refine Ab.drew ?_ | with_reducible refine Ab.drewN ?_ _ | with_reducible refine Ab.alloc ?_ _ | with_reducible refine Ab.trans ?_ (by assumption) | with_reducible refine Ab.set ?_ (by first | (simp; done) | omega | (simp; omega)) _))⟩
end Go.Proofs.Ytakgglpfgpkboaa
