/- SlotsNames: regions 19 to 28. Written by genslots.py. Own work. -/
import Derived.Test.YtakgglpfgpkboaaSNm29
set_option linter.unusedVariables false
set_option linter.unusedSimpArgs false
namespace Go.Proofs.Ytakgglpfgpkboaa
open Go.RowKit

/-- Behind region 28. -/
def SK28 (w : World) (act : Act) (wx : World) : Prop :=
  act.defers = [] ∧ act.tmps.size = 309 ∧ act.tmps.getD 21 undef = .bool true ∧ act.tmps.getD 36 undef = .bool true ∧ act.tmps.getD 48 undef = .bool true ∧ Ab w wx
noncomputable def stail19 : Code := ((Try.f3.body.bind (tailR 19)).getD .skip)
set_option maxRecDepth 1000000 in
set_option maxHeartbeats 9600000 in
theorem spart19 (w w0 : World) (HA0 : Ab w w0) (T : Array Value) (hsT : T.size = 309) (f21 : T.getD 21 undef = .bool true) (f36 : T.getD 36 undef = .bool true) :
    Code.wp Try.prog stail19 (bodyPost Try.prog Try.f3 (fun e w' => e = .returned (.bool true) ∧ Ab w w')) ⟨T, []⟩ w0 := by
  have kc := fun (w : World) (C : Array Value) (n c g : Nat) (hg : g = w.heap.size) => Joins.run_convert_bytes_const_at (P := Try.prog) w 22 5 C n c g hg Try.underlying22 Try.underlying5
  obtain ⟨g, hg, hT⟩ := opq_lit 309 T hsT
  rw [lit_309] at hT
  have e21 := (hg 21).trans f21
  have e36 := (hg 36).trans f36
  clear hg hsT f21 f36
  subst hT
  rw [e21, e36]
  clear e21 e36
  conv => arg 2; whnf
  go_wp2_with fail
  refine (sgiven_any _).mono ?_
  rintro e w1 ⟨m1, rfl, M1, hb1⟩
  have al1 : Ab w0 w1 := Ab.trans (by (repeat (first | with_reducible exact Ab.refl _ | with_reducible assumption | with_reducible refine Ab.drew ?_ | with_reducible refine Ab.drewN ?_ _ | with_reducible refine Ab.alloc ?_ _ | with_reducible refine Ab.trans ?_ (by assumption) | with_reducible refine Ab.set ?_ (by first | (simp; done) | omega | (simp; omega)) _))) hb1
  have HA1 := HA0.trans al1
  clear HA0 al1 hb1
  go_wp2_with fail
  refine (sopen_any ⟨m1.C, m1.D, m1.A, m1.B, m1.cc, m1.cd, m1.ca, m1.cb⟩ Slots.Wrong _ ⟨M1.c.ab (by repeat (first | with_reducible exact Ab.refl _ | with_reducible assumption | with_reducible refine Ab.drew ?_ | with_reducible refine Ab.drewN ?_ _ | with_reducible refine Ab.alloc ?_ _ | with_reducible refine Ab.trans ?_ (by assumption) | with_reducible refine Ab.set ?_ (by first | (simp; done) | omega | (simp; omega)) _)), M1.d.ab (by repeat (first | with_reducible exact Ab.refl _ | with_reducible assumption | with_reducible refine Ab.drew ?_ | with_reducible refine Ab.drewN ?_ _ | with_reducible refine Ab.alloc ?_ _ | with_reducible refine Ab.trans ?_ (by assumption) | with_reducible refine Ab.set ?_ (by first | (simp; done) | omega | (simp; omega)) _)), M1.a.ab (by repeat (first | with_reducible exact Ab.refl _ | with_reducible assumption | with_reducible refine Ab.drew ?_ | with_reducible refine Ab.drewN ?_ _ | with_reducible refine Ab.alloc ?_ _ | with_reducible refine Ab.trans ?_ (by assumption) | with_reducible refine Ab.set ?_ (by first | (simp; done) | omega | (simp; omega)) _)), M1.b.ab (by repeat (first | with_reducible exact Ab.refl _ | with_reducible assumption | with_reducible refine Ab.drew ?_ | with_reducible refine Ab.drewN ?_ _ | with_reducible refine Ab.alloc ?_ _ | with_reducible refine Ab.trans ?_ (by assumption) | with_reducible refine Ab.set ?_ (by first | (simp; done) | omega | (simp; omega)) _)), M1.lc, M1.ld, M1.la, M1.lb, M1.sc, M1.sd, M1.sa, M1.sb⟩).mono ?_
  rintro e w2 ⟨r2, e2, m2, hr2, rfl, M2', hb2⟩
  have M2 := M2'.zero
  clear M2' M1
  obtain ⟨x1, x2⟩ := Prod.mk.inj (hr2.out.trans Slots.nm_wrong)
  obtain rfl : r2 = _ := x1
  obtain rfl : e2 = _ := x2
  clear hr2
  have al2 : Ab w1 w2 := Ab.trans (by (repeat (first | with_reducible exact Ab.refl _ | with_reducible assumption | with_reducible refine Ab.drew ?_ | with_reducible refine Ab.drewN ?_ _ | with_reducible refine Ab.alloc ?_ _ | with_reducible refine Ab.trans ?_ (by assumption) | with_reducible refine Ab.set ?_ (by first | (simp; done) | omega | (simp; omega)) _))) hb2
  have HA2 := HA1.trans al2
  clear HA1 al2 hb2
  go_wp2_with fail
  refine (load_any m2 Slots.Wrong1 _ (M2.ab (by repeat (first | with_reducible exact Ab.refl _ | with_reducible assumption | with_reducible refine Ab.drew ?_ | with_reducible refine Ab.drewN ?_ _ | with_reducible refine Ab.alloc ?_ _ | with_reducible refine Ab.trans ?_ (by assumption) | with_reducible refine Ab.set ?_ (by first | (simp; done) | omega | (simp; omega)) _)))).mono ?_
  rintro e w3 ⟨n3, e3, b3, A3, c3, hr3, rfl, hA3, hc3, hl3, hb3⟩
  obtain ⟨x1, x2⟩ := Prod.mk.inj (hr3.out.trans Slots.nm_none)
  obtain ⟨x3, x4⟩ := Prod.mk.inj x2
  obtain rfl : n3 = _ := x1
  obtain rfl : b3 = _ := x3
  obtain rfl : e3 = _ := x4
  clear hr3 x2 hA3
  have al3 : Ab w2 w3 := Ab.trans (by (repeat (first | with_reducible exact Ab.refl _ | with_reducible assumption | with_reducible refine Ab.drew ?_ | with_reducible refine Ab.drewN ?_ _ | with_reducible refine Ab.alloc ?_ _ | with_reducible refine Ab.trans ?_ (by assumption) | with_reducible refine Ab.set ?_ (by first | (simp; done) | omega | (simp; omega)) _))) hb3
  have M2 := M2.ab al3
  have H38 : SlB w3 w2.heap.size (m2) (Slots.Wrong1) := (SlB.box (w := w2.alloc (.cells #[.slice (m2).A (Slots.Wrong1).a.s.length (m2).ca, .slice (m2).B (Slots.Wrong1).a.t.length (m2).cb, .int .i64 (Slots.Wrong1).a.cap, .bool (Slots.Wrong1).a.down, .slice (m2).C (Slots.Wrong1).b.s.length (m2).cc, .slice (m2).D (Slots.Wrong1).b.t.length (m2).cd, .int .i64 (Slots.Wrong1).b.cap, .bool (Slots.Wrong1).b.down, .int .i64 (Slots.Wrong1).n] 27)) (new_plain rfl)).ab (Ab.trans (by (repeat (first | with_reducible exact Ab.refl _ | with_reducible assumption | with_reducible refine Ab.drew ?_ | with_reducible refine Ab.drewN ?_ _ | with_reducible refine Ab.alloc ?_ _ | with_reducible refine Ab.trans ?_ (by assumption) | with_reducible refine Ab.set ?_ (by first | (simp; done) | omega | (simp; omega)) _))) hb3)
  have HA3 := HA2.trans al3
  clear HA2 al3 hb3
  clear M2
  go_wp2_with fail
  refine (sgiven_any _).mono ?_
  rintro e w4 ⟨m4, rfl, M4, hb4⟩
  have al4 : Ab w3 w4 := Ab.trans (by (repeat (first | with_reducible exact Ab.refl _ | with_reducible assumption | with_reducible refine Ab.drew ?_ | with_reducible refine Ab.drewN ?_ _ | with_reducible refine Ab.alloc ?_ _ | with_reducible refine Ab.trans ?_ (by assumption) | with_reducible refine Ab.set ?_ (by first | (simp; done) | omega | (simp; omega)) _))) hb4
  have H38 := H38.ab al4
  have HA4 := HA3.trans al4
  clear HA3 al4 hb4
  go_wp2_with fail
  refine (sgiven_any _).mono ?_
  rintro e w5 ⟨m5, rfl, M5, hb5⟩
  have al5 : Ab w4 w5 := Ab.trans (by (repeat (first | with_reducible exact Ab.refl _ | with_reducible assumption | with_reducible refine Ab.drew ?_ | with_reducible refine Ab.drewN ?_ _ | with_reducible refine Ab.alloc ?_ _ | with_reducible refine Ab.trans ?_ (by assumption) | with_reducible refine Ab.set ?_ (by first | (simp; done) | omega | (simp; omega)) _))) hb5
  have H38 := H38.ab al5
  have M4 := M4.ab al5
  have HA5 := HA4.trans al5
  clear HA4 al5 hb5
  go_wp2_with fail
  refine (sgiven_any _).mono ?_
  rintro e w6 ⟨m6, rfl, M6, hb6⟩
  have al6 : Ab w5 w6 := Ab.trans (by (repeat (first | with_reducible exact Ab.refl _ | with_reducible assumption | with_reducible refine Ab.drew ?_ | with_reducible refine Ab.drewN ?_ _ | with_reducible refine Ab.alloc ?_ _ | with_reducible refine Ab.trans ?_ (by assumption) | with_reducible refine Ab.set ?_ (by first | (simp; done) | omega | (simp; omega)) _))) hb6
  have H38 := H38.ab al6
  have M4 := M4.ab al6
  have M5 := M5.ab al6
  have HA6 := HA5.trans al6
  clear HA5 al6 hb6
  go_wp2_with fail
  refine (sopen_any AM.nil Slots.SWild _ ⟨RB.nil, RB.nil, RB.nil, RB.nil, Nat.le_refl _, Nat.le_refl _, Nat.le_refl _, Nat.le_refl _, Nat.zero_le _, Nat.zero_le _, Nat.zero_le _, Nat.zero_le _⟩).mono ?_
  rintro e w7 ⟨r7, e7, m7, hr7, rfl, M7, hb7⟩
  obtain ⟨x1, x2⟩ := Prod.mk.inj (hr7.out.trans Slots.nm_wild)
  obtain rfl : r7 = _ := x1
  obtain rfl : e7 = _ := x2
  clear hr7 M7
  obtain ⟨mT, hmT⟩ : ∃ mT : AM, mT = ⟨m4.A, m4.B, m4.C, (some ⟨w6.heap.size + 1 + 1 + 1, 0, none⟩), m4.ca, m4.cb, m4.cc, 1⟩ := ⟨_, rfl⟩
  have H43 : SlB w7 w6.heap.size mT Slots.STail := by rw [hmT]; exact (SlB.box (w := w6.alloc (.cells #[.slice m4.A Slots.G2.a.s.length m4.ca, .slice m4.B Slots.G2.a.t.length m4.cb, .int .i64 Slots.G2.a.cap, .bool Slots.G2.a.down, .slice m4.C Slots.G2.b.s.length m4.cc, .slice (some ⟨w6.heap.size + 1 + 1 + 1, 0, none⟩) 1 1, .int .i64 Slots.G2.b.cap, .bool Slots.G2.b.down, .int .i64 Slots.G2.n] 27)) (new_plain rfl)).ab (Ab.trans (by (repeat (first | with_reducible exact Ab.refl _ | with_reducible assumption | with_reducible refine Ab.drew ?_ | with_reducible refine Ab.drewN ?_ _ | with_reducible refine Ab.alloc ?_ _ | with_reducible refine Ab.trans ?_ (by assumption) | with_reducible refine Ab.set ?_ (by first | (simp; done) | omega | (simp; omega)) _))) hb7)
  have H44 : SlB w7 (w6.heap.size + 1) m5 Slots.SDown := (SlB.box (w := (w6.alloc (.cells #[.slice m4.A Slots.G2.a.s.length m4.ca, .slice m4.B Slots.G2.a.t.length m4.cb, .int .i64 Slots.G2.a.cap, .bool Slots.G2.a.down, .slice m4.C Slots.G2.b.s.length m4.cc, .slice (some ⟨w6.heap.size + 1 + 1 + 1, 0, none⟩) 1 1, .int .i64 Slots.G2.b.cap, .bool Slots.G2.b.down, .int .i64 Slots.G2.n] 27)).alloc (.cells #[.slice m5.A Slots.G2.a.s.length m5.ca, .slice m5.B Slots.G2.a.t.length m5.cb, .int .i64 Slots.G2.a.cap, .bool true, .slice m5.C Slots.G2.b.s.length m5.cc, .slice m5.D Slots.G2.b.t.length m5.cd, .int .i64 Slots.G2.b.cap, .bool Slots.G2.b.down, .int .i64 Slots.G2.n] 27)) (new_plain (by simp))).ab (Ab.trans (by (repeat (first | with_reducible exact Ab.refl _ | with_reducible assumption | with_reducible refine Ab.drew ?_ | with_reducible refine Ab.drewN ?_ _ | with_reducible refine Ab.alloc ?_ _ | with_reducible refine Ab.trans ?_ (by assumption) | with_reducible refine Ab.set ?_ (by first | (simp; done) | omega | (simp; omega)) _))) hb7)
  have H45 : SlB w7 (w6.heap.size + 1 + 1) m6 Slots.SZero := (SlB.box (w := ((w6.alloc (.cells #[.slice m4.A Slots.G2.a.s.length m4.ca, .slice m4.B Slots.G2.a.t.length m4.cb, .int .i64 Slots.G2.a.cap, .bool Slots.G2.a.down, .slice m4.C Slots.G2.b.s.length m4.cc, .slice (some ⟨w6.heap.size + 1 + 1 + 1, 0, none⟩) 1 1, .int .i64 Slots.G2.b.cap, .bool Slots.G2.b.down, .int .i64 Slots.G2.n] 27)).alloc (.cells #[.slice m5.A Slots.G2.a.s.length m5.ca, .slice m5.B Slots.G2.a.t.length m5.cb, .int .i64 Slots.G2.a.cap, .bool true, .slice m5.C Slots.G2.b.s.length m5.cc, .slice m5.D Slots.G2.b.t.length m5.cd, .int .i64 Slots.G2.b.cap, .bool Slots.G2.b.down, .int .i64 Slots.G2.n] 27)).alloc (.cells #[.slice m6.A Slots.G2.a.s.length m6.ca, .slice m6.B Slots.G2.a.t.length m6.cb, .int .i64 Slots.G2.a.cap, .bool Slots.G2.a.down, .slice m6.C Slots.G2.b.s.length m6.cc, .slice m6.D Slots.G2.b.t.length m6.cd, .int .i64 Slots.G2.b.cap, .bool Slots.G2.b.down, .int .i64 0] 27)) (new_plain (by simp))).ab (Ab.trans (by (repeat (first | with_reducible exact Ab.refl _ | with_reducible assumption | with_reducible refine Ab.drew ?_ | with_reducible refine Ab.drewN ?_ _ | with_reducible refine Ab.alloc ?_ _ | with_reducible refine Ab.trans ?_ (by assumption) | with_reducible refine Ab.set ?_ (by first | (simp; done) | omega | (simp; omega)) _))) hb7)
  have RL : RB w7 0 (some ⟨w6.heap.size + 1 + 1 + 1, 0, none⟩) [1] := RB.blk (T := 5) (fr := (0, 0)) (lo := 0) (by refine old_ab hb7 ?_; refine new_plain ?_; simp) (by omega)
  have al7 : Ab w6 w7 := Ab.trans (by (repeat (first | with_reducible exact Ab.refl _ | with_reducible assumption | with_reducible refine Ab.drew ?_ | with_reducible refine Ab.drewN ?_ _ | with_reducible refine Ab.alloc ?_ _ | with_reducible refine Ab.trans ?_ (by assumption) | with_reducible refine Ab.set ?_ (by first | (simp; done) | omega | (simp; omega)) _))) hb7
  have H38 := H38.ab al7
  have M4 := M4.ab al7
  have M5 := M5.ab al7
  have M6 := M6.ab al7
  have HA7 := HA6.trans al7
  clear HA6 al7 hb7
  have MT : SlM w7 0 mT Slots.STail := by rw [hmT]; exact ⟨M4.a, M4.b, M4.c, RL, M4.la, M4.lb, M4.lc, (show ([1] : List UInt8).length ≤ 1 by decide), M4.sa, M4.sb, M4.sc, by decide⟩
  have MD : SlM w7 0 m5 Slots.SDown := ⟨M5.a, RB.nil, M5.c, M5.d, M5.la, Nat.zero_le _, M5.lc, M5.ld, M5.sa, Nat.zero_le _, M5.sc, M5.sd⟩
  have MZ : SlM w7 0 m6 Slots.SZero := M6.num 0
  clear RL hmT M4 M5 M6
  go_upto_region 28 with fail
  refine wp_cut (SK28 w) ?_ ?_
  rotate_left
  · intro J K' hJ hK'
    have d38 : w7.cell? ⟨w2.heap.size, 8, none⟩ = some (.int .i64 1) := H38.q8
    have kna := fun (o : Obj) (j : Nat) => World.cell?_alloc_lt w7 o ⟨w2.heap.size, j, none⟩ H38.lt
    have knb := fun (o : Obj) (j : Nat) => ((Ab.refl w7).alloc o).frozen (p := ⟨w2.heap.size, j, none⟩) H38.lt
    have Sy := H43
    obtain ⟨yq0, yq1, yq2, yq3, yq4, yq5, yq6, yq7, yq8, yg0, yg1, yg2, yg3, yg4, yg5, yg6, yg7, yg8⟩ := Sy
    (try simp only [AM.nil, Slots.zero, Disk.zero, List.length_nil] at yq0 yq1 yq2 yq3 yq4 yq5 yq6 yq7 yq8)
    have yna := fun (o : Obj) (j : Nat) => World.cell?_alloc_lt w7 o ⟨w6.heap.size, j, none⟩ H43.lt
    have ynb := fun (o : Obj) (j : Nat) => ((Ab.refl w7).alloc o).frozen (p := ⟨w6.heap.size, j, none⟩) H43.lt
    go_wp2_with fail
    refine (scheck_any mT Slots.STail _ (MT.ab (by repeat (first | with_reducible exact Ab.refl _ | with_reducible assumption | with_reducible refine Ab.drew ?_ | with_reducible refine Ab.drewN ?_ _ | with_reducible refine Ab.alloc ?_ _ | with_reducible refine Ab.trans ?_ (by assumption) | with_reducible refine Ab.set ?_ (by first | (simp; done) | omega | (simp; omega)) _)))).mono ?_
    rintro e w8 ⟨c8, hc8, rfl, hb8⟩
    obtain rfl : c8 = 8 := hc8.out.trans Slots.nm_tail
    clear hc8
    clear yq0 yq1 yq2 yq3 yq4 yq5 yq6 yq7 yq8 yg0 yg1 yg2 yg3 yg4 yg5 yg6 yg7 yg8
    clear yna ynb
    have al8 : Ab w7 w8 := Ab.trans (by (repeat (first | with_reducible exact Ab.refl _ | with_reducible assumption | with_reducible refine Ab.drew ?_ | with_reducible refine Ab.drewN ?_ _ | with_reducible refine Ab.alloc ?_ _ | with_reducible refine Ab.trans ?_ (by assumption) | with_reducible refine Ab.set ?_ (by first | (simp; done) | omega | (simp; omega)) _))) hb8
    have H38 := H38.ab al8
    have H43 := H43.ab al8
    have H44 := H44.ab al8
    have H45 := H45.ab al8
    have MT := MT.ab al8
    have MD := MD.ab al8
    have MZ := MZ.ab al8
    have HA8 := HA7.trans al8
    clear HA7 al8 hb8
    clear d38 kna knb
    clear H38
    have Sy := H44
    obtain ⟨yq0, yq1, yq2, yq3, yq4, yq5, yq6, yq7, yq8, yg0, yg1, yg2, yg3, yg4, yg5, yg6, yg7, yg8⟩ := Sy
    (try simp only [AM.nil, Slots.zero, Disk.zero, List.length_nil] at yq0 yq1 yq2 yq3 yq4 yq5 yq6 yq7 yq8)
    have yna := fun (o : Obj) (j : Nat) => World.cell?_alloc_lt w8 o ⟨(w6.heap.size + 1), j, none⟩ H44.lt
    have ynb := fun (o : Obj) (j : Nat) => ((Ab.refl w8).alloc o).frozen (p := ⟨(w6.heap.size + 1), j, none⟩) H44.lt
    go_wp2_with fail
    refine (scheck_any m5 Slots.SDown _ (MD.ab (by repeat (first | with_reducible exact Ab.refl _ | with_reducible assumption | with_reducible refine Ab.drew ?_ | with_reducible refine Ab.drewN ?_ _ | with_reducible refine Ab.alloc ?_ _ | with_reducible refine Ab.trans ?_ (by assumption) | with_reducible refine Ab.set ?_ (by first | (simp; done) | omega | (simp; omega)) _)))).mono ?_
    rintro e w9 ⟨c9, hc9, rfl, hb9⟩
    obtain rfl : c9 = 8 := hc9.out.trans Slots.nm_down
    clear hc9
    clear yq0 yq1 yq2 yq3 yq4 yq5 yq6 yq7 yq8 yg0 yg1 yg2 yg3 yg4 yg5 yg6 yg7 yg8
    clear yna ynb
    have al9 : Ab w8 w9 := Ab.trans (by (repeat (first | with_reducible exact Ab.refl _ | with_reducible assumption | with_reducible refine Ab.drew ?_ | with_reducible refine Ab.drewN ?_ _ | with_reducible refine Ab.alloc ?_ _ | with_reducible refine Ab.trans ?_ (by assumption) | with_reducible refine Ab.set ?_ (by first | (simp; done) | omega | (simp; omega)) _))) hb9
    have H43 := H43.ab al9
    have H44 := H44.ab al9
    have H45 := H45.ab al9
    have MT := MT.ab al9
    have MD := MD.ab al9
    have MZ := MZ.ab al9
    have HA9 := HA8.trans al9
    clear HA8 al9 hb9
    have Sy := H45
    obtain ⟨yq0, yq1, yq2, yq3, yq4, yq5, yq6, yq7, yq8, yg0, yg1, yg2, yg3, yg4, yg5, yg6, yg7, yg8⟩ := Sy
    (try simp only [AM.nil, Slots.zero, Disk.zero, List.length_nil] at yq0 yq1 yq2 yq3 yq4 yq5 yq6 yq7 yq8)
    have yna := fun (o : Obj) (j : Nat) => World.cell?_alloc_lt w9 o ⟨(w6.heap.size + 1 + 1), j, none⟩ H45.lt
    have ynb := fun (o : Obj) (j : Nat) => ((Ab.refl w9).alloc o).frozen (p := ⟨(w6.heap.size + 1 + 1), j, none⟩) H45.lt
    go_wp2_with fail
    refine (scheck_any m6 Slots.SZero _ (MZ.ab (by repeat (first | with_reducible exact Ab.refl _ | with_reducible assumption | with_reducible refine Ab.drew ?_ | with_reducible refine Ab.drewN ?_ _ | with_reducible refine Ab.alloc ?_ _ | with_reducible refine Ab.trans ?_ (by assumption) | with_reducible refine Ab.set ?_ (by first | (simp; done) | omega | (simp; omega)) _)))).mono ?_
    rintro e w10 ⟨c10, hc10, rfl, hb10⟩
    obtain rfl : c10 = 8 := hc10.out.trans Slots.nm_zero
    clear hc10
    clear yq0 yq1 yq2 yq3 yq4 yq5 yq6 yq7 yq8 yg0 yg1 yg2 yg3 yg4 yg5 yg6 yg7 yg8
    clear yna ynb
    have al10 : Ab w9 w10 := Ab.trans (by (repeat (first | with_reducible exact Ab.refl _ | with_reducible assumption | with_reducible refine Ab.drew ?_ | with_reducible refine Ab.drewN ?_ _ | with_reducible refine Ab.alloc ?_ _ | with_reducible refine Ab.trans ?_ (by assumption) | with_reducible refine Ab.set ?_ (by first | (simp; done) | omega | (simp; omega)) _))) hb10
    have H43 := H43.ab al10
    have H44 := H44.ab al10
    have H45 := H45.ab al10
    have MT := MT.ab al10
    have MD := MD.ab al10
    have MZ := MZ.ab al10
    have HA10 := HA9.trans al10
    clear HA9 al10 hb10
    clear H45 MZ
    go_wp2_with fail
    refine (sgiven_any _).mono ?_
    rintro e w11 ⟨m11, rfl, M11, hb11⟩
    have al11 : Ab w10 w11 := Ab.trans (by (repeat (first | with_reducible exact Ab.refl _ | with_reducible assumption | with_reducible refine Ab.drew ?_ | with_reducible refine Ab.drewN ?_ _ | with_reducible refine Ab.alloc ?_ _ | with_reducible refine Ab.trans ?_ (by assumption) | with_reducible refine Ab.set ?_ (by first | (simp; done) | omega | (simp; omega)) _))) hb11
    have H43 := H43.ab al11
    have H44 := H44.ab al11
    have MT := MT.ab al11
    have MD := MD.ab al11
    have HA11 := HA10.trans al11
    clear HA10 al11 hb11
    go_wp2_with fail
    refine (scheck_any m11 Slots.G2 _ (M11.ab (by repeat (first | with_reducible exact Ab.refl _ | with_reducible assumption | with_reducible refine Ab.drew ?_ | with_reducible refine Ab.drewN ?_ _ | with_reducible refine Ab.alloc ?_ _ | with_reducible refine Ab.trans ?_ (by assumption) | with_reducible refine Ab.set ?_ (by first | (simp; done) | omega | (simp; omega)) _)))).mono ?_
    rintro e w12 ⟨c12, hc12, rfl, hb12⟩
    obtain rfl : c12 = 0 := hc12.out.trans Slots.nm_given
    clear hc12
    have al12 : Ab w11 w12 := Ab.trans (by (repeat (first | with_reducible exact Ab.refl _ | with_reducible assumption | with_reducible refine Ab.drew ?_ | with_reducible refine Ab.drewN ?_ _ | with_reducible refine Ab.alloc ?_ _ | with_reducible refine Ab.trans ?_ (by assumption) | with_reducible refine Ab.set ?_ (by first | (simp; done) | omega | (simp; omega)) _))) hb12
    have H43 := H43.ab al12
    have H44 := H44.ab al12
    have MT := MT.ab al12
    have MD := MD.ab al12
    have M11 := M11.ab al12
    have HA12 := HA11.trans al12
    clear HA11 al12 hb12
    clear M11
    have Sy := H44
    obtain ⟨yq0, yq1, yq2, yq3, yq4, yq5, yq6, yq7, yq8, yg0, yg1, yg2, yg3, yg4, yg5, yg6, yg7, yg8⟩ := Sy
    (try simp only [AM.nil, Slots.zero, Disk.zero, List.length_nil] at yq0 yq1 yq2 yq3 yq4 yq5 yq6 yq7 yq8)
    have yna := fun (o : Obj) (j : Nat) => World.cell?_alloc_lt w12 o ⟨(w6.heap.size + 1), j, none⟩ H44.lt
    have ynb := fun (o : Obj) (j : Nat) => ((Ab.refl w12).alloc o).frozen (p := ⟨(w6.heap.size + 1), j, none⟩) H44.lt
    go_wp2_with fail
    refine (loads_true m5 (Slots.SDown) _ (MD.ab (by repeat (first | with_reducible exact Ab.refl _ | with_reducible assumption | with_reducible refine Ab.drew ?_ | with_reducible refine Ab.drewN ?_ _ | with_reducible refine Ab.alloc ?_ _ | with_reducible refine Ab.trans ?_ (by assumption) | with_reducible refine Ab.set ?_ (by first | (simp; done) | omega | (simp; omega)) _))) 0 2 [98, 99] rfl Slots.lds_down).mono ?_
    rintro e w13 ⟨rfl, hb13⟩
    clear yq0 yq1 yq2 yq3 yq4 yq5 yq6 yq7 yq8 yg0 yg1 yg2 yg3 yg4 yg5 yg6 yg7 yg8
    clear yna ynb
    have al13 : Ab w12 w13 := Ab.trans (by (repeat (first | with_reducible exact Ab.refl _ | with_reducible assumption | with_reducible refine Ab.drew ?_ | with_reducible refine Ab.drewN ?_ _ | with_reducible refine Ab.alloc ?_ _ | with_reducible refine Ab.trans ?_ (by assumption) | with_reducible refine Ab.set ?_ (by first | (simp; done) | omega | (simp; omega)) _))) hb13
    have H43 := H43.ab al13
    have H44 := H44.ab al13
    have MT := MT.ab al13
    have MD := MD.ab al13
    have HA13 := HA12.trans al13
    clear HA12 al13 hb13
    have Sy := H43
    obtain ⟨yq0, yq1, yq2, yq3, yq4, yq5, yq6, yq7, yq8, yg0, yg1, yg2, yg3, yg4, yg5, yg6, yg7, yg8⟩ := Sy
    (try simp only [AM.nil, Slots.zero, Disk.zero, List.length_nil] at yq0 yq1 yq2 yq3 yq4 yq5 yq6 yq7 yq8)
    have yna := fun (o : Obj) (j : Nat) => World.cell?_alloc_lt w13 o ⟨w6.heap.size, j, none⟩ H43.lt
    have ynb := fun (o : Obj) (j : Nat) => ((Ab.refl w13).alloc o).frozen (p := ⟨w6.heap.size, j, none⟩) H43.lt
    go_wp2_with fail
    refine (loads_true mT Slots.STail _ (MT.ab (by repeat (first | with_reducible exact Ab.refl _ | with_reducible assumption | with_reducible refine Ab.drew ?_ | with_reducible refine Ab.drewN ?_ _ | with_reducible refine Ab.alloc ?_ _ | with_reducible refine Ab.trans ?_ (by assumption) | with_reducible refine Ab.set ?_ (by first | (simp; done) | omega | (simp; omega)) _))) 0 2 [98, 99] rfl Slots.lds_tail).mono ?_
    rintro e w14 ⟨rfl, hb14⟩
    clear yq0 yq1 yq2 yq3 yq4 yq5 yq6 yq7 yq8 yg0 yg1 yg2 yg3 yg4 yg5 yg6 yg7 yg8
    clear yna ynb
    have al14 : Ab w13 w14 := Ab.trans (by (repeat (first | with_reducible exact Ab.refl _ | with_reducible assumption | with_reducible refine Ab.drew ?_ | with_reducible refine Ab.drewN ?_ _ | with_reducible refine Ab.alloc ?_ _ | with_reducible refine Ab.trans ?_ (by assumption) | with_reducible refine Ab.set ?_ (by first | (simp; done) | omega | (simp; omega)) _))) hb14
    have H43 := H43.ab al14
    have H44 := H44.ab al14
    have MT := MT.ab al14
    have MD := MD.ab al14
    have HA14 := HA13.trans al14
    clear HA13 al14 hb14
    go_wp2
    refine Met.intro (hJ _ _ ?_)
    exact ⟨rfl, rfl, rfl, rfl, rfl, (by repeat (first | with_reducible exact Ab.refl _ | with_reducible assumption | with_reducible refine Ab.drew ?_ | with_reducible refine Ab.drewN ?_ _ | with_reducible refine Ab.alloc ?_ _ | with_reducible refine Ab.trans ?_ (by assumption) | with_reducible refine Ab.set ?_ (by first | (simp; done) | omega | (simp; omega)) _))⟩
  rename_i KK hKK
  rintro ⟨T2, d2⟩ wz ⟨hd2, hs2, f21, f36, f48, HAz⟩
  simp only at hd2 hs2 f21 f36 f48
  subst hd2
  refine hKK _ _ ?_
  exact spart29 w wz HAz T2 hs2 f21 f36 f48
end Go.Proofs.Ytakgglpfgpkboaa
