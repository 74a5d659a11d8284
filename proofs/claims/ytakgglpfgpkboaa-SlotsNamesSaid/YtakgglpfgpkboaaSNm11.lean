/- SlotsNames: regions 11 to 18. Written by genslots.py. Own work. -/
import Derived.Test.YtakgglpfgpkboaaSNm19
set_option linter.unusedVariables false
set_option linter.unusedSimpArgs false
namespace Go.Proofs.Ytakgglpfgpkboaa
open Go.RowKit

/-- Behind region 18. -/
def SK18 (w : World) (act : Act) (wx : World) : Prop :=
  act.defers = [] ∧ act.tmps.size = 309 ∧ act.tmps.getD 21 undef = .bool true ∧ act.tmps.getD 36 undef = .bool true ∧ Ab w wx
noncomputable def stail11 : Code := ((Try.f3.body.bind (tailR 11)).getD .skip)
set_option maxRecDepth 1000000 in
set_option maxHeartbeats 9600000 in
theorem spart11 (w w0 : World) (HA0 : Ab w w0) (T : Array Value) (hsT : T.size = 309) (f21 : T.getD 21 undef = .bool true) :
    Code.wp Try.prog stail11 (bodyPost Try.prog Try.f3 (fun e w' => e = .returned (.bool true) ∧ Ab w w')) ⟨T, []⟩ w0 := by
  have kc := fun (w : World) (C : Array Value) (n c g : Nat) (hg : g = w.heap.size) => Joins.run_convert_bytes_const_at (P := Try.prog) w 22 5 C n c g hg Try.underlying22 Try.underlying5
  obtain ⟨g, hg, hT⟩ := opq_lit 309 T hsT
  rw [lit_309] at hT
  have e21 := (hg 21).trans f21
  clear hg hsT f21
  subst hT
  rw [e21]
  clear e21
  conv => arg 2; whnf
  go_wp2_with fail
  refine (sgiven_any _).mono ?_
  rintro e w1 ⟨m1, rfl, M1, hb1⟩
  have al1 : Ab w0 w1 := Ab.trans (by (repeat (first | with_reducible exact Ab.refl _ | with_reducible assumption | with_reducible refine Ab.drew ?_ | with_reducible refine Ab.drewN ?_ _ | with_reducible refine Ab.alloc ?_ _ | with_reducible refine Ab.trans ?_ (by assumption) | with_reducible refine Ab.set ?_ (by first | (simp; done) | omega | (simp; omega)) _))) hb1
  have HA1 := HA0.trans al1
  clear HA0 al1 hb1
  go_wp2_with fail
  refine (shalf_any (m1) (Slots.G2) _ (M1.ab (by repeat (first | with_reducible exact Ab.refl _ | with_reducible assumption | with_reducible refine Ab.drew ?_ | with_reducible refine Ab.drewN ?_ _ | with_reducible refine Ab.alloc ?_ _ | with_reducible refine Ab.trans ?_ (by assumption) | with_reducible refine Ab.set ?_ (by first | (simp; done) | omega | (simp; omega)) _))) none [] 0 RB.nil (by simp) (4) (0)).mono ?_
  rintro e w2 ⟨r2, e2, m2, hr2, rfl, M2', hb2⟩
  have M2 := M2'.zero
  clear M2'
  obtain ⟨x1, x2⟩ := Prod.mk.inj (hr2.out.trans Slots.nm_h4)
  obtain rfl : r2 = _ := x1
  obtain rfl : e2 = _ := x2
  clear hr2
  have al2 : Ab w1 w2 := Ab.trans (by (repeat (first | with_reducible exact Ab.refl _ | with_reducible assumption | with_reducible refine Ab.drew ?_ | with_reducible refine Ab.drewN ?_ _ | with_reducible refine Ab.alloc ?_ _ | with_reducible refine Ab.trans ?_ (by assumption) | with_reducible refine Ab.set ?_ (by first | (simp; done) | omega | (simp; omega)) _))) hb2
  have M1 := M1.ab al2
  have HA2 := HA1.trans al2
  clear HA1 al2 hb2
  clear M1
  clear M2
  go_wp2_with fail
  refine (sgiven_any _).mono ?_
  rintro e w3 ⟨m3, rfl, M3, hb3⟩
  have al3 : Ab w2 w3 := Ab.trans (by (repeat (first | with_reducible exact Ab.refl _ | with_reducible assumption | with_reducible refine Ab.drew ?_ | with_reducible refine Ab.drewN ?_ _ | with_reducible refine Ab.alloc ?_ _ | with_reducible refine Ab.trans ?_ (by assumption) | with_reducible refine Ab.set ?_ (by first | (simp; done) | omega | (simp; omega)) _))) hb3
  have HA3 := HA2.trans al3
  clear HA2 al3 hb3
  go_wp2_with fail
  refine (shalf_any (m3) (Slots.G2) _ (M3.ab (by repeat (first | with_reducible exact Ab.refl _ | with_reducible assumption | with_reducible refine Ab.drew ?_ | with_reducible refine Ab.drewN ?_ _ | with_reducible refine Ab.alloc ?_ _ | with_reducible refine Ab.trans ?_ (by assumption) | with_reducible refine Ab.set ?_ (by first | (simp; done) | omega | (simp; omega)) _))) none [] 0 RB.nil (by simp) (-1) (0)).mono ?_
  rintro e w4 ⟨r4, e4, m4, hr4, rfl, M4', hb4⟩
  have M4 := M4'.zero
  clear M4'
  obtain ⟨x1, x2⟩ := Prod.mk.inj (hr4.out.trans Slots.nm_hm)
  obtain rfl : r4 = _ := x1
  obtain rfl : e4 = _ := x2
  clear hr4
  have al4 : Ab w3 w4 := Ab.trans (by (repeat (first | with_reducible exact Ab.refl _ | with_reducible assumption | with_reducible refine Ab.drew ?_ | with_reducible refine Ab.drewN ?_ _ | with_reducible refine Ab.alloc ?_ _ | with_reducible refine Ab.trans ?_ (by assumption) | with_reducible refine Ab.set ?_ (by first | (simp; done) | omega | (simp; omega)) _))) hb4
  have M3 := M3.ab al4
  have HA4 := HA3.trans al4
  clear HA3 al4 hb4
  clear M3
  clear M4
  go_wp2_with fail
  refine (sgiven_any _).mono ?_
  rintro e w5 ⟨m5, rfl, M5, hb5⟩
  have al5 : Ab w4 w5 := Ab.trans (by (repeat (first | with_reducible exact Ab.refl _ | with_reducible assumption | with_reducible refine Ab.drew ?_ | with_reducible refine Ab.drewN ?_ _ | with_reducible refine Ab.alloc ?_ _ | with_reducible refine Ab.trans ?_ (by assumption) | with_reducible refine Ab.set ?_ (by first | (simp; done) | omega | (simp; omega)) _))) hb5
  have HA5 := HA4.trans al5
  clear HA4 al5 hb5
  go_wp2_with fail
  refine (shalf_any (m5) (Slots.G2) _ (M5.ab (by repeat (first | with_reducible exact Ab.refl _ | with_reducible assumption | with_reducible refine Ab.drew ?_ | with_reducible refine Ab.drewN ?_ _ | with_reducible refine Ab.alloc ?_ _ | with_reducible refine Ab.trans ?_ (by assumption) | with_reducible refine Ab.set ?_ (by first | (simp; done) | omega | (simp; omega)) _))) none [] 0 RB.nil (by simp) (2) (13)).mono ?_
  rintro e w6 ⟨r6, e6, m6, hr6, rfl, M6', hb6⟩
  have M6 := M6'.zero
  clear M6'
  obtain ⟨x1, x2⟩ := Prod.mk.inj (hr6.out.trans Slots.nm_h2)
  obtain rfl : r6 = _ := x1
  obtain rfl : e6 = _ := x2
  clear hr6
  have al6 : Ab w5 w6 := Ab.trans (by (repeat (first | with_reducible exact Ab.refl _ | with_reducible assumption | with_reducible refine Ab.drew ?_ | with_reducible refine Ab.drewN ?_ _ | with_reducible refine Ab.alloc ?_ _ | with_reducible refine Ab.trans ?_ (by assumption) | with_reducible refine Ab.set ?_ (by first | (simp; done) | omega | (simp; omega)) _))) hb6
  have M5 := M5.ab al6
  have HA6 := HA5.trans al6
  clear HA5 al6 hb6
  clear M5
  clear M6
  go_wp2_with fail
  refine (sgiven_any _).mono ?_
  rintro e w7 ⟨m7, rfl, M7, hb7⟩
  have al7 : Ab w6 w7 := Ab.trans (by (repeat (first | with_reducible exact Ab.refl _ | with_reducible assumption | with_reducible refine Ab.drew ?_ | with_reducible refine Ab.drewN ?_ _ | with_reducible refine Ab.alloc ?_ _ | with_reducible refine Ab.trans ?_ (by assumption) | with_reducible refine Ab.set ?_ (by first | (simp; done) | omega | (simp; omega)) _))) hb7
  have HA7 := HA6.trans al7
  clear HA6 al7 hb7
  go_wp2_with fail
  refine (shalf_any (m7) (Slots.G2) _ (M7.ab (by repeat (first | with_reducible exact Ab.refl _ | with_reducible assumption | with_reducible refine Ab.drew ?_ | with_reducible refine Ab.drewN ?_ _ | with_reducible refine Ab.alloc ?_ _ | with_reducible refine Ab.trans ?_ (by assumption) | with_reducible refine Ab.set ?_ (by first | (simp; done) | omega | (simp; omega)) _))) none [] 0 RB.nil (by simp) (3) (1)).mono ?_
  rintro e w8 ⟨r8, e8, m8, hr8, rfl, M8', hb8⟩
  have M8 := M8'.zero
  clear M8'
  obtain ⟨x1, x2⟩ := Prod.mk.inj (hr8.out.trans Slots.nm_h3)
  obtain rfl : r8 = _ := x1
  obtain rfl : e8 = _ := x2
  clear hr8
  have al8 : Ab w7 w8 := Ab.trans (by (repeat (first | with_reducible exact Ab.refl _ | with_reducible assumption | with_reducible refine Ab.drew ?_ | with_reducible refine Ab.drewN ?_ _ | with_reducible refine Ab.alloc ?_ _ | with_reducible refine Ab.trans ?_ (by assumption) | with_reducible refine Ab.set ?_ (by first | (simp; done) | omega | (simp; omega)) _))) hb8
  have M7 := M7.ab al8
  have HA8 := HA7.trans al8
  clear HA7 al8 hb8
  clear M7
  clear M8
  go_wp2_with fail
  refine (sgiven_any _).mono ?_
  rintro e w9 ⟨m9, rfl, M9, hb9⟩
  have al9 : Ab w8 w9 := Ab.trans (by (repeat (first | with_reducible exact Ab.refl _ | with_reducible assumption | with_reducible refine Ab.drew ?_ | with_reducible refine Ab.drewN ?_ _ | with_reducible refine Ab.alloc ?_ _ | with_reducible refine Ab.trans ?_ (by assumption) | with_reducible refine Ab.set ?_ (by first | (simp; done) | omega | (simp; omega)) _))) hb9
  have HA9 := HA8.trans al9
  clear HA8 al9 hb9
  go_wp2_with fail
  refine (shalf_any (m9) (Slots.G2) _ (M9.ab (by repeat (first | with_reducible exact Ab.refl _ | with_reducible assumption | with_reducible refine Ab.drew ?_ | with_reducible refine Ab.drewN ?_ _ | with_reducible refine Ab.alloc ?_ _ | with_reducible refine Ab.trans ?_ (by assumption) | with_reducible refine Ab.set ?_ (by first | (simp; done) | omega | (simp; omega)) _))) none [] 0 RB.nil (by simp) (1) (0)).mono ?_
  rintro e w10 ⟨r10, e10, m10, hr10, rfl, M10', hb10⟩
  have M10 := M10'.zero
  clear M10'
  obtain ⟨x1, x2⟩ := Prod.mk.inj (hr10.out.trans Slots.nm_l1)
  obtain rfl : r10 = _ := x1
  obtain rfl : e10 = _ := x2
  clear hr10
  have al10 : Ab w9 w10 := Ab.trans (by (repeat (first | with_reducible exact Ab.refl _ | with_reducible assumption | with_reducible refine Ab.drew ?_ | with_reducible refine Ab.drewN ?_ _ | with_reducible refine Ab.alloc ?_ _ | with_reducible refine Ab.trans ?_ (by assumption) | with_reducible refine Ab.set ?_ (by first | (simp; done) | omega | (simp; omega)) _))) hb10
  have M9 := M9.ab al10
  have HA10 := HA9.trans al10
  clear HA9 al10 hb10
  clear M9
  go_wp2_with fail
  refine (sgiven_any _).mono ?_
  rintro e w11 ⟨m11, rfl, M11, hb11⟩
  have al11 : Ab w10 w11 := Ab.trans (by (repeat (first | with_reducible exact Ab.refl _ | with_reducible assumption | with_reducible refine Ab.drew ?_ | with_reducible refine Ab.drewN ?_ _ | with_reducible refine Ab.alloc ?_ _ | with_reducible refine Ab.trans ?_ (by assumption) | with_reducible refine Ab.set ?_ (by first | (simp; done) | omega | (simp; omega)) _))) hb11
  have M10 := M10.ab al11
  have H30 : SlB w11 w10.heap.size (m10) (Slots.GH []) := (SlB.box (w := w10.alloc (.cells #[.slice (m10).A (Slots.GH []).a.s.length (m10).ca, .slice (m10).B (Slots.GH []).a.t.length (m10).cb, .int .i64 (Slots.GH []).a.cap, .bool (Slots.GH []).a.down, .slice (m10).C (Slots.GH []).b.s.length (m10).cc, .slice (m10).D (Slots.GH []).b.t.length (m10).cd, .int .i64 (Slots.GH []).b.cap, .bool (Slots.GH []).b.down, .int .i64 (Slots.GH []).n] 27)) (new_plain rfl)).ab (Ab.trans (by (repeat (first | with_reducible exact Ab.refl _ | with_reducible assumption | with_reducible refine Ab.drew ?_ | with_reducible refine Ab.drewN ?_ _ | with_reducible refine Ab.alloc ?_ _ | with_reducible refine Ab.trans ?_ (by assumption) | with_reducible refine Ab.set ?_ (by first | (simp; done) | omega | (simp; omega)) _))) hb11)
  have HA11 := HA10.trans al11
  clear HA10 al11 hb11
  go_wp2_with fail
  refine (shalf_any (m11) (Slots.G2) _ (M11.ab (by repeat (first | with_reducible exact Ab.refl _ | with_reducible assumption | with_reducible refine Ab.drew ?_ | with_reducible refine Ab.drewN ?_ _ | with_reducible refine Ab.alloc ?_ _ | with_reducible refine Ab.trans ?_ (by assumption) | with_reducible refine Ab.set ?_ (by first | (simp; done) | omega | (simp; omega)) _))) (some ⟨w11.heap.size, 0, none⟩) [120] 1 (RB.blk (T := 5) (fr := (1, 2)) (lo := 0) (by repeat (first | with_reducible refine old_set ?_ (by first | (simp; done) | omega | (simp; omega)) | exact new_plain (by first | (simp; done) | omega | (simp; omega)) | with_reducible refine old_alloc ?_ | with_reducible refine old_ab (by assumption) ?_)) (by omega)) (by simp) (3) (0)).mono ?_
  rintro e w12 ⟨r12, e12, m12, hr12, rfl, M12', hb12⟩
  have M12 := M12'.zero
  clear M12'
  obtain ⟨x1, x2⟩ := Prod.mk.inj (hr12.out.trans Slots.nm_l3)
  obtain rfl : r12 = _ := x1
  obtain rfl : e12 = _ := x2
  clear hr12
  have al12 : Ab w11 w12 := Ab.trans (by (repeat (first | with_reducible exact Ab.refl _ | with_reducible assumption | with_reducible refine Ab.drew ?_ | with_reducible refine Ab.drewN ?_ _ | with_reducible refine Ab.alloc ?_ _ | with_reducible refine Ab.trans ?_ (by assumption) | with_reducible refine Ab.set ?_ (by first | (simp; done) | omega | (simp; omega)) _))) hb12
  have H30 := H30.ab al12
  have M10 := M10.ab al12
  have M11 := M11.ab al12
  have HA12 := HA11.trans al12
  clear HA11 al12 hb12
  clear M11
  go_wp2_with fail
  refine (sgiven_any _).mono ?_
  rintro e w13 ⟨m13, rfl, M13, hb13⟩
  have al13 : Ab w12 w13 := Ab.trans (by (repeat (first | with_reducible exact Ab.refl _ | with_reducible assumption | with_reducible refine Ab.drew ?_ | with_reducible refine Ab.drewN ?_ _ | with_reducible refine Ab.alloc ?_ _ | with_reducible refine Ab.trans ?_ (by assumption) | with_reducible refine Ab.set ?_ (by first | (simp; done) | omega | (simp; omega)) _))) hb13
  have H30 := H30.ab al13
  have M10 := M10.ab al13
  have M12 := M12.ab al13
  have H32 : SlB w13 w12.heap.size (m12) (Slots.GH (Frame.enc ⟨3, [120]⟩)) := (SlB.box (w := w12.alloc (.cells #[.slice (m12).A (Slots.GH (Frame.enc ⟨3, [120]⟩)).a.s.length (m12).ca, .slice (m12).B (Slots.GH (Frame.enc ⟨3, [120]⟩)).a.t.length (m12).cb, .int .i64 (Slots.GH (Frame.enc ⟨3, [120]⟩)).a.cap, .bool (Slots.GH (Frame.enc ⟨3, [120]⟩)).a.down, .slice (m12).C (Slots.GH (Frame.enc ⟨3, [120]⟩)).b.s.length (m12).cc, .slice (m12).D (Slots.GH (Frame.enc ⟨3, [120]⟩)).b.t.length (m12).cd, .int .i64 (Slots.GH (Frame.enc ⟨3, [120]⟩)).b.cap, .bool (Slots.GH (Frame.enc ⟨3, [120]⟩)).b.down, .int .i64 (Slots.GH (Frame.enc ⟨3, [120]⟩)).n] 27)) (new_plain rfl)).ab (Ab.trans (by (repeat (first | with_reducible exact Ab.refl _ | with_reducible assumption | with_reducible refine Ab.drew ?_ | with_reducible refine Ab.drewN ?_ _ | with_reducible refine Ab.alloc ?_ _ | with_reducible refine Ab.trans ?_ (by assumption) | with_reducible refine Ab.set ?_ (by first | (simp; done) | omega | (simp; omega)) _))) hb13)
  have HA13 := HA12.trans al13
  clear HA12 al13 hb13
  go_wp2_with fail
  refine (shalf_any (m13) (Slots.G2) _ (M13.ab (by repeat (first | with_reducible exact Ab.refl _ | with_reducible assumption | with_reducible refine Ab.drew ?_ | with_reducible refine Ab.drewN ?_ _ | with_reducible refine Ab.alloc ?_ _ | with_reducible refine Ab.trans ?_ (by assumption) | with_reducible refine Ab.set ?_ (by first | (simp; done) | omega | (simp; omega)) _))) (some ⟨w13.heap.size, 0, none⟩) [120] 1 (RB.blk (T := 5) (fr := (1, 2)) (lo := 0) (by repeat (first | with_reducible refine old_set ?_ (by first | (simp; done) | omega | (simp; omega)) | exact new_plain (by first | (simp; done) | omega | (simp; omega)) | with_reducible refine old_alloc ?_ | with_reducible refine old_ab (by assumption) ?_)) (by omega)) (by simp) (0) (0)).mono ?_
  rintro e w14 ⟨r14, e14, m14, hr14, rfl, M14', hb14⟩
  have M14 := M14'.zero
  clear M14'
  obtain ⟨x1, x2⟩ := Prod.mk.inj (hr14.out.trans Slots.nm_l0)
  obtain rfl : r14 = _ := x1
  obtain rfl : e14 = _ := x2
  clear hr14
  have al14 : Ab w13 w14 := Ab.trans (by (repeat (first | with_reducible exact Ab.refl _ | with_reducible assumption | with_reducible refine Ab.drew ?_ | with_reducible refine Ab.drewN ?_ _ | with_reducible refine Ab.alloc ?_ _ | with_reducible refine Ab.trans ?_ (by assumption) | with_reducible refine Ab.set ?_ (by first | (simp; done) | omega | (simp; omega)) _))) hb14
  have H30 := H30.ab al14
  have H32 := H32.ab al14
  have M10 := M10.ab al14
  have M12 := M12.ab al14
  have M13 := M13.ab al14
  have HA14 := HA13.trans al14
  clear HA13 al14 hb14
  clear M13
  go_upto_region 18 with fail
  refine wp_cut (SK18 w) ?_ ?_
  rotate_left
  · intro J K' hJ hK'
    have Sy := H30
    obtain ⟨yq0, yq1, yq2, yq3, yq4, yq5, yq6, yq7, yq8, yg0, yg1, yg2, yg3, yg4, yg5, yg6, yg7, yg8⟩ := Sy
    (try simp only [AM.nil, Slots.zero, Disk.zero, List.length_nil] at yq0 yq1 yq2 yq3 yq4 yq5 yq6 yq7 yq8)
    have yna := fun (o : Obj) (j : Nat) => World.cell?_alloc_lt w14 o ⟨w10.heap.size, j, none⟩ H30.lt
    have ynb := fun (o : Obj) (j : Nat) => ((Ab.refl w14).alloc o).frozen (p := ⟨w10.heap.size, j, none⟩) H30.lt
    go_wp2_with fail
    refine (loads_true m10 (Slots.GH []) _ (M10.ab (by repeat (first | with_reducible exact Ab.refl _ | with_reducible assumption | with_reducible refine Ab.drew ?_ | with_reducible refine Ab.drewN ?_ _ | with_reducible refine Ab.alloc ?_ _ | with_reducible refine Ab.trans ?_ (by assumption) | with_reducible refine Ab.set ?_ (by first | (simp; done) | omega | (simp; omega)) _))) 0 2 [98, 99] rfl Slots.lds_l1).mono ?_
    rintro e w15 ⟨rfl, hb15⟩
    clear yq0 yq1 yq2 yq3 yq4 yq5 yq6 yq7 yq8 yg0 yg1 yg2 yg3 yg4 yg5 yg6 yg7 yg8
    clear yna ynb
    have al15 : Ab w14 w15 := Ab.trans (by (repeat (first | with_reducible exact Ab.refl _ | with_reducible assumption | with_reducible refine Ab.drew ?_ | with_reducible refine Ab.drewN ?_ _ | with_reducible refine Ab.alloc ?_ _ | with_reducible refine Ab.trans ?_ (by assumption) | with_reducible refine Ab.set ?_ (by first | (simp; done) | omega | (simp; omega)) _))) hb15
    have H30 := H30.ab al15
    have H32 := H32.ab al15
    have M10 := M10.ab al15
    have M12 := M12.ab al15
    have M14 := M14.ab al15
    have H34 : SlB w15 w14.heap.size (m14) (Slots.GH (Frame.enc ⟨1, [97]⟩)) := (SlB.box (w := w14.alloc (.cells #[.slice (m14).A (Slots.GH (Frame.enc ⟨1, [97]⟩)).a.s.length (m14).ca, .slice (m14).B (Slots.GH (Frame.enc ⟨1, [97]⟩)).a.t.length (m14).cb, .int .i64 (Slots.GH (Frame.enc ⟨1, [97]⟩)).a.cap, .bool (Slots.GH (Frame.enc ⟨1, [97]⟩)).a.down, .slice (m14).C (Slots.GH (Frame.enc ⟨1, [97]⟩)).b.s.length (m14).cc, .slice (m14).D (Slots.GH (Frame.enc ⟨1, [97]⟩)).b.t.length (m14).cd, .int .i64 (Slots.GH (Frame.enc ⟨1, [97]⟩)).b.cap, .bool (Slots.GH (Frame.enc ⟨1, [97]⟩)).b.down, .int .i64 (Slots.GH (Frame.enc ⟨1, [97]⟩)).n] 27)) (new_plain rfl)).ab (Ab.trans (by (repeat (first | with_reducible exact Ab.refl _ | with_reducible assumption | with_reducible refine Ab.drew ?_ | with_reducible refine Ab.drewN ?_ _ | with_reducible refine Ab.alloc ?_ _ | with_reducible refine Ab.trans ?_ (by assumption) | with_reducible refine Ab.set ?_ (by first | (simp; done) | omega | (simp; omega)) _))) hb15)
    have HA15 := HA14.trans al15
    clear HA14 al15 hb15
    have Sy := H32
    obtain ⟨yq0, yq1, yq2, yq3, yq4, yq5, yq6, yq7, yq8, yg0, yg1, yg2, yg3, yg4, yg5, yg6, yg7, yg8⟩ := Sy
    (try simp only [AM.nil, Slots.zero, Disk.zero, List.length_nil] at yq0 yq1 yq2 yq3 yq4 yq5 yq6 yq7 yq8)
    have yna := fun (o : Obj) (j : Nat) => World.cell?_alloc_lt w15 o ⟨w12.heap.size, j, none⟩ H32.lt
    have ynb := fun (o : Obj) (j : Nat) => ((Ab.refl w15).alloc o).frozen (p := ⟨w12.heap.size, j, none⟩) H32.lt
    go_wp2_with fail
    refine (loads_true m12 (Slots.GH (Frame.enc ⟨3, [120]⟩)) _ (M12.ab (by repeat (first | with_reducible exact Ab.refl _ | with_reducible assumption | with_reducible refine Ab.drew ?_ | with_reducible refine Ab.drewN ?_ _ | with_reducible refine Ab.alloc ?_ _ | with_reducible refine Ab.trans ?_ (by assumption) | with_reducible refine Ab.set ?_ (by first | (simp; done) | omega | (simp; omega)) _))) 0 3 [120] rfl Slots.lds_l3).mono ?_
    rintro e w16 ⟨rfl, hb16⟩
    clear yq0 yq1 yq2 yq3 yq4 yq5 yq6 yq7 yq8 yg0 yg1 yg2 yg3 yg4 yg5 yg6 yg7 yg8
    clear yna ynb
    have al16 : Ab w15 w16 := Ab.trans (by (repeat (first | with_reducible exact Ab.refl _ | with_reducible assumption | with_reducible refine Ab.drew ?_ | with_reducible refine Ab.drewN ?_ _ | with_reducible refine Ab.alloc ?_ _ | with_reducible refine Ab.trans ?_ (by assumption) | with_reducible refine Ab.set ?_ (by first | (simp; done) | omega | (simp; omega)) _))) hb16
    have H30 := H30.ab al16
    have H32 := H32.ab al16
    have H34 := H34.ab al16
    have M10 := M10.ab al16
    have M12 := M12.ab al16
    have M14 := M14.ab al16
    have HA16 := HA15.trans al16
    clear HA15 al16 hb16
    have Sy := H34
    obtain ⟨yq0, yq1, yq2, yq3, yq4, yq5, yq6, yq7, yq8, yg0, yg1, yg2, yg3, yg4, yg5, yg6, yg7, yg8⟩ := Sy
    (try simp only [AM.nil, Slots.zero, Disk.zero, List.length_nil] at yq0 yq1 yq2 yq3 yq4 yq5 yq6 yq7 yq8)
    have yna := fun (o : Obj) (j : Nat) => World.cell?_alloc_lt w16 o ⟨w14.heap.size, j, none⟩ H34.lt
    have ynb := fun (o : Obj) (j : Nat) => ((Ab.refl w16).alloc o).frozen (p := ⟨w14.heap.size, j, none⟩) H34.lt
    go_wp2_with fail
    refine (loads_true m14 (Slots.GH (Frame.enc ⟨1, [97]⟩)) _ (M14.ab (by repeat (first | with_reducible exact Ab.refl _ | with_reducible assumption | with_reducible refine Ab.drew ?_ | with_reducible refine Ab.drewN ?_ _ | with_reducible refine Ab.alloc ?_ _ | with_reducible refine Ab.trans ?_ (by assumption) | with_reducible refine Ab.set ?_ (by first | (simp; done) | omega | (simp; omega)) _))) 0 2 [98, 99] rfl Slots.lds_l0).mono ?_
    rintro e w17 ⟨rfl, hb17⟩
    clear yq0 yq1 yq2 yq3 yq4 yq5 yq6 yq7 yq8 yg0 yg1 yg2 yg3 yg4 yg5 yg6 yg7 yg8
    clear yna ynb
    have al17 : Ab w16 w17 := Ab.trans (by (repeat (first | with_reducible exact Ab.refl _ | with_reducible assumption | with_reducible refine Ab.drew ?_ | with_reducible refine Ab.drewN ?_ _ | with_reducible refine Ab.alloc ?_ _ | with_reducible refine Ab.trans ?_ (by assumption) | with_reducible refine Ab.set ?_ (by first | (simp; done) | omega | (simp; omega)) _))) hb17
    have H30 := H30.ab al17
    have H32 := H32.ab al17
    have H34 := H34.ab al17
    have M10 := M10.ab al17
    have M12 := M12.ab al17
    have M14 := M14.ab al17
    have HA17 := HA16.trans al17
    clear HA16 al17 hb17
    have d3 : w17.cell? ⟨w10.heap.size, 3, none⟩ = some (.bool true) := H30.q3
    have d7 : w17.cell? ⟨w10.heap.size, 7, none⟩ = some (.bool true) := H30.q7
    have d8 : w17.cell? ⟨w10.heap.size, 8, none⟩ = some (.int .i64 3) := H30.q8
    go_wp2
    refine Met.intro (hJ _ _ ?_)
    exact ⟨rfl, rfl, rfl, rfl, (by repeat (first | with_reducible exact Ab.refl _ | with_reducible assumption | with_reducible refine Ab.drew ?_ | with_reducible refine Ab.drewN ?_ _ | with_reducible refine Ab.alloc ?_ _ | with_reducible refine Ab.trans ?_ (by assumption) | with_reducible refine Ab.set ?_ (by first | (simp; done) | omega | (simp; omega)) _))⟩
  rename_i KK hKK
  rintro ⟨T2, d2⟩ wz ⟨hd2, hs2, f21, f36, HAz⟩
  simp only at hd2 hs2 f21 f36
  subst hd2
  refine hKK _ _ ?_
  exact spart19 w wz HAz T2 hs2 f21 f36
end Go.Proofs.Ytakgglpfgpkboaa
