/- SlotsNames: regions 5 to 10. Written by genslots.py. Own work. -/
import Derived.Test.YtakgglpfgpkboaaSNm11
set_option linter.unusedVariables false
set_option linter.unusedSimpArgs false
namespace Go.Proofs.Ytakgglpfgpkboaa
open Go.RowKit

/-- Behind region 10. -/
def SK10 (w : World) (act : Act) (wx : World) : Prop :=
  act.defers = [] ∧ act.tmps.size = 309 ∧ act.tmps.getD 21 undef = .bool true ∧ Ab w wx
noncomputable def stail5 : Code := ((Try.f3.body.bind (tailR 5)).getD .skip)
set_option maxRecDepth 1000000 in
set_option maxHeartbeats 9600000 in
theorem spart5 (w w0 : World) (HA0 : Ab w w0) (T : Array Value) (hsT : T.size = 309) (f2 : T.getD 2 undef = .int .i64 2) (f5 : T.getD 5 undef = .int .i64 4) (f8 : T.getD 8 undef = .int .i64 18) (f10 : T.getD 10 undef = .int .i64 3) (f11 : T.getD 11 undef = .int .i64 0) :
    Code.wp Try.prog stail5 (bodyPost Try.prog Try.f3 (fun e w' => e = .returned (.bool true) ∧ Ab w w')) ⟨T, []⟩ w0 := by
  obtain ⟨g, hg, hT⟩ := opq_lit 309 T hsT
  rw [lit_309] at hT
  have e2 := (hg 2).trans f2
  have e5 := (hg 5).trans f5
  have e8 := (hg 8).trans f8
  have e10 := (hg 10).trans f10
  have e11 := (hg 11).trans f11
  clear hg hsT f2 f5 f8 f10 f11
  subst hT
  rw [e2, e5, e8, e10, e11]
  clear e2 e5 e8 e10 e11
  conv => arg 2; whnf
  go_wp2_with fail
  refine (sgiven_any _).mono ?_
  rintro e w1 ⟨m1, rfl, M1, hb1⟩
  have al1 : Ab w0 w1 := Ab.trans (by (repeat (first | with_reducible exact Ab.refl _ | with_reducible assumption | with_reducible refine Ab.drew ?_ | with_reducible refine Ab.drewN ?_ _ | with_reducible refine Ab.alloc ?_ _ | with_reducible refine Ab.trans ?_ (by assumption) | with_reducible refine Ab.set ?_ (by first | (simp; done) | omega | (simp; omega)) _))) hb1
  have HA1 := HA0.trans al1
  clear HA0 al1 hb1
  go_wp2_with fail
  refine (ssave_any (m1) (Slots.Last) _ ((show SlM w1 0 m1 Slots.Last from M1.num 1000000000).ab (by repeat (first | with_reducible exact Ab.refl _ | with_reducible assumption | with_reducible refine Ab.drew ?_ | with_reducible refine Ab.drewN ?_ _ | with_reducible refine Ab.alloc ?_ _ | with_reducible refine Ab.trans ?_ (by assumption) | with_reducible refine Ab.set ?_ (by first | (simp; done) | omega | (simp; omega)) _))) none [] 0 RB.nil (by simp)).mono ?_
  rintro e w2 ⟨r2, n2, e2, m2, hr2, rfl, M2, hb2⟩
  obtain ⟨x1, x2⟩ := Prod.mk.inj (hr2.out.trans Slots.nm_last)
  obtain ⟨x3, x4⟩ := Prod.mk.inj x2
  obtain rfl : r2 = _ := x1
  obtain rfl : n2 = _ := x3
  obtain rfl : e2 = _ := x4
  clear hr2 x2
  have al2 : Ab w1 w2 := Ab.trans (by (repeat (first | with_reducible exact Ab.refl _ | with_reducible assumption | with_reducible refine Ab.drew ?_ | with_reducible refine Ab.drewN ?_ _ | with_reducible refine Ab.alloc ?_ _ | with_reducible refine Ab.trans ?_ (by assumption) | with_reducible refine Ab.set ?_ (by first | (simp; done) | omega | (simp; omega)) _))) hb2
  have HA2 := HA1.trans al2
  clear HA1 al2 hb2
  clear M1
  go_wp2_with fail
  refine (ssave_any (m2) (Slots.End) _ (M2.ab (by repeat (first | with_reducible exact Ab.refl _ | with_reducible assumption | with_reducible refine Ab.drew ?_ | with_reducible refine Ab.drewN ?_ _ | with_reducible refine Ab.alloc ?_ _ | with_reducible refine Ab.trans ?_ (by assumption) | with_reducible refine Ab.set ?_ (by first | (simp; done) | omega | (simp; omega)) _))) none [] 0 RB.nil (by simp)).mono ?_
  rintro e w3 ⟨r3, n3, e3, m3, hr3, rfl, M3, hb3⟩
  obtain ⟨x1, x2⟩ := Prod.mk.inj (hr3.out.trans Slots.nm_end)
  obtain ⟨x3, x4⟩ := Prod.mk.inj x2
  obtain rfl : r3 = _ := x1
  obtain rfl : n3 = _ := x3
  obtain rfl : e3 = _ := x4
  clear hr3 x2
  have al3 : Ab w2 w3 := Ab.trans (by (repeat (first | with_reducible exact Ab.refl _ | with_reducible assumption | with_reducible refine Ab.drew ?_ | with_reducible refine Ab.drewN ?_ _ | with_reducible refine Ab.alloc ?_ _ | with_reducible refine Ab.trans ?_ (by assumption) | with_reducible refine Ab.set ?_ (by first | (simp; done) | omega | (simp; omega)) _))) hb3
  have M2 := M2.ab al3
  have H13 : SlB w3 w2.heap.size (m2) (Slots.End) := (SlB.box (w := w2.alloc (.cells #[.slice (m2).A (Slots.End).a.s.length (m2).ca, .slice (m2).B (Slots.End).a.t.length (m2).cb, .int .i64 (Slots.End).a.cap, .bool (Slots.End).a.down, .slice (m2).C (Slots.End).b.s.length (m2).cc, .slice (m2).D (Slots.End).b.t.length (m2).cd, .int .i64 (Slots.End).b.cap, .bool (Slots.End).b.down, .int .i64 (Slots.End).n] 27)) (new_plain rfl)).ab (Ab.trans (by (repeat (first | with_reducible exact Ab.refl _ | with_reducible assumption | with_reducible refine Ab.drew ?_ | with_reducible refine Ab.drewN ?_ _ | with_reducible refine Ab.alloc ?_ _ | with_reducible refine Ab.trans ?_ (by assumption) | with_reducible refine Ab.set ?_ (by first | (simp; done) | omega | (simp; omega)) _))) hb3)
  have HA3 := HA2.trans al3
  clear HA2 al3 hb3
  clear M3
  have Sy := H13
  obtain ⟨yq0, yq1, yq2, yq3, yq4, yq5, yq6, yq7, yq8, yg0, yg1, yg2, yg3, yg4, yg5, yg6, yg7, yg8⟩ := Sy
  (try simp only [AM.nil, Slots.zero, Disk.zero, List.length_nil] at yq0 yq1 yq2 yq3 yq4 yq5 yq6 yq7 yq8)
  have yna := fun (o : Obj) (j : Nat) => World.cell?_alloc_lt w3 o ⟨w2.heap.size, j, none⟩ H13.lt
  have ynb := fun (o : Obj) (j : Nat) => ((Ab.refl w3).alloc o).frozen (p := ⟨w2.heap.size, j, none⟩) H13.lt
  go_wp2_with fail
  refine (shalf_any (m2) (Slots.End) _ (M2.ab (by repeat (first | with_reducible exact Ab.refl _ | with_reducible assumption | with_reducible refine Ab.drew ?_ | with_reducible refine Ab.drewN ?_ _ | with_reducible refine Ab.alloc ?_ _ | with_reducible refine Ab.trans ?_ (by assumption) | with_reducible refine Ab.set ?_ (by first | (simp; done) | omega | (simp; omega)) _))) none [] 0 RB.nil (by simp) (9) (9)).mono ?_
  rintro e w4 ⟨r4, e4, m4, hr4, rfl, M4', hb4⟩
  have M4 := M4'.zero
  clear M4'
  obtain ⟨x1, x2⟩ := Prod.mk.inj (hr4.out.trans Slots.nm_endh)
  obtain rfl : r4 = _ := x1
  obtain rfl : e4 = _ := x2
  clear hr4
  clear yq0 yq1 yq2 yq3 yq4 yq5 yq6 yq7 yq8 yg0 yg1 yg2 yg3 yg4 yg5 yg6 yg7 yg8
  clear yna ynb
  have al4 : Ab w3 w4 := Ab.trans (by (repeat (first | with_reducible exact Ab.refl _ | with_reducible assumption | with_reducible refine Ab.drew ?_ | with_reducible refine Ab.drewN ?_ _ | with_reducible refine Ab.alloc ?_ _ | with_reducible refine Ab.trans ?_ (by assumption) | with_reducible refine Ab.set ?_ (by first | (simp; done) | omega | (simp; omega)) _))) hb4
  have H13 := H13.ab al4
  have M2 := M2.ab al4
  have HA4 := HA3.trans al4
  clear HA3 al4 hb4
  clear M4
  go_upto_region 10 with fail
  refine wp_cut (SK10 w) ?_ ?_
  rotate_left
  · intro J K' hJ hK'
    have Sy := H13
    obtain ⟨yq0, yq1, yq2, yq3, yq4, yq5, yq6, yq7, yq8, yg0, yg1, yg2, yg3, yg4, yg5, yg6, yg7, yg8⟩ := Sy
    (try simp only [AM.nil, Slots.zero, Disk.zero, List.length_nil] at yq0 yq1 yq2 yq3 yq4 yq5 yq6 yq7 yq8)
    have yna := fun (o : Obj) (j : Nat) => World.cell?_alloc_lt w4 o ⟨w2.heap.size, j, none⟩ H13.lt
    have ynb := fun (o : Obj) (j : Nat) => ((Ab.refl w4).alloc o).frozen (p := ⟨w2.heap.size, j, none⟩) H13.lt
    go_wp2_with fail
    refine (loads_true m2 (Slots.End) _ (M2.ab (by repeat (first | with_reducible exact Ab.refl _ | with_reducible assumption | with_reducible refine Ab.drew ?_ | with_reducible refine Ab.drewN ?_ _ | with_reducible refine Ab.alloc ?_ _ | with_reducible refine Ab.trans ?_ (by assumption) | with_reducible refine Ab.set ?_ (by first | (simp; done) | omega | (simp; omega)) _))) 0 1000000000 [] rfl Slots.lds_End).mono ?_
    rintro e w5 ⟨rfl, hb5⟩
    clear yq0 yq1 yq2 yq3 yq4 yq5 yq6 yq7 yq8 yg0 yg1 yg2 yg3 yg4 yg5 yg6 yg7 yg8
    clear yna ynb
    have al5 : Ab w4 w5 := Ab.trans (by (repeat (first | with_reducible exact Ab.refl _ | with_reducible assumption | with_reducible refine Ab.drew ?_ | with_reducible refine Ab.drewN ?_ _ | with_reducible refine Ab.alloc ?_ _ | with_reducible refine Ab.trans ?_ (by assumption) | with_reducible refine Ab.set ?_ (by first | (simp; done) | omega | (simp; omega)) _))) hb5
    have H13 := H13.ab al5
    have M2 := M2.ab al5
    have HA5 := HA4.trans al5
    clear HA4 al5 hb5
    go_wp2
    refine Met.intro (hJ _ _ ?_)
    exact ⟨rfl, rfl, rfl, (by repeat (first | with_reducible exact Ab.refl _ | with_reducible assumption | with_reducible refine Ab.drew ?_ | with_reducible refine Ab.drewN ?_ _ | with_reducible refine Ab.alloc ?_ _ | with_reducible refine Ab.trans ?_ (by assumption) | with_reducible refine Ab.set ?_ (by first | (simp; done) | omega | (simp; omega)) _))⟩
  rename_i KK hKK
  rintro ⟨T2, d2⟩ wz ⟨hd2, hs2, f21, HAz⟩
  simp only at hd2 hs2 f21
  subst hd2
  refine hKK _ _ ?_
  exact spart11 w wz HAz T2 hs2 f21
end Go.Proofs.Ytakgglpfgpkboaa
