/- fit and SlotsSurvive, walked. Own work. -/
import Derived.Test.YtakgglpfgpkboaaSOpen
import Derived.Test.YtakgglpfgpkboaaSAlive
import Derived.Test.YtakgglpfgpkboaaSRefA
set_option linter.unusedVariables false
set_option linter.unusedSimpArgs false
namespace Go.Proofs.Ytakgglpfgpkboaa
open Go.RowKit
open Slots (Sl)
open Disk (Dev)

theorem Slots.surv {o : Sl} (h : Slots.Op o) {b : List UInt8} (hb : b.length ≤ 1000) {k keep : Int} {p : Sl} {er : Int} (hh : (p, er) = Slots.half o b k keep) :
    (er = 2 ∨ er = 18) ∨ (er = 0 ∧ ∃ q N, Slots.open_ p = (q, 0) ∧ Slots.load q = Slots.found N ∧ ((N = some ⟨o.n, b⟩ ∧ 2 ≤ k ∧ k ≤ 3) ∨ (N = Slots.newest o ∧ 0 ≤ k ∧ k ≤ 2))) := by
  rcases Slots.half_cases h.1 hb hh with h1 | ⟨h1, ha, xs, hl, hx, rfl⟩
  · exact .inl h1
  · refine .inr ⟨h1, _, Slots.newest (o.put ⟨xs, [], o.cur.cap, false⟩ o.oth 1), Slots.open_left h.1 hx, ?_, Slots.survive h ha hl⟩
    exact Slots.load_good (Slots.left_good h.1 hx _ Slots.next_lo.1 Slots.next_lo.2)

theorem SlA.slmC {w : World} {m : AM} {r : Sl} (h : SlA w m r) (hg : ¬ Slots.great r) : SlM w 0 m r := by
  unfold Slots.great at hg
  exact ⟨h.a, h.b, h.c, h.d, h.la, h.lb, h.lc, h.ld, by omega, by omega, by omega, by omega⟩

def Slots.fits (r : Sl) : Prop := ¬ Slots.great r ∧ Slots.Good r

set_option maxRecDepth 100000 in
theorem sfit_yes (m : AM) (r : Sl) (w : World) (ha : SlA w m r) (hf : Slots.fits r) :
    Calls Try.prog 28 #[.agg #[.slice m.A r.a.s.length m.ca, .slice m.B r.a.t.length m.cb, .int .i64 r.a.cap, .bool r.a.down, .slice m.C r.b.s.length m.cc, .slice m.D r.b.t.length m.cd, .int .i64 r.b.cap, .bool r.b.down, .int .i64 r.n]] w fun e w' => e = .returned (.bool true) ∧ Ab w w' := by
  have h := ha.slmC hf.1
  have HF := Lib.hid hf
  clear hf
  go_enter Try.func28, Try.ntmps28
  go_wp2_with fail
  refine (sgreat_no m r _ HF.out.1).mono ?_
  rintro e w1 ⟨rfl, hb1⟩
  have H1 : SlB w1 w.heap.size m r := (SlB.box (new_plain rfl)).ab hb1
  obtain ⟨vq0, vq1, vq2, vq3, vq4, vq5, vq6, vq7, vq8, vg0, vg1, vg2, vg3, vg4, vg5, vg6, vg7, vg8⟩ := H1
  (try simp only [AM.nil, Slots.zero, Disk.zero, List.length_nil] at vq0 vq1 vq2 vq3 vq4 vq5 vq6 vq7 vq8)
  go_wp2_with fail
  refine (srcheck_any m r _ (h.ab (by repeat (first | with_reducible exact Ab.refl _ | with_reducible assumption | with_reducible refine Ab.drew ?_ | with_reducible refine Ab.drewN ?_ _ | with_reducible refine Ab.alloc ?_ _ | with_reducible refine Ab.trans ?_ (by assumption) | with_reducible refine Ab.set ?_ (by first | (simp; done) | omega | (simp; omega)) _)))).mono ?_
  rintro e w2 ⟨er, hr, rfl, hb2⟩
  obtain rfl : er = 0 := hr.out.trans (Slots.check_ok HF.out.2.nb)
  go_wp2
  go_ret
  exact ⟨rfl, (by repeat (first | with_reducible exact Ab.refl _ | with_reducible assumption | with_reducible refine Ab.drew ?_ | with_reducible refine Ab.drewN ?_ _ | with_reducible refine Ab.alloc ?_ _ | with_reducible refine Ab.trans ?_ (by assumption) | with_reducible refine Ab.set ?_ (by first | (simp; done) | omega | (simp; omega)) _))⟩

set_option maxRecDepth 100000 in
theorem sfit_no (m : AM) (r : Sl) (w : World) (ha : SlA w m r) (hf : ¬ Slots.fits r) :
    Calls Try.prog 28 #[.agg #[.slice m.A r.a.s.length m.ca, .slice m.B r.a.t.length m.cb, .int .i64 r.a.cap, .bool r.a.down, .slice m.C r.b.s.length m.cc, .slice m.D r.b.t.length m.cd, .int .i64 r.b.cap, .bool r.b.down, .int .i64 r.n]] w fun e w' => e = .returned (.bool false) ∧ Ab w w' := by
  by_cases hg : Slots.great r
  · have HG := Lib.hid hg
    clear hg hf
    go_enter Try.func28, Try.ntmps28
    go_wp2_with fail
    refine (sgreat_yes m r _ HG.out).mono ?_
    rintro e w1 ⟨rfl, hb1⟩
    go_wp2
    go_ret
    exact ⟨rfl, (by repeat (first | with_reducible exact Ab.refl _ | with_reducible assumption | with_reducible refine Ab.drew ?_ | with_reducible refine Ab.drewN ?_ _ | with_reducible refine Ab.alloc ?_ _ | with_reducible refine Ab.trans ?_ (by assumption) | with_reducible refine Ab.set ?_ (by first | (simp; done) | omega | (simp; omega)) _))⟩
  · have h := ha.slmC hg
    have hb : Slots.bad r := Decidable.byContradiction fun k => hf ⟨hg, Slots.good_of k⟩
    have HG := Lib.hid hg
    have HB := Lib.hid hb
    clear hf hg hb
    go_enter Try.func28, Try.ntmps28
    go_wp2_with fail
    refine (sgreat_no m r _ HG.out).mono ?_
    rintro e w1 ⟨rfl, hb1⟩
    have H1 : SlB w1 w.heap.size m r := (SlB.box (new_plain rfl)).ab hb1
    obtain ⟨vq0, vq1, vq2, vq3, vq4, vq5, vq6, vq7, vq8, vg0, vg1, vg2, vg3, vg4, vg5, vg6, vg7, vg8⟩ := H1
    (try simp only [AM.nil, Slots.zero, Disk.zero, List.length_nil] at vq0 vq1 vq2 vq3 vq4 vq5 vq6 vq7 vq8)
    go_wp2_with fail
    refine (srcheck_any m r _ (h.ab (by repeat (first | with_reducible exact Ab.refl _ | with_reducible assumption | with_reducible refine Ab.drew ?_ | with_reducible refine Ab.drewN ?_ _ | with_reducible refine Ab.alloc ?_ _ | with_reducible refine Ab.trans ?_ (by assumption) | with_reducible refine Ab.set ?_ (by first | (simp; done) | omega | (simp; omega)) _)))).mono ?_
    rintro e w2 ⟨er, hr, rfl, hb2⟩
    obtain rfl : er = 8 := hr.out.trans (Slots.check_bad HB.out)
    go_wp2
    go_ret
    exact ⟨rfl, (by repeat (first | with_reducible exact Ab.refl _ | with_reducible assumption | with_reducible refine Ab.drew ?_ | with_reducible refine Ab.drewN ?_ _ | with_reducible refine Ab.alloc ?_ _ | with_reducible refine Ab.trans ?_ (by assumption) | with_reducible refine Ab.set ?_ (by first | (simp; done) | omega | (simp; omega)) _))⟩

set_option maxRecDepth 100000 in
set_option maxHeartbeats 6400000 in
theorem ssurvive_walk (m : AM) (r : Sl) (w : World) (ha : SlA w m r) (X : Option Addr) (cx : Nat) (b : List UInt8) (hx : RB w 0 X b) (hcx : b.length ≤ cx) (lb : b.length ≤ 9223372036854775807) (k keep : Int) :
    Calls Try.prog 6 #[.agg #[.slice m.A r.a.s.length m.ca, .slice m.B r.a.t.length m.cb, .int .i64 r.a.cap, .bool r.a.down, .slice m.C r.b.s.length m.cc, .slice m.D r.b.t.length m.cd, .int .i64 r.b.cap, .bool r.b.down, .int .i64 r.n], .slice X b.length cx, .int .i64 k, .int .i64 keep] w fun e w' => e = .returned (.bool true) ∧ Ab w w' := by
  by_cases hf : Slots.fits r
  case neg =>
    have HF := Lib.hid hf
    clear hf
    go_enter Try.func6, Try.ntmps6
    go_wp2_with fail
    refine (sfit_no m r _ ⟨ha.a.ab (by repeat (first | with_reducible exact Ab.refl _ | with_reducible assumption | with_reducible refine Ab.drew ?_ | with_reducible refine Ab.drewN ?_ _ | with_reducible refine Ab.alloc ?_ _ | with_reducible refine Ab.trans ?_ (by assumption) | with_reducible refine Ab.set ?_ (by first | (simp; done) | omega | (simp; omega)) _)), ha.b.ab (by repeat (first | with_reducible exact Ab.refl _ | with_reducible assumption | with_reducible refine Ab.drew ?_ | with_reducible refine Ab.drewN ?_ _ | with_reducible refine Ab.alloc ?_ _ | with_reducible refine Ab.trans ?_ (by assumption) | with_reducible refine Ab.set ?_ (by first | (simp; done) | omega | (simp; omega)) _)), ha.c.ab (by repeat (first | with_reducible exact Ab.refl _ | with_reducible assumption | with_reducible refine Ab.drew ?_ | with_reducible refine Ab.drewN ?_ _ | with_reducible refine Ab.alloc ?_ _ | with_reducible refine Ab.trans ?_ (by assumption) | with_reducible refine Ab.set ?_ (by first | (simp; done) | omega | (simp; omega)) _)), ha.d.ab (by repeat (first | with_reducible exact Ab.refl _ | with_reducible assumption | with_reducible refine Ab.drew ?_ | with_reducible refine Ab.drewN ?_ _ | with_reducible refine Ab.alloc ?_ _ | with_reducible refine Ab.trans ?_ (by assumption) | with_reducible refine Ab.set ?_ (by first | (simp; done) | omega | (simp; omega)) _)), ha.la, ha.lb, ha.lc, ha.ld⟩ HF.out).mono ?_
    rintro e w1 ⟨rfl, hb1⟩
    go_wp2_with fail
    refine (salive_true _).mono ?_
    rintro e w2 ⟨rfl, hb2⟩
    go_wp2
    go_ret
    exact ⟨rfl, (by repeat (first | with_reducible exact Ab.refl _ | with_reducible assumption | with_reducible refine Ab.drew ?_ | with_reducible refine Ab.drewN ?_ _ | with_reducible refine Ab.alloc ?_ _ | with_reducible refine Ab.trans ?_ (by assumption) | with_reducible refine Ab.set ?_ (by first | (simp; done) | omega | (simp; omega)) _))⟩
  have h := ha.slmC hf.1
  have HF := Lib.hid hf
  clear hf
  by_cases h11 : 1000 < b.length
  · have h11' : decide ((1000 : Int) < (b.length : Int)) = true := by simp; omega
    clear h11
    go_enter Try.func6, Try.ntmps6
    go_wp2_with fail
    refine (sfit_yes m r _ ⟨ha.a.ab (by repeat (first | with_reducible exact Ab.refl _ | with_reducible assumption | with_reducible refine Ab.drew ?_ | with_reducible refine Ab.drewN ?_ _ | with_reducible refine Ab.alloc ?_ _ | with_reducible refine Ab.trans ?_ (by assumption) | with_reducible refine Ab.set ?_ (by first | (simp; done) | omega | (simp; omega)) _)), ha.b.ab (by repeat (first | with_reducible exact Ab.refl _ | with_reducible assumption | with_reducible refine Ab.drew ?_ | with_reducible refine Ab.drewN ?_ _ | with_reducible refine Ab.alloc ?_ _ | with_reducible refine Ab.trans ?_ (by assumption) | with_reducible refine Ab.set ?_ (by first | (simp; done) | omega | (simp; omega)) _)), ha.c.ab (by repeat (first | with_reducible exact Ab.refl _ | with_reducible assumption | with_reducible refine Ab.drew ?_ | with_reducible refine Ab.drewN ?_ _ | with_reducible refine Ab.alloc ?_ _ | with_reducible refine Ab.trans ?_ (by assumption) | with_reducible refine Ab.set ?_ (by first | (simp; done) | omega | (simp; omega)) _)), ha.d.ab (by repeat (first | with_reducible exact Ab.refl _ | with_reducible assumption | with_reducible refine Ab.drew ?_ | with_reducible refine Ab.drewN ?_ _ | with_reducible refine Ab.alloc ?_ _ | with_reducible refine Ab.trans ?_ (by assumption) | with_reducible refine Ab.set ?_ (by first | (simp; done) | omega | (simp; omega)) _)), ha.la, ha.lb, ha.lc, ha.ld⟩ HF.out).mono ?_
    rintro e w1 ⟨rfl, hb1⟩
    go_wp2_with fail
    refine (salive_true _).mono ?_
    rintro e w2 ⟨rfl, hb2⟩
    go_wp2
    go_ret
    exact ⟨rfl, (by repeat (first | with_reducible exact Ab.refl _ | with_reducible assumption | with_reducible refine Ab.drew ?_ | with_reducible refine Ab.drewN ?_ _ | with_reducible refine Ab.alloc ?_ _ | with_reducible refine Ab.trans ?_ (by assumption) | with_reducible refine Ab.set ?_ (by first | (simp; done) | omega | (simp; omega)) _))⟩
  have h11' : decide ((1000 : Int) < (b.length : Int)) = false := by simp; omega
  have hbl : b.length ≤ 1000 := by omega
  clear h11
  have hO := Slots.open_good HF.out.2.a HF.out.2.b
  have hP := Slots.op_of HF.out.2.a HF.out.2.b
  have hN : Slots.newest ⟨r.a, r.b, Slots.nextOf (Slots.newest r)⟩ = Slots.newest r := rfl
  generalize hro : (⟨r.a, r.b, Slots.nextOf (Slots.newest r)⟩ : Sl) = ro at hO hP hN
  have HO := Lib.hid hO
  have HP := Lib.hid hP
  have HL := Lib.hid (Slots.load_good hP.1)
  have HNX := Lib.hid hP.2
  clear hO hP hN hro
  go_enter Try.func6, Try.ntmps6
  go_wp2_with fail
  refine (sfit_yes m r _ ⟨ha.a.ab (by repeat (first | with_reducible exact Ab.refl _ | with_reducible assumption | with_reducible refine Ab.drew ?_ | with_reducible refine Ab.drewN ?_ _ | with_reducible refine Ab.alloc ?_ _ | with_reducible refine Ab.trans ?_ (by assumption) | with_reducible refine Ab.set ?_ (by first | (simp; done) | omega | (simp; omega)) _)), ha.b.ab (by repeat (first | with_reducible exact Ab.refl _ | with_reducible assumption | with_reducible refine Ab.drew ?_ | with_reducible refine Ab.drewN ?_ _ | with_reducible refine Ab.alloc ?_ _ | with_reducible refine Ab.trans ?_ (by assumption) | with_reducible refine Ab.set ?_ (by first | (simp; done) | omega | (simp; omega)) _)), ha.c.ab (by repeat (first | with_reducible exact Ab.refl _ | with_reducible assumption | with_reducible refine Ab.drew ?_ | with_reducible refine Ab.drewN ?_ _ | with_reducible refine Ab.alloc ?_ _ | with_reducible refine Ab.trans ?_ (by assumption) | with_reducible refine Ab.set ?_ (by first | (simp; done) | omega | (simp; omega)) _)), ha.d.ab (by repeat (first | with_reducible exact Ab.refl _ | with_reducible assumption | with_reducible refine Ab.drew ?_ | with_reducible refine Ab.drewN ?_ _ | with_reducible refine Ab.alloc ?_ _ | with_reducible refine Ab.trans ?_ (by assumption) | with_reducible refine Ab.set ?_ (by first | (simp; done) | omega | (simp; omega)) _)), ha.la, ha.lb, ha.lc, ha.ld⟩ HF.out).mono ?_
  rintro e w1 ⟨rfl, hb1⟩
  have H4 : SlB w1 w.heap.size m r := (SlB.box (new_plain rfl)).ab hb1
  obtain ⟨vq0, vq1, vq2, vq3, vq4, vq5, vq6, vq7, vq8, vg0, vg1, vg2, vg3, vg4, vg5, vg6, vg7, vg8⟩ := H4
  (try simp only [AM.nil, Slots.zero, Disk.zero, List.length_nil] at vq0 vq1 vq2 vq3 vq4 vq5 vq6 vq7 vq8)
  go_wp2_with fail
  refine (sopen_any m r _ (h.ab (by repeat (first | with_reducible exact Ab.refl _ | with_reducible assumption | with_reducible refine Ab.drew ?_ | with_reducible refine Ab.drewN ?_ _ | with_reducible refine Ab.alloc ?_ _ | with_reducible refine Ab.trans ?_ (by assumption) | with_reducible refine Ab.set ?_ (by first | (simp; done) | omega | (simp; omega)) _)))).mono ?_
  rintro e w2 ⟨r2, e2, m2, hr2, rfl, hM2, hb2⟩
  obtain ⟨e3, e4⟩ := Prod.mk.inj (hr2.out.trans HO.out)
  obtain rfl : ro = r2 := e3.symm
  obtain rfl : e2 = 0 := e4
  clear hr2
  clear vq0 vq1 vq2 vq3 vq4 vq5 vq6 vq7 vq8 vg0 vg1 vg2 vg3 vg4 vg5 vg6 vg7 vg8
  have b02 : Ab w w2 := (by repeat (first | with_reducible exact Ab.refl _ | with_reducible assumption | with_reducible refine Ab.drew ?_ | with_reducible refine Ab.drewN ?_ _ | with_reducible refine Ab.alloc ?_ _ | with_reducible refine Ab.trans ?_ (by assumption) | with_reducible refine Ab.set ?_ (by first | (simp; done) | omega | (simp; omega)) _))
  have hal2 : Ab w2 (w2.alloc (.cells #[.slice m2.A ro.a.s.length m2.ca, .slice m2.B ro.a.t.length m2.cb, .int .i64 ro.a.cap, .bool ro.a.down, .slice m2.C ro.b.s.length m2.cc, .slice m2.D ro.b.t.length m2.cd, .int .i64 ro.b.cap, .bool ro.b.down, .int .i64 ro.n] 27)) := (Ab.refl w2).alloc _
  go_wp2_with fail
  refine (load_any m2 ro _ (hM2.zero.ab (by repeat (first | with_reducible exact Ab.refl _ | with_reducible assumption | with_reducible refine Ab.drew ?_ | with_reducible refine Ab.drewN ?_ _ | with_reducible refine Ab.alloc ?_ _ | with_reducible refine Ab.trans ?_ (by assumption) | with_reducible refine Ab.set ?_ (by first | (simp; done) | omega | (simp; omega)) _)))).mono ?_
  rintro e w3 ⟨n3, e3, b3, A3, c3, hr3, rfl, hA3, hc3, hl3, hb3⟩
  have h3 := hr3.out.trans HL.out
  have b23 : Ab w2 w3 := hal2.trans hb3
  have b03 : Ab w w3 := b02.trans b23
  have H9 : SlB w3 w2.heap.size m2 ro := (SlB.box (new_plain rfl)).ab hb3
  clear hr3 hb1 hb2 hb3 hal2
  have hnx := HNX.out
  generalize hNN : Slots.newest ro = N at h3 hnx
  have HNN := Lib.hid hNN
  clear hNN
  cases N with
  | none =>
    obtain ⟨e5, e6⟩ := Prod.mk.inj h3
    obtain ⟨e7, e8⟩ := Prod.mk.inj e6
    obtain rfl : n3 = 0 := e5
    obtain rfl : b3 = [] := e7
    obtain rfl : e3 = 6 := e8
    clear h3 e6
    have hn1 : (ro.n != 1) = false := by rw [hnx]; rfl
    have HX := Lib.hid hnx
    clear hnx
    have S9 := H9
    obtain ⟨yq0, yq1, yq2, yq3, yq4, yq5, yq6, yq7, yq8, yg0, yg1, yg2, yg3, yg4, yg5, yg6, yg7, yg8⟩ := S9
    (try simp only [AM.nil, Slots.zero, Disk.zero, List.length_nil] at yq0 yq1 yq2 yq3 yq4 yq5 yq6 yq7 yq8)
    go_wp2_with fail
    refine (shalf_any m2 ro _ (hM2.zero.ab b23) X b cx (hx.ab b03) hcx k keep).mono ?_
    rintro e w4 ⟨r4, e4, m4, hr4, rfl, hM4, hb4⟩
    clear yq0 yq1 yq2 yq3 yq4 yq5 yq6 yq7 yq8 yg0 yg1 yg2 yg3 yg4 yg5 yg6 yg7 yg8
    have b04 : Ab w w4 := b03.trans hb4
    rcases Slots.surv HP.out hbl hr4.out with he | ⟨he, p, N', hp, hlp, hcase⟩
    · clear hr4
      rcases he with rfl | rfl
      · go_wp2_with fail
        refine (salive_true _).mono ?_
        rintro e wz ⟨rfl, hbz⟩
        go_wp2
        go_ret
        exact ⟨rfl, (by repeat (first | with_reducible exact Ab.refl _ | with_reducible assumption | with_reducible refine Ab.drew ?_ | with_reducible refine Ab.drewN ?_ _ | with_reducible refine Ab.alloc ?_ _ | with_reducible refine Ab.trans ?_ (by assumption) | with_reducible refine Ab.set ?_ (by first | (simp; done) | omega | (simp; omega)) _))⟩
      · go_wp2_with fail
        refine (salive_true _).mono ?_
        rintro e wz ⟨rfl, hbz⟩
        go_wp2
        go_ret
        exact ⟨rfl, (by repeat (first | with_reducible exact Ab.refl _ | with_reducible assumption | with_reducible refine Ab.drew ?_ | with_reducible refine Ab.drewN ?_ _ | with_reducible refine Ab.alloc ?_ _ | with_reducible refine Ab.trans ?_ (by assumption) | with_reducible refine Ab.set ?_ (by first | (simp; done) | omega | (simp; omega)) _))⟩
    obtain rfl : e4 = 0 := he
    have hp := Lib.hid hp
    have hlp := Lib.hid hlp
    have hcase := Lib.hid hcase
    clear hr4
    have H9 := H9.ab hb4
    have hal4 : Ab w4 (w4.alloc (.cells #[.slice m4.A r4.a.s.length m4.ca, .slice m4.B r4.a.t.length m4.cb, .int .i64 r4.a.cap, .bool r4.a.down, .slice m4.C r4.b.s.length m4.cc, .slice m4.D r4.b.t.length m4.cd, .int .i64 r4.b.cap, .bool r4.b.down, .int .i64 r4.n] 27)) := (Ab.refl w4).alloc _
    go_wp2_with fail
    refine (sopen_any m4 r4 _ (hM4.zero.ab hal4)).mono ?_
    rintro e w5 ⟨r5, e5, m5, hr5, rfl, hM5, hb5⟩
    obtain ⟨ee1, ee2⟩ := Prod.mk.inj (hr5.out.trans hp.out)
    obtain rfl : p = r5 := ee1.symm
    obtain rfl : e5 = 0 := ee2
    clear hr5
    have b35 : Ab w3 w5 := (hb4.trans hal4).trans hb5
    have hal5 : Ab w5 (w5.alloc (.cells #[.slice m5.A p.a.s.length m5.ca, .slice m5.B p.a.t.length m5.cb, .int .i64 p.a.cap, .bool p.a.down, .slice m5.C p.b.s.length m5.cc, .slice m5.D p.b.t.length m5.cd, .int .i64 p.b.cap, .bool p.b.down, .int .i64 p.n] 27)) := (Ab.refl w5).alloc _
    go_wp2_with fail
    refine (load_any m5 p _ (hM5.zero.ab hal5)).mono ?_
    rintro e w6 ⟨n6, e6, b6, A6, c6, hr6, rfl, hA6, hc6, hl6, hb6⟩
    have h6 := hr6.out.trans hlp.out
    have b36 : Ab w3 w6 := (b35.trans hal5).trans hb6
    have b06 : Ab w w6 := b03.trans b36
    have H9 := H9.ab ((hal4.trans hb5).trans (hal5.trans hb6))
    obtain ⟨yq0, yq1, yq2, yq3, yq4, yq5, yq6, yq7, yq8, yg0, yg1, yg2, yg3, yg4, yg5, yg6, yg7, yg8⟩ := H9
    (try simp only [AM.nil, Slots.zero, Disk.zero, List.length_nil] at yq0 yq1 yq2 yq3 yq4 yq5 yq6 yq7 yq8)
    have rA3 : RB w6 0 A3 ([] : List UInt8) := (hA3.zero).ab b36
    have rA6 : RB w6 0 A6 b6 := hA6.zero
    have rX : RB w6 0 X b := hx.ab b06
    clear hr6 hb4 hb5 hb6 hal4 hal5 b35 b04 hA6 hA3
    rcases hcase.out with ⟨hN', hk2, hk3⟩ | ⟨hN', hk0, hk2⟩
    · have h7 := h6.trans (congrArg Slots.found hN')
      obtain ⟨f1, f2⟩ := Prod.mk.inj h7
      obtain ⟨f3, f4⟩ := Prod.mk.inj f2
      obtain rfl : n6 = ro.n := f1
      obtain rfl : b6 = b := f3
      obtain rfl : e6 = 0 := f4
      clear h6 h7 f2
      go_wp2_with fail
      refine (sameBytes_refl A6 X c6 cx b6 _ rA6 rX (by omega)).mono ?_
      rintro e wa ⟨rfl, na, rfl⟩
      have hk : k = 2 ∨ k = 3 := by omega
      clear hk2 hk3
      rcases hk with rfl | rfl
      · go_wp2_with fail
        refine (salive_true _).mono ?_
        rintro e wz ⟨rfl, hbz⟩
        go_wp2
        go_ret
        exact ⟨rfl, (by repeat (first | with_reducible exact Ab.refl _ | with_reducible assumption | with_reducible refine Ab.drew ?_ | with_reducible refine Ab.drewN ?_ _ | with_reducible refine Ab.alloc ?_ _ | with_reducible refine Ab.trans ?_ (by assumption) | with_reducible refine Ab.set ?_ (by first | (simp; done) | omega | (simp; omega)) _))⟩
      · go_wp2_with fail
        refine (salive_true _).mono ?_
        rintro e wz ⟨rfl, hbz⟩
        go_wp2
        go_ret
        exact ⟨rfl, (by repeat (first | with_reducible exact Ab.refl _ | with_reducible assumption | with_reducible refine Ab.drew ?_ | with_reducible refine Ab.drewN ?_ _ | with_reducible refine Ab.alloc ?_ _ | with_reducible refine Ab.trans ?_ (by assumption) | with_reducible refine Ab.set ?_ (by first | (simp; done) | omega | (simp; omega)) _))⟩
    · have h7 := h6.trans (congrArg Slots.found (hN'.trans HNN.out))
      obtain ⟨f1, f2⟩ := Prod.mk.inj h7
      obtain ⟨f3, f4⟩ := Prod.mk.inj f2
      obtain rfl : n6 = 0 := f1
      obtain rfl : b6 = ([] : List UInt8) := f3
      obtain rfl : e6 = 6 := f4
      clear h6 h7 f2
      go_wp2_with fail
      refine (sameBytes_refl A6 A3 c6 c3 ([] : List UInt8) _ rA6 rA3 (by first | (simp; done) | omega)).mono ?_
      rintro e wa ⟨rfl, na, rfl⟩
      have hk : k = 0 ∨ k = 1 ∨ k = 2 := by omega
      clear hk0 hk2
      rcases hk with rfl | rfl | rfl
      · go_wp2_with fail
        refine (salive_true _).mono ?_
        rintro e wz ⟨rfl, hbz⟩
        go_wp2
        go_ret
        exact ⟨rfl, (by repeat (first | with_reducible exact Ab.refl _ | with_reducible assumption | with_reducible refine Ab.drew ?_ | with_reducible refine Ab.drewN ?_ _ | with_reducible refine Ab.alloc ?_ _ | with_reducible refine Ab.trans ?_ (by assumption) | with_reducible refine Ab.set ?_ (by first | (simp; done) | omega | (simp; omega)) _))⟩
      · go_wp2_with fail
        refine (salive_true _).mono ?_
        rintro e wz ⟨rfl, hbz⟩
        go_wp2
        go_ret
        exact ⟨rfl, (by repeat (first | with_reducible exact Ab.refl _ | with_reducible assumption | with_reducible refine Ab.drew ?_ | with_reducible refine Ab.drewN ?_ _ | with_reducible refine Ab.alloc ?_ _ | with_reducible refine Ab.trans ?_ (by assumption) | with_reducible refine Ab.set ?_ (by first | (simp; done) | omega | (simp; omega)) _))⟩
      · go_wp2_with fail
        refine (salive_true _).mono ?_
        rintro e wz ⟨rfl, hbz⟩
        go_wp2
        go_ret
        exact ⟨rfl, (by repeat (first | with_reducible exact Ab.refl _ | with_reducible assumption | with_reducible refine Ab.drew ?_ | with_reducible refine Ab.drewN ?_ _ | with_reducible refine Ab.alloc ?_ _ | with_reducible refine Ab.trans ?_ (by assumption) | with_reducible refine Ab.set ?_ (by first | (simp; done) | omega | (simp; omega)) _))⟩
  | some q =>
    obtain ⟨e5, e6⟩ := Prod.mk.inj h3
    obtain ⟨e7, e8⟩ := Prod.mk.inj e6
    obtain rfl : n3 = q.num := e5
    obtain rfl : b3 = q.data := e7
    obtain rfl : e3 = 0 := e8
    clear h3 e6
    have hv := Slots.newest_valid HNN.out
    have hw : IntKind.i64.wrap (q.num + 1) = q.num + 1 := IntWalk.i64_in _ (by have := hv.1; have := hv.2.1; omega)
    have hn1 : (ro.n != q.num + 1) = false := by rw [hnx]; simp [Slots.nextOf]
    have hn2 : (ro.n == q.num) = false := by rw [hnx]; simp [Slots.nextOf]; omega
    have hn3 : (q.num == ro.n) = false := by rw [hnx]; simp [Slots.nextOf]; omega
    have HX := Lib.hid hnx
    clear hnx hv
    have S9 := H9
    obtain ⟨yq0, yq1, yq2, yq3, yq4, yq5, yq6, yq7, yq8, yg0, yg1, yg2, yg3, yg4, yg5, yg6, yg7, yg8⟩ := S9
    (try simp only [AM.nil, Slots.zero, Disk.zero, List.length_nil] at yq0 yq1 yq2 yq3 yq4 yq5 yq6 yq7 yq8)
    go_wp2_with fail
    refine (shalf_any m2 ro _ (hM2.zero.ab b23) X b cx (hx.ab b03) hcx k keep).mono ?_
    rintro e w4 ⟨r4, e4, m4, hr4, rfl, hM4, hb4⟩
    clear yq0 yq1 yq2 yq3 yq4 yq5 yq6 yq7 yq8 yg0 yg1 yg2 yg3 yg4 yg5 yg6 yg7 yg8
    have b04 : Ab w w4 := b03.trans hb4
    rcases Slots.surv HP.out hbl hr4.out with he | ⟨he, p, N', hp, hlp, hcase⟩
    · clear hr4
      rcases he with rfl | rfl
      · go_wp2_with fail
        refine (salive_true _).mono ?_
        rintro e wz ⟨rfl, hbz⟩
        go_wp2
        go_ret
        exact ⟨rfl, (by repeat (first | with_reducible exact Ab.refl _ | with_reducible assumption | with_reducible refine Ab.drew ?_ | with_reducible refine Ab.drewN ?_ _ | with_reducible refine Ab.alloc ?_ _ | with_reducible refine Ab.trans ?_ (by assumption) | with_reducible refine Ab.set ?_ (by first | (simp; done) | omega | (simp; omega)) _))⟩
      · go_wp2_with fail
        refine (salive_true _).mono ?_
        rintro e wz ⟨rfl, hbz⟩
        go_wp2
        go_ret
        exact ⟨rfl, (by repeat (first | with_reducible exact Ab.refl _ | with_reducible assumption | with_reducible refine Ab.drew ?_ | with_reducible refine Ab.drewN ?_ _ | with_reducible refine Ab.alloc ?_ _ | with_reducible refine Ab.trans ?_ (by assumption) | with_reducible refine Ab.set ?_ (by first | (simp; done) | omega | (simp; omega)) _))⟩
    obtain rfl : e4 = 0 := he
    have hp := Lib.hid hp
    have hlp := Lib.hid hlp
    have hcase := Lib.hid hcase
    clear hr4
    have H9 := H9.ab hb4
    have hal4 : Ab w4 (w4.alloc (.cells #[.slice m4.A r4.a.s.length m4.ca, .slice m4.B r4.a.t.length m4.cb, .int .i64 r4.a.cap, .bool r4.a.down, .slice m4.C r4.b.s.length m4.cc, .slice m4.D r4.b.t.length m4.cd, .int .i64 r4.b.cap, .bool r4.b.down, .int .i64 r4.n] 27)) := (Ab.refl w4).alloc _
    go_wp2_with fail
    refine (sopen_any m4 r4 _ (hM4.zero.ab hal4)).mono ?_
    rintro e w5 ⟨r5, e5, m5, hr5, rfl, hM5, hb5⟩
    obtain ⟨ee1, ee2⟩ := Prod.mk.inj (hr5.out.trans hp.out)
    obtain rfl : p = r5 := ee1.symm
    obtain rfl : e5 = 0 := ee2
    clear hr5
    have b35 : Ab w3 w5 := (hb4.trans hal4).trans hb5
    have hal5 : Ab w5 (w5.alloc (.cells #[.slice m5.A p.a.s.length m5.ca, .slice m5.B p.a.t.length m5.cb, .int .i64 p.a.cap, .bool p.a.down, .slice m5.C p.b.s.length m5.cc, .slice m5.D p.b.t.length m5.cd, .int .i64 p.b.cap, .bool p.b.down, .int .i64 p.n] 27)) := (Ab.refl w5).alloc _
    go_wp2_with fail
    refine (load_any m5 p _ (hM5.zero.ab hal5)).mono ?_
    rintro e w6 ⟨n6, e6, b6, A6, c6, hr6, rfl, hA6, hc6, hl6, hb6⟩
    have h6 := hr6.out.trans hlp.out
    have b36 : Ab w3 w6 := (b35.trans hal5).trans hb6
    have b06 : Ab w w6 := b03.trans b36
    have H9 := H9.ab ((hal4.trans hb5).trans (hal5.trans hb6))
    obtain ⟨yq0, yq1, yq2, yq3, yq4, yq5, yq6, yq7, yq8, yg0, yg1, yg2, yg3, yg4, yg5, yg6, yg7, yg8⟩ := H9
    (try simp only [AM.nil, Slots.zero, Disk.zero, List.length_nil] at yq0 yq1 yq2 yq3 yq4 yq5 yq6 yq7 yq8)
    have rA3 : RB w6 0 A3 q.data := (hA3.zero).ab b36
    have rA6 : RB w6 0 A6 b6 := hA6.zero
    have rX : RB w6 0 X b := hx.ab b06
    clear hr6 hb4 hb5 hb6 hal4 hal5 b35 b04 hA6 hA3
    rcases hcase.out with ⟨hN', hk2, hk3⟩ | ⟨hN', hk0, hk2⟩
    · have h7 := h6.trans (congrArg Slots.found hN')
      obtain ⟨f1, f2⟩ := Prod.mk.inj h7
      obtain ⟨f3, f4⟩ := Prod.mk.inj f2
      obtain rfl : n6 = ro.n := f1
      obtain rfl : b6 = b := f3
      obtain rfl : e6 = 0 := f4
      clear h6 h7 f2
      go_wp2_with fail
      refine (sameBytes_refl A6 X c6 cx b6 _ rA6 rX (by omega)).mono ?_
      rintro e wa ⟨rfl, na, rfl⟩
      have hk : k = 2 ∨ k = 3 := by omega
      clear hk2 hk3
      rcases hk with rfl | rfl
      · go_wp2_with fail
        refine (salive_true _).mono ?_
        rintro e wz ⟨rfl, hbz⟩
        go_wp2
        go_ret
        exact ⟨rfl, (by repeat (first | with_reducible exact Ab.refl _ | with_reducible assumption | with_reducible refine Ab.drew ?_ | with_reducible refine Ab.drewN ?_ _ | with_reducible refine Ab.alloc ?_ _ | with_reducible refine Ab.trans ?_ (by assumption) | with_reducible refine Ab.set ?_ (by first | (simp; done) | omega | (simp; omega)) _))⟩
      · go_wp2_with fail
        refine (salive_true _).mono ?_
        rintro e wz ⟨rfl, hbz⟩
        go_wp2
        go_ret
        exact ⟨rfl, (by repeat (first | with_reducible exact Ab.refl _ | with_reducible assumption | with_reducible refine Ab.drew ?_ | with_reducible refine Ab.drewN ?_ _ | with_reducible refine Ab.alloc ?_ _ | with_reducible refine Ab.trans ?_ (by assumption) | with_reducible refine Ab.set ?_ (by first | (simp; done) | omega | (simp; omega)) _))⟩
    · have h7 := h6.trans (congrArg Slots.found (hN'.trans HNN.out))
      obtain ⟨f1, f2⟩ := Prod.mk.inj h7
      obtain ⟨f3, f4⟩ := Prod.mk.inj f2
      obtain rfl : n6 = q.num := f1
      obtain rfl : b6 = q.data := f3
      obtain rfl : e6 = 0 := f4
      clear h6 h7 f2
      go_wp2_with fail
      refine (sameBytes_refl A6 A3 c6 c3 q.data _ rA6 rA3 (by first | (simp; done) | omega)).mono ?_
      rintro e wa ⟨rfl, na, rfl⟩
      have hk : k = 0 ∨ k = 1 ∨ k = 2 := by omega
      clear hk0 hk2
      rcases hk with rfl | rfl | rfl
      · go_wp2_with fail
        refine (salive_true _).mono ?_
        rintro e wz ⟨rfl, hbz⟩
        go_wp2
        go_ret
        exact ⟨rfl, (by repeat (first | with_reducible exact Ab.refl _ | with_reducible assumption | with_reducible refine Ab.drew ?_ | with_reducible refine Ab.drewN ?_ _ | with_reducible refine Ab.alloc ?_ _ | with_reducible refine Ab.trans ?_ (by assumption) | with_reducible refine Ab.set ?_ (by first | (simp; done) | omega | (simp; omega)) _))⟩
      · go_wp2_with fail
        refine (salive_true _).mono ?_
        rintro e wz ⟨rfl, hbz⟩
        go_wp2
        go_ret
        exact ⟨rfl, (by repeat (first | with_reducible exact Ab.refl _ | with_reducible assumption | with_reducible refine Ab.drew ?_ | with_reducible refine Ab.drewN ?_ _ | with_reducible refine Ab.alloc ?_ _ | with_reducible refine Ab.trans ?_ (by assumption) | with_reducible refine Ab.set ?_ (by first | (simp; done) | omega | (simp; omega)) _))⟩
      · go_wp2_with fail
        refine (salive_true _).mono ?_
        rintro e wz ⟨rfl, hbz⟩
        go_wp2
        go_ret
        exact ⟨rfl, (by repeat (first | with_reducible exact Ab.refl _ | with_reducible assumption | with_reducible refine Ab.drew ?_ | with_reducible refine Ab.drewN ?_ _ | with_reducible refine Ab.alloc ?_ _ | with_reducible refine Ab.trans ?_ (by assumption) | with_reducible refine Ab.set ?_ (by first | (simp; done) | omega | (simp; omega)) _))⟩
end Go.Proofs.Ytakgglpfgpkboaa
