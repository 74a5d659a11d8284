/- checkpoint, Newest and Load of the reference of layer 5, walked. Own work. -/
import Derived.Test.YtakgglpfgpkboaaSRefA
import Derived.Test.YtakgglpfgpkboaaGF
import Derived.IntWalk
set_option linter.unusedVariables false
set_option linter.unusedSimpArgs false
namespace Go.Proofs.Ytakgglpfgpkboaa
open Go.RowKit
open Slots (Sl)
open Disk (Dev)

theorem RetRecO.no' {w w' : World} (hb : Ab w w') : RetRecO w none (.returned (.tuple #[.agg #[.int .i64 0, .slice none 0 0], .bool false])) w' :=
  ⟨⟨0, []⟩, false, none, 0, rfl, rfl, RB.nil, Nat.le_refl _, by simp, hb⟩

set_option maxHeartbeats 1600000 in
set_option maxRecDepth 100000 in
theorem srcheckpoint_any (A B : Option Addr) (ca cb : Nat) (s t : List UInt8) (cap : Int) (dn : Bool) (w : World) (hs : RB w 0 A s) (ht : RB w 0 B t) (hca : s.length ≤ ca) (hcb : t.length ≤ cb) (hlen : s.length + t.length ≤ 20000) (i : Int) :
    Calls Try.prog 62 #[.agg #[.slice A s.length ca, .slice B t.length cb, .int .i64 cap, .bool dn], .int .i64 i] w (RetRecO w (Slots.ck ⟨s, t, cap, dn⟩ i)) := by
  have HL := Lib.hid hlen
  clear hlen
  go_enter Try.func62, Try.ntmps62
  go_wp2_with fail
  refine (whole_any A B ca cb s t cap dn _ (hs.ab (by repeat (first | with_reducible exact Ab.refl _ | with_reducible assumption | with_reducible refine Ab.drew ?_ | with_reducible refine Ab.drewN ?_ _ | with_reducible refine Ab.alloc ?_ _ | with_reducible refine Ab.trans ?_ (by assumption) | with_reducible refine Ab.set ?_ (by first | (simp; done) | omega | (simp; omega)) _))) (ht.ab (by repeat (first | with_reducible exact Ab.refl _ | with_reducible assumption | with_reducible refine Ab.drew ?_ | with_reducible refine Ab.drewN ?_ _ | with_reducible refine Ab.alloc ?_ _ | with_reducible refine Ab.trans ?_ (by assumption) | with_reducible refine Ab.set ?_ (by first | (simp; done) | omega | (simp; omega)) _))) hca hcb (by have := HL.out; omega) (by have := HL.out; omega)).mono ?_
  rintro e w2 ⟨L, E, c, hL, rfl, o1, hb2⟩
  have HL2 := Lib.hid hL.out
  have hLl : L.length ≤ 20000 := by rw [hL.out, List.length_append]; exact HL.out
  clear hL
  go_wp2_with fail
  refine (found_any E L c _ o1.rb.zero o1.le hLl).mono ?_
  rintro e w3 ⟨X, d, xs, u, hS, rfl, oX, hb3⟩
  have hF := Slots.first_scan hS.out
  rw [HL2.out] at hF
  have HF := Lib.hid hF
  clear hF hS
  have hzz : Ab ((w.alloc (.cells #[.slice A s.length ca, .slice B t.length cb, .int .i64 cap, .bool dn] 24)).alloc (.cells #[.int .i64 0, .slice none 0 0] 68)) w3 := (by repeat (first | with_reducible exact Ab.refl _ | with_reducible assumption | with_reducible refine Ab.drew ?_ | with_reducible refine Ab.drewN ?_ _ | with_reducible refine Ab.alloc ?_ _ | with_reducible refine Ab.trans ?_ (by assumption) | with_reducible refine Ab.set ?_ (by first | (simp; done) | omega | (simp; omega)) _))
  have zq0 := hzz.at (p := ⟨w.heap.size + 1, 0, none⟩) (v := .int .i64 0) (by simp [go_sem])
  have zq1 := hzz.at (p := ⟨w.heap.size + 1, 1, none⟩) (v := .slice none 0 0) (by simp [go_sem])
  have zr0 : w3.frozen? ⟨w.heap.size + 1, 0, none⟩ = false := (hzz.frozen (p := ⟨w.heap.size + 1, 0, none⟩) (by first | (simp; done) | omega | (simp; omega))).trans (by simp [go_sem])
  have zr1 : w3.frozen? ⟨w.heap.size + 1, 1, none⟩ = false := (hzz.frozen (p := ⟨w.heap.size + 1, 1, none⟩) (by first | (simp; done) | omega | (simp; omega))).trans (by simp [go_sem])
  have b3 : Ab w w3 := (by repeat (first | with_reducible exact Ab.refl _ | with_reducible assumption | with_reducible refine Ab.drew ?_ | with_reducible refine Ab.drewN ?_ _ | with_reducible refine Ab.alloc ?_ _ | with_reducible refine Ab.trans ?_ (by assumption) | with_reducible refine Ab.set ?_ (by first | (simp; done) | omega | (simp; omega)) _))
  rcases xs with _ | ⟨x, xs⟩
  · have HM := Lib.hid (show Slots.ck ⟨s, t, cap, dn⟩ i = none by unfold Slots.ck; simp only [Disk.Dev.all]; rw [HF.out]; rfl)
    go_wp2
    refine bodyPost_ret (v := .tuple #[.agg #[.int .i64 0, .slice none 0 0], .bool false]) (by simp [results, Try.results62, go_sem, zq0, zq1]) rfl ?_
    rw [HM.out]
    exact RetRecO.no' (by repeat (first | with_reducible exact Ab.refl _ | with_reducible assumption | with_reducible refine Ab.drew ?_ | with_reducible refine Ab.drewN ?_ _ | with_reducible refine Ab.alloc ?_ _ | with_reducible refine Ab.trans ?_ (by assumption) | with_reducible refine Ab.set ?_ (by first | (simp; done) | omega | (simp; omega)) _))
  · have HF2 := Lib.hid (show Slots.first (s ++ t) = some ⟨x.num, x.b⟩ from HF.out)
    have hv := Slots.first_valid HF2.out
    have hn0 : 0 ≤ x.num := hv.1
    have HV := Lib.hid hv
    obtain ⟨a, rfl, ha, c0, c1, hlaid⟩ := oX.recs.at_ (k := 0) (by simp)
    simp only [List.getElem_cons_zero] at c0 c1 hlaid
    have d0 : w3.cell? a = some (.int .i64 x.num) := c0
    have d1 : w3.cell? ⟨a.block, a.off + 1, none⟩ = some (.slice x.A x.b.length x.c) := c1
    have hE3 : RB w3 (w.heap.size + 1 + 1) x.A x.b := hlaid.1.mono (by have := (show Ab ((w.alloc (.cells #[.slice A s.length ca, .slice B t.length cb, .int .i64 cap, .bool dn] 24)).alloc (.cells #[.int .i64 0, .slice none 0 0] 68)) w2 from (by repeat (first | with_reducible exact Ab.refl _ | with_reducible assumption | with_reducible refine Ab.drew ?_ | with_reducible refine Ab.drewN ?_ _ | with_reducible refine Ab.alloc ?_ _ | with_reducible refine Ab.trans ?_ (by assumption) | with_reducible refine Ab.set ?_ (by first | (simp; done) | omega | (simp; omega)) _))).size; simpa using this)
    have hlx := hlaid.2.1
    clear c0 c1 hlaid hv HF
    generalize hv : x.num % 2 = v
    have HD := Lib.hid hv
    have ht0 : x.num.tmod 2 = v := by rw [Int.tmod_eq_emod_of_nonneg hn0]; exact hv
    have hl0 : ((xs.length : Int) + 1 == 0) = false := by simp; omega
    by_cases hi : v = i
    · have HM := Lib.hid (show Slots.ck ⟨s, t, cap, dn⟩ i = some ⟨x.num, x.b⟩ by unfold Slots.ck; simp only [Disk.Dev.all]; rw [HF2.out]; simp only; rw [if_pos (by rw [HD.out]; exact hi)])
      go_wp2
      refine bodyPost_ret (v := .tuple #[.agg #[.int .i64 x.num, .slice x.A x.b.length x.c], .bool true]) (by simp [results, Try.results62, go_sem, zq0, zq1]) rfl ?_
      rw [HM.out]
      exact ⟨⟨x.num, x.b⟩, true, x.A, x.c, rfl, rfl, ((hE3.put (by first | (simp; done) | omega | (simp; omega)) _).put (by first | (simp; done) | omega | (simp; omega)) _).mono (by omega), hlx, fun _ => HV.out, (by repeat (first | with_reducible exact Ab.refl _ | with_reducible assumption | with_reducible refine Ab.drew ?_ | with_reducible refine Ab.drewN ?_ _ | with_reducible refine Ab.alloc ?_ _ | with_reducible refine Ab.trans ?_ (by assumption) | with_reducible refine Ab.set ?_ (by first | (simp; done) | omega | (simp; omega)) _))⟩
    · have hvi : (v != i) = true := by simpa using hi
      have HM := Lib.hid (show Slots.ck ⟨s, t, cap, dn⟩ i = none by unfold Slots.ck; simp only [Disk.Dev.all]; rw [HF2.out]; simp only; rw [if_neg (by rw [HD.out]; exact hi)])
      go_wp2
      refine bodyPost_ret (v := .tuple #[.agg #[.int .i64 0, .slice none 0 0], .bool false]) (by simp [results, Try.results62, go_sem, zq0, zq1]) rfl ?_
      rw [HM.out]
      exact RetRecO.no' (by repeat (first | with_reducible exact Ab.refl _ | with_reducible assumption | with_reducible refine Ab.drew ?_ | with_reducible refine Ab.drewN ?_ _ | with_reducible refine Ab.alloc ?_ _ | with_reducible refine Ab.trans ?_ (by assumption) | with_reducible refine Ab.set ?_ (by first | (simp; done) | omega | (simp; omega)) _))

set_option maxHeartbeats 1600000 in
set_option maxRecDepth 100000 in
theorem srnewest_any (m : AM) (r : Sl) (w : World) (h : SlM w 0 m r) (ha : r.a.s.length + r.a.t.length ≤ 20000) (hb : r.b.s.length + r.b.t.length ≤ 20000) :
    Calls Try.prog 46 #[.agg #[.slice m.A r.a.s.length m.ca, .slice m.B r.a.t.length m.cb, .int .i64 r.a.cap, .bool r.a.down, .slice m.C r.b.s.length m.cc, .slice m.D r.b.t.length m.cd, .int .i64 r.b.cap, .bool r.b.down, .int .i64 r.n]] w (RetRecO w (Slots.newest r)) := by
  obtain ⟨A, B, C, D, ca, cb, cc, cd⟩ := m
  obtain ⟨⟨s, t, cap, dn⟩, ⟨p, q, cep, dm⟩, n⟩ := r
  dsimp only
  simp only at ha hb
  have HA := Lib.hid ha
  have HB := Lib.hid hb
  clear ha hb
  go_enter Try.func46, Try.ntmps46
  go_wp2_with fail
  refine (srcheckpoint_any A B ca cb s t cap dn _ (h.a.ab (by repeat (first | with_reducible exact Ab.refl _ | with_reducible assumption | with_reducible refine Ab.drew ?_ | with_reducible refine Ab.drewN ?_ _ | with_reducible refine Ab.alloc ?_ _ | with_reducible refine Ab.trans ?_ (by assumption) | with_reducible refine Ab.set ?_ (by first | (simp; done) | omega | (simp; omega)) _))) (h.b.ab (by repeat (first | with_reducible exact Ab.refl _ | with_reducible assumption | with_reducible refine Ab.drew ?_ | with_reducible refine Ab.drewN ?_ _ | with_reducible refine Ab.alloc ?_ _ | with_reducible refine Ab.trans ?_ (by assumption) | with_reducible refine Ab.set ?_ (by first | (simp; done) | omega | (simp; omega)) _))) h.la h.lb HA.out 0).mono ?_
  rintro e w1 ⟨r1, ok1, X1, c1, h1, rfl, hX1, hc1, hv1, hb1⟩
  have zz1 := hb1.size
  simp at zz1
  have bq0 := hb1.at (p := ⟨w.heap.size, 0, none⟩) (v := .slice A s.length ca) (by (repeat (first | with_reducible assumption | (simp [go_sem]; done) | with_reducible apply cell_alloc | with_reducible apply cell_drew | with_reducible apply cell_drewN | (with_reducible apply Ab.at; with_reducible assumption) | (with_reducible refine cell_set ?_ ?_; rotate_left; focus (first | (simp; done) | (simp; omega))) | (with_reducible refine cell_setb ?_ ?_; rotate_left; focus (first | omega | (simp only; omega) | (simp; omega)))))); have bq1 := hb1.at (p := ⟨w.heap.size, 1, none⟩) (v := .slice B t.length cb) (by (repeat (first | with_reducible assumption | (simp [go_sem]; done) | with_reducible apply cell_alloc | with_reducible apply cell_drew | with_reducible apply cell_drewN | (with_reducible apply Ab.at; with_reducible assumption) | (with_reducible refine cell_set ?_ ?_; rotate_left; focus (first | (simp; done) | (simp; omega))) | (with_reducible refine cell_setb ?_ ?_; rotate_left; focus (first | omega | (simp only; omega) | (simp; omega)))))); have bq2 := hb1.at (p := ⟨w.heap.size, 2, none⟩) (v := .int .i64 cap) (by (repeat (first | with_reducible assumption | (simp [go_sem]; done) | with_reducible apply cell_alloc | with_reducible apply cell_drew | with_reducible apply cell_drewN | (with_reducible apply Ab.at; with_reducible assumption) | (with_reducible refine cell_set ?_ ?_; rotate_left; focus (first | (simp; done) | (simp; omega))) | (with_reducible refine cell_setb ?_ ?_; rotate_left; focus (first | omega | (simp only; omega) | (simp; omega)))))); have bq3 := hb1.at (p := ⟨w.heap.size, 3, none⟩) (v := .bool dn) (by (repeat (first | with_reducible assumption | (simp [go_sem]; done) | with_reducible apply cell_alloc | with_reducible apply cell_drew | with_reducible apply cell_drewN | (with_reducible apply Ab.at; with_reducible assumption) | (with_reducible refine cell_set ?_ ?_; rotate_left; focus (first | (simp; done) | (simp; omega))) | (with_reducible refine cell_setb ?_ ?_; rotate_left; focus (first | omega | (simp only; omega) | (simp; omega)))))); have bq4 := hb1.at (p := ⟨w.heap.size, 4, none⟩) (v := .slice C p.length cc) (by (repeat (first | with_reducible assumption | (simp [go_sem]; done) | with_reducible apply cell_alloc | with_reducible apply cell_drew | with_reducible apply cell_drewN | (with_reducible apply Ab.at; with_reducible assumption) | (with_reducible refine cell_set ?_ ?_; rotate_left; focus (first | (simp; done) | (simp; omega))) | (with_reducible refine cell_setb ?_ ?_; rotate_left; focus (first | omega | (simp only; omega) | (simp; omega)))))); have bq5 := hb1.at (p := ⟨w.heap.size, 5, none⟩) (v := .slice D q.length cd) (by (repeat (first | with_reducible assumption | (simp [go_sem]; done) | with_reducible apply cell_alloc | with_reducible apply cell_drew | with_reducible apply cell_drewN | (with_reducible apply Ab.at; with_reducible assumption) | (with_reducible refine cell_set ?_ ?_; rotate_left; focus (first | (simp; done) | (simp; omega))) | (with_reducible refine cell_setb ?_ ?_; rotate_left; focus (first | omega | (simp only; omega) | (simp; omega)))))); have bq6 := hb1.at (p := ⟨w.heap.size, 6, none⟩) (v := .int .i64 cep) (by (repeat (first | with_reducible assumption | (simp [go_sem]; done) | with_reducible apply cell_alloc | with_reducible apply cell_drew | with_reducible apply cell_drewN | (with_reducible apply Ab.at; with_reducible assumption) | (with_reducible refine cell_set ?_ ?_; rotate_left; focus (first | (simp; done) | (simp; omega))) | (with_reducible refine cell_setb ?_ ?_; rotate_left; focus (first | omega | (simp only; omega) | (simp; omega)))))); have bq7 := hb1.at (p := ⟨w.heap.size, 7, none⟩) (v := .bool dm) (by (repeat (first | with_reducible assumption | (simp [go_sem]; done) | with_reducible apply cell_alloc | with_reducible apply cell_drew | with_reducible apply cell_drewN | (with_reducible apply Ab.at; with_reducible assumption) | (with_reducible refine cell_set ?_ ?_; rotate_left; focus (first | (simp; done) | (simp; omega))) | (with_reducible refine cell_setb ?_ ?_; rotate_left; focus (first | omega | (simp only; omega) | (simp; omega)))))); have bq8 := hb1.at (p := ⟨w.heap.size, 8, none⟩) (v := .int .i64 n) (by (repeat (first | with_reducible assumption | (simp [go_sem]; done) | with_reducible apply cell_alloc | with_reducible apply cell_drew | with_reducible apply cell_drewN | (with_reducible apply Ab.at; with_reducible assumption) | (with_reducible refine cell_set ?_ ?_; rotate_left; focus (first | (simp; done) | (simp; omega))) | (with_reducible refine cell_setb ?_ ?_; rotate_left; focus (first | omega | (simp only; omega) | (simp; omega))))))
  have nba := fun (o : Obj) (j : Nat) => World.cell?_alloc_lt w1 o ⟨w.heap.size, j, none⟩ (by simp only; omega)
  have nbb := fun (o : Obj) (j : Nat) => ((Ab.refl w1).alloc o).frozen (p := ⟨w.heap.size, j, none⟩) (by simp only; omega)
  go_wp2_with fail
  refine (srcheckpoint_any C D cc cd p q cep dm _ (h.c.ab (by repeat (first | with_reducible exact Ab.refl _ | with_reducible assumption | with_reducible refine Ab.drew ?_ | with_reducible refine Ab.drewN ?_ _ | with_reducible refine Ab.alloc ?_ _ | with_reducible refine Ab.trans ?_ (by assumption) | with_reducible refine Ab.set ?_ (by first | (simp; done) | omega | (simp; omega)) _))) (h.d.ab (by repeat (first | with_reducible exact Ab.refl _ | with_reducible assumption | with_reducible refine Ab.drew ?_ | with_reducible refine Ab.drewN ?_ _ | with_reducible refine Ab.alloc ?_ _ | with_reducible refine Ab.trans ?_ (by assumption) | with_reducible refine Ab.set ?_ (by first | (simp; done) | omega | (simp; omega)) _))) h.lc h.ld HB.out 1).mono ?_
  rintro e w2 ⟨r2, ok2, X2, c2, h2, rfl, hX2, hc2, hv2, hb2⟩
  have zz2 := hb2.size
  simp at zz2
  have hzz : Ab ((w.alloc (.cells #[.slice A s.length ca, .slice B t.length cb, .int .i64 cap, .bool dn, .slice C p.length cc, .slice D q.length cd, .int .i64 cep, .bool dm, .int .i64 n] 27)).alloc (.cells #[.int .i64 0, .slice none 0 0] 68)) w2 := (by repeat (first | with_reducible exact Ab.refl _ | with_reducible assumption | with_reducible refine Ab.drew ?_ | with_reducible refine Ab.drewN ?_ _ | with_reducible refine Ab.alloc ?_ _ | with_reducible refine Ab.trans ?_ (by assumption) | with_reducible refine Ab.set ?_ (by first | (simp; done) | omega | (simp; omega)) _))
  have zq0 := hzz.at (p := ⟨w.heap.size + 1, 0, none⟩) (v := .int .i64 0) (by simp [go_sem])
  have zq1 := hzz.at (p := ⟨w.heap.size + 1, 1, none⟩) (v := .slice none 0 0) (by simp [go_sem])
  have zr0 : w2.frozen? ⟨w.heap.size + 1, 0, none⟩ = false := (hzz.frozen (p := ⟨w.heap.size + 1, 0, none⟩) (by first | (simp; done) | omega | (simp; omega))).trans (by simp [go_sem])
  have zr1 : w2.frozen? ⟨w.heap.size + 1, 1, none⟩ = false := (hzz.frozen (p := ⟨w.heap.size + 1, 1, none⟩) (by first | (simp; done) | omega | (simp; omega))).trans (by simp [go_sem])
  have y0 := hb2.at (p := ⟨w1.heap.size, 0, none⟩) (v := .int .i64 r1.num) (by simp [go_sem])
  have y1 := hb2.at (p := ⟨w1.heap.size, 1, none⟩) (v := .slice X1 r1.data.length c1) (by simp [go_sem])
  have nza := fun (o : Obj) (j : Nat) => World.cell?_alloc_lt w2 o ⟨w.heap.size + 1, j, none⟩ (by simp only; omega)
  have nzb := fun (o : Obj) (j : Nat) => ((Ab.refl w2).alloc o).frozen (p := ⟨w.heap.size + 1, j, none⟩) (by simp only; omega)
  have nya := fun (o : Obj) (j : Nat) => World.cell?_alloc_lt w2 o ⟨w1.heap.size, j, none⟩ (by simp only; omega)
  have nyb := fun (o : Obj) (j : Nat) => ((Ab.refl w2).alloc o).frozen (p := ⟨w1.heap.size, j, none⟩) (by simp only; omega)
  have hp1 : RB w2 (w.heap.size + 1 + 1) X1 r1.data := (hX1.mono (show w.heap.size + 1 + 1 ≤ _ by simp)).ab (((Ab.refl w1).alloc _).trans hb2)
  have hp2 : RB w2 (w.heap.size + 1 + 1) X2 r2.data := hX2.mono (by first | omega | (simp; omega))
  have hne1 : w.heap.size + 1 ≠ w2.heap.size := by omega
  have hne2 : w.heap.size + 1 ≠ w1.heap.size := by omega
  have hne3 : w1.heap.size ≠ w2.heap.size := by omega
  have hne4 : w1.heap.size ≠ w.heap.size + 1 := by omega
  have hne5 : w2.heap.size ≠ w.heap.size + 1 := by omega
  have b2 : Ab w w2 := (by repeat (first | with_reducible exact Ab.refl _ | with_reducible assumption | with_reducible refine Ab.drew ?_ | with_reducible refine Ab.drewN ?_ _ | with_reducible refine Ab.alloc ?_ _ | with_reducible refine Ab.trans ?_ (by assumption) | with_reducible refine Ab.set ?_ (by first | (simp; done) | omega | (simp; omega)) _))
  have hal : ∀ o, Ab w2 (w2.alloc o) := fun o => (Ab.refl w2).alloc o
  clear hX1 hX2
  cases ok1 with
  | false =>
    have HM := Lib.hid (show (if ok2 = true then some r2 else none) = Slots.newest ⟨⟨s, t, cap, dn⟩, ⟨p, q, cep, dm⟩, n⟩ by unfold Slots.newest; rw [← h1.out, h2.out]; rfl)
    go_wp2
    refine bodyPost_ret (v := .tuple #[.agg #[.int .i64 r2.num, .slice X2 r2.data.length c2], .bool ok2]) (by simp [results, Try.results46, go_sem, *]) rfl ?_
    exact ⟨r2, ok2, X2, c2, HM, rfl, (((hp2.ab (hal _)).put (by first | (simp; done) | omega | (simp; omega)) _).put (by first | (simp; done) | omega | (simp; omega)) _).mono (by omega), hc2, hv2, (by repeat (first | with_reducible exact Ab.refl _ | with_reducible assumption | with_reducible refine Ab.drew ?_ | with_reducible refine Ab.drewN ?_ _ | with_reducible refine Ab.alloc ?_ _ | with_reducible refine Ab.trans ?_ (by assumption) | with_reducible refine Ab.set ?_ (by first | (simp; done) | omega | (simp; omega)) _))⟩
  | true =>
    cases ok2 with
    | false =>
      have HM := Lib.hid (show (if true = true then some r1 else none) = Slots.newest ⟨⟨s, t, cap, dn⟩, ⟨p, q, cep, dm⟩, n⟩ by unfold Slots.newest; rw [← h1.out, ← h2.out]; rfl)
      go_wp2
      refine bodyPost_ret (v := .tuple #[.agg #[.int .i64 r1.num, .slice X1 r1.data.length c1], .bool true]) (by simp [results, Try.results46, go_sem, *]) rfl ?_
      exact ⟨r1, true, X1, c1, HM, rfl, (((hp1.ab (hal _)).put (by first | (simp; done) | omega | (simp; omega)) _).put (by first | (simp; done) | omega | (simp; omega)) _).mono (by omega), hc1, by simpa using hv1, (by repeat (first | with_reducible exact Ab.refl _ | with_reducible assumption | with_reducible refine Ab.drew ?_ | with_reducible refine Ab.drewN ?_ _ | with_reducible refine Ab.alloc ?_ _ | with_reducible refine Ab.trans ?_ (by assumption) | with_reducible refine Ab.set ?_ (by first | (simp; done) | omega | (simp; omega)) _))⟩
    | true =>
      by_cases hlt : r1.num < r2.num
      · have HM := Lib.hid (show (if true = true then some r2 else none) = Slots.newest ⟨⟨s, t, cap, dn⟩, ⟨p, q, cep, dm⟩, n⟩ by unfold Slots.newest; rw [← h1.out, ← h2.out]; exact (if_pos hlt).symm)
        have hlt' : decide (r1.num < r2.num) = true := by simpa using hlt
        clear hlt
        go_wp2
        refine bodyPost_ret (v := .tuple #[.agg #[.int .i64 r2.num, .slice X2 r2.data.length c2], .bool true]) (by simp [results, Try.results46, go_sem, *]) rfl ?_
        exact ⟨r2, true, X2, c2, HM, rfl, (((hp2.ab (hal _)).put (by first | (simp; done) | omega | (simp; omega)) _).put (by first | (simp; done) | omega | (simp; omega)) _).mono (by omega), hc2, by simpa using hv2, (by repeat (first | with_reducible exact Ab.refl _ | with_reducible assumption | with_reducible refine Ab.drew ?_ | with_reducible refine Ab.drewN ?_ _ | with_reducible refine Ab.alloc ?_ _ | with_reducible refine Ab.trans ?_ (by assumption) | with_reducible refine Ab.set ?_ (by first | (simp; done) | omega | (simp; omega)) _))⟩
      · have HM := Lib.hid (show (if true = true then some r1 else none) = Slots.newest ⟨⟨s, t, cap, dn⟩, ⟨p, q, cep, dm⟩, n⟩ by unfold Slots.newest; rw [← h1.out, ← h2.out]; exact (if_neg hlt).symm)
        have hlt' : decide (r1.num < r2.num) = false := by simpa using hlt
        clear hlt
        go_wp2
        refine bodyPost_ret (v := .tuple #[.agg #[.int .i64 r1.num, .slice X1 r1.data.length c1], .bool true]) (by simp [results, Try.results46, go_sem, *]) rfl ?_
        exact ⟨r1, true, X1, c1, HM, rfl, (((hp1.ab (hal _)).put (by first | (simp; done) | omega | (simp; omega)) _).put (by first | (simp; done) | omega | (simp; omega)) _).mono (by omega), hc1, by simpa using hv1, (by repeat (first | with_reducible exact Ab.refl _ | with_reducible assumption | with_reducible refine Ab.drew ?_ | with_reducible refine Ab.drewN ?_ _ | with_reducible refine Ab.alloc ?_ _ | with_reducible refine Ab.trans ?_ (by assumption) | with_reducible refine Ab.set ?_ (by first | (simp; done) | omega | (simp; omega)) _))⟩
end Go.Proofs.Ytakgglpfgpkboaa
