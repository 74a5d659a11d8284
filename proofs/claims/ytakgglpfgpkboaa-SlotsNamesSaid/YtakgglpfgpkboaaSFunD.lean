/- Load and New of package slots, walked. Own work. -/
import Derived.Test.YtakgglpfgpkboaaSFunC
set_option linter.unusedVariables false
set_option linter.unusedSimpArgs false
namespace Go.Proofs.Ytakgglpfgpkboaa
open Go.RowKit
open Slots (Sl)

theorem RetNum3.err {w w' : World} {m : Int × List UInt8 × Int} {er : Int} (h : (0, [], er) = m) (hb : Ab w w') : RetNum3 w m (.returned (.tuple #[.int .i64 0, .slice none 0 0, .int .i64 er])) w' :=
  ⟨0, er, [], none, 0, h, rfl, RB.nil, Nat.le_refl _, by simp, hb⟩

set_option maxRecDepth 100000 in
theorem load_any (m : AM) (r : Sl) (w : World) (h : SlM w 0 m r) :
    Calls Try.prog 15 #[.agg #[.slice m.A r.a.s.length m.ca, .slice m.B r.a.t.length m.cb, .int .i64 r.a.cap, .bool r.a.down, .slice m.C r.b.s.length m.cc, .slice m.D r.b.t.length m.cd, .int .i64 r.b.cap, .bool r.b.down, .int .i64 r.n]] w (RetNum3 w (Slots.load r)) := by
  obtain ⟨A, B, C, D, ca, cb, cc, cd⟩ := m
  obtain ⟨⟨s, t, cap, dn⟩, ⟨p, q, cep, dm⟩, n⟩ := r
  dsimp only
  go_enter Try.func15, Try.ntmps15
  go_wp2_with fail
  refine (scheck_any ⟨A, B, C, D, ca, cb, cc, cd⟩ ⟨⟨s, t, cap, dn⟩, ⟨p, q, cep, dm⟩, n⟩ _ (h.ab (by repeat (first | with_reducible exact Ab.refl _ | with_reducible assumption | with_reducible refine Ab.drew ?_ | with_reducible refine Ab.drewN ?_ _ | with_reducible refine Ab.alloc ?_ _ | with_reducible refine Ab.trans ?_ (by assumption) | with_reducible refine Ab.set ?_ (by first | (simp; done) | omega | (simp; omega)) _)))).mono ?_
  rintro e w1 ⟨er, hr, rfl, hb1⟩
  by_cases hbad : Slots.bad ⟨⟨s, t, cap, dn⟩, ⟨p, q, cep, dm⟩, n⟩
  · obtain rfl : er = 8 := hr.out.trans (Slots.check_bad hbad)
    have HM := Lib.hid (show (0, [], 8) = Slots.load ⟨⟨s, t, cap, dn⟩, ⟨p, q, cep, dm⟩, n⟩ from (if_pos hbad).symm)
    go_wp2
    go_ret3
    exact RetNum3.err HM.out (by repeat (first | with_reducible exact Ab.refl _ | with_reducible assumption | with_reducible refine Ab.drew ?_ | with_reducible refine Ab.drewN ?_ _ | with_reducible refine Ab.alloc ?_ _ | with_reducible refine Ab.trans ?_ (by assumption) | with_reducible refine Ab.set ?_ (by first | (simp; done) | omega | (simp; omega)) _))
  obtain rfl : er = 0 := hr.out.trans (Slots.check_ok hbad)
  have HG := Lib.hid (Slots.good_of hbad)
  have HB := Lib.hid (show Slots.load ⟨⟨s, t, cap, dn⟩, ⟨p, q, cep, dm⟩, n⟩ = Slots.found (Slots.newest ⟨⟨s, t, cap, dn⟩, ⟨p, q, cep, dm⟩, n⟩) from if_neg hbad)
  clear hr hbad
  have bq0 := hb1.at (p := ⟨w.heap.size, 0, none⟩) (v := .slice A s.length ca) (by (repeat (first | with_reducible assumption | (simp [go_sem]; done) | with_reducible apply cell_alloc | with_reducible apply cell_drew | with_reducible apply cell_drewN | (with_reducible apply Ab.at; with_reducible assumption) | (with_reducible refine cell_set ?_ ?_; rotate_left; focus (first | (simp; done) | (simp; omega))) | (with_reducible refine cell_setb ?_ ?_; rotate_left; focus (first | omega | (simp only; omega) | (simp; omega)))))); have bq1 := hb1.at (p := ⟨w.heap.size, 1, none⟩) (v := .slice B t.length cb) (by (repeat (first | with_reducible assumption | (simp [go_sem]; done) | with_reducible apply cell_alloc | with_reducible apply cell_drew | with_reducible apply cell_drewN | (with_reducible apply Ab.at; with_reducible assumption) | (with_reducible refine cell_set ?_ ?_; rotate_left; focus (first | (simp; done) | (simp; omega))) | (with_reducible refine cell_setb ?_ ?_; rotate_left; focus (first | omega | (simp only; omega) | (simp; omega)))))); have bq2 := hb1.at (p := ⟨w.heap.size, 2, none⟩) (v := .int .i64 cap) (by (repeat (first | with_reducible assumption | (simp [go_sem]; done) | with_reducible apply cell_alloc | with_reducible apply cell_drew | with_reducible apply cell_drewN | (with_reducible apply Ab.at; with_reducible assumption) | (with_reducible refine cell_set ?_ ?_; rotate_left; focus (first | (simp; done) | (simp; omega))) | (with_reducible refine cell_setb ?_ ?_; rotate_left; focus (first | omega | (simp only; omega) | (simp; omega)))))); have bq3 := hb1.at (p := ⟨w.heap.size, 3, none⟩) (v := .bool dn) (by (repeat (first | with_reducible assumption | (simp [go_sem]; done) | with_reducible apply cell_alloc | with_reducible apply cell_drew | with_reducible apply cell_drewN | (with_reducible apply Ab.at; with_reducible assumption) | (with_reducible refine cell_set ?_ ?_; rotate_left; focus (first | (simp; done) | (simp; omega))) | (with_reducible refine cell_setb ?_ ?_; rotate_left; focus (first | omega | (simp only; omega) | (simp; omega)))))); have bq4 := hb1.at (p := ⟨w.heap.size, 4, none⟩) (v := .slice C p.length cc) (by (repeat (first | with_reducible assumption | (simp [go_sem]; done) | with_reducible apply cell_alloc | with_reducible apply cell_drew | with_reducible apply cell_drewN | (with_reducible apply Ab.at; with_reducible assumption) | (with_reducible refine cell_set ?_ ?_; rotate_left; focus (first | (simp; done) | (simp; omega))) | (with_reducible refine cell_setb ?_ ?_; rotate_left; focus (first | omega | (simp only; omega) | (simp; omega)))))); have bq5 := hb1.at (p := ⟨w.heap.size, 5, none⟩) (v := .slice D q.length cd) (by (repeat (first | with_reducible assumption | (simp [go_sem]; done) | with_reducible apply cell_alloc | with_reducible apply cell_drew | with_reducible apply cell_drewN | (with_reducible apply Ab.at; with_reducible assumption) | (with_reducible refine cell_set ?_ ?_; rotate_left; focus (first | (simp; done) | (simp; omega))) | (with_reducible refine cell_setb ?_ ?_; rotate_left; focus (first | omega | (simp only; omega) | (simp; omega)))))); have bq6 := hb1.at (p := ⟨w.heap.size, 6, none⟩) (v := .int .i64 cep) (by (repeat (first | with_reducible assumption | (simp [go_sem]; done) | with_reducible apply cell_alloc | with_reducible apply cell_drew | with_reducible apply cell_drewN | (with_reducible apply Ab.at; with_reducible assumption) | (with_reducible refine cell_set ?_ ?_; rotate_left; focus (first | (simp; done) | (simp; omega))) | (with_reducible refine cell_setb ?_ ?_; rotate_left; focus (first | omega | (simp only; omega) | (simp; omega)))))); have bq7 := hb1.at (p := ⟨w.heap.size, 7, none⟩) (v := .bool dm) (by (repeat (first | with_reducible assumption | (simp [go_sem]; done) | with_reducible apply cell_alloc | with_reducible apply cell_drew | with_reducible apply cell_drewN | (with_reducible apply Ab.at; with_reducible assumption) | (with_reducible refine cell_set ?_ ?_; rotate_left; focus (first | (simp; done) | (simp; omega))) | (with_reducible refine cell_setb ?_ ?_; rotate_left; focus (first | omega | (simp only; omega) | (simp; omega)))))); have bq8 := hb1.at (p := ⟨w.heap.size, 8, none⟩) (v := .int .i64 n) (by (repeat (first | with_reducible assumption | (simp [go_sem]; done) | with_reducible apply cell_alloc | with_reducible apply cell_drew | with_reducible apply cell_drewN | (with_reducible apply Ab.at; with_reducible assumption) | (with_reducible refine cell_set ?_ ?_; rotate_left; focus (first | (simp; done) | (simp; omega))) | (with_reducible refine cell_setb ?_ ?_; rotate_left; focus (first | omega | (simp only; omega) | (simp; omega))))))
  go_wp2_with fail
  refine (newest_any ⟨A, B, C, D, ca, cb, cc, cd⟩ ⟨⟨s, t, cap, dn⟩, ⟨p, q, cep, dm⟩, n⟩ _ (h.ab (by repeat (first | with_reducible exact Ab.refl _ | with_reducible assumption | with_reducible refine Ab.drew ?_ | with_reducible refine Ab.drewN ?_ _ | with_reducible refine Ab.alloc ?_ _ | with_reducible refine Ab.trans ?_ (by assumption) | with_reducible refine Ab.set ?_ (by first | (simp; done) | omega | (simp; omega)) _))) HG.out.a HG.out.b).mono ?_
  rintro e w2 ⟨r1, ok1, X1, c1, h1, rfl, hX1, hc1, hv1, hb2⟩
  have hX : RB w2 w.heap.size X1 r1.data := hX1.mono (show Ab w w1 from (by repeat (first | with_reducible exact Ab.refl _ | with_reducible assumption | with_reducible refine Ab.drew ?_ | with_reducible refine Ab.drewN ?_ _ | with_reducible refine Ab.alloc ?_ _ | with_reducible refine Ab.trans ?_ (by assumption) | with_reducible refine Ab.set ?_ (by first | (simp; done) | omega | (simp; omega)) _))).size
  have b2 : Ab w w2 := (by repeat (first | with_reducible exact Ab.refl _ | with_reducible assumption | with_reducible refine Ab.drew ?_ | with_reducible refine Ab.drewN ?_ _ | with_reducible refine Ab.alloc ?_ _ | with_reducible refine Ab.trans ?_ (by assumption) | with_reducible refine Ab.set ?_ (by first | (simp; done) | omega | (simp; omega)) _))
  cases ok1 with
  | false =>
    have HM := Lib.hid (show (0, [], 6) = Slots.load ⟨⟨s, t, cap, dn⟩, ⟨p, q, cep, dm⟩, n⟩ by rw [HB.out, ← h1.out]; rfl)
    go_wp2
    go_ret3
    exact RetNum3.err HM.out (by repeat (first | with_reducible exact Ab.refl _ | with_reducible assumption | with_reducible refine Ab.drew ?_ | with_reducible refine Ab.drewN ?_ _ | with_reducible refine Ab.alloc ?_ _ | with_reducible refine Ab.trans ?_ (by assumption) | with_reducible refine Ab.set ?_ (by first | (simp; done) | omega | (simp; omega)) _))
  | true =>
    have HM := Lib.hid (show (r1.num, r1.data, 0) = Slots.load ⟨⟨s, t, cap, dn⟩, ⟨p, q, cep, dm⟩, n⟩ by rw [HB.out, ← h1.out]; rfl)
    have hl := (hv1 rfl).2.2
    have HV := Lib.hid (hv1 rfl)
    clear hv1
    go_upto_region 7 with fail
    go_quiet (fail)
    go_wp2
    go_ret3
    exact ⟨r1.num, 0, r1.data, X1, c1, HM, rfl, hX.ab (by repeat (first | with_reducible exact Ab.refl _ | with_reducible assumption | with_reducible refine Ab.drew ?_ | with_reducible refine Ab.drewN ?_ _ | with_reducible refine Ab.alloc ?_ _ | with_reducible refine Ab.trans ?_ (by assumption) | with_reducible refine Ab.set ?_ (by first | (simp; done) | omega | (simp; omega)) _)), hc1, hl, (by repeat (first | with_reducible exact Ab.refl _ | with_reducible assumption | with_reducible refine Ab.drew ?_ | with_reducible refine Ab.drewN ?_ _ | with_reducible refine Ab.alloc ?_ _ | with_reducible refine Ab.trans ?_ (by assumption) | with_reducible refine Ab.set ?_ (by first | (simp; done) | omega | (simp; omega)) _))⟩
end Go.Proofs.Ytakgglpfgpkboaa
