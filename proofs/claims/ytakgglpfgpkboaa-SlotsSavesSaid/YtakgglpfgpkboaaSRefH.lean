/- Half of the reference of layer 5, walked. Own work. -/
import Derived.Test.YtakgglpfgpkboaaSRefC
import Derived.Test.YtakgglpfgpkboaaSRefF
set_option linter.unusedVariables false
set_option linter.unusedSimpArgs false
namespace Go.Proofs.Ytakgglpfgpkboaa
open Go.RowKit
open Slots (Sl)
open Disk (Dev)

set_option maxHeartbeats 4000000 in
set_option maxRecDepth 100000 in
theorem srhalf_any (m : AM) (r : Sl) (w : World) (h : SlM w 0 m r) (X : Option Addr) (b : List UInt8) (cx : Nat) (hx : RB w 0 X b) (hcx : b.length ≤ cx) (k keep : Int) :
    Calls Try.prog 22 #[.agg #[.slice m.A r.a.s.length m.ca, .slice m.B r.a.t.length m.cb, .int .i64 r.a.cap, .bool r.a.down, .slice m.C r.b.s.length m.cc, .slice m.D r.b.t.length m.cd, .int .i64 r.b.cap, .bool r.b.down, .int .i64 r.n], .slice X b.length cx, .int .i64 k, .int .i64 keep] w (RetSlE w (Slots.half r b k keep)) := by
  obtain ⟨A, B, C, D, ca, cb, cc, cd⟩ := m
  obtain ⟨⟨s, t, cap, dn⟩, ⟨p, q, cep, dm⟩, n⟩ := r
  dsimp only
  go_enter Try.func22, Try.ntmps22
  go_wp2_with fail
  refine (srasked_any (⟨A, B, C, D, ca, cb, cc, cd⟩ : AM) (⟨⟨s, t, cap, dn⟩, ⟨p, q, cep, dm⟩, n⟩ : Sl) _ (h.ab (by repeat (first | with_reducible exact Ab.refl _ | with_reducible assumption | with_reducible refine Ab.drew ?_ | with_reducible refine Ab.drewN ?_ _ | with_reducible refine Ab.alloc ?_ _ | with_reducible refine Ab.trans ?_ (by assumption) | with_reducible refine Ab.set ?_ (by first | (simp; done) | omega | (simp; omega)) _))) X b cx (hx.ab (by repeat (first | with_reducible exact Ab.refl _ | with_reducible assumption | with_reducible refine Ab.drew ?_ | with_reducible refine Ab.drewN ?_ _ | with_reducible refine Ab.alloc ?_ _ | with_reducible refine Ab.trans ?_ (by assumption) | with_reducible refine Ab.set ?_ (by first | (simp; done) | omega | (simp; omega)) _))) hcx).mono ?_
  rintro e w1 ⟨er, hr, rfl, hb1⟩
  have hz : Ab ((w.alloc (.cells #[.slice A s.length ca, .slice B t.length cb, .int .i64 cap, .bool dn, .slice C p.length cc, .slice D q.length cd, .int .i64 cep, .bool dm, .int .i64 n] 27)).alloc (.cells #[.slice none 0 0, .slice none 0 0, .int .i64 0, .bool false, .slice none 0 0, .slice none 0 0, .int .i64 0, .bool false, .int .i64 0] 27)) w1 := (by repeat (first | with_reducible exact Ab.refl _ | with_reducible assumption | with_reducible refine Ab.drew ?_ | with_reducible refine Ab.drewN ?_ _ | with_reducible refine Ab.alloc ?_ _ | with_reducible refine Ab.trans ?_ (by assumption) | with_reducible refine Ab.set ?_ (by first | (simp; done) | omega | (simp; omega)) _))
  have hbx := (SlB.box (w := (w.alloc (.cells #[.slice A s.length ca, .slice B t.length cb, .int .i64 cap, .bool dn, .slice C p.length cc, .slice D q.length cd, .int .i64 cep, .bool dm, .int .i64 n] 27)).alloc (.cells #[.slice none 0 0, .slice none 0 0, .int .i64 0, .bool false, .slice none 0 0, .slice none 0 0, .int .i64 0, .bool false, .int .i64 0] 27)) (b := w.heap.size) (m := (⟨A, B, C, D, ca, cb, cc, cd⟩ : AM)) (r := (⟨⟨s, t, cap, dn⟩, ⟨p, q, cep, dm⟩, n⟩ : Sl)) (old_alloc (new_plain rfl))).ab hz
  have hrx := (SlB.box (w := (w.alloc (.cells #[.slice A s.length ca, .slice B t.length cb, .int .i64 cap, .bool dn, .slice C p.length cc, .slice D q.length cd, .int .i64 cep, .bool dm, .int .i64 n] 27)).alloc (.cells #[.slice none 0 0, .slice none 0 0, .int .i64 0, .bool false, .slice none 0 0, .slice none 0 0, .int .i64 0, .bool false, .int .i64 0] 27)) (b := w.heap.size + 1) (m := AM.nil) (r := Slots.zero) (new_plain (by simp))).ab hz
  have zz := hz.size
  simp at zz
  by_cases he : er = 0
  · have hask := (hr.out.symm.trans he)
    have HM := Lib.hid (show Slots.half (⟨⟨s, t, cap, dn⟩, ⟨p, q, cep, dm⟩, n⟩ : Sl) b k keep = _ from if_neg (by rw [hask]; simp))
    have HA := Lib.hid hask
    have hn0 := (Slots.asked_good hask).1.lo
    simp only at hn0
    have hn0 : 0 ≤ n := by omega
    obtain rfl : er = 0 := he
    clear hr hask
    by_cases hk0 : k < 0
    · have HN := Lib.hid (HM.out.trans (if_pos (.inl hk0)))
      clear HM
      have hk0' : decide (k < 0) = true := by simpa using hk0
      clear hk0
      obtain ⟨zq0, zq1, zq2, zq3, zq4, zq5, zq6, zq7, zq8, zg0, zg1, zg2, zg3, zg4, zg5, zg6, zg7, zg8⟩ := hrx
      (try simp only [AM.nil, Slots.zero, Disk.zero, List.length_nil] at zq0 zq1 zq2 zq3 zq4 zq5 zq6 zq7 zq8)
      go_wp2
      refine bodyPost_ret (v := .tuple #[(.agg #[.slice none 0 0, .slice none 0 0, .int .i64 0, .bool false, .slice none 0 0, .slice none 0 0, .int .i64 0, .bool false, .int .i64 0]), .int .i64 2]) (by simp [results, Try.results22, go_sem, *]) rfl ?_
      exact RetSlE.zero HN.out.symm (by repeat (first | with_reducible exact Ab.refl _ | with_reducible assumption | with_reducible refine Ab.drew ?_ | with_reducible refine Ab.drewN ?_ _ | with_reducible refine Ab.alloc ?_ _ | with_reducible refine Ab.trans ?_ (by assumption) | with_reducible refine Ab.set ?_ (by first | (simp; done) | omega | (simp; omega)) _))
    by_cases hk3 : 3 < k
    · have HN := Lib.hid (HM.out.trans (if_pos (.inr hk3)))
      clear HM
      have hk0' : decide (k < 0) = false := by simpa using hk0
      have hk3' : decide (3 < k) = true := by simpa using hk3
      clear hk0 hk3
      obtain ⟨zq0, zq1, zq2, zq3, zq4, zq5, zq6, zq7, zq8, zg0, zg1, zg2, zg3, zg4, zg5, zg6, zg7, zg8⟩ := hrx
      (try simp only [AM.nil, Slots.zero, Disk.zero, List.length_nil] at zq0 zq1 zq2 zq3 zq4 zq5 zq6 zq7 zq8)
      go_wp2
      refine bodyPost_ret (v := .tuple #[(.agg #[.slice none 0 0, .slice none 0 0, .int .i64 0, .bool false, .slice none 0 0, .slice none 0 0, .int .i64 0, .bool false, .int .i64 0]), .int .i64 2]) (by simp [results, Try.results22, go_sem, *]) rfl ?_
      exact RetSlE.zero HN.out.symm (by repeat (first | with_reducible exact Ab.refl _ | with_reducible assumption | with_reducible refine Ab.drew ?_ | with_reducible refine Ab.drewN ?_ _ | with_reducible refine Ab.alloc ?_ _ | with_reducible refine Ab.trans ?_ (by assumption) | with_reducible refine Ab.set ?_ (by first | (simp; done) | omega | (simp; omega)) _))
    have HN := Lib.hid (HM.out.trans (if_neg (by omega)))
    clear HM
    have hk0' : decide (k < 0) = false := by simpa using hk0
    have hk3' : decide (3 < k) = false := by simpa using hk3
    clear hk0 hk3
    have HBX := hbx
    obtain ⟨vq0, vq1, vq2, vq3, vq4, vq5, vq6, vq7, vq8, vg0, vg1, vg2, vg3, vg4, vg5, vg6, vg7, vg8⟩ := hbx
    (try simp only [AM.nil, Slots.zero, Disk.zero, List.length_nil] at vq0 vq1 vq2 vq3 vq4 vq5 vq6 vq7 vq8)
    go_wp2_with fail
    refine (srstepped_any (⟨A, B, C, D, ca, cb, cc, cd⟩ : AM) (⟨⟨s, t, cap, dn⟩, ⟨p, q, cep, dm⟩, n⟩ : Sl) _ (h.ab (by repeat (first | with_reducible exact Ab.refl _ | with_reducible assumption | with_reducible refine Ab.drew ?_ | with_reducible refine Ab.drewN ?_ _ | with_reducible refine Ab.alloc ?_ _ | with_reducible refine Ab.trans ?_ (by assumption) | with_reducible refine Ab.set ?_ (by first | (simp; done) | omega | (simp; omega)) _))) X b cx (hx.ab (by repeat (first | with_reducible exact Ab.refl _ | with_reducible assumption | with_reducible refine Ab.drew ?_ | with_reducible refine Ab.drewN ?_ _ | with_reducible refine Ab.alloc ?_ _ | with_reducible refine Ab.trans ?_ (by assumption) | with_reducible refine Ab.set ?_ (by first | (simp; done) | omega | (simp; omega)) _))) hcx HA.out k).mono ?_
    rintro e w2 ⟨r2, k2, hr2, rfl, hM2, hb2⟩
    have HR := Lib.hid hr2.out
    have hn2 : r2.n = n := by rw [hr2.out]; unfold Slots.Sl.put; split <;> rfl
    have HN2 := Lib.hid hn2
    have b2 : Ab w w2 := (by repeat (first | with_reducible exact Ab.refl _ | with_reducible assumption | with_reducible refine Ab.drew ?_ | with_reducible refine Ab.drewN ?_ _ | with_reducible refine Ab.alloc ?_ _ | with_reducible refine Ab.trans ?_ (by assumption) | with_reducible refine Ab.set ?_ (by first | (simp; done) | omega | (simp; omega)) _))
    clear hr2
    clear vq0 vq1 vq2 vq3 vq4 vq5 vq6 vq7 vq8 vg0 vg1 vg2 vg3 vg4 vg5 vg6 vg7 vg8 hn2
    obtain ⟨vq0, vq1, vq2, vq3, vq4, vq5, vq6, vq7, vq8, vg0, vg1, vg2, vg3, vg4, vg5, vg6, vg7, vg8⟩ := (HBX.ab hb2)
    (try simp only [AM.nil, Slots.zero, Disk.zero, List.length_nil] at vq0 vq1 vq2 vq3 vq4 vq5 vq6 vq7 vq8)
    obtain ⟨zq0, zq1, zq2, zq3, zq4, zq5, zq6, zq7, zq8, zg0, zg1, zg2, zg3, zg4, zg5, zg6, zg7, zg8⟩ := (hrx.ab hb2)
    (try simp only [AM.nil, Slots.zero, Disk.zero, List.length_nil] at zq0 zq1 zq2 zq3 zq4 zq5 zq6 zq7 zq8)
    have ss0 := cell_lt vq0
    have ss1 := cell_lt zq0
    simp only at ss0 ss1
    have nva := fun (o : Obj) (j : Nat) => World.cell?_alloc_lt w2 o ⟨w.heap.size, j, none⟩ (by simp only; omega)
    have nvb := fun (o : Obj) (j : Nat) => ((Ab.refl w2).alloc o).frozen (p := ⟨w.heap.size, j, none⟩) (by simp only; omega)
    have nza := fun (o : Obj) (j : Nat) => World.cell?_alloc_lt w2 o ⟨w.heap.size + 1, j, none⟩ (by simp only; omega)
    have nzb := fun (o : Obj) (j : Nat) => ((Ab.refl w2).alloc o).frozen (p := ⟨w.heap.size + 1, j, none⟩) (by simp only; omega)
    have ne1 : w.heap.size ≠ w2.heap.size := by omega
    have ne2 : w.heap.size + 1 ≠ w2.heap.size := by omega
    rcases Int.emod_two_eq n with hp0 | hp0
    · have HP := Lib.hid hp0
      have ht0 : n.tmod 2 = 0 := by rw [Int.tmod_eq_emod_of_nonneg hn0]; exact hp0
      have ep : ∀ (d e : Dev) (x : Int), Slots.Sl.put (⟨⟨s, t, cap, dn⟩, ⟨p, q, cep, dm⟩, n⟩ : Sl) d e x = ⟨d, e, x⟩ := fun d e x => by simp [Slots.Sl.put, hp0]
      have HC := Lib.hid (show (r2.a = Slots.wr (Slots.Sl.cur (⟨⟨s, t, cap, dn⟩, ⟨p, q, cep, dm⟩, n⟩ : Sl)) (Frame.enc ⟨n, b⟩) k ∧ r2.b = Slots.Sl.oth (⟨⟨s, t, cap, dn⟩, ⟨p, q, cep, dm⟩, n⟩ : Sl)) by rw [HR.out, ep]; exact ⟨rfl, rfl⟩)
      have HQ := Lib.hid ep
      clear hp0 ep
      go_wp2_with fail
      refine (refCrash_any k2.A k2.B k2.ca k2.cb r2.a.s r2.a.t r2.a.cap r2.a.down _ (RB.ab hM2.a.zero ((Ab.refl w2).alloc _)) (RB.ab hM2.b.zero ((Ab.refl w2).alloc _)) hM2.la hM2.lb hM2.sa hM2.sb keep).mono ?_
      rintro e w5 ⟨r5, er5, D5, E5, d5, e5, hr5, rfl, o1, o2, hb5⟩
      have b5 : Ab w w5 := (by repeat (first | with_reducible exact Ab.refl _ | with_reducible assumption | with_reducible refine Ab.drew ?_ | with_reducible refine Ab.drewN ?_ _ | with_reducible refine Ab.alloc ?_ _ | with_reducible refine Ab.trans ?_ (by assumption) | with_reducible refine Ab.set ?_ (by first | (simp; done) | omega | (simp; omega)) _))
      have b25 : Ab w2 w5 := ((Ab.refl w2).alloc _).trans hb5
      have H5 := Lib.hid (show (r5, er5) = Disk.crash (Slots.wr (Slots.Sl.cur (⟨⟨s, t, cap, dn⟩, ⟨p, q, cep, dm⟩, n⟩ : Sl)) (Frame.enc ⟨n, b⟩) k) keep by rw [← HC.out.1]; exact hr5.out)
      have hal : Ab w2 (w2.alloc (.cells #[.slice k2.A r2.a.s.length k2.ca, .slice k2.B r2.a.t.length k2.cb, .int .i64 r2.a.cap, .bool r2.a.down, .slice k2.C r2.b.s.length k2.cc, .slice k2.D r2.b.t.length k2.cd, .int .i64 r2.b.cap, .bool r2.b.down, .int .i64 r2.n] 27)) := (Ab.refl w2).alloc _
      have hbo := ((HBX.ab hb2).ab hal).ab hb5
      have hzo := ((hrx.ab hb2).ab hal).ab hb5
      have hto := (SlB.box (w := w2.alloc (.cells #[.slice k2.A r2.a.s.length k2.ca, .slice k2.B r2.a.t.length k2.cb, .int .i64 r2.a.cap, .bool r2.a.down, .slice k2.C r2.b.s.length k2.cc, .slice k2.D r2.b.t.length k2.cd, .int .i64 r2.b.cap, .bool r2.b.down, .int .i64 r2.n] 27)) (b := w2.heap.size) (m := k2) (r := r2) (new_plain rfl)).ab hb5
      have S5 := Lib.hid (show Slots.Small r5 by rw [show r5 = _ from congrArg Prod.fst hr5.out]; exact Slots.small_crash _ ⟨hM2.sa, hM2.sb⟩)
      have zz5 : w2.heap.size + 1 ≤ w5.heap.size := by have := hb5.size; simpa using this
      have p5 : RB w5 (w2.heap.size + 1) D5 r5.s := o1.rb.mono (by simp)
      have p6 : RB w5 (w2.heap.size + 1) E5 r5.t := o2.rb.mono (by simp)
      have k5 := o1.le
      have j5 := o2.le
      clear hr5 o1 o2 hal vq0 vq1 vq2 vq3 vq4 vq5 vq6 vq7 vq8 vg0 vg1 vg2 vg3 vg4 vg5 vg6 vg7 vg8 zq0 zq1 zq2 zq3 zq4 zq5 zq6 zq7 zq8 zg0 zg1 zg2 zg3 zg4 zg5 zg6 zg7 zg8
      obtain ⟨zq0, zq1, zq2, zq3, zq4, zq5, zq6, zq7, zq8, zg0, zg1, zg2, zg3, zg4, zg5, zg6, zg7, zg8⟩ := hzo
      (try simp only [AM.nil, Slots.zero, Disk.zero, List.length_nil] at zq0 zq1 zq2 zq3 zq4 zq5 zq6 zq7 zq8)
      obtain ⟨yq0, yq1, yq2, yq3, yq4, yq5, yq6, yq7, yq8, yg0, yg1, yg2, yg3, yg4, yg5, yg6, yg7, yg8⟩ := hto
      (try simp only [AM.nil, Slots.zero, Disk.zero, List.length_nil] at yq0 yq1 yq2 yq3 yq4 yq5 yq6 yq7 yq8)
      have nza := fun (o : Obj) (j : Nat) => World.cell?_alloc_lt w5 o ⟨w.heap.size + 1, j, none⟩ (by simp only; omega)
      have nzb := fun (o : Obj) (j : Nat) => ((Ab.refl w5).alloc o).frozen (p := ⟨w.heap.size + 1, j, none⟩) (by simp only; omega)
      have nya := fun (o : Obj) (j : Nat) => World.cell?_alloc_lt w5 o ⟨w2.heap.size, j, none⟩ (by simp only; omega)
      have nyb := fun (o : Obj) (j : Nat) => ((Ab.refl w5).alloc o).frozen (p := ⟨w2.heap.size, j, none⟩) (by simp only; omega)
      have ne3 : w2.heap.size ≠ w5.heap.size := by omega
      have ne4 : w.heap.size + 1 ≠ w5.heap.size := by omega
      by_cases he5 : er5 = 0
      · obtain rfl : er5 = 0 := he5
        have HM := Lib.hid (HN.out.trans (if_neg (by rw [← H5.out]; simp)))
        go_wp2_with fail
        refine (refCrash_any k2.C k2.D k2.cc k2.cd r2.b.s r2.b.t r2.b.cap r2.b.down _ (RB.ab hM2.c.zero (by repeat (first | with_reducible exact Ab.refl _ | with_reducible assumption | with_reducible refine Ab.drew ?_ | with_reducible refine Ab.drewN ?_ _ | with_reducible refine Ab.alloc ?_ _ | with_reducible refine Ab.trans ?_ (by assumption) | with_reducible refine Ab.set ?_ (by first | (simp; done) | omega | (simp; omega)) _))) (RB.ab hM2.d.zero (by repeat (first | with_reducible exact Ab.refl _ | with_reducible assumption | with_reducible refine Ab.drew ?_ | with_reducible refine Ab.drewN ?_ _ | with_reducible refine Ab.alloc ?_ _ | with_reducible refine Ab.trans ?_ (by assumption) | with_reducible refine Ab.set ?_ (by first | (simp; done) | omega | (simp; omega)) _))) hM2.lc hM2.ld hM2.sc hM2.sd 0).mono ?_
        rintro e w6 ⟨r6, er6, D6, E6, d6, e6, hr6, rfl, o1, o2, hb6⟩
        have H6 := Lib.hid (show r6 = (Disk.crash (Slots.Sl.oth (⟨⟨s, t, cap, dn⟩, ⟨p, q, cep, dm⟩, n⟩ : Sl)) 0).1 by rw [← HC.out.2]; exact congrArg Prod.fst hr6.out)
        have S6 := Lib.hid (show Slots.Small r6 by rw [show r6 = _ from congrArg Prod.fst hr6.out]; exact Slots.small_crash _ ⟨hM2.sc, hM2.sd⟩)
        have HB6 := hb6
        have bal : ∀ o, Ab w5 (w5.alloc o) := fun o => (Ab.refl w5).alloc o
        have hy6 : SlB w6 w2.heap.size ⟨D5, E5, k2.C, k2.D, d5, e5, k2.cc, k2.cd⟩ ⟨r5, r2.b, r2.n⟩ := ⟨hb6.at (by simp [go_sem, *]), hb6.at (by simp [go_sem, *]), hb6.at (by simp [go_sem, *]), hb6.at (by simp [go_sem, *]), hb6.at (by simp [go_sem, *]), hb6.at (by simp [go_sem, *]), hb6.at (by simp [go_sem, *]), hb6.at (by simp [go_sem, *]), hb6.at (by simp [go_sem, *]), (hb6.frozen (by first | (simp; done) | omega | (simp; omega))).trans (by simp [go_sem, *]), (hb6.frozen (by first | (simp; done) | omega | (simp; omega))).trans (by simp [go_sem, *]), (hb6.frozen (by first | (simp; done) | omega | (simp; omega))).trans (by simp [go_sem, *]), (hb6.frozen (by first | (simp; done) | omega | (simp; omega))).trans (by simp [go_sem, *]), (hb6.frozen (by first | (simp; done) | omega | (simp; omega))).trans (by simp [go_sem, *]), (hb6.frozen (by first | (simp; done) | omega | (simp; omega))).trans (by simp [go_sem, *]), (hb6.frozen (by first | (simp; done) | omega | (simp; omega))).trans (by simp [go_sem, *]), (hb6.frozen (by first | (simp; done) | omega | (simp; omega))).trans (by simp [go_sem, *]), (hb6.frozen (by first | (simp; done) | omega | (simp; omega))).trans (by simp [go_sem, *])⟩
        have hz6 : SlB w6 (w.heap.size + 1) AM.nil Slots.zero := ⟨hb6.at (by simp [go_sem, AM.nil, Slots.zero, Disk.zero, *]), hb6.at (by simp [go_sem, AM.nil, Slots.zero, Disk.zero, *]), hb6.at (by simp [go_sem, AM.nil, Slots.zero, Disk.zero, *]), hb6.at (by simp [go_sem, AM.nil, Slots.zero, Disk.zero, *]), hb6.at (by simp [go_sem, AM.nil, Slots.zero, Disk.zero, *]), hb6.at (by simp [go_sem, AM.nil, Slots.zero, Disk.zero, *]), hb6.at (by simp [go_sem, AM.nil, Slots.zero, Disk.zero, *]), hb6.at (by simp [go_sem, AM.nil, Slots.zero, Disk.zero, *]), hb6.at (by simp [go_sem, AM.nil, Slots.zero, Disk.zero, *]), (hb6.frozen (by first | (simp; done) | omega | (simp; omega))).trans (by simp [go_sem, *]), (hb6.frozen (by first | (simp; done) | omega | (simp; omega))).trans (by simp [go_sem, *]), (hb6.frozen (by first | (simp; done) | omega | (simp; omega))).trans (by simp [go_sem, *]), (hb6.frozen (by first | (simp; done) | omega | (simp; omega))).trans (by simp [go_sem, *]), (hb6.frozen (by first | (simp; done) | omega | (simp; omega))).trans (by simp [go_sem, *]), (hb6.frozen (by first | (simp; done) | omega | (simp; omega))).trans (by simp [go_sem, *]), (hb6.frozen (by first | (simp; done) | omega | (simp; omega))).trans (by simp [go_sem, *]), (hb6.frozen (by first | (simp; done) | omega | (simp; omega))).trans (by simp [go_sem, *]), (hb6.frozen (by first | (simp; done) | omega | (simp; omega))).trans (by simp [go_sem, *])⟩
        have zz6 : w2.heap.size + 1 ≤ w6.heap.size := Nat.le_trans zz5 (by have := hb6.size; simp at this; omega)
        have p7 : RB w6 (w2.heap.size + 1) D6 r6.s := o1.rb.mono (by simp; omega)
        have p8 : RB w6 (w2.heap.size + 1) E6 r6.t := o2.rb.mono (by simp; omega)
        have p5 : RB w6 (w2.heap.size + 1) D5 r5.s := by refine RB.ab ?_ hb6; (repeat with_reducible refine RB.put ?_ (by first | (simp; done) | omega | (simp; omega)) _); exact p5.ab (bal _)
        have p6 : RB w6 (w2.heap.size + 1) E5 r5.t := by refine RB.ab ?_ hb6; (repeat with_reducible refine RB.put ?_ (by first | (simp; done) | omega | (simp; omega)) _); exact p6.ab (bal _)
        have b6 : Ab w w6 := (by repeat (first | with_reducible exact Ab.refl _ | with_reducible assumption | with_reducible refine Ab.drew ?_ | with_reducible refine Ab.drewN ?_ _ | with_reducible refine Ab.alloc ?_ _ | with_reducible refine Ab.trans ?_ (by assumption) | with_reducible refine Ab.set ?_ (by first | (simp; done) | omega | (simp; omega)) _))
        have k6 := o1.le
        have j6 := o2.le
        have HNN : r2.n = n := HN2.out
        clear hr6 o1 o2 hb6 HB6 bal zq0 zq1 zq2 zq3 zq4 zq5 zq6 zq7 zq8 zg0 zg1 zg2 zg3 zg4 zg5 zg6 zg7 zg8 yq0 yq1 yq2 yq3 yq4 yq5 yq6 yq7 yq8 yg0 yg1 yg2 yg3 yg4 yg5 yg6 yg7 yg8
        obtain ⟨yq0, yq1, yq2, yq3, yq4, yq5, yq6, yq7, yq8, yg0, yg1, yg2, yg3, yg4, yg5, yg6, yg7, yg8⟩ := hy6
        (try simp only [AM.nil, Slots.zero, Disk.zero, List.length_nil] at yq0 yq1 yq2 yq3 yq4 yq5 yq6 yq7 yq8)
        obtain ⟨zq0, zq1, zq2, zq3, zq4, zq5, zq6, zq7, zq8, zg0, zg1, zg2, zg3, zg4, zg5, zg6, zg7, zg8⟩ := hz6
        (try simp only [AM.nil, Slots.zero, Disk.zero, List.length_nil] at zq0 zq1 zq2 zq3 zq4 zq5 zq6 zq7 zq8)
        go_wp2
        refine bodyPost_ret (v := .tuple #[.agg #[.slice D5 r5.s.length d5, .slice E5 r5.t.length e5, .int .i64 r5.cap, .bool r5.down, .slice D6 r6.s.length d6, .slice E6 r6.t.length e6, .int .i64 r6.cap, .bool r6.down, .int .i64 n], .int .i64 0]) (by simp [results, Try.results22, go_sem, *]) rfl ?_
        refine ⟨⟨r5, r6, n⟩, 0, ⟨D5, E5, D6, E6, d5, e5, d6, e6⟩, Lib.hid ?_, rfl, SlM.mono (lo := w2.heap.size + 1) ⟨?_, ?_, ?_, ?_, k5, j5, k6, j6, S5.out.1, S5.out.2, S6.out.1, S6.out.2⟩ (by omega), (by repeat (first | with_reducible exact Ab.refl _ | with_reducible assumption | with_reducible refine Ab.drew ?_ | with_reducible refine Ab.drewN ?_ _ | with_reducible refine Ab.alloc ?_ _ | with_reducible refine Ab.trans ?_ (by assumption) | with_reducible refine Ab.set ?_ (by first | (simp; done) | omega | (simp; omega)) _))⟩
        · rw [HM.out, ← H5.out, ← H6.out, HQ.out]
        all_goals ((repeat with_reducible refine RB.put ?_ (by first | (simp; done) | omega | (simp; omega)) _); with_reducible assumption)
      · have HM := Lib.hid (HN.out.trans (if_pos (by rw [← H5.out]; exact he5)))
        have hne5 : (er5 != 0) = true := by simpa using he5
        clear he5 HN
        go_wp2
        refine bodyPost_ret (v := .tuple #[(.agg #[.slice none 0 0, .slice none 0 0, .int .i64 0, .bool false, .slice none 0 0, .slice none 0 0, .int .i64 0, .bool false, .int .i64 0]), .int .i64 er5]) (by simp [results, Try.results22, go_sem, *]) rfl ?_
        exact RetSlE.zero (by rw [HM.out, ← H5.out]) (by repeat (first | with_reducible exact Ab.refl _ | with_reducible assumption | with_reducible refine Ab.drew ?_ | with_reducible refine Ab.drewN ?_ _ | with_reducible refine Ab.alloc ?_ _ | with_reducible refine Ab.trans ?_ (by assumption) | with_reducible refine Ab.set ?_ (by first | (simp; done) | omega | (simp; omega)) _))
    · have HP := Lib.hid hp0
      have ht0 : n.tmod 2 = 1 := by rw [Int.tmod_eq_emod_of_nonneg hn0]; exact hp0
      have ep : ∀ (d e : Dev) (x : Int), Slots.Sl.put (⟨⟨s, t, cap, dn⟩, ⟨p, q, cep, dm⟩, n⟩ : Sl) d e x = ⟨e, d, x⟩ := fun d e x => by simp [Slots.Sl.put, hp0]
      have HC := Lib.hid (show (r2.b = Slots.wr (Slots.Sl.cur (⟨⟨s, t, cap, dn⟩, ⟨p, q, cep, dm⟩, n⟩ : Sl)) (Frame.enc ⟨n, b⟩) k ∧ r2.a = Slots.Sl.oth (⟨⟨s, t, cap, dn⟩, ⟨p, q, cep, dm⟩, n⟩ : Sl)) by rw [HR.out, ep]; exact ⟨rfl, rfl⟩)
      have HQ := Lib.hid ep
      clear hp0 ep
      go_wp2_with fail
      refine (refCrash_any k2.C k2.D k2.cc k2.cd r2.b.s r2.b.t r2.b.cap r2.b.down _ (RB.ab hM2.c.zero ((Ab.refl w2).alloc _)) (RB.ab hM2.d.zero ((Ab.refl w2).alloc _)) hM2.lc hM2.ld hM2.sc hM2.sd keep).mono ?_
      rintro e w5 ⟨r5, er5, D5, E5, d5, e5, hr5, rfl, o1, o2, hb5⟩
      have b5 : Ab w w5 := (by repeat (first | with_reducible exact Ab.refl _ | with_reducible assumption | with_reducible refine Ab.drew ?_ | with_reducible refine Ab.drewN ?_ _ | with_reducible refine Ab.alloc ?_ _ | with_reducible refine Ab.trans ?_ (by assumption) | with_reducible refine Ab.set ?_ (by first | (simp; done) | omega | (simp; omega)) _))
      have b25 : Ab w2 w5 := ((Ab.refl w2).alloc _).trans hb5
      have H5 := Lib.hid (show (r5, er5) = Disk.crash (Slots.wr (Slots.Sl.cur (⟨⟨s, t, cap, dn⟩, ⟨p, q, cep, dm⟩, n⟩ : Sl)) (Frame.enc ⟨n, b⟩) k) keep by rw [← HC.out.1]; exact hr5.out)
      have hal : Ab w2 (w2.alloc (.cells #[.slice k2.A r2.a.s.length k2.ca, .slice k2.B r2.a.t.length k2.cb, .int .i64 r2.a.cap, .bool r2.a.down, .slice k2.C r2.b.s.length k2.cc, .slice k2.D r2.b.t.length k2.cd, .int .i64 r2.b.cap, .bool r2.b.down, .int .i64 r2.n] 27)) := (Ab.refl w2).alloc _
      have hbo := ((HBX.ab hb2).ab hal).ab hb5
      have hzo := ((hrx.ab hb2).ab hal).ab hb5
      have hto := (SlB.box (w := w2.alloc (.cells #[.slice k2.A r2.a.s.length k2.ca, .slice k2.B r2.a.t.length k2.cb, .int .i64 r2.a.cap, .bool r2.a.down, .slice k2.C r2.b.s.length k2.cc, .slice k2.D r2.b.t.length k2.cd, .int .i64 r2.b.cap, .bool r2.b.down, .int .i64 r2.n] 27)) (b := w2.heap.size) (m := k2) (r := r2) (new_plain rfl)).ab hb5
      have S5 := Lib.hid (show Slots.Small r5 by rw [show r5 = _ from congrArg Prod.fst hr5.out]; exact Slots.small_crash _ ⟨hM2.sc, hM2.sd⟩)
      have zz5 : w2.heap.size + 1 ≤ w5.heap.size := by have := hb5.size; simpa using this
      have p5 : RB w5 (w2.heap.size + 1) D5 r5.s := o1.rb.mono (by simp)
      have p6 : RB w5 (w2.heap.size + 1) E5 r5.t := o2.rb.mono (by simp)
      have k5 := o1.le
      have j5 := o2.le
      clear hr5 o1 o2 hal vq0 vq1 vq2 vq3 vq4 vq5 vq6 vq7 vq8 vg0 vg1 vg2 vg3 vg4 vg5 vg6 vg7 vg8 zq0 zq1 zq2 zq3 zq4 zq5 zq6 zq7 zq8 zg0 zg1 zg2 zg3 zg4 zg5 zg6 zg7 zg8
      obtain ⟨zq0, zq1, zq2, zq3, zq4, zq5, zq6, zq7, zq8, zg0, zg1, zg2, zg3, zg4, zg5, zg6, zg7, zg8⟩ := hzo
      (try simp only [AM.nil, Slots.zero, Disk.zero, List.length_nil] at zq0 zq1 zq2 zq3 zq4 zq5 zq6 zq7 zq8)
      obtain ⟨yq0, yq1, yq2, yq3, yq4, yq5, yq6, yq7, yq8, yg0, yg1, yg2, yg3, yg4, yg5, yg6, yg7, yg8⟩ := hto
      (try simp only [AM.nil, Slots.zero, Disk.zero, List.length_nil] at yq0 yq1 yq2 yq3 yq4 yq5 yq6 yq7 yq8)
      have nza := fun (o : Obj) (j : Nat) => World.cell?_alloc_lt w5 o ⟨w.heap.size + 1, j, none⟩ (by simp only; omega)
      have nzb := fun (o : Obj) (j : Nat) => ((Ab.refl w5).alloc o).frozen (p := ⟨w.heap.size + 1, j, none⟩) (by simp only; omega)
      have nya := fun (o : Obj) (j : Nat) => World.cell?_alloc_lt w5 o ⟨w2.heap.size, j, none⟩ (by simp only; omega)
      have nyb := fun (o : Obj) (j : Nat) => ((Ab.refl w5).alloc o).frozen (p := ⟨w2.heap.size, j, none⟩) (by simp only; omega)
      have ne3 : w2.heap.size ≠ w5.heap.size := by omega
      have ne4 : w.heap.size + 1 ≠ w5.heap.size := by omega
      by_cases he5 : er5 = 0
      · obtain rfl : er5 = 0 := he5
        have HM := Lib.hid (HN.out.trans (if_neg (by rw [← H5.out]; simp)))
        go_wp2_with fail
        refine (refCrash_any k2.A k2.B k2.ca k2.cb r2.a.s r2.a.t r2.a.cap r2.a.down _ (RB.ab hM2.a.zero (by repeat (first | with_reducible exact Ab.refl _ | with_reducible assumption | with_reducible refine Ab.drew ?_ | with_reducible refine Ab.drewN ?_ _ | with_reducible refine Ab.alloc ?_ _ | with_reducible refine Ab.trans ?_ (by assumption) | with_reducible refine Ab.set ?_ (by first | (simp; done) | omega | (simp; omega)) _))) (RB.ab hM2.b.zero (by repeat (first | with_reducible exact Ab.refl _ | with_reducible assumption | with_reducible refine Ab.drew ?_ | with_reducible refine Ab.drewN ?_ _ | with_reducible refine Ab.alloc ?_ _ | with_reducible refine Ab.trans ?_ (by assumption) | with_reducible refine Ab.set ?_ (by first | (simp; done) | omega | (simp; omega)) _))) hM2.la hM2.lb hM2.sa hM2.sb 0).mono ?_
        rintro e w6 ⟨r6, er6, D6, E6, d6, e6, hr6, rfl, o1, o2, hb6⟩
        have H6 := Lib.hid (show r6 = (Disk.crash (Slots.Sl.oth (⟨⟨s, t, cap, dn⟩, ⟨p, q, cep, dm⟩, n⟩ : Sl)) 0).1 by rw [← HC.out.2]; exact congrArg Prod.fst hr6.out)
        have S6 := Lib.hid (show Slots.Small r6 by rw [show r6 = _ from congrArg Prod.fst hr6.out]; exact Slots.small_crash _ ⟨hM2.sa, hM2.sb⟩)
        have HB6 := hb6
        have bal : ∀ o, Ab w5 (w5.alloc o) := fun o => (Ab.refl w5).alloc o
        have hy6 : SlB w6 w2.heap.size ⟨k2.A, k2.B, D5, E5, k2.ca, k2.cb, d5, e5⟩ ⟨r2.a, r5, r2.n⟩ := ⟨hb6.at (by simp [go_sem, *]), hb6.at (by simp [go_sem, *]), hb6.at (by simp [go_sem, *]), hb6.at (by simp [go_sem, *]), hb6.at (by simp [go_sem, *]), hb6.at (by simp [go_sem, *]), hb6.at (by simp [go_sem, *]), hb6.at (by simp [go_sem, *]), hb6.at (by simp [go_sem, *]), (hb6.frozen (by first | (simp; done) | omega | (simp; omega))).trans (by simp [go_sem, *]), (hb6.frozen (by first | (simp; done) | omega | (simp; omega))).trans (by simp [go_sem, *]), (hb6.frozen (by first | (simp; done) | omega | (simp; omega))).trans (by simp [go_sem, *]), (hb6.frozen (by first | (simp; done) | omega | (simp; omega))).trans (by simp [go_sem, *]), (hb6.frozen (by first | (simp; done) | omega | (simp; omega))).trans (by simp [go_sem, *]), (hb6.frozen (by first | (simp; done) | omega | (simp; omega))).trans (by simp [go_sem, *]), (hb6.frozen (by first | (simp; done) | omega | (simp; omega))).trans (by simp [go_sem, *]), (hb6.frozen (by first | (simp; done) | omega | (simp; omega))).trans (by simp [go_sem, *]), (hb6.frozen (by first | (simp; done) | omega | (simp; omega))).trans (by simp [go_sem, *])⟩
        have hz6 : SlB w6 (w.heap.size + 1) AM.nil Slots.zero := ⟨hb6.at (by simp [go_sem, AM.nil, Slots.zero, Disk.zero, *]), hb6.at (by simp [go_sem, AM.nil, Slots.zero, Disk.zero, *]), hb6.at (by simp [go_sem, AM.nil, Slots.zero, Disk.zero, *]), hb6.at (by simp [go_sem, AM.nil, Slots.zero, Disk.zero, *]), hb6.at (by simp [go_sem, AM.nil, Slots.zero, Disk.zero, *]), hb6.at (by simp [go_sem, AM.nil, Slots.zero, Disk.zero, *]), hb6.at (by simp [go_sem, AM.nil, Slots.zero, Disk.zero, *]), hb6.at (by simp [go_sem, AM.nil, Slots.zero, Disk.zero, *]), hb6.at (by simp [go_sem, AM.nil, Slots.zero, Disk.zero, *]), (hb6.frozen (by first | (simp; done) | omega | (simp; omega))).trans (by simp [go_sem, *]), (hb6.frozen (by first | (simp; done) | omega | (simp; omega))).trans (by simp [go_sem, *]), (hb6.frozen (by first | (simp; done) | omega | (simp; omega))).trans (by simp [go_sem, *]), (hb6.frozen (by first | (simp; done) | omega | (simp; omega))).trans (by simp [go_sem, *]), (hb6.frozen (by first | (simp; done) | omega | (simp; omega))).trans (by simp [go_sem, *]), (hb6.frozen (by first | (simp; done) | omega | (simp; omega))).trans (by simp [go_sem, *]), (hb6.frozen (by first | (simp; done) | omega | (simp; omega))).trans (by simp [go_sem, *]), (hb6.frozen (by first | (simp; done) | omega | (simp; omega))).trans (by simp [go_sem, *]), (hb6.frozen (by first | (simp; done) | omega | (simp; omega))).trans (by simp [go_sem, *])⟩
        have zz6 : w2.heap.size + 1 ≤ w6.heap.size := Nat.le_trans zz5 (by have := hb6.size; simp at this; omega)
        have p7 : RB w6 (w2.heap.size + 1) D6 r6.s := o1.rb.mono (by simp; omega)
        have p8 : RB w6 (w2.heap.size + 1) E6 r6.t := o2.rb.mono (by simp; omega)
        have p5 : RB w6 (w2.heap.size + 1) D5 r5.s := by refine RB.ab ?_ hb6; (repeat with_reducible refine RB.put ?_ (by first | (simp; done) | omega | (simp; omega)) _); exact p5.ab (bal _)
        have p6 : RB w6 (w2.heap.size + 1) E5 r5.t := by refine RB.ab ?_ hb6; (repeat with_reducible refine RB.put ?_ (by first | (simp; done) | omega | (simp; omega)) _); exact p6.ab (bal _)
        have b6 : Ab w w6 := (by repeat (first | with_reducible exact Ab.refl _ | with_reducible assumption | with_reducible refine Ab.drew ?_ | with_reducible refine Ab.drewN ?_ _ | with_reducible refine Ab.alloc ?_ _ | with_reducible refine Ab.trans ?_ (by assumption) | with_reducible refine Ab.set ?_ (by first | (simp; done) | omega | (simp; omega)) _))
        have k6 := o1.le
        have j6 := o2.le
        have HNN : r2.n = n := HN2.out
        clear hr6 o1 o2 hb6 HB6 bal zq0 zq1 zq2 zq3 zq4 zq5 zq6 zq7 zq8 zg0 zg1 zg2 zg3 zg4 zg5 zg6 zg7 zg8 yq0 yq1 yq2 yq3 yq4 yq5 yq6 yq7 yq8 yg0 yg1 yg2 yg3 yg4 yg5 yg6 yg7 yg8
        obtain ⟨yq0, yq1, yq2, yq3, yq4, yq5, yq6, yq7, yq8, yg0, yg1, yg2, yg3, yg4, yg5, yg6, yg7, yg8⟩ := hy6
        (try simp only [AM.nil, Slots.zero, Disk.zero, List.length_nil] at yq0 yq1 yq2 yq3 yq4 yq5 yq6 yq7 yq8)
        obtain ⟨zq0, zq1, zq2, zq3, zq4, zq5, zq6, zq7, zq8, zg0, zg1, zg2, zg3, zg4, zg5, zg6, zg7, zg8⟩ := hz6
        (try simp only [AM.nil, Slots.zero, Disk.zero, List.length_nil] at zq0 zq1 zq2 zq3 zq4 zq5 zq6 zq7 zq8)
        go_wp2
        refine bodyPost_ret (v := .tuple #[.agg #[.slice D6 r6.s.length d6, .slice E6 r6.t.length e6, .int .i64 r6.cap, .bool r6.down, .slice D5 r5.s.length d5, .slice E5 r5.t.length e5, .int .i64 r5.cap, .bool r5.down, .int .i64 n], .int .i64 0]) (by simp [results, Try.results22, go_sem, *]) rfl ?_
        refine ⟨⟨r6, r5, n⟩, 0, ⟨D6, E6, D5, E5, d6, e6, d5, e5⟩, Lib.hid ?_, rfl, SlM.mono (lo := w2.heap.size + 1) ⟨?_, ?_, ?_, ?_, k6, j6, k5, j5, S6.out.1, S6.out.2, S5.out.1, S5.out.2⟩ (by omega), (by repeat (first | with_reducible exact Ab.refl _ | with_reducible assumption | with_reducible refine Ab.drew ?_ | with_reducible refine Ab.drewN ?_ _ | with_reducible refine Ab.alloc ?_ _ | with_reducible refine Ab.trans ?_ (by assumption) | with_reducible refine Ab.set ?_ (by first | (simp; done) | omega | (simp; omega)) _))⟩
        · rw [HM.out, ← H5.out, ← H6.out, HQ.out]
        all_goals ((repeat with_reducible refine RB.put ?_ (by first | (simp; done) | omega | (simp; omega)) _); with_reducible assumption)
      · have HM := Lib.hid (HN.out.trans (if_pos (by rw [← H5.out]; exact he5)))
        have hne5 : (er5 != 0) = true := by simpa using he5
        clear he5 HN
        go_wp2
        refine bodyPost_ret (v := .tuple #[(.agg #[.slice none 0 0, .slice none 0 0, .int .i64 0, .bool false, .slice none 0 0, .slice none 0 0, .int .i64 0, .bool false, .int .i64 0]), .int .i64 er5]) (by simp [results, Try.results22, go_sem, *]) rfl ?_
        exact RetSlE.zero (by rw [HM.out, ← H5.out]) (by repeat (first | with_reducible exact Ab.refl _ | with_reducible assumption | with_reducible refine Ab.drew ?_ | with_reducible refine Ab.drewN ?_ _ | with_reducible refine Ab.alloc ?_ _ | with_reducible refine Ab.trans ?_ (by assumption) | with_reducible refine Ab.set ?_ (by first | (simp; done) | omega | (simp; omega)) _))
  · have HM := Lib.hid (show Slots.half (⟨⟨s, t, cap, dn⟩, ⟨p, q, cep, dm⟩, n⟩ : Sl) b k keep = _ from if_pos (by rw [← hr.out]; exact he))
    have hne : (er != 0) = true := by simpa using he
    have HE := Lib.hid hr.out
    obtain ⟨vq0, vq1, vq2, vq3, vq4, vq5, vq6, vq7, vq8, vg0, vg1, vg2, vg3, vg4, vg5, vg6, vg7, vg8⟩ := hbx
    (try simp only [AM.nil, Slots.zero, Disk.zero, List.length_nil] at vq0 vq1 vq2 vq3 vq4 vq5 vq6 vq7 vq8)
    obtain ⟨zq0, zq1, zq2, zq3, zq4, zq5, zq6, zq7, zq8, zg0, zg1, zg2, zg3, zg4, zg5, zg6, zg7, zg8⟩ := hrx
    (try simp only [AM.nil, Slots.zero, Disk.zero, List.length_nil] at zq0 zq1 zq2 zq3 zq4 zq5 zq6 zq7 zq8)
    clear hr he
    go_wp2
    refine bodyPost_ret (v := .tuple #[(.agg #[.slice none 0 0, .slice none 0 0, .int .i64 0, .bool false, .slice none 0 0, .slice none 0 0, .int .i64 0, .bool false, .int .i64 0]), .int .i64 er]) (by simp [results, Try.results22, go_sem, *]) rfl ?_
    exact RetSlE.zero (by rw [HM.out, ← HE.out]) (by repeat (first | with_reducible exact Ab.refl _ | with_reducible assumption | with_reducible refine Ab.drew ?_ | with_reducible refine Ab.drewN ?_ _ | with_reducible refine Ab.alloc ?_ _ | with_reducible refine Ab.trans ?_ (by assumption) | with_reducible refine Ab.set ?_ (by first | (simp; done) | omega | (simp; omega)) _))
end Go.Proofs.Ytakgglpfgpkboaa
