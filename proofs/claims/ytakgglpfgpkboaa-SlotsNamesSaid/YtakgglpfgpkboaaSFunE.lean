/- Save of package slots, walked. Own work. -/
import Derived.Test.YtakgglpfgpkboaaSFunA
import Derived.Test.YtakgglpfgpkboaaSFunB
import Derived.IntWalk
set_option linter.unusedVariables false
set_option linter.unusedSimpArgs false
namespace Go.Proofs.Ytakgglpfgpkboaa
open Go.RowKit
open Slots (Sl)
open Disk (Dev)

set_option maxRecDepth 100000 in
theorem ssave_any (m : AM) (r : Sl) (w : World) (h : SlM w 0 m r) (X : Option Addr) (b : List UInt8) (cx : Nat) (hx : RB w 0 X b) (hcx : b.length ≤ cx) :
    Calls Try.prog 10 #[.agg #[.slice m.A r.a.s.length m.ca, .slice m.B r.a.t.length m.cb, .int .i64 r.a.cap, .bool r.a.down, .slice m.C r.b.s.length m.cc, .slice m.D r.b.t.length m.cd, .int .i64 r.b.cap, .bool r.b.down, .int .i64 r.n], .slice X b.length cx] w (RetSl3 w (Slots.save r b)) := by
  obtain ⟨A, B, C, D, ca, cb, cc, cd⟩ := m
  obtain ⟨⟨s, t, cap, dn⟩, ⟨p, q, cep, dm⟩, n⟩ := r
  dsimp only
  go_enter Try.func10, Try.ntmps10
  go_wp2_with fail
  refine (sencode_any (⟨A, B, C, D, ca, cb, cc, cd⟩ : AM) (⟨⟨s, t, cap, dn⟩, ⟨p, q, cep, dm⟩, n⟩ : Sl) _ (h.ab (by repeat (first | with_reducible exact Ab.refl _ | with_reducible assumption | with_reducible refine Ab.drew ?_ | with_reducible refine Ab.drewN ?_ _ | with_reducible refine Ab.alloc ?_ _ | with_reducible refine Ab.trans ?_ (by assumption) | with_reducible refine Ab.set ?_ (by first | (simp; done) | omega | (simp; omega)) _))) X b cx (hx.ab (by repeat (first | with_reducible exact Ab.refl _ | with_reducible assumption | with_reducible refine Ab.drew ?_ | with_reducible refine Ab.drewN ?_ _ | with_reducible refine Ab.alloc ?_ _ | with_reducible refine Ab.trans ?_ (by assumption) | with_reducible refine Ab.set ?_ (by first | (simp; done) | omega | (simp; omega)) _))) hcx).mono ?_
  rintro e w1 ⟨er, L, E, ce, hr, hL, rfl, hE, hce, hL2, hb1⟩
  have hz : Ab ((w.alloc (.cells #[.slice A s.length ca, .slice B t.length cb, .int .i64 cap, .bool dn, .slice C p.length cc, .slice D q.length cd, .int .i64 cep, .bool dm, .int .i64 n] 27)).alloc (.cells #[.slice none 0 0, .slice none 0 0, .int .i64 0, .bool false, .slice none 0 0, .slice none 0 0, .int .i64 0, .bool false, .int .i64 0] 27)) w1 := (by repeat (first | with_reducible exact Ab.refl _ | with_reducible assumption | with_reducible refine Ab.drew ?_ | with_reducible refine Ab.drewN ?_ _ | with_reducible refine Ab.alloc ?_ _ | with_reducible refine Ab.trans ?_ (by assumption) | with_reducible refine Ab.set ?_ (by first | (simp; done) | omega | (simp; omega)) _))
  have hbx := (SlB.box (w := (w.alloc (.cells #[.slice A s.length ca, .slice B t.length cb, .int .i64 cap, .bool dn, .slice C p.length cc, .slice D q.length cd, .int .i64 cep, .bool dm, .int .i64 n] 27)).alloc (.cells #[.slice none 0 0, .slice none 0 0, .int .i64 0, .bool false, .slice none 0 0, .slice none 0 0, .int .i64 0, .bool false, .int .i64 0] 27)) (b := w.heap.size) (m := (⟨A, B, C, D, ca, cb, cc, cd⟩ : AM)) (r := (⟨⟨s, t, cap, dn⟩, ⟨p, q, cep, dm⟩, n⟩ : Sl)) (old_alloc (new_plain rfl))).ab hz
  have hrx := (SlB.box (w := (w.alloc (.cells #[.slice A s.length ca, .slice B t.length cb, .int .i64 cap, .bool dn, .slice C p.length cc, .slice D q.length cd, .int .i64 cep, .bool dm, .int .i64 n] 27)).alloc (.cells #[.slice none 0 0, .slice none 0 0, .int .i64 0, .bool false, .slice none 0 0, .slice none 0 0, .int .i64 0, .bool false, .int .i64 0] 27)) (b := w.heap.size + 1) (m := AM.nil) (r := Slots.zero) (new_plain (by simp))).ab hz
  have zz := hz.size
  simp at zz
  by_cases he : er = 0
  · have hask := (hr.out.symm.trans he)
    have HL := Lib.hid (hL.out he)
    obtain ⟨hg, hlb, hn1, hroom⟩ := Slots.asked_good hask
    have HM := Lib.hid (show Slots.save (⟨⟨s, t, cap, dn⟩, ⟨p, q, cep, dm⟩, n⟩ : Sl) b = _ from if_neg (by rw [hask]; simp))
    have HG := Lib.hid hg
    have hn0 : 0 ≤ n := by have := hg.lo; simp only at this; omega
    have hlL : L.length = 12 + b.length := by rw [HL.out, Frame.enc_length]
    have HN := Lib.hid (show n ≤ 1000000000 from hn1)
    have HR := Lib.hid hroom
    have HK := Lib.hid hlL
    obtain rfl : er = 0 := he
    clear hr hL hask hg hlb hn1 hroom hlL
    have hn2 : n ≤ 1000000000 := HN.out
    rcases Int.emod_two_eq n with hp | hp
    · have HBX := hbx
      obtain ⟨vq0, vq1, vq2, vq3, vq4, vq5, vq6, vq7, vq8, vg0, vg1, vg2, vg3, vg4, vg5, vg6, vg7, vg8⟩ := hbx
      (try simp only [AM.nil, Slots.zero, Disk.zero, List.length_nil] at vq0 vq1 vq2 vq3 vq4 vq5 vq6 vq7 vq8)
      have HP := Lib.hid hp
      clear hp
      go_upto_region 4 with fail
      go_quiet ((go_at_call 31
                 exact Calls.quiet_of_same (slotOf_any n 0 hn0 HP.out _)))
      generalize hwn : w1.drewN _ = w2
      have b2 : Ab w1 w2 := by rw [← hwn]; exact (Ab.refl w1).drewN _
      clear hwn vq0 vq1 vq2 vq3 vq4 vq5 vq6 vq7 vq8 vg0 vg1 vg2 vg3 vg4 vg5 vg6 vg7 vg8
      obtain ⟨vq0, vq1, vq2, vq3, vq4, vq5, vq6, vq7, vq8, vg0, vg1, vg2, vg3, vg4, vg5, vg6, vg7, vg8⟩ := (HBX.ab b2)
      (try simp only [AM.nil, Slots.zero, Disk.zero, List.length_nil] at vq0 vq1 vq2 vq3 vq4 vq5 vq6 vq7 vq8)
      obtain ⟨zq0, zq1, zq2, zq3, zq4, zq5, zq6, zq7, zq8, zg0, zg1, zg2, zg3, zg4, zg5, zg6, zg7, zg8⟩ := (hrx.ab b2)
      (try simp only [AM.nil, Slots.zero, Disk.zero, List.length_nil] at zq0 zq1 zq2 zq3 zq4 zq5 zq6 zq7 zq8)
      have zz2 := Nat.le_trans zz b2.size
      go_wp2_with fail
      refine (write_any A B ca cb s t cap dn _ (RB.ab h.a (by repeat (first | with_reducible exact Ab.refl _ | with_reducible assumption | with_reducible refine Ab.drew ?_ | with_reducible refine Ab.drewN ?_ _ | with_reducible refine Ab.alloc ?_ _ | with_reducible refine Ab.trans ?_ (by assumption) | with_reducible refine Ab.set ?_ (by first | (simp; done) | omega | (simp; omega)) _))) (RB.ab h.b (by repeat (first | with_reducible exact Ab.refl _ | with_reducible assumption | with_reducible refine Ab.drew ?_ | with_reducible refine Ab.drewN ?_ _ | with_reducible refine Ab.alloc ?_ _ | with_reducible refine Ab.trans ?_ (by assumption) | with_reducible refine Ab.set ?_ (by first | (simp; done) | omega | (simp; omega)) _))) h.la h.lb h.sa h.sb E ce L (hE.zero.ab b2) hce (by omega) 3).mono ?_
      rintro e w3 ⟨r3, D3, E3, cd3, ce3, hr3, rfl, m1, m2, l1, l2, hown, hb3⟩
      obtain ⟨o1, o2⟩ := hown (by decide)
      have hD3 := o1.mono (show w.heap.size + 1 + 1 ≤ w2.heap.size from zz2)
      have hE3 := o2.mono (show w.heap.size + 1 + 1 ≤ w2.heap.size from zz2)
      have zz3 := Nat.le_trans zz2 hb3.size
      have s3 := Lib.hid (show Slots.Small r3 by rw [hr3.out]; exact Slots.small_wr _ _ ⟨h.sa, h.sb⟩)
      clear m1 m2 o1 o2 hown vq0 vq1 vq2 vq3 vq4 vq5 vq6 vq7 vq8 vg0 vg1 vg2 vg3 vg4 vg5 vg6 vg7 vg8 zq0 zq1 zq2 zq3 zq4 zq5 zq6 zq7 zq8 zg0 zg1 zg2 zg3 zg4 zg5 zg6 zg7 zg8
      obtain ⟨vq0, vq1, vq2, vq3, vq4, vq5, vq6, vq7, vq8, vg0, vg1, vg2, vg3, vg4, vg5, vg6, vg7, vg8⟩ := ((HBX.ab b2).ab hb3)
      (try simp only [AM.nil, Slots.zero, Disk.zero, List.length_nil] at vq0 vq1 vq2 vq3 vq4 vq5 vq6 vq7 vq8)
      obtain ⟨zq0, zq1, zq2, zq3, zq4, zq5, zq6, zq7, zq8, zg0, zg1, zg2, zg3, zg4, zg5, zg6, zg7, zg8⟩ := ((hrx.ab b2).ab hb3)
      (try simp only [AM.nil, Slots.zero, Disk.zero, List.length_nil] at zq0 zq1 zq2 zq3 zq4 zq5 zq6 zq7 zq8)
      have b3 : Ab w w3 := (by repeat (first | with_reducible exact Ab.refl _ | with_reducible assumption | with_reducible refine Ab.drew ?_ | with_reducible refine Ab.drewN ?_ _ | with_reducible refine Ab.alloc ?_ _ | with_reducible refine Ab.trans ?_ (by assumption) | with_reducible refine Ab.set ?_ (by first | (simp; done) | omega | (simp; omega)) _))
      go_wp2_with fail
      refine (sync_any C D cc cd p q cep dm _ (RB.ab h.c (by repeat (first | with_reducible exact Ab.refl _ | with_reducible assumption | with_reducible refine Ab.drew ?_ | with_reducible refine Ab.drewN ?_ _ | with_reducible refine Ab.alloc ?_ _ | with_reducible refine Ab.trans ?_ (by assumption) | with_reducible refine Ab.set ?_ (by first | (simp; done) | omega | (simp; omega)) _))) (RB.ab h.d (by repeat (first | with_reducible exact Ab.refl _ | with_reducible assumption | with_reducible refine Ab.drew ?_ | with_reducible refine Ab.drewN ?_ _ | with_reducible refine Ab.alloc ?_ _ | with_reducible refine Ab.trans ?_ (by assumption) | with_reducible refine Ab.set ?_ (by first | (simp; done) | omega | (simp; omega)) _))) h.lc h.ld h.sc h.sd).mono ?_
      rintro e w4 ⟨r4, er4, D4, E4, cd4, ce4, hr4, rfl, o1, o2, hb4⟩
      have hS := (Prod.mk.inj (hr4.out.trans (Slots.sync_ok HG.out.b))).1
      have hr4' := Lib.hid (show r4 = ⟨p, q, cep, dm⟩ from hS)
      have s4 := Lib.hid (show Slots.Small r4 by rw [hS]; exact ⟨h.sc, h.sd⟩)
      have hv4 : SlB w4 w.heap.size ⟨D3, E3, C, D, cd3, ce3, cc, cd⟩ ⟨r3, ⟨p, q, cep, dm⟩, n⟩ := ⟨hb4.at (by simp [go_sem, *]), hb4.at (by simp [go_sem, *]), hb4.at (by simp [go_sem, *]), hb4.at (by simp [go_sem, *]), hb4.at (by simp [go_sem, *]), hb4.at (by simp [go_sem, *]), hb4.at (by simp [go_sem, *]), hb4.at (by simp [go_sem, *]), hb4.at (by simp [go_sem, *]), (hb4.frozen (by first | (simp; done) | omega | (simp; omega))).trans (by simp [go_sem, *]), (hb4.frozen (by first | (simp; done) | omega | (simp; omega))).trans (by simp [go_sem, *]), (hb4.frozen (by first | (simp; done) | omega | (simp; omega))).trans (by simp [go_sem, *]), (hb4.frozen (by first | (simp; done) | omega | (simp; omega))).trans (by simp [go_sem, *]), (hb4.frozen (by first | (simp; done) | omega | (simp; omega))).trans (by simp [go_sem, *]), (hb4.frozen (by first | (simp; done) | omega | (simp; omega))).trans (by simp [go_sem, *]), (hb4.frozen (by first | (simp; done) | omega | (simp; omega))).trans (by simp [go_sem, *]), (hb4.frozen (by first | (simp; done) | omega | (simp; omega))).trans (by simp [go_sem, *]), (hb4.frozen (by first | (simp; done) | omega | (simp; omega))).trans (by simp [go_sem, *])⟩
      have hz4 : SlB w4 (w.heap.size + 1) AM.nil Slots.zero := ⟨hb4.at (by simp [go_sem, AM.nil, Slots.zero, Disk.zero, *]), hb4.at (by simp [go_sem, AM.nil, Slots.zero, Disk.zero, *]), hb4.at (by simp [go_sem, AM.nil, Slots.zero, Disk.zero, *]), hb4.at (by simp [go_sem, AM.nil, Slots.zero, Disk.zero, *]), hb4.at (by simp [go_sem, AM.nil, Slots.zero, Disk.zero, *]), hb4.at (by simp [go_sem, AM.nil, Slots.zero, Disk.zero, *]), hb4.at (by simp [go_sem, AM.nil, Slots.zero, Disk.zero, *]), hb4.at (by simp [go_sem, AM.nil, Slots.zero, Disk.zero, *]), hb4.at (by simp [go_sem, AM.nil, Slots.zero, Disk.zero, *]), (hb4.frozen (by first | (simp; done) | omega | (simp; omega))).trans (by simp [go_sem, *]), (hb4.frozen (by first | (simp; done) | omega | (simp; omega))).trans (by simp [go_sem, *]), (hb4.frozen (by first | (simp; done) | omega | (simp; omega))).trans (by simp [go_sem, *]), (hb4.frozen (by first | (simp; done) | omega | (simp; omega))).trans (by simp [go_sem, *]), (hb4.frozen (by first | (simp; done) | omega | (simp; omega))).trans (by simp [go_sem, *]), (hb4.frozen (by first | (simp; done) | omega | (simp; omega))).trans (by simp [go_sem, *]), (hb4.frozen (by first | (simp; done) | omega | (simp; omega))).trans (by simp [go_sem, *]), (hb4.frozen (by first | (simp; done) | omega | (simp; omega))).trans (by simp [go_sem, *]), (hb4.frozen (by first | (simp; done) | omega | (simp; omega))).trans (by simp [go_sem, *])⟩
      have zz4 : w.heap.size + 1 + 1 ≤ w4.heap.size := Nat.le_trans zz3 (by have := hb4.size; simpa using this)
      have hD4 : RB w4 (w.heap.size + 1 + 1) D4 r4.s := o1.rb.mono (by simp; omega)
      have hE4 : RB w4 (w.heap.size + 1 + 1) E4 r4.t := o2.rb.mono (by simp; omega)
      have hD3' : RB w4 (w.heap.size + 1 + 1) D3 r3.s := (by repeat (first | with_reducible assumption | with_reducible refine RB.put ?_ (by first | (simp; done) | omega | (simp; omega)) _ | (with_reducible refine RB.ab ?_ (by assumption))))
      have hE3' : RB w4 (w.heap.size + 1 + 1) E3 r3.t := (by repeat (first | with_reducible assumption | with_reducible refine RB.put ?_ (by first | (simp; done) | omega | (simp; omega)) _ | (with_reducible refine RB.ab ?_ (by assumption))))
      have b4 : Ab w w4 := (by repeat (first | with_reducible exact Ab.refl _ | with_reducible assumption | with_reducible refine Ab.drew ?_ | with_reducible refine Ab.drewN ?_ _ | with_reducible refine Ab.alloc ?_ _ | with_reducible refine Ab.trans ?_ (by assumption) | with_reducible refine Ab.set ?_ (by first | (simp; done) | omega | (simp; omega)) _))
      have k3 := l1
      have j3 := l2
      have k4 := o1.le
      have j4 := o2.le
      have hnw : IntKind.i64.wrap (n + 1) = n + 1 := IntWalk.i64_in _ (by omega)
      clear hS hr4 o1 o2 vq0 vq1 vq2 vq3 vq4 vq5 vq6 vq7 vq8 vg0 vg1 vg2 vg3 vg4 vg5 vg6 vg7 vg8 zq0 zq1 zq2 zq3 zq4 zq5 zq6 zq7 zq8 zg0 zg1 zg2 zg3 zg4 zg5 zg6 zg7 zg8
      obtain ⟨vq0, vq1, vq2, vq3, vq4, vq5, vq6, vq7, vq8, vg0, vg1, vg2, vg3, vg4, vg5, vg6, vg7, vg8⟩ := hv4
      (try simp only [AM.nil, Slots.zero, Disk.zero, List.length_nil] at vq0 vq1 vq2 vq3 vq4 vq5 vq6 vq7 vq8)
      obtain ⟨zq0, zq1, zq2, zq3, zq4, zq5, zq6, zq7, zq8, zg0, zg1, zg2, zg3, zg4, zg5, zg6, zg7, zg8⟩ := hz4
      (try simp only [AM.nil, Slots.zero, Disk.zero, List.length_nil] at zq0 zq1 zq2 zq3 zq4 zq5 zq6 zq7 zq8)
      go_wp2
      refine bodyPost_ret (v := .tuple #[.agg #[.slice D3 r3.s.length cd3, .slice E3 r3.t.length ce3, .int .i64 r3.cap, .bool r3.down, .slice D4 r4.s.length cd4, .slice E4 r4.t.length ce4, .int .i64 r4.cap, .bool r4.down, .int .i64 (n + 1)], .int .i64 n, .int .i64 0]) (by simp [results, Try.results10, go_sem, *]) rfl ?_
      refine ⟨⟨r3, r4, n + 1⟩, n, 0, ⟨D3, E3, D4, E4, cd3, ce3, cd4, ce4⟩, Lib.hid ?_, rfl, ⟨RB.zero (lo := w.heap.size + 1 + 1) (by repeat (first | with_reducible assumption | with_reducible refine RB.put ?_ (by first | (simp; done) | omega | (simp; omega)) _ | (with_reducible refine RB.ab ?_ (by assumption)))), RB.zero (lo := w.heap.size + 1 + 1) (by repeat (first | with_reducible assumption | with_reducible refine RB.put ?_ (by first | (simp; done) | omega | (simp; omega)) _ | (with_reducible refine RB.ab ?_ (by assumption)))), RB.zero (lo := w.heap.size + 1 + 1) (by repeat (first | with_reducible assumption | with_reducible refine RB.put ?_ (by first | (simp; done) | omega | (simp; omega)) _ | (with_reducible refine RB.ab ?_ (by assumption)))), RB.zero (lo := w.heap.size + 1 + 1) (by repeat (first | with_reducible assumption | with_reducible refine RB.put ?_ (by first | (simp; done) | omega | (simp; omega)) _ | (with_reducible refine RB.ab ?_ (by assumption)))), k3, j3, k4, j4, s3.out.1, s3.out.2, s4.out.1, s4.out.2⟩, (by repeat (first | with_reducible exact Ab.refl _ | with_reducible assumption | with_reducible refine Ab.drew ?_ | with_reducible refine Ab.drewN ?_ _ | with_reducible refine Ab.alloc ?_ _ | with_reducible refine Ab.trans ?_ (by assumption) | with_reducible refine Ab.set ?_ (by first | (simp; done) | omega | (simp; omega)) _))⟩
      rw [HM.out, hr3.out, hr4'.out, HL.out]
      simp [Slots.Sl.put, Slots.Sl.cur, Slots.Sl.oth, HP.out]
    · have HBX := hbx
      obtain ⟨vq0, vq1, vq2, vq3, vq4, vq5, vq6, vq7, vq8, vg0, vg1, vg2, vg3, vg4, vg5, vg6, vg7, vg8⟩ := hbx
      (try simp only [AM.nil, Slots.zero, Disk.zero, List.length_nil] at vq0 vq1 vq2 vq3 vq4 vq5 vq6 vq7 vq8)
      have HP := Lib.hid hp
      clear hp
      go_upto_region 4 with fail
      go_quiet ((go_at_call 31
                 exact Calls.quiet_of_same (slotOf_any n 1 hn0 HP.out _)))
      generalize hwn : w1.drewN _ = w2
      have b2 : Ab w1 w2 := by rw [← hwn]; exact (Ab.refl w1).drewN _
      clear hwn vq0 vq1 vq2 vq3 vq4 vq5 vq6 vq7 vq8 vg0 vg1 vg2 vg3 vg4 vg5 vg6 vg7 vg8
      obtain ⟨vq0, vq1, vq2, vq3, vq4, vq5, vq6, vq7, vq8, vg0, vg1, vg2, vg3, vg4, vg5, vg6, vg7, vg8⟩ := (HBX.ab b2)
      (try simp only [AM.nil, Slots.zero, Disk.zero, List.length_nil] at vq0 vq1 vq2 vq3 vq4 vq5 vq6 vq7 vq8)
      obtain ⟨zq0, zq1, zq2, zq3, zq4, zq5, zq6, zq7, zq8, zg0, zg1, zg2, zg3, zg4, zg5, zg6, zg7, zg8⟩ := (hrx.ab b2)
      (try simp only [AM.nil, Slots.zero, Disk.zero, List.length_nil] at zq0 zq1 zq2 zq3 zq4 zq5 zq6 zq7 zq8)
      have zz2 := Nat.le_trans zz b2.size
      go_wp2_with fail
      refine (write_any C D cc cd p q cep dm _ (RB.ab h.c (by repeat (first | with_reducible exact Ab.refl _ | with_reducible assumption | with_reducible refine Ab.drew ?_ | with_reducible refine Ab.drewN ?_ _ | with_reducible refine Ab.alloc ?_ _ | with_reducible refine Ab.trans ?_ (by assumption) | with_reducible refine Ab.set ?_ (by first | (simp; done) | omega | (simp; omega)) _))) (RB.ab h.d (by repeat (first | with_reducible exact Ab.refl _ | with_reducible assumption | with_reducible refine Ab.drew ?_ | with_reducible refine Ab.drewN ?_ _ | with_reducible refine Ab.alloc ?_ _ | with_reducible refine Ab.trans ?_ (by assumption) | with_reducible refine Ab.set ?_ (by first | (simp; done) | omega | (simp; omega)) _))) h.lc h.ld h.sc h.sd E ce L (hE.zero.ab b2) hce (by omega) 3).mono ?_
      rintro e w3 ⟨r3, D3, E3, cd3, ce3, hr3, rfl, m1, m2, l1, l2, hown, hb3⟩
      obtain ⟨o1, o2⟩ := hown (by decide)
      have hD3 := o1.mono (show w.heap.size + 1 + 1 ≤ w2.heap.size from zz2)
      have hE3 := o2.mono (show w.heap.size + 1 + 1 ≤ w2.heap.size from zz2)
      have zz3 := Nat.le_trans zz2 hb3.size
      have s3 := Lib.hid (show Slots.Small r3 by rw [hr3.out]; exact Slots.small_wr _ _ ⟨h.sc, h.sd⟩)
      clear m1 m2 o1 o2 hown vq0 vq1 vq2 vq3 vq4 vq5 vq6 vq7 vq8 vg0 vg1 vg2 vg3 vg4 vg5 vg6 vg7 vg8 zq0 zq1 zq2 zq3 zq4 zq5 zq6 zq7 zq8 zg0 zg1 zg2 zg3 zg4 zg5 zg6 zg7 zg8
      obtain ⟨vq0, vq1, vq2, vq3, vq4, vq5, vq6, vq7, vq8, vg0, vg1, vg2, vg3, vg4, vg5, vg6, vg7, vg8⟩ := ((HBX.ab b2).ab hb3)
      (try simp only [AM.nil, Slots.zero, Disk.zero, List.length_nil] at vq0 vq1 vq2 vq3 vq4 vq5 vq6 vq7 vq8)
      obtain ⟨zq0, zq1, zq2, zq3, zq4, zq5, zq6, zq7, zq8, zg0, zg1, zg2, zg3, zg4, zg5, zg6, zg7, zg8⟩ := ((hrx.ab b2).ab hb3)
      (try simp only [AM.nil, Slots.zero, Disk.zero, List.length_nil] at zq0 zq1 zq2 zq3 zq4 zq5 zq6 zq7 zq8)
      have b3 : Ab w w3 := (by repeat (first | with_reducible exact Ab.refl _ | with_reducible assumption | with_reducible refine Ab.drew ?_ | with_reducible refine Ab.drewN ?_ _ | with_reducible refine Ab.alloc ?_ _ | with_reducible refine Ab.trans ?_ (by assumption) | with_reducible refine Ab.set ?_ (by first | (simp; done) | omega | (simp; omega)) _))
      go_wp2_with fail
      refine (sync_any A B ca cb s t cap dn _ (RB.ab h.a (by repeat (first | with_reducible exact Ab.refl _ | with_reducible assumption | with_reducible refine Ab.drew ?_ | with_reducible refine Ab.drewN ?_ _ | with_reducible refine Ab.alloc ?_ _ | with_reducible refine Ab.trans ?_ (by assumption) | with_reducible refine Ab.set ?_ (by first | (simp; done) | omega | (simp; omega)) _))) (RB.ab h.b (by repeat (first | with_reducible exact Ab.refl _ | with_reducible assumption | with_reducible refine Ab.drew ?_ | with_reducible refine Ab.drewN ?_ _ | with_reducible refine Ab.alloc ?_ _ | with_reducible refine Ab.trans ?_ (by assumption) | with_reducible refine Ab.set ?_ (by first | (simp; done) | omega | (simp; omega)) _))) h.la h.lb h.sa h.sb).mono ?_
      rintro e w4 ⟨r4, er4, D4, E4, cd4, ce4, hr4, rfl, o1, o2, hb4⟩
      have hS := (Prod.mk.inj (hr4.out.trans (Slots.sync_ok HG.out.a))).1
      have hr4' := Lib.hid (show r4 = ⟨s, t, cap, dn⟩ from hS)
      have s4 := Lib.hid (show Slots.Small r4 by rw [hS]; exact ⟨h.sa, h.sb⟩)
      have hv4 : SlB w4 w.heap.size ⟨A, B, D3, E3, ca, cb, cd3, ce3⟩ ⟨⟨s, t, cap, dn⟩, r3, n⟩ := ⟨hb4.at (by simp [go_sem, *]), hb4.at (by simp [go_sem, *]), hb4.at (by simp [go_sem, *]), hb4.at (by simp [go_sem, *]), hb4.at (by simp [go_sem, *]), hb4.at (by simp [go_sem, *]), hb4.at (by simp [go_sem, *]), hb4.at (by simp [go_sem, *]), hb4.at (by simp [go_sem, *]), (hb4.frozen (by first | (simp; done) | omega | (simp; omega))).trans (by simp [go_sem, *]), (hb4.frozen (by first | (simp; done) | omega | (simp; omega))).trans (by simp [go_sem, *]), (hb4.frozen (by first | (simp; done) | omega | (simp; omega))).trans (by simp [go_sem, *]), (hb4.frozen (by first | (simp; done) | omega | (simp; omega))).trans (by simp [go_sem, *]), (hb4.frozen (by first | (simp; done) | omega | (simp; omega))).trans (by simp [go_sem, *]), (hb4.frozen (by first | (simp; done) | omega | (simp; omega))).trans (by simp [go_sem, *]), (hb4.frozen (by first | (simp; done) | omega | (simp; omega))).trans (by simp [go_sem, *]), (hb4.frozen (by first | (simp; done) | omega | (simp; omega))).trans (by simp [go_sem, *]), (hb4.frozen (by first | (simp; done) | omega | (simp; omega))).trans (by simp [go_sem, *])⟩
      have hz4 : SlB w4 (w.heap.size + 1) AM.nil Slots.zero := ⟨hb4.at (by simp [go_sem, AM.nil, Slots.zero, Disk.zero, *]), hb4.at (by simp [go_sem, AM.nil, Slots.zero, Disk.zero, *]), hb4.at (by simp [go_sem, AM.nil, Slots.zero, Disk.zero, *]), hb4.at (by simp [go_sem, AM.nil, Slots.zero, Disk.zero, *]), hb4.at (by simp [go_sem, AM.nil, Slots.zero, Disk.zero, *]), hb4.at (by simp [go_sem, AM.nil, Slots.zero, Disk.zero, *]), hb4.at (by simp [go_sem, AM.nil, Slots.zero, Disk.zero, *]), hb4.at (by simp [go_sem, AM.nil, Slots.zero, Disk.zero, *]), hb4.at (by simp [go_sem, AM.nil, Slots.zero, Disk.zero, *]), (hb4.frozen (by first | (simp; done) | omega | (simp; omega))).trans (by simp [go_sem, *]), (hb4.frozen (by first | (simp; done) | omega | (simp; omega))).trans (by simp [go_sem, *]), (hb4.frozen (by first | (simp; done) | omega | (simp; omega))).trans (by simp [go_sem, *]), (hb4.frozen (by first | (simp; done) | omega | (simp; omega))).trans (by simp [go_sem, *]), (hb4.frozen (by first | (simp; done) | omega | (simp; omega))).trans (by simp [go_sem, *]), (hb4.frozen (by first | (simp; done) | omega | (simp; omega))).trans (by simp [go_sem, *]), (hb4.frozen (by first | (simp; done) | omega | (simp; omega))).trans (by simp [go_sem, *]), (hb4.frozen (by first | (simp; done) | omega | (simp; omega))).trans (by simp [go_sem, *]), (hb4.frozen (by first | (simp; done) | omega | (simp; omega))).trans (by simp [go_sem, *])⟩
      have zz4 : w.heap.size + 1 + 1 ≤ w4.heap.size := Nat.le_trans zz3 (by have := hb4.size; simpa using this)
      have hD4 : RB w4 (w.heap.size + 1 + 1) D4 r4.s := o1.rb.mono (by simp; omega)
      have hE4 : RB w4 (w.heap.size + 1 + 1) E4 r4.t := o2.rb.mono (by simp; omega)
      have hD3' : RB w4 (w.heap.size + 1 + 1) D3 r3.s := (by repeat (first | with_reducible assumption | with_reducible refine RB.put ?_ (by first | (simp; done) | omega | (simp; omega)) _ | (with_reducible refine RB.ab ?_ (by assumption))))
      have hE3' : RB w4 (w.heap.size + 1 + 1) E3 r3.t := (by repeat (first | with_reducible assumption | with_reducible refine RB.put ?_ (by first | (simp; done) | omega | (simp; omega)) _ | (with_reducible refine RB.ab ?_ (by assumption))))
      have b4 : Ab w w4 := (by repeat (first | with_reducible exact Ab.refl _ | with_reducible assumption | with_reducible refine Ab.drew ?_ | with_reducible refine Ab.drewN ?_ _ | with_reducible refine Ab.alloc ?_ _ | with_reducible refine Ab.trans ?_ (by assumption) | with_reducible refine Ab.set ?_ (by first | (simp; done) | omega | (simp; omega)) _))
      have k3 := l1
      have j3 := l2
      have k4 := o1.le
      have j4 := o2.le
      have hnw : IntKind.i64.wrap (n + 1) = n + 1 := IntWalk.i64_in _ (by omega)
      clear hS hr4 o1 o2 vq0 vq1 vq2 vq3 vq4 vq5 vq6 vq7 vq8 vg0 vg1 vg2 vg3 vg4 vg5 vg6 vg7 vg8 zq0 zq1 zq2 zq3 zq4 zq5 zq6 zq7 zq8 zg0 zg1 zg2 zg3 zg4 zg5 zg6 zg7 zg8
      obtain ⟨vq0, vq1, vq2, vq3, vq4, vq5, vq6, vq7, vq8, vg0, vg1, vg2, vg3, vg4, vg5, vg6, vg7, vg8⟩ := hv4
      (try simp only [AM.nil, Slots.zero, Disk.zero, List.length_nil] at vq0 vq1 vq2 vq3 vq4 vq5 vq6 vq7 vq8)
      obtain ⟨zq0, zq1, zq2, zq3, zq4, zq5, zq6, zq7, zq8, zg0, zg1, zg2, zg3, zg4, zg5, zg6, zg7, zg8⟩ := hz4
      (try simp only [AM.nil, Slots.zero, Disk.zero, List.length_nil] at zq0 zq1 zq2 zq3 zq4 zq5 zq6 zq7 zq8)
      go_wp2
      refine bodyPost_ret (v := .tuple #[.agg #[.slice D4 r4.s.length cd4, .slice E4 r4.t.length ce4, .int .i64 r4.cap, .bool r4.down, .slice D3 r3.s.length cd3, .slice E3 r3.t.length ce3, .int .i64 r3.cap, .bool r3.down, .int .i64 (n + 1)], .int .i64 n, .int .i64 0]) (by simp [results, Try.results10, go_sem, *]) rfl ?_
      refine ⟨⟨r4, r3, n + 1⟩, n, 0, ⟨D4, E4, D3, E3, cd4, ce4, cd3, ce3⟩, Lib.hid ?_, rfl, ⟨RB.zero (lo := w.heap.size + 1 + 1) (by repeat (first | with_reducible assumption | with_reducible refine RB.put ?_ (by first | (simp; done) | omega | (simp; omega)) _ | (with_reducible refine RB.ab ?_ (by assumption)))), RB.zero (lo := w.heap.size + 1 + 1) (by repeat (first | with_reducible assumption | with_reducible refine RB.put ?_ (by first | (simp; done) | omega | (simp; omega)) _ | (with_reducible refine RB.ab ?_ (by assumption)))), RB.zero (lo := w.heap.size + 1 + 1) (by repeat (first | with_reducible assumption | with_reducible refine RB.put ?_ (by first | (simp; done) | omega | (simp; omega)) _ | (with_reducible refine RB.ab ?_ (by assumption)))), RB.zero (lo := w.heap.size + 1 + 1) (by repeat (first | with_reducible assumption | with_reducible refine RB.put ?_ (by first | (simp; done) | omega | (simp; omega)) _ | (with_reducible refine RB.ab ?_ (by assumption)))), k4, j4, k3, j3, s4.out.1, s4.out.2, s3.out.1, s3.out.2⟩, (by repeat (first | with_reducible exact Ab.refl _ | with_reducible assumption | with_reducible refine Ab.drew ?_ | with_reducible refine Ab.drewN ?_ _ | with_reducible refine Ab.alloc ?_ _ | with_reducible refine Ab.trans ?_ (by assumption) | with_reducible refine Ab.set ?_ (by first | (simp; done) | omega | (simp; omega)) _))⟩
      rw [HM.out, hr3.out, hr4'.out, HL.out]
      simp [Slots.Sl.put, Slots.Sl.cur, Slots.Sl.oth, HP.out]
  · have HM := Lib.hid (show Slots.save (⟨⟨s, t, cap, dn⟩, ⟨p, q, cep, dm⟩, n⟩ : Sl) b = _ from if_pos (by rw [← hr.out]; exact he))
    have hne : (er != 0) = true := by simpa using he
    have HE := Lib.hid hr.out
    obtain ⟨vq0, vq1, vq2, vq3, vq4, vq5, vq6, vq7, vq8, vg0, vg1, vg2, vg3, vg4, vg5, vg6, vg7, vg8⟩ := hbx
    (try simp only [AM.nil, Slots.zero, Disk.zero, List.length_nil] at vq0 vq1 vq2 vq3 vq4 vq5 vq6 vq7 vq8)
    obtain ⟨zq0, zq1, zq2, zq3, zq4, zq5, zq6, zq7, zq8, zg0, zg1, zg2, zg3, zg4, zg5, zg6, zg7, zg8⟩ := hrx
    (try simp only [AM.nil, Slots.zero, Disk.zero, List.length_nil] at zq0 zq1 zq2 zq3 zq4 zq5 zq6 zq7 zq8)
    clear hr hL he
    go_wp2
    refine bodyPost_ret (v := .tuple #[(.agg #[.slice none 0 0, .slice none 0 0, .int .i64 0, .bool false, .slice none 0 0, .slice none 0 0, .int .i64 0, .bool false, .int .i64 0]), .int .i64 0, .int .i64 er]) (by simp [results, Try.results10, go_sem, *]) rfl ?_
    exact RetSl3.zero (by rw [HM.out, ← HE.out]) (by repeat (first | with_reducible exact Ab.refl _ | with_reducible assumption | with_reducible refine Ab.drew ?_ | with_reducible refine Ab.drewN ?_ _ | with_reducible refine Ab.alloc ?_ _ | with_reducible refine Ab.trans ?_ (by assumption) | with_reducible refine Ab.set ?_ (by first | (simp; done) | omega | (simp; omega)) _))
end Go.Proofs.Ytakgglpfgpkboaa
