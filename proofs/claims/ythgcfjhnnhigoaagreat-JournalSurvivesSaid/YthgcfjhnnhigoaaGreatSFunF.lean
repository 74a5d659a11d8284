/- Half of package slots, walked. Own work. -/
import Derived.Test.YthgcfjhnnhigoaaGreatGZ
set_option linter.unusedVariables false
set_option linter.unusedSimpArgs false
namespace Go.Proofs.YthgcfjhnnhigoaaGreat
open Go.RowKit
open Slots (Sl)
open Disk (Dev)

set_option maxHeartbeats 1600000 in
set_option maxRecDepth 100000 in
theorem shalf_any (m : AM) (r : Sl) (w : World) (h : SlM w 0 m r) (X : Option Addr) (b : List UInt8) (cx : Nat) (hx : RB w 0 X b) (hcx : b.length ≤ cx) (k keep : Int) :
    Calls Tryz.prog 100 #[.agg #[.slice m.A r.a.s.length m.ca, .slice m.B r.a.t.length m.cb, .int .i64 r.a.cap, .bool r.a.down, .slice m.C r.b.s.length m.cc, .slice m.D r.b.t.length m.cd, .int .i64 r.b.cap, .bool r.b.down, .int .i64 r.n], .slice X b.length cx, .int .i64 k, .int .i64 keep] w (RetSlE w (Slots.half r b k keep)) := by
  obtain ⟨A, B, C, D, ca, cb, cc, cd⟩ := m
  obtain ⟨⟨s, t, cap, dn⟩, ⟨p, q, cep, dm⟩, n⟩ := r
  dsimp only
  go_enter Tryz.func100, Tryz.ntmps100
  go_wp2_with fail
  refine (sencode_any (⟨A, B, C, D, ca, cb, cc, cd⟩ : AM) (⟨⟨s, t, cap, dn⟩, ⟨p, q, cep, dm⟩, n⟩ : Sl) _ (h.ab abA) X b cx (hx.ab abA) hcx).mono ?_
  rintro e w1 ⟨er, L, E, ce, hr, hL, rfl, hE, hce, hL2, hb1⟩
  have hz : Ab ((w.alloc (.cells #[.slice A s.length ca, .slice B t.length cb, .int .i64 cap, .bool dn, .slice C p.length cc, .slice D q.length cd, .int .i64 cep, .bool dm, .int .i64 n] 27)).alloc (.cells #[.slice none 0 0, .slice none 0 0, .int .i64 0, .bool false, .slice none 0 0, .slice none 0 0, .int .i64 0, .bool false, .int .i64 0] 27)) w1 := abA
  have hbx := (SlB.box (w := (w.alloc (.cells #[.slice A s.length ca, .slice B t.length cb, .int .i64 cap, .bool dn, .slice C p.length cc, .slice D q.length cd, .int .i64 cep, .bool dm, .int .i64 n] 27)).alloc (.cells #[.slice none 0 0, .slice none 0 0, .int .i64 0, .bool false, .slice none 0 0, .slice none 0 0, .int .i64 0, .bool false, .int .i64 0] 27)) (b := w.heap.size) (m := (⟨A, B, C, D, ca, cb, cc, cd⟩ : AM)) (r := (⟨⟨s, t, cap, dn⟩, ⟨p, q, cep, dm⟩, n⟩ : Sl)) (old_alloc (new_plain rfl))).ab hz
  have hrx := (SlB.box (w := (w.alloc (.cells #[.slice A s.length ca, .slice B t.length cb, .int .i64 cap, .bool dn, .slice C p.length cc, .slice D q.length cd, .int .i64 cep, .bool dm, .int .i64 n] 27)).alloc (.cells #[.slice none 0 0, .slice none 0 0, .int .i64 0, .bool false, .slice none 0 0, .slice none 0 0, .int .i64 0, .bool false, .int .i64 0] 27)) (b := w.heap.size + 1) (m := AM.nil) (r := Slots.zero) (new_plain (by simp))).ab hz
  have zz := hz.size
  simp at zz
  by_cases he : er = 0
  · have hask := (hr.out.symm.trans he)
    have HL := Lib.hid (hL.out he)
    obtain ⟨hg, hlb, hn1, hroom⟩ := Slots.asked_good hask
    have HM := Lib.hid (show Slots.half (⟨⟨s, t, cap, dn⟩, ⟨p, q, cep, dm⟩, n⟩ : Sl) b k keep = _ from if_neg (by rw [hask]; simp))
    have HG := Lib.hid hg
    have hn0 : 0 ≤ n := by have := hg.lo; simp only at this; omega
    obtain rfl : er = 0 := he
    clear hr hL hask hg hlb hn1 hroom
    by_cases hk0 : k < 0
    · have HN := Lib.hid (HM.out.trans (if_pos (.inl hk0)))
      clear HM
      have hk0' : decide (k < 0) = true := by simpa using hk0
      clear hk0
      obtain ⟨zq0, zq1, zq2, zq3, zq4, zq5, zq6, zq7, zq8, zg0, zg1, zg2, zg3, zg4, zg5, zg6, zg7, zg8⟩ := hrx
      (try simp only [AM.nil, Slots.zero, Disk.zero, List.length_nil] at zq0 zq1 zq2 zq3 zq4 zq5 zq6 zq7 zq8)
      go_wp2
      refine bodyPost_ret (v := .tuple #[(.agg #[.slice none 0 0, .slice none 0 0, .int .i64 0, .bool false, .slice none 0 0, .slice none 0 0, .int .i64 0, .bool false, .int .i64 0]), .int .i64 2]) (by simp [results, Tryz.results100, go_sem, *]) rfl ?_
      exact RetSlE.zero HN.out.symm abA
    by_cases hk3 : 3 < k
    · have HN := Lib.hid (HM.out.trans (if_pos (.inr hk3)))
      clear HM
      have hk0' : decide (k < 0) = false := by simpa using hk0
      have hk3' : decide (3 < k) = true := by simpa using hk3
      clear hk0 hk3
      obtain ⟨zq0, zq1, zq2, zq3, zq4, zq5, zq6, zq7, zq8, zg0, zg1, zg2, zg3, zg4, zg5, zg6, zg7, zg8⟩ := hrx
      (try simp only [AM.nil, Slots.zero, Disk.zero, List.length_nil] at zq0 zq1 zq2 zq3 zq4 zq5 zq6 zq7 zq8)
      go_wp2
      refine bodyPost_ret (v := .tuple #[(.agg #[.slice none 0 0, .slice none 0 0, .int .i64 0, .bool false, .slice none 0 0, .slice none 0 0, .int .i64 0, .bool false, .int .i64 0]), .int .i64 2]) (by simp [results, Tryz.results100, go_sem, *]) rfl ?_
      exact RetSlE.zero HN.out.symm abA
    have HN := Lib.hid (HM.out.trans (if_neg (by omega)))
    clear HM
    have hk0' : decide (k < 0) = false := by simpa using hk0
    have hk3' : decide (3 < k) = false := by simpa using hk3
    clear hk0 hk3
    rcases Int.emod_two_eq n with hp | hp
    · have HP := Lib.hid hp
      clear hp
      have HBX := hbx
      obtain ⟨vq0, vq1, vq2, vq3, vq4, vq5, vq6, vq7, vq8, vg0, vg1, vg2, vg3, vg4, vg5, vg6, vg7, vg8⟩ := hbx
      (try simp only [AM.nil, Slots.zero, Disk.zero, List.length_nil] at vq0 vq1 vq2 vq3 vq4 vq5 vq6 vq7 vq8)
      go_wp2_with fail
      refine (slotOf_any n 0 hn0 HP.out _).mono ?_
      rintro e w2 ⟨rfl, rfl⟩
      go_wp2_with fail
      refine (write_any A B ca cb s t cap dn _ (RB.ab h.a abA) (RB.ab h.b abA) h.la h.lb h.sa h.sb E ce L hE.zero hce (by omega) k).mono ?_
      rintro e w3 ⟨r3, D3, E3, cd3, ce3, hr3, rfl, m1, m2, l1, l2, hown, hb3⟩
      have zz3 := Nat.le_trans zz hb3.size
      have s3 := Lib.hid (show Slots.Small r3 by rw [hr3.out]; exact Slots.small_wr _ _ ⟨h.sa, h.sb⟩)
      clear hown
      go_wp2_with fail
      refine (crash_any D3 E3 cd3 ce3 r3.s r3.t r3.cap r3.down _ m1 m2 l1 l2 s3.out.1 s3.out.2 keep).mono ?_
      rintro e w5 ⟨r5, er5, D5, E5, cd5, ce5, hr5, rfl, o1, o2, hb5⟩
      have hR5 := Lib.hid (show (r5, er5) = Disk.crash (Slots.wr (Slots.Sl.cur (⟨⟨s, t, cap, dn⟩, ⟨p, q, cep, dm⟩, n⟩ : Sl)) (Frame.enc ⟨n, b⟩) k) keep by
        rw [hr5.out, show (⟨r3.s, r3.t, r3.cap, r3.down⟩ : Dev) = r3 from rfl, hr3.out, HL.out]
        simp [Slots.Sl.cur, HP.out])
      have hD5 := o1.rb.mono (show w.heap.size + 1 + 1 ≤ w3.heap.size from zz3)
      have hE5 := o2.rb.mono (show w.heap.size + 1 + 1 ≤ w3.heap.size from zz3)
      have k5 := o1.le
      have j5 := o2.le
      have zz5 := Nat.le_trans zz3 hb5.size
      have s5 := Lib.hid (show Slots.Small r5 by rw [show r5 = (Disk.crash r3 keep).1 from congrArg Prod.fst hr5.out]; exact Slots.small_crash _ s3.out)
      have b5 : Ab w w5 := abA
      clear m1 m2 o1 o2 l1 l2 hr5 vq0 vq1 vq2 vq3 vq4 vq5 vq6 vq7 vq8 vg0 vg1 vg2 vg3 vg4 vg5 vg6 vg7 vg8
      obtain ⟨vq0, vq1, vq2, vq3, vq4, vq5, vq6, vq7, vq8, vg0, vg1, vg2, vg3, vg4, vg5, vg6, vg7, vg8⟩ := ((HBX.ab hb3).ab hb5)
      (try simp only [AM.nil, Slots.zero, Disk.zero, List.length_nil] at vq0 vq1 vq2 vq3 vq4 vq5 vq6 vq7 vq8)
      obtain ⟨zq0, zq1, zq2, zq3, zq4, zq5, zq6, zq7, zq8, zg0, zg1, zg2, zg3, zg4, zg5, zg6, zg7, zg8⟩ := ((hrx.ab hb3).ab hb5)
      (try simp only [AM.nil, Slots.zero, Disk.zero, List.length_nil] at zq0 zq1 zq2 zq3 zq4 zq5 zq6 zq7 zq8)
      have nva := fun (o : Obj) (j : Nat) => World.cell?_alloc_lt w5 o ⟨w.heap.size, j, none⟩ (by simp only; omega)
      have nvb := fun (o : Obj) (j : Nat) => ((Ab.refl w5).alloc o).frozen (p := ⟨w.heap.size, j, none⟩) (by simp only; omega)
      have nza := fun (o : Obj) (j : Nat) => World.cell?_alloc_lt w5 o ⟨w.heap.size + 1, j, none⟩ (by simp only; omega)
      have nzb := fun (o : Obj) (j : Nat) => ((Ab.refl w5).alloc o).frozen (p := ⟨w.heap.size + 1, j, none⟩) (by simp only; omega)
      have hne : w.heap.size + 1 ≠ w5.heap.size := by omega
      have hne2 : w.heap.size ≠ w5.heap.size := by omega
      by_cases he5 : er5 = 0
      · obtain rfl : er5 = 0 := he5
        have HM := Lib.hid (HN.out.trans (if_neg (by rw [← hR5.out]; simp)))
        clear HN
        go_wp2_with fail
        refine (crash_any C D cc cd p q cep dm _ (RB.ab h.c abA) (RB.ab h.d abA) h.lc h.ld h.sc h.sd 0).mono ?_
        rintro e w4 ⟨r4, er4, D4, E4, cd4, ce4, hr4, rfl, o1, o2, hb4⟩
        have hr4' := Lib.hid (show r4 = (Disk.crash (Slots.Sl.oth (⟨⟨s, t, cap, dn⟩, ⟨p, q, cep, dm⟩, n⟩ : Sl)) 0).1 by rw [show r4 = _ from congrArg Prod.fst hr4.out]; simp [Slots.Sl.oth, HP.out])
        have s4 := Lib.hid (show Slots.Small r4 by rw [show r4 = (Disk.crash ⟨p, q, cep, dm⟩ 0).1 from congrArg Prod.fst hr4.out]; exact Slots.small_crash _ ⟨h.sc, h.sd⟩)
        have hv4 : SlB w4 w.heap.size ⟨D5, E5, C, D, cd5, ce5, cc, cd⟩ ⟨r5, ⟨p, q, cep, dm⟩, n⟩ := ⟨hb4.at (by simp [go_sem, *]), hb4.at (by simp [go_sem, *]), hb4.at (by simp [go_sem, *]), hb4.at (by simp [go_sem, *]), hb4.at (by simp [go_sem, *]), hb4.at (by simp [go_sem, *]), hb4.at (by simp [go_sem, *]), hb4.at (by simp [go_sem, *]), hb4.at (by simp [go_sem, *]), (hb4.frozen wnA).trans (by simp [go_sem, *]), (hb4.frozen wnA).trans (by simp [go_sem, *]), (hb4.frozen wnA).trans (by simp [go_sem, *]), (hb4.frozen wnA).trans (by simp [go_sem, *]), (hb4.frozen wnA).trans (by simp [go_sem, *]), (hb4.frozen wnA).trans (by simp [go_sem, *]), (hb4.frozen wnA).trans (by simp [go_sem, *]), (hb4.frozen wnA).trans (by simp [go_sem, *]), (hb4.frozen wnA).trans (by simp [go_sem, *])⟩
        have hz4 : SlB w4 (w.heap.size + 1) AM.nil Slots.zero := ⟨hb4.at (by simp [go_sem, AM.nil, Slots.zero, Disk.zero, *]), hb4.at (by simp [go_sem, AM.nil, Slots.zero, Disk.zero, *]), hb4.at (by simp [go_sem, AM.nil, Slots.zero, Disk.zero, *]), hb4.at (by simp [go_sem, AM.nil, Slots.zero, Disk.zero, *]), hb4.at (by simp [go_sem, AM.nil, Slots.zero, Disk.zero, *]), hb4.at (by simp [go_sem, AM.nil, Slots.zero, Disk.zero, *]), hb4.at (by simp [go_sem, AM.nil, Slots.zero, Disk.zero, *]), hb4.at (by simp [go_sem, AM.nil, Slots.zero, Disk.zero, *]), hb4.at (by simp [go_sem, AM.nil, Slots.zero, Disk.zero, *]), (hb4.frozen wnA).trans (by simp [go_sem, *]), (hb4.frozen wnA).trans (by simp [go_sem, *]), (hb4.frozen wnA).trans (by simp [go_sem, *]), (hb4.frozen wnA).trans (by simp [go_sem, *]), (hb4.frozen wnA).trans (by simp [go_sem, *]), (hb4.frozen wnA).trans (by simp [go_sem, *]), (hb4.frozen wnA).trans (by simp [go_sem, *]), (hb4.frozen wnA).trans (by simp [go_sem, *]), (hb4.frozen wnA).trans (by simp [go_sem, *])⟩
        have zz4 : w.heap.size + 1 + 1 ≤ w4.heap.size := Nat.le_trans zz5 (by have := hb4.size; simp at this; omega)
        have hD4 : RB w4 (w.heap.size + 1 + 1) D4 r4.s := o1.rb.mono (by simp; omega)
        have hE4 : RB w4 (w.heap.size + 1 + 1) E4 r4.t := o2.rb.mono (by simp; omega)
        have hal : ∀ o, Ab w5 (w5.alloc o) := fun o => (Ab.refl w5).alloc o
        have hD5' : RB w4 (w.heap.size + 1 + 1) D5 r5.s := by refine RB.ab ?_ hb4; (repeat refine RB.put ?_ wnA _); exact hD5.ab (hal _)
        have hE5' : RB w4 (w.heap.size + 1 + 1) E5 r5.t := by refine RB.ab ?_ hb4; (repeat refine RB.put ?_ wnA _); exact hE5.ab (hal _)
        have b4 : Ab w w4 := abA
        have k4 := o1.le
        have j4 := o2.le
        clear hr4 o1 o2 hal vq0 vq1 vq2 vq3 vq4 vq5 vq6 vq7 vq8 vg0 vg1 vg2 vg3 vg4 vg5 vg6 vg7 vg8 zq0 zq1 zq2 zq3 zq4 zq5 zq6 zq7 zq8 zg0 zg1 zg2 zg3 zg4 zg5 zg6 zg7 zg8
        obtain ⟨vq0, vq1, vq2, vq3, vq4, vq5, vq6, vq7, vq8, vg0, vg1, vg2, vg3, vg4, vg5, vg6, vg7, vg8⟩ := hv4
        (try simp only [AM.nil, Slots.zero, Disk.zero, List.length_nil] at vq0 vq1 vq2 vq3 vq4 vq5 vq6 vq7 vq8)
        obtain ⟨zq0, zq1, zq2, zq3, zq4, zq5, zq6, zq7, zq8, zg0, zg1, zg2, zg3, zg4, zg5, zg6, zg7, zg8⟩ := hz4
        (try simp only [AM.nil, Slots.zero, Disk.zero, List.length_nil] at zq0 zq1 zq2 zq3 zq4 zq5 zq6 zq7 zq8)
        go_wp2
        refine bodyPost_ret (v := .tuple #[.agg #[.slice D5 r5.s.length cd5, .slice E5 r5.t.length ce5, .int .i64 r5.cap, .bool r5.down, .slice D4 r4.s.length cd4, .slice E4 r4.t.length ce4, .int .i64 r4.cap, .bool r4.down, .int .i64 n], .int .i64 0]) (by simp [results, Tryz.results100, go_sem, *]) rfl ?_
        refine ⟨⟨r5, r4, n⟩, 0, ⟨D5, E5, D4, E4, cd5, ce5, cd4, ce4⟩, Lib.hid ?_, rfl, ⟨RB.mono (lo := w.heap.size + 1 + 1) (by repeat (first | with_reducible assumption | with_reducible refine RB.put ?_ wnA _ | (with_reducible refine RB.ab ?_ (by assumption)))) (by omega), RB.mono (lo := w.heap.size + 1 + 1) (by repeat (first | with_reducible assumption | with_reducible refine RB.put ?_ wnA _ | (with_reducible refine RB.ab ?_ (by assumption)))) (by omega), RB.mono (lo := w.heap.size + 1 + 1) (by repeat (first | with_reducible assumption | with_reducible refine RB.put ?_ wnA _ | (with_reducible refine RB.ab ?_ (by assumption)))) (by omega), RB.mono (lo := w.heap.size + 1 + 1) (by repeat (first | with_reducible assumption | with_reducible refine RB.put ?_ wnA _ | (with_reducible refine RB.ab ?_ (by assumption)))) (by omega), k5, j5, k4, j4, s5.out.1, s5.out.2, s4.out.1, s4.out.2⟩, abA⟩
        rw [HM.out, ← hR5.out, ← hr4'.out]
        simp [Slots.Sl.put, HP.out]
      · have HM := Lib.hid (HN.out.trans (if_pos (by rw [← hR5.out]; exact he5)))
        clear HN
        have hne5 : (er5 != 0) = true := by simpa using he5
        clear he5
        go_wp2
        refine bodyPost_ret (v := .tuple #[(.agg #[.slice none 0 0, .slice none 0 0, .int .i64 0, .bool false, .slice none 0 0, .slice none 0 0, .int .i64 0, .bool false, .int .i64 0]), .int .i64 er5]) (by simp [results, Tryz.results100, go_sem, *]) rfl ?_
        exact RetSlE.zero (by rw [HM.out, ← hR5.out]) abA
    · have HP := Lib.hid hp
      clear hp
      have HBX := hbx
      obtain ⟨vq0, vq1, vq2, vq3, vq4, vq5, vq6, vq7, vq8, vg0, vg1, vg2, vg3, vg4, vg5, vg6, vg7, vg8⟩ := hbx
      (try simp only [AM.nil, Slots.zero, Disk.zero, List.length_nil] at vq0 vq1 vq2 vq3 vq4 vq5 vq6 vq7 vq8)
      go_wp2_with fail
      refine (slotOf_any n 1 hn0 HP.out _).mono ?_
      rintro e w2 ⟨rfl, rfl⟩
      go_wp2_with fail
      refine (write_any C D cc cd p q cep dm _ (RB.ab h.c abA) (RB.ab h.d abA) h.lc h.ld h.sc h.sd E ce L hE.zero hce (by omega) k).mono ?_
      rintro e w3 ⟨r3, D3, E3, cd3, ce3, hr3, rfl, m1, m2, l1, l2, hown, hb3⟩
      have zz3 := Nat.le_trans zz hb3.size
      have s3 := Lib.hid (show Slots.Small r3 by rw [hr3.out]; exact Slots.small_wr _ _ ⟨h.sc, h.sd⟩)
      clear hown
      go_wp2_with fail
      refine (crash_any D3 E3 cd3 ce3 r3.s r3.t r3.cap r3.down _ m1 m2 l1 l2 s3.out.1 s3.out.2 keep).mono ?_
      rintro e w5 ⟨r5, er5, D5, E5, cd5, ce5, hr5, rfl, o1, o2, hb5⟩
      have hR5 := Lib.hid (show (r5, er5) = Disk.crash (Slots.wr (Slots.Sl.cur (⟨⟨s, t, cap, dn⟩, ⟨p, q, cep, dm⟩, n⟩ : Sl)) (Frame.enc ⟨n, b⟩) k) keep by
        rw [hr5.out, show (⟨r3.s, r3.t, r3.cap, r3.down⟩ : Dev) = r3 from rfl, hr3.out, HL.out]
        simp [Slots.Sl.cur, HP.out])
      have hD5 := o1.rb.mono (show w.heap.size + 1 + 1 ≤ w3.heap.size from zz3)
      have hE5 := o2.rb.mono (show w.heap.size + 1 + 1 ≤ w3.heap.size from zz3)
      have k5 := o1.le
      have j5 := o2.le
      have zz5 := Nat.le_trans zz3 hb5.size
      have s5 := Lib.hid (show Slots.Small r5 by rw [show r5 = (Disk.crash r3 keep).1 from congrArg Prod.fst hr5.out]; exact Slots.small_crash _ s3.out)
      have b5 : Ab w w5 := abA
      clear m1 m2 o1 o2 l1 l2 hr5 vq0 vq1 vq2 vq3 vq4 vq5 vq6 vq7 vq8 vg0 vg1 vg2 vg3 vg4 vg5 vg6 vg7 vg8
      obtain ⟨vq0, vq1, vq2, vq3, vq4, vq5, vq6, vq7, vq8, vg0, vg1, vg2, vg3, vg4, vg5, vg6, vg7, vg8⟩ := ((HBX.ab hb3).ab hb5)
      (try simp only [AM.nil, Slots.zero, Disk.zero, List.length_nil] at vq0 vq1 vq2 vq3 vq4 vq5 vq6 vq7 vq8)
      obtain ⟨zq0, zq1, zq2, zq3, zq4, zq5, zq6, zq7, zq8, zg0, zg1, zg2, zg3, zg4, zg5, zg6, zg7, zg8⟩ := ((hrx.ab hb3).ab hb5)
      (try simp only [AM.nil, Slots.zero, Disk.zero, List.length_nil] at zq0 zq1 zq2 zq3 zq4 zq5 zq6 zq7 zq8)
      have nva := fun (o : Obj) (j : Nat) => World.cell?_alloc_lt w5 o ⟨w.heap.size, j, none⟩ (by simp only; omega)
      have nvb := fun (o : Obj) (j : Nat) => ((Ab.refl w5).alloc o).frozen (p := ⟨w.heap.size, j, none⟩) (by simp only; omega)
      have nza := fun (o : Obj) (j : Nat) => World.cell?_alloc_lt w5 o ⟨w.heap.size + 1, j, none⟩ (by simp only; omega)
      have nzb := fun (o : Obj) (j : Nat) => ((Ab.refl w5).alloc o).frozen (p := ⟨w.heap.size + 1, j, none⟩) (by simp only; omega)
      have hne : w.heap.size + 1 ≠ w5.heap.size := by omega
      have hne2 : w.heap.size ≠ w5.heap.size := by omega
      by_cases he5 : er5 = 0
      · obtain rfl : er5 = 0 := he5
        have HM := Lib.hid (HN.out.trans (if_neg (by rw [← hR5.out]; simp)))
        clear HN
        go_wp2_with fail
        refine (crash_any A B ca cb s t cap dn _ (RB.ab h.a abA) (RB.ab h.b abA) h.la h.lb h.sa h.sb 0).mono ?_
        rintro e w4 ⟨r4, er4, D4, E4, cd4, ce4, hr4, rfl, o1, o2, hb4⟩
        have hr4' := Lib.hid (show r4 = (Disk.crash (Slots.Sl.oth (⟨⟨s, t, cap, dn⟩, ⟨p, q, cep, dm⟩, n⟩ : Sl)) 0).1 by rw [show r4 = _ from congrArg Prod.fst hr4.out]; simp [Slots.Sl.oth, HP.out])
        have s4 := Lib.hid (show Slots.Small r4 by rw [show r4 = (Disk.crash ⟨s, t, cap, dn⟩ 0).1 from congrArg Prod.fst hr4.out]; exact Slots.small_crash _ ⟨h.sa, h.sb⟩)
        have hv4 : SlB w4 w.heap.size ⟨A, B, D5, E5, ca, cb, cd5, ce5⟩ ⟨⟨s, t, cap, dn⟩, r5, n⟩ := ⟨hb4.at (by simp [go_sem, *]), hb4.at (by simp [go_sem, *]), hb4.at (by simp [go_sem, *]), hb4.at (by simp [go_sem, *]), hb4.at (by simp [go_sem, *]), hb4.at (by simp [go_sem, *]), hb4.at (by simp [go_sem, *]), hb4.at (by simp [go_sem, *]), hb4.at (by simp [go_sem, *]), (hb4.frozen wnA).trans (by simp [go_sem, *]), (hb4.frozen wnA).trans (by simp [go_sem, *]), (hb4.frozen wnA).trans (by simp [go_sem, *]), (hb4.frozen wnA).trans (by simp [go_sem, *]), (hb4.frozen wnA).trans (by simp [go_sem, *]), (hb4.frozen wnA).trans (by simp [go_sem, *]), (hb4.frozen wnA).trans (by simp [go_sem, *]), (hb4.frozen wnA).trans (by simp [go_sem, *]), (hb4.frozen wnA).trans (by simp [go_sem, *])⟩
        have hz4 : SlB w4 (w.heap.size + 1) AM.nil Slots.zero := ⟨hb4.at (by simp [go_sem, AM.nil, Slots.zero, Disk.zero, *]), hb4.at (by simp [go_sem, AM.nil, Slots.zero, Disk.zero, *]), hb4.at (by simp [go_sem, AM.nil, Slots.zero, Disk.zero, *]), hb4.at (by simp [go_sem, AM.nil, Slots.zero, Disk.zero, *]), hb4.at (by simp [go_sem, AM.nil, Slots.zero, Disk.zero, *]), hb4.at (by simp [go_sem, AM.nil, Slots.zero, Disk.zero, *]), hb4.at (by simp [go_sem, AM.nil, Slots.zero, Disk.zero, *]), hb4.at (by simp [go_sem, AM.nil, Slots.zero, Disk.zero, *]), hb4.at (by simp [go_sem, AM.nil, Slots.zero, Disk.zero, *]), (hb4.frozen wnA).trans (by simp [go_sem, *]), (hb4.frozen wnA).trans (by simp [go_sem, *]), (hb4.frozen wnA).trans (by simp [go_sem, *]), (hb4.frozen wnA).trans (by simp [go_sem, *]), (hb4.frozen wnA).trans (by simp [go_sem, *]), (hb4.frozen wnA).trans (by simp [go_sem, *]), (hb4.frozen wnA).trans (by simp [go_sem, *]), (hb4.frozen wnA).trans (by simp [go_sem, *]), (hb4.frozen wnA).trans (by simp [go_sem, *])⟩
        have zz4 : w.heap.size + 1 + 1 ≤ w4.heap.size := Nat.le_trans zz5 (by have := hb4.size; simp at this; omega)
        have hD4 : RB w4 (w.heap.size + 1 + 1) D4 r4.s := o1.rb.mono (by simp; omega)
        have hE4 : RB w4 (w.heap.size + 1 + 1) E4 r4.t := o2.rb.mono (by simp; omega)
        have hal : ∀ o, Ab w5 (w5.alloc o) := fun o => (Ab.refl w5).alloc o
        have hD5' : RB w4 (w.heap.size + 1 + 1) D5 r5.s := by refine RB.ab ?_ hb4; (repeat refine RB.put ?_ wnA _); exact hD5.ab (hal _)
        have hE5' : RB w4 (w.heap.size + 1 + 1) E5 r5.t := by refine RB.ab ?_ hb4; (repeat refine RB.put ?_ wnA _); exact hE5.ab (hal _)
        have b4 : Ab w w4 := abA
        have k4 := o1.le
        have j4 := o2.le
        clear hr4 o1 o2 hal vq0 vq1 vq2 vq3 vq4 vq5 vq6 vq7 vq8 vg0 vg1 vg2 vg3 vg4 vg5 vg6 vg7 vg8 zq0 zq1 zq2 zq3 zq4 zq5 zq6 zq7 zq8 zg0 zg1 zg2 zg3 zg4 zg5 zg6 zg7 zg8
        obtain ⟨vq0, vq1, vq2, vq3, vq4, vq5, vq6, vq7, vq8, vg0, vg1, vg2, vg3, vg4, vg5, vg6, vg7, vg8⟩ := hv4
        (try simp only [AM.nil, Slots.zero, Disk.zero, List.length_nil] at vq0 vq1 vq2 vq3 vq4 vq5 vq6 vq7 vq8)
        obtain ⟨zq0, zq1, zq2, zq3, zq4, zq5, zq6, zq7, zq8, zg0, zg1, zg2, zg3, zg4, zg5, zg6, zg7, zg8⟩ := hz4
        (try simp only [AM.nil, Slots.zero, Disk.zero, List.length_nil] at zq0 zq1 zq2 zq3 zq4 zq5 zq6 zq7 zq8)
        go_wp2
        refine bodyPost_ret (v := .tuple #[.agg #[.slice D4 r4.s.length cd4, .slice E4 r4.t.length ce4, .int .i64 r4.cap, .bool r4.down, .slice D5 r5.s.length cd5, .slice E5 r5.t.length ce5, .int .i64 r5.cap, .bool r5.down, .int .i64 n], .int .i64 0]) (by simp [results, Tryz.results100, go_sem, *]) rfl ?_
        refine ⟨⟨r4, r5, n⟩, 0, ⟨D4, E4, D5, E5, cd4, ce4, cd5, ce5⟩, Lib.hid ?_, rfl, ⟨RB.mono (lo := w.heap.size + 1 + 1) (by repeat (first | with_reducible assumption | with_reducible refine RB.put ?_ wnA _ | (with_reducible refine RB.ab ?_ (by assumption)))) (by omega), RB.mono (lo := w.heap.size + 1 + 1) (by repeat (first | with_reducible assumption | with_reducible refine RB.put ?_ wnA _ | (with_reducible refine RB.ab ?_ (by assumption)))) (by omega), RB.mono (lo := w.heap.size + 1 + 1) (by repeat (first | with_reducible assumption | with_reducible refine RB.put ?_ wnA _ | (with_reducible refine RB.ab ?_ (by assumption)))) (by omega), RB.mono (lo := w.heap.size + 1 + 1) (by repeat (first | with_reducible assumption | with_reducible refine RB.put ?_ wnA _ | (with_reducible refine RB.ab ?_ (by assumption)))) (by omega), k4, j4, k5, j5, s4.out.1, s4.out.2, s5.out.1, s5.out.2⟩, abA⟩
        rw [HM.out, ← hR5.out, ← hr4'.out]
        simp [Slots.Sl.put, HP.out]
      · have HM := Lib.hid (HN.out.trans (if_pos (by rw [← hR5.out]; exact he5)))
        clear HN
        have hne5 : (er5 != 0) = true := by simpa using he5
        clear he5
        go_wp2
        refine bodyPost_ret (v := .tuple #[(.agg #[.slice none 0 0, .slice none 0 0, .int .i64 0, .bool false, .slice none 0 0, .slice none 0 0, .int .i64 0, .bool false, .int .i64 0]), .int .i64 er5]) (by simp [results, Tryz.results100, go_sem, *]) rfl ?_
        exact RetSlE.zero (by rw [HM.out, ← hR5.out]) abA
  · have HM := Lib.hid (show Slots.half (⟨⟨s, t, cap, dn⟩, ⟨p, q, cep, dm⟩, n⟩ : Sl) b k keep = _ from if_pos (by rw [← hr.out]; exact he))
    have hne : (er != 0) = true := by simpa using he
    have HE := Lib.hid hr.out
    obtain ⟨vq0, vq1, vq2, vq3, vq4, vq5, vq6, vq7, vq8, vg0, vg1, vg2, vg3, vg4, vg5, vg6, vg7, vg8⟩ := hbx
    (try simp only [AM.nil, Slots.zero, Disk.zero, List.length_nil] at vq0 vq1 vq2 vq3 vq4 vq5 vq6 vq7 vq8)
    obtain ⟨zq0, zq1, zq2, zq3, zq4, zq5, zq6, zq7, zq8, zg0, zg1, zg2, zg3, zg4, zg5, zg6, zg7, zg8⟩ := hrx
    (try simp only [AM.nil, Slots.zero, Disk.zero, List.length_nil] at zq0 zq1 zq2 zq3 zq4 zq5 zq6 zq7 zq8)
    clear hr hL he
    go_wp2
    refine bodyPost_ret (v := .tuple #[(.agg #[.slice none 0 0, .slice none 0 0, .int .i64 0, .bool false, .slice none 0 0, .slice none 0 0, .int .i64 0, .bool false, .int .i64 0]), .int .i64 er]) (by simp [results, Tryz.results100, go_sem, *]) rfl ?_
    exact RetSlE.zero (by rw [HM.out, ← HE.out]) abA
end Go.Proofs.YthgcfjhnnhigoaaGreat
