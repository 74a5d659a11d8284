/- Save of the reference of layer 5, walked. Own work. -/
import Derived.Test.YtakgglpfgpkboaaSRefC
import Derived.Test.YtakgglpfgpkboaaSRefF
import Derived.RegionTactic
set_option linter.unusedVariables false
set_option linter.unusedSimpArgs false
namespace Go.Proofs.Ytakgglpfgpkboaa
open Go.RowKit
open Slots (Sl)
open Disk (Dev)

theorem Slots.put_num (r : Sl) (d e : Dev) (n n' : Int) : (⟨(r.put d e n).a, (r.put d e n).b, n'⟩ : Sl) = r.put d e n' := by
  unfold Slots.Sl.put
  split <;> rfl

set_option maxHeartbeats 1600000 in
set_option maxRecDepth 100000 in
theorem srsave_any (m : AM) (r : Sl) (w : World) (h : SlM w 0 m r) (X : Option Addr) (b : List UInt8) (cx : Nat) (hx : RB w 0 X b) (hcx : b.length ≤ cx) :
    Calls Try.prog 21 #[.agg #[.slice m.A r.a.s.length m.ca, .slice m.B r.a.t.length m.cb, .int .i64 r.a.cap, .bool r.a.down, .slice m.C r.b.s.length m.cc, .slice m.D r.b.t.length m.cd, .int .i64 r.b.cap, .bool r.b.down, .int .i64 r.n], .slice X b.length cx] w (RetSl3 w (Slots.save r b)) := by
  obtain ⟨A, B, C, D, ca, cb, cc, cd⟩ := m
  obtain ⟨⟨s, t, cap, dn⟩, ⟨p, q, cep, dm⟩, n⟩ := r
  dsimp only
  go_enter Try.func21, Try.ntmps21
  go_wp2_with fail
  refine (srasked_any (⟨A, B, C, D, ca, cb, cc, cd⟩ : AM) (⟨⟨s, t, cap, dn⟩, ⟨p, q, cep, dm⟩, n⟩ : Sl) _ (h.ab (by repeat (first | with_reducible exact Ab.refl _ | with_reducible assumption | with_reducible refine Ab.drew ?_ | with_reducible refine Ab.drewN ?_ _ | with_reducible refine Ab.alloc ?_ _ | with_reducible refine Ab.trans ?_ (by assumption) | with_reducible refine Ab.set ?_ (by first | (simp; done) | omega | (simp; omega)) _))) X b cx (hx.ab (by repeat (first | with_reducible exact Ab.refl _ | with_reducible assumption | with_reducible refine Ab.drew ?_ | with_reducible refine Ab.drewN ?_ _ | with_reducible refine Ab.alloc ?_ _ | with_reducible refine Ab.trans ?_ (by assumption) | with_reducible refine Ab.set ?_ (by first | (simp; done) | omega | (simp; omega)) _))) hcx).mono ?_
  rintro e w1 ⟨er, hr, rfl, hb1⟩
  have hz : Ab ((w.alloc (.cells #[.slice A s.length ca, .slice B t.length cb, .int .i64 cap, .bool dn, .slice C p.length cc, .slice D q.length cd, .int .i64 cep, .bool dm, .int .i64 n] 27)).alloc (.cells #[.slice none 0 0, .slice none 0 0, .int .i64 0, .bool false, .slice none 0 0, .slice none 0 0, .int .i64 0, .bool false, .int .i64 0] 27)) w1 := (by repeat (first | with_reducible exact Ab.refl _ | with_reducible assumption | with_reducible refine Ab.drew ?_ | with_reducible refine Ab.drewN ?_ _ | with_reducible refine Ab.alloc ?_ _ | with_reducible refine Ab.trans ?_ (by assumption) | with_reducible refine Ab.set ?_ (by first | (simp; done) | omega | (simp; omega)) _))
  have hbx := (SlB.box (w := (w.alloc (.cells #[.slice A s.length ca, .slice B t.length cb, .int .i64 cap, .bool dn, .slice C p.length cc, .slice D q.length cd, .int .i64 cep, .bool dm, .int .i64 n] 27)).alloc (.cells #[.slice none 0 0, .slice none 0 0, .int .i64 0, .bool false, .slice none 0 0, .slice none 0 0, .int .i64 0, .bool false, .int .i64 0] 27)) (b := w.heap.size) (m := (⟨A, B, C, D, ca, cb, cc, cd⟩ : AM)) (r := (⟨⟨s, t, cap, dn⟩, ⟨p, q, cep, dm⟩, n⟩ : Sl)) (old_alloc (new_plain rfl))).ab hz
  have hrx := (SlB.box (w := (w.alloc (.cells #[.slice A s.length ca, .slice B t.length cb, .int .i64 cap, .bool dn, .slice C p.length cc, .slice D q.length cd, .int .i64 cep, .bool dm, .int .i64 n] 27)).alloc (.cells #[.slice none 0 0, .slice none 0 0, .int .i64 0, .bool false, .slice none 0 0, .slice none 0 0, .int .i64 0, .bool false, .int .i64 0] 27)) (b := w.heap.size + 1) (m := AM.nil) (r := Slots.zero) (new_plain (by simp))).ab hz
  have zz := hz.size
  simp at zz
  by_cases he : er = 0
  · have hask := (hr.out.symm.trans he)
    have HM := Lib.hid (show Slots.save (⟨⟨s, t, cap, dn⟩, ⟨p, q, cep, dm⟩, n⟩ : Sl) b = _ from if_neg (by rw [hask]; simp))
    have HA := Lib.hid hask
    have hn1 := (Slots.asked_good hask).2.2.1
    have hn0 := (Slots.asked_good hask).1.lo
    simp only at hn1 hn0
    have hnw : IntKind.i64.wrap (n + 1) = n + 1 := IntWalk.i64_in _ (by omega)
    obtain rfl : er = 0 := he
    clear hr hask
    have HBX := hbx
    obtain ⟨vq0, vq1, vq2, vq3, vq4, vq5, vq6, vq7, vq8, vg0, vg1, vg2, vg3, vg4, vg5, vg6, vg7, vg8⟩ := hbx
    (try simp only [AM.nil, Slots.zero, Disk.zero, List.length_nil] at vq0 vq1 vq2 vq3 vq4 vq5 vq6 vq7 vq8)
    go_wp2_with fail
    refine (srstepped_any (⟨A, B, C, D, ca, cb, cc, cd⟩ : AM) (⟨⟨s, t, cap, dn⟩, ⟨p, q, cep, dm⟩, n⟩ : Sl) _ (h.ab (by repeat (first | with_reducible exact Ab.refl _ | with_reducible assumption | with_reducible refine Ab.drew ?_ | with_reducible refine Ab.drewN ?_ _ | with_reducible refine Ab.alloc ?_ _ | with_reducible refine Ab.trans ?_ (by assumption) | with_reducible refine Ab.set ?_ (by first | (simp; done) | omega | (simp; omega)) _))) X b cx (hx.ab (by repeat (first | with_reducible exact Ab.refl _ | with_reducible assumption | with_reducible refine Ab.drew ?_ | with_reducible refine Ab.drewN ?_ _ | with_reducible refine Ab.alloc ?_ _ | with_reducible refine Ab.trans ?_ (by assumption) | with_reducible refine Ab.set ?_ (by first | (simp; done) | omega | (simp; omega)) _))) hcx HA.out 3).mono ?_
    rintro e w2 ⟨r2, k2, hr2, rfl, hM2, hb2⟩
    have HR := Lib.hid hr2.out
    have hn2 : r2.n = n := by rw [hr2.out]; unfold Slots.Sl.put; split <;> rfl
    have b2 : Ab w w2 := (by repeat (first | with_reducible exact Ab.refl _ | with_reducible assumption | with_reducible refine Ab.drew ?_ | with_reducible refine Ab.drewN ?_ _ | with_reducible refine Ab.alloc ?_ _ | with_reducible refine Ab.trans ?_ (by assumption) | with_reducible refine Ab.set ?_ (by first | (simp; done) | omega | (simp; omega)) _))
    clear hr2
    clear vq0 vq1 vq2 vq3 vq4 vq5 vq6 vq7 vq8 vg0 vg1 vg2 vg3 vg4 vg5 vg6 vg7 vg8
    obtain ⟨vq0, vq1, vq2, vq3, vq4, vq5, vq6, vq7, vq8, vg0, vg1, vg2, vg3, vg4, vg5, vg6, vg7, vg8⟩ := (HBX.ab hb2)
    (try simp only [AM.nil, Slots.zero, Disk.zero, List.length_nil] at vq0 vq1 vq2 vq3 vq4 vq5 vq6 vq7 vq8)
    obtain ⟨zq0, zq1, zq2, zq3, zq4, zq5, zq6, zq7, zq8, zg0, zg1, zg2, zg3, zg4, zg5, zg6, zg7, zg8⟩ := (hrx.ab hb2)
    (try simp only [AM.nil, Slots.zero, Disk.zero, List.length_nil] at zq0 zq1 zq2 zq3 zq4 zq5 zq6 zq7 zq8)
    have ss0 := cell_lt vq0
    have ss1 := cell_lt zq0
    simp only at ss0 ss1
    have nva := fun (o : Obj) (j : Nat) => World.cell?_alloc_lt w2 o ⟨w.heap.size, j, none⟩ (by simp only; omega)
    have nvb := fun (o : Obj) (j : Nat) => ((Ab.refl w2).alloc o).frozen (p := ⟨w.heap.size, j, none⟩) (by simp only; omega)
    have nza := fun (o : Obj) (j : Nat) => World.cell?_alloc_lt w2 o ⟨w.heap.size + 1, j, none⟩ (by simp only; omega)
    have nzb := fun (o : Obj) (j : Nat) => ((Ab.refl w2).alloc o).frozen (p := ⟨w.heap.size + 1, j, none⟩) (by simp only; omega)
    have ne1 : w.heap.size ≠ w2.heap.size := by omega
    have ne2 : w.heap.size + 1 ≠ w2.heap.size := by omega
    have hM3 : SlM w2 w1.heap.size k2 ⟨r2.a, r2.b, n + 1⟩ := ⟨hM2.a, hM2.b, hM2.c, hM2.d, hM2.la, hM2.lb, hM2.lc, hM2.ld, hM2.sa, hM2.sb, hM2.sc, hM2.sd⟩
    have hM4 : SlM w2 (w.heap.size + 1 + 1) k2 ⟨r2.a, r2.b, n + 1⟩ := hM3.mono zz
    clear hM2 hM3
    go_upto_region 6 with fail
    go_region
    all_goals go_wp2
    all_goals refine bodyPost_ret (v := .tuple #[.agg #[.slice k2.A (⟨r2.a, r2.b, n + 1⟩ : Sl).a.s.length k2.ca, .slice k2.B (⟨r2.a, r2.b, n + 1⟩ : Sl).a.t.length k2.cb, .int .i64 (⟨r2.a, r2.b, n + 1⟩ : Sl).a.cap, .bool (⟨r2.a, r2.b, n + 1⟩ : Sl).a.down, .slice k2.C (⟨r2.a, r2.b, n + 1⟩ : Sl).b.s.length k2.cc, .slice k2.D (⟨r2.a, r2.b, n + 1⟩ : Sl).b.t.length k2.cd, .int .i64 (⟨r2.a, r2.b, n + 1⟩ : Sl).b.cap, .bool (⟨r2.a, r2.b, n + 1⟩ : Sl).b.down, .int .i64 (⟨r2.a, r2.b, n + 1⟩ : Sl).n], .int .i64 n, .int .i64 0]) (by simp [results, Try.results21, go_sem, *]) rfl ?_
    all_goals refine ⟨⟨r2.a, r2.b, n + 1⟩, n, 0, k2, Lib.hid (by rw [HM.out, HR.out, Slots.put_num]), rfl, SlM.zero (lo := w.heap.size + 1 + 1) ?_, (by repeat (first | with_reducible exact Ab.refl _ | with_reducible assumption | with_reducible refine Ab.drew ?_ | with_reducible refine Ab.drewN ?_ _ | with_reducible refine Ab.alloc ?_ _ | with_reducible refine Ab.trans ?_ (by assumption) | with_reducible refine Ab.set ?_ (by first | (simp; done) | omega | (simp; omega)) _))⟩
    all_goals (with_reducible refine SlM.ab ?_ ((Ab.refl _).drew); with_reducible refine SlM.ab ?_ ((Ab.refl _).alloc _); (repeat with_reducible refine SlM.put ?_ (by first | (simp; done) | omega | (simp; omega)) _); with_reducible exact hM4)
  · have HM := Lib.hid (show Slots.save (⟨⟨s, t, cap, dn⟩, ⟨p, q, cep, dm⟩, n⟩ : Sl) b = _ from if_pos (by rw [← hr.out]; exact he))
    have hne : (er != 0) = true := by simpa using he
    have HE := Lib.hid hr.out
    obtain ⟨vq0, vq1, vq2, vq3, vq4, vq5, vq6, vq7, vq8, vg0, vg1, vg2, vg3, vg4, vg5, vg6, vg7, vg8⟩ := hbx
    (try simp only [AM.nil, Slots.zero, Disk.zero, List.length_nil] at vq0 vq1 vq2 vq3 vq4 vq5 vq6 vq7 vq8)
    obtain ⟨zq0, zq1, zq2, zq3, zq4, zq5, zq6, zq7, zq8, zg0, zg1, zg2, zg3, zg4, zg5, zg6, zg7, zg8⟩ := hrx
    (try simp only [AM.nil, Slots.zero, Disk.zero, List.length_nil] at zq0 zq1 zq2 zq3 zq4 zq5 zq6 zq7 zq8)
    clear hr he
    go_wp2
    refine bodyPost_ret (v := .tuple #[(.agg #[.slice none 0 0, .slice none 0 0, .int .i64 0, .bool false, .slice none 0 0, .slice none 0 0, .int .i64 0, .bool false, .int .i64 0]), .int .i64 0, .int .i64 er]) (by simp [results, Try.results21, go_sem, *]) rfl ?_
    exact RetSl3.zero (by rw [HM.out, ← HE.out]) (by repeat (first | with_reducible exact Ab.refl _ | with_reducible assumption | with_reducible refine Ab.drew ?_ | with_reducible refine Ab.drewN ?_ _ | with_reducible refine Ab.alloc ?_ _ | with_reducible refine Ab.trans ?_ (by assumption) | with_reducible refine Ab.set ?_ (by first | (simp; done) | omega | (simp; omega)) _))
end Go.Proofs.Ytakgglpfgpkboaa
