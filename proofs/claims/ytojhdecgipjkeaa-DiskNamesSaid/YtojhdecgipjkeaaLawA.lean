import Derived.Test.YtojhdecgipjkeaaRefF
import Derived.Test.YtojhdecgipjkeaaImpD
import Derived.Test.YtojhdecgipjkeaaTwin
import Derived.Test.YtojhdecgipjkeaaMem2
import Derived.Test.YtojhdecgipjkeaaDisk2
set_option linter.unusedVariables false
namespace Go.Proofs.Ytojhdecgipjkeaa
open Go.RowKit Disk

set_option maxHeartbeats 1600000 in
theorem reads_walk (A B : Option Addr) (ca cb : Nat) (s t : List UInt8) (cap : Int) (dn : Bool) (w : World) (hs : RB w 0 A s) (ht : RB w 0 B t) (hca : s.length ≤ ca) (hcb : t.length ≤ cb) (ls : s.length ≤ 9223372036854775807) (lt : t.length ≤ 9223372036854775807) (at_ n : Int) (h1 : -9223372036854775808 ≤ at_) (h2 : at_ ≤ 9223372036854775807) :
    Calls Try.prog 4 #[.agg #[.slice A s.length ca, .slice B t.length cb, .int .i64 cap, .bool dn], .int .i64 at_, .int .i64 n] w fun e w' => e = .returned (.bool true) ∧ Ab w w' := by
  by_cases hg : 3000 < s.length ∨ 3000 < t.length
  · have HG := Lib.hid hg; clear hg
    go_enter Try.func4, Try.ntmps4
    go_wp2_with fail
    refine (great_yes A B ca cb s t cap dn _ HG.out).mono ?_
    rintro e w1 ⟨rfl, hb1⟩
    go_wp2
    go_ret
    exact ⟨rfl, (by repeat (first | with_reducible exact Ab.refl _ | with_reducible assumption | with_reducible refine Ab.drew ?_ | with_reducible refine Ab.drewN ?_ _ | with_reducible refine Ab.alloc ?_ _ | with_reducible refine Ab.trans ?_ (by assumption) | with_reducible refine Ab.set ?_ (by first | (simp; done) | omega | (simp; omega)) _))⟩
  have ls : s.length ≤ 3000 := by omega
  have lt : t.length ≤ 3000 := by omega
  clear hg
  go_enter Try.func4, Try.ntmps4
  go_wp2_with fail
  refine (great_no A B ca cb s t cap dn _ ls lt).mono ?_
  rintro e w1 ⟨rfl, hb1⟩
  have bq0 := hb1.at (p := ⟨w.heap.size, 0, none⟩) (v := .slice A s.length ca) (by (repeat (first | with_reducible assumption | (simp [go_sem]; done) | with_reducible apply cell_alloc | with_reducible apply cell_drew | with_reducible apply cell_drewN | (with_reducible apply Ab.at; with_reducible assumption) | (with_reducible refine cell_set ?_ ?_; rotate_left; focus (first | (simp; done) | (simp; omega))) | (with_reducible refine cell_setb ?_ ?_; rotate_left; focus (first | omega | (simp only; omega) | (simp; omega)))))); have bq1 := hb1.at (p := ⟨w.heap.size, 1, none⟩) (v := .slice B t.length cb) (by (repeat (first | with_reducible assumption | (simp [go_sem]; done) | with_reducible apply cell_alloc | with_reducible apply cell_drew | with_reducible apply cell_drewN | (with_reducible apply Ab.at; with_reducible assumption) | (with_reducible refine cell_set ?_ ?_; rotate_left; focus (first | (simp; done) | (simp; omega))) | (with_reducible refine cell_setb ?_ ?_; rotate_left; focus (first | omega | (simp only; omega) | (simp; omega)))))); have bq2 := hb1.at (p := ⟨w.heap.size, 2, none⟩) (v := .int .i64 cap) (by (repeat (first | with_reducible assumption | (simp [go_sem]; done) | with_reducible apply cell_alloc | with_reducible apply cell_drew | with_reducible apply cell_drewN | (with_reducible apply Ab.at; with_reducible assumption) | (with_reducible refine cell_set ?_ ?_; rotate_left; focus (first | (simp; done) | (simp; omega))) | (with_reducible refine cell_setb ?_ ?_; rotate_left; focus (first | omega | (simp only; omega) | (simp; omega)))))); have bq3 := hb1.at (p := ⟨w.heap.size, 3, none⟩) (v := .bool dn) (by (repeat (first | with_reducible assumption | (simp [go_sem]; done) | with_reducible apply cell_alloc | with_reducible apply cell_drew | with_reducible apply cell_drewN | (with_reducible apply Ab.at; with_reducible assumption) | (with_reducible refine cell_set ?_ ?_; rotate_left; focus (first | (simp; done) | (simp; omega))) | (with_reducible refine cell_setb ?_ ?_; rotate_left; focus (first | omega | (simp only; omega) | (simp; omega))))))
  go_wp2_with fail
  refine (twin_any A B ca cb s t cap dn _ (RB.ab hs (by repeat (first | with_reducible exact Ab.refl _ | with_reducible assumption | with_reducible refine Ab.drew ?_ | with_reducible refine Ab.drewN ?_ _ | with_reducible refine Ab.alloc ?_ _ | with_reducible refine Ab.trans ?_ (by assumption) | with_reducible refine Ab.set ?_ (by first | (simp; done) | omega | (simp; omega)) _))) (RB.ab ht (by repeat (first | with_reducible exact Ab.refl _ | with_reducible assumption | with_reducible refine Ab.drew ?_ | with_reducible refine Ab.drewN ?_ _ | with_reducible refine Ab.alloc ?_ _ | with_reducible refine Ab.trans ?_ (by assumption) | with_reducible refine Ab.set ?_ (by first | (simp; done) | omega | (simp; omega)) _))) hca hcb (by omega) (by omega)).mono ?_
  rintro e w2 ⟨r, D, E, cd, ce, er, rfl, o1, o2, hb2⟩
  obtain rfl : r = ⟨s, t, cap, dn⟩ := er.out
  clear er
  simp only at o1 o2
  simp only
  go_wp2_with fail
  refine (new_any n _).mono ?_
  rintro e w3 ⟨r3, f3, A3, B3, c3, d3, h3, rfl, p3, p3', hb3⟩
  go_wp2_with fail
  refine (refNew_any n _).mono ?_
  rintro e w4 ⟨r4, f4, A4, B4, c4, d4, h4, rfl, p4, p4', hb4⟩
  obtain ⟨rfl, rfl⟩ : r4 = r3 ∧ f4 = f3 := Prod.mk.inj (h4.out.trans h3.out.symm)
  obtain ⟨lr1, lr2⟩ : r4.s.length ≤ 4000000 ∧ r4.t.length ≤ 4000000 := by
    have := congrArg Prod.fst h3.out
    simp only at this; rw [this]; exact new_len n
  clear h3 h4
  have kq0 : w4.cell? ⟨w2.heap.size, 0, none⟩ = some (.slice D s.length cd) := by (repeat (first | with_reducible assumption | (simp [go_sem]; done) | with_reducible apply cell_alloc | with_reducible apply cell_drew | with_reducible apply cell_drewN | (with_reducible apply Ab.at; with_reducible assumption) | (with_reducible refine cell_set ?_ ?_; rotate_left; focus (first | (simp; done) | (simp; omega))) | (with_reducible refine cell_setb ?_ ?_; rotate_left; focus (first | omega | (simp only; omega) | (simp; omega)))))
  have kq1 : w4.cell? ⟨w2.heap.size, 1, none⟩ = some (.slice E t.length ce) := by (repeat (first | with_reducible assumption | (simp [go_sem]; done) | with_reducible apply cell_alloc | with_reducible apply cell_drew | with_reducible apply cell_drewN | (with_reducible apply Ab.at; with_reducible assumption) | (with_reducible refine cell_set ?_ ?_; rotate_left; focus (first | (simp; done) | (simp; omega))) | (with_reducible refine cell_setb ?_ ?_; rotate_left; focus (first | omega | (simp only; omega) | (simp; omega)))))
  have kq2 : w4.cell? ⟨w2.heap.size, 2, none⟩ = some (.int .i64 cap) := by (repeat (first | with_reducible assumption | (simp [go_sem]; done) | with_reducible apply cell_alloc | with_reducible apply cell_drew | with_reducible apply cell_drewN | (with_reducible apply Ab.at; with_reducible assumption) | (with_reducible refine cell_set ?_ ?_; rotate_left; focus (first | (simp; done) | (simp; omega))) | (with_reducible refine cell_setb ?_ ?_; rotate_left; focus (first | omega | (simp only; omega) | (simp; omega)))))
  have kq3 : w4.cell? ⟨w2.heap.size, 3, none⟩ = some (.bool dn) := by (repeat (first | with_reducible assumption | (simp [go_sem]; done) | with_reducible apply cell_alloc | with_reducible apply cell_drew | with_reducible apply cell_drewN | (with_reducible apply Ab.at; with_reducible assumption) | (with_reducible refine cell_set ?_ ?_; rotate_left; focus (first | (simp; done) | (simp; omega))) | (with_reducible refine cell_setb ?_ ?_; rotate_left; focus (first | omega | (simp only; omega) | (simp; omega)))))
  have kz : w2.heap.size < w4.heap.size := cell_lt kq0
  go_wp2_with fail
  refine (size_any D E cd ce s t cap dn _ (by omega) (by omega)).mono ?_
  rintro e w5 ⟨x5, f5, h5, rfl, hb5⟩
  have kq0 : w5.cell? ⟨w.heap.size, 0, none⟩ = some (.slice A s.length ca) := by (repeat (first | with_reducible assumption | (simp [go_sem]; done) | with_reducible apply cell_alloc | with_reducible apply cell_drew | with_reducible apply cell_drewN | (with_reducible apply Ab.at; with_reducible assumption) | (with_reducible refine cell_set ?_ ?_; rotate_left; focus (first | (simp; done) | (simp; omega))) | (with_reducible refine cell_setb ?_ ?_; rotate_left; focus (first | omega | (simp only; omega) | (simp; omega)))))
  have kq1 : w5.cell? ⟨w.heap.size, 1, none⟩ = some (.slice B t.length cb) := by (repeat (first | with_reducible assumption | (simp [go_sem]; done) | with_reducible apply cell_alloc | with_reducible apply cell_drew | with_reducible apply cell_drewN | (with_reducible apply Ab.at; with_reducible assumption) | (with_reducible refine cell_set ?_ ?_; rotate_left; focus (first | (simp; done) | (simp; omega))) | (with_reducible refine cell_setb ?_ ?_; rotate_left; focus (first | omega | (simp only; omega) | (simp; omega)))))
  have kq2 : w5.cell? ⟨w.heap.size, 2, none⟩ = some (.int .i64 cap) := by (repeat (first | with_reducible assumption | (simp [go_sem]; done) | with_reducible apply cell_alloc | with_reducible apply cell_drew | with_reducible apply cell_drewN | (with_reducible apply Ab.at; with_reducible assumption) | (with_reducible refine cell_set ?_ ?_; rotate_left; focus (first | (simp; done) | (simp; omega))) | (with_reducible refine cell_setb ?_ ?_; rotate_left; focus (first | omega | (simp only; omega) | (simp; omega)))))
  have kq3 : w5.cell? ⟨w.heap.size, 3, none⟩ = some (.bool dn) := by (repeat (first | with_reducible assumption | (simp [go_sem]; done) | with_reducible apply cell_alloc | with_reducible apply cell_drew | with_reducible apply cell_drewN | (with_reducible apply Ab.at; with_reducible assumption) | (with_reducible refine cell_set ?_ ?_; rotate_left; focus (first | (simp; done) | (simp; omega))) | (with_reducible refine cell_setb ?_ ?_; rotate_left; focus (first | omega | (simp only; omega) | (simp; omega)))))
  have kz : w.heap.size < w5.heap.size := cell_lt kq0
  go_wp2_with fail
  refine (refSize_any A B ca cb s t cap dn _ (RB.ab hs (by repeat (first | with_reducible exact Ab.refl _ | with_reducible assumption | with_reducible refine Ab.drew ?_ | with_reducible refine Ab.drewN ?_ _ | with_reducible refine Ab.alloc ?_ _ | with_reducible refine Ab.trans ?_ (by assumption) | with_reducible refine Ab.set ?_ (by first | (simp; done) | omega | (simp; omega)) _))) (RB.ab ht (by repeat (first | with_reducible exact Ab.refl _ | with_reducible assumption | with_reducible refine Ab.drew ?_ | with_reducible refine Ab.drewN ?_ _ | with_reducible refine Ab.alloc ?_ _ | with_reducible refine Ab.trans ?_ (by assumption) | with_reducible refine Ab.set ?_ (by first | (simp; done) | omega | (simp; omega)) _))) hca hcb (by omega) (by omega)).mono ?_
  rintro e w6 ⟨x6, f6, h6, rfl, hb6⟩
  obtain ⟨rfl, rfl⟩ : x6 = x5 ∧ f6 = f5 := Prod.mk.inj (h6.out.trans h5.out.symm)
  have mq0 : w6.cell? ⟨w2.heap.size, 0, none⟩ = some (.slice D s.length cd) := by (repeat (first | with_reducible assumption | (simp [go_sem]; done) | with_reducible apply cell_alloc | with_reducible apply cell_drew | with_reducible apply cell_drewN | (with_reducible apply Ab.at; with_reducible assumption) | (with_reducible refine cell_set ?_ ?_; rotate_left; focus (first | (simp; done) | (simp; omega))) | (with_reducible refine cell_setb ?_ ?_; rotate_left; focus (first | omega | (simp only; omega) | (simp; omega)))))
  have mq1 : w6.cell? ⟨w2.heap.size, 1, none⟩ = some (.slice E t.length ce) := by (repeat (first | with_reducible assumption | (simp [go_sem]; done) | with_reducible apply cell_alloc | with_reducible apply cell_drew | with_reducible apply cell_drewN | (with_reducible apply Ab.at; with_reducible assumption) | (with_reducible refine cell_set ?_ ?_; rotate_left; focus (first | (simp; done) | (simp; omega))) | (with_reducible refine cell_setb ?_ ?_; rotate_left; focus (first | omega | (simp only; omega) | (simp; omega)))))
  have mq2 : w6.cell? ⟨w2.heap.size, 2, none⟩ = some (.int .i64 cap) := by (repeat (first | with_reducible assumption | (simp [go_sem]; done) | with_reducible apply cell_alloc | with_reducible apply cell_drew | with_reducible apply cell_drewN | (with_reducible apply Ab.at; with_reducible assumption) | (with_reducible refine cell_set ?_ ?_; rotate_left; focus (first | (simp; done) | (simp; omega))) | (with_reducible refine cell_setb ?_ ?_; rotate_left; focus (first | omega | (simp only; omega) | (simp; omega)))))
  have mq3 : w6.cell? ⟨w2.heap.size, 3, none⟩ = some (.bool dn) := by (repeat (first | with_reducible assumption | (simp [go_sem]; done) | with_reducible apply cell_alloc | with_reducible apply cell_drew | with_reducible apply cell_drewN | (with_reducible apply Ab.at; with_reducible assumption) | (with_reducible refine cell_set ?_ ?_; rotate_left; focus (first | (simp; done) | (simp; omega))) | (with_reducible refine cell_setb ?_ ?_; rotate_left; focus (first | omega | (simp only; omega) | (simp; omega)))))
  have mz : w2.heap.size < w6.heap.size := cell_lt mq0
  go_wp2_with fail
  refine (read_any D E cd ce s t cap dn _ (RB.ab o1.rb.zero (by repeat (first | with_reducible exact Ab.refl _ | with_reducible assumption | with_reducible refine Ab.drew ?_ | with_reducible refine Ab.drewN ?_ _ | with_reducible refine Ab.alloc ?_ _ | with_reducible refine Ab.trans ?_ (by assumption) | with_reducible refine Ab.set ?_ (by first | (simp; done) | omega | (simp; omega)) _))) (RB.ab o2.rb.zero (by repeat (first | with_reducible exact Ab.refl _ | with_reducible assumption | with_reducible refine Ab.drew ?_ | with_reducible refine Ab.drewN ?_ _ | with_reducible refine Ab.alloc ?_ _ | with_reducible refine Ab.trans ?_ (by assumption) | with_reducible refine Ab.set ?_ (by first | (simp; done) | omega | (simp; omega)) _))) o1.le o2.le (by omega) (by omega) at_ n h2 h1).mono ?_
  rintro e w7 ⟨x7, f7, A7, c7, h7, rfl, p7, l7, hb7⟩
  have mq0 : w7.cell? ⟨w.heap.size, 0, none⟩ = some (.slice A s.length ca) := by (repeat (first | with_reducible assumption | (simp [go_sem]; done) | with_reducible apply cell_alloc | with_reducible apply cell_drew | with_reducible apply cell_drewN | (with_reducible apply Ab.at; with_reducible assumption) | (with_reducible refine cell_set ?_ ?_; rotate_left; focus (first | (simp; done) | (simp; omega))) | (with_reducible refine cell_setb ?_ ?_; rotate_left; focus (first | omega | (simp only; omega) | (simp; omega)))))
  have mq1 : w7.cell? ⟨w.heap.size, 1, none⟩ = some (.slice B t.length cb) := by (repeat (first | with_reducible assumption | (simp [go_sem]; done) | with_reducible apply cell_alloc | with_reducible apply cell_drew | with_reducible apply cell_drewN | (with_reducible apply Ab.at; with_reducible assumption) | (with_reducible refine cell_set ?_ ?_; rotate_left; focus (first | (simp; done) | (simp; omega))) | (with_reducible refine cell_setb ?_ ?_; rotate_left; focus (first | omega | (simp only; omega) | (simp; omega)))))
  have mq2 : w7.cell? ⟨w.heap.size, 2, none⟩ = some (.int .i64 cap) := by (repeat (first | with_reducible assumption | (simp [go_sem]; done) | with_reducible apply cell_alloc | with_reducible apply cell_drew | with_reducible apply cell_drewN | (with_reducible apply Ab.at; with_reducible assumption) | (with_reducible refine cell_set ?_ ?_; rotate_left; focus (first | (simp; done) | (simp; omega))) | (with_reducible refine cell_setb ?_ ?_; rotate_left; focus (first | omega | (simp only; omega) | (simp; omega)))))
  have mq3 : w7.cell? ⟨w.heap.size, 3, none⟩ = some (.bool dn) := by (repeat (first | with_reducible assumption | (simp [go_sem]; done) | with_reducible apply cell_alloc | with_reducible apply cell_drew | with_reducible apply cell_drewN | (with_reducible apply Ab.at; with_reducible assumption) | (with_reducible refine cell_set ?_ ?_; rotate_left; focus (first | (simp; done) | (simp; omega))) | (with_reducible refine cell_setb ?_ ?_; rotate_left; focus (first | omega | (simp only; omega) | (simp; omega)))))
  have mz : w.heap.size < w7.heap.size := cell_lt mq0
  go_wp2_with fail
  refine (refRead_any A B ca cb s t cap dn _ (RB.ab hs (by repeat (first | with_reducible exact Ab.refl _ | with_reducible assumption | with_reducible refine Ab.drew ?_ | with_reducible refine Ab.drewN ?_ _ | with_reducible refine Ab.alloc ?_ _ | with_reducible refine Ab.trans ?_ (by assumption) | with_reducible refine Ab.set ?_ (by first | (simp; done) | omega | (simp; omega)) _))) (RB.ab ht (by repeat (first | with_reducible exact Ab.refl _ | with_reducible assumption | with_reducible refine Ab.drew ?_ | with_reducible refine Ab.drewN ?_ _ | with_reducible refine Ab.alloc ?_ _ | with_reducible refine Ab.trans ?_ (by assumption) | with_reducible refine Ab.set ?_ (by first | (simp; done) | omega | (simp; omega)) _))) hca hcb (by omega) (by omega) at_ n).mono ?_
  rintro e w8 ⟨x8, f8, A8, c8, h8, rfl, p8, l8, hb8⟩
  obtain ⟨rfl, rfl⟩ : x8 = x7 ∧ f8 = f7 := Prod.mk.inj (h8.out.trans h7.out.symm)
  have rD := o1.rng
  have zz1 := hb1.size
  simp at zz1
  have zz3 := hb3.size; simp at zz3
  have zz4 := hb4.size; simp at zz4
  have zz5 := hb5.size; simp at zz5
  have zz6 := hb6.size
  have zz7 := hb7.size
  have zz8 := hb8.size
  have xq0 : w8.cell? ⟨w2.heap.size, 0, none⟩ = some (.slice D s.length cd) := by (repeat (first | with_reducible assumption | (simp [go_sem]; done) | with_reducible apply cell_alloc | with_reducible apply cell_drew | with_reducible apply cell_drewN | (with_reducible apply Ab.at; with_reducible assumption) | (with_reducible refine cell_set ?_ ?_; rotate_left; focus (first | (simp; done) | (simp; omega))) | (with_reducible refine cell_setb ?_ ?_; rotate_left; focus (first | omega | (simp only; omega) | (simp; omega)))))
  have xq1 : w8.cell? ⟨w2.heap.size, 1, none⟩ = some (.slice E t.length ce) := by (repeat (first | with_reducible assumption | (simp [go_sem]; done) | with_reducible apply cell_alloc | with_reducible apply cell_drew | with_reducible apply cell_drewN | (with_reducible apply Ab.at; with_reducible assumption) | (with_reducible refine cell_set ?_ ?_; rotate_left; focus (first | (simp; done) | (simp; omega))) | (with_reducible refine cell_setb ?_ ?_; rotate_left; focus (first | omega | (simp only; omega) | (simp; omega)))))
  have xq2 : w8.cell? ⟨w2.heap.size, 2, none⟩ = some (.int .i64 cap) := by (repeat (first | with_reducible assumption | (simp [go_sem]; done) | with_reducible apply cell_alloc | with_reducible apply cell_drew | with_reducible apply cell_drewN | (with_reducible apply Ab.at; with_reducible assumption) | (with_reducible refine cell_set ?_ ?_; rotate_left; focus (first | (simp; done) | (simp; omega))) | (with_reducible refine cell_setb ?_ ?_; rotate_left; focus (first | omega | (simp only; omega) | (simp; omega)))))
  have xq3 : w8.cell? ⟨w2.heap.size, 3, none⟩ = some (.bool dn) := by (repeat (first | with_reducible assumption | (simp [go_sem]; done) | with_reducible apply cell_alloc | with_reducible apply cell_drew | with_reducible apply cell_drewN | (with_reducible apply Ab.at; with_reducible assumption) | (with_reducible refine cell_set ?_ ?_; rotate_left; focus (first | (simp; done) | (simp; omega))) | (with_reducible refine cell_setb ?_ ?_; rotate_left; focus (first | omega | (simp only; omega) | (simp; omega)))))
  have xz : w2.heap.size < w8.heap.size := cell_lt xq0
  have vq0 : w8.cell? ⟨w.heap.size, 0, none⟩ = some (.slice A s.length ca) := by (repeat (first | with_reducible assumption | (simp [go_sem]; done) | with_reducible apply cell_alloc | with_reducible apply cell_drew | with_reducible apply cell_drewN | (with_reducible apply Ab.at; with_reducible assumption) | (with_reducible refine cell_set ?_ ?_; rotate_left; focus (first | (simp; done) | (simp; omega))) | (with_reducible refine cell_setb ?_ ?_; rotate_left; focus (first | omega | (simp only; omega) | (simp; omega)))))
  have vq1 : w8.cell? ⟨w.heap.size, 1, none⟩ = some (.slice B t.length cb) := by (repeat (first | with_reducible assumption | (simp [go_sem]; done) | with_reducible apply cell_alloc | with_reducible apply cell_drew | with_reducible apply cell_drewN | (with_reducible apply Ab.at; with_reducible assumption) | (with_reducible refine cell_set ?_ ?_; rotate_left; focus (first | (simp; done) | (simp; omega))) | (with_reducible refine cell_setb ?_ ?_; rotate_left; focus (first | omega | (simp only; omega) | (simp; omega)))))
  have vq2 : w8.cell? ⟨w.heap.size, 2, none⟩ = some (.int .i64 cap) := by (repeat (first | with_reducible assumption | (simp [go_sem]; done) | with_reducible apply cell_alloc | with_reducible apply cell_drew | with_reducible apply cell_drewN | (with_reducible apply Ab.at; with_reducible assumption) | (with_reducible refine cell_set ?_ ?_; rotate_left; focus (first | (simp; done) | (simp; omega))) | (with_reducible refine cell_setb ?_ ?_; rotate_left; focus (first | omega | (simp only; omega) | (simp; omega)))))
  have vq3 : w8.cell? ⟨w.heap.size, 3, none⟩ = some (.bool dn) := by (repeat (first | with_reducible assumption | (simp [go_sem]; done) | with_reducible apply cell_alloc | with_reducible apply cell_drew | with_reducible apply cell_drewN | (with_reducible apply Ab.at; with_reducible assumption) | (with_reducible refine cell_set ?_ ?_; rotate_left; focus (first | (simp; done) | (simp; omega))) | (with_reducible refine cell_setb ?_ ?_; rotate_left; focus (first | omega | (simp only; omega) | (simp; omega)))))
  have vz : w.heap.size < w8.heap.size := cell_lt vq0
  have yq0 : w8.cell? ⟨w3.heap.size, 0, none⟩ = some (.slice A3 r4.s.length c3) := by (repeat (first | with_reducible assumption | (simp [go_sem]; done) | with_reducible apply cell_alloc | with_reducible apply cell_drew | with_reducible apply cell_drewN | (with_reducible apply Ab.at; with_reducible assumption) | (with_reducible refine cell_set ?_ ?_; rotate_left; focus (first | (simp; done) | (simp; omega))) | (with_reducible refine cell_setb ?_ ?_; rotate_left; focus (first | omega | (simp only; omega) | (simp; omega)))))
  have yq1 : w8.cell? ⟨w3.heap.size, 1, none⟩ = some (.slice B3 r4.t.length d3) := by (repeat (first | with_reducible assumption | (simp [go_sem]; done) | with_reducible apply cell_alloc | with_reducible apply cell_drew | with_reducible apply cell_drewN | (with_reducible apply Ab.at; with_reducible assumption) | (with_reducible refine cell_set ?_ ?_; rotate_left; focus (first | (simp; done) | (simp; omega))) | (with_reducible refine cell_setb ?_ ?_; rotate_left; focus (first | omega | (simp only; omega) | (simp; omega)))))
  have yq2 : w8.cell? ⟨w3.heap.size, 2, none⟩ = some (.int .i64 r4.cap) := by (repeat (first | with_reducible assumption | (simp [go_sem]; done) | with_reducible apply cell_alloc | with_reducible apply cell_drew | with_reducible apply cell_drewN | (with_reducible apply Ab.at; with_reducible assumption) | (with_reducible refine cell_set ?_ ?_; rotate_left; focus (first | (simp; done) | (simp; omega))) | (with_reducible refine cell_setb ?_ ?_; rotate_left; focus (first | omega | (simp only; omega) | (simp; omega)))))
  have yq3 : w8.cell? ⟨w3.heap.size, 3, none⟩ = some (.bool r4.down) := by (repeat (first | with_reducible assumption | (simp [go_sem]; done) | with_reducible apply cell_alloc | with_reducible apply cell_drew | with_reducible apply cell_drewN | (with_reducible apply Ab.at; with_reducible assumption) | (with_reducible refine cell_set ?_ ?_; rotate_left; focus (first | (simp; done) | (simp; omega))) | (with_reducible refine cell_setb ?_ ?_; rotate_left; focus (first | omega | (simp only; omega) | (simp; omega)))))
  have yz : w3.heap.size < w8.heap.size := cell_lt yq0
  have uq0 : w8.cell? ⟨w4.heap.size, 0, none⟩ = some (.slice A4 r4.s.length c4) := by (repeat (first | with_reducible assumption | (simp [go_sem]; done) | with_reducible apply cell_alloc | with_reducible apply cell_drew | with_reducible apply cell_drewN | (with_reducible apply Ab.at; with_reducible assumption) | (with_reducible refine cell_set ?_ ?_; rotate_left; focus (first | (simp; done) | (simp; omega))) | (with_reducible refine cell_setb ?_ ?_; rotate_left; focus (first | omega | (simp only; omega) | (simp; omega)))))
  have uq1 : w8.cell? ⟨w4.heap.size, 1, none⟩ = some (.slice B4 r4.t.length d4) := by (repeat (first | with_reducible assumption | (simp [go_sem]; done) | with_reducible apply cell_alloc | with_reducible apply cell_drew | with_reducible apply cell_drewN | (with_reducible apply Ab.at; with_reducible assumption) | (with_reducible refine cell_set ?_ ?_; rotate_left; focus (first | (simp; done) | (simp; omega))) | (with_reducible refine cell_setb ?_ ?_; rotate_left; focus (first | omega | (simp only; omega) | (simp; omega)))))
  have uq2 : w8.cell? ⟨w4.heap.size, 2, none⟩ = some (.int .i64 r4.cap) := by (repeat (first | with_reducible assumption | (simp [go_sem]; done) | with_reducible apply cell_alloc | with_reducible apply cell_drew | with_reducible apply cell_drewN | (with_reducible apply Ab.at; with_reducible assumption) | (with_reducible refine cell_set ?_ ?_; rotate_left; focus (first | (simp; done) | (simp; omega))) | (with_reducible refine cell_setb ?_ ?_; rotate_left; focus (first | omega | (simp only; omega) | (simp; omega)))))
  have uq3 : w8.cell? ⟨w4.heap.size, 3, none⟩ = some (.bool r4.down) := by (repeat (first | with_reducible assumption | (simp [go_sem]; done) | with_reducible apply cell_alloc | with_reducible apply cell_drew | with_reducible apply cell_drewN | (with_reducible apply Ab.at; with_reducible assumption) | (with_reducible refine cell_set ?_ ?_; rotate_left; focus (first | (simp; done) | (simp; omega))) | (with_reducible refine cell_setb ?_ ?_; rotate_left; focus (first | omega | (simp only; omega) | (simp; omega)))))
  have uz : w4.heap.size < w8.heap.size := cell_lt uq0
  have z28 : w2.heap.size ≤ w8.heap.size := by omega
  have o8 : OR 5 w1.heap.size w8 D cd s := o1.keep (by repeat (first | with_reducible exact Ab.refl _ | with_reducible assumption | with_reducible refine Ab.drew ?_ | with_reducible refine Ab.drewN ?_ _ | with_reducible refine Ab.alloc ?_ _ | with_reducible refine Ab.trans ?_ (by assumption) | with_reducible refine Ab.set ?_ (by first | (simp; done) | omega | (simp; omega)) _))
  have b8 : Hid (Ab w w8) := Lib.hid (by repeat (first | with_reducible exact Ab.refl _ | with_reducible assumption | with_reducible refine Ab.drew ?_ | with_reducible refine Ab.drewN ?_ _ | with_reducible refine Ab.alloc ?_ _ | with_reducible refine Ab.trans ?_ (by assumption) | with_reducible refine Ab.set ?_ (by first | (simp; done) | omega | (simp; omega)) _))
  go_wp2_with fail
  go_loopw [20] (fun i wr => InPlace 5 D cd s.length w1.heap.size w8 i wr) (fun i _ => s.length - (intOf i).toNat)
  case atStart => exact ⟨0, s, Nat.zero_le _, rfl, Lib.hid rfl, o8, World.grownBy.refl _ _⟩
  case round =>
    obtain ⟨k, l, hk, rfl, hl, oo, gg⟩ := hrel
    have hx0 := grown_cell gg xq0 (fun a ha => by have := (rD a ha).2; omega)
    by_cases hlt : k < s.length
    · obtain ⟨g, rfl, hg1, hg2⟩ := oo.at_ (by rw [hl.out]; omega)
      have hkl : k < l.length := by rw [hl.out]; exact hlt
      have hc := oo.cellAt hkl
      have hf := oo.unfrozen k
      have hu8 := u8_succ l[k]
      have HU8 := Lib.hid hu8; clear hu8
      go_wp2
      go_roundw
      case rel =>
        refine ⟨k + 1, l.set k (l[k] + 1), by omega, by go_num, Lib.hid (by rw [List.length_set]; exact hl.out), ?_, ?_⟩
        · rw [u8_succ']; exact oo.store k _
        · exact grown_set gg _
      case measure => simp [intOf]; omega
    · have l8x : x8.length ≤ 6000 := by
        have := congrArg Prod.fst h7.out
        simp only at this; rw [this]; exact Nat.le_trans (read_len _ _ _) (by simp only [Dev.size]; omega)
      have hx1 := grown_cell gg xq1 (fun a ha => by have := (rD a ha).2; omega)
      have hx2 := grown_cell gg xq2 (fun a ha => by have := (rD a ha).2; omega)
      have hx3 := grown_cell gg xq3 (fun a ha => by have := (rD a ha).2; omega)
      have hv0 := grown_cell gg vq0 (fun a ha => by have := (rD a ha).1; omega)
      have hv1 := grown_cell gg vq1 (fun a ha => by have := (rD a ha).1; omega)
      have hv2 := grown_cell gg vq2 (fun a ha => by have := (rD a ha).1; omega)
      have hv3 := grown_cell gg vq3 (fun a ha => by have := (rD a ha).1; omega)
      have hy0 := grown_cell gg yq0 (fun a ha => by have := (rD a ha).2; omega)
      have hy1 := grown_cell gg yq1 (fun a ha => by have := (rD a ha).2; omega)
      have hy2 := grown_cell gg yq2 (fun a ha => by have := (rD a ha).2; omega)
      have hy3 := grown_cell gg yq3 (fun a ha => by have := (rD a ha).2; omega)
      have hu0 := grown_cell gg uq0 (fun a ha => by have := (rD a ha).2; omega)
      have hu1 := grown_cell gg uq1 (fun a ha => by have := (rD a ha).2; omega)
      have hu2 := grown_cell gg uq2 (fun a ha => by have := (rD a ha).2; omega)
      have hu3 := grown_cell gg uq3 (fun a ha => by have := (rD a ha).2; omega)
      have hsr := grown_lo gg b8.out hs (fun a ha => by have := (rD a ha).1; omega)
      have htr := grown_lo gg b8.out ht (fun a ha => by have := (rD a ha).1; omega)
      have p7r := grown_hi gg (RB.ab p7 hb8) (fun a ha => by have := (rD a ha).2; omega)
      have p8r := grown_hi gg p8 (fun a ha => by have := (rD a ha).2; omega)
      have p3r := grown_hi gg (RB.ab p3.rb (w' := w8) (by repeat (first | with_reducible exact Ab.refl _ | with_reducible assumption | with_reducible refine Ab.drew ?_ | with_reducible refine Ab.drewN ?_ _ | with_reducible refine Ab.alloc ?_ _ | with_reducible refine Ab.trans ?_ (by assumption) | with_reducible refine Ab.set ?_ (by first | (simp; done) | omega | (simp; omega)) _))) (fun a ha => by have := (rD a ha).2; simp; omega)
      have p3r' := grown_hi gg (RB.ab p3'.rb (w' := w8) (by repeat (first | with_reducible exact Ab.refl _ | with_reducible assumption | with_reducible refine Ab.drew ?_ | with_reducible refine Ab.drewN ?_ _ | with_reducible refine Ab.alloc ?_ _ | with_reducible refine Ab.trans ?_ (by assumption) | with_reducible refine Ab.set ?_ (by first | (simp; done) | omega | (simp; omega)) _))) (fun a ha => by have := (rD a ha).2; simp; omega)
      have p4r := grown_hi gg (RB.ab p4.rb (w' := w8) (by repeat (first | with_reducible exact Ab.refl _ | with_reducible assumption | with_reducible refine Ab.drew ?_ | with_reducible refine Ab.drewN ?_ _ | with_reducible refine Ab.alloc ?_ _ | with_reducible refine Ab.trans ?_ (by assumption) | with_reducible refine Ab.set ?_ (by first | (simp; done) | omega | (simp; omega)) _))) (fun a ha => by have := (rD a ha).2; simp; omega)
      have p4r' := grown_hi gg (RB.ab p4'.rb (w' := w8) (by repeat (first | with_reducible exact Ab.refl _ | with_reducible assumption | with_reducible refine Ab.drew ?_ | with_reducible refine Ab.drewN ?_ _ | with_reducible refine Ab.alloc ?_ _ | with_reducible refine Ab.trans ?_ (by assumption) | with_reducible refine Ab.set ?_ (by first | (simp; done) | omega | (simp; omega)) _))) (fun a ha => by have := (rD a ha).2; simp; omega)
      have bwr := grown_ab b8.out gg (fun g hg => by
        obtain ⟨a, ha, rfl⟩ := Option.map_eq_some_iff.1 hg
        have := (rD a ha).1; omega)
      go_wp2_with fail
      have HA : Hid (Ab w wr) := Lib.hid bwr
      clear bwr bq0 bq1 bq2 bq3 kq0 kq1 kq2 kq3 mq0 mq1 mq2 mq3 xq0 xq1 xq2 xq3 vq0 vq1 vq2 vq3 yq0 yq1 yq2 yq3 uq0 uq1 uq2 uq3 o1 o2 p3 p3' p4 p4' p7 p8 o8 hb1 hb2 hb3 hb4 hb5 hb6 hb7 hb8 gg oo rD hs ht hlt hk
      go_region_held3 (fun w' => (w'.cell? ⟨w.heap.size, 0, none⟩ = some (.slice A s.length ca) ∧ w'.cell? ⟨w.heap.size, 1, none⟩ = some (.slice B t.length cb) ∧ w'.cell? ⟨w.heap.size, 2, none⟩ = some (.int .i64 cap) ∧ w'.cell? ⟨w.heap.size, 3, none⟩ = some (.bool dn)) ∧
          (w'.cell? ⟨w2.heap.size, 0, none⟩ = some (.slice D s.length cd) ∧ w'.cell? ⟨w2.heap.size, 1, none⟩ = some (.slice E t.length ce) ∧ w'.cell? ⟨w2.heap.size, 2, none⟩ = some (.int .i64 cap) ∧ w'.cell? ⟨w2.heap.size, 3, none⟩ = some (.bool dn)) ∧
          (w'.cell? ⟨w3.heap.size, 0, none⟩ = some (.slice A3 r4.s.length c3) ∧ w'.cell? ⟨w3.heap.size, 1, none⟩ = some (.slice B3 r4.t.length d3) ∧ w'.cell? ⟨w3.heap.size, 2, none⟩ = some (.int .i64 r4.cap) ∧ w'.cell? ⟨w3.heap.size, 3, none⟩ = some (.bool r4.down)) ∧
          (w'.cell? ⟨w4.heap.size, 0, none⟩ = some (.slice A4 r4.s.length c4) ∧ w'.cell? ⟨w4.heap.size, 1, none⟩ = some (.slice B4 r4.t.length d4) ∧ w'.cell? ⟨w4.heap.size, 2, none⟩ = some (.int .i64 r4.cap) ∧ w'.cell? ⟨w4.heap.size, 3, none⟩ = some (.bool r4.down)))
        ((refine ⟨⟨?_, ?_, ?_, ?_⟩, ⟨?_, ?_, ?_, ?_⟩, ⟨?_, ?_, ?_, ?_⟩, ⟨?_, ?_, ?_, ?_⟩⟩ <;> (repeat (first | with_reducible assumption | (simp [go_sem]; done) | with_reducible apply cell_alloc | with_reducible apply cell_drew | with_reducible apply cell_drewN | (with_reducible apply Ab.at; with_reducible assumption) | (with_reducible refine cell_set ?_ ?_; rotate_left; focus (first | (simp; done) | (simp; omega))) | (with_reducible refine cell_setb ?_ ?_; rotate_left; focus (first | omega | (simp only; omega) | (simp; omega)))))))
        ((first
          | (go_at_call 10
             refine (check_any D E cd ce s t cap dn _ (by omega) (by omega)).mono ?_
             rintro e wa ⟨q1, hq1, rfl, ha⟩)
          | (go_at_call 29
             refine (refCheck_any A B ca cb s t cap dn _ (by omega) (by omega)).mono ?_
             rintro e wb ⟨q2, hq2, rfl, hbb⟩
             obtain rfl : q2 = q1 := hq2.out.trans hq1.out.symm)
          | (go_at_call 30
             refine (same_true A3 B3 A4 B4 c3 d3 c4 d4 r4.s r4.t r4.cap r4.down _ (RB.ab p3r.zero (by repeat (first | with_reducible exact Ab.refl _ | with_reducible assumption | with_reducible refine Ab.drew ?_ | with_reducible refine Ab.drewN ?_ _ | with_reducible refine Ab.alloc ?_ _ | with_reducible refine Ab.trans ?_ (by assumption) | with_reducible refine Ab.set ?_ (by first | (simp; done) | omega | (simp; omega)) _))) (RB.ab p3r'.zero (by repeat (first | with_reducible exact Ab.refl _ | with_reducible assumption | with_reducible refine Ab.drew ?_ | with_reducible refine Ab.drewN ?_ _ | with_reducible refine Ab.alloc ?_ _ | with_reducible refine Ab.trans ?_ (by assumption) | with_reducible refine Ab.set ?_ (by first | (simp; done) | omega | (simp; omega)) _))) (RB.ab p4r.zero (by repeat (first | with_reducible exact Ab.refl _ | with_reducible assumption | with_reducible refine Ab.drew ?_ | with_reducible refine Ab.drewN ?_ _ | with_reducible refine Ab.alloc ?_ _ | with_reducible refine Ab.trans ?_ (by assumption) | with_reducible refine Ab.set ?_ (by first | (simp; done) | omega | (simp; omega)) _))) (RB.ab p4r'.zero (by repeat (first | with_reducible exact Ab.refl _ | with_reducible assumption | with_reducible refine Ab.drew ?_ | with_reducible refine Ab.drewN ?_ _ | with_reducible refine Ab.alloc ?_ _ | with_reducible refine Ab.trans ?_ (by assumption) | with_reducible refine Ab.set ?_ (by first | (simp; done) | omega | (simp; omega)) _))) lr1 lr2).mono ?_
             rintro e wc ⟨rfl, hc⟩)
          | (go_at_call 31
             refine (sameBytes_refl A7 A8 c7 c8 x8 _ (RB.ab p7r.zero (by repeat (first | with_reducible exact Ab.refl _ | with_reducible assumption | with_reducible refine Ab.drew ?_ | with_reducible refine Ab.drewN ?_ _ | with_reducible refine Ab.alloc ?_ _ | with_reducible refine Ab.trans ?_ (by assumption) | with_reducible refine Ab.set ?_ (by first | (simp; done) | omega | (simp; omega)) _))) (RB.ab p8r.zero (by repeat (first | with_reducible exact Ab.refl _ | with_reducible assumption | with_reducible refine Ab.drew ?_ | with_reducible refine Ab.drewN ?_ _ | with_reducible refine Ab.alloc ?_ _ | with_reducible refine Ab.trans ?_ (by assumption) | with_reducible refine Ab.set ?_ (by first | (simp; done) | omega | (simp; omega)) _))) (by omega)).mono ?_
             rintro e wd ⟨rfl, nn, rfl⟩)))
      go_wp2
      go_ret
      exact ⟨rfl, HA.out.trans (by repeat (first | with_reducible exact Ab.refl _ | with_reducible assumption | with_reducible refine Ab.drew ?_ | with_reducible refine Ab.drewN ?_ _ | with_reducible refine Ab.alloc ?_ _ | with_reducible refine Ab.trans ?_ (by assumption) | with_reducible refine Ab.set ?_ (by first | (simp; done) | omega | (simp; omega)) _))⟩
end Go.Proofs.Ytojhdecgipjkeaa
