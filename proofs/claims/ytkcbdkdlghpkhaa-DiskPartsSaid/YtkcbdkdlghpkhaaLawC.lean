import Derived.Test.YtkcbdkdlghpkhaaLawA
import Derived.Test.YtkcbdkdlghpkhaaOpE
set_option linter.unusedVariables false
set_option linter.unusedSimpArgs false
namespace Go.Proofs.Ytkcbdkdlghpkhaa
open Go.RowKit Disk

theorem long_no {xs : List OpM} (h : long xs = false) : (∀ o ∈ xs, o.b.length ≤ 3000) ∧ xs.length ≤ 300 := by
  unfold long at h
  rw [Bool.or_eq_false_iff, Bool.or_eq_false_iff, List.any_eq_false] at h
  obtain ⟨⟨h1, h2⟩, h3⟩ := h
  refine ⟨fun o ho => ?_, ?_⟩
  · have := h1 o ho; simp at this; omega
  · simp at h3; omega

theorem run_len (d : Dev) (l : List Disk.Op) : (Disk.run d l).1.s.length ≤ 20000 ∧ (Disk.run d l).1.t.length ≤ 20000 := by
  unfold Disk.run
  split
  · simp [Disk.zero]
  · rename_i hb
    split
    · simp [Disk.zero]
    · exact ok_len (steps_valid 0 l hb)

set_option maxHeartbeats 3200000 in
theorem runs_walk (A B : Option Addr) (ca cb : Nat) (s t : List UInt8) (cap : Int) (dn : Bool) (w : World) (hs : RB w 0 A s) (ht : RB w 0 B t) (hca : s.length ≤ ca) (hcb : t.length ≤ cb) (ls : s.length ≤ 9223372036854775807) (lt : t.length ≤ 9223372036854775807) (C : Option Addr) (n c : Nat) (xs : List OpM) (hx : Ops w C n xs) (hn : n ≤ 9223372036854775807) :
    Calls Try.prog 6 #[.agg #[.slice A s.length ca, .slice B t.length cb, .int .i64 cap, .bool dn], .slice C n c] w fun e w' => e = .returned (.bool true) ∧ Ab w w' := by
  by_cases hg : 3000 < s.length ∨ 3000 < t.length
  · have HG := Lib.hid hg; clear hg
    go_enter Try.func6, Try.ntmps6
    go_wp2_with fail
    refine (great_yes A B ca cb s t cap dn _ HG.out).mono ?_
    rintro e w1 ⟨rfl, hb1⟩
    go_wp2
    go_ret
    exact ⟨rfl, (by repeat (first | with_reducible exact Ab.refl _ | with_reducible assumption | with_reducible refine Ab.drew ?_ | with_reducible refine Ab.drewN ?_ _ | with_reducible refine Ab.alloc ?_ _ | with_reducible refine Ab.trans ?_ (by assumption) | with_reducible refine Ab.set ?_ (by first | (simp; done) | omega | (simp; omega)) _))⟩
  have ls : s.length ≤ 3000 := by omega
  have lt : t.length ≤ 3000 := by omega
  clear hg
  cases hlong : long xs with
  | true =>
    have HL := Lib.hid hlong; clear hlong
    go_enter Try.func6, Try.ntmps6
    go_wp2_with fail
    refine (great_no A B ca cb s t cap dn _ ls lt).mono ?_
    rintro e w1 ⟨rfl, hb1⟩
    go_wp2_with fail
    refine (long_any C n c xs _ (hx.ab (by repeat (first | with_reducible exact Ab.refl _ | with_reducible assumption | with_reducible refine Ab.drew ?_ | with_reducible refine Ab.drewN ?_ _ | with_reducible refine Ab.alloc ?_ _ | with_reducible refine Ab.trans ?_ (by assumption) | with_reducible refine Ab.set ?_ (by first | (simp; done) | omega | (simp; omega)) _))) hn).mono ?_
    rintro e w2 ⟨rfl, hb2⟩
    rw [HL.out]
    go_wp2
    go_ret
    exact ⟨rfl, (by repeat (first | with_reducible exact Ab.refl _ | with_reducible assumption | with_reducible refine Ab.drew ?_ | with_reducible refine Ab.drewN ?_ _ | with_reducible refine Ab.alloc ?_ _ | with_reducible refine Ab.trans ?_ (by assumption) | with_reducible refine Ab.set ?_ (by first | (simp; done) | omega | (simp; omega)) _))⟩
  | false =>
    obtain ⟨hd, hn3⟩ := long_no hlong
    have hn4 : n ≤ 300 := by rw [← hx.1]; exact hn3
    have HL := Lib.hid hlong; clear hlong hn3
    go_enter Try.func6, Try.ntmps6
    go_wp2_with fail
    refine (great_no A B ca cb s t cap dn _ ls lt).mono ?_
    rintro e w1 ⟨rfl, hb1⟩
    go_wp2_with fail
    refine (long_any C n c xs _ (hx.ab (by repeat (first | with_reducible exact Ab.refl _ | with_reducible assumption | with_reducible refine Ab.drew ?_ | with_reducible refine Ab.drewN ?_ _ | with_reducible refine Ab.alloc ?_ _ | with_reducible refine Ab.trans ?_ (by assumption) | with_reducible refine Ab.set ?_ (by first | (simp; done) | omega | (simp; omega)) _))) hn).mono ?_
    rintro e w2 ⟨rfl, hb2⟩
    rw [HL.out]
    have hb12 : Ab (w.alloc (.cells #[.slice A s.length ca, .slice B t.length cb, .int .i64 cap, .bool dn] 26)) w2 := (by repeat (first | with_reducible exact Ab.refl _ | with_reducible assumption | with_reducible refine Ab.drew ?_ | with_reducible refine Ab.drewN ?_ _ | with_reducible refine Ab.alloc ?_ _ | with_reducible refine Ab.trans ?_ (by assumption) | with_reducible refine Ab.set ?_ (by first | (simp; done) | omega | (simp; omega)) _))
    have bq0 := hb12.at (p := ⟨w.heap.size, 0, none⟩) (v := .slice A s.length ca) (by (repeat (first | with_reducible assumption | (simp [go_sem]; done) | with_reducible apply cell_alloc | with_reducible apply cell_drew | with_reducible apply cell_drewN | (with_reducible apply Ab.at; with_reducible assumption) | (with_reducible refine cell_set ?_ ?_; rotate_left; focus (first | (simp; done) | (simp; omega))) | (with_reducible refine cell_setb ?_ ?_; rotate_left; focus (first | omega | (simp only; omega) | (simp; omega)))))); have bq1 := hb12.at (p := ⟨w.heap.size, 1, none⟩) (v := .slice B t.length cb) (by (repeat (first | with_reducible assumption | (simp [go_sem]; done) | with_reducible apply cell_alloc | with_reducible apply cell_drew | with_reducible apply cell_drewN | (with_reducible apply Ab.at; with_reducible assumption) | (with_reducible refine cell_set ?_ ?_; rotate_left; focus (first | (simp; done) | (simp; omega))) | (with_reducible refine cell_setb ?_ ?_; rotate_left; focus (first | omega | (simp only; omega) | (simp; omega)))))); have bq2 := hb12.at (p := ⟨w.heap.size, 2, none⟩) (v := .int .i64 cap) (by (repeat (first | with_reducible assumption | (simp [go_sem]; done) | with_reducible apply cell_alloc | with_reducible apply cell_drew | with_reducible apply cell_drewN | (with_reducible apply Ab.at; with_reducible assumption) | (with_reducible refine cell_set ?_ ?_; rotate_left; focus (first | (simp; done) | (simp; omega))) | (with_reducible refine cell_setb ?_ ?_; rotate_left; focus (first | omega | (simp only; omega) | (simp; omega)))))); have bq3 := hb12.at (p := ⟨w.heap.size, 3, none⟩) (v := .bool dn) (by (repeat (first | with_reducible assumption | (simp [go_sem]; done) | with_reducible apply cell_alloc | with_reducible apply cell_drew | with_reducible apply cell_drewN | (with_reducible apply Ab.at; with_reducible assumption) | (with_reducible refine cell_set ?_ ?_; rotate_left; focus (first | (simp; done) | (simp; omega))) | (with_reducible refine cell_setb ?_ ?_; rotate_left; focus (first | omega | (simp only; omega) | (simp; omega))))))
    go_wp2_with fail
    refine (twin_any A B ca cb s t cap dn _ (RB.ab hs (by repeat (first | with_reducible exact Ab.refl _ | with_reducible assumption | with_reducible refine Ab.drew ?_ | with_reducible refine Ab.drewN ?_ _ | with_reducible refine Ab.alloc ?_ _ | with_reducible refine Ab.trans ?_ (by assumption) | with_reducible refine Ab.set ?_ (by first | (simp; done) | omega | (simp; omega)) _))) (RB.ab ht (by repeat (first | with_reducible exact Ab.refl _ | with_reducible assumption | with_reducible refine Ab.drew ?_ | with_reducible refine Ab.drewN ?_ _ | with_reducible refine Ab.alloc ?_ _ | with_reducible refine Ab.trans ?_ (by assumption) | with_reducible refine Ab.set ?_ (by first | (simp; done) | omega | (simp; omega)) _))) hca hcb (by omega) (by omega)).mono ?_
    rintro e w3 ⟨r, D, E, cd, ce, er, rfl, o1, o2, hb3⟩
    obtain rfl : r = ⟨s, t, cap, dn⟩ := er.out
    clear er
    simp only at o1 o2
    simp only
    go_wp2_with fail
    refine (run_any D E cd ce s t cap dn _ (RB.ab o1.rb.zero (by repeat (first | with_reducible exact Ab.refl _ | with_reducible assumption | with_reducible refine Ab.drew ?_ | with_reducible refine Ab.drewN ?_ _ | with_reducible refine Ab.alloc ?_ _ | with_reducible refine Ab.trans ?_ (by assumption) | with_reducible refine Ab.set ?_ (by first | (simp; done) | omega | (simp; omega)) _))) (RB.ab o2.rb.zero (by repeat (first | with_reducible exact Ab.refl _ | with_reducible assumption | with_reducible refine Ab.drew ?_ | with_reducible refine Ab.drewN ?_ _ | with_reducible refine Ab.alloc ?_ _ | with_reducible refine Ab.trans ?_ (by assumption) | with_reducible refine Ab.set ?_ (by first | (simp; done) | omega | (simp; omega)) _))) o1.le o2.le (by omega) (by omega) C n c xs (hx.ab (by repeat (first | with_reducible exact Ab.refl _ | with_reducible assumption | with_reducible refine Ab.drew ?_ | with_reducible refine Ab.drewN ?_ _ | with_reducible refine Ab.alloc ?_ _ | with_reducible refine Ab.trans ?_ (by assumption) | with_reducible refine Ab.set ?_ (by first | (simp; done) | omega | (simp; omega)) _))) (by omega) hd).mono ?_
    rintro e w4 ⟨r4, n4, f4, A4, B4, c4, d4, h4, rfl, p4, q4, hb4⟩
    have k4q0 : w4.cell? ⟨w.heap.size, 0, none⟩ = some (.slice A s.length ca) := by (repeat (first | with_reducible assumption | (simp [go_sem]; done) | with_reducible apply cell_alloc | with_reducible apply cell_drew | with_reducible apply cell_drewN | (with_reducible apply Ab.at; with_reducible assumption) | (with_reducible refine cell_set ?_ ?_; rotate_left; focus (first | (simp; done) | (simp; omega))) | (with_reducible refine cell_setb ?_ ?_; rotate_left; focus (first | omega | (simp only; omega) | (simp; omega)))))
    have k4q1 : w4.cell? ⟨w.heap.size, 1, none⟩ = some (.slice B t.length cb) := by (repeat (first | with_reducible assumption | (simp [go_sem]; done) | with_reducible apply cell_alloc | with_reducible apply cell_drew | with_reducible apply cell_drewN | (with_reducible apply Ab.at; with_reducible assumption) | (with_reducible refine cell_set ?_ ?_; rotate_left; focus (first | (simp; done) | (simp; omega))) | (with_reducible refine cell_setb ?_ ?_; rotate_left; focus (first | omega | (simp only; omega) | (simp; omega)))))
    have k4q2 : w4.cell? ⟨w.heap.size, 2, none⟩ = some (.int .i64 cap) := by (repeat (first | with_reducible assumption | (simp [go_sem]; done) | with_reducible apply cell_alloc | with_reducible apply cell_drew | with_reducible apply cell_drewN | (with_reducible apply Ab.at; with_reducible assumption) | (with_reducible refine cell_set ?_ ?_; rotate_left; focus (first | (simp; done) | (simp; omega))) | (with_reducible refine cell_setb ?_ ?_; rotate_left; focus (first | omega | (simp only; omega) | (simp; omega)))))
    have k4q3 : w4.cell? ⟨w.heap.size, 3, none⟩ = some (.bool dn) := by (repeat (first | with_reducible assumption | (simp [go_sem]; done) | with_reducible apply cell_alloc | with_reducible apply cell_drew | with_reducible apply cell_drewN | (with_reducible apply Ab.at; with_reducible assumption) | (with_reducible refine cell_set ?_ ?_; rotate_left; focus (first | (simp; done) | (simp; omega))) | (with_reducible refine cell_setb ?_ ?_; rotate_left; focus (first | omega | (simp only; omega) | (simp; omega)))))
    have k4z : w.heap.size < w4.heap.size := cell_lt k4q0
    go_wp2_with fail
    refine (refRun_any A B ca cb s t cap dn _ (RB.ab hs (by repeat (first | with_reducible exact Ab.refl _ | with_reducible assumption | with_reducible refine Ab.drew ?_ | with_reducible refine Ab.drewN ?_ _ | with_reducible refine Ab.alloc ?_ _ | with_reducible refine Ab.trans ?_ (by assumption) | with_reducible refine Ab.set ?_ (by first | (simp; done) | omega | (simp; omega)) _))) (RB.ab ht (by repeat (first | with_reducible exact Ab.refl _ | with_reducible assumption | with_reducible refine Ab.drew ?_ | with_reducible refine Ab.drewN ?_ _ | with_reducible refine Ab.alloc ?_ _ | with_reducible refine Ab.trans ?_ (by assumption) | with_reducible refine Ab.set ?_ (by first | (simp; done) | omega | (simp; omega)) _))) hca hcb (by omega) (by omega) C n c xs (hx.ab (by repeat (first | with_reducible exact Ab.refl _ | with_reducible assumption | with_reducible refine Ab.drew ?_ | with_reducible refine Ab.drewN ?_ _ | with_reducible refine Ab.alloc ?_ _ | with_reducible refine Ab.trans ?_ (by assumption) | with_reducible refine Ab.set ?_ (by first | (simp; done) | omega | (simp; omega)) _))) (by omega) hd).mono ?_
    rintro e w5 ⟨r5, n5, f5, A5, B5, c5, d5, h5, rfl, p5, q5, hb5⟩
    obtain ⟨rfl, hnf⟩ : r5 = r4 ∧ (n5, f5) = (n4, f4) := Prod.mk.inj (h5.out.trans h4.out.symm)
    obtain ⟨rfl, rfl⟩ := Prod.mk.inj hnf
    clear hnf
    obtain ⟨lr1, lr2⟩ : r5.s.length ≤ 20000 ∧ r5.t.length ≤ 20000 := by
      have := congrArg Prod.fst h4.out
      simp only at this; rw [this]; exact run_len _ _
    clear h4 h5
    have rE := o2.rng
    have zz1 := hb12.size; simp at zz1
    have zz3 := hb3.size; try simp at zz3
    have zz4 := hb4.size; try simp at zz4
    have zz5 := hb5.size; try simp at zz5
    have xq0 : w5.cell? ⟨w3.heap.size, 0, none⟩ = some (.slice D s.length cd) := by (repeat (first | with_reducible assumption | (simp [go_sem]; done) | with_reducible apply cell_alloc | with_reducible apply cell_drew | with_reducible apply cell_drewN | (with_reducible apply Ab.at; with_reducible assumption) | (with_reducible refine cell_set ?_ ?_; rotate_left; focus (first | (simp; done) | (simp; omega))) | (with_reducible refine cell_setb ?_ ?_; rotate_left; focus (first | omega | (simp only; omega) | (simp; omega)))))
    have xq1 : w5.cell? ⟨w3.heap.size, 1, none⟩ = some (.slice E t.length ce) := by (repeat (first | with_reducible assumption | (simp [go_sem]; done) | with_reducible apply cell_alloc | with_reducible apply cell_drew | with_reducible apply cell_drewN | (with_reducible apply Ab.at; with_reducible assumption) | (with_reducible refine cell_set ?_ ?_; rotate_left; focus (first | (simp; done) | (simp; omega))) | (with_reducible refine cell_setb ?_ ?_; rotate_left; focus (first | omega | (simp only; omega) | (simp; omega)))))
    have xq2 : w5.cell? ⟨w3.heap.size, 2, none⟩ = some (.int .i64 cap) := by (repeat (first | with_reducible assumption | (simp [go_sem]; done) | with_reducible apply cell_alloc | with_reducible apply cell_drew | with_reducible apply cell_drewN | (with_reducible apply Ab.at; with_reducible assumption) | (with_reducible refine cell_set ?_ ?_; rotate_left; focus (first | (simp; done) | (simp; omega))) | (with_reducible refine cell_setb ?_ ?_; rotate_left; focus (first | omega | (simp only; omega) | (simp; omega)))))
    have xq3 : w5.cell? ⟨w3.heap.size, 3, none⟩ = some (.bool dn) := by (repeat (first | with_reducible assumption | (simp [go_sem]; done) | with_reducible apply cell_alloc | with_reducible apply cell_drew | with_reducible apply cell_drewN | (with_reducible apply Ab.at; with_reducible assumption) | (with_reducible refine cell_set ?_ ?_; rotate_left; focus (first | (simp; done) | (simp; omega))) | (with_reducible refine cell_setb ?_ ?_; rotate_left; focus (first | omega | (simp only; omega) | (simp; omega)))))
    have xz : w3.heap.size < w5.heap.size := cell_lt xq0
    have yq0 : w5.cell? ⟨w4.heap.size, 0, none⟩ = some (.slice A4 r5.s.length c4) := by (repeat (first | with_reducible assumption | (simp [go_sem]; done) | with_reducible apply cell_alloc | with_reducible apply cell_drew | with_reducible apply cell_drewN | (with_reducible apply Ab.at; with_reducible assumption) | (with_reducible refine cell_set ?_ ?_; rotate_left; focus (first | (simp; done) | (simp; omega))) | (with_reducible refine cell_setb ?_ ?_; rotate_left; focus (first | omega | (simp only; omega) | (simp; omega)))))
    have yq1 : w5.cell? ⟨w4.heap.size, 1, none⟩ = some (.slice B4 r5.t.length d4) := by (repeat (first | with_reducible assumption | (simp [go_sem]; done) | with_reducible apply cell_alloc | with_reducible apply cell_drew | with_reducible apply cell_drewN | (with_reducible apply Ab.at; with_reducible assumption) | (with_reducible refine cell_set ?_ ?_; rotate_left; focus (first | (simp; done) | (simp; omega))) | (with_reducible refine cell_setb ?_ ?_; rotate_left; focus (first | omega | (simp only; omega) | (simp; omega)))))
    have yq2 : w5.cell? ⟨w4.heap.size, 2, none⟩ = some (.int .i64 r5.cap) := by (repeat (first | with_reducible assumption | (simp [go_sem]; done) | with_reducible apply cell_alloc | with_reducible apply cell_drew | with_reducible apply cell_drewN | (with_reducible apply Ab.at; with_reducible assumption) | (with_reducible refine cell_set ?_ ?_; rotate_left; focus (first | (simp; done) | (simp; omega))) | (with_reducible refine cell_setb ?_ ?_; rotate_left; focus (first | omega | (simp only; omega) | (simp; omega)))))
    have yq3 : w5.cell? ⟨w4.heap.size, 3, none⟩ = some (.bool r5.down) := by (repeat (first | with_reducible assumption | (simp [go_sem]; done) | with_reducible apply cell_alloc | with_reducible apply cell_drew | with_reducible apply cell_drewN | (with_reducible apply Ab.at; with_reducible assumption) | (with_reducible refine cell_set ?_ ?_; rotate_left; focus (first | (simp; done) | (simp; omega))) | (with_reducible refine cell_setb ?_ ?_; rotate_left; focus (first | omega | (simp only; omega) | (simp; omega)))))
    have yz : w4.heap.size < w5.heap.size := cell_lt yq0
    have o5 : OR 5 w2.heap.size w5 E ce t := o2.keep (by repeat (first | with_reducible exact Ab.refl _ | with_reducible assumption | with_reducible refine Ab.drew ?_ | with_reducible refine Ab.drewN ?_ _ | with_reducible refine Ab.alloc ?_ _ | with_reducible refine Ab.trans ?_ (by assumption) | with_reducible refine Ab.set ?_ (by first | (simp; done) | omega | (simp; omega)) _))
    have b5 : Hid (Ab w w5) := Lib.hid (by repeat (first | with_reducible exact Ab.refl _ | with_reducible assumption | with_reducible refine Ab.drew ?_ | with_reducible refine Ab.drewN ?_ _ | with_reducible refine Ab.alloc ?_ _ | with_reducible refine Ab.trans ?_ (by assumption) | with_reducible refine Ab.set ?_ (by first | (simp; done) | omega | (simp; omega)) _))
    have p4' : RB w5 (w3.heap.size + 1) A4 r5.s := RB.ab (RB.mono p4.rb (by simp)) (by repeat (first | with_reducible exact Ab.refl _ | with_reducible assumption | with_reducible refine Ab.drew ?_ | with_reducible refine Ab.drewN ?_ _ | with_reducible refine Ab.alloc ?_ _ | with_reducible refine Ab.trans ?_ (by assumption) | with_reducible refine Ab.set ?_ (by first | (simp; done) | omega | (simp; omega)) _))
    have q4' : RB w5 (w3.heap.size + 1) B4 r5.t := RB.ab (RB.mono q4.rb (by simp)) (by repeat (first | with_reducible exact Ab.refl _ | with_reducible assumption | with_reducible refine Ab.drew ?_ | with_reducible refine Ab.drewN ?_ _ | with_reducible refine Ab.alloc ?_ _ | with_reducible refine Ab.trans ?_ (by assumption) | with_reducible refine Ab.set ?_ (by first | (simp; done) | omega | (simp; omega)) _))
    have p5' : RB w5 (w3.heap.size + 1) A5 r5.s := RB.mono p5.rb (by simp; omega)
    have q5' : RB w5 (w3.heap.size + 1) B5 r5.t := RB.mono q5.rb (by simp; omega)
    go_wp2_with fail
    generalize hw9 : w5.alloc (.cells #[.slice A5 r5.s.length c5, .slice B5 r5.t.length d5, .int .i64 r5.cap, .bool r5.down] 26) = w9
    have hb9 : Ab w5 w9 := by rw [← hw9]; exact (Ab.refl _).alloc _
    have u0 : w9.cell? ⟨w5.heap.size, 0, none⟩ = some (.slice A5 r5.s.length c5) := by rw [← hw9]; simp [go_sem]
    have u1 : w9.cell? ⟨w5.heap.size, 1, none⟩ = some (.slice B5 r5.t.length d5) := by rw [← hw9]; simp [go_sem]
    have u2 : w9.cell? ⟨w5.heap.size, 2, none⟩ = some (.int .i64 r5.cap) := by rw [← hw9]; simp [go_sem]
    have u3 : w9.cell? ⟨w5.heap.size, 3, none⟩ = some (.bool r5.down) := by rw [← hw9]; simp [go_sem]
    clear hw9
    have x0 := hb9.at xq0; have x1 := hb9.at xq1; have x2 := hb9.at xq2; have x3 := hb9.at xq3
    have y0 := hb9.at yq0; have y1 := hb9.at yq1; have y2 := hb9.at yq2; have y3 := hb9.at yq3
    have o9 := o5.keep hb9
    replace p4' := p4'.ab hb9; replace q4' := q4'.ab hb9; replace p5' := p5'.ab hb9; replace q5' := q5'.ab hb9
    have b9 : Hid (Ab w w9) := Lib.hid (b5.out.trans hb9)
    clear xq0 xq1 xq2 xq3 yq0 yq1 yq2 yq3 k4q0 k4q1 k4q2 k4q3 bq0 bq1 bq2 bq3 hb1 hb2 hb3 hb4 hb5 hb12 b5 o5 o1 o2 p4 q4 p5 q5 hs ht hx
    go_loopw [12] (fun i wr => InPlace 5 E ce t.length w2.heap.size w9 i wr) (fun i _ => t.length - (intOf i).toNat)
    case atStart => exact ⟨0, t, Nat.zero_le _, rfl, Lib.hid rfl, o9, World.grownBy.refl _ _⟩
    case round =>
      obtain ⟨k, l, hk, rfl, hl, oo, gg⟩ := hrel
      have hx1 := grown_cell gg x1 (fun a ha => by have := (rE a ha).2; omega)
      by_cases hlt : k < t.length
      · obtain ⟨g, rfl, hg1, hg2⟩ := oo.at_ (by rw [hl.out]; omega)
        have hkl : k < l.length := by rw [hl.out]; exact hlt
        have hc := oo.cellAt hkl
        have hf := oo.unfrozen k
        have hu8 := u8_succ l[k]
        have HU8 := Lib.hid hu8; clear hu8
        go_wp2
        go_roundw
        case rel =>
          refine ⟨k + 1, l.set k (l[k] + 1), by omega, by go_num, Lib.hid (by rw [List.length_set]; exact hl.out), ?_, ?_⟩
          · rw [u8_succ']; exact oo.store k _
          · exact grown_set gg _
        case measure => simp [intOf]; omega
      · have hy0 := grown_cell gg y0 (fun a ha => by have := (rE a ha).2; omega)
        have hy1 := grown_cell gg y1 (fun a ha => by have := (rE a ha).2; omega)
        have hy2 := grown_cell gg y2 (fun a ha => by have := (rE a ha).2; omega)
        have hy3 := grown_cell gg y3 (fun a ha => by have := (rE a ha).2; omega)
        have hu0 := grown_cell gg u0 (fun a ha => by have := (rE a ha).2; omega)
        have hu1 := grown_cell gg u1 (fun a ha => by have := (rE a ha).2; omega)
        have hu2 := grown_cell gg u2 (fun a ha => by have := (rE a ha).2; omega)
        have hu3 := grown_cell gg u3 (fun a ha => by have := (rE a ha).2; omega)
        have p4r := grown_hi gg p4' (fun a ha => by have := (rE a ha).2; omega)
        have q4r := grown_hi gg q4' (fun a ha => by have := (rE a ha).2; omega)
        have p5r := grown_hi gg p5' (fun a ha => by have := (rE a ha).2; omega)
        have q5r := grown_hi gg q5' (fun a ha => by have := (rE a ha).2; omega)
        have bwr := grown_ab b9.out gg (fun g hg => by
          obtain ⟨a, ha, rfl⟩ := Option.map_eq_some_iff.1 hg
          have := (rE a ha).1; omega)
        have HA : Hid (Ab w wr) := Lib.hid bwr
        go_wp2_with fail
        clear bwr b9 x0 x1 x2 x3 y0 y1 y2 y3 u0 u1 u2 u3 gg oo rE hb9 o9 p4' q4' p5' q5' hlt hk
        refine (same_true A4 B4 A5 B5 c4 d4 c5 d5 r5.s r5.t r5.cap r5.down _ (RB.ab p4r.zero (by repeat (first | with_reducible exact Ab.refl _ | with_reducible assumption | with_reducible refine Ab.drew ?_ | with_reducible refine Ab.drewN ?_ _ | with_reducible refine Ab.alloc ?_ _ | with_reducible refine Ab.trans ?_ (by assumption) | with_reducible refine Ab.set ?_ (by first | (simp; done) | omega | (simp; omega)) _))) (RB.ab q4r.zero (by repeat (first | with_reducible exact Ab.refl _ | with_reducible assumption | with_reducible refine Ab.drew ?_ | with_reducible refine Ab.drewN ?_ _ | with_reducible refine Ab.alloc ?_ _ | with_reducible refine Ab.trans ?_ (by assumption) | with_reducible refine Ab.set ?_ (by first | (simp; done) | omega | (simp; omega)) _))) (RB.ab p5r.zero (by repeat (first | with_reducible exact Ab.refl _ | with_reducible assumption | with_reducible refine Ab.drew ?_ | with_reducible refine Ab.drewN ?_ _ | with_reducible refine Ab.alloc ?_ _ | with_reducible refine Ab.trans ?_ (by assumption) | with_reducible refine Ab.set ?_ (by first | (simp; done) | omega | (simp; omega)) _))) (RB.ab q5r.zero (by repeat (first | with_reducible exact Ab.refl _ | with_reducible assumption | with_reducible refine Ab.drew ?_ | with_reducible refine Ab.drewN ?_ _ | with_reducible refine Ab.alloc ?_ _ | with_reducible refine Ab.trans ?_ (by assumption) | with_reducible refine Ab.set ?_ (by first | (simp; done) | omega | (simp; omega)) _))) (by omega) (by omega)).mono ?_
        rintro e w10 ⟨rfl, hb10⟩
        go_wp2
        go_ret
        exact ⟨rfl, HA.out.trans (by repeat (first | with_reducible exact Ab.refl _ | with_reducible assumption | with_reducible refine Ab.drew ?_ | with_reducible refine Ab.drewN ?_ _ | with_reducible refine Ab.alloc ?_ _ | with_reducible refine Ab.trans ?_ (by assumption) | with_reducible refine Ab.set ?_ (by first | (simp; done) | omega | (simp; omega)) _))⟩
end Go.Proofs.Ytkcbdkdlghpkhaa
