import Derived.Test.YtojhdecgipjkeaaRefF
import Derived.Test.YtojhdecgipjkeaaAliveA
import Derived.Test.YtojhdecgipjkeaaLawA
set_option linter.unusedVariables false
set_option linter.unusedSimpArgs false
namespace Go.Proofs.Ytojhdecgipjkeaa
open Go.RowKit Disk

theorem fit_yes (A B : Option Addr) (ca cb : Nat) (s t : List UInt8) (cap : Int) (dn : Bool) (w : World) (ls : s.length ≤ 3000) (lt : t.length ≤ 3000) (hu : up ⟨s, t, cap, dn⟩ = 0) :
    Calls Try.prog 40 #[.agg #[.slice A s.length ca, .slice B t.length cb, .int .i64 cap, .bool dn]] w (RetBool w true) := by
  have HU := Lib.hid hu; clear hu
  go_enter Try.func40, Try.ntmps40
  go_wp2_with fail
  refine (great_no A B ca cb s t cap dn _ ls lt).mono ?_
  rintro e w1 ⟨rfl, hb1⟩
  have bq0 := hb1.at (p := ⟨w.heap.size, 0, none⟩) (v := .slice A s.length ca) (by (repeat (first | with_reducible assumption | (simp [go_sem]; done) | with_reducible apply cell_alloc | with_reducible apply cell_drew | with_reducible apply cell_drewN | (with_reducible apply Ab.at; with_reducible assumption) | (with_reducible refine cell_set ?_ ?_; rotate_left; focus (first | (simp; done) | (simp; omega))) | (with_reducible refine cell_setb ?_ ?_; rotate_left; focus (first | omega | (simp only; omega) | (simp; omega)))))); have bq1 := hb1.at (p := ⟨w.heap.size, 1, none⟩) (v := .slice B t.length cb) (by (repeat (first | with_reducible assumption | (simp [go_sem]; done) | with_reducible apply cell_alloc | with_reducible apply cell_drew | with_reducible apply cell_drewN | (with_reducible apply Ab.at; with_reducible assumption) | (with_reducible refine cell_set ?_ ?_; rotate_left; focus (first | (simp; done) | (simp; omega))) | (with_reducible refine cell_setb ?_ ?_; rotate_left; focus (first | omega | (simp only; omega) | (simp; omega)))))); have bq2 := hb1.at (p := ⟨w.heap.size, 2, none⟩) (v := .int .i64 cap) (by (repeat (first | with_reducible assumption | (simp [go_sem]; done) | with_reducible apply cell_alloc | with_reducible apply cell_drew | with_reducible apply cell_drewN | (with_reducible apply Ab.at; with_reducible assumption) | (with_reducible refine cell_set ?_ ?_; rotate_left; focus (first | (simp; done) | (simp; omega))) | (with_reducible refine cell_setb ?_ ?_; rotate_left; focus (first | omega | (simp only; omega) | (simp; omega)))))); have bq3 := hb1.at (p := ⟨w.heap.size, 3, none⟩) (v := .bool dn) (by (repeat (first | with_reducible assumption | (simp [go_sem]; done) | with_reducible apply cell_alloc | with_reducible apply cell_drew | with_reducible apply cell_drewN | (with_reducible apply Ab.at; with_reducible assumption) | (with_reducible refine cell_set ?_ ?_; rotate_left; focus (first | (simp; done) | (simp; omega))) | (with_reducible refine cell_setb ?_ ?_; rotate_left; focus (first | omega | (simp only; omega) | (simp; omega))))))
  go_wp2_with fail
  refine (refUp_any A B ca cb s t cap dn _ (by omega) (by omega)).mono ?_
  rintro e w2 ⟨r, hr, rfl, hb2⟩
  obtain rfl : r = 0 := hr.out.trans HU.out
  go_wp2
  go_ret
  exact ⟨rfl, (by repeat (first | with_reducible exact Ab.refl _ | with_reducible assumption | with_reducible refine Ab.drew ?_ | with_reducible refine Ab.drewN ?_ _ | with_reducible refine Ab.alloc ?_ _ | with_reducible refine Ab.trans ?_ (by assumption) | with_reducible refine Ab.set ?_ (by first | (simp; done) | omega | (simp; omega)) _))⟩
theorem fit_no (A B : Option Addr) (ca cb : Nat) (s t : List UInt8) (cap : Int) (dn : Bool) (w : World) (ls : s.length ≤ 9223372036854775807) (lt : t.length ≤ 9223372036854775807) (h : ¬ (s.length ≤ 3000 ∧ t.length ≤ 3000 ∧ up ⟨s, t, cap, dn⟩ = 0)) :
    Calls Try.prog 40 #[.agg #[.slice A s.length ca, .slice B t.length cb, .int .i64 cap, .bool dn]] w (RetBool w false) := by
  by_cases hg : 3000 < s.length ∨ 3000 < t.length
  · have HG := Lib.hid hg; clear hg; clear h
    go_enter Try.func40, Try.ntmps40
    go_wp2_with fail
    refine (great_yes A B ca cb s t cap dn _ HG.out).mono ?_
    rintro e w1 ⟨rfl, hb1⟩
    go_wp2
    go_ret
    exact ⟨rfl, (by repeat (first | with_reducible exact Ab.refl _ | with_reducible assumption | with_reducible refine Ab.drew ?_ | with_reducible refine Ab.drewN ?_ _ | with_reducible refine Ab.alloc ?_ _ | with_reducible refine Ab.trans ?_ (by assumption) | with_reducible refine Ab.set ?_ (by first | (simp; done) | omega | (simp; omega)) _))⟩
  · have ls : s.length ≤ 3000 := by omega
    have lt : t.length ≤ 3000 := by omega
    have hu : ¬ up ⟨s, t, cap, dn⟩ = 0 := fun h0 => h ⟨ls, lt, h0⟩
    generalize hv : up ⟨s, t, cap, dn⟩ = u at hu
    have HV := Lib.hid hv; clear hv h hg
    have hne : (u == 0) = false := by simpa using hu
    clear hu
    go_enter Try.func40, Try.ntmps40
    go_wp2_with fail
    refine (great_no A B ca cb s t cap dn _ ls lt).mono ?_
    rintro e w1 ⟨rfl, hb1⟩
    have bq0 := hb1.at (p := ⟨w.heap.size, 0, none⟩) (v := .slice A s.length ca) (by (repeat (first | with_reducible assumption | (simp [go_sem]; done) | with_reducible apply cell_alloc | with_reducible apply cell_drew | with_reducible apply cell_drewN | (with_reducible apply Ab.at; with_reducible assumption) | (with_reducible refine cell_set ?_ ?_; rotate_left; focus (first | (simp; done) | (simp; omega))) | (with_reducible refine cell_setb ?_ ?_; rotate_left; focus (first | omega | (simp only; omega) | (simp; omega)))))); have bq1 := hb1.at (p := ⟨w.heap.size, 1, none⟩) (v := .slice B t.length cb) (by (repeat (first | with_reducible assumption | (simp [go_sem]; done) | with_reducible apply cell_alloc | with_reducible apply cell_drew | with_reducible apply cell_drewN | (with_reducible apply Ab.at; with_reducible assumption) | (with_reducible refine cell_set ?_ ?_; rotate_left; focus (first | (simp; done) | (simp; omega))) | (with_reducible refine cell_setb ?_ ?_; rotate_left; focus (first | omega | (simp only; omega) | (simp; omega)))))); have bq2 := hb1.at (p := ⟨w.heap.size, 2, none⟩) (v := .int .i64 cap) (by (repeat (first | with_reducible assumption | (simp [go_sem]; done) | with_reducible apply cell_alloc | with_reducible apply cell_drew | with_reducible apply cell_drewN | (with_reducible apply Ab.at; with_reducible assumption) | (with_reducible refine cell_set ?_ ?_; rotate_left; focus (first | (simp; done) | (simp; omega))) | (with_reducible refine cell_setb ?_ ?_; rotate_left; focus (first | omega | (simp only; omega) | (simp; omega)))))); have bq3 := hb1.at (p := ⟨w.heap.size, 3, none⟩) (v := .bool dn) (by (repeat (first | with_reducible assumption | (simp [go_sem]; done) | with_reducible apply cell_alloc | with_reducible apply cell_drew | with_reducible apply cell_drewN | (with_reducible apply Ab.at; with_reducible assumption) | (with_reducible refine cell_set ?_ ?_; rotate_left; focus (first | (simp; done) | (simp; omega))) | (with_reducible refine cell_setb ?_ ?_; rotate_left; focus (first | omega | (simp only; omega) | (simp; omega))))))
    go_wp2_with fail
    refine (refUp_any A B ca cb s t cap dn _ (by omega) (by omega)).mono ?_
    rintro e w2 ⟨r, hr, rfl, hb2⟩
    obtain rfl : r = u := hr.out.trans HV.out
    go_wp2
    go_ret
    exact ⟨rfl, (by repeat (first | with_reducible exact Ab.refl _ | with_reducible assumption | with_reducible refine Ab.drew ?_ | with_reducible refine Ab.drewN ?_ _ | with_reducible refine Ab.alloc ?_ _ | with_reducible refine Ab.trans ?_ (by assumption) | with_reducible refine Ab.set ?_ (by first | (simp; done) | omega | (simp; omega)) _))⟩

set_option maxRecDepth 100000 in
set_option maxHeartbeats 6400000 in
theorem stays_walk (A B : Option Addr) (ca cb : Nat) (s t : List UInt8) (cap : Int) (dn : Bool) (w : World) (hs : RB w 0 A s) (ht : RB w 0 B t) (hca : s.length ≤ ca) (hcb : t.length ≤ cb) (ls : s.length ≤ 9223372036854775807) (lt : t.length ≤ 9223372036854775807) (C : Option Addr) (cc : Nat) (b : List UInt8) (hbb : RB w 0 C b) (hcc : b.length ≤ cc) (lb : b.length ≤ 9223372036854775807) (n : Int) :
    Calls Try.prog 7 #[.agg #[.slice A s.length ca, .slice B t.length cb, .int .i64 cap, .bool dn], .slice C b.length cc, .int .i64 n] w fun e w' => e = .returned (.bool true) ∧ Ab w w' := by
  by_cases hfit : s.length ≤ 3000 ∧ t.length ≤ 3000 ∧ up ⟨s, t, cap, dn⟩ = 0
  · obtain ⟨ls, lt, hu⟩ := hfit
    obtain ⟨hnb, hdn⟩ := up_zero hu
    obtain rfl : dn = false := hdn
    obtain ⟨v1, v2, v3, _⟩ := not_bad.1 hnb
    have HU := Lib.hid hu; have HN := Lib.hid hnb; clear hu hnb
    by_cases hbl : 3000 < b.length
    · go_enter Try.func7, Try.ntmps7
      go_wp2_with fail
      refine (fit_yes A B ca cb s t cap false _ ls lt HU.out).mono ?_
      rintro e w1 ⟨rfl, hb1⟩
      go_wp2_with fail
      refine (alive_true _).mono ?_
      rintro e w2 ⟨rfl, hb2⟩
      go_wp2
      go_ret
      exact ⟨rfl, (by repeat (first | with_reducible exact Ab.refl _ | with_reducible assumption | with_reducible refine Ab.drew ?_ | with_reducible refine Ab.drewN ?_ _ | with_reducible refine Ab.alloc ?_ _ | with_reducible refine Ab.trans ?_ (by assumption) | with_reducible refine Ab.set ?_ (by first | (simp; done) | omega | (simp; omega)) _))⟩
    have lb : b.length ≤ 3000 := by omega
    by_cases hfull : cap < (s.length : Int) + t.length + b.length
    · have HM := Lib.hid (show append ⟨s, t, cap, false⟩ b = (Disk.zero, 18) by
        unfold append; rw [if_neg (by simpa using HU.out), if_pos (by simp only [Dev.size]; omega)])
      go_enter Try.func7, Try.ntmps7
      go_wp2_with fail
      refine (fit_yes A B ca cb s t cap false _ ls lt HU.out).mono ?_
      rintro e w1 ⟨rfl, hb1⟩
      have bq0 := hb1.at (p := ⟨w.heap.size, 0, none⟩) (v := .slice A s.length ca) (by (repeat (first | with_reducible assumption | (simp [go_sem]; done) | with_reducible apply cell_alloc | with_reducible apply cell_drew | with_reducible apply cell_drewN | (with_reducible apply Ab.at; with_reducible assumption) | (with_reducible refine cell_set ?_ ?_; rotate_left; focus (first | (simp; done) | (simp; omega))) | (with_reducible refine cell_setb ?_ ?_; rotate_left; focus (first | omega | (simp only; omega) | (simp; omega)))))); have bq1 := hb1.at (p := ⟨w.heap.size, 1, none⟩) (v := .slice B t.length cb) (by (repeat (first | with_reducible assumption | (simp [go_sem]; done) | with_reducible apply cell_alloc | with_reducible apply cell_drew | with_reducible apply cell_drewN | (with_reducible apply Ab.at; with_reducible assumption) | (with_reducible refine cell_set ?_ ?_; rotate_left; focus (first | (simp; done) | (simp; omega))) | (with_reducible refine cell_setb ?_ ?_; rotate_left; focus (first | omega | (simp only; omega) | (simp; omega)))))); have bq2 := hb1.at (p := ⟨w.heap.size, 2, none⟩) (v := .int .i64 cap) (by (repeat (first | with_reducible assumption | (simp [go_sem]; done) | with_reducible apply cell_alloc | with_reducible apply cell_drew | with_reducible apply cell_drewN | (with_reducible apply Ab.at; with_reducible assumption) | (with_reducible refine cell_set ?_ ?_; rotate_left; focus (first | (simp; done) | (simp; omega))) | (with_reducible refine cell_setb ?_ ?_; rotate_left; focus (first | omega | (simp only; omega) | (simp; omega)))))); have bq3 := hb1.at (p := ⟨w.heap.size, 3, none⟩) (v := .bool false) (by (repeat (first | with_reducible assumption | (simp [go_sem]; done) | with_reducible apply cell_alloc | with_reducible apply cell_drew | with_reducible apply cell_drewN | (with_reducible apply Ab.at; with_reducible assumption) | (with_reducible refine cell_set ?_ ?_; rotate_left; focus (first | (simp; done) | (simp; omega))) | (with_reducible refine cell_setb ?_ ?_; rotate_left; focus (first | omega | (simp only; omega) | (simp; omega))))))
      go_wp2_with fail
      refine (append_any A B ca cb s t cap false _ (RB.ab hs (by repeat (first | with_reducible exact Ab.refl _ | with_reducible assumption | with_reducible refine Ab.drew ?_ | with_reducible refine Ab.drewN ?_ _ | with_reducible refine Ab.alloc ?_ _ | with_reducible refine Ab.trans ?_ (by assumption) | with_reducible refine Ab.set ?_ (by first | (simp; done) | omega | (simp; omega)) _))) (RB.ab ht (by repeat (first | with_reducible exact Ab.refl _ | with_reducible assumption | with_reducible refine Ab.drew ?_ | with_reducible refine Ab.drewN ?_ _ | with_reducible refine Ab.alloc ?_ _ | with_reducible refine Ab.trans ?_ (by assumption) | with_reducible refine Ab.set ?_ (by first | (simp; done) | omega | (simp; omega)) _))) hca hcb (by omega) (by omega) C cc b (RB.ab hbb (by repeat (first | with_reducible exact Ab.refl _ | with_reducible assumption | with_reducible refine Ab.drew ?_ | with_reducible refine Ab.drewN ?_ _ | with_reducible refine Ab.alloc ?_ _ | with_reducible refine Ab.trans ?_ (by assumption) | with_reducible refine Ab.set ?_ (by first | (simp; done) | omega | (simp; omega)) _))) hcc (by omega)).mono ?_
      rintro e w2 ⟨r, er, D, E, cd, ce, hr, rfl, o1, o2, hb2⟩
      obtain ⟨rfl, rfl⟩ := Prod.mk.inj (hr.out.trans HM.out)
      clear hr
      have kq0 : w2.cell? ⟨w.heap.size, 0, none⟩ = some (.slice A s.length ca) := by (repeat (first | with_reducible assumption | (simp [go_sem]; done) | with_reducible apply cell_alloc | with_reducible apply cell_drew | with_reducible apply cell_drewN | (with_reducible apply Ab.at; with_reducible assumption) | (with_reducible refine cell_set ?_ ?_; rotate_left; focus (first | (simp; done) | (simp; omega))) | (with_reducible refine cell_setb ?_ ?_; rotate_left; focus (first | omega | (simp only; omega) | (simp; omega)))))
      have kq1 : w2.cell? ⟨w.heap.size, 1, none⟩ = some (.slice B t.length cb) := by (repeat (first | with_reducible assumption | (simp [go_sem]; done) | with_reducible apply cell_alloc | with_reducible apply cell_drew | with_reducible apply cell_drewN | (with_reducible apply Ab.at; with_reducible assumption) | (with_reducible refine cell_set ?_ ?_; rotate_left; focus (first | (simp; done) | (simp; omega))) | (with_reducible refine cell_setb ?_ ?_; rotate_left; focus (first | omega | (simp only; omega) | (simp; omega)))))
      have kq2 : w2.cell? ⟨w.heap.size, 2, none⟩ = some (.int .i64 cap) := by (repeat (first | with_reducible assumption | (simp [go_sem]; done) | with_reducible apply cell_alloc | with_reducible apply cell_drew | with_reducible apply cell_drewN | (with_reducible apply Ab.at; with_reducible assumption) | (with_reducible refine cell_set ?_ ?_; rotate_left; focus (first | (simp; done) | (simp; omega))) | (with_reducible refine cell_setb ?_ ?_; rotate_left; focus (first | omega | (simp only; omega) | (simp; omega)))))
      have kq3 : w2.cell? ⟨w.heap.size, 3, none⟩ = some (.bool false) := by (repeat (first | with_reducible assumption | (simp [go_sem]; done) | with_reducible apply cell_alloc | with_reducible apply cell_drew | with_reducible apply cell_drewN | (with_reducible apply Ab.at; with_reducible assumption) | (with_reducible refine cell_set ?_ ?_; rotate_left; focus (first | (simp; done) | (simp; omega))) | (with_reducible refine cell_setb ?_ ?_; rotate_left; focus (first | omega | (simp only; omega) | (simp; omega)))))
      have kz : w.heap.size < w2.heap.size := cell_lt kq0
      go_wp2_with fail
      refine (alive_true _).mono ?_
      rintro e w3 ⟨rfl, hb3⟩
      go_wp2
      go_ret
      exact ⟨rfl, (by repeat (first | with_reducible exact Ab.refl _ | with_reducible assumption | with_reducible refine Ab.drew ?_ | with_reducible refine Ab.drewN ?_ _ | with_reducible refine Ab.alloc ?_ _ | with_reducible refine Ab.trans ?_ (by assumption) | with_reducible refine Ab.set ?_ (by first | (simp; done) | omega | (simp; omega)) _))⟩
    have HM := Lib.hid (show append ⟨s, t, cap, false⟩ b = (⟨s, t ++ b, cap, false⟩, 0) by
      unfold append; rw [if_neg (by simpa using HU.out), if_neg (by simp only [Dev.size]; omega)])
    obtain ⟨u, hu⟩ : ∃ u, t ++ b = u := ⟨_, rfl⟩
    have hul : u.length = t.length + b.length := by rw [← hu, List.length_append]
    have hnb2 : ¬ bad ⟨s, u, cap, false⟩ := by rw [not_bad]; exact ⟨v1, v2, by omega, by simp⟩
    have hu2 : up ⟨s, u, cap, false⟩ = 0 := up_ok hnb2 rfl
    have HM := Lib.hid (show append ⟨s, t, cap, false⟩ b = (⟨s, u, cap, false⟩, 0) by rw [HM.out, hu])
    have hul1 := Nat.le_of_eq hul
    clear hul hu
    by_cases hn : n < 0 ∨ (u.length : Int) < n
    · have HC := Lib.hid (show crash ⟨s, u, cap, false⟩ n = (Disk.zero, 2) by unfold crash; rw [if_neg (by simpa using hu2), if_pos hn])
      clear hnb2 hu2
      go_enter Try.func7, Try.ntmps7
      go_wp2_with fail
      refine (fit_yes A B ca cb s t cap false _ ls lt HU.out).mono ?_
      rintro e w1 ⟨rfl, hb1⟩
      have bq0 := hb1.at (p := ⟨w.heap.size, 0, none⟩) (v := .slice A s.length ca) (by (repeat (first | with_reducible assumption | (simp [go_sem]; done) | with_reducible apply cell_alloc | with_reducible apply cell_drew | with_reducible apply cell_drewN | (with_reducible apply Ab.at; with_reducible assumption) | (with_reducible refine cell_set ?_ ?_; rotate_left; focus (first | (simp; done) | (simp; omega))) | (with_reducible refine cell_setb ?_ ?_; rotate_left; focus (first | omega | (simp only; omega) | (simp; omega)))))); have bq1 := hb1.at (p := ⟨w.heap.size, 1, none⟩) (v := .slice B t.length cb) (by (repeat (first | with_reducible assumption | (simp [go_sem]; done) | with_reducible apply cell_alloc | with_reducible apply cell_drew | with_reducible apply cell_drewN | (with_reducible apply Ab.at; with_reducible assumption) | (with_reducible refine cell_set ?_ ?_; rotate_left; focus (first | (simp; done) | (simp; omega))) | (with_reducible refine cell_setb ?_ ?_; rotate_left; focus (first | omega | (simp only; omega) | (simp; omega)))))); have bq2 := hb1.at (p := ⟨w.heap.size, 2, none⟩) (v := .int .i64 cap) (by (repeat (first | with_reducible assumption | (simp [go_sem]; done) | with_reducible apply cell_alloc | with_reducible apply cell_drew | with_reducible apply cell_drewN | (with_reducible apply Ab.at; with_reducible assumption) | (with_reducible refine cell_set ?_ ?_; rotate_left; focus (first | (simp; done) | (simp; omega))) | (with_reducible refine cell_setb ?_ ?_; rotate_left; focus (first | omega | (simp only; omega) | (simp; omega)))))); have bq3 := hb1.at (p := ⟨w.heap.size, 3, none⟩) (v := .bool false) (by (repeat (first | with_reducible assumption | (simp [go_sem]; done) | with_reducible apply cell_alloc | with_reducible apply cell_drew | with_reducible apply cell_drewN | (with_reducible apply Ab.at; with_reducible assumption) | (with_reducible refine cell_set ?_ ?_; rotate_left; focus (first | (simp; done) | (simp; omega))) | (with_reducible refine cell_setb ?_ ?_; rotate_left; focus (first | omega | (simp only; omega) | (simp; omega))))))
      go_wp2_with fail
      refine (append_any A B ca cb s t cap false _ (RB.ab hs (by repeat (first | with_reducible exact Ab.refl _ | with_reducible assumption | with_reducible refine Ab.drew ?_ | with_reducible refine Ab.drewN ?_ _ | with_reducible refine Ab.alloc ?_ _ | with_reducible refine Ab.trans ?_ (by assumption) | with_reducible refine Ab.set ?_ (by first | (simp; done) | omega | (simp; omega)) _))) (RB.ab ht (by repeat (first | with_reducible exact Ab.refl _ | with_reducible assumption | with_reducible refine Ab.drew ?_ | with_reducible refine Ab.drewN ?_ _ | with_reducible refine Ab.alloc ?_ _ | with_reducible refine Ab.trans ?_ (by assumption) | with_reducible refine Ab.set ?_ (by first | (simp; done) | omega | (simp; omega)) _))) hca hcb (by omega) (by omega) C cc b (RB.ab hbb (by repeat (first | with_reducible exact Ab.refl _ | with_reducible assumption | with_reducible refine Ab.drew ?_ | with_reducible refine Ab.drewN ?_ _ | with_reducible refine Ab.alloc ?_ _ | with_reducible refine Ab.trans ?_ (by assumption) | with_reducible refine Ab.set ?_ (by first | (simp; done) | omega | (simp; omega)) _))) hcc (by omega)).mono ?_
      rintro e w2 ⟨r, er, D, E, cd, ce, hr, rfl, o1, o2, hb2⟩
      obtain ⟨rfl, rfl⟩ := Prod.mk.inj (hr.out.trans HM.out)
      clear hr
      go_wp2_with fail
      refine (crash_any D E cd ce s u cap false _ (RB.ab o1.rb.zero (by repeat (first | with_reducible exact Ab.refl _ | with_reducible assumption | with_reducible refine Ab.drew ?_ | with_reducible refine Ab.drewN ?_ _ | with_reducible refine Ab.alloc ?_ _ | with_reducible refine Ab.trans ?_ (by assumption) | with_reducible refine Ab.set ?_ (by first | (simp; done) | omega | (simp; omega)) _))) (RB.ab o2.rb.zero (by repeat (first | with_reducible exact Ab.refl _ | with_reducible assumption | with_reducible refine Ab.drew ?_ | with_reducible refine Ab.drewN ?_ _ | with_reducible refine Ab.alloc ?_ _ | with_reducible refine Ab.trans ?_ (by assumption) | with_reducible refine Ab.set ?_ (by first | (simp; done) | omega | (simp; omega)) _))) o1.le o2.le (by omega) (by omega) n).mono ?_
      rintro e w3 ⟨r3, er3, D3, E3, cd3, ce3, hr3, rfl, o3, o3', hb3⟩
      obtain ⟨rfl, rfl⟩ := Prod.mk.inj (hr3.out.trans HC.out)
      clear hr3
      have kq0 : w3.cell? ⟨w2.heap.size, 0, none⟩ = some (.slice D s.length cd) := by (repeat (first | with_reducible assumption | (simp [go_sem]; done) | with_reducible apply cell_alloc | with_reducible apply cell_drew | with_reducible apply cell_drewN | (with_reducible apply Ab.at; with_reducible assumption) | (with_reducible refine cell_set ?_ ?_; rotate_left; focus (first | (simp; done) | (simp; omega))) | (with_reducible refine cell_setb ?_ ?_; rotate_left; focus (first | omega | (simp only; omega) | (simp; omega)))))
      have kq1 : w3.cell? ⟨w2.heap.size, 1, none⟩ = some (.slice E u.length ce) := by (repeat (first | with_reducible assumption | (simp [go_sem]; done) | with_reducible apply cell_alloc | with_reducible apply cell_drew | with_reducible apply cell_drewN | (with_reducible apply Ab.at; with_reducible assumption) | (with_reducible refine cell_set ?_ ?_; rotate_left; focus (first | (simp; done) | (simp; omega))) | (with_reducible refine cell_setb ?_ ?_; rotate_left; focus (first | omega | (simp only; omega) | (simp; omega)))))
      have kq2 : w3.cell? ⟨w2.heap.size, 2, none⟩ = some (.int .i64 cap) := by (repeat (first | with_reducible assumption | (simp [go_sem]; done) | with_reducible apply cell_alloc | with_reducible apply cell_drew | with_reducible apply cell_drewN | (with_reducible apply Ab.at; with_reducible assumption) | (with_reducible refine cell_set ?_ ?_; rotate_left; focus (first | (simp; done) | (simp; omega))) | (with_reducible refine cell_setb ?_ ?_; rotate_left; focus (first | omega | (simp only; omega) | (simp; omega)))))
      have kq3 : w3.cell? ⟨w2.heap.size, 3, none⟩ = some (.bool false) := by (repeat (first | with_reducible assumption | (simp [go_sem]; done) | with_reducible apply cell_alloc | with_reducible apply cell_drew | with_reducible apply cell_drewN | (with_reducible apply Ab.at; with_reducible assumption) | (with_reducible refine cell_set ?_ ?_; rotate_left; focus (first | (simp; done) | (simp; omega))) | (with_reducible refine cell_setb ?_ ?_; rotate_left; focus (first | omega | (simp only; omega) | (simp; omega)))))
      have kz : w2.heap.size < w3.heap.size := cell_lt kq0
      rcases hn with hn | hn
      all_goals
        go_wp2_with fail
        refine (alive_true _).mono ?_
        rintro e w4 ⟨rfl, hb4⟩
        go_wp2
        go_ret
        exact ⟨rfl, (by repeat (first | with_reducible exact Ab.refl _ | with_reducible assumption | with_reducible refine Ab.drew ?_ | with_reducible refine Ab.drewN ?_ _ | with_reducible refine Ab.alloc ?_ _ | with_reducible refine Ab.trans ?_ (by assumption) | with_reducible refine Ab.set ?_ (by first | (simp; done) | omega | (simp; omega)) _))⟩
    obtain ⟨k, rfl⟩ := Int.eq_ofNat_of_zero_le (by omega : 0 ≤ n)
    have hku : k ≤ u.length := by omega
    have HC := Lib.hid (show crash ⟨s, u, cap, false⟩ (k : Int) = (⟨s ++ u.take k, [], cap, true⟩, 0) by unfold crash; rw [if_neg (by simpa using hu2), if_neg hn]; simp)
    obtain ⟨x, hx⟩ : ∃ x, s ++ u.take k = x := ⟨_, rfl⟩
    have hxl : x.length = s.length + k := by rw [← hx]; simp; omega
    have hnb3 : ¬ bad ⟨x, [], cap, true⟩ := by rw [not_bad]; exact ⟨v1, v2, by simp; omega, by simp⟩
    have hnb4 : ¬ bad ⟨x, [], cap, false⟩ := by rw [not_bad]; exact ⟨v1, v2, by simp; omega, by simp⟩
    have HS := Lib.hid (show Disk.start ⟨x, [], cap, true⟩ = (⟨x, [], cap, false⟩, 0) by unfold Disk.start; rw [if_neg hnb3]; rfl)
    have HC := Lib.hid (show crash ⟨s, u, cap, false⟩ (k : Int) = (⟨x, [], cap, true⟩, 0) by rw [HC.out, hx])
    have HP1 := Lib.hid (show s = x.take s.length by rw [← hx, List.take_left])
    have HP2 := Lib.hid (show x = (s ++ u).take x.length by rw [hxl, ← hx, List.take_append]; congr 1; rw [List.take_of_length_le (by omega)]; rw [Nat.add_sub_cancel_left])
    have HXL := Lib.hid hxl
    have HK := Lib.hid (check_ok hnb4)
    have hxl1 := Nat.le_of_eq hxl
    clear hnb2 hu2 hnb3 hnb4 hn hx hxl
    go_enter Try.func7, Try.ntmps7
    go_wp2_with fail
    refine (fit_yes A B ca cb s t cap false _ ls lt HU.out).mono ?_
    rintro e w1 ⟨rfl, hb1⟩
    have bq0 := hb1.at (p := ⟨w.heap.size, 0, none⟩) (v := .slice A s.length ca) (by (repeat (first | with_reducible assumption | (simp [go_sem]; done) | with_reducible apply cell_alloc | with_reducible apply cell_drew | with_reducible apply cell_drewN | (with_reducible apply Ab.at; with_reducible assumption) | (with_reducible refine cell_set ?_ ?_; rotate_left; focus (first | (simp; done) | (simp; omega))) | (with_reducible refine cell_setb ?_ ?_; rotate_left; focus (first | omega | (simp only; omega) | (simp; omega)))))); have bq1 := hb1.at (p := ⟨w.heap.size, 1, none⟩) (v := .slice B t.length cb) (by (repeat (first | with_reducible assumption | (simp [go_sem]; done) | with_reducible apply cell_alloc | with_reducible apply cell_drew | with_reducible apply cell_drewN | (with_reducible apply Ab.at; with_reducible assumption) | (with_reducible refine cell_set ?_ ?_; rotate_left; focus (first | (simp; done) | (simp; omega))) | (with_reducible refine cell_setb ?_ ?_; rotate_left; focus (first | omega | (simp only; omega) | (simp; omega)))))); have bq2 := hb1.at (p := ⟨w.heap.size, 2, none⟩) (v := .int .i64 cap) (by (repeat (first | with_reducible assumption | (simp [go_sem]; done) | with_reducible apply cell_alloc | with_reducible apply cell_drew | with_reducible apply cell_drewN | (with_reducible apply Ab.at; with_reducible assumption) | (with_reducible refine cell_set ?_ ?_; rotate_left; focus (first | (simp; done) | (simp; omega))) | (with_reducible refine cell_setb ?_ ?_; rotate_left; focus (first | omega | (simp only; omega) | (simp; omega)))))); have bq3 := hb1.at (p := ⟨w.heap.size, 3, none⟩) (v := .bool false) (by (repeat (first | with_reducible assumption | (simp [go_sem]; done) | with_reducible apply cell_alloc | with_reducible apply cell_drew | with_reducible apply cell_drewN | (with_reducible apply Ab.at; with_reducible assumption) | (with_reducible refine cell_set ?_ ?_; rotate_left; focus (first | (simp; done) | (simp; omega))) | (with_reducible refine cell_setb ?_ ?_; rotate_left; focus (first | omega | (simp only; omega) | (simp; omega))))))
    go_wp2_with fail
    refine (append_any A B ca cb s t cap false _ (RB.ab hs (by repeat (first | with_reducible exact Ab.refl _ | with_reducible assumption | with_reducible refine Ab.drew ?_ | with_reducible refine Ab.drewN ?_ _ | with_reducible refine Ab.alloc ?_ _ | with_reducible refine Ab.trans ?_ (by assumption) | with_reducible refine Ab.set ?_ (by first | (simp; done) | omega | (simp; omega)) _))) (RB.ab ht (by repeat (first | with_reducible exact Ab.refl _ | with_reducible assumption | with_reducible refine Ab.drew ?_ | with_reducible refine Ab.drewN ?_ _ | with_reducible refine Ab.alloc ?_ _ | with_reducible refine Ab.trans ?_ (by assumption) | with_reducible refine Ab.set ?_ (by first | (simp; done) | omega | (simp; omega)) _))) hca hcb (by omega) (by omega) C cc b (RB.ab hbb (by repeat (first | with_reducible exact Ab.refl _ | with_reducible assumption | with_reducible refine Ab.drew ?_ | with_reducible refine Ab.drewN ?_ _ | with_reducible refine Ab.alloc ?_ _ | with_reducible refine Ab.trans ?_ (by assumption) | with_reducible refine Ab.set ?_ (by first | (simp; done) | omega | (simp; omega)) _))) hcc (by omega)).mono ?_
    rintro e w2 ⟨r, er, D, E, cd, ce, hr, rfl, o1, o2, hb2⟩
    obtain ⟨rfl, rfl⟩ := Prod.mk.inj (hr.out.trans HM.out)
    clear hr
    go_wp2_with fail
    refine (crash_any D E cd ce s u cap false _ (RB.ab o1.rb.zero (by repeat (first | with_reducible exact Ab.refl _ | with_reducible assumption | with_reducible refine Ab.drew ?_ | with_reducible refine Ab.drewN ?_ _ | with_reducible refine Ab.alloc ?_ _ | with_reducible refine Ab.trans ?_ (by assumption) | with_reducible refine Ab.set ?_ (by first | (simp; done) | omega | (simp; omega)) _))) (RB.ab o2.rb.zero (by repeat (first | with_reducible exact Ab.refl _ | with_reducible assumption | with_reducible refine Ab.drew ?_ | with_reducible refine Ab.drewN ?_ _ | with_reducible refine Ab.alloc ?_ _ | with_reducible refine Ab.trans ?_ (by assumption) | with_reducible refine Ab.set ?_ (by first | (simp; done) | omega | (simp; omega)) _))) o1.le o2.le (by omega) (by omega) (k : Int)).mono ?_
    rintro e w3 ⟨r3, er3, D3, E3, cd3, ce3, hr3, rfl, o3, o3', hb3⟩
    obtain ⟨rfl, rfl⟩ := Prod.mk.inj (hr3.out.trans HC.out)
    clear hr3
    go_wp2_with fail
    refine (start_any D3 E3 cd3 ce3 x [] cap true _ (RB.ab o3.rb.zero (by repeat (first | with_reducible exact Ab.refl _ | with_reducible assumption | with_reducible refine Ab.drew ?_ | with_reducible refine Ab.drewN ?_ _ | with_reducible refine Ab.alloc ?_ _ | with_reducible refine Ab.trans ?_ (by assumption) | with_reducible refine Ab.set ?_ (by first | (simp; done) | omega | (simp; omega)) _))) (RB.ab o3'.rb.zero (by repeat (first | with_reducible exact Ab.refl _ | with_reducible assumption | with_reducible refine Ab.drew ?_ | with_reducible refine Ab.drewN ?_ _ | with_reducible refine Ab.alloc ?_ _ | with_reducible refine Ab.trans ?_ (by assumption) | with_reducible refine Ab.set ?_ (by first | (simp; done) | omega | (simp; omega)) _))) o3.le o3'.le (by omega) (by simp)).mono ?_
    rintro e w4 ⟨r4, er4, D4, E4, cd4, ce4, hr4, rfl, o4, o4', hb4⟩
    obtain ⟨rfl, rfl⟩ := Prod.mk.inj (hr4.out.trans HS.out)
    clear hr4
    go_wp2_with fail
    refine (refCheck_any D4 E4 cd4 ce4 x [] cap false _ (by omega) (by simp)).mono ?_
    rintro e w5 ⟨r5, hr5, rfl, hb5⟩
    obtain rfl : r5 = 0 := hr5.out.trans HK.out
    clear hr5
    have kq0 : w5.cell? ⟨w4.heap.size, 0, none⟩ = some (.slice D4 x.length cd4) := by (repeat (first | with_reducible assumption | (simp [go_sem]; done) | with_reducible apply cell_alloc | with_reducible apply cell_drew | with_reducible apply cell_drewN | (with_reducible apply Ab.at; with_reducible assumption) | (with_reducible refine cell_set ?_ ?_; rotate_left; focus (first | (simp; done) | (simp; omega))) | (with_reducible refine cell_setb ?_ ?_; rotate_left; focus (first | omega | (simp only; omega) | (simp; omega)))))
    have kq1 : w5.cell? ⟨w4.heap.size, 1, none⟩ = some (.slice E4 0 ce4) := by (repeat (first | with_reducible assumption | (simp [go_sem]; done) | with_reducible apply cell_alloc | with_reducible apply cell_drew | with_reducible apply cell_drewN | (with_reducible apply Ab.at; with_reducible assumption) | (with_reducible refine cell_set ?_ ?_; rotate_left; focus (first | (simp; done) | (simp; omega))) | (with_reducible refine cell_setb ?_ ?_; rotate_left; focus (first | omega | (simp only; omega) | (simp; omega)))))
    have kq2 : w5.cell? ⟨w4.heap.size, 2, none⟩ = some (.int .i64 cap) := by (repeat (first | with_reducible assumption | (simp [go_sem]; done) | with_reducible apply cell_alloc | with_reducible apply cell_drew | with_reducible apply cell_drewN | (with_reducible apply Ab.at; with_reducible assumption) | (with_reducible refine cell_set ?_ ?_; rotate_left; focus (first | (simp; done) | (simp; omega))) | (with_reducible refine cell_setb ?_ ?_; rotate_left; focus (first | omega | (simp only; omega) | (simp; omega)))))
    have kq3 : w5.cell? ⟨w4.heap.size, 3, none⟩ = some (.bool false) := by (repeat (first | with_reducible assumption | (simp [go_sem]; done) | with_reducible apply cell_alloc | with_reducible apply cell_drew | with_reducible apply cell_drewN | (with_reducible apply Ab.at; with_reducible assumption) | (with_reducible refine cell_set ?_ ?_; rotate_left; focus (first | (simp; done) | (simp; omega))) | (with_reducible refine cell_setb ?_ ?_; rotate_left; focus (first | omega | (simp only; omega) | (simp; omega)))))
    have kz : w4.heap.size < w5.heap.size := cell_lt kq0
    have mq0 : w5.cell? ⟨w2.heap.size, 0, none⟩ = some (.slice D s.length cd) := by (repeat (first | with_reducible assumption | (simp [go_sem]; done) | with_reducible apply cell_alloc | with_reducible apply cell_drew | with_reducible apply cell_drewN | (with_reducible apply Ab.at; with_reducible assumption) | (with_reducible refine cell_set ?_ ?_; rotate_left; focus (first | (simp; done) | (simp; omega))) | (with_reducible refine cell_setb ?_ ?_; rotate_left; focus (first | omega | (simp only; omega) | (simp; omega)))))
    have mq1 : w5.cell? ⟨w2.heap.size, 1, none⟩ = some (.slice E u.length ce) := by (repeat (first | with_reducible assumption | (simp [go_sem]; done) | with_reducible apply cell_alloc | with_reducible apply cell_drew | with_reducible apply cell_drewN | (with_reducible apply Ab.at; with_reducible assumption) | (with_reducible refine cell_set ?_ ?_; rotate_left; focus (first | (simp; done) | (simp; omega))) | (with_reducible refine cell_setb ?_ ?_; rotate_left; focus (first | omega | (simp only; omega) | (simp; omega)))))
    have mq2 : w5.cell? ⟨w2.heap.size, 2, none⟩ = some (.int .i64 cap) := by (repeat (first | with_reducible assumption | (simp [go_sem]; done) | with_reducible apply cell_alloc | with_reducible apply cell_drew | with_reducible apply cell_drewN | (with_reducible apply Ab.at; with_reducible assumption) | (with_reducible refine cell_set ?_ ?_; rotate_left; focus (first | (simp; done) | (simp; omega))) | (with_reducible refine cell_setb ?_ ?_; rotate_left; focus (first | omega | (simp only; omega) | (simp; omega)))))
    have mq3 : w5.cell? ⟨w2.heap.size, 3, none⟩ = some (.bool false) := by (repeat (first | with_reducible assumption | (simp [go_sem]; done) | with_reducible apply cell_alloc | with_reducible apply cell_drew | with_reducible apply cell_drewN | (with_reducible apply Ab.at; with_reducible assumption) | (with_reducible refine cell_set ?_ ?_; rotate_left; focus (first | (simp; done) | (simp; omega))) | (with_reducible refine cell_setb ?_ ?_; rotate_left; focus (first | omega | (simp only; omega) | (simp; omega)))))
    have mz : w2.heap.size < w5.heap.size := cell_lt mq0
    have aq0 : w5.cell? ⟨w.heap.size, 0, none⟩ = some (.slice A s.length ca) := by (repeat (first | with_reducible assumption | (simp [go_sem]; done) | with_reducible apply cell_alloc | with_reducible apply cell_drew | with_reducible apply cell_drewN | (with_reducible apply Ab.at; with_reducible assumption) | (with_reducible refine cell_set ?_ ?_; rotate_left; focus (first | (simp; done) | (simp; omega))) | (with_reducible refine cell_setb ?_ ?_; rotate_left; focus (first | omega | (simp only; omega) | (simp; omega)))))
    have aq1 : w5.cell? ⟨w.heap.size, 1, none⟩ = some (.slice B t.length cb) := by (repeat (first | with_reducible assumption | (simp [go_sem]; done) | with_reducible apply cell_alloc | with_reducible apply cell_drew | with_reducible apply cell_drewN | (with_reducible apply Ab.at; with_reducible assumption) | (with_reducible refine cell_set ?_ ?_; rotate_left; focus (first | (simp; done) | (simp; omega))) | (with_reducible refine cell_setb ?_ ?_; rotate_left; focus (first | omega | (simp only; omega) | (simp; omega)))))
    have aq2 : w5.cell? ⟨w.heap.size, 2, none⟩ = some (.int .i64 cap) := by (repeat (first | with_reducible assumption | (simp [go_sem]; done) | with_reducible apply cell_alloc | with_reducible apply cell_drew | with_reducible apply cell_drewN | (with_reducible apply Ab.at; with_reducible assumption) | (with_reducible refine cell_set ?_ ?_; rotate_left; focus (first | (simp; done) | (simp; omega))) | (with_reducible refine cell_setb ?_ ?_; rotate_left; focus (first | omega | (simp only; omega) | (simp; omega)))))
    have aq3 : w5.cell? ⟨w.heap.size, 3, none⟩ = some (.bool false) := by (repeat (first | with_reducible assumption | (simp [go_sem]; done) | with_reducible apply cell_alloc | with_reducible apply cell_drew | with_reducible apply cell_drewN | (with_reducible apply Ab.at; with_reducible assumption) | (with_reducible refine cell_set ?_ ?_; rotate_left; focus (first | (simp; done) | (simp; omega))) | (with_reducible refine cell_setb ?_ ?_; rotate_left; focus (first | omega | (simp only; omega) | (simp; omega)))))
    have az : w.heap.size < w5.heap.size := cell_lt aq0
    have heq : ((x.length : Int) == (s.length : Int) + k) = true := by simp; have := HXL.out; omega
    go_wp2_with fail
    go_region_held3 (fun w' => w'.cell? ⟨w4.heap.size, 0, none⟩ = some (.slice D4 x.length cd4) ∧ w'.cell? ⟨w.heap.size, 0, none⟩ = some (.slice A s.length ca) ∧
        w'.cell? ⟨w2.heap.size, 0, none⟩ = some (.slice D s.length cd) ∧ w'.cell? ⟨w2.heap.size, 1, none⟩ = some (.slice E u.length ce) ∧ w'.cell? ⟨w2.heap.size, 2, none⟩ = some (.int .i64 cap) ∧ w'.cell? ⟨w2.heap.size, 3, none⟩ = some (.bool false))
      ((refine ⟨?_, ?_, ?_, ?_, ?_, ?_⟩ <;> (repeat (first | with_reducible assumption | (simp [go_sem]; done) | with_reducible apply cell_alloc | with_reducible apply cell_drew | with_reducible apply cell_drewN | (with_reducible apply Ab.at; with_reducible assumption) | (with_reducible refine cell_set ?_ ?_; rotate_left; focus (first | (simp; done) | (simp; omega))) | (with_reducible refine cell_setb ?_ ?_; rotate_left; focus (first | omega | (simp only; omega) | (simp; omega)))))))
      ((first
        | (have tok := o7
           go_at_call 41
           refine (starts_true D7 D4 cd7 cd4 y x _ (RB.ab o7.rb.zero (by repeat (first | with_reducible exact Ab.refl _ | with_reducible assumption | with_reducible refine Ab.drew ?_ | with_reducible refine Ab.drewN ?_ _ | with_reducible refine Ab.alloc ?_ _ | with_reducible refine Ab.trans ?_ (by assumption) | with_reducible refine Ab.set ?_ (by first | (simp; done) | omega | (simp; omega)) _))) (RB.ab o4.rb.zero (by repeat (first | with_reducible exact Ab.refl _ | with_reducible assumption | with_reducible refine Ab.drew ?_ | with_reducible refine Ab.drewN ?_ _ | with_reducible refine Ab.alloc ?_ _ | with_reducible refine Ab.trans ?_ (by assumption) | with_reducible refine Ab.set ?_ (by first | (simp; done) | omega | (simp; omega)) _))) o7.le (by rw [e7.out]; exact HP2.out) (by rw [e7.out, List.length_append]; omega)).mono ?_
           rintro e w8 ⟨rfl, hb8⟩)
        | (go_at_call 41
           refine (starts_true D4 A cd4 ca x s _ (RB.ab o4.rb.zero (by repeat (first | with_reducible exact Ab.refl _ | with_reducible assumption | with_reducible refine Ab.drew ?_ | with_reducible refine Ab.drewN ?_ _ | with_reducible refine Ab.alloc ?_ _ | with_reducible refine Ab.trans ?_ (by assumption) | with_reducible refine Ab.set ?_ (by first | (simp; done) | omega | (simp; omega)) _))) (RB.ab hs (by repeat (first | with_reducible exact Ab.refl _ | with_reducible assumption | with_reducible refine Ab.drew ?_ | with_reducible refine Ab.drewN ?_ _ | with_reducible refine Ab.alloc ?_ _ | with_reducible refine Ab.trans ?_ (by assumption) | with_reducible refine Ab.set ?_ (by first | (simp; done) | omega | (simp; omega)) _))) o4.le HP1.out (by omega)).mono ?_
           rintro e w6 ⟨rfl, hb6⟩)
        | (go_at_call 42
           refine (whole_any D E cd ce s u cap false _ (RB.ab o1.rb.zero (by repeat (first | with_reducible exact Ab.refl _ | with_reducible assumption | with_reducible refine Ab.drew ?_ | with_reducible refine Ab.drewN ?_ _ | with_reducible refine Ab.alloc ?_ _ | with_reducible refine Ab.trans ?_ (by assumption) | with_reducible refine Ab.set ?_ (by first | (simp; done) | omega | (simp; omega)) _))) (RB.ab o2.rb.zero (by repeat (first | with_reducible exact Ab.refl _ | with_reducible assumption | with_reducible refine Ab.drew ?_ | with_reducible refine Ab.drewN ?_ _ | with_reducible refine Ab.alloc ?_ _ | with_reducible refine Ab.trans ?_ (by assumption) | with_reducible refine Ab.set ?_ (by first | (simp; done) | omega | (simp; omega)) _))) o1.le o2.le (by omega) (by omega)).mono ?_
           rintro e w7 ⟨y, D7, cd7, e7, rfl, o7, hb7⟩)
        | (go_at_call 23
           refine (alive_true _).mono ?_
           rintro e w9 ⟨rfl, hb9⟩)))
    all_goals go_wp2
    all_goals go_ret
    all_goals exact ⟨rfl, (by repeat (first | with_reducible exact Ab.refl _ | with_reducible assumption | with_reducible refine Ab.drew ?_ | with_reducible refine Ab.drewN ?_ _ | with_reducible refine Ab.alloc ?_ _ | with_reducible refine Ab.trans ?_ (by assumption) | with_reducible refine Ab.set ?_ (by first | (simp; done) | omega | (simp; omega)) _))⟩
  · have HF := Lib.hid hfit; clear hfit
    go_enter Try.func7, Try.ntmps7
    go_wp2_with fail
    refine (fit_no A B ca cb s t cap dn _ ls lt HF.out).mono ?_
    rintro e w1 ⟨rfl, hb1⟩
    go_wp2_with fail
    refine (alive_true _).mono ?_
    rintro e w2 ⟨rfl, hb2⟩
    go_wp2
    go_ret
    exact ⟨rfl, (by repeat (first | with_reducible exact Ab.refl _ | with_reducible assumption | with_reducible refine Ab.drew ?_ | with_reducible refine Ab.drewN ?_ _ | with_reducible refine Ab.alloc ?_ _ | with_reducible refine Ab.trans ?_ (by assumption) | with_reducible refine Ab.set ?_ (by first | (simp; done) | omega | (simp; omega)) _))⟩
end Go.Proofs.Ytojhdecgipjkeaa
