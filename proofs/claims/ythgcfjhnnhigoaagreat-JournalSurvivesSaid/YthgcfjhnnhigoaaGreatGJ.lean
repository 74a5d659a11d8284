/- The texts ImpE, one behind the other. Own work. -/
import Derived.Test.YthgcfjhnnhigoaaGreatGD
import Derived.Deep.RegionWith
set_option linter.unusedVariables false
namespace Go.Proofs.YthgcfjhnnhigoaaGreat
open Go.RowKit Disk

/-- The device m lies in the parameter's variable, beside the result's zero cells. -/
def CutBox (w : World) (m : Dev) (v : Value) (wx : World) : Prop :=
  ∃ (r : Dev) (D E : Option Addr) (cd ce : Nat), Hid (r = m) ∧ v = .int .i64 0 ∧
    wx.cell? ⟨w.heap.size, 0, none⟩ = some (.slice D r.s.length cd) ∧ wx.cell? ⟨w.heap.size, 1, none⟩ = some (.slice E r.t.length ce) ∧ wx.cell? ⟨w.heap.size, 2, none⟩ = some (.int .i64 r.cap) ∧ wx.cell? ⟨w.heap.size, 3, none⟩ = some (.bool r.down) ∧ wx.frozen? ⟨w.heap.size, 3, none⟩ = false ∧
    wx.cell? ⟨w.heap.size + 1, 0, none⟩ = some (.slice none 0 0) ∧ wx.cell? ⟨w.heap.size + 1, 1, none⟩ = some (.slice none 0 0) ∧ wx.cell? ⟨w.heap.size + 1, 2, none⟩ = some (.int .i64 0) ∧ wx.cell? ⟨w.heap.size + 1, 3, none⟩ = some (.bool false) ∧
    wx.frozen? ⟨w.heap.size + 1, 0, none⟩ = false ∧ wx.frozen? ⟨w.heap.size + 1, 1, none⟩ = false ∧ wx.frozen? ⟨w.heap.size + 1, 2, none⟩ = false ∧ wx.frozen? ⟨w.heap.size + 1, 3, none⟩ = false ∧
    OR 5 (w.heap.size + 1 + 1) wx D cd r.s ∧ OR 5 (w.heap.size + 1 + 1) wx E ce r.t ∧ Ab w wx

set_option maxHeartbeats 1600000 in
theorem crash_any (A B : Option Addr) (ca cb : Nat) (s t : List UInt8) (cap : Int) (dn : Bool) (w : World) (hs : RB w 0 A s) (ht : RB w 0 B t) (hca : s.length ≤ ca) (hcb : t.length ≤ cb) (ls : s.length ≤ 1000000) (lt : t.length ≤ 1000000) (n : Int) :
    Calls Tryz.prog 101 #[.agg #[.slice A s.length ca, .slice B t.length cb, .int .i64 cap, .bool dn], .int .i64 n] w (RetDevE w (crash ⟨s, t, cap, dn⟩ n)) := by
  by_cases hu : up ⟨s, t, cap, dn⟩ = 0
  · obtain ⟨hnb, hdn⟩ := up_zero hu
    obtain rfl : dn = false := hdn
    have HU := Lib.hid hu; have HN := Lib.hid hnb; clear hu hnb
    by_cases hn0 : n < 0 ∨ (t.length : Int) < n
    · have HM := Lib.hid (show crash ⟨s, t, cap, false⟩ n = (Disk.zero, 2) by
        unfold crash; rw [if_neg (by simpa using HU.out), if_pos hn0])
      rcases hn0 with hn0 | hn0
      all_goals
        go_enter Tryz.func101, Tryz.ntmps101
        go_wp2_with fail
        refine (checkUp_any A B ca cb s t cap false _ ls lt).mono ?_
        rintro e w1 ⟨r, hr, rfl, hz⟩
        obtain rfl : r = 0 := hr.out.trans HU.out
        have bq0 := hz.at (p := ⟨w.heap.size, 0, none⟩) (v := .slice A s.length ca) ckA; have bq1 := hz.at (p := ⟨w.heap.size, 1, none⟩) (v := .slice B t.length cb) ckA; have bq2 := hz.at (p := ⟨w.heap.size, 2, none⟩) (v := .int .i64 cap) ckA; have bq3 := hz.at (p := ⟨w.heap.size, 3, none⟩) (v := .bool false) ckA
        have zq0 := hz.at (p := ⟨w.heap.size + 1, 0, none⟩) (v := .slice none 0 0) (by simp [go_sem]); have zq1 := hz.at (p := ⟨w.heap.size + 1, 1, none⟩) (v := .slice none 0 0) (by simp [go_sem]); have zq2 := hz.at (p := ⟨w.heap.size + 1, 2, none⟩) (v := .int .i64 0) (by simp [go_sem]); have zq3 := hz.at (p := ⟨w.heap.size + 1, 3, none⟩) (v := .bool false) (by simp [go_sem])
        have zr0 : w1.frozen? ⟨w.heap.size + 1, 0, none⟩ = false := (hz.frozen (p := ⟨w.heap.size + 1, 0, none⟩) (by simp)).trans (by simp [go_sem]); have zr1 : w1.frozen? ⟨w.heap.size + 1, 1, none⟩ = false := (hz.frozen (p := ⟨w.heap.size + 1, 1, none⟩) (by simp)).trans (by simp [go_sem]); have zr2 : w1.frozen? ⟨w.heap.size + 1, 2, none⟩ = false := (hz.frozen (p := ⟨w.heap.size + 1, 2, none⟩) (by simp)).trans (by simp [go_sem]); have zr3 : w1.frozen? ⟨w.heap.size + 1, 3, none⟩ = false := (hz.frozen (p := ⟨w.heap.size + 1, 3, none⟩) (by simp)).trans (by simp [go_sem])
        have z1 := hz.size; simp at z1
        go_wp2
        refine bodyPost_ret (v := .tuple #[.agg #[.slice none 0 0, .slice none 0 0, .int .i64 0, .bool false], .int .i64 2]) (by simp [results, Tryz.results101, go_sem, zq0, zq1, zq2, zq3]) rfl ?_
        exact RetDevE.zero HM.out.symm abA
    obtain ⟨k, rfl⟩ := Int.eq_ofNat_of_zero_le (by omega : 0 ≤ n)
    have hkt : k ≤ t.length := by omega
    have HM := Lib.hid (show crash ⟨s, t, cap, false⟩ (k : Int) = (⟨s ++ t.take k, [], cap, true⟩, 0) by
      unfold crash; rw [if_neg (by simpa using HU.out), if_neg hn0]; simp)
    clear hn0
    have hk0 : (0 : Int) ≤ (k : Int) := by omega
    have hk1 : (k : Int) ≤ (cb : Int) := by omega
    go_enter Tryz.func101, Tryz.ntmps101
    go_wp2_with fail
    refine (checkUp_any A B ca cb s t cap false _ ls lt).mono ?_
    rintro e w1 ⟨r, hr, rfl, hz⟩
    obtain rfl : r = 0 := hr.out.trans HU.out
    have bq0 := hz.at (p := ⟨w.heap.size, 0, none⟩) (v := .slice A s.length ca) ckA; have bq1 := hz.at (p := ⟨w.heap.size, 1, none⟩) (v := .slice B t.length cb) ckA; have bq2 := hz.at (p := ⟨w.heap.size, 2, none⟩) (v := .int .i64 cap) ckA; have bq3 := hz.at (p := ⟨w.heap.size, 3, none⟩) (v := .bool false) ckA
    have zq0 := hz.at (p := ⟨w.heap.size + 1, 0, none⟩) (v := .slice none 0 0) (by simp [go_sem]); have zq1 := hz.at (p := ⟨w.heap.size + 1, 1, none⟩) (v := .slice none 0 0) (by simp [go_sem]); have zq2 := hz.at (p := ⟨w.heap.size + 1, 2, none⟩) (v := .int .i64 0) (by simp [go_sem]); have zq3 := hz.at (p := ⟨w.heap.size + 1, 3, none⟩) (v := .bool false) (by simp [go_sem])
    have zr0 : w1.frozen? ⟨w.heap.size + 1, 0, none⟩ = false := (hz.frozen (p := ⟨w.heap.size + 1, 0, none⟩) (by simp)).trans (by simp [go_sem]); have zr1 : w1.frozen? ⟨w.heap.size + 1, 1, none⟩ = false := (hz.frozen (p := ⟨w.heap.size + 1, 1, none⟩) (by simp)).trans (by simp [go_sem]); have zr2 : w1.frozen? ⟨w.heap.size + 1, 2, none⟩ = false := (hz.frozen (p := ⟨w.heap.size + 1, 2, none⟩) (by simp)).trans (by simp [go_sem]); have zr3 : w1.frozen? ⟨w.heap.size + 1, 3, none⟩ = false := (hz.frozen (p := ⟨w.heap.size + 1, 3, none⟩) (by simp)).trans (by simp [go_sem])
    have z1 := hz.size; simp at z1
    have nw1a := fun (o : Obj) (j : Nat) => World.cell?_alloc_lt w1 o ⟨w.heap.size, j, none⟩ (by simp; omega)
    have nw1c := fun (o : Obj) (j : Nat) => World.cell?_alloc_lt w1 o ⟨w.heap.size + 1, j, none⟩ (by simp; omega)
    go_upto_region 6 with fail
    go_cut [5] (fun s5 wx => CutBox w ⟨s ++ t.take k, [], cap, false⟩ s5 wx)
    case first =>
      go_region_with ((first
        | ((go_at_call 116
            (with_reducible refine (concat2_any _ _ s.length ca k cb A B s (t.take k) _ (by (exact ckA)) (by first | rfl | (simp; done) | (simp; omega) | omega) (RB.ab hs abA) hca (by (exact ckA)) (by first | rfl | (simp; done) | (simp; omega) | omega) (RB.ab (ht.take k) abA) (by simp; omega) wnA).mono ?_)
            rintro e w3 ⟨L3, D3, c3, e3, rfl, o3, hb3⟩
            have zw3 := hb3.size; (try simp at zw3)
            have o3 : OR 5 (w.heap.size + 1 + 1) w3 D3 c3 L3 := OR.mono o3 wnA)
           have hz3 : Ab ((w.alloc (.cells #[.slice A s.length ca, .slice B t.length cb, .int .i64 cap, .bool false] 24)).alloc (.cells #[.slice none 0 0, .slice none 0 0, .int .i64 0, .bool false] 24)) w3 := abA
           have bq0 := hz3.at (p := ⟨w.heap.size, 0, none⟩) (v := .slice A s.length ca) ckA; have bq1 := hz3.at (p := ⟨w.heap.size, 1, none⟩) (v := .slice B t.length cb) ckA; have bq2 := hz3.at (p := ⟨w.heap.size, 2, none⟩) (v := .int .i64 cap) ckA; have bq3 := hz3.at (p := ⟨w.heap.size, 3, none⟩) (v := .bool false) ckA; have zz3 := hz3.size; simp at zz3; clear hz3
           have nw3a := fun (o : Obj) (j : Nat) => World.cell?_alloc_lt w3 o ⟨w.heap.size, j, none⟩ (by simp; omega)
           have nw3c := fun (o : Obj) (j : Nat) => World.cell?_alloc_lt w3 o ⟨w.heap.size + 1, j, none⟩ (by simp; omega))
        | (go_at_call 115
           refine (with_any A B ca cb s t cap false _ D3 none _ _ c3 0).mono ?_
           rintro e w5 ⟨rfl, hb5⟩
           have hz5 : Ab ((w.alloc (.cells #[.slice A s.length ca, .slice B t.length cb, .int .i64 cap, .bool false] 24)).alloc (.cells #[.slice none 0 0, .slice none 0 0, .int .i64 0, .bool false] 24)) w5 := abA
           have zq0 := hz5.at (p := ⟨w.heap.size + 1, 0, none⟩) (v := .slice none 0 0) (by simp [go_sem]); have zq1 := hz5.at (p := ⟨w.heap.size + 1, 1, none⟩) (v := .slice none 0 0) (by simp [go_sem]); have zq2 := hz5.at (p := ⟨w.heap.size + 1, 2, none⟩) (v := .int .i64 0) (by simp [go_sem]); have zq3 := hz5.at (p := ⟨w.heap.size + 1, 3, none⟩) (v := .bool false) (by simp [go_sem])
           have zr0 : w5.frozen? ⟨w.heap.size + 1, 0, none⟩ = false := (hz5.frozen (p := ⟨w.heap.size + 1, 0, none⟩) (by simp)).trans (by simp [go_sem]); have zr1 : w5.frozen? ⟨w.heap.size + 1, 1, none⟩ = false := (hz5.frozen (p := ⟨w.heap.size + 1, 1, none⟩) (by simp)).trans (by simp [go_sem]); have zr2 : w5.frozen? ⟨w.heap.size + 1, 2, none⟩ = false := (hz5.frozen (p := ⟨w.heap.size + 1, 2, none⟩) (by simp)).trans (by simp [go_sem]); have zr3 : w5.frozen? ⟨w.heap.size + 1, 3, none⟩ = false := (hz5.frozen (p := ⟨w.heap.size + 1, 3, none⟩) (by simp)).trans (by simp [go_sem])
           have bq0 := hz5.at (p := ⟨w.heap.size, 0, none⟩) (v := .slice A s.length ca) ckA; have bq1 := hz5.at (p := ⟨w.heap.size, 1, none⟩) (v := .slice B t.length cb) ckA; have bq2 := hz5.at (p := ⟨w.heap.size, 2, none⟩) (v := .int .i64 cap) ckA; have bq3 := hz5.at (p := ⟨w.heap.size, 3, none⟩) (v := .bool false) ckA
           have bg0 : w5.frozen? ⟨w.heap.size, 0, none⟩ = false := by (repeat (first | with_reducible assumption | (simp [go_sem]; done) | (with_reducible refine fr_alloc ?_ ?_; focus (first | (simp; done) | omega | (simp; omega))) | (with_reducible refine Ab.fr (by assumption) ?_ ?_; focus (first | (simp; done) | omega | (simp; omega)))))
           have bg1 : w5.frozen? ⟨w.heap.size, 1, none⟩ = false := by (repeat (first | with_reducible assumption | (simp [go_sem]; done) | (with_reducible refine fr_alloc ?_ ?_; focus (first | (simp; done) | omega | (simp; omega))) | (with_reducible refine Ab.fr (by assumption) ?_ ?_; focus (first | (simp; done) | omega | (simp; omega)))))
           have bg2 : w5.frozen? ⟨w.heap.size, 2, none⟩ = false := by (repeat (first | with_reducible assumption | (simp [go_sem]; done) | (with_reducible refine fr_alloc ?_ ?_; focus (first | (simp; done) | omega | (simp; omega))) | (with_reducible refine Ab.fr (by assumption) ?_ ?_; focus (first | (simp; done) | omega | (simp; omega)))))
           have bg3 : w5.frozen? ⟨w.heap.size, 3, none⟩ = false := by (repeat (first | with_reducible assumption | (simp [go_sem]; done) | (with_reducible refine fr_alloc ?_ ?_; focus (first | (simp; done) | omega | (simp; omega))) | (with_reducible refine Ab.fr (by assumption) ?_ ?_; focus (first | (simp; done) | omega | (simp; omega)))))
           clear hz5)))
      all_goals (go_wp2_with fail; go_meet)
      all_goals exact ⟨⟨L3, [], cap, false⟩, D3, none, c3, 0, Lib.hid (by rw [e3.out]), rfl, by (first | (simp [go_sem, *]; done) | (exact ckA)), by (first | (simp [go_sem, *]; done) | (exact ckA)), by (first | (simp [go_sem, *]; done) | (exact ckA)), by (first | (simp [go_sem, *]; done) | (exact ckA)), by (first | (simp [go_sem, *]; done) | (repeat (first | with_reducible assumption | (simp [go_sem]; done) | (with_reducible refine fr_alloc ?_ ?_; focus (first | (simp; done) | omega | (simp; omega))) | (with_reducible refine Ab.fr (by assumption) ?_ ?_; focus (first | (simp; done) | omega | (simp; omega)))))), by (first | (simp [go_sem, *]; done) | (exact ckA)), by (first | (simp [go_sem, *]; done) | (exact ckA)), by (first | (simp [go_sem, *]; done) | (exact ckA)), by (first | (simp [go_sem, *]; done) | (exact ckA)), by (first | (simp [go_sem, *]; done) | (repeat (first | with_reducible assumption | (simp [go_sem]; done) | (with_reducible refine fr_alloc ?_ ?_; focus (first | (simp; done) | omega | (simp; omega))) | (with_reducible refine Ab.fr (by assumption) ?_ ?_; focus (first | (simp; done) | omega | (simp; omega)))))), by (first | (simp [go_sem, *]; done) | (repeat (first | with_reducible assumption | (simp [go_sem]; done) | (with_reducible refine fr_alloc ?_ ?_; focus (first | (simp; done) | omega | (simp; omega))) | (with_reducible refine Ab.fr (by assumption) ?_ ?_; focus (first | (simp; done) | omega | (simp; omega)))))), by (first | (simp [go_sem, *]; done) | (repeat (first | with_reducible assumption | (simp [go_sem]; done) | (with_reducible refine fr_alloc ?_ ?_; focus (first | (simp; done) | omega | (simp; omega))) | (with_reducible refine Ab.fr (by assumption) ?_ ?_; focus (first | (simp; done) | omega | (simp; omega)))))), by (first | (simp [go_sem, *]; done) | (repeat (first | with_reducible assumption | (simp [go_sem]; done) | (with_reducible refine fr_alloc ?_ ?_; focus (first | (simp; done) | omega | (simp; omega))) | (with_reducible refine Ab.fr (by assumption) ?_ ?_; focus (first | (simp; done) | omega | (simp; omega)))))), (show OR 5 (w.heap.size + 1 + 1) _ D3 c3 L3 from orA), OR.none_, abA⟩
    case rest =>
      obtain ⟨r, E1, E2, k1, k2, er, rfl, q0, q1, q2, q3, r3, x0, x1, x2, x3, f0, f1, f2, f3, p5, p6, hbc⟩ := hcut
      go_wp2
      refine bodyPost_ret (v := .tuple #[.agg #[.slice E1 r.s.length k1, .slice E2 r.t.length k2, .int .i64 r.cap, .bool true], .int .i64 0]) (by simp [results, Tryz.results101, go_sem, *]) rfl ?_
      exact ⟨⟨r.s, r.t, r.cap, true⟩, 0, E1, E2, k1, k2, Lib.hid (by rw [HM.out]; exact Prod.ext (Dev.ext' (by rw [er.out]) (by rw [er.out]) (by rw [er.out]) rfl) rfl), rfl, OR.mono (lo := w.heap.size + 1 + 1) orA wnA, OR.mono (lo := w.heap.size + 1 + 1) orA wnA, abA⟩
  · have HM := Lib.hid (show crash ⟨s, t, cap, dn⟩ n = (Disk.zero, up ⟨s, t, cap, dn⟩) from if_pos hu)
    generalize hv : up ⟨s, t, cap, dn⟩ = u at hu HM
    have HV := Lib.hid hv; clear hv
    have hne : (u != 0) = true := by simpa using hu
    clear hu
    go_enter Tryz.func101, Tryz.ntmps101
    go_wp2_with fail
    refine (checkUp_any A B ca cb s t cap dn _ ls lt).mono ?_
    rintro e w1 ⟨r, hr, rfl, hb1⟩
    obtain rfl : r = u := hr.out.trans HV.out
    have zq0 := hb1.at (p := ⟨w.heap.size + 1, 0, none⟩) (v := .slice none 0 0) (by simp [go_sem]); have zq1 := hb1.at (p := ⟨w.heap.size + 1, 1, none⟩) (v := .slice none 0 0) (by simp [go_sem]); have zq2 := hb1.at (p := ⟨w.heap.size + 1, 2, none⟩) (v := .int .i64 0) (by simp [go_sem]); have zq3 := hb1.at (p := ⟨w.heap.size + 1, 3, none⟩) (v := .bool false) (by simp [go_sem])
    have zr0 : w1.frozen? ⟨w.heap.size + 1, 0, none⟩ = false := (hb1.frozen (p := ⟨w.heap.size + 1, 0, none⟩) (by simp)).trans (by simp [go_sem]); have zr1 : w1.frozen? ⟨w.heap.size + 1, 1, none⟩ = false := (hb1.frozen (p := ⟨w.heap.size + 1, 1, none⟩) (by simp)).trans (by simp [go_sem]); have zr2 : w1.frozen? ⟨w.heap.size + 1, 2, none⟩ = false := (hb1.frozen (p := ⟨w.heap.size + 1, 2, none⟩) (by simp)).trans (by simp [go_sem]); have zr3 : w1.frozen? ⟨w.heap.size + 1, 3, none⟩ = false := (hb1.frozen (p := ⟨w.heap.size + 1, 3, none⟩) (by simp)).trans (by simp [go_sem])
    go_wp2
    refine bodyPost_ret (v := .tuple #[.agg #[.slice none 0 0, .slice none 0 0, .int .i64 0, .bool false], .int .i64 r]) (by simp [results, Tryz.results101, go_sem, zq0, zq1, zq2, zq3]) rfl ?_
    exact RetDevE.zero HM.out.symm abA

set_option maxHeartbeats 1600000 in
theorem start_any (A B : Option Addr) (ca cb : Nat) (s t : List UInt8) (cap : Int) (dn : Bool) (w : World) (hs : RB w 0 A s) (ht : RB w 0 B t) (hca : s.length ≤ ca) (hcb : t.length ≤ cb) (ls : s.length ≤ 1000000) (lt : t.length ≤ 1000000) :
    Calls Tryz.prog 103 #[.agg #[.slice A s.length ca, .slice B t.length cb, .int .i64 cap, .bool dn]] w (RetDevE w (Disk.start ⟨s, t, cap, dn⟩)) := by
  by_cases hb : bad ⟨s, t, cap, dn⟩
  · have HM := Lib.hid (show Disk.start ⟨s, t, cap, dn⟩ = (Disk.zero, 8) from if_pos hb)
    have HB := Lib.hid hb; clear hb
    go_enter Tryz.func103, Tryz.ntmps103
    go_wp2_with fail
    refine (check_any A B ca cb s t cap dn _ ls lt).mono ?_
    rintro e w1 ⟨r, hr, rfl, hz⟩
    obtain rfl : r = 8 := by rw [hr.out, check_bad HB.out]
    have zq0 := hz.at (p := ⟨w.heap.size + 1, 0, none⟩) (v := .slice none 0 0) (by simp [go_sem]); have zq1 := hz.at (p := ⟨w.heap.size + 1, 1, none⟩) (v := .slice none 0 0) (by simp [go_sem]); have zq2 := hz.at (p := ⟨w.heap.size + 1, 2, none⟩) (v := .int .i64 0) (by simp [go_sem]); have zq3 := hz.at (p := ⟨w.heap.size + 1, 3, none⟩) (v := .bool false) (by simp [go_sem])
    have zr0 : w1.frozen? ⟨w.heap.size + 1, 0, none⟩ = false := (hz.frozen (p := ⟨w.heap.size + 1, 0, none⟩) (by simp)).trans (by simp [go_sem]); have zr1 : w1.frozen? ⟨w.heap.size + 1, 1, none⟩ = false := (hz.frozen (p := ⟨w.heap.size + 1, 1, none⟩) (by simp)).trans (by simp [go_sem]); have zr2 : w1.frozen? ⟨w.heap.size + 1, 2, none⟩ = false := (hz.frozen (p := ⟨w.heap.size + 1, 2, none⟩) (by simp)).trans (by simp [go_sem]); have zr3 : w1.frozen? ⟨w.heap.size + 1, 3, none⟩ = false := (hz.frozen (p := ⟨w.heap.size + 1, 3, none⟩) (by simp)).trans (by simp [go_sem])
    go_wp2
    refine bodyPost_ret (v := .tuple #[.agg #[.slice none 0 0, .slice none 0 0, .int .i64 0, .bool false], .int .i64 8]) (by simp [results, Tryz.results103, go_sem, zq0, zq1, zq2, zq3]) rfl ?_
    exact RetDevE.zero HM.out.symm abA
  · have HB := Lib.hid hb; clear hb
    cases dn
    · have HM := Lib.hid (show Disk.start ⟨s, t, cap, false⟩ = (Disk.zero, 36) by unfold Disk.start; rw [if_neg HB.out]; rfl)
      go_enter Tryz.func103, Tryz.ntmps103
      go_wp2_with fail
      refine (check_any A B ca cb s t cap false _ ls lt).mono ?_
      rintro e w1 ⟨r, hr, rfl, hz⟩
      obtain rfl : r = 0 := by rw [hr.out, check_ok HB.out]
      have bq0 := hz.at (p := ⟨w.heap.size, 0, none⟩) (v := .slice A s.length ca) ckA; have bq1 := hz.at (p := ⟨w.heap.size, 1, none⟩) (v := .slice B t.length cb) ckA; have bq2 := hz.at (p := ⟨w.heap.size, 2, none⟩) (v := .int .i64 cap) ckA; have bq3 := hz.at (p := ⟨w.heap.size, 3, none⟩) (v := .bool false) ckA
      have zq0 := hz.at (p := ⟨w.heap.size + 1, 0, none⟩) (v := .slice none 0 0) (by simp [go_sem]); have zq1 := hz.at (p := ⟨w.heap.size + 1, 1, none⟩) (v := .slice none 0 0) (by simp [go_sem]); have zq2 := hz.at (p := ⟨w.heap.size + 1, 2, none⟩) (v := .int .i64 0) (by simp [go_sem]); have zq3 := hz.at (p := ⟨w.heap.size + 1, 3, none⟩) (v := .bool false) (by simp [go_sem])
      have zr0 : w1.frozen? ⟨w.heap.size + 1, 0, none⟩ = false := (hz.frozen (p := ⟨w.heap.size + 1, 0, none⟩) (by simp)).trans (by simp [go_sem]); have zr1 : w1.frozen? ⟨w.heap.size + 1, 1, none⟩ = false := (hz.frozen (p := ⟨w.heap.size + 1, 1, none⟩) (by simp)).trans (by simp [go_sem]); have zr2 : w1.frozen? ⟨w.heap.size + 1, 2, none⟩ = false := (hz.frozen (p := ⟨w.heap.size + 1, 2, none⟩) (by simp)).trans (by simp [go_sem]); have zr3 : w1.frozen? ⟨w.heap.size + 1, 3, none⟩ = false := (hz.frozen (p := ⟨w.heap.size + 1, 3, none⟩) (by simp)).trans (by simp [go_sem])
      go_wp2
      refine bodyPost_ret (v := .tuple #[.agg #[.slice none 0 0, .slice none 0 0, .int .i64 0, .bool false], .int .i64 36]) (by simp [results, Tryz.results103, go_sem, zq0, zq1, zq2, zq3]) rfl ?_
      exact RetDevE.zero HM.out.symm abA
    · have HM := Lib.hid (show Disk.start ⟨s, t, cap, true⟩ = (⟨s, [], cap, false⟩, 0) by unfold Disk.start; rw [if_neg HB.out]; rfl)
      go_enter Tryz.func103, Tryz.ntmps103
      go_wp2_with fail
      refine (check_any A B ca cb s t cap true _ ls lt).mono ?_
      rintro e w1 ⟨r, hr, rfl, hz⟩
      obtain rfl : r = 0 := by rw [hr.out, check_ok HB.out]
      have bq0 := hz.at (p := ⟨w.heap.size, 0, none⟩) (v := .slice A s.length ca) ckA; have bq1 := hz.at (p := ⟨w.heap.size, 1, none⟩) (v := .slice B t.length cb) ckA; have bq2 := hz.at (p := ⟨w.heap.size, 2, none⟩) (v := .int .i64 cap) ckA; have bq3 := hz.at (p := ⟨w.heap.size, 3, none⟩) (v := .bool true) ckA
      have zq0 := hz.at (p := ⟨w.heap.size + 1, 0, none⟩) (v := .slice none 0 0) (by simp [go_sem]); have zq1 := hz.at (p := ⟨w.heap.size + 1, 1, none⟩) (v := .slice none 0 0) (by simp [go_sem]); have zq2 := hz.at (p := ⟨w.heap.size + 1, 2, none⟩) (v := .int .i64 0) (by simp [go_sem]); have zq3 := hz.at (p := ⟨w.heap.size + 1, 3, none⟩) (v := .bool false) (by simp [go_sem])
      have zr0 : w1.frozen? ⟨w.heap.size + 1, 0, none⟩ = false := (hz.frozen (p := ⟨w.heap.size + 1, 0, none⟩) (by simp)).trans (by simp [go_sem]); have zr1 : w1.frozen? ⟨w.heap.size + 1, 1, none⟩ = false := (hz.frozen (p := ⟨w.heap.size + 1, 1, none⟩) (by simp)).trans (by simp [go_sem]); have zr2 : w1.frozen? ⟨w.heap.size + 1, 2, none⟩ = false := (hz.frozen (p := ⟨w.heap.size + 1, 2, none⟩) (by simp)).trans (by simp [go_sem]); have zr3 : w1.frozen? ⟨w.heap.size + 1, 3, none⟩ = false := (hz.frozen (p := ⟨w.heap.size + 1, 3, none⟩) (by simp)).trans (by simp [go_sem])
      have z1 := hz.size; simp at z1
      have nw1a := fun (o : Obj) (j : Nat) => World.cell?_alloc_lt w1 o ⟨w.heap.size, j, none⟩ (by simp; omega)
      have nw1c := fun (o : Obj) (j : Nat) => World.cell?_alloc_lt w1 o ⟨w.heap.size + 1, j, none⟩ (by simp; omega)
      go_upto_region 6 with fail
      go_cut [3] (fun s5 wx => CutBox w ⟨s, [], cap, true⟩ s5 wx)
      case first =>
        go_region_with ((first
          | ((go_at_call 116
              (with_reducible refine (concat1_any _ _ s.length ca A s _ (by (exact ckA)) (by first | rfl | (simp; done) | (simp; omega) | omega) (RB.ab hs abA) hca wnA).mono ?_)
              rintro e w3 ⟨L3, D3, c3, e3, rfl, o3, hb3⟩
              have zw3 := hb3.size; (try simp at zw3)
              have o3 : OR 5 (w.heap.size + 1 + 1) w3 D3 c3 L3 := OR.mono o3 wnA)
             have hz3 : Ab ((w.alloc (.cells #[.slice A s.length ca, .slice B t.length cb, .int .i64 cap, .bool true] 24)).alloc (.cells #[.slice none 0 0, .slice none 0 0, .int .i64 0, .bool false] 24)) w3 := abA
             have bq0 := hz3.at (p := ⟨w.heap.size, 0, none⟩) (v := .slice A s.length ca) ckA; have bq1 := hz3.at (p := ⟨w.heap.size, 1, none⟩) (v := .slice B t.length cb) ckA; have bq2 := hz3.at (p := ⟨w.heap.size, 2, none⟩) (v := .int .i64 cap) ckA; have bq3 := hz3.at (p := ⟨w.heap.size, 3, none⟩) (v := .bool true) ckA; have zz3 := hz3.size; simp at zz3; clear hz3
             have nw3a := fun (o : Obj) (j : Nat) => World.cell?_alloc_lt w3 o ⟨w.heap.size, j, none⟩ (by simp; omega)
             have nw3c := fun (o : Obj) (j : Nat) => World.cell?_alloc_lt w3 o ⟨w.heap.size + 1, j, none⟩ (by simp; omega))
          | (go_at_call 115
             refine (with_any A B ca cb s t cap true _ D3 none _ _ c3 0).mono ?_
             rintro e w5 ⟨rfl, hb5⟩
             have hz5 : Ab ((w.alloc (.cells #[.slice A s.length ca, .slice B t.length cb, .int .i64 cap, .bool true] 24)).alloc (.cells #[.slice none 0 0, .slice none 0 0, .int .i64 0, .bool false] 24)) w5 := abA
             have zq0 := hz5.at (p := ⟨w.heap.size + 1, 0, none⟩) (v := .slice none 0 0) (by simp [go_sem]); have zq1 := hz5.at (p := ⟨w.heap.size + 1, 1, none⟩) (v := .slice none 0 0) (by simp [go_sem]); have zq2 := hz5.at (p := ⟨w.heap.size + 1, 2, none⟩) (v := .int .i64 0) (by simp [go_sem]); have zq3 := hz5.at (p := ⟨w.heap.size + 1, 3, none⟩) (v := .bool false) (by simp [go_sem])
             have zr0 : w5.frozen? ⟨w.heap.size + 1, 0, none⟩ = false := (hz5.frozen (p := ⟨w.heap.size + 1, 0, none⟩) (by simp)).trans (by simp [go_sem]); have zr1 : w5.frozen? ⟨w.heap.size + 1, 1, none⟩ = false := (hz5.frozen (p := ⟨w.heap.size + 1, 1, none⟩) (by simp)).trans (by simp [go_sem]); have zr2 : w5.frozen? ⟨w.heap.size + 1, 2, none⟩ = false := (hz5.frozen (p := ⟨w.heap.size + 1, 2, none⟩) (by simp)).trans (by simp [go_sem]); have zr3 : w5.frozen? ⟨w.heap.size + 1, 3, none⟩ = false := (hz5.frozen (p := ⟨w.heap.size + 1, 3, none⟩) (by simp)).trans (by simp [go_sem])
             have bq0 := hz5.at (p := ⟨w.heap.size, 0, none⟩) (v := .slice A s.length ca) ckA; have bq1 := hz5.at (p := ⟨w.heap.size, 1, none⟩) (v := .slice B t.length cb) ckA; have bq2 := hz5.at (p := ⟨w.heap.size, 2, none⟩) (v := .int .i64 cap) ckA; have bq3 := hz5.at (p := ⟨w.heap.size, 3, none⟩) (v := .bool true) ckA
             have bg0 : w5.frozen? ⟨w.heap.size, 0, none⟩ = false := by (repeat (first | with_reducible assumption | (simp [go_sem]; done) | (with_reducible refine fr_alloc ?_ ?_; focus (first | (simp; done) | omega | (simp; omega))) | (with_reducible refine Ab.fr (by assumption) ?_ ?_; focus (first | (simp; done) | omega | (simp; omega)))))
             have bg1 : w5.frozen? ⟨w.heap.size, 1, none⟩ = false := by (repeat (first | with_reducible assumption | (simp [go_sem]; done) | (with_reducible refine fr_alloc ?_ ?_; focus (first | (simp; done) | omega | (simp; omega))) | (with_reducible refine Ab.fr (by assumption) ?_ ?_; focus (first | (simp; done) | omega | (simp; omega)))))
             have bg2 : w5.frozen? ⟨w.heap.size, 2, none⟩ = false := by (repeat (first | with_reducible assumption | (simp [go_sem]; done) | (with_reducible refine fr_alloc ?_ ?_; focus (first | (simp; done) | omega | (simp; omega))) | (with_reducible refine Ab.fr (by assumption) ?_ ?_; focus (first | (simp; done) | omega | (simp; omega)))))
             have bg3 : w5.frozen? ⟨w.heap.size, 3, none⟩ = false := by (repeat (first | with_reducible assumption | (simp [go_sem]; done) | (with_reducible refine fr_alloc ?_ ?_; focus (first | (simp; done) | omega | (simp; omega))) | (with_reducible refine Ab.fr (by assumption) ?_ ?_; focus (first | (simp; done) | omega | (simp; omega)))))
             clear hz5)))
        all_goals (go_wp2_with fail; go_meet)
        all_goals exact ⟨⟨L3, [], cap, true⟩, D3, none, c3, 0, Lib.hid (by rw [e3.out]), rfl, by (first | (simp [go_sem, *]; done) | (exact ckA)), by (first | (simp [go_sem, *]; done) | (exact ckA)), by (first | (simp [go_sem, *]; done) | (exact ckA)), by (first | (simp [go_sem, *]; done) | (exact ckA)), by (first | (simp [go_sem, *]; done) | (repeat (first | with_reducible assumption | (simp [go_sem]; done) | (with_reducible refine fr_alloc ?_ ?_; focus (first | (simp; done) | omega | (simp; omega))) | (with_reducible refine Ab.fr (by assumption) ?_ ?_; focus (first | (simp; done) | omega | (simp; omega)))))), by (first | (simp [go_sem, *]; done) | (exact ckA)), by (first | (simp [go_sem, *]; done) | (exact ckA)), by (first | (simp [go_sem, *]; done) | (exact ckA)), by (first | (simp [go_sem, *]; done) | (exact ckA)), by (first | (simp [go_sem, *]; done) | (repeat (first | with_reducible assumption | (simp [go_sem]; done) | (with_reducible refine fr_alloc ?_ ?_; focus (first | (simp; done) | omega | (simp; omega))) | (with_reducible refine Ab.fr (by assumption) ?_ ?_; focus (first | (simp; done) | omega | (simp; omega)))))), by (first | (simp [go_sem, *]; done) | (repeat (first | with_reducible assumption | (simp [go_sem]; done) | (with_reducible refine fr_alloc ?_ ?_; focus (first | (simp; done) | omega | (simp; omega))) | (with_reducible refine Ab.fr (by assumption) ?_ ?_; focus (first | (simp; done) | omega | (simp; omega)))))), by (first | (simp [go_sem, *]; done) | (repeat (first | with_reducible assumption | (simp [go_sem]; done) | (with_reducible refine fr_alloc ?_ ?_; focus (first | (simp; done) | omega | (simp; omega))) | (with_reducible refine Ab.fr (by assumption) ?_ ?_; focus (first | (simp; done) | omega | (simp; omega)))))), by (first | (simp [go_sem, *]; done) | (repeat (first | with_reducible assumption | (simp [go_sem]; done) | (with_reducible refine fr_alloc ?_ ?_; focus (first | (simp; done) | omega | (simp; omega))) | (with_reducible refine Ab.fr (by assumption) ?_ ?_; focus (first | (simp; done) | omega | (simp; omega)))))), (show OR 5 (w.heap.size + 1 + 1) _ D3 c3 L3 from orA), OR.none_, abA⟩
      case rest =>
        obtain ⟨r, E1, E2, k1, k2, er, rfl, q0, q1, q2, q3, r3, x0, x1, x2, x3, f0, f1, f2, f3, p5, p6, hbc⟩ := hcut
        go_wp2
        refine bodyPost_ret (v := .tuple #[.agg #[.slice E1 r.s.length k1, .slice E2 r.t.length k2, .int .i64 r.cap, .bool false], .int .i64 0]) (by simp [results, Tryz.results103, go_sem, *]) rfl ?_
        exact ⟨⟨r.s, r.t, r.cap, false⟩, 0, E1, E2, k1, k2, Lib.hid (by rw [HM.out]; exact Prod.ext (Dev.ext' (by rw [er.out]) (by rw [er.out]) (by rw [er.out]) rfl) rfl), rfl, OR.mono (lo := w.heap.size + 1 + 1) orA wnA, OR.mono (lo := w.heap.size + 1 + 1) orA wnA, abA⟩
end Go.Proofs.YthgcfjhnnhigoaaGreat
