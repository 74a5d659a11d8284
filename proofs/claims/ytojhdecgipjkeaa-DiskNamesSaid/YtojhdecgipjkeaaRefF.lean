import Derived.Test.YtojhdecgipjkeaaRefB
import Derived.Test.YtojhdecgipjkeaaTry1
set_option linter.unusedVariables false
namespace Go.Proofs.Ytojhdecgipjkeaa
open Go.RowKit Disk

theorem refNew_any (n : Int) (w : World) : Calls Try.prog 26 #[.int .i64 n] w (RetDevE w (Disk.new n)) := by
  by_cases h : n < 0 ∨ 20000 < n
  · have HM := Lib.hid (show Disk.new n = (Disk.zero, 2) from if_pos h)
    go_enter Try.func26, Try.ntmps26
    go_wp2
    all_goals first | (exfalso; omega) | skip
    all_goals refine bodyPost_ret (v := .tuple #[.agg #[.slice none 0 0, .slice none 0 0, .int .i64 0, .bool false], .int .i64 2]) (by simp [results, Try.results26, go_sem]) rfl ?_
    all_goals exact RetDevE.zero HM.out.symm (by repeat (first | with_reducible exact Ab.refl _ | with_reducible assumption | with_reducible refine Ab.drew ?_ | with_reducible refine Ab.drewN ?_ _ | with_reducible refine Ab.alloc ?_ _ | with_reducible refine Ab.trans ?_ (by assumption) | with_reducible refine Ab.set ?_ (by first | (simp; done) | omega | (simp; omega)) _))
  · have HM := Lib.hid (show Disk.new n = (⟨[], [], n, false⟩, 0) from if_neg h)
    go_enter Try.func26, Try.ntmps26
    go_wp2
    all_goals first | (exfalso; omega) | skip
    all_goals refine bodyPost_ret (v := .tuple #[.agg #[.slice none 0 0, .slice none 0 0, .int .i64 n, .bool false], .int .i64 0]) (by simp [results, Try.results26, go_sem]) rfl ?_
    all_goals exact ⟨⟨[], [], n, false⟩, 0, none, none, 0, 0, HM.out.symm, rfl, OR.none_, OR.none_, (by repeat (first | with_reducible exact Ab.refl _ | with_reducible assumption | with_reducible refine Ab.drew ?_ | with_reducible refine Ab.drewN ?_ _ | with_reducible refine Ab.alloc ?_ _ | with_reducible refine Ab.trans ?_ (by assumption) | with_reducible refine Ab.set ?_ (by first | (simp; done) | omega | (simp; omega)) _))⟩

theorem great_no (A B : Option Addr) (ca cb : Nat) (s t : List UInt8) (cap : Int) (dn : Bool) (w : World) (ls : s.length ≤ 3000) (lt : t.length ≤ 3000) :
    Calls Try.prog 24 #[.agg #[.slice A s.length ca, .slice B t.length cb, .int .i64 cap, .bool dn]] w fun e w' => e = .returned (.bool false) ∧ Ab w w' := by
  have h1 : ¬ 3000 < s.length := by omega
  have h2 : ¬ 3000 < t.length := by omega
  go_enter Try.func24, Try.ntmps24
  go_wp2
  go_ret
  exact ⟨by simp; omega, (by repeat (first | with_reducible exact Ab.refl _ | with_reducible assumption | with_reducible refine Ab.drew ?_ | with_reducible refine Ab.drewN ?_ _ | with_reducible refine Ab.alloc ?_ _ | with_reducible refine Ab.trans ?_ (by assumption) | with_reducible refine Ab.set ?_ (by first | (simp; done) | omega | (simp; omega)) _))⟩
theorem great_yes (A B : Option Addr) (ca cb : Nat) (s t : List UInt8) (cap : Int) (dn : Bool) (w : World) (h : 3000 < s.length ∨ 3000 < t.length) :
    Calls Try.prog 24 #[.agg #[.slice A s.length ca, .slice B t.length cb, .int .i64 cap, .bool dn]] w fun e w' => e = .returned (.bool true) ∧ Ab w w' := by
  by_cases h1 : 3000 < s.length
  · go_enter Try.func24, Try.ntmps24
    go_wp2
    all_goals go_ret
    all_goals exact ⟨by first | (simp; done) | (simp; omega), (by repeat (first | with_reducible exact Ab.refl _ | with_reducible assumption | with_reducible refine Ab.drew ?_ | with_reducible refine Ab.drewN ?_ _ | with_reducible refine Ab.alloc ?_ _ | with_reducible refine Ab.trans ?_ (by assumption) | with_reducible refine Ab.set ?_ (by first | (simp; done) | omega | (simp; omega)) _))⟩
  · have h2 : 3000 < t.length := by omega
    clear h
    go_enter Try.func24, Try.ntmps24
    go_wp2
    all_goals go_ret
    all_goals exact ⟨by first | (simp; done) | (simp; omega), (by repeat (first | with_reducible exact Ab.refl _ | with_reducible assumption | with_reducible refine Ab.drew ?_ | with_reducible refine Ab.drewN ?_ _ | with_reducible refine Ab.alloc ?_ _ | with_reducible refine Ab.trans ?_ (by assumption) | with_reducible refine Ab.set ?_ (by first | (simp; done) | omega | (simp; omega)) _))⟩

theorem sameBytes_refl (A B : Option Addr) (c d : Nat) (x : List UInt8) (w : World) (hx : RB w 0 A x) (hy : RB w 0 B x) (hl : x.length ≤ 140737488351232) :
    Calls Try.prog 31 #[.slice A x.length c, .slice B x.length d] w fun e w' => e = .returned (.bool true) ∧ ∃ n, w' = w.drewN n :=
  (sameBytes_eq A B c d x x w hx hy hl hl).mono fun _ _ h => ⟨by rw [h.1, beq_self_eq_true], h.2⟩

theorem same_true (A B C D : Option Addr) (ca cb cc cd : Nat) (s t : List UInt8) (cap : Int) (dn : Bool) (w : World) (hs : RB w 0 A s) (ht : RB w 0 B t) (hs' : RB w 0 C s) (ht' : RB w 0 D t) (ls : s.length ≤ 4000000) (lt : t.length ≤ 4000000) :
    Calls Try.prog 30 #[.agg #[.slice A s.length ca, .slice B t.length cb, .int .i64 cap, .bool dn], .agg #[.slice C s.length cc, .slice D t.length cd, .int .i64 cap, .bool dn]] w fun e w' => e = .returned (.bool true) ∧ Ab w w' := by
  go_enter Try.func30, Try.ntmps30
  go_wp2_with fail
  refine (sameBytes_refl A C ca cc s _ (hs.ab (by repeat (first | with_reducible exact Ab.refl _ | with_reducible assumption | with_reducible refine Ab.drew ?_ | with_reducible refine Ab.drewN ?_ _ | with_reducible refine Ab.alloc ?_ _ | with_reducible refine Ab.trans ?_ (by assumption) | with_reducible refine Ab.set ?_ (by first | (simp; done) | omega | (simp; omega)) _))) (hs'.ab (by repeat (first | with_reducible exact Ab.refl _ | with_reducible assumption | with_reducible refine Ab.drew ?_ | with_reducible refine Ab.drewN ?_ _ | with_reducible refine Ab.alloc ?_ _ | with_reducible refine Ab.trans ?_ (by assumption) | with_reducible refine Ab.set ?_ (by first | (simp; done) | omega | (simp; omega)) _))) (by omega)).mono ?_
  rintro e w1 ⟨rfl, n1, rfl⟩
  go_wp2_with fail
  refine (sameBytes_refl B D cb cd t _ (ht.ab (by repeat (first | with_reducible exact Ab.refl _ | with_reducible assumption | with_reducible refine Ab.drew ?_ | with_reducible refine Ab.drewN ?_ _ | with_reducible refine Ab.alloc ?_ _ | with_reducible refine Ab.trans ?_ (by assumption) | with_reducible refine Ab.set ?_ (by first | (simp; done) | omega | (simp; omega)) _))) (ht'.ab (by repeat (first | with_reducible exact Ab.refl _ | with_reducible assumption | with_reducible refine Ab.drew ?_ | with_reducible refine Ab.drewN ?_ _ | with_reducible refine Ab.alloc ?_ _ | with_reducible refine Ab.trans ?_ (by assumption) | with_reducible refine Ab.set ?_ (by first | (simp; done) | omega | (simp; omega)) _))) (by omega)).mono ?_
  rintro e w2 ⟨rfl, n2, rfl⟩
  go_wp2
  go_ret
  exact ⟨rfl, (by repeat (first | with_reducible exact Ab.refl _ | with_reducible assumption | with_reducible refine Ab.drew ?_ | with_reducible refine Ab.drewN ?_ _ | with_reducible refine Ab.alloc ?_ _ | with_reducible refine Ab.trans ?_ (by assumption) | with_reducible refine Ab.set ?_ (by first | (simp; done) | omega | (simp; omega)) _))⟩

theorem starts_true (A C : Option Addr) (ca cc : Nat) (x y : List UInt8) (w : World) (hx : RB w 0 A x) (hy : RB w 0 C y) (hca : x.length ≤ ca) (h : y = x.take y.length) (lx : x.length ≤ 4000000) :
    Calls Try.prog 41 #[.slice A x.length ca, .slice C y.length cc] w fun e w' => e = .returned (.bool true) ∧ Ab w w' := by
  have hl : y.length ≤ x.length := by have := congrArg List.length h; rw [List.length_take] at this; omega
  have H := Lib.hid h; clear h
  have h0 : (0 : Int) ≤ (y.length : Int) := by omega
  have h1 : (y.length : Int) ≤ (ca : Int) := by omega
  have hxy : RB w 0 A y := by rw [H.out]; exact hx.take _
  go_enter Try.func41, Try.ntmps41
  go_wp2_with fail
  refine (sameBytes_refl A C _ cc y _ (hxy.ab (by repeat (first | with_reducible exact Ab.refl _ | with_reducible assumption | with_reducible refine Ab.drew ?_ | with_reducible refine Ab.drewN ?_ _ | with_reducible refine Ab.alloc ?_ _ | with_reducible refine Ab.trans ?_ (by assumption) | with_reducible refine Ab.set ?_ (by first | (simp; done) | omega | (simp; omega)) _))) (hy.ab (by repeat (first | with_reducible exact Ab.refl _ | with_reducible assumption | with_reducible refine Ab.drew ?_ | with_reducible refine Ab.drewN ?_ _ | with_reducible refine Ab.alloc ?_ _ | with_reducible refine Ab.trans ?_ (by assumption) | with_reducible refine Ab.set ?_ (by first | (simp; done) | omega | (simp; omega)) _))) (by omega)).mono ?_
  rintro e w1 ⟨rfl, n1, rfl⟩
  go_wp2
  go_ret
  exact ⟨rfl, (by repeat (first | with_reducible exact Ab.refl _ | with_reducible assumption | with_reducible refine Ab.drew ?_ | with_reducible refine Ab.drewN ?_ _ | with_reducible refine Ab.alloc ?_ _ | with_reducible refine Ab.trans ?_ (by assumption) | with_reducible refine Ab.set ?_ (by first | (simp; done) | omega | (simp; omega)) _))⟩

theorem refSize_any (A B : Option Addr) (ca cb : Nat) (s t : List UInt8) (cap : Int) (dn : Bool) (w : World) (hs : RB w 0 A s) (ht : RB w 0 B t) (hca : s.length ≤ ca) (hcb : t.length ≤ cb) (ls : s.length ≤ 1000000) (lt : t.length ≤ 1000000) :
    Calls Try.prog 27 #[.agg #[.slice A s.length ca, .slice B t.length cb, .int .i64 cap, .bool dn]] w (RetIntE w (Disk.size ⟨s, t, cap, dn⟩)) := by
  by_cases hb : bad ⟨s, t, cap, dn⟩
  · have HM := Lib.hid (show Disk.size ⟨s, t, cap, dn⟩ = (0, 8) from if_pos hb)
    have HB := Lib.hid hb; clear hb
    go_enter Try.func27, Try.ntmps27
    go_wp2_with fail
    refine (refCheck_any A B ca cb s t cap dn _ ls lt).mono ?_
    rintro e w1 ⟨r, hr, rfl, hb1⟩
    obtain rfl : r = 8 := by rw [hr.out, check_bad HB.out]
    have bq0 := hb1.at (p := ⟨w.heap.size, 0, none⟩) (v := .slice A s.length ca) (by (repeat (first | with_reducible assumption | (simp [go_sem]; done) | with_reducible apply cell_alloc | with_reducible apply cell_drew | with_reducible apply cell_drewN | (with_reducible apply Ab.at; with_reducible assumption) | (with_reducible refine cell_set ?_ ?_; rotate_left; focus (first | (simp; done) | (simp; omega))) | (with_reducible refine cell_setb ?_ ?_; rotate_left; focus (first | omega | (simp only; omega) | (simp; omega)))))); have bq1 := hb1.at (p := ⟨w.heap.size, 1, none⟩) (v := .slice B t.length cb) (by (repeat (first | with_reducible assumption | (simp [go_sem]; done) | with_reducible apply cell_alloc | with_reducible apply cell_drew | with_reducible apply cell_drewN | (with_reducible apply Ab.at; with_reducible assumption) | (with_reducible refine cell_set ?_ ?_; rotate_left; focus (first | (simp; done) | (simp; omega))) | (with_reducible refine cell_setb ?_ ?_; rotate_left; focus (first | omega | (simp only; omega) | (simp; omega)))))); have bq2 := hb1.at (p := ⟨w.heap.size, 2, none⟩) (v := .int .i64 cap) (by (repeat (first | with_reducible assumption | (simp [go_sem]; done) | with_reducible apply cell_alloc | with_reducible apply cell_drew | with_reducible apply cell_drewN | (with_reducible apply Ab.at; with_reducible assumption) | (with_reducible refine cell_set ?_ ?_; rotate_left; focus (first | (simp; done) | (simp; omega))) | (with_reducible refine cell_setb ?_ ?_; rotate_left; focus (first | omega | (simp only; omega) | (simp; omega)))))); have bq3 := hb1.at (p := ⟨w.heap.size, 3, none⟩) (v := .bool dn) (by (repeat (first | with_reducible assumption | (simp [go_sem]; done) | with_reducible apply cell_alloc | with_reducible apply cell_drew | with_reducible apply cell_drewN | (with_reducible apply Ab.at; with_reducible assumption) | (with_reducible refine cell_set ?_ ?_; rotate_left; focus (first | (simp; done) | (simp; omega))) | (with_reducible refine cell_setb ?_ ?_; rotate_left; focus (first | omega | (simp only; omega) | (simp; omega))))))
    go_wp2_with fail
    refine (refCheck_any A B ca cb s t cap dn _ ls lt).mono ?_
    rintro e w2 ⟨r2, hr2, rfl, hb2⟩
    obtain rfl : r2 = 8 := by rw [hr2.out, check_bad HB.out]
    go_wp2
    go_ret2
    exact ⟨0, 8, HM.out.symm, rfl, (by repeat (first | with_reducible exact Ab.refl _ | with_reducible assumption | with_reducible refine Ab.drew ?_ | with_reducible refine Ab.drewN ?_ _ | with_reducible refine Ab.alloc ?_ _ | with_reducible refine Ab.trans ?_ (by assumption) | with_reducible refine Ab.set ?_ (by first | (simp; done) | omega | (simp; omega)) _))⟩
  · have HM := Lib.hid (show Disk.size ⟨s, t, cap, dn⟩ = (((s.length + t.length : Nat) : Int), 0) from if_neg hb)
    have HB := Lib.hid hb; clear hb
    go_enter Try.func27, Try.ntmps27
    go_wp2_with fail
    refine (refCheck_any A B ca cb s t cap dn _ ls lt).mono ?_
    rintro e w1 ⟨r, hr, rfl, hb1⟩
    obtain rfl : r = 0 := by rw [hr.out, check_ok HB.out]
    have bq0 := hb1.at (p := ⟨w.heap.size, 0, none⟩) (v := .slice A s.length ca) (by (repeat (first | with_reducible assumption | (simp [go_sem]; done) | with_reducible apply cell_alloc | with_reducible apply cell_drew | with_reducible apply cell_drewN | (with_reducible apply Ab.at; with_reducible assumption) | (with_reducible refine cell_set ?_ ?_; rotate_left; focus (first | (simp; done) | (simp; omega))) | (with_reducible refine cell_setb ?_ ?_; rotate_left; focus (first | omega | (simp only; omega) | (simp; omega)))))); have bq1 := hb1.at (p := ⟨w.heap.size, 1, none⟩) (v := .slice B t.length cb) (by (repeat (first | with_reducible assumption | (simp [go_sem]; done) | with_reducible apply cell_alloc | with_reducible apply cell_drew | with_reducible apply cell_drewN | (with_reducible apply Ab.at; with_reducible assumption) | (with_reducible refine cell_set ?_ ?_; rotate_left; focus (first | (simp; done) | (simp; omega))) | (with_reducible refine cell_setb ?_ ?_; rotate_left; focus (first | omega | (simp only; omega) | (simp; omega)))))); have bq2 := hb1.at (p := ⟨w.heap.size, 2, none⟩) (v := .int .i64 cap) (by (repeat (first | with_reducible assumption | (simp [go_sem]; done) | with_reducible apply cell_alloc | with_reducible apply cell_drew | with_reducible apply cell_drewN | (with_reducible apply Ab.at; with_reducible assumption) | (with_reducible refine cell_set ?_ ?_; rotate_left; focus (first | (simp; done) | (simp; omega))) | (with_reducible refine cell_setb ?_ ?_; rotate_left; focus (first | omega | (simp only; omega) | (simp; omega)))))); have bq3 := hb1.at (p := ⟨w.heap.size, 3, none⟩) (v := .bool dn) (by (repeat (first | with_reducible assumption | (simp [go_sem]; done) | with_reducible apply cell_alloc | with_reducible apply cell_drew | with_reducible apply cell_drewN | (with_reducible apply Ab.at; with_reducible assumption) | (with_reducible refine cell_set ?_ ?_; rotate_left; focus (first | (simp; done) | (simp; omega))) | (with_reducible refine cell_setb ?_ ?_; rotate_left; focus (first | omega | (simp only; omega) | (simp; omega))))))
    go_wp2_with fail
    refine (whole_any A B ca cb s t cap dn _ (hs.ab (by repeat (first | with_reducible exact Ab.refl _ | with_reducible assumption | with_reducible refine Ab.drew ?_ | with_reducible refine Ab.drewN ?_ _ | with_reducible refine Ab.alloc ?_ _ | with_reducible refine Ab.trans ?_ (by assumption) | with_reducible refine Ab.set ?_ (by first | (simp; done) | omega | (simp; omega)) _))) (ht.ab (by repeat (first | with_reducible exact Ab.refl _ | with_reducible assumption | with_reducible refine Ab.drew ?_ | with_reducible refine Ab.drewN ?_ _ | with_reducible refine Ab.alloc ?_ _ | with_reducible refine Ab.trans ?_ (by assumption) | with_reducible refine Ab.set ?_ (by first | (simp; done) | omega | (simp; omega)) _))) hca hcb ls lt).mono ?_
    rintro e w2 ⟨x, D, c, hx, rfl, ho, hb2⟩
    go_wp2
    go_ret2
    exact ⟨x.length, 0, Lib.hid (by rw [HM.out, hx.out]; simp), rfl, (by repeat (first | with_reducible exact Ab.refl _ | with_reducible assumption | with_reducible refine Ab.drew ?_ | with_reducible refine Ab.drewN ?_ _ | with_reducible refine Ab.alloc ?_ _ | with_reducible refine Ab.trans ?_ (by assumption) | with_reducible refine Ab.set ?_ (by first | (simp; done) | omega | (simp; omega)) _))⟩

theorem refRead_any (A B : Option Addr) (ca cb : Nat) (s t : List UInt8) (cap : Int) (dn : Bool) (w : World) (hs : RB w 0 A s) (ht : RB w 0 B t) (hca : s.length ≤ ca) (hcb : t.length ≤ cb) (ls : s.length ≤ 1000000) (lt : t.length ≤ 1000000) (at_ n : Int) :
    Calls Try.prog 28 #[.agg #[.slice A s.length ca, .slice B t.length cb, .int .i64 cap, .bool dn], .int .i64 at_, .int .i64 n] w (RetBE w (Disk.read ⟨s, t, cap, dn⟩ at_ n)) := by
  by_cases hu : up ⟨s, t, cap, dn⟩ = 0
  · obtain ⟨hnb, hdn⟩ := up_zero hu
    obtain rfl : dn = false := hdn
    have HU := Lib.hid hu; have HN := Lib.hid hnb; clear hu hnb
    by_cases hn : at_ < 0 ∨ n < 0 ∨ ((s.length + t.length : Nat) : Int) - at_ < n
    · have HM := Lib.hid (show Disk.read ⟨s, t, cap, false⟩ at_ n = ([], 2) by
        unfold Disk.read; rw [if_neg (by simpa using HU.out)]; exact if_pos hn)
      go_enter Try.func28, Try.ntmps28
      go_wp2_with fail
      refine (refUp_any A B ca cb s t cap false _ ls lt).mono ?_
      rintro e w1 ⟨r, hr, rfl, hb1⟩
      obtain rfl : r = 0 := hr.out.trans HU.out
      have bq0 := hb1.at (p := ⟨w.heap.size, 0, none⟩) (v := .slice A s.length ca) (by (repeat (first | with_reducible assumption | (simp [go_sem]; done) | with_reducible apply cell_alloc | with_reducible apply cell_drew | with_reducible apply cell_drewN | (with_reducible apply Ab.at; with_reducible assumption) | (with_reducible refine cell_set ?_ ?_; rotate_left; focus (first | (simp; done) | (simp; omega))) | (with_reducible refine cell_setb ?_ ?_; rotate_left; focus (first | omega | (simp only; omega) | (simp; omega)))))); have bq1 := hb1.at (p := ⟨w.heap.size, 1, none⟩) (v := .slice B t.length cb) (by (repeat (first | with_reducible assumption | (simp [go_sem]; done) | with_reducible apply cell_alloc | with_reducible apply cell_drew | with_reducible apply cell_drewN | (with_reducible apply Ab.at; with_reducible assumption) | (with_reducible refine cell_set ?_ ?_; rotate_left; focus (first | (simp; done) | (simp; omega))) | (with_reducible refine cell_setb ?_ ?_; rotate_left; focus (first | omega | (simp only; omega) | (simp; omega)))))); have bq2 := hb1.at (p := ⟨w.heap.size, 2, none⟩) (v := .int .i64 cap) (by (repeat (first | with_reducible assumption | (simp [go_sem]; done) | with_reducible apply cell_alloc | with_reducible apply cell_drew | with_reducible apply cell_drewN | (with_reducible apply Ab.at; with_reducible assumption) | (with_reducible refine cell_set ?_ ?_; rotate_left; focus (first | (simp; done) | (simp; omega))) | (with_reducible refine cell_setb ?_ ?_; rotate_left; focus (first | omega | (simp only; omega) | (simp; omega)))))); have bq3 := hb1.at (p := ⟨w.heap.size, 3, none⟩) (v := .bool false) (by (repeat (first | with_reducible assumption | (simp [go_sem]; done) | with_reducible apply cell_alloc | with_reducible apply cell_drew | with_reducible apply cell_drewN | (with_reducible apply Ab.at; with_reducible assumption) | (with_reducible refine cell_set ?_ ?_; rotate_left; focus (first | (simp; done) | (simp; omega))) | (with_reducible refine cell_setb ?_ ?_; rotate_left; focus (first | omega | (simp only; omega) | (simp; omega))))))
      go_wp2_with fail
      refine (whole_any A B ca cb s t cap false _ (hs.ab (by repeat (first | with_reducible exact Ab.refl _ | with_reducible assumption | with_reducible refine Ab.drew ?_ | with_reducible refine Ab.drewN ?_ _ | with_reducible refine Ab.alloc ?_ _ | with_reducible refine Ab.trans ?_ (by assumption) | with_reducible refine Ab.set ?_ (by first | (simp; done) | omega | (simp; omega)) _))) (ht.ab (by repeat (first | with_reducible exact Ab.refl _ | with_reducible assumption | with_reducible refine Ab.drew ?_ | with_reducible refine Ab.drewN ?_ _ | with_reducible refine Ab.alloc ?_ _ | with_reducible refine Ab.trans ?_ (by assumption) | with_reducible refine Ab.set ?_ (by first | (simp; done) | omega | (simp; omega)) _))) hca hcb ls lt).mono ?_
      rintro e w2 ⟨x, D, c, hx, rfl, ho, hb2⟩
      obtain ⟨xa, xb⟩ : x.length ≤ s.length + t.length ∧ s.length + t.length ≤ x.length := by rw [hx.out]; simp
      go_wp2
      all_goals first | (exfalso; omega) | skip
      all_goals go_ret2
      all_goals exact ⟨[], 2, none, 0, HM.out.symm, rfl, RB.nil, Nat.le_refl _, (by repeat (first | with_reducible exact Ab.refl _ | with_reducible assumption | with_reducible refine Ab.drew ?_ | with_reducible refine Ab.drewN ?_ _ | with_reducible refine Ab.alloc ?_ _ | with_reducible refine Ab.trans ?_ (by assumption) | with_reducible refine Ab.set ?_ (by first | (simp; done) | omega | (simp; omega)) _))⟩
    obtain ⟨i, rfl⟩ := Int.eq_ofNat_of_zero_le (by omega : 0 ≤ at_)
    obtain ⟨k, rfl⟩ := Int.eq_ofNat_of_zero_le (by omega : 0 ≤ n)
    have hik : i + k ≤ s.length + t.length := by omega
    have HM := Lib.hid (show Disk.read ⟨s, t, cap, false⟩ (i : Int) (k : Int) = (((s ++ t).drop i).take k, 0) by
      unfold Disk.read; rw [if_neg (by simpa using HU.out)]; exact if_neg hn)
    clear hn
    obtain ⟨m, hm⟩ : ∃ m : Nat, m = i + k := ⟨_, rfl⟩
    have hmm : (i : Int) + (k : Int) = (m : Int) := by omega
    have hm1 : m ≤ s.length + t.length := by omega
    have hm2 : i ≤ m := by omega
    have HK := Lib.hid hm; clear hm
    have hsl := fun a len cap w => run_cuts i m .i64 .i64 a len cap w
    go_enter Try.func28, Try.ntmps28
    go_wp2_with fail
    refine (refUp_any A B ca cb s t cap false _ ls lt).mono ?_
    rintro e w1 ⟨r, hr, rfl, hb1⟩
    obtain rfl : r = 0 := hr.out.trans HU.out
    have bq0 := hb1.at (p := ⟨w.heap.size, 0, none⟩) (v := .slice A s.length ca) (by (repeat (first | with_reducible assumption | (simp [go_sem]; done) | with_reducible apply cell_alloc | with_reducible apply cell_drew | with_reducible apply cell_drewN | (with_reducible apply Ab.at; with_reducible assumption) | (with_reducible refine cell_set ?_ ?_; rotate_left; focus (first | (simp; done) | (simp; omega))) | (with_reducible refine cell_setb ?_ ?_; rotate_left; focus (first | omega | (simp only; omega) | (simp; omega)))))); have bq1 := hb1.at (p := ⟨w.heap.size, 1, none⟩) (v := .slice B t.length cb) (by (repeat (first | with_reducible assumption | (simp [go_sem]; done) | with_reducible apply cell_alloc | with_reducible apply cell_drew | with_reducible apply cell_drewN | (with_reducible apply Ab.at; with_reducible assumption) | (with_reducible refine cell_set ?_ ?_; rotate_left; focus (first | (simp; done) | (simp; omega))) | (with_reducible refine cell_setb ?_ ?_; rotate_left; focus (first | omega | (simp only; omega) | (simp; omega)))))); have bq2 := hb1.at (p := ⟨w.heap.size, 2, none⟩) (v := .int .i64 cap) (by (repeat (first | with_reducible assumption | (simp [go_sem]; done) | with_reducible apply cell_alloc | with_reducible apply cell_drew | with_reducible apply cell_drewN | (with_reducible apply Ab.at; with_reducible assumption) | (with_reducible refine cell_set ?_ ?_; rotate_left; focus (first | (simp; done) | (simp; omega))) | (with_reducible refine cell_setb ?_ ?_; rotate_left; focus (first | omega | (simp only; omega) | (simp; omega)))))); have bq3 := hb1.at (p := ⟨w.heap.size, 3, none⟩) (v := .bool false) (by (repeat (first | with_reducible assumption | (simp [go_sem]; done) | with_reducible apply cell_alloc | with_reducible apply cell_drew | with_reducible apply cell_drewN | (with_reducible apply Ab.at; with_reducible assumption) | (with_reducible refine cell_set ?_ ?_; rotate_left; focus (first | (simp; done) | (simp; omega))) | (with_reducible refine cell_setb ?_ ?_; rotate_left; focus (first | omega | (simp only; omega) | (simp; omega))))))
    go_wp2_with fail
    refine (whole_any A B ca cb s t cap false _ (hs.ab (by repeat (first | with_reducible exact Ab.refl _ | with_reducible assumption | with_reducible refine Ab.drew ?_ | with_reducible refine Ab.drewN ?_ _ | with_reducible refine Ab.alloc ?_ _ | with_reducible refine Ab.trans ?_ (by assumption) | with_reducible refine Ab.set ?_ (by first | (simp; done) | omega | (simp; omega)) _))) (ht.ab (by repeat (first | with_reducible exact Ab.refl _ | with_reducible assumption | with_reducible refine Ab.drew ?_ | with_reducible refine Ab.drewN ?_ _ | with_reducible refine Ab.alloc ?_ _ | with_reducible refine Ab.trans ?_ (by assumption) | with_reducible refine Ab.set ?_ (by first | (simp; done) | omega | (simp; omega)) _))) hca hcb ls lt).mono ?_
    rintro e w2 ⟨x, D, c, hx, rfl, ho, hb2⟩
    obtain ⟨xa, xb⟩ : x.length ≤ s.length + t.length ∧ s.length + t.length ≤ x.length := by rw [hx.out]; simp
    have hmc : m ≤ c := by have := ho.le; omega
    go_wp2
    go_ret2
    exact ⟨(x.drop i).take k, 0, cutA D c i, c - i, Lib.hid (by rw [HM.out, hx.out]), by simp; omega, ((ho.rb.mono (Ab.size (by repeat (first | with_reducible exact Ab.refl _ | with_reducible assumption | with_reducible refine Ab.drew ?_ | with_reducible refine Ab.drewN ?_ _ | with_reducible refine Ab.alloc ?_ _ | with_reducible refine Ab.trans ?_ (by assumption) | with_reducible refine Ab.set ?_ (by first | (simp; done) | omega | (simp; omega)) _)))).cut i c ho.le).take k, by simp; omega, (by repeat (first | with_reducible exact Ab.refl _ | with_reducible assumption | with_reducible refine Ab.drew ?_ | with_reducible refine Ab.drewN ?_ _ | with_reducible refine Ab.alloc ?_ _ | with_reducible refine Ab.trans ?_ (by assumption) | with_reducible refine Ab.set ?_ (by first | (simp; done) | omega | (simp; omega)) _))⟩
  · have HM := Lib.hid (show Disk.read ⟨s, t, cap, dn⟩ at_ n = ([], up ⟨s, t, cap, dn⟩) from if_pos hu)
    generalize hv : up ⟨s, t, cap, dn⟩ = u at hu HM
    have HV := Lib.hid hv; clear hv
    have hne : (u != 0) = true := by simpa using hu
    clear hu
    go_enter Try.func28, Try.ntmps28
    go_wp2_with fail
    refine (refUp_any A B ca cb s t cap dn _ ls lt).mono ?_
    rintro e w1 ⟨r, hr, rfl, hb1⟩
    obtain rfl : r = u := hr.out.trans HV.out
    have bq0 := hb1.at (p := ⟨w.heap.size, 0, none⟩) (v := .slice A s.length ca) (by (repeat (first | with_reducible assumption | (simp [go_sem]; done) | with_reducible apply cell_alloc | with_reducible apply cell_drew | with_reducible apply cell_drewN | (with_reducible apply Ab.at; with_reducible assumption) | (with_reducible refine cell_set ?_ ?_; rotate_left; focus (first | (simp; done) | (simp; omega))) | (with_reducible refine cell_setb ?_ ?_; rotate_left; focus (first | omega | (simp only; omega) | (simp; omega)))))); have bq1 := hb1.at (p := ⟨w.heap.size, 1, none⟩) (v := .slice B t.length cb) (by (repeat (first | with_reducible assumption | (simp [go_sem]; done) | with_reducible apply cell_alloc | with_reducible apply cell_drew | with_reducible apply cell_drewN | (with_reducible apply Ab.at; with_reducible assumption) | (with_reducible refine cell_set ?_ ?_; rotate_left; focus (first | (simp; done) | (simp; omega))) | (with_reducible refine cell_setb ?_ ?_; rotate_left; focus (first | omega | (simp only; omega) | (simp; omega)))))); have bq2 := hb1.at (p := ⟨w.heap.size, 2, none⟩) (v := .int .i64 cap) (by (repeat (first | with_reducible assumption | (simp [go_sem]; done) | with_reducible apply cell_alloc | with_reducible apply cell_drew | with_reducible apply cell_drewN | (with_reducible apply Ab.at; with_reducible assumption) | (with_reducible refine cell_set ?_ ?_; rotate_left; focus (first | (simp; done) | (simp; omega))) | (with_reducible refine cell_setb ?_ ?_; rotate_left; focus (first | omega | (simp only; omega) | (simp; omega)))))); have bq3 := hb1.at (p := ⟨w.heap.size, 3, none⟩) (v := .bool dn) (by (repeat (first | with_reducible assumption | (simp [go_sem]; done) | with_reducible apply cell_alloc | with_reducible apply cell_drew | with_reducible apply cell_drewN | (with_reducible apply Ab.at; with_reducible assumption) | (with_reducible refine cell_set ?_ ?_; rotate_left; focus (first | (simp; done) | (simp; omega))) | (with_reducible refine cell_setb ?_ ?_; rotate_left; focus (first | omega | (simp only; omega) | (simp; omega))))))
    go_wp2_with fail
    refine (refUp_any A B ca cb s t cap dn _ ls lt).mono ?_
    rintro e w2 ⟨r2, hr2, rfl, hb2⟩
    obtain rfl : r2 = r := hr2.out.trans HV.out
    go_wp2
    go_ret2
    exact ⟨[], r2, none, 0, HM.out.symm, rfl, RB.nil, Nat.le_refl _, (by repeat (first | with_reducible exact Ab.refl _ | with_reducible assumption | with_reducible refine Ab.drew ?_ | with_reducible refine Ab.drewN ?_ _ | with_reducible refine Ab.alloc ?_ _ | with_reducible refine Ab.trans ?_ (by assumption) | with_reducible refine Ab.set ?_ (by first | (simp; done) | omega | (simp; omega)) _))⟩
end Go.Proofs.Ytojhdecgipjkeaa
