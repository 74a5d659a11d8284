import Derived.Test.YtehagdpcegpbjaaImpA
namespace Go.Proofs.Ytehagdpcegpbjaa
open Go.RowKit Disk

theorem bytesOf_any (A B : Option Addr) (ca cb : Nat) (s t : List UInt8) (cap : Int) (dn : Bool) (w : World) (ls : s.length ≤ 1000000) (lt : t.length ≤ 1000000) :
    Calls Try.prog 61 #[.agg #[.slice A s.length ca, .slice B t.length cb, .int .i64 cap, .bool dn]] w fun e w' => e = .returned (.int .i64 ((s.length : Int) + t.length)) ∧ Ab w w' := by
  go_enter Try.func61, Try.ntmps61
  go_wp2
  go_ret
  exact ⟨rfl, (by repeat (first | with_reducible exact Ab.refl _ | with_reducible assumption | with_reducible refine Ab.drew ?_ | with_reducible refine Ab.drewN ?_ _ | with_reducible refine Ab.alloc ?_ _ | with_reducible refine Ab.trans ?_ (by assumption) | with_reducible refine Ab.set ?_ (by first | (simp; done) | omega | (simp; omega)) _))⟩

theorem check_any (A B : Option Addr) (ca cb : Nat) (s t : List UInt8) (cap : Int) (dn : Bool) (w : World) (ls : s.length ≤ 1000000) (lt : t.length ≤ 1000000) :
    Calls Try.prog 39 #[.agg #[.slice A s.length ca, .slice B t.length cb, .int .i64 cap, .bool dn]] w (RetInt w (check ⟨s, t, cap, dn⟩)) := by
  by_cases h1 : cap < 0
  · have HC := Lib.hid (check_bad (d := ⟨s, t, cap, dn⟩) (.inl h1))
    have hd : decide (cap < 0) = true := by simpa using h1
    go_enter Try.func39, Try.ntmps39
    go_wp2_with fail
    go_quiet (fail)
    go_wp2
    go_ret
    exact RetInt.mk (by rw [HC.out]; rfl) (by repeat (first | with_reducible exact Ab.refl _ | with_reducible assumption | with_reducible refine Ab.drew ?_ | with_reducible refine Ab.drewN ?_ _ | with_reducible refine Ab.alloc ?_ _ | with_reducible refine Ab.trans ?_ (by assumption) | with_reducible refine Ab.set ?_ (by first | (simp; done) | omega | (simp; omega)) _))
  by_cases h2 : 20000 < cap
  · have HC := Lib.hid (check_bad (d := ⟨s, t, cap, dn⟩) (.inr (.inl h2)))
    have hd : decide (cap < 0) = false := by simpa using h1
    have hd2 : decide (20000 < cap) = true := by simpa using h2
    go_enter Try.func39, Try.ntmps39
    go_wp2_with fail
    go_quiet (fail)
    go_wp2
    go_ret
    exact RetInt.mk (by rw [HC.out]; rfl) (by repeat (first | with_reducible exact Ab.refl _ | with_reducible assumption | with_reducible refine Ab.drew ?_ | with_reducible refine Ab.drewN ?_ _ | with_reducible refine Ab.alloc ?_ _ | with_reducible refine Ab.trans ?_ (by assumption) | with_reducible refine Ab.set ?_ (by first | (simp; done) | omega | (simp; omega)) _))
  have hd : decide (cap < 0) = false := by simpa using h1
  have hd2 : decide (20000 < cap) = false := by simpa using h2
  by_cases h3 : cap < (s.length : Int) + t.length
  · have HC := Lib.hid (check_bad (d := ⟨s, t, cap, dn⟩) (bad_iff.2 (.inr (.inr (.inl h3)))))
    have hd3 : decide (cap < (s.length : Int) + t.length) = true := by simpa using h3
    go_enter Try.func39, Try.ntmps39
    go_wp2_with fail
    go_region_held3 (fun w' => w'.cell? ⟨w.heap.size, 0, none⟩ = some (.slice A s.length ca) ∧ w'.cell? ⟨w.heap.size, 1, none⟩ = some (.slice B t.length cb) ∧ w'.cell? ⟨w.heap.size, 2, none⟩ = some (.int .i64 cap) ∧ w'.cell? ⟨w.heap.size, 3, none⟩ = some (.bool dn))
      ((first | (simp [go_sem]; done) | (refine ⟨hb.at ?_, hb.at ?_, hb.at ?_, hb.at ?_⟩ <;> simp [go_sem]))) ((go_at_call 61; refine (bytesOf_any A B ca cb s t cap dn _ ls lt).mono ?_; rintro e w1 ⟨rfl, hb⟩))
    go_wp2
    go_ret
    exact RetInt.mk (by rw [HC.out]; rfl) (by repeat (first | with_reducible exact Ab.refl _ | with_reducible assumption | with_reducible refine Ab.drew ?_ | with_reducible refine Ab.drewN ?_ _ | with_reducible refine Ab.alloc ?_ _ | with_reducible refine Ab.trans ?_ (by assumption) | with_reducible refine Ab.set ?_ (by first | (simp; done) | omega | (simp; omega)) _))
  have hd3 : decide (cap < (s.length : Int) + t.length) = false := by simpa using h3
  by_cases h4 : dn = true ∧ 0 < t.length
  · obtain ⟨rfl, h5⟩ := h4
    have HC := Lib.hid (check_bad (d := ⟨s, t, cap, true⟩) (.inr (.inr (.inr ⟨rfl, h5⟩))))
    go_enter Try.func39, Try.ntmps39
    go_wp2_with fail
    go_region_held3 (fun w' => w'.cell? ⟨w.heap.size, 0, none⟩ = some (.slice A s.length ca) ∧ w'.cell? ⟨w.heap.size, 1, none⟩ = some (.slice B t.length cb) ∧ w'.cell? ⟨w.heap.size, 2, none⟩ = some (.int .i64 cap) ∧ w'.cell? ⟨w.heap.size, 3, none⟩ = some (.bool true))
      ((first | (simp [go_sem]; done) | (refine ⟨hb.at ?_, hb.at ?_, hb.at ?_, hb.at ?_⟩ <;> simp [go_sem]))) ((go_at_call 61; refine (bytesOf_any A B ca cb s t cap true _ ls lt).mono ?_; rintro e w1 ⟨rfl, hb⟩))
    rename_i hH
    obtain ⟨q0, q1, q2, q3⟩ := hH
    go_wp2
    go_ret
    exact RetInt.mk (by rw [HC.out]; rfl) (by repeat (first | with_reducible exact Ab.refl _ | with_reducible assumption | with_reducible refine Ab.drew ?_ | with_reducible refine Ab.drewN ?_ _ | with_reducible refine Ab.alloc ?_ _ | with_reducible refine Ab.trans ?_ (by assumption) | with_reducible refine Ab.set ?_ (by first | (simp; done) | omega | (simp; omega)) _))
  · have HC := Lib.hid (check_ok (d := ⟨s, t, cap, dn⟩) (by rw [bad_iff]; simp only [not_or]; exact ⟨h1, h2, h3, h4⟩))
    cases dn
    · go_enter Try.func39, Try.ntmps39
      go_wp2_with fail
      go_region_held3 (fun w' => w'.cell? ⟨w.heap.size, 0, none⟩ = some (.slice A s.length ca) ∧ w'.cell? ⟨w.heap.size, 1, none⟩ = some (.slice B t.length cb) ∧ w'.cell? ⟨w.heap.size, 2, none⟩ = some (.int .i64 cap) ∧ w'.cell? ⟨w.heap.size, 3, none⟩ = some (.bool false))
        ((first | (simp [go_sem]; done) | (refine ⟨hb.at ?_, hb.at ?_, hb.at ?_, hb.at ?_⟩ <;> simp [go_sem]))) ((go_at_call 61; refine (bytesOf_any A B ca cb s t cap false _ ls lt).mono ?_; rintro e w1 ⟨rfl, hb⟩))
      rename_i hH
      obtain ⟨q0, q1, q2, q3⟩ := hH
      go_wp2
      go_ret
      exact RetInt.mk (by rw [HC.out]; rfl) (by repeat (first | with_reducible exact Ab.refl _ | with_reducible assumption | with_reducible refine Ab.drew ?_ | with_reducible refine Ab.drewN ?_ _ | with_reducible refine Ab.alloc ?_ _ | with_reducible refine Ab.trans ?_ (by assumption) | with_reducible refine Ab.set ?_ (by first | (simp; done) | omega | (simp; omega)) _))
    · have h5 : ¬ 0 < t.length := fun h => h4 ⟨rfl, h⟩
      have h6 : decide (0 < t.length) = false := by rw [decide_eq_false_iff_not]; omega
      clear h5 h4
      go_enter Try.func39, Try.ntmps39
      go_wp2_with fail
      go_region_held3 (fun w' => w'.cell? ⟨w.heap.size, 0, none⟩ = some (.slice A s.length ca) ∧ w'.cell? ⟨w.heap.size, 1, none⟩ = some (.slice B t.length cb) ∧ w'.cell? ⟨w.heap.size, 2, none⟩ = some (.int .i64 cap) ∧ w'.cell? ⟨w.heap.size, 3, none⟩ = some (.bool true))
        ((first | (simp [go_sem]; done) | (refine ⟨hb.at ?_, hb.at ?_, hb.at ?_, hb.at ?_⟩ <;> simp [go_sem]))) ((go_at_call 61; refine (bytesOf_any A B ca cb s t cap true _ ls lt).mono ?_; rintro e w1 ⟨rfl, hb⟩))
      rename_i hH
      obtain ⟨q0, q1, q2, q3⟩ := hH
      go_wp2
      go_ret
      exact RetInt.mk (by rw [HC.out]; rfl) (by repeat (first | with_reducible exact Ab.refl _ | with_reducible assumption | with_reducible refine Ab.drew ?_ | with_reducible refine Ab.drewN ?_ _ | with_reducible refine Ab.alloc ?_ _ | with_reducible refine Ab.trans ?_ (by assumption) | with_reducible refine Ab.set ?_ (by first | (simp; done) | omega | (simp; omega)) _))

theorem checkUp_any (A B : Option Addr) (ca cb : Nat) (s t : List UInt8) (cap : Int) (dn : Bool) (w : World) (ls : s.length ≤ 1000000) (lt : t.length ≤ 1000000) :
    Calls Try.prog 67 #[.agg #[.slice A s.length ca, .slice B t.length cb, .int .i64 cap, .bool dn]] w (RetInt w (up ⟨s, t, cap, dn⟩)) := by
  by_cases hb : bad ⟨s, t, cap, dn⟩
  · have HB := Lib.hid hb; clear hb
    go_enter Try.func67, Try.ntmps67
    go_wp2_with fail
    refine (check_any A B ca cb s t cap dn _ ls lt).mono ?_
    rintro e w1 ⟨r, hr, rfl, hb1⟩
    obtain rfl : r = 8 := by rw [hr.out, check_bad HB.out]
    go_wp2
    go_ret
    exact RetInt.mk (by rw [up_bad HB.out]; rfl) (by repeat (first | with_reducible exact Ab.refl _ | with_reducible assumption | with_reducible refine Ab.drew ?_ | with_reducible refine Ab.drewN ?_ _ | with_reducible refine Ab.alloc ?_ _ | with_reducible refine Ab.trans ?_ (by assumption) | with_reducible refine Ab.set ?_ (by first | (simp; done) | omega | (simp; omega)) _))
  · have HB := Lib.hid hb; clear hb
    go_enter Try.func67, Try.ntmps67
    go_wp2_with fail
    refine (check_any A B ca cb s t cap dn _ ls lt).mono ?_
    rintro e w1 ⟨r, hr, rfl, hb1⟩
    obtain rfl : r = 0 := by rw [hr.out, check_ok HB.out]
    have bq2 := hb1.at (p := ⟨w.heap.size, 2, none⟩) (v := .int .i64 cap) (by (repeat (first | with_reducible assumption | (simp [go_sem]; done) | with_reducible apply cell_alloc | with_reducible apply cell_drew | with_reducible apply cell_drewN | (with_reducible apply Ab.at; with_reducible assumption) | (with_reducible refine cell_set ?_ ?_; rotate_left; focus (first | (simp; done) | (simp; omega))) | (with_reducible refine cell_setb ?_ ?_; rotate_left; focus (first | omega | (simp only; omega) | (simp; omega)))))); have bq3 := hb1.at (p := ⟨w.heap.size, 3, none⟩) (v := .bool dn) (by (repeat (first | with_reducible assumption | (simp [go_sem]; done) | with_reducible apply cell_alloc | with_reducible apply cell_drew | with_reducible apply cell_drewN | (with_reducible apply Ab.at; with_reducible assumption) | (with_reducible refine cell_set ?_ ?_; rotate_left; focus (first | (simp; done) | (simp; omega))) | (with_reducible refine cell_setb ?_ ?_; rotate_left; focus (first | omega | (simp only; omega) | (simp; omega))))))
    go_wp2
    all_goals go_ret
    all_goals refine RetInt.mk (congrArg (Value.int .i64) ?_) (by repeat (first | with_reducible exact Ab.refl _ | with_reducible assumption | with_reducible refine Ab.drew ?_ | with_reducible refine Ab.drewN ?_ _ | with_reducible refine Ab.alloc ?_ _ | with_reducible refine Ab.trans ?_ (by assumption) | with_reducible refine Ab.set ?_ (by first | (simp; done) | omega | (simp; omega)) _))
    all_goals first | exact (up_down HB.out (by assumption)).symm | exact (up_ok HB.out (by simp_all)).symm
end Go.Proofs.Ytehagdpcegpbjaa
