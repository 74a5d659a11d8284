/- Open of the reference of layer 4, walked. Own work. -/
import Derived.Test.YtehagdpcegpbjaaWRefB
set_option linter.unusedVariables false
set_option linter.unusedSimpArgs false
namespace Go.Proofs.Ytehagdpcegpbjaa
open Go.RowKit

/-- The device with the bytes sb lies in a variable; zb is the world at the function's head, w2 that behind its calls. -/
def OneCut (w zb w2 : World) (sb : List UInt8) (cap : Int) (v : Value) (wx : World) : Prop :=
  ∃ (P : Nat) (D : Option Addr) (cd : Nat), v = .pointer (some ⟨P, 0, none⟩) ∧ wx.cell? ⟨P, 0, none⟩ = some (.slice D sb.length cd) ∧ wx.cell? ⟨P, 1, none⟩ = some (.slice none 0 0) ∧ wx.cell? ⟨P, 2, none⟩ = some (.int .i64 cap) ∧ wx.cell? ⟨P, 3, none⟩ = some (.bool false) ∧
    OR 5 (w.heap.size + 1 + 1) wx D cd sb ∧ w.heap.size + 1 < P ∧ Ab zb wx ∧ Ab w2 wx

set_option maxHeartbeats 3200000 in
theorem refwopen_any (A B : Option Addr) (ca cb : Nat) (s t : List UInt8) (cap : Int) (dn : Bool) (w : World) (hs : RB w 0 A s) (ht : RB w 0 B t) (hca : s.length ≤ ca) (hcb : t.length ≤ cb) (ls : s.length ≤ 1000000) (lt : t.length ≤ 1000000) (m : Int) (rs : List Frame.Rec) (u : Nat) (hsc : Frame.IsScan (s ++ t) rs u) :
    Calls Try.prog 24 #[.agg #[.slice A s.length ca, .slice B t.length cb, .int .i64 cap, .bool dn], .int .i64 m] w (RetLogE w (Wal.open_ ⟨s, t, cap, dn⟩ m rs u)) := by
  by_cases hbad : Disk.bad ⟨s, t, cap, dn⟩
  · have HM := Lib.hid (show Wal.open_ ⟨s, t, cap, dn⟩ m rs u = (Wal.zero, 8) from if_pos hbad)
    have HC := Lib.hid (Disk.check_bad hbad)
    clear hbad
    go_enter Try.func24, Try.ntmps24
    go_wp2_with fail
    refine (refCheck_any A B ca cb s t cap dn _ ls lt).mono ?_
    rintro e w1 ⟨r, hr, rfl, hb1⟩
    obtain rfl : r = 8 := hr.out.trans HC.out
    have zq0 := hb1.at (p := ⟨w.heap.size + 1, 0, none⟩) (v := .slice none 0 0) (by simp [go_sem]); have zq1 := hb1.at (p := ⟨w.heap.size + 1, 1, none⟩) (v := .slice none 0 0) (by simp [go_sem]); have zq2 := hb1.at (p := ⟨w.heap.size + 1, 2, none⟩) (v := .int .i64 0) (by simp [go_sem]); have zq3 := hb1.at (p := ⟨w.heap.size + 1, 3, none⟩) (v := .bool false) (by simp [go_sem]); have zq4 := hb1.at (p := ⟨w.heap.size + 1, 4, none⟩) (v := .int .i64 0) (by simp [go_sem]); have zq5 := hb1.at (p := ⟨w.heap.size + 1, 5, none⟩) (v := .int .i64 0) (by simp [go_sem])
    have zr0 : w1.frozen? ⟨w.heap.size + 1, 0, none⟩ = false := (hb1.frozen (p := ⟨w.heap.size + 1, 0, none⟩) (by simp)).trans (by simp [go_sem]); have zr1 : w1.frozen? ⟨w.heap.size + 1, 1, none⟩ = false := (hb1.frozen (p := ⟨w.heap.size + 1, 1, none⟩) (by simp)).trans (by simp [go_sem]); have zr2 : w1.frozen? ⟨w.heap.size + 1, 2, none⟩ = false := (hb1.frozen (p := ⟨w.heap.size + 1, 2, none⟩) (by simp)).trans (by simp [go_sem]); have zr3 : w1.frozen? ⟨w.heap.size + 1, 3, none⟩ = false := (hb1.frozen (p := ⟨w.heap.size + 1, 3, none⟩) (by simp)).trans (by simp [go_sem]); have zr4 : w1.frozen? ⟨w.heap.size + 1, 4, none⟩ = false := (hb1.frozen (p := ⟨w.heap.size + 1, 4, none⟩) (by simp)).trans (by simp [go_sem]); have zr5 : w1.frozen? ⟨w.heap.size + 1, 5, none⟩ = false := (hb1.frozen (p := ⟨w.heap.size + 1, 5, none⟩) (by simp)).trans (by simp [go_sem])
    go_wp2
    refine bodyPost_ret (v := .tuple #[.agg #[.slice none 0 0, .slice none 0 0, .int .i64 0, .bool false, .int .i64 0, .int .i64 0], .int .i64 8]) (by simp [results, Try.results24, go_sem, zq0, zq1, zq2, zq3, zq4, zq5]) rfl ?_
    exact RetLogE.zero HM.out.symm (by repeat (first | with_reducible exact Ab.refl _ | with_reducible assumption | with_reducible refine Ab.drew ?_ | with_reducible refine Ab.drewN ?_ _ | with_reducible refine Ab.alloc ?_ _ | with_reducible refine Ab.trans ?_ (by assumption) | with_reducible refine Ab.set ?_ (by first | (simp; done) | omega | (simp; omega)) _))
  by_cases hm : m < 0 ∨ 1000000000 < m
  · have HM := Lib.hid (show Wal.open_ ⟨s, t, cap, dn⟩ m rs u = (Wal.zero, 2) from (if_neg hbad).trans (if_pos hm))
    have HC := Lib.hid (Disk.check_ok hbad)
    clear hbad
    rcases hm with hm | hm
    all_goals
      go_enter Try.func24, Try.ntmps24
      go_wp2_with fail
      refine (refCheck_any A B ca cb s t cap dn _ ls lt).mono ?_
      rintro e w1 ⟨r, hr, rfl, hb1⟩
      obtain rfl : r = 0 := hr.out.trans HC.out
      have zq0 := hb1.at (p := ⟨w.heap.size + 1, 0, none⟩) (v := .slice none 0 0) (by simp [go_sem]); have zq1 := hb1.at (p := ⟨w.heap.size + 1, 1, none⟩) (v := .slice none 0 0) (by simp [go_sem]); have zq2 := hb1.at (p := ⟨w.heap.size + 1, 2, none⟩) (v := .int .i64 0) (by simp [go_sem]); have zq3 := hb1.at (p := ⟨w.heap.size + 1, 3, none⟩) (v := .bool false) (by simp [go_sem]); have zq4 := hb1.at (p := ⟨w.heap.size + 1, 4, none⟩) (v := .int .i64 0) (by simp [go_sem]); have zq5 := hb1.at (p := ⟨w.heap.size + 1, 5, none⟩) (v := .int .i64 0) (by simp [go_sem])
      have zr0 : w1.frozen? ⟨w.heap.size + 1, 0, none⟩ = false := (hb1.frozen (p := ⟨w.heap.size + 1, 0, none⟩) (by simp)).trans (by simp [go_sem]); have zr1 : w1.frozen? ⟨w.heap.size + 1, 1, none⟩ = false := (hb1.frozen (p := ⟨w.heap.size + 1, 1, none⟩) (by simp)).trans (by simp [go_sem]); have zr2 : w1.frozen? ⟨w.heap.size + 1, 2, none⟩ = false := (hb1.frozen (p := ⟨w.heap.size + 1, 2, none⟩) (by simp)).trans (by simp [go_sem]); have zr3 : w1.frozen? ⟨w.heap.size + 1, 3, none⟩ = false := (hb1.frozen (p := ⟨w.heap.size + 1, 3, none⟩) (by simp)).trans (by simp [go_sem]); have zr4 : w1.frozen? ⟨w.heap.size + 1, 4, none⟩ = false := (hb1.frozen (p := ⟨w.heap.size + 1, 4, none⟩) (by simp)).trans (by simp [go_sem]); have zr5 : w1.frozen? ⟨w.heap.size + 1, 5, none⟩ = false := (hb1.frozen (p := ⟨w.heap.size + 1, 5, none⟩) (by simp)).trans (by simp [go_sem])
      go_wp2
      all_goals first | (exfalso; omega) | skip
      all_goals refine bodyPost_ret (v := .tuple #[.agg #[.slice none 0 0, .slice none 0 0, .int .i64 0, .bool false, .int .i64 0, .int .i64 0], .int .i64 2]) (by simp [results, Try.results24, go_sem, zq0, zq1, zq2, zq3, zq4, zq5]) rfl ?_
      all_goals exact RetLogE.zero HM.out.symm (by repeat (first | with_reducible exact Ab.refl _ | with_reducible assumption | with_reducible refine Ab.drew ?_ | with_reducible refine Ab.drewN ?_ _ | with_reducible refine Ab.alloc ?_ _ | with_reducible refine Ab.trans ?_ (by assumption) | with_reducible refine Ab.set ?_ (by first | (simp; done) | omega | (simp; omega)) _))
  have hm0 : 0 ≤ m := by omega
  have hm1 : m ≤ 1000000000 := by omega
  have hsz := Disk.size_le hbad
  simp only [Disk.Dev.size] at hsz
  have hl20 : s.length + t.length ≤ 20000 := by omega
  have HC := Lib.hid (Disk.check_ok hbad)
  have HSC := Lib.hid hsc
  have hul := Frame.scan_le hsc
  have HM : Hid (Wal.open_ ⟨s, t, cap, dn⟩ m rs u = if rs.length = 0 ∨ Wal.base rs + rs.length < m then (⟨⟨[], [], cap, false⟩, m, m⟩, 0) else (⟨⟨(s ++ t).take u, [], cap, false⟩, Wal.base rs, Wal.base rs + rs.length⟩, 0)) := Lib.hid ((if_neg hbad).trans (if_neg hm))
  clear hbad hm hsc
  have P0 : ∀ w', Calls Try.prog 52 #[.agg #[.slice A s.length ca, .slice B t.length cb, .int .i64 cap, .bool dn]] w' (fun e w'' => e = .returned (.int .i64 0) ∧ Ab w' w'') := fun w' => (refCheck_any A B ca cb s t cap dn w' ls lt).mono fun _ _ ⟨r, hr, he, hb⟩ => ⟨by rw [he, hr.out, HC.out], hb⟩
  by_cases hr0 : rs.length = 0
  · have HM := Lib.hid (HM.out.trans (if_pos (.inl hr0)))
    have HR0 := Lib.hid hr0
    clear hr0
    go_enter Try.func24, Try.ntmps24
    go_wp2_with fail
    refine (P0 _).mono ?_
    rintro e w1 ⟨rfl, hb1⟩
    have hz1 : Ab ((w.alloc (.cells #[.slice A s.length ca, .slice B t.length cb, .int .i64 cap, .bool dn] 24)).alloc (.cells #[.slice none 0 0, .slice none 0 0, .int .i64 0, .bool false, .int .i64 0, .int .i64 0] 26)) w1 := (by repeat (first | with_reducible exact Ab.refl _ | with_reducible assumption | with_reducible refine Ab.drew ?_ | with_reducible refine Ab.drewN ?_ _ | with_reducible refine Ab.alloc ?_ _ | with_reducible refine Ab.trans ?_ (by assumption) | with_reducible refine Ab.set ?_ (by first | (simp; done) | omega | (simp; omega)) _))
    have bq0 := hz1.at (p := ⟨w.heap.size, 0, none⟩) (v := .slice A s.length ca) (by (repeat (first | with_reducible assumption | (simp [go_sem]; done) | with_reducible apply cell_alloc | with_reducible apply cell_drew | with_reducible apply cell_drewN | (with_reducible apply Ab.at; with_reducible assumption) | (with_reducible refine cell_set ?_ ?_; rotate_left; focus (first | (simp; done) | (simp; omega))) | (with_reducible refine cell_setb ?_ ?_; rotate_left; focus (first | omega | (simp only; omega) | (simp; omega)))))); have bq1 := hz1.at (p := ⟨w.heap.size, 1, none⟩) (v := .slice B t.length cb) (by (repeat (first | with_reducible assumption | (simp [go_sem]; done) | with_reducible apply cell_alloc | with_reducible apply cell_drew | with_reducible apply cell_drewN | (with_reducible apply Ab.at; with_reducible assumption) | (with_reducible refine cell_set ?_ ?_; rotate_left; focus (first | (simp; done) | (simp; omega))) | (with_reducible refine cell_setb ?_ ?_; rotate_left; focus (first | omega | (simp only; omega) | (simp; omega)))))); have bq2 := hz1.at (p := ⟨w.heap.size, 2, none⟩) (v := .int .i64 cap) (by (repeat (first | with_reducible assumption | (simp [go_sem]; done) | with_reducible apply cell_alloc | with_reducible apply cell_drew | with_reducible apply cell_drewN | (with_reducible apply Ab.at; with_reducible assumption) | (with_reducible refine cell_set ?_ ?_; rotate_left; focus (first | (simp; done) | (simp; omega))) | (with_reducible refine cell_setb ?_ ?_; rotate_left; focus (first | omega | (simp only; omega) | (simp; omega)))))); have bq3 := hz1.at (p := ⟨w.heap.size, 3, none⟩) (v := .bool dn) (by (repeat (first | with_reducible assumption | (simp [go_sem]; done) | with_reducible apply cell_alloc | with_reducible apply cell_drew | with_reducible apply cell_drewN | (with_reducible apply Ab.at; with_reducible assumption) | (with_reducible refine cell_set ?_ ?_; rotate_left; focus (first | (simp; done) | (simp; omega))) | (with_reducible refine cell_setb ?_ ?_; rotate_left; focus (first | omega | (simp only; omega) | (simp; omega))))))
    have z1 := hz1.size
    simp at z1
    go_wp2_with fail
    refine (has_any A B ca cb s t cap dn _ (hs.ab (by repeat (first | with_reducible exact Ab.refl _ | with_reducible assumption | with_reducible refine Ab.drew ?_ | with_reducible refine Ab.drewN ?_ _ | with_reducible refine Ab.alloc ?_ _ | with_reducible refine Ab.trans ?_ (by assumption) | with_reducible refine Ab.set ?_ (by first | (simp; done) | omega | (simp; omega)) _))) (ht.ab (by repeat (first | with_reducible exact Ab.refl _ | with_reducible assumption | with_reducible refine Ab.drew ?_ | with_reducible refine Ab.drewN ?_ _ | with_reducible refine Ab.alloc ?_ _ | with_reducible refine Ab.trans ?_ (by assumption) | with_reducible refine Ab.set ?_ (by first | (simp; done) | omega | (simp; omega)) _))) hca hcb hl20).mono ?_
    rintro e w2 ⟨X, d, xs, u', hS, rfl, hX, hd, hx, hb2⟩
    have HR := Lib.hid (Frame.scan_unique hS.out HSC.out).1
    have hu' := (Frame.scan_unique hS.out HSC.out).2.symm
    subst hu'
    clear hS
    have hX : Recs w2 (w.heap.size + 1 + 1) X xs := hX.mono (by first | (simp; done) | omega | (simp; omega))
    have hz2 : Ab ((w.alloc (.cells #[.slice A s.length ca, .slice B t.length cb, .int .i64 cap, .bool dn] 24)).alloc (.cells #[.slice none 0 0, .slice none 0 0, .int .i64 0, .bool false, .int .i64 0, .int .i64 0] 26)) w2 := (by repeat (first | with_reducible exact Ab.refl _ | with_reducible assumption | with_reducible refine Ab.drew ?_ | with_reducible refine Ab.drewN ?_ _ | with_reducible refine Ab.alloc ?_ _ | with_reducible refine Ab.trans ?_ (by assumption) | with_reducible refine Ab.set ?_ (by first | (simp; done) | omega | (simp; omega)) _))
    have bq0 := hz2.at (p := ⟨w.heap.size, 0, none⟩) (v := .slice A s.length ca) (by (repeat (first | with_reducible assumption | (simp [go_sem]; done) | with_reducible apply cell_alloc | with_reducible apply cell_drew | with_reducible apply cell_drewN | (with_reducible apply Ab.at; with_reducible assumption) | (with_reducible refine cell_set ?_ ?_; rotate_left; focus (first | (simp; done) | (simp; omega))) | (with_reducible refine cell_setb ?_ ?_; rotate_left; focus (first | omega | (simp only; omega) | (simp; omega)))))); have bq1 := hz2.at (p := ⟨w.heap.size, 1, none⟩) (v := .slice B t.length cb) (by (repeat (first | with_reducible assumption | (simp [go_sem]; done) | with_reducible apply cell_alloc | with_reducible apply cell_drew | with_reducible apply cell_drewN | (with_reducible apply Ab.at; with_reducible assumption) | (with_reducible refine cell_set ?_ ?_; rotate_left; focus (first | (simp; done) | (simp; omega))) | (with_reducible refine cell_setb ?_ ?_; rotate_left; focus (first | omega | (simp only; omega) | (simp; omega)))))); have bq2 := hz2.at (p := ⟨w.heap.size, 2, none⟩) (v := .int .i64 cap) (by (repeat (first | with_reducible assumption | (simp [go_sem]; done) | with_reducible apply cell_alloc | with_reducible apply cell_drew | with_reducible apply cell_drewN | (with_reducible apply Ab.at; with_reducible assumption) | (with_reducible refine cell_set ?_ ?_; rotate_left; focus (first | (simp; done) | (simp; omega))) | (with_reducible refine cell_setb ?_ ?_; rotate_left; focus (first | omega | (simp only; omega) | (simp; omega)))))); have bq3 := hz2.at (p := ⟨w.heap.size, 3, none⟩) (v := .bool dn) (by (repeat (first | with_reducible assumption | (simp [go_sem]; done) | with_reducible apply cell_alloc | with_reducible apply cell_drew | with_reducible apply cell_drewN | (with_reducible apply Ab.at; with_reducible assumption) | (with_reducible refine cell_set ?_ ?_; rotate_left; focus (first | (simp; done) | (simp; omega))) | (with_reducible refine cell_setb ?_ ?_; rotate_left; focus (first | omega | (simp only; omega) | (simp; omega))))))
    have zq0 := hz2.at (p := ⟨w.heap.size + 1, 0, none⟩) (v := .slice none 0 0) (by simp [go_sem]); have zq1 := hz2.at (p := ⟨w.heap.size + 1, 1, none⟩) (v := .slice none 0 0) (by simp [go_sem]); have zq2 := hz2.at (p := ⟨w.heap.size + 1, 2, none⟩) (v := .int .i64 0) (by simp [go_sem]); have zq3 := hz2.at (p := ⟨w.heap.size + 1, 3, none⟩) (v := .bool false) (by simp [go_sem]); have zq4 := hz2.at (p := ⟨w.heap.size + 1, 4, none⟩) (v := .int .i64 0) (by simp [go_sem]); have zq5 := hz2.at (p := ⟨w.heap.size + 1, 5, none⟩) (v := .int .i64 0) (by simp [go_sem])
    have zr0 : w2.frozen? ⟨w.heap.size + 1, 0, none⟩ = false := (hz2.frozen (p := ⟨w.heap.size + 1, 0, none⟩) (by simp)).trans (by simp [go_sem]); have zr1 : w2.frozen? ⟨w.heap.size + 1, 1, none⟩ = false := (hz2.frozen (p := ⟨w.heap.size + 1, 1, none⟩) (by simp)).trans (by simp [go_sem]); have zr2 : w2.frozen? ⟨w.heap.size + 1, 2, none⟩ = false := (hz2.frozen (p := ⟨w.heap.size + 1, 2, none⟩) (by simp)).trans (by simp [go_sem]); have zr3 : w2.frozen? ⟨w.heap.size + 1, 3, none⟩ = false := (hz2.frozen (p := ⟨w.heap.size + 1, 3, none⟩) (by simp)).trans (by simp [go_sem]); have zr4 : w2.frozen? ⟨w.heap.size + 1, 4, none⟩ = false := (hz2.frozen (p := ⟨w.heap.size + 1, 4, none⟩) (by simp)).trans (by simp [go_sem]); have zr5 : w2.frozen? ⟨w.heap.size + 1, 5, none⟩ = false := (hz2.frozen (p := ⟨w.heap.size + 1, 5, none⟩) (by simp)).trans (by simp [go_sem])
    have z2 := hz2.size
    simp at z2
    obtain rfl : xs = [] := List.eq_nil_of_length_eq_zero (by rw [← recs_length, HR.out]; exact HR0.out)
    go_wp2
    refine bodyPost_ret (v := .tuple #[.agg #[.slice none 0 0, .slice none 0 0, .int .i64 cap, .bool false, .int .i64 m, .int .i64 m], .int .i64 0]) (by simp [results, Try.results24, go_sem, *]) rfl ?_
    exact ⟨⟨⟨[], [], cap, false⟩, m, m⟩, 0, none, none, 0, 0, Lib.hid HM.out.symm, rfl, OR.none_, OR.none_, (by repeat (first | with_reducible exact Ab.refl _ | with_reducible assumption | with_reducible refine Ab.drew ?_ | with_reducible refine Ab.drewN ?_ _ | with_reducible refine Ab.alloc ?_ _ | with_reducible refine Ab.trans ?_ (by assumption) | with_reducible refine Ab.set ?_ (by first | (simp; done) | omega | (simp; omega)) _))⟩
  · obtain ⟨k, hk⟩ : ∃ k, rs.length = k + 1 := ⟨rs.length - 1, by omega⟩
    have HK := Lib.hid hk
    obtain ⟨bs, hbs⟩ : ∃ bs, bs = Wal.base rs := ⟨_, rfl⟩
    have HBS := Lib.hid hbs
    have hrg := Wal.base_rng HSC.out.1 (by omega)
    rw [← hbs, hk] at hrg
    have hk20 : k ≤ 20000 := by have := Wal.scan_count HSC.out hk (by rw [List.length_append]; omega); omega
    have hsum : IntKind.i64.wrap (bs + (k : Int) + 1) = bs + (k : Int) + 1 := IntWalk.i64_in _ (by omega)
    by_cases hlt : bs + k + 1 < m
    · have HM := Lib.hid (HM.out.trans (if_pos (.inr (by rw [← hbs, hk]; omega))))
      have hlt2 : bs + (k : Int) < m - 1 := by omega
      clear hr0 hbs hk
      go_enter Try.func24, Try.ntmps24
      go_wp2_with fail
      refine (P0 _).mono ?_
      rintro e w1 ⟨rfl, hb1⟩
      have hz1 : Ab ((w.alloc (.cells #[.slice A s.length ca, .slice B t.length cb, .int .i64 cap, .bool dn] 24)).alloc (.cells #[.slice none 0 0, .slice none 0 0, .int .i64 0, .bool false, .int .i64 0, .int .i64 0] 26)) w1 := (by repeat (first | with_reducible exact Ab.refl _ | with_reducible assumption | with_reducible refine Ab.drew ?_ | with_reducible refine Ab.drewN ?_ _ | with_reducible refine Ab.alloc ?_ _ | with_reducible refine Ab.trans ?_ (by assumption) | with_reducible refine Ab.set ?_ (by first | (simp; done) | omega | (simp; omega)) _))
      have bq0 := hz1.at (p := ⟨w.heap.size, 0, none⟩) (v := .slice A s.length ca) (by (repeat (first | with_reducible assumption | (simp [go_sem]; done) | with_reducible apply cell_alloc | with_reducible apply cell_drew | with_reducible apply cell_drewN | (with_reducible apply Ab.at; with_reducible assumption) | (with_reducible refine cell_set ?_ ?_; rotate_left; focus (first | (simp; done) | (simp; omega))) | (with_reducible refine cell_setb ?_ ?_; rotate_left; focus (first | omega | (simp only; omega) | (simp; omega)))))); have bq1 := hz1.at (p := ⟨w.heap.size, 1, none⟩) (v := .slice B t.length cb) (by (repeat (first | with_reducible assumption | (simp [go_sem]; done) | with_reducible apply cell_alloc | with_reducible apply cell_drew | with_reducible apply cell_drewN | (with_reducible apply Ab.at; with_reducible assumption) | (with_reducible refine cell_set ?_ ?_; rotate_left; focus (first | (simp; done) | (simp; omega))) | (with_reducible refine cell_setb ?_ ?_; rotate_left; focus (first | omega | (simp only; omega) | (simp; omega)))))); have bq2 := hz1.at (p := ⟨w.heap.size, 2, none⟩) (v := .int .i64 cap) (by (repeat (first | with_reducible assumption | (simp [go_sem]; done) | with_reducible apply cell_alloc | with_reducible apply cell_drew | with_reducible apply cell_drewN | (with_reducible apply Ab.at; with_reducible assumption) | (with_reducible refine cell_set ?_ ?_; rotate_left; focus (first | (simp; done) | (simp; omega))) | (with_reducible refine cell_setb ?_ ?_; rotate_left; focus (first | omega | (simp only; omega) | (simp; omega)))))); have bq3 := hz1.at (p := ⟨w.heap.size, 3, none⟩) (v := .bool dn) (by (repeat (first | with_reducible assumption | (simp [go_sem]; done) | with_reducible apply cell_alloc | with_reducible apply cell_drew | with_reducible apply cell_drewN | (with_reducible apply Ab.at; with_reducible assumption) | (with_reducible refine cell_set ?_ ?_; rotate_left; focus (first | (simp; done) | (simp; omega))) | (with_reducible refine cell_setb ?_ ?_; rotate_left; focus (first | omega | (simp only; omega) | (simp; omega))))))
      have z1 := hz1.size
      simp at z1
      go_wp2_with fail
      refine (has_any A B ca cb s t cap dn _ (hs.ab (by repeat (first | with_reducible exact Ab.refl _ | with_reducible assumption | with_reducible refine Ab.drew ?_ | with_reducible refine Ab.drewN ?_ _ | with_reducible refine Ab.alloc ?_ _ | with_reducible refine Ab.trans ?_ (by assumption) | with_reducible refine Ab.set ?_ (by first | (simp; done) | omega | (simp; omega)) _))) (ht.ab (by repeat (first | with_reducible exact Ab.refl _ | with_reducible assumption | with_reducible refine Ab.drew ?_ | with_reducible refine Ab.drewN ?_ _ | with_reducible refine Ab.alloc ?_ _ | with_reducible refine Ab.trans ?_ (by assumption) | with_reducible refine Ab.set ?_ (by first | (simp; done) | omega | (simp; omega)) _))) hca hcb hl20).mono ?_
      rintro e w2 ⟨X, d, xs, u', hS, rfl, hX, hd, hx, hb2⟩
      have HR := Lib.hid (Frame.scan_unique hS.out HSC.out).1
      have hu' := (Frame.scan_unique hS.out HSC.out).2.symm
      subst hu'
      clear hS
      have hX : Recs w2 (w.heap.size + 1 + 1) X xs := hX.mono (by first | (simp; done) | omega | (simp; omega))
      have hz2 : Ab ((w.alloc (.cells #[.slice A s.length ca, .slice B t.length cb, .int .i64 cap, .bool dn] 24)).alloc (.cells #[.slice none 0 0, .slice none 0 0, .int .i64 0, .bool false, .int .i64 0, .int .i64 0] 26)) w2 := (by repeat (first | with_reducible exact Ab.refl _ | with_reducible assumption | with_reducible refine Ab.drew ?_ | with_reducible refine Ab.drewN ?_ _ | with_reducible refine Ab.alloc ?_ _ | with_reducible refine Ab.trans ?_ (by assumption) | with_reducible refine Ab.set ?_ (by first | (simp; done) | omega | (simp; omega)) _))
      have bq0 := hz2.at (p := ⟨w.heap.size, 0, none⟩) (v := .slice A s.length ca) (by (repeat (first | with_reducible assumption | (simp [go_sem]; done) | with_reducible apply cell_alloc | with_reducible apply cell_drew | with_reducible apply cell_drewN | (with_reducible apply Ab.at; with_reducible assumption) | (with_reducible refine cell_set ?_ ?_; rotate_left; focus (first | (simp; done) | (simp; omega))) | (with_reducible refine cell_setb ?_ ?_; rotate_left; focus (first | omega | (simp only; omega) | (simp; omega)))))); have bq1 := hz2.at (p := ⟨w.heap.size, 1, none⟩) (v := .slice B t.length cb) (by (repeat (first | with_reducible assumption | (simp [go_sem]; done) | with_reducible apply cell_alloc | with_reducible apply cell_drew | with_reducible apply cell_drewN | (with_reducible apply Ab.at; with_reducible assumption) | (with_reducible refine cell_set ?_ ?_; rotate_left; focus (first | (simp; done) | (simp; omega))) | (with_reducible refine cell_setb ?_ ?_; rotate_left; focus (first | omega | (simp only; omega) | (simp; omega)))))); have bq2 := hz2.at (p := ⟨w.heap.size, 2, none⟩) (v := .int .i64 cap) (by (repeat (first | with_reducible assumption | (simp [go_sem]; done) | with_reducible apply cell_alloc | with_reducible apply cell_drew | with_reducible apply cell_drewN | (with_reducible apply Ab.at; with_reducible assumption) | (with_reducible refine cell_set ?_ ?_; rotate_left; focus (first | (simp; done) | (simp; omega))) | (with_reducible refine cell_setb ?_ ?_; rotate_left; focus (first | omega | (simp only; omega) | (simp; omega)))))); have bq3 := hz2.at (p := ⟨w.heap.size, 3, none⟩) (v := .bool dn) (by (repeat (first | with_reducible assumption | (simp [go_sem]; done) | with_reducible apply cell_alloc | with_reducible apply cell_drew | with_reducible apply cell_drewN | (with_reducible apply Ab.at; with_reducible assumption) | (with_reducible refine cell_set ?_ ?_; rotate_left; focus (first | (simp; done) | (simp; omega))) | (with_reducible refine cell_setb ?_ ?_; rotate_left; focus (first | omega | (simp only; omega) | (simp; omega))))))
      have zq0 := hz2.at (p := ⟨w.heap.size + 1, 0, none⟩) (v := .slice none 0 0) (by simp [go_sem]); have zq1 := hz2.at (p := ⟨w.heap.size + 1, 1, none⟩) (v := .slice none 0 0) (by simp [go_sem]); have zq2 := hz2.at (p := ⟨w.heap.size + 1, 2, none⟩) (v := .int .i64 0) (by simp [go_sem]); have zq3 := hz2.at (p := ⟨w.heap.size + 1, 3, none⟩) (v := .bool false) (by simp [go_sem]); have zq4 := hz2.at (p := ⟨w.heap.size + 1, 4, none⟩) (v := .int .i64 0) (by simp [go_sem]); have zq5 := hz2.at (p := ⟨w.heap.size + 1, 5, none⟩) (v := .int .i64 0) (by simp [go_sem])
      have zr0 : w2.frozen? ⟨w.heap.size + 1, 0, none⟩ = false := (hz2.frozen (p := ⟨w.heap.size + 1, 0, none⟩) (by simp)).trans (by simp [go_sem]); have zr1 : w2.frozen? ⟨w.heap.size + 1, 1, none⟩ = false := (hz2.frozen (p := ⟨w.heap.size + 1, 1, none⟩) (by simp)).trans (by simp [go_sem]); have zr2 : w2.frozen? ⟨w.heap.size + 1, 2, none⟩ = false := (hz2.frozen (p := ⟨w.heap.size + 1, 2, none⟩) (by simp)).trans (by simp [go_sem]); have zr3 : w2.frozen? ⟨w.heap.size + 1, 3, none⟩ = false := (hz2.frozen (p := ⟨w.heap.size + 1, 3, none⟩) (by simp)).trans (by simp [go_sem]); have zr4 : w2.frozen? ⟨w.heap.size + 1, 4, none⟩ = false := (hz2.frozen (p := ⟨w.heap.size + 1, 4, none⟩) (by simp)).trans (by simp [go_sem]); have zr5 : w2.frozen? ⟨w.heap.size + 1, 5, none⟩ = false := (hz2.frozen (p := ⟨w.heap.size + 1, 5, none⟩) (by simp)).trans (by simp [go_sem])
      have z2 := hz2.size
      simp at z2
      have hxl : xs.length = k + 1 := by rw [← recs_length, HR.out]; exact HK.out
      obtain ⟨a, hXa, hablk, c0, -⟩ := hX.at_ (k := 0) (by omega)
      obtain ⟨a', hXa', -, c1, -⟩ := hX.at_ (k := k) (by omega)
      rw [hXa] at hXa'
      obtain rfl := Option.some.inj hXa'
      have e0 : xs[0].num = bs := by
        have h8 := Wal.num_at HSC.out.1 0 (by have := HK.out; omega)
        have h9 := recs_get xs 0 (by omega)
        simp only [HR.out] at h9
        rw [h9] at h8
        rw [HBS.out]
        simpa [RecM.r] using h8
      have e1 : xs[k].num = bs + k := by
        have h8 := Wal.num_at HSC.out.1 k (by have := HK.out; omega)
        have h9 := recs_get xs k (by omega)
        simp only [HR.out] at h9
        rw [h9] at h8
        rw [HBS.out]
        simpa [RecM.r] using h8
      rw [e0] at c0
      rw [e1] at c1
      have c0' : w2.cell? a = some (.int .i64 bs) := c0
      have hblk2 : w.heap.size + 1 < (a.add (k * 2)).block := by rw [addr_add_block]; omega
      have hidx : IntKind.i64.wrap ((xs.length : Int) - 1) = (k : Int) := by rw [IntWalk.i64_in _ (by omega)]; omega
      have hidx2 : (xs.length : Int) - 1 = (k : Int) := by omega
      have hp0 : (0 : Int) < (xs.length : Int) := by omega
      have hp2 : 0 < xs.length := by omega
      have hp1 : (k : Int) < (xs.length : Int) := by omega
      have hp3 : (0 : Int) ≤ (k : Int) := by omega
      have hne0 : ((xs.length : Int) == 0) = false := by rw [beq_eq_false_iff_ne]; omega
      clear e0 e1 c0 hXa' hX
      subst hXa
      have HXL := Lib.hid hxl
      clear hxl
      go_wp2
      refine bodyPost_ret (v := .tuple #[.agg #[.slice none 0 0, .slice none 0 0, .int .i64 cap, .bool false, .int .i64 m, .int .i64 m], .int .i64 0]) (by simp [results, Try.results24, go_sem, *]) rfl ?_
      exact ⟨⟨⟨[], [], cap, false⟩, m, m⟩, 0, none, none, 0, 0, Lib.hid HM.out.symm, rfl, OR.none_, OR.none_, (by repeat (first | with_reducible exact Ab.refl _ | with_reducible assumption | with_reducible refine Ab.drew ?_ | with_reducible refine Ab.drewN ?_ _ | with_reducible refine Ab.alloc ?_ _ | with_reducible refine Ab.trans ?_ (by assumption) | with_reducible refine Ab.set ?_ (by first | (simp; done) | omega | (simp; omega)) _))⟩
    · have HM := Lib.hid (HM.out.trans (if_neg (by rw [← hbs, hk]; omega)))
      have hlt2 : ¬ bs + (k : Int) < m - 1 := by omega
      obtain ⟨sb, hsb⟩ : ∃ sb, (s ++ t).take u = sb := ⟨_, rfl⟩
      have HSB := Lib.hid hsb
      have HSL := Lib.hid (show sb.length = u by rw [← hsb, List.length_take]; omega)
      have hu0 : (0 : Int) ≤ (u : Int) := by omega
      clear hr0 hbs hk hlt hsb
      go_enter Try.func24, Try.ntmps24
      go_wp2_with fail
      refine (P0 _).mono ?_
      rintro e w1 ⟨rfl, hb1⟩
      have hz1 : Ab ((w.alloc (.cells #[.slice A s.length ca, .slice B t.length cb, .int .i64 cap, .bool dn] 24)).alloc (.cells #[.slice none 0 0, .slice none 0 0, .int .i64 0, .bool false, .int .i64 0, .int .i64 0] 26)) w1 := (by repeat (first | with_reducible exact Ab.refl _ | with_reducible assumption | with_reducible refine Ab.drew ?_ | with_reducible refine Ab.drewN ?_ _ | with_reducible refine Ab.alloc ?_ _ | with_reducible refine Ab.trans ?_ (by assumption) | with_reducible refine Ab.set ?_ (by first | (simp; done) | omega | (simp; omega)) _))
      have bq0 := hz1.at (p := ⟨w.heap.size, 0, none⟩) (v := .slice A s.length ca) (by (repeat (first | with_reducible assumption | (simp [go_sem]; done) | with_reducible apply cell_alloc | with_reducible apply cell_drew | with_reducible apply cell_drewN | (with_reducible apply Ab.at; with_reducible assumption) | (with_reducible refine cell_set ?_ ?_; rotate_left; focus (first | (simp; done) | (simp; omega))) | (with_reducible refine cell_setb ?_ ?_; rotate_left; focus (first | omega | (simp only; omega) | (simp; omega)))))); have bq1 := hz1.at (p := ⟨w.heap.size, 1, none⟩) (v := .slice B t.length cb) (by (repeat (first | with_reducible assumption | (simp [go_sem]; done) | with_reducible apply cell_alloc | with_reducible apply cell_drew | with_reducible apply cell_drewN | (with_reducible apply Ab.at; with_reducible assumption) | (with_reducible refine cell_set ?_ ?_; rotate_left; focus (first | (simp; done) | (simp; omega))) | (with_reducible refine cell_setb ?_ ?_; rotate_left; focus (first | omega | (simp only; omega) | (simp; omega)))))); have bq2 := hz1.at (p := ⟨w.heap.size, 2, none⟩) (v := .int .i64 cap) (by (repeat (first | with_reducible assumption | (simp [go_sem]; done) | with_reducible apply cell_alloc | with_reducible apply cell_drew | with_reducible apply cell_drewN | (with_reducible apply Ab.at; with_reducible assumption) | (with_reducible refine cell_set ?_ ?_; rotate_left; focus (first | (simp; done) | (simp; omega))) | (with_reducible refine cell_setb ?_ ?_; rotate_left; focus (first | omega | (simp only; omega) | (simp; omega)))))); have bq3 := hz1.at (p := ⟨w.heap.size, 3, none⟩) (v := .bool dn) (by (repeat (first | with_reducible assumption | (simp [go_sem]; done) | with_reducible apply cell_alloc | with_reducible apply cell_drew | with_reducible apply cell_drewN | (with_reducible apply Ab.at; with_reducible assumption) | (with_reducible refine cell_set ?_ ?_; rotate_left; focus (first | (simp; done) | (simp; omega))) | (with_reducible refine cell_setb ?_ ?_; rotate_left; focus (first | omega | (simp only; omega) | (simp; omega))))))
      have z1 := hz1.size
      simp at z1
      go_wp2_with fail
      refine (has_any A B ca cb s t cap dn _ (hs.ab (by repeat (first | with_reducible exact Ab.refl _ | with_reducible assumption | with_reducible refine Ab.drew ?_ | with_reducible refine Ab.drewN ?_ _ | with_reducible refine Ab.alloc ?_ _ | with_reducible refine Ab.trans ?_ (by assumption) | with_reducible refine Ab.set ?_ (by first | (simp; done) | omega | (simp; omega)) _))) (ht.ab (by repeat (first | with_reducible exact Ab.refl _ | with_reducible assumption | with_reducible refine Ab.drew ?_ | with_reducible refine Ab.drewN ?_ _ | with_reducible refine Ab.alloc ?_ _ | with_reducible refine Ab.trans ?_ (by assumption) | with_reducible refine Ab.set ?_ (by first | (simp; done) | omega | (simp; omega)) _))) hca hcb hl20).mono ?_
      rintro e w2 ⟨X, d, xs, u', hS, rfl, hX, hd, hx, hb2⟩
      have HR := Lib.hid (Frame.scan_unique hS.out HSC.out).1
      have hu' := (Frame.scan_unique hS.out HSC.out).2.symm
      subst hu'
      clear hS
      have hX : Recs w2 (w.heap.size + 1 + 1) X xs := hX.mono (by first | (simp; done) | omega | (simp; omega))
      have hz2 : Ab ((w.alloc (.cells #[.slice A s.length ca, .slice B t.length cb, .int .i64 cap, .bool dn] 24)).alloc (.cells #[.slice none 0 0, .slice none 0 0, .int .i64 0, .bool false, .int .i64 0, .int .i64 0] 26)) w2 := (by repeat (first | with_reducible exact Ab.refl _ | with_reducible assumption | with_reducible refine Ab.drew ?_ | with_reducible refine Ab.drewN ?_ _ | with_reducible refine Ab.alloc ?_ _ | with_reducible refine Ab.trans ?_ (by assumption) | with_reducible refine Ab.set ?_ (by first | (simp; done) | omega | (simp; omega)) _))
      have bq0 := hz2.at (p := ⟨w.heap.size, 0, none⟩) (v := .slice A s.length ca) (by (repeat (first | with_reducible assumption | (simp [go_sem]; done) | with_reducible apply cell_alloc | with_reducible apply cell_drew | with_reducible apply cell_drewN | (with_reducible apply Ab.at; with_reducible assumption) | (with_reducible refine cell_set ?_ ?_; rotate_left; focus (first | (simp; done) | (simp; omega))) | (with_reducible refine cell_setb ?_ ?_; rotate_left; focus (first | omega | (simp only; omega) | (simp; omega)))))); have bq1 := hz2.at (p := ⟨w.heap.size, 1, none⟩) (v := .slice B t.length cb) (by (repeat (first | with_reducible assumption | (simp [go_sem]; done) | with_reducible apply cell_alloc | with_reducible apply cell_drew | with_reducible apply cell_drewN | (with_reducible apply Ab.at; with_reducible assumption) | (with_reducible refine cell_set ?_ ?_; rotate_left; focus (first | (simp; done) | (simp; omega))) | (with_reducible refine cell_setb ?_ ?_; rotate_left; focus (first | omega | (simp only; omega) | (simp; omega)))))); have bq2 := hz2.at (p := ⟨w.heap.size, 2, none⟩) (v := .int .i64 cap) (by (repeat (first | with_reducible assumption | (simp [go_sem]; done) | with_reducible apply cell_alloc | with_reducible apply cell_drew | with_reducible apply cell_drewN | (with_reducible apply Ab.at; with_reducible assumption) | (with_reducible refine cell_set ?_ ?_; rotate_left; focus (first | (simp; done) | (simp; omega))) | (with_reducible refine cell_setb ?_ ?_; rotate_left; focus (first | omega | (simp only; omega) | (simp; omega)))))); have bq3 := hz2.at (p := ⟨w.heap.size, 3, none⟩) (v := .bool dn) (by (repeat (first | with_reducible assumption | (simp [go_sem]; done) | with_reducible apply cell_alloc | with_reducible apply cell_drew | with_reducible apply cell_drewN | (with_reducible apply Ab.at; with_reducible assumption) | (with_reducible refine cell_set ?_ ?_; rotate_left; focus (first | (simp; done) | (simp; omega))) | (with_reducible refine cell_setb ?_ ?_; rotate_left; focus (first | omega | (simp only; omega) | (simp; omega))))))
      have zq0 := hz2.at (p := ⟨w.heap.size + 1, 0, none⟩) (v := .slice none 0 0) (by simp [go_sem]); have zq1 := hz2.at (p := ⟨w.heap.size + 1, 1, none⟩) (v := .slice none 0 0) (by simp [go_sem]); have zq2 := hz2.at (p := ⟨w.heap.size + 1, 2, none⟩) (v := .int .i64 0) (by simp [go_sem]); have zq3 := hz2.at (p := ⟨w.heap.size + 1, 3, none⟩) (v := .bool false) (by simp [go_sem]); have zq4 := hz2.at (p := ⟨w.heap.size + 1, 4, none⟩) (v := .int .i64 0) (by simp [go_sem]); have zq5 := hz2.at (p := ⟨w.heap.size + 1, 5, none⟩) (v := .int .i64 0) (by simp [go_sem])
      have zr0 : w2.frozen? ⟨w.heap.size + 1, 0, none⟩ = false := (hz2.frozen (p := ⟨w.heap.size + 1, 0, none⟩) (by simp)).trans (by simp [go_sem]); have zr1 : w2.frozen? ⟨w.heap.size + 1, 1, none⟩ = false := (hz2.frozen (p := ⟨w.heap.size + 1, 1, none⟩) (by simp)).trans (by simp [go_sem]); have zr2 : w2.frozen? ⟨w.heap.size + 1, 2, none⟩ = false := (hz2.frozen (p := ⟨w.heap.size + 1, 2, none⟩) (by simp)).trans (by simp [go_sem]); have zr3 : w2.frozen? ⟨w.heap.size + 1, 3, none⟩ = false := (hz2.frozen (p := ⟨w.heap.size + 1, 3, none⟩) (by simp)).trans (by simp [go_sem]); have zr4 : w2.frozen? ⟨w.heap.size + 1, 4, none⟩ = false := (hz2.frozen (p := ⟨w.heap.size + 1, 4, none⟩) (by simp)).trans (by simp [go_sem]); have zr5 : w2.frozen? ⟨w.heap.size + 1, 5, none⟩ = false := (hz2.frozen (p := ⟨w.heap.size + 1, 5, none⟩) (by simp)).trans (by simp [go_sem])
      have z2 := hz2.size
      simp at z2
      have hxl : xs.length = k + 1 := by rw [← recs_length, HR.out]; exact HK.out
      obtain ⟨a, hXa, hablk, c0, -⟩ := hX.at_ (k := 0) (by omega)
      obtain ⟨a', hXa', -, c1, -⟩ := hX.at_ (k := k) (by omega)
      rw [hXa] at hXa'
      obtain rfl := Option.some.inj hXa'
      have e0 : xs[0].num = bs := by
        have h8 := Wal.num_at HSC.out.1 0 (by have := HK.out; omega)
        have h9 := recs_get xs 0 (by omega)
        simp only [HR.out] at h9
        rw [h9] at h8
        rw [HBS.out]
        simpa [RecM.r] using h8
      have e1 : xs[k].num = bs + k := by
        have h8 := Wal.num_at HSC.out.1 k (by have := HK.out; omega)
        have h9 := recs_get xs k (by omega)
        simp only [HR.out] at h9
        rw [h9] at h8
        rw [HBS.out]
        simpa [RecM.r] using h8
      rw [e0] at c0
      rw [e1] at c1
      have c0' : w2.cell? a = some (.int .i64 bs) := c0
      have hblk2 : w.heap.size + 1 < (a.add (k * 2)).block := by rw [addr_add_block]; omega
      have hidx : IntKind.i64.wrap ((xs.length : Int) - 1) = (k : Int) := by rw [IntWalk.i64_in _ (by omega)]; omega
      have hidx2 : (xs.length : Int) - 1 = (k : Int) := by omega
      have hp0 : (0 : Int) < (xs.length : Int) := by omega
      have hp2 : 0 < xs.length := by omega
      have hp1 : (k : Int) < (xs.length : Int) := by omega
      have hp3 : (0 : Int) ≤ (k : Int) := by omega
      have hne0 : ((xs.length : Int) == 0) = false := by rw [beq_eq_false_iff_ne]; omega
      clear e0 e1 c0 hXa' hX
      subst hXa
      have HXL := Lib.hid hxl
      clear hxl
      go_upto_region 8 with fail
      go_cut [8] (fun v8 wx => OneCut w ((w.alloc (.cells #[.slice A s.length ca, .slice B t.length cb, .int .i64 cap, .bool dn] 24)).alloc (.cells #[.slice none 0 0, .slice none 0 0, .int .i64 0, .bool false, .int .i64 0, .int .i64 0] 26)) w2 sb cap v8 wx)
      case first =>
        refine wp_region_held_drew (by kernel_rfl) (S := fun w' => w'.cell? ⟨w.heap.size, 0, none⟩ = some (.slice A s.length ca) ∧ w'.cell? ⟨w.heap.size, 1, none⟩ = some (.slice B t.length cb) ∧ w'.cell? ⟨w.heap.size, 2, none⟩ = some (.int .i64 cap) ∧ w'.cell? ⟨w.heap.size, 3, none⟩ = some (.bool dn)) ?_ (fun hHeld => ?_)
        · (refine ⟨?_, ?_, ?_, ?_⟩ <;> (repeat (first | with_reducible assumption | (simp [go_sem]; done) | with_reducible apply cell_alloc | with_reducible apply cell_drew | with_reducible apply cell_drewN | (with_reducible apply Ab.at; with_reducible assumption) | (with_reducible refine cell_set ?_ ?_; rotate_left; focus (first | (simp; done) | (simp; omega))) | (with_reducible refine cell_setb ?_ ?_; rotate_left; focus (first | omega | (simp only; omega) | (simp; omega))))))
        (refine wpAnyH_take (i := 0) (v := ?_) rfl (by kernel_rfl) (by kernel_rfl) (by kernel_rfl) (fun _ _ _ h => h) (Or.inl ⟨by kernel_rfl, ?_⟩) (by assumption) ?_
         rotate_left
         · (intro w hSw; (try dsimp only at hSw); go_simp; (try with_reducible rfl))
         (try simp only [Act.put, List.setIfInBounds_toArray, List.set_cons_zero, List.set_cons_succ]))
        (refine wpAnyH_take (i := 2) (v := ?_) rfl (by kernel_rfl) (by kernel_rfl) (by kernel_rfl) (fun _ _ _ h => h) (Or.inl ⟨by kernel_rfl, ?_⟩) (by assumption) ?_
         rotate_left
         · (intro w hSw; (try dsimp only at hSw); go_simp; (try with_reducible rfl))
         (try simp only [Act.put, List.setIfInBounds_toArray, List.set_cons_zero, List.set_cons_succ]))
        (refine wpAnyH_take (i := 4) (v := ?_) rfl (by kernel_rfl) (by kernel_rfl) (by kernel_rfl) (fun _ _ _ h => h) (Or.inl ⟨by kernel_rfl, ?_⟩) (by assumption) ?_
         rotate_left
         · (intro w hSw; (try dsimp only at hSw); go_simp; (try with_reducible rfl))
         (try simp only [Act.put, List.setIfInBounds_toArray, List.set_cons_zero, List.set_cons_succ]))
        (refine wpAnyH_take (i := 5) (v := ?_) rfl (by kernel_rfl) (by kernel_rfl) (by kernel_rfl) (fun _ _ _ h => h) (Or.inl ⟨by kernel_rfl, ?_⟩) (by assumption) ?_
         rotate_left
         · (intro w hSw; (try dsimp only at hSw); go_simp; (try with_reducible rfl))
         (try simp only [Act.put, List.setIfInBounds_toArray, List.set_cons_zero, List.set_cons_succ]))
        (refine wpAnyH_ready (rs := [1, 7]) (by kernel_rfl) (by simp) ?_)
        refine AllReadyH.cons rfl (fun K hK => ?_) (AllReadyH.cons rfl (fun K hK => ?_) AllReadyH.nil)
        · (go_simp
           ((go_at_call 37)
            refine (whole_any A B ca cb s t cap dn _ (hs.ab (by repeat (first | with_reducible exact Ab.refl _ | with_reducible assumption | with_reducible refine Ab.drew ?_ | with_reducible refine Ab.drewN ?_ _ | with_reducible refine Ab.alloc ?_ _ | with_reducible refine Ab.trans ?_ (by assumption) | with_reducible refine Ab.set ?_ (by first | (simp; done) | omega | (simp; omega)) _))) (ht.ab (by repeat (first | with_reducible exact Ab.refl _ | with_reducible assumption | with_reducible refine Ab.drew ?_ | with_reducible refine Ab.drewN ?_ _ | with_reducible refine Ab.alloc ?_ _ | with_reducible refine Ab.trans ?_ (by assumption) | with_reducible refine Ab.set ?_ (by first | (simp; done) | omega | (simp; omega)) _))) hca hcb (by omega) (by omega)).mono ?_
            rintro e w3 ⟨L, D, c, hL, rfl, o1, hb3⟩
            have hLl : u ≤ L.length := by rw [hL.out]; exact hul
            have hcl := o1.le
            have hu1 : (u : Int) ≤ (c : Int) := by omega
            have hu2 : (u : Int) ≤ (L.length : Int) := by omega
            have z3 := hb3.size
            (try simp at z3)
            have o3 : OR 5 (w2.heap.size) w3 D c sb := OR.mono (by rw [← HSB.out, ← hL.out]; exact o1.take u) (by first | (simp; done) | omega | (simp; omega))
            skip)
           (try go_wp2_with fail)
           (refine hK.out _ _ ?_ (fun hHeld => ?_)
            · (try dsimp only); (refine ⟨?_, ?_, ?_, ?_⟩ <;> (repeat (first | with_reducible assumption | (simp [go_sem]; done) | with_reducible apply cell_alloc | with_reducible apply cell_drew | with_reducible apply cell_drewN | (with_reducible apply Ab.at; with_reducible assumption) | (with_reducible refine cell_set ?_ ?_; rotate_left; focus (first | (simp; done) | (simp; omega))) | (with_reducible refine cell_setb ?_ ?_; rotate_left; focus (first | omega | (simp only; omega) | (simp; omega))))))
            clear hK K
            (try simp only [Act.put, List.setIfInBounds_toArray, List.set_cons_zero, List.set_cons_succ])))
          (refine wpAnyH_take (i := 3) (v := ?_) rfl (by kernel_rfl) (by kernel_rfl) (by kernel_rfl) (fun _ _ _ h => h) (Or.inl ⟨by kernel_rfl, ?_⟩) (by assumption) ?_
           rotate_left
           · (intro w hSw; (try dsimp only at hSw); go_simp; (try with_reducible rfl))
           (try simp only [Act.put, List.setIfInBounds_toArray, List.set_cons_zero, List.set_cons_succ]))
          (refine wpAnyH_take (i := 6) (v := ?_) rfl (by kernel_rfl) (by kernel_rfl) (by kernel_rfl) (fun _ _ _ h => h) (Or.inl ⟨by kernel_rfl, ?_⟩) (by assumption) ?_
           rotate_left
           · (intro w hSw; (try dsimp only at hSw); go_simp; (try with_reducible rfl))
           (try simp only [Act.put, List.setIfInBounds_toArray, List.set_cons_zero, List.set_cons_succ]))
          (refine wpAnyH_ready (rs := [7]) (by kernel_rfl) (by simp) ?_)
          refine AllReadyH.cons rfl (fun K hK => ?_) AllReadyH.nil
          (go_simp
           (refine hK.out _ _ ?_ (fun hHeld => ?_)
            · (try dsimp only); (refine ⟨?_, ?_, ?_, ?_⟩ <;> (repeat (first | with_reducible assumption | (simp [go_sem]; done) | with_reducible apply cell_alloc | with_reducible apply cell_drew | with_reducible apply cell_drewN | (with_reducible apply Ab.at; with_reducible assumption) | (with_reducible refine cell_set ?_ ?_; rotate_left; focus (first | (simp; done) | (simp; omega))) | (with_reducible refine cell_setb ?_ ?_; rotate_left; focus (first | omega | (simp only; omega) | (simp; omega))))))
            clear hK K
            (try simp only [Act.put, List.setIfInBounds_toArray, List.set_cons_zero, List.set_cons_succ])))
          (refine wpAnyH_ready (rs := [8]) (by kernel_rfl) (by simp) ?_)
          refine AllReadyH.cons rfl (fun K hK => ?_) AllReadyH.nil
          (go_simp
           (refine hK.out _ _ ?_ (fun hHeld => ?_)
            · (try dsimp only); (refine ⟨?_, ?_, ?_, ?_⟩ <;> (repeat (first | with_reducible assumption | (simp [go_sem]; done) | with_reducible apply cell_alloc | with_reducible apply cell_drew | with_reducible apply cell_drewN | (with_reducible apply Ab.at; with_reducible assumption) | (with_reducible refine cell_set ?_ ?_; rotate_left; focus (first | (simp; done) | (simp; omega))) | (with_reducible refine cell_setb ?_ ?_; rotate_left; focus (first | omega | (simp only; omega) | (simp; omega))))))
            clear hK K
            (try simp only [Act.put, List.setIfInBounds_toArray, List.set_cons_zero, List.set_cons_succ])))
          refine wpAnyH_done (by kernel_rfl) ?_ _
          go_wp2_with fail
          go_meet
          exact ⟨_, D, c, rfl, (by rw [HSL.out]; first | (simp [go_sem]; done) | (simp [go_sem, *]; done)), (by first | (simp [go_sem]; done) | (simp [go_sem, *]; done)), (by first | (simp [go_sem]; done) | (simp [go_sem, *]; done)), (by first | (simp [go_sem]; done) | (simp [go_sem, *]; done)), OR.mono (lo := w2.heap.size) (by (repeat (first | with_reducible exact OR.none_ | with_reducible assumption | with_reducible refine OR.drew ?_ | with_reducible refine OR.drewN ?_ _ | with_reducible refine OR.alloc ?_ _ | (with_reducible refine OR.setNew ?_ _ ?_ _; rotate_left; focus (first | (simp; done) | omega | (simp; omega))) | with_reducible refine OR.set ?_ (by first | (simp; done) | omega | (simp; omega)) _ | (with_reducible refine OR.keep ?_ (by assumption))))) (by first | (simp; done) | omega | (simp; omega)), (by first | (simp; done) | omega | (simp; omega)), (by repeat (first | with_reducible exact Ab.refl _ | with_reducible assumption | with_reducible refine Ab.drew ?_ | with_reducible refine Ab.drewN ?_ _ | with_reducible refine Ab.alloc ?_ _ | with_reducible refine Ab.trans ?_ (by assumption) | with_reducible refine Ab.set ?_ (by first | (simp; done) | omega | (simp; omega)) _)), (by repeat (first | with_reducible exact Ab.refl _ | with_reducible assumption | with_reducible refine Ab.drew ?_ | with_reducible refine Ab.drewN ?_ _ | with_reducible refine Ab.alloc ?_ _ | with_reducible refine Ab.trans ?_ (by assumption) | with_reducible refine Ab.set ?_ (by first | (simp; done) | omega | (simp; omega)) _))⟩
        · (go_simp
           (refine hK.out _ _ ?_ (fun hHeld => ?_)
            · (try dsimp only); (refine ⟨?_, ?_, ?_, ?_⟩ <;> (repeat (first | with_reducible assumption | (simp [go_sem]; done) | with_reducible apply cell_alloc | with_reducible apply cell_drew | with_reducible apply cell_drewN | (with_reducible apply Ab.at; with_reducible assumption) | (with_reducible refine cell_set ?_ ?_; rotate_left; focus (first | (simp; done) | (simp; omega))) | (with_reducible refine cell_setb ?_ ?_; rotate_left; focus (first | omega | (simp only; omega) | (simp; omega))))))
            clear hK K
            (try simp only [Act.put, List.setIfInBounds_toArray, List.set_cons_zero, List.set_cons_succ])))
          (refine wpAnyH_ready (rs := [1]) (by kernel_rfl) (by simp) ?_)
          refine AllReadyH.cons rfl (fun K hK => ?_) AllReadyH.nil
          (go_simp
           ((go_at_call 37)
            refine (whole_any A B ca cb s t cap dn _ (hs.ab (by repeat (first | with_reducible exact Ab.refl _ | with_reducible assumption | with_reducible refine Ab.drew ?_ | with_reducible refine Ab.drewN ?_ _ | with_reducible refine Ab.alloc ?_ _ | with_reducible refine Ab.trans ?_ (by assumption) | with_reducible refine Ab.set ?_ (by first | (simp; done) | omega | (simp; omega)) _))) (ht.ab (by repeat (first | with_reducible exact Ab.refl _ | with_reducible assumption | with_reducible refine Ab.drew ?_ | with_reducible refine Ab.drewN ?_ _ | with_reducible refine Ab.alloc ?_ _ | with_reducible refine Ab.trans ?_ (by assumption) | with_reducible refine Ab.set ?_ (by first | (simp; done) | omega | (simp; omega)) _))) hca hcb (by omega) (by omega)).mono ?_
            rintro e w3 ⟨L, D, c, hL, rfl, o1, hb3⟩
            have hLl : u ≤ L.length := by rw [hL.out]; exact hul
            have hcl := o1.le
            have hu1 : (u : Int) ≤ (c : Int) := by omega
            have hu2 : (u : Int) ≤ (L.length : Int) := by omega
            have z3 := hb3.size
            (try simp at z3)
            have o3 : OR 5 (w2.heap.size + 1) w3 D c sb := OR.mono (by rw [← HSB.out, ← hL.out]; exact o1.take u) (by first | (simp; done) | omega | (simp; omega))
            have yq0 := hb3.at (p := ⟨w2.heap.size, 0, none⟩) (v := .slice none 0 0) (by simp [go_sem]); have yq1 := hb3.at (p := ⟨w2.heap.size, 1, none⟩) (v := .slice none 0 0) (by simp [go_sem]); have yq2 := hb3.at (p := ⟨w2.heap.size, 2, none⟩) (v := .int .i64 0) (by simp [go_sem]); have yq3 := hb3.at (p := ⟨w2.heap.size, 3, none⟩) (v := .bool false) (by simp [go_sem])
            have yr0 : w3.frozen? ⟨w2.heap.size, 0, none⟩ = false := (hb3.frozen (p := ⟨w2.heap.size, 0, none⟩) (by simp)).trans (by simp [go_sem]); have yr1 : w3.frozen? ⟨w2.heap.size, 1, none⟩ = false := (hb3.frozen (p := ⟨w2.heap.size, 1, none⟩) (by simp)).trans (by simp [go_sem]); have yr2 : w3.frozen? ⟨w2.heap.size, 2, none⟩ = false := (hb3.frozen (p := ⟨w2.heap.size, 2, none⟩) (by simp)).trans (by simp [go_sem]); have yr3 : w3.frozen? ⟨w2.heap.size, 3, none⟩ = false := (hb3.frozen (p := ⟨w2.heap.size, 3, none⟩) (by simp)).trans (by simp [go_sem]))
           (try go_wp2_with fail)
           (refine hK.out _ _ ?_ (fun hHeld => ?_)
            · (try dsimp only); (refine ⟨?_, ?_, ?_, ?_⟩ <;> (repeat (first | with_reducible assumption | (simp [go_sem]; done) | with_reducible apply cell_alloc | with_reducible apply cell_drew | with_reducible apply cell_drewN | (with_reducible apply Ab.at; with_reducible assumption) | (with_reducible refine cell_set ?_ ?_; rotate_left; focus (first | (simp; done) | (simp; omega))) | (with_reducible refine cell_setb ?_ ?_; rotate_left; focus (first | omega | (simp only; omega) | (simp; omega))))))
            clear hK K
            (try simp only [Act.put, List.setIfInBounds_toArray, List.set_cons_zero, List.set_cons_succ])))
          (refine wpAnyH_take (i := 3) (v := ?_) rfl (by kernel_rfl) (by kernel_rfl) (by kernel_rfl) (fun _ _ _ h => h) (Or.inl ⟨by kernel_rfl, ?_⟩) (by assumption) ?_
           rotate_left
           · (intro w hSw; (try dsimp only at hSw); go_simp; (try with_reducible rfl))
           (try simp only [Act.put, List.setIfInBounds_toArray, List.set_cons_zero, List.set_cons_succ]))
          (refine wpAnyH_take (i := 6) (v := ?_) rfl (by kernel_rfl) (by kernel_rfl) (by kernel_rfl) (fun _ _ _ h => h) (Or.inl ⟨by kernel_rfl, ?_⟩) (by assumption) ?_
           rotate_left
           · (intro w hSw; (try dsimp only at hSw); go_simp; (try with_reducible rfl))
           (try simp only [Act.put, List.setIfInBounds_toArray, List.set_cons_zero, List.set_cons_succ]))
          (refine wpAnyH_ready (rs := [8]) (by kernel_rfl) (by simp) ?_)
          refine AllReadyH.cons rfl (fun K hK => ?_) AllReadyH.nil
          (go_simp
           (refine hK.out _ _ ?_ (fun hHeld => ?_)
            · (try dsimp only); (refine ⟨?_, ?_, ?_, ?_⟩ <;> (repeat (first | with_reducible assumption | (simp [go_sem]; done) | with_reducible apply cell_alloc | with_reducible apply cell_drew | with_reducible apply cell_drewN | (with_reducible apply Ab.at; with_reducible assumption) | (with_reducible refine cell_set ?_ ?_; rotate_left; focus (first | (simp; done) | (simp; omega))) | (with_reducible refine cell_setb ?_ ?_; rotate_left; focus (first | omega | (simp only; omega) | (simp; omega))))))
            clear hK K
            (try simp only [Act.put, List.setIfInBounds_toArray, List.set_cons_zero, List.set_cons_succ])))
          refine wpAnyH_done (by kernel_rfl) ?_ _
          go_wp2_with fail
          go_meet
          exact ⟨_, D, c, rfl, (by rw [HSL.out]; first | (simp [go_sem]; done) | (simp [go_sem, *]; done)), (by first | (simp [go_sem]; done) | (simp [go_sem, *]; done)), (by first | (simp [go_sem]; done) | (simp [go_sem, *]; done)), (by first | (simp [go_sem]; done) | (simp [go_sem, *]; done)), OR.mono (lo := w2.heap.size + 1) (by (repeat (first | with_reducible exact OR.none_ | with_reducible assumption | with_reducible refine OR.drew ?_ | with_reducible refine OR.drewN ?_ _ | with_reducible refine OR.alloc ?_ _ | (with_reducible refine OR.setNew ?_ _ ?_ _; rotate_left; focus (first | (simp; done) | omega | (simp; omega))) | with_reducible refine OR.set ?_ (by first | (simp; done) | omega | (simp; omega)) _ | (with_reducible refine OR.keep ?_ (by assumption))))) (by first | (simp; done) | omega | (simp; omega)), (by first | (simp; done) | omega | (simp; omega)), (by repeat (first | with_reducible exact Ab.refl _ | with_reducible assumption | with_reducible refine Ab.drew ?_ | with_reducible refine Ab.drewN ?_ _ | with_reducible refine Ab.alloc ?_ _ | with_reducible refine Ab.trans ?_ (by assumption) | with_reducible refine Ab.set ?_ (by first | (simp; done) | omega | (simp; omega)) _)), (by repeat (first | with_reducible exact Ab.refl _ | with_reducible assumption | with_reducible refine Ab.drew ?_ | with_reducible refine Ab.drewN ?_ _ | with_reducible refine Ab.alloc ?_ _ | with_reducible refine Ab.trans ?_ (by assumption) | with_reducible refine Ab.set ?_ (by first | (simp; done) | omega | (simp; omega)) _))⟩
      obtain ⟨P, D, cd, rfl, v0, v1, v2, v3, o1, hPw, hbc, hbd⟩ := hcut
      have zq0 := hbc.at (p := ⟨w.heap.size + 1, 0, none⟩) (v := .slice none 0 0) (by simp [go_sem]); have zq1 := hbc.at (p := ⟨w.heap.size + 1, 1, none⟩) (v := .slice none 0 0) (by simp [go_sem]); have zq2 := hbc.at (p := ⟨w.heap.size + 1, 2, none⟩) (v := .int .i64 0) (by simp [go_sem]); have zq3 := hbc.at (p := ⟨w.heap.size + 1, 3, none⟩) (v := .bool false) (by simp [go_sem]); have zq4 := hbc.at (p := ⟨w.heap.size + 1, 4, none⟩) (v := .int .i64 0) (by simp [go_sem]); have zq5 := hbc.at (p := ⟨w.heap.size + 1, 5, none⟩) (v := .int .i64 0) (by simp [go_sem])
      have zr0 : wc.frozen? ⟨w.heap.size + 1, 0, none⟩ = false := (hbc.frozen (p := ⟨w.heap.size + 1, 0, none⟩) (by simp)).trans (by simp [go_sem]); have zr1 : wc.frozen? ⟨w.heap.size + 1, 1, none⟩ = false := (hbc.frozen (p := ⟨w.heap.size + 1, 1, none⟩) (by simp)).trans (by simp [go_sem]); have zr2 : wc.frozen? ⟨w.heap.size + 1, 2, none⟩ = false := (hbc.frozen (p := ⟨w.heap.size + 1, 2, none⟩) (by simp)).trans (by simp [go_sem]); have zr3 : wc.frozen? ⟨w.heap.size + 1, 3, none⟩ = false := (hbc.frozen (p := ⟨w.heap.size + 1, 3, none⟩) (by simp)).trans (by simp [go_sem]); have zr4 : wc.frozen? ⟨w.heap.size + 1, 4, none⟩ = false := (hbc.frozen (p := ⟨w.heap.size + 1, 4, none⟩) (by simp)).trans (by simp [go_sem]); have zr5 : wc.frozen? ⟨w.heap.size + 1, 5, none⟩ = false := (hbc.frozen (p := ⟨w.heap.size + 1, 5, none⟩) (by simp)).trans (by simp [go_sem])
      have d0 := hbd.at c0'
      have d1 := hbd.at c1
      clear c0' c1 hidx2
      go_wp2_with fail
      go_region_held3 (fun w' => (w'.cell? ⟨P, 0, none⟩ = some (.slice D sb.length cd) ∧ w'.cell? ⟨P, 1, none⟩ = some (.slice none 0 0) ∧ w'.cell? ⟨P, 2, none⟩ = some (.int .i64 cap) ∧ w'.cell? ⟨P, 3, none⟩ = some (.bool false)) ∧
          w'.cell? a = some (.int .i64 bs) ∧ w'.cell? (a.add (k * 2)) = some (.int .i64 (bs + k)))
        ((refine ⟨⟨?_, ?_, ?_, ?_⟩, ?_, ?_⟩ <;> (first | (simp [go_sem, *]; done) | (repeat (first | with_reducible assumption | (simp [go_sem]; done) | with_reducible apply cell_alloc | with_reducible apply cell_drew | with_reducible apply cell_drewN | (with_reducible apply Ab.at; with_reducible assumption) | (with_reducible refine cell_set ?_ ?_; rotate_left; focus (first | (simp; done) | (simp; omega))) | (with_reducible refine cell_setb ?_ ?_; rotate_left; focus (first | omega | (simp only; omega) | (simp; omega))))))))
        (fail)
      all_goals go_wp2
      all_goals refine bodyPost_ret (v := .tuple #[.agg #[.slice D sb.length cd, .slice none 0 0, .int .i64 cap, .bool false, .int .i64 bs, .int .i64 (bs + k + 1)], .int .i64 0]) (by simp [results, Try.results24, go_sem, *]) rfl ?_
      all_goals exact ⟨⟨⟨sb, [], cap, false⟩, bs, bs + k + 1⟩, 0, D, none, cd, 0, Lib.hid (by rw [HM.out, HSB.out, ← HBS.out, HK.out]; simp; omega), rfl, OR.mono (lo := w.heap.size + 1 + 1) (by (repeat (first | with_reducible exact OR.none_ | with_reducible assumption | with_reducible refine OR.drew ?_ | with_reducible refine OR.drewN ?_ _ | with_reducible refine OR.alloc ?_ _ | (with_reducible refine OR.setNew ?_ _ ?_ _; rotate_left; focus (first | (simp; done) | omega | (simp; omega))) | with_reducible refine OR.set ?_ (by first | (simp; done) | omega | (simp; omega)) _ | (with_reducible refine OR.keep ?_ (by assumption))))) (by first | (simp; done) | omega | (simp; omega)), OR.none_, (by repeat (first | with_reducible exact Ab.refl _ | with_reducible assumption | with_reducible refine Ab.drew ?_ | with_reducible refine Ab.drewN ?_ _ | with_reducible refine Ab.alloc ?_ _ | with_reducible refine Ab.trans ?_ (by assumption) | with_reducible refine Ab.set ?_ (by first | (simp; done) | omega | (simp; omega)) _))⟩
end Go.Proofs.Ytehagdpcegpbjaa
