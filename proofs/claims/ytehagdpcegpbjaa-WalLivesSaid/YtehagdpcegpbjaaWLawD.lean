/- WalDrops, walked. Own work. -/
import Derived.Test.YtehagdpcegpbjaaWFunE2
import Derived.Test.YtehagdpcegpbjaaWMath3
import Derived.Test.YtehagdpcegpbjaaWAliveC
set_option linter.unusedVariables false
set_option linter.unusedSimpArgs false
namespace Go.Proofs.Ytehagdpcegpbjaa
open Go.RowKit

theorem fit4_yes (A B : Option Addr) (ca cb : Nat) (s t : List UInt8) (cap f n : Int) (w : World) (hs : RB w 0 A s) (ht : RB w 0 B t) (hca : s.length ≤ ca) (hcb : t.length ≤ cb) (h1 : great4B s.length t.length = false) (rs : List Frame.Rec) (hg : Wal.Good ⟨⟨s, t, cap, false⟩, f, n⟩ rs) :
    Calls Try.prog 35 #[.agg #[.slice A s.length ca, .slice B t.length cb, .int .i64 cap, .bool false, .int .i64 f, .int .i64 n]] w fun e w' => e = .returned (.bool true) ∧ Ab w w' := by
  obtain ⟨l1, l2⟩ := great4B_false h1
  have H1 := Lib.hid h1
  have HG := Lib.hid (show Wal.Is ⟨⟨s, t, cap, false⟩, f, n⟩ (some rs) from hg)
  clear h1 hg
  go_enter Try.func35, Try.ntmps35
  go_wp2_with fail
  refine (great4_any A B ca cb s t cap false _ (by omega) (by omega)).mono ?_
  rintro e w1 ⟨rfl, hb1⟩
  rw [H1.out]
  obtain ⟨bq0, bq1, bq2, bq3, bq4, bq5⟩ := cells6 hb1 (b := w.heap.size) (v0 := .slice A s.length ca) (v1 := .slice B t.length cb) (v2 := .int .i64 cap) (v3 := .bool false) (v4 := .int .i64 f) (v5 := .int .i64 n) (by first | (simp [go_sem]; done) | (refine ⟨?_, ?_, ?_, ?_, ?_, ?_⟩ <;> assumption))
  go_wp2_with fail
  refine (refwcheck_any A B ca cb s t cap false f n _ (hs.ab (by repeat (first | with_reducible exact Ab.refl _ | with_reducible assumption | with_reducible refine Ab.drew ?_ | with_reducible refine Ab.drewN ?_ _ | with_reducible refine Ab.alloc ?_ _ | with_reducible refine Ab.trans ?_ (by assumption) | with_reducible refine Ab.set ?_ (by first | (simp; done) | omega | (simp; omega)) _))) (ht.ab (by repeat (first | with_reducible exact Ab.refl _ | with_reducible assumption | with_reducible refine Ab.drew ?_ | with_reducible refine Ab.drewN ?_ _ | with_reducible refine Ab.alloc ?_ _ | with_reducible refine Ab.trans ?_ (by assumption) | with_reducible refine Ab.set ?_ (by first | (simp; done) | omega | (simp; omega)) _))) hca hcb (by omega) (by omega) (some rs) HG.out).mono ?_
  rintro e w2 ⟨r, hr, rfl, hb2⟩
  obtain rfl : r = 0 := hr.out
  go_wp2
  go_ret
  exact ⟨rfl, (by repeat (first | with_reducible exact Ab.refl _ | with_reducible assumption | with_reducible refine Ab.drew ?_ | with_reducible refine Ab.drewN ?_ _ | with_reducible refine Ab.alloc ?_ _ | with_reducible refine Ab.trans ?_ (by assumption) | with_reducible refine Ab.set ?_ (by first | (simp; done) | omega | (simp; omega)) _))⟩
theorem fit4_no (A B : Option Addr) (ca cb : Nat) (s t : List UInt8) (cap : Int) (dn : Bool) (f n : Int) (w : World) (hs : RB w 0 A s) (ht : RB w 0 B t) (hca : s.length ≤ ca) (hcb : t.length ≤ cb) (ls : s.length ≤ 9223372036854775807) (lt : t.length ≤ 9223372036854775807) (h : great4B s.length t.length = true ∨ ∀ rs, ¬ Wal.Good ⟨⟨s, t, cap, dn⟩, f, n⟩ rs) :
    Calls Try.prog 35 #[.agg #[.slice A s.length ca, .slice B t.length cb, .int .i64 cap, .bool dn, .int .i64 f, .int .i64 n]] w fun e w' => e = .returned (.bool false) ∧ Ab w w' := by
  cases h1 : great4B s.length t.length
  · obtain ⟨l1, l2⟩ := great4B_false h1
    have hn : ∀ rs, ¬ Wal.Good ⟨⟨s, t, cap, dn⟩, f, n⟩ rs := by
      rcases h with h | h
      · rw [h1] at h; cases h
      · exact h
    have H1 := Lib.hid h1
    have HG := Lib.hid (show Wal.Is ⟨⟨s, t, cap, dn⟩, f, n⟩ none from hn)
    clear h1 h hn
    go_enter Try.func35, Try.ntmps35
    go_wp2_with fail
    refine (great4_any A B ca cb s t cap dn _ ls lt).mono ?_
    rintro e w1 ⟨rfl, hb1⟩
    rw [H1.out]
    obtain ⟨bq0, bq1, bq2, bq3, bq4, bq5⟩ := cells6 hb1 (b := w.heap.size) (v0 := .slice A s.length ca) (v1 := .slice B t.length cb) (v2 := .int .i64 cap) (v3 := .bool dn) (v4 := .int .i64 f) (v5 := .int .i64 n) (by first | (simp [go_sem]; done) | (refine ⟨?_, ?_, ?_, ?_, ?_, ?_⟩ <;> assumption))
    go_wp2_with fail
    refine (refwcheck_any A B ca cb s t cap dn f n _ (hs.ab (by repeat (first | with_reducible exact Ab.refl _ | with_reducible assumption | with_reducible refine Ab.drew ?_ | with_reducible refine Ab.drewN ?_ _ | with_reducible refine Ab.alloc ?_ _ | with_reducible refine Ab.trans ?_ (by assumption) | with_reducible refine Ab.set ?_ (by first | (simp; done) | omega | (simp; omega)) _))) (ht.ab (by repeat (first | with_reducible exact Ab.refl _ | with_reducible assumption | with_reducible refine Ab.drew ?_ | with_reducible refine Ab.drewN ?_ _ | with_reducible refine Ab.alloc ?_ _ | with_reducible refine Ab.trans ?_ (by assumption) | with_reducible refine Ab.set ?_ (by first | (simp; done) | omega | (simp; omega)) _))) hca hcb (by omega) (by omega) none HG.out).mono ?_
    rintro e w2 ⟨r, hr, rfl, hb2⟩
    obtain rfl : r = 8 := hr.out
    go_wp2
    go_ret
    exact ⟨rfl, (by repeat (first | with_reducible exact Ab.refl _ | with_reducible assumption | with_reducible refine Ab.drew ?_ | with_reducible refine Ab.drewN ?_ _ | with_reducible refine Ab.alloc ?_ _ | with_reducible refine Ab.trans ?_ (by assumption) | with_reducible refine Ab.set ?_ (by first | (simp; done) | omega | (simp; omega)) _))⟩
  · have H1 := Lib.hid h1
    clear h1 h
    go_enter Try.func35, Try.ntmps35
    go_wp2_with fail
    refine (great4_any A B ca cb s t cap dn _ ls lt).mono ?_
    rintro e w1 ⟨rfl, hb1⟩
    rw [H1.out]
    go_wp2
    go_ret
    exact ⟨rfl, (by repeat (first | with_reducible exact Ab.refl _ | with_reducible assumption | with_reducible refine Ab.drew ?_ | with_reducible refine Ab.drewN ?_ _ | with_reducible refine Ab.alloc ?_ _ | with_reducible refine Ab.trans ?_ (by assumption) | with_reducible refine Ab.set ?_ (by first | (simp; done) | omega | (simp; omega)) _))⟩

set_option maxRecDepth 100000 in
set_option maxHeartbeats 6400000 in
theorem wdrops_walk (A B : Option Addr) (ca cb : Nat) (s t : List UInt8) (cap : Int) (dn : Bool) (f n : Int) (w : World) (hs : RB w 0 A s) (ht : RB w 0 B t) (hca : s.length ≤ ca) (hcb : t.length ≤ cb) (ls : s.length ≤ 9223372036854775807) (lt : t.length ≤ 9223372036854775807) (m : Int) :
    Calls Try.prog 9 #[.agg #[.slice A s.length ca, .slice B t.length cb, .int .i64 cap, .bool dn, .int .i64 f, .int .i64 n], .int .i64 m] w fun e w' => e = .returned (.bool true) ∧ Ab w w' := by
  by_cases hfit : great4B s.length t.length = true ∨ ∀ rs, ¬ Wal.Good ⟨⟨s, t, cap, dn⟩, f, n⟩ rs
  · go_enter Try.func9, Try.ntmps9
    go_wp2_with fail
    refine (fit4_no A B ca cb s t cap dn f n _ (hs.ab (by repeat (first | with_reducible exact Ab.refl _ | with_reducible assumption | with_reducible refine Ab.drew ?_ | with_reducible refine Ab.drewN ?_ _ | with_reducible refine Ab.alloc ?_ _ | with_reducible refine Ab.trans ?_ (by assumption) | with_reducible refine Ab.set ?_ (by first | (simp; done) | omega | (simp; omega)) _))) (ht.ab (by repeat (first | with_reducible exact Ab.refl _ | with_reducible assumption | with_reducible refine Ab.drew ?_ | with_reducible refine Ab.drewN ?_ _ | with_reducible refine Ab.alloc ?_ _ | with_reducible refine Ab.trans ?_ (by assumption) | with_reducible refine Ab.set ?_ (by first | (simp; done) | omega | (simp; omega)) _))) hca hcb ls lt hfit).mono ?_
    rintro e w1 ⟨rfl, hb1⟩
    go_wp2_with fail
    refine (alive4_true _).mono ?_
    rintro e w2 ⟨rfl, hb2⟩
    go_wp2
    go_ret
    exact ⟨rfl, (by repeat (first | with_reducible exact Ab.refl _ | with_reducible assumption | with_reducible refine Ab.drew ?_ | with_reducible refine Ab.drewN ?_ _ | with_reducible refine Ab.alloc ?_ _ | with_reducible refine Ab.trans ?_ (by assumption) | with_reducible refine Ab.set ?_ (by first | (simp; done) | omega | (simp; omega)) _))⟩
  obtain ⟨hgr, hgood⟩ := not_or.1 hfit
  have hgr : great4B s.length t.length = false := by simpa using hgr
  obtain ⟨rs, hg⟩ : ∃ rs, Wal.Good ⟨⟨s, t, cap, dn⟩, f, n⟩ rs := by
    have := Classical.not_forall.1 hgood
    obtain ⟨rs, h⟩ := this
    exact ⟨rs, Classical.not_not.1 h⟩
  obtain rfl : dn = false := hg.isUp
  obtain ⟨l1, l2⟩ := great4B_false hgr
  have HGR := Lib.hid hgr
  have hrg := hg.rng
  simp only at hrg
  clear hfit hgood hgr
  by_cases hout : m < f ∨ n < m ∨ 1000000000 < m
  · rcases hout with hout | hout | hout
    all_goals
      go_enter Try.func9, Try.ntmps9
      go_wp2_with fail
      refine (fit4_yes A B ca cb s t cap f n _ (hs.ab (by repeat (first | with_reducible exact Ab.refl _ | with_reducible assumption | with_reducible refine Ab.drew ?_ | with_reducible refine Ab.drewN ?_ _ | with_reducible refine Ab.alloc ?_ _ | with_reducible refine Ab.trans ?_ (by assumption) | with_reducible refine Ab.set ?_ (by first | (simp; done) | omega | (simp; omega)) _))) (ht.ab (by repeat (first | with_reducible exact Ab.refl _ | with_reducible assumption | with_reducible refine Ab.drew ?_ | with_reducible refine Ab.drewN ?_ _ | with_reducible refine Ab.alloc ?_ _ | with_reducible refine Ab.trans ?_ (by assumption) | with_reducible refine Ab.set ?_ (by first | (simp; done) | omega | (simp; omega)) _))) hca hcb HGR.out rs hg).mono ?_
      rintro e w1 ⟨rfl, hb1⟩
      obtain ⟨bq0, bq1, bq2, bq3, bq4, bq5⟩ := cells6 hb1 (b := w.heap.size) (v0 := .slice A s.length ca) (v1 := .slice B t.length cb) (v2 := .int .i64 cap) (v3 := .bool false) (v4 := .int .i64 f) (v5 := .int .i64 n) (by first | (simp [go_sem]; done) | (refine ⟨?_, ?_, ?_, ?_, ?_, ?_⟩ <;> assumption))
      go_wp2_with fail
      all_goals first | (exfalso; omega) | skip
      all_goals refine (alive4_true _).mono ?_
      all_goals rintro e w2 ⟨rfl, hb2⟩
      all_goals go_wp2
      all_goals go_ret
      all_goals exact ⟨rfl, (by repeat (first | with_reducible exact Ab.refl _ | with_reducible assumption | with_reducible refine Ab.drew ?_ | with_reducible refine Ab.drewN ?_ _ | with_reducible refine Ab.alloc ?_ _ | with_reducible refine Ab.trans ?_ (by assumption) | with_reducible refine Ab.set ?_ (by first | (simp; done) | omega | (simp; omega)) _))⟩
  have h1 : ¬ m < f := by omega
  have h2 : ¬ n < m := by omega
  have h3 : ¬ 1000000000 < m := by omega
  clear hout
  obtain ⟨kk, hkk⟩ : ∃ kk, Wal.cut rs s.length = kk := ⟨_, rfl⟩
  have HI := Lib.hid (show Wal.Is ⟨⟨s, t, cap, false⟩, f, n⟩ (some rs) from hg)
  have HS := Lib.hid (show Wal.synced ⟨⟨s, t, cap, false⟩, f, n⟩ (some rs) = (f + kk, 0) by rw [← hkk]; rfl)
  by_cases h4 : f + kk < m
  · have HD := Lib.hid (show Wal.drop ⟨⟨s, t, cap, false⟩, f, n⟩ m (some rs) = (Wal.zero, 32) from (if_neg (show ¬ (m < f ∨ n < m) by omega)).trans (if_pos (by rw [hkk]; exact h4)))
    clear hkk hg
    go_enter Try.func9, Try.ntmps9
    go_wp2_with fail
    refine (fit4_yes A B ca cb s t cap f n _ (hs.ab (by repeat (first | with_reducible exact Ab.refl _ | with_reducible assumption | with_reducible refine Ab.drew ?_ | with_reducible refine Ab.drewN ?_ _ | with_reducible refine Ab.alloc ?_ _ | with_reducible refine Ab.trans ?_ (by assumption) | with_reducible refine Ab.set ?_ (by first | (simp; done) | omega | (simp; omega)) _))) (ht.ab (by repeat (first | with_reducible exact Ab.refl _ | with_reducible assumption | with_reducible refine Ab.drew ?_ | with_reducible refine Ab.drewN ?_ _ | with_reducible refine Ab.alloc ?_ _ | with_reducible refine Ab.trans ?_ (by assumption) | with_reducible refine Ab.set ?_ (by first | (simp; done) | omega | (simp; omega)) _))) hca hcb HGR.out rs HI.out).mono ?_
    rintro e w1 ⟨rfl, hb1⟩
    obtain ⟨bq0, bq1, bq2, bq3, bq4, bq5⟩ := cells6 hb1 (b := w.heap.size) (v0 := .slice A s.length ca) (v1 := .slice B t.length cb) (v2 := .int .i64 cap) (v3 := .bool false) (v4 := .int .i64 f) (v5 := .int .i64 n) (by first | (simp [go_sem]; done) | (refine ⟨?_, ?_, ?_, ?_, ?_, ?_⟩ <;> assumption))
    go_wp2_with fail
    refine (wsynced_any A B ca cb s t cap false f n _ (hs.ab (by repeat (first | with_reducible exact Ab.refl _ | with_reducible assumption | with_reducible refine Ab.drew ?_ | with_reducible refine Ab.drewN ?_ _ | with_reducible refine Ab.alloc ?_ _ | with_reducible refine Ab.trans ?_ (by assumption) | with_reducible refine Ab.set ?_ (by first | (simp; done) | omega | (simp; omega)) _))) (ht.ab (by repeat (first | with_reducible exact Ab.refl _ | with_reducible assumption | with_reducible refine Ab.drew ?_ | with_reducible refine Ab.drewN ?_ _ | with_reducible refine Ab.alloc ?_ _ | with_reducible refine Ab.trans ?_ (by assumption) | with_reducible refine Ab.set ?_ (by first | (simp; done) | omega | (simp; omega)) _))) hca hcb (by omega) (by omega) (some rs) HI.out).mono ?_
    rintro e w2 ⟨a2, e2, h2', rfl, hb2⟩
    obtain ⟨rfl, rfl⟩ := Prod.mk.inj (h2'.out.trans HS.out)
    clear h2'
    have hTmp : Ab (w.alloc (.cells #[.slice A s.length ca, .slice B t.length cb, .int .i64 cap, .bool false, .int .i64 f, .int .i64 n] 26)) w2 := (by repeat (first | with_reducible exact Ab.refl _ | with_reducible assumption | with_reducible refine Ab.drew ?_ | with_reducible refine Ab.drewN ?_ _ | with_reducible refine Ab.alloc ?_ _ | with_reducible refine Ab.trans ?_ (by assumption) | with_reducible refine Ab.set ?_ (by first | (simp; done) | omega | (simp; omega)) _))
    obtain ⟨bq0, bq1, bq2, bq3, bq4, bq5⟩ := cells6 hTmp (b := w.heap.size) (v0 := .slice A s.length ca) (v1 := .slice B t.length cb) (v2 := .int .i64 cap) (v3 := .bool false) (v4 := .int .i64 f) (v5 := .int .i64 n) (by first | (simp [go_sem]; done) | (refine ⟨?_, ?_, ?_, ?_, ?_, ?_⟩ <;> assumption))
    clear hTmp
    go_wp2_with fail
    refine (wdrop_any A B ca cb s t cap false f n _ (hs.ab (by repeat (first | with_reducible exact Ab.refl _ | with_reducible assumption | with_reducible refine Ab.drew ?_ | with_reducible refine Ab.drewN ?_ _ | with_reducible refine Ab.alloc ?_ _ | with_reducible refine Ab.trans ?_ (by assumption) | with_reducible refine Ab.set ?_ (by first | (simp; done) | omega | (simp; omega)) _))) (ht.ab (by repeat (first | with_reducible exact Ab.refl _ | with_reducible assumption | with_reducible refine Ab.drew ?_ | with_reducible refine Ab.drewN ?_ _ | with_reducible refine Ab.alloc ?_ _ | with_reducible refine Ab.trans ?_ (by assumption) | with_reducible refine Ab.set ?_ (by first | (simp; done) | omega | (simp; omega)) _))) hca hcb (by omega) (by omega) (some rs) HI.out m).mono ?_
    rintro e w3 ⟨r3, e3, D3, E3, c3, d3, h3', rfl, p3, q3, hb3⟩
    obtain ⟨rfl, rfl⟩ := Prod.mk.inj (h3'.out.trans HD.out)
    clear h3'
    go_wp2_with fail
    refine (alive4_true _).mono ?_
    rintro e w4 ⟨rfl, hb4⟩
    go_wp2
    go_ret
    exact ⟨rfl, (by repeat (first | with_reducible exact Ab.refl _ | with_reducible assumption | with_reducible refine Ab.drew ?_ | with_reducible refine Ab.drewN ?_ _ | with_reducible refine Ab.alloc ?_ _ | with_reducible refine Ab.trans ?_ (by assumption) | with_reducible refine Ab.set ?_ (by first | (simp; done) | omega | (simp; omega)) _))⟩
  · obtain ⟨j, hj⟩ : ∃ j : Nat, m - f = (j : Int) := ⟨(m - f).toNat, by omega⟩
    obtain ⟨v, hv⟩ : ∃ v, (Frame.all (rs.take j)).length = v := ⟨_, rfl⟩
    have hjk : j ≤ kk := by omega
    have hkr : kk ≤ rs.length := by rw [← hkk]; exact Wal.cut_le _ _
    have hvs : v ≤ s.length := by rw [← hv]; exact Nat.le_trans (Wal.take_mono rs (by rw [hkk]; exact hjk)) (Wal.cut_in rs s.length)
    have hv0 : 12 * j ≤ v := by
      have := Wal.all_len (rs.take j)
      rw [hv, List.length_take, Nat.min_eq_left (by omega)] at this
      exact this
    have hgd0 := Wal.good_drop hg j (by rw [hkk]; exact hjk)
    rw [hv] at hgd0
    obtain ⟨sd, hsd⟩ : ∃ sd, s.drop v = sd := ⟨_, rfl⟩
    have hsl : sd.length + v ≤ s.length ∧ s.length ≤ sd.length + v := by rw [← hsd, List.length_drop]; omega
    obtain ⟨hsl1, hsl2⟩ := hsl
    have hmj : f + (j : Int) = m := by omega
    rw [hmj, hsd] at hgd0
    have HGD := Lib.hid hgd0
    obtain ⟨o, ho1, ho2, ho3, ho4, ho5, ho6⟩ := Wal.open_good hgd0 (by omega)
    have HD := Lib.hid (show Wal.drop ⟨⟨s, t, cap, false⟩, f, n⟩ m (some rs) = (⟨⟨sd, t, cap, false⟩, m, n⟩, 0) by
      refine (if_neg (show ¬ (m < f ∨ n < m) by omega)).trans ((if_neg (by rw [hkk]; exact h4)).trans ?_)
      simp only [hj, Int.toNat_natCast, hv, hsd])
    have HW1 := Lib.hid (show Wal.records ⟨⟨s, t, cap, false⟩, f, n⟩ m (some rs) = (rs.drop j, 0) by
      refine (if_neg (show ¬ (m < f ∨ n < m) by omega)).trans ?_
      simp only [hj, Int.toNat_natCast])
    have HW2 := Lib.hid (show Wal.records ⟨⟨sd, t, cap, false⟩, m, n⟩ m (some (rs.drop j)) = (rs.drop j, 0) by
      refine (if_neg (show ¬ (m < m ∨ n < m) by omega)).trans ?_
      simp only [Int.sub_self, Int.toNat_zero, List.drop_zero])
    have HW3 := Lib.hid (show Wal.records o m (some (rs.drop j)) = (rs.drop j, 0) by
      refine (if_neg (by rw [ho3, ho4]; omega)).trans ?_
      rw [ho3]
      simp only [Int.sub_self, Int.toNat_zero, List.drop_zero])
    have HZ1 := Lib.hid (show Disk.size ⟨s, t, cap, false⟩ = (((s.length + t.length : Nat) : Int), 0) from if_neg hg.nb)
    have HZ2 := Lib.hid (show Disk.size ⟨sd, t, cap, false⟩ = (((sd.length + t.length : Nat) : Int), 0) from if_neg hgd0.nb)
    obtain ⟨N, hN⟩ : ∃ N, s.length + t.length = N := ⟨_, rfl⟩
    obtain ⟨N2, hN2⟩ : ∃ N2, sd.length + t.length = N2 := ⟨_, rfl⟩
    rw [hN] at HZ1
    rw [hN2] at HZ2
    have hNN : N2 + v ≤ N ∧ N ≤ N2 + v := by omega
    have hNle : (N2 : Int) ≤ (N : Int) := by omega
    obtain ⟨bq, hbq1, hbq2⟩ : ∃ bq : Bool, ((N : Int) == (N2 : Int)) = bq ∧ (m == f) = bq := by
      rcases Nat.eq_zero_or_pos j with hj0 | hj0
      · have hv1 : v = 0 := by rw [← hv, hj0]; rfl
        exact ⟨true, by rw [beq_iff_eq]; omega, by rw [beq_iff_eq]; omega⟩
      · exact ⟨false, by rw [beq_eq_false_iff_ne]; omega, by rw [beq_eq_false_iff_ne]; omega⟩
    have HO1 := Lib.hid ho1
    have HO2 := Lib.hid ho2
    have ldrop : (rs.drop j).length ≤ 20000 := by have := hg.count; rw [List.length_drop]; omega
    have HFD := Lib.hid hgd0.2.1
    have hmle : m ≤ f + kk := by omega
    clear hj hv hkk hsd hmj hgd0 ho1 ho2 hN hN2 hNN h4 hv0 hg ho3 ho4 ho5 ho6
    go_enter Try.func9, Try.ntmps9
    go_wp2_with fail
    refine (fit4_yes A B ca cb s t cap f n _ (hs.ab (by repeat (first | with_reducible exact Ab.refl _ | with_reducible assumption | with_reducible refine Ab.drew ?_ | with_reducible refine Ab.drewN ?_ _ | with_reducible refine Ab.alloc ?_ _ | with_reducible refine Ab.trans ?_ (by assumption) | with_reducible refine Ab.set ?_ (by first | (simp; done) | omega | (simp; omega)) _))) (ht.ab (by repeat (first | with_reducible exact Ab.refl _ | with_reducible assumption | with_reducible refine Ab.drew ?_ | with_reducible refine Ab.drewN ?_ _ | with_reducible refine Ab.alloc ?_ _ | with_reducible refine Ab.trans ?_ (by assumption) | with_reducible refine Ab.set ?_ (by first | (simp; done) | omega | (simp; omega)) _))) hca hcb HGR.out rs HI.out).mono ?_
    rintro e w1 ⟨rfl, hb1⟩
    obtain ⟨bq0, bq1, bq2, bq3, bq4, bq5⟩ := cells6 hb1 (b := w.heap.size) (v0 := .slice A s.length ca) (v1 := .slice B t.length cb) (v2 := .int .i64 cap) (v3 := .bool false) (v4 := .int .i64 f) (v5 := .int .i64 n) (by first | (simp [go_sem]; done) | (refine ⟨?_, ?_, ?_, ?_, ?_, ?_⟩ <;> assumption))
    go_wp2_with fail
    refine (wsynced_any A B ca cb s t cap false f n _ (hs.ab (by repeat (first | with_reducible exact Ab.refl _ | with_reducible assumption | with_reducible refine Ab.drew ?_ | with_reducible refine Ab.drewN ?_ _ | with_reducible refine Ab.alloc ?_ _ | with_reducible refine Ab.trans ?_ (by assumption) | with_reducible refine Ab.set ?_ (by first | (simp; done) | omega | (simp; omega)) _))) (ht.ab (by repeat (first | with_reducible exact Ab.refl _ | with_reducible assumption | with_reducible refine Ab.drew ?_ | with_reducible refine Ab.drewN ?_ _ | with_reducible refine Ab.alloc ?_ _ | with_reducible refine Ab.trans ?_ (by assumption) | with_reducible refine Ab.set ?_ (by first | (simp; done) | omega | (simp; omega)) _))) hca hcb (by omega) (by omega) (some rs) HI.out).mono ?_
    rintro e w2 ⟨a2, e2, h2', rfl, hb2⟩
    obtain ⟨rfl, rfl⟩ := Prod.mk.inj (h2'.out.trans HS.out)
    clear h2'
    have hTmp : Ab (w.alloc (.cells #[.slice A s.length ca, .slice B t.length cb, .int .i64 cap, .bool false, .int .i64 f, .int .i64 n] 26)) w2 := (by repeat (first | with_reducible exact Ab.refl _ | with_reducible assumption | with_reducible refine Ab.drew ?_ | with_reducible refine Ab.drewN ?_ _ | with_reducible refine Ab.alloc ?_ _ | with_reducible refine Ab.trans ?_ (by assumption) | with_reducible refine Ab.set ?_ (by first | (simp; done) | omega | (simp; omega)) _))
    obtain ⟨bq0, bq1, bq2, bq3, bq4, bq5⟩ := cells6 hTmp (b := w.heap.size) (v0 := .slice A s.length ca) (v1 := .slice B t.length cb) (v2 := .int .i64 cap) (v3 := .bool false) (v4 := .int .i64 f) (v5 := .int .i64 n) (by first | (simp [go_sem]; done) | (refine ⟨?_, ?_, ?_, ?_, ?_, ?_⟩ <;> assumption))
    clear hTmp
    go_wp2_with fail
    refine (wdrop_any A B ca cb s t cap false f n _ (hs.ab (by repeat (first | with_reducible exact Ab.refl _ | with_reducible assumption | with_reducible refine Ab.drew ?_ | with_reducible refine Ab.drewN ?_ _ | with_reducible refine Ab.alloc ?_ _ | with_reducible refine Ab.trans ?_ (by assumption) | with_reducible refine Ab.set ?_ (by first | (simp; done) | omega | (simp; omega)) _))) (ht.ab (by repeat (first | with_reducible exact Ab.refl _ | with_reducible assumption | with_reducible refine Ab.drew ?_ | with_reducible refine Ab.drewN ?_ _ | with_reducible refine Ab.alloc ?_ _ | with_reducible refine Ab.trans ?_ (by assumption) | with_reducible refine Ab.set ?_ (by first | (simp; done) | omega | (simp; omega)) _))) hca hcb (by omega) (by omega) (some rs) HI.out m).mono ?_
    rintro e w3 ⟨r3, e3, D3, E3, c3, d3, h3', rfl, p3, q3, hb3⟩
    have H3 := Lib.hid (Prod.mk.inj (h3'.out.trans HD.out)).1
    obtain rfl : e3 = 0 := (Prod.mk.inj (h3'.out.trans HD.out)).2
    clear h3'
    have g3 : Wal.Good r3 (rs.drop j) := by rw [H3.out]; exact HGD.out
    have L3 := good_lens g3
    have hf3 : (r3.first == m) = true := by rw [H3.out]; simp
    have hn3 : (r3.next == n) = true := by rw [H3.out]; simp
    have hTmp : Ab (w.alloc (.cells #[.slice A s.length ca, .slice B t.length cb, .int .i64 cap, .bool false, .int .i64 f, .int .i64 n] 26)) w3 := (by repeat (first | with_reducible exact Ab.refl _ | with_reducible assumption | with_reducible refine Ab.drew ?_ | with_reducible refine Ab.drewN ?_ _ | with_reducible refine Ab.alloc ?_ _ | with_reducible refine Ab.trans ?_ (by assumption) | with_reducible refine Ab.set ?_ (by first | (simp; done) | omega | (simp; omega)) _))
    obtain ⟨bq0, bq1, bq2, bq3, bq4, bq5⟩ := cells6 hTmp (b := w.heap.size) (v0 := .slice A s.length ca) (v1 := .slice B t.length cb) (v2 := .int .i64 cap) (v3 := .bool false) (v4 := .int .i64 f) (v5 := .int .i64 n) (by first | (simp [go_sem]; done) | (refine ⟨?_, ?_, ?_, ?_, ?_, ?_⟩ <;> assumption))
    clear hTmp
    have zA : w.heap.size < w3.heap.size := cell_lt bq0
    have nA := fun (o : Obj) (j : Nat) => World.cell?_alloc_lt w3 o ⟨w.heap.size, j, none⟩ zA
    go_wp2_with fail
    refine (wrecords_any A B ca cb s t cap false f n _ (hs.ab (by repeat (first | with_reducible exact Ab.refl _ | with_reducible assumption | with_reducible refine Ab.drew ?_ | with_reducible refine Ab.drewN ?_ _ | with_reducible refine Ab.alloc ?_ _ | with_reducible refine Ab.trans ?_ (by assumption) | with_reducible refine Ab.set ?_ (by first | (simp; done) | omega | (simp; omega)) _))) (ht.ab (by repeat (first | with_reducible exact Ab.refl _ | with_reducible assumption | with_reducible refine Ab.drew ?_ | with_reducible refine Ab.drewN ?_ _ | with_reducible refine Ab.alloc ?_ _ | with_reducible refine Ab.trans ?_ (by assumption) | with_reducible refine Ab.set ?_ (by first | (simp; done) | omega | (simp; omega)) _))) hca hcb (by omega) (by omega) (some rs) HI.out m).mono ?_
    rintro e w4 ⟨X4, x4, xs4, e4, h4', rfl, R4, hd4, hx4, hsm4, hb4⟩
    obtain ⟨hr4, rfl⟩ := Prod.mk.inj (h4'.out.trans HW1.out)
    have HR4 := Lib.hid hr4
    clear h4' hr4 nA
    have hTmp : Ab (w3.alloc (.cells #[.slice D3 r3.dev.s.length c3, .slice E3 r3.dev.t.length d3, .int .i64 r3.dev.cap, .bool r3.dev.down, .int .i64 r3.first, .int .i64 r3.next] 26)) w4 := (by repeat (first | with_reducible exact Ab.refl _ | with_reducible assumption | with_reducible refine Ab.drew ?_ | with_reducible refine Ab.drewN ?_ _ | with_reducible refine Ab.alloc ?_ _ | with_reducible refine Ab.trans ?_ (by assumption) | with_reducible refine Ab.set ?_ (by first | (simp; done) | omega | (simp; omega)) _))
    obtain ⟨iq0, iq1, iq2, iq3, iq4, iq5⟩ := cells6 hTmp (b := w3.heap.size) (v0 := .slice D3 r3.dev.s.length c3) (v1 := .slice E3 r3.dev.t.length d3) (v2 := .int .i64 r3.dev.cap) (v3 := .bool r3.dev.down) (v4 := .int .i64 r3.first) (v5 := .int .i64 r3.next) (by first | (simp [go_sem]; done) | (refine ⟨?_, ?_, ?_, ?_, ?_, ?_⟩ <;> assumption))
    clear hTmp
    have hTmp : Ab (w.alloc (.cells #[.slice A s.length ca, .slice B t.length cb, .int .i64 cap, .bool false, .int .i64 f, .int .i64 n] 26)) w4 := (by repeat (first | with_reducible exact Ab.refl _ | with_reducible assumption | with_reducible refine Ab.drew ?_ | with_reducible refine Ab.drewN ?_ _ | with_reducible refine Ab.alloc ?_ _ | with_reducible refine Ab.trans ?_ (by assumption) | with_reducible refine Ab.set ?_ (by first | (simp; done) | omega | (simp; omega)) _))
    obtain ⟨bq0, bq1, bq2, bq3, bq4, bq5⟩ := cells6 hTmp (b := w.heap.size) (v0 := .slice A s.length ca) (v1 := .slice B t.length cb) (v2 := .int .i64 cap) (v3 := .bool false) (v4 := .int .i64 f) (v5 := .int .i64 n) (by first | (simp [go_sem]; done) | (refine ⟨?_, ?_, ?_, ?_, ?_, ?_⟩ <;> assumption))
    clear hTmp
    go_wp2_with fail
    refine (wrecords_any D3 E3 c3 d3 r3.dev.s r3.dev.t r3.dev.cap r3.dev.down r3.first r3.next _ (p3.rb.zero.ab (by repeat (first | with_reducible exact Ab.refl _ | with_reducible assumption | with_reducible refine Ab.drew ?_ | with_reducible refine Ab.drewN ?_ _ | with_reducible refine Ab.alloc ?_ _ | with_reducible refine Ab.trans ?_ (by assumption) | with_reducible refine Ab.set ?_ (by first | (simp; done) | omega | (simp; omega)) _))) (q3.rb.zero.ab (by repeat (first | with_reducible exact Ab.refl _ | with_reducible assumption | with_reducible refine Ab.drew ?_ | with_reducible refine Ab.drewN ?_ _ | with_reducible refine Ab.alloc ?_ _ | with_reducible refine Ab.trans ?_ (by assumption) | with_reducible refine Ab.set ?_ (by first | (simp; done) | omega | (simp; omega)) _))) p3.le q3.le L3.1 L3.2 (some (rs.drop j)) g3 m).mono ?_
    rintro e w5 ⟨X5, x5, xs5, e5, h5', rfl, R5, hd5, hx5, hsm5, hb5⟩
    obtain ⟨hr5, rfl⟩ := Prod.mk.inj (h5'.out.trans ((congrArg (fun l => Wal.records l m (some (rs.drop j))) H3.out).trans HW2.out))
    have HR5 := Lib.hid hr5
    clear h5' hr5
    have hTmp : Ab (w3.alloc (.cells #[.slice D3 r3.dev.s.length c3, .slice E3 r3.dev.t.length d3, .int .i64 r3.dev.cap, .bool r3.dev.down, .int .i64 r3.first, .int .i64 r3.next] 26)) w5 := (by repeat (first | with_reducible exact Ab.refl _ | with_reducible assumption | with_reducible refine Ab.drew ?_ | with_reducible refine Ab.drewN ?_ _ | with_reducible refine Ab.alloc ?_ _ | with_reducible refine Ab.trans ?_ (by assumption) | with_reducible refine Ab.set ?_ (by first | (simp; done) | omega | (simp; omega)) _))
    obtain ⟨iq0, iq1, iq2, iq3, iq4, iq5⟩ := cells6 hTmp (b := w3.heap.size) (v0 := .slice D3 r3.dev.s.length c3) (v1 := .slice E3 r3.dev.t.length d3) (v2 := .int .i64 r3.dev.cap) (v3 := .bool r3.dev.down) (v4 := .int .i64 r3.first) (v5 := .int .i64 r3.next) (by first | (simp [go_sem]; done) | (refine ⟨?_, ?_, ?_, ?_, ?_, ?_⟩ <;> assumption))
    clear hTmp
    have hTmp : Ab (w.alloc (.cells #[.slice A s.length ca, .slice B t.length cb, .int .i64 cap, .bool false, .int .i64 f, .int .i64 n] 26)) w5 := (by repeat (first | with_reducible exact Ab.refl _ | with_reducible assumption | with_reducible refine Ab.drew ?_ | with_reducible refine Ab.drewN ?_ _ | with_reducible refine Ab.alloc ?_ _ | with_reducible refine Ab.trans ?_ (by assumption) | with_reducible refine Ab.set ?_ (by first | (simp; done) | omega | (simp; omega)) _))
    obtain ⟨bq0, bq1, bq2, bq3, bq4, bq5⟩ := cells6 hTmp (b := w.heap.size) (v0 := .slice A s.length ca) (v1 := .slice B t.length cb) (v2 := .int .i64 cap) (v3 := .bool false) (v4 := .int .i64 f) (v5 := .int .i64 n) (by first | (simp [go_sem]; done) | (refine ⟨?_, ?_, ?_, ?_, ?_, ?_⟩ <;> assumption))
    clear hTmp
    go_wp2_with fail
    refine (wopen_any D3 E3 c3 d3 r3.dev.s r3.dev.t r3.dev.cap r3.dev.down _ (p3.rb.zero.ab (by repeat (first | with_reducible exact Ab.refl _ | with_reducible assumption | with_reducible refine Ab.drew ?_ | with_reducible refine Ab.drewN ?_ _ | with_reducible refine Ab.alloc ?_ _ | with_reducible refine Ab.trans ?_ (by assumption) | with_reducible refine Ab.set ?_ (by first | (simp; done) | omega | (simp; omega)) _))) (q3.rb.zero.ab (by repeat (first | with_reducible exact Ab.refl _ | with_reducible assumption | with_reducible refine Ab.drew ?_ | with_reducible refine Ab.drewN ?_ _ | with_reducible refine Ab.alloc ?_ _ | with_reducible refine Ab.trans ?_ (by assumption) | with_reducible refine Ab.set ?_ (by first | (simp; done) | omega | (simp; omega)) _))) p3.le q3.le L3.1 L3.2 m (rs.drop j) (sd ++ t).length (by rw [H3.out]; exact HGD.out.scan)).mono ?_
    rintro e w6 ⟨r6, e6, D6, E6, c6, d6, h6', rfl, p6, q6, hb6⟩
    have hm6 := h6'.out.trans ((congrArg (fun l : Wal.Log => Wal.open_ l.dev m (rs.drop j) (sd ++ t).length) H3.out).trans HO1.out)
    have H6 := Lib.hid (Prod.mk.inj hm6).1
    obtain rfl : e6 = 0 := (Prod.mk.inj hm6).2
    clear h6' hm6
    have g6 : Wal.Good r6 (rs.drop j) := by rw [H6.out]; exact HO2.out
    have L6 := good_lens g6
    have hTmp : Ab (w3.alloc (.cells #[.slice D3 r3.dev.s.length c3, .slice E3 r3.dev.t.length d3, .int .i64 r3.dev.cap, .bool r3.dev.down, .int .i64 r3.first, .int .i64 r3.next] 26)) w6 := (by repeat (first | with_reducible exact Ab.refl _ | with_reducible assumption | with_reducible refine Ab.drew ?_ | with_reducible refine Ab.drewN ?_ _ | with_reducible refine Ab.alloc ?_ _ | with_reducible refine Ab.trans ?_ (by assumption) | with_reducible refine Ab.set ?_ (by first | (simp; done) | omega | (simp; omega)) _))
    obtain ⟨iq0, iq1, iq2, iq3, iq4, iq5⟩ := cells6 hTmp (b := w3.heap.size) (v0 := .slice D3 r3.dev.s.length c3) (v1 := .slice E3 r3.dev.t.length d3) (v2 := .int .i64 r3.dev.cap) (v3 := .bool r3.dev.down) (v4 := .int .i64 r3.first) (v5 := .int .i64 r3.next) (by first | (simp [go_sem]; done) | (refine ⟨?_, ?_, ?_, ?_, ?_, ?_⟩ <;> assumption))
    clear hTmp
    have hTmp : Ab (w.alloc (.cells #[.slice A s.length ca, .slice B t.length cb, .int .i64 cap, .bool false, .int .i64 f, .int .i64 n] 26)) w6 := (by repeat (first | with_reducible exact Ab.refl _ | with_reducible assumption | with_reducible refine Ab.drew ?_ | with_reducible refine Ab.drewN ?_ _ | with_reducible refine Ab.alloc ?_ _ | with_reducible refine Ab.trans ?_ (by assumption) | with_reducible refine Ab.set ?_ (by first | (simp; done) | omega | (simp; omega)) _))
    obtain ⟨bq0, bq1, bq2, bq3, bq4, bq5⟩ := cells6 hTmp (b := w.heap.size) (v0 := .slice A s.length ca) (v1 := .slice B t.length cb) (v2 := .int .i64 cap) (v3 := .bool false) (v4 := .int .i64 f) (v5 := .int .i64 n) (by first | (simp [go_sem]; done) | (refine ⟨?_, ?_, ?_, ?_, ?_, ?_⟩ <;> assumption))
    clear hTmp
    have zA : w.heap.size < w6.heap.size := cell_lt bq0
    have nA := fun (o : Obj) (j : Nat) => World.cell?_alloc_lt w6 o ⟨w.heap.size, j, none⟩ zA
    have zB : w3.heap.size < w6.heap.size := cell_lt iq0
    have nB := fun (o : Obj) (j : Nat) => World.cell?_alloc_lt w6 o ⟨w3.heap.size, j, none⟩ zB
    go_wp2_with fail
    refine (wrecords_any D6 E6 c6 d6 r6.dev.s r6.dev.t r6.dev.cap r6.dev.down r6.first r6.next _ (p6.rb.zero.ab (by repeat (first | with_reducible exact Ab.refl _ | with_reducible assumption | with_reducible refine Ab.drew ?_ | with_reducible refine Ab.drewN ?_ _ | with_reducible refine Ab.alloc ?_ _ | with_reducible refine Ab.trans ?_ (by assumption) | with_reducible refine Ab.set ?_ (by first | (simp; done) | omega | (simp; omega)) _))) (q6.rb.zero.ab (by repeat (first | with_reducible exact Ab.refl _ | with_reducible assumption | with_reducible refine Ab.drew ?_ | with_reducible refine Ab.drewN ?_ _ | with_reducible refine Ab.alloc ?_ _ | with_reducible refine Ab.trans ?_ (by assumption) | with_reducible refine Ab.set ?_ (by first | (simp; done) | omega | (simp; omega)) _))) p6.le q6.le L6.1 L6.2 (some (rs.drop j)) g6 m).mono ?_
    rintro e w7 ⟨X7, x7, xs7, e7, h7', rfl, R7, hd7, hx7, hsm7, hb7⟩
    obtain ⟨hr7, rfl⟩ := Prod.mk.inj (h7'.out.trans ((congrArg (fun l => Wal.records l m (some (rs.drop j))) H6.out).trans HW3.out))
    have HR7 := Lib.hid hr7
    clear h7' hr7 nA nB
    have hTmp : Ab (w3.alloc (.cells #[.slice D3 r3.dev.s.length c3, .slice E3 r3.dev.t.length d3, .int .i64 r3.dev.cap, .bool r3.dev.down, .int .i64 r3.first, .int .i64 r3.next] 26)) w7 := (by repeat (first | with_reducible exact Ab.refl _ | with_reducible assumption | with_reducible refine Ab.drew ?_ | with_reducible refine Ab.drewN ?_ _ | with_reducible refine Ab.alloc ?_ _ | with_reducible refine Ab.trans ?_ (by assumption) | with_reducible refine Ab.set ?_ (by first | (simp; done) | omega | (simp; omega)) _))
    obtain ⟨iq0, iq1, iq2, iq3, iq4, iq5⟩ := cells6 hTmp (b := w3.heap.size) (v0 := .slice D3 r3.dev.s.length c3) (v1 := .slice E3 r3.dev.t.length d3) (v2 := .int .i64 r3.dev.cap) (v3 := .bool r3.dev.down) (v4 := .int .i64 r3.first) (v5 := .int .i64 r3.next) (by first | (simp [go_sem]; done) | (refine ⟨?_, ?_, ?_, ?_, ?_, ?_⟩ <;> assumption))
    clear hTmp
    have hTmp : Ab (w.alloc (.cells #[.slice A s.length ca, .slice B t.length cb, .int .i64 cap, .bool false, .int .i64 f, .int .i64 n] 26)) w7 := (by repeat (first | with_reducible exact Ab.refl _ | with_reducible assumption | with_reducible refine Ab.drew ?_ | with_reducible refine Ab.drewN ?_ _ | with_reducible refine Ab.alloc ?_ _ | with_reducible refine Ab.trans ?_ (by assumption) | with_reducible refine Ab.set ?_ (by first | (simp; done) | omega | (simp; omega)) _))
    obtain ⟨bq0, bq1, bq2, bq3, bq4, bq5⟩ := cells6 hTmp (b := w.heap.size) (v0 := .slice A s.length ca) (v1 := .slice B t.length cb) (v2 := .int .i64 cap) (v3 := .bool false) (v4 := .int .i64 f) (v5 := .int .i64 n) (by first | (simp [go_sem]; done) | (refine ⟨?_, ?_, ?_, ?_, ?_, ?_⟩ <;> assumption))
    clear hTmp
    go_wp2_with fail
    refine (size_any A B ca cb s t cap false _ (by omega) (by omega)).mono ?_
    rintro e w8 ⟨r8, e8, h8', rfl, hb8⟩
    obtain ⟨rfl, rfl⟩ := Prod.mk.inj (h8'.out.trans HZ1.out)
    clear h8'
    have hTmp : Ab (w3.alloc (.cells #[.slice D3 r3.dev.s.length c3, .slice E3 r3.dev.t.length d3, .int .i64 r3.dev.cap, .bool r3.dev.down, .int .i64 r3.first, .int .i64 r3.next] 26)) w8 := (by repeat (first | with_reducible exact Ab.refl _ | with_reducible assumption | with_reducible refine Ab.drew ?_ | with_reducible refine Ab.drewN ?_ _ | with_reducible refine Ab.alloc ?_ _ | with_reducible refine Ab.trans ?_ (by assumption) | with_reducible refine Ab.set ?_ (by first | (simp; done) | omega | (simp; omega)) _))
    obtain ⟨iq0, iq1, iq2, iq3, iq4, iq5⟩ := cells6 hTmp (b := w3.heap.size) (v0 := .slice D3 r3.dev.s.length c3) (v1 := .slice E3 r3.dev.t.length d3) (v2 := .int .i64 r3.dev.cap) (v3 := .bool r3.dev.down) (v4 := .int .i64 r3.first) (v5 := .int .i64 r3.next) (by first | (simp [go_sem]; done) | (refine ⟨?_, ?_, ?_, ?_, ?_, ?_⟩ <;> assumption))
    clear hTmp
    have hTmp : Ab (w.alloc (.cells #[.slice A s.length ca, .slice B t.length cb, .int .i64 cap, .bool false, .int .i64 f, .int .i64 n] 26)) w8 := (by repeat (first | with_reducible exact Ab.refl _ | with_reducible assumption | with_reducible refine Ab.drew ?_ | with_reducible refine Ab.drewN ?_ _ | with_reducible refine Ab.alloc ?_ _ | with_reducible refine Ab.trans ?_ (by assumption) | with_reducible refine Ab.set ?_ (by first | (simp; done) | omega | (simp; omega)) _))
    obtain ⟨bq0, bq1, bq2, bq3, bq4, bq5⟩ := cells6 hTmp (b := w.heap.size) (v0 := .slice A s.length ca) (v1 := .slice B t.length cb) (v2 := .int .i64 cap) (v3 := .bool false) (v4 := .int .i64 f) (v5 := .int .i64 n) (by first | (simp [go_sem]; done) | (refine ⟨?_, ?_, ?_, ?_, ?_, ?_⟩ <;> assumption))
    clear hTmp
    go_wp2_with fail
    refine (size_any D3 E3 c3 d3 r3.dev.s r3.dev.t r3.dev.cap r3.dev.down _ L3.1 L3.2).mono ?_
    rintro e w9 ⟨r9, e9, h9', rfl, hb9⟩
    obtain ⟨rfl, rfl⟩ := Prod.mk.inj (h9'.out.trans ((congrArg (fun l : Wal.Log => Disk.size l.dev) H3.out).trans HZ2.out))
    clear h9'
    have hTmp : Ab (w3.alloc (.cells #[.slice D3 r3.dev.s.length c3, .slice E3 r3.dev.t.length d3, .int .i64 r3.dev.cap, .bool r3.dev.down, .int .i64 r3.first, .int .i64 r3.next] 26)) w9 := (by repeat (first | with_reducible exact Ab.refl _ | with_reducible assumption | with_reducible refine Ab.drew ?_ | with_reducible refine Ab.drewN ?_ _ | with_reducible refine Ab.alloc ?_ _ | with_reducible refine Ab.trans ?_ (by assumption) | with_reducible refine Ab.set ?_ (by first | (simp; done) | omega | (simp; omega)) _))
    obtain ⟨iq0, iq1, iq2, iq3, iq4, iq5⟩ := cells6 hTmp (b := w3.heap.size) (v0 := .slice D3 r3.dev.s.length c3) (v1 := .slice E3 r3.dev.t.length d3) (v2 := .int .i64 r3.dev.cap) (v3 := .bool r3.dev.down) (v4 := .int .i64 r3.first) (v5 := .int .i64 r3.next) (by first | (simp [go_sem]; done) | (refine ⟨?_, ?_, ?_, ?_, ?_, ?_⟩ <;> assumption))
    clear hTmp
    have hTmp : Ab (w.alloc (.cells #[.slice A s.length ca, .slice B t.length cb, .int .i64 cap, .bool false, .int .i64 f, .int .i64 n] 26)) w9 := (by repeat (first | with_reducible exact Ab.refl _ | with_reducible assumption | with_reducible refine Ab.drew ?_ | with_reducible refine Ab.drewN ?_ _ | with_reducible refine Ab.alloc ?_ _ | with_reducible refine Ab.trans ?_ (by assumption) | with_reducible refine Ab.set ?_ (by first | (simp; done) | omega | (simp; omega)) _))
    obtain ⟨bq0, bq1, bq2, bq3, bq4, bq5⟩ := cells6 hTmp (b := w.heap.size) (v0 := .slice A s.length ca) (v1 := .slice B t.length cb) (v2 := .int .i64 cap) (v3 := .bool false) (v4 := .int .i64 f) (v5 := .int .i64 n) (by first | (simp [go_sem]; done) | (refine ⟨?_, ?_, ?_, ?_, ?_, ?_⟩ <;> assumption))
    clear hTmp
    have HSM4 := Lib.hid (show ∀ i (hi : i < xs4.length), xs4[i].b.length ≤ 140737488351232 from fun i hi => Nat.le_trans (hsm4.out i hi) (by omega))
    have HSM7 := Lib.hid (show ∀ i (hi : i < xs7.length), xs7[i].b.length ≤ 140737488351232 from fun i hi => Nat.le_trans (hsm7.out i hi) (by omega))
    go_wp2_with fail
    refine (rsame_true X4 X5 x4 x5 xs4 xs5 _ ((R4.ab (by repeat (first | with_reducible exact Ab.refl _ | with_reducible assumption | with_reducible refine Ab.drew ?_ | with_reducible refine Ab.drewN ?_ _ | with_reducible refine Ab.alloc ?_ _ | with_reducible refine Ab.trans ?_ (by assumption) | with_reducible refine Ab.set ?_ (by first | (simp; done) | omega | (simp; omega)) _))).mono (Nat.zero_le _)) ((R5.ab (by repeat (first | with_reducible exact Ab.refl _ | with_reducible assumption | with_reducible refine Ab.drew ?_ | with_reducible refine Ab.drewN ?_ _ | with_reducible refine Ab.alloc ?_ _ | with_reducible refine Ab.trans ?_ (by assumption) | with_reducible refine Ab.set ?_ (by first | (simp; done) | omega | (simp; omega)) _))).mono (Nat.zero_le _)) (Lib.hid (HR4.out.trans HR5.out.symm)) (by omega) HSM4).mono ?_
    rintro e wa ⟨rfl, na, rfl⟩
    go_wp2_with fail
    refine (rsame_true X7 X5 x7 x5 xs7 xs5 _ ((R7.ab (by repeat (first | with_reducible exact Ab.refl _ | with_reducible assumption | with_reducible refine Ab.drew ?_ | with_reducible refine Ab.drewN ?_ _ | with_reducible refine Ab.alloc ?_ _ | with_reducible refine Ab.trans ?_ (by assumption) | with_reducible refine Ab.set ?_ (by first | (simp; done) | omega | (simp; omega)) _))).mono (Nat.zero_le _)) ((R5.ab (by repeat (first | with_reducible exact Ab.refl _ | with_reducible assumption | with_reducible refine Ab.drew ?_ | with_reducible refine Ab.drewN ?_ _ | with_reducible refine Ab.alloc ?_ _ | with_reducible refine Ab.trans ?_ (by assumption) | with_reducible refine Ab.set ?_ (by first | (simp; done) | omega | (simp; omega)) _))).mono (Nat.zero_le _)) (Lib.hid (HR7.out.trans HR5.out.symm)) (by omega) HSM7).mono ?_
    rintro e wb ⟨rfl, nb, rfl⟩
    go_wp2_with fail
    refine (alive4_true _).mono ?_
    rintro e wz ⟨rfl, hbz⟩
    go_wp2
    go_ret
    exact ⟨rfl, (by repeat (first | with_reducible exact Ab.refl _ | with_reducible assumption | with_reducible refine Ab.drew ?_ | with_reducible refine Ab.drewN ?_ _ | with_reducible refine Ab.alloc ?_ _ | with_reducible refine Ab.trans ?_ (by assumption) | with_reducible refine Ab.set ?_ (by first | (simp; done) | omega | (simp; omega)) _))⟩
end Go.Proofs.Ytehagdpcegpbjaa
