/- WalRecovers, walked. Own work. -/
import Derived.Test.YtehagdpcegpbjaaWLawD
set_option linter.unusedVariables false
set_option linter.unusedSimpArgs false
namespace Go.Proofs.Ytehagdpcegpbjaa
open Go.RowKit

theorem same_bytes (A B : Option Addr) (c d : Nat) (x y : List UInt8) (w : World) (hx : RB w 0 A x) (hy : RB w 0 B y) (hl : x.length ≤ 140737488351232) (hl' : y.length ≤ 140737488351232) (he : x = y) :
    Calls Try.prog 36 #[.slice A x.length c, .slice B y.length d] w fun e w' => e = .returned (.bool true) ∧ Ab w w' :=
  (sameBytes_eq A B c d x y w hx hy hl hl').mono fun _ _ h => ⟨by rw [h.1, he, beq_self_eq_true], by obtain ⟨n, hn⟩ := h.2; rw [hn]; exact (Ab.refl _).drewN _⟩

set_option maxRecDepth 100000 in
set_option maxHeartbeats 6400000 in
theorem wrecovers_walk (A B : Option Addr) (ca cb : Nat) (s t : List UInt8) (cap : Int) (dn : Bool) (f n : Int) (w : World) (hs : RB w 0 A s) (ht : RB w 0 B t) (hca : s.length ≤ ca) (hcb : t.length ≤ cb) (ls : s.length ≤ 9223372036854775807) (lt : t.length ≤ 9223372036854775807) (k : Int) :
    Calls Try.prog 7 #[.agg #[.slice A s.length ca, .slice B t.length cb, .int .i64 cap, .bool dn, .int .i64 f, .int .i64 n], .int .i64 k] w fun e w' => e = .returned (.bool true) ∧ Ab w w' := by
  by_cases hfit : great4B s.length t.length = true ∨ ∀ rs, ¬ Wal.Good ⟨⟨s, t, cap, dn⟩, f, n⟩ rs
  · go_enter Try.func7, Try.ntmps7
    go_wp2_with fail
    refine (fit4_no A B ca cb s t cap dn f n _ (hs.ab (by repeat (first | with_reducible exact Ab.refl _ | with_reducible assumption | with_reducible refine Ab.drew ?_ | with_reducible refine Ab.drewN ?_ _ | with_reducible refine Ab.alloc ?_ _ | with_reducible refine Ab.trans ?_ (by assumption) | with_reducible refine Ab.set ?_ (by first | (simp; done) | omega | (simp; omega)) _))) (ht.ab (by repeat (first | with_reducible exact Ab.refl _ | with_reducible assumption | with_reducible refine Ab.drew ?_ | with_reducible refine Ab.drewN ?_ _ | with_reducible refine Ab.alloc ?_ _ | with_reducible refine Ab.trans ?_ (by assumption) | with_reducible refine Ab.set ?_ (by first | (simp; done) | omega | (simp; omega)) _))) hca hcb ls lt hfit).mono ?_
    rintro e w1 ⟨rfl, hb1⟩
    go_wp2_with fail
    refine (alive4_true _).mono ?_
    rintro e w2 ⟨rfl, hb2⟩
    go_wp2
    go_ret
    exact ⟨rfl, (by repeat (first | with_reducible exact Ab.refl _ | with_reducible assumption | with_reducible refine Ab.drew ?_ | with_reducible refine Ab.drewN ?_ _ | with_reducible refine Ab.alloc ?_ _ | with_reducible refine Ab.trans ?_ (by assumption) | with_reducible refine Ab.set ?_ (by first | (simp; done) | omega | (simp; omega)) _))⟩
  obtain ⟨hgr, hgood⟩ := not_or.1 hfit
  have hgr : great4B s.length t.length = false := by simpa using hgr
  obtain ⟨rs, hg⟩ : ∃ rs, Wal.Good ⟨⟨s, t, cap, dn⟩, f, n⟩ rs := by
    have := Classical.not_forall.1 hgood
    obtain ⟨rs, h⟩ := this
    exact ⟨rs, Classical.not_not.1 h⟩
  obtain rfl : dn = false := hg.isUp
  obtain ⟨l1, l2⟩ := great4B_false hgr
  have HGR := Lib.hid hgr
  have hrg := hg.rng
  simp only at hrg
  clear hfit hgood hgr
  by_cases hmax : 1000000000 < f
  · go_enter Try.func7, Try.ntmps7
    go_wp2_with fail
    refine (fit4_yes A B ca cb s t cap f n _ (hs.ab (by repeat (first | with_reducible exact Ab.refl _ | with_reducible assumption | with_reducible refine Ab.drew ?_ | with_reducible refine Ab.drewN ?_ _ | with_reducible refine Ab.alloc ?_ _ | with_reducible refine Ab.trans ?_ (by assumption) | with_reducible refine Ab.set ?_ (by first | (simp; done) | omega | (simp; omega)) _))) (ht.ab (by repeat (first | with_reducible exact Ab.refl _ | with_reducible assumption | with_reducible refine Ab.drew ?_ | with_reducible refine Ab.drewN ?_ _ | with_reducible refine Ab.alloc ?_ _ | with_reducible refine Ab.trans ?_ (by assumption) | with_reducible refine Ab.set ?_ (by first | (simp; done) | omega | (simp; omega)) _))) hca hcb HGR.out rs hg).mono ?_
    rintro e w1 ⟨rfl, hb1⟩
    obtain ⟨bq0, bq1, bq2, bq3, bq4, bq5⟩ := cells6 hb1 (b := w.heap.size) (v0 := .slice A s.length ca) (v1 := .slice B t.length cb) (v2 := .int .i64 cap) (v3 := .bool false) (v4 := .int .i64 f) (v5 := .int .i64 n) (by first | (simp [go_sem]; done) | (refine ⟨?_, ?_, ?_, ?_, ?_, ?_⟩ <;> assumption))
    go_wp2_with fail
    refine (alive4_true _).mono ?_
    rintro e w2 ⟨rfl, hb2⟩
    go_wp2
    go_ret
    exact ⟨rfl, (by repeat (first | with_reducible exact Ab.refl _ | with_reducible assumption | with_reducible refine Ab.drew ?_ | with_reducible refine Ab.drewN ?_ _ | with_reducible refine Ab.alloc ?_ _ | with_reducible refine Ab.trans ?_ (by assumption) | with_reducible refine Ab.set ?_ (by first | (simp; done) | omega | (simp; omega)) _))⟩
  obtain ⟨kk, hkk⟩ : ∃ kk, Wal.cut rs s.length = kk := ⟨_, rfl⟩
  have HI := Lib.hid (show Wal.Is ⟨⟨s, t, cap, false⟩, f, n⟩ (some rs) from hg)
  have HS := Lib.hid (show Wal.synced ⟨⟨s, t, cap, false⟩, f, n⟩ (some rs) = (f + kk, 0) by rw [← hkk]; rfl)
  have HKK := Lib.hid hkk
  have HW := Lib.hid (show Wal.records ⟨⟨s, t, cap, false⟩, f, n⟩ f (some rs) = (rs, 0) by
    refine (if_neg (show ¬ (f < f ∨ n < f) by omega)).trans ?_
    simp only [Int.sub_self, Int.toNat_zero, List.drop_zero])
  obtain ⟨o, ho1, ho2, ho3, ho4, ho5, ho6⟩ := Wal.open_good hg (by omega)
  have HO1 := Lib.hid ho1
  have HO2 := Lib.hid ho2
  have HO3 := Lib.hid ho3
  have HO4 := Lib.hid ho4
  have HO5 := Lib.hid ho5
  have HO6 := Lib.hid ho6
  have hf1 : ¬ 1000000000 < f := hmax
  clear hkk hg ho1 ho2 ho3 ho4 ho5 ho6
  have hkk20 : kk ≤ rs.length := by rw [← HKK.out]; exact Wal.cut_le _ _
  by_cases hk : k < 0 ∨ (t.length : Int) < k
  · have HC := Lib.hid (show Wal.crash ⟨⟨s, t, cap, false⟩, f, n⟩ k (some rs) = (Disk.zero, 2) by
      show Disk.crash _ _ = _
      unfold Disk.crash
      rw [if_neg (by simpa using HI.out.1), if_pos hk])
    rcases hk with hk | hk
    all_goals
      go_enter Try.func7, Try.ntmps7
      go_wp2_with fail
      refine (fit4_yes A B ca cb s t cap f n _ (hs.ab (by repeat (first | with_reducible exact Ab.refl _ | with_reducible assumption | with_reducible refine Ab.drew ?_ | with_reducible refine Ab.drewN ?_ _ | with_reducible refine Ab.alloc ?_ _ | with_reducible refine Ab.trans ?_ (by assumption) | with_reducible refine Ab.set ?_ (by first | (simp; done) | omega | (simp; omega)) _))) (ht.ab (by repeat (first | with_reducible exact Ab.refl _ | with_reducible assumption | with_reducible refine Ab.drew ?_ | with_reducible refine Ab.drewN ?_ _ | with_reducible refine Ab.alloc ?_ _ | with_reducible refine Ab.trans ?_ (by assumption) | with_reducible refine Ab.set ?_ (by first | (simp; done) | omega | (simp; omega)) _))) hca hcb HGR.out rs HI.out).mono ?_
      rintro e w1 ⟨rfl, hb1⟩
      obtain ⟨bq0, bq1, bq2, bq3, bq4, bq5⟩ := cells6 hb1 (b := w.heap.size) (v0 := .slice A s.length ca) (v1 := .slice B t.length cb) (v2 := .int .i64 cap) (v3 := .bool false) (v4 := .int .i64 f) (v5 := .int .i64 n) (by first | (simp [go_sem]; done) | (refine ⟨?_, ?_, ?_, ?_, ?_, ?_⟩ <;> assumption))
      go_wp2_with fail
      refine (wrecords_any A B ca cb s t cap false f n _ (hs.ab (by repeat (first | with_reducible exact Ab.refl _ | with_reducible assumption | with_reducible refine Ab.drew ?_ | with_reducible refine Ab.drewN ?_ _ | with_reducible refine Ab.alloc ?_ _ | with_reducible refine Ab.trans ?_ (by assumption) | with_reducible refine Ab.set ?_ (by first | (simp; done) | omega | (simp; omega)) _))) (ht.ab (by repeat (first | with_reducible exact Ab.refl _ | with_reducible assumption | with_reducible refine Ab.drew ?_ | with_reducible refine Ab.drewN ?_ _ | with_reducible refine Ab.alloc ?_ _ | with_reducible refine Ab.trans ?_ (by assumption) | with_reducible refine Ab.set ?_ (by first | (simp; done) | omega | (simp; omega)) _))) hca hcb (by omega) (by omega) (some rs) HI.out f).mono ?_
      rintro e w2 ⟨X2, x2, xs2, e2, h2', rfl, R2, hd2, hx2, hsm2, hb2⟩
      obtain ⟨hr2, rfl⟩ := Prod.mk.inj (h2'.out.trans HW.out)
      have HR2 := Lib.hid hr2
      clear h2' hr2
      have hTmp : Ab (w.alloc (.cells #[.slice A s.length ca, .slice B t.length cb, .int .i64 cap, .bool false, .int .i64 f, .int .i64 n] 26)) w2 := (by repeat (first | with_reducible exact Ab.refl _ | with_reducible assumption | with_reducible refine Ab.drew ?_ | with_reducible refine Ab.drewN ?_ _ | with_reducible refine Ab.alloc ?_ _ | with_reducible refine Ab.trans ?_ (by assumption) | with_reducible refine Ab.set ?_ (by first | (simp; done) | omega | (simp; omega)) _))
      obtain ⟨bq0, bq1, bq2, bq3, bq4, bq5⟩ := cells6 hTmp (b := w.heap.size) (v0 := .slice A s.length ca) (v1 := .slice B t.length cb) (v2 := .int .i64 cap) (v3 := .bool false) (v4 := .int .i64 f) (v5 := .int .i64 n) (by first | (simp [go_sem]; done) | (refine ⟨?_, ?_, ?_, ?_, ?_, ?_⟩ <;> assumption))
      clear hTmp
      go_wp2_with fail
      refine (wsynced_any A B ca cb s t cap false f n _ (hs.ab (by repeat (first | with_reducible exact Ab.refl _ | with_reducible assumption | with_reducible refine Ab.drew ?_ | with_reducible refine Ab.drewN ?_ _ | with_reducible refine Ab.alloc ?_ _ | with_reducible refine Ab.trans ?_ (by assumption) | with_reducible refine Ab.set ?_ (by first | (simp; done) | omega | (simp; omega)) _))) (ht.ab (by repeat (first | with_reducible exact Ab.refl _ | with_reducible assumption | with_reducible refine Ab.drew ?_ | with_reducible refine Ab.drewN ?_ _ | with_reducible refine Ab.alloc ?_ _ | with_reducible refine Ab.trans ?_ (by assumption) | with_reducible refine Ab.set ?_ (by first | (simp; done) | omega | (simp; omega)) _))) hca hcb (by omega) (by omega) (some rs) HI.out).mono ?_
      rintro e w3' ⟨a3, e3, h3', rfl, hb3⟩
      obtain ⟨rfl, rfl⟩ := Prod.mk.inj (h3'.out.trans HS.out)
      clear h3'
      have hTmp : Ab (w.alloc (.cells #[.slice A s.length ca, .slice B t.length cb, .int .i64 cap, .bool false, .int .i64 f, .int .i64 n] 26)) w3' := (by repeat (first | with_reducible exact Ab.refl _ | with_reducible assumption | with_reducible refine Ab.drew ?_ | with_reducible refine Ab.drewN ?_ _ | with_reducible refine Ab.alloc ?_ _ | with_reducible refine Ab.trans ?_ (by assumption) | with_reducible refine Ab.set ?_ (by first | (simp; done) | omega | (simp; omega)) _))
      obtain ⟨bq0, bq1, bq2, bq3, bq4, bq5⟩ := cells6 hTmp (b := w.heap.size) (v0 := .slice A s.length ca) (v1 := .slice B t.length cb) (v2 := .int .i64 cap) (v3 := .bool false) (v4 := .int .i64 f) (v5 := .int .i64 n) (by first | (simp [go_sem]; done) | (refine ⟨?_, ?_, ?_, ?_, ?_, ?_⟩ <;> assumption))
      clear hTmp
      go_wp2_with fail
      refine (wopen_any A B ca cb s t cap false _ (hs.ab (by repeat (first | with_reducible exact Ab.refl _ | with_reducible assumption | with_reducible refine Ab.drew ?_ | with_reducible refine Ab.drewN ?_ _ | with_reducible refine Ab.alloc ?_ _ | with_reducible refine Ab.trans ?_ (by assumption) | with_reducible refine Ab.set ?_ (by first | (simp; done) | omega | (simp; omega)) _))) (ht.ab (by repeat (first | with_reducible exact Ab.refl _ | with_reducible assumption | with_reducible refine Ab.drew ?_ | with_reducible refine Ab.drewN ?_ _ | with_reducible refine Ab.alloc ?_ _ | with_reducible refine Ab.trans ?_ (by assumption) | with_reducible refine Ab.set ?_ (by first | (simp; done) | omega | (simp; omega)) _))) hca hcb (by omega) (by omega) f rs (s ++ t).length HI.out.scan).mono ?_
      rintro e w3 ⟨r3, e3, D3, E3, c3, d3, h3', rfl, p3, q3, hb4⟩
      have H3 := Lib.hid (Prod.mk.inj (h3'.out.trans HO1.out)).1
      obtain rfl : e3 = 0 := (Prod.mk.inj (h3'.out.trans HO1.out)).2
      clear h3'
      have hf3 : (r3.first != f) = false := by rw [H3.out, HO3.out]; simp
      have hn3 : (r3.next != n) = false := by rw [H3.out, HO4.out]; simp
      have hlen3 : r3.dev.t.length = 0 := by rw [H3.out, HO5.out]; rfl
      have hs3 : r3.dev.s = s ++ t := by rw [H3.out]; exact HO6.out
      have hs3l : r3.dev.s.length ≤ 4000 := by rw [hs3, List.length_append]; omega
      have HS3 := Lib.hid hs3
      have hcmp3 : decide ((0 : Int) < (r3.dev.t.length : Int)) = false := by rw [hlen3]; rfl
      have hcmp4 : decide (0 < r3.dev.t.length) = false := by rw [hlen3]; rfl
      clear hs3 hlen3
      have hTmp : Ab (w.alloc (.cells #[.slice A s.length ca, .slice B t.length cb, .int .i64 cap, .bool false, .int .i64 f, .int .i64 n] 26)) w3 := (by repeat (first | with_reducible exact Ab.refl _ | with_reducible assumption | with_reducible refine Ab.drew ?_ | with_reducible refine Ab.drewN ?_ _ | with_reducible refine Ab.alloc ?_ _ | with_reducible refine Ab.trans ?_ (by assumption) | with_reducible refine Ab.set ?_ (by first | (simp; done) | omega | (simp; omega)) _))
      obtain ⟨bq0, bq1, bq2, bq3, bq4, bq5⟩ := cells6 hTmp (b := w.heap.size) (v0 := .slice A s.length ca) (v1 := .slice B t.length cb) (v2 := .int .i64 cap) (v3 := .bool false) (v4 := .int .i64 f) (v5 := .int .i64 n) (by first | (simp [go_sem]; done) | (refine ⟨?_, ?_, ?_, ?_, ?_, ?_⟩ <;> assumption))
      clear hTmp
      have zA : w.heap.size < w3.heap.size := cell_lt bq0
      have hX2 : Ab w2 (w3.alloc (.cells #[.slice D3 r3.dev.s.length c3, .slice E3 r3.dev.t.length d3, .int .i64 r3.dev.cap, .bool r3.dev.down, .int .i64 r3.first, .int .i64 r3.next] 26)) := (by repeat (first | with_reducible exact Ab.refl _ | with_reducible assumption | with_reducible refine Ab.drew ?_ | with_reducible refine Ab.drewN ?_ _ | with_reducible refine Ab.alloc ?_ _ | with_reducible refine Ab.trans ?_ (by assumption) | with_reducible refine Ab.set ?_ (by first | (simp; done) | omega | (simp; omega)) _))
      have B3 : Ab w3 (w3.alloc (.cells #[.slice D3 r3.dev.s.length c3, .slice E3 r3.dev.t.length d3, .int .i64 r3.dev.cap, .bool r3.dev.down, .int .i64 r3.first, .int .i64 r3.next] 26)) := (Ab.refl _).alloc _
      have hw3 : Ab w (w3.alloc (.cells #[.slice D3 r3.dev.s.length c3, .slice E3 r3.dev.t.length d3, .int .i64 r3.dev.cap, .bool r3.dev.down, .int .i64 r3.first, .int .i64 r3.next] 26)) := (by repeat (first | with_reducible exact Ab.refl _ | with_reducible assumption | with_reducible refine Ab.drew ?_ | with_reducible refine Ab.drewN ?_ _ | with_reducible refine Ab.alloc ?_ _ | with_reducible refine Ab.trans ?_ (by assumption) | with_reducible refine Ab.set ?_ (by first | (simp; done) | omega | (simp; omega)) _))
      have hTmp : Ab (w.alloc (.cells #[.slice A s.length ca, .slice B t.length cb, .int .i64 cap, .bool false, .int .i64 f, .int .i64 n] 26)) (w3.alloc (.cells #[.slice D3 r3.dev.s.length c3, .slice E3 r3.dev.t.length d3, .int .i64 r3.dev.cap, .bool r3.dev.down, .int .i64 r3.first, .int .i64 r3.next] 26)) := (by repeat (first | with_reducible exact Ab.refl _ | with_reducible assumption | with_reducible refine Ab.drew ?_ | with_reducible refine Ab.drewN ?_ _ | with_reducible refine Ab.alloc ?_ _ | with_reducible refine Ab.trans ?_ (by assumption) | with_reducible refine Ab.set ?_ (by first | (simp; done) | omega | (simp; omega)) _))
      obtain ⟨bq0, bq1, bq2, bq3, bq4, bq5⟩ := cells6 hTmp (b := w.heap.size) (v0 := .slice A s.length ca) (v1 := .slice B t.length cb) (v2 := .int .i64 cap) (v3 := .bool false) (v4 := .int .i64 f) (v5 := .int .i64 n) (by first | (simp [go_sem]; done) | (refine ⟨?_, ?_, ?_, ?_, ?_, ?_⟩ <;> assumption))
      clear hTmp
      have iq0 : (w3.alloc (.cells #[.slice D3 r3.dev.s.length c3, .slice E3 r3.dev.t.length d3, .int .i64 r3.dev.cap, .bool r3.dev.down, .int .i64 r3.first, .int .i64 r3.next] 26)).cell? ⟨w3.heap.size, 0, none⟩ = some (.slice D3 r3.dev.s.length c3) := by simp [go_sem]
      have iq1 : (w3.alloc (.cells #[.slice D3 r3.dev.s.length c3, .slice E3 r3.dev.t.length d3, .int .i64 r3.dev.cap, .bool r3.dev.down, .int .i64 r3.first, .int .i64 r3.next] 26)).cell? ⟨w3.heap.size, 1, none⟩ = some (.slice E3 r3.dev.t.length d3) := by simp [go_sem]
      have iq4 : (w3.alloc (.cells #[.slice D3 r3.dev.s.length c3, .slice E3 r3.dev.t.length d3, .int .i64 r3.dev.cap, .bool r3.dev.down, .int .i64 r3.first, .int .i64 r3.next] 26)).cell? ⟨w3.heap.size, 4, none⟩ = some (.int .i64 r3.first) := by simp [go_sem]
      have iq5 : (w3.alloc (.cells #[.slice D3 r3.dev.s.length c3, .slice E3 r3.dev.t.length d3, .int .i64 r3.dev.cap, .bool r3.dev.down, .int .i64 r3.first, .int .i64 r3.next] 26)).cell? ⟨w3.heap.size, 5, none⟩ = some (.int .i64 r3.next) := by simp [go_sem]
      have p3' : RB (w3.alloc (.cells #[.slice D3 r3.dev.s.length c3, .slice E3 r3.dev.t.length d3, .int .i64 r3.dev.cap, .bool r3.dev.down, .int .i64 r3.first, .int .i64 r3.next] 26)) 0 D3 r3.dev.s := p3.rb.zero.ab B3
      clear hb1 hb2 hb3 hb4
      go_upto_region 6 with fail
      generalize (w3.alloc (.cells #[.slice D3 r3.dev.s.length c3, .slice E3 r3.dev.t.length d3, .int .i64 r3.dev.cap, .bool r3.dev.down, .int .i64 r3.first, .int .i64 r3.next] 26)) = w4 at *
      clear B3
      refine wp_region_held_drew (by kernel_rfl) (S := fun w' => w'.cell? ⟨w3.heap.size, 0, none⟩ = some (.slice D3 r3.dev.s.length c3) ∧ w'.cell? ⟨w3.heap.size, 1, none⟩ = some (.slice E3 r3.dev.t.length d3) ∧ w'.cell? ⟨w3.heap.size, 4, none⟩ = some (.int .i64 r3.first) ∧ w'.cell? ⟨w3.heap.size, 5, none⟩ = some (.int .i64 r3.next) ∧ w'.cell? ⟨w.heap.size, 0, none⟩ = some (.slice A s.length ca) ∧ w'.cell? ⟨w.heap.size, 1, none⟩ = some (.slice B t.length cb) ∧ w'.cell? ⟨w.heap.size, 2, none⟩ = some (.int .i64 cap) ∧ w'.cell? ⟨w.heap.size, 3, none⟩ = some (.bool false) ∧ w'.cell? ⟨w.heap.size, 4, none⟩ = some (.int .i64 f) ∧ w'.cell? ⟨w.heap.size, 5, none⟩ = some (.int .i64 n)) ?_ (fun hHeld => ?_)
      · (refine ⟨?_, ?_, ?_, ?_, ?_, ?_, ?_, ?_, ?_, ?_⟩ <;> (repeat (first | with_reducible assumption | (simp [go_sem]; done) | with_reducible apply cell_alloc | with_reducible apply cell_drew | with_reducible apply cell_drewN | (with_reducible apply Ab.at; with_reducible assumption) | (with_reducible refine cell_set ?_ ?_; rotate_left; focus (first | (simp; done) | (simp; omega))) | (with_reducible refine cell_setb ?_ ?_; rotate_left; focus (first | omega | (simp only; omega) | (simp; omega))))))
      (refine wpAnyH_take (i := 0) (v := ?_) rfl (by kernel_rfl) (by kernel_rfl) (by kernel_rfl) (fun _ _ _ h => h) (Or.inl ⟨by kernel_rfl, ?_⟩) (by assumption) ?_
       rotate_left
       · (intro w hSw; (try dsimp only at hSw); go_simp; (try with_reducible rfl))
       (try simp only [Act.put, List.setIfInBounds_toArray, List.set_cons_zero, List.set_cons_succ]))
      (refine wpAnyH_take (i := 1) (v := ?_) rfl (by kernel_rfl) (by kernel_rfl) (by kernel_rfl) (fun _ _ _ h => h) (Or.inl ⟨by kernel_rfl, ?_⟩) (by assumption) ?_
       rotate_left
       · (intro w hSw; (try dsimp only at hSw); go_simp; (try with_reducible rfl))
       (try simp only [Act.put, List.setIfInBounds_toArray, List.set_cons_zero, List.set_cons_succ]))
      (refine wpAnyH_take (i := 2) (v := ?_) rfl (by kernel_rfl) (by kernel_rfl) (by kernel_rfl) (fun _ _ _ h => h) (Or.inl ⟨by kernel_rfl, ?_⟩) (by assumption) ?_
       rotate_left
       · (intro w hSw; (try dsimp only at hSw); go_simp; (try with_reducible rfl))
       (try simp only [Act.put, List.setIfInBounds_toArray, List.set_cons_zero, List.set_cons_succ]))
      (refine wpAnyH_take (i := 3) (v := ?_) rfl (by kernel_rfl) (by kernel_rfl) (by kernel_rfl) (fun _ _ _ h => h) (Or.inl ⟨by kernel_rfl, ?_⟩) (by assumption) ?_
       rotate_left
       · (intro w hSw; (try dsimp only at hSw); go_simp; (try with_reducible rfl))
       (try simp only [Act.put, List.setIfInBounds_toArray, List.set_cons_zero, List.set_cons_succ]))
      (refine wpAnyH_take (i := 4) (v := ?_) rfl (by kernel_rfl) (by kernel_rfl) (by kernel_rfl) (fun _ _ _ h => h) (Or.inl ⟨by kernel_rfl, ?_⟩) (by assumption) ?_
       rotate_left
       · (intro w hSw; (try dsimp only at hSw); go_simp; (try with_reducible rfl))
       (try simp only [Act.put, List.setIfInBounds_toArray, List.set_cons_zero, List.set_cons_succ]))
      (refine wpAnyH_ready (rs := [5]) (by kernel_rfl) (by simp) ?_)
      refine AllReadyH.cons rfl (fun K hK => ?_) AllReadyH.nil
      (go_simp
       (refine hK.out _ _ ?_ (fun hHeld => ?_)
        · (try dsimp only); (refine ⟨?_, ?_, ?_, ?_, ?_, ?_, ?_, ?_, ?_, ?_⟩ <;> (repeat (first | with_reducible assumption | (simp [go_sem]; done) | with_reducible apply cell_alloc | with_reducible apply cell_drew | with_reducible apply cell_drewN | (with_reducible apply Ab.at; with_reducible assumption) | (with_reducible refine cell_set ?_ ?_; rotate_left; focus (first | (simp; done) | (simp; omega))) | (with_reducible refine cell_setb ?_ ?_; rotate_left; focus (first | omega | (simp only; omega) | (simp; omega))))))
        clear hK K
        (try simp only [Act.put, List.setIfInBounds_toArray, List.set_cons_zero, List.set_cons_succ])))
      (refine wpAnyH_take (i := 6) (v := ?_) rfl (by kernel_rfl) (by kernel_rfl) (by kernel_rfl) (fun _ _ _ h => h) (Or.inl ⟨by kernel_rfl, ?_⟩) (by assumption) ?_
       rotate_left
       · (intro w hSw; (try dsimp only at hSw); go_simp; (try with_reducible rfl))
       (try simp only [Act.put, List.setIfInBounds_toArray, List.set_cons_zero, List.set_cons_succ]))
      (refine wpAnyH_take (i := 7) (v := ?_) rfl (by kernel_rfl) (by kernel_rfl) (by kernel_rfl) (fun _ _ _ h => h) (Or.inl ⟨by kernel_rfl, ?_⟩) (by assumption) ?_
       rotate_left
       · (intro w hSw; (try dsimp only at hSw); go_simp; (try with_reducible rfl))
       (try simp only [Act.put, List.setIfInBounds_toArray, List.set_cons_zero, List.set_cons_succ]))
      (refine wpAnyH_take (i := 8) (v := ?_) rfl (by kernel_rfl) (by kernel_rfl) (by kernel_rfl) (fun _ _ _ h => h) (Or.inl ⟨by kernel_rfl, ?_⟩) (by assumption) ?_
       rotate_left
       · (intro w hSw; (try dsimp only at hSw); go_simp; (try with_reducible rfl))
       (try simp only [Act.put, List.setIfInBounds_toArray, List.set_cons_zero, List.set_cons_succ]))
      (refine wpAnyH_ready (rs := [9]) (by kernel_rfl) (by simp) ?_)
      refine AllReadyH.cons rfl (fun K hK => ?_) AllReadyH.nil
      (go_simp
       (refine hK.out _ _ ?_ (fun hHeld => ?_)
        · (try dsimp only); (refine ⟨?_, ?_, ?_, ?_, ?_, ?_, ?_, ?_, ?_, ?_⟩ <;> (repeat (first | with_reducible assumption | (simp [go_sem]; done) | with_reducible apply cell_alloc | with_reducible apply cell_drew | with_reducible apply cell_drewN | (with_reducible apply Ab.at; with_reducible assumption) | (with_reducible refine cell_set ?_ ?_; rotate_left; focus (first | (simp; done) | (simp; omega))) | (with_reducible refine cell_setb ?_ ?_; rotate_left; focus (first | omega | (simp only; omega) | (simp; omega))))))
        clear hK K
        (try simp only [Act.put, List.setIfInBounds_toArray, List.set_cons_zero, List.set_cons_succ])))
      (refine wpAnyH_take (i := 10) (v := ?_) rfl (by kernel_rfl) (by kernel_rfl) (by kernel_rfl) (fun _ _ _ h => h) (Or.inl ⟨by kernel_rfl, ?_⟩) (by assumption) ?_
       rotate_left
       · (intro w hSw; (try dsimp only at hSw); go_simp; (try with_reducible rfl))
       (try simp only [Act.put, List.setIfInBounds_toArray, List.set_cons_zero, List.set_cons_succ]))
      (refine wpAnyH_take (i := 11) (v := ?_) rfl (by kernel_rfl) (by kernel_rfl) (by kernel_rfl) (fun _ _ _ h => h) (Or.inl ⟨by kernel_rfl, ?_⟩) (by assumption) ?_
       rotate_left
       · (intro w hSw; (try dsimp only at hSw); go_simp; (try with_reducible rfl))
       (try simp only [Act.put, List.setIfInBounds_toArray, List.set_cons_zero, List.set_cons_succ]))
      (refine wpAnyH_take (i := 12) (v := ?_) rfl (by kernel_rfl) (by kernel_rfl) (by kernel_rfl) (fun _ _ _ h => h) (Or.inl ⟨by kernel_rfl, ?_⟩) (by assumption) ?_
       rotate_left
       · (intro w hSw; (try dsimp only at hSw); go_simp; (try with_reducible rfl))
       (try simp only [Act.put, List.setIfInBounds_toArray, List.set_cons_zero, List.set_cons_succ]))
      (refine wpAnyH_take (i := 13) (v := ?_) rfl (by kernel_rfl) (by kernel_rfl) (by kernel_rfl) (fun _ _ _ h => h) (Or.inl ⟨by kernel_rfl, ?_⟩) (by assumption) ?_
       rotate_left
       · (intro w hSw; (try dsimp only at hSw); go_simp; (try with_reducible rfl))
       (try simp only [Act.put, List.setIfInBounds_toArray, List.set_cons_zero, List.set_cons_succ]))
      (refine wpAnyH_take (i := 14) (v := ?_) rfl (by kernel_rfl) (by kernel_rfl) (by kernel_rfl) (fun _ _ _ h => h) (Or.inl ⟨by kernel_rfl, ?_⟩) (by assumption) ?_
       rotate_left
       · (intro w hSw; (try dsimp only at hSw); go_simp; (try with_reducible rfl))
       (try simp only [Act.put, List.setIfInBounds_toArray, List.set_cons_zero, List.set_cons_succ]))
      (refine wpAnyH_take (i := 15) (v := ?_) rfl (by kernel_rfl) (by kernel_rfl) (by kernel_rfl) (fun _ _ _ h => h) (Or.inl ⟨by kernel_rfl, ?_⟩) (by assumption) ?_
       rotate_left
       · (intro w hSw; (try dsimp only at hSw); go_simp; (try with_reducible rfl))
       (try simp only [Act.put, List.setIfInBounds_toArray, List.set_cons_zero, List.set_cons_succ]))
      (refine wpAnyH_ready (rs := [16]) (by kernel_rfl) (by simp) ?_)
      refine AllReadyH.cons rfl (fun K hK => ?_) AllReadyH.nil
      (go_simp
       (refine hK.out _ _ ?_ (fun hHeld => ?_)
        · (try dsimp only); (refine ⟨?_, ?_, ?_, ?_, ?_, ?_, ?_, ?_, ?_, ?_⟩ <;> (repeat (first | with_reducible assumption | (simp [go_sem]; done) | with_reducible apply cell_alloc | with_reducible apply cell_drew | with_reducible apply cell_drewN | (with_reducible apply Ab.at; with_reducible assumption) | (with_reducible refine cell_set ?_ ?_; rotate_left; focus (first | (simp; done) | (simp; omega))) | (with_reducible refine cell_setb ?_ ?_; rotate_left; focus (first | omega | (simp only; omega) | (simp; omega))))))
        clear hK K
        (try simp only [Act.put, List.setIfInBounds_toArray, List.set_cons_zero, List.set_cons_succ])))
      (refine wpAnyH_take (i := 17) (v := ?_) rfl (by kernel_rfl) (by kernel_rfl) (by kernel_rfl) (fun _ _ _ h => h) (Or.inl ⟨by kernel_rfl, ?_⟩) (by assumption) ?_
       rotate_left
       · (intro w hSw; (try dsimp only at hSw); go_simp; (try with_reducible rfl))
       (try simp only [Act.put, List.setIfInBounds_toArray, List.set_cons_zero, List.set_cons_succ]))
      (refine wpAnyH_take (i := 18) (v := ?_) rfl (by kernel_rfl) (by kernel_rfl) (by kernel_rfl) (fun _ _ _ h => h) (Or.inl ⟨by kernel_rfl, ?_⟩) (by assumption) ?_
       rotate_left
       · (intro w hSw; (try dsimp only at hSw); go_simp; (try with_reducible rfl))
       (try simp only [Act.put, List.setIfInBounds_toArray, List.set_cons_zero, List.set_cons_succ]))
      (refine wpAnyH_take (i := 19) (v := ?_) rfl (by kernel_rfl) (by kernel_rfl) (by kernel_rfl) (fun _ _ _ h => h) (Or.inl ⟨by kernel_rfl, ?_⟩) (by assumption) ?_
       rotate_left
       · (intro w hSw; (try dsimp only at hSw); go_simp; (try with_reducible rfl))
       (try simp only [Act.put, List.setIfInBounds_toArray, List.set_cons_zero, List.set_cons_succ]))
      (refine wpAnyH_take (i := 20) (v := ?_) rfl (by kernel_rfl) (by kernel_rfl) (by kernel_rfl) (fun _ _ _ h => h) (Or.inl ⟨by kernel_rfl, ?_⟩) (by assumption) ?_
       rotate_left
       · (intro w hSw; (try dsimp only at hSw); go_simp; (try with_reducible rfl))
       (try simp only [Act.put, List.setIfInBounds_toArray, List.set_cons_zero, List.set_cons_succ]))
      (refine wpAnyH_take (i := 21) (v := ?_) rfl (by kernel_rfl) (by kernel_rfl) (by kernel_rfl) (fun _ _ _ h => h) (Or.inl ⟨by kernel_rfl, ?_⟩) (by assumption) ?_
       rotate_left
       · (intro w hSw; (try dsimp only at hSw); go_simp; (try with_reducible rfl))
       (try simp only [Act.put, List.setIfInBounds_toArray, List.set_cons_zero, List.set_cons_succ]))
      (refine wpAnyH_take (i := 22) (v := ?_) rfl (by kernel_rfl) (by kernel_rfl) (by kernel_rfl) (fun _ _ _ h => h) (Or.inl ⟨by kernel_rfl, ?_⟩) (by assumption) ?_
       rotate_left
       · (intro w hSw; (try dsimp only at hSw); go_simp; (try with_reducible rfl))
       (try simp only [Act.put, List.setIfInBounds_toArray, List.set_cons_zero, List.set_cons_succ]))
      (refine wpAnyH_ready (rs := [23]) (by kernel_rfl) (by simp) ?_)
      refine AllReadyH.cons rfl (fun K hK => ?_) AllReadyH.nil
      (go_simp
       (refine hK.out _ _ ?_ (fun hHeld => ?_)
        · (try dsimp only); (refine ⟨?_, ?_, ?_, ?_, ?_, ?_, ?_, ?_, ?_, ?_⟩ <;> (repeat (first | with_reducible assumption | (simp [go_sem]; done) | with_reducible apply cell_alloc | with_reducible apply cell_drew | with_reducible apply cell_drewN | (with_reducible apply Ab.at; with_reducible assumption) | (with_reducible refine cell_set ?_ ?_; rotate_left; focus (first | (simp; done) | (simp; omega))) | (with_reducible refine cell_setb ?_ ?_; rotate_left; focus (first | omega | (simp only; omega) | (simp; omega))))))
        clear hK K
        (try simp only [Act.put, List.setIfInBounds_toArray, List.set_cons_zero, List.set_cons_succ])))
      (refine wpAnyH_take (i := 24) (v := ?_) rfl (by kernel_rfl) (by kernel_rfl) (by kernel_rfl) (fun _ _ _ h => h) (Or.inl ⟨by kernel_rfl, ?_⟩) (by assumption) ?_
       rotate_left
       · (intro w hSw; (try dsimp only at hSw); go_simp; (try with_reducible rfl))
       (try simp only [Act.put, List.setIfInBounds_toArray, List.set_cons_zero, List.set_cons_succ]))
      (refine wpAnyH_take (i := 25) (v := ?_) rfl (by kernel_rfl) (by kernel_rfl) (by kernel_rfl) (fun _ _ _ h => h) (Or.inl ⟨by kernel_rfl, ?_⟩) (by assumption) ?_
       rotate_left
       · (intro w hSw; (try dsimp only at hSw); go_simp; (try with_reducible rfl))
       (try simp only [Act.put, List.setIfInBounds_toArray, List.set_cons_zero, List.set_cons_succ]))
      (refine wpAnyH_take (i := 26) (v := ?_) rfl (by kernel_rfl) (by kernel_rfl) (by kernel_rfl) (fun _ _ _ h => h) (Or.inl ⟨by kernel_rfl, ?_⟩) (by assumption) ?_
       rotate_left
       · (intro w hSw; (try dsimp only at hSw); go_simp; (try with_reducible rfl))
       (try simp only [Act.put, List.setIfInBounds_toArray, List.set_cons_zero, List.set_cons_succ]))
      (refine wpAnyH_take (i := 27) (v := ?_) rfl (by kernel_rfl) (by kernel_rfl) (by kernel_rfl) (fun _ _ _ h => h) (Or.inl ⟨by kernel_rfl, ?_⟩) (by assumption) ?_
       rotate_left
       · (intro w hSw; (try dsimp only at hSw); go_simp; (try with_reducible rfl))
       (try simp only [Act.put, List.setIfInBounds_toArray, List.set_cons_zero, List.set_cons_succ]))
      (refine wpAnyH_take (i := 28) (v := ?_) rfl (by kernel_rfl) (by kernel_rfl) (by kernel_rfl) (fun _ _ _ h => h) (Or.inl ⟨by kernel_rfl, ?_⟩) (by assumption) ?_
       rotate_left
       · (intro w hSw; (try dsimp only at hSw); go_simp; (try with_reducible rfl))
       (try simp only [Act.put, List.setIfInBounds_toArray, List.set_cons_zero, List.set_cons_succ]))
      (refine wpAnyH_take (i := 29) (v := ?_) rfl (by kernel_rfl) (by kernel_rfl) (by kernel_rfl) (fun _ _ _ h => h) (Or.inl ⟨by kernel_rfl, ?_⟩) (by assumption) ?_
       rotate_left
       · (intro w hSw; (try dsimp only at hSw); go_simp; (try with_reducible rfl))
       (try simp only [Act.put, List.setIfInBounds_toArray, List.set_cons_zero, List.set_cons_succ]))
      (refine wpAnyH_ready (rs := [30]) (by kernel_rfl) (by simp) ?_)
      refine AllReadyH.cons rfl (fun K hK => ?_) AllReadyH.nil
      (go_simp
       (refine hK.out _ _ ?_ (fun hHeld => ?_)
        · (try dsimp only); (refine ⟨?_, ?_, ?_, ?_, ?_, ?_, ?_, ?_, ?_, ?_⟩ <;> (repeat (first | with_reducible assumption | (simp [go_sem]; done) | with_reducible apply cell_alloc | with_reducible apply cell_drew | with_reducible apply cell_drewN | (with_reducible apply Ab.at; with_reducible assumption) | (with_reducible refine cell_set ?_ ?_; rotate_left; focus (first | (simp; done) | (simp; omega))) | (with_reducible refine cell_setb ?_ ?_; rotate_left; focus (first | omega | (simp only; omega) | (simp; omega))))))
        clear hK K
        (try simp only [Act.put, List.setIfInBounds_toArray, List.set_cons_zero, List.set_cons_succ])))
      (refine wpAnyH_take (i := 31) (v := ?_) rfl (by kernel_rfl) (by kernel_rfl) (by kernel_rfl) (fun _ _ _ h => h) (Or.inl ⟨by kernel_rfl, ?_⟩) (by assumption) ?_
       rotate_left
       · (intro w hSw; (try dsimp only at hSw); go_simp; (try with_reducible rfl))
       (try simp only [Act.put, List.setIfInBounds_toArray, List.set_cons_zero, List.set_cons_succ]))
      (refine wpAnyH_take (i := 32) (v := ?_) rfl (by kernel_rfl) (by kernel_rfl) (by kernel_rfl) (fun _ _ _ h => h) (Or.inl ⟨by kernel_rfl, ?_⟩) (by assumption) ?_
       rotate_left
       · (intro w hSw; (try dsimp only at hSw); go_simp; (try with_reducible rfl))
       (try simp only [Act.put, List.setIfInBounds_toArray, List.set_cons_zero, List.set_cons_succ]))
      (refine wpAnyH_take (i := 33) (v := ?_) rfl (by kernel_rfl) (by kernel_rfl) (by kernel_rfl) (fun _ _ _ h => h) (Or.inl ⟨by kernel_rfl, ?_⟩) (by assumption) ?_
       rotate_left
       · (intro w hSw; (try dsimp only at hSw); go_simp; (try with_reducible rfl))
       (try simp only [Act.put, List.setIfInBounds_toArray, List.set_cons_zero, List.set_cons_succ]))
      (refine wpAnyH_take (i := 34) (v := ?_) rfl (by kernel_rfl) (by kernel_rfl) (by kernel_rfl) (fun _ _ _ h => h) (Or.inl ⟨by kernel_rfl, ?_⟩) (by assumption) ?_
       rotate_left
       · (intro w hSw; (try dsimp only at hSw); go_simp; (try with_reducible rfl))
       (try simp only [Act.put, List.setIfInBounds_toArray, List.set_cons_zero, List.set_cons_succ]))
      (refine wpAnyH_take (i := 35) (v := ?_) rfl (by kernel_rfl) (by kernel_rfl) (by kernel_rfl) (fun _ _ _ h => h) (Or.inl ⟨by kernel_rfl, ?_⟩) (by assumption) ?_
       rotate_left
       · (intro w hSw; (try dsimp only at hSw); go_simp; (try with_reducible rfl))
       (try simp only [Act.put, List.setIfInBounds_toArray, List.set_cons_zero, List.set_cons_succ]))
      (refine wpAnyH_take (i := 36) (v := ?_) rfl (by kernel_rfl) (by kernel_rfl) (by kernel_rfl) (fun _ _ _ h => h) (Or.inl ⟨by kernel_rfl, ?_⟩) (by assumption) ?_
       rotate_left
       · (intro w hSw; (try dsimp only at hSw); go_simp; (try with_reducible rfl))
       (try simp only [Act.put, List.setIfInBounds_toArray, List.set_cons_zero, List.set_cons_succ]))
      (refine wpAnyH_ready (rs := [37]) (by kernel_rfl) (by simp) ?_)
      refine AllReadyH.cons rfl (fun K hK => ?_) AllReadyH.nil
      (go_simp
       ((go_at_call 37)
        refine (whole_any A B ca cb s t cap false _ (hs.ab (by repeat (first | with_reducible exact Ab.refl _ | with_reducible assumption | with_reducible refine Ab.drew ?_ | with_reducible refine Ab.drewN ?_ _ | with_reducible refine Ab.alloc ?_ _ | with_reducible refine Ab.trans ?_ (by assumption) | with_reducible refine Ab.set ?_ (by first | (simp; done) | omega | (simp; omega)) _))) (ht.ab (by repeat (first | with_reducible exact Ab.refl _ | with_reducible assumption | with_reducible refine Ab.drew ?_ | with_reducible refine Ab.drewN ?_ _ | with_reducible refine Ab.alloc ?_ _ | with_reducible refine Ab.trans ?_ (by assumption) | with_reducible refine Ab.set ?_ (by first | (simp; done) | omega | (simp; omega)) _))) hca hcb (by omega) (by omega)).mono ?_
        rintro e w5 ⟨L5, D5, c5, hL5, rfl, o5, hb5⟩
        have ll5 : L5.length ≤ 4000 := by rw [hL5.out, List.length_append]; omega)
       (try go_wp2_with fail)
       (refine hK.out _ _ ?_ (fun hHeld => ?_)
        · (try dsimp only); (refine ⟨?_, ?_, ?_, ?_, ?_, ?_, ?_, ?_, ?_, ?_⟩ <;> (repeat (first | with_reducible assumption | (simp [go_sem]; done) | with_reducible apply cell_alloc | with_reducible apply cell_drew | with_reducible apply cell_drewN | (with_reducible apply Ab.at; with_reducible assumption) | (with_reducible refine cell_set ?_ ?_; rotate_left; focus (first | (simp; done) | (simp; omega))) | (with_reducible refine cell_setb ?_ ?_; rotate_left; focus (first | omega | (simp only; omega) | (simp; omega))))))
        clear hK K
        (try simp only [Act.put, List.setIfInBounds_toArray, List.set_cons_zero, List.set_cons_succ])))
      (refine wpAnyH_ready (rs := [38]) (by kernel_rfl) (by simp) ?_)
      refine AllReadyH.cons rfl (fun K hK => ?_) AllReadyH.nil
      (go_simp
       ((go_at_call 36)
        refine (same_bytes D3 D5 c3 c5 r3.dev.s L5 _ (p3'.ab (by repeat (first | with_reducible exact Ab.refl _ | with_reducible assumption | with_reducible refine Ab.drew ?_ | with_reducible refine Ab.drewN ?_ _ | with_reducible refine Ab.alloc ?_ _ | with_reducible refine Ab.trans ?_ (by assumption) | with_reducible refine Ab.set ?_ (by first | (simp; done) | omega | (simp; omega)) _))) (o5.rb.zero.ab (by repeat (first | with_reducible exact Ab.refl _ | with_reducible assumption | with_reducible refine Ab.drew ?_ | with_reducible refine Ab.drewN ?_ _ | with_reducible refine Ab.alloc ?_ _ | with_reducible refine Ab.trans ?_ (by assumption) | with_reducible refine Ab.set ?_ (by first | (simp; done) | omega | (simp; omega)) _))) (by omega) (by omega) (HS3.out.trans hL5.out.symm)).mono ?_
        rintro e w6 ⟨rfl, hb6⟩)
       (try go_wp2_with fail)
       (refine hK.out _ _ ?_ (fun hHeld => ?_)
        · (try dsimp only); (refine ⟨?_, ?_, ?_, ?_, ?_, ?_, ?_, ?_, ?_, ?_⟩ <;> (repeat (first | with_reducible assumption | (simp [go_sem]; done) | with_reducible apply cell_alloc | with_reducible apply cell_drew | with_reducible apply cell_drewN | (with_reducible apply Ab.at; with_reducible assumption) | (with_reducible refine cell_set ?_ ?_; rotate_left; focus (first | (simp; done) | (simp; omega))) | (with_reducible refine cell_setb ?_ ?_; rotate_left; focus (first | omega | (simp only; omega) | (simp; omega))))))
        clear hK K
        (try simp only [Act.put, List.setIfInBounds_toArray, List.set_cons_zero, List.set_cons_succ])))
      (refine wpAnyH_take (i := 39) (v := ?_) rfl (by kernel_rfl) (by kernel_rfl) (by kernel_rfl) (fun _ _ _ h => h) (Or.inl ⟨by kernel_rfl, ?_⟩) (by assumption) ?_
       rotate_left
       · (intro w hSw; (try dsimp only at hSw); go_simp; (try with_reducible rfl))
       (try simp only [Act.put, List.setIfInBounds_toArray, List.set_cons_zero, List.set_cons_succ]))
      (refine wpAnyH_ready (rs := [40]) (by kernel_rfl) (by simp) ?_)
      refine AllReadyH.cons rfl (fun K hK => ?_) AllReadyH.nil
      (go_simp
       (refine hK.out _ _ ?_ (fun hHeld => ?_)
        · (try dsimp only); (refine ⟨?_, ?_, ?_, ?_, ?_, ?_, ?_, ?_, ?_, ?_⟩ <;> (repeat (first | with_reducible assumption | (simp [go_sem]; done) | with_reducible apply cell_alloc | with_reducible apply cell_drew | with_reducible apply cell_drewN | (with_reducible apply Ab.at; with_reducible assumption) | (with_reducible refine cell_set ?_ ?_; rotate_left; focus (first | (simp; done) | (simp; omega))) | (with_reducible refine cell_setb ?_ ?_; rotate_left; focus (first | omega | (simp only; omega) | (simp; omega))))))
        clear hK K
        (try simp only [Act.put, List.setIfInBounds_toArray, List.set_cons_zero, List.set_cons_succ])))
      refine wpAnyH_done (by kernel_rfl) ?_ _
      have hX6h : Hid (Ab w2 w6) := Lib.hid (by repeat (first | with_reducible exact Ab.refl _ | with_reducible assumption | with_reducible refine Ab.drew ?_ | with_reducible refine Ab.drewN ?_ _ | with_reducible refine Ab.alloc ?_ _ | with_reducible refine Ab.trans ?_ (by assumption) | with_reducible refine Ab.set ?_ (by first | (simp; done) | omega | (simp; omega)) _))
      have hw6 : Ab w w6 := (by repeat (first | with_reducible exact Ab.refl _ | with_reducible assumption | with_reducible refine Ab.drew ?_ | with_reducible refine Ab.drewN ?_ _ | with_reducible refine Ab.alloc ?_ _ | with_reducible refine Ab.trans ?_ (by assumption) | with_reducible refine Ab.set ?_ (by first | (simp; done) | omega | (simp; omega)) _))
      have hX6 := hX6h.out
      obtain ⟨-, -, -, -, k0, k1, k2, k3, k4, k5⟩ := hHeld
      clear hf3 hn3 hcmp3 hcmp4 iq0 iq1 iq4 iq5
      go_wp2_with fail
      refine (wcrash_any A B ca cb s t cap false f n _ (hs.ab (by repeat (first | with_reducible exact Ab.refl _ | with_reducible assumption | with_reducible refine Ab.drew ?_ | with_reducible refine Ab.drewN ?_ _ | with_reducible refine Ab.alloc ?_ _ | with_reducible refine Ab.trans ?_ (by assumption) | with_reducible refine Ab.set ?_ (by first | (simp; done) | omega | (simp; omega)) _))) (ht.ab (by repeat (first | with_reducible exact Ab.refl _ | with_reducible assumption | with_reducible refine Ab.drew ?_ | with_reducible refine Ab.drewN ?_ _ | with_reducible refine Ab.alloc ?_ _ | with_reducible refine Ab.trans ?_ (by assumption) | with_reducible refine Ab.set ?_ (by first | (simp; done) | omega | (simp; omega)) _))) hca hcb (by omega) (by omega) (some rs) HI.out k).mono ?_
      rintro e w7 ⟨r7, e7, D7, E7, c7, d7, h7, rfl, p7, q7, hb7⟩
      have H7 := Lib.hid (Prod.mk.inj (h7.out.trans HC.out)).1
      obtain rfl : e7 = 2 := (Prod.mk.inj (h7.out.trans HC.out)).2
      clear h7
      have k0' := hb7.at k0
      have k1' := hb7.at k1
      have k4' := hb7.at k4
      have k5' := hb7.at k5
      have zA7 : w.heap.size < w7.heap.size := cell_lt k0'
      have nA := fun (o : Obj) (j : Nat) => World.cell?_alloc_lt w7 o ⟨w.heap.size, j, none⟩ zA7
      go_wp2_with fail
      all_goals first | (exfalso; omega) | skip
      all_goals refine (alive4_true _).mono ?_
      all_goals rintro e w8 ⟨rfl, hb8⟩
      all_goals go_wp2
      all_goals go_ret
      all_goals exact ⟨rfl, (by repeat (first | with_reducible exact Ab.refl _ | with_reducible assumption | with_reducible refine Ab.drew ?_ | with_reducible refine Ab.drewN ?_ _ | with_reducible refine Ab.alloc ?_ _ | with_reducible refine Ab.trans ?_ (by assumption) | with_reducible refine Ab.set ?_ (by first | (simp; done) | omega | (simp; omega)) _))⟩
  · obtain ⟨kn, rfl⟩ := Int.eq_ofNat_of_zero_le (by omega : 0 ≤ k)
    have hkt : kn ≤ t.length := by omega
    have HC := Lib.hid (show Wal.crash ⟨⟨s, t, cap, false⟩, f, n⟩ (kn : Int) (some rs) = (⟨s ++ t.take kn, [], cap, true⟩, 0) by
      show Disk.crash _ _ = _
      unfold Disk.crash
      rw [if_neg (by simpa using HI.out.1), if_neg hk]
      simp)
    obtain ⟨hcs, hcb2⟩ := Wal.crash_scan HI.out kn hkt
    obtain ⟨q, hq⟩ : ∃ q, Wal.cut rs (s.length + kn) = q := ⟨_, rfl⟩
    have hqr : q ≤ rs.length := by rw [← hq]; exact Wal.cut_le _ _
    have hkq : kk ≤ q := by rw [← hq, ← HKK.out]; exact Wal.cut_mono rs (by omega)
    rw [hq] at hcs
    have hG : Wal.Good ⟨⟨s, t, cap, false⟩, f, n⟩ rs := HI.out
    have hnx := hG.2.2.2.1
    simp only at hnx
    obtain ⟨o2, hp1, hp2, hp3, hp4, hp5, hp6⟩ := Wal.open_of (d := ⟨s ++ t.take kn, [], cap, true⟩) (rs := rs.take q) (u := (Frame.all (rs.take q)).length) (f := f) hcs hcb2 hrg.1 (by omega) (fun h => by
      rw [List.length_take] at h
      rw [Wal.base_take rs q (by omega)]
      exact (hG.2.2.2.2.1 (by omega)).symm)
    have hql : (rs.take q).length = q := by rw [List.length_take]; omega
    rw [hql] at hp4
    have HCS := Lib.hid hcs
    have HP1 := Lib.hid hp1
    have HP2 := Lib.hid hp2
    have HP3 := Lib.hid hp3
    have HP4 := Lib.hid hp4
    have HR9 := Lib.hid (show Wal.records o2 f (some (rs.take q)) = (rs.take q, 0) by
      refine (if_neg (by rw [hp3, hp4]; omega)).trans ?_
      rw [hp3]
      simp only [Int.sub_self, Int.toNat_zero, List.drop_zero])
    have HS9 := Lib.hid (show Wal.synced o2 (some (rs.take q)) = (f + q, 0) by
      show (o2.first + (Wal.cut (rs.take q) o2.dev.s.length : Nat), (0 : Int)) = _
      rw [hp3, hp6, Wal.cut_all, hql])
    have hsq : f + (kk : Int) ≤ f + (q : Int) := by omega
    have hnq : f + (q : Int) ≤ n := by omega
    have HQL := Lib.hid hql
    clear hk hcs hcb2 hq hG hnx hp1 hp2 hp3 hp4 hp5 hp6 hql
    generalize hkd : (kn : Int) = k at *
    clear hkd
    go_enter Try.func7, Try.ntmps7
    go_wp2_with fail
    refine (fit4_yes A B ca cb s t cap f n _ (hs.ab (by repeat (first | with_reducible exact Ab.refl _ | with_reducible assumption | with_reducible refine Ab.drew ?_ | with_reducible refine Ab.drewN ?_ _ | with_reducible refine Ab.alloc ?_ _ | with_reducible refine Ab.trans ?_ (by assumption) | with_reducible refine Ab.set ?_ (by first | (simp; done) | omega | (simp; omega)) _))) (ht.ab (by repeat (first | with_reducible exact Ab.refl _ | with_reducible assumption | with_reducible refine Ab.drew ?_ | with_reducible refine Ab.drewN ?_ _ | with_reducible refine Ab.alloc ?_ _ | with_reducible refine Ab.trans ?_ (by assumption) | with_reducible refine Ab.set ?_ (by first | (simp; done) | omega | (simp; omega)) _))) hca hcb HGR.out rs HI.out).mono ?_
    rintro e w1 ⟨rfl, hb1⟩
    obtain ⟨bq0, bq1, bq2, bq3, bq4, bq5⟩ := cells6 hb1 (b := w.heap.size) (v0 := .slice A s.length ca) (v1 := .slice B t.length cb) (v2 := .int .i64 cap) (v3 := .bool false) (v4 := .int .i64 f) (v5 := .int .i64 n) (by first | (simp [go_sem]; done) | (refine ⟨?_, ?_, ?_, ?_, ?_, ?_⟩ <;> assumption))
    go_wp2_with fail
    refine (wrecords_any A B ca cb s t cap false f n _ (hs.ab (by repeat (first | with_reducible exact Ab.refl _ | with_reducible assumption | with_reducible refine Ab.drew ?_ | with_reducible refine Ab.drewN ?_ _ | with_reducible refine Ab.alloc ?_ _ | with_reducible refine Ab.trans ?_ (by assumption) | with_reducible refine Ab.set ?_ (by first | (simp; done) | omega | (simp; omega)) _))) (ht.ab (by repeat (first | with_reducible exact Ab.refl _ | with_reducible assumption | with_reducible refine Ab.drew ?_ | with_reducible refine Ab.drewN ?_ _ | with_reducible refine Ab.alloc ?_ _ | with_reducible refine Ab.trans ?_ (by assumption) | with_reducible refine Ab.set ?_ (by first | (simp; done) | omega | (simp; omega)) _))) hca hcb (by omega) (by omega) (some rs) HI.out f).mono ?_
    rintro e w2 ⟨X2, x2, xs2, e2, h2', rfl, R2, hd2, hx2, hsm2, hb2⟩
    obtain ⟨hr2, rfl⟩ := Prod.mk.inj (h2'.out.trans HW.out)
    have HR2 := Lib.hid hr2
    clear h2' hr2
    have hTmp : Ab (w.alloc (.cells #[.slice A s.length ca, .slice B t.length cb, .int .i64 cap, .bool false, .int .i64 f, .int .i64 n] 26)) w2 := (by repeat (first | with_reducible exact Ab.refl _ | with_reducible assumption | with_reducible refine Ab.drew ?_ | with_reducible refine Ab.drewN ?_ _ | with_reducible refine Ab.alloc ?_ _ | with_reducible refine Ab.trans ?_ (by assumption) | with_reducible refine Ab.set ?_ (by first | (simp; done) | omega | (simp; omega)) _))
    obtain ⟨bq0, bq1, bq2, bq3, bq4, bq5⟩ := cells6 hTmp (b := w.heap.size) (v0 := .slice A s.length ca) (v1 := .slice B t.length cb) (v2 := .int .i64 cap) (v3 := .bool false) (v4 := .int .i64 f) (v5 := .int .i64 n) (by first | (simp [go_sem]; done) | (refine ⟨?_, ?_, ?_, ?_, ?_, ?_⟩ <;> assumption))
    clear hTmp
    go_wp2_with fail
    refine (wsynced_any A B ca cb s t cap false f n _ (hs.ab (by repeat (first | with_reducible exact Ab.refl _ | with_reducible assumption | with_reducible refine Ab.drew ?_ | with_reducible refine Ab.drewN ?_ _ | with_reducible refine Ab.alloc ?_ _ | with_reducible refine Ab.trans ?_ (by assumption) | with_reducible refine Ab.set ?_ (by first | (simp; done) | omega | (simp; omega)) _))) (ht.ab (by repeat (first | with_reducible exact Ab.refl _ | with_reducible assumption | with_reducible refine Ab.drew ?_ | with_reducible refine Ab.drewN ?_ _ | with_reducible refine Ab.alloc ?_ _ | with_reducible refine Ab.trans ?_ (by assumption) | with_reducible refine Ab.set ?_ (by first | (simp; done) | omega | (simp; omega)) _))) hca hcb (by omega) (by omega) (some rs) HI.out).mono ?_
    rintro e w3' ⟨a3, e3, h3', rfl, hb3⟩
    obtain ⟨rfl, rfl⟩ := Prod.mk.inj (h3'.out.trans HS.out)
    clear h3'
    have hTmp : Ab (w.alloc (.cells #[.slice A s.length ca, .slice B t.length cb, .int .i64 cap, .bool false, .int .i64 f, .int .i64 n] 26)) w3' := (by repeat (first | with_reducible exact Ab.refl _ | with_reducible assumption | with_reducible refine Ab.drew ?_ | with_reducible refine Ab.drewN ?_ _ | with_reducible refine Ab.alloc ?_ _ | with_reducible refine Ab.trans ?_ (by assumption) | with_reducible refine Ab.set ?_ (by first | (simp; done) | omega | (simp; omega)) _))
    obtain ⟨bq0, bq1, bq2, bq3, bq4, bq5⟩ := cells6 hTmp (b := w.heap.size) (v0 := .slice A s.length ca) (v1 := .slice B t.length cb) (v2 := .int .i64 cap) (v3 := .bool false) (v4 := .int .i64 f) (v5 := .int .i64 n) (by first | (simp [go_sem]; done) | (refine ⟨?_, ?_, ?_, ?_, ?_, ?_⟩ <;> assumption))
    clear hTmp
    go_wp2_with fail
    refine (wopen_any A B ca cb s t cap false _ (hs.ab (by repeat (first | with_reducible exact Ab.refl _ | with_reducible assumption | with_reducible refine Ab.drew ?_ | with_reducible refine Ab.drewN ?_ _ | with_reducible refine Ab.alloc ?_ _ | with_reducible refine Ab.trans ?_ (by assumption) | with_reducible refine Ab.set ?_ (by first | (simp; done) | omega | (simp; omega)) _))) (ht.ab (by repeat (first | with_reducible exact Ab.refl _ | with_reducible assumption | with_reducible refine Ab.drew ?_ | with_reducible refine Ab.drewN ?_ _ | with_reducible refine Ab.alloc ?_ _ | with_reducible refine Ab.trans ?_ (by assumption) | with_reducible refine Ab.set ?_ (by first | (simp; done) | omega | (simp; omega)) _))) hca hcb (by omega) (by omega) f rs (s ++ t).length HI.out.scan).mono ?_
    rintro e w3 ⟨r3, e3, D3, E3, c3, d3, h3', rfl, p3, q3, hb4⟩
    have H3 := Lib.hid (Prod.mk.inj (h3'.out.trans HO1.out)).1
    obtain rfl : e3 = 0 := (Prod.mk.inj (h3'.out.trans HO1.out)).2
    clear h3'
    have hf3 : (r3.first != f) = false := by rw [H3.out, HO3.out]; simp
    have hn3 : (r3.next != n) = false := by rw [H3.out, HO4.out]; simp
    have hlen3 : r3.dev.t.length = 0 := by rw [H3.out, HO5.out]; rfl
    have hs3 : r3.dev.s = s ++ t := by rw [H3.out]; exact HO6.out
    have hs3l : r3.dev.s.length ≤ 4000 := by rw [hs3, List.length_append]; omega
    have HS3 := Lib.hid hs3
    have hcmp3 : decide ((0 : Int) < (r3.dev.t.length : Int)) = false := by rw [hlen3]; rfl
    have hcmp4 : decide (0 < r3.dev.t.length) = false := by rw [hlen3]; rfl
    clear hs3 hlen3
    have hTmp : Ab (w.alloc (.cells #[.slice A s.length ca, .slice B t.length cb, .int .i64 cap, .bool false, .int .i64 f, .int .i64 n] 26)) w3 := (by repeat (first | with_reducible exact Ab.refl _ | with_reducible assumption | with_reducible refine Ab.drew ?_ | with_reducible refine Ab.drewN ?_ _ | with_reducible refine Ab.alloc ?_ _ | with_reducible refine Ab.trans ?_ (by assumption) | with_reducible refine Ab.set ?_ (by first | (simp; done) | omega | (simp; omega)) _))
    obtain ⟨bq0, bq1, bq2, bq3, bq4, bq5⟩ := cells6 hTmp (b := w.heap.size) (v0 := .slice A s.length ca) (v1 := .slice B t.length cb) (v2 := .int .i64 cap) (v3 := .bool false) (v4 := .int .i64 f) (v5 := .int .i64 n) (by first | (simp [go_sem]; done) | (refine ⟨?_, ?_, ?_, ?_, ?_, ?_⟩ <;> assumption))
    clear hTmp
    have zA : w.heap.size < w3.heap.size := cell_lt bq0
    have hX2 : Ab w2 (w3.alloc (.cells #[.slice D3 r3.dev.s.length c3, .slice E3 r3.dev.t.length d3, .int .i64 r3.dev.cap, .bool r3.dev.down, .int .i64 r3.first, .int .i64 r3.next] 26)) := (by repeat (first | with_reducible exact Ab.refl _ | with_reducible assumption | with_reducible refine Ab.drew ?_ | with_reducible refine Ab.drewN ?_ _ | with_reducible refine Ab.alloc ?_ _ | with_reducible refine Ab.trans ?_ (by assumption) | with_reducible refine Ab.set ?_ (by first | (simp; done) | omega | (simp; omega)) _))
    have B3 : Ab w3 (w3.alloc (.cells #[.slice D3 r3.dev.s.length c3, .slice E3 r3.dev.t.length d3, .int .i64 r3.dev.cap, .bool r3.dev.down, .int .i64 r3.first, .int .i64 r3.next] 26)) := (Ab.refl _).alloc _
    have hw3 : Ab w (w3.alloc (.cells #[.slice D3 r3.dev.s.length c3, .slice E3 r3.dev.t.length d3, .int .i64 r3.dev.cap, .bool r3.dev.down, .int .i64 r3.first, .int .i64 r3.next] 26)) := (by repeat (first | with_reducible exact Ab.refl _ | with_reducible assumption | with_reducible refine Ab.drew ?_ | with_reducible refine Ab.drewN ?_ _ | with_reducible refine Ab.alloc ?_ _ | with_reducible refine Ab.trans ?_ (by assumption) | with_reducible refine Ab.set ?_ (by first | (simp; done) | omega | (simp; omega)) _))
    have hTmp : Ab (w.alloc (.cells #[.slice A s.length ca, .slice B t.length cb, .int .i64 cap, .bool false, .int .i64 f, .int .i64 n] 26)) (w3.alloc (.cells #[.slice D3 r3.dev.s.length c3, .slice E3 r3.dev.t.length d3, .int .i64 r3.dev.cap, .bool r3.dev.down, .int .i64 r3.first, .int .i64 r3.next] 26)) := (by repeat (first | with_reducible exact Ab.refl _ | with_reducible assumption | with_reducible refine Ab.drew ?_ | with_reducible refine Ab.drewN ?_ _ | with_reducible refine Ab.alloc ?_ _ | with_reducible refine Ab.trans ?_ (by assumption) | with_reducible refine Ab.set ?_ (by first | (simp; done) | omega | (simp; omega)) _))
    obtain ⟨bq0, bq1, bq2, bq3, bq4, bq5⟩ := cells6 hTmp (b := w.heap.size) (v0 := .slice A s.length ca) (v1 := .slice B t.length cb) (v2 := .int .i64 cap) (v3 := .bool false) (v4 := .int .i64 f) (v5 := .int .i64 n) (by first | (simp [go_sem]; done) | (refine ⟨?_, ?_, ?_, ?_, ?_, ?_⟩ <;> assumption))
    clear hTmp
    have iq0 : (w3.alloc (.cells #[.slice D3 r3.dev.s.length c3, .slice E3 r3.dev.t.length d3, .int .i64 r3.dev.cap, .bool r3.dev.down, .int .i64 r3.first, .int .i64 r3.next] 26)).cell? ⟨w3.heap.size, 0, none⟩ = some (.slice D3 r3.dev.s.length c3) := by simp [go_sem]
    have iq1 : (w3.alloc (.cells #[.slice D3 r3.dev.s.length c3, .slice E3 r3.dev.t.length d3, .int .i64 r3.dev.cap, .bool r3.dev.down, .int .i64 r3.first, .int .i64 r3.next] 26)).cell? ⟨w3.heap.size, 1, none⟩ = some (.slice E3 r3.dev.t.length d3) := by simp [go_sem]
    have iq4 : (w3.alloc (.cells #[.slice D3 r3.dev.s.length c3, .slice E3 r3.dev.t.length d3, .int .i64 r3.dev.cap, .bool r3.dev.down, .int .i64 r3.first, .int .i64 r3.next] 26)).cell? ⟨w3.heap.size, 4, none⟩ = some (.int .i64 r3.first) := by simp [go_sem]
    have iq5 : (w3.alloc (.cells #[.slice D3 r3.dev.s.length c3, .slice E3 r3.dev.t.length d3, .int .i64 r3.dev.cap, .bool r3.dev.down, .int .i64 r3.first, .int .i64 r3.next] 26)).cell? ⟨w3.heap.size, 5, none⟩ = some (.int .i64 r3.next) := by simp [go_sem]
    have p3' : RB (w3.alloc (.cells #[.slice D3 r3.dev.s.length c3, .slice E3 r3.dev.t.length d3, .int .i64 r3.dev.cap, .bool r3.dev.down, .int .i64 r3.first, .int .i64 r3.next] 26)) 0 D3 r3.dev.s := p3.rb.zero.ab B3
    clear hb1 hb2 hb3 hb4
    go_upto_region 6 with fail
    generalize (w3.alloc (.cells #[.slice D3 r3.dev.s.length c3, .slice E3 r3.dev.t.length d3, .int .i64 r3.dev.cap, .bool r3.dev.down, .int .i64 r3.first, .int .i64 r3.next] 26)) = w4 at *
    clear B3
    refine wp_region_held_drew (by kernel_rfl) (S := fun w' => w'.cell? ⟨w3.heap.size, 0, none⟩ = some (.slice D3 r3.dev.s.length c3) ∧ w'.cell? ⟨w3.heap.size, 1, none⟩ = some (.slice E3 r3.dev.t.length d3) ∧ w'.cell? ⟨w3.heap.size, 4, none⟩ = some (.int .i64 r3.first) ∧ w'.cell? ⟨w3.heap.size, 5, none⟩ = some (.int .i64 r3.next) ∧ w'.cell? ⟨w.heap.size, 0, none⟩ = some (.slice A s.length ca) ∧ w'.cell? ⟨w.heap.size, 1, none⟩ = some (.slice B t.length cb) ∧ w'.cell? ⟨w.heap.size, 2, none⟩ = some (.int .i64 cap) ∧ w'.cell? ⟨w.heap.size, 3, none⟩ = some (.bool false) ∧ w'.cell? ⟨w.heap.size, 4, none⟩ = some (.int .i64 f) ∧ w'.cell? ⟨w.heap.size, 5, none⟩ = some (.int .i64 n)) ?_ (fun hHeld => ?_)
    · (refine ⟨?_, ?_, ?_, ?_, ?_, ?_, ?_, ?_, ?_, ?_⟩ <;> (repeat (first | with_reducible assumption | (simp [go_sem]; done) | with_reducible apply cell_alloc | with_reducible apply cell_drew | with_reducible apply cell_drewN | (with_reducible apply Ab.at; with_reducible assumption) | (with_reducible refine cell_set ?_ ?_; rotate_left; focus (first | (simp; done) | (simp; omega))) | (with_reducible refine cell_setb ?_ ?_; rotate_left; focus (first | omega | (simp only; omega) | (simp; omega))))))
    (refine wpAnyH_take (i := 0) (v := ?_) rfl (by kernel_rfl) (by kernel_rfl) (by kernel_rfl) (fun _ _ _ h => h) (Or.inl ⟨by kernel_rfl, ?_⟩) (by assumption) ?_
     rotate_left
     · (intro w hSw; (try dsimp only at hSw); go_simp; (try with_reducible rfl))
     (try simp only [Act.put, List.setIfInBounds_toArray, List.set_cons_zero, List.set_cons_succ]))
    (refine wpAnyH_take (i := 1) (v := ?_) rfl (by kernel_rfl) (by kernel_rfl) (by kernel_rfl) (fun _ _ _ h => h) (Or.inl ⟨by kernel_rfl, ?_⟩) (by assumption) ?_
     rotate_left
     · (intro w hSw; (try dsimp only at hSw); go_simp; (try with_reducible rfl))
     (try simp only [Act.put, List.setIfInBounds_toArray, List.set_cons_zero, List.set_cons_succ]))
    (refine wpAnyH_take (i := 2) (v := ?_) rfl (by kernel_rfl) (by kernel_rfl) (by kernel_rfl) (fun _ _ _ h => h) (Or.inl ⟨by kernel_rfl, ?_⟩) (by assumption) ?_
     rotate_left
     · (intro w hSw; (try dsimp only at hSw); go_simp; (try with_reducible rfl))
     (try simp only [Act.put, List.setIfInBounds_toArray, List.set_cons_zero, List.set_cons_succ]))
    (refine wpAnyH_take (i := 3) (v := ?_) rfl (by kernel_rfl) (by kernel_rfl) (by kernel_rfl) (fun _ _ _ h => h) (Or.inl ⟨by kernel_rfl, ?_⟩) (by assumption) ?_
     rotate_left
     · (intro w hSw; (try dsimp only at hSw); go_simp; (try with_reducible rfl))
     (try simp only [Act.put, List.setIfInBounds_toArray, List.set_cons_zero, List.set_cons_succ]))
    (refine wpAnyH_take (i := 4) (v := ?_) rfl (by kernel_rfl) (by kernel_rfl) (by kernel_rfl) (fun _ _ _ h => h) (Or.inl ⟨by kernel_rfl, ?_⟩) (by assumption) ?_
     rotate_left
     · (intro w hSw; (try dsimp only at hSw); go_simp; (try with_reducible rfl))
     (try simp only [Act.put, List.setIfInBounds_toArray, List.set_cons_zero, List.set_cons_succ]))
    (refine wpAnyH_ready (rs := [5]) (by kernel_rfl) (by simp) ?_)
    refine AllReadyH.cons rfl (fun K hK => ?_) AllReadyH.nil
    (go_simp
     (refine hK.out _ _ ?_ (fun hHeld => ?_)
      · (try dsimp only); (refine ⟨?_, ?_, ?_, ?_, ?_, ?_, ?_, ?_, ?_, ?_⟩ <;> (repeat (first | with_reducible assumption | (simp [go_sem]; done) | with_reducible apply cell_alloc | with_reducible apply cell_drew | with_reducible apply cell_drewN | (with_reducible apply Ab.at; with_reducible assumption) | (with_reducible refine cell_set ?_ ?_; rotate_left; focus (first | (simp; done) | (simp; omega))) | (with_reducible refine cell_setb ?_ ?_; rotate_left; focus (first | omega | (simp only; omega) | (simp; omega))))))
      clear hK K
      (try simp only [Act.put, List.setIfInBounds_toArray, List.set_cons_zero, List.set_cons_succ])))
    (refine wpAnyH_take (i := 6) (v := ?_) rfl (by kernel_rfl) (by kernel_rfl) (by kernel_rfl) (fun _ _ _ h => h) (Or.inl ⟨by kernel_rfl, ?_⟩) (by assumption) ?_
     rotate_left
     · (intro w hSw; (try dsimp only at hSw); go_simp; (try with_reducible rfl))
     (try simp only [Act.put, List.setIfInBounds_toArray, List.set_cons_zero, List.set_cons_succ]))
    (refine wpAnyH_take (i := 7) (v := ?_) rfl (by kernel_rfl) (by kernel_rfl) (by kernel_rfl) (fun _ _ _ h => h) (Or.inl ⟨by kernel_rfl, ?_⟩) (by assumption) ?_
     rotate_left
     · (intro w hSw; (try dsimp only at hSw); go_simp; (try with_reducible rfl))
     (try simp only [Act.put, List.setIfInBounds_toArray, List.set_cons_zero, List.set_cons_succ]))
    (refine wpAnyH_take (i := 8) (v := ?_) rfl (by kernel_rfl) (by kernel_rfl) (by kernel_rfl) (fun _ _ _ h => h) (Or.inl ⟨by kernel_rfl, ?_⟩) (by assumption) ?_
     rotate_left
     · (intro w hSw; (try dsimp only at hSw); go_simp; (try with_reducible rfl))
     (try simp only [Act.put, List.setIfInBounds_toArray, List.set_cons_zero, List.set_cons_succ]))
    (refine wpAnyH_ready (rs := [9]) (by kernel_rfl) (by simp) ?_)
    refine AllReadyH.cons rfl (fun K hK => ?_) AllReadyH.nil
    (go_simp
     (refine hK.out _ _ ?_ (fun hHeld => ?_)
      · (try dsimp only); (refine ⟨?_, ?_, ?_, ?_, ?_, ?_, ?_, ?_, ?_, ?_⟩ <;> (repeat (first | with_reducible assumption | (simp [go_sem]; done) | with_reducible apply cell_alloc | with_reducible apply cell_drew | with_reducible apply cell_drewN | (with_reducible apply Ab.at; with_reducible assumption) | (with_reducible refine cell_set ?_ ?_; rotate_left; focus (first | (simp; done) | (simp; omega))) | (with_reducible refine cell_setb ?_ ?_; rotate_left; focus (first | omega | (simp only; omega) | (simp; omega))))))
      clear hK K
      (try simp only [Act.put, List.setIfInBounds_toArray, List.set_cons_zero, List.set_cons_succ])))
    (refine wpAnyH_take (i := 10) (v := ?_) rfl (by kernel_rfl) (by kernel_rfl) (by kernel_rfl) (fun _ _ _ h => h) (Or.inl ⟨by kernel_rfl, ?_⟩) (by assumption) ?_
     rotate_left
     · (intro w hSw; (try dsimp only at hSw); go_simp; (try with_reducible rfl))
     (try simp only [Act.put, List.setIfInBounds_toArray, List.set_cons_zero, List.set_cons_succ]))
    (refine wpAnyH_take (i := 11) (v := ?_) rfl (by kernel_rfl) (by kernel_rfl) (by kernel_rfl) (fun _ _ _ h => h) (Or.inl ⟨by kernel_rfl, ?_⟩) (by assumption) ?_
     rotate_left
     · (intro w hSw; (try dsimp only at hSw); go_simp; (try with_reducible rfl))
     (try simp only [Act.put, List.setIfInBounds_toArray, List.set_cons_zero, List.set_cons_succ]))
    (refine wpAnyH_take (i := 12) (v := ?_) rfl (by kernel_rfl) (by kernel_rfl) (by kernel_rfl) (fun _ _ _ h => h) (Or.inl ⟨by kernel_rfl, ?_⟩) (by assumption) ?_
     rotate_left
     · (intro w hSw; (try dsimp only at hSw); go_simp; (try with_reducible rfl))
     (try simp only [Act.put, List.setIfInBounds_toArray, List.set_cons_zero, List.set_cons_succ]))
    (refine wpAnyH_take (i := 13) (v := ?_) rfl (by kernel_rfl) (by kernel_rfl) (by kernel_rfl) (fun _ _ _ h => h) (Or.inl ⟨by kernel_rfl, ?_⟩) (by assumption) ?_
     rotate_left
     · (intro w hSw; (try dsimp only at hSw); go_simp; (try with_reducible rfl))
     (try simp only [Act.put, List.setIfInBounds_toArray, List.set_cons_zero, List.set_cons_succ]))
    (refine wpAnyH_take (i := 14) (v := ?_) rfl (by kernel_rfl) (by kernel_rfl) (by kernel_rfl) (fun _ _ _ h => h) (Or.inl ⟨by kernel_rfl, ?_⟩) (by assumption) ?_
     rotate_left
     · (intro w hSw; (try dsimp only at hSw); go_simp; (try with_reducible rfl))
     (try simp only [Act.put, List.setIfInBounds_toArray, List.set_cons_zero, List.set_cons_succ]))
    (refine wpAnyH_take (i := 15) (v := ?_) rfl (by kernel_rfl) (by kernel_rfl) (by kernel_rfl) (fun _ _ _ h => h) (Or.inl ⟨by kernel_rfl, ?_⟩) (by assumption) ?_
     rotate_left
     · (intro w hSw; (try dsimp only at hSw); go_simp; (try with_reducible rfl))
     (try simp only [Act.put, List.setIfInBounds_toArray, List.set_cons_zero, List.set_cons_succ]))
    (refine wpAnyH_ready (rs := [16]) (by kernel_rfl) (by simp) ?_)
    refine AllReadyH.cons rfl (fun K hK => ?_) AllReadyH.nil
    (go_simp
     (refine hK.out _ _ ?_ (fun hHeld => ?_)
      · (try dsimp only); (refine ⟨?_, ?_, ?_, ?_, ?_, ?_, ?_, ?_, ?_, ?_⟩ <;> (repeat (first | with_reducible assumption | (simp [go_sem]; done) | with_reducible apply cell_alloc | with_reducible apply cell_drew | with_reducible apply cell_drewN | (with_reducible apply Ab.at; with_reducible assumption) | (with_reducible refine cell_set ?_ ?_; rotate_left; focus (first | (simp; done) | (simp; omega))) | (with_reducible refine cell_setb ?_ ?_; rotate_left; focus (first | omega | (simp only; omega) | (simp; omega))))))
      clear hK K
      (try simp only [Act.put, List.setIfInBounds_toArray, List.set_cons_zero, List.set_cons_succ])))
    (refine wpAnyH_take (i := 17) (v := ?_) rfl (by kernel_rfl) (by kernel_rfl) (by kernel_rfl) (fun _ _ _ h => h) (Or.inl ⟨by kernel_rfl, ?_⟩) (by assumption) ?_
     rotate_left
     · (intro w hSw; (try dsimp only at hSw); go_simp; (try with_reducible rfl))
     (try simp only [Act.put, List.setIfInBounds_toArray, List.set_cons_zero, List.set_cons_succ]))
    (refine wpAnyH_take (i := 18) (v := ?_) rfl (by kernel_rfl) (by kernel_rfl) (by kernel_rfl) (fun _ _ _ h => h) (Or.inl ⟨by kernel_rfl, ?_⟩) (by assumption) ?_
     rotate_left
     · (intro w hSw; (try dsimp only at hSw); go_simp; (try with_reducible rfl))
     (try simp only [Act.put, List.setIfInBounds_toArray, List.set_cons_zero, List.set_cons_succ]))
    (refine wpAnyH_take (i := 19) (v := ?_) rfl (by kernel_rfl) (by kernel_rfl) (by kernel_rfl) (fun _ _ _ h => h) (Or.inl ⟨by kernel_rfl, ?_⟩) (by assumption) ?_
     rotate_left
     · (intro w hSw; (try dsimp only at hSw); go_simp; (try with_reducible rfl))
     (try simp only [Act.put, List.setIfInBounds_toArray, List.set_cons_zero, List.set_cons_succ]))
    (refine wpAnyH_take (i := 20) (v := ?_) rfl (by kernel_rfl) (by kernel_rfl) (by kernel_rfl) (fun _ _ _ h => h) (Or.inl ⟨by kernel_rfl, ?_⟩) (by assumption) ?_
     rotate_left
     · (intro w hSw; (try dsimp only at hSw); go_simp; (try with_reducible rfl))
     (try simp only [Act.put, List.setIfInBounds_toArray, List.set_cons_zero, List.set_cons_succ]))
    (refine wpAnyH_take (i := 21) (v := ?_) rfl (by kernel_rfl) (by kernel_rfl) (by kernel_rfl) (fun _ _ _ h => h) (Or.inl ⟨by kernel_rfl, ?_⟩) (by assumption) ?_
     rotate_left
     · (intro w hSw; (try dsimp only at hSw); go_simp; (try with_reducible rfl))
     (try simp only [Act.put, List.setIfInBounds_toArray, List.set_cons_zero, List.set_cons_succ]))
    (refine wpAnyH_take (i := 22) (v := ?_) rfl (by kernel_rfl) (by kernel_rfl) (by kernel_rfl) (fun _ _ _ h => h) (Or.inl ⟨by kernel_rfl, ?_⟩) (by assumption) ?_
     rotate_left
     · (intro w hSw; (try dsimp only at hSw); go_simp; (try with_reducible rfl))
     (try simp only [Act.put, List.setIfInBounds_toArray, List.set_cons_zero, List.set_cons_succ]))
    (refine wpAnyH_ready (rs := [23]) (by kernel_rfl) (by simp) ?_)
    refine AllReadyH.cons rfl (fun K hK => ?_) AllReadyH.nil
    (go_simp
     (refine hK.out _ _ ?_ (fun hHeld => ?_)
      · (try dsimp only); (refine ⟨?_, ?_, ?_, ?_, ?_, ?_, ?_, ?_, ?_, ?_⟩ <;> (repeat (first | with_reducible assumption | (simp [go_sem]; done) | with_reducible apply cell_alloc | with_reducible apply cell_drew | with_reducible apply cell_drewN | (with_reducible apply Ab.at; with_reducible assumption) | (with_reducible refine cell_set ?_ ?_; rotate_left; focus (first | (simp; done) | (simp; omega))) | (with_reducible refine cell_setb ?_ ?_; rotate_left; focus (first | omega | (simp only; omega) | (simp; omega))))))
      clear hK K
      (try simp only [Act.put, List.setIfInBounds_toArray, List.set_cons_zero, List.set_cons_succ])))
    (refine wpAnyH_take (i := 24) (v := ?_) rfl (by kernel_rfl) (by kernel_rfl) (by kernel_rfl) (fun _ _ _ h => h) (Or.inl ⟨by kernel_rfl, ?_⟩) (by assumption) ?_
     rotate_left
     · (intro w hSw; (try dsimp only at hSw); go_simp; (try with_reducible rfl))
     (try simp only [Act.put, List.setIfInBounds_toArray, List.set_cons_zero, List.set_cons_succ]))
    (refine wpAnyH_take (i := 25) (v := ?_) rfl (by kernel_rfl) (by kernel_rfl) (by kernel_rfl) (fun _ _ _ h => h) (Or.inl ⟨by kernel_rfl, ?_⟩) (by assumption) ?_
     rotate_left
     · (intro w hSw; (try dsimp only at hSw); go_simp; (try with_reducible rfl))
     (try simp only [Act.put, List.setIfInBounds_toArray, List.set_cons_zero, List.set_cons_succ]))
    (refine wpAnyH_take (i := 26) (v := ?_) rfl (by kernel_rfl) (by kernel_rfl) (by kernel_rfl) (fun _ _ _ h => h) (Or.inl ⟨by kernel_rfl, ?_⟩) (by assumption) ?_
     rotate_left
     · (intro w hSw; (try dsimp only at hSw); go_simp; (try with_reducible rfl))
     (try simp only [Act.put, List.setIfInBounds_toArray, List.set_cons_zero, List.set_cons_succ]))
    (refine wpAnyH_take (i := 27) (v := ?_) rfl (by kernel_rfl) (by kernel_rfl) (by kernel_rfl) (fun _ _ _ h => h) (Or.inl ⟨by kernel_rfl, ?_⟩) (by assumption) ?_
     rotate_left
     · (intro w hSw; (try dsimp only at hSw); go_simp; (try with_reducible rfl))
     (try simp only [Act.put, List.setIfInBounds_toArray, List.set_cons_zero, List.set_cons_succ]))
    (refine wpAnyH_take (i := 28) (v := ?_) rfl (by kernel_rfl) (by kernel_rfl) (by kernel_rfl) (fun _ _ _ h => h) (Or.inl ⟨by kernel_rfl, ?_⟩) (by assumption) ?_
     rotate_left
     · (intro w hSw; (try dsimp only at hSw); go_simp; (try with_reducible rfl))
     (try simp only [Act.put, List.setIfInBounds_toArray, List.set_cons_zero, List.set_cons_succ]))
    (refine wpAnyH_take (i := 29) (v := ?_) rfl (by kernel_rfl) (by kernel_rfl) (by kernel_rfl) (fun _ _ _ h => h) (Or.inl ⟨by kernel_rfl, ?_⟩) (by assumption) ?_
     rotate_left
     · (intro w hSw; (try dsimp only at hSw); go_simp; (try with_reducible rfl))
     (try simp only [Act.put, List.setIfInBounds_toArray, List.set_cons_zero, List.set_cons_succ]))
    (refine wpAnyH_ready (rs := [30]) (by kernel_rfl) (by simp) ?_)
    refine AllReadyH.cons rfl (fun K hK => ?_) AllReadyH.nil
    (go_simp
     (refine hK.out _ _ ?_ (fun hHeld => ?_)
      · (try dsimp only); (refine ⟨?_, ?_, ?_, ?_, ?_, ?_, ?_, ?_, ?_, ?_⟩ <;> (repeat (first | with_reducible assumption | (simp [go_sem]; done) | with_reducible apply cell_alloc | with_reducible apply cell_drew | with_reducible apply cell_drewN | (with_reducible apply Ab.at; with_reducible assumption) | (with_reducible refine cell_set ?_ ?_; rotate_left; focus (first | (simp; done) | (simp; omega))) | (with_reducible refine cell_setb ?_ ?_; rotate_left; focus (first | omega | (simp only; omega) | (simp; omega))))))
      clear hK K
      (try simp only [Act.put, List.setIfInBounds_toArray, List.set_cons_zero, List.set_cons_succ])))
    (refine wpAnyH_take (i := 31) (v := ?_) rfl (by kernel_rfl) (by kernel_rfl) (by kernel_rfl) (fun _ _ _ h => h) (Or.inl ⟨by kernel_rfl, ?_⟩) (by assumption) ?_
     rotate_left
     · (intro w hSw; (try dsimp only at hSw); go_simp; (try with_reducible rfl))
     (try simp only [Act.put, List.setIfInBounds_toArray, List.set_cons_zero, List.set_cons_succ]))
    (refine wpAnyH_take (i := 32) (v := ?_) rfl (by kernel_rfl) (by kernel_rfl) (by kernel_rfl) (fun _ _ _ h => h) (Or.inl ⟨by kernel_rfl, ?_⟩) (by assumption) ?_
     rotate_left
     · (intro w hSw; (try dsimp only at hSw); go_simp; (try with_reducible rfl))
     (try simp only [Act.put, List.setIfInBounds_toArray, List.set_cons_zero, List.set_cons_succ]))
    (refine wpAnyH_take (i := 33) (v := ?_) rfl (by kernel_rfl) (by kernel_rfl) (by kernel_rfl) (fun _ _ _ h => h) (Or.inl ⟨by kernel_rfl, ?_⟩) (by assumption) ?_
     rotate_left
     · (intro w hSw; (try dsimp only at hSw); go_simp; (try with_reducible rfl))
     (try simp only [Act.put, List.setIfInBounds_toArray, List.set_cons_zero, List.set_cons_succ]))
    (refine wpAnyH_take (i := 34) (v := ?_) rfl (by kernel_rfl) (by kernel_rfl) (by kernel_rfl) (fun _ _ _ h => h) (Or.inl ⟨by kernel_rfl, ?_⟩) (by assumption) ?_
     rotate_left
     · (intro w hSw; (try dsimp only at hSw); go_simp; (try with_reducible rfl))
     (try simp only [Act.put, List.setIfInBounds_toArray, List.set_cons_zero, List.set_cons_succ]))
    (refine wpAnyH_take (i := 35) (v := ?_) rfl (by kernel_rfl) (by kernel_rfl) (by kernel_rfl) (fun _ _ _ h => h) (Or.inl ⟨by kernel_rfl, ?_⟩) (by assumption) ?_
     rotate_left
     · (intro w hSw; (try dsimp only at hSw); go_simp; (try with_reducible rfl))
     (try simp only [Act.put, List.setIfInBounds_toArray, List.set_cons_zero, List.set_cons_succ]))
    (refine wpAnyH_take (i := 36) (v := ?_) rfl (by kernel_rfl) (by kernel_rfl) (by kernel_rfl) (fun _ _ _ h => h) (Or.inl ⟨by kernel_rfl, ?_⟩) (by assumption) ?_
     rotate_left
     · (intro w hSw; (try dsimp only at hSw); go_simp; (try with_reducible rfl))
     (try simp only [Act.put, List.setIfInBounds_toArray, List.set_cons_zero, List.set_cons_succ]))
    (refine wpAnyH_ready (rs := [37]) (by kernel_rfl) (by simp) ?_)
    refine AllReadyH.cons rfl (fun K hK => ?_) AllReadyH.nil
    (go_simp
     ((go_at_call 37)
      refine (whole_any A B ca cb s t cap false _ (hs.ab (by repeat (first | with_reducible exact Ab.refl _ | with_reducible assumption | with_reducible refine Ab.drew ?_ | with_reducible refine Ab.drewN ?_ _ | with_reducible refine Ab.alloc ?_ _ | with_reducible refine Ab.trans ?_ (by assumption) | with_reducible refine Ab.set ?_ (by first | (simp; done) | omega | (simp; omega)) _))) (ht.ab (by repeat (first | with_reducible exact Ab.refl _ | with_reducible assumption | with_reducible refine Ab.drew ?_ | with_reducible refine Ab.drewN ?_ _ | with_reducible refine Ab.alloc ?_ _ | with_reducible refine Ab.trans ?_ (by assumption) | with_reducible refine Ab.set ?_ (by first | (simp; done) | omega | (simp; omega)) _))) hca hcb (by omega) (by omega)).mono ?_
      rintro e w5 ⟨L5, D5, c5, hL5, rfl, o5, hb5⟩
      have ll5 : L5.length ≤ 4000 := by rw [hL5.out, List.length_append]; omega)
     (try go_wp2_with fail)
     (refine hK.out _ _ ?_ (fun hHeld => ?_)
      · (try dsimp only); (refine ⟨?_, ?_, ?_, ?_, ?_, ?_, ?_, ?_, ?_, ?_⟩ <;> (repeat (first | with_reducible assumption | (simp [go_sem]; done) | with_reducible apply cell_alloc | with_reducible apply cell_drew | with_reducible apply cell_drewN | (with_reducible apply Ab.at; with_reducible assumption) | (with_reducible refine cell_set ?_ ?_; rotate_left; focus (first | (simp; done) | (simp; omega))) | (with_reducible refine cell_setb ?_ ?_; rotate_left; focus (first | omega | (simp only; omega) | (simp; omega))))))
      clear hK K
      (try simp only [Act.put, List.setIfInBounds_toArray, List.set_cons_zero, List.set_cons_succ])))
    (refine wpAnyH_ready (rs := [38]) (by kernel_rfl) (by simp) ?_)
    refine AllReadyH.cons rfl (fun K hK => ?_) AllReadyH.nil
    (go_simp
     ((go_at_call 36)
      refine (same_bytes D3 D5 c3 c5 r3.dev.s L5 _ (p3'.ab (by repeat (first | with_reducible exact Ab.refl _ | with_reducible assumption | with_reducible refine Ab.drew ?_ | with_reducible refine Ab.drewN ?_ _ | with_reducible refine Ab.alloc ?_ _ | with_reducible refine Ab.trans ?_ (by assumption) | with_reducible refine Ab.set ?_ (by first | (simp; done) | omega | (simp; omega)) _))) (o5.rb.zero.ab (by repeat (first | with_reducible exact Ab.refl _ | with_reducible assumption | with_reducible refine Ab.drew ?_ | with_reducible refine Ab.drewN ?_ _ | with_reducible refine Ab.alloc ?_ _ | with_reducible refine Ab.trans ?_ (by assumption) | with_reducible refine Ab.set ?_ (by first | (simp; done) | omega | (simp; omega)) _))) (by omega) (by omega) (HS3.out.trans hL5.out.symm)).mono ?_
      rintro e w6 ⟨rfl, hb6⟩)
     (try go_wp2_with fail)
     (refine hK.out _ _ ?_ (fun hHeld => ?_)
      · (try dsimp only); (refine ⟨?_, ?_, ?_, ?_, ?_, ?_, ?_, ?_, ?_, ?_⟩ <;> (repeat (first | with_reducible assumption | (simp [go_sem]; done) | with_reducible apply cell_alloc | with_reducible apply cell_drew | with_reducible apply cell_drewN | (with_reducible apply Ab.at; with_reducible assumption) | (with_reducible refine cell_set ?_ ?_; rotate_left; focus (first | (simp; done) | (simp; omega))) | (with_reducible refine cell_setb ?_ ?_; rotate_left; focus (first | omega | (simp only; omega) | (simp; omega))))))
      clear hK K
      (try simp only [Act.put, List.setIfInBounds_toArray, List.set_cons_zero, List.set_cons_succ])))
    (refine wpAnyH_take (i := 39) (v := ?_) rfl (by kernel_rfl) (by kernel_rfl) (by kernel_rfl) (fun _ _ _ h => h) (Or.inl ⟨by kernel_rfl, ?_⟩) (by assumption) ?_
     rotate_left
     · (intro w hSw; (try dsimp only at hSw); go_simp; (try with_reducible rfl))
     (try simp only [Act.put, List.setIfInBounds_toArray, List.set_cons_zero, List.set_cons_succ]))
    (refine wpAnyH_ready (rs := [40]) (by kernel_rfl) (by simp) ?_)
    refine AllReadyH.cons rfl (fun K hK => ?_) AllReadyH.nil
    (go_simp
     (refine hK.out _ _ ?_ (fun hHeld => ?_)
      · (try dsimp only); (refine ⟨?_, ?_, ?_, ?_, ?_, ?_, ?_, ?_, ?_, ?_⟩ <;> (repeat (first | with_reducible assumption | (simp [go_sem]; done) | with_reducible apply cell_alloc | with_reducible apply cell_drew | with_reducible apply cell_drewN | (with_reducible apply Ab.at; with_reducible assumption) | (with_reducible refine cell_set ?_ ?_; rotate_left; focus (first | (simp; done) | (simp; omega))) | (with_reducible refine cell_setb ?_ ?_; rotate_left; focus (first | omega | (simp only; omega) | (simp; omega))))))
      clear hK K
      (try simp only [Act.put, List.setIfInBounds_toArray, List.set_cons_zero, List.set_cons_succ])))
    refine wpAnyH_done (by kernel_rfl) ?_ _
    have hX6h : Hid (Ab w2 w6) := Lib.hid (by repeat (first | with_reducible exact Ab.refl _ | with_reducible assumption | with_reducible refine Ab.drew ?_ | with_reducible refine Ab.drewN ?_ _ | with_reducible refine Ab.alloc ?_ _ | with_reducible refine Ab.trans ?_ (by assumption) | with_reducible refine Ab.set ?_ (by first | (simp; done) | omega | (simp; omega)) _))
    have hw6 : Ab w w6 := (by repeat (first | with_reducible exact Ab.refl _ | with_reducible assumption | with_reducible refine Ab.drew ?_ | with_reducible refine Ab.drewN ?_ _ | with_reducible refine Ab.alloc ?_ _ | with_reducible refine Ab.trans ?_ (by assumption) | with_reducible refine Ab.set ?_ (by first | (simp; done) | omega | (simp; omega)) _))
    have hX6 := hX6h.out
    obtain ⟨-, -, -, -, k0, k1, k2, k3, k4, k5⟩ := hHeld
    clear hf3 hn3 hcmp3 hcmp4 iq0 iq1 iq4 iq5
    go_wp2_with fail
    refine (wcrash_any A B ca cb s t cap false f n _ (hs.ab (by repeat (first | with_reducible exact Ab.refl _ | with_reducible assumption | with_reducible refine Ab.drew ?_ | with_reducible refine Ab.drewN ?_ _ | with_reducible refine Ab.alloc ?_ _ | with_reducible refine Ab.trans ?_ (by assumption) | with_reducible refine Ab.set ?_ (by first | (simp; done) | omega | (simp; omega)) _))) (ht.ab (by repeat (first | with_reducible exact Ab.refl _ | with_reducible assumption | with_reducible refine Ab.drew ?_ | with_reducible refine Ab.drewN ?_ _ | with_reducible refine Ab.alloc ?_ _ | with_reducible refine Ab.trans ?_ (by assumption) | with_reducible refine Ab.set ?_ (by first | (simp; done) | omega | (simp; omega)) _))) hca hcb (by omega) (by omega) (some rs) HI.out k).mono ?_
    rintro e w7 ⟨r7, e7, D7, E7, c7, d7, h7, rfl, p7, q7, hb7⟩
    have H7 := Lib.hid (Prod.mk.inj (h7.out.trans HC.out)).1
    obtain rfl : e7 = 0 := (Prod.mk.inj (h7.out.trans HC.out)).2
    clear h7
    have k0' := hb7.at k0
    have k1' := hb7.at k1
    have k4' := hb7.at k4
    have k5' := hb7.at k5
    have zA7 : w.heap.size < w7.heap.size := cell_lt k0'
    have nA := fun (o : Obj) (j : Nat) => World.cell?_alloc_lt w7 o ⟨w.heap.size, j, none⟩ zA7
    have b7 : r7.s.length ≤ 1000000 ∧ r7.t.length ≤ 1000000 := by rw [H7.out]; simp; omega
    go_wp2_with fail
    refine (wopen_any D7 E7 c7 d7 r7.s r7.t r7.cap r7.down _ (p7.rb.zero.ab (by repeat (first | with_reducible exact Ab.refl _ | with_reducible assumption | with_reducible refine Ab.drew ?_ | with_reducible refine Ab.drewN ?_ _ | with_reducible refine Ab.alloc ?_ _ | with_reducible refine Ab.trans ?_ (by assumption) | with_reducible refine Ab.set ?_ (by first | (simp; done) | omega | (simp; omega)) _))) (q7.rb.zero.ab (by repeat (first | with_reducible exact Ab.refl _ | with_reducible assumption | with_reducible refine Ab.drew ?_ | with_reducible refine Ab.drewN ?_ _ | with_reducible refine Ab.alloc ?_ _ | with_reducible refine Ab.trans ?_ (by assumption) | with_reducible refine Ab.set ?_ (by first | (simp; done) | omega | (simp; omega)) _))) p7.le q7.le b7.1 b7.2 f (rs.take q) (Frame.all (rs.take q)).length (by rw [H7.out]; exact HCS.out)).mono ?_
    rintro e w8 ⟨r8, e8, D8, E8, c8, d8, h8, rfl, p8, q8, hb8⟩
    have hm8 := h8.out.trans ((congrArg (fun d => Wal.open_ d f (rs.take q) (Frame.all (rs.take q)).length) H7.out).trans HP1.out)
    have H8 := Lib.hid (Prod.mk.inj hm8).1
    obtain rfl : e8 = 0 := (Prod.mk.inj hm8).2
    clear h8 hm8 nA
    have g8 : Wal.Good r8 (rs.take q) := by rw [H8.out]; exact HP2.out
    have L8 := good_lens g8
    obtain ⟨ff, hff⟩ : ∃ ff, r8.first = ff := ⟨_, rfl⟩
    obtain ⟨nn, hnn⟩ : ∃ nn, r8.next = nn := ⟨_, rfl⟩
    have hff2 : ff = f := by rw [← hff, H8.out]; exact HP3.out
    have hnn2 : nn = f + q := by rw [← hnn, H8.out]; exact HP4.out
    have HFF := Lib.hid hff2
    have HNN := Lib.hid hnn2
    have hc1 : (r8.first == f) = true := by rw [hff, hff2]; simp
    have hc2 : f + (kk : Int) ≤ r8.next := by rw [hnn, hnn2]; exact hsq
    have hc3 : r8.next ≤ n := by rw [hnn, hnn2]; exact hnq
    have hc4 : (f + (q : Int) == r8.next) = true := by rw [hnn, hnn2]; simp
    have HFr : Hid (r8.first = f) := Lib.hid (by rw [hff]; exact hff2)
    clear hff hnn hff2 hnn2
    have hb78 : Ab w7 w8 := (by repeat (first | with_reducible exact Ab.refl _ | with_reducible assumption | with_reducible refine Ab.drew ?_ | with_reducible refine Ab.drewN ?_ _ | with_reducible refine Ab.alloc ?_ _ | with_reducible refine Ab.trans ?_ (by assumption) | with_reducible refine Ab.set ?_ (by first | (simp; done) | omega | (simp; omega)) _))
    have h68 : Ab w6 w8 := (show Ab w6 w7 from (by repeat (first | with_reducible exact Ab.refl _ | with_reducible assumption | with_reducible refine Ab.drew ?_ | with_reducible refine Ab.drewN ?_ _ | with_reducible refine Ab.alloc ?_ _ | with_reducible refine Ab.trans ?_ (by assumption) | with_reducible refine Ab.set ?_ (by first | (simp; done) | omega | (simp; omega)) _))).trans hb78
    have hX8 : Ab w2 w8 := hX6.trans h68
    have m4 := hb78.at k4'
    have m5 := hb78.at k5'
    have zA8 : w.heap.size < w8.heap.size := cell_lt m4
    have nA := fun (o : Obj) (j : Nat) => World.cell?_alloc_lt w8 o ⟨w.heap.size, j, none⟩ zA8
    go_wp2_with fail
    refine (wrecords_any D8 E8 c8 d8 r8.dev.s r8.dev.t r8.dev.cap r8.dev.down r8.first r8.next _ (p8.rb.zero.ab (by repeat (first | with_reducible exact Ab.refl _ | with_reducible assumption | with_reducible refine Ab.drew ?_ | with_reducible refine Ab.drewN ?_ _ | with_reducible refine Ab.alloc ?_ _ | with_reducible refine Ab.trans ?_ (by assumption) | with_reducible refine Ab.set ?_ (by first | (simp; done) | omega | (simp; omega)) _))) (q8.rb.zero.ab (by repeat (first | with_reducible exact Ab.refl _ | with_reducible assumption | with_reducible refine Ab.drew ?_ | with_reducible refine Ab.drewN ?_ _ | with_reducible refine Ab.alloc ?_ _ | with_reducible refine Ab.trans ?_ (by assumption) | with_reducible refine Ab.set ?_ (by first | (simp; done) | omega | (simp; omega)) _))) p8.le q8.le L8.1 L8.2 (some (rs.take q)) g8 r8.first).mono ?_
    rintro e w9 ⟨X9, x9, xs9, e9, h9, rfl, R9, hd9, hx9, hsm9, hb9⟩
    have hm9 := h9.out.trans ((congrArg (fun l : Wal.Log => Wal.records l l.first (some (rs.take q))) H8.out).trans ((congrArg (fun z => Wal.records o2 z (some (rs.take q))) HP3.out).trans HR9.out))
    have HR9' := Lib.hid (Prod.mk.inj hm9).1
    obtain rfl : e9 = 0 := (Prod.mk.inj hm9).2
    clear h9 hm9 nA
    have hTmp : Ab (w8.alloc (.cells #[.slice D8 r8.dev.s.length c8, .slice E8 r8.dev.t.length d8, .int .i64 r8.dev.cap, .bool r8.dev.down, .int .i64 r8.first, .int .i64 r8.next] 26)) w9 := (by repeat (first | with_reducible exact Ab.refl _ | with_reducible assumption | with_reducible refine Ab.drew ?_ | with_reducible refine Ab.drewN ?_ _ | with_reducible refine Ab.alloc ?_ _ | with_reducible refine Ab.trans ?_ (by assumption) | with_reducible refine Ab.set ?_ (by first | (simp; done) | omega | (simp; omega)) _))
    obtain ⟨uq0, uq1, uq2, uq3, uq4, uq5⟩ := cells6 hTmp (b := w8.heap.size) (v0 := .slice D8 r8.dev.s.length c8) (v1 := .slice E8 r8.dev.t.length d8) (v2 := .int .i64 r8.dev.cap) (v3 := .bool r8.dev.down) (v4 := .int .i64 r8.first) (v5 := .int .i64 r8.next) (by first | (simp [go_sem]; done) | (refine ⟨?_, ?_, ?_, ?_, ?_, ?_⟩ <;> assumption))
    clear hTmp
    have hb89 : Ab w8 w9 := (by repeat (first | with_reducible exact Ab.refl _ | with_reducible assumption | with_reducible refine Ab.drew ?_ | with_reducible refine Ab.drewN ?_ _ | with_reducible refine Ab.alloc ?_ _ | with_reducible refine Ab.trans ?_ (by assumption) | with_reducible refine Ab.set ?_ (by first | (simp; done) | omega | (simp; omega)) _))
    have n4 := hb89.at m4
    have n5 := hb89.at m5
    have hw9 : Hid (Ab w w9) := Lib.hid ((hw6.trans h68).trans hb89)
    go_wp2_with fail
    refine (wsynced_any D8 E8 c8 d8 r8.dev.s r8.dev.t r8.dev.cap r8.dev.down r8.first r8.next _ (p8.rb.zero.ab (by repeat (first | with_reducible exact Ab.refl _ | with_reducible assumption | with_reducible refine Ab.drew ?_ | with_reducible refine Ab.drewN ?_ _ | with_reducible refine Ab.alloc ?_ _ | with_reducible refine Ab.trans ?_ (by assumption) | with_reducible refine Ab.set ?_ (by first | (simp; done) | omega | (simp; omega)) _))) (q8.rb.zero.ab (by repeat (first | with_reducible exact Ab.refl _ | with_reducible assumption | with_reducible refine Ab.drew ?_ | with_reducible refine Ab.drewN ?_ _ | with_reducible refine Ab.alloc ?_ _ | with_reducible refine Ab.trans ?_ (by assumption) | with_reducible refine Ab.set ?_ (by first | (simp; done) | omega | (simp; omega)) _))) p8.le q8.le L8.1 L8.2 (some (rs.take q)) g8).mono ?_
    rintro e wa ⟨aa, ea, ha, rfl, hba⟩
    obtain ⟨rfl, rfl⟩ := Prod.mk.inj (ha.out.trans ((congrArg (fun l => Wal.synced l (some (rs.take q))) H8.out).trans HS9.out))
    clear ha
    have v1 := hba.at uq4
    have v2 := hba.at uq5
    have v4 := hba.at n4
    have v5 := hba.at n5
    have hx9l : xs9.length = q := by rw [← recs_length, HR9'.out, HQL.out]
    have hx2l : xs2.length = rs.length := by rw [← recs_length, HR2.out]
    have hxle : xs9.length ≤ xs2.length := by omega
    have hxs : (xs2.take xs9.length).length = xs9.length := by rw [List.length_take]; omega
    have HSR : Hid (recs xs9 = recs (xs2.take xs9.length)) := Lib.hid (by rw [HR9'.out, recs_take, HR2.out, hx9l])
    have HSM9 := Lib.hid (show ∀ i (hi : i < xs9.length), xs9[i].b.length ≤ 140737488351232 from fun i hi => Nat.le_trans (hsm9.out i hi) (by omega))
    have hX2a : Ab w2 wa := (hX8.trans hb89).trans hba
    have S0 : ∀ w', Ab wa w' → Calls Try.prog 34 #[.slice X9 xs9.length x9, .slice X2 xs9.length x2] w' (fun e w'' => e = .returned (.bool true) ∧ ∃ n, w'' = w'.drewN n) := fun w' h => by
      have := rsame_true X9 X2 x9 x2 xs9 (xs2.take xs9.length) w' ((R9.ab (hba.trans h)).mono (Nat.zero_le _)) (((R2.ab (hX2a.trans h)).mono (Nat.zero_le _)).take _) HSR (by omega) HSM9
      rw [hxs] at this
      exact this
    have hsl1 : (xs9.length : Int) ≤ (x2 : Int) := by omega
    have hsl2 : (0 : Int) ≤ (xs9.length : Int) := by omega
    have hsl3 : (xs9.length : Int) ≤ (xs2.length : Int) := by omega
    have hwa : Ab w wa := hw9.out.trans hba
    clear hx9l hx2l hxs
    go_wp2_with fail
    refine (S0 _ (by repeat (first | with_reducible exact Ab.refl _ | with_reducible assumption | with_reducible refine Ab.drew ?_ | with_reducible refine Ab.drewN ?_ _ | with_reducible refine Ab.alloc ?_ _ | with_reducible refine Ab.trans ?_ (by assumption) | with_reducible refine Ab.set ?_ (by first | (simp; done) | omega | (simp; omega)) _))).mono ?_
    rintro e wb ⟨rfl, nb, rfl⟩
    go_wp2_with fail
    refine (alive4_true _).mono ?_
    rintro e wz ⟨rfl, hbz⟩
    go_wp2
    go_ret
    exact ⟨rfl, (by repeat (first | with_reducible exact Ab.refl _ | with_reducible assumption | with_reducible refine Ab.drew ?_ | with_reducible refine Ab.drewN ?_ _ | with_reducible refine Ab.alloc ?_ _ | with_reducible refine Ab.trans ?_ (by assumption) | with_reducible refine Ab.set ?_ (by first | (simp; done) | omega | (simp; omega)) _))⟩
end Go.Proofs.Ytehagdpcegpbjaa
