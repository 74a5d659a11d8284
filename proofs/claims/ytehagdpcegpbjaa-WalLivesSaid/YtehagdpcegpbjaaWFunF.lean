/- Drop of package wal, walked. Own work. -/
import Derived.Test.YtehagdpcegpbjaaWFunC
import Derived.Test.YtehagdpcegpbjaaWRet
set_option linter.unusedVariables false
set_option linter.unusedSimpArgs false
namespace Go.Proofs.Ytehagdpcegpbjaa
open Go.RowKit

set_option maxHeartbeats 3200000 in
theorem wdrop_any (A B : Option Addr) (ca cb : Nat) (s t : List UInt8) (cap : Int) (dn : Bool) (f n : Int) (w : World) (hs : RB w 0 A s) (ht : RB w 0 B t) (hca : s.length ≤ ca) (hcb : t.length ≤ cb) (ls : s.length ≤ 1000000) (lt : t.length ≤ 1000000) (g : Option (List Frame.Rec)) (hi : Wal.Is ⟨⟨s, t, cap, dn⟩, f, n⟩ g) (m : Int) :
    Calls Try.prog 15 #[.agg #[.slice A s.length ca, .slice B t.length cb, .int .i64 cap, .bool dn, .int .i64 f, .int .i64 n], .int .i64 m] w (RetLogE w (Wal.drop ⟨⟨s, t, cap, dn⟩, f, n⟩ m g)) := by
  cases g with
  | none =>
    go_enter Try.func15, Try.ntmps15
    go_wp2_with fail
    refine (read_bad A B ca cb s t cap dn f n _ (hs.ab (by repeat (first | with_reducible exact Ab.refl _ | with_reducible assumption | with_reducible refine Ab.drew ?_ | with_reducible refine Ab.drewN ?_ _ | with_reducible refine Ab.alloc ?_ _ | with_reducible refine Ab.trans ?_ (by assumption) | with_reducible refine Ab.set ?_ (by first | (simp; done) | omega | (simp; omega)) _))) (ht.ab (by repeat (first | with_reducible exact Ab.refl _ | with_reducible assumption | with_reducible refine Ab.drew ?_ | with_reducible refine Ab.drewN ?_ _ | with_reducible refine Ab.alloc ?_ _ | with_reducible refine Ab.trans ?_ (by assumption) | with_reducible refine Ab.set ?_ (by first | (simp; done) | omega | (simp; omega)) _))) hca hcb ls lt hi).mono ?_
    rintro e w1 ⟨rfl, hb1⟩
    have zq0 := hb1.at (p := ⟨w.heap.size + 1, 0, none⟩) (v := .slice none 0 0) (by simp [go_sem]); have zq1 := hb1.at (p := ⟨w.heap.size + 1, 1, none⟩) (v := .slice none 0 0) (by simp [go_sem]); have zq2 := hb1.at (p := ⟨w.heap.size + 1, 2, none⟩) (v := .int .i64 0) (by simp [go_sem]); have zq3 := hb1.at (p := ⟨w.heap.size + 1, 3, none⟩) (v := .bool false) (by simp [go_sem]); have zq4 := hb1.at (p := ⟨w.heap.size + 1, 4, none⟩) (v := .int .i64 0) (by simp [go_sem]); have zq5 := hb1.at (p := ⟨w.heap.size + 1, 5, none⟩) (v := .int .i64 0) (by simp [go_sem])
    have zr0 : w1.frozen? ⟨w.heap.size + 1, 0, none⟩ = false := (hb1.frozen (p := ⟨w.heap.size + 1, 0, none⟩) (by simp)).trans (by simp [go_sem]); have zr1 : w1.frozen? ⟨w.heap.size + 1, 1, none⟩ = false := (hb1.frozen (p := ⟨w.heap.size + 1, 1, none⟩) (by simp)).trans (by simp [go_sem]); have zr2 : w1.frozen? ⟨w.heap.size + 1, 2, none⟩ = false := (hb1.frozen (p := ⟨w.heap.size + 1, 2, none⟩) (by simp)).trans (by simp [go_sem]); have zr3 : w1.frozen? ⟨w.heap.size + 1, 3, none⟩ = false := (hb1.frozen (p := ⟨w.heap.size + 1, 3, none⟩) (by simp)).trans (by simp [go_sem]); have zr4 : w1.frozen? ⟨w.heap.size + 1, 4, none⟩ = false := (hb1.frozen (p := ⟨w.heap.size + 1, 4, none⟩) (by simp)).trans (by simp [go_sem]); have zr5 : w1.frozen? ⟨w.heap.size + 1, 5, none⟩ = false := (hb1.frozen (p := ⟨w.heap.size + 1, 5, none⟩) (by simp)).trans (by simp [go_sem])
    have z1 := hb1.size
    simp at z1
    have nw1a := fun (o : Obj) (j : Nat) => World.cell?_alloc_lt w1 o ⟨w.heap.size, j, none⟩ (by simp; omega)
    have nw1c := fun (o : Obj) (j : Nat) => World.cell?_alloc_lt w1 o ⟨w.heap.size + 1, j, none⟩ (by simp; omega)
    have nw1b := fun (o : Obj) (j : Nat) => ((Ab.refl w1).alloc o).frozen (p := ⟨w.heap.size, j, none⟩) (by simp; omega)
    have nw1d := fun (o : Obj) (j : Nat) => ((Ab.refl w1).alloc o).frozen (p := ⟨w.heap.size + 1, j, none⟩) (by simp; omega)
    go_wp2
    refine bodyPost_ret (v := .tuple #[.agg #[.slice none 0 0, .slice none 0 0, .int .i64 0, .bool false, .int .i64 0, .int .i64 0], .int .i64 8]) (by simp [results, Try.results15, go_sem, *]) rfl ?_
    exact RetLogE.zero rfl (by repeat (first | with_reducible exact Ab.refl _ | with_reducible assumption | with_reducible refine Ab.drew ?_ | with_reducible refine Ab.drewN ?_ _ | with_reducible refine Ab.alloc ?_ _ | with_reducible refine Ab.trans ?_ (by assumption) | with_reducible refine Ab.set ?_ (by first | (simp; done) | omega | (simp; omega)) _))
  | some rs =>
    obtain rfl : dn = false := hi.isUp
    by_cases hm : m < f ∨ n < m
    · have HM := Lib.hid (show Wal.drop ⟨⟨s, t, cap, false⟩, f, n⟩ m (some rs) = (Wal.zero, 2) from if_pos hm)
      rcases hm with hm | hm
      all_goals
        go_enter Try.func15, Try.ntmps15
        go_wp2_with fail
        refine (read_good A B ca cb s t cap f n _ (hs.ab (by repeat (first | with_reducible exact Ab.refl _ | with_reducible assumption | with_reducible refine Ab.drew ?_ | with_reducible refine Ab.drewN ?_ _ | with_reducible refine Ab.alloc ?_ _ | with_reducible refine Ab.trans ?_ (by assumption) | with_reducible refine Ab.set ?_ (by first | (simp; done) | omega | (simp; omega)) _))) (ht.ab (by repeat (first | with_reducible exact Ab.refl _ | with_reducible assumption | with_reducible refine Ab.drew ?_ | with_reducible refine Ab.drewN ?_ _ | with_reducible refine Ab.alloc ?_ _ | with_reducible refine Ab.trans ?_ (by assumption) | with_reducible refine Ab.set ?_ (by first | (simp; done) | omega | (simp; omega)) _))) hca hcb rs hi).mono ?_
        rintro e w1 ⟨E, d, ys, hR, hE, rfl, hEn, hd, hyl, hb1⟩
        have zq0 := hb1.at (p := ⟨w.heap.size + 1, 0, none⟩) (v := .slice none 0 0) (by simp [go_sem]); have zq1 := hb1.at (p := ⟨w.heap.size + 1, 1, none⟩) (v := .slice none 0 0) (by simp [go_sem]); have zq2 := hb1.at (p := ⟨w.heap.size + 1, 2, none⟩) (v := .int .i64 0) (by simp [go_sem]); have zq3 := hb1.at (p := ⟨w.heap.size + 1, 3, none⟩) (v := .bool false) (by simp [go_sem]); have zq4 := hb1.at (p := ⟨w.heap.size + 1, 4, none⟩) (v := .int .i64 0) (by simp [go_sem]); have zq5 := hb1.at (p := ⟨w.heap.size + 1, 5, none⟩) (v := .int .i64 0) (by simp [go_sem])
        have zr0 : w1.frozen? ⟨w.heap.size + 1, 0, none⟩ = false := (hb1.frozen (p := ⟨w.heap.size + 1, 0, none⟩) (by simp)).trans (by simp [go_sem]); have zr1 : w1.frozen? ⟨w.heap.size + 1, 1, none⟩ = false := (hb1.frozen (p := ⟨w.heap.size + 1, 1, none⟩) (by simp)).trans (by simp [go_sem]); have zr2 : w1.frozen? ⟨w.heap.size + 1, 2, none⟩ = false := (hb1.frozen (p := ⟨w.heap.size + 1, 2, none⟩) (by simp)).trans (by simp [go_sem]); have zr3 : w1.frozen? ⟨w.heap.size + 1, 3, none⟩ = false := (hb1.frozen (p := ⟨w.heap.size + 1, 3, none⟩) (by simp)).trans (by simp [go_sem]); have zr4 : w1.frozen? ⟨w.heap.size + 1, 4, none⟩ = false := (hb1.frozen (p := ⟨w.heap.size + 1, 4, none⟩) (by simp)).trans (by simp [go_sem]); have zr5 : w1.frozen? ⟨w.heap.size + 1, 5, none⟩ = false := (hb1.frozen (p := ⟨w.heap.size + 1, 5, none⟩) (by simp)).trans (by simp [go_sem])
        have z1 := hb1.size
        simp at z1
        have nw1a := fun (o : Obj) (j : Nat) => World.cell?_alloc_lt w1 o ⟨w.heap.size, j, none⟩ (by simp; omega)
        have nw1c := fun (o : Obj) (j : Nat) => World.cell?_alloc_lt w1 o ⟨w.heap.size + 1, j, none⟩ (by simp; omega)
        have nw1b := fun (o : Obj) (j : Nat) => ((Ab.refl w1).alloc o).frozen (p := ⟨w.heap.size, j, none⟩) (by simp; omega)
        have nw1d := fun (o : Obj) (j : Nat) => ((Ab.refl w1).alloc o).frozen (p := ⟨w.heap.size + 1, j, none⟩) (by simp; omega)
        go_wp2
        all_goals first | (exfalso; omega) | skip
        all_goals refine bodyPost_ret (v := .tuple #[.agg #[.slice none 0 0, .slice none 0 0, .int .i64 0, .bool false, .int .i64 0, .int .i64 0], .int .i64 2]) (by simp [results, Try.results15, go_sem, *]) rfl ?_
        all_goals exact RetLogE.zero HM.out.symm (by repeat (first | with_reducible exact Ab.refl _ | with_reducible assumption | with_reducible refine Ab.drew ?_ | with_reducible refine Ab.drewN ?_ _ | with_reducible refine Ab.alloc ?_ _ | with_reducible refine Ab.trans ?_ (by assumption) | with_reducible refine Ab.set ?_ (by first | (simp; done) | omega | (simp; omega)) _))
    have hrg := hi.rng
    simp only at hrg
    have hnl := hi.2.2.2.1
    simp only at hnl
    have h1 : ¬ m < f := by omega
    have h2 : ¬ n < m := by omega
    obtain ⟨kk, hkk⟩ : ∃ kk, Wal.cut rs s.length = kk := ⟨_, rfl⟩
    by_cases h3 : f + kk < m
    · have HM := Lib.hid (show Wal.drop ⟨⟨s, t, cap, false⟩, f, n⟩ m (some rs) = (Wal.zero, 32) from (if_neg hm).trans (if_pos (by rw [hkk]; exact h3)))
      have HK := Lib.hid hkk
      clear hm hkk hnl
      go_enter Try.func15, Try.ntmps15
      go_wp2_with fail
      refine (read_good A B ca cb s t cap f n _ (hs.ab (by repeat (first | with_reducible exact Ab.refl _ | with_reducible assumption | with_reducible refine Ab.drew ?_ | with_reducible refine Ab.drewN ?_ _ | with_reducible refine Ab.alloc ?_ _ | with_reducible refine Ab.trans ?_ (by assumption) | with_reducible refine Ab.set ?_ (by first | (simp; done) | omega | (simp; omega)) _))) (ht.ab (by repeat (first | with_reducible exact Ab.refl _ | with_reducible assumption | with_reducible refine Ab.drew ?_ | with_reducible refine Ab.drewN ?_ _ | with_reducible refine Ab.alloc ?_ _ | with_reducible refine Ab.trans ?_ (by assumption) | with_reducible refine Ab.set ?_ (by first | (simp; done) | omega | (simp; omega)) _))) hca hcb rs hi).mono ?_
      rintro e w1 ⟨E, d, ys, hR, hE, rfl, hEn, hd, hyl, hb1⟩
      have zq0 := hb1.at (p := ⟨w.heap.size + 1, 0, none⟩) (v := .slice none 0 0) (by simp [go_sem]); have zq1 := hb1.at (p := ⟨w.heap.size + 1, 1, none⟩) (v := .slice none 0 0) (by simp [go_sem]); have zq2 := hb1.at (p := ⟨w.heap.size + 1, 2, none⟩) (v := .int .i64 0) (by simp [go_sem]); have zq3 := hb1.at (p := ⟨w.heap.size + 1, 3, none⟩) (v := .bool false) (by simp [go_sem]); have zq4 := hb1.at (p := ⟨w.heap.size + 1, 4, none⟩) (v := .int .i64 0) (by simp [go_sem]); have zq5 := hb1.at (p := ⟨w.heap.size + 1, 5, none⟩) (v := .int .i64 0) (by simp [go_sem])
      have zr0 : w1.frozen? ⟨w.heap.size + 1, 0, none⟩ = false := (hb1.frozen (p := ⟨w.heap.size + 1, 0, none⟩) (by simp)).trans (by simp [go_sem]); have zr1 : w1.frozen? ⟨w.heap.size + 1, 1, none⟩ = false := (hb1.frozen (p := ⟨w.heap.size + 1, 1, none⟩) (by simp)).trans (by simp [go_sem]); have zr2 : w1.frozen? ⟨w.heap.size + 1, 2, none⟩ = false := (hb1.frozen (p := ⟨w.heap.size + 1, 2, none⟩) (by simp)).trans (by simp [go_sem]); have zr3 : w1.frozen? ⟨w.heap.size + 1, 3, none⟩ = false := (hb1.frozen (p := ⟨w.heap.size + 1, 3, none⟩) (by simp)).trans (by simp [go_sem]); have zr4 : w1.frozen? ⟨w.heap.size + 1, 4, none⟩ = false := (hb1.frozen (p := ⟨w.heap.size + 1, 4, none⟩) (by simp)).trans (by simp [go_sem]); have zr5 : w1.frozen? ⟨w.heap.size + 1, 5, none⟩ = false := (hb1.frozen (p := ⟨w.heap.size + 1, 5, none⟩) (by simp)).trans (by simp [go_sem])
      have z1 := hb1.size
      simp at z1
      go_wp2_with fail
      refine (msynced_any A B ca cb s t cap f n _ rs hi E d ys hR hE ((hEn.mono (Nat.zero_le _)).ab (by repeat (first | with_reducible exact Ab.refl _ | with_reducible assumption | with_reducible refine Ab.drew ?_ | with_reducible refine Ab.drewN ?_ _ | with_reducible refine Ab.alloc ?_ _ | with_reducible refine Ab.trans ?_ (by assumption) | with_reducible refine Ab.set ?_ (by first | (simp; done) | omega | (simp; omega)) _))) hyl).mono ?_
      rintro e w2 ⟨r2, hr2, rfl, hb2⟩
      obtain rfl : r2 = f + kk := by rw [hr2.out, HK.out]
      have hz2 : Ab ((w.alloc (.cells #[.slice A s.length ca, .slice B t.length cb, .int .i64 cap, .bool false, .int .i64 f, .int .i64 n] 26)).alloc (.cells #[.slice none 0 0, .slice none 0 0, .int .i64 0, .bool false, .int .i64 0, .int .i64 0] 26)) w2 := (by repeat (first | with_reducible exact Ab.refl _ | with_reducible assumption | with_reducible refine Ab.drew ?_ | with_reducible refine Ab.drewN ?_ _ | with_reducible refine Ab.alloc ?_ _ | with_reducible refine Ab.trans ?_ (by assumption) | with_reducible refine Ab.set ?_ (by first | (simp; done) | omega | (simp; omega)) _))
      have zq0 := hz2.at (p := ⟨w.heap.size + 1, 0, none⟩) (v := .slice none 0 0) (by simp [go_sem]); have zq1 := hz2.at (p := ⟨w.heap.size + 1, 1, none⟩) (v := .slice none 0 0) (by simp [go_sem]); have zq2 := hz2.at (p := ⟨w.heap.size + 1, 2, none⟩) (v := .int .i64 0) (by simp [go_sem]); have zq3 := hz2.at (p := ⟨w.heap.size + 1, 3, none⟩) (v := .bool false) (by simp [go_sem]); have zq4 := hz2.at (p := ⟨w.heap.size + 1, 4, none⟩) (v := .int .i64 0) (by simp [go_sem]); have zq5 := hz2.at (p := ⟨w.heap.size + 1, 5, none⟩) (v := .int .i64 0) (by simp [go_sem])
      have zr0 : w2.frozen? ⟨w.heap.size + 1, 0, none⟩ = false := (hz2.frozen (p := ⟨w.heap.size + 1, 0, none⟩) (by simp)).trans (by simp [go_sem]); have zr1 : w2.frozen? ⟨w.heap.size + 1, 1, none⟩ = false := (hz2.frozen (p := ⟨w.heap.size + 1, 1, none⟩) (by simp)).trans (by simp [go_sem]); have zr2 : w2.frozen? ⟨w.heap.size + 1, 2, none⟩ = false := (hz2.frozen (p := ⟨w.heap.size + 1, 2, none⟩) (by simp)).trans (by simp [go_sem]); have zr3 : w2.frozen? ⟨w.heap.size + 1, 3, none⟩ = false := (hz2.frozen (p := ⟨w.heap.size + 1, 3, none⟩) (by simp)).trans (by simp [go_sem]); have zr4 : w2.frozen? ⟨w.heap.size + 1, 4, none⟩ = false := (hz2.frozen (p := ⟨w.heap.size + 1, 4, none⟩) (by simp)).trans (by simp [go_sem]); have zr5 : w2.frozen? ⟨w.heap.size + 1, 5, none⟩ = false := (hz2.frozen (p := ⟨w.heap.size + 1, 5, none⟩) (by simp)).trans (by simp [go_sem])
      clear hr2
      go_wp2
      refine bodyPost_ret (v := .tuple #[.agg #[.slice none 0 0, .slice none 0 0, .int .i64 0, .bool false, .int .i64 0, .int .i64 0], .int .i64 32]) (by simp [results, Try.results15, go_sem, *]) rfl ?_
      exact RetLogE.zero HM.out.symm (by repeat (first | with_reducible exact Ab.refl _ | with_reducible assumption | with_reducible refine Ab.drew ?_ | with_reducible refine Ab.drewN ?_ _ | with_reducible refine Ab.alloc ?_ _ | with_reducible refine Ab.trans ?_ (by assumption) | with_reducible refine Ab.set ?_ (by first | (simp; done) | omega | (simp; omega)) _))
    · obtain ⟨j, hj⟩ : ∃ j : Nat, m - f = (j : Int) := ⟨(m - f).toNat, by omega⟩
      obtain ⟨v, hv⟩ : ∃ v, (Frame.all (rs.take j)).length = v := ⟨_, rfl⟩
      have hjk : j ≤ kk := by omega
      have hkr : kk ≤ rs.length := by rw [← hkk]; exact Wal.cut_le _ _
      have hvs : v ≤ s.length := by rw [← hv]; exact Nat.le_trans (Wal.take_mono rs (by rw [hkk]; exact hjk)) (Wal.cut_in rs s.length)
      have HDD := Lib.hid (show Disk.drop ⟨s, t, cap, false⟩ (v : Int) = (⟨s.drop v, t, cap, false⟩, 0) by
        unfold Disk.drop; rw [if_neg (by simpa using hi.1), if_neg (by simp only; omega)]; simp)
      have HM := Lib.hid (show Wal.drop ⟨⟨s, t, cap, false⟩, f, n⟩ m (some rs) = (⟨⟨s.drop v, t, cap, false⟩, m, n⟩, 0) by
        refine (if_neg hm).trans ((if_neg (by rw [hkk]; exact h3)).trans ?_)
        simp only [hj, Int.toNat_natCast, hv])
      have hrm := hi.room
      simp only [Disk.Dev.size] at hrm
      have hsub : IntKind.i64.wrap (m - f) = (j : Int) := by rw [IntWalk.i64_in _ (by omega)]; exact hj
      have HK := Lib.hid hkk
      have HV := Lib.hid hv
      have HJ := Lib.hid hj
      have hjr : j ≤ rs.length := by omega
      clear hm hkk hnl hv hj
      go_enter Try.func15, Try.ntmps15
      go_wp2_with fail
      refine (read_good A B ca cb s t cap f n _ (hs.ab (by repeat (first | with_reducible exact Ab.refl _ | with_reducible assumption | with_reducible refine Ab.drew ?_ | with_reducible refine Ab.drewN ?_ _ | with_reducible refine Ab.alloc ?_ _ | with_reducible refine Ab.trans ?_ (by assumption) | with_reducible refine Ab.set ?_ (by first | (simp; done) | omega | (simp; omega)) _))) (ht.ab (by repeat (first | with_reducible exact Ab.refl _ | with_reducible assumption | with_reducible refine Ab.drew ?_ | with_reducible refine Ab.drewN ?_ _ | with_reducible refine Ab.alloc ?_ _ | with_reducible refine Ab.trans ?_ (by assumption) | with_reducible refine Ab.set ?_ (by first | (simp; done) | omega | (simp; omega)) _))) hca hcb rs hi).mono ?_
      rintro e w1 ⟨E, d, ys, hR, hE, rfl, hEn, hd, hyl, hb1⟩
      have zq0 := hb1.at (p := ⟨w.heap.size + 1, 0, none⟩) (v := .slice none 0 0) (by simp [go_sem]); have zq1 := hb1.at (p := ⟨w.heap.size + 1, 1, none⟩) (v := .slice none 0 0) (by simp [go_sem]); have zq2 := hb1.at (p := ⟨w.heap.size + 1, 2, none⟩) (v := .int .i64 0) (by simp [go_sem]); have zq3 := hb1.at (p := ⟨w.heap.size + 1, 3, none⟩) (v := .bool false) (by simp [go_sem]); have zq4 := hb1.at (p := ⟨w.heap.size + 1, 4, none⟩) (v := .int .i64 0) (by simp [go_sem]); have zq5 := hb1.at (p := ⟨w.heap.size + 1, 5, none⟩) (v := .int .i64 0) (by simp [go_sem])
      have zr0 : w1.frozen? ⟨w.heap.size + 1, 0, none⟩ = false := (hb1.frozen (p := ⟨w.heap.size + 1, 0, none⟩) (by simp)).trans (by simp [go_sem]); have zr1 : w1.frozen? ⟨w.heap.size + 1, 1, none⟩ = false := (hb1.frozen (p := ⟨w.heap.size + 1, 1, none⟩) (by simp)).trans (by simp [go_sem]); have zr2 : w1.frozen? ⟨w.heap.size + 1, 2, none⟩ = false := (hb1.frozen (p := ⟨w.heap.size + 1, 2, none⟩) (by simp)).trans (by simp [go_sem]); have zr3 : w1.frozen? ⟨w.heap.size + 1, 3, none⟩ = false := (hb1.frozen (p := ⟨w.heap.size + 1, 3, none⟩) (by simp)).trans (by simp [go_sem]); have zr4 : w1.frozen? ⟨w.heap.size + 1, 4, none⟩ = false := (hb1.frozen (p := ⟨w.heap.size + 1, 4, none⟩) (by simp)).trans (by simp [go_sem]); have zr5 : w1.frozen? ⟨w.heap.size + 1, 5, none⟩ = false := (hb1.frozen (p := ⟨w.heap.size + 1, 5, none⟩) (by simp)).trans (by simp [go_sem])
      have z1 := hb1.size
      simp at z1
      have hjy : j ≤ ys.length := by rw [← erecs_length, hR.out]; exact hjr
      go_wp2_with fail
      refine (msynced_any A B ca cb s t cap f n _ rs hi E d ys hR hE ((hEn.mono (Nat.zero_le _)).ab (by repeat (first | with_reducible exact Ab.refl _ | with_reducible assumption | with_reducible refine Ab.drew ?_ | with_reducible refine Ab.drewN ?_ _ | with_reducible refine Ab.alloc ?_ _ | with_reducible refine Ab.trans ?_ (by assumption) | with_reducible refine Ab.set ?_ (by first | (simp; done) | omega | (simp; omega)) _))) hyl).mono ?_
      rintro e w2 ⟨r2, hr2, rfl, hb2⟩
      obtain rfl : r2 = f + kk := by rw [hr2.out, HK.out]
      clear hr2
      have hE2 : Ents w2 0 E ys := (hEn.mono (Nat.zero_le _)).ab (by repeat (first | with_reducible exact Ab.refl _ | with_reducible assumption | with_reducible refine Ab.drew ?_ | with_reducible refine Ab.drewN ?_ _ | with_reducible refine Ab.alloc ?_ _ | with_reducible refine Ab.trans ?_ (by assumption) | with_reducible refine Ab.set ?_ (by first | (simp; done) | omega | (simp; omega)) _))
      have hz2 : Ab ((w.alloc (.cells #[.slice A s.length ca, .slice B t.length cb, .int .i64 cap, .bool false, .int .i64 f, .int .i64 n] 26)).alloc (.cells #[.slice none 0 0, .slice none 0 0, .int .i64 0, .bool false, .int .i64 0, .int .i64 0] 26)) w2 := (by repeat (first | with_reducible exact Ab.refl _ | with_reducible assumption | with_reducible refine Ab.drew ?_ | with_reducible refine Ab.drewN ?_ _ | with_reducible refine Ab.alloc ?_ _ | with_reducible refine Ab.trans ?_ (by assumption) | with_reducible refine Ab.set ?_ (by first | (simp; done) | omega | (simp; omega)) _))
      have hPz : w1.heap.size < w2.heap.size := by have := hb2.size; simp at this; omega
      have E0 : ∀ w', Ab w2 w' → Calls Try.prog 44 #[.slice E j d] w' (fun e w'' => e = .returned (.int .i64 (v : Int)) ∧ w' = w'') := fun w' hw' => by
        have hl : (ys.take j).length = j := by simp; omega
        have := endOf_any E d v (ys.take j) w' ((hE2.take j).ab hw') (ends_take hE.out j) (by omega) (by rw [← HV.out, erecs_take, hR.out])
        rw [hl] at this
        exact this
      obtain ⟨xq0, xq1, xq2, xq3, xq4, xq5⟩ := cells6 hb2 (b := w1.heap.size) (v0 := .slice A s.length ca) (v1 := .slice B t.length cb) (v2 := .int .i64 cap) (v3 := .bool false) (v4 := .int .i64 f) (v5 := .int .i64 n) (by first | (simp [go_sem]; done) | (refine ⟨?_, ?_, ?_, ?_, ?_, ?_⟩ <;> assumption))
      have xq6 := hb2.at (p := ⟨w1.heap.size, 6, none⟩) (v := .slice E ys.length d) (by (repeat (first | with_reducible assumption | (simp [go_sem]; done) | with_reducible apply cell_alloc | with_reducible apply cell_drew | with_reducible apply cell_drewN | (with_reducible apply Ab.at; with_reducible assumption) | (with_reducible refine cell_set ?_ ?_; rotate_left; focus (first | (simp; done) | (simp; omega))) | (with_reducible refine cell_setb ?_ ?_; rotate_left; focus (first | omega | (simp only; omega) | (simp; omega))))))
      have hj0 : (0 : Int) ≤ (j : Int) := by omega
      have hj1 : (j : Int) ≤ (d : Int) := by omega
      have hj2 : (j : Int) ≤ (ys.length : Int) := by omega
      go_upto_region 8 with fail
      go_cut [8, 9] (fun v7 v8 wx => DevCut w ((w.alloc (.cells #[.slice A s.length ca, .slice B t.length cb, .int .i64 cap, .bool false, .int .i64 f, .int .i64 n] 26)).alloc (.cells #[.slice none 0 0, .slice none 0 0, .int .i64 0, .bool false, .int .i64 0, .int .i64 0] 26)) (Disk.drop ⟨s, t, cap, false⟩ (v : Int)) v7 v8 wx ∧ Ab w2 wx)
      case first =>
        refine wp_region_held_drew (by kernel_rfl) (S := fun w' => w'.cell? ⟨w1.heap.size, 0, none⟩ = some (.slice A s.length ca) ∧ w'.cell? ⟨w1.heap.size, 1, none⟩ = some (.slice B t.length cb) ∧ w'.cell? ⟨w1.heap.size, 2, none⟩ = some (.int .i64 cap) ∧ w'.cell? ⟨w1.heap.size, 3, none⟩ = some (.bool false) ∧ w'.cell? ⟨w1.heap.size, 4, none⟩ = some (.int .i64 f) ∧ w'.cell? ⟨w1.heap.size, 5, none⟩ = some (.int .i64 n) ∧ w'.cell? ⟨w1.heap.size, 6, none⟩ = some (.slice E ys.length d)) ?_ (fun hHeld => ?_)
        · (refine ⟨?_, ?_, ?_, ?_, ?_, ?_, ?_⟩ <;> (repeat (first | with_reducible assumption | (simp [go_sem]; done) | with_reducible apply cell_alloc | with_reducible apply cell_drew | with_reducible apply cell_drewN | (with_reducible apply Ab.at; with_reducible assumption) | (with_reducible refine cell_set ?_ ?_; rotate_left; focus (first | (simp; done) | (simp; omega))) | (with_reducible refine cell_setb ?_ ?_; rotate_left; focus (first | omega | (simp only; omega) | (simp; omega))))))
        (refine wpAnyH_take (i := 0) (v := ?_) rfl (by kernel_rfl) (by kernel_rfl) (by kernel_rfl) (fun _ _ _ h => h) (Or.inl ⟨by kernel_rfl, ?_⟩) (by assumption) ?_
         rotate_left
         · (intro w hSw; (try dsimp only at hSw); go_simp; (try with_reducible rfl))
         (try simp only [Act.put, List.setIfInBounds_toArray, List.set_cons_zero, List.set_cons_succ]))
        (refine wpAnyH_take (i := 1) (v := ?_) rfl (by kernel_rfl) (by kernel_rfl) (by kernel_rfl) (fun _ _ _ h => h) (Or.inl ⟨by kernel_rfl, ?_⟩) (by assumption) ?_
         rotate_left
         · (intro w hSw; (try dsimp only at hSw); go_simp; (try with_reducible rfl))
         (try simp only [Act.put, List.setIfInBounds_toArray, List.set_cons_zero, List.set_cons_succ]))
        (refine wpAnyH_take (i := 2) (v := ?_) rfl (by kernel_rfl) (by kernel_rfl) (by kernel_rfl) (fun _ _ _ h => h) (Or.inl ⟨by kernel_rfl, ?_⟩) (by assumption) ?_
         rotate_left
         · (intro w hSw; (try dsimp only at hSw); go_simp; (try with_reducible rfl))
         (try simp only [Act.put, List.setIfInBounds_toArray, List.set_cons_zero, List.set_cons_succ]))
        (refine wpAnyH_take (i := 3) (v := ?_) rfl (by kernel_rfl) (by kernel_rfl) (by kernel_rfl) (fun _ _ _ h => h) (Or.inl ⟨by kernel_rfl, ?_⟩) (by assumption) ?_
         rotate_left
         · (intro w hSw; (try dsimp only at hSw); go_simp; (try with_reducible rfl))
         (try simp only [Act.put, List.setIfInBounds_toArray, List.set_cons_zero, List.set_cons_succ]))
        (refine wpAnyH_take (i := 4) (v := ?_) rfl (by kernel_rfl) (by kernel_rfl) (by kernel_rfl) (fun _ _ _ h => h) (Or.inl ⟨by kernel_rfl, ?_⟩) (by assumption) ?_
         rotate_left
         · (intro w hSw; (try dsimp only at hSw); go_simp; (try with_reducible rfl))
         (try simp only [Act.put, List.setIfInBounds_toArray, List.set_cons_zero, List.set_cons_succ]))
        (refine wpAnyH_take (i := 5) (v := ?_) rfl (by kernel_rfl) (by kernel_rfl) (by kernel_rfl) (fun _ _ _ h => h) (Or.inl ⟨by kernel_rfl, ?_⟩) (by assumption) ?_
         rotate_left
         · (intro w hSw; (try dsimp only at hSw); go_simp; (try with_reducible rfl))
         (try simp only [Act.put, List.setIfInBounds_toArray, List.set_cons_zero, List.set_cons_succ]))
        (refine wpAnyH_take (i := 6) (v := ?_) rfl (by kernel_rfl) (by kernel_rfl) (by kernel_rfl) (fun _ _ _ h => h) (Or.inl ⟨by kernel_rfl, ?_⟩) (by assumption) ?_
         rotate_left
         · (intro w hSw; (try dsimp only at hSw); go_simp; (try with_reducible rfl))
         (try simp only [Act.put, List.setIfInBounds_toArray, List.set_cons_zero, List.set_cons_succ]))
        (refine wpAnyH_take (i := 7) (v := ?_) rfl (by kernel_rfl) (by kernel_rfl) (by kernel_rfl) (fun _ _ _ h => h) (Or.inl ⟨by kernel_rfl, ?_⟩) (by assumption) ?_
         rotate_left
         · (intro w hSw; (try dsimp only at hSw); go_simp; (try with_reducible rfl))
         (try simp only [Act.put, List.setIfInBounds_toArray, List.set_cons_zero, List.set_cons_succ]))
        (refine wpAnyH_take (i := 8) (v := ?_) rfl (by kernel_rfl) (by kernel_rfl) (by kernel_rfl) (fun _ _ _ h => h) (Or.inl ⟨by kernel_rfl, ?_⟩) (by assumption) ?_
         rotate_left
         · (intro w hSw; (try dsimp only at hSw); go_simp; (try with_reducible rfl))
         (try simp only [Act.put, List.setIfInBounds_toArray, List.set_cons_zero, List.set_cons_succ]))
        (refine wpAnyH_take (i := 9) (v := ?_) rfl (by kernel_rfl) (by kernel_rfl) (by kernel_rfl) (fun _ _ _ h => h) (Or.inl ⟨by kernel_rfl, ?_⟩) (by assumption) ?_
         rotate_left
         · (intro w hSw; (try dsimp only at hSw); go_simp; (try with_reducible rfl))
         (try simp only [Act.put, List.setIfInBounds_toArray, List.set_cons_zero, List.set_cons_succ]))
        (refine wpAnyH_take (i := 10) (v := ?_) rfl (by kernel_rfl) (by kernel_rfl) (by kernel_rfl) (fun _ _ _ h => h) (Or.inl ⟨by kernel_rfl, ?_⟩) (by assumption) ?_
         rotate_left
         · (intro w hSw; (try dsimp only at hSw); go_simp; (try with_reducible rfl))
         (try simp only [Act.put, List.setIfInBounds_toArray, List.set_cons_zero, List.set_cons_succ]))
        (refine wpAnyH_ready (rs := [11, 16]) (by kernel_rfl) (by simp) ?_)
        refine AllReadyH.cons rfl (fun K hK => ?_) (AllReadyH.cons rfl (fun K hK => ?_) AllReadyH.nil)
        · (go_simp
           ((go_at_call 44)
            refine (E0 _ (by repeat (first | with_reducible exact Ab.refl _ | with_reducible assumption | with_reducible refine Ab.drew ?_ | with_reducible refine Ab.drewN ?_ _ | with_reducible refine Ab.alloc ?_ _ | with_reducible refine Ab.trans ?_ (by assumption) | with_reducible refine Ab.set ?_ (by first | (simp; done) | omega | (simp; omega)) _))).mono ?_
            rintro e w8 ⟨rfl, rfl⟩)
           (try go_wp2_with fail)
           (refine hK.out _ _ ?_ (fun hHeld => ?_)
            · (try dsimp only); (refine ⟨?_, ?_, ?_, ?_, ?_, ?_, ?_⟩ <;> (repeat (first | with_reducible assumption | (simp [go_sem]; done) | with_reducible apply cell_alloc | with_reducible apply cell_drew | with_reducible apply cell_drewN | (with_reducible apply Ab.at; with_reducible assumption) | (with_reducible refine cell_set ?_ ?_; rotate_left; focus (first | (simp; done) | (simp; omega))) | (with_reducible refine cell_setb ?_ ?_; rotate_left; focus (first | omega | (simp only; omega) | (simp; omega))))))
            clear hK K
            (try simp only [Act.put, List.setIfInBounds_toArray, List.set_cons_zero, List.set_cons_succ])))
          (refine wpAnyH_ready (rs := [12, 16]) (by kernel_rfl) (by simp) ?_)
          refine AllReadyH.cons rfl (fun K hK => ?_) (AllReadyH.cons rfl (fun K hK => ?_) AllReadyH.nil)
          · (go_simp
             ((go_at_call 50)
              refine (drop_any A B ca cb s t cap false _ (hs.ab (by repeat (first | with_reducible exact Ab.refl _ | with_reducible assumption | with_reducible refine Ab.drew ?_ | with_reducible refine Ab.drewN ?_ _ | with_reducible refine Ab.alloc ?_ _ | with_reducible refine Ab.trans ?_ (by assumption) | with_reducible refine Ab.set ?_ (by first | (simp; done) | omega | (simp; omega)) _))) (ht.ab (by repeat (first | with_reducible exact Ab.refl _ | with_reducible assumption | with_reducible refine Ab.drew ?_ | with_reducible refine Ab.drewN ?_ _ | with_reducible refine Ab.alloc ?_ _ | with_reducible refine Ab.trans ?_ (by assumption) | with_reducible refine Ab.set ?_ (by first | (simp; done) | omega | (simp; omega)) _))) hca hcb ls lt (v : Int)).mono ?_
              rintro e w4 ⟨r, er, D, E4, cd, ce, hr, rfl, o1, o2, hb4⟩
              have z4 := hb4.size
              (try simp at z4)
              have hr := Lib.hid (show (r, er) = Disk.drop ⟨s, t, cap, false⟩ (v : Int) by exact hr.out)
              have o1 : OR 5 (w2.heap.size) w4 D cd r.s := OR.mono o1 (by first | (simp; done) | omega | (simp; omega))
              have o2 : OR 5 (w2.heap.size) w4 E4 ce r.t := OR.mono o2 (by first | (simp; done) | omega | (simp; omega))
              skip)
             (try go_wp2_with fail)
             (refine hK.out _ _ ?_ (fun hHeld => ?_)
              · (try dsimp only); (refine ⟨?_, ?_, ?_, ?_, ?_, ?_, ?_⟩ <;> (repeat (first | with_reducible assumption | (simp [go_sem]; done) | with_reducible apply cell_alloc | with_reducible apply cell_drew | with_reducible apply cell_drewN | (with_reducible apply Ab.at; with_reducible assumption) | (with_reducible refine cell_set ?_ ?_; rotate_left; focus (first | (simp; done) | (simp; omega))) | (with_reducible refine cell_setb ?_ ?_; rotate_left; focus (first | omega | (simp only; omega) | (simp; omega))))))
              clear hK K
              (try simp only [Act.put, List.setIfInBounds_toArray, List.set_cons_zero, List.set_cons_succ])))
            (refine wpAnyH_take (i := 13) (v := ?_) rfl (by kernel_rfl) (by kernel_rfl) (by kernel_rfl) (fun _ _ _ h => h) (Or.inl ⟨by kernel_rfl, ?_⟩) (by assumption) ?_
             rotate_left
             · (intro w hSw; (try dsimp only at hSw); go_simp; (try with_reducible rfl))
             (try simp only [Act.put, List.setIfInBounds_toArray, List.set_cons_zero, List.set_cons_succ]))
            (refine wpAnyH_take (i := 14) (v := ?_) rfl (by kernel_rfl) (by kernel_rfl) (by kernel_rfl) (fun _ _ _ h => h) (Or.inl ⟨by kernel_rfl, ?_⟩) (by assumption) ?_
             rotate_left
             · (intro w hSw; (try dsimp only at hSw); go_simp; (try with_reducible rfl))
             (try simp only [Act.put, List.setIfInBounds_toArray, List.set_cons_zero, List.set_cons_succ]))
            (refine wpAnyH_take (i := 15) (v := ?_) rfl (by kernel_rfl) (by kernel_rfl) (by kernel_rfl) (fun _ _ _ h => h) (Or.inl ⟨by kernel_rfl, ?_⟩) (by assumption) ?_
             rotate_left
             · (intro w hSw; (try dsimp only at hSw); go_simp; (try with_reducible rfl))
             (try simp only [Act.put, List.setIfInBounds_toArray, List.set_cons_zero, List.set_cons_succ]))
            (refine wpAnyH_ready (rs := [16]) (by kernel_rfl) (by simp) ?_)
            refine AllReadyH.cons rfl (fun K hK => ?_) AllReadyH.nil
            (go_simp
             (refine hK.out _ _ ?_ (fun hHeld => ?_)
              · (try dsimp only); (refine ⟨?_, ?_, ?_, ?_, ?_, ?_, ?_⟩ <;> (repeat (first | with_reducible assumption | (simp [go_sem]; done) | with_reducible apply cell_alloc | with_reducible apply cell_drew | with_reducible apply cell_drewN | (with_reducible apply Ab.at; with_reducible assumption) | (with_reducible refine cell_set ?_ ?_; rotate_left; focus (first | (simp; done) | (simp; omega))) | (with_reducible refine cell_setb ?_ ?_; rotate_left; focus (first | omega | (simp only; omega) | (simp; omega))))))
              clear hK K
              (try simp only [Act.put, List.setIfInBounds_toArray, List.set_cons_zero, List.set_cons_succ])))
            (refine wpAnyH_ready (rs := [17]) (by kernel_rfl) (by simp) ?_)
            refine AllReadyH.cons rfl (fun K hK => ?_) AllReadyH.nil
            (go_simp
             (refine hK.out _ _ ?_ (fun hHeld => ?_)
              · (try dsimp only); (refine ⟨?_, ?_, ?_, ?_, ?_, ?_, ?_⟩ <;> (repeat (first | with_reducible assumption | (simp [go_sem]; done) | with_reducible apply cell_alloc | with_reducible apply cell_drew | with_reducible apply cell_drewN | (with_reducible apply Ab.at; with_reducible assumption) | (with_reducible refine cell_set ?_ ?_; rotate_left; focus (first | (simp; done) | (simp; omega))) | (with_reducible refine cell_setb ?_ ?_; rotate_left; focus (first | omega | (simp only; omega) | (simp; omega))))))
              clear hK K
              (try simp only [Act.put, List.setIfInBounds_toArray, List.set_cons_zero, List.set_cons_succ])))
            (refine wpAnyH_ready (rs := [18]) (by kernel_rfl) (by simp) ?_)
            refine AllReadyH.cons rfl (fun K hK => ?_) AllReadyH.nil
            (go_simp
             (refine hK.out _ _ ?_ (fun hHeld => ?_)
              · (try dsimp only); (refine ⟨?_, ?_, ?_, ?_, ?_, ?_, ?_⟩ <;> (repeat (first | with_reducible assumption | (simp [go_sem]; done) | with_reducible apply cell_alloc | with_reducible apply cell_drew | with_reducible apply cell_drewN | (with_reducible apply Ab.at; with_reducible assumption) | (with_reducible refine cell_set ?_ ?_; rotate_left; focus (first | (simp; done) | (simp; omega))) | (with_reducible refine cell_setb ?_ ?_; rotate_left; focus (first | omega | (simp only; omega) | (simp; omega))))))
              clear hK K
              (try simp only [Act.put, List.setIfInBounds_toArray, List.set_cons_zero, List.set_cons_succ])))
            refine wpAnyH_done (by kernel_rfl) ?_ _
            go_wp2_with fail
            go_meet
            exact ⟨⟨_, r, er, D, E4, cd, ce, rfl, rfl, hr, (by first | (simp [go_sem]; done) | (simp [go_sem, *]; done)), (by first | (simp [go_sem]; done) | (simp [go_sem, *]; done)), (by first | (simp [go_sem]; done) | (simp [go_sem, *]; done)), (by first | (simp [go_sem]; done) | (simp [go_sem, *]; done)), OR.mono (lo := w2.heap.size) (by (repeat (first | with_reducible exact OR.none_ | with_reducible assumption | with_reducible refine OR.drew ?_ | with_reducible refine OR.drewN ?_ _ | with_reducible refine OR.alloc ?_ _ | (with_reducible refine OR.setNew ?_ _ ?_ _; rotate_left; focus (first | (simp; done) | omega | (simp; omega))) | with_reducible refine OR.set ?_ (by first | (simp; done) | omega | (simp; omega)) _ | (with_reducible refine OR.keep ?_ (by assumption))))) (by first | (simp; done) | omega | (simp; omega)), OR.mono (lo := w2.heap.size) (by (repeat (first | with_reducible exact OR.none_ | with_reducible assumption | with_reducible refine OR.drew ?_ | with_reducible refine OR.drewN ?_ _ | with_reducible refine OR.alloc ?_ _ | (with_reducible refine OR.setNew ?_ _ ?_ _; rotate_left; focus (first | (simp; done) | omega | (simp; omega))) | with_reducible refine OR.set ?_ (by first | (simp; done) | omega | (simp; omega)) _ | (with_reducible refine OR.keep ?_ (by assumption))))) (by first | (simp; done) | omega | (simp; omega)), (by first | (simp; done) | omega | (simp; omega)), (by repeat (first | with_reducible exact Ab.refl _ | with_reducible assumption | with_reducible refine Ab.drew ?_ | with_reducible refine Ab.drewN ?_ _ | with_reducible refine Ab.alloc ?_ _ | with_reducible refine Ab.trans ?_ (by assumption) | with_reducible refine Ab.set ?_ (by first | (simp; done) | omega | (simp; omega)) _))⟩, (by repeat (first | with_reducible exact Ab.refl _ | with_reducible assumption | with_reducible refine Ab.drew ?_ | with_reducible refine Ab.drewN ?_ _ | with_reducible refine Ab.alloc ?_ _ | with_reducible refine Ab.trans ?_ (by assumption) | with_reducible refine Ab.set ?_ (by first | (simp; done) | omega | (simp; omega)) _))⟩
          · (go_simp
             (refine hK.out _ _ ?_ (fun hHeld => ?_)
              · (try dsimp only); (refine ⟨?_, ?_, ?_, ?_, ?_, ?_, ?_⟩ <;> (repeat (first | with_reducible assumption | (simp [go_sem]; done) | with_reducible apply cell_alloc | with_reducible apply cell_drew | with_reducible apply cell_drewN | (with_reducible apply Ab.at; with_reducible assumption) | (with_reducible refine cell_set ?_ ?_; rotate_left; focus (first | (simp; done) | (simp; omega))) | (with_reducible refine cell_setb ?_ ?_; rotate_left; focus (first | omega | (simp only; omega) | (simp; omega))))))
              clear hK K
              (try simp only [Act.put, List.setIfInBounds_toArray, List.set_cons_zero, List.set_cons_succ])))
            (refine wpAnyH_ready (rs := [12]) (by kernel_rfl) (by simp) ?_)
            refine AllReadyH.cons rfl (fun K hK => ?_) AllReadyH.nil
            (go_simp
             ((go_at_call 50)
              refine (drop_any A B ca cb s t cap false _ (hs.ab (by repeat (first | with_reducible exact Ab.refl _ | with_reducible assumption | with_reducible refine Ab.drew ?_ | with_reducible refine Ab.drewN ?_ _ | with_reducible refine Ab.alloc ?_ _ | with_reducible refine Ab.trans ?_ (by assumption) | with_reducible refine Ab.set ?_ (by first | (simp; done) | omega | (simp; omega)) _))) (ht.ab (by repeat (first | with_reducible exact Ab.refl _ | with_reducible assumption | with_reducible refine Ab.drew ?_ | with_reducible refine Ab.drewN ?_ _ | with_reducible refine Ab.alloc ?_ _ | with_reducible refine Ab.trans ?_ (by assumption) | with_reducible refine Ab.set ?_ (by first | (simp; done) | omega | (simp; omega)) _))) hca hcb ls lt (v : Int)).mono ?_
              rintro e w4 ⟨r, er, D, E4, cd, ce, hr, rfl, o1, o2, hb4⟩
              have z4 := hb4.size
              (try simp at z4)
              have hr := Lib.hid (show (r, er) = Disk.drop ⟨s, t, cap, false⟩ (v : Int) by exact hr.out)
              have o1 : OR 5 (w2.heap.size + 1) w4 D cd r.s := OR.mono o1 (by first | (simp; done) | omega | (simp; omega))
              have o2 : OR 5 (w2.heap.size + 1) w4 E4 ce r.t := OR.mono o2 (by first | (simp; done) | omega | (simp; omega))
              have yq0 := hb4.at (p := ⟨w2.heap.size, 0, none⟩) (v := .slice none 0 0) (by simp [go_sem]); have yq1 := hb4.at (p := ⟨w2.heap.size, 1, none⟩) (v := .slice none 0 0) (by simp [go_sem]); have yq2 := hb4.at (p := ⟨w2.heap.size, 2, none⟩) (v := .int .i64 0) (by simp [go_sem]); have yq3 := hb4.at (p := ⟨w2.heap.size, 3, none⟩) (v := .bool false) (by simp [go_sem])
              have yr0 : w4.frozen? ⟨w2.heap.size, 0, none⟩ = false := (hb4.frozen (p := ⟨w2.heap.size, 0, none⟩) (by simp)).trans (by simp [go_sem]); have yr1 : w4.frozen? ⟨w2.heap.size, 1, none⟩ = false := (hb4.frozen (p := ⟨w2.heap.size, 1, none⟩) (by simp)).trans (by simp [go_sem]); have yr2 : w4.frozen? ⟨w2.heap.size, 2, none⟩ = false := (hb4.frozen (p := ⟨w2.heap.size, 2, none⟩) (by simp)).trans (by simp [go_sem]); have yr3 : w4.frozen? ⟨w2.heap.size, 3, none⟩ = false := (hb4.frozen (p := ⟨w2.heap.size, 3, none⟩) (by simp)).trans (by simp [go_sem]))
             (try go_wp2_with fail)
             (refine hK.out _ _ ?_ (fun hHeld => ?_)
              · (try dsimp only); (refine ⟨?_, ?_, ?_, ?_, ?_, ?_, ?_⟩ <;> (repeat (first | with_reducible assumption | (simp [go_sem]; done) | with_reducible apply cell_alloc | with_reducible apply cell_drew | with_reducible apply cell_drewN | (with_reducible apply Ab.at; with_reducible assumption) | (with_reducible refine cell_set ?_ ?_; rotate_left; focus (first | (simp; done) | (simp; omega))) | (with_reducible refine cell_setb ?_ ?_; rotate_left; focus (first | omega | (simp only; omega) | (simp; omega))))))
              clear hK K
              (try simp only [Act.put, List.setIfInBounds_toArray, List.set_cons_zero, List.set_cons_succ])))
            (refine wpAnyH_take (i := 13) (v := ?_) rfl (by kernel_rfl) (by kernel_rfl) (by kernel_rfl) (fun _ _ _ h => h) (Or.inl ⟨by kernel_rfl, ?_⟩) (by assumption) ?_
             rotate_left
             · (intro w hSw; (try dsimp only at hSw); go_simp; (try with_reducible rfl))
             (try simp only [Act.put, List.setIfInBounds_toArray, List.set_cons_zero, List.set_cons_succ]))
            (refine wpAnyH_take (i := 14) (v := ?_) rfl (by kernel_rfl) (by kernel_rfl) (by kernel_rfl) (fun _ _ _ h => h) (Or.inl ⟨by kernel_rfl, ?_⟩) (by assumption) ?_
             rotate_left
             · (intro w hSw; (try dsimp only at hSw); go_simp; (try with_reducible rfl))
             (try simp only [Act.put, List.setIfInBounds_toArray, List.set_cons_zero, List.set_cons_succ]))
            (refine wpAnyH_take (i := 15) (v := ?_) rfl (by kernel_rfl) (by kernel_rfl) (by kernel_rfl) (fun _ _ _ h => h) (Or.inl ⟨by kernel_rfl, ?_⟩) (by assumption) ?_
             rotate_left
             · (intro w hSw; (try dsimp only at hSw); go_simp; (try with_reducible rfl))
             (try simp only [Act.put, List.setIfInBounds_toArray, List.set_cons_zero, List.set_cons_succ]))
            (refine wpAnyH_ready (rs := [17]) (by kernel_rfl) (by simp) ?_)
            refine AllReadyH.cons rfl (fun K hK => ?_) AllReadyH.nil
            (go_simp
             (refine hK.out _ _ ?_ (fun hHeld => ?_)
              · (try dsimp only); (refine ⟨?_, ?_, ?_, ?_, ?_, ?_, ?_⟩ <;> (repeat (first | with_reducible assumption | (simp [go_sem]; done) | with_reducible apply cell_alloc | with_reducible apply cell_drew | with_reducible apply cell_drewN | (with_reducible apply Ab.at; with_reducible assumption) | (with_reducible refine cell_set ?_ ?_; rotate_left; focus (first | (simp; done) | (simp; omega))) | (with_reducible refine cell_setb ?_ ?_; rotate_left; focus (first | omega | (simp only; omega) | (simp; omega))))))
              clear hK K
              (try simp only [Act.put, List.setIfInBounds_toArray, List.set_cons_zero, List.set_cons_succ])))
            (refine wpAnyH_ready (rs := [18]) (by kernel_rfl) (by simp) ?_)
            refine AllReadyH.cons rfl (fun K hK => ?_) AllReadyH.nil
            (go_simp
             (refine hK.out _ _ ?_ (fun hHeld => ?_)
              · (try dsimp only); (refine ⟨?_, ?_, ?_, ?_, ?_, ?_, ?_⟩ <;> (repeat (first | with_reducible assumption | (simp [go_sem]; done) | with_reducible apply cell_alloc | with_reducible apply cell_drew | with_reducible apply cell_drewN | (with_reducible apply Ab.at; with_reducible assumption) | (with_reducible refine cell_set ?_ ?_; rotate_left; focus (first | (simp; done) | (simp; omega))) | (with_reducible refine cell_setb ?_ ?_; rotate_left; focus (first | omega | (simp only; omega) | (simp; omega))))))
              clear hK K
              (try simp only [Act.put, List.setIfInBounds_toArray, List.set_cons_zero, List.set_cons_succ])))
            refine wpAnyH_done (by kernel_rfl) ?_ _
            go_wp2_with fail
            go_meet
            exact ⟨⟨_, r, er, D, E4, cd, ce, rfl, rfl, hr, (by first | (simp [go_sem]; done) | (simp [go_sem, *]; done)), (by first | (simp [go_sem]; done) | (simp [go_sem, *]; done)), (by first | (simp [go_sem]; done) | (simp [go_sem, *]; done)), (by first | (simp [go_sem]; done) | (simp [go_sem, *]; done)), OR.mono (lo := w2.heap.size + 1) (by (repeat (first | with_reducible exact OR.none_ | with_reducible assumption | with_reducible refine OR.drew ?_ | with_reducible refine OR.drewN ?_ _ | with_reducible refine OR.alloc ?_ _ | (with_reducible refine OR.setNew ?_ _ ?_ _; rotate_left; focus (first | (simp; done) | omega | (simp; omega))) | with_reducible refine OR.set ?_ (by first | (simp; done) | omega | (simp; omega)) _ | (with_reducible refine OR.keep ?_ (by assumption))))) (by first | (simp; done) | omega | (simp; omega)), OR.mono (lo := w2.heap.size + 1) (by (repeat (first | with_reducible exact OR.none_ | with_reducible assumption | with_reducible refine OR.drew ?_ | with_reducible refine OR.drewN ?_ _ | with_reducible refine OR.alloc ?_ _ | (with_reducible refine OR.setNew ?_ _ ?_ _; rotate_left; focus (first | (simp; done) | omega | (simp; omega))) | with_reducible refine OR.set ?_ (by first | (simp; done) | omega | (simp; omega)) _ | (with_reducible refine OR.keep ?_ (by assumption))))) (by first | (simp; done) | omega | (simp; omega)), (by first | (simp; done) | omega | (simp; omega)), (by repeat (first | with_reducible exact Ab.refl _ | with_reducible assumption | with_reducible refine Ab.drew ?_ | with_reducible refine Ab.drewN ?_ _ | with_reducible refine Ab.alloc ?_ _ | with_reducible refine Ab.trans ?_ (by assumption) | with_reducible refine Ab.set ?_ (by first | (simp; done) | omega | (simp; omega)) _))⟩, (by repeat (first | with_reducible exact Ab.refl _ | with_reducible assumption | with_reducible refine Ab.drew ?_ | with_reducible refine Ab.drewN ?_ _ | with_reducible refine Ab.alloc ?_ _ | with_reducible refine Ab.trans ?_ (by assumption) | with_reducible refine Ab.set ?_ (by first | (simp; done) | omega | (simp; omega)) _))⟩
        · (go_simp
           (refine hK.out _ _ ?_ (fun hHeld => ?_)
            · (try dsimp only); (refine ⟨?_, ?_, ?_, ?_, ?_, ?_, ?_⟩ <;> (repeat (first | with_reducible assumption | (simp [go_sem]; done) | with_reducible apply cell_alloc | with_reducible apply cell_drew | with_reducible apply cell_drewN | (with_reducible apply Ab.at; with_reducible assumption) | (with_reducible refine cell_set ?_ ?_; rotate_left; focus (first | (simp; done) | (simp; omega))) | (with_reducible refine cell_setb ?_ ?_; rotate_left; focus (first | omega | (simp only; omega) | (simp; omega))))))
            clear hK K
            (try simp only [Act.put, List.setIfInBounds_toArray, List.set_cons_zero, List.set_cons_succ])))
          (refine wpAnyH_ready (rs := [11]) (by kernel_rfl) (by simp) ?_)
          refine AllReadyH.cons rfl (fun K hK => ?_) AllReadyH.nil
          (go_simp
           ((go_at_call 44)
            refine (E0 _ (by repeat (first | with_reducible exact Ab.refl _ | with_reducible assumption | with_reducible refine Ab.drew ?_ | with_reducible refine Ab.drewN ?_ _ | with_reducible refine Ab.alloc ?_ _ | with_reducible refine Ab.trans ?_ (by assumption) | with_reducible refine Ab.set ?_ (by first | (simp; done) | omega | (simp; omega)) _))).mono ?_
            rintro e w8 ⟨rfl, rfl⟩)
           (try go_wp2_with fail)
           (refine hK.out _ _ ?_ (fun hHeld => ?_)
            · (try dsimp only); (refine ⟨?_, ?_, ?_, ?_, ?_, ?_, ?_⟩ <;> (repeat (first | with_reducible assumption | (simp [go_sem]; done) | with_reducible apply cell_alloc | with_reducible apply cell_drew | with_reducible apply cell_drewN | (with_reducible apply Ab.at; with_reducible assumption) | (with_reducible refine cell_set ?_ ?_; rotate_left; focus (first | (simp; done) | (simp; omega))) | (with_reducible refine cell_setb ?_ ?_; rotate_left; focus (first | omega | (simp only; omega) | (simp; omega))))))
            clear hK K
            (try simp only [Act.put, List.setIfInBounds_toArray, List.set_cons_zero, List.set_cons_succ])))
          (refine wpAnyH_ready (rs := [12]) (by kernel_rfl) (by simp) ?_)
          refine AllReadyH.cons rfl (fun K hK => ?_) AllReadyH.nil
          (go_simp
           ((go_at_call 50)
            refine (drop_any A B ca cb s t cap false _ (hs.ab (by repeat (first | with_reducible exact Ab.refl _ | with_reducible assumption | with_reducible refine Ab.drew ?_ | with_reducible refine Ab.drewN ?_ _ | with_reducible refine Ab.alloc ?_ _ | with_reducible refine Ab.trans ?_ (by assumption) | with_reducible refine Ab.set ?_ (by first | (simp; done) | omega | (simp; omega)) _))) (ht.ab (by repeat (first | with_reducible exact Ab.refl _ | with_reducible assumption | with_reducible refine Ab.drew ?_ | with_reducible refine Ab.drewN ?_ _ | with_reducible refine Ab.alloc ?_ _ | with_reducible refine Ab.trans ?_ (by assumption) | with_reducible refine Ab.set ?_ (by first | (simp; done) | omega | (simp; omega)) _))) hca hcb ls lt (v : Int)).mono ?_
            rintro e w4 ⟨r, er, D, E4, cd, ce, hr, rfl, o1, o2, hb4⟩
            have z4 := hb4.size
            (try simp at z4)
            have hr := Lib.hid (show (r, er) = Disk.drop ⟨s, t, cap, false⟩ (v : Int) by exact hr.out)
            have o1 : OR 5 (w2.heap.size + 1) w4 D cd r.s := OR.mono o1 (by first | (simp; done) | omega | (simp; omega))
            have o2 : OR 5 (w2.heap.size + 1) w4 E4 ce r.t := OR.mono o2 (by first | (simp; done) | omega | (simp; omega))
            have yq0 := hb4.at (p := ⟨w2.heap.size, 0, none⟩) (v := .slice none 0 0) (by simp [go_sem]); have yq1 := hb4.at (p := ⟨w2.heap.size, 1, none⟩) (v := .slice none 0 0) (by simp [go_sem]); have yq2 := hb4.at (p := ⟨w2.heap.size, 2, none⟩) (v := .int .i64 0) (by simp [go_sem]); have yq3 := hb4.at (p := ⟨w2.heap.size, 3, none⟩) (v := .bool false) (by simp [go_sem])
            have yr0 : w4.frozen? ⟨w2.heap.size, 0, none⟩ = false := (hb4.frozen (p := ⟨w2.heap.size, 0, none⟩) (by simp)).trans (by simp [go_sem]); have yr1 : w4.frozen? ⟨w2.heap.size, 1, none⟩ = false := (hb4.frozen (p := ⟨w2.heap.size, 1, none⟩) (by simp)).trans (by simp [go_sem]); have yr2 : w4.frozen? ⟨w2.heap.size, 2, none⟩ = false := (hb4.frozen (p := ⟨w2.heap.size, 2, none⟩) (by simp)).trans (by simp [go_sem]); have yr3 : w4.frozen? ⟨w2.heap.size, 3, none⟩ = false := (hb4.frozen (p := ⟨w2.heap.size, 3, none⟩) (by simp)).trans (by simp [go_sem]))
           (try go_wp2_with fail)
           (refine hK.out _ _ ?_ (fun hHeld => ?_)
            · (try dsimp only); (refine ⟨?_, ?_, ?_, ?_, ?_, ?_, ?_⟩ <;> (repeat (first | with_reducible assumption | (simp [go_sem]; done) | with_reducible apply cell_alloc | with_reducible apply cell_drew | with_reducible apply cell_drewN | (with_reducible apply Ab.at; with_reducible assumption) | (with_reducible refine cell_set ?_ ?_; rotate_left; focus (first | (simp; done) | (simp; omega))) | (with_reducible refine cell_setb ?_ ?_; rotate_left; focus (first | omega | (simp only; omega) | (simp; omega))))))
            clear hK K
            (try simp only [Act.put, List.setIfInBounds_toArray, List.set_cons_zero, List.set_cons_succ])))
          (refine wpAnyH_take (i := 13) (v := ?_) rfl (by kernel_rfl) (by kernel_rfl) (by kernel_rfl) (fun _ _ _ h => h) (Or.inl ⟨by kernel_rfl, ?_⟩) (by assumption) ?_
           rotate_left
           · (intro w hSw; (try dsimp only at hSw); go_simp; (try with_reducible rfl))
           (try simp only [Act.put, List.setIfInBounds_toArray, List.set_cons_zero, List.set_cons_succ]))
          (refine wpAnyH_take (i := 14) (v := ?_) rfl (by kernel_rfl) (by kernel_rfl) (by kernel_rfl) (fun _ _ _ h => h) (Or.inl ⟨by kernel_rfl, ?_⟩) (by assumption) ?_
           rotate_left
           · (intro w hSw; (try dsimp only at hSw); go_simp; (try with_reducible rfl))
           (try simp only [Act.put, List.setIfInBounds_toArray, List.set_cons_zero, List.set_cons_succ]))
          (refine wpAnyH_take (i := 15) (v := ?_) rfl (by kernel_rfl) (by kernel_rfl) (by kernel_rfl) (fun _ _ _ h => h) (Or.inl ⟨by kernel_rfl, ?_⟩) (by assumption) ?_
           rotate_left
           · (intro w hSw; (try dsimp only at hSw); go_simp; (try with_reducible rfl))
           (try simp only [Act.put, List.setIfInBounds_toArray, List.set_cons_zero, List.set_cons_succ]))
          (refine wpAnyH_ready (rs := [17]) (by kernel_rfl) (by simp) ?_)
          refine AllReadyH.cons rfl (fun K hK => ?_) AllReadyH.nil
          (go_simp
           (refine hK.out _ _ ?_ (fun hHeld => ?_)
            · (try dsimp only); (refine ⟨?_, ?_, ?_, ?_, ?_, ?_, ?_⟩ <;> (repeat (first | with_reducible assumption | (simp [go_sem]; done) | with_reducible apply cell_alloc | with_reducible apply cell_drew | with_reducible apply cell_drewN | (with_reducible apply Ab.at; with_reducible assumption) | (with_reducible refine cell_set ?_ ?_; rotate_left; focus (first | (simp; done) | (simp; omega))) | (with_reducible refine cell_setb ?_ ?_; rotate_left; focus (first | omega | (simp only; omega) | (simp; omega))))))
            clear hK K
            (try simp only [Act.put, List.setIfInBounds_toArray, List.set_cons_zero, List.set_cons_succ])))
          (refine wpAnyH_ready (rs := [18]) (by kernel_rfl) (by simp) ?_)
          refine AllReadyH.cons rfl (fun K hK => ?_) AllReadyH.nil
          (go_simp
           (refine hK.out _ _ ?_ (fun hHeld => ?_)
            · (try dsimp only); (refine ⟨?_, ?_, ?_, ?_, ?_, ?_, ?_⟩ <;> (repeat (first | with_reducible assumption | (simp [go_sem]; done) | with_reducible apply cell_alloc | with_reducible apply cell_drew | with_reducible apply cell_drewN | (with_reducible apply Ab.at; with_reducible assumption) | (with_reducible refine cell_set ?_ ?_; rotate_left; focus (first | (simp; done) | (simp; omega))) | (with_reducible refine cell_setb ?_ ?_; rotate_left; focus (first | omega | (simp only; omega) | (simp; omega))))))
            clear hK K
            (try simp only [Act.put, List.setIfInBounds_toArray, List.set_cons_zero, List.set_cons_succ])))
          refine wpAnyH_done (by kernel_rfl) ?_ _
          go_wp2_with fail
          go_meet
          exact ⟨⟨_, r, er, D, E4, cd, ce, rfl, rfl, hr, (by first | (simp [go_sem]; done) | (simp [go_sem, *]; done)), (by first | (simp [go_sem]; done) | (simp [go_sem, *]; done)), (by first | (simp [go_sem]; done) | (simp [go_sem, *]; done)), (by first | (simp [go_sem]; done) | (simp [go_sem, *]; done)), OR.mono (lo := w2.heap.size + 1) (by (repeat (first | with_reducible exact OR.none_ | with_reducible assumption | with_reducible refine OR.drew ?_ | with_reducible refine OR.drewN ?_ _ | with_reducible refine OR.alloc ?_ _ | (with_reducible refine OR.setNew ?_ _ ?_ _; rotate_left; focus (first | (simp; done) | omega | (simp; omega))) | with_reducible refine OR.set ?_ (by first | (simp; done) | omega | (simp; omega)) _ | (with_reducible refine OR.keep ?_ (by assumption))))) (by first | (simp; done) | omega | (simp; omega)), OR.mono (lo := w2.heap.size + 1) (by (repeat (first | with_reducible exact OR.none_ | with_reducible assumption | with_reducible refine OR.drew ?_ | with_reducible refine OR.drewN ?_ _ | with_reducible refine OR.alloc ?_ _ | (with_reducible refine OR.setNew ?_ _ ?_ _; rotate_left; focus (first | (simp; done) | omega | (simp; omega))) | with_reducible refine OR.set ?_ (by first | (simp; done) | omega | (simp; omega)) _ | (with_reducible refine OR.keep ?_ (by assumption))))) (by first | (simp; done) | omega | (simp; omega)), (by first | (simp; done) | omega | (simp; omega)), (by repeat (first | with_reducible exact Ab.refl _ | with_reducible assumption | with_reducible refine Ab.drew ?_ | with_reducible refine Ab.drewN ?_ _ | with_reducible refine Ab.alloc ?_ _ | with_reducible refine Ab.trans ?_ (by assumption) | with_reducible refine Ab.set ?_ (by first | (simp; done) | omega | (simp; omega)) _))⟩, (by repeat (first | with_reducible exact Ab.refl _ | with_reducible assumption | with_reducible refine Ab.drew ?_ | with_reducible refine Ab.drewN ?_ _ | with_reducible refine Ab.alloc ?_ _ | with_reducible refine Ab.trans ?_ (by assumption) | with_reducible refine Ab.set ?_ (by first | (simp; done) | omega | (simp; omega)) _))⟩
      obtain ⟨⟨P, r, er, D, E4, cd, ce, rfl, rfl, hr, v0, v1, v2, v3, o1, o2, hPw, hbc⟩, hbd⟩ := hcut
      have zq0 := hbc.at (p := ⟨w.heap.size + 1, 0, none⟩) (v := .slice none 0 0) (by simp [go_sem]); have zq1 := hbc.at (p := ⟨w.heap.size + 1, 1, none⟩) (v := .slice none 0 0) (by simp [go_sem]); have zq2 := hbc.at (p := ⟨w.heap.size + 1, 2, none⟩) (v := .int .i64 0) (by simp [go_sem]); have zq3 := hbc.at (p := ⟨w.heap.size + 1, 3, none⟩) (v := .bool false) (by simp [go_sem]); have zq4 := hbc.at (p := ⟨w.heap.size + 1, 4, none⟩) (v := .int .i64 0) (by simp [go_sem]); have zq5 := hbc.at (p := ⟨w.heap.size + 1, 5, none⟩) (v := .int .i64 0) (by simp [go_sem])
      have zr0 : wc.frozen? ⟨w.heap.size + 1, 0, none⟩ = false := (hbc.frozen (p := ⟨w.heap.size + 1, 0, none⟩) (by simp)).trans (by simp [go_sem]); have zr1 : wc.frozen? ⟨w.heap.size + 1, 1, none⟩ = false := (hbc.frozen (p := ⟨w.heap.size + 1, 1, none⟩) (by simp)).trans (by simp [go_sem]); have zr2 : wc.frozen? ⟨w.heap.size + 1, 2, none⟩ = false := (hbc.frozen (p := ⟨w.heap.size + 1, 2, none⟩) (by simp)).trans (by simp [go_sem]); have zr3 : wc.frozen? ⟨w.heap.size + 1, 3, none⟩ = false := (hbc.frozen (p := ⟨w.heap.size + 1, 3, none⟩) (by simp)).trans (by simp [go_sem]); have zr4 : wc.frozen? ⟨w.heap.size + 1, 4, none⟩ = false := (hbc.frozen (p := ⟨w.heap.size + 1, 4, none⟩) (by simp)).trans (by simp [go_sem]); have zr5 : wc.frozen? ⟨w.heap.size + 1, 5, none⟩ = false := (hbc.frozen (p := ⟨w.heap.size + 1, 5, none⟩) (by simp)).trans (by simp [go_sem])
      obtain ⟨xq0, xq1, xq2, xq3, xq4, xq5⟩ := cells6 hbd (b := w1.heap.size) (v0 := .slice A s.length ca) (v1 := .slice B t.length cb) (v2 := .int .i64 cap) (v3 := .bool false) (v4 := .int .i64 f) (v5 := .int .i64 n) (by first | (simp [go_sem]; done) | (refine ⟨?_, ?_, ?_, ?_, ?_, ?_⟩ <;> assumption))
      have xq6 := hbd.at (p := ⟨w1.heap.size, 6, none⟩) (v := .slice E ys.length d) (by (repeat (first | with_reducible assumption | (simp [go_sem]; done) | with_reducible apply cell_alloc | with_reducible apply cell_drew | with_reducible apply cell_drewN | (with_reducible apply Ab.at; with_reducible assumption) | (with_reducible refine cell_set ?_ ?_; rotate_left; focus (first | (simp; done) | (simp; omega))) | (with_reducible refine cell_setb ?_ ?_; rotate_left; focus (first | omega | (simp only; omega) | (simp; omega))))))
      have hr1 := Lib.hid (Prod.mk.inj (hr.out.trans HDD.out)).1
      obtain rfl : er = 0 := (Prod.mk.inj (hr.out.trans HDD.out)).2
      clear hr
      go_wp2
      refine bodyPost_ret (v := .tuple #[.agg #[.slice D (⟨r, m, n⟩ : Wal.Log).dev.s.length cd, .slice E4 (⟨r, m, n⟩ : Wal.Log).dev.t.length ce, .int .i64 (⟨r, m, n⟩ : Wal.Log).dev.cap, .bool (⟨r, m, n⟩ : Wal.Log).dev.down, .int .i64 (⟨r, m, n⟩ : Wal.Log).first, .int .i64 (⟨r, m, n⟩ : Wal.Log).next], .int .i64 0]) (by simp [results, Try.results15, go_sem, *]) rfl ?_
      exact ⟨⟨r, m, n⟩, 0, D, E4, cd, ce, Lib.hid (by rw [hr1.out, HM.out]), rfl, OR.mono (lo := w.heap.size + 1 + 1) (by (repeat (first | with_reducible exact OR.none_ | with_reducible assumption | with_reducible refine OR.drew ?_ | with_reducible refine OR.drewN ?_ _ | with_reducible refine OR.alloc ?_ _ | (with_reducible refine OR.setNew ?_ _ ?_ _; rotate_left; focus (first | (simp; done) | omega | (simp; omega))) | with_reducible refine OR.set ?_ (by first | (simp; done) | omega | (simp; omega)) _ | (with_reducible refine OR.keep ?_ (by assumption))))) (by first | (simp; done) | omega | (simp; omega)), OR.mono (lo := w.heap.size + 1 + 1) (by (repeat (first | with_reducible exact OR.none_ | with_reducible assumption | with_reducible refine OR.drew ?_ | with_reducible refine OR.drewN ?_ _ | with_reducible refine OR.alloc ?_ _ | (with_reducible refine OR.setNew ?_ _ ?_ _; rotate_left; focus (first | (simp; done) | omega | (simp; omega))) | with_reducible refine OR.set ?_ (by first | (simp; done) | omega | (simp; omega)) _ | (with_reducible refine OR.keep ?_ (by assumption))))) (by first | (simp; done) | omega | (simp; omega)), (by repeat (first | with_reducible exact Ab.refl _ | with_reducible assumption | with_reducible refine Ab.drew ?_ | with_reducible refine Ab.drewN ?_ _ | with_reducible refine Ab.alloc ?_ _ | with_reducible refine Ab.trans ?_ (by assumption) | with_reducible refine Ab.set ?_ (by first | (simp; done) | omega | (simp; omega)) _))⟩
end Go.Proofs.Ytehagdpcegpbjaa
