/- Records of the reference of layer 4, walked. Own work. -/
import Derived.Test.YtehagdpcegpbjaaWFunE
import Derived.Test.YtehagdpcegpbjaaWRefB
set_option linter.unusedVariables false
set_option linter.unusedSimpArgs false
namespace Go.Proofs.Ytehagdpcegpbjaa
open Go.RowKit

set_option maxHeartbeats 1600000 in
theorem refrecords_any (A B : Option Addr) (ca cb : Nat) (s t : List UInt8) (cap : Int) (dn : Bool) (f n : Int) (w : World) (hs : RB w 0 A s) (ht : RB w 0 B t) (hca : s.length ≤ ca) (hcb : t.length ≤ cb) (ls : s.length ≤ 1000000) (lt : t.length ≤ 1000000) (g : Option (List Frame.Rec)) (hi : Wal.Is ⟨⟨s, t, cap, dn⟩, f, n⟩ g) (m : Int) :
    Calls Try.prog 33 #[.agg #[.slice A s.length ca, .slice B t.length cb, .int .i64 cap, .bool dn, .int .i64 f, .int .i64 n], .int .i64 m] w (RetRecsE w (Wal.records ⟨⟨s, t, cap, dn⟩, f, n⟩ m g)) := by
  cases g with
  | none =>
    go_enter Try.func33, Try.ntmps33
    go_wp2_with fail
    refine (refwcheck_any A B ca cb s t cap dn f n _ (hs.ab (by repeat (first | with_reducible exact Ab.refl _ | with_reducible assumption | with_reducible refine Ab.drew ?_ | with_reducible refine Ab.drewN ?_ _ | with_reducible refine Ab.alloc ?_ _ | with_reducible refine Ab.trans ?_ (by assumption) | with_reducible refine Ab.set ?_ (by first | (simp; done) | omega | (simp; omega)) _))) (ht.ab (by repeat (first | with_reducible exact Ab.refl _ | with_reducible assumption | with_reducible refine Ab.drew ?_ | with_reducible refine Ab.drewN ?_ _ | with_reducible refine Ab.alloc ?_ _ | with_reducible refine Ab.trans ?_ (by assumption) | with_reducible refine Ab.set ?_ (by first | (simp; done) | omega | (simp; omega)) _))) hca hcb ls lt none hi).mono ?_
    rintro e w1 ⟨r, hr, rfl, hw1⟩
    obtain rfl : r = 8 := hr.out
    clear hr
    obtain ⟨bq0, bq1, bq2, bq3, bq4, bq5⟩ := cells6 hw1 (b := w.heap.size) (v0 := .slice A s.length ca) (v1 := .slice B t.length cb) (v2 := .int .i64 cap) (v3 := .bool dn) (v4 := .int .i64 f) (v5 := .int .i64 n) (by first | (simp [go_sem]; done) | (refine ⟨?_, ?_, ?_, ?_, ?_, ?_⟩ <;> assumption))
    go_wp2_with fail
    refine (refwcheck_any A B ca cb s t cap dn f n _ (hs.ab (by repeat (first | with_reducible exact Ab.refl _ | with_reducible assumption | with_reducible refine Ab.drew ?_ | with_reducible refine Ab.drewN ?_ _ | with_reducible refine Ab.alloc ?_ _ | with_reducible refine Ab.trans ?_ (by assumption) | with_reducible refine Ab.set ?_ (by first | (simp; done) | omega | (simp; omega)) _))) (ht.ab (by repeat (first | with_reducible exact Ab.refl _ | with_reducible assumption | with_reducible refine Ab.drew ?_ | with_reducible refine Ab.drewN ?_ _ | with_reducible refine Ab.alloc ?_ _ | with_reducible refine Ab.trans ?_ (by assumption) | with_reducible refine Ab.set ?_ (by first | (simp; done) | omega | (simp; omega)) _))) hca hcb ls lt none hi).mono ?_
    rintro e w2 ⟨r, hr, rfl, hw2⟩
    obtain rfl : r = 8 := hr.out
    clear hr
    go_wp2
    go_ret2
    exact RetRecsE.zero rfl (by repeat (first | with_reducible exact Ab.refl _ | with_reducible assumption | with_reducible refine Ab.drew ?_ | with_reducible refine Ab.drewN ?_ _ | with_reducible refine Ab.alloc ?_ _ | with_reducible refine Ab.trans ?_ (by assumption) | with_reducible refine Ab.set ?_ (by first | (simp; done) | omega | (simp; omega)) _))
  | some rs =>
    obtain rfl : dn = false := hi.isUp
    by_cases hm : m < f ∨ n < m
    · have HM := Lib.hid (show Wal.records ⟨⟨s, t, cap, false⟩, f, n⟩ m (some rs) = ([], 2) from if_pos hm)
      rcases hm with hm | hm
      all_goals
        go_enter Try.func33, Try.ntmps33
        go_wp2_with fail
        refine (refwcheck_any A B ca cb s t cap false f n _ (hs.ab (by repeat (first | with_reducible exact Ab.refl _ | with_reducible assumption | with_reducible refine Ab.drew ?_ | with_reducible refine Ab.drewN ?_ _ | with_reducible refine Ab.alloc ?_ _ | with_reducible refine Ab.trans ?_ (by assumption) | with_reducible refine Ab.set ?_ (by first | (simp; done) | omega | (simp; omega)) _))) (ht.ab (by repeat (first | with_reducible exact Ab.refl _ | with_reducible assumption | with_reducible refine Ab.drew ?_ | with_reducible refine Ab.drewN ?_ _ | with_reducible refine Ab.alloc ?_ _ | with_reducible refine Ab.trans ?_ (by assumption) | with_reducible refine Ab.set ?_ (by first | (simp; done) | omega | (simp; omega)) _))) hca hcb ls lt (some rs) hi).mono ?_
        rintro e w1 ⟨r, hr, rfl, hw1⟩
        obtain rfl : r = 0 := hr.out
        clear hr
        obtain ⟨bq0, bq1, bq2, bq3, bq4, bq5⟩ := cells6 hw1 (b := w.heap.size) (v0 := .slice A s.length ca) (v1 := .slice B t.length cb) (v2 := .int .i64 cap) (v3 := .bool false) (v4 := .int .i64 f) (v5 := .int .i64 n) (by first | (simp [go_sem]; done) | (refine ⟨?_, ?_, ?_, ?_, ?_, ?_⟩ <;> assumption))
        go_wp2
        all_goals first | (exfalso; omega) | skip
        all_goals go_ret2
        all_goals exact RetRecsE.zero HM.out.symm (by repeat (first | with_reducible exact Ab.refl _ | with_reducible assumption | with_reducible refine Ab.drew ?_ | with_reducible refine Ab.drewN ?_ _ | with_reducible refine Ab.alloc ?_ _ | with_reducible refine Ab.trans ?_ (by assumption) | with_reducible refine Ab.set ?_ (by first | (simp; done) | omega | (simp; omega)) _))
    · have HM := Lib.hid (show Wal.records ⟨⟨s, t, cap, false⟩, f, n⟩ m (some rs) = (rs.drop (m - f).toNat, 0) from if_neg hm)
      have hrg := hi.rng
      simp only at hrg
      obtain ⟨j, hj⟩ : ∃ j : Nat, m - f = (j : Int) := ⟨(m - f).toNat, by omega⟩
      have hnl := hi.2.2.2.1
      simp only at hnl
      have HM := Lib.hid (show Wal.records ⟨⟨s, t, cap, false⟩, f, n⟩ m (some rs) = (rs.drop j, 0) by rw [HM.out, hj]; rfl)
      have HF := Lib.hid hi.2.1
      have hsub : IntKind.i64.wrap (m - f) = (j : Int) := by rw [IntWalk.i64_in _ (by omega)]; exact hj
      have hjl : j ≤ rs.length := by omega
      have hrm := hi.room
      simp only [Disk.Dev.size] at hrm
      have hl20 : s.length + t.length ≤ 20000 := by omega
      have h1 : ¬ m < f := by omega
      have h2 : ¬ n < m := by omega
      clear hm hnl hrm
      have hj0 : (0 : Int) ≤ (j : Int) := by omega
      have HSC := Lib.hid hi.scan
      go_enter Try.func33, Try.ntmps33
      go_wp2_with fail
      refine (refwcheck_any A B ca cb s t cap false f n _ (hs.ab (by repeat (first | with_reducible exact Ab.refl _ | with_reducible assumption | with_reducible refine Ab.drew ?_ | with_reducible refine Ab.drewN ?_ _ | with_reducible refine Ab.alloc ?_ _ | with_reducible refine Ab.trans ?_ (by assumption) | with_reducible refine Ab.set ?_ (by first | (simp; done) | omega | (simp; omega)) _))) (ht.ab (by repeat (first | with_reducible exact Ab.refl _ | with_reducible assumption | with_reducible refine Ab.drew ?_ | with_reducible refine Ab.drewN ?_ _ | with_reducible refine Ab.alloc ?_ _ | with_reducible refine Ab.trans ?_ (by assumption) | with_reducible refine Ab.set ?_ (by first | (simp; done) | omega | (simp; omega)) _))) hca hcb ls lt (some rs) hi).mono ?_
      rintro e w1 ⟨r, hr, rfl, hw1⟩
      obtain rfl : r = 0 := hr.out
      clear hr
      obtain ⟨bq0, bq1, bq2, bq3, bq4, bq5⟩ := cells6 hw1 (b := w.heap.size) (v0 := .slice A s.length ca) (v1 := .slice B t.length cb) (v2 := .int .i64 cap) (v3 := .bool false) (v4 := .int .i64 f) (v5 := .int .i64 n) (by first | (simp [go_sem]; done) | (refine ⟨?_, ?_, ?_, ?_, ?_, ?_⟩ <;> assumption))
      go_wp2_with fail
      refine (has_any A B ca cb s t cap false _ (hs.ab (by repeat (first | with_reducible exact Ab.refl _ | with_reducible assumption | with_reducible refine Ab.drew ?_ | with_reducible refine Ab.drewN ?_ _ | with_reducible refine Ab.alloc ?_ _ | with_reducible refine Ab.trans ?_ (by assumption) | with_reducible refine Ab.set ?_ (by first | (simp; done) | omega | (simp; omega)) _))) (ht.ab (by repeat (first | with_reducible exact Ab.refl _ | with_reducible assumption | with_reducible refine Ab.drew ?_ | with_reducible refine Ab.drewN ?_ _ | with_reducible refine Ab.alloc ?_ _ | with_reducible refine Ab.trans ?_ (by assumption) | with_reducible refine Ab.set ?_ (by first | (simp; done) | omega | (simp; omega)) _))) hca hcb hl20).mono ?_
      rintro e w2 ⟨X, d, xs, u', hS, rfl, hX, hd, hx, hb2⟩
      have HR := Lib.hid (Frame.scan_unique hS.out HSC.out).1
      have hz2 : Ab (w.alloc (.cells #[.slice A s.length ca, .slice B t.length cb, .int .i64 cap, .bool false, .int .i64 f, .int .i64 n] 26)) w2 := (by repeat (first | with_reducible exact Ab.refl _ | with_reducible assumption | with_reducible refine Ab.drew ?_ | with_reducible refine Ab.drewN ?_ _ | with_reducible refine Ab.alloc ?_ _ | with_reducible refine Ab.trans ?_ (by assumption) | with_reducible refine Ab.set ?_ (by first | (simp; done) | omega | (simp; omega)) _))
      obtain ⟨bq0, bq1, bq2, bq3, bq4, bq5⟩ := cells6 hz2 (b := w.heap.size) (v0 := .slice A s.length ca) (v1 := .slice B t.length cb) (v2 := .int .i64 cap) (v3 := .bool false) (v4 := .int .i64 f) (v5 := .int .i64 n) (by first | (simp [go_sem]; done) | (refine ⟨?_, ?_, ?_, ?_, ?_, ?_⟩ <;> assumption))
      have z1 := hw1.size
      simp at z1
      have hjy : j ≤ xs.length := by rw [← recs_length, HR.out]; exact hjl
      obtain ⟨zs, hzs⟩ : ∃ zs, xs.drop j = zs := ⟨_, rfl⟩
      have hzl : zs.length = xs.length - j := by rw [← hzs, List.length_drop]
      have hcut : ∀ w, (Instr.slice 34 (.slice X xs.length d) (some (.int .i64 (j : Int))) none none).run Try.prog w = .ok (.slice (cutR X d j) zs.length (d - j)) w := fun w => by
        rw [run_cutR j .i64 X xs.length d w hjy, hzl]
      have hZ0 := hX.cut j d hd
      rw [hzs] at hZ0
      have HZ := Lib.hid (show recs zs = rs.drop j by rw [← hzs, ← HR.out]; simp [recs, List.map_drop])
      have hz3 : zs.length ≤ 20000 := by omega
      have hz4 : zs.length ≤ d - j := by omega
      have hj1 : (j : Int) ≤ (xs.length : Int) := by omega
      clear hzs hzl hS
      go_wp2
      go_ret2
      exact ⟨_, _, zs, 0, Lib.hid (by rw [HM.out, HZ.out]), rfl, (hZ0.mono (by omega)).ab (by repeat (first | with_reducible exact Ab.refl _ | with_reducible assumption | with_reducible refine Ab.drew ?_ | with_reducible refine Ab.drewN ?_ _ | with_reducible refine Ab.alloc ?_ _ | with_reducible refine Ab.trans ?_ (by assumption) | with_reducible refine Ab.set ?_ (by first | (simp; done) | omega | (simp; omega)) _)), hz4, hz3, Lib.hid (small_of (l := rs.drop j) (Wal.foll_drop HF.out j) HZ.out), (by repeat (first | with_reducible exact Ab.refl _ | with_reducible assumption | with_reducible refine Ab.drew ?_ | with_reducible refine Ab.drewN ?_ _ | with_reducible refine Ab.alloc ?_ _ | with_reducible refine Ab.trans ?_ (by assumption) | with_reducible refine Ab.set ?_ (by first | (simp; done) | omega | (simp; omega)) _))⟩
end Go.Proofs.Ytehagdpcegpbjaa
