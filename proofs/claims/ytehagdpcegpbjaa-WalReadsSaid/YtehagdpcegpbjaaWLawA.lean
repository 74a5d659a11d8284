/- WalReads, walked. Own work. -/
import Derived.Test.YtehagdpcegpbjaaWFunC
import Derived.Test.YtehagdpcegpbjaaWFunE
import Derived.Test.YtehagdpcegpbjaaGF
set_option linter.unusedVariables false
set_option linter.unusedSimpArgs false
namespace Go.Proofs.Ytehagdpcegpbjaa
open Go.RowKit

set_option maxRecDepth 100000 in
set_option maxHeartbeats 3200000 in
theorem wreads_walk (A B : Option Addr) (ca cb : Nat) (s t : List UInt8) (cap : Int) (dn : Bool) (f n : Int) (w : World) (hs : RB w 0 A s) (ht : RB w 0 B t) (hca : s.length ≤ ca) (hcb : t.length ≤ cb) (ls : s.length ≤ 9223372036854775807) (lt : t.length ≤ 9223372036854775807) (m : Int) :
    Calls Try.prog 6 #[.agg #[.slice A s.length ca, .slice B t.length cb, .int .i64 cap, .bool dn, .int .i64 f, .int .i64 n], .int .i64 m] w fun e w' => e = .returned (.bool true) ∧ Ab w w' := by
  cases hg : great4B s.length t.length
  · obtain ⟨hl1, hl2⟩ := great4B_false hg
    have HG := Lib.hid hg; clear hg
    obtain ⟨g, hi⟩ := Wal.is_exists ⟨⟨s, t, cap, dn⟩, f, n⟩
    go_enter Try.func6, Try.ntmps6
    go_wp2_with fail
    refine (great4_any A B ca cb s t cap dn _ ls lt).mono ?_
    rintro e w1 ⟨rfl, hb1⟩
    rw [HG.out]
    obtain ⟨bq0, bq1, bq2, bq3, bq4, bq5⟩ := cells6 hb1 (b := w.heap.size) (v0 := .slice A s.length ca) (v1 := .slice B t.length cb) (v2 := .int .i64 cap) (v3 := .bool dn) (v4 := .int .i64 f) (v5 := .int .i64 n) (by first | (simp [go_sem]; done) | (refine ⟨?_, ?_, ?_, ?_, ?_, ?_⟩ <;> assumption))
    go_wp2_with fail
    refine (ltwin_any A B ca cb s t cap dn f n _ (hs.ab (by repeat (first | with_reducible exact Ab.refl _ | with_reducible assumption | with_reducible refine Ab.drew ?_ | with_reducible refine Ab.drewN ?_ _ | with_reducible refine Ab.alloc ?_ _ | with_reducible refine Ab.trans ?_ (by assumption) | with_reducible refine Ab.set ?_ (by first | (simp; done) | omega | (simp; omega)) _))) (ht.ab (by repeat (first | with_reducible exact Ab.refl _ | with_reducible assumption | with_reducible refine Ab.drew ?_ | with_reducible refine Ab.drewN ?_ _ | with_reducible refine Ab.alloc ?_ _ | with_reducible refine Ab.trans ?_ (by assumption) | with_reducible refine Ab.set ?_ (by first | (simp; done) | omega | (simp; omega)) _))) hca hcb (by omega) (by omega)).mono ?_
    rintro e w2 ⟨r, D, E, cd, ce, er, rfl, o1, o2, hb2⟩
    obtain rfl : r = ⟨⟨s, t, cap, dn⟩, f, n⟩ := er.out
    clear er
    simp only at o1 o2
    simp only
    have rD := o1.rng
    go_wp2_with fail
    refine (wsynced_any D E cd ce s t cap dn f n _ (o1.rb.zero.ab (by repeat (first | with_reducible exact Ab.refl _ | with_reducible assumption | with_reducible refine Ab.drew ?_ | with_reducible refine Ab.drewN ?_ _ | with_reducible refine Ab.alloc ?_ _ | with_reducible refine Ab.trans ?_ (by assumption) | with_reducible refine Ab.set ?_ (by first | (simp; done) | omega | (simp; omega)) _))) (o2.rb.zero.ab (by repeat (first | with_reducible exact Ab.refl _ | with_reducible assumption | with_reducible refine Ab.drew ?_ | with_reducible refine Ab.drewN ?_ _ | with_reducible refine Ab.alloc ?_ _ | with_reducible refine Ab.trans ?_ (by assumption) | with_reducible refine Ab.set ?_ (by first | (simp; done) | omega | (simp; omega)) _))) o1.le o2.le (by omega) (by omega) g hi).mono ?_
    rintro e w3 ⟨a3, e3, h3, rfl, hb3⟩
    have hTmp : Ab (w2.alloc (.cells #[.slice D s.length cd, .slice E t.length ce, .int .i64 cap, .bool dn, .int .i64 f, .int .i64 n] 26)) w3 := (by repeat (first | with_reducible exact Ab.refl _ | with_reducible assumption | with_reducible refine Ab.drew ?_ | with_reducible refine Ab.drewN ?_ _ | with_reducible refine Ab.alloc ?_ _ | with_reducible refine Ab.trans ?_ (by assumption) | with_reducible refine Ab.set ?_ (by first | (simp; done) | omega | (simp; omega)) _))
    obtain ⟨oq0, oq1, oq2, oq3, oq4, oq5⟩ := cells6 hTmp (b := w2.heap.size) (v0 := .slice D s.length cd) (v1 := .slice E t.length ce) (v2 := .int .i64 cap) (v3 := .bool dn) (v4 := .int .i64 f) (v5 := .int .i64 n) (by first | (simp [go_sem]; done) | (refine ⟨?_, ?_, ?_, ?_, ?_, ?_⟩ <;> assumption))
    clear hTmp
    have hTmp : Ab (w.alloc (.cells #[.slice A s.length ca, .slice B t.length cb, .int .i64 cap, .bool dn, .int .i64 f, .int .i64 n] 26)) w3 := (by repeat (first | with_reducible exact Ab.refl _ | with_reducible assumption | with_reducible refine Ab.drew ?_ | with_reducible refine Ab.drewN ?_ _ | with_reducible refine Ab.alloc ?_ _ | with_reducible refine Ab.trans ?_ (by assumption) | with_reducible refine Ab.set ?_ (by first | (simp; done) | omega | (simp; omega)) _))
    obtain ⟨bq0, bq1, bq2, bq3, bq4, bq5⟩ := cells6 hTmp (b := w.heap.size) (v0 := .slice A s.length ca) (v1 := .slice B t.length cb) (v2 := .int .i64 cap) (v3 := .bool dn) (v4 := .int .i64 f) (v5 := .int .i64 n) (by first | (simp [go_sem]; done) | (refine ⟨?_, ?_, ?_, ?_, ?_, ?_⟩ <;> assumption))
    clear hTmp
    go_wp2_with fail
    refine (refsynced_any A B ca cb s t cap dn f n _ (hs.ab (by repeat (first | with_reducible exact Ab.refl _ | with_reducible assumption | with_reducible refine Ab.drew ?_ | with_reducible refine Ab.drewN ?_ _ | with_reducible refine Ab.alloc ?_ _ | with_reducible refine Ab.trans ?_ (by assumption) | with_reducible refine Ab.set ?_ (by first | (simp; done) | omega | (simp; omega)) _))) (ht.ab (by repeat (first | with_reducible exact Ab.refl _ | with_reducible assumption | with_reducible refine Ab.drew ?_ | with_reducible refine Ab.drewN ?_ _ | with_reducible refine Ab.alloc ?_ _ | with_reducible refine Ab.trans ?_ (by assumption) | with_reducible refine Ab.set ?_ (by first | (simp; done) | omega | (simp; omega)) _))) hca hcb (by omega) (by omega) g hi).mono ?_
    rintro e w4 ⟨a4, e4, h4, rfl, hb4⟩
    obtain ⟨rfl, rfl⟩ : a4 = a3 ∧ e4 = e3 := Prod.mk.inj (h4.out.trans h3.out.symm)
    clear h3 h4
    have hTmp : Ab (w2.alloc (.cells #[.slice D s.length cd, .slice E t.length ce, .int .i64 cap, .bool dn, .int .i64 f, .int .i64 n] 26)) w4 := (by repeat (first | with_reducible exact Ab.refl _ | with_reducible assumption | with_reducible refine Ab.drew ?_ | with_reducible refine Ab.drewN ?_ _ | with_reducible refine Ab.alloc ?_ _ | with_reducible refine Ab.trans ?_ (by assumption) | with_reducible refine Ab.set ?_ (by first | (simp; done) | omega | (simp; omega)) _))
    obtain ⟨oq0, oq1, oq2, oq3, oq4, oq5⟩ := cells6 hTmp (b := w2.heap.size) (v0 := .slice D s.length cd) (v1 := .slice E t.length ce) (v2 := .int .i64 cap) (v3 := .bool dn) (v4 := .int .i64 f) (v5 := .int .i64 n) (by first | (simp [go_sem]; done) | (refine ⟨?_, ?_, ?_, ?_, ?_, ?_⟩ <;> assumption))
    clear hTmp
    have hTmp : Ab (w.alloc (.cells #[.slice A s.length ca, .slice B t.length cb, .int .i64 cap, .bool dn, .int .i64 f, .int .i64 n] 26)) w4 := (by repeat (first | with_reducible exact Ab.refl _ | with_reducible assumption | with_reducible refine Ab.drew ?_ | with_reducible refine Ab.drewN ?_ _ | with_reducible refine Ab.alloc ?_ _ | with_reducible refine Ab.trans ?_ (by assumption) | with_reducible refine Ab.set ?_ (by first | (simp; done) | omega | (simp; omega)) _))
    obtain ⟨bq0, bq1, bq2, bq3, bq4, bq5⟩ := cells6 hTmp (b := w.heap.size) (v0 := .slice A s.length ca) (v1 := .slice B t.length cb) (v2 := .int .i64 cap) (v3 := .bool dn) (v4 := .int .i64 f) (v5 := .int .i64 n) (by first | (simp [go_sem]; done) | (refine ⟨?_, ?_, ?_, ?_, ?_, ?_⟩ <;> assumption))
    clear hTmp
    go_wp2_with fail
    refine (wrecords_any D E cd ce s t cap dn f n _ (o1.rb.zero.ab (by repeat (first | with_reducible exact Ab.refl _ | with_reducible assumption | with_reducible refine Ab.drew ?_ | with_reducible refine Ab.drewN ?_ _ | with_reducible refine Ab.alloc ?_ _ | with_reducible refine Ab.trans ?_ (by assumption) | with_reducible refine Ab.set ?_ (by first | (simp; done) | omega | (simp; omega)) _))) (o2.rb.zero.ab (by repeat (first | with_reducible exact Ab.refl _ | with_reducible assumption | with_reducible refine Ab.drew ?_ | with_reducible refine Ab.drewN ?_ _ | with_reducible refine Ab.alloc ?_ _ | with_reducible refine Ab.trans ?_ (by assumption) | with_reducible refine Ab.set ?_ (by first | (simp; done) | omega | (simp; omega)) _))) o1.le o2.le (by omega) (by omega) g hi m).mono ?_
    rintro e w5 ⟨B5, d5, xs, e5, h5, rfl, hX, hd5, hxl, hsm, hb5⟩
    have hTmp : Ab (w2.alloc (.cells #[.slice D s.length cd, .slice E t.length ce, .int .i64 cap, .bool dn, .int .i64 f, .int .i64 n] 26)) w5 := (by repeat (first | with_reducible exact Ab.refl _ | with_reducible assumption | with_reducible refine Ab.drew ?_ | with_reducible refine Ab.drewN ?_ _ | with_reducible refine Ab.alloc ?_ _ | with_reducible refine Ab.trans ?_ (by assumption) | with_reducible refine Ab.set ?_ (by first | (simp; done) | omega | (simp; omega)) _))
    obtain ⟨oq0, oq1, oq2, oq3, oq4, oq5⟩ := cells6 hTmp (b := w2.heap.size) (v0 := .slice D s.length cd) (v1 := .slice E t.length ce) (v2 := .int .i64 cap) (v3 := .bool dn) (v4 := .int .i64 f) (v5 := .int .i64 n) (by first | (simp [go_sem]; done) | (refine ⟨?_, ?_, ?_, ?_, ?_, ?_⟩ <;> assumption))
    clear hTmp
    have hTmp : Ab (w.alloc (.cells #[.slice A s.length ca, .slice B t.length cb, .int .i64 cap, .bool dn, .int .i64 f, .int .i64 n] 26)) w5 := (by repeat (first | with_reducible exact Ab.refl _ | with_reducible assumption | with_reducible refine Ab.drew ?_ | with_reducible refine Ab.drewN ?_ _ | with_reducible refine Ab.alloc ?_ _ | with_reducible refine Ab.trans ?_ (by assumption) | with_reducible refine Ab.set ?_ (by first | (simp; done) | omega | (simp; omega)) _))
    obtain ⟨bq0, bq1, bq2, bq3, bq4, bq5⟩ := cells6 hTmp (b := w.heap.size) (v0 := .slice A s.length ca) (v1 := .slice B t.length cb) (v2 := .int .i64 cap) (v3 := .bool dn) (v4 := .int .i64 f) (v5 := .int .i64 n) (by first | (simp [go_sem]; done) | (refine ⟨?_, ?_, ?_, ?_, ?_, ?_⟩ <;> assumption))
    clear hTmp
    go_wp2_with fail
    refine (refrecords_any A B ca cb s t cap dn f n _ (hs.ab (by repeat (first | with_reducible exact Ab.refl _ | with_reducible assumption | with_reducible refine Ab.drew ?_ | with_reducible refine Ab.drewN ?_ _ | with_reducible refine Ab.alloc ?_ _ | with_reducible refine Ab.trans ?_ (by assumption) | with_reducible refine Ab.set ?_ (by first | (simp; done) | omega | (simp; omega)) _))) (ht.ab (by repeat (first | with_reducible exact Ab.refl _ | with_reducible assumption | with_reducible refine Ab.drew ?_ | with_reducible refine Ab.drewN ?_ _ | with_reducible refine Ab.alloc ?_ _ | with_reducible refine Ab.trans ?_ (by assumption) | with_reducible refine Ab.set ?_ (by first | (simp; done) | omega | (simp; omega)) _))) hca hcb (by omega) (by omega) g hi m).mono ?_
    rintro e w6 ⟨B6, d6, ys, e6, h6, rfl, hY, hd6, hyl, hsm6, hb6⟩
    obtain ⟨hrr, rfl⟩ : recs ys = recs xs ∧ e6 = e5 := Prod.mk.inj (h6.out.trans h5.out.symm)
    have HR := Lib.hid hrr.symm
    have HSM := Lib.hid (show ∀ i (hi : i < xs.length), xs[i].b.length ≤ 140737488351232 from fun i hi => Nat.le_trans (hsm.out i hi) (by omega))
    clear h5 h6 hrr hsm hsm6
    have hTmp : Ab (w2.alloc (.cells #[.slice D s.length cd, .slice E t.length ce, .int .i64 cap, .bool dn, .int .i64 f, .int .i64 n] 26)) w6 := (by repeat (first | with_reducible exact Ab.refl _ | with_reducible assumption | with_reducible refine Ab.drew ?_ | with_reducible refine Ab.drewN ?_ _ | with_reducible refine Ab.alloc ?_ _ | with_reducible refine Ab.trans ?_ (by assumption) | with_reducible refine Ab.set ?_ (by first | (simp; done) | omega | (simp; omega)) _))
    obtain ⟨oq0, oq1, oq2, oq3, oq4, oq5⟩ := cells6 hTmp (b := w2.heap.size) (v0 := .slice D s.length cd) (v1 := .slice E t.length ce) (v2 := .int .i64 cap) (v3 := .bool dn) (v4 := .int .i64 f) (v5 := .int .i64 n) (by first | (simp [go_sem]; done) | (refine ⟨?_, ?_, ?_, ?_, ?_, ?_⟩ <;> assumption))
    clear hTmp
    have hTmp : Ab (w.alloc (.cells #[.slice A s.length ca, .slice B t.length cb, .int .i64 cap, .bool dn, .int .i64 f, .int .i64 n] 26)) w6 := (by repeat (first | with_reducible exact Ab.refl _ | with_reducible assumption | with_reducible refine Ab.drew ?_ | with_reducible refine Ab.drewN ?_ _ | with_reducible refine Ab.alloc ?_ _ | with_reducible refine Ab.trans ?_ (by assumption) | with_reducible refine Ab.set ?_ (by first | (simp; done) | omega | (simp; omega)) _))
    obtain ⟨bq0, bq1, bq2, bq3, bq4, bq5⟩ := cells6 hTmp (b := w.heap.size) (v0 := .slice A s.length ca) (v1 := .slice B t.length cb) (v2 := .int .i64 cap) (v3 := .bool dn) (v4 := .int .i64 f) (v5 := .int .i64 n) (by first | (simp [go_sem]; done) | (refine ⟨?_, ?_, ?_, ?_, ?_, ?_⟩ <;> assumption))
    clear hTmp
    have zz2 : w2.heap.size < w6.heap.size := cell_lt oq0
    have zz1 : w1.heap.size ≤ w2.heap.size := Ab.size (by repeat (first | with_reducible exact Ab.refl _ | with_reducible assumption | with_reducible refine Ab.drew ?_ | with_reducible refine Ab.drewN ?_ _ | with_reducible refine Ab.alloc ?_ _ | with_reducible refine Ab.trans ?_ (by assumption) | with_reducible refine Ab.set ?_ (by first | (simp; done) | omega | (simp; omega)) _))
    have zz4 : w2.heap.size < w4.heap.size := by
      have h9 : Ab (w2.alloc (.cells #[.slice D s.length cd, .slice E t.length ce, .int .i64 cap, .bool dn, .int .i64 f, .int .i64 n] 26)) w4 := (by repeat (first | with_reducible exact Ab.refl _ | with_reducible assumption | with_reducible refine Ab.drew ?_ | with_reducible refine Ab.drewN ?_ _ | with_reducible refine Ab.alloc ?_ _ | with_reducible refine Ab.trans ?_ (by assumption) | with_reducible refine Ab.set ?_ (by first | (simp; done) | omega | (simp; omega)) _))
      have := h9.size
      simp at this
      omega
    have zz5 : w2.heap.size < w5.heap.size := by have := hb5.size; omega
    have zz45 := hb5.size
    have zz0 : w.heap.size < w1.heap.size := by have := hb1.size; simp at this; omega
    have hX6 := hX.ab hb6
    have p6 : OR 5 w1.heap.size w6 D cd s := o1.keep (by repeat (first | with_reducible exact Ab.refl _ | with_reducible assumption | with_reducible refine Ab.drew ?_ | with_reducible refine Ab.drewN ?_ _ | with_reducible refine Ab.alloc ?_ _ | with_reducible refine Ab.trans ?_ (by assumption) | with_reducible refine Ab.set ?_ (by first | (simp; done) | omega | (simp; omega)) _))
    have b6 : Ab w w6 := (by repeat (first | with_reducible exact Ab.refl _ | with_reducible assumption | with_reducible refine Ab.drew ?_ | with_reducible refine Ab.drewN ?_ _ | with_reducible refine Ab.alloc ?_ _ | with_reducible refine Ab.trans ?_ (by assumption) | with_reducible refine Ab.set ?_ (by first | (simp; done) | omega | (simp; omega)) _))
    go_wp2_with fail
    go_loopw [14] (fun i wr => InPlace 5 D cd s.length w1.heap.size w6 i wr) (fun i _ => s.length - (intOf i).toNat)
    case atStart => exact ⟨0, s, Nat.zero_le _, rfl, Lib.hid rfl, p6, World.grownBy.refl _ _⟩
    case round =>
      obtain ⟨k, l, hk, rfl, hl, oo, gg⟩ := hrel
      have hx0 := grown_cell gg oq0 (fun a ha => by have := (rD a ha).2; omega)
      by_cases hlt : k < s.length
      · obtain ⟨g', rfl, hg1, hg2⟩ := oo.at_ (by rw [hl.out]; omega)
        have hkl : k < l.length := by rw [hl.out]; exact hlt
        have hc := oo.cellAt hkl
        have hf := oo.unfrozen k
        have hu8 := u8_succ l[k]
        have HU8 := Lib.hid hu8; clear hu8
        go_wp2
        go_roundw
        case rel =>
          refine ⟨k + 1, l.set k (l[k] + 1), by omega, by go_num, Lib.hid (by rw [List.length_set]; exact hl.out), ?_, ?_⟩
          · rw [u8_succ']; exact oo.store k _
          · exact grown_set gg _
        case measure => simp [intOf]; omega
      · have hne : ∀ g, D.map (·.block) = some g → g < w4.heap.size := fun g hg => by
          obtain ⟨a, ha, rfl⟩ := map_blk hg
          have := (rD a ha).2
          omega
        have hX2 := (hX6.grown gg hne).mono (Nat.zero_le _)
        have hY2 := (hY.grown gg (fun g hg => by have := hne g hg; omega)).mono (Nat.zero_le _)
        have hab : Ab w wr := grown_ab b6 gg (fun g hg => by
          obtain ⟨a, ha, rfl⟩ := map_blk hg
          have := (rD a ha).1
          omega)
        go_wp2_with fail
        refine (rsame_true B5 B6 d5 d6 xs ys _ hX2 hY2 HR (by omega) HSM).mono ?_
        rintro e w9 ⟨rfl, n9, rfl⟩
        go_wp2
        go_ret
        exact ⟨rfl, (by repeat (first | with_reducible exact Ab.refl _ | with_reducible assumption | with_reducible refine Ab.drew ?_ | with_reducible refine Ab.drewN ?_ _ | with_reducible refine Ab.alloc ?_ _ | with_reducible refine Ab.trans ?_ (by assumption) | with_reducible refine Ab.set ?_ (by first | (simp; done) | omega | (simp; omega)) _))⟩
  · have HG := Lib.hid hg; clear hg
    go_enter Try.func6, Try.ntmps6
    go_wp2_with fail
    refine (great4_any A B ca cb s t cap dn _ ls lt).mono ?_
    rintro e w1 ⟨rfl, hb1⟩
    rw [HG.out]
    go_wp2
    go_ret
    exact ⟨rfl, (by repeat (first | with_reducible exact Ab.refl _ | with_reducible assumption | with_reducible refine Ab.drew ?_ | with_reducible refine Ab.drewN ?_ _ | with_reducible refine Ab.alloc ?_ _ | with_reducible refine Ab.trans ?_ (by assumption) | with_reducible refine Ab.set ?_ (by first | (simp; done) | omega | (simp; omega)) _))⟩
end Go.Proofs.Ytehagdpcegpbjaa
