/- The texts ImpD, one behind the other. Own work. -/
import Derived.Test.YthgcfjhnnhigoaaGreatGD
set_option linter.unusedVariables false
namespace Go.Proofs.YthgcfjhnnhigoaaGreat
open Go.RowKit Disk

set_option maxHeartbeats 1600000 in
theorem sync_any (A B : Option Addr) (ca cb : Nat) (s t : List UInt8) (cap : Int) (dn : Bool) (w : World) (hs : RB w 0 A s) (ht : RB w 0 B t) (hca : s.length ≤ ca) (hcb : t.length ≤ cb) (ls : s.length ≤ 1000000) (lt : t.length ≤ 1000000) :
    Calls Tryz.prog 83 #[.agg #[.slice A s.length ca, .slice B t.length cb, .int .i64 cap, .bool dn]] w (RetDevE w (sync ⟨s, t, cap, dn⟩)) := by
  by_cases hu : up ⟨s, t, cap, dn⟩ = 0
  · obtain ⟨hnb, hdn⟩ := up_zero hu
    obtain rfl : dn = false := hdn
    have HU := Lib.hid hu; have HN := Lib.hid hnb; clear hu hnb
    have HM := Lib.hid (show sync ⟨s, t, cap, false⟩ = (⟨s ++ t, [], cap, false⟩, 0) from if_neg (by simpa using HU.out))
    go_enter Tryz.func83, Tryz.ntmps83
    go_wp2_with fail
    refine (checkUp_any A B ca cb s t cap false _ ls lt).mono ?_
    rintro e w1 ⟨r, hr, rfl, hz⟩
    obtain rfl : r = 0 := hr.out.trans HU.out
    have bq0 := hz.at (p := ⟨w.heap.size, 0, none⟩) (v := .slice A s.length ca) ckA; have bq1 := hz.at (p := ⟨w.heap.size, 1, none⟩) (v := .slice B t.length cb) ckA; have bq2 := hz.at (p := ⟨w.heap.size, 2, none⟩) (v := .int .i64 cap) ckA; have bq3 := hz.at (p := ⟨w.heap.size, 3, none⟩) (v := .bool false) ckA
    have zq0 := hz.at (p := ⟨w.heap.size + 1, 0, none⟩) (v := .slice none 0 0) (by simp [go_sem]); have zq1 := hz.at (p := ⟨w.heap.size + 1, 1, none⟩) (v := .slice none 0 0) (by simp [go_sem]); have zq2 := hz.at (p := ⟨w.heap.size + 1, 2, none⟩) (v := .int .i64 0) (by simp [go_sem]); have zq3 := hz.at (p := ⟨w.heap.size + 1, 3, none⟩) (v := .bool false) (by simp [go_sem])
    have zr0 : w1.frozen? ⟨w.heap.size + 1, 0, none⟩ = false := (hz.frozen (p := ⟨w.heap.size + 1, 0, none⟩) (by simp)).trans (by simp [go_sem]); have zr1 : w1.frozen? ⟨w.heap.size + 1, 1, none⟩ = false := (hz.frozen (p := ⟨w.heap.size + 1, 1, none⟩) (by simp)).trans (by simp [go_sem]); have zr2 : w1.frozen? ⟨w.heap.size + 1, 2, none⟩ = false := (hz.frozen (p := ⟨w.heap.size + 1, 2, none⟩) (by simp)).trans (by simp [go_sem]); have zr3 : w1.frozen? ⟨w.heap.size + 1, 3, none⟩ = false := (hz.frozen (p := ⟨w.heap.size + 1, 3, none⟩) (by simp)).trans (by simp [go_sem])
    have z1 := hz.size; simp at z1
    go_wp2_with fail
    go_region_held3 (fun w' => w'.cell? ⟨w.heap.size, 0, none⟩ = some (.slice A s.length ca) ∧ w'.cell? ⟨w.heap.size, 1, none⟩ = some (.slice B t.length cb) ∧ w'.cell? ⟨w.heap.size, 2, none⟩ = some (.int .i64 cap) ∧ w'.cell? ⟨w.heap.size, 3, none⟩ = some (.bool false)) ((refine ⟨?_, ?_, ?_, ?_⟩ <;> (exact ckA)))
      ((first
        | (go_at_call 116
           (with_reducible refine (concat2_any _ _ s.length ca t.length cb A B s t _ (by (exact ckA)) (by first | rfl | (simp; done) | (simp; omega) | omega) (RB.ab hs abA) hca (by (exact ckA)) (by first | rfl | (simp; done) | (simp; omega) | omega) (RB.ab ht abA) hcb wnA).mono ?_)
           rintro e w3 ⟨L3, D3, c3, e3, rfl, o3, hb3⟩
           have zw3 := hb3.size; (try simp at zw3)
           have o3 : OR 5 (w.heap.size + 1 + 1) w3 D3 c3 L3 := OR.mono o3 wnA)
        | (go_at_call 115
           refine (with_any A B ca cb s t cap false _ D3 none _ _ c3 0).mono ?_
           rintro e w5 ⟨rfl, hb5⟩
           have hz5 : Ab ((w.alloc (.cells #[.slice A s.length ca, .slice B t.length cb, .int .i64 cap, .bool false] 24)).alloc (.cells #[.slice none 0 0, .slice none 0 0, .int .i64 0, .bool false] 24)) w5 := abA
           have zq0 := hz5.at (p := ⟨w.heap.size + 1, 0, none⟩) (v := .slice none 0 0) (by simp [go_sem]); have zq1 := hz5.at (p := ⟨w.heap.size + 1, 1, none⟩) (v := .slice none 0 0) (by simp [go_sem]); have zq2 := hz5.at (p := ⟨w.heap.size + 1, 2, none⟩) (v := .int .i64 0) (by simp [go_sem]); have zq3 := hz5.at (p := ⟨w.heap.size + 1, 3, none⟩) (v := .bool false) (by simp [go_sem])
           have zr0 : w5.frozen? ⟨w.heap.size + 1, 0, none⟩ = false := (hz5.frozen (p := ⟨w.heap.size + 1, 0, none⟩) (by simp)).trans (by simp [go_sem]); have zr1 : w5.frozen? ⟨w.heap.size + 1, 1, none⟩ = false := (hz5.frozen (p := ⟨w.heap.size + 1, 1, none⟩) (by simp)).trans (by simp [go_sem]); have zr2 : w5.frozen? ⟨w.heap.size + 1, 2, none⟩ = false := (hz5.frozen (p := ⟨w.heap.size + 1, 2, none⟩) (by simp)).trans (by simp [go_sem]); have zr3 : w5.frozen? ⟨w.heap.size + 1, 3, none⟩ = false := (hz5.frozen (p := ⟨w.heap.size + 1, 3, none⟩) (by simp)).trans (by simp [go_sem]); clear hz5)))
    all_goals go_wp2
    all_goals refine bodyPost_ret (v := .tuple #[.agg #[.slice D3 L3.length c3, .slice none ([] : List UInt8).length 0, .int .i64 cap, .bool false], .int .i64 0]) (by simp [results, Tryz.results83, go_sem, zq0, zq1, zq2, zq3]) rfl ?_
    all_goals exact ⟨⟨L3, ([] : List UInt8), cap, false⟩, 0, D3, none, c3, 0, Lib.hid (by rw [HM.out, e3.out]), rfl, (show OR 5 w.heap.size _ D3 c3 L3 from OR.mono (lo := w.heap.size + 1 + 1) orA wnA), (show OR 5 w.heap.size _ none 0 ([] : List UInt8) from OR.mono (lo := w.heap.size + 1 + 1) orA wnA), abA⟩
  · have HM := Lib.hid (show sync ⟨s, t, cap, dn⟩ = (Disk.zero, up ⟨s, t, cap, dn⟩) from if_pos hu)
    generalize hv : up ⟨s, t, cap, dn⟩ = u at hu HM
    have HV := Lib.hid hv; clear hv
    have hne : (u != 0) = true := by simpa using hu
    clear hu
    go_enter Tryz.func83, Tryz.ntmps83
    go_wp2_with fail
    refine (checkUp_any A B ca cb s t cap dn _ ls lt).mono ?_
    rintro e w1 ⟨r, hr, rfl, hb1⟩
    obtain rfl : r = u := hr.out.trans HV.out
    have zq0 := hb1.at (p := ⟨w.heap.size + 1, 0, none⟩) (v := .slice none 0 0) (by simp [go_sem]); have zq1 := hb1.at (p := ⟨w.heap.size + 1, 1, none⟩) (v := .slice none 0 0) (by simp [go_sem]); have zq2 := hb1.at (p := ⟨w.heap.size + 1, 2, none⟩) (v := .int .i64 0) (by simp [go_sem]); have zq3 := hb1.at (p := ⟨w.heap.size + 1, 3, none⟩) (v := .bool false) (by simp [go_sem])
    have zr0 : w1.frozen? ⟨w.heap.size + 1, 0, none⟩ = false := (hb1.frozen (p := ⟨w.heap.size + 1, 0, none⟩) (by simp)).trans (by simp [go_sem]); have zr1 : w1.frozen? ⟨w.heap.size + 1, 1, none⟩ = false := (hb1.frozen (p := ⟨w.heap.size + 1, 1, none⟩) (by simp)).trans (by simp [go_sem]); have zr2 : w1.frozen? ⟨w.heap.size + 1, 2, none⟩ = false := (hb1.frozen (p := ⟨w.heap.size + 1, 2, none⟩) (by simp)).trans (by simp [go_sem]); have zr3 : w1.frozen? ⟨w.heap.size + 1, 3, none⟩ = false := (hb1.frozen (p := ⟨w.heap.size + 1, 3, none⟩) (by simp)).trans (by simp [go_sem])
    go_wp2
    refine bodyPost_ret (v := .tuple #[.agg #[.slice none 0 0, .slice none 0 0, .int .i64 0, .bool false], .int .i64 r]) (by simp [results, Tryz.results83, go_sem, zq0, zq1, zq2, zq3]) rfl ?_
    exact RetDevE.zero HM.out.symm abA

set_option maxHeartbeats 1600000 in
theorem truncate_any (A B : Option Addr) (ca cb : Nat) (s t : List UInt8) (cap : Int) (dn : Bool) (w : World) (hs : RB w 0 A s) (ht : RB w 0 B t) (hca : s.length ≤ ca) (hcb : t.length ≤ cb) (ls : s.length ≤ 1000000) (lt : t.length ≤ 1000000) (n : Int) :
    Calls Tryz.prog 107 #[.agg #[.slice A s.length ca, .slice B t.length cb, .int .i64 cap, .bool dn], .int .i64 n] w (RetDevE w (truncate ⟨s, t, cap, dn⟩ n)) := by
  by_cases hu : up ⟨s, t, cap, dn⟩ = 0
  · obtain ⟨hnb, hdn⟩ := up_zero hu
    obtain rfl : dn = false := hdn
    have HU := Lib.hid hu; have HN := Lib.hid hnb; clear hu hnb
    by_cases hn0 : n < 0 ∨ ((s.length + t.length : Nat) : Int) < n
    · have HM := Lib.hid (show truncate ⟨s, t, cap, false⟩ n = (Disk.zero, 2) by
        unfold truncate; rw [if_neg (by simpa using HU.out)]; exact if_pos hn0)
      rcases hn0 with hn0 | hn0
      · go_enter Tryz.func107, Tryz.ntmps107
        go_wp2_with fail
        refine (checkUp_any A B ca cb s t cap false _ ls lt).mono ?_
        rintro e w1 ⟨r, hr, rfl, hz⟩
        obtain rfl : r = 0 := hr.out.trans HU.out
        have bq0 := hz.at (p := ⟨w.heap.size, 0, none⟩) (v := .slice A s.length ca) ckA; have bq1 := hz.at (p := ⟨w.heap.size, 1, none⟩) (v := .slice B t.length cb) ckA; have bq2 := hz.at (p := ⟨w.heap.size, 2, none⟩) (v := .int .i64 cap) ckA; have bq3 := hz.at (p := ⟨w.heap.size, 3, none⟩) (v := .bool false) ckA
        have zq0 := hz.at (p := ⟨w.heap.size + 1, 0, none⟩) (v := .slice none 0 0) (by simp [go_sem]); have zq1 := hz.at (p := ⟨w.heap.size + 1, 1, none⟩) (v := .slice none 0 0) (by simp [go_sem]); have zq2 := hz.at (p := ⟨w.heap.size + 1, 2, none⟩) (v := .int .i64 0) (by simp [go_sem]); have zq3 := hz.at (p := ⟨w.heap.size + 1, 3, none⟩) (v := .bool false) (by simp [go_sem])
        have zr0 : w1.frozen? ⟨w.heap.size + 1, 0, none⟩ = false := (hz.frozen (p := ⟨w.heap.size + 1, 0, none⟩) (by simp)).trans (by simp [go_sem]); have zr1 : w1.frozen? ⟨w.heap.size + 1, 1, none⟩ = false := (hz.frozen (p := ⟨w.heap.size + 1, 1, none⟩) (by simp)).trans (by simp [go_sem]); have zr2 : w1.frozen? ⟨w.heap.size + 1, 2, none⟩ = false := (hz.frozen (p := ⟨w.heap.size + 1, 2, none⟩) (by simp)).trans (by simp [go_sem]); have zr3 : w1.frozen? ⟨w.heap.size + 1, 3, none⟩ = false := (hz.frozen (p := ⟨w.heap.size + 1, 3, none⟩) (by simp)).trans (by simp [go_sem])
        have z1 := hz.size; simp at z1
        go_wp2
        refine bodyPost_ret (v := .tuple #[.agg #[.slice none 0 0, .slice none 0 0, .int .i64 0, .bool false], .int .i64 2]) (by simp [results, Tryz.results107, go_sem, zq0, zq1, zq2, zq3]) rfl ?_
        exact RetDevE.zero HM.out.symm abA
      · go_enter Tryz.func107, Tryz.ntmps107
        go_wp2_with fail
        refine (checkUp_any A B ca cb s t cap false _ ls lt).mono ?_
        rintro e w1 ⟨r, hr, rfl, hz⟩
        obtain rfl : r = 0 := hr.out.trans HU.out
        have bq0 := hz.at (p := ⟨w.heap.size, 0, none⟩) (v := .slice A s.length ca) ckA; have bq1 := hz.at (p := ⟨w.heap.size, 1, none⟩) (v := .slice B t.length cb) ckA; have bq2 := hz.at (p := ⟨w.heap.size, 2, none⟩) (v := .int .i64 cap) ckA; have bq3 := hz.at (p := ⟨w.heap.size, 3, none⟩) (v := .bool false) ckA
        have zq0 := hz.at (p := ⟨w.heap.size + 1, 0, none⟩) (v := .slice none 0 0) (by simp [go_sem]); have zq1 := hz.at (p := ⟨w.heap.size + 1, 1, none⟩) (v := .slice none 0 0) (by simp [go_sem]); have zq2 := hz.at (p := ⟨w.heap.size + 1, 2, none⟩) (v := .int .i64 0) (by simp [go_sem]); have zq3 := hz.at (p := ⟨w.heap.size + 1, 3, none⟩) (v := .bool false) (by simp [go_sem])
        have zr0 : w1.frozen? ⟨w.heap.size + 1, 0, none⟩ = false := (hz.frozen (p := ⟨w.heap.size + 1, 0, none⟩) (by simp)).trans (by simp [go_sem]); have zr1 : w1.frozen? ⟨w.heap.size + 1, 1, none⟩ = false := (hz.frozen (p := ⟨w.heap.size + 1, 1, none⟩) (by simp)).trans (by simp [go_sem]); have zr2 : w1.frozen? ⟨w.heap.size + 1, 2, none⟩ = false := (hz.frozen (p := ⟨w.heap.size + 1, 2, none⟩) (by simp)).trans (by simp [go_sem]); have zr3 : w1.frozen? ⟨w.heap.size + 1, 3, none⟩ = false := (hz.frozen (p := ⟨w.heap.size + 1, 3, none⟩) (by simp)).trans (by simp [go_sem])
        have z1 := hz.size; simp at z1
        go_wp2_with fail
        refine (bytesOf_any A B ca cb s t cap false _ ls lt).mono ?_
        rintro e w2 ⟨rfl, hb2⟩
        have hz2 : Ab ((w.alloc (.cells #[.slice A s.length ca, .slice B t.length cb, .int .i64 cap, .bool false] 24)).alloc (.cells #[.slice none 0 0, .slice none 0 0, .int .i64 0, .bool false] 24)) w2 := abA
        have zq0 := hz2.at (p := ⟨w.heap.size + 1, 0, none⟩) (v := .slice none 0 0) (by simp [go_sem]); have zq1 := hz2.at (p := ⟨w.heap.size + 1, 1, none⟩) (v := .slice none 0 0) (by simp [go_sem]); have zq2 := hz2.at (p := ⟨w.heap.size + 1, 2, none⟩) (v := .int .i64 0) (by simp [go_sem]); have zq3 := hz2.at (p := ⟨w.heap.size + 1, 3, none⟩) (v := .bool false) (by simp [go_sem])
        have zr0 : w2.frozen? ⟨w.heap.size + 1, 0, none⟩ = false := (hz2.frozen (p := ⟨w.heap.size + 1, 0, none⟩) (by simp)).trans (by simp [go_sem]); have zr1 : w2.frozen? ⟨w.heap.size + 1, 1, none⟩ = false := (hz2.frozen (p := ⟨w.heap.size + 1, 1, none⟩) (by simp)).trans (by simp [go_sem]); have zr2 : w2.frozen? ⟨w.heap.size + 1, 2, none⟩ = false := (hz2.frozen (p := ⟨w.heap.size + 1, 2, none⟩) (by simp)).trans (by simp [go_sem]); have zr3 : w2.frozen? ⟨w.heap.size + 1, 3, none⟩ = false := (hz2.frozen (p := ⟨w.heap.size + 1, 3, none⟩) (by simp)).trans (by simp [go_sem])
        go_wp2
        all_goals first | (exfalso; omega) | skip
        refine bodyPost_ret (v := .tuple #[.agg #[.slice none 0 0, .slice none 0 0, .int .i64 0, .bool false], .int .i64 2]) (by simp [results, Tryz.results107, go_sem, zq0, zq1, zq2, zq3]) rfl ?_
        exact RetDevE.zero HM.out.symm abA
    obtain ⟨k, rfl⟩ := Int.eq_ofNat_of_zero_le (by omega : 0 ≤ n)
    have hbig : k ≤ s.length + t.length := by omega
    have HM := Lib.hid (show truncate ⟨s, t, cap, false⟩ (k : Int) = (⟨s.take k, t.take (k - s.length), cap, false⟩, 0) by
      unfold truncate; rw [if_neg (by simpa using HU.out)]; exact if_neg hn0)
    clear hn0
    rcases Nat.lt_or_ge s.length k with hks | hks
    · obtain ⟨j, rfl⟩ : ∃ j, k = s.length + j := ⟨k - s.length, by omega⟩
      have hj1 : (0 : Int) ≤ (j : Int) := by omega
      have hj2 : (j : Int) ≤ (cb : Int) := by omega
      have hj3 : 0 < j := by omega
      go_enter Tryz.func107, Tryz.ntmps107
      go_wp2_with fail
      refine (checkUp_any A B ca cb s t cap false _ ls lt).mono ?_
      rintro e w1 ⟨r, hr, rfl, hz⟩
      obtain rfl : r = 0 := hr.out.trans HU.out
      have bq0 := hz.at (p := ⟨w.heap.size, 0, none⟩) (v := .slice A s.length ca) ckA; have bq1 := hz.at (p := ⟨w.heap.size, 1, none⟩) (v := .slice B t.length cb) ckA; have bq2 := hz.at (p := ⟨w.heap.size, 2, none⟩) (v := .int .i64 cap) ckA; have bq3 := hz.at (p := ⟨w.heap.size, 3, none⟩) (v := .bool false) ckA
      have zq0 := hz.at (p := ⟨w.heap.size + 1, 0, none⟩) (v := .slice none 0 0) (by simp [go_sem]); have zq1 := hz.at (p := ⟨w.heap.size + 1, 1, none⟩) (v := .slice none 0 0) (by simp [go_sem]); have zq2 := hz.at (p := ⟨w.heap.size + 1, 2, none⟩) (v := .int .i64 0) (by simp [go_sem]); have zq3 := hz.at (p := ⟨w.heap.size + 1, 3, none⟩) (v := .bool false) (by simp [go_sem])
      have zr0 : w1.frozen? ⟨w.heap.size + 1, 0, none⟩ = false := (hz.frozen (p := ⟨w.heap.size + 1, 0, none⟩) (by simp)).trans (by simp [go_sem]); have zr1 : w1.frozen? ⟨w.heap.size + 1, 1, none⟩ = false := (hz.frozen (p := ⟨w.heap.size + 1, 1, none⟩) (by simp)).trans (by simp [go_sem]); have zr2 : w1.frozen? ⟨w.heap.size + 1, 2, none⟩ = false := (hz.frozen (p := ⟨w.heap.size + 1, 2, none⟩) (by simp)).trans (by simp [go_sem]); have zr3 : w1.frozen? ⟨w.heap.size + 1, 3, none⟩ = false := (hz.frozen (p := ⟨w.heap.size + 1, 3, none⟩) (by simp)).trans (by simp [go_sem])
      have z1 := hz.size; simp at z1
      go_wp2_with fail
      refine (bytesOf_any A B ca cb s t cap false _ ls lt).mono ?_
      rintro e w2 ⟨rfl, hb2⟩
      have hz2 : Ab ((w.alloc (.cells #[.slice A s.length ca, .slice B t.length cb, .int .i64 cap, .bool false] 24)).alloc (.cells #[.slice none 0 0, .slice none 0 0, .int .i64 0, .bool false] 24)) w2 := abA
      have bq0 := hz2.at (p := ⟨w.heap.size, 0, none⟩) (v := .slice A s.length ca) ckA; have bq1 := hz2.at (p := ⟨w.heap.size, 1, none⟩) (v := .slice B t.length cb) ckA; have bq2 := hz2.at (p := ⟨w.heap.size, 2, none⟩) (v := .int .i64 cap) ckA; have bq3 := hz2.at (p := ⟨w.heap.size, 3, none⟩) (v := .bool false) ckA
      have z2 := hz2.size; simp at z2
      go_wp2_with fail
      have hw : IntKind.i64.wrap ((s.length : Int) + (j : Int) - (s.length : Int)) = (j : Int) := by rw [IntWalk.i64_in _ (by omega)]; omega
      have hs1 : (0 : Int) ≤ (s.length : Int) := by omega
      have hs2 : (s.length : Int) ≤ (ca : Int) := by omega
      go_region_held3 (fun w' => w'.cell? ⟨w.heap.size, 0, none⟩ = some (.slice A s.length ca) ∧ w'.cell? ⟨w.heap.size, 1, none⟩ = some (.slice B t.length cb) ∧ w'.cell? ⟨w.heap.size, 2, none⟩ = some (.int .i64 cap) ∧ w'.cell? ⟨w.heap.size, 3, none⟩ = some (.bool false)) ((refine ⟨?_, ?_, ?_, ?_⟩ <;> (exact ckA)))
        ((first
          | (have tok := o3
             (go_at_call 116
              (with_reducible refine (concat1_any _ _ j cb B (t.take j) _ (by (exact ckA)) (by first | rfl | (simp; done) | (simp; omega) | omega) (RB.ab (ht.take j) abA) (by simp; omega) wnA).mono ?_)
              rintro e w4 ⟨L4, D4, c4, e4, rfl, o4, hb4⟩
              have zw4 := hb4.size; (try simp at zw4)
              have o4 : OR 5 (w.heap.size + 1 + 1) w4 D4 c4 L4 := OR.mono o4 wnA))
          | (go_at_call 116
             (with_reducible refine (concat1_any _ _ s.length ca A s _ (by (exact ckA)) (by first | rfl | (simp; done) | (simp; omega) | omega) (RB.ab hs abA) hca wnA).mono ?_)
             rintro e w3 ⟨L3, D3, c3, e3, rfl, o3, hb3⟩
             have zw3 := hb3.size; (try simp at zw3)
             have o3 : OR 5 (w.heap.size + 1 + 1) w3 D3 c3 L3 := OR.mono o3 wnA)
          | (go_at_call 115
             refine (with_any A B ca cb s t cap false _ D3 D4 _ _ c3 c4).mono ?_
             rintro e w5 ⟨rfl, hb5⟩
             have hz5 : Ab ((w.alloc (.cells #[.slice A s.length ca, .slice B t.length cb, .int .i64 cap, .bool false] 24)).alloc (.cells #[.slice none 0 0, .slice none 0 0, .int .i64 0, .bool false] 24)) w5 := abA
             have zq0 := hz5.at (p := ⟨w.heap.size + 1, 0, none⟩) (v := .slice none 0 0) (by simp [go_sem]); have zq1 := hz5.at (p := ⟨w.heap.size + 1, 1, none⟩) (v := .slice none 0 0) (by simp [go_sem]); have zq2 := hz5.at (p := ⟨w.heap.size + 1, 2, none⟩) (v := .int .i64 0) (by simp [go_sem]); have zq3 := hz5.at (p := ⟨w.heap.size + 1, 3, none⟩) (v := .bool false) (by simp [go_sem])
             have zr0 : w5.frozen? ⟨w.heap.size + 1, 0, none⟩ = false := (hz5.frozen (p := ⟨w.heap.size + 1, 0, none⟩) (by simp)).trans (by simp [go_sem]); have zr1 : w5.frozen? ⟨w.heap.size + 1, 1, none⟩ = false := (hz5.frozen (p := ⟨w.heap.size + 1, 1, none⟩) (by simp)).trans (by simp [go_sem]); have zr2 : w5.frozen? ⟨w.heap.size + 1, 2, none⟩ = false := (hz5.frozen (p := ⟨w.heap.size + 1, 2, none⟩) (by simp)).trans (by simp [go_sem]); have zr3 : w5.frozen? ⟨w.heap.size + 1, 3, none⟩ = false := (hz5.frozen (p := ⟨w.heap.size + 1, 3, none⟩) (by simp)).trans (by simp [go_sem]); clear hz5)))
      all_goals go_wp2
      all_goals refine bodyPost_ret (v := .tuple #[.agg #[.slice D3 L3.length c3, .slice D4 L4.length c4, .int .i64 cap, .bool false], .int .i64 0]) (by simp [results, Tryz.results107, go_sem, zq0, zq1, zq2, zq3]) rfl ?_
      all_goals exact ⟨⟨L3, L4, cap, false⟩, 0, D3, D4, c3, c4, Lib.hid (by rw [HM.out, e3.out, e4.out, Nat.add_sub_cancel_left, List.take_of_length_le (l := s) (by omega)]), rfl, (show OR 5 w.heap.size _ D3 c3 L3 from OR.mono (lo := w.heap.size + 1 + 1) orA wnA), (show OR 5 w.heap.size _ D4 c4 L4 from OR.mono (lo := w.heap.size + 1 + 1) orA wnA), abA⟩
    · go_enter Tryz.func107, Tryz.ntmps107
      go_wp2_with fail
      refine (checkUp_any A B ca cb s t cap false _ ls lt).mono ?_
      rintro e w1 ⟨r, hr, rfl, hz⟩
      obtain rfl : r = 0 := hr.out.trans HU.out
      have bq0 := hz.at (p := ⟨w.heap.size, 0, none⟩) (v := .slice A s.length ca) ckA; have bq1 := hz.at (p := ⟨w.heap.size, 1, none⟩) (v := .slice B t.length cb) ckA; have bq2 := hz.at (p := ⟨w.heap.size, 2, none⟩) (v := .int .i64 cap) ckA; have bq3 := hz.at (p := ⟨w.heap.size, 3, none⟩) (v := .bool false) ckA
      have zq0 := hz.at (p := ⟨w.heap.size + 1, 0, none⟩) (v := .slice none 0 0) (by simp [go_sem]); have zq1 := hz.at (p := ⟨w.heap.size + 1, 1, none⟩) (v := .slice none 0 0) (by simp [go_sem]); have zq2 := hz.at (p := ⟨w.heap.size + 1, 2, none⟩) (v := .int .i64 0) (by simp [go_sem]); have zq3 := hz.at (p := ⟨w.heap.size + 1, 3, none⟩) (v := .bool false) (by simp [go_sem])
      have zr0 : w1.frozen? ⟨w.heap.size + 1, 0, none⟩ = false := (hz.frozen (p := ⟨w.heap.size + 1, 0, none⟩) (by simp)).trans (by simp [go_sem]); have zr1 : w1.frozen? ⟨w.heap.size + 1, 1, none⟩ = false := (hz.frozen (p := ⟨w.heap.size + 1, 1, none⟩) (by simp)).trans (by simp [go_sem]); have zr2 : w1.frozen? ⟨w.heap.size + 1, 2, none⟩ = false := (hz.frozen (p := ⟨w.heap.size + 1, 2, none⟩) (by simp)).trans (by simp [go_sem]); have zr3 : w1.frozen? ⟨w.heap.size + 1, 3, none⟩ = false := (hz.frozen (p := ⟨w.heap.size + 1, 3, none⟩) (by simp)).trans (by simp [go_sem])
      have z1 := hz.size; simp at z1
      go_wp2_with fail
      refine (bytesOf_any A B ca cb s t cap false _ ls lt).mono ?_
      rintro e w2 ⟨rfl, hb2⟩
      have hz2 : Ab ((w.alloc (.cells #[.slice A s.length ca, .slice B t.length cb, .int .i64 cap, .bool false] 24)).alloc (.cells #[.slice none 0 0, .slice none 0 0, .int .i64 0, .bool false] 24)) w2 := abA
      have bq0 := hz2.at (p := ⟨w.heap.size, 0, none⟩) (v := .slice A s.length ca) ckA; have bq1 := hz2.at (p := ⟨w.heap.size, 1, none⟩) (v := .slice B t.length cb) ckA; have bq2 := hz2.at (p := ⟨w.heap.size, 2, none⟩) (v := .int .i64 cap) ckA; have bq3 := hz2.at (p := ⟨w.heap.size, 3, none⟩) (v := .bool false) ckA
      have z2 := hz2.size; simp at z2
      go_wp2_with fail
      have hw : IntKind.i64.wrap ((k : Int) - (k : Int)) = 0 := by rw [Int.sub_self]; rfl
      have hw0 : IntKind.i64.wrap 0 = 0 := rfl
      have hcb0 : (0 : Int) ≤ (cb : Int) := by omega
      have hs1 : (0 : Int) ≤ (k : Int) := by omega
      have hs2 : (k : Int) ≤ (ca : Int) := by omega
      go_region_held3 (fun w' => w'.cell? ⟨w.heap.size, 0, none⟩ = some (.slice A s.length ca) ∧ w'.cell? ⟨w.heap.size, 1, none⟩ = some (.slice B t.length cb) ∧ w'.cell? ⟨w.heap.size, 2, none⟩ = some (.int .i64 cap) ∧ w'.cell? ⟨w.heap.size, 3, none⟩ = some (.bool false)) ((refine ⟨?_, ?_, ?_, ?_⟩ <;> (exact ckA)))
        ((first
          | (have tok := o3
             (go_at_call 116
              (with_reducible refine (concat1_any _ _ 0 cb B ([] : List UInt8) _ (by (exact ckA)) (by first | rfl | (simp; done) | (simp; omega) | omega) (RB.ab (RB.nil (w := w) (lo := 0) (A := B)) abA) (by simp) wnA).mono ?_)
              rintro e w4 ⟨L4, D4, c4, e4, rfl, o4, hb4⟩
              have zw4 := hb4.size; (try simp at zw4)
              have o4 : OR 5 (w.heap.size + 1 + 1) w4 D4 c4 L4 := OR.mono o4 wnA))
          | (go_at_call 116
             (with_reducible refine (concat1_any _ _ k ca A (s.take k) _ (by (exact ckA)) (by first | rfl | (simp; done) | (simp; omega) | omega) (RB.ab (hs.take k) abA) (by simp; omega) wnA).mono ?_)
             rintro e w3 ⟨L3, D3, c3, e3, rfl, o3, hb3⟩
             have zw3 := hb3.size; (try simp at zw3)
             have o3 : OR 5 (w.heap.size + 1 + 1) w3 D3 c3 L3 := OR.mono o3 wnA)
          | (go_at_call 115
             refine (with_any A B ca cb s t cap false _ D3 D4 _ _ c3 c4).mono ?_
             rintro e w5 ⟨rfl, hb5⟩
             have hz5 : Ab ((w.alloc (.cells #[.slice A s.length ca, .slice B t.length cb, .int .i64 cap, .bool false] 24)).alloc (.cells #[.slice none 0 0, .slice none 0 0, .int .i64 0, .bool false] 24)) w5 := abA
             have zq0 := hz5.at (p := ⟨w.heap.size + 1, 0, none⟩) (v := .slice none 0 0) (by simp [go_sem]); have zq1 := hz5.at (p := ⟨w.heap.size + 1, 1, none⟩) (v := .slice none 0 0) (by simp [go_sem]); have zq2 := hz5.at (p := ⟨w.heap.size + 1, 2, none⟩) (v := .int .i64 0) (by simp [go_sem]); have zq3 := hz5.at (p := ⟨w.heap.size + 1, 3, none⟩) (v := .bool false) (by simp [go_sem])
             have zr0 : w5.frozen? ⟨w.heap.size + 1, 0, none⟩ = false := (hz5.frozen (p := ⟨w.heap.size + 1, 0, none⟩) (by simp)).trans (by simp [go_sem]); have zr1 : w5.frozen? ⟨w.heap.size + 1, 1, none⟩ = false := (hz5.frozen (p := ⟨w.heap.size + 1, 1, none⟩) (by simp)).trans (by simp [go_sem]); have zr2 : w5.frozen? ⟨w.heap.size + 1, 2, none⟩ = false := (hz5.frozen (p := ⟨w.heap.size + 1, 2, none⟩) (by simp)).trans (by simp [go_sem]); have zr3 : w5.frozen? ⟨w.heap.size + 1, 3, none⟩ = false := (hz5.frozen (p := ⟨w.heap.size + 1, 3, none⟩) (by simp)).trans (by simp [go_sem]); clear hz5)))
      all_goals go_wp2
      all_goals refine bodyPost_ret (v := .tuple #[.agg #[.slice D3 L3.length c3, .slice D4 L4.length c4, .int .i64 cap, .bool false], .int .i64 0]) (by simp [results, Tryz.results107, go_sem, zq0, zq1, zq2, zq3]) rfl ?_
      all_goals exact ⟨⟨L3, L4, cap, false⟩, 0, D3, D4, c3, c4, Lib.hid (by rw [HM.out, e3.out, e4.out, Nat.sub_eq_zero_of_le hks, List.take_zero]), rfl, (show OR 5 w.heap.size _ D3 c3 L3 from OR.mono (lo := w.heap.size + 1 + 1) orA wnA), (show OR 5 w.heap.size _ D4 c4 L4 from OR.mono (lo := w.heap.size + 1 + 1) orA wnA), abA⟩
  · have HM := Lib.hid (show truncate ⟨s, t, cap, dn⟩ n = (Disk.zero, up ⟨s, t, cap, dn⟩) from if_pos hu)
    generalize hv : up ⟨s, t, cap, dn⟩ = u at hu HM
    have HV := Lib.hid hv; clear hv
    have hne : (u != 0) = true := by simpa using hu
    clear hu
    go_enter Tryz.func107, Tryz.ntmps107
    go_wp2_with fail
    refine (checkUp_any A B ca cb s t cap dn _ ls lt).mono ?_
    rintro e w1 ⟨r, hr, rfl, hb1⟩
    obtain rfl : r = u := hr.out.trans HV.out
    have zq0 := hb1.at (p := ⟨w.heap.size + 1, 0, none⟩) (v := .slice none 0 0) (by simp [go_sem]); have zq1 := hb1.at (p := ⟨w.heap.size + 1, 1, none⟩) (v := .slice none 0 0) (by simp [go_sem]); have zq2 := hb1.at (p := ⟨w.heap.size + 1, 2, none⟩) (v := .int .i64 0) (by simp [go_sem]); have zq3 := hb1.at (p := ⟨w.heap.size + 1, 3, none⟩) (v := .bool false) (by simp [go_sem])
    have zr0 : w1.frozen? ⟨w.heap.size + 1, 0, none⟩ = false := (hb1.frozen (p := ⟨w.heap.size + 1, 0, none⟩) (by simp)).trans (by simp [go_sem]); have zr1 : w1.frozen? ⟨w.heap.size + 1, 1, none⟩ = false := (hb1.frozen (p := ⟨w.heap.size + 1, 1, none⟩) (by simp)).trans (by simp [go_sem]); have zr2 : w1.frozen? ⟨w.heap.size + 1, 2, none⟩ = false := (hb1.frozen (p := ⟨w.heap.size + 1, 2, none⟩) (by simp)).trans (by simp [go_sem]); have zr3 : w1.frozen? ⟨w.heap.size + 1, 3, none⟩ = false := (hb1.frozen (p := ⟨w.heap.size + 1, 3, none⟩) (by simp)).trans (by simp [go_sem])
    go_wp2
    refine bodyPost_ret (v := .tuple #[.agg #[.slice none 0 0, .slice none 0 0, .int .i64 0, .bool false], .int .i64 r]) (by simp [results, Tryz.results107, go_sem, zq0, zq1, zq2, zq3]) rfl ?_
    exact RetDevE.zero HM.out.symm abA

set_option maxHeartbeats 1600000 in
theorem drop_any (A B : Option Addr) (ca cb : Nat) (s t : List UInt8) (cap : Int) (dn : Bool) (w : World) (hs : RB w 0 A s) (ht : RB w 0 B t) (hca : s.length ≤ ca) (hcb : t.length ≤ cb) (ls : s.length ≤ 1000000) (lt : t.length ≤ 1000000) (n : Int) :
    Calls Tryz.prog 122 #[.agg #[.slice A s.length ca, .slice B t.length cb, .int .i64 cap, .bool dn], .int .i64 n] w (RetDevE w (drop ⟨s, t, cap, dn⟩ n)) := by
  by_cases hu : up ⟨s, t, cap, dn⟩ = 0
  · obtain ⟨hnb, hdn⟩ := up_zero hu
    obtain rfl : dn = false := hdn
    have HU := Lib.hid hu; have HN := Lib.hid hnb; clear hu hnb
    by_cases hn0 : n < 0 ∨ (s.length : Int) < n
    · have HM := Lib.hid (show drop ⟨s, t, cap, false⟩ n = (Disk.zero, 2) by
        unfold drop; rw [if_neg (by simpa using HU.out), if_pos hn0])
      rcases hn0 with hn0 | hn0
      all_goals
        go_enter Tryz.func122, Tryz.ntmps122
        go_wp2_with fail
        refine (checkUp_any A B ca cb s t cap false _ ls lt).mono ?_
        rintro e w1 ⟨r, hr, rfl, hz⟩
        obtain rfl : r = 0 := hr.out.trans HU.out
        have bq0 := hz.at (p := ⟨w.heap.size, 0, none⟩) (v := .slice A s.length ca) ckA; have bq1 := hz.at (p := ⟨w.heap.size, 1, none⟩) (v := .slice B t.length cb) ckA; have bq2 := hz.at (p := ⟨w.heap.size, 2, none⟩) (v := .int .i64 cap) ckA; have bq3 := hz.at (p := ⟨w.heap.size, 3, none⟩) (v := .bool false) ckA
        have zq0 := hz.at (p := ⟨w.heap.size + 1, 0, none⟩) (v := .slice none 0 0) (by simp [go_sem]); have zq1 := hz.at (p := ⟨w.heap.size + 1, 1, none⟩) (v := .slice none 0 0) (by simp [go_sem]); have zq2 := hz.at (p := ⟨w.heap.size + 1, 2, none⟩) (v := .int .i64 0) (by simp [go_sem]); have zq3 := hz.at (p := ⟨w.heap.size + 1, 3, none⟩) (v := .bool false) (by simp [go_sem])
        have zr0 : w1.frozen? ⟨w.heap.size + 1, 0, none⟩ = false := (hz.frozen (p := ⟨w.heap.size + 1, 0, none⟩) (by simp)).trans (by simp [go_sem]); have zr1 : w1.frozen? ⟨w.heap.size + 1, 1, none⟩ = false := (hz.frozen (p := ⟨w.heap.size + 1, 1, none⟩) (by simp)).trans (by simp [go_sem]); have zr2 : w1.frozen? ⟨w.heap.size + 1, 2, none⟩ = false := (hz.frozen (p := ⟨w.heap.size + 1, 2, none⟩) (by simp)).trans (by simp [go_sem]); have zr3 : w1.frozen? ⟨w.heap.size + 1, 3, none⟩ = false := (hz.frozen (p := ⟨w.heap.size + 1, 3, none⟩) (by simp)).trans (by simp [go_sem])
        have z1 := hz.size; simp at z1
        go_wp2
        refine bodyPost_ret (v := .tuple #[.agg #[.slice none 0 0, .slice none 0 0, .int .i64 0, .bool false], .int .i64 2]) (by simp [results, Tryz.results122, go_sem, zq0, zq1, zq2, zq3]) rfl ?_
        exact RetDevE.zero HM.out.symm abA
    obtain ⟨k, rfl⟩ := Int.eq_ofNat_of_zero_le (by omega : 0 ≤ n)
    have hks : k ≤ s.length := by omega
    have HM := Lib.hid (show drop ⟨s, t, cap, false⟩ (k : Int) = (⟨s.drop k, t, cap, false⟩, 0) by
      unfold drop; rw [if_neg (by simpa using HU.out), if_neg hn0]; simp)
    clear hn0
    have hk0 : (0 : Int) ≤ (k : Int) := by omega
    have hsl := fun a len cap w => run_cut k .i64 a len cap w
    go_enter Tryz.func122, Tryz.ntmps122
    go_wp2_with fail
    refine (checkUp_any A B ca cb s t cap false _ ls lt).mono ?_
    rintro e w1 ⟨r, hr, rfl, hz⟩
    obtain rfl : r = 0 := hr.out.trans HU.out
    have bq0 := hz.at (p := ⟨w.heap.size, 0, none⟩) (v := .slice A s.length ca) ckA; have bq1 := hz.at (p := ⟨w.heap.size, 1, none⟩) (v := .slice B t.length cb) ckA; have bq2 := hz.at (p := ⟨w.heap.size, 2, none⟩) (v := .int .i64 cap) ckA; have bq3 := hz.at (p := ⟨w.heap.size, 3, none⟩) (v := .bool false) ckA
    have zq0 := hz.at (p := ⟨w.heap.size + 1, 0, none⟩) (v := .slice none 0 0) (by simp [go_sem]); have zq1 := hz.at (p := ⟨w.heap.size + 1, 1, none⟩) (v := .slice none 0 0) (by simp [go_sem]); have zq2 := hz.at (p := ⟨w.heap.size + 1, 2, none⟩) (v := .int .i64 0) (by simp [go_sem]); have zq3 := hz.at (p := ⟨w.heap.size + 1, 3, none⟩) (v := .bool false) (by simp [go_sem])
    have zr0 : w1.frozen? ⟨w.heap.size + 1, 0, none⟩ = false := (hz.frozen (p := ⟨w.heap.size + 1, 0, none⟩) (by simp)).trans (by simp [go_sem]); have zr1 : w1.frozen? ⟨w.heap.size + 1, 1, none⟩ = false := (hz.frozen (p := ⟨w.heap.size + 1, 1, none⟩) (by simp)).trans (by simp [go_sem]); have zr2 : w1.frozen? ⟨w.heap.size + 1, 2, none⟩ = false := (hz.frozen (p := ⟨w.heap.size + 1, 2, none⟩) (by simp)).trans (by simp [go_sem]); have zr3 : w1.frozen? ⟨w.heap.size + 1, 3, none⟩ = false := (hz.frozen (p := ⟨w.heap.size + 1, 3, none⟩) (by simp)).trans (by simp [go_sem])
    have z1 := hz.size; simp at z1
    go_wp2_with fail
    go_region_held3 (fun w' => w'.cell? ⟨w.heap.size, 0, none⟩ = some (.slice A s.length ca) ∧ w'.cell? ⟨w.heap.size, 1, none⟩ = some (.slice B t.length cb) ∧ w'.cell? ⟨w.heap.size, 2, none⟩ = some (.int .i64 cap) ∧ w'.cell? ⟨w.heap.size, 3, none⟩ = some (.bool false)) ((refine ⟨?_, ?_, ?_, ?_⟩ <;> (exact ckA)))
      ((first
        | (have tok := o3
           (go_at_call 116
            (with_reducible refine (concat1_any _ _ t.length cb B t _ (by (exact ckA)) (by first | rfl | (simp; done) | (simp; omega) | omega) (RB.ab ht abA) hcb wnA).mono ?_)
            rintro e w4 ⟨L4, D4, c4, e4, rfl, o4, hb4⟩
            have zw4 := hb4.size; (try simp at zw4)
            have o4 : OR 5 (w.heap.size + 1 + 1) w4 D4 c4 L4 := OR.mono o4 wnA))
        | (go_at_call 116
           (with_reducible refine (concat1_any _ _ (s.length - k) (ca - k) (cutA A ca k) (s.drop k) _ (by (exact ckA)) (by first | rfl | (simp; done) | (simp; omega) | omega) (RB.ab (hs.cut k ca hca) abA) (by simp; omega) wnA).mono ?_)
           rintro e w3 ⟨L3, D3, c3, e3, rfl, o3, hb3⟩
           have zw3 := hb3.size; (try simp at zw3)
           have o3 : OR 5 (w.heap.size + 1 + 1) w3 D3 c3 L3 := OR.mono o3 wnA)
        | (go_at_call 115
           refine (with_any A B ca cb s t cap false _ D3 D4 _ _ c3 c4).mono ?_
           rintro e w5 ⟨rfl, hb5⟩
           have hz5 : Ab ((w.alloc (.cells #[.slice A s.length ca, .slice B t.length cb, .int .i64 cap, .bool false] 24)).alloc (.cells #[.slice none 0 0, .slice none 0 0, .int .i64 0, .bool false] 24)) w5 := abA
           have zq0 := hz5.at (p := ⟨w.heap.size + 1, 0, none⟩) (v := .slice none 0 0) (by simp [go_sem]); have zq1 := hz5.at (p := ⟨w.heap.size + 1, 1, none⟩) (v := .slice none 0 0) (by simp [go_sem]); have zq2 := hz5.at (p := ⟨w.heap.size + 1, 2, none⟩) (v := .int .i64 0) (by simp [go_sem]); have zq3 := hz5.at (p := ⟨w.heap.size + 1, 3, none⟩) (v := .bool false) (by simp [go_sem])
           have zr0 : w5.frozen? ⟨w.heap.size + 1, 0, none⟩ = false := (hz5.frozen (p := ⟨w.heap.size + 1, 0, none⟩) (by simp)).trans (by simp [go_sem]); have zr1 : w5.frozen? ⟨w.heap.size + 1, 1, none⟩ = false := (hz5.frozen (p := ⟨w.heap.size + 1, 1, none⟩) (by simp)).trans (by simp [go_sem]); have zr2 : w5.frozen? ⟨w.heap.size + 1, 2, none⟩ = false := (hz5.frozen (p := ⟨w.heap.size + 1, 2, none⟩) (by simp)).trans (by simp [go_sem]); have zr3 : w5.frozen? ⟨w.heap.size + 1, 3, none⟩ = false := (hz5.frozen (p := ⟨w.heap.size + 1, 3, none⟩) (by simp)).trans (by simp [go_sem]); clear hz5)))
    all_goals go_wp2
    all_goals refine bodyPost_ret (v := .tuple #[.agg #[.slice D3 L3.length c3, .slice D4 L4.length c4, .int .i64 cap, .bool false], .int .i64 0]) (by simp [results, Tryz.results122, go_sem, zq0, zq1, zq2, zq3]) rfl ?_
    all_goals exact ⟨⟨L3, L4, cap, false⟩, 0, D3, D4, c3, c4, Lib.hid (by rw [HM.out, e3.out, e4.out]), rfl, (show OR 5 w.heap.size _ D3 c3 L3 from OR.mono (lo := w.heap.size + 1 + 1) orA wnA), (show OR 5 w.heap.size _ D4 c4 L4 from OR.mono (lo := w.heap.size + 1 + 1) orA wnA), abA⟩
  · have HM := Lib.hid (show drop ⟨s, t, cap, dn⟩ n = (Disk.zero, up ⟨s, t, cap, dn⟩) from if_pos hu)
    generalize hv : up ⟨s, t, cap, dn⟩ = u at hu HM
    have HV := Lib.hid hv; clear hv
    have hne : (u != 0) = true := by simpa using hu
    clear hu
    go_enter Tryz.func122, Tryz.ntmps122
    go_wp2_with fail
    refine (checkUp_any A B ca cb s t cap dn _ ls lt).mono ?_
    rintro e w1 ⟨r, hr, rfl, hb1⟩
    obtain rfl : r = u := hr.out.trans HV.out
    have zq0 := hb1.at (p := ⟨w.heap.size + 1, 0, none⟩) (v := .slice none 0 0) (by simp [go_sem]); have zq1 := hb1.at (p := ⟨w.heap.size + 1, 1, none⟩) (v := .slice none 0 0) (by simp [go_sem]); have zq2 := hb1.at (p := ⟨w.heap.size + 1, 2, none⟩) (v := .int .i64 0) (by simp [go_sem]); have zq3 := hb1.at (p := ⟨w.heap.size + 1, 3, none⟩) (v := .bool false) (by simp [go_sem])
    have zr0 : w1.frozen? ⟨w.heap.size + 1, 0, none⟩ = false := (hb1.frozen (p := ⟨w.heap.size + 1, 0, none⟩) (by simp)).trans (by simp [go_sem]); have zr1 : w1.frozen? ⟨w.heap.size + 1, 1, none⟩ = false := (hb1.frozen (p := ⟨w.heap.size + 1, 1, none⟩) (by simp)).trans (by simp [go_sem]); have zr2 : w1.frozen? ⟨w.heap.size + 1, 2, none⟩ = false := (hb1.frozen (p := ⟨w.heap.size + 1, 2, none⟩) (by simp)).trans (by simp [go_sem]); have zr3 : w1.frozen? ⟨w.heap.size + 1, 3, none⟩ = false := (hb1.frozen (p := ⟨w.heap.size + 1, 3, none⟩) (by simp)).trans (by simp [go_sem])
    go_wp2
    refine bodyPost_ret (v := .tuple #[.agg #[.slice none 0 0, .slice none 0 0, .int .i64 0, .bool false], .int .i64 r]) (by simp [results, Tryz.results122, go_sem, zq0, zq1, zq2, zq3]) rfl ?_
    exact RetDevE.zero HM.out.symm abA

theorem read_any (A B : Option Addr) (ca cb : Nat) (s t : List UInt8) (cap : Int) (dn : Bool) (w : World) (hs : RB w 0 A s) (ht : RB w 0 B t) (hca : s.length ≤ ca) (hcb : t.length ≤ cb) (ls : s.length ≤ 1000000) (lt : t.length ≤ 1000000) (at_ n : Int) (hat : at_ ≤ 9223372036854775807) (hat0 : -9223372036854775808 ≤ at_) :
    Calls Tryz.prog 127 #[.agg #[.slice A s.length ca, .slice B t.length cb, .int .i64 cap, .bool dn], .int .i64 at_, .int .i64 n] w (RetBE w (Disk.read ⟨s, t, cap, dn⟩ at_ n)) := by
  by_cases hu : up ⟨s, t, cap, dn⟩ = 0
  · obtain ⟨hnb, hdn⟩ := up_zero hu
    obtain rfl : dn = false := hdn
    have HU := Lib.hid hu; have HN := Lib.hid hnb; clear hu hnb
    by_cases hn : at_ < 0 ∨ n < 0 ∨ ((s.length + t.length : Nat) : Int) - at_ < n
    · have HM := Lib.hid (show Disk.read ⟨s, t, cap, false⟩ at_ n = ([], 2) by
        unfold Disk.read; rw [if_neg (by simpa using HU.out)]; exact if_pos hn)
      go_enter Tryz.func127, Tryz.ntmps127
      go_wp2_with fail
      refine (checkUp_any A B ca cb s t cap false _ ls lt).mono ?_
      rintro e w1 ⟨r, hr, rfl, hb1⟩
      obtain rfl : r = 0 := hr.out.trans HU.out
      have bq0 := hb1.at (p := ⟨w.heap.size, 0, none⟩) (v := .slice A s.length ca) ckA; have bq1 := hb1.at (p := ⟨w.heap.size, 1, none⟩) (v := .slice B t.length cb) ckA; have bq2 := hb1.at (p := ⟨w.heap.size, 2, none⟩) (v := .int .i64 cap) ckA; have bq3 := hb1.at (p := ⟨w.heap.size, 3, none⟩) (v := .bool false) ckA
      go_wp2_with ((go_at_call 114
                    refine (bytesOf_any A B ca cb s t cap false _ ls lt).mono ?_
                    rintro e w2 ⟨rfl, hb2⟩))
      all_goals first | (exfalso; omega) | skip
      all_goals go_ret2
      all_goals exact ⟨[], 2, none, 0, HM.out.symm, rfl, RB.nil, Nat.le_refl _, abA⟩
    obtain ⟨i, rfl⟩ := Int.eq_ofNat_of_zero_le (by omega : 0 ≤ at_)
    obtain ⟨k, rfl⟩ := Int.eq_ofNat_of_zero_le (by omega : 0 ≤ n)
    have hik : i + k ≤ s.length + t.length := by omega
    have HM := Lib.hid (show Disk.read ⟨s, t, cap, false⟩ (i : Int) (k : Int) = (((s ++ t).drop i).take k, 0) by
      unfold Disk.read; rw [if_neg (by simpa using HU.out)]; exact if_neg hn)
    clear hn
    obtain ⟨m, hm⟩ : ∃ m : Nat, m = i + k := ⟨_, rfl⟩
    have hmm : (i : Int) + (k : Int) = (m : Int) := by omega
    have hm1 : m ≤ s.length + t.length := by omega
    have hm2 : i ≤ m := by omega
    have hms : m - i = k := by omega
    have HK := Lib.hid hms; clear hm hms
    have hsl := fun a len cap w => run_cuts i m .i64 .i64 a len cap w
    go_enter Tryz.func127, Tryz.ntmps127
    go_wp2_with fail
    refine (checkUp_any A B ca cb s t cap false _ ls lt).mono ?_
    rintro e w1 ⟨r, hr, rfl, hb1⟩
    obtain rfl : r = 0 := hr.out.trans HU.out
    have bq0 := hb1.at (p := ⟨w.heap.size, 0, none⟩) (v := .slice A s.length ca) ckA; have bq1 := hb1.at (p := ⟨w.heap.size, 1, none⟩) (v := .slice B t.length cb) ckA; have bq2 := hb1.at (p := ⟨w.heap.size, 2, none⟩) (v := .int .i64 cap) ckA; have bq3 := hb1.at (p := ⟨w.heap.size, 3, none⟩) (v := .bool false) ckA
    go_wp2_with fail
    refine (bytesOf_any A B ca cb s t cap false _ ls lt).mono ?_
    rintro e w2 ⟨rfl, hb2⟩
    have hz2 : Ab (w.alloc (.cells #[.slice A s.length ca, .slice B t.length cb, .int .i64 cap, .bool false] 24)) w2 := abA
    have bq0 := hz2.at (p := ⟨w.heap.size, 0, none⟩) (v := .slice A s.length ca) ckA; have bq1 := hz2.at (p := ⟨w.heap.size, 1, none⟩) (v := .slice B t.length cb) ckA; have bq2 := hz2.at (p := ⟨w.heap.size, 2, none⟩) (v := .int .i64 cap) ckA; have bq3 := hz2.at (p := ⟨w.heap.size, 3, none⟩) (v := .bool false) ckA
    go_wp2_with fail
    refine (concat2_any _ _ s.length ca t.length cb A B s t _ (by (exact ckA)) rfl (RB.ab hs abA) hca (by (exact ckA)) rfl (RB.ab ht abA) hcb (by omega)).mono ?_
    rintro e w3 ⟨x, D, c, hx, rfl, ho, hb3⟩
    obtain ⟨xa, xb⟩ : x.length ≤ s.length + t.length ∧ s.length + t.length ≤ x.length := by rw [hx.out]; simp
    have hmc : m ≤ c := by have := ho.le; omega
    go_wp2
    go_ret2
    exact ⟨(x.drop i).take k, 0, cutA D c i, c - i, Lib.hid (by rw [HM.out, hx.out]), by rw [HK.out]; simp; omega, ((ho.rb.mono (Ab.size abA)).cut i c ho.le).take k, by have := ho.le; simp; omega, abA⟩
  · have HM := Lib.hid (show Disk.read ⟨s, t, cap, dn⟩ at_ n = ([], up ⟨s, t, cap, dn⟩) from if_pos hu)
    generalize hv : up ⟨s, t, cap, dn⟩ = u at hu HM
    have HV := Lib.hid hv; clear hv
    have hne : (u != 0) = true := by simpa using hu
    clear hu
    go_enter Tryz.func127, Tryz.ntmps127
    go_wp2_with fail
    refine (checkUp_any A B ca cb s t cap dn _ ls lt).mono ?_
    rintro e w1 ⟨r, hr, rfl, hb1⟩
    obtain rfl : r = u := hr.out.trans HV.out
    go_wp2
    go_ret2
    exact ⟨[], r, none, 0, HM.out.symm, rfl, RB.nil, Nat.le_refl _, abA⟩
end Go.Proofs.YthgcfjhnnhigoaaGreat
