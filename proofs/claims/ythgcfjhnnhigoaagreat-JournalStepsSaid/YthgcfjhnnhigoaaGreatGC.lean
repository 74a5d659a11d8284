/- The texts Whole, Parted, Twin, RefA, RefB, RefC, RefD, RefE, RefF, one behind the other. Own work. -/
import Derived.Test.YthgcfjhnnhigoaaGreatGB
import Derived.Deep.DeepCutAuto
set_option linter.unusedVariables false
namespace Go.Proofs.YthgcfjhnnhigoaaGreat
open Go.RowKit

set_option maxHeartbeats 800000 in
theorem whole_any (A B : Option Addr) (ca cb : Nat) (s t : List UInt8) (cap : Int) (dn : Bool) (w : World) (hs : RB w 0 A s) (ht : RB w 0 B t) (hca : s.length ≤ ca) (hcb : t.length ≤ cb) (ls : s.length ≤ 1000000) (lt : t.length ≤ 1000000) :
    Calls Tryz.prog 70 #[.agg #[.slice A s.length ca, .slice B t.length cb, .int .i64 cap, .bool dn]] w (RetB w (s ++ t)) := by
  go_enter Tryz.func70, Tryz.ntmps70
  go_wp2_with fail
  go_region_held3 (fun w' => w'.cell? ⟨w.heap.size, 0, none⟩ = some (.slice A s.length ca) ∧ w'.cell? ⟨w.heap.size, 1, none⟩ = some (.slice B t.length cb) ∧ w'.cell? ⟨w.heap.size, 2, none⟩ = some (.int .i64 cap))
    ((refine ⟨?_, ?_, ?_⟩ <;> (exact ckA)))
    ((first
      | (refine stepLit (by rfl) _ _ (by rfl) (by rfl) (by rfl) (m := s) (by first | rfl | (simp; done) | (simp; omega)) (by (repeat (first | with_reducible exact new_drew (by first | (simp; done) | (simp; omega)) | with_reducible exact new_plain (by first | (simp; done) | (simp; omega)) | with_reducible exact new_drewN (by first | (simp; done) | (simp; omega)) | with_reducible refine old_alloc ?_ | with_reducible refine old_drew ?_ | with_reducible refine old_drewN ?_ _ | with_reducible refine old_grown (by assumption) (by simp) ?_ | with_reducible refine old_ab (by assumption) ?_))) (hs.ab abA) hca wnA ?_
         intro A1 c1 w1 L1 e1 a1 o1; have l1 : L1.length = s.length := by rw [e1.out]
         have l1' := Nat.le_of_eq l1; clear l1; have z1 := a1.size; (try simp at z1); have p1 := o1 (w.heap.size + 1) wnA wnA)
      | (refine stepApp (by rfl) _ _ (by rfl) (by rfl) (by rfl) (m := t) (by first | rfl | (simp; done) | (simp; omega)) p1 wnA (ht.ab abA) hcb wnA ?_
         intro A2 c2 w2 L2 e2 p2 _ b2; have a2 := b2 (w.alloc (.cells #[.slice A s.length ca, .slice B t.length cb, .int .i64 cap, .bool dn] 24)) abA wnA)))
  go_wp2
  go_ret
  exact ⟨L2, A2, c2, Lib.hid (by rw [e2.out, e1.out]), rfl, p2.mono wnA, abA⟩
end Go.Proofs.YthgcfjhnnhigoaaGreat

namespace Go.Proofs.YthgcfjhnnhigoaaGreat
open Go.RowKit Disk

set_option maxRecDepth 100000 in
set_option maxHeartbeats 1600000 in
theorem parted_any (A B : Option Addr) (ca cb : Nat) (s t : List UInt8) (cap : Int) (dn : Bool) (w : World) (C : Option Addr) (cc : Nat) (x : List UInt8) (k : Nat) (nx : Nat) (hnx : x.length = nx) (ki : Int) (hki : (k : Int) = ki) (hx : RB w 0 C x) (hcc : x.length ≤ cc) (lx : x.length ≤ 4000000) (hk : k ≤ x.length) :
    Calls Tryz.prog 117 #[.agg #[.slice A s.length ca, .slice B t.length cb, .int .i64 cap, .bool dn], .slice C nx cc, .int .i64 ki] w (RetDev w ⟨x.take k, x.drop k, cap, false⟩) := by
  subst hnx; subst hki
  have hk1 : (k : Int) ≤ (x.length : Int) := by omega
  have hk2 : (k : Int) ≤ (cc : Int) := by omega
  go_enter Tryz.func117, Tryz.ntmps117
  go_wp2_with fail
  go_region_held3 (fun w' => w'.cell? ⟨w.heap.size, 0, none⟩ = some (.slice A s.length ca) ∧ w'.cell? ⟨w.heap.size, 1, none⟩ = some (.slice B t.length cb) ∧ w'.cell? ⟨w.heap.size, 2, none⟩ = some (.int .i64 cap) ∧ w'.cell? ⟨w.heap.size, 3, none⟩ = some (.bool dn))
    ((refine ⟨?_, ?_, ?_, ?_⟩ <;> (exact ckA)))
    ((first
      | (refine stepLit (by rfl) _ _ (by rfl) (by rfl) (by rfl) (m := (x.take k)) (by first | rfl | (simp; done) | (simp; omega)) (by (repeat (first | with_reducible exact new_drew (by first | (simp; done) | (simp; omega)) | with_reducible exact new_plain (by first | (simp; done) | (simp; omega)) | with_reducible exact new_drewN (by first | (simp; done) | (simp; omega)) | with_reducible refine old_alloc ?_ | with_reducible refine old_drew ?_ | with_reducible refine old_drewN ?_ _ | with_reducible refine old_grown (by assumption) (by simp) ?_ | with_reducible refine old_ab (by assumption) ?_))) ((hx.take k).ab abA) (by simp; omega) wnA ?_
         intro A1 c1 w1 L1 e1 a1 o1; have z1 := a1.size; (try simp at z1); have p1 := o1 (w.heap.size + 2) wnA wnA)
      | (go_loud (refine stepLit (by rfl) _ _ (by rfl) (by rfl) (by rfl) (m := (x.drop k)) (by first | rfl | (simp; done) | (simp; omega)) (by (repeat (first | with_reducible exact new_drew (by first | (simp; done) | (simp; omega)) | with_reducible exact new_plain (by first | (simp; done) | (simp; omega)) | with_reducible exact new_drewN (by first | (simp; done) | (simp; omega)) | with_reducible refine old_alloc ?_ | with_reducible refine old_drew ?_ | with_reducible refine old_drewN ?_ _ | with_reducible refine old_grown (by assumption) (by simp) ?_ | with_reducible refine old_ab (by assumption) ?_))) ((hx.drop k cc hcc).ab abA) (by simp; omega) wnA ?_)
         intro A2 c2 w2 L2 e2 a2 o2; have z2 := a2.size; (try simp at z2); have p2 := o2 (w.heap.size + 2) wnA wnA
         have b2 : Ab ((w.alloc (.cells #[.slice A s.length ca, .slice B t.length cb, .int .i64 cap, .bool dn] 24)).alloc (.cells #[.slice none 0 0, .slice none 0 0, .int .i64 0, .bool false] 24)) w2 := abA
         have zq0 := b2.at (p := ⟨w.heap.size + 1, 0, none⟩) (v := .slice none 0 0) (by simp [go_sem]); have zq1 := b2.at (p := ⟨w.heap.size + 1, 1, none⟩) (v := .slice none 0 0) (by simp [go_sem]); have zq2 := b2.at (p := ⟨w.heap.size + 1, 2, none⟩) (v := .int .i64 0) (by simp [go_sem]); have zq3 := b2.at (p := ⟨w.heap.size + 1, 3, none⟩) (v := .bool false) (by simp [go_sem])
         have zr0 : w2.frozen? ⟨w.heap.size + 1, 0, none⟩ = false := (b2.frozen (p := ⟨w.heap.size + 1, 0, none⟩) (by simp)).trans (by simp [go_sem]); have zr1 : w2.frozen? ⟨w.heap.size + 1, 1, none⟩ = false := (b2.frozen (p := ⟨w.heap.size + 1, 1, none⟩) (by simp)).trans (by simp [go_sem]); have zr2 : w2.frozen? ⟨w.heap.size + 1, 2, none⟩ = false := (b2.frozen (p := ⟨w.heap.size + 1, 2, none⟩) (by simp)).trans (by simp [go_sem]); have zr3 : w2.frozen? ⟨w.heap.size + 1, 3, none⟩ = false := (b2.frozen (p := ⟨w.heap.size + 1, 3, none⟩) (by simp)).trans (by simp [go_sem]); clear b2)))
  all_goals go_wp2
  all_goals refine bodyPost_ret (v := .agg #[.slice A1 L1.length c1, .slice A2 L2.length c2, .int .i64 cap, .bool false]) (by simp [results, Tryz.results117, go_sem, zq0, zq1, zq2, zq3]) rfl ?_
  all_goals exact ⟨⟨L1, L2, cap, false⟩, A1, A2, c1, c2, Lib.hid (by rw [e1.out, e2.out]), rfl, OR.mono (lo := w.heap.size + 2) orA wnA, OR.mono (lo := w.heap.size + 2) orA wnA, abA⟩
end Go.Proofs.YthgcfjhnnhigoaaGreat

namespace Go.Proofs.YthgcfjhnnhigoaaGreat
open Go.RowKit Disk

set_option maxRecDepth 100000 in
set_option maxHeartbeats 1600000 in
theorem twin_any (A B : Option Addr) (ca cb : Nat) (s t : List UInt8) (cap : Int) (dn : Bool) (w : World) (hs : RB w 0 A s) (ht : RB w 0 B t) (hca : s.length ≤ ca) (hcb : t.length ≤ cb) (ls : s.length ≤ 1000000) (lt : t.length ≤ 1000000) :
    Calls Tryz.prog 74 #[.agg #[.slice A s.length ca, .slice B t.length cb, .int .i64 cap, .bool dn]] w (RetDev w ⟨s, t, cap, dn⟩) := by
  go_enter Tryz.func74, Tryz.ntmps74
  go_wp2_with fail
  go_region_held3 (fun w' => w'.cell? ⟨w.heap.size, 0, none⟩ = some (.slice A s.length ca) ∧ w'.cell? ⟨w.heap.size, 1, none⟩ = some (.slice B t.length cb) ∧ w'.cell? ⟨w.heap.size, 2, none⟩ = some (.int .i64 cap) ∧ w'.cell? ⟨w.heap.size, 3, none⟩ = some (.bool dn))
    ((refine ⟨?_, ?_, ?_, ?_⟩ <;> (exact ckA)))
    ((first
      | (refine stepLit (by rfl) _ _ (by rfl) (by rfl) (by rfl) (m := s) (by first | rfl | (simp; done) | (simp; omega)) (by (repeat (first | with_reducible exact new_drew (by first | (simp; done) | (simp; omega)) | with_reducible exact new_plain (by first | (simp; done) | (simp; omega)) | with_reducible exact new_drewN (by first | (simp; done) | (simp; omega)) | with_reducible refine old_alloc ?_ | with_reducible refine old_drew ?_ | with_reducible refine old_drewN ?_ _ | with_reducible refine old_grown (by assumption) (by simp) ?_ | with_reducible refine old_ab (by assumption) ?_))) (hs.ab abA) hca wnA ?_
         intro A1 c1 w1 L1 e1 a1 o1; have z1 := a1.size; (try simp at z1); have p1 := o1 (w.heap.size + 2) wnA wnA)
      | (refine stepLit (by rfl) _ _ (by rfl) (by rfl) (by rfl) (m := t) (by first | rfl | (simp; done) | (simp; omega)) (by (repeat (first | with_reducible exact new_drew (by first | (simp; done) | (simp; omega)) | with_reducible exact new_plain (by first | (simp; done) | (simp; omega)) | with_reducible exact new_drewN (by first | (simp; done) | (simp; omega)) | with_reducible refine old_alloc ?_ | with_reducible refine old_drew ?_ | with_reducible refine old_drewN ?_ _ | with_reducible refine old_grown (by assumption) (by simp) ?_ | with_reducible refine old_ab (by assumption) ?_))) (ht.ab abA) hcb wnA ?_
         intro A2 c2 w2 L2 e2 a2 o2; have z2 := a2.size; (try simp at z2); have p2 := o2 (w.heap.size + 2) wnA wnA; have b2 : Ab ((w.alloc (.cells #[.slice A s.length ca, .slice B t.length cb, .int .i64 cap, .bool dn] 24)).alloc (.cells #[.slice none 0 0, .slice none 0 0, .int .i64 0, .bool false] 24)) w2 := abA
         have zq0 := b2.at (p := ⟨w.heap.size + 1, 0, none⟩) (v := .slice none 0 0) (by simp [go_sem]); have zq1 := b2.at (p := ⟨w.heap.size + 1, 1, none⟩) (v := .slice none 0 0) (by simp [go_sem]); have zq2 := b2.at (p := ⟨w.heap.size + 1, 2, none⟩) (v := .int .i64 0) (by simp [go_sem]); have zq3 := b2.at (p := ⟨w.heap.size + 1, 3, none⟩) (v := .bool false) (by simp [go_sem])
         have zr0 : w2.frozen? ⟨w.heap.size + 1, 0, none⟩ = false := (b2.frozen (p := ⟨w.heap.size + 1, 0, none⟩) (by simp)).trans (by simp [go_sem]); have zr1 : w2.frozen? ⟨w.heap.size + 1, 1, none⟩ = false := (b2.frozen (p := ⟨w.heap.size + 1, 1, none⟩) (by simp)).trans (by simp [go_sem]); have zr2 : w2.frozen? ⟨w.heap.size + 1, 2, none⟩ = false := (b2.frozen (p := ⟨w.heap.size + 1, 2, none⟩) (by simp)).trans (by simp [go_sem]); have zr3 : w2.frozen? ⟨w.heap.size + 1, 3, none⟩ = false := (b2.frozen (p := ⟨w.heap.size + 1, 3, none⟩) (by simp)).trans (by simp [go_sem]); clear b2)))
  all_goals go_wp2
  all_goals refine bodyPost_ret (v := .agg #[.slice A1 L1.length c1, .slice A2 L2.length c2, .int .i64 cap, .bool dn]) (by simp [results, Tryz.results74, go_sem, zq0, zq1, zq2, zq3]) rfl ?_
  all_goals exact ⟨⟨L1, L2, cap, dn⟩, A1, A2, c1, c2, Lib.hid (by rw [e1.out, e2.out]), rfl, OR.mono (lo := w.heap.size + 2) orA wnA, OR.mono (lo := w.heap.size + 2) orA wnA, abA⟩
end Go.Proofs.YthgcfjhnnhigoaaGreat

namespace Go.Proofs.YthgcfjhnnhigoaaGreat
open Go.RowKit Disk

theorem refCheck_any (A B : Option Addr) (ca cb : Nat) (s t : List UInt8) (cap : Int) (dn : Bool) (w : World) (ls : s.length ≤ 1000000) (lt : t.length ≤ 1000000) :
    Calls Tryz.prog 109 #[.agg #[.slice A s.length ca, .slice B t.length cb, .int .i64 cap, .bool dn]] w (RetInt w (check ⟨s, t, cap, dn⟩)) := by
  have HI := Lib.hid (@bad_iff s t cap dn)
  go_enter Tryz.func109, Tryz.ntmps109
  go_wp2
  all_goals go_ret
  all_goals refine RetInt.mk ?_ abA
  all_goals refine congrArg (Value.int .i64) ?_
  all_goals first | exact (check_bad (HI.out.2 (by first | exact .inl (by omega) | exact .inr (.inl (by omega)) | exact .inr (.inr (.inl (by omega))) | exact .inr (.inr (.inr ⟨by assumption, by omega⟩))))).symm | exact (check_ok (mt HI.out.1 (by rintro (h | h | h | ⟨h, h'⟩) <;> first | omega | (simp_all; done)))).symm

theorem refUp_any (A B : Option Addr) (ca cb : Nat) (s t : List UInt8) (cap : Int) (dn : Bool) (w : World) (ls : s.length ≤ 1000000) (lt : t.length ≤ 1000000) :
    Calls Tryz.prog 72 #[.agg #[.slice A s.length ca, .slice B t.length cb, .int .i64 cap, .bool dn]] w (RetInt w (up ⟨s, t, cap, dn⟩)) := by
  have HI := Lib.hid (@bad_iff s t cap dn)
  by_cases hb : bad ⟨s, t, cap, dn⟩
  · have HB := Lib.hid hb; clear hb
    go_enter Tryz.func72, Tryz.ntmps72
    go_wp2_with fail
    refine (refCheck_any A B ca cb s t cap dn _ ls lt).mono ?_
    rintro e w1 ⟨r, hr, rfl, hb1⟩
    obtain rfl : r = 8 := by rw [hr.out, check_bad HB.out]
    have bq0 := hb1.at (p := ⟨w.heap.size, 0, none⟩) (v := .slice A s.length ca) ckA; have bq1 := hb1.at (p := ⟨w.heap.size, 1, none⟩) (v := .slice B t.length cb) ckA; have bq2 := hb1.at (p := ⟨w.heap.size, 2, none⟩) (v := .int .i64 cap) ckA; have bq3 := hb1.at (p := ⟨w.heap.size, 3, none⟩) (v := .bool dn) ckA
    go_wp2_with fail
    refine (refCheck_any A B ca cb s t cap dn _ ls lt).mono ?_
    rintro e w2 ⟨r2, hr2, rfl, hb2⟩
    obtain rfl : r2 = 8 := by rw [hr2.out, check_bad HB.out]
    go_wp2
    go_ret
    exact RetInt.mk (by rw [up_bad HB.out]; rfl) abA
  · have HB := Lib.hid hb; clear hb
    go_enter Tryz.func72, Tryz.ntmps72
    go_wp2_with fail
    refine (refCheck_any A B ca cb s t cap dn _ ls lt).mono ?_
    rintro e w1 ⟨r, hr, rfl, hb1⟩
    obtain rfl : r = 0 := by rw [hr.out, check_ok HB.out]
    have bq2 := hb1.at (p := ⟨w.heap.size, 2, none⟩) (v := .int .i64 cap) ckA; have bq3 := hb1.at (p := ⟨w.heap.size, 3, none⟩) (v := .bool dn) ckA
    go_wp2
    all_goals go_ret
    all_goals refine RetInt.mk (congrArg (Value.int .i64) ?_) abA
    all_goals first | exact (up_down HB.out (by assumption)).symm | exact (up_ok HB.out (by simp_all)).symm
end Go.Proofs.YthgcfjhnnhigoaaGreat

namespace Go.Proofs.YthgcfjhnnhigoaaGreat
open Go.RowKit Disk

set_option maxHeartbeats 1600000 in
set_option maxRecDepth 100000 in
theorem refAppend_any (A B : Option Addr) (ca cb : Nat) (s t : List UInt8) (cap : Int) (dn : Bool) (w : World) (hs : RB w 0 A s) (ht : RB w 0 B t) (hca : s.length ≤ ca) (hcb : t.length ≤ cb) (ls : s.length ≤ 1000000) (lt : t.length ≤ 1000000) (C : Option Addr) (cc : Nat) (b : List UInt8) (hb : RB w 0 C b) (hcc : b.length ≤ cc) (lb : b.length ≤ 1000000) :
    Calls Tryz.prog 80 #[.agg #[.slice A s.length ca, .slice B t.length cb, .int .i64 cap, .bool dn], .slice C b.length cc] w (RetDevE w (append ⟨s, t, cap, dn⟩ b)) := by
  by_cases hu : up ⟨s, t, cap, dn⟩ = 0
  · obtain ⟨hnb, hdn⟩ := up_zero hu
    obtain rfl : dn = false := hdn
    have HU := Lib.hid hu; have HN := Lib.hid hnb; clear hu hnb
    by_cases hfull : cap < (s.length : Int) + t.length + b.length
    · have HM := Lib.hid (show append ⟨s, t, cap, false⟩ b = (Disk.zero, 18) by
        unfold append; rw [if_neg (by simpa using HU.out), if_pos (by simp only [Dev.size]; omega)])
      go_enter Tryz.func80, Tryz.ntmps80
      go_wp2_with fail
      refine (refUp_any A B ca cb s t cap false _ ls lt).mono ?_
      rintro e w1 ⟨r, hr, rfl, hb1⟩
      obtain rfl : r = 0 := hr.out.trans HU.out
      have hz : Ab ((w.alloc (.cells #[.slice A s.length ca, .slice B t.length cb, .int .i64 cap, .bool false] 24)).alloc (.cells #[.slice none 0 0, .slice none 0 0, .int .i64 0, .bool false] 24)) w1 := abA
      have bq0 := hz.at (p := ⟨w.heap.size, 0, none⟩) (v := .slice A s.length ca) ckA; have bq1 := hz.at (p := ⟨w.heap.size, 1, none⟩) (v := .slice B t.length cb) ckA; have bq2 := hz.at (p := ⟨w.heap.size, 2, none⟩) (v := .int .i64 cap) ckA; have bq3 := hz.at (p := ⟨w.heap.size, 3, none⟩) (v := .bool false) ckA
      have hw : IntKind.i64.wrap ((s.length : Int) + t.length + b.length) = (s.length : Int) + t.length + b.length := IntWalk.i64_in _ (by omega)
      go_wp2_with fail
      go_region_held3 (fun w' => w'.cell? ⟨w.heap.size, 0, none⟩ = some (.slice A s.length ca) ∧ w'.cell? ⟨w.heap.size, 1, none⟩ = some (.slice B t.length cb) ∧ w'.cell? ⟨w.heap.size, 2, none⟩ = some (.int .i64 cap) ∧ w'.cell? ⟨w.heap.size, 3, none⟩ = some (.bool false)) ((refine ⟨?_, ?_, ?_, ?_⟩ <;> (exact ckA)))
        ((go_at_call 70
          refine (whole_any A B ca cb s t cap false _ (hs.ab abA) (ht.ab abA) hca hcb ls lt).mono ?_
          rintro e w2 ⟨x, D, c, hx, rfl, ho, hb2⟩
          obtain rfl : x = s ++ t := hx.out))
      have hz2 : Ab ((w.alloc (.cells #[.slice A s.length ca, .slice B t.length cb, .int .i64 cap, .bool false] 24)).alloc (.cells #[.slice none 0 0, .slice none 0 0, .int .i64 0, .bool false] 24)) w2 := abA
      have zq0 := hz2.at (p := ⟨w.heap.size + 1, 0, none⟩) (v := .slice none 0 0) (by simp [go_sem]); have zq1 := hz2.at (p := ⟨w.heap.size + 1, 1, none⟩) (v := .slice none 0 0) (by simp [go_sem]); have zq2 := hz2.at (p := ⟨w.heap.size + 1, 2, none⟩) (v := .int .i64 0) (by simp [go_sem]); have zq3 := hz2.at (p := ⟨w.heap.size + 1, 3, none⟩) (v := .bool false) (by simp [go_sem])
      have zr0 : w2.frozen? ⟨w.heap.size + 1, 0, none⟩ = false := (hz2.frozen (p := ⟨w.heap.size + 1, 0, none⟩) (by simp)).trans (by simp [go_sem]); have zr1 : w2.frozen? ⟨w.heap.size + 1, 1, none⟩ = false := (hz2.frozen (p := ⟨w.heap.size + 1, 1, none⟩) (by simp)).trans (by simp [go_sem]); have zr2 : w2.frozen? ⟨w.heap.size + 1, 2, none⟩ = false := (hz2.frozen (p := ⟨w.heap.size + 1, 2, none⟩) (by simp)).trans (by simp [go_sem]); have zr3 : w2.frozen? ⟨w.heap.size + 1, 3, none⟩ = false := (hz2.frozen (p := ⟨w.heap.size + 1, 3, none⟩) (by simp)).trans (by simp [go_sem])
      clear hz hz2
      go_wp2
      refine bodyPost_ret (v := .tuple #[.agg #[.slice none 0 0, .slice none 0 0, .int .i64 0, .bool false], .int .i64 18]) (by simp [results, Tryz.results80, go_sem, zq0, zq1, zq2, zq3]) rfl ?_
      exact RetDevE.zero HM.out.symm abA
    · have HM := Lib.hid (show append ⟨s, t, cap, false⟩ b = (⟨s, t ++ b, cap, false⟩, 0) by
        unfold append; rw [if_neg (by simpa using HU.out), if_neg (by simp only [Dev.size]; omega)])
      go_enter Tryz.func80, Tryz.ntmps80
      go_wp2_with fail
      refine (refUp_any A B ca cb s t cap false _ ls lt).mono ?_
      rintro e w1 ⟨r, hr, rfl, hb1⟩
      obtain rfl : r = 0 := hr.out.trans HU.out
      have hz : Ab ((w.alloc (.cells #[.slice A s.length ca, .slice B t.length cb, .int .i64 cap, .bool false] 24)).alloc (.cells #[.slice none 0 0, .slice none 0 0, .int .i64 0, .bool false] 24)) w1 := abA
      have bq0 := hz.at (p := ⟨w.heap.size, 0, none⟩) (v := .slice A s.length ca) ckA; have bq1 := hz.at (p := ⟨w.heap.size, 1, none⟩) (v := .slice B t.length cb) ckA; have bq2 := hz.at (p := ⟨w.heap.size, 2, none⟩) (v := .int .i64 cap) ckA; have bq3 := hz.at (p := ⟨w.heap.size, 3, none⟩) (v := .bool false) ckA
      have hw : IntKind.i64.wrap ((s.length : Int) + t.length + b.length) = (s.length : Int) + t.length + b.length := IntWalk.i64_in _ (by omega)
      go_wp2_with fail
      go_region_held3 (fun w' => w'.cell? ⟨w.heap.size, 0, none⟩ = some (.slice A s.length ca) ∧ w'.cell? ⟨w.heap.size, 1, none⟩ = some (.slice B t.length cb) ∧ w'.cell? ⟨w.heap.size, 2, none⟩ = some (.int .i64 cap) ∧ w'.cell? ⟨w.heap.size, 3, none⟩ = some (.bool false)) ((refine ⟨?_, ?_, ?_, ?_⟩ <;> (exact ckA)))
        ((go_at_call 70
          refine (whole_any A B ca cb s t cap false _ (hs.ab abA) (ht.ab abA) hca hcb ls lt).mono ?_
          rintro e w2 ⟨x, D, c, hx, rfl, ho, hb2⟩
          obtain rfl : x = s ++ t := hx.out))
      go_wp2_with fail
      have hz2 : Ab ((w.alloc (.cells #[.slice A s.length ca, .slice B t.length cb, .int .i64 cap, .bool false] 24)).alloc (.cells #[.slice none 0 0, .slice none 0 0, .int .i64 0, .bool false] 24)) w2 := abA
      clear hz
      go_region_held3 (fun w' => w'.cell? ⟨w.heap.size, 0, none⟩ = some (.slice A s.length ca) ∧ w'.cell? ⟨w.heap.size, 1, none⟩ = some (.slice B t.length cb) ∧ w'.cell? ⟨w.heap.size, 2, none⟩ = some (.int .i64 cap) ∧ w'.cell? ⟨w.heap.size, 3, none⟩ = some (.bool false)) ((refine ⟨?_, ?_, ?_, ?_⟩ <;> (exact ckA)))
        ((first
          | (go_at_call 70
             refine (whole_any A B ca cb s t cap false _ (hs.ab abA) (ht.ab abA) hca hcb ls lt).mono ?_
             rintro e w3 ⟨L3, D3, c3, e3, rfl, o3, hb3⟩
             have l3 : L3.length ≤ 2000000 := by rw [e3.out]; simp; omega
             have z3 := hb3.size)
          | (refine stepApp (by rfl) _ _ (by rfl) (by rfl) (by rfl) (m := b) (by first | rfl | (simp; done) | (simp; omega)) o3 wnA (hb.ab abA) hcc wnA ?_
             intro A4 c4 w4 L4 e4 p4 _ f4; have hb4 := f4 _ hb3 (Nat.le_refl _); clear f4; have l4 : L4.length ≤ 3000000 := by rw [e4.out]; simp; omega)
          | (go_at_call 117
             refine (parted_any A B ca cb s t cap false _ A4 c4 L4 s.length _ rfl _ rfl p4.rb.zero p4.le (by omega) (by rw [e4.out, e3.out]; simp)).mono ?_
             rintro e w5 ⟨r, E1, E2, k1, k2, e5, rfl, p5, p6, hb5⟩
             have hz4 : Ab ((w.alloc (.cells #[.slice A s.length ca, .slice B t.length cb, .int .i64 cap, .bool false] 24)).alloc (.cells #[.slice none 0 0, .slice none 0 0, .int .i64 0, .bool false] 24)) w4 := abA
             have z4 := hz4.size; (simp at z4); clear hz4
             have hz5 : Ab ((w.alloc (.cells #[.slice A s.length ca, .slice B t.length cb, .int .i64 cap, .bool false] 24)).alloc (.cells #[.slice none 0 0, .slice none 0 0, .int .i64 0, .bool false] 24)) w5 := abA
             have zq0 := hz5.at (p := ⟨w.heap.size + 1, 0, none⟩) (v := .slice none 0 0) (by simp [go_sem]); have zq1 := hz5.at (p := ⟨w.heap.size + 1, 1, none⟩) (v := .slice none 0 0) (by simp [go_sem]); have zq2 := hz5.at (p := ⟨w.heap.size + 1, 2, none⟩) (v := .int .i64 0) (by simp [go_sem]); have zq3 := hz5.at (p := ⟨w.heap.size + 1, 3, none⟩) (v := .bool false) (by simp [go_sem])
             have zr0 : w5.frozen? ⟨w.heap.size + 1, 0, none⟩ = false := (hz5.frozen (p := ⟨w.heap.size + 1, 0, none⟩) (by simp)).trans (by simp [go_sem]); have zr1 : w5.frozen? ⟨w.heap.size + 1, 1, none⟩ = false := (hz5.frozen (p := ⟨w.heap.size + 1, 1, none⟩) (by simp)).trans (by simp [go_sem]); have zr2 : w5.frozen? ⟨w.heap.size + 1, 2, none⟩ = false := (hz5.frozen (p := ⟨w.heap.size + 1, 2, none⟩) (by simp)).trans (by simp [go_sem]); have zr3 : w5.frozen? ⟨w.heap.size + 1, 3, none⟩ = false := (hz5.frozen (p := ⟨w.heap.size + 1, 3, none⟩) (by simp)).trans (by simp [go_sem]); clear hz5)))
      go_wp2
      refine bodyPost_ret (v := .tuple #[.agg #[.slice E1 r.s.length k1, .slice E2 r.t.length k2, .int .i64 r.cap, .bool r.down], .int .i64 0]) (by simp [results, Tryz.results80, go_sem, zq0, zq1, zq2, zq3]) rfl ?_
      exact ⟨r, 0, E1, E2, k1, k2, Lib.hid (by rw [e5.out, e4.out, e3.out, HM.out]; simp), rfl, OR.mono (lo := w4.heap.size) orA wnA, OR.mono (lo := w4.heap.size) orA wnA, abA⟩
  · have HM := Lib.hid (show append ⟨s, t, cap, dn⟩ b = (Disk.zero, up ⟨s, t, cap, dn⟩) from if_pos hu)
    generalize hv : up ⟨s, t, cap, dn⟩ = u at hu HM
    have HV := Lib.hid hv; clear hv
    have hne : (u != 0) = true := by simpa using hu
    clear hu
    go_enter Tryz.func80, Tryz.ntmps80
    go_wp2_with fail
    refine (refUp_any A B ca cb s t cap dn _ ls lt).mono ?_
    rintro e w1 ⟨r, hr, rfl, hb1⟩
    obtain rfl : r = u := hr.out.trans HV.out
    have bq0 := hb1.at (p := ⟨w.heap.size, 0, none⟩) (v := .slice A s.length ca) ckA; have bq1 := hb1.at (p := ⟨w.heap.size, 1, none⟩) (v := .slice B t.length cb) ckA; have bq2 := hb1.at (p := ⟨w.heap.size, 2, none⟩) (v := .int .i64 cap) ckA; have bq3 := hb1.at (p := ⟨w.heap.size, 3, none⟩) (v := .bool dn) ckA
    go_wp2_with fail
    refine (refUp_any A B ca cb s t cap dn _ ls lt).mono ?_
    rintro e w2 ⟨r2, hr2, rfl, hb2⟩
    obtain rfl : r2 = r := hr2.out.trans HV.out
    have hz : Ab ((w.alloc (.cells #[.slice A s.length ca, .slice B t.length cb, .int .i64 cap, .bool dn] 24)).alloc (.cells #[.slice none 0 0, .slice none 0 0, .int .i64 0, .bool false] 24)) w2 := abA
    have zq0 := hz.at (p := ⟨w.heap.size + 1, 0, none⟩) (v := .slice none 0 0) (by simp [go_sem]); have zq1 := hz.at (p := ⟨w.heap.size + 1, 1, none⟩) (v := .slice none 0 0) (by simp [go_sem]); have zq2 := hz.at (p := ⟨w.heap.size + 1, 2, none⟩) (v := .int .i64 0) (by simp [go_sem]); have zq3 := hz.at (p := ⟨w.heap.size + 1, 3, none⟩) (v := .bool false) (by simp [go_sem])
    have zr0 : w2.frozen? ⟨w.heap.size + 1, 0, none⟩ = false := (hz.frozen (p := ⟨w.heap.size + 1, 0, none⟩) (by simp)).trans (by simp [go_sem]); have zr1 : w2.frozen? ⟨w.heap.size + 1, 1, none⟩ = false := (hz.frozen (p := ⟨w.heap.size + 1, 1, none⟩) (by simp)).trans (by simp [go_sem]); have zr2 : w2.frozen? ⟨w.heap.size + 1, 2, none⟩ = false := (hz.frozen (p := ⟨w.heap.size + 1, 2, none⟩) (by simp)).trans (by simp [go_sem]); have zr3 : w2.frozen? ⟨w.heap.size + 1, 3, none⟩ = false := (hz.frozen (p := ⟨w.heap.size + 1, 3, none⟩) (by simp)).trans (by simp [go_sem])
    clear hz
    go_wp2
    refine bodyPost_ret (v := .tuple #[.agg #[.slice none 0 0, .slice none 0 0, .int .i64 0, .bool false], .int .i64 r2]) (by simp [results, Tryz.results80, go_sem, zq0, zq1, zq2, zq3]) rfl ?_
    exact RetDevE.zero HM.out.symm abA
end Go.Proofs.YthgcfjhnnhigoaaGreat

namespace Go.Proofs.YthgcfjhnnhigoaaGreat
open Go.RowKit Disk

set_option maxHeartbeats 1600000 in
theorem refSync_any (A B : Option Addr) (ca cb : Nat) (s t : List UInt8) (cap : Int) (dn : Bool) (w : World) (hs : RB w 0 A s) (ht : RB w 0 B t) (hca : s.length ≤ ca) (hcb : t.length ≤ cb) (ls : s.length ≤ 1000000) (lt : t.length ≤ 1000000) :
    Calls Tryz.prog 84 #[.agg #[.slice A s.length ca, .slice B t.length cb, .int .i64 cap, .bool dn]] w (RetDevE w (sync ⟨s, t, cap, dn⟩)) := by
  by_cases hu : up ⟨s, t, cap, dn⟩ = 0
  · obtain ⟨hnb, hdn⟩ := up_zero hu
    obtain rfl : dn = false := hdn
    have HU := Lib.hid hu; have HN := Lib.hid hnb; clear hu hnb
    have HM := Lib.hid (show sync ⟨s, t, cap, false⟩ = (⟨s ++ t, [], cap, false⟩, 0) from if_neg (by simpa using HU.out))
    go_enter Tryz.func84, Tryz.ntmps84
    go_wp2_with fail
    refine (refUp_any A B ca cb s t cap false _ ls lt).mono ?_
    rintro e w1 ⟨r, hr, rfl, hb1⟩
    obtain rfl : r = 0 := hr.out.trans HU.out
    have hz : Ab ((w.alloc (.cells #[.slice A s.length ca, .slice B t.length cb, .int .i64 cap, .bool false] 24)).alloc (.cells #[.slice none 0 0, .slice none 0 0, .int .i64 0, .bool false] 24)) w1 := abA
    have bq0 := hz.at (p := ⟨w.heap.size, 0, none⟩) (v := .slice A s.length ca) ckA; have bq1 := hz.at (p := ⟨w.heap.size, 1, none⟩) (v := .slice B t.length cb) ckA; have bq2 := hz.at (p := ⟨w.heap.size, 2, none⟩) (v := .int .i64 cap) ckA; have bq3 := hz.at (p := ⟨w.heap.size, 3, none⟩) (v := .bool false) ckA
    go_wp2_with fail
    go_region_held3 (fun w' => w'.cell? ⟨w.heap.size, 0, none⟩ = some (.slice A s.length ca) ∧ w'.cell? ⟨w.heap.size, 1, none⟩ = some (.slice B t.length cb) ∧ w'.cell? ⟨w.heap.size, 2, none⟩ = some (.int .i64 cap) ∧ w'.cell? ⟨w.heap.size, 3, none⟩ = some (.bool false)) ((refine ⟨?_, ?_, ?_, ?_⟩ <;> (exact ckA)))
      ((first
        | (go_at_call 70
           have tok := o3
           refine (whole_any A B ca cb s t cap false _ (hs.ab abA) (ht.ab abA) hca hcb ls lt).mono ?_
           rintro e w4 ⟨L4, D4, c4, e4, rfl, o4, hb4⟩)
        | (go_at_call 70
           refine (whole_any A B ca cb s t cap false _ (hs.ab abA) (ht.ab abA) hca hcb ls lt).mono ?_
           rintro e w3 ⟨L3, D3, c3, e3, rfl, o3, hb3⟩
           have l3 : L3.length ≤ 2000000 := by rw [e3.out]; simp; omega)
        | (go_at_call 117
           refine (parted_any A B ca cb s t cap false _ D3 c3 L3 L3.length _ (by first | rfl | (simp; done) | (simp; omega) | omega) _ (by rw [e3.out, e4.out]) (RB.ab (o3.keep hb4).rb.zero abA) o3.le wnA wnA).mono ?_
           rintro e w5 ⟨r, E1, E2, k1, k2, e5, rfl, p5, p6, hb5⟩
           (try simp at p5 p6)
           have hz4 : Ab ((w.alloc (.cells #[.slice A s.length ca, .slice B t.length cb, .int .i64 cap, .bool false] 24)).alloc (.cells #[.slice none 0 0, .slice none 0 0, .int .i64 0, .bool false] 24)) w4 := abA
           have z4 := hz4.size; (simp at z4); clear hz4
           have hz5 : Ab ((w.alloc (.cells #[.slice A s.length ca, .slice B t.length cb, .int .i64 cap, .bool false] 24)).alloc (.cells #[.slice none 0 0, .slice none 0 0, .int .i64 0, .bool false] 24)) w5 := abA
           have zq0 := hz5.at (p := ⟨w.heap.size + 1, 0, none⟩) (v := .slice none 0 0) (by simp [go_sem]); have zq1 := hz5.at (p := ⟨w.heap.size + 1, 1, none⟩) (v := .slice none 0 0) (by simp [go_sem]); have zq2 := hz5.at (p := ⟨w.heap.size + 1, 2, none⟩) (v := .int .i64 0) (by simp [go_sem]); have zq3 := hz5.at (p := ⟨w.heap.size + 1, 3, none⟩) (v := .bool false) (by simp [go_sem])
           have zr0 : w5.frozen? ⟨w.heap.size + 1, 0, none⟩ = false := (hz5.frozen (p := ⟨w.heap.size + 1, 0, none⟩) (by simp)).trans (by simp [go_sem]); have zr1 : w5.frozen? ⟨w.heap.size + 1, 1, none⟩ = false := (hz5.frozen (p := ⟨w.heap.size + 1, 1, none⟩) (by simp)).trans (by simp [go_sem]); have zr2 : w5.frozen? ⟨w.heap.size + 1, 2, none⟩ = false := (hz5.frozen (p := ⟨w.heap.size + 1, 2, none⟩) (by simp)).trans (by simp [go_sem]); have zr3 : w5.frozen? ⟨w.heap.size + 1, 3, none⟩ = false := (hz5.frozen (p := ⟨w.heap.size + 1, 3, none⟩) (by simp)).trans (by simp [go_sem]); clear hz5)))
    all_goals go_wp2
    all_goals refine bodyPost_ret (v := .tuple #[.agg #[.slice E1 r.s.length k1, .slice E2 r.t.length k2, .int .i64 r.cap, .bool r.down], .int .i64 0]) (by simp [results, Tryz.results84, go_sem, zq0, zq1, zq2, zq3]) rfl ?_
    all_goals exact ⟨r, 0, E1, E2, k1, k2, Lib.hid (by rw [e5.out, HM.out, List.take_length, List.drop_length, e3.out]), rfl, OR.mono (lo := w4.heap.size) orA wnA, OR.mono (lo := w4.heap.size) orA wnA, abA⟩
  · have HM := Lib.hid (show sync ⟨s, t, cap, dn⟩ = (Disk.zero, up ⟨s, t, cap, dn⟩) from if_pos hu)
    generalize hv : up ⟨s, t, cap, dn⟩ = u at hu HM
    have HV := Lib.hid hv; clear hv
    have hne : (u != 0) = true := by simpa using hu
    clear hu
    go_enter Tryz.func84, Tryz.ntmps84
    go_wp2_with fail
    refine (refUp_any A B ca cb s t cap dn _ ls lt).mono ?_
    rintro e w1 ⟨r, hr, rfl, hb1⟩
    obtain rfl : r = u := hr.out.trans HV.out
    have bq0 := hb1.at (p := ⟨w.heap.size, 0, none⟩) (v := .slice A s.length ca) ckA; have bq1 := hb1.at (p := ⟨w.heap.size, 1, none⟩) (v := .slice B t.length cb) ckA; have bq2 := hb1.at (p := ⟨w.heap.size, 2, none⟩) (v := .int .i64 cap) ckA; have bq3 := hb1.at (p := ⟨w.heap.size, 3, none⟩) (v := .bool dn) ckA
    go_wp2_with fail
    refine (refUp_any A B ca cb s t cap dn _ ls lt).mono ?_
    rintro e w2 ⟨r2, hr2, rfl, hb2⟩
    obtain rfl : r2 = r := hr2.out.trans HV.out
    have hz : Ab ((w.alloc (.cells #[.slice A s.length ca, .slice B t.length cb, .int .i64 cap, .bool dn] 24)).alloc (.cells #[.slice none 0 0, .slice none 0 0, .int .i64 0, .bool false] 24)) w2 := abA
    have zq0 := hz.at (p := ⟨w.heap.size + 1, 0, none⟩) (v := .slice none 0 0) (by simp [go_sem]); have zq1 := hz.at (p := ⟨w.heap.size + 1, 1, none⟩) (v := .slice none 0 0) (by simp [go_sem]); have zq2 := hz.at (p := ⟨w.heap.size + 1, 2, none⟩) (v := .int .i64 0) (by simp [go_sem]); have zq3 := hz.at (p := ⟨w.heap.size + 1, 3, none⟩) (v := .bool false) (by simp [go_sem])
    have zr0 : w2.frozen? ⟨w.heap.size + 1, 0, none⟩ = false := (hz.frozen (p := ⟨w.heap.size + 1, 0, none⟩) (by simp)).trans (by simp [go_sem]); have zr1 : w2.frozen? ⟨w.heap.size + 1, 1, none⟩ = false := (hz.frozen (p := ⟨w.heap.size + 1, 1, none⟩) (by simp)).trans (by simp [go_sem]); have zr2 : w2.frozen? ⟨w.heap.size + 1, 2, none⟩ = false := (hz.frozen (p := ⟨w.heap.size + 1, 2, none⟩) (by simp)).trans (by simp [go_sem]); have zr3 : w2.frozen? ⟨w.heap.size + 1, 3, none⟩ = false := (hz.frozen (p := ⟨w.heap.size + 1, 3, none⟩) (by simp)).trans (by simp [go_sem])
    clear hz
    go_wp2
    refine bodyPost_ret (v := .tuple #[.agg #[.slice none 0 0, .slice none 0 0, .int .i64 0, .bool false], .int .i64 r2]) (by simp [results, Tryz.results84, go_sem, zq0, zq1, zq2, zq3]) rfl ?_
    exact RetDevE.zero HM.out.symm abA

set_option maxHeartbeats 1600000 in
theorem refTruncate_any (A B : Option Addr) (ca cb : Nat) (s t : List UInt8) (cap : Int) (dn : Bool) (w : World) (hs : RB w 0 A s) (ht : RB w 0 B t) (hca : s.length ≤ ca) (hcb : t.length ≤ cb) (ls : s.length ≤ 1000000) (lt : t.length ≤ 1000000) (n : Int) :
    Calls Tryz.prog 123 #[.agg #[.slice A s.length ca, .slice B t.length cb, .int .i64 cap, .bool dn], .int .i64 n] w (RetDevE w (truncate ⟨s, t, cap, dn⟩ n)) := by
  by_cases hu : up ⟨s, t, cap, dn⟩ = 0
  · obtain ⟨hnb, hdn⟩ := up_zero hu
    obtain rfl : dn = false := hdn
    have HU := Lib.hid hu; have HN := Lib.hid hnb; clear hu hnb
    by_cases hn0 : n < 0
    · have HM := Lib.hid (show truncate ⟨s, t, cap, false⟩ n = (Disk.zero, 2) by
        unfold truncate; rw [if_neg (by simpa using HU.out), if_pos (.inl hn0)])
      go_enter Tryz.func123, Tryz.ntmps123
      go_wp2_with fail
      refine (refUp_any A B ca cb s t cap false _ ls lt).mono ?_
      rintro e w1 ⟨r, hr, rfl, hb1⟩
      obtain rfl : r = 0 := hr.out.trans HU.out
      have hz : Ab ((w.alloc (.cells #[.slice A s.length ca, .slice B t.length cb, .int .i64 cap, .bool false] 24)).alloc (.cells #[.slice none 0 0, .slice none 0 0, .int .i64 0, .bool false] 24)) w1 := abA
      have bq0 := hz.at (p := ⟨w.heap.size, 0, none⟩) (v := .slice A s.length ca) ckA; have bq1 := hz.at (p := ⟨w.heap.size, 1, none⟩) (v := .slice B t.length cb) ckA; have bq2 := hz.at (p := ⟨w.heap.size, 2, none⟩) (v := .int .i64 cap) ckA; have bq3 := hz.at (p := ⟨w.heap.size, 3, none⟩) (v := .bool false) ckA
      have zq0 := hz.at (p := ⟨w.heap.size + 1, 0, none⟩) (v := .slice none 0 0) (by simp [go_sem]); have zq1 := hz.at (p := ⟨w.heap.size + 1, 1, none⟩) (v := .slice none 0 0) (by simp [go_sem]); have zq2 := hz.at (p := ⟨w.heap.size + 1, 2, none⟩) (v := .int .i64 0) (by simp [go_sem]); have zq3 := hz.at (p := ⟨w.heap.size + 1, 3, none⟩) (v := .bool false) (by simp [go_sem])
      have zr0 : w1.frozen? ⟨w.heap.size + 1, 0, none⟩ = false := (hz.frozen (p := ⟨w.heap.size + 1, 0, none⟩) (by simp)).trans (by simp [go_sem]); have zr1 : w1.frozen? ⟨w.heap.size + 1, 1, none⟩ = false := (hz.frozen (p := ⟨w.heap.size + 1, 1, none⟩) (by simp)).trans (by simp [go_sem]); have zr2 : w1.frozen? ⟨w.heap.size + 1, 2, none⟩ = false := (hz.frozen (p := ⟨w.heap.size + 1, 2, none⟩) (by simp)).trans (by simp [go_sem]); have zr3 : w1.frozen? ⟨w.heap.size + 1, 3, none⟩ = false := (hz.frozen (p := ⟨w.heap.size + 1, 3, none⟩) (by simp)).trans (by simp [go_sem])
      go_wp2
      refine bodyPost_ret (v := .tuple #[.agg #[.slice none 0 0, .slice none 0 0, .int .i64 0, .bool false], .int .i64 2]) (by simp [results, Tryz.results123, go_sem, zq0, zq1, zq2, zq3]) rfl ?_
      exact RetDevE.zero HM.out.symm abA
    obtain ⟨k, rfl⟩ := Int.eq_ofNat_of_zero_le (by omega : 0 ≤ n)
    clear hn0
    by_cases hbig : s.length + t.length < k
    · have HM := Lib.hid (show truncate ⟨s, t, cap, false⟩ (k : Int) = (Disk.zero, 2) by
        unfold truncate; rw [if_neg (by simpa using HU.out), if_pos (.inr (by simp only [Dev.size]; omega))])
      go_enter Tryz.func123, Tryz.ntmps123
      go_wp2_with fail
      refine (refUp_any A B ca cb s t cap false _ ls lt).mono ?_
      rintro e w1 ⟨r, hr, rfl, hb1⟩
      obtain rfl : r = 0 := hr.out.trans HU.out
      have hz : Ab ((w.alloc (.cells #[.slice A s.length ca, .slice B t.length cb, .int .i64 cap, .bool false] 24)).alloc (.cells #[.slice none 0 0, .slice none 0 0, .int .i64 0, .bool false] 24)) w1 := abA
      have bq0 := hz.at (p := ⟨w.heap.size, 0, none⟩) (v := .slice A s.length ca) ckA; have bq1 := hz.at (p := ⟨w.heap.size, 1, none⟩) (v := .slice B t.length cb) ckA; have bq2 := hz.at (p := ⟨w.heap.size, 2, none⟩) (v := .int .i64 cap) ckA; have bq3 := hz.at (p := ⟨w.heap.size, 3, none⟩) (v := .bool false) ckA
      go_wp2_with ((first | (go_at_call 70
                             refine (whole_any A B ca cb s t cap false _ (hs.ab abA) (ht.ab abA) hca hcb ls lt).mono ?_
                             rintro e w3 ⟨L3, D3, c3, e3, rfl, o3, hb3⟩
                             obtain ⟨l3a, l3b⟩ : L3.length ≤ s.length + t.length ∧ s.length + t.length ≤ L3.length := by rw [e3.out]; simp
                             have hz3 : Ab ((w.alloc (.cells #[.slice A s.length ca, .slice B t.length cb, .int .i64 cap, .bool false] 24)).alloc (.cells #[.slice none 0 0, .slice none 0 0, .int .i64 0, .bool false] 24)) w3 := abA
                             have zq0 := hz3.at (p := ⟨w.heap.size + 1, 0, none⟩) (v := .slice none 0 0) (by simp [go_sem]); have zq1 := hz3.at (p := ⟨w.heap.size + 1, 1, none⟩) (v := .slice none 0 0) (by simp [go_sem]); have zq2 := hz3.at (p := ⟨w.heap.size + 1, 2, none⟩) (v := .int .i64 0) (by simp [go_sem]); have zq3 := hz3.at (p := ⟨w.heap.size + 1, 3, none⟩) (v := .bool false) (by simp [go_sem])
                             have zr0 : w3.frozen? ⟨w.heap.size + 1, 0, none⟩ = false := (hz3.frozen (p := ⟨w.heap.size + 1, 0, none⟩) (by simp)).trans (by simp [go_sem]); have zr1 : w3.frozen? ⟨w.heap.size + 1, 1, none⟩ = false := (hz3.frozen (p := ⟨w.heap.size + 1, 1, none⟩) (by simp)).trans (by simp [go_sem]); have zr2 : w3.frozen? ⟨w.heap.size + 1, 2, none⟩ = false := (hz3.frozen (p := ⟨w.heap.size + 1, 2, none⟩) (by simp)).trans (by simp [go_sem]); have zr3 : w3.frozen? ⟨w.heap.size + 1, 3, none⟩ = false := (hz3.frozen (p := ⟨w.heap.size + 1, 3, none⟩) (by simp)).trans (by simp [go_sem])
                             have bq0 := hz3.at (p := ⟨w.heap.size, 0, none⟩) (v := .slice A s.length ca) ckA; have bq1 := hz3.at (p := ⟨w.heap.size, 1, none⟩) (v := .slice B t.length cb) ckA; have bq2 := hz3.at (p := ⟨w.heap.size, 2, none⟩) (v := .int .i64 cap) ckA; have bq3 := hz3.at (p := ⟨w.heap.size, 3, none⟩) (v := .bool false) ckA)))
      refine bodyPost_ret (v := .tuple #[.agg #[.slice none 0 0, .slice none 0 0, .int .i64 0, .bool false], .int .i64 2]) (by simp [results, Tryz.results123, go_sem, zq0, zq1, zq2, zq3]) rfl ?_
      exact RetDevE.zero HM.out.symm abA
    · have HM := Lib.hid (show truncate ⟨s, t, cap, false⟩ (k : Int) = (⟨s.take k, t.take (k - s.length), cap, false⟩, 0) by
        unfold truncate; rw [if_neg (by simpa using HU.out), if_neg (by simp only [Dev.size]; omega)]; simp)
      go_enter Tryz.func123, Tryz.ntmps123
      go_wp2_with fail
      refine (refUp_any A B ca cb s t cap false _ ls lt).mono ?_
      rintro e w1 ⟨r, hr, rfl, hb1⟩
      obtain rfl : r = 0 := hr.out.trans HU.out
      have hz : Ab ((w.alloc (.cells #[.slice A s.length ca, .slice B t.length cb, .int .i64 cap, .bool false] 24)).alloc (.cells #[.slice none 0 0, .slice none 0 0, .int .i64 0, .bool false] 24)) w1 := abA
      have bq0 := hz.at (p := ⟨w.heap.size, 0, none⟩) (v := .slice A s.length ca) ckA; have bq1 := hz.at (p := ⟨w.heap.size, 1, none⟩) (v := .slice B t.length cb) ckA; have bq2 := hz.at (p := ⟨w.heap.size, 2, none⟩) (v := .int .i64 cap) ckA; have bq3 := hz.at (p := ⟨w.heap.size, 3, none⟩) (v := .bool false) ckA
      go_wp2_with ((first | (go_at_call 70
                             refine (whole_any A B ca cb s t cap false _ (hs.ab abA) (ht.ab abA) hca hcb ls lt).mono ?_
                             rintro e w3 ⟨L3, D3, c3, e3, rfl, o3, hb3⟩
                             obtain ⟨l3a, l3b⟩ : L3.length ≤ s.length + t.length ∧ s.length + t.length ≤ L3.length := by rw [e3.out]; simp
                             have hz3 : Ab ((w.alloc (.cells #[.slice A s.length ca, .slice B t.length cb, .int .i64 cap, .bool false] 24)).alloc (.cells #[.slice none 0 0, .slice none 0 0, .int .i64 0, .bool false] 24)) w3 := abA
                             have zq0 := hz3.at (p := ⟨w.heap.size + 1, 0, none⟩) (v := .slice none 0 0) (by simp [go_sem]); have zq1 := hz3.at (p := ⟨w.heap.size + 1, 1, none⟩) (v := .slice none 0 0) (by simp [go_sem]); have zq2 := hz3.at (p := ⟨w.heap.size + 1, 2, none⟩) (v := .int .i64 0) (by simp [go_sem]); have zq3 := hz3.at (p := ⟨w.heap.size + 1, 3, none⟩) (v := .bool false) (by simp [go_sem])
                             have zr0 : w3.frozen? ⟨w.heap.size + 1, 0, none⟩ = false := (hz3.frozen (p := ⟨w.heap.size + 1, 0, none⟩) (by simp)).trans (by simp [go_sem]); have zr1 : w3.frozen? ⟨w.heap.size + 1, 1, none⟩ = false := (hz3.frozen (p := ⟨w.heap.size + 1, 1, none⟩) (by simp)).trans (by simp [go_sem]); have zr2 : w3.frozen? ⟨w.heap.size + 1, 2, none⟩ = false := (hz3.frozen (p := ⟨w.heap.size + 1, 2, none⟩) (by simp)).trans (by simp [go_sem]); have zr3 : w3.frozen? ⟨w.heap.size + 1, 3, none⟩ = false := (hz3.frozen (p := ⟨w.heap.size + 1, 3, none⟩) (by simp)).trans (by simp [go_sem])
                             have bq0 := hz3.at (p := ⟨w.heap.size, 0, none⟩) (v := .slice A s.length ca) ckA; have bq1 := hz3.at (p := ⟨w.heap.size, 1, none⟩) (v := .slice B t.length cb) ckA; have bq2 := hz3.at (p := ⟨w.heap.size, 2, none⟩) (v := .int .i64 cap) ckA; have bq3 := hz3.at (p := ⟨w.heap.size, 3, none⟩) (v := .bool false) ckA)))
      clear hz
      have hk1 : (k : Int) ≤ (c3 : Int) := by have := o3.le; omega
      have hk0 : (0 : Int) ≤ (k : Int) := by omega
      rcases Nat.lt_or_ge s.length k with hks | hks
      all_goals
        go_region_held3 (fun w' => w'.cell? ⟨w.heap.size, 0, none⟩ = some (.slice A s.length ca) ∧ w'.cell? ⟨w.heap.size, 1, none⟩ = some (.slice B t.length cb) ∧ w'.cell? ⟨w.heap.size, 2, none⟩ = some (.int .i64 cap) ∧ w'.cell? ⟨w.heap.size, 3, none⟩ = some (.bool false)) ((refine ⟨?_, ?_, ?_, ?_⟩ <;> (exact ckA)))
          ((first
            | (go_at_call 70
               refine (whole_any A B ca cb s t cap false _ (hs.ab abA) (ht.ab abA) hca hcb ls lt).mono ?_
               rintro e w4 ⟨L4, D4, c4, e4, rfl, o4, hb4⟩
               have hk4 : (k : Int) ≤ (c4 : Int) := by have := o4.le; rw [e4.out] at this; simp at this; omega
               obtain ⟨l4a, l4b⟩ : L4.length ≤ s.length + t.length ∧ s.length + t.length ≤ L4.length := by rw [e4.out]; simp)
            | (go_at_call 117
               refine (parted_any A B ca cb s t cap false _ D4 c4 (L4.take k) (min k s.length) _ (by first | rfl | (simp; done) | (simp; omega) | omega) _ (by first | rfl | omega | (simp; done) | (simp; omega)) (RB.ab (o4.rb.zero.take k) abA) (by simp; omega) wnA wnA).mono ?_
               rintro e w5 ⟨r, E1, E2, k1, k2, e5, rfl, p5, p6, hb5⟩
               (try simp at p5 p6)
               have hz4 : Ab ((w.alloc (.cells #[.slice A s.length ca, .slice B t.length cb, .int .i64 cap, .bool false] 24)).alloc (.cells #[.slice none 0 0, .slice none 0 0, .int .i64 0, .bool false] 24)) w4 := abA
               have z4 := hz4.size; (simp at z4); clear hz4
               have hz5 : Ab ((w.alloc (.cells #[.slice A s.length ca, .slice B t.length cb, .int .i64 cap, .bool false] 24)).alloc (.cells #[.slice none 0 0, .slice none 0 0, .int .i64 0, .bool false] 24)) w5 := abA
               have zq0 := hz5.at (p := ⟨w.heap.size + 1, 0, none⟩) (v := .slice none 0 0) (by simp [go_sem]); have zq1 := hz5.at (p := ⟨w.heap.size + 1, 1, none⟩) (v := .slice none 0 0) (by simp [go_sem]); have zq2 := hz5.at (p := ⟨w.heap.size + 1, 2, none⟩) (v := .int .i64 0) (by simp [go_sem]); have zq3 := hz5.at (p := ⟨w.heap.size + 1, 3, none⟩) (v := .bool false) (by simp [go_sem])
               have zr0 : w5.frozen? ⟨w.heap.size + 1, 0, none⟩ = false := (hz5.frozen (p := ⟨w.heap.size + 1, 0, none⟩) (by simp)).trans (by simp [go_sem]); have zr1 : w5.frozen? ⟨w.heap.size + 1, 1, none⟩ = false := (hz5.frozen (p := ⟨w.heap.size + 1, 1, none⟩) (by simp)).trans (by simp [go_sem]); have zr2 : w5.frozen? ⟨w.heap.size + 1, 2, none⟩ = false := (hz5.frozen (p := ⟨w.heap.size + 1, 2, none⟩) (by simp)).trans (by simp [go_sem]); have zr3 : w5.frozen? ⟨w.heap.size + 1, 3, none⟩ = false := (hz5.frozen (p := ⟨w.heap.size + 1, 3, none⟩) (by simp)).trans (by simp [go_sem]); clear hz5)))
        all_goals go_wp2
        all_goals refine bodyPost_ret (v := .tuple #[.agg #[.slice E1 r.s.length k1, .slice E2 r.t.length k2, .int .i64 r.cap, .bool r.down], .int .i64 0]) (by simp [results, Tryz.results123, go_sem, zq0, zq1, zq2, zq3]) rfl ?_
        all_goals exact ⟨r, 0, E1, E2, k1, k2, Lib.hid (by rw [e5.out, HM.out, e4.out]; exact Prod.ext (Dev.ext' (cut_take s t k) (cut_drop s t k) rfl rfl) rfl), rfl, OR.mono (lo := w4.heap.size) orA wnA, OR.mono (lo := w4.heap.size) orA wnA, abA⟩
  · have HM := Lib.hid (show truncate ⟨s, t, cap, dn⟩ n = (Disk.zero, up ⟨s, t, cap, dn⟩) from if_pos hu)
    generalize hv : up ⟨s, t, cap, dn⟩ = u at hu HM
    have HV := Lib.hid hv; clear hv
    have hne : (u != 0) = true := by simpa using hu
    clear hu
    go_enter Tryz.func123, Tryz.ntmps123
    go_wp2_with fail
    refine (refUp_any A B ca cb s t cap dn _ ls lt).mono ?_
    rintro e w1 ⟨r, hr, rfl, hb1⟩
    obtain rfl : r = u := hr.out.trans HV.out
    have bq0 := hb1.at (p := ⟨w.heap.size, 0, none⟩) (v := .slice A s.length ca) ckA; have bq1 := hb1.at (p := ⟨w.heap.size, 1, none⟩) (v := .slice B t.length cb) ckA; have bq2 := hb1.at (p := ⟨w.heap.size, 2, none⟩) (v := .int .i64 cap) ckA; have bq3 := hb1.at (p := ⟨w.heap.size, 3, none⟩) (v := .bool dn) ckA
    go_wp2_with fail
    refine (refUp_any A B ca cb s t cap dn _ ls lt).mono ?_
    rintro e w2 ⟨r2, hr2, rfl, hb2⟩
    obtain rfl : r2 = r := hr2.out.trans HV.out
    have hz : Ab ((w.alloc (.cells #[.slice A s.length ca, .slice B t.length cb, .int .i64 cap, .bool dn] 24)).alloc (.cells #[.slice none 0 0, .slice none 0 0, .int .i64 0, .bool false] 24)) w2 := abA
    have zq0 := hz.at (p := ⟨w.heap.size + 1, 0, none⟩) (v := .slice none 0 0) (by simp [go_sem]); have zq1 := hz.at (p := ⟨w.heap.size + 1, 1, none⟩) (v := .slice none 0 0) (by simp [go_sem]); have zq2 := hz.at (p := ⟨w.heap.size + 1, 2, none⟩) (v := .int .i64 0) (by simp [go_sem]); have zq3 := hz.at (p := ⟨w.heap.size + 1, 3, none⟩) (v := .bool false) (by simp [go_sem])
    have zr0 : w2.frozen? ⟨w.heap.size + 1, 0, none⟩ = false := (hz.frozen (p := ⟨w.heap.size + 1, 0, none⟩) (by simp)).trans (by simp [go_sem]); have zr1 : w2.frozen? ⟨w.heap.size + 1, 1, none⟩ = false := (hz.frozen (p := ⟨w.heap.size + 1, 1, none⟩) (by simp)).trans (by simp [go_sem]); have zr2 : w2.frozen? ⟨w.heap.size + 1, 2, none⟩ = false := (hz.frozen (p := ⟨w.heap.size + 1, 2, none⟩) (by simp)).trans (by simp [go_sem]); have zr3 : w2.frozen? ⟨w.heap.size + 1, 3, none⟩ = false := (hz.frozen (p := ⟨w.heap.size + 1, 3, none⟩) (by simp)).trans (by simp [go_sem])
    clear hz
    go_wp2
    refine bodyPost_ret (v := .tuple #[.agg #[.slice none 0 0, .slice none 0 0, .int .i64 0, .bool false], .int .i64 r2]) (by simp [results, Tryz.results123, go_sem, zq0, zq1, zq2, zq3]) rfl ?_
    exact RetDevE.zero HM.out.symm abA
end Go.Proofs.YthgcfjhnnhigoaaGreat

namespace Go.Proofs.YthgcfjhnnhigoaaGreat
open Go.RowKit Disk

set_option maxHeartbeats 1600000 in
theorem refDrop_any (A B : Option Addr) (ca cb : Nat) (s t : List UInt8) (cap : Int) (dn : Bool) (w : World) (hs : RB w 0 A s) (ht : RB w 0 B t) (hca : s.length ≤ ca) (hcb : t.length ≤ cb) (ls : s.length ≤ 1000000) (lt : t.length ≤ 1000000) (n : Int) :
    Calls Tryz.prog 93 #[.agg #[.slice A s.length ca, .slice B t.length cb, .int .i64 cap, .bool dn], .int .i64 n] w (RetDevE w (drop ⟨s, t, cap, dn⟩ n)) := by
  by_cases hu : up ⟨s, t, cap, dn⟩ = 0
  · obtain ⟨hnb, hdn⟩ := up_zero hu
    obtain rfl : dn = false := hdn
    have HU := Lib.hid hu; have HN := Lib.hid hnb; clear hu hnb
    by_cases hn0 : n < 0 ∨ (s.length : Int) < n
    · have HM := Lib.hid (show drop ⟨s, t, cap, false⟩ n = (Disk.zero, 2) by
        unfold drop; rw [if_neg (by simpa using HU.out), if_pos hn0])
      rcases hn0 with hn0 | hn0
      all_goals
        go_enter Tryz.func93, Tryz.ntmps93
        go_wp2_with fail
        refine (refUp_any A B ca cb s t cap false _ ls lt).mono ?_
        rintro e w1 ⟨r, hr, rfl, hb1⟩
        obtain rfl : r = 0 := hr.out.trans HU.out
        have hz : Ab ((w.alloc (.cells #[.slice A s.length ca, .slice B t.length cb, .int .i64 cap, .bool false] 24)).alloc (.cells #[.slice none 0 0, .slice none 0 0, .int .i64 0, .bool false] 24)) w1 := abA
        have bq0 := hz.at (p := ⟨w.heap.size, 0, none⟩) (v := .slice A s.length ca) ckA; have bq1 := hz.at (p := ⟨w.heap.size, 1, none⟩) (v := .slice B t.length cb) ckA; have bq2 := hz.at (p := ⟨w.heap.size, 2, none⟩) (v := .int .i64 cap) ckA; have bq3 := hz.at (p := ⟨w.heap.size, 3, none⟩) (v := .bool false) ckA
        have zq0 := hz.at (p := ⟨w.heap.size + 1, 0, none⟩) (v := .slice none 0 0) (by simp [go_sem]); have zq1 := hz.at (p := ⟨w.heap.size + 1, 1, none⟩) (v := .slice none 0 0) (by simp [go_sem]); have zq2 := hz.at (p := ⟨w.heap.size + 1, 2, none⟩) (v := .int .i64 0) (by simp [go_sem]); have zq3 := hz.at (p := ⟨w.heap.size + 1, 3, none⟩) (v := .bool false) (by simp [go_sem])
        have zr0 : w1.frozen? ⟨w.heap.size + 1, 0, none⟩ = false := (hz.frozen (p := ⟨w.heap.size + 1, 0, none⟩) (by simp)).trans (by simp [go_sem]); have zr1 : w1.frozen? ⟨w.heap.size + 1, 1, none⟩ = false := (hz.frozen (p := ⟨w.heap.size + 1, 1, none⟩) (by simp)).trans (by simp [go_sem]); have zr2 : w1.frozen? ⟨w.heap.size + 1, 2, none⟩ = false := (hz.frozen (p := ⟨w.heap.size + 1, 2, none⟩) (by simp)).trans (by simp [go_sem]); have zr3 : w1.frozen? ⟨w.heap.size + 1, 3, none⟩ = false := (hz.frozen (p := ⟨w.heap.size + 1, 3, none⟩) (by simp)).trans (by simp [go_sem])
        go_wp2
        refine bodyPost_ret (v := .tuple #[.agg #[.slice none 0 0, .slice none 0 0, .int .i64 0, .bool false], .int .i64 2]) (by simp [results, Tryz.results93, go_sem, zq0, zq1, zq2, zq3]) rfl ?_
        exact RetDevE.zero HM.out.symm abA
    obtain ⟨k, rfl⟩ := Int.eq_ofNat_of_zero_le (by omega : 0 ≤ n)
    have hks : k ≤ s.length := by omega
    have HM := Lib.hid (show drop ⟨s, t, cap, false⟩ (k : Int) = (⟨s.drop k, t, cap, false⟩, 0) by
      unfold drop; rw [if_neg (by simpa using HU.out), if_neg hn0]; simp)
    clear hn0
    go_enter Tryz.func93, Tryz.ntmps93
    go_wp2_with fail
    refine (refUp_any A B ca cb s t cap false _ ls lt).mono ?_
    rintro e w1 ⟨r, hr, rfl, hb1⟩
    obtain rfl : r = 0 := hr.out.trans HU.out
    have hz : Ab ((w.alloc (.cells #[.slice A s.length ca, .slice B t.length cb, .int .i64 cap, .bool false] 24)).alloc (.cells #[.slice none 0 0, .slice none 0 0, .int .i64 0, .bool false] 24)) w1 := abA
    have bq0 := hz.at (p := ⟨w.heap.size, 0, none⟩) (v := .slice A s.length ca) ckA; have bq1 := hz.at (p := ⟨w.heap.size, 1, none⟩) (v := .slice B t.length cb) ckA; have bq2 := hz.at (p := ⟨w.heap.size, 2, none⟩) (v := .int .i64 cap) ckA; have bq3 := hz.at (p := ⟨w.heap.size, 3, none⟩) (v := .bool false) ckA
    go_wp2_with fail
    have hk0 : (0 : Int) ≤ (k : Int) := by omega
    have hsl := fun a len cap w => run_cut k .i64 a len cap w
    have hw : IntKind.i64.wrap ((s.length : Int) - k) = (s.length : Int) - k := IntWalk.i64_in _ (by omega)
    go_region_held3 (fun w' => w'.cell? ⟨w.heap.size, 0, none⟩ = some (.slice A s.length ca) ∧ w'.cell? ⟨w.heap.size, 1, none⟩ = some (.slice B t.length cb) ∧ w'.cell? ⟨w.heap.size, 2, none⟩ = some (.int .i64 cap) ∧ w'.cell? ⟨w.heap.size, 3, none⟩ = some (.bool false)) ((refine ⟨?_, ?_, ?_, ?_⟩ <;> (exact ckA)))
      ((first
        | (go_at_call 70
           refine (whole_any A B ca cb s t cap false _ (hs.ab abA) (ht.ab abA) hca hcb ls lt).mono ?_
           rintro e w4 ⟨L4, D4, c4, e4, rfl, o4, hb4⟩
           obtain ⟨l4a, l4b⟩ : L4.length ≤ s.length + t.length ∧ s.length + t.length ≤ L4.length := by rw [e4.out]; simp
           have hk4 : (k : Int) ≤ (L4.length : Int) := by omega
           have hk5 : k ≤ L4.length := by omega)
        | (go_at_call 117
           refine (parted_any A B ca cb s t cap false _ _ _ (L4.drop k) (s.length - k) _ (by first | rfl | (simp; done) | (simp; omega) | omega) _ (by first | rfl | omega | (simp; done) | (simp; omega)) (RB.ab (o4.rb.zero.cut k c4 o4.le) abA) (by have := o4.le; simp; omega) wnA wnA).mono ?_
           rintro e w5 ⟨r, E1, E2, k1, k2, e5, rfl, p5, p6, hb5⟩
           (try simp at p5 p6)
           have hz4 : Ab ((w.alloc (.cells #[.slice A s.length ca, .slice B t.length cb, .int .i64 cap, .bool false] 24)).alloc (.cells #[.slice none 0 0, .slice none 0 0, .int .i64 0, .bool false] 24)) w4 := abA
           have z4 := hz4.size; (simp at z4); clear hz4
           have hz5 : Ab ((w.alloc (.cells #[.slice A s.length ca, .slice B t.length cb, .int .i64 cap, .bool false] 24)).alloc (.cells #[.slice none 0 0, .slice none 0 0, .int .i64 0, .bool false] 24)) w5 := abA
           have zq0 := hz5.at (p := ⟨w.heap.size + 1, 0, none⟩) (v := .slice none 0 0) (by simp [go_sem]); have zq1 := hz5.at (p := ⟨w.heap.size + 1, 1, none⟩) (v := .slice none 0 0) (by simp [go_sem]); have zq2 := hz5.at (p := ⟨w.heap.size + 1, 2, none⟩) (v := .int .i64 0) (by simp [go_sem]); have zq3 := hz5.at (p := ⟨w.heap.size + 1, 3, none⟩) (v := .bool false) (by simp [go_sem])
           have zr0 : w5.frozen? ⟨w.heap.size + 1, 0, none⟩ = false := (hz5.frozen (p := ⟨w.heap.size + 1, 0, none⟩) (by simp)).trans (by simp [go_sem]); have zr1 : w5.frozen? ⟨w.heap.size + 1, 1, none⟩ = false := (hz5.frozen (p := ⟨w.heap.size + 1, 1, none⟩) (by simp)).trans (by simp [go_sem]); have zr2 : w5.frozen? ⟨w.heap.size + 1, 2, none⟩ = false := (hz5.frozen (p := ⟨w.heap.size + 1, 2, none⟩) (by simp)).trans (by simp [go_sem]); have zr3 : w5.frozen? ⟨w.heap.size + 1, 3, none⟩ = false := (hz5.frozen (p := ⟨w.heap.size + 1, 3, none⟩) (by simp)).trans (by simp [go_sem]); clear hz5)))
    all_goals go_wp2
    all_goals refine bodyPost_ret (v := .tuple #[.agg #[.slice E1 r.s.length k1, .slice E2 r.t.length k2, .int .i64 r.cap, .bool r.down], .int .i64 0]) (by simp [results, Tryz.results93, go_sem, zq0, zq1, zq2, zq3]) rfl ?_
    all_goals exact ⟨r, 0, E1, E2, k1, k2, Lib.hid (by rw [e5.out, HM.out, e4.out]; exact Prod.ext (Dev.ext' (drop_cut s t k hks).1 (drop_cut s t k hks).2 rfl rfl) rfl), rfl, OR.mono (lo := w4.heap.size) orA wnA, OR.mono (lo := w4.heap.size) orA wnA, abA⟩
  · have HM := Lib.hid (show drop ⟨s, t, cap, dn⟩ n = (Disk.zero, up ⟨s, t, cap, dn⟩) from if_pos hu)
    generalize hv : up ⟨s, t, cap, dn⟩ = u at hu HM
    have HV := Lib.hid hv; clear hv
    have hne : (u != 0) = true := by simpa using hu
    clear hu
    go_enter Tryz.func93, Tryz.ntmps93
    go_wp2_with fail
    refine (refUp_any A B ca cb s t cap dn _ ls lt).mono ?_
    rintro e w1 ⟨r, hr, rfl, hb1⟩
    obtain rfl : r = u := hr.out.trans HV.out
    have bq0 := hb1.at (p := ⟨w.heap.size, 0, none⟩) (v := .slice A s.length ca) ckA; have bq1 := hb1.at (p := ⟨w.heap.size, 1, none⟩) (v := .slice B t.length cb) ckA; have bq2 := hb1.at (p := ⟨w.heap.size, 2, none⟩) (v := .int .i64 cap) ckA; have bq3 := hb1.at (p := ⟨w.heap.size, 3, none⟩) (v := .bool dn) ckA
    go_wp2_with fail
    refine (refUp_any A B ca cb s t cap dn _ ls lt).mono ?_
    rintro e w2 ⟨r2, hr2, rfl, hb2⟩
    obtain rfl : r2 = r := hr2.out.trans HV.out
    have hz : Ab ((w.alloc (.cells #[.slice A s.length ca, .slice B t.length cb, .int .i64 cap, .bool dn] 24)).alloc (.cells #[.slice none 0 0, .slice none 0 0, .int .i64 0, .bool false] 24)) w2 := abA
    have zq0 := hz.at (p := ⟨w.heap.size + 1, 0, none⟩) (v := .slice none 0 0) (by simp [go_sem]); have zq1 := hz.at (p := ⟨w.heap.size + 1, 1, none⟩) (v := .slice none 0 0) (by simp [go_sem]); have zq2 := hz.at (p := ⟨w.heap.size + 1, 2, none⟩) (v := .int .i64 0) (by simp [go_sem]); have zq3 := hz.at (p := ⟨w.heap.size + 1, 3, none⟩) (v := .bool false) (by simp [go_sem])
    have zr0 : w2.frozen? ⟨w.heap.size + 1, 0, none⟩ = false := (hz.frozen (p := ⟨w.heap.size + 1, 0, none⟩) (by simp)).trans (by simp [go_sem]); have zr1 : w2.frozen? ⟨w.heap.size + 1, 1, none⟩ = false := (hz.frozen (p := ⟨w.heap.size + 1, 1, none⟩) (by simp)).trans (by simp [go_sem]); have zr2 : w2.frozen? ⟨w.heap.size + 1, 2, none⟩ = false := (hz.frozen (p := ⟨w.heap.size + 1, 2, none⟩) (by simp)).trans (by simp [go_sem]); have zr3 : w2.frozen? ⟨w.heap.size + 1, 3, none⟩ = false := (hz.frozen (p := ⟨w.heap.size + 1, 3, none⟩) (by simp)).trans (by simp [go_sem])
    clear hz
    go_wp2
    refine bodyPost_ret (v := .tuple #[.agg #[.slice none 0 0, .slice none 0 0, .int .i64 0, .bool false], .int .i64 r2]) (by simp [results, Tryz.results93, go_sem, zq0, zq1, zq2, zq3]) rfl ?_
    exact RetDevE.zero HM.out.symm abA
end Go.Proofs.YthgcfjhnnhigoaaGreat

namespace Go.Proofs.YthgcfjhnnhigoaaGreat
open Go.RowKit Disk

/-- A device r = m in a variable of the call's own at block g, beside the result's zero cells at block z. -/
def CutDev (w : World) (z : Nat) (m : Dev) (v : Value) (wx : World) : Prop :=
  ∃ (g : Nat) (r : Dev) (D E : Option Addr) (cd ce : Nat), Hid (r = m) ∧ v = .pointer (some ⟨g, 0, none⟩) ∧ z < g ∧
    wx.cell? ⟨g, 0, none⟩ = some (.slice D r.s.length cd) ∧ wx.cell? ⟨g, 1, none⟩ = some (.slice E r.t.length ce) ∧ wx.cell? ⟨g, 2, none⟩ = some (.int .i64 r.cap) ∧ wx.cell? ⟨g, 3, none⟩ = some (.bool r.down) ∧ wx.frozen? ⟨g, 3, none⟩ = false ∧
    wx.cell? ⟨z, 0, none⟩ = some (.slice none 0 0) ∧ wx.cell? ⟨z, 1, none⟩ = some (.slice none 0 0) ∧ wx.cell? ⟨z, 2, none⟩ = some (.int .i64 0) ∧ wx.cell? ⟨z, 3, none⟩ = some (.bool false) ∧
    wx.frozen? ⟨z, 0, none⟩ = false ∧ wx.frozen? ⟨z, 1, none⟩ = false ∧ wx.frozen? ⟨z, 2, none⟩ = false ∧ wx.frozen? ⟨z, 3, none⟩ = false ∧
    (∀ u : Value, OR 5 (z + 1) (wx.setCell ⟨g, 3, none⟩ u) D cd r.s) ∧ (∀ u : Value, OR 5 (z + 1) (wx.setCell ⟨g, 3, none⟩ u) E ce r.t) ∧ Ab w wx

end Go.Proofs.YthgcfjhnnhigoaaGreat

namespace Go.Proofs.YthgcfjhnnhigoaaGreat
open Go.RowKit Disk

theorem refNew_any (n : Int) (w : World) : Calls Tryz.prog 75 #[.int .i64 n] w (RetDevE w (Disk.new n)) := by
  by_cases h : n < 0 ∨ 20000 < n
  · have HM := Lib.hid (show Disk.new n = (Disk.zero, 2) from if_pos h)
    go_enter Tryz.func75, Tryz.ntmps75
    go_wp2
    all_goals first | (exfalso; omega) | skip
    all_goals refine bodyPost_ret (v := .tuple #[.agg #[.slice none 0 0, .slice none 0 0, .int .i64 0, .bool false], .int .i64 2]) (by simp [results, Tryz.results75, go_sem]) rfl ?_
    all_goals exact RetDevE.zero HM.out.symm abA
  · have HM := Lib.hid (show Disk.new n = (⟨[], [], n, false⟩, 0) from if_neg h)
    go_enter Tryz.func75, Tryz.ntmps75
    go_wp2
    all_goals first | (exfalso; omega) | skip
    all_goals refine bodyPost_ret (v := .tuple #[.agg #[.slice none 0 0, .slice none 0 0, .int .i64 n, .bool false], .int .i64 0]) (by simp [results, Tryz.results75, go_sem]) rfl ?_
    all_goals exact ⟨⟨[], [], n, false⟩, 0, none, none, 0, 0, HM.out.symm, rfl, OR.none_, OR.none_, abA⟩

theorem great_no (A B : Option Addr) (ca cb : Nat) (s t : List UInt8) (cap : Int) (dn : Bool) (w : World) (ls : s.length ≤ 3000) (lt : t.length ≤ 3000) :
    Calls Tryz.prog 73 #[.agg #[.slice A s.length ca, .slice B t.length cb, .int .i64 cap, .bool dn]] w fun e w' => e = .returned (.bool false) ∧ Ab w w' := by
  have h1 : ¬ 3000 < s.length := by omega
  have h2 : ¬ 3000 < t.length := by omega
  go_enter Tryz.func73, Tryz.ntmps73
  go_wp2
  go_ret
  exact ⟨by simp; omega, abA⟩
theorem great_yes (A B : Option Addr) (ca cb : Nat) (s t : List UInt8) (cap : Int) (dn : Bool) (w : World) (h : 3000 < s.length ∨ 3000 < t.length) :
    Calls Tryz.prog 73 #[.agg #[.slice A s.length ca, .slice B t.length cb, .int .i64 cap, .bool dn]] w fun e w' => e = .returned (.bool true) ∧ Ab w w' := by
  by_cases h1 : 3000 < s.length
  · go_enter Tryz.func73, Tryz.ntmps73
    go_wp2
    all_goals go_ret
    all_goals exact ⟨by first | (simp; done) | (simp; omega), abA⟩
  · have h2 : 3000 < t.length := by omega
    clear h
    go_enter Tryz.func73, Tryz.ntmps73
    go_wp2
    all_goals go_ret
    all_goals exact ⟨by first | (simp; done) | (simp; omega), abA⟩

theorem sameBytes_refl (A B : Option Addr) (c d : Nat) (x : List UInt8) (w : World) (hx : RB w 0 A x) (hy : RB w 0 B x) (hl : x.length ≤ 140737488351232) :
    Calls Tryz.prog 71 #[.slice A x.length c, .slice B x.length d] w fun e w' => e = .returned (.bool true) ∧ ∃ n, w' = w.drewN n :=
  (sameBytes_eq A B c d x x w hx hy hl hl).mono fun _ _ h => ⟨by rw [h.1, beq_self_eq_true], h.2⟩

theorem same_true (A B C D : Option Addr) (ca cb cc cd : Nat) (s t : List UInt8) (cap : Int) (dn : Bool) (w : World) (hs : RB w 0 A s) (ht : RB w 0 B t) (hs' : RB w 0 C s) (ht' : RB w 0 D t) (ls : s.length ≤ 4000000) (lt : t.length ≤ 4000000) :
    Calls Tryz.prog 30 #[.agg #[.slice A s.length ca, .slice B t.length cb, .int .i64 cap, .bool dn], .agg #[.slice C s.length cc, .slice D t.length cd, .int .i64 cap, .bool dn]] w fun e w' => e = .returned (.bool true) ∧ Ab w w' := by
  go_enter Tryz.func30, Tryz.ntmps30
  go_wp2_with fail
  refine (sameBytes_refl A C ca cc s _ (hs.ab abA) (hs'.ab abA) (by omega)).mono ?_
  rintro e w1 ⟨rfl, n1, rfl⟩
  go_wp2_with fail
  refine (sameBytes_refl B D cb cd t _ (ht.ab abA) (ht'.ab abA) (by omega)).mono ?_
  rintro e w2 ⟨rfl, n2, rfl⟩
  go_wp2
  go_ret
  exact ⟨rfl, abA⟩

end Go.Proofs.YthgcfjhnnhigoaaGreat
