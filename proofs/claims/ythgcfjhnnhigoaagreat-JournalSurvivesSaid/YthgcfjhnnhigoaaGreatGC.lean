/- The texts Whole, Parted, Twin, RefA, RefB, RefC, RefD, RefE, RefF, one behind the other. Own work. -/
import Derived.Test.YthgcfjhnnhigoaaGreatGB
import Derived.Deep.DeepCutAuto
set_option linter.unusedVariables false
namespace Go.Proofs.YthgcfjhnnhigoaaGreat
open Go.RowKit

set_option maxHeartbeats 800000 in
theorem whole_any (A B : Option Addr) (ca cb : Nat) (s t : List UInt8) (cap : Int) (dn : Bool) (w : World) (hs : RB w 0 A s) (ht : RB w 0 B t) (hca : s.length ≤ ca) (hcb : t.length ≤ cb) (ls : s.length ≤ 1000000) (lt : t.length ≤ 1000000) :
    Calls Tryz.prog 70 #[.agg #[.slice A s.length ca, .slice B t.length cb, .int .i64 cap, .bool dn]] w (RetB w (s ++ t)) := by
  go_enter Tryz.func70, Tryz.ntmps70
  go_wp2_with fail
  go_region_held3 (fun w' => w'.cell? ⟨w.heap.size, 0, none⟩ = some (.slice A s.length ca) ∧ w'.cell? ⟨w.heap.size, 1, none⟩ = some (.slice B t.length cb) ∧ w'.cell? ⟨w.heap.size, 2, none⟩ = some (.int .i64 cap))
    ((refine ⟨?_, ?_, ?_⟩ <;> (exact ckA)))
    ((first
      | (refine stepLit (by rfl) _ _ (by rfl) (by rfl) (by rfl) (m := s) (by first | rfl | (simp; done) | (simp; omega)) (by (repeat (first | with_reducible exact new_drew (by first | (simp; done) | (simp; omega)) | with_reducible exact new_plain (by first | (simp; done) | (simp; omega)) | with_reducible exact new_drewN (by first | (simp; done) | (simp; omega)) | with_reducible refine old_alloc ?_ | with_reducible refine old_drew ?_ | with_reducible refine old_drewN ?_ _ | with_reducible refine old_grown (by assumption) (by simp) ?_ | with_reducible refine old_ab (by assumption) ?_))) (hs.ab abA) hca wnA ?_
         intro A1 c1 w1 L1 e1 a1 o1; have l1 : L1.length = s.length := by rw [e1.out]
         have l1' := Nat.le_of_eq l1; clear l1; have z1 := a1.size; (try simp at z1); have p1 := o1 (w.heap.size + 1) wnA wnA)
      | (refine stepApp (by rfl) _ _ (by rfl) (by rfl) (by rfl) (m := t) (by first | rfl | (simp; done) | (simp; omega)) p1 wnA (ht.ab abA) hcb wnA ?_
         intro A2 c2 w2 L2 e2 p2 _ b2; have a2 := b2 (w.alloc (.cells #[.slice A s.length ca, .slice B t.length cb, .int .i64 cap, .bool dn] 24)) abA wnA)))
  go_wp2
  go_ret
  exact ⟨L2, A2, c2, Lib.hid (by rw [e2.out, e1.out]), rfl, p2.mono wnA, abA⟩
end Go.Proofs.YthgcfjhnnhigoaaGreat

namespace Go.Proofs.YthgcfjhnnhigoaaGreat
open Go.RowKit Disk

end Go.Proofs.YthgcfjhnnhigoaaGreat

namespace Go.Proofs.YthgcfjhnnhigoaaGreat
open Go.RowKit Disk

end Go.Proofs.YthgcfjhnnhigoaaGreat

namespace Go.Proofs.YthgcfjhnnhigoaaGreat
open Go.RowKit Disk

theorem refCheck_any (A B : Option Addr) (ca cb : Nat) (s t : List UInt8) (cap : Int) (dn : Bool) (w : World) (ls : s.length ≤ 1000000) (lt : t.length ≤ 1000000) :
    Calls Tryz.prog 109 #[.agg #[.slice A s.length ca, .slice B t.length cb, .int .i64 cap, .bool dn]] w (RetInt w (check ⟨s, t, cap, dn⟩)) := by
  have HI := Lib.hid (@bad_iff s t cap dn)
  go_enter Tryz.func109, Tryz.ntmps109
  go_wp2
  all_goals go_ret
  all_goals refine RetInt.mk ?_ abA
  all_goals refine congrArg (Value.int .i64) ?_
  all_goals first | exact (check_bad (HI.out.2 (by first | exact .inl (by omega) | exact .inr (.inl (by omega)) | exact .inr (.inr (.inl (by omega))) | exact .inr (.inr (.inr ⟨by assumption, by omega⟩))))).symm | exact (check_ok (mt HI.out.1 (by rintro (h | h | h | ⟨h, h'⟩) <;> first | omega | (simp_all; done)))).symm

theorem refUp_any (A B : Option Addr) (ca cb : Nat) (s t : List UInt8) (cap : Int) (dn : Bool) (w : World) (ls : s.length ≤ 1000000) (lt : t.length ≤ 1000000) :
    Calls Tryz.prog 72 #[.agg #[.slice A s.length ca, .slice B t.length cb, .int .i64 cap, .bool dn]] w (RetInt w (up ⟨s, t, cap, dn⟩)) := by
  have HI := Lib.hid (@bad_iff s t cap dn)
  by_cases hb : bad ⟨s, t, cap, dn⟩
  · have HB := Lib.hid hb; clear hb
    go_enter Tryz.func72, Tryz.ntmps72
    go_wp2_with fail
    refine (refCheck_any A B ca cb s t cap dn _ ls lt).mono ?_
    rintro e w1 ⟨r, hr, rfl, hb1⟩
    obtain rfl : r = 8 := by rw [hr.out, check_bad HB.out]
    have bq0 := hb1.at (p := ⟨w.heap.size, 0, none⟩) (v := .slice A s.length ca) ckA; have bq1 := hb1.at (p := ⟨w.heap.size, 1, none⟩) (v := .slice B t.length cb) ckA; have bq2 := hb1.at (p := ⟨w.heap.size, 2, none⟩) (v := .int .i64 cap) ckA; have bq3 := hb1.at (p := ⟨w.heap.size, 3, none⟩) (v := .bool dn) ckA
    go_wp2_with fail
    refine (refCheck_any A B ca cb s t cap dn _ ls lt).mono ?_
    rintro e w2 ⟨r2, hr2, rfl, hb2⟩
    obtain rfl : r2 = 8 := by rw [hr2.out, check_bad HB.out]
    go_wp2
    go_ret
    exact RetInt.mk (by rw [up_bad HB.out]; rfl) abA
  · have HB := Lib.hid hb; clear hb
    go_enter Tryz.func72, Tryz.ntmps72
    go_wp2_with fail
    refine (refCheck_any A B ca cb s t cap dn _ ls lt).mono ?_
    rintro e w1 ⟨r, hr, rfl, hb1⟩
    obtain rfl : r = 0 := by rw [hr.out, check_ok HB.out]
    have bq2 := hb1.at (p := ⟨w.heap.size, 2, none⟩) (v := .int .i64 cap) ckA; have bq3 := hb1.at (p := ⟨w.heap.size, 3, none⟩) (v := .bool dn) ckA
    go_wp2
    all_goals go_ret
    all_goals refine RetInt.mk (congrArg (Value.int .i64) ?_) abA
    all_goals first | exact (up_down HB.out (by assumption)).symm | exact (up_ok HB.out (by simp_all)).symm
end Go.Proofs.YthgcfjhnnhigoaaGreat

namespace Go.Proofs.YthgcfjhnnhigoaaGreat
open Go.RowKit Disk

end Go.Proofs.YthgcfjhnnhigoaaGreat

namespace Go.Proofs.YthgcfjhnnhigoaaGreat
open Go.RowKit Disk

end Go.Proofs.YthgcfjhnnhigoaaGreat

namespace Go.Proofs.YthgcfjhnnhigoaaGreat
open Go.RowKit Disk

end Go.Proofs.YthgcfjhnnhigoaaGreat

namespace Go.Proofs.YthgcfjhnnhigoaaGreat
open Go.RowKit Disk

/-- A device r = m in a variable of the call's own at block g, beside the result's zero cells at block z. -/
def CutDev (w : World) (z : Nat) (m : Dev) (v : Value) (wx : World) : Prop :=
  ∃ (g : Nat) (r : Dev) (D E : Option Addr) (cd ce : Nat), Hid (r = m) ∧ v = .pointer (some ⟨g, 0, none⟩) ∧ z < g ∧
    wx.cell? ⟨g, 0, none⟩ = some (.slice D r.s.length cd) ∧ wx.cell? ⟨g, 1, none⟩ = some (.slice E r.t.length ce) ∧ wx.cell? ⟨g, 2, none⟩ = some (.int .i64 r.cap) ∧ wx.cell? ⟨g, 3, none⟩ = some (.bool r.down) ∧ wx.frozen? ⟨g, 3, none⟩ = false ∧
    wx.cell? ⟨z, 0, none⟩ = some (.slice none 0 0) ∧ wx.cell? ⟨z, 1, none⟩ = some (.slice none 0 0) ∧ wx.cell? ⟨z, 2, none⟩ = some (.int .i64 0) ∧ wx.cell? ⟨z, 3, none⟩ = some (.bool false) ∧
    wx.frozen? ⟨z, 0, none⟩ = false ∧ wx.frozen? ⟨z, 1, none⟩ = false ∧ wx.frozen? ⟨z, 2, none⟩ = false ∧ wx.frozen? ⟨z, 3, none⟩ = false ∧
    (∀ u : Value, OR 5 (z + 1) (wx.setCell ⟨g, 3, none⟩ u) D cd r.s) ∧ (∀ u : Value, OR 5 (z + 1) (wx.setCell ⟨g, 3, none⟩ u) E ce r.t) ∧ Ab w wx

end Go.Proofs.YthgcfjhnnhigoaaGreat

namespace Go.Proofs.YthgcfjhnnhigoaaGreat
open Go.RowKit Disk

theorem great_no (A B : Option Addr) (ca cb : Nat) (s t : List UInt8) (cap : Int) (dn : Bool) (w : World) (ls : s.length ≤ 3000) (lt : t.length ≤ 3000) :
    Calls Tryz.prog 73 #[.agg #[.slice A s.length ca, .slice B t.length cb, .int .i64 cap, .bool dn]] w fun e w' => e = .returned (.bool false) ∧ Ab w w' := by
  have h1 : ¬ 3000 < s.length := by omega
  have h2 : ¬ 3000 < t.length := by omega
  go_enter Tryz.func73, Tryz.ntmps73
  go_wp2
  go_ret
  exact ⟨by simp; omega, abA⟩
theorem great_yes (A B : Option Addr) (ca cb : Nat) (s t : List UInt8) (cap : Int) (dn : Bool) (w : World) (h : 3000 < s.length ∨ 3000 < t.length) :
    Calls Tryz.prog 73 #[.agg #[.slice A s.length ca, .slice B t.length cb, .int .i64 cap, .bool dn]] w fun e w' => e = .returned (.bool true) ∧ Ab w w' := by
  by_cases h1 : 3000 < s.length
  · go_enter Tryz.func73, Tryz.ntmps73
    go_wp2
    all_goals go_ret
    all_goals exact ⟨by first | (simp; done) | (simp; omega), abA⟩
  · have h2 : 3000 < t.length := by omega
    clear h
    go_enter Tryz.func73, Tryz.ntmps73
    go_wp2
    all_goals go_ret
    all_goals exact ⟨by first | (simp; done) | (simp; omega), abA⟩

theorem sameBytes_refl (A B : Option Addr) (c d : Nat) (x : List UInt8) (w : World) (hx : RB w 0 A x) (hy : RB w 0 B x) (hl : x.length ≤ 140737488351232) :
    Calls Tryz.prog 71 #[.slice A x.length c, .slice B x.length d] w fun e w' => e = .returned (.bool true) ∧ ∃ n, w' = w.drewN n :=
  (sameBytes_eq A B c d x x w hx hy hl hl).mono fun _ _ h => ⟨by rw [h.1, beq_self_eq_true], h.2⟩

theorem same_true (A B C D : Option Addr) (ca cb cc cd : Nat) (s t : List UInt8) (cap : Int) (dn : Bool) (w : World) (hs : RB w 0 A s) (ht : RB w 0 B t) (hs' : RB w 0 C s) (ht' : RB w 0 D t) (ls : s.length ≤ 4000000) (lt : t.length ≤ 4000000) :
    Calls Tryz.prog 30 #[.agg #[.slice A s.length ca, .slice B t.length cb, .int .i64 cap, .bool dn], .agg #[.slice C s.length cc, .slice D t.length cd, .int .i64 cap, .bool dn]] w fun e w' => e = .returned (.bool true) ∧ Ab w w' := by
  go_enter Tryz.func30, Tryz.ntmps30
  go_wp2_with fail
  refine (sameBytes_refl A C ca cc s _ (hs.ab abA) (hs'.ab abA) (by omega)).mono ?_
  rintro e w1 ⟨rfl, n1, rfl⟩
  go_wp2_with fail
  refine (sameBytes_refl B D cb cd t _ (ht.ab abA) (ht'.ab abA) (by omega)).mono ?_
  rintro e w2 ⟨rfl, n2, rfl⟩
  go_wp2
  go_ret
  exact ⟨rfl, abA⟩

end Go.Proofs.YthgcfjhnnhigoaaGreat
