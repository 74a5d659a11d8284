/- The texts SRefA, SRefB, SRefC, SRefD, SRefF, SRefG, one behind the other. Own work. -/
import Derived.Test.YthgcfjhnnhigoaaGreatGT
import Derived.Test.YthgcfjhnnhigoaaGreatGC
import Derived.Test.YthgcfjhnnhigoaaGreatGF
import Derived.IntWalk
import Derived.RegionTactic
set_option linter.unusedVariables false
set_option linter.unusedSimpArgs false
/- Check, Great and Same of the reference of layer 5, walked. Own work. -/
namespace Go.Proofs.YthgcfjhnnhigoaaGreat
open Go.RowKit
open Slots (Sl)

set_option maxRecDepth 100000 in
theorem srcheck_any (m : AM) (r : Sl) (w : World) (h : SlM w 0 m r) :
    Calls Tryz.prog 31 #[.agg #[.slice m.A r.a.s.length m.ca, .slice m.B r.a.t.length m.cb, .int .i64 r.a.cap, .bool r.a.down, .slice m.C r.b.s.length m.cc, .slice m.D r.b.t.length m.cd, .int .i64 r.b.cap, .bool r.b.down, .int .i64 r.n]] w (RetInt w (Slots.check r)) := by
  obtain ⟨A, B, C, D, ca, cb, cc, cd⟩ := m
  obtain ⟨⟨s, t, cap, dn⟩, ⟨p, q, cep, dm⟩, n⟩ := r
  dsimp only
  go_enter Tryz.func31, Tryz.ntmps31
  go_wp2
  go_loopw [3] (fun i wr => Ab (w.alloc (.cells #[.slice A s.length ca, .slice B t.length cb, .int .i64 cap, .bool dn, .slice C p.length cc, .slice D q.length cd, .int .i64 cep, .bool dm, .int .i64 n] 27)) wr ∧ (i = .int .i64 0 ∨ (i = .int .i64 1 ∧ Hid (¬ Slots.bad1 ⟨s, t, cap, dn⟩)) ∨ (i = .int .i64 2 ∧ Hid (¬ Slots.bad1 ⟨s, t, cap, dn⟩) ∧ Hid (¬ Slots.bad1 ⟨p, q, cep, dm⟩)))) (fun i _ => 2 - (intOf i).toNat)
  case atStart => exact ⟨abA, .inl rfl⟩
  case round =>
    obtain ⟨hb, rfl | ⟨rfl, h1⟩ | ⟨rfl, h1, h2⟩⟩ := hrel
    · have bq0 := hb.at (p := ⟨w.heap.size, 0, none⟩) (v := .slice A s.length ca) ckA; have bq1 := hb.at (p := ⟨w.heap.size, 1, none⟩) (v := .slice B t.length cb) ckA; have bq2 := hb.at (p := ⟨w.heap.size, 2, none⟩) (v := .int .i64 cap) ckA; have bq3 := hb.at (p := ⟨w.heap.size, 3, none⟩) (v := .bool dn) ckA; have bq4 := hb.at (p := ⟨w.heap.size, 4, none⟩) (v := .slice C p.length cc) ckA; have bq5 := hb.at (p := ⟨w.heap.size, 5, none⟩) (v := .slice D q.length cd) ckA; have bq6 := hb.at (p := ⟨w.heap.size, 6, none⟩) (v := .int .i64 cep) ckA; have bq7 := hb.at (p := ⟨w.heap.size, 7, none⟩) (v := .bool dm) ckA; have bq8 := hb.at (p := ⟨w.heap.size, 8, none⟩) (v := .int .i64 n) ckA
      by_cases hu : Disk.up ⟨s, t, cap, dn⟩ = 0
      · have HU := Lib.hid hu
        clear hu
        go_wp2_with fail
        refine (refUp_any A B ca cb s t cap dn _ h.sa h.sb).mono ?_
        rintro e w1 ⟨r, hr, rfl, hb1⟩
        obtain rfl : r = 0 := hr.out.trans HU.out
        clear hr
        have bW := hb1
        have hb := hb.trans hb1
        have cq0 := hb.at (p := ⟨w.heap.size, 0, none⟩) (v := .slice A s.length ca) ckA; have cq1 := hb.at (p := ⟨w.heap.size, 1, none⟩) (v := .slice B t.length cb) ckA; have cq2 := hb.at (p := ⟨w.heap.size, 2, none⟩) (v := .int .i64 cap) ckA; have cq3 := hb.at (p := ⟨w.heap.size, 3, none⟩) (v := .bool dn) ckA; have cq4 := hb.at (p := ⟨w.heap.size, 4, none⟩) (v := .slice C p.length cc) ckA; have cq5 := hb.at (p := ⟨w.heap.size, 5, none⟩) (v := .slice D q.length cd) ckA; have cq6 := hb.at (p := ⟨w.heap.size, 6, none⟩) (v := .int .i64 cep) ckA; have cq7 := hb.at (p := ⟨w.heap.size, 7, none⟩) (v := .bool dm) ckA; have cq8 := hb.at (p := ⟨w.heap.size, 8, none⟩) (v := .int .i64 n) ckA
        by_cases hlen : 0 < t.length
        · have hB := Lib.hid (show Slots.bad1 ⟨s, t, cap, dn⟩ from .inr hlen)
          have hlen' : decide ((0 : Int) < (t.length : Int)) = true := by simpa using hlen
          go_wp2
          go_ret
          exact RetInt.mk (by rw [Slots.check_bad (by exact .inl hB.out)]; rfl) abA
        · have hB := Lib.hid (show ¬ Slots.bad1 ⟨s, t, cap, dn⟩ from by rintro (k | k); exact k HU.out; exact hlen k)
          have hlen' : decide ((0 : Int) < (t.length : Int)) = false := by simpa using hlen
          go_wp2
          go_roundw
          case rel => exact ⟨abA, .inr (.inl ⟨rfl, hB⟩)⟩
          case measure => (show 2 - (intOf _).toNat < 2 - (intOf _).toNat); simp only [intOf]; omega
      · have hB := Lib.hid (show Slots.bad1 ⟨s, t, cap, dn⟩ from .inl hu)
        have HU := Lib.hid hu
        clear hu
        go_wp2_with fail
        refine (refUp_any A B ca cb s t cap dn _ h.sa h.sb).mono ?_
        rintro e w1 ⟨r, hr, rfl, hb1⟩
        have hne : (r != 0) = true := by rw [hr.out]; simpa using HU.out
        clear hr
        go_wp2
        go_ret
        exact RetInt.mk (by rw [Slots.check_bad (by exact .inl hB.out)]; rfl) abA
    · have bq0 := hb.at (p := ⟨w.heap.size, 0, none⟩) (v := .slice A s.length ca) ckA; have bq1 := hb.at (p := ⟨w.heap.size, 1, none⟩) (v := .slice B t.length cb) ckA; have bq2 := hb.at (p := ⟨w.heap.size, 2, none⟩) (v := .int .i64 cap) ckA; have bq3 := hb.at (p := ⟨w.heap.size, 3, none⟩) (v := .bool dn) ckA; have bq4 := hb.at (p := ⟨w.heap.size, 4, none⟩) (v := .slice C p.length cc) ckA; have bq5 := hb.at (p := ⟨w.heap.size, 5, none⟩) (v := .slice D q.length cd) ckA; have bq6 := hb.at (p := ⟨w.heap.size, 6, none⟩) (v := .int .i64 cep) ckA; have bq7 := hb.at (p := ⟨w.heap.size, 7, none⟩) (v := .bool dm) ckA; have bq8 := hb.at (p := ⟨w.heap.size, 8, none⟩) (v := .int .i64 n) ckA
      by_cases hu : Disk.up ⟨p, q, cep, dm⟩ = 0
      · have HU := Lib.hid hu
        clear hu
        go_wp2_with fail
        refine (refUp_any C D cc cd p q cep dm _ h.sc h.sd).mono ?_
        rintro e w1 ⟨r, hr, rfl, hb1⟩
        obtain rfl : r = 0 := hr.out.trans HU.out
        clear hr
        have bW := hb1
        have hb := hb.trans hb1
        have cq0 := hb.at (p := ⟨w.heap.size, 0, none⟩) (v := .slice A s.length ca) ckA; have cq1 := hb.at (p := ⟨w.heap.size, 1, none⟩) (v := .slice B t.length cb) ckA; have cq2 := hb.at (p := ⟨w.heap.size, 2, none⟩) (v := .int .i64 cap) ckA; have cq3 := hb.at (p := ⟨w.heap.size, 3, none⟩) (v := .bool dn) ckA; have cq4 := hb.at (p := ⟨w.heap.size, 4, none⟩) (v := .slice C p.length cc) ckA; have cq5 := hb.at (p := ⟨w.heap.size, 5, none⟩) (v := .slice D q.length cd) ckA; have cq6 := hb.at (p := ⟨w.heap.size, 6, none⟩) (v := .int .i64 cep) ckA; have cq7 := hb.at (p := ⟨w.heap.size, 7, none⟩) (v := .bool dm) ckA; have cq8 := hb.at (p := ⟨w.heap.size, 8, none⟩) (v := .int .i64 n) ckA
        by_cases hlen : 0 < q.length
        · have hB := Lib.hid (show Slots.bad1 ⟨p, q, cep, dm⟩ from .inr hlen)
          have hlen' : decide ((0 : Int) < (q.length : Int)) = true := by simpa using hlen
          go_wp2
          go_ret
          exact RetInt.mk (by rw [Slots.check_bad (by exact .inr (.inl hB.out))]; rfl) abA
        · have hB := Lib.hid (show ¬ Slots.bad1 ⟨p, q, cep, dm⟩ from by rintro (k | k); exact k HU.out; exact hlen k)
          have hlen' : decide ((0 : Int) < (q.length : Int)) = false := by simpa using hlen
          go_wp2
          go_roundw
          case rel => exact ⟨abA, .inr (.inr ⟨rfl, h1, hB⟩)⟩
          case measure => (show 2 - (intOf _).toNat < 2 - (intOf _).toNat); simp only [intOf]; omega
      · have hB := Lib.hid (show Slots.bad1 ⟨p, q, cep, dm⟩ from .inl hu)
        have HU := Lib.hid hu
        clear hu
        go_wp2_with fail
        refine (refUp_any C D cc cd p q cep dm _ h.sc h.sd).mono ?_
        rintro e w1 ⟨r, hr, rfl, hb1⟩
        have hne : (r != 0) = true := by rw [hr.out]; simpa using HU.out
        clear hr
        go_wp2
        go_ret
        exact RetInt.mk (by rw [Slots.check_bad (by exact .inr (.inl hB.out))]; rfl) abA
    · have hq := hb.at (p := ⟨w.heap.size, 8, none⟩) (v := .int .i64 n) (by simp [go_sem])
      by_cases hn : n < 1
      · have hn' : decide (n < 1) = true := by simpa using hn
        have hN := Lib.hid hn
        clear hn
        go_wp2
        go_ret
        exact RetInt.mk (by rw [Slots.check_bad (.inr (.inr (.inl hN.out)))]; rfl) abA
      · have hn' : decide (n < 1) = false := by simpa using hn
        by_cases hm : 1000000001 < n
        · have hm' : decide (1000000001 < n) = true := by simpa using hm
          have hN := Lib.hid hm
          clear hn hm
          go_wp2
          go_ret
          exact RetInt.mk (by rw [Slots.check_bad (.inr (.inr (.inr hN.out)))]; rfl) abA
        · have hm' : decide (1000000001 < n) = false := by simpa using hm
          have hB := Lib.hid (show ¬ Slots.bad ⟨⟨s, t, cap, dn⟩, ⟨p, q, cep, dm⟩, n⟩ from by rintro (k | k | k | k); exact h1.out k; exact h2.out k; exact hn k; exact hm k)
          clear hn hm
          go_wp2
          go_ret
          exact RetInt.mk (by rw [Slots.check_ok hB.out]; rfl) abA

def Slots.great (r : Sl) : Prop := (3000 < r.a.s.length ∨ 3000 < r.a.t.length) ∨ (3000 < r.b.s.length ∨ 3000 < r.b.t.length)
instance (r : Sl) : Decidable (Slots.great r) := by unfold Slots.great; infer_instance

set_option maxRecDepth 100000 in
theorem sgreat_no (m : AM) (r : Sl) (w : World) (hg : ¬ Slots.great r) :
    Calls Tryz.prog 32 #[.agg #[.slice m.A r.a.s.length m.ca, .slice m.B r.a.t.length m.cb, .int .i64 r.a.cap, .bool r.a.down, .slice m.C r.b.s.length m.cc, .slice m.D r.b.t.length m.cd, .int .i64 r.b.cap, .bool r.b.down, .int .i64 r.n]] w fun e w' => e = .returned (.bool false) ∧ Ab w w' := by
  obtain ⟨A, B, C, D, ca, cb, cc, cd⟩ := m
  obtain ⟨⟨s, t, cap, dn⟩, ⟨p, q, cep, dm⟩, n⟩ := r
  dsimp only
  unfold Slots.great at hg
  simp only at hg
  have HG := Lib.hid hg
  clear hg
  go_enter Tryz.func32, Tryz.ntmps32
  go_wp2_with fail
  refine (great_no A B ca cb s t cap dn _ (by have := HG.out; omega) (by have := HG.out; omega)).mono ?_
  rintro e w1 ⟨rfl, hb1⟩
  have bq0 := hb1.at (p := ⟨w.heap.size, 0, none⟩) (v := .slice A s.length ca) ckA; have bq1 := hb1.at (p := ⟨w.heap.size, 1, none⟩) (v := .slice B t.length cb) ckA; have bq2 := hb1.at (p := ⟨w.heap.size, 2, none⟩) (v := .int .i64 cap) ckA; have bq3 := hb1.at (p := ⟨w.heap.size, 3, none⟩) (v := .bool dn) ckA; have bq4 := hb1.at (p := ⟨w.heap.size, 4, none⟩) (v := .slice C p.length cc) ckA; have bq5 := hb1.at (p := ⟨w.heap.size, 5, none⟩) (v := .slice D q.length cd) ckA; have bq6 := hb1.at (p := ⟨w.heap.size, 6, none⟩) (v := .int .i64 cep) ckA; have bq7 := hb1.at (p := ⟨w.heap.size, 7, none⟩) (v := .bool dm) ckA; have bq8 := hb1.at (p := ⟨w.heap.size, 8, none⟩) (v := .int .i64 n) ckA
  go_wp2_with fail
  refine (great_no C D cc cd p q cep dm _ (by have := HG.out; omega) (by have := HG.out; omega)).mono ?_
  rintro e w2 ⟨rfl, hb2⟩
  go_wp2
  go_ret
  exact ⟨rfl, abA⟩

set_option maxRecDepth 100000 in
theorem sgreat_yes (m : AM) (r : Sl) (w : World) (hg : Slots.great r) :
    Calls Tryz.prog 32 #[.agg #[.slice m.A r.a.s.length m.ca, .slice m.B r.a.t.length m.cb, .int .i64 r.a.cap, .bool r.a.down, .slice m.C r.b.s.length m.cc, .slice m.D r.b.t.length m.cd, .int .i64 r.b.cap, .bool r.b.down, .int .i64 r.n]] w fun e w' => e = .returned (.bool true) ∧ Ab w w' := by
  obtain ⟨A, B, C, D, ca, cb, cc, cd⟩ := m
  obtain ⟨⟨s, t, cap, dn⟩, ⟨p, q, cep, dm⟩, n⟩ := r
  dsimp only
  unfold Slots.great at hg
  simp only at hg
  have HG := Lib.hid hg
  clear hg
  by_cases h1 : 3000 < s.length ∨ 3000 < t.length
  · have H1 := Lib.hid h1
    clear h1
    go_enter Tryz.func32, Tryz.ntmps32
    go_wp2_with fail
    refine (great_yes A B ca cb s t cap dn _ H1.out).mono ?_
    rintro e w1 ⟨rfl, hb1⟩
    go_wp2
    go_ret
    exact ⟨rfl, abA⟩
  · have H1 := Lib.hid h1
    clear h1
    go_enter Tryz.func32, Tryz.ntmps32
    go_wp2_with fail
    refine (great_no A B ca cb s t cap dn _ (by have := H1.out; omega) (by have := H1.out; omega)).mono ?_
    rintro e w1 ⟨rfl, hb1⟩
    have bq0 := hb1.at (p := ⟨w.heap.size, 0, none⟩) (v := .slice A s.length ca) ckA; have bq1 := hb1.at (p := ⟨w.heap.size, 1, none⟩) (v := .slice B t.length cb) ckA; have bq2 := hb1.at (p := ⟨w.heap.size, 2, none⟩) (v := .int .i64 cap) ckA; have bq3 := hb1.at (p := ⟨w.heap.size, 3, none⟩) (v := .bool dn) ckA; have bq4 := hb1.at (p := ⟨w.heap.size, 4, none⟩) (v := .slice C p.length cc) ckA; have bq5 := hb1.at (p := ⟨w.heap.size, 5, none⟩) (v := .slice D q.length cd) ckA; have bq6 := hb1.at (p := ⟨w.heap.size, 6, none⟩) (v := .int .i64 cep) ckA; have bq7 := hb1.at (p := ⟨w.heap.size, 7, none⟩) (v := .bool dm) ckA; have bq8 := hb1.at (p := ⟨w.heap.size, 8, none⟩) (v := .int .i64 n) ckA
    go_wp2_with fail
    refine (great_yes C D cc cd p q cep dm _ (by have := H1.out; have := HG.out; omega)).mono ?_
    rintro e w2 ⟨rfl, hb2⟩
    go_wp2
    go_ret
    exact ⟨rfl, abA⟩

end Go.Proofs.YthgcfjhnnhigoaaGreat

/- Twin of the reference of layer 5, walked. Own work. -/
namespace Go.Proofs.YthgcfjhnnhigoaaGreat
open Go.RowKit
open Slots (Sl)
open Disk (Dev)

end Go.Proofs.YthgcfjhnnhigoaaGreat

/- New and asked of the reference of layer 5, walked. Own work. -/
namespace Go.Proofs.YthgcfjhnnhigoaaGreat
open Go.RowKit
open Slots (Sl)
open Disk (Dev)

end Go.Proofs.YthgcfjhnnhigoaaGreat

/- checkpoint, Newest and Load of the reference of layer 5, walked. Own work. -/
namespace Go.Proofs.YthgcfjhnnhigoaaGreat
open Go.RowKit
open Slots (Sl)
open Disk (Dev)

theorem RetRecO.no' {w w' : World} (hb : Ab w w') : RetRecO w none (.returned (.tuple #[.agg #[.int .i64 0, .slice none 0 0], .bool false])) w' :=
  ⟨⟨0, []⟩, false, none, 0, rfl, rfl, RB.nil, Nat.le_refl _, by simp, hb⟩

set_option maxHeartbeats 1600000 in
set_option maxRecDepth 100000 in
theorem srcheckpoint_any (A B : Option Addr) (ca cb : Nat) (s t : List UInt8) (cap : Int) (dn : Bool) (w : World) (hs : RB w 0 A s) (ht : RB w 0 B t) (hca : s.length ≤ ca) (hcb : t.length ≤ cb) (hlen : s.length + t.length ≤ 20000) (i : Int) :
    Calls Tryz.prog 97 #[.agg #[.slice A s.length ca, .slice B t.length cb, .int .i64 cap, .bool dn], .int .i64 i] w (RetRecO w (Slots.ck ⟨s, t, cap, dn⟩ i)) := by
  have HL := Lib.hid hlen
  clear hlen
  go_enter Tryz.func97, Tryz.ntmps97
  go_wp2_with fail
  refine (whole_any A B ca cb s t cap dn _ (hs.ab abA) (ht.ab abA) hca hcb (by have := HL.out; omega) (by have := HL.out; omega)).mono ?_
  rintro e w2 ⟨L, E, c, hL, rfl, o1, hb2⟩
  have HL2 := Lib.hid hL.out
  have hLl : L.length ≤ 20000 := by rw [hL.out, List.length_append]; exact HL.out
  clear hL
  go_wp2_with fail
  refine (found_any E L c _ o1.rb.zero o1.le hLl).mono ?_
  rintro e w3 ⟨X, d, xs, u, hS, rfl, oX, hb3⟩
  have hF := Slots.first_scan hS.out
  rw [HL2.out] at hF
  have HF := Lib.hid hF
  clear hF hS
  have hzz : Ab ((w.alloc (.cells #[.slice A s.length ca, .slice B t.length cb, .int .i64 cap, .bool dn] 24)).alloc (.cells #[.int .i64 0, .slice none 0 0] 108)) w3 := abA
  have zq0 := hzz.at (p := ⟨w.heap.size + 1, 0, none⟩) (v := .int .i64 0) (by simp [go_sem])
  have zq1 := hzz.at (p := ⟨w.heap.size + 1, 1, none⟩) (v := .slice none 0 0) (by simp [go_sem])
  have zr0 : w3.frozen? ⟨w.heap.size + 1, 0, none⟩ = false := (hzz.frozen (p := ⟨w.heap.size + 1, 0, none⟩) wnA).trans (by simp [go_sem])
  have zr1 : w3.frozen? ⟨w.heap.size + 1, 1, none⟩ = false := (hzz.frozen (p := ⟨w.heap.size + 1, 1, none⟩) wnA).trans (by simp [go_sem])
  have b3 : Ab w w3 := abA
  rcases xs with _ | ⟨x, xs⟩
  · have HM := Lib.hid (show Slots.ck ⟨s, t, cap, dn⟩ i = none by unfold Slots.ck; simp only [Disk.Dev.all]; rw [HF.out]; rfl)
    go_wp2
    refine bodyPost_ret (v := .tuple #[.agg #[.int .i64 0, .slice none 0 0], .bool false]) (by simp [results, Tryz.results97, go_sem, zq0, zq1]) rfl ?_
    rw [HM.out]
    exact RetRecO.no' abA
  · have HF2 := Lib.hid (show Slots.first (s ++ t) = some ⟨x.num, x.b⟩ from HF.out)
    have hv := Slots.first_valid HF2.out
    have hn0 : 0 ≤ x.num := hv.1
    have HV := Lib.hid hv
    obtain ⟨a, rfl, ha, c0, c1, hlaid⟩ := oX.recs.at_ (k := 0) (by simp)
    simp only [List.getElem_cons_zero] at c0 c1 hlaid
    have d0 : w3.cell? a = some (.int .i64 x.num) := c0
    have d1 : w3.cell? ⟨a.block, a.off + 1, none⟩ = some (.slice x.A x.b.length x.c) := c1
    have hE3 : RB w3 (w.heap.size + 1 + 1) x.A x.b := hlaid.1.mono (by have := (show Ab ((w.alloc (.cells #[.slice A s.length ca, .slice B t.length cb, .int .i64 cap, .bool dn] 24)).alloc (.cells #[.int .i64 0, .slice none 0 0] 108)) w2 from abA).size; simpa using this)
    have hlx := hlaid.2.1
    clear c0 c1 hlaid hv HF
    generalize hv : x.num % 2 = v
    have HD := Lib.hid hv
    have ht0 : x.num.tmod 2 = v := by rw [Int.tmod_eq_emod_of_nonneg hn0]; exact hv
    have hl0 : ((xs.length : Int) + 1 == 0) = false := by simp; omega
    by_cases hi : v = i
    · have HM := Lib.hid (show Slots.ck ⟨s, t, cap, dn⟩ i = some ⟨x.num, x.b⟩ by unfold Slots.ck; simp only [Disk.Dev.all]; rw [HF2.out]; simp only; rw [if_pos (by rw [HD.out]; exact hi)])
      go_wp2
      refine bodyPost_ret (v := .tuple #[.agg #[.int .i64 x.num, .slice x.A x.b.length x.c], .bool true]) (by simp [results, Tryz.results97, go_sem, zq0, zq1]) rfl ?_
      rw [HM.out]
      exact ⟨⟨x.num, x.b⟩, true, x.A, x.c, rfl, rfl, ((hE3.put wnA _).put wnA _).mono (by omega), hlx, fun _ => HV.out, abA⟩
    · have hvi : (v != i) = true := by simpa using hi
      have HM := Lib.hid (show Slots.ck ⟨s, t, cap, dn⟩ i = none by unfold Slots.ck; simp only [Disk.Dev.all]; rw [HF2.out]; simp only; rw [if_neg (by rw [HD.out]; exact hi)])
      go_wp2
      refine bodyPost_ret (v := .tuple #[.agg #[.int .i64 0, .slice none 0 0], .bool false]) (by simp [results, Tryz.results97, go_sem, zq0, zq1]) rfl ?_
      rw [HM.out]
      exact RetRecO.no' abA

set_option maxHeartbeats 1600000 in
set_option maxRecDepth 100000 in
theorem srnewest_any (m : AM) (r : Sl) (w : World) (h : SlM w 0 m r) (ha : r.a.s.length + r.a.t.length ≤ 20000) (hb : r.b.s.length + r.b.t.length ≤ 20000) :
    Calls Tryz.prog 61 #[.agg #[.slice m.A r.a.s.length m.ca, .slice m.B r.a.t.length m.cb, .int .i64 r.a.cap, .bool r.a.down, .slice m.C r.b.s.length m.cc, .slice m.D r.b.t.length m.cd, .int .i64 r.b.cap, .bool r.b.down, .int .i64 r.n]] w (RetRecO w (Slots.newest r)) := by
  obtain ⟨A, B, C, D, ca, cb, cc, cd⟩ := m
  obtain ⟨⟨s, t, cap, dn⟩, ⟨p, q, cep, dm⟩, n⟩ := r
  dsimp only
  simp only at ha hb
  have HA := Lib.hid ha
  have HB := Lib.hid hb
  clear ha hb
  go_enter Tryz.func61, Tryz.ntmps61
  go_wp2_with fail
  refine (srcheckpoint_any A B ca cb s t cap dn _ (h.a.ab abA) (h.b.ab abA) h.la h.lb HA.out 0).mono ?_
  rintro e w1 ⟨r1, ok1, X1, c1, h1, rfl, hX1, hc1, hv1, hb1⟩
  have zz1 := hb1.size
  simp at zz1
  have bq0 := hb1.at (p := ⟨w.heap.size, 0, none⟩) (v := .slice A s.length ca) ckA; have bq1 := hb1.at (p := ⟨w.heap.size, 1, none⟩) (v := .slice B t.length cb) ckA; have bq2 := hb1.at (p := ⟨w.heap.size, 2, none⟩) (v := .int .i64 cap) ckA; have bq3 := hb1.at (p := ⟨w.heap.size, 3, none⟩) (v := .bool dn) ckA; have bq4 := hb1.at (p := ⟨w.heap.size, 4, none⟩) (v := .slice C p.length cc) ckA; have bq5 := hb1.at (p := ⟨w.heap.size, 5, none⟩) (v := .slice D q.length cd) ckA; have bq6 := hb1.at (p := ⟨w.heap.size, 6, none⟩) (v := .int .i64 cep) ckA; have bq7 := hb1.at (p := ⟨w.heap.size, 7, none⟩) (v := .bool dm) ckA; have bq8 := hb1.at (p := ⟨w.heap.size, 8, none⟩) (v := .int .i64 n) ckA
  have nba := fun (o : Obj) (j : Nat) => World.cell?_alloc_lt w1 o ⟨w.heap.size, j, none⟩ (by simp only; omega)
  have nbb := fun (o : Obj) (j : Nat) => ((Ab.refl w1).alloc o).frozen (p := ⟨w.heap.size, j, none⟩) (by simp only; omega)
  go_wp2_with fail
  refine (srcheckpoint_any C D cc cd p q cep dm _ (h.c.ab abA) (h.d.ab abA) h.lc h.ld HB.out 1).mono ?_
  rintro e w2 ⟨r2, ok2, X2, c2, h2, rfl, hX2, hc2, hv2, hb2⟩
  have zz2 := hb2.size
  simp at zz2
  have hzz : Ab ((w.alloc (.cells #[.slice A s.length ca, .slice B t.length cb, .int .i64 cap, .bool dn, .slice C p.length cc, .slice D q.length cd, .int .i64 cep, .bool dm, .int .i64 n] 27)).alloc (.cells #[.int .i64 0, .slice none 0 0] 108)) w2 := abA
  have zq0 := hzz.at (p := ⟨w.heap.size + 1, 0, none⟩) (v := .int .i64 0) (by simp [go_sem])
  have zq1 := hzz.at (p := ⟨w.heap.size + 1, 1, none⟩) (v := .slice none 0 0) (by simp [go_sem])
  have zr0 : w2.frozen? ⟨w.heap.size + 1, 0, none⟩ = false := (hzz.frozen (p := ⟨w.heap.size + 1, 0, none⟩) wnA).trans (by simp [go_sem])
  have zr1 : w2.frozen? ⟨w.heap.size + 1, 1, none⟩ = false := (hzz.frozen (p := ⟨w.heap.size + 1, 1, none⟩) wnA).trans (by simp [go_sem])
  have y0 := hb2.at (p := ⟨w1.heap.size, 0, none⟩) (v := .int .i64 r1.num) (by simp [go_sem])
  have y1 := hb2.at (p := ⟨w1.heap.size, 1, none⟩) (v := .slice X1 r1.data.length c1) (by simp [go_sem])
  have nza := fun (o : Obj) (j : Nat) => World.cell?_alloc_lt w2 o ⟨w.heap.size + 1, j, none⟩ (by simp only; omega)
  have nzb := fun (o : Obj) (j : Nat) => ((Ab.refl w2).alloc o).frozen (p := ⟨w.heap.size + 1, j, none⟩) (by simp only; omega)
  have nya := fun (o : Obj) (j : Nat) => World.cell?_alloc_lt w2 o ⟨w1.heap.size, j, none⟩ (by simp only; omega)
  have nyb := fun (o : Obj) (j : Nat) => ((Ab.refl w2).alloc o).frozen (p := ⟨w1.heap.size, j, none⟩) (by simp only; omega)
  have hp1 : RB w2 (w.heap.size + 1 + 1) X1 r1.data := (hX1.mono (show w.heap.size + 1 + 1 ≤ _ by simp)).ab (((Ab.refl w1).alloc _).trans hb2)
  have hp2 : RB w2 (w.heap.size + 1 + 1) X2 r2.data := hX2.mono (by first | omega | (simp; omega))
  have hne1 : w.heap.size + 1 ≠ w2.heap.size := by omega
  have hne2 : w.heap.size + 1 ≠ w1.heap.size := by omega
  have hne3 : w1.heap.size ≠ w2.heap.size := by omega
  have hne4 : w1.heap.size ≠ w.heap.size + 1 := by omega
  have hne5 : w2.heap.size ≠ w.heap.size + 1 := by omega
  have b2 : Ab w w2 := abA
  have hal : ∀ o, Ab w2 (w2.alloc o) := fun o => (Ab.refl w2).alloc o
  clear hX1 hX2
  cases ok1 with
  | false =>
    have HM := Lib.hid (show (if ok2 = true then some r2 else none) = Slots.newest ⟨⟨s, t, cap, dn⟩, ⟨p, q, cep, dm⟩, n⟩ by unfold Slots.newest; rw [← h1.out, h2.out]; rfl)
    go_wp2
    refine bodyPost_ret (v := .tuple #[.agg #[.int .i64 r2.num, .slice X2 r2.data.length c2], .bool ok2]) (by simp [results, Tryz.results61, go_sem, *]) rfl ?_
    exact ⟨r2, ok2, X2, c2, HM, rfl, (((hp2.ab (hal _)).put wnA _).put wnA _).mono (by omega), hc2, hv2, abA⟩
  | true =>
    cases ok2 with
    | false =>
      have HM := Lib.hid (show (if true = true then some r1 else none) = Slots.newest ⟨⟨s, t, cap, dn⟩, ⟨p, q, cep, dm⟩, n⟩ by unfold Slots.newest; rw [← h1.out, ← h2.out]; rfl)
      go_wp2
      refine bodyPost_ret (v := .tuple #[.agg #[.int .i64 r1.num, .slice X1 r1.data.length c1], .bool true]) (by simp [results, Tryz.results61, go_sem, *]) rfl ?_
      exact ⟨r1, true, X1, c1, HM, rfl, (((hp1.ab (hal _)).put wnA _).put wnA _).mono (by omega), hc1, by simpa using hv1, abA⟩
    | true =>
      by_cases hlt : r1.num < r2.num
      · have HM := Lib.hid (show (if true = true then some r2 else none) = Slots.newest ⟨⟨s, t, cap, dn⟩, ⟨p, q, cep, dm⟩, n⟩ by unfold Slots.newest; rw [← h1.out, ← h2.out]; exact (if_pos hlt).symm)
        have hlt' : decide (r1.num < r2.num) = true := by simpa using hlt
        clear hlt
        go_wp2
        refine bodyPost_ret (v := .tuple #[.agg #[.int .i64 r2.num, .slice X2 r2.data.length c2], .bool true]) (by simp [results, Tryz.results61, go_sem, *]) rfl ?_
        exact ⟨r2, true, X2, c2, HM, rfl, (((hp2.ab (hal _)).put wnA _).put wnA _).mono (by omega), hc2, by simpa using hv2, abA⟩
      · have HM := Lib.hid (show (if true = true then some r1 else none) = Slots.newest ⟨⟨s, t, cap, dn⟩, ⟨p, q, cep, dm⟩, n⟩ by unfold Slots.newest; rw [← h1.out, ← h2.out]; exact (if_neg hlt).symm)
        have hlt' : decide (r1.num < r2.num) = false := by simpa using hlt
        clear hlt
        go_wp2
        refine bodyPost_ret (v := .tuple #[.agg #[.int .i64 r1.num, .slice X1 r1.data.length c1], .bool true]) (by simp [results, Tryz.results61, go_sem, *]) rfl ?_
        exact ⟨r1, true, X1, c1, HM, rfl, (((hp1.ab (hal _)).put wnA _).put wnA _).mono (by omega), hc1, by simpa using hv1, abA⟩
end Go.Proofs.YthgcfjhnnhigoaaGreat

/- Stepped of the reference of layer 5, walked. Own work. -/
namespace Go.Proofs.YthgcfjhnnhigoaaGreat
open Go.RowKit
open Slots (Sl)
open Disk (Dev)

/-- The device on which steps are done, in block b. -/
def StepSt (w wx : World) (m : AM) (r : Sl) (b : Nat) (d : Dev) : Prop :=
  SlB wx w.heap.size m r ∧ SlB wx (w.heap.size + 1) AM.nil Slots.zero ∧ w.heap.size + 1 + 1 ≤ b ∧ Ab w wx ∧ Slots.Small d ∧
    ∃ (D E : Option Addr) (cd ce : Nat),
      (wx.cell? ⟨b, 0, none⟩ = some (.slice D d.s.length cd) ∧ wx.cell? ⟨b, 1, none⟩ = some (.slice E d.t.length ce) ∧ wx.cell? ⟨b, 2, none⟩ = some (.int .i64 d.cap) ∧ wx.cell? ⟨b, 3, none⟩ = some (.bool d.down) ∧
        wx.frozen? ⟨b, 0, none⟩ = false ∧ wx.frozen? ⟨b, 1, none⟩ = false ∧ wx.frozen? ⟨b, 2, none⟩ = false ∧ wx.frozen? ⟨b, 3, none⟩ = false) ∧
      RB wx (w.heap.size + 1 + 1) D d.s ∧ RB wx (w.heap.size + 1 + 1) E d.t ∧ d.s.length ≤ cd ∧ d.t.length ≤ ce

theorem StepSt.start {w w1 : World} {m : AM} {r : Sl} {d : Dev} (hv1 : SlB w1 w.heap.size m r) (hz1 : SlB w1 (w.heap.size + 1) AM.nil Slots.zero) (zz1 : w.heap.size + 1 + 1 ≤ w1.heap.size) (b1 : Ab w w1) (hs : Slots.Small d)
    {D E : Option Addr} {cd ce : Nat} (h1 : RB w1 (w.heap.size + 1 + 1) D d.s) (h2 : RB w1 (w.heap.size + 1 + 1) E d.t) (l1 : d.s.length ≤ cd) (l2 : d.t.length ≤ ce) :
    StepSt w (w1.alloc (.cells #[.slice D d.s.length cd, .slice E d.t.length ce, .int .i64 d.cap, .bool d.down] 24)) m r w1.heap.size d :=
  ⟨hv1.ab ((Ab.refl w1).alloc _), hz1.ab ((Ab.refl w1).alloc _), zz1, b1.alloc _, hs, D, E, cd, ce, ⟨by simp [go_sem], by simp [go_sem], by simp [go_sem], by simp [go_sem], by simp [go_sem], by simp [go_sem], by simp [go_sem], by simp [go_sem]⟩,
    h1.ab ((Ab.refl w1).alloc _), h2.ab ((Ab.refl w1).alloc _), l1, l2⟩
theorem SlB.put {w : World} {b c : Nat} {m : AM} {r : Sl} (h : SlB w b m r) (hne : b ≠ c) (o : Nat) (v : Value) : SlB (w.setCell ⟨c, o, none⟩ v) b m r := by
  obtain ⟨vq0, vq1, vq2, vq3, vq4, vq5, vq6, vq7, vq8, vg0, vg1, vg2, vg3, vg4, vg5, vg6, vg7, vg8⟩ := h
  (try simp only [AM.nil, Slots.zero, Disk.zero, List.length_nil] at vq0 vq1 vq2 vq3 vq4 vq5 vq6 vq7 vq8)
  exact ⟨(by simp [go_sem, *]), (by simp [go_sem, *]), (by simp [go_sem, *]), (by simp [go_sem, *]), (by simp [go_sem, *]), (by simp [go_sem, *]), (by simp [go_sem, *]), (by simp [go_sem, *]), (by simp [go_sem, *]), (by simp [go_sem, *]), (by simp [go_sem, *]), (by simp [go_sem, *]), (by simp [go_sem, *]), (by simp [go_sem, *]), (by simp [go_sem, *]), (by simp [go_sem, *]), (by simp [go_sem, *]), (by simp [go_sem, *])⟩
theorem StepSt.store {w wx w2 : World} {m : AM} {r : Sl} {b : Nat} {d r2 : Dev} (h : StepSt w wx m r b d) (hb : Ab wx w2) (hs : Slots.Small r2)
    {D E : Option Addr} {cd ce : Nat} (h1 : RB w2 wx.heap.size D r2.s) (h2 : RB w2 wx.heap.size E r2.t) (l1 : r2.s.length ≤ cd) (l2 : r2.t.length ≤ ce) :
    StepSt w ((((w2.setCell ⟨b, 0, none⟩ (.slice D r2.s.length cd)).setCell ⟨b, 1, none⟩ (.slice E r2.t.length ce)).setCell ⟨b, 2, none⟩ (.int .i64 r2.cap)).setCell ⟨b, 3, none⟩ (.bool r2.down)) m r b r2 := by
  obtain ⟨hv, hz, hlt, hab, _, D1, E1, c1, c2, ⟨q0, q1, q2, q3, g0, g1, g2, g3⟩, _, _, _, _⟩ := h
  have hbx : b < wx.heap.size := cell_lt q0
  have b2 := hab.trans hb
  have q0 := hb.at q0
  have q1 := hb.at q1
  have q2 := hb.at q2
  have q3 := hb.at q3
  have g0 := hb.fr hbx g0
  have g1 := hb.fr hbx g1
  have g2 := hb.fr hbx g2
  have g3 := hb.fr hbx g3
  refine ⟨((((hv.ab hb).put (by omega) _ _).put (by omega) _ _).put (by omega) _ _).put (by omega) _ _, ((((hz.ab hb).put (by omega) _ _).put (by omega) _ _).put (by omega) _ _).put (by omega) _ _, hlt, (((b2.set (by simp only; omega) _).set (by simp only; omega) _).set (by simp only; omega) _).set (by simp only; omega) _, hs, D, E, cd, ce, ?_, ?_, ?_, l1, l2⟩
  · exact ⟨(by simp [go_sem, *]), (by simp [go_sem, *]), (by simp [go_sem, *]), (by simp [go_sem, *]), (by simp [go_sem, *]), (by simp [go_sem, *]), (by simp [go_sem, *]), (by simp [go_sem, *])⟩
  · exact ((((h1.put hbx _).put hbx _).put hbx _).put hbx _).mono (by omega)
  · exact ((((h2.put hbx _).put hbx _).put hbx _).put hbx _).mono (by omega)

end Go.Proofs.YthgcfjhnnhigoaaGreat

/- Save of the reference of layer 5, walked. Own work. -/
namespace Go.Proofs.YthgcfjhnnhigoaaGreat
open Go.RowKit
open Slots (Sl)
open Disk (Dev)

end Go.Proofs.YthgcfjhnnhigoaaGreat
