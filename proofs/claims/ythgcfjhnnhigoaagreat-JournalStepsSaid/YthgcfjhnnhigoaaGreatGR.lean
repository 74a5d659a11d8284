/- The texts SRefA, SRefB, SRefC, SRefD, SRefF, SRefG, one behind the other. Own work. -/
import Derived.Test.YthgcfjhnnhigoaaGreatGT
import Derived.Test.YthgcfjhnnhigoaaGreatGC
import Derived.Test.YthgcfjhnnhigoaaGreatGF
import Derived.IntWalk
import Derived.RegionTactic
set_option linter.unusedVariables false
set_option linter.unusedSimpArgs false
/- Check, Great and Same of the reference of layer 5, walked. Own work. -/
namespace Go.Proofs.YthgcfjhnnhigoaaGreat
open Go.RowKit
open Slots (Sl)

set_option maxRecDepth 100000 in
theorem srcheck_any (m : AM) (r : Sl) (w : World) (h : SlM w 0 m r) :
    Calls Tryz.prog 31 #[.agg #[.slice m.A r.a.s.length m.ca, .slice m.B r.a.t.length m.cb, .int .i64 r.a.cap, .bool r.a.down, .slice m.C r.b.s.length m.cc, .slice m.D r.b.t.length m.cd, .int .i64 r.b.cap, .bool r.b.down, .int .i64 r.n]] w (RetInt w (Slots.check r)) := by
  obtain ⟨A, B, C, D, ca, cb, cc, cd⟩ := m
  obtain ⟨⟨s, t, cap, dn⟩, ⟨p, q, cep, dm⟩, n⟩ := r
  dsimp only
  go_enter Tryz.func31, Tryz.ntmps31
  go_wp2
  go_loopw [3] (fun i wr => Ab (w.alloc (.cells #[.slice A s.length ca, .slice B t.length cb, .int .i64 cap, .bool dn, .slice C p.length cc, .slice D q.length cd, .int .i64 cep, .bool dm, .int .i64 n] 27)) wr ∧ (i = .int .i64 0 ∨ (i = .int .i64 1 ∧ Hid (¬ Slots.bad1 ⟨s, t, cap, dn⟩)) ∨ (i = .int .i64 2 ∧ Hid (¬ Slots.bad1 ⟨s, t, cap, dn⟩) ∧ Hid (¬ Slots.bad1 ⟨p, q, cep, dm⟩)))) (fun i _ => 2 - (intOf i).toNat)
  case atStart => exact ⟨abA, .inl rfl⟩
  case round =>
    obtain ⟨hb, rfl | ⟨rfl, h1⟩ | ⟨rfl, h1, h2⟩⟩ := hrel
    · have bq0 := hb.at (p := ⟨w.heap.size, 0, none⟩) (v := .slice A s.length ca) ckA; have bq1 := hb.at (p := ⟨w.heap.size, 1, none⟩) (v := .slice B t.length cb) ckA; have bq2 := hb.at (p := ⟨w.heap.size, 2, none⟩) (v := .int .i64 cap) ckA; have bq3 := hb.at (p := ⟨w.heap.size, 3, none⟩) (v := .bool dn) ckA; have bq4 := hb.at (p := ⟨w.heap.size, 4, none⟩) (v := .slice C p.length cc) ckA; have bq5 := hb.at (p := ⟨w.heap.size, 5, none⟩) (v := .slice D q.length cd) ckA; have bq6 := hb.at (p := ⟨w.heap.size, 6, none⟩) (v := .int .i64 cep) ckA; have bq7 := hb.at (p := ⟨w.heap.size, 7, none⟩) (v := .bool dm) ckA; have bq8 := hb.at (p := ⟨w.heap.size, 8, none⟩) (v := .int .i64 n) ckA
      by_cases hu : Disk.up ⟨s, t, cap, dn⟩ = 0
      · have HU := Lib.hid hu
        clear hu
        go_wp2_with fail
        refine (refUp_any A B ca cb s t cap dn _ h.sa h.sb).mono ?_
        rintro e w1 ⟨r, hr, rfl, hb1⟩
        obtain rfl : r = 0 := hr.out.trans HU.out
        clear hr
        have bW := hb1
        have hb := hb.trans hb1
        have cq0 := hb.at (p := ⟨w.heap.size, 0, none⟩) (v := .slice A s.length ca) ckA; have cq1 := hb.at (p := ⟨w.heap.size, 1, none⟩) (v := .slice B t.length cb) ckA; have cq2 := hb.at (p := ⟨w.heap.size, 2, none⟩) (v := .int .i64 cap) ckA; have cq3 := hb.at (p := ⟨w.heap.size, 3, none⟩) (v := .bool dn) ckA; have cq4 := hb.at (p := ⟨w.heap.size, 4, none⟩) (v := .slice C p.length cc) ckA; have cq5 := hb.at (p := ⟨w.heap.size, 5, none⟩) (v := .slice D q.length cd) ckA; have cq6 := hb.at (p := ⟨w.heap.size, 6, none⟩) (v := .int .i64 cep) ckA; have cq7 := hb.at (p := ⟨w.heap.size, 7, none⟩) (v := .bool dm) ckA; have cq8 := hb.at (p := ⟨w.heap.size, 8, none⟩) (v := .int .i64 n) ckA
        by_cases hlen : 0 < t.length
        · have hB := Lib.hid (show Slots.bad1 ⟨s, t, cap, dn⟩ from .inr hlen)
          have hlen' : decide ((0 : Int) < (t.length : Int)) = true := by simpa using hlen
          go_wp2
          go_ret
          exact RetInt.mk (by rw [Slots.check_bad (by exact .inl hB.out)]; rfl) abA
        · have hB := Lib.hid (show ¬ Slots.bad1 ⟨s, t, cap, dn⟩ from by rintro (k | k); exact k HU.out; exact hlen k)
          have hlen' : decide ((0 : Int) < (t.length : Int)) = false := by simpa using hlen
          go_wp2
          go_roundw
          case rel => exact ⟨abA, .inr (.inl ⟨rfl, hB⟩)⟩
          case measure => (show 2 - (intOf _).toNat < 2 - (intOf _).toNat); simp only [intOf]; omega
      · have hB := Lib.hid (show Slots.bad1 ⟨s, t, cap, dn⟩ from .inl hu)
        have HU := Lib.hid hu
        clear hu
        go_wp2_with fail
        refine (refUp_any A B ca cb s t cap dn _ h.sa h.sb).mono ?_
        rintro e w1 ⟨r, hr, rfl, hb1⟩
        have hne : (r != 0) = true := by rw [hr.out]; simpa using HU.out
        clear hr
        go_wp2
        go_ret
        exact RetInt.mk (by rw [Slots.check_bad (by exact .inl hB.out)]; rfl) abA
    · have bq0 := hb.at (p := ⟨w.heap.size, 0, none⟩) (v := .slice A s.length ca) ckA; have bq1 := hb.at (p := ⟨w.heap.size, 1, none⟩) (v := .slice B t.length cb) ckA; have bq2 := hb.at (p := ⟨w.heap.size, 2, none⟩) (v := .int .i64 cap) ckA; have bq3 := hb.at (p := ⟨w.heap.size, 3, none⟩) (v := .bool dn) ckA; have bq4 := hb.at (p := ⟨w.heap.size, 4, none⟩) (v := .slice C p.length cc) ckA; have bq5 := hb.at (p := ⟨w.heap.size, 5, none⟩) (v := .slice D q.length cd) ckA; have bq6 := hb.at (p := ⟨w.heap.size, 6, none⟩) (v := .int .i64 cep) ckA; have bq7 := hb.at (p := ⟨w.heap.size, 7, none⟩) (v := .bool dm) ckA; have bq8 := hb.at (p := ⟨w.heap.size, 8, none⟩) (v := .int .i64 n) ckA
      by_cases hu : Disk.up ⟨p, q, cep, dm⟩ = 0
      · have HU := Lib.hid hu
        clear hu
        go_wp2_with fail
        refine (refUp_any C D cc cd p q cep dm _ h.sc h.sd).mono ?_
        rintro e w1 ⟨r, hr, rfl, hb1⟩
        obtain rfl : r = 0 := hr.out.trans HU.out
        clear hr
        have bW := hb1
        have hb := hb.trans hb1
        have cq0 := hb.at (p := ⟨w.heap.size, 0, none⟩) (v := .slice A s.length ca) ckA; have cq1 := hb.at (p := ⟨w.heap.size, 1, none⟩) (v := .slice B t.length cb) ckA; have cq2 := hb.at (p := ⟨w.heap.size, 2, none⟩) (v := .int .i64 cap) ckA; have cq3 := hb.at (p := ⟨w.heap.size, 3, none⟩) (v := .bool dn) ckA; have cq4 := hb.at (p := ⟨w.heap.size, 4, none⟩) (v := .slice C p.length cc) ckA; have cq5 := hb.at (p := ⟨w.heap.size, 5, none⟩) (v := .slice D q.length cd) ckA; have cq6 := hb.at (p := ⟨w.heap.size, 6, none⟩) (v := .int .i64 cep) ckA; have cq7 := hb.at (p := ⟨w.heap.size, 7, none⟩) (v := .bool dm) ckA; have cq8 := hb.at (p := ⟨w.heap.size, 8, none⟩) (v := .int .i64 n) ckA
        by_cases hlen : 0 < q.length
        · have hB := Lib.hid (show Slots.bad1 ⟨p, q, cep, dm⟩ from .inr hlen)
          have hlen' : decide ((0 : Int) < (q.length : Int)) = true := by simpa using hlen
          go_wp2
          go_ret
          exact RetInt.mk (by rw [Slots.check_bad (by exact .inr (.inl hB.out))]; rfl) abA
        · have hB := Lib.hid (show ¬ Slots.bad1 ⟨p, q, cep, dm⟩ from by rintro (k | k); exact k HU.out; exact hlen k)
          have hlen' : decide ((0 : Int) < (q.length : Int)) = false := by simpa using hlen
          go_wp2
          go_roundw
          case rel => exact ⟨abA, .inr (.inr ⟨rfl, h1, hB⟩)⟩
          case measure => (show 2 - (intOf _).toNat < 2 - (intOf _).toNat); simp only [intOf]; omega
      · have hB := Lib.hid (show Slots.bad1 ⟨p, q, cep, dm⟩ from .inl hu)
        have HU := Lib.hid hu
        clear hu
        go_wp2_with fail
        refine (refUp_any C D cc cd p q cep dm _ h.sc h.sd).mono ?_
        rintro e w1 ⟨r, hr, rfl, hb1⟩
        have hne : (r != 0) = true := by rw [hr.out]; simpa using HU.out
        clear hr
        go_wp2
        go_ret
        exact RetInt.mk (by rw [Slots.check_bad (by exact .inr (.inl hB.out))]; rfl) abA
    · have hq := hb.at (p := ⟨w.heap.size, 8, none⟩) (v := .int .i64 n) (by simp [go_sem])
      by_cases hn : n < 1
      · have hn' : decide (n < 1) = true := by simpa using hn
        have hN := Lib.hid hn
        clear hn
        go_wp2
        go_ret
        exact RetInt.mk (by rw [Slots.check_bad (.inr (.inr (.inl hN.out)))]; rfl) abA
      · have hn' : decide (n < 1) = false := by simpa using hn
        by_cases hm : 1000000001 < n
        · have hm' : decide (1000000001 < n) = true := by simpa using hm
          have hN := Lib.hid hm
          clear hn hm
          go_wp2
          go_ret
          exact RetInt.mk (by rw [Slots.check_bad (.inr (.inr (.inr hN.out)))]; rfl) abA
        · have hm' : decide (1000000001 < n) = false := by simpa using hm
          have hB := Lib.hid (show ¬ Slots.bad ⟨⟨s, t, cap, dn⟩, ⟨p, q, cep, dm⟩, n⟩ from by rintro (k | k | k | k); exact h1.out k; exact h2.out k; exact hn k; exact hm k)
          clear hn hm
          go_wp2
          go_ret
          exact RetInt.mk (by rw [Slots.check_ok hB.out]; rfl) abA

def Slots.great (r : Sl) : Prop := (3000 < r.a.s.length ∨ 3000 < r.a.t.length) ∨ (3000 < r.b.s.length ∨ 3000 < r.b.t.length)
instance (r : Sl) : Decidable (Slots.great r) := by unfold Slots.great; infer_instance

set_option maxRecDepth 100000 in
theorem sgreat_no (m : AM) (r : Sl) (w : World) (hg : ¬ Slots.great r) :
    Calls Tryz.prog 32 #[.agg #[.slice m.A r.a.s.length m.ca, .slice m.B r.a.t.length m.cb, .int .i64 r.a.cap, .bool r.a.down, .slice m.C r.b.s.length m.cc, .slice m.D r.b.t.length m.cd, .int .i64 r.b.cap, .bool r.b.down, .int .i64 r.n]] w fun e w' => e = .returned (.bool false) ∧ Ab w w' := by
  obtain ⟨A, B, C, D, ca, cb, cc, cd⟩ := m
  obtain ⟨⟨s, t, cap, dn⟩, ⟨p, q, cep, dm⟩, n⟩ := r
  dsimp only
  unfold Slots.great at hg
  simp only at hg
  have HG := Lib.hid hg
  clear hg
  go_enter Tryz.func32, Tryz.ntmps32
  go_wp2_with fail
  refine (great_no A B ca cb s t cap dn _ (by have := HG.out; omega) (by have := HG.out; omega)).mono ?_
  rintro e w1 ⟨rfl, hb1⟩
  have bq0 := hb1.at (p := ⟨w.heap.size, 0, none⟩) (v := .slice A s.length ca) ckA; have bq1 := hb1.at (p := ⟨w.heap.size, 1, none⟩) (v := .slice B t.length cb) ckA; have bq2 := hb1.at (p := ⟨w.heap.size, 2, none⟩) (v := .int .i64 cap) ckA; have bq3 := hb1.at (p := ⟨w.heap.size, 3, none⟩) (v := .bool dn) ckA; have bq4 := hb1.at (p := ⟨w.heap.size, 4, none⟩) (v := .slice C p.length cc) ckA; have bq5 := hb1.at (p := ⟨w.heap.size, 5, none⟩) (v := .slice D q.length cd) ckA; have bq6 := hb1.at (p := ⟨w.heap.size, 6, none⟩) (v := .int .i64 cep) ckA; have bq7 := hb1.at (p := ⟨w.heap.size, 7, none⟩) (v := .bool dm) ckA; have bq8 := hb1.at (p := ⟨w.heap.size, 8, none⟩) (v := .int .i64 n) ckA
  go_wp2_with fail
  refine (great_no C D cc cd p q cep dm _ (by have := HG.out; omega) (by have := HG.out; omega)).mono ?_
  rintro e w2 ⟨rfl, hb2⟩
  go_wp2
  go_ret
  exact ⟨rfl, abA⟩

set_option maxRecDepth 100000 in
theorem sgreat_yes (m : AM) (r : Sl) (w : World) (hg : Slots.great r) :
    Calls Tryz.prog 32 #[.agg #[.slice m.A r.a.s.length m.ca, .slice m.B r.a.t.length m.cb, .int .i64 r.a.cap, .bool r.a.down, .slice m.C r.b.s.length m.cc, .slice m.D r.b.t.length m.cd, .int .i64 r.b.cap, .bool r.b.down, .int .i64 r.n]] w fun e w' => e = .returned (.bool true) ∧ Ab w w' := by
  obtain ⟨A, B, C, D, ca, cb, cc, cd⟩ := m
  obtain ⟨⟨s, t, cap, dn⟩, ⟨p, q, cep, dm⟩, n⟩ := r
  dsimp only
  unfold Slots.great at hg
  simp only at hg
  have HG := Lib.hid hg
  clear hg
  by_cases h1 : 3000 < s.length ∨ 3000 < t.length
  · have H1 := Lib.hid h1
    clear h1
    go_enter Tryz.func32, Tryz.ntmps32
    go_wp2_with fail
    refine (great_yes A B ca cb s t cap dn _ H1.out).mono ?_
    rintro e w1 ⟨rfl, hb1⟩
    go_wp2
    go_ret
    exact ⟨rfl, abA⟩
  · have H1 := Lib.hid h1
    clear h1
    go_enter Tryz.func32, Tryz.ntmps32
    go_wp2_with fail
    refine (great_no A B ca cb s t cap dn _ (by have := H1.out; omega) (by have := H1.out; omega)).mono ?_
    rintro e w1 ⟨rfl, hb1⟩
    have bq0 := hb1.at (p := ⟨w.heap.size, 0, none⟩) (v := .slice A s.length ca) ckA; have bq1 := hb1.at (p := ⟨w.heap.size, 1, none⟩) (v := .slice B t.length cb) ckA; have bq2 := hb1.at (p := ⟨w.heap.size, 2, none⟩) (v := .int .i64 cap) ckA; have bq3 := hb1.at (p := ⟨w.heap.size, 3, none⟩) (v := .bool dn) ckA; have bq4 := hb1.at (p := ⟨w.heap.size, 4, none⟩) (v := .slice C p.length cc) ckA; have bq5 := hb1.at (p := ⟨w.heap.size, 5, none⟩) (v := .slice D q.length cd) ckA; have bq6 := hb1.at (p := ⟨w.heap.size, 6, none⟩) (v := .int .i64 cep) ckA; have bq7 := hb1.at (p := ⟨w.heap.size, 7, none⟩) (v := .bool dm) ckA; have bq8 := hb1.at (p := ⟨w.heap.size, 8, none⟩) (v := .int .i64 n) ckA
    go_wp2_with fail
    refine (great_yes C D cc cd p q cep dm _ (by have := H1.out; have := HG.out; omega)).mono ?_
    rintro e w2 ⟨rfl, hb2⟩
    go_wp2
    go_ret
    exact ⟨rfl, abA⟩

set_option maxRecDepth 100000 in
theorem ssame_true (m k : AM) (r : Sl) (w : World) (h : SlM w 0 m r) (g : SlM w 0 k r) :
    Calls Tryz.prog 49 #[.agg #[.slice m.A r.a.s.length m.ca, .slice m.B r.a.t.length m.cb, .int .i64 r.a.cap, .bool r.a.down, .slice m.C r.b.s.length m.cc, .slice m.D r.b.t.length m.cd, .int .i64 r.b.cap, .bool r.b.down, .int .i64 r.n], .agg #[.slice k.A r.a.s.length k.ca, .slice k.B r.a.t.length k.cb, .int .i64 r.a.cap, .bool r.a.down, .slice k.C r.b.s.length k.cc, .slice k.D r.b.t.length k.cd, .int .i64 r.b.cap, .bool r.b.down, .int .i64 r.n]] w fun e w' => e = .returned (.bool true) ∧ Ab w w' := by
  obtain ⟨X, Y, Z, T, cx, cy, cz, ct⟩ := k
  obtain ⟨A, B, C, D, ca, cb, cc, cd⟩ := m
  obtain ⟨⟨s, t, cap, dn⟩, ⟨p, q, cep, dm⟩, n⟩ := r
  dsimp only
  go_enter Tryz.func49, Tryz.ntmps49
  go_wp2_with fail
  refine (same_true A B X Y ca cb cx cy s t cap dn _ (h.a.ab abA) (h.b.ab abA) (g.a.ab abA) (g.b.ab abA) (Nat.le_trans h.sa (by decide)) (Nat.le_trans h.sb (by decide))).mono ?_
  rintro e w1 ⟨rfl, hb1⟩
  have bq0 := hb1.at (p := ⟨w.heap.size, 0, none⟩) (v := .slice A s.length ca) ckA; have bq1 := hb1.at (p := ⟨w.heap.size, 1, none⟩) (v := .slice B t.length cb) ckA; have bq2 := hb1.at (p := ⟨w.heap.size, 2, none⟩) (v := .int .i64 cap) ckA; have bq3 := hb1.at (p := ⟨w.heap.size, 3, none⟩) (v := .bool dn) ckA; have bq4 := hb1.at (p := ⟨w.heap.size, 4, none⟩) (v := .slice C p.length cc) ckA; have bq5 := hb1.at (p := ⟨w.heap.size, 5, none⟩) (v := .slice D q.length cd) ckA; have bq6 := hb1.at (p := ⟨w.heap.size, 6, none⟩) (v := .int .i64 cep) ckA; have bq7 := hb1.at (p := ⟨w.heap.size, 7, none⟩) (v := .bool dm) ckA; have bq8 := hb1.at (p := ⟨w.heap.size, 8, none⟩) (v := .int .i64 n) ckA
  obtain ⟨d4, d5, d6, d7⟩ : w1.cell? ⟨w.heap.size + 1, 4, none⟩ = some (.slice Z p.length cz) ∧ w1.cell? ⟨w.heap.size + 1, 5, none⟩ = some (.slice T q.length ct) ∧ w1.cell? ⟨w.heap.size + 1, 6, none⟩ = some (.int .i64 cep) ∧ w1.cell? ⟨w.heap.size + 1, 7, none⟩ = some (.bool dm) :=
    ⟨hb1.at (by simp [go_sem]), hb1.at (by simp [go_sem]), hb1.at (by simp [go_sem]), hb1.at (by simp [go_sem])⟩
  go_wp2_with fail
  refine (same_true C D Z T cc cd cz ct p q cep dm _ (h.c.ab abA) (h.d.ab abA) (g.c.ab abA) (g.d.ab abA) (Nat.le_trans h.sc (by decide)) (Nat.le_trans h.sd (by decide))).mono ?_
  rintro e w2 ⟨rfl, hb2⟩
  go_wp2
  go_ret
  exact ⟨rfl, abA⟩
end Go.Proofs.YthgcfjhnnhigoaaGreat

/- Twin of the reference of layer 5, walked. Own work. -/
namespace Go.Proofs.YthgcfjhnnhigoaaGreat
open Go.RowKit
open Slots (Sl)
open Disk (Dev)

set_option maxRecDepth 100000 in
theorem stwin_any (m : AM) (r : Sl) (w : World) (h : SlM w 0 m r) :
    Calls Tryz.prog 34 #[.agg #[.slice m.A r.a.s.length m.ca, .slice m.B r.a.t.length m.cb, .int .i64 r.a.cap, .bool r.a.down, .slice m.C r.b.s.length m.cc, .slice m.D r.b.t.length m.cd, .int .i64 r.b.cap, .bool r.b.down, .int .i64 r.n]] w (RetSl w r) := by
  obtain ⟨A, B, C, D, ca, cb, cc, cd⟩ := m
  obtain ⟨⟨s, t, cap, dn⟩, ⟨p, q, cep, dm⟩, n⟩ := r
  dsimp only
  go_enter Tryz.func34, Tryz.ntmps34
  go_upto_region 1 with fail
  refine wp_region_held_drew (by kernel_rfl) (S := fun w' => w'.cell? ⟨w.heap.size, 0, none⟩ = some (.slice A s.length ca) ∧ w'.cell? ⟨w.heap.size, 1, none⟩ = some (.slice B t.length cb) ∧ w'.cell? ⟨w.heap.size, 2, none⟩ = some (.int .i64 cap) ∧ w'.cell? ⟨w.heap.size, 3, none⟩ = some (.bool dn) ∧ w'.cell? ⟨w.heap.size, 4, none⟩ = some (.slice C p.length cc) ∧ w'.cell? ⟨w.heap.size, 5, none⟩ = some (.slice D q.length cd) ∧ w'.cell? ⟨w.heap.size, 6, none⟩ = some (.int .i64 cep) ∧ w'.cell? ⟨w.heap.size, 7, none⟩ = some (.bool dm) ∧ w'.cell? ⟨w.heap.size, 8, none⟩ = some (.int .i64 n)) ?_ (fun hHeld => ?_)
  · (refine ⟨?_, ?_, ?_, ?_, ?_, ?_, ?_, ?_, ?_⟩ <;> (exact ckA))
  (refine wpAnyH_take (i := 0) (v := ?_) rfl (by kernel_rfl) (by kernel_rfl) (by kernel_rfl) (fun _ _ _ h => h) (Or.inl ⟨by kernel_rfl, ?_⟩) (by assumption) ?_
   rotate_left
   · (intro w hSw; (try dsimp only at hSw); go_simp; (try with_reducible rfl))
   (try simp only [Act.put, stA, st0, st1]))
  (refine wpAnyH_take (i := 1) (v := ?_) rfl (by kernel_rfl) (by kernel_rfl) (by kernel_rfl) (fun _ _ _ h => h) (Or.inl ⟨by kernel_rfl, ?_⟩) (by assumption) ?_
   rotate_left
   · (intro w hSw; (try dsimp only at hSw); go_simp; (try with_reducible rfl))
   (try simp only [Act.put, stA, st0, st1]))
  (refine wpAnyH_take (i := 2) (v := ?_) rfl (by kernel_rfl) (by kernel_rfl) (by kernel_rfl) (fun _ _ _ h => h) (Or.inl ⟨by kernel_rfl, ?_⟩) (by assumption) ?_
   rotate_left
   · (intro w hSw; (try dsimp only at hSw); go_simp; (try with_reducible rfl))
   (try simp only [Act.put, stA, st0, st1]))
  (refine wpAnyH_take (i := 4) (v := ?_) rfl (by kernel_rfl) (by kernel_rfl) (by kernel_rfl) (fun _ _ _ h => h) (Or.inl ⟨by kernel_rfl, ?_⟩) (by assumption) ?_
   rotate_left
   · (intro w hSw; (try dsimp only at hSw); go_simp; (try with_reducible rfl))
   (try simp only [Act.put, stA, st0, st1]))
  (refine wpAnyH_take (i := 5) (v := ?_) rfl (by kernel_rfl) (by kernel_rfl) (by kernel_rfl) (fun _ _ _ h => h) (Or.inl ⟨by kernel_rfl, ?_⟩) (by assumption) ?_
   rotate_left
   · (intro w hSw; (try dsimp only at hSw); go_simp; (try with_reducible rfl))
   (try simp only [Act.put, stA, st0, st1]))
  (refine wpAnyH_take (i := 6) (v := ?_) rfl (by kernel_rfl) (by kernel_rfl) (by kernel_rfl) (fun _ _ _ h => h) (Or.inl ⟨by kernel_rfl, ?_⟩) (by assumption) ?_
   rotate_left
   · (intro w hSw; (try dsimp only at hSw); go_simp; (try with_reducible rfl))
   (try simp only [Act.put, stA, st0, st1]))
  (refine wpAnyH_take (i := 9) (v := ?_) rfl (by kernel_rfl) (by kernel_rfl) (by kernel_rfl) (fun _ _ _ h => h) (Or.inl ⟨by kernel_rfl, ?_⟩) (by assumption) ?_
   rotate_left
   · (intro w hSw; (try dsimp only at hSw); go_simp; (try with_reducible rfl))
   (try simp only [Act.put, stA, st0, st1]))
  (refine wpAnyH_take (i := 10) (v := ?_) rfl (by kernel_rfl) (by kernel_rfl) (by kernel_rfl) (fun _ _ _ h => h) (Or.inl ⟨by kernel_rfl, ?_⟩) (by assumption) ?_
   rotate_left
   · (intro w hSw; (try dsimp only at hSw); go_simp; (try with_reducible rfl))
   (try simp only [Act.put, stA, st0, st1]))
  (refine wpAnyH_ready (rs := [3]) (by kernel_rfl) (by simp) ?_)
  refine AllReadyH.cons rfl (fun K hK => ?_) AllReadyH.nil
  (go_simp
   (go_at_call 74
    refine (twin_any A B ca cb s t cap dn _ (h.a.ab abA) (h.b.ab abA) h.la h.lb h.sa h.sb).mono ?_
    rintro e w1 ⟨r1, D1, E1, d1, e1, hr1, rfl, o1, o2, hb1⟩)
   (try go_wp2_with fail)
   (refine hK.out _ _ ?_ (fun hHeld => ?_)
    · (try dsimp only); (refine ⟨?_, ?_, ?_, ?_, ?_, ?_, ?_, ?_, ?_⟩ <;> (exact ckA))
    clear hK K
    (try simp only [Act.put, stA, st0, st1])))
  (refine wpAnyH_ready (rs := [7]) (by kernel_rfl) (by simp) ?_)
  refine AllReadyH.cons rfl (fun K hK => ?_) AllReadyH.nil
  (go_simp
   (go_at_call 74
    refine (twin_any C D cc cd p q cep dm _ (h.c.ab abA) (h.d.ab abA) h.lc h.ld h.sc h.sd).mono ?_
    rintro e w2 ⟨r2, D2, E2, d2, e2, hr2, rfl, o3, o4, hb2⟩)
   (try go_wp2_with fail)
   (refine hK.out _ _ ?_ (fun hHeld => ?_)
    · (try dsimp only); (refine ⟨?_, ?_, ?_, ?_, ?_, ?_, ?_, ?_, ?_⟩ <;> (exact ckA))
    clear hK K
    (try simp only [Act.put, stA, st0, st1])))
  (refine wpAnyH_take (i := 8) (v := ?_) rfl (by kernel_rfl) (by kernel_rfl) (by kernel_rfl) (fun _ _ _ h => h) (Or.inl ⟨by kernel_rfl, ?_⟩) (by assumption) ?_
   rotate_left
   · (intro w hSw; (try dsimp only at hSw); go_simp; (try with_reducible rfl))
   (try simp only [Act.put, stA, st0, st1]))
  (refine wpAnyH_take (i := 11) (v := ?_) rfl (by kernel_rfl) (by kernel_rfl) (by kernel_rfl) (fun _ _ _ h => h) (Or.inl ⟨by kernel_rfl, ?_⟩) (by assumption) ?_
   rotate_left
   · (intro w hSw; (try dsimp only at hSw); go_simp; (try with_reducible rfl))
   (try simp only [Act.put, stA, st0, st1]))
  have hzz : SlB w2 (w.heap.size + 1) AM.nil Slots.zero := (SlB.box (w := (w.alloc (.cells #[.slice A s.length ca, .slice B t.length cb, .int .i64 cap, .bool dn, .slice C p.length cc, .slice D q.length cd, .int .i64 cep, .bool dm, .int .i64 n] 27)).alloc (.cells #[.slice none 0 0, .slice none 0 0, .int .i64 0, .bool false, .slice none 0 0, .slice none 0 0, .int .i64 0, .bool false, .int .i64 0] 27)) (b := w.heap.size + 1) (m := AM.nil) (r := Slots.zero) (new_plain (by simp))).ab abA
  obtain ⟨zq0, zq1, zq2, zq3, zq4, zq5, zq6, zq7, zq8, zg0, zg1, zg2, zg3, zg4, zg5, zg6, zg7, zg8⟩ := hzz
  (try simp only [AM.nil, Slots.zero, Disk.zero, List.length_nil] at zq0 zq1 zq2 zq3 zq4 zq5 zq6 zq7 zq8)
  have hsz : w.heap.size + 1 + 1 ≤ w1.heap.size := by have := hb1.size; simp at this; omega
  have hsz2 := Nat.le_trans hsz hb2.size
  have hM : SlM w2 (w.heap.size + 1 + 1) ⟨D1, E1, D2, E2, d1, e1, d2, e2⟩ ⟨r1, r2, n⟩ := by
    refine ⟨(o1.rb.mono wnA).ab hb2, (o2.rb.mono wnA).ab hb2, o3.rb.mono hsz, o4.rb.mono hsz, o1.le, o2.le, o3.le, o4.le, ?_, ?_, ?_, ?_⟩
    · rw [hr1.out]; exact h.sa
    · rw [hr1.out]; exact h.sb
    · rw [hr2.out]; exact h.sc
    · rw [hr2.out]; exact h.sd
  (refine wpAnyH_ready (rs := [12]) (by kernel_rfl) (by simp) ?_)
  refine AllReadyH.cons rfl (fun K hK => ?_) AllReadyH.nil
  (go_simp
   (refine hK.out _ _ ?_ (fun hHeld => ?_)
    · (try dsimp only); (refine ⟨?_, ?_, ?_, ?_, ?_, ?_, ?_, ?_, ?_⟩ <;> (exact ckA))
    clear hK K
    (try simp only [Act.put, stA, st0, st1])))
  refine wpAnyH_done (by kernel_rfl) ?_ _
  go_wp2
  refine bodyPost_ret (v := .agg #[.slice (⟨D1, E1, D2, E2, d1, e1, d2, e2⟩ : AM).A (⟨r1, r2, n⟩ : Sl).a.s.length (⟨D1, E1, D2, E2, d1, e1, d2, e2⟩ : AM).ca, .slice (⟨D1, E1, D2, E2, d1, e1, d2, e2⟩ : AM).B (⟨r1, r2, n⟩ : Sl).a.t.length (⟨D1, E1, D2, E2, d1, e1, d2, e2⟩ : AM).cb, .int .i64 (⟨r1, r2, n⟩ : Sl).a.cap, .bool (⟨r1, r2, n⟩ : Sl).a.down, .slice (⟨D1, E1, D2, E2, d1, e1, d2, e2⟩ : AM).C (⟨r1, r2, n⟩ : Sl).b.s.length (⟨D1, E1, D2, E2, d1, e1, d2, e2⟩ : AM).cc, .slice (⟨D1, E1, D2, E2, d1, e1, d2, e2⟩ : AM).D (⟨r1, r2, n⟩ : Sl).b.t.length (⟨D1, E1, D2, E2, d1, e1, d2, e2⟩ : AM).cd, .int .i64 (⟨r1, r2, n⟩ : Sl).b.cap, .bool (⟨r1, r2, n⟩ : Sl).b.down, .int .i64 (⟨r1, r2, n⟩ : Sl).n]) (by simp [results, Tryz.results34, go_sem, *]) rfl ?_
  exact ⟨⟨r1, r2, n⟩, ⟨D1, E1, D2, E2, d1, e1, d2, e2⟩, Lib.hid (by rw [hr1.out, hr2.out]), rfl, by refine SlM.mono (lo := w.heap.size + 1 + 1) ?_ (by omega); repeat (first | with_reducible exact hM | with_reducible refine SlM.put ?_ wnA _), abA⟩
end Go.Proofs.YthgcfjhnnhigoaaGreat

/- New and asked of the reference of layer 5, walked. Own work. -/
namespace Go.Proofs.YthgcfjhnnhigoaaGreat
open Go.RowKit
open Slots (Sl)
open Disk (Dev)

set_option maxRecDepth 100000 in
theorem srnew_any (c : Int) (w : World) :
    Calls Tryz.prog 38 #[.int .i64 c] w (RetSlE w (Slots.new c)) := by
  go_enter Tryz.func38, Tryz.ntmps38
  go_wp2_with fail
  refine (refNew_any c _).mono ?_
  rintro e w1 ⟨r1, er, D1, E1, d1, e1, hr1, rfl, o1, o2, hb1⟩
  have hz1 := (SlB.box (w := w.alloc (.cells #[.slice none 0 0, .slice none 0 0, .int .i64 0, .bool false, .slice none 0 0, .slice none 0 0, .int .i64 0, .bool false, .int .i64 0] 27)) (b := w.heap.size) (m := AM.nil) (r := Slots.zero) (new_plain rfl)).ab hb1
  have zz : w.heap.size + 1 ≤ w1.heap.size := by have := hb1.size; simpa using this
  obtain ⟨zq0, zq1, zq2, zq3, zq4, zq5, zq6, zq7, zq8, zg0, zg1, zg2, zg3, zg4, zg5, zg6, zg7, zg8⟩ := hz1
  (try simp only [AM.nil, Slots.zero, Disk.zero, List.length_nil] at zq0 zq1 zq2 zq3 zq4 zq5 zq6 zq7 zq8)
  have nza := fun (o : Obj) (j : Nat) => World.cell?_alloc_lt w1 o ⟨w.heap.size, j, none⟩ (by simp only; omega)
  have nzb := fun (o : Obj) (j : Nat) => ((Ab.refl w1).alloc o).frozen (p := ⟨w.heap.size, j, none⟩) (by simp only; omega)
  have hne : w.heap.size ≠ w1.heap.size := by omega
  have b1 : Ab w w1 := abA
  by_cases hbad : c < 0 ∨ 20000 < c
  · obtain rfl : er = 2 := (Prod.mk.inj (hr1.out.trans (show Disk.new c = _ from if_pos hbad))).2
    have HM := Lib.hid (show Slots.new c = _ from if_pos hbad)
    clear hr1 hbad
    go_wp2
    refine bodyPost_ret (v := .tuple #[(.agg #[.slice none 0 0, .slice none 0 0, .int .i64 0, .bool false, .slice none 0 0, .slice none 0 0, .int .i64 0, .bool false, .int .i64 0]), .int .i64 2]) (by simp [results, Tryz.results38, go_sem, *]) rfl ?_
    exact RetSlE.zero HM.out.symm abA
  · have h1 := Prod.mk.inj (hr1.out.trans (show Disk.new c = _ from if_neg hbad))
    obtain rfl : er = 0 := h1.2
    have HM := Lib.hid (show Slots.new c = _ from if_neg hbad)
    have HR := Lib.hid h1.1
    have l1 : r1.s.length ≤ 1000000 ∧ r1.t.length ≤ 1000000 := by rw [h1.1]; exact ⟨Nat.zero_le _, Nat.zero_le _⟩
    have p1 : RB w1 (w.heap.size + 1) D1 r1.s := o1.rb.mono wnA
    have p2 : RB w1 (w.heap.size + 1) E1 r1.t := o2.rb.mono wnA
    have hM : SlM w1 (w.heap.size + 1) ⟨D1, E1, D1, E1, d1, e1, d1, e1⟩ ⟨r1, r1, 1⟩ := ⟨p1, p2, p1, p2, o1.le, o2.le, o1.le, o2.le, l1.1, l1.2, l1.1, l1.2⟩
    have HL := Lib.hid l1
    clear hr1 h1 hbad l1
    go_wp2
    refine bodyPost_ret (v := .tuple #[.agg #[.slice (⟨D1, E1, D1, E1, d1, e1, d1, e1⟩ : AM).A (⟨r1, r1, 1⟩ : Sl).a.s.length (⟨D1, E1, D1, E1, d1, e1, d1, e1⟩ : AM).ca, .slice (⟨D1, E1, D1, E1, d1, e1, d1, e1⟩ : AM).B (⟨r1, r1, 1⟩ : Sl).a.t.length (⟨D1, E1, D1, E1, d1, e1, d1, e1⟩ : AM).cb, .int .i64 (⟨r1, r1, 1⟩ : Sl).a.cap, .bool (⟨r1, r1, 1⟩ : Sl).a.down, .slice (⟨D1, E1, D1, E1, d1, e1, d1, e1⟩ : AM).C (⟨r1, r1, 1⟩ : Sl).b.s.length (⟨D1, E1, D1, E1, d1, e1, d1, e1⟩ : AM).cc, .slice (⟨D1, E1, D1, E1, d1, e1, d1, e1⟩ : AM).D (⟨r1, r1, 1⟩ : Sl).b.t.length (⟨D1, E1, D1, E1, d1, e1, d1, e1⟩ : AM).cd, .int .i64 (⟨r1, r1, 1⟩ : Sl).b.cap, .bool (⟨r1, r1, 1⟩ : Sl).b.down, .int .i64 (⟨r1, r1, 1⟩ : Sl).n], .int .i64 0]) (by simp [results, Tryz.results38, go_sem, *]) rfl ?_
    exact ⟨⟨r1, r1, 1⟩, 0, ⟨D1, E1, D1, E1, d1, e1, d1, e1⟩, Lib.hid (by rw [HM.out, HR.out]), rfl, by refine SlM.mono (lo := w.heap.size + 1) ?_ (by omega); repeat (first | with_reducible exact hM.ab ((Ab.refl w1).alloc _) | with_reducible refine SlM.put ?_ wnA _), abA⟩

set_option maxHeartbeats 3200000 in
set_option maxRecDepth 100000 in
theorem srasked_any (m : AM) (r : Sl) (w : World) (h : SlM w 0 m r) (X : Option Addr) (b : List UInt8) (cx : Nat) (hx : RB w 0 X b) (hcx : b.length ≤ cx) :
    Calls Tryz.prog 89 #[.agg #[.slice m.A r.a.s.length m.ca, .slice m.B r.a.t.length m.cb, .int .i64 r.a.cap, .bool r.a.down, .slice m.C r.b.s.length m.cc, .slice m.D r.b.t.length m.cd, .int .i64 r.b.cap, .bool r.b.down, .int .i64 r.n], .slice X b.length cx] w (RetInt w (Slots.asked r b)) := by
  obtain ⟨A, B, C, D, ca, cb, cc, cd⟩ := m
  obtain ⟨⟨s, t, cap, dn⟩, ⟨p, q, cep, dm⟩, n⟩ := r
  dsimp only
  by_cases hbad : Slots.bad ⟨⟨s, t, cap, dn⟩, ⟨p, q, cep, dm⟩, n⟩
  · have HM := Lib.hid (Slots.asked_bad (b := b) hbad)
    have HB := Lib.hid hbad
    clear hbad
    go_enter Tryz.func89, Tryz.ntmps89
    go_wp2_with fail
    refine (srcheck_any (⟨A, B, C, D, ca, cb, cc, cd⟩ : AM) (⟨⟨s, t, cap, dn⟩, ⟨p, q, cep, dm⟩, n⟩ : Sl) _ (h.ab abA)).mono ?_
    rintro e w1 ⟨er, hr, rfl, hb1⟩
    obtain rfl : er = 8 := hr.out.trans (Slots.check_bad HB.out)
    have bq0 := hb1.at (p := ⟨w.heap.size, 0, none⟩) (v := .slice A s.length ca) ckA; have bq1 := hb1.at (p := ⟨w.heap.size, 1, none⟩) (v := .slice B t.length cb) ckA; have bq2 := hb1.at (p := ⟨w.heap.size, 2, none⟩) (v := .int .i64 cap) ckA; have bq3 := hb1.at (p := ⟨w.heap.size, 3, none⟩) (v := .bool dn) ckA; have bq4 := hb1.at (p := ⟨w.heap.size, 4, none⟩) (v := .slice C p.length cc) ckA; have bq5 := hb1.at (p := ⟨w.heap.size, 5, none⟩) (v := .slice D q.length cd) ckA; have bq6 := hb1.at (p := ⟨w.heap.size, 6, none⟩) (v := .int .i64 cep) ckA; have bq7 := hb1.at (p := ⟨w.heap.size, 7, none⟩) (v := .bool dm) ckA; have bq8 := hb1.at (p := ⟨w.heap.size, 8, none⟩) (v := .int .i64 n) ckA
    go_wp2_with fail
    refine (srcheck_any (⟨A, B, C, D, ca, cb, cc, cd⟩ : AM) (⟨⟨s, t, cap, dn⟩, ⟨p, q, cep, dm⟩, n⟩ : Sl) _ (h.ab abA)).mono ?_
    rintro e w2 ⟨er, hr2, rfl, hb2⟩
    obtain rfl : er = 8 := hr2.out.trans (Slots.check_bad HB.out)
    go_wp2
    go_ret
    exact RetInt.mk (by rw [HM.out]; rfl) abA
  have HB := Lib.hid hbad
  have HG := Lib.hid (Slots.good_of hbad)
  have hn0 : 0 ≤ n := by have := HG.out.lo; simp only at this; omega
  clear hbad
  go_enter Tryz.func89, Tryz.ntmps89
  go_wp2_with fail
  refine (srcheck_any (⟨A, B, C, D, ca, cb, cc, cd⟩ : AM) (⟨⟨s, t, cap, dn⟩, ⟨p, q, cep, dm⟩, n⟩ : Sl) _ (h.ab abA)).mono ?_
  rintro e w1 ⟨er, hr, rfl, hb1⟩
  obtain rfl : er = 0 := hr.out.trans (Slots.check_ok HB.out)
  clear hr
  have bq0 := hb1.at (p := ⟨w.heap.size, 0, none⟩) (v := .slice A s.length ca) ckA; have bq1 := hb1.at (p := ⟨w.heap.size, 1, none⟩) (v := .slice B t.length cb) ckA; have bq2 := hb1.at (p := ⟨w.heap.size, 2, none⟩) (v := .int .i64 cap) ckA; have bq3 := hb1.at (p := ⟨w.heap.size, 3, none⟩) (v := .bool dn) ckA; have bq4 := hb1.at (p := ⟨w.heap.size, 4, none⟩) (v := .slice C p.length cc) ckA; have bq5 := hb1.at (p := ⟨w.heap.size, 5, none⟩) (v := .slice D q.length cd) ckA; have bq6 := hb1.at (p := ⟨w.heap.size, 6, none⟩) (v := .int .i64 cep) ckA; have bq7 := hb1.at (p := ⟨w.heap.size, 7, none⟩) (v := .bool dm) ckA; have bq8 := hb1.at (p := ⟨w.heap.size, 8, none⟩) (v := .int .i64 n) ckA
  by_cases hmany : 1000 < b.length
  · have HM := Lib.hid (Slots.asked_many HB.out hmany)
    have hmany' : decide ((1000 : Int) < (b.length : Int)) = true := by simp; omega
    clear hmany
    go_wp2
    go_ret
    exact RetInt.mk (by rw [HM.out]; rfl) abA
  have hmany' : decide ((1000 : Int) < (b.length : Int)) = false := by simp; omega
  have HM1 := Lib.hid hmany
  by_cases harg : 1000000000 < n
  · have HM := Lib.hid (Slots.asked_arg (s := ⟨⟨s, t, cap, dn⟩, ⟨p, q, cep, dm⟩, n⟩) HB.out hmany harg)
    have harg' : decide (1000000000 < n) = true := by simpa using harg
    clear hmany harg
    go_wp2
    go_ret
    exact RetInt.mk (by rw [HM.out]; rfl) abA
  have harg' : decide (1000000000 < n) = false := by simpa using harg
  have HM2 := Lib.hid harg
  have hval := Lib.hid (show Frame.Valid ⟨n, b⟩ from ⟨hn0, by simp only; omega, by simp only; omega⟩)
  clear hmany harg
  have b1 : Ab w w1 := abA
  have HG2 := Lib.hid (show n ≤ 1000000000 by have := HM2.out; omega)
  go_upto_region 7 with fail
  rcases Int.emod_two_eq n with hp0 | hp0
  · have hcur := Lib.hid (show (Slots.Sl.cur ⟨⟨s, t, cap, dn⟩, ⟨p, q, cep, dm⟩, n⟩).cap = cap by simp [Slots.Sl.cur, hp0])
    have ht0 : n.tmod 2 = 0 := by rw [Int.tmod_eq_emod_of_nonneg hn0]; exact hp0
    refine wp_region_held_drew (by kernel_rfl) (S := fun w' => w'.cell? ⟨w.heap.size, 0, none⟩ = some (.slice A s.length ca) ∧ w'.cell? ⟨w.heap.size, 1, none⟩ = some (.slice B t.length cb) ∧ w'.cell? ⟨w.heap.size, 2, none⟩ = some (.int .i64 cap) ∧ w'.cell? ⟨w.heap.size, 3, none⟩ = some (.bool dn) ∧ w'.cell? ⟨w.heap.size, 4, none⟩ = some (.slice C p.length cc) ∧ w'.cell? ⟨w.heap.size, 5, none⟩ = some (.slice D q.length cd) ∧ w'.cell? ⟨w.heap.size, 6, none⟩ = some (.int .i64 cep) ∧ w'.cell? ⟨w.heap.size, 7, none⟩ = some (.bool dm) ∧ w'.cell? ⟨w.heap.size, 8, none⟩ = some (.int .i64 n)) ?_ (fun hHeld => ?_)
    · (refine ⟨?_, ?_, ?_, ?_, ?_, ?_, ?_, ?_, ?_⟩ <;> (exact ckA))
    (refine wpAnyH_take (i := 0) (v := ?_) rfl (by kernel_rfl) (by kernel_rfl) (by kernel_rfl) (fun _ _ _ h => h) (Or.inl ⟨by kernel_rfl, ?_⟩) (by assumption) ?_
     rotate_left
     · (intro w hSw; (try dsimp only at hSw); go_simp; (try with_reducible rfl))
     (try simp only [Act.put, stA, st0, st1]))
    (refine wpAnyH_take (i := 1) (v := ?_) rfl (by kernel_rfl) (by kernel_rfl) (by kernel_rfl) (fun _ _ _ h => h) (Or.inl ⟨by kernel_rfl, ?_⟩) (by assumption) ?_
     rotate_left
     · (intro w hSw; (try dsimp only at hSw); go_simp; (try with_reducible rfl))
     (try simp only [Act.put, stA, st0, st1]))
    (refine wpAnyH_take (i := 2) (v := ?_) rfl (by kernel_rfl) (by kernel_rfl) (by kernel_rfl) (fun _ _ _ h => h) (Or.inl ⟨by kernel_rfl, ?_⟩) (by assumption) ?_
     rotate_left
     · (intro w hSw; (try dsimp only at hSw); go_simp; (try with_reducible rfl))
     (try simp only [Act.put, stA, st0, st1]))
    (refine wpAnyH_take (i := 3) (v := ?_) rfl (by kernel_rfl) (by kernel_rfl) (by kernel_rfl) (fun _ _ _ h => h) (Or.inl ⟨by kernel_rfl, ?_⟩) (by assumption) ?_
     rotate_left
     · (intro w hSw; (try dsimp only at hSw); go_simp; (try with_reducible rfl))
     (try simp only [Act.put, stA, st0, st1]))
    (refine wpAnyH_take (i := 6) (v := ?_) rfl (by kernel_rfl) (by kernel_rfl) (by kernel_rfl) (fun _ _ _ h => h) (Or.inl ⟨by kernel_rfl, ?_⟩) (by assumption) ?_
     rotate_left
     · (intro w hSw; (try dsimp only at hSw); go_simp; (try with_reducible rfl))
     (try simp only [Act.put, stA, st0, st1]))
    (refine wpAnyH_take (i := 7) (v := ?_) rfl (by kernel_rfl) (by kernel_rfl) (by kernel_rfl) (fun _ _ _ h => h) (Or.inl ⟨by kernel_rfl, ?_⟩) (by assumption) ?_
     rotate_left
     · (intro w hSw; (try dsimp only at hSw); go_simp; (try with_reducible rfl))
     (try simp only [Act.put, stA, st0, st1]))
    (refine wpAnyH_take (i := 8) (v := ?_) rfl (by kernel_rfl) (by kernel_rfl) (by kernel_rfl) (fun _ _ _ h => h) (Or.inl ⟨by kernel_rfl, ?_⟩) (by assumption) ?_
     rotate_left
     · (intro w hSw; (try dsimp only at hSw); go_simp; (try with_reducible rfl))
     (try simp only [Act.put, stA, st0, st1]))
    (refine wpAnyH_take (i := 9) (v := ?_) rfl (by kernel_rfl) (by kernel_rfl) (by kernel_rfl) (fun _ _ _ h => h) (Or.inl ⟨by kernel_rfl, ?_⟩) (by assumption) ?_
     rotate_left
     · (intro w hSw; (try dsimp only at hSw); go_simp; (try with_reducible rfl))
     (try simp only [Act.put, stA, st0, st1]))
    (refine wpAnyH_take (i := 10) (v := ?_) rfl (by kernel_rfl) (by kernel_rfl) (by kernel_rfl) (fun _ _ _ h => h) (Or.inl ⟨by kernel_rfl, ?_⟩) (by assumption) ?_
     rotate_left
     · (intro w hSw; (try dsimp only at hSw); go_simp; (try with_reducible rfl))
     (try simp only [Act.put, stA, st0, st1]))
    (refine wpAnyH_take (i := 11) (v := ?_) rfl (by kernel_rfl) (by kernel_rfl) (by kernel_rfl) (fun _ _ _ h => h) (Or.inl ⟨by kernel_rfl, ?_⟩) (by assumption) ?_
     rotate_left
     · (intro w hSw; (try dsimp only at hSw); go_simp; (try with_reducible rfl))
     (try simp only [Act.put, stA, st0, st1]))
    (refine wpAnyH_take (i := 12) (v := ?_) rfl (by kernel_rfl) (by kernel_rfl) (by kernel_rfl) (fun _ _ _ h => h) (Or.inl ⟨by kernel_rfl, ?_⟩) (by assumption) ?_
     rotate_left
     · (intro w hSw; (try dsimp only at hSw); go_simp; (try with_reducible rfl))
     (try simp only [Act.put, stA, st0, st1]))
    (refine wpAnyH_ready (rs := [4]) (by kernel_rfl) (by simp) ?_)
    refine AllReadyH.cons rfl (fun K hK => ?_) AllReadyH.nil
    (go_simp
     (go_at_call 81
      refine (bytes_any n X b cx _ hval.out (hx.ab abA) hcx).mono ?_
      rintro e w2 ⟨E, c, L, hE, rfl, oE, hb2⟩)
     (try go_wp2_with fail)
     (refine hK.out _ _ ?_ (fun hHeld => ?_)
      · (try dsimp only); (refine ⟨?_, ?_, ?_, ?_, ?_, ?_, ?_, ?_, ?_⟩ <;> (exact ckA))
      clear hK K
      (try simp only [Act.put, stA, st0, st1])))
    have hlen2 := Lib.hid (show L.length = 12 + b.length by rw [hE.out, Frame.enc_length])
    (refine wpAnyH_ready (rs := [5]) (by kernel_rfl) (by simp) ?_)
    refine AllReadyH.cons rfl (fun K hK => ?_) AllReadyH.nil
    (go_simp
     (refine hK.out _ _ ?_ (fun hHeld => ?_)
      · (try dsimp only); (refine ⟨?_, ?_, ?_, ?_, ?_, ?_, ?_, ?_, ?_⟩ <;> (exact ckA))
      clear hK K
      (try simp only [Act.put, stA, st0, st1])))
    (refine wpAnyH_take (i := 13) (v := ?_) rfl (by kernel_rfl) (by kernel_rfl) (by kernel_rfl) (fun _ _ _ h => h) (Or.inl ⟨by kernel_rfl, ?_⟩) (by assumption) ?_
     rotate_left
     · (intro w hSw; (try dsimp only at hSw); go_simp; (try with_reducible rfl))
     (try simp only [Act.put, stA, st0, st1]))
    refine wpAnyH_done (by kernel_rfl) ?_ _
    by_cases hfull : cap < 12 + (b.length : Int)
    · have HM := Lib.hid (Slots.asked_full (s := ⟨⟨s, t, cap, dn⟩, ⟨p, q, cep, dm⟩, n⟩) HB.out HM1.out (by simp only; have := HG2.out; omega) (by rw [hcur.out]; exact hfull))
      have hfull' : decide (cap < (L.length : Int)) = true := by simp; have := hlen2.out; omega
      clear hfull
      go_wp2
      all_goals first | (exfalso; simp at hfull'; omega) | skip
      go_ret
      exact RetInt.mk (by rw [HM.out]; rfl) abA
    · have HM := Lib.hid (Slots.asked_ok (s := ⟨⟨s, t, cap, dn⟩, ⟨p, q, cep, dm⟩, n⟩) HB.out HM1.out (by simp only; have := HG2.out; omega) (by rw [hcur.out]; exact hfull))
      have hfull' : decide (cap < (L.length : Int)) = false := by simp; have := hlen2.out; omega
      clear hfull
      go_wp2
      all_goals first | (exfalso; simp at hfull'; omega) | skip
      go_ret
      exact RetInt.mk (by rw [HM.out]; rfl) abA
  · have hcur := Lib.hid (show (Slots.Sl.cur ⟨⟨s, t, cap, dn⟩, ⟨p, q, cep, dm⟩, n⟩).cap = cep by simp [Slots.Sl.cur, hp0])
    have ht0 : n.tmod 2 = 1 := by rw [Int.tmod_eq_emod_of_nonneg hn0]; exact hp0
    refine wp_region_held_drew (by kernel_rfl) (S := fun w' => w'.cell? ⟨w.heap.size, 0, none⟩ = some (.slice A s.length ca) ∧ w'.cell? ⟨w.heap.size, 1, none⟩ = some (.slice B t.length cb) ∧ w'.cell? ⟨w.heap.size, 2, none⟩ = some (.int .i64 cap) ∧ w'.cell? ⟨w.heap.size, 3, none⟩ = some (.bool dn) ∧ w'.cell? ⟨w.heap.size, 4, none⟩ = some (.slice C p.length cc) ∧ w'.cell? ⟨w.heap.size, 5, none⟩ = some (.slice D q.length cd) ∧ w'.cell? ⟨w.heap.size, 6, none⟩ = some (.int .i64 cep) ∧ w'.cell? ⟨w.heap.size, 7, none⟩ = some (.bool dm) ∧ w'.cell? ⟨w.heap.size, 8, none⟩ = some (.int .i64 n)) ?_ (fun hHeld => ?_)
    · (refine ⟨?_, ?_, ?_, ?_, ?_, ?_, ?_, ?_, ?_⟩ <;> (exact ckA))
    (refine wpAnyH_take (i := 0) (v := ?_) rfl (by kernel_rfl) (by kernel_rfl) (by kernel_rfl) (fun _ _ _ h => h) (Or.inl ⟨by kernel_rfl, ?_⟩) (by assumption) ?_
     rotate_left
     · (intro w hSw; (try dsimp only at hSw); go_simp; (try with_reducible rfl))
     (try simp only [Act.put, stA, st0, st1]))
    (refine wpAnyH_take (i := 1) (v := ?_) rfl (by kernel_rfl) (by kernel_rfl) (by kernel_rfl) (fun _ _ _ h => h) (Or.inl ⟨by kernel_rfl, ?_⟩) (by assumption) ?_
     rotate_left
     · (intro w hSw; (try dsimp only at hSw); go_simp; (try with_reducible rfl))
     (try simp only [Act.put, stA, st0, st1]))
    (refine wpAnyH_take (i := 2) (v := ?_) rfl (by kernel_rfl) (by kernel_rfl) (by kernel_rfl) (fun _ _ _ h => h) (Or.inl ⟨by kernel_rfl, ?_⟩) (by assumption) ?_
     rotate_left
     · (intro w hSw; (try dsimp only at hSw); go_simp; (try with_reducible rfl))
     (try simp only [Act.put, stA, st0, st1]))
    (refine wpAnyH_take (i := 3) (v := ?_) rfl (by kernel_rfl) (by kernel_rfl) (by kernel_rfl) (fun _ _ _ h => h) (Or.inl ⟨by kernel_rfl, ?_⟩) (by assumption) ?_
     rotate_left
     · (intro w hSw; (try dsimp only at hSw); go_simp; (try with_reducible rfl))
     (try simp only [Act.put, stA, st0, st1]))
    (refine wpAnyH_take (i := 6) (v := ?_) rfl (by kernel_rfl) (by kernel_rfl) (by kernel_rfl) (fun _ _ _ h => h) (Or.inl ⟨by kernel_rfl, ?_⟩) (by assumption) ?_
     rotate_left
     · (intro w hSw; (try dsimp only at hSw); go_simp; (try with_reducible rfl))
     (try simp only [Act.put, stA, st0, st1]))
    (refine wpAnyH_take (i := 7) (v := ?_) rfl (by kernel_rfl) (by kernel_rfl) (by kernel_rfl) (fun _ _ _ h => h) (Or.inl ⟨by kernel_rfl, ?_⟩) (by assumption) ?_
     rotate_left
     · (intro w hSw; (try dsimp only at hSw); go_simp; (try with_reducible rfl))
     (try simp only [Act.put, stA, st0, st1]))
    (refine wpAnyH_take (i := 8) (v := ?_) rfl (by kernel_rfl) (by kernel_rfl) (by kernel_rfl) (fun _ _ _ h => h) (Or.inl ⟨by kernel_rfl, ?_⟩) (by assumption) ?_
     rotate_left
     · (intro w hSw; (try dsimp only at hSw); go_simp; (try with_reducible rfl))
     (try simp only [Act.put, stA, st0, st1]))
    (refine wpAnyH_take (i := 9) (v := ?_) rfl (by kernel_rfl) (by kernel_rfl) (by kernel_rfl) (fun _ _ _ h => h) (Or.inl ⟨by kernel_rfl, ?_⟩) (by assumption) ?_
     rotate_left
     · (intro w hSw; (try dsimp only at hSw); go_simp; (try with_reducible rfl))
     (try simp only [Act.put, stA, st0, st1]))
    (refine wpAnyH_take (i := 10) (v := ?_) rfl (by kernel_rfl) (by kernel_rfl) (by kernel_rfl) (fun _ _ _ h => h) (Or.inl ⟨by kernel_rfl, ?_⟩) (by assumption) ?_
     rotate_left
     · (intro w hSw; (try dsimp only at hSw); go_simp; (try with_reducible rfl))
     (try simp only [Act.put, stA, st0, st1]))
    (refine wpAnyH_take (i := 11) (v := ?_) rfl (by kernel_rfl) (by kernel_rfl) (by kernel_rfl) (fun _ _ _ h => h) (Or.inl ⟨by kernel_rfl, ?_⟩) (by assumption) ?_
     rotate_left
     · (intro w hSw; (try dsimp only at hSw); go_simp; (try with_reducible rfl))
     (try simp only [Act.put, stA, st0, st1]))
    (refine wpAnyH_take (i := 12) (v := ?_) rfl (by kernel_rfl) (by kernel_rfl) (by kernel_rfl) (fun _ _ _ h => h) (Or.inl ⟨by kernel_rfl, ?_⟩) (by assumption) ?_
     rotate_left
     · (intro w hSw; (try dsimp only at hSw); go_simp; (try with_reducible rfl))
     (try simp only [Act.put, stA, st0, st1]))
    (refine wpAnyH_ready (rs := [4]) (by kernel_rfl) (by simp) ?_)
    refine AllReadyH.cons rfl (fun K hK => ?_) AllReadyH.nil
    (go_simp
     (go_at_call 81
      refine (bytes_any n X b cx _ hval.out (hx.ab abA) hcx).mono ?_
      rintro e w2 ⟨E, c, L, hE, rfl, oE, hb2⟩)
     (try go_wp2_with fail)
     (refine hK.out _ _ ?_ (fun hHeld => ?_)
      · (try dsimp only); (refine ⟨?_, ?_, ?_, ?_, ?_, ?_, ?_, ?_, ?_⟩ <;> (exact ckA))
      clear hK K
      (try simp only [Act.put, stA, st0, st1])))
    have hlen2 := Lib.hid (show L.length = 12 + b.length by rw [hE.out, Frame.enc_length])
    (refine wpAnyH_ready (rs := [5]) (by kernel_rfl) (by simp) ?_)
    refine AllReadyH.cons rfl (fun K hK => ?_) AllReadyH.nil
    (go_simp
     (refine hK.out _ _ ?_ (fun hHeld => ?_)
      · (try dsimp only); (refine ⟨?_, ?_, ?_, ?_, ?_, ?_, ?_, ?_, ?_⟩ <;> (exact ckA))
      clear hK K
      (try simp only [Act.put, stA, st0, st1])))
    (refine wpAnyH_take (i := 13) (v := ?_) rfl (by kernel_rfl) (by kernel_rfl) (by kernel_rfl) (fun _ _ _ h => h) (Or.inl ⟨by kernel_rfl, ?_⟩) (by assumption) ?_
     rotate_left
     · (intro w hSw; (try dsimp only at hSw); go_simp; (try with_reducible rfl))
     (try simp only [Act.put, stA, st0, st1]))
    refine wpAnyH_done (by kernel_rfl) ?_ _
    by_cases hfull : cep < 12 + (b.length : Int)
    · have HM := Lib.hid (Slots.asked_full (s := ⟨⟨s, t, cap, dn⟩, ⟨p, q, cep, dm⟩, n⟩) HB.out HM1.out (by simp only; have := HG2.out; omega) (by rw [hcur.out]; exact hfull))
      have hfull' : decide (cep < (L.length : Int)) = true := by simp; have := hlen2.out; omega
      clear hfull
      go_wp2
      all_goals first | (exfalso; simp at hfull'; omega) | skip
      go_ret
      exact RetInt.mk (by rw [HM.out]; rfl) abA
    · have HM := Lib.hid (Slots.asked_ok (s := ⟨⟨s, t, cap, dn⟩, ⟨p, q, cep, dm⟩, n⟩) HB.out HM1.out (by simp only; have := HG2.out; omega) (by rw [hcur.out]; exact hfull))
      have hfull' : decide (cep < (L.length : Int)) = false := by simp; have := hlen2.out; omega
      clear hfull
      go_wp2
      all_goals first | (exfalso; simp at hfull'; omega) | skip
      go_ret
      exact RetInt.mk (by rw [HM.out]; rfl) abA
end Go.Proofs.YthgcfjhnnhigoaaGreat

/- checkpoint, Newest and Load of the reference of layer 5, walked. Own work. -/
namespace Go.Proofs.YthgcfjhnnhigoaaGreat
open Go.RowKit
open Slots (Sl)
open Disk (Dev)

theorem RetRecO.no' {w w' : World} (hb : Ab w w') : RetRecO w none (.returned (.tuple #[.agg #[.int .i64 0, .slice none 0 0], .bool false])) w' :=
  ⟨⟨0, []⟩, false, none, 0, rfl, rfl, RB.nil, Nat.le_refl _, by simp, hb⟩

set_option maxHeartbeats 1600000 in
set_option maxRecDepth 100000 in
theorem srcheckpoint_any (A B : Option Addr) (ca cb : Nat) (s t : List UInt8) (cap : Int) (dn : Bool) (w : World) (hs : RB w 0 A s) (ht : RB w 0 B t) (hca : s.length ≤ ca) (hcb : t.length ≤ cb) (hlen : s.length + t.length ≤ 20000) (i : Int) :
    Calls Tryz.prog 97 #[.agg #[.slice A s.length ca, .slice B t.length cb, .int .i64 cap, .bool dn], .int .i64 i] w (RetRecO w (Slots.ck ⟨s, t, cap, dn⟩ i)) := by
  have HL := Lib.hid hlen
  clear hlen
  go_enter Tryz.func97, Tryz.ntmps97
  go_wp2_with fail
  refine (whole_any A B ca cb s t cap dn _ (hs.ab abA) (ht.ab abA) hca hcb (by have := HL.out; omega) (by have := HL.out; omega)).mono ?_
  rintro e w2 ⟨L, E, c, hL, rfl, o1, hb2⟩
  have HL2 := Lib.hid hL.out
  have hLl : L.length ≤ 20000 := by rw [hL.out, List.length_append]; exact HL.out
  clear hL
  go_wp2_with fail
  refine (found_any E L c _ o1.rb.zero o1.le hLl).mono ?_
  rintro e w3 ⟨X, d, xs, u, hS, rfl, oX, hb3⟩
  have hF := Slots.first_scan hS.out
  rw [HL2.out] at hF
  have HF := Lib.hid hF
  clear hF hS
  have hzz : Ab ((w.alloc (.cells #[.slice A s.length ca, .slice B t.length cb, .int .i64 cap, .bool dn] 24)).alloc (.cells #[.int .i64 0, .slice none 0 0] 108)) w3 := abA
  have zq0 := hzz.at (p := ⟨w.heap.size + 1, 0, none⟩) (v := .int .i64 0) (by simp [go_sem])
  have zq1 := hzz.at (p := ⟨w.heap.size + 1, 1, none⟩) (v := .slice none 0 0) (by simp [go_sem])
  have zr0 : w3.frozen? ⟨w.heap.size + 1, 0, none⟩ = false := (hzz.frozen (p := ⟨w.heap.size + 1, 0, none⟩) wnA).trans (by simp [go_sem])
  have zr1 : w3.frozen? ⟨w.heap.size + 1, 1, none⟩ = false := (hzz.frozen (p := ⟨w.heap.size + 1, 1, none⟩) wnA).trans (by simp [go_sem])
  have b3 : Ab w w3 := abA
  rcases xs with _ | ⟨x, xs⟩
  · have HM := Lib.hid (show Slots.ck ⟨s, t, cap, dn⟩ i = none by unfold Slots.ck; simp only [Disk.Dev.all]; rw [HF.out]; rfl)
    go_wp2
    refine bodyPost_ret (v := .tuple #[.agg #[.int .i64 0, .slice none 0 0], .bool false]) (by simp [results, Tryz.results97, go_sem, zq0, zq1]) rfl ?_
    rw [HM.out]
    exact RetRecO.no' abA
  · have HF2 := Lib.hid (show Slots.first (s ++ t) = some ⟨x.num, x.b⟩ from HF.out)
    have hv := Slots.first_valid HF2.out
    have hn0 : 0 ≤ x.num := hv.1
    have HV := Lib.hid hv
    obtain ⟨a, rfl, ha, c0, c1, hlaid⟩ := oX.recs.at_ (k := 0) (by simp)
    simp only [List.getElem_cons_zero] at c0 c1 hlaid
    have d0 : w3.cell? a = some (.int .i64 x.num) := c0
    have d1 : w3.cell? ⟨a.block, a.off + 1, none⟩ = some (.slice x.A x.b.length x.c) := c1
    have hE3 : RB w3 (w.heap.size + 1 + 1) x.A x.b := hlaid.1.mono (by have := (show Ab ((w.alloc (.cells #[.slice A s.length ca, .slice B t.length cb, .int .i64 cap, .bool dn] 24)).alloc (.cells #[.int .i64 0, .slice none 0 0] 108)) w2 from abA).size; simpa using this)
    have hlx := hlaid.2.1
    clear c0 c1 hlaid hv HF
    generalize hv : x.num % 2 = v
    have HD := Lib.hid hv
    have ht0 : x.num.tmod 2 = v := by rw [Int.tmod_eq_emod_of_nonneg hn0]; exact hv
    have hl0 : ((xs.length : Int) + 1 == 0) = false := by simp; omega
    by_cases hi : v = i
    · have HM := Lib.hid (show Slots.ck ⟨s, t, cap, dn⟩ i = some ⟨x.num, x.b⟩ by unfold Slots.ck; simp only [Disk.Dev.all]; rw [HF2.out]; simp only; rw [if_pos (by rw [HD.out]; exact hi)])
      go_wp2
      refine bodyPost_ret (v := .tuple #[.agg #[.int .i64 x.num, .slice x.A x.b.length x.c], .bool true]) (by simp [results, Tryz.results97, go_sem, zq0, zq1]) rfl ?_
      rw [HM.out]
      exact ⟨⟨x.num, x.b⟩, true, x.A, x.c, rfl, rfl, ((hE3.put wnA _).put wnA _).mono (by omega), hlx, fun _ => HV.out, abA⟩
    · have hvi : (v != i) = true := by simpa using hi
      have HM := Lib.hid (show Slots.ck ⟨s, t, cap, dn⟩ i = none by unfold Slots.ck; simp only [Disk.Dev.all]; rw [HF2.out]; simp only; rw [if_neg (by rw [HD.out]; exact hi)])
      go_wp2
      refine bodyPost_ret (v := .tuple #[.agg #[.int .i64 0, .slice none 0 0], .bool false]) (by simp [results, Tryz.results97, go_sem, zq0, zq1]) rfl ?_
      rw [HM.out]
      exact RetRecO.no' abA

set_option maxHeartbeats 1600000 in
set_option maxRecDepth 100000 in
theorem srnewest_any (m : AM) (r : Sl) (w : World) (h : SlM w 0 m r) (ha : r.a.s.length + r.a.t.length ≤ 20000) (hb : r.b.s.length + r.b.t.length ≤ 20000) :
    Calls Tryz.prog 61 #[.agg #[.slice m.A r.a.s.length m.ca, .slice m.B r.a.t.length m.cb, .int .i64 r.a.cap, .bool r.a.down, .slice m.C r.b.s.length m.cc, .slice m.D r.b.t.length m.cd, .int .i64 r.b.cap, .bool r.b.down, .int .i64 r.n]] w (RetRecO w (Slots.newest r)) := by
  obtain ⟨A, B, C, D, ca, cb, cc, cd⟩ := m
  obtain ⟨⟨s, t, cap, dn⟩, ⟨p, q, cep, dm⟩, n⟩ := r
  dsimp only
  simp only at ha hb
  have HA := Lib.hid ha
  have HB := Lib.hid hb
  clear ha hb
  go_enter Tryz.func61, Tryz.ntmps61
  go_wp2_with fail
  refine (srcheckpoint_any A B ca cb s t cap dn _ (h.a.ab abA) (h.b.ab abA) h.la h.lb HA.out 0).mono ?_
  rintro e w1 ⟨r1, ok1, X1, c1, h1, rfl, hX1, hc1, hv1, hb1⟩
  have zz1 := hb1.size
  simp at zz1
  have bq0 := hb1.at (p := ⟨w.heap.size, 0, none⟩) (v := .slice A s.length ca) ckA; have bq1 := hb1.at (p := ⟨w.heap.size, 1, none⟩) (v := .slice B t.length cb) ckA; have bq2 := hb1.at (p := ⟨w.heap.size, 2, none⟩) (v := .int .i64 cap) ckA; have bq3 := hb1.at (p := ⟨w.heap.size, 3, none⟩) (v := .bool dn) ckA; have bq4 := hb1.at (p := ⟨w.heap.size, 4, none⟩) (v := .slice C p.length cc) ckA; have bq5 := hb1.at (p := ⟨w.heap.size, 5, none⟩) (v := .slice D q.length cd) ckA; have bq6 := hb1.at (p := ⟨w.heap.size, 6, none⟩) (v := .int .i64 cep) ckA; have bq7 := hb1.at (p := ⟨w.heap.size, 7, none⟩) (v := .bool dm) ckA; have bq8 := hb1.at (p := ⟨w.heap.size, 8, none⟩) (v := .int .i64 n) ckA
  have nba := fun (o : Obj) (j : Nat) => World.cell?_alloc_lt w1 o ⟨w.heap.size, j, none⟩ (by simp only; omega)
  have nbb := fun (o : Obj) (j : Nat) => ((Ab.refl w1).alloc o).frozen (p := ⟨w.heap.size, j, none⟩) (by simp only; omega)
  go_wp2_with fail
  refine (srcheckpoint_any C D cc cd p q cep dm _ (h.c.ab abA) (h.d.ab abA) h.lc h.ld HB.out 1).mono ?_
  rintro e w2 ⟨r2, ok2, X2, c2, h2, rfl, hX2, hc2, hv2, hb2⟩
  have zz2 := hb2.size
  simp at zz2
  have hzz : Ab ((w.alloc (.cells #[.slice A s.length ca, .slice B t.length cb, .int .i64 cap, .bool dn, .slice C p.length cc, .slice D q.length cd, .int .i64 cep, .bool dm, .int .i64 n] 27)).alloc (.cells #[.int .i64 0, .slice none 0 0] 108)) w2 := abA
  have zq0 := hzz.at (p := ⟨w.heap.size + 1, 0, none⟩) (v := .int .i64 0) (by simp [go_sem])
  have zq1 := hzz.at (p := ⟨w.heap.size + 1, 1, none⟩) (v := .slice none 0 0) (by simp [go_sem])
  have zr0 : w2.frozen? ⟨w.heap.size + 1, 0, none⟩ = false := (hzz.frozen (p := ⟨w.heap.size + 1, 0, none⟩) wnA).trans (by simp [go_sem])
  have zr1 : w2.frozen? ⟨w.heap.size + 1, 1, none⟩ = false := (hzz.frozen (p := ⟨w.heap.size + 1, 1, none⟩) wnA).trans (by simp [go_sem])
  have y0 := hb2.at (p := ⟨w1.heap.size, 0, none⟩) (v := .int .i64 r1.num) (by simp [go_sem])
  have y1 := hb2.at (p := ⟨w1.heap.size, 1, none⟩) (v := .slice X1 r1.data.length c1) (by simp [go_sem])
  have nza := fun (o : Obj) (j : Nat) => World.cell?_alloc_lt w2 o ⟨w.heap.size + 1, j, none⟩ (by simp only; omega)
  have nzb := fun (o : Obj) (j : Nat) => ((Ab.refl w2).alloc o).frozen (p := ⟨w.heap.size + 1, j, none⟩) (by simp only; omega)
  have nya := fun (o : Obj) (j : Nat) => World.cell?_alloc_lt w2 o ⟨w1.heap.size, j, none⟩ (by simp only; omega)
  have nyb := fun (o : Obj) (j : Nat) => ((Ab.refl w2).alloc o).frozen (p := ⟨w1.heap.size, j, none⟩) (by simp only; omega)
  have hp1 : RB w2 (w.heap.size + 1 + 1) X1 r1.data := (hX1.mono (show w.heap.size + 1 + 1 ≤ _ by simp)).ab (((Ab.refl w1).alloc _).trans hb2)
  have hp2 : RB w2 (w.heap.size + 1 + 1) X2 r2.data := hX2.mono (by first | omega | (simp; omega))
  have hne1 : w.heap.size + 1 ≠ w2.heap.size := by omega
  have hne2 : w.heap.size + 1 ≠ w1.heap.size := by omega
  have hne3 : w1.heap.size ≠ w2.heap.size := by omega
  have hne4 : w1.heap.size ≠ w.heap.size + 1 := by omega
  have hne5 : w2.heap.size ≠ w.heap.size + 1 := by omega
  have b2 : Ab w w2 := abA
  have hal : ∀ o, Ab w2 (w2.alloc o) := fun o => (Ab.refl w2).alloc o
  clear hX1 hX2
  cases ok1 with
  | false =>
    have HM := Lib.hid (show (if ok2 = true then some r2 else none) = Slots.newest ⟨⟨s, t, cap, dn⟩, ⟨p, q, cep, dm⟩, n⟩ by unfold Slots.newest; rw [← h1.out, h2.out]; rfl)
    go_wp2
    refine bodyPost_ret (v := .tuple #[.agg #[.int .i64 r2.num, .slice X2 r2.data.length c2], .bool ok2]) (by simp [results, Tryz.results61, go_sem, *]) rfl ?_
    exact ⟨r2, ok2, X2, c2, HM, rfl, (((hp2.ab (hal _)).put wnA _).put wnA _).mono (by omega), hc2, hv2, abA⟩
  | true =>
    cases ok2 with
    | false =>
      have HM := Lib.hid (show (if true = true then some r1 else none) = Slots.newest ⟨⟨s, t, cap, dn⟩, ⟨p, q, cep, dm⟩, n⟩ by unfold Slots.newest; rw [← h1.out, ← h2.out]; rfl)
      go_wp2
      refine bodyPost_ret (v := .tuple #[.agg #[.int .i64 r1.num, .slice X1 r1.data.length c1], .bool true]) (by simp [results, Tryz.results61, go_sem, *]) rfl ?_
      exact ⟨r1, true, X1, c1, HM, rfl, (((hp1.ab (hal _)).put wnA _).put wnA _).mono (by omega), hc1, by simpa using hv1, abA⟩
    | true =>
      by_cases hlt : r1.num < r2.num
      · have HM := Lib.hid (show (if true = true then some r2 else none) = Slots.newest ⟨⟨s, t, cap, dn⟩, ⟨p, q, cep, dm⟩, n⟩ by unfold Slots.newest; rw [← h1.out, ← h2.out]; exact (if_pos hlt).symm)
        have hlt' : decide (r1.num < r2.num) = true := by simpa using hlt
        clear hlt
        go_wp2
        refine bodyPost_ret (v := .tuple #[.agg #[.int .i64 r2.num, .slice X2 r2.data.length c2], .bool true]) (by simp [results, Tryz.results61, go_sem, *]) rfl ?_
        exact ⟨r2, true, X2, c2, HM, rfl, (((hp2.ab (hal _)).put wnA _).put wnA _).mono (by omega), hc2, by simpa using hv2, abA⟩
      · have HM := Lib.hid (show (if true = true then some r1 else none) = Slots.newest ⟨⟨s, t, cap, dn⟩, ⟨p, q, cep, dm⟩, n⟩ by unfold Slots.newest; rw [← h1.out, ← h2.out]; exact (if_neg hlt).symm)
        have hlt' : decide (r1.num < r2.num) = false := by simpa using hlt
        clear hlt
        go_wp2
        refine bodyPost_ret (v := .tuple #[.agg #[.int .i64 r1.num, .slice X1 r1.data.length c1], .bool true]) (by simp [results, Tryz.results61, go_sem, *]) rfl ?_
        exact ⟨r1, true, X1, c1, HM, rfl, (((hp1.ab (hal _)).put wnA _).put wnA _).mono (by omega), hc1, by simpa using hv1, abA⟩
end Go.Proofs.YthgcfjhnnhigoaaGreat

/- Stepped of the reference of layer 5, walked. Own work. -/
namespace Go.Proofs.YthgcfjhnnhigoaaGreat
open Go.RowKit
open Slots (Sl)
open Disk (Dev)

/-- The device on which steps are done, in block b. -/
def StepSt (w wx : World) (m : AM) (r : Sl) (b : Nat) (d : Dev) : Prop :=
  SlB wx w.heap.size m r ∧ SlB wx (w.heap.size + 1) AM.nil Slots.zero ∧ w.heap.size + 1 + 1 ≤ b ∧ Ab w wx ∧ Slots.Small d ∧
    ∃ (D E : Option Addr) (cd ce : Nat),
      (wx.cell? ⟨b, 0, none⟩ = some (.slice D d.s.length cd) ∧ wx.cell? ⟨b, 1, none⟩ = some (.slice E d.t.length ce) ∧ wx.cell? ⟨b, 2, none⟩ = some (.int .i64 d.cap) ∧ wx.cell? ⟨b, 3, none⟩ = some (.bool d.down) ∧
        wx.frozen? ⟨b, 0, none⟩ = false ∧ wx.frozen? ⟨b, 1, none⟩ = false ∧ wx.frozen? ⟨b, 2, none⟩ = false ∧ wx.frozen? ⟨b, 3, none⟩ = false) ∧
      RB wx (w.heap.size + 1 + 1) D d.s ∧ RB wx (w.heap.size + 1 + 1) E d.t ∧ d.s.length ≤ cd ∧ d.t.length ≤ ce

theorem StepSt.start {w w1 : World} {m : AM} {r : Sl} {d : Dev} (hv1 : SlB w1 w.heap.size m r) (hz1 : SlB w1 (w.heap.size + 1) AM.nil Slots.zero) (zz1 : w.heap.size + 1 + 1 ≤ w1.heap.size) (b1 : Ab w w1) (hs : Slots.Small d)
    {D E : Option Addr} {cd ce : Nat} (h1 : RB w1 (w.heap.size + 1 + 1) D d.s) (h2 : RB w1 (w.heap.size + 1 + 1) E d.t) (l1 : d.s.length ≤ cd) (l2 : d.t.length ≤ ce) :
    StepSt w (w1.alloc (.cells #[.slice D d.s.length cd, .slice E d.t.length ce, .int .i64 d.cap, .bool d.down] 24)) m r w1.heap.size d :=
  ⟨hv1.ab ((Ab.refl w1).alloc _), hz1.ab ((Ab.refl w1).alloc _), zz1, b1.alloc _, hs, D, E, cd, ce, ⟨by simp [go_sem], by simp [go_sem], by simp [go_sem], by simp [go_sem], by simp [go_sem], by simp [go_sem], by simp [go_sem], by simp [go_sem]⟩,
    h1.ab ((Ab.refl w1).alloc _), h2.ab ((Ab.refl w1).alloc _), l1, l2⟩
theorem SlB.put {w : World} {b c : Nat} {m : AM} {r : Sl} (h : SlB w b m r) (hne : b ≠ c) (o : Nat) (v : Value) : SlB (w.setCell ⟨c, o, none⟩ v) b m r := by
  obtain ⟨vq0, vq1, vq2, vq3, vq4, vq5, vq6, vq7, vq8, vg0, vg1, vg2, vg3, vg4, vg5, vg6, vg7, vg8⟩ := h
  (try simp only [AM.nil, Slots.zero, Disk.zero, List.length_nil] at vq0 vq1 vq2 vq3 vq4 vq5 vq6 vq7 vq8)
  exact ⟨(by simp [go_sem, *]), (by simp [go_sem, *]), (by simp [go_sem, *]), (by simp [go_sem, *]), (by simp [go_sem, *]), (by simp [go_sem, *]), (by simp [go_sem, *]), (by simp [go_sem, *]), (by simp [go_sem, *]), (by simp [go_sem, *]), (by simp [go_sem, *]), (by simp [go_sem, *]), (by simp [go_sem, *]), (by simp [go_sem, *]), (by simp [go_sem, *]), (by simp [go_sem, *]), (by simp [go_sem, *]), (by simp [go_sem, *])⟩
theorem StepSt.store {w wx w2 : World} {m : AM} {r : Sl} {b : Nat} {d r2 : Dev} (h : StepSt w wx m r b d) (hb : Ab wx w2) (hs : Slots.Small r2)
    {D E : Option Addr} {cd ce : Nat} (h1 : RB w2 wx.heap.size D r2.s) (h2 : RB w2 wx.heap.size E r2.t) (l1 : r2.s.length ≤ cd) (l2 : r2.t.length ≤ ce) :
    StepSt w ((((w2.setCell ⟨b, 0, none⟩ (.slice D r2.s.length cd)).setCell ⟨b, 1, none⟩ (.slice E r2.t.length ce)).setCell ⟨b, 2, none⟩ (.int .i64 r2.cap)).setCell ⟨b, 3, none⟩ (.bool r2.down)) m r b r2 := by
  obtain ⟨hv, hz, hlt, hab, _, D1, E1, c1, c2, ⟨q0, q1, q2, q3, g0, g1, g2, g3⟩, _, _, _, _⟩ := h
  have hbx : b < wx.heap.size := cell_lt q0
  have b2 := hab.trans hb
  have q0 := hb.at q0
  have q1 := hb.at q1
  have q2 := hb.at q2
  have q3 := hb.at q3
  have g0 := hb.fr hbx g0
  have g1 := hb.fr hbx g1
  have g2 := hb.fr hbx g2
  have g3 := hb.fr hbx g3
  refine ⟨((((hv.ab hb).put (by omega) _ _).put (by omega) _ _).put (by omega) _ _).put (by omega) _ _, ((((hz.ab hb).put (by omega) _ _).put (by omega) _ _).put (by omega) _ _).put (by omega) _ _, hlt, (((b2.set (by simp only; omega) _).set (by simp only; omega) _).set (by simp only; omega) _).set (by simp only; omega) _, hs, D, E, cd, ce, ?_, ?_, ?_, l1, l2⟩
  · exact ⟨(by simp [go_sem, *]), (by simp [go_sem, *]), (by simp [go_sem, *]), (by simp [go_sem, *]), (by simp [go_sem, *]), (by simp [go_sem, *]), (by simp [go_sem, *]), (by simp [go_sem, *])⟩
  · exact ((((h1.put hbx _).put hbx _).put hbx _).put hbx _).mono (by omega)
  · exact ((((h2.put hbx _).put hbx _).put hbx _).put hbx _).mono (by omega)

set_option maxHeartbeats 4000000 in
set_option maxRecDepth 100000 in
theorem srstepped_any (m : AM) (r : Sl) (w : World) (h : SlM w 0 m r) (X : Option Addr) (b : List UInt8) (cx : Nat) (hx : RB w 0 X b) (hcx : b.length ≤ cx) (hask : Slots.asked r b = 0) (k : Int) :
    Calls Tryz.prog 90 #[.agg #[.slice m.A r.a.s.length m.ca, .slice m.B r.a.t.length m.cb, .int .i64 r.a.cap, .bool r.a.down, .slice m.C r.b.s.length m.cc, .slice m.D r.b.t.length m.cd, .int .i64 r.b.cap, .bool r.b.down, .int .i64 r.n], .slice X b.length cx, .int .i64 k] w (RetSl w (r.put (Slots.wr r.cur (Frame.enc ⟨r.n, b⟩) k) r.oth r.n)) := by
  obtain ⟨A, B, C, D, ca, cb, cc, cd⟩ := m
  obtain ⟨⟨s, t, cap, dn⟩, ⟨p, q, cep, dm⟩, n⟩ := r
  dsimp only
  have hg := Slots.asked_good hask
  simp only at hg
  have hn0 : 0 ≤ n := by have := hg.1.lo; simp only at this; omega
  have HG := Lib.hid hg
  have HV := Lib.hid (show Frame.Valid ⟨n, b⟩ from ⟨hn0, hg.2.2.1, hg.2.1⟩)
  clear hg hask
  rcases Int.emod_two_eq n with hp0 | hp0
  · have ht0 : n.tmod 2 = 0 := by rw [Int.tmod_eq_emod_of_nonneg hn0]; exact hp0
    have HP := Lib.hid hp0
    go_enter Tryz.func90, Tryz.ntmps90
    go_wp2_with fail
    refine (twin_any A B ca cb s t cap dn _ (h.a.ab abA) (h.b.ab abA) h.la h.lb h.sa h.sb).mono ?_
    rintro e w1 ⟨r1, D1, E1, d1, e1, hr1, rfl, o1, o2, hb1⟩
    go_upto_if 17 with fail
    have hz1 := (SlB.box (w := (w.alloc (.cells #[.slice A s.length ca, .slice B t.length cb, .int .i64 cap, .bool dn, .slice C p.length cc, .slice D q.length cd, .int .i64 cep, .bool dm, .int .i64 n] 27)).alloc (.cells #[.slice none 0 0, .slice none 0 0, .int .i64 0, .bool false, .slice none 0 0, .slice none 0 0, .int .i64 0, .bool false, .int .i64 0] 27)) (b := w.heap.size + 1) (m := AM.nil) (r := Slots.zero) (new_plain (by simp))).ab hb1
    have hv1 := (SlB.box (w := (w.alloc (.cells #[.slice A s.length ca, .slice B t.length cb, .int .i64 cap, .bool dn, .slice C p.length cc, .slice D q.length cd, .int .i64 cep, .bool dm, .int .i64 n] 27)).alloc (.cells #[.slice none 0 0, .slice none 0 0, .int .i64 0, .bool false, .slice none 0 0, .slice none 0 0, .int .i64 0, .bool false, .int .i64 0] 27)) (b := w.heap.size) (m := (⟨A, B, C, D, ca, cb, cc, cd⟩ : AM)) (r := (⟨⟨s, t, cap, dn⟩, ⟨p, q, cep, dm⟩, n⟩ : Sl)) (old_alloc (new_plain rfl))).ab hb1
    have zz1 : w.heap.size + 1 + 1 ≤ w1.heap.size := by have := hb1.size; simpa using this
    have b1 : Ab w w1 := abA
    have HSM : Slots.Small r1 := by rw [hr1.out]; exact ⟨h.sa, h.sb⟩
    have hStart : StepSt w (w1.alloc (.cells #[.slice D1 r1.s.length d1, .slice E1 r1.t.length e1, .int .i64 r1.cap, .bool r1.down] 24)) (⟨A, B, C, D, ca, cb, cc, cd⟩ : AM) (⟨⟨s, t, cap, dn⟩, ⟨p, q, cep, dm⟩, n⟩ : Sl) w1.heap.size r1 :=
      StepSt.start hv1 hz1 zz1 b1 HSM (o1.rb.mono (by simp)) (o2.rb.mono (by simp)) o1.le o2.le
    have HSM := Lib.hid HSM
    go_cut [18] (fun _ wx => StepSt w wx (⟨A, B, C, D, ca, cb, cc, cd⟩ : AM) (⟨⟨s, t, cap, dn⟩, ⟨p, q, cep, dm⟩, n⟩ : Sl) w1.heap.size (Slots.wr1 ⟨s, t, cap, dn⟩ k))
    case first =>
      by_cases h1 : 1 ≤ k
      · have c1 : decide (0 < k) = true := by simp; omega
        have HW := Lib.hid (show Slots.wr1 ⟨s, t, cap, dn⟩ k = (Disk.truncate ⟨s, t, cap, dn⟩ 0).1 from if_pos h1)
        have HR := Lib.hid hr1.out
        refine wp_cond (t := true) (by first | rfl | (simp [Act.eval]; done) | (simp [Act.eval]; omega)) ?_
        clear h1
        conv => arg 2; whnf
        go_wp2_with fail
        refine (refTruncate_any D1 E1 d1 e1 r1.s r1.t r1.cap r1.down _ (o1.rb.zero.ab abA) (o2.rb.zero.ab abA) o1.le o2.le HSM.out.1 HSM.out.2 0).mono ?_
        rintro e w2 ⟨r2, er2, D2, E2, d2, e2, hr2, rfl, o3, o4, hb2⟩
        have hr2' := Lib.hid (show r2 = Slots.wr1 ⟨s, t, cap, dn⟩ k by rw [HW.out, ← HR.out]; exact congrArg Prod.fst hr2.out)
        have HS := hStart
        obtain ⟨_, _, _, _, _, _, _, _, _, ⟨q0, q1, q2, q3, g0, g1, g2, g3⟩, _, _, _, _⟩ := HS
        have g0 := hb2.fr (cell_lt q0) g0
        have g1 := hb2.fr (cell_lt q1) g1
        have g2 := hb2.fr (cell_lt q2) g2
        have g3 := hb2.fr (cell_lt q3) g3
        have q0 := hb2.at q0
        have q1 := hb2.at q1
        have q2 := hb2.at q2
        have q3 := hb2.at q3
        go_wp2_with fail
        go_meet
        rw [← hr2'.out]
        exact StepSt.store hStart hb2 (by rw [show r2 = _ from congrArg Prod.fst hr2.out]; exact Slots.small_trunc 0 HSM.out) o3.rb o4.rb o3.le o4.le
      · have c1 : decide (0 < k) = false := by simp; omega
        have HW := Lib.hid (show Slots.wr1 ⟨s, t, cap, dn⟩ k = ⟨s, t, cap, dn⟩ from if_neg h1)
        have HR := Lib.hid hr1.out
        refine wp_cond (t := false) (by first | rfl | (simp [Act.eval]; done) | (simp [Act.eval]; omega)) ?_
        clear h1
        conv => arg 2; whnf
        go_wp2_with fail
        go_meet
        rw [HW.out.trans HR.out.symm]
        exact hStart
    case rest =>
      have hcut1 := hcut
      clear hcut
      generalize hd1 : Slots.wr1 ⟨s, t, cap, dn⟩ k = u1 at hcut1
      have HD1 := Lib.hid hd1
      clear hd1
      go_upto_if 24 with fail
      go_cut [25] (fun _ wx => StepSt w wx (⟨A, B, C, D, ca, cb, cc, cd⟩ : AM) (⟨⟨s, t, cap, dn⟩, ⟨p, q, cep, dm⟩, n⟩ : Sl) w1.heap.size (Slots.wr2 u1 (Frame.enc ⟨n, b⟩) k))
      case first =>
        by_cases h2 : 2 ≤ k
        · have HW := Lib.hid (show Slots.wr2 u1 (Frame.enc ⟨n, b⟩) k = (Disk.append u1 (Frame.enc ⟨n, b⟩)).1 from if_pos h2)
          refine wp_cond (t := true) (by first | rfl | (simp [Act.eval]; done) | (simp [Act.eval]; omega)) ?_
          clear h2
          conv => arg 2; whnf
          have HS := hcut1
          obtain ⟨hv2, hz2, _, hab2, hsm2, D2, E2, d2, e2, ⟨q0, q1, q2, q3, g0, g1, g2, g3⟩, p1, p2, l1, l2⟩ := HS
          have bq := hv2.q8
          have HSM2 := Lib.hid hsm2
          clear hv2 hz2 hsm2
          refine wp_region_held_drew (by kernel_rfl) (S := fun w' => w'.cell? ⟨w.heap.size, 8, none⟩ = some (.int .i64 n)) ?_ (fun hHeld => ?_)
          · exact ckA
          (refine wpAnyH_take (i := 1) (v := ?_) rfl (by kernel_rfl) (by kernel_rfl) (by kernel_rfl) (fun _ _ _ h => h) (Or.inl ⟨by kernel_rfl, ?_⟩) (by assumption) ?_
           rotate_left
           · (intro w hSw; (try dsimp only at hSw); go_simp; (try with_reducible rfl))
           (try simp only [Act.put, stA, st0, st1]))
          (refine wpAnyH_take (i := 2) (v := ?_) rfl (by kernel_rfl) (by kernel_rfl) (by kernel_rfl) (fun _ _ _ h => h) (Or.inl ⟨by kernel_rfl, ?_⟩) (by assumption) ?_
           rotate_left
           · (intro w hSw; (try dsimp only at hSw); go_simp; (try with_reducible rfl))
           (try simp only [Act.put, stA, st0, st1]))
          (refine wpAnyH_take (i := 3) (v := ?_) rfl (by kernel_rfl) (by kernel_rfl) (by kernel_rfl) (fun _ _ _ h => h) (Or.inl ⟨by kernel_rfl, ?_⟩) (by assumption) ?_
           rotate_left
           · (intro w hSw; (try dsimp only at hSw); go_simp; (try with_reducible rfl))
           (try simp only [Act.put, stA, st0, st1]))
          (refine wpAnyH_take (i := 4) (v := ?_) rfl (by kernel_rfl) (by kernel_rfl) (by kernel_rfl) (fun _ _ _ h => h) (Or.inl ⟨by kernel_rfl, ?_⟩) (by assumption) ?_
           rotate_left
           · (intro w hSw; (try dsimp only at hSw); go_simp; (try with_reducible rfl))
           (try simp only [Act.put, stA, st0, st1]))
          (refine wpAnyH_ready (rs := [0, 5]) (by kernel_rfl) (by simp) ?_)
          refine AllReadyH.cons rfl (fun K hK => ?_) (AllReadyH.cons rfl (fun K hK => ?_) AllReadyH.nil)
          · (go_simp
             (refine hK.out _ _ ?_ (fun hHeld => ?_)
              · (try dsimp only); exact ckA
              clear hK K
              (try simp only [Act.put, stA, st0, st1])))
            (refine wpAnyH_ready (rs := [5]) (by kernel_rfl) (by simp) ?_)
            refine AllReadyH.cons rfl (fun K hK => ?_) AllReadyH.nil
            (go_simp
             (go_at_call 81
              refine (bytes_any n X b cx _ HV.out (hx.ab abA) hcx).mono ?_
              rintro e w3 ⟨E3, c3, L, hE, rfl, oE, hb3⟩
              have hb3 : Ab wc w3 := ((Ab.refl wc).drew).trans hb3)
             (try go_wp2_with fail)
             (refine hK.out _ _ ?_ (fun hHeld => ?_)
              · (try dsimp only); exact ckA
              clear hK K
              (try simp only [Act.put, stA, st0, st1])))
            have g0 := hb3.fr (cell_lt q0) g0
            have g1 := hb3.fr (cell_lt q1) g1
            have g2 := hb3.fr (cell_lt q2) g2
            have g3 := hb3.fr (cell_lt q3) g3
            have q0 := hb3.at q0
            have q1 := hb3.at q1
            have q2 := hb3.at q2
            have q3 := hb3.at q3
            (refine wpAnyH_ready (rs := [6]) (by kernel_rfl) (by simp) ?_)
            refine AllReadyH.cons rfl (fun K hK => ?_) AllReadyH.nil
            (go_simp
             (go_at_call 80
              refine (refAppend_any D2 E2 d2 e2 u1.s u1.t u1.cap u1.down _ (p1.ab hb3).zero (p2.ab hb3).zero l1 l2 HSM2.out.1 HSM2.out.2 E3 c3 L oE.rb.zero oE.le (by rw [hE.out, Frame.enc_length]; have := HV.out.2.2; simp only at this ⊢; omega)).mono ?_
              rintro e w4 ⟨r2, er2, D4, E4, d4, e4, hr2, rfl, o3, o4, hb4⟩)
             (try go_wp2_with fail)
             (refine hK.out _ _ ?_ (fun hHeld => ?_)
              · (try dsimp only); exact ckA
              clear hK K
              (try simp only [Act.put, stA, st0, st1])))
            have g0 := hb4.fr (cell_lt q0) g0
            have g1 := hb4.fr (cell_lt q1) g1
            have g2 := hb4.fr (cell_lt q2) g2
            have g3 := hb4.fr (cell_lt q3) g3
            have q0 := hb4.at q0
            have q1 := hb4.at q1
            have q2 := hb4.at q2
            have q3 := hb4.at q3
            (refine wpAnyH_take (i := 7) (v := ?_) rfl (by kernel_rfl) (by kernel_rfl) (by kernel_rfl) (fun _ _ _ h => h) (Or.inl ⟨by kernel_rfl, ?_⟩) (by assumption) ?_
             rotate_left
             · (intro w hSw; (try dsimp only at hSw); go_simp; (try with_reducible rfl))
             (try simp only [Act.put, stA, st0, st1]))
            (refine wpAnyH_take (i := 8) (v := ?_) rfl (by kernel_rfl) (by kernel_rfl) (by kernel_rfl) (fun _ _ _ h => h) (Or.inl ⟨by kernel_rfl, ?_⟩) (by assumption) ?_
             rotate_left
             · (intro w hSw; (try dsimp only at hSw); go_simp; (try with_reducible rfl))
             (try simp only [Act.put, stA, st0, st1]))
            (refine wpAnyH_take (i := 9) (v := ?_) rfl (by kernel_rfl) (by kernel_rfl) (by kernel_rfl) (fun _ _ _ h => h) (Or.inl ⟨by kernel_rfl, ?_⟩) (by assumption) ?_
             rotate_left
             · (intro w hSw; (try dsimp only at hSw); go_simp; (try with_reducible rfl))
             (try simp only [Act.put, stA, st0, st1]))
            have hne8 : w.heap.size ≠ w1.heap.size := by omega
            (refine wpAnyH_ready (rs := [10]) (by kernel_rfl) (by simp) ?_)
            refine AllReadyH.cons rfl (fun K hK => ?_) AllReadyH.nil
            (go_simp
             (refine hK.out _ _ ?_ (fun hHeld => ?_)
              · (try dsimp only); exact ckA
              clear hK K
              (try simp only [Act.put, stA, st0, st1])))
            refine wpAnyH_done (by kernel_rfl) ?_ _
            go_wp2_with fail
            go_meet
            have hr2' : r2 = Slots.wr2 u1 (Frame.enc ⟨n, b⟩) k := by rw [HW.out, ← hE.out]; exact congrArg Prod.fst hr2.out
            rw [← hr2']
            exact StepSt.store hcut1 (hb3.trans hb4) (by rw [show r2 = _ from congrArg Prod.fst hr2.out]; exact Slots.small_app _ HSM2.out) (o3.rb.mono hb3.size) (o4.rb.mono hb3.size) o3.le o4.le
          · (go_simp
             (go_at_call 81
              refine (bytes_any n X b cx _ HV.out (hx.ab abA) hcx).mono ?_
              rintro e w3 ⟨E3, c3, L, hE, rfl, oE, hb3⟩
              have hb3 : Ab wc w3 := ((Ab.refl wc).drew).trans hb3)
             (try go_wp2_with fail)
             (refine hK.out _ _ ?_ (fun hHeld => ?_)
              · (try dsimp only); exact ckA
              clear hK K
              (try simp only [Act.put, stA, st0, st1])))
            have g0 := hb3.fr (cell_lt q0) g0
            have g1 := hb3.fr (cell_lt q1) g1
            have g2 := hb3.fr (cell_lt q2) g2
            have g3 := hb3.fr (cell_lt q3) g3
            have q0 := hb3.at q0
            have q1 := hb3.at q1
            have q2 := hb3.at q2
            have q3 := hb3.at q3
            (refine wpAnyH_ready (rs := [0]) (by kernel_rfl) (by simp) ?_)
            refine AllReadyH.cons rfl (fun K hK => ?_) AllReadyH.nil
            (go_simp
             (refine hK.out _ _ ?_ (fun hHeld => ?_)
              · (try dsimp only); exact ckA
              clear hK K
              (try simp only [Act.put, stA, st0, st1])))
            (refine wpAnyH_ready (rs := [6]) (by kernel_rfl) (by simp) ?_)
            refine AllReadyH.cons rfl (fun K hK => ?_) AllReadyH.nil
            (go_simp
             (go_at_call 80
              refine (refAppend_any D2 E2 d2 e2 u1.s u1.t u1.cap u1.down _ (p1.ab hb3).zero (p2.ab hb3).zero l1 l2 HSM2.out.1 HSM2.out.2 E3 c3 L oE.rb.zero oE.le (by rw [hE.out, Frame.enc_length]; have := HV.out.2.2; simp only at this ⊢; omega)).mono ?_
              rintro e w4 ⟨r2, er2, D4, E4, d4, e4, hr2, rfl, o3, o4, hb4⟩)
             (try go_wp2_with fail)
             (refine hK.out _ _ ?_ (fun hHeld => ?_)
              · (try dsimp only); exact ckA
              clear hK K
              (try simp only [Act.put, stA, st0, st1])))
            have g0 := hb4.fr (cell_lt q0) g0
            have g1 := hb4.fr (cell_lt q1) g1
            have g2 := hb4.fr (cell_lt q2) g2
            have g3 := hb4.fr (cell_lt q3) g3
            have q0 := hb4.at q0
            have q1 := hb4.at q1
            have q2 := hb4.at q2
            have q3 := hb4.at q3
            (refine wpAnyH_take (i := 7) (v := ?_) rfl (by kernel_rfl) (by kernel_rfl) (by kernel_rfl) (fun _ _ _ h => h) (Or.inl ⟨by kernel_rfl, ?_⟩) (by assumption) ?_
             rotate_left
             · (intro w hSw; (try dsimp only at hSw); go_simp; (try with_reducible rfl))
             (try simp only [Act.put, stA, st0, st1]))
            (refine wpAnyH_take (i := 8) (v := ?_) rfl (by kernel_rfl) (by kernel_rfl) (by kernel_rfl) (fun _ _ _ h => h) (Or.inl ⟨by kernel_rfl, ?_⟩) (by assumption) ?_
             rotate_left
             · (intro w hSw; (try dsimp only at hSw); go_simp; (try with_reducible rfl))
             (try simp only [Act.put, stA, st0, st1]))
            (refine wpAnyH_take (i := 9) (v := ?_) rfl (by kernel_rfl) (by kernel_rfl) (by kernel_rfl) (fun _ _ _ h => h) (Or.inl ⟨by kernel_rfl, ?_⟩) (by assumption) ?_
             rotate_left
             · (intro w hSw; (try dsimp only at hSw); go_simp; (try with_reducible rfl))
             (try simp only [Act.put, stA, st0, st1]))
            have hne8 : w.heap.size ≠ w1.heap.size := by omega
            (refine wpAnyH_ready (rs := [10]) (by kernel_rfl) (by simp) ?_)
            refine AllReadyH.cons rfl (fun K hK => ?_) AllReadyH.nil
            (go_simp
             (refine hK.out _ _ ?_ (fun hHeld => ?_)
              · (try dsimp only); exact ckA
              clear hK K
              (try simp only [Act.put, stA, st0, st1])))
            refine wpAnyH_done (by kernel_rfl) ?_ _
            go_wp2_with fail
            go_meet
            have hr2' : r2 = Slots.wr2 u1 (Frame.enc ⟨n, b⟩) k := by rw [HW.out, ← hE.out]; exact congrArg Prod.fst hr2.out
            rw [← hr2']
            exact StepSt.store hcut1 (hb3.trans hb4) (by rw [show r2 = _ from congrArg Prod.fst hr2.out]; exact Slots.small_app _ HSM2.out) (o3.rb.mono hb3.size) (o4.rb.mono hb3.size) o3.le o4.le
        · have HW := Lib.hid (show Slots.wr2 u1 (Frame.enc ⟨n, b⟩) k = u1 from if_neg h2)
          refine wp_cond (t := false) (by first | rfl | (simp [Act.eval]; done) | (simp [Act.eval]; omega)) ?_
          clear h2
          conv => arg 2; whnf
          go_wp2_with fail
          go_meet
          rw [HW.out]
          exact hcut1
      case rest =>
        have hcut2 := hcut
        clear hcut hcut1
        generalize hd2 : Slots.wr2 u1 (Frame.enc ⟨n, b⟩) k = u2 at hcut2
        have HD2 := Lib.hid hd2
        clear hd2
        go_upto_if 36 with fail
        go_cut [37] (fun _ wx => StepSt w wx (⟨A, B, C, D, ca, cb, cc, cd⟩ : AM) (⟨⟨s, t, cap, dn⟩, ⟨p, q, cep, dm⟩, n⟩ : Sl) w1.heap.size (Slots.wr3 u2 k))
        case first =>
          by_cases h3 : 3 ≤ k
          · have HW := Lib.hid (show Slots.wr3 u2 k = (Disk.sync u2).1 from if_pos h3)
            refine wp_cond (t := true) (by first | rfl | (simp [Act.eval]; done) | (simp [Act.eval]; omega)) ?_
            clear h3
            conv => arg 2; whnf
            have HS := hcut2
            obtain ⟨_, _, _, hab2, hsm2, D2, E2, d2, e2, ⟨q0, q1, q2, q3, g0, g1, g2, g3⟩, p1, p2, l1, l2⟩ := HS
            have HSM2 := Lib.hid hsm2
            clear hsm2
            go_wp2_with fail
            refine (refSync_any D2 E2 d2 e2 u2.s u2.t u2.cap u2.down _ p1.zero p2.zero l1 l2 HSM2.out.1 HSM2.out.2).mono ?_
            rintro e w2 ⟨r2, er2, D4, E4, d4, e4, hr2, rfl, o3, o4, hb2⟩
            have hr2' := Lib.hid (show r2 = Slots.wr3 u2 k by rw [HW.out]; exact congrArg Prod.fst hr2.out)
            clear q0 q1 q2 q3 g0 g1 g2 g3
            have HS := hcut2
            obtain ⟨_, _, _, _, _, _, _, _, _, ⟨q0, q1, q2, q3, g0, g1, g2, g3⟩, _, _, _, _⟩ := HS
            have g0 := hb2.fr (cell_lt q0) g0
            have g1 := hb2.fr (cell_lt q1) g1
            have g2 := hb2.fr (cell_lt q2) g2
            have g3 := hb2.fr (cell_lt q3) g3
            have q0 := hb2.at q0
            have q1 := hb2.at q1
            have q2 := hb2.at q2
            have q3 := hb2.at q3
            go_wp2_with fail
            go_meet
            rw [← hr2'.out]
            exact StepSt.store hcut2 hb2 (by rw [show r2 = _ from congrArg Prod.fst hr2.out]; exact Slots.small_sync HSM2.out) o3.rb o4.rb o3.le o4.le
          · have HW := Lib.hid (show Slots.wr3 u2 k = u2 from if_neg h3)
            refine wp_cond (t := false) (by first | rfl | (simp [Act.eval]; done) | (simp [Act.eval]; omega)) ?_
            clear h3
            conv => arg 2; whnf
            go_wp2_with fail
            go_meet
            rw [HW.out]
            exact hcut2
        case rest =>
          have hcut3 := hcut
          clear hcut hcut2
          generalize hd3 : Slots.wr3 u2 k = u3 at hcut3
          have HD3 := Lib.hid (show u3 = Slots.wr ⟨s, t, cap, dn⟩ (Frame.enc ⟨n, b⟩) k by rw [← hd3, ← HD2.out, ← HD1.out]; rfl)
          clear hd3
          obtain ⟨hv2, hz2, hb7, hab2, hsm2, D2, E2, d2, e2, ⟨q0, q1, q2, q3, g0, g1, g2, g3⟩, p1, p2, l1, l2⟩ := hcut3
          have HSM := Lib.hid hsm2
          clear hsm2
          have HV2 := hv2
          obtain ⟨vq0, vq1, vq2, vq3, vq4, vq5, vq6, vq7, vq8, vg0, vg1, vg2, vg3, vg4, vg5, vg6, vg7, vg8⟩ := hv2
          (try simp only [AM.nil, Slots.zero, Disk.zero, List.length_nil] at vq0 vq1 vq2 vq3 vq4 vq5 vq6 vq7 vq8)
          go_wp2_with fail
          refine (stwin_any (⟨A, B, C, D, ca, cb, cc, cd⟩ : AM) (⟨⟨s, t, cap, dn⟩, ⟨p, q, cep, dm⟩, n⟩ : Sl) _ (h.ab hab2)).mono ?_
          rintro e w5 ⟨r5, m5, hr5, rfl, hM5, hb5⟩
          have HR5 := Lib.hid hr5.out
          have b5 : Ab w w5 := hab2.trans hb5
          have g0 := hb5.fr (cell_lt q0) g0
          have g1 := hb5.fr (cell_lt q1) g1
          have g2 := hb5.fr (cell_lt q2) g2
          have g3 := hb5.fr (cell_lt q3) g3
          have q0 := hb5.at q0
          have q1 := hb5.at q1
          have q2 := hb5.at q2
          have q3 := hb5.at q3
          clear vq0 vq1 vq2 vq3 vq4 vq5 vq6 vq7 vq8 vg0 vg1 vg2 vg3 vg4 vg5 vg6 vg7 vg8
          obtain ⟨vq0, vq1, vq2, vq3, vq4, vq5, vq6, vq7, vq8, vg0, vg1, vg2, vg3, vg4, vg5, vg6, vg7, vg8⟩ := (HV2.ab hb5)
          (try simp only [AM.nil, Slots.zero, Disk.zero, List.length_nil] at vq0 vq1 vq2 vq3 vq4 vq5 vq6 vq7 vq8)
          obtain ⟨zq0, zq1, zq2, zq3, zq4, zq5, zq6, zq7, zq8, zg0, zg1, zg2, zg3, zg4, zg5, zg6, zg7, zg8⟩ := (hz2.ab hb5)
          (try simp only [AM.nil, Slots.zero, Disk.zero, List.length_nil] at zq0 zq1 zq2 zq3 zq4 zq5 zq6 zq7 zq8)
          have ss0 := cell_lt vq0
          have ss1 := cell_lt zq0
          have ss2 := cell_lt q0
          simp only at ss0 ss1 ss2
          have nva := fun (o : Obj) (j : Nat) => World.cell?_alloc_lt w5 o ⟨w.heap.size, j, none⟩ (by simp only; omega)
          have nvb := fun (o : Obj) (j : Nat) => ((Ab.refl w5).alloc o).frozen (p := ⟨w.heap.size, j, none⟩) (by simp only; omega)
          have nza := fun (o : Obj) (j : Nat) => World.cell?_alloc_lt w5 o ⟨w.heap.size + 1, j, none⟩ (by simp only; omega)
          have nzb := fun (o : Obj) (j : Nat) => ((Ab.refl w5).alloc o).frozen (p := ⟨w.heap.size + 1, j, none⟩) (by simp only; omega)
          have nqa := fun (o : Obj) (j : Nat) => World.cell?_alloc_lt w5 o ⟨w1.heap.size, j, none⟩ (by simp only; omega)
          have nqb := fun (o : Obj) (j : Nat) => ((Ab.refl w5).alloc o).frozen (p := ⟨w1.heap.size, j, none⟩) (by simp only; omega)
          have ne1 : w.heap.size ≠ w5.heap.size := by omega
          have ne2 : w.heap.size + 1 ≠ w5.heap.size := by omega
          have ne3 : w1.heap.size ≠ w5.heap.size := by omega
          have p1 := p1.ab hb5
          have p2 := p2.ab hb5
          have hM5 : SlM w5 (w.heap.size + 1 + 1) m5 r5 := hM5.mono (by have := hab2.size; have := cell_lt (hz2.q0); simp only at this; omega)
          have hal : Ab w5 (w5.alloc (.cells #[.slice m5.A r5.a.s.length m5.ca, .slice m5.B r5.a.t.length m5.cb, .int .i64 r5.a.cap, .bool r5.a.down, .slice m5.C r5.b.s.length m5.cc, .slice m5.D r5.b.t.length m5.cd, .int .i64 r5.b.cap, .bool r5.b.down, .int .i64 r5.n] 27)) := (Ab.refl w5).alloc _
          clear hb5 hr5
          go_wp2
          refine bodyPost_ret (v := .agg #[.slice (⟨D2, E2, m5.C, m5.D, d2, e2, m5.cc, m5.cd⟩ : AM).A (⟨u3, r5.b, r5.n⟩ : Sl).a.s.length (⟨D2, E2, m5.C, m5.D, d2, e2, m5.cc, m5.cd⟩ : AM).ca, .slice (⟨D2, E2, m5.C, m5.D, d2, e2, m5.cc, m5.cd⟩ : AM).B (⟨u3, r5.b, r5.n⟩ : Sl).a.t.length (⟨D2, E2, m5.C, m5.D, d2, e2, m5.cc, m5.cd⟩ : AM).cb, .int .i64 (⟨u3, r5.b, r5.n⟩ : Sl).a.cap, .bool (⟨u3, r5.b, r5.n⟩ : Sl).a.down, .slice (⟨D2, E2, m5.C, m5.D, d2, e2, m5.cc, m5.cd⟩ : AM).C (⟨u3, r5.b, r5.n⟩ : Sl).b.s.length (⟨D2, E2, m5.C, m5.D, d2, e2, m5.cc, m5.cd⟩ : AM).cc, .slice (⟨D2, E2, m5.C, m5.D, d2, e2, m5.cc, m5.cd⟩ : AM).D (⟨u3, r5.b, r5.n⟩ : Sl).b.t.length (⟨D2, E2, m5.C, m5.D, d2, e2, m5.cc, m5.cd⟩ : AM).cd, .int .i64 (⟨u3, r5.b, r5.n⟩ : Sl).b.cap, .bool (⟨u3, r5.b, r5.n⟩ : Sl).b.down, .int .i64 (⟨u3, r5.b, r5.n⟩ : Sl).n]) (by simp [results, Tryz.results90, go_sem, *]) rfl ?_
          refine ⟨⟨u3, r5.b, r5.n⟩, ⟨D2, E2, m5.C, m5.D, d2, e2, m5.cc, m5.cd⟩, Lib.hid (by rw [HR5.out, HD3.out]; simp [Slots.Sl.put, Slots.Sl.cur, Slots.Sl.oth, HP.out]), rfl, SlM.mono (lo := w.heap.size + 1 + 1) ⟨?_, ?_, ?_, ?_, l1, l2, hM5.lc, hM5.ld, HSM.out.1, HSM.out.2, hM5.sc, hM5.sd⟩ (by omega), abA⟩
          · with_reducible refine RB.ab ?_ ((Ab.refl _).alloc _)
            (repeat with_reducible refine RB.put ?_ wnA _)
            exact p1
          · with_reducible refine RB.ab ?_ ((Ab.refl _).alloc _)
            (repeat with_reducible refine RB.put ?_ wnA _)
            exact p2
          · with_reducible refine RB.ab ?_ ((Ab.refl _).alloc _)
            (repeat with_reducible refine RB.put ?_ wnA _)
            exact hM5.c
          · with_reducible refine RB.ab ?_ ((Ab.refl _).alloc _)
            (repeat with_reducible refine RB.put ?_ wnA _)
            exact hM5.d
  · have ht0 : n.tmod 2 = 1 := by rw [Int.tmod_eq_emod_of_nonneg hn0]; exact hp0
    have HP := Lib.hid hp0
    go_enter Tryz.func90, Tryz.ntmps90
    go_wp2_with fail
    refine (twin_any C D cc cd p q cep dm _ (h.c.ab abA) (h.d.ab abA) h.lc h.ld h.sc h.sd).mono ?_
    rintro e w1 ⟨r1, D1, E1, d1, e1, hr1, rfl, o1, o2, hb1⟩
    go_upto_if 17 with fail
    have hz1 := (SlB.box (w := (w.alloc (.cells #[.slice A s.length ca, .slice B t.length cb, .int .i64 cap, .bool dn, .slice C p.length cc, .slice D q.length cd, .int .i64 cep, .bool dm, .int .i64 n] 27)).alloc (.cells #[.slice none 0 0, .slice none 0 0, .int .i64 0, .bool false, .slice none 0 0, .slice none 0 0, .int .i64 0, .bool false, .int .i64 0] 27)) (b := w.heap.size + 1) (m := AM.nil) (r := Slots.zero) (new_plain (by simp))).ab hb1
    have hv1 := (SlB.box (w := (w.alloc (.cells #[.slice A s.length ca, .slice B t.length cb, .int .i64 cap, .bool dn, .slice C p.length cc, .slice D q.length cd, .int .i64 cep, .bool dm, .int .i64 n] 27)).alloc (.cells #[.slice none 0 0, .slice none 0 0, .int .i64 0, .bool false, .slice none 0 0, .slice none 0 0, .int .i64 0, .bool false, .int .i64 0] 27)) (b := w.heap.size) (m := (⟨A, B, C, D, ca, cb, cc, cd⟩ : AM)) (r := (⟨⟨s, t, cap, dn⟩, ⟨p, q, cep, dm⟩, n⟩ : Sl)) (old_alloc (new_plain rfl))).ab hb1
    have zz1 : w.heap.size + 1 + 1 ≤ w1.heap.size := by have := hb1.size; simpa using this
    have b1 : Ab w w1 := abA
    have HSM : Slots.Small r1 := by rw [hr1.out]; exact ⟨h.sc, h.sd⟩
    have hStart : StepSt w (w1.alloc (.cells #[.slice D1 r1.s.length d1, .slice E1 r1.t.length e1, .int .i64 r1.cap, .bool r1.down] 24)) (⟨A, B, C, D, ca, cb, cc, cd⟩ : AM) (⟨⟨s, t, cap, dn⟩, ⟨p, q, cep, dm⟩, n⟩ : Sl) w1.heap.size r1 :=
      StepSt.start hv1 hz1 zz1 b1 HSM (o1.rb.mono (by simp)) (o2.rb.mono (by simp)) o1.le o2.le
    have HSM := Lib.hid HSM
    go_cut [18] (fun _ wx => StepSt w wx (⟨A, B, C, D, ca, cb, cc, cd⟩ : AM) (⟨⟨s, t, cap, dn⟩, ⟨p, q, cep, dm⟩, n⟩ : Sl) w1.heap.size (Slots.wr1 ⟨p, q, cep, dm⟩ k))
    case first =>
      by_cases h1 : 1 ≤ k
      · have c1 : decide (0 < k) = true := by simp; omega
        have HW := Lib.hid (show Slots.wr1 ⟨p, q, cep, dm⟩ k = (Disk.truncate ⟨p, q, cep, dm⟩ 0).1 from if_pos h1)
        have HR := Lib.hid hr1.out
        refine wp_cond (t := true) (by first | rfl | (simp [Act.eval]; done) | (simp [Act.eval]; omega)) ?_
        clear h1
        conv => arg 2; whnf
        go_wp2_with fail
        refine (refTruncate_any D1 E1 d1 e1 r1.s r1.t r1.cap r1.down _ (o1.rb.zero.ab abA) (o2.rb.zero.ab abA) o1.le o2.le HSM.out.1 HSM.out.2 0).mono ?_
        rintro e w2 ⟨r2, er2, D2, E2, d2, e2, hr2, rfl, o3, o4, hb2⟩
        have hr2' := Lib.hid (show r2 = Slots.wr1 ⟨p, q, cep, dm⟩ k by rw [HW.out, ← HR.out]; exact congrArg Prod.fst hr2.out)
        have HS := hStart
        obtain ⟨_, _, _, _, _, _, _, _, _, ⟨q0, q1, q2, q3, g0, g1, g2, g3⟩, _, _, _, _⟩ := HS
        have g0 := hb2.fr (cell_lt q0) g0
        have g1 := hb2.fr (cell_lt q1) g1
        have g2 := hb2.fr (cell_lt q2) g2
        have g3 := hb2.fr (cell_lt q3) g3
        have q0 := hb2.at q0
        have q1 := hb2.at q1
        have q2 := hb2.at q2
        have q3 := hb2.at q3
        go_wp2_with fail
        go_meet
        rw [← hr2'.out]
        exact StepSt.store hStart hb2 (by rw [show r2 = _ from congrArg Prod.fst hr2.out]; exact Slots.small_trunc 0 HSM.out) o3.rb o4.rb o3.le o4.le
      · have c1 : decide (0 < k) = false := by simp; omega
        have HW := Lib.hid (show Slots.wr1 ⟨p, q, cep, dm⟩ k = ⟨p, q, cep, dm⟩ from if_neg h1)
        have HR := Lib.hid hr1.out
        refine wp_cond (t := false) (by first | rfl | (simp [Act.eval]; done) | (simp [Act.eval]; omega)) ?_
        clear h1
        conv => arg 2; whnf
        go_wp2_with fail
        go_meet
        rw [HW.out.trans HR.out.symm]
        exact hStart
    case rest =>
      have hcut1 := hcut
      clear hcut
      generalize hd1 : Slots.wr1 ⟨p, q, cep, dm⟩ k = u1 at hcut1
      have HD1 := Lib.hid hd1
      clear hd1
      go_upto_if 24 with fail
      go_cut [25] (fun _ wx => StepSt w wx (⟨A, B, C, D, ca, cb, cc, cd⟩ : AM) (⟨⟨s, t, cap, dn⟩, ⟨p, q, cep, dm⟩, n⟩ : Sl) w1.heap.size (Slots.wr2 u1 (Frame.enc ⟨n, b⟩) k))
      case first =>
        by_cases h2 : 2 ≤ k
        · have HW := Lib.hid (show Slots.wr2 u1 (Frame.enc ⟨n, b⟩) k = (Disk.append u1 (Frame.enc ⟨n, b⟩)).1 from if_pos h2)
          refine wp_cond (t := true) (by first | rfl | (simp [Act.eval]; done) | (simp [Act.eval]; omega)) ?_
          clear h2
          conv => arg 2; whnf
          have HS := hcut1
          obtain ⟨hv2, hz2, _, hab2, hsm2, D2, E2, d2, e2, ⟨q0, q1, q2, q3, g0, g1, g2, g3⟩, p1, p2, l1, l2⟩ := HS
          have bq := hv2.q8
          have HSM2 := Lib.hid hsm2
          clear hv2 hz2 hsm2
          refine wp_region_held_drew (by kernel_rfl) (S := fun w' => w'.cell? ⟨w.heap.size, 8, none⟩ = some (.int .i64 n)) ?_ (fun hHeld => ?_)
          · exact ckA
          (refine wpAnyH_take (i := 1) (v := ?_) rfl (by kernel_rfl) (by kernel_rfl) (by kernel_rfl) (fun _ _ _ h => h) (Or.inl ⟨by kernel_rfl, ?_⟩) (by assumption) ?_
           rotate_left
           · (intro w hSw; (try dsimp only at hSw); go_simp; (try with_reducible rfl))
           (try simp only [Act.put, stA, st0, st1]))
          (refine wpAnyH_take (i := 2) (v := ?_) rfl (by kernel_rfl) (by kernel_rfl) (by kernel_rfl) (fun _ _ _ h => h) (Or.inl ⟨by kernel_rfl, ?_⟩) (by assumption) ?_
           rotate_left
           · (intro w hSw; (try dsimp only at hSw); go_simp; (try with_reducible rfl))
           (try simp only [Act.put, stA, st0, st1]))
          (refine wpAnyH_take (i := 3) (v := ?_) rfl (by kernel_rfl) (by kernel_rfl) (by kernel_rfl) (fun _ _ _ h => h) (Or.inl ⟨by kernel_rfl, ?_⟩) (by assumption) ?_
           rotate_left
           · (intro w hSw; (try dsimp only at hSw); go_simp; (try with_reducible rfl))
           (try simp only [Act.put, stA, st0, st1]))
          (refine wpAnyH_take (i := 4) (v := ?_) rfl (by kernel_rfl) (by kernel_rfl) (by kernel_rfl) (fun _ _ _ h => h) (Or.inl ⟨by kernel_rfl, ?_⟩) (by assumption) ?_
           rotate_left
           · (intro w hSw; (try dsimp only at hSw); go_simp; (try with_reducible rfl))
           (try simp only [Act.put, stA, st0, st1]))
          (refine wpAnyH_ready (rs := [0, 5]) (by kernel_rfl) (by simp) ?_)
          refine AllReadyH.cons rfl (fun K hK => ?_) (AllReadyH.cons rfl (fun K hK => ?_) AllReadyH.nil)
          · (go_simp
             (refine hK.out _ _ ?_ (fun hHeld => ?_)
              · (try dsimp only); exact ckA
              clear hK K
              (try simp only [Act.put, stA, st0, st1])))
            (refine wpAnyH_ready (rs := [5]) (by kernel_rfl) (by simp) ?_)
            refine AllReadyH.cons rfl (fun K hK => ?_) AllReadyH.nil
            (go_simp
             (go_at_call 81
              refine (bytes_any n X b cx _ HV.out (hx.ab abA) hcx).mono ?_
              rintro e w3 ⟨E3, c3, L, hE, rfl, oE, hb3⟩
              have hb3 : Ab wc w3 := ((Ab.refl wc).drew).trans hb3)
             (try go_wp2_with fail)
             (refine hK.out _ _ ?_ (fun hHeld => ?_)
              · (try dsimp only); exact ckA
              clear hK K
              (try simp only [Act.put, stA, st0, st1])))
            have g0 := hb3.fr (cell_lt q0) g0
            have g1 := hb3.fr (cell_lt q1) g1
            have g2 := hb3.fr (cell_lt q2) g2
            have g3 := hb3.fr (cell_lt q3) g3
            have q0 := hb3.at q0
            have q1 := hb3.at q1
            have q2 := hb3.at q2
            have q3 := hb3.at q3
            (refine wpAnyH_ready (rs := [6]) (by kernel_rfl) (by simp) ?_)
            refine AllReadyH.cons rfl (fun K hK => ?_) AllReadyH.nil
            (go_simp
             (go_at_call 80
              refine (refAppend_any D2 E2 d2 e2 u1.s u1.t u1.cap u1.down _ (p1.ab hb3).zero (p2.ab hb3).zero l1 l2 HSM2.out.1 HSM2.out.2 E3 c3 L oE.rb.zero oE.le (by rw [hE.out, Frame.enc_length]; have := HV.out.2.2; simp only at this ⊢; omega)).mono ?_
              rintro e w4 ⟨r2, er2, D4, E4, d4, e4, hr2, rfl, o3, o4, hb4⟩)
             (try go_wp2_with fail)
             (refine hK.out _ _ ?_ (fun hHeld => ?_)
              · (try dsimp only); exact ckA
              clear hK K
              (try simp only [Act.put, stA, st0, st1])))
            have g0 := hb4.fr (cell_lt q0) g0
            have g1 := hb4.fr (cell_lt q1) g1
            have g2 := hb4.fr (cell_lt q2) g2
            have g3 := hb4.fr (cell_lt q3) g3
            have q0 := hb4.at q0
            have q1 := hb4.at q1
            have q2 := hb4.at q2
            have q3 := hb4.at q3
            (refine wpAnyH_take (i := 7) (v := ?_) rfl (by kernel_rfl) (by kernel_rfl) (by kernel_rfl) (fun _ _ _ h => h) (Or.inl ⟨by kernel_rfl, ?_⟩) (by assumption) ?_
             rotate_left
             · (intro w hSw; (try dsimp only at hSw); go_simp; (try with_reducible rfl))
             (try simp only [Act.put, stA, st0, st1]))
            (refine wpAnyH_take (i := 8) (v := ?_) rfl (by kernel_rfl) (by kernel_rfl) (by kernel_rfl) (fun _ _ _ h => h) (Or.inl ⟨by kernel_rfl, ?_⟩) (by assumption) ?_
             rotate_left
             · (intro w hSw; (try dsimp only at hSw); go_simp; (try with_reducible rfl))
             (try simp only [Act.put, stA, st0, st1]))
            (refine wpAnyH_take (i := 9) (v := ?_) rfl (by kernel_rfl) (by kernel_rfl) (by kernel_rfl) (fun _ _ _ h => h) (Or.inl ⟨by kernel_rfl, ?_⟩) (by assumption) ?_
             rotate_left
             · (intro w hSw; (try dsimp only at hSw); go_simp; (try with_reducible rfl))
             (try simp only [Act.put, stA, st0, st1]))
            have hne8 : w.heap.size ≠ w1.heap.size := by omega
            (refine wpAnyH_ready (rs := [10]) (by kernel_rfl) (by simp) ?_)
            refine AllReadyH.cons rfl (fun K hK => ?_) AllReadyH.nil
            (go_simp
             (refine hK.out _ _ ?_ (fun hHeld => ?_)
              · (try dsimp only); exact ckA
              clear hK K
              (try simp only [Act.put, stA, st0, st1])))
            refine wpAnyH_done (by kernel_rfl) ?_ _
            go_wp2_with fail
            go_meet
            have hr2' : r2 = Slots.wr2 u1 (Frame.enc ⟨n, b⟩) k := by rw [HW.out, ← hE.out]; exact congrArg Prod.fst hr2.out
            rw [← hr2']
            exact StepSt.store hcut1 (hb3.trans hb4) (by rw [show r2 = _ from congrArg Prod.fst hr2.out]; exact Slots.small_app _ HSM2.out) (o3.rb.mono hb3.size) (o4.rb.mono hb3.size) o3.le o4.le
          · (go_simp
             (go_at_call 81
              refine (bytes_any n X b cx _ HV.out (hx.ab abA) hcx).mono ?_
              rintro e w3 ⟨E3, c3, L, hE, rfl, oE, hb3⟩
              have hb3 : Ab wc w3 := ((Ab.refl wc).drew).trans hb3)
             (try go_wp2_with fail)
             (refine hK.out _ _ ?_ (fun hHeld => ?_)
              · (try dsimp only); exact ckA
              clear hK K
              (try simp only [Act.put, stA, st0, st1])))
            have g0 := hb3.fr (cell_lt q0) g0
            have g1 := hb3.fr (cell_lt q1) g1
            have g2 := hb3.fr (cell_lt q2) g2
            have g3 := hb3.fr (cell_lt q3) g3
            have q0 := hb3.at q0
            have q1 := hb3.at q1
            have q2 := hb3.at q2
            have q3 := hb3.at q3
            (refine wpAnyH_ready (rs := [0]) (by kernel_rfl) (by simp) ?_)
            refine AllReadyH.cons rfl (fun K hK => ?_) AllReadyH.nil
            (go_simp
             (refine hK.out _ _ ?_ (fun hHeld => ?_)
              · (try dsimp only); exact ckA
              clear hK K
              (try simp only [Act.put, stA, st0, st1])))
            (refine wpAnyH_ready (rs := [6]) (by kernel_rfl) (by simp) ?_)
            refine AllReadyH.cons rfl (fun K hK => ?_) AllReadyH.nil
            (go_simp
             (go_at_call 80
              refine (refAppend_any D2 E2 d2 e2 u1.s u1.t u1.cap u1.down _ (p1.ab hb3).zero (p2.ab hb3).zero l1 l2 HSM2.out.1 HSM2.out.2 E3 c3 L oE.rb.zero oE.le (by rw [hE.out, Frame.enc_length]; have := HV.out.2.2; simp only at this ⊢; omega)).mono ?_
              rintro e w4 ⟨r2, er2, D4, E4, d4, e4, hr2, rfl, o3, o4, hb4⟩)
             (try go_wp2_with fail)
             (refine hK.out _ _ ?_ (fun hHeld => ?_)
              · (try dsimp only); exact ckA
              clear hK K
              (try simp only [Act.put, stA, st0, st1])))
            have g0 := hb4.fr (cell_lt q0) g0
            have g1 := hb4.fr (cell_lt q1) g1
            have g2 := hb4.fr (cell_lt q2) g2
            have g3 := hb4.fr (cell_lt q3) g3
            have q0 := hb4.at q0
            have q1 := hb4.at q1
            have q2 := hb4.at q2
            have q3 := hb4.at q3
            (refine wpAnyH_take (i := 7) (v := ?_) rfl (by kernel_rfl) (by kernel_rfl) (by kernel_rfl) (fun _ _ _ h => h) (Or.inl ⟨by kernel_rfl, ?_⟩) (by assumption) ?_
             rotate_left
             · (intro w hSw; (try dsimp only at hSw); go_simp; (try with_reducible rfl))
             (try simp only [Act.put, stA, st0, st1]))
            (refine wpAnyH_take (i := 8) (v := ?_) rfl (by kernel_rfl) (by kernel_rfl) (by kernel_rfl) (fun _ _ _ h => h) (Or.inl ⟨by kernel_rfl, ?_⟩) (by assumption) ?_
             rotate_left
             · (intro w hSw; (try dsimp only at hSw); go_simp; (try with_reducible rfl))
             (try simp only [Act.put, stA, st0, st1]))
            (refine wpAnyH_take (i := 9) (v := ?_) rfl (by kernel_rfl) (by kernel_rfl) (by kernel_rfl) (fun _ _ _ h => h) (Or.inl ⟨by kernel_rfl, ?_⟩) (by assumption) ?_
             rotate_left
             · (intro w hSw; (try dsimp only at hSw); go_simp; (try with_reducible rfl))
             (try simp only [Act.put, stA, st0, st1]))
            have hne8 : w.heap.size ≠ w1.heap.size := by omega
            (refine wpAnyH_ready (rs := [10]) (by kernel_rfl) (by simp) ?_)
            refine AllReadyH.cons rfl (fun K hK => ?_) AllReadyH.nil
            (go_simp
             (refine hK.out _ _ ?_ (fun hHeld => ?_)
              · (try dsimp only); exact ckA
              clear hK K
              (try simp only [Act.put, stA, st0, st1])))
            refine wpAnyH_done (by kernel_rfl) ?_ _
            go_wp2_with fail
            go_meet
            have hr2' : r2 = Slots.wr2 u1 (Frame.enc ⟨n, b⟩) k := by rw [HW.out, ← hE.out]; exact congrArg Prod.fst hr2.out
            rw [← hr2']
            exact StepSt.store hcut1 (hb3.trans hb4) (by rw [show r2 = _ from congrArg Prod.fst hr2.out]; exact Slots.small_app _ HSM2.out) (o3.rb.mono hb3.size) (o4.rb.mono hb3.size) o3.le o4.le
        · have HW := Lib.hid (show Slots.wr2 u1 (Frame.enc ⟨n, b⟩) k = u1 from if_neg h2)
          refine wp_cond (t := false) (by first | rfl | (simp [Act.eval]; done) | (simp [Act.eval]; omega)) ?_
          clear h2
          conv => arg 2; whnf
          go_wp2_with fail
          go_meet
          rw [HW.out]
          exact hcut1
      case rest =>
        have hcut2 := hcut
        clear hcut hcut1
        generalize hd2 : Slots.wr2 u1 (Frame.enc ⟨n, b⟩) k = u2 at hcut2
        have HD2 := Lib.hid hd2
        clear hd2
        go_upto_if 36 with fail
        go_cut [37] (fun _ wx => StepSt w wx (⟨A, B, C, D, ca, cb, cc, cd⟩ : AM) (⟨⟨s, t, cap, dn⟩, ⟨p, q, cep, dm⟩, n⟩ : Sl) w1.heap.size (Slots.wr3 u2 k))
        case first =>
          by_cases h3 : 3 ≤ k
          · have HW := Lib.hid (show Slots.wr3 u2 k = (Disk.sync u2).1 from if_pos h3)
            refine wp_cond (t := true) (by first | rfl | (simp [Act.eval]; done) | (simp [Act.eval]; omega)) ?_
            clear h3
            conv => arg 2; whnf
            have HS := hcut2
            obtain ⟨_, _, _, hab2, hsm2, D2, E2, d2, e2, ⟨q0, q1, q2, q3, g0, g1, g2, g3⟩, p1, p2, l1, l2⟩ := HS
            have HSM2 := Lib.hid hsm2
            clear hsm2
            go_wp2_with fail
            refine (refSync_any D2 E2 d2 e2 u2.s u2.t u2.cap u2.down _ p1.zero p2.zero l1 l2 HSM2.out.1 HSM2.out.2).mono ?_
            rintro e w2 ⟨r2, er2, D4, E4, d4, e4, hr2, rfl, o3, o4, hb2⟩
            have hr2' := Lib.hid (show r2 = Slots.wr3 u2 k by rw [HW.out]; exact congrArg Prod.fst hr2.out)
            clear q0 q1 q2 q3 g0 g1 g2 g3
            have HS := hcut2
            obtain ⟨_, _, _, _, _, _, _, _, _, ⟨q0, q1, q2, q3, g0, g1, g2, g3⟩, _, _, _, _⟩ := HS
            have g0 := hb2.fr (cell_lt q0) g0
            have g1 := hb2.fr (cell_lt q1) g1
            have g2 := hb2.fr (cell_lt q2) g2
            have g3 := hb2.fr (cell_lt q3) g3
            have q0 := hb2.at q0
            have q1 := hb2.at q1
            have q2 := hb2.at q2
            have q3 := hb2.at q3
            go_wp2_with fail
            go_meet
            rw [← hr2'.out]
            exact StepSt.store hcut2 hb2 (by rw [show r2 = _ from congrArg Prod.fst hr2.out]; exact Slots.small_sync HSM2.out) o3.rb o4.rb o3.le o4.le
          · have HW := Lib.hid (show Slots.wr3 u2 k = u2 from if_neg h3)
            refine wp_cond (t := false) (by first | rfl | (simp [Act.eval]; done) | (simp [Act.eval]; omega)) ?_
            clear h3
            conv => arg 2; whnf
            go_wp2_with fail
            go_meet
            rw [HW.out]
            exact hcut2
        case rest =>
          have hcut3 := hcut
          clear hcut hcut2
          generalize hd3 : Slots.wr3 u2 k = u3 at hcut3
          have HD3 := Lib.hid (show u3 = Slots.wr ⟨p, q, cep, dm⟩ (Frame.enc ⟨n, b⟩) k by rw [← hd3, ← HD2.out, ← HD1.out]; rfl)
          clear hd3
          obtain ⟨hv2, hz2, hb7, hab2, hsm2, D2, E2, d2, e2, ⟨q0, q1, q2, q3, g0, g1, g2, g3⟩, p1, p2, l1, l2⟩ := hcut3
          have HSM := Lib.hid hsm2
          clear hsm2
          have HV2 := hv2
          obtain ⟨vq0, vq1, vq2, vq3, vq4, vq5, vq6, vq7, vq8, vg0, vg1, vg2, vg3, vg4, vg5, vg6, vg7, vg8⟩ := hv2
          (try simp only [AM.nil, Slots.zero, Disk.zero, List.length_nil] at vq0 vq1 vq2 vq3 vq4 vq5 vq6 vq7 vq8)
          go_wp2_with fail
          refine (stwin_any (⟨A, B, C, D, ca, cb, cc, cd⟩ : AM) (⟨⟨s, t, cap, dn⟩, ⟨p, q, cep, dm⟩, n⟩ : Sl) _ (h.ab hab2)).mono ?_
          rintro e w5 ⟨r5, m5, hr5, rfl, hM5, hb5⟩
          have HR5 := Lib.hid hr5.out
          have b5 : Ab w w5 := hab2.trans hb5
          have g0 := hb5.fr (cell_lt q0) g0
          have g1 := hb5.fr (cell_lt q1) g1
          have g2 := hb5.fr (cell_lt q2) g2
          have g3 := hb5.fr (cell_lt q3) g3
          have q0 := hb5.at q0
          have q1 := hb5.at q1
          have q2 := hb5.at q2
          have q3 := hb5.at q3
          clear vq0 vq1 vq2 vq3 vq4 vq5 vq6 vq7 vq8 vg0 vg1 vg2 vg3 vg4 vg5 vg6 vg7 vg8
          obtain ⟨vq0, vq1, vq2, vq3, vq4, vq5, vq6, vq7, vq8, vg0, vg1, vg2, vg3, vg4, vg5, vg6, vg7, vg8⟩ := (HV2.ab hb5)
          (try simp only [AM.nil, Slots.zero, Disk.zero, List.length_nil] at vq0 vq1 vq2 vq3 vq4 vq5 vq6 vq7 vq8)
          obtain ⟨zq0, zq1, zq2, zq3, zq4, zq5, zq6, zq7, zq8, zg0, zg1, zg2, zg3, zg4, zg5, zg6, zg7, zg8⟩ := (hz2.ab hb5)
          (try simp only [AM.nil, Slots.zero, Disk.zero, List.length_nil] at zq0 zq1 zq2 zq3 zq4 zq5 zq6 zq7 zq8)
          have ss0 := cell_lt vq0
          have ss1 := cell_lt zq0
          have ss2 := cell_lt q0
          simp only at ss0 ss1 ss2
          have nva := fun (o : Obj) (j : Nat) => World.cell?_alloc_lt w5 o ⟨w.heap.size, j, none⟩ (by simp only; omega)
          have nvb := fun (o : Obj) (j : Nat) => ((Ab.refl w5).alloc o).frozen (p := ⟨w.heap.size, j, none⟩) (by simp only; omega)
          have nza := fun (o : Obj) (j : Nat) => World.cell?_alloc_lt w5 o ⟨w.heap.size + 1, j, none⟩ (by simp only; omega)
          have nzb := fun (o : Obj) (j : Nat) => ((Ab.refl w5).alloc o).frozen (p := ⟨w.heap.size + 1, j, none⟩) (by simp only; omega)
          have nqa := fun (o : Obj) (j : Nat) => World.cell?_alloc_lt w5 o ⟨w1.heap.size, j, none⟩ (by simp only; omega)
          have nqb := fun (o : Obj) (j : Nat) => ((Ab.refl w5).alloc o).frozen (p := ⟨w1.heap.size, j, none⟩) (by simp only; omega)
          have ne1 : w.heap.size ≠ w5.heap.size := by omega
          have ne2 : w.heap.size + 1 ≠ w5.heap.size := by omega
          have ne3 : w1.heap.size ≠ w5.heap.size := by omega
          have p1 := p1.ab hb5
          have p2 := p2.ab hb5
          have hM5 : SlM w5 (w.heap.size + 1 + 1) m5 r5 := hM5.mono (by have := hab2.size; have := cell_lt (hz2.q0); simp only at this; omega)
          have hal : Ab w5 (w5.alloc (.cells #[.slice m5.A r5.a.s.length m5.ca, .slice m5.B r5.a.t.length m5.cb, .int .i64 r5.a.cap, .bool r5.a.down, .slice m5.C r5.b.s.length m5.cc, .slice m5.D r5.b.t.length m5.cd, .int .i64 r5.b.cap, .bool r5.b.down, .int .i64 r5.n] 27)) := (Ab.refl w5).alloc _
          clear hb5 hr5
          go_wp2
          refine bodyPost_ret (v := .agg #[.slice (⟨m5.A, m5.B, D2, E2, m5.ca, m5.cb, d2, e2⟩ : AM).A (⟨r5.a, u3, r5.n⟩ : Sl).a.s.length (⟨m5.A, m5.B, D2, E2, m5.ca, m5.cb, d2, e2⟩ : AM).ca, .slice (⟨m5.A, m5.B, D2, E2, m5.ca, m5.cb, d2, e2⟩ : AM).B (⟨r5.a, u3, r5.n⟩ : Sl).a.t.length (⟨m5.A, m5.B, D2, E2, m5.ca, m5.cb, d2, e2⟩ : AM).cb, .int .i64 (⟨r5.a, u3, r5.n⟩ : Sl).a.cap, .bool (⟨r5.a, u3, r5.n⟩ : Sl).a.down, .slice (⟨m5.A, m5.B, D2, E2, m5.ca, m5.cb, d2, e2⟩ : AM).C (⟨r5.a, u3, r5.n⟩ : Sl).b.s.length (⟨m5.A, m5.B, D2, E2, m5.ca, m5.cb, d2, e2⟩ : AM).cc, .slice (⟨m5.A, m5.B, D2, E2, m5.ca, m5.cb, d2, e2⟩ : AM).D (⟨r5.a, u3, r5.n⟩ : Sl).b.t.length (⟨m5.A, m5.B, D2, E2, m5.ca, m5.cb, d2, e2⟩ : AM).cd, .int .i64 (⟨r5.a, u3, r5.n⟩ : Sl).b.cap, .bool (⟨r5.a, u3, r5.n⟩ : Sl).b.down, .int .i64 (⟨r5.a, u3, r5.n⟩ : Sl).n]) (by simp [results, Tryz.results90, go_sem, *]) rfl ?_
          refine ⟨⟨r5.a, u3, r5.n⟩, ⟨m5.A, m5.B, D2, E2, m5.ca, m5.cb, d2, e2⟩, Lib.hid (by rw [HR5.out, HD3.out]; simp [Slots.Sl.put, Slots.Sl.cur, Slots.Sl.oth, HP.out]), rfl, SlM.mono (lo := w.heap.size + 1 + 1) ⟨?_, ?_, ?_, ?_, hM5.la, hM5.lb, l1, l2, hM5.sa, hM5.sb, HSM.out.1, HSM.out.2⟩ (by omega), abA⟩
          · with_reducible refine RB.ab ?_ ((Ab.refl _).alloc _)
            (repeat with_reducible refine RB.put ?_ wnA _)
            exact hM5.a
          · with_reducible refine RB.ab ?_ ((Ab.refl _).alloc _)
            (repeat with_reducible refine RB.put ?_ wnA _)
            exact hM5.b
          · with_reducible refine RB.ab ?_ ((Ab.refl _).alloc _)
            (repeat with_reducible refine RB.put ?_ wnA _)
            exact p1
          · with_reducible refine RB.ab ?_ ((Ab.refl _).alloc _)
            (repeat with_reducible refine RB.put ?_ wnA _)
            exact p2
end Go.Proofs.YthgcfjhnnhigoaaGreat

/- Save of the reference of layer 5, walked. Own work. -/
namespace Go.Proofs.YthgcfjhnnhigoaaGreat
open Go.RowKit
open Slots (Sl)
open Disk (Dev)

theorem Slots.put_num (r : Sl) (d e : Dev) (n n' : Int) : (⟨(r.put d e n).a, (r.put d e n).b, n'⟩ : Sl) = r.put d e n' := by
  unfold Slots.Sl.put
  split <;> rfl

set_option maxHeartbeats 1600000 in
set_option maxRecDepth 100000 in
theorem srsave_any (m : AM) (r : Sl) (w : World) (h : SlM w 0 m r) (X : Option Addr) (b : List UInt8) (cx : Nat) (hx : RB w 0 X b) (hcx : b.length ≤ cx) :
    Calls Tryz.prog 55 #[.agg #[.slice m.A r.a.s.length m.ca, .slice m.B r.a.t.length m.cb, .int .i64 r.a.cap, .bool r.a.down, .slice m.C r.b.s.length m.cc, .slice m.D r.b.t.length m.cd, .int .i64 r.b.cap, .bool r.b.down, .int .i64 r.n], .slice X b.length cx] w (RetSl3 w (Slots.save r b)) := by
  obtain ⟨A, B, C, D, ca, cb, cc, cd⟩ := m
  obtain ⟨⟨s, t, cap, dn⟩, ⟨p, q, cep, dm⟩, n⟩ := r
  dsimp only
  go_enter Tryz.func55, Tryz.ntmps55
  go_wp2_with fail
  refine (srasked_any (⟨A, B, C, D, ca, cb, cc, cd⟩ : AM) (⟨⟨s, t, cap, dn⟩, ⟨p, q, cep, dm⟩, n⟩ : Sl) _ (h.ab abA) X b cx (hx.ab abA) hcx).mono ?_
  rintro e w1 ⟨er, hr, rfl, hb1⟩
  have hz : Ab ((w.alloc (.cells #[.slice A s.length ca, .slice B t.length cb, .int .i64 cap, .bool dn, .slice C p.length cc, .slice D q.length cd, .int .i64 cep, .bool dm, .int .i64 n] 27)).alloc (.cells #[.slice none 0 0, .slice none 0 0, .int .i64 0, .bool false, .slice none 0 0, .slice none 0 0, .int .i64 0, .bool false, .int .i64 0] 27)) w1 := abA
  have hbx := (SlB.box (w := (w.alloc (.cells #[.slice A s.length ca, .slice B t.length cb, .int .i64 cap, .bool dn, .slice C p.length cc, .slice D q.length cd, .int .i64 cep, .bool dm, .int .i64 n] 27)).alloc (.cells #[.slice none 0 0, .slice none 0 0, .int .i64 0, .bool false, .slice none 0 0, .slice none 0 0, .int .i64 0, .bool false, .int .i64 0] 27)) (b := w.heap.size) (m := (⟨A, B, C, D, ca, cb, cc, cd⟩ : AM)) (r := (⟨⟨s, t, cap, dn⟩, ⟨p, q, cep, dm⟩, n⟩ : Sl)) (old_alloc (new_plain rfl))).ab hz
  have hrx := (SlB.box (w := (w.alloc (.cells #[.slice A s.length ca, .slice B t.length cb, .int .i64 cap, .bool dn, .slice C p.length cc, .slice D q.length cd, .int .i64 cep, .bool dm, .int .i64 n] 27)).alloc (.cells #[.slice none 0 0, .slice none 0 0, .int .i64 0, .bool false, .slice none 0 0, .slice none 0 0, .int .i64 0, .bool false, .int .i64 0] 27)) (b := w.heap.size + 1) (m := AM.nil) (r := Slots.zero) (new_plain (by simp))).ab hz
  have zz := hz.size
  simp at zz
  by_cases he : er = 0
  · have hask := (hr.out.symm.trans he)
    have HM := Lib.hid (show Slots.save (⟨⟨s, t, cap, dn⟩, ⟨p, q, cep, dm⟩, n⟩ : Sl) b = _ from if_neg (by rw [hask]; simp))
    have HA := Lib.hid hask
    have hn1 := (Slots.asked_good hask).2.2.1
    have hn0 := (Slots.asked_good hask).1.lo
    simp only at hn1 hn0
    have hnw : IntKind.i64.wrap (n + 1) = n + 1 := IntWalk.i64_in _ (by omega)
    obtain rfl : er = 0 := he
    clear hr hask
    have HBX := hbx
    obtain ⟨vq0, vq1, vq2, vq3, vq4, vq5, vq6, vq7, vq8, vg0, vg1, vg2, vg3, vg4, vg5, vg6, vg7, vg8⟩ := hbx
    (try simp only [AM.nil, Slots.zero, Disk.zero, List.length_nil] at vq0 vq1 vq2 vq3 vq4 vq5 vq6 vq7 vq8)
    go_wp2_with fail
    refine (srstepped_any (⟨A, B, C, D, ca, cb, cc, cd⟩ : AM) (⟨⟨s, t, cap, dn⟩, ⟨p, q, cep, dm⟩, n⟩ : Sl) _ (h.ab abA) X b cx (hx.ab abA) hcx HA.out 3).mono ?_
    rintro e w2 ⟨r2, k2, hr2, rfl, hM2, hb2⟩
    have HR := Lib.hid hr2.out
    have hn2 : r2.n = n := by rw [hr2.out]; unfold Slots.Sl.put; split <;> rfl
    have b2 : Ab w w2 := abA
    clear hr2
    clear vq0 vq1 vq2 vq3 vq4 vq5 vq6 vq7 vq8 vg0 vg1 vg2 vg3 vg4 vg5 vg6 vg7 vg8
    obtain ⟨vq0, vq1, vq2, vq3, vq4, vq5, vq6, vq7, vq8, vg0, vg1, vg2, vg3, vg4, vg5, vg6, vg7, vg8⟩ := (HBX.ab hb2)
    (try simp only [AM.nil, Slots.zero, Disk.zero, List.length_nil] at vq0 vq1 vq2 vq3 vq4 vq5 vq6 vq7 vq8)
    obtain ⟨zq0, zq1, zq2, zq3, zq4, zq5, zq6, zq7, zq8, zg0, zg1, zg2, zg3, zg4, zg5, zg6, zg7, zg8⟩ := (hrx.ab hb2)
    (try simp only [AM.nil, Slots.zero, Disk.zero, List.length_nil] at zq0 zq1 zq2 zq3 zq4 zq5 zq6 zq7 zq8)
    have ss0 := cell_lt vq0
    have ss1 := cell_lt zq0
    simp only at ss0 ss1
    have nva := fun (o : Obj) (j : Nat) => World.cell?_alloc_lt w2 o ⟨w.heap.size, j, none⟩ (by simp only; omega)
    have nvb := fun (o : Obj) (j : Nat) => ((Ab.refl w2).alloc o).frozen (p := ⟨w.heap.size, j, none⟩) (by simp only; omega)
    have nza := fun (o : Obj) (j : Nat) => World.cell?_alloc_lt w2 o ⟨w.heap.size + 1, j, none⟩ (by simp only; omega)
    have nzb := fun (o : Obj) (j : Nat) => ((Ab.refl w2).alloc o).frozen (p := ⟨w.heap.size + 1, j, none⟩) (by simp only; omega)
    have ne1 : w.heap.size ≠ w2.heap.size := by omega
    have ne2 : w.heap.size + 1 ≠ w2.heap.size := by omega
    have hM3 : SlM w2 w1.heap.size k2 ⟨r2.a, r2.b, n + 1⟩ := ⟨hM2.a, hM2.b, hM2.c, hM2.d, hM2.la, hM2.lb, hM2.lc, hM2.ld, hM2.sa, hM2.sb, hM2.sc, hM2.sd⟩
    have hM4 : SlM w2 (w.heap.size + 1 + 1) k2 ⟨r2.a, r2.b, n + 1⟩ := hM3.mono zz
    clear hM2 hM3
    go_upto_region 6 with fail
    go_region
    all_goals go_wp2
    all_goals refine bodyPost_ret (v := .tuple #[.agg #[.slice k2.A (⟨r2.a, r2.b, n + 1⟩ : Sl).a.s.length k2.ca, .slice k2.B (⟨r2.a, r2.b, n + 1⟩ : Sl).a.t.length k2.cb, .int .i64 (⟨r2.a, r2.b, n + 1⟩ : Sl).a.cap, .bool (⟨r2.a, r2.b, n + 1⟩ : Sl).a.down, .slice k2.C (⟨r2.a, r2.b, n + 1⟩ : Sl).b.s.length k2.cc, .slice k2.D (⟨r2.a, r2.b, n + 1⟩ : Sl).b.t.length k2.cd, .int .i64 (⟨r2.a, r2.b, n + 1⟩ : Sl).b.cap, .bool (⟨r2.a, r2.b, n + 1⟩ : Sl).b.down, .int .i64 (⟨r2.a, r2.b, n + 1⟩ : Sl).n], .int .i64 n, .int .i64 0]) (by simp [results, Tryz.results55, go_sem, *]) rfl ?_
    all_goals refine ⟨⟨r2.a, r2.b, n + 1⟩, n, 0, k2, Lib.hid (by rw [HM.out, HR.out, Slots.put_num]), rfl, SlM.zero (lo := w.heap.size + 1 + 1) ?_, abA⟩
    all_goals (with_reducible refine SlM.ab ?_ ((Ab.refl _).drew); with_reducible refine SlM.ab ?_ ((Ab.refl _).alloc _); (repeat with_reducible refine SlM.put ?_ wnA _); with_reducible exact hM4)
  · have HM := Lib.hid (show Slots.save (⟨⟨s, t, cap, dn⟩, ⟨p, q, cep, dm⟩, n⟩ : Sl) b = _ from if_pos (by rw [← hr.out]; exact he))
    have hne : (er != 0) = true := by simpa using he
    have HE := Lib.hid hr.out
    obtain ⟨vq0, vq1, vq2, vq3, vq4, vq5, vq6, vq7, vq8, vg0, vg1, vg2, vg3, vg4, vg5, vg6, vg7, vg8⟩ := hbx
    (try simp only [AM.nil, Slots.zero, Disk.zero, List.length_nil] at vq0 vq1 vq2 vq3 vq4 vq5 vq6 vq7 vq8)
    obtain ⟨zq0, zq1, zq2, zq3, zq4, zq5, zq6, zq7, zq8, zg0, zg1, zg2, zg3, zg4, zg5, zg6, zg7, zg8⟩ := hrx
    (try simp only [AM.nil, Slots.zero, Disk.zero, List.length_nil] at zq0 zq1 zq2 zq3 zq4 zq5 zq6 zq7 zq8)
    clear hr he
    go_wp2
    refine bodyPost_ret (v := .tuple #[(.agg #[.slice none 0 0, .slice none 0 0, .int .i64 0, .bool false, .slice none 0 0, .slice none 0 0, .int .i64 0, .bool false, .int .i64 0]), .int .i64 0, .int .i64 er]) (by simp [results, Tryz.results55, go_sem, *]) rfl ?_
    exact RetSl3.zero (by rw [HM.out, ← HE.out]) abA
end Go.Proofs.YthgcfjhnnhigoaaGreat
