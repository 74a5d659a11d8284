/- Open of package wal, walked. Own work. -/
import Derived.Test.YthgcfjhnnhigoaaGreatGW
import Derived.Test.YthgcfjhnnhigoaaGreatGD
import Derived.Test.YthgcfjhnnhigoaaGreatGI
import Derived.Test.YthgcfjhnnhigoaaGreatGJ
set_option linter.unusedVariables false
set_option linter.unusedSimpArgs false
namespace Go.Proofs.YthgcfjhnnhigoaaGreat
open Go.RowKit

/-- The bytes lie neither in the block b nor in the next one. -/
def FarB (b : Nat) (D : Option Addr) (l : List UInt8) : Prop := 0 < l.length → ∀ a, D = some a → a.block ≠ b ∧ a.block ≠ b + 1
theorem FarB.old {w : World} {D : Option Addr} {l : List UInt8} (h : RB w 0 D l) : FarB w.heap.size D l := fun hl a ha => by
  obtain ⟨ad, h1, _, h3⟩ := h hl
  rw [h1] at ha
  obtain rfl := Option.some.inj ha
  have := cell_lt (h3 0 hl)
  rw [addr_add_block] at this
  omega
theorem FarB.new {e : TypeId} {w : World} {D : Option Addr} {l : List UInt8} {b lo c : Nat} (h : OR e lo w D c l) (hlo : b + 2 ≤ lo) : FarB b D l := fun hl a ha => by
  have := (h.rng a ha).1
  omega
theorem RB.far {w : World} {D : Option Addr} {l : List UInt8} {b : Nat} (h : RB w 0 D l) (hf : FarB b D l) {p : Addr} (hp : p.block = b ∨ p.block = b + 1) (u : Value) : RB (w.setCell p u) 0 D l := by
  intro hl
  obtain ⟨ad, h1, h2, h3⟩ := h hl
  refine ⟨ad, h1, h2, fun i hi => ?_⟩
  have := hf hl ad h1
  refine cell_setb (h3 i hi) ?_
  rw [addr_add_block]
  omega

theorem Ents.drewW {w : World} {lo : Nat} {A : Option Addr} {ys : List EntM} (h : Ents w lo A ys) : Ents w.drew lo A ys := h
theorem RB.far4 {w : World} {D : Option Addr} {l : List UInt8} {b : Nat} {u0 u1 u2 u3 : Value} (h : RB w 0 D l) (hf : FarB b D l) : RB ((((w.setCell ⟨b, 0, none⟩ u0).setCell ⟨b, 1, none⟩ u1).setCell ⟨b, 2, none⟩ u2).setCell ⟨b, 3, none⟩ u3) 0 D l :=
  (((h.far hf (.inl rfl) _).far hf (.inl rfl) _).far hf (.inl rfl) _).far hf (.inl rfl) _

/-- The device m lies in the parameter's variable, beside the result's zero cells. -/
def OpBox (w : World) (m : Disk.Dev) (wx : World) : Prop :=
  ∃ (D E : Option Addr) (cd ce : Nat), (wx.cell? ⟨w.heap.size, 0, none⟩ = some (.slice D m.s.length cd) ∧ wx.cell? ⟨w.heap.size, 1, none⟩ = some (.slice E m.t.length ce) ∧ wx.cell? ⟨w.heap.size, 2, none⟩ = some (.int .i64 m.cap) ∧ wx.cell? ⟨w.heap.size, 3, none⟩ = some (.bool m.down) ∧ wx.frozen? ⟨w.heap.size, 0, none⟩ = false ∧ wx.frozen? ⟨w.heap.size, 1, none⟩ = false ∧ wx.frozen? ⟨w.heap.size, 2, none⟩ = false ∧ wx.frozen? ⟨w.heap.size, 3, none⟩ = false) ∧ (wx.cell? ⟨w.heap.size + 1, 0, none⟩ = some (.slice none 0 0) ∧ wx.cell? ⟨w.heap.size + 1, 1, none⟩ = some (.slice none 0 0) ∧ wx.cell? ⟨w.heap.size + 1, 2, none⟩ = some (.int .i64 0) ∧
    wx.cell? ⟨w.heap.size + 1, 3, none⟩ = some (.bool false) ∧ wx.cell? ⟨w.heap.size + 1, 4, none⟩ = some (.int .i64 0) ∧ wx.cell? ⟨w.heap.size + 1, 5, none⟩ = some (.int .i64 0) ∧ wx.frozen? ⟨w.heap.size + 1, 0, none⟩ = false ∧ wx.frozen? ⟨w.heap.size + 1, 1, none⟩ = false ∧
    wx.frozen? ⟨w.heap.size + 1, 2, none⟩ = false ∧ wx.frozen? ⟨w.heap.size + 1, 3, none⟩ = false ∧ wx.frozen? ⟨w.heap.size + 1, 4, none⟩ = false ∧ wx.frozen? ⟨w.heap.size + 1, 5, none⟩ = false) ∧
    RB wx 0 D m.s ∧ RB wx 0 E m.t ∧ m.s.length ≤ cd ∧ m.t.length ≤ ce ∧ FarB w.heap.size D m.s ∧ FarB w.heap.size E m.t ∧ Ab w wx
theorem OpBox.ab {w wx wy : World} {m : Disk.Dev} (h : OpBox w m wx) (hb : Ab wx wy) : OpBox w m wy := by
  obtain ⟨D, E, cd, ce, ⟨q0, q1, q2, q3, f0, f1, f2, f3⟩, ⟨x0, x1, x2, x3, x4, x5, y0, y1, y2, y3, y4, y5⟩, o1, o2, l1, l2, g1, g2, hab⟩ := h
  have z0 := cell_lt q0
  have z1 := cell_lt x0
  exact ⟨D, E, cd, ce, ⟨hb.at q0, hb.at q1, hb.at q2, hb.at q3, hb.fr z0 f0, hb.fr z0 f1, hb.fr z0 f2, hb.fr z0 f3⟩, ⟨hb.at x0, hb.at x1, hb.at x2, hb.at x3, hb.at x4, hb.at x5, hb.fr z1 y0, hb.fr z1 y1, hb.fr z1 y2, hb.fr z1 y3, hb.fr z1 y4, hb.fr z1 y5⟩,
    o1.ab hb, o2.ab hb, l1, l2, g1, g2, hab.trans hb⟩
set_option maxHeartbeats 800000 in
/-- A device of the call's own is put into the variable. -/
theorem OpBox.put {w w3 : World} {m r : Disk.Dev} {D' E' : Option Addr} {cd' ce' lo : Nat} (h : OpBox w m w3) (o1 : OR 5 lo w3 D' cd' r.s) (o2 : OR 5 lo w3 E' ce' r.t) (hlo : w.heap.size + 2 ≤ lo) :
    OpBox w r ((((w3.setCell ⟨w.heap.size, 0, none⟩ (.slice D' r.s.length cd')).setCell ⟨w.heap.size, 1, none⟩ (.slice E' r.t.length ce')).setCell ⟨w.heap.size, 2, none⟩ (.int .i64 r.cap)).setCell ⟨w.heap.size, 3, none⟩ (.bool r.down)) := by
  obtain ⟨D, E, cd, ce, ⟨q0, q1, q2, q3, f0, f1, f2, f3⟩, ⟨x0, x1, x2, x3, x4, x5, y0, y1, y2, y3, y4, y5⟩, _, _, _, _, _, _, hab⟩ := h
  have g1 := FarB.new o1 hlo
  have g2 := FarB.new o2 hlo
  refine ⟨D', E', cd', ce', ⟨?_, ?_, ?_, ?_, ?_, ?_, ?_, ?_⟩, ⟨?_, ?_, ?_, ?_, ?_, ?_, ?_, ?_, ?_, ?_, ?_, ?_⟩, ?_, ?_, o1.le, o2.le, g1, g2, ?_⟩
  all_goals first | (simp [go_sem, *]; done) | skip
  · exact (((o1.rb.zero.far g1 (.inl rfl) _).far g1 (.inl rfl) _).far g1 (.inl rfl) _).far g1 (.inl rfl) _
  · exact (((o2.rb.zero.far g2 (.inl rfl) _).far g2 (.inl rfl) _).far g2 (.inl rfl) _).far g2 (.inl rfl) _
  · exact (((hab.set (Nat.le_refl _) _).set (Nat.le_refl _) _).set (Nat.le_refl _) _).set (Nat.le_refl _) _

/-- A scan's last number, against the number asked. -/
def OpenAns (w : World) (m : Wal.Log × Int) (e : Ending) (w' : World) : Prop := RetLogE w m e w'

set_option maxHeartbeats 3200000 in
set_option maxRecDepth 100000 in
theorem wopen_any (A B : Option Addr) (ca cb : Nat) (s t : List UInt8) (cap : Int) (dn : Bool) (w : World) (hs : RB w 0 A s) (ht : RB w 0 B t) (hca : s.length ≤ ca) (hcb : t.length ≤ cb) (ls : s.length ≤ 1000000) (lt : t.length ≤ 1000000) (m : Int) (rs : List Frame.Rec) (u : Nat) (hsc : Frame.IsScan (s ++ t) rs u) :
    Calls Tryz.prog 69 #[.agg #[.slice A s.length ca, .slice B t.length cb, .int .i64 cap, .bool dn], .int .i64 m] w (RetLogE w (Wal.open_ ⟨s, t, cap, dn⟩ m rs u)) := by
  by_cases hbad : Disk.bad ⟨s, t, cap, dn⟩
  · have HM := Lib.hid (show Wal.open_ ⟨s, t, cap, dn⟩ m rs u = (Wal.zero, 8) from if_pos hbad)
    have HC := Lib.hid (Disk.check_bad hbad)
    clear hbad
    go_enter Tryz.func69, Tryz.ntmps69
    go_wp2_with fail
    refine (check_any A B ca cb s t cap dn _ ls lt).mono ?_
    rintro e w1 ⟨r, hr, rfl, hb1⟩
    obtain rfl : r = 8 := hr.out.trans HC.out
    have zq0 := hb1.at (p := ⟨w.heap.size + 1, 0, none⟩) (v := .slice none 0 0) (by simp [go_sem]); have zq1 := hb1.at (p := ⟨w.heap.size + 1, 1, none⟩) (v := .slice none 0 0) (by simp [go_sem]); have zq2 := hb1.at (p := ⟨w.heap.size + 1, 2, none⟩) (v := .int .i64 0) (by simp [go_sem]); have zq3 := hb1.at (p := ⟨w.heap.size + 1, 3, none⟩) (v := .bool false) (by simp [go_sem]); have zq4 := hb1.at (p := ⟨w.heap.size + 1, 4, none⟩) (v := .int .i64 0) (by simp [go_sem]); have zq5 := hb1.at (p := ⟨w.heap.size + 1, 5, none⟩) (v := .int .i64 0) (by simp [go_sem])
    have zr0 : w1.frozen? ⟨w.heap.size + 1, 0, none⟩ = false := (hb1.frozen (p := ⟨w.heap.size + 1, 0, none⟩) (by simp)).trans (by simp [go_sem]); have zr1 : w1.frozen? ⟨w.heap.size + 1, 1, none⟩ = false := (hb1.frozen (p := ⟨w.heap.size + 1, 1, none⟩) (by simp)).trans (by simp [go_sem]); have zr2 : w1.frozen? ⟨w.heap.size + 1, 2, none⟩ = false := (hb1.frozen (p := ⟨w.heap.size + 1, 2, none⟩) (by simp)).trans (by simp [go_sem]); have zr3 : w1.frozen? ⟨w.heap.size + 1, 3, none⟩ = false := (hb1.frozen (p := ⟨w.heap.size + 1, 3, none⟩) (by simp)).trans (by simp [go_sem]); have zr4 : w1.frozen? ⟨w.heap.size + 1, 4, none⟩ = false := (hb1.frozen (p := ⟨w.heap.size + 1, 4, none⟩) (by simp)).trans (by simp [go_sem]); have zr5 : w1.frozen? ⟨w.heap.size + 1, 5, none⟩ = false := (hb1.frozen (p := ⟨w.heap.size + 1, 5, none⟩) (by simp)).trans (by simp [go_sem])
    go_wp2
    refine bodyPost_ret (v := .tuple #[.agg #[.slice none 0 0, .slice none 0 0, .int .i64 0, .bool false, .int .i64 0, .int .i64 0], .int .i64 8]) (by simp [results, Tryz.results69, go_sem, zq0, zq1, zq2, zq3, zq4, zq5]) rfl ?_
    exact RetLogE.zero HM.out.symm abA
  by_cases hm : m < 0 ∨ 1000000000 < m
  · have HM := Lib.hid (show Wal.open_ ⟨s, t, cap, dn⟩ m rs u = (Wal.zero, 2) from (if_neg hbad).trans (if_pos hm))
    have HC := Lib.hid (Disk.check_ok hbad)
    clear hbad
    rcases hm with hm | hm
    all_goals
      go_enter Tryz.func69, Tryz.ntmps69
      go_wp2_with fail
      refine (check_any A B ca cb s t cap dn _ ls lt).mono ?_
      rintro e w1 ⟨r, hr, rfl, hb1⟩
      obtain rfl : r = 0 := hr.out.trans HC.out
      have zq0 := hb1.at (p := ⟨w.heap.size + 1, 0, none⟩) (v := .slice none 0 0) (by simp [go_sem]); have zq1 := hb1.at (p := ⟨w.heap.size + 1, 1, none⟩) (v := .slice none 0 0) (by simp [go_sem]); have zq2 := hb1.at (p := ⟨w.heap.size + 1, 2, none⟩) (v := .int .i64 0) (by simp [go_sem]); have zq3 := hb1.at (p := ⟨w.heap.size + 1, 3, none⟩) (v := .bool false) (by simp [go_sem]); have zq4 := hb1.at (p := ⟨w.heap.size + 1, 4, none⟩) (v := .int .i64 0) (by simp [go_sem]); have zq5 := hb1.at (p := ⟨w.heap.size + 1, 5, none⟩) (v := .int .i64 0) (by simp [go_sem])
      have zr0 : w1.frozen? ⟨w.heap.size + 1, 0, none⟩ = false := (hb1.frozen (p := ⟨w.heap.size + 1, 0, none⟩) (by simp)).trans (by simp [go_sem]); have zr1 : w1.frozen? ⟨w.heap.size + 1, 1, none⟩ = false := (hb1.frozen (p := ⟨w.heap.size + 1, 1, none⟩) (by simp)).trans (by simp [go_sem]); have zr2 : w1.frozen? ⟨w.heap.size + 1, 2, none⟩ = false := (hb1.frozen (p := ⟨w.heap.size + 1, 2, none⟩) (by simp)).trans (by simp [go_sem]); have zr3 : w1.frozen? ⟨w.heap.size + 1, 3, none⟩ = false := (hb1.frozen (p := ⟨w.heap.size + 1, 3, none⟩) (by simp)).trans (by simp [go_sem]); have zr4 : w1.frozen? ⟨w.heap.size + 1, 4, none⟩ = false := (hb1.frozen (p := ⟨w.heap.size + 1, 4, none⟩) (by simp)).trans (by simp [go_sem]); have zr5 : w1.frozen? ⟨w.heap.size + 1, 5, none⟩ = false := (hb1.frozen (p := ⟨w.heap.size + 1, 5, none⟩) (by simp)).trans (by simp [go_sem])
      go_wp2
      all_goals first | (exfalso; omega) | skip
      all_goals refine bodyPost_ret (v := .tuple #[.agg #[.slice none 0 0, .slice none 0 0, .int .i64 0, .bool false, .int .i64 0, .int .i64 0], .int .i64 2]) (by simp [results, Tryz.results69, go_sem, zq0, zq1, zq2, zq3, zq4, zq5]) rfl ?_
      all_goals exact RetLogE.zero HM.out.symm abA
  have hm0 : 0 ≤ m := by omega
  have hm1 : m ≤ 1000000000 := by omega
  have hsz := Disk.size_le hbad
  simp only [Disk.Dev.size] at hsz
  have HC := Lib.hid (Disk.check_ok hbad)
  have HSC := Lib.hid hsc
  have hu1 : Disk.up ⟨s, t, cap, false⟩ = 0 := Wal.up_mk hsz.1 hsz.2.1 (by omega)
  have HU := Lib.hid hu1
  have HT : Hid (dn = true → t = []) := Lib.hid (fun h => by
    rw [Disk.bad_iff] at hbad
    refine List.eq_nil_of_length_eq_zero ?_
    rcases Nat.eq_zero_or_pos t.length with h0 | h0
    · exact h0
    · exact absurd (.inr (.inr (.inr ⟨h, h0⟩))) hbad)
  have hle := Frame.scan_le hsc
  rw [List.length_append] at hle
  have hF := hsc.1
  have hcnt : rs.length ≤ 20000 := Wal.scan_count hsc rfl (by rw [List.length_append]; omega)
  have HB := Lib.hid hbad
  have HF := Lib.hid hF
  have HSU := Lib.hid hsc.2.1
  have HM : Hid (Wal.open_ ⟨s, t, cap, dn⟩ m rs u = if rs.length = 0 ∨ Wal.base rs + rs.length < m then (⟨⟨[], [], cap, false⟩, m, m⟩, 0) else (⟨⟨(s ++ t).take u, [], cap, false⟩, Wal.base rs, Wal.base rs + rs.length⟩, 0)) := Lib.hid ((if_neg hbad).trans (if_neg hm))
  clear hbad hm hsc hu1 hF
  have P0 : ∀ w', Calls Tryz.prog 102 #[.agg #[.slice A s.length ca, .slice B t.length cb, .int .i64 cap, .bool dn]] w' (fun e w'' => e = .returned (.int .i64 0) ∧ Ab w' w'') := fun w' => (check_any A B ca cb s t cap dn w' ls lt).mono fun _ _ ⟨r, hr, he, hb⟩ => ⟨by rw [he, hr.out, HC.out], hb⟩
  have HT0 : Hid (Disk.truncate ⟨s, t, cap, false⟩ 0 = (⟨[], [], cap, false⟩, 0)) := Lib.hid (by
    unfold Disk.truncate
    rw [if_neg (by simpa using HU.out), if_neg (by simp only [Disk.Dev.size]; omega)]
    simp)
  by_cases hr0 : rs.length = 0
  · have HM := Lib.hid (HM.out.trans (if_pos (.inl hr0)))
    have hrs : rs = [] := List.eq_nil_of_length_eq_zero hr0
    have HRS := Lib.hid hrs
    clear hr0 hrs
    cases dn with
    | false =>
      go_enter Tryz.func69, Tryz.ntmps69
      go_wp2_with fail
      refine (P0 _).mono ?_
      rintro e w1 ⟨rfl, hb1⟩
      have zq0 := hb1.at (p := ⟨w.heap.size + 1, 0, none⟩) (v := .slice none 0 0) (by simp [go_sem]); have zq1 := hb1.at (p := ⟨w.heap.size + 1, 1, none⟩) (v := .slice none 0 0) (by simp [go_sem]); have zq2 := hb1.at (p := ⟨w.heap.size + 1, 2, none⟩) (v := .int .i64 0) (by simp [go_sem]); have zq3 := hb1.at (p := ⟨w.heap.size + 1, 3, none⟩) (v := .bool false) (by simp [go_sem]); have zq4 := hb1.at (p := ⟨w.heap.size + 1, 4, none⟩) (v := .int .i64 0) (by simp [go_sem]); have zq5 := hb1.at (p := ⟨w.heap.size + 1, 5, none⟩) (v := .int .i64 0) (by simp [go_sem])
      have zr0 : w1.frozen? ⟨w.heap.size + 1, 0, none⟩ = false := (hb1.frozen (p := ⟨w.heap.size + 1, 0, none⟩) (by simp)).trans (by simp [go_sem]); have zr1 : w1.frozen? ⟨w.heap.size + 1, 1, none⟩ = false := (hb1.frozen (p := ⟨w.heap.size + 1, 1, none⟩) (by simp)).trans (by simp [go_sem]); have zr2 : w1.frozen? ⟨w.heap.size + 1, 2, none⟩ = false := (hb1.frozen (p := ⟨w.heap.size + 1, 2, none⟩) (by simp)).trans (by simp [go_sem]); have zr3 : w1.frozen? ⟨w.heap.size + 1, 3, none⟩ = false := (hb1.frozen (p := ⟨w.heap.size + 1, 3, none⟩) (by simp)).trans (by simp [go_sem]); have zr4 : w1.frozen? ⟨w.heap.size + 1, 4, none⟩ = false := (hb1.frozen (p := ⟨w.heap.size + 1, 4, none⟩) (by simp)).trans (by simp [go_sem]); have zr5 : w1.frozen? ⟨w.heap.size + 1, 5, none⟩ = false := (hb1.frozen (p := ⟨w.heap.size + 1, 5, none⟩) (by simp)).trans (by simp [go_sem])
      have bq0 := hb1.at (p := ⟨w.heap.size, 0, none⟩) (v := .slice A s.length ca) ckA; have bq1 := hb1.at (p := ⟨w.heap.size, 1, none⟩) (v := .slice B t.length cb) ckA; have bq2 := hb1.at (p := ⟨w.heap.size, 2, none⟩) (v := .int .i64 cap) ckA; have bq3 := hb1.at (p := ⟨w.heap.size, 3, none⟩) (v := .bool false) ckA
      have z1 := hb1.size
      simp at z1
      have hb0 : OpBox w ⟨s, t, cap, false⟩ w1 := ⟨A, B, ca, cb, ⟨bq0, bq1, bq2, bq3, (hb1.frozen (p := ⟨w.heap.size, 0, none⟩) (by simp; omega)).trans (by simp [go_sem]), (hb1.frozen (p := ⟨w.heap.size, 1, none⟩) (by simp; omega)).trans (by simp [go_sem]),
          (hb1.frozen (p := ⟨w.heap.size, 2, none⟩) (by simp; omega)).trans (by simp [go_sem]), (hb1.frozen (p := ⟨w.heap.size, 3, none⟩) (by simp; omega)).trans (by simp [go_sem])⟩, ⟨zq0, zq1, zq2, zq3, zq4, zq5, zr0, zr1, zr2, zr3, zr4, zr5⟩,
          hs.ab abA, ht.ab abA, hca, hcb, FarB.old hs, FarB.old ht, abA⟩
      go_wp2_with fail
      refine (wscan_any A B ca cb s t cap _ (hs.ab abA) (ht.ab abA) hca hcb HU.out).mono ?_
      rintro e w2 ⟨X, dx, ys, u2, hS2, hE2, rfl, hEn, hd, hb2⟩
      replace hb0 := hb0.ab (show Ab w1 w2 from abA)
      have hEn : Ents w2 (w.heap.size + 1 + 1) X ys := hEn.mono wnA
      clear zq0 zq1 zq2 zq3 zq4 zq5 zr0 zr1 zr2 zr3 zr4 zr5 bq0 bq1 bq2 bq3 hb1 hb2
      obtain rfl : ys = [] := List.eq_nil_of_length_eq_zero (by rw [← erecs_length, (Frame.scan_unique hS2.out HSC.out).1, HRS.out]; rfl)
      obtain ⟨D, E, cd, ce, ⟨q0, q1, q2, q3, f0, f1, f2, f3⟩, ⟨x0, x1, x2, x3, x4, x5, y0, y1, y2, y3, y4, y5⟩, o1, o2, l1, l2, g1, g2, hab⟩ := hb0
      go_wp2_with fail
      have zw2 := cell_lt x0
      simp at zw2
      refine (truncate_any D E cd ce s t cap false _ (o1.ab abA) (o2.ab abA) l1 l2 ls lt 0).mono ?_
      rintro e w3 ⟨r, er, D3, E3, cd3, ce3, hr, rfl, o3, o4, hb3⟩
      obtain ⟨rfl, rfl⟩ := Prod.mk.inj (hr.out.trans HT0.out)
      clear hr
      simp only at o3 o4
      simp only
      have hbox := (OpBox.ab ⟨D, E, cd, ce, ⟨q0, q1, q2, q3, f0, f1, f2, f3⟩, ⟨x0, x1, x2, x3, x4, x5, y0, y1, y2, y3, y4, y5⟩, o1, o2, l1, l2, g1, g2, hab⟩ (show Ab w2 w3 from abA) : OpBox w ⟨s, t, cap, false⟩ w3)
      clear q0 q1 q2 q3 f0 f1 f2 f3 x0 x1 x2 x3 x4 x5 y0 y1 y2 y3 y4 y5 o1 o2 g1 g2 l1 l2
      obtain ⟨Dx, Ex, cdx, cex, ⟨q0, q1, q2, q3, f0, f1, f2, f3⟩, ⟨x0, x1, x2, x3, x4, x5, y0, y1, y2, y3, y4, y5⟩, -, -, -, -, -, -, habx⟩ := hbox
      have z2 := cell_lt x0
      simp at z2
      go_wp2
      refine bodyPost_ret (v := .tuple #[.agg #[.slice D3 (⟨⟨[], [], cap, false⟩, m, m⟩ : Wal.Log).dev.s.length cd3, .slice E3 (⟨⟨[], [], cap, false⟩, m, m⟩ : Wal.Log).dev.t.length ce3, .int .i64 (⟨⟨[], [], cap, false⟩, m, m⟩ : Wal.Log).dev.cap, .bool (⟨⟨[], [], cap, false⟩, m, m⟩ : Wal.Log).dev.down, .int .i64 (⟨⟨[], [], cap, false⟩, m, m⟩ : Wal.Log).first, .int .i64 (⟨⟨[], [], cap, false⟩, m, m⟩ : Wal.Log).next], .int .i64 0]) (by simp [results, Tryz.results69, go_sem, *]) rfl ?_
      exact ⟨⟨⟨[], [], cap, false⟩, m, m⟩, 0, D3, E3, cd3, ce3, Lib.hid HM.out.symm, rfl, OR.mono (lo := w2.heap.size) orA wnA, OR.mono (lo := w2.heap.size) orA wnA, abA⟩
    | true =>
      have HST := Lib.hid (show Disk.start ⟨s, t, cap, true⟩ = (⟨s, t, cap, false⟩, 0) by
        have h1 := HB.out
        rw [HT.out rfl] at h1 ⊢
        unfold Disk.start; rw [if_neg h1]; rfl)
      go_enter Tryz.func69, Tryz.ntmps69
      go_wp2_with fail
      refine (P0 _).mono ?_
      rintro e w1 ⟨rfl, hb1⟩
      have zq0 := hb1.at (p := ⟨w.heap.size + 1, 0, none⟩) (v := .slice none 0 0) (by simp [go_sem]); have zq1 := hb1.at (p := ⟨w.heap.size + 1, 1, none⟩) (v := .slice none 0 0) (by simp [go_sem]); have zq2 := hb1.at (p := ⟨w.heap.size + 1, 2, none⟩) (v := .int .i64 0) (by simp [go_sem]); have zq3 := hb1.at (p := ⟨w.heap.size + 1, 3, none⟩) (v := .bool false) (by simp [go_sem]); have zq4 := hb1.at (p := ⟨w.heap.size + 1, 4, none⟩) (v := .int .i64 0) (by simp [go_sem]); have zq5 := hb1.at (p := ⟨w.heap.size + 1, 5, none⟩) (v := .int .i64 0) (by simp [go_sem])
      have zr0 : w1.frozen? ⟨w.heap.size + 1, 0, none⟩ = false := (hb1.frozen (p := ⟨w.heap.size + 1, 0, none⟩) (by simp)).trans (by simp [go_sem]); have zr1 : w1.frozen? ⟨w.heap.size + 1, 1, none⟩ = false := (hb1.frozen (p := ⟨w.heap.size + 1, 1, none⟩) (by simp)).trans (by simp [go_sem]); have zr2 : w1.frozen? ⟨w.heap.size + 1, 2, none⟩ = false := (hb1.frozen (p := ⟨w.heap.size + 1, 2, none⟩) (by simp)).trans (by simp [go_sem]); have zr3 : w1.frozen? ⟨w.heap.size + 1, 3, none⟩ = false := (hb1.frozen (p := ⟨w.heap.size + 1, 3, none⟩) (by simp)).trans (by simp [go_sem]); have zr4 : w1.frozen? ⟨w.heap.size + 1, 4, none⟩ = false := (hb1.frozen (p := ⟨w.heap.size + 1, 4, none⟩) (by simp)).trans (by simp [go_sem]); have zr5 : w1.frozen? ⟨w.heap.size + 1, 5, none⟩ = false := (hb1.frozen (p := ⟨w.heap.size + 1, 5, none⟩) (by simp)).trans (by simp [go_sem])
      have bq0 := hb1.at (p := ⟨w.heap.size, 0, none⟩) (v := .slice A s.length ca) ckA; have bq1 := hb1.at (p := ⟨w.heap.size, 1, none⟩) (v := .slice B t.length cb) ckA; have bq2 := hb1.at (p := ⟨w.heap.size, 2, none⟩) (v := .int .i64 cap) ckA; have bq3 := hb1.at (p := ⟨w.heap.size, 3, none⟩) (v := .bool true) ckA
      have z1 := hb1.size
      simp at z1
      have hb0 : OpBox w ⟨s, t, cap, true⟩ w1 := ⟨A, B, ca, cb, ⟨bq0, bq1, bq2, bq3, (hb1.frozen (p := ⟨w.heap.size, 0, none⟩) (by simp; omega)).trans (by simp [go_sem]), (hb1.frozen (p := ⟨w.heap.size, 1, none⟩) (by simp; omega)).trans (by simp [go_sem]),
          (hb1.frozen (p := ⟨w.heap.size, 2, none⟩) (by simp; omega)).trans (by simp [go_sem]), (hb1.frozen (p := ⟨w.heap.size, 3, none⟩) (by simp; omega)).trans (by simp [go_sem])⟩, ⟨zq0, zq1, zq2, zq3, zq4, zq5, zr0, zr1, zr2, zr3, zr4, zr5⟩,
          hs.ab abA, ht.ab abA, hca, hcb, FarB.old hs, FarB.old ht, abA⟩
      go_wp2_with fail
      refine (start_any A B ca cb s t cap true _ (hs.ab abA) (ht.ab abA) hca hcb ls lt).mono ?_
      rintro e wa ⟨r, er, Da, Ea, cda, cea, hr, rfl, oa1, oa2, hba⟩
      obtain ⟨rfl, rfl⟩ := Prod.mk.inj (hr.out.trans HST.out)
      clear hr
      simp only at oa1 oa2
      simp only
      have hb1a := hb0.ab (show Ab w1 wa from abA)
      have hb0 := hb1a.put (r := ⟨s, t, cap, false⟩) oa1 oa2 (by first | (simp; done) | omega | (simp; omega))
      obtain ⟨Dx, Ex, cdx, cex, ⟨q0, q1, q2, q3, f0, f1, f2, f3⟩, ⟨x0, x1, x2, x3, x4, x5, y0, y1, y2, y3, y4, y5⟩, -, -, -, -, -, -, habx⟩ := hb1a
      clear zq0 zq1 zq2 zq3 zq4 zq5 zr0 zr1 zr2 zr3 zr4 zr5 bq0 bq1 bq2 bq3
      go_wp2_with fail
      have zwa := cell_lt x0
      simp at zwa
      clear q0 q1 q2 q3 f0 f1 f2 f3 x0 x1 x2 x3 x4 x5 y0 y1 y2 y3 y4 y5
      refine (wscan_any Da Ea cda cea s t cap _ (oa1.rb.zero.far4 (FarB.new oa1 (by first | (simp; done) | omega | (simp; omega)))) (oa2.rb.zero.far4 (FarB.new oa2 (by first | (simp; done) | omega | (simp; omega)))) oa1.le oa2.le HU.out).mono ?_
      rintro e w2 ⟨X, dx, ys, u2, hS2, hE2, rfl, hEn, hd, hb2⟩
      replace hb0 := hb0.ab hb2
      have hEn : Ents w2 (w.heap.size + 1 + 1) X ys := hEn.mono wnA
      clear hb1 hb2 hba habx oa1 oa2
      obtain rfl : ys = [] := List.eq_nil_of_length_eq_zero (by rw [← erecs_length, (Frame.scan_unique hS2.out HSC.out).1, HRS.out]; rfl)
      obtain ⟨D, E, cd, ce, ⟨q0, q1, q2, q3, f0, f1, f2, f3⟩, ⟨x0, x1, x2, x3, x4, x5, y0, y1, y2, y3, y4, y5⟩, o1, o2, l1, l2, g1, g2, hab⟩ := hb0
      go_wp2_with fail
      have zw2 := cell_lt x0
      simp at zw2
      refine (truncate_any D E cd ce s t cap false _ (o1.ab abA) (o2.ab abA) l1 l2 ls lt 0).mono ?_
      rintro e w3 ⟨r, er, D3, E3, cd3, ce3, hr, rfl, o3, o4, hb3⟩
      obtain ⟨rfl, rfl⟩ := Prod.mk.inj (hr.out.trans HT0.out)
      clear hr
      simp only at o3 o4
      simp only
      have hbox := (OpBox.ab ⟨D, E, cd, ce, ⟨q0, q1, q2, q3, f0, f1, f2, f3⟩, ⟨x0, x1, x2, x3, x4, x5, y0, y1, y2, y3, y4, y5⟩, o1, o2, l1, l2, g1, g2, hab⟩ (show Ab w2 w3 from abA) : OpBox w ⟨s, t, cap, false⟩ w3)
      clear q0 q1 q2 q3 f0 f1 f2 f3 x0 x1 x2 x3 x4 x5 y0 y1 y2 y3 y4 y5 o1 o2 g1 g2 l1 l2
      obtain ⟨Dx, Ex, cdx, cex, ⟨q0, q1, q2, q3, f0, f1, f2, f3⟩, ⟨x0, x1, x2, x3, x4, x5, y0, y1, y2, y3, y4, y5⟩, -, -, -, -, -, -, habx⟩ := hbox
      have z2 := cell_lt x0
      simp at z2
      go_wp2
      refine bodyPost_ret (v := .tuple #[.agg #[.slice D3 (⟨⟨[], [], cap, false⟩, m, m⟩ : Wal.Log).dev.s.length cd3, .slice E3 (⟨⟨[], [], cap, false⟩, m, m⟩ : Wal.Log).dev.t.length ce3, .int .i64 (⟨⟨[], [], cap, false⟩, m, m⟩ : Wal.Log).dev.cap, .bool (⟨⟨[], [], cap, false⟩, m, m⟩ : Wal.Log).dev.down, .int .i64 (⟨⟨[], [], cap, false⟩, m, m⟩ : Wal.Log).first, .int .i64 (⟨⟨[], [], cap, false⟩, m, m⟩ : Wal.Log).next], .int .i64 0]) (by simp [results, Tryz.results69, go_sem, *]) rfl ?_
      exact ⟨⟨⟨[], [], cap, false⟩, m, m⟩, 0, D3, E3, cd3, ce3, Lib.hid HM.out.symm, rfl, OR.mono (lo := w2.heap.size) orA wnA, OR.mono (lo := w2.heap.size) orA wnA, abA⟩
  · obtain ⟨nb, hnb⟩ : ∃ nb : Int, nb = Wal.base rs + rs.length := ⟨_, rfl⟩
    have HNB := Lib.hid hnb
    have hrs0 : 0 < rs.length := by omega
    have hbr := Wal.base_rng HF.out hrs0
    have hnb1 : nb ≤ 1000000001 := by omega
    have hnb0 : 0 ≤ nb := by omega
    by_cases hlt : nb < m
    · have HM := Lib.hid (HM.out.trans (if_pos (.inr (by rw [← hnb]; exact hlt))))
      clear hr0 hnb
      cases dn with
      | false =>
        go_enter Tryz.func69, Tryz.ntmps69
        go_wp2_with fail
        refine (P0 _).mono ?_
        rintro e w1 ⟨rfl, hb1⟩
        have zq0 := hb1.at (p := ⟨w.heap.size + 1, 0, none⟩) (v := .slice none 0 0) (by simp [go_sem]); have zq1 := hb1.at (p := ⟨w.heap.size + 1, 1, none⟩) (v := .slice none 0 0) (by simp [go_sem]); have zq2 := hb1.at (p := ⟨w.heap.size + 1, 2, none⟩) (v := .int .i64 0) (by simp [go_sem]); have zq3 := hb1.at (p := ⟨w.heap.size + 1, 3, none⟩) (v := .bool false) (by simp [go_sem]); have zq4 := hb1.at (p := ⟨w.heap.size + 1, 4, none⟩) (v := .int .i64 0) (by simp [go_sem]); have zq5 := hb1.at (p := ⟨w.heap.size + 1, 5, none⟩) (v := .int .i64 0) (by simp [go_sem])
        have zr0 : w1.frozen? ⟨w.heap.size + 1, 0, none⟩ = false := (hb1.frozen (p := ⟨w.heap.size + 1, 0, none⟩) (by simp)).trans (by simp [go_sem]); have zr1 : w1.frozen? ⟨w.heap.size + 1, 1, none⟩ = false := (hb1.frozen (p := ⟨w.heap.size + 1, 1, none⟩) (by simp)).trans (by simp [go_sem]); have zr2 : w1.frozen? ⟨w.heap.size + 1, 2, none⟩ = false := (hb1.frozen (p := ⟨w.heap.size + 1, 2, none⟩) (by simp)).trans (by simp [go_sem]); have zr3 : w1.frozen? ⟨w.heap.size + 1, 3, none⟩ = false := (hb1.frozen (p := ⟨w.heap.size + 1, 3, none⟩) (by simp)).trans (by simp [go_sem]); have zr4 : w1.frozen? ⟨w.heap.size + 1, 4, none⟩ = false := (hb1.frozen (p := ⟨w.heap.size + 1, 4, none⟩) (by simp)).trans (by simp [go_sem]); have zr5 : w1.frozen? ⟨w.heap.size + 1, 5, none⟩ = false := (hb1.frozen (p := ⟨w.heap.size + 1, 5, none⟩) (by simp)).trans (by simp [go_sem])
        have bq0 := hb1.at (p := ⟨w.heap.size, 0, none⟩) (v := .slice A s.length ca) ckA; have bq1 := hb1.at (p := ⟨w.heap.size, 1, none⟩) (v := .slice B t.length cb) ckA; have bq2 := hb1.at (p := ⟨w.heap.size, 2, none⟩) (v := .int .i64 cap) ckA; have bq3 := hb1.at (p := ⟨w.heap.size, 3, none⟩) (v := .bool false) ckA
        have z1 := hb1.size
        simp at z1
        have hb0 : OpBox w ⟨s, t, cap, false⟩ w1 := ⟨A, B, ca, cb, ⟨bq0, bq1, bq2, bq3, (hb1.frozen (p := ⟨w.heap.size, 0, none⟩) (by simp; omega)).trans (by simp [go_sem]), (hb1.frozen (p := ⟨w.heap.size, 1, none⟩) (by simp; omega)).trans (by simp [go_sem]),
            (hb1.frozen (p := ⟨w.heap.size, 2, none⟩) (by simp; omega)).trans (by simp [go_sem]), (hb1.frozen (p := ⟨w.heap.size, 3, none⟩) (by simp; omega)).trans (by simp [go_sem])⟩, ⟨zq0, zq1, zq2, zq3, zq4, zq5, zr0, zr1, zr2, zr3, zr4, zr5⟩,
            hs.ab abA, ht.ab abA, hca, hcb, FarB.old hs, FarB.old ht, abA⟩
        go_wp2_with fail
        refine (wscan_any A B ca cb s t cap _ (hs.ab abA) (ht.ab abA) hca hcb HU.out).mono ?_
        rintro e w2 ⟨X, dx, ys, u2, hS2, hE2, rfl, hEn, hd, hb2⟩
        replace hb0 := hb0.ab (show Ab w1 w2 from abA)
        have hEn : Ents w2 (w.heap.size + 1 + 1) X ys := hEn.mono wnA
        clear zq0 zq1 zq2 zq3 zq4 zq5 zr0 zr1 zr2 zr3 zr4 zr5 bq0 bq1 bq2 bq3 hb1 hb2
        have hyl : ys.length = rs.length := by rw [← erecs_length, (Frame.scan_unique hS2.out HSC.out).1]
        have HYL := Lib.hid hyl
        have HR := Lib.hid (Frame.scan_unique hS2.out HSC.out).1
        have hys0 : 0 < ys.length := by omega
        have hys1 : ys.length ≤ 20000 := by omega
        have hne0 : ((ys.length : Int) == 0) = false := by rw [beq_eq_false_iff_ne]; omega
        have B0 : ∀ w', Ab w2 w' → Calls Tryz.prog 106 #[.slice X ys.length dx] w' (fun e w'' => e = .returned (.int .i64 nb) ∧ w' = w'') := fun w' hw' =>
          behind_any X dx ys nb w' ((hEn.ab hw').mono (Nat.zero_le _)) (by rw [HR.out]; exact HF.out) hys0 (by omega) (by rw [HR.out, HNB.out, HYL.out])
        clear hyl
        have hb0c := hb0
        obtain ⟨D, E, cd, ce, ⟨q0, q1, q2, q3, f0, f1, f2, f3⟩, ⟨x0, x1, x2, x3, x4, x5, y0, y1, y2, y3, y4, y5⟩, o1, o2, l1, l2, g1, g2, hab⟩ := hb0
        have hEX : Ents w2 (w.heap.size + 1 + 1) X ys := hEn
        go_wp2_with fail
        refine (B0 _ abA).mono ?_
        rintro e w9 ⟨rfl, rfl⟩
        go_wp2_with fail
        have zw2 := cell_lt x0
        simp at zw2
        refine (truncate_any D E cd ce s t cap false _ (o1.ab abA) (o2.ab abA) l1 l2 ls lt 0).mono ?_
        rintro e w3 ⟨r, er, D3, E3, cd3, ce3, hr, rfl, o3, o4, hb3⟩
        obtain ⟨rfl, rfl⟩ := Prod.mk.inj (hr.out.trans HT0.out)
        clear hr
        simp only at o3 o4
        simp only
        have hbox := (OpBox.ab ⟨D, E, cd, ce, ⟨q0, q1, q2, q3, f0, f1, f2, f3⟩, ⟨x0, x1, x2, x3, x4, x5, y0, y1, y2, y3, y4, y5⟩, o1, o2, l1, l2, g1, g2, hab⟩ (show Ab w2 w3 from abA) : OpBox w ⟨s, t, cap, false⟩ w3)
        clear q0 q1 q2 q3 f0 f1 f2 f3 x0 x1 x2 x3 x4 x5 y0 y1 y2 y3 y4 y5 o1 o2 g1 g2 l1 l2
        obtain ⟨Dx, Ex, cdx, cex, ⟨q0, q1, q2, q3, f0, f1, f2, f3⟩, ⟨x0, x1, x2, x3, x4, x5, y0, y1, y2, y3, y4, y5⟩, -, -, -, -, -, -, habx⟩ := hbox
        have z2 := cell_lt x0
        simp at z2
        go_wp2
        refine bodyPost_ret (v := .tuple #[.agg #[.slice D3 (⟨⟨[], [], cap, false⟩, m, m⟩ : Wal.Log).dev.s.length cd3, .slice E3 (⟨⟨[], [], cap, false⟩, m, m⟩ : Wal.Log).dev.t.length ce3, .int .i64 (⟨⟨[], [], cap, false⟩, m, m⟩ : Wal.Log).dev.cap, .bool (⟨⟨[], [], cap, false⟩, m, m⟩ : Wal.Log).dev.down, .int .i64 (⟨⟨[], [], cap, false⟩, m, m⟩ : Wal.Log).first, .int .i64 (⟨⟨[], [], cap, false⟩, m, m⟩ : Wal.Log).next], .int .i64 0]) (by simp [results, Tryz.results69, go_sem, *]) rfl ?_
        exact ⟨⟨⟨[], [], cap, false⟩, m, m⟩, 0, D3, E3, cd3, ce3, Lib.hid HM.out.symm, rfl, OR.mono (lo := w2.heap.size) orA wnA, OR.mono (lo := w2.heap.size) orA wnA, abA⟩
      | true =>
        have HST := Lib.hid (show Disk.start ⟨s, t, cap, true⟩ = (⟨s, t, cap, false⟩, 0) by
          have h1 := HB.out
          rw [HT.out rfl] at h1 ⊢
          unfold Disk.start; rw [if_neg h1]; rfl)
        go_enter Tryz.func69, Tryz.ntmps69
        go_wp2_with fail
        refine (P0 _).mono ?_
        rintro e w1 ⟨rfl, hb1⟩
        have zq0 := hb1.at (p := ⟨w.heap.size + 1, 0, none⟩) (v := .slice none 0 0) (by simp [go_sem]); have zq1 := hb1.at (p := ⟨w.heap.size + 1, 1, none⟩) (v := .slice none 0 0) (by simp [go_sem]); have zq2 := hb1.at (p := ⟨w.heap.size + 1, 2, none⟩) (v := .int .i64 0) (by simp [go_sem]); have zq3 := hb1.at (p := ⟨w.heap.size + 1, 3, none⟩) (v := .bool false) (by simp [go_sem]); have zq4 := hb1.at (p := ⟨w.heap.size + 1, 4, none⟩) (v := .int .i64 0) (by simp [go_sem]); have zq5 := hb1.at (p := ⟨w.heap.size + 1, 5, none⟩) (v := .int .i64 0) (by simp [go_sem])
        have zr0 : w1.frozen? ⟨w.heap.size + 1, 0, none⟩ = false := (hb1.frozen (p := ⟨w.heap.size + 1, 0, none⟩) (by simp)).trans (by simp [go_sem]); have zr1 : w1.frozen? ⟨w.heap.size + 1, 1, none⟩ = false := (hb1.frozen (p := ⟨w.heap.size + 1, 1, none⟩) (by simp)).trans (by simp [go_sem]); have zr2 : w1.frozen? ⟨w.heap.size + 1, 2, none⟩ = false := (hb1.frozen (p := ⟨w.heap.size + 1, 2, none⟩) (by simp)).trans (by simp [go_sem]); have zr3 : w1.frozen? ⟨w.heap.size + 1, 3, none⟩ = false := (hb1.frozen (p := ⟨w.heap.size + 1, 3, none⟩) (by simp)).trans (by simp [go_sem]); have zr4 : w1.frozen? ⟨w.heap.size + 1, 4, none⟩ = false := (hb1.frozen (p := ⟨w.heap.size + 1, 4, none⟩) (by simp)).trans (by simp [go_sem]); have zr5 : w1.frozen? ⟨w.heap.size + 1, 5, none⟩ = false := (hb1.frozen (p := ⟨w.heap.size + 1, 5, none⟩) (by simp)).trans (by simp [go_sem])
        have bq0 := hb1.at (p := ⟨w.heap.size, 0, none⟩) (v := .slice A s.length ca) ckA; have bq1 := hb1.at (p := ⟨w.heap.size, 1, none⟩) (v := .slice B t.length cb) ckA; have bq2 := hb1.at (p := ⟨w.heap.size, 2, none⟩) (v := .int .i64 cap) ckA; have bq3 := hb1.at (p := ⟨w.heap.size, 3, none⟩) (v := .bool true) ckA
        have z1 := hb1.size
        simp at z1
        have hb0 : OpBox w ⟨s, t, cap, true⟩ w1 := ⟨A, B, ca, cb, ⟨bq0, bq1, bq2, bq3, (hb1.frozen (p := ⟨w.heap.size, 0, none⟩) (by simp; omega)).trans (by simp [go_sem]), (hb1.frozen (p := ⟨w.heap.size, 1, none⟩) (by simp; omega)).trans (by simp [go_sem]),
            (hb1.frozen (p := ⟨w.heap.size, 2, none⟩) (by simp; omega)).trans (by simp [go_sem]), (hb1.frozen (p := ⟨w.heap.size, 3, none⟩) (by simp; omega)).trans (by simp [go_sem])⟩, ⟨zq0, zq1, zq2, zq3, zq4, zq5, zr0, zr1, zr2, zr3, zr4, zr5⟩,
            hs.ab abA, ht.ab abA, hca, hcb, FarB.old hs, FarB.old ht, abA⟩
        go_wp2_with fail
        refine (start_any A B ca cb s t cap true _ (hs.ab abA) (ht.ab abA) hca hcb ls lt).mono ?_
        rintro e wa ⟨r, er, Da, Ea, cda, cea, hr, rfl, oa1, oa2, hba⟩
        obtain ⟨rfl, rfl⟩ := Prod.mk.inj (hr.out.trans HST.out)
        clear hr
        simp only at oa1 oa2
        simp only
        have hb1a := hb0.ab (show Ab w1 wa from abA)
        have hb0 := hb1a.put (r := ⟨s, t, cap, false⟩) oa1 oa2 (by first | (simp; done) | omega | (simp; omega))
        obtain ⟨Dx, Ex, cdx, cex, ⟨q0, q1, q2, q3, f0, f1, f2, f3⟩, ⟨x0, x1, x2, x3, x4, x5, y0, y1, y2, y3, y4, y5⟩, -, -, -, -, -, -, habx⟩ := hb1a
        clear zq0 zq1 zq2 zq3 zq4 zq5 zr0 zr1 zr2 zr3 zr4 zr5 bq0 bq1 bq2 bq3
        go_wp2_with fail
        have zwa := cell_lt x0
        simp at zwa
        clear q0 q1 q2 q3 f0 f1 f2 f3 x0 x1 x2 x3 x4 x5 y0 y1 y2 y3 y4 y5
        refine (wscan_any Da Ea cda cea s t cap _ (oa1.rb.zero.far4 (FarB.new oa1 (by first | (simp; done) | omega | (simp; omega)))) (oa2.rb.zero.far4 (FarB.new oa2 (by first | (simp; done) | omega | (simp; omega)))) oa1.le oa2.le HU.out).mono ?_
        rintro e w2 ⟨X, dx, ys, u2, hS2, hE2, rfl, hEn, hd, hb2⟩
        replace hb0 := hb0.ab hb2
        have hEn : Ents w2 (w.heap.size + 1 + 1) X ys := hEn.mono wnA
        clear hb1 hb2 hba habx oa1 oa2
        have hyl : ys.length = rs.length := by rw [← erecs_length, (Frame.scan_unique hS2.out HSC.out).1]
        have HYL := Lib.hid hyl
        have HR := Lib.hid (Frame.scan_unique hS2.out HSC.out).1
        have hys0 : 0 < ys.length := by omega
        have hys1 : ys.length ≤ 20000 := by omega
        have hne0 : ((ys.length : Int) == 0) = false := by rw [beq_eq_false_iff_ne]; omega
        have B0 : ∀ w', Ab w2 w' → Calls Tryz.prog 106 #[.slice X ys.length dx] w' (fun e w'' => e = .returned (.int .i64 nb) ∧ w' = w'') := fun w' hw' =>
          behind_any X dx ys nb w' ((hEn.ab hw').mono (Nat.zero_le _)) (by rw [HR.out]; exact HF.out) hys0 (by omega) (by rw [HR.out, HNB.out, HYL.out])
        clear hyl
        have hb0c := hb0
        obtain ⟨D, E, cd, ce, ⟨q0, q1, q2, q3, f0, f1, f2, f3⟩, ⟨x0, x1, x2, x3, x4, x5, y0, y1, y2, y3, y4, y5⟩, o1, o2, l1, l2, g1, g2, hab⟩ := hb0
        have hEX : Ents w2 (w.heap.size + 1 + 1) X ys := hEn
        go_wp2_with fail
        refine (B0 _ abA).mono ?_
        rintro e w9 ⟨rfl, rfl⟩
        go_wp2_with fail
        have zw2 := cell_lt x0
        simp at zw2
        refine (truncate_any D E cd ce s t cap false _ (o1.ab abA) (o2.ab abA) l1 l2 ls lt 0).mono ?_
        rintro e w3 ⟨r, er, D3, E3, cd3, ce3, hr, rfl, o3, o4, hb3⟩
        obtain ⟨rfl, rfl⟩ := Prod.mk.inj (hr.out.trans HT0.out)
        clear hr
        simp only at o3 o4
        simp only
        have hbox := (OpBox.ab ⟨D, E, cd, ce, ⟨q0, q1, q2, q3, f0, f1, f2, f3⟩, ⟨x0, x1, x2, x3, x4, x5, y0, y1, y2, y3, y4, y5⟩, o1, o2, l1, l2, g1, g2, hab⟩ (show Ab w2 w3 from abA) : OpBox w ⟨s, t, cap, false⟩ w3)
        clear q0 q1 q2 q3 f0 f1 f2 f3 x0 x1 x2 x3 x4 x5 y0 y1 y2 y3 y4 y5 o1 o2 g1 g2 l1 l2
        obtain ⟨Dx, Ex, cdx, cex, ⟨q0, q1, q2, q3, f0, f1, f2, f3⟩, ⟨x0, x1, x2, x3, x4, x5, y0, y1, y2, y3, y4, y5⟩, -, -, -, -, -, -, habx⟩ := hbox
        have z2 := cell_lt x0
        simp at z2
        go_wp2
        refine bodyPost_ret (v := .tuple #[.agg #[.slice D3 (⟨⟨[], [], cap, false⟩, m, m⟩ : Wal.Log).dev.s.length cd3, .slice E3 (⟨⟨[], [], cap, false⟩, m, m⟩ : Wal.Log).dev.t.length ce3, .int .i64 (⟨⟨[], [], cap, false⟩, m, m⟩ : Wal.Log).dev.cap, .bool (⟨⟨[], [], cap, false⟩, m, m⟩ : Wal.Log).dev.down, .int .i64 (⟨⟨[], [], cap, false⟩, m, m⟩ : Wal.Log).first, .int .i64 (⟨⟨[], [], cap, false⟩, m, m⟩ : Wal.Log).next], .int .i64 0]) (by simp [results, Tryz.results69, go_sem, *]) rfl ?_
        exact ⟨⟨⟨[], [], cap, false⟩, m, m⟩, 0, D3, E3, cd3, ce3, Lib.hid HM.out.symm, rfl, OR.mono (lo := w2.heap.size) orA wnA, OR.mono (lo := w2.heap.size) orA wnA, abA⟩
    · have HM := Lib.hid (HM.out.trans (if_neg (by rw [← hnb]; omega)))
      have hgb : ¬ nb < m := hlt
      clear hr0 hnb hlt
      obtain ⟨sa, hsa0⟩ : ∃ sa, s.take u = sa := ⟨_, rfl⟩
      obtain ⟨ta, hta0⟩ : ∃ ta, t.take (u - s.length) = ta := ⟨_, rfl⟩
      obtain ⟨sb, hsb0⟩ : ∃ sb, sa ++ ta = sb := ⟨_, rfl⟩
      have HSB := Lib.hid (show (s ++ t).take u = sb by rw [← hsb0, ← hsa0, ← hta0, List.take_append])
      have HTU := Lib.hid (show Disk.truncate ⟨s, t, cap, false⟩ (u : Int) = (⟨sa, ta, cap, false⟩, 0) by
        unfold Disk.truncate
        rw [if_neg (by simpa using HU.out), if_neg (by simp only [Disk.Dev.size]; omega)]
        simp only [Int.toNat_natCast, hsa0, hta0])
      have hsa : sa.length ≤ 1000000 := by rw [← hsa0, List.length_take]; omega
      have hta : ta.length ≤ 1000000 := by rw [← hta0, List.length_take]; omega
      have hsta : sa.length + ta.length ≤ s.length + t.length := by rw [← hsa0, ← hta0, List.length_take, List.length_take]; omega
      have HSY := Lib.hid (show Disk.sync ⟨sa, ta, cap, false⟩ = (⟨sb, [], cap, false⟩, 0) by
        have h1 : Disk.up ⟨sa, ta, cap, false⟩ = 0 := Wal.up_mk hsz.1 hsz.2.1 (by omega)
        unfold Disk.sync
        rw [if_neg (by simpa using h1), hsb0])
      obtain ⟨bs, hbs⟩ : ∃ bs, bs = Wal.base rs := ⟨_, rfl⟩
      have HBS := Lib.hid hbs
      clear hsa0 hta0 hsb0 hbs
      cases dn with
      | false =>
        go_enter Tryz.func69, Tryz.ntmps69
        go_wp2_with fail
        refine (P0 _).mono ?_
        rintro e w1 ⟨rfl, hb1⟩
        have zq0 := hb1.at (p := ⟨w.heap.size + 1, 0, none⟩) (v := .slice none 0 0) (by simp [go_sem]); have zq1 := hb1.at (p := ⟨w.heap.size + 1, 1, none⟩) (v := .slice none 0 0) (by simp [go_sem]); have zq2 := hb1.at (p := ⟨w.heap.size + 1, 2, none⟩) (v := .int .i64 0) (by simp [go_sem]); have zq3 := hb1.at (p := ⟨w.heap.size + 1, 3, none⟩) (v := .bool false) (by simp [go_sem]); have zq4 := hb1.at (p := ⟨w.heap.size + 1, 4, none⟩) (v := .int .i64 0) (by simp [go_sem]); have zq5 := hb1.at (p := ⟨w.heap.size + 1, 5, none⟩) (v := .int .i64 0) (by simp [go_sem])
        have zr0 : w1.frozen? ⟨w.heap.size + 1, 0, none⟩ = false := (hb1.frozen (p := ⟨w.heap.size + 1, 0, none⟩) (by simp)).trans (by simp [go_sem]); have zr1 : w1.frozen? ⟨w.heap.size + 1, 1, none⟩ = false := (hb1.frozen (p := ⟨w.heap.size + 1, 1, none⟩) (by simp)).trans (by simp [go_sem]); have zr2 : w1.frozen? ⟨w.heap.size + 1, 2, none⟩ = false := (hb1.frozen (p := ⟨w.heap.size + 1, 2, none⟩) (by simp)).trans (by simp [go_sem]); have zr3 : w1.frozen? ⟨w.heap.size + 1, 3, none⟩ = false := (hb1.frozen (p := ⟨w.heap.size + 1, 3, none⟩) (by simp)).trans (by simp [go_sem]); have zr4 : w1.frozen? ⟨w.heap.size + 1, 4, none⟩ = false := (hb1.frozen (p := ⟨w.heap.size + 1, 4, none⟩) (by simp)).trans (by simp [go_sem]); have zr5 : w1.frozen? ⟨w.heap.size + 1, 5, none⟩ = false := (hb1.frozen (p := ⟨w.heap.size + 1, 5, none⟩) (by simp)).trans (by simp [go_sem])
        have bq0 := hb1.at (p := ⟨w.heap.size, 0, none⟩) (v := .slice A s.length ca) ckA; have bq1 := hb1.at (p := ⟨w.heap.size, 1, none⟩) (v := .slice B t.length cb) ckA; have bq2 := hb1.at (p := ⟨w.heap.size, 2, none⟩) (v := .int .i64 cap) ckA; have bq3 := hb1.at (p := ⟨w.heap.size, 3, none⟩) (v := .bool false) ckA
        have z1 := hb1.size
        simp at z1
        have hb0 : OpBox w ⟨s, t, cap, false⟩ w1 := ⟨A, B, ca, cb, ⟨bq0, bq1, bq2, bq3, (hb1.frozen (p := ⟨w.heap.size, 0, none⟩) (by simp; omega)).trans (by simp [go_sem]), (hb1.frozen (p := ⟨w.heap.size, 1, none⟩) (by simp; omega)).trans (by simp [go_sem]),
            (hb1.frozen (p := ⟨w.heap.size, 2, none⟩) (by simp; omega)).trans (by simp [go_sem]), (hb1.frozen (p := ⟨w.heap.size, 3, none⟩) (by simp; omega)).trans (by simp [go_sem])⟩, ⟨zq0, zq1, zq2, zq3, zq4, zq5, zr0, zr1, zr2, zr3, zr4, zr5⟩,
            hs.ab abA, ht.ab abA, hca, hcb, FarB.old hs, FarB.old ht, abA⟩
        go_wp2_with fail
        refine (wscan_any A B ca cb s t cap _ (hs.ab abA) (ht.ab abA) hca hcb HU.out).mono ?_
        rintro e w2 ⟨X, dx, ys, u2, hS2, hE2, rfl, hEn, hd, hb2⟩
        replace hb0 := hb0.ab (show Ab w1 w2 from abA)
        have hEn : Ents w2 (w.heap.size + 1 + 1) X ys := hEn.mono wnA
        clear zq0 zq1 zq2 zq3 zq4 zq5 zr0 zr1 zr2 zr3 zr4 zr5 bq0 bq1 bq2 bq3 hb1 hb2
        have hyl : ys.length = rs.length := by rw [← erecs_length, (Frame.scan_unique hS2.out HSC.out).1]
        have HYL := Lib.hid hyl
        have HR := Lib.hid (Frame.scan_unique hS2.out HSC.out).1
        have hys0 : 0 < ys.length := by omega
        have hys1 : ys.length ≤ 20000 := by omega
        have hne0 : ((ys.length : Int) == 0) = false := by rw [beq_eq_false_iff_ne]; omega
        have B0 : ∀ w', Ab w2 w' → Calls Tryz.prog 106 #[.slice X ys.length dx] w' (fun e w'' => e = .returned (.int .i64 nb) ∧ w' = w'') := fun w' hw' =>
          behind_any X dx ys nb w' ((hEn.ab hw').mono (Nat.zero_le _)) (by rw [HR.out]; exact HF.out) hys0 (by omega) (by rw [HR.out, HNB.out, HYL.out])
        clear hyl
        have hb0c := hb0
        obtain ⟨D, E, cd, ce, ⟨q0, q1, q2, q3, f0, f1, f2, f3⟩, ⟨x0, x1, x2, x3, x4, x5, y0, y1, y2, y3, y4, y5⟩, o1, o2, l1, l2, g1, g2, hab⟩ := hb0c
        go_upto_region 12 with ((refine (B0 _ abA).mono ?_
                                 rintro e w9 ⟨rfl, rfl⟩))
        have zw2 := cell_lt x0
        simp at zw2
        go_cut [5] (fun s5 wx => s5 = .int .i64 0 ∧ OpBox w ⟨sa, ta, cap, false⟩ wx ∧ Ents wx (w.heap.size + 1 + 1) X ys)
        case first =>
          refine wp_region_held_drew (by kernel_rfl) (S := fun _ => True) ?_ (fun hHeld => ?_)
          · (try trivial)
          (refine rtA 1 ?_ ?_
           (try simp only [Act.put, stA, st0, st1]))
          (refine wpAnyH_ready (rs := [0, 2]) (by kernel_rfl) (by simp) ?_)
          refine AllReadyH.cons rfl (fun K hK => ?_) (AllReadyH.cons rfl (fun K hK => ?_) AllReadyH.nil)
          · (go_simp
             (refine hK.out _ _ ?_ (fun hHeld => ?_)
              · (try dsimp only); (try trivial)
              clear hK K
              (try simp only [Act.put, stA, st0, st1])))
            refine r1A 2 (fun K hK => ?_)
            (go_simp
             ((go_at_call 108)
              refine (endOf_any X dx u ys _ ((hEn.ab abA).mono (Nat.zero_le _)) hE2.out (by omega) (by rw [HR.out]; exact HSU.out)).mono ?_
              rintro e w8 ⟨rfl, rfl⟩)
             (try go_wp2_with fail)
             (refine hK.out _ _ ?_ (fun hHeld => ?_)
              · (try dsimp only); (try trivial)
              clear hK K
              (try simp only [Act.put, stA, st0, st1])))
            refine r1A 3 (fun K hK => ?_)
            (go_simp
             ((go_at_call 107)
              refine (truncate_any D E cd ce s t cap false _ (o1.ab abA) (o2.ab abA) l1 l2 ls lt (u : Int)).mono ?_
              rintro e w3 ⟨r, er, D3, E3, cd3, ce3, hr, rfl, o3, o4, hb3⟩
              obtain ⟨rfl, rfl⟩ := Prod.mk.inj (hr.out.trans HTU.out)
              clear hr
              simp only at o3 o4
              simp only
              have hb23 : Ab w2 w3 := abA
              have hbox3 := hb0.ab hb23
              obtain ⟨Dx, Ex, cdx, cex, ⟨p0, p1, p2, p3, k0, k1, k2, k3⟩, ⟨v0, v1, v2, v3, v4, v5, j0, j1, j2, j3, j4, j5⟩, -, -, -, -, -, -, -⟩ := hbox3
              have zv3 := cell_lt v0
              simp at zv3)
             (try go_wp2_with fail)
             (refine hK.out _ _ ?_ (fun hHeld => ?_)
              · (try dsimp only); (try trivial)
              clear hK K
              (try simp only [Act.put, stA, st0, st1])))
            (refine rtA 4 ?_ ?_
             (try simp only [Act.put, stA, st0, st1]))
            (refine rtA 5 ?_ ?_
             (try simp only [Act.put, stA, st0, st1]))
            (refine rtA 6 ?_ ?_
             (try simp only [Act.put, stA, st0, st1]))
            refine r1A 7 (fun K hK => ?_)
            (go_simp
             (refine hK.out _ _ ?_ (fun hHeld => ?_)
              · (try dsimp only); (try trivial)
              clear hK K
              (try simp only [Act.put, stA, st0, st1])))
            refine wpAnyH_done (by kernel_rfl) ?_ _
            go_wp2_with fail
            go_meet
            refine ⟨rfl, (hb0.ab hb23).put (r := ⟨sa, ta, cap, false⟩) o3 o4 (by first | (simp; done) | omega | (simp; omega)), ?_⟩
            have hE3 := hEn.ab hb23
            repeat (first | with_reducible exact hE3 | with_reducible refine Ents.set ?_ wnA _)
          · (go_simp
             ((go_at_call 108)
              refine (endOf_any X dx u ys _ ((hEn.ab abA).mono (Nat.zero_le _)) hE2.out (by omega) (by rw [HR.out]; exact HSU.out)).mono ?_
              rintro e w8 ⟨rfl, rfl⟩)
             (try go_wp2_with fail)
             (refine hK.out _ _ ?_ (fun hHeld => ?_)
              · (try dsimp only); (try trivial)
              clear hK K
              (try simp only [Act.put, stA, st0, st1])))
            refine r1A 0 (fun K hK => ?_)
            (go_simp
             (refine hK.out _ _ ?_ (fun hHeld => ?_)
              · (try dsimp only); (try trivial)
              clear hK K
              (try simp only [Act.put, stA, st0, st1])))
            refine r1A 3 (fun K hK => ?_)
            (go_simp
             ((go_at_call 107)
              refine (truncate_any D E cd ce s t cap false _ (o1.ab abA) (o2.ab abA) l1 l2 ls lt (u : Int)).mono ?_
              rintro e w3 ⟨r, er, D3, E3, cd3, ce3, hr, rfl, o3, o4, hb3⟩
              obtain ⟨rfl, rfl⟩ := Prod.mk.inj (hr.out.trans HTU.out)
              clear hr
              simp only at o3 o4
              simp only
              have hb23 : Ab w2 w3 := abA
              have hbox3 := hb0.ab hb23
              obtain ⟨Dx, Ex, cdx, cex, ⟨p0, p1, p2, p3, k0, k1, k2, k3⟩, ⟨v0, v1, v2, v3, v4, v5, j0, j1, j2, j3, j4, j5⟩, -, -, -, -, -, -, -⟩ := hbox3
              have zv3 := cell_lt v0
              simp at zv3)
             (try go_wp2_with fail)
             (refine hK.out _ _ ?_ (fun hHeld => ?_)
              · (try dsimp only); (try trivial)
              clear hK K
              (try simp only [Act.put, stA, st0, st1])))
            (refine rtA 4 ?_ ?_
             (try simp only [Act.put, stA, st0, st1]))
            (refine rtA 5 ?_ ?_
             (try simp only [Act.put, stA, st0, st1]))
            (refine rtA 6 ?_ ?_
             (try simp only [Act.put, stA, st0, st1]))
            refine r1A 7 (fun K hK => ?_)
            (go_simp
             (refine hK.out _ _ ?_ (fun hHeld => ?_)
              · (try dsimp only); (try trivial)
              clear hK K
              (try simp only [Act.put, stA, st0, st1])))
            refine wpAnyH_done (by kernel_rfl) ?_ _
            go_wp2_with fail
            go_meet
            refine ⟨rfl, (hb0.ab hb23).put (r := ⟨sa, ta, cap, false⟩) o3 o4 (by first | (simp; done) | omega | (simp; omega)), ?_⟩
            have hE3 := hEn.ab hb23
            repeat (first | with_reducible exact hE3 | with_reducible refine Ents.set ?_ wnA _)
        obtain ⟨rfl, hbc, hEc⟩ := hcut
        clear q0 q1 q2 q3 f0 f1 f2 f3 x0 x1 x2 x3 x4 x5 y0 y1 y2 y3 y4 y5 o1 o2 g1 g2 l1 l2 B0 hab
        have hbc0 := hbc
        obtain ⟨D, E, cd, ce, ⟨q0, q1, q2, q3, f0, f1, f2, f3⟩, ⟨x0, x1, x2, x3, x4, x5, y0, y1, y2, y3, y4, y5⟩, o1, o2, l1, l2, g1, g2, hab⟩ := hbc
        have hwc : Ab w wc := hab
        go_wp2_with fail
        refine (sync_any D E cd ce sa ta cap false _ (o1.ab abA) (o2.ab abA) l1 l2 hsa hta).mono ?_
        rintro e w3 ⟨r, er, D3, E3, cd3, ce3, hr, rfl, o3, o4, hb3⟩
        obtain ⟨rfl, rfl⟩ := Prod.mk.inj (hr.out.trans HSY.out)
        clear hr
        simp only at o3 o4
        simp only
        have hb03 : Ab wc w3 := abA
        have zc3 := cell_lt x0
        simp at zc3
        have hbox3 := hbc0.ab hb03
        have hboxX := hbox3.put (r := ⟨sb, [], cap, false⟩) o3 o4 (by first | (simp; done) | omega | (simp; omega))
        have hE3 := hEc.ab hb03
        clear q0 q1 q2 q3 f0 f1 f2 f3 x0 x1 x2 x3 x4 x5 y0 y1 y2 y3 y4 y5 o1 o2 g1 g2 l1 l2 hab
        obtain ⟨Dx, Ex, cdx, cex, ⟨q0, q1, q2, q3, f0, f1, f2, f3⟩, ⟨x0, x1, x2, x3, x4, x5, y0, y1, y2, y3, y4, y5⟩, -, -, -, -, -, -, -⟩ := hbox3
        obtain ⟨a, hXa, hablk, c0, -⟩ := hE3.at_ hys0
        have c0' : w3.cell? a = some (.int .i64 bs) := by
          have h8 : ys[0].x.num = bs := by
            have h7 := Wal.num_at HF.out 0 hrs0
            have h6 := erecs_get ys 0 hys0
            simp only [HR.out] at h6
            rw [h6] at h7
            rw [HBS.out]
            simpa [RecM.r] using h7
          rw [← h8]
          exact c0
        have B1 : ∀ w', Ents w' (w.heap.size + 1 + 1) X ys → Calls Tryz.prog 106 #[.slice (some a) ys.length dx] w' (fun e w'' => e = .returned (.int .i64 nb) ∧ w' = w'') := fun w' hw' => by
          rw [← hXa]
          exact behind_any X dx ys nb w' (hw'.mono (Nat.zero_le _)) (by rw [HR.out]; exact HF.out) hys0 (by omega) (by rw [HR.out, HNB.out, HYL.out])
        clear c0 hboxX hbc0
        subst hXa
        have hi0 : (0 : Int) < (ys.length : Int) := by omega
        go_wp2_with fail
        refine wp_region_held_drew (by kernel_rfl) (S := fun w' => w'.cell? ⟨w.heap.size, 0, none⟩ = some (.slice D3 sb.length cd3) ∧ w'.cell? ⟨w.heap.size, 1, none⟩ = some (.slice E3 0 ce3) ∧ w'.cell? ⟨w.heap.size, 2, none⟩ = some (.int .i64 cap) ∧ w'.cell? ⟨w.heap.size, 3, none⟩ = some (.bool false) ∧ w'.cell? a = some (.int .i64 bs)) ?_ (fun hHeld => ?_)
        · (refine ⟨?_, ?_, ?_, ?_, ?_⟩ <;> (first | (simp [go_sem, *]; done) | (exact ckA)))
        (refine rtA 0 ?_ ?_
         (try simp only [Act.put, stA, st0, st1]))
        (refine rtA 1 ?_ ?_
         (try simp only [Act.put, stA, st0, st1]))
        (refine rtA 2 ?_ ?_
         (try simp only [Act.put, stA, st0, st1]))
        (refine rtA 3 ?_ ?_
         (try simp only [Act.put, stA, st0, st1]))
        (refine rtA 4 ?_ ?_
         (try simp only [Act.put, stA, st0, st1]))
        (refine rtA 5 ?_ ?_
         (try simp only [Act.put, stA, st0, st1]))
        (refine rtA 6 ?_ ?_
         (try simp only [Act.put, stA, st0, st1]))
        refine r1A 7 (fun K hK => ?_)
        (go_simp
         ((go_at_call 106)
          refine (B1 _ (by repeat (first | with_reducible exact hE3 | with_reducible refine Ents.drewW ?_ | with_reducible refine Ents.set ?_ wnA _))).mono ?_
          rintro e w8 ⟨rfl, rfl⟩)
         (try go_wp2_with fail)
         (refine hK.out _ _ ?_ (fun hHeld => ?_)
          · (try dsimp only); (refine ⟨?_, ?_, ?_, ?_, ?_⟩ <;> (first | (simp [go_sem, *]; done) | (exact ckA)))
          clear hK K
          (try simp only [Act.put, stA, st0, st1])))
        (refine rtA 8 ?_ ?_
         (try simp only [Act.put, stA, st0, st1]))
        refine r1A 9 (fun K hK => ?_)
        (go_simp
         (refine hK.out _ _ ?_ (fun hHeld => ?_)
          · (try dsimp only); (refine ⟨?_, ?_, ?_, ?_, ?_⟩ <;> (first | (simp [go_sem, *]; done) | (exact ckA)))
          clear hK K
          (try simp only [Act.put, stA, st0, st1])))
        refine r1A 10 (fun K hK => ?_)
        (go_simp
         (refine hK.out _ _ ?_ (fun hHeld => ?_)
          · (try dsimp only); (refine ⟨?_, ?_, ?_, ?_, ?_⟩ <;> (first | (simp [go_sem, *]; done) | (exact ckA)))
          clear hK K
          (try simp only [Act.put, stA, st0, st1])))
        refine wpAnyH_done (by kernel_rfl) ?_ _
        go_wp2
        refine bodyPost_ret (v := .tuple #[.agg #[.slice D3 (⟨⟨sb, [], cap, false⟩, bs, nb⟩ : Wal.Log).dev.s.length cd3, .slice E3 (⟨⟨sb, [], cap, false⟩, bs, nb⟩ : Wal.Log).dev.t.length ce3, .int .i64 (⟨⟨sb, [], cap, false⟩, bs, nb⟩ : Wal.Log).dev.cap, .bool (⟨⟨sb, [], cap, false⟩, bs, nb⟩ : Wal.Log).dev.down, .int .i64 (⟨⟨sb, [], cap, false⟩, bs, nb⟩ : Wal.Log).first, .int .i64 (⟨⟨sb, [], cap, false⟩, bs, nb⟩ : Wal.Log).next], .int .i64 0]) (by simp [results, Tryz.results69, go_sem, *]) rfl ?_
        exact ⟨⟨⟨sb, [], cap, false⟩, bs, nb⟩, 0, D3, E3, cd3, ce3, Lib.hid (by rw [HM.out, HSB.out, HNB.out, HBS.out]), rfl, OR.mono (lo := wc.heap.size) orA wnA, OR.mono (lo := wc.heap.size) orA wnA, abA⟩
      | true =>
        have HST := Lib.hid (show Disk.start ⟨s, t, cap, true⟩ = (⟨s, t, cap, false⟩, 0) by
          have h1 := HB.out
          rw [HT.out rfl] at h1 ⊢
          unfold Disk.start; rw [if_neg h1]; rfl)
        go_enter Tryz.func69, Tryz.ntmps69
        go_wp2_with fail
        refine (P0 _).mono ?_
        rintro e w1 ⟨rfl, hb1⟩
        have zq0 := hb1.at (p := ⟨w.heap.size + 1, 0, none⟩) (v := .slice none 0 0) (by simp [go_sem]); have zq1 := hb1.at (p := ⟨w.heap.size + 1, 1, none⟩) (v := .slice none 0 0) (by simp [go_sem]); have zq2 := hb1.at (p := ⟨w.heap.size + 1, 2, none⟩) (v := .int .i64 0) (by simp [go_sem]); have zq3 := hb1.at (p := ⟨w.heap.size + 1, 3, none⟩) (v := .bool false) (by simp [go_sem]); have zq4 := hb1.at (p := ⟨w.heap.size + 1, 4, none⟩) (v := .int .i64 0) (by simp [go_sem]); have zq5 := hb1.at (p := ⟨w.heap.size + 1, 5, none⟩) (v := .int .i64 0) (by simp [go_sem])
        have zr0 : w1.frozen? ⟨w.heap.size + 1, 0, none⟩ = false := (hb1.frozen (p := ⟨w.heap.size + 1, 0, none⟩) (by simp)).trans (by simp [go_sem]); have zr1 : w1.frozen? ⟨w.heap.size + 1, 1, none⟩ = false := (hb1.frozen (p := ⟨w.heap.size + 1, 1, none⟩) (by simp)).trans (by simp [go_sem]); have zr2 : w1.frozen? ⟨w.heap.size + 1, 2, none⟩ = false := (hb1.frozen (p := ⟨w.heap.size + 1, 2, none⟩) (by simp)).trans (by simp [go_sem]); have zr3 : w1.frozen? ⟨w.heap.size + 1, 3, none⟩ = false := (hb1.frozen (p := ⟨w.heap.size + 1, 3, none⟩) (by simp)).trans (by simp [go_sem]); have zr4 : w1.frozen? ⟨w.heap.size + 1, 4, none⟩ = false := (hb1.frozen (p := ⟨w.heap.size + 1, 4, none⟩) (by simp)).trans (by simp [go_sem]); have zr5 : w1.frozen? ⟨w.heap.size + 1, 5, none⟩ = false := (hb1.frozen (p := ⟨w.heap.size + 1, 5, none⟩) (by simp)).trans (by simp [go_sem])
        have bq0 := hb1.at (p := ⟨w.heap.size, 0, none⟩) (v := .slice A s.length ca) ckA; have bq1 := hb1.at (p := ⟨w.heap.size, 1, none⟩) (v := .slice B t.length cb) ckA; have bq2 := hb1.at (p := ⟨w.heap.size, 2, none⟩) (v := .int .i64 cap) ckA; have bq3 := hb1.at (p := ⟨w.heap.size, 3, none⟩) (v := .bool true) ckA
        have z1 := hb1.size
        simp at z1
        have hb0 : OpBox w ⟨s, t, cap, true⟩ w1 := ⟨A, B, ca, cb, ⟨bq0, bq1, bq2, bq3, (hb1.frozen (p := ⟨w.heap.size, 0, none⟩) (by simp; omega)).trans (by simp [go_sem]), (hb1.frozen (p := ⟨w.heap.size, 1, none⟩) (by simp; omega)).trans (by simp [go_sem]),
            (hb1.frozen (p := ⟨w.heap.size, 2, none⟩) (by simp; omega)).trans (by simp [go_sem]), (hb1.frozen (p := ⟨w.heap.size, 3, none⟩) (by simp; omega)).trans (by simp [go_sem])⟩, ⟨zq0, zq1, zq2, zq3, zq4, zq5, zr0, zr1, zr2, zr3, zr4, zr5⟩,
            hs.ab abA, ht.ab abA, hca, hcb, FarB.old hs, FarB.old ht, abA⟩
        go_wp2_with fail
        refine (start_any A B ca cb s t cap true _ (hs.ab abA) (ht.ab abA) hca hcb ls lt).mono ?_
        rintro e wa ⟨r, er, Da, Ea, cda, cea, hr, rfl, oa1, oa2, hba⟩
        obtain ⟨rfl, rfl⟩ := Prod.mk.inj (hr.out.trans HST.out)
        clear hr
        simp only at oa1 oa2
        simp only
        have hb1a := hb0.ab (show Ab w1 wa from abA)
        have hb0 := hb1a.put (r := ⟨s, t, cap, false⟩) oa1 oa2 (by first | (simp; done) | omega | (simp; omega))
        obtain ⟨Dx, Ex, cdx, cex, ⟨q0, q1, q2, q3, f0, f1, f2, f3⟩, ⟨x0, x1, x2, x3, x4, x5, y0, y1, y2, y3, y4, y5⟩, -, -, -, -, -, -, habx⟩ := hb1a
        clear zq0 zq1 zq2 zq3 zq4 zq5 zr0 zr1 zr2 zr3 zr4 zr5 bq0 bq1 bq2 bq3
        go_wp2_with fail
        have zwa := cell_lt x0
        simp at zwa
        clear q0 q1 q2 q3 f0 f1 f2 f3 x0 x1 x2 x3 x4 x5 y0 y1 y2 y3 y4 y5
        refine (wscan_any Da Ea cda cea s t cap _ (oa1.rb.zero.far4 (FarB.new oa1 (by first | (simp; done) | omega | (simp; omega)))) (oa2.rb.zero.far4 (FarB.new oa2 (by first | (simp; done) | omega | (simp; omega)))) oa1.le oa2.le HU.out).mono ?_
        rintro e w2 ⟨X, dx, ys, u2, hS2, hE2, rfl, hEn, hd, hb2⟩
        replace hb0 := hb0.ab hb2
        have hEn : Ents w2 (w.heap.size + 1 + 1) X ys := hEn.mono wnA
        clear hb1 hb2 hba habx oa1 oa2
        have hyl : ys.length = rs.length := by rw [← erecs_length, (Frame.scan_unique hS2.out HSC.out).1]
        have HYL := Lib.hid hyl
        have HR := Lib.hid (Frame.scan_unique hS2.out HSC.out).1
        have hys0 : 0 < ys.length := by omega
        have hys1 : ys.length ≤ 20000 := by omega
        have hne0 : ((ys.length : Int) == 0) = false := by rw [beq_eq_false_iff_ne]; omega
        have B0 : ∀ w', Ab w2 w' → Calls Tryz.prog 106 #[.slice X ys.length dx] w' (fun e w'' => e = .returned (.int .i64 nb) ∧ w' = w'') := fun w' hw' =>
          behind_any X dx ys nb w' ((hEn.ab hw').mono (Nat.zero_le _)) (by rw [HR.out]; exact HF.out) hys0 (by omega) (by rw [HR.out, HNB.out, HYL.out])
        clear hyl
        have hb0c := hb0
        obtain ⟨D, E, cd, ce, ⟨q0, q1, q2, q3, f0, f1, f2, f3⟩, ⟨x0, x1, x2, x3, x4, x5, y0, y1, y2, y3, y4, y5⟩, o1, o2, l1, l2, g1, g2, hab⟩ := hb0c
        go_upto_region 12 with ((refine (B0 _ abA).mono ?_
                                 rintro e w9 ⟨rfl, rfl⟩))
        have zw2 := cell_lt x0
        simp at zw2
        go_cut [5] (fun s5 wx => s5 = .int .i64 0 ∧ OpBox w ⟨sa, ta, cap, false⟩ wx ∧ Ents wx (w.heap.size + 1 + 1) X ys)
        case first =>
          refine wp_region_held_drew (by kernel_rfl) (S := fun _ => True) ?_ (fun hHeld => ?_)
          · (try trivial)
          (refine rtA 1 ?_ ?_
           (try simp only [Act.put, stA, st0, st1]))
          (refine wpAnyH_ready (rs := [0, 2]) (by kernel_rfl) (by simp) ?_)
          refine AllReadyH.cons rfl (fun K hK => ?_) (AllReadyH.cons rfl (fun K hK => ?_) AllReadyH.nil)
          · (go_simp
             (refine hK.out _ _ ?_ (fun hHeld => ?_)
              · (try dsimp only); (try trivial)
              clear hK K
              (try simp only [Act.put, stA, st0, st1])))
            refine r1A 2 (fun K hK => ?_)
            (go_simp
             ((go_at_call 108)
              refine (endOf_any X dx u ys _ ((hEn.ab abA).mono (Nat.zero_le _)) hE2.out (by omega) (by rw [HR.out]; exact HSU.out)).mono ?_
              rintro e w8 ⟨rfl, rfl⟩)
             (try go_wp2_with fail)
             (refine hK.out _ _ ?_ (fun hHeld => ?_)
              · (try dsimp only); (try trivial)
              clear hK K
              (try simp only [Act.put, stA, st0, st1])))
            refine r1A 3 (fun K hK => ?_)
            (go_simp
             ((go_at_call 107)
              refine (truncate_any D E cd ce s t cap false _ (o1.ab abA) (o2.ab abA) l1 l2 ls lt (u : Int)).mono ?_
              rintro e w3 ⟨r, er, D3, E3, cd3, ce3, hr, rfl, o3, o4, hb3⟩
              obtain ⟨rfl, rfl⟩ := Prod.mk.inj (hr.out.trans HTU.out)
              clear hr
              simp only at o3 o4
              simp only
              have hb23 : Ab w2 w3 := abA
              have hbox3 := hb0.ab hb23
              obtain ⟨Dx, Ex, cdx, cex, ⟨p0, p1, p2, p3, k0, k1, k2, k3⟩, ⟨v0, v1, v2, v3, v4, v5, j0, j1, j2, j3, j4, j5⟩, -, -, -, -, -, -, -⟩ := hbox3
              have zv3 := cell_lt v0
              simp at zv3)
             (try go_wp2_with fail)
             (refine hK.out _ _ ?_ (fun hHeld => ?_)
              · (try dsimp only); (try trivial)
              clear hK K
              (try simp only [Act.put, stA, st0, st1])))
            (refine rtA 4 ?_ ?_
             (try simp only [Act.put, stA, st0, st1]))
            (refine rtA 5 ?_ ?_
             (try simp only [Act.put, stA, st0, st1]))
            (refine rtA 6 ?_ ?_
             (try simp only [Act.put, stA, st0, st1]))
            refine r1A 7 (fun K hK => ?_)
            (go_simp
             (refine hK.out _ _ ?_ (fun hHeld => ?_)
              · (try dsimp only); (try trivial)
              clear hK K
              (try simp only [Act.put, stA, st0, st1])))
            refine wpAnyH_done (by kernel_rfl) ?_ _
            go_wp2_with fail
            go_meet
            refine ⟨rfl, (hb0.ab hb23).put (r := ⟨sa, ta, cap, false⟩) o3 o4 (by first | (simp; done) | omega | (simp; omega)), ?_⟩
            have hE3 := hEn.ab hb23
            repeat (first | with_reducible exact hE3 | with_reducible refine Ents.set ?_ wnA _)
          · (go_simp
             ((go_at_call 108)
              refine (endOf_any X dx u ys _ ((hEn.ab abA).mono (Nat.zero_le _)) hE2.out (by omega) (by rw [HR.out]; exact HSU.out)).mono ?_
              rintro e w8 ⟨rfl, rfl⟩)
             (try go_wp2_with fail)
             (refine hK.out _ _ ?_ (fun hHeld => ?_)
              · (try dsimp only); (try trivial)
              clear hK K
              (try simp only [Act.put, stA, st0, st1])))
            refine r1A 0 (fun K hK => ?_)
            (go_simp
             (refine hK.out _ _ ?_ (fun hHeld => ?_)
              · (try dsimp only); (try trivial)
              clear hK K
              (try simp only [Act.put, stA, st0, st1])))
            refine r1A 3 (fun K hK => ?_)
            (go_simp
             ((go_at_call 107)
              refine (truncate_any D E cd ce s t cap false _ (o1.ab abA) (o2.ab abA) l1 l2 ls lt (u : Int)).mono ?_
              rintro e w3 ⟨r, er, D3, E3, cd3, ce3, hr, rfl, o3, o4, hb3⟩
              obtain ⟨rfl, rfl⟩ := Prod.mk.inj (hr.out.trans HTU.out)
              clear hr
              simp only at o3 o4
              simp only
              have hb23 : Ab w2 w3 := abA
              have hbox3 := hb0.ab hb23
              obtain ⟨Dx, Ex, cdx, cex, ⟨p0, p1, p2, p3, k0, k1, k2, k3⟩, ⟨v0, v1, v2, v3, v4, v5, j0, j1, j2, j3, j4, j5⟩, -, -, -, -, -, -, -⟩ := hbox3
              have zv3 := cell_lt v0
              simp at zv3)
             (try go_wp2_with fail)
             (refine hK.out _ _ ?_ (fun hHeld => ?_)
              · (try dsimp only); (try trivial)
              clear hK K
              (try simp only [Act.put, stA, st0, st1])))
            (refine rtA 4 ?_ ?_
             (try simp only [Act.put, stA, st0, st1]))
            (refine rtA 5 ?_ ?_
             (try simp only [Act.put, stA, st0, st1]))
            (refine rtA 6 ?_ ?_
             (try simp only [Act.put, stA, st0, st1]))
            refine r1A 7 (fun K hK => ?_)
            (go_simp
             (refine hK.out _ _ ?_ (fun hHeld => ?_)
              · (try dsimp only); (try trivial)
              clear hK K
              (try simp only [Act.put, stA, st0, st1])))
            refine wpAnyH_done (by kernel_rfl) ?_ _
            go_wp2_with fail
            go_meet
            refine ⟨rfl, (hb0.ab hb23).put (r := ⟨sa, ta, cap, false⟩) o3 o4 (by first | (simp; done) | omega | (simp; omega)), ?_⟩
            have hE3 := hEn.ab hb23
            repeat (first | with_reducible exact hE3 | with_reducible refine Ents.set ?_ wnA _)
        obtain ⟨rfl, hbc, hEc⟩ := hcut
        clear q0 q1 q2 q3 f0 f1 f2 f3 x0 x1 x2 x3 x4 x5 y0 y1 y2 y3 y4 y5 o1 o2 g1 g2 l1 l2 B0 hab
        have hbc0 := hbc
        obtain ⟨D, E, cd, ce, ⟨q0, q1, q2, q3, f0, f1, f2, f3⟩, ⟨x0, x1, x2, x3, x4, x5, y0, y1, y2, y3, y4, y5⟩, o1, o2, l1, l2, g1, g2, hab⟩ := hbc
        have hwc : Ab w wc := hab
        go_wp2_with fail
        refine (sync_any D E cd ce sa ta cap false _ (o1.ab abA) (o2.ab abA) l1 l2 hsa hta).mono ?_
        rintro e w3 ⟨r, er, D3, E3, cd3, ce3, hr, rfl, o3, o4, hb3⟩
        obtain ⟨rfl, rfl⟩ := Prod.mk.inj (hr.out.trans HSY.out)
        clear hr
        simp only at o3 o4
        simp only
        have hb03 : Ab wc w3 := abA
        have zc3 := cell_lt x0
        simp at zc3
        have hbox3 := hbc0.ab hb03
        have hboxX := hbox3.put (r := ⟨sb, [], cap, false⟩) o3 o4 (by first | (simp; done) | omega | (simp; omega))
        have hE3 := hEc.ab hb03
        clear q0 q1 q2 q3 f0 f1 f2 f3 x0 x1 x2 x3 x4 x5 y0 y1 y2 y3 y4 y5 o1 o2 g1 g2 l1 l2 hab
        obtain ⟨Dx, Ex, cdx, cex, ⟨q0, q1, q2, q3, f0, f1, f2, f3⟩, ⟨x0, x1, x2, x3, x4, x5, y0, y1, y2, y3, y4, y5⟩, -, -, -, -, -, -, -⟩ := hbox3
        obtain ⟨a, hXa, hablk, c0, -⟩ := hE3.at_ hys0
        have c0' : w3.cell? a = some (.int .i64 bs) := by
          have h8 : ys[0].x.num = bs := by
            have h7 := Wal.num_at HF.out 0 hrs0
            have h6 := erecs_get ys 0 hys0
            simp only [HR.out] at h6
            rw [h6] at h7
            rw [HBS.out]
            simpa [RecM.r] using h7
          rw [← h8]
          exact c0
        have B1 : ∀ w', Ents w' (w.heap.size + 1 + 1) X ys → Calls Tryz.prog 106 #[.slice (some a) ys.length dx] w' (fun e w'' => e = .returned (.int .i64 nb) ∧ w' = w'') := fun w' hw' => by
          rw [← hXa]
          exact behind_any X dx ys nb w' (hw'.mono (Nat.zero_le _)) (by rw [HR.out]; exact HF.out) hys0 (by omega) (by rw [HR.out, HNB.out, HYL.out])
        clear c0 hboxX hbc0
        subst hXa
        have hi0 : (0 : Int) < (ys.length : Int) := by omega
        go_wp2_with fail
        refine wp_region_held_drew (by kernel_rfl) (S := fun w' => w'.cell? ⟨w.heap.size, 0, none⟩ = some (.slice D3 sb.length cd3) ∧ w'.cell? ⟨w.heap.size, 1, none⟩ = some (.slice E3 0 ce3) ∧ w'.cell? ⟨w.heap.size, 2, none⟩ = some (.int .i64 cap) ∧ w'.cell? ⟨w.heap.size, 3, none⟩ = some (.bool false) ∧ w'.cell? a = some (.int .i64 bs)) ?_ (fun hHeld => ?_)
        · (refine ⟨?_, ?_, ?_, ?_, ?_⟩ <;> (first | (simp [go_sem, *]; done) | (exact ckA)))
        (refine rtA 0 ?_ ?_
         (try simp only [Act.put, stA, st0, st1]))
        (refine rtA 1 ?_ ?_
         (try simp only [Act.put, stA, st0, st1]))
        (refine rtA 2 ?_ ?_
         (try simp only [Act.put, stA, st0, st1]))
        (refine rtA 3 ?_ ?_
         (try simp only [Act.put, stA, st0, st1]))
        (refine rtA 4 ?_ ?_
         (try simp only [Act.put, stA, st0, st1]))
        (refine rtA 5 ?_ ?_
         (try simp only [Act.put, stA, st0, st1]))
        (refine rtA 6 ?_ ?_
         (try simp only [Act.put, stA, st0, st1]))
        refine r1A 7 (fun K hK => ?_)
        (go_simp
         ((go_at_call 106)
          refine (B1 _ (by repeat (first | with_reducible exact hE3 | with_reducible refine Ents.drewW ?_ | with_reducible refine Ents.set ?_ wnA _))).mono ?_
          rintro e w8 ⟨rfl, rfl⟩)
         (try go_wp2_with fail)
         (refine hK.out _ _ ?_ (fun hHeld => ?_)
          · (try dsimp only); (refine ⟨?_, ?_, ?_, ?_, ?_⟩ <;> (first | (simp [go_sem, *]; done) | (exact ckA)))
          clear hK K
          (try simp only [Act.put, stA, st0, st1])))
        (refine rtA 8 ?_ ?_
         (try simp only [Act.put, stA, st0, st1]))
        refine r1A 9 (fun K hK => ?_)
        (go_simp
         (refine hK.out _ _ ?_ (fun hHeld => ?_)
          · (try dsimp only); (refine ⟨?_, ?_, ?_, ?_, ?_⟩ <;> (first | (simp [go_sem, *]; done) | (exact ckA)))
          clear hK K
          (try simp only [Act.put, stA, st0, st1])))
        refine r1A 10 (fun K hK => ?_)
        (go_simp
         (refine hK.out _ _ ?_ (fun hHeld => ?_)
          · (try dsimp only); (refine ⟨?_, ?_, ?_, ?_, ?_⟩ <;> (first | (simp [go_sem, *]; done) | (exact ckA)))
          clear hK K
          (try simp only [Act.put, stA, st0, st1])))
        refine wpAnyH_done (by kernel_rfl) ?_ _
        go_wp2
        refine bodyPost_ret (v := .tuple #[.agg #[.slice D3 (⟨⟨sb, [], cap, false⟩, bs, nb⟩ : Wal.Log).dev.s.length cd3, .slice E3 (⟨⟨sb, [], cap, false⟩, bs, nb⟩ : Wal.Log).dev.t.length ce3, .int .i64 (⟨⟨sb, [], cap, false⟩, bs, nb⟩ : Wal.Log).dev.cap, .bool (⟨⟨sb, [], cap, false⟩, bs, nb⟩ : Wal.Log).dev.down, .int .i64 (⟨⟨sb, [], cap, false⟩, bs, nb⟩ : Wal.Log).first, .int .i64 (⟨⟨sb, [], cap, false⟩, bs, nb⟩ : Wal.Log).next], .int .i64 0]) (by simp [results, Tryz.results69, go_sem, *]) rfl ?_
        exact ⟨⟨⟨sb, [], cap, false⟩, bs, nb⟩, 0, D3, E3, cd3, ce3, Lib.hid (by rw [HM.out, HSB.out, HNB.out, HBS.out]), rfl, OR.mono (lo := wc.heap.size) orA wnA, OR.mono (lo := wc.heap.size) orA wnA, abA⟩
end Go.Proofs.YthgcfjhnnhigoaaGreat
