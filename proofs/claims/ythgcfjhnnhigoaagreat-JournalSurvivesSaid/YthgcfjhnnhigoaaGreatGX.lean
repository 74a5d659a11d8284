/- The texts WFunC, WFunF, WFunB, one behind the other. Own work. -/
import Derived.Test.YthgcfjhnnhigoaaGreatGW
set_option linter.unusedVariables false
set_option linter.unusedSimpArgs false
/- Synced and Records of package wal, walked. Own work. -/
namespace Go.Proofs.YthgcfjhnnhigoaaGreat
open Go.RowKit

theorem torn_any (num : Int) (B A : Option Addr) (nb cb g na ca e : Nat) (w : World) (hc : w.cell? ⟨g, 0, none⟩ = some (.slice A na ca)) (b : Bool) (hb : decide ((na : Int) < (e : Int)) = b) (hb2 : decide (na < e) = b) :
    Calls Tryz.prog 134 #[.agg #[.int .i64 num, .slice B nb cb, .int .i64 (e : Int)], .pointer (some ⟨g, 0, none⟩)] w fun e' w' => e' = .returned (.bool b) ∧ Ab w w' := by
  have hc' : (w.alloc (.cells #[.int .i64 num, .slice B nb cb, .int .i64 (e : Int)] 163)).cell? ⟨g, 0, none⟩ = some (.slice A na ca) := cell_alloc hc
  cases b
  · go_enter Tryz.func134, Tryz.ntmps134
    go_wp2
    go_ret
    exact ⟨ret_bool (by first | rfl | (simp at hb2 ⊢; omega) | simp_all), abA⟩
  · go_enter Tryz.func134, Tryz.ntmps134
    go_wp2
    go_ret
    exact ⟨ret_bool (by first | rfl | (simp at hb2 ⊢; omega) | simp_all), abA⟩

/-- The index that IndexFunc returns: kk, if that is one, or -1. -/
theorem index_any (E : Option Addr) (d : Nat) (ys : List EntM) (g na ca kk : Nat) (A : Option Addr) (v : Int) (w : World) (hE : Ents w 0 E ys) (hn : ys.length ≤ 20000) (hc : w.cell? ⟨g, 0, none⟩ = some (.slice A na ca)) (hna : na ≤ 20000)
    (h1 : Hid (∀ i (h : i < ys.length), i < kk → ys[i].e ≤ na)) (h2 : Hid (∀ h : kk < ys.length, na < ys[kk].e)) (hkk : kk ≤ ys.length) (hv : Hid (v = if kk < ys.length then (kk : Int) else -1)) :
    Calls Tryz.prog 135 #[.slice E ys.length d, .func (.func 134) #[] #[.pointer (some ⟨g, 0, none⟩)]] w fun e w' => e = .returned (.int .i64 v) ∧ Ab w w' := by
  go_enter Tryz.func135, Tryz.ntmps135
  go_wp2
  go_loopw [8] (fun i wr => ∃ k : Nat, k ≤ kk ∧ i = .int .i64 (k : Int) ∧ Ab w wr) (fun i _ => kk + 1 - (intOf i).toNat)
  case atStart => exact ⟨0, Nat.zero_le _, rfl, Ab.refl _⟩
  case round =>
    obtain ⟨k, hk, rfl, hb⟩ := hrel
    by_cases hlt : k < ys.length
    · obtain ⟨a, hEa, -, c0, c1, c2, -⟩ := (hE.ab hb).at_ hlt
      have hcw := hb.at hc
      have hki : (k : Int) < (ys.length : Int) := by omega
      have hk0 : (0 : Int) ≤ (k : Int) := by omega
      by_cases hk2 : k < kk
      · have hle := h1.out k hlt hk2
        have T0 : ∀ w', Ab wr w' → Calls Tryz.prog 134 #[.agg #[.int .i64 ys[k].x.num, .slice ys[k].x.A ys[k].x.b.length ys[k].x.c, .int .i64 (ys[k].e : Int)], .pointer (some ⟨g, 0, none⟩)] w' (fun e' w'' => e' = .returned (.bool false) ∧ Ab w' w'') := fun w' hw =>
          torn_any _ _ A _ _ g na ca _ w' (hw.at hcw) false (by simp; omega) (by simp; omega)
        subst hEa
        generalize ys[k] = y at *
        clear hle
        go_wp2_with fail
        refine (T0 _ abA).mono ?_
        rintro e w2 ⟨rfl, hb2⟩
        go_wp2
        go_roundw
        case rel => exact ⟨k + 1, by omega, by go_num, abA⟩
        case measure => simp [intOf]; omega
      · obtain rfl : k = kk := by omega
        have hle := h2.out hlt
        have HV := Lib.hid (hv.out.trans (if_pos hlt))
        have T0 : ∀ w', Ab wr w' → Calls Tryz.prog 134 #[.agg #[.int .i64 ys[k].x.num, .slice ys[k].x.A ys[k].x.b.length ys[k].x.c, .int .i64 (ys[k].e : Int)], .pointer (some ⟨g, 0, none⟩)] w' (fun e' w'' => e' = .returned (.bool true) ∧ Ab w' w'') := fun w' hw =>
          torn_any _ _ A _ _ g na ca _ w' (hw.at hcw) true (by simp; omega) (by simp; omega)
        subst hEa
        generalize ys[k] = y at *
        clear hle
        go_wp2_with fail
        refine (T0 _ abA).mono ?_
        rintro e w2 ⟨rfl, hb2⟩
        go_wp2
        go_ret
        exact ⟨ret_int (by rw [HV.out]; try rfl), abA⟩
    · have HV := Lib.hid (hv.out.trans (if_neg (by omega)))
      go_wp2
      go_ret
      exact ⟨ret_int (by rw [HV.out]; try rfl), abA⟩

/-- What the entries tell of the synced bytes. -/
theorem ents_cut {ys : List EntM} {rs : List Frame.Rec} (hR : erecs ys = rs) (hE : Ends ys) (n : Nat) :
    (∀ i (h : i < ys.length), i < Wal.cut rs n → ys[i].e ≤ n) ∧ (∀ h : Wal.cut rs n < ys.length, n < ys[Wal.cut rs n].e) ∧ Wal.cut rs n ≤ ys.length := by
  subst hR
  refine ⟨fun i h hi => ?_, fun h => ?_, by rw [← erecs_length ys]; exact Wal.cut_le _ _⟩
  · rw [hE i h]
    exact Nat.le_trans (Wal.take_mono _ hi) (Wal.cut_in _ _)
  · rw [hE _ h]
    rcases Wal.cut_out (erecs ys) n with h1 | h1
    · rw [erecs_length] at h1; omega
    · exact h1

set_option maxHeartbeats 1600000 in
theorem msynced_any (A B : Option Addr) (ca cb : Nat) (s t : List UInt8) (cap f n : Int) (w : World) (rs : List Frame.Rec) (hg : Wal.Good ⟨⟨s, t, cap, false⟩, f, n⟩ rs) (E : Option Addr) (d : Nat) (ys : List EntM) (hR : Hid (erecs ys = rs)) (hE : Hid (Ends ys))
    (hEn : Ents w 0 E ys) (hyl : ys.length ≤ 20000) :
    Calls Tryz.prog 121 #[.agg #[.slice A s.length ca, .slice B t.length cb, .int .i64 cap, .bool false, .int .i64 f, .int .i64 n, .slice E ys.length d]] w (RetInt w (f + Wal.cut rs s.length)) := by
  have hmf : ∀ (fn : Fn) (first cap : Array Value) (w : World), (Instr.makeFunc fn first cap).run Tryz.prog w = .ok (.func fn first cap) w := fun _ _ _ _ => rfl
  obtain ⟨h1, h2, h3⟩ := ents_cut hR.out hE.out s.length
  obtain ⟨kk, hkk⟩ : ∃ kk, Wal.cut rs s.length = kk := ⟨_, rfl⟩
  rw [hkk] at h1 h3
  have H2 : ∀ h : kk < ys.length, s.length < ys[kk].e := by subst hkk; exact h2
  have hrm := hg.room
  simp only [Disk.Dev.size] at hrm
  have ls : s.length ≤ 20000 := by omega
  have HG := Lib.hid hg
  have HK := Lib.hid hkk
  have H1 := Lib.hid h1
  have H2 := Lib.hid H2
  have hrl : rs.length = ys.length := by rw [← hR.out, erecs_length]
  have HRL := Lib.hid hrl
  clear hrl h1 h2 hkk hg
  by_cases hlt : kk < ys.length
  · have hnum : ys[kk].x.num = f + kk := by
      have h5 := Wal.num_at HG.out.2.1 kk (by rw [HRL.out]; exact hlt)
      have h6 := erecs_get ys kk hlt
      have h7 := HG.out.2.2.2.2.1 (by have := HRL.out; omega)
      simp only at h7
      simp only [← hR.out] at h5 h7
      rw [h6] at h5
      have h8 : ys[kk].x.num = _ := h5
      rw [h8, h7]
    have HN := Lib.hid hnum
    have I0 : ∀ (g : Nat) (w' : World), Ab w w' → w'.cell? ⟨g, 0, none⟩ = some (.slice A s.length ca) → Calls Tryz.prog 135 #[.slice E ys.length d, .func (.func 134) #[] #[.pointer (some ⟨g, 0, none⟩)]] w' (fun e w'' => e = .returned (.int .i64 (kk : Int)) ∧ Ab w' w'') :=
      fun g w' hb hc => index_any E d ys g s.length ca kk A (kk : Int) w' (hEn.ab hb) hyl hc ls H1 H2 h3 (Lib.hid (if_pos hlt).symm)
    obtain ⟨a, hEa, -, c0, -⟩ := hEn.at_ hlt
    have hki : (kk : Int) < (ys.length : Int) := by omega
    have hk0 : (0 : Int) ≤ (kk : Int) := by omega
    subst hEa
    generalize ys[kk] = y at *
    clear hnum
    go_enter Tryz.func121, Tryz.ntmps121
    go_wp2_with fail
    refine (I0 _ _ abA (by simp [go_sem])).mono ?_
    rintro e w2 ⟨rfl, hb2⟩
    have hz : Ab w w2 := abA
    have c0' := hz.at c0
    obtain ⟨bq0, bq1, bq2, bq3, bq4, bq5⟩ := cells6 hb2 (b := w.heap.size) (v0 := .slice A s.length ca) (v1 := .slice B t.length cb) (v2 := .int .i64 cap) (v3 := .bool false) (v4 := .int .i64 f) (v5 := .int .i64 n) (by first | (simp [go_sem]; done) | (refine ⟨?_, ?_, ?_, ?_, ?_, ?_⟩ <;> assumption))
    have bq6 := hb2.at (p := ⟨w.heap.size, 6, none⟩) (v := .slice (some a) ys.length d) ckA
    go_wp2
    go_ret
    exact RetInt.mk (by rw [HK.out, ← HN.out]; rfl) abA
  · have HNx := Lib.hid (show n = f + kk by
      have := HG.out.2.2.2.1
      simp only at this
      rw [this, HRL.out]; omega)
    have I0 : ∀ (g : Nat) (w' : World), Ab w w' → w'.cell? ⟨g, 0, none⟩ = some (.slice A s.length ca) → Calls Tryz.prog 135 #[.slice E ys.length d, .func (.func 134) #[] #[.pointer (some ⟨g, 0, none⟩)]] w' (fun e w'' => e = .returned (.int .i64 (-1)) ∧ Ab w' w'') :=
      fun g w' hb hc => index_any E d ys g s.length ca kk A (-1) w' (hEn.ab hb) hyl hc ls H1 H2 h3 (Lib.hid (if_neg hlt).symm)
    go_enter Tryz.func121, Tryz.ntmps121
    go_wp2_with fail
    refine (I0 _ _ abA (by simp [go_sem])).mono ?_
    rintro e w2 ⟨rfl, hb2⟩
    obtain ⟨bq0, bq1, bq2, bq3, bq4, bq5⟩ := cells6 hb2 (b := w.heap.size) (v0 := .slice A s.length ca) (v1 := .slice B t.length cb) (v2 := .int .i64 cap) (v3 := .bool false) (v4 := .int .i64 f) (v5 := .int .i64 n) (by first | (simp [go_sem]; done) | (refine ⟨?_, ?_, ?_, ?_, ?_, ?_⟩ <;> assumption))
    have bq6 := hb2.at (p := ⟨w.heap.size, 6, none⟩) (v := .slice E ys.length d) ckA
    go_wp2
    go_ret
    exact RetInt.mk (by rw [HK.out, ← HNx.out]; rfl) abA

end Go.Proofs.YthgcfjhnnhigoaaGreat

/- Drop of package wal, walked. Own work. -/
namespace Go.Proofs.YthgcfjhnnhigoaaGreat
open Go.RowKit

set_option maxHeartbeats 3200000 in
theorem wdrop_any (A B : Option Addr) (ca cb : Nat) (s t : List UInt8) (cap : Int) (dn : Bool) (f n : Int) (w : World) (hs : RB w 0 A s) (ht : RB w 0 B t) (hca : s.length ≤ ca) (hcb : t.length ≤ cb) (ls : s.length ≤ 1000000) (lt : t.length ≤ 1000000) (g : Option (List Frame.Rec)) (hi : Wal.Is ⟨⟨s, t, cap, dn⟩, f, n⟩ g) (m : Int) :
    Calls Tryz.prog 88 #[.agg #[.slice A s.length ca, .slice B t.length cb, .int .i64 cap, .bool dn, .int .i64 f, .int .i64 n], .int .i64 m] w (RetLogE w (Wal.drop ⟨⟨s, t, cap, dn⟩, f, n⟩ m g)) := by
  cases g with
  | none =>
    go_enter Tryz.func88, Tryz.ntmps88
    go_wp2_with fail
    refine (read_bad A B ca cb s t cap dn f n _ (hs.ab abA) (ht.ab abA) hca hcb ls lt hi).mono ?_
    rintro e w1 ⟨rfl, hb1⟩
    have zq0 := hb1.at (p := ⟨w.heap.size + 1, 0, none⟩) (v := .slice none 0 0) (by simp [go_sem]); have zq1 := hb1.at (p := ⟨w.heap.size + 1, 1, none⟩) (v := .slice none 0 0) (by simp [go_sem]); have zq2 := hb1.at (p := ⟨w.heap.size + 1, 2, none⟩) (v := .int .i64 0) (by simp [go_sem]); have zq3 := hb1.at (p := ⟨w.heap.size + 1, 3, none⟩) (v := .bool false) (by simp [go_sem]); have zq4 := hb1.at (p := ⟨w.heap.size + 1, 4, none⟩) (v := .int .i64 0) (by simp [go_sem]); have zq5 := hb1.at (p := ⟨w.heap.size + 1, 5, none⟩) (v := .int .i64 0) (by simp [go_sem])
    have zr0 : w1.frozen? ⟨w.heap.size + 1, 0, none⟩ = false := (hb1.frozen (p := ⟨w.heap.size + 1, 0, none⟩) (by simp)).trans (by simp [go_sem]); have zr1 : w1.frozen? ⟨w.heap.size + 1, 1, none⟩ = false := (hb1.frozen (p := ⟨w.heap.size + 1, 1, none⟩) (by simp)).trans (by simp [go_sem]); have zr2 : w1.frozen? ⟨w.heap.size + 1, 2, none⟩ = false := (hb1.frozen (p := ⟨w.heap.size + 1, 2, none⟩) (by simp)).trans (by simp [go_sem]); have zr3 : w1.frozen? ⟨w.heap.size + 1, 3, none⟩ = false := (hb1.frozen (p := ⟨w.heap.size + 1, 3, none⟩) (by simp)).trans (by simp [go_sem]); have zr4 : w1.frozen? ⟨w.heap.size + 1, 4, none⟩ = false := (hb1.frozen (p := ⟨w.heap.size + 1, 4, none⟩) (by simp)).trans (by simp [go_sem]); have zr5 : w1.frozen? ⟨w.heap.size + 1, 5, none⟩ = false := (hb1.frozen (p := ⟨w.heap.size + 1, 5, none⟩) (by simp)).trans (by simp [go_sem])
    have z1 := hb1.size
    simp at z1
    have nw1a := fun (o : Obj) (j : Nat) => World.cell?_alloc_lt w1 o ⟨w.heap.size, j, none⟩ (by simp; omega)
    have nw1c := fun (o : Obj) (j : Nat) => World.cell?_alloc_lt w1 o ⟨w.heap.size + 1, j, none⟩ (by simp; omega)
    have nw1b := fun (o : Obj) (j : Nat) => ((Ab.refl w1).alloc o).frozen (p := ⟨w.heap.size, j, none⟩) (by simp; omega)
    have nw1d := fun (o : Obj) (j : Nat) => ((Ab.refl w1).alloc o).frozen (p := ⟨w.heap.size + 1, j, none⟩) (by simp; omega)
    go_wp2
    refine bodyPost_ret (v := .tuple #[.agg #[.slice none 0 0, .slice none 0 0, .int .i64 0, .bool false, .int .i64 0, .int .i64 0], .int .i64 8]) (by simp [results, Tryz.results88, go_sem, *]) rfl ?_
    exact RetLogE.zero rfl abA
  | some rs =>
    obtain rfl : dn = false := hi.isUp
    by_cases hm : m < f ∨ n < m
    · have HM := Lib.hid (show Wal.drop ⟨⟨s, t, cap, false⟩, f, n⟩ m (some rs) = (Wal.zero, 2) from if_pos hm)
      rcases hm with hm | hm
      all_goals
        go_enter Tryz.func88, Tryz.ntmps88
        go_wp2_with fail
        refine (read_good A B ca cb s t cap f n _ (hs.ab abA) (ht.ab abA) hca hcb rs hi).mono ?_
        rintro e w1 ⟨E, d, ys, hR, hE, rfl, hEn, hd, hyl, hb1⟩
        have zq0 := hb1.at (p := ⟨w.heap.size + 1, 0, none⟩) (v := .slice none 0 0) (by simp [go_sem]); have zq1 := hb1.at (p := ⟨w.heap.size + 1, 1, none⟩) (v := .slice none 0 0) (by simp [go_sem]); have zq2 := hb1.at (p := ⟨w.heap.size + 1, 2, none⟩) (v := .int .i64 0) (by simp [go_sem]); have zq3 := hb1.at (p := ⟨w.heap.size + 1, 3, none⟩) (v := .bool false) (by simp [go_sem]); have zq4 := hb1.at (p := ⟨w.heap.size + 1, 4, none⟩) (v := .int .i64 0) (by simp [go_sem]); have zq5 := hb1.at (p := ⟨w.heap.size + 1, 5, none⟩) (v := .int .i64 0) (by simp [go_sem])
        have zr0 : w1.frozen? ⟨w.heap.size + 1, 0, none⟩ = false := (hb1.frozen (p := ⟨w.heap.size + 1, 0, none⟩) (by simp)).trans (by simp [go_sem]); have zr1 : w1.frozen? ⟨w.heap.size + 1, 1, none⟩ = false := (hb1.frozen (p := ⟨w.heap.size + 1, 1, none⟩) (by simp)).trans (by simp [go_sem]); have zr2 : w1.frozen? ⟨w.heap.size + 1, 2, none⟩ = false := (hb1.frozen (p := ⟨w.heap.size + 1, 2, none⟩) (by simp)).trans (by simp [go_sem]); have zr3 : w1.frozen? ⟨w.heap.size + 1, 3, none⟩ = false := (hb1.frozen (p := ⟨w.heap.size + 1, 3, none⟩) (by simp)).trans (by simp [go_sem]); have zr4 : w1.frozen? ⟨w.heap.size + 1, 4, none⟩ = false := (hb1.frozen (p := ⟨w.heap.size + 1, 4, none⟩) (by simp)).trans (by simp [go_sem]); have zr5 : w1.frozen? ⟨w.heap.size + 1, 5, none⟩ = false := (hb1.frozen (p := ⟨w.heap.size + 1, 5, none⟩) (by simp)).trans (by simp [go_sem])
        have z1 := hb1.size
        simp at z1
        have nw1a := fun (o : Obj) (j : Nat) => World.cell?_alloc_lt w1 o ⟨w.heap.size, j, none⟩ (by simp; omega)
        have nw1c := fun (o : Obj) (j : Nat) => World.cell?_alloc_lt w1 o ⟨w.heap.size + 1, j, none⟩ (by simp; omega)
        have nw1b := fun (o : Obj) (j : Nat) => ((Ab.refl w1).alloc o).frozen (p := ⟨w.heap.size, j, none⟩) (by simp; omega)
        have nw1d := fun (o : Obj) (j : Nat) => ((Ab.refl w1).alloc o).frozen (p := ⟨w.heap.size + 1, j, none⟩) (by simp; omega)
        go_wp2
        all_goals first | (exfalso; omega) | skip
        all_goals refine bodyPost_ret (v := .tuple #[.agg #[.slice none 0 0, .slice none 0 0, .int .i64 0, .bool false, .int .i64 0, .int .i64 0], .int .i64 2]) (by simp [results, Tryz.results88, go_sem, *]) rfl ?_
        all_goals exact RetLogE.zero HM.out.symm abA
    have hrg := hi.rng
    simp only at hrg
    have hnl := hi.2.2.2.1
    simp only at hnl
    have h1 : ¬ m < f := by omega
    have h2 : ¬ n < m := by omega
    obtain ⟨kk, hkk⟩ : ∃ kk, Wal.cut rs s.length = kk := ⟨_, rfl⟩
    by_cases h3 : f + kk < m
    · have HM := Lib.hid (show Wal.drop ⟨⟨s, t, cap, false⟩, f, n⟩ m (some rs) = (Wal.zero, 32) from (if_neg hm).trans (if_pos (by rw [hkk]; exact h3)))
      have HK := Lib.hid hkk
      clear hm hkk hnl
      go_enter Tryz.func88, Tryz.ntmps88
      go_wp2_with fail
      refine (read_good A B ca cb s t cap f n _ (hs.ab abA) (ht.ab abA) hca hcb rs hi).mono ?_
      rintro e w1 ⟨E, d, ys, hR, hE, rfl, hEn, hd, hyl, hb1⟩
      have zq0 := hb1.at (p := ⟨w.heap.size + 1, 0, none⟩) (v := .slice none 0 0) (by simp [go_sem]); have zq1 := hb1.at (p := ⟨w.heap.size + 1, 1, none⟩) (v := .slice none 0 0) (by simp [go_sem]); have zq2 := hb1.at (p := ⟨w.heap.size + 1, 2, none⟩) (v := .int .i64 0) (by simp [go_sem]); have zq3 := hb1.at (p := ⟨w.heap.size + 1, 3, none⟩) (v := .bool false) (by simp [go_sem]); have zq4 := hb1.at (p := ⟨w.heap.size + 1, 4, none⟩) (v := .int .i64 0) (by simp [go_sem]); have zq5 := hb1.at (p := ⟨w.heap.size + 1, 5, none⟩) (v := .int .i64 0) (by simp [go_sem])
      have zr0 : w1.frozen? ⟨w.heap.size + 1, 0, none⟩ = false := (hb1.frozen (p := ⟨w.heap.size + 1, 0, none⟩) (by simp)).trans (by simp [go_sem]); have zr1 : w1.frozen? ⟨w.heap.size + 1, 1, none⟩ = false := (hb1.frozen (p := ⟨w.heap.size + 1, 1, none⟩) (by simp)).trans (by simp [go_sem]); have zr2 : w1.frozen? ⟨w.heap.size + 1, 2, none⟩ = false := (hb1.frozen (p := ⟨w.heap.size + 1, 2, none⟩) (by simp)).trans (by simp [go_sem]); have zr3 : w1.frozen? ⟨w.heap.size + 1, 3, none⟩ = false := (hb1.frozen (p := ⟨w.heap.size + 1, 3, none⟩) (by simp)).trans (by simp [go_sem]); have zr4 : w1.frozen? ⟨w.heap.size + 1, 4, none⟩ = false := (hb1.frozen (p := ⟨w.heap.size + 1, 4, none⟩) (by simp)).trans (by simp [go_sem]); have zr5 : w1.frozen? ⟨w.heap.size + 1, 5, none⟩ = false := (hb1.frozen (p := ⟨w.heap.size + 1, 5, none⟩) (by simp)).trans (by simp [go_sem])
      have z1 := hb1.size
      simp at z1
      go_wp2_with fail
      refine (msynced_any A B ca cb s t cap f n _ rs hi E d ys hR hE ((hEn.mono (Nat.zero_le _)).ab abA) hyl).mono ?_
      rintro e w2 ⟨r2, hr2, rfl, hb2⟩
      obtain rfl : r2 = f + kk := by rw [hr2.out, HK.out]
      have hz2 : Ab ((w.alloc (.cells #[.slice A s.length ca, .slice B t.length cb, .int .i64 cap, .bool false, .int .i64 f, .int .i64 n] 29)).alloc (.cells #[.slice none 0 0, .slice none 0 0, .int .i64 0, .bool false, .int .i64 0, .int .i64 0] 29)) w2 := abA
      have zq0 := hz2.at (p := ⟨w.heap.size + 1, 0, none⟩) (v := .slice none 0 0) (by simp [go_sem]); have zq1 := hz2.at (p := ⟨w.heap.size + 1, 1, none⟩) (v := .slice none 0 0) (by simp [go_sem]); have zq2 := hz2.at (p := ⟨w.heap.size + 1, 2, none⟩) (v := .int .i64 0) (by simp [go_sem]); have zq3 := hz2.at (p := ⟨w.heap.size + 1, 3, none⟩) (v := .bool false) (by simp [go_sem]); have zq4 := hz2.at (p := ⟨w.heap.size + 1, 4, none⟩) (v := .int .i64 0) (by simp [go_sem]); have zq5 := hz2.at (p := ⟨w.heap.size + 1, 5, none⟩) (v := .int .i64 0) (by simp [go_sem])
      have zr0 : w2.frozen? ⟨w.heap.size + 1, 0, none⟩ = false := (hz2.frozen (p := ⟨w.heap.size + 1, 0, none⟩) (by simp)).trans (by simp [go_sem]); have zr1 : w2.frozen? ⟨w.heap.size + 1, 1, none⟩ = false := (hz2.frozen (p := ⟨w.heap.size + 1, 1, none⟩) (by simp)).trans (by simp [go_sem]); have zr2 : w2.frozen? ⟨w.heap.size + 1, 2, none⟩ = false := (hz2.frozen (p := ⟨w.heap.size + 1, 2, none⟩) (by simp)).trans (by simp [go_sem]); have zr3 : w2.frozen? ⟨w.heap.size + 1, 3, none⟩ = false := (hz2.frozen (p := ⟨w.heap.size + 1, 3, none⟩) (by simp)).trans (by simp [go_sem]); have zr4 : w2.frozen? ⟨w.heap.size + 1, 4, none⟩ = false := (hz2.frozen (p := ⟨w.heap.size + 1, 4, none⟩) (by simp)).trans (by simp [go_sem]); have zr5 : w2.frozen? ⟨w.heap.size + 1, 5, none⟩ = false := (hz2.frozen (p := ⟨w.heap.size + 1, 5, none⟩) (by simp)).trans (by simp [go_sem])
      clear hr2
      go_wp2
      refine bodyPost_ret (v := .tuple #[.agg #[.slice none 0 0, .slice none 0 0, .int .i64 0, .bool false, .int .i64 0, .int .i64 0], .int .i64 32]) (by simp [results, Tryz.results88, go_sem, *]) rfl ?_
      exact RetLogE.zero HM.out.symm abA
    · obtain ⟨j, hj⟩ : ∃ j : Nat, m - f = (j : Int) := ⟨(m - f).toNat, by omega⟩
      obtain ⟨v, hv⟩ : ∃ v, (Frame.all (rs.take j)).length = v := ⟨_, rfl⟩
      have hjk : j ≤ kk := by omega
      have hkr : kk ≤ rs.length := by rw [← hkk]; exact Wal.cut_le _ _
      have hvs : v ≤ s.length := by rw [← hv]; exact Nat.le_trans (Wal.take_mono rs (by rw [hkk]; exact hjk)) (Wal.cut_in rs s.length)
      have HDD := Lib.hid (show Disk.drop ⟨s, t, cap, false⟩ (v : Int) = (⟨s.drop v, t, cap, false⟩, 0) by
        unfold Disk.drop; rw [if_neg (by simpa using hi.1), if_neg (by simp only; omega)]; simp)
      have HM := Lib.hid (show Wal.drop ⟨⟨s, t, cap, false⟩, f, n⟩ m (some rs) = (⟨⟨s.drop v, t, cap, false⟩, m, n⟩, 0) by
        refine (if_neg hm).trans ((if_neg (by rw [hkk]; exact h3)).trans ?_)
        simp only [hj, Int.toNat_natCast, hv])
      have hrm := hi.room
      simp only [Disk.Dev.size] at hrm
      have hsub : IntKind.i64.wrap (m - f) = (j : Int) := by rw [IntWalk.i64_in _ (by omega)]; exact hj
      have HK := Lib.hid hkk
      have HV := Lib.hid hv
      have HJ := Lib.hid hj
      have hjr : j ≤ rs.length := by omega
      clear hm hkk hnl hv hj
      go_enter Tryz.func88, Tryz.ntmps88
      go_wp2_with fail
      refine (read_good A B ca cb s t cap f n _ (hs.ab abA) (ht.ab abA) hca hcb rs hi).mono ?_
      rintro e w1 ⟨E, d, ys, hR, hE, rfl, hEn, hd, hyl, hb1⟩
      have zq0 := hb1.at (p := ⟨w.heap.size + 1, 0, none⟩) (v := .slice none 0 0) (by simp [go_sem]); have zq1 := hb1.at (p := ⟨w.heap.size + 1, 1, none⟩) (v := .slice none 0 0) (by simp [go_sem]); have zq2 := hb1.at (p := ⟨w.heap.size + 1, 2, none⟩) (v := .int .i64 0) (by simp [go_sem]); have zq3 := hb1.at (p := ⟨w.heap.size + 1, 3, none⟩) (v := .bool false) (by simp [go_sem]); have zq4 := hb1.at (p := ⟨w.heap.size + 1, 4, none⟩) (v := .int .i64 0) (by simp [go_sem]); have zq5 := hb1.at (p := ⟨w.heap.size + 1, 5, none⟩) (v := .int .i64 0) (by simp [go_sem])
      have zr0 : w1.frozen? ⟨w.heap.size + 1, 0, none⟩ = false := (hb1.frozen (p := ⟨w.heap.size + 1, 0, none⟩) (by simp)).trans (by simp [go_sem]); have zr1 : w1.frozen? ⟨w.heap.size + 1, 1, none⟩ = false := (hb1.frozen (p := ⟨w.heap.size + 1, 1, none⟩) (by simp)).trans (by simp [go_sem]); have zr2 : w1.frozen? ⟨w.heap.size + 1, 2, none⟩ = false := (hb1.frozen (p := ⟨w.heap.size + 1, 2, none⟩) (by simp)).trans (by simp [go_sem]); have zr3 : w1.frozen? ⟨w.heap.size + 1, 3, none⟩ = false := (hb1.frozen (p := ⟨w.heap.size + 1, 3, none⟩) (by simp)).trans (by simp [go_sem]); have zr4 : w1.frozen? ⟨w.heap.size + 1, 4, none⟩ = false := (hb1.frozen (p := ⟨w.heap.size + 1, 4, none⟩) (by simp)).trans (by simp [go_sem]); have zr5 : w1.frozen? ⟨w.heap.size + 1, 5, none⟩ = false := (hb1.frozen (p := ⟨w.heap.size + 1, 5, none⟩) (by simp)).trans (by simp [go_sem])
      have z1 := hb1.size
      simp at z1
      have hjy : j ≤ ys.length := by rw [← erecs_length, hR.out]; exact hjr
      go_wp2_with fail
      refine (msynced_any A B ca cb s t cap f n _ rs hi E d ys hR hE ((hEn.mono (Nat.zero_le _)).ab abA) hyl).mono ?_
      rintro e w2 ⟨r2, hr2, rfl, hb2⟩
      obtain rfl : r2 = f + kk := by rw [hr2.out, HK.out]
      clear hr2
      have hE2 : Ents w2 0 E ys := (hEn.mono (Nat.zero_le _)).ab abA
      have hz2 : Ab ((w.alloc (.cells #[.slice A s.length ca, .slice B t.length cb, .int .i64 cap, .bool false, .int .i64 f, .int .i64 n] 29)).alloc (.cells #[.slice none 0 0, .slice none 0 0, .int .i64 0, .bool false, .int .i64 0, .int .i64 0] 29)) w2 := abA
      have hPz : w1.heap.size < w2.heap.size := by have := hb2.size; simp at this; omega
      have E0 : ∀ w', Ab w2 w' → Calls Tryz.prog 108 #[.slice E j d] w' (fun e w'' => e = .returned (.int .i64 (v : Int)) ∧ w' = w'') := fun w' hw' => by
        have hl : (ys.take j).length = j := by simp; omega
        have := endOf_any E d v (ys.take j) w' ((hE2.take j).ab hw') (ends_take hE.out j) (by omega) (by rw [← HV.out, erecs_take, hR.out])
        rw [hl] at this
        exact this
      obtain ⟨xq0, xq1, xq2, xq3, xq4, xq5⟩ := cells6 hb2 (b := w1.heap.size) (v0 := .slice A s.length ca) (v1 := .slice B t.length cb) (v2 := .int .i64 cap) (v3 := .bool false) (v4 := .int .i64 f) (v5 := .int .i64 n) (by first | (simp [go_sem]; done) | (refine ⟨?_, ?_, ?_, ?_, ?_, ?_⟩ <;> assumption))
      have xq6 := hb2.at (p := ⟨w1.heap.size, 6, none⟩) (v := .slice E ys.length d) ckA
      have hj0 : (0 : Int) ≤ (j : Int) := by omega
      have hj1 : (j : Int) ≤ (d : Int) := by omega
      have hj2 : (j : Int) ≤ (ys.length : Int) := by omega
      go_upto_region 8 with fail
      go_cut [8, 9] (fun v7 v8 wx => DevCut w ((w.alloc (.cells #[.slice A s.length ca, .slice B t.length cb, .int .i64 cap, .bool false, .int .i64 f, .int .i64 n] 29)).alloc (.cells #[.slice none 0 0, .slice none 0 0, .int .i64 0, .bool false, .int .i64 0, .int .i64 0] 29)) (Disk.drop ⟨s, t, cap, false⟩ (v : Int)) v7 v8 wx ∧ Ab w2 wx)
      case first =>
        refine wp_region_held_drew (by kernel_rfl) (S := fun w' => w'.cell? ⟨w1.heap.size, 0, none⟩ = some (.slice A s.length ca) ∧ w'.cell? ⟨w1.heap.size, 1, none⟩ = some (.slice B t.length cb) ∧ w'.cell? ⟨w1.heap.size, 2, none⟩ = some (.int .i64 cap) ∧ w'.cell? ⟨w1.heap.size, 3, none⟩ = some (.bool false) ∧ w'.cell? ⟨w1.heap.size, 4, none⟩ = some (.int .i64 f) ∧ w'.cell? ⟨w1.heap.size, 5, none⟩ = some (.int .i64 n) ∧ w'.cell? ⟨w1.heap.size, 6, none⟩ = some (.slice E ys.length d)) ?_ (fun hHeld => ?_)
        · (refine ⟨?_, ?_, ?_, ?_, ?_, ?_, ?_⟩ <;> (exact ckA))
        (refine rtA 0 ?_ ?_
         (try simp only [Act.put, stA, st0, st1]))
        (refine rtA 1 ?_ ?_
         (try simp only [Act.put, stA, st0, st1]))
        (refine rtA 2 ?_ ?_
         (try simp only [Act.put, stA, st0, st1]))
        (refine rtA 3 ?_ ?_
         (try simp only [Act.put, stA, st0, st1]))
        (refine rtA 4 ?_ ?_
         (try simp only [Act.put, stA, st0, st1]))
        (refine rtA 5 ?_ ?_
         (try simp only [Act.put, stA, st0, st1]))
        (refine rtA 6 ?_ ?_
         (try simp only [Act.put, stA, st0, st1]))
        (refine rtA 7 ?_ ?_
         (try simp only [Act.put, stA, st0, st1]))
        (refine rtA 8 ?_ ?_
         (try simp only [Act.put, stA, st0, st1]))
        (refine rtA 9 ?_ ?_
         (try simp only [Act.put, stA, st0, st1]))
        (refine rtA 10 ?_ ?_
         (try simp only [Act.put, stA, st0, st1]))
        (refine wpAnyH_ready (rs := [11, 16]) (by kernel_rfl) (by simp) ?_)
        refine AllReadyH.cons rfl (fun K hK => ?_) (AllReadyH.cons rfl (fun K hK => ?_) AllReadyH.nil)
        · (go_simp
           ((go_at_call 108)
            refine (E0 _ abA).mono ?_
            rintro e w8 ⟨rfl, rfl⟩)
           (try go_wp2_with fail)
           (refine hK.out _ _ ?_ (fun hHeld => ?_)
            · (try dsimp only); (refine ⟨?_, ?_, ?_, ?_, ?_, ?_, ?_⟩ <;> (exact ckA))
            clear hK K
            (try simp only [Act.put, stA, st0, st1])))
          (refine wpAnyH_ready (rs := [12, 16]) (by kernel_rfl) (by simp) ?_)
          refine AllReadyH.cons rfl (fun K hK => ?_) (AllReadyH.cons rfl (fun K hK => ?_) AllReadyH.nil)
          · (go_simp
             ((go_at_call 122)
              refine (drop_any A B ca cb s t cap false _ (hs.ab abA) (ht.ab abA) hca hcb ls lt (v : Int)).mono ?_
              rintro e w4 ⟨r, er, D, E4, cd, ce, hr, rfl, o1, o2, hb4⟩
              have z4 := hb4.size
              (try simp at z4)
              have hr := Lib.hid (show (r, er) = Disk.drop ⟨s, t, cap, false⟩ (v : Int) by exact hr.out)
              have o1 : OR 5 (w2.heap.size) w4 D cd r.s := OR.mono o1 wnA
              have o2 : OR 5 (w2.heap.size) w4 E4 ce r.t := OR.mono o2 wnA
              skip)
             (try go_wp2_with fail)
             (refine hK.out _ _ ?_ (fun hHeld => ?_)
              · (try dsimp only); (refine ⟨?_, ?_, ?_, ?_, ?_, ?_, ?_⟩ <;> (exact ckA))
              clear hK K
              (try simp only [Act.put, stA, st0, st1])))
            (refine rtA 13 ?_ ?_
             (try simp only [Act.put, stA, st0, st1]))
            (refine rtA 14 ?_ ?_
             (try simp only [Act.put, stA, st0, st1]))
            (refine rtA 15 ?_ ?_
             (try simp only [Act.put, stA, st0, st1]))
            refine r1A 16 (fun K hK => ?_)
            (go_simp
             (refine hK.out _ _ ?_ (fun hHeld => ?_)
              · (try dsimp only); (refine ⟨?_, ?_, ?_, ?_, ?_, ?_, ?_⟩ <;> (exact ckA))
              clear hK K
              (try simp only [Act.put, stA, st0, st1])))
            refine r1A 17 (fun K hK => ?_)
            (go_simp
             (refine hK.out _ _ ?_ (fun hHeld => ?_)
              · (try dsimp only); (refine ⟨?_, ?_, ?_, ?_, ?_, ?_, ?_⟩ <;> (exact ckA))
              clear hK K
              (try simp only [Act.put, stA, st0, st1])))
            refine r1A 18 (fun K hK => ?_)
            (go_simp
             (refine hK.out _ _ ?_ (fun hHeld => ?_)
              · (try dsimp only); (refine ⟨?_, ?_, ?_, ?_, ?_, ?_, ?_⟩ <;> (exact ckA))
              clear hK K
              (try simp only [Act.put, stA, st0, st1])))
            refine wpAnyH_done (by kernel_rfl) ?_ _
            go_wp2_with fail
            go_meet
            exact ⟨⟨_, r, er, D, E4, cd, ce, rfl, rfl, hr, (by first | (simp [go_sem]; done) | (simp [go_sem, *]; done)), (by first | (simp [go_sem]; done) | (simp [go_sem, *]; done)), (by first | (simp [go_sem]; done) | (simp [go_sem, *]; done)), (by first | (simp [go_sem]; done) | (simp [go_sem, *]; done)), OR.mono (lo := w2.heap.size) orA wnA, OR.mono (lo := w2.heap.size) orA wnA, wnA, abA⟩, abA⟩
          · (go_simp
             (refine hK.out _ _ ?_ (fun hHeld => ?_)
              · (try dsimp only); (refine ⟨?_, ?_, ?_, ?_, ?_, ?_, ?_⟩ <;> (exact ckA))
              clear hK K
              (try simp only [Act.put, stA, st0, st1])))
            refine r1A 12 (fun K hK => ?_)
            (go_simp
             ((go_at_call 122)
              refine (drop_any A B ca cb s t cap false _ (hs.ab abA) (ht.ab abA) hca hcb ls lt (v : Int)).mono ?_
              rintro e w4 ⟨r, er, D, E4, cd, ce, hr, rfl, o1, o2, hb4⟩
              have z4 := hb4.size
              (try simp at z4)
              have hr := Lib.hid (show (r, er) = Disk.drop ⟨s, t, cap, false⟩ (v : Int) by exact hr.out)
              have o1 : OR 5 (w2.heap.size + 1) w4 D cd r.s := OR.mono o1 wnA
              have o2 : OR 5 (w2.heap.size + 1) w4 E4 ce r.t := OR.mono o2 wnA
              have yq0 := hb4.at (p := ⟨w2.heap.size, 0, none⟩) (v := .slice none 0 0) (by simp [go_sem]); have yq1 := hb4.at (p := ⟨w2.heap.size, 1, none⟩) (v := .slice none 0 0) (by simp [go_sem]); have yq2 := hb4.at (p := ⟨w2.heap.size, 2, none⟩) (v := .int .i64 0) (by simp [go_sem]); have yq3 := hb4.at (p := ⟨w2.heap.size, 3, none⟩) (v := .bool false) (by simp [go_sem])
              have yr0 : w4.frozen? ⟨w2.heap.size, 0, none⟩ = false := (hb4.frozen (p := ⟨w2.heap.size, 0, none⟩) (by simp)).trans (by simp [go_sem]); have yr1 : w4.frozen? ⟨w2.heap.size, 1, none⟩ = false := (hb4.frozen (p := ⟨w2.heap.size, 1, none⟩) (by simp)).trans (by simp [go_sem]); have yr2 : w4.frozen? ⟨w2.heap.size, 2, none⟩ = false := (hb4.frozen (p := ⟨w2.heap.size, 2, none⟩) (by simp)).trans (by simp [go_sem]); have yr3 : w4.frozen? ⟨w2.heap.size, 3, none⟩ = false := (hb4.frozen (p := ⟨w2.heap.size, 3, none⟩) (by simp)).trans (by simp [go_sem]))
             (try go_wp2_with fail)
             (refine hK.out _ _ ?_ (fun hHeld => ?_)
              · (try dsimp only); (refine ⟨?_, ?_, ?_, ?_, ?_, ?_, ?_⟩ <;> (exact ckA))
              clear hK K
              (try simp only [Act.put, stA, st0, st1])))
            (refine rtA 13 ?_ ?_
             (try simp only [Act.put, stA, st0, st1]))
            (refine rtA 14 ?_ ?_
             (try simp only [Act.put, stA, st0, st1]))
            (refine rtA 15 ?_ ?_
             (try simp only [Act.put, stA, st0, st1]))
            refine r1A 17 (fun K hK => ?_)
            (go_simp
             (refine hK.out _ _ ?_ (fun hHeld => ?_)
              · (try dsimp only); (refine ⟨?_, ?_, ?_, ?_, ?_, ?_, ?_⟩ <;> (exact ckA))
              clear hK K
              (try simp only [Act.put, stA, st0, st1])))
            refine r1A 18 (fun K hK => ?_)
            (go_simp
             (refine hK.out _ _ ?_ (fun hHeld => ?_)
              · (try dsimp only); (refine ⟨?_, ?_, ?_, ?_, ?_, ?_, ?_⟩ <;> (exact ckA))
              clear hK K
              (try simp only [Act.put, stA, st0, st1])))
            refine wpAnyH_done (by kernel_rfl) ?_ _
            go_wp2_with fail
            go_meet
            exact ⟨⟨_, r, er, D, E4, cd, ce, rfl, rfl, hr, (by first | (simp [go_sem]; done) | (simp [go_sem, *]; done)), (by first | (simp [go_sem]; done) | (simp [go_sem, *]; done)), (by first | (simp [go_sem]; done) | (simp [go_sem, *]; done)), (by first | (simp [go_sem]; done) | (simp [go_sem, *]; done)), OR.mono (lo := w2.heap.size + 1) orA wnA, OR.mono (lo := w2.heap.size + 1) orA wnA, wnA, abA⟩, abA⟩
        · (go_simp
           (refine hK.out _ _ ?_ (fun hHeld => ?_)
            · (try dsimp only); (refine ⟨?_, ?_, ?_, ?_, ?_, ?_, ?_⟩ <;> (exact ckA))
            clear hK K
            (try simp only [Act.put, stA, st0, st1])))
          refine r1A 11 (fun K hK => ?_)
          (go_simp
           ((go_at_call 108)
            refine (E0 _ abA).mono ?_
            rintro e w8 ⟨rfl, rfl⟩)
           (try go_wp2_with fail)
           (refine hK.out _ _ ?_ (fun hHeld => ?_)
            · (try dsimp only); (refine ⟨?_, ?_, ?_, ?_, ?_, ?_, ?_⟩ <;> (exact ckA))
            clear hK K
            (try simp only [Act.put, stA, st0, st1])))
          refine r1A 12 (fun K hK => ?_)
          (go_simp
           ((go_at_call 122)
            refine (drop_any A B ca cb s t cap false _ (hs.ab abA) (ht.ab abA) hca hcb ls lt (v : Int)).mono ?_
            rintro e w4 ⟨r, er, D, E4, cd, ce, hr, rfl, o1, o2, hb4⟩
            have z4 := hb4.size
            (try simp at z4)
            have hr := Lib.hid (show (r, er) = Disk.drop ⟨s, t, cap, false⟩ (v : Int) by exact hr.out)
            have o1 : OR 5 (w2.heap.size + 1) w4 D cd r.s := OR.mono o1 wnA
            have o2 : OR 5 (w2.heap.size + 1) w4 E4 ce r.t := OR.mono o2 wnA
            have yq0 := hb4.at (p := ⟨w2.heap.size, 0, none⟩) (v := .slice none 0 0) (by simp [go_sem]); have yq1 := hb4.at (p := ⟨w2.heap.size, 1, none⟩) (v := .slice none 0 0) (by simp [go_sem]); have yq2 := hb4.at (p := ⟨w2.heap.size, 2, none⟩) (v := .int .i64 0) (by simp [go_sem]); have yq3 := hb4.at (p := ⟨w2.heap.size, 3, none⟩) (v := .bool false) (by simp [go_sem])
            have yr0 : w4.frozen? ⟨w2.heap.size, 0, none⟩ = false := (hb4.frozen (p := ⟨w2.heap.size, 0, none⟩) (by simp)).trans (by simp [go_sem]); have yr1 : w4.frozen? ⟨w2.heap.size, 1, none⟩ = false := (hb4.frozen (p := ⟨w2.heap.size, 1, none⟩) (by simp)).trans (by simp [go_sem]); have yr2 : w4.frozen? ⟨w2.heap.size, 2, none⟩ = false := (hb4.frozen (p := ⟨w2.heap.size, 2, none⟩) (by simp)).trans (by simp [go_sem]); have yr3 : w4.frozen? ⟨w2.heap.size, 3, none⟩ = false := (hb4.frozen (p := ⟨w2.heap.size, 3, none⟩) (by simp)).trans (by simp [go_sem]))
           (try go_wp2_with fail)
           (refine hK.out _ _ ?_ (fun hHeld => ?_)
            · (try dsimp only); (refine ⟨?_, ?_, ?_, ?_, ?_, ?_, ?_⟩ <;> (exact ckA))
            clear hK K
            (try simp only [Act.put, stA, st0, st1])))
          (refine rtA 13 ?_ ?_
           (try simp only [Act.put, stA, st0, st1]))
          (refine rtA 14 ?_ ?_
           (try simp only [Act.put, stA, st0, st1]))
          (refine rtA 15 ?_ ?_
           (try simp only [Act.put, stA, st0, st1]))
          refine r1A 17 (fun K hK => ?_)
          (go_simp
           (refine hK.out _ _ ?_ (fun hHeld => ?_)
            · (try dsimp only); (refine ⟨?_, ?_, ?_, ?_, ?_, ?_, ?_⟩ <;> (exact ckA))
            clear hK K
            (try simp only [Act.put, stA, st0, st1])))
          refine r1A 18 (fun K hK => ?_)
          (go_simp
           (refine hK.out _ _ ?_ (fun hHeld => ?_)
            · (try dsimp only); (refine ⟨?_, ?_, ?_, ?_, ?_, ?_, ?_⟩ <;> (exact ckA))
            clear hK K
            (try simp only [Act.put, stA, st0, st1])))
          refine wpAnyH_done (by kernel_rfl) ?_ _
          go_wp2_with fail
          go_meet
          exact ⟨⟨_, r, er, D, E4, cd, ce, rfl, rfl, hr, (by first | (simp [go_sem]; done) | (simp [go_sem, *]; done)), (by first | (simp [go_sem]; done) | (simp [go_sem, *]; done)), (by first | (simp [go_sem]; done) | (simp [go_sem, *]; done)), (by first | (simp [go_sem]; done) | (simp [go_sem, *]; done)), OR.mono (lo := w2.heap.size + 1) orA wnA, OR.mono (lo := w2.heap.size + 1) orA wnA, wnA, abA⟩, abA⟩
      obtain ⟨⟨P, r, er, D, E4, cd, ce, rfl, rfl, hr, v0, v1, v2, v3, o1, o2, hPw, hbc⟩, hbd⟩ := hcut
      have zq0 := hbc.at (p := ⟨w.heap.size + 1, 0, none⟩) (v := .slice none 0 0) (by simp [go_sem]); have zq1 := hbc.at (p := ⟨w.heap.size + 1, 1, none⟩) (v := .slice none 0 0) (by simp [go_sem]); have zq2 := hbc.at (p := ⟨w.heap.size + 1, 2, none⟩) (v := .int .i64 0) (by simp [go_sem]); have zq3 := hbc.at (p := ⟨w.heap.size + 1, 3, none⟩) (v := .bool false) (by simp [go_sem]); have zq4 := hbc.at (p := ⟨w.heap.size + 1, 4, none⟩) (v := .int .i64 0) (by simp [go_sem]); have zq5 := hbc.at (p := ⟨w.heap.size + 1, 5, none⟩) (v := .int .i64 0) (by simp [go_sem])
      have zr0 : wc.frozen? ⟨w.heap.size + 1, 0, none⟩ = false := (hbc.frozen (p := ⟨w.heap.size + 1, 0, none⟩) (by simp)).trans (by simp [go_sem]); have zr1 : wc.frozen? ⟨w.heap.size + 1, 1, none⟩ = false := (hbc.frozen (p := ⟨w.heap.size + 1, 1, none⟩) (by simp)).trans (by simp [go_sem]); have zr2 : wc.frozen? ⟨w.heap.size + 1, 2, none⟩ = false := (hbc.frozen (p := ⟨w.heap.size + 1, 2, none⟩) (by simp)).trans (by simp [go_sem]); have zr3 : wc.frozen? ⟨w.heap.size + 1, 3, none⟩ = false := (hbc.frozen (p := ⟨w.heap.size + 1, 3, none⟩) (by simp)).trans (by simp [go_sem]); have zr4 : wc.frozen? ⟨w.heap.size + 1, 4, none⟩ = false := (hbc.frozen (p := ⟨w.heap.size + 1, 4, none⟩) (by simp)).trans (by simp [go_sem]); have zr5 : wc.frozen? ⟨w.heap.size + 1, 5, none⟩ = false := (hbc.frozen (p := ⟨w.heap.size + 1, 5, none⟩) (by simp)).trans (by simp [go_sem])
      obtain ⟨xq0, xq1, xq2, xq3, xq4, xq5⟩ := cells6 hbd (b := w1.heap.size) (v0 := .slice A s.length ca) (v1 := .slice B t.length cb) (v2 := .int .i64 cap) (v3 := .bool false) (v4 := .int .i64 f) (v5 := .int .i64 n) (by first | (simp [go_sem]; done) | (refine ⟨?_, ?_, ?_, ?_, ?_, ?_⟩ <;> assumption))
      have xq6 := hbd.at (p := ⟨w1.heap.size, 6, none⟩) (v := .slice E ys.length d) ckA
      have hr1 := Lib.hid (Prod.mk.inj (hr.out.trans HDD.out)).1
      obtain rfl : er = 0 := (Prod.mk.inj (hr.out.trans HDD.out)).2
      clear hr
      go_wp2
      refine bodyPost_ret (v := .tuple #[.agg #[.slice D (⟨r, m, n⟩ : Wal.Log).dev.s.length cd, .slice E4 (⟨r, m, n⟩ : Wal.Log).dev.t.length ce, .int .i64 (⟨r, m, n⟩ : Wal.Log).dev.cap, .bool (⟨r, m, n⟩ : Wal.Log).dev.down, .int .i64 (⟨r, m, n⟩ : Wal.Log).first, .int .i64 (⟨r, m, n⟩ : Wal.Log).next], .int .i64 0]) (by simp [results, Tryz.results88, go_sem, *]) rfl ?_
      exact ⟨⟨r, m, n⟩, 0, D, E4, cd, ce, Lib.hid (by rw [hr1.out, HM.out]), rfl, OR.mono (lo := w.heap.size + 1 + 1) orA wnA, OR.mono (lo := w.heap.size + 1 + 1) orA wnA, abA⟩
end Go.Proofs.YthgcfjhnnhigoaaGreat

/- Append of package wal, walked. Own work. -/
namespace Go.Proofs.YthgcfjhnnhigoaaGreat
open Go.RowKit

set_option maxHeartbeats 3200000 in
theorem wappend_any (A B : Option Addr) (ca cb : Nat) (s t : List UInt8) (cap : Int) (dn : Bool) (f n : Int) (w : World) (hs : RB w 0 A s) (ht : RB w 0 B t) (hca : s.length ≤ ca) (hcb : t.length ≤ cb) (ls : s.length ≤ 1000000) (lt : t.length ≤ 1000000) (g : Option (List Frame.Rec)) (hi : Wal.Is ⟨⟨s, t, cap, dn⟩, f, n⟩ g) (C : Option Addr) (cc : Nat) (b : List UInt8) (hb : RB w 0 C b) (hcc : b.length ≤ cc) (lb : b.length ≤ 1000000) :
    Calls Tryz.prog 44 #[.agg #[.slice A s.length ca, .slice B t.length cb, .int .i64 cap, .bool dn, .int .i64 f, .int .i64 n], .slice C b.length cc] w (RetLog3 w (Wal.append ⟨⟨s, t, cap, dn⟩, f, n⟩ b g)) := by
  cases g with
  | none =>
    go_enter Tryz.func44, Tryz.ntmps44
    go_wp2_with fail
    refine (wcheck_any A B ca cb s t cap dn f n _ (hs.ab abA) (ht.ab abA) hca hcb ls lt none hi).mono ?_
    rintro e w1 ⟨r, hr, rfl, hb1⟩
    obtain rfl : r = 8 := hr.out
    have zq0 := hb1.at (p := ⟨w.heap.size + 1, 0, none⟩) (v := .slice none 0 0) (by simp [go_sem]); have zq1 := hb1.at (p := ⟨w.heap.size + 1, 1, none⟩) (v := .slice none 0 0) (by simp [go_sem]); have zq2 := hb1.at (p := ⟨w.heap.size + 1, 2, none⟩) (v := .int .i64 0) (by simp [go_sem]); have zq3 := hb1.at (p := ⟨w.heap.size + 1, 3, none⟩) (v := .bool false) (by simp [go_sem]); have zq4 := hb1.at (p := ⟨w.heap.size + 1, 4, none⟩) (v := .int .i64 0) (by simp [go_sem]); have zq5 := hb1.at (p := ⟨w.heap.size + 1, 5, none⟩) (v := .int .i64 0) (by simp [go_sem])
    have zr0 : w1.frozen? ⟨w.heap.size + 1, 0, none⟩ = false := (hb1.frozen (p := ⟨w.heap.size + 1, 0, none⟩) (by simp)).trans (by simp [go_sem]); have zr1 : w1.frozen? ⟨w.heap.size + 1, 1, none⟩ = false := (hb1.frozen (p := ⟨w.heap.size + 1, 1, none⟩) (by simp)).trans (by simp [go_sem]); have zr2 : w1.frozen? ⟨w.heap.size + 1, 2, none⟩ = false := (hb1.frozen (p := ⟨w.heap.size + 1, 2, none⟩) (by simp)).trans (by simp [go_sem]); have zr3 : w1.frozen? ⟨w.heap.size + 1, 3, none⟩ = false := (hb1.frozen (p := ⟨w.heap.size + 1, 3, none⟩) (by simp)).trans (by simp [go_sem]); have zr4 : w1.frozen? ⟨w.heap.size + 1, 4, none⟩ = false := (hb1.frozen (p := ⟨w.heap.size + 1, 4, none⟩) (by simp)).trans (by simp [go_sem]); have zr5 : w1.frozen? ⟨w.heap.size + 1, 5, none⟩ = false := (hb1.frozen (p := ⟨w.heap.size + 1, 5, none⟩) (by simp)).trans (by simp [go_sem])
    go_wp2
    refine bodyPost_ret (v := .tuple #[.agg #[.slice none 0 0, .slice none 0 0, .int .i64 0, .bool false, .int .i64 0, .int .i64 0], .int .i64 0, .int .i64 8]) (by simp [results, Tryz.results44, go_sem, zq0, zq1, zq2, zq3, zq4, zq5]) rfl ?_
    exact RetLog3.zero rfl abA
  | some rs =>
    obtain rfl : dn = false := hi.isUp
    by_cases h1 : 1000 < b.length
    · have HM := Lib.hid (show Wal.append ⟨⟨s, t, cap, false⟩, f, n⟩ b (some rs) = (Wal.zero, 0, 4) from if_pos h1)
      go_enter Tryz.func44, Tryz.ntmps44
      go_wp2_with fail
      refine (wcheck_any A B ca cb s t cap false f n _ (hs.ab abA) (ht.ab abA) hca hcb ls lt (some rs) hi).mono ?_
      rintro e w1 ⟨r, hr, rfl, hb1⟩
      obtain rfl : r = 0 := hr.out
      have zq0 := hb1.at (p := ⟨w.heap.size + 1, 0, none⟩) (v := .slice none 0 0) (by simp [go_sem]); have zq1 := hb1.at (p := ⟨w.heap.size + 1, 1, none⟩) (v := .slice none 0 0) (by simp [go_sem]); have zq2 := hb1.at (p := ⟨w.heap.size + 1, 2, none⟩) (v := .int .i64 0) (by simp [go_sem]); have zq3 := hb1.at (p := ⟨w.heap.size + 1, 3, none⟩) (v := .bool false) (by simp [go_sem]); have zq4 := hb1.at (p := ⟨w.heap.size + 1, 4, none⟩) (v := .int .i64 0) (by simp [go_sem]); have zq5 := hb1.at (p := ⟨w.heap.size + 1, 5, none⟩) (v := .int .i64 0) (by simp [go_sem])
      have zr0 : w1.frozen? ⟨w.heap.size + 1, 0, none⟩ = false := (hb1.frozen (p := ⟨w.heap.size + 1, 0, none⟩) (by simp)).trans (by simp [go_sem]); have zr1 : w1.frozen? ⟨w.heap.size + 1, 1, none⟩ = false := (hb1.frozen (p := ⟨w.heap.size + 1, 1, none⟩) (by simp)).trans (by simp [go_sem]); have zr2 : w1.frozen? ⟨w.heap.size + 1, 2, none⟩ = false := (hb1.frozen (p := ⟨w.heap.size + 1, 2, none⟩) (by simp)).trans (by simp [go_sem]); have zr3 : w1.frozen? ⟨w.heap.size + 1, 3, none⟩ = false := (hb1.frozen (p := ⟨w.heap.size + 1, 3, none⟩) (by simp)).trans (by simp [go_sem]); have zr4 : w1.frozen? ⟨w.heap.size + 1, 4, none⟩ = false := (hb1.frozen (p := ⟨w.heap.size + 1, 4, none⟩) (by simp)).trans (by simp [go_sem]); have zr5 : w1.frozen? ⟨w.heap.size + 1, 5, none⟩ = false := (hb1.frozen (p := ⟨w.heap.size + 1, 5, none⟩) (by simp)).trans (by simp [go_sem])
      go_wp2
      refine bodyPost_ret (v := .tuple #[.agg #[.slice none 0 0, .slice none 0 0, .int .i64 0, .bool false, .int .i64 0, .int .i64 0], .int .i64 0, .int .i64 4]) (by simp [results, Tryz.results44, go_sem, zq0, zq1, zq2, zq3, zq4, zq5]) rfl ?_
      exact RetLog3.zero HM.out.symm abA
    have k1 : b.length ≤ 1000 := by omega
    have hd1 : decide (1000 < b.length) = false := by simpa using h1
    by_cases h2 : 1000000000 < n
    · have HM := Lib.hid (show Wal.append ⟨⟨s, t, cap, false⟩, f, n⟩ b (some rs) = (Wal.zero, 0, 2) from (if_neg h1).trans (if_pos h2))
      clear h1
      go_enter Tryz.func44, Tryz.ntmps44
      go_wp2_with fail
      refine (wcheck_any A B ca cb s t cap false f n _ (hs.ab abA) (ht.ab abA) hca hcb ls lt (some rs) hi).mono ?_
      rintro e w1 ⟨r, hr, rfl, hb1⟩
      obtain rfl : r = 0 := hr.out
      have zq0 := hb1.at (p := ⟨w.heap.size + 1, 0, none⟩) (v := .slice none 0 0) (by simp [go_sem]); have zq1 := hb1.at (p := ⟨w.heap.size + 1, 1, none⟩) (v := .slice none 0 0) (by simp [go_sem]); have zq2 := hb1.at (p := ⟨w.heap.size + 1, 2, none⟩) (v := .int .i64 0) (by simp [go_sem]); have zq3 := hb1.at (p := ⟨w.heap.size + 1, 3, none⟩) (v := .bool false) (by simp [go_sem]); have zq4 := hb1.at (p := ⟨w.heap.size + 1, 4, none⟩) (v := .int .i64 0) (by simp [go_sem]); have zq5 := hb1.at (p := ⟨w.heap.size + 1, 5, none⟩) (v := .int .i64 0) (by simp [go_sem])
      have zr0 : w1.frozen? ⟨w.heap.size + 1, 0, none⟩ = false := (hb1.frozen (p := ⟨w.heap.size + 1, 0, none⟩) (by simp)).trans (by simp [go_sem]); have zr1 : w1.frozen? ⟨w.heap.size + 1, 1, none⟩ = false := (hb1.frozen (p := ⟨w.heap.size + 1, 1, none⟩) (by simp)).trans (by simp [go_sem]); have zr2 : w1.frozen? ⟨w.heap.size + 1, 2, none⟩ = false := (hb1.frozen (p := ⟨w.heap.size + 1, 2, none⟩) (by simp)).trans (by simp [go_sem]); have zr3 : w1.frozen? ⟨w.heap.size + 1, 3, none⟩ = false := (hb1.frozen (p := ⟨w.heap.size + 1, 3, none⟩) (by simp)).trans (by simp [go_sem]); have zr4 : w1.frozen? ⟨w.heap.size + 1, 4, none⟩ = false := (hb1.frozen (p := ⟨w.heap.size + 1, 4, none⟩) (by simp)).trans (by simp [go_sem]); have zr5 : w1.frozen? ⟨w.heap.size + 1, 5, none⟩ = false := (hb1.frozen (p := ⟨w.heap.size + 1, 5, none⟩) (by simp)).trans (by simp [go_sem])
      obtain ⟨bq0, bq1, bq2, bq3, bq4, bq5⟩ := cells6 hb1 (b := w.heap.size) (v0 := .slice A s.length ca) (v1 := .slice B t.length cb) (v2 := .int .i64 cap) (v3 := .bool false) (v4 := .int .i64 f) (v5 := .int .i64 n) (by first | (simp [go_sem]; done) | (refine ⟨?_, ?_, ?_, ?_, ?_, ?_⟩ <;> assumption))
      go_wp2
      refine bodyPost_ret (v := .tuple #[.agg #[.slice none 0 0, .slice none 0 0, .int .i64 0, .bool false, .int .i64 0, .int .i64 0], .int .i64 0, .int .i64 2]) (by simp [results, Tryz.results44, go_sem, zq0, zq1, zq2, zq3, zq4, zq5]) rfl ?_
      exact RetLog3.zero HM.out.symm abA
    have k2 : n ≤ 1000000000 := by omega
    have hd2 : decide (1000000000 < n) = false := by simpa using h2
    have hrg := hi.rng
    simp only at hrg
    have hrm := hi.room
    simp only [Disk.Dev.size] at hrm
    have HE := Lib.hid (show EncE ⟨n, b⟩ (Frame.enc ⟨n, b⟩) 0 from .inl ⟨⟨by simp only; omega, k2, k1⟩, rfl, rfl⟩)
    have hen : (Frame.enc ⟨n, b⟩).length = 12 + b.length := Frame.enc_length _
    by_cases h3 : cap - ((s.length : Int) + t.length) < 12 + b.length
    · have HM := Lib.hid (show Wal.append ⟨⟨s, t, cap, false⟩, f, n⟩ b (some rs) = (Wal.zero, 0, 18) from (if_neg h1).trans ((if_neg h2).trans (if_pos (by simp only [Disk.Dev.size]; omega))))
      have HD := Lib.hid (show Disk.append ⟨s, t, cap, false⟩ (Frame.enc ⟨n, b⟩) = (Disk.zero, 18) by
        unfold Disk.append; rw [if_neg (by simpa using hi.1), if_pos (by simp only [Disk.Dev.size]; omega)])
      clear h1 h2 hen
      go_enter Tryz.func44, Tryz.ntmps44
      go_wp2_with fail
      refine (wcheck_any A B ca cb s t cap false f n _ (hs.ab abA) (ht.ab abA) hca hcb ls lt (some rs) hi).mono ?_
      rintro e w1 ⟨r, hr, rfl, hb1⟩
      obtain rfl : r = 0 := hr.out
      clear hr
      have z1 := hb1.size
      simp at z1
      obtain ⟨bq0, bq1, bq2, bq3, bq4, bq5⟩ := cells6 hb1 (b := w.heap.size) (v0 := .slice A s.length ca) (v1 := .slice B t.length cb) (v2 := .int .i64 cap) (v3 := .bool false) (v4 := .int .i64 f) (v5 := .int .i64 n) (by first | (simp [go_sem]; done) | (refine ⟨?_, ?_, ?_, ?_, ?_, ?_⟩ <;> assumption))
      go_wp2_with fail
      refine (encode_any n C b cc _ (hb.ab abA) hcc).mono ?_
      rintro e w2 ⟨D, cd, L, er, hL, rfl, o2, hb2⟩
      obtain ⟨hL', rfl⟩ := EncE.unique hL.out HE.out
      have HL := Lib.hid hL'
      have hLl : L.length ≤ 1012 := by have h9 := congrArg List.length hL'; rw [Frame.enc_length] at h9; simp only at h9; omega
      clear hL hL'
      have hz2 : Ab ((w.alloc (.cells #[.slice A s.length ca, .slice B t.length cb, .int .i64 cap, .bool false, .int .i64 f, .int .i64 n] 29)).alloc (.cells #[.slice none 0 0, .slice none 0 0, .int .i64 0, .bool false, .int .i64 0, .int .i64 0] 29)) w2 := abA
      obtain ⟨bq0, bq1, bq2, bq3, bq4, bq5⟩ := cells6 hz2 (b := w.heap.size) (v0 := .slice A s.length ca) (v1 := .slice B t.length cb) (v2 := .int .i64 cap) (v3 := .bool false) (v4 := .int .i64 f) (v5 := .int .i64 n) (by first | (simp [go_sem]; done) | (refine ⟨?_, ?_, ?_, ?_, ?_, ?_⟩ <;> assumption))
      have z2 := hz2.size
      simp at z2
      go_wp2_with fail
      refine (append_any A B ca cb s t cap false _ (hs.ab abA) (ht.ab abA) hca hcb ls lt D cd L (o2.rb.zero.ab abA) o2.le (by omega)).mono ?_
      rintro e w3 ⟨r, er, D', E', cd', ce', hr, rfl, o3, o4, hb3⟩
      obtain ⟨rfl, rfl⟩ := Prod.mk.inj (hr.out.trans (show Disk.append ⟨s, t, cap, false⟩ L = (Disk.zero, 18) by rw [HL.out]; exact HD.out))
      clear hr
      have hz : Ab ((w.alloc (.cells #[.slice A s.length ca, .slice B t.length cb, .int .i64 cap, .bool false, .int .i64 f, .int .i64 n] 29)).alloc (.cells #[.slice none 0 0, .slice none 0 0, .int .i64 0, .bool false, .int .i64 0, .int .i64 0] 29)) w3 := abA
      have zq0 := hz.at (p := ⟨w.heap.size + 1, 0, none⟩) (v := .slice none 0 0) (by simp [go_sem]); have zq1 := hz.at (p := ⟨w.heap.size + 1, 1, none⟩) (v := .slice none 0 0) (by simp [go_sem]); have zq2 := hz.at (p := ⟨w.heap.size + 1, 2, none⟩) (v := .int .i64 0) (by simp [go_sem]); have zq3 := hz.at (p := ⟨w.heap.size + 1, 3, none⟩) (v := .bool false) (by simp [go_sem]); have zq4 := hz.at (p := ⟨w.heap.size + 1, 4, none⟩) (v := .int .i64 0) (by simp [go_sem]); have zq5 := hz.at (p := ⟨w.heap.size + 1, 5, none⟩) (v := .int .i64 0) (by simp [go_sem])
      have zr0 : w3.frozen? ⟨w.heap.size + 1, 0, none⟩ = false := (hz.frozen (p := ⟨w.heap.size + 1, 0, none⟩) (by simp)).trans (by simp [go_sem]); have zr1 : w3.frozen? ⟨w.heap.size + 1, 1, none⟩ = false := (hz.frozen (p := ⟨w.heap.size + 1, 1, none⟩) (by simp)).trans (by simp [go_sem]); have zr2 : w3.frozen? ⟨w.heap.size + 1, 2, none⟩ = false := (hz.frozen (p := ⟨w.heap.size + 1, 2, none⟩) (by simp)).trans (by simp [go_sem]); have zr3 : w3.frozen? ⟨w.heap.size + 1, 3, none⟩ = false := (hz.frozen (p := ⟨w.heap.size + 1, 3, none⟩) (by simp)).trans (by simp [go_sem]); have zr4 : w3.frozen? ⟨w.heap.size + 1, 4, none⟩ = false := (hz.frozen (p := ⟨w.heap.size + 1, 4, none⟩) (by simp)).trans (by simp [go_sem]); have zr5 : w3.frozen? ⟨w.heap.size + 1, 5, none⟩ = false := (hz.frozen (p := ⟨w.heap.size + 1, 5, none⟩) (by simp)).trans (by simp [go_sem])
      have z3 := hz.size
      simp at z3
      have nw3a := fun (o : Obj) (j : Nat) => World.cell?_alloc_lt w3 o ⟨w.heap.size, j, none⟩ (by simp; omega)
      have nw3c := fun (o : Obj) (j : Nat) => World.cell?_alloc_lt w3 o ⟨w.heap.size + 1, j, none⟩ (by simp; omega)
      have nw3b := fun (o : Obj) (j : Nat) => ((Ab.refl w3).alloc o).frozen (p := ⟨w.heap.size, j, none⟩) (by simp; omega)
      have nw3d := fun (o : Obj) (j : Nat) => ((Ab.refl w3).alloc o).frozen (p := ⟨w.heap.size + 1, j, none⟩) (by simp; omega)
      go_wp2
      refine bodyPost_ret (v := .tuple #[.agg #[.slice none 0 0, .slice none 0 0, .int .i64 0, .bool false, .int .i64 0, .int .i64 0], .int .i64 0, .int .i64 18]) (by simp [results, Tryz.results44, go_sem, *]) rfl ?_
      exact RetLog3.zero HM.out.symm abA
    · have HM := Lib.hid (show Wal.append ⟨⟨s, t, cap, false⟩, f, n⟩ b (some rs) = (⟨⟨s, t ++ Frame.enc ⟨n, b⟩, cap, false⟩, f, n + 1⟩, n, 0) from (if_neg h1).trans ((if_neg h2).trans (if_neg (by simp only [Disk.Dev.size]; omega))))
      have HD := Lib.hid (show Disk.append ⟨s, t, cap, false⟩ (Frame.enc ⟨n, b⟩) = (⟨s, t ++ Frame.enc ⟨n, b⟩, cap, false⟩, 0) by
        unfold Disk.append; rw [if_neg (by simpa using hi.1), if_neg (by simp only [Disk.Dev.size]; omega)])
      clear h1 h2 hen
      have hsum : IntKind.i64.wrap (n + 1) = n + 1 := IntWalk.i64_in _ (by omega)
      go_enter Tryz.func44, Tryz.ntmps44
      go_wp2_with fail
      refine (wcheck_any A B ca cb s t cap false f n _ (hs.ab abA) (ht.ab abA) hca hcb ls lt (some rs) hi).mono ?_
      rintro e w1 ⟨r, hr, rfl, hb1⟩
      obtain rfl : r = 0 := hr.out
      clear hr
      have z1 := hb1.size
      simp at z1
      obtain ⟨bq0, bq1, bq2, bq3, bq4, bq5⟩ := cells6 hb1 (b := w.heap.size) (v0 := .slice A s.length ca) (v1 := .slice B t.length cb) (v2 := .int .i64 cap) (v3 := .bool false) (v4 := .int .i64 f) (v5 := .int .i64 n) (by first | (simp [go_sem]; done) | (refine ⟨?_, ?_, ?_, ?_, ?_, ?_⟩ <;> assumption))
      go_wp2_with fail
      refine (encode_any n C b cc _ (hb.ab abA) hcc).mono ?_
      rintro e w2 ⟨D, cd, L, er, hL, rfl, o2, hb2⟩
      obtain ⟨hL', rfl⟩ := EncE.unique hL.out HE.out
      have HL := Lib.hid hL'
      have hLl : L.length ≤ 1012 := by have h9 := congrArg List.length hL'; rw [Frame.enc_length] at h9; simp only at h9; omega
      clear hL hL'
      have hz2 : Ab ((w.alloc (.cells #[.slice A s.length ca, .slice B t.length cb, .int .i64 cap, .bool false, .int .i64 f, .int .i64 n] 29)).alloc (.cells #[.slice none 0 0, .slice none 0 0, .int .i64 0, .bool false, .int .i64 0, .int .i64 0] 29)) w2 := abA
      obtain ⟨bq0, bq1, bq2, bq3, bq4, bq5⟩ := cells6 hz2 (b := w.heap.size) (v0 := .slice A s.length ca) (v1 := .slice B t.length cb) (v2 := .int .i64 cap) (v3 := .bool false) (v4 := .int .i64 f) (v5 := .int .i64 n) (by first | (simp [go_sem]; done) | (refine ⟨?_, ?_, ?_, ?_, ?_, ?_⟩ <;> assumption))
      have z2 := hz2.size
      simp at z2
      go_wp2_with fail
      refine (append_any A B ca cb s t cap false _ (hs.ab abA) (ht.ab abA) hca hcb ls lt D cd L (o2.rb.zero.ab abA) o2.le (by omega)).mono ?_
      rintro e w3 ⟨r, er, D', E', cd', ce', hr, rfl, o3, o4, hb3⟩
      have hr1 := Lib.hid (Prod.mk.inj (hr.out.trans (show Disk.append ⟨s, t, cap, false⟩ L = (⟨s, t ++ Frame.enc ⟨n, b⟩, cap, false⟩, 0) by rw [HL.out]; exact HD.out))).1
      obtain rfl : er = 0 := (Prod.mk.inj (hr.out.trans (show Disk.append ⟨s, t, cap, false⟩ L = (⟨s, t ++ Frame.enc ⟨n, b⟩, cap, false⟩, 0) by rw [HL.out]; exact HD.out))).2
      clear hr
      have hz : Ab ((w.alloc (.cells #[.slice A s.length ca, .slice B t.length cb, .int .i64 cap, .bool false, .int .i64 f, .int .i64 n] 29)).alloc (.cells #[.slice none 0 0, .slice none 0 0, .int .i64 0, .bool false, .int .i64 0, .int .i64 0] 29)) w3 := abA
      have zq0 := hz.at (p := ⟨w.heap.size + 1, 0, none⟩) (v := .slice none 0 0) (by simp [go_sem]); have zq1 := hz.at (p := ⟨w.heap.size + 1, 1, none⟩) (v := .slice none 0 0) (by simp [go_sem]); have zq2 := hz.at (p := ⟨w.heap.size + 1, 2, none⟩) (v := .int .i64 0) (by simp [go_sem]); have zq3 := hz.at (p := ⟨w.heap.size + 1, 3, none⟩) (v := .bool false) (by simp [go_sem]); have zq4 := hz.at (p := ⟨w.heap.size + 1, 4, none⟩) (v := .int .i64 0) (by simp [go_sem]); have zq5 := hz.at (p := ⟨w.heap.size + 1, 5, none⟩) (v := .int .i64 0) (by simp [go_sem])
      have zr0 : w3.frozen? ⟨w.heap.size + 1, 0, none⟩ = false := (hz.frozen (p := ⟨w.heap.size + 1, 0, none⟩) (by simp)).trans (by simp [go_sem]); have zr1 : w3.frozen? ⟨w.heap.size + 1, 1, none⟩ = false := (hz.frozen (p := ⟨w.heap.size + 1, 1, none⟩) (by simp)).trans (by simp [go_sem]); have zr2 : w3.frozen? ⟨w.heap.size + 1, 2, none⟩ = false := (hz.frozen (p := ⟨w.heap.size + 1, 2, none⟩) (by simp)).trans (by simp [go_sem]); have zr3 : w3.frozen? ⟨w.heap.size + 1, 3, none⟩ = false := (hz.frozen (p := ⟨w.heap.size + 1, 3, none⟩) (by simp)).trans (by simp [go_sem]); have zr4 : w3.frozen? ⟨w.heap.size + 1, 4, none⟩ = false := (hz.frozen (p := ⟨w.heap.size + 1, 4, none⟩) (by simp)).trans (by simp [go_sem]); have zr5 : w3.frozen? ⟨w.heap.size + 1, 5, none⟩ = false := (hz.frozen (p := ⟨w.heap.size + 1, 5, none⟩) (by simp)).trans (by simp [go_sem])
      obtain ⟨bq0, bq1, bq2, bq3, bq4, bq5⟩ := cells6 hz (b := w.heap.size) (v0 := .slice A s.length ca) (v1 := .slice B t.length cb) (v2 := .int .i64 cap) (v3 := .bool false) (v4 := .int .i64 f) (v5 := .int .i64 n) (by first | (simp [go_sem]; done) | (refine ⟨?_, ?_, ?_, ?_, ?_, ?_⟩ <;> assumption))
      have z3 := hz.size
      simp at z3
      have nw3a := fun (o : Obj) (j : Nat) => World.cell?_alloc_lt w3 o ⟨w.heap.size, j, none⟩ (by simp; omega)
      have nw3c := fun (o : Obj) (j : Nat) => World.cell?_alloc_lt w3 o ⟨w.heap.size + 1, j, none⟩ (by simp; omega)
      have nw3b := fun (o : Obj) (j : Nat) => ((Ab.refl w3).alloc o).frozen (p := ⟨w.heap.size, j, none⟩) (by simp; omega)
      have nw3d := fun (o : Obj) (j : Nat) => ((Ab.refl w3).alloc o).frozen (p := ⟨w.heap.size + 1, j, none⟩) (by simp; omega)
      go_wp2_with fail
      go_region_held3 (fun w' => (w'.cell? ⟨w3.heap.size, 0, none⟩ = some (.slice D' r.s.length cd') ∧ w'.cell? ⟨w3.heap.size, 1, none⟩ = some (.slice E' r.t.length ce') ∧ w'.cell? ⟨w3.heap.size, 2, none⟩ = some (.int .i64 r.cap) ∧
          w'.cell? ⟨w3.heap.size, 3, none⟩ = some (.bool r.down)) ∧ w'.cell? ⟨w.heap.size, 4, none⟩ = some (.int .i64 f) ∧ w'.cell? ⟨w.heap.size, 5, none⟩ = some (.int .i64 n))
        ((refine ⟨⟨?_, ?_, ?_, ?_⟩, ?_, ?_⟩ <;> (first | (simp [go_sem, *]; done) | (exact ckA))))
        (fail)
      all_goals go_wp2
      all_goals refine bodyPost_ret (v := .tuple #[.agg #[.slice D' (⟨r, f, n + 1⟩ : Wal.Log).dev.s.length cd', .slice E' (⟨r, f, n + 1⟩ : Wal.Log).dev.t.length ce', .int .i64 (⟨r, f, n + 1⟩ : Wal.Log).dev.cap, .bool (⟨r, f, n + 1⟩ : Wal.Log).dev.down, .int .i64 (⟨r, f, n + 1⟩ : Wal.Log).first, .int .i64 (⟨r, f, n + 1⟩ : Wal.Log).next], .int .i64 n, .int .i64 0]) (by simp [results, Tryz.results44, go_sem, *]) rfl ?_
      all_goals exact ⟨⟨r, f, n + 1⟩, n, 0, D', E', cd', ce', Lib.hid (by rw [HM.out, hr1.out]), rfl, OR.mono (lo := w2.heap.size) orA wnA, OR.mono (lo := w2.heap.size) orA wnA, abA⟩
end Go.Proofs.YthgcfjhnnhigoaaGreat
