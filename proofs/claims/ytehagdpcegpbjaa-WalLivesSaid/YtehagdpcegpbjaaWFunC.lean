/- Synced and Records of package wal, walked. Own work. -/
import Derived.Test.YtehagdpcegpbjaaWFunA
set_option linter.unusedVariables false
set_option linter.unusedSimpArgs false
namespace Go.Proofs.Ytehagdpcegpbjaa
open Go.RowKit

theorem torn_any (num : Int) (B A : Option Addr) (nb cb g na ca e : Nat) (w : World) (hc : w.cell? ⟨g, 0, none⟩ = some (.slice A na ca)) (b : Bool) (hb : decide ((na : Int) < (e : Int)) = b) (hb2 : decide (na < e) = b) :
    Calls Try.prog 70 #[.agg #[.int .i64 num, .slice B nb cb, .int .i64 (e : Int)], .pointer (some ⟨g, 0, none⟩)] w fun e' w' => e' = .returned (.bool b) ∧ Ab w w' := by
  have hc' : (w.alloc (.cells #[.int .i64 num, .slice B nb cb, .int .i64 (e : Int)] 82)).cell? ⟨g, 0, none⟩ = some (.slice A na ca) := cell_alloc hc
  cases b
  · go_enter Try.func70, Try.ntmps70
    go_wp2
    go_ret
    exact ⟨ret_bool (by first | rfl | (simp at hb2 ⊢; omega) | simp_all), (by repeat (first | with_reducible exact Ab.refl _ | with_reducible assumption | with_reducible refine Ab.drew ?_ | with_reducible refine Ab.drewN ?_ _ | with_reducible refine Ab.alloc ?_ _ | with_reducible refine Ab.trans ?_ (by assumption) | with_reducible refine Ab.set ?_ (by first | (simp; done) | omega | (simp; omega)) _))⟩
  · go_enter Try.func70, Try.ntmps70
    go_wp2
    go_ret
    exact ⟨ret_bool (by first | rfl | (simp at hb2 ⊢; omega) | simp_all), (by repeat (first | with_reducible exact Ab.refl _ | with_reducible assumption | with_reducible refine Ab.drew ?_ | with_reducible refine Ab.drewN ?_ _ | with_reducible refine Ab.alloc ?_ _ | with_reducible refine Ab.trans ?_ (by assumption) | with_reducible refine Ab.set ?_ (by first | (simp; done) | omega | (simp; omega)) _))⟩

/-- The index that IndexFunc returns: kk, if that is one, or -1. -/
theorem index_any (E : Option Addr) (d : Nat) (ys : List EntM) (g na ca kk : Nat) (A : Option Addr) (v : Int) (w : World) (hE : Ents w 0 E ys) (hn : ys.length ≤ 20000) (hc : w.cell? ⟨g, 0, none⟩ = some (.slice A na ca)) (hna : na ≤ 20000)
    (h1 : Hid (∀ i (h : i < ys.length), i < kk → ys[i].e ≤ na)) (h2 : Hid (∀ h : kk < ys.length, na < ys[kk].e)) (hkk : kk ≤ ys.length) (hv : Hid (v = if kk < ys.length then (kk : Int) else -1)) :
    Calls Try.prog 71 #[.slice E ys.length d, .func (.func 70) #[] #[.pointer (some ⟨g, 0, none⟩)]] w fun e w' => e = .returned (.int .i64 v) ∧ Ab w w' := by
  go_enter Try.func71, Try.ntmps71
  go_wp2
  go_loopw [8] (fun i wr => ∃ k : Nat, k ≤ kk ∧ i = .int .i64 (k : Int) ∧ Ab w wr) (fun i _ => kk + 1 - (intOf i).toNat)
  case atStart => exact ⟨0, Nat.zero_le _, rfl, Ab.refl _⟩
  case round =>
    obtain ⟨k, hk, rfl, hb⟩ := hrel
    by_cases hlt : k < ys.length
    · obtain ⟨a, hEa, -, c0, c1, c2, -⟩ := (hE.ab hb).at_ hlt
      have hcw := hb.at hc
      have hki : (k : Int) < (ys.length : Int) := by omega
      have hk0 : (0 : Int) ≤ (k : Int) := by omega
      by_cases hk2 : k < kk
      · have hle := h1.out k hlt hk2
        have T0 : ∀ w', Ab wr w' → Calls Try.prog 70 #[.agg #[.int .i64 ys[k].x.num, .slice ys[k].x.A ys[k].x.b.length ys[k].x.c, .int .i64 (ys[k].e : Int)], .pointer (some ⟨g, 0, none⟩)] w' (fun e' w'' => e' = .returned (.bool false) ∧ Ab w' w'') := fun w' hw =>
          torn_any _ _ A _ _ g na ca _ w' (hw.at hcw) false (by simp; omega) (by simp; omega)
        subst hEa
        generalize ys[k] = y at *
        clear hle
        go_wp2_with fail
        refine (T0 _ (by repeat (first | with_reducible exact Ab.refl _ | with_reducible assumption | with_reducible refine Ab.drew ?_ | with_reducible refine Ab.drewN ?_ _ | with_reducible refine Ab.alloc ?_ _ | with_reducible refine Ab.trans ?_ (by assumption) | with_reducible refine Ab.set ?_ (by first | (simp; done) | omega | (simp; omega)) _))).mono ?_
        rintro e w2 ⟨rfl, hb2⟩
        go_wp2
        go_roundw
        case rel => exact ⟨k + 1, by omega, by go_num, (by repeat (first | with_reducible exact Ab.refl _ | with_reducible assumption | with_reducible refine Ab.drew ?_ | with_reducible refine Ab.drewN ?_ _ | with_reducible refine Ab.alloc ?_ _ | with_reducible refine Ab.trans ?_ (by assumption) | with_reducible refine Ab.set ?_ (by first | (simp; done) | omega | (simp; omega)) _))⟩
        case measure => simp [intOf]; omega
      · obtain rfl : k = kk := by omega
        have hle := h2.out hlt
        have HV := Lib.hid (hv.out.trans (if_pos hlt))
        have T0 : ∀ w', Ab wr w' → Calls Try.prog 70 #[.agg #[.int .i64 ys[k].x.num, .slice ys[k].x.A ys[k].x.b.length ys[k].x.c, .int .i64 (ys[k].e : Int)], .pointer (some ⟨g, 0, none⟩)] w' (fun e' w'' => e' = .returned (.bool true) ∧ Ab w' w'') := fun w' hw =>
          torn_any _ _ A _ _ g na ca _ w' (hw.at hcw) true (by simp; omega) (by simp; omega)
        subst hEa
        generalize ys[k] = y at *
        clear hle
        go_wp2_with fail
        refine (T0 _ (by repeat (first | with_reducible exact Ab.refl _ | with_reducible assumption | with_reducible refine Ab.drew ?_ | with_reducible refine Ab.drewN ?_ _ | with_reducible refine Ab.alloc ?_ _ | with_reducible refine Ab.trans ?_ (by assumption) | with_reducible refine Ab.set ?_ (by first | (simp; done) | omega | (simp; omega)) _))).mono ?_
        rintro e w2 ⟨rfl, hb2⟩
        go_wp2
        go_ret
        exact ⟨ret_int (by rw [HV.out]; try rfl), (by repeat (first | with_reducible exact Ab.refl _ | with_reducible assumption | with_reducible refine Ab.drew ?_ | with_reducible refine Ab.drewN ?_ _ | with_reducible refine Ab.alloc ?_ _ | with_reducible refine Ab.trans ?_ (by assumption) | with_reducible refine Ab.set ?_ (by first | (simp; done) | omega | (simp; omega)) _))⟩
    · have HV := Lib.hid (hv.out.trans (if_neg (by omega)))
      go_wp2
      go_ret
      exact ⟨ret_int (by rw [HV.out]; try rfl), (by repeat (first | with_reducible exact Ab.refl _ | with_reducible assumption | with_reducible refine Ab.drew ?_ | with_reducible refine Ab.drewN ?_ _ | with_reducible refine Ab.alloc ?_ _ | with_reducible refine Ab.trans ?_ (by assumption) | with_reducible refine Ab.set ?_ (by first | (simp; done) | omega | (simp; omega)) _))⟩

/-- What the entries tell of the synced bytes. -/
theorem ents_cut {ys : List EntM} {rs : List Frame.Rec} (hR : erecs ys = rs) (hE : Ends ys) (n : Nat) :
    (∀ i (h : i < ys.length), i < Wal.cut rs n → ys[i].e ≤ n) ∧ (∀ h : Wal.cut rs n < ys.length, n < ys[Wal.cut rs n].e) ∧ Wal.cut rs n ≤ ys.length := by
  subst hR
  refine ⟨fun i h hi => ?_, fun h => ?_, by rw [← erecs_length ys]; exact Wal.cut_le _ _⟩
  · rw [hE i h]
    exact Nat.le_trans (Wal.take_mono _ hi) (Wal.cut_in _ _)
  · rw [hE _ h]
    rcases Wal.cut_out (erecs ys) n with h1 | h1
    · rw [erecs_length] at h1; omega
    · exact h1

set_option maxHeartbeats 1600000 in
theorem msynced_any (A B : Option Addr) (ca cb : Nat) (s t : List UInt8) (cap f n : Int) (w : World) (rs : List Frame.Rec) (hg : Wal.Good ⟨⟨s, t, cap, false⟩, f, n⟩ rs) (E : Option Addr) (d : Nat) (ys : List EntM) (hR : Hid (erecs ys = rs)) (hE : Hid (Ends ys))
    (hEn : Ents w 0 E ys) (hyl : ys.length ≤ 20000) :
    Calls Try.prog 49 #[.agg #[.slice A s.length ca, .slice B t.length cb, .int .i64 cap, .bool false, .int .i64 f, .int .i64 n, .slice E ys.length d]] w (RetInt w (f + Wal.cut rs s.length)) := by
  have hmf : ∀ (fn : Fn) (first cap : Array Value) (w : World), (Instr.makeFunc fn first cap).run Try.prog w = .ok (.func fn first cap) w := fun _ _ _ _ => rfl
  obtain ⟨h1, h2, h3⟩ := ents_cut hR.out hE.out s.length
  obtain ⟨kk, hkk⟩ : ∃ kk, Wal.cut rs s.length = kk := ⟨_, rfl⟩
  rw [hkk] at h1 h3
  have H2 : ∀ h : kk < ys.length, s.length < ys[kk].e := by subst hkk; exact h2
  have hrm := hg.room
  simp only [Disk.Dev.size] at hrm
  have ls : s.length ≤ 20000 := by omega
  have HG := Lib.hid hg
  have HK := Lib.hid hkk
  have H1 := Lib.hid h1
  have H2 := Lib.hid H2
  have hrl : rs.length = ys.length := by rw [← hR.out, erecs_length]
  have HRL := Lib.hid hrl
  clear hrl h1 h2 hkk hg
  by_cases hlt : kk < ys.length
  · have hnum : ys[kk].x.num = f + kk := by
      have h5 := Wal.num_at HG.out.2.1 kk (by rw [HRL.out]; exact hlt)
      have h6 := erecs_get ys kk hlt
      have h7 := HG.out.2.2.2.2.1 (by have := HRL.out; omega)
      simp only at h7
      simp only [← hR.out] at h5 h7
      rw [h6] at h5
      have h8 : ys[kk].x.num = _ := h5
      rw [h8, h7]
    have HN := Lib.hid hnum
    have I0 : ∀ (g : Nat) (w' : World), Ab w w' → w'.cell? ⟨g, 0, none⟩ = some (.slice A s.length ca) → Calls Try.prog 71 #[.slice E ys.length d, .func (.func 70) #[] #[.pointer (some ⟨g, 0, none⟩)]] w' (fun e w'' => e = .returned (.int .i64 (kk : Int)) ∧ Ab w' w'') :=
      fun g w' hb hc => index_any E d ys g s.length ca kk A (kk : Int) w' (hEn.ab hb) hyl hc ls H1 H2 h3 (Lib.hid (if_pos hlt).symm)
    obtain ⟨a, hEa, -, c0, -⟩ := hEn.at_ hlt
    have hki : (kk : Int) < (ys.length : Int) := by omega
    have hk0 : (0 : Int) ≤ (kk : Int) := by omega
    subst hEa
    generalize ys[kk] = y at *
    clear hnum
    go_enter Try.func49, Try.ntmps49
    go_wp2_with fail
    refine (I0 _ _ (by repeat (first | with_reducible exact Ab.refl _ | with_reducible assumption | with_reducible refine Ab.drew ?_ | with_reducible refine Ab.drewN ?_ _ | with_reducible refine Ab.alloc ?_ _ | with_reducible refine Ab.trans ?_ (by assumption) | with_reducible refine Ab.set ?_ (by first | (simp; done) | omega | (simp; omega)) _)) (by simp [go_sem])).mono ?_
    rintro e w2 ⟨rfl, hb2⟩
    have hz : Ab w w2 := (by repeat (first | with_reducible exact Ab.refl _ | with_reducible assumption | with_reducible refine Ab.drew ?_ | with_reducible refine Ab.drewN ?_ _ | with_reducible refine Ab.alloc ?_ _ | with_reducible refine Ab.trans ?_ (by assumption) | with_reducible refine Ab.set ?_ (by first | (simp; done) | omega | (simp; omega)) _))
    have c0' := hz.at c0
    obtain ⟨bq0, bq1, bq2, bq3, bq4, bq5⟩ := cells6 hb2 (b := w.heap.size) (v0 := .slice A s.length ca) (v1 := .slice B t.length cb) (v2 := .int .i64 cap) (v3 := .bool false) (v4 := .int .i64 f) (v5 := .int .i64 n) (by first | (simp [go_sem]; done) | (refine ⟨?_, ?_, ?_, ?_, ?_, ?_⟩ <;> assumption))
    have bq6 := hb2.at (p := ⟨w.heap.size, 6, none⟩) (v := .slice (some a) ys.length d) (by (repeat (first | with_reducible assumption | (simp [go_sem]; done) | with_reducible apply cell_alloc | with_reducible apply cell_drew | with_reducible apply cell_drewN | (with_reducible apply Ab.at; with_reducible assumption) | (with_reducible refine cell_set ?_ ?_; rotate_left; focus (first | (simp; done) | (simp; omega))) | (with_reducible refine cell_setb ?_ ?_; rotate_left; focus (first | omega | (simp only; omega) | (simp; omega))))))
    go_wp2
    go_ret
    exact RetInt.mk (by rw [HK.out, ← HN.out]; rfl) (by repeat (first | with_reducible exact Ab.refl _ | with_reducible assumption | with_reducible refine Ab.drew ?_ | with_reducible refine Ab.drewN ?_ _ | with_reducible refine Ab.alloc ?_ _ | with_reducible refine Ab.trans ?_ (by assumption) | with_reducible refine Ab.set ?_ (by first | (simp; done) | omega | (simp; omega)) _))
  · have HNx := Lib.hid (show n = f + kk by
      have := HG.out.2.2.2.1
      simp only at this
      rw [this, HRL.out]; omega)
    have I0 : ∀ (g : Nat) (w' : World), Ab w w' → w'.cell? ⟨g, 0, none⟩ = some (.slice A s.length ca) → Calls Try.prog 71 #[.slice E ys.length d, .func (.func 70) #[] #[.pointer (some ⟨g, 0, none⟩)]] w' (fun e w'' => e = .returned (.int .i64 (-1)) ∧ Ab w' w'') :=
      fun g w' hb hc => index_any E d ys g s.length ca kk A (-1) w' (hEn.ab hb) hyl hc ls H1 H2 h3 (Lib.hid (if_neg hlt).symm)
    go_enter Try.func49, Try.ntmps49
    go_wp2_with fail
    refine (I0 _ _ (by repeat (first | with_reducible exact Ab.refl _ | with_reducible assumption | with_reducible refine Ab.drew ?_ | with_reducible refine Ab.drewN ?_ _ | with_reducible refine Ab.alloc ?_ _ | with_reducible refine Ab.trans ?_ (by assumption) | with_reducible refine Ab.set ?_ (by first | (simp; done) | omega | (simp; omega)) _)) (by simp [go_sem])).mono ?_
    rintro e w2 ⟨rfl, hb2⟩
    obtain ⟨bq0, bq1, bq2, bq3, bq4, bq5⟩ := cells6 hb2 (b := w.heap.size) (v0 := .slice A s.length ca) (v1 := .slice B t.length cb) (v2 := .int .i64 cap) (v3 := .bool false) (v4 := .int .i64 f) (v5 := .int .i64 n) (by first | (simp [go_sem]; done) | (refine ⟨?_, ?_, ?_, ?_, ?_, ?_⟩ <;> assumption))
    have bq6 := hb2.at (p := ⟨w.heap.size, 6, none⟩) (v := .slice E ys.length d) (by (repeat (first | with_reducible assumption | (simp [go_sem]; done) | with_reducible apply cell_alloc | with_reducible apply cell_drew | with_reducible apply cell_drewN | (with_reducible apply Ab.at; with_reducible assumption) | (with_reducible refine cell_set ?_ ?_; rotate_left; focus (first | (simp; done) | (simp; omega))) | (with_reducible refine cell_setb ?_ ?_; rotate_left; focus (first | omega | (simp only; omega) | (simp; omega))))))
    go_wp2
    go_ret
    exact RetInt.mk (by rw [HK.out, ← HNx.out]; rfl) (by repeat (first | with_reducible exact Ab.refl _ | with_reducible assumption | with_reducible refine Ab.drew ?_ | with_reducible refine Ab.drewN ?_ _ | with_reducible refine Ab.alloc ?_ _ | with_reducible refine Ab.trans ?_ (by assumption) | with_reducible refine Ab.set ?_ (by first | (simp; done) | omega | (simp; omega)) _))

set_option maxHeartbeats 1600000 in
theorem wsynced_any (A B : Option Addr) (ca cb : Nat) (s t : List UInt8) (cap : Int) (dn : Bool) (f n : Int) (w : World) (hs : RB w 0 A s) (ht : RB w 0 B t) (hca : s.length ≤ ca) (hcb : t.length ≤ cb) (ls : s.length ≤ 1000000) (lt : t.length ≤ 1000000) (g : Option (List Frame.Rec)) (hi : Wal.Is ⟨⟨s, t, cap, dn⟩, f, n⟩ g) :
    Calls Try.prog 18 #[.agg #[.slice A s.length ca, .slice B t.length cb, .int .i64 cap, .bool dn, .int .i64 f, .int .i64 n]] w (RetIntE w (Wal.synced ⟨⟨s, t, cap, dn⟩, f, n⟩ g)) := by
  cases g with
  | none =>
    go_enter Try.func18, Try.ntmps18
    go_wp2_with fail
    refine (read_bad A B ca cb s t cap dn f n _ (hs.ab (by repeat (first | with_reducible exact Ab.refl _ | with_reducible assumption | with_reducible refine Ab.drew ?_ | with_reducible refine Ab.drewN ?_ _ | with_reducible refine Ab.alloc ?_ _ | with_reducible refine Ab.trans ?_ (by assumption) | with_reducible refine Ab.set ?_ (by first | (simp; done) | omega | (simp; omega)) _))) (ht.ab (by repeat (first | with_reducible exact Ab.refl _ | with_reducible assumption | with_reducible refine Ab.drew ?_ | with_reducible refine Ab.drewN ?_ _ | with_reducible refine Ab.alloc ?_ _ | with_reducible refine Ab.trans ?_ (by assumption) | with_reducible refine Ab.set ?_ (by first | (simp; done) | omega | (simp; omega)) _))) hca hcb ls lt hi).mono ?_
    rintro e w1 ⟨rfl, hb1⟩
    go_wp2
    go_ret2
    exact ⟨0, 8, Lib.hid rfl, rfl, (by repeat (first | with_reducible exact Ab.refl _ | with_reducible assumption | with_reducible refine Ab.drew ?_ | with_reducible refine Ab.drewN ?_ _ | with_reducible refine Ab.alloc ?_ _ | with_reducible refine Ab.trans ?_ (by assumption) | with_reducible refine Ab.set ?_ (by first | (simp; done) | omega | (simp; omega)) _))⟩
  | some rs =>
    obtain rfl : dn = false := hi.isUp
    go_enter Try.func18, Try.ntmps18
    go_wp2_with fail
    refine (read_good A B ca cb s t cap f n _ (hs.ab (by repeat (first | with_reducible exact Ab.refl _ | with_reducible assumption | with_reducible refine Ab.drew ?_ | with_reducible refine Ab.drewN ?_ _ | with_reducible refine Ab.alloc ?_ _ | with_reducible refine Ab.trans ?_ (by assumption) | with_reducible refine Ab.set ?_ (by first | (simp; done) | omega | (simp; omega)) _))) (ht.ab (by repeat (first | with_reducible exact Ab.refl _ | with_reducible assumption | with_reducible refine Ab.drew ?_ | with_reducible refine Ab.drewN ?_ _ | with_reducible refine Ab.alloc ?_ _ | with_reducible refine Ab.trans ?_ (by assumption) | with_reducible refine Ab.set ?_ (by first | (simp; done) | omega | (simp; omega)) _))) hca hcb rs hi).mono ?_
    rintro e w1 ⟨E, d, ys, hR, hE, rfl, hEn, hd, hyl, hb1⟩
    go_wp2_with fail
    refine (msynced_any A B ca cb s t cap f n _ rs hi E d ys hR hE ((hEn.mono (Nat.zero_le _)).ab (by repeat (first | with_reducible exact Ab.refl _ | with_reducible assumption | with_reducible refine Ab.drew ?_ | with_reducible refine Ab.drewN ?_ _ | with_reducible refine Ab.alloc ?_ _ | with_reducible refine Ab.trans ?_ (by assumption) | with_reducible refine Ab.set ?_ (by first | (simp; done) | omega | (simp; omega)) _))) hyl).mono ?_
    rintro e w2 ⟨r, hr, rfl, hb2⟩
    go_wp2
    go_ret2
    exact ⟨r, 0, Lib.hid (by rw [hr.out]; rfl), rfl, (by repeat (first | with_reducible exact Ab.refl _ | with_reducible assumption | with_reducible refine Ab.drew ?_ | with_reducible refine Ab.drewN ?_ _ | with_reducible refine Ab.alloc ?_ _ | with_reducible refine Ab.trans ?_ (by assumption) | with_reducible refine Ab.set ?_ (by first | (simp; done) | omega | (simp; omega)) _))⟩
end Go.Proofs.Ytehagdpcegpbjaa
