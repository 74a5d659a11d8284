/- WalLives, walked. Own work. -/
import Derived.Test.YtehagdpcegpbjaaWLiveI
set_option linter.unusedVariables false
set_option linter.unusedSimpArgs false
namespace Go.Proofs.Ytehagdpcegpbjaa
open Go.RowKit

theorem far_none (D : Option Addr) (l : List UInt8) : Far none D l := fun p q h => by cases h
theorem live_zero {s t : List UInt8} {cap f n : Int} {rs : List Frame.Rec} (hg : Wal.Good ⟨⟨s, t, cap, false⟩, f, n⟩ rs) (hfn : f = n) (hf : f ≤ 1000000) (hc : 4000 ≤ cap) : Wal.LiveR 0 ⟨⟨s, t, cap, false⟩, f, n⟩ [] 0 := by
  subst hfn
  have h1 := hg.2.2.2.1
  simp only at h1
  have hr : rs = [] := List.eq_nil_of_length_eq_zero (by omega)
  subst hr
  have h2 := hg.2.2.1
  simp only at h2
  obtain ⟨rfl, rfl⟩ : s = [] ∧ t = [] := by
    have := congrArg List.length h2
    rw [List.length_append] at this
    simp [Frame.all] at this
    exact this
  have h3 := hg.room
  have h4 := hg.rng
  simp only at h3 h4
  exact ⟨rfl, Wal.live_none h4.1 hf hc h3.2.1⟩

set_option maxRecDepth 1000000 in
set_option maxHeartbeats 9600000 in
theorem wlives_walk (A B : Option Addr) (ca cb : Nat) (s t : List UInt8) (cap : Int) (dn : Bool) (f n : Int) (w : World) (hs : RB w 0 A s) (ht : RB w 0 B t) (hca : s.length ≤ ca) (hcb : t.length ≤ cb) (ls : s.length ≤ 9223372036854775807) (lt : t.length ≤ 9223372036854775807) (S : Option Addr) (c0 : Nat) (ns : List Int) (hI : Ints w S ns) (hb : ∀ x ∈ ns, -9223372036854775808 ≤ x) (hn : ns.length ≤ 9223372036854775807) :
    Calls Try.prog 8 #[.agg #[.slice A s.length ca, .slice B t.length cb, .int .i64 cap, .bool dn, .int .i64 f, .int .i64 n], .slice S ns.length c0] w fun e w' => e = .returned (.bool true) ∧ Ab w w' := by
  have HB := Lib.hid hb; clear hb
  by_cases hfit : great4B s.length t.length = true ∨ ∀ rs, ¬ Wal.Good ⟨⟨s, t, cap, dn⟩, f, n⟩ rs
  · go_enter Try.func8, Try.ntmps8
    go_wp2_with fail
    refine (fit4_no A B ca cb s t cap dn f n _ (hs.ab (by repeat (first | with_reducible exact Ab.refl _ | with_reducible assumption | with_reducible refine Ab.drew ?_ | with_reducible refine Ab.drewN ?_ _ | with_reducible refine Ab.alloc ?_ _ | with_reducible refine Ab.trans ?_ (by assumption) | with_reducible refine Ab.set ?_ (by first | (simp; done) | omega | (simp; omega)) _))) (ht.ab (by repeat (first | with_reducible exact Ab.refl _ | with_reducible assumption | with_reducible refine Ab.drew ?_ | with_reducible refine Ab.drewN ?_ _ | with_reducible refine Ab.alloc ?_ _ | with_reducible refine Ab.trans ?_ (by assumption) | with_reducible refine Ab.set ?_ (by first | (simp; done) | omega | (simp; omega)) _))) hca hcb ls lt hfit).mono ?_
    rintro e w1 ⟨rfl, hb1⟩
    go_wp2_with fail
    refine (alive4_true _).mono ?_
    rintro e w2 ⟨rfl, hb2⟩
    go_wp2
    go_ret
    exact ⟨rfl, (by repeat (first | with_reducible exact Ab.refl _ | with_reducible assumption | with_reducible refine Ab.drew ?_ | with_reducible refine Ab.drewN ?_ _ | with_reducible refine Ab.alloc ?_ _ | with_reducible refine Ab.trans ?_ (by assumption) | with_reducible refine Ab.set ?_ (by first | (simp; done) | omega | (simp; omega)) _))⟩
  obtain ⟨hgr, hgood⟩ := not_or.1 hfit
  have hgr : great4B s.length t.length = false := by simpa using hgr
  obtain ⟨rs, hg⟩ : ∃ rs, Wal.Good ⟨⟨s, t, cap, dn⟩, f, n⟩ rs := by
    have := Classical.not_forall.1 hgood
    obtain ⟨rs, h⟩ := this
    exact ⟨rs, Classical.not_not.1 h⟩
  obtain rfl : dn = false := hg.isUp
  obtain ⟨l1, l2⟩ := great4B_false hgr
  have HGR := Lib.hid hgr
  have HG := Lib.hid hg
  clear hfit hgood hgr hg
  by_cases hall : f = n ∧ f ≤ 1000000 ∧ ns.length ≤ 20 ∧ 4000 ≤ cap
  · obtain ⟨h1, h2, h3, h4⟩ := hall
    have hL0 := Lib.hid (live_zero HG.out h1 h2 h4)
    subst h1
    go_enter Try.func8, Try.ntmps8
    go_wp2_with fail
    refine (fit4_yes A B ca cb s t cap f f _ (hs.ab (by repeat (first | with_reducible exact Ab.refl _ | with_reducible assumption | with_reducible refine Ab.drew ?_ | with_reducible refine Ab.drewN ?_ _ | with_reducible refine Ab.alloc ?_ _ | with_reducible refine Ab.trans ?_ (by assumption) | with_reducible refine Ab.set ?_ (by first | (simp; done) | omega | (simp; omega)) _))) (ht.ab (by repeat (first | with_reducible exact Ab.refl _ | with_reducible assumption | with_reducible refine Ab.drew ?_ | with_reducible refine Ab.drewN ?_ _ | with_reducible refine Ab.alloc ?_ _ | with_reducible refine Ab.trans ?_ (by assumption) | with_reducible refine Ab.set ?_ (by first | (simp; done) | omega | (simp; omega)) _))) hca hcb HGR.out rs HG.out).mono ?_
    rintro e w1 ⟨rfl, hb1⟩
    have hab : Ab w w1 := (by repeat (first | with_reducible exact Ab.refl _ | with_reducible assumption | with_reducible refine Ab.drew ?_ | with_reducible refine Ab.drewN ?_ _ | with_reducible refine Ab.alloc ?_ _ | with_reducible refine Ab.trans ?_ (by assumption) | with_reducible refine Ab.set ?_ (by first | (simp; done) | omega | (simp; omega)) _))
    have hbx : LBox w.heap.size ⟨⟨s, t, cap, false⟩, f, f⟩ A B ca cb w1 :=
      LBox.ab (wx := w.alloc (.cells #[.slice A s.length ca, .slice B t.length cb, .int .i64 cap, .bool false, .int .i64 f, .int .i64 f] 26)) ⟨⟨by simp [go_sem], by simp [go_sem], by simp [go_sem], by simp [go_sem], by simp [go_sem], by simp [go_sem]⟩, ⟨by simp [go_sem], by simp [go_sem], by simp [go_sem], by simp [go_sem], by simp [go_sem], by simp [go_sem]⟩, by simp⟩ hb1
    have hM : LMem w w1 ⟨⟨s, t, cap, false⟩, f, f⟩ A B none ca cb 0 [] := ⟨hbx, hs.ab hab, ht.ab hab, hca, hcb, OwnRecs.nil, far_none _ _, far_none _ _, hab⟩
    have h5 : (ns.length : Int) ≤ 20 := by omega
    have h6 : ¬ (20 : Int) < (ns.length : Int) := by omega
    obtain ⟨⟨q0, q1, q2, q3, q4, q5⟩, -, -⟩ := hbx
    simp only at q0 q1 q2 q3 q4 q5
    go_wp2
    refine wp_loop (LInv w S ns.length c0) (fun x _ => LMu ns.length x) ?_ (fun a' w' hI' => lv_round w w' S ns.length c0 h3 ns rfl hI HB.out _ ?_ ?_ a' hI')
    · exact ⟨0, Nat.zero_le _, ⟨⟨s, t, cap, false⟩, f, f⟩, A, B, none, ca, cb, 0, 0, [], [], rfl, ⟨rfl, rfl, rfl, rfl, rfl, rfl⟩, hM, rfl, hL0⟩
    · intro _ _ _ o _ h
      cases o <;> exact h
    rintro ⟨T2, d2⟩ w2 ⟨hd2, hs2, hb2⟩
    simp only at hd2 hs2
    subst hd2
    obtain ⟨g, hg, hT⟩ := opq_lit 196 T2 hs2
    rw [lit_196] at hT
    subst hT
    clear hg q0 q1 q2 q3 q4 q5 hM hL0
    go_wp2_with fail
    refine (alive4_true _).mono ?_
    rintro e w3 ⟨rfl, hb3⟩
    go_wp2
    go_ret
    exact ⟨rfl, (by repeat (first | with_reducible exact Ab.refl _ | with_reducible assumption | with_reducible refine Ab.drew ?_ | with_reducible refine Ab.drewN ?_ _ | with_reducible refine Ab.alloc ?_ _ | with_reducible refine Ab.trans ?_ (by assumption) | with_reducible refine Ab.set ?_ (by first | (simp; done) | omega | (simp; omega)) _))⟩
  · have HA := Lib.hid hall
    by_cases h1 : f = n
    · subst h1
      by_cases h2 : f ≤ 1000000
      · by_cases h3 : ns.length ≤ 20
        · have h4 : cap < 4000 := by
            have := HA.out; omega
          have h5 : (ns.length : Int) ≤ 20 := by omega
          clear hall
          go_enter Try.func8, Try.ntmps8
          go_wp2_with fail
          refine (fit4_yes A B ca cb s t cap f f _ (hs.ab (by repeat (first | with_reducible exact Ab.refl _ | with_reducible assumption | with_reducible refine Ab.drew ?_ | with_reducible refine Ab.drewN ?_ _ | with_reducible refine Ab.alloc ?_ _ | with_reducible refine Ab.trans ?_ (by assumption) | with_reducible refine Ab.set ?_ (by first | (simp; done) | omega | (simp; omega)) _))) (ht.ab (by repeat (first | with_reducible exact Ab.refl _ | with_reducible assumption | with_reducible refine Ab.drew ?_ | with_reducible refine Ab.drewN ?_ _ | with_reducible refine Ab.alloc ?_ _ | with_reducible refine Ab.trans ?_ (by assumption) | with_reducible refine Ab.set ?_ (by first | (simp; done) | omega | (simp; omega)) _))) hca hcb HGR.out rs HG.out).mono ?_
          rintro e w1 ⟨rfl, hb1⟩
          obtain ⟨bq0, bq1, bq2, bq3, bq4, bq5⟩ := cells6 hb1 (b := w.heap.size) (v0 := .slice A s.length ca) (v1 := .slice B t.length cb) (v2 := .int .i64 cap) (v3 := .bool false) (v4 := .int .i64 f) (v5 := .int .i64 f) (by first | (simp [go_sem]; done) | (refine ⟨?_, ?_, ?_, ?_, ?_, ?_⟩ <;> assumption))
          go_wp2_with fail
          refine (alive4_true _).mono ?_
          rintro e w2 ⟨rfl, hb2⟩
          go_wp2
          go_ret
          exact ⟨rfl, (by repeat (first | with_reducible exact Ab.refl _ | with_reducible assumption | with_reducible refine Ab.drew ?_ | with_reducible refine Ab.drewN ?_ _ | with_reducible refine Ab.alloc ?_ _ | with_reducible refine Ab.trans ?_ (by assumption) | with_reducible refine Ab.set ?_ (by first | (simp; done) | omega | (simp; omega)) _))⟩
        · have h5 : (20 : Int) < (ns.length : Int) := by omega
          clear hall
          go_enter Try.func8, Try.ntmps8
          go_wp2_with fail
          refine (fit4_yes A B ca cb s t cap f f _ (hs.ab (by repeat (first | with_reducible exact Ab.refl _ | with_reducible assumption | with_reducible refine Ab.drew ?_ | with_reducible refine Ab.drewN ?_ _ | with_reducible refine Ab.alloc ?_ _ | with_reducible refine Ab.trans ?_ (by assumption) | with_reducible refine Ab.set ?_ (by first | (simp; done) | omega | (simp; omega)) _))) (ht.ab (by repeat (first | with_reducible exact Ab.refl _ | with_reducible assumption | with_reducible refine Ab.drew ?_ | with_reducible refine Ab.drewN ?_ _ | with_reducible refine Ab.alloc ?_ _ | with_reducible refine Ab.trans ?_ (by assumption) | with_reducible refine Ab.set ?_ (by first | (simp; done) | omega | (simp; omega)) _))) hca hcb HGR.out rs HG.out).mono ?_
          rintro e w1 ⟨rfl, hb1⟩
          obtain ⟨bq0, bq1, bq2, bq3, bq4, bq5⟩ := cells6 hb1 (b := w.heap.size) (v0 := .slice A s.length ca) (v1 := .slice B t.length cb) (v2 := .int .i64 cap) (v3 := .bool false) (v4 := .int .i64 f) (v5 := .int .i64 f) (by first | (simp [go_sem]; done) | (refine ⟨?_, ?_, ?_, ?_, ?_, ?_⟩ <;> assumption))
          go_wp2_with fail
          refine (alive4_true _).mono ?_
          rintro e w2 ⟨rfl, hb2⟩
          go_wp2
          go_ret
          exact ⟨rfl, (by repeat (first | with_reducible exact Ab.refl _ | with_reducible assumption | with_reducible refine Ab.drew ?_ | with_reducible refine Ab.drewN ?_ _ | with_reducible refine Ab.alloc ?_ _ | with_reducible refine Ab.trans ?_ (by assumption) | with_reducible refine Ab.set ?_ (by first | (simp; done) | omega | (simp; omega)) _))⟩
      · have h5 : (1000000 : Int) < f := by omega
        clear hall
        go_enter Try.func8, Try.ntmps8
        go_wp2_with fail
        refine (fit4_yes A B ca cb s t cap f f _ (hs.ab (by repeat (first | with_reducible exact Ab.refl _ | with_reducible assumption | with_reducible refine Ab.drew ?_ | with_reducible refine Ab.drewN ?_ _ | with_reducible refine Ab.alloc ?_ _ | with_reducible refine Ab.trans ?_ (by assumption) | with_reducible refine Ab.set ?_ (by first | (simp; done) | omega | (simp; omega)) _))) (ht.ab (by repeat (first | with_reducible exact Ab.refl _ | with_reducible assumption | with_reducible refine Ab.drew ?_ | with_reducible refine Ab.drewN ?_ _ | with_reducible refine Ab.alloc ?_ _ | with_reducible refine Ab.trans ?_ (by assumption) | with_reducible refine Ab.set ?_ (by first | (simp; done) | omega | (simp; omega)) _))) hca hcb HGR.out rs HG.out).mono ?_
        rintro e w1 ⟨rfl, hb1⟩
        obtain ⟨bq0, bq1, bq2, bq3, bq4, bq5⟩ := cells6 hb1 (b := w.heap.size) (v0 := .slice A s.length ca) (v1 := .slice B t.length cb) (v2 := .int .i64 cap) (v3 := .bool false) (v4 := .int .i64 f) (v5 := .int .i64 f) (by first | (simp [go_sem]; done) | (refine ⟨?_, ?_, ?_, ?_, ?_, ?_⟩ <;> assumption))
        go_wp2_with fail
        refine (alive4_true _).mono ?_
        rintro e w2 ⟨rfl, hb2⟩
        go_wp2
        go_ret
        exact ⟨rfl, (by repeat (first | with_reducible exact Ab.refl _ | with_reducible assumption | with_reducible refine Ab.drew ?_ | with_reducible refine Ab.drewN ?_ _ | with_reducible refine Ab.alloc ?_ _ | with_reducible refine Ab.trans ?_ (by assumption) | with_reducible refine Ab.set ?_ (by first | (simp; done) | omega | (simp; omega)) _))⟩
    · have h5 : (f != n) = true := by simpa using h1
      clear hall
      go_enter Try.func8, Try.ntmps8
      go_wp2_with fail
      refine (fit4_yes A B ca cb s t cap f n _ (hs.ab (by repeat (first | with_reducible exact Ab.refl _ | with_reducible assumption | with_reducible refine Ab.drew ?_ | with_reducible refine Ab.drewN ?_ _ | with_reducible refine Ab.alloc ?_ _ | with_reducible refine Ab.trans ?_ (by assumption) | with_reducible refine Ab.set ?_ (by first | (simp; done) | omega | (simp; omega)) _))) (ht.ab (by repeat (first | with_reducible exact Ab.refl _ | with_reducible assumption | with_reducible refine Ab.drew ?_ | with_reducible refine Ab.drewN ?_ _ | with_reducible refine Ab.alloc ?_ _ | with_reducible refine Ab.trans ?_ (by assumption) | with_reducible refine Ab.set ?_ (by first | (simp; done) | omega | (simp; omega)) _))) hca hcb HGR.out rs HG.out).mono ?_
      rintro e w1 ⟨rfl, hb1⟩
      obtain ⟨bq0, bq1, bq2, bq3, bq4, bq5⟩ := cells6 hb1 (b := w.heap.size) (v0 := .slice A s.length ca) (v1 := .slice B t.length cb) (v2 := .int .i64 cap) (v3 := .bool false) (v4 := .int .i64 f) (v5 := .int .i64 n) (by first | (simp [go_sem]; done) | (refine ⟨?_, ?_, ?_, ?_, ?_, ?_⟩ <;> assumption))
      go_wp2_with fail
      refine (alive4_true _).mono ?_
      rintro e w2 ⟨rfl, hb2⟩
      go_wp2
      go_ret
      exact ⟨rfl, (by repeat (first | with_reducible exact Ab.refl _ | with_reducible assumption | with_reducible refine Ab.drew ?_ | with_reducible refine Ab.drewN ?_ _ | with_reducible refine Ab.alloc ?_ _ | with_reducible refine Ab.trans ?_ (by assumption) | with_reducible refine Ab.set ?_ (by first | (simp; done) | omega | (simp; omega)) _))⟩
end Go.Proofs.Ytehagdpcegpbjaa
