/- FrameBack, walked. Own work. -/
import Derived.Test.YtegdamjblljobaaFrLawA
import Derived.Test.YtegdamjblljobaaFrAlive
set_option linter.unusedVariables false
set_option linter.unusedSimpArgs false
namespace Go.Proofs.Ytegdamjblljobaa
open Go.RowKit

/-- Scan of s[:m], as a walk meets it. -/
theorem scan_cut (A : Option Addr) (b : List UInt8) (c m : Nat) (w : World) (hb : RB w 0 A b) (hc : b.length ≤ c) (hm : m ≤ b.length) (lb : b.length ≤ 9223372036854775807) :
    Calls Try.prog 11 #[.slice A m c] w fun e w' => ∃ B d xs u er, Hid (ScanE (b.take m) (recs xs) u er) ∧ e = .returned (.tuple #[.slice B xs.length d, .int .i64 u, .int .i64 er]) ∧
      OwnRecs w.heap.size w' B d xs ∧ Ab w w' := by
  have hl : (b.take m).length = m := by simp; omega
  have := scan_any A (b.take m) c w (hb.take m) (by omega) (by omega)
  rw [hl] at this
  exact this
theorem same_cut (A B : Option Addr) (c d m : Nat) (x b : List UInt8) (w : World) (hx : RB w 0 A x) (hb : RB w 0 B b) (hm : m ≤ b.length) (he : x = b.take m) (hl : x.length ≤ 100000) :
    Calls Try.prog 20 #[.slice A x.length c, .slice B m d] w fun e w' => e = .returned (.bool true) ∧ ∃ n, w' = w.drewN n := by
  have hl2 : (b.take m).length = m := by simp; omega
  have hxm : x.length = m := by rw [he, hl2]
  have := sameBytes_eq A B c d x (b.take m) w hx (hb.take m) (by omega) (by omega)
  rw [hl2] at this
  exact this.mono fun _ _ h => ⟨by rw [h.1, ← he, beq_self_eq_true], h.2⟩

set_option maxHeartbeats 1600000 in
theorem back_walk (A : Option Addr) (b : List UInt8) (c : Nat) (W : World) (hb : RB W 0 A b) (hc : b.length ≤ c) (lb : b.length ≤ 9223372036854775807) :
    Calls Try.prog 7 #[.slice A b.length c] W (RetTrue W) := by
  by_cases h2 : 2000 < b.length
  · go_enter Try.func7, Try.ntmps7
    go_wp2_with fail
    refine (alive_true _).mono ?_
    rintro e wz ⟨rfl, hbz⟩
    go_wp2
    go_ret
    exact ⟨rfl, (by repeat (first | with_reducible exact Ab.refl _ | with_reducible assumption | with_reducible refine Ab.drew ?_ | with_reducible refine Ab.drewN ?_ _ | with_reducible refine Ab.alloc ?_ _ | with_reducible refine Ab.trans ?_ (by assumption) | with_reducible refine Ab.set ?_ (by first | (simp; done) | omega | (simp; omega)) _))⟩
  · go_enter Try.func7, Try.ntmps7
    go_wp2_with fail
    refine (scan_any A b c _ hb hc lb).mono ?_
    rintro e w1 ⟨B, d, xs, u, er, hS, rfl, o1, b1⟩
    obtain ⟨n, rfl, rfl, hs⟩ : ∃ n : Nat, u = n ∧ er = 0 ∧ Frame.IsScan b (recs xs) n := by
      rcases hS.out with ⟨h, _⟩ | ⟨_, h1, n, h3, h4⟩
      · omega
      · exact ⟨n, h3, h1, h4⟩
    have hsm := Lib.hid (recs_small hS.out)
    have hcn := scan_count hS.out
    have hnb := Frame.scan_le hs
    obtain ⟨hall, hback⟩ := Frame.scan_back hs
    have HF := Lib.hid hs.1
    have HA := Lib.hid hall
    have HB := Lib.hid hback
    clear hS hs hall hback
    have hi1 : ¬ (b.length : Int) < (n : Int) := by omega
    have hi2 : ¬ (n : Int) < 0 := by omega
    have hi3 : (n : Int) ≤ (c : Int) := by omega
    have hi4 : (0 : Int) ≤ (n : Int) := by omega
    have hX := o1.recs.mono (Nat.zero_le _)
    go_wp2_with fail
    refine (following_any B d xs _ hX (by omega)).mono ?_
    rintro e w2 ⟨v, hv, rfl, b2⟩
    obtain rfl : v = true := hv.out.2 HF.out
    go_wp2_with fail
    refine (all_any B d xs _ (hX.ab b2) (by omega)).mono ?_
    rintro e w3 ⟨C, dc, L, er, hL, rfl, o3, b3⟩
    have hE : AllE (recs xs) (b.take n) 0 := .inr (.inr ⟨fun i hi => (HF.out i hi).1, by rw [HA.out]; simp; omega, HA.out.symm, rfl⟩)
    obtain ⟨h5, rfl⟩ := AllE.unique hL.out hE
    have HL := Lib.hid h5
    have l3 : L.length ≤ 2000 := by rw [h5]; simp; omega
    clear hE h5 hL
    have b33 : Ab W w3 := (by repeat (first | with_reducible exact Ab.refl _ | with_reducible assumption | with_reducible refine Ab.drew ?_ | with_reducible refine Ab.drewN ?_ _ | with_reducible refine Ab.alloc ?_ _ | with_reducible refine Ab.trans ?_ (by assumption) | with_reducible refine Ab.set ?_ (by first | (simp; done) | omega | (simp; omega)) _))
    have hX3 := (hX.ab b2).ab b3
    go_wp2_with fail
    refine (scan_cut A b c n _ (hb.ab (by repeat (first | with_reducible exact Ab.refl _ | with_reducible assumption | with_reducible refine Ab.drew ?_ | with_reducible refine Ab.drewN ?_ _ | with_reducible refine Ab.alloc ?_ _ | with_reducible refine Ab.trans ?_ (by assumption) | with_reducible refine Ab.set ?_ (by first | (simp; done) | omega | (simp; omega)) _))) hc hnb lb).mono ?_
    rintro e w4 ⟨D, dd, ys, u', er', hS', rfl, o4, b4⟩
    obtain ⟨hr, rfl, rfl⟩ := ScanE.unique hS'.out (.inr ⟨by simp; omega, rfl, n, rfl, HB.out⟩)
    have HR := Lib.hid hr.symm
    clear hr hS'
    have hY := o4.recs.mono (Nat.zero_le _)
    go_wp2_with fail
    refine (same_cut C A dc c n L b _ (o3.rb.zero.ab (by repeat (first | with_reducible exact Ab.refl _ | with_reducible assumption | with_reducible refine Ab.drew ?_ | with_reducible refine Ab.drewN ?_ _ | with_reducible refine Ab.alloc ?_ _ | with_reducible refine Ab.trans ?_ (by assumption) | with_reducible refine Ab.set ?_ (by first | (simp; done) | omega | (simp; omega)) _))) (hb.ab (by repeat (first | with_reducible exact Ab.refl _ | with_reducible assumption | with_reducible refine Ab.drew ?_ | with_reducible refine Ab.drewN ?_ _ | with_reducible refine Ab.alloc ?_ _ | with_reducible refine Ab.trans ?_ (by assumption) | with_reducible refine Ab.set ?_ (by first | (simp; done) | omega | (simp; omega)) _))) hnb HL.out (by omega)).mono ?_
    rintro e w5 ⟨rfl, n5, rfl⟩
    go_wp2_with fail
    refine (same_true B D d dd xs ys _ (hX3.ab (by repeat (first | with_reducible exact Ab.refl _ | with_reducible assumption | with_reducible refine Ab.drew ?_ | with_reducible refine Ab.drewN ?_ _ | with_reducible refine Ab.alloc ?_ _ | with_reducible refine Ab.trans ?_ (by assumption) | with_reducible refine Ab.set ?_ (by first | (simp; done) | omega | (simp; omega)) _))) (hY.ab (by repeat (first | with_reducible exact Ab.refl _ | with_reducible assumption | with_reducible refine Ab.drew ?_ | with_reducible refine Ab.drewN ?_ _ | with_reducible refine Ab.alloc ?_ _ | with_reducible refine Ab.trans ?_ (by assumption) | with_reducible refine Ab.set ?_ (by first | (simp; done) | omega | (simp; omega)) _))) HR (by omega) hsm).mono ?_
    rintro e w6 ⟨rfl, n6, rfl⟩
    go_wp2_with fail
    refine (alive_true _).mono ?_
    rintro e wz ⟨rfl, hbz⟩
    go_wp2
    go_ret
    exact ⟨rfl, (by repeat (first | with_reducible exact Ab.refl _ | with_reducible assumption | with_reducible refine Ab.drew ?_ | with_reducible refine Ab.drewN ?_ _ | with_reducible refine Ab.alloc ?_ _ | with_reducible refine Ab.trans ?_ (by assumption) | with_reducible refine Ab.set ?_ (by first | (simp; done) | omega | (simp; omega)) _))⟩
end Go.Proofs.Ytegdamjblljobaa
