/- The reference's Split and Join, walked. Own work. -/
import Derived.Test.YtegnkmfdchljkaaDoorLnRefC
set_option linter.unusedVariables false
set_option linter.unusedSimpArgs false
namespace Go.Proofs.YtegnkmfdchljkaaDoor
open Go.RowKit

theorem rsplit_any (A : Option Addr) (l : List UInt8) (c : Nat) (w : World) (hb : RB w 0 A l) (hc : l.length ≤ c) (hA : A = none → c = 0) (ll : l.length ≤ 90000) (hc2 : c ≤ 9223372036854775807) : Calls Tryd.prog 10 #[.slice A l.length c] w (RetSp w l) := by
  have C := fun w' (hk : Ab w w') => rcheck_any A l c w' (hb.ab hk) hc hA ll hc2
  by_cases h : Ln.chk l = 0
  · have S := fun w' (hk : Ab w w') => rparts_any A l c w' (hb.ab hk) hc hA ll hc2
    have H := Lib.hid h
    rw [h] at C
    clear h
    go_enter Tryd.func10, Tryd.ntmps10
    go_wp2_with fail
    refine (C _ abA).mono ?_
    rintro e w1 ⟨rfl, hb1⟩
    go_wp2_with fail
    refine (S _ abA).mono ?_
    rintro e w2 ⟨B, d, ps, rfl, hL, hS, hb2⟩
    have HL := Lib.hid hL
    clear hL
    go_wp2
    go_ret2
    exact RetSp.mk H _ _ ps rfl HL.out hS (hb1.trans hb2)
  · obtain h4 := (Ln.chk_cases l).resolve_right h
    have H := Lib.hid h4
    rw [h4] at C
    clear h h4
    go_enter Tryd.func10, Tryd.ntmps10
    go_wp2_with fail
    refine (C _ abA).mono ?_
    rintro e w1 ⟨rfl, hb1⟩
    go_wp2_with fail
    refine (C _ abA).mono ?_
    rintro e w2 ⟨rfl, hb2⟩
    go_wp2
    go_ret2
    exact RetSp.mk H none 0 [] rfl rfl (SM.none (by omega)) (hb1.trans hb2)
theorem rjoin_any (A : Option Addr) (c : Nat) (ps : List ByteArray) (w : World) (hp : SM w A c ps) (hs : ∀ p ∈ ps, p.size ≤ 5000) : Calls Tryd.prog 12 #[.slice A ps.length c] w (RetJn w (Ln.L ps)) := by
  have C := fun w' (hk : Ab w w') => rlines_any A c ps w' (hp.ab hk) hs
  by_cases h : Ln.err (Ln.L ps) = 0
  · obtain ⟨e1, e2, e3, e4⟩ := Ln.err_zero h
    have htl := Ln.text_len _ e3
    have T := fun w' (hk : Ab w w') => rtext_any A c ps w' (hp.ab hk)
    have H := Lib.hid h
    have hle : (Ln.text (Ln.L ps)).length ≤ 2000 := by omega
    rw [h] at C
    clear h e1 e2 e3 e4 htl hp hs
    unfold RetTx at T
    obtain ⟨t, ht⟩ : ∃ t, t = Ln.text (Ln.L ps) := ⟨_, rfl⟩
    rw [← ht] at T hle
    have HT := Lib.hid ht
    clear ht
    go_enter Tryd.func12, Tryd.ntmps12
    go_wp2_with fail
    refine (C _ abA).mono ?_
    rintro e w1 ⟨rfl, hb1⟩
    go_wp2_with fail
    refine (T _ abA).mono ?_
    rintro e w2 ⟨B, d, y, rfl, rfl, hR, hd, hb2⟩
    go_wp2
    go_ret2
    exact RetJn.mk H _ _ _ rfl HT.out hR hd hle (hb1.trans hb2)
  · have hz : ¬ (Ln.err (Ln.L ps) : Int) = 0 := by omega
    have HZ := Lib.hid h
    clear h
    obtain ⟨n, hn⟩ : ∃ n, Ln.err (Ln.L ps) = n := ⟨_, rfl⟩
    have H := Lib.hid hn
    rw [hn] at C hz HZ
    clear hn
    go_enter Tryd.func12, Tryd.ntmps12
    go_wp2_with fail
    refine (C _ abA).mono ?_
    rintro e w1 ⟨rfl, hb1⟩
    go_wp2_with fail
    refine (C _ abA).mono ?_
    rintro e w2 ⟨rfl, hb2⟩
    go_wp2
    go_ret2
    exact RetJn.mk H none 0 [] rfl (by rw [if_neg HZ.out]) RB.nil (Nat.le_refl _) (by simp) (hb1.trans hb2)
end Go.Proofs.YtegnkmfdchljkaaDoor
