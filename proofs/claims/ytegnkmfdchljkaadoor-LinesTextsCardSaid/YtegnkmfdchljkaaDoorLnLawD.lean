/- LinesTexts, walked. Own work. -/
import Derived.Test.YtegnkmfdchljkaaDoorLnRefD
import Derived.Test.YtegnkmfdchljkaaDoorLnOwn
set_option linter.unusedVariables false
set_option linter.unusedSimpArgs false
namespace Go.Proofs.YtegnkmfdchljkaaDoor
open Go.RowKit

set_option maxHeartbeats 16000000 in
set_option maxRecDepth 100000 in
theorem ltexts_walk (A B : Option Addr) (c d : Nat) (l : List UInt8) (ps : List ByteArray) (w : World) (hb : RB w 0 A l) (hc : l.length ≤ c) (hA : A = none → c = 0) (hc2 : c ≤ 9223372036854775807) (hs : SO w B d ps) :
    Calls Tryd.prog 3 #[.slice A l.length c, .slice B ps.length d] w (RetTrue w) := by
  have C2 := fun w' (hk : Ab w w') => rlong_any B d ps w' (hs.ab hk)
  by_cases h5 : 5000 < l.length
  · have hT : (5000 : Int) < (l.length : Int) := by omega
    go_enter Tryd.func3, Tryd.ntmps3
    go_wp2
    go_ret
    exact ⟨rfl, by exact abA⟩
  · have hT : ¬ (5000 : Int) < (l.length : Int) := by omega
    go_enter Tryd.func3, Tryd.ntmps3
    go_wp2_with fail
    refine (C2 _ abA).mono ?_
    rintro e w2 ⟨q, rfl, hq, hb2⟩
    have B2 : Ab w w2 := Ab.trans (by exact abA) hb2
    clear C2 hb2
    cases q with
    | true =>
      go_wp2
      go_ret
      exact ⟨rfl, by exact abA⟩
    | false =>
      have HH := hq rfl
      have HS := hs.sm HH
      have HH3 := HH.s
      have hpk := HH.k
      have HA := Lib.hid hA
      clear hq hs HH hA
      have hb2 := hb.ab B2
      have HS2 := HS.ab B2
      go_wp2_with (first
        | (at_builtin
           refine listLit (m := l) (lb := 0) rfl _ _ rfl rfl rfl rfl (by (repeat (first | exact new_plain wnA | with_reducible refine old_alloc ?_ | with_reducible refine old_drew ?_ | with_reducible refine old_set ?_ wnA | with_reducible refine old_ab (by assumption) ?_))) (hb.ab abA) hc (by omega) ?_
           intro A5 c5 w5 l5 e5 b5 o5
           have B5 : Ab w w5 := Ab.trans (by exact abA) b5
           have o5 := o5 w.heap.size (by have := B2.size; simp; omega) (by have := B2.size; simp; omega))
        | (at_builtin
           refine listAppS (ps := []) (qs := ps) (lo := w5.heap.size) rfl _ _ rfl rfl rfl rfl rfl (OwnS.room (cur := #[]) (Nat.le_refl _) (by (repeat (first | exact new_plain wnA | with_reducible refine old_alloc ?_ | with_reducible refine old_drew ?_ | with_reducible refine old_set ?_ wnA | with_reducible refine old_ab (by assumption) ?_))) rfl (Nat.zero_le _)) (by simp) (HS.ab (by exact abA)) (by simp) ?_
           intro A6 c6 w6 o6 f6
           have B56 : Ab w5 w6 := f6 w5 (by exact abA) (Nat.le_refl _)
           have B6 : Ab w w6 := B5.trans B56
           clear f6)
        | fail)
      have o6 : OwnS w5.heap.size w6 A6 c6 ps := o6
      have R5 : RB w6 0 A5 l := by have := (o5.rb.zero).ab B56; rw [e5.out] at this; exact this
      have h5c : l.length ≤ c5 := by have := o5.le; rw [e5.out] at this; exact this
      obtain rfl : l5 = l := e5.out
      have HL := o6.sm (by omega) (fun p hp => by have := HH3 p hp; omega)
      have HH5 : ∀ p ∈ ps, p.size ≤ 5000 := fun p hp => by have := HH3 p hp; omega
      clear o5 o6 e5 b5 hb2 HS2 B2 HH3
      have C1 := split_any A5 l5 c5 w6 R5 h5c (by omega)
      have C2 := fun w' (hk : Ab w w') => rsplit_any A l5 c w' (hb.ab hk) hc HA.out (by omega) hc2
      have C3 := fun w' (hk : Ab w6 w') => join_any A6 c6 ps w' (HL.ab hk)
      have C4 := fun w' (hk : Ab w w') => rjoin_any B d ps w' (HS.ab hk) HH5
      have C5 := fun w' (hk : Ab w6 w') => check_any A5 l5 c5 w' (R5.ab hk) h5c (by omega)
      have C6 := fun w' (hk : Ab w w') => rcheck_any A l5 c w' (hb.ab hk) hc HA.out (by omega) hc2
      have C9 := fun w' (hk : Ab w6 w') => rsameB_any A5 A c5 c l5 w' (R5.ab hk) (hb.ab (B6.trans hk))
      have C10 := fun w' (hk : Ab w6 w') => rsame_any A6 B c6 d ps ps w' (HL.ab hk) (HS.ab (B6.trans hk)) rfl
      clear B56 R5 HL B5
      unfold RetSp at C1 C2
      unfold RetJn at C3 C4
      generalize Ln.chk l5 = ck at *
      generalize Ln.err (Ln.L ps) = en at *
      go_wp2_with fail
      refine C1.mono ?_
      rintro e w7 ⟨B1, d1, p1, rfl, hp1, hS1, hx7⟩
      have B67 : Ab w6 w7 := Ab.trans (by exact abA) hx7
      have HP1 := Lib.hid hp1
      clear C1 hx7 hp1
      go_wp2_with fail
      refine (C2 _ (B6.trans (by exact abA))).mono ?_
      rintro e w8 ⟨B2, d2, p2, rfl, hp2, hS2, hx8⟩
      have B78 : Ab w7 w8 := Ab.trans (by exact abA) hx8
      have B68 : Ab w6 w8 := B67.trans B78
      have hS1 := hS1.ab B78
      have HP2 := Lib.hid hp2
      clear C2 hx8 hp2 B67
      go_wp2_with fail
      refine (C3 _ (B68.trans (by exact abA))).mono ?_
      rintro e w9 ⟨E1, f1, y1, rfl, hy1, hR1, hl1, hm1, hx9⟩
      have B89 : Ab w8 w9 := Ab.trans (by exact abA) hx9
      have B69 : Ab w6 w9 := B68.trans B89
      have hS1 := hS1.ab B89
      have hS2 := hS2.ab B89
      have HY1 := Lib.hid hy1
      clear C3 hx9 hy1 B78 B68 B89
      go_wp2_with fail
      refine (C4 _ (B6.trans (B69.trans (by exact abA)))).mono ?_
      rintro e w10 ⟨E2, f2, y2, rfl, hy2, hR2, hl2, hm2, hx10⟩
      have B910 : Ab w9 w10 := Ab.trans (by exact abA) hx10
      have B610 : Ab w6 w10 := B69.trans B910
      have hS1 := hS1.ab B910
      have hS2 := hS2.ab B910
      have hR1 := hR1.ab B910
      have hyy : y2 = y1 := by rw [hy2, HY1.out]
      have hpp : Ln.L p1 = Ln.L p2 := by rw [HP1.out, HP2.out]
      have HPP := Lib.hid hpp
      subst hyy
      clear C4 hx10 hy2 B69 B910 HY1 HP1 HP2 hpp
      go_wp2_with fail
      refine (C5 _ (B610.trans (by exact abA))).mono ?_
      rintro e w11 ⟨rfl, hx11⟩
      have D11 : Ab w10 w11 := Ab.trans (by exact abA) hx11
      clear C5 hx11
      go_wp2_with fail
      refine (C6 _ (B6.trans (B610.trans (D11.trans (by exact abA))))).mono ?_
      rintro e w12 ⟨rfl, hx12⟩
      have D12 : Ab w10 w12 := D11.trans (Ab.trans (by exact abA) hx12)
      clear C6 hx12 D11
      have C7 := fun w' (hk : Ab w10 w') => rsame_any B1 B2 d1 d2 p1 p2 w' (hS1.ab hk) (hS2.ab hk) HPP.out
      have C8 := fun w' (hk : Ab w10 w') => rsameB_any E1 E2 f1 f2 y2 w' (hR1.ab hk) (hR2.ab hk)
      clear hS1 hS2 hR1 hR2
      go_wp2_with fail
      refine (C7 _ (D12.trans (by exact abA))).mono ?_
      rintro e w13 ⟨rfl, hx13⟩
      have D13 : Ab w10 w13 := D12.trans (Ab.trans (by exact abA) hx13)
      clear C7 hx13 D12
      go_wp2_with fail
      refine (C8 _ (D13.trans (by exact abA))).mono ?_
      rintro e w14 ⟨rfl, hx14⟩
      have D14 : Ab w10 w14 := D13.trans (Ab.trans (by exact abA) hx14)
      clear C8 hx14 D13
      go_wp2_with fail
      refine (C9 _ (B610.trans (D14.trans (by exact abA)))).mono ?_
      rintro e w15 ⟨rfl, hx15⟩
      have D15 : Ab w10 w15 := D14.trans (Ab.trans (by exact abA) hx15)
      clear C9 hx15 D14
      go_wp2_with fail
      refine (C10 _ (B610.trans (D15.trans (by exact abA)))).mono ?_
      rintro e w16 ⟨rfl, hx16⟩
      have D16 : Ab w10 w16 := D15.trans (Ab.trans (by exact abA) hx16)
      go_wp2
      go_ret
      exact ⟨rfl, B6.trans (B610.trans D16)⟩
end Go.Proofs.YtegnkmfdchljkaaDoor
