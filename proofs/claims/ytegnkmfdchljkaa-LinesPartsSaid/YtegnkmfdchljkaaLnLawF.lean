/- LinesParts, walked. Own work. -/
import Derived.Test.YtegnkmfdchljkaaLnRefF
set_option linter.unusedVariables false
set_option linter.unusedSimpArgs false
namespace Go.Proofs.Ytegnkmfdchljkaa
open Go.RowKit

set_option maxHeartbeats 16000000 in
set_option maxRecDepth 100000 in
theorem lparts_walk (A B : Option Addr) (c d : Nat) (ps qs : List ByteArray) (i j : Int) (i0 : -9223372036854775808 ≤ i) (i1 : i ≤ 9223372036854775807) (j0 : -9223372036854775808 ≤ j) (j1 : j ≤ 9223372036854775807) (w : World) (ha : SO w A c ps) (hb : SO w B d qs) :
    Calls Try.prog 3 #[.slice A ps.length c, .slice B qs.length d, .int .i64 i, .int .i64 j] w (RetTrue w) := by
  have L1 := fun w' (hk : Ab w w') => rlong_any A c ps w' (ha.ab hk)
  have L2 := fun w' (hk : Ab w w') => rlong_any B d qs w' (hb.ab hk)
  go_enter Try.func3, Try.ntmps3
  go_wp2_with fail
  refine (L1 _ abA).mono ?_
  rintro e w2 ⟨q, rfl, hq, hb2⟩
  have B2 : Ab w w2 := Ab.trans (by exact abA) hb2
  clear L1 hb2
  cases q with
  | true =>
    go_wp2
    go_ret
    exact ⟨rfl, by exact abA⟩
  | false =>
    have HA1 := hq rfl
    have HA := ha.sm HA1
    have HA2 := HA1.s
    have ka := HA1.k
    clear hq ha HA1
    go_wp2_with fail
    refine (L2 _ abA).mono ?_
    rintro e w3 ⟨q, rfl, hq, hb3⟩
    have B3 : Ab w w3 := Ab.trans (by exact abA) hb3
    clear L2 hb3 B2
    cases q with
    | true =>
      go_wp2
      go_ret
      exact ⟨rfl, by exact abA⟩
    | false =>
      have HB1 := hq rfl
      have HB := hb.sm HB1
      have HB2 := HB1.s
      have kb := HB1.k
      clear hq hb HB1
      have HA5 : ∀ p ∈ ps, p.size ≤ 5000 := fun p hp => by have := HA2 p hp; omega
      have HB5 : ∀ p ∈ qs, p.size ≤ 5000 := fun p hp => by have := HB2 p hp; omega
      go_wp2_with (first
        | (at_builtin
           refine listAppS (ps := []) (qs := ps) (lo := w3.heap.size) rfl _ _ rfl rfl rfl rfl rfl (OwnS.room (cur := #[]) (Nat.le_refl _) (by (repeat (first | exact new_plain wnA | with_reducible refine old_alloc ?_ | with_reducible refine old_drew ?_ | with_reducible refine old_set ?_ wnA | with_reducible refine old_ab (by assumption) ?_))) rfl (Nat.zero_le _)) (by simp) (HA.ab (by exact abA)) (by simp) ?_
           intro A5 c5 w5 o5 f5
           have b5 : Ab w3 w5 := f5 w3 (by exact abA) (Nat.le_refl _)
           clear f5)
        | (at_builtin
           refine listAppS (ps := []) (qs := qs) (lo := w5.heap.size) rfl _ _ rfl rfl rfl rfl rfl (OwnS.room (cur := #[]) (Nat.le_refl _) (by (repeat (first | exact new_plain wnA | with_reducible refine old_alloc ?_ | with_reducible refine old_drew ?_ | with_reducible refine old_set ?_ wnA | with_reducible refine old_ab (by assumption) ?_))) rfl (Nat.zero_le _)) (by simp) (HB.ab (B3.trans (b5.trans (by exact abA)))) (by simp) ?_
           intro A6 c6 w6 o6 f6
           have b6 : Ab w5 w6 := f6 w5 (by exact abA) (Nat.le_refl _)
           clear f6)
        | fail)
      have B6 : Ab w w6 := B3.trans (b5.trans b6)
      have o5 : OwnS w3.heap.size w5 A5 c5 ps := o5
      have o6 : OwnS w5.heap.size w6 A6 c6 qs := o6
      have P5 := (o5.sm (by omega) (fun p hp => by have := HA2 p hp; omega)).ab b6
      have P6 := o6.sm (by omega) (fun p hp => by have := HB2 p hp; omega)
      clear o5 o6 b5 b6 B3 HA2 HB2
      have C1 := fun w' (hk : Ab w6 w') => common_any A5 A6 c5 c6 ps qs w' (P5.ab hk) (P6.ab hk)
      have C2 := fun w' (hk : Ab w w') => rcommon_any A B c d ps qs w' (HA.ab hk) (HB.ab hk) HA5 HB5
      have C3 := fun w' (hk : Ab w6 w') => replace_any A5 A6 c5 c6 ps qs i j w' (P5.ab hk) (P6.ab hk) (by omega) i0 i1 j0 j1
      have C4 := fun w' (hk : Ab w w') => rreplace_any A B c d ps qs i j w' (HA.ab hk) (HB.ab hk) (by omega) HA5 HB5
      have C6 := fun w' (hk : Ab w6 w') => rsame_any A5 A c5 c ps ps w' (P5.ab hk) (HA.ab (B6.trans hk)) rfl
      have C7 := fun w' (hk : Ab w6 w') => rsame_any A6 B c6 d qs qs w' (P6.ab hk) (HB.ab (B6.trans hk)) rfl
      unfold RetCm at C1 C2
      unfold RetRp at C3 C4
      clear P5 P6 HA HB HA5 HB5
      generalize Ln.comF (Ln.L ps) (Ln.L qs) = cf at *
      generalize Ln.comB (Ln.L ps) (Ln.L qs) = cb' at *
      generalize Ln.errs (Ln.L ps) (Ln.L qs) = ce at *
      generalize Ln.repE (Ln.L ps) i j (Ln.L qs) = re at *
      go_wp2_with fail
      refine (C1 _ (by exact abA)).mono ?_
      rintro e w7 ⟨rfl, hx7⟩
      have B67 : Ab w6 w7 := Ab.trans (by exact abA) hx7
      clear C1 hx7
      go_wp2_with fail
      refine (C2 _ (B6.trans (B67.trans (by exact abA)))).mono ?_
      rintro e w8 ⟨rfl, hx8⟩
      have B68 : Ab w6 w8 := B67.trans (Ab.trans (by exact abA) hx8)
      clear C2 hx8 B67
      go_wp2_with fail
      refine (C3 _ (B68.trans (by exact abA))).mono ?_
      rintro e w9 ⟨E1, f1, r1, rfl, hr1, hS1, hx9⟩
      have B69 : Ab w6 w9 := B68.trans (Ab.trans (by exact abA) hx9)
      have HR1 := Lib.hid hr1
      clear C3 hx9 B68 hr1
      go_wp2_with fail
      refine (C4 _ (B6.trans (B69.trans (by exact abA)))).mono ?_
      rintro e w10 ⟨E2, f2, r2, rfl, hr2, hS2, hx10⟩
      have B910 : Ab w9 w10 := Ab.trans (by exact abA) hx10
      have B610 : Ab w6 w10 := B69.trans B910
      have hS1 := hS1.ab B910
      have hrr : Ln.L r1 = Ln.L r2 := by rw [HR1.out, hr2]
      have HRR := Lib.hid hrr
      clear C4 hx10 hr2 B69 B910 HR1 hrr
      have C5 := fun w' (hk : Ab w10 w') => rsame_any E1 E2 f1 f2 r1 r2 w' (hS1.ab hk) (hS2.ab hk) HRR.out
      clear hS1 hS2
      go_wp2_with fail
      refine (C5 _ (by exact abA)).mono ?_
      rintro e w11 ⟨rfl, hx11⟩
      have B11 : Ab w6 w11 := B610.trans (Ab.trans (by exact abA) hx11)
      clear C5 hx11 B610
      go_wp2_with fail
      refine (C6 _ (B11.trans (by exact abA))).mono ?_
      rintro e w12 ⟨rfl, hx12⟩
      have B12 : Ab w6 w12 := B11.trans (Ab.trans (by exact abA) hx12)
      clear C6 hx12 B11
      go_wp2_with fail
      refine (C7 _ (B12.trans (by exact abA))).mono ?_
      rintro e w13 ⟨rfl, hx13⟩
      have B13 : Ab w6 w13 := B12.trans (Ab.trans (by exact abA) hx13)
      go_wp2
      go_ret
      exact ⟨rfl, B6.trans B13⟩
end Go.Proofs.Ytegnkmfdchljkaa
