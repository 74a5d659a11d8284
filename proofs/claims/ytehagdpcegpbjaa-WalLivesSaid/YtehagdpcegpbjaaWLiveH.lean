/- WalLives: one round. Own work. -/
import Derived.Test.YtehagdpcegpbjaaWLiveD
import Derived.Test.YtehagdpcegpbjaaWLiveG
set_option linter.unusedVariables false
set_option linter.unusedSimpArgs false
namespace Go.Proofs.Ytehagdpcegpbjaa
open Go.RowKit

set_option maxRecDepth 1000000 in
set_option maxHeartbeats 9600000 in
theorem lv_switch (w wr : World) (S : Option Addr) (n0 c0 i : Nat) (hi : i < 20) (a0 : Addr) (hS : S = some a0) (hin : i < n0) (v : Int) (hv2 : -9223372036854775808 ≤ v) (hx : wr.cell? (a0.add i) = some (.int .i64 v)) (act : Act) (h : LState w S n0 c0 i i act wr) (K : Act → World → Prop) (Q : Exit → Act → World → Prop)
    (hQ : ∀ ch (x : Act) (wz : World) o u, Q (.panic ch) (x.put o u) wz → Q (.panic ch) x wz) (hK : ∀ a' w', LState w S n0 c0 (i + 1) i a' w' → K a' w') : Code.wp Try.prog lvSwitch (Exit.then K Q) act wr := by
  subst hS
  obtain ⟨r, D, E, W, cd, ce, cw, a, rs, xs, hd, ⟨hs, f1, f2, f5, f6, f7⟩, hM, hR, hL⟩ := h
  obtain ⟨T, d⟩ := act
  simp only at hd hs f1 f2 f5 f6 f7
  subst hd
  obtain ⟨g, hg, hT⟩ := opq_lit 196 T hs
  rw [lit_196] at hT
  have e1 := (hg 1).trans f1; have e2 := (hg 2).trans f2; have e5 := (hg 5).trans f5; have e6 := (hg 6).trans f6; have e7 := (hg 7).trans f7
  clear hg hs f1 f2 f5 f6 f7
  subst hT
  rw [e1, e2, e5, e6, e7]
  clear e1 e2 e5 e6 e7
  have i0 : (0 : Int) ≤ (i : Int) := by omega
  have i1 : (i : Int) < (n0 : Int) := by omega
  have i2 : (i : Int).toNat = i := by omega
  by_cases hv : 0 ≤ v
  · conv => arg 2; whnf
    go_upto_if 117 with fail
    refine wp_cond (t := true) (by first | rfl | (simp [Act.eval]; done) | (simp [Act.eval]; omega)) ?_
    exact lv_append w wr (some a0) n0 c0 i hi a0 rfl hin v hv hx _ ⟨r, D, E, W, cd, ce, cw, a, rs, xs, rfl, ⟨rfl, rfl, rfl, rfl, rfl, rfl⟩, hM, hR, hL⟩ K Q hK
  · by_cases h1 : v = -1
    · subst h1
      conv => arg 2; whnf
      go_upto_if 117 with fail
      refine wp_cond (t := false) (by first | rfl | (simp [Act.eval]; done) | (simp [Act.eval]; omega)) ?_
      go_upto_if 164 with fail
      refine wp_cond (t := true) (by first | rfl | (simp [Act.eval]; done) | (simp [Act.eval]; omega)) ?_
      exact lv_sync w wr (some a0) n0 c0 i _ ⟨r, D, E, W, cd, ce, cw, a, rs, xs, rfl, ⟨rfl, rfl, rfl, rfl, rfl, rfl⟩, hM, hR, hL⟩ K Q hK
    · have hb : (v == -1) = false := by simpa using h1
      conv => arg 2; whnf
      go_upto_if 117 with fail
      refine wp_cond (t := false) (by first | rfl | (simp [Act.eval]; done) | (simp [Act.eval]; omega)) ?_
      go_upto_if 164 with fail
      refine wp_cond (t := false) (by first | rfl | (simp [Act.eval]; done) | (simp [Act.eval, hb]; done) | (simp [Act.eval]; omega)) ?_
      exact lv_crash w wr (some a0) n0 c0 i hi a0 rfl hin v (by omega) hv2 hx _ ⟨r, D, E, W, cd, ce, cw, a, rs, xs, rfl, ⟨rfl, rfl, rfl, rfl, rfl, rfl⟩, hM, hR, hL⟩ K Q hQ hK
end Go.Proofs.Ytehagdpcegpbjaa
