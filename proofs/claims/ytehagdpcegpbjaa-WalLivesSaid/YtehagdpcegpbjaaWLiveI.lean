/- WalLives: the loop. Own work. -/
import Derived.Test.YtehagdpcegpbjaaWLiveH
import Derived.Deep.CutBlock
set_option linter.unusedVariables false
set_option linter.unusedSimpArgs false
namespace Go.Proofs.Ytehagdpcegpbjaa
open Go.RowKit

/-- What holds at the loop's head. -/
def LInv (w : World) (S : Option Addr) (n0 c0 : Nat) (act : Act) (wr : World) : Prop := ∃ i, i ≤ n0 ∧ LState w S n0 c0 i i act wr
def LMu (n0 : Nat) (act : Act) : Nat := n0 - (intOf (act.tmps.getD 7 undef)).toNat
def LOut (w : World) (act : Act) (wr : World) : Prop := act.defers = [] ∧ act.tmps.size = 196 ∧ Ab w wr
theorem wp_thenK {P : Program} {c : Code} {K : Act → World → Prop} {Q' : Exit → Act → World → Prop} {a : Act} {w : World} (h : c.wp P (Exit.then K Q') a w) (hK : ∀ a w, K a w → Q' .normal a w) : c.wp P Q' a w :=
  wp_mono h (by
    intro e a w hq
    cases e <;> first | exact hK _ _ hq | exact hq)
set_option maxRecDepth 1000000 in
set_option maxHeartbeats 9600000 in
theorem lv_round (w wr : World) (S : Option Addr) (n0 c0 : Nat) (hn0 : n0 ≤ 20) (ns : List Int) (hns : ns.length = n0) (hI : Ints w S ns) (hb : ∀ x ∈ ns, -9223372036854775808 ≤ x) (Q0 : Exit → Act → World → Prop)
    (hQ : ∀ ch (x : Act) (wz : World) o u, Q0 (.panic ch) (x.put o u) wz → Q0 (.panic ch) x wz) (hexit : ∀ a' w', LOut w a' w' → Q0 (.exit 0) a' w') (act : Act) (h : LInv w S n0 c0 act wr) :
    Code.wp Try.prog lvBody (Exit.then (fun a' w' => LInv w S n0 c0 a' w' ∧ LMu n0 a' < LMu n0 act) Q0) act wr := by
  obtain ⟨i, hi, r, D, E, W, cd, ce, cw, a, rs, xs, hd, ⟨hs, f1, f2, f5, f6, f7⟩, hM, hR, hL⟩ := h
  have HMu : Hid (LMu n0 act = n0 - i) := Lib.hid (by unfold LMu; rw [f7]; simp [intOf])
  rw [HMu.out]
  obtain ⟨T, d⟩ := act
  simp only at hd hs f1 f2 f5 f6 f7
  subst hd
  obtain ⟨g, hg, hT⟩ := opq_lit 196 T hs
  rw [lit_196] at hT
  have e1 := (hg 1).trans f1; have e2 := (hg 2).trans f2; have e5 := (hg 5).trans f5; have e6 := (hg 6).trans f6; have e7 := (hg 7).trans f7
  clear hg hs f1 f2 f5 f6 f7
  subst hT
  rw [e1, e2, e5, e6, e7]
  clear e1 e2 e5 e6 e7
  by_cases hlt : i < n0
  · clear hexit
    have i1 : (i : Int) < (n0 : Int) := by omega
    conv => arg 2; whnf
    go_upto_block 2 with fail
    refine wp_cut (LState w S n0 c0 (i + 1) i) ?_ ?_
    rotate_left
    · intro J K' hJ hK'
      obtain ⟨a0, hS, hc⟩ := hI (by omega)
      have hx := hM.2.2.2.2.2.2.2.2.at (hc i (by omega))
      refine wp_block ?_
      refine wp_thenK (K := K') (lv_switch w wr S n0 c0 i (by omega) a0 hS hlt _ (hb _ (List.getElem_mem _)) hx _ ⟨r, D, E, W, cd, ce, cw, a, rs, xs, rfl, ⟨rfl, rfl, rfl, rfl, rfl, rfl⟩, hM, hR, hL⟩ K' _ (fun _ _ _ _ _ h => hQ _ _ _ _ _ h) (fun a' w' h => hK' _ _ (Met.intro (hJ _ _ h)))) (fun _ _ h => h)
    rename_i KK hKK
    clear hM hR hL
    clear D E W
    rintro act w2 ⟨r, D, E, W, cd, ce, cw, a, rs, xs, hd, ⟨hs, f1, f2, f5, f6, f7⟩, hM, hR, hL⟩
    refine hKK _ _ ?_
    clear hKK KK
    clear HMu g
    obtain ⟨T, d⟩ := act
    simp only at hd hs f1 f2 f5 f6 f7
    subst hd
    obtain ⟨g, hg, hT⟩ := opq_lit 196 T hs
    rw [lit_196] at hT
    have e1 := (hg 1).trans f1; have e2 := (hg 2).trans f2; have e5 := (hg 5).trans f5; have e6 := (hg 6).trans f6; have e7 := (hg 7).trans f7
    clear hg hs f1 f2 f5 f6 f7
    subst hT
    rw [e1, e2, e5, e6, e7]
    clear e1 e2 e5 e6 e7
    obtain ⟨⟨q0, q1, q2, q3, q4, q5⟩, ⟨z0, z1, z2, z3, z4, z5⟩, hlt⟩ := hM.1
    have L0 := good_lens hL.out.good
    have hrec := Lib.hid hL.out.recs
    have hxs : xs.length ≤ 20 := by have := hL.out.few.1; rw [← hR.out, recs_length] at this; omega
    go_wp2_with fail
    refine (wrecords_any D E cd ce r.dev.s r.dev.t r.dev.cap r.dev.down r.first r.next _ (hM.2.1.ab (by repeat (first | with_reducible exact Ab.refl _ | with_reducible assumption | with_reducible refine Ab.drew ?_ | with_reducible refine Ab.drewN ?_ _ | with_reducible refine Ab.alloc ?_ _ | with_reducible refine Ab.trans ?_ (by assumption) | with_reducible refine Ab.set ?_ (by first | (simp; done) | omega | (simp; omega)) _))) (hM.2.2.1.ab (by repeat (first | with_reducible exact Ab.refl _ | with_reducible assumption | with_reducible refine Ab.drew ?_ | with_reducible refine Ab.drewN ?_ _ | with_reducible refine Ab.alloc ?_ _ | with_reducible refine Ab.trans ?_ (by assumption) | with_reducible refine Ab.set ?_ (by first | (simp; done) | omega | (simp; omega)) _))) hM.2.2.2.1 hM.2.2.2.2.1 L0.1 L0.2 (some rs) hL.out.good r.first).mono ?_
    rintro e w3 ⟨X, x, zs, e3, h3, rfl, R3, hd3, hx3, hsm, hb3⟩
    have H3 := Lib.hid ((Prod.mk.inj (h3.out.trans hrec.out)).1.trans hR.out.symm)
    obtain rfl : e3 = 0 := (Prod.mk.inj (h3.out.trans hrec.out)).2
    clear h3
    clear q0 q1 q2 q3 q4 q5 z0 z1 z2 z3 z4 z5 hlt
    have hM3 := hM.ab hb3
    have hsm2 := Lib.hid (show ∀ k (hk : k < zs.length), zs[k].b.length ≤ 140737488351232 from fun k hk => Nat.le_trans (hsm.out k hk) (by omega))
    go_wp2_with fail
    refine (rsame_true X W x cw zs xs _ ((R3.ab (by repeat (first | with_reducible exact Ab.refl _ | with_reducible assumption | with_reducible refine Ab.drew ?_ | with_reducible refine Ab.drewN ?_ _ | with_reducible refine Ab.alloc ?_ _ | with_reducible refine Ab.trans ?_ (by assumption) | with_reducible refine Ab.set ?_ (by first | (simp; done) | omega | (simp; omega)) _))).mono (Nat.zero_le _)) ((hM3.2.2.2.2.2.1.recs.ab (by repeat (first | with_reducible exact Ab.refl _ | with_reducible assumption | with_reducible refine Ab.drew ?_ | with_reducible refine Ab.drewN ?_ _ | with_reducible refine Ab.alloc ?_ _ | with_reducible refine Ab.trans ?_ (by assumption) | with_reducible refine Ab.set ?_ (by first | (simp; done) | omega | (simp; omega)) _))).mono (Nat.zero_le _)) H3 (by omega) hsm2).mono ?_
    rintro e w4 ⟨rfl, nn, rfl⟩
    have hM4 := hM3.ab (wx := w3.drewN nn) (by repeat (first | with_reducible exact Ab.refl _ | with_reducible assumption | with_reducible refine Ab.drew ?_ | with_reducible refine Ab.drewN ?_ _ | with_reducible refine Ab.alloc ?_ _ | with_reducible refine Ab.trans ?_ (by assumption) | with_reducible refine Ab.set ?_ (by first | (simp; done) | omega | (simp; omega)) _))
    have i0 : (0 : Int) ≤ (i : Int) := by omega
    have i3 : (i : Int) ≤ 20 := by omega
    go_wp2
    refine ⟨⟨i + 1, by omega, r, D, E, W, cd, ce, cw, a, rs, xs, rfl, ⟨rfl, rfl, rfl, rfl, rfl, ?_⟩, hM4, hR, hL⟩, ?_⟩
    · show Value.int .i64 ((i : Int) + 1) = _
      go_num
    · show n0 - (intOf (Value.int .i64 ((i : Int) + 1))).toNat < n0 - i
      simp [intOf]
      omega
  · obtain rfl : i = n0 := by omega
    conv => arg 2; whnf
    go_wp2
    exact ⟨rfl, rfl, hM.2.2.2.2.2.2.2.2⟩
end Go.Proofs.Ytehagdpcegpbjaa
