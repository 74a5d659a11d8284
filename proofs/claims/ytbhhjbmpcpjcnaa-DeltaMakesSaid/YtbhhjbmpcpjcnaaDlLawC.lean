/- DeltaJoins, walked. Own work. -/
import Derived.Test.YtbhhjbmpcpjcnaaDlJoin
set_option linter.unusedVariables false
set_option linter.unusedSimpArgs false
namespace Go.Proofs.Ytbhhjbmpcpjcnaa
open Go.RowKit

set_option maxRecDepth 100000 in
set_option maxHeartbeats 16000000 in
theorem joins_walk (B : Option Addr) (cb_ : Nat) (s : List UInt8) (A : Option Addr) (ca : Nat) (a : List UInt8) (D : Option Addr) (cd : Nat) (b : List UInt8) (W : World) (hM : MaxL W) (hs : RB W 0 B s) (hcb : s.length ≤ cb_) (hsl : s.length ≤ 9223372036854775807) (hB : B = none → cb_ = 0)
    (ha : RB W 0 A a) (hca : a.length ≤ ca) (hb : RB W 0 D b) (hcd : b.length ≤ cd) :
    Calls Try.prog 8 #[.slice B s.length cb_, .slice A a.length ca, .slice D b.length cd] W (RetTrue W) := by
  have TV := Lib.hid (fun w' (k : Ab W w') => dalive_any w' (hM.ab k))
  by_cases h1 : s.length ≤ 40
  · have k1 : ¬ (40 : Int) < (s.length : Int) := by omega
    by_cases h2 : a.length ≤ 40
    · have k2 : ¬ (40 : Int) < (a.length : Int) := by omega
      by_cases h3 : b.length ≤ 40
      · have k3 : ¬ (40 : Int) < (b.length : Int) := by omega
        have HX := Lib.hid (⟨hM, hs, ha, hb⟩ : MaxL W ∧ RB W 0 B s ∧ RB W 0 A a ∧ RB W 0 D b)
        clear hM hs ha hb
        go_enter Try.func8, Try.ntmps8
        go_wp2_with (first
          | (at_builtin
             refine listLit rfl _ _ rfl rfl rfl (m := a) rfl (by (repeat (first | exact new_plain wnA | with_reducible refine old_alloc ?_ | with_reducible refine old_drew ?_ | with_reducible refine old_set ?_ wnA | with_reducible refine old_ab (by assumption) ?_))) (RB.ab HX.out.2.2.1 abA) hca (by omega) ?_
             intro A1 c1 w1 L1 e1 a1 o1
             have z1 := a1.size; simp at z1
             have p1 := o1 W.heap.size (by omega) (by simp)
             have l1 : L1.length ≤ 40 := by rw [e1.out]; exact h2
             have b1 : Ab W w1 := abA
             clear o1)
          | (at_builtin
             refine listApp rfl _ _ rfl rfl rfl (m := b) rfl p1 (by omega) (RB.ab HX.out.2.2.2 b1) hcd (by omega) ?_
             intro A2 c2 w2 L2 e2 p2 _ f2
             have b2 := f2 W b1 (Nat.le_refl _)
             have l2 : L2.length ≤ 80 := by rw [e2.out, List.length_append]; omega
             clear f2))
        have EL : Hid (L2 = a ++ b) := Lib.hid (e2.out.trans (by rw [e1.out]))
        have r2 := p2.rb.zero
        have m2 := p2.le
        clear e1 e2 p1 p2 z1 a1 b1 l1
        refine (make_lj B A cb_ ca s a w2 (HX.out.1.ab b2) (HX.out.2.1.ab b2) (HX.out.2.2.1.ab b2) hcb hca hB (by omega) (by omega)).mono ?_
        rintro e w3 ⟨P1, q1, x1, g1, rfl, hP1, hG1, _, n1, d3⟩
        have b3 := b2.trans d3
        have r3 := r2.ab d3
        clear d3 r2 b2
        go_wp2_with fail
        refine (make_lj B D cb_ cd s b w3 (HX.out.1.ab b3) (HX.out.2.1.ab b3) (HX.out.2.2.2.ab b3) hcb hcd hB (by omega) (by omega)).mono ?_
        rintro e w4 ⟨P2, q2, x2, g2, rfl, hP2, hG2, _, n2, d4⟩
        have b4 := b3.trans d4
        have r4 := r3.ab d4
        have hP1 := hP1.ab d4
        clear d4 r3 b3
        go_wp2_with fail
        refine (make_lj B A2 cb_ c2 s L2 w4 (HX.out.1.ab b4) (HX.out.2.1.ab b4) r4 hcb m2 hB (by omega) l2).mono ?_
        rintro e w5 ⟨P3, q3, x3, g3, rfl, hP3, hG3, hN3, n3, d5⟩
        have b5 := b4.trans d5
        have r5 := r4.ab d5
        have hP1 := hP1.ab d5
        have hP2 := hP2.ab d5
        clear d5 r4 b4
        go_wp2_with (first
          | (at_builtin
             refine listAppQ (xs := []) (ys := x1) (lo := w5.heap.size) rfl _ _ rfl rfl rfl rfl (OV.litQ (Nat.le_refl _) (by (repeat (first | exact new_plain wnA | with_reducible refine old_alloc ?_ | with_reducible refine old_drew ?_ | with_reducible refine old_set ?_ wnA | with_reducible refine old_ab (by assumption) ?_)))) (by simp) (hP1.ab abA) (by simp; omega) ?_
             intro A6 c6 w6 zs1 ez1 o6 f6
             have b6 := f6 w5 abA (Nat.le_refl _)
             have z6 := b6.size
             have y1 : zs1.length ≤ 40 := by rw [ez1.out]; simp; omega
             clear f6)
          | (at_builtin
             refine listAppQ (xs := zs1) (ys := x2) rfl _ _ rfl rfl rfl rfl o6 z6 (hP2.ab b6) (by omega) ?_
             intro A7 c7 w7 zs2 ez2 o7 f7
             have b7 := f7 w5 b6 (Nat.le_refl _)
             clear f7))
        have hz : zs2 = x1 ++ x2 := by rw [ez2.out, ez1.out]; simp
        have hzl : zs2.length ≤ 80 := by rw [hz, List.length_append]; omega
        have hP7 : Pts w7 A7 c7 zs2 := o7.ptsQ (by omega) (fun x hx => by
          rw [hz] at hx
          rcases List.mem_append.1 hx with hx | hx
          · exact (hP1.l x hx).ab b7
          · exact (hP2.l x hx).ab b7)
        have J := Dl.joined hG1.out hG2.out (by simp; omega) (by omega) (by omega)
        rw [← List.map_append, ← hz, ← EL.out] at J
        have JB : ¬ Dl.sum (zs2.map PM.d) < g3 := by have := hG3.out.best _ J.2.2.1 J.2.2.2; omega
        have HJ := Lib.hid J
        have b8 := b5.trans b7
        have r7 := r5.ab b7
        have hP3' := hP3.ab b7
        clear hz ez1 ez2 o6 o7 b6 z6 y1 J EL hG1 hG2 hP1 hP2 b5 r5 hP3 b7
        have TB := dapply_any B cb_ s A7 c7 zs2 w7 (HX.out.2.1.ab b8) hcb hsl hP7
        rw [HJ.out.1] at TB
        go_wp2_with fail
        refine TB.mono ?_
        rintro e w8 ⟨E, ce, L6, hL6, rfl, o8, d8⟩
        obtain rfl : L6 = L2 := hL6.out
        have TC := cost_any A7 c7 zs2 w8 (hP7.ab d8)
        rw [HJ.out.2.1] at TC
        have b9 := b8.trans d8
        have r8 := r7.ab d8
        have hP3 := hP3'.ab d8
        have rE := o8.rb.zero
        have lE := o8.le
        clear TB hL6 o8 hP7 hP3' r7 b8 d8
        clear HJ
        generalize Dl.sum (zs2.map PM.d) = so at *
        go_wp2_with fail
        refine TC.mono ?_
        rintro e w9 ⟨rfl, d9⟩
        have TD := cost_any P3 q3 x3 w9 (hP3.ab d9)
        rw [hG3.out.co] at TD
        have HP3 := Lib.hid (hP3.ab d9)
        have b9' := b9.trans d9
        have r9 := r8.ab d9
        have rE9 := rE.ab d9
        clear TC b9 r8 rE hP3 d9 hG3
        go_wp2_with fail
        refine TD.mono ?_
        rintro e w10 ⟨rfl, b10'⟩
        have TS := sameBytes_all E A2 ce c2 L6 L6 w10 (rE9.ab b10') (r9.ab b10') (by omega) (by omega)
        rw [beq_self_eq_true] at TS
        clear TD r9 rE9
        go_wp2_with fail
        refine TS.mono ?_
        rintro e w11' ⟨rfl, q11, rfl⟩
        have b11 := Ab.drewN (b9'.trans b10') q11
        have b10 := Ab.drewN b10' q11
        clear TS b9' b10'
        generalize w10.drewN q11 = w11 at *
        go_wp2_with fail
        go_loopw [21] (fun i w' => ∃ k : Nat, 1 ≤ k ∧ i = .int .i64 (k : Int) ∧ Ab w11 w') (fun i _ => x3.length - (intOf i).toNat)
        case atStart => exact ⟨1, Nat.le_refl _, rfl, abA⟩
        case round =>
          obtain ⟨k, hk1, rfl, hbm⟩ := hrel
          rename World => w12
          by_cases hlt : k < x3.length
          · have hT : (k : Int) < (x3.length : Int) := by omega
            obtain ⟨q, hq⟩ : ∃ q : Nat, k = q + 1 := ⟨k - 1, by omega⟩
            have hql : q < x3.length := by omega
            have hw : IntKind.i64.wrap ((k : Int) - 1) = (q : Int) := by rw [show (k : Int) - 1 = (q : Int) by omega]; exact IntWalk.i64_in _ (by omega)
            obtain ⟨g, o, e0, hR0, _⟩ := pts_at HP3.out hlt
            obtain ⟨g', o', e', hR1, _⟩ := pts_at HP3.out hql
            subst e0
            injection e' with e'
            injection e' with e1 e2
            subst e1 e2
            have cN : w12.cell? ⟨g, o + k * 3 + 1, none⟩ = some (.int .i64 x3[k].n) := (b10.trans hbm).at (hR0 1 _ rfl)
            have cM : w12.cell? ⟨g, o + q * 3 + 1, none⟩ = some (.int .i64 x3[q].n) := (b10.trans hbm).at (hR1 1 _ rfl)
            have hap : ¬ (x3[q].n = 0 ∧ x3[k].n = 0) := by subst hq; exact hN3.out q hql hlt
            have hTq : (q : Int) < (x3.length : Int) := by omega
            clear hR0 hR1
            generalize x3[k].n = nk at *
            generalize x3[q].n = nq at *
            have HQ := Lib.hid hq
            clear hq
            by_cases z1 : nk = 0
            · have z2 : ¬ nq = 0 := fun h => hap ⟨h, z1⟩
              have zb : (nq == 0) = false := by simpa using z2
              subst z1
              clear hap
              go_wp2
              go_roundw
              case rel => exact ⟨k + 1, by omega, by go_num, abA⟩
              case measure => simp [intOf] <;> omega
            · have zb : (nk == 0) = false := by simpa using z1
              clear hap
              go_wp2
              go_roundw
              case rel => exact ⟨k + 1, by omega, by go_num, abA⟩
              case measure => simp [intOf] <;> omega
          · go_wp2_with fail
            refine (TV.out _ (b11.trans (by exact abA))).mono ?_
            rintro e wz ⟨rfl, hbz⟩
            go_wp2
            go_ret
            exact ⟨rfl, (b11.trans (by exact abA)).trans hbz⟩
      · have k3 : (40 : Int) < (b.length : Int) := by omega
        go_enter Try.func8, Try.ntmps8
        go_wp2_with fail
        refine (TV.out _ abA).mono ?_
        rintro e wz ⟨rfl, hbz⟩
        go_wp2
        go_ret
        exact ⟨rfl, Ab.trans (by exact abA) hbz⟩
    · have k2 : (40 : Int) < (a.length : Int) := by omega
      go_enter Try.func8, Try.ntmps8
      go_wp2_with fail
      refine (TV.out _ abA).mono ?_
      rintro e wz ⟨rfl, hbz⟩
      go_wp2
      go_ret
      exact ⟨rfl, Ab.trans (by exact abA) hbz⟩
  · have k1 : (40 : Int) < (s.length : Int) := by omega
    go_enter Try.func8, Try.ntmps8
    go_wp2_with fail
    refine (TV.out _ abA).mono ?_
    rintro e wz ⟨rfl, hbz⟩
    go_wp2
    go_ret
    exact ⟨rfl, Ab.trans (by exact abA) hbz⟩
end Go.Proofs.Ytbhhjbmpcpjcnaa
