/- WalLives: the steps that sync. Own work. -/
import Derived.Test.YtehagdpcegpbjaaWLiveB
set_option linter.unusedVariables false
set_option linter.unusedSimpArgs false
namespace Go.Proofs.Ytehagdpcegpbjaa
open Go.RowKit

theorem Far.new {W D : Option Addr} {c lo P : Nat} {w : World} {l : List UInt8} {e : TypeId} (hW : ∀ a, W = some a → lo ≤ a.block ∧ a.block < P) (h : OR e P w D c l) : Far W D l := fun p q hp hq _ => by
  have h1 := (hW p hp).2
  have h2 := (h.rng q hq).1
  omega
set_option maxRecDepth 1000000 in
set_option maxHeartbeats 9600000 in
theorem lv_sync (w wr : World) (S : Option Addr) (n0 c0 i : Nat) (act : Act) (h : LState w S n0 c0 i i act wr) (K : Act → World → Prop) (Q : Exit → Act → World → Prop)
    (hK : ∀ a' w', LState w S n0 c0 (i + 1) i a' w' → K a' w') : Code.wp Try.prog lvB (Exit.then K Q) act wr := by
  obtain ⟨r, D, E, W, cd, ce, cw, a, rs, xs, hd, ⟨hs, f1, f2, f5, f6, f7⟩, hM, hR, hL⟩ := h
  obtain ⟨T, d⟩ := act
  simp only at hd hs f1 f2 f5 f6 f7
  subst hd
  obtain ⟨g, hg, hT⟩ := opq_lit 196 T hs
  rw [lit_196] at hT
  have e1 := (hg 1).trans f1; have e2 := (hg 2).trans f2; have e5 := (hg 5).trans f5; have e6 := (hg 6).trans f6; have e7 := (hg 7).trans f7
  clear hg hs f1 f2 f5 f6 f7
  subst hT
  rw [e1, e2, e5, e6, e7]
  clear e1 e2 e5 e6 e7
  obtain ⟨⟨q0, q1, q2, q3, q4, q5⟩, ⟨z0, z1, z2, z3, z4, z5⟩, hlt⟩ := hM.1
  obtain ⟨r', hr', hL'⟩ := hL.out.sync
  have HM := Lib.hid hr'; have HL' := Lib.hid hL'; clear hr' hL'
  have L0 := good_lens hL.out.good
  conv => arg 2; whnf
  go_wp2_with fail
  refine (wsync_any D E cd ce r.dev.s r.dev.t r.dev.cap r.dev.down r.first r.next _ (hM.2.1.ab (by repeat (first | with_reducible exact Ab.refl _ | with_reducible assumption | with_reducible refine Ab.drew ?_ | with_reducible refine Ab.drewN ?_ _ | with_reducible refine Ab.alloc ?_ _ | with_reducible refine Ab.trans ?_ (by assumption) | with_reducible refine Ab.set ?_ (by first | (simp; done) | omega | (simp; omega)) _))) (hM.2.2.1.ab (by repeat (first | with_reducible exact Ab.refl _ | with_reducible assumption | with_reducible refine Ab.drew ?_ | with_reducible refine Ab.drewN ?_ _ | with_reducible refine Ab.alloc ?_ _ | with_reducible refine Ab.trans ?_ (by assumption) | with_reducible refine Ab.set ?_ (by first | (simp; done) | omega | (simp; omega)) _))) hM.2.2.2.1 hM.2.2.2.2.1 L0.1 L0.2 (some rs) hL.out.good).mono ?_
  rintro e w1 ⟨r1, e1, D1, E1, c1, d1, h1, rfl, p1, s1, hb1⟩
  have H1 := Lib.hid (Prod.mk.inj (h1.out.trans HM.out)).1
  obtain rfl : e1 = 0 := (Prod.mk.inj (h1.out.trans HM.out)).2
  clear h1
  clear q0 q1 q2 q3 q4 q5 z0 z1 z2 z3 z4 z5 hlt
  have hM1 := hM.ab hb1
  obtain ⟨⟨q0, q1, q2, q3, q4, q5⟩, ⟨z0, z1, z2, z3, z4, z5⟩, hlt⟩ := hM1.1
  have na := fun (o : Obj) (j : Nat) => World.cell?_alloc_lt w1 o ⟨w.heap.size, j, none⟩ hlt
  have nb := fun (o : Obj) (j : Nat) => ((Ab.refl w1).alloc o).frozen (p := ⟨w.heap.size, j, none⟩) hlt
  go_wp2
  have hn : xs.length = rs.length := by rw [← recs_length, hR.out]
  exact ⟨r1, D1, E1, W, c1, d1, cw, xs.length, rs, xs, rfl, ⟨rfl, rfl, rfl, rfl, rfl, rfl⟩, (hM1.put p1.rb.zero s1.rb.zero p1.le s1.le (Far.new hM.own p1) (Far.new hM.own s1)).ab ((Ab.refl _).alloc _), hR, Lib.hid (by rw [hn, H1.out]; exact HL'.out)⟩
end Go.Proofs.Ytehagdpcegpbjaa
