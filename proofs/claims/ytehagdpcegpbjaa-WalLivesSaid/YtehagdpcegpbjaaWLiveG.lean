/- WalLives: the steps that crash and open again. Own work. -/
import Derived.Test.YtehagdpcegpbjaaWLiveE
set_option linter.unusedVariables false
set_option linter.unusedSimpArgs false
namespace Go.Proofs.Ytehagdpcegpbjaa
open Go.RowKit

set_option maxRecDepth 1000000 in
set_option maxHeartbeats 9600000 in
theorem lv_crash (w wr : World) (S : Option Addr) (n0 c0 i : Nat) (hi : i < 20) (a0 : Addr) (hS : S = some a0) (hin : i < n0) (v : Int) (hv : v < -1) (hv2 : -9223372036854775808 ≤ v) (hx : wr.cell? (a0.add i) = some (.int .i64 v)) (act : Act) (h : LState w S n0 c0 i i act wr) (K : Act → World → Prop) (Q : Exit → Act → World → Prop)
    (hQ : ∀ ch (x : Act) (wz : World) o u, Q (.panic ch) (x.put o u) wz → Q (.panic ch) x wz) (hK : ∀ a' w', LState w S n0 c0 (i + 1) i a' w' → K a' w') : Code.wp Try.prog lvC (Exit.then K Q) act wr := by
  subst hS
  obtain ⟨r, D, E, W, cd, ce, cw, a, rs, xs, hd, ⟨hs, f1, f2, f5, f6, f7⟩, hM, hR, hL⟩ := h
  obtain ⟨T, d⟩ := act
  simp only at hd hs f1 f2 f5 f6 f7
  subst hd
  have L0 := good_lens hL.out.good
  obtain ⟨mx, HMX⟩ : ∃ mx : Int, Hid ((if v < -3000 then -3000 else v) = mx) := ⟨_, rfl⟩
  have hm1 : -3000 ≤ mx ∧ mx ≤ -2 := by have := HMX.out; split at this <;> omega
  have hw : IntKind.i64.wrap (-2 - mx) = -2 - mx := IntWalk.i64_in _ (by omega)
  obtain ⟨kx, HKX⟩ : ∃ kx : Int, Hid ((if (r.dev.t.length : Int) < IntKind.i64.wrap (-2 - mx) then (r.dev.t.length : Int) else IntKind.i64.wrap (-2 - mx)) = kx) := ⟨_, rfl⟩
  have hk : 0 ≤ kx ∧ kx ≤ r.dev.t.length := by have := HKX.out; rw [hw] at this; split at this <;> omega
  clear hw
  obtain ⟨dd, m, u, o, hc, hmr, ham, hsc, hl1, hl2, hop, hof, hon, hLo⟩ := hL.out.crash kx hk.1 hk.2
  have HC := Lib.hid hc; have HSC := Lib.hid hsc; have HOP := Lib.hid hop; have HOF := Lib.hid hof; have HON := Lib.hid hon; have HLO := Lib.hid hLo
  have hrg := hL.out.good.rng
  have hf6 : r.first ≤ 1000000 := hL.out.2.2.1
  have hxs : xs.length = rs.length := by rw [← recs_length, hR.out]
  have hmx : m ≤ xs.length := by omega
  have HXS := Lib.hid hxs
  clear hc hsc hop hof hon hLo hxs
  conv => arg 2; whnf
  go_upto_region 8 with fail
  refine wp_cut (LCrash w wr (some a0) n0 c0 W xs.length cw a i dd) ?_ ?_
  rotate_left
  · intro J K' hJ hK'
    exact lv_r8 w wr a0 n0 c0 i hin v hv hv2 hx r D E W cd ce cw rs xs a hM hL T hs f1 f2 f5 f6 f7 mx HMX kx HKX dd HC _ _ (fun _ _ _ _ _ h => hQ _ _ _ _ _ h) (fun a' w' h => hK' _ _ (Met.intro (hJ _ _ h)))
  rename_i KK hKK
  rintro ⟨T2, d2⟩ w7 ⟨P, rd, D', E', cd', ce', hd2, ⟨hs2, f1, f2, f5, f6, f7⟩, f15, f16, ⟨dq0, dq1, dq2, dq3⟩, hrd, hD', hE', lD', lE', hb7⟩
  simp only at hd2 hs2 f1 f2 f5 f6 f7 f15 f16
  subst hd2
  refine hKK _ _ ?_
  clear hKK HMX HKX hx hk hm1
  obtain ⟨g2, hg, hT⟩ := opq_lit 196 T2 hs2
  rw [lit_196] at hT
  have e1 := (hg 1).trans f1; have e2 := (hg 2).trans f2; have e5 := (hg 5).trans f5; have e6 := (hg 6).trans f6; have e7 := (hg 7).trans f7; have e15 := (hg 15).trans f15; have e16 := (hg 16).trans f16
  clear hg hs2 f1 f2 f5 f6 f7 f15 f16
  subst hT
  rw [e1, e2, e5, e6, e7, e15, e16]
  clear e1 e2 e5 e6 e7 e15 e16
  have hown := Lib.hid hM.own
  have z7 := hb7.size
  have hM7 := hM.ab hb7
  obtain ⟨⟨q0, q1, q2, q3, q4, q5⟩, ⟨z0, z1, z2, z3, z4, z5⟩, hlt⟩ := hM7.1
  go_wp2_with fail
  refine (wopen_any D' E' cd' ce' rd.s rd.t rd.cap rd.down _ (hD'.ab (by repeat (first | with_reducible exact Ab.refl _ | with_reducible assumption | with_reducible refine Ab.drew ?_ | with_reducible refine Ab.drewN ?_ _ | with_reducible refine Ab.alloc ?_ _ | with_reducible refine Ab.trans ?_ (by assumption) | with_reducible refine Ab.set ?_ (by first | (simp; done) | omega | (simp; omega)) _))) (hE'.ab (by repeat (first | with_reducible exact Ab.refl _ | with_reducible assumption | with_reducible refine Ab.drew ?_ | with_reducible refine Ab.drewN ?_ _ | with_reducible refine Ab.alloc ?_ _ | with_reducible refine Ab.trans ?_ (by assumption) | with_reducible refine Ab.set ?_ (by first | (simp; done) | omega | (simp; omega)) _))) lD' lE' (by rw [hrd.out]; exact hl1) (by rw [hrd.out]; exact hl2) r.first (rs.take m) u (by rw [hrd.out]; exact HSC.out)).mono ?_
  rintro e w8 ⟨r8, e8, D8, E8, c8, d8, h8, rfl, p8, y8, hb8⟩
  have hm8 := h8.out.trans ((congrArg (fun d => Wal.open_ d r.first (rs.take m) u) hrd.out).trans HOP.out)
  have H8 := Lib.hid (Prod.mk.inj hm8).1
  obtain rfl : e8 = 0 := (Prod.mk.inj hm8).2
  clear h8 hm8
  clear q0 q1 q2 q3 q4 q5 z0 z1 z2 z3 z4 z5 hlt
  have hM8 := hM7.ab hb8
  obtain ⟨⟨⟨s8, t8, cap8, dn8⟩, f8, n8⟩, hr8⟩ : ∃ x, x = r8 := ⟨_, rfl⟩
  subst hr8
  obtain ⟨⟨⟨s, t, cap, dn⟩, f, n⟩, hr⟩ : ∃ x, x = r := ⟨_, rfl⟩
  subst hr
  obtain rfl : f8 = f := by have := congrArg Wal.Log.first H8.out; rw [HOF.out] at this; exact this
  obtain rfl : n8 = f8 + m := by have := congrArg Wal.Log.next H8.out; rw [HON.out] at this; exact this
  obtain ⟨⟨q0, q1, q2, q3, q4, q5⟩, ⟨z0, z1, z2, z3, z4, z5⟩, hlt⟩ := hM8.1
  have na := fun (o : Obj) (j : Nat) => World.cell?_alloc_lt w8 o ⟨w.heap.size, j, none⟩ hlt
  have nb := fun (o : Obj) (j : Nat) => ((Ab.refl w8).alloc o).frozen (p := ⟨w.heap.size, j, none⟩) hlt
  simp only at hrg hf6 q0 q1 q2 q3 q4 q5 p8 y8
  have hcw : xs.length ≤ cw := OwnR.le (show OwnR _ _ _ _ _ from hM8.2.2.2.2.2.1.1)
  have hm20 : m ≤ 20 := by have := hL.out.few.1; omega
  have j1 : (m : Int) ≤ (cw : Int) := by omega
  have j2 : (m : Int) ≤ (xs.length : Int) := by omega
  have j3 : (0 : Int) ≤ (m : Int) := by omega
  have j4 : (m : Int) ≤ 20 := by omega
  have j5 : (a : Int) ≤ (m : Int) := by omega
  have j7 : (xs.length : Int) ≤ 20 := by have := hL.out.few.1; have := HXS.out; omega
  have j8 : (0 : Int) ≤ (xs.length : Int) := by omega
  clear hcw
  have j6 : f8 + (m : Int) - f8 = (m : Int) := by omega
  go_wp2
  all_goals first | (exfalso; omega) | skip
  have hlen : (xs.take m).length = m := by rw [List.length_take]; omega
  refine ⟨⟨⟨s8, t8, cap8, dn8⟩, f8, f8 + m⟩, D8, E8, W, c8, d8, cw, m, rs.take m, xs.take m, rfl, ⟨rfl, rfl, rfl, ?_, rfl, rfl⟩, ?_, Lib.hid (by rw [recs_take, hR.out]), Lib.hid (by rw [H8.out]; exact HLO.out)⟩
  · show Value.slice W m cw = _
    rw [hlen]
  · exact ((hM8.put (r' := ⟨⟨s8, t8, cap8, dn8⟩, f8, f8 + m⟩) p8.rb.zero y8.rb.zero p8.le y8.le (Far.new (fun a ha => ⟨Nat.zero_le _, Nat.lt_of_lt_of_le (hown.out a ha).2 z7⟩) p8) (Far.new (fun a ha => ⟨Nat.zero_le _, Nat.lt_of_lt_of_le (hown.out a ha).2 z7⟩) y8)).ab ((Ab.refl _).alloc _)).cut m
end Go.Proofs.Ytehagdpcegpbjaa
