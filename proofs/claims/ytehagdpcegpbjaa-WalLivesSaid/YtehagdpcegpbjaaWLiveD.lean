/- WalLives: the steps that append. Own work. -/
import Derived.Test.YtehagdpcegpbjaaWLiveF
set_option linter.unusedVariables false
set_option linter.unusedSimpArgs false
namespace Go.Proofs.Ytehagdpcegpbjaa
open Go.RowKit

set_option maxRecDepth 1000000 in
set_option maxHeartbeats 9600000 in
theorem lv_append (w wr : World) (S : Option Addr) (n0 c0 i : Nat) (hi : i < 20) (a0 : Addr) (hS : S = some a0) (hin : i < n0) (v : Int) (hv : 0 ≤ v) (hx : wr.cell? (a0.add i) = some (.int .i64 v)) (act : Act) (h : LState w S n0 c0 i i act wr) (K : Act → World → Prop) (Q : Exit → Act → World → Prop)
    (hK : ∀ a' w', LState w S n0 c0 (i + 1) i a' w' → K a' w') : Code.wp Try.prog lvA (Exit.then K Q) act wr := by
  subst hS
  obtain ⟨r, D, E, W, cd, ce, cw, a, rs, xs, hd, ⟨hs, f1, f2, f5, f6, f7⟩, hM, hR, hL⟩ := h
  obtain ⟨T, d⟩ := act
  simp only at hd hs f1 f2 f5 f6 f7
  subst hd
  obtain ⟨g, hg, hT⟩ := opq_lit 196 T hs
  rw [lit_196] at hT
  have e1 := (hg 1).trans f1; have e2 := (hg 2).trans f2; have e5 := (hg 5).trans f5; have e6 := (hg 6).trans f6; have e7 := (hg 7).trans f7
  clear hg hs f1 f2 f5 f6 f7
  subst hT
  rw [e1, e2, e5, e6, e7]
  clear e1 e2 e5 e6 e7
  have i0 : (0 : Int) ≤ (i : Int) := by omega
  have i1 : (i : Int) < (n0 : Int) := by omega
  have i2 : (i : Int).toNat = i := by omega
  obtain ⟨u, nb, hu, hnb, hmin⟩ : ∃ (u : Int) (nb : Nat), u = (nb : Int) ∧ nb ≤ 50 ∧ ((v ≤ 50 ∧ u = v) ∨ (50 < v ∧ u = 50)) := by
    by_cases h : v ≤ 50
    · exact ⟨v, v.toNat, by omega, by omega, .inl ⟨h, rfl⟩⟩
    · exact ⟨50, 50, by omega, by omega, .inr ⟨by omega, rfl⟩⟩
  obtain ⟨Z, l0, hl0, hmk, hor⟩ := make_own nb (by omega) u hu
  conv => arg 2; whnf
  go_upto_region 18 with fail
  refine wp_cut (LMade w wr (some a0) n0 c0 W xs.length cw a i nb) ?_ ?_
  rotate_left
  · intro J K' hJ hK'
    rcases hmin with ⟨h1, rfl⟩ | ⟨h1, rfl⟩
    · have HU := Lib.hid hu; clear hu
      go_wp2
      refine Met.intro (hJ _ _ ⟨wr.heap.size, l0, rfl, ⟨rfl, rfl, rfl, rfl, rfl, rfl⟩, rfl, hl0, hor.out _ _ _ (Nat.le_refl _) (by (repeat (first | exact new_plain (by first | (simp; done) | omega | (simp; omega)) | with_reducible refine old_alloc ?_ | with_reducible refine old_drew ?_ | with_reducible refine old_set ?_ (by first | (simp; done) | omega | (simp; omega)) | with_reducible refine old_ab (by assumption) ?_))), (by repeat (first | with_reducible exact Ab.refl _ | with_reducible assumption | with_reducible refine Ab.drew ?_ | with_reducible refine Ab.drewN ?_ _ | with_reducible refine Ab.alloc ?_ _ | with_reducible refine Ab.trans ?_ (by assumption) | with_reducible refine Ab.set ?_ (by first | (simp; done) | omega | (simp; omega)) _))⟩)
    · have HU := Lib.hid hu; clear hu
      go_wp2
      refine Met.intro (hJ _ _ ⟨wr.heap.size, l0, rfl, ⟨rfl, rfl, rfl, rfl, rfl, rfl⟩, rfl, hl0, hor.out _ _ _ (Nat.le_refl _) (by (repeat (first | exact new_plain (by first | (simp; done) | omega | (simp; omega)) | with_reducible refine old_alloc ?_ | with_reducible refine old_drew ?_ | with_reducible refine old_set ?_ (by first | (simp; done) | omega | (simp; omega)) | with_reducible refine old_ab (by assumption) ?_))), (by repeat (first | with_reducible exact Ab.refl _ | with_reducible assumption | with_reducible refine Ab.drew ?_ | with_reducible refine Ab.drewN ?_ _ | with_reducible refine Ab.alloc ?_ _ | with_reducible refine Ab.trans ?_ (by assumption) | with_reducible refine Ab.set ?_ (by first | (simp; done) | omega | (simp; omega)) _))⟩)
  clear hmk hmin hor
  rename_i KK hKK
  rintro ⟨T2, d2⟩ w2 ⟨G, bs, hd2, ⟨hs2, f1, f2, f5, f6, f7⟩, f8, hbs, hO, hb2⟩
  simp only at hd2 hs2 f1 f2 f5 f6 f7 f8
  subst hd2
  refine hKK _ _ ?_
  clear hKK
  obtain ⟨g2, hg, hT⟩ := opq_lit 196 T2 hs2
  rw [lit_196] at hT
  have e1 := (hg 1).trans f1; have e2 := (hg 2).trans f2; have e5 := (hg 5).trans f5; have e6 := (hg 6).trans f6; have e7 := (hg 7).trans f7; have e8 := (hg 8).trans f8
  clear hg hs2 f1 f2 f5 f6 f7 f8
  subst hT
  rw [e1, e2, e5, e6, e7, e8]
  clear e1 e2 e5 e6 e7 e8
  go_wp2
  refine wp_loop (LFill w wr (some a0) n0 c0 W xs.length cw a i nb) (fun x _ => LFillMu nb x) ?_ (fun a' w' hI => lv_fill w wr (some a0) n0 c0 W xs.length cw a i nb hi hnb _ ?_ a' w' hI)
  · exact ⟨0, G, bs, Nat.zero_le _, rfl, ⟨rfl, rfl, rfl, rfl, rfl, rfl⟩, rfl, rfl, hbs, hO, hb2⟩
  clear hbs hO hb2 G bs g2
  rintro ⟨T2, d2⟩ w3 ⟨G, bs, hd2, ⟨hs2, f1, f2, f5, f6, f7⟩, f8, hbs, hO, hb3⟩
  simp only at hd2 hs2 f1 f2 f5 f6 f7 f8
  subst hd2
  obtain ⟨g2, hg, hT⟩ := opq_lit 196 T2 hs2
  rw [lit_196] at hT
  have e1 := (hg 1).trans f1; have e2 := (hg 2).trans f2; have e5 := (hg 5).trans f5; have e6 := (hg 6).trans f6; have e7 := (hg 7).trans f7; have e8 := (hg 8).trans f8
  clear hg hs2 f1 f2 f5 f6 f7 f8
  subst hT
  rw [e1, e2, e5, e6, e7, e8]
  clear e1 e2 e5 e6 e7 e8
  obtain rfl : nb = bs.length := hbs.out.symm
  clear hbs
  have z3 := hb3.size
  have hM3 := hM.ab hb3
  obtain ⟨⟨q0, q1, q2, q3, q4, q5⟩, ⟨z0, z1, z2, z3, z4, z5⟩, hlt⟩ := hM3.1
  obtain ⟨r', hr', hL'⟩ := hL.out.append hi bs hnb
  have HM := Lib.hid hr'; have HL' := Lib.hid hL'; clear hr' hL'
  have L0 := good_lens hL.out.good
  have hown := Lib.hid hM.own
  have hlw : w.heap.size + 1 ≤ wr.heap.size := hM.1.2.2
  have hGr : wr.heap.size ≤ G := by have := (hO.rng _ rfl).1; exact this
  have hrs : xs.length ≤ 1000000 := by have := hL.out.few; rw [← hR.out, recs_length] at this; omega
  go_wp2_with fail
  refine (wappend_any D E cd ce r.dev.s r.dev.t r.dev.cap r.dev.down r.first r.next _ (hM3.2.1.ab (by repeat (first | with_reducible exact Ab.refl _ | with_reducible assumption | with_reducible refine Ab.drew ?_ | with_reducible refine Ab.drewN ?_ _ | with_reducible refine Ab.alloc ?_ _ | with_reducible refine Ab.trans ?_ (by assumption) | with_reducible refine Ab.set ?_ (by first | (simp; done) | omega | (simp; omega)) _))) (hM3.2.2.1.ab (by repeat (first | with_reducible exact Ab.refl _ | with_reducible assumption | with_reducible refine Ab.drew ?_ | with_reducible refine Ab.drewN ?_ _ | with_reducible refine Ab.alloc ?_ _ | with_reducible refine Ab.trans ?_ (by assumption) | with_reducible refine Ab.set ?_ (by first | (simp; done) | omega | (simp; omega)) _))) hM3.2.2.2.1 hM3.2.2.2.2.1 L0.1 L0.2 (some rs) hL.out.good (some ⟨G, 0, none⟩) bs.length bs (hO.rb.zero.ab (by repeat (first | with_reducible exact Ab.refl _ | with_reducible assumption | with_reducible refine Ab.drew ?_ | with_reducible refine Ab.drewN ?_ _ | with_reducible refine Ab.alloc ?_ _ | with_reducible refine Ab.trans ?_ (by assumption) | with_reducible refine Ab.set ?_ (by first | (simp; done) | omega | (simp; omega)) _))) (Nat.le_refl _) (by omega)).mono ?_
  rintro e w4 ⟨r4, n4, e4, D4, E4, c4, d4, h4, rfl, p4, s4, hb4⟩
  have hm4 := h4.out.trans HM.out
  have H4 := Lib.hid (Prod.mk.inj hm4).1
  have hn4 := (Prod.mk.inj hm4).2
  obtain ⟨rfl, rfl⟩ := Prod.mk.inj hn4
  clear h4 hm4 hn4
  clear q0 q1 q2 q3 q4 q5 z0 z1 z2 z3 z4 z5 hlt
  have z4 := hb4.size
  have hM4 := hM3.ab hb4
  have hb34 : Ab w3 w4 := hb4
  obtain ⟨⟨q0, q1, q2, q3, q4, q5⟩, ⟨z0, z1, z2, z3, z4, z5⟩, hlt⟩ := hM4.1
  have na := fun (o : Obj) (j : Nat) => World.cell?_alloc_lt w4 o ⟨w.heap.size, j, none⟩ hlt
  have nb := fun (o : Obj) (j : Nat) => ((Ab.refl w4).alloc o).frozen (p := ⟨w.heap.size, j, none⟩) hlt
  go_wp2_with
    ((at_builtin
      refine listAppR (x := ⟨r.next, some ⟨G, 0, none⟩, bs.length, bs⟩) (fr := (0, 0)) rfl _ _ rfl rfl rfl (hM4.2.2.2.2.2.1.ab (by repeat (first | with_reducible exact Ab.refl _ | with_reducible assumption | with_reducible refine Ab.drew ?_ | with_reducible refine Ab.drewN ?_ _ | with_reducible refine Ab.alloc ?_ _ | with_reducible refine Ab.trans ?_ (by assumption) | with_reducible refine Ab.set ?_ (by first | (simp; done) | omega | (simp; omega)) _))) (by simp; omega) (by (repeat (first | exact new_plain (by first | (simp; done) | omega | (simp; omega)) | with_reducible refine old_alloc ?_ | with_reducible refine old_drew ?_ | with_reducible refine old_set ?_ (by first | (simp; done) | omega | (simp; omega)) | with_reducible refine old_ab (by assumption) ?_))) ⟨(hO.rb.mono hlw).ab (by repeat (first | with_reducible exact Ab.refl _ | with_reducible assumption | with_reducible refine Ab.drew ?_ | with_reducible refine Ab.drewN ?_ _ | with_reducible refine Ab.alloc ?_ _ | with_reducible refine Ab.trans ?_ (by assumption) | with_reducible refine Ab.set ?_ (by first | (simp; done) | omega | (simp; omega)) _)), Nat.le_refl _, by simp only; omega⟩ (fun p q hp hq _ => by
        have h1 := (hown.out p hp).2
        obtain rfl := Option.some.inj hq
        simp only
        omega) hrs ?_
      intro g' c' w5 ys hys hOw hgr hkk
      have HK2 := Lib.hid hkk; clear hkk
      have hgr2 := grown_alloc hgr
      have tq0 := grown_cell hgr2 (b := w4.heap.size) (o := 0) (v := .slice D4 r4.dev.s.length c4) (by simp [go_sem]) (fun a ha => by have := (hown.out a ha).2; omega)
      have tq1 := grown_cell hgr2 (b := w4.heap.size) (o := 1) (v := .slice E4 r4.dev.t.length d4) (by simp [go_sem]) (fun a ha => by have := (hown.out a ha).2; omega)
      have tq2 := grown_cell hgr2 (b := w4.heap.size) (o := 2) (v := .int .i64 r4.dev.cap) (by simp [go_sem]) (fun a ha => by have := (hown.out a ha).2; omega)
      have tq3 := grown_cell hgr2 (b := w4.heap.size) (o := 3) (v := .bool r4.dev.down) (by simp [go_sem]) (fun a ha => by have := (hown.out a ha).2; omega)
      have tq4 := grown_cell hgr2 (b := w4.heap.size) (o := 4) (v := .int .i64 r4.first) (by simp [go_sem]) (fun a ha => by have := (hown.out a ha).2; omega)
      have tq5 := grown_cell hgr2 (b := w4.heap.size) (o := 5) (v := .int .i64 r4.next) (by simp [go_sem]) (fun a ha => by have := (hown.out a ha).2; omega)
      clear q0 q1 q2 q3 q4 q5 z0 z1 z2 z3 z4 z5 hlt
      clear na nb
      have hX := Lib.hid ((hM4.ab (wx := (w4.alloc (.cells #[.slice D4 r4.dev.s.length c4, .slice E4 r4.dev.t.length d4, .int .i64 r4.dev.cap, .bool r4.dev.down, .int .i64 r4.first, .int .i64 r4.next] 26)).alloc (.cells #[.int .i64 r.next, .slice (some ⟨G, 0, none⟩) bs.length bs.length] 72)) (by repeat (first | with_reducible exact Ab.refl _ | with_reducible assumption | with_reducible refine Ab.drew ?_ | with_reducible refine Ab.drewN ?_ _ | with_reducible refine Ab.alloc ?_ _ | with_reducible refine Ab.trans ?_ (by assumption) | with_reducible refine Ab.set ?_ (by first | (simp; done) | omega | (simp; omega)) _))).grow hgr HK2.out hOw)
      have hF1 := Lib.hid (far_grow (Far.new (fun a ha => ⟨Nat.zero_le _, Nat.lt_of_lt_of_le (hown.out a ha).2 (Nat.le_trans z3 (Nat.le_refl _))⟩) p4) (p4.rb.zero.ab (w' := (w4.alloc (.cells #[.slice D4 r4.dev.s.length c4, .slice E4 r4.dev.t.length d4, .int .i64 r4.dev.cap, .bool r4.dev.down, .int .i64 r4.first, .int .i64 r4.next] 26)).alloc (.cells #[.int .i64 r.next, .slice (some ⟨G, 0, none⟩) bs.length bs.length] 72)) (by repeat (first | with_reducible exact Ab.refl _ | with_reducible assumption | with_reducible refine Ab.drew ?_ | with_reducible refine Ab.drewN ?_ _ | with_reducible refine Ab.alloc ?_ _ | with_reducible refine Ab.trans ?_ (by assumption) | with_reducible refine Ab.set ?_ (by first | (simp; done) | omega | (simp; omega)) _))) hgr HK2.out)
      have hF2 := Lib.hid (far_grow (Far.new (fun a ha => ⟨Nat.zero_le _, Nat.lt_of_lt_of_le (hown.out a ha).2 (Nat.le_trans z3 (Nat.le_refl _))⟩) s4) (s4.rb.zero.ab (w' := (w4.alloc (.cells #[.slice D4 r4.dev.s.length c4, .slice E4 r4.dev.t.length d4, .int .i64 r4.dev.cap, .bool r4.dev.down, .int .i64 r4.first, .int .i64 r4.next] 26)).alloc (.cells #[.int .i64 r.next, .slice (some ⟨G, 0, none⟩) bs.length bs.length] 72)) (by repeat (first | with_reducible exact Ab.refl _ | with_reducible assumption | with_reducible refine Ab.drew ?_ | with_reducible refine Ab.drewN ?_ _ | with_reducible refine Ab.alloc ?_ _ | with_reducible refine Ab.trans ?_ (by assumption) | with_reducible refine Ab.set ?_ (by first | (simp; done) | omega | (simp; omega)) _))) hgr HK2.out)
      obtain ⟨⟨q0, q1, q2, q3, q4, q5⟩, ⟨z0, z1, z2, z3, z4, z5⟩, hlt⟩ := hX.out.1
      clear hgr hgr2
      skip))
  have hr4 : recs ys = rs ++ [⟨r.next, bs⟩] := by rw [hys.out, recs_append, hR.out]; rfl
  exact ⟨r4, D4, E4, some ⟨g', 0, none⟩, c4, d4, c', a, rs ++ [⟨r.next, bs⟩], ys, rfl, ⟨rfl, rfl, rfl, rfl, rfl, rfl⟩, hX.out.put hF1.out.1 hF2.out.1 p4.le s4.le hF1.out.2 hF2.out.2, Lib.hid hr4, Lib.hid (by rw [H4.out]; exact HL'.out)⟩
end Go.Proofs.Ytehagdpcegpbjaa
