/- JournalSurvives: the steps that do an operation. Own work. -/
import Derived.Test.YthgcfjhnnhigoaaGreatJSvA
set_option linter.unusedVariables false
set_option linter.unusedSimpArgs false
namespace Go.Proofs.YthgcfjhnnhigoaaGreat
open Go.RowKit

theorem range_ab {w w' : World} {b o : Nat} {vs : List Value} (h : w.rangeAt b o vs) (k : Ab w w') : w'.rangeAt b o vs := fun j v hj => k.at (h j v hj)
theorem range_mid {w w' : World} {b o lo hi : Nat} {vs : List Value} (h : w.rangeAt b o vs) (k : Mid lo hi w w') (hb : b < lo) : w'.rangeAt b o vs := fun j v hj => k.cell (h j v hj) (.inl hb)
set_option maxRecDepth 1000000 in
set_option maxHeartbeats 9600000 in
theorem sv_do (x : JX) (w wr : World) (A : Option Addr) (c0 : Nat) (k keep : Int) (ms : List Jour.Move) (HM : Mvs w 0 A ms) (l20 : ms.length ≤ 20) (i : Nat) (hi : i < ms.length) (hv : Jour.Valid ms[i]) (act : Act) (h : VPre x w A ms.length c0 k keep i act wr)
    (K : Act → World → Prop) (Q : Exit → Act → World → Prop) (hQ : ∀ ch (x : Act) (wz : World) o u, Q (.panic ch) (x.put o u) wz → Q (.panic ch) x wz)
    (hK : ∀ a' w', VMid x w A ms.length c0 k keep i a' w' → K a' w') : Code.wp Tryz.prog svDo (Exit.then K Q) act wr := by
  obtain ⟨r, m, g, cs, sts, safe, rs, n, c, b15, hd, ⟨hs, f1, f2, f3, f4, f9, f10, f11, f14⟩, f15, f16, V4, V15, hb15, hg15, J, hO, BW, hSv⟩ := h
  obtain ⟨T, d⟩ := act
  simp only at hd hs f1 f2 f3 f4 f9 f10 f11 f14 f15 f16
  subst hd
  obtain ⟨gg, hg, hT⟩ := opq_lit 253 T hs
  rw [lit_253] at hT
  have e1 := (hg 1).trans f1; have e2 := (hg 2).trans f2; have e3 := (hg 3).trans f3; have e4 := (hg 4).trans f4; have e9 := (hg 9).trans f9; have e10 := (hg 10).trans f10; have e11 := (hg 11).trans f11; have e14 := (hg 14).trans f14
  have e15 := (hg 15).trans f15; have e16 := (hg 16).trans f16
  clear hg hs f1 f2 f3 f4 f9 f10 f11 f14 f15 f16
  subst hT
  rw [e1, e2, e3, e4, e9, e10, e11, e14, e15, e16]
  clear e1 e2 e3 e4 e9 e10 e11 e14 e15 e16
  obtain ⟨ad, hA, _, c1, c2⟩ := HM.at_ hi
  subst hA
  have cz := cell_lt c1
  replace c1 := BW.at c1
  replace c2 := BW.at c2
  have i0 : (0 : Int) ≤ (i : Int) := by omega
  have i1 : (i : Int) < (ms.length : Int) := by omega
  have hsl : sts.length ≤ 21 := by have := hSv.out.many; omega
  have z15 := V15.lt
  have zg := hO.rng
  have hDO := hSv.out.do_ (by omega) hv
  generalize hmi : ms[i] = mv at c1 c2 hDO
  obtain ⟨mc, mx⟩ := mv
  dsimp only at c1 c2
  obtain ⟨hD1, hD2, rs', hD3⟩ := hDO
  have HD1 := Lib.hid hD1
  have HD2 := Lib.hid hD2
  have HD3 := Lib.hid hD3
  obtain ⟨L, hL⟩ : ∃ L, sts.length = L + 1 := ⟨sts.length - 1, by have := hSv.out.pos; omega⟩
  have hLl : L < sts.length := by omega
  have hLe : sts.length ≤ L + 1 := by omega
  clear hL
  have hcl : sts[L] = r.c := by
    have := hSv.out.last
    simpa only [show sts.length - 1 = L by omega] using this
  have HCL := Lib.hid hcl
  have l8 := hSv.out.good.state.2
  have HL8 := Lib.hid l8
  clear hmi hD1 hD2 hD3 hcl l8 hv
  conv => arg 2; whnf
  go_upto_region 21 with fail
  refine wp_region_held_drew (by kernel_rfl) (S := fun w' => Ab w w' ∧ VB w' w.heap.size [.slice m.m.A r.s.a.s.length m.m.ca, .slice m.m.B r.s.a.t.length m.m.cb, .int .i64 r.s.a.cap, .bool r.s.a.down, .slice m.m.C r.s.b.s.length m.m.cc, .slice m.m.D r.s.b.t.length m.m.cd, .int .i64 r.s.b.cap, .bool r.s.b.down, .int .i64 r.s.n, .slice m.A r.l.dev.s.length m.ca, .slice m.B r.l.dev.t.length m.cb, .int .i64 r.l.dev.cap, .bool r.l.dev.down, .int .i64 r.l.first, .int .i64 r.l.next, .int .i64 (cx r.c 0), .int .i64 (cx r.c 1), .int .i64 (cx r.c 2), .int .i64 (cx r.c 3), .int .i64 (cx r.c 4), .int .i64 (cx r.c 5), .int .i64 (cx r.c 6), .int .i64 (cx r.c 7)] ∧ Var w' b15 23 ∧ w'.cell? (ad.add (i * 2)) = some (.int .i64 mc) ∧ w'.cell? ⟨(ad.add (i * 2)).block, (ad.add (i * 2)).off + 1, none⟩ = some (.int .i64 mx) ∧ JM w' m r ∧ OwnSts (w.heap.size + 1) w' g cs sts) ?_ (fun hHeld => ?_)
  · exact ⟨abA, V4.ab abA, (V15.var rfl).ab abA, c1, c2, J.ab abA, hO.ab abA⟩
  (refine rtL 0 [.slice m.m.A r.s.a.s.length m.m.ca, .slice m.m.B r.s.a.t.length m.m.cb, .int .i64 r.s.a.cap, .bool r.s.a.down, .slice m.m.C r.s.b.s.length m.m.cc, .slice m.m.D r.s.b.t.length m.m.cd, .int .i64 r.s.b.cap, .bool r.s.b.down, .int .i64 r.s.n, .slice m.A r.l.dev.s.length m.ca, .slice m.B r.l.dev.t.length m.cb, .int .i64 r.l.dev.cap, .bool r.l.dev.down, .int .i64 r.l.first, .int .i64 r.l.next, .int .i64 (cx r.c 0), .int .i64 (cx r.c 1), .int .i64 (cx r.c 2), .int .i64 (cx r.c 3), .int .i64 (cx r.c 4), .int .i64 (cx r.c 5), .int .i64 (cx r.c 6), .int .i64 (cx r.c 7)] 0 (fun w hSw => VB.rangeAt (hSw.2.1) 0 23) Tryz.underlying32 ?_ (hQ := fun _ _ _ h => hQ _ _ _ _ _ h)
   (try simp only [Act.put, stA, st0, st1]))
  (refine rtA 1 ?_ ?_ (hQ := fun _ _ _ h => hQ _ _ _ _ _ h)
   (try simp only [Act.put, stA, st0, st1]))
  (refine rtA 2 ?_ ?_ (hQ := fun _ _ _ h => hQ _ _ _ _ _ h)
   (try simp only [Act.put, stA, st0, st1]))
  (refine rtA 3 ?_ ?_ (hQ := fun _ _ _ h => hQ _ _ _ _ _ h)
   (try simp only [Act.put, stA, st0, st1]))
  (refine rtA 4 ?_ ?_ (hQ := fun _ _ _ h => hQ _ _ _ _ _ h)
   (try simp only [Act.put, stA, st0, st1]))
  refine r1A 5 (fun K hK => ?_)
  (go_simp
   (go_at_call 13); refine (jdo_far m r _ hHeld.2.2.2.2.2.1 ⟨mc, mx⟩ (some rs) hSv.out.good.is).mono ?_; rintro e w4 ⟨r4, n4, e4, m4, hr4, rfl, J4, F4, hb4⟩
   (try go_wp2_with fail)
   (refine hK.out _ _ ?_ (fun hHeld => ?_)
    · (try dsimp only); exact ⟨hHeld.1.trans hb4, hHeld.2.1.ab hb4, hHeld.2.2.1.ab hb4, hb4.at hHeld.2.2.2.1, hb4.at hHeld.2.2.2.2.1, hHeld.2.2.2.2.2.1.ab hb4, hHeld.2.2.2.2.2.2.ab hb4⟩
    clear hK K
    (try simp only [Act.put, stA, st0, st1])))
  (refine rtA 6 ?_ ?_ (hQ := fun _ _ _ h => hQ _ _ _ _ _ h)
   (try simp only [Act.put, stA, st0, st1]))
  (refine rtA 7 ?_ ?_ (hQ := fun _ _ _ h => hQ _ _ _ _ _ h)
   (try simp only [Act.put, stA, st0, st1]))
  (refine rtA 8 ?_ ?_ (hQ := fun _ _ _ h => hQ _ _ _ _ _ h)
   (try simp only [Act.put, stA, st0, st1]))
  (refine rtA 9 ?_ ?_ (hQ := fun _ _ _ h => hQ _ _ _ _ _ h)
   (try simp only [Act.put, stA, st0, st1]))
  refine r1A 10 (fun K hK => ?_)
  ((try simp only [Act.put, List.getElem_toArray, List.getElem_cons_succ, List.getElem_cons_zero, stA, st0, st1])
   refine if_go (by rfl) ?_
   refine wp_stJ _ _ rfl rfl rfl hHeld.2.2.1 rfl rfl ?_
   intro w6 h6
   (refine hK.out _ _ ?_ (fun hHeld => ?_)
    · (try dsimp only); exact ⟨h6.ab w hHeld.1 (by omega), hHeld.2.1.mid h6.m (by omega), h6.v.var rfl, h6.m.cell hHeld.2.2.2.1 (.inl (by show (ad.add (i * 2)).block < b15; omega)), h6.m.cell hHeld.2.2.2.2.1 (.inl (by show (ad.add (i * 2)).block < b15; omega)), JM.stored hHeld.2.2.2.2.2.1 h6, hHeld.2.2.2.2.2.2.stored h6 (by omega)⟩
    clear hK K
    (try simp only [Act.put, stA, st0, st1])))
  refine r1A 11 (fun K hK => ?_)
  (go_simp
   (refine hK.out _ _ ?_ (fun hHeld => ?_)
    · (try dsimp only); exact hHeld
    clear hK K
    (try simp only [Act.put, stA, st0, st1])))
  refine wpAnyH_done (by kernel_rfl) ?_ _
  obtain ⟨BS, U4, -, k1, k2, -, OS⟩ := hHeld
  have U15 := h6.v
  have JS := JM.stored J4 h6
  have FS := F4.stored h6
  obtain ⟨h41, h42⟩ := Prod.mk.inj (hr4.out.trans HD1.out)
  obtain ⟨h43, rfl⟩ := Prod.mk.inj h42
  obtain rfl : n4 = r.l.next := h43
  have H4 := Lib.hid h41
  clear hr4 h41 h42 V4 V15 J hO c1 c2 h6 J4 F4 hb4 BW
  have RS : w6.rangeAt g (L * 8) [.int .i64 (cx r.c 0), .int .i64 (cx r.c 1), .int .i64 (cx r.c 2), .int .i64 (cx r.c 3), .int .i64 (cx r.c 4), .int .i64 (cx r.c 5), .int .i64 (cx r.c 6), .int .i64 (cx r.c 7)] := by
    have := OS.at_ hLl
    rwa [HCL.out] at this
  have wl : IntKind.i64.wrap ((sts.length : Int) - 1) = (L : Int) := by rw [IntWalk.i64_in _ (by omega)]; omega
  have L0 : (0 : Int) ≤ (L : Int) := by omega
  have L1 : (L : Int) < (sts.length : Int) := by omega
  have hadd := add_at g (L * 8)
  have zg6 := OS.rng
  have z156 := U15.lt
  have cz6 : (ad.add (i * 2)).block < w6.heap.size := cell_lt k1
  go_upto_region 22 with fail
  go_cut [17, 18] from 114 to 128 (fun v1 v2 wx => ApRel w6 (Jour.apply r.c [⟨mc, mx⟩]) v1 v2 wx)
  case first =>
    refine wp_region_held_drew (by kernel_rfl) (S := fun w' => Ab w6 w' ∧ VB w' b15 [.slice m4.m.A r4.s.a.s.length m4.m.ca, .slice m4.m.B r4.s.a.t.length m4.m.cb, .int .i64 r4.s.a.cap, .bool r4.s.a.down, .slice m4.m.C r4.s.b.s.length m4.m.cc, .slice m4.m.D r4.s.b.t.length m4.m.cd, .int .i64 r4.s.b.cap, .bool r4.s.b.down, .int .i64 r4.s.n, .slice m4.A r4.l.dev.s.length m4.ca, .slice m4.B r4.l.dev.t.length m4.cb, .int .i64 r4.l.dev.cap, .bool r4.l.dev.down, .int .i64 r4.l.first, .int .i64 r4.l.next, .int .i64 (cx r4.c 0), .int .i64 (cx r4.c 1), .int .i64 (cx r4.c 2), .int .i64 (cx r4.c 3), .int .i64 (cx r4.c 4), .int .i64 (cx r4.c 5), .int .i64 (cx r4.c 6), .int .i64 (cx r4.c 7)] ∧ w'.rangeAt g (L * 8) [.int .i64 (cx r.c 0), .int .i64 (cx r.c 1), .int .i64 (cx r.c 2), .int .i64 (cx r.c 3), .int .i64 (cx r.c 4), .int .i64 (cx r.c 5), .int .i64 (cx r.c 6), .int .i64 (cx r.c 7)] ∧ w'.cell? (ad.add (i * 2)) = some (.int .i64 mc) ∧ w'.cell? ⟨(ad.add (i * 2)).block, (ad.add (i * 2)).off + 1, none⟩ = some (.int .i64 mx)) ?_ (fun hHeld => ?_)
    · exact ⟨abA, U15.ab abA, range_ab RS abA, k1, k2⟩
    (refine rtA 0 ?_ ?_ (hQ := fun _ _ _ h => hQ _ _ _ _ _ h)
     (try simp only [Act.put, stA, st0, st1]))
    (refine rtA 1 ?_ ?_ (hQ := fun _ _ _ h => hQ _ _ _ _ _ h)
     (try simp only [Act.put, stA, st0, st1]))
    (refine rtA 2 ?_ ?_ (hQ := fun _ _ _ h => hQ _ _ _ _ _ h)
     (try simp only [Act.put, stA, st0, st1]))
    (refine rtA 3 ?_ ?_ (hQ := fun _ _ _ h => hQ _ _ _ _ _ h)
     (try simp only [Act.put, stA, st0, st1]))
    (refine rtA 4 ?_ ?_ (hQ := fun _ _ _ h => hQ _ _ _ _ _ h)
     (try simp only [Act.put, stA, st0, st1]))
    (refine rtL 5 [.int .i64 (cx r.c 0), .int .i64 (cx r.c 1), .int .i64 (cx r.c 2), .int .i64 (cx r.c 3), .int .i64 (cx r.c 4), .int .i64 (cx r.c 5), .int .i64 (cx r.c 6), .int .i64 (cx r.c 7)] (L * 8) (fun w hSw => hSw.2.2.1) Tryz.underlying30 ?_ (hQ := fun _ _ _ h => hQ _ _ _ _ _ h)
     (try simp only [Act.put, stA, st0, st1]))
    (refine rtA 6 ?_ ?_ (hQ := fun _ _ _ h => hQ _ _ _ _ _ h)
     (try simp only [Act.put, stA, st0, st1]))
    (refine rtA 7 ?_ ?_ (hQ := fun _ _ _ h => hQ _ _ _ _ _ h)
     (try simp only [Act.put, stA, st0, st1]))
    (refine rtA 8 ?_ ?_ (hQ := fun _ _ _ h => hQ _ _ _ _ _ h)
     (try simp only [Act.put, stA, st0, st1]))
    (refine rtA 9 ?_ ?_ (hQ := fun _ _ _ h => hQ _ _ _ _ _ h)
     (try simp only [Act.put, stA, st0, st1]))
    (refine wpAnyH_ready (rs := [10, 15]) (by kernel_rfl) (by simp) ?_)
    refine AllReadyH.cons rfl (fun K hK => ?_) (AllReadyH.cons rfl (fun K hK => ?_) AllReadyH.nil)
    · have AL := (Ab.refl (w6.drew)).alloc (.cells #[.int .i64 mc, .int .i64 mx] 34 (0, 0))
      have MV : Mvs (World.alloc (w6.drew) (.cells #[.int .i64 mc, .int .i64 mx] 34 (0, 0))) 0 (some ⟨w6.heap.size, 0, none⟩) [⟨mc, mx⟩] := Mvs.one (new_plain (by first | rfl | simp)) (Nat.zero_le _)
      (go_simp
       (refine hK.out _ _ ?_ (fun hHeld => ?_)
        · (try dsimp only); exact ⟨hHeld.1.trans AL, hHeld.2.1.ab AL, range_ab hHeld.2.2.1 AL, (AL).at hHeld.2.2.2.1, (AL).at hHeld.2.2.2.2⟩
        clear hK K
        (try simp only [Act.put, stA, st0, st1])))
      (refine wpAnyH_ready (rs := [11, 15]) (by kernel_rfl) (by simp) ?_)
      refine AllReadyH.cons rfl (fun K hK => ?_) (AllReadyH.cons rfl (fun K hK => ?_) AllReadyH.nil)
      · (go_simp
         (go_at_call 12); refine (jrapply_any r.c HL8.out (some ⟨w6.heap.size, 0, none⟩) 1 [⟨mc, mx⟩] _ (MV) (by simp)).mono ?_; rintro e w5 ⟨c5, e5, hr5, rfl, l5, hb5⟩
         (try go_wp2_with fail)
         (refine hK.out _ _ ?_ (fun hHeld => ?_)
          · (try dsimp only); exact ⟨hHeld.1.trans hb5, hHeld.2.1.ab hb5, range_ab hHeld.2.2.1 hb5, (hb5).at hHeld.2.2.2.1, (hb5).at hHeld.2.2.2.2⟩
          clear hK K
          (try simp only [Act.put, stA, st0, st1])))
        (refine rtA 12 ?_ ?_ (hQ := fun _ _ _ h => hQ _ _ _ _ _ h)
         (try simp only [Act.put, stA, st0, st1]))
        (refine rtA 13 ?_ ?_ (hQ := fun _ _ _ h => hQ _ _ _ _ _ h)
         (try simp only [Act.put, stA, st0, st1]))
        (refine rtA 14 ?_ ?_ (hQ := fun _ _ _ h => hQ _ _ _ _ _ h)
         (try simp only [Act.put, stA, st0, st1]))
        refine r1A 15 (fun K hK => ?_)
        have A6 := (Ab.refl (w5)).alloc (.cells #[.int .i64 0, .int .i64 0, .int .i64 0, .int .i64 0, .int .i64 0, .int .i64 0, .int .i64 0, .int .i64 0] 30 (0, 0))
        have v6 : Var (World.alloc (w5) (.cells #[.int .i64 0, .int .i64 0, .int .i64 0, .int .i64 0, .int .i64 0, .int .i64 0, .int .i64 0, .int .i64 0] 30 (0, 0))) (w5.heap.size) 8 := VB.var (vs := [.int .i64 0, .int .i64 0, .int .i64 0, .int .i64 0, .int .i64 0, .int .i64 0, .int .i64 0, .int .i64 0]) (VB.box (new_plain (by first | rfl | simp))) rfl
        have P6 : b15 < w5.heap.size ∧ w6.heap.size ≤ w5.heap.size := by have := apsize (w' := w5) hHeld.1 hHeld.2.1; first | exact this | (simp at this ⊢; omega)
        (go_simp
         (refine hK.out _ _ ?_ (fun hHeld => ?_)
          · (try dsimp only); exact ⟨hHeld.1.trans A6, hHeld.2.1.ab A6, range_ab hHeld.2.2.1 A6, (A6).at hHeld.2.2.2.1, (A6).at hHeld.2.2.2.2⟩
          clear hK K
          (try simp only [Act.put, stA, st0, st1])))
        refine r1A 16 (fun K hK => ?_)
        (try simp only [Act.put, List.getElem_toArray, List.getElem_cons_succ, List.getElem_cons_zero, stA, st0, st1])
        refine if_go (by rfl) ?_
        refine wp_stV 30 infoC _ _ rfl rfl rfl v6 rfl rfl ?_
        intro w7 h7
        (refine hK.out _ _ ?_ (fun hHeld => ?_)
         · (try dsimp only); exact ⟨h7.ab _ hHeld.1 P6.2, hHeld.2.1.mid h7.m (by have := P6.1; omega), range_mid hHeld.2.2.1 h7.m (by have := P6.2; omega), h7.m.cell hHeld.2.2.2.1 (.inl (by have := P6.2; show (ad.add (i * 2)).block < _; omega)), h7.m.cell hHeld.2.2.2.2 (.inl (by have := P6.2; show (ad.add (i * 2)).block < _; omega))⟩
         clear hK K
         (try simp only [Act.put, stA, st0, st1]))
        refine r1A 17 (fun K hK => ?_)
        (go_simp
         (refine hK.out _ _ ?_ (fun hHeld => ?_)
          · (try dsimp only); exact hHeld
          clear hK K
          (try simp only [Act.put, stA, st0, st1])))
        refine wpAnyH_done (by kernel_rfl) ?_ _
        go_wp2_with fail
        go_meet
        exact ⟨c5, e5, _, _, hr5, rfl, rfl, rfl, h7.v, l5, P6.2, hHeld.1⟩
      · have A6 := (Ab.refl ((w6.drew.alloc (.cells #[.int .i64 mc, .int .i64 mx] 34 (0, 0))))).alloc (.cells #[.int .i64 0, .int .i64 0, .int .i64 0, .int .i64 0, .int .i64 0, .int .i64 0, .int .i64 0, .int .i64 0] 30 (0, 0))
        have v6 : Var (World.alloc ((w6.drew.alloc (.cells #[.int .i64 mc, .int .i64 mx] 34 (0, 0)))) (.cells #[.int .i64 0, .int .i64 0, .int .i64 0, .int .i64 0, .int .i64 0, .int .i64 0, .int .i64 0, .int .i64 0] 30 (0, 0))) (w6.heap.size + 1) 8 := VB.var (vs := [.int .i64 0, .int .i64 0, .int .i64 0, .int .i64 0, .int .i64 0, .int .i64 0, .int .i64 0, .int .i64 0]) (VB.box (new_plain (by first | rfl | simp))) rfl
        have P6 : b15 < w6.heap.size + 1 ∧ w6.heap.size ≤ w6.heap.size + 1 := by have := apsize (w' := (w6.drew.alloc (.cells #[.int .i64 mc, .int .i64 mx] 34 (0, 0)))) hHeld.1 hHeld.2.1; first | exact this | (simp at this ⊢; omega)
        (go_simp
         (refine hK.out _ _ ?_ (fun hHeld => ?_)
          · (try dsimp only); exact ⟨hHeld.1.trans A6, hHeld.2.1.ab A6, range_ab hHeld.2.2.1 A6, (A6).at hHeld.2.2.2.1, (A6).at hHeld.2.2.2.2⟩
          clear hK K
          (try simp only [Act.put, stA, st0, st1])))
        refine r1A 11 (fun K hK => ?_)
        (go_simp
         (go_at_call 12); refine (jrapply_any r.c HL8.out (some ⟨w6.heap.size, 0, none⟩) 1 [⟨mc, mx⟩] _ (MV.ab A6) (by simp)).mono ?_; rintro e w5 ⟨c5, e5, hr5, rfl, l5, hb5⟩
         (try go_wp2_with fail)
         (refine hK.out _ _ ?_ (fun hHeld => ?_)
          · (try dsimp only); exact ⟨hHeld.1.trans hb5, hHeld.2.1.ab hb5, range_ab hHeld.2.2.1 hb5, (hb5).at hHeld.2.2.2.1, (hb5).at hHeld.2.2.2.2⟩
          clear hK K
          (try simp only [Act.put, stA, st0, st1])))
        (refine rtA 12 ?_ ?_ (hQ := fun _ _ _ h => hQ _ _ _ _ _ h)
         (try simp only [Act.put, stA, st0, st1]))
        (refine rtA 13 ?_ ?_ (hQ := fun _ _ _ h => hQ _ _ _ _ _ h)
         (try simp only [Act.put, stA, st0, st1]))
        (refine rtA 14 ?_ ?_ (hQ := fun _ _ _ h => hQ _ _ _ _ _ h)
         (try simp only [Act.put, stA, st0, st1]))
        have v7 := v6.ab hb5
        refine r1A 16 (fun K hK => ?_)
        (try simp only [Act.put, List.getElem_toArray, List.getElem_cons_succ, List.getElem_cons_zero, stA, st0, st1])
        refine if_go (by rfl) ?_
        refine wp_stV 30 infoC _ _ rfl rfl rfl v7 rfl rfl ?_
        intro w7 h7
        (refine hK.out _ _ ?_ (fun hHeld => ?_)
         · (try dsimp only); exact ⟨h7.ab _ hHeld.1 P6.2, hHeld.2.1.mid h7.m (by have := P6.1; omega), range_mid hHeld.2.2.1 h7.m (by have := P6.2; omega), h7.m.cell hHeld.2.2.2.1 (.inl (by have := P6.2; show (ad.add (i * 2)).block < _; omega)), h7.m.cell hHeld.2.2.2.2 (.inl (by have := P6.2; show (ad.add (i * 2)).block < _; omega))⟩
         clear hK K
         (try simp only [Act.put, stA, st0, st1]))
        refine r1A 17 (fun K hK => ?_)
        (go_simp
         (refine hK.out _ _ ?_ (fun hHeld => ?_)
          · (try dsimp only); exact hHeld
          clear hK K
          (try simp only [Act.put, stA, st0, st1])))
        refine wpAnyH_done (by kernel_rfl) ?_ _
        go_wp2_with fail
        go_meet
        exact ⟨c5, e5, _, _, hr5, rfl, rfl, rfl, h7.v, l5, P6.2, hHeld.1⟩
    · have A6 := (Ab.refl (w6.drew)).alloc (.cells #[.int .i64 0, .int .i64 0, .int .i64 0, .int .i64 0, .int .i64 0, .int .i64 0, .int .i64 0, .int .i64 0] 30 (0, 0))
      have v6 : Var (World.alloc (w6.drew) (.cells #[.int .i64 0, .int .i64 0, .int .i64 0, .int .i64 0, .int .i64 0, .int .i64 0, .int .i64 0, .int .i64 0] 30 (0, 0))) (w6.heap.size) 8 := VB.var (vs := [.int .i64 0, .int .i64 0, .int .i64 0, .int .i64 0, .int .i64 0, .int .i64 0, .int .i64 0, .int .i64 0]) (VB.box (new_plain (by first | rfl | simp))) rfl
      have P6 : b15 < w6.heap.size ∧ w6.heap.size ≤ w6.heap.size := by have := apsize (w' := w6.drew) hHeld.1 hHeld.2.1; first | exact this | (simp at this ⊢; omega)
      (go_simp
       (refine hK.out _ _ ?_ (fun hHeld => ?_)
        · (try dsimp only); exact ⟨hHeld.1.trans A6, hHeld.2.1.ab A6, range_ab hHeld.2.2.1 A6, (A6).at hHeld.2.2.2.1, (A6).at hHeld.2.2.2.2⟩
        clear hK K
        (try simp only [Act.put, stA, st0, st1])))
      refine r1A 10 (fun K hK => ?_)
      have AL := (Ab.refl ((w6.drew.alloc (.cells #[.int .i64 0, .int .i64 0, .int .i64 0, .int .i64 0, .int .i64 0, .int .i64 0, .int .i64 0, .int .i64 0] 30 (0, 0))))).alloc (.cells #[.int .i64 mc, .int .i64 mx] 34 (0, 0))
      have MV : Mvs (World.alloc ((w6.drew.alloc (.cells #[.int .i64 0, .int .i64 0, .int .i64 0, .int .i64 0, .int .i64 0, .int .i64 0, .int .i64 0, .int .i64 0] 30 (0, 0)))) (.cells #[.int .i64 mc, .int .i64 mx] 34 (0, 0))) 0 (some ⟨w6.heap.size + 1, 0, none⟩) [⟨mc, mx⟩] := Mvs.one (new_plain (by first | rfl | simp)) (Nat.zero_le _)
      (go_simp
       (refine hK.out _ _ ?_ (fun hHeld => ?_)
        · (try dsimp only); exact ⟨hHeld.1.trans AL, hHeld.2.1.ab AL, range_ab hHeld.2.2.1 AL, (AL).at hHeld.2.2.2.1, (AL).at hHeld.2.2.2.2⟩
        clear hK K
        (try simp only [Act.put, stA, st0, st1])))
      refine r1A 11 (fun K hK => ?_)
      (go_simp
       (go_at_call 12); refine (jrapply_any r.c HL8.out (some ⟨w6.heap.size + 1, 0, none⟩) 1 [⟨mc, mx⟩] _ (MV) (by simp)).mono ?_; rintro e w5 ⟨c5, e5, hr5, rfl, l5, hb5⟩
       (try go_wp2_with fail)
       (refine hK.out _ _ ?_ (fun hHeld => ?_)
        · (try dsimp only); exact ⟨hHeld.1.trans hb5, hHeld.2.1.ab hb5, range_ab hHeld.2.2.1 hb5, (hb5).at hHeld.2.2.2.1, (hb5).at hHeld.2.2.2.2⟩
        clear hK K
        (try simp only [Act.put, stA, st0, st1])))
      (refine rtA 12 ?_ ?_ (hQ := fun _ _ _ h => hQ _ _ _ _ _ h)
       (try simp only [Act.put, stA, st0, st1]))
      (refine rtA 13 ?_ ?_ (hQ := fun _ _ _ h => hQ _ _ _ _ _ h)
       (try simp only [Act.put, stA, st0, st1]))
      (refine rtA 14 ?_ ?_ (hQ := fun _ _ _ h => hQ _ _ _ _ _ h)
       (try simp only [Act.put, stA, st0, st1]))
      have v7 := v6.ab (AL.trans hb5)
      refine r1A 16 (fun K hK => ?_)
      (try simp only [Act.put, List.getElem_toArray, List.getElem_cons_succ, List.getElem_cons_zero, stA, st0, st1])
      refine if_go (by rfl) ?_
      refine wp_stV 30 infoC _ _ rfl rfl rfl v7 rfl rfl ?_
      intro w7 h7
      (refine hK.out _ _ ?_ (fun hHeld => ?_)
       · (try dsimp only); exact ⟨h7.ab _ hHeld.1 P6.2, hHeld.2.1.mid h7.m (by have := P6.1; omega), range_mid hHeld.2.2.1 h7.m (by have := P6.2; omega), h7.m.cell hHeld.2.2.2.1 (.inl (by have := P6.2; show (ad.add (i * 2)).block < _; omega)), h7.m.cell hHeld.2.2.2.2 (.inl (by have := P6.2; show (ad.add (i * 2)).block < _; omega))⟩
       clear hK K
       (try simp only [Act.put, stA, st0, st1]))
      refine r1A 17 (fun K hK => ?_)
      (go_simp
       (refine hK.out _ _ ?_ (fun hHeld => ?_)
        · (try dsimp only); exact hHeld
        clear hK K
        (try simp only [Act.put, stA, st0, st1])))
      refine wpAnyH_done (by kernel_rfl) ?_ _
      go_wp2_with fail
      go_meet
      exact ⟨c5, e5, _, _, hr5, rfl, rfl, rfl, h7.v, l5, P6.2, hHeld.1⟩
  obtain ⟨c17, e17, h17, W7, hr17, rfl, rfl, rfl, V17, l17, hh17, A67⟩ := hcut
  obtain ⟨h171, rfl⟩ := Prod.mk.inj (hr17.out.trans HD2.out)
  have H17 := Lib.hid h171
  replace U4 := U4.ab A67
  replace U15 := U15.ab A67
  replace JS := JS.ab A67
  replace FS := FS.ab A67
  replace OS := OS.ab A67
  replace BS := BS.trans A67
  clear hr17 h171 RS k1 k2 A67 wl L1 hadd
  have zW7 := OS.rng
  have z157 := U15.lt
  have z47 := U4.lt
  have xq0 := (V17).at 0 rfl
  have xq1 := (V17).at 1 rfl
  have xq2 := (V17).at 2 rfl
  have xq3 := (V17).at 3 rfl
  have xq4 := (V17).at 4 rfl
  have xq5 := (V17).at 5 rfl
  have xq6 := (V17).at 6 rfl
  have xq7 := (V17).at 7 rfl
  go_wp2_with ((at_builtin
                refine listAppS (x := c17) rfl _ _ rfl rfl rfl (show OwnSts (w.heap.size + 1) _ g cs sts from OwnSts.ab OS abA) (by first | omega | (simp; omega)) (by (repeat (first | with_reducible exact new_drew (by first | (simp; done) | (simp; omega)) | with_reducible exact new_plain (by first | (simp; done) | (simp; omega)) | with_reducible exact new_drewN (by first | (simp; done) | (simp; omega)) | with_reducible refine old_alloc ?_ | with_reducible refine old_drew ?_ | with_reducible refine old_drewN ?_ _ | with_reducible refine old_grown (by assumption) (by simp) ?_ | with_reducible refine old_ab (by assumption) ?_))) (by omega) ?_
                intro g9 c9 w9 ys e9 o9 gr9 k9))
  exact ⟨r4, m4, g9, c9, ys, safe, rs', n, c, b15, rfl, ⟨rfl, rfl, rfl, rfl, rfl, rfl, rfl, rfl, rfl⟩, rfl, rfl, ((VB.ab U4 abA).grown gr9 (by intro e; injection e with e; omega)).var rfl, (VB.ab U15 abA).grown gr9 (by intro e; injection e with e; omega), hb15, JFar.grown (JS.ab abA) (FS.ab abA) gr9 (by show g < wr.heap.size; omega), o9, grown_ab (W := w) (Ab.trans BS abA) gr9 (fun q hq => by injection hq with hq; omega), Lib.hid (by rw [e9.out, H17.out, H4.out]; exact HD3.out)⟩
end Go.Proofs.YthgcfjhnnhigoaaGreat
