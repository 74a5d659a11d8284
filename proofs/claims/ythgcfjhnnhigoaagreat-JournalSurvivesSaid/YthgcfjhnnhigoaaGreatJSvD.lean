/- JournalSurvives: one round. Own work. -/
import Derived.Test.YthgcfjhnnhigoaaGreatJSvB
import Derived.Deep.CutBlock
set_option linter.unusedVariables false
set_option linter.unusedSimpArgs false
namespace Go.Proofs.YthgcfjhnnhigoaaGreat
open Go.RowKit

/-- What holds at the loop's head. -/
def VInv (x : JX) (w : World) (A : Option Addr) (n0 c0 : Nat) (k keep : Int) (act : Act) (wr : World) : Prop := ∃ i, i ≤ n0 ∧ VSt x w A n0 c0 k keep i act wr
def VMu (n0 : Nat) (act : Act) : Nat := n0 - (intOf (act.tmps.getD 14 undef)).toNat
theorem wp_thenJ {P : Program} {c : Code} {K : Act → World → Prop} {Q' : Exit → Act → World → Prop} {a : Act} {w : World} (h : c.wp P (Exit.then K Q') a w) (hK : ∀ a w, K a w → Q' .normal a w) : c.wp P Q' a w :=
  wp_mono h (by
    intro e a w hq
    cases e <;> first | exact hK _ _ hq | exact hq)
set_option maxRecDepth 1000000 in
set_option maxHeartbeats 9600000 in
theorem sv_round (x : JX) (w wr : World) (A : Option Addr) (c0 : Nat) (k keep : Int) (ms : List Jour.Move) (HM : Mvs w 0 A ms) (l20 : ms.length ≤ 20) (Q0 : Exit → Act → World → Prop)
    (hQ : ∀ ch (x : Act) (wz : World) o u, Q0 (.panic ch) (x.put o u) wz → Q0 (.panic ch) x wz) (hexit : ∀ a' w', VSt x w A ms.length c0 k keep ms.length a' w' → Q0 (.exit 0) a' w') (act : Act) (h : VInv x w A ms.length c0 k keep act wr) :
    Code.wp Tryz.prog svBody (Exit.then (fun a' w' => VInv x w A ms.length c0 k keep a' w' ∧ VMu ms.length a' < VMu ms.length act) Q0) act wr := by
  obtain ⟨i, hi, r, m, g, cs, sts, safe, rs, n, c, hd, ⟨hs, f1, f2, f3, f4, f9, f10, f11, f14⟩, V4, J, hO, BW, hSv⟩ := h
  have HMu : Hid (VMu ms.length act = ms.length - i) := Lib.hid (by unfold VMu; rw [f14]; simp [intOf])
  rw [HMu.out]
  obtain ⟨T, d⟩ := act
  simp only at hd hs f1 f2 f3 f4 f9 f10 f11 f14
  subst hd
  obtain ⟨gg, hg, hT⟩ := opq_lit 253 T hs
  rw [lit_253] at hT
  have e1 := (hg 1).trans f1; have e2 := (hg 2).trans f2; have e3 := (hg 3).trans f3; have e4 := (hg 4).trans f4; have e9 := (hg 9).trans f9; have e10 := (hg 10).trans f10; have e11 := (hg 11).trans f11; have e14 := (hg 14).trans f14
  clear hg hs f1 f2 f3 f4 f9 f10 f11 f14
  subst hT
  rw [e1, e2, e3, e4, e9, e10, e11, e14]
  clear e1 e2 e3 e4 e9 e10 e11 e14
  have zg := hO.rng
  have z4 := V4.lt
  by_cases hlt : i < ms.length
  · clear hexit
    have i1 : (i : Int) < (ms.length : Int) := by omega
    conv => arg 2; whnf
    go_upto_block 2 with (first
      | (refine list_stJ rfl _ _ rfl rfl rfl (VB.var (vs := [.slice none 0 0, .slice none 0 0, .int .i64 0, .bool false, .slice none 0 0, .slice none 0 0, .int .i64 0, .bool false, .int .i64 0, .slice none 0 0, .slice none 0 0, .int .i64 0, .bool false, .int .i64 0, .int .i64 0, .int .i64 0, .int .i64 0, .int .i64 0, .int .i64 0, .int .i64 0, .int .i64 0, .int .i64 0, .int .i64 0]) (VB.box (new_plain rfl)) rfl) rfl rfl ?_
         intro w6 h6
         have A6 := h6.ab wr ((Ab.refl wr).alloc _) (Nat.le_refl _)
         have V15 := h6.v
         clear h6)
      | (refine list_ldJ rfl _ rfl rfl V4 rfl ?_))
    refine wp_cut (VMid x w A ms.length c0 k keep i) ?_ ?_
    rotate_left
    · intro J' K' hJ hK'
      refine wp_block ?_
      refine wp_thenJ (K := K') (sv_switch x w w6 A c0 k keep ms HM l20 i hlt _ ⟨r, m, g, cs, sts, safe, rs, n, c, wr.heap.size, rfl, ⟨rfl, rfl, rfl, rfl, rfl, rfl, rfl, rfl, rfl⟩, rfl, rfl, V4.ab A6, V15, z4, zg.2, J.ab A6, hO.ab A6, BW.trans A6, hSv⟩ K' _ (fun _ _ _ _ _ h => hQ _ _ _ _ _ h) (fun a' w' h => hK' _ _ (Met.intro (hJ _ _ h)))) (fun _ _ h => h)
    rename_i KK hKK
    clear V4 J hO BW hSv V15 A6 zg z4
    clear r m g cs sts safe rs n c
    rintro act w2 ⟨r, m, g, cs, sts, safe, rs, n, c, b15, hd, ⟨hs, f1, f2, f3, f4, f9, f10, f11, f14⟩, f15, f16, V4, V15, hb15, J, hO, BW, hSv⟩
    refine hKK _ _ ?_
    clear hKK KK
    clear HMu gg
    obtain ⟨T, d⟩ := act
    simp only at hd hs f1 f2 f3 f4 f9 f10 f11 f14 f15 f16
    subst hd
    obtain ⟨gg, hg, hT⟩ := opq_lit 253 T hs
    rw [lit_253] at hT
    have e1 := (hg 1).trans f1; have e2 := (hg 2).trans f2; have e3 := (hg 3).trans f3; have e4 := (hg 4).trans f4; have e9 := (hg 9).trans f9; have e10 := (hg 10).trans f10; have e11 := (hg 11).trans f11; have e14 := (hg 14).trans f14
    have e15 := (hg 15).trans f15; have e16 := (hg 16).trans f16
    clear hg hs f1 f2 f3 f4 f9 f10 f11 f14 f15 f16
    subst hT
    rw [e1, e2, e3, e4, e9, e10, e11, e14, e15, e16]
    clear e1 e2 e3 e4 e9 e10 e11 e14 e15 e16
    obtain ⟨L, hL⟩ : ∃ L, sts.length = L + 1 := ⟨sts.length - 1, by have := hSv.out.pos; omega⟩
    have hLl : L < sts.length := by omega
    have hLe : sts.length ≤ L + 1 := by omega
    clear hL
    have hsl : sts.length ≤ 22 := by have := hSv.out.many; omega
    have hcl : sts[L] = r.c := by
      have := hSv.out.last
      simpa only [show sts.length - 1 = L by omega] using this
    have l8 := hSv.out.good.state.2
    have HL8 := Lib.hid l8
    have RS : w2.rangeAt g (L * 8) [.int .i64 (cx r.c 0), .int .i64 (cx r.c 1), .int .i64 (cx r.c 2), .int .i64 (cx r.c 3), .int .i64 (cx r.c 4), .int .i64 (cx r.c 5), .int .i64 (cx r.c 6), .int .i64 (cx r.c 7)] := by
      have := hO.at_ hLl
      rwa [hcl] at this
    have heq := fun w => run_eight r.c r.c HL8.out HL8.out w true (by simp)
    have wl : IntKind.i64.wrap ((sts.length : Int) - 1) = (L : Int) := by rw [IntWalk.i64_in _ (by omega)]; omega
    have L0 : (0 : Int) ≤ (L : Int) := by omega
    have L1 : (L : Int) < (sts.length : Int) := by omega
    have hadd := add_at g (L * 8)
    have z4 := V4.lt
    have z15 := V15.lt
    clear hcl l8
    go_upto_region 26 with fail
    refine wp_region_held_drew (by kernel_rfl) (S := fun w' => Ab w2 w' ∧ VB w' b15 [.slice m.m.A r.s.a.s.length m.m.ca, .slice m.m.B r.s.a.t.length m.m.cb, .int .i64 r.s.a.cap, .bool r.s.a.down, .slice m.m.C r.s.b.s.length m.m.cc, .slice m.m.D r.s.b.t.length m.m.cd, .int .i64 r.s.b.cap, .bool r.s.b.down, .int .i64 r.s.n, .slice m.A r.l.dev.s.length m.ca, .slice m.B r.l.dev.t.length m.cb, .int .i64 r.l.dev.cap, .bool r.l.dev.down, .int .i64 r.l.first, .int .i64 r.l.next, .int .i64 (cx r.c 0), .int .i64 (cx r.c 1), .int .i64 (cx r.c 2), .int .i64 (cx r.c 3), .int .i64 (cx r.c 4), .int .i64 (cx r.c 5), .int .i64 (cx r.c 6), .int .i64 (cx r.c 7)] ∧ w'.rangeAt g (L * 8) [.int .i64 (cx r.c 0), .int .i64 (cx r.c 1), .int .i64 (cx r.c 2), .int .i64 (cx r.c 3), .int .i64 (cx r.c 4), .int .i64 (cx r.c 5), .int .i64 (cx r.c 6), .int .i64 (cx r.c 7)]) ?_ (fun hHeld => ?_)
    · exact ⟨abA, V15.ab abA, range_ab RS abA⟩
    (refine rtA 0 ?_ ?_ (hQ := fun _ _ _ h => hQ _ _ _ _ _ h)
     (try simp only [Act.put, stA, st0, st1]))
    (refine rtA 1 ?_ ?_ (hQ := fun _ _ _ h => hQ _ _ _ _ _ h)
     (try simp only [Act.put, stA, st0, st1]))
    (refine rtA 2 ?_ ?_ (hQ := fun _ _ _ h => hQ _ _ _ _ _ h)
     (try simp only [Act.put, stA, st0, st1]))
    (refine rtA 3 ?_ ?_ (hQ := fun _ _ _ h => hQ _ _ _ _ _ h)
     (try simp only [Act.put, stA, st0, st1]))
    (refine rtL 4 [.int .i64 (cx r.c 0), .int .i64 (cx r.c 1), .int .i64 (cx r.c 2), .int .i64 (cx r.c 3), .int .i64 (cx r.c 4), .int .i64 (cx r.c 5), .int .i64 (cx r.c 6), .int .i64 (cx r.c 7)] 15 (fun w hSw => VB.rangeAt (hSw.2.1) 15 8) Tryz.underlying30 ?_ (hQ := fun _ _ _ h => hQ _ _ _ _ _ h)
     (try simp only [Act.put, stA, st0, st1]))
    (refine rtA 5 ?_ ?_ (hQ := fun _ _ _ h => hQ _ _ _ _ _ h)
     (try simp only [Act.put, stA, st0, st1]))
    (refine rtA 6 ?_ ?_ (hQ := fun _ _ _ h => hQ _ _ _ _ _ h)
     (try simp only [Act.put, stA, st0, st1]))
    (refine rtA 7 ?_ ?_ (hQ := fun _ _ _ h => hQ _ _ _ _ _ h)
     (try simp only [Act.put, stA, st0, st1]))
    (refine rtA 8 ?_ ?_ (hQ := fun _ _ _ h => hQ _ _ _ _ _ h)
     (try simp only [Act.put, stA, st0, st1]))
    (refine rtA 9 ?_ ?_ (hQ := fun _ _ _ h => hQ _ _ _ _ _ h)
     (try simp only [Act.put, stA, st0, st1]))
    (try simp only [Act.put, List.getElem_toArray, List.getElem_cons_succ, List.getElem_cons_zero, stA, st0, st1])
    (refine rtL 10 [.int .i64 (cx r.c 0), .int .i64 (cx r.c 1), .int .i64 (cx r.c 2), .int .i64 (cx r.c 3), .int .i64 (cx r.c 4), .int .i64 (cx r.c 5), .int .i64 (cx r.c 6), .int .i64 (cx r.c 7)] (L * 8) (fun w hSw => hSw.2.2) Tryz.underlying30 ?_ (hQ := fun _ _ _ h => hQ _ _ _ _ _ h)
     (try simp only [Act.put, stA, st0, st1]))
    (refine rtA 11 ?_ ?_ (hQ := fun _ _ _ h => hQ _ _ _ _ _ h)
     (try simp only [Act.put, stA, st0, st1]))
    refine r1A 12 (fun K hK => ?_)
    (go_simp
     (refine hK.out _ _ ?_ (fun hHeld => ?_)
      · (try dsimp only); exact hHeld
      clear hK K
      (try simp only [Act.put, stA, st0, st1])))
    refine wpAnyH_done (by kernel_rfl) ?_ _
    obtain ⟨A23, V15', -⟩ := hHeld
    have V4' := V4.ab A23
    have J' := J.ab A23
    have hO' := hO.ab A23
    have BW' := BW.trans A23
    clear V4 V15 J hO BW RS A23 heq
    go_wp2_with (first
      | (refine list_stJ rfl _ _ rfl rfl rfl V4' rfl rfl ?_
         intro w6 h6
         have V4 := h6.v
         have J := JM.stored J' h6
         have hO := hO'.mid h6.m (by omega)
         have BW := h6.ab w BW' (Nat.le_refl _)
         clear h6)
      | (refine list_ldJ rfl _ rfl rfl V15' rfl ?_))
    refine ⟨⟨i + 1, by omega, r, m, g, cs, sts, safe, rs, n, c, rfl, ⟨rfl, rfl, rfl, rfl, rfl, rfl, rfl, rfl, ?_⟩, V4, J, hO, BW, hSv⟩, ?_⟩
    · show Value.int .i64 _ = _
      go_num
    · show ms.length - (intOf (Value.int .i64 _)).toNat < ms.length - i
      simp [intOf]
      omega
  · obtain rfl : i = ms.length := by omega
    conv => arg 2; whnf
    go_wp2
    exact ⟨r, m, g, cs, sts, safe, rs, n, c, rfl, ⟨rfl, rfl, rfl, rfl, rfl, rfl, rfl, rfl, rfl⟩, V4, J, hO, BW, hSv⟩
end Go.Proofs.YthgcfjhnnhigoaaGreat
