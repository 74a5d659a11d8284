/- JournalSurvives: behind the loop. Own work. -/
import Derived.Test.YthgcfjhnnhigoaaGreatJSvC
set_option linter.unusedVariables false
set_option linter.unusedSimpArgs false
namespace Go.Proofs.YthgcfjhnnhigoaaGreat
open Go.RowKit

theorem bump3 (c : List Int) (hc : c.length = 8) : cx (Jour.bump c ⟨3, -1⟩) 3 = cx c 3 - 1 := by
  unfold cx
  rw [Jour.bump_get, if_pos ⟨rfl, by omega⟩]
  rfl
set_option maxRecDepth 1000000 in
set_option maxHeartbeats 9600000 in
/-- The end of the law, where recovery gives what is asked. -/
theorem sv_tail (x : JX) (w wr : World) (A : Option Addr) (n0 c0 : Nat) (k keep : Int) (h20 : n0 ≤ 20) (hx0 : 0 ≤ x.l.next) (act : Act) (h : VSt x w A n0 c0 k keep n0 act wr) :
    Code.wp Tryz.prog svTail (bodyPost Tryz.prog Tryz.f4 (fun e w' => e = .returned (.bool true) ∧ Ab w w')) act wr := by
  obtain ⟨r, m, g, cs, sts, safe, rs, n, c, hd, ⟨hs, f1, f2, f3, f4, f9, f10, f11, f14⟩, V4, J, hO, BW, hSv⟩ := h
  obtain ⟨T, d⟩ := act
  simp only at hd hs f1 f2 f3 f4 f9 f10 f11 f14
  subst hd
  obtain ⟨gg, hg, hT⟩ := opq_lit 253 T hs
  rw [lit_253] at hT
  have e1 := (hg 1).trans f1; have e2 := (hg 2).trans f2; have e3 := (hg 3).trans f3; have e4 := (hg 4).trans f4; have e9 := (hg 9).trans f9; have e10 := (hg 10).trans f10; have e11 := (hg 11).trans f11; have e14 := (hg 14).trans f14
  clear hg hs f1 f2 f3 f4 f9 f10 f11 f14
  subst hT
  rw [e1, e2, e3, e4, e9, e10, e11, e14]
  clear e1 e2 e3 e4 e9 e10 e11 e14
  have HSV := hSv
  have hln := hSv.out.run.next
  have hmany := hSv.out.many
  have hpos := hSv.out.pos
  have hnx := hSv.out.next
  have hsf := hSv.out.run.safe0
  have hlow := hSv.out.low
  have zg := hO.rng
  have hfl : IntKind.i64.wrap (x.l.next + (sts.length : Int)) = x.l.next + (sts.length : Int) := IntWalk.i64_in _ (by omega)
  have hfm : IntKind.i64.wrap (x.l.next + (sts.length : Int) - 1) = x.l.next + (sts.length : Int) - 1 := IntWalk.i64_in _ (by omega)
  clear hSv
  conv => arg 2; whnf
  go_wp2_with (first | (refine list_ldJ rfl _ rfl rfl V4 rfl ?_))
  refine (jcrash_any m r _ J k keep (some rs) HSV.out.good.is).mono ?_
  rintro e w1 ⟨r19, e19, m19, hr19, rfl, J19, hb1⟩
  have HE := Lib.hid (HSV.out.end_ (by omega) hr19.out)
  have BW1 := BW.trans hb1
  have O1 := hO.ab hb1
  clear hr19 V4 J hO BW
  by_cases h2 : e19 = 2
  · obtain rfl : e19 = 2 := h2
    go_wp2_with (first
      | (refine list_stJ rfl _ _ rfl rfl rfl (VB.var (vs := [.slice none 0 0, .slice none 0 0, .int .i64 0, .bool false, .slice none 0 0, .slice none 0 0, .int .i64 0, .bool false, .int .i64 0, .slice none 0 0, .slice none 0 0, .int .i64 0, .bool false, .int .i64 0, .int .i64 0, .int .i64 0, .int .i64 0, .int .i64 0, .int .i64 0, .int .i64 0, .int .i64 0, .int .i64 0, .int .i64 0]) (VB.box (new_plain rfl)) rfl) rfl rfl ?_
         intro w2 h2
         have BW2 := BW1.trans (h2.ab w1 ((Ab.refl w1).alloc _) (Nat.le_refl _))
         clear h2))
    refine (jalive_true _).mono ?_
    rintro e w9 ⟨rfl, hb9⟩
    go_wp2
    go_ret
    exact ⟨rfl, abA⟩
  obtain ⟨rfl, o, l, e21, rs0, rs', u, mm, c', hB, hEnd⟩ := HE.out.resolve_left h2
  have HB := Lib.hid hB
  have HG := Lib.hid (show Jour.GoodX ⟨o, l, e21⟩ rs' mm c' from hB.good)
  have HEND := Lib.hid hEnd
  have hhi := hEnd.hi
  clear hB h2 HE
  go_wp2_with (first
    | (refine list_stJ rfl _ _ rfl rfl rfl (VB.var (vs := [.slice none 0 0, .slice none 0 0, .int .i64 0, .bool false, .slice none 0 0, .slice none 0 0, .int .i64 0, .bool false, .int .i64 0, .slice none 0 0, .slice none 0 0, .int .i64 0, .bool false, .int .i64 0, .int .i64 0, .int .i64 0, .int .i64 0, .int .i64 0, .int .i64 0, .int .i64 0, .int .i64 0, .int .i64 0, .int .i64 0]) (VB.box (new_plain rfl)) rfl) rfl rfl ?_
       intro w2 h2
       have A12 := h2.ab w1 ((Ab.refl w1).alloc _) (Nat.le_refl _)
       have BW2 := BW1.trans A12
       have O2 := O1.ab A12
       have V19 := h2.v
       have J19' := JM.stored (JM.ab J19 ((Ab.refl w1).alloc _)) h2
       clear h2 A12)
    | (refine list_ldJ rfl _ rfl rfl V19 rfl ?_))
  refine (jrecover_good m19 r19 _ J19' HB.out.op HB.out.scan HB.out.lop HB.out.good).mono ?_
  rintro e w3 ⟨r21, n22, e23, m21, hr21, rfl, J21, hb3⟩
  obtain ⟨h211, h212⟩ := Prod.mk.inj hr21.out
  obtain ⟨h213, rfl⟩ := Prod.mk.inj h212
  have H21 := Lib.hid h211
  have hc21 := Lib.hid (show r21.c = e21 by rw [h211])
  have hn22 := Lib.hid h213
  have BW3 := BW2.trans hb3
  have O3 := O2.ab hb3
  have hG21 := Lib.hid (show Jour.GoodX r21 rs' mm c' by rw [h211]; exact HG.out)
  rw [← h213] at hEnd hhi
  have hEND := Lib.hid hEnd
  have dhi : decide (x.l.next + (sts.length : Int) - 1 < n22) = false := by simp; omega
  clear hr21 h211 h212 h213 V19 J19' BW1 BW2 O1 O2 hb1 J19 HEND HG HB
  go_wp2_with (first
    | (refine list_stJ rfl _ _ rfl rfl rfl (VB.var (vs := [.slice none 0 0, .slice none 0 0, .int .i64 0, .bool false, .slice none 0 0, .slice none 0 0, .int .i64 0, .bool false, .int .i64 0, .slice none 0 0, .slice none 0 0, .int .i64 0, .bool false, .int .i64 0, .int .i64 0, .int .i64 0, .int .i64 0, .int .i64 0, .int .i64 0, .int .i64 0, .int .i64 0, .int .i64 0, .int .i64 0]) (VB.box (new_plain rfl)) rfl) rfl rfl ?_
       intro w4 h4
       have A34 := h4.ab w3 ((Ab.refl w3).alloc _) (Nat.le_refl _)
       have BW4 := BW3.trans A34
       have O4 := O3.ab A34
       have V21 := h4.v
       have J21' := JM.stored (JM.ab J21 ((Ab.refl w3).alloc _)) h4
       clear h4 A34)
    | (refine list_ldJg (by rfl) _ rfl rfl V21 rfl ?_))
  refine (jrcheck_any m21 r21 _ J21' (some rs') hG21.out.is).mono ?_
  rintro e w5 ⟨er, hr, rfl, hb5⟩
  obtain rfl : er = 0 := hr.out.trans hG21.out.check
  replace BW4 := BW4.trans hb5
  replace O4 := O4.ab hb5
  replace V21 := V21.ab hb5
  replace J21' := J21'.ab hb5
  clear hr hb5 J21 hb3 BW3 O3
  by_cases hlo : n22 < x.l.next
  · have dlo : decide (n22 < x.l.next) = true := by simpa using hlo
    have dsf : decide (safe < 0) = true := by simpa using hEND.out.lo hlo
    clear hlo hEnd
    go_wp2_with fail
    refine (jalive_true _).mono ?_
    rintro e w9 ⟨rfl, hb9⟩
    go_wp2
    go_ret
    exact ⟨rfl, abA⟩
  have dlo : decide (n22 < x.l.next) = false := by simpa using hlo
  obtain ⟨ha1, q, hq, hat⟩ : x.l.next + safe ≤ n22 ∧ ∃ q : Nat, q < sts.length ∧ ∃ h : q < sts.length, n22 = x.l.next + (q : Int) ∧ e21 = sts[q] := by
    obtain ⟨h1, h2, h3⟩ := hEND.out.at_ (by omega)
    exact ⟨h1, (n22 - x.l.next).toNat, h2, h2, by omega, h3⟩
  obtain ⟨hq', hnq, hst⟩ := hat
  have wfs : IntKind.i64.wrap (x.l.next + safe) = x.l.next + safe := IntWalk.i64_in _ (by omega)
  have dfs : decide (n22 < x.l.next + safe) = false := by simp; omega
  have wq : IntKind.i64.wrap (n22 - x.l.next) = (q : Int) := by rw [IntWalk.i64_in _ (by omega)]; omega
  have q0 : (0 : Int) ≤ (q : Int) := by omega
  have q1 : (q : Int) < (sts.length : Int) := by omega
  have hadd := add_at g (q * 8)
  have RS : w5.rangeAt g (q * 8) [.int .i64 (cx r21.c 0), .int .i64 (cx r21.c 1), .int .i64 (cx r21.c 2), .int .i64 (cx r21.c 3), .int .i64 (cx r21.c 4), .int .i64 (cx r21.c 5), .int .i64 (cx r21.c 6), .int .i64 (cx r21.c 7)] := by
    have := O4.at_ hq
    rw [hc21.out, hst]
    exact this
  have l8 := hG21.out.state.2
  have HL8 := Lib.hid l8
  have heq := fun w => run_eight r21.c r21.c HL8.out HL8.out w true (by simp)
  have HUP := Lib.hid hEND.out.up
  have hle1 : n22 ≤ x.l.next + (q : Int) := by omega
  have hle2 : x.l.next + (q : Int) ≤ n22 := by omega
  have HLN := Lib.hid hln
  clear hlo hEnd hst ha1 l8 hEND hnq hln hq'
  go_upto_region 37 with fail
  have HALL : ∀ (wz : World) (hz : Ab w5 wz), True := fun _ _ => trivial
  by_cases hk0 : 0 < k
  · have dk : decide (0 < k) = true := by simpa using hk0
    have dn : (n22 != x.l.next + (sts.length : Int) - 1) = false := by simpa using HUP.out hk0
    clear hk0 HALL
    refine wp_region_held_drew (by kernel_rfl) (S := fun w' => Ab w5 w' ∧ VB w' w3.heap.size [.slice m21.m.A r21.s.a.s.length m21.m.ca, .slice m21.m.B r21.s.a.t.length m21.m.cb, .int .i64 r21.s.a.cap, .bool r21.s.a.down, .slice m21.m.C r21.s.b.s.length m21.m.cc, .slice m21.m.D r21.s.b.t.length m21.m.cd, .int .i64 r21.s.b.cap, .bool r21.s.b.down, .int .i64 r21.s.n, .slice m21.A r21.l.dev.s.length m21.ca, .slice m21.B r21.l.dev.t.length m21.cb, .int .i64 r21.l.dev.cap, .bool r21.l.dev.down, .int .i64 r21.l.first, .int .i64 r21.l.next, .int .i64 (cx r21.c 0), .int .i64 (cx r21.c 1), .int .i64 (cx r21.c 2), .int .i64 (cx r21.c 3), .int .i64 (cx r21.c 4), .int .i64 (cx r21.c 5), .int .i64 (cx r21.c 6), .int .i64 (cx r21.c 7)] ∧ w'.rangeAt g (q * 8) [.int .i64 (cx r21.c 0), .int .i64 (cx r21.c 1), .int .i64 (cx r21.c 2), .int .i64 (cx r21.c 3), .int .i64 (cx r21.c 4), .int .i64 (cx r21.c 5), .int .i64 (cx r21.c 6), .int .i64 (cx r21.c 7)]) ?_ (fun hHeld => ?_)
    · exact ⟨abA, V21.ab abA, range_ab RS abA⟩
    (refine rtA 0 ?_ ?_
     (try simp only [Act.put, stA, st0, st1]))
    (refine rtA 1 ?_ ?_
     (try simp only [Act.put, stA, st0, st1]))
    (refine rtA 2 ?_ ?_
     (try simp only [Act.put, stA, st0, st1]))
    (refine rtA 3 ?_ ?_
     (try simp only [Act.put, stA, st0, st1]))
    (refine rtA 4 ?_ ?_
     (try simp only [Act.put, stA, st0, st1]))
    (refine rtA 5 ?_ ?_
     (try simp only [Act.put, stA, st0, st1]))
    (refine rtA 6 ?_ ?_
     (try simp only [Act.put, stA, st0, st1]))
    (try simp only [Act.put, List.getElem_toArray, List.getElem_cons_succ, List.getElem_cons_zero, stA, st0, st1])
    (refine rtL 7 [.int .i64 (cx r21.c 0), .int .i64 (cx r21.c 1), .int .i64 (cx r21.c 2), .int .i64 (cx r21.c 3), .int .i64 (cx r21.c 4), .int .i64 (cx r21.c 5), .int .i64 (cx r21.c 6), .int .i64 (cx r21.c 7)] 15 (fun w hSw => VB.rangeAt (hSw.2.1) 15 8) Tryz.underlying30 ?_
     (try simp only [Act.put, stA, st0, st1]))
    (refine rtA 8 ?_ ?_
     (try simp only [Act.put, stA, st0, st1]))
    (refine rtA 9 ?_ ?_
     (try simp only [Act.put, stA, st0, st1]))
    (refine rtA 10 ?_ ?_
     (try simp only [Act.put, stA, st0, st1]))
    (refine rtA 11 ?_ ?_
     (try simp only [Act.put, stA, st0, st1]))
    (refine rtA 12 ?_ ?_
     (try simp only [Act.put, stA, st0, st1]))
    (try simp only [Act.put, List.getElem_toArray, List.getElem_cons_succ, List.getElem_cons_zero, stA, st0, st1])
    (refine rtL 13 [.int .i64 (cx r21.c 0), .int .i64 (cx r21.c 1), .int .i64 (cx r21.c 2), .int .i64 (cx r21.c 3), .int .i64 (cx r21.c 4), .int .i64 (cx r21.c 5), .int .i64 (cx r21.c 6), .int .i64 (cx r21.c 7)] (q * 8) (fun w hSw => hSw.2.2) Tryz.underlying30 ?_
     (try simp only [Act.put, stA, st0, st1]))
    (refine rtA 14 ?_ ?_
     (try simp only [Act.put, stA, st0, st1]))
    (try simp only [Act.put, List.getElem_toArray, List.getElem_cons_succ, List.getElem_cons_zero, stA, st0, st1])
    refine r1A 15 (fun K hK => ?_)
    (go_simp
     (refine hK.out _ _ ?_ (fun hHeld => ?_)
      · (try dsimp only); exact hHeld
      clear hK K
      (try simp only [Act.put, stA, st0, st1])))
    (refine rtA 16 ?_ ?_
     (try simp only [Act.put, stA, st0, st1]))
    (refine rtA 17 ?_ ?_
     (try simp only [Act.put, stA, st0, st1]))
    (refine rtA 18 ?_ ?_
     (try simp only [Act.put, stA, st0, st1]))
    (refine rtA 19 ?_ ?_
     (try simp only [Act.put, stA, st0, st1]))
    (refine rtA 20 ?_ ?_
     (try simp only [Act.put, stA, st0, st1]))
    (refine rtA 21 ?_ ?_
     (try simp only [Act.put, stA, st0, st1]))
    (refine rtA 22 ?_ ?_
     (try simp only [Act.put, stA, st0, st1]))
    (refine rtA 23 ?_ ?_
     (try simp only [Act.put, stA, st0, st1]))
    (refine rtA 24 ?_ ?_
     (try simp only [Act.put, stA, st0, st1]))
    (refine rtA 25 ?_ ?_
     (try simp only [Act.put, stA, st0, st1]))
    (refine rtA 26 ?_ ?_
     (try simp only [Act.put, stA, st0, st1]))
    (try simp only [Act.put, List.getElem_toArray, List.getElem_cons_succ, List.getElem_cons_zero, stA, st0, st1])
    refine r1A 27 (fun K hK => ?_)
    (go_simp
     (refine hK.out _ _ ?_ (fun hHeld => ?_)
      · (try dsimp only); exact hHeld
      clear hK K
      (try simp only [Act.put, stA, st0, st1])))
    refine r1A 28 (fun K hK => ?_)
    (go_simp
     (refine hK.out _ _ ?_ (fun hHeld => ?_)
      · (try dsimp only); exact hHeld
      clear hK K
      (try simp only [Act.put, stA, st0, st1])))
    refine wpAnyH_done (by kernel_rfl) ?_ _
    obtain ⟨A56, V22, -⟩ := hHeld
    have J22 := J21'.ab A56
    have BW6 := BW4.trans A56
    clear V21 J21' BW4 O4 RS heq A56 wq wfs dfs hadd
    have hrm := hG21.out.log.room
    have hc0 := hrm.1
    have hc1 := hrm.2.1
    have hsz : (r21.l.dev.s.length : Int) + r21.l.dev.t.length ≤ 20000 := by have := hrm.2.2; simp only [Disk.Dev.size] at this; omega
    clear hrm
    by_cases hroom : Jour.room r21 1
    · have HR := Lib.hid hroom
      clear hroom
      go_wp2_with (first | (refine list_ldJ rfl _ rfl rfl V22 rfl ?_))
      refine (jrroom_any m21 r21 _ J22 1 (by decide) true ⟨fun _ => rfl, fun _ => HR.out⟩ hc0 hc1 hsz).mono ?_
      rintro e w7 ⟨rfl, hb7⟩
      replace V22 := V22.ab hb7
      replace J22 := J22.ab hb7
      replace BW6 := BW6.trans hb7
      have HST := Lib.hid (Jour.in_bump HL8.out (HR.out.in_ HL8.out) (show Jour.Valid ⟨3, -1⟩ by decide))
      have HDO := Lib.hid (Jour.do_step (m := ⟨3, -1⟩) hG21.out (by decide) (HST.out.state (by decide)) (by have := HR.out.n; omega) (by have := HR.out.l; omega))
      clear hb7 hc0 hc1 hsz
      go_wp2_with (first | (refine list_ldJ rfl _ rfl rfl V22 rfl ?_))
      refine (jdo_any m21 r21 _ J22 ⟨3, -1⟩ (some rs') hG21.out.is).mono ?_
      rintro e w8 ⟨r24, n25, e26, m24, hr24, rfl, J24, hb8⟩
      obtain ⟨h241, h242⟩ := Prod.mk.inj (hr24.out.trans HDO.out.1)
      obtain ⟨h243, rfl⟩ := Prod.mk.inj h242
      have hn25 : (n25 == n22) = true := by rw [h243, hn22.out]; simpa using (by rw [H21.out] : r21.l.next = l.next)
      have hx3 : cx r24.c 3 = cx r21.c 3 - 1 := by rw [h241]; exact bump3 r21.c HL8.out
      have hw3 : IntKind.i64.wrap (cx r21.c 3 - 1) = cx r24.c 3 := by rw [hx3]; exact IntWalk.i64_in _ (by have := HR.out.c 3 (by decide); omega)
      clear hr24 h241 h242 h243 hx3 J22 J24
      go_wp2_with (first
        | (refine list_stJ rfl _ _ rfl rfl rfl (VB.var (vs := [.slice none 0 0, .slice none 0 0, .int .i64 0, .bool false, .slice none 0 0, .slice none 0 0, .int .i64 0, .bool false, .int .i64 0, .slice none 0 0, .slice none 0 0, .int .i64 0, .bool false, .int .i64 0, .int .i64 0, .int .i64 0, .int .i64 0, .int .i64 0, .int .i64 0, .int .i64 0, .int .i64 0, .int .i64 0, .int .i64 0]) (VB.box (new_plain rfl)) rfl) rfl rfl ?_
           intro w10 h10
           have A10 := hb8.trans (h10.ab w8 ((Ab.refl w8).alloc _) (Nat.le_refl _))
           have p18 := (V22.ab A10).at 18 rfl
           have q18 := h10.v.at 18 rfl
           have BW10 := BW6.trans A10
           clear h10 V22 hb8 BW6))
      refine (jalive_true _).mono ?_
      rintro e w9 ⟨rfl, hb9⟩
      go_wp2
      go_ret
      exact ⟨rfl, abA⟩
    · have HR := Lib.hid hroom
      clear hroom
      go_wp2_with (first | (refine list_ldJ rfl _ rfl rfl V22 rfl ?_))
      refine (jrroom_any m21 r21 _ J22 1 (by decide) false ⟨fun h => absurd h HR.out, fun h => absurd h (by simp)⟩ hc0 hc1 hsz).mono ?_
      rintro e w7 ⟨rfl, hb7⟩
      go_wp2_with fail
      refine (jalive_true _).mono ?_
      rintro e w9 ⟨rfl, hb9⟩
      go_wp2
      go_ret
      exact ⟨rfl, abA⟩
  · have dk : decide (0 < k) = false := by simpa using hk0
    clear hk0 HALL
    refine wp_region_held_drew (by kernel_rfl) (S := fun w' => Ab w5 w' ∧ VB w' w3.heap.size [.slice m21.m.A r21.s.a.s.length m21.m.ca, .slice m21.m.B r21.s.a.t.length m21.m.cb, .int .i64 r21.s.a.cap, .bool r21.s.a.down, .slice m21.m.C r21.s.b.s.length m21.m.cc, .slice m21.m.D r21.s.b.t.length m21.m.cd, .int .i64 r21.s.b.cap, .bool r21.s.b.down, .int .i64 r21.s.n, .slice m21.A r21.l.dev.s.length m21.ca, .slice m21.B r21.l.dev.t.length m21.cb, .int .i64 r21.l.dev.cap, .bool r21.l.dev.down, .int .i64 r21.l.first, .int .i64 r21.l.next, .int .i64 (cx r21.c 0), .int .i64 (cx r21.c 1), .int .i64 (cx r21.c 2), .int .i64 (cx r21.c 3), .int .i64 (cx r21.c 4), .int .i64 (cx r21.c 5), .int .i64 (cx r21.c 6), .int .i64 (cx r21.c 7)] ∧ w'.rangeAt g (q * 8) [.int .i64 (cx r21.c 0), .int .i64 (cx r21.c 1), .int .i64 (cx r21.c 2), .int .i64 (cx r21.c 3), .int .i64 (cx r21.c 4), .int .i64 (cx r21.c 5), .int .i64 (cx r21.c 6), .int .i64 (cx r21.c 7)]) ?_ (fun hHeld => ?_)
    · exact ⟨abA, V21.ab abA, range_ab RS abA⟩
    (refine rtA 0 ?_ ?_
     (try simp only [Act.put, stA, st0, st1]))
    (refine rtA 1 ?_ ?_
     (try simp only [Act.put, stA, st0, st1]))
    (refine rtA 2 ?_ ?_
     (try simp only [Act.put, stA, st0, st1]))
    (refine rtA 3 ?_ ?_
     (try simp only [Act.put, stA, st0, st1]))
    (refine rtA 4 ?_ ?_
     (try simp only [Act.put, stA, st0, st1]))
    (refine rtA 5 ?_ ?_
     (try simp only [Act.put, stA, st0, st1]))
    (refine rtA 6 ?_ ?_
     (try simp only [Act.put, stA, st0, st1]))
    (try simp only [Act.put, List.getElem_toArray, List.getElem_cons_succ, List.getElem_cons_zero, stA, st0, st1])
    (refine rtL 7 [.int .i64 (cx r21.c 0), .int .i64 (cx r21.c 1), .int .i64 (cx r21.c 2), .int .i64 (cx r21.c 3), .int .i64 (cx r21.c 4), .int .i64 (cx r21.c 5), .int .i64 (cx r21.c 6), .int .i64 (cx r21.c 7)] 15 (fun w hSw => VB.rangeAt (hSw.2.1) 15 8) Tryz.underlying30 ?_
     (try simp only [Act.put, stA, st0, st1]))
    (refine rtA 8 ?_ ?_
     (try simp only [Act.put, stA, st0, st1]))
    (refine rtA 9 ?_ ?_
     (try simp only [Act.put, stA, st0, st1]))
    (refine rtA 10 ?_ ?_
     (try simp only [Act.put, stA, st0, st1]))
    (refine rtA 11 ?_ ?_
     (try simp only [Act.put, stA, st0, st1]))
    (refine rtA 12 ?_ ?_
     (try simp only [Act.put, stA, st0, st1]))
    (try simp only [Act.put, List.getElem_toArray, List.getElem_cons_succ, List.getElem_cons_zero, stA, st0, st1])
    (refine rtL 13 [.int .i64 (cx r21.c 0), .int .i64 (cx r21.c 1), .int .i64 (cx r21.c 2), .int .i64 (cx r21.c 3), .int .i64 (cx r21.c 4), .int .i64 (cx r21.c 5), .int .i64 (cx r21.c 6), .int .i64 (cx r21.c 7)] (q * 8) (fun w hSw => hSw.2.2) Tryz.underlying30 ?_
     (try simp only [Act.put, stA, st0, st1]))
    (refine rtA 14 ?_ ?_
     (try simp only [Act.put, stA, st0, st1]))
    (try simp only [Act.put, List.getElem_toArray, List.getElem_cons_succ, List.getElem_cons_zero, stA, st0, st1])
    refine r1A 15 (fun K hK => ?_)
    (go_simp
     (refine hK.out _ _ ?_ (fun hHeld => ?_)
      · (try dsimp only); exact hHeld
      clear hK K
      (try simp only [Act.put, stA, st0, st1])))
    (refine rtA 16 ?_ ?_
     (try simp only [Act.put, stA, st0, st1]))
    (refine rtA 17 ?_ ?_
     (try simp only [Act.put, stA, st0, st1]))
    (refine rtA 18 ?_ ?_
     (try simp only [Act.put, stA, st0, st1]))
    (refine rtA 19 ?_ ?_
     (try simp only [Act.put, stA, st0, st1]))
    (refine rtS 20 ?_
     (try simp only [Act.put, stA, st0, st1]))
    (refine rtS 21 ?_
     (try simp only [Act.put, stA, st0, st1]))
    (refine rtS 22 ?_
     (try simp only [Act.put, stA, st0, st1]))
    (refine rtS 23 ?_
     (try simp only [Act.put, stA, st0, st1]))
    (refine rtS 24 ?_
     (try simp only [Act.put, stA, st0, st1]))
    (refine rtS 25 ?_
     (try simp only [Act.put, stA, st0, st1]))
    (refine rtS 26 ?_
     (try simp only [Act.put, stA, st0, st1]))
    (try simp only [Act.put, List.getElem_toArray, List.getElem_cons_succ, List.getElem_cons_zero, stA, st0, st1])
    refine r1A 27 (fun K hK => ?_)
    (go_simp
     (refine hK.out _ _ ?_ (fun hHeld => ?_)
      · (try dsimp only); exact hHeld
      clear hK K
      (try simp only [Act.put, stA, st0, st1])))
    refine r1A 28 (fun K hK => ?_)
    (go_simp
     (refine hK.out _ _ ?_ (fun hHeld => ?_)
      · (try dsimp only); exact hHeld
      clear hK K
      (try simp only [Act.put, stA, st0, st1])))
    refine wpAnyH_done (by kernel_rfl) ?_ _
    obtain ⟨A56, V22, -⟩ := hHeld
    have J22 := J21'.ab A56
    have BW6 := BW4.trans A56
    clear V21 J21' BW4 O4 RS heq A56 wq wfs dfs hadd
    have hrm := hG21.out.log.room
    have hc0 := hrm.1
    have hc1 := hrm.2.1
    have hsz : (r21.l.dev.s.length : Int) + r21.l.dev.t.length ≤ 20000 := by have := hrm.2.2; simp only [Disk.Dev.size] at this; omega
    clear hrm
    by_cases hroom : Jour.room r21 1
    · have HR := Lib.hid hroom
      clear hroom
      go_wp2_with (first | (refine list_ldJ rfl _ rfl rfl V22 rfl ?_))
      refine (jrroom_any m21 r21 _ J22 1 (by decide) true ⟨fun _ => rfl, fun _ => HR.out⟩ hc0 hc1 hsz).mono ?_
      rintro e w7 ⟨rfl, hb7⟩
      replace V22 := V22.ab hb7
      replace J22 := J22.ab hb7
      replace BW6 := BW6.trans hb7
      have HST := Lib.hid (Jour.in_bump HL8.out (HR.out.in_ HL8.out) (show Jour.Valid ⟨3, -1⟩ by decide))
      have HDO := Lib.hid (Jour.do_step (m := ⟨3, -1⟩) hG21.out (by decide) (HST.out.state (by decide)) (by have := HR.out.n; omega) (by have := HR.out.l; omega))
      clear hb7 hc0 hc1 hsz
      go_wp2_with (first | (refine list_ldJ rfl _ rfl rfl V22 rfl ?_))
      refine (jdo_any m21 r21 _ J22 ⟨3, -1⟩ (some rs') hG21.out.is).mono ?_
      rintro e w8 ⟨r24, n25, e26, m24, hr24, rfl, J24, hb8⟩
      obtain ⟨h241, h242⟩ := Prod.mk.inj (hr24.out.trans HDO.out.1)
      obtain ⟨h243, rfl⟩ := Prod.mk.inj h242
      have hn25 : (n25 == n22) = true := by rw [h243, hn22.out]; simpa using (by rw [H21.out] : r21.l.next = l.next)
      have hx3 : cx r24.c 3 = cx r21.c 3 - 1 := by rw [h241]; exact bump3 r21.c HL8.out
      have hw3 : IntKind.i64.wrap (cx r21.c 3 - 1) = cx r24.c 3 := by rw [hx3]; exact IntWalk.i64_in _ (by have := HR.out.c 3 (by decide); omega)
      clear hr24 h241 h242 h243 hx3 J22 J24
      go_wp2_with (first
        | (refine list_stJ rfl _ _ rfl rfl rfl (VB.var (vs := [.slice none 0 0, .slice none 0 0, .int .i64 0, .bool false, .slice none 0 0, .slice none 0 0, .int .i64 0, .bool false, .int .i64 0, .slice none 0 0, .slice none 0 0, .int .i64 0, .bool false, .int .i64 0, .int .i64 0, .int .i64 0, .int .i64 0, .int .i64 0, .int .i64 0, .int .i64 0, .int .i64 0, .int .i64 0, .int .i64 0]) (VB.box (new_plain rfl)) rfl) rfl rfl ?_
           intro w10 h10
           have A10 := hb8.trans (h10.ab w8 ((Ab.refl w8).alloc _) (Nat.le_refl _))
           have p18 := (V22.ab A10).at 18 rfl
           have q18 := h10.v.at 18 rfl
           have BW10 := BW6.trans A10
           clear h10 V22 hb8 BW6))
      refine (jalive_true _).mono ?_
      rintro e w9 ⟨rfl, hb9⟩
      go_wp2
      go_ret
      exact ⟨rfl, abA⟩
    · have HR := Lib.hid hroom
      clear hroom
      go_wp2_with (first | (refine list_ldJ rfl _ rfl rfl V22 rfl ?_))
      refine (jrroom_any m21 r21 _ J22 1 (by decide) false ⟨fun h => absurd h HR.out, fun h => absurd h (by simp)⟩ hc0 hc1 hsz).mono ?_
      rintro e w7 ⟨rfl, hb7⟩
      go_wp2_with fail
      refine (jalive_true _).mono ?_
      rintro e w9 ⟨rfl, hb9⟩
      go_wp2
      go_ret
      exact ⟨rfl, abA⟩
end Go.Proofs.YthgcfjhnnhigoaaGreat
