/- JournalSaves, walked; written by genjsaves.py. Own work. -/
import Derived.Test.YthgcfjhnnhigoaaGreatJRoom
import Derived.Test.YthgcfjhnnhigoaaGreatJGiven
import Derived.Test.YthgcfjhnnhigoaaGreatGY
set_option linter.unusedVariables false
set_option linter.unusedSimpArgs false
namespace Go.Proofs.YthgcfjhnnhigoaaGreat
open Go.RowKit
open Slots (Sl)

theorem lsame_eq (A B C D : Option Addr) (ca cb cc cd : Nat) (p q : Wal.Log) (hpq : p = q) (w : World) (hs : RB w 0 A p.dev.s) (ht : RB w 0 B p.dev.t) (hs' : RB w 0 C q.dev.s) (ht' : RB w 0 D q.dev.t) (ls : p.dev.s.length ≤ 4000000) (lt : p.dev.t.length ≤ 4000000) :
    Calls Tryz.prog 29 #[.agg #[.slice A p.dev.s.length ca, .slice B p.dev.t.length cb, .int .i64 p.dev.cap, .bool p.dev.down, .int .i64 p.first, .int .i64 p.next], .agg #[.slice C q.dev.s.length cc, .slice D q.dev.t.length cd, .int .i64 q.dev.cap, .bool q.dev.down, .int .i64 q.first, .int .i64 q.next]] w fun e w' => e = .returned (.bool true) ∧ Ab w w' := by
  subst hpq
  exact lsame_true A B C D ca cb cc cd _ _ _ _ _ _ w hs ht hs' ht' ls lt
theorem dsame_eq (A B C D : Option Addr) (ca cb cc cd : Nat) (p q : Disk.Dev) (hpq : p = q) (w : World) (hs : RB w 0 A p.s) (ht : RB w 0 B p.t) (hs' : RB w 0 C q.s) (ht' : RB w 0 D q.t) (ls : p.s.length ≤ 4000000) (lt : p.t.length ≤ 4000000) :
    Calls Tryz.prog 30 #[.agg #[.slice A p.s.length ca, .slice B p.t.length cb, .int .i64 p.cap, .bool p.down], .agg #[.slice C q.s.length cc, .slice D q.t.length cd, .int .i64 q.cap, .bool q.down]] w fun e w' => e = .returned (.bool true) ∧ Ab w w' := by
  subst hpq
  exact same_true A B C D ca cb cc cd _ _ _ _ w hs ht hs' ht' ls lt

set_option maxRecDepth 100000 in
set_option maxHeartbeats 12800000 in
theorem jsaves_walk (a : JA) (x : JX) (w : World) (ha : JAr w a x) (k : Int) :
    Calls Tryz.prog 5 #[.agg #[.slice a.m.A x.s.a.s.length a.m.ca, .slice a.m.B x.s.a.t.length a.m.cb, .int .i64 x.s.a.cap, .bool x.s.a.down, .slice a.m.C x.s.b.s.length a.m.cc, .slice a.m.D x.s.b.t.length a.m.cd, .int .i64 x.s.b.cap, .bool x.s.b.down, .int .i64 x.s.n, .slice a.A x.l.dev.s.length a.ca, .slice a.B x.l.dev.t.length a.cb, .int .i64 x.l.dev.cap, .bool x.l.dev.down, .int .i64 x.l.first, .int .i64 x.l.next, .int .i64 (cx x.c 0), .int .i64 (cx x.c 1), .int .i64 (cx x.c 2), .int .i64 (cx x.c 3), .int .i64 (cx x.c 4), .int .i64 (cx x.c 5), .int .i64 (cx x.c 6), .int .i64 (cx x.c 7)], .int .i64 k] w fun e w' => e = .returned (.bool true) ∧ Ab w w' := by
  obtain ⟨g, hi⟩ := Wal.is_exists x.l
  go_enter Tryz.func5, Tryz.ntmps5
  have V2 : VB (w.alloc (.cells #[.slice a.m.A x.s.a.s.length a.m.ca, .slice a.m.B x.s.a.t.length a.m.cb, .int .i64 x.s.a.cap, .bool x.s.a.down, .slice a.m.C x.s.b.s.length a.m.cc, .slice a.m.D x.s.b.t.length a.m.cd, .int .i64 x.s.b.cap, .bool x.s.b.down, .int .i64 x.s.n, .slice a.A x.l.dev.s.length a.ca, .slice a.B x.l.dev.t.length a.cb, .int .i64 x.l.dev.cap, .bool x.l.dev.down, .int .i64 x.l.first, .int .i64 x.l.next, .int .i64 (cx x.c 0), .int .i64 (cx x.c 1), .int .i64 (cx x.c 2), .int .i64 (cx x.c 3), .int .i64 (cx x.c 4), .int .i64 (cx x.c 5), .int .i64 (cx x.c 6), .int .i64 (cx x.c 7)] 32 (0, 0))) w.heap.size [.slice a.m.A x.s.a.s.length a.m.ca, .slice a.m.B x.s.a.t.length a.m.cb, .int .i64 x.s.a.cap, .bool x.s.a.down, .slice a.m.C x.s.b.s.length a.m.cc, .slice a.m.D x.s.b.t.length a.m.cd, .int .i64 x.s.b.cap, .bool x.s.b.down, .int .i64 x.s.n, .slice a.A x.l.dev.s.length a.ca, .slice a.B x.l.dev.t.length a.cb, .int .i64 x.l.dev.cap, .bool x.l.dev.down, .int .i64 x.l.first, .int .i64 x.l.next, .int .i64 (cx x.c 0), .int .i64 (cx x.c 1), .int .i64 (cx x.c 2), .int .i64 (cx x.c 3), .int .i64 (cx x.c 4), .int .i64 (cx x.c 5), .int .i64 (cx x.c 6), .int .i64 (cx x.c 7)] := VB.box (new_plain rfl)
  have BW : Ab w (w.alloc (.cells #[.slice a.m.A x.s.a.s.length a.m.ca, .slice a.m.B x.s.a.t.length a.m.cb, .int .i64 x.s.a.cap, .bool x.s.a.down, .slice a.m.C x.s.b.s.length a.m.cc, .slice a.m.D x.s.b.t.length a.m.cd, .int .i64 x.s.b.cap, .bool x.s.b.down, .int .i64 x.s.n, .slice a.A x.l.dev.s.length a.ca, .slice a.B x.l.dev.t.length a.cb, .int .i64 x.l.dev.cap, .bool x.l.dev.down, .int .i64 x.l.first, .int .i64 x.l.next, .int .i64 (cx x.c 0), .int .i64 (cx x.c 1), .int .i64 (cx x.c 2), .int .i64 (cx x.c 3), .int .i64 (cx x.c 4), .int .i64 (cx x.c 5), .int .i64 (cx x.c 6), .int .i64 (cx x.c 7)] 32 (0, 0))) := abA
  by_cases hf : Jour.fits x 1 g
  case neg =>
    have HF := Lib.hid hf
    clear hf
    go_wp2_with (refine list_ldJ rfl _ rfl rfl V2 rfl ?_)
    refine (jfit_any a x _ (ha.ab BW) 1 1 rfl (by decide) g hi false ⟨fun k => absurd k HF.out, fun k => absurd k (by simp)⟩).mono ?_
    rintro e w1 ⟨rfl, hb1⟩
    go_wp2_with fail
    refine (jalive_true _).mono ?_
    rintro e w9 ⟨rfl, hb9⟩
    go_wp2
    go_ret
    exact ⟨rfl, abA⟩
  have HF := Lib.hid hf
  clear hf
  by_cases hk : k < 1
  · have d1 : decide (k < 1) = true := by simpa using hk
    clear hk
    go_wp2_with (refine list_ldJ rfl _ rfl rfl V2 rfl ?_)
    refine (jfit_any a x _ (ha.ab BW) 1 1 rfl (by decide) g hi true ⟨fun _ => rfl, fun _ => HF.out⟩).mono ?_
    rintro e w1 ⟨rfl, hb1⟩
    go_wp2_with fail
    refine (jalive_true _).mono ?_
    rintro e w9 ⟨rfl, hb9⟩
    go_wp2
    go_ret
    exact ⟨rfl, abA⟩
  have d1 : decide (k < 1) = false := by simpa using hk
  by_cases hk5 : 5 < k
  · have d5 : decide (5 < k) = true := by simpa using hk5
    clear hk hk5
    go_wp2_with (refine list_ldJ rfl _ rfl rfl V2 rfl ?_)
    refine (jfit_any a x _ (ha.ab BW) 1 1 rfl (by decide) g hi true ⟨fun _ => rfl, fun _ => HF.out⟩).mono ?_
    rintro e w1 ⟨rfl, hb1⟩
    go_wp2_with fail
    refine (jalive_true _).mono ?_
    rintro e w9 ⟨rfl, hb9⟩
    go_wp2
    go_ret
    exact ⟨rfl, abA⟩
  have d5 : decide (5 < k) = false := by simpa using hk5
  have HK := Lib.hid (show 1 ≤ k ∧ k ≤ 5 by omega)
  clear hk hk5
  have h := ha.jm HF.out.1
  obtain ⟨rs, n, c, hgs, hG⟩ := Jour.fits_good hi HF.out
  subst hgs
  have HG := Lib.hid hG
  have HA := Lib.hid (Jour.fits_ask hG HF.out.2.2)
  have hst := Lib.hid hG.state
  have hnx := HF.out.2.2.n
  have HN := Lib.hid hnx
  have HB := Lib.hid (Jour.self_back hG (by have := hG.count; omega))
  clear hG hnx
  go_wp2_with (refine list_ldJ rfl _ rfl rfl V2 rfl ?_)
  refine (jfit_any a x _ (ha.ab BW) 1 1 rfl (by decide) (some rs) hi true ⟨fun _ => rfl, fun _ => HF.out⟩).mono ?_
  rintro e w1 ⟨rfl, hb1⟩
  replace V2 := V2.ab hb1
  replace BW := BW.trans hb1
  clear hb1
  go_wp2_with (first
              | (refine list_ldJ rfl _ rfl rfl V2 rfl ?_))
  refine (jrecover_good a x _ (h.ab BW) HB.out.op HB.out.scan HB.out.lop HB.out.good).mono ?_
  rintro e w3 ⟨r5, n5, e5, m5, hr5, rfl, J5, hb3⟩
  obtain ⟨h51, h52⟩ := Prod.mk.inj hr5.out
  obtain ⟨h53, rfl⟩ := Prod.mk.inj h52
  obtain rfl : n5 = x.l.next := h53
  have H5 := Lib.hid h51
  clear hr5 h51 h52
  go_wp2_with (first
              | (refine list_stJ rfl _ _ rfl rfl rfl (VB.var (vs := [.slice none 0 0, .slice none 0 0, .int .i64 0, .bool false, .slice none 0 0, .slice none 0 0, .int .i64 0, .bool false, .int .i64 0, .slice none 0 0, .slice none 0 0, .int .i64 0, .bool false, .int .i64 0, .int .i64 0, .int .i64 0, .int .i64 0, .int .i64 0, .int .i64 0, .int .i64 0, .int .i64 0, .int .i64 0, .int .i64 0]) (VB.box (new_plain rfl)) rfl) rfl rfl ?_
                 intro w4 hw4
                 have bw4 := hb3.trans (hw4.ab w3 ((Ab.refl w3).alloc _) (Nat.le_refl _))
                 replace V2 := V2.ab bw4
                 replace BW := BW.trans bw4
                 have V5 := hw4.v
                 replace J5 := JM.stored (JM.ab J5 ((Ab.refl w3).alloc _)) hw4
                 clear hw4 hb3 bw4)
              | (refine list_ldJ rfl _ rfl rfl V2 rfl ?_))
  refine (jsync_any a x _ (h.ab BW) (some rs) hi).mono ?_
  rintro e w5 ⟨r8, e8, m8, hr8, rfl, J8, hb5⟩
  obtain ⟨h81, rfl⟩ := Prod.mk.inj (hr8.out.trans (Jour.sync_step HG.out).1)
  have H8 := Lib.hid h81
  clear hr8 h81
  go_upto_region 5 with (first
              | (refine list_stJ rfl _ _ rfl rfl rfl (VB.var (vs := [.slice none 0 0, .slice none 0 0, .int .i64 0, .bool false, .slice none 0 0, .slice none 0 0, .int .i64 0, .bool false, .int .i64 0, .slice none 0 0, .slice none 0 0, .int .i64 0, .bool false, .int .i64 0, .int .i64 0, .int .i64 0, .int .i64 0, .int .i64 0, .int .i64 0, .int .i64 0, .int .i64 0, .int .i64 0, .int .i64 0]) (VB.box (new_plain rfl)) rfl) rfl rfl ?_
                 intro w6 hw6
                 have bw6 := hb5.trans (hw6.ab w5 ((Ab.refl w5).alloc _) (Nat.le_refl _))
                 replace V2 := V2.ab bw6
                 replace V5 := V5.ab bw6
                 replace J5 := J5.ab bw6
                 replace BW := BW.trans bw6
                 have V8 := hw6.v
                 replace J8 := JM.stored (JM.ab J8 ((Ab.refl w5).alloc _)) hw6
                 clear hw6 hb5 bw6))
  have hc5 : r5.c = x.c := by rw [H5.out]
  have l5 : r5.c.length = 8 := by rw [hc5]; exact hst.out.2
  have heq : ∀ w, (Op.equalIn 10000 30 (.agg #[.int .i64 (cx r5.c 0), .int .i64 (cx r5.c 1), .int .i64 (cx r5.c 2), .int .i64 (cx r5.c 3), .int .i64 (cx r5.c 4), .int .i64 (cx r5.c 5), .int .i64 (cx r5.c 6), .int .i64 (cx r5.c 7)]) (.agg #[.int .i64 (cx x.c 0), .int .i64 (cx x.c 1), .int .i64 (cx x.c 2), .int .i64 (cx x.c 3), .int .i64 (cx x.c 4), .int .i64 (cx x.c 5), .int .i64 (cx x.c 6), .int .i64 (cx x.c 7)])).run Tryz.prog w = .ok true w := fun w => run_eight r5.c x.c l5 hst.out.2 w true (by simpa using hc5)
  clear hc5
  have xq0 := (V2).at 15 rfl
  have xq1 := (V2).at 16 rfl
  have xq2 := (V2).at 17 rfl
  have xq3 := (V2).at 18 rfl
  have xq4 := (V2).at 19 rfl
  have xq5 := (V2).at 20 rfl
  have xq6 := (V2).at 21 rfl
  have xq7 := (V2).at 22 rfl
  have yq0 := (V5).at 15 rfl
  have yq1 := (V5).at 16 rfl
  have yq2 := (V5).at 17 rfl
  have yq3 := (V5).at 18 rfl
  have yq4 := (V5).at 19 rfl
  have yq5 := (V5).at 20 rfl
  have yq6 := (V5).at 21 rfl
  have yq7 := (V5).at 22 rfl
  have pn := V2.at 14 rfl
  have uq0 := (V5).at 9 rfl
  have uq1 := (V5).at 10 rfl
  have uq2 := (V5).at 11 rfl
  have uq3 := (V5).at 12 rfl
  have uq4 := (V5).at 13 rfl
  have uq5 := (V5).at 14 rfl
  have vq0 := (V8).at 9 rfl
  have vq1 := (V8).at 10 rfl
  have vq2 := (V8).at 11 rfl
  have vq3 := (V8).at 12 rfl
  have vq4 := (V8).at 13 rfl
  have vq5 := (V8).at 14 rfl
  go_wp2_with fail
  refine (lsame_eq m5.A m5.B m8.A m8.B m5.ca m5.cb m8.ca m8.cb r5.l r8.l (by rw [H5.out, H8.out]) _ (J5.l.p.ab abA) (J5.l.q.ab abA) (J8.l.p.ab abA) (J8.l.q.ab abA) (by have := J5.l.np; omega) (by have := J5.l.nq; omega)).mono ?_
  rintro e w7 ⟨rfl, hb7⟩
  clear heq xq0 xq1 xq2 xq3 xq4 xq5 xq6 xq7 yq0 yq1 yq2 yq3 yq4 yq5 yq6 yq7 uq0 uq1 uq2 uq3 uq4 uq5 vq0 vq1 vq2 vq3 vq4 vq5 pn
  replace V2 := V2.ab hb7
  replace V5 := V5.ab hb7
  replace J5 := J5.ab hb7
  replace V8 := V8.ab hb7
  replace J8 := J8.ab hb7
  replace BW := BW.trans hb7
  clear hb7
  have p0 := V2.at 0 rfl
  have p1 := V2.at 1 rfl
  have p2 := V2.at 2 rfl
  have p3 := V2.at 3 rfl
  have q0 := V5.at 0 rfl
  have q1 := V5.at 1 rfl
  have q2 := V5.at 2 rfl
  have q3 := V5.at 3 rfl
  have hs := h.s.ab BW
  go_wp2_with fail
  refine (dsame_eq m5.m.A m5.m.B a.m.A a.m.B m5.m.ca m5.m.cb a.m.ca a.m.cb r5.s.a x.s.a (by rw [H5.out]) _ (J5.s.a.ab abA) (J5.s.b.ab abA) (hs.a.ab abA) (hs.b.ab abA) (by have := J5.s.sa; omega) (by have := J5.s.sb; omega)).mono ?_
  rintro e w8 ⟨rfl, hb8⟩
  clear p0 p1 p2 p3 q0 q1 q2 q3 hs
  replace V2 := V2.ab hb8
  replace V5 := V5.ab hb8
  replace J5 := J5.ab hb8
  replace V8 := V8.ab hb8
  replace J8 := J8.ab hb8
  replace BW := BW.trans hb8
  clear hb8
  clear V5 J5 V8 J8 H5 H8
  go_wp2_with (first
              | (refine list_ldJ rfl _ rfl rfl V2 rfl ?_))
  refine (jsave_any a x _ (h.ab BW) (some rs) hi).mono ?_
  rintro e w10 ⟨r10, e10, m10, hr10, rfl, J10, hb10⟩
  have HS := Lib.hid (Jour.save_step HG.out HA.out (by have := HN.out; omega))
  obtain ⟨h101, rfl⟩ := Prod.mk.inj (hr10.out.trans HS.out.1)
  have H10 := Lib.hid h101
  clear hr10 h101
  go_wp2_with (first
              | (refine list_stJ rfl _ _ rfl rfl rfl (VB.var (vs := [.slice none 0 0, .slice none 0 0, .int .i64 0, .bool false, .slice none 0 0, .slice none 0 0, .int .i64 0, .bool false, .int .i64 0, .slice none 0 0, .slice none 0 0, .int .i64 0, .bool false, .int .i64 0, .int .i64 0, .int .i64 0, .int .i64 0, .int .i64 0, .int .i64 0, .int .i64 0, .int .i64 0, .int .i64 0, .int .i64 0]) (VB.box (new_plain rfl)) rfl) rfl rfl ?_
                 intro w11 hw11
                 have bw11 := hb10.trans (hw11.ab w10 ((Ab.refl w10).alloc _) (Nat.le_refl _))
                 replace V2 := V2.ab bw11
                 replace BW := BW.trans bw11
                 have V10 := hw11.v
                 replace J10 := JM.stored (JM.ab J10 ((Ab.refl w10).alloc _)) hw11
                 clear hw11 hb10 bw11)
              | (refine list_ldJ rfl _ rfl rfl V2 rfl ?_))
  refine (jcrash_any a x _ (h.ab BW) k 0 (some rs) hi).mono ?_
  rintro e w12 ⟨r12, e12, m12, hr12, rfl, J12, hb12⟩
  obtain rfl : e12 = 0 := (congrArg Prod.snd hr12.out).trans (Jour.crash_zero HG.out HA.out (by have := HK.out; omega) HK.out.2)
  obtain ⟨o14, l14, c14, rs14, rs14', u14, n14, c14', HB14, he14, hl14⟩ : ∃ o l e rs0 rs' u m c', Hid (Jour.Back r12 x.l.dev.cap o l e rs0 rs' u m c') ∧ Hid (e = x.c) ∧ l.next = x.l.next := by
    rcases Jour.back_of HG.out HA.out (by have := HN.out; omega) hr12.out with h | ⟨_, o, l, e, rs0, rs', u, m, c', hB, hh⟩
    · cases h
    · rcases hh with ⟨hh, _⟩ | ⟨_, h1, h2⟩
      · have := HK.out; omega
      · exact ⟨o, l, e, rs0, rs', u, m, c', hB, h1, h2⟩
  clear hr12
  go_wp2_with (first
              | (refine list_stJ rfl _ _ rfl rfl rfl (VB.var (vs := [.slice none 0 0, .slice none 0 0, .int .i64 0, .bool false, .slice none 0 0, .slice none 0 0, .int .i64 0, .bool false, .int .i64 0, .slice none 0 0, .slice none 0 0, .int .i64 0, .bool false, .int .i64 0, .int .i64 0, .int .i64 0, .int .i64 0, .int .i64 0, .int .i64 0, .int .i64 0, .int .i64 0, .int .i64 0, .int .i64 0]) (VB.box (new_plain rfl)) rfl) rfl rfl ?_
                 intro w13 hw13
                 have bw13 := hb12.trans (hw13.ab w12 ((Ab.refl w12).alloc _) (Nat.le_refl _))
                 replace V2 := V2.ab bw13
                 replace V10 := V10.ab bw13
                 replace J10 := J10.ab bw13
                 replace BW := BW.trans bw13
                 have V12 := hw13.v
                 replace J12 := JM.stored (JM.ab J12 ((Ab.refl w12).alloc _)) hw13
                 clear hw13 hb12 bw13)
              | (refine list_ldJ rfl _ rfl rfl V12 rfl ?_))
  refine (jrecover_good m12 r12 _ J12 HB14.out.op HB14.out.scan HB14.out.lop HB14.out.good).mono ?_
  rintro e w14 ⟨r14, n15, e14, m14, hr14, rfl, J14, hb14⟩
  obtain ⟨h141, h142⟩ := Prod.mk.inj hr14.out
  obtain ⟨h143, rfl⟩ := Prod.mk.inj h142
  obtain rfl : n15 = x.l.next := h143.trans hl14
  have H14 := Lib.hid (show r14.c = x.c by rw [h141]; exact he14.out)
  clear hr14 h141 h142 h143 HB14 hl14 he14
  go_wp2_with (first
              | (refine list_stJ rfl _ _ rfl rfl rfl (VB.var (vs := [.slice none 0 0, .slice none 0 0, .int .i64 0, .bool false, .slice none 0 0, .slice none 0 0, .int .i64 0, .bool false, .int .i64 0, .slice none 0 0, .slice none 0 0, .int .i64 0, .bool false, .int .i64 0, .int .i64 0, .int .i64 0, .int .i64 0, .int .i64 0, .int .i64 0, .int .i64 0, .int .i64 0, .int .i64 0, .int .i64 0]) (VB.box (new_plain rfl)) rfl) rfl rfl ?_
                 intro w15 hw15
                 have bw15 := hb14.trans (hw15.ab w14 ((Ab.refl w14).alloc _) (Nat.le_refl _))
                 replace V2 := V2.ab bw15
                 replace V10 := V10.ab bw15
                 replace J10 := J10.ab bw15
                 replace V12 := V12.ab bw15
                 replace J12 := J12.ab bw15
                 replace BW := BW.trans bw15
                 have V14 := hw15.v
                 replace J14 := JM.stored (JM.ab J14 ((Ab.refl w14).alloc _)) hw15
                 clear hw15 hb14 bw15)
              | (refine list_ldJ rfl _ rfl rfl V10 rfl ?_))
  have HB17 := Lib.hid (Jour.self_back HS.out.2 (by show x.l.next ≤ 1000000000; have := HN.out; omega))
  refine (jrecover_good m10 r10 _ J10 (by rw [H10.out]; exact HB17.out.op) (by rw [H10.out]; exact HB17.out.scan) (by rw [H10.out]; exact HB17.out.lop) HB17.out.good).mono ?_
  rintro e w16 ⟨r17, n17, e17, m17, hr17, rfl, J17, hb16⟩
  obtain ⟨h171, h172⟩ := Prod.mk.inj hr17.out
  obtain ⟨h173, rfl⟩ := Prod.mk.inj h172
  obtain rfl : n17 = x.l.next := h173
  have H17 := Lib.hid (show r17.c = x.c by rw [h171]; rfl)
  clear hr17 h171 h172 HB17
  have hc10 : r10.c = x.c := by rw [H10.out]; rfl
  have l10 : r10.c.length = 8 := by rw [hc10]; exact hst.out.2
  have l14 : r14.c.length = 8 := by rw [H14.out]; exact hst.out.2
  have l17 : r17.c.length = 8 := by rw [H17.out]; exact hst.out.2
  have heqa : ∀ w, (Op.equalIn 10000 30 (.agg #[.int .i64 (cx r10.c 0), .int .i64 (cx r10.c 1), .int .i64 (cx r10.c 2), .int .i64 (cx r10.c 3), .int .i64 (cx r10.c 4), .int .i64 (cx r10.c 5), .int .i64 (cx r10.c 6), .int .i64 (cx r10.c 7)]) (.agg #[.int .i64 (cx x.c 0), .int .i64 (cx x.c 1), .int .i64 (cx x.c 2), .int .i64 (cx x.c 3), .int .i64 (cx x.c 4), .int .i64 (cx x.c 5), .int .i64 (cx x.c 6), .int .i64 (cx x.c 7)])).run Tryz.prog w = .ok true w := fun w => run_eight r10.c x.c l10 hst.out.2 w true (by simpa using hc10)
  have heqb : ∀ w, (Op.equalIn 10000 30 (.agg #[.int .i64 (cx r14.c 0), .int .i64 (cx r14.c 1), .int .i64 (cx r14.c 2), .int .i64 (cx r14.c 3), .int .i64 (cx r14.c 4), .int .i64 (cx r14.c 5), .int .i64 (cx r14.c 6), .int .i64 (cx r14.c 7)]) (.agg #[.int .i64 (cx x.c 0), .int .i64 (cx x.c 1), .int .i64 (cx x.c 2), .int .i64 (cx x.c 3), .int .i64 (cx x.c 4), .int .i64 (cx x.c 5), .int .i64 (cx x.c 6), .int .i64 (cx x.c 7)])).run Tryz.prog w = .ok true w := fun w => run_eight r14.c x.c l14 hst.out.2 w true (by simpa using H14.out)
  have heqc : ∀ w, (Op.equalIn 10000 30 (.agg #[.int .i64 (cx r17.c 0), .int .i64 (cx r17.c 1), .int .i64 (cx r17.c 2), .int .i64 (cx r17.c 3), .int .i64 (cx r17.c 4), .int .i64 (cx r17.c 5), .int .i64 (cx r17.c 6), .int .i64 (cx r17.c 7)]) (.agg #[.int .i64 (cx x.c 0), .int .i64 (cx x.c 1), .int .i64 (cx x.c 2), .int .i64 (cx x.c 3), .int .i64 (cx x.c 4), .int .i64 (cx x.c 5), .int .i64 (cx x.c 6), .int .i64 (cx x.c 7)])).run Tryz.prog w = .ok true w := fun w => run_eight r17.c x.c l17 hst.out.2 w true (by simpa using H17.out)
  have hn10 : (r10.l.next == x.l.next) = true := by rw [H10.out]; simp [Jour.stSave]
  have hf10 : (r10.l.first == x.l.next) = true := by rw [H10.out]; simp [Jour.stSave]
  clear hc10
  go_wp2_with (first
              | (refine list_stJ rfl _ _ rfl rfl rfl (VB.var (vs := [.slice none 0 0, .slice none 0 0, .int .i64 0, .bool false, .slice none 0 0, .slice none 0 0, .int .i64 0, .bool false, .int .i64 0, .slice none 0 0, .slice none 0 0, .int .i64 0, .bool false, .int .i64 0, .int .i64 0, .int .i64 0, .int .i64 0, .int .i64 0, .int .i64 0, .int .i64 0, .int .i64 0, .int .i64 0, .int .i64 0]) (VB.box (new_plain rfl)) rfl) rfl rfl ?_
                 intro w17 hw17
                 have bw17 := hb16.trans (hw17.ab w16 ((Ab.refl w16).alloc _) (Nat.le_refl _))
                 replace V2 := V2.ab bw17
                 replace V10 := V10.ab bw17
                 replace J10 := J10.ab bw17
                 replace V12 := V12.ab bw17
                 replace J12 := J12.ab bw17
                 replace V14 := V14.ab bw17
                 replace J14 := J14.ab bw17
                 replace BW := BW.trans bw17
                 have V17 := hw17.v
                 replace J17 := JM.stored (JM.ab J17 ((Ab.refl w16).alloc _)) hw17
                 clear hw17 hb16 bw17
                 have xq0 := (V2).at 15 rfl
                 have xq1 := (V2).at 16 rfl
                 have xq2 := (V2).at 17 rfl
                 have xq3 := (V2).at 18 rfl
                 have xq4 := (V2).at 19 rfl
                 have xq5 := (V2).at 20 rfl
                 have xq6 := (V2).at 21 rfl
                 have xq7 := (V2).at 22 rfl
                 have yq0 := (V10).at 15 rfl
                 have yq1 := (V10).at 16 rfl
                 have yq2 := (V10).at 17 rfl
                 have yq3 := (V10).at 18 rfl
                 have yq4 := (V10).at 19 rfl
                 have yq5 := (V10).at 20 rfl
                 have yq6 := (V10).at 21 rfl
                 have yq7 := (V10).at 22 rfl
                 have uq0 := (V14).at 15 rfl
                 have uq1 := (V14).at 16 rfl
                 have uq2 := (V14).at 17 rfl
                 have uq3 := (V14).at 18 rfl
                 have uq4 := (V14).at 19 rfl
                 have uq5 := (V14).at 20 rfl
                 have uq6 := (V14).at 21 rfl
                 have uq7 := (V14).at 22 rfl
                 have vq0 := (V17).at 15 rfl
                 have vq1 := (V17).at 16 rfl
                 have vq2 := (V17).at 17 rfl
                 have vq3 := (V17).at 18 rfl
                 have vq4 := (V17).at 19 rfl
                 have vq5 := (V17).at 20 rfl
                 have vq6 := (V17).at 21 rfl
                 have vq7 := (V17).at 22 rfl
                 have zq0 := (V10).at 9 rfl
                 have zq1 := (V10).at 10 rfl
                 have zq2 := (V10).at 11 rfl
                 have zq3 := (V10).at 12 rfl
                 have zq4 := (V10).at 13 rfl
                 have zq5 := (V10).at 14 rfl
                 have tq0 := (V10).at 0 rfl
                 have tq1 := (V10).at 1 rfl
                 have tq2 := (V10).at 2 rfl
                 have tq3 := (V10).at 3 rfl
                 have tq4 := (V10).at 4 rfl
                 have tq5 := (V10).at 5 rfl
                 have tq6 := (V10).at 6 rfl
                 have tq7 := (V10).at 7 rfl
                 have tq8 := (V10).at 8 rfl))
  refine (srcheck_any m10.m r10.s _ (J10.s.ab abA)).mono ?_
  rintro e w18 ⟨er, hr, rfl, hb18⟩
  obtain rfl : er = 0 := hr.out.trans (Slots.check_ok (by rw [H10.out]; exact HS.out.2.op.1.nb))
  clear hr
  go_wp2_with fail
  refine (jalive_true _).mono ?_
  rintro e w19 ⟨rfl, hb19⟩
  go_wp2
  go_ret
  exact ⟨rfl, abA⟩
end Go.Proofs.YthgcfjhnnhigoaaGreat
