/- The texts JFunI, JFunJ, JFunK, JFunL, one behind the other. Own work. -/
import Derived.Test.YthgcfjhnnhigoaaGreatGP
import Derived.Test.YthgcfjhnnhigoaaGreatGT
import Derived.Test.YthgcfjhnnhigoaaGreatGZ
import Derived.Test.YthgcfjhnnhigoaaGreatGU
import Derived.Test.YthgcfjhnnhigoaaGreatGX
set_option linter.unusedVariables false
set_option linter.unusedSimpArgs false
/- New of package journal, walked. Own work. -/
namespace Go.Proofs.YthgcfjhnnhigoaaGreat
open Go.RowKit
open Slots (Sl)

set_option maxRecDepth 100000 in
set_option maxHeartbeats 3200000 in
theorem jnew_any (c : Int) (w : World) :
    Calls Tryz.prog 9 #[.int .i64 c] w (RetJE w (Jour.newM c)) := by
  go_enter Tryz.func9, Tryz.ntmps9
  have hrx : VB (w.alloc (.cells #[.slice none 0 0, .slice none 0 0, .int .i64 0, .bool false, .slice none 0 0, .slice none 0 0, .int .i64 0, .bool false, .int .i64 0, .slice none 0 0, .slice none 0 0, .int .i64 0, .bool false, .int .i64 0, .int .i64 0, .int .i64 0, .int .i64 0, .int .i64 0, .int .i64 0, .int .i64 0, .int .i64 0, .int .i64 0, .int .i64 0] 32 (0, 0))) w.heap.size [.slice none 0 0, .slice none 0 0, .int .i64 0, .bool false, .slice none 0 0, .slice none 0 0, .int .i64 0, .bool false, .int .i64 0, .slice none 0 0, .slice none 0 0, .int .i64 0, .bool false, .int .i64 0, .int .i64 0, .int .i64 0, .int .i64 0, .int .i64 0, .int .i64 0, .int .i64 0, .int .i64 0, .int .i64 0, .int .i64 0] := VB.box (new_plain (by simp))
  go_wp2_with fail
  refine (snew_any c _).mono ?_
  rintro e w1 ⟨r, er, k, hr, rfl, hM, hb1⟩
  have v1 := (hrx.var rfl).ab hb1
  have b1 : Ab w w1 := abA
  have z1 := v1.lt
  have hM1 : SlM w1 (w.heap.size + 1) k r := hM.mono (by simp)
  have HR := Lib.hid hr.out
  clear hr hM hrx hb1
  by_cases hbad : c < 0 ∨ 20000 < c
  · have hx : Slots.new c = (Slots.zero, 2) := if_pos hbad
    have HM := Lib.hid (show Jour.newM c = _ from if_pos hbad)
    rw [hx] at HR
    obtain ⟨rfl, rfl⟩ := Prod.mk.inj HR.out
    clear HR hx hbad
    go_wp2_with (refine list_stJ rfl _ _ rfl rfl rfl (Var.ab v1 abA) rfl rfl ?_; intro w9 h9)
    refine bodyPost_ret (res_J2 Tryz.results9 _ rfl h9.v rfl) rfl ?_
    exact RetJE.zero HM.out.symm (h9.ab w abA (Nat.le_refl _))
  · have hx : Slots.new c = (⟨⟨[], [], c, false⟩, ⟨[], [], c, false⟩, 1⟩, 0) := if_neg hbad
    have HM := Lib.hid (show Jour.newM c = _ from if_neg hbad)
    have HD := Lib.hid (show Disk.new c = _ from if_neg hbad)
    rw [hx] at HR
    obtain ⟨hr, rfl⟩ := Prod.mk.inj HR.out
    have HX := Lib.hid hr
    clear HR hx hbad hr
    go_wp2_with fail
    refine (new_any c _).mono ?_
    rintro e w4 ⟨⟨s4, t4, cp4, dn4⟩, er4, D, E, cd, ce, hr4, rfl, oD, oE, hb4⟩
    dsimp only at oD oE
    have hh := hr4.out.trans HD.out
    obtain ⟨hd, rfl⟩ := Prod.mk.inj hh
    have HE := Lib.hid hd
    have l4 : s4.length ≤ 1000000 ∧ t4.length ≤ 1000000 := by
      injection hd with e1 e2 e3 e4
      subst e1 e2; simp
    clear hr4 hh hd
    have v4 : VB w4 w1.heap.size [.slice k.A r.a.s.length k.ca, .slice k.B r.a.t.length k.cb, .int .i64 r.a.cap, .bool r.a.down, .slice k.C r.b.s.length k.cc, .slice k.D r.b.t.length k.cd, .int .i64 r.b.cap, .bool r.b.down, .int .i64 r.n] := (VB.box (new_plain rfl)).ab hb4
    have b4 : Ab w1 w4 := ((Ab.refl w1).alloc _).trans hb4
    have g4 := v4.lt
    have yq0 := (v4).at 0 rfl
    have yq1 := (v4).at 1 rfl
    have yq2 := (v4).at 2 rfl
    have yq3 := (v4).at 3 rfl
    have yq4 := (v4).at 4 rfl
    have yq5 := (v4).at 5 rfl
    have yq6 := (v4).at 6 rfl
    have yq7 := (v4).at 7 rfl
    have yq8 := (v4).at 8 rfl
    go_wp2_with (refine list_stJ rfl _ _ rfl rfl rfl (Var.ab (v1.ab b4) abA) rfl rfl ?_; intro w9 h9)
    refine bodyPost_ret (res_J2 Tryz.results9 _ rfl h9.v rfl) rfl ?_
    have hM9 : SlM w9 (w.heap.size + 1) k r := h9.m.slm (hM1.ab abA) (Nat.le_refl _)
    have hD9 : RB w9 (w.heap.size + 1) D s4 := h9.m.rb ((oD.rb.mono (by simp; omega)).ab abA) (Nat.le_refl _)
    have hE9 : RB w9 (w.heap.size + 1) E t4 := h9.m.rb ((oE.rb.mono (by simp; omega)).ab abA) (Nat.le_refl _)
    exact ⟨⟨r, ⟨⟨s4, t4, cp4, dn4⟩, 0, 0⟩, Jour.zeros⟩, 0, ⟨k, D, E, cd, ce⟩, Lib.hid (by rw [HM.out, HX.out, HE.out]), rfl, ⟨hM9.zero, ⟨hD9.zero, hE9.zero, oD.le, oE.le, l4.1, l4.2⟩, rfl⟩, h9.ab w abA (Nat.le_refl _)⟩
end Go.Proofs.YthgcfjhnnhigoaaGreat

/- Sync of package journal, walked. Own work. -/
namespace Go.Proofs.YthgcfjhnnhigoaaGreat
open Go.RowKit
open Slots (Sl)

set_option maxRecDepth 100000 in
set_option maxHeartbeats 3200000 in
theorem jsync_any (a : JA) (x : JX) (w : World) (h : JM w a x) (g : Option (List Frame.Rec)) (hi : Wal.Is x.l g) :
    Calls Tryz.prog 16 #[.agg #[.slice a.m.A x.s.a.s.length a.m.ca, .slice a.m.B x.s.a.t.length a.m.cb, .int .i64 x.s.a.cap, .bool x.s.a.down, .slice a.m.C x.s.b.s.length a.m.cc, .slice a.m.D x.s.b.t.length a.m.cd, .int .i64 x.s.b.cap, .bool x.s.b.down, .int .i64 x.s.n, .slice a.A x.l.dev.s.length a.ca, .slice a.B x.l.dev.t.length a.cb, .int .i64 x.l.dev.cap, .bool x.l.dev.down, .int .i64 x.l.first, .int .i64 x.l.next, .int .i64 (cx x.c 0), .int .i64 (cx x.c 1), .int .i64 (cx x.c 2), .int .i64 (cx x.c 3), .int .i64 (cx x.c 4), .int .i64 (cx x.c 5), .int .i64 (cx x.c 6), .int .i64 (cx x.c 7)]] w (RetJE w (Jour.syncM x g)) := by
  go_enter Tryz.func16, Tryz.ntmps16
  have hbx : VB ((w.alloc (.cells #[.slice a.m.A x.s.a.s.length a.m.ca, .slice a.m.B x.s.a.t.length a.m.cb, .int .i64 x.s.a.cap, .bool x.s.a.down, .slice a.m.C x.s.b.s.length a.m.cc, .slice a.m.D x.s.b.t.length a.m.cd, .int .i64 x.s.b.cap, .bool x.s.b.down, .int .i64 x.s.n, .slice a.A x.l.dev.s.length a.ca, .slice a.B x.l.dev.t.length a.cb, .int .i64 x.l.dev.cap, .bool x.l.dev.down, .int .i64 x.l.first, .int .i64 x.l.next, .int .i64 (cx x.c 0), .int .i64 (cx x.c 1), .int .i64 (cx x.c 2), .int .i64 (cx x.c 3), .int .i64 (cx x.c 4), .int .i64 (cx x.c 5), .int .i64 (cx x.c 6), .int .i64 (cx x.c 7)] 32 (0, 0))).alloc (.cells #[.slice none 0 0, .slice none 0 0, .int .i64 0, .bool false, .slice none 0 0, .slice none 0 0, .int .i64 0, .bool false, .int .i64 0, .slice none 0 0, .slice none 0 0, .int .i64 0, .bool false, .int .i64 0, .int .i64 0, .int .i64 0, .int .i64 0, .int .i64 0, .int .i64 0, .int .i64 0, .int .i64 0, .int .i64 0, .int .i64 0] 32 (0, 0))) w.heap.size [.slice a.m.A x.s.a.s.length a.m.ca, .slice a.m.B x.s.a.t.length a.m.cb, .int .i64 x.s.a.cap, .bool x.s.a.down, .slice a.m.C x.s.b.s.length a.m.cc, .slice a.m.D x.s.b.t.length a.m.cd, .int .i64 x.s.b.cap, .bool x.s.b.down, .int .i64 x.s.n, .slice a.A x.l.dev.s.length a.ca, .slice a.B x.l.dev.t.length a.cb, .int .i64 x.l.dev.cap, .bool x.l.dev.down, .int .i64 x.l.first, .int .i64 x.l.next, .int .i64 (cx x.c 0), .int .i64 (cx x.c 1), .int .i64 (cx x.c 2), .int .i64 (cx x.c 3), .int .i64 (cx x.c 4), .int .i64 (cx x.c 5), .int .i64 (cx x.c 6), .int .i64 (cx x.c 7)] := VB.box (old_alloc (new_plain rfl))
  have hrx : VB ((w.alloc (.cells #[.slice a.m.A x.s.a.s.length a.m.ca, .slice a.m.B x.s.a.t.length a.m.cb, .int .i64 x.s.a.cap, .bool x.s.a.down, .slice a.m.C x.s.b.s.length a.m.cc, .slice a.m.D x.s.b.t.length a.m.cd, .int .i64 x.s.b.cap, .bool x.s.b.down, .int .i64 x.s.n, .slice a.A x.l.dev.s.length a.ca, .slice a.B x.l.dev.t.length a.cb, .int .i64 x.l.dev.cap, .bool x.l.dev.down, .int .i64 x.l.first, .int .i64 x.l.next, .int .i64 (cx x.c 0), .int .i64 (cx x.c 1), .int .i64 (cx x.c 2), .int .i64 (cx x.c 3), .int .i64 (cx x.c 4), .int .i64 (cx x.c 5), .int .i64 (cx x.c 6), .int .i64 (cx x.c 7)] 32 (0, 0))).alloc (.cells #[.slice none 0 0, .slice none 0 0, .int .i64 0, .bool false, .slice none 0 0, .slice none 0 0, .int .i64 0, .bool false, .int .i64 0, .slice none 0 0, .slice none 0 0, .int .i64 0, .bool false, .int .i64 0, .int .i64 0, .int .i64 0, .int .i64 0, .int .i64 0, .int .i64 0, .int .i64 0, .int .i64 0, .int .i64 0, .int .i64 0] 32 (0, 0))) (w.heap.size + 1) [.slice none 0 0, .slice none 0 0, .int .i64 0, .bool false, .slice none 0 0, .slice none 0 0, .int .i64 0, .bool false, .int .i64 0, .slice none 0 0, .slice none 0 0, .int .i64 0, .bool false, .int .i64 0, .int .i64 0, .int .i64 0, .int .i64 0, .int .i64 0, .int .i64 0, .int .i64 0, .int .i64 0, .int .i64 0, .int .i64 0] := VB.box (new_plain (by simp))
  have hrv := hrx.var rfl
  go_wp2_with (refine list_ldJ rfl _ rfl rfl (VB.ab hbx abA) rfl ?_)
  refine (jcheck_any a x _ (h.ab abA) g hi).mono ?_
  rintro e w1 ⟨er, hr, rfl, hb1⟩
  have v1 := hbx.ab hb1
  have v2 := hrv.ab hb1
  have b1 : Ab w w1 := abA
  have z2 := v2.lt
  clear hbx hrv hrx hb1
  by_cases he : er = 0
  · obtain ⟨rs, n, c, rfl, hG⟩ := Jour.good_of_check hi (hr.out.symm.trans he)
    have HG := Lib.hid hG
    have HM := Lib.hid (show Jour.syncM x (some rs) = _ from if_neg (by rw [← hr.out, he]; simp))
    obtain rfl : er = 0 := he
    clear hr hG
    have xq0 := (v1).at 9 rfl
    have xq1 := (v1).at 10 rfl
    have xq2 := (v1).at 11 rfl
    have xq3 := (v1).at 12 rfl
    have xq4 := (v1).at 13 rfl
    have xq5 := (v1).at 14 rfl
    go_wp2_with fail
    refine (wsync_any a.A a.B a.ca a.cb x.l.dev.s x.l.dev.t x.l.dev.cap x.l.dev.down x.l.first x.l.next _ (h.l.p.ab abA) (h.l.q.ab abA) h.l.lp h.l.lq h.l.np h.l.nq (some rs) hi).mono ?_
    rintro e w3 ⟨⟨⟨s3, t3, cp3, dn3⟩, f3, n3⟩, er3, D, E, cd, ce, hr3, rfl, oD, oE, hb3⟩
    dsimp only at oD oE
    have hh := hr3.out
    obtain ⟨h3, rfl⟩ := Prod.mk.inj (hh.trans (show Wal.sync x.l (some rs) = (_, 0) from rfl))
    have HL := Lib.hid h3
    have l3 : s3.length ≤ 1000000 ∧ t3.length ≤ 1000000 := by
      have hsz := HG.out.log.room
      simp only [Disk.Dev.size, Jour.JXj] at hsz
      injection h3 with h4 h5
      injection h4 with h6 h7
      subst h6 h7
      simp; omega
    have v3 := v1.ab hb3
    have v4 := v2.ab hb3
    have b3 : Ab w w3 := b1.trans hb3
    have lD := oD.le
    have lE := oE.le
    have z3 := hb3.size
    have oD3 : RB w3 (w.heap.size + 1 + 1) D s3 := oD.rb.mono (by omega)
    have oE3 : RB w3 (w.heap.size + 1 + 1) E t3 := oE.rb.mono (by omega)
    clear hr3 hh h3 oD oE hb3 xq0 xq1 xq2 xq3 xq4 xq5 v1 v2
    have v5 : VB (w3.alloc (.cells #[.slice D s3.length cd, .slice E t3.length ce, .int .i64 cp3, .bool dn3, .int .i64 f3, .int .i64 n3] 29 (0, 0))) w3.heap.size [.slice D s3.length cd, .slice E t3.length ce, .int .i64 cp3, .bool dn3, .int .i64 f3, .int .i64 n3] := VB.box (new_plain rfl)
    have v6 := v3.ab ((Ab.refl w3).alloc (.cells #[.slice D s3.length cd, .slice E t3.length ce, .int .i64 cp3, .bool dn3, .int .i64 f3, .int .i64 n3] 29 (0, 0)))
    have v7 := v4.ab ((Ab.refl w3).alloc (.cells #[.slice D s3.length cd, .slice E t3.length ce, .int .i64 cp3, .bool dn3, .int .i64 f3, .int .i64 n3] 29 (0, 0)))
    go_upto_region 5 with fail
    refine wp_region_held_drew (by kernel_rfl) (S := fun w' => Ab w w' ∧ VB w' w.heap.size [.slice a.m.A x.s.a.s.length a.m.ca, .slice a.m.B x.s.a.t.length a.m.cb, .int .i64 x.s.a.cap, .bool x.s.a.down, .slice a.m.C x.s.b.s.length a.m.cc, .slice a.m.D x.s.b.t.length a.m.cd, .int .i64 x.s.b.cap, .bool x.s.b.down, .int .i64 x.s.n, .slice a.A x.l.dev.s.length a.ca, .slice a.B x.l.dev.t.length a.cb, .int .i64 x.l.dev.cap, .bool x.l.dev.down, .int .i64 x.l.first, .int .i64 x.l.next, .int .i64 (cx x.c 0), .int .i64 (cx x.c 1), .int .i64 (cx x.c 2), .int .i64 (cx x.c 3), .int .i64 (cx x.c 4), .int .i64 (cx x.c 5), .int .i64 (cx x.c 6), .int .i64 (cx x.c 7)] ∧ Var w' (w.heap.size + 1) 23 ∧ VB w' w3.heap.size [.slice D s3.length cd, .slice E t3.length ce, .int .i64 cp3, .bool dn3, .int .i64 f3, .int .i64 n3]) ?_ (fun hHeld => ?_)
    · exact ⟨abA, v6.ab abA, v7.ab abA, v5.ab abA⟩
    (refine rtA 0 ?_ ?_
     (try simp only [Act.put, stA, st0, st1]))
    (refine rtL 1 [.slice a.m.A x.s.a.s.length a.m.ca, .slice a.m.B x.s.a.t.length a.m.cb, .int .i64 x.s.a.cap, .bool x.s.a.down, .slice a.m.C x.s.b.s.length a.m.cc, .slice a.m.D x.s.b.t.length a.m.cd, .int .i64 x.s.b.cap, .bool x.s.b.down, .int .i64 x.s.n] 0 (fun w hSw => VB.rangeAt (hSw.2.1) 0 9) Tryz.underlying27 ?_
     (try simp only [Act.put, stA, st0, st1]))
    (refine rtA 4 ?_ ?_
     (try simp only [Act.put, stA, st0, st1]))
    (refine rtL 5 [.int .i64 (cx x.c 0), .int .i64 (cx x.c 1), .int .i64 (cx x.c 2), .int .i64 (cx x.c 3), .int .i64 (cx x.c 4), .int .i64 (cx x.c 5), .int .i64 (cx x.c 6), .int .i64 (cx x.c 7)] 15 (fun w hSw => VB.rangeAt (hSw.2.1) 15 8) Tryz.underlying30 ?_
     (try simp only [Act.put, stA, st0, st1]))
    (refine rtL 3 [.slice D s3.length cd, .slice E t3.length ce, .int .i64 cp3, .bool dn3, .int .i64 f3, .int .i64 n3] 0 (fun w hSw => VB.rangeAt (hSw.2.2.2) 0 6) Tryz.underlying29 ?_
     (try simp only [Act.put, stA, st0, st1]))
    refine r1A 2 (fun K hK => ?_)
    (go_simp
     ((go_at_call 46)
      refine (copied_any a.m x.s _ (h.s.ab abA) HG.out.op).mono ?_
      rintro e w5 ⟨k, rfl, hM5, hb5⟩)
     (try go_wp2_with fail)
     (refine hK.out _ _ ?_ (fun hHeld => ?_)
      · (try dsimp only); exact ⟨hHeld.1.trans hb5, hHeld.2.1.ab hb5, hHeld.2.2.1.ab hb5, hHeld.2.2.2.ab hb5⟩
      clear hK K
      (try simp only [Act.put, stA, st0, st1])))
    (refine rtA 6 ?_ ?_
     (try simp only [Act.put, stA, st0, st1]))
    refine r1A 7 (fun K hK => ?_)
    ((try simp only [Act.put, List.getElem_toArray, List.getElem_cons_succ, List.getElem_cons_zero, stA, st0, st1])
     refine if_go (by rfl) ?_
     refine wp_stJ _ _ rfl rfl rfl hHeld.2.2.1 rfl rfl ?_
     intro w9 h9
     (refine hK.out _ _ ?_ (fun hHeld => ?_)
      · (try dsimp only); exact ⟨h9.ab w hHeld.1 (by omega), hHeld.2.1.mid h9.m (by omega), h9.v.var rfl, hHeld.2.2.2.mid h9.m (by omega)⟩
      clear hK K
      (try simp only [Act.put, stA, st0, st1])))
    refine r1A 8 (fun K hK => ?_)
    (go_simp
     (refine hK.out _ _ ?_ (fun hHeld => ?_)
      · (try dsimp only); exact hHeld
      clear hK K
      (try simp only [Act.put, stA, st0, st1])))
    refine wpAnyH_done (by kernel_rfl) ?_ _
    go_wp2
    refine bodyPost_ret (res_J2 Tryz.results16 _ rfl h9.v rfl) rfl ?_
    have b5 : Ab w3 w5 := abA
    have hM9 : SlM w9 (w.heap.size + 1 + 1) k x.s := h9.m.slm (hM5.mono (by have := b3.size; simp; omega)) (Nat.le_refl _)
    have hD9 : RB w9 (w.heap.size + 1 + 1) D s3 := h9.m.rb (oD3.ab b5) (Nat.le_refl _)
    have hE9 : RB w9 (w.heap.size + 1 + 1) E t3 := h9.m.rb (oE3.ab b5) (Nat.le_refl _)
    exact ⟨⟨x.s, ⟨⟨s3, t3, cp3, dn3⟩, f3, n3⟩, x.c⟩, 0, ⟨k, D, E, cd, ce⟩, Lib.hid (by rw [HM.out, HL.out]; rfl), rfl, ⟨hM9.zero, ⟨hD9.zero, hE9.zero, lD, lE, l3.1, l3.2⟩, h.hc⟩, h9.ab w (b3.trans b5) (by omega)⟩
  · have HM := Lib.hid (show Jour.syncM x g = _ from if_pos (by rw [← hr.out]; exact he))
    have HE := Lib.hid hr.out
    have hne : (er != 0) = true := by simpa using he
    clear hr he
    go_wp2_with (refine list_stJ rfl _ _ rfl rfl rfl (Var.ab v2 abA) rfl rfl ?_; intro w9 h9)
    refine bodyPost_ret (res_J2 Tryz.results16 _ rfl h9.v rfl) rfl ?_
    exact RetJE.zero (by rw [HM.out, ← HE.out]) (h9.ab w abA (by omega))
end Go.Proofs.YthgcfjhnnhigoaaGreat

/- Do of package journal, walked. Own work. -/
namespace Go.Proofs.YthgcfjhnnhigoaaGreat
open Go.RowKit
open Slots (Sl)

/-- The log's variable behind Append, its number and its error. -/
def LogNow (w : World) (lo : Nat) (m : Wal.Log × Int × Int) (v9 v10 v11 : Value) (wx : World) : Prop :=
  ∃ (P : Nat) (r : Wal.Log) (num er : Int) (D E : Option Addr) (cd ce : Nat), v9 = .int .i64 er ∧ v10 = .pointer (some ⟨P, 0, none⟩) ∧ v11 = .int .i64 num ∧ Hid ((r, num, er) = m) ∧ VB wx P [.slice D r.dev.s.length cd, .slice E r.dev.t.length ce, .int .i64 r.dev.cap, .bool r.dev.down, .int .i64 r.first, .int .i64 r.next] ∧
    lo < P ∧ RB wx lo D r.dev.s ∧ RB wx lo E r.dev.t ∧ r.dev.s.length ≤ cd ∧ r.dev.t.length ≤ ce
/-- A journal's bytes lie in blocks from lo on. -/
structure JFar (w : World) (lo : Nat) (z : JA) (x : JX) : Prop where
  a : RB w lo z.m.A x.s.a.s
  b : RB w lo z.m.B x.s.a.t
  c : RB w lo z.m.C x.s.b.s
  d : RB w lo z.m.D x.s.b.t
  p : RB w lo z.A x.l.dev.s
  q : RB w lo z.B x.l.dev.t
theorem JFar.of {w : World} {lo : Nat} {a : JA} {x : JX} (h : SlM w lo a.m x.s) (p : RB w lo a.A x.l.dev.s) (q : RB w lo a.B x.l.dev.t) : JFar w lo a x := ⟨h.a, h.b, h.c, h.d, p, q⟩
def RetJ3F (w : World) (m : JX × Int × Int) (e : Ending) (w' : World) : Prop :=
  ∃ (r : JX) (num er : Int) (a : JA), Hid ((r, num, er) = m) ∧ e = .returned (.tuple #[.agg #[.slice a.m.A r.s.a.s.length a.m.ca, .slice a.m.B r.s.a.t.length a.m.cb, .int .i64 r.s.a.cap, .bool r.s.a.down, .slice a.m.C r.s.b.s.length a.m.cc, .slice a.m.D r.s.b.t.length a.m.cd, .int .i64 r.s.b.cap, .bool r.s.b.down, .int .i64 r.s.n, .slice a.A r.l.dev.s.length a.ca, .slice a.B r.l.dev.t.length a.cb, .int .i64 r.l.dev.cap, .bool r.l.dev.down, .int .i64 r.l.first, .int .i64 r.l.next, .int .i64 (cx r.c 0), .int .i64 (cx r.c 1), .int .i64 (cx r.c 2), .int .i64 (cx r.c 3), .int .i64 (cx r.c 4), .int .i64 (cx r.c 5), .int .i64 (cx r.c 6), .int .i64 (cx r.c 7)], .int .i64 num, .int .i64 er]) ∧ JM w' a r ∧ JFar w' w.heap.size a r ∧ Ab w w'
theorem rb_nil {w : World} {lo : Nat} {A : Option Addr} : RB w lo A [] := fun h => absurd h (by simp)
theorem RetJ3F.zero {w w' : World} {m : JX × Int × Int} {er : Int} (h : (JX.zero, 0, er) = m) (hb : Ab w w') : RetJ3F w m (.returned (.tuple #[(.agg #[.slice none 0 0, .slice none 0 0, .int .i64 0, .bool false, .slice none 0 0, .slice none 0 0, .int .i64 0, .bool false, .int .i64 0, .slice none 0 0, .slice none 0 0, .int .i64 0, .bool false, .int .i64 0, .int .i64 0, .int .i64 0, .int .i64 0, .int .i64 0, .int .i64 0, .int .i64 0, .int .i64 0, .int .i64 0, .int .i64 0]), .int .i64 0, .int .i64 er])) w' := by
  exact ⟨JX.zero, 0, er, JA.nil, h, rfl, JM.nil, ⟨rb_nil, rb_nil, rb_nil, rb_nil, rb_nil, rb_nil⟩, hb⟩
set_option maxRecDepth 100000 in
set_option maxHeartbeats 6400000 in
theorem jdo_far (a : JA) (x : JX) (w : World) (h : JM w a x) (m : Jour.Move) (g : Option (List Frame.Rec)) (hi : Wal.Is x.l g) :
    Calls Tryz.prog 13 #[.agg #[.slice a.m.A x.s.a.s.length a.m.ca, .slice a.m.B x.s.a.t.length a.m.cb, .int .i64 x.s.a.cap, .bool x.s.a.down, .slice a.m.C x.s.b.s.length a.m.cc, .slice a.m.D x.s.b.t.length a.m.cd, .int .i64 x.s.b.cap, .bool x.s.b.down, .int .i64 x.s.n, .slice a.A x.l.dev.s.length a.ca, .slice a.B x.l.dev.t.length a.cb, .int .i64 x.l.dev.cap, .bool x.l.dev.down, .int .i64 x.l.first, .int .i64 x.l.next, .int .i64 (cx x.c 0), .int .i64 (cx x.c 1), .int .i64 (cx x.c 2), .int .i64 (cx x.c 3), .int .i64 (cx x.c 4), .int .i64 (cx x.c 5), .int .i64 (cx x.c 6), .int .i64 (cx x.c 7)], .agg #[.int .i64 m.cell, .int .i64 m.add]] w (RetJ3F w (Jour.doM x m g)) := by
  go_enter Tryz.func13, Tryz.ntmps13
  have hbx : VB (((w.alloc (.cells #[.slice a.m.A x.s.a.s.length a.m.ca, .slice a.m.B x.s.a.t.length a.m.cb, .int .i64 x.s.a.cap, .bool x.s.a.down, .slice a.m.C x.s.b.s.length a.m.cc, .slice a.m.D x.s.b.t.length a.m.cd, .int .i64 x.s.b.cap, .bool x.s.b.down, .int .i64 x.s.n, .slice a.A x.l.dev.s.length a.ca, .slice a.B x.l.dev.t.length a.cb, .int .i64 x.l.dev.cap, .bool x.l.dev.down, .int .i64 x.l.first, .int .i64 x.l.next, .int .i64 (cx x.c 0), .int .i64 (cx x.c 1), .int .i64 (cx x.c 2), .int .i64 (cx x.c 3), .int .i64 (cx x.c 4), .int .i64 (cx x.c 5), .int .i64 (cx x.c 6), .int .i64 (cx x.c 7)] 32 (0, 0))).alloc (.cells #[.int .i64 m.cell, .int .i64 m.add] 34 (0, 0))).alloc (.cells #[.slice none 0 0, .slice none 0 0, .int .i64 0, .bool false, .slice none 0 0, .slice none 0 0, .int .i64 0, .bool false, .int .i64 0, .slice none 0 0, .slice none 0 0, .int .i64 0, .bool false, .int .i64 0, .int .i64 0, .int .i64 0, .int .i64 0, .int .i64 0, .int .i64 0, .int .i64 0, .int .i64 0, .int .i64 0, .int .i64 0] 32 (0, 0))) w.heap.size [.slice a.m.A x.s.a.s.length a.m.ca, .slice a.m.B x.s.a.t.length a.m.cb, .int .i64 x.s.a.cap, .bool x.s.a.down, .slice a.m.C x.s.b.s.length a.m.cc, .slice a.m.D x.s.b.t.length a.m.cd, .int .i64 x.s.b.cap, .bool x.s.b.down, .int .i64 x.s.n, .slice a.A x.l.dev.s.length a.ca, .slice a.B x.l.dev.t.length a.cb, .int .i64 x.l.dev.cap, .bool x.l.dev.down, .int .i64 x.l.first, .int .i64 x.l.next, .int .i64 (cx x.c 0), .int .i64 (cx x.c 1), .int .i64 (cx x.c 2), .int .i64 (cx x.c 3), .int .i64 (cx x.c 4), .int .i64 (cx x.c 5), .int .i64 (cx x.c 6), .int .i64 (cx x.c 7)] := VB.box (old_alloc (old_alloc (new_plain rfl)))
  have hmx : VB (((w.alloc (.cells #[.slice a.m.A x.s.a.s.length a.m.ca, .slice a.m.B x.s.a.t.length a.m.cb, .int .i64 x.s.a.cap, .bool x.s.a.down, .slice a.m.C x.s.b.s.length a.m.cc, .slice a.m.D x.s.b.t.length a.m.cd, .int .i64 x.s.b.cap, .bool x.s.b.down, .int .i64 x.s.n, .slice a.A x.l.dev.s.length a.ca, .slice a.B x.l.dev.t.length a.cb, .int .i64 x.l.dev.cap, .bool x.l.dev.down, .int .i64 x.l.first, .int .i64 x.l.next, .int .i64 (cx x.c 0), .int .i64 (cx x.c 1), .int .i64 (cx x.c 2), .int .i64 (cx x.c 3), .int .i64 (cx x.c 4), .int .i64 (cx x.c 5), .int .i64 (cx x.c 6), .int .i64 (cx x.c 7)] 32 (0, 0))).alloc (.cells #[.int .i64 m.cell, .int .i64 m.add] 34 (0, 0))).alloc (.cells #[.slice none 0 0, .slice none 0 0, .int .i64 0, .bool false, .slice none 0 0, .slice none 0 0, .int .i64 0, .bool false, .int .i64 0, .slice none 0 0, .slice none 0 0, .int .i64 0, .bool false, .int .i64 0, .int .i64 0, .int .i64 0, .int .i64 0, .int .i64 0, .int .i64 0, .int .i64 0, .int .i64 0, .int .i64 0, .int .i64 0] 32 (0, 0))) (w.heap.size + 1) [.int .i64 m.cell, .int .i64 m.add] := VB.box (old_alloc (new_plain (by simp)))
  have hrx : VB (((w.alloc (.cells #[.slice a.m.A x.s.a.s.length a.m.ca, .slice a.m.B x.s.a.t.length a.m.cb, .int .i64 x.s.a.cap, .bool x.s.a.down, .slice a.m.C x.s.b.s.length a.m.cc, .slice a.m.D x.s.b.t.length a.m.cd, .int .i64 x.s.b.cap, .bool x.s.b.down, .int .i64 x.s.n, .slice a.A x.l.dev.s.length a.ca, .slice a.B x.l.dev.t.length a.cb, .int .i64 x.l.dev.cap, .bool x.l.dev.down, .int .i64 x.l.first, .int .i64 x.l.next, .int .i64 (cx x.c 0), .int .i64 (cx x.c 1), .int .i64 (cx x.c 2), .int .i64 (cx x.c 3), .int .i64 (cx x.c 4), .int .i64 (cx x.c 5), .int .i64 (cx x.c 6), .int .i64 (cx x.c 7)] 32 (0, 0))).alloc (.cells #[.int .i64 m.cell, .int .i64 m.add] 34 (0, 0))).alloc (.cells #[.slice none 0 0, .slice none 0 0, .int .i64 0, .bool false, .slice none 0 0, .slice none 0 0, .int .i64 0, .bool false, .int .i64 0, .slice none 0 0, .slice none 0 0, .int .i64 0, .bool false, .int .i64 0, .int .i64 0, .int .i64 0, .int .i64 0, .int .i64 0, .int .i64 0, .int .i64 0, .int .i64 0, .int .i64 0, .int .i64 0] 32 (0, 0))) (w.heap.size + 2) [.slice none 0 0, .slice none 0 0, .int .i64 0, .bool false, .slice none 0 0, .slice none 0 0, .int .i64 0, .bool false, .int .i64 0, .slice none 0 0, .slice none 0 0, .int .i64 0, .bool false, .int .i64 0, .int .i64 0, .int .i64 0, .int .i64 0, .int .i64 0, .int .i64 0, .int .i64 0, .int .i64 0, .int .i64 0, .int .i64 0] := VB.box (new_plain (by simp))
  have hrv := hrx.var rfl
  go_wp2_with (refine list_ldJ rfl _ rfl rfl (VB.ab hbx abA) rfl ?_)
  refine (jcheck_any a x _ (h.ab abA) g hi).mono ?_
  rintro e w1 ⟨er, hr, rfl, hb1⟩
  have v1 := hbx.ab hb1
  have vm := hmx.ab hb1
  have v2 := hrv.ab hb1
  have b1 : Ab w w1 := abA
  have z2 := v2.lt
  clear hbx hrv hrx hmx hb1
  by_cases he : er = 0
  · obtain ⟨rs, n, c, rfl, hG⟩ := Jour.good_of_check hi (hr.out.symm.trans he)
    have HG := Lib.hid hG
    have HM := Lib.hid (show Jour.doM x m (some rs) = _ from if_neg (by rw [← hr.out, he]; simp))
    obtain rfl : er = 0 := he
    clear hr hG
    have xq0 := (v1).at 15 rfl
    have xq1 := (v1).at 16 rfl
    have xq2 := (v1).at 17 rfl
    have xq3 := (v1).at 18 rfl
    have xq4 := (v1).at 19 rfl
    have xq5 := (v1).at 20 rfl
    have xq6 := (v1).at 21 rfl
    have xq7 := (v1).at 22 rfl
    have mq0 := vm.at 0 rfl
    have mq1 := vm.at 1 rfl
    go_wp2_with fail
    refine (apply_any x.c h.hc _ 1 [m] _ (Mvs.one (by (repeat (first | exact new_plain wnA | with_reducible refine old_alloc ?_ | with_reducible refine old_drew ?_ | with_reducible refine old_set ?_ wnA | with_reducible refine old_ab (by assumption) ?_))) (Nat.zero_le _)) (by simp)).mono ?_
    rintro e w3 ⟨d, er3, hr3, rfl, hdl, hb3⟩
    have v3 := v1.ab (((Ab.refl w1).alloc _).trans hb3)
    have vn := vm.ab (((Ab.refl w1).alloc _).trans hb3)
    have v4 := v2.ab (((Ab.refl w1).alloc _).trans hb3)
    have b3 : Ab w w3 := b1.trans (((Ab.refl w1).alloc _).trans hb3)
    have HD := Lib.hid hr3.out
    have z3 := v4.lt
    clear hr3 hb3 xq0 xq1 xq2 xq3 xq4 xq5 xq6 xq7 mq0 mq1 v1 vm v2
    by_cases he3 : er3 = 0
    · obtain rfl : er3 = 0 := he3
      have HV := Lib.hid (Jour.apply_valid (show (Jour.apply x.c [m]).2 = 0 by rw [← HD.out]) m (by simp))
      have HX := Lib.hid (HM.out.trans (if_neg (by rw [← HD.out]; simp)))
      have v5 : VB (w3.alloc (.cells #[.int .i64 (cx d 0), .int .i64 (cx d 1), .int .i64 (cx d 2), .int .i64 (cx d 3), .int .i64 (cx d 4), .int .i64 (cx d 5), .int .i64 (cx d 6), .int .i64 (cx d 7)] 30 (0, 0))) w3.heap.size [.int .i64 (cx d 0), .int .i64 (cx d 1), .int .i64 (cx d 2), .int .i64 (cx d 3), .int .i64 (cx d 4), .int .i64 (cx d 5), .int .i64 (cx d 6), .int .i64 (cx d 7)] := VB.box (new_plain rfl)
      have b5 : Ab w3 (w3.alloc (.cells #[.int .i64 (cx d 0), .int .i64 (cx d 1), .int .i64 (cx d 2), .int .i64 (cx d 3), .int .i64 (cx d 4), .int .i64 (cx d 5), .int .i64 (cx d 6), .int .i64 (cx d 7)] 30 (0, 0))) := (Ab.refl w3).alloc _
      go_upto_region 7 with fail
      go_cut [9, 10, 11] (fun v9 v10 v11 wx => LogNow w w3.heap.size (Wal.append x.l (Jour.written m) (some rs)) v9 v10 v11 wx ∧ (Ab w wx ∧ VB wx w.heap.size [.slice a.m.A x.s.a.s.length a.m.ca, .slice a.m.B x.s.a.t.length a.m.cb, .int .i64 x.s.a.cap, .bool x.s.a.down, .slice a.m.C x.s.b.s.length a.m.cc, .slice a.m.D x.s.b.t.length a.m.cd, .int .i64 x.s.b.cap, .bool x.s.b.down, .int .i64 x.s.n, .slice a.A x.l.dev.s.length a.ca, .slice a.B x.l.dev.t.length a.cb, .int .i64 x.l.dev.cap, .bool x.l.dev.down, .int .i64 x.l.first, .int .i64 x.l.next, .int .i64 (cx x.c 0), .int .i64 (cx x.c 1), .int .i64 (cx x.c 2), .int .i64 (cx x.c 3), .int .i64 (cx x.c 4), .int .i64 (cx x.c 5), .int .i64 (cx x.c 6), .int .i64 (cx x.c 7)] ∧ VB wx (w.heap.size + 1) [.int .i64 m.cell, .int .i64 m.add] ∧ Var wx (w.heap.size + 2) 23 ∧ VB wx w3.heap.size [.int .i64 (cx d 0), .int .i64 (cx d 1), .int .i64 (cx d 2), .int .i64 (cx d 3), .int .i64 (cx d 4), .int .i64 (cx d 5), .int .i64 (cx d 6), .int .i64 (cx d 7)] ∧ w3.heap.size < wx.heap.size))
      case first =>
        refine wp_region_held_drew (by kernel_rfl) (S := fun w' => (Ab w w' ∧ VB w' w.heap.size [.slice a.m.A x.s.a.s.length a.m.ca, .slice a.m.B x.s.a.t.length a.m.cb, .int .i64 x.s.a.cap, .bool x.s.a.down, .slice a.m.C x.s.b.s.length a.m.cc, .slice a.m.D x.s.b.t.length a.m.cd, .int .i64 x.s.b.cap, .bool x.s.b.down, .int .i64 x.s.n, .slice a.A x.l.dev.s.length a.ca, .slice a.B x.l.dev.t.length a.cb, .int .i64 x.l.dev.cap, .bool x.l.dev.down, .int .i64 x.l.first, .int .i64 x.l.next, .int .i64 (cx x.c 0), .int .i64 (cx x.c 1), .int .i64 (cx x.c 2), .int .i64 (cx x.c 3), .int .i64 (cx x.c 4), .int .i64 (cx x.c 5), .int .i64 (cx x.c 6), .int .i64 (cx x.c 7)] ∧ VB w' (w.heap.size + 1) [.int .i64 m.cell, .int .i64 m.add] ∧ Var w' (w.heap.size + 2) 23 ∧ VB w' w3.heap.size [.int .i64 (cx d 0), .int .i64 (cx d 1), .int .i64 (cx d 2), .int .i64 (cx d 3), .int .i64 (cx d 4), .int .i64 (cx d 5), .int .i64 (cx d 6), .int .i64 (cx d 7)] ∧ w3.heap.size < w'.heap.size)) ?_ (fun hHeld => ?_)
        · exact ⟨abA, (v3.ab b5).ab abA, (vn.ab b5).ab abA, (v4.ab b5).ab abA, v5.ab abA, by simp⟩
        (refine rtA 0 ?_ ?_
         (try simp only [Act.put, stA, st0, st1]))
        (refine rtL 1 [.slice a.A x.l.dev.s.length a.ca, .slice a.B x.l.dev.t.length a.cb, .int .i64 x.l.dev.cap, .bool x.l.dev.down, .int .i64 x.l.first, .int .i64 x.l.next] 9 (fun w hSw => VB.rangeAt (hSw.2.1) 9 6) Tryz.underlying29 ?_
         (try simp only [Act.put, stA, st0, st1]))
        (refine rtL 2 [.int .i64 m.cell, .int .i64 m.add] 0 (fun w hSw => VB.rangeAt (hSw.2.2.1) 0 2) Tryz.underlying34 ?_
         (try simp only [Act.put, stA, st0, st1]))
        (refine wpAnyH_ready (rs := [3, 9]) (by kernel_rfl) (by simp) ?_)
        refine AllReadyH.cons rfl (fun K hK => ?_) (AllReadyH.cons rfl (fun K hK => ?_) AllReadyH.nil)
        · (go_simp
           ((go_at_call 45)
            refine (encm_any m HV.out _).mono ?_
            rintro e w5 ⟨X, cX, LX, hLX, rfl, hX, hcX, hb5⟩)
           (try go_wp2_with fail)
           (refine hK.out _ _ ?_ (fun hHeld => ?_)
            · (try dsimp only); exact ⟨hHeld.1.trans hb5, hHeld.2.1.ab hb5, hHeld.2.2.1.ab hb5, hHeld.2.2.2.1.ab hb5, hHeld.2.2.2.2.1.ab hb5, Nat.lt_of_lt_of_le hHeld.2.2.2.2.2 (hb5).size⟩
            clear hK K
            (try simp only [Act.put, stA, st0, st1])))
          (refine wpAnyH_ready (rs := [4, 9]) (by kernel_rfl) (by simp) ?_)
          refine AllReadyH.cons rfl (fun K hK => ?_) (AllReadyH.cons rfl (fun K hK => ?_) AllReadyH.nil)
          · (go_simp
             ((go_at_call 44)
              refine (wappend_any a.A a.B a.ca a.cb x.l.dev.s x.l.dev.t x.l.dev.cap x.l.dev.down x.l.first x.l.next _ (h.l.p.ab hHeld.1) (h.l.q.ab hHeld.1) h.l.lp h.l.lq h.l.np h.l.nq (some rs) hi X cX LX (hX.zero.ab abA) hcX (by rw [hLX.out, Jour.written_length]; omega)).mono ?_
              rintro e w6 ⟨⟨⟨s6, t6, cp6, dn6⟩, f6, n6⟩, num, er6, D, E, cd, ce, hr6, rfl, oD, oE, hb6⟩
              dsimp only at oD oE)
             (try go_wp2_with fail)
             (refine hK.out _ _ ?_ (fun hHeld => ?_)
              · (try dsimp only); exact ⟨hHeld.1.trans hb6, hHeld.2.1.ab hb6, hHeld.2.2.1.ab hb6, hHeld.2.2.2.1.ab hb6, hHeld.2.2.2.2.1.ab hb6, Nat.lt_of_lt_of_le hHeld.2.2.2.2.2 (hb6).size⟩
              clear hK K
              (try simp only [Act.put, stA, st0, st1])))
            (refine rtA 5 ?_ ?_
             (try simp only [Act.put, stA, st0, st1]))
            (refine rtA 6 ?_ ?_
             (try simp only [Act.put, stA, st0, st1]))
            (refine rtA 7 ?_ ?_
             (try simp only [Act.put, stA, st0, st1]))
            (refine rtA 8 ?_ ?_
             (try simp only [Act.put, stA, st0, st1]))
            refine r1A 9 (fun K hK => ?_)
            have A6 := (Ab.refl w6).alloc (.cells #[.slice none 0 0, .slice none 0 0, .int .i64 0, .bool false, .int .i64 0, .int .i64 0] 29 (0, 0))
            have v6 : Var (w6.alloc (.cells #[.slice none 0 0, .slice none 0 0, .int .i64 0, .bool false, .int .i64 0, .int .i64 0] 29 (0, 0))) (w6.heap.size) 6 := VB.var (vs := [.slice none 0 0, .slice none 0 0, .int .i64 0, .bool false, .int .i64 0, .int .i64 0]) (VB.box (new_plain (by first | rfl | simp))) rfl
            have P6 : w3.heap.size < w6.heap.size := by first | exact hHeld.2.2.2.2.2 | omega
            (go_simp
             (refine hK.out _ _ ?_ (fun hHeld => ?_)
              · (try dsimp only); exact ⟨hHeld.1.trans A6, hHeld.2.1.ab A6, hHeld.2.2.1.ab A6, hHeld.2.2.2.1.ab A6, hHeld.2.2.2.2.1.ab A6, Nat.lt_of_lt_of_le hHeld.2.2.2.2.2 (A6).size⟩
              clear hK K
              (try simp only [Act.put, stA, st0, st1])))
            refine r1A 10 (fun K hK => ?_)
            (try simp only [Act.put, List.getElem_toArray, List.getElem_cons_succ, List.getElem_cons_zero, stA, st0, st1])
            refine if_go (by rfl) ?_
            refine wp_stV 29 infoL _ _ rfl rfl rfl v6 rfl rfl ?_
            intro w7 h7
            (refine hK.out _ _ ?_ (fun hHeld => ?_)
             · (try dsimp only); exact ⟨h7.ab w hHeld.1 (by have := b3.size; omega), hHeld.2.1.mid h7.m (by have := b3.size; omega), hHeld.2.2.1.mid h7.m (by have := b3.size; omega), hHeld.2.2.2.1.mid h7.m (by omega), hHeld.2.2.2.2.1.mid h7.m (by omega), by rw [h7.sz]; exact hHeld.2.2.2.2.2⟩
             clear hK K
             (try simp only [Act.put, stA, st0, st1]))
            refine r1A 11 (fun K hK => ?_)
            (go_simp
             (refine hK.out _ _ ?_ (fun hHeld => ?_)
              · (try dsimp only); exact hHeld
              clear hK K
              (try simp only [Act.put, stA, st0, st1])))
            refine r1A 12 (fun K hK => ?_)
            (go_simp
             (refine hK.out _ _ ?_ (fun hHeld => ?_)
              · (try dsimp only); exact hHeld
              clear hK K
              (try simp only [Act.put, stA, st0, st1])))
            refine wpAnyH_done (by kernel_rfl) ?_ _
            go_wp2_with fail
            go_meet
            exact ⟨⟨_, ⟨⟨s6, t6, cp6, dn6⟩, f6, n6⟩, num, er6, D, E, cd, ce, rfl, rfl, rfl, Lib.hid (by rw [hr6.out, hLX.out]), h7.v, P6, h7.rb _ _ _ ((oD.rb.mono (by have := hb5.size; first | omega | (simp; omega))).ab A6), h7.rb _ _ _ ((oE.rb.mono (by have := hb5.size; first | omega | (simp; omega))).ab A6), oD.le, oE.le⟩, hHeld⟩
          · have A6 := (Ab.refl w5).alloc (.cells #[.slice none 0 0, .slice none 0 0, .int .i64 0, .bool false, .int .i64 0, .int .i64 0] 29 (0, 0))
            have v6 : Var (w5.alloc (.cells #[.slice none 0 0, .slice none 0 0, .int .i64 0, .bool false, .int .i64 0, .int .i64 0] 29 (0, 0))) (w5.heap.size) 6 := VB.var (vs := [.slice none 0 0, .slice none 0 0, .int .i64 0, .bool false, .int .i64 0, .int .i64 0]) (VB.box (new_plain (by first | rfl | simp))) rfl
            have P6 : w3.heap.size < w5.heap.size := by first | exact hHeld.2.2.2.2.2 | omega
            (go_simp
             (refine hK.out _ _ ?_ (fun hHeld => ?_)
              · (try dsimp only); exact ⟨hHeld.1.trans A6, hHeld.2.1.ab A6, hHeld.2.2.1.ab A6, hHeld.2.2.2.1.ab A6, hHeld.2.2.2.2.1.ab A6, Nat.lt_of_lt_of_le hHeld.2.2.2.2.2 (A6).size⟩
              clear hK K
              (try simp only [Act.put, stA, st0, st1])))
            refine r1A 4 (fun K hK => ?_)
            (go_simp
             ((go_at_call 44)
              refine (wappend_any a.A a.B a.ca a.cb x.l.dev.s x.l.dev.t x.l.dev.cap x.l.dev.down x.l.first x.l.next _ (h.l.p.ab hHeld.1) (h.l.q.ab hHeld.1) h.l.lp h.l.lq h.l.np h.l.nq (some rs) hi X cX LX (hX.zero.ab abA) hcX (by rw [hLX.out, Jour.written_length]; omega)).mono ?_
              rintro e w6 ⟨⟨⟨s6, t6, cp6, dn6⟩, f6, n6⟩, num, er6, D, E, cd, ce, hr6, rfl, oD, oE, hb6⟩
              dsimp only at oD oE)
             (try go_wp2_with fail)
             (refine hK.out _ _ ?_ (fun hHeld => ?_)
              · (try dsimp only); exact ⟨hHeld.1.trans hb6, hHeld.2.1.ab hb6, hHeld.2.2.1.ab hb6, hHeld.2.2.2.1.ab hb6, hHeld.2.2.2.2.1.ab hb6, Nat.lt_of_lt_of_le hHeld.2.2.2.2.2 (hb6).size⟩
              clear hK K
              (try simp only [Act.put, stA, st0, st1])))
            (refine rtA 5 ?_ ?_
             (try simp only [Act.put, stA, st0, st1]))
            (refine rtA 6 ?_ ?_
             (try simp only [Act.put, stA, st0, st1]))
            (refine rtA 7 ?_ ?_
             (try simp only [Act.put, stA, st0, st1]))
            (refine rtA 8 ?_ ?_
             (try simp only [Act.put, stA, st0, st1]))
            have v8 := v6.ab hb6
            refine r1A 10 (fun K hK => ?_)
            (try simp only [Act.put, List.getElem_toArray, List.getElem_cons_succ, List.getElem_cons_zero, stA, st0, st1])
            refine if_go (by rfl) ?_
            refine wp_stV 29 infoL _ _ rfl rfl rfl v8 rfl rfl ?_
            intro w7 h7
            (refine hK.out _ _ ?_ (fun hHeld => ?_)
             · (try dsimp only); exact ⟨h7.ab w hHeld.1 (by have := b3.size; omega), hHeld.2.1.mid h7.m (by have := b3.size; omega), hHeld.2.2.1.mid h7.m (by have := b3.size; omega), hHeld.2.2.2.1.mid h7.m (by omega), hHeld.2.2.2.2.1.mid h7.m (by omega), by rw [h7.sz]; exact hHeld.2.2.2.2.2⟩
             clear hK K
             (try simp only [Act.put, stA, st0, st1]))
            refine r1A 11 (fun K hK => ?_)
            (go_simp
             (refine hK.out _ _ ?_ (fun hHeld => ?_)
              · (try dsimp only); exact hHeld
              clear hK K
              (try simp only [Act.put, stA, st0, st1])))
            refine r1A 12 (fun K hK => ?_)
            (go_simp
             (refine hK.out _ _ ?_ (fun hHeld => ?_)
              · (try dsimp only); exact hHeld
              clear hK K
              (try simp only [Act.put, stA, st0, st1])))
            refine wpAnyH_done (by kernel_rfl) ?_ _
            go_wp2_with fail
            go_meet
            exact ⟨⟨_, ⟨⟨s6, t6, cp6, dn6⟩, f6, n6⟩, num, er6, D, E, cd, ce, rfl, rfl, rfl, Lib.hid (by rw [hr6.out, hLX.out]), h7.v, P6, h7.rb _ _ _ ((oD.rb.mono (by have := hb5.size; first | omega | (simp; omega))).ab (Ab.refl _)), h7.rb _ _ _ ((oE.rb.mono (by have := hb5.size; first | omega | (simp; omega))).ab (Ab.refl _)), oD.le, oE.le⟩, hHeld⟩
        · have A6 := (Ab.refl (w3.alloc (.cells #[.int .i64 (cx d 0), .int .i64 (cx d 1), .int .i64 (cx d 2), .int .i64 (cx d 3), .int .i64 (cx d 4), .int .i64 (cx d 5), .int .i64 (cx d 6), .int .i64 (cx d 7)] 30 (0, 0))).drew).alloc (.cells #[.slice none 0 0, .slice none 0 0, .int .i64 0, .bool false, .int .i64 0, .int .i64 0] 29 (0, 0))
          have v6 : Var ((w3.alloc (.cells #[.int .i64 (cx d 0), .int .i64 (cx d 1), .int .i64 (cx d 2), .int .i64 (cx d 3), .int .i64 (cx d 4), .int .i64 (cx d 5), .int .i64 (cx d 6), .int .i64 (cx d 7)] 30 (0, 0))).drew.alloc (.cells #[.slice none 0 0, .slice none 0 0, .int .i64 0, .bool false, .int .i64 0, .int .i64 0] 29 (0, 0))) (w3.heap.size + 1) 6 := VB.var (vs := [.slice none 0 0, .slice none 0 0, .int .i64 0, .bool false, .int .i64 0, .int .i64 0]) (VB.box (new_plain (by first | rfl | simp))) rfl
          have P6 : w3.heap.size < w3.heap.size + 1 := by first | exact hHeld.2.2.2.2.2 | omega
          (go_simp
           (refine hK.out _ _ ?_ (fun hHeld => ?_)
            · (try dsimp only); exact ⟨hHeld.1.trans A6, hHeld.2.1.ab A6, hHeld.2.2.1.ab A6, hHeld.2.2.2.1.ab A6, hHeld.2.2.2.2.1.ab A6, Nat.lt_of_lt_of_le hHeld.2.2.2.2.2 (A6).size⟩
            clear hK K
            (try simp only [Act.put, stA, st0, st1])))
          refine r1A 3 (fun K hK => ?_)
          (go_simp
           ((go_at_call 45)
            refine (encm_any m HV.out _).mono ?_
            rintro e w5 ⟨X, cX, LX, hLX, rfl, hX, hcX, hb5⟩)
           (try go_wp2_with fail)
           (refine hK.out _ _ ?_ (fun hHeld => ?_)
            · (try dsimp only); exact ⟨hHeld.1.trans hb5, hHeld.2.1.ab hb5, hHeld.2.2.1.ab hb5, hHeld.2.2.2.1.ab hb5, hHeld.2.2.2.2.1.ab hb5, Nat.lt_of_lt_of_le hHeld.2.2.2.2.2 (hb5).size⟩
            clear hK K
            (try simp only [Act.put, stA, st0, st1])))
          refine r1A 4 (fun K hK => ?_)
          (go_simp
           ((go_at_call 44)
            refine (wappend_any a.A a.B a.ca a.cb x.l.dev.s x.l.dev.t x.l.dev.cap x.l.dev.down x.l.first x.l.next _ (h.l.p.ab hHeld.1) (h.l.q.ab hHeld.1) h.l.lp h.l.lq h.l.np h.l.nq (some rs) hi X cX LX (hX.zero.ab abA) hcX (by rw [hLX.out, Jour.written_length]; omega)).mono ?_
            rintro e w6 ⟨⟨⟨s6, t6, cp6, dn6⟩, f6, n6⟩, num, er6, D, E, cd, ce, hr6, rfl, oD, oE, hb6⟩
            dsimp only at oD oE)
           (try go_wp2_with fail)
           (refine hK.out _ _ ?_ (fun hHeld => ?_)
            · (try dsimp only); exact ⟨hHeld.1.trans hb6, hHeld.2.1.ab hb6, hHeld.2.2.1.ab hb6, hHeld.2.2.2.1.ab hb6, hHeld.2.2.2.2.1.ab hb6, Nat.lt_of_lt_of_le hHeld.2.2.2.2.2 (hb6).size⟩
            clear hK K
            (try simp only [Act.put, stA, st0, st1])))
          (refine rtA 5 ?_ ?_
           (try simp only [Act.put, stA, st0, st1]))
          (refine rtA 6 ?_ ?_
           (try simp only [Act.put, stA, st0, st1]))
          (refine rtA 7 ?_ ?_
           (try simp only [Act.put, stA, st0, st1]))
          (refine rtA 8 ?_ ?_
           (try simp only [Act.put, stA, st0, st1]))
          have v8 := v6.ab (hb5.trans hb6)
          refine r1A 10 (fun K hK => ?_)
          (try simp only [Act.put, List.getElem_toArray, List.getElem_cons_succ, List.getElem_cons_zero, stA, st0, st1])
          refine if_go (by rfl) ?_
          refine wp_stV 29 infoL _ _ rfl rfl rfl v8 rfl rfl ?_
          intro w7 h7
          (refine hK.out _ _ ?_ (fun hHeld => ?_)
           · (try dsimp only); exact ⟨h7.ab w hHeld.1 (by have := b3.size; omega), hHeld.2.1.mid h7.m (by have := b3.size; omega), hHeld.2.2.1.mid h7.m (by have := b3.size; omega), hHeld.2.2.2.1.mid h7.m (by omega), hHeld.2.2.2.2.1.mid h7.m (by omega), by rw [h7.sz]; exact hHeld.2.2.2.2.2⟩
           clear hK K
           (try simp only [Act.put, stA, st0, st1]))
          refine r1A 11 (fun K hK => ?_)
          (go_simp
           (refine hK.out _ _ ?_ (fun hHeld => ?_)
            · (try dsimp only); exact hHeld
            clear hK K
            (try simp only [Act.put, stA, st0, st1])))
          refine r1A 12 (fun K hK => ?_)
          (go_simp
           (refine hK.out _ _ ?_ (fun hHeld => ?_)
            · (try dsimp only); exact hHeld
            clear hK K
            (try simp only [Act.put, stA, st0, st1])))
          refine wpAnyH_done (by kernel_rfl) ?_ _
          go_wp2_with fail
          go_meet
          exact ⟨⟨_, ⟨⟨s6, t6, cp6, dn6⟩, f6, n6⟩, num, er6, D, E, cd, ce, rfl, rfl, rfl, Lib.hid (by rw [hr6.out, hLX.out]), h7.v, P6, h7.rb _ _ _ ((oD.rb.mono (by have := hb5.size; first | omega | (simp; omega))).ab (Ab.refl _)), h7.rb _ _ _ ((oE.rb.mono (by have := hb5.size; first | omega | (simp; omega))).ab (Ab.refl _)), oD.le, oE.le⟩, hHeld⟩
      obtain ⟨⟨P, ⟨⟨s6, t6, cp6, dn6⟩, f6, n6⟩, num, er6, D, E, cd, ce, rfl, rfl, rfl, hr6, vP, hP, hD, hE, lD, lE⟩, bW, vJ, vM, vR, vC, hsz⟩ := hcut
      dsimp only at vP hD hE lD lE
      by_cases he6 : er6 = 0
      · obtain rfl : er6 = 0 := he6
        have HY := Lib.hid (HX.out.trans (if_neg (by rw [← hr6.out]; simp)))
        have HS := Lib.hid (Jour.append_small HG.out.log hr6.out)
        clear b5 v3 vn v4 v5 b3 b1
        go_upto_region 10 with fail
        refine wp_region_held_drew (by kernel_rfl) (S := fun w' => Ab w w' ∧ VB w' w.heap.size [.slice a.m.A x.s.a.s.length a.m.ca, .slice a.m.B x.s.a.t.length a.m.cb, .int .i64 x.s.a.cap, .bool x.s.a.down, .slice a.m.C x.s.b.s.length a.m.cc, .slice a.m.D x.s.b.t.length a.m.cd, .int .i64 x.s.b.cap, .bool x.s.b.down, .int .i64 x.s.n, .slice a.A x.l.dev.s.length a.ca, .slice a.B x.l.dev.t.length a.cb, .int .i64 x.l.dev.cap, .bool x.l.dev.down, .int .i64 x.l.first, .int .i64 x.l.next, .int .i64 (cx x.c 0), .int .i64 (cx x.c 1), .int .i64 (cx x.c 2), .int .i64 (cx x.c 3), .int .i64 (cx x.c 4), .int .i64 (cx x.c 5), .int .i64 (cx x.c 6), .int .i64 (cx x.c 7)] ∧ Var w' (w.heap.size + 2) 23 ∧ VB w' P [.slice D s6.length cd, .slice E t6.length ce, .int .i64 cp6, .bool dn6, .int .i64 f6, .int .i64 n6] ∧ VB w' w3.heap.size [.int .i64 (cx d 0), .int .i64 (cx d 1), .int .i64 (cx d 2), .int .i64 (cx d 3), .int .i64 (cx d 4), .int .i64 (cx d 5), .int .i64 (cx d 6), .int .i64 (cx d 7)]) ?_ (fun hHeld => ?_)
        · exact ⟨abA, vJ.ab abA, vR.ab abA, vP.ab abA, vC.ab abA⟩
        (refine rtA 0 ?_ ?_
         (try simp only [Act.put, stA, st0, st1]))
        (refine rtL 1 [.slice a.m.A x.s.a.s.length a.m.ca, .slice a.m.B x.s.a.t.length a.m.cb, .int .i64 x.s.a.cap, .bool x.s.a.down, .slice a.m.C x.s.b.s.length a.m.cc, .slice a.m.D x.s.b.t.length a.m.cd, .int .i64 x.s.b.cap, .bool x.s.b.down, .int .i64 x.s.n] 0 (fun w hSw => VB.rangeAt (hSw.2.1) 0 9) Tryz.underlying27 ?_
         (try simp only [Act.put, stA, st0, st1]))
        (refine rtL 3 [.slice D s6.length cd, .slice E t6.length ce, .int .i64 cp6, .bool dn6, .int .i64 f6, .int .i64 n6] 0 (fun w hSw => VB.rangeAt (hSw.2.2.2.1) 0 6) Tryz.underlying29 ?_
         (try simp only [Act.put, stA, st0, st1]))
        (refine rtL 4 [.int .i64 (cx d 0), .int .i64 (cx d 1), .int .i64 (cx d 2), .int .i64 (cx d 3), .int .i64 (cx d 4), .int .i64 (cx d 5), .int .i64 (cx d 6), .int .i64 (cx d 7)] 0 (fun w hSw => VB.rangeAt (hSw.2.2.2.2) 0 8) Tryz.underlying30 ?_
         (try simp only [Act.put, stA, st0, st1]))
        (refine rtA 6 ?_ ?_
         (try simp only [Act.put, stA, st0, st1]))
        refine r1A 2 (fun K hK => ?_)
        (go_simp
         ((go_at_call 46)
          refine (copied_any a.m x.s _ (h.s.ab abA) HG.out.op).mono ?_
          rintro e w5 ⟨k, rfl, hM5, hb5⟩)
         (try go_wp2_with fail)
         (refine hK.out _ _ ?_ (fun hHeld => ?_)
          · (try dsimp only); exact ⟨hHeld.1.trans hb5, hHeld.2.1.ab hb5, hHeld.2.2.1.ab hb5, hHeld.2.2.2.1.ab hb5, hHeld.2.2.2.2.ab hb5⟩
          clear hK K
          (try simp only [Act.put, stA, st0, st1])))
        (refine rtA 5 ?_ ?_
         (try simp only [Act.put, stA, st0, st1]))
        refine r1A 7 (fun K hK => ?_)
        ((try simp only [Act.put, List.getElem_toArray, List.getElem_cons_succ, List.getElem_cons_zero, stA, st0, st1])
         refine if_go (by rfl) ?_
         refine wp_stJ _ _ rfl rfl rfl hHeld.2.2.1 rfl rfl ?_
         intro w9 h9
         (refine hK.out _ _ ?_ (fun hHeld => ?_)
          · (try dsimp only); exact ⟨h9.ab w hHeld.1 (by omega), hHeld.2.1.mid h9.m (by omega), h9.v.var rfl, hHeld.2.2.2.1.mid h9.m (by omega), hHeld.2.2.2.2.mid h9.m (by omega)⟩
          clear hK K
          (try simp only [Act.put, stA, st0, st1])))
        refine r1A 8 (fun K hK => ?_)
        (go_simp
         (refine hK.out _ _ ?_ (fun hHeld => ?_)
          · (try dsimp only); exact hHeld
          clear hK K
          (try simp only [Act.put, stA, st0, st1])))
        refine r1A 9 (fun K hK => ?_)
        (go_simp
         (refine hK.out _ _ ?_ (fun hHeld => ?_)
          · (try dsimp only); exact hHeld
          clear hK K
          (try simp only [Act.put, stA, st0, st1])))
        refine wpAnyH_done (by kernel_rfl) ?_ _
        go_wp2
        refine bodyPost_ret (res_J3 Tryz.results13 _ rfl h9.v rfl) rfl ?_
        have b6 : Ab wc w5 := abA
        exact ⟨⟨x.s, ⟨⟨s6, t6, cp6, dn6⟩, f6, n6⟩, d⟩, num, 0, ⟨k, D, E, cd, ce⟩, Lib.hid (by rw [HY.out, ← hr6.out, ← HD.out]), rfl, ⟨h9.slm hM5.zero, ⟨h9.rb _ _ _ (hD.zero.ab b6), h9.rb _ _ _ (hE.zero.ab b6), lD, lE, HS.out.1, HS.out.2⟩, hdl⟩, JFar.of (h9.slm (hM5.mono (by have := bW.size; first | omega | (simp; omega)))) (h9.rb _ _ _ ((hD.mono (by omega)).ab b6)) (h9.rb _ _ _ ((hE.mono (by omega)).ab b6)), h9.ab w (bW.trans b6) (by omega)⟩
      · have HY := Lib.hid (show Jour.doM x m (some rs) = (JX.zero, 0, er6) by rw [HX.out, ← hr6.out]; exact if_pos he6)
        have hne : (er6 != 0) = true := by simpa using he6
        clear he6 hr6
        go_wp2_with (refine list_stJ rfl _ _ rfl rfl rfl (Var.ab vR abA) rfl rfl ?_; intro w9 h9)
        refine bodyPost_ret (res_J3 Tryz.results13 _ rfl h9.v rfl) rfl ?_
        exact RetJ3F.zero HY.out.symm (h9.ab w abA (by omega))
    · have HX := Lib.hid (show Jour.doM x m (some rs) = (JX.zero, 0, er3) by rw [HM.out, ← HD.out]; exact if_pos he3)
      have hne : (er3 != 0) = true := by simpa using he3
      clear he3 HD
      go_wp2_with (refine list_stJ rfl _ _ rfl rfl rfl (Var.ab v4 abA) rfl rfl ?_; intro w9 h9)
      refine bodyPost_ret (res_J3 Tryz.results13 _ rfl h9.v rfl) rfl ?_
      exact RetJ3F.zero HX.out.symm (h9.ab w abA (by omega))
  · have HM := Lib.hid (show Jour.doM x m g = _ from if_pos (by rw [← hr.out]; exact he))
    have HE := Lib.hid hr.out
    have hne : (er != 0) = true := by simpa using he
    clear hr he
    go_wp2_with (refine list_stJ rfl _ _ rfl rfl rfl (Var.ab v2 abA) rfl rfl ?_; intro w9 h9)
    refine bodyPost_ret (res_J3 Tryz.results13 _ rfl h9.v rfl) rfl ?_
    exact RetJ3F.zero (by rw [HM.out, ← HE.out]) (h9.ab w abA (by omega))
theorem jdo_any (a : JA) (x : JX) (w : World) (h : JM w a x) (m : Jour.Move) (g : Option (List Frame.Rec)) (hi : Wal.Is x.l g) :
    Calls Tryz.prog 13 #[.agg #[.slice a.m.A x.s.a.s.length a.m.ca, .slice a.m.B x.s.a.t.length a.m.cb, .int .i64 x.s.a.cap, .bool x.s.a.down, .slice a.m.C x.s.b.s.length a.m.cc, .slice a.m.D x.s.b.t.length a.m.cd, .int .i64 x.s.b.cap, .bool x.s.b.down, .int .i64 x.s.n, .slice a.A x.l.dev.s.length a.ca, .slice a.B x.l.dev.t.length a.cb, .int .i64 x.l.dev.cap, .bool x.l.dev.down, .int .i64 x.l.first, .int .i64 x.l.next, .int .i64 (cx x.c 0), .int .i64 (cx x.c 1), .int .i64 (cx x.c 2), .int .i64 (cx x.c 3), .int .i64 (cx x.c 4), .int .i64 (cx x.c 5), .int .i64 (cx x.c 6), .int .i64 (cx x.c 7)], .agg #[.int .i64 m.cell, .int .i64 m.add]] w (RetJ3 w (Jour.doM x m g)) :=
  (jdo_far a x w h m g hi).mono fun _ _ ⟨r, num, er, k, h1, h2, h3, _, h4⟩ => ⟨r, num, er, k, h1, h2, h3, h4⟩
end Go.Proofs.YthgcfjhnnhigoaaGreat

/- Save of package journal, walked. Own work. -/
namespace Go.Proofs.YthgcfjhnnhigoaaGreat
open Go.RowKit
open Slots (Sl)

/-- The slots' variable behind Save, its number and its error. -/
def SlNow (lo : Nat) (m : Sl × Int × Int) (v5 v6 v7 : Value) (wx : World) : Prop :=
  ∃ (P : Nat) (r : Sl) (num er : Int) (k : AM), v5 = .pointer (some ⟨P, 0, none⟩) ∧ v6 = .int .i64 num ∧ v7 = .int .i64 er ∧ Hid ((r, num, er) = m) ∧ VB wx P [.slice k.A r.a.s.length k.ca, .slice k.B r.a.t.length k.cb, .int .i64 r.a.cap, .bool r.a.down, .slice k.C r.b.s.length k.cc, .slice k.D r.b.t.length k.cd, .int .i64 r.b.cap, .bool r.b.down, .int .i64 r.n] ∧ lo < P ∧ SlM wx 0 k r
set_option maxRecDepth 100000 in
set_option maxHeartbeats 6400000 in
theorem jsave_any (a : JA) (x : JX) (w : World) (h : JM w a x) (g : Option (List Frame.Rec)) (hi : Wal.Is x.l g) :
    Calls Tryz.prog 18 #[.agg #[.slice a.m.A x.s.a.s.length a.m.ca, .slice a.m.B x.s.a.t.length a.m.cb, .int .i64 x.s.a.cap, .bool x.s.a.down, .slice a.m.C x.s.b.s.length a.m.cc, .slice a.m.D x.s.b.t.length a.m.cd, .int .i64 x.s.b.cap, .bool x.s.b.down, .int .i64 x.s.n, .slice a.A x.l.dev.s.length a.ca, .slice a.B x.l.dev.t.length a.cb, .int .i64 x.l.dev.cap, .bool x.l.dev.down, .int .i64 x.l.first, .int .i64 x.l.next, .int .i64 (cx x.c 0), .int .i64 (cx x.c 1), .int .i64 (cx x.c 2), .int .i64 (cx x.c 3), .int .i64 (cx x.c 4), .int .i64 (cx x.c 5), .int .i64 (cx x.c 6), .int .i64 (cx x.c 7)]] w (RetJE w (Jour.saveM x g)) := by
  go_enter Tryz.func18, Tryz.ntmps18
  have hbx : VB ((w.alloc (.cells #[.slice a.m.A x.s.a.s.length a.m.ca, .slice a.m.B x.s.a.t.length a.m.cb, .int .i64 x.s.a.cap, .bool x.s.a.down, .slice a.m.C x.s.b.s.length a.m.cc, .slice a.m.D x.s.b.t.length a.m.cd, .int .i64 x.s.b.cap, .bool x.s.b.down, .int .i64 x.s.n, .slice a.A x.l.dev.s.length a.ca, .slice a.B x.l.dev.t.length a.cb, .int .i64 x.l.dev.cap, .bool x.l.dev.down, .int .i64 x.l.first, .int .i64 x.l.next, .int .i64 (cx x.c 0), .int .i64 (cx x.c 1), .int .i64 (cx x.c 2), .int .i64 (cx x.c 3), .int .i64 (cx x.c 4), .int .i64 (cx x.c 5), .int .i64 (cx x.c 6), .int .i64 (cx x.c 7)] 32 (0, 0))).alloc (.cells #[.slice none 0 0, .slice none 0 0, .int .i64 0, .bool false, .slice none 0 0, .slice none 0 0, .int .i64 0, .bool false, .int .i64 0, .slice none 0 0, .slice none 0 0, .int .i64 0, .bool false, .int .i64 0, .int .i64 0, .int .i64 0, .int .i64 0, .int .i64 0, .int .i64 0, .int .i64 0, .int .i64 0, .int .i64 0, .int .i64 0] 32 (0, 0))) w.heap.size [.slice a.m.A x.s.a.s.length a.m.ca, .slice a.m.B x.s.a.t.length a.m.cb, .int .i64 x.s.a.cap, .bool x.s.a.down, .slice a.m.C x.s.b.s.length a.m.cc, .slice a.m.D x.s.b.t.length a.m.cd, .int .i64 x.s.b.cap, .bool x.s.b.down, .int .i64 x.s.n, .slice a.A x.l.dev.s.length a.ca, .slice a.B x.l.dev.t.length a.cb, .int .i64 x.l.dev.cap, .bool x.l.dev.down, .int .i64 x.l.first, .int .i64 x.l.next, .int .i64 (cx x.c 0), .int .i64 (cx x.c 1), .int .i64 (cx x.c 2), .int .i64 (cx x.c 3), .int .i64 (cx x.c 4), .int .i64 (cx x.c 5), .int .i64 (cx x.c 6), .int .i64 (cx x.c 7)] := VB.box (old_alloc (new_plain rfl))
  have hrx : VB ((w.alloc (.cells #[.slice a.m.A x.s.a.s.length a.m.ca, .slice a.m.B x.s.a.t.length a.m.cb, .int .i64 x.s.a.cap, .bool x.s.a.down, .slice a.m.C x.s.b.s.length a.m.cc, .slice a.m.D x.s.b.t.length a.m.cd, .int .i64 x.s.b.cap, .bool x.s.b.down, .int .i64 x.s.n, .slice a.A x.l.dev.s.length a.ca, .slice a.B x.l.dev.t.length a.cb, .int .i64 x.l.dev.cap, .bool x.l.dev.down, .int .i64 x.l.first, .int .i64 x.l.next, .int .i64 (cx x.c 0), .int .i64 (cx x.c 1), .int .i64 (cx x.c 2), .int .i64 (cx x.c 3), .int .i64 (cx x.c 4), .int .i64 (cx x.c 5), .int .i64 (cx x.c 6), .int .i64 (cx x.c 7)] 32 (0, 0))).alloc (.cells #[.slice none 0 0, .slice none 0 0, .int .i64 0, .bool false, .slice none 0 0, .slice none 0 0, .int .i64 0, .bool false, .int .i64 0, .slice none 0 0, .slice none 0 0, .int .i64 0, .bool false, .int .i64 0, .int .i64 0, .int .i64 0, .int .i64 0, .int .i64 0, .int .i64 0, .int .i64 0, .int .i64 0, .int .i64 0, .int .i64 0] 32 (0, 0))) (w.heap.size + 1) [.slice none 0 0, .slice none 0 0, .int .i64 0, .bool false, .slice none 0 0, .slice none 0 0, .int .i64 0, .bool false, .int .i64 0, .slice none 0 0, .slice none 0 0, .int .i64 0, .bool false, .int .i64 0, .int .i64 0, .int .i64 0, .int .i64 0, .int .i64 0, .int .i64 0, .int .i64 0, .int .i64 0, .int .i64 0, .int .i64 0] := VB.box (new_plain (by simp))
  have hrv := hrx.var rfl
  go_wp2_with (refine list_ldJ rfl _ rfl rfl (VB.ab hbx abA) rfl ?_)
  refine (jcheck_any a x _ (h.ab abA) g hi).mono ?_
  rintro e w1 ⟨er, hr, rfl, hb1⟩
  have v1 := hbx.ab hb1
  have v2 := hrv.ab hb1
  have b1 : Ab w w1 := abA
  have z2 := v2.lt
  clear hbx hrv hrx hb1
  by_cases he : er = 0
  · obtain ⟨rs, n, c, rfl, hG⟩ := Jour.good_of_check hi (hr.out.symm.trans he)
    have HG := Lib.hid hG
    have HM := Lib.hid (show Jour.saveM x (some rs) = _ from if_neg (by rw [← hr.out, he]; simp))
    obtain rfl : er = 0 := he
    clear hr hG
    go_upto_region 4 with fail
    go_cut [5, 6, 7] (fun v5 v6 v7 wx => SlNow (w.heap.size + 1) (Slots.save x.s (Jour.point x.l.next x.c)) v5 v6 v7 wx ∧ (Ab w wx ∧ VB wx w.heap.size [.slice a.m.A x.s.a.s.length a.m.ca, .slice a.m.B x.s.a.t.length a.m.cb, .int .i64 x.s.a.cap, .bool x.s.a.down, .slice a.m.C x.s.b.s.length a.m.cc, .slice a.m.D x.s.b.t.length a.m.cd, .int .i64 x.s.b.cap, .bool x.s.b.down, .int .i64 x.s.n, .slice a.A x.l.dev.s.length a.ca, .slice a.B x.l.dev.t.length a.cb, .int .i64 x.l.dev.cap, .bool x.l.dev.down, .int .i64 x.l.first, .int .i64 x.l.next, .int .i64 (cx x.c 0), .int .i64 (cx x.c 1), .int .i64 (cx x.c 2), .int .i64 (cx x.c 3), .int .i64 (cx x.c 4), .int .i64 (cx x.c 5), .int .i64 (cx x.c 6), .int .i64 (cx x.c 7)] ∧ Var wx (w.heap.size + 1) 23 ∧ w.heap.size + 1 < wx.heap.size))
    case first =>
      refine wp_region_held_drew (by kernel_rfl) (S := fun w' => (Ab w w' ∧ VB w' w.heap.size [.slice a.m.A x.s.a.s.length a.m.ca, .slice a.m.B x.s.a.t.length a.m.cb, .int .i64 x.s.a.cap, .bool x.s.a.down, .slice a.m.C x.s.b.s.length a.m.cc, .slice a.m.D x.s.b.t.length a.m.cd, .int .i64 x.s.b.cap, .bool x.s.b.down, .int .i64 x.s.n, .slice a.A x.l.dev.s.length a.ca, .slice a.B x.l.dev.t.length a.cb, .int .i64 x.l.dev.cap, .bool x.l.dev.down, .int .i64 x.l.first, .int .i64 x.l.next, .int .i64 (cx x.c 0), .int .i64 (cx x.c 1), .int .i64 (cx x.c 2), .int .i64 (cx x.c 3), .int .i64 (cx x.c 4), .int .i64 (cx x.c 5), .int .i64 (cx x.c 6), .int .i64 (cx x.c 7)] ∧ Var w' (w.heap.size + 1) 23 ∧ w.heap.size + 1 < w'.heap.size)) ?_ (fun hHeld => ?_)
      · exact ⟨abA, v1.ab abA, v2.ab abA, by simp; omega⟩
      (refine rtA 0 ?_ ?_
       (try simp only [Act.put, stA, st0, st1]))
      (refine rtL 1 [.slice a.m.A x.s.a.s.length a.m.ca, .slice a.m.B x.s.a.t.length a.m.cb, .int .i64 x.s.a.cap, .bool x.s.a.down, .slice a.m.C x.s.b.s.length a.m.cc, .slice a.m.D x.s.b.t.length a.m.cd, .int .i64 x.s.b.cap, .bool x.s.b.down, .int .i64 x.s.n] 0 (fun w hSw => VB.rangeAt (hSw.2.1) 0 9) Tryz.underlying27 ?_
       (try simp only [Act.put, stA, st0, st1]))
      (refine rtL 2 [.slice a.m.A x.s.a.s.length a.m.ca, .slice a.m.B x.s.a.t.length a.m.cb, .int .i64 x.s.a.cap, .bool x.s.a.down, .slice a.m.C x.s.b.s.length a.m.cc, .slice a.m.D x.s.b.t.length a.m.cd, .int .i64 x.s.b.cap, .bool x.s.b.down, .int .i64 x.s.n, .slice a.A x.l.dev.s.length a.ca, .slice a.B x.l.dev.t.length a.cb, .int .i64 x.l.dev.cap, .bool x.l.dev.down, .int .i64 x.l.first, .int .i64 x.l.next, .int .i64 (cx x.c 0), .int .i64 (cx x.c 1), .int .i64 (cx x.c 2), .int .i64 (cx x.c 3), .int .i64 (cx x.c 4), .int .i64 (cx x.c 5), .int .i64 (cx x.c 6), .int .i64 (cx x.c 7)] 0 (fun w hSw => VB.rangeAt (hSw.2.1) 0 23) Tryz.underlying32 ?_
       (try simp only [Act.put, stA, st0, st1]))
      (refine wpAnyH_ready (rs := [3, 9]) (by kernel_rfl) (by simp) ?_)
      refine AllReadyH.cons rfl (fun K hK => ?_) (AllReadyH.cons rfl (fun K hK => ?_) AllReadyH.nil)
      · (go_simp
         ((go_at_call 53)
          refine (encc_any a x _ h.hc).mono ?_
          rintro e w5 ⟨X, cX, LX, hLX, rfl, hX, hcX, hb5⟩)
         (try go_wp2_with fail)
         (refine hK.out _ _ ?_ (fun hHeld => ?_)
          · (try dsimp only); exact ⟨hHeld.1.trans hb5, hHeld.2.1.ab hb5, hHeld.2.2.1.ab hb5, Nat.lt_of_lt_of_le hHeld.2.2.2 (hb5).size⟩
          clear hK K
          (try simp only [Act.put, stA, st0, st1])))
        (refine wpAnyH_ready (rs := [4, 9]) (by kernel_rfl) (by simp) ?_)
        refine AllReadyH.cons rfl (fun K hK => ?_) (AllReadyH.cons rfl (fun K hK => ?_) AllReadyH.nil)
        · (go_simp
           ((go_at_call 52)
            refine (ssave_any a.m x.s _ (h.s.ab hHeld.1) X LX cX (hX.zero.ab abA) hcX).mono ?_
            rintro e w6 ⟨r6, num, er6, k, hr6, rfl, hM6, hb6⟩)
           (try go_wp2_with fail)
           (refine hK.out _ _ ?_ (fun hHeld => ?_)
            · (try dsimp only); exact ⟨hHeld.1.trans hb6, hHeld.2.1.ab hb6, hHeld.2.2.1.ab hb6, Nat.lt_of_lt_of_le hHeld.2.2.2 (hb6).size⟩
            clear hK K
            (try simp only [Act.put, stA, st0, st1])))
          (refine rtA 5 ?_ ?_
           (try simp only [Act.put, stA, st0, st1]))
          (refine rtA 6 ?_ ?_
           (try simp only [Act.put, stA, st0, st1]))
          (refine rtA 7 ?_ ?_
           (try simp only [Act.put, stA, st0, st1]))
          (refine rtA 8 ?_ ?_
           (try simp only [Act.put, stA, st0, st1]))
          refine r1A 9 (fun K hK => ?_)
          have A6 := (Ab.refl w6).alloc (.cells #[.slice none 0 0, .slice none 0 0, .int .i64 0, .bool false, .slice none 0 0, .slice none 0 0, .int .i64 0, .bool false, .int .i64 0] 27 (0, 0))
          have v6 : Var (w6.alloc (.cells #[.slice none 0 0, .slice none 0 0, .int .i64 0, .bool false, .slice none 0 0, .slice none 0 0, .int .i64 0, .bool false, .int .i64 0] 27 (0, 0))) (w6.heap.size) 9 := VB.var (vs := [.slice none 0 0, .slice none 0 0, .int .i64 0, .bool false, .slice none 0 0, .slice none 0 0, .int .i64 0, .bool false, .int .i64 0]) (VB.box (new_plain (by first | rfl | simp))) rfl
          have P6 : w.heap.size + 1 < w6.heap.size := by first | exact hHeld.2.2.2 | omega
          (go_simp
           (refine hK.out _ _ ?_ (fun hHeld => ?_)
            · (try dsimp only); exact ⟨hHeld.1.trans A6, hHeld.2.1.ab A6, hHeld.2.2.1.ab A6, Nat.lt_of_lt_of_le hHeld.2.2.2 (A6).size⟩
            clear hK K
            (try simp only [Act.put, stA, st0, st1])))
          refine r1A 10 (fun K hK => ?_)
          (try simp only [Act.put, List.getElem_toArray, List.getElem_cons_succ, List.getElem_cons_zero, stA, st0, st1])
          refine if_go (by rfl) ?_
          refine wp_stV 27 infoS _ _ rfl rfl rfl v6 rfl rfl ?_
          intro w7 h7
          (refine hK.out _ _ ?_ (fun hHeld => ?_)
           · (try dsimp only); exact ⟨h7.ab w hHeld.1 (by omega), hHeld.2.1.mid h7.m (by omega), hHeld.2.2.1.mid h7.m (by omega), by rw [h7.sz]; exact hHeld.2.2.2⟩
           clear hK K
           (try simp only [Act.put, stA, st0, st1]))
          refine r1A 11 (fun K hK => ?_)
          (go_simp
           (refine hK.out _ _ ?_ (fun hHeld => ?_)
            · (try dsimp only); exact hHeld
            clear hK K
            (try simp only [Act.put, stA, st0, st1])))
          refine r1A 12 (fun K hK => ?_)
          (go_simp
           (refine hK.out _ _ ?_ (fun hHeld => ?_)
            · (try dsimp only); exact hHeld
            clear hK K
            (try simp only [Act.put, stA, st0, st1])))
          refine wpAnyH_done (by kernel_rfl) ?_ _
          go_wp2_with fail
          go_meet
          exact ⟨⟨_, r6, num, er6, k, rfl, rfl, rfl, Lib.hid (by rw [hr6.out, hLX.out]), h7.v, P6, h7.slm (hM6.ab A6)⟩, hHeld⟩
        · have A6 := (Ab.refl w5).alloc (.cells #[.slice none 0 0, .slice none 0 0, .int .i64 0, .bool false, .slice none 0 0, .slice none 0 0, .int .i64 0, .bool false, .int .i64 0] 27 (0, 0))
          have v6 : Var (w5.alloc (.cells #[.slice none 0 0, .slice none 0 0, .int .i64 0, .bool false, .slice none 0 0, .slice none 0 0, .int .i64 0, .bool false, .int .i64 0] 27 (0, 0))) (w5.heap.size) 9 := VB.var (vs := [.slice none 0 0, .slice none 0 0, .int .i64 0, .bool false, .slice none 0 0, .slice none 0 0, .int .i64 0, .bool false, .int .i64 0]) (VB.box (new_plain (by first | rfl | simp))) rfl
          have P6 : w.heap.size + 1 < w5.heap.size := by first | exact hHeld.2.2.2 | omega
          (go_simp
           (refine hK.out _ _ ?_ (fun hHeld => ?_)
            · (try dsimp only); exact ⟨hHeld.1.trans A6, hHeld.2.1.ab A6, hHeld.2.2.1.ab A6, Nat.lt_of_lt_of_le hHeld.2.2.2 (A6).size⟩
            clear hK K
            (try simp only [Act.put, stA, st0, st1])))
          refine r1A 4 (fun K hK => ?_)
          (go_simp
           ((go_at_call 52)
            refine (ssave_any a.m x.s _ (h.s.ab hHeld.1) X LX cX (hX.zero.ab abA) hcX).mono ?_
            rintro e w6 ⟨r6, num, er6, k, hr6, rfl, hM6, hb6⟩)
           (try go_wp2_with fail)
           (refine hK.out _ _ ?_ (fun hHeld => ?_)
            · (try dsimp only); exact ⟨hHeld.1.trans hb6, hHeld.2.1.ab hb6, hHeld.2.2.1.ab hb6, Nat.lt_of_lt_of_le hHeld.2.2.2 (hb6).size⟩
            clear hK K
            (try simp only [Act.put, stA, st0, st1])))
          (refine rtA 5 ?_ ?_
           (try simp only [Act.put, stA, st0, st1]))
          (refine rtA 6 ?_ ?_
           (try simp only [Act.put, stA, st0, st1]))
          (refine rtA 7 ?_ ?_
           (try simp only [Act.put, stA, st0, st1]))
          (refine rtA 8 ?_ ?_
           (try simp only [Act.put, stA, st0, st1]))
          have v8 := v6.ab hb6
          refine r1A 10 (fun K hK => ?_)
          (try simp only [Act.put, List.getElem_toArray, List.getElem_cons_succ, List.getElem_cons_zero, stA, st0, st1])
          refine if_go (by rfl) ?_
          refine wp_stV 27 infoS _ _ rfl rfl rfl v8 rfl rfl ?_
          intro w7 h7
          (refine hK.out _ _ ?_ (fun hHeld => ?_)
           · (try dsimp only); exact ⟨h7.ab w hHeld.1 (by omega), hHeld.2.1.mid h7.m (by omega), hHeld.2.2.1.mid h7.m (by omega), by rw [h7.sz]; exact hHeld.2.2.2⟩
           clear hK K
           (try simp only [Act.put, stA, st0, st1]))
          refine r1A 11 (fun K hK => ?_)
          (go_simp
           (refine hK.out _ _ ?_ (fun hHeld => ?_)
            · (try dsimp only); exact hHeld
            clear hK K
            (try simp only [Act.put, stA, st0, st1])))
          refine r1A 12 (fun K hK => ?_)
          (go_simp
           (refine hK.out _ _ ?_ (fun hHeld => ?_)
            · (try dsimp only); exact hHeld
            clear hK K
            (try simp only [Act.put, stA, st0, st1])))
          refine wpAnyH_done (by kernel_rfl) ?_ _
          go_wp2_with fail
          go_meet
          exact ⟨⟨_, r6, num, er6, k, rfl, rfl, rfl, Lib.hid (by rw [hr6.out, hLX.out]), h7.v, P6, h7.slm (hM6.ab (Ab.refl _))⟩, hHeld⟩
      · have A6 := (Ab.refl w1.drew).alloc (.cells #[.slice none 0 0, .slice none 0 0, .int .i64 0, .bool false, .slice none 0 0, .slice none 0 0, .int .i64 0, .bool false, .int .i64 0] 27 (0, 0))
        have v6 : Var (w1.drew.alloc (.cells #[.slice none 0 0, .slice none 0 0, .int .i64 0, .bool false, .slice none 0 0, .slice none 0 0, .int .i64 0, .bool false, .int .i64 0] 27 (0, 0))) (w1.heap.size) 9 := VB.var (vs := [.slice none 0 0, .slice none 0 0, .int .i64 0, .bool false, .slice none 0 0, .slice none 0 0, .int .i64 0, .bool false, .int .i64 0]) (VB.box (new_plain (by first | rfl | simp))) rfl
        have P6 : w.heap.size + 1 < w1.heap.size := by first | exact hHeld.2.2.2 | omega
        (go_simp
         (refine hK.out _ _ ?_ (fun hHeld => ?_)
          · (try dsimp only); exact ⟨hHeld.1.trans A6, hHeld.2.1.ab A6, hHeld.2.2.1.ab A6, Nat.lt_of_lt_of_le hHeld.2.2.2 (A6).size⟩
          clear hK K
          (try simp only [Act.put, stA, st0, st1])))
        refine r1A 3 (fun K hK => ?_)
        (go_simp
         ((go_at_call 53)
          refine (encc_any a x _ h.hc).mono ?_
          rintro e w5 ⟨X, cX, LX, hLX, rfl, hX, hcX, hb5⟩)
         (try go_wp2_with fail)
         (refine hK.out _ _ ?_ (fun hHeld => ?_)
          · (try dsimp only); exact ⟨hHeld.1.trans hb5, hHeld.2.1.ab hb5, hHeld.2.2.1.ab hb5, Nat.lt_of_lt_of_le hHeld.2.2.2 (hb5).size⟩
          clear hK K
          (try simp only [Act.put, stA, st0, st1])))
        refine r1A 4 (fun K hK => ?_)
        (go_simp
         ((go_at_call 52)
          refine (ssave_any a.m x.s _ (h.s.ab hHeld.1) X LX cX (hX.zero.ab abA) hcX).mono ?_
          rintro e w6 ⟨r6, num, er6, k, hr6, rfl, hM6, hb6⟩)
         (try go_wp2_with fail)
         (refine hK.out _ _ ?_ (fun hHeld => ?_)
          · (try dsimp only); exact ⟨hHeld.1.trans hb6, hHeld.2.1.ab hb6, hHeld.2.2.1.ab hb6, Nat.lt_of_lt_of_le hHeld.2.2.2 (hb6).size⟩
          clear hK K
          (try simp only [Act.put, stA, st0, st1])))
        (refine rtA 5 ?_ ?_
         (try simp only [Act.put, stA, st0, st1]))
        (refine rtA 6 ?_ ?_
         (try simp only [Act.put, stA, st0, st1]))
        (refine rtA 7 ?_ ?_
         (try simp only [Act.put, stA, st0, st1]))
        (refine rtA 8 ?_ ?_
         (try simp only [Act.put, stA, st0, st1]))
        have v8 := v6.ab (hb5.trans hb6)
        refine r1A 10 (fun K hK => ?_)
        (try simp only [Act.put, List.getElem_toArray, List.getElem_cons_succ, List.getElem_cons_zero, stA, st0, st1])
        refine if_go (by rfl) ?_
        refine wp_stV 27 infoS _ _ rfl rfl rfl v8 rfl rfl ?_
        intro w7 h7
        (refine hK.out _ _ ?_ (fun hHeld => ?_)
         · (try dsimp only); exact ⟨h7.ab w hHeld.1 (by omega), hHeld.2.1.mid h7.m (by omega), hHeld.2.2.1.mid h7.m (by omega), by rw [h7.sz]; exact hHeld.2.2.2⟩
         clear hK K
         (try simp only [Act.put, stA, st0, st1]))
        refine r1A 11 (fun K hK => ?_)
        (go_simp
         (refine hK.out _ _ ?_ (fun hHeld => ?_)
          · (try dsimp only); exact hHeld
          clear hK K
          (try simp only [Act.put, stA, st0, st1])))
        refine r1A 12 (fun K hK => ?_)
        (go_simp
         (refine hK.out _ _ ?_ (fun hHeld => ?_)
          · (try dsimp only); exact hHeld
          clear hK K
          (try simp only [Act.put, stA, st0, st1])))
        refine wpAnyH_done (by kernel_rfl) ?_ _
        go_wp2_with fail
        go_meet
        exact ⟨⟨_, r6, num, er6, k, rfl, rfl, rfl, Lib.hid (by rw [hr6.out, hLX.out]), h7.v, P6, h7.slm (hM6.ab (Ab.refl _))⟩, hHeld⟩
    obtain ⟨⟨P, r6, num, er6, k, rfl, rfl, rfl, hr6, vP, hP, hM6⟩, bW, vJ, vR, hsz⟩ := hcut
    by_cases he6 : er6 = 0
    · obtain rfl : er6 = 0 := he6
      have HY := Lib.hid (HM.out.trans (if_neg (by rw [← hr6.out]; simp)))
      clear v1 v2 b1
      go_upto_region 7 with fail
      refine wp_region_held_drew (by kernel_rfl) (S := fun w' => Ab w w' ∧ VB w' w.heap.size [.slice a.m.A x.s.a.s.length a.m.ca, .slice a.m.B x.s.a.t.length a.m.cb, .int .i64 x.s.a.cap, .bool x.s.a.down, .slice a.m.C x.s.b.s.length a.m.cc, .slice a.m.D x.s.b.t.length a.m.cd, .int .i64 x.s.b.cap, .bool x.s.b.down, .int .i64 x.s.n, .slice a.A x.l.dev.s.length a.ca, .slice a.B x.l.dev.t.length a.cb, .int .i64 x.l.dev.cap, .bool x.l.dev.down, .int .i64 x.l.first, .int .i64 x.l.next, .int .i64 (cx x.c 0), .int .i64 (cx x.c 1), .int .i64 (cx x.c 2), .int .i64 (cx x.c 3), .int .i64 (cx x.c 4), .int .i64 (cx x.c 5), .int .i64 (cx x.c 6), .int .i64 (cx x.c 7)] ∧ Var w' (w.heap.size + 1) 23 ∧ VB w' P [.slice k.A r6.a.s.length k.ca, .slice k.B r6.a.t.length k.cb, .int .i64 r6.a.cap, .bool r6.a.down, .slice k.C r6.b.s.length k.cc, .slice k.D r6.b.t.length k.cd, .int .i64 r6.b.cap, .bool r6.b.down, .int .i64 r6.n]) ?_ (fun hHeld => ?_)
      · exact ⟨abA, vJ.ab abA, vR.ab abA, vP.ab abA⟩
      (refine rtL 0 [.slice k.A r6.a.s.length k.ca, .slice k.B r6.a.t.length k.cb, .int .i64 r6.a.cap, .bool r6.a.down, .slice k.C r6.b.s.length k.cc, .slice k.D r6.b.t.length k.cd, .int .i64 r6.b.cap, .bool r6.b.down, .int .i64 r6.n] 0 (fun w hSw => VB.rangeAt (hSw.2.2.2) 0 9) Tryz.underlying27 ?_
       (try simp only [Act.put, stA, st0, st1]))
      (refine rtA 1 ?_ ?_
       (try simp only [Act.put, stA, st0, st1]))
      (refine rtL 2 [.slice a.A x.l.dev.s.length a.ca, .slice a.B x.l.dev.t.length a.cb, .int .i64 x.l.dev.cap, .bool x.l.dev.down, .int .i64 x.l.first, .int .i64 x.l.next] 9 (fun w hSw => VB.rangeAt (hSw.2.1) 9 6) Tryz.underlying29 ?_
       (try simp only [Act.put, stA, st0, st1]))
      (refine rtA 4 ?_ ?_
       (try simp only [Act.put, stA, st0, st1]))
      (refine rtL 5 [.int .i64 (cx x.c 0), .int .i64 (cx x.c 1), .int .i64 (cx x.c 2), .int .i64 (cx x.c 3), .int .i64 (cx x.c 4), .int .i64 (cx x.c 5), .int .i64 (cx x.c 6), .int .i64 (cx x.c 7)] 15 (fun w hSw => VB.rangeAt (hSw.2.1) 15 8) Tryz.underlying30 ?_
       (try simp only [Act.put, stA, st0, st1]))
      refine r1A 3 (fun K hK => ?_)
      (go_simp
       ((go_at_call 54)
        refine (logat_any a.A a.B a.ca a.cb x.l.dev.s x.l.dev.t x.l.dev.cap x.l.dev.down x.l.first x.l.next _ (h.l.p.ab hHeld.1) (h.l.q.ab hHeld.1) h.l.lp h.l.lq h.l.np h.l.nq rs HG.out.log 5).mono ?_
        rintro e w5 ⟨r5, D, E, cd, ce, hr5, rfl, hL5, hb5⟩)
       (try go_wp2_with fail)
       (refine hK.out _ _ ?_ (fun hHeld => ?_)
        · (try dsimp only); exact ⟨hHeld.1.trans hb5, hHeld.2.1.ab hb5, hHeld.2.2.1.ab hb5, hHeld.2.2.2.ab hb5⟩
        clear hK K
        (try simp only [Act.put, stA, st0, st1])))
      (refine rtA 6 ?_ ?_
       (try simp only [Act.put, stA, st0, st1]))
      refine r1A 7 (fun K hK => ?_)
      ((try simp only [Act.put, List.getElem_toArray, List.getElem_cons_succ, List.getElem_cons_zero, stA, st0, st1])
       refine if_go (by rfl) ?_
       refine wp_stJ _ _ rfl rfl rfl hHeld.2.2.1 rfl rfl ?_
       intro w9 h9
       (refine hK.out _ _ ?_ (fun hHeld => ?_)
        · (try dsimp only); exact ⟨h9.ab w hHeld.1 (by omega), hHeld.2.1.mid h9.m (by omega), h9.v.var rfl, hHeld.2.2.2.mid h9.m (by omega)⟩
        clear hK K
        (try simp only [Act.put, stA, st0, st1])))
      refine r1A 8 (fun K hK => ?_)
      (go_simp
       (refine hK.out _ _ ?_ (fun hHeld => ?_)
        · (try dsimp only); exact hHeld
        clear hK K
        (try simp only [Act.put, stA, st0, st1])))
      refine wpAnyH_done (by kernel_rfl) ?_ _
      go_wp2
      refine bodyPost_ret (res_J2 Tryz.results18 _ rfl h9.v rfl) rfl ?_
      have b6 : Ab wc w5 := abA
      exact ⟨⟨r6, r5, x.c⟩, 0, ⟨k, D, E, cd, ce⟩, Lib.hid (by rw [HY.out, ← hr6.out, hr5.out]), rfl, ⟨h9.slm (hM6.ab b6), ⟨h9.rb _ _ _ hL5.p, h9.rb _ _ _ hL5.q, hL5.lp, hL5.lq, hL5.np, hL5.nq⟩, h.hc⟩, h9.ab w (bW.trans b6) (by omega)⟩
    · have HY := Lib.hid (show Jour.saveM x (some rs) = (JX.zero, er6) by rw [HM.out, ← hr6.out]; exact if_pos he6)
      have hne : (er6 != 0) = true := by simpa using he6
      clear he6 hr6
      go_wp2_with (refine list_stJ rfl _ _ rfl rfl rfl (Var.ab vR abA) rfl rfl ?_; intro w9 h9)
      refine bodyPost_ret (res_J2 Tryz.results18 _ rfl h9.v rfl) rfl ?_
      exact RetJE.zero HY.out.symm (h9.ab w abA (by omega))
  · have HM := Lib.hid (show Jour.saveM x g = _ from if_pos (by rw [← hr.out]; exact he))
    have HE := Lib.hid hr.out
    have hne : (er != 0) = true := by simpa using he
    clear hr he
    go_wp2_with (refine list_stJ rfl _ _ rfl rfl rfl (Var.ab v2 abA) rfl rfl ?_; intro w9 h9)
    refine bodyPost_ret (res_J2 Tryz.results18 _ rfl h9.v rfl) rfl ?_
    exact RetJE.zero (by rw [HM.out, ← HE.out]) (h9.ab w abA (by omega))
end Go.Proofs.YthgcfjhnnhigoaaGreat
