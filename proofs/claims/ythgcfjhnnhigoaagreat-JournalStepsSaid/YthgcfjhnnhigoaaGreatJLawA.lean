/- JournalSteps, walked; written by genjsteps.py. Own work. -/
import Derived.Test.YthgcfjhnnhigoaaGreatGL
import Derived.Test.YthgcfjhnnhigoaaGreatJOpen
import Derived.Test.YthgcfjhnnhigoaaGreatGN
set_option linter.unusedVariables false
set_option linter.unusedSimpArgs false
namespace Go.Proofs.YthgcfjhnnhigoaaGreat
open Go.RowKit
open Slots (Sl)

theorem JM.stored {w w' : World} {b : Nat} {us : List Value} {a : JA} {x : JX} (h : JM w a x) (k : Stored w b us w') : JM w' a x :=
  ⟨k.slm h.s, ⟨k.rb _ _ _ h.l.p, k.rb _ _ _ h.l.q, h.l.lp, h.l.lq, h.l.np, h.l.nq⟩, h.hc⟩
section
variable {ops : Array Oper} {rest : List Oper} {o : Oper} {a : Act} {w w' : World} {b : Nat} {vs : List Value}
theorem list_ldJg {Q : Exit → Act → World → Prop} (hw : Region.wanted o (yielded ops a.tmps) = true) (x : Operand) (ho : o.op = .load 32 x) (hx : a.eval x = .pointer (some ⟨b, 0, none⟩)) (hv : VB w b vs) (hl : vs.length = 23)
    (h : wpList Tryz.prog ops Q rest (a.put o.dst (.agg vs.toArray)) w) : wpList Tryz.prog ops Q (o :: rest) a w :=
  wpList_step fun K hK => by
    rw [if_pos hw]
    exact wp_load_mid _ x ho b 0 hx vs _ hv.range Tryz.underlying32 rfl (by rw [infoJ, hl]) (hK _ _ h)
end
theorem JAr.jm {w : World} {a : JA} {x : JX} (h : JAr w a x) (hg : ¬ greatJ x) : JM w a x := by
  have h1 : ¬ Slots.great x.s := fun k => hg (.inl k)
  have h2 := great4B_false (a := x.l.dev.s.length) (b := x.l.dev.t.length) (by
    cases e : great4B x.l.dev.s.length x.l.dev.t.length with
    | true => exact absurd (.inr e) hg
    | false => rfl)
  unfold Slots.great at h1
  exact ⟨⟨h.s.a, h.s.b, h.s.c, h.s.d, h.s.la, h.s.lb, h.s.lc, h.s.ld, by omega, by omega, by omega, by omega⟩, ⟨h.l.p, h.l.q, h.l.lp, h.l.lq, by omega, by omega⟩, h.hc⟩
set_option maxRecDepth 100000 in
set_option maxHeartbeats 12800000 in
theorem jsteps_walk (a : JA) (x : JX) (w : World) (ha : JAr w a x) (m : Jour.Move) (c : List Int) (hc : c.length = 8) (A : Option Addr) (cap : Nat) (ms : List Jour.Move) (hms : Mvs w 0 A ms) (lm : ms.length ≤ 9223372036854775807) (n : Int) :
    Calls Tryz.prog 3 #[.agg #[.slice a.m.A x.s.a.s.length a.m.ca, .slice a.m.B x.s.a.t.length a.m.cb, .int .i64 x.s.a.cap, .bool x.s.a.down, .slice a.m.C x.s.b.s.length a.m.cc, .slice a.m.D x.s.b.t.length a.m.cd, .int .i64 x.s.b.cap, .bool x.s.b.down, .int .i64 x.s.n, .slice a.A x.l.dev.s.length a.ca, .slice a.B x.l.dev.t.length a.cb, .int .i64 x.l.dev.cap, .bool x.l.dev.down, .int .i64 x.l.first, .int .i64 x.l.next, .int .i64 (cx x.c 0), .int .i64 (cx x.c 1), .int .i64 (cx x.c 2), .int .i64 (cx x.c 3), .int .i64 (cx x.c 4), .int .i64 (cx x.c 5), .int .i64 (cx x.c 6), .int .i64 (cx x.c 7)], .agg #[.int .i64 m.cell, .int .i64 m.add], .agg #[.int .i64 (cx c 0), .int .i64 (cx c 1), .int .i64 (cx c 2), .int .i64 (cx c 3), .int .i64 (cx c 4), .int .i64 (cx c 5), .int .i64 (cx c 6), .int .i64 (cx c 7)], .slice A ms.length cap, .int .i64 n] w fun e w' => e = .returned (.bool true) ∧ Ab w w' := by
  go_enter Tryz.func3, Tryz.ntmps3
  have V5 : VB (((w.alloc (.cells #[.slice a.m.A x.s.a.s.length a.m.ca, .slice a.m.B x.s.a.t.length a.m.cb, .int .i64 x.s.a.cap, .bool x.s.a.down, .slice a.m.C x.s.b.s.length a.m.cc, .slice a.m.D x.s.b.t.length a.m.cd, .int .i64 x.s.b.cap, .bool x.s.b.down, .int .i64 x.s.n, .slice a.A x.l.dev.s.length a.ca, .slice a.B x.l.dev.t.length a.cb, .int .i64 x.l.dev.cap, .bool x.l.dev.down, .int .i64 x.l.first, .int .i64 x.l.next, .int .i64 (cx x.c 0), .int .i64 (cx x.c 1), .int .i64 (cx x.c 2), .int .i64 (cx x.c 3), .int .i64 (cx x.c 4), .int .i64 (cx x.c 5), .int .i64 (cx x.c 6), .int .i64 (cx x.c 7)] 32 (0, 0))).alloc (.cells #[.int .i64 m.cell, .int .i64 m.add] 34 (0, 0))).alloc (.cells #[.int .i64 (cx c 0), .int .i64 (cx c 1), .int .i64 (cx c 2), .int .i64 (cx c 3), .int .i64 (cx c 4), .int .i64 (cx c 5), .int .i64 (cx c 6), .int .i64 (cx c 7)] 30 (0, 0))) w.heap.size [.slice a.m.A x.s.a.s.length a.m.ca, .slice a.m.B x.s.a.t.length a.m.cb, .int .i64 x.s.a.cap, .bool x.s.a.down, .slice a.m.C x.s.b.s.length a.m.cc, .slice a.m.D x.s.b.t.length a.m.cd, .int .i64 x.s.b.cap, .bool x.s.b.down, .int .i64 x.s.n, .slice a.A x.l.dev.s.length a.ca, .slice a.B x.l.dev.t.length a.cb, .int .i64 x.l.dev.cap, .bool x.l.dev.down, .int .i64 x.l.first, .int .i64 x.l.next, .int .i64 (cx x.c 0), .int .i64 (cx x.c 1), .int .i64 (cx x.c 2), .int .i64 (cx x.c 3), .int .i64 (cx x.c 4), .int .i64 (cx x.c 5), .int .i64 (cx x.c 6), .int .i64 (cx x.c 7)] := VB.box (old_alloc (old_alloc (new_plain rfl)))
  have VM : VB (((w.alloc (.cells #[.slice a.m.A x.s.a.s.length a.m.ca, .slice a.m.B x.s.a.t.length a.m.cb, .int .i64 x.s.a.cap, .bool x.s.a.down, .slice a.m.C x.s.b.s.length a.m.cc, .slice a.m.D x.s.b.t.length a.m.cd, .int .i64 x.s.b.cap, .bool x.s.b.down, .int .i64 x.s.n, .slice a.A x.l.dev.s.length a.ca, .slice a.B x.l.dev.t.length a.cb, .int .i64 x.l.dev.cap, .bool x.l.dev.down, .int .i64 x.l.first, .int .i64 x.l.next, .int .i64 (cx x.c 0), .int .i64 (cx x.c 1), .int .i64 (cx x.c 2), .int .i64 (cx x.c 3), .int .i64 (cx x.c 4), .int .i64 (cx x.c 5), .int .i64 (cx x.c 6), .int .i64 (cx x.c 7)] 32 (0, 0))).alloc (.cells #[.int .i64 m.cell, .int .i64 m.add] 34 (0, 0))).alloc (.cells #[.int .i64 (cx c 0), .int .i64 (cx c 1), .int .i64 (cx c 2), .int .i64 (cx c 3), .int .i64 (cx c 4), .int .i64 (cx c 5), .int .i64 (cx c 6), .int .i64 (cx c 7)] 30 (0, 0))) (w.heap.size + 1) [.int .i64 m.cell, .int .i64 m.add] := VB.box (old_alloc (new_plain (by simp)))
  have VC : VB (((w.alloc (.cells #[.slice a.m.A x.s.a.s.length a.m.ca, .slice a.m.B x.s.a.t.length a.m.cb, .int .i64 x.s.a.cap, .bool x.s.a.down, .slice a.m.C x.s.b.s.length a.m.cc, .slice a.m.D x.s.b.t.length a.m.cd, .int .i64 x.s.b.cap, .bool x.s.b.down, .int .i64 x.s.n, .slice a.A x.l.dev.s.length a.ca, .slice a.B x.l.dev.t.length a.cb, .int .i64 x.l.dev.cap, .bool x.l.dev.down, .int .i64 x.l.first, .int .i64 x.l.next, .int .i64 (cx x.c 0), .int .i64 (cx x.c 1), .int .i64 (cx x.c 2), .int .i64 (cx x.c 3), .int .i64 (cx x.c 4), .int .i64 (cx x.c 5), .int .i64 (cx x.c 6), .int .i64 (cx x.c 7)] 32 (0, 0))).alloc (.cells #[.int .i64 m.cell, .int .i64 m.add] 34 (0, 0))).alloc (.cells #[.int .i64 (cx c 0), .int .i64 (cx c 1), .int .i64 (cx c 2), .int .i64 (cx c 3), .int .i64 (cx c 4), .int .i64 (cx c 5), .int .i64 (cx c 6), .int .i64 (cx c 7)] 30 (0, 0))) (w.heap.size + 2) [.int .i64 (cx c 0), .int .i64 (cx c 1), .int .i64 (cx c 2), .int .i64 (cx c 3), .int .i64 (cx c 4), .int .i64 (cx c 5), .int .i64 (cx c 6), .int .i64 (cx c 7)] := VB.box (new_plain (by simp))
  have BW : Ab w (((w.alloc (.cells #[.slice a.m.A x.s.a.s.length a.m.ca, .slice a.m.B x.s.a.t.length a.m.cb, .int .i64 x.s.a.cap, .bool x.s.a.down, .slice a.m.C x.s.b.s.length a.m.cc, .slice a.m.D x.s.b.t.length a.m.cd, .int .i64 x.s.b.cap, .bool x.s.b.down, .int .i64 x.s.n, .slice a.A x.l.dev.s.length a.ca, .slice a.B x.l.dev.t.length a.cb, .int .i64 x.l.dev.cap, .bool x.l.dev.down, .int .i64 x.l.first, .int .i64 x.l.next, .int .i64 (cx x.c 0), .int .i64 (cx x.c 1), .int .i64 (cx x.c 2), .int .i64 (cx x.c 3), .int .i64 (cx x.c 4), .int .i64 (cx x.c 5), .int .i64 (cx x.c 6), .int .i64 (cx x.c 7)] 32 (0, 0))).alloc (.cells #[.int .i64 m.cell, .int .i64 m.add] 34 (0, 0))).alloc (.cells #[.int .i64 (cx c 0), .int .i64 (cx c 1), .int .i64 (cx c 2), .int .i64 (cx c 3), .int .i64 (cx c 4), .int .i64 (cx c 5), .int .i64 (cx c 6), .int .i64 (cx c 7)] 30 (0, 0))) := abA
  by_cases hg : greatJ x
  · have HG := Lib.hid hg
    clear hg
    go_wp2_with (refine list_ldJ rfl _ rfl rfl V5 rfl ?_)
    refine (jgreat_any a x _ ha.l.np ha.l.nq true ⟨fun _ => rfl, fun _ => HG.out⟩).mono ?_
    rintro e w1 ⟨rfl, hb1⟩
    go_wp2
    go_ret
    exact ⟨rfl, abA⟩
  have h := ha.jm hg
  have HG := Lib.hid hg
  clear hg
  obtain ⟨g, hi⟩ := Wal.is_exists x.l
  go_wp2_with (refine list_ldJ rfl _ rfl rfl V5 rfl ?_)
  refine (jgreat_any a x _ ha.l.np ha.l.nq false ⟨fun k => absurd k HG.out, fun k => absurd k (by simp)⟩).mono ?_
  rintro e w1 ⟨rfl, hb1⟩
  replace V5 := V5.ab hb1
  replace VM := VM.ab hb1
  replace VC := VC.ab hb1
  replace BW := BW.trans hb1
  by_cases h40 : 40 < ms.length
  · have d40 : decide ((40 : Int) < (ms.length : Int)) = true := by simp; omega
    clear h40
    go_wp2
    go_ret
    exact ⟨rfl, abA⟩
  have d40 : decide ((40 : Int) < (ms.length : Int)) = false := by simp; omega
  have HM := Lib.hid h40
  clear h40 hb1
  go_wp2_with (first
              | (refine list_ldJ rfl _ rfl rfl V5 rfl ?_))
  refine (jtwin_any a x _ (h.ab BW)).mono ?_
  rintro e w2 ⟨r2, m11, hr2, rfl, J11, hb2⟩
  obtain rfl : x = r2 := hr2.out.symm
  clear hr2
  go_wp2_with (first
              | (refine list_stJ rfl _ _ rfl rfl rfl (VB.var (vs := [.slice none 0 0, .slice none 0 0, .int .i64 0, .bool false, .slice none 0 0, .slice none 0 0, .int .i64 0, .bool false, .int .i64 0, .slice none 0 0, .slice none 0 0, .int .i64 0, .bool false, .int .i64 0, .int .i64 0, .int .i64 0, .int .i64 0, .int .i64 0, .int .i64 0, .int .i64 0, .int .i64 0, .int .i64 0, .int .i64 0]) (VB.box (new_plain rfl)) rfl) rfl rfl ?_
                 intro w3 hw3
                 have bw3 := hb2.trans (hw3.ab w2 ((Ab.refl w2).alloc _) (Nat.le_refl _))
                 replace V5 := V5.ab bw3
                 replace VM := VM.ab bw3
                 replace VC := VC.ab bw3
                 replace BW := BW.trans bw3
                 have V11 := hw3.v
                 replace J11 := JM.stored (JM.ab J11 ((Ab.refl w2).alloc _)) hw3
                 clear hw3 hb2 bw3))
  refine (jnew_any n _).mono ?_
  rintro e w4 ⟨r4, e4, m12, hr4, rfl, J12, hb4⟩
  go_wp2_with (first
              | (refine list_stJ rfl _ _ rfl rfl rfl (VB.var (vs := [.slice none 0 0, .slice none 0 0, .int .i64 0, .bool false, .slice none 0 0, .slice none 0 0, .int .i64 0, .bool false, .int .i64 0, .slice none 0 0, .slice none 0 0, .int .i64 0, .bool false, .int .i64 0, .int .i64 0, .int .i64 0, .int .i64 0, .int .i64 0, .int .i64 0, .int .i64 0, .int .i64 0, .int .i64 0, .int .i64 0]) (VB.box (new_plain rfl)) rfl) rfl rfl ?_
                 intro w5 hw5
                 have bw5 := hb4.trans (hw5.ab w4 ((Ab.refl w4).alloc _) (Nat.le_refl _))
                 replace V5 := V5.ab bw5
                 replace VM := VM.ab bw5
                 replace VC := VC.ab bw5
                 replace V11 := V11.ab bw5
                 replace J11 := J11.ab bw5
                 replace BW := BW.trans bw5
                 have V12 := hw5.v
                 replace J12 := JM.stored (JM.ab J12 ((Ab.refl w4).alloc _)) hw5
                 clear hw5 hb4 bw5))
  refine (jrnew_any n _).mono ?_
  rintro e w6 ⟨r6, e6, m14, hr6, rfl, J14, hb6⟩
  obtain ⟨e46, e46'⟩ := Prod.mk.inj (hr4.out.trans hr6.out.symm)
  obtain rfl : r4 = r6 := e46
  obtain rfl : e4 = e6 := e46'
  clear hr4 hr6
  go_upto_region 6 with (first
              | (refine list_stJ rfl _ _ rfl rfl rfl (VB.var (vs := [.slice none 0 0, .slice none 0 0, .int .i64 0, .bool false, .slice none 0 0, .slice none 0 0, .int .i64 0, .bool false, .int .i64 0, .slice none 0 0, .slice none 0 0, .int .i64 0, .bool false, .int .i64 0, .int .i64 0, .int .i64 0, .int .i64 0, .int .i64 0, .int .i64 0, .int .i64 0, .int .i64 0, .int .i64 0, .int .i64 0]) (VB.box (new_plain rfl)) rfl) rfl rfl ?_
                 intro w7 hw7
                 have bw7 := hb6.trans (hw7.ab w6 ((Ab.refl w6).alloc _) (Nat.le_refl _))
                 replace V5 := V5.ab bw7
                 replace VM := VM.ab bw7
                 replace VC := VC.ab bw7
                 replace V11 := V11.ab bw7
                 replace V12 := V12.ab bw7
                 replace J11 := J11.ab bw7
                 replace J12 := J12.ab bw7
                 replace BW := BW.trans bw7
                 have V14 := hw7.v
                 replace J14 := JM.stored (JM.ab J14 ((Ab.refl w6).alloc _)) hw7
                 clear hw7 hb6 bw7))
  have xq0 := (VC).at 0 rfl
  have xq1 := (VC).at 1 rfl
  have xq2 := (VC).at 2 rfl
  have xq3 := (VC).at 3 rfl
  have xq4 := (VC).at 4 rfl
  have xq5 := (VC).at 5 rfl
  have xq6 := (VC).at 6 rfl
  have xq7 := (VC).at 7 rfl
  go_wp2_with fail
  refine (apply_any c hc A cap ms _ (hms.ab BW) (by have := HM.out; omega)).mono ?_
  rintro e w8 ⟨c8, e8, hr8, rfl, hl8, hb8⟩
  have A8 := (Ab.refl w8).alloc (.cells #[.int .i64 (cx c8 0), .int .i64 (cx c8 1), .int .i64 (cx c8 2), .int .i64 (cx c8 3), .int .i64 (cx c8 4), .int .i64 (cx c8 5), .int .i64 (cx c8 6), .int .i64 (cx c8 7)] 30 (0, 0))
  have V16 : VB (w8.alloc (.cells #[.int .i64 (cx c8 0), .int .i64 (cx c8 1), .int .i64 (cx c8 2), .int .i64 (cx c8 3), .int .i64 (cx c8 4), .int .i64 (cx c8 5), .int .i64 (cx c8 6), .int .i64 (cx c8 7)] 30 (0, 0))) w8.heap.size [.int .i64 (cx c8 0), .int .i64 (cx c8 1), .int .i64 (cx c8 2), .int .i64 (cx c8 3), .int .i64 (cx c8 4), .int .i64 (cx c8 5), .int .i64 (cx c8 6), .int .i64 (cx c8 7)] := VB.box (new_plain rfl)
  have b8 := hb8.trans A8
  replace V5 := V5.ab b8
  replace VM := VM.ab b8
  replace VC := VC.ab b8
  replace V11 := V11.ab b8
  replace V12 := V12.ab b8
  replace V14 := V14.ab b8
  replace J11 := J11.ab b8
  replace J12 := J12.ab b8
  replace J14 := J14.ab b8
  replace BW := BW.trans b8
  clear xq0 xq1 xq2 xq3 xq4 xq5 xq6 xq7
  go_upto_region 7 with fail
  have xq0 := (VC).at 0 rfl
  have xq1 := (VC).at 1 rfl
  have xq2 := (VC).at 2 rfl
  have xq3 := (VC).at 3 rfl
  have xq4 := (VC).at 4 rfl
  have xq5 := (VC).at 5 rfl
  have xq6 := (VC).at 6 rfl
  have xq7 := (VC).at 7 rfl
  go_wp2_with fail
  refine (jrapply_any c hc A cap ms _ (hms.ab BW) (by have := HM.out; omega)).mono ?_
  rintro e w9 ⟨c9, e9, hr9, rfl, hl9, hb9⟩
  obtain ⟨e89, e89'⟩ := Prod.mk.inj (hr8.out.trans hr9.out.symm)
  obtain rfl : c8 = c9 := e89
  obtain rfl : e8 = e9 := e89'
  clear hr8 hr9 hl9
  have A9 := (Ab.refl w9).alloc (.cells #[.int .i64 (cx c8 0), .int .i64 (cx c8 1), .int .i64 (cx c8 2), .int .i64 (cx c8 3), .int .i64 (cx c8 4), .int .i64 (cx c8 5), .int .i64 (cx c8 6), .int .i64 (cx c8 7)] 30 (0, 0))
  have V18 : VB (w9.alloc (.cells #[.int .i64 (cx c8 0), .int .i64 (cx c8 1), .int .i64 (cx c8 2), .int .i64 (cx c8 3), .int .i64 (cx c8 4), .int .i64 (cx c8 5), .int .i64 (cx c8 6), .int .i64 (cx c8 7)] 30 (0, 0))) w9.heap.size [.int .i64 (cx c8 0), .int .i64 (cx c8 1), .int .i64 (cx c8 2), .int .i64 (cx c8 3), .int .i64 (cx c8 4), .int .i64 (cx c8 5), .int .i64 (cx c8 6), .int .i64 (cx c8 7)] := VB.box (new_plain rfl)
  have b9 := hb9.trans A9
  replace V5 := V5.ab b9
  replace VM := VM.ab b9
  replace VC := VC.ab b9
  replace V11 := V11.ab b9
  replace V12 := V12.ab b9
  replace V14 := V14.ab b9
  replace V16 := V16.ab b9
  replace J11 := J11.ab b9
  replace J12 := J12.ab b9
  replace J14 := J14.ab b9
  replace BW := BW.trans b9
  clear xq0 xq1 xq2 xq3 xq4 xq5 xq6 xq7
  go_upto_region 8 with fail
  have mq0 := VM.at 0 rfl
  have mq1 := VM.at 1 rfl
  go_wp2_with (first
              | (refine list_ldJ rfl _ rfl rfl V11 rfl ?_))
  refine (jdo_any m11 x _ J11 m g hi).mono ?_
  rintro e w10 ⟨r10, k10, e10, m20, hr10, rfl, J20, hb10⟩
  clear mq0 mq1 A8 A9 b8 b9
  go_upto_region 9 with (first
              | (refine list_stJ rfl _ _ rfl rfl rfl (VB.var (vs := [.slice none 0 0, .slice none 0 0, .int .i64 0, .bool false, .slice none 0 0, .slice none 0 0, .int .i64 0, .bool false, .int .i64 0, .slice none 0 0, .slice none 0 0, .int .i64 0, .bool false, .int .i64 0, .int .i64 0, .int .i64 0, .int .i64 0, .int .i64 0, .int .i64 0, .int .i64 0, .int .i64 0, .int .i64 0, .int .i64 0]) (VB.box (new_plain rfl)) rfl) rfl rfl ?_
                 intro w11 hw11
                 have bw11 := hb10.trans (hw11.ab w10 ((Ab.refl w10).alloc _) (Nat.le_refl _))
                 replace V5 := V5.ab bw11
                 replace VM := VM.ab bw11
                 replace VC := VC.ab bw11
                 replace V11 := V11.ab bw11
                 replace V12 := V12.ab bw11
                 replace V14 := V14.ab bw11
                 replace V16 := V16.ab bw11
                 replace V18 := V18.ab bw11
                 replace J11 := J11.ab bw11
                 replace J12 := J12.ab bw11
                 replace J14 := J14.ab bw11
                 replace BW := BW.trans bw11
                 have V20 := hw11.v
                 replace J20 := JM.stored (JM.ab J20 ((Ab.refl w10).alloc _)) hw11
                 clear hw11 hb10 bw11))
  have mq0 := VM.at 0 rfl
  have mq1 := VM.at 1 rfl
  go_wp2_with (first
              | (refine list_ldJ rfl _ rfl rfl V5 rfl ?_))
  refine (jrdo_any a x _ (h.ab BW) m g hi).mono ?_
  rintro e w12 ⟨r12, k12, e12, m23, hr12, rfl, J23, hb12⟩
  obtain ⟨ea, eb⟩ := Prod.mk.inj (hr10.out.trans hr12.out.symm)
  obtain ⟨ec, ed⟩ := Prod.mk.inj eb
  obtain rfl : r10 = r12 := ea
  obtain rfl : k10 = k12 := ec
  obtain rfl : e10 = e12 := ed
  clear hr10 hr12 eb mq0 mq1
  go_upto_region 10 with (first
              | (refine list_stJ rfl _ _ rfl rfl rfl (VB.var (vs := [.slice none 0 0, .slice none 0 0, .int .i64 0, .bool false, .slice none 0 0, .slice none 0 0, .int .i64 0, .bool false, .int .i64 0, .slice none 0 0, .slice none 0 0, .int .i64 0, .bool false, .int .i64 0, .int .i64 0, .int .i64 0, .int .i64 0, .int .i64 0, .int .i64 0, .int .i64 0, .int .i64 0, .int .i64 0, .int .i64 0]) (VB.box (new_plain rfl)) rfl) rfl rfl ?_
                 intro w13 hw13
                 have bw13 := hb12.trans (hw13.ab w12 ((Ab.refl w12).alloc _) (Nat.le_refl _))
                 replace V5 := V5.ab bw13
                 replace VM := VM.ab bw13
                 replace VC := VC.ab bw13
                 replace V11 := V11.ab bw13
                 replace V12 := V12.ab bw13
                 replace V14 := V14.ab bw13
                 replace V16 := V16.ab bw13
                 replace V18 := V18.ab bw13
                 replace V20 := V20.ab bw13
                 replace J11 := J11.ab bw13
                 replace J12 := J12.ab bw13
                 replace J14 := J14.ab bw13
                 replace J20 := J20.ab bw13
                 replace BW := BW.trans bw13
                 have V23 := hw13.v
                 replace J23 := JM.stored (JM.ab J23 ((Ab.refl w12).alloc _)) hw13
                 clear hw13 hb12 bw13))
  go_wp2_with (first
              | (refine list_ldJ rfl _ rfl rfl V12 rfl ?_)
              | (refine list_ldJ rfl _ rfl rfl V14 rfl ?_))
  refine (jsame_true m12 m14 r4 _ J12 J14).mono ?_
  rintro e w14 ⟨rfl, hb14⟩
  replace V5 := V5.ab hb14
  replace VM := VM.ab hb14
  replace VC := VC.ab hb14
  replace V11 := V11.ab hb14
  replace V12 := V12.ab hb14
  replace V14 := V14.ab hb14
  replace V16 := V16.ab hb14
  replace V18 := V18.ab hb14
  replace V20 := V20.ab hb14
  replace V23 := V23.ab hb14
  replace J11 := J11.ab hb14
  replace J12 := J12.ab hb14
  replace J14 := J14.ab hb14
  replace J20 := J20.ab hb14
  replace J23 := J23.ab hb14
  replace BW := BW.trans hb14
  clear hb14
  have heq := fun w => run_eight c8 c8 hl8 hl8 w true (by simp)
  have xq0 := (V16).at 0 rfl
  have xq1 := (V16).at 1 rfl
  have xq2 := (V16).at 2 rfl
  have xq3 := (V16).at 3 rfl
  have xq4 := (V16).at 4 rfl
  have xq5 := (V16).at 5 rfl
  have xq6 := (V16).at 6 rfl
  have xq7 := (V16).at 7 rfl
  have yq0 := (V18).at 0 rfl
  have yq1 := (V18).at 1 rfl
  have yq2 := (V18).at 2 rfl
  have yq3 := (V18).at 3 rfl
  have yq4 := (V18).at 4 rfl
  have yq5 := (V18).at 5 rfl
  have yq6 := (V18).at 6 rfl
  have yq7 := (V18).at 7 rfl
  go_wp2_with (first
              | (refine list_ldJg (by kernel_rfl) _ rfl rfl V20 rfl ?_)
              | (refine list_ldJg (by kernel_rfl) _ rfl rfl V23 rfl ?_))
  refine (jsame_true m20 m23 r10 _ J20 J23).mono ?_
  rintro e w15 ⟨rfl, hb15⟩
  clear heq xq0 yq0 xq1 yq1 xq2 yq2 xq3 yq3 xq4 yq4 xq5 yq5 xq6 yq6 xq7 yq7
  clear V12 V14 V16 V18 V20 V23 J12 J14 J20 J23
  replace V5 := V5.ab hb15
  replace VM := VM.ab hb15
  replace VC := VC.ab hb15
  replace V11 := V11.ab hb15
  replace J11 := J11.ab hb15
  replace BW := BW.trans hb15
  clear hb15
  go_upto_region 12 with fail
  go_wp2_with (first
              | (refine list_ldJ rfl _ rfl rfl V11 rfl ?_))
  refine (jsync_any m11 x _ J11 g hi).mono ?_
  rintro e w16 ⟨r16, e16, m26, hr16, rfl, J26, hb16⟩
  go_wp2_with (first
              | (refine list_stJ rfl _ _ rfl rfl rfl (VB.var (vs := [.slice none 0 0, .slice none 0 0, .int .i64 0, .bool false, .slice none 0 0, .slice none 0 0, .int .i64 0, .bool false, .int .i64 0, .slice none 0 0, .slice none 0 0, .int .i64 0, .bool false, .int .i64 0, .int .i64 0, .int .i64 0, .int .i64 0, .int .i64 0, .int .i64 0, .int .i64 0, .int .i64 0, .int .i64 0, .int .i64 0]) (VB.box (new_plain rfl)) rfl) rfl rfl ?_
                 intro w17 hw17
                 have bw17 := hb16.trans (hw17.ab w16 ((Ab.refl w16).alloc _) (Nat.le_refl _))
                 replace V5 := V5.ab bw17
                 replace VM := VM.ab bw17
                 replace VC := VC.ab bw17
                 replace V11 := V11.ab bw17
                 replace J11 := J11.ab bw17
                 replace BW := BW.trans bw17
                 have V26 := hw17.v
                 replace J26 := JM.stored (JM.ab J26 ((Ab.refl w16).alloc _)) hw17
                 clear hw17 hb16 bw17)
              | (refine list_ldJ rfl _ rfl rfl V5 rfl ?_))
  refine (jrsync_any a x _ (h.ab BW) g hi).mono ?_
  rintro e w18 ⟨r18, e18, m28, hr18, rfl, J28, hb18⟩
  obtain ⟨ea, eb⟩ := Prod.mk.inj (hr16.out.trans hr18.out.symm)
  obtain rfl : r16 = r18 := ea
  obtain rfl : e16 = e18 := eb
  clear hr16 hr18
  go_wp2_with (first
              | (refine list_stJ rfl _ _ rfl rfl rfl (VB.var (vs := [.slice none 0 0, .slice none 0 0, .int .i64 0, .bool false, .slice none 0 0, .slice none 0 0, .int .i64 0, .bool false, .int .i64 0, .slice none 0 0, .slice none 0 0, .int .i64 0, .bool false, .int .i64 0, .int .i64 0, .int .i64 0, .int .i64 0, .int .i64 0, .int .i64 0, .int .i64 0, .int .i64 0, .int .i64 0, .int .i64 0]) (VB.box (new_plain rfl)) rfl) rfl rfl ?_
                 intro w19 hw19
                 have bw19 := hb18.trans (hw19.ab w18 ((Ab.refl w18).alloc _) (Nat.le_refl _))
                 replace V5 := V5.ab bw19
                 replace VM := VM.ab bw19
                 replace VC := VC.ab bw19
                 replace V11 := V11.ab bw19
                 replace V26 := V26.ab bw19
                 replace J11 := J11.ab bw19
                 replace J26 := J26.ab bw19
                 replace BW := BW.trans bw19
                 have V28 := hw19.v
                 replace J28 := JM.stored (JM.ab J28 ((Ab.refl w18).alloc _)) hw19
                 clear hw19 hb18 bw19)
              | (refine list_ldJ rfl _ rfl rfl V11 rfl ?_))
  refine (jsave_any m11 x _ J11 g hi).mono ?_
  rintro e w20 ⟨r20, e20, m30, hr20, rfl, J30, hb20⟩
  go_wp2_with (first
              | (refine list_stJ rfl _ _ rfl rfl rfl (VB.var (vs := [.slice none 0 0, .slice none 0 0, .int .i64 0, .bool false, .slice none 0 0, .slice none 0 0, .int .i64 0, .bool false, .int .i64 0, .slice none 0 0, .slice none 0 0, .int .i64 0, .bool false, .int .i64 0, .int .i64 0, .int .i64 0, .int .i64 0, .int .i64 0, .int .i64 0, .int .i64 0, .int .i64 0, .int .i64 0, .int .i64 0]) (VB.box (new_plain rfl)) rfl) rfl rfl ?_
                 intro w21 hw21
                 have bw21 := hb20.trans (hw21.ab w20 ((Ab.refl w20).alloc _) (Nat.le_refl _))
                 replace V5 := V5.ab bw21
                 replace VM := VM.ab bw21
                 replace VC := VC.ab bw21
                 replace V11 := V11.ab bw21
                 replace V26 := V26.ab bw21
                 replace V28 := V28.ab bw21
                 replace J11 := J11.ab bw21
                 replace J26 := J26.ab bw21
                 replace J28 := J28.ab bw21
                 replace BW := BW.trans bw21
                 have V30 := hw21.v
                 replace J30 := JM.stored (JM.ab J30 ((Ab.refl w20).alloc _)) hw21
                 clear hw21 hb20 bw21)
              | (refine list_ldJ rfl _ rfl rfl V5 rfl ?_))
  refine (jrsave_any a x _ (h.ab BW) g hi).mono ?_
  rintro e w22 ⟨r22, e22, m32, hr22, rfl, J32, hb22⟩
  obtain ⟨ea, eb⟩ := Prod.mk.inj (hr20.out.trans hr22.out.symm)
  obtain rfl : r20 = r22 := ea
  obtain rfl : e20 = e22 := eb
  clear hr20 hr22
  go_upto_region 16 with (first
              | (refine list_stJ rfl _ _ rfl rfl rfl (VB.var (vs := [.slice none 0 0, .slice none 0 0, .int .i64 0, .bool false, .slice none 0 0, .slice none 0 0, .int .i64 0, .bool false, .int .i64 0, .slice none 0 0, .slice none 0 0, .int .i64 0, .bool false, .int .i64 0, .int .i64 0, .int .i64 0, .int .i64 0, .int .i64 0, .int .i64 0, .int .i64 0, .int .i64 0, .int .i64 0, .int .i64 0]) (VB.box (new_plain rfl)) rfl) rfl rfl ?_
                 intro w23 hw23
                 have bw23 := hb22.trans (hw23.ab w22 ((Ab.refl w22).alloc _) (Nat.le_refl _))
                 replace V5 := V5.ab bw23
                 replace VM := VM.ab bw23
                 replace VC := VC.ab bw23
                 replace V11 := V11.ab bw23
                 replace V26 := V26.ab bw23
                 replace V28 := V28.ab bw23
                 replace V30 := V30.ab bw23
                 replace J11 := J11.ab bw23
                 replace J26 := J26.ab bw23
                 replace J28 := J28.ab bw23
                 replace J30 := J30.ab bw23
                 replace BW := BW.trans bw23
                 have V32 := hw23.v
                 replace J32 := JM.stored (JM.ab J32 ((Ab.refl w22).alloc _)) hw23
                 clear hw23 hb22 bw23))
  refine wp_region_held_drew (by kernel_rfl) (S := fun w' => Ab w23 w') ?_ (fun hHeld => ?_)
  · exact abA
  (refine wpAnyH_take (i := 0) (v := .agg #[.slice m11.m.A x.s.a.s.length m11.m.ca, .slice m11.m.B x.s.a.t.length m11.m.cb, .int .i64 x.s.a.cap, .bool x.s.a.down, .slice m11.m.C x.s.b.s.length m11.m.cc, .slice m11.m.D x.s.b.t.length m11.m.cd, .int .i64 x.s.b.cap, .bool x.s.b.down, .int .i64 x.s.n, .slice m11.A x.l.dev.s.length m11.ca, .slice m11.B x.l.dev.t.length m11.cb, .int .i64 x.l.dev.cap, .bool x.l.dev.down, .int .i64 x.l.first, .int .i64 x.l.next, .int .i64 (cx x.c 0), .int .i64 (cx x.c 1), .int .i64 (cx x.c 2), .int .i64 (cx x.c 3), .int .i64 (cx x.c 4), .int .i64 (cx x.c 5), .int .i64 (cx x.c 6), .int .i64 (cx x.c 7)]) rfl (by kernel_rfl) (by kernel_rfl) (by kernel_rfl) (fun _ _ _ h => h) (yieldsIf_load_mid (by kernel_rfl) _ _ rfl _ 0 rfl [.slice m11.m.A x.s.a.s.length m11.m.ca, .slice m11.m.B x.s.a.t.length m11.m.cb, .int .i64 x.s.a.cap, .bool x.s.a.down, .slice m11.m.C x.s.b.s.length m11.m.cc, .slice m11.m.D x.s.b.t.length m11.m.cd, .int .i64 x.s.b.cap, .bool x.s.b.down, .int .i64 x.s.n, .slice m11.A x.l.dev.s.length m11.ca, .slice m11.B x.l.dev.t.length m11.cb, .int .i64 x.l.dev.cap, .bool x.l.dev.down, .int .i64 x.l.first, .int .i64 x.l.next, .int .i64 (cx x.c 0), .int .i64 (cx x.c 1), .int .i64 (cx x.c 2), .int .i64 (cx x.c 3), .int .i64 (cx x.c 4), .int .i64 (cx x.c 5), .int .i64 (cx x.c 6), .int .i64 (cx x.c 7)] _ (fun w hSw => VB.rangeAt (V11.ab hSw) 0 23) Tryz.underlying32 rfl (by kernel_rfl)) (by assumption) ?_
   (try simp only [Act.put, stA, st0, st1]))
  (refine wpAnyH_take (i := 2) (v := .agg #[.slice a.m.A x.s.a.s.length a.m.ca, .slice a.m.B x.s.a.t.length a.m.cb, .int .i64 x.s.a.cap, .bool x.s.a.down, .slice a.m.C x.s.b.s.length a.m.cc, .slice a.m.D x.s.b.t.length a.m.cd, .int .i64 x.s.b.cap, .bool x.s.b.down, .int .i64 x.s.n, .slice a.A x.l.dev.s.length a.ca, .slice a.B x.l.dev.t.length a.cb, .int .i64 x.l.dev.cap, .bool x.l.dev.down, .int .i64 x.l.first, .int .i64 x.l.next, .int .i64 (cx x.c 0), .int .i64 (cx x.c 1), .int .i64 (cx x.c 2), .int .i64 (cx x.c 3), .int .i64 (cx x.c 4), .int .i64 (cx x.c 5), .int .i64 (cx x.c 6), .int .i64 (cx x.c 7)]) rfl (by kernel_rfl) (by kernel_rfl) (by kernel_rfl) (fun _ _ _ h => h) (yieldsIf_load_mid (by kernel_rfl) _ _ rfl _ 0 rfl [.slice a.m.A x.s.a.s.length a.m.ca, .slice a.m.B x.s.a.t.length a.m.cb, .int .i64 x.s.a.cap, .bool x.s.a.down, .slice a.m.C x.s.b.s.length a.m.cc, .slice a.m.D x.s.b.t.length a.m.cd, .int .i64 x.s.b.cap, .bool x.s.b.down, .int .i64 x.s.n, .slice a.A x.l.dev.s.length a.ca, .slice a.B x.l.dev.t.length a.cb, .int .i64 x.l.dev.cap, .bool x.l.dev.down, .int .i64 x.l.first, .int .i64 x.l.next, .int .i64 (cx x.c 0), .int .i64 (cx x.c 1), .int .i64 (cx x.c 2), .int .i64 (cx x.c 3), .int .i64 (cx x.c 4), .int .i64 (cx x.c 5), .int .i64 (cx x.c 6), .int .i64 (cx x.c 7)] _ (fun w hSw => VB.rangeAt (V5.ab hSw) 0 23) Tryz.underlying32 rfl (by kernel_rfl)) (by assumption) ?_
   (try simp only [Act.put, stA, st0, st1]))
  (refine wpAnyH_ready (rs := [1]) (by kernel_rfl) (by simp) ?_)
  refine AllReadyH.cons rfl (fun K hK => ?_) AllReadyH.nil
  (go_simp
   ((go_at_call 20)
    refine (jcheck_any m11 x _ (J11.ab hHeld) g hi).mono ?_
    rintro e w24 ⟨ck1, hck1, rfl, hb24⟩)
   (try go_wp2_with fail)
   (refine hK.out _ _ ?_ (fun hHeld => ?_)
    · (try dsimp only); exact hHeld.trans hb24
    clear hK K
    (try simp only [Act.put, stA, st0, st1])))
  (refine wpAnyH_ready (rs := [3]) (by kernel_rfl) (by simp) ?_)
  refine AllReadyH.cons rfl (fun K hK => ?_) AllReadyH.nil
  (go_simp
   ((go_at_call 21)
    refine (jrcheck_any a x _ (h.ab (BW.trans hHeld)) g hi).mono ?_
    rintro e w25 ⟨ck2, hck2, rfl, hb25⟩
    obtain rfl : ck1 = ck2 := hck1.out.trans hck2.out.symm
    clear hck1 hck2)
   (try go_wp2_with fail)
   (refine hK.out _ _ ?_ (fun hHeld => ?_)
    · (try dsimp only); exact hHeld.trans hb25
    clear hK K
    (try simp only [Act.put, stA, st0, st1])))
  (refine wpAnyH_take (i := 4) (v := ?_) rfl (by kernel_rfl) (by kernel_rfl) (by kernel_rfl) (fun _ _ _ h => h) (Or.inl ⟨by kernel_rfl, ?_⟩) (by assumption) ?_
   rotate_left
   · (intro w hSw; (try dsimp only at hSw); go_simp; (try with_reducible rfl))
   (try simp only [Act.put, stA, st0, st1]))
  (refine wpAnyH_take (i := 5) (v := ?_) rfl (by kernel_rfl) (by kernel_rfl) (by kernel_rfl) (fun _ _ _ h => h) (Or.inl ⟨by kernel_rfl, ?_⟩) (by assumption) ?_
   rotate_left
   · (intro w hSw; (try dsimp only at hSw); go_simp; (try with_reducible rfl))
   (try simp only [Act.put, stA, st0, st1]))
  (refine wpAnyH_take (i := 6) (v := .agg #[.slice m26.m.A r16.s.a.s.length m26.m.ca, .slice m26.m.B r16.s.a.t.length m26.m.cb, .int .i64 r16.s.a.cap, .bool r16.s.a.down, .slice m26.m.C r16.s.b.s.length m26.m.cc, .slice m26.m.D r16.s.b.t.length m26.m.cd, .int .i64 r16.s.b.cap, .bool r16.s.b.down, .int .i64 r16.s.n, .slice m26.A r16.l.dev.s.length m26.ca, .slice m26.B r16.l.dev.t.length m26.cb, .int .i64 r16.l.dev.cap, .bool r16.l.dev.down, .int .i64 r16.l.first, .int .i64 r16.l.next, .int .i64 (cx r16.c 0), .int .i64 (cx r16.c 1), .int .i64 (cx r16.c 2), .int .i64 (cx r16.c 3), .int .i64 (cx r16.c 4), .int .i64 (cx r16.c 5), .int .i64 (cx r16.c 6), .int .i64 (cx r16.c 7)]) rfl (by kernel_rfl) (by kernel_rfl) (by kernel_rfl) (fun _ _ _ h => h) (yieldsIf_load_mid (by kernel_rfl) _ _ rfl _ 0 rfl [.slice m26.m.A r16.s.a.s.length m26.m.ca, .slice m26.m.B r16.s.a.t.length m26.m.cb, .int .i64 r16.s.a.cap, .bool r16.s.a.down, .slice m26.m.C r16.s.b.s.length m26.m.cc, .slice m26.m.D r16.s.b.t.length m26.m.cd, .int .i64 r16.s.b.cap, .bool r16.s.b.down, .int .i64 r16.s.n, .slice m26.A r16.l.dev.s.length m26.ca, .slice m26.B r16.l.dev.t.length m26.cb, .int .i64 r16.l.dev.cap, .bool r16.l.dev.down, .int .i64 r16.l.first, .int .i64 r16.l.next, .int .i64 (cx r16.c 0), .int .i64 (cx r16.c 1), .int .i64 (cx r16.c 2), .int .i64 (cx r16.c 3), .int .i64 (cx r16.c 4), .int .i64 (cx r16.c 5), .int .i64 (cx r16.c 6), .int .i64 (cx r16.c 7)] _ (fun w hSw => VB.rangeAt (V26.ab hSw) 0 23) Tryz.underlying32 rfl (by kernel_rfl)) (by assumption) ?_
   (try simp only [Act.put, stA, st0, st1]))
  (refine wpAnyH_take (i := 7) (v := .agg #[.slice m28.m.A r16.s.a.s.length m28.m.ca, .slice m28.m.B r16.s.a.t.length m28.m.cb, .int .i64 r16.s.a.cap, .bool r16.s.a.down, .slice m28.m.C r16.s.b.s.length m28.m.cc, .slice m28.m.D r16.s.b.t.length m28.m.cd, .int .i64 r16.s.b.cap, .bool r16.s.b.down, .int .i64 r16.s.n, .slice m28.A r16.l.dev.s.length m28.ca, .slice m28.B r16.l.dev.t.length m28.cb, .int .i64 r16.l.dev.cap, .bool r16.l.dev.down, .int .i64 r16.l.first, .int .i64 r16.l.next, .int .i64 (cx r16.c 0), .int .i64 (cx r16.c 1), .int .i64 (cx r16.c 2), .int .i64 (cx r16.c 3), .int .i64 (cx r16.c 4), .int .i64 (cx r16.c 5), .int .i64 (cx r16.c 6), .int .i64 (cx r16.c 7)]) rfl (by kernel_rfl) (by kernel_rfl) (by kernel_rfl) (fun _ _ _ h => h) (yieldsIf_load_mid (by kernel_rfl) _ _ rfl _ 0 rfl [.slice m28.m.A r16.s.a.s.length m28.m.ca, .slice m28.m.B r16.s.a.t.length m28.m.cb, .int .i64 r16.s.a.cap, .bool r16.s.a.down, .slice m28.m.C r16.s.b.s.length m28.m.cc, .slice m28.m.D r16.s.b.t.length m28.m.cd, .int .i64 r16.s.b.cap, .bool r16.s.b.down, .int .i64 r16.s.n, .slice m28.A r16.l.dev.s.length m28.ca, .slice m28.B r16.l.dev.t.length m28.cb, .int .i64 r16.l.dev.cap, .bool r16.l.dev.down, .int .i64 r16.l.first, .int .i64 r16.l.next, .int .i64 (cx r16.c 0), .int .i64 (cx r16.c 1), .int .i64 (cx r16.c 2), .int .i64 (cx r16.c 3), .int .i64 (cx r16.c 4), .int .i64 (cx r16.c 5), .int .i64 (cx r16.c 6), .int .i64 (cx r16.c 7)] _ (fun w hSw => VB.rangeAt (V28.ab hSw) 0 23) Tryz.underlying32 rfl (by kernel_rfl)) (by assumption) ?_
   (try simp only [Act.put, stA, st0, st1]))
  (refine wpAnyH_ready (rs := [8]) (by kernel_rfl) (by simp) ?_)
  refine AllReadyH.cons rfl (fun K hK => ?_) AllReadyH.nil
  (go_simp
   ((go_at_call 15)
    refine (jsame_true m26 m28 r16 _ (J26.ab hHeld) (J28.ab hHeld)).mono ?_
    rintro e w26 ⟨rfl, hbw26⟩)
   (try go_wp2_with fail)
   (refine hK.out _ _ ?_ (fun hHeld => ?_)
    · (try dsimp only); exact hHeld.trans hbw26
    clear hK K
    (try simp only [Act.put, stA, st0, st1])))
  (refine wpAnyH_ready (rs := [9]) (by kernel_rfl) (by simp) ?_)
  refine AllReadyH.cons rfl (fun K hK => ?_) AllReadyH.nil
  (go_simp
   (refine hK.out _ _ ?_ (fun hHeld => ?_)
    · (try dsimp only); exact hHeld
    clear hK K
    (try simp only [Act.put, stA, st0, st1])))
  (refine wpAnyH_take (i := 10) (v := ?_) rfl (by kernel_rfl) (by kernel_rfl) (by kernel_rfl) (fun _ _ _ h => h) (Or.inl ⟨by kernel_rfl, ?_⟩) (by assumption) ?_
   rotate_left
   · (intro w hSw; (try dsimp only at hSw); go_simp; (try with_reducible rfl))
   (try simp only [Act.put, stA, st0, st1]))
  (refine wpAnyH_take (i := 11) (v := ?_) rfl (by kernel_rfl) (by kernel_rfl) (by kernel_rfl) (fun _ _ _ h => h) (Or.inl ⟨by kernel_rfl, ?_⟩) (by assumption) ?_
   rotate_left
   · (intro w hSw; (try dsimp only at hSw); go_simp; (try with_reducible rfl))
   (try simp only [Act.put, stA, st0, st1]))
  (refine wpAnyH_take (i := 12) (v := ?_) rfl (by kernel_rfl) (by kernel_rfl) (by kernel_rfl) (fun _ _ _ h => h) (Or.inl ⟨by kernel_rfl, ?_⟩) (by assumption) ?_
   rotate_left
   · (intro w hSw; (try dsimp only at hSw); go_simp; (try with_reducible rfl))
   (try simp only [Act.put, stA, st0, st1]))
  (refine wpAnyH_take (i := 13) (v := ?_) rfl (by kernel_rfl) (by kernel_rfl) (by kernel_rfl) (fun _ _ _ h => h) (Or.inl ⟨by kernel_rfl, ?_⟩) (by assumption) ?_
   rotate_left
   · (intro w hSw; (try dsimp only at hSw); go_simp; (try with_reducible rfl))
   (try simp only [Act.put, stA, st0, st1]))
  (refine wpAnyH_ready (rs := [14]) (by kernel_rfl) (by simp) ?_)
  refine AllReadyH.cons rfl (fun K hK => ?_) AllReadyH.nil
  (go_simp
   (refine hK.out _ _ ?_ (fun hHeld => ?_)
    · (try dsimp only); exact hHeld
    clear hK K
    (try simp only [Act.put, stA, st0, st1])))
  (refine wpAnyH_take (i := 15) (v := ?_) rfl (by kernel_rfl) (by kernel_rfl) (by kernel_rfl) (fun _ _ _ h => h) (Or.inl ⟨by kernel_rfl, ?_⟩) (by assumption) ?_
   rotate_left
   · (intro w hSw; (try dsimp only at hSw); go_simp; (try with_reducible rfl))
   (try simp only [Act.put, stA, st0, st1]))
  (refine wpAnyH_take (i := 16) (v := .agg #[.slice m30.m.A r20.s.a.s.length m30.m.ca, .slice m30.m.B r20.s.a.t.length m30.m.cb, .int .i64 r20.s.a.cap, .bool r20.s.a.down, .slice m30.m.C r20.s.b.s.length m30.m.cc, .slice m30.m.D r20.s.b.t.length m30.m.cd, .int .i64 r20.s.b.cap, .bool r20.s.b.down, .int .i64 r20.s.n, .slice m30.A r20.l.dev.s.length m30.ca, .slice m30.B r20.l.dev.t.length m30.cb, .int .i64 r20.l.dev.cap, .bool r20.l.dev.down, .int .i64 r20.l.first, .int .i64 r20.l.next, .int .i64 (cx r20.c 0), .int .i64 (cx r20.c 1), .int .i64 (cx r20.c 2), .int .i64 (cx r20.c 3), .int .i64 (cx r20.c 4), .int .i64 (cx r20.c 5), .int .i64 (cx r20.c 6), .int .i64 (cx r20.c 7)]) rfl (by kernel_rfl) (by kernel_rfl) (by kernel_rfl) (fun _ _ _ h => h) (yieldsIf_load_mid (by kernel_rfl) _ _ rfl _ 0 rfl [.slice m30.m.A r20.s.a.s.length m30.m.ca, .slice m30.m.B r20.s.a.t.length m30.m.cb, .int .i64 r20.s.a.cap, .bool r20.s.a.down, .slice m30.m.C r20.s.b.s.length m30.m.cc, .slice m30.m.D r20.s.b.t.length m30.m.cd, .int .i64 r20.s.b.cap, .bool r20.s.b.down, .int .i64 r20.s.n, .slice m30.A r20.l.dev.s.length m30.ca, .slice m30.B r20.l.dev.t.length m30.cb, .int .i64 r20.l.dev.cap, .bool r20.l.dev.down, .int .i64 r20.l.first, .int .i64 r20.l.next, .int .i64 (cx r20.c 0), .int .i64 (cx r20.c 1), .int .i64 (cx r20.c 2), .int .i64 (cx r20.c 3), .int .i64 (cx r20.c 4), .int .i64 (cx r20.c 5), .int .i64 (cx r20.c 6), .int .i64 (cx r20.c 7)] _ (fun w hSw => VB.rangeAt (V30.ab hSw) 0 23) Tryz.underlying32 rfl (by kernel_rfl)) (by assumption) ?_
   (try simp only [Act.put, stA, st0, st1]))
  (refine wpAnyH_take (i := 17) (v := .agg #[.slice m32.m.A r20.s.a.s.length m32.m.ca, .slice m32.m.B r20.s.a.t.length m32.m.cb, .int .i64 r20.s.a.cap, .bool r20.s.a.down, .slice m32.m.C r20.s.b.s.length m32.m.cc, .slice m32.m.D r20.s.b.t.length m32.m.cd, .int .i64 r20.s.b.cap, .bool r20.s.b.down, .int .i64 r20.s.n, .slice m32.A r20.l.dev.s.length m32.ca, .slice m32.B r20.l.dev.t.length m32.cb, .int .i64 r20.l.dev.cap, .bool r20.l.dev.down, .int .i64 r20.l.first, .int .i64 r20.l.next, .int .i64 (cx r20.c 0), .int .i64 (cx r20.c 1), .int .i64 (cx r20.c 2), .int .i64 (cx r20.c 3), .int .i64 (cx r20.c 4), .int .i64 (cx r20.c 5), .int .i64 (cx r20.c 6), .int .i64 (cx r20.c 7)]) rfl (by kernel_rfl) (by kernel_rfl) (by kernel_rfl) (fun _ _ _ h => h) (yieldsIf_load_mid (by kernel_rfl) _ _ rfl _ 0 rfl [.slice m32.m.A r20.s.a.s.length m32.m.ca, .slice m32.m.B r20.s.a.t.length m32.m.cb, .int .i64 r20.s.a.cap, .bool r20.s.a.down, .slice m32.m.C r20.s.b.s.length m32.m.cc, .slice m32.m.D r20.s.b.t.length m32.m.cd, .int .i64 r20.s.b.cap, .bool r20.s.b.down, .int .i64 r20.s.n, .slice m32.A r20.l.dev.s.length m32.ca, .slice m32.B r20.l.dev.t.length m32.cb, .int .i64 r20.l.dev.cap, .bool r20.l.dev.down, .int .i64 r20.l.first, .int .i64 r20.l.next, .int .i64 (cx r20.c 0), .int .i64 (cx r20.c 1), .int .i64 (cx r20.c 2), .int .i64 (cx r20.c 3), .int .i64 (cx r20.c 4), .int .i64 (cx r20.c 5), .int .i64 (cx r20.c 6), .int .i64 (cx r20.c 7)] _ (fun w hSw => VB.rangeAt (V32.ab hSw) 0 23) Tryz.underlying32 rfl (by kernel_rfl)) (by assumption) ?_
   (try simp only [Act.put, stA, st0, st1]))
  (refine wpAnyH_ready (rs := [18]) (by kernel_rfl) (by simp) ?_)
  refine AllReadyH.cons rfl (fun K hK => ?_) AllReadyH.nil
  (go_simp
   ((go_at_call 15)
    refine (jsame_true m30 m32 r20 _ (J30.ab hHeld) (J32.ab hHeld)).mono ?_
    rintro e w27 ⟨rfl, hbw27⟩)
   (try go_wp2_with fail)
   (refine hK.out _ _ ?_ (fun hHeld => ?_)
    · (try dsimp only); exact hHeld.trans hbw27
    clear hK K
    (try simp only [Act.put, stA, st0, st1])))
  (refine wpAnyH_ready (rs := [19]) (by kernel_rfl) (by simp) ?_)
  refine AllReadyH.cons rfl (fun K hK => ?_) AllReadyH.nil
  (go_simp
   (refine hK.out _ _ ?_ (fun hHeld => ?_)
    · (try dsimp only); exact hHeld
    clear hK K
    (try simp only [Act.put, stA, st0, st1])))
  (refine wpAnyH_take (i := 20) (v := ?_) rfl (by kernel_rfl) (by kernel_rfl) (by kernel_rfl) (fun _ _ _ h => h) (Or.inl ⟨by kernel_rfl, ?_⟩) (by assumption) ?_
   rotate_left
   · (intro w hSw; (try dsimp only at hSw); go_simp; (try with_reducible rfl))
   (try simp only [Act.put, stA, st0, st1]))
  (refine wpAnyH_take (i := 21) (v := ?_) rfl (by kernel_rfl) (by kernel_rfl) (by kernel_rfl) (fun _ _ _ h => h) (Or.inl ⟨by kernel_rfl, ?_⟩) (by assumption) ?_
   rotate_left
   · (intro w hSw; (try dsimp only at hSw); go_simp; (try with_reducible rfl))
   (try simp only [Act.put, stA, st0, st1]))
  (refine wpAnyH_take (i := 22) (v := ?_) rfl (by kernel_rfl) (by kernel_rfl) (by kernel_rfl) (fun _ _ _ h => h) (Or.inl ⟨by kernel_rfl, ?_⟩) (by assumption) ?_
   rotate_left
   · (intro w hSw; (try dsimp only at hSw); go_simp; (try with_reducible rfl))
   (try simp only [Act.put, stA, st0, st1]))
  (refine wpAnyH_take (i := 23) (v := ?_) rfl (by kernel_rfl) (by kernel_rfl) (by kernel_rfl) (fun _ _ _ h => h) (Or.inl ⟨by kernel_rfl, ?_⟩) (by assumption) ?_
   rotate_left
   · (intro w hSw; (try dsimp only at hSw); go_simp; (try with_reducible rfl))
   (try simp only [Act.put, stA, st0, st1]))
  (refine wpAnyH_ready (rs := [24]) (by kernel_rfl) (by simp) ?_)
  refine AllReadyH.cons rfl (fun K hK => ?_) AllReadyH.nil
  (go_simp
   (refine hK.out _ _ ?_ (fun hHeld => ?_)
    · (try dsimp only); exact hHeld
    clear hK K
    (try simp only [Act.put, stA, st0, st1])))
  (refine wpAnyH_take (i := 25) (v := ?_) rfl (by kernel_rfl) (by kernel_rfl) (by kernel_rfl) (fun _ _ _ h => h) (Or.inl ⟨by kernel_rfl, ?_⟩) (by assumption) ?_
   rotate_left
   · (intro w hSw; (try dsimp only at hSw); go_simp; (try with_reducible rfl))
   (try simp only [Act.put, stA, st0, st1]))
  (refine wpAnyH_take (i := 26) (v := .agg #[.slice m11.m.A x.s.a.s.length m11.m.ca, .slice m11.m.B x.s.a.t.length m11.m.cb, .int .i64 x.s.a.cap, .bool x.s.a.down, .slice m11.m.C x.s.b.s.length m11.m.cc, .slice m11.m.D x.s.b.t.length m11.m.cd, .int .i64 x.s.b.cap, .bool x.s.b.down, .int .i64 x.s.n, .slice m11.A x.l.dev.s.length m11.ca, .slice m11.B x.l.dev.t.length m11.cb, .int .i64 x.l.dev.cap, .bool x.l.dev.down, .int .i64 x.l.first, .int .i64 x.l.next, .int .i64 (cx x.c 0), .int .i64 (cx x.c 1), .int .i64 (cx x.c 2), .int .i64 (cx x.c 3), .int .i64 (cx x.c 4), .int .i64 (cx x.c 5), .int .i64 (cx x.c 6), .int .i64 (cx x.c 7)]) rfl (by kernel_rfl) (by kernel_rfl) (by kernel_rfl) (fun _ _ _ h => h) (yieldsIf_load_mid (by kernel_rfl) _ _ rfl _ 0 rfl [.slice m11.m.A x.s.a.s.length m11.m.ca, .slice m11.m.B x.s.a.t.length m11.m.cb, .int .i64 x.s.a.cap, .bool x.s.a.down, .slice m11.m.C x.s.b.s.length m11.m.cc, .slice m11.m.D x.s.b.t.length m11.m.cd, .int .i64 x.s.b.cap, .bool x.s.b.down, .int .i64 x.s.n, .slice m11.A x.l.dev.s.length m11.ca, .slice m11.B x.l.dev.t.length m11.cb, .int .i64 x.l.dev.cap, .bool x.l.dev.down, .int .i64 x.l.first, .int .i64 x.l.next, .int .i64 (cx x.c 0), .int .i64 (cx x.c 1), .int .i64 (cx x.c 2), .int .i64 (cx x.c 3), .int .i64 (cx x.c 4), .int .i64 (cx x.c 5), .int .i64 (cx x.c 6), .int .i64 (cx x.c 7)] _ (fun w hSw => VB.rangeAt (V11.ab hSw) 0 23) Tryz.underlying32 rfl (by kernel_rfl)) (by assumption) ?_
   (try simp only [Act.put, stA, st0, st1]))
  (refine wpAnyH_take (i := 27) (v := .agg #[.slice a.m.A x.s.a.s.length a.m.ca, .slice a.m.B x.s.a.t.length a.m.cb, .int .i64 x.s.a.cap, .bool x.s.a.down, .slice a.m.C x.s.b.s.length a.m.cc, .slice a.m.D x.s.b.t.length a.m.cd, .int .i64 x.s.b.cap, .bool x.s.b.down, .int .i64 x.s.n, .slice a.A x.l.dev.s.length a.ca, .slice a.B x.l.dev.t.length a.cb, .int .i64 x.l.dev.cap, .bool x.l.dev.down, .int .i64 x.l.first, .int .i64 x.l.next, .int .i64 (cx x.c 0), .int .i64 (cx x.c 1), .int .i64 (cx x.c 2), .int .i64 (cx x.c 3), .int .i64 (cx x.c 4), .int .i64 (cx x.c 5), .int .i64 (cx x.c 6), .int .i64 (cx x.c 7)]) rfl (by kernel_rfl) (by kernel_rfl) (by kernel_rfl) (fun _ _ _ h => h) (yieldsIf_load_mid (by kernel_rfl) _ _ rfl _ 0 rfl [.slice a.m.A x.s.a.s.length a.m.ca, .slice a.m.B x.s.a.t.length a.m.cb, .int .i64 x.s.a.cap, .bool x.s.a.down, .slice a.m.C x.s.b.s.length a.m.cc, .slice a.m.D x.s.b.t.length a.m.cd, .int .i64 x.s.b.cap, .bool x.s.b.down, .int .i64 x.s.n, .slice a.A x.l.dev.s.length a.ca, .slice a.B x.l.dev.t.length a.cb, .int .i64 x.l.dev.cap, .bool x.l.dev.down, .int .i64 x.l.first, .int .i64 x.l.next, .int .i64 (cx x.c 0), .int .i64 (cx x.c 1), .int .i64 (cx x.c 2), .int .i64 (cx x.c 3), .int .i64 (cx x.c 4), .int .i64 (cx x.c 5), .int .i64 (cx x.c 6), .int .i64 (cx x.c 7)] _ (fun w hSw => VB.rangeAt (V5.ab hSw) 0 23) Tryz.underlying32 rfl (by kernel_rfl)) (by assumption) ?_
   (try simp only [Act.put, stA, st0, st1]))
  (refine wpAnyH_ready (rs := [28]) (by kernel_rfl) (by simp) ?_)
  refine AllReadyH.cons rfl (fun K hK => ?_) AllReadyH.nil
  (go_simp
   ((go_at_call 15)
    refine (jsame_true m11 a x _ (J11.ab hHeld) (h.ab (BW.trans hHeld))).mono ?_
    rintro e w28 ⟨rfl, hbw28⟩)
   (try go_wp2_with fail)
   (refine hK.out _ _ ?_ (fun hHeld => ?_)
    · (try dsimp only); exact hHeld.trans hbw28
    clear hK K
    (try simp only [Act.put, stA, st0, st1])))
  (refine wpAnyH_ready (rs := [29]) (by kernel_rfl) (by simp) ?_)
  refine AllReadyH.cons rfl (fun K hK => ?_) AllReadyH.nil
  (go_simp
   (refine hK.out _ _ ?_ (fun hHeld => ?_)
    · (try dsimp only); exact hHeld
    clear hK K
    (try simp only [Act.put, stA, st0, st1])))
  (refine wpAnyH_ready (rs := [30]) (by kernel_rfl) (by simp) ?_)
  refine AllReadyH.cons rfl (fun K hK => ?_) AllReadyH.nil
  (go_simp
   (refine hK.out _ _ ?_ (fun hHeld => ?_)
    · (try dsimp only); exact hHeld
    clear hK K
    (try simp only [Act.put, stA, st0, st1])))
  refine wpAnyH_done (by kernel_rfl) ?_ _
  go_wp2
  go_ret
  exact ⟨rfl, BW.trans hHeld⟩
end Go.Proofs.YthgcfjhnnhigoaaGreat
