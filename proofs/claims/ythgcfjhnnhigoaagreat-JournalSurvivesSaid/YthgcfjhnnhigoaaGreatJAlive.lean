/- The examples of layer 6's statements: recovered, walked. Own work. -/
import Derived.Test.YthgcfjhnnhigoaaGreatGH
set_option linter.unusedVariables false
set_option linter.unusedSimpArgs false
namespace Go.Proofs.YthgcfjhnnhigoaaGreat
open Go.RowKit
open Slots (Sl)

set_option maxRecDepth 100000 in
set_option maxHeartbeats 6400000 in
/-- recovered, where recovery gives the state and the number that are asked for. -/
theorem recovered_true (a : JA) (x : JX) (w : World) (h : JM w a x) {o : Sl} {l : Wal.Log} {c0 : List Int} {rs rs' : List Frame.Rec} {u : Nat} {n : Int} {c : List Int} (hop : Slots.open_ x.s = (o, 0)) (hsc : Frame.IsScan (x.l.dev.s ++ x.l.dev.t) rs u) (hlo : Wal.open_ x.l.dev n rs u = (l, 0)) (hG : Jour.Good ⟨o, l, c0⟩ rs' n c) :
    Calls Tryz.prog 65 #[.agg #[.slice a.m.A x.s.a.s.length a.m.ca, .slice a.m.B x.s.a.t.length a.m.cb, .int .i64 x.s.a.cap, .bool x.s.a.down, .slice a.m.C x.s.b.s.length a.m.cc, .slice a.m.D x.s.b.t.length a.m.cd, .int .i64 x.s.b.cap, .bool x.s.b.down, .int .i64 x.s.n, .slice a.A x.l.dev.s.length a.ca, .slice a.B x.l.dev.t.length a.cb, .int .i64 x.l.dev.cap, .bool x.l.dev.down, .int .i64 x.l.first, .int .i64 x.l.next, .int .i64 (cx x.c 0), .int .i64 (cx x.c 1), .int .i64 (cx x.c 2), .int .i64 (cx x.c 3), .int .i64 (cx x.c 4), .int .i64 (cx x.c 5), .int .i64 (cx x.c 6), .int .i64 (cx x.c 7)], .int .i64 0, .agg #[.int .i64 (cx c0 0), .int .i64 (cx c0 1), .int .i64 (cx c0 2), .int .i64 (cx c0 3), .int .i64 (cx c0 4), .int .i64 (cx c0 5), .int .i64 (cx c0 6), .int .i64 (cx c0 7)], .int .i64 l.next] w fun e w' => e = .returned (.bool true) ∧ Ab w w' := by
  have hl0 := hG.state.2
  go_enter Tryz.func65, Tryz.ntmps65
  have hbx : VB ((w.alloc (.cells #[.slice a.m.A x.s.a.s.length a.m.ca, .slice a.m.B x.s.a.t.length a.m.cb, .int .i64 x.s.a.cap, .bool x.s.a.down, .slice a.m.C x.s.b.s.length a.m.cc, .slice a.m.D x.s.b.t.length a.m.cd, .int .i64 x.s.b.cap, .bool x.s.b.down, .int .i64 x.s.n, .slice a.A x.l.dev.s.length a.ca, .slice a.B x.l.dev.t.length a.cb, .int .i64 x.l.dev.cap, .bool x.l.dev.down, .int .i64 x.l.first, .int .i64 x.l.next, .int .i64 (cx x.c 0), .int .i64 (cx x.c 1), .int .i64 (cx x.c 2), .int .i64 (cx x.c 3), .int .i64 (cx x.c 4), .int .i64 (cx x.c 5), .int .i64 (cx x.c 6), .int .i64 (cx x.c 7)] 32 (0, 0))).alloc (.cells #[.int .i64 (cx c0 0), .int .i64 (cx c0 1), .int .i64 (cx c0 2), .int .i64 (cx c0 3), .int .i64 (cx c0 4), .int .i64 (cx c0 5), .int .i64 (cx c0 6), .int .i64 (cx c0 7)] 30 (0, 0))) w.heap.size [.slice a.m.A x.s.a.s.length a.m.ca, .slice a.m.B x.s.a.t.length a.m.cb, .int .i64 x.s.a.cap, .bool x.s.a.down, .slice a.m.C x.s.b.s.length a.m.cc, .slice a.m.D x.s.b.t.length a.m.cd, .int .i64 x.s.b.cap, .bool x.s.b.down, .int .i64 x.s.n, .slice a.A x.l.dev.s.length a.ca, .slice a.B x.l.dev.t.length a.cb, .int .i64 x.l.dev.cap, .bool x.l.dev.down, .int .i64 x.l.first, .int .i64 x.l.next, .int .i64 (cx x.c 0), .int .i64 (cx x.c 1), .int .i64 (cx x.c 2), .int .i64 (cx x.c 3), .int .i64 (cx x.c 4), .int .i64 (cx x.c 5), .int .i64 (cx x.c 6), .int .i64 (cx x.c 7)] := VB.box (old_alloc (new_plain rfl))
  have hcx : VB ((w.alloc (.cells #[.slice a.m.A x.s.a.s.length a.m.ca, .slice a.m.B x.s.a.t.length a.m.cb, .int .i64 x.s.a.cap, .bool x.s.a.down, .slice a.m.C x.s.b.s.length a.m.cc, .slice a.m.D x.s.b.t.length a.m.cd, .int .i64 x.s.b.cap, .bool x.s.b.down, .int .i64 x.s.n, .slice a.A x.l.dev.s.length a.ca, .slice a.B x.l.dev.t.length a.cb, .int .i64 x.l.dev.cap, .bool x.l.dev.down, .int .i64 x.l.first, .int .i64 x.l.next, .int .i64 (cx x.c 0), .int .i64 (cx x.c 1), .int .i64 (cx x.c 2), .int .i64 (cx x.c 3), .int .i64 (cx x.c 4), .int .i64 (cx x.c 5), .int .i64 (cx x.c 6), .int .i64 (cx x.c 7)] 32 (0, 0))).alloc (.cells #[.int .i64 (cx c0 0), .int .i64 (cx c0 1), .int .i64 (cx c0 2), .int .i64 (cx c0 3), .int .i64 (cx c0 4), .int .i64 (cx c0 5), .int .i64 (cx c0 6), .int .i64 (cx c0 7)] 30 (0, 0))) (w.heap.size + 1) [.int .i64 (cx c0 0), .int .i64 (cx c0 1), .int .i64 (cx c0 2), .int .i64 (cx c0 3), .int .i64 (cx c0 4), .int .i64 (cx c0 5), .int .i64 (cx c0 6), .int .i64 (cx c0 7)] := VB.box (new_plain (by simp))
  go_wp2_with (refine list_ldJ rfl _ rfl rfl (VB.ab hbx abA) rfl ?_)
  refine (jrecover_good a x _ (h.ab abA) hop hsc hlo hG).mono ?_
  rintro e w1 ⟨r, num, er, k, hr, rfl, hM, hb1⟩
  obtain ⟨rfl, h2⟩ := Prod.mk.inj hr.out
  obtain ⟨rfl, rfl⟩ := Prod.mk.inj h2
  clear hr h2
  have heq := fun w => run_eight c0 c0 hl0 hl0 w true (by simp)
  have vc := hcx.ab hb1
  have b1 : Ab w w1 := abA
  go_upto_region 2 with (refine list_stJ rfl _ _ rfl rfl rfl (VB.var (vs := [.slice none 0 0, .slice none 0 0, .int .i64 0, .bool false, .slice none 0 0, .slice none 0 0, .int .i64 0, .bool false, .int .i64 0, .slice none 0 0, .slice none 0 0, .int .i64 0, .bool false, .int .i64 0, .int .i64 0, .int .i64 0, .int .i64 0, .int .i64 0, .int .i64 0, .int .i64 0, .int .i64 0, .int .i64 0, .int .i64 0]) (VB.box (new_plain rfl)) rfl) rfl rfl ?_; intro w2 h2)
  have bw : Ab w1 w2 := h2.ab w1 ((Ab.refl w1).alloc _) (Nat.le_refl _)
  have vc := vc.ab bw
  have b2 := b1.trans bw
  have yq0 := (vc).at 0 rfl
  have yq1 := (vc).at 1 rfl
  have yq2 := (vc).at 2 rfl
  have yq3 := (vc).at 3 rfl
  have yq4 := (vc).at 4 rfl
  have yq5 := (vc).at 5 rfl
  have yq6 := (vc).at 6 rfl
  have yq7 := (vc).at 7 rfl
  have xq0 := (h2.v).at 15 rfl
  have xq1 := (h2.v).at 16 rfl
  have xq2 := (h2.v).at 17 rfl
  have xq3 := (h2.v).at 18 rfl
  have xq4 := (h2.v).at 19 rfl
  have xq5 := (h2.v).at 20 rfl
  have xq6 := (h2.v).at 21 rfl
  have xq7 := (h2.v).at 22 rfl
  have q14 := h2.v.at 14 rfl
  go_wp2
  go_ret
  exact ⟨rfl, b2⟩
end Go.Proofs.YthgcfjhnnhigoaaGreat
