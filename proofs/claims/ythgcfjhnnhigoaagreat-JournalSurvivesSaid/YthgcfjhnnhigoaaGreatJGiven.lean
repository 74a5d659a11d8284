/- given and alive of layer 6's law, walked. Own work. -/
import Derived.Test.YthgcfjhnnhigoaaGreatJStep
import Derived.Test.YthgcfjhnnhigoaaGreatJAlive
import Derived.Test.YthgcfjhnnhigoaaGreatJLawA
set_option linter.unusedVariables false
set_option linter.unusedSimpArgs false
namespace Go.Proofs.YthgcfjhnnhigoaaGreat
open Go.RowKit
open Slots (Sl)

/-- It returns a journal as the examples ask. -/
def RetGiven (w : World) (e : Ending) (w' : World) : Prop :=
  ∃ (r : JX) (a : JA), Hid (Jour.Given r) ∧ e = .returned (.agg #[.slice a.m.A r.s.a.s.length a.m.ca, .slice a.m.B r.s.a.t.length a.m.cb, .int .i64 r.s.a.cap, .bool r.s.a.down, .slice a.m.C r.s.b.s.length a.m.cc, .slice a.m.D r.s.b.t.length a.m.cd, .int .i64 r.s.b.cap, .bool r.s.b.down, .int .i64 r.s.n, .slice a.A r.l.dev.s.length a.ca, .slice a.B r.l.dev.t.length a.cb, .int .i64 r.l.dev.cap, .bool r.l.dev.down, .int .i64 r.l.first, .int .i64 r.l.next, .int .i64 (cx r.c 0), .int .i64 (cx r.c 1), .int .i64 (cx r.c 2), .int .i64 (cx r.c 3), .int .i64 (cx r.c 4), .int .i64 (cx r.c 5), .int .i64 (cx r.c 6), .int .i64 (cx r.c 7)]) ∧ JM w' a r ∧ Ab w w'

set_option maxRecDepth 100000 in
set_option maxHeartbeats 6400000 in
theorem jgiven_any (w : World) : Calls Tryz.prog 64 #[] w (RetGiven w) := by
  go_enter Tryz.func64, Tryz.ntmps64
  have VR : VB (w.alloc (.cells #[.slice none 0 0, .slice none 0 0, .int .i64 0, .bool false, .slice none 0 0, .slice none 0 0, .int .i64 0, .bool false, .int .i64 0, .slice none 0 0, .slice none 0 0, .int .i64 0, .bool false, .int .i64 0, .int .i64 0, .int .i64 0, .int .i64 0, .int .i64 0, .int .i64 0, .int .i64 0, .int .i64 0, .int .i64 0, .int .i64 0] 32 (0, 0))) w.heap.size [.slice none 0 0, .slice none 0 0, .int .i64 0, .bool false, .slice none 0 0, .slice none 0 0, .int .i64 0, .bool false, .int .i64 0, .slice none 0 0, .slice none 0 0, .int .i64 0, .bool false, .int .i64 0, .int .i64 0, .int .i64 0, .int .i64 0, .int .i64 0, .int .i64 0, .int .i64 0, .int .i64 0, .int .i64 0, .int .i64 0] := VB.box (new_plain rfl)
  have BW : Ab w (w.alloc (.cells #[.slice none 0 0, .slice none 0 0, .int .i64 0, .bool false, .slice none 0 0, .slice none 0 0, .int .i64 0, .bool false, .int .i64 0, .slice none 0 0, .slice none 0 0, .int .i64 0, .bool false, .int .i64 0, .int .i64 0, .int .i64 0, .int .i64 0, .int .i64 0, .int .i64 0, .int .i64 0, .int .i64 0, .int .i64 0, .int .i64 0] 32 (0, 0))) := abA
  go_wp2_with fail
  refine (jnew_any 1000 _).mono ?_
  rintro e w1 ⟨r1, e1, m1, hr1, rfl, J1, hb1⟩
  obtain ⟨h1, rfl⟩ := Prod.mk.inj (hr1.out.trans Jour.g0.1)
  have H1 := Lib.hid h1
  clear hr1 h1
  have zr := (VR.ab hb1).lt
  go_wp2_with (first
    | (refine list_stJ rfl _ _ rfl rfl rfl (VB.var (vs := [.slice none 0 0, .slice none 0 0, .int .i64 0, .bool false, .slice none 0 0, .slice none 0 0, .int .i64 0, .bool false, .int .i64 0, .slice none 0 0, .slice none 0 0, .int .i64 0, .bool false, .int .i64 0, .int .i64 0, .int .i64 0, .int .i64 0, .int .i64 0, .int .i64 0, .int .i64 0, .int .i64 0, .int .i64 0, .int .i64 0]) (VB.box (new_plain rfl)) rfl) rfl rfl ?_
       intro w2 h2
       have b2 := hb1.trans (h2.ab w1 ((Ab.refl w1).alloc _) (Nat.le_refl _))
       replace VR := VR.ab b2
       replace BW := BW.trans b2
       have V1 := h2.v
       replace J1 := JM.stored (JM.ab J1 ((Ab.refl w1).alloc _)) h2
       clear h2 hb1 b2)
    | (refine list_ldJ rfl _ rfl rfl V1 rfl ?_))
  refine (jdo_any m1 r1 _ J1 ⟨0, 5⟩ (some []) (by rw [H1.out]; exact Jour.g0.2.is)).mono ?_
  rintro e w3 ⟨r3, k3, e3, m3, hr3, rfl, J3, hb3⟩
  obtain ⟨h1, h2⟩ := Prod.mk.inj (hr3.out.trans (show Jour.doM r1 ⟨0, 5⟩ (some []) = (Jour.X1, 0, 0) by rw [H1.out]; exact Jour.g1.1))
  obtain ⟨rfl, rfl⟩ := Prod.mk.inj h2
  have H3 := Lib.hid h1
  clear hr3 h1 h2 H1 J1
  go_wp2_with (first
    | (refine list_stJ rfl _ _ rfl rfl rfl ((V1.ab hb3).var rfl) rfl rfl ?_
       intro w4 h4
       replace VR := (VR.ab hb3).mid h4.m (by omega)
       replace BW := h4.ab w (BW.trans hb3) (by omega)
       replace V1 := h4.v
       replace J3 := JM.stored J3 h4
       clear h4 hb3)
    | (refine list_ldJ rfl _ rfl rfl V1 rfl ?_))
  refine (jdo_any m3 r3 _ J3 ⟨1, -2⟩ (some [⟨0, Jour.written ⟨0, 5⟩⟩]) (by rw [H3.out]; exact Jour.g1.2.is)).mono ?_
  rintro e w5 ⟨r5, k5, e5, m5, hr5, rfl, J5, hb5⟩
  obtain ⟨h1, h2⟩ := Prod.mk.inj (hr5.out.trans (show Jour.doM r3 ⟨1, -2⟩ (some [⟨0, Jour.written ⟨0, 5⟩⟩]) = (Jour.X2, 1, 0) by rw [H3.out]; exact Jour.g2.1))
  obtain ⟨rfl, rfl⟩ := Prod.mk.inj h2
  have H5 := Lib.hid h1
  clear hr5 h1 h2 H3 J3
  go_wp2_with (first
    | (refine list_stJ rfl _ _ rfl rfl rfl ((V1.ab hb5).var rfl) rfl rfl ?_
       intro w6 h6
       replace VR := (VR.ab hb5).mid h6.m (by omega)
       replace BW := h6.ab w (BW.trans hb5) (by omega)
       replace V1 := h6.v
       replace J5 := JM.stored J5 h6
       clear h6 hb5)
    | (refine list_ldJ rfl _ rfl rfl V1 rfl ?_))
  refine (jsave_any m5 r5 _ J5 (some [⟨0, Jour.written ⟨0, 5⟩⟩, ⟨1, Jour.written ⟨1, -2⟩⟩]) (by rw [H5.out]; exact Jour.g2.2.is)).mono ?_
  rintro e w7 ⟨r7, e7, m7, hr7, rfl, J7, hb7⟩
  obtain ⟨h1, rfl⟩ := Prod.mk.inj (hr7.out.trans (show Jour.saveM r5 (some [⟨0, Jour.written ⟨0, 5⟩⟩, ⟨1, Jour.written ⟨1, -2⟩⟩]) = (Jour.X3, 0) by rw [H5.out]; exact Jour.g3.1))
  have H7 := Lib.hid h1
  clear hr7 h1 H5 J5
  go_wp2_with (first
    | (refine list_stJ rfl _ _ rfl rfl rfl ((V1.ab hb7).var rfl) rfl rfl ?_
       intro w8 h8
       replace VR := (VR.ab hb7).mid h8.m (by omega)
       replace BW := h8.ab w (BW.trans hb7) (by omega)
       replace V1 := h8.v
       replace J7 := JM.stored J7 h8
       clear h8 hb7)
    | (refine list_ldJ rfl _ rfl rfl V1 rfl ?_))
  refine (jdo_any m7 r7 _ J7 ⟨0, 7⟩ (some []) (by rw [H7.out]; exact Jour.g3.2.is)).mono ?_
  rintro e w9 ⟨r9, k9, e9, m9, hr9, rfl, J9, hb9⟩
  obtain ⟨h1, h2⟩ := Prod.mk.inj (hr9.out.trans (show Jour.doM r7 ⟨0, 7⟩ (some []) = (Jour.X4, 2, 0) by rw [H7.out]; exact Jour.g4.1))
  obtain ⟨rfl, rfl⟩ := Prod.mk.inj h2
  have H9 := Lib.hid h1
  clear hr9 h1 h2 H7 J7
  go_wp2_with (first
    | (refine list_stJ rfl _ _ rfl rfl rfl ((V1.ab hb9).var rfl) rfl rfl ?_
       intro wa ha
       replace VR := (VR.ab hb9).mid ha.m (by omega)
       replace BW := ha.ab w (BW.trans hb9) (by omega)
       replace V1 := ha.v
       replace J9 := JM.stored J9 ha
       clear ha hb9)
    | (refine list_ldJ rfl _ rfl rfl V1 rfl ?_)
    | (refine list_stJ rfl _ _ rfl rfl rfl (VR.var rfl) rfl rfl ?_
       intro w9 h9))
  refine bodyPost_ret (res_J1 Tryz.results64 _ rfl h9.v rfl) rfl ?_
  exact ⟨r9, m9, Lib.hid (by rw [H9.out]; exact Jour.given4), rfl, JM.stored J9 h9, h9.ab w BW (Nat.le_refl _)⟩

theorem recovered_back (a : JA) (x : JX) (w : World) (h : JM w a x) {cap : Int} {o : Sl} {l : Wal.Log} {c0 : List Int} {rs0 rs' : List Frame.Rec} {u : Nat} {m : Int} {c : List Int} (B : Jour.Back x cap o l c0 rs0 rs' u m c) (n : Int) (hn : l.next = n) :
    Calls Tryz.prog 65 #[.agg #[.slice a.m.A x.s.a.s.length a.m.ca, .slice a.m.B x.s.a.t.length a.m.cb, .int .i64 x.s.a.cap, .bool x.s.a.down, .slice a.m.C x.s.b.s.length a.m.cc, .slice a.m.D x.s.b.t.length a.m.cd, .int .i64 x.s.b.cap, .bool x.s.b.down, .int .i64 x.s.n, .slice a.A x.l.dev.s.length a.ca, .slice a.B x.l.dev.t.length a.cb, .int .i64 x.l.dev.cap, .bool x.l.dev.down, .int .i64 x.l.first, .int .i64 x.l.next, .int .i64 (cx x.c 0), .int .i64 (cx x.c 1), .int .i64 (cx x.c 2), .int .i64 (cx x.c 3), .int .i64 (cx x.c 4), .int .i64 (cx x.c 5), .int .i64 (cx x.c 6), .int .i64 (cx x.c 7)], .int .i64 0, .agg #[.int .i64 (cx c0 0), .int .i64 (cx c0 1), .int .i64 (cx c0 2), .int .i64 (cx c0 3), .int .i64 (cx c0 4), .int .i64 (cx c0 5), .int .i64 (cx c0 6), .int .i64 (cx c0 7)], .int .i64 n] w fun e w' => e = .returned (.bool true) ∧ Ab w w' := by
  subst hn
  exact recovered_true a x w h B.op B.scan B.lop B.good
set_option maxRecDepth 100000 in
set_option maxHeartbeats 6400000 in
theorem jalive_true (w : World) : Calls Tryz.prog 23 #[] w fun e w' => e = .returned (.bool true) ∧ Ab w w' := by
  go_enter Tryz.func23, Tryz.ntmps23
  have BW : Ab w w := Ab.refl w
  go_wp2_with fail
  refine (jgiven_any _).mono ?_
  rintro e w1 ⟨r1, m1, hG1, rfl, J1, hb1⟩
  replace BW := BW.trans hb1
  go_wp2_with fail
  refine (jcrash_any m1 r1 _ J1 0 20 (some [⟨2, Jour.written ⟨0, 7⟩⟩]) hG1.out.good.is).mono ?_
  rintro e w2 ⟨y2, e2, m2, hr2, rfl, J2, hb2⟩
  obtain ⟨rfl, l2, rs2, u2, hB2, hn2⟩ := Jour.given_20 hG1.out hr2.out
  have B2 := Lib.hid hB2
  have N2 := Lib.hid hn2
  clear hr2 hB2 hn2 hb1 hG1 J1
  go_wp2_with (first
    | (refine list_stJ rfl _ _ rfl rfl rfl (VB.var (vs := [.slice none 0 0, .slice none 0 0, .int .i64 0, .bool false, .slice none 0 0, .slice none 0 0, .int .i64 0, .bool false, .int .i64 0, .slice none 0 0, .slice none 0 0, .int .i64 0, .bool false, .int .i64 0, .int .i64 0, .int .i64 0, .int .i64 0, .int .i64 0, .int .i64 0, .int .i64 0, .int .i64 0, .int .i64 0, .int .i64 0]) (VB.box (new_plain rfl)) rfl) rfl rfl ?_
       intro w3 h3
       have b3 := hb2.trans (h3.ab w2 ((Ab.refl w2).alloc _) (Nat.le_refl _))
       replace BW := BW.trans b3
       have V1 := h3.v
       replace J2 := JM.stored (JM.ab J2 ((Ab.refl w2).alloc _)) h3
       clear h3 hb2 b3))
  refine (jgiven_any _).mono ?_
  rintro e w4 ⟨r4, m4, hG4, rfl, J4, hb4⟩
  replace BW := BW.trans hb4
  replace V1 := V1.ab hb4
  replace J2 := J2.ab hb4
  go_wp2_with fail
  refine (jcrash_any m4 r4 _ J4 0 21 (some [⟨2, Jour.written ⟨0, 7⟩⟩]) hG4.out.good.is).mono ?_
  rintro e w5 ⟨y5, e5, m5, hr5, rfl, J5, hb5⟩
  obtain ⟨rfl, l5, rs5, rs5', u5, hB5, hn5⟩ := Jour.given_21 hG4.out hr5.out
  have B5 := Lib.hid hB5
  have N5 := Lib.hid hn5
  clear hr5 hB5 hn5 hb4 hG4 J4
  go_wp2_with (first
    | (refine list_stJ rfl _ _ rfl rfl rfl (VB.var (vs := [.slice none 0 0, .slice none 0 0, .int .i64 0, .bool false, .slice none 0 0, .slice none 0 0, .int .i64 0, .bool false, .int .i64 0, .slice none 0 0, .slice none 0 0, .int .i64 0, .bool false, .int .i64 0, .int .i64 0, .int .i64 0, .int .i64 0, .int .i64 0, .int .i64 0, .int .i64 0, .int .i64 0, .int .i64 0, .int .i64 0]) (VB.box (new_plain rfl)) rfl) rfl rfl ?_
       intro w6 h6
       have b6 := hb5.trans (h6.ab w5 ((Ab.refl w5).alloc _) (Nat.le_refl _))
       replace BW := BW.trans b6
       replace V1 := V1.ab b6
       replace J2 := J2.ab b6
       have V3 := h6.v
       replace J5 := JM.stored (JM.ab J5 ((Ab.refl w5).alloc _)) h6
       clear h6 hb5 b6))
  refine (jgiven_any _).mono ?_
  rintro e w7 ⟨r7, m7, hG7, rfl, J7, hb7⟩
  replace BW := BW.trans hb7
  replace V1 := V1.ab hb7
  replace J2 := J2.ab hb7
  replace V3 := V3.ab hb7
  replace J5 := J5.ab hb7
  have heq : ∀ w, (Op.equalIn 10000 30 (.agg #[.int .i64 (cx r7.c 0), .int .i64 (cx r7.c 1), .int .i64 (cx r7.c 2), .int .i64 (cx r7.c 3), .int .i64 (cx r7.c 4), .int .i64 (cx r7.c 5), .int .i64 (cx r7.c 6), .int .i64 (cx r7.c 7)]) (.agg #[.int .i64 12, .int .i64 (-2), .int .i64 0, .int .i64 0, .int .i64 0, .int .i64 0, .int .i64 0, .int .i64 0])).run Tryz.prog w = .ok true w :=
    fun w => run_eight r7.c [12, -2, 0, 0, 0, 0, 0, 0] hG7.out.good.state.2 rfl w true (by simpa using hG7.out.cells)
  have hfld : ∀ w, (Instr.field 32 (.agg #[.slice m7.m.A r7.s.a.s.length m7.m.ca, .slice m7.m.B r7.s.a.t.length m7.m.cb, .int .i64 r7.s.a.cap, .bool r7.s.a.down, .slice m7.m.C r7.s.b.s.length m7.m.cc, .slice m7.m.D r7.s.b.t.length m7.m.cd, .int .i64 r7.s.b.cap, .bool r7.s.b.down, .int .i64 r7.s.n, .slice m7.A r7.l.dev.s.length m7.ca, .slice m7.B r7.l.dev.t.length m7.cb, .int .i64 r7.l.dev.cap, .bool r7.l.dev.down, .int .i64 r7.l.first, .int .i64 r7.l.next, .int .i64 (cx r7.c 0), .int .i64 (cx r7.c 1), .int .i64 (cx r7.c 2), .int .i64 (cx r7.c 3), .int .i64 (cx r7.c 4), .int .i64 (cx r7.c 5), .int .i64 (cx r7.c 6), .int .i64 (cx r7.c 7)]) 2).run Tryz.prog w = .ok (.agg #[.int .i64 (cx r7.c 0), .int .i64 (cx r7.c 1), .int .i64 (cx r7.c 2), .int .i64 (cx r7.c 3), .int .i64 (cx r7.c 4), .int .i64 (cx r7.c 5), .int .i64 (cx r7.c 6), .int .i64 (cx r7.c 7)]) w := fun w => by kernel_rfl
  clear J7 hb7
  go_wp2_with (refine list_ldJg (by kernel_rfl) _ rfl rfl V1 rfl ?_)
  refine (recovered_back m2 y2 _ J2 B2.out 2 N2.out).mono ?_
  rintro e w8 ⟨rfl, hb8⟩
  replace BW := BW.trans hb8
  replace V3 := V3.ab hb8
  replace J5 := J5.ab hb8
  clear hb8 J2 V1 heq
  go_wp2_with (refine list_ldJg (by kernel_rfl) _ rfl rfl V3 rfl ?_)
  refine (recovered_back m5 y5 _ J5 B5.out 3 N5.out).mono ?_
  rintro e w9 ⟨rfl, hb9⟩
  go_wp2
  go_ret
  exact ⟨rfl, abA⟩
end Go.Proofs.YthgcfjhnnhigoaaGreat
