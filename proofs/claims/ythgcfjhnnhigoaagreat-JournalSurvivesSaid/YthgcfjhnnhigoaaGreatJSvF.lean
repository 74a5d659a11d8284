/- JournalSurvives, walked. Own work. -/
import Derived.Test.YthgcfjhnnhigoaaGreatJSvD
import Derived.Test.YthgcfjhnnhigoaaGreatJSvE
set_option linter.unusedVariables false
set_option linter.unusedSimpArgs false
namespace Go.Proofs.YthgcfjhnnhigoaaGreat
open Go.RowKit

set_option maxRecDepth 1000000 in
set_option maxHeartbeats 9600000 in
theorem jsurvives_walk (a : JA) (x : JX) (w : World) (ha : JAr w a x) (A : Option Addr) (cap : Nat) (ms : List Jour.Move) (hms : Mvs w 0 A ms) (k keep : Int) :
    Calls Tryz.prog 4 #[.agg #[.slice a.m.A x.s.a.s.length a.m.ca, .slice a.m.B x.s.a.t.length a.m.cb, .int .i64 x.s.a.cap, .bool x.s.a.down, .slice a.m.C x.s.b.s.length a.m.cc, .slice a.m.D x.s.b.t.length a.m.cd, .int .i64 x.s.b.cap, .bool x.s.b.down, .int .i64 x.s.n, .slice a.A x.l.dev.s.length a.ca, .slice a.B x.l.dev.t.length a.cb, .int .i64 x.l.dev.cap, .bool x.l.dev.down, .int .i64 x.l.first, .int .i64 x.l.next, .int .i64 (cx x.c 0), .int .i64 (cx x.c 1), .int .i64 (cx x.c 2), .int .i64 (cx x.c 3), .int .i64 (cx x.c 4), .int .i64 (cx x.c 5), .int .i64 (cx x.c 6), .int .i64 (cx x.c 7)], .slice A ms.length cap, .int .i64 k, .int .i64 keep] w fun e w' => e = .returned (.bool true) ∧ Ab w w' := by
  obtain ⟨gi, hi⟩ := Wal.is_exists x.l
  go_enter Tryz.func4, Tryz.ntmps4
  have V4 : VB (w.alloc (.cells #[.slice a.m.A x.s.a.s.length a.m.ca, .slice a.m.B x.s.a.t.length a.m.cb, .int .i64 x.s.a.cap, .bool x.s.a.down, .slice a.m.C x.s.b.s.length a.m.cc, .slice a.m.D x.s.b.t.length a.m.cd, .int .i64 x.s.b.cap, .bool x.s.b.down, .int .i64 x.s.n, .slice a.A x.l.dev.s.length a.ca, .slice a.B x.l.dev.t.length a.cb, .int .i64 x.l.dev.cap, .bool x.l.dev.down, .int .i64 x.l.first, .int .i64 x.l.next, .int .i64 (cx x.c 0), .int .i64 (cx x.c 1), .int .i64 (cx x.c 2), .int .i64 (cx x.c 3), .int .i64 (cx x.c 4), .int .i64 (cx x.c 5), .int .i64 (cx x.c 6), .int .i64 (cx x.c 7)] 32 (0, 0))) w.heap.size [.slice a.m.A x.s.a.s.length a.m.ca, .slice a.m.B x.s.a.t.length a.m.cb, .int .i64 x.s.a.cap, .bool x.s.a.down, .slice a.m.C x.s.b.s.length a.m.cc, .slice a.m.D x.s.b.t.length a.m.cd, .int .i64 x.s.b.cap, .bool x.s.b.down, .int .i64 x.s.n, .slice a.A x.l.dev.s.length a.ca, .slice a.B x.l.dev.t.length a.cb, .int .i64 x.l.dev.cap, .bool x.l.dev.down, .int .i64 x.l.first, .int .i64 x.l.next, .int .i64 (cx x.c 0), .int .i64 (cx x.c 1), .int .i64 (cx x.c 2), .int .i64 (cx x.c 3), .int .i64 (cx x.c 4), .int .i64 (cx x.c 5), .int .i64 (cx x.c 6), .int .i64 (cx x.c 7)] := VB.box (new_plain rfl)
  have BW : Ab w (w.alloc (.cells #[.slice a.m.A x.s.a.s.length a.m.ca, .slice a.m.B x.s.a.t.length a.m.cb, .int .i64 x.s.a.cap, .bool x.s.a.down, .slice a.m.C x.s.b.s.length a.m.cc, .slice a.m.D x.s.b.t.length a.m.cd, .int .i64 x.s.b.cap, .bool x.s.b.down, .int .i64 x.s.n, .slice a.A x.l.dev.s.length a.ca, .slice a.B x.l.dev.t.length a.cb, .int .i64 x.l.dev.cap, .bool x.l.dev.down, .int .i64 x.l.first, .int .i64 x.l.next, .int .i64 (cx x.c 0), .int .i64 (cx x.c 1), .int .i64 (cx x.c 2), .int .i64 (cx x.c 3), .int .i64 (cx x.c 4), .int .i64 (cx x.c 5), .int .i64 (cx x.c 6), .int .i64 (cx x.c 7)] 32 (0, 0))) := abA
  by_cases h20 : 20 < ms.length
  · have d1 : decide ((20 : Int) < (ms.length : Int)) = true := by simp; omega
    clear h20
    go_wp2_with fail
    refine (jalive_true _).mono ?_
    rintro e w9 ⟨rfl, hb9⟩
    go_wp2
    go_ret
    exact ⟨rfl, abA⟩
  have d1 : decide ((20 : Int) < (ms.length : Int)) = false := by simp; omega
  by_cases hf : Jour.fits x 21 gi
  case neg =>
    have HF := Lib.hid hf
    clear hf h20
    go_wp2_with (refine list_ldJg (by rfl) _ rfl rfl V4 rfl ?_)
    refine (jfit_any a x _ (ha.ab BW) 21 21 rfl (by decide) gi hi false ⟨fun k => absurd k HF.out, fun k => absurd k (by simp)⟩).mono ?_
    rintro e w1 ⟨rfl, hb1⟩
    go_wp2_with fail
    refine (jalive_true _).mono ?_
    rintro e w9 ⟨rfl, hb9⟩
    go_wp2
    go_ret
    exact ⟨rfl, abA⟩
  have HF := Lib.hid hf
  have h := ha.jm HF.out.1
  obtain ⟨rs, n, c, hgs, hG⟩ := Jour.fits_good hi HF.out
  subst hgs
  have HG := Lib.hid hG
  have HST := Lib.hid hG.state
  have HR := Lib.hid HF.out.2.2
  have HA := Lib.hid (Jour.fits_ask hG HF.out.2.2)
  have H20 := Lib.hid (show ms.length ≤ 20 by omega)
  have hxn := HF.out.2.2.n
  have hx0 := hG.log.rng
  have hxc := hG.count
  have HX0 := Lib.hid (show 0 ≤ x.l.next by omega)
  have HXN := Lib.hid (show x.l.next ≤ 1000000000 by omega)
  clear hf hG h20 hxn hx0 hxc
  go_wp2_with (refine list_ldJg (by rfl) _ rfl rfl V4 rfl ?_)
  refine (jfit_any a x _ (ha.ab BW) 21 21 rfl (by decide) (some rs) hi true ⟨fun _ => rfl, fun _ => HF.out⟩).mono ?_
  rintro e w1 ⟨rfl, hb1⟩
  replace V4 := V4.ab hb1
  replace BW := BW.trans hb1
  have z4 := V4.lt
  clear hb1
  have xq0 := (V4).at 15 rfl
  have xq1 := (V4).at 16 rfl
  have xq2 := (V4).at 17 rfl
  have xq3 := (V4).at 18 rfl
  have xq4 := (V4).at 19 rfl
  have xq5 := (V4).at 20 rfl
  have xq6 := (V4).at 21 rfl
  have xq7 := (V4).at 22 rfl
  have pn := V4.at 14 rfl
  have AS := (Ab.refl w1).alloc (.cells #[.int .i64 (cx x.c 0), .int .i64 (cx x.c 1), .int .i64 (cx x.c 2), .int .i64 (cx x.c 3), .int .i64 (cx x.c 4), .int .i64 (cx x.c 5), .int .i64 (cx x.c 6), .int .i64 (cx x.c 7)] 30 (0, 0))
  have OS : OwnSts (w.heap.size + 1) (w1.alloc (.cells #[.int .i64 (cx x.c 0), .int .i64 (cx x.c 1), .int .i64 (cx x.c 2), .int .i64 (cx x.c 3), .int .i64 (cx x.c 4), .int .i64 (cx x.c 5), .int .i64 (cx x.c 6), .int .i64 (cx x.c 7)] 30 (0, 0))) w1.heap.size 1 [x.c] := OwnSts.one (new_plain rfl) (by omega)
  have V4a := V4.ab AS
  have pna := V4a.at 14 rfl
  go_wp2_with (refine list_ldJ rfl _ rfl rfl V4a rfl ?_)
  refine (jsafely_any a x _ (h.ab (BW.trans AS)) HG.out HXN.out HA.out).mono ?_
  rintro e w3 ⟨rfl, hb3⟩
  have V43 := V4a.ab hb3
  have OS3 := OS.ab hb3
  have BW3 := (BW.trans AS).trans hb3
  have J3 := h.ab BW3
  clear V4 V4a pna pn OS AS BW hb3 xq0 xq1 xq2 xq3 xq4 xq5 xq6 xq7
  by_cases hsn : Jour.sure x.l.first n rs x.l.dev.s.length < x.l.next
  · have dsn : decide (Jour.sure x.l.first n rs x.l.dev.s.length < x.l.next) = true := by simpa using hsn
    have HSV := Lib.hid (Jour.Sv.start HR.out HG.out (.inr rfl) (fun h => absurd h (by decide)))
    clear hsn
    go_wp2
    refine wp_loop (VInv x w A ms.length cap k keep) (fun x _ => VMu ms.length x) ?_ (fun a' w' hI' => sv_round x w w' A cap k keep ms hms H20.out _ ?_ ?_ a' hI')
    · exact ⟨0, Nat.zero_le _, x, a, w1.heap.size, 1, [x.c], -1, rs, n, c, rfl, ⟨rfl, rfl, rfl, rfl, rfl, rfl, rfl, rfl, rfl⟩, V43, J3, OS3, BW3, HSV⟩
    · intro _ _ _ o _ h
      cases o <;> exact h
    intro a' w' h'
    refine (‹∀ (a : Act) (w : World), Code.wp Tryz.prog svTail _ a w → _›) a' w' (sv_tail x w w' A ms.length cap k keep H20.out HX0.out a' h')
  · have dsn : decide (Jour.sure x.l.first n rs x.l.dev.s.length < x.l.next) = false := by simpa using hsn
    have HSV := Lib.hid (Jour.Sv.start HR.out HG.out (.inl rfl) (fun _ => Int.not_lt.1 hsn))
    clear hsn
    go_wp2
    refine wp_loop (VInv x w A ms.length cap k keep) (fun x _ => VMu ms.length x) ?_ (fun a' w' hI' => sv_round x w w' A cap k keep ms hms H20.out _ ?_ ?_ a' hI')
    · exact ⟨0, Nat.zero_le _, x, a, w1.heap.size, 1, [x.c], 0, rs, n, c, rfl, ⟨rfl, rfl, rfl, rfl, rfl, rfl, rfl, rfl, rfl⟩, V43, J3, OS3, BW3, HSV⟩
    · intro _ _ _ o _ h
      cases o <;> exact h
    intro a' w' h'
    refine (‹∀ (a : Act) (w : World), Code.wp Tryz.prog svTail _ a w → _›) a' w' (sv_tail x w w' A ms.length cap k keep H20.out HX0.out a' h')
end Go.Proofs.YthgcfjhnnhigoaaGreat
