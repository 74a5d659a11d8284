/- Room of the reference of layer 6, and fit of its law, walked. Own work. -/
import Derived.Test.YthgcfjhnnhigoaaGreatGL
import Derived.Test.YthgcfjhnnhigoaaGreatGC
import Derived.Test.YthgcfjhnnhigoaaGreatJStep
import Derived.Test.YthgcfjhnnhigoaaGreatJLawA
set_option linter.unusedVariables false
set_option linter.unusedSimpArgs false
namespace Go.Proofs.YthgcfjhnnhigoaaGreat
open Go.RowKit
open Slots (Sl)

/-- Room for k operations. -/
structure Jour.room (x : JX) (k : Nat) : Prop where
  a : 100 ≤ x.s.a.cap
  b : 100 ≤ x.s.b.cap
  l : 21 * (k : Int) ≤ x.l.dev.cap - ((x.l.dev.s.length : Int) + x.l.dev.t.length)
  c : ∀ j, j < 8 → cx x.c j ≤ 1000000000 - 1000000 * (k : Int) ∧ 1000000 * (k : Int) - 1000000000 ≤ cx x.c j
  n : x.l.next < 1000000
  m : x.s.n < 1000000

set_option maxRecDepth 100000 in
set_option maxHeartbeats 6400000 in
theorem jrroom_any (a : JA) (x : JX) (w : World) (h : JM w a x) (k : Nat) (hk : k ≤ 100) (b : Bool) (hb : Jour.room x k ↔ b = true) (hc0 : 0 ≤ x.l.dev.cap) (hc1 : x.l.dev.cap ≤ 20000) (hsz : (x.l.dev.s.length : Int) + x.l.dev.t.length ≤ 20000) :
    Calls Tryz.prog 28 #[.agg #[.slice a.m.A x.s.a.s.length a.m.ca, .slice a.m.B x.s.a.t.length a.m.cb, .int .i64 x.s.a.cap, .bool x.s.a.down, .slice a.m.C x.s.b.s.length a.m.cc, .slice a.m.D x.s.b.t.length a.m.cd, .int .i64 x.s.b.cap, .bool x.s.b.down, .int .i64 x.s.n, .slice a.A x.l.dev.s.length a.ca, .slice a.B x.l.dev.t.length a.cb, .int .i64 x.l.dev.cap, .bool x.l.dev.down, .int .i64 x.l.first, .int .i64 x.l.next, .int .i64 (cx x.c 0), .int .i64 (cx x.c 1), .int .i64 (cx x.c 2), .int .i64 (cx x.c 3), .int .i64 (cx x.c 4), .int .i64 (cx x.c 5), .int .i64 (cx x.c 6), .int .i64 (cx x.c 7)], .int .i64 (k : Int)] w fun e w' => e = .returned (.bool b) ∧ Ab w w' := by
  have HB := Lib.hid hb
  have hca := h.l.lp
  have hcb := h.l.lq
  clear hb
  go_enter Tryz.func28, Tryz.ntmps28
  have VJ : VB (w.alloc (.cells #[.slice a.m.A x.s.a.s.length a.m.ca, .slice a.m.B x.s.a.t.length a.m.cb, .int .i64 x.s.a.cap, .bool x.s.a.down, .slice a.m.C x.s.b.s.length a.m.cc, .slice a.m.D x.s.b.t.length a.m.cd, .int .i64 x.s.b.cap, .bool x.s.b.down, .int .i64 x.s.n, .slice a.A x.l.dev.s.length a.ca, .slice a.B x.l.dev.t.length a.cb, .int .i64 x.l.dev.cap, .bool x.l.dev.down, .int .i64 x.l.first, .int .i64 x.l.next, .int .i64 (cx x.c 0), .int .i64 (cx x.c 1), .int .i64 (cx x.c 2), .int .i64 (cx x.c 3), .int .i64 (cx x.c 4), .int .i64 (cx x.c 5), .int .i64 (cx x.c 6), .int .i64 (cx x.c 7)] 32 (0, 0))) w.heap.size [.slice a.m.A x.s.a.s.length a.m.ca, .slice a.m.B x.s.a.t.length a.m.cb, .int .i64 x.s.a.cap, .bool x.s.a.down, .slice a.m.C x.s.b.s.length a.m.cc, .slice a.m.D x.s.b.t.length a.m.cd, .int .i64 x.s.b.cap, .bool x.s.b.down, .int .i64 x.s.n, .slice a.A x.l.dev.s.length a.ca, .slice a.B x.l.dev.t.length a.cb, .int .i64 x.l.dev.cap, .bool x.l.dev.down, .int .i64 x.l.first, .int .i64 x.l.next, .int .i64 (cx x.c 0), .int .i64 (cx x.c 1), .int .i64 (cx x.c 2), .int .i64 (cx x.c 3), .int .i64 (cx x.c 4), .int .i64 (cx x.c 5), .int .i64 (cx x.c 6), .int .i64 (cx x.c 7)] := VB.box (new_plain rfl)
  have BW : Ab w (w.alloc (.cells #[.slice a.m.A x.s.a.s.length a.m.ca, .slice a.m.B x.s.a.t.length a.m.cb, .int .i64 x.s.a.cap, .bool x.s.a.down, .slice a.m.C x.s.b.s.length a.m.cc, .slice a.m.D x.s.b.t.length a.m.cd, .int .i64 x.s.b.cap, .bool x.s.b.down, .int .i64 x.s.n, .slice a.A x.l.dev.s.length a.ca, .slice a.B x.l.dev.t.length a.cb, .int .i64 x.l.dev.cap, .bool x.l.dev.down, .int .i64 x.l.first, .int .i64 x.l.next, .int .i64 (cx x.c 0), .int .i64 (cx x.c 1), .int .i64 (cx x.c 2), .int .i64 (cx x.c 3), .int .i64 (cx x.c 4), .int .i64 (cx x.c 5), .int .i64 (cx x.c 6), .int .i64 (cx x.c 7)] 32 (0, 0))) := abA
  have hlen : (x.l.dev.s.length : Int) + x.l.dev.t.length = ((x.l.dev.s ++ x.l.dev.t).length : Int) := by rw [List.length_append]; omega
  have wk : IntKind.i64.wrap (21 * (k : Int)) = 21 * (k : Int) := IntWalk.i64_in _ (by omega)
  have wm : IntKind.i64.wrap (1000000 * (k : Int)) = 1000000 * (k : Int) := IntWalk.i64_in _ (by omega)
  have wp : IntKind.i64.wrap (1000000000 - 1000000 * (k : Int)) = 1000000000 - 1000000 * (k : Int) := IntWalk.i64_in _ (by omega)
  have wq : IntKind.i64.wrap (1000000 * (k : Int) - 1000000000) = 1000000 * (k : Int) - 1000000000 := IntWalk.i64_in _ (by omega)
  go_upto_region 1 with fail
  by_cases h1 : x.s.a.cap < 100
  · have d1 : decide (x.s.a.cap < 100) = true := by simpa using h1
    obtain rfl : b = false := by
      cases b with
      | false => rfl
      | true => have := (HB.out.2 rfl).a; omega
    clear h1
    refine wp_region_held_drew (by kernel_rfl) (S := fun w' => Ab w w' ∧ VB w' w.heap.size [.slice a.m.A x.s.a.s.length a.m.ca, .slice a.m.B x.s.a.t.length a.m.cb, .int .i64 x.s.a.cap, .bool x.s.a.down, .slice a.m.C x.s.b.s.length a.m.cc, .slice a.m.D x.s.b.t.length a.m.cd, .int .i64 x.s.b.cap, .bool x.s.b.down, .int .i64 x.s.n, .slice a.A x.l.dev.s.length a.ca, .slice a.B x.l.dev.t.length a.cb, .int .i64 x.l.dev.cap, .bool x.l.dev.down, .int .i64 x.l.first, .int .i64 x.l.next, .int .i64 (cx x.c 0), .int .i64 (cx x.c 1), .int .i64 (cx x.c 2), .int .i64 (cx x.c 3), .int .i64 (cx x.c 4), .int .i64 (cx x.c 5), .int .i64 (cx x.c 6), .int .i64 (cx x.c 7)]) ?_ (fun hHeld => ?_)
    · exact ⟨abA, VJ.ab abA⟩
    (refine rtA 0 ?_ ?_
     (try simp only [Act.put, stA, st0, st1]))
    (refine rtA 1 ?_ ?_
     (try simp only [Act.put, stA, st0, st1]))
    (refine rtA 2 ?_ ?_
     (try simp only [Act.put, stA, st0, st1]))
    (refine rtA 3 ?_ ?_
     (try simp only [Act.put, stA, st0, st1]))
    (refine wpAnyH_take (i := 4) (v := ?_) rfl (by kernel_rfl) (by kernel_rfl) (by kernel_rfl) (fun _ _ _ h => h) (Or.inl ⟨by kernel_rfl, ?_⟩) (by assumption) ?_
     rotate_left
     · (intro w hSw; have hq9 := hSw.2.at 2 rfl; go_simp; (try with_reducible rfl))
     (try simp only [Act.put, stA, st0, st1]))
    (refine rtA 5 ?_ ?_
     (try simp only [Act.put, stA, st0, st1]))
    (refine rtA 6 ?_ ?_
     (try simp only [Act.put, stA, st0, st1]))
    (refine rtS 7 ?_
     (try simp only [Act.put, stA, st0, st1]))
    (refine rtS 8 ?_
     (try simp only [Act.put, stA, st0, st1]))
    (refine rtS 9 ?_
     (try simp only [Act.put, stA, st0, st1]))
    (refine rtS 10 ?_
     (try simp only [Act.put, stA, st0, st1]))
    (refine rtS 11 ?_
     (try simp only [Act.put, stA, st0, st1]))
    (refine rtS 12 ?_
     (try simp only [Act.put, stA, st0, st1]))
    refine r1A 13 (fun K hK => ?_)
    (go_simp
     (refine hK.out _ _ ?_ (fun hHeld => ?_)
      · (try dsimp only); exact hHeld
      clear hK K
      (try simp only [Act.put, stA, st0, st1])))
    (refine rtA 14 ?_ ?_
     (try simp only [Act.put, stA, st0, st1]))
    (refine rtS 15 ?_
     (try simp only [Act.put, stA, st0, st1]))
    (refine rtS 16 ?_
     (try simp only [Act.put, stA, st0, st1]))
    (refine rtS 17 ?_
     (try simp only [Act.put, stA, st0, st1]))
    (refine rtS 18 ?_
     (try simp only [Act.put, stA, st0, st1]))
    (refine rtS 19 ?_
     (try simp only [Act.put, stA, st0, st1]))
    (refine rtS 20 ?_
     (try simp only [Act.put, stA, st0, st1]))
    (refine rtS 21 ?_
     (try simp only [Act.put, stA, st0, st1]))
    (refine rtS 22 ?_
     (try simp only [Act.put, stA, st0, st1]))
    (refine rtS 23 ?_
     (try simp only [Act.put, stA, st0, st1]))
    (refine rtS 24 ?_
     (try simp only [Act.put, stA, st0, st1]))
    (refine rtS 25 ?_
     (try simp only [Act.put, stA, st0, st1]))
    (refine rtS 26 ?_
     (try simp only [Act.put, stA, st0, st1]))
    (refine rtS 27 ?_
     (try simp only [Act.put, stA, st0, st1]))
    refine r1A 28 (fun K hK => ?_)
    (go_simp
     (refine hK.out _ _ ?_ (fun hHeld => ?_)
      · (try dsimp only); exact hHeld
      clear hK K
      (try simp only [Act.put, stA, st0, st1])))
    refine wpAnyH_done (by kernel_rfl) ?_ _
    go_wp2
    go_ret
    exact ⟨rfl, abA⟩
  have d1 : decide (x.s.a.cap < 100) = false := by simpa using h1
  by_cases h2 : x.s.b.cap < 100
  · have d2 : decide (x.s.b.cap < 100) = true := by simpa using h2
    obtain rfl : b = false := by
      cases b with
      | false => rfl
      | true => have := (HB.out.2 rfl).b; omega
    clear h1 h2
    refine wp_region_held_drew (by kernel_rfl) (S := fun w' => Ab w w' ∧ VB w' w.heap.size [.slice a.m.A x.s.a.s.length a.m.ca, .slice a.m.B x.s.a.t.length a.m.cb, .int .i64 x.s.a.cap, .bool x.s.a.down, .slice a.m.C x.s.b.s.length a.m.cc, .slice a.m.D x.s.b.t.length a.m.cd, .int .i64 x.s.b.cap, .bool x.s.b.down, .int .i64 x.s.n, .slice a.A x.l.dev.s.length a.ca, .slice a.B x.l.dev.t.length a.cb, .int .i64 x.l.dev.cap, .bool x.l.dev.down, .int .i64 x.l.first, .int .i64 x.l.next, .int .i64 (cx x.c 0), .int .i64 (cx x.c 1), .int .i64 (cx x.c 2), .int .i64 (cx x.c 3), .int .i64 (cx x.c 4), .int .i64 (cx x.c 5), .int .i64 (cx x.c 6), .int .i64 (cx x.c 7)]) ?_ (fun hHeld => ?_)
    · exact ⟨abA, VJ.ab abA⟩
    (refine rtA 0 ?_ ?_
     (try simp only [Act.put, stA, st0, st1]))
    (refine rtA 1 ?_ ?_
     (try simp only [Act.put, stA, st0, st1]))
    (refine rtA 2 ?_ ?_
     (try simp only [Act.put, stA, st0, st1]))
    (refine rtA 3 ?_ ?_
     (try simp only [Act.put, stA, st0, st1]))
    (refine wpAnyH_take (i := 4) (v := ?_) rfl (by kernel_rfl) (by kernel_rfl) (by kernel_rfl) (fun _ _ _ h => h) (Or.inl ⟨by kernel_rfl, ?_⟩) (by assumption) ?_
     rotate_left
     · (intro w hSw; have hq9 := hSw.2.at 2 rfl; go_simp; (try with_reducible rfl))
     (try simp only [Act.put, stA, st0, st1]))
    (refine rtA 5 ?_ ?_
     (try simp only [Act.put, stA, st0, st1]))
    (refine rtA 6 ?_ ?_
     (try simp only [Act.put, stA, st0, st1]))
    (refine rtA 7 ?_ ?_
     (try simp only [Act.put, stA, st0, st1]))
    (refine rtA 8 ?_ ?_
     (try simp only [Act.put, stA, st0, st1]))
    (refine rtA 9 ?_ ?_
     (try simp only [Act.put, stA, st0, st1]))
    (refine rtA 10 ?_ ?_
     (try simp only [Act.put, stA, st0, st1]))
    (refine wpAnyH_take (i := 11) (v := ?_) rfl (by kernel_rfl) (by kernel_rfl) (by kernel_rfl) (fun _ _ _ h => h) (Or.inl ⟨by kernel_rfl, ?_⟩) (by assumption) ?_
     rotate_left
     · (intro w hSw; have hq9 := hSw.2.at 6 rfl; go_simp; (try with_reducible rfl))
     (try simp only [Act.put, stA, st0, st1]))
    (refine rtA 12 ?_ ?_
     (try simp only [Act.put, stA, st0, st1]))
    refine r1A 13 (fun K hK => ?_)
    (go_simp
     (refine hK.out _ _ ?_ (fun hHeld => ?_)
      · (try dsimp only); exact hHeld
      clear hK K
      (try simp only [Act.put, stA, st0, st1])))
    (refine rtA 14 ?_ ?_
     (try simp only [Act.put, stA, st0, st1]))
    (refine rtS 15 ?_
     (try simp only [Act.put, stA, st0, st1]))
    (refine rtS 16 ?_
     (try simp only [Act.put, stA, st0, st1]))
    (refine rtS 17 ?_
     (try simp only [Act.put, stA, st0, st1]))
    (refine rtS 18 ?_
     (try simp only [Act.put, stA, st0, st1]))
    (refine rtS 19 ?_
     (try simp only [Act.put, stA, st0, st1]))
    (refine rtS 20 ?_
     (try simp only [Act.put, stA, st0, st1]))
    (refine rtS 21 ?_
     (try simp only [Act.put, stA, st0, st1]))
    (refine rtS 22 ?_
     (try simp only [Act.put, stA, st0, st1]))
    (refine rtS 23 ?_
     (try simp only [Act.put, stA, st0, st1]))
    (refine rtS 24 ?_
     (try simp only [Act.put, stA, st0, st1]))
    (refine rtS 25 ?_
     (try simp only [Act.put, stA, st0, st1]))
    (refine rtS 26 ?_
     (try simp only [Act.put, stA, st0, st1]))
    (refine rtS 27 ?_
     (try simp only [Act.put, stA, st0, st1]))
    refine r1A 28 (fun K hK => ?_)
    (go_simp
     (refine hK.out _ _ ?_ (fun hHeld => ?_)
      · (try dsimp only); exact hHeld
      clear hK K
      (try simp only [Act.put, stA, st0, st1])))
    refine wpAnyH_done (by kernel_rfl) ?_ _
    go_wp2
    go_ret
    exact ⟨rfl, abA⟩
  have d2 : decide (x.s.b.cap < 100) = false := by simpa using h2
  by_cases h3 : x.l.dev.cap - ((x.l.dev.s ++ x.l.dev.t).length : Int) < 21 * (k : Int)
  · obtain rfl : b = false := by
      cases b with
      | false => rfl
      | true => have := (HB.out.2 rfl).l; omega
    have H3 := Lib.hid h3
    clear h1 h2 h3
    refine wp_region_held_drew (by kernel_rfl) (S := fun w' => Ab w w' ∧ VB w' w.heap.size [.slice a.m.A x.s.a.s.length a.m.ca, .slice a.m.B x.s.a.t.length a.m.cb, .int .i64 x.s.a.cap, .bool x.s.a.down, .slice a.m.C x.s.b.s.length a.m.cc, .slice a.m.D x.s.b.t.length a.m.cd, .int .i64 x.s.b.cap, .bool x.s.b.down, .int .i64 x.s.n, .slice a.A x.l.dev.s.length a.ca, .slice a.B x.l.dev.t.length a.cb, .int .i64 x.l.dev.cap, .bool x.l.dev.down, .int .i64 x.l.first, .int .i64 x.l.next, .int .i64 (cx x.c 0), .int .i64 (cx x.c 1), .int .i64 (cx x.c 2), .int .i64 (cx x.c 3), .int .i64 (cx x.c 4), .int .i64 (cx x.c 5), .int .i64 (cx x.c 6), .int .i64 (cx x.c 7)]) ?_ (fun hHeld => ?_)
    · exact ⟨abA, VJ.ab abA⟩
    (refine rtA 0 ?_ ?_
     (try simp only [Act.put, stA, st0, st1]))
    (refine rtA 1 ?_ ?_
     (try simp only [Act.put, stA, st0, st1]))
    (refine rtA 2 ?_ ?_
     (try simp only [Act.put, stA, st0, st1]))
    (refine rtA 3 ?_ ?_
     (try simp only [Act.put, stA, st0, st1]))
    (refine wpAnyH_take (i := 4) (v := ?_) rfl (by kernel_rfl) (by kernel_rfl) (by kernel_rfl) (fun _ _ _ h => h) (Or.inl ⟨by kernel_rfl, ?_⟩) (by assumption) ?_
     rotate_left
     · (intro w hSw; have hq9 := hSw.2.at 2 rfl; go_simp; (try with_reducible rfl))
     (try simp only [Act.put, stA, st0, st1]))
    (refine rtA 5 ?_ ?_
     (try simp only [Act.put, stA, st0, st1]))
    (refine rtA 6 ?_ ?_
     (try simp only [Act.put, stA, st0, st1]))
    (refine rtA 7 ?_ ?_
     (try simp only [Act.put, stA, st0, st1]))
    (refine rtA 8 ?_ ?_
     (try simp only [Act.put, stA, st0, st1]))
    (refine rtA 9 ?_ ?_
     (try simp only [Act.put, stA, st0, st1]))
    (refine rtA 10 ?_ ?_
     (try simp only [Act.put, stA, st0, st1]))
    (refine wpAnyH_take (i := 11) (v := ?_) rfl (by kernel_rfl) (by kernel_rfl) (by kernel_rfl) (fun _ _ _ h => h) (Or.inl ⟨by kernel_rfl, ?_⟩) (by assumption) ?_
     rotate_left
     · (intro w hSw; have hq9 := hSw.2.at 6 rfl; go_simp; (try with_reducible rfl))
     (try simp only [Act.put, stA, st0, st1]))
    (refine rtA 12 ?_ ?_
     (try simp only [Act.put, stA, st0, st1]))
    refine r1A 13 (fun K hK => ?_)
    (go_simp
     (refine hK.out _ _ ?_ (fun hHeld => ?_)
      · (try dsimp only); exact hHeld
      clear hK K
      (try simp only [Act.put, stA, st0, st1])))
    (refine rtA 14 ?_ ?_
     (try simp only [Act.put, stA, st0, st1]))
    (refine rtA 15 ?_ ?_
     (try simp only [Act.put, stA, st0, st1]))
    (refine rtA 16 ?_ ?_
     (try simp only [Act.put, stA, st0, st1]))
    (refine rtA 17 ?_ ?_
     (try simp only [Act.put, stA, st0, st1]))
    (refine wpAnyH_take (i := 18) (v := ?_) rfl (by kernel_rfl) (by kernel_rfl) (by kernel_rfl) (fun _ _ _ h => h) (Or.inl ⟨by kernel_rfl, ?_⟩) (by assumption) ?_
     rotate_left
     · (intro w hSw; have hq9 := hSw.2.at 11 rfl; go_simp; (try with_reducible rfl))
     (try simp only [Act.put, stA, st0, st1]))
    (refine rtA 19 ?_ ?_
     (try simp only [Act.put, stA, st0, st1]))
    (refine rtA 20 ?_ ?_
     (try simp only [Act.put, stA, st0, st1]))
    (refine rtL 21 [.slice a.A x.l.dev.s.length a.ca, .slice a.B x.l.dev.t.length a.cb, .int .i64 x.l.dev.cap, .bool x.l.dev.down] 9 (fun w hSw => VB.rangeAt (hSw.2) 9 4) Tryz.underlying24 ?_
     (try simp only [Act.put, stA, st0, st1]))
    (refine rtA 25 ?_ ?_
     (try simp only [Act.put, stA, st0, st1]))
    (refine rtA 26 ?_ ?_
     (try simp only [Act.put, stA, st0, st1]))
    refine r1A 22 (fun K hK => ?_)
    (go_simp
     refine (whole_any a.A a.B a.ca a.cb x.l.dev.s x.l.dev.t x.l.dev.cap x.l.dev.down _ (h.l.p.ab hHeld.1) (h.l.q.ab hHeld.1) h.l.lp h.l.lq h.l.np h.l.nq).mono ?_; rintro e w5 ⟨L, X, cX, hL, rfl, oX, hb5⟩
     (try go_wp2_with fail)
     (refine hK.out _ _ ?_ (fun hHeld => ?_)
      · (try dsimp only); exact ⟨hHeld.1.trans hb5, hHeld.2.ab hb5⟩
      clear hK K
      (try simp only [Act.put, stA, st0, st1])))
    have d3 : decide (x.l.dev.cap - (L.length : Int) < 21 * (k : Int)) = true := by rw [hL.out]; simpa using H3.out
    have wc : IntKind.i64.wrap (x.l.dev.cap - (L.length : Int)) = x.l.dev.cap - (L.length : Int) := IntWalk.i64_in _ (by rw [hL.out, List.length_append]; omega)
    (refine rtA 23 ?_ ?_
     (try simp only [Act.put, stA, st0, st1]))
    (refine rtA 24 ?_ ?_
     (try simp only [Act.put, stA, st0, st1]))
    (refine rtA 27 ?_ ?_
     (try simp only [Act.put, stA, st0, st1]))
    refine r1A 28 (fun K hK => ?_)
    (go_simp
     (refine hK.out _ _ ?_ (fun hHeld => ?_)
      · (try dsimp only); exact hHeld
      clear hK K
      (try simp only [Act.put, stA, st0, st1])))
    refine wpAnyH_done (by kernel_rfl) ?_ _
    go_wp2
    go_ret
    exact ⟨rfl, abA⟩
  · have H1 := Lib.hid h1
    have H2 := Lib.hid h2
    have H3 := Lib.hid h3
    clear h1 h2 h3
    refine wp_region_held_drew (by kernel_rfl) (S := fun w' => Ab w w' ∧ VB w' w.heap.size [.slice a.m.A x.s.a.s.length a.m.ca, .slice a.m.B x.s.a.t.length a.m.cb, .int .i64 x.s.a.cap, .bool x.s.a.down, .slice a.m.C x.s.b.s.length a.m.cc, .slice a.m.D x.s.b.t.length a.m.cd, .int .i64 x.s.b.cap, .bool x.s.b.down, .int .i64 x.s.n, .slice a.A x.l.dev.s.length a.ca, .slice a.B x.l.dev.t.length a.cb, .int .i64 x.l.dev.cap, .bool x.l.dev.down, .int .i64 x.l.first, .int .i64 x.l.next, .int .i64 (cx x.c 0), .int .i64 (cx x.c 1), .int .i64 (cx x.c 2), .int .i64 (cx x.c 3), .int .i64 (cx x.c 4), .int .i64 (cx x.c 5), .int .i64 (cx x.c 6), .int .i64 (cx x.c 7)]) ?_ (fun hHeld => ?_)
    · exact ⟨abA, VJ.ab abA⟩
    (refine rtA 0 ?_ ?_
     (try simp only [Act.put, stA, st0, st1]))
    (refine rtA 1 ?_ ?_
     (try simp only [Act.put, stA, st0, st1]))
    (refine rtA 2 ?_ ?_
     (try simp only [Act.put, stA, st0, st1]))
    (refine rtA 3 ?_ ?_
     (try simp only [Act.put, stA, st0, st1]))
    (refine wpAnyH_take (i := 4) (v := ?_) rfl (by kernel_rfl) (by kernel_rfl) (by kernel_rfl) (fun _ _ _ h => h) (Or.inl ⟨by kernel_rfl, ?_⟩) (by assumption) ?_
     rotate_left
     · (intro w hSw; have hq9 := hSw.2.at 2 rfl; go_simp; (try with_reducible rfl))
     (try simp only [Act.put, stA, st0, st1]))
    (refine rtA 5 ?_ ?_
     (try simp only [Act.put, stA, st0, st1]))
    (refine rtA 6 ?_ ?_
     (try simp only [Act.put, stA, st0, st1]))
    (refine rtA 7 ?_ ?_
     (try simp only [Act.put, stA, st0, st1]))
    (refine rtA 8 ?_ ?_
     (try simp only [Act.put, stA, st0, st1]))
    (refine rtA 9 ?_ ?_
     (try simp only [Act.put, stA, st0, st1]))
    (refine rtA 10 ?_ ?_
     (try simp only [Act.put, stA, st0, st1]))
    (refine wpAnyH_take (i := 11) (v := ?_) rfl (by kernel_rfl) (by kernel_rfl) (by kernel_rfl) (fun _ _ _ h => h) (Or.inl ⟨by kernel_rfl, ?_⟩) (by assumption) ?_
     rotate_left
     · (intro w hSw; have hq9 := hSw.2.at 6 rfl; go_simp; (try with_reducible rfl))
     (try simp only [Act.put, stA, st0, st1]))
    (refine rtA 12 ?_ ?_
     (try simp only [Act.put, stA, st0, st1]))
    refine r1A 13 (fun K hK => ?_)
    (go_simp
     (refine hK.out _ _ ?_ (fun hHeld => ?_)
      · (try dsimp only); exact hHeld
      clear hK K
      (try simp only [Act.put, stA, st0, st1])))
    (refine rtA 14 ?_ ?_
     (try simp only [Act.put, stA, st0, st1]))
    (refine rtA 15 ?_ ?_
     (try simp only [Act.put, stA, st0, st1]))
    (refine rtA 16 ?_ ?_
     (try simp only [Act.put, stA, st0, st1]))
    (refine rtA 17 ?_ ?_
     (try simp only [Act.put, stA, st0, st1]))
    (refine wpAnyH_take (i := 18) (v := ?_) rfl (by kernel_rfl) (by kernel_rfl) (by kernel_rfl) (fun _ _ _ h => h) (Or.inl ⟨by kernel_rfl, ?_⟩) (by assumption) ?_
     rotate_left
     · (intro w hSw; have hq9 := hSw.2.at 11 rfl; go_simp; (try with_reducible rfl))
     (try simp only [Act.put, stA, st0, st1]))
    (refine rtA 19 ?_ ?_
     (try simp only [Act.put, stA, st0, st1]))
    (refine rtA 20 ?_ ?_
     (try simp only [Act.put, stA, st0, st1]))
    (refine rtL 21 [.slice a.A x.l.dev.s.length a.ca, .slice a.B x.l.dev.t.length a.cb, .int .i64 x.l.dev.cap, .bool x.l.dev.down] 9 (fun w hSw => VB.rangeAt (hSw.2) 9 4) Tryz.underlying24 ?_
     (try simp only [Act.put, stA, st0, st1]))
    (refine rtA 25 ?_ ?_
     (try simp only [Act.put, stA, st0, st1]))
    (refine rtA 26 ?_ ?_
     (try simp only [Act.put, stA, st0, st1]))
    refine r1A 22 (fun K hK => ?_)
    (go_simp
     refine (whole_any a.A a.B a.ca a.cb x.l.dev.s x.l.dev.t x.l.dev.cap x.l.dev.down _ (h.l.p.ab hHeld.1) (h.l.q.ab hHeld.1) h.l.lp h.l.lq h.l.np h.l.nq).mono ?_; rintro e w5 ⟨L, X, cX, hL, rfl, oX, hb5⟩
     (try go_wp2_with fail)
     (refine hK.out _ _ ?_ (fun hHeld => ?_)
      · (try dsimp only); exact ⟨hHeld.1.trans hb5, hHeld.2.ab hb5⟩
      clear hK K
      (try simp only [Act.put, stA, st0, st1])))
    have d3 : decide (x.l.dev.cap - (L.length : Int) < 21 * (k : Int)) = false := by rw [hL.out]; simpa using H3.out
    have wc : IntKind.i64.wrap (x.l.dev.cap - (L.length : Int)) = x.l.dev.cap - (L.length : Int) := IntWalk.i64_in _ (by rw [hL.out, List.length_append]; omega)
    (refine rtA 23 ?_ ?_
     (try simp only [Act.put, stA, st0, st1]))
    (refine rtA 24 ?_ ?_
     (try simp only [Act.put, stA, st0, st1]))
    (refine rtA 27 ?_ ?_
     (try simp only [Act.put, stA, st0, st1]))
    refine r1A 28 (fun K hK => ?_)
    (go_simp
     (refine hK.out _ _ ?_ (fun hHeld => ?_)
      · (try dsimp only); exact hHeld
      clear hK K
      (try simp only [Act.put, stA, st0, st1])))
    refine wpAnyH_done (by kernel_rfl) ?_ _
    have vj := hHeld.2
    have bw := hHeld.1
    clear VJ BW
    clear d1 d2
    go_wp2
    go_loopw [5] (fun i wr => ∃ j : Nat, j ≤ 8 ∧ i = .int .i64 (j : Int) ∧ Hid (∀ i, i < j → cx x.c i ≤ 1000000000 - 1000000 * (k : Int) ∧ 1000000 * (k : Int) - 1000000000 ≤ cx x.c i) ∧ VB wr w.heap.size [.slice a.m.A x.s.a.s.length a.m.ca, .slice a.m.B x.s.a.t.length a.m.cb, .int .i64 x.s.a.cap, .bool x.s.a.down, .slice a.m.C x.s.b.s.length a.m.cc, .slice a.m.D x.s.b.t.length a.m.cd, .int .i64 x.s.b.cap, .bool x.s.b.down, .int .i64 x.s.n, .slice a.A x.l.dev.s.length a.ca, .slice a.B x.l.dev.t.length a.cb, .int .i64 x.l.dev.cap, .bool x.l.dev.down, .int .i64 x.l.first, .int .i64 x.l.next, .int .i64 (cx x.c 0), .int .i64 (cx x.c 1), .int .i64 (cx x.c 2), .int .i64 (cx x.c 3), .int .i64 (cx x.c 4), .int .i64 (cx x.c 5), .int .i64 (cx x.c 6), .int .i64 (cx x.c 7)] ∧ Ab w wr) (fun i _ => 8 - (intOf i).toNat)
    case atStart => exact ⟨0, by omega, rfl, Lib.hid (fun j hj => absurd hj (by omega)), vj, abA⟩
    case round =>
      obtain ⟨j, hj, rfl, hV, hc, hab⟩ := hrel
      by_cases hlt : j < 8
      · have q : wr.cell? ⟨w.heap.size, 15 + j, none⟩ = some (.int .i64 (cx x.c j)) := by
          have : j = 0 ∨ j = 1 ∨ j = 2 ∨ j = 3 ∨ j = 4 ∨ j = 5 ∨ j = 6 ∨ j = 7 := by omega
          rcases this with rfl | rfl | rfl | rfl | rfl | rfl | rfl | rfl <;> exact hc.at _ rfl
        have jI : (j : Int) < 8 := by omega
        by_cases h4 : cx x.c j ≤ 1000000000 - 1000000 * (k : Int)
        · have d4 : decide (1000000000 - 1000000 * (k : Int) < cx x.c j) = false := by simp; omega
          by_cases h5 : 1000000 * (k : Int) - 1000000000 ≤ cx x.c j
          · have d5 : decide (cx x.c j < 1000000 * (k : Int) - 1000000000) = false := by simp; omega
            have HI := Lib.hid h4
            have HJ := Lib.hid h5
            clear h4 h5
            go_wp2
            go_roundw
            case rel => exact ⟨j + 1, by omega, by go_num, Lib.hid (fun i hi => by
              rcases Nat.lt_or_ge i j with h | h
              · exact hV.out i h
              · obtain rfl : i = j := by omega
                exact ⟨HI.out, HJ.out⟩), hc, abA⟩
            case measure => simp [intOf]; omega
          · have d5 : decide (cx x.c j < 1000000 * (k : Int) - 1000000000) = true := by simp; omega
            have HI := Lib.hid h5
            clear h4 h5
            go_wp2
            obtain rfl : b = false := by
              cases b with
              | false => rfl
              | true => have := ((HB.out.2 rfl).c j hlt).2; have := HI.out; omega
            go_ret
            exact ⟨rfl, abA⟩
        · have d4 : decide (1000000000 - 1000000 * (k : Int) < cx x.c j) = true := by simp; omega
          have HI := Lib.hid h4
          clear h4
          go_wp2
          obtain rfl : b = false := by
            cases b with
            | false => rfl
            | true => have := ((HB.out.2 rfl).c j hlt).1; have := HI.out; omega
          go_ret
          exact ⟨rfl, abA⟩
      · obtain rfl : j = 8 := by omega
        have e14 := hc.at 14 rfl
        have e8 := hc.at 8 rfl
        by_cases h6 : x.l.next < 1000000
        · have d6 : decide (x.l.next < 1000000) = true := by simpa using h6
          by_cases h7 : x.s.n < 1000000
          · have d7 : decide (x.s.n < 1000000) = true := by simpa using h7
            obtain rfl : b = true := HB.out.1 ⟨by have := H1.out; omega, by have := H2.out; omega, by have := H3.out; omega, hV.out, h6, h7⟩
            clear h6 h7
            go_wp2
            go_ret
            exact ⟨rfl, abA⟩
          · have d7 : decide (x.s.n < 1000000) = false := by simpa using h7
            obtain rfl : b = false := by
              cases b with
              | false => rfl
              | true => exact absurd (HB.out.2 rfl).m h7
            clear h6 h7
            go_wp2
            go_ret
            exact ⟨rfl, abA⟩
        · have d6 : decide (x.l.next < 1000000) = false := by simpa using h6
          obtain rfl : b = false := by
            cases b with
            | false => rfl
            | true => exact absurd (HB.out.2 rfl).n h6
          clear h6
          go_wp2
          go_ret
          exact ⟨rfl, abA⟩

/-- A journal that is valid, not great, with room for k operations. -/
def Jour.fits (x : JX) (k : Nat) (g : Option (List Frame.Rec)) : Prop := ¬ greatJ x ∧ Jour.check x g = 0 ∧ Jour.room x k
theorem Jour.fits_good {x : JX} {k : Nat} {g : Option (List Frame.Rec)} (hi : Wal.Is x.l g) (h : Jour.fits x k g) : ∃ rs n c, g = some rs ∧ Jour.GoodX x rs n c := Jour.good_of_check hi h.2.1
theorem Jour.fits_ask {x : JX} {rs : List Frame.Rec} {n : Int} {c : List Int} {k : Nat} (h : Jour.GoodX x rs n c) (hr : Jour.room x k) : Slots.asked x.s (Jour.point x.l.next x.c) = 0 :=
  Jour.ask_of h (by have := hr.m; omega) (by have := hr.a; omega) (by have := hr.b; omega)
theorem JAr.ab {w w' : World} {a : JA} {x : JX} (h : JAr w a x) (k : Ab w w') : JAr w' a x :=
  ⟨{ h.s with a := h.s.a.ab k, b := h.s.b.ab k, c := h.s.c.ab k, d := h.s.d.ab k }, { h.l with p := h.l.p.ab k, q := h.l.q.ab k }, h.hc⟩

set_option maxRecDepth 100000 in
set_option maxHeartbeats 6400000 in
theorem jfit_any (a : JA) (x : JX) (w : World) (ha : JAr w a x) (k : Nat) (n : Int) (hn : n = (k : Int)) (hk : k ≤ 100) (g : Option (List Frame.Rec)) (hi : Wal.Is x.l g) (b : Bool) (hb : Jour.fits x k g ↔ b = true) :
    Calls Tryz.prog 22 #[.agg #[.slice a.m.A x.s.a.s.length a.m.ca, .slice a.m.B x.s.a.t.length a.m.cb, .int .i64 x.s.a.cap, .bool x.s.a.down, .slice a.m.C x.s.b.s.length a.m.cc, .slice a.m.D x.s.b.t.length a.m.cd, .int .i64 x.s.b.cap, .bool x.s.b.down, .int .i64 x.s.n, .slice a.A x.l.dev.s.length a.ca, .slice a.B x.l.dev.t.length a.cb, .int .i64 x.l.dev.cap, .bool x.l.dev.down, .int .i64 x.l.first, .int .i64 x.l.next, .int .i64 (cx x.c 0), .int .i64 (cx x.c 1), .int .i64 (cx x.c 2), .int .i64 (cx x.c 3), .int .i64 (cx x.c 4), .int .i64 (cx x.c 5), .int .i64 (cx x.c 6), .int .i64 (cx x.c 7)], .int .i64 n] w fun e w' => e = .returned (.bool b) ∧ Ab w w' := by
  subst hn
  have HB := Lib.hid hb
  clear hb
  go_enter Tryz.func22, Tryz.ntmps22
  have V2 : VB (w.alloc (.cells #[.slice a.m.A x.s.a.s.length a.m.ca, .slice a.m.B x.s.a.t.length a.m.cb, .int .i64 x.s.a.cap, .bool x.s.a.down, .slice a.m.C x.s.b.s.length a.m.cc, .slice a.m.D x.s.b.t.length a.m.cd, .int .i64 x.s.b.cap, .bool x.s.b.down, .int .i64 x.s.n, .slice a.A x.l.dev.s.length a.ca, .slice a.B x.l.dev.t.length a.cb, .int .i64 x.l.dev.cap, .bool x.l.dev.down, .int .i64 x.l.first, .int .i64 x.l.next, .int .i64 (cx x.c 0), .int .i64 (cx x.c 1), .int .i64 (cx x.c 2), .int .i64 (cx x.c 3), .int .i64 (cx x.c 4), .int .i64 (cx x.c 5), .int .i64 (cx x.c 6), .int .i64 (cx x.c 7)] 32 (0, 0))) w.heap.size [.slice a.m.A x.s.a.s.length a.m.ca, .slice a.m.B x.s.a.t.length a.m.cb, .int .i64 x.s.a.cap, .bool x.s.a.down, .slice a.m.C x.s.b.s.length a.m.cc, .slice a.m.D x.s.b.t.length a.m.cd, .int .i64 x.s.b.cap, .bool x.s.b.down, .int .i64 x.s.n, .slice a.A x.l.dev.s.length a.ca, .slice a.B x.l.dev.t.length a.cb, .int .i64 x.l.dev.cap, .bool x.l.dev.down, .int .i64 x.l.first, .int .i64 x.l.next, .int .i64 (cx x.c 0), .int .i64 (cx x.c 1), .int .i64 (cx x.c 2), .int .i64 (cx x.c 3), .int .i64 (cx x.c 4), .int .i64 (cx x.c 5), .int .i64 (cx x.c 6), .int .i64 (cx x.c 7)] := VB.box (new_plain rfl)
  have BW : Ab w (w.alloc (.cells #[.slice a.m.A x.s.a.s.length a.m.ca, .slice a.m.B x.s.a.t.length a.m.cb, .int .i64 x.s.a.cap, .bool x.s.a.down, .slice a.m.C x.s.b.s.length a.m.cc, .slice a.m.D x.s.b.t.length a.m.cd, .int .i64 x.s.b.cap, .bool x.s.b.down, .int .i64 x.s.n, .slice a.A x.l.dev.s.length a.ca, .slice a.B x.l.dev.t.length a.cb, .int .i64 x.l.dev.cap, .bool x.l.dev.down, .int .i64 x.l.first, .int .i64 x.l.next, .int .i64 (cx x.c 0), .int .i64 (cx x.c 1), .int .i64 (cx x.c 2), .int .i64 (cx x.c 3), .int .i64 (cx x.c 4), .int .i64 (cx x.c 5), .int .i64 (cx x.c 6), .int .i64 (cx x.c 7)] 32 (0, 0))) := abA
  by_cases hg : greatJ x
  · have HG := Lib.hid hg
    clear hg
    obtain rfl : b = false := by
      cases b with
      | false => rfl
      | true => exact absurd HG.out (HB.out.2 rfl).1
    go_wp2_with (refine list_ldJ rfl _ rfl rfl V2 rfl ?_)
    refine (jgreat_any a x _ ha.l.np ha.l.nq true ⟨fun _ => rfl, fun _ => HG.out⟩).mono ?_
    rintro e w1 ⟨rfl, hb1⟩
    go_wp2
    go_ret
    exact ⟨rfl, abA⟩
  have h := ha.jm hg
  have HG := Lib.hid hg
  clear hg
  go_wp2_with (refine list_ldJ rfl _ rfl rfl V2 rfl ?_)
  refine (jgreat_any a x _ ha.l.np ha.l.nq false ⟨fun k => absurd k HG.out, fun k => absurd k (by simp)⟩).mono ?_
  rintro e w1 ⟨rfl, hb1⟩
  replace V2 := V2.ab hb1
  replace BW := BW.trans hb1
  clear hb1
  go_wp2_with (refine list_ldJg (by kernel_rfl) _ rfl rfl V2 rfl ?_)
  refine (jrcheck_any a x _ (h.ab BW) g hi).mono ?_
  rintro e w2 ⟨er, hr, rfl, hb2⟩
  replace V2 := V2.ab hb2
  replace BW := BW.trans hb2
  clear hb2
  by_cases he : er = 0
  · obtain rfl : er = 0 := he
    have HC := Lib.hid (show Jour.check x g = 0 from hr.out.symm)
    obtain ⟨rs, m, c, rfl, hG⟩ := Jour.good_of_check hi HC.out
    have hrm := Wal.Good.room (l := x.l) hG.log
    have hc0 := hrm.1
    have hc1 := hrm.2.1
    have hsz : (x.l.dev.s.length : Int) + x.l.dev.t.length ≤ 20000 := by have := hrm.2.2; simp only [Disk.Dev.size] at this; omega
    have HS := Lib.hid (And.intro hc0 (And.intro hc1 hsz))
    clear hr hrm hc0 hc1 hsz hG
    go_wp2_with (refine list_ldJg (by kernel_rfl) _ rfl rfl V2 rfl ?_)
    refine (jrroom_any a x _ (h.ab BW) k hk b ⟨fun r => HB.out.1 ⟨HG.out, HC.out, r⟩, fun e => (HB.out.2 e).2.2⟩ HS.out.1 HS.out.2.1 HS.out.2.2).mono ?_
    rintro e w3 ⟨rfl, hb3⟩
    go_wp2
    go_ret
    exact ⟨rfl, abA⟩
  · have hne : (er == 0) = false := by simpa using he
    obtain rfl : b = false := by
      cases b with
      | false => rfl
      | true => exact absurd (hr.out.trans (HB.out.2 rfl).2.1) he
    clear he hr
    go_wp2
    go_ret
    exact ⟨rfl, abA⟩
end Go.Proofs.YthgcfjhnnhigoaaGreat
