/- The texts JRefH, JRefI, JRefJ, JRefK, JRefL, one behind the other. Own work. -/
import Derived.Test.YthgcfjhnnhigoaaGreatGK
import Derived.Test.YthgcfjhnnhigoaaGreatGP
import Derived.Test.YthgcfjhnnhigoaaGreatGY
import Derived.Test.YthgcfjhnnhigoaaGreatGR
import Derived.Test.YthgcfjhnnhigoaaGreatGN
set_option linter.unusedVariables false
set_option linter.unusedSimpArgs false
/- Check of the reference of layer 6, walked. Own work. -/
namespace Go.Proofs.YthgcfjhnnhigoaaGreat
open Go.RowKit
open Slots (Sl)

namespace Jour
theorem baseR_state {s : Sl} {n : Int} {c : List Int} (h : (n, c, true) = baseR s) : State c := by
  have e : base s = some (n, c) := by rw [baseR_base, ← h]; rfl
  exact (base_state e).2.2.1
theorem check_slots {x : JX} {g : Option (List Frame.Rec)} (h : Slots.bad x.s) : check x g = 8 := if_pos (.inl h)
theorem check_log {x : JX} : check x none = 8 := by
  unfold check
  split
  · rfl
  · split
    · rfl
    · exact if_neg fun k => absurd (Prod.mk.inj k).2 (by decide)
theorem check_next {x : JX} {g : Option (List Frame.Rec)} (h : x.s.n ≠ Slots.nextOf (Slots.newest x.s)) : check x g = 8 := if_pos (.inr h)
theorem check_base {x : JX} {g : Option (List Frame.Rec)} (h : (baseR x.s).2.2 = false) : check x g = 8 := by
  unfold check
  split
  · rfl
  · rw [baseR_base, h]; rfl
theorem check_far {x : JX} {rs : List Frame.Rec} {n : Int} {c d : List Int} {ok : Bool} (h : ¬ Slots.bad x.s) (hn : x.s.n = Slots.nextOf (Slots.newest x.s)) (hb : (n, c, true) = baseR x.s) (hr : (d, ok) = replayR c n rs) :
    check x (some rs) = if x.l.first ≤ n ∧ n ≤ x.l.next ∧ ok = true ∧ d = x.c then 0 else 8 := by
  unfold check
  rw [if_neg (fun k => k.elim h (fun k => k hn)), baseR_base, ← hb]
  simp only [if_true]
  have e : replayM c n x.l (some rs) = if n < x.l.first ∨ x.l.next < n then (zeros, 8) else if ok = true then (d, 0) else (zeros, 8) := by
    show (if n < x.l.first ∨ x.l.next < n then _ else _) = _
    split
    · rfl
    · rw [replayR_replay, ← hr]
      cases ok <;> rfl
  by_cases h1 : n < x.l.first ∨ x.l.next < n
  · rw [if_neg (by rw [e, if_pos h1]; exact fun k => absurd (Prod.mk.inj k).2 (by decide)), if_neg (by omega)]
  · cases ok with
    | false => rw [if_neg (by rw [e, if_neg h1]; exact fun k => absurd (Prod.mk.inj k).2 (by decide)), if_neg (by simp)]
    | true =>
      by_cases hd : d = x.c
      · rw [if_pos (by rw [e, if_neg h1, hd]; rfl), if_pos ⟨by omega, by omega, rfl, hd⟩]
      · rw [if_neg (by rw [e, if_neg h1]; exact fun k => hd (Prod.mk.inj k).1), if_neg (fun k => hd k.2.2.2)]
end Jour
set_option maxRecDepth 100000 in
set_option maxHeartbeats 6400000 in
theorem jrcheck_any (a : JA) (x : JX) (w : World) (h : JM w a x) (g : Option (List Frame.Rec)) (hi : Wal.Is x.l g) :
    Calls Tryz.prog 21 #[.agg #[.slice a.m.A x.s.a.s.length a.m.ca, .slice a.m.B x.s.a.t.length a.m.cb, .int .i64 x.s.a.cap, .bool x.s.a.down, .slice a.m.C x.s.b.s.length a.m.cc, .slice a.m.D x.s.b.t.length a.m.cd, .int .i64 x.s.b.cap, .bool x.s.b.down, .int .i64 x.s.n, .slice a.A x.l.dev.s.length a.ca, .slice a.B x.l.dev.t.length a.cb, .int .i64 x.l.dev.cap, .bool x.l.dev.down, .int .i64 x.l.first, .int .i64 x.l.next, .int .i64 (cx x.c 0), .int .i64 (cx x.c 1), .int .i64 (cx x.c 2), .int .i64 (cx x.c 3), .int .i64 (cx x.c 4), .int .i64 (cx x.c 5), .int .i64 (cx x.c 6), .int .i64 (cx x.c 7)]] w (RetInt w (Jour.check x g)) := by
  go_enter Tryz.func21, Tryz.ntmps21
  have hbx : VB (w.alloc (.cells #[.slice a.m.A x.s.a.s.length a.m.ca, .slice a.m.B x.s.a.t.length a.m.cb, .int .i64 x.s.a.cap, .bool x.s.a.down, .slice a.m.C x.s.b.s.length a.m.cc, .slice a.m.D x.s.b.t.length a.m.cd, .int .i64 x.s.b.cap, .bool x.s.b.down, .int .i64 x.s.n, .slice a.A x.l.dev.s.length a.ca, .slice a.B x.l.dev.t.length a.cb, .int .i64 x.l.dev.cap, .bool x.l.dev.down, .int .i64 x.l.first, .int .i64 x.l.next, .int .i64 (cx x.c 0), .int .i64 (cx x.c 1), .int .i64 (cx x.c 2), .int .i64 (cx x.c 3), .int .i64 (cx x.c 4), .int .i64 (cx x.c 5), .int .i64 (cx x.c 6), .int .i64 (cx x.c 7)] 32 (0, 0))) w.heap.size [.slice a.m.A x.s.a.s.length a.m.ca, .slice a.m.B x.s.a.t.length a.m.cb, .int .i64 x.s.a.cap, .bool x.s.a.down, .slice a.m.C x.s.b.s.length a.m.cc, .slice a.m.D x.s.b.t.length a.m.cd, .int .i64 x.s.b.cap, .bool x.s.b.down, .int .i64 x.s.n, .slice a.A x.l.dev.s.length a.ca, .slice a.B x.l.dev.t.length a.cb, .int .i64 x.l.dev.cap, .bool x.l.dev.down, .int .i64 x.l.first, .int .i64 x.l.next, .int .i64 (cx x.c 0), .int .i64 (cx x.c 1), .int .i64 (cx x.c 2), .int .i64 (cx x.c 3), .int .i64 (cx x.c 4), .int .i64 (cx x.c 5), .int .i64 (cx x.c 6), .int .i64 (cx x.c 7)] := VB.box (new_plain rfl)
  have xq0 := (hbx).at 0 rfl
  have xq1 := (hbx).at 1 rfl
  have xq2 := (hbx).at 2 rfl
  have xq3 := (hbx).at 3 rfl
  have xq4 := (hbx).at 4 rfl
  have xq5 := (hbx).at 5 rfl
  have xq6 := (hbx).at 6 rfl
  have xq7 := (hbx).at 7 rfl
  have xq8 := (hbx).at 8 rfl
  go_wp2_with fail
  refine (srcheck_any a.m x.s _ (h.s.ab abA)).mono ?_
  rintro e w1 ⟨er, hr, rfl, hb1⟩
  have v1 := hbx.ab hb1
  have b1 : Ab w w1 := abA
  clear hbx hb1 xq0 xq1 xq2 xq3 xq4 xq5 xq6 xq7 xq8
  by_cases hbad : Slots.bad x.s
  · obtain rfl : er = 8 := hr.out.trans (Slots.check_bad hbad)
    have HM := Lib.hid (Jour.check_slots (g := g) hbad)
    clear hr hbad
    go_wp2
    go_ret
    exact ⟨8, Lib.hid HM.out.symm, rfl, abA⟩
  obtain rfl : er = 0 := hr.out.trans (Slots.check_ok hbad)
  have HG := Lib.hid (Slots.good_of hbad)
  have HNB := Lib.hid hbad
  clear hr hbad
  have xq0 := (v1).at 9 rfl
  have xq1 := (v1).at 10 rfl
  have xq2 := (v1).at 11 rfl
  have xq3 := (v1).at 12 rfl
  have xq4 := (v1).at 13 rfl
  have xq5 := (v1).at 14 rfl
  go_wp2_with fail
  refine (refwcheck_any a.A a.B a.ca a.cb x.l.dev.s x.l.dev.t x.l.dev.cap x.l.dev.down x.l.first x.l.next _ (h.l.p.ab abA) (h.l.q.ab abA) h.l.lp h.l.lq h.l.np h.l.nq g hi).mono ?_
  rintro e w2 ⟨er2, hr2, rfl, hb2⟩
  have v2 := v1.ab hb2
  have b2 : Ab w w2 := b1.trans hb2
  clear v1 hb2 xq0 xq1 xq2 xq3 xq4 xq5 b1
  cases g with
  | none =>
    obtain rfl : er2 = 8 := hr2.out
    clear hr2
    go_wp2
    go_ret
    exact ⟨8, Lib.hid Jour.check_log.symm, rfl, abA⟩
  | some rs =>
    obtain rfl : er2 = 0 := hr2.out
    clear hr2
    have hgd : Wal.Good x.l rs := hi
    have HW := Lib.hid hgd
    have xq0 := (v2).at 0 rfl
    have xq1 := (v2).at 1 rfl
    have xq2 := (v2).at 2 rfl
    have xq3 := (v2).at 3 rfl
    have xq4 := (v2).at 4 rfl
    have xq5 := (v2).at 5 rfl
    have xq6 := (v2).at 6 rfl
    have xq7 := (v2).at 7 rfl
    have xq8 := (v2).at 8 rfl
    go_wp2_with fail
    refine (srnewest_any a.m x.s _ (h.s.ab abA) (by have := HG.out.a.size; have := HG.out.a.tail; rw [this]; simpa using HG.out.a.size) (by have := HG.out.b.tail; rw [this]; simpa using HG.out.b.size)).mono ?_
    rintro e w3 ⟨⟨rn, data⟩, ok, A, c, hr, rfl, hR, hc, hval, hb3⟩
    dsimp only at hR hc
    have v3 := v2.ab hb3
    have b3 : Ab w w3 := b2.trans hb3
    clear v2 hb3 xq0 xq1 xq2 xq3 xq4 xq5 xq6 xq7 xq8 b2 hR
    have vd : VB (w3.alloc (.cells #[.int .i64 rn, .slice A data.length c] 108 (0, 0))) w3.heap.size [.int .i64 rn, .slice A data.length c] := VB.box (new_plain rfl)
    have v3 := v3.ab ((Ab.refl w3).alloc (.cells #[.int .i64 rn, .slice A data.length c] 108 (0, 0)))
    have p0 := vd.at 0 rfl
    cases ok with
    | false =>
      have HNX := Lib.hid (show (1 : Int) = Slots.nextOf (Slots.newest x.s) by rw [← hr.out]; rfl)
      clear hval hr
      have xq0 := (v3).at 0 rfl
      have xq1 := (v3).at 1 rfl
      have xq2 := (v3).at 2 rfl
      have xq3 := (v3).at 3 rfl
      have xq4 := (v3).at 4 rfl
      have xq5 := (v3).at 5 rfl
      have xq6 := (v3).at 6 rfl
      have xq7 := (v3).at 7 rfl
      have xq8 := (v3).at 8 rfl
      go_wp2_with fail
      refine (jrbase_any a.m x.s _ (h.s.ab abA) (by have := HG.out.a.tail; rw [this]; simpa using HG.out.a.size) (by have := HG.out.b.tail; rw [this]; simpa using HG.out.b.size)).mono ?_
      rintro e w4 ⟨n0, c0, ok0, hbs, rfl, hl0, hb4⟩
      have v4 := v3.ab hb4
      have b4 : Ab w w4 := (b3.alloc _).trans hb4
      clear v3 hb4 b3 vd p0 xq0 xq1 xq2 xq3 xq4 xq5 xq6 xq7 xq8
      have HBS := Lib.hid hbs.out
      clear hbs
      cases ok0 with
      | false =>
        have HM := Lib.hid (Jour.check_base (g := some rs) (by rw [← HBS.out]))
        clear HBS
        go_wp2
        go_ret
        exact ⟨8, Lib.hid HM.out.symm, rfl, abA⟩
      | true =>
        have z4 := v4.lt
        have A4 := (Ab.refl w4).alloc (.cells #[.int .i64 (cx c0 0), .int .i64 (cx c0 1), .int .i64 (cx c0 2), .int .i64 (cx c0 3), .int .i64 (cx c0 4), .int .i64 (cx c0 5), .int .i64 (cx c0 6), .int .i64 (cx c0 7)] 30 (0, 0))
        have l8 := (v4.ab A4).at 8 rfl
        have l13 := (v4.ab A4).at 13 rfl
        have l14 := (v4.ab A4).at 14 rfl
        by_cases hn : x.s.n = 1
        · have HN := Lib.hid hn
          have d1 : (x.s.n != 1) = false := by simpa using hn
          clear hn
          by_cases h1 : n0 < x.l.first
          · have d2 : decide (n0 < x.l.first) = true := by simpa using h1
            have H1 := Lib.hid h1
            clear h1
            have HM := Lib.hid ((Jour.check_far (d := (Jour.replayR c0 n0 rs).1) (ok := (Jour.replayR c0 n0 rs).2) HNB.out (by rw [HN.out, HNX.out]) HBS.out rfl).trans (if_neg (by have := H1.out; omega)))
            clear HBS
            go_wp2
            go_ret
            exact ⟨8, Lib.hid HM.out.symm, rfl, abA⟩
          · have d2 : decide (n0 < x.l.first) = false := by simpa using h1
            have H1 := Lib.hid h1
            clear h1
            by_cases h2 : x.l.next < n0
            · have d3 : decide (x.l.next < n0) = true := by simpa using h2
              have H2 := Lib.hid h2
              clear h2
              have HM := Lib.hid ((Jour.check_far (d := (Jour.replayR c0 n0 rs).1) (ok := (Jour.replayR c0 n0 rs).2) HNB.out (by rw [HN.out, HNX.out]) HBS.out rfl).trans (if_neg (by have := H2.out; omega)))
              clear HBS
              go_wp2
              go_ret
              exact ⟨8, Lib.hid HM.out.symm, rfl, abA⟩
            · have d3 : decide (x.l.next < n0) = false := by simpa using h2
              have H2 := Lib.hid h2
              clear h2
              have HST := Lib.hid (Jour.baseR_state HBS.out)
              have v5 : VB (w4.alloc (.cells #[.int .i64 (cx c0 0), .int .i64 (cx c0 1), .int .i64 (cx c0 2), .int .i64 (cx c0 3), .int .i64 (cx c0 4), .int .i64 (cx c0 5), .int .i64 (cx c0 6), .int .i64 (cx c0 7)] 30 (0, 0))) w4.heap.size [.int .i64 (cx c0 0), .int .i64 (cx c0 1), .int .i64 (cx c0 2), .int .i64 (cx c0 3), .int .i64 (cx c0 4), .int .i64 (cx c0 5), .int .i64 (cx c0 6), .int .i64 (cx c0 7)] := VB.box (new_plain rfl)
              have yq0 := (v5).at 0 rfl
              have yq1 := (v5).at 1 rfl
              have yq2 := (v5).at 2 rfl
              have yq3 := (v5).at 3 rfl
              have yq4 := (v5).at 4 rfl
              have yq5 := (v5).at 5 rfl
              have yq6 := (v5).at 6 rfl
              have yq7 := (v5).at 7 rfl
              have xq0 := ((v4.ab A4)).at 9 rfl
              have xq1 := ((v4.ab A4)).at 10 rfl
              have xq2 := ((v4.ab A4)).at 11 rfl
              have xq3 := ((v4.ab A4)).at 12 rfl
              have xq4 := ((v4.ab A4)).at 13 rfl
              have xq5 := ((v4.ab A4)).at 14 rfl
              go_wp2_with fail
              refine (jrreplayed_any c0 hl0 HST.out a.A a.B a.ca a.cb x.l.dev.s x.l.dev.t x.l.dev.cap x.l.dev.down x.l.first x.l.next _ (h.l.p.ab abA) (h.l.q.ab abA) h.l.lp h.l.lq (by have := HW.out.room; simp only [Disk.Dev.size] at this; omega) n0 rs _ HW.out.scan).mono ?_
              rintro e w5 ⟨d, ok5, hd5, rfl, hl5, hb5⟩
              have v6 := (v4.ab A4).ab hb5
              have v7 := v5.ab hb5
              have b5 : Ab w w5 := (b4.trans A4).trans hb5
              have HF := Lib.hid (Jour.check_far HNB.out (by rw [HN.out, HNX.out]) HBS.out hd5.out)
              clear v5 v4 A4 hb5 yq0 yq1 yq2 yq3 yq4 yq5 yq6 yq7 xq0 xq1 xq2 xq3 xq4 xq5 l8 l13 l14 hd5 b4
              have g7 := v7.g
              have z7 := v7.lt
              have ne1 : w.heap.size ≠ w4.heap.size := by omega
              have ne2 : w4.heap.size ≠ w.heap.size := by omega
              have yq0 := (v7).at 0 rfl
              have yq1 := (v7).at 1 rfl
              have yq2 := (v7).at 2 rfl
              have yq3 := (v7).at 3 rfl
              have yq4 := (v7).at 4 rfl
              have yq5 := (v7).at 5 rfl
              have yq6 := (v7).at 6 rfl
              have yq7 := (v7).at 7 rfl
              have xq0 := (v6).at 15 rfl
              have xq1 := (v6).at 16 rfl
              have xq2 := (v6).at 17 rfl
              have xq3 := (v6).at 18 rfl
              have xq4 := (v6).at 19 rfl
              have xq5 := (v6).at 20 rfl
              have xq6 := (v6).at 21 rfl
              have xq7 := (v6).at 22 rfl
              cases ok5 with
              | false =>
                have HM := Lib.hid (HF.out.trans (if_neg (by simp)))
                clear HF
                go_wp2
                go_ret
                exact ⟨8, Lib.hid HM.out.symm, rfl, abA⟩
              | true =>
                by_cases hdc : d = x.c
                · have HM := Lib.hid (HF.out.trans (if_pos ⟨by have := H1.out; omega, by have := H2.out; omega, rfl, hdc⟩))
                  have heq := fun w => run_eight d x.c hl5 h.hc w true (decide_eq_true hdc)
                  clear HF hdc
                  go_wp2
                  go_ret
                  exact ⟨0, Lib.hid HM.out.symm, rfl, abA⟩
                · have HM := Lib.hid (HF.out.trans (if_neg fun k => hdc k.2.2.2))
                  have heq := fun w => run_eight d x.c hl5 h.hc w false (decide_eq_false hdc)
                  clear HF hdc
                  go_wp2
                  go_ret
                  exact ⟨8, Lib.hid HM.out.symm, rfl, abA⟩
        · have HN := Lib.hid hn
          have d1 : (x.s.n != 1) = true := by simpa using hn
          clear hn
          have HM := Lib.hid (Jour.check_next (g := some rs) (by rw [← HNX.out]; exact HN.out))
          clear HBS
          go_wp2
          go_ret
          exact ⟨8, Lib.hid HM.out.symm, rfl, abA⟩
    | true =>
      have HNX := Lib.hid (show rn + 1 = Slots.nextOf (Slots.newest x.s) by rw [← hr.out]; rfl)
      have hv := hval rfl
      have wn : IntKind.i64.wrap (rn + 1) = rn + 1 := IntWalk.i64_in _ (by have := hv.1; have := hv.2; simp only at *; omega)
      clear hval hr hv
      have xq0 := (v3).at 0 rfl
      have xq1 := (v3).at 1 rfl
      have xq2 := (v3).at 2 rfl
      have xq3 := (v3).at 3 rfl
      have xq4 := (v3).at 4 rfl
      have xq5 := (v3).at 5 rfl
      have xq6 := (v3).at 6 rfl
      have xq7 := (v3).at 7 rfl
      have xq8 := (v3).at 8 rfl
      go_wp2_with fail
      refine (jrbase_any a.m x.s _ (h.s.ab abA) (by have := HG.out.a.tail; rw [this]; simpa using HG.out.a.size) (by have := HG.out.b.tail; rw [this]; simpa using HG.out.b.size)).mono ?_
      rintro e w4 ⟨n0, c0, ok0, hbs, rfl, hl0, hb4⟩
      have v4 := v3.ab hb4
      have b4 : Ab w w4 := (b3.alloc _).trans hb4
      clear v3 hb4 b3 vd p0 xq0 xq1 xq2 xq3 xq4 xq5 xq6 xq7 xq8
      have HBS := Lib.hid hbs.out
      clear hbs
      cases ok0 with
      | false =>
        have HM := Lib.hid (Jour.check_base (g := some rs) (by rw [← HBS.out]))
        clear HBS
        go_wp2
        go_ret
        exact ⟨8, Lib.hid HM.out.symm, rfl, abA⟩
      | true =>
        have z4 := v4.lt
        have A4 := (Ab.refl w4).alloc (.cells #[.int .i64 (cx c0 0), .int .i64 (cx c0 1), .int .i64 (cx c0 2), .int .i64 (cx c0 3), .int .i64 (cx c0 4), .int .i64 (cx c0 5), .int .i64 (cx c0 6), .int .i64 (cx c0 7)] 30 (0, 0))
        have l8 := (v4.ab A4).at 8 rfl
        have l13 := (v4.ab A4).at 13 rfl
        have l14 := (v4.ab A4).at 14 rfl
        by_cases hn : x.s.n = (rn + 1)
        · have HN := Lib.hid hn
          have d1 : (x.s.n != (rn + 1)) = false := by simpa using hn
          clear hn
          by_cases h1 : n0 < x.l.first
          · have d2 : decide (n0 < x.l.first) = true := by simpa using h1
            have H1 := Lib.hid h1
            clear h1
            have HM := Lib.hid ((Jour.check_far (d := (Jour.replayR c0 n0 rs).1) (ok := (Jour.replayR c0 n0 rs).2) HNB.out (by rw [HN.out, HNX.out]) HBS.out rfl).trans (if_neg (by have := H1.out; omega)))
            clear HBS
            go_wp2
            go_ret
            exact ⟨8, Lib.hid HM.out.symm, rfl, abA⟩
          · have d2 : decide (n0 < x.l.first) = false := by simpa using h1
            have H1 := Lib.hid h1
            clear h1
            by_cases h2 : x.l.next < n0
            · have d3 : decide (x.l.next < n0) = true := by simpa using h2
              have H2 := Lib.hid h2
              clear h2
              have HM := Lib.hid ((Jour.check_far (d := (Jour.replayR c0 n0 rs).1) (ok := (Jour.replayR c0 n0 rs).2) HNB.out (by rw [HN.out, HNX.out]) HBS.out rfl).trans (if_neg (by have := H2.out; omega)))
              clear HBS
              go_wp2
              go_ret
              exact ⟨8, Lib.hid HM.out.symm, rfl, abA⟩
            · have d3 : decide (x.l.next < n0) = false := by simpa using h2
              have H2 := Lib.hid h2
              clear h2
              have HST := Lib.hid (Jour.baseR_state HBS.out)
              have v5 : VB (w4.alloc (.cells #[.int .i64 (cx c0 0), .int .i64 (cx c0 1), .int .i64 (cx c0 2), .int .i64 (cx c0 3), .int .i64 (cx c0 4), .int .i64 (cx c0 5), .int .i64 (cx c0 6), .int .i64 (cx c0 7)] 30 (0, 0))) w4.heap.size [.int .i64 (cx c0 0), .int .i64 (cx c0 1), .int .i64 (cx c0 2), .int .i64 (cx c0 3), .int .i64 (cx c0 4), .int .i64 (cx c0 5), .int .i64 (cx c0 6), .int .i64 (cx c0 7)] := VB.box (new_plain rfl)
              have yq0 := (v5).at 0 rfl
              have yq1 := (v5).at 1 rfl
              have yq2 := (v5).at 2 rfl
              have yq3 := (v5).at 3 rfl
              have yq4 := (v5).at 4 rfl
              have yq5 := (v5).at 5 rfl
              have yq6 := (v5).at 6 rfl
              have yq7 := (v5).at 7 rfl
              have xq0 := ((v4.ab A4)).at 9 rfl
              have xq1 := ((v4.ab A4)).at 10 rfl
              have xq2 := ((v4.ab A4)).at 11 rfl
              have xq3 := ((v4.ab A4)).at 12 rfl
              have xq4 := ((v4.ab A4)).at 13 rfl
              have xq5 := ((v4.ab A4)).at 14 rfl
              go_wp2_with fail
              refine (jrreplayed_any c0 hl0 HST.out a.A a.B a.ca a.cb x.l.dev.s x.l.dev.t x.l.dev.cap x.l.dev.down x.l.first x.l.next _ (h.l.p.ab abA) (h.l.q.ab abA) h.l.lp h.l.lq (by have := HW.out.room; simp only [Disk.Dev.size] at this; omega) n0 rs _ HW.out.scan).mono ?_
              rintro e w5 ⟨d, ok5, hd5, rfl, hl5, hb5⟩
              have v6 := (v4.ab A4).ab hb5
              have v7 := v5.ab hb5
              have b5 : Ab w w5 := (b4.trans A4).trans hb5
              have HF := Lib.hid (Jour.check_far HNB.out (by rw [HN.out, HNX.out]) HBS.out hd5.out)
              clear v5 v4 A4 hb5 yq0 yq1 yq2 yq3 yq4 yq5 yq6 yq7 xq0 xq1 xq2 xq3 xq4 xq5 l8 l13 l14 hd5 b4
              have g7 := v7.g
              have z7 := v7.lt
              have ne1 : w.heap.size ≠ w4.heap.size := by omega
              have ne2 : w4.heap.size ≠ w.heap.size := by omega
              have yq0 := (v7).at 0 rfl
              have yq1 := (v7).at 1 rfl
              have yq2 := (v7).at 2 rfl
              have yq3 := (v7).at 3 rfl
              have yq4 := (v7).at 4 rfl
              have yq5 := (v7).at 5 rfl
              have yq6 := (v7).at 6 rfl
              have yq7 := (v7).at 7 rfl
              have xq0 := (v6).at 15 rfl
              have xq1 := (v6).at 16 rfl
              have xq2 := (v6).at 17 rfl
              have xq3 := (v6).at 18 rfl
              have xq4 := (v6).at 19 rfl
              have xq5 := (v6).at 20 rfl
              have xq6 := (v6).at 21 rfl
              have xq7 := (v6).at 22 rfl
              cases ok5 with
              | false =>
                have HM := Lib.hid (HF.out.trans (if_neg (by simp)))
                clear HF
                go_wp2
                go_ret
                exact ⟨8, Lib.hid HM.out.symm, rfl, abA⟩
              | true =>
                by_cases hdc : d = x.c
                · have HM := Lib.hid (HF.out.trans (if_pos ⟨by have := H1.out; omega, by have := H2.out; omega, rfl, hdc⟩))
                  have heq := fun w => run_eight d x.c hl5 h.hc w true (decide_eq_true hdc)
                  clear HF hdc
                  go_wp2
                  go_ret
                  exact ⟨0, Lib.hid HM.out.symm, rfl, abA⟩
                · have HM := Lib.hid (HF.out.trans (if_neg fun k => hdc k.2.2.2))
                  have heq := fun w => run_eight d x.c hl5 h.hc w false (decide_eq_false hdc)
                  clear HF hdc
                  go_wp2
                  go_ret
                  exact ⟨8, Lib.hid HM.out.symm, rfl, abA⟩
        · have HN := Lib.hid hn
          have d1 : (x.s.n != (rn + 1)) = true := by simpa using hn
          clear hn
          have HM := Lib.hid (Jour.check_next (g := some rs) (by rw [← HNX.out]; exact HN.out))
          clear HBS
          go_wp2
          go_ret
          exact ⟨8, Lib.hid HM.out.symm, rfl, abA⟩
end Go.Proofs.YthgcfjhnnhigoaaGreat

/- New and Sync of the reference of layer 6, walked. Own work. -/
namespace Go.Proofs.YthgcfjhnnhigoaaGreat
open Go.RowKit
open Slots (Sl)

set_option maxRecDepth 100000 in
set_option maxHeartbeats 3200000 in
theorem jrnew_any (c : Int) (w : World) :
    Calls Tryz.prog 10 #[.int .i64 c] w (RetJE w (Jour.newM c)) := by
  go_enter Tryz.func10, Tryz.ntmps10
  have hrx : VB (w.alloc (.cells #[.slice none 0 0, .slice none 0 0, .int .i64 0, .bool false, .slice none 0 0, .slice none 0 0, .int .i64 0, .bool false, .int .i64 0, .slice none 0 0, .slice none 0 0, .int .i64 0, .bool false, .int .i64 0, .int .i64 0, .int .i64 0, .int .i64 0, .int .i64 0, .int .i64 0, .int .i64 0, .int .i64 0, .int .i64 0, .int .i64 0] 32 (0, 0))) w.heap.size [.slice none 0 0, .slice none 0 0, .int .i64 0, .bool false, .slice none 0 0, .slice none 0 0, .int .i64 0, .bool false, .int .i64 0, .slice none 0 0, .slice none 0 0, .int .i64 0, .bool false, .int .i64 0, .int .i64 0, .int .i64 0, .int .i64 0, .int .i64 0, .int .i64 0, .int .i64 0, .int .i64 0, .int .i64 0, .int .i64 0] := VB.box (new_plain (by simp))
  go_wp2_with fail
  refine (srnew_any c _).mono ?_
  rintro e w1 ⟨r, er, k, hr, rfl, hM, hb1⟩
  have v1 := (hrx.var rfl).ab hb1
  have b1 : Ab w w1 := abA
  have z1 := v1.lt
  have HR := Lib.hid hr.out
  clear hr hrx hb1
  by_cases hbad : c < 0 ∨ 20000 < c
  · have hx : Slots.new c = (Slots.zero, 2) := if_pos hbad
    have HM := Lib.hid (show Jour.newM c = _ from if_pos hbad)
    rw [hx] at HR
    obtain ⟨rfl, rfl⟩ := Prod.mk.inj HR.out
    clear HR hx hbad
    go_wp2_with (refine list_stJ rfl _ _ rfl rfl rfl (Var.ab v1 abA) rfl rfl ?_; intro w9 h9)
    refine bodyPost_ret (res_J2 Tryz.results10 _ rfl h9.v rfl) rfl ?_
    exact RetJE.zero HM.out.symm (h9.ab w abA (Nat.le_refl _))
  · have hx : Slots.new c = (⟨⟨[], [], c, false⟩, ⟨[], [], c, false⟩, 1⟩, 0) := if_neg hbad
    have HM := Lib.hid (show Jour.newM c = _ from if_neg hbad)
    rw [hx] at HR
    obtain ⟨hr, rfl⟩ := Prod.mk.inj HR.out
    have HX := Lib.hid hr
    clear HR hx hbad hr
    have v4 : VB (w1.alloc (.cells #[.slice k.A r.a.s.length k.ca, .slice k.B r.a.t.length k.cb, .int .i64 r.a.cap, .bool r.a.down, .slice k.C r.b.s.length k.cc, .slice k.D r.b.t.length k.cd, .int .i64 r.b.cap, .bool r.b.down, .int .i64 r.n] 27 (0, 0))) w1.heap.size [.slice k.A r.a.s.length k.ca, .slice k.B r.a.t.length k.cb, .int .i64 r.a.cap, .bool r.a.down, .slice k.C r.b.s.length k.cc, .slice k.D r.b.t.length k.cd, .int .i64 r.b.cap, .bool r.b.down, .int .i64 r.n] := VB.box (new_plain rfl)
    have yq0 := (v4).at 0 rfl
    have yq1 := (v4).at 1 rfl
    have yq2 := (v4).at 2 rfl
    have yq3 := (v4).at 3 rfl
    have yq4 := (v4).at 4 rfl
    have yq5 := (v4).at 5 rfl
    have yq6 := (v4).at 6 rfl
    have yq7 := (v4).at 7 rfl
    have yq8 := (v4).at 8 rfl
    go_wp2_with (refine list_stJ rfl _ _ rfl rfl rfl (Var.ab v1 abA) rfl rfl ?_; intro w9 h9)
    refine bodyPost_ret (res_J2 Tryz.results10 _ rfl h9.v rfl) rfl ?_
    exact ⟨⟨r, ⟨⟨[], [], c, false⟩, 0, 0⟩, Jour.zeros⟩, 0, ⟨k, none, none, 0, 0⟩, Lib.hid (by rw [HM.out, HX.out]), rfl, ⟨h9.slm (hM.zero.ab abA), ⟨RB.nil, RB.nil, Nat.le_refl _, Nat.le_refl _, by simp, by simp⟩, rfl⟩, h9.ab w abA (Nat.le_refl _)⟩
set_option maxRecDepth 100000 in
set_option maxHeartbeats 3200000 in
theorem jrsync_any (a : JA) (x : JX) (w : World) (h : JM w a x) (g : Option (List Frame.Rec)) (hi : Wal.Is x.l g) :
    Calls Tryz.prog 17 #[.agg #[.slice a.m.A x.s.a.s.length a.m.ca, .slice a.m.B x.s.a.t.length a.m.cb, .int .i64 x.s.a.cap, .bool x.s.a.down, .slice a.m.C x.s.b.s.length a.m.cc, .slice a.m.D x.s.b.t.length a.m.cd, .int .i64 x.s.b.cap, .bool x.s.b.down, .int .i64 x.s.n, .slice a.A x.l.dev.s.length a.ca, .slice a.B x.l.dev.t.length a.cb, .int .i64 x.l.dev.cap, .bool x.l.dev.down, .int .i64 x.l.first, .int .i64 x.l.next, .int .i64 (cx x.c 0), .int .i64 (cx x.c 1), .int .i64 (cx x.c 2), .int .i64 (cx x.c 3), .int .i64 (cx x.c 4), .int .i64 (cx x.c 5), .int .i64 (cx x.c 6), .int .i64 (cx x.c 7)]] w (RetJE w (Jour.syncM x g)) := by
  go_enter Tryz.func17, Tryz.ntmps17
  have hbx : VB ((w.alloc (.cells #[.slice a.m.A x.s.a.s.length a.m.ca, .slice a.m.B x.s.a.t.length a.m.cb, .int .i64 x.s.a.cap, .bool x.s.a.down, .slice a.m.C x.s.b.s.length a.m.cc, .slice a.m.D x.s.b.t.length a.m.cd, .int .i64 x.s.b.cap, .bool x.s.b.down, .int .i64 x.s.n, .slice a.A x.l.dev.s.length a.ca, .slice a.B x.l.dev.t.length a.cb, .int .i64 x.l.dev.cap, .bool x.l.dev.down, .int .i64 x.l.first, .int .i64 x.l.next, .int .i64 (cx x.c 0), .int .i64 (cx x.c 1), .int .i64 (cx x.c 2), .int .i64 (cx x.c 3), .int .i64 (cx x.c 4), .int .i64 (cx x.c 5), .int .i64 (cx x.c 6), .int .i64 (cx x.c 7)] 32 (0, 0))).alloc (.cells #[.slice none 0 0, .slice none 0 0, .int .i64 0, .bool false, .slice none 0 0, .slice none 0 0, .int .i64 0, .bool false, .int .i64 0, .slice none 0 0, .slice none 0 0, .int .i64 0, .bool false, .int .i64 0, .int .i64 0, .int .i64 0, .int .i64 0, .int .i64 0, .int .i64 0, .int .i64 0, .int .i64 0, .int .i64 0, .int .i64 0] 32 (0, 0))) w.heap.size [.slice a.m.A x.s.a.s.length a.m.ca, .slice a.m.B x.s.a.t.length a.m.cb, .int .i64 x.s.a.cap, .bool x.s.a.down, .slice a.m.C x.s.b.s.length a.m.cc, .slice a.m.D x.s.b.t.length a.m.cd, .int .i64 x.s.b.cap, .bool x.s.b.down, .int .i64 x.s.n, .slice a.A x.l.dev.s.length a.ca, .slice a.B x.l.dev.t.length a.cb, .int .i64 x.l.dev.cap, .bool x.l.dev.down, .int .i64 x.l.first, .int .i64 x.l.next, .int .i64 (cx x.c 0), .int .i64 (cx x.c 1), .int .i64 (cx x.c 2), .int .i64 (cx x.c 3), .int .i64 (cx x.c 4), .int .i64 (cx x.c 5), .int .i64 (cx x.c 6), .int .i64 (cx x.c 7)] := VB.box (old_alloc (new_plain rfl))
  have hrx : VB ((w.alloc (.cells #[.slice a.m.A x.s.a.s.length a.m.ca, .slice a.m.B x.s.a.t.length a.m.cb, .int .i64 x.s.a.cap, .bool x.s.a.down, .slice a.m.C x.s.b.s.length a.m.cc, .slice a.m.D x.s.b.t.length a.m.cd, .int .i64 x.s.b.cap, .bool x.s.b.down, .int .i64 x.s.n, .slice a.A x.l.dev.s.length a.ca, .slice a.B x.l.dev.t.length a.cb, .int .i64 x.l.dev.cap, .bool x.l.dev.down, .int .i64 x.l.first, .int .i64 x.l.next, .int .i64 (cx x.c 0), .int .i64 (cx x.c 1), .int .i64 (cx x.c 2), .int .i64 (cx x.c 3), .int .i64 (cx x.c 4), .int .i64 (cx x.c 5), .int .i64 (cx x.c 6), .int .i64 (cx x.c 7)] 32 (0, 0))).alloc (.cells #[.slice none 0 0, .slice none 0 0, .int .i64 0, .bool false, .slice none 0 0, .slice none 0 0, .int .i64 0, .bool false, .int .i64 0, .slice none 0 0, .slice none 0 0, .int .i64 0, .bool false, .int .i64 0, .int .i64 0, .int .i64 0, .int .i64 0, .int .i64 0, .int .i64 0, .int .i64 0, .int .i64 0, .int .i64 0, .int .i64 0] 32 (0, 0))) (w.heap.size + 1) [.slice none 0 0, .slice none 0 0, .int .i64 0, .bool false, .slice none 0 0, .slice none 0 0, .int .i64 0, .bool false, .int .i64 0, .slice none 0 0, .slice none 0 0, .int .i64 0, .bool false, .int .i64 0, .int .i64 0, .int .i64 0, .int .i64 0, .int .i64 0, .int .i64 0, .int .i64 0, .int .i64 0, .int .i64 0, .int .i64 0] := VB.box (new_plain (by simp))
  have hrv := hrx.var rfl
  go_wp2_with (refine list_ldJ rfl _ rfl rfl (VB.ab hbx abA) rfl ?_)
  refine (jrcheck_any a x _ (h.ab abA) g hi).mono ?_
  rintro e w1 ⟨er, hr, rfl, hb1⟩
  have v1 := hbx.ab hb1
  have v2 := hrv.ab hb1
  have b1 : Ab w w1 := abA
  have z2 := v2.lt
  clear hbx hrv hrx hb1
  by_cases he : er = 0
  · obtain ⟨rs, n, c, rfl, hG⟩ := Jour.good_of_check hi (hr.out.symm.trans he)
    have HG := Lib.hid hG
    have HM := Lib.hid (show Jour.syncM x (some rs) = _ from if_neg (by rw [← hr.out, he]; simp))
    obtain rfl : er = 0 := he
    clear hr hG
    have xq0 := (v1).at 9 rfl
    have xq1 := (v1).at 10 rfl
    have xq2 := (v1).at 11 rfl
    have xq3 := (v1).at 12 rfl
    have xq4 := (v1).at 13 rfl
    have xq5 := (v1).at 14 rfl
    go_wp2_with fail
    refine (refwsync_any a.A a.B a.ca a.cb x.l.dev.s x.l.dev.t x.l.dev.cap x.l.dev.down x.l.first x.l.next _ (h.l.p.ab abA) (h.l.q.ab abA) h.l.lp h.l.lq h.l.np h.l.nq (some rs) hi).mono ?_
    rintro e w3 ⟨⟨⟨s3, t3, cp3, dn3⟩, f3, n3⟩, er3, D, E, cd, ce, hr3, rfl, oD, oE, hb3⟩
    dsimp only at oD oE
    have hh := hr3.out
    obtain ⟨h3, rfl⟩ := Prod.mk.inj (hh.trans (show Wal.sync x.l (some rs) = (_, 0) from rfl))
    have HL := Lib.hid h3
    have l3 : s3.length ≤ 1000000 ∧ t3.length ≤ 1000000 := by
      have hsz := HG.out.log.room
      simp only [Disk.Dev.size, Jour.JXj] at hsz
      injection h3 with h4 h5
      injection h4 with h6 h7
      subst h6 h7
      simp; omega
    have v3 := v1.ab hb3
    have v4 := v2.ab hb3
    have b3 : Ab w w3 := b1.trans hb3
    have lD := oD.le
    have lE := oE.le
    have z3 := hb3.size
    have oD3 : RB w3 (w.heap.size + 1 + 1) D s3 := oD.rb.mono (by omega)
    have oE3 : RB w3 (w.heap.size + 1 + 1) E t3 := oE.rb.mono (by omega)
    clear hr3 hh h3 oD oE hb3 xq0 xq1 xq2 xq3 xq4 xq5 v1 v2
    have v5 : VB (w3.alloc (.cells #[.slice D s3.length cd, .slice E t3.length ce, .int .i64 cp3, .bool dn3, .int .i64 f3, .int .i64 n3] 29 (0, 0))) w3.heap.size [.slice D s3.length cd, .slice E t3.length ce, .int .i64 cp3, .bool dn3, .int .i64 f3, .int .i64 n3] := VB.box (new_plain rfl)
    have v6 := v3.ab ((Ab.refl w3).alloc (.cells #[.slice D s3.length cd, .slice E t3.length ce, .int .i64 cp3, .bool dn3, .int .i64 f3, .int .i64 n3] 29 (0, 0)))
    have v7 := v4.ab ((Ab.refl w3).alloc (.cells #[.slice D s3.length cd, .slice E t3.length ce, .int .i64 cp3, .bool dn3, .int .i64 f3, .int .i64 n3] 29 (0, 0)))
    go_upto_region 4 with fail
    refine wp_region_held_drew (by kernel_rfl) (S := fun w' => Ab w w' ∧ VB w' w.heap.size [.slice a.m.A x.s.a.s.length a.m.ca, .slice a.m.B x.s.a.t.length a.m.cb, .int .i64 x.s.a.cap, .bool x.s.a.down, .slice a.m.C x.s.b.s.length a.m.cc, .slice a.m.D x.s.b.t.length a.m.cd, .int .i64 x.s.b.cap, .bool x.s.b.down, .int .i64 x.s.n, .slice a.A x.l.dev.s.length a.ca, .slice a.B x.l.dev.t.length a.cb, .int .i64 x.l.dev.cap, .bool x.l.dev.down, .int .i64 x.l.first, .int .i64 x.l.next, .int .i64 (cx x.c 0), .int .i64 (cx x.c 1), .int .i64 (cx x.c 2), .int .i64 (cx x.c 3), .int .i64 (cx x.c 4), .int .i64 (cx x.c 5), .int .i64 (cx x.c 6), .int .i64 (cx x.c 7)] ∧ Var w' (w.heap.size + 1) 23 ∧ VB w' w3.heap.size [.slice D s3.length cd, .slice E t3.length ce, .int .i64 cp3, .bool dn3, .int .i64 f3, .int .i64 n3]) ?_ (fun hHeld => ?_)
    · exact ⟨abA, v6.ab abA, v7.ab abA, v5.ab abA⟩
    (refine wpAnyH_take (i := 0) (v := ?_) rfl (by kernel_rfl) (by kernel_rfl) (by kernel_rfl) (fun _ _ _ h => h) (Or.inl ⟨by kernel_rfl, ?_⟩) (by assumption) ?_
     rotate_left
     · (intro w hSw; (try dsimp only at hSw); go_simp; (try with_reducible rfl))
     (try simp only [Act.put, stA, st0, st1]))
    (refine wpAnyH_take (i := 1) (v := .agg #[.slice a.m.A x.s.a.s.length a.m.ca, .slice a.m.B x.s.a.t.length a.m.cb, .int .i64 x.s.a.cap, .bool x.s.a.down, .slice a.m.C x.s.b.s.length a.m.cc, .slice a.m.D x.s.b.t.length a.m.cd, .int .i64 x.s.b.cap, .bool x.s.b.down, .int .i64 x.s.n]) rfl (by kernel_rfl) (by kernel_rfl) (by kernel_rfl) (fun _ _ _ h => h) (yieldsIf_load_mid (by kernel_rfl) _ _ rfl _ 0 rfl [.slice a.m.A x.s.a.s.length a.m.ca, .slice a.m.B x.s.a.t.length a.m.cb, .int .i64 x.s.a.cap, .bool x.s.a.down, .slice a.m.C x.s.b.s.length a.m.cc, .slice a.m.D x.s.b.t.length a.m.cd, .int .i64 x.s.b.cap, .bool x.s.b.down, .int .i64 x.s.n] _ (fun w hSw => VB.rangeAt (hSw.2.1) 0 9) Tryz.underlying27 rfl (by kernel_rfl)) (by assumption) ?_
     (try simp only [Act.put, stA, st0, st1]))
    (refine wpAnyH_take (i := 4) (v := ?_) rfl (by kernel_rfl) (by kernel_rfl) (by kernel_rfl) (fun _ _ _ h => h) (Or.inl ⟨by kernel_rfl, ?_⟩) (by assumption) ?_
     rotate_left
     · (intro w hSw; (try dsimp only at hSw); go_simp; (try with_reducible rfl))
     (try simp only [Act.put, stA, st0, st1]))
    (refine wpAnyH_take (i := 5) (v := .agg #[.int .i64 (cx x.c 0), .int .i64 (cx x.c 1), .int .i64 (cx x.c 2), .int .i64 (cx x.c 3), .int .i64 (cx x.c 4), .int .i64 (cx x.c 5), .int .i64 (cx x.c 6), .int .i64 (cx x.c 7)]) rfl (by kernel_rfl) (by kernel_rfl) (by kernel_rfl) (fun _ _ _ h => h) (yieldsIf_load_mid (by kernel_rfl) _ _ rfl _ 15 rfl [.int .i64 (cx x.c 0), .int .i64 (cx x.c 1), .int .i64 (cx x.c 2), .int .i64 (cx x.c 3), .int .i64 (cx x.c 4), .int .i64 (cx x.c 5), .int .i64 (cx x.c 6), .int .i64 (cx x.c 7)] _ (fun w hSw => VB.rangeAt (hSw.2.1) 15 8) Tryz.underlying30 rfl (by kernel_rfl)) (by assumption) ?_
     (try simp only [Act.put, stA, st0, st1]))
    (refine wpAnyH_take (i := 3) (v := .agg #[.slice D s3.length cd, .slice E t3.length ce, .int .i64 cp3, .bool dn3, .int .i64 f3, .int .i64 n3]) rfl (by kernel_rfl) (by kernel_rfl) (by kernel_rfl) (fun _ _ _ h => h) (yieldsIf_load_mid (by kernel_rfl) _ _ rfl _ 0 rfl [.slice D s3.length cd, .slice E t3.length ce, .int .i64 cp3, .bool dn3, .int .i64 f3, .int .i64 n3] _ (fun w hSw => VB.rangeAt (hSw.2.2.2) 0 6) Tryz.underlying29 rfl (by kernel_rfl)) (by assumption) ?_
     (try simp only [Act.put, stA, st0, st1]))
    (refine wpAnyH_ready (rs := [2]) (by kernel_rfl) (by simp) ?_)
    refine AllReadyH.cons rfl (fun K hK => ?_) AllReadyH.nil
    (go_simp
     ((go_at_call 34)
      refine (stwin_any a.m x.s _ (h.s.ab abA)).mono ?_
      rintro e w5 ⟨r5, k, hr5, rfl, hM5, hb5⟩
      obtain rfl : r5 = x.s := hr5.out
      clear hr5)
     (try go_wp2_with fail)
     (refine hK.out _ _ ?_ (fun hHeld => ?_)
      · (try dsimp only); exact ⟨hHeld.1.trans hb5, hHeld.2.1.ab hb5, hHeld.2.2.1.ab hb5, hHeld.2.2.2.ab hb5⟩
      clear hK K
      (try simp only [Act.put, stA, st0, st1])))
    (refine wpAnyH_take (i := 6) (v := ?_) rfl (by kernel_rfl) (by kernel_rfl) (by kernel_rfl) (fun _ _ _ h => h) (Or.inl ⟨by kernel_rfl, ?_⟩) (by assumption) ?_
     rotate_left
     · (intro w hSw; (try dsimp only at hSw); go_simp; (try with_reducible rfl))
     (try simp only [Act.put, stA, st0, st1]))
    (refine wpAnyH_ready (rs := [7]) (by kernel_rfl) (by simp) ?_)
    refine AllReadyH.cons rfl (fun K hK => ?_) AllReadyH.nil
    ((try simp only [Act.put, List.getElem_toArray, List.getElem_cons_succ, List.getElem_cons_zero, stA, st0, st1])
     refine if_go (by rfl) ?_
     refine wp_stJ _ _ rfl rfl rfl hHeld.2.2.1 rfl rfl ?_
     intro w9 h9
     (refine hK.out _ _ ?_ (fun hHeld => ?_)
      · (try dsimp only); exact ⟨h9.ab w hHeld.1 (by omega), hHeld.2.1.mid h9.m (by omega), h9.v.var rfl, hHeld.2.2.2.mid h9.m (by omega)⟩
      clear hK K
      (try simp only [Act.put, stA, st0, st1])))
    (refine wpAnyH_ready (rs := [8]) (by kernel_rfl) (by simp) ?_)
    refine AllReadyH.cons rfl (fun K hK => ?_) AllReadyH.nil
    (go_simp
     (refine hK.out _ _ ?_ (fun hHeld => ?_)
      · (try dsimp only); exact hHeld
      clear hK K
      (try simp only [Act.put, stA, st0, st1])))
    refine wpAnyH_done (by kernel_rfl) ?_ _
    go_wp2
    refine bodyPost_ret (res_J2 Tryz.results17 _ rfl h9.v rfl) rfl ?_
    have b5 : Ab w3 w5 := abA
    have hM9 : SlM w9 (w.heap.size + 1 + 1) k x.s := h9.m.slm (hM5.mono (by have := b3.size; simp; omega)) (Nat.le_refl _)
    have hD9 : RB w9 (w.heap.size + 1 + 1) D s3 := h9.m.rb (oD3.ab b5) (Nat.le_refl _)
    have hE9 : RB w9 (w.heap.size + 1 + 1) E t3 := h9.m.rb (oE3.ab b5) (Nat.le_refl _)
    exact ⟨⟨x.s, ⟨⟨s3, t3, cp3, dn3⟩, f3, n3⟩, x.c⟩, 0, ⟨k, D, E, cd, ce⟩, Lib.hid (by rw [HM.out, HL.out]; rfl), rfl, ⟨hM9.zero, ⟨hD9.zero, hE9.zero, lD, lE, l3.1, l3.2⟩, h.hc⟩, h9.ab w (b3.trans b5) (by omega)⟩
  · have HM := Lib.hid (show Jour.syncM x g = _ from if_pos (by rw [← hr.out]; exact he))
    have HE := Lib.hid hr.out
    have hne : (er != 0) = true := by simpa using he
    clear he
    go_wp2_with (refine list_ldJ rfl _ rfl rfl (VB.ab v1 abA) rfl ?_)
    refine (jrcheck_any a x _ (h.ab abA) g hi).mono ?_
    rintro e w8 ⟨er8, hr8, rfl, hb8⟩
    go_wp2_with (refine list_stJ rfl _ _ rfl rfl rfl (Var.ab (v2.ab hb8) abA) rfl rfl ?_; intro w9 h9)
    refine bodyPost_ret (res_J2 Tryz.results17 _ rfl h9.v rfl) rfl ?_
    exact RetJE.zero (by rw [HM.out, ← hr8.out]) (h9.ab w abA (by omega))
end Go.Proofs.YthgcfjhnnhigoaaGreat

/- Do of the reference of layer 6, walked. Own work. -/
namespace Go.Proofs.YthgcfjhnnhigoaaGreat
open Go.RowKit
open Slots (Sl)

set_option maxRecDepth 100000 in
set_option maxHeartbeats 6400000 in
theorem jrdo_any (a : JA) (x : JX) (w : World) (h : JM w a x) (m : Jour.Move) (g : Option (List Frame.Rec)) (hi : Wal.Is x.l g) :
    Calls Tryz.prog 14 #[.agg #[.slice a.m.A x.s.a.s.length a.m.ca, .slice a.m.B x.s.a.t.length a.m.cb, .int .i64 x.s.a.cap, .bool x.s.a.down, .slice a.m.C x.s.b.s.length a.m.cc, .slice a.m.D x.s.b.t.length a.m.cd, .int .i64 x.s.b.cap, .bool x.s.b.down, .int .i64 x.s.n, .slice a.A x.l.dev.s.length a.ca, .slice a.B x.l.dev.t.length a.cb, .int .i64 x.l.dev.cap, .bool x.l.dev.down, .int .i64 x.l.first, .int .i64 x.l.next, .int .i64 (cx x.c 0), .int .i64 (cx x.c 1), .int .i64 (cx x.c 2), .int .i64 (cx x.c 3), .int .i64 (cx x.c 4), .int .i64 (cx x.c 5), .int .i64 (cx x.c 6), .int .i64 (cx x.c 7)], .agg #[.int .i64 m.cell, .int .i64 m.add]] w (RetJ3 w (Jour.doM x m g)) := by
  go_enter Tryz.func14, Tryz.ntmps14
  have hbx : VB (((w.alloc (.cells #[.slice a.m.A x.s.a.s.length a.m.ca, .slice a.m.B x.s.a.t.length a.m.cb, .int .i64 x.s.a.cap, .bool x.s.a.down, .slice a.m.C x.s.b.s.length a.m.cc, .slice a.m.D x.s.b.t.length a.m.cd, .int .i64 x.s.b.cap, .bool x.s.b.down, .int .i64 x.s.n, .slice a.A x.l.dev.s.length a.ca, .slice a.B x.l.dev.t.length a.cb, .int .i64 x.l.dev.cap, .bool x.l.dev.down, .int .i64 x.l.first, .int .i64 x.l.next, .int .i64 (cx x.c 0), .int .i64 (cx x.c 1), .int .i64 (cx x.c 2), .int .i64 (cx x.c 3), .int .i64 (cx x.c 4), .int .i64 (cx x.c 5), .int .i64 (cx x.c 6), .int .i64 (cx x.c 7)] 32 (0, 0))).alloc (.cells #[.int .i64 m.cell, .int .i64 m.add] 34 (0, 0))).alloc (.cells #[.slice none 0 0, .slice none 0 0, .int .i64 0, .bool false, .slice none 0 0, .slice none 0 0, .int .i64 0, .bool false, .int .i64 0, .slice none 0 0, .slice none 0 0, .int .i64 0, .bool false, .int .i64 0, .int .i64 0, .int .i64 0, .int .i64 0, .int .i64 0, .int .i64 0, .int .i64 0, .int .i64 0, .int .i64 0, .int .i64 0] 32 (0, 0))) w.heap.size [.slice a.m.A x.s.a.s.length a.m.ca, .slice a.m.B x.s.a.t.length a.m.cb, .int .i64 x.s.a.cap, .bool x.s.a.down, .slice a.m.C x.s.b.s.length a.m.cc, .slice a.m.D x.s.b.t.length a.m.cd, .int .i64 x.s.b.cap, .bool x.s.b.down, .int .i64 x.s.n, .slice a.A x.l.dev.s.length a.ca, .slice a.B x.l.dev.t.length a.cb, .int .i64 x.l.dev.cap, .bool x.l.dev.down, .int .i64 x.l.first, .int .i64 x.l.next, .int .i64 (cx x.c 0), .int .i64 (cx x.c 1), .int .i64 (cx x.c 2), .int .i64 (cx x.c 3), .int .i64 (cx x.c 4), .int .i64 (cx x.c 5), .int .i64 (cx x.c 6), .int .i64 (cx x.c 7)] := VB.box (old_alloc (old_alloc (new_plain rfl)))
  have hmx : VB (((w.alloc (.cells #[.slice a.m.A x.s.a.s.length a.m.ca, .slice a.m.B x.s.a.t.length a.m.cb, .int .i64 x.s.a.cap, .bool x.s.a.down, .slice a.m.C x.s.b.s.length a.m.cc, .slice a.m.D x.s.b.t.length a.m.cd, .int .i64 x.s.b.cap, .bool x.s.b.down, .int .i64 x.s.n, .slice a.A x.l.dev.s.length a.ca, .slice a.B x.l.dev.t.length a.cb, .int .i64 x.l.dev.cap, .bool x.l.dev.down, .int .i64 x.l.first, .int .i64 x.l.next, .int .i64 (cx x.c 0), .int .i64 (cx x.c 1), .int .i64 (cx x.c 2), .int .i64 (cx x.c 3), .int .i64 (cx x.c 4), .int .i64 (cx x.c 5), .int .i64 (cx x.c 6), .int .i64 (cx x.c 7)] 32 (0, 0))).alloc (.cells #[.int .i64 m.cell, .int .i64 m.add] 34 (0, 0))).alloc (.cells #[.slice none 0 0, .slice none 0 0, .int .i64 0, .bool false, .slice none 0 0, .slice none 0 0, .int .i64 0, .bool false, .int .i64 0, .slice none 0 0, .slice none 0 0, .int .i64 0, .bool false, .int .i64 0, .int .i64 0, .int .i64 0, .int .i64 0, .int .i64 0, .int .i64 0, .int .i64 0, .int .i64 0, .int .i64 0, .int .i64 0] 32 (0, 0))) (w.heap.size + 1) [.int .i64 m.cell, .int .i64 m.add] := VB.box (old_alloc (new_plain (by simp)))
  have hrx : VB (((w.alloc (.cells #[.slice a.m.A x.s.a.s.length a.m.ca, .slice a.m.B x.s.a.t.length a.m.cb, .int .i64 x.s.a.cap, .bool x.s.a.down, .slice a.m.C x.s.b.s.length a.m.cc, .slice a.m.D x.s.b.t.length a.m.cd, .int .i64 x.s.b.cap, .bool x.s.b.down, .int .i64 x.s.n, .slice a.A x.l.dev.s.length a.ca, .slice a.B x.l.dev.t.length a.cb, .int .i64 x.l.dev.cap, .bool x.l.dev.down, .int .i64 x.l.first, .int .i64 x.l.next, .int .i64 (cx x.c 0), .int .i64 (cx x.c 1), .int .i64 (cx x.c 2), .int .i64 (cx x.c 3), .int .i64 (cx x.c 4), .int .i64 (cx x.c 5), .int .i64 (cx x.c 6), .int .i64 (cx x.c 7)] 32 (0, 0))).alloc (.cells #[.int .i64 m.cell, .int .i64 m.add] 34 (0, 0))).alloc (.cells #[.slice none 0 0, .slice none 0 0, .int .i64 0, .bool false, .slice none 0 0, .slice none 0 0, .int .i64 0, .bool false, .int .i64 0, .slice none 0 0, .slice none 0 0, .int .i64 0, .bool false, .int .i64 0, .int .i64 0, .int .i64 0, .int .i64 0, .int .i64 0, .int .i64 0, .int .i64 0, .int .i64 0, .int .i64 0, .int .i64 0] 32 (0, 0))) (w.heap.size + 2) [.slice none 0 0, .slice none 0 0, .int .i64 0, .bool false, .slice none 0 0, .slice none 0 0, .int .i64 0, .bool false, .int .i64 0, .slice none 0 0, .slice none 0 0, .int .i64 0, .bool false, .int .i64 0, .int .i64 0, .int .i64 0, .int .i64 0, .int .i64 0, .int .i64 0, .int .i64 0, .int .i64 0, .int .i64 0, .int .i64 0] := VB.box (new_plain (by simp))
  have hrv := hrx.var rfl
  go_wp2_with (refine list_ldJ rfl _ rfl rfl (VB.ab hbx abA) rfl ?_)
  refine (jrcheck_any a x _ (h.ab abA) g hi).mono ?_
  rintro e w1 ⟨er, hr, rfl, hb1⟩
  have v1 := hbx.ab hb1
  have vm := hmx.ab hb1
  have v2 := hrv.ab hb1
  have b1 : Ab w w1 := abA
  have z2 := v2.lt
  clear hbx hrv hrx hmx hb1
  by_cases he : er = 0
  · obtain ⟨rs, n, c, rfl, hG⟩ := Jour.good_of_check hi (hr.out.symm.trans he)
    have HG := Lib.hid hG
    have HM := Lib.hid (show Jour.doM x m (some rs) = _ from if_neg (by rw [← hr.out, he]; simp))
    obtain rfl : er = 0 := he
    clear hr hG
    have xq0 := (v1).at 15 rfl
    have xq1 := (v1).at 16 rfl
    have xq2 := (v1).at 17 rfl
    have xq3 := (v1).at 18 rfl
    have xq4 := (v1).at 19 rfl
    have xq5 := (v1).at 20 rfl
    have xq6 := (v1).at 21 rfl
    have xq7 := (v1).at 22 rfl
    have mq0 := vm.at 0 rfl
    have mq1 := vm.at 1 rfl
    go_wp2_with fail
    refine (jrapply_any x.c h.hc _ 1 [m] _ (Mvs.one (by (repeat (first | exact new_plain wnA | with_reducible refine old_alloc ?_ | with_reducible refine old_drew ?_ | with_reducible refine old_set ?_ wnA | with_reducible refine old_ab (by assumption) ?_))) (Nat.zero_le _)) (by simp)).mono ?_
    rintro e w3 ⟨d, er3, hr3, rfl, hdl, hb3⟩
    have v3 := v1.ab (((Ab.refl w1).alloc _).trans hb3)
    have vn := vm.ab (((Ab.refl w1).alloc _).trans hb3)
    have v4 := v2.ab (((Ab.refl w1).alloc _).trans hb3)
    have b3 : Ab w w3 := b1.trans (((Ab.refl w1).alloc _).trans hb3)
    have HD := Lib.hid hr3.out
    have z3 := v4.lt
    clear hr3 hb3 xq0 xq1 xq2 xq3 xq4 xq5 xq6 xq7 mq0 mq1 v1 vm v2
    by_cases he3 : er3 = 0
    · obtain rfl : er3 = 0 := he3
      have HV := Lib.hid (Jour.apply_valid (show (Jour.apply x.c [m]).2 = 0 by rw [← HD.out]) m (by simp))
      have HX := Lib.hid (HM.out.trans (if_neg (by rw [← HD.out]; simp)))
      have v5 : VB (w3.alloc (.cells #[.int .i64 (cx d 0), .int .i64 (cx d 1), .int .i64 (cx d 2), .int .i64 (cx d 3), .int .i64 (cx d 4), .int .i64 (cx d 5), .int .i64 (cx d 6), .int .i64 (cx d 7)] 30 (0, 0))) w3.heap.size [.int .i64 (cx d 0), .int .i64 (cx d 1), .int .i64 (cx d 2), .int .i64 (cx d 3), .int .i64 (cx d 4), .int .i64 (cx d 5), .int .i64 (cx d 6), .int .i64 (cx d 7)] := VB.box (new_plain rfl)
      have b5 : Ab w3 (w3.alloc (.cells #[.int .i64 (cx d 0), .int .i64 (cx d 1), .int .i64 (cx d 2), .int .i64 (cx d 3), .int .i64 (cx d 4), .int .i64 (cx d 5), .int .i64 (cx d 6), .int .i64 (cx d 7)] 30 (0, 0))) := (Ab.refl w3).alloc _
      go_upto_region 6 with fail
      go_cut [8, 9, 10] (fun v9 v10 v11 wx => LogNow w w3.heap.size (Wal.append x.l (Jour.written m) (some rs)) v9 v10 v11 wx ∧ (Ab w wx ∧ VB wx w.heap.size [.slice a.m.A x.s.a.s.length a.m.ca, .slice a.m.B x.s.a.t.length a.m.cb, .int .i64 x.s.a.cap, .bool x.s.a.down, .slice a.m.C x.s.b.s.length a.m.cc, .slice a.m.D x.s.b.t.length a.m.cd, .int .i64 x.s.b.cap, .bool x.s.b.down, .int .i64 x.s.n, .slice a.A x.l.dev.s.length a.ca, .slice a.B x.l.dev.t.length a.cb, .int .i64 x.l.dev.cap, .bool x.l.dev.down, .int .i64 x.l.first, .int .i64 x.l.next, .int .i64 (cx x.c 0), .int .i64 (cx x.c 1), .int .i64 (cx x.c 2), .int .i64 (cx x.c 3), .int .i64 (cx x.c 4), .int .i64 (cx x.c 5), .int .i64 (cx x.c 6), .int .i64 (cx x.c 7)] ∧ VB wx (w.heap.size + 1) [.int .i64 m.cell, .int .i64 m.add] ∧ Var wx (w.heap.size + 2) 23 ∧ VB wx w3.heap.size [.int .i64 (cx d 0), .int .i64 (cx d 1), .int .i64 (cx d 2), .int .i64 (cx d 3), .int .i64 (cx d 4), .int .i64 (cx d 5), .int .i64 (cx d 6), .int .i64 (cx d 7)] ∧ w3.heap.size < wx.heap.size))
      case first =>
        refine wp_region_held_drew (by kernel_rfl) (S := fun w' => (Ab w w' ∧ VB w' w.heap.size [.slice a.m.A x.s.a.s.length a.m.ca, .slice a.m.B x.s.a.t.length a.m.cb, .int .i64 x.s.a.cap, .bool x.s.a.down, .slice a.m.C x.s.b.s.length a.m.cc, .slice a.m.D x.s.b.t.length a.m.cd, .int .i64 x.s.b.cap, .bool x.s.b.down, .int .i64 x.s.n, .slice a.A x.l.dev.s.length a.ca, .slice a.B x.l.dev.t.length a.cb, .int .i64 x.l.dev.cap, .bool x.l.dev.down, .int .i64 x.l.first, .int .i64 x.l.next, .int .i64 (cx x.c 0), .int .i64 (cx x.c 1), .int .i64 (cx x.c 2), .int .i64 (cx x.c 3), .int .i64 (cx x.c 4), .int .i64 (cx x.c 5), .int .i64 (cx x.c 6), .int .i64 (cx x.c 7)] ∧ VB w' (w.heap.size + 1) [.int .i64 m.cell, .int .i64 m.add] ∧ Var w' (w.heap.size + 2) 23 ∧ VB w' w3.heap.size [.int .i64 (cx d 0), .int .i64 (cx d 1), .int .i64 (cx d 2), .int .i64 (cx d 3), .int .i64 (cx d 4), .int .i64 (cx d 5), .int .i64 (cx d 6), .int .i64 (cx d 7)] ∧ w3.heap.size < w'.heap.size)) ?_ (fun hHeld => ?_)
        · exact ⟨abA, (v3.ab b5).ab abA, (vn.ab b5).ab abA, (v4.ab b5).ab abA, v5.ab abA, by simp⟩
        (refine wpAnyH_take (i := 0) (v := ?_) rfl (by kernel_rfl) (by kernel_rfl) (by kernel_rfl) (fun _ _ _ h => h) (Or.inl ⟨by kernel_rfl, ?_⟩) (by assumption) ?_
         rotate_left
         · (intro w hSw; (try dsimp only at hSw); go_simp; (try with_reducible rfl))
         (try simp only [Act.put, stA, st0, st1]))
        (refine wpAnyH_take (i := 1) (v := .agg #[.slice a.A x.l.dev.s.length a.ca, .slice a.B x.l.dev.t.length a.cb, .int .i64 x.l.dev.cap, .bool x.l.dev.down, .int .i64 x.l.first, .int .i64 x.l.next]) rfl (by kernel_rfl) (by kernel_rfl) (by kernel_rfl) (fun _ _ _ h => h) (yieldsIf_load_mid (by kernel_rfl) _ _ rfl _ 9 rfl [.slice a.A x.l.dev.s.length a.ca, .slice a.B x.l.dev.t.length a.cb, .int .i64 x.l.dev.cap, .bool x.l.dev.down, .int .i64 x.l.first, .int .i64 x.l.next] _ (fun w hSw => VB.rangeAt (hSw.2.1) 9 6) Tryz.underlying29 rfl (by kernel_rfl)) (by assumption) ?_
         (try simp only [Act.put, stA, st0, st1]))
        (refine wpAnyH_take (i := 2) (v := .agg #[.int .i64 m.cell, .int .i64 m.add]) rfl (by kernel_rfl) (by kernel_rfl) (by kernel_rfl) (fun _ _ _ h => h) (yieldsIf_load_mid (by kernel_rfl) _ _ rfl _ 0 rfl [.int .i64 m.cell, .int .i64 m.add] _ (fun w hSw => VB.rangeAt (hSw.2.2.1) 0 2) Tryz.underlying34 rfl (by kernel_rfl)) (by assumption) ?_
         (try simp only [Act.put, stA, st0, st1]))
        (refine wpAnyH_ready (rs := [3, 9]) (by kernel_rfl) (by simp) ?_)
        refine AllReadyH.cons rfl (fun K hK => ?_) (AllReadyH.cons rfl (fun K hK => ?_) AllReadyH.nil)
        · (go_simp
           ((go_at_call 48)
            refine (jrwritten_any m HV.out _).mono ?_
            rintro e w5 ⟨X, cX, LX, hLX, rfl, hX, hcX, hb5⟩)
           (try go_wp2_with fail)
           (refine hK.out _ _ ?_ (fun hHeld => ?_)
            · (try dsimp only); exact ⟨hHeld.1.trans hb5, hHeld.2.1.ab hb5, hHeld.2.2.1.ab hb5, hHeld.2.2.2.1.ab hb5, hHeld.2.2.2.2.1.ab hb5, Nat.lt_of_lt_of_le hHeld.2.2.2.2.2 (hb5).size⟩
            clear hK K
            (try simp only [Act.put, stA, st0, st1])))
          (refine wpAnyH_ready (rs := [4, 9]) (by kernel_rfl) (by simp) ?_)
          refine AllReadyH.cons rfl (fun K hK => ?_) (AllReadyH.cons rfl (fun K hK => ?_) AllReadyH.nil)
          · (go_simp
             ((go_at_call 47)
              refine (refwappend_any a.A a.B a.ca a.cb x.l.dev.s x.l.dev.t x.l.dev.cap x.l.dev.down x.l.first x.l.next _ (h.l.p.ab hHeld.1) (h.l.q.ab hHeld.1) h.l.lp h.l.lq h.l.np h.l.nq (some rs) hi X cX LX (hX.zero.ab abA) hcX (by rw [hLX.out, Jour.written_length]; omega)).mono ?_
              rintro e w6 ⟨⟨⟨s6, t6, cp6, dn6⟩, f6, n6⟩, num, er6, D, E, cd, ce, hr6, rfl, oD, oE, hb6⟩
              dsimp only at oD oE)
             (try go_wp2_with fail)
             (refine hK.out _ _ ?_ (fun hHeld => ?_)
              · (try dsimp only); exact ⟨hHeld.1.trans hb6, hHeld.2.1.ab hb6, hHeld.2.2.1.ab hb6, hHeld.2.2.2.1.ab hb6, hHeld.2.2.2.2.1.ab hb6, Nat.lt_of_lt_of_le hHeld.2.2.2.2.2 (hb6).size⟩
              clear hK K
              (try simp only [Act.put, stA, st0, st1])))
            (refine wpAnyH_take (i := 5) (v := ?_) rfl (by kernel_rfl) (by kernel_rfl) (by kernel_rfl) (fun _ _ _ h => h) (Or.inl ⟨by kernel_rfl, ?_⟩) (by assumption) ?_
             rotate_left
             · (intro w hSw; (try dsimp only at hSw); go_simp; (try with_reducible rfl))
             (try simp only [Act.put, stA, st0, st1]))
            (refine wpAnyH_take (i := 6) (v := ?_) rfl (by kernel_rfl) (by kernel_rfl) (by kernel_rfl) (fun _ _ _ h => h) (Or.inl ⟨by kernel_rfl, ?_⟩) (by assumption) ?_
             rotate_left
             · (intro w hSw; (try dsimp only at hSw); go_simp; (try with_reducible rfl))
             (try simp only [Act.put, stA, st0, st1]))
            (refine wpAnyH_take (i := 7) (v := ?_) rfl (by kernel_rfl) (by kernel_rfl) (by kernel_rfl) (fun _ _ _ h => h) (Or.inl ⟨by kernel_rfl, ?_⟩) (by assumption) ?_
             rotate_left
             · (intro w hSw; (try dsimp only at hSw); go_simp; (try with_reducible rfl))
             (try simp only [Act.put, stA, st0, st1]))
            (refine wpAnyH_take (i := 8) (v := ?_) rfl (by kernel_rfl) (by kernel_rfl) (by kernel_rfl) (fun _ _ _ h => h) (Or.inl ⟨by kernel_rfl, ?_⟩) (by assumption) ?_
             rotate_left
             · (intro w hSw; (try dsimp only at hSw); go_simp; (try with_reducible rfl))
             (try simp only [Act.put, stA, st0, st1]))
            (refine wpAnyH_ready (rs := [9]) (by kernel_rfl) (by simp) ?_)
            refine AllReadyH.cons rfl (fun K hK => ?_) AllReadyH.nil
            have A6 := (Ab.refl w6).alloc (.cells #[.slice none 0 0, .slice none 0 0, .int .i64 0, .bool false, .int .i64 0, .int .i64 0] 29 (0, 0))
            have v6 : Var (w6.alloc (.cells #[.slice none 0 0, .slice none 0 0, .int .i64 0, .bool false, .int .i64 0, .int .i64 0] 29 (0, 0))) (w6.heap.size) 6 := VB.var (vs := [.slice none 0 0, .slice none 0 0, .int .i64 0, .bool false, .int .i64 0, .int .i64 0]) (VB.box (new_plain (by first | rfl | simp))) rfl
            have P6 : w3.heap.size < w6.heap.size := by first | exact hHeld.2.2.2.2.2 | omega
            (go_simp
             (refine hK.out _ _ ?_ (fun hHeld => ?_)
              · (try dsimp only); exact ⟨hHeld.1.trans A6, hHeld.2.1.ab A6, hHeld.2.2.1.ab A6, hHeld.2.2.2.1.ab A6, hHeld.2.2.2.2.1.ab A6, Nat.lt_of_lt_of_le hHeld.2.2.2.2.2 (A6).size⟩
              clear hK K
              (try simp only [Act.put, stA, st0, st1])))
            (refine wpAnyH_ready (rs := [10]) (by kernel_rfl) (by simp) ?_)
            refine AllReadyH.cons rfl (fun K hK => ?_) AllReadyH.nil
            (try simp only [Act.put, List.getElem_toArray, List.getElem_cons_succ, List.getElem_cons_zero, stA, st0, st1])
            refine if_go (by rfl) ?_
            refine wp_stV 29 infoL _ _ rfl rfl rfl v6 rfl rfl ?_
            intro w7 h7
            (refine hK.out _ _ ?_ (fun hHeld => ?_)
             · (try dsimp only); exact ⟨h7.ab w hHeld.1 (by have := b3.size; omega), hHeld.2.1.mid h7.m (by have := b3.size; omega), hHeld.2.2.1.mid h7.m (by have := b3.size; omega), hHeld.2.2.2.1.mid h7.m (by omega), hHeld.2.2.2.2.1.mid h7.m (by omega), by rw [h7.sz]; exact hHeld.2.2.2.2.2⟩
             clear hK K
             (try simp only [Act.put, stA, st0, st1]))
            (refine wpAnyH_ready (rs := [11]) (by kernel_rfl) (by simp) ?_)
            refine AllReadyH.cons rfl (fun K hK => ?_) AllReadyH.nil
            (go_simp
             (refine hK.out _ _ ?_ (fun hHeld => ?_)
              · (try dsimp only); exact hHeld
              clear hK K
              (try simp only [Act.put, stA, st0, st1])))
            (refine wpAnyH_ready (rs := [12]) (by kernel_rfl) (by simp) ?_)
            refine AllReadyH.cons rfl (fun K hK => ?_) AllReadyH.nil
            (go_simp
             (refine hK.out _ _ ?_ (fun hHeld => ?_)
              · (try dsimp only); exact hHeld
              clear hK K
              (try simp only [Act.put, stA, st0, st1])))
            refine wpAnyH_done (by kernel_rfl) ?_ _
            go_wp2_with fail
            go_meet
            exact ⟨⟨_, ⟨⟨s6, t6, cp6, dn6⟩, f6, n6⟩, num, er6, D, E, cd, ce, rfl, rfl, rfl, Lib.hid (by rw [hr6.out, hLX.out]), h7.v, P6, h7.rb _ _ _ ((oD.rb.mono (by have := hb5.size; first | omega | (simp; omega))).ab A6), h7.rb _ _ _ ((oE.rb.mono (by have := hb5.size; first | omega | (simp; omega))).ab A6), oD.le, oE.le⟩, hHeld⟩
          · have A6 := (Ab.refl w5).alloc (.cells #[.slice none 0 0, .slice none 0 0, .int .i64 0, .bool false, .int .i64 0, .int .i64 0] 29 (0, 0))
            have v6 : Var (w5.alloc (.cells #[.slice none 0 0, .slice none 0 0, .int .i64 0, .bool false, .int .i64 0, .int .i64 0] 29 (0, 0))) (w5.heap.size) 6 := VB.var (vs := [.slice none 0 0, .slice none 0 0, .int .i64 0, .bool false, .int .i64 0, .int .i64 0]) (VB.box (new_plain (by first | rfl | simp))) rfl
            have P6 : w3.heap.size < w5.heap.size := by first | exact hHeld.2.2.2.2.2 | omega
            (go_simp
             (refine hK.out _ _ ?_ (fun hHeld => ?_)
              · (try dsimp only); exact ⟨hHeld.1.trans A6, hHeld.2.1.ab A6, hHeld.2.2.1.ab A6, hHeld.2.2.2.1.ab A6, hHeld.2.2.2.2.1.ab A6, Nat.lt_of_lt_of_le hHeld.2.2.2.2.2 (A6).size⟩
              clear hK K
              (try simp only [Act.put, stA, st0, st1])))
            (refine wpAnyH_ready (rs := [4]) (by kernel_rfl) (by simp) ?_)
            refine AllReadyH.cons rfl (fun K hK => ?_) AllReadyH.nil
            (go_simp
             ((go_at_call 47)
              refine (refwappend_any a.A a.B a.ca a.cb x.l.dev.s x.l.dev.t x.l.dev.cap x.l.dev.down x.l.first x.l.next _ (h.l.p.ab hHeld.1) (h.l.q.ab hHeld.1) h.l.lp h.l.lq h.l.np h.l.nq (some rs) hi X cX LX (hX.zero.ab abA) hcX (by rw [hLX.out, Jour.written_length]; omega)).mono ?_
              rintro e w6 ⟨⟨⟨s6, t6, cp6, dn6⟩, f6, n6⟩, num, er6, D, E, cd, ce, hr6, rfl, oD, oE, hb6⟩
              dsimp only at oD oE)
             (try go_wp2_with fail)
             (refine hK.out _ _ ?_ (fun hHeld => ?_)
              · (try dsimp only); exact ⟨hHeld.1.trans hb6, hHeld.2.1.ab hb6, hHeld.2.2.1.ab hb6, hHeld.2.2.2.1.ab hb6, hHeld.2.2.2.2.1.ab hb6, Nat.lt_of_lt_of_le hHeld.2.2.2.2.2 (hb6).size⟩
              clear hK K
              (try simp only [Act.put, stA, st0, st1])))
            (refine wpAnyH_take (i := 5) (v := ?_) rfl (by kernel_rfl) (by kernel_rfl) (by kernel_rfl) (fun _ _ _ h => h) (Or.inl ⟨by kernel_rfl, ?_⟩) (by assumption) ?_
             rotate_left
             · (intro w hSw; (try dsimp only at hSw); go_simp; (try with_reducible rfl))
             (try simp only [Act.put, stA, st0, st1]))
            (refine wpAnyH_take (i := 6) (v := ?_) rfl (by kernel_rfl) (by kernel_rfl) (by kernel_rfl) (fun _ _ _ h => h) (Or.inl ⟨by kernel_rfl, ?_⟩) (by assumption) ?_
             rotate_left
             · (intro w hSw; (try dsimp only at hSw); go_simp; (try with_reducible rfl))
             (try simp only [Act.put, stA, st0, st1]))
            (refine wpAnyH_take (i := 7) (v := ?_) rfl (by kernel_rfl) (by kernel_rfl) (by kernel_rfl) (fun _ _ _ h => h) (Or.inl ⟨by kernel_rfl, ?_⟩) (by assumption) ?_
             rotate_left
             · (intro w hSw; (try dsimp only at hSw); go_simp; (try with_reducible rfl))
             (try simp only [Act.put, stA, st0, st1]))
            (refine wpAnyH_take (i := 8) (v := ?_) rfl (by kernel_rfl) (by kernel_rfl) (by kernel_rfl) (fun _ _ _ h => h) (Or.inl ⟨by kernel_rfl, ?_⟩) (by assumption) ?_
             rotate_left
             · (intro w hSw; (try dsimp only at hSw); go_simp; (try with_reducible rfl))
             (try simp only [Act.put, stA, st0, st1]))
            have v8 := v6.ab hb6
            (refine wpAnyH_ready (rs := [10]) (by kernel_rfl) (by simp) ?_)
            refine AllReadyH.cons rfl (fun K hK => ?_) AllReadyH.nil
            (try simp only [Act.put, List.getElem_toArray, List.getElem_cons_succ, List.getElem_cons_zero, stA, st0, st1])
            refine if_go (by rfl) ?_
            refine wp_stV 29 infoL _ _ rfl rfl rfl v8 rfl rfl ?_
            intro w7 h7
            (refine hK.out _ _ ?_ (fun hHeld => ?_)
             · (try dsimp only); exact ⟨h7.ab w hHeld.1 (by have := b3.size; omega), hHeld.2.1.mid h7.m (by have := b3.size; omega), hHeld.2.2.1.mid h7.m (by have := b3.size; omega), hHeld.2.2.2.1.mid h7.m (by omega), hHeld.2.2.2.2.1.mid h7.m (by omega), by rw [h7.sz]; exact hHeld.2.2.2.2.2⟩
             clear hK K
             (try simp only [Act.put, stA, st0, st1]))
            (refine wpAnyH_ready (rs := [11]) (by kernel_rfl) (by simp) ?_)
            refine AllReadyH.cons rfl (fun K hK => ?_) AllReadyH.nil
            (go_simp
             (refine hK.out _ _ ?_ (fun hHeld => ?_)
              · (try dsimp only); exact hHeld
              clear hK K
              (try simp only [Act.put, stA, st0, st1])))
            (refine wpAnyH_ready (rs := [12]) (by kernel_rfl) (by simp) ?_)
            refine AllReadyH.cons rfl (fun K hK => ?_) AllReadyH.nil
            (go_simp
             (refine hK.out _ _ ?_ (fun hHeld => ?_)
              · (try dsimp only); exact hHeld
              clear hK K
              (try simp only [Act.put, stA, st0, st1])))
            refine wpAnyH_done (by kernel_rfl) ?_ _
            go_wp2_with fail
            go_meet
            exact ⟨⟨_, ⟨⟨s6, t6, cp6, dn6⟩, f6, n6⟩, num, er6, D, E, cd, ce, rfl, rfl, rfl, Lib.hid (by rw [hr6.out, hLX.out]), h7.v, P6, h7.rb _ _ _ ((oD.rb.mono (by have := hb5.size; first | omega | (simp; omega))).ab (Ab.refl _)), h7.rb _ _ _ ((oE.rb.mono (by have := hb5.size; first | omega | (simp; omega))).ab (Ab.refl _)), oD.le, oE.le⟩, hHeld⟩
        · have A6 := (Ab.refl (w3.alloc (.cells #[.int .i64 (cx d 0), .int .i64 (cx d 1), .int .i64 (cx d 2), .int .i64 (cx d 3), .int .i64 (cx d 4), .int .i64 (cx d 5), .int .i64 (cx d 6), .int .i64 (cx d 7)] 30 (0, 0))).drew).alloc (.cells #[.slice none 0 0, .slice none 0 0, .int .i64 0, .bool false, .int .i64 0, .int .i64 0] 29 (0, 0))
          have v6 : Var ((w3.alloc (.cells #[.int .i64 (cx d 0), .int .i64 (cx d 1), .int .i64 (cx d 2), .int .i64 (cx d 3), .int .i64 (cx d 4), .int .i64 (cx d 5), .int .i64 (cx d 6), .int .i64 (cx d 7)] 30 (0, 0))).drew.alloc (.cells #[.slice none 0 0, .slice none 0 0, .int .i64 0, .bool false, .int .i64 0, .int .i64 0] 29 (0, 0))) (w3.heap.size + 1) 6 := VB.var (vs := [.slice none 0 0, .slice none 0 0, .int .i64 0, .bool false, .int .i64 0, .int .i64 0]) (VB.box (new_plain (by first | rfl | simp))) rfl
          have P6 : w3.heap.size < w3.heap.size + 1 := by first | exact hHeld.2.2.2.2.2 | omega
          (go_simp
           (refine hK.out _ _ ?_ (fun hHeld => ?_)
            · (try dsimp only); exact ⟨hHeld.1.trans A6, hHeld.2.1.ab A6, hHeld.2.2.1.ab A6, hHeld.2.2.2.1.ab A6, hHeld.2.2.2.2.1.ab A6, Nat.lt_of_lt_of_le hHeld.2.2.2.2.2 (A6).size⟩
            clear hK K
            (try simp only [Act.put, stA, st0, st1])))
          (refine wpAnyH_ready (rs := [3]) (by kernel_rfl) (by simp) ?_)
          refine AllReadyH.cons rfl (fun K hK => ?_) AllReadyH.nil
          (go_simp
           ((go_at_call 48)
            refine (jrwritten_any m HV.out _).mono ?_
            rintro e w5 ⟨X, cX, LX, hLX, rfl, hX, hcX, hb5⟩)
           (try go_wp2_with fail)
           (refine hK.out _ _ ?_ (fun hHeld => ?_)
            · (try dsimp only); exact ⟨hHeld.1.trans hb5, hHeld.2.1.ab hb5, hHeld.2.2.1.ab hb5, hHeld.2.2.2.1.ab hb5, hHeld.2.2.2.2.1.ab hb5, Nat.lt_of_lt_of_le hHeld.2.2.2.2.2 (hb5).size⟩
            clear hK K
            (try simp only [Act.put, stA, st0, st1])))
          (refine wpAnyH_ready (rs := [4]) (by kernel_rfl) (by simp) ?_)
          refine AllReadyH.cons rfl (fun K hK => ?_) AllReadyH.nil
          (go_simp
           ((go_at_call 47)
            refine (refwappend_any a.A a.B a.ca a.cb x.l.dev.s x.l.dev.t x.l.dev.cap x.l.dev.down x.l.first x.l.next _ (h.l.p.ab hHeld.1) (h.l.q.ab hHeld.1) h.l.lp h.l.lq h.l.np h.l.nq (some rs) hi X cX LX (hX.zero.ab abA) hcX (by rw [hLX.out, Jour.written_length]; omega)).mono ?_
            rintro e w6 ⟨⟨⟨s6, t6, cp6, dn6⟩, f6, n6⟩, num, er6, D, E, cd, ce, hr6, rfl, oD, oE, hb6⟩
            dsimp only at oD oE)
           (try go_wp2_with fail)
           (refine hK.out _ _ ?_ (fun hHeld => ?_)
            · (try dsimp only); exact ⟨hHeld.1.trans hb6, hHeld.2.1.ab hb6, hHeld.2.2.1.ab hb6, hHeld.2.2.2.1.ab hb6, hHeld.2.2.2.2.1.ab hb6, Nat.lt_of_lt_of_le hHeld.2.2.2.2.2 (hb6).size⟩
            clear hK K
            (try simp only [Act.put, stA, st0, st1])))
          (refine wpAnyH_take (i := 5) (v := ?_) rfl (by kernel_rfl) (by kernel_rfl) (by kernel_rfl) (fun _ _ _ h => h) (Or.inl ⟨by kernel_rfl, ?_⟩) (by assumption) ?_
           rotate_left
           · (intro w hSw; (try dsimp only at hSw); go_simp; (try with_reducible rfl))
           (try simp only [Act.put, stA, st0, st1]))
          (refine wpAnyH_take (i := 6) (v := ?_) rfl (by kernel_rfl) (by kernel_rfl) (by kernel_rfl) (fun _ _ _ h => h) (Or.inl ⟨by kernel_rfl, ?_⟩) (by assumption) ?_
           rotate_left
           · (intro w hSw; (try dsimp only at hSw); go_simp; (try with_reducible rfl))
           (try simp only [Act.put, stA, st0, st1]))
          (refine wpAnyH_take (i := 7) (v := ?_) rfl (by kernel_rfl) (by kernel_rfl) (by kernel_rfl) (fun _ _ _ h => h) (Or.inl ⟨by kernel_rfl, ?_⟩) (by assumption) ?_
           rotate_left
           · (intro w hSw; (try dsimp only at hSw); go_simp; (try with_reducible rfl))
           (try simp only [Act.put, stA, st0, st1]))
          (refine wpAnyH_take (i := 8) (v := ?_) rfl (by kernel_rfl) (by kernel_rfl) (by kernel_rfl) (fun _ _ _ h => h) (Or.inl ⟨by kernel_rfl, ?_⟩) (by assumption) ?_
           rotate_left
           · (intro w hSw; (try dsimp only at hSw); go_simp; (try with_reducible rfl))
           (try simp only [Act.put, stA, st0, st1]))
          have v8 := v6.ab (hb5.trans hb6)
          (refine wpAnyH_ready (rs := [10]) (by kernel_rfl) (by simp) ?_)
          refine AllReadyH.cons rfl (fun K hK => ?_) AllReadyH.nil
          (try simp only [Act.put, List.getElem_toArray, List.getElem_cons_succ, List.getElem_cons_zero, stA, st0, st1])
          refine if_go (by rfl) ?_
          refine wp_stV 29 infoL _ _ rfl rfl rfl v8 rfl rfl ?_
          intro w7 h7
          (refine hK.out _ _ ?_ (fun hHeld => ?_)
           · (try dsimp only); exact ⟨h7.ab w hHeld.1 (by have := b3.size; omega), hHeld.2.1.mid h7.m (by have := b3.size; omega), hHeld.2.2.1.mid h7.m (by have := b3.size; omega), hHeld.2.2.2.1.mid h7.m (by omega), hHeld.2.2.2.2.1.mid h7.m (by omega), by rw [h7.sz]; exact hHeld.2.2.2.2.2⟩
           clear hK K
           (try simp only [Act.put, stA, st0, st1]))
          (refine wpAnyH_ready (rs := [11]) (by kernel_rfl) (by simp) ?_)
          refine AllReadyH.cons rfl (fun K hK => ?_) AllReadyH.nil
          (go_simp
           (refine hK.out _ _ ?_ (fun hHeld => ?_)
            · (try dsimp only); exact hHeld
            clear hK K
            (try simp only [Act.put, stA, st0, st1])))
          (refine wpAnyH_ready (rs := [12]) (by kernel_rfl) (by simp) ?_)
          refine AllReadyH.cons rfl (fun K hK => ?_) AllReadyH.nil
          (go_simp
           (refine hK.out _ _ ?_ (fun hHeld => ?_)
            · (try dsimp only); exact hHeld
            clear hK K
            (try simp only [Act.put, stA, st0, st1])))
          refine wpAnyH_done (by kernel_rfl) ?_ _
          go_wp2_with fail
          go_meet
          exact ⟨⟨_, ⟨⟨s6, t6, cp6, dn6⟩, f6, n6⟩, num, er6, D, E, cd, ce, rfl, rfl, rfl, Lib.hid (by rw [hr6.out, hLX.out]), h7.v, P6, h7.rb _ _ _ ((oD.rb.mono (by have := hb5.size; first | omega | (simp; omega))).ab (Ab.refl _)), h7.rb _ _ _ ((oE.rb.mono (by have := hb5.size; first | omega | (simp; omega))).ab (Ab.refl _)), oD.le, oE.le⟩, hHeld⟩
      obtain ⟨⟨P, ⟨⟨s6, t6, cp6, dn6⟩, f6, n6⟩, num, er6, D, E, cd, ce, rfl, rfl, rfl, hr6, vP, hP, hD, hE, lD, lE⟩, bW, vJ, vM, vR, vC, hsz⟩ := hcut
      dsimp only at vP hD hE lD lE
      by_cases he6 : er6 = 0
      · obtain rfl : er6 = 0 := he6
        have HY := Lib.hid (HX.out.trans (if_neg (by rw [← hr6.out]; simp)))
        have HS := Lib.hid (Jour.append_small HG.out.log hr6.out)
        clear b5 v3 vn v4 v5 b3 b1
        go_upto_region 9 with fail
        refine wp_region_held_drew (by kernel_rfl) (S := fun w' => Ab w w' ∧ VB w' w.heap.size [.slice a.m.A x.s.a.s.length a.m.ca, .slice a.m.B x.s.a.t.length a.m.cb, .int .i64 x.s.a.cap, .bool x.s.a.down, .slice a.m.C x.s.b.s.length a.m.cc, .slice a.m.D x.s.b.t.length a.m.cd, .int .i64 x.s.b.cap, .bool x.s.b.down, .int .i64 x.s.n, .slice a.A x.l.dev.s.length a.ca, .slice a.B x.l.dev.t.length a.cb, .int .i64 x.l.dev.cap, .bool x.l.dev.down, .int .i64 x.l.first, .int .i64 x.l.next, .int .i64 (cx x.c 0), .int .i64 (cx x.c 1), .int .i64 (cx x.c 2), .int .i64 (cx x.c 3), .int .i64 (cx x.c 4), .int .i64 (cx x.c 5), .int .i64 (cx x.c 6), .int .i64 (cx x.c 7)] ∧ Var w' (w.heap.size + 2) 23 ∧ VB w' P [.slice D s6.length cd, .slice E t6.length ce, .int .i64 cp6, .bool dn6, .int .i64 f6, .int .i64 n6] ∧ VB w' w3.heap.size [.int .i64 (cx d 0), .int .i64 (cx d 1), .int .i64 (cx d 2), .int .i64 (cx d 3), .int .i64 (cx d 4), .int .i64 (cx d 5), .int .i64 (cx d 6), .int .i64 (cx d 7)]) ?_ (fun hHeld => ?_)
        · exact ⟨abA, vJ.ab abA, vR.ab abA, vP.ab abA, vC.ab abA⟩
        (refine wpAnyH_take (i := 0) (v := ?_) rfl (by kernel_rfl) (by kernel_rfl) (by kernel_rfl) (fun _ _ _ h => h) (Or.inl ⟨by kernel_rfl, ?_⟩) (by assumption) ?_
         rotate_left
         · (intro w hSw; (try dsimp only at hSw); go_simp; (try with_reducible rfl))
         (try simp only [Act.put, stA, st0, st1]))
        (refine wpAnyH_take (i := 1) (v := .agg #[.slice a.m.A x.s.a.s.length a.m.ca, .slice a.m.B x.s.a.t.length a.m.cb, .int .i64 x.s.a.cap, .bool x.s.a.down, .slice a.m.C x.s.b.s.length a.m.cc, .slice a.m.D x.s.b.t.length a.m.cd, .int .i64 x.s.b.cap, .bool x.s.b.down, .int .i64 x.s.n]) rfl (by kernel_rfl) (by kernel_rfl) (by kernel_rfl) (fun _ _ _ h => h) (yieldsIf_load_mid (by kernel_rfl) _ _ rfl _ 0 rfl [.slice a.m.A x.s.a.s.length a.m.ca, .slice a.m.B x.s.a.t.length a.m.cb, .int .i64 x.s.a.cap, .bool x.s.a.down, .slice a.m.C x.s.b.s.length a.m.cc, .slice a.m.D x.s.b.t.length a.m.cd, .int .i64 x.s.b.cap, .bool x.s.b.down, .int .i64 x.s.n] _ (fun w hSw => VB.rangeAt (hSw.2.1) 0 9) Tryz.underlying27 rfl (by kernel_rfl)) (by assumption) ?_
         (try simp only [Act.put, stA, st0, st1]))
        (refine wpAnyH_take (i := 3) (v := .agg #[.slice D s6.length cd, .slice E t6.length ce, .int .i64 cp6, .bool dn6, .int .i64 f6, .int .i64 n6]) rfl (by kernel_rfl) (by kernel_rfl) (by kernel_rfl) (fun _ _ _ h => h) (yieldsIf_load_mid (by kernel_rfl) _ _ rfl _ 0 rfl [.slice D s6.length cd, .slice E t6.length ce, .int .i64 cp6, .bool dn6, .int .i64 f6, .int .i64 n6] _ (fun w hSw => VB.rangeAt (hSw.2.2.2.1) 0 6) Tryz.underlying29 rfl (by kernel_rfl)) (by assumption) ?_
         (try simp only [Act.put, stA, st0, st1]))
        (refine wpAnyH_take (i := 4) (v := .agg #[.int .i64 (cx d 0), .int .i64 (cx d 1), .int .i64 (cx d 2), .int .i64 (cx d 3), .int .i64 (cx d 4), .int .i64 (cx d 5), .int .i64 (cx d 6), .int .i64 (cx d 7)]) rfl (by kernel_rfl) (by kernel_rfl) (by kernel_rfl) (fun _ _ _ h => h) (yieldsIf_load_mid (by kernel_rfl) _ _ rfl _ 0 rfl [.int .i64 (cx d 0), .int .i64 (cx d 1), .int .i64 (cx d 2), .int .i64 (cx d 3), .int .i64 (cx d 4), .int .i64 (cx d 5), .int .i64 (cx d 6), .int .i64 (cx d 7)] _ (fun w hSw => VB.rangeAt (hSw.2.2.2.2) 0 8) Tryz.underlying30 rfl (by kernel_rfl)) (by assumption) ?_
         (try simp only [Act.put, stA, st0, st1]))
        (refine wpAnyH_take (i := 6) (v := ?_) rfl (by kernel_rfl) (by kernel_rfl) (by kernel_rfl) (fun _ _ _ h => h) (Or.inl ⟨by kernel_rfl, ?_⟩) (by assumption) ?_
         rotate_left
         · (intro w hSw; (try dsimp only at hSw); go_simp; (try with_reducible rfl))
         (try simp only [Act.put, stA, st0, st1]))
        (refine wpAnyH_ready (rs := [2]) (by kernel_rfl) (by simp) ?_)
        refine AllReadyH.cons rfl (fun K hK => ?_) AllReadyH.nil
        (go_simp
         ((go_at_call 34)
          refine (stwin_any a.m x.s _ (h.s.ab abA)).mono ?_
          rintro e w5 ⟨r5, k, hr5, rfl, hM5, hb5⟩
          obtain rfl : r5 = x.s := hr5.out
          clear hr5)
         (try go_wp2_with fail)
         (refine hK.out _ _ ?_ (fun hHeld => ?_)
          · (try dsimp only); exact ⟨hHeld.1.trans hb5, hHeld.2.1.ab hb5, hHeld.2.2.1.ab hb5, hHeld.2.2.2.1.ab hb5, hHeld.2.2.2.2.ab hb5⟩
          clear hK K
          (try simp only [Act.put, stA, st0, st1])))
        (refine wpAnyH_take (i := 5) (v := ?_) rfl (by kernel_rfl) (by kernel_rfl) (by kernel_rfl) (fun _ _ _ h => h) (Or.inl ⟨by kernel_rfl, ?_⟩) (by assumption) ?_
         rotate_left
         · (intro w hSw; (try dsimp only at hSw); go_simp; (try with_reducible rfl))
         (try simp only [Act.put, stA, st0, st1]))
        (refine wpAnyH_ready (rs := [7]) (by kernel_rfl) (by simp) ?_)
        refine AllReadyH.cons rfl (fun K hK => ?_) AllReadyH.nil
        ((try simp only [Act.put, List.getElem_toArray, List.getElem_cons_succ, List.getElem_cons_zero, stA, st0, st1])
         refine if_go (by rfl) ?_
         refine wp_stJ _ _ rfl rfl rfl hHeld.2.2.1 rfl rfl ?_
         intro w9 h9
         (refine hK.out _ _ ?_ (fun hHeld => ?_)
          · (try dsimp only); exact ⟨h9.ab w hHeld.1 (by omega), hHeld.2.1.mid h9.m (by omega), h9.v.var rfl, hHeld.2.2.2.1.mid h9.m (by omega), hHeld.2.2.2.2.mid h9.m (by omega)⟩
          clear hK K
          (try simp only [Act.put, stA, st0, st1])))
        (refine wpAnyH_ready (rs := [8]) (by kernel_rfl) (by simp) ?_)
        refine AllReadyH.cons rfl (fun K hK => ?_) AllReadyH.nil
        (go_simp
         (refine hK.out _ _ ?_ (fun hHeld => ?_)
          · (try dsimp only); exact hHeld
          clear hK K
          (try simp only [Act.put, stA, st0, st1])))
        (refine wpAnyH_ready (rs := [9]) (by kernel_rfl) (by simp) ?_)
        refine AllReadyH.cons rfl (fun K hK => ?_) AllReadyH.nil
        (go_simp
         (refine hK.out _ _ ?_ (fun hHeld => ?_)
          · (try dsimp only); exact hHeld
          clear hK K
          (try simp only [Act.put, stA, st0, st1])))
        refine wpAnyH_done (by kernel_rfl) ?_ _
        go_wp2
        refine bodyPost_ret (res_J3 Tryz.results14 _ rfl h9.v rfl) rfl ?_
        have b6 : Ab wc w5 := abA
        exact ⟨⟨x.s, ⟨⟨s6, t6, cp6, dn6⟩, f6, n6⟩, d⟩, num, 0, ⟨k, D, E, cd, ce⟩, Lib.hid (by rw [HY.out, ← hr6.out, ← HD.out]), rfl, ⟨h9.slm hM5.zero, ⟨h9.rb _ _ _ (hD.zero.ab b6), h9.rb _ _ _ (hE.zero.ab b6), lD, lE, HS.out.1, HS.out.2⟩, hdl⟩, h9.ab w (bW.trans b6) (by omega)⟩
      · have HY := Lib.hid (show Jour.doM x m (some rs) = (JX.zero, 0, er6) by rw [HX.out, ← hr6.out]; exact if_pos he6)
        have hne : (er6 != 0) = true := by simpa using he6
        clear he6 hr6
        go_wp2_with (refine list_stJ rfl _ _ rfl rfl rfl (Var.ab vR abA) rfl rfl ?_; intro w9 h9)
        refine bodyPost_ret (res_J3 Tryz.results14 _ rfl h9.v rfl) rfl ?_
        exact RetJ3.zero HY.out.symm (h9.ab w abA (by omega))
    · have HX := Lib.hid (show Jour.doM x m (some rs) = (JX.zero, 0, er3) by rw [HM.out, ← HD.out]; exact if_pos he3)
      have hne : (er3 != 0) = true := by simpa using he3
      clear he3 HD
      go_wp2_with (refine list_stJ rfl _ _ rfl rfl rfl (Var.ab v4 abA) rfl rfl ?_; intro w9 h9)
      refine bodyPost_ret (res_J3 Tryz.results14 _ rfl h9.v rfl) rfl ?_
      exact RetJ3.zero HX.out.symm (h9.ab w abA (by omega))
  · have HM := Lib.hid (show Jour.doM x m g = _ from if_pos (by rw [← hr.out]; exact he))
    have HE := Lib.hid hr.out
    have hne : (er != 0) = true := by simpa using he
    clear he
    go_wp2_with (refine list_ldJ rfl _ rfl rfl (VB.ab v1 abA) rfl ?_)
    refine (jrcheck_any a x _ (h.ab abA) g hi).mono ?_
    rintro e w8 ⟨er8, hr8, rfl, hb8⟩
    go_wp2_with (refine list_stJ rfl _ _ rfl rfl rfl (Var.ab (v2.ab hb8) abA) rfl rfl ?_; intro w9 h9)
    refine bodyPost_ret (res_J3 Tryz.results14 _ rfl h9.v rfl) rfl ?_
    exact RetJ3.zero (by rw [HM.out, ← hr8.out]) (h9.ab w abA (by omega))
end Go.Proofs.YthgcfjhnnhigoaaGreat

/- Save of the reference of layer 6, walked. Own work. -/
namespace Go.Proofs.YthgcfjhnnhigoaaGreat
open Go.RowKit
open Slots (Sl)

theorem Jour.logAt_5 {l m : Wal.Log} (h : m = ⟨⟨l.dev.s ++ l.dev.t, [], l.dev.cap, false⟩, l.first, l.next⟩) : Jour.logAt l 5 = ⟨⟨[], [], l.dev.cap, false⟩, m.next, m.next⟩ := by
  rw [h]; rfl
set_option maxRecDepth 100000 in
set_option maxHeartbeats 6400000 in
theorem jrsave_any (a : JA) (x : JX) (w : World) (h : JM w a x) (g : Option (List Frame.Rec)) (hi : Wal.Is x.l g) :
    Calls Tryz.prog 19 #[.agg #[.slice a.m.A x.s.a.s.length a.m.ca, .slice a.m.B x.s.a.t.length a.m.cb, .int .i64 x.s.a.cap, .bool x.s.a.down, .slice a.m.C x.s.b.s.length a.m.cc, .slice a.m.D x.s.b.t.length a.m.cd, .int .i64 x.s.b.cap, .bool x.s.b.down, .int .i64 x.s.n, .slice a.A x.l.dev.s.length a.ca, .slice a.B x.l.dev.t.length a.cb, .int .i64 x.l.dev.cap, .bool x.l.dev.down, .int .i64 x.l.first, .int .i64 x.l.next, .int .i64 (cx x.c 0), .int .i64 (cx x.c 1), .int .i64 (cx x.c 2), .int .i64 (cx x.c 3), .int .i64 (cx x.c 4), .int .i64 (cx x.c 5), .int .i64 (cx x.c 6), .int .i64 (cx x.c 7)]] w (RetJE w (Jour.saveM x g)) := by
  go_enter Tryz.func19, Tryz.ntmps19
  have hbx : VB ((w.alloc (.cells #[.slice a.m.A x.s.a.s.length a.m.ca, .slice a.m.B x.s.a.t.length a.m.cb, .int .i64 x.s.a.cap, .bool x.s.a.down, .slice a.m.C x.s.b.s.length a.m.cc, .slice a.m.D x.s.b.t.length a.m.cd, .int .i64 x.s.b.cap, .bool x.s.b.down, .int .i64 x.s.n, .slice a.A x.l.dev.s.length a.ca, .slice a.B x.l.dev.t.length a.cb, .int .i64 x.l.dev.cap, .bool x.l.dev.down, .int .i64 x.l.first, .int .i64 x.l.next, .int .i64 (cx x.c 0), .int .i64 (cx x.c 1), .int .i64 (cx x.c 2), .int .i64 (cx x.c 3), .int .i64 (cx x.c 4), .int .i64 (cx x.c 5), .int .i64 (cx x.c 6), .int .i64 (cx x.c 7)] 32 (0, 0))).alloc (.cells #[.slice none 0 0, .slice none 0 0, .int .i64 0, .bool false, .slice none 0 0, .slice none 0 0, .int .i64 0, .bool false, .int .i64 0, .slice none 0 0, .slice none 0 0, .int .i64 0, .bool false, .int .i64 0, .int .i64 0, .int .i64 0, .int .i64 0, .int .i64 0, .int .i64 0, .int .i64 0, .int .i64 0, .int .i64 0, .int .i64 0] 32 (0, 0))) w.heap.size [.slice a.m.A x.s.a.s.length a.m.ca, .slice a.m.B x.s.a.t.length a.m.cb, .int .i64 x.s.a.cap, .bool x.s.a.down, .slice a.m.C x.s.b.s.length a.m.cc, .slice a.m.D x.s.b.t.length a.m.cd, .int .i64 x.s.b.cap, .bool x.s.b.down, .int .i64 x.s.n, .slice a.A x.l.dev.s.length a.ca, .slice a.B x.l.dev.t.length a.cb, .int .i64 x.l.dev.cap, .bool x.l.dev.down, .int .i64 x.l.first, .int .i64 x.l.next, .int .i64 (cx x.c 0), .int .i64 (cx x.c 1), .int .i64 (cx x.c 2), .int .i64 (cx x.c 3), .int .i64 (cx x.c 4), .int .i64 (cx x.c 5), .int .i64 (cx x.c 6), .int .i64 (cx x.c 7)] := VB.box (old_alloc (new_plain rfl))
  have hrx : VB ((w.alloc (.cells #[.slice a.m.A x.s.a.s.length a.m.ca, .slice a.m.B x.s.a.t.length a.m.cb, .int .i64 x.s.a.cap, .bool x.s.a.down, .slice a.m.C x.s.b.s.length a.m.cc, .slice a.m.D x.s.b.t.length a.m.cd, .int .i64 x.s.b.cap, .bool x.s.b.down, .int .i64 x.s.n, .slice a.A x.l.dev.s.length a.ca, .slice a.B x.l.dev.t.length a.cb, .int .i64 x.l.dev.cap, .bool x.l.dev.down, .int .i64 x.l.first, .int .i64 x.l.next, .int .i64 (cx x.c 0), .int .i64 (cx x.c 1), .int .i64 (cx x.c 2), .int .i64 (cx x.c 3), .int .i64 (cx x.c 4), .int .i64 (cx x.c 5), .int .i64 (cx x.c 6), .int .i64 (cx x.c 7)] 32 (0, 0))).alloc (.cells #[.slice none 0 0, .slice none 0 0, .int .i64 0, .bool false, .slice none 0 0, .slice none 0 0, .int .i64 0, .bool false, .int .i64 0, .slice none 0 0, .slice none 0 0, .int .i64 0, .bool false, .int .i64 0, .int .i64 0, .int .i64 0, .int .i64 0, .int .i64 0, .int .i64 0, .int .i64 0, .int .i64 0, .int .i64 0, .int .i64 0] 32 (0, 0))) (w.heap.size + 1) [.slice none 0 0, .slice none 0 0, .int .i64 0, .bool false, .slice none 0 0, .slice none 0 0, .int .i64 0, .bool false, .int .i64 0, .slice none 0 0, .slice none 0 0, .int .i64 0, .bool false, .int .i64 0, .int .i64 0, .int .i64 0, .int .i64 0, .int .i64 0, .int .i64 0, .int .i64 0, .int .i64 0, .int .i64 0, .int .i64 0] := VB.box (new_plain (by simp))
  have hrv := hrx.var rfl
  go_wp2_with (refine list_ldJ rfl _ rfl rfl (VB.ab hbx abA) rfl ?_)
  refine (jrcheck_any a x _ (h.ab abA) g hi).mono ?_
  rintro e w1 ⟨er, hr, rfl, hb1⟩
  have v1 := hbx.ab hb1
  have v2 := hrv.ab hb1
  have b1 : Ab w w1 := abA
  have z2 := v2.lt
  clear hbx hrv hrx hb1
  by_cases he : er = 0
  · obtain ⟨rs, n, c, rfl, hG⟩ := Jour.good_of_check hi (hr.out.symm.trans he)
    have HG := Lib.hid hG
    have HM := Lib.hid (show Jour.saveM x (some rs) = _ from if_neg (by rw [← hr.out, he]; simp))
    obtain rfl : er = 0 := he
    clear hr hG
    go_upto_region 3 with fail
    go_cut [4, 5, 6] (fun v5 v6 v7 wx => SlNow (w.heap.size + 1) (Slots.save x.s (Jour.point x.l.next x.c)) v5 v6 v7 wx ∧ (Ab w wx ∧ VB wx w.heap.size [.slice a.m.A x.s.a.s.length a.m.ca, .slice a.m.B x.s.a.t.length a.m.cb, .int .i64 x.s.a.cap, .bool x.s.a.down, .slice a.m.C x.s.b.s.length a.m.cc, .slice a.m.D x.s.b.t.length a.m.cd, .int .i64 x.s.b.cap, .bool x.s.b.down, .int .i64 x.s.n, .slice a.A x.l.dev.s.length a.ca, .slice a.B x.l.dev.t.length a.cb, .int .i64 x.l.dev.cap, .bool x.l.dev.down, .int .i64 x.l.first, .int .i64 x.l.next, .int .i64 (cx x.c 0), .int .i64 (cx x.c 1), .int .i64 (cx x.c 2), .int .i64 (cx x.c 3), .int .i64 (cx x.c 4), .int .i64 (cx x.c 5), .int .i64 (cx x.c 6), .int .i64 (cx x.c 7)] ∧ Var wx (w.heap.size + 1) 23 ∧ w.heap.size + 1 < wx.heap.size))
    case first =>
      refine wp_region_held_drew (by kernel_rfl) (S := fun w' => (Ab w w' ∧ VB w' w.heap.size [.slice a.m.A x.s.a.s.length a.m.ca, .slice a.m.B x.s.a.t.length a.m.cb, .int .i64 x.s.a.cap, .bool x.s.a.down, .slice a.m.C x.s.b.s.length a.m.cc, .slice a.m.D x.s.b.t.length a.m.cd, .int .i64 x.s.b.cap, .bool x.s.b.down, .int .i64 x.s.n, .slice a.A x.l.dev.s.length a.ca, .slice a.B x.l.dev.t.length a.cb, .int .i64 x.l.dev.cap, .bool x.l.dev.down, .int .i64 x.l.first, .int .i64 x.l.next, .int .i64 (cx x.c 0), .int .i64 (cx x.c 1), .int .i64 (cx x.c 2), .int .i64 (cx x.c 3), .int .i64 (cx x.c 4), .int .i64 (cx x.c 5), .int .i64 (cx x.c 6), .int .i64 (cx x.c 7)] ∧ Var w' (w.heap.size + 1) 23 ∧ w.heap.size + 1 < w'.heap.size)) ?_ (fun hHeld => ?_)
      · exact ⟨abA, v1.ab abA, v2.ab abA, by simp; omega⟩
      (refine wpAnyH_take (i := 0) (v := ?_) rfl (by kernel_rfl) (by kernel_rfl) (by kernel_rfl) (fun _ _ _ h => h) (Or.inl ⟨by kernel_rfl, ?_⟩) (by assumption) ?_
       rotate_left
       · (intro w hSw; (try dsimp only at hSw); go_simp; (try with_reducible rfl))
       (try simp only [Act.put, stA, st0, st1]))
      (refine wpAnyH_take (i := 1) (v := .agg #[.slice a.m.A x.s.a.s.length a.m.ca, .slice a.m.B x.s.a.t.length a.m.cb, .int .i64 x.s.a.cap, .bool x.s.a.down, .slice a.m.C x.s.b.s.length a.m.cc, .slice a.m.D x.s.b.t.length a.m.cd, .int .i64 x.s.b.cap, .bool x.s.b.down, .int .i64 x.s.n]) rfl (by kernel_rfl) (by kernel_rfl) (by kernel_rfl) (fun _ _ _ h => h) (yieldsIf_load_mid (by kernel_rfl) _ _ rfl _ 0 rfl [.slice a.m.A x.s.a.s.length a.m.ca, .slice a.m.B x.s.a.t.length a.m.cb, .int .i64 x.s.a.cap, .bool x.s.a.down, .slice a.m.C x.s.b.s.length a.m.cc, .slice a.m.D x.s.b.t.length a.m.cd, .int .i64 x.s.b.cap, .bool x.s.b.down, .int .i64 x.s.n] _ (fun w hSw => VB.rangeAt (hSw.2.1) 0 9) Tryz.underlying27 rfl (by kernel_rfl)) (by assumption) ?_
       (try simp only [Act.put, stA, st0, st1]))
      (refine wpAnyH_take (i := 2) (v := ?_) rfl (by kernel_rfl) (by kernel_rfl) (by kernel_rfl) (fun _ _ _ h => h) (Or.inl ⟨by kernel_rfl, ?_⟩) (by assumption) ?_
       rotate_left
       · (intro w hSw; (try dsimp only at hSw); go_simp; (try with_reducible rfl))
       (try simp only [Act.put, stA, st0, st1]))
      (refine wpAnyH_take (i := 3) (v := ?_) rfl (by kernel_rfl) (by kernel_rfl) (by kernel_rfl) (fun _ _ _ h => h) (Or.inl ⟨by kernel_rfl, ?_⟩) (by assumption) ?_
       rotate_left
       · (intro w hSw; (try dsimp only at hSw); go_simp; (try with_reducible rfl))
       (try simp only [Act.put, stA, st0, st1]))
      (refine wpAnyH_take (i := 4) (v := ?_) rfl (by kernel_rfl) (by kernel_rfl) (by kernel_rfl) (fun _ _ _ h => h) (Or.inl ⟨by kernel_rfl, ?_⟩) (by assumption) ?_
       rotate_left
       · (intro w hSw; have hq9 := hSw.2.1.at 14 rfl; go_simp; (try with_reducible rfl))
       (try simp only [Act.put, stA, st0, st1]))
      (refine wpAnyH_take (i := 5) (v := ?_) rfl (by kernel_rfl) (by kernel_rfl) (by kernel_rfl) (fun _ _ _ h => h) (Or.inl ⟨by kernel_rfl, ?_⟩) (by assumption) ?_
       rotate_left
       · (intro w hSw; (try dsimp only at hSw); go_simp; (try with_reducible rfl))
       (try simp only [Act.put, stA, st0, st1]))
      (refine wpAnyH_take (i := 6) (v := .agg #[.int .i64 (cx x.c 0), .int .i64 (cx x.c 1), .int .i64 (cx x.c 2), .int .i64 (cx x.c 3), .int .i64 (cx x.c 4), .int .i64 (cx x.c 5), .int .i64 (cx x.c 6), .int .i64 (cx x.c 7)]) rfl (by kernel_rfl) (by kernel_rfl) (by kernel_rfl) (fun _ _ _ h => h) (yieldsIf_load_mid (by kernel_rfl) _ _ rfl _ 15 rfl [.int .i64 (cx x.c 0), .int .i64 (cx x.c 1), .int .i64 (cx x.c 2), .int .i64 (cx x.c 3), .int .i64 (cx x.c 4), .int .i64 (cx x.c 5), .int .i64 (cx x.c 6), .int .i64 (cx x.c 7)] _ (fun w hSw => VB.rangeAt (hSw.2.1) 15 8) Tryz.underlying30 rfl (by kernel_rfl)) (by assumption) ?_
       (try simp only [Act.put, stA, st0, st1]))
      (refine wpAnyH_ready (rs := [7, 13]) (by kernel_rfl) (by simp) ?_)
      refine AllReadyH.cons rfl (fun K hK => ?_) (AllReadyH.cons rfl (fun K hK => ?_) AllReadyH.nil)
      · (go_simp
         ((go_at_call 56)
          refine (jrpoint_any x.l.next x.c h.hc _).mono ?_
          rintro e w5 ⟨X, cX, LX, hLX, rfl, hX, hcX, hb5⟩)
         (try go_wp2_with fail)
         (refine hK.out _ _ ?_ (fun hHeld => ?_)
          · (try dsimp only); exact ⟨hHeld.1.trans hb5, hHeld.2.1.ab hb5, hHeld.2.2.1.ab hb5, Nat.lt_of_lt_of_le hHeld.2.2.2 (hb5).size⟩
          clear hK K
          (try simp only [Act.put, stA, st0, st1])))
        (refine wpAnyH_ready (rs := [8, 13]) (by kernel_rfl) (by simp) ?_)
        refine AllReadyH.cons rfl (fun K hK => ?_) (AllReadyH.cons rfl (fun K hK => ?_) AllReadyH.nil)
        · (go_simp
           ((go_at_call 55)
            refine (srsave_any a.m x.s _ (h.s.ab hHeld.1) X LX cX (hX.zero.ab abA) hcX).mono ?_
            rintro e w6 ⟨r6, num, er6, k, hr6, rfl, hM6, hb6⟩)
           (try go_wp2_with fail)
           (refine hK.out _ _ ?_ (fun hHeld => ?_)
            · (try dsimp only); exact ⟨hHeld.1.trans hb6, hHeld.2.1.ab hb6, hHeld.2.2.1.ab hb6, Nat.lt_of_lt_of_le hHeld.2.2.2 (hb6).size⟩
            clear hK K
            (try simp only [Act.put, stA, st0, st1])))
          (refine wpAnyH_take (i := 9) (v := ?_) rfl (by kernel_rfl) (by kernel_rfl) (by kernel_rfl) (fun _ _ _ h => h) (Or.inl ⟨by kernel_rfl, ?_⟩) (by assumption) ?_
           rotate_left
           · (intro w hSw; (try dsimp only at hSw); go_simp; (try with_reducible rfl))
           (try simp only [Act.put, stA, st0, st1]))
          (refine wpAnyH_take (i := 10) (v := ?_) rfl (by kernel_rfl) (by kernel_rfl) (by kernel_rfl) (fun _ _ _ h => h) (Or.inl ⟨by kernel_rfl, ?_⟩) (by assumption) ?_
           rotate_left
           · (intro w hSw; (try dsimp only at hSw); go_simp; (try with_reducible rfl))
           (try simp only [Act.put, stA, st0, st1]))
          (refine wpAnyH_take (i := 11) (v := ?_) rfl (by kernel_rfl) (by kernel_rfl) (by kernel_rfl) (fun _ _ _ h => h) (Or.inl ⟨by kernel_rfl, ?_⟩) (by assumption) ?_
           rotate_left
           · (intro w hSw; (try dsimp only at hSw); go_simp; (try with_reducible rfl))
           (try simp only [Act.put, stA, st0, st1]))
          (refine wpAnyH_take (i := 12) (v := ?_) rfl (by kernel_rfl) (by kernel_rfl) (by kernel_rfl) (fun _ _ _ h => h) (Or.inl ⟨by kernel_rfl, ?_⟩) (by assumption) ?_
           rotate_left
           · (intro w hSw; (try dsimp only at hSw); go_simp; (try with_reducible rfl))
           (try simp only [Act.put, stA, st0, st1]))
          (refine wpAnyH_ready (rs := [13]) (by kernel_rfl) (by simp) ?_)
          refine AllReadyH.cons rfl (fun K hK => ?_) AllReadyH.nil
          have A6 := (Ab.refl w6).alloc (.cells #[.slice none 0 0, .slice none 0 0, .int .i64 0, .bool false, .slice none 0 0, .slice none 0 0, .int .i64 0, .bool false, .int .i64 0] 27 (0, 0))
          have v6 : Var (w6.alloc (.cells #[.slice none 0 0, .slice none 0 0, .int .i64 0, .bool false, .slice none 0 0, .slice none 0 0, .int .i64 0, .bool false, .int .i64 0] 27 (0, 0))) (w6.heap.size) 9 := VB.var (vs := [.slice none 0 0, .slice none 0 0, .int .i64 0, .bool false, .slice none 0 0, .slice none 0 0, .int .i64 0, .bool false, .int .i64 0]) (VB.box (new_plain (by first | rfl | simp))) rfl
          have P6 : w.heap.size + 1 < w6.heap.size := by first | exact hHeld.2.2.2 | omega
          (go_simp
           (refine hK.out _ _ ?_ (fun hHeld => ?_)
            · (try dsimp only); exact ⟨hHeld.1.trans A6, hHeld.2.1.ab A6, hHeld.2.2.1.ab A6, Nat.lt_of_lt_of_le hHeld.2.2.2 (A6).size⟩
            clear hK K
            (try simp only [Act.put, stA, st0, st1])))
          (refine wpAnyH_ready (rs := [14]) (by kernel_rfl) (by simp) ?_)
          refine AllReadyH.cons rfl (fun K hK => ?_) AllReadyH.nil
          (try simp only [Act.put, List.getElem_toArray, List.getElem_cons_succ, List.getElem_cons_zero, stA, st0, st1])
          refine if_go (by rfl) ?_
          refine wp_stV 27 infoS _ _ rfl rfl rfl v6 rfl rfl ?_
          intro w7 h7
          (refine hK.out _ _ ?_ (fun hHeld => ?_)
           · (try dsimp only); exact ⟨h7.ab w hHeld.1 (by omega), hHeld.2.1.mid h7.m (by omega), hHeld.2.2.1.mid h7.m (by omega), by rw [h7.sz]; exact hHeld.2.2.2⟩
           clear hK K
           (try simp only [Act.put, stA, st0, st1]))
          (refine wpAnyH_ready (rs := [15]) (by kernel_rfl) (by simp) ?_)
          refine AllReadyH.cons rfl (fun K hK => ?_) AllReadyH.nil
          (go_simp
           (refine hK.out _ _ ?_ (fun hHeld => ?_)
            · (try dsimp only); exact hHeld
            clear hK K
            (try simp only [Act.put, stA, st0, st1])))
          (refine wpAnyH_ready (rs := [16]) (by kernel_rfl) (by simp) ?_)
          refine AllReadyH.cons rfl (fun K hK => ?_) AllReadyH.nil
          (go_simp
           (refine hK.out _ _ ?_ (fun hHeld => ?_)
            · (try dsimp only); exact hHeld
            clear hK K
            (try simp only [Act.put, stA, st0, st1])))
          refine wpAnyH_done (by kernel_rfl) ?_ _
          go_wp2_with fail
          go_meet
          exact ⟨⟨_, r6, num, er6, k, rfl, rfl, rfl, Lib.hid (by rw [hr6.out, hLX.out]), h7.v, P6, h7.slm (hM6.ab A6)⟩, hHeld⟩
        · have A6 := (Ab.refl w5).alloc (.cells #[.slice none 0 0, .slice none 0 0, .int .i64 0, .bool false, .slice none 0 0, .slice none 0 0, .int .i64 0, .bool false, .int .i64 0] 27 (0, 0))
          have v6 : Var (w5.alloc (.cells #[.slice none 0 0, .slice none 0 0, .int .i64 0, .bool false, .slice none 0 0, .slice none 0 0, .int .i64 0, .bool false, .int .i64 0] 27 (0, 0))) (w5.heap.size) 9 := VB.var (vs := [.slice none 0 0, .slice none 0 0, .int .i64 0, .bool false, .slice none 0 0, .slice none 0 0, .int .i64 0, .bool false, .int .i64 0]) (VB.box (new_plain (by first | rfl | simp))) rfl
          have P6 : w.heap.size + 1 < w5.heap.size := by first | exact hHeld.2.2.2 | omega
          (go_simp
           (refine hK.out _ _ ?_ (fun hHeld => ?_)
            · (try dsimp only); exact ⟨hHeld.1.trans A6, hHeld.2.1.ab A6, hHeld.2.2.1.ab A6, Nat.lt_of_lt_of_le hHeld.2.2.2 (A6).size⟩
            clear hK K
            (try simp only [Act.put, stA, st0, st1])))
          (refine wpAnyH_ready (rs := [8]) (by kernel_rfl) (by simp) ?_)
          refine AllReadyH.cons rfl (fun K hK => ?_) AllReadyH.nil
          (go_simp
           ((go_at_call 55)
            refine (srsave_any a.m x.s _ (h.s.ab hHeld.1) X LX cX (hX.zero.ab abA) hcX).mono ?_
            rintro e w6 ⟨r6, num, er6, k, hr6, rfl, hM6, hb6⟩)
           (try go_wp2_with fail)
           (refine hK.out _ _ ?_ (fun hHeld => ?_)
            · (try dsimp only); exact ⟨hHeld.1.trans hb6, hHeld.2.1.ab hb6, hHeld.2.2.1.ab hb6, Nat.lt_of_lt_of_le hHeld.2.2.2 (hb6).size⟩
            clear hK K
            (try simp only [Act.put, stA, st0, st1])))
          (refine wpAnyH_take (i := 9) (v := ?_) rfl (by kernel_rfl) (by kernel_rfl) (by kernel_rfl) (fun _ _ _ h => h) (Or.inl ⟨by kernel_rfl, ?_⟩) (by assumption) ?_
           rotate_left
           · (intro w hSw; (try dsimp only at hSw); go_simp; (try with_reducible rfl))
           (try simp only [Act.put, stA, st0, st1]))
          (refine wpAnyH_take (i := 10) (v := ?_) rfl (by kernel_rfl) (by kernel_rfl) (by kernel_rfl) (fun _ _ _ h => h) (Or.inl ⟨by kernel_rfl, ?_⟩) (by assumption) ?_
           rotate_left
           · (intro w hSw; (try dsimp only at hSw); go_simp; (try with_reducible rfl))
           (try simp only [Act.put, stA, st0, st1]))
          (refine wpAnyH_take (i := 11) (v := ?_) rfl (by kernel_rfl) (by kernel_rfl) (by kernel_rfl) (fun _ _ _ h => h) (Or.inl ⟨by kernel_rfl, ?_⟩) (by assumption) ?_
           rotate_left
           · (intro w hSw; (try dsimp only at hSw); go_simp; (try with_reducible rfl))
           (try simp only [Act.put, stA, st0, st1]))
          (refine wpAnyH_take (i := 12) (v := ?_) rfl (by kernel_rfl) (by kernel_rfl) (by kernel_rfl) (fun _ _ _ h => h) (Or.inl ⟨by kernel_rfl, ?_⟩) (by assumption) ?_
           rotate_left
           · (intro w hSw; (try dsimp only at hSw); go_simp; (try with_reducible rfl))
           (try simp only [Act.put, stA, st0, st1]))
          have v8 := v6.ab hb6
          (refine wpAnyH_ready (rs := [14]) (by kernel_rfl) (by simp) ?_)
          refine AllReadyH.cons rfl (fun K hK => ?_) AllReadyH.nil
          (try simp only [Act.put, List.getElem_toArray, List.getElem_cons_succ, List.getElem_cons_zero, stA, st0, st1])
          refine if_go (by rfl) ?_
          refine wp_stV 27 infoS _ _ rfl rfl rfl v8 rfl rfl ?_
          intro w7 h7
          (refine hK.out _ _ ?_ (fun hHeld => ?_)
           · (try dsimp only); exact ⟨h7.ab w hHeld.1 (by omega), hHeld.2.1.mid h7.m (by omega), hHeld.2.2.1.mid h7.m (by omega), by rw [h7.sz]; exact hHeld.2.2.2⟩
           clear hK K
           (try simp only [Act.put, stA, st0, st1]))
          (refine wpAnyH_ready (rs := [15]) (by kernel_rfl) (by simp) ?_)
          refine AllReadyH.cons rfl (fun K hK => ?_) AllReadyH.nil
          (go_simp
           (refine hK.out _ _ ?_ (fun hHeld => ?_)
            · (try dsimp only); exact hHeld
            clear hK K
            (try simp only [Act.put, stA, st0, st1])))
          (refine wpAnyH_ready (rs := [16]) (by kernel_rfl) (by simp) ?_)
          refine AllReadyH.cons rfl (fun K hK => ?_) AllReadyH.nil
          (go_simp
           (refine hK.out _ _ ?_ (fun hHeld => ?_)
            · (try dsimp only); exact hHeld
            clear hK K
            (try simp only [Act.put, stA, st0, st1])))
          refine wpAnyH_done (by kernel_rfl) ?_ _
          go_wp2_with fail
          go_meet
          exact ⟨⟨_, r6, num, er6, k, rfl, rfl, rfl, Lib.hid (by rw [hr6.out, hLX.out]), h7.v, P6, h7.slm (hM6.ab (Ab.refl _))⟩, hHeld⟩
      · have A6 := (Ab.refl w1.drew).alloc (.cells #[.slice none 0 0, .slice none 0 0, .int .i64 0, .bool false, .slice none 0 0, .slice none 0 0, .int .i64 0, .bool false, .int .i64 0] 27 (0, 0))
        have v6 : Var (w1.drew.alloc (.cells #[.slice none 0 0, .slice none 0 0, .int .i64 0, .bool false, .slice none 0 0, .slice none 0 0, .int .i64 0, .bool false, .int .i64 0] 27 (0, 0))) (w1.heap.size) 9 := VB.var (vs := [.slice none 0 0, .slice none 0 0, .int .i64 0, .bool false, .slice none 0 0, .slice none 0 0, .int .i64 0, .bool false, .int .i64 0]) (VB.box (new_plain (by first | rfl | simp))) rfl
        have P6 : w.heap.size + 1 < w1.heap.size := by first | exact hHeld.2.2.2 | omega
        (go_simp
         (refine hK.out _ _ ?_ (fun hHeld => ?_)
          · (try dsimp only); exact ⟨hHeld.1.trans A6, hHeld.2.1.ab A6, hHeld.2.2.1.ab A6, Nat.lt_of_lt_of_le hHeld.2.2.2 (A6).size⟩
          clear hK K
          (try simp only [Act.put, stA, st0, st1])))
        (refine wpAnyH_ready (rs := [7]) (by kernel_rfl) (by simp) ?_)
        refine AllReadyH.cons rfl (fun K hK => ?_) AllReadyH.nil
        (go_simp
         ((go_at_call 56)
          refine (jrpoint_any x.l.next x.c h.hc _).mono ?_
          rintro e w5 ⟨X, cX, LX, hLX, rfl, hX, hcX, hb5⟩)
         (try go_wp2_with fail)
         (refine hK.out _ _ ?_ (fun hHeld => ?_)
          · (try dsimp only); exact ⟨hHeld.1.trans hb5, hHeld.2.1.ab hb5, hHeld.2.2.1.ab hb5, Nat.lt_of_lt_of_le hHeld.2.2.2 (hb5).size⟩
          clear hK K
          (try simp only [Act.put, stA, st0, st1])))
        (refine wpAnyH_ready (rs := [8]) (by kernel_rfl) (by simp) ?_)
        refine AllReadyH.cons rfl (fun K hK => ?_) AllReadyH.nil
        (go_simp
         ((go_at_call 55)
          refine (srsave_any a.m x.s _ (h.s.ab hHeld.1) X LX cX (hX.zero.ab abA) hcX).mono ?_
          rintro e w6 ⟨r6, num, er6, k, hr6, rfl, hM6, hb6⟩)
         (try go_wp2_with fail)
         (refine hK.out _ _ ?_ (fun hHeld => ?_)
          · (try dsimp only); exact ⟨hHeld.1.trans hb6, hHeld.2.1.ab hb6, hHeld.2.2.1.ab hb6, Nat.lt_of_lt_of_le hHeld.2.2.2 (hb6).size⟩
          clear hK K
          (try simp only [Act.put, stA, st0, st1])))
        (refine wpAnyH_take (i := 9) (v := ?_) rfl (by kernel_rfl) (by kernel_rfl) (by kernel_rfl) (fun _ _ _ h => h) (Or.inl ⟨by kernel_rfl, ?_⟩) (by assumption) ?_
         rotate_left
         · (intro w hSw; (try dsimp only at hSw); go_simp; (try with_reducible rfl))
         (try simp only [Act.put, stA, st0, st1]))
        (refine wpAnyH_take (i := 10) (v := ?_) rfl (by kernel_rfl) (by kernel_rfl) (by kernel_rfl) (fun _ _ _ h => h) (Or.inl ⟨by kernel_rfl, ?_⟩) (by assumption) ?_
         rotate_left
         · (intro w hSw; (try dsimp only at hSw); go_simp; (try with_reducible rfl))
         (try simp only [Act.put, stA, st0, st1]))
        (refine wpAnyH_take (i := 11) (v := ?_) rfl (by kernel_rfl) (by kernel_rfl) (by kernel_rfl) (fun _ _ _ h => h) (Or.inl ⟨by kernel_rfl, ?_⟩) (by assumption) ?_
         rotate_left
         · (intro w hSw; (try dsimp only at hSw); go_simp; (try with_reducible rfl))
         (try simp only [Act.put, stA, st0, st1]))
        (refine wpAnyH_take (i := 12) (v := ?_) rfl (by kernel_rfl) (by kernel_rfl) (by kernel_rfl) (fun _ _ _ h => h) (Or.inl ⟨by kernel_rfl, ?_⟩) (by assumption) ?_
         rotate_left
         · (intro w hSw; (try dsimp only at hSw); go_simp; (try with_reducible rfl))
         (try simp only [Act.put, stA, st0, st1]))
        have v8 := v6.ab (hb5.trans hb6)
        (refine wpAnyH_ready (rs := [14]) (by kernel_rfl) (by simp) ?_)
        refine AllReadyH.cons rfl (fun K hK => ?_) AllReadyH.nil
        (try simp only [Act.put, List.getElem_toArray, List.getElem_cons_succ, List.getElem_cons_zero, stA, st0, st1])
        refine if_go (by rfl) ?_
        refine wp_stV 27 infoS _ _ rfl rfl rfl v8 rfl rfl ?_
        intro w7 h7
        (refine hK.out _ _ ?_ (fun hHeld => ?_)
         · (try dsimp only); exact ⟨h7.ab w hHeld.1 (by omega), hHeld.2.1.mid h7.m (by omega), hHeld.2.2.1.mid h7.m (by omega), by rw [h7.sz]; exact hHeld.2.2.2⟩
         clear hK K
         (try simp only [Act.put, stA, st0, st1]))
        (refine wpAnyH_ready (rs := [15]) (by kernel_rfl) (by simp) ?_)
        refine AllReadyH.cons rfl (fun K hK => ?_) AllReadyH.nil
        (go_simp
         (refine hK.out _ _ ?_ (fun hHeld => ?_)
          · (try dsimp only); exact hHeld
          clear hK K
          (try simp only [Act.put, stA, st0, st1])))
        (refine wpAnyH_ready (rs := [16]) (by kernel_rfl) (by simp) ?_)
        refine AllReadyH.cons rfl (fun K hK => ?_) AllReadyH.nil
        (go_simp
         (refine hK.out _ _ ?_ (fun hHeld => ?_)
          · (try dsimp only); exact hHeld
          clear hK K
          (try simp only [Act.put, stA, st0, st1])))
        refine wpAnyH_done (by kernel_rfl) ?_ _
        go_wp2_with fail
        go_meet
        exact ⟨⟨_, r6, num, er6, k, rfl, rfl, rfl, Lib.hid (by rw [hr6.out, hLX.out]), h7.v, P6, h7.slm (hM6.ab (Ab.refl _))⟩, hHeld⟩
    obtain ⟨⟨P, r6, num, er6, k, rfl, rfl, rfl, hr6, vP, hP, hM6⟩, bW, vJ, vR, hsz⟩ := hcut
    by_cases he6 : er6 = 0
    · obtain rfl : er6 = 0 := he6
      have HY := Lib.hid (HM.out.trans (if_neg (by rw [← hr6.out]; simp)))
      clear v1 v2 b1
      have xq0 := (vJ).at 9 rfl
      have xq1 := (vJ).at 10 rfl
      have xq2 := (vJ).at 11 rfl
      have xq3 := (vJ).at 12 rfl
      have xq4 := (vJ).at 13 rfl
      have xq5 := (vJ).at 14 rfl
      go_wp2_with fail
      refine (refwsync_any a.A a.B a.ca a.cb x.l.dev.s x.l.dev.t x.l.dev.cap x.l.dev.down x.l.first x.l.next _ (h.l.p.ab abA) (h.l.q.ab abA) h.l.lp h.l.lq h.l.np h.l.nq (some rs) hi).mono ?_
      rintro e w3 ⟨⟨⟨s3, t3, cp3, dn3⟩, f3, n3⟩, er3, D, E, cd, ce, hr3, rfl, oD, oE, hb3⟩
      dsimp only at oD oE
      have hh := hr3.out
      obtain ⟨h3, rfl⟩ := Prod.mk.inj (hh.trans (show Wal.sync x.l (some rs) = (_, 0) from rfl))
      have HL := Lib.hid h3
      have l3 : s3.length ≤ 1000000 ∧ t3.length ≤ 1000000 := by
        have hsz := HG.out.log.room
        simp only [Disk.Dev.size, Jour.JXj] at hsz
        injection h3 with h4 h5
        injection h4 with h6 h7
        subst h6 h7
        simp; omega
      have vJ3 := vJ.ab hb3
      have vR3 := vR.ab hb3
      have vP3 := vP.ab hb3
      have b3 : Ab w w3 := bW.trans hb3
      have lD := oD.le
      have lE := oE.le
      have oD3 : RB w3 0 D s3 := oD.rb.zero
      have oE3 : RB w3 0 E t3 := oE.rb.zero
      have z3 := vP3.lt
      have bc3 : Ab wc w3 := hb3
      clear hr3 hh h3 oD oE hb3 xq0 xq1 xq2 xq3 xq4 xq5 vJ vR vP
      have A3 := (Ab.refl w3).alloc (.cells #[.slice D s3.length cd, .slice E t3.length ce, .int .i64 cp3, .bool dn3, .int .i64 f3, .int .i64 n3] 29 (0, 0))
      have vl : VB (w3.alloc (.cells #[.slice D s3.length cd, .slice E t3.length ce, .int .i64 cp3, .bool dn3, .int .i64 f3, .int .i64 n3] 29 (0, 0))) w3.heap.size [.slice D s3.length cd, .slice E t3.length ce, .int .i64 cp3, .bool dn3, .int .i64 f3, .int .i64 n3] := VB.box (new_plain rfl)
      have hg2 : Wal.Good ⟨⟨s3, t3, cp3, dn3⟩, f3, n3⟩ rs := by
        rw [HL.out]; exact good_synced' hi
      have hdr := Jour.drop_synced hi
      rw [← HL.out, show x.l.next = n3 by have := HL.out; injection this with _ _ e; exact e.symm] at hdr
      have HDR := Lib.hid hdr
      clear hdr
      have yq0 := (vl).at 0 rfl
      have yq1 := (vl).at 1 rfl
      have yq2 := (vl).at 2 rfl
      have yq3 := (vl).at 3 rfl
      have yq4 := (vl).at 4 rfl
      have yq5 := (vl).at 5 rfl
      go_wp2_with fail
      refine (refwdrop_any D E cd ce s3 t3 cp3 dn3 f3 n3 _ (oD3.ab abA) (oE3.ab abA) lD lE l3.1 l3.2 (some rs) hg2 n3).mono ?_
      rintro e w4 ⟨⟨⟨s4, t4, cp4, dn4⟩, f4, n4⟩, er4, D4, E4, cd4, ce4, hr4, rfl, oD4, oE4, hb4⟩
      dsimp only at oD4 oE4
      obtain ⟨h4, rfl⟩ := Prod.mk.inj (hr4.out.trans HDR.out)
      have HL4 := Lib.hid h4
      have l4 : s4.length ≤ 1000000 ∧ t4.length ≤ 1000000 := by
        injection h4 with h5 h6
        injection h5 with h7 h8
        subst h7 h8
        simp
      have vJ4 := (vJ3.ab A3).ab hb4
      have vR4 := (vR3.ab A3).ab hb4
      have vP4 := (vP3.ab A3).ab hb4
      have vl4 := vl.ab hb4
      have b4 : Ab w w4 := (b3.trans A3).trans hb4
      have bc4 : Ab wc w4 := (bc3.trans A3).trans hb4
      have lD4 := oD4.le
      have lE4 := oE4.le
      have oD5 : RB w4 0 D4 s4 := oD4.rb.zero
      have oE5 : RB w4 0 E4 t4 := oE4.rb.zero
      clear hr4 h4 oD4 oE4 hb4 vJ3 vR3 vP3 vl A3 yq0 yq1 yq2 yq3 yq4 yq5
      go_upto_region 8 with (refine list_stV 29 infoL rfl _ _ rfl rfl rfl (vl4.var rfl) rfl rfl ?_; intro w6 h6)
      have vJ6 := vJ4.mid h6.m (by omega)
      have vR6 := vR4.mid h6.m (by omega)
      have vP6 := vP4.mid h6.m (by omega)
      have b6 : Ab w w6 := h6.ab w b4 (by omega)
      have yq0 := (vP6).at 0 rfl
      have yq1 := (vP6).at 1 rfl
      have yq2 := (vP6).at 2 rfl
      have yq3 := (vP6).at 3 rfl
      have yq4 := (vP6).at 4 rfl
      have yq5 := (vP6).at 5 rfl
      have yq6 := (vP6).at 6 rfl
      have yq7 := (vP6).at 7 rfl
      have yq8 := (vP6).at 8 rfl
      have zq0 := (h6.v).at 0 rfl
      have zq1 := (h6.v).at 1 rfl
      have zq2 := (h6.v).at 2 rfl
      have zq3 := (h6.v).at 3 rfl
      have zq4 := (h6.v).at 4 rfl
      have zq5 := (h6.v).at 5 rfl
      have xq0 := (vJ6).at 15 rfl
      have xq1 := (vJ6).at 16 rfl
      have xq2 := (vJ6).at 17 rfl
      have xq3 := (vJ6).at 18 rfl
      have xq4 := (vJ6).at 19 rfl
      have xq5 := (vJ6).at 20 rfl
      have xq6 := (vJ6).at 21 rfl
      have xq7 := (vJ6).at 22 rfl
      go_wp2_with (refine list_stJ rfl _ _ rfl rfl rfl (Var.ab vR6 abA) rfl rfl ?_; intro w9 h9)
      refine bodyPost_ret (res_J2 Tryz.results19 _ rfl h9.v rfl) rfl ?_
      exact ⟨⟨r6, ⟨⟨s4, t4, cp4, dn4⟩, f4, n4⟩, x.c⟩, 0, ⟨k, D4, E4, cd4, ce4⟩, Lib.hid (by rw [HY.out, ← hr6.out, HL4.out, Jour.logAt_5 HL.out]), rfl, ⟨h9.slm (h6.slm (hM6.ab bc4)), ⟨h9.rb _ _ _ (h6.rb _ _ _ oD5), h9.rb _ _ _ (h6.rb _ _ _ oE5), lD4, lE4, l4.1, l4.2⟩, h.hc⟩, h9.ab w b6 (by omega)⟩
    · have HY := Lib.hid (show Jour.saveM x (some rs) = (JX.zero, er6) by rw [HM.out, ← hr6.out]; exact if_pos he6)
      have hne : (er6 != 0) = true := by simpa using he6
      clear he6 hr6
      go_wp2_with (refine list_stJ rfl _ _ rfl rfl rfl (Var.ab vR abA) rfl rfl ?_; intro w9 h9)
      refine bodyPost_ret (res_J2 Tryz.results19 _ rfl h9.v rfl) rfl ?_
      exact RetJE.zero HY.out.symm (h9.ab w abA (by omega))
  · have HM := Lib.hid (show Jour.saveM x g = _ from if_pos (by rw [← hr.out]; exact he))
    have HE := Lib.hid hr.out
    have hne : (er != 0) = true := by simpa using he
    clear he
    go_wp2_with (refine list_ldJ rfl _ rfl rfl (VB.ab v1 abA) rfl ?_)
    refine (jrcheck_any a x _ (h.ab abA) g hi).mono ?_
    rintro e w8 ⟨er8, hr8, rfl, hb8⟩
    go_wp2_with (refine list_stJ rfl _ _ rfl rfl rfl (Var.ab (v2.ab hb8) abA) rfl rfl ?_; intro w9 h9)
    refine bodyPost_ret (res_J2 Tryz.results19 _ rfl h9.v rfl) rfl ?_
    exact RetJE.zero (by rw [HM.out, ← hr8.out]) (h9.ab w abA (by omega))
end Go.Proofs.YthgcfjhnnhigoaaGreat

/- Same, Twin, Great of the reference of layer 6, walked. Own work. -/
namespace Go.Proofs.YthgcfjhnnhigoaaGreat
open Go.RowKit
open Slots (Sl)

set_option maxRecDepth 100000 in
set_option maxHeartbeats 6400000 in
theorem jsame_true (a b : JA) (x : JX) (w : World) (h : JM w a x) (k : JM w b x) :
    Calls Tryz.prog 15 #[.agg #[.slice a.m.A x.s.a.s.length a.m.ca, .slice a.m.B x.s.a.t.length a.m.cb, .int .i64 x.s.a.cap, .bool x.s.a.down, .slice a.m.C x.s.b.s.length a.m.cc, .slice a.m.D x.s.b.t.length a.m.cd, .int .i64 x.s.b.cap, .bool x.s.b.down, .int .i64 x.s.n, .slice a.A x.l.dev.s.length a.ca, .slice a.B x.l.dev.t.length a.cb, .int .i64 x.l.dev.cap, .bool x.l.dev.down, .int .i64 x.l.first, .int .i64 x.l.next, .int .i64 (cx x.c 0), .int .i64 (cx x.c 1), .int .i64 (cx x.c 2), .int .i64 (cx x.c 3), .int .i64 (cx x.c 4), .int .i64 (cx x.c 5), .int .i64 (cx x.c 6), .int .i64 (cx x.c 7)], .agg #[.slice b.m.A x.s.a.s.length b.m.ca, .slice b.m.B x.s.a.t.length b.m.cb, .int .i64 x.s.a.cap, .bool x.s.a.down, .slice b.m.C x.s.b.s.length b.m.cc, .slice b.m.D x.s.b.t.length b.m.cd, .int .i64 x.s.b.cap, .bool x.s.b.down, .int .i64 x.s.n, .slice b.A x.l.dev.s.length b.ca, .slice b.B x.l.dev.t.length b.cb, .int .i64 x.l.dev.cap, .bool x.l.dev.down, .int .i64 x.l.first, .int .i64 x.l.next, .int .i64 (cx x.c 0), .int .i64 (cx x.c 1), .int .i64 (cx x.c 2), .int .i64 (cx x.c 3), .int .i64 (cx x.c 4), .int .i64 (cx x.c 5), .int .i64 (cx x.c 6), .int .i64 (cx x.c 7)]] w fun e w' => e = .returned (.bool true) ∧ Ab w w' := by
  go_enter Tryz.func15, Tryz.ntmps15
  have ha : VB ((w.alloc (.cells #[.slice a.m.A x.s.a.s.length a.m.ca, .slice a.m.B x.s.a.t.length a.m.cb, .int .i64 x.s.a.cap, .bool x.s.a.down, .slice a.m.C x.s.b.s.length a.m.cc, .slice a.m.D x.s.b.t.length a.m.cd, .int .i64 x.s.b.cap, .bool x.s.b.down, .int .i64 x.s.n, .slice a.A x.l.dev.s.length a.ca, .slice a.B x.l.dev.t.length a.cb, .int .i64 x.l.dev.cap, .bool x.l.dev.down, .int .i64 x.l.first, .int .i64 x.l.next, .int .i64 (cx x.c 0), .int .i64 (cx x.c 1), .int .i64 (cx x.c 2), .int .i64 (cx x.c 3), .int .i64 (cx x.c 4), .int .i64 (cx x.c 5), .int .i64 (cx x.c 6), .int .i64 (cx x.c 7)] 32 (0, 0))).alloc (.cells #[.slice b.m.A x.s.a.s.length b.m.ca, .slice b.m.B x.s.a.t.length b.m.cb, .int .i64 x.s.a.cap, .bool x.s.a.down, .slice b.m.C x.s.b.s.length b.m.cc, .slice b.m.D x.s.b.t.length b.m.cd, .int .i64 x.s.b.cap, .bool x.s.b.down, .int .i64 x.s.n, .slice b.A x.l.dev.s.length b.ca, .slice b.B x.l.dev.t.length b.cb, .int .i64 x.l.dev.cap, .bool x.l.dev.down, .int .i64 x.l.first, .int .i64 x.l.next, .int .i64 (cx x.c 0), .int .i64 (cx x.c 1), .int .i64 (cx x.c 2), .int .i64 (cx x.c 3), .int .i64 (cx x.c 4), .int .i64 (cx x.c 5), .int .i64 (cx x.c 6), .int .i64 (cx x.c 7)] 32 (0, 0))) w.heap.size [.slice a.m.A x.s.a.s.length a.m.ca, .slice a.m.B x.s.a.t.length a.m.cb, .int .i64 x.s.a.cap, .bool x.s.a.down, .slice a.m.C x.s.b.s.length a.m.cc, .slice a.m.D x.s.b.t.length a.m.cd, .int .i64 x.s.b.cap, .bool x.s.b.down, .int .i64 x.s.n, .slice a.A x.l.dev.s.length a.ca, .slice a.B x.l.dev.t.length a.cb, .int .i64 x.l.dev.cap, .bool x.l.dev.down, .int .i64 x.l.first, .int .i64 x.l.next, .int .i64 (cx x.c 0), .int .i64 (cx x.c 1), .int .i64 (cx x.c 2), .int .i64 (cx x.c 3), .int .i64 (cx x.c 4), .int .i64 (cx x.c 5), .int .i64 (cx x.c 6), .int .i64 (cx x.c 7)] := VB.box (old_alloc (new_plain rfl))
  have hb : VB ((w.alloc (.cells #[.slice a.m.A x.s.a.s.length a.m.ca, .slice a.m.B x.s.a.t.length a.m.cb, .int .i64 x.s.a.cap, .bool x.s.a.down, .slice a.m.C x.s.b.s.length a.m.cc, .slice a.m.D x.s.b.t.length a.m.cd, .int .i64 x.s.b.cap, .bool x.s.b.down, .int .i64 x.s.n, .slice a.A x.l.dev.s.length a.ca, .slice a.B x.l.dev.t.length a.cb, .int .i64 x.l.dev.cap, .bool x.l.dev.down, .int .i64 x.l.first, .int .i64 x.l.next, .int .i64 (cx x.c 0), .int .i64 (cx x.c 1), .int .i64 (cx x.c 2), .int .i64 (cx x.c 3), .int .i64 (cx x.c 4), .int .i64 (cx x.c 5), .int .i64 (cx x.c 6), .int .i64 (cx x.c 7)] 32 (0, 0))).alloc (.cells #[.slice b.m.A x.s.a.s.length b.m.ca, .slice b.m.B x.s.a.t.length b.m.cb, .int .i64 x.s.a.cap, .bool x.s.a.down, .slice b.m.C x.s.b.s.length b.m.cc, .slice b.m.D x.s.b.t.length b.m.cd, .int .i64 x.s.b.cap, .bool x.s.b.down, .int .i64 x.s.n, .slice b.A x.l.dev.s.length b.ca, .slice b.B x.l.dev.t.length b.cb, .int .i64 x.l.dev.cap, .bool x.l.dev.down, .int .i64 x.l.first, .int .i64 x.l.next, .int .i64 (cx x.c 0), .int .i64 (cx x.c 1), .int .i64 (cx x.c 2), .int .i64 (cx x.c 3), .int .i64 (cx x.c 4), .int .i64 (cx x.c 5), .int .i64 (cx x.c 6), .int .i64 (cx x.c 7)] 32 (0, 0))) (w.heap.size + 1) [.slice b.m.A x.s.a.s.length b.m.ca, .slice b.m.B x.s.a.t.length b.m.cb, .int .i64 x.s.a.cap, .bool x.s.a.down, .slice b.m.C x.s.b.s.length b.m.cc, .slice b.m.D x.s.b.t.length b.m.cd, .int .i64 x.s.b.cap, .bool x.s.b.down, .int .i64 x.s.n, .slice b.A x.l.dev.s.length b.ca, .slice b.B x.l.dev.t.length b.cb, .int .i64 x.l.dev.cap, .bool x.l.dev.down, .int .i64 x.l.first, .int .i64 x.l.next, .int .i64 (cx x.c 0), .int .i64 (cx x.c 1), .int .i64 (cx x.c 2), .int .i64 (cx x.c 3), .int .i64 (cx x.c 4), .int .i64 (cx x.c 5), .int .i64 (cx x.c 6), .int .i64 (cx x.c 7)] := VB.box (new_plain (by simp))
  have heq := fun w => run_eight x.c x.c h.hc h.hc w true (by simp)
  have pq0 := (ha).at 15 rfl
  have pq1 := (ha).at 16 rfl
  have pq2 := (ha).at 17 rfl
  have pq3 := (ha).at 18 rfl
  have pq4 := (ha).at 19 rfl
  have pq5 := (ha).at 20 rfl
  have pq6 := (ha).at 21 rfl
  have pq7 := (ha).at 22 rfl
  have rq0 := (hb).at 15 rfl
  have rq1 := (hb).at 16 rfl
  have rq2 := (hb).at 17 rfl
  have rq3 := (hb).at 18 rfl
  have rq4 := (hb).at 19 rfl
  have rq5 := (hb).at 20 rfl
  have rq6 := (hb).at 21 rfl
  have rq7 := (hb).at 22 rfl
  have xq0 := (ha).at 9 rfl
  have xq1 := (ha).at 10 rfl
  have xq2 := (ha).at 11 rfl
  have xq3 := (ha).at 12 rfl
  have xq4 := (ha).at 13 rfl
  have xq5 := (ha).at 14 rfl
  have yq0 := (hb).at 9 rfl
  have yq1 := (hb).at 10 rfl
  have yq2 := (hb).at 11 rfl
  have yq3 := (hb).at 12 rfl
  have yq4 := (hb).at 13 rfl
  have yq5 := (hb).at 14 rfl
  go_wp2_with fail
  refine (lsame_true a.A a.B b.A b.B a.ca a.cb b.ca b.cb x.l.dev.s x.l.dev.t x.l.dev.cap x.l.dev.down x.l.first x.l.next _ (h.l.p.ab abA) (h.l.q.ab abA) (k.l.p.ab abA) (k.l.q.ab abA) (by have := h.l.np; omega) (by have := h.l.nq; omega)).mono ?_
  rintro e w1 ⟨rfl, hb1⟩
  have ha1 := ha.ab hb1
  have hb2 := hb.ab hb1
  have b1 : Ab w w1 := abA
  clear heq hb1 ha hb pq0 pq1 pq2 pq3 pq4 pq5 pq6 pq7 rq0 rq1 rq2 rq3 rq4 rq5 rq6 rq7 xq0 xq1 xq2 xq3 xq4 xq5 yq0 yq1 yq2 yq3 yq4 yq5
  have xq0 := (ha1).at 0 rfl
  have xq1 := (ha1).at 1 rfl
  have xq2 := (ha1).at 2 rfl
  have xq3 := (ha1).at 3 rfl
  have xq4 := (ha1).at 4 rfl
  have xq5 := (ha1).at 5 rfl
  have xq6 := (ha1).at 6 rfl
  have xq7 := (ha1).at 7 rfl
  have xq8 := (ha1).at 8 rfl
  have yq0 := (hb2).at 0 rfl
  have yq1 := (hb2).at 1 rfl
  have yq2 := (hb2).at 2 rfl
  have yq3 := (hb2).at 3 rfl
  have yq4 := (hb2).at 4 rfl
  have yq5 := (hb2).at 5 rfl
  have yq6 := (hb2).at 6 rfl
  have yq7 := (hb2).at 7 rfl
  have yq8 := (hb2).at 8 rfl
  go_wp2_with fail
  refine (ssame_true a.m b.m x.s _ (h.s.ab abA) (k.s.ab abA)).mono ?_
  rintro e w2 ⟨rfl, hb3⟩
  go_wp2
  go_ret
  exact ⟨rfl, abA⟩
set_option maxRecDepth 100000 in
set_option maxHeartbeats 6400000 in
theorem jtwin_any (a : JA) (x : JX) (w : World) (h : JM w a x) :
    Calls Tryz.prog 8 #[.agg #[.slice a.m.A x.s.a.s.length a.m.ca, .slice a.m.B x.s.a.t.length a.m.cb, .int .i64 x.s.a.cap, .bool x.s.a.down, .slice a.m.C x.s.b.s.length a.m.cc, .slice a.m.D x.s.b.t.length a.m.cd, .int .i64 x.s.b.cap, .bool x.s.b.down, .int .i64 x.s.n, .slice a.A x.l.dev.s.length a.ca, .slice a.B x.l.dev.t.length a.cb, .int .i64 x.l.dev.cap, .bool x.l.dev.down, .int .i64 x.l.first, .int .i64 x.l.next, .int .i64 (cx x.c 0), .int .i64 (cx x.c 1), .int .i64 (cx x.c 2), .int .i64 (cx x.c 3), .int .i64 (cx x.c 4), .int .i64 (cx x.c 5), .int .i64 (cx x.c 6), .int .i64 (cx x.c 7)]] w (RetJ w x) := by
  go_enter Tryz.func8, Tryz.ntmps8
  have hbx : VB ((w.alloc (.cells #[.slice a.m.A x.s.a.s.length a.m.ca, .slice a.m.B x.s.a.t.length a.m.cb, .int .i64 x.s.a.cap, .bool x.s.a.down, .slice a.m.C x.s.b.s.length a.m.cc, .slice a.m.D x.s.b.t.length a.m.cd, .int .i64 x.s.b.cap, .bool x.s.b.down, .int .i64 x.s.n, .slice a.A x.l.dev.s.length a.ca, .slice a.B x.l.dev.t.length a.cb, .int .i64 x.l.dev.cap, .bool x.l.dev.down, .int .i64 x.l.first, .int .i64 x.l.next, .int .i64 (cx x.c 0), .int .i64 (cx x.c 1), .int .i64 (cx x.c 2), .int .i64 (cx x.c 3), .int .i64 (cx x.c 4), .int .i64 (cx x.c 5), .int .i64 (cx x.c 6), .int .i64 (cx x.c 7)] 32 (0, 0))).alloc (.cells #[.slice none 0 0, .slice none 0 0, .int .i64 0, .bool false, .slice none 0 0, .slice none 0 0, .int .i64 0, .bool false, .int .i64 0, .slice none 0 0, .slice none 0 0, .int .i64 0, .bool false, .int .i64 0, .int .i64 0, .int .i64 0, .int .i64 0, .int .i64 0, .int .i64 0, .int .i64 0, .int .i64 0, .int .i64 0, .int .i64 0] 32 (0, 0))) w.heap.size [.slice a.m.A x.s.a.s.length a.m.ca, .slice a.m.B x.s.a.t.length a.m.cb, .int .i64 x.s.a.cap, .bool x.s.a.down, .slice a.m.C x.s.b.s.length a.m.cc, .slice a.m.D x.s.b.t.length a.m.cd, .int .i64 x.s.b.cap, .bool x.s.b.down, .int .i64 x.s.n, .slice a.A x.l.dev.s.length a.ca, .slice a.B x.l.dev.t.length a.cb, .int .i64 x.l.dev.cap, .bool x.l.dev.down, .int .i64 x.l.first, .int .i64 x.l.next, .int .i64 (cx x.c 0), .int .i64 (cx x.c 1), .int .i64 (cx x.c 2), .int .i64 (cx x.c 3), .int .i64 (cx x.c 4), .int .i64 (cx x.c 5), .int .i64 (cx x.c 6), .int .i64 (cx x.c 7)] := VB.box (old_alloc (new_plain rfl))
  have hrx : VB ((w.alloc (.cells #[.slice a.m.A x.s.a.s.length a.m.ca, .slice a.m.B x.s.a.t.length a.m.cb, .int .i64 x.s.a.cap, .bool x.s.a.down, .slice a.m.C x.s.b.s.length a.m.cc, .slice a.m.D x.s.b.t.length a.m.cd, .int .i64 x.s.b.cap, .bool x.s.b.down, .int .i64 x.s.n, .slice a.A x.l.dev.s.length a.ca, .slice a.B x.l.dev.t.length a.cb, .int .i64 x.l.dev.cap, .bool x.l.dev.down, .int .i64 x.l.first, .int .i64 x.l.next, .int .i64 (cx x.c 0), .int .i64 (cx x.c 1), .int .i64 (cx x.c 2), .int .i64 (cx x.c 3), .int .i64 (cx x.c 4), .int .i64 (cx x.c 5), .int .i64 (cx x.c 6), .int .i64 (cx x.c 7)] 32 (0, 0))).alloc (.cells #[.slice none 0 0, .slice none 0 0, .int .i64 0, .bool false, .slice none 0 0, .slice none 0 0, .int .i64 0, .bool false, .int .i64 0, .slice none 0 0, .slice none 0 0, .int .i64 0, .bool false, .int .i64 0, .int .i64 0, .int .i64 0, .int .i64 0, .int .i64 0, .int .i64 0, .int .i64 0, .int .i64 0, .int .i64 0, .int .i64 0] 32 (0, 0))) (w.heap.size + 1) [.slice none 0 0, .slice none 0 0, .int .i64 0, .bool false, .slice none 0 0, .slice none 0 0, .int .i64 0, .bool false, .int .i64 0, .slice none 0 0, .slice none 0 0, .int .i64 0, .bool false, .int .i64 0, .int .i64 0, .int .i64 0, .int .i64 0, .int .i64 0, .int .i64 0, .int .i64 0, .int .i64 0, .int .i64 0, .int .i64 0] := VB.box (new_plain (by simp))
  have hrv := hrx.var rfl
  go_upto_region 1 with fail
  refine wp_region_held_drew (by kernel_rfl) (S := fun w' => Ab w w' ∧ VB w' w.heap.size [.slice a.m.A x.s.a.s.length a.m.ca, .slice a.m.B x.s.a.t.length a.m.cb, .int .i64 x.s.a.cap, .bool x.s.a.down, .slice a.m.C x.s.b.s.length a.m.cc, .slice a.m.D x.s.b.t.length a.m.cd, .int .i64 x.s.b.cap, .bool x.s.b.down, .int .i64 x.s.n, .slice a.A x.l.dev.s.length a.ca, .slice a.B x.l.dev.t.length a.cb, .int .i64 x.l.dev.cap, .bool x.l.dev.down, .int .i64 x.l.first, .int .i64 x.l.next, .int .i64 (cx x.c 0), .int .i64 (cx x.c 1), .int .i64 (cx x.c 2), .int .i64 (cx x.c 3), .int .i64 (cx x.c 4), .int .i64 (cx x.c 5), .int .i64 (cx x.c 6), .int .i64 (cx x.c 7)] ∧ Var w' (w.heap.size + 1) 23) ?_ (fun hHeld => ?_)
  · exact ⟨abA, hbx.ab abA, hrv.ab abA⟩
  (refine wpAnyH_take (i := 0) (v := ?_) rfl (by kernel_rfl) (by kernel_rfl) (by kernel_rfl) (fun _ _ _ h => h) (Or.inl ⟨by kernel_rfl, ?_⟩) (by assumption) ?_
   rotate_left
   · (intro w hSw; (try dsimp only at hSw); go_simp; (try with_reducible rfl))
   (try simp only [Act.put, stA, st0, st1]))
  (refine wpAnyH_take (i := 1) (v := .agg #[.slice a.m.A x.s.a.s.length a.m.ca, .slice a.m.B x.s.a.t.length a.m.cb, .int .i64 x.s.a.cap, .bool x.s.a.down, .slice a.m.C x.s.b.s.length a.m.cc, .slice a.m.D x.s.b.t.length a.m.cd, .int .i64 x.s.b.cap, .bool x.s.b.down, .int .i64 x.s.n]) rfl (by kernel_rfl) (by kernel_rfl) (by kernel_rfl) (fun _ _ _ h => h) (yieldsIf_load_mid (by kernel_rfl) _ _ rfl _ 0 rfl [.slice a.m.A x.s.a.s.length a.m.ca, .slice a.m.B x.s.a.t.length a.m.cb, .int .i64 x.s.a.cap, .bool x.s.a.down, .slice a.m.C x.s.b.s.length a.m.cc, .slice a.m.D x.s.b.t.length a.m.cd, .int .i64 x.s.b.cap, .bool x.s.b.down, .int .i64 x.s.n] _ (fun w hSw => VB.rangeAt (hSw.2.1) 0 9) Tryz.underlying27 rfl (by kernel_rfl)) (by assumption) ?_
   (try simp only [Act.put, stA, st0, st1]))
  (refine wpAnyH_take (i := 3) (v := ?_) rfl (by kernel_rfl) (by kernel_rfl) (by kernel_rfl) (fun _ _ _ h => h) (Or.inl ⟨by kernel_rfl, ?_⟩) (by assumption) ?_
   rotate_left
   · (intro w hSw; (try dsimp only at hSw); go_simp; (try with_reducible rfl))
   (try simp only [Act.put, stA, st0, st1]))
  (refine wpAnyH_take (i := 4) (v := .agg #[.slice a.A x.l.dev.s.length a.ca, .slice a.B x.l.dev.t.length a.cb, .int .i64 x.l.dev.cap, .bool x.l.dev.down, .int .i64 x.l.first, .int .i64 x.l.next]) rfl (by kernel_rfl) (by kernel_rfl) (by kernel_rfl) (fun _ _ _ h => h) (yieldsIf_load_mid (by kernel_rfl) _ _ rfl _ 9 rfl [.slice a.A x.l.dev.s.length a.ca, .slice a.B x.l.dev.t.length a.cb, .int .i64 x.l.dev.cap, .bool x.l.dev.down, .int .i64 x.l.first, .int .i64 x.l.next] _ (fun w hSw => VB.rangeAt (hSw.2.1) 9 6) Tryz.underlying29 rfl (by kernel_rfl)) (by assumption) ?_
   (try simp only [Act.put, stA, st0, st1]))
  (refine wpAnyH_take (i := 6) (v := ?_) rfl (by kernel_rfl) (by kernel_rfl) (by kernel_rfl) (fun _ _ _ h => h) (Or.inl ⟨by kernel_rfl, ?_⟩) (by assumption) ?_
   rotate_left
   · (intro w hSw; (try dsimp only at hSw); go_simp; (try with_reducible rfl))
   (try simp only [Act.put, stA, st0, st1]))
  (refine wpAnyH_take (i := 7) (v := .agg #[.int .i64 (cx x.c 0), .int .i64 (cx x.c 1), .int .i64 (cx x.c 2), .int .i64 (cx x.c 3), .int .i64 (cx x.c 4), .int .i64 (cx x.c 5), .int .i64 (cx x.c 6), .int .i64 (cx x.c 7)]) rfl (by kernel_rfl) (by kernel_rfl) (by kernel_rfl) (fun _ _ _ h => h) (yieldsIf_load_mid (by kernel_rfl) _ _ rfl _ 15 rfl [.int .i64 (cx x.c 0), .int .i64 (cx x.c 1), .int .i64 (cx x.c 2), .int .i64 (cx x.c 3), .int .i64 (cx x.c 4), .int .i64 (cx x.c 5), .int .i64 (cx x.c 6), .int .i64 (cx x.c 7)] _ (fun w hSw => VB.rangeAt (hSw.2.1) 15 8) Tryz.underlying30 rfl (by kernel_rfl)) (by assumption) ?_
   (try simp only [Act.put, stA, st0, st1]))
  (refine wpAnyH_ready (rs := [2]) (by kernel_rfl) (by simp) ?_)
  refine AllReadyH.cons rfl (fun K hK => ?_) AllReadyH.nil
  (go_simp
   ((go_at_call 34)
    refine (stwin_any a.m x.s _ (h.s.ab abA)).mono ?_
    rintro e w5 ⟨r5, k, hr5, rfl, hM5, hb5⟩
    obtain rfl : r5 = x.s := hr5.out
    clear hr5)
   (try go_wp2_with fail)
   (refine hK.out _ _ ?_ (fun hHeld => ?_)
    · (try dsimp only); exact ⟨hHeld.1.trans hb5, hHeld.2.1.ab hb5, hHeld.2.2.ab hb5⟩
    clear hK K
    (try simp only [Act.put, stA, st0, st1])))
  (refine wpAnyH_ready (rs := [5]) (by kernel_rfl) (by simp) ?_)
  refine AllReadyH.cons rfl (fun K hK => ?_) AllReadyH.nil
  (go_simp
   ((go_at_call 35)
    refine (ltwin_any a.A a.B a.ca a.cb x.l.dev.s x.l.dev.t x.l.dev.cap x.l.dev.down x.l.first x.l.next _ (h.l.p.ab hHeld.1) (h.l.q.ab hHeld.1) h.l.lp h.l.lq h.l.np h.l.nq).mono ?_
    rintro e w6 ⟨⟨⟨s6, t6, cp6, dn6⟩, f6, n6⟩, D, E, cd, ce, hr6, rfl, oD, oE, hb6⟩
    dsimp only at oD oE)
   (try go_wp2_with fail)
   (refine hK.out _ _ ?_ (fun hHeld => ?_)
    · (try dsimp only); exact ⟨hHeld.1.trans hb6, hHeld.2.1.ab hb6, hHeld.2.2.ab hb6⟩
    clear hK K
    (try simp only [Act.put, stA, st0, st1])))
  (refine wpAnyH_take (i := 8) (v := ?_) rfl (by kernel_rfl) (by kernel_rfl) (by kernel_rfl) (fun _ _ _ h => h) (Or.inl ⟨by kernel_rfl, ?_⟩) (by assumption) ?_
   rotate_left
   · (intro w hSw; (try dsimp only at hSw); go_simp; (try with_reducible rfl))
   (try simp only [Act.put, stA, st0, st1]))
  (refine wpAnyH_ready (rs := [9]) (by kernel_rfl) (by simp) ?_)
  refine AllReadyH.cons rfl (fun K hK => ?_) AllReadyH.nil
  ((try simp only [Act.put, List.getElem_toArray, List.getElem_cons_succ, List.getElem_cons_zero, stA, st0, st1])
   refine if_go (by rfl) ?_
   refine wp_stJ _ _ rfl rfl rfl hHeld.2.2 rfl rfl ?_
   intro w9 h9
   (refine hK.out _ _ ?_ (fun hHeld => ?_)
    · (try dsimp only); exact ⟨h9.ab w hHeld.1 (by omega), hHeld.2.1.mid h9.m (by omega), h9.v.var rfl⟩
    clear hK K
    (try simp only [Act.put, stA, st0, st1])))
  refine wpAnyH_done (by kernel_rfl) ?_ _
  go_wp2
  refine bodyPost_ret (res_J1 Tryz.results8 _ rfl h9.v rfl) rfl ?_
  have HR : (⟨⟨s6, t6, cp6, dn6⟩, f6, n6⟩ : Wal.Log) = x.l := hr6.out
  have hl : s6.length ≤ 1000000 ∧ t6.length ≤ 1000000 := by
    have h1 := h.l.np
    have h2 := h.l.nq
    rw [← HR] at h1 h2
    exact ⟨h1, h2⟩
  exact ⟨⟨x.s, ⟨⟨s6, t6, cp6, dn6⟩, f6, n6⟩, x.c⟩, ⟨k, D, E, cd, ce⟩, Lib.hid (by rw [HR]), rfl, ⟨h9.slm (hM5.zero.ab hb6), ⟨h9.rb _ _ _ oD.rb.zero, h9.rb _ _ _ oE.rb.zero, oD.le, oE.le, hl.1, hl.2⟩, h.hc⟩, h9.ab w abA (by omega)⟩
/-- Devices greater than the statements consider. -/
def greatJ (x : JX) : Prop := Slots.great x.s ∨ great4B x.l.dev.s.length x.l.dev.t.length = true
set_option maxRecDepth 100000 in
set_option maxHeartbeats 1600000 in
theorem jgreat_any (a : JA) (x : JX) (w : World) (ls : x.l.dev.s.length ≤ 9223372036854775807) (lt : x.l.dev.t.length ≤ 9223372036854775807) (b : Bool) (hb : greatJ x ↔ b = true) :
    Calls Tryz.prog 7 #[.agg #[.slice a.m.A x.s.a.s.length a.m.ca, .slice a.m.B x.s.a.t.length a.m.cb, .int .i64 x.s.a.cap, .bool x.s.a.down, .slice a.m.C x.s.b.s.length a.m.cc, .slice a.m.D x.s.b.t.length a.m.cd, .int .i64 x.s.b.cap, .bool x.s.b.down, .int .i64 x.s.n, .slice a.A x.l.dev.s.length a.ca, .slice a.B x.l.dev.t.length a.cb, .int .i64 x.l.dev.cap, .bool x.l.dev.down, .int .i64 x.l.first, .int .i64 x.l.next, .int .i64 (cx x.c 0), .int .i64 (cx x.c 1), .int .i64 (cx x.c 2), .int .i64 (cx x.c 3), .int .i64 (cx x.c 4), .int .i64 (cx x.c 5), .int .i64 (cx x.c 6), .int .i64 (cx x.c 7)]] w fun e w' => e = .returned (.bool b) ∧ Ab w w' := by
  go_enter Tryz.func7, Tryz.ntmps7
  have hbx : VB (w.alloc (.cells #[.slice a.m.A x.s.a.s.length a.m.ca, .slice a.m.B x.s.a.t.length a.m.cb, .int .i64 x.s.a.cap, .bool x.s.a.down, .slice a.m.C x.s.b.s.length a.m.cc, .slice a.m.D x.s.b.t.length a.m.cd, .int .i64 x.s.b.cap, .bool x.s.b.down, .int .i64 x.s.n, .slice a.A x.l.dev.s.length a.ca, .slice a.B x.l.dev.t.length a.cb, .int .i64 x.l.dev.cap, .bool x.l.dev.down, .int .i64 x.l.first, .int .i64 x.l.next, .int .i64 (cx x.c 0), .int .i64 (cx x.c 1), .int .i64 (cx x.c 2), .int .i64 (cx x.c 3), .int .i64 (cx x.c 4), .int .i64 (cx x.c 5), .int .i64 (cx x.c 6), .int .i64 (cx x.c 7)] 32 (0, 0))) w.heap.size [.slice a.m.A x.s.a.s.length a.m.ca, .slice a.m.B x.s.a.t.length a.m.cb, .int .i64 x.s.a.cap, .bool x.s.a.down, .slice a.m.C x.s.b.s.length a.m.cc, .slice a.m.D x.s.b.t.length a.m.cd, .int .i64 x.s.b.cap, .bool x.s.b.down, .int .i64 x.s.n, .slice a.A x.l.dev.s.length a.ca, .slice a.B x.l.dev.t.length a.cb, .int .i64 x.l.dev.cap, .bool x.l.dev.down, .int .i64 x.l.first, .int .i64 x.l.next, .int .i64 (cx x.c 0), .int .i64 (cx x.c 1), .int .i64 (cx x.c 2), .int .i64 (cx x.c 3), .int .i64 (cx x.c 4), .int .i64 (cx x.c 5), .int .i64 (cx x.c 6), .int .i64 (cx x.c 7)] := VB.box (new_plain rfl)
  have HB := Lib.hid hb
  clear hb
  have xq0 := (hbx).at 0 rfl
  have xq1 := (hbx).at 1 rfl
  have xq2 := (hbx).at 2 rfl
  have xq3 := (hbx).at 3 rfl
  have xq4 := (hbx).at 4 rfl
  have xq5 := (hbx).at 5 rfl
  have xq6 := (hbx).at 6 rfl
  have xq7 := (hbx).at 7 rfl
  have xq8 := (hbx).at 8 rfl
  by_cases hg : Slots.great x.s
  · obtain rfl : b = true := HB.out.1 (.inl hg)
    have HG := Lib.hid hg
    clear hg
    go_wp2_with fail
    refine (sgreat_yes a.m x.s _ HG.out).mono ?_
    rintro e w1 ⟨rfl, hb1⟩
    go_wp2
    go_ret
    exact ⟨rfl, abA⟩
  · have HG := Lib.hid hg
    clear hg
    go_wp2_with fail
    refine (sgreat_no a.m x.s _ HG.out).mono ?_
    rintro e w1 ⟨rfl, hb1⟩
    have v1 := hbx.ab hb1
    have b1 : Ab w w1 := abA
    clear hbx hb1 xq0 xq1 xq2 xq3 xq4 xq5 xq6 xq7 xq8
    have xq0 := (v1).at 9 rfl
    have xq1 := (v1).at 10 rfl
    have xq2 := (v1).at 11 rfl
    have xq3 := (v1).at 12 rfl
    have xq4 := (v1).at 13 rfl
    have xq5 := (v1).at 14 rfl
    go_wp2_with fail
    refine (great4_any a.A a.B a.ca a.cb x.l.dev.s x.l.dev.t x.l.dev.cap x.l.dev.down _ ls lt).mono ?_
    rintro e w2 ⟨rfl, hb2⟩
    have hv : great4B x.l.dev.s.length x.l.dev.t.length = b := by
      cases b with
      | true => exact (HB.out.2 rfl).resolve_left HG.out
      | false =>
        cases h : great4B x.l.dev.s.length x.l.dev.t.length with
        | true => exact absurd (HB.out.1 (.inr h)) (by simp)
        | false => rfl
    rw [hv]
    go_wp2
    go_ret
    exact ⟨rfl, abA⟩
end Go.Proofs.YthgcfjhnnhigoaaGreat
