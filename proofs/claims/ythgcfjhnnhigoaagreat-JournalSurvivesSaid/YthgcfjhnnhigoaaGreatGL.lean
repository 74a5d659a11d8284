/- The texts JRefH, JRefI, JRefJ, JRefK, JRefL, one behind the other. Own work. -/
import Derived.Test.YthgcfjhnnhigoaaGreatGK
import Derived.Test.YthgcfjhnnhigoaaGreatGP
import Derived.Test.YthgcfjhnnhigoaaGreatGY
import Derived.Test.YthgcfjhnnhigoaaGreatGR
import Derived.Test.YthgcfjhnnhigoaaGreatGN
set_option linter.unusedVariables false
set_option linter.unusedSimpArgs false
/- Check of the reference of layer 6, walked. Own work. -/
namespace Go.Proofs.YthgcfjhnnhigoaaGreat
open Go.RowKit
open Slots (Sl)

namespace Jour
theorem baseR_state {s : Sl} {n : Int} {c : List Int} (h : (n, c, true) = baseR s) : State c := by
  have e : base s = some (n, c) := by rw [baseR_base, ← h]; rfl
  exact (base_state e).2.2.1
theorem check_slots {x : JX} {g : Option (List Frame.Rec)} (h : Slots.bad x.s) : check x g = 8 := if_pos (.inl h)
theorem check_log {x : JX} : check x none = 8 := by
  unfold check
  split
  · rfl
  · split
    · rfl
    · exact if_neg fun k => absurd (Prod.mk.inj k).2 (by decide)
theorem check_next {x : JX} {g : Option (List Frame.Rec)} (h : x.s.n ≠ Slots.nextOf (Slots.newest x.s)) : check x g = 8 := if_pos (.inr h)
theorem check_base {x : JX} {g : Option (List Frame.Rec)} (h : (baseR x.s).2.2 = false) : check x g = 8 := by
  unfold check
  split
  · rfl
  · rw [baseR_base, h]; rfl
theorem check_far {x : JX} {rs : List Frame.Rec} {n : Int} {c d : List Int} {ok : Bool} (h : ¬ Slots.bad x.s) (hn : x.s.n = Slots.nextOf (Slots.newest x.s)) (hb : (n, c, true) = baseR x.s) (hr : (d, ok) = replayR c n rs) :
    check x (some rs) = if x.l.first ≤ n ∧ n ≤ x.l.next ∧ ok = true ∧ d = x.c then 0 else 8 := by
  unfold check
  rw [if_neg (fun k => k.elim h (fun k => k hn)), baseR_base, ← hb]
  simp only [if_true]
  have e : replayM c n x.l (some rs) = if n < x.l.first ∨ x.l.next < n then (zeros, 8) else if ok = true then (d, 0) else (zeros, 8) := by
    show (if n < x.l.first ∨ x.l.next < n then _ else _) = _
    split
    · rfl
    · rw [replayR_replay, ← hr]
      cases ok <;> rfl
  by_cases h1 : n < x.l.first ∨ x.l.next < n
  · rw [if_neg (by rw [e, if_pos h1]; exact fun k => absurd (Prod.mk.inj k).2 (by decide)), if_neg (by omega)]
  · cases ok with
    | false => rw [if_neg (by rw [e, if_neg h1]; exact fun k => absurd (Prod.mk.inj k).2 (by decide)), if_neg (by simp)]
    | true =>
      by_cases hd : d = x.c
      · rw [if_pos (by rw [e, if_neg h1, hd]; rfl), if_pos ⟨by omega, by omega, rfl, hd⟩]
      · rw [if_neg (by rw [e, if_neg h1]; exact fun k => hd (Prod.mk.inj k).1), if_neg (fun k => hd k.2.2.2)]
end Jour
set_option maxRecDepth 100000 in
set_option maxHeartbeats 6400000 in
theorem jrcheck_any (a : JA) (x : JX) (w : World) (h : JM w a x) (g : Option (List Frame.Rec)) (hi : Wal.Is x.l g) :
    Calls Tryz.prog 21 #[.agg #[.slice a.m.A x.s.a.s.length a.m.ca, .slice a.m.B x.s.a.t.length a.m.cb, .int .i64 x.s.a.cap, .bool x.s.a.down, .slice a.m.C x.s.b.s.length a.m.cc, .slice a.m.D x.s.b.t.length a.m.cd, .int .i64 x.s.b.cap, .bool x.s.b.down, .int .i64 x.s.n, .slice a.A x.l.dev.s.length a.ca, .slice a.B x.l.dev.t.length a.cb, .int .i64 x.l.dev.cap, .bool x.l.dev.down, .int .i64 x.l.first, .int .i64 x.l.next, .int .i64 (cx x.c 0), .int .i64 (cx x.c 1), .int .i64 (cx x.c 2), .int .i64 (cx x.c 3), .int .i64 (cx x.c 4), .int .i64 (cx x.c 5), .int .i64 (cx x.c 6), .int .i64 (cx x.c 7)]] w (RetInt w (Jour.check x g)) := by
  go_enter Tryz.func21, Tryz.ntmps21
  have hbx : VB (w.alloc (.cells #[.slice a.m.A x.s.a.s.length a.m.ca, .slice a.m.B x.s.a.t.length a.m.cb, .int .i64 x.s.a.cap, .bool x.s.a.down, .slice a.m.C x.s.b.s.length a.m.cc, .slice a.m.D x.s.b.t.length a.m.cd, .int .i64 x.s.b.cap, .bool x.s.b.down, .int .i64 x.s.n, .slice a.A x.l.dev.s.length a.ca, .slice a.B x.l.dev.t.length a.cb, .int .i64 x.l.dev.cap, .bool x.l.dev.down, .int .i64 x.l.first, .int .i64 x.l.next, .int .i64 (cx x.c 0), .int .i64 (cx x.c 1), .int .i64 (cx x.c 2), .int .i64 (cx x.c 3), .int .i64 (cx x.c 4), .int .i64 (cx x.c 5), .int .i64 (cx x.c 6), .int .i64 (cx x.c 7)] 32 (0, 0))) w.heap.size [.slice a.m.A x.s.a.s.length a.m.ca, .slice a.m.B x.s.a.t.length a.m.cb, .int .i64 x.s.a.cap, .bool x.s.a.down, .slice a.m.C x.s.b.s.length a.m.cc, .slice a.m.D x.s.b.t.length a.m.cd, .int .i64 x.s.b.cap, .bool x.s.b.down, .int .i64 x.s.n, .slice a.A x.l.dev.s.length a.ca, .slice a.B x.l.dev.t.length a.cb, .int .i64 x.l.dev.cap, .bool x.l.dev.down, .int .i64 x.l.first, .int .i64 x.l.next, .int .i64 (cx x.c 0), .int .i64 (cx x.c 1), .int .i64 (cx x.c 2), .int .i64 (cx x.c 3), .int .i64 (cx x.c 4), .int .i64 (cx x.c 5), .int .i64 (cx x.c 6), .int .i64 (cx x.c 7)] := VB.box (new_plain rfl)
  have xq0 := (hbx).at 0 rfl
  have xq1 := (hbx).at 1 rfl
  have xq2 := (hbx).at 2 rfl
  have xq3 := (hbx).at 3 rfl
  have xq4 := (hbx).at 4 rfl
  have xq5 := (hbx).at 5 rfl
  have xq6 := (hbx).at 6 rfl
  have xq7 := (hbx).at 7 rfl
  have xq8 := (hbx).at 8 rfl
  go_wp2_with fail
  refine (srcheck_any a.m x.s _ (h.s.ab abA)).mono ?_
  rintro e w1 ⟨er, hr, rfl, hb1⟩
  have v1 := hbx.ab hb1
  have b1 : Ab w w1 := abA
  clear hbx hb1 xq0 xq1 xq2 xq3 xq4 xq5 xq6 xq7 xq8
  by_cases hbad : Slots.bad x.s
  · obtain rfl : er = 8 := hr.out.trans (Slots.check_bad hbad)
    have HM := Lib.hid (Jour.check_slots (g := g) hbad)
    clear hr hbad
    go_wp2
    go_ret
    exact ⟨8, Lib.hid HM.out.symm, rfl, abA⟩
  obtain rfl : er = 0 := hr.out.trans (Slots.check_ok hbad)
  have HG := Lib.hid (Slots.good_of hbad)
  have HNB := Lib.hid hbad
  clear hr hbad
  have xq0 := (v1).at 9 rfl
  have xq1 := (v1).at 10 rfl
  have xq2 := (v1).at 11 rfl
  have xq3 := (v1).at 12 rfl
  have xq4 := (v1).at 13 rfl
  have xq5 := (v1).at 14 rfl
  go_wp2_with fail
  refine (refwcheck_any a.A a.B a.ca a.cb x.l.dev.s x.l.dev.t x.l.dev.cap x.l.dev.down x.l.first x.l.next _ (h.l.p.ab abA) (h.l.q.ab abA) h.l.lp h.l.lq h.l.np h.l.nq g hi).mono ?_
  rintro e w2 ⟨er2, hr2, rfl, hb2⟩
  have v2 := v1.ab hb2
  have b2 : Ab w w2 := b1.trans hb2
  clear v1 hb2 xq0 xq1 xq2 xq3 xq4 xq5 b1
  cases g with
  | none =>
    obtain rfl : er2 = 8 := hr2.out
    clear hr2
    go_wp2
    go_ret
    exact ⟨8, Lib.hid Jour.check_log.symm, rfl, abA⟩
  | some rs =>
    obtain rfl : er2 = 0 := hr2.out
    clear hr2
    have hgd : Wal.Good x.l rs := hi
    have HW := Lib.hid hgd
    have xq0 := (v2).at 0 rfl
    have xq1 := (v2).at 1 rfl
    have xq2 := (v2).at 2 rfl
    have xq3 := (v2).at 3 rfl
    have xq4 := (v2).at 4 rfl
    have xq5 := (v2).at 5 rfl
    have xq6 := (v2).at 6 rfl
    have xq7 := (v2).at 7 rfl
    have xq8 := (v2).at 8 rfl
    go_wp2_with fail
    refine (srnewest_any a.m x.s _ (h.s.ab abA) (by have := HG.out.a.size; have := HG.out.a.tail; rw [this]; simpa using HG.out.a.size) (by have := HG.out.b.tail; rw [this]; simpa using HG.out.b.size)).mono ?_
    rintro e w3 ⟨⟨rn, data⟩, ok, A, c, hr, rfl, hR, hc, hval, hb3⟩
    dsimp only at hR hc
    have v3 := v2.ab hb3
    have b3 : Ab w w3 := b2.trans hb3
    clear v2 hb3 xq0 xq1 xq2 xq3 xq4 xq5 xq6 xq7 xq8 b2 hR
    have vd : VB (w3.alloc (.cells #[.int .i64 rn, .slice A data.length c] 108 (0, 0))) w3.heap.size [.int .i64 rn, .slice A data.length c] := VB.box (new_plain rfl)
    have v3 := v3.ab ((Ab.refl w3).alloc (.cells #[.int .i64 rn, .slice A data.length c] 108 (0, 0)))
    have p0 := vd.at 0 rfl
    cases ok with
    | false =>
      have HNX := Lib.hid (show (1 : Int) = Slots.nextOf (Slots.newest x.s) by rw [← hr.out]; rfl)
      clear hval hr
      have xq0 := (v3).at 0 rfl
      have xq1 := (v3).at 1 rfl
      have xq2 := (v3).at 2 rfl
      have xq3 := (v3).at 3 rfl
      have xq4 := (v3).at 4 rfl
      have xq5 := (v3).at 5 rfl
      have xq6 := (v3).at 6 rfl
      have xq7 := (v3).at 7 rfl
      have xq8 := (v3).at 8 rfl
      go_wp2_with fail
      refine (jrbase_any a.m x.s _ (h.s.ab abA) (by have := HG.out.a.tail; rw [this]; simpa using HG.out.a.size) (by have := HG.out.b.tail; rw [this]; simpa using HG.out.b.size)).mono ?_
      rintro e w4 ⟨n0, c0, ok0, hbs, rfl, hl0, hb4⟩
      have v4 := v3.ab hb4
      have b4 : Ab w w4 := (b3.alloc _).trans hb4
      clear v3 hb4 b3 vd p0 xq0 xq1 xq2 xq3 xq4 xq5 xq6 xq7 xq8
      have HBS := Lib.hid hbs.out
      clear hbs
      cases ok0 with
      | false =>
        have HM := Lib.hid (Jour.check_base (g := some rs) (by rw [← HBS.out]))
        clear HBS
        go_wp2
        go_ret
        exact ⟨8, Lib.hid HM.out.symm, rfl, abA⟩
      | true =>
        have z4 := v4.lt
        have A4 := (Ab.refl w4).alloc (.cells #[.int .i64 (cx c0 0), .int .i64 (cx c0 1), .int .i64 (cx c0 2), .int .i64 (cx c0 3), .int .i64 (cx c0 4), .int .i64 (cx c0 5), .int .i64 (cx c0 6), .int .i64 (cx c0 7)] 30 (0, 0))
        have l8 := (v4.ab A4).at 8 rfl
        have l13 := (v4.ab A4).at 13 rfl
        have l14 := (v4.ab A4).at 14 rfl
        by_cases hn : x.s.n = 1
        · have HN := Lib.hid hn
          have d1 : (x.s.n != 1) = false := by simpa using hn
          clear hn
          by_cases h1 : n0 < x.l.first
          · have d2 : decide (n0 < x.l.first) = true := by simpa using h1
            have H1 := Lib.hid h1
            clear h1
            have HM := Lib.hid ((Jour.check_far (d := (Jour.replayR c0 n0 rs).1) (ok := (Jour.replayR c0 n0 rs).2) HNB.out (by rw [HN.out, HNX.out]) HBS.out rfl).trans (if_neg (by have := H1.out; omega)))
            clear HBS
            go_wp2
            go_ret
            exact ⟨8, Lib.hid HM.out.symm, rfl, abA⟩
          · have d2 : decide (n0 < x.l.first) = false := by simpa using h1
            have H1 := Lib.hid h1
            clear h1
            by_cases h2 : x.l.next < n0
            · have d3 : decide (x.l.next < n0) = true := by simpa using h2
              have H2 := Lib.hid h2
              clear h2
              have HM := Lib.hid ((Jour.check_far (d := (Jour.replayR c0 n0 rs).1) (ok := (Jour.replayR c0 n0 rs).2) HNB.out (by rw [HN.out, HNX.out]) HBS.out rfl).trans (if_neg (by have := H2.out; omega)))
              clear HBS
              go_wp2
              go_ret
              exact ⟨8, Lib.hid HM.out.symm, rfl, abA⟩
            · have d3 : decide (x.l.next < n0) = false := by simpa using h2
              have H2 := Lib.hid h2
              clear h2
              have HST := Lib.hid (Jour.baseR_state HBS.out)
              have v5 : VB (w4.alloc (.cells #[.int .i64 (cx c0 0), .int .i64 (cx c0 1), .int .i64 (cx c0 2), .int .i64 (cx c0 3), .int .i64 (cx c0 4), .int .i64 (cx c0 5), .int .i64 (cx c0 6), .int .i64 (cx c0 7)] 30 (0, 0))) w4.heap.size [.int .i64 (cx c0 0), .int .i64 (cx c0 1), .int .i64 (cx c0 2), .int .i64 (cx c0 3), .int .i64 (cx c0 4), .int .i64 (cx c0 5), .int .i64 (cx c0 6), .int .i64 (cx c0 7)] := VB.box (new_plain rfl)
              have yq0 := (v5).at 0 rfl
              have yq1 := (v5).at 1 rfl
              have yq2 := (v5).at 2 rfl
              have yq3 := (v5).at 3 rfl
              have yq4 := (v5).at 4 rfl
              have yq5 := (v5).at 5 rfl
              have yq6 := (v5).at 6 rfl
              have yq7 := (v5).at 7 rfl
              have xq0 := ((v4.ab A4)).at 9 rfl
              have xq1 := ((v4.ab A4)).at 10 rfl
              have xq2 := ((v4.ab A4)).at 11 rfl
              have xq3 := ((v4.ab A4)).at 12 rfl
              have xq4 := ((v4.ab A4)).at 13 rfl
              have xq5 := ((v4.ab A4)).at 14 rfl
              go_wp2_with fail
              refine (jrreplayed_any c0 hl0 HST.out a.A a.B a.ca a.cb x.l.dev.s x.l.dev.t x.l.dev.cap x.l.dev.down x.l.first x.l.next _ (h.l.p.ab abA) (h.l.q.ab abA) h.l.lp h.l.lq (by have := HW.out.room; simp only [Disk.Dev.size] at this; omega) n0 rs _ HW.out.scan).mono ?_
              rintro e w5 ⟨d, ok5, hd5, rfl, hl5, hb5⟩
              have v6 := (v4.ab A4).ab hb5
              have v7 := v5.ab hb5
              have b5 : Ab w w5 := (b4.trans A4).trans hb5
              have HF := Lib.hid (Jour.check_far HNB.out (by rw [HN.out, HNX.out]) HBS.out hd5.out)
              clear v5 v4 A4 hb5 yq0 yq1 yq2 yq3 yq4 yq5 yq6 yq7 xq0 xq1 xq2 xq3 xq4 xq5 l8 l13 l14 hd5 b4
              have g7 := v7.g
              have z7 := v7.lt
              have ne1 : w.heap.size ≠ w4.heap.size := by omega
              have ne2 : w4.heap.size ≠ w.heap.size := by omega
              have yq0 := (v7).at 0 rfl
              have yq1 := (v7).at 1 rfl
              have yq2 := (v7).at 2 rfl
              have yq3 := (v7).at 3 rfl
              have yq4 := (v7).at 4 rfl
              have yq5 := (v7).at 5 rfl
              have yq6 := (v7).at 6 rfl
              have yq7 := (v7).at 7 rfl
              have xq0 := (v6).at 15 rfl
              have xq1 := (v6).at 16 rfl
              have xq2 := (v6).at 17 rfl
              have xq3 := (v6).at 18 rfl
              have xq4 := (v6).at 19 rfl
              have xq5 := (v6).at 20 rfl
              have xq6 := (v6).at 21 rfl
              have xq7 := (v6).at 22 rfl
              cases ok5 with
              | false =>
                have HM := Lib.hid (HF.out.trans (if_neg (by simp)))
                clear HF
                go_wp2
                go_ret
                exact ⟨8, Lib.hid HM.out.symm, rfl, abA⟩
              | true =>
                by_cases hdc : d = x.c
                · have HM := Lib.hid (HF.out.trans (if_pos ⟨by have := H1.out; omega, by have := H2.out; omega, rfl, hdc⟩))
                  have heq := fun w => run_eight d x.c hl5 h.hc w true (decide_eq_true hdc)
                  clear HF hdc
                  go_wp2
                  go_ret
                  exact ⟨0, Lib.hid HM.out.symm, rfl, abA⟩
                · have HM := Lib.hid (HF.out.trans (if_neg fun k => hdc k.2.2.2))
                  have heq := fun w => run_eight d x.c hl5 h.hc w false (decide_eq_false hdc)
                  clear HF hdc
                  go_wp2
                  go_ret
                  exact ⟨8, Lib.hid HM.out.symm, rfl, abA⟩
        · have HN := Lib.hid hn
          have d1 : (x.s.n != 1) = true := by simpa using hn
          clear hn
          have HM := Lib.hid (Jour.check_next (g := some rs) (by rw [← HNX.out]; exact HN.out))
          clear HBS
          go_wp2
          go_ret
          exact ⟨8, Lib.hid HM.out.symm, rfl, abA⟩
    | true =>
      have HNX := Lib.hid (show rn + 1 = Slots.nextOf (Slots.newest x.s) by rw [← hr.out]; rfl)
      have hv := hval rfl
      have wn : IntKind.i64.wrap (rn + 1) = rn + 1 := IntWalk.i64_in _ (by have := hv.1; have := hv.2; simp only at *; omega)
      clear hval hr hv
      have xq0 := (v3).at 0 rfl
      have xq1 := (v3).at 1 rfl
      have xq2 := (v3).at 2 rfl
      have xq3 := (v3).at 3 rfl
      have xq4 := (v3).at 4 rfl
      have xq5 := (v3).at 5 rfl
      have xq6 := (v3).at 6 rfl
      have xq7 := (v3).at 7 rfl
      have xq8 := (v3).at 8 rfl
      go_wp2_with fail
      refine (jrbase_any a.m x.s _ (h.s.ab abA) (by have := HG.out.a.tail; rw [this]; simpa using HG.out.a.size) (by have := HG.out.b.tail; rw [this]; simpa using HG.out.b.size)).mono ?_
      rintro e w4 ⟨n0, c0, ok0, hbs, rfl, hl0, hb4⟩
      have v4 := v3.ab hb4
      have b4 : Ab w w4 := (b3.alloc _).trans hb4
      clear v3 hb4 b3 vd p0 xq0 xq1 xq2 xq3 xq4 xq5 xq6 xq7 xq8
      have HBS := Lib.hid hbs.out
      clear hbs
      cases ok0 with
      | false =>
        have HM := Lib.hid (Jour.check_base (g := some rs) (by rw [← HBS.out]))
        clear HBS
        go_wp2
        go_ret
        exact ⟨8, Lib.hid HM.out.symm, rfl, abA⟩
      | true =>
        have z4 := v4.lt
        have A4 := (Ab.refl w4).alloc (.cells #[.int .i64 (cx c0 0), .int .i64 (cx c0 1), .int .i64 (cx c0 2), .int .i64 (cx c0 3), .int .i64 (cx c0 4), .int .i64 (cx c0 5), .int .i64 (cx c0 6), .int .i64 (cx c0 7)] 30 (0, 0))
        have l8 := (v4.ab A4).at 8 rfl
        have l13 := (v4.ab A4).at 13 rfl
        have l14 := (v4.ab A4).at 14 rfl
        by_cases hn : x.s.n = (rn + 1)
        · have HN := Lib.hid hn
          have d1 : (x.s.n != (rn + 1)) = false := by simpa using hn
          clear hn
          by_cases h1 : n0 < x.l.first
          · have d2 : decide (n0 < x.l.first) = true := by simpa using h1
            have H1 := Lib.hid h1
            clear h1
            have HM := Lib.hid ((Jour.check_far (d := (Jour.replayR c0 n0 rs).1) (ok := (Jour.replayR c0 n0 rs).2) HNB.out (by rw [HN.out, HNX.out]) HBS.out rfl).trans (if_neg (by have := H1.out; omega)))
            clear HBS
            go_wp2
            go_ret
            exact ⟨8, Lib.hid HM.out.symm, rfl, abA⟩
          · have d2 : decide (n0 < x.l.first) = false := by simpa using h1
            have H1 := Lib.hid h1
            clear h1
            by_cases h2 : x.l.next < n0
            · have d3 : decide (x.l.next < n0) = true := by simpa using h2
              have H2 := Lib.hid h2
              clear h2
              have HM := Lib.hid ((Jour.check_far (d := (Jour.replayR c0 n0 rs).1) (ok := (Jour.replayR c0 n0 rs).2) HNB.out (by rw [HN.out, HNX.out]) HBS.out rfl).trans (if_neg (by have := H2.out; omega)))
              clear HBS
              go_wp2
              go_ret
              exact ⟨8, Lib.hid HM.out.symm, rfl, abA⟩
            · have d3 : decide (x.l.next < n0) = false := by simpa using h2
              have H2 := Lib.hid h2
              clear h2
              have HST := Lib.hid (Jour.baseR_state HBS.out)
              have v5 : VB (w4.alloc (.cells #[.int .i64 (cx c0 0), .int .i64 (cx c0 1), .int .i64 (cx c0 2), .int .i64 (cx c0 3), .int .i64 (cx c0 4), .int .i64 (cx c0 5), .int .i64 (cx c0 6), .int .i64 (cx c0 7)] 30 (0, 0))) w4.heap.size [.int .i64 (cx c0 0), .int .i64 (cx c0 1), .int .i64 (cx c0 2), .int .i64 (cx c0 3), .int .i64 (cx c0 4), .int .i64 (cx c0 5), .int .i64 (cx c0 6), .int .i64 (cx c0 7)] := VB.box (new_plain rfl)
              have yq0 := (v5).at 0 rfl
              have yq1 := (v5).at 1 rfl
              have yq2 := (v5).at 2 rfl
              have yq3 := (v5).at 3 rfl
              have yq4 := (v5).at 4 rfl
              have yq5 := (v5).at 5 rfl
              have yq6 := (v5).at 6 rfl
              have yq7 := (v5).at 7 rfl
              have xq0 := ((v4.ab A4)).at 9 rfl
              have xq1 := ((v4.ab A4)).at 10 rfl
              have xq2 := ((v4.ab A4)).at 11 rfl
              have xq3 := ((v4.ab A4)).at 12 rfl
              have xq4 := ((v4.ab A4)).at 13 rfl
              have xq5 := ((v4.ab A4)).at 14 rfl
              go_wp2_with fail
              refine (jrreplayed_any c0 hl0 HST.out a.A a.B a.ca a.cb x.l.dev.s x.l.dev.t x.l.dev.cap x.l.dev.down x.l.first x.l.next _ (h.l.p.ab abA) (h.l.q.ab abA) h.l.lp h.l.lq (by have := HW.out.room; simp only [Disk.Dev.size] at this; omega) n0 rs _ HW.out.scan).mono ?_
              rintro e w5 ⟨d, ok5, hd5, rfl, hl5, hb5⟩
              have v6 := (v4.ab A4).ab hb5
              have v7 := v5.ab hb5
              have b5 : Ab w w5 := (b4.trans A4).trans hb5
              have HF := Lib.hid (Jour.check_far HNB.out (by rw [HN.out, HNX.out]) HBS.out hd5.out)
              clear v5 v4 A4 hb5 yq0 yq1 yq2 yq3 yq4 yq5 yq6 yq7 xq0 xq1 xq2 xq3 xq4 xq5 l8 l13 l14 hd5 b4
              have g7 := v7.g
              have z7 := v7.lt
              have ne1 : w.heap.size ≠ w4.heap.size := by omega
              have ne2 : w4.heap.size ≠ w.heap.size := by omega
              have yq0 := (v7).at 0 rfl
              have yq1 := (v7).at 1 rfl
              have yq2 := (v7).at 2 rfl
              have yq3 := (v7).at 3 rfl
              have yq4 := (v7).at 4 rfl
              have yq5 := (v7).at 5 rfl
              have yq6 := (v7).at 6 rfl
              have yq7 := (v7).at 7 rfl
              have xq0 := (v6).at 15 rfl
              have xq1 := (v6).at 16 rfl
              have xq2 := (v6).at 17 rfl
              have xq3 := (v6).at 18 rfl
              have xq4 := (v6).at 19 rfl
              have xq5 := (v6).at 20 rfl
              have xq6 := (v6).at 21 rfl
              have xq7 := (v6).at 22 rfl
              cases ok5 with
              | false =>
                have HM := Lib.hid (HF.out.trans (if_neg (by simp)))
                clear HF
                go_wp2
                go_ret
                exact ⟨8, Lib.hid HM.out.symm, rfl, abA⟩
              | true =>
                by_cases hdc : d = x.c
                · have HM := Lib.hid (HF.out.trans (if_pos ⟨by have := H1.out; omega, by have := H2.out; omega, rfl, hdc⟩))
                  have heq := fun w => run_eight d x.c hl5 h.hc w true (decide_eq_true hdc)
                  clear HF hdc
                  go_wp2
                  go_ret
                  exact ⟨0, Lib.hid HM.out.symm, rfl, abA⟩
                · have HM := Lib.hid (HF.out.trans (if_neg fun k => hdc k.2.2.2))
                  have heq := fun w => run_eight d x.c hl5 h.hc w false (decide_eq_false hdc)
                  clear HF hdc
                  go_wp2
                  go_ret
                  exact ⟨8, Lib.hid HM.out.symm, rfl, abA⟩
        · have HN := Lib.hid hn
          have d1 : (x.s.n != (rn + 1)) = true := by simpa using hn
          clear hn
          have HM := Lib.hid (Jour.check_next (g := some rs) (by rw [← HNX.out]; exact HN.out))
          clear HBS
          go_wp2
          go_ret
          exact ⟨8, Lib.hid HM.out.symm, rfl, abA⟩
end Go.Proofs.YthgcfjhnnhigoaaGreat

/- New and Sync of the reference of layer 6, walked. Own work. -/
namespace Go.Proofs.YthgcfjhnnhigoaaGreat
open Go.RowKit
open Slots (Sl)

end Go.Proofs.YthgcfjhnnhigoaaGreat

/- Do of the reference of layer 6, walked. Own work. -/
namespace Go.Proofs.YthgcfjhnnhigoaaGreat
open Go.RowKit
open Slots (Sl)

end Go.Proofs.YthgcfjhnnhigoaaGreat

/- Save of the reference of layer 6, walked. Own work. -/
namespace Go.Proofs.YthgcfjhnnhigoaaGreat
open Go.RowKit
open Slots (Sl)

end Go.Proofs.YthgcfjhnnhigoaaGreat

/- Same, Twin, Great of the reference of layer 6, walked. Own work. -/
namespace Go.Proofs.YthgcfjhnnhigoaaGreat
open Go.RowKit
open Slots (Sl)

/-- Devices greater than the statements consider. -/
def greatJ (x : JX) : Prop := Slots.great x.s ∨ great4B x.l.dev.s.length x.l.dev.t.length = true
set_option maxRecDepth 100000 in
set_option maxHeartbeats 1600000 in
theorem jgreat_any (a : JA) (x : JX) (w : World) (ls : x.l.dev.s.length ≤ 9223372036854775807) (lt : x.l.dev.t.length ≤ 9223372036854775807) (b : Bool) (hb : greatJ x ↔ b = true) :
    Calls Tryz.prog 7 #[.agg #[.slice a.m.A x.s.a.s.length a.m.ca, .slice a.m.B x.s.a.t.length a.m.cb, .int .i64 x.s.a.cap, .bool x.s.a.down, .slice a.m.C x.s.b.s.length a.m.cc, .slice a.m.D x.s.b.t.length a.m.cd, .int .i64 x.s.b.cap, .bool x.s.b.down, .int .i64 x.s.n, .slice a.A x.l.dev.s.length a.ca, .slice a.B x.l.dev.t.length a.cb, .int .i64 x.l.dev.cap, .bool x.l.dev.down, .int .i64 x.l.first, .int .i64 x.l.next, .int .i64 (cx x.c 0), .int .i64 (cx x.c 1), .int .i64 (cx x.c 2), .int .i64 (cx x.c 3), .int .i64 (cx x.c 4), .int .i64 (cx x.c 5), .int .i64 (cx x.c 6), .int .i64 (cx x.c 7)]] w fun e w' => e = .returned (.bool b) ∧ Ab w w' := by
  go_enter Tryz.func7, Tryz.ntmps7
  have hbx : VB (w.alloc (.cells #[.slice a.m.A x.s.a.s.length a.m.ca, .slice a.m.B x.s.a.t.length a.m.cb, .int .i64 x.s.a.cap, .bool x.s.a.down, .slice a.m.C x.s.b.s.length a.m.cc, .slice a.m.D x.s.b.t.length a.m.cd, .int .i64 x.s.b.cap, .bool x.s.b.down, .int .i64 x.s.n, .slice a.A x.l.dev.s.length a.ca, .slice a.B x.l.dev.t.length a.cb, .int .i64 x.l.dev.cap, .bool x.l.dev.down, .int .i64 x.l.first, .int .i64 x.l.next, .int .i64 (cx x.c 0), .int .i64 (cx x.c 1), .int .i64 (cx x.c 2), .int .i64 (cx x.c 3), .int .i64 (cx x.c 4), .int .i64 (cx x.c 5), .int .i64 (cx x.c 6), .int .i64 (cx x.c 7)] 32 (0, 0))) w.heap.size [.slice a.m.A x.s.a.s.length a.m.ca, .slice a.m.B x.s.a.t.length a.m.cb, .int .i64 x.s.a.cap, .bool x.s.a.down, .slice a.m.C x.s.b.s.length a.m.cc, .slice a.m.D x.s.b.t.length a.m.cd, .int .i64 x.s.b.cap, .bool x.s.b.down, .int .i64 x.s.n, .slice a.A x.l.dev.s.length a.ca, .slice a.B x.l.dev.t.length a.cb, .int .i64 x.l.dev.cap, .bool x.l.dev.down, .int .i64 x.l.first, .int .i64 x.l.next, .int .i64 (cx x.c 0), .int .i64 (cx x.c 1), .int .i64 (cx x.c 2), .int .i64 (cx x.c 3), .int .i64 (cx x.c 4), .int .i64 (cx x.c 5), .int .i64 (cx x.c 6), .int .i64 (cx x.c 7)] := VB.box (new_plain rfl)
  have HB := Lib.hid hb
  clear hb
  have xq0 := (hbx).at 0 rfl
  have xq1 := (hbx).at 1 rfl
  have xq2 := (hbx).at 2 rfl
  have xq3 := (hbx).at 3 rfl
  have xq4 := (hbx).at 4 rfl
  have xq5 := (hbx).at 5 rfl
  have xq6 := (hbx).at 6 rfl
  have xq7 := (hbx).at 7 rfl
  have xq8 := (hbx).at 8 rfl
  by_cases hg : Slots.great x.s
  · obtain rfl : b = true := HB.out.1 (.inl hg)
    have HG := Lib.hid hg
    clear hg
    go_wp2_with fail
    refine (sgreat_yes a.m x.s _ HG.out).mono ?_
    rintro e w1 ⟨rfl, hb1⟩
    go_wp2
    go_ret
    exact ⟨rfl, abA⟩
  · have HG := Lib.hid hg
    clear hg
    go_wp2_with fail
    refine (sgreat_no a.m x.s _ HG.out).mono ?_
    rintro e w1 ⟨rfl, hb1⟩
    have v1 := hbx.ab hb1
    have b1 : Ab w w1 := abA
    clear hbx hb1 xq0 xq1 xq2 xq3 xq4 xq5 xq6 xq7 xq8
    have xq0 := (v1).at 9 rfl
    have xq1 := (v1).at 10 rfl
    have xq2 := (v1).at 11 rfl
    have xq3 := (v1).at 12 rfl
    have xq4 := (v1).at 13 rfl
    have xq5 := (v1).at 14 rfl
    go_wp2_with fail
    refine (great4_any a.A a.B a.ca a.cb x.l.dev.s x.l.dev.t x.l.dev.cap x.l.dev.down _ ls lt).mono ?_
    rintro e w2 ⟨rfl, hb2⟩
    have hv : great4B x.l.dev.s.length x.l.dev.t.length = b := by
      cases b with
      | true => exact (HB.out.2 rfl).resolve_left HG.out
      | false =>
        cases h : great4B x.l.dev.s.length x.l.dev.t.length with
        | true => exact absurd (HB.out.1 (.inr h)) (by simp)
        | false => rfl
    rw [hv]
    go_wp2
    go_ret
    exact ⟨rfl, abA⟩
end Go.Proofs.YthgcfjhnnhigoaaGreat
