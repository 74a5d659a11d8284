/- DeltaLeast, walked. Own work. -/
import Derived.Test.YtbhhjbmpcpjcnaaDlAlive
import Derived.Test.YtbhhjbmpcpjcnaaDlLawA
set_option linter.unusedVariables false
set_option linter.unusedSimpArgs false
namespace Go.Proofs.Ytbhhjbmpcpjcnaa
open Go.RowKit

/-- What a least delta is good for. -/
structure Dl.Good (s T : List UInt8) (l : List Dl.Part) (c : Int) : Prop where
  ap : Dl.apply s l = (T, 0)
  ck : Dl.check l s.length = 0
  co : Dl.cost l = (c, 0)
  le : c ≤ 1 + T.length
  nil : T.length = 0 → c = 0
  best : ∀ os, Dl.check os s.length = 0 → Dl.out s os = T → c ≤ Dl.sum os
  part : Dl.has s T = true → c ≤ 3
theorem Dl.good_of {s T : List UInt8} {f : Nat → Int} {gf : Nat → Nat} {l : List Dl.Part} (hs : s.length ≤ 2000) (hT : T.length ≤ 200) (h : Dl.Tab s T f gf 0) (m : Dl.Mk s T f gf 0 l) : Dl.Good s T l (f 0) := by
  obtain ⟨g1, g2, g3, g4⟩ := m.good hs (by omega) h
  have hv : Dl.valid l = 0 := Dl.valid_zero.2 ⟨by omega, fun x hx => (g1 x hx).1⟩
  have hc : Dl.check l s.length = 0 := Dl.check_zero.2 ⟨hv, fun x hx => (g1 x hx).2⟩
  have hn := h.nonneg T.length 0 (by omega) (Nat.le_refl _)
  rw [List.drop_zero] at g3
  refine ⟨?_, hc, ?_, hn.2.1, hn.2.2, fun os h1 h2 => ?_, fun hh => ?_⟩
  · unfold Dl.apply
    rw [if_neg (by omega), if_pos hc, if_neg (by rw [g3]; omega), g3]
  · unfold Dl.cost
    rw [if_pos hv, g2]
  · have hk := Dl.check_zero.1 h1
    exact h.best os 0 (Nat.zero_le _) (fun x hx => ⟨(Dl.valid_zero.1 hk.1).2 x hx, hk.2 x hx⟩) h2
  · by_cases h0 : T.length = 0
    · have := hn.2.2 h0; omega
    · have hg := (h.long 0 (Nat.zero_le _) (by omega)).max T.length (by simp) (by rw [List.drop_zero, List.take_length]; exact hh)
      have := h.copy 0 T.length (Nat.le_refl _) (by omega) (by omega) hg
      rw [Nat.zero_add, h.last] at this
      omega
/-- What Make returns for a base and a target that are small. -/
def RetLs (s T : List UInt8) (w : World) (e : Ending) (w' : World) : Prop := ∃ (P : Option Addr) (cp : Nat) (ps : List PM) (c : Int), e = .returned (.tuple #[.slice P ps.length cp, .int .i64 0]) ∧ Pts w' P cp ps ∧ Hid (Dl.Good s T (ps.map PM.d) c) ∧ Ab w w'
theorem make_ls (A D : Option Addr) (c d : Nat) (s T : List UInt8) (w : World) (hM : MaxL w) (hs : RB w 0 A s) (ht : RB w 0 D T) (hc : s.length ≤ c) (hd : T.length ≤ d) (hA : A = none → c = 0) (hsl : s.length ≤ 80) (htl : T.length ≤ 80) :
    Calls Try.prog 13 #[.slice A s.length c, .slice D T.length d] w (RetLs s T w) := by
  refine (make_any A D c d s T w hM hs ht hc hd hA (by omega) (by omega)).mono ?_
  rintro e w' ⟨P, cp, ps, er, rfl, ho, hb, hr⟩
  have hr := hr.out
  rw [if_neg (by omega)] at hr
  obtain ⟨rfl, f, gf, h1, h2⟩ := hr
  have hl : ps.length ≤ 80 := by
    have := (h2.good (by omega) (by omega) h1).2.2.2
    simp at this; omega
  exact ⟨P, cp, ps, f 0, rfl, ho.pts (by omega), Lib.hid (Dl.good_of (by omega) (by omega) h1 h2), hb⟩
/-- Where Apply has no error. -/
theorem apply_ok {s : List UInt8} {l : List Dl.Part} {L : List UInt8} (h : Dl.apply s l = (L, 0)) : Dl.check l s.length = 0 ∧ Dl.out s l = L ∧ Dl.cost l = (Dl.sum l, 0) := by
  unfold Dl.apply at h
  split at h
  · cases h
  · split at h
    · rename_i hc
      split at h
      · cases h
      · injection h with h1 h2
        refine ⟨hc, h1, ?_⟩
        unfold Dl.cost
        rw [if_pos (Dl.check_zero.1 hc).1]
    · rename_i hc
      injection h with h1 h2
      exact absurd h2 hc
/-- The result of the second comparison. -/
def Dl.S9 (x : Int) (a b : List UInt8) (v : Value) : Prop := ∃ r : Bool, v = .bool r ∧ (r = true → x = 0 ∧ a = b)
def Dl.S13 (x : Int) (a : List UInt8) (v : Value) : Prop := ∃ r : Bool, v = .bool r ∧ (r = true → x = 0 ∧ a.length ≤ 80)
set_option maxRecDepth 100000 in
set_option maxHeartbeats 16000000 in
theorem least_walk (B : Option Addr) (cb_ : Nat) (s : List UInt8) (D : Option Addr) (d : Nat) (T : List UInt8) (A : Option Addr) (c : Nat) (xs : List PM) (at_ n : Int) (W : World) (hM : MaxL W) (hs : RB W 0 B s) (hcb : s.length ≤ cb_) (hsl : s.length ≤ 9223372036854775807) (hB : B = none → cb_ = 0)
    (ht : RB W 0 D T) (hcd : T.length ≤ d) (htl : T.length ≤ 9223372036854775807) (h : Pts W A c xs) (ha0 : -9223372036854775808 ≤ at_) (ha1 : at_ ≤ 9223372036854775807) (hn0 : -9223372036854775808 ≤ n) (hn1 : n ≤ 9223372036854775807) :
    Calls Try.prog 7 #[.slice B s.length cb_, .slice D T.length d, .slice A xs.length c, .int .i64 at_, .int .i64 n] W (RetTrue W) := by
  have TV := Lib.hid (fun w' (k : Ab W w') => dalive_any w' (hM.ab k))
  by_cases h1 : s.length ≤ 80
  · have k1 : ¬ (80 : Int) < (s.length : Int) := by omega
    by_cases h2 : T.length ≤ 80
    · have k2 : ¬ (80 : Int) < (T.length : Int) := by omega
      have TG := fun w' (k : Ab W w') => dgreat_any A c xs w' (h.ab k)
      have HX := Lib.hid (⟨hM, hs, ht, h⟩ : MaxL W ∧ RB W 0 B s ∧ RB W 0 D T ∧ Pts W A c xs)
      clear hM hs ht h
      go_enter Try.func7, Try.ntmps7
      go_wp2_with fail
      refine (TG _ abA).mono ?_
      rintro e w0 ⟨v, rfl, hv, hb0⟩
      have b0 : Ab W w0 := Ab.trans (by exact abA) hb0
      clear TG hb0 hv
      cases v with
      | true =>
        go_wp2_with fail
        refine (TV.out _ b0).mono ?_
        rintro e wz ⟨rfl, hbz⟩
        go_wp2
        go_ret
        exact ⟨rfl, Ab.trans b0 hbz⟩
      | false =>
        have hs8 : s.length ≤ 80 := h1
        have TA := make_ls B D cb_ d s T w0 (HX.out.1.ab b0) (HX.out.2.1.ab b0) (HX.out.2.2.1.ab b0) hcb hcd hB h1 h2
        go_wp2_with fail
        refine TA.mono ?_
        rintro e w1 ⟨P, cp, ps, c0, rfl, hP, hG, hb1⟩
        have b1 := b0.trans hb1
        have TB := dapply_any B cb_ s P cp ps w1 (HX.out.2.1.ab b1) hcb hsl hP
        rw [hG.out.ap] at TB
        clear TA
        go_wp2_with fail
        refine TB.mono ?_
        rintro e w2 ⟨E1, ce1, L1, hL1, rfl, o1, hb2⟩
        obtain rfl : L1 = T := hL1.out
        have b2 := b1.trans hb2
        have TC := cost_any P cp ps w2 (hP.ab hb2)
        rw [hG.out.co] at TC
        clear TB hL1
        go_wp2_with fail
        refine TC.mono ?_
        rintro e w3 ⟨rfl, hb3⟩
        have b3 := b2.trans hb3
        have TS : ∀ w', Ab w3 w' → Calls Try.prog 16 #[.slice E1 L1.length ce1, .slice D L1.length d] w' (fun e w'' => e = .returned (.bool true) ∧ ∃ n, w'' = w'.drewN n) := fun w' k =>
          (sameBytes_all E1 D ce1 d L1 L1 w' ((o1.rb.zero.ab hb3).ab k) ((HX.out.2.2.1.ab b3).ab k) (by omega) (by omega)).mono fun _ _ h => ⟨by rw [h.1, beq_self_eq_true], h.2⟩
        have TK : ∀ w', Ab w3 w' → Calls Try.prog 21 #[.slice P ps.length cp, .int .i64 (s.length : Int)] w' (fun e w'' => e = .returned (.int .i64 0) ∧ Ab w' w'') := fun w' k => by
          have := rdcheck_any P cp ps s.length w' ((hP.ab (hb2.trans hb3)).ab k)
          rw [hG.out.ck] at this
          exact this
        have hcl := hG.out.le
        have hw1 : IntKind.i64.wrap ((L1.length : Int) + 1) = (L1.length : Int) + 1 := IntWalk.i64_in _ (by omega)
        have hcl' : ¬ (L1.length : Int) + 1 < c0 := by omega
        clear TC
        go_upto_region 6 with fail
        go_cut [95] (fun v wx => v = .bool false ∧ Ab w3 wx)
        case first =>
          go_wp2_with fail
          refine (TS _ abA).mono ?_
          rintro e w4 ⟨rfl, q4, rfl⟩
          by_cases h0 : L1.length = 0
          · have h0' : ¬ (0 : Int) < (L1.length : Int) := by omega
            clear h0
            go_wp2_with fail
            refine (TK _ abA).mono ?_
            rintro e w5 ⟨rfl, hb5⟩
            go_wp2_with fail
            go_meet
            exact ⟨rfl, abA⟩
          · have h0' : (0 : Int) < (L1.length : Int) := by omega
            clear h0
            go_wp2_with fail
            refine (TK _ abA).mono ?_
            rintro e w5 ⟨rfl, hb5⟩
            go_wp2_with fail
            go_meet
            exact ⟨by first | rfl | exact congrArg Value.bool (decide_eq_false (by omega)), abA⟩
        obtain ⟨rfl, hbx⟩ := hcut
        rename World => w5
        have b5 : Ab W w5 := b3.trans hbx
        clear TS TK hP o1 hcl hw1 hcl' hbx b0 b1 b2 b3 hb1 hb2 hb3
        have TB := dapply_any B cb_ s A c xs w5 (HX.out.2.1.ab b5) hcb hsl (HX.out.2.2.2.ab b5)
        have hap : Hid (∀ L, Dl.apply s (xs.map PM.d) = (L, 0) → Dl.check (xs.map PM.d) s.length = 0 ∧ Dl.out s (xs.map PM.d) = L ∧ Dl.cost (xs.map PM.d) = (Dl.sum (xs.map PM.d), 0)) := Lib.hid (fun L h => apply_ok h)
        have hal := apply_len s (xs.map PM.d)
        generalize Dl.apply s (xs.map PM.d) = qa at *
        obtain ⟨La, xa⟩ := qa
        go_wp2_with fail
        refine TB.mono ?_
        rintro e w6 ⟨E, ce, L6, hL6, rfl, o6, hb6⟩
        obtain rfl : L6 = La := hL6.out
        have b6 := b5.trans hb6
        have r6 := o6.rb.zero
        have l6 := o6.le
        (try simp only at hal)
        have hok : Hid (xa = 0 → Dl.check (xs.map PM.d) s.length = 0 ∧ Dl.out s (xs.map PM.d) = L6 ∧ Dl.cost (xs.map PM.d) = (Dl.sum (xs.map PM.d), 0)) := Lib.hid (fun h => hap.out L6 (by rw [h]))
        clear TB hL6 o6 hap b5 hb6
        have TS := sameBytes_all E D ce d L6 L1 w6 r6 (HX.out.2.2.1.ab b6) (by omega) (by omega)
        go_upto_region 9 with fail
        go_cut [108] (fun v wx => Dl.S9 xa L6 L1 v ∧ Ab w6 wx)
        case first =>
          by_cases hx0 : xa = 0
          · subst hx0
            by_cases heq : L6 = L1
            · have hbe : (L6 == L1) = true := by rw [heq]; exact beq_self_eq_true _
              rw [hbe] at TS
              have HEQ := Lib.hid heq
              clear hbe heq
              go_wp2_with fail
              refine TS.mono ?_
              rintro e w7 ⟨rfl, q7, rfl⟩
              go_wp2_with fail
              go_meet
              exact ⟨⟨true, rfl, fun _ => ⟨rfl, HEQ.out⟩⟩, abA⟩
            · have hbe : (L6 == L1) = false := by simpa using heq
              rw [hbe] at TS
              clear hbe heq
              go_wp2_with fail
              refine TS.mono ?_
              rintro e w7 ⟨rfl, q7, rfl⟩
              go_wp2_with fail
              go_meet
              exact ⟨⟨false, rfl, fun h => Bool.noConfusion h⟩, abA⟩
          · have hne : (xa == 0) = false := by simpa using hx0
            clear TS
            go_wp2_with fail
            go_meet
            exact ⟨⟨false, rfl, fun h => Bool.noConfusion h⟩, abA⟩
        obtain ⟨⟨r9, rfl, hq9⟩, hbx⟩ := hcut
        rename World => w7
        have b7 : Ab W w7 := b6.trans hbx
        have r7 := r6.ab hbx
        have HQ := Lib.hid hq9
        clear TS hq9 hbx b6 r6
        go_upto_if 108 with fail
        go_cut [19, 20] from 109 to 120 (fun _ _ wx => Ab w7 wx)
        case first =>
          cases r9 with
          | false =>
            refine wp_cond (t := false) (by first | rfl | (simp [Act.eval]; done)) ?_
            go_wp2_with fail
            go_meet
            exact Ab.refl _
          | true =>
            refine wp_cond (t := true) (by first | rfl | (simp [Act.eval]; done)) ?_
            have hk := Lib.hid (hok.out (HQ.out rfl).1)
            have hlt : ¬ Dl.sum (xs.map PM.d) < c0 := by have := hG.out.best _ hk.out.1 (hk.out.2.1.trans (HQ.out rfl).2); omega
            have TC := cost_any A c xs w7 (HX.out.2.2.2.ab b7)
            rw [hk.out.2.2] at TC
            clear hk
            generalize Dl.sum (xs.map PM.d) = so at *
            go_wp2_with fail
            refine TC.mono ?_
            rintro e w8 ⟨rfl, hb8⟩
            go_wp2_with fail
            go_meet
            exact hb8
        rename World => w8
        have b8 : Ab W w8 := b7.trans hcut
        have r8 := r7.ab hcut
        clear HQ b7 r7 hcut
        go_upto_region 13 with fail
        go_cut [127] (fun v wx => Dl.S13 xa L6 v ∧ wx = w8)
        case first =>
          by_cases hx0 : xa = 0
          · subst hx0
            by_cases h80 : L6.length ≤ 80
            · have h80' : (L6.length : Int) ≤ 80 := by omega
              have HEQ := Lib.hid h80
              go_wp2_with fail
              go_meet
              exact ⟨⟨true, rfl, fun _ => ⟨rfl, HEQ.out⟩⟩, rfl⟩
            · have h80' : ¬ (L6.length : Int) ≤ 80 := by omega
              go_wp2_with fail
              go_meet
              exact ⟨⟨false, rfl, fun h => Bool.noConfusion h⟩, rfl⟩
          · have hne : (xa == 0) = false := by simpa using hx0
            go_wp2_with fail
            go_meet
            exact ⟨⟨false, rfl, fun h => Bool.noConfusion h⟩, rfl⟩
        obtain ⟨⟨r13, rfl, hq13⟩, hwe⟩ := hcut
        subst hwe
        rename World => w8
        have HQ := Lib.hid hq13
        clear hq13
        go_upto_if 127 with fail
        go_cut [21, 22, 23, 24, 25, 26] from 128 to 158 (fun _ _ _ _ _ _ wx => Ab w8 wx)
        case first =>
          cases r13 with
          | false =>
            refine wp_cond (t := false) (by first | rfl | (simp [Act.eval]; done)) ?_
            go_wp2_with fail
            go_meet
            exact Ab.refl _
          | true =>
            refine wp_cond (t := true) (by first | rfl | (simp [Act.eval]; done)) ?_
            have hk := Lib.hid (hok.out (HQ.out rfl).1)
            have h80 := (HQ.out rfl).2
            have TX2 := make_ls B E cb_ ce s L6 w8 (HX.out.1.ab b8) (HX.out.2.1.ab b8) r8 hcb l6 hB h1 h80
            go_wp2_with fail
            refine TX2.mono ?_
            rintro e y1 ⟨P2, c2, ps2, x2, rfl, hP2, hG2, hd1⟩
            have TY2 := cost_any P2 c2 ps2 y1 hP2
            rw [hG2.out.co] at TY2
            have hxy : ¬ Dl.sum (xs.map PM.d) < x2 := by have := hG2.out.best _ hk.out.1 hk.out.2.1; omega
            clear TX2 hG2
            go_wp2_with fail
            refine TY2.mono ?_
            rintro e y2 ⟨rfl, hd2⟩
            have TZ2 := cost_any A c xs y2 (HX.out.2.2.2.ab (b8.trans (hd1.trans hd2)))
            rw [hk.out.2.2] at TZ2
            clear hk
            generalize Dl.sum (xs.map PM.d) = so at *
            clear TY2 hP2
            go_wp2_with fail
            refine TZ2.mono ?_
            rintro e y3 ⟨rfl, hd3⟩
            go_wp2_with fail
            go_meet
            exact (hd1.trans hd2).trans hd3
        rename World => w9
        have b9 : Ab W w9 := b8.trans hcut
        clear HQ b8 r8 hcut hok hG hal l6
        by_cases a1 : at_ < 0
        · go_wp2_with fail
          refine (TV.out _ b9).mono ?_
          rintro e wz ⟨rfl, hbz⟩
          go_wp2
          go_ret
          exact ⟨rfl, Ab.trans b9 hbz⟩
        by_cases a2 : n < 0
        · have a1' : ¬ at_ < 0 := a1
          go_wp2_with fail
          refine (TV.out _ b9).mono ?_
          rintro e wz ⟨rfl, hbz⟩
          go_wp2
          go_ret
          exact ⟨rfl, Ab.trans b9 hbz⟩
        by_cases a3 : (s.length : Int) < at_
        · go_wp2_with fail
          refine (TV.out _ b9).mono ?_
          rintro e wz ⟨rfl, hbz⟩
          go_wp2
          go_ret
          exact ⟨rfl, Ab.trans b9 hbz⟩
        obtain ⟨ak, rfl⟩ : ∃ ak : Nat, at_ = (ak : Int) := ⟨at_.toNat, by omega⟩
        obtain ⟨nk, rfl⟩ : ∃ nk : Nat, n = (nk : Int) := ⟨n.toNat, by omega⟩
        have hws : IntKind.i64.wrap ((s.length : Int) - (ak : Int)) = (s.length : Int) - (ak : Int) := IntWalk.i64_in _ (by omega)
        by_cases a4 : (s.length : Int) - (ak : Int) < (nk : Int)
        · go_wp2_with fail
          refine (TV.out _ b9).mono ?_
          rintro e wz ⟨rfl, hbz⟩
          go_wp2
          go_ret
          exact ⟨rfl, Ab.trans b9 hbz⟩
        obtain ⟨pn, hpn⟩ : ∃ pn : Nat, pn = ak + nk := ⟨_, rfl⟩
        have hwa : IntKind.i64.wrap ((ak : Int) + (nk : Int)) = (pn : Int) := by rw [show (pn : Int) = (ak : Int) + (nk : Int) by omega]; exact IntWalk.i64_in _ (by omega)
        have M : ∀ w0, (Instr.slice 22 (.slice B s.length cb_) (some (.int .i64 (ak : Int))) (some (.int .i64 (pn : Int))) none).run Try.prog w0 = .ok (.slice (cutA B cb_ ak) nk (cb_ - ak)) w0 := fun w0 => by
          have := run_cuts ak pn .i64 .i64 B s.length cb_ w0 (by omega) (by omega)
          rwa [show pn - ak = nk by omega] at this
        have hml : ((s.drop ak).take nk).length = nk := by simp; omega
        have TX := make_ls B (cutA B cb_ ak) cb_ (cb_ - ak) s ((s.drop ak).take nk) w9 (HX.out.1.ab b9) (HX.out.2.1.ab b9) (((HX.out.2.1.cut ak cb_ hcb).take nk).ab b9) hcb (by omega) hB (by omega) (by omega)
        rw [hml] at TX
        have hpart := Lib.hid (Dl.has_part s ak nk)
        have HPN := Lib.hid hpn
        have hpl : ak < pn + 1 := by omega
        clear hpn hml
        generalize (s.drop ak).take nk = tt at *
        go_wp2_with fail
        refine TX.mono ?_
        rintro e z1 ⟨P3, c3, ps3, x3, rfl, hP3, hG3, hc1⟩
        have hb1 := Ab.trans b9 hc1
        have TY := cost_any P3 c3 ps3 z1 hP3
        rw [hG3.out.co] at TY
        have hx3 := hG3.out.part hpart.out
        clear TX hG3 M hpart
        go_wp2_with fail
        refine TY.mono ?_
        rintro e z2 ⟨rfl, hc2⟩
        have hb2 := hb1.trans hc2
        clear TY hP3
        go_wp2_with fail
        refine (TV.out _ hb2).mono ?_
        rintro e wz ⟨rfl, hbz⟩
        go_wp2
        go_ret
        exact ⟨rfl, Ab.trans hb2 hbz⟩
    · have k2 : (80 : Int) < (T.length : Int) := by omega
      go_enter Try.func7, Try.ntmps7
      go_wp2_with fail
      refine (TV.out _ abA).mono ?_
      rintro e wz ⟨rfl, hbz⟩
      go_wp2
      go_ret
      exact ⟨rfl, Ab.trans (by exact abA) hbz⟩
  · have k1 : (80 : Int) < (s.length : Int) := by omega
    go_enter Try.func7, Try.ntmps7
    go_wp2_with fail
    refine (TV.out _ abA).mono ?_
    rintro e wz ⟨rfl, hbz⟩
    go_wp2
    go_ret
    exact ⟨rfl, Ab.trans (by exact abA) hbz⟩
end Go.Proofs.Ytbhhjbmpcpjcnaa
