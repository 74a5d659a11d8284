/- CodecBehind, walked. Own work. -/
import Derived.Test.YtllcdmohipcegaaCvLawB
import Derived.Test.YtllcdmohipcegaaCodecH
set_option linter.unusedVariables false
set_option linter.unusedSimpArgs false
namespace Go.Proofs.Ytllcdmohipcegaa
open Go.RowKit
open Codec (V)

set_option maxRecDepth 100000 in
set_option maxHeartbeats 8000000 in
theorem behind_walk (D1 : Nat) (S1 : Nat → Prop) (x : VM) (A : Option Addr) (b : List UInt8) (c : Nat) (n2 : Int) (w : World) (hx : VL D1 w S1 x) (hb : RB w 0 A b) (hc : b.length ≤ c) (lb : b.length ≤ 9223372036854775807) (hn : -9223372036854775808 ≤ n2) (hn' : n2 ≤ 9223372036854775807) :
    Calls Try.prog 7 #[x.val, .slice A b.length c, .int .i64 n2] w (RetTrue w) := by
  have wf1 := hx.wf
  have HF1 := fun w' (hk' : Ab w w') => fit_any D1 S1 x w' (hx.ab hk')
  have HE1 := Lib.hid (fun (hf : Fits x.v) w' (hk' : Ab w w') => encode_any D1 S1 x w' (hx.ab hk') hf)
  have HZ1 := Lib.hid (fun (hf : Fits x.v) w' (hk' : Ab w w') => size_any D1 S1 x w' (hx.ab hk') hf)
  obtain ⟨v1, hv1⟩ : ∃ v1, v1 = x.v := ⟨_, rfl⟩
  rw [← hv1] at HF1 HE1 HZ1 wf1
  have HV1 := Lib.hid hv1
  have HX := Lib.hid hx
  have HB := Lib.hid hb
  have WF1 := Lib.hid wf1
  clear hv1 hx hb wf1
  obtain ⟨k1, n1, A1, s1, c1, L1, l1, d1⟩ := x
  unfold VM.val VM.cells at HF1 HE1 HZ1 ⊢
  have V0 : VB (w.alloc (.cells #[.int .u8 (k1 : Int), .int .i64 n1, .slice A1 s1.length c1, .slice L1 l1.length d1] 26)) w.heap.size [.int .u8 (k1 : Int), .int .i64 n1, .slice A1 s1.length c1, .slice L1 l1.length d1] := VB.box (xs := #[.int .u8 (k1 : Int), .int .i64 n1, .slice A1 s1.length c1, .slice L1 l1.length d1]) (T := 26) (by (repeat (first | exact new_plain wnA | with_reducible refine old_alloc ?_ | with_reducible refine old_drew ?_ | with_reducible refine old_set ?_ wnA | with_reducible refine old_ab (by assumption) ?_)))
  have ab0 : Ab w (w.alloc (.cells #[.int .u8 (k1 : Int), .int .i64 n1, .slice A1 s1.length c1, .slice L1 l1.length d1] 26)) := abA
  go_enter Try.func7, Try.ntmps7
  go_wp2_with fail
  refine (HF1 _ ab0).mono ?_
  rintro e w1 ⟨r1, rfl, hr1, hb1⟩
  have ab1 := ab0.trans hb1
  have V1 := V0.ab hb1
  generalize w.heap.size = g0 at *
  clear V0 ab0 hb1 HF1
  cases r1 with
  | false =>
    clear hr1 HE1 HZ1
    go_wp2_with fail
    refine (valive_any _).mono ?_
    rintro e wz ⟨rfl, hbz⟩
    go_wp2
    go_ret
    exact ⟨rfl, ab1.trans hbz⟩
  | true =>
    obtain ⟨hc1, hf1⟩ := hr1.out rfl
    have HC1 := Lib.hid hc1
    have HFF1 := Lib.hid hf1
    clear hc1 hf1 hr1
    by_cases h3 : 200 < b.length
    · have h3' : (200 : Int) < (b.length : Int) := by omega
      clear h3 HE1 HZ1
      go_wp2_with fail
      refine (valive_any _).mono ?_
      rintro e wz ⟨rfl, hbz⟩
      go_wp2
      go_ret
      exact ⟨rfl, ab1.trans hbz⟩
    · have h3' : ¬ (200 : Int) < (b.length : Int) := by omega
      have hbl : b.length ≤ 200 := by omega
      clear h3
      obtain ⟨hk1, hl1⟩ := check_kinds HC1.out
      have HK1 := Lib.hid hk1
      have hw6 := Lib.hid (wf_kinds 6 D1 _ hk1 WF1.out)
      have HSZ : Hid (Codec.size v1 = (((Codec.enc 6 v1).length : Int), 0)) := by unfold Hid Codec.size; rw [HC1.out]; rfl
      clear hk1
      go_wp2_with (refine list_ldV (o := ⟨some 32, _, _, _, _, _⟩) _ infoV Try.underlying26 rfl rfl _ rfl rfl V1 rfl ?_)
      refine (HE1.out HFF1.out _ ab1).mono ?_
      rintro e w3 ⟨B3, e3, M3, er3, rfl, h3, O3, hb3⟩
      obtain ⟨rfl, rfl⟩ := Prod.mk.inj (h3.out.symm.trans (encode_ok HC1.out))
      have ab3 := ab1.trans hb3
      have V3 := V1.ab hb3
      clear V1 hb3 h3 ab1
      have SZ := HZ1.out HFF1.out w3 ab3
      rw [HSZ.out] at SZ
      go_wp2_with (refine list_ldV (o := ⟨some 37, _, _, _, _, _⟩) _ infoV Try.underlying26 rfl rfl _ rfl rfl V3 rfl ?_)
      refine SZ.mono ?_
      rintro e w4 ⟨rfl, hb4⟩
      have ab4 := ab3.trans hb4
      have V4 := V3.ab hb4
      have O4 := O3.keep hb4
      clear SZ V3 O3 hb4 ab3
      have HNX : Hid (∀ t, Codec.next (Codec.enc 6 v1 ++ t) = (v1, ((Codec.enc 6 v1).length : Int), 0)) := fun t => Codec.next_enc HC1.out hw6.out t
      have HCUT : Hid (∀ m, m < (Codec.enc 6 v1).length → Codec.next ((Codec.enc 6 v1).take m) = (V.zero, 0, 12)) := fun m hm => Codec.next_cut HC1.out hw6.out hm (by omega)
      obtain ⟨E, hE⟩ : ∃ E, E = Codec.enc 6 v1 := ⟨_, rfl⟩
      have HE := Lib.hid hE
      rw [← hE] at HNX HCUT hl1 O4 HSZ ⊢
      clear hE
      have hs4 := ab4.size
      go_upto_region 5 with fail
      go_wp2_with (first
        | ((at_builtin
            refine listLit (o := ⟨some 44, _, _, _, _, _⟩) rfl _ _ rfl rfl rfl (m := E) rfl (by (repeat (first | exact new_plain wnA | with_reducible refine old_alloc ?_ | with_reducible refine old_drew ?_ | with_reducible refine old_set ?_ wnA | with_reducible refine old_ab (by assumption) ?_))) (RB.ab O4.rb.zero (show Ab w4 _ from abA)) O4.le (by omega) ?_
            intro A5 d5 w5 L5 e5 b5 o5
            have oA := o5 w4.heap.size (by simp) (by simp)
            have ab5 : Ab w4 w5 := Ab.trans (by exact abA) b5
            have l5 : L5.length ≤ 3000 := by rw [e5.out]; exact hl1
            have z5 := ab5.size
            clear o5 b5))
        | ((at_builtin
            refine listApn (o := ⟨some 46, _, _, _, _, _⟩) rfl _ _ rfl rfl rfl (m := b) rfl oA z5 (RB.ab HB.out (ab4.trans ab5)) hc (by omega) ?_
            intro A6 d6 w6 L6 e6 p6
            have ab6 : Ab w4 w6 := grown_ab ab5 p6.g (fun g e => oA.low g e)
            have l6 : Hid (L6 = E ++ b) := by unfold Hid; rw [e6.out, e5.out])))
      have ab46 := ab4.trans ab6
      have V6 := V4.ab ab6
      have O6 := O4.keep ab6
      have P6 := p6.o
      have hl6 : L6.length ≤ 3200 := by rw [l6.out, List.length_append]; omega
      clear p6 e6 oA e5 ab5 z5 V4 O4 ab4 ab6 l5
      refine (next_any A6 L6 d6 _ P6.rb.zero P6.le (by omega)).mono ?_
      rintro e w7 ⟨x7, u7, er7, rfl, h7, q7, hb7⟩
      have hn7 := h7.out
      rw [l6.out, HNX.out] at hn7
      obtain ⟨e7, e8⟩ := Prod.mk.inj hn7
      obtain ⟨rfl, rfl⟩ := Prod.mk.inj e8
      have E7 := Lib.hid e7
      have ab7 := ab46.trans hb7
      have V7 := V6.ab hb7
      have O7 := O6.keep hb7
      have Z7 : VB (w7.alloc (.cells VM.zero.cells.toArray 26)) w7.heap.size VM.zero.cells := VB.box (xs := VM.zero.cells.toArray) (T := 26) (by (repeat (first | exact new_plain wnA | with_reducible refine old_alloc ?_ | with_reducible refine old_drew ?_ | with_reducible refine old_set ?_ wnA | with_reducible refine old_ab (by assumption) ?_)))
      have hs7 := V7.lt
      clear V6 O6 P6 h7 hn7 e7 e8 hb7 ab46 l6 hl6
      go_upto_region 6 with (refine list_stV (o := ⟨none, _, _, _, _, _⟩) (us := x7.cells) _ infoV rfl _ _ rfl rfl rfl Z7 rfl rfl x7.one ?_; intro w8 h8)
      have b78 : Ab w7 w8 := h8.ab w7 ((Ab.refl _).alloc _) (Nat.le_refl _)
      have X8 : VB w8 w7.heap.size x7.cells := h8.v
      have V8 := V7.ab b78
      have O8 := O7.keep b78
      have ab8 := ab7.trans b78
      have q8 := q7.ab b78
      clear h8 Z7 V7 O7 ab7 q7 b78
      have HQ := same_any (max D1 6) _ _ ⟨k1, n1, A1, s1, c1, L1, l1, d1⟩ x7 w8 ((HX.out.ab ab8).le (Nat.le_max_left _ _)) (q8.le (Nat.le_max_right _ _))
      rw [← E7.out, ← HV1.out, Codec.same_refl] at HQ
      unfold VM.val at HQ
      go_wp2_with (first
        | (refine list_ldG7 (o := ⟨some 73, _, _, _, _, _⟩) _ infoV Try.underlying26 rfl (by kernel_rfl) _ rfl rfl V8 rfl ?_)
        | (refine list_ldG7 (o := ⟨some 74, _, _, _, _, _⟩) _ infoV Try.underlying26 rfl (by kernel_rfl) _ rfl rfl X8 rfl ?_))
      refine HQ.mono ?_
      rintro e w9 ⟨rfl, hb9⟩
      have ab9 := ab8.trans hb9
      have V9 := V8.ab hb9
      have O9 := O8.keep hb9
      clear HQ V8 O8 X8 ab8 q8 hb9
      have y0 := V9.at 0 rfl
      have y3 := V9.at 3 rfl
      by_cases hk3 : k1 = 3 ∧ l1.length < 128
      · obtain ⟨hkk, hl128⟩ := hk3
        obtain ⟨P, hP0, hPl, hPk⟩ : ∃ P : Nat → Nat, P 0 = 2 ∧ P l1.length = E.length ∧ ∀ k (h : k < l1.length), ∃ m : Nat, P k ≤ E.length ∧ P k + m ≤ E.length ∧ 1 ≤ m ∧ P (k + 1) = P k + m ∧ Codec.next (E.drop (P k)) = (l1[k], (m : Int), 0) := by
          subst hkk
          have e1 := HK1.out
          have e2 := hw6.out
          have e3 := HE.out
          rw [HV1.out] at e1 e2 e3
          exact Codec.list_at e1 e2 hl128 e3 hl1
        have HP := Lib.hid hPk
        have hk3 : ((k1 : Int) == 3) = true := by rw [beq_iff_eq]; omega
        have hl3 : (l1.length : Int) < 128 := by omega
        obtain ⟨d', hd'⟩ : ∃ d', D1 = d' + 1 := by
          cases D1 with
          | zero => exact HX.out.elim
          | succ d => exact ⟨d, rfl⟩
        subst hd'
        have EX := Lib.hid HX.out.els
        clear hPk hkk
        go_upto_region 11 with fail
        go_loopw [14, 15] (fun a i w' => ∃ k : Nat, k ≤ l1.length ∧ a = .int .i64 ((P k : Nat) : Int) ∧ i = .int .i64 (k : Int) ∧ Ab w9 w') (fun _ i _ => l1.length - (intOf i).toNat)
        case atStart => exact ⟨0, Nat.zero_le _, by rw [hP0]; rfl, rfl, abA⟩
        case round =>
          obtain ⟨k, hk, rfl, rfl, hb⟩ := hrel
          rename World => w23
          have ab23 := ab9.trans hb
          have V23 := V9.ab hb
          have O23 := O9.keep hb
          have z3 := V23.at 3 rfl
          clear y0 y3 V9 O9 ab9 hk3 hl3
          by_cases hlt : k < l1.length
          · obtain ⟨m, hm1, hm2, hm3, hm4, hm5⟩ := HP.out k hlt
            have HM5 := Lib.hid hm5
            have HM4 := Lib.hid hm4
            have hki : (k : Int) < (l1.length : Int) := by omega
            have hmin : ¬ (E.length : Int) < (P k : Int) := by omega
            have hd : decide ((m : Int) < 1) = false := by rw [decide_eq_false_iff_not]; omega
            have M : ∀ w0, (Instr.slice 23 (.slice B3 E.length e3) (some (.int .i64 ((P k : Nat) : Int))) none none).run Try.prog w0 = .ok (.slice (cutA B3 e3 (P k)) (E.length - P k) (e3 - P k)) w0 := fun w0 => run_cut (P k) .i64 B3 E.length e3 w0 hm1
            have NX := next_any (cutA B3 e3 (P k)) (E.drop (P k)) (e3 - P k) w23 (O23.rb.zero.cut (P k) e3 O23.le) (by rw [List.length_drop]; have := O23.le; omega) (by rw [List.length_drop]; omega)
            rw [List.length_drop] at NX
            clear hm5 hm4
            go_wp2_with fail
            refine NX.mono ?_
            rintro e w24 ⟨x24, u24, er24, rfl, h24, q24, hb24⟩
            obtain ⟨e21, e22⟩ := Prod.mk.inj (h24.out.symm.trans HM5.out)
            obtain ⟨rfl, rfl⟩ := Prod.mk.inj e22
            have E24 := Lib.hid e21
            have ab24 := ab23.trans hb24
            have V24 := V23.ab hb24
            have O24 := O23.keep hb24
            have Z24 : VB (w24.alloc (.cells VM.zero.cells.toArray 26)) w24.heap.size VM.zero.cells := VB.box (xs := VM.zero.cells.toArray) (T := 26) (by (repeat (first | exact new_plain wnA | with_reducible refine old_alloc ?_ | with_reducible refine old_drew ?_ | with_reducible refine old_set ?_ wnA | with_reducible refine old_ab (by assumption) ?_)))
            have hs24 := V24.lt
            clear NX h24 e21 e22 M V23 O23 z3 ab23 hmin
            go_upto_region 14 with (refine list_stV (o := ⟨none, _, _, _, _, _⟩) (us := x24.cells) _ infoV rfl _ _ rfl rfl rfl Z24 rfl rfl x24.one ?_; intro w25 h25)
            have b25 : Ab w24 w25 := h25.ab w24 ((Ab.refl _).alloc _) (Nat.le_refl _)
            have X25 : VB w25 w24.heap.size x24.cells := h25.v
            have ab25 := ab24.trans b25
            have V25 := V24.ab b25
            have q25 := q24.ab b25
            clear h25 Z24 V24 q24 ab24 O24
            obtain ⟨p, ⟨k4, n4, A4, s4, c4, L4, l4, d4⟩, rfl, yv, yl, p0, p1, p2, p3⟩ := EX.out.at_ hlt
            obtain ⟨k5, n5, A5, s5, c5, L5, l5, d5⟩ := x24
            have HQ : ∀ w', Ab w25 w' → Calls Try.prog 30 #[VM.val ⟨k5, n5, A5, s5, c5, L5, l5, d5⟩, VM.val ⟨k4, n4, A4, s4, c4, L4, l4, d4⟩] w' fun e w2 => e = .returned (.bool true) ∧ Ab w' w2 := by
              intro w' hk'
              have := same_any (max 6 d') _ _ ⟨k5, n5, A5, s5, c5, L5, l5, d5⟩ ⟨k4, n4, A4, s4, c4, L4, l4, d4⟩ w' ((q25.ab hk').le (Nat.le_max_left _ _)) ((yl.ab (ab25.trans hk')).le (Nat.le_max_right _ _))
              rw [E24.out, yv, Codec.same_refl] at this
              exact this
            unfold VM.val at HQ
            have HQQ := Lib.hid HQ
            have ca := V25.at 3 rfl
            have r0 := X25.at 0 rfl
            have r1 := X25.at 1 rfl
            have r2 := X25.at 2 rfl
            have r3 := X25.at 3 rfl
            replace p0 := ab25.at p0
            replace p1 := ab25.at p1
            replace p2 := ab25.at p2
            replace p3 := ab25.at p3
            have b23 := hb.trans (hb24.trans b25)
            clear HQ yl yv X25 V25 q25
            dsimp only at p0 p1 p2 p3
            refine wp_region_held_drew (by kernel_rfl) (S := fun w' => Ab w25 w') ?_ (fun hHeld => ?_)
            · exact (Ab.refl w25).drew
            (refine rtA 0 ?_ ?_
             (try simp only [Act.put, stA, st0, st1]))
            (refine rtA 1 ?_ ?_
             (try simp only [Act.put, stA, st0, st1]))
            (refine rtA 2 ?_ ?_
             (try simp only [Act.put, stA, st0, st1]))
            (refine rtA 3 ?_ ?_
             (try simp only [Act.put, stA, st0, st1]))
            (refine rtA 4 (.bool false) ?_ (hy := by intro w hSw; go_simp; (try simp only [hd]); (try with_reducible rfl)); (try simp only [Act.put, stA, st0, st1]))
            (refine rtA 5 ?_ ?_
             (try simp only [Act.put, stA, st0, st1]))
            (refine rtA 6 ?_ ?_
             (try simp only [Act.put, stA, st0, st1]))
            (refine rtA 7 ?_ ?_ (hy := by intro w hSw; have hS1 : Ab w25 w := hSw; have z0 := hS1.at r0; have z1 := hS1.at r1; have z2 := hS1.at r2; have z3 := hS1.at r3; go_simp; (try with_reducible rfl)); (try simp only [Act.put, stA, st0, st1]))
            (refine rtA 8 ?_ ?_
             (try simp only [Act.put, stA, st0, st1]))
            (refine rtA 9 ?_ ?_ (hy := by intro w hSw; have hS1 : Ab w25 w := hSw; have z0 := hS1.at ca; go_simp; (try with_reducible rfl)); (try simp only [Act.put, stA, st0, st1]))
            (refine rtA 10 ?_ ?_
             (try simp only [Act.put, stA, st0, st1]))
            (refine rtA 11 ?_ ?_
             (try simp only [Act.put, stA, st0, st1]))
            (refine rtA 12 ?_ ?_ (hy := by intro w hSw; have hS1 : Ab w25 w := hSw; have z0 := hS1.at p0; have z1 := hS1.at p1; have z2 := hS1.at p2; have z3 := hS1.at p3; go_simp; (try with_reducible rfl)); (try simp only [Act.put, stA, st0, st1]))
            refine r1A 13 (fun K hK => ?_)
            (go_simp
             (refine (HQQ.out _ abA).mono ?_; rintro e w26 ⟨rfl, hb26⟩)
             (try go_wp2_with fail)
             (refine hK.out _ _ ?_ (fun hHeld => ?_)
              · (try dsimp only); exact Ab.trans abA hb26
              clear hK K
              (try simp only [Act.put, stA, st0, st1])))
            (refine rtA 14 ?_ ?_
             (try simp only [Act.put, stA, st0, st1]))
            (refine rtA 15 ?_ ?_
             (try simp only [Act.put, stA, st0, st1]))
            refine wpAnyH_done (by kernel_rfl) ?_ _
            (try simp only [Act.put, stA, st0, st1])
            go_wp2
            go_roundw
            case rel =>
              refine ⟨k + 1, by omega, by rw [HM4.out]; go_num, by go_num, b23.trans abA⟩
            case measure => simp [intOf]; omega
          · have hkl : k = l1.length := by omega
            have hki : ¬ (k : Int) < (l1.length : Int) := by omega
            have hPe : (((P k : Nat) : Int) != (E.length : Int)) = false := by rw [bne_eq_false_iff_eq, hkl]; omega
            by_cases hcut : n2 < 0 ∨ (E.length : Int) ≤ n2
            · by_cases hneg : n2 < 0
              · have hng : decide (n2 < 0) = true := by rw [decide_eq_true_eq]; exact hneg
                clear hcut
                go_wp2_with fail
                refine (valive_any _).mono ?_
                rintro e wz ⟨rfl, hbz⟩
                go_wp2
                go_ret
                exact ⟨rfl, ab23.trans hbz⟩
              · have hge : (E.length : Int) ≤ n2 := by omega
                clear hcut
                go_wp2_with fail
                refine (valive_any _).mono ?_
                rintro e wz ⟨rfl, hbz⟩
                go_wp2
                go_ret
                exact ⟨rfl, ab23.trans hbz⟩
            · obtain ⟨m, rfl⟩ : ∃ m : Nat, n2 = (m : Int) := ⟨n2.toNat, by omega⟩
              have hml : m < E.length := by omega
              have hm1 : ¬ (m : Int) < 0 := by omega
              have hm2 : ¬ (E.length : Int) ≤ (m : Int) := by omega
              have HNC := Lib.hid (HCUT.out m hml)
              have Mc : ∀ w0, (Instr.slice 23 (.slice B3 E.length e3) none (some (.int .i64 (m : Int))) none).run Try.prog w0 = .ok (.slice B3 m e3) w0 := fun w0 => cv_head m .i64 B3 E.length e3 w0 (by have := O23.le; omega)
              have htl : (E.take m).length = m := by rw [List.length_take]; omega
              have NX := next_any B3 (E.take m) e3 w23 (O23.rb.zero.take m) (by have := O23.le; omega) (by omega)
              rw [htl] at NX
              have HTL := Lib.hid htl
              clear hcut htl hml
              go_wp2_with fail
              refine NX.mono ?_
              rintro e w21 ⟨x21, u21, er21, rfl, h21, q21, hb21⟩
              obtain ⟨e21, e22⟩ := Prod.mk.inj (h21.out.symm.trans HNC.out)
              obtain ⟨rfl, rfl⟩ := Prod.mk.inj e22
              have ab21 := ab23.trans hb21
              have Z21 : VB (w21.alloc (.cells VM.zero.cells.toArray 26)) w21.heap.size VM.zero.cells := VB.box (xs := VM.zero.cells.toArray) (T := 26) (by (repeat (first | exact new_plain wnA | with_reducible refine old_alloc ?_ | with_reducible refine old_drew ?_ | with_reducible refine old_set ?_ wnA | with_reducible refine old_ab (by assumption) ?_)))
              clear NX h21 e21 e22 q21 hb21 Mc
              go_upto_region 22 with (refine list_stV (o := ⟨none, _, _, _, _, _⟩) (us := x21.cells) _ infoV rfl _ _ rfl rfl rfl Z21 rfl rfl x21.one ?_; intro w22 h22)
              have ab22 := ab21.trans (h22.ab w21 ((Ab.refl _).alloc _) (Nat.le_refl _))
              clear h22 Z21 ab21
              go_wp2_with fail
              refine (valive_any _).mono ?_
              rintro e wz ⟨rfl, hbz⟩
              go_wp2
              go_ret
              exact ⟨rfl, ab22.trans hbz⟩
      · by_cases hkk : k1 = 3
        · have hk3' : ((k1 : Int) == 3) = true := by rw [beq_iff_eq]; omega
          have hl3 : ¬ (l1.length : Int) < 128 := by omega
          clear hk3
          by_cases hcut : n2 < 0 ∨ (E.length : Int) ≤ n2
          · by_cases hneg : n2 < 0
            · have hng : decide (n2 < 0) = true := by rw [decide_eq_true_eq]; exact hneg
              clear hcut
              go_wp2_with fail
              refine (valive_any _).mono ?_
              rintro e wz ⟨rfl, hbz⟩
              go_wp2
              go_ret
              exact ⟨rfl, ab9.trans hbz⟩
            · have hge : (E.length : Int) ≤ n2 := by omega
              clear hcut
              go_wp2_with fail
              refine (valive_any _).mono ?_
              rintro e wz ⟨rfl, hbz⟩
              go_wp2
              go_ret
              exact ⟨rfl, ab9.trans hbz⟩
          · obtain ⟨m, rfl⟩ : ∃ m : Nat, n2 = (m : Int) := ⟨n2.toNat, by omega⟩
            have hml : m < E.length := by omega
            have hm1 : ¬ (m : Int) < 0 := by omega
            have hm2 : ¬ (E.length : Int) ≤ (m : Int) := by omega
            have HNC := Lib.hid (HCUT.out m hml)
            have Mc : ∀ w0, (Instr.slice 23 (.slice B3 E.length e3) none (some (.int .i64 (m : Int))) none).run Try.prog w0 = .ok (.slice B3 m e3) w0 := fun w0 => cv_head m .i64 B3 E.length e3 w0 (by have := O9.le; omega)
            have htl : (E.take m).length = m := by rw [List.length_take]; omega
            have NX := next_any B3 (E.take m) e3 w9 (O9.rb.zero.take m) (by have := O9.le; omega) (by omega)
            rw [htl] at NX
            have HTL := Lib.hid htl
            clear hcut htl hml
            go_wp2_with fail
            refine NX.mono ?_
            rintro e w21 ⟨x21, u21, er21, rfl, h21, q21, hb21⟩
            obtain ⟨e21, e22⟩ := Prod.mk.inj (h21.out.symm.trans HNC.out)
            obtain ⟨rfl, rfl⟩ := Prod.mk.inj e22
            have ab21 := ab9.trans hb21
            have Z21 : VB (w21.alloc (.cells VM.zero.cells.toArray 26)) w21.heap.size VM.zero.cells := VB.box (xs := VM.zero.cells.toArray) (T := 26) (by (repeat (first | exact new_plain wnA | with_reducible refine old_alloc ?_ | with_reducible refine old_drew ?_ | with_reducible refine old_set ?_ wnA | with_reducible refine old_ab (by assumption) ?_)))
            clear NX h21 e21 e22 q21 hb21 Mc
            go_upto_region 22 with (refine list_stV (o := ⟨none, _, _, _, _, _⟩) (us := x21.cells) _ infoV rfl _ _ rfl rfl rfl Z21 rfl rfl x21.one ?_; intro w22 h22)
            have ab22 := ab21.trans (h22.ab w21 ((Ab.refl _).alloc _) (Nat.le_refl _))
            clear h22 Z21 ab21
            go_wp2_with fail
            refine (valive_any _).mono ?_
            rintro e wz ⟨rfl, hbz⟩
            go_wp2
            go_ret
            exact ⟨rfl, ab22.trans hbz⟩
        · have hk3' : ((k1 : Int) == 3) = false := by rw [beq_eq_false_iff_ne]; omega
          clear hk3
          by_cases hcut : n2 < 0 ∨ (E.length : Int) ≤ n2
          · by_cases hneg : n2 < 0
            · have hng : decide (n2 < 0) = true := by rw [decide_eq_true_eq]; exact hneg
              clear hcut
              go_wp2_with fail
              refine (valive_any _).mono ?_
              rintro e wz ⟨rfl, hbz⟩
              go_wp2
              go_ret
              exact ⟨rfl, ab9.trans hbz⟩
            · have hge : (E.length : Int) ≤ n2 := by omega
              clear hcut
              go_wp2_with fail
              refine (valive_any _).mono ?_
              rintro e wz ⟨rfl, hbz⟩
              go_wp2
              go_ret
              exact ⟨rfl, ab9.trans hbz⟩
          · obtain ⟨m, rfl⟩ : ∃ m : Nat, n2 = (m : Int) := ⟨n2.toNat, by omega⟩
            have hml : m < E.length := by omega
            have hm1 : ¬ (m : Int) < 0 := by omega
            have hm2 : ¬ (E.length : Int) ≤ (m : Int) := by omega
            have HNC := Lib.hid (HCUT.out m hml)
            have Mc : ∀ w0, (Instr.slice 23 (.slice B3 E.length e3) none (some (.int .i64 (m : Int))) none).run Try.prog w0 = .ok (.slice B3 m e3) w0 := fun w0 => cv_head m .i64 B3 E.length e3 w0 (by have := O9.le; omega)
            have htl : (E.take m).length = m := by rw [List.length_take]; omega
            have NX := next_any B3 (E.take m) e3 w9 (O9.rb.zero.take m) (by have := O9.le; omega) (by omega)
            rw [htl] at NX
            have HTL := Lib.hid htl
            clear hcut htl hml
            go_wp2_with fail
            refine NX.mono ?_
            rintro e w21 ⟨x21, u21, er21, rfl, h21, q21, hb21⟩
            obtain ⟨e21, e22⟩ := Prod.mk.inj (h21.out.symm.trans HNC.out)
            obtain ⟨rfl, rfl⟩ := Prod.mk.inj e22
            have ab21 := ab9.trans hb21
            have Z21 : VB (w21.alloc (.cells VM.zero.cells.toArray 26)) w21.heap.size VM.zero.cells := VB.box (xs := VM.zero.cells.toArray) (T := 26) (by (repeat (first | exact new_plain wnA | with_reducible refine old_alloc ?_ | with_reducible refine old_drew ?_ | with_reducible refine old_set ?_ wnA | with_reducible refine old_ab (by assumption) ?_)))
            clear NX h21 e21 e22 q21 hb21 Mc
            go_upto_region 22 with (refine list_stV (o := ⟨none, _, _, _, _, _⟩) (us := x21.cells) _ infoV rfl _ _ rfl rfl rfl Z21 rfl rfl x21.one ?_; intro w22 h22)
            have ab22 := ab21.trans (h22.ab w21 ((Ab.refl _).alloc _) (Nat.le_refl _))
            clear h22 Z21 ab21
            go_wp2_with fail
            refine (valive_any _).mono ?_
            rintro e wz ⟨rfl, hbz⟩
            go_wp2
            go_ret
            exact ⟨rfl, ab22.trans hbz⟩
end Go.Proofs.Ytllcdmohipcegaa
