/- The reference's order of values, walked. Own work. -/
import Derived.Test.YtllcdmohipcegaaCvCmpB
import Derived.BigQuiet
set_option linter.unusedVariables false
set_option linter.unusedSimpArgs false
namespace Go.Proofs.Ytllcdmohipcegaa
open Go.RowKit
open Codec (V)

theorem pre_step {α : Type} (f : α → α → Int) (l m : List α) (k : Nat) (h : k < l.length) (h' : k < m.length) : Codec.pre f (l.drop k) (m.drop k) = if f l[k] m[k] ≠ 0 then f l[k] m[k] else Codec.pre f (l.drop (k + 1)) (m.drop (k + 1)) := by
  rw [List.drop_eq_getElem_cons h, List.drop_eq_getElem_cons h', Codec.pre]
theorem pre_end {α : Type} (f : α → α → Int) (l m : List α) (k : Nat) (h : ¬ (k < l.length ∧ k < m.length)) : Codec.pre f (l.drop k) (m.drop k) = 0 := by
  by_cases h1 : k < l.length
  · rw [List.drop_eq_getElem_cons h1, show m.drop k = [] from List.drop_eq_nil_of_le (by omega), Codec.pre]
  · rw [show l.drop k = [] from List.drop_eq_nil_of_le (by omega), Codec.pre]
/-- What the reference's order returns of two values that are not deeper than d. -/
def Ro (d : Nat) : Prop := ∀ (S S' : Nat → Prop) (x y : VM) (w : World), VL d w S x → VL d w S' y → Codec.kinds d x.v = true → Codec.kinds d y.v = true → Calls Try.prog 41 #[x.val, y.val] w fun e w' => e = .returned (.int .i64 (Codec.order d x.v y.v)) ∧ Ab w w'
theorem Ro.out {d : Nat} (h : Ro d) {S S' : Nat → Prop} {x y : VM} {w : World} (hx : VL d w S x) (hy : VL d w S' y) (kx : Codec.kinds d x.v = true) (ky : Codec.kinds d y.v = true) : Calls Try.prog 41 #[x.val, y.val] w fun e w' => e = .returned (.int .i64 (Codec.order d x.v y.v)) ∧ Ab w w' := h S S' x y w hx hy kx ky
theorem kinds_els {d : Nat} {v : V} (h : Codec.kinds (d + 1) v = true) : ∀ x ∈ v.l, Codec.kinds d x = true := by
  rcases Codec.kinds_cases h with ⟨n, rfl⟩ | ⟨b, rfl⟩ | ⟨l, rfl, hl⟩
  · simp [V.l]
  · simp [V.l]
  · exact hl
theorem kinds_sum {d : Nat} {v : V} (h : Codec.kinds (d + 1) v = true) : v.b.length = 0 ∨ v.l.length = 0 := by
  rcases Codec.kinds_cases h with ⟨n, rfl⟩ | ⟨b, rfl⟩ | ⟨l, rfl, hl⟩
  · exact .inl rfl
  · exact .inr rfl
  · exact .inl rfl
set_option maxRecDepth 100000 in
set_option maxHeartbeats 8000000 in
theorem rorder_of (d : Nat) (hV : Ro d) : Ro (d + 1) := by
  intro S S' x y w hx hy kx ky
  obtain ⟨k1, n1, A1, s1, c1, L1, l1, d1⟩ := x
  obtain ⟨k2, n2, A2, s2, c2, L2, l2, d2⟩ := y
  have hsx := hx.bytes.rb
  have hsy := hy.bytes.rb
  have bk1 : (k1 : Int) < 256 := by have : k1 < 256 := hx.kd; omega
  have bk2 : (k2 : Int) < 256 := by have : k2 < 256 := hy.kd; omega
  have lx : s1.length ≤ 9223372036854775807 := hx.1.2.2.2.2.1
  have ly : s2.length ≤ 9223372036854775807 := hy.1.2.2.2.2.1
  have ml1 : l1.length ≤ 9223372036854775807 := hx.1.2.2.2.2.2.2
  have ml2 : l2.length ≤ 9223372036854775807 := hy.1.2.2.2.2.2.2
  have sm1 : s1.length = 0 ∨ l1.length = 0 := kinds_sum kx
  have sm2 : s2.length = 0 ∨ l2.length = 0 := kinds_sum ky
  have ke1 : ∀ v ∈ l1, Codec.kinds d v = true := kinds_els kx
  have ke2 : ∀ v ∈ l2, Codec.kinds d v = true := kinds_els ky
  have ex := hx.els
  have ey := hy.els
  have HNE : Hid (k1 ≠ k2 → Codec.order (d + 1) (VM.v ⟨k1, n1, A1, s1, c1, L1, l1, d1⟩) (VM.v ⟨k2, n2, A2, s2, c2, L2, l2, d2⟩) = Codec.three (k1 : Int) (k2 : Int)) := Lib.hid (fun h => Codec.order_kind h)
  have HEQ : Hid (k1 = k2 → Codec.order (d + 1) (VM.v ⟨k1, n1, A1, s1, c1, L1, l1, d1⟩) (VM.v ⟨k2, n2, A2, s2, c2, L2, l2, d2⟩) = if k1 = 1 then Codec.three n1 n2 else if Codec.pre Codec.threeB s1 s2 ≠ 0 then Codec.pre Codec.threeB s1 s2 else if Codec.pre (Codec.order d) l1 l2 ≠ 0 then Codec.pre (Codec.order d) l1 l2 else Codec.three ((s1.length : Int) + l1.length) ((s2.length : Int) + l2.length)) := Lib.hid (fun h => Codec.order_same kx ky h)
  have HVV := Lib.hid hV
  have KE1 := Lib.hid ke1
  have KE2 := Lib.hid ke2
  clear hx hy kx ky hV ke1 ke2
  have hab : Ab w ((w.alloc (.cells #[.int .u8 (k1 : Int), .int .i64 n1, .slice A1 s1.length c1, .slice L1 l1.length d1] 26)).alloc (.cells #[.int .u8 (k2 : Int), .int .i64 n2, .slice A2 s2.length c2, .slice L2 l2.length d2] 26)) := abA
  have V1 : VB ((w.alloc (.cells #[.int .u8 (k1 : Int), .int .i64 n1, .slice A1 s1.length c1, .slice L1 l1.length d1] 26)).alloc (.cells #[.int .u8 (k2 : Int), .int .i64 n2, .slice A2 s2.length c2, .slice L2 l2.length d2] 26)) w.heap.size [.int .u8 (k1 : Int), .int .i64 n1, .slice A1 s1.length c1, .slice L1 l1.length d1] := VB.box (xs := #[.int .u8 (k1 : Int), .int .i64 n1, .slice A1 s1.length c1, .slice L1 l1.length d1]) (T := 26) (by (repeat (first | exact new_plain wnA | with_reducible refine old_alloc ?_ | with_reducible refine old_drew ?_ | with_reducible refine old_set ?_ wnA | with_reducible refine old_ab (by assumption) ?_)))
  have V2 : VB ((w.alloc (.cells #[.int .u8 (k1 : Int), .int .i64 n1, .slice A1 s1.length c1, .slice L1 l1.length d1] 26)).alloc (.cells #[.int .u8 (k2 : Int), .int .i64 n2, .slice A2 s2.length c2, .slice L2 l2.length d2] 26)) (w.heap.size + 1) [.int .u8 (k2 : Int), .int .i64 n2, .slice A2 s2.length c2, .slice L2 l2.length d2] := VB.box (xs := #[.int .u8 (k2 : Int), .int .i64 n2, .slice A2 s2.length c2, .slice L2 l2.length d2]) (T := 26) (by (repeat (first | exact new_plain wnA | with_reducible refine old_alloc ?_ | with_reducible refine old_drew ?_ | with_reducible refine old_set ?_ wnA | with_reducible refine old_ab (by assumption) ?_)))
  unfold VM.val VM.cells
  generalize Codec.order (d + 1) (VM.v ⟨k1, n1, A1, s1, c1, L1, l1, d1⟩) (VM.v ⟨k2, n2, A2, s2, c2, L2, l2, d2⟩) = res at *
  go_enter Try.func41, Try.ntmps41
  go_upto_region 1 with fail
  generalize ((w.alloc (.cells #[.int .u8 (k1 : Int), .int .i64 n1, .slice A1 s1.length c1, .slice L1 l1.length d1] 26)).alloc (.cells #[.int .u8 (k2 : Int), .int .i64 n2, .slice A2 s2.length c2, .slice L2 l2.length d2] 26)) = w0 at *
  generalize w.heap.size = b1 at *
  generalize b1 + 1 = b2 at *
  have a0 := V1.at 0 rfl
  have a1 := V1.at 1 rfl
  have a2 := V1.at 2 rfl
  have a3 := V1.at 3 rfl
  have e0 := V2.at 0 rfl
  have e1 := V2.at 1 rfl
  have e2 := V2.at 2 rfl
  have e3 := V2.at 3 rfl
  replace ex := VLs.keep ex (fun g _ hg => hab.out.block g hg)
  replace ey := VLs.keep ey (fun g _ hg => hab.out.block g hg)
  have EX := Lib.hid ex
  have EY := Lib.hid ey
  have SX := Lib.hid (RB.ab hsx hab)
  have SY := Lib.hid (RB.ab hsy hab)
  clear ex ey hsx hsy V1 V2
  by_cases hk : k1 = k2
  · have hk' : ((k1 : Int) != (k2 : Int)) = false := by rw [bne_eq_false_iff_eq]; omega
    by_cases h1 : k1 = 1
    · have h1' : ((k1 : Int) == 1) = true := by rw [beq_iff_eq]; omega
      have HR : Hid (res = Codec.three n1 n2) := by unfold Hid; rw [HEQ.out hk, if_pos h1]
      clear hk h1 HEQ HNE
      go_wp2_with (go_at_call 61
                   refine (three_any _ _ _).mono ?_
                   rintro e w4 ⟨rfl, rfl⟩)
      go_ret
      exact ⟨by rw [HR.out]; (try rfl), hab.trans abA⟩
    · have h1' : ((k1 : Int) == 1) = false := by rw [beq_eq_false_iff_ne]; omega
      have HR : Hid (res = if Codec.pre Codec.threeB s1 s2 ≠ 0 then Codec.pre Codec.threeB s1 s2 else if Codec.pre (Codec.order d) l1 l2 ≠ 0 then Codec.pre (Codec.order d) l1 l2 else Codec.three ((s1.length : Int) + l1.length) ((s2.length : Int) + l2.length)) := by unfold Hid; rw [HEQ.out hk, if_neg h1]
      clear hk h1 HEQ HNE
      go_upto_region 6 with fail
      go_loopw [5] (fun i w' => ∃ k : Nat, k ≤ s1.length ∧ k ≤ s2.length ∧ i = .int .i64 (k : Int) ∧ Ab w0 w' ∧ Hid (Codec.pre Codec.threeB s1 s2 = Codec.pre Codec.threeB (s1.drop k) (s2.drop k))) (fun i _ => s1.length - (intOf i).toNat)
      case atStart => exact ⟨0, Nat.zero_le _, Nat.zero_le _, rfl, abA, rfl⟩
      case round =>
        obtain ⟨k, hk, hk2, rfl, hb1, hq⟩ := hrel
        rename World => w1
        replace a2 := hb1.at a2
        replace e2 := hb1.at e2
        by_cases hlt : k < s1.length ∧ k < s2.length
        · have hi1 : (k : Int) < (s1.length : Int) := by omega
          have hi2 : (k : Int) < (s2.length : Int) := by omega
          obtain ⟨ad, rfl, _, ha⟩ := SX.out (by omega)
          obtain ⟨bd, rfl, _, hb⟩ := SY.out (by omega)
          have hac : w1.cell? (ad.add k) = some (.int .u8 (s1[k].toNat : Int)) := hb1.at (ha k hlt.1)
          have hbc : w1.cell? (bd.add k) = some (.int .u8 (s2[k].toNat : Int)) := hb1.at (hb k hlt.2)
          have HS : Hid (Codec.pre Codec.threeB s1 s2 = if Codec.threeB s1[k] s2[k] ≠ 0 then Codec.threeB s1[k] s2[k] else Codec.pre Codec.threeB (s1.drop (k + 1)) (s2.drop (k + 1))) := by unfold Hid; rw [hq.out, pre_step _ _ _ _ hlt.1 hlt.2]
          have HZ : Hid (Codec.threeB s1[k] s2[k] = 0 ↔ s1[k] = s2[k]) := Codec.threeB_ord.zero _ _ trivial trivial
          have HT : Hid (Codec.threeB s1[k] s2[k] = Codec.three (s1[k].toNat : Int) (s2[k].toNat : Int)) := rfl
          have ua : (s1[k].toNat : Int) < 256 := by have := s1[k].toNat_lt; omega
          have ub : (s2[k].toNat : Int) < 256 := by have := s2[k].toNat_lt; omega
          clear ha hb
          by_cases hxy : s1[k] = s2[k]
          · have hcmp : ((s1[k].toNat : Int) != (s2[k].toNat : Int)) = false := by simp [hxy]
            have HQ2 : Hid (Codec.pre Codec.threeB s1 s2 = Codec.pre Codec.threeB (s1.drop (k + 1)) (s2.drop (k + 1))) := by unfold Hid; rw [HS.out, if_neg (fun h => h (HZ.out.2 hxy))]
            clear hxy HS HZ HT
            go_upto_region 8 with fail
            go_quiet (fail)
            go_wp2
            go_roundw
            case rel => exact ⟨k + 1, by omega, by omega, by go_num, hb1.trans abA, HQ2⟩
            case measure => simp [intOf]; omega
          · have hcmp : ((s1[k].toNat : Int) != (s2[k].toNat : Int)) = true := by
              simp only [bne_iff_ne, ne_eq, Int.natCast_inj]; exact fun e => hxy (UInt8.toNat.inj e)
            have HR2 : Hid (res = Codec.three (s1[k].toNat : Int) (s2[k].toNat : Int)) := by
              have h0 : Codec.threeB s1[k] s2[k] ≠ 0 := fun h => hxy (HZ.out.1 h)
              have e1 : Codec.pre Codec.threeB s1 s2 = Codec.threeB s1[k] s2[k] := by rw [HS.out, if_pos h0]
              unfold Hid; rw [HR.out, e1, if_pos h0, HT.out]
            clear hxy HS HZ HT
            go_upto_region 8 with fail
            go_quiet (fail)
            go_upto_region 9 with fail
            have jc1 : IntKind.i64.wrap (s1[k].toNat : Int) = (s1[k].toNat : Int) := IntWalk.i64_in _ (by omega)
            have jc2 : IntKind.i64.wrap (s2[k].toNat : Int) = (s2[k].toNat : Int) := IntWalk.i64_in _ (by omega)
            refine wp_region_held_drew (by kernel_rfl) (S := fun w' => Ab w1 w') ?_ (fun hHeld => ?_)
            · exact abA
            (refine rtA 0 ?_ ?_
             (try simp only [Act.put, stA, st0, st1]))
            (refine rtA 1 ?_ ?_ (hy := by intro w hSw; have hS1 : Ab w1 w := hSw; have z0 := hS1.at a2; go_simp; (try with_reducible rfl)); (try simp only [Act.put, stA, st0, st1]))
            (refine rtA 2 ?_ ?_
             (try simp only [Act.put, stA, st0, st1]))
            (refine rtA 3 ?_ ?_
             (try simp only [Act.put, stA, st0, st1]))
            (refine rtA 4 ?_ ?_ (hy := by intro w hSw; have hS1 : Ab w1 w := hSw; have z0 := hS1.at hac; go_simp; (try with_reducible rfl)); (try simp only [Act.put, stA, st0, st1]))
            (refine rtA 5 ?_ ?_
             (try simp only [Act.put, stA, st0, st1]))
            (refine rtA 6 ?_ ?_
             (try simp only [Act.put, stA, st0, st1]))
            (refine rtA 7 ?_ ?_ (hy := by intro w hSw; have hS1 : Ab w1 w := hSw; have z0 := hS1.at e2; go_simp; (try with_reducible rfl)); (try simp only [Act.put, stA, st0, st1]))
            (refine rtA 8 ?_ ?_
             (try simp only [Act.put, stA, st0, st1]))
            (refine rtA 9 ?_ ?_
             (try simp only [Act.put, stA, st0, st1]))
            (refine rtA 10 ?_ ?_ (hy := by intro w hSw; have hS1 : Ab w1 w := hSw; have z0 := hS1.at hbc; go_simp; (try with_reducible rfl)); (try simp only [Act.put, stA, st0, st1]))
            (refine rtA 11 ?_ ?_
             (try simp only [Act.put, stA, st0, st1]))
            refine r1A 12 (fun K hK => ?_)
            (go_simp
             (refine (three_any (s1[k].toNat : Int) (s2[k].toNat : Int) _).mono ?_; rintro e w5 ⟨rfl, rfl⟩)
             (try go_wp2_with fail)
             (refine hK.out _ _ ?_ (fun hHeld => ?_)
              · (try dsimp only); (exact abA)
              clear hK K
              (try simp only [Act.put, stA, st0, st1])))
            refine r1A 13 (fun K hK => ?_)
            (go_simp
             (refine hK.out _ _ ?_ (fun hHeld => ?_)
              · (try dsimp only); (assumption)
              clear hK K
              (try simp only [Act.put, stA, st0, st1])))
            refine wpAnyH_done (by kernel_rfl) ?_ _
            go_wp2
            go_ret
            exact ⟨by rw [HR2.out]; (try rfl), hab.trans (hb1.trans abA)⟩
        · have HZ : Hid (Codec.pre Codec.threeB s1 s2 = 0) := by unfold Hid; rw [hq.out, pre_end _ _ _ _ hlt]
          have HR2 : Hid (res = if Codec.pre (Codec.order d) l1 l2 ≠ 0 then Codec.pre (Codec.order d) l1 l2 else Codec.three ((s1.length : Int) + l1.length) ((s2.length : Int) + l2.length)) := by unfold Hid; rw [HR.out, if_neg (fun h => h HZ.out)]
          have ab1 := hab.trans hb1
          replace a3 := hb1.at a3
          replace e3 := hb1.at e3
          have EX1 := Lib.hid (VLs.keep EX.out (fun g _ hg => hb1.out.block g hg))
          have EY1 := Lib.hid (VLs.keep EY.out (fun g _ hg => hb1.out.block g hg))
          clear HZ HR EX EY SX SY a0 a1 e0 e1 hq hab
          by_cases hlt1 : k < s1.length
          all_goals
            first
              | have hi1 : (k : Int) < (s1.length : Int) := by omega
                have hi2 : ¬ (k : Int) < (s2.length : Int) := by omega
              | have hi1 : ¬ (k : Int) < (s1.length : Int) := by omega
            clear hlt1 hlt
            go_upto_region 11 with fail
            go_loopw [6] (fun i w' => ∃ j : Nat, j ≤ l1.length ∧ j ≤ l2.length ∧ i = .int .i64 (j : Int) ∧ Ab w1 w' ∧ Hid (Codec.pre (Codec.order d) l1 l2 = Codec.pre (Codec.order d) (l1.drop j) (l2.drop j))) (fun i _ => l1.length - (intOf i).toNat)
            case atStart => exact ⟨0, Nat.zero_le _, Nat.zero_le _, rfl, abA, rfl⟩
            case round =>
              obtain ⟨j, hj, hj2, rfl, hb2, hq⟩ := hrel
              rename World => w2
              have ab2 := ab1.trans hb2
              replace a2 := hb2.at a2
              replace e2 := hb2.at e2
              replace a3 := hb2.at a3
              replace e3 := hb2.at e3
              clear hi1
              (try clear hi2)
              by_cases hlt : j < l1.length ∧ j < l2.length
              · obtain ⟨p, ⟨k3, n3, A3, s3, c3, L3, l3, d3⟩, rfl, yv1, yl1, p0, p1, p2, p3⟩ := EX1.out.at_ hlt.1
                obtain ⟨r, ⟨k4, n4, A4, s4, c4, L4, l4, d4⟩, rfl, yv2, yl2, r0, r1, r2, r3⟩ := EY1.out.at_ hlt.2
                replace p0 := hb2.at p0
                replace p1 := hb2.at p1
                replace p2 := hb2.at p2
                replace p3 := hb2.at p3
                replace r0 := hb2.at r0
                replace r1 := hb2.at r1
                replace r2 := hb2.at r2
                replace r3 := hb2.at r3
                have HC := Lib.hid (fun w' (hk' : Ab w2 w') => HVV.out.out (yl1.ab (hb2.trans hk')) (yl2.ab (hb2.trans hk')) (by rw [yv1]; exact KE1.out _ (List.getElem_mem hlt.1)) (by rw [yv2]; exact KE2.out _ (List.getElem_mem hlt.2)))
                have HS : Hid (Codec.pre (Codec.order d) l1 l2 = if Codec.order d (VM.v ⟨k3, n3, A3, s3, c3, L3, l3, d3⟩) (VM.v ⟨k4, n4, A4, s4, c4, L4, l4, d4⟩) ≠ 0 then Codec.order d (VM.v ⟨k3, n3, A3, s3, c3, L3, l3, d3⟩) (VM.v ⟨k4, n4, A4, s4, c4, L4, l4, d4⟩) else Codec.pre (Codec.order d) (l1.drop (j + 1)) (l2.drop (j + 1))) := by unfold Hid; rw [hq.out, pre_step _ _ _ _ hlt.1 hlt.2, yv1, yv2]
                have hi1 : (j : Int) < (l1.length : Int) := by omega
                have hi2 : (j : Int) < (l2.length : Int) := by omega
                clear yv1 yv2 yl1 yl2 hq
                dsimp only at p0 p1 p2 p3 r0 r1 r2 r3
                obtain ⟨z, hz⟩ : ∃ z, z = Codec.order d (VM.v ⟨k3, n3, A3, s3, c3, L3, l3, d3⟩) (VM.v ⟨k4, n4, A4, s4, c4, L4, l4, d4⟩) := ⟨_, rfl⟩
                rw [← hz] at HC HS
                unfold VM.val VM.cells at HC
                clear hz
                go_upto_region 13 with fail
                refine wp_region_held_drew (by kernel_rfl) (S := fun w' => Ab w2 w') ?_ (fun hHeld => ?_)
                · exact (Ab.refl w2).drew
                (refine rtA 0 ?_ ?_
                 (try simp only [Act.put, stA, st0, st1]))
                (refine rtA 1 ?_ ?_ (hy := by intro w hSw; have hS1 : Ab w2 w := hSw; have z0 := hS1.at a3; go_simp; (try with_reducible rfl)); (try simp only [Act.put, stA, st0, st1]))
                (refine rtA 2 ?_ ?_
                 (try simp only [Act.put, stA, st0, st1]))
                (refine rtA 3 ?_ ?_
                 (try simp only [Act.put, stA, st0, st1]))
                (refine rtA 4 ?_ ?_ (hy := by intro w hSw; have hS1 : Ab w2 w := hSw; have z0 := hS1.at p0; have z1 := hS1.at p1; have z2 := hS1.at p2; have z3 := hS1.at p3; go_simp; (try with_reducible rfl)); (try simp only [Act.put, stA, st0, st1]))
                (refine rtA 5 ?_ ?_
                 (try simp only [Act.put, stA, st0, st1]))
                (refine rtA 6 ?_ ?_ (hy := by intro w hSw; have hS1 : Ab w2 w := hSw; have z0 := hS1.at e3; go_simp; (try with_reducible rfl)); (try simp only [Act.put, stA, st0, st1]))
                (refine rtA 7 ?_ ?_
                 (try simp only [Act.put, stA, st0, st1]))
                (refine rtA 8 ?_ ?_
                 (try simp only [Act.put, stA, st0, st1]))
                (refine rtA 9 ?_ ?_ (hy := by intro w hSw; have hS1 : Ab w2 w := hSw; have z0 := hS1.at r0; have z1 := hS1.at r1; have z2 := hS1.at r2; have z3 := hS1.at r3; go_simp; (try with_reducible rfl)); (try simp only [Act.put, stA, st0, st1]))
                refine r1A 10 (fun K hK => ?_)
                (go_simp
                 (refine (HC.out _ abA).mono ?_; rintro e w5 ⟨rfl, hb5⟩)
                 (try go_wp2_with fail)
                 (refine hK.out _ _ ?_ (fun hHeld => ?_)
                  · (try dsimp only); (exact Ab.trans abA hb5)
                  clear hK K
                  (try simp only [Act.put, stA, st0, st1])))
                refine r1A 11 (fun K hK => ?_)
                (go_simp
                 (refine hK.out _ _ ?_ (fun hHeld => ?_)
                  · (try dsimp only); (assumption)
                  clear hK K
                  (try simp only [Act.put, stA, st0, st1])))
                refine wpAnyH_done (by kernel_rfl) ?_ _
                (try simp only [Act.put, stA, st0, st1])
                by_cases h0 : z = 0
                · have h0' : (z != 0) = false := by rw [bne_eq_false_iff_eq]; exact h0
                  have HQ2 : Hid (Codec.pre (Codec.order d) l1 l2 = Codec.pre (Codec.order d) (l1.drop (j + 1)) (l2.drop (j + 1))) := by unfold Hid; rw [HS.out, if_neg (fun h => h h0)]
                  clear h0 HS
                  go_wp2
                  go_roundw
                  case rel => exact ⟨j + 1, by omega, by omega, by go_num, hb2.trans abA, HQ2⟩
                  case measure => simp [intOf]; omega
                · have h0' : (z != 0) = true := by rw [bne_iff_ne]; exact h0
                  have HR3 : Hid (res = z) := by
                    have e1 : Codec.pre (Codec.order d) l1 l2 = z := by rw [HS.out, if_pos h0]
                    unfold Hid; rw [HR2.out, e1, if_pos h0]
                  clear h0 HS
                  go_wp2
                  go_ret
                  exact ⟨by rw [HR3.out]; (try rfl), ab2.trans abA⟩
              · have HZ : Hid (Codec.pre (Codec.order d) l1 l2 = 0) := by unfold Hid; rw [hq.out, pre_end _ _ _ _ hlt]
                have HR3 : Hid (res = Codec.three ((s1.length : Int) + l1.length) ((s2.length : Int) + l2.length)) := by unfold Hid; rw [HR2.out, if_neg (fun h => h HZ.out)]
                have j1 : IntKind.i64.wrap ((s1.length : Int) + l1.length) = (s1.length : Int) + l1.length := IntWalk.i64_in _ (by omega)
                have j2 : IntKind.i64.wrap ((s2.length : Int) + l2.length) = (s2.length : Int) + l2.length := IntWalk.i64_in _ (by omega)
                clear HZ HR2 hq
                by_cases hlt1 : j < l1.length
                all_goals
                  first
                    | have hi1 : (j : Int) < (l1.length : Int) := by omega
                      have hi2 : ¬ (j : Int) < (l2.length : Int) := by omega
                    | have hi1 : ¬ (j : Int) < (l1.length : Int) := by omega
                  clear hlt1 hlt
                  go_wp2_with (go_at_call 61
                               refine (three_any _ _ _).mono ?_
                               rintro e w4 ⟨rfl, rfl⟩)
                  go_ret
                  exact ⟨by rw [HR3.out]; (try rfl), ab2.trans abA⟩
  · have hk' : ((k1 : Int) != (k2 : Int)) = true := by rw [bne_iff_ne]; omega
    have HR : Hid (res = Codec.three (k1 : Int) (k2 : Int)) := HNE.out hk
    clear hk HEQ HNE
    go_wp2_with (go_at_call 61
                 refine (three_any _ _ _).mono ?_
                 rintro e w4 ⟨rfl, rfl⟩)
    go_ret
    exact ⟨by rw [HR.out]; (try rfl), hab.trans abA⟩
theorem rorder_any : ∀ d, Ro d := by
  intro d
  induction d with
  | zero => intro S S' x y w hx; exact hx.elim
  | succ d ih => exact rorder_of d ih
end Go.Proofs.Ytllcdmohipcegaa
