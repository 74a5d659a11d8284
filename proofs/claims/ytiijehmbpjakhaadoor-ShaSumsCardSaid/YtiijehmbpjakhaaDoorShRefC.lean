/- The reference of layer 8: paddings, digests, all whole blocks. Own work. -/
import Derived.Test.YtiijehmbpjakhaaDoorShRefB
set_option linter.unusedVariables false
set_option linter.unusedSimpArgs false
namespace Go.Proofs.YtiijehmbpjakhaaDoor
open Go.RowKit

theorem rb_one {w : World} {g : Nat} {v : Int} {x : UInt8} {fr : Nat × Nat} (hg : w.heap[g]? = some (.cells #[.int .u8 v] 5 fr)) (hv : v = (x.toNat : Int)) : RB w 0 (some ⟨g, 0, none⟩) [x] := by
  subst hv
  intro _
  refine ⟨_, rfl, Nat.zero_le _, fun i hi => ?_⟩
  have : i = 0 := by simp at hi; omega
  subst this
  unfold Addr.add World.cell?
  simp [hg, cb]
theorem or_one {w : World} {lo g : Nat} {x : UInt8} (hlo : lo ≤ g) (hg : w.heap[g]? = some (.cells #[.int .u8 (x.toNat : Int)] 5 (0, 0))) : OR 5 lo w (some ⟨g, 0, none⟩) 1 [x] :=
  ⟨by simp, .inr ⟨g, 1, _, by simp, hlo, hg, by simp, by unfold maxLen; omega, by simp, by simp [cb]⟩⟩
def slen : Value → Nat
  | .slice _ n _ => n
  | _ => 0
theorem low_at (n : Nat) : ∀ (k j : Nat), j < k → (Sha.low n k)[j]? = some (UInt8.ofNat (n / 2 ^ (8 * (k - 1 - j))))
  | k + 1, 0, _ => by simp [Sha.low]
  | k + 1, j + 1, h => by
    show (Sha.low n k)[j]? = _
    rw [low_at n k j (by omega)]
    congr 4; omega
/-- A padding while its last j bytes are written. -/
def pj (n z j : Nat) : List UInt8 := 128 :: (List.replicate z 0 ++ (Sha.low (8 * n) 8).take j)
theorem pj_next (n z j : Nat) (h : j < 8) : pj n z j ++ [UInt8.ofNat (8 * n / 2 ^ (8 * (7 - j)))] = pj n z (j + 1) := by
  unfold pj
  rw [List.take_add_one, low_at (8 * n) 8 j h]
  simp
theorem pj_length (n z j : Nat) (h : j ≤ 8) : (pj n z j).length = z + 1 + j := by
  unfold pj; simp [Sha.low_length]; omega
theorem pj_all (n : Nat) : pj n (Sha.zeros n) 8 = Sha.pad n := by
  unfold pj Sha.pad
  rw [List.take_of_length_le (by rw [Sha.low_length]; omega)]
theorem p0_next (k : Nat) : ((128 : UInt8) :: List.replicate k 0) ++ [0] = 128 :: List.replicate (k + 1) 0 := by
  rw [List.replicate_succ']; rfl
set_option maxRecDepth 100000 in
set_option maxHeartbeats 1000000 in
theorem rpadding_any (n : Nat) (w : World) (hn : n ≤ 1000000) :
    Calls Tryd.prog 16 #[.int .i64 (n : Int)] w fun e w' => ∃ (A : Option Addr) (c : Nat), e = .returned (.slice A (Sha.zeros n + 9) c) ∧ OR 5 w.heap.size w' A c (Sha.pad n) ∧ Ab w w' := by
  have hz := Sha.zeros_le n
  have HP := Lib.hid (pj_all n)
  have HZ : Hid (∀ k : Nat, k ≤ Sha.zeros n → (((n : Int) + ((k : Int) + 1) + 8) % 64 = 0 ↔ k = Sha.zeros n)) := by
    intro k hk
    unfold Sha.zeros at hk ⊢
    omega
  generalize Sha.zeros n = z at *
  go_enter Tryd.func16, Tryd.ntmps16
  have o0 : OR 5 w.heap.size (w.alloc (.cells #[.int .u8 128] 5)) (some ⟨w.heap.size, 0, none⟩) 1 [128] := or_one (x := 128) (Nat.le_refl _) (by (repeat (first | exact new_plain wnA | with_reducible refine old_alloc ?_ | with_reducible refine old_drew ?_ | with_reducible refine old_set ?_ wnA | with_reducible refine old_ab (by assumption) ?_)))
  have b0 : Ab w (w.alloc (.cells #[.int .u8 128] 5)) := abA
  go_upto_region 2 with fail
  generalize w.alloc (.cells #[.int .u8 128] 5) = w0 at *
  go_loopw [3] (fun s w' => ∃ (k c : Nat) (A : Option Addr) (L : List UInt8), k ≤ z ∧ L.length = k + 1 ∧ s = .slice A (k + 1) c ∧ Hid (L = 128 :: List.replicate k 0) ∧ OR 5 w.heap.size w' A c L ∧ Ab w w') (fun s _ => z + 1 - slen s)
  case atStart => exact ⟨0, 1, _, _, by omega, rfl, rfl, rfl, o0, b0⟩
  case round =>
    obtain ⟨k, c, A, L, hk, hl, rfl, hL, hO, hb⟩ := hrel
    rename World => w1
    have hm := HZ.out k hk
    by_cases hkz : k = z
    · have hm0 : ((n : Int) + ((k : Int) + 1) + 8) % 64 = 0 := hm.2 hkz
      clear hm
      subst hkz
      have hL0 : Hid (L = pj n k 0) := by rw [hL.out]; unfold Hid pj; simp
      go_wp2
      clear hm0
      go_loopw [3, 4] (fun s i w' => ∃ (j c : Nat) (A : Option Addr) (L : List UInt8), j ≤ 8 ∧ i = .int .i64 (7 - (j : Int)) ∧ s = .slice A L.length c ∧ Hid (L = pj n k j) ∧ OR 5 w.heap.size w' A c L ∧ Ab w w') (fun _ i _ => (intOf i + 1).toNat)
      case atStart => exact ⟨0, _, _, L, by omega, rfl, by rw [hl], hL0, hO, hb⟩
      case round =>
        obtain ⟨j, c, A, L, hj, rfl, rfl, hL, hO, hb⟩ := hrel
        rename World => w1
        have hl : L.length = k + 1 + j := by rw [hL.out, pj_length n k j hj]
        by_cases hlt : j < 8
        · have hi : 0 ≤ 7 - (j : Int) := by omega
          have n6 : (8 * (7 - (j : Int))).toNat = 8 * (7 - j) := by omega
          have n7 : 0 ≤ 8 * (7 - (j : Int)) := by omega
          have HB := Lib.hid (show 8 * (n : Int) / 2 ^ (8 * (7 - j)) % 256 = (((UInt8.ofNat (8 * n / 2 ^ (8 * (7 - j)))).toNat : Nat) : Int) by have := byte_shift (8 * n) (8 * (7 - j)); rwa [show ((8 * n : Nat) : Int) = 8 * (n : Int) by omega] at this)
          have HN := Lib.hid (pj_next n k j hlt)
          generalize UInt8.ofNat (8 * n / 2 ^ (8 * (7 - j))) = x at *
          go_upto_region 7 with fail
          have HL := Lib.hid hl
          have zb := hb.size
          clear hl
          have R1 := fun (v : Int) (hv : v = (x.toNat : Int)) => rb_one (w := w1.alloc (.cells #[.int .u8 v] 5)) (g := w1.heap.size) (v := v) (x := x) (fr := (0, 0)) (by (repeat (first | exact new_plain wnA | with_reducible refine old_alloc ?_ | with_reducible refine old_drew ?_ | with_reducible refine old_set ?_ wnA | with_reducible refine old_ab (by assumption) ?_))) hv
          have hO1 := fun (v : Int) => OR.keep hO (show Ab w1 (w1.alloc (.cells #[.int .u8 v] 5)) from abA)
          go_wp2_with (first
            | ((at_builtin
                refine listApp rfl _ _ rfl rfl rfl (m := [x]) rfl (hO1 _) (by simp; omega) (R1 _ HB.out) (Nat.le_refl _) (by have := HL.out; simp; omega) ?_
                intro A2 c2 w2 L2 e2 o2 _ g2)))
          have bb : Ab w w2 := g2 w (hb.trans (show Ab w1 _ from abA)) (Nat.le_refl _)
          have h2 : Hid (L2 = pj n k (j + 1)) := by unfold Hid; rw [e2.out, hL.out, HN.out]
          go_roundw
          case rel => exact ⟨j + 1, c2, A2, L2, by omega, by go_num, rfl, h2, o2, bb⟩
          case measure => simp [intOf]; omega
        · obtain rfl : j = 8 := by omega
          have h8 : L.length = k + 9 := by omega
          clear hl
          go_wp2
          go_ret
          exact ⟨A, c, by rw [h8]; rfl, by rw [← HP.out, ← hL.out]; exact hO, hb⟩
    · have hm0 : ¬ ((n : Int) + ((k : Int) + 1) + 8) % 64 = 0 := fun h => hkz (hm.1 h)
      clear hm
      have hlt : k < z := by omega
      have zb := hb.size
      have R1 := RB.blk (w := w1.alloc (.cells #[.int .u8 0] 5)) (lo := 0) (g := w1.heap.size) (l := [0]) (by (repeat (first | exact new_plain wnA | with_reducible refine old_alloc ?_ | with_reducible refine old_drew ?_ | with_reducible refine old_set ?_ wnA | with_reducible refine old_ab (by assumption) ?_))) (Nat.zero_le _)
      have hO1 := OR.keep hO (show Ab w1 (w1.alloc (.cells #[.int .u8 0] 5)) from abA)
      go_upto_region 3 with fail
      rw [← hl]
      have HL := Lib.hid hl
      clear hl
      go_wp2_with (first
        | ((at_builtin
            refine listApp rfl _ _ rfl rfl rfl (m := [0]) rfl hO1 (by simp; omega) R1 (Nat.le_refl _) (by have := HL.out; simp; omega) ?_
            intro A2 c2 w2 L2 e2 o2 _ g2)))
      have bb : Ab w w2 := g2 w (hb.trans (show Ab w1 _ from abA)) (Nat.le_refl _)
      have hl2 : L2.length = k + 1 + 1 := by rw [e2.out, List.length_append, HL.out]; rfl
      have h2 : Hid (L2 = 128 :: List.replicate (k + 1) 0) := by unfold Hid; rw [e2.out, hL.out, p0_next]
      rw [hl2]
      go_roundw
      case rel => exact ⟨k + 1, c2, A2, L2, by omega, hl2, rfl, h2, o2, bb⟩
      case measure => simp [slen] <;> omega
set_option maxRecDepth 100000 in
set_option maxHeartbeats 1000000 in
theorem rdigest_any (h : Sha.W8) (w : World) :
    Calls Tryd.prog 22 #[.agg (w8 h).toArray] w fun e w' => e = .returned (.agg ((Sha.dig h).map cb).toArray) ∧ Ab w w' := by
  have HA := Lib.hid (dgv_all h)
  have D0 : dgv h 0 = List.replicate 32 (.int .u8 0) := rfl
  go_enter Tryd.func22, Tryd.ntmps22
  go_wp2_with fail
  go_loopw [4] (fun i w' => ∃ n : Nat, n ≤ 32 ∧ i = .int .i64 n ∧ Ab w w' ∧ VB w' w.heap.size (w8 h) ∧ VB w' (w.heap.size + 1 + 1) (dgv h n) ∧ VB w' (w.heap.size + 1) (dgv h 0)) (fun i _ => 32 - (intOf i).toNat)
  case atStart => exact ⟨0, by omega, rfl, abA, VB.box (xs := (w8 h).toArray) (T := 24) (by (repeat (first | exact new_plain wnA | with_reducible refine old_alloc ?_ | with_reducible refine old_drew ?_ | with_reducible refine old_set ?_ wnA | with_reducible refine old_ab (by assumption) ?_))), VB.box (xs := (dgv h 0).toArray) (T := 26) (by (repeat (first | exact new_plain wnA | with_reducible refine old_alloc ?_ | with_reducible refine old_drew ?_ | with_reducible refine old_set ?_ wnA | with_reducible refine old_ab (by assumption) ?_))), VB.box (xs := (dgv h 0).toArray) (T := 26) (by (repeat (first | exact new_plain wnA | with_reducible refine old_alloc ?_ | with_reducible refine old_drew ?_ | with_reducible refine old_set ?_ wnA | with_reducible refine old_ab (by assumption) ?_)))⟩
  case round =>
    obtain ⟨i, hi, rfl, ha, hx, hv, hz⟩ := hrel
    rename World => w1
    by_cases hlt : i < 32
    · have hT : (i : Int) < 32 := by omega
      have hq : i / 4 < 8 := by omega
      have hr : i % 4 < 4 := by omega
      have c0 : w1.cell? ⟨w.heap.size, i / 4, none⟩ = some (.int .u32 ((h.list.getD (i / 4) 0#32).toNat : Int)) := by
        refine hx.at (i / 4) ?_
        have : i / 4 = 0 ∨ i / 4 = 1 ∨ i / 4 = 2 ∨ i / 4 = 3 ∨ i / 4 = 4 ∨ i / 4 = 5 ∨ i / 4 = 6 ∨ i / 4 = 7 := by omega
        rcases this with e | e | e | e | e | e | e | e <;> rw [e] <;> rfl
      have HB := Lib.hid (dgv_set h (i / 4) (i % 4) hq hr)
      have HC := Lib.hid (byte_shr (h.list.getD (i / 4) 0#32) (24 - 8 * (i % 4)))
      rw [show 4 * (i / 4) + i % 4 = i by omega, show 4 * (i / 4) + (i % 4 + 1) = i + 1 by omega] at HB
      generalize h.list.getD (i / 4) 0#32 = x at *
      have hl := dgv_length h i hi
      obtain ⟨v, hc⟩ : ∃ v, w1.cell? ⟨w.heap.size + 1 + 1, i, none⟩ = some v := ⟨_, hv.q i ((dgv h i)[i]'(by omega)) (by simp)⟩
      have hg := hv.g i
      have n1 : ((i : Int) / 4).toNat = i / 4 := by omega
      have n2 : (i : Int) / 4 < 8 := by omega
      have n3 : (24 - 8 * ((i : Int) % 4)).toNat = 24 - 8 * (i % 4) := by omega
      have n4 : 8 * ((i : Int) % 4) ≤ 24 := by omega
      have n5 : 0 ≤ (i : Int) / 4 := by omega
      have n6 : IntKind.i64.wrap (8 * ((i : Int) % 4)) = 8 * ((i : Int) % 4) := IntWalk.i64_in _ (by omega)
      have n7 : IntKind.i64.wrap (24 - 8 * ((i : Int) % 4)) = 24 - 8 * ((i : Int) % 4) := IntWalk.i64_in _ (by omega)
      have HL := Lib.hid hl
      clear hl
      go_wp2
      rw [HC.out]
      go_roundw
      case rel => exact ⟨i + 1, by omega, by go_num, abA, hx.other (by show w.heap.size + 1 + 1 ≠ w.heap.size; omega) _, by rw [← HB.out]; exact hv.set _ (by rw [HL.out]; omega) _, hz.other (by simp) _⟩
      case measure => simp [intOf]; omega
    · obtain rfl : i = 32 := by omega
      go_wp2_with (first
        | (refine list_ldV _ infoId Tryd.underlying26 rfl rfl _ rfl rfl hv (dgv_length h _ (by omega)) ?_)
        | (refine list_stV _ infoId rfl _ _ rfl rfl rfl hz ((dgv_length h _ (by omega)).trans (dgv_length h _ (by omega)).symm) (dgv_length h _ (by omega)) (dgv_one h _) ?_
           intro w9 h9))
      refine bodyPost_ret (res_V1 _ infoId Tryd.underlying26 rfl Tryd.results22 _ rfl h9.v (dgv_length h _ (by omega))) rfl ?_
      exact ⟨by rw [← HA.out], h9.ab _ ha (by omega)⟩
end Go.Proofs.YtiijehmbpjakhaaDoor
