/- The texts ShRefC, ShRefD, one behind the other. Own work. -/
import Derived.Test.YthfffbpcmlgoiaaGreatDoorCShRefB
set_option linter.unusedVariables false
set_option linter.unusedSimpArgs false
/- The reference of layer 8: paddings, digests, all whole blocks. Own work. -/
namespace Go.Proofs.YthfffbpcmlgoiaaGreatDoor
open Go.RowKit

theorem rbS_one {w : World} {g : Nat} {v : Int} {x : UInt8} {fr : Nat × Nat} (hg : w.heap[g]? = some (.cells #[.int .u8 v] 5 fr)) (hv : v = (x.toNat : Int)) : RB w 0 (some ⟨g, 0, none⟩) [x] := by
  subst hv
  intro _
  refine ⟨_, rfl, Nat.zero_le _, fun i hi => ?_⟩
  have : i = 0 := by simp at hi; omega
  subst this
  unfold Addr.add World.cell?
  simp [hg, cb]
theorem orS_one {w : World} {lo g : Nat} {x : UInt8} (hlo : lo ≤ g) (hg : w.heap[g]? = some (.cells #[.int .u8 (x.toNat : Int)] 5 (0, 0))) : OR 5 lo w (some ⟨g, 0, none⟩) 1 [x] :=
  ⟨by simp, .inr ⟨g, 1, _, by simp, hlo, hg, by simp, by unfold maxLen; omega, by simp, by simp [cb]⟩⟩
def slen : Value → Nat
  | .slice _ n _ => n
  | _ => 0
theorem low_at (n : Nat) : ∀ (k j : Nat), j < k → (Sha.low n k)[j]? = some (UInt8.ofNat (n / 2 ^ (8 * (k - 1 - j))))
  | k + 1, 0, _ => by simp [Sha.low]
  | k + 1, j + 1, h => by
    show (Sha.low n k)[j]? = _
    rw [low_at n k j (by omega)]
    congr 4; omega
/-- A padding while its last j bytes are written. -/
def pj (n z j : Nat) : List UInt8 := 128 :: (List.replicate z 0 ++ (Sha.low (8 * n) 8).take j)
theorem pj_next (n z j : Nat) (h : j < 8) : pj n z j ++ [UInt8.ofNat (8 * n / 2 ^ (8 * (7 - j)))] = pj n z (j + 1) := by
  unfold pj
  rw [List.take_add_one, low_at (8 * n) 8 j h]
  simp
theorem pj_length (n z j : Nat) (h : j ≤ 8) : (pj n z j).length = z + 1 + j := by
  unfold pj; simp [Sha.low_length]; omega
theorem pj_all (n : Nat) : pj n (Sha.zeros n) 8 = Sha.pad n := by
  unfold pj Sha.pad
  rw [List.take_of_length_le (by rw [Sha.low_length]; omega)]
theorem p0_next (k : Nat) : ((128 : UInt8) :: List.replicate k 0) ++ [0] = 128 :: List.replicate (k + 1) 0 := by
  rw [List.replicate_succ']; rfl
set_option maxRecDepth 100000 in
set_option maxHeartbeats 1000000 in
theorem rpadding_any (n : Nat) (w : World) (hn : n ≤ 1000000) :
    Calls Tryz.prog 62 #[.int .i64 (n : Int)] w fun e w' => ∃ (A : Option Addr) (c : Nat), e = .returned (.slice A (Sha.zeros n + 9) c) ∧ OR 5 w.heap.size w' A c (Sha.pad n) ∧ Ab w w' := by
  have hz := Sha.zeros_le n
  have HP := Lib.hid (pj_all n)
  have HZ : Hid (∀ k : Nat, k ≤ Sha.zeros n → (((n : Int) + ((k : Int) + 1) + 8) % 64 = 0 ↔ k = Sha.zeros n)) := by
    intro k hk
    unfold Sha.zeros at hk ⊢
    omega
  generalize Sha.zeros n = z at *
  go_enter Tryz.func62, Tryz.ntmps62
  have o0 : OR 5 w.heap.size (w.alloc (.cells #[.int .u8 128] 5)) (some ⟨w.heap.size, 0, none⟩) 1 [128] := orS_one (x := 128) (Nat.le_refl _) (by (repeat (first | exact new_plain wnA | with_reducible refine old_alloc ?_ | with_reducible refine old_drew ?_ | with_reducible refine old_set ?_ wnA | with_reducible refine old_ab (by assumption) ?_)))
  have b0 : Ab w (w.alloc (.cells #[.int .u8 128] 5)) := abA
  go_upto_region 2 with fail
  generalize w.alloc (.cells #[.int .u8 128] 5) = w0 at *
  go_loopw [3] (fun s w' => ∃ (k c : Nat) (A : Option Addr) (L : List UInt8), k ≤ z ∧ L.length = k + 1 ∧ s = .slice A (k + 1) c ∧ Hid (L = 128 :: List.replicate k 0) ∧ OR 5 w.heap.size w' A c L ∧ Ab w w') (fun s _ => z + 1 - slen s)
  case atStart => exact ⟨0, 1, _, _, by omega, rfl, rfl, rfl, o0, b0⟩
  case round =>
    obtain ⟨k, c, A, L, hk, hl, rfl, hL, hO, hb⟩ := hrel
    rename World => w1
    have hm := HZ.out k hk
    by_cases hkz : k = z
    · have hm0 : ((n : Int) + ((k : Int) + 1) + 8) % 64 = 0 := hm.2 hkz
      clear hm
      subst hkz
      have hL0 : Hid (L = pj n k 0) := by rw [hL.out]; unfold Hid pj; simp
      go_wp2
      clear hm0
      go_loopw [3, 4] (fun s i w' => ∃ (j c : Nat) (A : Option Addr) (L : List UInt8), j ≤ 8 ∧ i = .int .i64 (7 - (j : Int)) ∧ s = .slice A L.length c ∧ Hid (L = pj n k j) ∧ OR 5 w.heap.size w' A c L ∧ Ab w w') (fun _ i _ => (intOf i + 1).toNat)
      case atStart => exact ⟨0, _, _, L, by omega, rfl, by rw [hl], hL0, hO, hb⟩
      case round =>
        obtain ⟨j, c, A, L, hj, rfl, rfl, hL, hO, hb⟩ := hrel
        rename World => w1
        have hl : L.length = k + 1 + j := by rw [hL.out, pj_length n k j hj]
        by_cases hlt : j < 8
        · have hi : 0 ≤ 7 - (j : Int) := by omega
          have n6 : (8 * (7 - (j : Int))).toNat = 8 * (7 - j) := by omega
          have n7 : 0 ≤ 8 * (7 - (j : Int)) := by omega
          have HB := Lib.hid (show 8 * (n : Int) / 2 ^ (8 * (7 - j)) % 256 = (((UInt8.ofNat (8 * n / 2 ^ (8 * (7 - j)))).toNat : Nat) : Int) by have := byte_shift (8 * n) (8 * (7 - j)); rwa [show ((8 * n : Nat) : Int) = 8 * (n : Int) by omega] at this)
          have HN := Lib.hid (pj_next n k j hlt)
          generalize UInt8.ofNat (8 * n / 2 ^ (8 * (7 - j))) = x at *
          go_upto_region 7 with fail
          have HL := Lib.hid hl
          have zb := hb.size
          clear hl
          have R1 := fun (v : Int) (hv : v = (x.toNat : Int)) => rbS_one (w := w1.alloc (.cells #[.int .u8 v] 5)) (g := w1.heap.size) (v := v) (x := x) (fr := (0, 0)) (by (repeat (first | exact new_plain wnA | with_reducible refine old_alloc ?_ | with_reducible refine old_drew ?_ | with_reducible refine old_set ?_ wnA | with_reducible refine old_ab (by assumption) ?_))) hv
          have hO1 := fun (v : Int) => OR.keep hO (show Ab w1 (w1.alloc (.cells #[.int .u8 v] 5)) from abA)
          go_wp2_with (first
            | ((at_builtin
                refine listApp rfl _ _ rfl rfl rfl (m := [x]) rfl (hO1 _) (by simp; omega) (R1 _ HB.out) (Nat.le_refl _) (by have := HL.out; simp; omega) ?_
                intro A2 c2 w2 L2 e2 o2 _ g2)))
          have bb : Ab w w2 := g2 w (hb.trans (show Ab w1 _ from abA)) (Nat.le_refl _)
          have h2 : Hid (L2 = pj n k (j + 1)) := by unfold Hid; rw [e2.out, hL.out, HN.out]
          go_roundw
          case rel => exact ⟨j + 1, c2, A2, L2, by omega, by go_num, rfl, h2, o2, bb⟩
          case measure => simp [intOf]; omega
        · obtain rfl : j = 8 := by omega
          have h8 : L.length = k + 9 := by omega
          clear hl
          go_wp2
          go_ret
          exact ⟨A, c, by rw [h8]; rfl, by rw [← HP.out, ← hL.out]; exact hO, hb⟩
    · have hm0 : ¬ ((n : Int) + ((k : Int) + 1) + 8) % 64 = 0 := fun h => hkz (hm.1 h)
      clear hm
      have hlt : k < z := by omega
      have zb := hb.size
      have R1 := RB.blk (w := w1.alloc (.cells #[.int .u8 0] 5)) (lo := 0) (g := w1.heap.size) (l := [0]) (by (repeat (first | exact new_plain wnA | with_reducible refine old_alloc ?_ | with_reducible refine old_drew ?_ | with_reducible refine old_set ?_ wnA | with_reducible refine old_ab (by assumption) ?_))) (Nat.zero_le _)
      have hO1 := OR.keep hO (show Ab w1 (w1.alloc (.cells #[.int .u8 0] 5)) from abA)
      go_upto_region 3 with fail
      rw [← hl]
      have HL := Lib.hid hl
      clear hl
      go_wp2_with (first
        | ((at_builtin
            refine listApp rfl _ _ rfl rfl rfl (m := [0]) rfl hO1 (by simp; omega) R1 (Nat.le_refl _) (by have := HL.out; simp; omega) ?_
            intro A2 c2 w2 L2 e2 o2 _ g2)))
      have bb : Ab w w2 := g2 w (hb.trans (show Ab w1 _ from abA)) (Nat.le_refl _)
      have hl2 : L2.length = k + 1 + 1 := by rw [e2.out, List.length_append, HL.out]; rfl
      have h2 : Hid (L2 = 128 :: List.replicate (k + 1) 0) := by unfold Hid; rw [e2.out, hL.out, p0_next]
      rw [hl2]
      go_roundw
      case rel => exact ⟨k + 1, c2, A2, L2, by omega, hl2, rfl, h2, o2, bb⟩
      case measure => simp [slen] <;> omega
set_option maxRecDepth 100000 in
set_option maxHeartbeats 1000000 in
theorem rdigest_any (h : Sha.W8) (w : World) :
    Calls Tryz.prog 59 #[.agg (w8 h).toArray] w fun e w' => e = .returned (.agg ((Sha.dig h).map cb).toArray) ∧ Ab w w' := by
  have HA := Lib.hid (dgv_all h)
  have D0 : dgv h 0 = List.replicate 32 (.int .u8 0) := rfl
  go_enter Tryz.func59, Tryz.ntmps59
  go_wp2_with fail
  go_loopw [4] (fun i w' => ∃ n : Nat, n ≤ 32 ∧ i = .int .i64 n ∧ Ab w w' ∧ VB w' w.heap.size (w8 h) ∧ VB w' (w.heap.size + 1 + 1) (dgv h n) ∧ VB w' (w.heap.size + 1) (dgv h 0)) (fun i _ => 32 - (intOf i).toNat)
  case atStart => exact ⟨0, by omega, rfl, abA, VB.box (xs := (w8 h).toArray) (T := 101) (by (repeat (first | exact new_plain wnA | with_reducible refine old_alloc ?_ | with_reducible refine old_drew ?_ | with_reducible refine old_set ?_ wnA | with_reducible refine old_ab (by assumption) ?_))), VB.box (xs := (dgv h 0).toArray) (T := 27) (by (repeat (first | exact new_plain wnA | with_reducible refine old_alloc ?_ | with_reducible refine old_drew ?_ | with_reducible refine old_set ?_ wnA | with_reducible refine old_ab (by assumption) ?_))), VB.box (xs := (dgv h 0).toArray) (T := 27) (by (repeat (first | exact new_plain wnA | with_reducible refine old_alloc ?_ | with_reducible refine old_drew ?_ | with_reducible refine old_set ?_ wnA | with_reducible refine old_ab (by assumption) ?_)))⟩
  case round =>
    obtain ⟨i, hi, rfl, ha, hx, hv, hz⟩ := hrel
    rename World => w1
    by_cases hlt : i < 32
    · have hT : (i : Int) < 32 := by omega
      have hq : i / 4 < 8 := by omega
      have hr : i % 4 < 4 := by omega
      have c0 : w1.cell? ⟨w.heap.size, i / 4, none⟩ = some (.int .u32 ((h.list.getD (i / 4) 0#32).toNat : Int)) := by
        refine hx.at (i / 4) ?_
        have : i / 4 = 0 ∨ i / 4 = 1 ∨ i / 4 = 2 ∨ i / 4 = 3 ∨ i / 4 = 4 ∨ i / 4 = 5 ∨ i / 4 = 6 ∨ i / 4 = 7 := by omega
        rcases this with e | e | e | e | e | e | e | e <;> rw [e] <;> rfl
      have HB := Lib.hid (dgv_set h (i / 4) (i % 4) hq hr)
      have HC := Lib.hid (byte_shr (h.list.getD (i / 4) 0#32) (24 - 8 * (i % 4)))
      rw [show 4 * (i / 4) + i % 4 = i by omega, show 4 * (i / 4) + (i % 4 + 1) = i + 1 by omega] at HB
      generalize h.list.getD (i / 4) 0#32 = x at *
      have hl := dgv_length h i hi
      obtain ⟨v, hc⟩ : ∃ v, w1.cell? ⟨w.heap.size + 1 + 1, i, none⟩ = some v := ⟨_, hv.q i ((dgv h i)[i]'(by omega)) (by simp)⟩
      have hg := hv.g i
      have n1 : ((i : Int) / 4).toNat = i / 4 := by omega
      have n2 : (i : Int) / 4 < 8 := by omega
      have n3 : (24 - 8 * ((i : Int) % 4)).toNat = 24 - 8 * (i % 4) := by omega
      have n4 : 8 * ((i : Int) % 4) ≤ 24 := by omega
      have n5 : 0 ≤ (i : Int) / 4 := by omega
      have n6 : IntKind.i64.wrap (8 * ((i : Int) % 4)) = 8 * ((i : Int) % 4) := IntWalk.i64_in _ (by omega)
      have n7 : IntKind.i64.wrap (24 - 8 * ((i : Int) % 4)) = 24 - 8 * ((i : Int) % 4) := IntWalk.i64_in _ (by omega)
      have HL := Lib.hid hl
      clear hl
      go_wp2
      rw [HC.out]
      go_roundw
      case rel => exact ⟨i + 1, by omega, by go_num, abA, hx.other (by show w.heap.size + 1 + 1 ≠ w.heap.size; omega) _, by rw [← HB.out]; exact hv.set _ (by rw [HL.out]; omega) _, hz.other (by simp) _⟩
      case measure => simp [intOf]; omega
    · obtain rfl : i = 32 := by omega
      go_wp2_with (first
        | (refine list_ldV _ infoId Tryz.underlying27 rfl rfl _ rfl rfl hv (dgv_length h _ (by omega)) ?_)
        | (refine list_stV _ infoId rfl _ _ rfl rfl rfl hz ((dgv_length h _ (by omega)).trans (dgv_length h _ (by omega)).symm) (dgv_length h _ (by omega)) (dgv_one h _) ?_
           intro w9 h9))
      refine bodyPost_ret (res_V1 _ infoId Tryz.underlying27 rfl Tryz.results59 _ rfl h9.v (dgv_length h _ (by omega))) rfl ?_
      exact ⟨by rw [← HA.out], h9.ab _ ha (by omega)⟩
end Go.Proofs.YthfffbpcmlgoiaaGreatDoor

/- The reference of layer 8: all whole blocks, the digest of bytes. Own work. -/
namespace Go.Proofs.YthfffbpcmlgoiaaGreatDoor
open Go.RowKit

set_option maxRecDepth 100000 in
set_option maxHeartbeats 1000000 in
theorem rafter_any (h : Sha.W8) (A : Option Addr) (l : List UInt8) (c : Nat) (w : World) (hb : RB w 0 A l) (hc : l.length ≤ c) (hl : l.length ≤ 2000000) :
    Calls Tryz.prog 60 #[.agg (w8 h).toArray, .slice A l.length c] w fun e w' => e = .returned (.agg (w8 (Sha.after h l)).toArray) ∧ Ab w w' := by
  have HA : Hid (Sha.after h l = Sha.afterN h l (l.length / 64)) := Lib.hid rfl
  go_enter Tryz.func60, Tryz.ntmps60
  go_upto_region 1 with fail
  have V0 : VB ((w.alloc (.cells (w8 h).toArray 101)).alloc (.cells #[.int .u32 0, .int .u32 0, .int .u32 0, .int .u32 0, .int .u32 0, .int .u32 0, .int .u32 0, .int .u32 0] 101)) w.heap.size (w8 h) := VB.box (xs := (w8 h).toArray) (T := 101) (by (repeat (first | exact new_plain wnA | with_reducible refine old_alloc ?_ | with_reducible refine old_drew ?_ | with_reducible refine old_set ?_ wnA | with_reducible refine old_ab (by assumption) ?_)))
  have Z0 : VB ((w.alloc (.cells (w8 h).toArray 101)).alloc (.cells #[.int .u32 0, .int .u32 0, .int .u32 0, .int .u32 0, .int .u32 0, .int .u32 0, .int .u32 0, .int .u32 0] 101)) (w.heap.size + 1) [.int .u32 0, .int .u32 0, .int .u32 0, .int .u32 0, .int .u32 0, .int .u32 0, .int .u32 0, .int .u32 0] := VB.box (xs := #[.int .u32 0, .int .u32 0, .int .u32 0, .int .u32 0, .int .u32 0, .int .u32 0, .int .u32 0, .int .u32 0]) (T := 101) (by (repeat (first | exact new_plain wnA | with_reducible refine old_alloc ?_ | with_reducible refine old_drew ?_ | with_reducible refine old_set ?_ wnA | with_reducible refine old_ab (by assumption) ?_)))
  have hab0 : Ab w ((w.alloc (.cells (w8 h).toArray 101)).alloc (.cells #[.int .u32 0, .int .u32 0, .int .u32 0, .int .u32 0, .int .u32 0, .int .u32 0, .int .u32 0, .int .u32 0] 101)) := abA
  generalize ((w.alloc (.cells (w8 h).toArray 101)).alloc (.cells #[.int .u32 0, .int .u32 0, .int .u32 0, .int .u32 0, .int .u32 0, .int .u32 0, .int .u32 0, .int .u32 0] 101)) = w0 at *
  go_wp2
  go_loopw [5] (fun i w' => ∃ k : Nat, 64 * k ≤ l.length ∧ i = .int .i64 (64 * (k : Int)) ∧ Ab w w' ∧ VB w' w.heap.size (w8 (Sha.afterN h l k)) ∧ VB w' (w.heap.size + 1) [.int .u32 0, .int .u32 0, .int .u32 0, .int .u32 0, .int .u32 0, .int .u32 0, .int .u32 0, .int .u32 0]) (fun i _ => l.length + 64 - (intOf i).toNat)
  case atStart => exact ⟨0, by omega, rfl, hab0, V0, Z0⟩
  case round =>
    obtain ⟨k, hk, rfl, ha, hx, hz⟩ := hrel
    rename World => w1
    by_cases hlt : 64 * k + 64 ≤ l.length
    · have hT : 64 * (k : Int) + 64 ≤ (l.length : Int) := by omega
      have M : ∀ w0, (Instr.slice 24 (.slice A l.length c) (some (.int .i64 (64 * (k : Int)))) (some (.int .i64 (IntKind.i64.wrap (64 * (k : Int) + 64)))) none).run Tryz.prog w0 = .ok (.slice (cutA A c (64 * k)) 64 (c - 64 * k)) w0 := fun w0 => by
        have := run_cuts (64 * k) (64 * k + 64) .i64 .i64 A l.length c w0 (by omega) (by omega)
        rw [show 64 * k + 64 - 64 * k = 64 by omega] at this
        rw [show IntKind.i64.wrap (64 * (k : Int) + 64) = 64 * (k : Int) + 64 from IntWalk.i64_in _ (by omega)]
        exact_mod_cast this
      have HB : ∀ w', Ab w w' → RB w' 0 (cutA A c (64 * k)) (Sha.blk l k) := fun w' hk' => ((hb.ab hk').cut _ _ hc).take 64
      have hbl := Sha.blk_length l k (by omega)
      have HS : Hid (Sha.afterN h l (k + 1) = Sha.taken (Sha.afterN h l k) (Sha.blk l k)) := Lib.hid rfl
      generalize Sha.afterN h l k = s at *
      generalize Sha.blk l k = m at *
      have TK := fun w' (hk' : Ab w w') => taken_any s (cutA A c (64 * k)) m (c - 64 * k) w' (HB w' hk') (by omega) hbl
      rw [hbl] at TK
      go_upto_region 4 with fail
      refine wp_region_held_drew (by kernel_rfl) (S := fun _ => True) ?_ (fun hHeld => ?_)
      · trivial
      (refine rtA 1 ?_ ?_
       (try simp only [Act.put, stA, st0, st1]))
      (refine rtA 2 ?_ ?_
       (try simp only [Act.put, stA, st0, st1]))
      (refine rtA 3 ?_ ?_
       (try simp only [Act.put, stA, st0, st1]))
      (refine rtA 4 ?_ ?_
       (try simp only [Act.put, stA, st0, st1]))
      (refine rtA 5 ?_ ?_
       (try simp only [Act.put, stA, st0, st1]))
      refine r1A 0 (fun K hK => ?_)
      (try simp only [Act.put, List.getElem_toArray, List.getElem_cons_succ, List.getElem_cons_zero, stA, st0, st1])
      refine if_go (by rfl) ?_
      refine wp_load_mid _ _ rfl w.heap.size 0 rfl (w8 s) _ (VB.range (hx.ab abA)) Tryz.underlying101 rfl (by kernel_rfl) ?_
      (refine hK.out _ _ ?_ (fun hHeld => ?_)
       · (try dsimp only); all_goals trivial
       clear hK K
       (try simp only [Act.put, stA, st0, st1]))
      refine r1A 6 (fun K hK => ?_)
      (go_simp
       (refine (TK _ (ha.trans abA)).mono ?_; rintro e w2 ⟨rfl, hb2⟩)
       (try go_wp2_with fail)
       (refine hK.out _ _ ?_ (fun hHeld => ?_)
        · (try dsimp only); all_goals trivial
        clear hK K
        (try simp only [Act.put, stA, st0, st1])))
      have hb3 : Ab w1 w2 := Ab.trans (by exact abA) hb2
      refine r1A 7 (fun K hK => ?_)
      (try simp only [Act.put, List.getElem_toArray, List.getElem_cons_succ, List.getElem_cons_zero, stA, st0, st1])
      refine if_go (by rfl) ?_
      refine wp_stV (us := w8 (Sha.taken s m)) _ info8 _ _ rfl rfl rfl (hx.ab hb3) (w8_len _).symm (w8_len _) (w8_one _) ?_
      intro w9 h9
      (refine hK.out _ _ ?_ (fun hHeld => ?_)
       · (try dsimp only); all_goals trivial
       clear hK K
       (try simp only [Act.put, stA, st0, st1]))
      refine wpAnyH_done (by kernel_rfl) ?_ _
      go_wp2
      go_roundw
      case rel => exact ⟨k + 1, by omega, by go_num, h9.ab _ (ha.trans hb3) (Nat.le_refl _), by rw [HS.out]; exact h9.v, h9.vb (hz.ab hb3) (by omega)⟩
      case measure => simp [intOf] <;> omega
    · have e : k = l.length / 64 := by omega
      have hT : ¬ 64 * (k : Int) + 64 ≤ (l.length : Int) := by omega
      have HE := Lib.hid e
      clear e
      go_wp2_with (first
        | (refine list_ldV _ info8 Tryz.underlying101 rfl rfl _ rfl rfl hx (w8_len _) ?_)
        | (refine list_stV _ info8 rfl _ _ rfl rfl rfl hz rfl (w8_len _) (w8_one _) ?_
           intro w9 h9))
      refine bodyPost_ret (res_V1 _ info8 Tryz.underlying101 rfl Tryz.results60 _ rfl h9.v (w8_len _)) rfl ?_
      exact ⟨by rw [HA.out, ← HE.out], h9.ab _ ha (by omega)⟩
set_option maxRecDepth 100000 in
/-- What Of returns. -/
theorem rof_any (A : Option Addr) (l : List UInt8) (c : Nat) (w : World) (hb : RB w 0 A l) (hc : l.length ≤ c) (hl : l.length ≤ 1000000) :
    Calls Tryz.prog 37 #[.slice A l.length c] w fun e w' => e = .returned (.agg ((Sha.of l).map cb).toArray) ∧ Ab w w' := by
  have HO : Hid (Sha.of l = Sha.dig (Sha.after Sha.first (l ++ Sha.pad l.length))) := Lib.hid rfl
  have hpl := Sha.pad_length l.length
  have hzl := Sha.zeros_le l.length
  have PD := fun w' => rpadding_any l.length w' hl
  have DG := Lib.hid (fun h w' => rdigest_any h w')
  have AF := Lib.hid (fun (B : Option Addr) (m : List UInt8) (d : Nat) (w' : World) => rafter_any Sha.first B m d w')
  go_enter Tryz.func37, Tryz.ntmps37
  go_wp2_with fail
  have b0 : Ab w (w.alloc (.cells (List.replicate 32 (Value.int .u8 0)).toArray 27)) := abA
  have Z0 : VB (w.alloc (.cells (List.replicate 32 (Value.int .u8 0)).toArray 27)) w.heap.size (List.replicate 32 (.int .u8 0)) := VB.box (xs := (List.replicate 32 (Value.int .u8 0)).toArray) (T := 27) (by (repeat (first | exact new_plain wnA | with_reducible refine old_alloc ?_ | with_reducible refine old_drew ?_ | with_reducible refine old_set ?_ wnA | with_reducible refine old_ab (by assumption) ?_)))
  refine (first_any _).mono ?_
  rintro e w1 ⟨rfl, hb1⟩
  have b1 : Ab w w1 := b0.trans hb1
  have Z1 := Z0.ab hb1
  have s1 : w.heap.size + 1 ≤ w1.heap.size := by have := hb1.size; simpa using this
  clear hb1 Z0 b0
  go_wp2_with (first
    | ((at_builtin
        refine listLit (o := ⟨some 6, _, _, _, _, _⟩) rfl _ _ rfl rfl rfl (m := l) rfl (by (repeat (first | exact new_plain wnA | with_reducible refine old_alloc ?_ | with_reducible refine old_drew ?_ | with_reducible refine old_set ?_ wnA | with_reducible refine old_ab (by assumption) ?_))) (RB.ab hb (show Ab w (w1.alloc (.cells #[] 5)) from b1.trans abA)) hc (by omega) ?_
        intro A1 c1 w2 L1 e1 q1 p1)))
  have b2 : Ab w1 w2 := Ab.trans (by exact abA) q1
  have o1 := p1 w1.heap.size (Nat.le_refl _) (by simp)
  have hL1 : L1 = l := e1.out
  subst hL1
  clear p1 q1 e1
  refine (PD _).mono ?_
  rintro e w3 ⟨A2, c2, rfl, o2, hb3⟩
  have o3 := o1.keep hb3
  have z3 : w1.heap.size ≤ w3.heap.size := (b2.trans hb3).size
  have R2 := o2.rb.zero
  have l2 := o2.le
  rw [hpl] at l2
  go_wp2_with (first
    | ((at_builtin
        refine listApp (o := ⟨some 10, _, _, _, _, _⟩) rfl _ _ rfl rfl rfl (m := Sha.pad L1.length) hpl o3 z3 R2 (by rw [hpl]; exact l2) (by rw [hpl]; omega) ?_
        intro A4 c4 w4 L4 e4 o4 _ g4)))
  have b4 : Ab w1 w4 := g4 w1 (b2.trans hb3) (Nat.le_refl _)
  have hl4 : L4.length ≤ 2000000 := by rw [e4.out, List.length_append, hpl]; omega
  refine (AF.out A4 L4 c4 w4 o4.rb.zero o4.le hl4).mono ?_
  rintro e w5 ⟨rfl, hb5⟩
  have HF : Hid (Sha.dig (Sha.after Sha.first L4) = Sha.of L1) := by rw [e4.out]; exact HO.out.symm
  generalize Sha.after Sha.first L4 = H at *
  have b5 : Ab w1 w5 := b4.trans hb5
  clear hb5 b4 hl4 e4 o4 g4
  go_wp2_with fail
  refine (DG.out H w5).mono ?_
  rintro e w6 ⟨rfl, hb6⟩
  have Z6 := (Z1.ab b5).ab hb6
  have b6 := b1.trans (b5.trans hb6)
  have hdl := Sha.dig_length H
  go_wp2_with (refine list_stV (o := ⟨none, _, _, _, _, _⟩) (us := (Sha.dig H).map cb) _ infoId rfl _ _ rfl rfl rfl Z6 (by simp [hdl]) (by simp [hdl]) (by rw [List.all_map]; exact List.all_eq_true.2 fun x _ => rfl) ?_
               intro w9 h9)
  refine bodyPost_ret (res_V1 _ infoId Tryz.underlying27 rfl Tryz.results37 _ rfl h9.v (by simp [hdl])) rfl ?_
  exact ⟨by rw [← HF.out], h9.ab _ b6 (Nat.le_refl _)⟩
end Go.Proofs.YthfffbpcmlgoiaaGreatDoor
