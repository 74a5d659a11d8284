/- Digests, walked. Own work. -/
import Derived.Test.YtiijehmbpjakhaaDoorShFunD
set_option linter.unusedVariables false
set_option linter.unusedSimpArgs false
namespace Go.Proofs.YtiijehmbpjakhaaDoor
open Go.RowKit

theorem eight_at (h : Sha.W8) (i : Nat) (hi : i < 8) (w : World) : (Instr.index 24 (.agg #[.int .u32 (h.a.toNat : Int), .int .u32 (h.b.toNat : Int), .int .u32 (h.c.toNat : Int), .int .u32 (h.d.toNat : Int), .int .u32 (h.e.toNat : Int), .int .u32 (h.f.toNat : Int), .int .u32 (h.g.toNat : Int), .int .u32 (h.z.toNat : Int)]) (.int .i64 (i : Int))).run Tryd.prog w = .ok (.int .u32 ((h.list.getD i 0#32).toNat : Int)) w := by
  have : i = 0 ∨ i = 1 ∨ i = 2 ∨ i = 3 ∨ i = 4 ∨ i = 5 ∨ i = 6 ∨ i = 7 := by omega
  rcases this with rfl | rfl | rfl | rfl | rfl | rfl | rfl | rfl
  · exact eight_at0 _ _ _ _ _ _ _ _ w
  · exact eight_at1 _ _ _ _ _ _ _ _ w
  · exact eight_at2 _ _ _ _ _ _ _ _ w
  · exact eight_at3 _ _ _ _ _ _ _ _ w
  · exact eight_at4 _ _ _ _ _ _ _ _ w
  · exact eight_at5 _ _ _ _ _ _ _ _ w
  · exact eight_at6 _ _ _ _ _ _ _ _ w
  · exact eight_at7 _ _ _ _ _ _ _ _ w
/-- m bytes of a digest, and zeros. -/
def dgv (h : Sha.W8) (m : Nat) : List Value := ((Sha.dig h).take m ++ List.replicate (32 - m) 0).map cb
theorem dgv_length (h : Sha.W8) (m : Nat) (hm : m ≤ 32) : (dgv h m).length = 32 := by
  unfold dgv; simp [Sha.dig_length]; omega
theorem dgv_all (h : Sha.W8) : dgv h 32 = (Sha.dig h).map cb := by
  unfold dgv
  rw [List.take_of_length_le (Nat.le_of_eq (Sha.dig_length h))]
  simp
theorem dgv_one (h : Sha.W8) (m : Nat) : (dgv h m).all (·.oneCell') = true := by
  unfold dgv
  rw [List.all_map]
  exact List.all_eq_true.2 fun x _ => rfl
theorem dig_at (h : Sha.W8) (i k : Nat) (hi : i < 8) (hk : k < 4) : (Sha.dig h)[4 * i + k]? = some (UInt8.ofNat ((h.list.getD i 0#32).toNat / 2 ^ (24 - 8 * k))) := by
  have h1 : i = 0 ∨ i = 1 ∨ i = 2 ∨ i = 3 ∨ i = 4 ∨ i = 5 ∨ i = 6 ∨ i = 7 := by omega
  have h2 : k = 0 ∨ k = 1 ∨ k = 2 ∨ k = 3 := by omega
  rcases h1 with rfl | rfl | rfl | rfl | rfl | rfl | rfl | rfl <;> rcases h2 with rfl | rfl | rfl | rfl <;> first | rfl | (simp only [Nat.mul_succ, Nat.mul_zero, Nat.sub_self, Nat.pow_zero, Nat.div_one]; rfl)
theorem dgv_set (h : Sha.W8) (i k : Nat) (hi : i < 8) (hk : k < 4) : (dgv h (4 * i + k)).set (4 * i + k) (cb (UInt8.ofNat ((h.list.getD i 0#32).toNat / 2 ^ (24 - 8 * k)))) = dgv h (4 * i + (k + 1)) := by
  have hl := Sha.dig_length h
  have hm : 4 * i + k < 32 := by omega
  unfold dgv
  rw [← List.map_set]
  congr 1
  have e : 32 - (4 * i + k) = (32 - (4 * i + k + 1)) + 1 := by omega
  rw [e, List.replicate_succ, List.set_append_right _ _ (by simp; omega), ← Nat.add_assoc, List.take_add_one, dig_at h i k hi hk]
  simp [hl, Nat.min_eq_left (Nat.le_of_lt hm)]
theorem byte_shr (x : BitVec 32) (k : Nat) : ((x.toNat : Int) / 2 ^ k) % 256 = (((UInt8.ofNat (x.toNat / 2 ^ k)).toNat : Nat) : Int) := byte_shift x.toNat k
set_option maxRecDepth 100000 in
set_option maxHeartbeats 1000000 in
theorem digest_any (h : Sha.W8) (w : World) :
    Calls Tryd.prog 21 #[.agg #[.int .u32 (h.a.toNat : Int), .int .u32 (h.b.toNat : Int), .int .u32 (h.c.toNat : Int), .int .u32 (h.d.toNat : Int), .int .u32 (h.e.toNat : Int), .int .u32 (h.f.toNat : Int), .int .u32 (h.g.toNat : Int), .int .u32 (h.z.toNat : Int)]] w fun e w' => e = .returned (.agg ((Sha.dig h).map cb).toArray) ∧ Ab w w' := by
  have HA := Lib.hid (dgv_all h)
  have D0 : dgv h 0 = List.replicate 32 (.int .u8 0) := rfl
  go_enter Tryd.func21, Tryd.ntmps21
  have V0 : VB (w.alloc (.cells #[.int .u32 (h.a.toNat : Int), .int .u32 (h.b.toNat : Int), .int .u32 (h.c.toNat : Int), .int .u32 (h.d.toNat : Int), .int .u32 (h.e.toNat : Int), .int .u32 (h.f.toNat : Int), .int .u32 (h.g.toNat : Int), .int .u32 (h.z.toNat : Int)] 24)) w.heap.size (w8 h) := VB.box (xs := #[.int .u32 (h.a.toNat : Int), .int .u32 (h.b.toNat : Int), .int .u32 (h.c.toNat : Int), .int .u32 (h.d.toNat : Int), .int .u32 (h.e.toNat : Int), .int .u32 (h.f.toNat : Int), .int .u32 (h.g.toNat : Int), .int .u32 (h.z.toNat : Int)]) (T := 24) (by (repeat (first | exact new_plain wnA | with_reducible refine old_alloc ?_ | with_reducible refine old_drew ?_ | with_reducible refine old_set ?_ wnA | with_reducible refine old_ab (by assumption) ?_)))
  go_wp2_with (refine list_ldV _ info8 Tryd.underlying24 rfl rfl _ rfl rfl (VB.ab V0 abA) rfl ?_)
  go_loopw [8] (fun i w' => ∃ n : Nat, n ≤ 8 ∧ i = .int .i64 n ∧ Ab w w' ∧ VB w' (w.heap.size + 1 + 1) (dgv h (4 * n)) ∧ VB w' (w.heap.size + 1) (dgv h 0)) (fun i _ => 8 - (intOf i).toNat)
  case atStart => exact ⟨0, by omega, rfl, abA, VB.box (xs := (dgv h 0).toArray) (T := 26) (by (repeat (first | exact new_plain wnA | with_reducible refine old_alloc ?_ | with_reducible refine old_drew ?_ | with_reducible refine old_set ?_ wnA | with_reducible refine old_ab (by assumption) ?_))), VB.box (xs := (dgv h 0).toArray) (T := 26) (by (repeat (first | exact new_plain wnA | with_reducible refine old_alloc ?_ | with_reducible refine old_drew ?_ | with_reducible refine old_set ?_ wnA | with_reducible refine old_ab (by assumption) ?_)))⟩
  case round =>
    obtain ⟨i, hi, rfl, ha, hv, hz⟩ := hrel
    rename World => w1
    by_cases hlt : i < 8
    · have hX : (Instr.index 24 (.agg (w8 h).toArray) (.int .i64 (i : Int))).run Tryd.prog w1 = _ := eight_at h i hlt w1
      have HB := Lib.hid (fun k (hk : k < 4) => dgv_set h i k hlt hk)
      have HC := Lib.hid (fun k => byte_shr (h.list.getD i 0#32) k)
      generalize h.list.getD i 0#32 = x at *
      have hT : (i : Int) < 8 := by omega
      go_wp2
      go_loopw [12] (fun j w' => ∃ k : Nat, k ≤ 4 ∧ j = .int .i64 k ∧ Ab w w' ∧ VB w' (w.heap.size + 1 + 1) (dgv h (4 * i + k)) ∧ VB w' (w.heap.size + 1) (dgv h 0)) (fun j _ => 4 - (intOf j).toNat)
      case atStart => exact ⟨0, by omega, rfl, ha, hv, hz⟩
      case round =>
        obtain ⟨k, hk, rfl, ha2, hv2, hz2⟩ := hrel
        rename World => w2
        by_cases hlt2 : k < 4
        · have hl := dgv_length h (4 * i + k) (by omega)
          obtain ⟨v, hq⟩ : ∃ v, w2.cell? ⟨w.heap.size + 1 + 1, 4 * i + k, none⟩ = some v := ⟨_, hv2.q (4 * i + k) ((dgv h (4 * i + k))[4 * i + k]'(by omega)) (by simp)⟩
          have hg := hv2.g (4 * i + k)
          have n1 : (4 * (i : Int) + (k : Int)).toNat = 4 * i + k := by omega
          have n2 : 4 * (i : Int) + (k : Int) < 32 := by omega
          have n3 : (24 - 8 * (k : Int)).toNat = 24 - 8 * k := by omega
          have n4 : 8 * (k : Int) ≤ 24 := by omega
          have n5 : (k : Int) < 4 := by omega
          have HB' := Lib.hid (HB.out k hlt2)
          have HC' := Lib.hid (HC.out (24 - 8 * k))
          have HL := Lib.hid hl
          clear hl
          go_wp2
          rw [HC'.out]
          go_roundw
          case rel => exact ⟨k + 1, by omega, by go_num, abA, by rw [← HB'.out]; exact hv2.set _ (by rw [HL.out]; omega) _, hz2.other (by simp) _⟩
          case measure => simp [intOf]; omega
        · obtain rfl : k = 4 := by omega
          go_wp2
          go_roundw
          case rel => exact ⟨i + 1, by omega, by go_num, ha2, hv2, hz2⟩
          case measure => simp [intOf]; omega
    · obtain rfl : i = 8 := by omega
      go_wp2_with (first
        | (refine list_ldV _ infoId Tryd.underlying26 rfl rfl _ rfl rfl hv (dgv_length h _ (by omega)) ?_)
        | (refine list_stV _ infoId rfl _ _ rfl rfl rfl hz ((dgv_length h _ (by omega)).trans (dgv_length h _ (by omega)).symm) (dgv_length h _ (by omega)) (dgv_one h _) ?_
           intro w9 h9))
      refine bodyPost_ret (res_V1 _ infoId Tryd.underlying26 rfl Tryd.results21 _ rfl h9.v (dgv_length h _ (by omega))) rfl ?_
      exact ⟨by rw [← HA.out], h9.ab _ ha (by omega)⟩
end Go.Proofs.YtiijehmbpjakhaaDoor
