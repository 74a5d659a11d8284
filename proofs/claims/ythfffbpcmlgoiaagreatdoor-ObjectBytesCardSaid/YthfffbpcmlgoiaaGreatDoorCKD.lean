/- The texts ShFunD, ShFunE, one behind the other. Own work. -/
import Derived.Test.YthfffbpcmlgoiaaGreatDoorCShFunC
set_option linter.unusedVariables false
set_option linter.unusedSimpArgs false
/- Paddings and digests, walked. Own work. -/
namespace Go.Proofs.YthfffbpcmlgoiaaGreatDoor
open Go.RowKit

/-- The bytes of a block of n bytes of which the first one is 128 and the last k ones are those of a number. -/
def pv (n z k : Nat) : List UInt8 := 128 :: (List.replicate (z + (8 - k)) 0 ++ Sha.low n k)
theorem pv_length (n z k : Nat) (h : k ≤ 8) : (pv n z k).length = z + 9 := by
  unfold pv; simp [Sha.low_length]; omega
theorem pv_set (n z k : Nat) (h : k < 8) : (pv n z k).set (z + 8 - k) (UInt8.ofNat (n / 2 ^ (8 * k))) = pv n z (k + 1) := by
  unfold pv
  have e : z + 8 - k = (z + (8 - (k + 1))) + 1 := by omega
  have e2 : z + (8 - k) = (z + (8 - (k + 1))) + 1 := by omega
  rw [e, List.set_cons_succ, e2, List.replicate_succ', List.append_assoc, List.set_append_right _ _ (by simp)]
  simp [Sha.low]
theorem pv_pad (n : Nat) : pv (8 * n) (Sha.zeros n) 8 = Sha.pad n := by unfold pv Sha.pad; simp
theorem byte_shift (n k : Nat) : ((n : Int) / 2 ^ k) % 256 = (((UInt8.ofNat (n / 2 ^ k)).toNat : Nat) : Int) := by
  rw [UInt8.toNat_ofNat', Int.natCast_emod, Int.natCast_ediv, Int.natCast_pow]
  rfl
/-- What make([]byte, n) lays, as the call's own row. -/
theorem make_own (n : Nat) (hn : n ≤ 16777216) (v : Int) (hv : v = (n : Int)) : ∃ (Z : Array Value), (∀ w : World, (Instr.makeSlice 24 (.int .i64 v) (.int .i64 v)).run Tryz.prog w = .ok (.slice (some ⟨w.heap.size, 0, none⟩) n n) (w.alloc (.cells Z 5))) ∧
    Hid (∀ (w : World) (lo g : Nat), lo ≤ g → w.heap[g]? = some (.cells Z 5 (0, 0)) → OR 5 lo w (some ⟨g, 0, none⟩) n (List.replicate n 0)) := by
  subst hv
  have hi8 : (Tryz.prog.info? 5).map (fun i => (i.zero, i.size, i.bytes)) = some (some (.int .u8 0), 1, 1) := by kernel_rfl
  obtain ⟨i0, hi, hz, hs, hb⟩ := info_parts hi8
  refine ⟨madeCells (Value.int .u8 0).cells n, fun w => ?_, ?_⟩
  · have := run_makeSlice (P := Tryz.prog) w 24 5 i0 _ Tryz.underlying24 hi hz .i64 .i64 n n (by omega) (Int.le_refl _) (by rw [hs]; simp; omega) (by rw [hb]; omega) (by omega)
    rw [hs, Int.toNat_natCast, Nat.mul_one] at this
    exact this
  · unfold Hid
    intro w lo g hlo hg
    have ht : (madeCells #[Value.int .u8 0] n).toList = List.replicate n (.int .u8 0) := toList_madeCells_one _ _
    have hsz : (madeCells #[Value.int .u8 0] n).size = n := by rw [← Array.length_toList, ht, List.length_replicate]
    refine ⟨by simp, .inr ⟨g, n, _, by simp, hlo, hg, by simp, by unfold maxLen; omega, ?_, ?_⟩⟩
    · show (madeCells #[Value.int .u8 0] n).size = n * 1
      rw [hsz, Nat.mul_one]
    · show (madeCells #[Value.int .u8 0] n).toList.take _ = _
      rw [ht]
      simp [cb]
set_option maxHeartbeats 400000 in
theorem padding_any (n : Nat) (w : World) (hn : n ≤ 1000000) :
    Calls Tryz.prog 103 #[.int .i64 (n : Int)] w fun e w' => ∃ g, w.heap.size ≤ g ∧ e = .returned (.slice (some ⟨g, 0, none⟩) (Sha.zeros n + 9) (Sha.zeros n + 9)) ∧ OR 5 w.heap.size w' (some ⟨g, 0, none⟩) (Sha.zeros n + 9) (Sha.pad n) ∧ Ab w w' := by
  have hz := Sha.zeros_le n
  have HP := Lib.hid (pv_pad n)
  have e1 : (119 - (n : Int) % 64) % 64 = (Sha.zeros n : Int) := by unfold Sha.zeros; omega
  have e2 : (119 - (n : Int)) % 64 = (Sha.zeros n : Int) := by unfold Sha.zeros; omega
  generalize Sha.zeros n = z at *
  obtain ⟨Z, hrun, hZ⟩ := make_own (z + 9) (by omega) (1 + (z : Int) + 8) (by omega)
  have HL := Lib.hid (show (List.replicate (z + 9) (0 : UInt8)).length = z + 9 by simp)
  have HV := Lib.hid (show (List.replicate (z + 9) (0 : UInt8)).set 0 128 = pv (8 * n) z 0 by unfold pv; simp [List.replicate_succ, Sha.low])
  go_enter Tryz.func103, Tryz.ntmps103
  go_upto_region 3 with fail
  have ho := hZ.out (w.alloc (.cells Z 5)) w.heap.size w.heap.size (Nat.le_refl _) (by (repeat (first | exact new_plain wnA | with_reducible refine old_alloc ?_ | with_reducible refine old_drew ?_ | with_reducible refine old_set ?_ wnA | with_reducible refine old_ab (by assumption) ?_)))
  have c0 := ho.cellAt (i := 0) (by simp)
  have g0 := ho.unfrozen 0
  have hb0 : Ab w (w.alloc (.cells Z 5)) := abA
  generalize w.alloc (.cells Z 5) = w0 at *
  generalize (List.replicate (z + 9) (0 : UInt8))[0]'(by simp) = v0 at *
  go_wp2
  go_loopw [16] (fun i w' => ∃ k : Nat, k ≤ 8 ∧ i = .int .i64 k ∧ Ab w w' ∧ OR 5 w.heap.size w' (some ⟨w.heap.size, 0, none⟩) (z + 9) (pv (8 * n) z k)) (fun i _ => 8 - (intOf i).toNat)
  case atStart => exact ⟨0, by omega, rfl, abA, by rw [← HV.out]; exact ho.store 0 128⟩
  case round =>
    obtain ⟨k, hk, rfl, hb, hk2⟩ := hrel
    by_cases hlt : k < 8
    · have c1 := hk2.cellAt (i := z + 8 - k) (by rw [pv_length _ _ _ hk]; omega)
      have g1 := hk2.unfrozen (z + 8 - k)
      have n1 : ((z : Int) + 8 - (k : Int)).toNat = z + 8 - k := by omega
      have n2 : 0 ≤ (z : Int) + 8 - (k : Int) := by omega
      have n3 : (z : Int) + 8 - (k : Int) < (z : Int) + 9 := by omega
      have n4 : (k : Int) ≤ (z : Int) + 8 := by omega
      have n5 : IntKind.i64.wrap ((z : Int) + 8 - (k : Int)) = (z : Int) + 8 - (k : Int) := IntWalk.i64_in _ (by omega)
      have n6 : (8 * (k : Int)).toNat = 8 * k := by omega
      have HB := Lib.hid (show 8 * (n : Int) / 2 ^ (8 * k) % 256 = (((UInt8.ofNat (8 * n / 2 ^ (8 * k))).toNat : Nat) : Int) by have := byte_shift (8 * n) (8 * k); rwa [show ((8 * n : Nat) : Int) = 8 * (n : Int) by omega] at this)
      have HS := Lib.hid (pv_set (8 * n) z k hlt)
      generalize (pv (8 * n) z k)[z + 8 - k]'(by rw [pv_length _ _ _ hk]; omega) = v at *
      go_wp2
      rw [HB.out]
      go_roundw
      case rel => exact ⟨k + 1, by omega, by go_num, abA, by rw [← HS.out]; exact hk2.store _ _⟩
      case measure => simp [intOf]; omega
    · obtain rfl : k = 8 := by omega
      go_wp2
      go_ret
      exact ⟨w.heap.size, Nat.le_refl _, rfl, by rw [← HP.out]; exact hk2, hb⟩
end Go.Proofs.YthfffbpcmlgoiaaGreatDoor

/- Digests, walked. Own work. -/
namespace Go.Proofs.YthfffbpcmlgoiaaGreatDoor
open Go.RowKit

theorem eight_at (h : Sha.W8) (i : Nat) (hi : i < 8) (w : World) : (Instr.index 101 (.agg #[.int .u32 (h.a.toNat : Int), .int .u32 (h.b.toNat : Int), .int .u32 (h.c.toNat : Int), .int .u32 (h.d.toNat : Int), .int .u32 (h.e.toNat : Int), .int .u32 (h.f.toNat : Int), .int .u32 (h.g.toNat : Int), .int .u32 (h.z.toNat : Int)]) (.int .i64 (i : Int))).run Tryz.prog w = .ok (.int .u32 ((h.list.getD i 0#32).toNat : Int)) w := by
  have : i = 0 ∨ i = 1 ∨ i = 2 ∨ i = 3 ∨ i = 4 ∨ i = 5 ∨ i = 6 ∨ i = 7 := by omega
  rcases this with rfl | rfl | rfl | rfl | rfl | rfl | rfl | rfl
  · exact eight_at0 _ _ _ _ _ _ _ _ w
  · exact eight_at1 _ _ _ _ _ _ _ _ w
  · exact eight_at2 _ _ _ _ _ _ _ _ w
  · exact eight_at3 _ _ _ _ _ _ _ _ w
  · exact eight_at4 _ _ _ _ _ _ _ _ w
  · exact eight_at5 _ _ _ _ _ _ _ _ w
  · exact eight_at6 _ _ _ _ _ _ _ _ w
  · exact eight_at7 _ _ _ _ _ _ _ _ w
/-- m bytes of a digest, and zeros. -/
def dgv (h : Sha.W8) (m : Nat) : List Value := ((Sha.dig h).take m ++ List.replicate (32 - m) 0).map cb
theorem dgv_length (h : Sha.W8) (m : Nat) (hm : m ≤ 32) : (dgv h m).length = 32 := by
  unfold dgv; simp [Sha.dig_length]; omega
theorem dgv_all (h : Sha.W8) : dgv h 32 = (Sha.dig h).map cb := by
  unfold dgv
  rw [List.take_of_length_le (Nat.le_of_eq (Sha.dig_length h))]
  simp
theorem dgv_one (h : Sha.W8) (m : Nat) : (dgv h m).all (·.oneCell') = true := by
  unfold dgv
  rw [List.all_map]
  exact List.all_eq_true.2 fun x _ => rfl
theorem dig_at (h : Sha.W8) (i k : Nat) (hi : i < 8) (hk : k < 4) : (Sha.dig h)[4 * i + k]? = some (UInt8.ofNat ((h.list.getD i 0#32).toNat / 2 ^ (24 - 8 * k))) := by
  have h1 : i = 0 ∨ i = 1 ∨ i = 2 ∨ i = 3 ∨ i = 4 ∨ i = 5 ∨ i = 6 ∨ i = 7 := by omega
  have h2 : k = 0 ∨ k = 1 ∨ k = 2 ∨ k = 3 := by omega
  rcases h1 with rfl | rfl | rfl | rfl | rfl | rfl | rfl | rfl <;> rcases h2 with rfl | rfl | rfl | rfl <;> first | rfl | (simp only [Nat.mul_succ, Nat.mul_zero, Nat.sub_self, Nat.pow_zero, Nat.div_one]; rfl)
theorem dgv_set (h : Sha.W8) (i k : Nat) (hi : i < 8) (hk : k < 4) : (dgv h (4 * i + k)).set (4 * i + k) (cb (UInt8.ofNat ((h.list.getD i 0#32).toNat / 2 ^ (24 - 8 * k)))) = dgv h (4 * i + (k + 1)) := by
  have hl := Sha.dig_length h
  have hm : 4 * i + k < 32 := by omega
  unfold dgv
  rw [← List.map_set]
  congr 1
  have e : 32 - (4 * i + k) = (32 - (4 * i + k + 1)) + 1 := by omega
  rw [e, List.replicate_succ, List.set_append_right _ _ (by simp; omega), ← Nat.add_assoc, List.take_add_one, dig_at h i k hi hk]
  simp [hl, Nat.min_eq_left (Nat.le_of_lt hm)]
theorem byte_shr (x : BitVec 32) (k : Nat) : ((x.toNat : Int) / 2 ^ k) % 256 = (((UInt8.ofNat (x.toNat / 2 ^ k)).toNat : Nat) : Int) := byte_shift x.toNat k
set_option maxRecDepth 100000 in
set_option maxHeartbeats 1000000 in
theorem digest_any (h : Sha.W8) (w : World) :
    Calls Tryz.prog 104 #[.agg #[.int .u32 (h.a.toNat : Int), .int .u32 (h.b.toNat : Int), .int .u32 (h.c.toNat : Int), .int .u32 (h.d.toNat : Int), .int .u32 (h.e.toNat : Int), .int .u32 (h.f.toNat : Int), .int .u32 (h.g.toNat : Int), .int .u32 (h.z.toNat : Int)]] w fun e w' => e = .returned (.agg ((Sha.dig h).map cb).toArray) ∧ Ab w w' := by
  have HA := Lib.hid (dgv_all h)
  have D0 : dgv h 0 = List.replicate 32 (.int .u8 0) := rfl
  go_enter Tryz.func104, Tryz.ntmps104
  have V0 : VB (w.alloc (.cells #[.int .u32 (h.a.toNat : Int), .int .u32 (h.b.toNat : Int), .int .u32 (h.c.toNat : Int), .int .u32 (h.d.toNat : Int), .int .u32 (h.e.toNat : Int), .int .u32 (h.f.toNat : Int), .int .u32 (h.g.toNat : Int), .int .u32 (h.z.toNat : Int)] 101)) w.heap.size (w8 h) := VB.box (xs := #[.int .u32 (h.a.toNat : Int), .int .u32 (h.b.toNat : Int), .int .u32 (h.c.toNat : Int), .int .u32 (h.d.toNat : Int), .int .u32 (h.e.toNat : Int), .int .u32 (h.f.toNat : Int), .int .u32 (h.g.toNat : Int), .int .u32 (h.z.toNat : Int)]) (T := 101) (by (repeat (first | exact new_plain wnA | with_reducible refine old_alloc ?_ | with_reducible refine old_drew ?_ | with_reducible refine old_set ?_ wnA | with_reducible refine old_ab (by assumption) ?_)))
  go_wp2_with (refine list_ldV _ info8 Tryz.underlying101 rfl rfl _ rfl rfl (VB.ab V0 abA) rfl ?_)
  go_loopw [8] (fun i w' => ∃ n : Nat, n ≤ 8 ∧ i = .int .i64 n ∧ Ab w w' ∧ VB w' (w.heap.size + 1 + 1) (dgv h (4 * n)) ∧ VB w' (w.heap.size + 1) (dgv h 0)) (fun i _ => 8 - (intOf i).toNat)
  case atStart => exact ⟨0, by omega, rfl, abA, VB.box (xs := (dgv h 0).toArray) (T := 27) (by (repeat (first | exact new_plain wnA | with_reducible refine old_alloc ?_ | with_reducible refine old_drew ?_ | with_reducible refine old_set ?_ wnA | with_reducible refine old_ab (by assumption) ?_))), VB.box (xs := (dgv h 0).toArray) (T := 27) (by (repeat (first | exact new_plain wnA | with_reducible refine old_alloc ?_ | with_reducible refine old_drew ?_ | with_reducible refine old_set ?_ wnA | with_reducible refine old_ab (by assumption) ?_)))⟩
  case round =>
    obtain ⟨i, hi, rfl, ha, hv, hz⟩ := hrel
    rename World => w1
    by_cases hlt : i < 8
    · have hX : (Instr.index 101 (.agg (w8 h).toArray) (.int .i64 (i : Int))).run Tryz.prog w1 = _ := eight_at h i hlt w1
      have HB := Lib.hid (fun k (hk : k < 4) => dgv_set h i k hlt hk)
      have HC := Lib.hid (fun k => byte_shr (h.list.getD i 0#32) k)
      generalize h.list.getD i 0#32 = x at *
      have hT : (i : Int) < 8 := by omega
      go_wp2
      go_loopw [12] (fun j w' => ∃ k : Nat, k ≤ 4 ∧ j = .int .i64 k ∧ Ab w w' ∧ VB w' (w.heap.size + 1 + 1) (dgv h (4 * i + k)) ∧ VB w' (w.heap.size + 1) (dgv h 0)) (fun j _ => 4 - (intOf j).toNat)
      case atStart => exact ⟨0, by omega, rfl, ha, hv, hz⟩
      case round =>
        obtain ⟨k, hk, rfl, ha2, hv2, hz2⟩ := hrel
        rename World => w2
        by_cases hlt2 : k < 4
        · have hl := dgv_length h (4 * i + k) (by omega)
          obtain ⟨v, hq⟩ : ∃ v, w2.cell? ⟨w.heap.size + 1 + 1, 4 * i + k, none⟩ = some v := ⟨_, hv2.q (4 * i + k) ((dgv h (4 * i + k))[4 * i + k]'(by omega)) (by simp)⟩
          have hg := hv2.g (4 * i + k)
          have n1 : (4 * (i : Int) + (k : Int)).toNat = 4 * i + k := by omega
          have n2 : 4 * (i : Int) + (k : Int) < 32 := by omega
          have n3 : (24 - 8 * (k : Int)).toNat = 24 - 8 * k := by omega
          have n4 : 8 * (k : Int) ≤ 24 := by omega
          have n5 : (k : Int) < 4 := by omega
          have HB' := Lib.hid (HB.out k hlt2)
          have HC' := Lib.hid (HC.out (24 - 8 * k))
          have HL := Lib.hid hl
          clear hl
          go_wp2
          rw [HC'.out]
          go_roundw
          case rel => exact ⟨k + 1, by omega, by go_num, abA, by rw [← HB'.out]; exact hv2.set _ (by rw [HL.out]; omega) _, hz2.other (by simp) _⟩
          case measure => simp [intOf]; omega
        · obtain rfl : k = 4 := by omega
          go_wp2
          go_roundw
          case rel => exact ⟨i + 1, by omega, by go_num, ha2, hv2, hz2⟩
          case measure => simp [intOf]; omega
    · obtain rfl : i = 8 := by omega
      go_wp2_with (first
        | (refine list_ldV _ infoId Tryz.underlying27 rfl rfl _ rfl rfl hv (dgv_length h _ (by omega)) ?_)
        | (refine list_stV _ infoId rfl _ _ rfl rfl rfl hz ((dgv_length h _ (by omega)).trans (dgv_length h _ (by omega)).symm) (dgv_length h _ (by omega)) (dgv_one h _) ?_
           intro w9 h9))
      refine bodyPost_ret (res_V1 _ infoId Tryz.underlying27 rfl Tryz.results104 _ rfl h9.v (dgv_length h _ (by omega))) rfl ?_
      exact ⟨by rw [← HA.out], h9.ab _ ha (by omega)⟩
end Go.Proofs.YthfffbpcmlgoiaaGreatDoor
