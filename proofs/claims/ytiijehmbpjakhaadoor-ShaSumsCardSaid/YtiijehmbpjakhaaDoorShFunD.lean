/- Paddings and digests, walked. Own work. -/
import Derived.Test.YtiijehmbpjakhaaDoorShFunC
set_option linter.unusedVariables false
set_option linter.unusedSimpArgs false
namespace Go.Proofs.YtiijehmbpjakhaaDoor
open Go.RowKit

/-- The bytes of a block of n bytes of which the first one is 128 and the last k ones are those of a number. -/
def pv (n z k : Nat) : List UInt8 := 128 :: (List.replicate (z + (8 - k)) 0 ++ Sha.low n k)
theorem pv_length (n z k : Nat) (h : k ≤ 8) : (pv n z k).length = z + 9 := by
  unfold pv; simp [Sha.low_length]; omega
theorem pv_set (n z k : Nat) (h : k < 8) : (pv n z k).set (z + 8 - k) (UInt8.ofNat (n / 2 ^ (8 * k))) = pv n z (k + 1) := by
  unfold pv
  have e : z + 8 - k = (z + (8 - (k + 1))) + 1 := by omega
  have e2 : z + (8 - k) = (z + (8 - (k + 1))) + 1 := by omega
  rw [e, List.set_cons_succ, e2, List.replicate_succ', List.append_assoc, List.set_append_right _ _ (by simp)]
  simp [Sha.low]
theorem pv_pad (n : Nat) : pv (8 * n) (Sha.zeros n) 8 = Sha.pad n := by unfold pv Sha.pad; simp
theorem byte_shift (n k : Nat) : ((n : Int) / 2 ^ k) % 256 = (((UInt8.ofNat (n / 2 ^ k)).toNat : Nat) : Int) := by
  rw [UInt8.toNat_ofNat', Int.natCast_emod, Int.natCast_ediv, Int.natCast_pow]
  rfl
/-- What make([]byte, n) lays, as the call's own row. -/
theorem make_own (n : Nat) (hn : n ≤ 16777216) (v : Int) (hv : v = (n : Int)) : ∃ (Z : Array Value), (∀ w : World, (Instr.makeSlice 22 (.int .i64 v) (.int .i64 v)).run Tryd.prog w = .ok (.slice (some ⟨w.heap.size, 0, none⟩) n n) (w.alloc (.cells Z 5))) ∧
    Hid (∀ (w : World) (lo g : Nat), lo ≤ g → w.heap[g]? = some (.cells Z 5 (0, 0)) → OR 5 lo w (some ⟨g, 0, none⟩) n (List.replicate n 0)) := by
  subst hv
  have hi8 : (Tryd.prog.info? 5).map (fun i => (i.zero, i.size, i.bytes)) = some (some (.int .u8 0), 1, 1) := by kernel_rfl
  obtain ⟨i0, hi, hz, hs, hb⟩ := info_parts hi8
  refine ⟨madeCells (Value.int .u8 0).cells n, fun w => ?_, ?_⟩
  · have := run_makeSlice (P := Tryd.prog) w 22 5 i0 _ Tryd.underlying22 hi hz .i64 .i64 n n (by omega) (Int.le_refl _) (by rw [hs]; simp; omega) (by rw [hb]; omega) (by omega)
    rw [hs, Int.toNat_natCast, Nat.mul_one] at this
    exact this
  · unfold Hid
    intro w lo g hlo hg
    have ht : (madeCells #[Value.int .u8 0] n).toList = List.replicate n (.int .u8 0) := toList_madeCells_one _ _
    have hsz : (madeCells #[Value.int .u8 0] n).size = n := by rw [← Array.length_toList, ht, List.length_replicate]
    refine ⟨by simp, .inr ⟨g, n, _, by simp, hlo, hg, by simp, by unfold maxLen; omega, ?_, ?_⟩⟩
    · show (madeCells #[Value.int .u8 0] n).size = n * 1
      rw [hsz, Nat.mul_one]
    · show (madeCells #[Value.int .u8 0] n).toList.take _ = _
      rw [ht]
      simp [cb]
set_option maxHeartbeats 400000 in
theorem padding_any (n : Nat) (w : World) (hn : n ≤ 1000000) :
    Calls Tryd.prog 15 #[.int .i64 (n : Int)] w fun e w' => ∃ g, w.heap.size ≤ g ∧ e = .returned (.slice (some ⟨g, 0, none⟩) (Sha.zeros n + 9) (Sha.zeros n + 9)) ∧ OR 5 w.heap.size w' (some ⟨g, 0, none⟩) (Sha.zeros n + 9) (Sha.pad n) ∧ Ab w w' := by
  have hz := Sha.zeros_le n
  have HP := Lib.hid (pv_pad n)
  have e1 : (119 - (n : Int) % 64) % 64 = (Sha.zeros n : Int) := by unfold Sha.zeros; omega
  have e2 : (119 - (n : Int)) % 64 = (Sha.zeros n : Int) := by unfold Sha.zeros; omega
  generalize Sha.zeros n = z at *
  obtain ⟨Z, hrun, hZ⟩ := make_own (z + 9) (by omega) (1 + (z : Int) + 8) (by omega)
  have HL := Lib.hid (show (List.replicate (z + 9) (0 : UInt8)).length = z + 9 by simp)
  have HV := Lib.hid (show (List.replicate (z + 9) (0 : UInt8)).set 0 128 = pv (8 * n) z 0 by unfold pv; simp [List.replicate_succ, Sha.low])
  go_enter Tryd.func15, Tryd.ntmps15
  go_upto_region 3 with fail
  have ho := hZ.out (w.alloc (.cells Z 5)) w.heap.size w.heap.size (Nat.le_refl _) (by (repeat (first | exact new_plain wnA | with_reducible refine old_alloc ?_ | with_reducible refine old_drew ?_ | with_reducible refine old_set ?_ wnA | with_reducible refine old_ab (by assumption) ?_)))
  have c0 := ho.cellAt (i := 0) (by simp)
  have g0 := ho.unfrozen 0
  have hb0 : Ab w (w.alloc (.cells Z 5)) := abA
  generalize w.alloc (.cells Z 5) = w0 at *
  generalize (List.replicate (z + 9) (0 : UInt8))[0]'(by simp) = v0 at *
  go_wp2
  go_loopw [16] (fun i w' => ∃ k : Nat, k ≤ 8 ∧ i = .int .i64 k ∧ Ab w w' ∧ OR 5 w.heap.size w' (some ⟨w.heap.size, 0, none⟩) (z + 9) (pv (8 * n) z k)) (fun i _ => 8 - (intOf i).toNat)
  case atStart => exact ⟨0, by omega, rfl, abA, by rw [← HV.out]; exact ho.store 0 128⟩
  case round =>
    obtain ⟨k, hk, rfl, hb, hk2⟩ := hrel
    by_cases hlt : k < 8
    · have c1 := hk2.cellAt (i := z + 8 - k) (by rw [pv_length _ _ _ hk]; omega)
      have g1 := hk2.unfrozen (z + 8 - k)
      have n1 : ((z : Int) + 8 - (k : Int)).toNat = z + 8 - k := by omega
      have n2 : 0 ≤ (z : Int) + 8 - (k : Int) := by omega
      have n3 : (z : Int) + 8 - (k : Int) < (z : Int) + 9 := by omega
      have n4 : (k : Int) ≤ (z : Int) + 8 := by omega
      have n5 : IntKind.i64.wrap ((z : Int) + 8 - (k : Int)) = (z : Int) + 8 - (k : Int) := IntWalk.i64_in _ (by omega)
      have n6 : (8 * (k : Int)).toNat = 8 * k := by omega
      have HB := Lib.hid (show 8 * (n : Int) / 2 ^ (8 * k) % 256 = (((UInt8.ofNat (8 * n / 2 ^ (8 * k))).toNat : Nat) : Int) by have := byte_shift (8 * n) (8 * k); rwa [show ((8 * n : Nat) : Int) = 8 * (n : Int) by omega] at this)
      have HS := Lib.hid (pv_set (8 * n) z k hlt)
      generalize (pv (8 * n) z k)[z + 8 - k]'(by rw [pv_length _ _ _ hk]; omega) = v at *
      go_wp2
      rw [HB.out]
      go_roundw
      case rel => exact ⟨k + 1, by omega, by go_num, abA, by rw [← HS.out]; exact hk2.store _ _⟩
      case measure => simp [intOf]; omega
    · obtain rfl : k = 8 := by omega
      go_wp2
      go_ret
      exact ⟨w.heap.size, Nat.le_refl _, rfl, by rw [← HP.out]; exact hk2, hb⟩
end Go.Proofs.YtiijehmbpjakhaaDoor
