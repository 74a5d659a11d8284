/- The step of a register by bytes, walked. Own work. -/
import Derived.Test.YtddmcciegofneaaProg
import Derived.Test.YtddmcciegofneaaMem
import Derived.Test.YtddmcciegofneaaCrc
import Derived.Test.YtddmcciegofneaaCrcInt
set_option linter.unusedVariables false
namespace Go.Proofs.Ytddmcciegofneaa
open Go.RowKit

set_option maxHeartbeats 400000 in
theorem steps_any (r : BitVec 32) (v : Int) (hv : v = (r.toNat : Int)) (A : Option Addr) (l : List UInt8) (c : Nat) (w : World) (hl : RB w 0 A l) (hc : l.length ≤ c) (ll : l.length ≤ 9223372036854775807) :
    Calls Try.prog 19 #[.int .u32 v, .slice A l.length c] w fun e w' => e = .returned (.int .u32 ((Crc.steps r l).toNat : Int)) ∧ w = w' := by
  subst hv
  go_enter Try.func19, Try.ntmps19
  go_wp2
  go_loop [0, 9] (fun t i => ∃ k : Nat, k ≤ l.length ∧ i = .int .i64 k ∧ t = .int .u32 ((Crc.steps r (l.take k)).toNat : Int)) (fun _ i => l.length - (intOf i).toNat)
  case atStart => exact ⟨0, Nat.zero_le _, rfl, rfl⟩
  case round =>
    obtain ⟨k, hk, rfl, rfl⟩ := hrel
    by_cases hlt : k < l.length
    · obtain ⟨ad, hA⟩ : ∃ ad, A = some ad := (hl (by omega)).elim fun a h => ⟨a, h.1⟩
      have hc1 := hl.cell hlt hA
      subst hA
      go_wp2
      go_loop [0, 17] (fun t i => ∃ j : Nat, j ≤ 8 ∧ i = .int .i64 j ∧ t = .int .u32 ((Crc.it j (Crc.steps r (l.take k) ^^^ Crc.ofB l[k])).toNat : Int)) (fun _ i => 8 - (intOf i).toNat)
      case atStart => exact ⟨0, Nat.zero_le _, rfl, by rw [reg_ofB, bx_xor]; rfl⟩
      case round =>
        obtain ⟨j, hj, rfl, rfl⟩ := hrel
        by_cases hj8 : j < 8
        · go_wp2
          go_round
          case rel =>
            exact ⟨j + 1, by omega, by go_num, by rw [step_form, Crc.it_succ']⟩
          case measure => simp [intOf]; omega
        · go_wp2
          go_round
          case rel =>
            obtain rfl : j = 8 := by omega
            exact ⟨k + 1, by omega, by go_num, by rw [Crc.steps_take r l k hlt]⟩
          case measure => simp [intOf]; omega
    · go_wp2
      go_ret
      obtain rfl : k = l.length := by omega
      exact ⟨ret_int (by rw [List.take_length]), rfl⟩

set_option maxHeartbeats 400000 in
theorem back_any (r : BitVec 32) (v : Int) (hv : v = (r.toNat : Int)) (w : World) : Calls Try.prog 22 #[.int .u32 v] w fun e w' => e = .returned (.int .u32 ((Crc.ut 32 r).toNat : Int)) ∧ w = w' := by
  subst hv
  go_enter Try.func22, Try.ntmps22
  go_wp2
  go_loop [0, 4] (fun t i => ∃ j : Nat, j ≤ 32 ∧ i = .int .i64 j ∧ t = .int .u32 ((Crc.ut j r).toNat : Int)) (fun _ i => 32 - (intOf i).toNat)
  case atStart => exact ⟨0, Nat.zero_le _, rfl, rfl⟩
  case round =>
    obtain ⟨j, hj, rfl, rfl⟩ := hrel
    by_cases hj8 : j < 32
    · go_wp2
      go_round
      case rel =>
        exact ⟨j + 1, by omega, by go_num, by rw [back_form, Crc.ut_succ']⟩
      case measure => simp [intOf]; omega
    · go_wp2
      go_ret
      obtain rfl : j = 32 := by omega
      exact ⟨rfl, rfl⟩
end Go.Proofs.Ytddmcciegofneaa
