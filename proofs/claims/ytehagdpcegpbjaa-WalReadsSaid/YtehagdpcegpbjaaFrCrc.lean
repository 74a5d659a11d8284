/- Layer 2, as layer 3 calls it. Own work. -/
import Derived.Test.YtehagdpcegpbjaaProg
import Derived.Test.YtehagdpcegpbjaaMem
import Derived.Test.YtehagdpcegpbjaaCrc
import Derived.Test.YtehagdpcegpbjaaCrcInt
import Derived.Test.YtehagdpcegpbjaaLit
set_option linter.unusedVariables false
namespace Go.Proofs.Ytehagdpcegpbjaa
open Go.RowKit

set_option maxHeartbeats 400000 in
theorem steps_any (r : BitVec 32) (v : Int) (hv : v = (r.toNat : Int)) (A : Option Addr) (l : List UInt8) (c : Nat) (w : World) (hl : RB w 0 A l) (hc : l.length ≤ c) (ll : l.length ≤ 9223372036854775807) :
    Calls Try.prog 90 #[.int .u32 v, .slice A l.length c] w fun e w' => e = .returned (.int .u32 ((Crc.steps r l).toNat : Int)) ∧ w = w' := by
  subst hv
  go_enter Try.func90, Try.ntmps90
  go_wp2
  go_loop [0, 9] (fun t i => ∃ k : Nat, k ≤ l.length ∧ i = .int .i64 k ∧ t = .int .u32 ((Crc.steps r (l.take k)).toNat : Int)) (fun _ i => l.length - (intOf i).toNat)
  case atStart => exact ⟨0, Nat.zero_le _, rfl, rfl⟩
  case round =>
    obtain ⟨k, hk, rfl, rfl⟩ := hrel
    by_cases hlt : k < l.length
    · obtain ⟨ad, hA⟩ : ∃ ad, A = some ad := (hl (by omega)).elim fun a h => ⟨a, h.1⟩
      have hc1 := hl.cell hlt hA
      subst hA
      go_wp2
      go_loop [0, 17] (fun t i => ∃ j : Nat, j ≤ 8 ∧ i = .int .i64 j ∧ t = .int .u32 ((Crc.it j (Crc.steps r (l.take k) ^^^ Crc.ofB l[k])).toNat : Int)) (fun _ i => 8 - (intOf i).toNat)
      case atStart => exact ⟨0, Nat.zero_le _, rfl, by rw [reg_ofB, bx_xor]; rfl⟩
      case round =>
        obtain ⟨j, hj, rfl, rfl⟩ := hrel
        by_cases hj8 : j < 8
        · go_wp2
          go_round
          case rel =>
            exact ⟨j + 1, by omega, by go_num, by rw [step_form, Crc.it_succ']⟩
          case measure => simp [intOf]; omega
        · go_wp2
          go_round
          case rel =>
            obtain rfl : j = 8 := by omega
            exact ⟨k + 1, by omega, by go_num, by rw [Crc.steps_take r l k hlt]⟩
          case measure => simp [intOf]; omega
    · go_wp2
      go_ret
      obtain rfl : k = l.length := by omega
      exact ⟨ret_int (by rw [List.take_length]), rfl⟩

theorem update_any (x : BitVec 32) (v : Int) (hv : v = (x.toNat : Int)) (A : Option Addr) (l : List UInt8) (c : Nat) (w : World) (hl : RB w 0 A l) (hc : l.length ≤ c) (ll : l.length ≤ 9223372036854775807) :
    Calls Try.prog 85 #[.int .u32 v, .slice A l.length c] w fun e w' => e = .returned (.tuple #[.int .u32 ((Crc.updE x l).toNat : Int), .int .i64 (Crc.errE l)]) ∧ w = w' := by
  subst hv
  by_cases h20 : l.length ≤ 20000
  · go_enter Try.func85, Try.ntmps85
    go_wp2_with fail
    refine (steps_any (~~~ x) _ (not_form x) A l c _ hl hc ll).mono ?_
    rintro e w' ⟨rfl, rfl⟩
    go_wp2
    go_ret2
    exact ⟨by rw [Crc.updE_le h20, Crc.errE_le h20]; exact ret_pair (not_form (Crc.steps (~~~ x) l)) rfl, rfl⟩
  · go_enter Try.func85, Try.ntmps85
    go_wp2
    go_ret2
    exact ⟨by rw [Crc.updE_gt h20, Crc.errE_gt h20]; rfl, rfl⟩

theorem sum_any (A : Option Addr) (l : List UInt8) (c : Nat) (w : World) (hl : RB w 0 A l) (hc : l.length ≤ c) (ll : l.length ≤ 9223372036854775807) :
    Calls Try.prog 84 #[.slice A l.length c] w fun e w' => e = .returned (.tuple #[.int .u32 ((Crc.sumE l).toNat : Int), .int .i64 (Crc.errE l)]) ∧ w = w' := by
  go_enter Try.func84, Try.ntmps84
  go_wp2_with fail
  refine (update_any 0#32 _ rfl A l c _ hl hc ll).mono ?_
  rintro e w' ⟨rfl, rfl⟩
  go_wp2
  go_ret2
  exact ⟨rfl, rfl⟩


theorem refStep_any (r x : BitVec 32) (v : Int) (hv : v = (x.toNat : Int)) (hx : x.toNat ≤ 1) (w : World) :
    Calls Try.prog 91 #[.int .u32 (r.toNat : Int), .int .u32 v] w fun e w' => e = .returned (.int .u32 ((Crc.S (r ^^^ x)).toNat : Int)) ∧ w = w' := by
  subst hv
  have ht := test_form r x
  cases hb : (r ^^^ x).getLsbD 0
  · rw [hb] at ht
    have HN := Lib.hid (step_no r x hx hb)
    clear hb
    go_enter Try.func91, Try.ntmps91
    go_wp2
    go_ret
    exact ⟨ret_int HN.out, rfl⟩
  · rw [hb] at ht
    have HN := Lib.hid (step_yes r x hx hb)
    clear hb
    go_enter Try.func91, Try.ntmps91
    go_wp2
    go_ret
    exact ⟨ret_int HN.out, rfl⟩

set_option maxHeartbeats 400000 in
theorem refByte_any (r : BitVec 32) (v : Int) (hv : v = (r.toNat : Int)) (b : UInt8) (w : World) :
    Calls Try.prog 89 #[.int .u32 v, .int .u8 (b.toNat : Int)] w fun e w' => e = .returned (.int .u32 ((Crc.stepB r b).toNat : Int)) ∧ w = w' := by
  subst hv
  go_enter Try.func89, Try.ntmps89
  go_wp2
  go_loop [0, 5] (fun t i => ∃ j : Nat, j ≤ 8 ∧ i = .int .i64 j ∧ t = .int .u32 ((Crc.refIt r b j).toNat : Int)) (fun _ i => 8 - (intOf i).toNat)
  case atStart => exact ⟨0, Nat.zero_le _, rfl, by rw [Crc.refIt_zero]⟩
  case round =>
    obtain ⟨j, hj, rfl, rfl⟩ := hrel
    by_cases hlt : j < 8
    · go_wp2_with fail
      refine (refStep_any (Crc.refIt r b j) (Crc.bitOf b j) _ (bit_form b j) (Crc.bitOf_le b j) _).mono ?_
      rintro e w' ⟨rfl, rfl⟩
      go_wp2
      go_round
      case rel => exact ⟨j + 1, by omega, by go_num, by rw [Crc.refIt_succ r b j hlt]⟩
      case measure => simp [intOf]; omega
    · go_wp2
      go_ret
      obtain rfl : j = 8 := by omega
      exact ⟨ret_int (by rw [Crc.refIt_eight]), rfl⟩

set_option maxHeartbeats 400000 in
theorem refBytes_any (r : BitVec 32) (v : Int) (hv : v = (r.toNat : Int)) (A : Option Addr) (l : List UInt8) (c : Nat) (w : World) (hl : RB w 0 A l) (hc : l.length ≤ c) (ll : l.length ≤ 9223372036854775807) :
    Calls Try.prog 81 #[.int .u32 v, .slice A l.length c] w fun e w' => e = .returned (.int .u32 ((Crc.steps r l).toNat : Int)) ∧ w = w' := by
  subst hv
  go_enter Try.func81, Try.ntmps81
  go_wp2
  go_loop [0, 5] (fun t i => ∃ k : Nat, k ≤ l.length ∧ i = .int .i64 k ∧ t = .int .u32 ((Crc.steps r (l.take k)).toNat : Int)) (fun _ i => l.length - (intOf i).toNat)
  case atStart => exact ⟨0, Nat.zero_le _, rfl, rfl⟩
  case round =>
    obtain ⟨k, hk, rfl, rfl⟩ := hrel
    by_cases hlt : k < l.length
    · obtain ⟨ad, hA⟩ : ∃ ad, A = some ad := (hl (by omega)).elim fun a h => ⟨a, h.1⟩
      have hc1 := hl.cell hlt hA
      subst hA
      go_wp2_with fail
      refine (refByte_any (Crc.steps r (l.take k)) _ rfl l[k] _).mono ?_
      rintro e w' ⟨rfl, rfl⟩
      go_wp2
      go_round
      case rel => exact ⟨k + 1, by omega, by go_num, by rw [Crc.steps_take' r l k hlt]⟩
      case measure => simp [intOf]; omega
    · go_wp2
      go_ret
      obtain rfl : k = l.length := by omega
      exact ⟨ret_int (by rw [List.take_length]), rfl⟩

theorem refOf_any (A : Option Addr) (l : List UInt8) (c : Nat) (w : World) (hl : RB w 0 A l) (hc : l.length ≤ c) (ll : l.length ≤ 9223372036854775807) :
    Calls Try.prog 75 #[.slice A l.length c] w fun e w' => e = .returned (.int .u32 ((Crc.sum l).toNat : Int)) ∧ w = w' := by
  go_enter Try.func75, Try.ntmps75
  go_wp2_with fail
  refine (refBytes_any (~~~ 0#32) _ ones_lit A l c _ hl hc ll).mono ?_
  rintro e w' ⟨rfl, rfl⟩
  go_wp2
  go_ret
  exact ⟨ret_int (not_form (Crc.steps (~~~ 0#32) l)), rfl⟩
end Go.Proofs.Ytehagdpcegpbjaa
