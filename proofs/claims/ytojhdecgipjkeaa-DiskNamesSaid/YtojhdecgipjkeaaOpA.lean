import Derived.Test.YtojhdecgipjkeaaPost
set_option linter.unusedVariables false
namespace Go.Proofs.Ytojhdecgipjkeaa
open Go.RowKit Disk

theorem isOp_any (k n : Int) (C : Option Addr) (cc : Nat) (b : List UInt8) (w : World) :
    Calls Try.prog 52 #[.agg #[.int .u8 k, .slice C b.length cc, .int .i64 n]] w fun e w' => e = .returned (.bool (decide (Op.ok ⟨k, b, n⟩))) ∧ Ab w w' := by
  have HO := Lib.hid (show Op.ok ⟨k, b, n⟩ ↔ ((k = 1 ∧ n = 0) ∨ ((k = 3 ∨ k = 4 ∨ k = 5) ∧ b.length = 0) ∨ ((k = 2 ∨ k = 6) ∧ b.length = 0 ∧ n = 0)) by
    simp only [Op.ok, List.length_eq_zero_iff])
  go_enter Try.func52, Try.ntmps52
  go_wp2
  all_goals go_ret
  all_goals refine ⟨ret_bool ?_, (by repeat (first | with_reducible exact Ab.refl _ | with_reducible assumption | with_reducible refine Ab.drew ?_ | with_reducible refine Ab.drewN ?_ _ | with_reducible refine Ab.alloc ?_ _ | with_reducible refine Ab.trans ?_ (by assumption) | with_reducible refine Ab.set ?_ (by first | (simp; done) | omega | (simp; omega)) _))⟩
  all_goals rw [Bool.eq_iff_iff, decide_eq_true_iff, HO.out]
  all_goals (try subst_vars)
  all_goals clear HO
  all_goals simp only [beq_iff_eq, beq_eq_false_iff_ne, ne_eq, List.length_nil, List.length_eq_zero_iff, Bool.false_eq_true] at *
  all_goals first | omega | (simp_all; done) | (simp_all; omega)

theorem valid_any (k n : Int) (C : Option Addr) (cc : Nat) (b : List UInt8) (w : World) :
    Calls Try.prog 53 #[.agg #[.int .u8 k, .slice C b.length cc, .int .i64 n]] w fun e w' => e = .returned (.bool (decide (Op.ok ⟨k, b, n⟩))) ∧ Ab w w' := by
  have HO := Lib.hid (show Op.ok ⟨k, b, n⟩ ↔ ((k = 1 ∧ n = 0) ∨ ((k = 3 ∨ k = 4 ∨ k = 5) ∧ b.length = 0) ∨ ((k = 2 ∨ k = 6) ∧ b.length = 0 ∧ n = 0)) by
    simp only [Op.ok, List.length_eq_zero_iff])
  go_enter Try.func53, Try.ntmps53
  go_wp2
  all_goals go_ret
  all_goals refine ⟨ret_bool ?_, (by repeat (first | with_reducible exact Ab.refl _ | with_reducible assumption | with_reducible refine Ab.drew ?_ | with_reducible refine Ab.drewN ?_ _ | with_reducible refine Ab.alloc ?_ _ | with_reducible refine Ab.trans ?_ (by assumption) | with_reducible refine Ab.set ?_ (by first | (simp; done) | omega | (simp; omega)) _))⟩
  all_goals rw [Bool.eq_iff_iff, decide_eq_true_iff, HO.out]
  all_goals (try subst_vars)
  all_goals clear HO
  all_goals simp only [beq_iff_eq, Bool.or_eq_true, List.length_nil, List.length_eq_zero_iff, Bool.false_eq_true] at *
  all_goals first | omega | (simp_all; done) | (simp_all; omega)
end Go.Proofs.Ytojhdecgipjkeaa
