/- Four bytes compared. Own work. -/
import Derived.Test.YtddmcciegofneaaProg
import Derived.ChangeKeysEq
import Derived.Laws.StructEq
import Derived.WalkKit
set_option linter.unusedVariables false
set_option linter.unusedSimpArgs false
namespace Go.Proofs.Ytddmcciegofneaa
open Go.RowKit

theorem run_four_eq (x0 x1 x2 x3 y0 y1 y2 y3 : UInt8) (w : World) :
    (Op.equalIn 10000 31 (.agg #[.int .u8 (x0.toNat : Int), .int .u8 (x1.toNat : Int), .int .u8 (x2.toNat : Int), .int .u8 (x3.toNat : Int)]) (.agg #[.int .u8 (y0.toNat : Int), .int .u8 (y1.toNat : Int), .int .u8 (y2.toNat : Int), .int .u8 (y3.toNat : Int)])).run Try.prog w
      = .ok (decide (x0 = y0 ∧ x1 = y1 ∧ x2 = y2 ∧ x3 = y3)) w := by
  obtain ⟨i0, hi, hz⟩ : ∃ i, Try.prog.info? 5 = some i ∧ i.size = 1 := by
    have : (Try.prog.info? 5).map (fun i => i.size) = some 1 := by kernel_rfl
    cases h : Try.prog.info? 5 with
    | none => rw [h] at this; simp at this
    | some i => rw [h] at this; exact ⟨i, rfl, by simpa using this⟩
  have hp : ∀ (a b c d : Value) (j : Nat) (v : Value) (w : World), v.cells.size = 1 → (#[a, b, c, d] : Array Value)[j]? = some v → (part 5 #[a, b, c, d] j).run Try.prog w = .ok v w := by
    intro a b c d j v w hv hj
    simp [part, sizeOf, typeInfo, hi, hz, hj]
  rw [run_equalIn_array w 9999 _ _ Try.underlying31 hi]
  have hc : Try.prog.cellsOf 5 = 1 := by kernel_rfl
  rw [hc]
  show (Op.eqItems 9999 5 1 _ _ [0, 1, 2, 3]).run Try.prog w = _
  have he : ∀ (a b : UInt8) (w : World), (Op.equalIn 9999 5 (.int .u8 (a.toNat : Int)) (.int .u8 (b.toNat : Int))).run Try.prog w = .ok (decide (a = b)) w := by
    intro a b w
    rw [run_equalIn_int w 9998 _ .u8 .u8 _ _ Try.underlying5]
    congr 1
    rw [Bool.eq_iff_iff]
    simp [← UInt8.toNat_inj]
    omega
  have p0 : ∀ (a b c d : UInt8) (w : World), (part 5 #[.int .u8 (a.toNat : Int), .int .u8 (b.toNat : Int), .int .u8 (c.toNat : Int), .int .u8 (d.toNat : Int)] (0 * 1)).run Try.prog w = .ok (.int .u8 (a.toNat : Int)) w := fun a b c d w => hp _ _ _ _ 0 _ w rfl rfl
  have p1 : ∀ (a b c d : UInt8) (w : World), (part 5 #[.int .u8 (a.toNat : Int), .int .u8 (b.toNat : Int), .int .u8 (c.toNat : Int), .int .u8 (d.toNat : Int)] (1 * 1)).run Try.prog w = .ok (.int .u8 (b.toNat : Int)) w := fun a b c d w => hp _ _ _ _ 1 _ w rfl rfl
  have p2 : ∀ (a b c d : UInt8) (w : World), (part 5 #[.int .u8 (a.toNat : Int), .int .u8 (b.toNat : Int), .int .u8 (c.toNat : Int), .int .u8 (d.toNat : Int)] (2 * 1)).run Try.prog w = .ok (.int .u8 (c.toNat : Int)) w := fun a b c d w => hp _ _ _ _ 2 _ w rfl rfl
  have p3 : ∀ (a b c d : UInt8) (w : World), (part 5 #[.int .u8 (a.toNat : Int), .int .u8 (b.toNat : Int), .int .u8 (c.toNat : Int), .int .u8 (d.toNat : Int)] (3 * 1)).run Try.prog w = .ok (.int .u8 (d.toNat : Int)) w := fun a b c d w => hp _ _ _ _ 3 _ w rfl rfl
  clear hp
  simp only [Op.eqItems, Sem.run_bind, p0, p1, p2, p3, he, Result.andThen_ok]
  by_cases h0 : x0 = y0
  · simp only [h0, decide_true, Bool.not_true, Bool.false_eq_true, if_false, Sem.run_bind, p0, p1, p2, p3, he, Result.andThen_ok, true_and]
    by_cases h1 : x1 = y1
    · simp only [h1, decide_true, Bool.not_true, Bool.false_eq_true, if_false, Sem.run_bind, p0, p1, p2, p3, he, Result.andThen_ok, true_and]
      by_cases h2 : x2 = y2
      · simp only [h2, decide_true, Bool.not_true, Bool.false_eq_true, if_false, Sem.run_bind, p0, p1, p2, p3, he, Result.andThen_ok, true_and]
        by_cases h3 : x3 = y3 <;> simp [h3]
      · simp [h2]
    · simp [h1]
  · simp [h0]
end Go.Proofs.Ytddmcciegofneaa
