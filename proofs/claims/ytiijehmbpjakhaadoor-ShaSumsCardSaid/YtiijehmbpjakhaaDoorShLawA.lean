/- What the statements of layer 8 use: arrays and hashes compared, digests of strings. Own work. -/
import Derived.Test.YtiijehmbpjakhaaDoorShFunJ
import Derived.Test.YtiijehmbpjakhaaDoorTry1
set_option linter.unusedVariables false
set_option linter.unusedSimpArgs false
namespace Go.Proofs.YtiijehmbpjakhaaDoor
open Go.RowKit

theorem eqItems_refl (e : TypeId) (kd : IntKind) (he : ∀ (a b : Int) (w : World), (Op.equalIn 9999 e (.int kd a) (.int kd b)).run Tryd.prog w = .ok (a == b) w) (X : Array Value) (w : World) :
    ∀ l : List Nat, (∀ i ∈ l, ∃ a, (part e X (i * 1)).run Tryd.prog w = .ok (.int kd a) w) → (Op.eqItems 9999 e 1 X X l).run Tryd.prog w = .ok true w := by
  intro l
  induction l with
  | nil => intro _; simp [Op.eqItems]
  | cons i l ih =>
    intro hl
    obtain ⟨a, ha⟩ := hl i (by simp)
    simp only [Op.eqItems, Sem.run_bind, ha, he, Result.andThen_ok, beq_self_eq_true, Bool.not_true, Bool.false_eq_true, if_false]
    exact ih fun j hj => hl j (by simp [hj])
theorem part_at (e : TypeId) (i0 : TypeInfo) (hi : Tryd.prog.info? e = some i0) (hz : i0.size = 1) (ha : ∀ w, (isAgg e).run Tryd.prog w = .ok false w) (xs : List Value) (j : Nat) (kd : IntKind) (a : Int) (h : xs[j]? = some (.int kd a)) (w : World) : (part e xs.toArray (j * 1)).run Tryd.prog w = .ok (.int kd a) w := by
  simp [part, sizeOf, typeInfo, hi, hz, h, ha]
theorem run_eq8 (h : Sha.W8) (w : World) : (Op.equalIn 10000 24 (.agg (w8 h).toArray) (.agg (w8 h).toArray)).run Tryd.prog w = .ok true w := by
  obtain ⟨i0, hi, hz⟩ : ∃ i, Tryd.prog.info? 23 = some i ∧ i.size = 1 := by
    have : (Tryd.prog.info? 23).map (fun i => i.size) = some 1 := by kernel_rfl
    cases h : Tryd.prog.info? 23 with
    | none => rw [h] at this; simp at this
    | some i => rw [h] at this; exact ⟨i, rfl, by simpa using this⟩
  rw [run_equalIn_array w 9999 _ _ Tryd.underlying24 hi]
  have hc : Tryd.prog.cellsOf 23 = 1 := by kernel_rfl
  rw [hc]
  refine eqItems_refl _ .u32 (fun a b w => run_equalIn_int w 9998 _ .u32 .u32 _ _ Tryd.underlying23) _ _ _ fun i hl => ?_
  have : i < 8 := by simpa using hl
  have hlt : i < (w8 h).length := this
  have : ∀ v ∈ w8 h, ∃ a, v = .int .u32 a := by
    intro v hv
    simp only [w8, List.mem_cons, List.not_mem_nil, or_false] at hv
    rcases hv with rfl | rfl | rfl | rfl | rfl | rfl | rfl | rfl <;> exact ⟨_, rfl⟩
  obtain ⟨a, ha⟩ := this _ (List.getElem_mem hlt)
  exact ⟨a, part_at _ i0 hi hz (fun w => by kernel_rfl) _ i .u32 a (by rw [List.getElem?_eq_getElem hlt, ha]) w⟩
theorem run_eq32 (l : List UInt8) (hl : l.length = 32) (w : World) : (Op.equalIn 10000 26 (.agg (idv l).toArray) (.agg (idv l).toArray)).run Tryd.prog w = .ok true w := by
  obtain ⟨i0, hi, hz⟩ : ∃ i, Tryd.prog.info? 5 = some i ∧ i.size = 1 := by
    have : (Tryd.prog.info? 5).map (fun i => i.size) = some 1 := by kernel_rfl
    cases h : Tryd.prog.info? 5 with
    | none => rw [h] at this; simp at this
    | some i => rw [h] at this; exact ⟨i, rfl, by simpa using this⟩
  rw [run_equalIn_array w 9999 _ _ Tryd.underlying26 hi]
  have hc : Tryd.prog.cellsOf 5 = 1 := by kernel_rfl
  rw [hc]
  refine eqItems_refl _ .u8 (fun a b w => run_equalIn_int w 9998 _ .u8 .u8 _ _ Tryd.underlying5) _ _ _ fun i hl' => ?_
  have hi32 : i < 32 := by simpa using hl'
  have hlt : i < l.length := by omega
  exact ⟨_, part_at _ i0 hi hz (fun w => by kernel_rfl) _ i .u8 _ (by unfold idv; rw [List.getElem?_map, List.getElem?_eq_getElem hlt]; rfl) w⟩
theorem id_at {l : List UInt8} {k : Nat} {x : UInt8} (h : l[k]? = some x) : (idv l)[k]? = some (.int .u8 (x.toNat : Int)) := by
  unfold idv; rw [List.getElem?_map, h]; rfl
end Go.Proofs.YtiijehmbpjakhaaDoor
