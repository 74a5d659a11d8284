/- Literal bytes, strings of bytes. Own work. -/
import Derived.Test.YtddmcciegofneaaProg
import Derived.Test.YtddmcciegofneaaMem
import Derived.Lib.SlBytesConst
import Derived.Lib.SmallJoins
set_option linter.unusedVariables false
set_option linter.unusedSimpArgs false
namespace Go.Proofs.Ytddmcciegofneaa
open Go.RowKit

theorem old_set {W : World} {n : Nat} {p : Obj} {q : Addr} {u : Value} (h : W.heap[n]? = some p) (hq : q.block ≠ n) : (W.setCell q u).heap[n]? = some p := by
  rw [Below.heap_setCell W q u n (fun e => hq e.symm)]; exact h
/-- A block that holds the bytes l. -/
theorem RB.blk {w : World} {lo g : Nat} {l : List UInt8} {T : TypeId} {fr : Nat × Nat} (hg : w.heap[g]? = some (.cells (l.map cb).toArray T fr)) (hlo : lo ≤ g) : RB w lo (some ⟨g, 0, none⟩) l := by
  intro hl
  refine ⟨_, rfl, hlo, fun i hi => ?_⟩
  have : (⟨g, 0, none⟩ : Addr).add i = ⟨g, i, none⟩ := by unfold Addr.add; split <;> simp_all
  rw [this]
  unfold World.cell?
  rw [hg]
  simp [List.getElem?_eq_getElem hi]
end Go.Proofs.Ytddmcciegofneaa
