/- Literal bytes, strings of bytes. Own work. -/
import Derived.Test.YtjgijpfknhfnjaaProg
import Derived.Test.YtjgijpfknhfnjaaMem
import Derived.Lib.SlBytesConst
import Derived.Lib.SmallJoins
import Derived.Laws.IdiomStrings
set_option linter.unusedVariables false
set_option linter.unusedSimpArgs false
namespace Go.Proofs.Ytjgijpfknhfnjaa
open Go.RowKit

theorem old_set {W : World} {n : Nat} {p : Obj} {q : Addr} {u : Value} (h : W.heap[n]? = some p) (hq : q.block ≠ n) : (W.setCell q u).heap[n]? = some p := by
  rw [Below.heap_setCell W q u n (fun e => hq e.symm)]; exact h
/-- A block that holds the bytes l. -/
theorem RB.blk {w : World} {lo g : Nat} {l : List UInt8} {T : TypeId} {fr : Nat × Nat} (hg : w.heap[g]? = some (.cells (l.map cb).toArray T fr)) (hlo : lo ≤ g) : RB w lo (some ⟨g, 0, none⟩) l := by
  intro hl
  refine ⟨_, rfl, hlo, fun i hi => ?_⟩
  have : (⟨g, 0, none⟩ : Addr).add i = ⟨g, i, none⟩ := by unfold Addr.add; split <;> simp_all
  rw [this]
  unfold World.cell?
  rw [hg]
  simp [List.getElem?_eq_getElem hi]
/-- []byte(s) of a string. -/
theorem conv_bytes (w : World) (l : List UInt8) :
    (convert 9 22 (.string ⟨l.toArray⟩)).run Try.prog w = .ok (.slice (some ⟨w.heap.size, 0, none⟩) l.length (grownCap w l.length 0 5))
      (w.drew.alloc (.cells (bytesRow ⟨l.toArray⟩ (grownCap w l.length 0 5)) 5 ((bytesRow ⟨l.toArray⟩ (grownCap w l.length 0 5)).size, (bytesRow ⟨l.toArray⟩ (grownCap w l.length 0 5)).size + 1))) := by
  have := run_bytes_of_string (P := Try.prog) w 9 22 5 ⟨l.toArray⟩ Try.underlying9 Try.underlying22 Try.underlying5
  have hs : (⟨l.toArray⟩ : ByteArray).size = l.length := rfl
  rw [hs] at this
  exact this
theorem rb_row {w : World} {l : List UInt8} {g c : Nat} {T : TypeId} {fr : Nat × Nat} (hg : w.heap[g]? = some (.cells (bytesRow ⟨l.toArray⟩ c) T fr)) : RB w 0 (some ⟨g, 0, none⟩) l := by
  intro hl
  refine ⟨_, rfl, Nat.zero_le _, fun i hi => ?_⟩
  have : (⟨g, 0, none⟩ : Addr).add i = ⟨g, i, none⟩ := by unfold Addr.add; split <;> simp_all
  rw [this]
  unfold World.cell?
  rw [hg]
  have e := bytesRow_at ⟨l.toArray⟩ c i (by simpa using hi)
  simpa [cb] using e
def RetTrue (w : World) (e : Ending) (w' : World) : Prop := e = .returned (.bool true) ∧ Ab w w'
end Go.Proofs.Ytjgijpfknhfnjaa
