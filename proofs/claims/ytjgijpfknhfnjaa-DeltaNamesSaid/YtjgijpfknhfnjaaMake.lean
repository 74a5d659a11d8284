/- make([]byte, n). Own work. -/
import Derived.Test.YtjgijpfknhfnjaaProg
import Derived.Test.YtjgijpfknhfnjaaMem
import Derived.Laws.MakeOwn
import Derived.Laws.OwnMore
set_option linter.unusedVariables false
namespace Go.Proofs.Ytjgijpfknhfnjaa
open Go.RowKit

/-- What make([]byte, n) lays, under a name. -/
theorem make_bytes (n : Nat) (hn : n ≤ 16777216) (v : Int) (hv : v = (n : Int)) : ∃ (Z : Array Value) (l : List UInt8), Hid (l.length = n) ∧ Hid (∀ i (h : i < l.length), l[i] = 0) ∧
    (∀ w : World, (Instr.makeSlice 22 (.int .i64 v) (.int .i64 v)).run Try.prog w = .ok (.slice (some ⟨w.heap.size, 0, none⟩) n n) (w.alloc (.cells Z 5))) ∧
    Hid (∀ (w : World) (g : Nat) (fr : Nat × Nat), w.heap[g]? = some (.cells Z 5 fr) → RB w 0 (some ⟨g, 0, none⟩) l) := by
  subst hv
  have hi8 : (Try.prog.info? 5).map (fun i => (i.zero, i.size, i.bytes)) = some (some (.int .u8 0), 1, 1) := by kernel_rfl
  obtain ⟨i0, hi, hz, hs, hb⟩ := info_parts hi8
  refine ⟨madeCells (Value.int .u8 0).cells n, List.replicate n 0, by unfold Hid; simp, by unfold Hid; simp, fun w => ?_, ?_⟩
  · have := run_makeSlice (P := Try.prog) w 22 5 i0 _ Try.underlying22 hi hz .i64 .i64 n n (by omega) (Int.le_refl _) (by rw [hs]; simp; omega) (by rw [hb]; omega) (by omega)
    rw [hs, Int.toNat_natCast, Nat.mul_one] at this
    exact this
  · unfold Hid
    intro w g fr hg hl
    refine ⟨_, rfl, Nat.zero_le _, fun i hi' => ?_⟩
    have e : (⟨g, 0, none⟩ : Addr).add i = ⟨g, i, none⟩ := by unfold Addr.add; split <;> simp_all
    rw [e]
    unfold World.cell?
    rw [hg]
    have ht : (madeCells #[Value.int .u8 0] n).toList = List.replicate n (.int .u8 0) := toList_madeCells_one _ _
    have hi2 : i < n := by simpa using hi'
    have : (madeCells #[Value.int .u8 0] n)[i]? = some (.int .u8 0) := by
      rw [← Array.getElem?_toList, ht, List.getElem?_replicate, if_pos hi2]
    simpa [cb, Value.cells] using this
end Go.Proofs.Ytjgijpfknhfnjaa
