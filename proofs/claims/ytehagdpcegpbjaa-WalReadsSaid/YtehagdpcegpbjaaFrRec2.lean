/- A record appended to a list of the call's own; room made. Own work. -/
import Derived.Test.YtehagdpcegpbjaaFrRec
import Derived.Laws.MakeOwn
import Derived.Laws.OwnMore
set_option linter.unusedVariables false
namespace Go.Proofs.Ytehagdpcegpbjaa
open Go.RowKit

theorem infoRec : (Try.prog.info? 72).map (fun i => (i.zero, i.size, i.bytes)) = some (some (.agg #[.int .i64 0, .slice none 0 0]), 2, 32) := by kernel_rfl

section
variable {lo : Nat} {w : World} {A : Option Addr} {c : Nat} {xs : List RecM} {x : RecM} {o : Oper} {a : Act} {g d : Nat} {fr : Nat × Nat}
theorem wp_appR {K : Act → World → Prop} {Q : Exit → Act → World → Prop} (s y : Operand) (ho : o.op = .call { callee := .builtin .append, args := #[s, y], argTypes := #[34, 34] })
    (hs : a.eval s = .slice A xs.length c) (hy : a.eval y = .slice (some ⟨g, 0, none⟩) 1 d) (h : OwnRecs lo w A c xs) (hlo : lo ≤ w.heap.size)
    (hg : w.heap[g]? = some (.cells #[.int .i64 x.num, .slice x.A x.b.length x.c] 72 fr)) (hx : Laid w lo x) (hxA : ∀ p q, A = some p → x.A = some q → 0 < x.b.length → q.block ≠ p.block) (hlen : xs.length ≤ 1000000)
    (hK : ∀ g' c' w' ys, Hid (ys = xs ++ [x]) → OwnRecs lo w' (some ⟨g', 0, none⟩) c' ys → w.grownBy w' (A.map (·.block)) → (A.map (·.block) = some g' ∨ g' = w.heap.size) → K (a.put o.dst (.slice (some ⟨g', 0, none⟩) ys.length c')) w') : o.wp Try.prog a w K Q := by
  obtain ⟨i0, hi0, hz0, hz1, hz2⟩ := info_parts infoRec
  refine wp_appV (ws := x.cells) s y _ ho i0 _ Try.underlying34 hi0 hz0 hz1 hz2 rfl (by omega) hs hy h.1 hlo rfl ?_ ?_ (by omega) (by unfold maxLen; omega) (by omega) ?_
  · intro j u hu
    have e : (⟨g, 0, none⟩ : Addr).add j = ⟨g, j, none⟩ := by unfold Addr.add; split <;> simp_all
    rw [e]
    unfold World.cell?
    rw [hg]
    simpa [RecM.cells] using hu
  · intro u hu
    have hu' : u = .int .i64 x.num ∨ u = .slice x.A x.b.length x.c := by simpa [RecM.cells] using hu
    rcases hu' with rfl | rfl <;> rfl
  · intro g' c' w' h4 h5 h6
    have := hK g' c' w' (xs ++ [x]) rfl (h.snoc hx hxA h4 h5 h6) h5 h6
    rwa [List.length_append] at this
theorem listAppR {ops : Array Oper} {rest : List Oper} {Q : Exit → Act → World → Prop} (hgd : o.guard = none) (s y : Operand) (ho : o.op = .call { callee := .builtin .append, args := #[s, y], argTypes := #[34, 34] })
    (hs : a.eval s = .slice A xs.length c) (hy : a.eval y = .slice (some ⟨g, 0, none⟩) 1 d) (h : OwnRecs lo w A c xs) (hlo : lo ≤ w.heap.size)
    (hg : w.heap[g]? = some (.cells #[.int .i64 x.num, .slice x.A x.b.length x.c] 72 fr)) (hx : Laid w lo x) (hxA : ∀ p q, A = some p → x.A = some q → 0 < x.b.length → q.block ≠ p.block) (hlen : xs.length ≤ 1000000)
    (hK : ∀ g' c' w' ys, Hid (ys = xs ++ [x]) → OwnRecs lo w' (some ⟨g', 0, none⟩) c' ys → w.grownBy w' (A.map (·.block)) → (A.map (·.block) = some g' ∨ g' = w.heap.size) → wpList Try.prog ops Q rest (a.put o.dst (.slice (some ⟨g', 0, none⟩) ys.length c')) w') :
    wpList Try.prog ops Q (o :: rest) a w :=
  wpList_plain hgd fun _ hK' => wp_appR s y ho hs hy h hlo hg hx hxA hlen fun g' c' w' ys e h4 h5 h6 => hK' _ _ (hK g' c' w' ys e h4 h5 h6)
end

/-- make([]byte, 0, n): what it lays, under a name. -/
theorem make_room (n : Nat) (hn : n ≤ 16777216) (v : Int) (hv : v = (n : Int)) : ∃ Z : Array Value,
    (∀ w : World, (Instr.makeSlice 22 (.int .i64 0) (.int .i64 v)).run Try.prog w = .ok (.slice (some ⟨w.heap.size, 0, none⟩) 0 n) (w.alloc (.cells Z 5))) ∧
    Hid (∀ (w : World) (g lo : Nat), lo ≤ g → w.heap[g]? = some (.cells Z 5) → OR 5 lo w (some ⟨g, 0, none⟩) n []) := by
  subst hv
  obtain ⟨i0, hi, hz, hs, hb⟩ := info_parts infoU8
  refine ⟨madeCells (Value.int .u8 0).cells n, fun w => ?_, ?_⟩
  · have := run_makeSlice (P := Try.prog) w 22 5 i0 _ Try.underlying22 hi hz .i64 .i64 0 n (by omega) (by omega) (by rw [hs]; simp; omega) (by rw [hb]; omega) (by omega)
    rw [hs, Int.toNat_natCast, Nat.mul_one] at this
    exact this
  · unfold Hid
    intro w g lo hlo hg
    have ht : (madeCells #[Value.int .u8 0] n).toList = List.replicate n (.int .u8 0) := toList_madeCells_one _ _
    refine ⟨rfl, .inr ⟨g, n, _, rfl, hlo, hg, Nat.zero_le _, by unfold maxLen; omega, ?_, ?_⟩⟩
    · have h1 := congrArg List.length ht
      simpa [Value.cells] using h1
    · simp
end Go.Proofs.Ytehagdpcegpbjaa
