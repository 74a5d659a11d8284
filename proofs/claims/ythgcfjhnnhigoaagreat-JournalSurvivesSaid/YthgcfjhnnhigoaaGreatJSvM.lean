/- Lists of states in memory. Own work. -/
import Derived.Test.YthgcfjhnnhigoaaGreatJLawC
import Derived.Test.YthgcfjhnnhigoaaGreatJSv
set_option linter.unusedVariables false
set_option linter.unusedSimpArgs false
namespace Go.Proofs.YthgcfjhnnhigoaaGreat
open Go.RowKit

theorem add_at (g k : Nat) : (⟨g, 0, none⟩ : Addr).add k = ⟨g, k, none⟩ := by unfold Addr.add; split <;> simp_all
def stCells : List (List Int) → List Value
  | [] => []
  | c :: l => [.int .i64 (cx c 0), .int .i64 (cx c 1), .int .i64 (cx c 2), .int .i64 (cx c 3), .int .i64 (cx c 4), .int .i64 (cx c 5), .int .i64 (cx c 6), .int .i64 (cx c 7)] ++ stCells l
theorem stCells_length (l : List (List Int)) : (stCells l).length = l.length * 8 := by
  induction l with
  | nil => rfl
  | cons c l ih => simp only [stCells, List.length_append, ih, List.length_cons, List.length_nil]; omega
theorem c8_at (c : List Int) (j : Nat) (hj : j < 8) : ([.int .i64 (cx c 0), .int .i64 (cx c 1), .int .i64 (cx c 2), .int .i64 (cx c 3), .int .i64 (cx c 4), .int .i64 (cx c 5), .int .i64 (cx c 6), .int .i64 (cx c 7)] : List Value)[j]? = some (.int .i64 (cx c j)) := by
  have : j = 0 ∨ j = 1 ∨ j = 2 ∨ j = 3 ∨ j = 4 ∨ j = 5 ∨ j = 6 ∨ j = 7 := by omega
  rcases this with rfl | rfl | rfl | rfl | rfl | rfl | rfl | rfl <;> rfl
theorem stCells_at : ∀ (l : List (List Int)) (i : Nat) (h : i < l.length) (j : Nat), j < 8 → (stCells l)[i * 8 + j]? = some (.int .i64 (cx l[i] j)) := by
  intro l
  induction l with
  | nil => intro i h; exact absurd h (by simp)
  | cons c l ih =>
    intro i h j hj
    cases i with
    | zero =>
      simp only [stCells, Nat.zero_mul, Nat.zero_add, List.getElem_cons_zero]
      rw [List.getElem?_append_left (by simpa using hj)]
      exact c8_at c j hj
    | succ i =>
      simp only [stCells, List.getElem_cons_succ]
      rw [List.getElem?_append_right (by simp; omega)]
      have := ih i (by simpa using h) j hj
      rw [← this]
      congr 1
      simp; omega
theorem stCells_snoc (l : List (List Int)) (c : List Int) : stCells (l ++ [c]) = stCells l ++ [.int .i64 (cx c 0), .int .i64 (cx c 1), .int .i64 (cx c 2), .int .i64 (cx c 3), .int .i64 (cx c 4), .int .i64 (cx c 5), .int .i64 (cx c 6), .int .i64 (cx c 7)] := by
  induction l with
  | nil => rfl
  | cons d l ih => simp only [List.cons_append, stCells, ih, List.append_assoc]
/-- A list of states of the call's own, in block g. -/
def OwnSts (lo : Nat) (w : World) (g cap : Nat) (sts : List (List Int)) : Prop := OV 30 8 lo w (some ⟨g, 0, none⟩) sts.length cap (stCells sts)
section
variable {lo : Nat} {w w' : World} {g cap : Nat} {sts : List (List Int)}
theorem OwnSts.ab (h : OwnSts lo w g cap sts) (hb : Ab w w') : OwnSts lo w' g cap sts := OV.block h fun k _ hk => hb.out.block k hk
theorem OwnSts.rng (h : OwnSts lo w g cap sts) : lo ≤ g ∧ g < w.heap.size := OV.rng h _ rfl
theorem OwnSts.mid {a b : Nat} (h : OwnSts lo w g cap sts) (k : Mid a b w w') (hb : b ≤ lo) : OwnSts lo w' g cap sts := OV.block h fun q hq hk => k.block q hk (.inr (by omega))
theorem OwnSts.one {c : List Int} (hg : w.heap[g]? = some (.cells #[.int .i64 (cx c 0), .int .i64 (cx c 1), .int .i64 (cx c 2), .int .i64 (cx c 3), .int .i64 (cx c 4), .int .i64 (cx c 5), .int .i64 (cx c 6), .int .i64 (cx c 7)] 30 (0, 0))) (hl : lo ≤ g) : OwnSts lo w g 1 [c] :=
  ⟨rfl, .inr ⟨g, 1, _, rfl, hl, hg, Nat.le_refl _, by unfold maxLen; decide, rfl, rfl⟩⟩
theorem OwnSts.at_ (h : OwnSts lo w g cap sts) {k : Nat} (hk : k < sts.length) : w.rangeAt g (k * 8) [.int .i64 (cx (sts[k]) 0), .int .i64 (cx (sts[k]) 1), .int .i64 (cx (sts[k]) 2), .int .i64 (cx (sts[k]) 3), .int .i64 (cx (sts[k]) 4), .int .i64 (cx (sts[k]) 5), .int .i64 (cx (sts[k]) 6), .int .i64 (cx (sts[k]) 7)] := fun j v hj => by
  have hj8 : j < 8 := by
    rcases Nat.lt_or_ge j 8 with h8 | h8
    · exact h8
    · rw [List.getElem?_eq_none (by simpa using h8)] at hj; cases hj
  rw [c8_at _ _ hj8] at hj
  cases hj
  unfold OwnSts OV at h
  have := h.cells (g := g) rfl _ _ (stCells_at sts k hk j hj8)
  rwa [add_at] at this
end
theorem infoSt : (Tryz.prog.info? 30).map (fun i => (i.zero, i.size, i.bytes)) = some (some (.agg #[.int .i64 0, .int .i64 0, .int .i64 0, .int .i64 0, .int .i64 0, .int .i64 0, .int .i64 0, .int .i64 0]), 8, 64) := by kernel_rfl
section
variable {lo : Nat} {w : World} {c : Nat} {xs : List (List Int)} {x : List Int} {o : Oper} {a : Act} {b g d : Nat} {fr : Nat × Nat} {ops : Array Oper} {rest : List Oper} {Q : Exit → Act → World → Prop}
theorem listAppS (hgd : o.guard = none) (s y : Operand) (ho : o.op = .call { callee := .builtin .append, args := #[s, y], argTypes := #[59, 59] })
    (hs : a.eval s = .slice (some ⟨b, 0, none⟩) xs.length c) (hy : a.eval y = .slice (some ⟨g, 0, none⟩) 1 d) (h : OwnSts lo w b c xs) (hlo : lo ≤ w.heap.size)
    (hg : w.heap[g]? = some (.cells #[.int .i64 (cx x 0), .int .i64 (cx x 1), .int .i64 (cx x 2), .int .i64 (cx x 3), .int .i64 (cx x 4), .int .i64 (cx x 5), .int .i64 (cx x 6), .int .i64 (cx x 7)] 30 fr)) (hlen : xs.length ≤ 1000000)
    (hK : ∀ g' c' w' ys, Hid (ys = xs ++ [x]) → OwnSts lo w' g' c' ys → w.grownBy w' (some b) → (b = g' ∨ g' = w.heap.size) → wpList Tryz.prog ops Q rest (a.put o.dst (.slice (some ⟨g', 0, none⟩) ys.length c')) w') : wpList Tryz.prog ops Q (o :: rest) a w := by
  obtain ⟨i0, hi0, hz0, hz1, hz2⟩ := info_parts infoSt
  refine wpList_plain hgd fun _ hC => wp_appV (ws := [.int .i64 (cx x 0), .int .i64 (cx x 1), .int .i64 (cx x 2), .int .i64 (cx x 3), .int .i64 (cx x 4), .int .i64 (cx x 5), .int .i64 (cx x 6), .int .i64 (cx x 7)]) s y _ ho i0 _ Tryz.underlying59 hi0 hz0 hz1 hz2 rfl (by omega) hs hy h hlo rfl ?_ ?_ (by omega) (by unfold maxLen; omega) (by omega) ?_
  · intro j u hu
    have e : (⟨g, 0, none⟩ : Addr).add j = ⟨g, j, none⟩ := by unfold Addr.add; split <;> simp_all
    rw [e]
    unfold World.cell?
    rw [hg]
    simpa using hu
  · intro u hu
    obtain ⟨j, hj, rfl⟩ := List.getElem_of_mem hu
    have hj8 : j < 8 := by simpa using hj
    have := c8_at x j hj8
    rw [List.getElem?_eq_getElem hj] at this
    rw [Option.some.inj this]
    rfl
  · intro g' c' w' h4 h5 h6
    rw [← stCells_snoc] at h4
    have := hK g' c' w' (xs ++ [x]) rfl (by unfold OwnSts; rw [List.length_append]; exact h4) h5 (h6.imp (fun e => by simpa using e) id)
    rw [List.length_append] at this
    exact hC _ _ this
end
end Go.Proofs.YthgcfjhnnhigoaaGreat
