/- Lists of strings of the call's own: appended to, stored into; slices.Concat over strings, walked. Own work. -/
import Derived.Test.YtegnkmfdchljkaaLnFunA
import Derived.Maps.AppendAt
import Derived.Deep.Onto
set_option linter.unusedVariables false
set_option linter.unusedSimpArgs false
namespace Go.Proofs.Ytegnkmfdchljkaa
open Go.RowKit

theorem infoStr : (Try.prog.info? 9).map (fun i => (i.zero, i.size, i.bytes)) = some (some (.string ⟨#[]⟩), 1, 16) := by kernel_rfl
/-- A list of strings of the call's own. -/
def OwnS (lo : Nat) (w : World) (A : Option Addr) (c : Nat) (ps : List ByteArray) : Prop := w.ownsRow lo 9 1 (.slice A ps.length c) ps.length (ps.map Value.string)
section
variable {lo c : Nat} {w w' : World} {A : Option Addr} {ps : List ByteArray}
theorem OwnS.nil : OwnS lo w none 0 [] := World.ownsRow_nil _ _ _ _
theorem OwnS.le (h : OwnS lo w A c ps) : ps.length ≤ c ∧ c ≤ maxLen := by
  rcases h.2 with ⟨h1, h0⟩ | ⟨g, cap, cur, hv, hb, hh, hn, hm, _⟩
  · injection h1; subst_vars; exact ⟨by omega, Nat.zero_le _⟩
  · injection hv; subst_vars; exact ⟨hn, hm⟩
theorem OwnS.form (h : OwnS lo w A c ps) (hn : 0 < ps.length) : ∃ g, A = some ⟨g, 0, none⟩ ∧ lo ≤ g ∧ g < w.heap.size := by
  obtain ⟨g, cap, h1, h2, h3⟩ := World.ownsRow.form h hn
  injection h1 with h1
  exact ⟨g, h1, h2, h3⟩
theorem OwnS.blk (h : OwnS lo w A c ps) {g : Nat} (ha : A.map (·.block) = some g) : lo ≤ g ∧ g < w.heap.size := by
  rcases h.2 with ⟨h1, h0⟩ | ⟨k, cap, cur, hv, hb, hh, _⟩
  · injection h1 with h1; rw [h1] at ha; cases ha
  · have hA : A = some ⟨k, 0, none⟩ := by injection hv
    rw [hA] at ha
    simp at ha
    subst ha
    refine ⟨hb, ?_⟩
    rcases Nat.lt_or_ge k w.heap.size with h | h
    · exact h
    · rw [Array.getElem?_eq_none h] at hh; cases hh
theorem OwnS.ab (h : OwnS lo w A c ps) (hk : Ab w w') : OwnS lo w' A c ps := by
  refine ⟨h.1, ?_⟩
  rcases h.2 with h0 | ⟨g, cap, cur, hv, hb, hh, r⟩
  · exact .inl h0
  · refine .inr ⟨g, cap, cur, hv, hb, ?_, r⟩
    have hlt : g < w.heap.size := by
      rcases Nat.lt_or_ge g w.heap.size with h | h
      · exact h
      · rw [Array.getElem?_eq_none h] at hh; cases hh
    rw [hk.out.block g hlt]; exact hh
theorem OwnS.cell {g i : Nat} (h : OwnS lo w (some ⟨g, 0, none⟩) c ps) (hi : i < ps.length) : w.cell? ⟨g, i, none⟩ = some (.string ps[i]) := by
  rcases h.2 with ⟨h1, h0⟩ | ⟨k, cap, cur, hv, hb, hh, hn, hm, hs, ht⟩
  · cases h1
  · have hg : k = g := by injection hv with h1; injection h1 with h1; injection h1 with h1; exact h1.symm
    subst hg
    unfold World.cell?
    rw [hh]
    have e1 := congrArg (fun l => l[i]?) ht
    simp only [Nat.mul_one, List.getElem?_take, if_pos hi, List.getElem?_map, List.getElem?_eq_getElem hi, Option.map_some] at e1
    simpa using e1
theorem OwnS.sm (h : OwnS lo w A c ps) (hk : ps.length ≤ 100000) (hs : ∀ p ∈ ps, p.size ≤ 100000) : SM w A c ps := by
  refine ⟨fun hn => ?_, h.le.1, by have := h.le.2; unfold maxLen at this; omega, hk, hs⟩
  obtain ⟨g, rfl, _⟩ := h.form hn
  exact ⟨g, 0, rfl, fun j hj => by rw [Nat.zero_add]; exact h.cell hj⟩
theorem OwnS.room {g n : Nat} {cur : Array Value} (hb : lo ≤ g) (hg : w.heap[g]? = some (.cells cur 9 (0, 0))) (hs : cur.size = n) (hn : n ≤ maxLen) : OwnS lo w (some ⟨g, 0, none⟩) n [] :=
  ⟨by simp, .inr ⟨g, n, cur, rfl, hb, hg, Nat.zero_le _, hn, by omega, by simp⟩⟩
theorem OwnS.one {g : Nat} {x : ByteArray} (hb : lo ≤ g) (hg : w.heap[g]? = some (.cells #[.string x] 9 (0, 0))) : OwnS lo w (some ⟨g, 0, none⟩) 1 [x] :=
  ⟨by simp, .inr ⟨g, 1, _, rfl, hb, hg, Nat.le_refl _, by unfold maxLen; omega, by simp, by simp⟩⟩
theorem OwnS.unfrozen {g : Nat} (h : OwnS lo w (some ⟨g, 0, none⟩) c ps) (i : Nat) : w.frozen? ⟨g, i, none⟩ = false := World.ownsRow.frozenAt h i
theorem OwnS.store {g : Nat} (h : OwnS lo w (some ⟨g, 0, none⟩) c ps) (i : Nat) (x : ByteArray) : OwnS lo (w.setCell ⟨g, i, none⟩ (.string x)) (some ⟨g, 0, none⟩) c (ps.set i x) := by
  have h1 := World.ownsRow.stored h i (.string x)
  unfold OwnS
  rw [List.length_set, List.map_set]
  exact h1.1
end
/-- Strings appended to a list of the call's own. -/
theorem listAppS {lo n m d : Nat} {w : World} {A B : Option Addr} {c : Nat} {ps qs : List ByteArray} {o : Oper} {a : Act} {ops : Array Oper} {rest : List Oper} {Q : Exit → Act → World → Prop} (hgd : o.guard = none) (s y : Operand)
    (ho : o.op = .call { callee := .builtin .append, args := #[s, y], argTypes := #[22, 22] })
    (hs : a.eval s = .slice A m c) (hy : a.eval y = .slice B n d) (hm : ps.length = m) (hn : qs.length = n) (h : OwnS lo w A c ps) (hlo : lo ≤ w.heap.size) (hP : SM w B d qs) (hlen : ps.length ≤ 1000000)
    (hK : ∀ A' c' w', OwnS lo w' A' c' (ps ++ qs) → (∀ W : World, Ab W w → W.heap.size ≤ lo → Ab W w') → wpList Try.prog ops Q rest (a.put o.dst (.slice A' (m + n) c')) w') :
    wpList Try.prog ops Q (o :: rest) a w := by
  subst hn hm
  have hq := hP.k
  obtain ⟨i0, hi0, hz0, hz1, hz2⟩ : ∃ i0, Try.prog.info? 9 = some i0 ∧ i0.zero = some (.string ⟨#[]⟩) ∧ i0.size = 1 ∧ i0.bytes = 16 := by
    have := infoStr
    cases h : Try.prog.info? 9 with
    | none => rw [h] at this; cases this
    | some i => rw [h] at this; simp at this; exact ⟨i, rfl, this⟩
  have H : ∃ A' c' w', (Builtin.append_ #[22, 22] o.type #[.slice A ps.length c, .slice B qs.length d]).run Try.prog w = .ok (.slice A' (ps.length + qs.length) c') w' ∧ OwnS lo w' A' c' (ps ++ qs) ∧ ∀ W : World, Ab W w → W.heap.size ≤ lo → Ab W w' := by
    rcases Nat.eq_zero_or_pos qs.length with h0 | hpos
    · have hw : qs = [] := List.eq_nil_of_length_eq_zero h0
      subst hw
      refine ⟨A, c, w, ?_, by simpa using h, fun _ hW _ => hW⟩
      rcases B with _ | bd
      · rcases h.2 with ⟨hv, h0⟩ | ⟨g, cap, cur, hv, _, _, hnc, _⟩
        · injection hv with h1 h2 h3; subst h1 h3
          simp [Builtin.append_, run_underlying Try.underlying22, sizeOf, typeInfo, hi0, Builtin.lenOf, Builtin.firstCells, h2]
        · injection hv with h1 h2 h3; subst h1 h3
          simp [Builtin.append_, run_underlying Try.underlying22, sizeOf, typeInfo, hi0, Builtin.lenOf, Builtin.firstCells, hnc, storeCells]
      · rcases h.2 with ⟨hv, h0⟩ | ⟨g, cap, cur, hv, _, hh, hnc, _⟩
        · injection hv with h1 h2 h3; subst h1 h3
          simp [Builtin.append_, run_underlying Try.underlying22, sizeOf, typeInfo, hi0, Builtin.lenOf, Builtin.firstCells, loadCells, loadCellsFrom, h2]
        · injection hv with h1 h2 h3; subst h1 h3
          simp [Builtin.append_, run_underlying Try.underlying22, sizeOf, typeInfo, hi0, Builtin.lenOf, Builtin.firstCells, hnc, storeCells, loadCells, loadCellsFrom]
    · obtain ⟨g2, o2, rfl, hcell⟩ := hP.r hpos
      obtain ⟨v', w', hrun, h2, h3, _, h5⟩ := run_append_own_at (P := Try.prog) w lo 22 o.type 9 i0 _ 1 16 Try.underlying22 hi0 hz0 hz1 hz2 rfl (by omega) _ _ _ h ⟨g2, o2, none⟩ qs.length d (qs.map Value.string) (by simp) (fun j u hj => by
        obtain ⟨hj1, rfl⟩ := List.getElem?_eq_some_iff.1 hj
        rw [List.length_map] at hj1
        have e : (⟨g2, o2, none⟩ : Addr).add j = ⟨g2, o2 + j, none⟩ := by unfold Addr.add; split <;> simp_all
        rw [e, List.getElem_map]
        exact hcell j hj1) (fun u hu => by obtain ⟨x, _, rfl⟩ := List.mem_map.1 hu; rfl) (by unfold maxLen; omega) (by omega) hlo
      have hrow : Value.ownBlock (.slice A ps.length c) = A.map (·.block) := by cases A <;> rfl
      rw [hrow] at h3
      rcases h2.2 with ⟨_, h0⟩ | ⟨g, cap, cur, rfl, r⟩
      · omega
      · refine ⟨some ⟨g, 0, none⟩, cap, w', hrun, ?_, fun W hW hl => Below.grown hW.out h3 hW.size fun g hg => Nat.le_trans hl (OwnS.blk h hg).1⟩
        unfold OwnS
        rw [List.length_append, List.map_append]
        exact h2
  obtain ⟨A', c', w', hrun, h4, h5⟩ := H
  refine wpList_plain hgd fun _ hK' => ?_
  unfold Oper.wp execOp
  simp only [ho, resolve, invoke, builtin, Sem.run_bind, Sem.run_pure, Result.andThen_ok, List.map_toArray, List.map_cons, List.map_nil, hs, hy, hrun]
  exact hK' _ _ (hK A' c' w' h4 h5)
end Go.Proofs.Ytegnkmfdchljkaa
