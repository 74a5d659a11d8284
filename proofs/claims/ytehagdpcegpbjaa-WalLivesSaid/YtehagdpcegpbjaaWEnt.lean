/- Lists of entries (a record, and where it ends) in memory. Own work. -/
import Derived.Test.YtehagdpcegpbjaaGE
import Derived.Test.YtehagdpcegpbjaaGA
set_option linter.unusedVariables false
namespace Go.Proofs.Ytehagdpcegpbjaa
open Go.RowKit

theorem cells6 {W w' : World} {b : Nat} {v0 v1 v2 v3 v4 v5 : Value} (hb : Ab W w') (h : W.cell? ⟨b, 0, none⟩ = some v0 ∧ W.cell? ⟨b, 1, none⟩ = some v1 ∧ W.cell? ⟨b, 2, none⟩ = some v2 ∧ W.cell? ⟨b, 3, none⟩ = some v3 ∧ W.cell? ⟨b, 4, none⟩ = some v4 ∧ W.cell? ⟨b, 5, none⟩ = some v5) :
    w'.cell? ⟨b, 0, none⟩ = some v0 ∧ w'.cell? ⟨b, 1, none⟩ = some v1 ∧ w'.cell? ⟨b, 2, none⟩ = some v2 ∧ w'.cell? ⟨b, 3, none⟩ = some v3 ∧ w'.cell? ⟨b, 4, none⟩ = some v4 ∧ w'.cell? ⟨b, 5, none⟩ = some v5 :=
  ⟨hb.at h.1, hb.at h.2.1, hb.at h.2.2.1, hb.at h.2.2.2.1, hb.at h.2.2.2.2.1, hb.at h.2.2.2.2.2⟩
/-- An entry: a record, where its bytes lie, and where it ends. -/
structure EntM where
  x : RecM
  e : Nat
instance : Inhabited EntM := ⟨⟨default, 0⟩⟩
def EntM.cells (y : EntM) : List Value := [.int .i64 y.x.num, .slice y.x.A y.x.b.length y.x.c, .int .i64 (y.e : Int)]
def xsOf (ys : List EntM) : List RecM := ys.map EntM.x
def erecs (ys : List EntM) : List Frame.Rec := recs (xsOf ys)
def cellsE (ys : List EntM) : List Value := (ys.map EntM.cells).flatten
theorem cellsE_snoc (ys : List EntM) (y : EntM) : cellsE (ys ++ [y]) = cellsE ys ++ y.cells := by simp [cellsE]
theorem erecs_length (ys : List EntM) : (erecs ys).length = ys.length := by simp [erecs, recs, xsOf]
theorem erecs_get (ys : List EntM) (k : Nat) (h : k < ys.length) : (erecs ys)[k]'(by rw [erecs_length]; exact h) = ys[k].x.r := by simp [erecs, recs, xsOf]
theorem erecs_snoc (ys : List EntM) (y : EntM) : erecs (ys ++ [y]) = erecs ys ++ [y.x.r] := by simp [erecs, recs, xsOf]
theorem erecs_take (ys : List EntM) (k : Nat) : erecs (ys.take k) = (erecs ys).take k := by simp [erecs, recs, xsOf, List.map_take]
theorem erecs_drop (ys : List EntM) (k : Nat) : erecs (ys.drop k) = (erecs ys).drop k := by simp [erecs, recs, xsOf, List.map_drop]
theorem cellsE_at (ys : List EntM) : ∀ i (h : i < ys.length), (cellsE ys)[i * 3]? = some (.int .i64 ys[i].x.num) ∧ (cellsE ys)[i * 3 + 1]? = some (.slice ys[i].x.A ys[i].x.b.length ys[i].x.c) ∧
    (cellsE ys)[i * 3 + 2]? = some (.int .i64 (ys[i].e : Int)) := by
  induction ys with
  | nil => intro i h; exact absurd h (by simp)
  | cons y ys ih =>
    intro i h
    have e : cellsE (y :: ys) = .int .i64 y.x.num :: .slice y.x.A y.x.b.length y.x.c :: .int .i64 (y.e : Int) :: cellsE ys := by simp [cellsE, EntM.cells]
    rw [e]
    cases i with
    | zero => exact ⟨rfl, rfl, rfl⟩
    | succ j =>
      have := ih j (by simpa using h)
      rw [show (j + 1) * 3 = j * 3 + 1 + 1 + 1 by omega]
      simpa using this
/-- Where each one ends. -/
def Ends (ys : List EntM) : Prop := ∀ i (h : i < ys.length), ys[i].e = (Frame.all ((erecs ys).take (i + 1))).length
theorem ends_nil : Ends [] := fun i h => absurd h (by simp)
theorem ends_snoc {ys : List EntM} {y : EntM} (h : Ends ys) (he : y.e = (Frame.all (erecs ys)).length + (12 + y.x.b.length)) : Ends (ys ++ [y]) := by
  intro i hi
  rw [erecs_snoc]
  rcases Nat.lt_or_ge i ys.length with h1 | h1
  · rw [List.getElem_append_left h1, List.take_append_of_le_length (by rw [erecs_length]; omega)]
    exact h i h1
  · have : i = ys.length := by simp at hi; omega
    subst this
    rw [List.getElem_append_right (by omega), List.take_of_length_le (by simp [erecs_length]), Frame.all_append, Frame.all_one, List.length_append, Frame.enc_length]
    simpa [RecM.r] using he
theorem ends_take {ys : List EntM} (h : Ends ys) (k : Nat) : Ends (ys.take k) := by
  intro i hi
  have hi' : i < ys.length ∧ i < k := by simp at hi; omega
  rw [List.getElem_take, erecs_take, List.take_take, Nat.min_eq_left (by omega)]
  exact h i hi'.1

def EntsAt (w : World) (lo : Nat) (a : Addr) (ys : List EntM) : Prop :=
  lo ≤ a.block ∧ ∀ i (h : i < ys.length), w.cell? (a.add (i * 3)) = some (.int .i64 ys[i].x.num) ∧ w.cell? (a.add (i * 3 + 1)) = some (.slice ys[i].x.A ys[i].x.b.length ys[i].x.c) ∧
    w.cell? (a.add (i * 3 + 2)) = some (.int .i64 (ys[i].e : Int)) ∧ Laid w lo ys[i].x
/-- The slice of entries (A, n, c) is ys. -/
def Ents (w : World) (lo : Nat) (A : Option Addr) (ys : List EntM) : Prop := 0 < ys.length → ∃ a, A = some a ∧ EntsAt w lo a ys
/-- The address of l[k:], for entries. -/
def cutE (a : Option Addr) (cap k : Nat) : Option Addr := if cap = k then a else a.map (·.add (k * 3))
section
variable {w w' : World} {lo lo' : Nat} {A : Option Addr} {ys : List EntM}
theorem Ents.ab (h : Ents w lo A ys) (hb : Ab w w') : Ents w' lo A ys := fun hn => by
  obtain ⟨a, ha, h1, h2⟩ := h hn
  exact ⟨a, ha, h1, fun i hi => ⟨hb.at (h2 i hi).1, hb.at (h2 i hi).2.1, hb.at (h2 i hi).2.2.1, (h2 i hi).2.2.2.ab hb⟩⟩
theorem Ents.mono (h : Ents w lo A ys) (hl : lo' ≤ lo) : Ents w lo' A ys := fun hn => by
  obtain ⟨a, ha, h1, h2⟩ := h hn
  exact ⟨a, ha, by omega, fun i hi => ⟨(h2 i hi).1, (h2 i hi).2.1, (h2 i hi).2.2.1, (h2 i hi).2.2.2.mono hl⟩⟩
theorem Ents.take (h : Ents w lo A ys) (k : Nat) : Ents w lo A (ys.take k) := fun hn => by
  have hn' : 0 < ys.length := by simp at hn; omega
  obtain ⟨a, ha, h1, h2⟩ := h hn'
  refine ⟨a, ha, h1, fun i hi => ?_⟩
  have hi' : i < ys.length := by simp at hi; omega
  rw [List.getElem_take]; exact h2 i hi'
theorem Ents.cut (h : Ents w lo A ys) (k cap : Nat) (hc : ys.length ≤ cap) : Ents w lo (cutE A cap k) (ys.drop k) := fun hn => by
  rw [List.length_drop] at hn
  obtain ⟨a, rfl, h1, h2⟩ := h (by omega)
  unfold cutE
  rw [if_neg (by omega)]
  refine ⟨a.add (k * 3), rfl, by rw [addr_add_block]; exact h1, fun i hi => ?_⟩
  rw [List.length_drop] at hi
  have := h2 (k + i) (by omega)
  rw [addr_add_add, addr_add_add, addr_add_add, List.getElem_drop, show k * 3 + i * 3 = (k + i) * 3 by omega, show k * 3 + (i * 3 + 1) = (k + i) * 3 + 1 by omega, show k * 3 + (i * 3 + 2) = (k + i) * 3 + 2 by omega]
  exact this
theorem Ents.block (h : Ents w lo A ys) (hk : ∀ g, lo ≤ g → g < w.heap.size → w'.heap[g]? = w.heap[g]?) : Ents w' lo A ys := fun hn => by
  obtain ⟨a, ha, h0, h1⟩ := h hn
  refine ⟨a, ha, h0, fun i hi => ?_⟩
  obtain ⟨h1, h2, h3, h4⟩ := h1 i hi
  refine ⟨(World.cell?_of_block (hk _ ?_ (cell_lt h1))).trans h1, (World.cell?_of_block (hk _ ?_ (cell_lt h2))).trans h2, (World.cell?_of_block (hk _ ?_ (cell_lt h3))).trans h3, h4.block hk⟩
  all_goals rw [addr_add_block]; exact h0
theorem Ents.set (h : Ents w lo A ys) {p : Addr} (hp : p.block < lo) (u : Value) : Ents (w.setCell p u) lo A ys :=
  h.block fun g hg _ => Below.heap_setCell w p u g (by omega)
/-- An entry's three cells, as the walk writes them. -/
theorem Ents.at_ (h : Ents w lo A ys) {k : Nat} (hk : k < ys.length) : ∃ a, A = some a ∧ lo ≤ a.block ∧ w.cell? (a.add (k * 3)) = some (.int .i64 ys[k].x.num) ∧
    w.cell? ⟨(a.add (k * 3)).block, (a.add (k * 3)).off + 1, none⟩ = some (.slice ys[k].x.A ys[k].x.b.length ys[k].x.c) ∧ w.cell? ⟨(a.add (k * 3)).block, (a.add (k * 3)).off + 2, none⟩ = some (.int .i64 (ys[k].e : Int)) ∧ Laid w lo ys[k].x := by
  obtain ⟨a, ha, h0, h1⟩ := h (by omega)
  obtain ⟨c0, c1, c2, l⟩ := h1 k hk
  rw [radd_pos _ _ _ (by omega)] at c1 c2
  exact ⟨a, ha, h0, c0, c1, c2, l⟩
end
/-- The call's own list of entries. -/
def OwnE (lo : Nat) (w : World) (A : Option Addr) (c : Nat) (ys : List EntM) : Prop := OV 82 3 lo w A ys.length c (cellsE ys)
section
variable {w w' : World} {lo lo' c : Nat} {A : Option Addr} {ys : List EntM}
theorem OwnE.nil : OwnE lo w none 0 [] := OV.nil
theorem OwnE.ab (h : OwnE lo w A c ys) (hb : Ab w w') : OwnE lo w' A c ys := OV.block h fun g _ hg => hb.out.block g hg
theorem OwnE.le (h : OwnE lo w A c ys) : ys.length ≤ c := by
  unfold OwnE OV at h
  rcases h.2 with ⟨hv, h0⟩ | ⟨g, cap, cur, hv, _, _, hn, _⟩
  · injection hv; omega
  · injection hv; omega
theorem OwnE.ents (h : OwnE lo w A c ys) (hl : ∀ y ∈ ys, Laid w lo' y.x) (hlo : lo' ≤ lo) : Ents w lo' A ys := by
  intro hn
  unfold OwnE at h
  rcases h.2 with ⟨_, h0⟩ | ⟨g, cap, cur, hv, hb, _⟩
  · omega
  · have hA : A = some ⟨g, 0, none⟩ := by injection hv
    have hc := h
    unfold OV at hc
    refine ⟨_, hA, Nat.le_trans hlo hb, fun i hi => ?_⟩
    obtain ⟨c0, c1, c2⟩ := cellsE_at ys i hi
    exact ⟨hc.cells (g := g) (by rw [hA]; rfl) _ _ c0, hc.cells (g := g) (by rw [hA]; rfl) _ _ c1, hc.cells (g := g) (by rw [hA]; rfl) _ _ c2, hl _ (List.getElem_mem hi)⟩
end
theorem infoEnt : (Try.prog.info? 82).map (fun i => (i.zero, i.size, i.bytes)) = some (some (.agg #[.int .i64 0, .slice none 0 0, .int .i64 0]), 3, 40) := by kernel_rfl

theorem stepAppE {lo : Nat} {w : World} {A : Option Addr} {c : Nat} {ys : List EntM} {y : EntM} {ops : Array Oper} {o : Oper} {a : Act} {g d : Nat} {fr : Nat × Nat} {K : Act → World → Prop} {Q : Exit → Act → World → Prop} {E : Prop}
    (hgd : o.guard = none) (s z : Operand) (ho : o.op = .call { callee := .builtin .append, args := #[s, z], argTypes := #[77, 77] })
    (hs : a.eval s = .slice A ys.length c) (hy : a.eval z = .slice (some ⟨g, 0, none⟩) 1 d) (h : OwnE lo w A c ys) (hlo : lo ≤ w.heap.size)
    (hg : w.heap[g]? = some (.cells #[.int .i64 y.x.num, .slice y.x.A y.x.b.length y.x.c, .int .i64 (y.e : Int)] 82 fr)) (hlen : ys.length ≤ 1000000)
    (hK : ∀ A' c' w' zs, Hid (zs = ys ++ [y]) → OwnE lo w' A' c' zs → w.grownBy w' (A.map (·.block)) → (∀ W : World, Ab W w → W.heap.size ≤ lo → Ab W w') → K (a.put o.dst (.slice A' zs.length c')) w') :
    if Region.wanted o (yielded ops a.tmps) = true then Oper.wp Try.prog o a w K Q else E := by
  have hw : Region.wanted o (yielded ops a.tmps) = true := by simp [Region.wanted, hgd]
  rw [if_pos hw]
  obtain ⟨i0, hi0, hz0, hz1, hz2⟩ := info_parts infoEnt
  refine wp_appV (ws := y.cells) s z _ ho i0 _ Try.underlying77 hi0 hz0 hz1 hz2 rfl (by omega) hs hy h hlo rfl ?_ ?_ (by omega) (by unfold maxLen; omega) (by omega) ?_
  · intro j u hu
    have e : (⟨g, 0, none⟩ : Addr).add j = ⟨g, j, none⟩ := by unfold Addr.add; split <;> simp_all
    rw [e]
    unfold World.cell?
    rw [hg]
    simpa [EntM.cells] using hu
  · intro u hu
    have hu' : u = .int .i64 y.x.num ∨ u = .slice y.x.A y.x.b.length y.x.c ∨ u = .int .i64 (y.e : Int) := by simpa [EntM.cells] using hu
    rcases hu' with rfl | rfl | rfl <;> rfl
  · intro g' c' w' h4 h5 h6
    have h7 : OwnE lo w' (some ⟨g', 0, none⟩) c' (ys ++ [y]) := by
      unfold OwnE
      rw [cellsE_snoc, List.length_append]; exact h4
    have := hK _ c' w' (ys ++ [y]) rfl h7 h5 (fun W hW hl => grown_ab hW h5 (fun k hk => by
      obtain ⟨a, ha, rfl⟩ := map_blk hk
      exact Nat.le_trans hl (OV.rng h a ha).1))
    rwa [List.length_append] at this

/-- s[k:] of entries, its address under a name. -/
theorem run_cutE (k : Nat) (kd : IntKind) (a : Option Addr) (len cap : Nat) (w : World) (h : k ≤ len) :
    (Instr.slice 77 (.slice a len cap) (some (.int kd (k : Int))) none none).run Try.prog w = .ok (.slice (cutE a cap k) (len - k) (cap - k)) w := by
  have hu : Try.prog.underlying 77 = some (.slice (Try.prog.elem 77)) := by kernel_rfl
  obtain ⟨i0, hi0, _, hz1, _⟩ := info_parts infoEnt
  have he : Try.prog.elem 77 = 82 := by kernel_rfl
  rw [run_slice_l w 77 a len cap hu kd (k : Int) (by omega) (by omega), he]
  simp only [sizeOf, typeInfo, sliced, Int.toNat_natCast, cutE, Sem.run_bind, Sem.run_pure]
  simp [hi0, hz1]
/-- r[k:] of records, its address under a name. -/
def cutR (a : Option Addr) (cap k : Nat) : Option Addr := if cap = k then a else a.map (·.add (k * 2))
theorem Recs.cut {w : World} {lo : Nat} {A : Option Addr} {xs : List RecM} (h : Recs w lo A xs) (k cap : Nat) (hc : xs.length ≤ cap) : Recs w lo (cutR A cap k) (xs.drop k) := fun hn => by
  rw [List.length_drop] at hn
  obtain ⟨a, rfl, h1, h2⟩ := h (by omega)
  unfold cutR
  rw [if_neg (by omega)]
  refine ⟨a.add (k * 2), rfl, by rw [addr_add_block]; exact h1, fun i hi => ?_⟩
  rw [List.length_drop] at hi
  have := h2 (k + i) (by omega)
  rw [addr_add_add, addr_add_add, List.getElem_drop, show k * 2 + i * 2 = (k + i) * 2 by omega, show k * 2 + (i * 2 + 1) = (k + i) * 2 + 1 by omega]
  exact this
theorem run_cutR (k : Nat) (kd : IntKind) (a : Option Addr) (len cap : Nat) (w : World) (h : k ≤ len) :
    (Instr.slice 34 (.slice a len cap) (some (.int kd (k : Int))) none none).run Try.prog w = .ok (.slice (cutR a cap k) (len - k) (cap - k)) w := by
  have hu : Try.prog.underlying 34 = some (.slice (Try.prog.elem 34)) := by kernel_rfl
  obtain ⟨i0, hi0, _, hz1, _⟩ := info_parts infoRec
  have he : Try.prog.elem 34 = 72 := by kernel_rfl
  rw [run_slice_l w 34 a len cap hu kd (k : Int) (by omega) (by omega), he]
  simp only [sizeOf, typeInfo, sliced, Int.toNat_natCast, cutR, Sem.run_bind, Sem.run_pure]
  simp [hi0, hz1]
end Go.Proofs.Ytehagdpcegpbjaa
