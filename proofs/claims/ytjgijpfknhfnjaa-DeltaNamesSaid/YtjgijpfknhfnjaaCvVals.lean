/- Lists of values in memory, appended to. Own work. -/
import Derived.Test.YtjgijpfknhfnjaaCvMem
set_option linter.unusedVariables false
set_option linter.unusedSimpArgs false
namespace Go.Proofs.Ytjgijpfknhfnjaa
open Go.RowKit
open Codec (V)

theorem infoVal : (Try.prog.info? 58).map (fun i => (i.zero, i.size, i.bytes)) = some (some (.agg #[.int .u8 0, .int .i64 0, .slice none 0 0, .slice none 0 0]), 4, 64) := by kernel_rfl
def vcells (ys : List VM) : List Value := (ys.map VM.cells).flatten
theorem vcells_append (xs ys : List VM) : vcells (xs ++ ys) = vcells xs ++ vcells ys := by simp [vcells]
theorem vcells_one (x : VM) : vcells [x] = x.cells := by simp [vcells]
theorem vcells_at (xs : List VM) : ∀ i (h : i < xs.length) (j : Nat) (v : Value), xs[i].cells[j]? = some v → (vcells xs)[i * 4 + j]? = some v := by
  induction xs with
  | nil => intro i h; exact absurd h (by simp)
  | cons x xs ih =>
    intro i h j v hv
    have e : vcells (x :: xs) = x.cells ++ vcells xs := by simp [vcells]
    rw [e]
    cases i with
    | zero =>
      rw [Nat.zero_mul, Nat.zero_add]
      have hv' : x.cells[j]? = some v := hv
      rw [List.getElem?_append_left (List.getElem?_eq_some_iff.1 hv').1]; exact hv'
    | succ i =>
      rw [List.getElem?_append_right (by rw [VM.len]; omega), VM.len, show (i + 1) * 4 + j - 4 = i * 4 + j by omega]
      exact ih i (by simpa using h) j v hv
/-- The call's own list of values, not deeper than d, with bytes and elements of their own. -/
def OwnVs (d lo : Nat) (w : World) (A : Option Addr) (c : Nat) (ys : List VM) : Prop :=
  OV 58 4 lo w A ys.length c (vcells ys) ∧ ∀ y ∈ ys, VL d w (fun g => lo ≤ g ∧ A.map (·.block) ≠ some g) y
theorem OV.le {e : TypeId} {k lo n c : Nat} {w : World} {A : Option Addr} {vs : List Value} (h : OV e k lo w A n c vs) : n ≤ c := by
  rcases h.2 with ⟨h1, h0⟩ | ⟨g, cap, cur, hv, hb, hh, hn, _⟩
  · injection h1; omega
  · injection hv; omega
section
variable {w w' : World} {lo c d : Nat} {A : Option Addr} {ys : List VM} {x : VM}
theorem OwnVs.nil : OwnVs d lo w none 0 [] := ⟨World.ownsRow_nil _ _ _ _, fun y h => absurd h (by simp)⟩
theorem OV.keepB {e : TypeId} {k lo n c : Nat} {w w' : World} {A : Option Addr} {vs : List Value} (h : OV e k lo w A n c vs) (hk : ∀ g, lo ≤ g → g < w.heap.size → w'.heap[g]? = w.heap[g]?) : OV e k lo w' A n c vs := by
  refine ⟨h.1, ?_⟩
  rcases h.2 with h0 | ⟨g, cap, cur, hv, hb, hh, r⟩
  · exact .inl h0
  · refine .inr ⟨g, cap, cur, hv, hb, ?_, r⟩
    have hlt : g < w.heap.size := by
      rcases Nat.lt_or_ge g w.heap.size with h | h
      · exact h
      · rw [Array.getElem?_eq_none h] at hh; cases hh
    rw [hk g hb hlt]; exact hh
theorem OwnVs.keep (h : OwnVs d lo w A c ys) (hk : ∀ g, lo ≤ g → g < w.heap.size → w'.heap[g]? = w.heap[g]?) : OwnVs d lo w' A c ys :=
  ⟨h.1.keepB hk, fun y hy => (h.2 y hy).keep fun g hg hl => hk g hg.1 hl⟩
theorem OwnVs.ab (h : OwnVs d lo w A c ys) (k : Ab w w') : OwnVs d lo w' A c ys := h.keep fun g _ hg => k.out.block g hg
theorem OwnVs.grown {r : Option Nat} (h : OwnVs d lo w A c ys) (k : w.grownBy w' r) (hr : ∀ g, r = some g → g < lo) : OwnVs d lo w' A c ys :=
  h.keep fun g hg hl => k.block g hl fun e => absurd (hr g e.symm) (by omega)
theorem OwnVs.le (h : OwnVs d lo w A c ys) : ys.length ≤ c := h.1.le
theorem OwnVs.snoc {g c' : Nat} (h : OwnVs d lo w A c ys) (hx : VL d w (fun g => lo ≤ g ∧ A.map (·.block) ≠ some g) x)
    (hv : OV 58 4 lo w' (some ⟨g, 0, none⟩) (ys.length + 1) c' (vcells ys ++ x.cells)) (hg : w.grownBy w' (A.map (·.block))) (hk : A.map (·.block) = some g ∨ g = w.heap.size) :
    OwnVs d lo w' (some ⟨g, 0, none⟩) c' (ys ++ [x]) := by
  have key : ∀ y : VM, VL d w (fun g => lo ≤ g ∧ A.map (·.block) ≠ some g) y → VL d w' (fun k => lo ≤ k ∧ (some (⟨g, 0, none⟩ : Addr)).map (·.block) ≠ some k) y := by
    intro y hy
    refine VL.mono ?_ (hy.lt.keep fun k hk' hl => hg.block k hl fun e => hk'.1.2 e.symm)
    rintro k ⟨⟨h1, h2⟩, h3⟩
    refine ⟨h1, ?_⟩
    rcases hk with hk | hk
    · rw [hk] at h2; exact h2
    · simp; omega
  refine ⟨?_, fun y hy => ?_⟩
  · rw [vcells_append, vcells_one, List.length_append]; exact hv
  · rcases List.mem_append.1 hy with hy | hy
    · exact key y (h.2 y hy)
    · obtain rfl : y = x := by simpa using hy
      exact key y hx
theorem OwnVs.lt (h : OwnVs d lo w A c ys) {g : Nat} (e : A.map (·.block) = some g) : g < w.heap.size := by
  rcases h.1.2 with ⟨h1, h0⟩ | ⟨k, cap, cur, hv, hb, hh, _⟩
  · injection h1 with h1; rw [h1] at e; cases e
  · have hA : A = some ⟨k, 0, none⟩ := by injection hv
    rw [hA] at e
    simp at e
    subst e
    rcases Nat.lt_or_ge k w.heap.size with h | h
    · exact h
    · rw [Array.getElem?_eq_none h] at hh; cases hh
theorem OwnVs.low (h : OwnVs d lo w A c ys) {g : Nat} (e : A.map (·.block) = some g) : lo ≤ g := by
  rcases h.1.2 with ⟨h1, h0⟩ | ⟨k, cap, cur, hv, hb, hh, _⟩
  · injection h1 with h1; rw [h1] at e; cases e
  · have hA : A = some ⟨k, 0, none⟩ := by injection hv
    rw [hA] at e
    simp at e
    omega
theorem OwnVs.vls (h : OwnVs d lo w A c ys) {l : List V} (hl : ys.map VM.v = l) : VLs d w (fun g => lo ≤ g) A l := by
  subst hl
  intro hn
  rw [List.length_map] at hn
  rcases h.1.2 with ⟨_, h0⟩ | ⟨g, cap, cur, hv, hb, _⟩
  · omega
  · have hA : A = some ⟨g, 0, none⟩ := by injection hv
    have hc := h.1
    unfold OV at hc
    refine ⟨g, 0, hA, hb, fun i hi => ?_⟩
    rw [List.length_map] at hi
    refine ⟨ys[i], by simp, fun j v hj => ?_, (h.2 _ (List.getElem_mem hi)).mono fun k hk => hk.1⟩
    have := hc.cells (g := g) (by rw [hA]; rfl) _ _ (vcells_at ys i hi j v hj)
    have e : (⟨g, 0, none⟩ : Addr).add (i * 4 + j) = ⟨g, 0 + i * 4 + j, none⟩ := by
      unfold Addr.add
      split
      · rename_i h0; rw [show 0 + i * 4 + j = 0 by omega]
      · simp
    rw [e] at this
    exact this
end
section
variable {lo d : Nat} {w : World} {A : Option Addr} {c : Nat} {ys : List VM} {x : VM} {o : Oper} {a : Act} {g e : Nat} {fr : Nat × Nat}
theorem wp_appVs {K : Act → World → Prop} {Q : Exit → Act → World → Prop} (s y : Operand) (ho : o.op = .call { callee := .builtin .append, args := #[s, y], argTypes := #[56, 56] })
    (hs : a.eval s = .slice A ys.length c) (hy : a.eval y = .slice (some ⟨g, 0, none⟩) 1 e) (h : OwnVs d lo w A c ys) (hlo : lo ≤ w.heap.size)
    (hg : w.heap[g]? = some (.cells x.cells.toArray 58 fr)) (hx : VL d w (fun g => lo ≤ g ∧ A.map (·.block) ≠ some g) x) (hlen : ys.length ≤ 1000000)
    (hK : ∀ g' c' w' zs, Hid (zs = ys ++ [x]) → OwnVs d lo w' (some ⟨g', 0, none⟩) c' zs → w.grownBy w' (A.map (·.block)) → (A.map (·.block) = some g' ∨ g' = w.heap.size) → K (a.put o.dst (.slice (some ⟨g', 0, none⟩) zs.length c')) w') : o.wp Try.prog a w K Q := by
  obtain ⟨i0, hi0, hz0, hz1, hz2⟩ := info_parts infoVal
  refine wp_appV (ws := x.cells) s y _ ho i0 _ Try.underlying56 hi0 hz0 hz1 hz2 rfl (by omega) hs hy h.1 hlo rfl ?_ ?_ (by omega) (by unfold maxLen; omega) (by omega) ?_
  · intro j u hu
    have e : (⟨g, 0, none⟩ : Addr).add j = ⟨g, j, none⟩ := by unfold Addr.add; split <;> simp_all
    rw [e]
    unfold World.cell?
    rw [hg]
    simpa using hu
  · intro u hu
    exact List.all_eq_true.1 x.one u hu
  · intro g' c' w' h4 h5 h6
    have := hK g' c' w' (ys ++ [x]) rfl (h.snoc hx h4 h5 h6) h5 h6
    rwa [List.length_append] at this
theorem listAppVs {ops : Array Oper} {rest : List Oper} {Q : Exit → Act → World → Prop} (hgd : o.guard = none) (s y : Operand) (ho : o.op = .call { callee := .builtin .append, args := #[s, y], argTypes := #[56, 56] })
    (hs : a.eval s = .slice A ys.length c) (hy : a.eval y = .slice (some ⟨g, 0, none⟩) 1 e) (h : OwnVs d lo w A c ys) (hlo : lo ≤ w.heap.size)
    (hg : w.heap[g]? = some (.cells x.cells.toArray 58 fr)) (hx : VL d w (fun g => lo ≤ g ∧ A.map (·.block) ≠ some g) x) (hlen : ys.length ≤ 1000000)
    (hK : ∀ g' c' w' zs, Hid (zs = ys ++ [x]) → OwnVs d lo w' (some ⟨g', 0, none⟩) c' zs → w.grownBy w' (A.map (·.block)) → (A.map (·.block) = some g' ∨ g' = w.heap.size) → wpList Try.prog ops Q rest (a.put o.dst (.slice (some ⟨g', 0, none⟩) zs.length c')) w') :
    wpList Try.prog ops Q (o :: rest) a w :=
  wpList_plain hgd fun _ hK' => wp_appVs s y ho hs hy h hlo hg hx hlen fun g' c' w' zs e h4 h5 h6 => hK' _ _ (hK g' c' w' zs e h4 h5 h6)
end
end Go.Proofs.Ytjgijpfknhfnjaa
