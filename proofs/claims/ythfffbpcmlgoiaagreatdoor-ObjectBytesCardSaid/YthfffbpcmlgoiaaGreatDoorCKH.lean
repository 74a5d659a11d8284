/- The texts CvVals, CvApp, one behind the other. Own work. -/
import Derived.Test.YthfffbpcmlgoiaaGreatDoorCKA
set_option linter.unusedVariables false
set_option linter.unusedSimpArgs false
/- Lists of values in memory, appended to. Own work. -/
namespace Go.Proofs.YthfffbpcmlgoiaaGreatDoor
open Go.RowKit
open Codec (V)

theorem infoVal : (Tryz.prog.info? 88).map (fun i => (i.zero, i.size, i.bytes)) = some (some (.agg #[.int .u8 0, .int .i64 0, .slice none 0 0, .slice none 0 0]), 4, 64) := by kernel_rfl
def vcells (ys : List VM) : List Value := (ys.map VM.cells).flatten
theorem vcells_append (xs ys : List VM) : vcells (xs ++ ys) = vcells xs ++ vcells ys := by simp [vcells]
theorem vcells_one (x : VM) : vcells [x] = x.cells := by simp [vcells]
theorem vcells_at (xs : List VM) : ∀ i (h : i < xs.length) (j : Nat) (v : Value), xs[i].cells[j]? = some v → (vcells xs)[i * 4 + j]? = some v := by
  induction xs with
  | nil => intro i h; exact absurd h (by simp)
  | cons x xs ih =>
    intro i h j v hv
    have e : vcells (x :: xs) = x.cells ++ vcells xs := by simp [vcells]
    rw [e]
    cases i with
    | zero =>
      rw [Nat.zero_mul, Nat.zero_add]
      have hv' : x.cells[j]? = some v := hv
      rw [List.getElem?_append_left (List.getElem?_eq_some_iff.1 hv').1]; exact hv'
    | succ i =>
      rw [List.getElem?_append_right (by rw [VM.len]; omega), VM.len, show (i + 1) * 4 + j - 4 = i * 4 + j by omega]
      exact ih i (by simpa using h) j v hv
/-- The call's own list of values, not deeper than d, with bytes and elements of their own. -/
def OwnVs (d lo : Nat) (w : World) (A : Option Addr) (c : Nat) (ys : List VM) : Prop :=
  OV 88 4 lo w A ys.length c (vcells ys) ∧ ∀ y ∈ ys, VL d w (fun g => lo ≤ g ∧ A.map (·.block) ≠ some g) y
theorem OV.le {e : TypeId} {k lo n c : Nat} {w : World} {A : Option Addr} {vs : List Value} (h : OV e k lo w A n c vs) : n ≤ c := by
  rcases h.2 with ⟨h1, h0⟩ | ⟨g, cap, cur, hv, hb, hh, hn, _⟩
  · injection h1; omega
  · injection hv; omega
section
variable {w w' : World} {lo c d : Nat} {A : Option Addr} {ys : List VM} {x : VM}
theorem OwnVs.nil : OwnVs d lo w none 0 [] := ⟨World.ownsRow_nil _ _ _ _, fun y h => absurd h (by simp)⟩
theorem OV.keepB {e : TypeId} {k lo n c : Nat} {w w' : World} {A : Option Addr} {vs : List Value} (h : OV e k lo w A n c vs) (hk : ∀ g, lo ≤ g → g < w.heap.size → w'.heap[g]? = w.heap[g]?) : OV e k lo w' A n c vs := by
  refine ⟨h.1, ?_⟩
  rcases h.2 with h0 | ⟨g, cap, cur, hv, hb, hh, r⟩
  · exact .inl h0
  · refine .inr ⟨g, cap, cur, hv, hb, ?_, r⟩
    have hlt : g < w.heap.size := by
      rcases Nat.lt_or_ge g w.heap.size with h | h
      · exact h
      · rw [Array.getElem?_eq_none h] at hh; cases hh
    rw [hk g hb hlt]; exact hh
theorem OwnVs.keep (h : OwnVs d lo w A c ys) (hk : ∀ g, lo ≤ g → g < w.heap.size → w'.heap[g]? = w.heap[g]?) : OwnVs d lo w' A c ys :=
  ⟨h.1.keepB hk, fun y hy => (h.2 y hy).keep fun g hg hl => hk g hg.1 hl⟩
theorem OwnVs.ab (h : OwnVs d lo w A c ys) (k : Ab w w') : OwnVs d lo w' A c ys := h.keep fun g _ hg => k.out.block g hg
theorem OwnVs.grown {r : Option Nat} (h : OwnVs d lo w A c ys) (k : w.grownBy w' r) (hr : ∀ g, r = some g → g < lo) : OwnVs d lo w' A c ys :=
  h.keep fun g hg hl => k.block g hl fun e => absurd (hr g e.symm) (by omega)
theorem OwnVs.le (h : OwnVs d lo w A c ys) : ys.length ≤ c := h.1.le
theorem OwnVs.snoc {g c' : Nat} (h : OwnVs d lo w A c ys) (hx : VL d w (fun g => lo ≤ g ∧ A.map (·.block) ≠ some g) x)
    (hv : OV 88 4 lo w' (some ⟨g, 0, none⟩) (ys.length + 1) c' (vcells ys ++ x.cells)) (hg : w.grownBy w' (A.map (·.block))) (hk : A.map (·.block) = some g ∨ g = w.heap.size) :
    OwnVs d lo w' (some ⟨g, 0, none⟩) c' (ys ++ [x]) := by
  have key : ∀ y : VM, VL d w (fun g => lo ≤ g ∧ A.map (·.block) ≠ some g) y → VL d w' (fun k => lo ≤ k ∧ (some (⟨g, 0, none⟩ : Addr)).map (·.block) ≠ some k) y := by
    intro y hy
    refine VL.mono ?_ (hy.lt.keep fun k hk' hl => hg.block k hl fun e => hk'.1.2 e.symm)
    rintro k ⟨⟨h1, h2⟩, h3⟩
    refine ⟨h1, ?_⟩
    rcases hk with hk | hk
    · rw [hk] at h2; exact h2
    · simp; omega
  refine ⟨?_, fun y hy => ?_⟩
  · rw [vcells_append, vcells_one, List.length_append]; exact hv
  · rcases List.mem_append.1 hy with hy | hy
    · exact key y (h.2 y hy)
    · obtain rfl : y = x := by simpa using hy
      exact key y hx
theorem OwnVs.lt (h : OwnVs d lo w A c ys) {g : Nat} (e : A.map (·.block) = some g) : g < w.heap.size := by
  rcases h.1.2 with ⟨h1, h0⟩ | ⟨k, cap, cur, hv, hb, hh, _⟩
  · injection h1 with h1; rw [h1] at e; cases e
  · have hA : A = some ⟨k, 0, none⟩ := by injection hv
    rw [hA] at e
    simp at e
    subst e
    rcases Nat.lt_or_ge k w.heap.size with h | h
    · exact h
    · rw [Array.getElem?_eq_none h] at hh; cases hh
theorem OwnVs.low (h : OwnVs d lo w A c ys) {g : Nat} (e : A.map (·.block) = some g) : lo ≤ g := by
  rcases h.1.2 with ⟨h1, h0⟩ | ⟨k, cap, cur, hv, hb, hh, _⟩
  · injection h1 with h1; rw [h1] at e; cases e
  · have hA : A = some ⟨k, 0, none⟩ := by injection hv
    rw [hA] at e
    simp at e
    omega
theorem OwnVs.vls (h : OwnVs d lo w A c ys) {l : List V} (hl : ys.map VM.v = l) : VLs d w (fun g => lo ≤ g) A l := by
  subst hl
  intro hn
  rw [List.length_map] at hn
  rcases h.1.2 with ⟨_, h0⟩ | ⟨g, cap, cur, hv, hb, _⟩
  · omega
  · have hA : A = some ⟨g, 0, none⟩ := by injection hv
    have hc := h.1
    unfold OV at hc
    refine ⟨g, 0, hA, hb, fun i hi => ?_⟩
    rw [List.length_map] at hi
    refine ⟨ys[i], by simp, fun j v hj => ?_, (h.2 _ (List.getElem_mem hi)).mono fun k hk => hk.1⟩
    have := hc.cells (g := g) (by rw [hA]; rfl) _ _ (vcells_at ys i hi j v hj)
    have e : (⟨g, 0, none⟩ : Addr).add (i * 4 + j) = ⟨g, 0 + i * 4 + j, none⟩ := by
      unfold Addr.add
      split
      · rename_i h0; rw [show 0 + i * 4 + j = 0 by omega]
      · simp
    rw [e] at this
    exact this
end
section
variable {lo d : Nat} {w : World} {A : Option Addr} {c : Nat} {ys : List VM} {x : VM} {o : Oper} {a : Act} {g e : Nat} {fr : Nat × Nat}
theorem wp_appVs {K : Act → World → Prop} {Q : Exit → Act → World → Prop} (s y : Operand) (ho : o.op = .call { callee := .builtin .append, args := #[s, y], argTypes := #[86, 86] })
    (hs : a.eval s = .slice A ys.length c) (hy : a.eval y = .slice (some ⟨g, 0, none⟩) 1 e) (h : OwnVs d lo w A c ys) (hlo : lo ≤ w.heap.size)
    (hg : w.heap[g]? = some (.cells x.cells.toArray 88 fr)) (hx : VL d w (fun g => lo ≤ g ∧ A.map (·.block) ≠ some g) x) (hlen : ys.length ≤ 1000000)
    (hK : ∀ g' c' w' zs, Hid (zs = ys ++ [x]) → OwnVs d lo w' (some ⟨g', 0, none⟩) c' zs → w.grownBy w' (A.map (·.block)) → (A.map (·.block) = some g' ∨ g' = w.heap.size) → K (a.put o.dst (.slice (some ⟨g', 0, none⟩) zs.length c')) w') : o.wp Tryz.prog a w K Q := by
  obtain ⟨i0, hi0, hz0, hz1, hz2⟩ := info_parts infoVal
  refine wp_appV (ws := x.cells) s y _ ho i0 _ Tryz.underlying86 hi0 hz0 hz1 hz2 rfl (by omega) hs hy h.1 hlo rfl ?_ ?_ (by omega) (by unfold maxLen; omega) (by omega) ?_
  · intro j u hu
    have e : (⟨g, 0, none⟩ : Addr).add j = ⟨g, j, none⟩ := by unfold Addr.add; split <;> simp_all
    rw [e]
    unfold World.cell?
    rw [hg]
    simpa using hu
  · intro u hu
    exact List.all_eq_true.1 x.one u hu
  · intro g' c' w' h4 h5 h6
    have := hK g' c' w' (ys ++ [x]) rfl (h.snoc hx h4 h5 h6) h5 h6
    rwa [List.length_append] at this
theorem listAppVs {ops : Array Oper} {rest : List Oper} {Q : Exit → Act → World → Prop} (hgd : o.guard = none) (s y : Operand) (ho : o.op = .call { callee := .builtin .append, args := #[s, y], argTypes := #[86, 86] })
    (hs : a.eval s = .slice A ys.length c) (hy : a.eval y = .slice (some ⟨g, 0, none⟩) 1 e) (h : OwnVs d lo w A c ys) (hlo : lo ≤ w.heap.size)
    (hg : w.heap[g]? = some (.cells x.cells.toArray 88 fr)) (hx : VL d w (fun g => lo ≤ g ∧ A.map (·.block) ≠ some g) x) (hlen : ys.length ≤ 1000000)
    (hK : ∀ g' c' w' zs, Hid (zs = ys ++ [x]) → OwnVs d lo w' (some ⟨g', 0, none⟩) c' zs → w.grownBy w' (A.map (·.block)) → (A.map (·.block) = some g' ∨ g' = w.heap.size) → wpList Tryz.prog ops Q rest (a.put o.dst (.slice (some ⟨g', 0, none⟩) zs.length c')) w') :
    wpList Tryz.prog ops Q (o :: rest) a w :=
  wpList_plain hgd fun _ hK' => wp_appVs s y ho hs hy h hlo hg hx hlen fun g' c' w' zs e h4 h5 h6 => hK' _ _ (hK g' c' w' zs e h4 h5 h6)
end
end Go.Proofs.YthfffbpcmlgoiaaGreatDoor

/- Bytes appended to a row of the call's own: in which block the new row lies. Own work. -/
namespace Go.Proofs.YthfffbpcmlgoiaaGreatDoor
open Go.RowKit

theorem VB.grw {w w' : World} {b : Nat} {vs : List Value} {r : Option Nat} (h : VB w b vs) (k : w.grownBy w' r) (hr : r ≠ some b) : VB w' b vs := by
  have hb := k.block b h.lt (fun e => hr e.symm)
  refine ⟨Nat.lt_of_lt_of_le h.lt k.size, fun i v hi => ?_, fun i => ?_⟩
  · exact (World.cell?_of_block (a := ⟨b, i, none⟩) hb).trans (h.q i v hi)
  · refine Eq.trans ?_ (h.g i)
    unfold World.frozen?
    rw [show (⟨b, i, none⟩ : Addr).block = b from rfl, hb]
/-- The row that follows lies where the elder one lies, or in a block laid since. -/
def Nxt (w : World) (A A' : Option Addr) : Prop := ∀ g, A'.map (·.block) = some g → A.map (·.block) = some g ∨ w.heap.size ≤ g
theorem Nxt.refl (w : World) (A : Option Addr) : Nxt w A A := fun g h => .inl h
/-- Bytes l, then m, in a row of the call's own. -/
structure Apd (lo : Nat) (w : World) (A : Option Addr) (w' : World) (A' : Option Addr) (c' : Nat) (L : List UInt8) : Prop where
  o : OR 5 lo w' A' c' L
  g : w.grownBy w' (A.map (·.block))
  n : Nxt w A A'
theorem grown_step {a b c : World} {A A' : Option Addr} (h : a.grownBy b (A.map (·.block))) (n : Nxt a A A') (k : b.grownBy c (A'.map (·.block))) : a.grownBy c (A.map (·.block)) :=
  ⟨k.os.trans h.os, k.tape.trans h.tape, k.output.trans h.output, Nat.le_trans h.size k.size, fun g hg hne => by
    refine (k.block g (Nat.lt_of_lt_of_le hg h.size) fun e => ?_).trans (h.block g hg hne)
    rcases n g e.symm with h1 | h1
    · exact hne h1.symm
    · omega⟩
theorem Nxt.step {a b : World} {A A' A'' : Option Addr} (h : Nxt a A A') (k : Nxt b A' A'') (hs : a.heap.size ≤ b.heap.size) : Nxt a A A'' := fun g e => by
  rcases k g e with h1 | h1
  · exact h g h1
  · exact .inr (by omega)
theorem Apd.step {lo : Nat} {a b c : World} {A A' A'' : Option Addr} {c1 c2 : Nat} {L M : List UInt8} (h : Apd lo a A b A' c1 L) (k : Apd lo b A' c A'' c2 M) : Apd lo a A c A'' c2 M :=
  ⟨k.o, grown_step h.g h.n k.g, h.n.step k.n h.g.size⟩
theorem Apd.ab {lo : Nat} {a b c : World} {A A' : Option Addr} {c1 : Nat} {L : List UInt8} (h : Apd lo a A b A' c1 L) (k : Ab b c) : Apd lo a A c A' c1 L :=
  ⟨h.o.keep k, grown_step h.g h.n (⟨k.out.os, k.out.tape, k.out.output, k.out.size, fun g hg _ => k.out.block g hg⟩), h.n⟩
theorem Apd.pre {lo : Nat} {a b c : World} {A A' : Option Addr} {c1 : Nat} {L : List UInt8} (k : Ab a b) (h : Apd lo b A c A' c1 L) : Apd lo a A c A' c1 L :=
  ⟨h.o, grown_step (A' := A) (⟨k.out.os, k.out.tape, k.out.output, k.out.size, fun g hg _ => k.out.block g hg⟩) (Nxt.refl _ _) h.g, fun g e => by
    rcases h.n g e with h1 | h1
    · exact .inl h1
    · exact .inr (Nat.le_trans k.size h1)⟩
/-- What lay in other blocks, from none of which the row is, stays. -/
theorem Apd.keep {lo : Nat} {a b : World} {A A' : Option Addr} {c1 : Nat} {L : List UInt8} (h : Apd lo a A b A' c1 L) {B : Nat} (hB : ∀ g, A.map (·.block) = some g → B ≤ g) : ∀ g, g < B → g < a.heap.size → b.heap[g]? = a.heap[g]? :=
  fun g hg hl => h.g.block g hl fun e => absurd (hB g e.symm) (by omega)
theorem OR.low {e : TypeId} {lo : Nat} {w : World} {A : Option Addr} {c : Nat} {l : List UInt8} (h : OR e lo w A c l) : ∀ g, A.map (·.block) = some g → lo ≤ g := by
  intro g e
  cases hA : A with
  | none => rw [hA] at e; cases e
  | some a => rw [hA] at e; have := (h.rng a hA).1; simp at e; omega
theorem run_app_nil {P : Program} {e : TypeId} {lo : Nat} {w : World} {A : Option Addr} {c : Nat} {l : List UInt8} (t ty : TypeId) (i : TypeInfo) (ht : P.underlying t = some (.slice e)) (hi : P.info? e = some i) (hsize : i.size = 1) (h : OR e lo w A c l) (B : Option Addr) (d : Nat) :
    (Builtin.append_ #[t, t] ty #[.slice A l.length c, .slice B 0 d]).run P w = .ok (.slice A l.length c) w := by
  rcases B with _ | bd
  · rcases h.out.2 with ⟨hv, h0⟩ | ⟨g, cap, cur, hv, _, _, hnc, _⟩
    · injection hv with h1 h2 h3; subst h1 h3
      have hl : l = [] := List.eq_nil_of_length_eq_zero h0
      subst hl
      simp [Builtin.append_, run_underlying ht, sizeOf, typeInfo, hi, Builtin.lenOf, Builtin.firstCells]
    · injection hv with h1 h2 h3; subst h1 h3
      simp [Builtin.append_, run_underlying ht, sizeOf, typeInfo, hi, Builtin.lenOf, Builtin.firstCells, hnc, storeCells]
  · rcases h.out.2 with ⟨hv, h0⟩ | ⟨g, cap, cur, hv, _, hh, hnc, _⟩
    · injection hv with h1 h2 h3; subst h1 h3
      have hl : l = [] := List.eq_nil_of_length_eq_zero h0
      subst hl
      simp [Builtin.append_, run_underlying ht, sizeOf, typeInfo, hi, Builtin.lenOf, Builtin.firstCells, loadCells, loadCellsFrom]
    · injection hv with h1 h2 h3; subst h1 h3
      simp [Builtin.append_, run_underlying ht, sizeOf, typeInfo, hi, Builtin.lenOf, Builtin.firstCells, hnc, storeCells, loadCells, loadCellsFrom]
theorem run_app_nxt {lo : Nat} {w : World} {A : Option Addr} {c : Nat} {l : List UInt8} {B : Option Addr} {d lb : Nat} {m : List UInt8} (ty : TypeId) (h : OR 5 lo w A c l) (hlo : lo ≤ w.heap.size) (hr : RB w lb B m) (hd : m.length ≤ d) (hlen : l.length + m.length ≤ 70368744177664) :
    ∃ A' c' w', (Builtin.append_ #[24, 24] ty #[.slice A l.length c, .slice B m.length d]).run Tryz.prog w = .ok (.slice A' (l ++ m).length c') w' ∧ Apd lo w A w' A' c' (l ++ m) := by
  obtain ⟨i0, hi0, hz0, hz1, hz2⟩ := info_parts infoU8
  rcases Nat.eq_zero_or_pos m.length with h0 | hpos
  · have hm : m = [] := List.eq_nil_of_length_eq_zero h0
    subst hm
    have hrun2 := run_app_nil (P := Tryz.prog) 24 ty i0 Tryz.underlying24 hi0 hz1 h B d
    refine ⟨A, c, w, ?_, ?_⟩
    · rw [List.append_nil]; exact hrun2
    · rw [List.append_nil]
      exact ⟨h, World.grownBy.refl w _, Nxt.refl _ _⟩
  · obtain ⟨bd, rfl, _, hcell⟩ := hr hpos
    obtain ⟨g, c', w', hrun, h4, h5, h6⟩ := run_appV (P := Tryz.prog) 24 ty i0 _ Tryz.underlying24 hi0 hz0 hz1 hz2 rfl (by omega) h.ov hlo bd m.length d (m.map cb) (by simp)
      (by
        intro j u hu
        have hj : j < m.length := by simpa using (List.getElem?_eq_some_iff.1 hu).1
        have : u = cb m[j] := by
          rw [List.getElem?_map, List.getElem?_eq_getElem hj] at hu
          simpa using hu.symm
        rw [this]; exact hcell j hj)
      (by intro u hu; obtain ⟨b, _, rfl⟩ := List.mem_map.1 hu; rfl) hpos (by unfold maxLen; omega) (by omega)
    rw [← List.map_append] at h4
    refine ⟨some ⟨g, 0, none⟩, c', w', by rw [List.length_append]; exact hrun, h4.or (by simp), h5, fun k e => ?_⟩
    obtain rfl : g = k := by simpa using e
    rcases h6 with h6 | h6
    · exact .inl h6
    · exact .inr (by omega)
section
variable {lo : Nat} {w : World} {A : Option Addr} {c : Nat} {l : List UInt8} {ops : Array Oper} {rest : List Oper} {o : Oper} {a : Act} {K : Act → World → Prop} {Q : Exit → Act → World → Prop} {E : Prop} {B : Option Addr} {n d lb : Nat} {m : List UInt8}
theorem wpApn (s x : Operand) (ho : o.op = .call { callee := .builtin .append, args := #[s, x], argTypes := #[24, 24] })
    (hs : a.eval s = .slice A l.length c) (hx : a.eval x = .slice B n d) (hn : m.length = n) (h : OR 5 lo w A c l) (hlo : lo ≤ w.heap.size) (hr : RB w lb B m) (hd : m.length ≤ d) (hlen : l.length + m.length ≤ 70368744177664)
    (hk : ∀ A' c' w' L, Hid (L = l ++ m) → Apd lo w A w' A' c' L → K (a.put o.dst (.slice A' L.length c')) w') : o.wp Tryz.prog a w K Q := by
  subst hn
  obtain ⟨A', c', w', hrun, h4⟩ := run_app_nxt o.type h hlo hr hd hlen
  unfold Oper.wp execOp
  simp only [ho, resolve, invoke, builtin, Sem.run_bind, Sem.run_pure, Result.andThen_ok, List.map_toArray, List.map_cons, List.map_nil, hs, hx, hrun]
  exact hk A' c' w' _ rfl h4
theorem listApn (hgd : o.guard = none) (s x : Operand) (ho : o.op = .call { callee := .builtin .append, args := #[s, x], argTypes := #[24, 24] })
    (hs : a.eval s = .slice A l.length c) (hx : a.eval x = .slice B n d) (hn : m.length = n) (h : OR 5 lo w A c l) (hlo : lo ≤ w.heap.size) (hr : RB w lb B m) (hd : m.length ≤ d) (hlen : l.length + m.length ≤ 70368744177664)
    (hk : ∀ A' c' w' L, Hid (L = l ++ m) → Apd lo w A w' A' c' L → wpList Tryz.prog ops Q rest (a.put o.dst (.slice A' L.length c')) w') : wpList Tryz.prog ops Q (o :: rest) a w :=
  wpList_plain hgd fun _ hK => wpApn s x ho hs hx hn h hlo hr hd hlen fun A' c' w' L hL h4 => hK _ _ (hk A' c' w' L hL h4)
theorem stepApn (hgd : o.guard = none) (s x : Operand) (ho : o.op = .call { callee := .builtin .append, args := #[s, x], argTypes := #[24, 24] })
    (hs : a.eval s = .slice A l.length c) (hx : a.eval x = .slice B n d) (hn : m.length = n) (h : OR 5 lo w A c l) (hlo : lo ≤ w.heap.size) (hr : RB w lb B m) (hd : m.length ≤ d) (hlen : l.length + m.length ≤ 70368744177664)
    (hk : ∀ A' c' w' L, Hid (L = l ++ m) → Apd lo w A w' A' c' L → K (a.put o.dst (.slice A' L.length c')) w') : if Region.wanted o (yielded ops a.tmps) = true then Oper.wp Tryz.prog o a w K Q else E := by
  have hw : Region.wanted o (yielded ops a.tmps) = true := by simp [Region.wanted, hgd]
  rw [if_pos hw]
  exact wpApn s x ho hs hx hn h hlo hr hd hlen hk
/-- append(b, one byte), the byte in a new row. -/
theorem rb_one {g : Nat} {v : Int} {x : UInt8} {fr : Nat × Nat} (hg : w.heap[g]? = some (.cells #[.int .u8 v] 5 fr)) (hv : v = (x.toNat : Int)) : RB w 0 (some ⟨g, 0, none⟩) [x] := by
  subst hv
  intro _
  refine ⟨_, rfl, Nat.zero_le _, fun i hi => ?_⟩
  have : i = 0 := by simp at hi; omega
  subst this
  unfold Addr.add World.cell?
  simp [hg, cb]
end
end Go.Proofs.YthfffbpcmlgoiaaGreatDoor
