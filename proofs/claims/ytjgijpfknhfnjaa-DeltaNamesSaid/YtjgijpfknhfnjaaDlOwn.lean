/- Deltas of a call's own in memory, appended to. Own work. -/
import Derived.Test.YtjgijpfknhfnjaaDlMem
import Derived.Test.YtjgijpfknhfnjaaCvMem
set_option linter.unusedVariables false
set_option linter.unusedSimpArgs false
namespace Go.Proofs.Ytjgijpfknhfnjaa
open Go.RowKit

theorem infoPt : (Try.prog.info? 24).map (fun i => (i.zero, i.size, i.bytes)) = some (some (.agg #[.int .i64 0, .int .i64 0, .slice none 0 0]), 3, 40) := by kernel_rfl
def pcells (ps : List PM) : List Value := (ps.map PM.cells).flatten
theorem pcells_append (xs ys : List PM) : pcells (xs ++ ys) = pcells xs ++ pcells ys := by simp [pcells]
theorem pcells_one (x : PM) : pcells [x] = x.cells := by simp [pcells]
theorem pcells_at (xs : List PM) : ∀ i (h : i < xs.length) (j : Nat) (v : Value), xs[i].cells[j]? = some v → (pcells xs)[i * 3 + j]? = some v := by
  induction xs with
  | nil => intro i h; exact absurd h (by simp)
  | cons x xs ih =>
    intro i h j v hv
    have e : pcells (x :: xs) = x.cells ++ pcells xs := by simp [pcells]
    rw [e]
    cases i with
    | zero =>
      rw [Nat.zero_mul, Nat.zero_add]
      have hv' : x.cells[j]? = some v := hv
      rw [List.getElem?_append_left (List.getElem?_eq_some_iff.1 hv').1]; exact hv'
    | succ i =>
      rw [List.getElem?_append_right (by rw [PM.len]; omega), PM.len, show (i + 1) * 3 + j - 3 = i * 3 + j by omega]
      exact ih i (by simpa using h) j v hv
/-- A part whose bytes lie in blocks of S. -/
structure PO (w : World) (S : Nat → Prop) (x : PM) : Prop where
  b : RS w S x.A x.b
  c : x.b.length ≤ x.c
  l : x.b.length ≤ 9223372036854775807
  p0 : -9223372036854775808 ≤ x.p
  p1 : x.p ≤ 9223372036854775807
  n0 : -9223372036854775808 ≤ x.n
  n1 : x.n ≤ 9223372036854775807
theorem PO.mono {w : World} {S S' : Nat → Prop} {x : PM} (h : PO w S x) (k : ∀ g, S g → S' g) : PO w S' x := ⟨h.b.mono k, h.c, h.l, h.p0, h.p1, h.n0, h.n1⟩
theorem PO.keep {w w' : World} {S : Nat → Prop} {x : PM} (h : PO w S x) (k : ∀ g, S g → g < w.heap.size → w'.heap[g]? = w.heap[g]?) : PO w' S x := ⟨h.b.keep k, h.c, h.l, h.p0, h.p1, h.n0, h.n1⟩
theorem PO.lt {w : World} {S : Nat → Prop} {x : PM} (h : PO w S x) : PO w (fun g => S g ∧ g < w.heap.size) x := ⟨h.b.lt, h.c, h.l, h.p0, h.p1, h.n0, h.n1⟩
theorem PO.ab {w w' : World} {S : Nat → Prop} {x : PM} (h : PO w S x) (k : Ab w w') : PO w' S x := h.keep fun g _ hg => k.out.block g hg
theorem PO.pl {w : World} {S : Nat → Prop} {x : PM} (h : PO w S x) : PL w x := ⟨h.b.rb, h.c, h.l, h.p0, h.p1, h.n0, h.n1⟩
/-- The call's own delta. -/
def OwnPts (lo : Nat) (w : World) (A : Option Addr) (c : Nat) (ps : List PM) : Prop :=
  OV 24 3 lo w A ps.length c (pcells ps) ∧ ∀ y ∈ ps, PO w (fun g => lo ≤ g ∧ A.map (·.block) ≠ some g) y
theorem OV.leP {e : TypeId} {k lo n c : Nat} {w : World} {A : Option Addr} {vs : List Value} (h : OV e k lo w A n c vs) : n ≤ c := by
  rcases h.2 with ⟨h1, h0⟩ | ⟨g, cap, cur, hv, hb, hh, hn, _⟩
  · injection h1; omega
  · injection hv; omega
theorem OV.keepP {e : TypeId} {k lo n c : Nat} {w w' : World} {A : Option Addr} {vs : List Value} (h : OV e k lo w A n c vs) (hk : ∀ g, lo ≤ g → g < w.heap.size → w'.heap[g]? = w.heap[g]?) : OV e k lo w' A n c vs := by
  refine ⟨h.1, ?_⟩
  rcases h.2 with h0 | ⟨g, cap, cur, hv, hb, hh, r⟩
  · exact .inl h0
  · refine .inr ⟨g, cap, cur, hv, hb, ?_, r⟩
    have hlt : g < w.heap.size := by
      rcases Nat.lt_or_ge g w.heap.size with h | h
      · exact h
      · rw [Array.getElem?_eq_none h] at hh; cases hh
    rw [hk g hb hlt]; exact hh
section
variable {w w' : World} {lo c : Nat} {A : Option Addr} {ps : List PM} {x : PM}
theorem OwnPts.nil : OwnPts lo w none 0 [] := ⟨World.ownsRow_nil _ _ _ _, fun y h => absurd h (by simp)⟩
theorem OwnPts.keep (h : OwnPts lo w A c ps) (hk : ∀ g, lo ≤ g → g < w.heap.size → w'.heap[g]? = w.heap[g]?) : OwnPts lo w' A c ps :=
  ⟨h.1.keepP hk, fun y hy => (h.2 y hy).keep fun g hg hl => hk g hg.1 hl⟩
theorem OwnPts.ab (h : OwnPts lo w A c ps) (k : Ab w w') : OwnPts lo w' A c ps := h.keep fun g _ hg => k.out.block g hg
theorem OwnPts.mono {lo' : Nat} (h : OwnPts lo w A c ps) (hl : lo' ≤ lo) : OwnPts lo' w A c ps := by
  refine ⟨⟨h.1.1, ?_⟩, fun y hy => (h.2 y hy).mono fun g hg => ⟨Nat.le_trans hl hg.1, hg.2⟩⟩
  rcases h.1.2 with h0 | ⟨g, cap, cur, hv, hb, r⟩
  · exact .inl h0
  · exact .inr ⟨g, cap, cur, hv, Nat.le_trans hl hb, r⟩
theorem OwnPts.le (h : OwnPts lo w A c ps) : ps.length ≤ c := h.1.leP
theorem OwnPts.snoc {g c' : Nat} (h : OwnPts lo w A c ps) (hx : PO w (fun g => lo ≤ g ∧ A.map (·.block) ≠ some g) x)
    (hv : OV 24 3 lo w' (some ⟨g, 0, none⟩) (ps.length + 1) c' (pcells ps ++ x.cells)) (hg : w.grownBy w' (A.map (·.block))) (hk : A.map (·.block) = some g ∨ g = w.heap.size) :
    OwnPts lo w' (some ⟨g, 0, none⟩) c' (ps ++ [x]) := by
  have key : ∀ y : PM, PO w (fun g => lo ≤ g ∧ A.map (·.block) ≠ some g) y → PO w' (fun k => lo ≤ k ∧ (some (⟨g, 0, none⟩ : Addr)).map (·.block) ≠ some k) y := by
    intro y hy
    refine PO.mono (hy.lt.keep fun k hk' hl => hg.block k hl fun e => hk'.1.2 e.symm) ?_
    rintro k ⟨⟨h1, h2⟩, h3⟩
    refine ⟨h1, ?_⟩
    rcases hk with hk | hk
    · rw [hk] at h2; exact h2
    · simp; omega
  refine ⟨?_, fun y hy => ?_⟩
  · rw [pcells_append, pcells_one, List.length_append]; exact hv
  · rcases List.mem_append.1 hy with hy | hy
    · exact key y (h.2 y hy)
    · obtain rfl : y = x := by simpa using hy
      exact key y hx
theorem OwnPts.lt (h : OwnPts lo w A c ps) {g : Nat} (e : A.map (·.block) = some g) : lo ≤ g ∧ g < w.heap.size := by
  rcases h.1.2 with ⟨h1, h0⟩ | ⟨k, cap, cur, hv, hb, hh, _⟩
  · injection h1 with h1; rw [h1] at e; cases e
  · have hA : A = some ⟨k, 0, none⟩ := by injection hv
    rw [hA] at e
    simp at e
    subst e
    refine ⟨hb, ?_⟩
    rcases Nat.lt_or_ge k w.heap.size with h | h
    · exact h
    · rw [Array.getElem?_eq_none h] at hh; cases hh
theorem OwnPts.pts (h : OwnPts lo w A c ps) (hl : ps.length ≤ 9223372036854775807) : Pts w A c ps := by
  refine ⟨fun hn => ?_, fun x hx => (h.2 x hx).pl, h.le, hl⟩
  rcases h.1.2 with ⟨_, h0⟩ | ⟨g, cap, cur, hv, hb, _⟩
  · omega
  · have hA : A = some ⟨g, 0, none⟩ := by injection hv
    have hc := h.1
    unfold OV at hc
    refine ⟨g, 0, hA, fun i hi j v hj => ?_⟩
    have := hc.cells (g := g) (by rw [hA]; rfl) _ _ (pcells_at ps i hi j v hj)
    have e : (⟨g, 0, none⟩ : Addr).add (i * 3 + j) = ⟨g, 0 + i * 3 + j, none⟩ := by
      unfold Addr.add
      split
      · rename_i h0; rw [show 0 + i * 3 + j = 0 by omega]
      · simp
    rw [e] at this
    exact this
end
theorem listAppP {lo : Nat} {w : World} {A : Option Addr} {c : Nat} {ps : List PM} {x : PM} {o : Oper} {a : Act} {g e : Nat} {fr : Nat × Nat} {ops : Array Oper} {rest : List Oper} {Q : Exit → Act → World → Prop} (hgd : o.guard = none) (s y : Operand) (ho : o.op = .call { callee := .builtin .append, args := #[s, y], argTypes := #[25, 25] })
    (hs : a.eval s = .slice A ps.length c) (hy : a.eval y = .slice (some ⟨g, 0, none⟩) 1 e) (h : OwnPts lo w A c ps) (hlo : lo ≤ w.heap.size)
    (hg : w.heap[g]? = some (.cells x.cells.toArray 24 fr)) (hx : PO w (fun g => lo ≤ g ∧ A.map (·.block) ≠ some g) x) (hlen : ps.length ≤ 1000000)
    (hK : ∀ g' c' w' zs, Hid (zs = ps ++ [x]) → OwnPts lo w' (some ⟨g', 0, none⟩) c' zs → w.grownBy w' (A.map (·.block)) → (∀ W : World, Ab W w → W.heap.size ≤ lo → Ab W w') → wpList Try.prog ops Q rest (a.put o.dst (.slice (some ⟨g', 0, none⟩) zs.length c')) w') :
    wpList Try.prog ops Q (o :: rest) a w := by
  obtain ⟨i0, hi0, hz0, hz1, hz2⟩ := info_parts infoPt
  refine wpList_plain hgd fun _ hK' => ?_
  refine wp_appV (ws := x.cells) s y _ ho i0 _ Try.underlying25 hi0 hz0 hz1 hz2 rfl (by omega) hs hy h.1 hlo rfl ?_ ?_ (by omega) (by unfold maxLen; omega) (by omega) ?_
  · intro j u hu
    have e : (⟨g, 0, none⟩ : Addr).add j = ⟨g, j, none⟩ := by unfold Addr.add; split <;> simp_all
    rw [e]
    unfold World.cell?
    rw [hg]
    simpa using hu
  · intro u hu
    exact List.all_eq_true.1 x.one u hu
  · intro g' c' w' h4 h5 h6
    have := hK' _ _ (hK g' c' w' (ps ++ [x]) rfl (h.snoc hx h4 h5 h6) h5 (fun W hW hl => grown_ab hW h5 (fun r hr => by have := (h.lt hr).1; omega)))
    rwa [List.length_append] at this
end Go.Proofs.Ytjgijpfknhfnjaa
