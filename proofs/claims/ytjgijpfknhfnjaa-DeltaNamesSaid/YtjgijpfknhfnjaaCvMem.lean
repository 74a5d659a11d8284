/- Values of the codec in memory. Own work. -/
import Derived.Test.YtjgijpfknhfnjaaShBase
import Derived.Test.YtjgijpfknhfnjaaFrMem
import Derived.Test.YtjgijpfknhfnjaaCodec
set_option linter.unusedVariables false
set_option linter.unusedSimpArgs false
namespace Go.Proofs.Ytjgijpfknhfnjaa
open Go.RowKit
open Codec (V)

/-- The bytes l lie at A, in a block of S. -/
def RS (w : World) (S : Nat → Prop) (A : Option Addr) (l : List UInt8) : Prop :=
  0 < l.length → ∃ ad, A = some ad ∧ S ad.block ∧ ∀ i (h : i < l.length), w.cell? (ad.add i) = some (cb l[i])
section
variable {w w' : World} {S S' : Nat → Prop} {A : Option Addr} {l : List UInt8} {lo : Nat}
theorem RS.nil : RS w S A [] := fun h => absurd h (by simp)
theorem RS.mono (h : RS w S A l) (k : ∀ g, S g → S' g) : RS w S' A l := fun hl => by
  obtain ⟨ad, h1, h2, h3⟩ := h hl; exact ⟨ad, h1, k _ h2, h3⟩
theorem RS.mono' (k : ∀ g, S g → S' g) (h : RS w S A l) : RS w S' A l := h.mono k
theorem RS.keep (h : RS w S A l) (k : ∀ g, S g → g < w.heap.size → w'.heap[g]? = w.heap[g]?) : RS w' S A l := fun hl => by
  obtain ⟨ad, h1, h2, h3⟩ := h hl
  refine ⟨ad, h1, h2, fun i hi => (World.cell?_of_block (k _ ?_ (cell_lt (h3 i hi)))).trans (h3 i hi)⟩
  rw [addr_add_block]; exact h2
theorem RS.rb (h : RS w S A l) : RB w 0 A l := fun hl => by
  obtain ⟨ad, h1, h2, h3⟩ := h hl; exact ⟨ad, h1, Nat.zero_le _, h3⟩
theorem RB.rs (h : RB w lo A l) (k : ∀ g, lo ≤ g → S g) : RS w S A l := fun hl => by
  obtain ⟨ad, h1, h2, h3⟩ := h hl; exact ⟨ad, h1, k _ h2, h3⟩
/-- s[k:] -/
theorem RS.cut (h : RS w S A l) (k cap : Nat) (hc : l.length ≤ cap) : RS w S (cutA A cap k) (l.drop k) := by
  intro hl
  rw [List.length_drop] at hl
  obtain ⟨ad, rfl, h2, h3⟩ := h (by omega)
  unfold cutA
  rw [if_neg (by omega)]
  refine ⟨ad.add k, rfl, by rw [addr_add_block]; exact h2, fun i hi => ?_⟩
  rw [addr_add_add]
  rw [List.length_drop] at hi
  rw [List.getElem_drop]
  exact h3 _ (by omega)
/-- s[:k] -/
theorem RS.take (h : RS w S A l) (k : Nat) : RS w S A (l.take k) := by
  intro hl
  rw [List.length_take] at hl
  obtain ⟨ad, rfl, h2, h3⟩ := h (by omega)
  refine ⟨ad, rfl, h2, fun i hi => ?_⟩
  rw [List.length_take] at hi
  rw [List.getElem_take]
  exact h3 _ (by omega)
theorem RS.ab (h : RS w S A l) (k : Ab w w') : RS w' S A l := h.keep fun g _ hg => k.out.block g hg
theorem RS.setb {p : Addr} (h : RS w S A l) (hp : ¬ S p.block) (u : Value) : RS (w.setCell p u) S A l :=
  h.keep fun g hS _ => Below.heap_setCell w p u g (fun e => hp (e ▸ hS))
/-- Bytes lie in a block that there is. -/
theorem RS.lt (h : RS w S A l) : RS w (fun g => S g ∧ g < w.heap.size) A l := fun hl => by
  obtain ⟨ad, h1, h2, h3⟩ := h hl
  have := cell_lt (h3 0 hl)
  rw [addr_add_block] at this
  exact ⟨ad, h1, ⟨h2, this⟩, h3⟩
end

/-- A value as it lies in memory: where its bytes and its elements lie. -/
structure VM where
  kind : Nat
  num : Int
  A : Option Addr
  b : List UInt8
  c : Nat
  L : Option Addr
  l : List V
  d : Nat
def VM.v (x : VM) : V := .mk x.kind x.num x.b x.l
def VM.cells (x : VM) : List Value := [.int .u8 (x.kind : Int), .int .i64 x.num, .slice x.A x.b.length x.c, .slice x.L x.l.length x.d]
def VM.val (x : VM) : Value := .agg x.cells.toArray
def VM.zero : VM := ⟨0, 0, none, [], 0, none, [], 0⟩
theorem VM.len (x : VM) : x.cells.length = 4 := rfl
theorem VM.one (x : VM) : x.cells.all (·.oneCell') = true := rfl
/-- The value x, not deeper than d, lies in w, its bytes and its elements in blocks of S. -/
def VL : Nat → World → (Nat → Prop) → VM → Prop
  | 0, _, _, _ => False
  | d + 1, w, S, x => (x.kind < 256 ∧ -9223372036854775808 ≤ x.num ∧ x.num ≤ 9223372036854775807 ∧ x.b.length ≤ x.c ∧ x.b.length ≤ 9223372036854775807 ∧ x.l.length ≤ x.d ∧ x.l.length ≤ 9223372036854775807) ∧ RS w S x.A x.b ∧
      (0 < x.l.length → ∃ g o, x.L = some ⟨g, o, none⟩ ∧ S g ∧ ∀ i (h : i < x.l.length), ∃ y : VM, y.v = x.l[i] ∧ w.rangeAt g (o + i * 4) y.cells ∧ VL d w S y)
theorem VL.mono {w : World} {S S' : Nat → Prop} (k : ∀ g, S g → S' g) : ∀ {d : Nat} {x : VM}, VL d w S x → VL d w S' x := by
  intro d
  induction d with
  | zero => intro x h; exact h.elim
  | succ d ih =>
    intro x h
    refine ⟨h.1, h.2.1.mono k, fun hl => ?_⟩
    obtain ⟨g, o, h1, h2, h3⟩ := h.2.2 hl
    exact ⟨g, o, h1, k _ h2, fun i hi => by obtain ⟨y, y1, y2, y3⟩ := h3 i hi; exact ⟨y, y1, y2, ih y3⟩⟩
theorem VL.keep {w w' : World} {S : Nat → Prop} (k : ∀ g, S g → g < w.heap.size → w'.heap[g]? = w.heap[g]?) : ∀ {d : Nat} {x : VM}, VL d w S x → VL d w' S x := by
  intro d
  induction d with
  | zero => intro x h; exact h.elim
  | succ d ih =>
    intro x h
    refine ⟨h.1, h.2.1.keep k, fun hl => ?_⟩
    obtain ⟨g, o, h1, h2, h3⟩ := h.2.2 hl
    refine ⟨g, o, h1, h2, fun i hi => ?_⟩
    obtain ⟨y, y1, y2, y3⟩ := h3 i hi
    refine ⟨y, y1, fun j v hv => ?_, ih y3⟩
    have hc := y2 j v hv
    exact (World.cell?_of_block (k g h2 (cell_lt hc))).trans hc
theorem VL.succ {w : World} {S : Nat → Prop} : ∀ {d : Nat} {x : VM}, VL d w S x → VL (d + 1) w S x := by
  intro d
  induction d with
  | zero => intro x h; exact h.elim
  | succ d ih =>
    intro x h
    refine ⟨h.1, h.2.1, fun hl => ?_⟩
    obtain ⟨g, o, h1, h2, h3⟩ := h.2.2 hl
    exact ⟨g, o, h1, h2, fun i hi => by obtain ⟨y, y1, y2, y3⟩ := h3 i hi; exact ⟨y, y1, y2, ih y3⟩⟩
theorem VL.le {w : World} {S : Nat → Prop} {d e : Nat} {x : VM} (h : VL d w S x) (k : d ≤ e) : VL e w S x := by
  induction e with
  | zero => obtain rfl : d = 0 := by omega
            exact h
  | succ e ih =>
    by_cases he : d = e + 1
    · subst he; exact h
    · exact (ih (by omega)).succ
/-- What lies there lies in blocks that there are. -/
theorem VL.lt {w : World} {S : Nat → Prop} : ∀ {d : Nat} {x : VM}, VL d w S x → VL d w (fun g => S g ∧ g < w.heap.size) x := by
  intro d
  induction d with
  | zero => intro x h; exact h.elim
  | succ d ih =>
    intro x h
    refine ⟨h.1, h.2.1.lt, fun hl => ?_⟩
    obtain ⟨g, o, h1, h2, h3⟩ := h.2.2 hl
    refine ⟨g, o, h1, ⟨h2, ?_⟩, fun i hi => by obtain ⟨y, y1, y2, y3⟩ := h3 i hi; exact ⟨y, y1, y2, ih y3⟩⟩
    obtain ⟨y, _, y2, _⟩ := h3 0 hl
    exact cell_lt (y2 0 _ rfl)
section
variable {w w' : World} {S S' : Nat → Prop} {d : Nat} {x : VM}
theorem VL.ab (h : VL d w S x) (k : Ab w w') : VL d w' S x := h.keep fun g _ hg => k.out.block g hg
theorem VL.grown (h : VL d w S x) {r : Option Nat} (k : w.grownBy w' r) (hr : ∀ g, r = some g → ¬ S g) : VL d w' S x :=
  h.keep fun g hS hg => k.block g hg fun e => hr g e.symm hS
theorem VL.kd (h : VL d w S x) : x.kind < 256 := by
  cases d with
  | zero => exact h.elim
  | succ d => exact h.1.1
end
/-- The elements of a list. -/
def VLs (d : Nat) (w : World) (S : Nat → Prop) (L : Option Addr) (l : List V) : Prop :=
  0 < l.length → ∃ g o, L = some ⟨g, o, none⟩ ∧ S g ∧ ∀ i (h : i < l.length), ∃ y : VM, y.v = l[i] ∧ w.rangeAt g (o + i * 4) y.cells ∧ VL d w S y
theorem VLs.keep {w w' : World} {S : Nat → Prop} {d : Nat} {L : Option Addr} {l : List V} (h : VLs d w S L l) (k : ∀ g, S g → g < w.heap.size → w'.heap[g]? = w.heap[g]?) : VLs d w' S L l := fun hl => by
  obtain ⟨g, o, h1, h2, h3⟩ := h hl
  refine ⟨g, o, h1, h2, fun i hi => ?_⟩
  obtain ⟨y, y1, y2, y3⟩ := h3 i hi
  refine ⟨y, y1, fun j v hv => ?_, y3.keep k⟩
  have hc := y2 j v hv
  exact (World.cell?_of_block (k g h2 (cell_lt hc))).trans hc
theorem VLs.mono {w : World} {S S' : Nat → Prop} {d : Nat} {L : Option Addr} {l : List V} (k : ∀ g, S g → S' g) (h : VLs d w S L l) : VLs d w S' L l := fun hl => by
  obtain ⟨g, o, h1, h2, h3⟩ := h hl
  exact ⟨g, o, h1, k _ h2, fun i hi => by obtain ⟨y, y1, y2, y3⟩ := h3 i hi; exact ⟨y, y1, y2, y3.mono k⟩⟩
theorem VL.els {w : World} {S : Nat → Prop} {d : Nat} {x : VM} (h : VL (d + 1) w S x) : VLs d w S x.L x.l := h.2.2
theorem VL.bytes {w : World} {S : Nat → Prop} {d : Nat} {x : VM} (h : VL (d + 1) w S x) : RS w S x.A x.b := h.2.1
end Go.Proofs.Ytjgijpfknhfnjaa
