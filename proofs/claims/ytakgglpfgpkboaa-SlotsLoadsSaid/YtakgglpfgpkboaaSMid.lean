/- Worlds that differ in some blocks only. Own work. -/
import Derived.Test.YtakgglpfgpkboaaSMem
set_option linter.unusedVariables false
namespace Go.Proofs.Ytakgglpfgpkboaa
open Go.RowKit
open Slots (Sl)

/-- Only blocks from lo on, before hi, have changed. -/
structure Mid (lo hi : Nat) (w0 w : World) : Prop where
  os : w.os = w0.os
  tape : w.tape = w0.tape
  output : w.output = w0.output
  size : w0.heap.size ≤ w.heap.size
  block : ∀ k, k < w0.heap.size → (k < lo ∨ hi ≤ k) → w.heap[k]? = w0.heap[k]?
section
variable {lo hi : Nat} {w0 w W : World}
theorem Mid.refl : Mid lo hi w0 w0 := ⟨rfl, rfl, rfl, Nat.le_refl _, fun _ _ _ => rfl⟩
theorem Mid.set (h : Mid lo hi w0 w) {g : Nat} (h1 : lo ≤ g) (h2 : g < hi) (i : Nat) (u : Value) : Mid lo hi w0 (w.setCell ⟨g, i, none⟩ u) :=
  ⟨h.os, h.tape, h.output, by simpa [World.setCell] using h.size, fun k hk hne => (Below.heap_setCell w _ u k (fun e => by simp only at e; omega)).trans (h.block k hk hne)⟩
theorem Mid.cell (h : Mid lo hi w0 w) {p : Addr} {v : Value} (hc : w0.cell? p = some v) (hp : p.block < lo ∨ hi ≤ p.block) : w.cell? p = some v :=
  (World.cell?_of_block (h.block _ (cell_lt hc) hp)).trans hc
theorem Mid.ab (h : Mid lo hi w0 w) (hW : Ab W w0) (hl : W.heap.size ≤ lo) : Ab W w :=
  ⟨h.os.trans hW.out.os, h.tape.trans hW.out.tape, h.output.trans hW.out.output, Nat.le_trans hW.size h.size, fun k hk => (h.block k (Nat.lt_of_lt_of_le hk hW.size) (.inl (by omega))).trans (hW.out.block k hk)⟩
theorem Mid.rb {lb : Nat} {A : Option Addr} {l : List UInt8} (h : Mid lo hi w0 w) (hr : RB w0 lb A l) (hl : hi ≤ lb) : RB w lb A l := by
  intro hn
  obtain ⟨ad, h1, h2, h3⟩ := hr hn
  exact ⟨ad, h1, h2, fun i hi => h.cell (h3 i hi) (by rw [addr_add_block]; omega)⟩
theorem Mid.slm {lb : Nat} {m : AM} {r : Sl} (h : Mid lo hi w0 w) (hr : SlM w0 lb m r) (hl : hi ≤ lb) : SlM w lb m r :=
  ⟨h.rb hr.a hl, h.rb hr.b hl, h.rb hr.c hl, h.rb hr.d hl, hr.la, hr.lb, hr.lc, hr.ld, hr.sa, hr.sb, hr.sc, hr.sd⟩
theorem frozen_of_block {w w0 : World} {p : Addr} (h : w.heap[p.block]? = w0.heap[p.block]?) : w.frozen? p = w0.frozen? p := by
  unfold World.frozen?
  rw [h]
theorem Mid.slb {b : Nat} {m : AM} {r : Sl} (h : Mid lo hi w0 w) (hr : SlB w0 b m r) (hb : b < lo ∨ hi ≤ b) : SlB w b m r :=
  ⟨h.cell hr.q0 hb, h.cell hr.q1 hb, h.cell hr.q2 hb, h.cell hr.q3 hb, h.cell hr.q4 hb, h.cell hr.q5 hb, h.cell hr.q6 hb, h.cell hr.q7 hb, h.cell hr.q8 hb,
    (frozen_of_block (h.block _ hr.lt hb)).trans hr.g0, (frozen_of_block (h.block _ hr.lt hb)).trans hr.g1, (frozen_of_block (h.block _ hr.lt hb)).trans hr.g2, (frozen_of_block (h.block _ hr.lt hb)).trans hr.g3,
    (frozen_of_block (h.block _ hr.lt hb)).trans hr.g4, (frozen_of_block (h.block _ hr.lt hb)).trans hr.g5, (frozen_of_block (h.block _ hr.lt hb)).trans hr.g6, (frozen_of_block (h.block _ hr.lt hb)).trans hr.g7, (frozen_of_block (h.block _ hr.lt hb)).trans hr.g8⟩
end
end Go.Proofs.Ytakgglpfgpkboaa
