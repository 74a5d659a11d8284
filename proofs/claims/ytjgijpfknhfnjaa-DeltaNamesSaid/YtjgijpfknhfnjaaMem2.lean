/- More words for memory: a row of the call's own that is written in place. Own work. -/
import Derived.Test.YtjgijpfknhfnjaaMem
namespace Go.Proofs.Ytjgijpfknhfnjaa
open Go.RowKit
section
variable {e : TypeId} {lo lo' : Nat} {W w w' : World} {A : Option Addr} {c : Nat} {l : List UInt8}
theorem OR.at_ (h : OR e lo w A c l) (hl : 0 < l.length) : ∃ g, A = some ⟨g, 0, none⟩ ∧ lo ≤ g ∧ g < w.heap.size := by
  rcases h.out.2 with ⟨_, h0⟩ | ⟨g, cap, cur, hv, hb, hh, _⟩
  · omega
  · refine ⟨g, by injection hv, hb, ?_⟩
    rcases Nat.lt_or_ge g w.heap.size with h | h
    · exact h
    · rw [Array.getElem?_eq_none h] at hh; cases hh
theorem OR.unfrozen {g : Nat} (h : OR e lo w (some ⟨g, 0, none⟩) c l) (i : Nat) : w.frozen? ⟨g, i, none⟩ = false := h.out.frozenAt i
theorem OR.store {g : Nat} (h : OR e lo w (some ⟨g, 0, none⟩) c l) (i : Nat) (b : UInt8) : OR e lo (w.setCell ⟨g, i, none⟩ (cb b)) (some ⟨g, 0, none⟩) c (l.set i b) := by
  have h1 := h.out.stored i (cb b)
  unfold OR
  rw [List.length_set, List.map_set]
  exact h1.1
theorem grown_set {w0 w : World} {g i : Nat} (h : w0.grownBy w (some g)) (u : Value) : w0.grownBy (w.setCell ⟨g, i, none⟩ u) (some g) :=
  ⟨h.os, h.tape, h.output, by simpa [World.setCell] using h.size, fun k hk hne => (Below.heap_setCell w _ u k (fun e => hne (by rw [e]))).trans (h.block k hk hne)⟩
theorem grown_at {w0 w : World} {row : Option Nat} (h : w0.grownBy w row) {p : Addr} {v : Value} (hne : some p.block ≠ row) (hc : w0.cell? p = some v) : w.cell? p = some v :=
  (World.cell?_of_block (h.block p.block (cell_lt hc) hne)).trans hc
theorem grown_rb {w0 w : World} {lb : Nat} {row : Option Nat} (h : w0.grownBy w row) {m : List UInt8} {B : Option Addr} (hb : RB w0 lb B m) (hne : ∀ p, B = some p → some p.block ≠ row) : RB w lb B m := by
  intro hl
  obtain ⟨ad, h1, h2, h3⟩ := hb hl
  exact ⟨ad, h1, h2, fun i hi => grown_at h (by rw [addr_add_block]; exact hne ad h1) (h3 i hi)⟩
theorem grown_hi {w0 w : World} {lb : Nat} {D : Option Addr} (h : w0.grownBy w (D.map (·.block))) {m : List UInt8} {B : Option Addr} (hb : RB w0 lb B m) (hD : ∀ a, D = some a → a.block < lb) : RB w lb B m := by
  intro hl
  obtain ⟨ad, h1, h2, h3⟩ := hb hl
  refine ⟨ad, h1, h2, fun i hi => grown_at h ?_ (h3 i hi)⟩
  rw [addr_add_block]
  intro he
  cases D with
  | none => cases he
  | some x => have h4 := hD x rfl; simp at he; omega
theorem grown_lo {W w0 w : World} {D : Option Addr} (h : w0.grownBy w (D.map (·.block))) (hW : Ab W w0) {m : List UInt8} {B : Option Addr} (hb : RB W 0 B m) (hD : ∀ a, D = some a → W.heap.size ≤ a.block) : RB w 0 B m := by
  intro hl
  obtain ⟨ad, h1, h2, h3⟩ := hb hl
  refine ⟨ad, h1, h2, fun i hi => grown_at h ?_ (hW.at (h3 i hi))⟩
  have hlt := cell_lt (h3 i hi)
  intro he
  rw [addr_add_block] at hlt he
  cases D with
  | none => cases he
  | some x => have h4 := hD x rfl; simp at he; omega
theorem grown_cell {w0 w : World} {D : Option Addr} (h : w0.grownBy w (D.map (·.block))) {b o : Nat} {v : Value} (hc : w0.cell? ⟨b, o, none⟩ = some v) (hD : ∀ a, D = some a → a.block ≠ b) : w.cell? ⟨b, o, none⟩ = some v := by
  refine grown_at h ?_ hc
  intro he
  cases D with
  | none => cases he
  | some x => exact hD x rfl (by simpa using he.symm)
theorem grown_ab {W w0 w : World} {row : Option Nat} (hW : Ab W w0) (h : w0.grownBy w row) (hr : ∀ g, row = some g → W.heap.size ≤ g) : Ab W w :=
  Below.grown hW.out h hW.size hr
theorem u8_succ (x : UInt8) : Value.int .u8 (IntKind.u8.wrap ((x.toNat : Int) + 1)) = cb (x + 1) := by
  have h : ((x + 1).toNat : Int) = ((x.toNat : Int) + 1) % 256 := by
    have h1 : (1 : UInt8).toNat = 1 := rfl
    rw [UInt8.toNat_add, h1]; omega
  unfold cb
  rw [h, IntKind.wrap_u8]

theorem OR.rng (h : OR e lo w A c l) : ∀ a, A = some a → lo ≤ a.block ∧ a.block < w.heap.size := by
  intro a ha
  rcases h.out.2 with ⟨h1, h0⟩ | ⟨g, cap, cur, hv, hb, hh, _⟩
  · injection h1 with h1; rw [ha] at h1; cases h1
  · injection hv with hv; rw [ha] at hv; injection hv with hv; subst hv
    refine ⟨hb, ?_⟩
    rcases Nat.lt_or_ge g w.heap.size with h | h
    · exact h
    · rw [Array.getElem?_eq_none h] at hh; cases hh
theorem OR.cellAt {g : Nat} (h : OR e lo w (some ⟨g, 0, none⟩) c l) {i : Nat} (hi : i < l.length) : w.cell? ⟨g, i, none⟩ = some (.int .u8 (l[i].toNat : Int)) := by
  have h1 := h.out.cellAt i (by omega)
  rw [h1, List.getElem?_map, List.getElem?_eq_getElem hi]; rfl
theorem u8_succ' (x : UInt8) : Value.int .u8 (((x.toNat : Int) + 1) % 256) = cb (x + 1) := by rw [← u8_succ, IntKind.wrap_u8]
/-- What holds in a loop that writes into a row of the call's own, in place. -/
def InPlace (e : TypeId) (D : Option Addr) (c len lo : Nat) (w0 : World) (i : Value) (wr : World) : Prop :=
  ∃ (k : Nat) (l : List UInt8), k ≤ len ∧ i = .int .i64 (k : Int) ∧ Hid (l.length = len) ∧ OR e lo wr D c l ∧ w0.grownBy wr (D.map (·.block))
end
end Go.Proofs.Ytjgijpfknhfnjaa
