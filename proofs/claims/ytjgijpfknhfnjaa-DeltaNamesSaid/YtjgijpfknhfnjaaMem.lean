/- Memory words of this seat's proofs: a slice of bytes that reads as a list; worlds above a base. Own work. -/
import Derived.WalkKit
import Derived.WalkSpells
import Derived.Deep.QuietTactic
import Derived.BigQuiet
import Derived.Deep.AppendLies
import Derived.Deep.Draws
import Derived.Lib.Hide
import Derived.Maps.AppendAt
import Derived.RegionTactic
import Derived.OwnWalk
import Derived.Deep.RegionHeld3
import Derived.Lib.AppendZeros
namespace Go.Proofs.Ytjgijpfknhfnjaa
open Go.RowKit

/-- Nothing that was there has changed. -/
def Ab (w w' : World) : Prop := Below w.heap.size w w'
theorem Ab.out {w w' : World} (h : Ab w w') : Below w.heap.size w w' := h
theorem Ab.refl (w : World) : Ab w w := Below.refl _ _
theorem Ab.size {w w' : World} (h : Ab w w') : w.heap.size ≤ w'.heap.size := h.out.size
theorem Ab.trans {a b c : World} (h : Ab a b) (k : Ab b c) : Ab a c := Below.trans h.out (k.out.mono h.size)
theorem Ab.drew {a b : World} (h : Ab a b) : Ab a b.drew := Below.drew h.out
theorem Ab.drewN {a b : World} (h : Ab a b) (n : Nat) : Ab a (b.drewN n) := ⟨h.out.os, h.out.tape, h.out.output, h.out.size, h.out.block⟩
theorem Ab.alloc {a b : World} (h : Ab a b) (o : Obj) : Ab a (b.alloc o) := Below.alloc h.out h.size o
theorem Ab.set {a b : World} (h : Ab a b) {p : Addr} (hp : a.heap.size ≤ p.block) (u : Value) : Ab a (b.setCell p u) := Below.setCell h.out hp u
theorem cell_lt {w : World} {p : Addr} {v : Value} (h : w.cell? p = some v) : p.block < w.heap.size := by
  rcases Nat.lt_or_ge p.block w.heap.size with h' | h'
  · exact h'
  · simp [World.cell?, Array.getElem?_eq_none h'] at h
theorem Ab.at {w w' : World} (h : Ab w w') {p : Addr} {v : Value} (hc : w.cell? p = some v) : w'.cell? p = some v :=
  (h.out.cell (cell_lt hc)).trans hc
theorem Ab.frozen {w w' : World} (h : Ab w w') {p : Addr} (hp : p.block < w.heap.size) : w'.frozen? p = w.frozen? p := h.out.frozen hp

theorem Ab.fr {w w' : World} (h : Ab w w') {p : Addr} (hp : p.block < w.heap.size) (hf : w.frozen? p = false) : w'.frozen? p = false := (h.frozen hp).trans hf

theorem fr_alloc {W : World} {p : Addr} {o : Obj} (hp : p.block < W.heap.size) (hf : W.frozen? p = false) : (W.alloc o).frozen? p = false := ((Ab.refl W).alloc o).fr hp hf

/-- The cell of a byte. -/
def cb (b : UInt8) : Value := .int .u8 (b.toNat : Int)

theorem addr_add_block (a : Addr) (n : Nat) : (a.add n).block = a.block := by unfold Addr.add; split <;> rfl
theorem addr_add_add (a : Addr) (i j : Nat) : (a.add i).add j = a.add (i + j) := by
  unfold Addr.add
  by_cases hi : i = 0 <;> by_cases hj : j = 0 <;> simp [hi, hj, Nat.add_assoc]

/-- The bytes l lie at A (nothing is asked where there are none), in blocks from lo on. -/
def RB (w : World) (lo : Nat) (A : Option Addr) (l : List UInt8) : Prop :=
  0 < l.length → ∃ ad, A = some ad ∧ lo ≤ ad.block ∧ ∀ i (h : i < l.length), w.cell? (ad.add i) = some (cb l[i])

section
variable {w w' : World} {lo lo' : Nat} {A : Option Addr} {l : List UInt8}
theorem RB.nil : RB w lo A [] := fun h => absurd h (by simp)
theorem RB.ab (h : RB w lo A l) (hk : Ab w w') : RB w' lo A l := by
  intro hl
  obtain ⟨ad, h1, h2, h3⟩ := h hl
  exact ⟨ad, h1, h2, fun i hi => hk.at (h3 i hi)⟩
theorem RB.mono (h : RB w lo A l) (hlo : lo' ≤ lo) : RB w lo' A l := fun hl => by
  obtain ⟨ad, h1, h2, h3⟩ := h hl; exact ⟨ad, h1, by omega, h3⟩
theorem RB.zero (h : RB w lo A l) : RB w 0 A l := h.mono (Nat.zero_le _)
theorem RB.cell (h : RB w lo A l) {i : Nat} (hi : i < l.length) {ad : Addr} (hA : A = some ad) : w.cell? (ad.add i) = some (.int .u8 (l[i].toNat : Int)) := by
  obtain ⟨ad', h1, _, h3⟩ := h (by omega)
  rw [hA] at h1; cases h1; exact h3 i hi
/-- s[k:] -/
theorem RB.drop (h : RB w lo A l) (k cap : Nat) (hc : l.length ≤ cap) : RB w lo (if cap = k then A else A.map (·.add k)) (l.drop k) := by
  intro hl
  rw [List.length_drop] at hl
  obtain ⟨ad, rfl, h2, h3⟩ := h (by omega)
  rw [if_neg (by omega)]
  refine ⟨ad.add k, rfl, by rw [addr_add_block]; exact h2, fun i hi => ?_⟩
  rw [addr_add_add]
  rw [List.length_drop] at hi
  rw [List.getElem_drop]
  exact h3 _ (by omega)
/-- The address of s[k:]. -/
def cutA (a : Option Addr) (cap k : Nat) : Option Addr := if cap = k then a else a.map (·.add k)
theorem RB.cut (h : RB w lo A l) (k cap : Nat) (hc : l.length ≤ cap) : RB w lo (cutA A cap k) (l.drop k) := h.drop k cap hc
/-- s[:k] -/
theorem RB.take (h : RB w lo A l) (k : Nat) : RB w lo A (l.take k) := by
  intro hl
  rw [List.length_take] at hl
  obtain ⟨ad, rfl, h2, h3⟩ := h (by omega)
  refine ⟨ad, rfl, h2, fun i hi => ?_⟩
  rw [List.length_take] at hi
  rw [List.getElem_take]
  exact h3 _ (by omega)
end


/-- The call's own row of bytes (element type e), in blocks from lo on. -/
def OR (e : TypeId) (lo : Nat) (w : World) (A : Option Addr) (c : Nat) (l : List UInt8) : Prop := w.ownsRow lo e 1 (.slice A l.length c) l.length (l.map cb)

section
variable {e : TypeId} {lo lo' : Nat} {W w w' : World} {A : Option Addr} {c : Nat} {l : List UInt8}
theorem OR.out (h : OR e lo w A c l) : w.ownsRow lo e 1 (.slice A l.length c) l.length (l.map cb) := h
theorem OR.rb (h : OR e lo w A c l) : RB w lo A l := by
  intro hl
  rcases h.out.2 with ⟨_, h0⟩ | ⟨g, cap, cur, hv, hb, _⟩
  · omega
  · have hA : A = some ⟨g, 0, none⟩ := by injection hv
    refine ⟨_, hA, hb, fun i hi => ?_⟩
    exact h.out.cells (g := g) (by rw [hA]; rfl) i _ (by simp [hi])
theorem OR.le (h : OR e lo w A c l) : l.length ≤ c := by
  rcases h.out.2 with ⟨hv, h0⟩ | ⟨g, cap, cur, hv, _, _, hn, _⟩
  · injection hv; omega
  · injection hv; omega
theorem OR.capLe (h : OR e lo w A c l) : c ≤ 9223372036854775807 := by
  rcases h.out.2 with ⟨hv, h0⟩ | ⟨g, cap, cur, hv, _, _, hn, hm, _⟩
  · injection hv; omega
  · injection hv; unfold maxLen at hm; omega
theorem OR.block (h : OR e lo w A c l) (hk : ∀ g, lo ≤ g → g < w.heap.size → w'.heap[g]? = w.heap[g]?) : OR e lo w' A c l := by
  refine ⟨h.out.1, ?_⟩
  rcases h.out.2 with h0 | ⟨g, cap, cur, hv, hb, hh, r⟩
  · exact .inl h0
  · refine .inr ⟨g, cap, cur, hv, hb, ?_, r⟩
    have hlt : g < w.heap.size := by
      rcases Nat.lt_or_ge g w.heap.size with h | h
      · exact h
      · rw [Array.getElem?_eq_none h] at hh; cases hh
    rw [hk g hb hlt]; exact hh
theorem OR.keep (h : OR e lo w A c l) (hk : Ab w w') : OR e lo w' A c l := h.block fun g _ hg => hk.out.block g hg
theorem OR.drew (h : OR e lo w A c l) : OR e lo w.drew A c l := h
theorem OR.drewN (h : OR e lo w A c l) (n : Nat) : OR e lo (w.drewN n) A c l := h
theorem OR.alloc (h : OR e lo w A c l) (o : Obj) : OR e lo (w.alloc o) A c l := h.keep ((Ab.refl w).alloc o)
theorem OR.set (h : OR e lo w A c l) {p : Addr} (hp : p.block < lo) (u : Value) : OR e lo (w.setCell p u) A c l :=
  h.block fun g hg _ => Below.heap_setCell w p u g (by omega)
theorem OR.setNew (h : OR e lo w A c l) {p : Addr} (o : Obj) (hp : w.heap.size ≤ p.block) (u : Value) : OR e lo ((w.alloc o).setCell p u) A c l :=
  h.block fun g _ hg => by rw [Below.heap_setCell _ p u g (by omega), Below.heap_alloc w o g hg]
theorem OR.mono (h : OR e lo w A c l) (hl : lo' ≤ lo) : OR e lo' w A c l := by
  refine ⟨h.out.1, ?_⟩
  rcases h.out.2 with h1 | ⟨g, cap, cur, hv, hb, r⟩
  · exact .inl h1
  · exact .inr ⟨g, cap, cur, hv, Nat.le_trans hl hb, r⟩
theorem OR.lit_at {g : Nat} (hb : lo ≤ g) (hg : w.heap[g]? = some (.cells #[] e (0, 0))) : OR e lo w (some ⟨g, 0, none⟩) 0 [] :=
  ⟨rfl, .inr ⟨g, 0, #[], rfl, hb, hg, Nat.le_refl _, by unfold maxLen; omega, rfl, rfl⟩⟩
theorem OR.none_ : OR e lo w none 0 [] := World.ownsRow_nil _ _ _ _
theorem new_drew {W : World} {o : Obj} {n : Nat} (h : W.heap.size = n) : (W.alloc o).drew.heap[n]? = some o := by subst h; exact heap_alloc_new W o
theorem new_plain {W : World} {o : Obj} {n : Nat} (h : W.heap.size = n) : (W.alloc o).heap[n]? = some o := by subst h; exact heap_alloc_new W o
theorem new_drewN {W : World} {o : Obj} {n k : Nat} (h : W.heap.size = n) : ((W.alloc o).drewN k).heap[n]? = some o := by subst h; exact heap_alloc_new W o

theorem cell_alloc {W : World} {p : Addr} {v : Value} {o : Obj} (h : W.cell? p = some v) : (W.alloc o).cell? p = some v :=
  (World.cell?_alloc_lt W o p (cell_lt h)).trans h
theorem cell_drew {W : World} {p : Addr} {v : Value} (h : W.cell? p = some v) : W.drew.cell? p = some v := h
theorem cell_drewN {W : World} {p : Addr} {v : Value} (h : W.cell? p = some v) (k : Nat) : (W.drewN k).cell? p = some v := h
theorem cell_set {W : World} {p q : Addr} {v u : Value} (h : W.cell? p = some v) (hne : p ≠ q) : (W.setCell q u).cell? p = some v :=
  (World.cell?_setCell_other W q p u (fun e => hne e.symm)).trans h

theorem cell_setb {W : World} {p q : Addr} {v u : Value} (h : W.cell? p = some v) (hne : p.block ≠ q.block) : (W.setCell q u).cell? p = some v :=
  cell_set h (fun e => hne (by rw [e]))
theorem old_alloc {W : World} {n : Nat} {o p : Obj} (h : W.heap[n]? = some p) : (W.alloc o).heap[n]? = some p := by
  rw [Below.heap_alloc W o n]; exact h
  rcases Nat.lt_or_ge n W.heap.size with h' | h'
  · exact h'
  · rw [Array.getElem?_eq_none h'] at h; cases h
theorem old_drew {W : World} {n : Nat} {p : Obj} (h : W.heap[n]? = some p) : W.drew.heap[n]? = some p := h
theorem old_drewN {W : World} {n : Nat} {p : Obj} (h : W.heap[n]? = some p) (k : Nat) : (W.drewN k).heap[n]? = some p := h
theorem old_ab {W w : World} {n : Nat} {p : Obj} (hb : Ab W w) (h : W.heap[n]? = some p) : w.heap[n]? = some p := by
  rw [hb.out.block n]; exact h
  rcases Nat.lt_or_ge n W.heap.size with h' | h'
  · exact h'
  · rw [Array.getElem?_eq_none h'] at h; cases h
theorem old_grown {W w : World} {n : Nat} {p : Obj} {row : Option Nat} (hg : W.grownBy w row) (hne : some n ≠ row) (h : W.heap[n]? = some p) : w.heap[n]? = some p := by
  rw [hg.block n _ hne]; exact h
  rcases Nat.lt_or_ge n W.heap.size with h' | h'
  · exact h'
  · rw [Array.getElem?_eq_none h'] at h; cases h
/-- Another row of the call's own stays. -/
theorem OR.other {A2 : Option Addr} {c2 : Nat} {l2 : List UInt8} (h2 : OR e lo w A2 c2 l2) (hg : w.grownBy w' (A.map (·.block)))
    (hne : ∀ x y, A = some x → A2 = some y → x.block ≠ y.block) : OR e lo w' A2 c2 l2 := by
  refine ⟨h2.out.1, ?_⟩
  rcases h2.out.2 with h0 | ⟨g, cap, cur, hv, hb, hh, r⟩
  · exact .inl h0
  · refine .inr ⟨g, cap, cur, hv, hb, old_grown hg ?_ hh, r⟩
    have hA2 : A2 = some ⟨g, 0, none⟩ := by injection hv
    cases A with
    | none => simp
    | some x => have := hne x _ rfl hA2; simpa using fun h => this h.symm

theorem run_append_bytes {P : Program} (t ty : TypeId) (i : TypeInfo) (z : Value) (ht : P.underlying t = some (.slice e)) (hi : P.info? e = some i) (hz : i.zero = some z)
    (hsize : i.size = 1) (hby : i.bytes = 1) (hzs : z.cells.size = 1) (h : OR e lo w A c l) (hlo : lo ≤ w.heap.size) (B : Option Addr) (d : Nat) (m : List UInt8) (lb : Nat) (hr : RB w lb B m) (hd : m.length ≤ d)
    (hlen : l.length + m.length ≤ 70368744177664) :
    ∃ A' c' w', (Builtin.append_ #[t, t] ty #[.slice A l.length c, .slice B m.length d]).run P w = .ok (.slice A' (l ++ m).length c') w' ∧ OR e lo w' A' c' (l ++ m) ∧ w.grownBy w' (A.map (·.block)) ∧
      (∀ W : World, Ab W w → W.heap.size ≤ lo → Ab W w') := by
  have hone : ∀ u ∈ m.map cb, u.oneCell' = true := by
    intro u hu
    obtain ⟨b, _, rfl⟩ := List.mem_map.1 hu
    rfl
  have shape : ∀ (v : Value) (w' : World), w'.ownsRow lo e 1 v (l.length + m.length) (l.map cb ++ m.map cb) → 
      ∃ A' c', v = .slice A' (l ++ m).length c' ∧ OR e lo w' A' c' (l ++ m) := by
    intro v w' h1
    rcases h1.2 with ⟨rfl, h0⟩ | ⟨g, cap, cur, rfl, r⟩
    · have hl0 : (l ++ m).length = 0 := by rw [List.length_append]; exact h0
      exact ⟨none, 0, by rw [hl0], by simp, .inl ⟨by rw [hl0], hl0⟩⟩
    · exact ⟨some ⟨g, 0, none⟩, cap, by rw [List.length_append], by simp, .inr ⟨g, cap, cur, by rw [List.length_append], by simpa using r⟩⟩
  rcases Nat.eq_zero_or_pos m.length with h0 | hpos
  · have hm : m = [] := List.eq_nil_of_length_eq_zero h0
    subst hm
    refine ⟨A, c, w, ?_, by simpa using h, World.grownBy.refl w _, fun _ hW _ => hW⟩
    rcases B with _ | bd
    · rcases h.out.2 with ⟨hv, h0⟩ | ⟨g, cap, cur, hv, _, _, hnc, _⟩
      · injection hv with h1 h2 h3; subst h1 h3
        have hl : l = [] := List.eq_nil_of_length_eq_zero h0
        subst hl
        simp [Builtin.append_, run_underlying ht, sizeOf, typeInfo, hi, Builtin.lenOf, Builtin.firstCells]
      · injection hv with h1 h2 h3; subst h1 h3
        simp [Builtin.append_, run_underlying ht, sizeOf, typeInfo, hi, Builtin.lenOf, Builtin.firstCells, hnc, storeCells]
    · rcases h.out.2 with ⟨hv, h0⟩ | ⟨g, cap, cur, hv, _, hh, hnc, _⟩
      · injection hv with h1 h2 h3; subst h1 h3
        have hl : l = [] := List.eq_nil_of_length_eq_zero h0
        subst hl
        simp [Builtin.append_, run_underlying ht, sizeOf, typeInfo, hi, Builtin.lenOf, Builtin.firstCells, loadCells, loadCellsFrom]
      · injection hv with h1 h2 h3; subst h1 h3
        simp [Builtin.append_, run_underlying ht, sizeOf, typeInfo, hi, Builtin.lenOf, Builtin.firstCells, hnc, storeCells, loadCells, loadCellsFrom]
  · obtain ⟨bd, rfl, _, hcell⟩ := hr hpos
    obtain ⟨v', w', hrun, h2, h3, _, _⟩ := run_append_own_at (P := P) w lo t ty e i z 1 1 ht hi hz hsize hby hzs (by omega) _ _ _ h.out bd m.length d (m.map cb) (by simp)
      (by
        intro j u hu
        have hj : j < m.length := by
          have := (List.getElem?_eq_some_iff.1 hu).1
          simpa using this
        have : u = cb m[j] := by
          rw [List.getElem?_map, List.getElem?_eq_getElem hj] at hu
          simpa using hu.symm
        rw [this]; exact hcell j hj) hone (by unfold maxLen; omega) (by omega) hlo
    obtain ⟨A', c', rfl, h4⟩ := shape v' w' h2
    have hrow : Value.ownBlock (.slice A l.length c) = A.map (·.block) := by cases A <;> rfl
    refine ⟨A', c', w', hrun, h4, by rw [← hrow]; exact h3, fun W hW hl => ?_⟩
    refine Below.grown hW.out h3 hW.size ?_
    intro k hk
    exact Nat.le_trans hl (h.out.lt k hk).1
end

section
variable {P : Program} {e : TypeId} {w : World}
/-- append([]byte{}, m...): nothing that was there is written. -/
theorem run_append_lit (t ty : TypeId) (i : TypeInfo) (z : Value) (ht : P.underlying t = some (.slice e)) (hi : P.info? e = some i) (hz : i.zero = some z)
    (hsize : i.size = 1) (hby : i.bytes = 1) (hzs : z.cells.size = 1) {g : Nat} (hg : w.heap[g]? = some (.cells #[] e (0, 0))) (B : Option Addr) (d : Nat) (m : List UInt8) (lo : Nat) (hr : RB w lo B m) (hd : m.length ≤ d)
    (hlen : m.length ≤ 70368744177664) :
    ∃ A' c' w', (Builtin.append_ #[t, t] ty #[.slice (some ⟨g, 0, none⟩) 0 0, .slice B m.length d]).run P w = .ok (.slice A' m.length c') w' ∧ Ab w w' ∧ ∀ lo : Nat, lo ≤ g → lo ≤ w.heap.size → OR e lo w' A' c' m := by
  rcases Nat.eq_zero_or_pos m.length with h0 | hpos
  · have hm : m = [] := List.eq_nil_of_length_eq_zero h0
    subst hm
    refine ⟨some ⟨g, 0, none⟩, 0, w, ?_, Ab.refl _, fun lo hl _ => OR.lit_at hl hg⟩
    rcases B with _ | bd
    · simp [Builtin.append_, run_underlying ht, sizeOf, typeInfo, hi, Builtin.lenOf, Builtin.firstCells, storeCells]
    · simp [Builtin.append_, run_underlying ht, sizeOf, typeInfo, hi, Builtin.lenOf, Builtin.firstCells, storeCells, loadCells, loadCellsFrom]
  · obtain ⟨bd, rfl, _, hcell⟩ := hr hpos
    have hn : ∀ j v, (m.map cb)[j]? = some v → w.cell? (bd.add j) = some v := by
      intro j u hu
      have hj : j < m.length := by simpa using (List.getElem?_eq_some_iff.1 hu).1
      have : u = cb m[j] := by
        rw [List.getElem?_map, List.getElem?_eq_getElem hj] at hu
        simpa using hu.symm
      rw [this]; exact hcell j hj
    have hrun := run_append_grow (P := P) w t ty e i z ht hi hz ⟨g, 0, none⟩ 0 0 [] (by simp) (by simp) bd m.length d (m.map cb) (by simp [hsize]) hn (by omega) (by omega)
      (growslice_fits (by omega) (by rw [hby]; omega))
    simp only [Nat.zero_add] at hrun
    have hge := grownCap_ge w m.length 0 e
    have hcm : grownCap w m.length 0 e ≤ maxLen := grownCap_le_maxLen w m.length 0 e (by unfold maxLen; omega)
    refine ⟨_, _, _, hrun, (Ab.refl w).drew.alloc _, fun lo _ hl => ⟨by simp, .inr ⟨w.heap.size, _, _, rfl, hl, heap_alloc_new w.drew _, hge, hcm, ?_, ?_⟩⟩⟩
    · simp only [Array.size_append, List.size_toArray, size_zeroCells, hzs, List.length_map, List.length_nil]
      omega
    · simp
theorem wp_append_lit {o : Oper} {a : Act} {K : Act → World → Prop} {Q : Exit → Act → World → Prop} (s x : Operand) (t : TypeId)
    (ho : o.op = .call { callee := .builtin .append, args := #[s, x], argTypes := #[t, t] })
    (i : TypeInfo) (z : Value) (ht : P.underlying t = some (.slice e)) (hi : P.info? e = some i) (hz : i.zero = some z)
    (hsize : i.size = 1) (hby : i.bytes = 1) (hzs : z.cells.size = 1) {g : Nat} (hs : a.eval s = .slice (some ⟨g, 0, none⟩) 0 0)
    {B : Option Addr} {n d : Nat} {m : List UInt8} (hx : a.eval x = .slice B n d) (hn : m.length = n) (hg : w.heap[g]? = some (.cells #[] e (0, 0))) {lo : Nat} (hr : RB w lo B m) (hd : m.length ≤ d)
    (hlen : m.length ≤ 70368744177664)
    (hk : ∀ A' c' w' L, Hid (L = m) → Ab w w' → (∀ lo : Nat, lo ≤ g → lo ≤ w.heap.size → OR e lo w' A' c' L) → K (a.put o.dst (.slice A' L.length c')) w') : o.wp P a w K Q := by
  subst hn
  obtain ⟨A', c', w', hrun, h4, h5⟩ := run_append_lit (P := P) t o.type i z ht hi hz hsize hby hzs hg B d m lo hr hd hlen
  unfold Oper.wp execOp
  simp only [ho, resolve, invoke, builtin, Sem.run_bind, Sem.run_pure, Result.andThen_ok, List.map_toArray, List.map_cons, List.map_nil, hs, hx, hrun]
  exact hk A' c' w' m rfl h4 h5
theorem wpList_append_lit {ops : Array Oper} {rest : List Oper} {o : Oper} {a : Act} {Q : Exit → Act → World → Prop} (hgd : o.guard = none) (s x : Operand) (t : TypeId)
    (ho : o.op = .call { callee := .builtin .append, args := #[s, x], argTypes := #[t, t] })
    (i : TypeInfo) (z : Value) (ht : P.underlying t = some (.slice e)) (hi : P.info? e = some i) (hz : i.zero = some z)
    (hsize : i.size = 1) (hby : i.bytes = 1) (hzs : z.cells.size = 1) {g : Nat} (hs : a.eval s = .slice (some ⟨g, 0, none⟩) 0 0)
    {B : Option Addr} {n d : Nat} {m : List UInt8} (hx : a.eval x = .slice B n d) (hn : m.length = n) (hg : w.heap[g]? = some (.cells #[] e (0, 0))) {lo : Nat} (hr : RB w lo B m) (hd : m.length ≤ d)
    (hlen : m.length ≤ 70368744177664)
    (hk : ∀ A' c' w' L, Hid (L = m) → Ab w w' → (∀ lo : Nat, lo ≤ g → lo ≤ w.heap.size → OR e lo w' A' c' L) → wpList P ops Q rest (a.put o.dst (.slice A' L.length c')) w') : wpList P ops Q (o :: rest) a w :=
  wpList_plain hgd fun _ hK => wp_append_lit s x t ho i z ht hi hz hsize hby hzs hs hx hn hg hr hd hlen fun A' c' w' L hL h4 h5 => hK _ _ (hk A' c' w' L hL h4 h5)
theorem step_append_lit {ops : Array Oper} {o : Oper} {a : Act} {K : Act → World → Prop} {Q : Exit → Act → World → Prop} {E : Prop} (hgd : o.guard = none) (s x : Operand) (t : TypeId)
    (ho : o.op = .call { callee := .builtin .append, args := #[s, x], argTypes := #[t, t] })
    (i : TypeInfo) (z : Value) (ht : P.underlying t = some (.slice e)) (hi : P.info? e = some i) (hz : i.zero = some z)
    (hsize : i.size = 1) (hby : i.bytes = 1) (hzs : z.cells.size = 1) {g : Nat} (hs : a.eval s = .slice (some ⟨g, 0, none⟩) 0 0)
    {B : Option Addr} {n d : Nat} {m : List UInt8} (hx : a.eval x = .slice B n d) (hn : m.length = n) (hg : w.heap[g]? = some (.cells #[] e (0, 0))) {lo : Nat} (hr : RB w lo B m) (hd : m.length ≤ d)
    (hlen : m.length ≤ 70368744177664)
    (hk : ∀ A' c' w' L, Hid (L = m) → Ab w w' → (∀ lo : Nat, lo ≤ g → lo ≤ w.heap.size → OR e lo w' A' c' L) → K (a.put o.dst (.slice A' L.length c')) w') :
    if Region.wanted o (yielded ops a.tmps) = true then Oper.wp P o a w K Q else E := by
  have hw : Region.wanted o (yielded ops a.tmps) = true := by simp [Region.wanted, hgd]
  rw [if_pos hw]
  exact wp_append_lit s x t ho i z ht hi hz hsize hby hzs hs hx hn hg hr hd hlen hk
end

section
variable {P : Program} {e : TypeId} {lo : Nat} {w : World} {A : Option Addr} {c : Nat} {l : List UInt8}
theorem wp_append_bytes {o : Oper} {a : Act} {K : Act → World → Prop} {Q : Exit → Act → World → Prop} (s x : Operand) (t : TypeId)
    (ho : o.op = .call { callee := .builtin .append, args := #[s, x], argTypes := #[t, t] })
    (i : TypeInfo) (z : Value) (ht : P.underlying t = some (.slice e)) (hi : P.info? e = some i) (hz : i.zero = some z)
    (hsize : i.size = 1) (hby : i.bytes = 1) (hzs : z.cells.size = 1) (hs : a.eval s = .slice A l.length c)
    {B : Option Addr} {n d : Nat} {m : List UInt8} (hx : a.eval x = .slice B n d) (hn : m.length = n) (h : OR e lo w A c l) (hlo : lo ≤ w.heap.size) {lb : Nat} (hr : RB w lb B m) (hd : m.length ≤ d)
    (hlen : l.length + m.length ≤ 70368744177664)
    (hk : ∀ A' c' w' L, Hid (L = l ++ m) → OR e lo w' A' c' L → w.grownBy w' (A.map (·.block)) → (∀ W : World, Ab W w → W.heap.size ≤ lo → Ab W w') → K (a.put o.dst (.slice A' L.length c')) w') : o.wp P a w K Q := by
  subst hn
  obtain ⟨A', c', w', hrun, h4, h5, h6⟩ := run_append_bytes (P := P) t o.type i z ht hi hz hsize hby hzs h hlo B d m lb hr hd hlen
  unfold Oper.wp execOp
  simp only [ho, resolve, invoke, builtin, Sem.run_bind, Sem.run_pure, Result.andThen_ok, List.map_toArray, List.map_cons, List.map_nil, hs, hx, hrun]
  exact hk A' c' w' _ rfl h4 h5 h6
theorem wpList_append_bytes {ops : Array Oper} {rest : List Oper} {o : Oper} {a : Act} {Q : Exit → Act → World → Prop} (hgd : o.guard = none) (s x : Operand) (t : TypeId)
    (ho : o.op = .call { callee := .builtin .append, args := #[s, x], argTypes := #[t, t] })
    (i : TypeInfo) (z : Value) (ht : P.underlying t = some (.slice e)) (hi : P.info? e = some i) (hz : i.zero = some z)
    (hsize : i.size = 1) (hby : i.bytes = 1) (hzs : z.cells.size = 1) (hs : a.eval s = .slice A l.length c)
    {B : Option Addr} {n d : Nat} {m : List UInt8} (hx : a.eval x = .slice B n d) (hn : m.length = n) (h : OR e lo w A c l) (hlo : lo ≤ w.heap.size) {lb : Nat} (hr : RB w lb B m) (hd : m.length ≤ d)
    (hlen : l.length + m.length ≤ 70368744177664)
    (hk : ∀ A' c' w' L, Hid (L = l ++ m) → OR e lo w' A' c' L → w.grownBy w' (A.map (·.block)) → (∀ W : World, Ab W w → W.heap.size ≤ lo → Ab W w') → wpList P ops Q rest (a.put o.dst (.slice A' L.length c')) w') : wpList P ops Q (o :: rest) a w :=
  wpList_plain hgd fun _ hK => wp_append_bytes s x t ho i z ht hi hz hsize hby hzs hs hx hn h hlo hr hd hlen fun A' c' w' L hL h4 h5 h6 => hK _ _ (hk A' c' w' L hL h4 h5 h6)
theorem step_append_bytes {ops : Array Oper} {o : Oper} {a : Act} {K : Act → World → Prop} {Q : Exit → Act → World → Prop} {E : Prop} (hgd : o.guard = none) (s x : Operand) (t : TypeId)
    (ho : o.op = .call { callee := .builtin .append, args := #[s, x], argTypes := #[t, t] })
    (i : TypeInfo) (z : Value) (ht : P.underlying t = some (.slice e)) (hi : P.info? e = some i) (hz : i.zero = some z)
    (hsize : i.size = 1) (hby : i.bytes = 1) (hzs : z.cells.size = 1) (hs : a.eval s = .slice A l.length c)
    {B : Option Addr} {n d : Nat} {m : List UInt8} (hx : a.eval x = .slice B n d) (hn : m.length = n) (h : OR e lo w A c l) (hlo : lo ≤ w.heap.size) {lb : Nat} (hr : RB w lb B m) (hd : m.length ≤ d)
    (hlen : l.length + m.length ≤ 70368744177664)
    (hk : ∀ A' c' w' L, Hid (L = l ++ m) → OR e lo w' A' c' L → w.grownBy w' (A.map (·.block)) → (∀ W : World, Ab W w → W.heap.size ≤ lo → Ab W w') → K (a.put o.dst (.slice A' L.length c')) w') :
    if Region.wanted o (yielded ops a.tmps) = true then Oper.wp P o a w K Q else E := by
  have hw : Region.wanted o (yielded ops a.tmps) = true := by simp [Region.wanted, hgd]
  rw [if_pos hw]
  exact wp_append_bytes s x t ho i z ht hi hz hsize hby hzs hs hx hn h hlo hr hd hlen hk
end

theorem ret_bool {a b : Bool} (h : a = b) : Ending.returned (.bool a) = .returned (.bool b) := by rw [h]
theorem ret_int {k : IntKind} {a b : Int} (h : a = b) : Ending.returned (.int k a) = .returned (.int k b) := by rw [h]
end Go.Proofs.Ytjgijpfknhfnjaa
