/- The texts Mem, Mem2, PostB, Make, Lit, Sha, ShBase, FrMem, Codec, CvMem, one behind the other. Own work. -/
import Derived.WalkKit
import Derived.WalkSpells
import Derived.Deep.QuietTactic
import Derived.BigQuiet
import Derived.Deep.AppendLies
import Derived.Deep.Draws
import Derived.Lib.Hide
import Derived.Maps.AppendAt
import Derived.RegionTactic
import Derived.OwnWalk
import Derived.Deep.RegionHeld3
import Derived.Lib.AppendZeros
import Derived.Test.YthfffbpcmlgoiaaGreatDoorProg
import Derived.Laws.MakeOwn
import Derived.Laws.OwnMore
import Derived.Lib.SlBytesConst
import Derived.Lib.SmallJoins
import Derived.Laws.IdiomStrings
import Derived.Deep.MidRow
import Derived.Laws.ResultCell
import Derived.Deep.RegionHeld
import Derived.ChangeKeysEq
import Derived.Laws.StructEq
import Derived.Laws.Entries
import Derived.IntWalk
import Init
set_option linter.unusedVariables false
set_option linter.unusedSimpArgs false
/- Memory words of this seat's proofs: a slice of bytes that reads as a list; worlds above a base. Own work. -/
namespace Go.Proofs.YthfffbpcmlgoiaaGreatDoor
open Go.RowKit

/-- Nothing that was there has changed. -/
def Ab (w w' : World) : Prop := Below w.heap.size w w'
theorem Ab.out {w w' : World} (h : Ab w w') : Below w.heap.size w w' := h
theorem Ab.refl (w : World) : Ab w w := Below.refl _ _
theorem Ab.size {w w' : World} (h : Ab w w') : w.heap.size ≤ w'.heap.size := h.out.size
theorem Ab.trans {a b c : World} (h : Ab a b) (k : Ab b c) : Ab a c := Below.trans h.out (k.out.mono h.size)
theorem Ab.drew {a b : World} (h : Ab a b) : Ab a b.drew := Below.drew h.out
theorem Ab.drewN {a b : World} (h : Ab a b) (n : Nat) : Ab a (b.drewN n) := ⟨h.out.os, h.out.tape, h.out.output, h.out.size, h.out.block⟩
theorem Ab.alloc {a b : World} (h : Ab a b) (o : Obj) : Ab a (b.alloc o) := Below.alloc h.out h.size o
theorem Ab.set {a b : World} (h : Ab a b) {p : Addr} (hp : a.heap.size ≤ p.block) (u : Value) : Ab a (b.setCell p u) := Below.setCell h.out hp u
theorem cell_lt {w : World} {p : Addr} {v : Value} (h : w.cell? p = some v) : p.block < w.heap.size := by
  rcases Nat.lt_or_ge p.block w.heap.size with h' | h'
  · exact h'
  · simp [World.cell?, Array.getElem?_eq_none h'] at h
theorem Ab.at {w w' : World} (h : Ab w w') {p : Addr} {v : Value} (hc : w.cell? p = some v) : w'.cell? p = some v :=
  (h.out.cell (cell_lt hc)).trans hc
theorem Ab.frozen {w w' : World} (h : Ab w w') {p : Addr} (hp : p.block < w.heap.size) : w'.frozen? p = w.frozen? p := h.out.frozen hp

theorem Ab.fr {w w' : World} (h : Ab w w') {p : Addr} (hp : p.block < w.heap.size) (hf : w.frozen? p = false) : w'.frozen? p = false := (h.frozen hp).trans hf

theorem fr_alloc {W : World} {p : Addr} {o : Obj} (hp : p.block < W.heap.size) (hf : W.frozen? p = false) : (W.alloc o).frozen? p = false := ((Ab.refl W).alloc o).fr hp hf

/-- The cell of a byte. -/
def cb (b : UInt8) : Value := .int .u8 (b.toNat : Int)

theorem addr_add_block (a : Addr) (n : Nat) : (a.add n).block = a.block := by unfold Addr.add; split <;> rfl
theorem addr_add_add (a : Addr) (i j : Nat) : (a.add i).add j = a.add (i + j) := by
  unfold Addr.add
  by_cases hi : i = 0 <;> by_cases hj : j = 0 <;> simp [hi, hj, Nat.add_assoc]

/-- The bytes l lie at A (nothing is asked where there are none), in blocks from lo on. -/
def RB (w : World) (lo : Nat) (A : Option Addr) (l : List UInt8) : Prop :=
  0 < l.length → ∃ ad, A = some ad ∧ lo ≤ ad.block ∧ ∀ i (h : i < l.length), w.cell? (ad.add i) = some (cb l[i])

section
variable {w w' : World} {lo lo' : Nat} {A : Option Addr} {l : List UInt8}
theorem RB.nil : RB w lo A [] := fun h => absurd h (by simp)
theorem RB.ab (h : RB w lo A l) (hk : Ab w w') : RB w' lo A l := by
  intro hl
  obtain ⟨ad, h1, h2, h3⟩ := h hl
  exact ⟨ad, h1, h2, fun i hi => hk.at (h3 i hi)⟩
theorem RB.mono (h : RB w lo A l) (hlo : lo' ≤ lo) : RB w lo' A l := fun hl => by
  obtain ⟨ad, h1, h2, h3⟩ := h hl; exact ⟨ad, h1, by omega, h3⟩
theorem RB.zero (h : RB w lo A l) : RB w 0 A l := h.mono (Nat.zero_le _)
theorem RB.cell (h : RB w lo A l) {i : Nat} (hi : i < l.length) {ad : Addr} (hA : A = some ad) : w.cell? (ad.add i) = some (.int .u8 (l[i].toNat : Int)) := by
  obtain ⟨ad', h1, _, h3⟩ := h (by omega)
  rw [hA] at h1; cases h1; exact h3 i hi
/-- s[k:] -/
theorem RB.drop (h : RB w lo A l) (k cap : Nat) (hc : l.length ≤ cap) : RB w lo (if cap = k then A else A.map (·.add k)) (l.drop k) := by
  intro hl
  rw [List.length_drop] at hl
  obtain ⟨ad, rfl, h2, h3⟩ := h (by omega)
  rw [if_neg (by omega)]
  refine ⟨ad.add k, rfl, by rw [addr_add_block]; exact h2, fun i hi => ?_⟩
  rw [addr_add_add]
  rw [List.length_drop] at hi
  rw [List.getElem_drop]
  exact h3 _ (by omega)
/-- The address of s[k:]. -/
def cutA (a : Option Addr) (cap k : Nat) : Option Addr := if cap = k then a else a.map (·.add k)
theorem RB.cut (h : RB w lo A l) (k cap : Nat) (hc : l.length ≤ cap) : RB w lo (cutA A cap k) (l.drop k) := h.drop k cap hc
/-- s[:k] -/
theorem RB.take (h : RB w lo A l) (k : Nat) : RB w lo A (l.take k) := by
  intro hl
  rw [List.length_take] at hl
  obtain ⟨ad, rfl, h2, h3⟩ := h (by omega)
  refine ⟨ad, rfl, h2, fun i hi => ?_⟩
  rw [List.length_take] at hi
  rw [List.getElem_take]
  exact h3 _ (by omega)
end


/-- The call's own row of bytes (element type e), in blocks from lo on. -/
def OR (e : TypeId) (lo : Nat) (w : World) (A : Option Addr) (c : Nat) (l : List UInt8) : Prop := w.ownsRow lo e 1 (.slice A l.length c) l.length (l.map cb)

section
variable {e : TypeId} {lo lo' : Nat} {W w w' : World} {A : Option Addr} {c : Nat} {l : List UInt8}
theorem OR.out (h : OR e lo w A c l) : w.ownsRow lo e 1 (.slice A l.length c) l.length (l.map cb) := h
theorem OR.rb (h : OR e lo w A c l) : RB w lo A l := by
  intro hl
  rcases h.out.2 with ⟨_, h0⟩ | ⟨g, cap, cur, hv, hb, _⟩
  · omega
  · have hA : A = some ⟨g, 0, none⟩ := by injection hv
    refine ⟨_, hA, hb, fun i hi => ?_⟩
    exact h.out.cells (g := g) (by rw [hA]; rfl) i _ (by simp [hi])
theorem OR.le (h : OR e lo w A c l) : l.length ≤ c := by
  rcases h.out.2 with ⟨hv, h0⟩ | ⟨g, cap, cur, hv, _, _, hn, _⟩
  · injection hv; omega
  · injection hv; omega
theorem OR.capLe (h : OR e lo w A c l) : c ≤ 9223372036854775807 := by
  rcases h.out.2 with ⟨hv, h0⟩ | ⟨g, cap, cur, hv, _, _, hn, hm, _⟩
  · injection hv; omega
  · injection hv; unfold maxLen at hm; omega
theorem OR.block (h : OR e lo w A c l) (hk : ∀ g, lo ≤ g → g < w.heap.size → w'.heap[g]? = w.heap[g]?) : OR e lo w' A c l := by
  refine ⟨h.out.1, ?_⟩
  rcases h.out.2 with h0 | ⟨g, cap, cur, hv, hb, hh, r⟩
  · exact .inl h0
  · refine .inr ⟨g, cap, cur, hv, hb, ?_, r⟩
    have hlt : g < w.heap.size := by
      rcases Nat.lt_or_ge g w.heap.size with h | h
      · exact h
      · rw [Array.getElem?_eq_none h] at hh; cases hh
    rw [hk g hb hlt]; exact hh
theorem OR.keep (h : OR e lo w A c l) (hk : Ab w w') : OR e lo w' A c l := h.block fun g _ hg => hk.out.block g hg
theorem OR.drew (h : OR e lo w A c l) : OR e lo w.drew A c l := h
theorem OR.drewN (h : OR e lo w A c l) (n : Nat) : OR e lo (w.drewN n) A c l := h
theorem OR.alloc (h : OR e lo w A c l) (o : Obj) : OR e lo (w.alloc o) A c l := h.keep ((Ab.refl w).alloc o)
theorem OR.set (h : OR e lo w A c l) {p : Addr} (hp : p.block < lo) (u : Value) : OR e lo (w.setCell p u) A c l :=
  h.block fun g hg _ => Below.heap_setCell w p u g (by omega)
theorem OR.setNew (h : OR e lo w A c l) {p : Addr} (o : Obj) (hp : w.heap.size ≤ p.block) (u : Value) : OR e lo ((w.alloc o).setCell p u) A c l :=
  h.block fun g _ hg => by rw [Below.heap_setCell _ p u g (by omega), Below.heap_alloc w o g hg]
theorem OR.mono (h : OR e lo w A c l) (hl : lo' ≤ lo) : OR e lo' w A c l := by
  refine ⟨h.out.1, ?_⟩
  rcases h.out.2 with h1 | ⟨g, cap, cur, hv, hb, r⟩
  · exact .inl h1
  · exact .inr ⟨g, cap, cur, hv, Nat.le_trans hl hb, r⟩
theorem OR.lit_at {g : Nat} (hb : lo ≤ g) (hg : w.heap[g]? = some (.cells #[] e (0, 0))) : OR e lo w (some ⟨g, 0, none⟩) 0 [] :=
  ⟨rfl, .inr ⟨g, 0, #[], rfl, hb, hg, Nat.le_refl _, by unfold maxLen; omega, rfl, rfl⟩⟩
theorem OR.none_ : OR e lo w none 0 [] := World.ownsRow_nil _ _ _ _
theorem new_drew {W : World} {o : Obj} {n : Nat} (h : W.heap.size = n) : (W.alloc o).drew.heap[n]? = some o := by subst h; exact heap_alloc_new W o
theorem new_plain {W : World} {o : Obj} {n : Nat} (h : W.heap.size = n) : (W.alloc o).heap[n]? = some o := by subst h; exact heap_alloc_new W o
theorem new_drewN {W : World} {o : Obj} {n k : Nat} (h : W.heap.size = n) : ((W.alloc o).drewN k).heap[n]? = some o := by subst h; exact heap_alloc_new W o

theorem cell_alloc {W : World} {p : Addr} {v : Value} {o : Obj} (h : W.cell? p = some v) : (W.alloc o).cell? p = some v :=
  (World.cell?_alloc_lt W o p (cell_lt h)).trans h
theorem cell_drew {W : World} {p : Addr} {v : Value} (h : W.cell? p = some v) : W.drew.cell? p = some v := h
theorem cell_drewN {W : World} {p : Addr} {v : Value} (h : W.cell? p = some v) (k : Nat) : (W.drewN k).cell? p = some v := h
theorem cell_set {W : World} {p q : Addr} {v u : Value} (h : W.cell? p = some v) (hne : p ≠ q) : (W.setCell q u).cell? p = some v :=
  (World.cell?_setCell_other W q p u (fun e => hne e.symm)).trans h

theorem cell_setb {W : World} {p q : Addr} {v u : Value} (h : W.cell? p = some v) (hne : p.block ≠ q.block) : (W.setCell q u).cell? p = some v :=
  cell_set h (fun e => hne (by rw [e]))
theorem old_alloc {W : World} {n : Nat} {o p : Obj} (h : W.heap[n]? = some p) : (W.alloc o).heap[n]? = some p := by
  rw [Below.heap_alloc W o n]; exact h
  rcases Nat.lt_or_ge n W.heap.size with h' | h'
  · exact h'
  · rw [Array.getElem?_eq_none h'] at h; cases h
theorem old_drew {W : World} {n : Nat} {p : Obj} (h : W.heap[n]? = some p) : W.drew.heap[n]? = some p := h
theorem old_drewN {W : World} {n : Nat} {p : Obj} (h : W.heap[n]? = some p) (k : Nat) : (W.drewN k).heap[n]? = some p := h
theorem old_ab {W w : World} {n : Nat} {p : Obj} (hb : Ab W w) (h : W.heap[n]? = some p) : w.heap[n]? = some p := by
  rw [hb.out.block n]; exact h
  rcases Nat.lt_or_ge n W.heap.size with h' | h'
  · exact h'
  · rw [Array.getElem?_eq_none h'] at h; cases h
theorem old_grown {W w : World} {n : Nat} {p : Obj} {row : Option Nat} (hg : W.grownBy w row) (hne : some n ≠ row) (h : W.heap[n]? = some p) : w.heap[n]? = some p := by
  rw [hg.block n _ hne]; exact h
  rcases Nat.lt_or_ge n W.heap.size with h' | h'
  · exact h'
  · rw [Array.getElem?_eq_none h'] at h; cases h
/-- Another row of the call's own stays. -/
theorem OR.other {A2 : Option Addr} {c2 : Nat} {l2 : List UInt8} (h2 : OR e lo w A2 c2 l2) (hg : w.grownBy w' (A.map (·.block)))
    (hne : ∀ x y, A = some x → A2 = some y → x.block ≠ y.block) : OR e lo w' A2 c2 l2 := by
  refine ⟨h2.out.1, ?_⟩
  rcases h2.out.2 with h0 | ⟨g, cap, cur, hv, hb, hh, r⟩
  · exact .inl h0
  · refine .inr ⟨g, cap, cur, hv, hb, old_grown hg ?_ hh, r⟩
    have hA2 : A2 = some ⟨g, 0, none⟩ := by injection hv
    cases A with
    | none => simp
    | some x => have := hne x _ rfl hA2; simpa using fun h => this h.symm

theorem run_append_bytes {P : Program} (t ty : TypeId) (i : TypeInfo) (z : Value) (ht : P.underlying t = some (.slice e)) (hi : P.info? e = some i) (hz : i.zero = some z)
    (hsize : i.size = 1) (hby : i.bytes = 1) (hzs : z.cells.size = 1) (h : OR e lo w A c l) (hlo : lo ≤ w.heap.size) (B : Option Addr) (d : Nat) (m : List UInt8) (lb : Nat) (hr : RB w lb B m) (hd : m.length ≤ d)
    (hlen : l.length + m.length ≤ 70368744177664) :
    ∃ A' c' w', (Builtin.append_ #[t, t] ty #[.slice A l.length c, .slice B m.length d]).run P w = .ok (.slice A' (l ++ m).length c') w' ∧ OR e lo w' A' c' (l ++ m) ∧ w.grownBy w' (A.map (·.block)) ∧
      (∀ W : World, Ab W w → W.heap.size ≤ lo → Ab W w') := by
  have hone : ∀ u ∈ m.map cb, u.oneCell' = true := by
    intro u hu
    obtain ⟨b, _, rfl⟩ := List.mem_map.1 hu
    rfl
  have shape : ∀ (v : Value) (w' : World), w'.ownsRow lo e 1 v (l.length + m.length) (l.map cb ++ m.map cb) → 
      ∃ A' c', v = .slice A' (l ++ m).length c' ∧ OR e lo w' A' c' (l ++ m) := by
    intro v w' h1
    rcases h1.2 with ⟨rfl, h0⟩ | ⟨g, cap, cur, rfl, r⟩
    · have hl0 : (l ++ m).length = 0 := by rw [List.length_append]; exact h0
      exact ⟨none, 0, by rw [hl0], by simp, .inl ⟨by rw [hl0], hl0⟩⟩
    · exact ⟨some ⟨g, 0, none⟩, cap, by rw [List.length_append], by simp, .inr ⟨g, cap, cur, by rw [List.length_append], by simpa using r⟩⟩
  rcases Nat.eq_zero_or_pos m.length with h0 | hpos
  · have hm : m = [] := List.eq_nil_of_length_eq_zero h0
    subst hm
    refine ⟨A, c, w, ?_, by simpa using h, World.grownBy.refl w _, fun _ hW _ => hW⟩
    rcases B with _ | bd
    · rcases h.out.2 with ⟨hv, h0⟩ | ⟨g, cap, cur, hv, _, _, hnc, _⟩
      · injection hv with h1 h2 h3; subst h1 h3
        have hl : l = [] := List.eq_nil_of_length_eq_zero h0
        subst hl
        simp [Builtin.append_, run_underlying ht, sizeOf, typeInfo, hi, Builtin.lenOf, Builtin.firstCells]
      · injection hv with h1 h2 h3; subst h1 h3
        simp [Builtin.append_, run_underlying ht, sizeOf, typeInfo, hi, Builtin.lenOf, Builtin.firstCells, hnc, storeCells]
    · rcases h.out.2 with ⟨hv, h0⟩ | ⟨g, cap, cur, hv, _, hh, hnc, _⟩
      · injection hv with h1 h2 h3; subst h1 h3
        have hl : l = [] := List.eq_nil_of_length_eq_zero h0
        subst hl
        simp [Builtin.append_, run_underlying ht, sizeOf, typeInfo, hi, Builtin.lenOf, Builtin.firstCells, loadCells, loadCellsFrom]
      · injection hv with h1 h2 h3; subst h1 h3
        simp [Builtin.append_, run_underlying ht, sizeOf, typeInfo, hi, Builtin.lenOf, Builtin.firstCells, hnc, storeCells, loadCells, loadCellsFrom]
  · obtain ⟨bd, rfl, _, hcell⟩ := hr hpos
    obtain ⟨v', w', hrun, h2, h3, _, _⟩ := run_append_own_at (P := P) w lo t ty e i z 1 1 ht hi hz hsize hby hzs (by omega) _ _ _ h.out bd m.length d (m.map cb) (by simp)
      (by
        intro j u hu
        have hj : j < m.length := by
          have := (List.getElem?_eq_some_iff.1 hu).1
          simpa using this
        have : u = cb m[j] := by
          rw [List.getElem?_map, List.getElem?_eq_getElem hj] at hu
          simpa using hu.symm
        rw [this]; exact hcell j hj) hone (by unfold maxLen; omega) (by omega) hlo
    obtain ⟨A', c', rfl, h4⟩ := shape v' w' h2
    have hrow : Value.ownBlock (.slice A l.length c) = A.map (·.block) := by cases A <;> rfl
    refine ⟨A', c', w', hrun, h4, by rw [← hrow]; exact h3, fun W hW hl => ?_⟩
    refine Below.grown hW.out h3 hW.size ?_
    intro k hk
    exact Nat.le_trans hl (h.out.lt k hk).1
end

section
variable {P : Program} {e : TypeId} {w : World}
/-- append([]byte{}, m...): nothing that was there is written. -/
theorem run_append_lit (t ty : TypeId) (i : TypeInfo) (z : Value) (ht : P.underlying t = some (.slice e)) (hi : P.info? e = some i) (hz : i.zero = some z)
    (hsize : i.size = 1) (hby : i.bytes = 1) (hzs : z.cells.size = 1) {g : Nat} (hg : w.heap[g]? = some (.cells #[] e (0, 0))) (B : Option Addr) (d : Nat) (m : List UInt8) (lo : Nat) (hr : RB w lo B m) (hd : m.length ≤ d)
    (hlen : m.length ≤ 70368744177664) :
    ∃ A' c' w', (Builtin.append_ #[t, t] ty #[.slice (some ⟨g, 0, none⟩) 0 0, .slice B m.length d]).run P w = .ok (.slice A' m.length c') w' ∧ Ab w w' ∧ ∀ lo : Nat, lo ≤ g → lo ≤ w.heap.size → OR e lo w' A' c' m := by
  rcases Nat.eq_zero_or_pos m.length with h0 | hpos
  · have hm : m = [] := List.eq_nil_of_length_eq_zero h0
    subst hm
    refine ⟨some ⟨g, 0, none⟩, 0, w, ?_, Ab.refl _, fun lo hl _ => OR.lit_at hl hg⟩
    rcases B with _ | bd
    · simp [Builtin.append_, run_underlying ht, sizeOf, typeInfo, hi, Builtin.lenOf, Builtin.firstCells, storeCells]
    · simp [Builtin.append_, run_underlying ht, sizeOf, typeInfo, hi, Builtin.lenOf, Builtin.firstCells, storeCells, loadCells, loadCellsFrom]
  · obtain ⟨bd, rfl, _, hcell⟩ := hr hpos
    have hn : ∀ j v, (m.map cb)[j]? = some v → w.cell? (bd.add j) = some v := by
      intro j u hu
      have hj : j < m.length := by simpa using (List.getElem?_eq_some_iff.1 hu).1
      have : u = cb m[j] := by
        rw [List.getElem?_map, List.getElem?_eq_getElem hj] at hu
        simpa using hu.symm
      rw [this]; exact hcell j hj
    have hrun := run_append_grow (P := P) w t ty e i z ht hi hz ⟨g, 0, none⟩ 0 0 [] (by simp) (by simp) bd m.length d (m.map cb) (by simp [hsize]) hn (by omega) (by omega)
      (growslice_fits (by omega) (by rw [hby]; omega))
    simp only [Nat.zero_add] at hrun
    have hge := grownCap_ge w m.length 0 e
    have hcm : grownCap w m.length 0 e ≤ maxLen := grownCap_le_maxLen w m.length 0 e (by unfold maxLen; omega)
    refine ⟨_, _, _, hrun, (Ab.refl w).drew.alloc _, fun lo _ hl => ⟨by simp, .inr ⟨w.heap.size, _, _, rfl, hl, heap_alloc_new w.drew _, hge, hcm, ?_, ?_⟩⟩⟩
    · simp only [Array.size_append, List.size_toArray, size_zeroCells, hzs, List.length_map, List.length_nil]
      omega
    · simp
theorem wp_append_lit {o : Oper} {a : Act} {K : Act → World → Prop} {Q : Exit → Act → World → Prop} (s x : Operand) (t : TypeId)
    (ho : o.op = .call { callee := .builtin .append, args := #[s, x], argTypes := #[t, t] })
    (i : TypeInfo) (z : Value) (ht : P.underlying t = some (.slice e)) (hi : P.info? e = some i) (hz : i.zero = some z)
    (hsize : i.size = 1) (hby : i.bytes = 1) (hzs : z.cells.size = 1) {g : Nat} (hs : a.eval s = .slice (some ⟨g, 0, none⟩) 0 0)
    {B : Option Addr} {n d : Nat} {m : List UInt8} (hx : a.eval x = .slice B n d) (hn : m.length = n) (hg : w.heap[g]? = some (.cells #[] e (0, 0))) {lo : Nat} (hr : RB w lo B m) (hd : m.length ≤ d)
    (hlen : m.length ≤ 70368744177664)
    (hk : ∀ A' c' w' L, Hid (L = m) → Ab w w' → (∀ lo : Nat, lo ≤ g → lo ≤ w.heap.size → OR e lo w' A' c' L) → K (a.put o.dst (.slice A' L.length c')) w') : o.wp P a w K Q := by
  subst hn
  obtain ⟨A', c', w', hrun, h4, h5⟩ := run_append_lit (P := P) t o.type i z ht hi hz hsize hby hzs hg B d m lo hr hd hlen
  unfold Oper.wp execOp
  simp only [ho, resolve, invoke, builtin, Sem.run_bind, Sem.run_pure, Result.andThen_ok, List.map_toArray, List.map_cons, List.map_nil, hs, hx, hrun]
  exact hk A' c' w' m rfl h4 h5
theorem wpList_append_lit {ops : Array Oper} {rest : List Oper} {o : Oper} {a : Act} {Q : Exit → Act → World → Prop} (hgd : o.guard = none) (s x : Operand) (t : TypeId)
    (ho : o.op = .call { callee := .builtin .append, args := #[s, x], argTypes := #[t, t] })
    (i : TypeInfo) (z : Value) (ht : P.underlying t = some (.slice e)) (hi : P.info? e = some i) (hz : i.zero = some z)
    (hsize : i.size = 1) (hby : i.bytes = 1) (hzs : z.cells.size = 1) {g : Nat} (hs : a.eval s = .slice (some ⟨g, 0, none⟩) 0 0)
    {B : Option Addr} {n d : Nat} {m : List UInt8} (hx : a.eval x = .slice B n d) (hn : m.length = n) (hg : w.heap[g]? = some (.cells #[] e (0, 0))) {lo : Nat} (hr : RB w lo B m) (hd : m.length ≤ d)
    (hlen : m.length ≤ 70368744177664)
    (hk : ∀ A' c' w' L, Hid (L = m) → Ab w w' → (∀ lo : Nat, lo ≤ g → lo ≤ w.heap.size → OR e lo w' A' c' L) → wpList P ops Q rest (a.put o.dst (.slice A' L.length c')) w') : wpList P ops Q (o :: rest) a w :=
  wpList_plain hgd fun _ hK => wp_append_lit s x t ho i z ht hi hz hsize hby hzs hs hx hn hg hr hd hlen fun A' c' w' L hL h4 h5 => hK _ _ (hk A' c' w' L hL h4 h5)
theorem step_append_lit {ops : Array Oper} {o : Oper} {a : Act} {K : Act → World → Prop} {Q : Exit → Act → World → Prop} {E : Prop} (hgd : o.guard = none) (s x : Operand) (t : TypeId)
    (ho : o.op = .call { callee := .builtin .append, args := #[s, x], argTypes := #[t, t] })
    (i : TypeInfo) (z : Value) (ht : P.underlying t = some (.slice e)) (hi : P.info? e = some i) (hz : i.zero = some z)
    (hsize : i.size = 1) (hby : i.bytes = 1) (hzs : z.cells.size = 1) {g : Nat} (hs : a.eval s = .slice (some ⟨g, 0, none⟩) 0 0)
    {B : Option Addr} {n d : Nat} {m : List UInt8} (hx : a.eval x = .slice B n d) (hn : m.length = n) (hg : w.heap[g]? = some (.cells #[] e (0, 0))) {lo : Nat} (hr : RB w lo B m) (hd : m.length ≤ d)
    (hlen : m.length ≤ 70368744177664)
    (hk : ∀ A' c' w' L, Hid (L = m) → Ab w w' → (∀ lo : Nat, lo ≤ g → lo ≤ w.heap.size → OR e lo w' A' c' L) → K (a.put o.dst (.slice A' L.length c')) w') :
    if Region.wanted o (yielded ops a.tmps) = true then Oper.wp P o a w K Q else E := by
  have hw : Region.wanted o (yielded ops a.tmps) = true := by simp [Region.wanted, hgd]
  rw [if_pos hw]
  exact wp_append_lit s x t ho i z ht hi hz hsize hby hzs hs hx hn hg hr hd hlen hk
end

section
variable {P : Program} {e : TypeId} {lo : Nat} {w : World} {A : Option Addr} {c : Nat} {l : List UInt8}
theorem wp_append_bytes {o : Oper} {a : Act} {K : Act → World → Prop} {Q : Exit → Act → World → Prop} (s x : Operand) (t : TypeId)
    (ho : o.op = .call { callee := .builtin .append, args := #[s, x], argTypes := #[t, t] })
    (i : TypeInfo) (z : Value) (ht : P.underlying t = some (.slice e)) (hi : P.info? e = some i) (hz : i.zero = some z)
    (hsize : i.size = 1) (hby : i.bytes = 1) (hzs : z.cells.size = 1) (hs : a.eval s = .slice A l.length c)
    {B : Option Addr} {n d : Nat} {m : List UInt8} (hx : a.eval x = .slice B n d) (hn : m.length = n) (h : OR e lo w A c l) (hlo : lo ≤ w.heap.size) {lb : Nat} (hr : RB w lb B m) (hd : m.length ≤ d)
    (hlen : l.length + m.length ≤ 70368744177664)
    (hk : ∀ A' c' w' L, Hid (L = l ++ m) → OR e lo w' A' c' L → w.grownBy w' (A.map (·.block)) → (∀ W : World, Ab W w → W.heap.size ≤ lo → Ab W w') → K (a.put o.dst (.slice A' L.length c')) w') : o.wp P a w K Q := by
  subst hn
  obtain ⟨A', c', w', hrun, h4, h5, h6⟩ := run_append_bytes (P := P) t o.type i z ht hi hz hsize hby hzs h hlo B d m lb hr hd hlen
  unfold Oper.wp execOp
  simp only [ho, resolve, invoke, builtin, Sem.run_bind, Sem.run_pure, Result.andThen_ok, List.map_toArray, List.map_cons, List.map_nil, hs, hx, hrun]
  exact hk A' c' w' _ rfl h4 h5 h6
theorem wpList_append_bytes {ops : Array Oper} {rest : List Oper} {o : Oper} {a : Act} {Q : Exit → Act → World → Prop} (hgd : o.guard = none) (s x : Operand) (t : TypeId)
    (ho : o.op = .call { callee := .builtin .append, args := #[s, x], argTypes := #[t, t] })
    (i : TypeInfo) (z : Value) (ht : P.underlying t = some (.slice e)) (hi : P.info? e = some i) (hz : i.zero = some z)
    (hsize : i.size = 1) (hby : i.bytes = 1) (hzs : z.cells.size = 1) (hs : a.eval s = .slice A l.length c)
    {B : Option Addr} {n d : Nat} {m : List UInt8} (hx : a.eval x = .slice B n d) (hn : m.length = n) (h : OR e lo w A c l) (hlo : lo ≤ w.heap.size) {lb : Nat} (hr : RB w lb B m) (hd : m.length ≤ d)
    (hlen : l.length + m.length ≤ 70368744177664)
    (hk : ∀ A' c' w' L, Hid (L = l ++ m) → OR e lo w' A' c' L → w.grownBy w' (A.map (·.block)) → (∀ W : World, Ab W w → W.heap.size ≤ lo → Ab W w') → wpList P ops Q rest (a.put o.dst (.slice A' L.length c')) w') : wpList P ops Q (o :: rest) a w :=
  wpList_plain hgd fun _ hK => wp_append_bytes s x t ho i z ht hi hz hsize hby hzs hs hx hn h hlo hr hd hlen fun A' c' w' L hL h4 h5 h6 => hK _ _ (hk A' c' w' L hL h4 h5 h6)
theorem step_append_bytes {ops : Array Oper} {o : Oper} {a : Act} {K : Act → World → Prop} {Q : Exit → Act → World → Prop} {E : Prop} (hgd : o.guard = none) (s x : Operand) (t : TypeId)
    (ho : o.op = .call { callee := .builtin .append, args := #[s, x], argTypes := #[t, t] })
    (i : TypeInfo) (z : Value) (ht : P.underlying t = some (.slice e)) (hi : P.info? e = some i) (hz : i.zero = some z)
    (hsize : i.size = 1) (hby : i.bytes = 1) (hzs : z.cells.size = 1) (hs : a.eval s = .slice A l.length c)
    {B : Option Addr} {n d : Nat} {m : List UInt8} (hx : a.eval x = .slice B n d) (hn : m.length = n) (h : OR e lo w A c l) (hlo : lo ≤ w.heap.size) {lb : Nat} (hr : RB w lb B m) (hd : m.length ≤ d)
    (hlen : l.length + m.length ≤ 70368744177664)
    (hk : ∀ A' c' w' L, Hid (L = l ++ m) → OR e lo w' A' c' L → w.grownBy w' (A.map (·.block)) → (∀ W : World, Ab W w → W.heap.size ≤ lo → Ab W w') → K (a.put o.dst (.slice A' L.length c')) w') :
    if Region.wanted o (yielded ops a.tmps) = true then Oper.wp P o a w K Q else E := by
  have hw : Region.wanted o (yielded ops a.tmps) = true := by simp [Region.wanted, hgd]
  rw [if_pos hw]
  exact wp_append_bytes s x t ho i z ht hi hz hsize hby hzs hs hx hn h hlo hr hd hlen hk
end

theorem ret_bool {a b : Bool} (h : a = b) : Ending.returned (.bool a) = .returned (.bool b) := by rw [h]
theorem ret_int {k : IntKind} {a b : Int} (h : a = b) : Ending.returned (.int k a) = .returned (.int k b) := by rw [h]
end Go.Proofs.YthfffbpcmlgoiaaGreatDoor

/- More words for memory: a row of the call's own that is written in place. Own work. -/
namespace Go.Proofs.YthfffbpcmlgoiaaGreatDoor
open Go.RowKit
section
variable {e : TypeId} {lo lo' : Nat} {W w w' : World} {A : Option Addr} {c : Nat} {l : List UInt8}
theorem OR.at_ (h : OR e lo w A c l) (hl : 0 < l.length) : ∃ g, A = some ⟨g, 0, none⟩ ∧ lo ≤ g ∧ g < w.heap.size := by
  rcases h.out.2 with ⟨_, h0⟩ | ⟨g, cap, cur, hv, hb, hh, _⟩
  · omega
  · refine ⟨g, by injection hv, hb, ?_⟩
    rcases Nat.lt_or_ge g w.heap.size with h | h
    · exact h
    · rw [Array.getElem?_eq_none h] at hh; cases hh
theorem OR.unfrozen {g : Nat} (h : OR e lo w (some ⟨g, 0, none⟩) c l) (i : Nat) : w.frozen? ⟨g, i, none⟩ = false := h.out.frozenAt i
theorem OR.store {g : Nat} (h : OR e lo w (some ⟨g, 0, none⟩) c l) (i : Nat) (b : UInt8) : OR e lo (w.setCell ⟨g, i, none⟩ (cb b)) (some ⟨g, 0, none⟩) c (l.set i b) := by
  have h1 := h.out.stored i (cb b)
  unfold OR
  rw [List.length_set, List.map_set]
  exact h1.1
theorem grown_set {w0 w : World} {g i : Nat} (h : w0.grownBy w (some g)) (u : Value) : w0.grownBy (w.setCell ⟨g, i, none⟩ u) (some g) :=
  ⟨h.os, h.tape, h.output, by simpa [World.setCell] using h.size, fun k hk hne => (Below.heap_setCell w _ u k (fun e => hne (by rw [e]))).trans (h.block k hk hne)⟩
theorem grown_at {w0 w : World} {row : Option Nat} (h : w0.grownBy w row) {p : Addr} {v : Value} (hne : some p.block ≠ row) (hc : w0.cell? p = some v) : w.cell? p = some v :=
  (World.cell?_of_block (h.block p.block (cell_lt hc) hne)).trans hc
theorem grown_rb {w0 w : World} {lb : Nat} {row : Option Nat} (h : w0.grownBy w row) {m : List UInt8} {B : Option Addr} (hb : RB w0 lb B m) (hne : ∀ p, B = some p → some p.block ≠ row) : RB w lb B m := by
  intro hl
  obtain ⟨ad, h1, h2, h3⟩ := hb hl
  exact ⟨ad, h1, h2, fun i hi => grown_at h (by rw [addr_add_block]; exact hne ad h1) (h3 i hi)⟩
theorem grown_hi {w0 w : World} {lb : Nat} {D : Option Addr} (h : w0.grownBy w (D.map (·.block))) {m : List UInt8} {B : Option Addr} (hb : RB w0 lb B m) (hD : ∀ a, D = some a → a.block < lb) : RB w lb B m := by
  intro hl
  obtain ⟨ad, h1, h2, h3⟩ := hb hl
  refine ⟨ad, h1, h2, fun i hi => grown_at h ?_ (h3 i hi)⟩
  rw [addr_add_block]
  intro he
  cases D with
  | none => cases he
  | some x => have h4 := hD x rfl; simp at he; omega
theorem grown_lo {W w0 w : World} {D : Option Addr} (h : w0.grownBy w (D.map (·.block))) (hW : Ab W w0) {m : List UInt8} {B : Option Addr} (hb : RB W 0 B m) (hD : ∀ a, D = some a → W.heap.size ≤ a.block) : RB w 0 B m := by
  intro hl
  obtain ⟨ad, h1, h2, h3⟩ := hb hl
  refine ⟨ad, h1, h2, fun i hi => grown_at h ?_ (hW.at (h3 i hi))⟩
  have hlt := cell_lt (h3 i hi)
  intro he
  rw [addr_add_block] at hlt he
  cases D with
  | none => cases he
  | some x => have h4 := hD x rfl; simp at he; omega
theorem grown_cell {w0 w : World} {D : Option Addr} (h : w0.grownBy w (D.map (·.block))) {b o : Nat} {v : Value} (hc : w0.cell? ⟨b, o, none⟩ = some v) (hD : ∀ a, D = some a → a.block ≠ b) : w.cell? ⟨b, o, none⟩ = some v := by
  refine grown_at h ?_ hc
  intro he
  cases D with
  | none => cases he
  | some x => exact hD x rfl (by simpa using he.symm)
theorem grown_ab {W w0 w : World} {row : Option Nat} (hW : Ab W w0) (h : w0.grownBy w row) (hr : ∀ g, row = some g → W.heap.size ≤ g) : Ab W w :=
  Below.grown hW.out h hW.size hr
theorem u8_succ (x : UInt8) : Value.int .u8 (IntKind.u8.wrap ((x.toNat : Int) + 1)) = cb (x + 1) := by
  have h : ((x + 1).toNat : Int) = ((x.toNat : Int) + 1) % 256 := by
    have h1 : (1 : UInt8).toNat = 1 := rfl
    rw [UInt8.toNat_add, h1]; omega
  unfold cb
  rw [h, IntKind.wrap_u8]

theorem OR.rng (h : OR e lo w A c l) : ∀ a, A = some a → lo ≤ a.block ∧ a.block < w.heap.size := by
  intro a ha
  rcases h.out.2 with ⟨h1, h0⟩ | ⟨g, cap, cur, hv, hb, hh, _⟩
  · injection h1 with h1; rw [ha] at h1; cases h1
  · injection hv with hv; rw [ha] at hv; injection hv with hv; subst hv
    refine ⟨hb, ?_⟩
    rcases Nat.lt_or_ge g w.heap.size with h | h
    · exact h
    · rw [Array.getElem?_eq_none h] at hh; cases hh
theorem OR.cellAt {g : Nat} (h : OR e lo w (some ⟨g, 0, none⟩) c l) {i : Nat} (hi : i < l.length) : w.cell? ⟨g, i, none⟩ = some (.int .u8 (l[i].toNat : Int)) := by
  have h1 := h.out.cellAt i (by omega)
  rw [h1, List.getElem?_map, List.getElem?_eq_getElem hi]; rfl
theorem u8_succ' (x : UInt8) : Value.int .u8 (((x.toNat : Int) + 1) % 256) = cb (x + 1) := by rw [← u8_succ, IntKind.wrap_u8]
/-- What holds in a loop that writes into a row of the call's own, in place. -/
def InPlace (e : TypeId) (D : Option Addr) (c len lo : Nat) (w0 : World) (i : Value) (wr : World) : Prop :=
  ∃ (k : Nat) (l : List UInt8), k ≤ len ∧ i = .int .i64 (k : Int) ∧ Hid (l.length = len) ∧ OR e lo wr D c l ∧ w0.grownBy wr (D.map (·.block))
end
end Go.Proofs.YthfffbpcmlgoiaaGreatDoor

/- Slices of bytes cut and appended to, in this seat's numbers. Own work. -/
namespace Go.Proofs.YthfffbpcmlgoiaaGreatDoor
open Go.RowKit

theorem infoU8 : (Tryz.prog.info? 5).map (fun i => (i.zero, i.size, i.bytes)) = some (some (.int .u8 0), 1, 1) := by kernel_rfl

/-- s[k:] of bytes, its address under a name. -/
theorem run_cut (k : Nat) (kd : IntKind) (a : Option Addr) (len cap : Nat) (w : World) (h : k ≤ len) :
    (Instr.slice 24 (.slice a len cap) (some (.int kd (k : Int))) none none).run Tryz.prog w = .ok (.slice (cutA a cap k) (len - k) (cap - k)) w := by
  have hu : Tryz.prog.underlying 24 = some (.slice (Tryz.prog.elem 24)) := by kernel_rfl
  obtain ⟨i0, hi0, _, hz1, _⟩ := info_parts infoU8
  have he : Tryz.prog.elem 24 = 5 := by kernel_rfl
  rw [run_slice_l w 24 a len cap hu kd (k : Int) (by omega) (by omega), he]
  simp only [sizeOf, typeInfo, sliced, Int.toNat_natCast, cutA, Sem.run_bind, Sem.run_pure]
  simp [hi0, hz1]
/-- s[k:h] of bytes, its address under a name. -/
theorem run_cuts (k h : Nat) (kd kd' : IntKind) (a : Option Addr) (len cap : Nat) (w : World) (h1 : k ≤ h) (h2 : h ≤ cap) :
    (Instr.slice 24 (.slice a len cap) (some (.int kd (k : Int))) (some (.int kd' (h : Int))) none).run Tryz.prog w = .ok (.slice (cutA a cap k) (h - k) (cap - k)) w := by
  have hu : Tryz.prog.underlying 24 = some (.slice (Tryz.prog.elem 24)) := by kernel_rfl
  obtain ⟨i0, hi0, _, hz1, _⟩ := info_parts infoU8
  have he : Tryz.prog.elem 24 = 5 := by kernel_rfl
  rw [run_slice_lh w 24 a len cap hu kd kd' (k : Int) (h : Int) (by omega) (by omega) (by omega), he]
  simp only [sizeOf, typeInfo, sliced, Int.toNat_natCast, cutA, Sem.run_bind, Sem.run_pure]
  simp [hi0, hz1]

section
variable {lo : Nat} {w : World} {A : Option Addr} {c : Nat} {l : List UInt8} {ops : Array Oper} {rest : List Oper} {o : Oper} {a : Act} {K : Act → World → Prop} {Q : Exit → Act → World → Prop} {E : Prop}
  {B : Option Addr} {n d lb g : Nat} {m : List UInt8}
theorem stepApp (hgd : o.guard = none) (s x : Operand) (ho : o.op = .call { callee := .builtin .append, args := #[s, x], argTypes := #[24, 24] })
    (hs : a.eval s = .slice A l.length c) (hx : a.eval x = .slice B n d) (hn : m.length = n) (h : OR 5 lo w A c l) (hlo : lo ≤ w.heap.size) (hr : RB w lb B m) (hd : m.length ≤ d) (hlen : l.length + m.length ≤ 70368744177664)
    (hk : ∀ A' c' w' L, Hid (L = l ++ m) → OR 5 lo w' A' c' L → w.grownBy w' (A.map (·.block)) → (∀ W : World, Ab W w → W.heap.size ≤ lo → Ab W w') → K (a.put o.dst (.slice A' L.length c')) w') :
    if Region.wanted o (yielded ops a.tmps) = true then Oper.wp Tryz.prog o a w K Q else E := by
  obtain ⟨i0, hi0, hz0, hz1, hz2⟩ := info_parts infoU8
  exact step_append_bytes hgd s x _ ho i0 _ Tryz.underlying24 hi0 hz0 hz1 hz2 rfl hs hx hn h hlo hr hd hlen hk
theorem listApp (hgd : o.guard = none) (s x : Operand) (ho : o.op = .call { callee := .builtin .append, args := #[s, x], argTypes := #[24, 24] })
    (hs : a.eval s = .slice A l.length c) (hx : a.eval x = .slice B n d) (hn : m.length = n) (h : OR 5 lo w A c l) (hlo : lo ≤ w.heap.size) (hr : RB w lb B m) (hd : m.length ≤ d) (hlen : l.length + m.length ≤ 70368744177664)
    (hk : ∀ A' c' w' L, Hid (L = l ++ m) → OR 5 lo w' A' c' L → w.grownBy w' (A.map (·.block)) → (∀ W : World, Ab W w → W.heap.size ≤ lo → Ab W w') → wpList Tryz.prog ops Q rest (a.put o.dst (.slice A' L.length c')) w') :
    wpList Tryz.prog ops Q (o :: rest) a w := by
  obtain ⟨i0, hi0, hz0, hz1, hz2⟩ := info_parts infoU8
  exact wpList_append_bytes hgd s x _ ho i0 _ Tryz.underlying24 hi0 hz0 hz1 hz2 rfl hs hx hn h hlo hr hd hlen hk
theorem stepLit (hgd : o.guard = none) (s x : Operand) (ho : o.op = .call { callee := .builtin .append, args := #[s, x], argTypes := #[24, 24] })
    (hs : a.eval s = .slice (some ⟨g, 0, none⟩) 0 0) (hx : a.eval x = .slice B n d) (hn : m.length = n) (hg : w.heap[g]? = some (.cells #[] 5 (0, 0))) (hr : RB w lb B m) (hd : m.length ≤ d) (hlen : m.length ≤ 70368744177664)
    (hk : ∀ A' c' w' L, Hid (L = m) → Ab w w' → (∀ lo : Nat, lo ≤ g → lo ≤ w.heap.size → OR 5 lo w' A' c' L) → K (a.put o.dst (.slice A' L.length c')) w') :
    if Region.wanted o (yielded ops a.tmps) = true then Oper.wp Tryz.prog o a w K Q else E := by
  obtain ⟨i0, hi0, hz0, hz1, hz2⟩ := info_parts infoU8
  exact step_append_lit hgd s x _ ho i0 _ Tryz.underlying24 hi0 hz0 hz1 hz2 rfl hs hx hn hg hr hd hlen hk
theorem listLit (hgd : o.guard = none) (s x : Operand) (ho : o.op = .call { callee := .builtin .append, args := #[s, x], argTypes := #[24, 24] })
    (hs : a.eval s = .slice (some ⟨g, 0, none⟩) 0 0) (hx : a.eval x = .slice B n d) (hn : m.length = n) (hg : w.heap[g]? = some (.cells #[] 5 (0, 0))) (hr : RB w lb B m) (hd : m.length ≤ d) (hlen : m.length ≤ 70368744177664)
    (hk : ∀ A' c' w' L, Hid (L = m) → Ab w w' → (∀ lo : Nat, lo ≤ g → lo ≤ w.heap.size → OR 5 lo w' A' c' L) → wpList Tryz.prog ops Q rest (a.put o.dst (.slice A' L.length c')) w') :
    wpList Tryz.prog ops Q (o :: rest) a w := by
  obtain ⟨i0, hi0, hz0, hz1, hz2⟩ := info_parts infoU8
  exact wpList_append_lit hgd s x _ ho i0 _ Tryz.underlying24 hi0 hz0 hz1 hz2 rfl hs hx hn hg hr hd hlen hk
end

end Go.Proofs.YthfffbpcmlgoiaaGreatDoor

/- make([]byte, n). Own work. -/
namespace Go.Proofs.YthfffbpcmlgoiaaGreatDoor
open Go.RowKit

/-- What make([]byte, n) lays, under a name. -/
theorem make_bytes (n : Nat) (hn : n ≤ 16777216) (v : Int) (hv : v = (n : Int)) : ∃ (Z : Array Value) (l : List UInt8), Hid (l.length = n) ∧ Hid (∀ i (h : i < l.length), l[i] = 0) ∧
    (∀ w : World, (Instr.makeSlice 24 (.int .i64 v) (.int .i64 v)).run Tryz.prog w = .ok (.slice (some ⟨w.heap.size, 0, none⟩) n n) (w.alloc (.cells Z 5))) ∧
    Hid (∀ (w : World) (g : Nat) (fr : Nat × Nat), w.heap[g]? = some (.cells Z 5 fr) → RB w 0 (some ⟨g, 0, none⟩) l) := by
  subst hv
  have hi8 : (Tryz.prog.info? 5).map (fun i => (i.zero, i.size, i.bytes)) = some (some (.int .u8 0), 1, 1) := by kernel_rfl
  obtain ⟨i0, hi, hz, hs, hb⟩ := info_parts hi8
  refine ⟨madeCells (Value.int .u8 0).cells n, List.replicate n 0, by unfold Hid; simp, by unfold Hid; simp, fun w => ?_, ?_⟩
  · have := run_makeSlice (P := Tryz.prog) w 24 5 i0 _ Tryz.underlying24 hi hz .i64 .i64 n n (by omega) (Int.le_refl _) (by rw [hs]; simp; omega) (by rw [hb]; omega) (by omega)
    rw [hs, Int.toNat_natCast, Nat.mul_one] at this
    exact this
  · unfold Hid
    intro w g fr hg hl
    refine ⟨_, rfl, Nat.zero_le _, fun i hi' => ?_⟩
    have e : (⟨g, 0, none⟩ : Addr).add i = ⟨g, i, none⟩ := by unfold Addr.add; split <;> simp_all
    rw [e]
    unfold World.cell?
    rw [hg]
    have ht : (madeCells #[Value.int .u8 0] n).toList = List.replicate n (.int .u8 0) := toList_madeCells_one _ _
    have hi2 : i < n := by simpa using hi'
    have : (madeCells #[Value.int .u8 0] n)[i]? = some (.int .u8 0) := by
      rw [← Array.getElem?_toList, ht, List.getElem?_replicate, if_pos hi2]
    simpa [cb, Value.cells] using this
end Go.Proofs.YthfffbpcmlgoiaaGreatDoor

/- Literal bytes, strings of bytes. Own work. -/
namespace Go.Proofs.YthfffbpcmlgoiaaGreatDoor
open Go.RowKit

theorem old_set {W : World} {n : Nat} {p : Obj} {q : Addr} {u : Value} (h : W.heap[n]? = some p) (hq : q.block ≠ n) : (W.setCell q u).heap[n]? = some p := by
  rw [Below.heap_setCell W q u n (fun e => hq e.symm)]; exact h
/-- A block that holds the bytes l. -/
theorem RB.blk {w : World} {lo g : Nat} {l : List UInt8} {T : TypeId} {fr : Nat × Nat} (hg : w.heap[g]? = some (.cells (l.map cb).toArray T fr)) (hlo : lo ≤ g) : RB w lo (some ⟨g, 0, none⟩) l := by
  intro hl
  refine ⟨_, rfl, hlo, fun i hi => ?_⟩
  have : (⟨g, 0, none⟩ : Addr).add i = ⟨g, i, none⟩ := by unfold Addr.add; split <;> simp_all
  rw [this]
  unfold World.cell?
  rw [hg]
  simp [List.getElem?_eq_getElem hi]
/-- []byte(s) of a string. -/
theorem conv_bytes (w : World) (l : List UInt8) :
    (convert 9 24 (.string ⟨l.toArray⟩)).run Tryz.prog w = .ok (.slice (some ⟨w.heap.size, 0, none⟩) l.length (grownCap w l.length 0 5))
      (w.drew.alloc (.cells (bytesRow ⟨l.toArray⟩ (grownCap w l.length 0 5)) 5 ((bytesRow ⟨l.toArray⟩ (grownCap w l.length 0 5)).size, (bytesRow ⟨l.toArray⟩ (grownCap w l.length 0 5)).size + 1))) := by
  have := run_bytes_of_string (P := Tryz.prog) w 9 24 5 ⟨l.toArray⟩ Tryz.underlying9 Tryz.underlying24 Tryz.underlying5
  have hs : (⟨l.toArray⟩ : ByteArray).size = l.length := rfl
  rw [hs] at this
  exact this
theorem rb_row {w : World} {l : List UInt8} {g c : Nat} {T : TypeId} {fr : Nat × Nat} (hg : w.heap[g]? = some (.cells (bytesRow ⟨l.toArray⟩ c) T fr)) : RB w 0 (some ⟨g, 0, none⟩) l := by
  intro hl
  refine ⟨_, rfl, Nat.zero_le _, fun i hi => ?_⟩
  have : (⟨g, 0, none⟩ : Addr).add i = ⟨g, i, none⟩ := by unfold Addr.add; split <;> simp_all
  rw [this]
  unfold World.cell?
  rw [hg]
  have e := bytesRow_at ⟨l.toArray⟩ c i (by simpa using hi)
  simpa [cb] using e
def RetTrue (w : World) (e : Ending) (w' : World) : Prop := e = .returned (.bool true) ∧ Ab w w'
end Go.Proofs.YthfffbpcmlgoiaaGreatDoor

/- SHA-256: words, blocks, paddings, digests as lists of bytes. Own work. -/
namespace Go.Proofs.YthfffbpcmlgoiaaGreatDoor
namespace Sha
def K : List (BitVec 32) := [0x428a2f98#32, 0x71374491#32, 0xb5c0fbcf#32, 0xe9b5dba5#32, 0x3956c25b#32, 0x59f111f1#32, 0x923f82a4#32, 0xab1c5ed5#32, 0xd807aa98#32, 0x12835b01#32, 0x243185be#32, 0x550c7dc3#32, 0x72be5d74#32, 0x80deb1fe#32, 0x9bdc06a7#32, 0xc19bf174#32, 0xe49b69c1#32, 0xefbe4786#32, 0x0fc19dc6#32, 0x240ca1cc#32, 0x2de92c6f#32, 0x4a7484aa#32, 0x5cb0a9dc#32, 0x76f988da#32, 0x983e5152#32, 0xa831c66d#32, 0xb00327c8#32, 0xbf597fc7#32, 0xc6e00bf3#32, 0xd5a79147#32, 0x06ca6351#32, 0x14292967#32, 0x27b70a85#32, 0x2e1b2138#32, 0x4d2c6dfc#32, 0x53380d13#32, 0x650a7354#32, 0x766a0abb#32, 0x81c2c92e#32, 0x92722c85#32, 0xa2bfe8a1#32, 0xa81a664b#32, 0xc24b8b70#32, 0xc76c51a3#32, 0xd192e819#32, 0xd6990624#32, 0xf40e3585#32, 0x106aa070#32, 0x19a4c116#32, 0x1e376c08#32, 0x2748774c#32, 0x34b0bcb5#32, 0x391c0cb3#32, 0x4ed8aa4a#32, 0x5b9cca4f#32, 0x682e6ff3#32, 0x748f82ee#32, 0x78a5636f#32, 0x84c87814#32, 0x8cc70208#32, 0x90befffa#32, 0xa4506ceb#32, 0xbef9a3f7#32, 0xc67178f2#32]
structure W8 where
  (a b c d e f g z : BitVec 32)
def first : W8 := ⟨0x6a09e667#32, 0xbb67ae85#32, 0x3c6ef372#32, 0xa54ff53a#32, 0x510e527f#32, 0x9b05688c#32, 0x1f83d9ab#32, 0x5be0cd19#32⟩
def rotr (x : BitVec 32) (n : Nat) : BitVec 32 := (x >>> n) ||| (x <<< (32 - n))
def u8 (l : List UInt8) (i : Nat) : Nat := (l.getD i 0).toNat
/-- the t-th word of a block -/
def word (l : List UInt8) (t : Nat) : BitVec 32 := BitVec.ofNat 32 (u8 l (4 * t) * 16777216 + u8 l (4 * t + 1) * 65536 + u8 l (4 * t + 2) * 256 + u8 l (4 * t + 3))
def s0 (x : BitVec 32) : BitVec 32 := rotr x 7 ^^^ rotr x 18 ^^^ (x >>> 3)
def s1 (x : BitVec 32) : BitVec 32 := rotr x 17 ^^^ rotr x 19 ^^^ (x >>> 10)
def at_ (w : List (BitVec 32)) (t : Nat) : BitVec 32 := w.getD t 0#32
/-- the word behind t words -/
def mix (w : List (BitVec 32)) (t : Nat) : BitVec 32 := at_ w (t - 16) + at_ w (t - 7) + s0 (at_ w (t - 15)) + s1 (at_ w (t - 2))
def ws (l : List UInt8) : Nat → List (BitVec 32)
  | 0 => []
  | t + 1 => ws l t ++ [if t < 16 then word l t else mix (ws l t) t]
def b0 (a : BitVec 32) : BitVec 32 := rotr a 2 ^^^ rotr a 13 ^^^ rotr a 22
def b1 (e : BitVec 32) : BitVec 32 := rotr e 6 ^^^ rotr e 11 ^^^ rotr e 25
def ch (e f g : BitVec 32) : BitVec 32 := (e &&& f) ^^^ (~~~e &&& g)
def maj (a b c : BitVec 32) : BitVec 32 := (a &&& b) ^^^ (a &&& c) ^^^ (b &&& c)
def p_ (s : W8) (k w : BitVec 32) : BitVec 32 := s.z + b1 s.e + ch s.e s.f s.g + k + w
def q_ (s : W8) : BitVec 32 := b0 s.a + maj s.a s.b s.c
def round (s : W8) (k w : BitVec 32) : W8 := ⟨p_ s k w + q_ s, s.a, s.b, s.c, s.d + p_ s k w, s.e, s.f, s.g⟩
def rounds (w : List (BitVec 32)) (s : W8) : Nat → W8
  | 0 => s
  | t + 1 => round (rounds w s t) (at_ K t) (at_ w t)
def add (h s : W8) : W8 := ⟨h.a + s.a, h.b + s.b, h.c + s.c, h.d + s.d, h.e + s.e, h.f + s.f, h.g + s.g, h.z + s.z⟩
def taken (h : W8) (l : List UInt8) : W8 := add h (rounds (ws l 64) h 64)
/-- the k-th block -/
def blk (l : List UInt8) (k : Nat) : List UInt8 := (l.drop (64 * k)).take 64
def afterN (h : W8) (l : List UInt8) : Nat → W8
  | 0 => h
  | k + 1 => taken (afterN h l k) (blk l k)
def after (h : W8) (l : List UInt8) : W8 := afterN h l (l.length / 64)
/-- the bytes that fill no block -/
def tail (l : List UInt8) : List UInt8 := l.drop (64 * (l.length / 64))
def bytes4 (x : BitVec 32) : List UInt8 := [UInt8.ofNat (x.toNat / 16777216), UInt8.ofNat (x.toNat / 65536), UInt8.ofNat (x.toNat / 256), UInt8.ofNat x.toNat]
def W8.list (h : W8) : List (BitVec 32) := [h.a, h.b, h.c, h.d, h.e, h.f, h.g, h.z]
def dig (h : W8) : List UInt8 := bytes4 h.a ++ bytes4 h.b ++ bytes4 h.c ++ bytes4 h.d ++ bytes4 h.e ++ bytes4 h.f ++ bytes4 h.g ++ bytes4 h.z
def zeros (n : Nat) : Nat := (119 - n % 64) % 64
/-- the last k of the eight bytes of a number, the highest first -/
def low (n : Nat) : Nat → List UInt8
  | 0 => []
  | k + 1 => UInt8.ofNat (n / 2 ^ (8 * k)) :: low n k
def pad (n : Nat) : List UInt8 := 128 :: (List.replicate (zeros n) 0 ++ low (8 * n) 8)
def of (l : List UInt8) : List UInt8 := dig (after first (l ++ pad l.length))

theorem ws_length (l : List UInt8) (t : Nat) : (ws l t).length = t := by
  induction t with
  | zero => rfl
  | succ t ih => simp [ws, ih]
theorem at_append (w v : List (BitVec 32)) (i : Nat) (h : i < w.length) : at_ (w ++ v) i = at_ w i := by
  unfold at_
  rw [List.getD_eq_getElem?_getD, List.getD_eq_getElem?_getD, List.getElem?_append_left h]
theorem at_ws (l : List UInt8) (n t : Nat) (h : t < n) : at_ (ws l n) t = at_ (ws l (t + 1)) t := by
  induction n with
  | zero => omega
  | succ n ih =>
    by_cases e : t = n
    · rw [e]
    · have : t < n := by omega
      rw [← ih this]
      show at_ (ws l n ++ _) t = _
      rw [at_append _ _ _ (by rw [ws_length]; exact this)]
theorem at_ws_last (l : List UInt8) (t : Nat) : at_ (ws l (t + 1)) t = if t < 16 then word l t else mix (ws l t) t := by
  show at_ (ws l t ++ _) t = _
  unfold at_
  rw [List.getD_eq_getElem?_getD, List.getElem?_append_right (by rw [ws_length]; omega), ws_length]
  simp
theorem blk_append (l m : List UInt8) (k : Nat) (h : 64 * (k + 1) ≤ l.length) : blk (l ++ m) k = blk l k := by
  unfold blk
  rw [List.drop_append_of_le_length (by omega), List.take_append_of_le_length (by rw [List.length_drop]; omega)]
theorem blk_drop (l : List UInt8) (i j : Nat) : blk (l.drop (64 * i)) j = blk l (i + j) := by
  unfold blk
  rw [List.drop_drop]
  congr 2; omega
theorem blk_length (l : List UInt8) (k : Nat) (h : 64 * (k + 1) ≤ l.length) : (blk l k).length = 64 := by
  unfold blk; simp; omega
theorem afterN_append (h : W8) (l m : List UInt8) (k : Nat) (hk : 64 * k ≤ l.length) : afterN h (l ++ m) k = afterN h l k := by
  induction k with
  | zero => rfl
  | succ k ih => unfold afterN; rw [ih (by omega), blk_append _ _ _ hk]
theorem afterN_add (h : W8) (l : List UInt8) (i j : Nat) : afterN h l (i + j) = afterN (afterN h l i) (l.drop (64 * i)) j := by
  induction j with
  | zero => rfl
  | succ j ih =>
    show taken (afterN h l (i + j)) (blk l (i + j)) = taken (afterN (afterN h l i) (l.drop (64 * i)) j) (blk (l.drop (64 * i)) j)
    rw [ih, blk_drop]
theorem tail_length (l : List UInt8) : (tail l).length = l.length % 64 := by
  unfold tail; simp; omega
theorem after_append (h : W8) (l m : List UInt8) : after h (l ++ m) = after (after h l) (tail l ++ m) := by
  unfold after
  have e : (l ++ m).length / 64 = l.length / 64 + (tail l ++ m).length / 64 := by
    rw [List.length_append, List.length_append, tail_length]; omega
  rw [e, afterN_add, afterN_append _ _ _ _ (by omega), List.drop_append_of_le_length (by omega)]
  rfl
theorem tail_append (l m : List UInt8) : tail (l ++ m) = tail (tail l ++ m) := by
  unfold tail
  have e : (l ++ m).length / 64 = l.length / 64 + (l.drop (64 * (l.length / 64)) ++ m).length / 64 := by
    rw [List.length_append, List.length_append, List.length_drop]; omega
  rw [e, Nat.mul_add, ← List.drop_drop, List.drop_append_of_le_length (by omega : 64 * (l.length / 64) ≤ l.length)]
theorem after_short (h : W8) (l : List UInt8) (hl : l.length < 64) : after h l = h := by
  unfold after; rw [Nat.div_eq_of_lt hl]; rfl
theorem tail_short (l : List UInt8) (hl : l.length < 64) : tail l = l := by
  unfold tail; rw [Nat.div_eq_of_lt hl]; rfl
theorem after_block (h : W8) (l : List UInt8) (hl : l.length = 64) : after h l = taken h l := by
  unfold after
  rw [hl]
  show taken h (blk l 0) = _
  unfold blk
  rw [Nat.mul_zero, List.drop_zero, List.take_of_length_le (by omega)]
theorem tail_block (l : List UInt8) (hl : l.length % 64 = 0) : tail l = [] := by
  apply List.eq_nil_of_length_eq_zero
  rw [tail_length, hl]
/-- one step of filling a block -/
theorem step_fill (h : W8) (c p : List UInt8) (hp : c.length % 64 + p.length < 64) : after h (c ++ p) = after h c ∧ tail (c ++ p) = tail c ++ p := by
  have : (tail c ++ p).length < 64 := by rw [List.length_append, tail_length]; exact hp
  exact ⟨by rw [after_append, after_short _ _ this], by rw [tail_append, tail_short _ this]⟩
theorem step_full (h : W8) (c p : List UInt8) (hp : c.length % 64 + p.length = 64) : after h (c ++ p) = taken (after h c) (tail c ++ p) ∧ tail (c ++ p) = [] := by
  have : (tail c ++ p).length = 64 := by rw [List.length_append, tail_length]; exact hp
  exact ⟨by rw [after_append, after_block _ _ this], by rw [tail_append, tail_block _ (by rw [this])]⟩
theorem low_length (n k : Nat) : (low n k).length = k := by
  induction k with
  | zero => rfl
  | succ k ih => simp [low, ih]
theorem pad_length (n : Nat) : (pad n).length = zeros n + 9 := by
  unfold pad; simp [low_length]
theorem zeros_le (n : Nat) : zeros n ≤ 63 := by unfold zeros; omega
theorem pad_whole (n : Nat) : (n + (pad n).length) % 64 = 0 := by
  rw [pad_length]; unfold zeros; omega
theorem dig_length (h : W8) : (dig h).length = 32 := rfl
end Sha
end Go.Proofs.YthfffbpcmlgoiaaGreatDoor

/- What all texts of layer 8 stand on: side goals, variables as lists of cells, rows of words. Own work. -/
namespace Go.Proofs.YthfffbpcmlgoiaaGreatDoor
theorem stA {α : Type _} {l : List α} {i : Nat} {a : α} : l.toArray.setIfInBounds i a = (l.set i a).toArray := by simp
theorem st0 {α : Type _} {a b : α} {l : List α} : (a :: l).set 0 b = b :: l := rfl
theorem st1 {α : Type _} {a b : α} {l : List α} {n : Nat} : (a :: l).set (n + 1) b = a :: l.set n b := rfl
theorem wnA {p : Prop} (h : p := by first | (simp; done) | omega | (simp; omega)) : p := h
theorem abA {w w' : World} (h : Ab w w' := by repeat (first | with_reducible exact Ab.refl _ | with_reducible assumption | with_reducible refine Ab.drew ?_ | with_reducible refine Ab.drewN ?_ _ | with_reducible refine Ab.alloc ?_ _ | with_reducible refine Ab.trans ?_ (by assumption) | with_reducible refine Ab.set ?_ (by first | (simp; done) | omega | (simp; omega)) _)) : Ab w w' := h
theorem ckA {p : Prop} (h : p := by repeat (first | with_reducible assumption | (simp [go_sem]; done) | with_reducible apply cell_alloc | with_reducible apply cell_drew | with_reducible apply cell_drewN | (with_reducible apply Ab.at; with_reducible assumption) | (with_reducible refine cell_set ?_ ?_; rotate_left; focus (first | (simp; done) | (simp; omega))) | (with_reducible refine cell_setb ?_ ?_; rotate_left; focus (first | omega | (simp only; omega) | (simp; omega))))) : p := h
theorem orA {p : Prop} (h : p := by repeat (first | with_reducible exact OR.none_ | with_reducible assumption | with_reducible refine OR.drew ?_ | with_reducible refine OR.drewN ?_ _ | with_reducible refine OR.alloc ?_ _ | (with_reducible refine OR.setNew ?_ _ ?_ _; rotate_left; focus (first | (simp; done) | omega | (simp; omega))) | with_reducible refine OR.set ?_ (by first | (simp; done) | omega | (simp; omega)) _ | (with_reducible refine OR.keep ?_ (by assumption)))) : p := h
open Go.RowKit
section
variable {P : Program} {ops : Array Oper} {Q : Exit → Act → World → Prop} {md : Region.Mode} {S : World → Prop} {oi : Oper} {fuel : Nat} {listed : Array Bool} {a : Act} {w : World}
theorem rtA (i : Nat) (v : Value) (h : wpAnyH P md ops Q S fuel (listed.setIfInBounds i true) (a.put oi.dst v) w)
    (hi : ops[i]? = some oi := by rfl) (hs : Region.noSelect ops = true := by kernel_rfl) (hf : Region.free md ops listed i = true := by kernel_rfl) (hr : (Region.ready md ops listed).contains i = true := by kernel_rfl)
    (hy : ∀ w, S w → (execOp a.eval oi).run P w = .ok (.value v) w := by intro w hSw; (try dsimp only at hSw); go_simp; (try with_reducible rfl))
    (hw : Region.wanted oi (yielded ops a.tmps) = true := by kernel_rfl) (hQ : ∀ c a w, Q (.panic c) (a.put oi.dst v) w → Q (.panic c) a w := by exact fun _ _ _ h => h) (hS : S w := by assumption) : wpAnyH P md ops Q S (fuel + 1) listed a w :=
  wpAnyH_take hi hs hf hr hQ (Or.inl ⟨hw, hy⟩) hS h
theorem rtS (i : Nat) (h : wpAnyH P md ops Q S fuel (listed.setIfInBounds i true) (a.put oi.dst undef) w)
    (hi : ops[i]? = some oi := by rfl) (hs : Region.noSelect ops = true := by kernel_rfl) (hf : Region.free md ops listed i = true := by kernel_rfl) (hr : (Region.ready md ops listed).contains i = true := by kernel_rfl)
    (hw : Region.wanted oi (yielded ops a.tmps) = false := by kernel_rfl) (hQ : ∀ c a w, Q (.panic c) (a.put oi.dst undef) w → Q (.panic c) a w := by exact fun _ _ _ h => h) (hS : S w := by assumption) : wpAnyH P md ops Q S (fuel + 1) listed a w :=
  wpAnyH_take hi hs hf hr hQ (Or.inr ⟨hw, rfl⟩) hS h
theorem rtL (i : Nat) (cs : List Value) (o : Nat) {b : Nat} (hR : ∀ w, S w → w.rangeAt b o cs) {ty : TypeId} {d : TypeDesc} (hu : P.underlying ty = some d)
    (h : wpAnyH P md ops Q S fuel (listed.setIfInBounds i true) (a.put oi.dst (.agg cs.toArray)) w) {x : Operand}
    (hi : ops[i]? = some oi := by rfl) (ho : oi.op = .load ty x := by rfl) (hx : a.eval x = .pointer (some ⟨b, o, none⟩) := by rfl) (hd : d.isRow = true := by rfl) (hz : (P.info? ty).map (·.size) = some cs.length := by kernel_rfl)
    (hs : Region.noSelect ops = true := by kernel_rfl) (hf : Region.free md ops listed i = true := by kernel_rfl) (hr : (Region.ready md ops listed).contains i = true := by kernel_rfl)
    (hw : Region.wanted oi (yielded ops a.tmps) = true := by kernel_rfl) (hQ : ∀ c a' w, Q (.panic c) (a'.put oi.dst (.agg cs.toArray)) w → Q (.panic c) a' w := by exact fun _ _ _ h => h) (hS : S w := by assumption) : wpAnyH P md ops Q S (fuel + 1) listed a w :=
  wpAnyH_take hi hs hf hr hQ (yieldsIf_load_mid hw ty x ho b o hx cs d hR hu hd hz) hS h
theorem r1A (i : Nat) (h : ∀ K' : Act → World → Prop, Shut (∀ a w, S w → (S w → wpAnyH P md ops Q S fuel (listed.setIfInBounds i true) a w) → K' a w) → if Region.wanted oi (yielded ops a.tmps) = true then Oper.wp P oi a w K' Q else K' (a.put oi.dst undef) w)
    (hi : ops[i]? = some oi := by rfl) (hr : Region.ready md ops listed = [i] := by kernel_rfl) : wpAnyH P md ops Q S (fuel + 1) listed a w :=
  wpAnyH_ready hr (by simp) (AllReadyH.cons hi h AllReadyH.nil)
end
/-- A variable in block b, its cells vs. -/
structure VB (w : World) (b : Nat) (vs : List Value) : Prop where
  lt : b < w.heap.size
  q : ∀ k v, vs[k]? = some v → w.cell? ⟨b, k, none⟩ = some v
  g : ∀ k, w.frozen? ⟨b, k, none⟩ = false
section
variable {w w' : World} {b : Nat} {vs : List Value} {p : Addr} {u : Value}
theorem VB.at (h : VB w b vs) (k : Nat) {v : Value} (hv : vs[k]? = some v) : w.cell? ⟨b, k, none⟩ = some v := h.q k v hv
theorem VB.ab (h : VB w b vs) (k : Ab w w') : VB w' b vs := ⟨Nat.lt_of_lt_of_le h.lt k.size, fun i v hv => k.at (h.q i v hv), fun i => k.fr h.lt (h.g i)⟩
theorem VB.box {xs : Array Value} {T : TypeId} (hb : w.heap[b]? = some (.cells xs T (0, 0))) : VB w b xs.toList := by
  have hlt : b < w.heap.size := by
    rcases Nat.lt_or_ge b w.heap.size with h | h
    · exact h
    · rw [Array.getElem?_eq_none h] at hb; cases hb
  refine ⟨hlt, fun k v hv => ?_, fun k => ?_⟩
  · simpa [World.cell?, hb] using hv
  · simp [World.frozen?, hb]
theorem VB.other (h : VB w b vs) (hp : p.block ≠ b) (u : Value) : VB (w.setCell p u) b vs := by
  have hb : (w.setCell p u).heap[b]? = w.heap[b]? := Below.heap_setCell w p u b (by omega)
  refine ⟨by simpa using h.lt, fun i v hv => ?_, fun i => ?_⟩
  · exact (World.cell?_of_block (a := ⟨b, i, none⟩) hb).trans (h.q i v hv)
  · refine Eq.trans ?_ (h.g i)
    unfold World.frozen?
    rw [show (⟨b, i, none⟩ : Addr).block = b from rfl, hb]
theorem VB.set (h : VB w b vs) (k : Nat) (hk : k < vs.length) (u : Value) : VB (w.setCell ⟨b, k, none⟩ u) b (vs.set k u) := by
  have hq : ∀ i, i < vs.length → ∃ v, w.cell? ⟨b, i, none⟩ = some v := fun i hi => ⟨vs[i], h.q i _ (by simp [hi])⟩
  refine ⟨by simpa using h.lt, fun i v hv => ?_, fun i => ?_⟩
  · have hi : i < vs.length := by
      rcases Nat.lt_or_ge i vs.length with hi | hi
      · exact hi
      · rw [List.getElem?_eq_none (by simpa using hi)] at hv; cases hv
    obtain ⟨v0, hv0⟩ := hq i hi
    by_cases e : k = i
    · subst e
      rw [List.getElem?_set_self hk] at hv
      cases hv
      simp [go_sem, hv0]
    · rw [List.getElem?_set_ne e] at hv
      have := h.q i v hv
      simp [go_sem, this, Ne.symm e]
  · have := h.g i
    simpa [go_sem] using this
end
/-- Cells written one behind the other, from the cell k on. -/
def wsetN (w : World) (b : Nat) : Nat → List Value → World
  | _, [] => w
  | k, v :: vs => wsetN (w.setCell ⟨b, k, none⟩ v) b (k + 1) vs
theorem setN_size (b : Nat) : ∀ (us : List Value) (w : World) (k : Nat), (wsetN w b k us).heap.size = w.heap.size := by
  intro us
  induction us with
  | nil => intro w k; rfl
  | cons u us ih => intro w k; exact (ih _ _).trans (by simp)
theorem VB.setN_other {w : World} {b c : Nat} {vs : List Value} (us : List Value) (h : VB w c vs) (hne : c ≠ b) : ∀ k, VB (wsetN w b k us) c vs := by
  intro k
  induction us generalizing w k with
  | nil => exact h
  | cons u us ih => exact ih (h.other (fun e => hne e.symm) u) (k + 1)
theorem setN_block {b : Nat} : ∀ (us : List Value) (w : World) (k g : Nat), g ≠ b → (wsetN w b k us).heap[g]? = w.heap[g]? := by
  intro us
  induction us with
  | nil => intro w k g hg; rfl
  | cons u us ih => intro w k g hg; exact (ih _ _ g hg).trans (Below.heap_setCell w _ u g (by simpa using hg))
theorem VB.setN_gen {b : Nat} : ∀ (us : List Value) (w : World) (pre vs : List Value), VB w b (pre ++ vs) → vs.length = us.length → VB (wsetN w b pre.length us) b (pre ++ us) := by
  intro us
  induction us with
  | nil => intro w pre vs h hl; rw [List.length_nil] at hl; rw [List.eq_nil_of_length_eq_zero hl] at h; exact h
  | cons u us ih =>
    intro w pre vs h hl
    cases vs with
    | nil => cases hl
    | cons v vs =>
      have h1 := h.set pre.length (by simp) u
      have e : (pre ++ v :: vs).set pre.length u = (pre ++ [u]) ++ vs := by simp [List.set_append_right]
      rw [e] at h1
      have := ih _ (pre ++ [u]) vs h1 (by simpa using hl)
      simpa [wsetN] using this
theorem VB.setN {w : World} {b : Nat} {vs : List Value} (h : VB w b vs) (us : List Value) (hl : vs.length = us.length) : VB (wsetN w b 0 us) b us := by
  have := VB.setN_gen us w [] vs h hl
  simpa using this
theorem Ab.setN {w0 w : World} {b : Nat} (h : Ab w0 w) (hb : w0.heap.size ≤ b) (us : List Value) : ∀ k, Ab w0 (wsetN w b k us) := by
  intro k
  induction us generalizing w k with
  | nil => exact h
  | cons u us ih => exact ih (h.set hb u) (k + 1)
section
variable {ops : Array Oper} {rest : List Oper} {o : Oper} {a : Act} {w w' : World} {b lo hi : Nat} {vs us : List Value}
theorem wset_cells (b : Nat) : ∀ (us : List Value) (w : World) (k : Nat), w.setCells b k us = wsetN w b k us := by
  intro us
  induction us with
  | nil => intro w k; rfl
  | cons u us ih => intro w k; exact ih _ _
end
section
variable {ops : Array Oper} {rest : List Oper} {o : Oper} {a : Act} {w w' : World} {b lo hi : Nat} {vs us : List Value}
theorem VB.range (h : VB w b vs) : w.rangeAt b 0 vs := fun j v hv => by rw [Nat.zero_add]; exact h.q j v hv
theorem VB.rangeAt (h : VB w b vs) (k n : Nat) : w.rangeAt b k ((vs.drop k).take n) := fun j v hv => by
  refine h.q (k + j) v ?_
  rw [List.getElem?_take] at hv
  split at hv
  · rwa [List.getElem?_drop] at hv
  · cases hv
theorem VB.there (h : VB w b vs) {n : Nat} (hn : n ≤ vs.length) : w.there b 0 n := fun j hj => by
  refine ⟨?_, h.g _⟩
  rw [Nat.zero_add, h.q j vs[j] (by simp)]; rfl
theorem if_go {c : Prop} [Decidable c] {A E : Prop} (hc : c) (h : A) : if c then A else E := by rw [if_pos hc]; exact h
/-- What a store of the whole variable in block b leaves. -/
structure Stored (w : World) (b : Nat) (us : List Value) (w' : World) : Prop where
  v : VB w' b us
  ab : ∀ W, Ab W w → W.heap.size ≤ b → Ab W w'
  sz : w'.heap.size = w.heap.size
  blk : ∀ g, g ≠ b → w'.heap[g]? = w.heap[g]?
theorem Stored.vb {c : Nat} {vs : List Value} (h : Stored w b us w') (hv : VB w c vs) (hne : c ≠ b) : VB w' c vs := by
  have hb := h.blk c hne
  refine ⟨by rw [h.sz]; exact hv.lt, fun i v hi => ?_, fun i => ?_⟩
  · exact (World.cell?_of_block (a := ⟨c, i, none⟩) hb).trans (hv.q i v hi)
  · refine Eq.trans ?_ (hv.g i)
    unfold World.frozen?
    rw [show (⟨c, i, none⟩ : Addr).block = c from rfl, hb]
theorem stored_of (hv : VB w b vs) (hl : vs.length = us.length) : Stored w b us (w.setCells b 0 us) := by
  rw [wset_cells]
  exact ⟨hv.setN us hl, fun W hW hb => Ab.setN hW hb us 0, setN_size b us w 0, fun g hg => setN_block us w 0 g hg⟩
theorem list_ldV {Q : Exit → Act → World → Prop} (T : TypeId) {n : Nat} {d : TypeDesc} (hT : (Tryz.prog.info? T).map (·.size) = some n) (hu : Tryz.prog.underlying T = some d) (hd : d.isRow = true) (hgd : o.guard = none) (x : Operand) (ho : o.op = .load T x) (hx : a.eval x = .pointer (some ⟨b, 0, none⟩)) (hv : VB w b vs) (hl : vs.length = n)
    (h : wpList Tryz.prog ops Q rest (a.put o.dst (.agg vs.toArray)) w) : wpList Tryz.prog ops Q (o :: rest) a w :=
  wpList_load_mid hgd _ x ho b 0 hx vs _ hv.range hu hd (by rw [hT, hl]) h
theorem wp_stV {K : Act → World → Prop} {Q : Exit → Act → World → Prop} (T : TypeId) {n : Nat} (hT : (Tryz.prog.info? T).map (·.size) = some n) (x y : Operand) (ho : o.op = .store T x y) (hx : a.eval x = .pointer (some ⟨b, 0, none⟩)) (hy : a.eval y = .agg us.toArray) (hv : VB w b vs) (hl : vs.length = us.length) (hu : us.length = n)
    (h1 : us.all (·.oneCell') = true) (h : ∀ w', Stored w b us w' → K (a.put o.dst undef) w') : o.wp Tryz.prog a w K Q := by
  refine wp_store_mid _ x y ho b 0 us.toArray hx hy ?_ (by rw [hT]; simp [hu]) (by simpa using h1) ?_
  · have := hv.there (n := us.toArray.size) (by simp [hl])
    exact this
  · exact h _ (stored_of hv hl)
theorem list_stV {Q : Exit → Act → World → Prop} (T : TypeId) {n : Nat} (hT : (Tryz.prog.info? T).map (·.size) = some n) (hgd : o.guard = none) (x y : Operand) (ho : o.op = .store T x y) (hx : a.eval x = .pointer (some ⟨b, 0, none⟩)) (hy : a.eval y = .agg us.toArray) (hv : VB w b vs) (hl : vs.length = us.length) (hu : us.length = n)
    (h1 : us.all (·.oneCell') = true) (h : ∀ w', Stored w b us w' → wpList Tryz.prog ops Q rest (a.put o.dst undef) w') : wpList Tryz.prog ops Q (o :: rest) a w :=
  wpList_plain hgd fun _ hK => wp_stV T hT x y ho hx hy hv hl hu h1 fun w' hs => hK _ _ (h w' hs)
theorem res_V1 (T : TypeId) {n : Nat} {d : TypeDesc} (hT : (Tryz.prog.info? T).map (·.size) = some n) (hu : Tryz.prog.underlying T = some d) (hd : d.isRow = true) {fn : Func} {p : Tmp} (h : fn.results = #[.cell p T]) (tmps : Array Value) (hp : tmps.getD p undef = .pointer (some ⟨b, 0, none⟩)) (hv : VB w b vs) (hl : vs.length = n) :
    (results fn tmps).run Tryz.prog w = .ok (.agg vs.toArray) w := by
  have hp' : tmps[p]?.getD undef = .pointer (some ⟨b, 0, none⟩) := by simpa using hp
  simp [results, h, hp', asAddr, run_loadVar_mid w b 0 T vs _ hv.range hu hd (by rw [hT, hl])]
theorem res_V2 (T : TypeId) {n : Nat} {d : TypeDesc} (hT : (Tryz.prog.info? T).map (·.size) = some n) (hu : Tryz.prog.underlying T = some d) (hd : d.isRow = true) {fn : Func} {p u : Tmp} (h : fn.results = #[.cell p T, .tmp u]) (tmps : Array Value) (hp : tmps.getD p undef = .pointer (some ⟨b, 0, none⟩)) (hv : VB w b vs) (hl : vs.length = n) :
    (results fn tmps).run Tryz.prog w = .ok (.tuple #[.agg vs.toArray, tmps.getD u undef]) w := by
  have hp' : tmps[p]?.getD undef = .pointer (some ⟨b, 0, none⟩) := by simpa using hp
  simp [results, h, hp', asAddr, run_loadVar_mid w b 0 T vs _ hv.range hu hd (by rw [hT, hl])]
end
/-- A word as a value. -/
def wv (x : BitVec 32) : Value := .int .u32 (x.toNat : Int)
/-- Eight words as values. -/
def w8 (h : Sha.W8) : List Value := [.int .u32 (h.a.toNat : Int), .int .u32 (h.b.toNat : Int), .int .u32 (h.c.toNat : Int), .int .u32 (h.d.toNat : Int), .int .u32 (h.e.toNat : Int), .int .u32 (h.f.toNat : Int), .int .u32 (h.g.toNat : Int), .int .u32 (h.z.toNat : Int)]
theorem info8 : (Tryz.prog.info? 101).map (·.size) = some 8 := by kernel_rfl
theorem info64 : (Tryz.prog.info? 179).map (·.size) = some 64 := by kernel_rfl
theorem info32 : (Tryz.prog.info? 26).map (·.size) = some 32 := by kernel_rfl
theorem infoId : (Tryz.prog.info? 27).map (·.size) = some 32 := by kernel_rfl
theorem infoH : (Tryz.prog.info? 127).map (·.size) = some 10 := by kernel_rfl
/-- The package's variables: the first words, the constants. -/
structure Glob (w : World) : Prop where
  f : ∀ k v, (w8 Sha.first)[k]? = some v → w.cell? ⟨0, k, none⟩ = some v
  k : ∀ k v, (Sha.K.map wv)[k]? = some v → w.cell? ⟨2, k, none⟩ = some v
theorem Glob.ab {w w' : World} (h : Glob w) (k : Ab w w') : Glob w' := ⟨fun i v hv => k.at (h.f i v hv), fun i v hv => k.at (h.k i v hv)⟩
theorem Glob.first {w : World} (h : Glob w) : w.rangeAt 0 0 (w8 Sha.first) := fun j v hv => by rw [Nat.zero_add]; exact h.f j v hv
theorem Glob.at {w : World} (h : Glob w) (t : Nat) (ht : t < 64) : w.cell? ⟨2, t, none⟩ = some (.int .u32 ((Sha.at_ Sha.K t).toNat : Int)) := by
  refine h.k t _ ?_
  have hl : Sha.K.length = 64 := rfl
  rw [List.getElem?_map]
  unfold Sha.at_
  rw [List.getD_eq_getElem?_getD, List.getElem?_eq_getElem (by omega)]
  rfl
end Go.Proofs.YthfffbpcmlgoiaaGreatDoor

/- A row of the call's own that is appended to: the new row's block. Own work. -/
namespace Go.Proofs.YthfffbpcmlgoiaaGreatDoor
open Go.RowKit

theorem grown_alloc {w w' : World} {o : Obj} {row : Option Nat} (h : (w.alloc o).grownBy w' row) : w.grownBy w' row :=
  ⟨h.os, h.tape, h.output, Nat.le_trans (by simp) h.size, fun k hk hne => (h.block k (by simp; omega) hne).trans (Below.heap_alloc w o k hk)⟩

/-- A row of the call's own: n elements of k cells each, which hold vs. -/
def OV (e : TypeId) (k lo : Nat) (w : World) (A : Option Addr) (n c : Nat) (vs : List Value) : Prop := w.ownsRow lo e k (.slice A n c) n vs
theorem OR.ov {e : TypeId} {lo : Nat} {w : World} {A : Option Addr} {c : Nat} {l : List UInt8} (h : OR e lo w A c l) : OV e 1 lo w A l.length c (l.map cb) := h
theorem OV.or {e : TypeId} {lo n : Nat} {w : World} {A : Option Addr} {c : Nat} {l : List UInt8} (h : OV e 1 lo w A n c (l.map cb)) (hn : l.length = n) : OR e lo w A c l := by
  subst hn; exact h

section
variable {P : Program} {e : TypeId} {k by_ lo : Nat} {w : World} {A : Option Addr} {n c : Nat} {vs : List Value}
theorem run_appV (t ty : TypeId) (i : TypeInfo) (z : Value) (ht : P.underlying t = some (.slice e)) (hi : P.info? e = some i) (hz : i.zero = some z)
    (hsize : i.size = k) (hby : i.bytes = by_) (hzs : z.cells.size = k) (hk : 0 < k) (h : OV e k lo w A n c vs) (hlo : lo ≤ w.heap.size) (bd : Addr) (m d : Nat) (ws : List Value) (hl : ws.length = m * k)
    (hn : ∀ j u, ws[j]? = some u → w.cell? (bd.add j) = some u) (h1 : ∀ u ∈ ws, u.oneCell' = true) (hm : 0 < m) (h63 : n + m ≤ maxLen) (hb : (n + m) * by_ ≤ 140737488355328) :
    ∃ g c' w', (Builtin.append_ #[t, t] ty #[.slice A n c, .slice (some bd) m d]).run P w = .ok (.slice (some ⟨g, 0, none⟩) (n + m) c') w' ∧ OV e k lo w' (some ⟨g, 0, none⟩) (n + m) c' (vs ++ ws) ∧
      w.grownBy w' (A.map (·.block)) ∧ (A.map (·.block) = some g ∨ g = w.heap.size) := by
  obtain ⟨v', w', hrun, h2, h3, _, h5⟩ := run_append_own_at (P := P) w lo t ty e i z k by_ ht hi hz hsize hby hzs hk _ _ _ h bd m d ws hl hn h1 h63 hb hlo
  have hrow : Value.ownBlock (.slice A n c) = A.map (·.block) := by cases A <;> rfl
  rw [hrow] at h3 h5
  rcases h2.2 with ⟨_, h0⟩ | ⟨g, cap, cur, rfl, r⟩
  · omega
  · refine ⟨g, cap, w', hrun, h2, h3, ?_⟩
    rcases h5 with h5 | h5
    · exact .inl h5.symm
    · exact .inr (Option.some.inj h5)
theorem wp_appV {o : Oper} {a : Act} {K : Act → World → Prop} {Q : Exit → Act → World → Prop} (s x : Operand) (t : TypeId)
    (ho : o.op = .call { callee := .builtin .append, args := #[s, x], argTypes := #[t, t] })
    (i : TypeInfo) (z : Value) (ht : P.underlying t = some (.slice e)) (hi : P.info? e = some i) (hz : i.zero = some z)
    (hsize : i.size = k) (hby : i.bytes = by_) (hzs : z.cells.size = k) (hk0 : 0 < k) (hs : a.eval s = .slice A n c)
    {bd : Addr} {m d : Nat} {ws : List Value} (hx : a.eval x = .slice (some bd) m d) (h : OV e k lo w A n c vs) (hlo : lo ≤ w.heap.size) (hl : ws.length = m * k)
    (hn : ∀ j u, ws[j]? = some u → w.cell? (bd.add j) = some u) (h1 : ∀ u ∈ ws, u.oneCell' = true) (hm : 0 < m) (h63 : n + m ≤ maxLen) (hb : (n + m) * by_ ≤ 140737488355328)
    (hK : ∀ g c' w', OV e k lo w' (some ⟨g, 0, none⟩) (n + m) c' (vs ++ ws) → w.grownBy w' (A.map (·.block)) → (A.map (·.block) = some g ∨ g = w.heap.size) → K (a.put o.dst (.slice (some ⟨g, 0, none⟩) (n + m) c')) w') : o.wp P a w K Q := by
  obtain ⟨g, c', w', hrun, h4, h5, h6⟩ := run_appV (P := P) t o.type i z ht hi hz hsize hby hzs hk0 h hlo bd m d ws hl hn h1 hm h63 hb
  unfold Oper.wp execOp
  simp only [ho, resolve, invoke, builtin, Sem.run_bind, Sem.run_pure, Result.andThen_ok, List.map_toArray, List.map_cons, List.map_nil, hs, hx, hrun]
  exact hK g c' w' h4 h5 h6
theorem wpList_appV {ops : Array Oper} {rest : List Oper} {o : Oper} {a : Act} {Q : Exit → Act → World → Prop} (hgd : o.guard = none) (s x : Operand) (t : TypeId)
    (ho : o.op = .call { callee := .builtin .append, args := #[s, x], argTypes := #[t, t] })
    (i : TypeInfo) (z : Value) (ht : P.underlying t = some (.slice e)) (hi : P.info? e = some i) (hz : i.zero = some z)
    (hsize : i.size = k) (hby : i.bytes = by_) (hzs : z.cells.size = k) (hk0 : 0 < k) (hs : a.eval s = .slice A n c)
    {bd : Addr} {m d : Nat} {ws : List Value} (hx : a.eval x = .slice (some bd) m d) (h : OV e k lo w A n c vs) (hlo : lo ≤ w.heap.size) (hl : ws.length = m * k)
    (hn : ∀ j u, ws[j]? = some u → w.cell? (bd.add j) = some u) (h1 : ∀ u ∈ ws, u.oneCell' = true) (hm : 0 < m) (h63 : n + m ≤ maxLen) (hb : (n + m) * by_ ≤ 140737488355328)
    (hK : ∀ g c' w', OV e k lo w' (some ⟨g, 0, none⟩) (n + m) c' (vs ++ ws) → w.grownBy w' (A.map (·.block)) → (A.map (·.block) = some g ∨ g = w.heap.size) → wpList P ops Q rest (a.put o.dst (.slice (some ⟨g, 0, none⟩) (n + m) c')) w') :
    wpList P ops Q (o :: rest) a w :=
  wpList_plain hgd fun _ hK' => wp_appV s x t ho i z ht hi hz hsize hby hzs hk0 hs hx h hlo hl hn h1 hm h63 hb fun g c' w' h4 h5 h6 => hK' _ _ (hK g c' w' h4 h5 h6)
end

/-- append(b, four bytes ..), the four in a new row. -/
theorem listApp4 {lo : Nat} {w : World} {A : Option Addr} {c : Nat} {l : List UInt8} {ops : Array Oper} {rest : List Oper} {o : Oper} {a : Act} {Q : Exit → Act → World → Prop} {g d : Nat} {m : List UInt8} {fr : Nat × Nat}
    (hgd : o.guard = none) (s x : Operand) (ho : o.op = .call { callee := .builtin .append, args := #[s, x], argTypes := #[24, 24] })
    (hs : a.eval s = .slice A l.length c) (hx : a.eval x = .slice (some ⟨g, 0, none⟩) m.length d) (h : OR 5 lo w A c l) (hlo : lo ≤ w.heap.size)
    (hg : w.heap[g]? = some (.cells (m.map cb).toArray 5 fr)) (hm : 0 < m.length) (hlen : l.length + m.length ≤ 70368744177664)
    (hK : ∀ g' c' w' L, Hid (L = l ++ m) → OR 5 lo w' (some ⟨g', 0, none⟩) c' L → w.grownBy w' (A.map (·.block)) → (A.map (·.block) = some g' ∨ g' = w.heap.size) →
      wpList Tryz.prog ops Q rest (a.put o.dst (.slice (some ⟨g', 0, none⟩) L.length c')) w') :
    wpList Tryz.prog ops Q (o :: rest) a w := by
  obtain ⟨i0, hi0, hz0, hz1, hz2⟩ := info_parts infoU8
  refine wpList_appV (ws := m.map cb) hgd s x _ ho i0 _ Tryz.underlying24 hi0 hz0 hz1 hz2 rfl (by omega) hs hx h.ov hlo (by simp) ?_ ?_ hm (by unfold maxLen; omega) (by omega) ?_
  · intro j u hu
    have e : (⟨g, 0, none⟩ : Addr).add j = ⟨g, j, none⟩ := by unfold Addr.add; split <;> simp_all
    rw [e]
    unfold World.cell?
    rw [hg]
    simpa using hu
  · intro u hu
    obtain ⟨b, _, rfl⟩ := List.mem_map.1 hu
    rfl
  · intro g' c' w' h4 h5 h6
    rw [← List.map_append] at h4
    have := hK g' c' w' (l ++ m) rfl (h4.or (by simp)) h5 h6
    rwa [List.length_append] at this
end Go.Proofs.YthfffbpcmlgoiaaGreatDoor

/- Plain mathematics of layer 7: values, their bytes, reading, order. No program is named. Own work. -/
namespace Go.Proofs.YthfffbpcmlgoiaaGreatDoor
namespace Codec

/-- A value: kind, number, bytes, elements. Functions go down by a depth. -/
inductive V where
  | mk (kind : Nat) (num : Int) (b : List UInt8) (l : List V)
def V.kind : V → Nat | .mk k _ _ _ => k
def V.num : V → Int | .mk _ n _ _ => n
def V.b : V → List UInt8 | .mk _ _ b _ => b
def V.l : V → List V | .mk _ _ _ l => l
def V.zero : V := .mk 0 0 [] []
theorem V.eta (v : V) : v = .mk v.kind v.num v.b v.l := by cases v; rfl
/-- Of the kinds that there are, not deeper than d. -/
def kinds : Nat → V → Bool
  | 0, _ => false
  | d + 1, v => match v.kind with
    | 1 => v.b.length = 0 && v.l.length = 0
    | 2 => v.num == 0 && v.l.length = 0
    | 3 => v.num == 0 && v.b.length = 0 && v.l.all (kinds d)
    | _ => false
/-- The code of a whole number. -/
def code (n : Nat) : List UInt8 := if n < 128 then [UInt8.ofNat n] else UInt8.ofNat (n % 128 + 128) :: code (n / 128)
termination_by n
decreasing_by omega
def fold (n : Int) : Nat := if 0 ≤ n then (2 * n).toNat else (-2 * n - 1).toNat
def unfold_ (x : Nat) : Int := if x % 2 = 0 then (x / 2 : Nat) else -((x / 2 : Nat) : Int) - 1
theorem unfold_fold (n : Int) : unfold_ (fold n) = n := by
  unfold unfold_ fold
  split <;> split <;> omega
theorem fold_unfold (x : Nat) : fold (unfold_ x) = x := by
  unfold unfold_ fold
  split <;> split <;> omega
/-- The bytes of a value that is not deeper than d. -/
def enc : Nat → V → List UInt8
  | 0, _ => []
  | d + 1, v => UInt8.ofNat v.kind :: match v.kind with
    | 1 => code (fold v.num)
    | 2 => code v.b.length ++ v.b
    | _ => code v.l.length ++ (v.l.map (enc d)).flatten
theorem code_small {n : Nat} (h : n < 128) : code n = [UInt8.ofNat n] := by rw [code, if_pos h]
theorem code_big {n : Nat} (h : ¬ n < 128) : code n = UInt8.ofNat (n % 128 + 128) :: code (n / 128) := by rw [code, if_neg h]
theorem code_pos (n : Nat) : 0 < (code n).length := by
  rw [code]; split <;> simp
/-- The number with whose code bytes begin, and how many bytes it has; it has no more bytes than are needed, and at most so many. -/
def take : Nat → List UInt8 → Option (Nat × Nat)
  | 0, _ => none
  | _ + 1, [] => none
  | k + 1, x :: t => if x.toNat < 128 then some (x.toNat, 1) else match take k t with
    | none => none
    | some (n, m) => if n = 0 then none else some (x.toNat - 128 + 128 * n, m + 1)
theorem take_code : ∀ (k n : Nat) (t : List UInt8), n < 128 ^ (k + 1) → take (k + 1) (code n ++ t) = some (n, (code n).length) := by
  intro k
  induction k with
  | zero =>
    intro n t h
    have hn : n < 128 := by simpa using h
    have e : (UInt8.ofNat n).toNat = n := by simp; omega
    rw [code_small hn]
    simp [take, e, hn]
  | succ k ih =>
    intro n t h
    by_cases hn : n < 128
    · rw [code_small hn]
      have e : (UInt8.ofNat n).toNat = n := by simp; omega
      simp [take, e, hn]
    · rw [code_big hn]
      have e : (UInt8.ofNat (n % 128 + 128)).toNat = n % 128 + 128 := by simp; omega
      have hd : n / 128 < 128 ^ (k + 1) := by
        rw [Nat.div_lt_iff_lt_mul (by decide)]
        rw [Nat.pow_succ] at h
        exact h
      rw [List.cons_append, take, e, ih _ t hd, if_neg (by omega)]
      simp only
      rw [if_neg (by omega)]
      simp only [List.length_cons]
      congr 2
      omega
theorem take_back : ∀ (k : Nat) (t : List UInt8) (n m : Nat), take k t = some (n, m) → n < 128 ^ k ∧ m = (code n).length ∧ t = code n ++ t.drop m := by
  intro k
  induction k with
  | zero => intro t n m h; simp [take] at h
  | succ k ih =>
    intro t n m h
    cases t with
    | nil => simp [take] at h
    | cons x t =>
      rw [take] at h
      have hx := x.toNat_lt
      split at h
      · rename_i h1
        cases h
        have e : UInt8.ofNat x.toNat = x := by simp
        rw [code_small h1, e]
        refine ⟨?_, rfl, rfl⟩
        have : 128 ^ 1 ≤ 128 ^ (k + 1) := Nat.pow_le_pow_right (by decide) (by omega)
        omega
      · rename_i h1
        split at h
        · cases h
        · rename_i n' m' h2
          split at h
          · cases h
          · rename_i h3
            cases h
            obtain ⟨a1, a2, a3⟩ := ih t n' m' h2
            have hb : ¬ (x.toNat - 128 + 128 * n') < 128 := by omega
            have hd : (x.toNat - 128 + 128 * n') / 128 = n' := by omega
            have hm : (x.toNat - 128 + 128 * n') % 128 + 128 = x.toNat := by omega
            have e : UInt8.ofNat x.toNat = x := by simp
            rw [code_big hb, hd, hm, e]
            refine ⟨?_, by rw [List.length_cons, a2], ?_⟩
            · rw [Nat.pow_succ]; omega
            · rw [List.drop_succ_cons, List.cons_append, ← a3]
/-- The whole number of 64 bits with whose code bytes begin. -/
def coded (t : List UInt8) : Option (Nat × Nat) := match take 10 t with
  | none => none
  | some (n, m) => if n < 18446744073709551616 then some (n, m) else none
theorem coded_code {n : Nat} (h : n < 18446744073709551616) (t : List UInt8) : coded (code n ++ t) = some (n, (code n).length) := by
  unfold coded
  rw [take_code 9 n t (Nat.lt_of_lt_of_le h (by decide))]
  exact if_pos h
theorem coded_back {t : List UInt8} {n m : Nat} (h : coded t = some (n, m)) : n < 18446744073709551616 ∧ m = (code n).length ∧ t = code n ++ t.drop m := by
  unfold coded at h
  split at h
  · cases h
  · rename_i n' m' h1
    split at h
    · rename_i h2
      cases h
      exact ⟨h2, (take_back 10 t _ _ h1).2⟩
    · cases h
mutual
/-- The value with which bytes begin, not deeper than d, and how many bytes it has. -/
def read : Nat → List UInt8 → Option (V × Nat)
  | 0, _ => none
  | _, [] => none
  | d + 1, x :: t => match coded t with
    | none => none
    | some (n, m) => match x.toNat with
      | 1 => some (.mk 1 (unfold_ n) [] [], m + 1)
      | 2 => if t.length - m < n then none else some (.mk 2 0 ((t.drop m).take n) [], m + 1 + n)
      | 3 => match reads d n (t.drop m) with
        | none => none
        | some (l, u) => some (.mk 3 0 [] l, m + 1 + u)
      | _ => none
termination_by d => (d, 0)
/-- So many values one behind the other. -/
def reads : Nat → Nat → List UInt8 → Option (List V × Nat)
  | _, 0, _ => some ([], 0)
  | d, n + 1, t => match read d t with
    | none => none
    | some (v, u) => match reads d n (t.drop u) with
      | none => none
      | some (l, q) => some (v :: l, u + q)
termination_by d n => (d, n + 1)
end
/-- Numbers of 64 bits, and lengths that there are. -/
def wf : Nat → V → Prop
  | 0, _ => False
  | d + 1, v => -9223372036854775808 ≤ v.num ∧ v.num ≤ 9223372036854775807 ∧ v.b.length < 9223372036854775808 ∧ v.l.length < 9223372036854775808 ∧ ∀ x ∈ v.l, wf d x
theorem kinds_cases {d : Nat} {v : V} (h : kinds (d + 1) v = true) :
    (∃ n, v = .mk 1 n [] []) ∨ (∃ b, v = .mk 2 0 b []) ∨ (∃ l, v = .mk 3 0 [] l ∧ ∀ x ∈ l, kinds d x = true) := by
  obtain ⟨k, n, b, l⟩ := v
  unfold kinds at h
  simp only [V.kind, V.num, V.b, V.l] at h
  split at h
  · simp at h
    obtain ⟨rfl, rfl⟩ := h
    exact .inl ⟨n, rfl⟩
  · simp at h
    obtain ⟨rfl, rfl⟩ := h
    exact .inr (.inl ⟨b, rfl⟩)
  · simp at h
    obtain ⟨⟨rfl, rfl⟩, h⟩ := h
    exact .inr (.inr ⟨l, rfl, h⟩)
  · cases h
theorem fold_lt {n : Int} (h1 : -9223372036854775808 ≤ n) (h2 : n ≤ 9223372036854775807) : fold n < 18446744073709551616 := by
  unfold fold; split <;> omega
theorem reads_enc {d : Nat} (hr : ∀ (v : V) (t : List UInt8), kinds d v = true → wf d v → read d (enc d v ++ t) = some (v, (enc d v).length)) :
    ∀ (l : List V) (t : List UInt8), (∀ x ∈ l, kinds d x = true) → (∀ x ∈ l, wf d x) → reads d l.length ((l.map (enc d)).flatten ++ t) = some (l, ((l.map (enc d)).flatten).length) := by
  intro l
  induction l with
  | nil => intro t _ _; rw [List.length_nil, reads]; rfl
  | cons v l ih =>
    intro t h1 h2
    rw [List.length_cons, reads]
    simp only [List.map_cons, List.flatten_cons, List.append_assoc]
    rw [hr v _ (h1 v (by simp)) (h2 v (by simp))]
    simp only [List.drop_left]
    rw [ih t (fun x hx => h1 x (by simp [hx])) (fun x hx => h2 x (by simp [hx]))]
    simp
theorem read_enc : ∀ (d : Nat) (v : V) (t : List UInt8), kinds d v = true → wf d v → read d (enc d v ++ t) = some (v, (enc d v).length) := by
  intro d
  induction d with
  | zero => intro v t h; simp [kinds] at h
  | succ d ih =>
    intro v t hk hw
    obtain ⟨w1, w2, w3, w4, w5⟩ := hw
    rcases kinds_cases hk with ⟨n, rfl⟩ | ⟨b, rfl⟩ | ⟨l, rfl, hl⟩
    · simp only [V.num] at w1 w2
      have e : enc (d + 1) (.mk 1 n [] []) = 1 :: code (fold n) := rfl
      rw [e, List.cons_append, read, coded_code (fold_lt w1 w2)]
      simp [unfold_fold]
    · simp only [V.b] at w3
      have e : enc (d + 1) (.mk 2 0 b []) = 2 :: (code b.length ++ b) := rfl
      rw [e, List.cons_append, List.append_assoc, read, coded_code (by omega)]
      simp
      omega
    · simp only [V.l] at w4 w5
      have e : enc (d + 1) (.mk 3 0 [] l) = 3 :: (code l.length ++ (l.map (enc d)).flatten) := rfl
      rw [e, List.cons_append, List.append_assoc, read, coded_code (by omega)]
      have := reads_enc ih l t hl w5
      simp [this]
      omega
theorem enc_pos {d : Nat} {v : V} (h : kinds d v = true) : 0 < (enc d v).length := by
  cases d with
  | zero => simp [kinds] at h
  | succ d => simp [enc]
theorem flat_ge {d : Nat} (l : List V) (h : ∀ x ∈ l, kinds d x = true) : l.length ≤ ((l.map (enc d)).flatten).length := by
  induction l with
  | nil => simp
  | cons v l ih =>
    have h1 := enc_pos (h v (by simp))
    have h2 := ih fun x hx => h x (by simp [hx])
    rw [List.map_cons, List.flatten_cons, List.length_append, List.length_cons]
    omega
theorem unfold_rng {x : Nat} (h : x < 18446744073709551616) : -9223372036854775808 ≤ unfold_ x ∧ unfold_ x ≤ 9223372036854775807 := by
  unfold unfold_; split <;> omega
theorem reads_back {d : Nat} (hr : ∀ (t : List UInt8) (v : V) (u : Nat), t.length < 9223372036854775808 → read d t = some (v, u) → kinds d v = true ∧ wf d v ∧ u = (enc d v).length ∧ t = enc d v ++ t.drop u) :
    ∀ (n : Nat) (t : List UInt8) (l : List V) (u : Nat), t.length < 9223372036854775808 → reads d n t = some (l, u) → l.length = n ∧ (∀ x ∈ l, kinds d x = true) ∧ (∀ x ∈ l, wf d x) ∧ u = ((l.map (enc d)).flatten).length ∧ t = (l.map (enc d)).flatten ++ t.drop u := by
  intro n
  induction n with
  | zero => intro t l u _ h; rw [reads] at h; cases h; simp
  | succ n ih =>
    intro t l u ht h
    rw [reads] at h
    split at h
    · cases h
    · rename_i v u1 h1
      split at h
      · cases h
      · rename_i l1 q h2
        cases h
        obtain ⟨a1, a2, a3, a4⟩ := hr t v u1 ht h1
        obtain ⟨b1, b2, b3, b4, b5⟩ := ih (t.drop u1) l1 q (by rw [List.length_drop]; omega) h2
        refine ⟨by rw [List.length_cons, b1], fun x hx => ?_, fun x hx => ?_, ?_, ?_⟩
        · rcases List.mem_cons.1 hx with rfl | hx
          · exact a1
          · exact b2 x hx
        · rcases List.mem_cons.1 hx with rfl | hx
          · exact a2
          · exact b3 x hx
        · rw [List.map_cons, List.flatten_cons, List.length_append, a3, b4]
        · rw [List.map_cons, List.flatten_cons, List.append_assoc, ← List.drop_drop, ← b5, ← a4]
theorem read_back : ∀ (d : Nat) (t : List UInt8) (v : V) (u : Nat), t.length < 9223372036854775808 → read d t = some (v, u) → kinds d v = true ∧ wf d v ∧ u = (enc d v).length ∧ t = enc d v ++ t.drop u := by
  intro d
  induction d with
  | zero => intro t v u _ h; rw [read] at h; cases h
  | succ d ih =>
    intro t v u ht h
    cases t with
    | nil => rw [read] at h; cases h; intro e; cases e
    | cons x t =>
      rw [List.length_cons] at ht
      rw [read] at h
      split at h
      · cases h
      · rename_i n m h1
        obtain ⟨a1, a2, a3⟩ := coded_back h1
        have hx : ∀ k, x.toNat = k → x = UInt8.ofNat k := fun k e => by rw [← e]; simp
        split at h
        · rename_i hk
          cases h
          obtain ⟨r1, r2⟩ := unfold_rng a1
          have e : enc (d + 1) (.mk 1 (unfold_ n) [] []) = 1 :: code (fold (unfold_ n)) := rfl
          rw [e, fold_unfold]
          refine ⟨rfl, ⟨r1, r2, by simp [V.b], by simp [V.l], by simp [V.l]⟩, by rw [List.length_cons, a2], ?_⟩
          rw [List.drop_succ_cons, List.cons_append, ← a3, hx 1 hk]
          rfl
        · rename_i hk
          split at h
          · cases h
          · rename_i hl
            cases h
            have e : ∀ b : List UInt8, enc (d + 1) (.mk 2 0 b []) = 2 :: (code b.length ++ b) := fun _ => rfl
            have hb : ((t.drop m).take n).length = n := by rw [List.length_take, List.length_drop]; omega
            rw [e, hb]
            refine ⟨rfl, ⟨by simp [V.num], by simp [V.num], by simp only [V.b, hb]; omega, by simp [V.l], by simp [V.l]⟩, by rw [List.length_cons, List.length_append, hb, a2]; omega, ?_⟩
            rw [show m + 1 + n = (m + n) + 1 by omega, List.drop_succ_cons, List.cons_append, List.append_assoc, ← List.drop_drop, List.take_append_drop, ← a3, hx 2 hk]
            rfl
        · rename_i hk
          split at h
          · cases h
          · rename_i l q h2
            cases h
            obtain ⟨b1, b2, b3, b4, b5⟩ := reads_back ih n (t.drop m) l q (by rw [List.length_drop]; omega) h2
            have e : ∀ l : List V, enc (d + 1) (.mk 3 0 [] l) = 3 :: (code l.length ++ (l.map (enc d)).flatten) := fun _ => rfl
            have hn : n < 9223372036854775808 := by
              have h3 := flat_ge l b2
              have h4 := congrArg List.length b5
              rw [List.length_append, List.length_drop, List.length_drop] at h4
              omega
            rw [e, b1]
            refine ⟨by simpa [kinds, V.kind, V.num, V.b, V.l] using b2, ⟨by simp [V.num], by simp [V.num], by simp [V.b], by simp only [V.l, b1]; exact hn, b3⟩, by rw [List.length_cons, List.length_append, a2, b4]; omega, ?_⟩
            rw [show m + 1 + q = (m + q) + 1 by omega, List.drop_succ_cons, List.cons_append, List.append_assoc, ← List.drop_drop, ← b5, ← a3, hx 3 hk]
            rfl
        · cases h
/-! What the functions of the package return. -/
def check (v : V) : Int := if kinds 6 v = false then 8 else if 3000 < (enc 6 v).length then 4 else 0
def size (v : V) : Int × Int := if check v ≠ 0 then (0, check v) else ((enc 6 v).length, 0)
def encode (v : V) : List UInt8 × Int := if check v ≠ 0 then ([], check v) else (enc 6 v, 0)
def next (t : List UInt8) : V × Int × Int := match read 6 t with
  | none => (V.zero, 0, 12)
  | some (v, u) => if 3000 < u then (V.zero, 0, 12) else (v, u, 0)
def decode (t : List UInt8) : V × Int := if (next t).2.2 ≠ 0 ∨ (next t).2.1 ≠ t.length then (V.zero, 12) else ((next t).1, 0)
theorem next_enc {v : V} (h : check v = 0) (hw : wf 6 v) (t : List UInt8) : next (enc 6 v ++ t) = (v, ((enc 6 v).length : Int), 0) := by
  unfold check at h
  split at h
  · cases h
  · rename_i h1
    split at h
    · cases h
    · rename_i h2
      unfold next
      rw [read_enc 6 v t (by simpa using h1) hw]
      simp only
      rw [if_neg h2]
theorem decode_enc {v : V} (h : check v = 0) (hw : wf 6 v) : decode (enc 6 v) = (v, 0) := by
  have := next_enc h hw []
  rw [List.append_nil] at this
  unfold decode
  rw [this]
  simp
theorem next_ok {t : List UInt8} (ht : t.length < 9223372036854775808) {v : V} {u : Int} (h : next t = (v, u, 0)) : check v = 0 ∧ wf 6 v ∧ u = (enc 6 v).length ∧ t = enc 6 v ++ t.drop (enc 6 v).length := by
  unfold next at h
  split at h
  · cases h
  · rename_i v' u' h1
    split at h
    · cases h
    · rename_i h2
      cases h
      obtain ⟨a1, a2, a3, a4⟩ := read_back 6 t _ _ ht h1
      subst a3
      refine ⟨?_, a2, rfl, a4⟩
      unfold check
      rw [a1, if_neg (by simp), if_neg h2]
/-- None begins with the bytes of another one. -/
theorem enc_prefix {v w : V} (hv : check v = 0) (hw : check w = 0) (wv : wf 6 v) (ww : wf 6 w) {t s : List UInt8} (h : enc 6 v ++ t = enc 6 w ++ s) : v = w := by
  have h1 := next_enc hv wv t
  have h2 := next_enc hw ww s
  rw [h, h2] at h1
  exact (Prod.mk.inj h1).1.symm
theorem next_cut {v : V} (hv : check v = 0) (wv : wf 6 v) {k : Nat} (hk : k < (enc 6 v).length) (hl : (enc 6 v).length < 9223372036854775808) : next ((enc 6 v).take k) = (V.zero, 0, 12) := by
  unfold next
  split
  · rfl
  · rename_i w u h1
    split
    · rfl
    · rename_i h2
      exfalso
      obtain ⟨a1, a2, a3, a4⟩ := read_back 6 _ _ _ (by rw [List.length_take]; omega) h1
      have hw : check w = 0 := by
        unfold check
        rw [a1, if_neg (by simp), if_neg (by rw [← a3]; exact h2)]
      have e : enc 6 w ++ (((enc 6 v).take k).drop u ++ (enc 6 v).drop k) = enc 6 v ++ [] := by
        rw [← List.append_assoc, ← a4, List.take_append_drop, List.append_nil]
      have := enc_prefix hw hv a2 wv e
      subst this
      have h3 := congrArg List.length a4
      rw [List.length_append, List.length_take] at h3
      omega
/-! Only the first bytes count. -/
theorem read_take {d : Nat} {t : List UInt8} {k : Nat} {v : V} {u : Nat} (ht : t.length < 9223372036854775808) (h : read d t = some (v, u)) (hu : u ≤ k) : read d (t.take k) = some (v, u) := by
  obtain ⟨a1, a2, a3, a4⟩ := read_back d t v u ht h
  have e : t.take k = enc d v ++ (t.drop u).take (k - u) := by
    have e2 : (enc d v ++ t.drop u).take k = enc d v ++ (t.drop u).take (k - u) := by
      rw [List.take_append, List.take_of_length_le (show (enc d v).length ≤ k by omega), ← a3]
    exact (congrArg (List.take k) a4).trans e2
  rw [e, read_enc d v _ a1 a2, a3]
theorem read_more {d : Nat} {t : List UInt8} {k : Nat} {v : V} {u : Nat} (ht : t.length < 9223372036854775808) (h : read d (t.take k) = some (v, u)) : read d t = some (v, u) ∧ u ≤ k := by
  obtain ⟨a1, a2, a3, a4⟩ := read_back d _ v u (by rw [List.length_take]; omega) h
  have e : t = enc d v ++ ((t.take k).drop u ++ t.drop k) := by
    rw [← List.append_assoc, ← a4, List.take_append_drop]
  refine ⟨?_, ?_⟩
  · have := read_enc d v ((t.take k).drop u ++ t.drop k) a1 a2
    rw [← e, ← a3] at this
    exact this
  · have := congrArg List.length a4
    rw [List.length_append, List.length_take] at this
    omega
theorem next_of_cut {t : List UInt8} (ht : t.length < 9223372036854775808) : next t = match read 6 (t.take 3000) with
    | none => (V.zero, 0, 12)
    | some (v, u) => (v, (u : Int), 0) := by
  unfold next
  rcases h : read 6 (t.take 3000) with _ | ⟨v, u⟩
  · rcases h2 : read 6 t with _ | ⟨v, u⟩
    · rfl
    · simp only
      rw [if_pos]
      refine Nat.lt_of_not_le fun hu => ?_
      rw [read_take ht h2 hu] at h
      cases h
  · obtain ⟨h1, h2⟩ := read_more ht h
    rw [h1]
    simp only
    rw [if_neg (by omega)]
end Codec
end Go.Proofs.YthfffbpcmlgoiaaGreatDoor

/- Values of the codec in memory. Own work. -/
namespace Go.Proofs.YthfffbpcmlgoiaaGreatDoor
open Go.RowKit
open Codec (V)

/-- The bytes l lie at A, in a block of S. -/
def RS (w : World) (S : Nat → Prop) (A : Option Addr) (l : List UInt8) : Prop :=
  0 < l.length → ∃ ad, A = some ad ∧ S ad.block ∧ ∀ i (h : i < l.length), w.cell? (ad.add i) = some (cb l[i])
section
variable {w w' : World} {S S' : Nat → Prop} {A : Option Addr} {l : List UInt8} {lo : Nat}
theorem RS.nil : RS w S A [] := fun h => absurd h (by simp)
theorem RS.mono (h : RS w S A l) (k : ∀ g, S g → S' g) : RS w S' A l := fun hl => by
  obtain ⟨ad, h1, h2, h3⟩ := h hl; exact ⟨ad, h1, k _ h2, h3⟩
theorem RS.mono' (k : ∀ g, S g → S' g) (h : RS w S A l) : RS w S' A l := h.mono k
theorem RS.keep (h : RS w S A l) (k : ∀ g, S g → g < w.heap.size → w'.heap[g]? = w.heap[g]?) : RS w' S A l := fun hl => by
  obtain ⟨ad, h1, h2, h3⟩ := h hl
  refine ⟨ad, h1, h2, fun i hi => (World.cell?_of_block (k _ ?_ (cell_lt (h3 i hi)))).trans (h3 i hi)⟩
  rw [addr_add_block]; exact h2
theorem RS.rb (h : RS w S A l) : RB w 0 A l := fun hl => by
  obtain ⟨ad, h1, h2, h3⟩ := h hl; exact ⟨ad, h1, Nat.zero_le _, h3⟩
theorem RB.rs (h : RB w lo A l) (k : ∀ g, lo ≤ g → S g) : RS w S A l := fun hl => by
  obtain ⟨ad, h1, h2, h3⟩ := h hl; exact ⟨ad, h1, k _ h2, h3⟩
/-- s[k:] -/
theorem RS.cut (h : RS w S A l) (k cap : Nat) (hc : l.length ≤ cap) : RS w S (cutA A cap k) (l.drop k) := by
  intro hl
  rw [List.length_drop] at hl
  obtain ⟨ad, rfl, h2, h3⟩ := h (by omega)
  unfold cutA
  rw [if_neg (by omega)]
  refine ⟨ad.add k, rfl, by rw [addr_add_block]; exact h2, fun i hi => ?_⟩
  rw [addr_add_add]
  rw [List.length_drop] at hi
  rw [List.getElem_drop]
  exact h3 _ (by omega)
/-- s[:k] -/
theorem RS.take (h : RS w S A l) (k : Nat) : RS w S A (l.take k) := by
  intro hl
  rw [List.length_take] at hl
  obtain ⟨ad, rfl, h2, h3⟩ := h (by omega)
  refine ⟨ad, rfl, h2, fun i hi => ?_⟩
  rw [List.length_take] at hi
  rw [List.getElem_take]
  exact h3 _ (by omega)
theorem RS.ab (h : RS w S A l) (k : Ab w w') : RS w' S A l := h.keep fun g _ hg => k.out.block g hg
theorem RS.setb {p : Addr} (h : RS w S A l) (hp : ¬ S p.block) (u : Value) : RS (w.setCell p u) S A l :=
  h.keep fun g hS _ => Below.heap_setCell w p u g (fun e => hp (e ▸ hS))
/-- Bytes lie in a block that there is. -/
theorem RS.lt (h : RS w S A l) : RS w (fun g => S g ∧ g < w.heap.size) A l := fun hl => by
  obtain ⟨ad, h1, h2, h3⟩ := h hl
  have := cell_lt (h3 0 hl)
  rw [addr_add_block] at this
  exact ⟨ad, h1, ⟨h2, this⟩, h3⟩
end

/-- A value as it lies in memory: where its bytes and its elements lie. -/
structure VM where
  kind : Nat
  num : Int
  A : Option Addr
  b : List UInt8
  c : Nat
  L : Option Addr
  l : List V
  d : Nat
def VM.v (x : VM) : V := .mk x.kind x.num x.b x.l
def VM.cells (x : VM) : List Value := [.int .u8 (x.kind : Int), .int .i64 x.num, .slice x.A x.b.length x.c, .slice x.L x.l.length x.d]
def VM.val (x : VM) : Value := .agg x.cells.toArray
def VM.zero : VM := ⟨0, 0, none, [], 0, none, [], 0⟩
theorem VM.len (x : VM) : x.cells.length = 4 := rfl
theorem VM.one (x : VM) : x.cells.all (·.oneCell') = true := rfl
/-- The value x, not deeper than d, lies in w, its bytes and its elements in blocks of S. -/
def VL : Nat → World → (Nat → Prop) → VM → Prop
  | 0, _, _, _ => False
  | d + 1, w, S, x => (x.kind < 256 ∧ -9223372036854775808 ≤ x.num ∧ x.num ≤ 9223372036854775807 ∧ x.b.length ≤ x.c ∧ x.b.length ≤ 9223372036854775807 ∧ x.l.length ≤ x.d ∧ x.l.length ≤ 9223372036854775807) ∧ RS w S x.A x.b ∧
      (0 < x.l.length → ∃ g o, x.L = some ⟨g, o, none⟩ ∧ S g ∧ ∀ i (h : i < x.l.length), ∃ y : VM, y.v = x.l[i] ∧ w.rangeAt g (o + i * 4) y.cells ∧ VL d w S y)
theorem VL.mono {w : World} {S S' : Nat → Prop} (k : ∀ g, S g → S' g) : ∀ {d : Nat} {x : VM}, VL d w S x → VL d w S' x := by
  intro d
  induction d with
  | zero => intro x h; exact h.elim
  | succ d ih =>
    intro x h
    refine ⟨h.1, h.2.1.mono k, fun hl => ?_⟩
    obtain ⟨g, o, h1, h2, h3⟩ := h.2.2 hl
    exact ⟨g, o, h1, k _ h2, fun i hi => by obtain ⟨y, y1, y2, y3⟩ := h3 i hi; exact ⟨y, y1, y2, ih y3⟩⟩
theorem VL.keep {w w' : World} {S : Nat → Prop} (k : ∀ g, S g → g < w.heap.size → w'.heap[g]? = w.heap[g]?) : ∀ {d : Nat} {x : VM}, VL d w S x → VL d w' S x := by
  intro d
  induction d with
  | zero => intro x h; exact h.elim
  | succ d ih =>
    intro x h
    refine ⟨h.1, h.2.1.keep k, fun hl => ?_⟩
    obtain ⟨g, o, h1, h2, h3⟩ := h.2.2 hl
    refine ⟨g, o, h1, h2, fun i hi => ?_⟩
    obtain ⟨y, y1, y2, y3⟩ := h3 i hi
    refine ⟨y, y1, fun j v hv => ?_, ih y3⟩
    have hc := y2 j v hv
    exact (World.cell?_of_block (k g h2 (cell_lt hc))).trans hc
theorem VL.succ {w : World} {S : Nat → Prop} : ∀ {d : Nat} {x : VM}, VL d w S x → VL (d + 1) w S x := by
  intro d
  induction d with
  | zero => intro x h; exact h.elim
  | succ d ih =>
    intro x h
    refine ⟨h.1, h.2.1, fun hl => ?_⟩
    obtain ⟨g, o, h1, h2, h3⟩ := h.2.2 hl
    exact ⟨g, o, h1, h2, fun i hi => by obtain ⟨y, y1, y2, y3⟩ := h3 i hi; exact ⟨y, y1, y2, ih y3⟩⟩
theorem VL.le {w : World} {S : Nat → Prop} {d e : Nat} {x : VM} (h : VL d w S x) (k : d ≤ e) : VL e w S x := by
  induction e with
  | zero => obtain rfl : d = 0 := by omega
            exact h
  | succ e ih =>
    by_cases he : d = e + 1
    · subst he; exact h
    · exact (ih (by omega)).succ
/-- What lies there lies in blocks that there are. -/
theorem VL.lt {w : World} {S : Nat → Prop} : ∀ {d : Nat} {x : VM}, VL d w S x → VL d w (fun g => S g ∧ g < w.heap.size) x := by
  intro d
  induction d with
  | zero => intro x h; exact h.elim
  | succ d ih =>
    intro x h
    refine ⟨h.1, h.2.1.lt, fun hl => ?_⟩
    obtain ⟨g, o, h1, h2, h3⟩ := h.2.2 hl
    refine ⟨g, o, h1, ⟨h2, ?_⟩, fun i hi => by obtain ⟨y, y1, y2, y3⟩ := h3 i hi; exact ⟨y, y1, y2, ih y3⟩⟩
    obtain ⟨y, _, y2, _⟩ := h3 0 hl
    exact cell_lt (y2 0 _ rfl)
section
variable {w w' : World} {S S' : Nat → Prop} {d : Nat} {x : VM}
theorem VL.ab (h : VL d w S x) (k : Ab w w') : VL d w' S x := h.keep fun g _ hg => k.out.block g hg
theorem VL.grown (h : VL d w S x) {r : Option Nat} (k : w.grownBy w' r) (hr : ∀ g, r = some g → ¬ S g) : VL d w' S x :=
  h.keep fun g hS hg => k.block g hg fun e => hr g e.symm hS
theorem VL.kd (h : VL d w S x) : x.kind < 256 := by
  cases d with
  | zero => exact h.elim
  | succ d => exact h.1.1
end
/-- The elements of a list. -/
def VLs (d : Nat) (w : World) (S : Nat → Prop) (L : Option Addr) (l : List V) : Prop :=
  0 < l.length → ∃ g o, L = some ⟨g, o, none⟩ ∧ S g ∧ ∀ i (h : i < l.length), ∃ y : VM, y.v = l[i] ∧ w.rangeAt g (o + i * 4) y.cells ∧ VL d w S y
theorem VLs.keep {w w' : World} {S : Nat → Prop} {d : Nat} {L : Option Addr} {l : List V} (h : VLs d w S L l) (k : ∀ g, S g → g < w.heap.size → w'.heap[g]? = w.heap[g]?) : VLs d w' S L l := fun hl => by
  obtain ⟨g, o, h1, h2, h3⟩ := h hl
  refine ⟨g, o, h1, h2, fun i hi => ?_⟩
  obtain ⟨y, y1, y2, y3⟩ := h3 i hi
  refine ⟨y, y1, fun j v hv => ?_, y3.keep k⟩
  have hc := y2 j v hv
  exact (World.cell?_of_block (k g h2 (cell_lt hc))).trans hc
theorem VLs.mono {w : World} {S S' : Nat → Prop} {d : Nat} {L : Option Addr} {l : List V} (k : ∀ g, S g → S' g) (h : VLs d w S L l) : VLs d w S' L l := fun hl => by
  obtain ⟨g, o, h1, h2, h3⟩ := h hl
  exact ⟨g, o, h1, k _ h2, fun i hi => by obtain ⟨y, y1, y2, y3⟩ := h3 i hi; exact ⟨y, y1, y2, y3.mono k⟩⟩
theorem VL.els {w : World} {S : Nat → Prop} {d : Nat} {x : VM} (h : VL (d + 1) w S x) : VLs d w S x.L x.l := h.2.2
theorem VL.bytes {w : World} {S : Nat → Prop} {d : Nat} {x : VM} (h : VL (d + 1) w S x) : RS w S x.A x.b := h.2.1
end Go.Proofs.YthfffbpcmlgoiaaGreatDoor
