/- The texts CrcInt, Mem, Mem2, PostB, Post, Try1, Last, Lit, Make, FrMem, FrRec, FrRec2, Auto, one behind the other. Own work. -/
import Derived.Laws.Entries
import Derived.Test.YthgcfjhnnhigoaaGreatGA
import Derived.WalkKit
import Derived.WalkSpells
import Derived.Deep.QuietTactic
import Derived.BigQuiet
import Derived.Deep.AppendLies
import Derived.Deep.Draws
import Derived.Lib.Hide
import Derived.Maps.AppendAt
import Derived.RegionTactic
import Derived.OwnWalk
import Derived.Deep.RegionHeld3
import Derived.Lib.AppendZeros
import Derived.Test.YthgcfjhnnhigoaaGreatProg
import Derived.StillTail
import Derived.Lib.SlBytesConst
import Derived.Lib.SmallJoins
import Derived.Laws.IdiomStrings
import Derived.Laws.MakeOwn
import Derived.Laws.OwnMore
import Derived.Deep.RegionHeld
set_option linter.unusedVariables false
set_option linter.unusedSimpArgs false
/- Go's operations on uint32, as those on registers. Own work. -/
namespace Go.Proofs.YthgcfjhnnhigoaaGreat

theorem ofInt_reg (a : BitVec 32) : BitVec.ofInt 32 ((a.toNat : Nat) : Int) = a := by
  rw [BitVec.ofInt_natCast]; simp
theorem wrap_reg (a : BitVec 32) : IntKind.u32.wrap ((a.toNat : Nat) : Int) = (a.toNat : Int) := by
  have := a.isLt
  simp [IntKind.wrap, IntKind.bits, IntKind.signed]; omega
theorem bx_xor (a b : BitVec 32) : bits .xor .u32 (a.toNat : Int) (b.toNat : Int) = ((a ^^^ b).toNat : Int) := by
  show IntKind.u32.wrap ((BitVec.ofInt 32 (a.toNat : Int) ^^^ BitVec.ofInt 32 (b.toNat : Int)).toNat : Int) = _
  rw [ofInt_reg, ofInt_reg, wrap_reg]
theorem bx_and (a b : BitVec 32) : bits .and .u32 (a.toNat : Int) (b.toNat : Int) = ((a &&& b).toNat : Int) := by
  show IntKind.u32.wrap ((BitVec.ofInt 32 (a.toNat : Int) &&& BitVec.ofInt 32 (b.toNat : Int)).toNat : Int) = _
  rw [ofInt_reg, ofInt_reg, wrap_reg]
theorem bx_or (a b : BitVec 32) : bits .or .u32 (a.toNat : Int) (b.toNat : Int) = ((a ||| b).toNat : Int) := by
  show IntKind.u32.wrap ((BitVec.ofInt 32 (a.toNat : Int) ||| BitVec.ofInt 32 (b.toNat : Int)).toNat : Int) = _
  rw [ofInt_reg, ofInt_reg, wrap_reg]
theorem reg_ofB (b : UInt8) : ((b.toNat : Nat) : Int) % 4294967296 = ((Crc.ofB b).toNat : Int) := by
  have := b.toNat_lt
  unfold Crc.ofB
  rw [BitVec.toNat_ofNat]; omega
theorem reg_shr (a : BitVec 32) (k : Nat) : ((a.toNat : Nat) : Int) / 2 ^ k = ((a >>> k).toNat : Int) := by
  rw [BitVec.toNat_ushiftRight, Nat.shiftRight_eq_div_pow]
  norm_cast
theorem reg_neg (a : BitVec 32) : IntKind.u32.wrap (-((a.toNat : Nat) : Int)) = ((-a).toNat : Int) := by
  have := a.isLt
  rw [BitVec.toNat_neg]
  simp [IntKind.wrap, IntKind.bits, IntKind.signed]
  omega
theorem poly_lit : (3988292384 : Int) = (Crc.poly.toNat : Int) := by decide
theorem one_lit : (1 : Int) = ((1#32).toNat : Int) := by decide
theorem and_one (x : BitVec 32) : x &&& 1#32 = if x.getLsbD 0 then 1#32 else 0#32 := by
  ext i hi
  by_cases h0 : i = 0
  · subst h0; simp; split <;> simp_all
  · simp; split <;> simp [h0] <;> omega
theorem reg_neg' (a : BitVec 32) : -((a.toNat : Nat) : Int) % 4294967296 = ((-a).toNat : Int) := by
  rw [← reg_neg]; simp [IntKind.wrap, IntKind.bits, IntKind.signed]
theorem reg_half (a : BitVec 32) : (a.toNat : Int) / (2 : Int) = ((a >>> 1).toNat : Int) := by
  have := reg_shr a 1
  simpa using this
/-- taken & -(r & 1) -/
theorem masked (m x : BitVec 32) : m &&& -(x &&& 1#32) = if x.getLsbD 0 then m else 0#32 := by
  rw [and_one]
  cases x.getLsbD 0 <;> simp
  show m &&& BitVec.allOnes 32 = m
  rw [BitVec.and_allOnes]
theorem step_form (x : BitVec 32) :
    bits .xor .u32 ((x.toNat : Int) / 2) (bits .and .u32 3988292384 (-bits .and .u32 (x.toNat : Int) 1 % 4294967296)) = ((Crc.S x).toNat : Int) := by
  rw [one_lit, poly_lit, bx_and, reg_neg', bx_and, reg_half, bx_xor, masked]
  rfl
theorem bit_form (b : UInt8) (j : Nat) : bits .and .u32 ((b.toNat : Int) % 4294967296 / 2 ^ j) 1 = ((Crc.bitOf b j).toNat : Int) := by
  rw [reg_ofB, reg_shr, one_lit, bx_and]
  unfold Crc.bitOf
  exact Eq.refl _
theorem not_form (x : BitVec 32) : bits .xor .u32 IntKind.u32.max (x.toNat : Int) = ((~~~ x).toNat : Int) := by
  show bits .xor .u32 (((BitVec.allOnes 32).toNat : Nat) : Int) (x.toNat : Int) = _
  rw [bx_xor, BitVec.allOnes_xor]
theorem ones_lit : (4294967295 : Int) = ((~~~ 0#32).toNat : Int) := by decide
theorem ret_pair {k k' : IntKind} {a b c d : Int} (h : a = b) (h' : c = d) : Ending.returned (.tuple #[.int k a, .int k' c]) = .returned (.tuple #[.int k b, .int k' d]) := by rw [h, h']
theorem test_form (r x : BitVec 32) : (bits .and .u32 (bits .xor .u32 (r.toNat : Int) (x.toNat : Int)) 1 == 1) = (r ^^^ x).getLsbD 0 := by
  rw [bx_xor]
  conv in (1 : Int) => rw [one_lit]
  rw [bx_and, and_one]
  cases (r ^^^ x).getLsbD 0 <;> rfl
theorem step_two (r x : BitVec 32) (hx : x.toNat ≤ 1) : Crc.S (r ^^^ x) = (r >>> 1) ^^^ (if (r ^^^ x).getLsbD 0 then Crc.poly else 0#32) := by
  unfold Crc.S
  congr 1
  rw [BitVec.ushiftRight_xor_distrib]
  have : x >>> 1 = 0#32 := by
    apply BitVec.eq_of_toNat_eq
    rw [BitVec.toNat_ushiftRight, Nat.shiftRight_eq_div_pow]
    show x.toNat / 2 = 0
    omega
  rw [this, BitVec.xor_zero]
theorem step_yes (r x : BitVec 32) (hx : x.toNat ≤ 1) (h : (r ^^^ x).getLsbD 0 = true) : bits .xor .u32 ((r.toNat : Int) / 2) 3988292384 = ((Crc.S (r ^^^ x)).toNat : Int) := by
  rw [step_two r x hx, if_pos h, reg_half, poly_lit, bx_xor]
theorem step_no (r x : BitVec 32) (hx : x.toNat ≤ 1) (h : (r ^^^ x).getLsbD 0 = false) : (r.toNat : Int) / (2 : Int) = ((Crc.S (r ^^^ x)).toNat : Int) := by
  rw [step_two r x hx, h, reg_half]; simp
end Go.Proofs.YthgcfjhnnhigoaaGreat

/- Memory words of this seat's proofs: a slice of bytes that reads as a list; worlds above a base. Own work. -/
namespace Go.Proofs.YthgcfjhnnhigoaaGreat
open Go.RowKit

/-- Nothing that was there has changed. -/
def Ab (w w' : World) : Prop := Below w.heap.size w w'
theorem Ab.out {w w' : World} (h : Ab w w') : Below w.heap.size w w' := h
theorem Ab.refl (w : World) : Ab w w := Below.refl _ _
theorem Ab.size {w w' : World} (h : Ab w w') : w.heap.size ≤ w'.heap.size := h.out.size
theorem Ab.trans {a b c : World} (h : Ab a b) (k : Ab b c) : Ab a c := Below.trans h.out (k.out.mono h.size)
theorem Ab.drew {a b : World} (h : Ab a b) : Ab a b.drew := Below.drew h.out
theorem Ab.drewN {a b : World} (h : Ab a b) (n : Nat) : Ab a (b.drewN n) := ⟨h.out.os, h.out.tape, h.out.output, h.out.size, h.out.block⟩
theorem Ab.alloc {a b : World} (h : Ab a b) (o : Obj) : Ab a (b.alloc o) := Below.alloc h.out h.size o
theorem Ab.set {a b : World} (h : Ab a b) {p : Addr} (hp : a.heap.size ≤ p.block) (u : Value) : Ab a (b.setCell p u) := Below.setCell h.out hp u
theorem cell_lt {w : World} {p : Addr} {v : Value} (h : w.cell? p = some v) : p.block < w.heap.size := by
  rcases Nat.lt_or_ge p.block w.heap.size with h' | h'
  · exact h'
  · simp [World.cell?, Array.getElem?_eq_none h'] at h
theorem Ab.at {w w' : World} (h : Ab w w') {p : Addr} {v : Value} (hc : w.cell? p = some v) : w'.cell? p = some v :=
  (h.out.cell (cell_lt hc)).trans hc
theorem Ab.frozen {w w' : World} (h : Ab w w') {p : Addr} (hp : p.block < w.heap.size) : w'.frozen? p = w.frozen? p := h.out.frozen hp

theorem Ab.fr {w w' : World} (h : Ab w w') {p : Addr} (hp : p.block < w.heap.size) (hf : w.frozen? p = false) : w'.frozen? p = false := (h.frozen hp).trans hf

theorem fr_alloc {W : World} {p : Addr} {o : Obj} (hp : p.block < W.heap.size) (hf : W.frozen? p = false) : (W.alloc o).frozen? p = false := ((Ab.refl W).alloc o).fr hp hf

/-- The cell of a byte. -/
def cb (b : UInt8) : Value := .int .u8 (b.toNat : Int)

theorem addr_add_block (a : Addr) (n : Nat) : (a.add n).block = a.block := by unfold Addr.add; split <;> rfl
theorem addr_add_add (a : Addr) (i j : Nat) : (a.add i).add j = a.add (i + j) := by
  unfold Addr.add
  by_cases hi : i = 0 <;> by_cases hj : j = 0 <;> simp [hi, hj, Nat.add_assoc]

/-- The bytes l lie at A (nothing is asked where there are none), in blocks from lo on. -/
def RB (w : World) (lo : Nat) (A : Option Addr) (l : List UInt8) : Prop :=
  0 < l.length → ∃ ad, A = some ad ∧ lo ≤ ad.block ∧ ∀ i (h : i < l.length), w.cell? (ad.add i) = some (cb l[i])

section
variable {w w' : World} {lo lo' : Nat} {A : Option Addr} {l : List UInt8}
theorem RB.nil : RB w lo A [] := fun h => absurd h (by simp)
theorem RB.ab (h : RB w lo A l) (hk : Ab w w') : RB w' lo A l := by
  intro hl
  obtain ⟨ad, h1, h2, h3⟩ := h hl
  exact ⟨ad, h1, h2, fun i hi => hk.at (h3 i hi)⟩
theorem RB.mono (h : RB w lo A l) (hlo : lo' ≤ lo) : RB w lo' A l := fun hl => by
  obtain ⟨ad, h1, h2, h3⟩ := h hl; exact ⟨ad, h1, by omega, h3⟩
theorem RB.zero (h : RB w lo A l) : RB w 0 A l := h.mono (Nat.zero_le _)
theorem RB.cell (h : RB w lo A l) {i : Nat} (hi : i < l.length) {ad : Addr} (hA : A = some ad) : w.cell? (ad.add i) = some (.int .u8 (l[i].toNat : Int)) := by
  obtain ⟨ad', h1, _, h3⟩ := h (by omega)
  rw [hA] at h1; cases h1; exact h3 i hi
/-- s[k:] -/
theorem RB.drop (h : RB w lo A l) (k cap : Nat) (hc : l.length ≤ cap) : RB w lo (if cap = k then A else A.map (·.add k)) (l.drop k) := by
  intro hl
  rw [List.length_drop] at hl
  obtain ⟨ad, rfl, h2, h3⟩ := h (by omega)
  rw [if_neg (by omega)]
  refine ⟨ad.add k, rfl, by rw [addr_add_block]; exact h2, fun i hi => ?_⟩
  rw [addr_add_add]
  rw [List.length_drop] at hi
  rw [List.getElem_drop]
  exact h3 _ (by omega)
/-- The address of s[k:]. -/
def cutA (a : Option Addr) (cap k : Nat) : Option Addr := if cap = k then a else a.map (·.add k)
theorem RB.cut (h : RB w lo A l) (k cap : Nat) (hc : l.length ≤ cap) : RB w lo (cutA A cap k) (l.drop k) := h.drop k cap hc
/-- s[:k] -/
theorem RB.take (h : RB w lo A l) (k : Nat) : RB w lo A (l.take k) := by
  intro hl
  rw [List.length_take] at hl
  obtain ⟨ad, rfl, h2, h3⟩ := h (by omega)
  refine ⟨ad, rfl, h2, fun i hi => ?_⟩
  rw [List.length_take] at hi
  rw [List.getElem_take]
  exact h3 _ (by omega)
end


/-- The call's own row of bytes (element type e), in blocks from lo on. -/
def OR (e : TypeId) (lo : Nat) (w : World) (A : Option Addr) (c : Nat) (l : List UInt8) : Prop := w.ownsRow lo e 1 (.slice A l.length c) l.length (l.map cb)

section
variable {e : TypeId} {lo lo' : Nat} {W w w' : World} {A : Option Addr} {c : Nat} {l : List UInt8}
theorem OR.out (h : OR e lo w A c l) : w.ownsRow lo e 1 (.slice A l.length c) l.length (l.map cb) := h
theorem OR.rb (h : OR e lo w A c l) : RB w lo A l := by
  intro hl
  rcases h.out.2 with ⟨_, h0⟩ | ⟨g, cap, cur, hv, hb, _⟩
  · omega
  · have hA : A = some ⟨g, 0, none⟩ := by injection hv
    refine ⟨_, hA, hb, fun i hi => ?_⟩
    exact h.out.cells (g := g) (by rw [hA]; rfl) i _ (by simp [hi])
theorem OR.le (h : OR e lo w A c l) : l.length ≤ c := by
  rcases h.out.2 with ⟨hv, h0⟩ | ⟨g, cap, cur, hv, _, _, hn, _⟩
  · injection hv; omega
  · injection hv; omega
theorem OR.block (h : OR e lo w A c l) (hk : ∀ g, lo ≤ g → g < w.heap.size → w'.heap[g]? = w.heap[g]?) : OR e lo w' A c l := by
  refine ⟨h.out.1, ?_⟩
  rcases h.out.2 with h0 | ⟨g, cap, cur, hv, hb, hh, r⟩
  · exact .inl h0
  · refine .inr ⟨g, cap, cur, hv, hb, ?_, r⟩
    have hlt : g < w.heap.size := by
      rcases Nat.lt_or_ge g w.heap.size with h | h
      · exact h
      · rw [Array.getElem?_eq_none h] at hh; cases hh
    rw [hk g hb hlt]; exact hh
theorem OR.keep (h : OR e lo w A c l) (hk : Ab w w') : OR e lo w' A c l := h.block fun g _ hg => hk.out.block g hg
theorem OR.drew (h : OR e lo w A c l) : OR e lo w.drew A c l := h
theorem OR.drewN (h : OR e lo w A c l) (n : Nat) : OR e lo (w.drewN n) A c l := h
theorem OR.alloc (h : OR e lo w A c l) (o : Obj) : OR e lo (w.alloc o) A c l := h.keep ((Ab.refl w).alloc o)
theorem OR.set (h : OR e lo w A c l) {p : Addr} (hp : p.block < lo) (u : Value) : OR e lo (w.setCell p u) A c l :=
  h.block fun g hg _ => Below.heap_setCell w p u g (by omega)
theorem OR.setNew (h : OR e lo w A c l) {p : Addr} (o : Obj) (hp : w.heap.size ≤ p.block) (u : Value) : OR e lo ((w.alloc o).setCell p u) A c l :=
  h.block fun g _ hg => by rw [Below.heap_setCell _ p u g (by omega), Below.heap_alloc w o g hg]
theorem OR.mono (h : OR e lo w A c l) (hl : lo' ≤ lo) : OR e lo' w A c l := by
  refine ⟨h.out.1, ?_⟩
  rcases h.out.2 with h1 | ⟨g, cap, cur, hv, hb, r⟩
  · exact .inl h1
  · exact .inr ⟨g, cap, cur, hv, Nat.le_trans hl hb, r⟩
theorem OR.lit_at {g : Nat} (hb : lo ≤ g) (hg : w.heap[g]? = some (.cells #[] e (0, 0))) : OR e lo w (some ⟨g, 0, none⟩) 0 [] :=
  ⟨rfl, .inr ⟨g, 0, #[], rfl, hb, hg, Nat.le_refl _, by unfold maxLen; omega, rfl, rfl⟩⟩
theorem OR.none_ : OR e lo w none 0 [] := World.ownsRow_nil _ _ _ _
theorem new_drew {W : World} {o : Obj} {n : Nat} (h : W.heap.size = n) : (W.alloc o).drew.heap[n]? = some o := by subst h; exact heap_alloc_new W o
theorem new_plain {W : World} {o : Obj} {n : Nat} (h : W.heap.size = n) : (W.alloc o).heap[n]? = some o := by subst h; exact heap_alloc_new W o
theorem new_drewN {W : World} {o : Obj} {n k : Nat} (h : W.heap.size = n) : ((W.alloc o).drewN k).heap[n]? = some o := by subst h; exact heap_alloc_new W o

theorem cell_alloc {W : World} {p : Addr} {v : Value} {o : Obj} (h : W.cell? p = some v) : (W.alloc o).cell? p = some v :=
  (World.cell?_alloc_lt W o p (cell_lt h)).trans h
theorem cell_drew {W : World} {p : Addr} {v : Value} (h : W.cell? p = some v) : W.drew.cell? p = some v := h
theorem cell_drewN {W : World} {p : Addr} {v : Value} (h : W.cell? p = some v) (k : Nat) : (W.drewN k).cell? p = some v := h
theorem cell_set {W : World} {p q : Addr} {v u : Value} (h : W.cell? p = some v) (hne : p ≠ q) : (W.setCell q u).cell? p = some v :=
  (World.cell?_setCell_other W q p u (fun e => hne e.symm)).trans h

theorem cell_setb {W : World} {p q : Addr} {v u : Value} (h : W.cell? p = some v) (hne : p.block ≠ q.block) : (W.setCell q u).cell? p = some v :=
  cell_set h (fun e => hne (by rw [e]))
theorem old_alloc {W : World} {n : Nat} {o p : Obj} (h : W.heap[n]? = some p) : (W.alloc o).heap[n]? = some p := by
  rw [Below.heap_alloc W o n]; exact h
  rcases Nat.lt_or_ge n W.heap.size with h' | h'
  · exact h'
  · rw [Array.getElem?_eq_none h'] at h; cases h
theorem old_drew {W : World} {n : Nat} {p : Obj} (h : W.heap[n]? = some p) : W.drew.heap[n]? = some p := h
theorem old_drewN {W : World} {n : Nat} {p : Obj} (h : W.heap[n]? = some p) (k : Nat) : (W.drewN k).heap[n]? = some p := h
theorem old_ab {W w : World} {n : Nat} {p : Obj} (hb : Ab W w) (h : W.heap[n]? = some p) : w.heap[n]? = some p := by
  rw [hb.out.block n]; exact h
  rcases Nat.lt_or_ge n W.heap.size with h' | h'
  · exact h'
  · rw [Array.getElem?_eq_none h'] at h; cases h
theorem old_grown {W w : World} {n : Nat} {p : Obj} {row : Option Nat} (hg : W.grownBy w row) (hne : some n ≠ row) (h : W.heap[n]? = some p) : w.heap[n]? = some p := by
  rw [hg.block n _ hne]; exact h
  rcases Nat.lt_or_ge n W.heap.size with h' | h'
  · exact h'
  · rw [Array.getElem?_eq_none h'] at h; cases h
/-- Another row of the call's own stays. -/
theorem OR.other {A2 : Option Addr} {c2 : Nat} {l2 : List UInt8} (h2 : OR e lo w A2 c2 l2) (hg : w.grownBy w' (A.map (·.block)))
    (hne : ∀ x y, A = some x → A2 = some y → x.block ≠ y.block) : OR e lo w' A2 c2 l2 := by
  refine ⟨h2.out.1, ?_⟩
  rcases h2.out.2 with h0 | ⟨g, cap, cur, hv, hb, hh, r⟩
  · exact .inl h0
  · refine .inr ⟨g, cap, cur, hv, hb, old_grown hg ?_ hh, r⟩
    have hA2 : A2 = some ⟨g, 0, none⟩ := by injection hv
    cases A with
    | none => simp
    | some x => have := hne x _ rfl hA2; simpa using fun h => this h.symm

theorem run_append_bytes {P : Program} (t ty : TypeId) (i : TypeInfo) (z : Value) (ht : P.underlying t = some (.slice e)) (hi : P.info? e = some i) (hz : i.zero = some z)
    (hsize : i.size = 1) (hby : i.bytes = 1) (hzs : z.cells.size = 1) (h : OR e lo w A c l) (hlo : lo ≤ w.heap.size) (B : Option Addr) (d : Nat) (m : List UInt8) (lb : Nat) (hr : RB w lb B m) (hd : m.length ≤ d)
    (hlen : l.length + m.length ≤ 70368744177664) :
    ∃ A' c' w', (Builtin.append_ #[t, t] ty #[.slice A l.length c, .slice B m.length d]).run P w = .ok (.slice A' (l ++ m).length c') w' ∧ OR e lo w' A' c' (l ++ m) ∧ w.grownBy w' (A.map (·.block)) ∧
      (∀ W : World, Ab W w → W.heap.size ≤ lo → Ab W w') := by
  have hone : ∀ u ∈ m.map cb, u.oneCell' = true := by
    intro u hu
    obtain ⟨b, _, rfl⟩ := List.mem_map.1 hu
    rfl
  have shape : ∀ (v : Value) (w' : World), w'.ownsRow lo e 1 v (l.length + m.length) (l.map cb ++ m.map cb) → 
      ∃ A' c', v = .slice A' (l ++ m).length c' ∧ OR e lo w' A' c' (l ++ m) := by
    intro v w' h1
    rcases h1.2 with ⟨rfl, h0⟩ | ⟨g, cap, cur, rfl, r⟩
    · have hl0 : (l ++ m).length = 0 := by rw [List.length_append]; exact h0
      exact ⟨none, 0, by rw [hl0], by simp, .inl ⟨by rw [hl0], hl0⟩⟩
    · exact ⟨some ⟨g, 0, none⟩, cap, by rw [List.length_append], by simp, .inr ⟨g, cap, cur, by rw [List.length_append], by simpa using r⟩⟩
  rcases Nat.eq_zero_or_pos m.length with h0 | hpos
  · have hm : m = [] := List.eq_nil_of_length_eq_zero h0
    subst hm
    refine ⟨A, c, w, ?_, by simpa using h, World.grownBy.refl w _, fun _ hW _ => hW⟩
    rcases B with _ | bd
    · rcases h.out.2 with ⟨hv, h0⟩ | ⟨g, cap, cur, hv, _, _, hnc, _⟩
      · injection hv with h1 h2 h3; subst h1 h3
        have hl : l = [] := List.eq_nil_of_length_eq_zero h0
        subst hl
        simp [Builtin.append_, run_underlying ht, sizeOf, typeInfo, hi, Builtin.lenOf, Builtin.firstCells]
      · injection hv with h1 h2 h3; subst h1 h3
        simp [Builtin.append_, run_underlying ht, sizeOf, typeInfo, hi, Builtin.lenOf, Builtin.firstCells, hnc, storeCells]
    · rcases h.out.2 with ⟨hv, h0⟩ | ⟨g, cap, cur, hv, _, hh, hnc, _⟩
      · injection hv with h1 h2 h3; subst h1 h3
        have hl : l = [] := List.eq_nil_of_length_eq_zero h0
        subst hl
        simp [Builtin.append_, run_underlying ht, sizeOf, typeInfo, hi, Builtin.lenOf, Builtin.firstCells, loadCells, loadCellsFrom]
      · injection hv with h1 h2 h3; subst h1 h3
        simp [Builtin.append_, run_underlying ht, sizeOf, typeInfo, hi, Builtin.lenOf, Builtin.firstCells, hnc, storeCells, loadCells, loadCellsFrom]
  · obtain ⟨bd, rfl, _, hcell⟩ := hr hpos
    obtain ⟨v', w', hrun, h2, h3, _, _⟩ := run_append_own_at (P := P) w lo t ty e i z 1 1 ht hi hz hsize hby hzs (by omega) _ _ _ h.out bd m.length d (m.map cb) (by simp)
      (by
        intro j u hu
        have hj : j < m.length := by
          have := (List.getElem?_eq_some_iff.1 hu).1
          simpa using this
        have : u = cb m[j] := by
          rw [List.getElem?_map, List.getElem?_eq_getElem hj] at hu
          simpa using hu.symm
        rw [this]; exact hcell j hj) hone (by unfold maxLen; omega) (by omega) hlo
    obtain ⟨A', c', rfl, h4⟩ := shape v' w' h2
    have hrow : Value.ownBlock (.slice A l.length c) = A.map (·.block) := by cases A <;> rfl
    refine ⟨A', c', w', hrun, h4, by rw [← hrow]; exact h3, fun W hW hl => ?_⟩
    refine Below.grown hW.out h3 hW.size ?_
    intro k hk
    exact Nat.le_trans hl (h.out.lt k hk).1
end

section
variable {P : Program} {e : TypeId} {w : World}
/-- append([]byte{}, m...): nothing that was there is written. -/
theorem run_append_lit (t ty : TypeId) (i : TypeInfo) (z : Value) (ht : P.underlying t = some (.slice e)) (hi : P.info? e = some i) (hz : i.zero = some z)
    (hsize : i.size = 1) (hby : i.bytes = 1) (hzs : z.cells.size = 1) {g : Nat} (hg : w.heap[g]? = some (.cells #[] e (0, 0))) (B : Option Addr) (d : Nat) (m : List UInt8) (lo : Nat) (hr : RB w lo B m) (hd : m.length ≤ d)
    (hlen : m.length ≤ 70368744177664) :
    ∃ A' c' w', (Builtin.append_ #[t, t] ty #[.slice (some ⟨g, 0, none⟩) 0 0, .slice B m.length d]).run P w = .ok (.slice A' m.length c') w' ∧ Ab w w' ∧ ∀ lo : Nat, lo ≤ g → lo ≤ w.heap.size → OR e lo w' A' c' m := by
  rcases Nat.eq_zero_or_pos m.length with h0 | hpos
  · have hm : m = [] := List.eq_nil_of_length_eq_zero h0
    subst hm
    refine ⟨some ⟨g, 0, none⟩, 0, w, ?_, Ab.refl _, fun lo hl _ => OR.lit_at hl hg⟩
    rcases B with _ | bd
    · simp [Builtin.append_, run_underlying ht, sizeOf, typeInfo, hi, Builtin.lenOf, Builtin.firstCells, storeCells]
    · simp [Builtin.append_, run_underlying ht, sizeOf, typeInfo, hi, Builtin.lenOf, Builtin.firstCells, storeCells, loadCells, loadCellsFrom]
  · obtain ⟨bd, rfl, _, hcell⟩ := hr hpos
    have hn : ∀ j v, (m.map cb)[j]? = some v → w.cell? (bd.add j) = some v := by
      intro j u hu
      have hj : j < m.length := by simpa using (List.getElem?_eq_some_iff.1 hu).1
      have : u = cb m[j] := by
        rw [List.getElem?_map, List.getElem?_eq_getElem hj] at hu
        simpa using hu.symm
      rw [this]; exact hcell j hj
    have hrun := run_append_grow (P := P) w t ty e i z ht hi hz ⟨g, 0, none⟩ 0 0 [] (by simp) (by simp) bd m.length d (m.map cb) (by simp [hsize]) hn (by omega) (by omega)
      (growslice_fits (by omega) (by rw [hby]; omega))
    simp only [Nat.zero_add] at hrun
    have hge := grownCap_ge w m.length 0 e
    have hcm : grownCap w m.length 0 e ≤ maxLen := grownCap_le_maxLen w m.length 0 e (by unfold maxLen; omega)
    refine ⟨_, _, _, hrun, (Ab.refl w).drew.alloc _, fun lo _ hl => ⟨by simp, .inr ⟨w.heap.size, _, _, rfl, hl, heap_alloc_new w.drew _, hge, hcm, ?_, ?_⟩⟩⟩
    · simp only [Array.size_append, List.size_toArray, size_zeroCells, hzs, List.length_map, List.length_nil]
      omega
    · simp
theorem wp_append_lit {o : Oper} {a : Act} {K : Act → World → Prop} {Q : Exit → Act → World → Prop} (s x : Operand) (t : TypeId)
    (ho : o.op = .call { callee := .builtin .append, args := #[s, x], argTypes := #[t, t] })
    (i : TypeInfo) (z : Value) (ht : P.underlying t = some (.slice e)) (hi : P.info? e = some i) (hz : i.zero = some z)
    (hsize : i.size = 1) (hby : i.bytes = 1) (hzs : z.cells.size = 1) {g : Nat} (hs : a.eval s = .slice (some ⟨g, 0, none⟩) 0 0)
    {B : Option Addr} {n d : Nat} {m : List UInt8} (hx : a.eval x = .slice B n d) (hn : m.length = n) (hg : w.heap[g]? = some (.cells #[] e (0, 0))) {lo : Nat} (hr : RB w lo B m) (hd : m.length ≤ d)
    (hlen : m.length ≤ 70368744177664)
    (hk : ∀ A' c' w' L, Hid (L = m) → Ab w w' → (∀ lo : Nat, lo ≤ g → lo ≤ w.heap.size → OR e lo w' A' c' L) → K (a.put o.dst (.slice A' L.length c')) w') : o.wp P a w K Q := by
  subst hn
  obtain ⟨A', c', w', hrun, h4, h5⟩ := run_append_lit (P := P) t o.type i z ht hi hz hsize hby hzs hg B d m lo hr hd hlen
  unfold Oper.wp execOp
  simp only [ho, resolve, invoke, builtin, Sem.run_bind, Sem.run_pure, Result.andThen_ok, List.map_toArray, List.map_cons, List.map_nil, hs, hx, hrun]
  exact hk A' c' w' m rfl h4 h5
theorem wpList_append_lit {ops : Array Oper} {rest : List Oper} {o : Oper} {a : Act} {Q : Exit → Act → World → Prop} (hgd : o.guard = none) (s x : Operand) (t : TypeId)
    (ho : o.op = .call { callee := .builtin .append, args := #[s, x], argTypes := #[t, t] })
    (i : TypeInfo) (z : Value) (ht : P.underlying t = some (.slice e)) (hi : P.info? e = some i) (hz : i.zero = some z)
    (hsize : i.size = 1) (hby : i.bytes = 1) (hzs : z.cells.size = 1) {g : Nat} (hs : a.eval s = .slice (some ⟨g, 0, none⟩) 0 0)
    {B : Option Addr} {n d : Nat} {m : List UInt8} (hx : a.eval x = .slice B n d) (hn : m.length = n) (hg : w.heap[g]? = some (.cells #[] e (0, 0))) {lo : Nat} (hr : RB w lo B m) (hd : m.length ≤ d)
    (hlen : m.length ≤ 70368744177664)
    (hk : ∀ A' c' w' L, Hid (L = m) → Ab w w' → (∀ lo : Nat, lo ≤ g → lo ≤ w.heap.size → OR e lo w' A' c' L) → wpList P ops Q rest (a.put o.dst (.slice A' L.length c')) w') : wpList P ops Q (o :: rest) a w :=
  wpList_plain hgd fun _ hK => wp_append_lit s x t ho i z ht hi hz hsize hby hzs hs hx hn hg hr hd hlen fun A' c' w' L hL h4 h5 => hK _ _ (hk A' c' w' L hL h4 h5)
theorem step_append_lit {ops : Array Oper} {o : Oper} {a : Act} {K : Act → World → Prop} {Q : Exit → Act → World → Prop} {E : Prop} (hgd : o.guard = none) (s x : Operand) (t : TypeId)
    (ho : o.op = .call { callee := .builtin .append, args := #[s, x], argTypes := #[t, t] })
    (i : TypeInfo) (z : Value) (ht : P.underlying t = some (.slice e)) (hi : P.info? e = some i) (hz : i.zero = some z)
    (hsize : i.size = 1) (hby : i.bytes = 1) (hzs : z.cells.size = 1) {g : Nat} (hs : a.eval s = .slice (some ⟨g, 0, none⟩) 0 0)
    {B : Option Addr} {n d : Nat} {m : List UInt8} (hx : a.eval x = .slice B n d) (hn : m.length = n) (hg : w.heap[g]? = some (.cells #[] e (0, 0))) {lo : Nat} (hr : RB w lo B m) (hd : m.length ≤ d)
    (hlen : m.length ≤ 70368744177664)
    (hk : ∀ A' c' w' L, Hid (L = m) → Ab w w' → (∀ lo : Nat, lo ≤ g → lo ≤ w.heap.size → OR e lo w' A' c' L) → K (a.put o.dst (.slice A' L.length c')) w') :
    if Region.wanted o (yielded ops a.tmps) = true then Oper.wp P o a w K Q else E := by
  have hw : Region.wanted o (yielded ops a.tmps) = true := by simp [Region.wanted, hgd]
  rw [if_pos hw]
  exact wp_append_lit s x t ho i z ht hi hz hsize hby hzs hs hx hn hg hr hd hlen hk
end

section
variable {P : Program} {e : TypeId} {lo : Nat} {w : World} {A : Option Addr} {c : Nat} {l : List UInt8}
theorem wp_append_bytes {o : Oper} {a : Act} {K : Act → World → Prop} {Q : Exit → Act → World → Prop} (s x : Operand) (t : TypeId)
    (ho : o.op = .call { callee := .builtin .append, args := #[s, x], argTypes := #[t, t] })
    (i : TypeInfo) (z : Value) (ht : P.underlying t = some (.slice e)) (hi : P.info? e = some i) (hz : i.zero = some z)
    (hsize : i.size = 1) (hby : i.bytes = 1) (hzs : z.cells.size = 1) (hs : a.eval s = .slice A l.length c)
    {B : Option Addr} {n d : Nat} {m : List UInt8} (hx : a.eval x = .slice B n d) (hn : m.length = n) (h : OR e lo w A c l) (hlo : lo ≤ w.heap.size) {lb : Nat} (hr : RB w lb B m) (hd : m.length ≤ d)
    (hlen : l.length + m.length ≤ 70368744177664)
    (hk : ∀ A' c' w' L, Hid (L = l ++ m) → OR e lo w' A' c' L → w.grownBy w' (A.map (·.block)) → (∀ W : World, Ab W w → W.heap.size ≤ lo → Ab W w') → K (a.put o.dst (.slice A' L.length c')) w') : o.wp P a w K Q := by
  subst hn
  obtain ⟨A', c', w', hrun, h4, h5, h6⟩ := run_append_bytes (P := P) t o.type i z ht hi hz hsize hby hzs h hlo B d m lb hr hd hlen
  unfold Oper.wp execOp
  simp only [ho, resolve, invoke, builtin, Sem.run_bind, Sem.run_pure, Result.andThen_ok, List.map_toArray, List.map_cons, List.map_nil, hs, hx, hrun]
  exact hk A' c' w' _ rfl h4 h5 h6
theorem wpList_append_bytes {ops : Array Oper} {rest : List Oper} {o : Oper} {a : Act} {Q : Exit → Act → World → Prop} (hgd : o.guard = none) (s x : Operand) (t : TypeId)
    (ho : o.op = .call { callee := .builtin .append, args := #[s, x], argTypes := #[t, t] })
    (i : TypeInfo) (z : Value) (ht : P.underlying t = some (.slice e)) (hi : P.info? e = some i) (hz : i.zero = some z)
    (hsize : i.size = 1) (hby : i.bytes = 1) (hzs : z.cells.size = 1) (hs : a.eval s = .slice A l.length c)
    {B : Option Addr} {n d : Nat} {m : List UInt8} (hx : a.eval x = .slice B n d) (hn : m.length = n) (h : OR e lo w A c l) (hlo : lo ≤ w.heap.size) {lb : Nat} (hr : RB w lb B m) (hd : m.length ≤ d)
    (hlen : l.length + m.length ≤ 70368744177664)
    (hk : ∀ A' c' w' L, Hid (L = l ++ m) → OR e lo w' A' c' L → w.grownBy w' (A.map (·.block)) → (∀ W : World, Ab W w → W.heap.size ≤ lo → Ab W w') → wpList P ops Q rest (a.put o.dst (.slice A' L.length c')) w') : wpList P ops Q (o :: rest) a w :=
  wpList_plain hgd fun _ hK => wp_append_bytes s x t ho i z ht hi hz hsize hby hzs hs hx hn h hlo hr hd hlen fun A' c' w' L hL h4 h5 h6 => hK _ _ (hk A' c' w' L hL h4 h5 h6)
theorem step_append_bytes {ops : Array Oper} {o : Oper} {a : Act} {K : Act → World → Prop} {Q : Exit → Act → World → Prop} {E : Prop} (hgd : o.guard = none) (s x : Operand) (t : TypeId)
    (ho : o.op = .call { callee := .builtin .append, args := #[s, x], argTypes := #[t, t] })
    (i : TypeInfo) (z : Value) (ht : P.underlying t = some (.slice e)) (hi : P.info? e = some i) (hz : i.zero = some z)
    (hsize : i.size = 1) (hby : i.bytes = 1) (hzs : z.cells.size = 1) (hs : a.eval s = .slice A l.length c)
    {B : Option Addr} {n d : Nat} {m : List UInt8} (hx : a.eval x = .slice B n d) (hn : m.length = n) (h : OR e lo w A c l) (hlo : lo ≤ w.heap.size) {lb : Nat} (hr : RB w lb B m) (hd : m.length ≤ d)
    (hlen : l.length + m.length ≤ 70368744177664)
    (hk : ∀ A' c' w' L, Hid (L = l ++ m) → OR e lo w' A' c' L → w.grownBy w' (A.map (·.block)) → (∀ W : World, Ab W w → W.heap.size ≤ lo → Ab W w') → K (a.put o.dst (.slice A' L.length c')) w') :
    if Region.wanted o (yielded ops a.tmps) = true then Oper.wp P o a w K Q else E := by
  have hw : Region.wanted o (yielded ops a.tmps) = true := by simp [Region.wanted, hgd]
  rw [if_pos hw]
  exact wp_append_bytes s x t ho i z ht hi hz hsize hby hzs hs hx hn h hlo hr hd hlen hk
end

theorem ret_bool {a b : Bool} (h : a = b) : Ending.returned (.bool a) = .returned (.bool b) := by rw [h]
theorem ret_int {k : IntKind} {a b : Int} (h : a = b) : Ending.returned (.int k a) = .returned (.int k b) := by rw [h]
end Go.Proofs.YthgcfjhnnhigoaaGreat

/- More words for memory: a row of the call's own that is written in place. Own work. -/
namespace Go.Proofs.YthgcfjhnnhigoaaGreat
open Go.RowKit
section
variable {e : TypeId} {lo lo' : Nat} {W w w' : World} {A : Option Addr} {c : Nat} {l : List UInt8}
theorem OR.at_ (h : OR e lo w A c l) (hl : 0 < l.length) : ∃ g, A = some ⟨g, 0, none⟩ ∧ lo ≤ g ∧ g < w.heap.size := by
  rcases h.out.2 with ⟨_, h0⟩ | ⟨g, cap, cur, hv, hb, hh, _⟩
  · omega
  · refine ⟨g, by injection hv, hb, ?_⟩
    rcases Nat.lt_or_ge g w.heap.size with h | h
    · exact h
    · rw [Array.getElem?_eq_none h] at hh; cases hh
theorem OR.store {g : Nat} (h : OR e lo w (some ⟨g, 0, none⟩) c l) (i : Nat) (b : UInt8) : OR e lo (w.setCell ⟨g, i, none⟩ (cb b)) (some ⟨g, 0, none⟩) c (l.set i b) := by
  have h1 := h.out.stored i (cb b)
  unfold OR
  rw [List.length_set, List.map_set]
  exact h1.1
theorem grown_at {w0 w : World} {row : Option Nat} (h : w0.grownBy w row) {p : Addr} {v : Value} (hne : some p.block ≠ row) (hc : w0.cell? p = some v) : w.cell? p = some v :=
  (World.cell?_of_block (h.block p.block (cell_lt hc) hne)).trans hc
theorem grown_rb {w0 w : World} {lb : Nat} {row : Option Nat} (h : w0.grownBy w row) {m : List UInt8} {B : Option Addr} (hb : RB w0 lb B m) (hne : ∀ p, B = some p → some p.block ≠ row) : RB w lb B m := by
  intro hl
  obtain ⟨ad, h1, h2, h3⟩ := hb hl
  exact ⟨ad, h1, h2, fun i hi => grown_at h (by rw [addr_add_block]; exact hne ad h1) (h3 i hi)⟩
theorem grown_cell {w0 w : World} {D : Option Addr} (h : w0.grownBy w (D.map (·.block))) {b o : Nat} {v : Value} (hc : w0.cell? ⟨b, o, none⟩ = some v) (hD : ∀ a, D = some a → a.block ≠ b) : w.cell? ⟨b, o, none⟩ = some v := by
  refine grown_at h ?_ hc
  intro he
  cases D with
  | none => cases he
  | some x => exact hD x rfl (by simpa using he.symm)
theorem grown_ab {W w0 w : World} {row : Option Nat} (hW : Ab W w0) (h : w0.grownBy w row) (hr : ∀ g, row = some g → W.heap.size ≤ g) : Ab W w :=
  Below.grown hW.out h hW.size hr
theorem OR.rng (h : OR e lo w A c l) : ∀ a, A = some a → lo ≤ a.block ∧ a.block < w.heap.size := by
  intro a ha
  rcases h.out.2 with ⟨h1, h0⟩ | ⟨g, cap, cur, hv, hb, hh, _⟩
  · injection h1 with h1; rw [ha] at h1; cases h1
  · injection hv with hv; rw [ha] at hv; injection hv with hv; subst hv
    refine ⟨hb, ?_⟩
    rcases Nat.lt_or_ge g w.heap.size with h | h
    · exact h
    · rw [Array.getElem?_eq_none h] at hh; cases hh
/-- What holds in a loop that writes into a row of the call's own, in place. -/
def InPlace (e : TypeId) (D : Option Addr) (c len lo : Nat) (w0 : World) (i : Value) (wr : World) : Prop :=
  ∃ (k : Nat) (l : List UInt8), k ≤ len ∧ i = .int .i64 (k : Int) ∧ Hid (l.length = len) ∧ OR e lo wr D c l ∧ w0.grownBy wr (D.map (·.block))
end
end Go.Proofs.YthgcfjhnnhigoaaGreat

/- Slices of bytes cut and appended to, in this seat's numbers. Own work. -/
namespace Go.Proofs.YthgcfjhnnhigoaaGreat
open Go.RowKit

theorem infoU8 : (Tryz.prog.info? 5).map (fun i => (i.zero, i.size, i.bytes)) = some (some (.int .u8 0), 1, 1) := by kernel_rfl

/-- s[k:] of bytes, its address under a name. -/
theorem run_cut (k : Nat) (kd : IntKind) (a : Option Addr) (len cap : Nat) (w : World) (h : k ≤ len) :
    (Instr.slice 22 (.slice a len cap) (some (.int kd (k : Int))) none none).run Tryz.prog w = .ok (.slice (cutA a cap k) (len - k) (cap - k)) w := by
  have hu : Tryz.prog.underlying 22 = some (.slice (Tryz.prog.elem 22)) := by kernel_rfl
  obtain ⟨i0, hi0, _, hz1, _⟩ := info_parts infoU8
  have he : Tryz.prog.elem 22 = 5 := by kernel_rfl
  rw [run_slice_l w 22 a len cap hu kd (k : Int) (by omega) (by omega), he]
  simp only [sizeOf, typeInfo, sliced, Int.toNat_natCast, cutA, Sem.run_bind, Sem.run_pure]
  simp [hi0, hz1]
/-- s[k:h] of bytes, its address under a name. -/
theorem run_cuts (k h : Nat) (kd kd' : IntKind) (a : Option Addr) (len cap : Nat) (w : World) (h1 : k ≤ h) (h2 : h ≤ cap) :
    (Instr.slice 22 (.slice a len cap) (some (.int kd (k : Int))) (some (.int kd' (h : Int))) none).run Tryz.prog w = .ok (.slice (cutA a cap k) (h - k) (cap - k)) w := by
  have hu : Tryz.prog.underlying 22 = some (.slice (Tryz.prog.elem 22)) := by kernel_rfl
  obtain ⟨i0, hi0, _, hz1, _⟩ := info_parts infoU8
  have he : Tryz.prog.elem 22 = 5 := by kernel_rfl
  rw [run_slice_lh w 22 a len cap hu kd kd' (k : Int) (h : Int) (by omega) (by omega) (by omega), he]
  simp only [sizeOf, typeInfo, sliced, Int.toNat_natCast, cutA, Sem.run_bind, Sem.run_pure]
  simp [hi0, hz1]

section
variable {lo : Nat} {w : World} {A : Option Addr} {c : Nat} {l : List UInt8} {ops : Array Oper} {rest : List Oper} {o : Oper} {a : Act} {K : Act → World → Prop} {Q : Exit → Act → World → Prop} {E : Prop}
  {B : Option Addr} {n d lb g : Nat} {m : List UInt8}
theorem stepApp (hgd : o.guard = none) (s x : Operand) (ho : o.op = .call { callee := .builtin .append, args := #[s, x], argTypes := #[22, 22] })
    (hs : a.eval s = .slice A l.length c) (hx : a.eval x = .slice B n d) (hn : m.length = n) (h : OR 5 lo w A c l) (hlo : lo ≤ w.heap.size) (hr : RB w lb B m) (hd : m.length ≤ d) (hlen : l.length + m.length ≤ 70368744177664)
    (hk : ∀ A' c' w' L, Hid (L = l ++ m) → OR 5 lo w' A' c' L → w.grownBy w' (A.map (·.block)) → (∀ W : World, Ab W w → W.heap.size ≤ lo → Ab W w') → K (a.put o.dst (.slice A' L.length c')) w') :
    if Region.wanted o (yielded ops a.tmps) = true then Oper.wp Tryz.prog o a w K Q else E := by
  obtain ⟨i0, hi0, hz0, hz1, hz2⟩ := info_parts infoU8
  exact step_append_bytes hgd s x _ ho i0 _ Tryz.underlying22 hi0 hz0 hz1 hz2 rfl hs hx hn h hlo hr hd hlen hk
theorem listApp (hgd : o.guard = none) (s x : Operand) (ho : o.op = .call { callee := .builtin .append, args := #[s, x], argTypes := #[22, 22] })
    (hs : a.eval s = .slice A l.length c) (hx : a.eval x = .slice B n d) (hn : m.length = n) (h : OR 5 lo w A c l) (hlo : lo ≤ w.heap.size) (hr : RB w lb B m) (hd : m.length ≤ d) (hlen : l.length + m.length ≤ 70368744177664)
    (hk : ∀ A' c' w' L, Hid (L = l ++ m) → OR 5 lo w' A' c' L → w.grownBy w' (A.map (·.block)) → (∀ W : World, Ab W w → W.heap.size ≤ lo → Ab W w') → wpList Tryz.prog ops Q rest (a.put o.dst (.slice A' L.length c')) w') :
    wpList Tryz.prog ops Q (o :: rest) a w := by
  obtain ⟨i0, hi0, hz0, hz1, hz2⟩ := info_parts infoU8
  exact wpList_append_bytes hgd s x _ ho i0 _ Tryz.underlying22 hi0 hz0 hz1 hz2 rfl hs hx hn h hlo hr hd hlen hk
theorem stepLit (hgd : o.guard = none) (s x : Operand) (ho : o.op = .call { callee := .builtin .append, args := #[s, x], argTypes := #[22, 22] })
    (hs : a.eval s = .slice (some ⟨g, 0, none⟩) 0 0) (hx : a.eval x = .slice B n d) (hn : m.length = n) (hg : w.heap[g]? = some (.cells #[] 5 (0, 0))) (hr : RB w lb B m) (hd : m.length ≤ d) (hlen : m.length ≤ 70368744177664)
    (hk : ∀ A' c' w' L, Hid (L = m) → Ab w w' → (∀ lo : Nat, lo ≤ g → lo ≤ w.heap.size → OR 5 lo w' A' c' L) → K (a.put o.dst (.slice A' L.length c')) w') :
    if Region.wanted o (yielded ops a.tmps) = true then Oper.wp Tryz.prog o a w K Q else E := by
  obtain ⟨i0, hi0, hz0, hz1, hz2⟩ := info_parts infoU8
  exact step_append_lit hgd s x _ ho i0 _ Tryz.underlying22 hi0 hz0 hz1 hz2 rfl hs hx hn hg hr hd hlen hk
theorem listLit (hgd : o.guard = none) (s x : Operand) (ho : o.op = .call { callee := .builtin .append, args := #[s, x], argTypes := #[22, 22] })
    (hs : a.eval s = .slice (some ⟨g, 0, none⟩) 0 0) (hx : a.eval x = .slice B n d) (hn : m.length = n) (hg : w.heap[g]? = some (.cells #[] 5 (0, 0))) (hr : RB w lb B m) (hd : m.length ≤ d) (hlen : m.length ≤ 70368744177664)
    (hk : ∀ A' c' w' L, Hid (L = m) → Ab w w' → (∀ lo : Nat, lo ≤ g → lo ≤ w.heap.size → OR 5 lo w' A' c' L) → wpList Tryz.prog ops Q rest (a.put o.dst (.slice A' L.length c')) w') :
    wpList Tryz.prog ops Q (o :: rest) a w := by
  obtain ⟨i0, hi0, hz0, hz1, hz2⟩ := info_parts infoU8
  exact wpList_append_lit hgd s x _ ho i0 _ Tryz.underlying22 hi0 hz0 hz1 hz2 rfl hs hx hn hg hr hd hlen hk
end

end Go.Proofs.YthgcfjhnnhigoaaGreat

/- The ends that the contracts of layer 1 state. Own work. -/
namespace Go.Proofs.YthgcfjhnnhigoaaGreat
open Go.RowKit Disk

/-- It returns the device m, in memory of its own. -/
def RetDev (w : World) (m : Dev) (e : Ending) (w' : World) : Prop :=
  ∃ (r : Dev) (D E : Option Addr) (cd ce : Nat), Hid (r = m) ∧ e = .returned (.agg #[.slice D r.s.length cd, .slice E r.t.length ce, .int .i64 r.cap, .bool r.down]) ∧ OR 5 w.heap.size w' D cd r.s ∧ OR 5 w.heap.size w' E ce r.t ∧ Ab w w'
/-- It returns the device and the error m. -/
def RetDevE (w : World) (m : Dev × Int) (e : Ending) (w' : World) : Prop :=
  ∃ (r : Dev) (er : Int) (D E : Option Addr) (cd ce : Nat), Hid ((r, er) = m) ∧ e = .returned (.tuple #[.agg #[.slice D r.s.length cd, .slice E r.t.length ce, .int .i64 r.cap, .bool r.down], .int .i64 er]) ∧ OR 5 w.heap.size w' D cd r.s ∧ OR 5 w.heap.size w' E ce r.t ∧ Ab w w'
/-- It returns a number. -/
def RetInt (w : World) (m : Int) (e : Ending) (w' : World) : Prop := ∃ r : Int, Hid (r = m) ∧ e = .returned (.int .i64 r) ∧ Ab w w'
def RetIntE (w : World) (m : Int × Int) (e : Ending) (w' : World) : Prop := ∃ r er : Int, Hid ((r, er) = m) ∧ e = .returned (.tuple #[.int .i64 r, .int .i64 er]) ∧ Ab w w'
/-- It returns bytes in memory of its own. -/
def RetB (w : World) (m : List UInt8) (e : Ending) (w' : World) : Prop :=
  ∃ (r : List UInt8) (D : Option Addr) (c : Nat), Hid (r = m) ∧ e = .returned (.slice D r.length c) ∧ OR 5 w.heap.size w' D c r ∧ Ab w w'
def RetBE (w : World) (m : List UInt8 × Int) (e : Ending) (w' : World) : Prop :=
  ∃ (r : List UInt8) (er : Int) (D : Option Addr) (c : Nat), Hid ((r, er) = m) ∧ e = .returned (.tuple #[.slice D r.length c, .int .i64 er]) ∧ RB w' w.heap.size D r ∧ r.length ≤ c ∧ Ab w w'
def RetBool (w : World) (m : Bool) (e : Ending) (w' : World) : Prop := e = .returned (.bool m) ∧ Ab w w'
theorem RetInt.mk {w w' : World} {m : Int} {v : Value} (h : v = .int .i64 m) (hb : Ab w w') : RetInt w m (.returned v) w' := ⟨m, rfl, by rw [h], hb⟩
theorem RetDevE.zero {w w' : World} {m : Dev × Int} {er : Int} (h : (Disk.zero, er) = m) (hb : Ab w w') :
    RetDevE w m (.returned (.tuple #[.agg #[.slice none 0 0, .slice none 0 0, .int .i64 0, .bool false], .int .i64 er])) w' :=
  ⟨Disk.zero, er, none, none, 0, 0, h, rfl, OR.none_, OR.none_, hb⟩
end Go.Proofs.YthgcfjhnnhigoaaGreat

namespace Go.Proofs.YthgcfjhnnhigoaaGreat
open Go.RowKit


theorem sameBytes_eq (A B : Option Addr) (c d : Nat) (x y : List UInt8) (w : World) (hx : RB w 0 A x) (hy : RB w 0 B y) (hl : x.length ≤ 140737488351232) (hl' : y.length ≤ 140737488351232) :
    Calls Tryz.prog 71 #[.slice A x.length c, .slice B y.length d] w fun e w' => e = .returned (.bool (x == y)) ∧ ∃ n, w' = w.drewN n := by
  by_cases hne : x.length = y.length
  · have hq : ((x.length : Int) != (y.length : Int)) = false := by simp [hne]
    have H := Lib.hid hne; clear hne
    go_enter Tryz.func71, Tryz.ntmps71
    go_wp2
    go_loopw [4, 5] (fun r i wr => ∃ k : Nat, k ≤ x.length ∧ r = .bool false ∧ i = .int .i64 k ∧ x.take k = y.take k ∧ ∃ n, wr = w.drewN n) (fun _ i _ => x.length - (intOf i).toNat)
    case atStart => exact ⟨0, Nat.zero_le _, rfl, rfl, rfl, 0, rfl⟩
    case round =>
      obtain ⟨k, hk, rfl, rfl, ht, n, rfl⟩ := hrel
      by_cases hlt : k < x.length
      · obtain ⟨ad, rfl, _, ha⟩ := hx (by omega)
        obtain ⟨bd, rfl, _, hb⟩ := hy (by have := H.out; omega)
        have hac : w.cell? (ad.add k) = some (.int .u8 (x[k].toNat : Int)) := ha k hlt
        have hyk : k < y.length := by have := H.out; omega
        have hbc : w.cell? (bd.add k) = some (.int .u8 (y[k].toNat : Int)) := hb k hyk
        have hyl : (k : Int) < y.length := by omega
        have hxl : (k : Int) < x.length := by omega
        clear ha hb
        by_cases hxy : x[k] = y[k]
        · have hcmp : ((x[k].toNat : Int) != (y[k].toNat : Int)) = false := by simp [hxy]
          have HT := Lib.hid ht; clear ht
          have HXY := Lib.hid hxy; clear hxy
          go_wp2
          go_quiet (fail)
          go_wp2
          go_roundw
          case rel => exact ⟨k + 1, by omega, rfl, by go_num, by rw [List.take_succ_eq_append_getElem hlt, List.take_succ_eq_append_getElem hyk, HT.out, HXY.out], _, rfl⟩
          case measure => simp [intOf]; omega
        · have hcmp : ((x[k].toNat : Int) != (y[k].toNat : Int)) = true := by
            simp only [bne_iff_ne, ne_eq, Int.natCast_inj]; exact fun e => hxy (UInt8.toNat.inj e)
          have hfin : (x == y) = false := by
            rw [beq_eq_false_iff_ne]; rintro rfl; exact hxy rfl
          have HF := Lib.hid hfin; clear hfin hxy ht
          go_wp2
          go_quiet (fail)
          go_wp2
          go_ret
          exact ⟨ret_bool (by rw [HF.out]), _, World.drewN_drewN _ _ _⟩
      · have hkl : k = x.length := by omega
        have hfin : (x == y) = true := by
          rw [beq_iff_eq]; rw [hkl, List.take_length] at ht; rw [ht, H.out, List.take_length]
        have HF := Lib.hid hfin; clear hfin hkl ht
        go_wp2
        go_ret
        exact ⟨ret_bool (by rw [HF.out]), _, rfl⟩
  · have hq : ((x.length : Int) != (y.length : Int)) = true := by simp; omega
    have hfin : (x == y) = false := by rw [beq_eq_false_iff_ne]; rintro rfl; exact hne rfl
    have HF := Lib.hid hfin; clear hfin hne
    go_enter Tryz.func71, Tryz.ntmps71
    go_wp2
    go_ret
    exact ⟨ret_bool (by rw [HF.out]), 0, rfl⟩
end Go.Proofs.YthgcfjhnnhigoaaGreat

/- A region that draws its order, whose last operation waits for all the others: the others in any order, then the last one. Own work. -/
namespace Go.Proofs.YthgcfjhnnhigoaaGreat
open Go

section
variable {P : Program} {ops : Array Oper} {Q : Exit → Act → World → Prop} {md : Region.Mode} {S : World → Prop} {n : Nat}

def backB (md : Region.Mode) (ops : Array Oper) : Bool :=
  (List.range ops.size).all fun j => match ops[j]? with
    | some o => o.after.all fun e => !Region.binds md e || decide (e.on < j)
    | none => true
def lastB (md : Region.Mode) (ops : Array Oper) (n : Nat) : Bool :=
  decide (n + 1 = ops.size) && Region.sinkB md ops n && Region.chainB md ops n && backB md ops

end
end Go.Proofs.YthgcfjhnnhigoaaGreat

/- Literal bytes, strings of bytes. Own work. -/
namespace Go.Proofs.YthgcfjhnnhigoaaGreat
open Go.RowKit

theorem old_set {W : World} {n : Nat} {p : Obj} {q : Addr} {u : Value} (h : W.heap[n]? = some p) (hq : q.block ≠ n) : (W.setCell q u).heap[n]? = some p := by
  rw [Below.heap_setCell W q u n (fun e => hq e.symm)]; exact h
/-- A block that holds the bytes l. -/
theorem RB.blk {w : World} {lo g : Nat} {l : List UInt8} {T : TypeId} {fr : Nat × Nat} (hg : w.heap[g]? = some (.cells (l.map cb).toArray T fr)) (hlo : lo ≤ g) : RB w lo (some ⟨g, 0, none⟩) l := by
  intro hl
  refine ⟨_, rfl, hlo, fun i hi => ?_⟩
  have : (⟨g, 0, none⟩ : Addr).add i = ⟨g, i, none⟩ := by unfold Addr.add; split <;> simp_all
  rw [this]
  unfold World.cell?
  rw [hg]
  simp [List.getElem?_eq_getElem hi]
def RetTrue (w : World) (e : Ending) (w' : World) : Prop := e = .returned (.bool true) ∧ Ab w w'
end Go.Proofs.YthgcfjhnnhigoaaGreat

/- make([]byte, n). Own work. -/
namespace Go.Proofs.YthgcfjhnnhigoaaGreat
open Go.RowKit

end Go.Proofs.YthgcfjhnnhigoaaGreat

/- A row of the call's own that is appended to: the new row's block. Own work. -/
namespace Go.Proofs.YthgcfjhnnhigoaaGreat
open Go.RowKit

theorem grown_alloc {w w' : World} {o : Obj} {row : Option Nat} (h : (w.alloc o).grownBy w' row) : w.grownBy w' row :=
  ⟨h.os, h.tape, h.output, Nat.le_trans (by simp) h.size, fun k hk hne => (h.block k (by simp; omega) hne).trans (Below.heap_alloc w o k hk)⟩

/-- A row of the call's own: n elements of k cells each, which hold vs. -/
def OV (e : TypeId) (k lo : Nat) (w : World) (A : Option Addr) (n c : Nat) (vs : List Value) : Prop := w.ownsRow lo e k (.slice A n c) n vs
theorem OR.ov {e : TypeId} {lo : Nat} {w : World} {A : Option Addr} {c : Nat} {l : List UInt8} (h : OR e lo w A c l) : OV e 1 lo w A l.length c (l.map cb) := h
theorem OV.or {e : TypeId} {lo n : Nat} {w : World} {A : Option Addr} {c : Nat} {l : List UInt8} (h : OV e 1 lo w A n c (l.map cb)) (hn : l.length = n) : OR e lo w A c l := by
  subst hn; exact h

section
variable {P : Program} {e : TypeId} {k by_ lo : Nat} {w : World} {A : Option Addr} {n c : Nat} {vs : List Value}
theorem run_appV (t ty : TypeId) (i : TypeInfo) (z : Value) (ht : P.underlying t = some (.slice e)) (hi : P.info? e = some i) (hz : i.zero = some z)
    (hsize : i.size = k) (hby : i.bytes = by_) (hzs : z.cells.size = k) (hk : 0 < k) (h : OV e k lo w A n c vs) (hlo : lo ≤ w.heap.size) (bd : Addr) (m d : Nat) (ws : List Value) (hl : ws.length = m * k)
    (hn : ∀ j u, ws[j]? = some u → w.cell? (bd.add j) = some u) (h1 : ∀ u ∈ ws, u.oneCell' = true) (hm : 0 < m) (h63 : n + m ≤ maxLen) (hb : (n + m) * by_ ≤ 140737488355328) :
    ∃ g c' w', (Builtin.append_ #[t, t] ty #[.slice A n c, .slice (some bd) m d]).run P w = .ok (.slice (some ⟨g, 0, none⟩) (n + m) c') w' ∧ OV e k lo w' (some ⟨g, 0, none⟩) (n + m) c' (vs ++ ws) ∧
      w.grownBy w' (A.map (·.block)) ∧ (A.map (·.block) = some g ∨ g = w.heap.size) := by
  obtain ⟨v', w', hrun, h2, h3, _, h5⟩ := run_append_own_at (P := P) w lo t ty e i z k by_ ht hi hz hsize hby hzs hk _ _ _ h bd m d ws hl hn h1 h63 hb hlo
  have hrow : Value.ownBlock (.slice A n c) = A.map (·.block) := by cases A <;> rfl
  rw [hrow] at h3 h5
  rcases h2.2 with ⟨_, h0⟩ | ⟨g, cap, cur, rfl, r⟩
  · omega
  · refine ⟨g, cap, w', hrun, h2, h3, ?_⟩
    rcases h5 with h5 | h5
    · exact .inl h5.symm
    · exact .inr (Option.some.inj h5)
theorem wp_appV {o : Oper} {a : Act} {K : Act → World → Prop} {Q : Exit → Act → World → Prop} (s x : Operand) (t : TypeId)
    (ho : o.op = .call { callee := .builtin .append, args := #[s, x], argTypes := #[t, t] })
    (i : TypeInfo) (z : Value) (ht : P.underlying t = some (.slice e)) (hi : P.info? e = some i) (hz : i.zero = some z)
    (hsize : i.size = k) (hby : i.bytes = by_) (hzs : z.cells.size = k) (hk0 : 0 < k) (hs : a.eval s = .slice A n c)
    {bd : Addr} {m d : Nat} {ws : List Value} (hx : a.eval x = .slice (some bd) m d) (h : OV e k lo w A n c vs) (hlo : lo ≤ w.heap.size) (hl : ws.length = m * k)
    (hn : ∀ j u, ws[j]? = some u → w.cell? (bd.add j) = some u) (h1 : ∀ u ∈ ws, u.oneCell' = true) (hm : 0 < m) (h63 : n + m ≤ maxLen) (hb : (n + m) * by_ ≤ 140737488355328)
    (hK : ∀ g c' w', OV e k lo w' (some ⟨g, 0, none⟩) (n + m) c' (vs ++ ws) → w.grownBy w' (A.map (·.block)) → (A.map (·.block) = some g ∨ g = w.heap.size) → K (a.put o.dst (.slice (some ⟨g, 0, none⟩) (n + m) c')) w') : o.wp P a w K Q := by
  obtain ⟨g, c', w', hrun, h4, h5, h6⟩ := run_appV (P := P) t o.type i z ht hi hz hsize hby hzs hk0 h hlo bd m d ws hl hn h1 hm h63 hb
  unfold Oper.wp execOp
  simp only [ho, resolve, invoke, builtin, Sem.run_bind, Sem.run_pure, Result.andThen_ok, List.map_toArray, List.map_cons, List.map_nil, hs, hx, hrun]
  exact hK g c' w' h4 h5 h6
theorem wpList_appV {ops : Array Oper} {rest : List Oper} {o : Oper} {a : Act} {Q : Exit → Act → World → Prop} (hgd : o.guard = none) (s x : Operand) (t : TypeId)
    (ho : o.op = .call { callee := .builtin .append, args := #[s, x], argTypes := #[t, t] })
    (i : TypeInfo) (z : Value) (ht : P.underlying t = some (.slice e)) (hi : P.info? e = some i) (hz : i.zero = some z)
    (hsize : i.size = k) (hby : i.bytes = by_) (hzs : z.cells.size = k) (hk0 : 0 < k) (hs : a.eval s = .slice A n c)
    {bd : Addr} {m d : Nat} {ws : List Value} (hx : a.eval x = .slice (some bd) m d) (h : OV e k lo w A n c vs) (hlo : lo ≤ w.heap.size) (hl : ws.length = m * k)
    (hn : ∀ j u, ws[j]? = some u → w.cell? (bd.add j) = some u) (h1 : ∀ u ∈ ws, u.oneCell' = true) (hm : 0 < m) (h63 : n + m ≤ maxLen) (hb : (n + m) * by_ ≤ 140737488355328)
    (hK : ∀ g c' w', OV e k lo w' (some ⟨g, 0, none⟩) (n + m) c' (vs ++ ws) → w.grownBy w' (A.map (·.block)) → (A.map (·.block) = some g ∨ g = w.heap.size) → wpList P ops Q rest (a.put o.dst (.slice (some ⟨g, 0, none⟩) (n + m) c')) w') :
    wpList P ops Q (o :: rest) a w :=
  wpList_plain hgd fun _ hK' => wp_appV s x t ho i z ht hi hz hsize hby hzs hk0 hs hx h hlo hl hn h1 hm h63 hb fun g c' w' h4 h5 h6 => hK' _ _ (hK g c' w' h4 h5 h6)
end

/-- append(b, four bytes ..), the four in a new row. -/
theorem listApp4 {lo : Nat} {w : World} {A : Option Addr} {c : Nat} {l : List UInt8} {ops : Array Oper} {rest : List Oper} {o : Oper} {a : Act} {Q : Exit → Act → World → Prop} {g d : Nat} {m : List UInt8} {fr : Nat × Nat}
    (hgd : o.guard = none) (s x : Operand) (ho : o.op = .call { callee := .builtin .append, args := #[s, x], argTypes := #[22, 22] })
    (hs : a.eval s = .slice A l.length c) (hx : a.eval x = .slice (some ⟨g, 0, none⟩) m.length d) (h : OR 5 lo w A c l) (hlo : lo ≤ w.heap.size)
    (hg : w.heap[g]? = some (.cells (m.map cb).toArray 5 fr)) (hm : 0 < m.length) (hlen : l.length + m.length ≤ 70368744177664)
    (hK : ∀ g' c' w' L, Hid (L = l ++ m) → OR 5 lo w' (some ⟨g', 0, none⟩) c' L → w.grownBy w' (A.map (·.block)) → (A.map (·.block) = some g' ∨ g' = w.heap.size) →
      wpList Tryz.prog ops Q rest (a.put o.dst (.slice (some ⟨g', 0, none⟩) L.length c')) w') :
    wpList Tryz.prog ops Q (o :: rest) a w := by
  obtain ⟨i0, hi0, hz0, hz1, hz2⟩ := info_parts infoU8
  refine wpList_appV (ws := m.map cb) hgd s x _ ho i0 _ Tryz.underlying22 hi0 hz0 hz1 hz2 rfl (by omega) hs hx h.ov hlo (by simp) ?_ ?_ hm (by unfold maxLen; omega) (by omega) ?_
  · intro j u hu
    have e : (⟨g, 0, none⟩ : Addr).add j = ⟨g, j, none⟩ := by unfold Addr.add; split <;> simp_all
    rw [e]
    unfold World.cell?
    rw [hg]
    simpa using hu
  · intro u hu
    obtain ⟨b, _, rfl⟩ := List.mem_map.1 hu
    rfl
  · intro g' c' w' h4 h5 h6
    rw [← List.map_append] at h4
    have := hK g' c' w' (l ++ m) rfl (h4.or (by simp)) h5 h6
    rwa [List.length_append] at this
end Go.Proofs.YthgcfjhnnhigoaaGreat

/- Lists of records in memory. Own work. -/
namespace Go.Proofs.YthgcfjhnnhigoaaGreat
open Go.RowKit

/-- A record, and where its bytes lie. -/
structure RecM where
  num : Int
  A : Option Addr
  c : Nat
  b : List UInt8
instance : Inhabited RecM := ⟨⟨0, none, 0, []⟩⟩
def RecM.r (x : RecM) : Frame.Rec := ⟨x.num, x.b⟩
def RecM.cells (x : RecM) : List Value := [.int .i64 x.num, .slice x.A x.b.length x.c]
def recs (xs : List RecM) : List Frame.Rec := xs.map RecM.r
def cellsOf (xs : List RecM) : List Value := (xs.map RecM.cells).flatten
theorem cellsOf_append (xs ys : List RecM) : cellsOf (xs ++ ys) = cellsOf xs ++ cellsOf ys := by simp [cellsOf]
theorem cellsOf_one (x : RecM) : cellsOf [x] = x.cells := by simp [cellsOf]
theorem recs_append (xs ys : List RecM) : recs (xs ++ ys) = recs xs ++ recs ys := by simp [recs]
theorem recs_take (xs : List RecM) (k : Nat) : recs (xs.take k) = (recs xs).take k := by simp [recs, List.map_take]
theorem recs_length (xs : List RecM) : (recs xs).length = xs.length := by simp [recs]
theorem recs_get (xs : List RecM) (k : Nat) (h : k < xs.length) : (recs xs)[k]'(by rw [recs_length]; exact h) = xs[k].r := by simp [recs]
theorem cellsOf_at (xs : List RecM) : ∀ i (h : i < xs.length), (cellsOf xs)[i * 2]? = some (.int .i64 xs[i].num) ∧ (cellsOf xs)[i * 2 + 1]? = some (.slice xs[i].A xs[i].b.length xs[i].c) := by
  induction xs with
  | nil => intro i h; exact absurd h (by simp)
  | cons x xs ih =>
    intro i h
    have e : cellsOf (x :: xs) = .int .i64 x.num :: .slice x.A x.b.length x.c :: cellsOf xs := by simp [cellsOf, RecM.cells]
    rw [e]
    cases i with
    | zero => exact ⟨rfl, rfl⟩
    | succ j =>
      have := ih j (by simpa using h)
      rw [show (j + 1) * 2 = j * 2 + 1 + 1 by omega]
      simpa using this

/-- The record x is well laid in w, its bytes in blocks from lo on. -/
def Laid (w : World) (lo : Nat) (x : RecM) : Prop := RB w lo x.A x.b ∧ x.b.length ≤ x.c ∧ x.b.length ≤ 9223372036854775807
/-- The records xs lie at a. -/
def RecsAt (w : World) (lo : Nat) (a : Addr) (xs : List RecM) : Prop :=
  lo ≤ a.block ∧ ∀ i (h : i < xs.length), w.cell? (a.add (i * 2)) = some (.int .i64 xs[i].num) ∧ w.cell? (a.add (i * 2 + 1)) = some (.slice xs[i].A xs[i].b.length xs[i].c) ∧ Laid w lo xs[i]
/-- The slice of records (A, n, c) is xs. -/
def Recs (w : World) (lo : Nat) (A : Option Addr) (xs : List RecM) : Prop := 0 < xs.length → ∃ a, A = some a ∧ RecsAt w lo a xs

section
variable {w w' : World} {lo lo' : Nat} {A : Option Addr} {a : Addr} {xs : List RecM} {x : RecM}
theorem RB.block {l : List UInt8} (h : RB w lo A l) (hk : ∀ g, lo ≤ g → g < w.heap.size → w'.heap[g]? = w.heap[g]?) : RB w' lo A l := by
  intro hl
  obtain ⟨ad, h1, h2, h3⟩ := h hl
  refine ⟨ad, h1, h2, fun i hi => (World.cell?_of_block (hk _ ?_ (cell_lt (h3 i hi)))).trans (h3 i hi)⟩
  rw [addr_add_block]; exact h2
theorem Laid.block (h : Laid w lo x) (hk : ∀ g, lo ≤ g → g < w.heap.size → w'.heap[g]? = w.heap[g]?) : Laid w' lo x := ⟨h.1.block hk, h.2⟩
theorem RecsAt.block (h : RecsAt w lo a xs) (hk : ∀ g, lo ≤ g → g < w.heap.size → w'.heap[g]? = w.heap[g]?) : RecsAt w' lo a xs := by
  refine ⟨h.1, fun i hi => ?_⟩
  obtain ⟨h1, h2, h3⟩ := h.2 i hi
  refine ⟨(World.cell?_of_block (hk _ ?_ (cell_lt h1))).trans h1, (World.cell?_of_block (hk _ ?_ (cell_lt h2))).trans h2, h3.block hk⟩
  · rw [addr_add_block]; exact h.1
  · rw [addr_add_block]; exact h.1
theorem Recs.block (h : Recs w lo A xs) (hk : ∀ g, lo ≤ g → g < w.heap.size → w'.heap[g]? = w.heap[g]?) : Recs w' lo A xs := fun hn => by
  obtain ⟨a, ha, ho⟩ := h hn; exact ⟨a, ha, ho.block hk⟩
theorem Recs.ab (h : Recs w lo A xs) (hb : Ab w w') : Recs w' lo A xs := h.block fun g _ hg => hb.out.block g hg
theorem Laid.ab (h : Laid w lo x) (hb : Ab w w') : Laid w' lo x := h.block fun g _ hg => hb.out.block g hg
theorem Laid.mono (h : Laid w lo x) (hl : lo' ≤ lo) : Laid w lo' x := ⟨h.1.mono hl, h.2⟩
theorem Recs.mono (h : Recs w lo A xs) (hl : lo' ≤ lo) : Recs w lo' A xs := fun hn => by
  obtain ⟨a, ha, h1, h2⟩ := h hn
  exact ⟨a, ha, by omega, fun i hi => ⟨(h2 i hi).1, (h2 i hi).2.1, (h2 i hi).2.2.mono hl⟩⟩
theorem Recs.take (h : Recs w lo A xs) (k : Nat) : Recs w lo A (xs.take k) := fun hn => by
  have hn' : 0 < xs.length := by simp at hn; omega
  obtain ⟨a, ha, h1, h2⟩ := h hn'
  refine ⟨a, ha, h1, fun i hi => ?_⟩
  have hi' : i < xs.length := by simp at hi; omega
  rw [List.getElem_take]; exact h2 i hi'
theorem Recs.nil : Recs w lo A [] := fun h => absurd h (by simp)
theorem radd_pos (a : Addr) (m j : Nat) (h : 0 < j) : a.add (m + j) = ⟨(a.add m).block, (a.add m).off + j, none⟩ := by
  rw [← addr_add_add]; exact if_neg (by omega)
/-- A record's two cells, as the walk writes them. -/
theorem Recs.at_ (h : Recs w lo A xs) {k : Nat} (hk : k < xs.length) : ∃ a, A = some a ∧ lo ≤ a.block ∧ w.cell? (a.add (k * 2)) = some (.int .i64 xs[k].num) ∧
    w.cell? ⟨(a.add (k * 2)).block, (a.add (k * 2)).off + 1, none⟩ = some (.slice xs[k].A xs[k].b.length xs[k].c) ∧ Laid w lo xs[k] := by
  obtain ⟨a, ha, h0, h1⟩ := h (by omega)
  obtain ⟨c0, c1, l⟩ := h1 k hk
  rw [radd_pos _ _ _ (by omega)] at c1
  exact ⟨a, ha, h0, c0, c1, l⟩
end

section
variable {e : TypeId} {k lo n c : Nat} {w w' : World} {A : Option Addr} {vs : List Value}
theorem OV.block (h : OV e k lo w A n c vs) (hk : ∀ g, lo ≤ g → g < w.heap.size → w'.heap[g]? = w.heap[g]?) : OV e k lo w' A n c vs := by
  refine ⟨h.1, ?_⟩
  rcases h.2 with h0 | ⟨g, cap, cur, hv, hb, hh, r⟩
  · exact .inl h0
  · refine .inr ⟨g, cap, cur, hv, hb, ?_, r⟩
    have hlt : g < w.heap.size := by
      rcases Nat.lt_or_ge g w.heap.size with h | h
      · exact h
      · rw [Array.getElem?_eq_none h] at hh; cases hh
    rw [hk g hb hlt]; exact hh
theorem OV.rng (h : OV e k lo w A n c vs) : ∀ a, A = some a → lo ≤ a.block ∧ a.block < w.heap.size := by
  intro a ha
  rcases h.2 with ⟨h1, h0⟩ | ⟨g, cap, cur, hv, hb, hh, _⟩
  · injection h1 with h1; rw [ha] at h1; cases h1
  · injection hv with hv; rw [ha] at hv; injection hv with hv; subst hv
    refine ⟨hb, ?_⟩
    rcases Nat.lt_or_ge g w.heap.size with h | h
    · exact h
    · rw [Array.getElem?_eq_none h] at hh; cases hh
theorem OV.nil : OV e k lo w none 0 0 [] := World.ownsRow_nil _ _ _ _
end

/-- The call's own list of records, with bytes of their own. -/
def OwnRecs (lo : Nat) (w : World) (A : Option Addr) (c : Nat) (xs : List RecM) : Prop :=
  OV 108 2 lo w A xs.length c (cellsOf xs) ∧ ∀ x ∈ xs, Laid w lo x ∧ ∀ p q, A = some p → x.A = some q → 0 < x.b.length → q.block ≠ p.block
section
variable {w w' : World} {lo c : Nat} {A : Option Addr} {xs : List RecM}
theorem OwnRecs.nil : OwnRecs lo w none 0 [] := ⟨OV.nil, fun x h => absurd h (by simp)⟩
theorem OwnRecs.ab (h : OwnRecs lo w A c xs) (hb : Ab w w') : OwnRecs lo w' A c xs :=
  ⟨h.1.block fun g _ hg => hb.out.block g hg, fun x hx => ⟨(h.2 x hx).1.ab hb, (h.2 x hx).2⟩⟩
theorem OwnRecs.recs (h : OwnRecs lo w A c xs) : Recs w lo A xs := by
  intro hn
  rcases h.1.2 with ⟨_, h0⟩ | ⟨g, cap, cur, hv, hb, _⟩
  · omega
  · have hA : A = some ⟨g, 0, none⟩ := by injection hv
    have hc := h.1
    unfold OV at hc
    refine ⟨_, hA, hb, fun i hi => ?_⟩
    obtain ⟨c0, c1⟩ := cellsOf_at xs i hi
    exact ⟨hc.cells (g := g) (by rw [hA]; rfl) _ _ c0, hc.cells (g := g) (by rw [hA]; rfl) _ _ c1, (h.2 _ (List.getElem_mem hi)).1⟩
theorem OwnRecs.snoc {g c' : Nat} {x : RecM} (h : OwnRecs lo w A c xs) (hx : Laid w lo x) (hxA : ∀ p q, A = some p → x.A = some q → 0 < x.b.length → q.block ≠ p.block)
    (hv : OV 108 2 lo w' (some ⟨g, 0, none⟩) (xs.length + 1) c' (cellsOf xs ++ x.cells)) (hg : w.grownBy w' (A.map (·.block))) (hk : A.map (·.block) = some g ∨ g = w.heap.size) :
    OwnRecs lo w' (some ⟨g, 0, none⟩) c' (xs ++ [x]) := by
  have key : ∀ y : RecM, Laid w lo y → (∀ p q, A = some p → y.A = some q → 0 < y.b.length → q.block ≠ p.block) → Laid w' lo y ∧ ∀ p q, (some ⟨g, 0, none⟩ : Option Addr) = some p → y.A = some q → 0 < y.b.length → q.block ≠ p.block := by
    intro y hy hyA
    refine ⟨⟨?_, hy.2⟩, ?_⟩
    · intro hl
      refine grown_rb hg hy.1 ?_ hl
      intro q hq he
      cases A with
      | none => cases he
      | some p => exact hyA p q rfl hq hl (by simpa using he)
    · intro p q hp hq hl
      obtain rfl := Option.some.inj hp
      obtain ⟨ad, h1, _, h3⟩ := hy.1 hl
      rw [hq] at h1
      obtain rfl := Option.some.inj h1
      have hlt := cell_lt (h3 0 hl)
      rw [addr_add_block] at hlt
      rcases hk with hk | hk
      · cases A with
        | none => cases hk
        | some p => have := hyA p q rfl hq hl; simp at hk; rwa [hk] at this
      · simp only; omega
  refine ⟨?_, fun y hy => ?_⟩
  · rw [cellsOf_append, cellsOf_one, List.length_append]; exact hv
  · rcases List.mem_append.1 hy with hy | hy
    · exact key y (h.2 y hy).1 (h.2 y hy).2
    · obtain rfl : y = x := by simpa using hy
      exact key y hx hxA
end
end Go.Proofs.YthgcfjhnnhigoaaGreat

/- A record appended to a list of the call's own; room made. Own work. -/
namespace Go.Proofs.YthgcfjhnnhigoaaGreat
open Go.RowKit

theorem infoRec : (Tryz.prog.info? 108).map (fun i => (i.zero, i.size, i.bytes)) = some (some (.agg #[.int .i64 0, .slice none 0 0]), 2, 32) := by kernel_rfl

section
variable {lo : Nat} {w : World} {A : Option Addr} {c : Nat} {xs : List RecM} {x : RecM} {o : Oper} {a : Act} {g d : Nat} {fr : Nat × Nat}
theorem wp_appR {K : Act → World → Prop} {Q : Exit → Act → World → Prop} (s y : Operand) (ho : o.op = .call { callee := .builtin .append, args := #[s, y], argTypes := #[143, 143] })
    (hs : a.eval s = .slice A xs.length c) (hy : a.eval y = .slice (some ⟨g, 0, none⟩) 1 d) (h : OwnRecs lo w A c xs) (hlo : lo ≤ w.heap.size)
    (hg : w.heap[g]? = some (.cells #[.int .i64 x.num, .slice x.A x.b.length x.c] 108 fr)) (hx : Laid w lo x) (hxA : ∀ p q, A = some p → x.A = some q → 0 < x.b.length → q.block ≠ p.block) (hlen : xs.length ≤ 1000000)
    (hK : ∀ g' c' w' ys, Hid (ys = xs ++ [x]) → OwnRecs lo w' (some ⟨g', 0, none⟩) c' ys → w.grownBy w' (A.map (·.block)) → (A.map (·.block) = some g' ∨ g' = w.heap.size) → K (a.put o.dst (.slice (some ⟨g', 0, none⟩) ys.length c')) w') : o.wp Tryz.prog a w K Q := by
  obtain ⟨i0, hi0, hz0, hz1, hz2⟩ := info_parts infoRec
  refine wp_appV (ws := x.cells) s y _ ho i0 _ Tryz.underlying143 hi0 hz0 hz1 hz2 rfl (by omega) hs hy h.1 hlo rfl ?_ ?_ (by omega) (by unfold maxLen; omega) (by omega) ?_
  · intro j u hu
    have e : (⟨g, 0, none⟩ : Addr).add j = ⟨g, j, none⟩ := by unfold Addr.add; split <;> simp_all
    rw [e]
    unfold World.cell?
    rw [hg]
    simpa [RecM.cells] using hu
  · intro u hu
    have hu' : u = .int .i64 x.num ∨ u = .slice x.A x.b.length x.c := by simpa [RecM.cells] using hu
    rcases hu' with rfl | rfl <;> rfl
  · intro g' c' w' h4 h5 h6
    have := hK g' c' w' (xs ++ [x]) rfl (h.snoc hx hxA h4 h5 h6) h5 h6
    rwa [List.length_append] at this
theorem listAppR {ops : Array Oper} {rest : List Oper} {Q : Exit → Act → World → Prop} (hgd : o.guard = none) (s y : Operand) (ho : o.op = .call { callee := .builtin .append, args := #[s, y], argTypes := #[143, 143] })
    (hs : a.eval s = .slice A xs.length c) (hy : a.eval y = .slice (some ⟨g, 0, none⟩) 1 d) (h : OwnRecs lo w A c xs) (hlo : lo ≤ w.heap.size)
    (hg : w.heap[g]? = some (.cells #[.int .i64 x.num, .slice x.A x.b.length x.c] 108 fr)) (hx : Laid w lo x) (hxA : ∀ p q, A = some p → x.A = some q → 0 < x.b.length → q.block ≠ p.block) (hlen : xs.length ≤ 1000000)
    (hK : ∀ g' c' w' ys, Hid (ys = xs ++ [x]) → OwnRecs lo w' (some ⟨g', 0, none⟩) c' ys → w.grownBy w' (A.map (·.block)) → (A.map (·.block) = some g' ∨ g' = w.heap.size) → wpList Tryz.prog ops Q rest (a.put o.dst (.slice (some ⟨g', 0, none⟩) ys.length c')) w') :
    wpList Tryz.prog ops Q (o :: rest) a w :=
  wpList_plain hgd fun _ hK' => wp_appR s y ho hs hy h hlo hg hx hxA hlen fun g' c' w' ys e h4 h5 h6 => hK' _ _ (hK g' c' w' ys e h4 h5 h6)
end

/-- make([]byte, 0, n): what it lays, under a name. -/
theorem make_room (n : Nat) (hn : n ≤ 16777216) (v : Int) (hv : v = (n : Int)) : ∃ Z : Array Value,
    (∀ w : World, (Instr.makeSlice 22 (.int .i64 0) (.int .i64 v)).run Tryz.prog w = .ok (.slice (some ⟨w.heap.size, 0, none⟩) 0 n) (w.alloc (.cells Z 5))) ∧
    Hid (∀ (w : World) (g lo : Nat), lo ≤ g → w.heap[g]? = some (.cells Z 5) → OR 5 lo w (some ⟨g, 0, none⟩) n []) := by
  subst hv
  obtain ⟨i0, hi, hz, hs, hb⟩ := info_parts infoU8
  refine ⟨madeCells (Value.int .u8 0).cells n, fun w => ?_, ?_⟩
  · have := run_makeSlice (P := Tryz.prog) w 22 5 i0 _ Tryz.underlying22 hi hz .i64 .i64 0 n (by omega) (by omega) (by rw [hs]; simp; omega) (by rw [hb]; omega) (by omega)
    rw [hs, Int.toNat_natCast, Nat.mul_one] at this
    exact this
  · unfold Hid
    intro w g lo hlo hg
    have ht : (madeCells #[Value.int .u8 0] n).toList = List.replicate n (.int .u8 0) := toList_madeCells_one _ _
    refine ⟨rfl, .inr ⟨g, n, _, rfl, hlo, hg, Nat.zero_le _, by unfold maxLen; omega, ?_, ?_⟩⟩
    · have h1 := congrArg List.length ht
      simpa [Value.cells] using h1
    · simp
end Go.Proofs.YthgcfjhnnhigoaaGreat

/- Side goals that are always closed the same way, under names (the way stands in the theorem, not at each use). Own work. -/
namespace Go.Proofs.YthgcfjhnnhigoaaGreat
theorem stA {α : Type _} {l : List α} {i : Nat} {a : α} : l.toArray.setIfInBounds i a = (l.set i a).toArray := by simp
theorem st0 {α : Type _} {a b : α} {l : List α} : (a :: l).set 0 b = b :: l := rfl
theorem st1 {α : Type _} {a b : α} {l : List α} {n : Nat} : (a :: l).set (n + 1) b = a :: l.set n b := rfl
theorem wnA {p : Prop} (h : p := by first | (simp; done) | omega | (simp; omega)) : p := h
theorem abA {w w' : World} (h : Ab w w' := by repeat (first | with_reducible exact Ab.refl _ | with_reducible assumption | with_reducible refine Ab.drew ?_ | with_reducible refine Ab.drewN ?_ _ | with_reducible refine Ab.alloc ?_ _ | with_reducible refine Ab.trans ?_ (by assumption) | with_reducible refine Ab.set ?_ (by first | (simp; done) | omega | (simp; omega)) _)) : Ab w w' := h
theorem ckA {p : Prop} (h : p := by repeat (first | with_reducible assumption | (simp [go_sem]; done) | with_reducible apply cell_alloc | with_reducible apply cell_drew | with_reducible apply cell_drewN | (with_reducible apply Ab.at; with_reducible assumption) | (with_reducible refine cell_set ?_ ?_; rotate_left; focus (first | (simp; done) | (simp; omega))) | (with_reducible refine cell_setb ?_ ?_; rotate_left; focus (first | omega | (simp only; omega) | (simp; omega))))) : p := h
theorem orA {p : Prop} (h : p := by repeat (first | with_reducible exact OR.none_ | with_reducible assumption | with_reducible refine OR.drew ?_ | with_reducible refine OR.drewN ?_ _ | with_reducible refine OR.alloc ?_ _ | (with_reducible refine OR.setNew ?_ _ ?_ _; rotate_left; focus (first | (simp; done) | omega | (simp; omega))) | with_reducible refine OR.set ?_ (by first | (simp; done) | omega | (simp; omega)) _ | (with_reducible refine OR.keep ?_ (by assumption)))) : p := h
open Go.RowKit
section
variable {P : Program} {ops : Array Oper} {Q : Exit → Act → World → Prop} {md : Region.Mode} {S : World → Prop} {oi : Oper} {fuel : Nat} {listed : Array Bool} {a : Act} {w : World}
theorem rtA (i : Nat) (v : Value) (h : wpAnyH P md ops Q S fuel (listed.setIfInBounds i true) (a.put oi.dst v) w)
    (hi : ops[i]? = some oi := by rfl) (hs : Region.noSelect ops = true := by kernel_rfl) (hf : Region.free md ops listed i = true := by kernel_rfl) (hr : (Region.ready md ops listed).contains i = true := by kernel_rfl)
    (hy : ∀ w, S w → (execOp a.eval oi).run P w = .ok (.value v) w := by intro w hSw; (try dsimp only at hSw); go_simp; (try with_reducible rfl))
    (hw : Region.wanted oi (yielded ops a.tmps) = true := by kernel_rfl) (hQ : ∀ c a w, Q (.panic c) (a.put oi.dst v) w → Q (.panic c) a w := by exact fun _ _ _ h => h) (hS : S w := by assumption) : wpAnyH P md ops Q S (fuel + 1) listed a w :=
  wpAnyH_take hi hs hf hr hQ (Or.inl ⟨hw, hy⟩) hS h
theorem rtS (i : Nat) (h : wpAnyH P md ops Q S fuel (listed.setIfInBounds i true) (a.put oi.dst undef) w)
    (hi : ops[i]? = some oi := by rfl) (hs : Region.noSelect ops = true := by kernel_rfl) (hf : Region.free md ops listed i = true := by kernel_rfl) (hr : (Region.ready md ops listed).contains i = true := by kernel_rfl)
    (hw : Region.wanted oi (yielded ops a.tmps) = false := by kernel_rfl) (hQ : ∀ c a w, Q (.panic c) (a.put oi.dst undef) w → Q (.panic c) a w := by exact fun _ _ _ h => h) (hS : S w := by assumption) : wpAnyH P md ops Q S (fuel + 1) listed a w :=
  wpAnyH_take hi hs hf hr hQ (Or.inr ⟨hw, rfl⟩) hS h
theorem rtL (i : Nat) (cs : List Value) (o : Nat) {b : Nat} (hR : ∀ w, S w → w.rangeAt b o cs) {ty : TypeId} {d : TypeDesc} (hu : P.underlying ty = some d)
    (h : wpAnyH P md ops Q S fuel (listed.setIfInBounds i true) (a.put oi.dst (.agg cs.toArray)) w) {x : Operand}
    (hi : ops[i]? = some oi := by rfl) (ho : oi.op = .load ty x := by rfl) (hx : a.eval x = .pointer (some ⟨b, o, none⟩) := by rfl) (hd : d.isRow = true := by rfl) (hz : (P.info? ty).map (·.size) = some cs.length := by kernel_rfl)
    (hs : Region.noSelect ops = true := by kernel_rfl) (hf : Region.free md ops listed i = true := by kernel_rfl) (hr : (Region.ready md ops listed).contains i = true := by kernel_rfl)
    (hw : Region.wanted oi (yielded ops a.tmps) = true := by kernel_rfl) (hQ : ∀ c a' w, Q (.panic c) (a'.put oi.dst (.agg cs.toArray)) w → Q (.panic c) a' w := by exact fun _ _ _ h => h) (hS : S w := by assumption) : wpAnyH P md ops Q S (fuel + 1) listed a w :=
  wpAnyH_take hi hs hf hr hQ (yieldsIf_load_mid hw ty x ho b o hx cs d hR hu hd hz) hS h
theorem r1A (i : Nat) (h : ∀ K' : Act → World → Prop, Shut (∀ a w, S w → (S w → wpAnyH P md ops Q S fuel (listed.setIfInBounds i true) a w) → K' a w) → if Region.wanted oi (yielded ops a.tmps) = true then Oper.wp P oi a w K' Q else K' (a.put oi.dst undef) w)
    (hi : ops[i]? = some oi := by rfl) (hr : Region.ready md ops listed = [i] := by kernel_rfl) : wpAnyH P md ops Q S (fuel + 1) listed a w :=
  wpAnyH_ready hr (by simp) (AllReadyH.cons hi h AllReadyH.nil)
end
end Go.Proofs.YthgcfjhnnhigoaaGreat
