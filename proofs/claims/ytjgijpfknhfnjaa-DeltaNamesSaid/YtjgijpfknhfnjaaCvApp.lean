/- Bytes appended to a row of the call's own: in which block the new row lies. Own work. -/
import Derived.Test.YtjgijpfknhfnjaaCvVals
set_option linter.unusedVariables false
set_option linter.unusedSimpArgs false
namespace Go.Proofs.Ytjgijpfknhfnjaa
open Go.RowKit

theorem VB.grw {w w' : World} {b : Nat} {vs : List Value} {r : Option Nat} (h : VB w b vs) (k : w.grownBy w' r) (hr : r ≠ some b) : VB w' b vs := by
  have hb := k.block b h.lt (fun e => hr e.symm)
  refine ⟨Nat.lt_of_lt_of_le h.lt k.size, fun i v hi => ?_, fun i => ?_⟩
  · exact (World.cell?_of_block (a := ⟨b, i, none⟩) hb).trans (h.q i v hi)
  · refine Eq.trans ?_ (h.g i)
    unfold World.frozen?
    rw [show (⟨b, i, none⟩ : Addr).block = b from rfl, hb]
/-- The row that follows lies where the elder one lies, or in a block laid since. -/
def Nxt (w : World) (A A' : Option Addr) : Prop := ∀ g, A'.map (·.block) = some g → A.map (·.block) = some g ∨ w.heap.size ≤ g
theorem Nxt.refl (w : World) (A : Option Addr) : Nxt w A A := fun g h => .inl h
/-- Bytes l, then m, in a row of the call's own. -/
structure Apd (lo : Nat) (w : World) (A : Option Addr) (w' : World) (A' : Option Addr) (c' : Nat) (L : List UInt8) : Prop where
  o : OR 5 lo w' A' c' L
  g : w.grownBy w' (A.map (·.block))
  n : Nxt w A A'
theorem grown_step {a b c : World} {A A' : Option Addr} (h : a.grownBy b (A.map (·.block))) (n : Nxt a A A') (k : b.grownBy c (A'.map (·.block))) : a.grownBy c (A.map (·.block)) :=
  ⟨k.os.trans h.os, k.tape.trans h.tape, k.output.trans h.output, Nat.le_trans h.size k.size, fun g hg hne => by
    refine (k.block g (Nat.lt_of_lt_of_le hg h.size) fun e => ?_).trans (h.block g hg hne)
    rcases n g e.symm with h1 | h1
    · exact hne h1.symm
    · omega⟩
theorem Nxt.step {a b : World} {A A' A'' : Option Addr} (h : Nxt a A A') (k : Nxt b A' A'') (hs : a.heap.size ≤ b.heap.size) : Nxt a A A'' := fun g e => by
  rcases k g e with h1 | h1
  · exact h g h1
  · exact .inr (by omega)
theorem Apd.step {lo : Nat} {a b c : World} {A A' A'' : Option Addr} {c1 c2 : Nat} {L M : List UInt8} (h : Apd lo a A b A' c1 L) (k : Apd lo b A' c A'' c2 M) : Apd lo a A c A'' c2 M :=
  ⟨k.o, grown_step h.g h.n k.g, h.n.step k.n h.g.size⟩
theorem Apd.ab {lo : Nat} {a b c : World} {A A' : Option Addr} {c1 : Nat} {L : List UInt8} (h : Apd lo a A b A' c1 L) (k : Ab b c) : Apd lo a A c A' c1 L :=
  ⟨h.o.keep k, grown_step h.g h.n (⟨k.out.os, k.out.tape, k.out.output, k.out.size, fun g hg _ => k.out.block g hg⟩), h.n⟩
theorem Apd.pre {lo : Nat} {a b c : World} {A A' : Option Addr} {c1 : Nat} {L : List UInt8} (k : Ab a b) (h : Apd lo b A c A' c1 L) : Apd lo a A c A' c1 L :=
  ⟨h.o, grown_step (A' := A) (⟨k.out.os, k.out.tape, k.out.output, k.out.size, fun g hg _ => k.out.block g hg⟩) (Nxt.refl _ _) h.g, fun g e => by
    rcases h.n g e with h1 | h1
    · exact .inl h1
    · exact .inr (Nat.le_trans k.size h1)⟩
/-- What lay in other blocks, from none of which the row is, stays. -/
theorem Apd.keep {lo : Nat} {a b : World} {A A' : Option Addr} {c1 : Nat} {L : List UInt8} (h : Apd lo a A b A' c1 L) {B : Nat} (hB : ∀ g, A.map (·.block) = some g → B ≤ g) : ∀ g, g < B → g < a.heap.size → b.heap[g]? = a.heap[g]? :=
  fun g hg hl => h.g.block g hl fun e => absurd (hB g e.symm) (by omega)
theorem OR.low {e : TypeId} {lo : Nat} {w : World} {A : Option Addr} {c : Nat} {l : List UInt8} (h : OR e lo w A c l) : ∀ g, A.map (·.block) = some g → lo ≤ g := by
  intro g e
  cases hA : A with
  | none => rw [hA] at e; cases e
  | some a => rw [hA] at e; have := (h.rng a hA).1; simp at e; omega
theorem run_app_nil {P : Program} {e : TypeId} {lo : Nat} {w : World} {A : Option Addr} {c : Nat} {l : List UInt8} (t ty : TypeId) (i : TypeInfo) (ht : P.underlying t = some (.slice e)) (hi : P.info? e = some i) (hsize : i.size = 1) (h : OR e lo w A c l) (B : Option Addr) (d : Nat) :
    (Builtin.append_ #[t, t] ty #[.slice A l.length c, .slice B 0 d]).run P w = .ok (.slice A l.length c) w := by
  rcases B with _ | bd
  · rcases h.out.2 with ⟨hv, h0⟩ | ⟨g, cap, cur, hv, _, _, hnc, _⟩
    · injection hv with h1 h2 h3; subst h1 h3
      have hl : l = [] := List.eq_nil_of_length_eq_zero h0
      subst hl
      simp [Builtin.append_, run_underlying ht, sizeOf, typeInfo, hi, Builtin.lenOf, Builtin.firstCells]
    · injection hv with h1 h2 h3; subst h1 h3
      simp [Builtin.append_, run_underlying ht, sizeOf, typeInfo, hi, Builtin.lenOf, Builtin.firstCells, hnc, storeCells]
  · rcases h.out.2 with ⟨hv, h0⟩ | ⟨g, cap, cur, hv, _, hh, hnc, _⟩
    · injection hv with h1 h2 h3; subst h1 h3
      have hl : l = [] := List.eq_nil_of_length_eq_zero h0
      subst hl
      simp [Builtin.append_, run_underlying ht, sizeOf, typeInfo, hi, Builtin.lenOf, Builtin.firstCells, loadCells, loadCellsFrom]
    · injection hv with h1 h2 h3; subst h1 h3
      simp [Builtin.append_, run_underlying ht, sizeOf, typeInfo, hi, Builtin.lenOf, Builtin.firstCells, hnc, storeCells, loadCells, loadCellsFrom]
theorem run_app_nxt {lo : Nat} {w : World} {A : Option Addr} {c : Nat} {l : List UInt8} {B : Option Addr} {d lb : Nat} {m : List UInt8} (ty : TypeId) (h : OR 5 lo w A c l) (hlo : lo ≤ w.heap.size) (hr : RB w lb B m) (hd : m.length ≤ d) (hlen : l.length + m.length ≤ 70368744177664) :
    ∃ A' c' w', (Builtin.append_ #[22, 22] ty #[.slice A l.length c, .slice B m.length d]).run Try.prog w = .ok (.slice A' (l ++ m).length c') w' ∧ Apd lo w A w' A' c' (l ++ m) := by
  obtain ⟨i0, hi0, hz0, hz1, hz2⟩ := info_parts infoU8
  rcases Nat.eq_zero_or_pos m.length with h0 | hpos
  · have hm : m = [] := List.eq_nil_of_length_eq_zero h0
    subst hm
    have hrun2 := run_app_nil (P := Try.prog) 22 ty i0 Try.underlying22 hi0 hz1 h B d
    refine ⟨A, c, w, ?_, ?_⟩
    · rw [List.append_nil]; exact hrun2
    · rw [List.append_nil]
      exact ⟨h, World.grownBy.refl w _, Nxt.refl _ _⟩
  · obtain ⟨bd, rfl, _, hcell⟩ := hr hpos
    obtain ⟨g, c', w', hrun, h4, h5, h6⟩ := run_appV (P := Try.prog) 22 ty i0 _ Try.underlying22 hi0 hz0 hz1 hz2 rfl (by omega) h.ov hlo bd m.length d (m.map cb) (by simp)
      (by
        intro j u hu
        have hj : j < m.length := by simpa using (List.getElem?_eq_some_iff.1 hu).1
        have : u = cb m[j] := by
          rw [List.getElem?_map, List.getElem?_eq_getElem hj] at hu
          simpa using hu.symm
        rw [this]; exact hcell j hj)
      (by intro u hu; obtain ⟨b, _, rfl⟩ := List.mem_map.1 hu; rfl) hpos (by unfold maxLen; omega) (by omega)
    rw [← List.map_append] at h4
    refine ⟨some ⟨g, 0, none⟩, c', w', by rw [List.length_append]; exact hrun, h4.or (by simp), h5, fun k e => ?_⟩
    obtain rfl : g = k := by simpa using e
    rcases h6 with h6 | h6
    · exact .inl h6
    · exact .inr (by omega)
section
variable {lo : Nat} {w : World} {A : Option Addr} {c : Nat} {l : List UInt8} {ops : Array Oper} {rest : List Oper} {o : Oper} {a : Act} {K : Act → World → Prop} {Q : Exit → Act → World → Prop} {E : Prop} {B : Option Addr} {n d lb : Nat} {m : List UInt8}
theorem wpApn (s x : Operand) (ho : o.op = .call { callee := .builtin .append, args := #[s, x], argTypes := #[22, 22] })
    (hs : a.eval s = .slice A l.length c) (hx : a.eval x = .slice B n d) (hn : m.length = n) (h : OR 5 lo w A c l) (hlo : lo ≤ w.heap.size) (hr : RB w lb B m) (hd : m.length ≤ d) (hlen : l.length + m.length ≤ 70368744177664)
    (hk : ∀ A' c' w' L, Hid (L = l ++ m) → Apd lo w A w' A' c' L → K (a.put o.dst (.slice A' L.length c')) w') : o.wp Try.prog a w K Q := by
  subst hn
  obtain ⟨A', c', w', hrun, h4⟩ := run_app_nxt o.type h hlo hr hd hlen
  unfold Oper.wp execOp
  simp only [ho, resolve, invoke, builtin, Sem.run_bind, Sem.run_pure, Result.andThen_ok, List.map_toArray, List.map_cons, List.map_nil, hs, hx, hrun]
  exact hk A' c' w' _ rfl h4
theorem listApn (hgd : o.guard = none) (s x : Operand) (ho : o.op = .call { callee := .builtin .append, args := #[s, x], argTypes := #[22, 22] })
    (hs : a.eval s = .slice A l.length c) (hx : a.eval x = .slice B n d) (hn : m.length = n) (h : OR 5 lo w A c l) (hlo : lo ≤ w.heap.size) (hr : RB w lb B m) (hd : m.length ≤ d) (hlen : l.length + m.length ≤ 70368744177664)
    (hk : ∀ A' c' w' L, Hid (L = l ++ m) → Apd lo w A w' A' c' L → wpList Try.prog ops Q rest (a.put o.dst (.slice A' L.length c')) w') : wpList Try.prog ops Q (o :: rest) a w :=
  wpList_plain hgd fun _ hK => wpApn s x ho hs hx hn h hlo hr hd hlen fun A' c' w' L hL h4 => hK _ _ (hk A' c' w' L hL h4)
theorem stepApn (hgd : o.guard = none) (s x : Operand) (ho : o.op = .call { callee := .builtin .append, args := #[s, x], argTypes := #[22, 22] })
    (hs : a.eval s = .slice A l.length c) (hx : a.eval x = .slice B n d) (hn : m.length = n) (h : OR 5 lo w A c l) (hlo : lo ≤ w.heap.size) (hr : RB w lb B m) (hd : m.length ≤ d) (hlen : l.length + m.length ≤ 70368744177664)
    (hk : ∀ A' c' w' L, Hid (L = l ++ m) → Apd lo w A w' A' c' L → K (a.put o.dst (.slice A' L.length c')) w') : if Region.wanted o (yielded ops a.tmps) = true then Oper.wp Try.prog o a w K Q else E := by
  have hw : Region.wanted o (yielded ops a.tmps) = true := by simp [Region.wanted, hgd]
  rw [if_pos hw]
  exact wpApn s x ho hs hx hn h hlo hr hd hlen hk
/-- append(b, one byte), the byte in a new row. -/
theorem rb_one {g : Nat} {v : Int} {x : UInt8} {fr : Nat × Nat} (hg : w.heap[g]? = some (.cells #[.int .u8 v] 5 fr)) (hv : v = (x.toNat : Int)) : RB w 0 (some ⟨g, 0, none⟩) [x] := by
  subst hv
  intro _
  refine ⟨_, rfl, Nat.zero_le _, fun i hi => ?_⟩
  have : i = 0 := by simp at hi; omega
  subst this
  unfold Addr.add World.cell?
  simp [hg, cb]
end
end Go.Proofs.Ytjgijpfknhfnjaa
