/- What all texts of layer 8 stand on: side goals, variables as lists of cells, rows of words. Own work. -/
import Derived.Test.YtjgijpfknhfnjaaProg
import Derived.Test.YtjgijpfknhfnjaaMem
import Derived.Test.YtjgijpfknhfnjaaMem2
import Derived.Test.YtjgijpfknhfnjaaPostB
import Derived.Test.YtjgijpfknhfnjaaMake
import Derived.Test.YtjgijpfknhfnjaaLit
import Derived.Test.YtjgijpfknhfnjaaSha
import Derived.Deep.MidRow
import Derived.Laws.ResultCell
import Derived.OwnWalk
import Derived.Deep.RegionHeld
import Derived.ChangeKeysEq
import Derived.Laws.StructEq
import Derived.Laws.Entries
import Derived.WalkKit
import Derived.Lib.Hide
import Derived.IntWalk
set_option linter.unusedVariables false
set_option linter.unusedSimpArgs false
namespace Go.Proofs.Ytjgijpfknhfnjaa
theorem stA {α : Type _} {l : List α} {i : Nat} {a : α} : l.toArray.setIfInBounds i a = (l.set i a).toArray := by simp
theorem st0 {α : Type _} {a b : α} {l : List α} : (a :: l).set 0 b = b :: l := rfl
theorem st1 {α : Type _} {a b : α} {l : List α} {n : Nat} : (a :: l).set (n + 1) b = a :: l.set n b := rfl
theorem wnA {p : Prop} (h : p := by first | (simp; done) | omega | (simp; omega)) : p := h
theorem abA {w w' : World} (h : Ab w w' := by repeat (first | with_reducible exact Ab.refl _ | with_reducible assumption | with_reducible refine Ab.drew ?_ | with_reducible refine Ab.drewN ?_ _ | with_reducible refine Ab.alloc ?_ _ | with_reducible refine Ab.trans ?_ (by assumption) | with_reducible refine Ab.set ?_ (by first | (simp; done) | omega | (simp; omega)) _)) : Ab w w' := h
theorem ckA {p : Prop} (h : p := by repeat (first | with_reducible assumption | (simp [go_sem]; done) | with_reducible apply cell_alloc | with_reducible apply cell_drew | with_reducible apply cell_drewN | (with_reducible apply Ab.at; with_reducible assumption) | (with_reducible refine cell_set ?_ ?_; rotate_left; focus (first | (simp; done) | (simp; omega))) | (with_reducible refine cell_setb ?_ ?_; rotate_left; focus (first | omega | (simp only; omega) | (simp; omega))))) : p := h
theorem orA {p : Prop} (h : p := by repeat (first | with_reducible exact OR.none_ | with_reducible assumption | with_reducible refine OR.drew ?_ | with_reducible refine OR.drewN ?_ _ | with_reducible refine OR.alloc ?_ _ | (with_reducible refine OR.setNew ?_ _ ?_ _; rotate_left; focus (first | (simp; done) | omega | (simp; omega))) | with_reducible refine OR.set ?_ (by first | (simp; done) | omega | (simp; omega)) _ | (with_reducible refine OR.keep ?_ (by assumption)))) : p := h
open Go.RowKit
section
variable {P : Program} {ops : Array Oper} {Q : Exit → Act → World → Prop} {md : Region.Mode} {S : World → Prop} {oi : Oper} {fuel : Nat} {listed : Array Bool} {a : Act} {w : World}
theorem rtA (i : Nat) (v : Value) (h : wpAnyH P md ops Q S fuel (listed.setIfInBounds i true) (a.put oi.dst v) w)
    (hi : ops[i]? = some oi := by rfl) (hs : Region.noSelect ops = true := by kernel_rfl) (hf : Region.free md ops listed i = true := by kernel_rfl) (hr : (Region.ready md ops listed).contains i = true := by kernel_rfl)
    (hy : ∀ w, S w → (execOp a.eval oi).run P w = .ok (.value v) w := by intro w hSw; (try dsimp only at hSw); go_simp; (try with_reducible rfl))
    (hw : Region.wanted oi (yielded ops a.tmps) = true := by kernel_rfl) (hQ : ∀ c a w, Q (.panic c) (a.put oi.dst v) w → Q (.panic c) a w := by exact fun _ _ _ h => h) (hS : S w := by assumption) : wpAnyH P md ops Q S (fuel + 1) listed a w :=
  wpAnyH_take hi hs hf hr hQ (Or.inl ⟨hw, hy⟩) hS h
theorem rtS (i : Nat) (h : wpAnyH P md ops Q S fuel (listed.setIfInBounds i true) (a.put oi.dst undef) w)
    (hi : ops[i]? = some oi := by rfl) (hs : Region.noSelect ops = true := by kernel_rfl) (hf : Region.free md ops listed i = true := by kernel_rfl) (hr : (Region.ready md ops listed).contains i = true := by kernel_rfl)
    (hw : Region.wanted oi (yielded ops a.tmps) = false := by kernel_rfl) (hQ : ∀ c a w, Q (.panic c) (a.put oi.dst undef) w → Q (.panic c) a w := by exact fun _ _ _ h => h) (hS : S w := by assumption) : wpAnyH P md ops Q S (fuel + 1) listed a w :=
  wpAnyH_take hi hs hf hr hQ (Or.inr ⟨hw, rfl⟩) hS h
theorem rtL (i : Nat) (cs : List Value) (o : Nat) {b : Nat} (hR : ∀ w, S w → w.rangeAt b o cs) {ty : TypeId} {d : TypeDesc} (hu : P.underlying ty = some d)
    (h : wpAnyH P md ops Q S fuel (listed.setIfInBounds i true) (a.put oi.dst (.agg cs.toArray)) w) {x : Operand}
    (hi : ops[i]? = some oi := by rfl) (ho : oi.op = .load ty x := by rfl) (hx : a.eval x = .pointer (some ⟨b, o, none⟩) := by rfl) (hd : d.isRow = true := by rfl) (hz : (P.info? ty).map (·.size) = some cs.length := by kernel_rfl)
    (hs : Region.noSelect ops = true := by kernel_rfl) (hf : Region.free md ops listed i = true := by kernel_rfl) (hr : (Region.ready md ops listed).contains i = true := by kernel_rfl)
    (hw : Region.wanted oi (yielded ops a.tmps) = true := by kernel_rfl) (hQ : ∀ c a' w, Q (.panic c) (a'.put oi.dst (.agg cs.toArray)) w → Q (.panic c) a' w := by exact fun _ _ _ h => h) (hS : S w := by assumption) : wpAnyH P md ops Q S (fuel + 1) listed a w :=
  wpAnyH_take hi hs hf hr hQ (yieldsIf_load_mid hw ty x ho b o hx cs d hR hu hd hz) hS h
theorem r1A (i : Nat) (h : ∀ K' : Act → World → Prop, Shut (∀ a w, S w → (S w → wpAnyH P md ops Q S fuel (listed.setIfInBounds i true) a w) → K' a w) → if Region.wanted oi (yielded ops a.tmps) = true then Oper.wp P oi a w K' Q else K' (a.put oi.dst undef) w)
    (hi : ops[i]? = some oi := by rfl) (hr : Region.ready md ops listed = [i] := by kernel_rfl) : wpAnyH P md ops Q S (fuel + 1) listed a w :=
  wpAnyH_ready hr (by simp) (AllReadyH.cons hi h AllReadyH.nil)
end
/-- A variable in block b, its cells vs. -/
structure VB (w : World) (b : Nat) (vs : List Value) : Prop where
  lt : b < w.heap.size
  q : ∀ k v, vs[k]? = some v → w.cell? ⟨b, k, none⟩ = some v
  g : ∀ k, w.frozen? ⟨b, k, none⟩ = false
section
variable {w w' : World} {b : Nat} {vs : List Value} {p : Addr} {u : Value}
theorem VB.at (h : VB w b vs) (k : Nat) {v : Value} (hv : vs[k]? = some v) : w.cell? ⟨b, k, none⟩ = some v := h.q k v hv
theorem VB.ab (h : VB w b vs) (k : Ab w w') : VB w' b vs := ⟨Nat.lt_of_lt_of_le h.lt k.size, fun i v hv => k.at (h.q i v hv), fun i => k.fr h.lt (h.g i)⟩
theorem VB.box {xs : Array Value} {T : TypeId} (hb : w.heap[b]? = some (.cells xs T (0, 0))) : VB w b xs.toList := by
  have hlt : b < w.heap.size := by
    rcases Nat.lt_or_ge b w.heap.size with h | h
    · exact h
    · rw [Array.getElem?_eq_none h] at hb; cases hb
  refine ⟨hlt, fun k v hv => ?_, fun k => ?_⟩
  · simpa [World.cell?, hb] using hv
  · simp [World.frozen?, hb]
theorem VB.other (h : VB w b vs) (hp : p.block ≠ b) (u : Value) : VB (w.setCell p u) b vs := by
  have hb : (w.setCell p u).heap[b]? = w.heap[b]? := Below.heap_setCell w p u b (by omega)
  refine ⟨by simpa using h.lt, fun i v hv => ?_, fun i => ?_⟩
  · exact (World.cell?_of_block (a := ⟨b, i, none⟩) hb).trans (h.q i v hv)
  · refine Eq.trans ?_ (h.g i)
    unfold World.frozen?
    rw [show (⟨b, i, none⟩ : Addr).block = b from rfl, hb]
theorem VB.set (h : VB w b vs) (k : Nat) (hk : k < vs.length) (u : Value) : VB (w.setCell ⟨b, k, none⟩ u) b (vs.set k u) := by
  have hq : ∀ i, i < vs.length → ∃ v, w.cell? ⟨b, i, none⟩ = some v := fun i hi => ⟨vs[i], h.q i _ (by simp [hi])⟩
  refine ⟨by simpa using h.lt, fun i v hv => ?_, fun i => ?_⟩
  · have hi : i < vs.length := by
      rcases Nat.lt_or_ge i vs.length with hi | hi
      · exact hi
      · rw [List.getElem?_eq_none (by simpa using hi)] at hv; cases hv
    obtain ⟨v0, hv0⟩ := hq i hi
    by_cases e : k = i
    · subst e
      rw [List.getElem?_set_self hk] at hv
      cases hv
      simp [go_sem, hv0]
    · rw [List.getElem?_set_ne e] at hv
      have := h.q i v hv
      simp [go_sem, this, Ne.symm e]
  · have := h.g i
    simpa [go_sem] using this
end
/-- Cells written one behind the other, from the cell k on. -/
def wsetN (w : World) (b : Nat) : Nat → List Value → World
  | _, [] => w
  | k, v :: vs => wsetN (w.setCell ⟨b, k, none⟩ v) b (k + 1) vs
theorem setN_size (b : Nat) : ∀ (us : List Value) (w : World) (k : Nat), (wsetN w b k us).heap.size = w.heap.size := by
  intro us
  induction us with
  | nil => intro w k; rfl
  | cons u us ih => intro w k; exact (ih _ _).trans (by simp)
theorem VB.setN_other {w : World} {b c : Nat} {vs : List Value} (us : List Value) (h : VB w c vs) (hne : c ≠ b) : ∀ k, VB (wsetN w b k us) c vs := by
  intro k
  induction us generalizing w k with
  | nil => exact h
  | cons u us ih => exact ih (h.other (fun e => hne e.symm) u) (k + 1)
theorem setN_block {b : Nat} : ∀ (us : List Value) (w : World) (k g : Nat), g ≠ b → (wsetN w b k us).heap[g]? = w.heap[g]? := by
  intro us
  induction us with
  | nil => intro w k g hg; rfl
  | cons u us ih => intro w k g hg; exact (ih _ _ g hg).trans (Below.heap_setCell w _ u g (by simpa using hg))
theorem VB.setN_gen {b : Nat} : ∀ (us : List Value) (w : World) (pre vs : List Value), VB w b (pre ++ vs) → vs.length = us.length → VB (wsetN w b pre.length us) b (pre ++ us) := by
  intro us
  induction us with
  | nil => intro w pre vs h hl; rw [List.length_nil] at hl; rw [List.eq_nil_of_length_eq_zero hl] at h; exact h
  | cons u us ih =>
    intro w pre vs h hl
    cases vs with
    | nil => cases hl
    | cons v vs =>
      have h1 := h.set pre.length (by simp) u
      have e : (pre ++ v :: vs).set pre.length u = (pre ++ [u]) ++ vs := by simp [List.set_append_right]
      rw [e] at h1
      have := ih _ (pre ++ [u]) vs h1 (by simpa using hl)
      simpa [wsetN] using this
theorem VB.setN {w : World} {b : Nat} {vs : List Value} (h : VB w b vs) (us : List Value) (hl : vs.length = us.length) : VB (wsetN w b 0 us) b us := by
  have := VB.setN_gen us w [] vs h hl
  simpa using this
theorem Ab.setN {w0 w : World} {b : Nat} (h : Ab w0 w) (hb : w0.heap.size ≤ b) (us : List Value) : ∀ k, Ab w0 (wsetN w b k us) := by
  intro k
  induction us generalizing w k with
  | nil => exact h
  | cons u us ih => exact ih (h.set hb u) (k + 1)
section
variable {ops : Array Oper} {rest : List Oper} {o : Oper} {a : Act} {w w' : World} {b lo hi : Nat} {vs us : List Value}
theorem wset_cells (b : Nat) : ∀ (us : List Value) (w : World) (k : Nat), w.setCells b k us = wsetN w b k us := by
  intro us
  induction us with
  | nil => intro w k; rfl
  | cons u us ih => intro w k; exact ih _ _
end
section
variable {ops : Array Oper} {rest : List Oper} {o : Oper} {a : Act} {w w' : World} {b lo hi : Nat} {vs us : List Value}
theorem VB.range (h : VB w b vs) : w.rangeAt b 0 vs := fun j v hv => by rw [Nat.zero_add]; exact h.q j v hv
theorem VB.rangeAt (h : VB w b vs) (k n : Nat) : w.rangeAt b k ((vs.drop k).take n) := fun j v hv => by
  refine h.q (k + j) v ?_
  rw [List.getElem?_take] at hv
  split at hv
  · rwa [List.getElem?_drop] at hv
  · cases hv
theorem VB.there (h : VB w b vs) {n : Nat} (hn : n ≤ vs.length) : w.there b 0 n := fun j hj => by
  refine ⟨?_, h.g _⟩
  rw [Nat.zero_add, h.q j vs[j] (by simp)]; rfl
theorem if_go {c : Prop} [Decidable c] {A E : Prop} (hc : c) (h : A) : if c then A else E := by rw [if_pos hc]; exact h
/-- What a store of the whole variable in block b leaves. -/
structure Stored (w : World) (b : Nat) (us : List Value) (w' : World) : Prop where
  v : VB w' b us
  ab : ∀ W, Ab W w → W.heap.size ≤ b → Ab W w'
  sz : w'.heap.size = w.heap.size
  blk : ∀ g, g ≠ b → w'.heap[g]? = w.heap[g]?
theorem Stored.vb {c : Nat} {vs : List Value} (h : Stored w b us w') (hv : VB w c vs) (hne : c ≠ b) : VB w' c vs := by
  have hb := h.blk c hne
  refine ⟨by rw [h.sz]; exact hv.lt, fun i v hi => ?_, fun i => ?_⟩
  · exact (World.cell?_of_block (a := ⟨c, i, none⟩) hb).trans (hv.q i v hi)
  · refine Eq.trans ?_ (hv.g i)
    unfold World.frozen?
    rw [show (⟨c, i, none⟩ : Addr).block = c from rfl, hb]
theorem stored_of (hv : VB w b vs) (hl : vs.length = us.length) : Stored w b us (w.setCells b 0 us) := by
  rw [wset_cells]
  exact ⟨hv.setN us hl, fun W hW hb => Ab.setN hW hb us 0, setN_size b us w 0, fun g hg => setN_block us w 0 g hg⟩
theorem list_ldV {Q : Exit → Act → World → Prop} (T : TypeId) {n : Nat} {d : TypeDesc} (hT : (Try.prog.info? T).map (·.size) = some n) (hu : Try.prog.underlying T = some d) (hd : d.isRow = true) (hgd : o.guard = none) (x : Operand) (ho : o.op = .load T x) (hx : a.eval x = .pointer (some ⟨b, 0, none⟩)) (hv : VB w b vs) (hl : vs.length = n)
    (h : wpList Try.prog ops Q rest (a.put o.dst (.agg vs.toArray)) w) : wpList Try.prog ops Q (o :: rest) a w :=
  wpList_load_mid hgd _ x ho b 0 hx vs _ hv.range hu hd (by rw [hT, hl]) h
theorem wp_stV {K : Act → World → Prop} {Q : Exit → Act → World → Prop} (T : TypeId) {n : Nat} (hT : (Try.prog.info? T).map (·.size) = some n) (x y : Operand) (ho : o.op = .store T x y) (hx : a.eval x = .pointer (some ⟨b, 0, none⟩)) (hy : a.eval y = .agg us.toArray) (hv : VB w b vs) (hl : vs.length = us.length) (hu : us.length = n)
    (h1 : us.all (·.oneCell') = true) (h : ∀ w', Stored w b us w' → K (a.put o.dst undef) w') : o.wp Try.prog a w K Q := by
  refine wp_store_mid _ x y ho b 0 us.toArray hx hy ?_ (by rw [hT]; simp [hu]) (by simpa using h1) ?_
  · have := hv.there (n := us.toArray.size) (by simp [hl])
    exact this
  · exact h _ (stored_of hv hl)
theorem list_stV {Q : Exit → Act → World → Prop} (T : TypeId) {n : Nat} (hT : (Try.prog.info? T).map (·.size) = some n) (hgd : o.guard = none) (x y : Operand) (ho : o.op = .store T x y) (hx : a.eval x = .pointer (some ⟨b, 0, none⟩)) (hy : a.eval y = .agg us.toArray) (hv : VB w b vs) (hl : vs.length = us.length) (hu : us.length = n)
    (h1 : us.all (·.oneCell') = true) (h : ∀ w', Stored w b us w' → wpList Try.prog ops Q rest (a.put o.dst undef) w') : wpList Try.prog ops Q (o :: rest) a w :=
  wpList_plain hgd fun _ hK => wp_stV T hT x y ho hx hy hv hl hu h1 fun w' hs => hK _ _ (h w' hs)
theorem res_V1 (T : TypeId) {n : Nat} {d : TypeDesc} (hT : (Try.prog.info? T).map (·.size) = some n) (hu : Try.prog.underlying T = some d) (hd : d.isRow = true) {fn : Func} {p : Tmp} (h : fn.results = #[.cell p T]) (tmps : Array Value) (hp : tmps.getD p undef = .pointer (some ⟨b, 0, none⟩)) (hv : VB w b vs) (hl : vs.length = n) :
    (results fn tmps).run Try.prog w = .ok (.agg vs.toArray) w := by
  have hp' : tmps[p]?.getD undef = .pointer (some ⟨b, 0, none⟩) := by simpa using hp
  simp [results, h, hp', asAddr, run_loadVar_mid w b 0 T vs _ hv.range hu hd (by rw [hT, hl])]
theorem res_V2 (T : TypeId) {n : Nat} {d : TypeDesc} (hT : (Try.prog.info? T).map (·.size) = some n) (hu : Try.prog.underlying T = some d) (hd : d.isRow = true) {fn : Func} {p u : Tmp} (h : fn.results = #[.cell p T, .tmp u]) (tmps : Array Value) (hp : tmps.getD p undef = .pointer (some ⟨b, 0, none⟩)) (hv : VB w b vs) (hl : vs.length = n) :
    (results fn tmps).run Try.prog w = .ok (.tuple #[.agg vs.toArray, tmps.getD u undef]) w := by
  have hp' : tmps[p]?.getD undef = .pointer (some ⟨b, 0, none⟩) := by simpa using hp
  simp [results, h, hp', asAddr, run_loadVar_mid w b 0 T vs _ hv.range hu hd (by rw [hT, hl])]
end
/-- A word as a value. -/
def wv (x : BitVec 32) : Value := .int .u32 (x.toNat : Int)
/-- Eight words as values. -/
def w8 (h : Sha.W8) : List Value := [.int .u32 (h.a.toNat : Int), .int .u32 (h.b.toNat : Int), .int .u32 (h.c.toNat : Int), .int .u32 (h.d.toNat : Int), .int .u32 (h.e.toNat : Int), .int .u32 (h.f.toNat : Int), .int .u32 (h.g.toNat : Int), .int .u32 (h.z.toNat : Int)]
end Go.Proofs.Ytjgijpfknhfnjaa
