/- Lists of records in memory. Own work. -/
import Derived.Test.YtehagdpcegpbjaaFrMem
import Derived.Test.YtehagdpcegpbjaaFrame
set_option linter.unusedVariables false
namespace Go.Proofs.Ytehagdpcegpbjaa
open Go.RowKit

/-- A record, and where its bytes lie. -/
structure RecM where
  num : Int
  A : Option Addr
  c : Nat
  b : List UInt8
instance : Inhabited RecM := ⟨⟨0, none, 0, []⟩⟩
def RecM.r (x : RecM) : Frame.Rec := ⟨x.num, x.b⟩
def RecM.cells (x : RecM) : List Value := [.int .i64 x.num, .slice x.A x.b.length x.c]
def recs (xs : List RecM) : List Frame.Rec := xs.map RecM.r
def cellsOf (xs : List RecM) : List Value := (xs.map RecM.cells).flatten
theorem cellsOf_append (xs ys : List RecM) : cellsOf (xs ++ ys) = cellsOf xs ++ cellsOf ys := by simp [cellsOf]
theorem cellsOf_one (x : RecM) : cellsOf [x] = x.cells := by simp [cellsOf]
theorem recs_append (xs ys : List RecM) : recs (xs ++ ys) = recs xs ++ recs ys := by simp [recs]
theorem recs_take (xs : List RecM) (k : Nat) : recs (xs.take k) = (recs xs).take k := by simp [recs, List.map_take]
theorem recs_length (xs : List RecM) : (recs xs).length = xs.length := by simp [recs]
theorem recs_get (xs : List RecM) (k : Nat) (h : k < xs.length) : (recs xs)[k]'(by rw [recs_length]; exact h) = xs[k].r := by simp [recs]
theorem cellsOf_at (xs : List RecM) : ∀ i (h : i < xs.length), (cellsOf xs)[i * 2]? = some (.int .i64 xs[i].num) ∧ (cellsOf xs)[i * 2 + 1]? = some (.slice xs[i].A xs[i].b.length xs[i].c) := by
  induction xs with
  | nil => intro i h; exact absurd h (by simp)
  | cons x xs ih =>
    intro i h
    have e : cellsOf (x :: xs) = .int .i64 x.num :: .slice x.A x.b.length x.c :: cellsOf xs := by simp [cellsOf, RecM.cells]
    rw [e]
    cases i with
    | zero => exact ⟨rfl, rfl⟩
    | succ j =>
      have := ih j (by simpa using h)
      rw [show (j + 1) * 2 = j * 2 + 1 + 1 by omega]
      simpa using this

/-- The record x is well laid in w, its bytes in blocks from lo on. -/
def Laid (w : World) (lo : Nat) (x : RecM) : Prop := RB w lo x.A x.b ∧ x.b.length ≤ x.c ∧ x.b.length ≤ 9223372036854775807
/-- The records xs lie at a. -/
def RecsAt (w : World) (lo : Nat) (a : Addr) (xs : List RecM) : Prop :=
  lo ≤ a.block ∧ ∀ i (h : i < xs.length), w.cell? (a.add (i * 2)) = some (.int .i64 xs[i].num) ∧ w.cell? (a.add (i * 2 + 1)) = some (.slice xs[i].A xs[i].b.length xs[i].c) ∧ Laid w lo xs[i]
/-- The slice of records (A, n, c) is xs. -/
def Recs (w : World) (lo : Nat) (A : Option Addr) (xs : List RecM) : Prop := 0 < xs.length → ∃ a, A = some a ∧ RecsAt w lo a xs

section
variable {w w' : World} {lo lo' : Nat} {A : Option Addr} {a : Addr} {xs : List RecM} {x : RecM}
theorem RB.block {l : List UInt8} (h : RB w lo A l) (hk : ∀ g, lo ≤ g → g < w.heap.size → w'.heap[g]? = w.heap[g]?) : RB w' lo A l := by
  intro hl
  obtain ⟨ad, h1, h2, h3⟩ := h hl
  refine ⟨ad, h1, h2, fun i hi => (World.cell?_of_block (hk _ ?_ (cell_lt (h3 i hi)))).trans (h3 i hi)⟩
  rw [addr_add_block]; exact h2
theorem Laid.block (h : Laid w lo x) (hk : ∀ g, lo ≤ g → g < w.heap.size → w'.heap[g]? = w.heap[g]?) : Laid w' lo x := ⟨h.1.block hk, h.2⟩
theorem RecsAt.block (h : RecsAt w lo a xs) (hk : ∀ g, lo ≤ g → g < w.heap.size → w'.heap[g]? = w.heap[g]?) : RecsAt w' lo a xs := by
  refine ⟨h.1, fun i hi => ?_⟩
  obtain ⟨h1, h2, h3⟩ := h.2 i hi
  refine ⟨(World.cell?_of_block (hk _ ?_ (cell_lt h1))).trans h1, (World.cell?_of_block (hk _ ?_ (cell_lt h2))).trans h2, h3.block hk⟩
  · rw [addr_add_block]; exact h.1
  · rw [addr_add_block]; exact h.1
theorem Recs.block (h : Recs w lo A xs) (hk : ∀ g, lo ≤ g → g < w.heap.size → w'.heap[g]? = w.heap[g]?) : Recs w' lo A xs := fun hn => by
  obtain ⟨a, ha, ho⟩ := h hn; exact ⟨a, ha, ho.block hk⟩
theorem Recs.ab (h : Recs w lo A xs) (hb : Ab w w') : Recs w' lo A xs := h.block fun g _ hg => hb.out.block g hg
theorem Laid.ab (h : Laid w lo x) (hb : Ab w w') : Laid w' lo x := h.block fun g _ hg => hb.out.block g hg
theorem Laid.mono (h : Laid w lo x) (hl : lo' ≤ lo) : Laid w lo' x := ⟨h.1.mono hl, h.2⟩
theorem Recs.mono (h : Recs w lo A xs) (hl : lo' ≤ lo) : Recs w lo' A xs := fun hn => by
  obtain ⟨a, ha, h1, h2⟩ := h hn
  exact ⟨a, ha, by omega, fun i hi => ⟨(h2 i hi).1, (h2 i hi).2.1, (h2 i hi).2.2.mono hl⟩⟩
theorem Recs.take (h : Recs w lo A xs) (k : Nat) : Recs w lo A (xs.take k) := fun hn => by
  have hn' : 0 < xs.length := by simp at hn; omega
  obtain ⟨a, ha, h1, h2⟩ := h hn'
  refine ⟨a, ha, h1, fun i hi => ?_⟩
  have hi' : i < xs.length := by simp at hi; omega
  rw [List.getElem_take]; exact h2 i hi'
theorem Recs.nil : Recs w lo A [] := fun h => absurd h (by simp)
theorem radd_pos (a : Addr) (m j : Nat) (h : 0 < j) : a.add (m + j) = ⟨(a.add m).block, (a.add m).off + j, none⟩ := by
  rw [← addr_add_add]; exact if_neg (by omega)
/-- A record's two cells, as the walk writes them. -/
theorem Recs.at_ (h : Recs w lo A xs) {k : Nat} (hk : k < xs.length) : ∃ a, A = some a ∧ lo ≤ a.block ∧ w.cell? (a.add (k * 2)) = some (.int .i64 xs[k].num) ∧
    w.cell? ⟨(a.add (k * 2)).block, (a.add (k * 2)).off + 1, none⟩ = some (.slice xs[k].A xs[k].b.length xs[k].c) ∧ Laid w lo xs[k] := by
  obtain ⟨a, ha, h0, h1⟩ := h (by omega)
  obtain ⟨c0, c1, l⟩ := h1 k hk
  rw [radd_pos _ _ _ (by omega)] at c1
  exact ⟨a, ha, h0, c0, c1, l⟩
end

section
variable {e : TypeId} {k lo n c : Nat} {w w' : World} {A : Option Addr} {vs : List Value}
theorem OV.block (h : OV e k lo w A n c vs) (hk : ∀ g, lo ≤ g → g < w.heap.size → w'.heap[g]? = w.heap[g]?) : OV e k lo w' A n c vs := by
  refine ⟨h.1, ?_⟩
  rcases h.2 with h0 | ⟨g, cap, cur, hv, hb, hh, r⟩
  · exact .inl h0
  · refine .inr ⟨g, cap, cur, hv, hb, ?_, r⟩
    have hlt : g < w.heap.size := by
      rcases Nat.lt_or_ge g w.heap.size with h | h
      · exact h
      · rw [Array.getElem?_eq_none h] at hh; cases hh
    rw [hk g hb hlt]; exact hh
theorem OV.rng (h : OV e k lo w A n c vs) : ∀ a, A = some a → lo ≤ a.block ∧ a.block < w.heap.size := by
  intro a ha
  rcases h.2 with ⟨h1, h0⟩ | ⟨g, cap, cur, hv, hb, hh, _⟩
  · injection h1 with h1; rw [ha] at h1; cases h1
  · injection hv with hv; rw [ha] at hv; injection hv with hv; subst hv
    refine ⟨hb, ?_⟩
    rcases Nat.lt_or_ge g w.heap.size with h | h
    · exact h
    · rw [Array.getElem?_eq_none h] at hh; cases hh
theorem OV.nil : OV e k lo w none 0 0 [] := World.ownsRow_nil _ _ _ _
end

/-- The call's own list of records, with bytes of their own. -/
def OwnRecs (lo : Nat) (w : World) (A : Option Addr) (c : Nat) (xs : List RecM) : Prop :=
  OV 72 2 lo w A xs.length c (cellsOf xs) ∧ ∀ x ∈ xs, Laid w lo x ∧ ∀ p q, A = some p → x.A = some q → 0 < x.b.length → q.block ≠ p.block
section
variable {w w' : World} {lo c : Nat} {A : Option Addr} {xs : List RecM}
theorem OwnRecs.nil : OwnRecs lo w none 0 [] := ⟨OV.nil, fun x h => absurd h (by simp)⟩
theorem OwnRecs.ab (h : OwnRecs lo w A c xs) (hb : Ab w w') : OwnRecs lo w' A c xs :=
  ⟨h.1.block fun g _ hg => hb.out.block g hg, fun x hx => ⟨(h.2 x hx).1.ab hb, (h.2 x hx).2⟩⟩
theorem OwnRecs.recs (h : OwnRecs lo w A c xs) : Recs w lo A xs := by
  intro hn
  rcases h.1.2 with ⟨_, h0⟩ | ⟨g, cap, cur, hv, hb, _⟩
  · omega
  · have hA : A = some ⟨g, 0, none⟩ := by injection hv
    have hc := h.1
    unfold OV at hc
    refine ⟨_, hA, hb, fun i hi => ?_⟩
    obtain ⟨c0, c1⟩ := cellsOf_at xs i hi
    exact ⟨hc.cells (g := g) (by rw [hA]; rfl) _ _ c0, hc.cells (g := g) (by rw [hA]; rfl) _ _ c1, (h.2 _ (List.getElem_mem hi)).1⟩
theorem OwnRecs.snoc {g c' : Nat} {x : RecM} (h : OwnRecs lo w A c xs) (hx : Laid w lo x) (hxA : ∀ p q, A = some p → x.A = some q → 0 < x.b.length → q.block ≠ p.block)
    (hv : OV 72 2 lo w' (some ⟨g, 0, none⟩) (xs.length + 1) c' (cellsOf xs ++ x.cells)) (hg : w.grownBy w' (A.map (·.block))) (hk : A.map (·.block) = some g ∨ g = w.heap.size) :
    OwnRecs lo w' (some ⟨g, 0, none⟩) c' (xs ++ [x]) := by
  have key : ∀ y : RecM, Laid w lo y → (∀ p q, A = some p → y.A = some q → 0 < y.b.length → q.block ≠ p.block) → Laid w' lo y ∧ ∀ p q, (some ⟨g, 0, none⟩ : Option Addr) = some p → y.A = some q → 0 < y.b.length → q.block ≠ p.block := by
    intro y hy hyA
    refine ⟨⟨?_, hy.2⟩, ?_⟩
    · intro hl
      refine grown_rb hg hy.1 ?_ hl
      intro q hq he
      cases A with
      | none => cases he
      | some p => exact hyA p q rfl hq hl (by simpa using he)
    · intro p q hp hq hl
      obtain rfl := Option.some.inj hp
      obtain ⟨ad, h1, _, h3⟩ := hy.1 hl
      rw [hq] at h1
      obtain rfl := Option.some.inj h1
      have hlt := cell_lt (h3 0 hl)
      rw [addr_add_block] at hlt
      rcases hk with hk | hk
      · cases A with
        | none => cases hk
        | some p => have := hyA p q rfl hq hl; simp at hk; rwa [hk] at this
      · simp only; omega
  refine ⟨?_, fun y hy => ?_⟩
  · rw [cellsOf_append, cellsOf_one, List.length_append]; exact hv
  · rcases List.mem_append.1 hy with hy | hy
    · exact key y (h.2 y hy).1 (h.2 y hy).2
    · obtain rfl : y = x := by simpa using hy
      exact key y hx hxA
end
end Go.Proofs.Ytehagdpcegpbjaa
