/- Parts of deltas as they lie in memory. Own work. -/
import Derived.Test.YtjgijpfknhfnjaaShBase
import Derived.Test.YtjgijpfknhfnjaaFrMem
import Derived.Test.YtjgijpfknhfnjaaDelMk
set_option linter.unusedVariables false
set_option linter.unusedSimpArgs false
namespace Go.Proofs.Ytjgijpfknhfnjaa
open Go.RowKit

/-- A part, and where its bytes lie. -/
structure PM where
  p : Int
  n : Int
  A : Option Addr
  b : List UInt8
  c : Nat
instance : Inhabited PM := ⟨⟨0, 0, none, [], 0⟩⟩
def PM.cells (x : PM) : List Value := [.int .i64 x.p, .int .i64 x.n, .slice x.A x.b.length x.c]
def PM.d (x : PM) : Dl.Part := ⟨x.p, x.n, x.b⟩
def PM.zero : PM := ⟨0, 0, none, [], 0⟩
theorem PM.len (x : PM) : x.cells.length = 3 := rfl
theorem PM.one (x : PM) : x.cells.all (·.oneCell') = true := rfl
/-- The part x is well laid in w. -/
structure PL (w : World) (x : PM) : Prop where
  b : RB w 0 x.A x.b
  c : x.b.length ≤ x.c
  l : x.b.length ≤ 9223372036854775807
  p0 : -9223372036854775808 ≤ x.p
  p1 : x.p ≤ 9223372036854775807
  n0 : -9223372036854775808 ≤ x.n
  n1 : x.n ≤ 9223372036854775807
theorem PL.ab {w w' : World} {x : PM} (h : PL w x) (k : Ab w w') : PL w' x := ⟨h.b.ab k, h.c, h.l, h.p0, h.p1, h.n0, h.n1⟩
/-- The slice of parts (A, n, c) is xs. -/
structure Pts (w : World) (A : Option Addr) (c : Nat) (xs : List PM) : Prop where
  r : 0 < xs.length → ∃ g o, A = some ⟨g, o, none⟩ ∧ ∀ i (h : i < xs.length), w.rangeAt g (o + i * 3) xs[i].cells
  l : ∀ x ∈ xs, PL w x
  n : xs.length ≤ c
  n' : xs.length ≤ 9223372036854775807
theorem Pts.ab {w w' : World} {A : Option Addr} {c : Nat} {xs : List PM} (h : Pts w A c xs) (k : Ab w w') : Pts w' A c xs :=
  ⟨fun hn => by
    obtain ⟨g, o, h1, h2⟩ := h.r hn
    exact ⟨g, o, h1, fun i hi j v hv => k.at (h2 i hi j v hv)⟩, fun x hx => (h.l x hx).ab k, h.n, h.n'⟩
theorem infoP : (Try.prog.info? 24).map (·.size) = some 3 := by kernel_rfl
/-- A part of a variable, or an element of a row, loaded as a whole: also where a guard stands that lets it. -/
theorem list_ldP {ops : Array Oper} {rest : List Oper} {o : Oper} {a : Act} {w : World} {b : Nat} {Q : Exit → Act → World → Prop} (k : Nat) (x : PM) (hR : w.rangeAt b k x.cells) (hw : Region.wanted o (yielded ops a.tmps) = true) (y : Operand) (ho : o.op = .load 24 y) (hx : a.eval y = .pointer (some ⟨b, k, none⟩))
    (h : wpList Try.prog ops Q rest (a.put o.dst (.agg x.cells.toArray)) w) : wpList Try.prog ops Q (o :: rest) a w :=
  wpList_step fun K hK => by
    rw [if_pos hw]
    exact wp_load_mid _ y ho b k hx x.cells _ hR Try.underlying24 rfl (by rw [infoP]; rfl) (hK _ _ h)
theorem pts_at {w : World} {A : Option Addr} {c : Nat} {xs : List PM} (h : Pts w A c xs) {k : Nat} (hk : k < xs.length) : ∃ g o, A = some ⟨g, o, none⟩ ∧ w.rangeAt g (o + k * 3) xs[k].cells ∧ PL w xs[k] := by
  obtain ⟨g, o, h1, h2⟩ := h.r (by omega)
  exact ⟨g, o, h1, h2 k hk, h.l _ (List.getElem_mem hk)⟩
end Go.Proofs.Ytjgijpfknhfnjaa
