/- JournalAdds, walked; written by genjadds.py. Own work. -/
import Derived.Test.YthgcfjhnnhigoaaGreatJAddM
import Derived.Test.YthgcfjhnnhigoaaGreatJGiven
set_option linter.unusedVariables false
set_option linter.unusedSimpArgs false
namespace Go.Proofs.YthgcfjhnnhigoaaGreat
open Go.RowKit
open Slots (Sl)

theorem apply_n (c : List Int) (hl : c.length = 8) (A : Option Addr) (cap n : Nat) (ms : List Jour.Move) (hn : ms.length = n) (w : World) (h : Mvs w 0 A ms) (hn' : n ≤ 100000) :
    Calls Tryz.prog 11 #[.agg #[.int .i64 (cx c 0), .int .i64 (cx c 1), .int .i64 (cx c 2), .int .i64 (cx c 3), .int .i64 (cx c 4), .int .i64 (cx c 5), .int .i64 (cx c 6), .int .i64 (cx c 7)], .slice A n cap] w (RetC w (Jour.apply c ms)) := by
  subst hn
  exact apply_any c hl A cap ms w h hn'
theorem Mvs.take {w : World} {lo : Nat} {A : Option Addr} {ms : List Jour.Move} (h : Mvs w lo A ms) (k : Nat) : Mvs w lo A (ms.take k) := fun hn => by
  rw [List.length_take] at hn
  obtain ⟨a, ha, h0, h1⟩ := h (by omega)
  refine ⟨a, ha, h0, fun i hi => ?_⟩
  rw [List.length_take] at hi
  rw [List.getElem_take]
  exact h1 i (by omega)
def cutM (a : Option Addr) (cap k : Nat) : Option Addr := if cap = k then a else a.map (·.add (k * 2))
theorem Mvs.cut {w : World} {lo : Nat} {A : Option Addr} {ms : List Jour.Move} (h : Mvs w lo A ms) (k cap : Nat) (hc : ms.length ≤ cap) : Mvs w lo (cutM A cap k) (ms.drop k) := fun hn => by
  rw [List.length_drop] at hn
  obtain ⟨a, rfl, h1, h2⟩ := h (by omega)
  unfold cutM
  rw [if_neg (by omega)]
  refine ⟨a.add (k * 2), rfl, by rw [addr_add_block]; exact h1, fun i hi => ?_⟩
  rw [List.length_drop] at hi
  have := h2 (k + i) (by omega)
  rw [addr_add_add, addr_add_add, List.getElem_drop, show k * 2 + i * 2 = (k + i) * 2 by omega, show k * 2 + (i * 2 + 1) = (k + i) * 2 + 1 by omega]
  exact this
theorem run_cutM (k : Nat) (kd : IntKind) (a : Option Addr) (len cap : Nat) (w : World) (h : k ≤ len) :
    (Instr.slice 35 (.slice a len cap) (some (.int kd (k : Int))) none none).run Tryz.prog w = .ok (.slice (cutM a cap k) (len - k) (cap - k)) w := by
  have hu : Tryz.prog.underlying 35 = some (.slice (Tryz.prog.elem 35)) := by kernel_rfl
  obtain ⟨i0, hi0, _, hz1, _⟩ := info_parts infoMove
  have he : Tryz.prog.elem 35 = 34 := by kernel_rfl
  rw [run_slice_l w 35 a len cap hu kd (k : Int) (by omega) (by omega), he]
  simp only [sizeOf, typeInfo, sliced, Int.toNat_natCast, cutM, Sem.run_bind, Sem.run_pure]
  simp [hi0, hz1]
section
variable {lo : Nat} {w : World} {A : Option Addr} {c : Nat} {xs : List Jour.Move} {x : Jour.Move} {o : Oper} {a : Act} {g d : Nat} {fr : Nat × Nat} {ops : Array Oper} {rest : List Oper} {Q : Exit → Act → World → Prop}
theorem listAppM (hgd : o.guard = none) (s y : Operand) (ho : o.op = .call { callee := .builtin .append, args := #[s, y], argTypes := #[35, 35] })
    (hs : a.eval s = .slice A xs.length c) (hy : a.eval y = .slice (some ⟨g, 0, none⟩) 1 d) (h : OwnMvs lo w A c xs) (hlo : lo ≤ w.heap.size)
    (hg : w.heap[g]? = some (.cells #[.int .i64 x.cell, .int .i64 x.add] 34 fr)) (hlen : xs.length ≤ 1000000)
    (hK : ∀ g' c' w' ys, Hid (ys = xs ++ [x]) → OwnMvs lo w' (some ⟨g', 0, none⟩) c' ys → w.grownBy w' (A.map (·.block)) → (A.map (·.block) = some g' ∨ g' = w.heap.size) → wpList Tryz.prog ops Q rest (a.put o.dst (.slice (some ⟨g', 0, none⟩) ys.length c')) w') : wpList Tryz.prog ops Q (o :: rest) a w :=
  wpList_plain hgd fun _ hC => wp_appM s y ho hs hy h hlo hg hlen fun g' c' w' ys e o' gr k => hC _ _ (hK g' c' w' ys e o' gr k)
end
theorem apsize {W w' : World} {b : Nat} {vs : List Value} (h : Ab W w') (v : VB w' b vs) : b < w'.heap.size ∧ W.heap.size ≤ w'.heap.size := ⟨v.lt, h.size⟩
/-- Behind a call of Apply whose numbers go into a variable of its own. -/
def ApRel (w : World) (m : List Int × Int) (v1 v2 : Value) (wx : World) : Prop :=
  ∃ (c : List Int) (er : Int) (h : Nat) (W' : World), Hid ((c, er) = m) ∧ v1 = .pointer (some ⟨h, 0, none⟩) ∧ v2 = .int .i64 er ∧ W' = wx ∧ VB wx h [.int .i64 (cx c 0), .int .i64 (cx c 1), .int .i64 (cx c 2), .int .i64 (cx c 3), .int .i64 (cx c 4), .int .i64 (cx c 5), .int .i64 (cx c 6), .int .i64 (cx c 7)] ∧ c.length = 8 ∧ w.heap.size ≤ h ∧ Ab w wx

/-- Behind a call of Do whose journal goes into a variable of its own. -/
def DoRel (w : World) (M : JX × Int × Int) (b : Nat) (vs : List Value) (v1 v2 v3 : Value) (wx : World) : Prop :=
  ∃ (r : JX) (num er : Int) (m : JA) (h : Nat) (W' : World), Hid ((r, num, er) = M) ∧ v1 = .pointer (some ⟨h, 0, none⟩) ∧ v2 = .int .i64 num ∧ v3 = .int .i64 er ∧ W' = wx ∧ VB wx h [.slice m.m.A r.s.a.s.length m.m.ca, .slice m.m.B r.s.a.t.length m.m.cb, .int .i64 r.s.a.cap, .bool r.s.a.down, .slice m.m.C r.s.b.s.length m.m.cc, .slice m.m.D r.s.b.t.length m.m.cd, .int .i64 r.s.b.cap, .bool r.s.b.down, .int .i64 r.s.n, .slice m.A r.l.dev.s.length m.ca, .slice m.B r.l.dev.t.length m.cb, .int .i64 r.l.dev.cap, .bool r.l.dev.down, .int .i64 r.l.first, .int .i64 r.l.next, .int .i64 (cx r.c 0), .int .i64 (cx r.c 1), .int .i64 (cx r.c 2), .int .i64 (cx r.c 3), .int .i64 (cx r.c 4), .int .i64 (cx r.c 5), .int .i64 (cx r.c 6), .int .i64 (cx r.c 7)] ∧ JM wx m r ∧ VB wx b vs ∧ b < h ∧ Ab w wx
end Go.Proofs.YthgcfjhnnhigoaaGreat
