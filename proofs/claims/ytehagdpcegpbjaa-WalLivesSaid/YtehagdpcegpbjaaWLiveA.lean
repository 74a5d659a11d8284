/- WalLives: what holds at each step of the loop. Own work. -/
import Derived.Test.YtehagdpcegpbjaaWMath4
import Derived.Test.YtehagdpcegpbjaaWLawD
import Derived.Test.YtehagdpcegpbjaaOpq
import Derived.Deep.DeepCutAuto
set_option linter.unusedVariables false
set_option linter.unusedSimpArgs false
namespace Go.Proofs.Ytehagdpcegpbjaa
open Go.RowKit

/-- A slice of ints that came in. -/
def Ints (w : World) (S : Option Addr) (ns : List Int) : Prop := 0 < ns.length → ∃ a, S = some a ∧ ∀ i (h : i < ns.length), w.cell? (a.add i) = some (.int .i64 ns[i])
theorem Ints.ab {w w' : World} {S : Option Addr} {ns : List Int} (h : Ints w S ns) (hb : Ab w w') : Ints w' S ns := fun hn => by
  obtain ⟨a, h1, h2⟩ := h hn
  exact ⟨a, h1, fun i hi => hb.at (h2 i hi)⟩

theorem OwnRecs.cut {lo c : Nat} {w : World} {A : Option Addr} {xs : List RecM} (h : OwnRecs lo w A c xs) (m : Nat) : OwnRecs lo w A c (xs.take m) := by
  refine ⟨?_, fun x hx => h.2 x (List.mem_of_mem_take hx)⟩
  have hl : (xs.take m).length ≤ xs.length := by rw [List.length_take]; omega
  have hc : cellsOf (xs.take m) = (cellsOf xs).take ((xs.take m).length * 2) := by
    have key : ∀ (l : List RecM) (k : Nat), cellsOf (l.take k) = (cellsOf l).take ((l.take k).length * 2) := by
      intro l
      induction l with
      | nil => intro k; simp [cellsOf]
      | cons x l ih =>
        intro k
        cases k with
        | zero => simp [cellsOf]
        | succ k =>
          have e : ∀ (y : RecM) (l : List RecM), cellsOf (y :: l) = y.cells ++ cellsOf l := fun y l => by simp [cellsOf]
          rw [List.take_succ_cons, e, e, ih k, List.length_cons, Nat.add_mul]
          rw [show x.cells = [.int .i64 x.num, .slice x.A x.b.length x.c] from rfl]
          simp only [List.cons_append, List.nil_append]
          rw [show (l.take k).length * 2 + 1 * 2 = (l.take k).length * 2 + 1 + 1 by omega, List.take_succ_cons, List.take_succ_cons]
    exact key xs m
  have h1 := h.1
  refine ⟨by have := h1.1; rw [hc, List.length_take]; have h3 := h1.1; omega, ?_⟩
  rcases h1.2 with ⟨h2, h0⟩ | ⟨g, cap, cur, hv, hb, hh, hn, hm, hs, ht⟩
  · have e0 : xs = [] := List.eq_nil_of_length_eq_zero h0
    subst e0
    exact .inl ⟨by simpa using h2, by simp⟩
  · injection hv with h2 h3 h4
    subst h2 h4
    refine .inr ⟨g, _, cur, rfl, hb, hh, by omega, hm, hs, ?_⟩
    rw [hc, ← ht, List.take_take]
    congr 1
    have : (xs.take m).length * 2 ≤ xs.length * 2 := by omega
    omega

/-- What make([]byte, n) lays, as the call's own. -/
theorem make_own (n : Nat) (hn : n ≤ 16777216) (v : Int) (hv : v = (n : Int)) : ∃ (Z : Array Value) (l : List UInt8), Hid (l.length = n) ∧
    (∀ w : World, (Instr.makeSlice 22 (.int .i64 v) (.int .i64 v)).run Try.prog w = .ok (.slice (some ⟨w.heap.size, 0, none⟩) n n) (w.alloc (.cells Z 5))) ∧
    Hid (∀ (w : World) (g lo : Nat), lo ≤ g → w.heap[g]? = some (.cells Z 5) → OR 5 lo w (some ⟨g, 0, none⟩) n l) := by
  subst hv
  obtain ⟨i0, hi, hz, hs, hb⟩ := info_parts infoU8
  refine ⟨madeCells (Value.int .u8 0).cells n, List.replicate n 0, by unfold Hid; simp, fun w => ?_, ?_⟩
  · have := run_makeSlice (P := Try.prog) w 22 5 i0 _ Try.underlying22 hi hz .i64 .i64 n n (by omega) (Int.le_refl _) (by rw [hs]; simp; omega) (by rw [hb]; omega) (by omega)
    rw [hs, Int.toNat_natCast, Nat.mul_one] at this
    exact this
  · unfold Hid
    intro w g lo hlo hg
    have ht : (madeCells #[Value.int .u8 0] n).toList = List.replicate n (.int .u8 0) := toList_madeCells_one _ _
    unfold OR
    refine ⟨by simp, .inr ⟨g, n, _, by simp, hlo, hg, by simp, by unfold maxLen; omega, ?_, ?_⟩⟩
    · have h1 := congrArg List.length ht
      simpa [Value.cells] using h1
    · simp [Value.cells, ht, cb]

/-- The bytes do not lie in the list's block. -/
def Far (W D : Option Addr) (l : List UInt8) : Prop := ∀ p q, W = some p → D = some q → 0 < l.length → q.block ≠ p.block
/-- The log r lies in the cells of block b. -/
def LBox (b : Nat) (r : Wal.Log) (D E : Option Addr) (cd ce : Nat) (wx : World) : Prop :=
  (wx.cell? ⟨b, 0, none⟩ = some (.slice D r.dev.s.length cd) ∧ wx.cell? ⟨b, 1, none⟩ = some (.slice E r.dev.t.length ce) ∧ wx.cell? ⟨b, 2, none⟩ = some (.int .i64 r.dev.cap) ∧ wx.cell? ⟨b, 3, none⟩ = some (.bool r.dev.down) ∧ wx.cell? ⟨b, 4, none⟩ = some (.int .i64 r.first) ∧ wx.cell? ⟨b, 5, none⟩ = some (.int .i64 r.next)) ∧
    (wx.frozen? ⟨b, 0, none⟩ = false ∧ wx.frozen? ⟨b, 1, none⟩ = false ∧ wx.frozen? ⟨b, 2, none⟩ = false ∧ wx.frozen? ⟨b, 3, none⟩ = false ∧ wx.frozen? ⟨b, 4, none⟩ = false ∧ wx.frozen? ⟨b, 5, none⟩ = false) ∧ b < wx.heap.size
theorem LBox.ab {b : Nat} {r : Wal.Log} {D E : Option Addr} {cd ce : Nat} {wx wy : World} (h : LBox b r D E cd ce wx) (hb : Ab wx wy) : LBox b r D E cd ce wy := by
  obtain ⟨⟨q0, q1, q2, q3, q4, q5⟩, ⟨f0, f1, f2, f3, f4, f5⟩, hl⟩ := h
  have z := hb.size
  exact ⟨⟨hb.at q0, hb.at q1, hb.at q2, hb.at q3, hb.at q4, hb.at q5⟩, ⟨hb.fr hl f0, hb.fr hl f1, hb.fr hl f2, hb.fr hl f3, hb.fr hl f4, hb.fr hl f5⟩, by omega⟩
set_option maxHeartbeats 1600000 in
theorem LBox.put {b : Nat} {r r' : Wal.Log} {D E D' E' : Option Addr} {cd ce cd' ce' : Nat} {wx : World} (h : LBox b r D E cd ce wx) : LBox b r' D' E' cd' ce' (((((((wx).setCell ⟨b, 0, none⟩ (.slice D' r'.dev.s.length cd')).setCell ⟨b, 1, none⟩ (.slice E' r'.dev.t.length ce')).setCell ⟨b, 2, none⟩ (.int .i64 r'.dev.cap)).setCell ⟨b, 3, none⟩ (.bool r'.dev.down)).setCell ⟨b, 4, none⟩ (.int .i64 r'.first)).setCell ⟨b, 5, none⟩ (.int .i64 r'.next)) := by
  obtain ⟨⟨q0, q1, q2, q3, q4, q5⟩, ⟨f0, f1, f2, f3, f4, f5⟩, hl⟩ := h
  refine ⟨⟨?_, ?_, ?_, ?_, ?_, ?_⟩, ⟨?_, ?_, ?_, ?_, ?_, ?_⟩, ?_⟩
  all_goals (simp [go_sem, *]; done)
theorem LBox.grown {b : Nat} {r : Wal.Log} {D E W : Option Addr} {cd ce : Nat} {wx wy : World} (h : LBox b r D E cd ce wx) (hg : wx.grownBy wy (W.map (·.block))) (hW : ∀ a, W = some a → a.block ≠ b) (hs : wx.heap.size ≤ wy.heap.size) : LBox b r D E cd ce wy := by
  obtain ⟨⟨q0, q1, q2, q3, q4, q5⟩, ⟨f0, f1, f2, f3, f4, f5⟩, hl⟩ := h
  exact ⟨⟨grown_cell hg q0 hW, grown_cell hg q1 hW, grown_cell hg q2 hW, grown_cell hg q3 hW, grown_cell hg q4 hW, grown_cell hg q5 hW⟩,
    ⟨grown_frz hg hW hl f0, grown_frz hg hW hl f1, grown_frz hg hW hl f2, grown_frz hg hW hl f3, grown_frz hg hW hl f4, grown_frz hg hW hl f5⟩, by omega⟩
theorem LBox.rb {b lo : Nat} {r r' : Wal.Log} {D E D' E' B : Option Addr} {cd ce cd' ce' : Nat} {wx : World} {l : List UInt8} (h : LBox b r D E cd ce wx) (hr : RB wx lo B l) : RB (((((((wx).setCell ⟨b, 0, none⟩ (.slice D' r'.dev.s.length cd')).setCell ⟨b, 1, none⟩ (.slice E' r'.dev.t.length ce')).setCell ⟨b, 2, none⟩ (.int .i64 r'.dev.cap)).setCell ⟨b, 3, none⟩ (.bool r'.dev.down)).setCell ⟨b, 4, none⟩ (.int .i64 r'.first)).setCell ⟨b, 5, none⟩ (.int .i64 r'.next)) lo B l := by
  obtain ⟨⟨q0, q1, q2, q3, q4, q5⟩, _, _⟩ := h
  have k0 : ∀ (p : Addr) (v : Value) (o : Nat) (u : Value), wx.cell? p = some v → p.block = b → True := fun _ _ _ _ _ _ => trivial
  have h0 := hr.setOther q0 (by intro x; simp [cb]) (.slice D' r'.dev.s.length cd')
  have h1 := h0.setOther (q := ⟨b, 1, none⟩) (v := .slice E r.dev.t.length ce) (by simpa [go_sem] using q1) (by intro x; simp [cb]) (.slice E' r'.dev.t.length ce')
  have h2 := h1.setOther (q := ⟨b, 2, none⟩) (v := .int .i64 r.dev.cap) (by simpa [go_sem] using q2) (by intro x; simp [cb]) (.int .i64 r'.dev.cap)
  have h3 := h2.setOther (q := ⟨b, 3, none⟩) (v := .bool r.dev.down) (by simpa [go_sem] using q3) (by intro x; simp [cb]) (.bool r'.dev.down)
  have h4 := h3.setOther (q := ⟨b, 4, none⟩) (v := .int .i64 r.first) (by simpa [go_sem] using q4) (by intro x; simp [cb]) (.int .i64 r'.first)
  exact h4.setOther (q := ⟨b, 5, none⟩) (v := .int .i64 r.next) (by simpa [go_sem] using q5) (by intro x; simp [cb]) (.int .i64 r'.next)
theorem OwnRecs.block {lo c : Nat} {w w' : World} {A : Option Addr} {xs : List RecM} (h : OwnRecs lo w A c xs) (hk : ∀ g, lo ≤ g → g < w.heap.size → w'.heap[g]? = w.heap[g]?) : OwnRecs lo w' A c xs :=
  ⟨OV.block h.1 hk, fun x hx => ⟨(h.2 x hx).1.block hk, (h.2 x hx).2⟩⟩
theorem OwnRecs.put {lo c b : Nat} {w : World} {A : Option Addr} {xs : List RecM} (h : OwnRecs lo w A c xs) (hb : b < lo) {o : Nat} (u : Value) : OwnRecs lo (w.setCell ⟨b, o, none⟩ u) A c xs :=
  h.block fun g hg _ => Below.heap_setCell w _ u g (fun e => by simp only at e; omega)

/-- The memory at a step's beginning. -/
def LMem (w wr : World) (r : Wal.Log) (D E W : Option Addr) (cd ce cw : Nat) (xs : List RecM) : Prop :=
  LBox w.heap.size r D E cd ce wr ∧ RB wr 0 D r.dev.s ∧ RB wr 0 E r.dev.t ∧ r.dev.s.length ≤ cd ∧ r.dev.t.length ≤ ce ∧ OwnRecs (w.heap.size + 1) wr W cw xs ∧ Far W D r.dev.s ∧ Far W E r.dev.t ∧ Ab w wr
section
variable {w wr wx : World} {r r' : Wal.Log} {D E W D' E' : Option Addr} {cd ce cw cd' ce' : Nat} {xs : List RecM}
theorem LMem.ab (h : LMem w wr r D E W cd ce cw xs) (hb : Ab wr wx) : LMem w wx r D E W cd ce cw xs :=
  ⟨h.1.ab hb, h.2.1.ab hb, h.2.2.1.ab hb, h.2.2.2.1, h.2.2.2.2.1, h.2.2.2.2.2.1.ab hb, h.2.2.2.2.2.2.1, h.2.2.2.2.2.2.2.1, h.2.2.2.2.2.2.2.2.trans hb⟩
theorem LMem.cut (h : LMem w wr r D E W cd ce cw xs) (m : Nat) : LMem w wr r D E W cd ce cw (xs.take m) :=
  ⟨h.1, h.2.1, h.2.2.1, h.2.2.2.1, h.2.2.2.2.1, h.2.2.2.2.2.1.cut m, h.2.2.2.2.2.2.1, h.2.2.2.2.2.2.2.1, h.2.2.2.2.2.2.2.2⟩
theorem LMem.put (h : LMem w wr r D E W cd ce cw xs) (hs : RB wr 0 D' r'.dev.s) (ht : RB wr 0 E' r'.dev.t) (ls : r'.dev.s.length ≤ cd') (lt : r'.dev.t.length ≤ ce') (f1 : Far W D' r'.dev.s) (f2 : Far W E' r'.dev.t) :
    LMem w (((((((wr).setCell ⟨w.heap.size, 0, none⟩ (.slice D' r'.dev.s.length cd')).setCell ⟨w.heap.size, 1, none⟩ (.slice E' r'.dev.t.length ce')).setCell ⟨w.heap.size, 2, none⟩ (.int .i64 r'.dev.cap)).setCell ⟨w.heap.size, 3, none⟩ (.bool r'.dev.down)).setCell ⟨w.heap.size, 4, none⟩ (.int .i64 r'.first)).setCell ⟨w.heap.size, 5, none⟩ (.int .i64 r'.next)) r' D' E' W cd' ce' cw xs := by
  obtain ⟨h1, h2, h3, h4, h5, h6, h7, h8, h9⟩ := h
  refine ⟨h1.put, h1.rb hs, h1.rb ht, ls, lt, ?_, f1, f2, ?_⟩
  · exact (((((h6.put (by omega) _).put (by omega) _).put (by omega) _).put (by omega) _).put (by omega) _).put (by omega) _
  · exact (by repeat (first | with_reducible exact Ab.refl _ | with_reducible assumption | with_reducible refine Ab.drew ?_ | with_reducible refine Ab.drewN ?_ _ | with_reducible refine Ab.alloc ?_ _ | with_reducible refine Ab.trans ?_ (by assumption) | with_reducible refine Ab.set ?_ (by first | (simp; done) | omega | (simp; omega)) _))
theorem LMem.own (h : LMem w wr r D E W cd ce cw xs) : ∀ a, W = some a → w.heap.size + 1 ≤ a.block ∧ a.block < wr.heap.size := OV.rng h.2.2.2.2.2.1.1
theorem far_grow {lo g' : Nat} {B : Option Addr} {l : List UInt8} (hF : Far W B l) (hB : RB wr lo B l) (hg : wr.grownBy wx (W.map (·.block))) (hk : W.map (·.block) = some g' ∨ g' = wr.heap.size) : RB wx lo B l ∧ Far (some ⟨g', 0, none⟩) B l := by
  refine ⟨fun hl => grown_rb hg hB (fun q hq he => ?_) hl, fun p q hp hq hl => ?_⟩
  · cases W with
    | none => cases he
    | some p => exact hF p q rfl hq hl (by simpa using he)
  · obtain rfl := Option.some.inj hp
    simp only
    rcases hk with hk | hk
    · cases W with
      | none => cases hk
      | some p =>
        have h1 := hF p q rfl hq hl
        have h2 : p.block = g' := by simpa using hk
        rw [← h2]; exact h1
    · obtain ⟨ad, h1, _, h3⟩ := hB hl
      rw [hq] at h1
      obtain rfl := Option.some.inj h1
      have hlt := cell_lt (h3 0 hl)
      rw [addr_add_block] at hlt
      omega
theorem LMem.grow {g' c' : Nat} {ys : List RecM} (h : LMem w wr r D E W cd ce cw xs) (hg : wr.grownBy wx (W.map (·.block))) (hk : W.map (·.block) = some g' ∨ g' = wr.heap.size) (ho : OwnRecs (w.heap.size + 1) wx (some ⟨g', 0, none⟩) c' ys) : LMem w wx r D E (some ⟨g', 0, none⟩) cd ce c' ys := by
  have hown := h.own
  obtain ⟨h1, h2, h3, h4, h5, h6, h7, h8, h9⟩ := h
  obtain ⟨k1, k2⟩ := far_grow h7 h2 hg hk
  obtain ⟨k3, k4⟩ := far_grow h8 h3 hg hk
  refine ⟨h1.grown hg (fun a ha => by have := (hown a ha).1; omega) hg.size, k1, k3, h4, h5, ho, k2, k4, grown_ab h9 hg (fun g hg' => ?_)⟩
  cases W with
  | none => cases hg'
  | some p =>
    have h10 := (hown p rfl).1
    have h11 : p.block = g := by simpa using hg'
    omega
end
end Go.Proofs.Ytehagdpcegpbjaa
