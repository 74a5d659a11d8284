/- Slots in memory, and what a function of slots returns. Own work. -/
import Derived.Test.YtakgglpfgpkboaaSlots
import Derived.Test.YtakgglpfgpkboaaGB
set_option linter.unusedVariables false
namespace Go.Proofs.Ytakgglpfgpkboaa
open Go.RowKit
open Slots (Sl)

/-- Where the bytes of slots lie. -/
structure AM where
  A : Option Addr
  B : Option Addr
  C : Option Addr
  D : Option Addr
  ca : Nat
  cb : Nat
  cc : Nat
  cd : Nat
def AM.nil : AM := ⟨none, none, none, none, 0, 0, 0, 0⟩
/-- The bytes of slots lie in blocks from lo on. -/
structure SlM (w : World) (lo : Nat) (m : AM) (r : Sl) : Prop where
  a : RB w lo m.A r.a.s
  b : RB w lo m.B r.a.t
  c : RB w lo m.C r.b.s
  d : RB w lo m.D r.b.t
  la : r.a.s.length ≤ m.ca
  lb : r.a.t.length ≤ m.cb
  lc : r.b.s.length ≤ m.cc
  ld : r.b.t.length ≤ m.cd
  sa : r.a.s.length ≤ 1000000
  sb : r.a.t.length ≤ 1000000
  sc : r.b.s.length ≤ 1000000
  sd : r.b.t.length ≤ 1000000
section
variable {w w' : World} {lo lo' : Nat} {m : AM} {r : Sl}
theorem SlM.ab (h : SlM w lo m r) (k : Ab w w') : SlM w' lo m r := ⟨h.a.ab k, h.b.ab k, h.c.ab k, h.d.ab k, h.la, h.lb, h.lc, h.ld, h.sa, h.sb, h.sc, h.sd⟩
theorem SlM.mono (h : SlM w lo m r) (k : lo' ≤ lo) : SlM w lo' m r := ⟨h.a.mono k, h.b.mono k, h.c.mono k, h.d.mono k, h.la, h.lb, h.lc, h.ld, h.sa, h.sb, h.sc, h.sd⟩
theorem SlM.zero (h : SlM w lo m r) : SlM w 0 m r := h.mono (Nat.zero_le _)
theorem SlM.nil : SlM w lo AM.nil Slots.zero := ⟨RB.nil, RB.nil, RB.nil, RB.nil, Nat.le_refl _, Nat.le_refl _, Nat.le_refl _, Nat.le_refl _, Nat.zero_le _, Nat.zero_le _, Nat.zero_le _, Nat.zero_le _⟩
end
/-- It returns the slots and the error m. -/
def RetSlE (w : World) (m : Sl × Int) (e : Ending) (w' : World) : Prop :=
  ∃ (r : Sl) (er : Int) (k : AM), Hid ((r, er) = m) ∧ e = .returned (.tuple #[.agg #[.slice k.A r.a.s.length k.ca, .slice k.B r.a.t.length k.cb, .int .i64 r.a.cap, .bool r.a.down, .slice k.C r.b.s.length k.cc, .slice k.D r.b.t.length k.cd, .int .i64 r.b.cap, .bool r.b.down, .int .i64 r.n], .int .i64 er]) ∧ SlM w' w.heap.size k r ∧ Ab w w'
def RetSl (w : World) (m : Sl) (e : Ending) (w' : World) : Prop :=
  ∃ (r : Sl) (k : AM), Hid (r = m) ∧ e = .returned (.agg #[.slice k.A r.a.s.length k.ca, .slice k.B r.a.t.length k.cb, .int .i64 r.a.cap, .bool r.a.down, .slice k.C r.b.s.length k.cc, .slice k.D r.b.t.length k.cd, .int .i64 r.b.cap, .bool r.b.down, .int .i64 r.n]) ∧ SlM w' w.heap.size k r ∧ Ab w w'
def RetSl3 (w : World) (m : Sl × Int × Int) (e : Ending) (w' : World) : Prop :=
  ∃ (r : Sl) (num er : Int) (k : AM), Hid ((r, num, er) = m) ∧ e = .returned (.tuple #[.agg #[.slice k.A r.a.s.length k.ca, .slice k.B r.a.t.length k.cb, .int .i64 r.a.cap, .bool r.a.down, .slice k.C r.b.s.length k.cc, .slice k.D r.b.t.length k.cd, .int .i64 r.b.cap, .bool r.b.down, .int .i64 r.n], .int .i64 num, .int .i64 er]) ∧ SlM w' 0 k r ∧ Ab w w'
def RetNum3 (w : World) (m : Int × List UInt8 × Int) (e : Ending) (w' : World) : Prop :=
  ∃ (num er : Int) (b : List UInt8) (A : Option Addr) (c : Nat), Hid ((num, b, er) = m) ∧ e = .returned (.tuple #[.int .i64 num, .slice A b.length c, .int .i64 er]) ∧ RB w' w.heap.size A b ∧ b.length ≤ c ∧ b.length ≤ 1000 ∧ Ab w w'
/-- It returns a record, and whether there is one. -/
def RetRecO (w : World) (m : Option Frame.Rec) (e : Ending) (w' : World) : Prop :=
  ∃ (r : Frame.Rec) (ok : Bool) (A : Option Addr) (c : Nat), Hid ((if ok then some r else none) = m) ∧ e = .returned (.tuple #[.agg #[.int .i64 r.num, .slice A r.data.length c], .bool ok]) ∧ RB w' w.heap.size A r.data ∧ r.data.length ≤ c ∧ (ok = true → Frame.Valid r) ∧ Ab w w'
section
variable {w w' : World}
theorem RetSlE.zero {m : Sl × Int} {er : Int} (h : (Slots.zero, er) = m) (hb : Ab w w') : RetSlE w m (.returned (.tuple #[(.agg #[.slice none 0 0, .slice none 0 0, .int .i64 0, .bool false, .slice none 0 0, .slice none 0 0, .int .i64 0, .bool false, .int .i64 0]), .int .i64 er])) w' := ⟨Slots.zero, er, AM.nil, h, rfl, SlM.nil, hb⟩
theorem RetSl3.zero {m : Sl × Int × Int} {er : Int} (h : (Slots.zero, 0, er) = m) (hb : Ab w w') : RetSl3 w m (.returned (.tuple #[(.agg #[.slice none 0 0, .slice none 0 0, .int .i64 0, .bool false, .slice none 0 0, .slice none 0 0, .int .i64 0, .bool false, .int .i64 0]), .int .i64 0, .int .i64 er])) w' := ⟨Slots.zero, 0, er, AM.nil, h, rfl, SlM.nil, hb⟩
end
theorem RB.put {w : World} {lo : Nat} {A : Option Addr} {l : List UInt8} (h : RB w lo A l) {p : Addr} (hp : p.block < lo) (u : Value) : RB (w.setCell p u) lo A l :=
  h.block fun g hg _ => Below.heap_setCell w p u g (by omega)
theorem SlM.put {w : World} {lo : Nat} {m : AM} {r : Sl} (h : SlM w lo m r) {p : Addr} (hp : p.block < lo) (u : Value) : SlM (w.setCell p u) lo m r :=
  ⟨h.a.put hp u, h.b.put hp u, h.c.put hp u, h.d.put hp u, h.la, h.lb, h.lc, h.ld, h.sa, h.sb, h.sc, h.sd⟩
/-- A variable of slots, in block b. -/
structure SlB (w : World) (b : Nat) (m : AM) (r : Sl) : Prop where
  q0 : w.cell? ⟨b, 0, none⟩ = some (.slice m.A r.a.s.length m.ca)
  q1 : w.cell? ⟨b, 1, none⟩ = some (.slice m.B r.a.t.length m.cb)
  q2 : w.cell? ⟨b, 2, none⟩ = some (.int .i64 r.a.cap)
  q3 : w.cell? ⟨b, 3, none⟩ = some (.bool r.a.down)
  q4 : w.cell? ⟨b, 4, none⟩ = some (.slice m.C r.b.s.length m.cc)
  q5 : w.cell? ⟨b, 5, none⟩ = some (.slice m.D r.b.t.length m.cd)
  q6 : w.cell? ⟨b, 6, none⟩ = some (.int .i64 r.b.cap)
  q7 : w.cell? ⟨b, 7, none⟩ = some (.bool r.b.down)
  q8 : w.cell? ⟨b, 8, none⟩ = some (.int .i64 r.n)
  g0 : w.frozen? ⟨b, 0, none⟩ = false
  g1 : w.frozen? ⟨b, 1, none⟩ = false
  g2 : w.frozen? ⟨b, 2, none⟩ = false
  g3 : w.frozen? ⟨b, 3, none⟩ = false
  g4 : w.frozen? ⟨b, 4, none⟩ = false
  g5 : w.frozen? ⟨b, 5, none⟩ = false
  g6 : w.frozen? ⟨b, 6, none⟩ = false
  g7 : w.frozen? ⟨b, 7, none⟩ = false
  g8 : w.frozen? ⟨b, 8, none⟩ = false
theorem SlB.lt {w : World} {b : Nat} {m : AM} {r : Sl} (h : SlB w b m r) : b < w.heap.size := cell_lt h.q0
theorem SlB.ab {w w' : World} {b : Nat} {m : AM} {r : Sl} (h : SlB w b m r) (k : Ab w w') : SlB w' b m r :=
  ⟨k.at h.q0, k.at h.q1, k.at h.q2, k.at h.q3, k.at h.q4, k.at h.q5, k.at h.q6, k.at h.q7, k.at h.q8, k.fr h.lt h.g0, k.fr h.lt h.g1, k.fr h.lt h.g2, k.fr h.lt h.g3, k.fr h.lt h.g4, k.fr h.lt h.g5, k.fr h.lt h.g6, k.fr h.lt h.g7, k.fr h.lt h.g8⟩
/-- A fresh variable of slots. -/
theorem SlB.box {w : World} {b : Nat} {m : AM} {r : Sl} {T : TypeId} (hb : w.heap[b]? = some (.cells #[.slice m.A r.a.s.length m.ca, .slice m.B r.a.t.length m.cb, .int .i64 r.a.cap, .bool r.a.down, .slice m.C r.b.s.length m.cc, .slice m.D r.b.t.length m.cd, .int .i64 r.b.cap, .bool r.b.down, .int .i64 r.n] T (0, 0))) : SlB w b m r := by
  refine ⟨?_, ?_, ?_, ?_, ?_, ?_, ?_, ?_, ?_, ?_, ?_, ?_, ?_, ?_, ?_, ?_, ?_, ?_⟩ <;> simp [World.cell?, World.frozen?, hb]
/-- A device of the two. -/
@[go_sem] theorem two_at0 (x0 x1 x2 x3 x4 x5 x6 x7 : Value) (w : World) : (Instr.index 25 (.agg #[x0, x1, x2, x3, x4, x5, x6, x7]) (.int .i64 0)).run Try.prog w = .ok (.agg #[x0, x1, x2, x3]) w := by kernel_rfl
@[go_sem] theorem two_at1 (x0 x1 x2 x3 x4 x5 x6 x7 : Value) (w : World) : (Instr.index 25 (.agg #[x0, x1, x2, x3, x4, x5, x6, x7]) (.int .i64 1)).run Try.prog w = .ok (.agg #[x4, x5, x6, x7]) w := by kernel_rfl
end Go.Proofs.Ytakgglpfgpkboaa
