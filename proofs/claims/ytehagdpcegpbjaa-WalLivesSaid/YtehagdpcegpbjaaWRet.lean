/- The ends that the contracts of layer 4 state. Own work. -/
import Derived.Test.YtehagdpcegpbjaaGB
import Derived.Test.YtehagdpcegpbjaaGA
set_option linter.unusedVariables false
namespace Go.Proofs.Ytehagdpcegpbjaa
open Go.RowKit

/-- It returns the log and the error m. -/
def RetLogE (w : World) (m : Wal.Log × Int) (e : Ending) (w' : World) : Prop :=
  ∃ (r : Wal.Log) (er : Int) (D E : Option Addr) (cd ce : Nat), Hid ((r, er) = m) ∧ e = .returned (.tuple #[.agg #[.slice D r.dev.s.length cd, .slice E r.dev.t.length ce, .int .i64 r.dev.cap, .bool r.dev.down, .int .i64 r.first, .int .i64 r.next], .int .i64 er]) ∧ OR 5 w.heap.size w' D cd r.dev.s ∧ OR 5 w.heap.size w' E ce r.dev.t ∧ Ab w w'
theorem RetLogE.zero {w w' : World} {m : Wal.Log × Int} {er : Int} (h : (Wal.zero, er) = m) (hb : Ab w w') : RetLogE w m (.returned (.tuple #[.agg #[.slice none 0 0, .slice none 0 0, .int .i64 0, .bool false, .int .i64 0, .int .i64 0], .int .i64 er])) w' :=
  ⟨Wal.zero, er, none, none, 0, 0, h, rfl, OR.none_, OR.none_, hb⟩
def RetLog3 (w : World) (m : Wal.Log × Int × Int) (e : Ending) (w' : World) : Prop :=
  ∃ (r : Wal.Log) (k er : Int) (D E : Option Addr) (cd ce : Nat), Hid ((r, k, er) = m) ∧ e = .returned (.tuple #[.agg #[.slice D r.dev.s.length cd, .slice E r.dev.t.length ce, .int .i64 r.dev.cap, .bool r.dev.down, .int .i64 r.first, .int .i64 r.next], .int .i64 k, .int .i64 er]) ∧ OR 5 w.heap.size w' D cd r.dev.s ∧ OR 5 w.heap.size w' E ce r.dev.t ∧ Ab w w'
theorem RetLog3.zero {w w' : World} {m : Wal.Log × Int × Int} {er : Int} (h : (Wal.zero, 0, er) = m) (hb : Ab w w') : RetLog3 w m (.returned (.tuple #[.agg #[.slice none 0 0, .slice none 0 0, .int .i64 0, .bool false, .int .i64 0, .int .i64 0], .int .i64 0, .int .i64 er])) w' :=
  ⟨Wal.zero, 0, er, none, none, 0, 0, h, rfl, OR.none_, OR.none_, hb⟩
/-- It returns records, in memory of its own, and the error m. -/
def RetRecsE (w : World) (m : List Frame.Rec × Int) (e : Ending) (w' : World) : Prop :=
  ∃ (B : Option Addr) (d : Nat) (xs : List RecM) (er : Int), Hid ((recs xs, er) = m) ∧ e = .returned (.tuple #[.slice B xs.length d, .int .i64 er]) ∧ Recs w' w.heap.size B xs ∧ xs.length ≤ d ∧ xs.length ≤ 20000 ∧
    Hid (∀ i (hi : i < xs.length), xs[i].b.length ≤ 1000) ∧ Ab w w'
theorem RetRecsE.zero {w w' : World} {m : List Frame.Rec × Int} {er : Int} (h : ([], er) = m) (hb : Ab w w') : RetRecsE w m (.returned (.tuple #[.slice none 0 0, .int .i64 er])) w' :=
  ⟨none, 0, [], er, h, rfl, Recs.nil, Nat.le_refl _, Nat.zero_le _, Lib.hid (fun i hi => absurd hi (by simp)), hb⟩
theorem OR.take {e : TypeId} {lo c : Nat} {w : World} {A : Option Addr} {l : List UInt8} (h : OR e lo w A c l) (k : Nat) : OR e lo w A c (l.take k) := by
  refine ⟨by simp, ?_⟩
  rcases h.out.2 with ⟨h1, h0⟩ | ⟨g, cap, cur, hv, hb, hh, hn, hm, hs, ht⟩
  · have : l = [] := List.eq_nil_of_length_eq_zero h0
    subst this
    exact .inl ⟨by simpa using h1, by simp⟩
  · injection hv with h1 h2 h3
    subst h1 h3
    refine .inr ⟨g, c, cur, rfl, hb, hh, by simp; omega, hm, hs, ?_⟩
    rw [List.map_take, ← ht, List.take_take]
    congr 1
    simp
theorem small_of {l : List Frame.Rec} (h : Frame.Foll l) {xs : List RecM} (e : recs xs = l) : ∀ i (hi : i < xs.length), xs[i].b.length ≤ 1000 := by
  intro i hi
  subst e
  have := (h i (by rw [recs_length]; exact hi)).1
  rw [recs_get xs i hi] at this
  exact this.2.2
/-- A device and an error, in two variables; zb is the world at the function's head. -/
def DevCut (w zb : World) (m : Disk.Dev × Int) (v7 v8 : Value) (wx : World) : Prop :=
  ∃ (P : Nat) (r : Disk.Dev) (er : Int) (D E : Option Addr) (cd ce : Nat), v7 = .pointer (some ⟨P, 0, none⟩) ∧ v8 = .int .i64 er ∧ Hid ((r, er) = m) ∧ wx.cell? ⟨P, 0, none⟩ = some (.slice D r.s.length cd) ∧ wx.cell? ⟨P, 1, none⟩ = some (.slice E r.t.length ce) ∧
    wx.cell? ⟨P, 2, none⟩ = some (.int .i64 r.cap) ∧ wx.cell? ⟨P, 3, none⟩ = some (.bool r.down) ∧ OR 5 (w.heap.size + 1 + 1) wx D cd r.s ∧ OR 5 (w.heap.size + 1 + 1) wx E ce r.t ∧ w.heap.size + 1 < P ∧ Ab zb wx

/-- It returns the log m, in memory of its own. -/
def RetLog (w : World) (m : Wal.Log) (e : Ending) (w' : World) : Prop :=
  ∃ (r : Wal.Log) (D E : Option Addr) (cd ce : Nat), Hid (r = m) ∧ e = .returned (.agg #[.slice D r.dev.s.length cd, .slice E r.dev.t.length ce, .int .i64 r.dev.cap, .bool r.dev.down, .int .i64 r.first, .int .i64 r.next]) ∧ OR 5 w.heap.size w' D cd r.dev.s ∧ OR 5 w.heap.size w' E ce r.dev.t ∧ Ab w w'
end Go.Proofs.Ytehagdpcegpbjaa
