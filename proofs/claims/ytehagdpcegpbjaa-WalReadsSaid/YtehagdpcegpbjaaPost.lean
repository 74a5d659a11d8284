/- The ends that the contracts of layer 1 state. Own work. -/
import Derived.Test.YtehagdpcegpbjaaPostB
import Derived.Test.YtehagdpcegpbjaaDisk
namespace Go.Proofs.Ytehagdpcegpbjaa
open Go.RowKit Disk

/-- It returns the device m, in memory of its own. -/
def RetDev (w : World) (m : Dev) (e : Ending) (w' : World) : Prop :=
  ∃ (r : Dev) (D E : Option Addr) (cd ce : Nat), Hid (r = m) ∧ e = .returned (.agg #[.slice D r.s.length cd, .slice E r.t.length ce, .int .i64 r.cap, .bool r.down]) ∧ OR 5 w.heap.size w' D cd r.s ∧ OR 5 w.heap.size w' E ce r.t ∧ Ab w w'
/-- It returns the device and the error m. -/
def RetDevE (w : World) (m : Dev × Int) (e : Ending) (w' : World) : Prop :=
  ∃ (r : Dev) (er : Int) (D E : Option Addr) (cd ce : Nat), Hid ((r, er) = m) ∧ e = .returned (.tuple #[.agg #[.slice D r.s.length cd, .slice E r.t.length ce, .int .i64 r.cap, .bool r.down], .int .i64 er]) ∧ OR 5 w.heap.size w' D cd r.s ∧ OR 5 w.heap.size w' E ce r.t ∧ Ab w w'
/-- It returns a number. -/
def RetInt (w : World) (m : Int) (e : Ending) (w' : World) : Prop := ∃ r : Int, Hid (r = m) ∧ e = .returned (.int .i64 r) ∧ Ab w w'
def RetIntE (w : World) (m : Int × Int) (e : Ending) (w' : World) : Prop := ∃ r er : Int, Hid ((r, er) = m) ∧ e = .returned (.tuple #[.int .i64 r, .int .i64 er]) ∧ Ab w w'
/-- It returns bytes in memory of its own. -/
def RetB (w : World) (m : List UInt8) (e : Ending) (w' : World) : Prop :=
  ∃ (r : List UInt8) (D : Option Addr) (c : Nat), Hid (r = m) ∧ e = .returned (.slice D r.length c) ∧ OR 5 w.heap.size w' D c r ∧ Ab w w'
def RetBE (w : World) (m : List UInt8 × Int) (e : Ending) (w' : World) : Prop :=
  ∃ (r : List UInt8) (er : Int) (D : Option Addr) (c : Nat), Hid ((r, er) = m) ∧ e = .returned (.tuple #[.slice D r.length c, .int .i64 er]) ∧ RB w' w.heap.size D r ∧ r.length ≤ c ∧ Ab w w'
def RetBool (w : World) (m : Bool) (e : Ending) (w' : World) : Prop := e = .returned (.bool m) ∧ Ab w w'
theorem RetInt.mk {w w' : World} {m : Int} {v : Value} (h : v = .int .i64 m) (hb : Ab w w') : RetInt w m (.returned v) w' := ⟨m, rfl, by rw [h], hb⟩
theorem RetDevE.zero {w w' : World} {m : Dev × Int} {er : Int} (h : (Disk.zero, er) = m) (hb : Ab w w') :
    RetDevE w m (.returned (.tuple #[.agg #[.slice none 0 0, .slice none 0 0, .int .i64 0, .bool false], .int .i64 er])) w' :=
  ⟨Disk.zero, er, none, none, 0, 0, h, rfl, OR.none_, OR.none_, hb⟩
end Go.Proofs.Ytehagdpcegpbjaa
