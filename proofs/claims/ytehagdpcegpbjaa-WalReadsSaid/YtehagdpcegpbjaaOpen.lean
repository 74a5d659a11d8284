/- An argument that is a device, opened. Own work. -/
import Derived.Test.YtehagdpcegpbjaaOpenB
import Derived.Test.YtehagdpcegpbjaaMem2
import Derived.Test.YtehagdpcegpbjaaDisk
import Derived.ProofKit
import Derived.OpenShut
import Derived.ShutString
import Derived.ChangeOld
import Derived.Below
import Derived.Lib.SmallJoins
set_option linter.unusedVariables false
namespace Go.Proofs.Ytehagdpcegpbjaa
open Go.ChangeShapes Go.WideShapes Go.ChangeAt Go.RowKit Go.Joins
open Go.ChangeMaps (open_string shut_string)

set_option maxRecDepth 100000 in
/-- A device that came in. -/
theorem open_dev {H : Type} {enc : TypeId × Value → H} {w : World} {r : Reach} {b0 base : Nat} {spare : Nat → Bool} {held : Bool} {v : Value} {d : DataW H} {p : List MemPlace}
    (hv : Value.okWide Try.prog w r b0 24 v) (h : DataW.Trod enc Try.prog w base spare held 24 v d p) :
    ∃ (A B : Option Addr) (ca cb : Nat) (s t : List UInt8) (cap : Int) (dn : Bool), v = .agg #[.slice A s.length ca, .slice B t.length cb, .int .i64 cap, .bool dn] ∧ RB w 0 A s ∧ RB w 0 B t ∧ s.length ≤ ca ∧ t.length ≤ cb ∧
      s.length ≤ 9223372036854775807 ∧ t.length ≤ 9223372036854775807 ∧ -9223372036854775808 ≤ cap ∧ cap ≤ 9223372036854775807 := by
  obtain ⟨v0, v1, v2, v3, y0, y1, y2, y3, m, rfl, rfl, rfl, h0, h1, h2, h3⟩ := open_agg4 Try.underlying24 (by kernel_rfl) (show Try.prog.cellsOf 24 = 4 by kernel_rfl) hv h
  obtain ⟨A, ca, s, rfl, hs, hca, ls⟩ := open_bytes h0
  obtain ⟨B, cb, t, rfl, ht, hcb, lt⟩ := open_bytes h1
  obtain ⟨n, e2, _, w2⟩ := DataW.trod_int Try.underlying3 h2
  obtain ⟨b, e3, _⟩ := DataW.trod_bool Try.underlying4 h3
  simp at e2 e3
  subst e2 e3
  have hb : -9223372036854775808 ≤ n ∧ n ≤ 9223372036854775807 := by simpa [Lit.wf, IntKind.min, IntKind.max, IntKind.signed, IntKind.bits] using w2
  exact ⟨A, B, ca, cb, s, t, n, b, rfl, hs, ht, hca, hcb, ls, lt, hb.1, hb.2⟩
end Go.Proofs.Ytehagdpcegpbjaa
