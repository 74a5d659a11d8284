/- SlotsNames: region 29. Written by genslots.py. Own work. -/
import Derived.Test.YtakgglpfgpkboaaSNmReg
set_option linter.unusedVariables false
set_option linter.unusedSimpArgs false
namespace Go.Proofs.Ytakgglpfgpkboaa
open Go.RowKit

noncomputable def stail29 : Code := ((Try.f3.body.bind (tailR 29)).getD .skip)
set_option maxRecDepth 1000000 in
set_option maxHeartbeats 9600000 in
theorem spart29 (w w0 : World) (HA0 : Ab w w0) (T : Array Value) (hsT : T.size = 309) (f21 : T.getD 21 undef = .bool true) (f36 : T.getD 36 undef = .bool true) (f48 : T.getD 48 undef = .bool true) :
    Code.wp Try.prog stail29 (bodyPost Try.prog Try.f3 (fun e w' => e = .returned (.bool true) ∧ Ab w w')) ⟨T, []⟩ w0 := by
  obtain ⟨g, hg, hT⟩ := opq_lit 309 T hsT
  rw [lit_309] at hT
  have e21 := (hg 21).trans f21
  have e36 := (hg 36).trans f36
  have e48 := (hg 48).trans f48
  clear hg hsT f21 f36 f48
  subst hT
  rw [e21, e36, e48]
  clear e21 e36 e48
  conv => arg 2; whnf
  go_wp2_with fail
  refine (salive_true _).mono ?_
  rintro e wz ⟨rfl, hbz⟩
  go_wp2
  go_ret
  exact ⟨rfl, (by repeat (first | with_reducible exact Ab.refl _ | with_reducible assumption | with_reducible refine Ab.drew ?_ | with_reducible refine Ab.drewN ?_ _ | with_reducible refine Ab.alloc ?_ _ | with_reducible refine Ab.trans ?_ (by assumption) | with_reducible refine Ab.set ?_ (by first | (simp; done) | omega | (simp; omega)) _))⟩
end Go.Proofs.Ytakgglpfgpkboaa
