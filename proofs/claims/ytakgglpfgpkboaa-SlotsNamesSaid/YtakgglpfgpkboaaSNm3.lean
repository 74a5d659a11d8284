/- SlotsNames: region 3. Written by genslots.py. Own work. -/
import Derived.Test.YtakgglpfgpkboaaSNm4
import Derived.Test.YtakgglpfgpkboaaSNmReg3
set_option linter.unusedVariables false
set_option linter.unusedSimpArgs false
namespace Go.Proofs.Ytakgglpfgpkboaa
open Go.RowKit

noncomputable def stail3 : Code := ((Try.f3.body.bind (tailR 3)).getD .skip)
set_option maxRecDepth 1000000 in
set_option maxHeartbeats 9600000 in
theorem spart3 (w w0 : World) (HA0 : Ab w w0) (T : Array Value) (hsT : T.size = 309) (f2 : T.getD 2 undef = .int .i64 2) (f5 : T.getD 5 undef = .int .i64 4) :
    Code.wp Try.prog stail3 (bodyPost Try.prog Try.f3 (fun e w' => e = .returned (.bool true) ∧ Ab w w')) ⟨T, []⟩ w0 := by
  obtain ⟨g, hg, hT⟩ := opq_lit 309 T hsT
  rw [lit_309] at hT
  have e2 := (hg 2).trans f2
  have e5 := (hg 5).trans f5
  clear hg hsT f2 f5
  subst hT
  rw [e2, e5]
  clear e2 e5
  conv => arg 2; whnf
  go_wp2
  refine wp_cut (SK3 w) ?_ ?_
  rotate_left
  · intro J K' hJ hK'
    exact sreg3 w _ HA0 _ (by rfl) (by rfl) (by rfl) _ _ (fun a' w' h => hK' _ _ (Met.intro (hJ _ _ h)))
  rename_i KK hKK
  rintro ⟨T2, d2⟩ wz ⟨hd2, hs2, f2, f5, f8, HAz⟩
  simp only at hd2 hs2 f2 f5 f8
  subst hd2
  refine hKK _ _ ?_
  exact spart4 w wz HAz T2 hs2 f2 f5 f8
end Go.Proofs.Ytakgglpfgpkboaa
