/- SlotsNames: region 4. Written by genslots.py. Own work. -/
import Derived.Test.YtakgglpfgpkboaaSNm5
import Derived.Test.YtakgglpfgpkboaaSNmReg4
set_option linter.unusedVariables false
set_option linter.unusedSimpArgs false
namespace Go.Proofs.Ytakgglpfgpkboaa
open Go.RowKit

noncomputable def stail4 : Code := ((Try.f3.body.bind (tailR 4)).getD .skip)
set_option maxRecDepth 1000000 in
set_option maxHeartbeats 9600000 in
theorem spart4 (w w0 : World) (HA0 : Ab w w0) (T : Array Value) (hsT : T.size = 309) (f2 : T.getD 2 undef = .int .i64 2) (f5 : T.getD 5 undef = .int .i64 4) (f8 : T.getD 8 undef = .int .i64 18) :
    Code.wp Try.prog stail4 (bodyPost Try.prog Try.f3 (fun e w' => e = .returned (.bool true) ∧ Ab w w')) ⟨T, []⟩ w0 := by
  obtain ⟨g, hg, hT⟩ := opq_lit 309 T hsT
  rw [lit_309] at hT
  have e2 := (hg 2).trans f2
  have e5 := (hg 5).trans f5
  have e8 := (hg 8).trans f8
  clear hg hsT f2 f5 f8
  subst hT
  rw [e2, e5, e8]
  clear e2 e5 e8
  conv => arg 2; whnf
  go_wp2
  refine wp_cut (SK4 w) ?_ ?_
  rotate_left
  · intro J K' hJ hK'
    exact sreg4 w _ HA0 _ (by rfl) (by rfl) (by rfl) (by rfl) _ _ (fun a' w' h => hK' _ _ (Met.intro (hJ _ _ h)))
  rename_i KK hKK
  rintro ⟨T2, d2⟩ wz ⟨hd2, hs2, f2, f5, f8, f10, f11, HAz⟩
  simp only at hd2 hs2 f2 f5 f8 f10 f11
  subst hd2
  refine hKK _ _ ?_
  exact spart5 w wz HAz T2 hs2 f2 f5 f8 f10 f11
end Go.Proofs.Ytakgglpfgpkboaa
