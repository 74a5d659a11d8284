/- WalNames: region 10. Written by genwnames.py. Own work. -/
import Derived.Test.YtehagdpcegpbjaaWNm11
set_option linter.unusedVariables false
set_option linter.unusedSimpArgs false
namespace Go.Proofs.Ytehagdpcegpbjaa
open Go.RowKit

noncomputable def tail10 : Code := ((Try.f3.body.bind (tailR 10)).getD .skip)
set_option maxRecDepth 1000000 in
set_option maxHeartbeats 9600000 in
theorem part10 (w w0 : World) (HA0 : Ab (w.alloc (.cells #[.slice none 0 0, .slice none 0 0, .int .i64 1000, .bool false] 24)) w0) (T : Array Value) (hsT : T.size = 359) (f1 : T.getD 1 undef = .pointer (some ⟨w.heap.size, 0, none⟩)) (f16 : T.getD 16 undef = .bool true) (f19 : T.getD 19 undef = .int .i64 4) :
    Code.wp Try.prog tail10 (bodyPost Try.prog Try.f3 (fun e w' => e = .returned (.bool true) ∧ Ab w w')) ⟨T, []⟩ w0 := by
  obtain ⟨g, hg, hT⟩ := opq_lit 359 T hsT
  rw [lit_359] at hT
  have e1 := (hg 1).trans f1
  have e16 := (hg 16).trans f16
  have e19 := (hg 19).trans f19
  clear hg hsT f1 f16 f19
  subst hT
  rw [e1, e16, e19]
  clear e1 e16 e19
  conv => arg 2; whnf
  have z0 := HA0.size
  simp at z0
  go_wp2
  refine wp_cut (NK10 w) ?_ ?_
  rotate_left
  · intro J K' hJ hK'
    exact reg10 w _ HA0 _ (by rfl) (by rfl) (by rfl) (by rfl) _ _ (fun a' w' h => hK' _ _ (Met.intro (hJ _ _ h)))
  rename_i KK hKK
  rintro ⟨T2, d2⟩ wz ⟨hd2, hs2, f1, f16, f19, f22, HAz⟩
  simp only at hd2 hs2 f1 f16 f19 f22
  subst hd2
  refine hKK _ _ ?_
  exact part11 w wz HAz T2 hs2 f1 f16 f19 f22
end Go.Proofs.Ytehagdpcegpbjaa
