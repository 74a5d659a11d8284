/- SlotsNames: walked: the chapter's examples. Written by genslots.py. Own work. -/
import Derived.Test.YtakgglpfgpkboaaSNm3
set_option linter.unusedVariables false
set_option linter.unusedSimpArgs false
namespace Go.Proofs.Ytakgglpfgpkboaa
open Go.RowKit

set_option maxRecDepth 1000000 in
set_option maxHeartbeats 9600000 in
theorem snames_walk (w : World) : Calls Try.prog 3 #[] w fun e w' => e = .returned (.bool true) ∧ Ab w w' := by
  go_enter Try.func3, Try.ntmps3
  go_wp2_with fail
  refine (snew_any 20001 _).mono ?_
  rintro e w1 ⟨r1, e1, m1, hr1, rfl, hM1, hb1⟩
  obtain ⟨x1, x2⟩ := Prod.mk.inj (hr1.out.trans Slots.nm_new)
  obtain rfl : r1 = _ := x1
  obtain rfl : e1 = _ := x2
  have HA1 : Ab w w1 := (by repeat (first | with_reducible exact Ab.refl _ | with_reducible assumption | with_reducible refine Ab.drew ?_ | with_reducible refine Ab.drewN ?_ _ | with_reducible refine Ab.alloc ?_ _ | with_reducible refine Ab.trans ?_ (by assumption) | with_reducible refine Ab.set ?_ (by first | (simp; done) | omega | (simp; omega)) _))
  clear hr1 hM1 hb1
  go_wp2
  refine wp_cut (SK2 w) ?_ ?_
  rotate_left
  · intro J K' hJ hK'
    exact sreg2 w _ (HA1.alloc _) _ (by rfl) (by rfl) _ _ (fun a' w' h => hK' _ _ (Met.intro (hJ _ _ h)))
  rename_i KK hKK
  rintro ⟨T2, d2⟩ wz ⟨hd2, hs2, f2, f5, HAz⟩
  simp only at hd2 hs2 f2 f5
  subst hd2
  refine hKK _ _ ?_
  exact spart3 w wz HAz T2 hs2 f2 f5
end Go.Proofs.Ytakgglpfgpkboaa
