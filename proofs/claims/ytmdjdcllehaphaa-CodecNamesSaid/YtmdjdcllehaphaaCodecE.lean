/- Plain mathematics of layer 7: the chapter's examples. No program is named. Own work. -/
import Derived.Test.YtmdjdcllehaphaaCodec
set_option linter.unusedVariables false
namespace Go.Proofs.Ytmdjdcllehaphaa
namespace Codec

def v0 : V := .mk 1 0 [] []
def v1 : V := .mk 1 (-1) [] []
def v300 : V := .mk 1 300 [] []
def vab : V := .mk 2 0 [97, 98] []
def vboth : V := .mk 3 0 [] [v300, vab]
theorem code_0 : code 0 = [0] := code_small (by omega)
theorem code_1 : code 1 = [1] := code_small (by omega)
theorem code_2 : code 2 = [2] := code_small (by omega)
theorem code_600 : code 600 = [216, 4] := by rw [code_big (by omega), show 600 / 128 = 4 from rfl, code_small (by omega)]; rfl
theorem ex_0 : kinds 6 v0 = true ∧ enc 6 v0 = [1, 0] := by
  refine ⟨rfl, ?_⟩
  show 1 :: code (fold 0) = _
  rw [show fold 0 = 0 from rfl, code_0]
theorem ex_1 : kinds 6 v1 = true ∧ enc 6 v1 = [1, 1] := by
  refine ⟨rfl, ?_⟩
  show 1 :: code (fold (-1)) = _
  rw [show fold (-1) = 1 from rfl, code_1]
theorem ex_300 : kinds 6 v300 = true ∧ enc 6 v300 = [1, 216, 4] := by
  refine ⟨rfl, ?_⟩
  show 1 :: code (fold 300) = _
  rw [show fold 300 = 600 from rfl, code_600]
theorem ex_ab : kinds 6 vab = true ∧ enc 6 vab = [2, 2, 97, 98] := by
  refine ⟨rfl, ?_⟩
  show 2 :: (code 2 ++ [97, 98]) = _
  rw [code_2]; rfl
theorem ex_both : kinds 6 vboth = true ∧ enc 6 vboth = [3, 2, 1, 216, 4, 2, 2, 97, 98] := by
  refine ⟨rfl, ?_⟩
  show 3 :: (code 2 ++ ((1 :: code (fold 300)) ++ ((2 :: (code 2 ++ [97, 98])) ++ []))) = _
  rw [show fold 300 = 600 from rfl, code_600, code_2]; rfl
theorem ex_none : decode [1, 128, 0] = (V.zero, 12) := by
  have h : read 6 [1, 128, 0] = none := by
    rw [read, show coded [128, 0] = none from rfl]
  unfold decode next
  rw [h]
  rfl
end Codec
end Go.Proofs.Ytmdjdcllehaphaa
