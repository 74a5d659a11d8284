/- A guarded comparison of two arrays that comes. Own work. -/
import Derived.Test.YtiijehmbpjakhaaDoorShLawC
set_option linter.unusedVariables false
set_option linter.unusedSimpArgs false
namespace Go.Proofs.YtiijehmbpjakhaaDoor
open Go.RowKit

theorem list_eqG {ops : Array Oper} {rest : List Oper} {o : Oper} {a : Act} {w : World} {Q : Exit → Act → World → Prop} (T T2 : TypeId) (x y : Operand) (us vs : Array Value) (hw : Region.wanted o (yielded ops a.tmps) = true) (ho : o.op = .binOp .eql T x y T2)
    (hx : a.eval x = .agg us) (hy : a.eval y = .agg vs) (hG : Tryd.prog.eqGuardType Tryd.prog.depth T = false) (hE : (Op.equalIn 10000 T (.agg us) (.agg vs)).run Tryd.prog w = .ok true w)
    (h : wpList Tryd.prog ops Q rest (a.put o.dst (.bool true)) w) : wpList Tryd.prog ops Q (o :: rest) a w :=
  wpList_step fun K hK => by
    rw [if_pos hw]
    unfold Oper.wp
    have e : (execOp a.eval o).run Tryd.prog w = .ok (.value (.bool true)) w := by
      unfold execOp
      simp only [ho, hx, hy]
      have e1 : (eqGuard .eql T x y (.agg us) (.agg vs)).run Tryd.prog w = .ok () w := by
        have e0 : Sem.run Tryd.prog (Sem.program Sem.pure) w = .ok Tryd.prog w := rfl
        simp [eqGuard, go_sem, program, e0, hG]
      have e2 : (Op.equalIn Op.maxDepth T (.agg us) (.agg vs)).run Tryd.prog w = .ok true w := hE
      simp [go_sem, binOp, Op.equal, e1, e2]
    rw [e]
    exact hK _ _ h
end Go.Proofs.YtiijehmbpjakhaaDoor
