/- The reference of the codec: the bytes of values, walked. Own work. -/
import Derived.Test.YtmdjdcllehaphaaCvRefD
import Derived.Test.YtmdjdcllehaphaaCvFunJ
set_option linter.unusedVariables false
set_option linter.unusedSimpArgs false
namespace Go.Proofs.Ytmdjdcllehaphaa
open Go.RowKit
open Codec (V)

theorem or_one {lo g : Nat} {w : World} {v : Int} {x : UInt8} (hb : lo ≤ g) (hg : w.heap[g]? = some (.cells #[.int .u8 v] 5 (0, 0))) (hv : v = (x.toNat : Int)) : OR 5 lo w (some ⟨g, 0, none⟩) 1 [x] := by
  subst hv
  exact ⟨by simp, .inr ⟨g, 1, #[.int .u8 (x.toNat : Int)], rfl, hb, hg, Nat.le_refl _, by unfold maxLen; omega, rfl, rfl⟩⟩
end Go.Proofs.Ytmdjdcllehaphaa
