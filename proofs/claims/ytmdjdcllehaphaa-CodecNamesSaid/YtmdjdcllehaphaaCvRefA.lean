/- The reference of the codec: codes read, walked. Own work. -/
import Derived.Test.YtmdjdcllehaphaaCvFunE
set_option linter.unusedVariables false
set_option linter.unusedSimpArgs false
namespace Go.Proofs.Ytmdjdcllehaphaa
open Go.RowKit

/-- What coded returns. -/
def RetCd (w : World) (l : List UInt8) (e : Ending) (w' : World) : Prop := w = w' ∧ match Codec.coded l with
  | some (n, m) => e = .returned (.tuple #[.int .u64 (n : Int), .int .i64 (m : Int)])
  | none => e = .returned (.tuple #[.int .u64 0, .int .i64 0])
end Go.Proofs.Ytmdjdcllehaphaa
