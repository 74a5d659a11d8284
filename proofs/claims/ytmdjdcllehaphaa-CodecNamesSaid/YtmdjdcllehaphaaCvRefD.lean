/- The reference of the codec: kinds, folds, codes, walked. Own work. -/
import Derived.Test.YtmdjdcllehaphaaCvFunI
set_option linter.unusedVariables false
set_option linter.unusedSimpArgs false
namespace Go.Proofs.Ytmdjdcllehaphaa
open Go.RowKit
open Codec (V)

end Go.Proofs.Ytmdjdcllehaphaa
