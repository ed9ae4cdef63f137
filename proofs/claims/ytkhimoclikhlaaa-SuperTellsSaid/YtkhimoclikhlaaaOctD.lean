/- What the verifier's Again and Equal answer, with their bytes in memory as told. -/
import Derived.Test.YtkhimoclikhlaaaOctC
import Derived.Lib.ConvBytes
namespace Go.Proofs.Ytkhimoclikhlaaa.Oct
open Go.RowKit
set_option linter.unusedVariables false
end Go.Proofs.Ytkhimoclikhlaaa.Oct
