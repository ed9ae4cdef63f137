/- What the verifier's Again and Equal answer, with their bytes in memory as told. -/
import Derived.Test.YtamibckpkhpmfaaOctC
import Derived.Lib.ConvBytes
namespace Go.Proofs.Ytamibckpkhpmfaa.Oct
open Go.RowKit
set_option linter.unusedVariables false
end Go.Proofs.Ytamibckpkhpmfaa.Oct
