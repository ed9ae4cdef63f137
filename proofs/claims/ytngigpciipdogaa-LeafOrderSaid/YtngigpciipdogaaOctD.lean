/- What the verifier's Again and Equal answer, with their bytes in memory as told. -/
import Derived.Test.YtngigpciipdogaaOctC
import Derived.Lib.ConvBytes
namespace Go.Proofs.Ytngigpciipdogaa.Oct
open Go.RowKit
set_option linter.unusedVariables false
end Go.Proofs.Ytngigpciipdogaa.Oct
