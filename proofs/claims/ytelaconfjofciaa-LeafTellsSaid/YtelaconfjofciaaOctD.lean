/- What the verifier's Again and Equal answer, with their bytes in memory as told. -/
import Derived.Test.YtelaconfjofciaaOctC
import Derived.Lib.ConvBytes
namespace Go.Proofs.Ytelaconfjofciaa.Oct
open Go.RowKit
set_option linter.unusedVariables false
end Go.Proofs.Ytelaconfjofciaa.Oct
