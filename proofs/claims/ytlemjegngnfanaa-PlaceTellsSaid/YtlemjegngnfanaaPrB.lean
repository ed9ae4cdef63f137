/- The reference's pick: Ask. (Written by bin/gen_prask.py.) -/
import Derived.Test.YtlemjegngnfanaaPrA
namespace Go.Proofs.Ytlemjegngnfanaa.Pk
open Go.RowKit Go.Proofs.Ytlemjegngnfanaa.Oct Go.Proofs.Ytlemjegngnfanaa.Mv Go.Proofs.Ytlemjegngnfanaa.Tl Go.Maps
set_option linter.unusedVariables false

end Go.Proofs.Ytlemjegngnfanaa.Pk

