/- vec: two vectors compared; Join, Meet, Leq. -/
import Derived.Test.YtepoodfihemmcaaVecBoth

namespace Go.Proofs.Ytepoodfihemmcaa.Vc

open Go.RowKit

set_option linter.unusedVariables false

set_option linter.unusedSimpArgs false

set_option maxRecDepth 100000

end Go.Proofs.Ytepoodfihemmcaa.Vc
