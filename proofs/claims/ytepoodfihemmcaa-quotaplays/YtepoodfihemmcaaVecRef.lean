/- The document's own answer to chapter 6: Right, Leq, Join, Meet, With, At, Sum. -/
import Derived.Test.YtepoodfihemmcaaVecOps

namespace Go.Proofs.Ytepoodfihemmcaa.Vc

open Go.RowKit

set_option linter.unusedVariables false

set_option linter.unusedSimpArgs false

set_option maxRecDepth 100000

end Go.Proofs.Ytepoodfihemmcaa.Vc
