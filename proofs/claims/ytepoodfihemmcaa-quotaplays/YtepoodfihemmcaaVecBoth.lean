/- vec.both. -/
import Derived.Test.YtepoodfihemmcaaVecSmall

namespace Go.Proofs.Ytepoodfihemmcaa.Vc

open Go.RowKit

set_option linter.unusedVariables false

set_option linter.unusedSimpArgs false

end Go.Proofs.Ytepoodfihemmcaa.Vc
