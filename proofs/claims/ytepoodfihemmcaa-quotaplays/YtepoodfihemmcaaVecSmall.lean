/- vec's smallest functions, and the one that goes through two vectors. -/
import Derived.Test.YtepoodfihemmcaaMem

import Derived.Test.YtepoodfihemmcaaVecMath

import Derived.Deep.RegionWith

namespace Go.Proofs.Ytepoodfihemmcaa.Vc

open Go.RowKit

set_option linter.unusedVariables false

set_option linter.unusedSimpArgs false

end Go.Proofs.Ytepoodfihemmcaa.Vc
