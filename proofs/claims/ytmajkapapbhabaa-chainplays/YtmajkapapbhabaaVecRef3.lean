/- The document's own answer to chapter 6: Get. -/
import Derived.Test.YtmajkapapbhabaaVecRefP

import Derived.Test.YtmajkapapbhabaaVecGet

import Derived.Test.YtmajkapapbhabaaPackRefGet

namespace Go.Proofs.Ytmajkapapbhabaa.Vc

open Go.RowKit

set_option linter.unusedVariables false

set_option linter.unusedSimpArgs false

set_option maxRecDepth 100000

end Go.Proofs.Ytmajkapapbhabaa.Vc
