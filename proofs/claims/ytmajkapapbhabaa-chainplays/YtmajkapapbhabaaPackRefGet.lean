/- The contracts of the document's own reader. -/
import Derived.Test.YtmajkapapbhabaaPackText

import Derived.Test.YtmajkapapbhabaaPackRefPut

import Derived.BigRegion

import Derived.Deep.RegionWith

namespace Go.Proofs.Ytmajkapapbhabaa.Pk

open Go.RowKit

set_option linter.unusedVariables false

set_option linter.unusedSimpArgs false

end Go.Proofs.Ytmajkapapbhabaa.Pk
