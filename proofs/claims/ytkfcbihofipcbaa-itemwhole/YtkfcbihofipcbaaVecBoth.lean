/- vec.both. -/
import Derived.Test.YtkfcbihofipcbaaVecSmall

namespace Go.Proofs.Ytkfcbihofipcbaa.Vc

open Go.RowKit

set_option linter.unusedVariables false

set_option linter.unusedSimpArgs false

end Go.Proofs.Ytkfcbihofipcbaa.Vc
