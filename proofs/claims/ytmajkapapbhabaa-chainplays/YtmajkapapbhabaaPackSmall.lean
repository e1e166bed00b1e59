/- The contracts of pack's smallest functions. -/
import Derived.Test.YtmajkapapbhabaaRows

import Derived.Test.YtmajkapapbhabaaPackMath

import Derived.WalkKit

import Derived.WalkLawsBesides

import Derived.WalkSpells

import Derived.Outline

import Derived.Below

import Derived.Laws.BitsAllLaws

namespace Go.Proofs.Ytmajkapapbhabaa.Pk

open Go.RowKit

set_option linter.unusedVariables false

end Go.Proofs.Ytmajkapapbhabaa.Pk
