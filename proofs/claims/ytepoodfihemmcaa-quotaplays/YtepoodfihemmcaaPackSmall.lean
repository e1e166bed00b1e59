/- The contracts of pack's smallest functions. -/
import Derived.Test.YtepoodfihemmcaaRows

import Derived.Test.YtepoodfihemmcaaPackMath

import Derived.WalkKit

import Derived.WalkLawsBesides

import Derived.WalkSpells

import Derived.Outline

import Derived.Below

import Derived.Laws.BitsAllLaws

namespace Go.Proofs.Ytepoodfihemmcaa.Pk

open Go.RowKit

set_option linter.unusedVariables false

end Go.Proofs.Ytepoodfihemmcaa.Pk
