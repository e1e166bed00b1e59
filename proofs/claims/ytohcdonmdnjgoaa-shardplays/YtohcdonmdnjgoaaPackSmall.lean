/- The contracts of pack's smallest functions. -/
import Derived.Test.YtohcdonmdnjgoaaRows

import Derived.Test.YtohcdonmdnjgoaaPackMath

import Derived.WalkKit

import Derived.WalkLawsBesides

import Derived.WalkSpells

import Derived.Outline

import Derived.Below

import Derived.Laws.BitsAllLaws

namespace Go.Proofs.Ytohcdonmdnjgoaa.Pk

open Go.RowKit

set_option linter.unusedVariables false

end Go.Proofs.Ytohcdonmdnjgoaa.Pk
