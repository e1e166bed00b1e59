/- The contracts of pack's smallest functions. -/
import Derived.Test.YtkiaehehckmpnaaRows

import Derived.Test.YtkiaehehckmpnaaPackMath

import Derived.WalkKit

import Derived.WalkLawsBesides

import Derived.WalkSpells

import Derived.Outline

import Derived.Below

import Derived.Laws.BitsAllLaws

namespace Go.Proofs.Ytkiaehehckmpnaa.Pk

open Go.RowKit

set_option linter.unusedVariables false

end Go.Proofs.Ytkiaehehckmpnaa.Pk
