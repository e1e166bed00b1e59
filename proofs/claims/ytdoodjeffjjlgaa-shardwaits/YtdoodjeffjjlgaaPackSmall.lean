/- The contracts of pack's smallest functions. -/
import Derived.Test.YtdoodjeffjjlgaaRows

import Derived.Test.YtdoodjeffjjlgaaPackMath

import Derived.WalkKit

import Derived.WalkLawsBesides

import Derived.WalkSpells

import Derived.Outline

import Derived.Below

import Derived.Laws.BitsAllLaws

namespace Go.Proofs.Ytdoodjeffjjlgaa.Pk

open Go.RowKit

set_option linter.unusedVariables false

end Go.Proofs.Ytdoodjeffjjlgaa.Pk
