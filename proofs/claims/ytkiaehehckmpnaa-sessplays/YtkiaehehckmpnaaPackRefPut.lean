/- The contracts of the document's own writers. -/
import Derived.Test.YtkiaehehckmpnaaPackPut

namespace Go.Proofs.Ytkiaehehckmpnaa.Pk

open Go.RowKit

set_option linter.unusedVariables false

set_option linter.unusedSimpArgs false

theorem OB.nil (w : World) (base : Nat) : OB w base (.slice none 0 0) [] := World.ownsRow_nil w base 5 1

end Go.Proofs.Ytkiaehehckmpnaa.Pk
