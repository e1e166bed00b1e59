/- vec: Get. -/
import Derived.Test.YtkiaehehckmpnaaVecOps

import Derived.Test.YtkiaehehckmpnaaPackGet

namespace Go.Proofs.Ytkiaehehckmpnaa.Vc

open Go.RowKit

set_option linter.unusedVariables false

set_option linter.unusedSimpArgs false

set_option maxRecDepth 100000

theorem set_last (l : List Nat) (k n : Nat) (hk : 0 < k) : (l ++ List.replicate k 0).set l.length n = (l ++ [n]) ++ List.replicate (k - 1) 0 := by
  obtain ⟨m, rfl⟩ : ∃ m, k = m + 1 := ⟨k - 1, by omega⟩
  rw [List.set_append_right _ _ (Nat.le_refl _), Nat.sub_self, List.replicate_succ]
  simp
end Go.Proofs.Ytkiaehehckmpnaa.Vc
