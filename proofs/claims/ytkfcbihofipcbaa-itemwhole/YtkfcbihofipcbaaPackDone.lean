/- pack: Done. -/
import Derived.Test.YtkfcbihofipcbaaPackGet

import Derived.Test.YtkfcbihofipcbaaMem

namespace Go.Proofs.Ytkfcbihofipcbaa.Pk

open Go.RowKit

set_option linter.unusedVariables false

set_option linter.unusedSimpArgs false

set_option maxHeartbeats 400000 in
theorem done_any (s : ByteArray) (b : Bool) (w : World) :
    Calls Try.prog 53 #[.agg #[.string s, .bool b]] w fun e w' => e = .returned (.bool (!b && s.toList.isEmpty)) ∧ Below w.heap.size w w' := by
  cases b with
  | true =>
    go_enter Try.func53, Try.ntmps53
    go_wp2
    go_ret
    exact ⟨rfl, (Below.refl _ _).alloc (Nat.le_refl _) _⟩
  | false =>
    go_enter Try.func53, Try.ntmps53
    go_wp2
    go_ret
    exact ⟨rfl, (Below.refl _ _).alloc (Nat.le_refl _) _⟩

end Go.Proofs.Ytkfcbihofipcbaa.Pk
