/- More of lanes: draws turn nothing; a row of things. -/
import Derived.Test.YtbhehdkljolpkaaLaneBase
import Derived.Deep.QuietTactic
import Derived.BigQuiet
namespace Go.Proofs.Ytbhehdkljolpkaa
open Go.Conc Go.RowKit
set_option linter.unusedVariables false
set_option linter.unusedSimpArgs false
theorem Ln.drew {w : World} {b c cap : Nat} {l : List Value} (h : Ln w b c cap l) : Ln w.drew b c cap l := ⟨by simpa using h.cell, h.chan⟩
theorem Own.drew {w : World} {g : Nat} {e : TypeId} {n cap : Nat} {xs : List Value} (h : Own w g e n cap xs) : Own w.drew g e n cap xs := ⟨h.own⟩
def Ls (V : Nat → Value) (i n : Nat) : List Value := (List.range' i n).map V
theorem Ls_len (V : Nat → Value) (i n : Nat) : (Ls V i n).length = n := by simp [Ls]
theorem Ls_snoc (V : Nat → Value) (i n : Nat) : Ls V i n ++ [V (i + n)] = Ls V i (n + 1) := by
  simp [Ls, List.range'_concat]
theorem Ls_cons (V : Nat → Value) (i n : Nat) : Ls V i (n + 1) = V i :: Ls V (i + 1) n := by
  simp [Ls, List.range'_succ]
theorem Ls_at (V : Nat → Value) (i n j : Nat) (h : j < n) : (Ls V i n)[j]? = some (V (i + j)) := by
  simp [Ls, h]
end Go.Proofs.Ytbhehdkljolpkaa
