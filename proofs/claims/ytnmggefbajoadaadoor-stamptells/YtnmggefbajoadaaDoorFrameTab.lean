/- What every law's frame leans on where its row lists the library's tables: the powers of ten, a world that holds them. -/
import Derived.Test.YtnmggefbajoadaaDoorFrame

import Derived.Test.YtnmggefbajoadaaDoorCards

import Derived.Test.YtnmggefbajoadaaDoorTie

import Derived.Test.YtnmggefbajoadaaDoorVecFmt

import Derived.Deep.DeepHandedRow

import Derived.Lib.LaidTab

import Derived.Stop.LaidErr

namespace Go.Proofs.YtnmggefbajoadaaDoor

open Go.ChangeShapes Go.WideShapes Go.ChangeAt Go.RowKit

set_option linter.unusedVariables false

set_option maxRecDepth 100000

theorem gTab : Tryd.prog.globalNamed "internal/strconv.uint64pow10" = some 0 := by kernel_rfl
theorem gTabType : (Tryd.prog.globals[0]?).map (·.type) = some 126 := by kernel_rfl
theorem cells_a20 : Tryd.prog.cellsOf 126 = 20 := by kernel_rfl
theorem cells_w : Tryd.prog.cellsOf 22 = 1 := by kernel_rfl
theorem laid_is : (Rows.laid_internal_strconv_uint64pow10 : DataW Unit) = Lib.tabData .u64 Lib.pow10Tab := by kernel_rfl
theorem tab_of {W : World} (h : laidMetH Tryd.prog [("math/bits.deBruijn32tab", Rows.laid_math_bits_deBruijn32tab), ("math/bits.deBruijn64tab", Rows.laid_math_bits_deBruijn64tab), ("internal/strconv.uint64pow10", Rows.laid_internal_strconv_uint64pow10)] W) : Fm.Tab W := by
  have h0 : laidMet Tryd.prog [("math/bits.deBruijn32tab", Rows.laid_math_bits_deBruijn32tab), ("math/bits.deBruijn64tab", Rows.laid_math_bits_deBruijn64tab), ("internal/strconv.uint64pow10", Lib.tabData .u64 Lib.pow10Tab)] W := by rw [← laid_is]; exact h
  exact ⟨Lib.tabIs_of_head (rest := []) gTab gTabType Tryd.underlying126 Tryd.underlying22 cells_w cells_a20 h0.tail.tail⟩
/-- a table's cells -/
def cellsOfTab : DataW Unit → List Value
  | .agg l => l.map fun | .lit (.int k z) => .int k z | _ => undef
  | _ => []
def layAt (h : Array Obj) (g : Nat) (d : DataW Unit) : Array Obj :=
  h.modify g fun
    | .cells _ t frozen => .cells (cellsOfTab d).toArray t frozen
    | o => o
/-- the settled world, the tables holding what their initialisers lay -/
noncomputable def laidWorld (os : Os) : World :=
  { World.holding Tryd.prog os ⟨#[], #[], []⟩ with heap := layAt (layAt (layAt (World.holding Tryd.prog os ⟨#[], #[], []⟩).heap 0 Rows.laid_internal_strconv_uint64pow10) 2 Rows.laid_math_bits_deBruijn32tab) 3 Rows.laid_math_bits_deBruijn64tab }
end Go.Proofs.YtnmggefbajoadaaDoor
