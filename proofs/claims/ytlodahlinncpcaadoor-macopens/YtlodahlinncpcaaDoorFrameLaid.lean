/- What every law's frame leans on where its row lists the table: the table's cells, a world that holds it. -/
import Derived.Test.YtlodahlinncpcaaDoorFrame
import Derived.Test.YtlodahlinncpcaaDoorCards
import Derived.Test.YtlodahlinncpcaaDoorTie
import Derived.Test.YtlodahlinncpcaaDoorShaEx
import Derived.Deep.DeepHandedRow
import Derived.Lib.LaidTab
namespace Go.Proofs.YtlodahlinncpcaaDoor
open Go.ChangeShapes Go.WideShapes Go.ChangeAt Go.RowKit
set_option linter.unusedVariables false
set_option maxRecDepth 100000
theorem gTab : Tryd.prog.globalNamed "tenement/sha.thirdRoots" = some 0 := by kernel_rfl
theorem gTabType : (Tryd.prog.globals[0]?).map (·.type) = some 65 := by kernel_rfl
theorem cells_a64 : Tryd.prog.cellsOf 65 = 64 := by kernel_rfl
theorem cells_u32 : Tryd.prog.cellsOf 25 = 1 := by kernel_rfl
theorem laid_is : (Rows.laid_tenement_sha_thirdRoots : DataW Unit) = Lib.tabData .u32 (Q.K.map fun n : Nat => (n : Int)) := by kernel_rfl
theorem tab_of {W : World} (h : laidMetH Tryd.prog [("tenement/sha.thirdRoots", Rows.laid_tenement_sha_thirdRoots)] W) : Tab W := by
  have h1 : laidMet Tryd.prog [("tenement/sha.thirdRoots", Lib.tabData .u32 (Q.K.map fun n : Nat => (n : Int)))] W := by rw [← laid_is]; exact h
  have h2 := Lib.tabIs_of_head (rest := []) gTab gTabType Tryd.underlying65 Tryd.underlying25 cells_u32 cells_a64 h1
  intro i hi
  have h3 := h2.cell gTab i (by rw [List.length_map, Q.K_length]; exact hi)
  rw [h3]
  have hi' : i < Q.K.length := by rw [Q.K_length]; exact hi
  simp [List.getD, hi']
/-- the settled world, the table holding what its initialiser lays -/
noncomputable def laidWorld (os : Os) : World :=
  { World.holding Tryd.prog os ⟨#[], #[], []⟩ with heap := (World.holding Tryd.prog os ⟨#[], #[], []⟩).heap.modify 0 fun
      | .cells _ t frozen => .cells (Q.K.map fun n : Nat => Value.int .u32 (n : Int)).toArray t frozen
      | o => o }
end Go.Proofs.YtlodahlinncpcaaDoor
