/- Block. -/
import Derived.Test.YtlodahlinncpcaaDoorShaSched
namespace Go.Proofs.YtlodahlinncpcaaDoor
open Go.RowKit
set_option linter.unusedVariables false
set_option linter.unusedSimpArgs false

/-- the table of the program's text lies where it was laid -/
def Tab (w : World) : Prop := ∀ i, i < 64 → w.cell? ⟨0, i, none⟩ = some (.int .u32 ((Q.K.getD i 0 : Nat) : Int))
theorem Tab.pos {w : World} (h : Tab w) : 0 < w.heap.size := World.block_lt_of_cell? w _ (h 0 (by omega))
theorem Tab.below {w w' : World} {B : Nat} (h : Tab w) (hb : Below B w w') (hB : 0 < B) : Tab w' := fun i hi => by
  rw [hb.cell (p := ⟨0, i, none⟩) hB]; exact h i hi
theorem Tab.own {w w' : World} (h : Tab w) (hb : Below w.heap.size w w') : Tab w' := h.below hb h.pos

set_option maxHeartbeats 1000000 in
set_option maxRecDepth 100000 in
theorem block_no (l : List Nat) (s : ByteArray) (w : World) (h8 : l.length = 8) (h : s.size ≠ 64) :
    Calls Tryd.prog 17 #[AV .u32 l, .string s] w fun e w' => e = .returned (.tuple #[AV .u32 (List.replicate 8 0), .bool false]) ∧ Below w.heap.size w w' := by
  have h' : ((s.size : Int) != 64) = true := by rw [bne_iff_ne]; omega
  go_enter Tryd.func17, Tryd.ntmps17
  go_wp2_with (first | refine arr_box rfl .u32 26 _ rfl l rfl ?_ | refine arr_alloc rfl .u32 26 8 rfl Tryd.info_a8 ?_)
  intro w1 A1 B1 Z1
  go_wp2_with (first | refine arr_box rfl .u32 26 _ rfl l rfl ?_ | refine arr_alloc rfl .u32 26 8 rfl Tryd.info_a8 ?_)
  intro w2 A2 B2 Z2
  have HB : Hid _ := B1.trans (B2.mono (by omega))
  have HA : Hid _ := A2
  clear A1 A2 B1 B2 Z1 Z2
  go_wp2_with fail
  refine bodyPost_ret (v := .tuple #[AV .u32 (List.replicate 8 0), .bool false]) ?_ rfl ⟨rfl, HB.out⟩
  exact res_arr2 (t := 26) Tryd.results17 _ .u32 _ rfl _ HA.out 8 25 Tryd.underlying26 Tryd.size_a8
end Go.Proofs.YtlodahlinncpcaaDoor
