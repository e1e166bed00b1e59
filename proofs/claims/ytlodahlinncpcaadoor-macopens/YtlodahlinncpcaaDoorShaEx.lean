/- The chapter's examples, which stand ahead of each law. -/
import Derived.Test.YtlodahlinncpcaaDoorShaSum
import Derived.Test.YtlodahlinncpcaaDoorShaEval
namespace Go.Proofs.YtlodahlinncpcaaDoor
open Go.RowKit
set_option linter.unusedVariables false
set_option linter.unusedSimpArgs false
theorem sum_length (l : List UInt8) : (Q.sum l).length = 32 := by
  rw [Q.sum, Q.spell_length, (Q.blocks_ok _ _ _ Q.start_ok).1]
set_option maxRecDepth 100000 in
theorem sum_none (w : World) (hT : Tab w) : Calls Tryd.prog 13 #[.string ⟨#[]⟩] w fun e w' => e = .returned (.string (S (Q.sum []))) ∧ Below w.heap.size w w' :=
  sum_any ⟨#[]⟩ w (by decide) hT
set_option maxRecDepth 100000 in
theorem sum_abc (w : World) (hT : Tab w) : Calls Tryd.prog 13 #[.string ⟨#[97, 98, 99]⟩] w fun e w' => e = .returned (.string (S (Q.sum [97, 98, 99]))) ∧ Below w.heap.size w w' :=
  sum_any ⟨#[97, 98, 99]⟩ w (by decide) hT
theorem hex_none (w : World) : Calls Tryd.prog 15 #[.string (S (Q.sum []))] w fun e w' => e = .returned (.string ⟨#[101, 51, 98, 48, 99, 52, 52, 50, 57, 56, 102, 99, 49, 99, 49, 52, 57, 97, 102, 98, 102, 52, 99, 56, 57, 57, 54, 102, 98, 57, 50, 52, 50, 55, 97, 101, 52, 49, 101, 52, 54, 52, 57, 98, 57, 51, 52, 99, 97, 52, 57, 53, 57, 57, 49, 98, 55, 56, 53, 50, 98, 56, 53, 53]⟩) ∧ Below w.heap.size w w' := by
  have := hex_any (S (Q.sum [])) w (by rw [S_size, sum_length]; decide)
  rw [S_list, Q.ex_none] at this
  exact this
theorem hex_abc (w : World) : Calls Tryd.prog 15 #[.string (S (Q.sum [97, 98, 99]))] w fun e w' => e = .returned (.string ⟨#[98, 97, 55, 56, 49, 54, 98, 102, 56, 102, 48, 49, 99, 102, 101, 97, 52, 49, 52, 49, 52, 48, 100, 101, 53, 100, 97, 101, 50, 50, 50, 51, 98, 48, 48, 51, 54, 49, 97, 51, 57, 54, 49, 55, 55, 97, 57, 99, 98, 52, 49, 48, 102, 102, 54, 49, 102, 50, 48, 48, 49, 53, 97, 100]⟩) ∧ Below w.heap.size w w' := by
  have := hex_any (S (Q.sum [97, 98, 99])) w (by rw [S_size, sum_length]; decide)
  rw [S_list, Q.ex_abc] at this
  exact this
theorem pad_three (w : World) : Calls Tryd.prog 19 #[.int .u64 3] w fun e w' => e = .returned (.string (S (Q.pad 3))) ∧ Below w.heap.size w w' := pad_any 3 w (by decide)
theorem start_ix (w : World) : (Instr.index 26 (AV .u32 Q.start) (.int .i64 7)).run Tryd.prog w = .ok (.int .u32 1541459225) w := index_arr Q.start 7 w rfl (by decide)

set_option maxHeartbeats 1000000 in
set_option maxRecDepth 100000 in
theorem examples_any (w : World) (hT : Tab w) :
    Calls Tryd.prog 12 #[] w fun e w' => e = .returned (.bool true) ∧ Below w.heap.size w w' := by
  have HT : Hid _ := hT
  have hz := hT.pos
  clear hT
  have C1 : Hid _ := sum_none
  have C2 : Hid _ := sum_abc
  have D1 : Hid _ := hex_none
  have D2 : Hid _ := hex_abc
  have hp : (S (Q.pad 3)).size = 61 := by rw [S_size, Q.ex_pad]
  have CP : Hid _ := pad_three
  generalize S (Q.pad 3) = pp at *
  generalize S (Q.sum []) = s1 at *
  generalize S (Q.sum [97, 98, 99]) = s2 at *
  go_enter Tryd.func12, Tryd.ntmps12
  go_wp2_with fail
  refine (C1.out _ HT.out).mono ?_; rintro e w1 ⟨rfl, hb1⟩
  have z1 := hb1.size
  go_wp2_with fail
  refine (D1.out _).mono ?_; rintro e w2 ⟨rfl, hb2⟩
  have z2 := hb2.size
  have HB2 : Hid (Below w.heap.size w w2) := hb1.trans (hb2.mono (by omega))
  have HT2 : Hid (Tab w2) := Tab.below HT.out HB2.out (by omega)
  clear hb1 hb2 D1 C1
  go_wp2_with fail
  refine (C2.out _ HT2.out).mono ?_; rintro e w3 ⟨rfl, hb3⟩
  have z3 := hb3.size
  go_wp2_with fail
  refine (D2.out _).mono ?_; rintro e w4 ⟨rfl, hb4⟩
  have z4 := hb4.size
  have HB4 : Hid (Below w.heap.size w w4) := Below.trans HB2.out ((hb3.mono (by omega)).trans (hb4.mono (by omega)))
  clear hb3 hb4 D2 C2
  go_wp2_with fail
  refine (start_any _).mono ?_; rintro e w5 ⟨rfl, hb5⟩
  have z5 := hb5.size
  have HB5 : Hid (Below w.heap.size w w5) := Below.trans HB4.out (hb5.mono (by omega))
  have hix := start_ix w5
  clear hb5
  go_wp2_with fail
  refine (CP.out _).mono ?_; rintro e w6 ⟨rfl, hb6⟩
  have HB6 : Hid (Below w.heap.size w w6) := Below.trans HB5.out (hb6.mono (by omega))
  clear hb6 hix
  go_wp2_with fail
  go_ret
  exact ⟨rfl, HB6.out⟩
end Go.Proofs.YtlodahlinncpcaaDoor
