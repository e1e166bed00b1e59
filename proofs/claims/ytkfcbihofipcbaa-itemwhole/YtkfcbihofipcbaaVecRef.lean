/- The document's own answer to chapter 6: Right, Leq, Join, Meet, With, At, Sum. -/
import Derived.Test.YtkfcbihofipcbaaVecOps

namespace Go.Proofs.Ytkfcbihofipcbaa.Vc

open Go.RowKit

set_option linter.unusedVariables false

set_option linter.unusedSimpArgs false

set_option maxRecDepth 100000

theorem Try.info_r : (Try.prog.info? 48).map (fun i => (i.zero, i.size)) = some (some (AV .u64 (List.replicate 4 0)), 4) := by kernel_rfl
theorem Try.size_r : (Try.prog.info? 48).map (·.size) = some 4 := by kernel_rfl
theorem size_r {l : List Nat} (h : l.length = 4) : (Try.prog.info? 48).map (·.size) = some l.length := by rw [h]; exact Try.size_r
set_option maxHeartbeats 1000000 in
theorem ref_right (a : List Nat) (w : World) (ha : a.length = 4) :
    Calls Try.prog 63 #[AV .u64 a] w fun e w' => e = .returned (.bool (V.right a)) ∧ Below w.heap.size w w' := by
  have HA : Hid _ := ha
  clear ha
  go_enter Try.func63, Try.ntmps63
  go_wp2_with (first | refine arr_box rfl .u64 48 _ rfl a rfl ?_)
  intro w1 A1 B1 Z1
  have HA1 : Hid (Arr .u64 w1 w.heap.size a) := A1
  have HB1 : Hid (Below w.heap.size w w1) := B1
  clear A1 B1 Z1
  go_wp2_with fail
  go_loop [3] (fun i => ∃ j : Nat, j ≤ 4 ∧ i = .int .i64 j ∧ Hid (∀ k, k < j → a.getD k 0 ≤ 1152921504606846976)) (fun i => 4 - (intOf i).toNat)
  case atStart => exact ⟨0, by omega, rfl, fun k hk => absurd hk (by omega)⟩
  case round =>
    obtain ⟨j, hj, rfl, HS⟩ := hrel
    by_cases hlt : j < 4
    · have ilt : (j : Int) < 4 := by omega
      have c := HA1.out.cell j (by rw [HA.out]; exact hlt)
      by_cases hx : a.getD j 0 ≤ 1152921504606846976
      · have HS' : Hid (∀ k, k < j + 1 → a.getD k 0 ≤ 1152921504606846976) := fun k hk => by
          by_cases e : k = j
          · rw [e]; exact hx
          · exact HS.out k (by omega)
        generalize a.getD j 0 = x at c hx
        have hg : ¬ (1152921504606846976 < (x : Int)) := by omega
        go_wp2_with fail
        go_round
        case rel => exact ⟨j + 1, by omega, by go_num, HS'⟩
        case measure => simp [intOf]; omega
      · have HF : Hid (V.right a = false) := V.right_not a j (by rw [HA.out]; exact hlt) (by omega)
        generalize a.getD j 0 = x at c hx
        have hg : 1152921504606846976 < (x : Int) := by omega
        go_wp2_with fail
        go_ret
        rw [HF.out]
        exact ⟨rfl, HB1.out⟩
    · obtain rfl : j = 4 := by omega
      have HF : Hid (V.right a = true) := V.right_all a HA.out HS.out
      go_wp2_with fail
      go_ret
      rw [HF.out]
      exact ⟨rfl, HB1.out⟩
set_option maxHeartbeats 2000000 in
theorem ref_at (a : List Nat) (dc : Int) (w : World) (ha : a.length = 4) :
    Calls Try.prog 74 #[AV .u64 a, .int .i64 dc] w fun e w' => e = .returned (.int .u64 (V.at_ a dc : Nat)) ∧ Below w.heap.size w w' := by
  have HA : Hid _ := ha
  clear ha
  by_cases h1 : dc < 1
  · rw [V.at_none a dc (by rw [V.known, decide_eq_false_iff_not]; omega)]
    go_enter Try.func74, Try.ntmps74
    go_wp2_with (first | refine arr_box rfl .u64 48 _ rfl a rfl ?_)
    intro w1 A1 B1 Z1
    have HB1 : Hid (Below w.heap.size w w1) := B1
    clear A1 B1 Z1
    go_wp2_with fail
    go_ret
    exact ⟨rfl, HB1.out⟩
  · by_cases h4 : 4 < dc
    · rw [V.at_none a dc (by rw [V.known, decide_eq_false_iff_not]; omega)]
      have h1' : decide (dc < 1) = false := decide_eq_false h1
      have h4' : decide (4 < dc) = true := decide_eq_true h4
      go_enter Try.func74, Try.ntmps74
      go_wp2_with (first | refine arr_box rfl .u64 48 _ rfl a rfl ?_)
      intro w1 A1 B1 Z1
      have HB1 : Hid (Below w.heap.size w w1) := B1
      clear A1 B1 Z1
      go_wp2_with fail
      go_ret
      exact ⟨rfl, HB1.out⟩
    · obtain ⟨j, rfl⟩ : ∃ j : Nat, dc = (j : Int) + 1 := ⟨(dc - 1).toNat, by omega⟩
      have hj : j < 4 := by omega
      have hv : V.at_ a ((j : Int) + 1) = a.getD j 0 := by
        unfold V.at_
        rw [if_pos ((V.known_iff _).2 ⟨by omega, by omega⟩), show ((j : Int) + 1 - 1).toNat = j by omega]
      rw [hv]
      obtain ⟨x, HX⟩ : ∃ x, Hid (a.getD j 0 = x) := ⟨_, rfl⟩
      rw [HX.out]
      have ij : (j : Int) < 4 := by omega
      have h1' : decide ((j : Int) + 1 < 1) = false := decide_eq_false h1
      have h4' : decide (4 < (j : Int) + 1) = false := decide_eq_false h4
      clear hv
      go_enter Try.func74, Try.ntmps74
      go_wp2_with (first | refine arr_box rfl .u64 48 _ rfl a rfl ?_)
      intro w1 A1 B1 Z1
      have HB1 : Hid (Below w.heap.size w w1) := B1
      have c := A1.cell j (by rw [HA.out]; exact hj)
      rw [HX.out] at c
      clear A1 B1 Z1
      go_wp2_with fail
      go_ret
      exact ⟨rfl, HB1.out⟩
end Go.Proofs.Ytkfcbihofipcbaa.Vc
