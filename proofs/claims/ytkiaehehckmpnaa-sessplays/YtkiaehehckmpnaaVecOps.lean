/- vec: Right, With, At, Sum, Put. -/
import Derived.Test.YtkiaehehckmpnaaVecJoin

import Derived.Test.YtkiaehehckmpnaaPackPut

namespace Go.Proofs.Ytkiaehehckmpnaa.Vc

open Go.RowKit

set_option linter.unusedVariables false

set_option linter.unusedSimpArgs false

set_option maxRecDepth 100000

theorem index_v (a : List Nat) (j : Nat) (ha : a.length = 4) (hj : j < 4) (w : World) :
    (Instr.index 25 (AV .u64 a) (.int .i64 (j : Int))).run Try.prog w = .ok (.int .u64 ((a.getD j 0 : Nat) : Int)) w := by
  have hn : 0 ≤ (j : Int) ∧ (j : Int) < (4 : Nat) := by omega
  have c1 : (ks .u64 a).toArray[j * 1]? = some (.int .u64 ((a.getD j 0 : Nat) : Int)) := by simp [ks, ha, hj]
  have hp := run_part_plain (P := Try.prog) w plain_u64 c1
  obtain ⟨i, hi⟩ := some_u64
  have hs : (sizeOf 23).run Try.prog w = .ok 1 w := Try.sizeOf23 w
  have c2 : (ks .u64 a)[j]? = some (.int .u64 ((a.getD j 0 : Nat) : Int)) := by simp [ks, ha, hj]
  unfold AV
  simp only [List.getD_eq_getElem?_getD] at c2
  simp [Instr.index, run_underlying Try.underlying25, asIntOf, hn, go_sem, hs, hj, c2]
set_option maxHeartbeats 1000000 in
theorem right_any (a : List Nat) (w : World) (ha : a.length = 4) :
    Calls Try.prog 34 #[AV .u64 a] w fun e w' => e = .returned (.bool (V.right a)) ∧ Below w.heap.size w w' := by
  have HA : Hid _ := ha
  have HI : Hid _ := size_v ha
  clear ha
  go_enter Try.func34, Try.ntmps34
  go_wp2_with (first | refine arr_box rfl .u64 25 _ rfl a rfl ?_)
  intro w1 A1 B1 Z1
  have HA1 : Hid (Arr .u64 w1 w.heap.size a) := A1
  have HB1 : Hid (Below w.heap.size w w1) := B1
  clear A1 B1 Z1
  go_wp2_with (first | refine arr_load rfl .u64 25 _ rfl w.heap.size rfl a HA1.out 4 23 Try.underlying25 HI.out ?_)
  go_loop [6] (fun i => ∃ j : Nat, j ≤ 4 ∧ i = .int .i64 j ∧ Hid (∀ k, k < j → a.getD k 0 ≤ 1152921504606846976)) (fun i => 4 - (intOf i).toNat)
  case atStart => exact ⟨0, by omega, rfl, fun k hk => absurd hk (by omega)⟩
  case round =>
    obtain ⟨j, hj, rfl, HS⟩ := hrel
    by_cases hlt : j < 4
    · have ilt : (j : Int) < 4 := by omega
      have hix : ∀ w, (Instr.index 25 (AV .u64 a) (.int .i64 (j : Int))).run Try.prog w = .ok (.int .u64 ((a.getD j 0 : Nat) : Int)) w := fun w => index_v a j HA.out hlt w
      by_cases hx : a.getD j 0 ≤ 1152921504606846976
      · have HS' : Hid (∀ k, k < j + 1 → a.getD k 0 ≤ 1152921504606846976) := fun k hk => by
          by_cases e : k = j
          · rw [e]; exact hx
          · exact HS.out k (by omega)
        generalize a.getD j 0 = x at hix hx
        have hg : ¬ (1152921504606846976 < (x : Int)) := by omega
        go_wp2_with fail
        go_round
        case rel => exact ⟨j + 1, by omega, by go_num, HS'⟩
        case measure => simp [intOf]; omega
      · have HF : Hid (V.right a = false) := V.right_not a j (by rw [HA.out]; exact hlt) (by omega)
        generalize a.getD j 0 = x at hix hx
        have hg : 1152921504606846976 < (x : Int) := by omega
        go_wp2_with fail
        go_ret
        rw [HF.out]
        exact ⟨rfl, HB1.out⟩
    · obtain rfl : j = 4 := by omega
      have HF : Hid (V.right a = true) := V.right_all a HA.out HS.out
      go_wp2_with fail
      go_ret
      rw [HF.out]
      exact ⟨rfl, HB1.out⟩
set_option maxHeartbeats 1000000 in
theorem sum_any (a : List Nat) (w : World) (ha : a.length = 4) :
    Calls Try.prog 40 #[AV .u64 a] w fun e w' => e = .returned (.int .u64 (V.sum a : Nat)) ∧ Below w.heap.size w w' := by
  have HA : Hid _ := ha
  have HI : Hid _ := size_v ha
  clear ha
  go_enter Try.func40, Try.ntmps40
  go_wp2_with (first | refine arr_box rfl .u64 25 _ rfl a rfl ?_)
  intro w1 A1 B1 Z1
  have HA1 : Hid (Arr .u64 w1 w.heap.size a) := A1
  have HB1 : Hid (Below w.heap.size w w1) := B1
  clear A1 B1 Z1
  go_wp2_with (first | refine arr_load rfl .u64 25 _ rfl w.heap.size rfl a HA1.out 4 23 Try.underlying25 HI.out ?_)
  go_loop [2, 6] (fun t i => ∃ j x : Nat, j ≤ 4 ∧ i = .int .i64 j ∧ t = .int .u64 x ∧ Hid (V.sum (a.take j) = x)) (fun _ i => 4 - (intOf i).toNat)
  case atStart => exact ⟨0, 0, by omega, rfl, rfl, rfl⟩
  case round =>
    obtain ⟨j, x, hj, rfl, rfl, HS⟩ := hrel
    by_cases hlt : j < 4
    · have ilt : (j : Int) < 4 := by omega
      have hix : ∀ w, (Instr.index 25 (AV .u64 a) (.int .i64 (j : Int))).run Try.prog w = .ok (.int .u64 ((a.getD j 0 : Nat) : Int)) w := fun w => index_v a j HA.out hlt w
      have HS' : Hid (V.sum (a.take (j + 1)) = (x + a.getD j 0) % 2 ^ 64) := by show _ = _; rw [V.sum_step a j (by rw [HA.out]; exact hlt), HS.out]
      generalize a.getD j 0 = y at *
      go_wp2_with fail
      go_round
      case rel => exact ⟨j + 1, _, by omega, by go_num, by go_num, HS'⟩
      case measure => simp [intOf]; omega
    · obtain rfl : j = 4 := by omega
      obtain rfl : V.sum a = x := by rw [← HS.out, List.take_of_length_le (by rw [HA.out]; exact Nat.le_refl _)]
      go_wp2_with fail
      go_ret
      exact ⟨rfl, HB1.out⟩
set_option maxHeartbeats 1000000 in
theorem at_any (a : List Nat) (dc : Int) (w : World) (ha : a.length = 4) :
    Calls Try.prog 41 #[AV .u64 a, .int .i64 dc] w fun e w' => e = .returned (.int .u64 (V.at_ a dc : Nat)) ∧ Below w.heap.size w w' := by
  have C : Hid _ := fun w => known_any dc w
  unfold V.at_
  cases hk : V.known dc with
  | false =>
    rw [hk] at C
    clear hk
    go_enter Try.func41, Try.ntmps41
    go_wp2_with (first | refine arr_box rfl .u64 25 _ rfl a rfl ?_)
    intro w1 A1 B1 Z1
    have HB1 : Hid (Below w.heap.size w w1) := B1
    clear A1 B1 Z1
    go_wp2_with fail
    refine (C.out _).mono ?_; rintro e w2 ⟨rfl, rfl⟩
    go_wp2_with fail
    go_ret
    exact ⟨rfl, HB1.out⟩
  | true =>
    rw [hk] at C
    obtain ⟨h1, h4⟩ := (V.known_iff dc).1 hk
    clear hk
    obtain ⟨j, rfl⟩ : ∃ j : Nat, dc = (j : Int) + 1 := ⟨(dc - 1).toNat, by omega⟩
    have hj : j < 4 := by omega
    rw [show ((j : Int) + 1 - 1).toNat = j by omega]
    show Calls _ _ _ _ fun e w' => e = .returned (.int .u64 ((a.getD j 0 : Nat) : Int)) ∧ _
    obtain ⟨x, HX⟩ : ∃ x, Hid (a.getD j 0 = x) := ⟨_, rfl⟩
    rw [HX.out]
    have ij : (j : Int) < 4 := by omega
    have HA : Hid _ := ha
    clear ha h1 h4
    go_enter Try.func41, Try.ntmps41
    go_wp2_with (first | refine arr_box rfl .u64 25 _ rfl a rfl ?_)
    intro w1 A1 B1 Z1
    have HB1 : Hid (Below w.heap.size w w1) := B1
    have c := A1.cell j (by rw [HA.out]; exact hj)
    rw [HX.out] at c
    clear A1 B1 Z1
    go_wp2_with fail
    refine (C.out _).mono ?_; rintro e w2 ⟨rfl, rfl⟩
    go_wp2_with fail
    go_ret
    exact ⟨rfl, HB1.out⟩
end Go.Proofs.Ytkiaehehckmpnaa.Vc
