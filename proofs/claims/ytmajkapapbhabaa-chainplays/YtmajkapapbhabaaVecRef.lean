/- The document's own answer to chapter 6: Right, Leq, Join, Meet, With, At, Sum. -/
import Derived.Test.YtmajkapapbhabaaVecOps

namespace Go.Proofs.Ytmajkapapbhabaa.Vc

open Go.RowKit

set_option linter.unusedVariables false

set_option linter.unusedSimpArgs false

set_option maxRecDepth 100000

theorem Try.info_r : (Try.prog.info? 45).map (fun i => (i.zero, i.size)) = some (some (AV .u64 (List.replicate 4 0)), 4) := by kernel_rfl
theorem Try.size_r : (Try.prog.info? 45).map (·.size) = some 4 := by kernel_rfl
theorem size_r {l : List Nat} (h : l.length = 4) : (Try.prog.info? 45).map (·.size) = some l.length := by rw [h]; exact Try.size_r
set_option maxHeartbeats 1000000 in
theorem ref_right (a : List Nat) (w : World) (ha : a.length = 4) :
    Calls Try.prog 61 #[AV .u64 a] w fun e w' => e = .returned (.bool (V.right a)) ∧ Below w.heap.size w w' := by
  have HA : Hid _ := ha
  clear ha
  go_enter Try.func61, Try.ntmps61
  go_wp2_with (first | refine arr_box rfl .u64 45 _ rfl a rfl ?_)
  intro w1 A1 B1 Z1
  have HA1 : Hid (Arr .u64 w1 w.heap.size a) := A1
  have HB1 : Hid (Below w.heap.size w w1) := B1
  clear A1 B1 Z1
  go_wp2_with fail
  go_loop [3] (fun i => ∃ j : Nat, j ≤ 4 ∧ i = .int .i64 j ∧ Hid (∀ k, k < j → a.getD k 0 ≤ 1152921504606846976)) (fun i => 4 - (intOf i).toNat)
  case atStart => exact ⟨0, by omega, rfl, fun k hk => absurd hk (by omega)⟩
  case round =>
    obtain ⟨j, hj, rfl, HS⟩ := hrel
    by_cases hlt : j < 4
    · have ilt : (j : Int) < 4 := by omega
      have c := HA1.out.cell j (by rw [HA.out]; exact hlt)
      by_cases hx : a.getD j 0 ≤ 1152921504606846976
      · have HS' : Hid (∀ k, k < j + 1 → a.getD k 0 ≤ 1152921504606846976) := fun k hk => by
          by_cases e : k = j
          · rw [e]; exact hx
          · exact HS.out k (by omega)
        generalize a.getD j 0 = x at c hx
        have hg : ¬ (1152921504606846976 < (x : Int)) := by omega
        go_wp2_with fail
        go_round
        case rel => exact ⟨j + 1, by omega, by go_num, HS'⟩
        case measure => simp [intOf]; omega
      · have HF : Hid (V.right a = false) := V.right_not a j (by rw [HA.out]; exact hlt) (by omega)
        generalize a.getD j 0 = x at c hx
        have hg : 1152921504606846976 < (x : Int) := by omega
        go_wp2_with fail
        go_ret
        rw [HF.out]
        exact ⟨rfl, HB1.out⟩
    · obtain rfl : j = 4 := by omega
      have HF : Hid (V.right a = true) := V.right_all a HA.out HS.out
      go_wp2_with fail
      go_ret
      rw [HF.out]
      exact ⟨rfl, HB1.out⟩
set_option maxHeartbeats 1000000 in
theorem ref_leq (a b : List Nat) (w : World) (ha : a.length = 4) (hb : b.length = 4) :
    Calls Try.prog 56 #[AV .u64 a, AV .u64 b] w fun e w' => e = .returned (.bool (V.leq a b)) ∧ Below w.heap.size w w' := by
  have HA : Hid _ := ha
  have HB : Hid _ := hb
  clear ha hb
  go_enter Try.func56, Try.ntmps56
  go_wp2_with (first | refine arr_box rfl .u64 45 _ rfl a rfl ?_)
  intro w1 A1 B1 Z1
  go_wp2_with (first | refine arr_box rfl .u64 45 _ rfl b rfl ?_)
  intro w2 A2 B2 Z2
  have HA2 : Hid (∀ u, u = w2 → Arr .u64 u w.heap.size a) := fun u e => by rw [e]; exact A1.below B2 (by omega)
  have HB2 : Hid (Arr .u64 w2 (w.heap.size + 1) b) := A2
  have HW2 : Hid (Below w.heap.size w w2) := B1.trans (B2.mono (by omega))
  clear A1 B1 A2 B2 Z1 Z2
  go_wp2_with fail
  go_loopw [5] (fun i wr => ∃ j : Nat, j ≤ 4 ∧ i = .int .i64 j ∧ Hid (∀ k, k < j → a.getD k 0 ≤ b.getD k 0) ∧ Hid (Arr .u64 wr w.heap.size a) ∧ Hid (Arr .u64 wr (w.heap.size + 1) b) ∧ Hid (Below w.heap.size w wr)) (fun i _ => 4 - (intOf i).toNat)
  case atStart => exact ⟨0, by omega, rfl, fun k hk => absurd hk (by omega), HA2.out _ rfl, HB2, HW2⟩
  case round =>
    obtain ⟨j, hj, rfl, HS, HAr, HBr, HWr⟩ := hrel
    clear HA2 HB2 HW2
    by_cases hlt : j < 4
    · have ilt : (j : Int) < 4 := by omega
      have c := HAr.out.cell j (by rw [HA.out]; exact hlt)
      have d := HBr.out.cell j (by rw [HB.out]; exact hlt)
      have HAd : Hid (Arr .u64 wr.drew w.heap.size a) := Arr.drew HAr.out
      have HBd : Hid (Arr .u64 wr.drew (w.heap.size + 1) b) := Arr.drew HBr.out
      have HWd : Hid (Below w.heap.size w wr.drew) := Below.drew HWr.out
      by_cases hx : a.getD j 0 ≤ b.getD j 0
      · have HS' : Hid (∀ k, k < j + 1 → a.getD k 0 ≤ b.getD k 0) := fun k hk => by
          by_cases e : k = j
          · rw [e]; exact hx
          · exact HS.out k (by omega)
        generalize a.getD j 0 = x at c hx
        generalize b.getD j 0 = y at d hx
        have hg : ¬ ((y : Int) < (x : Int)) := by omega
        clear HAr HBr HWr HS
        go_wp2_with fail
        go_region
        all_goals
          go_wp2_with fail
          go_roundw
          case rel => exact ⟨j + 1, by omega, by go_num, HS', HAd, HBd, HWd⟩
          case measure => simp [intOf]; omega
      · have HF : Hid (V.leq a b = false) := V.leq_not HA.out HB.out j hlt (by omega)
        generalize a.getD j 0 = x at c hx
        generalize b.getD j 0 = y at d hx
        have hg : (y : Int) < (x : Int) := by omega
        clear HAr HBr HWr HS
        go_wp2_with fail
        go_region
        all_goals
          go_wp2_with fail
          go_ret
          rw [HF.out]
          exact ⟨rfl, HWd.out⟩
    · obtain rfl : j = 4 := by omega
      have HF : Hid (V.leq a b = true) := V.leq_all HA.out HB.out HS.out
      go_wp2_with fail
      go_ret
      rw [HF.out]
      exact ⟨rfl, HWr.out⟩
set_option maxHeartbeats 2000000 in
theorem ref_at (a : List Nat) (dc : Int) (w : World) (ha : a.length = 4) :
    Calls Try.prog 76 #[AV .u64 a, .int .i64 dc] w fun e w' => e = .returned (.int .u64 (V.at_ a dc : Nat)) ∧ Below w.heap.size w w' := by
  have HA : Hid _ := ha
  clear ha
  by_cases h1 : dc < 1
  · rw [V.at_none a dc (by rw [V.known, decide_eq_false_iff_not]; omega)]
    go_enter Try.func76, Try.ntmps76
    go_wp2_with (first | refine arr_box rfl .u64 45 _ rfl a rfl ?_)
    intro w1 A1 B1 Z1
    have HB1 : Hid (Below w.heap.size w w1) := B1
    clear A1 B1 Z1
    go_wp2_with fail
    go_ret
    exact ⟨rfl, HB1.out⟩
  · by_cases h4 : 4 < dc
    · rw [V.at_none a dc (by rw [V.known, decide_eq_false_iff_not]; omega)]
      have h1' : decide (dc < 1) = false := decide_eq_false h1
      have h4' : decide (4 < dc) = true := decide_eq_true h4
      go_enter Try.func76, Try.ntmps76
      go_wp2_with (first | refine arr_box rfl .u64 45 _ rfl a rfl ?_)
      intro w1 A1 B1 Z1
      have HB1 : Hid (Below w.heap.size w w1) := B1
      clear A1 B1 Z1
      go_wp2_with fail
      go_ret
      exact ⟨rfl, HB1.out⟩
    · obtain ⟨j, rfl⟩ : ∃ j : Nat, dc = (j : Int) + 1 := ⟨(dc - 1).toNat, by omega⟩
      have hj : j < 4 := by omega
      have hv : V.at_ a ((j : Int) + 1) = a.getD j 0 := by
        unfold V.at_
        rw [if_pos ((V.known_iff _).2 ⟨by omega, by omega⟩), show ((j : Int) + 1 - 1).toNat = j by omega]
      rw [hv]
      obtain ⟨x, HX⟩ : ∃ x, Hid (a.getD j 0 = x) := ⟨_, rfl⟩
      rw [HX.out]
      have ij : (j : Int) < 4 := by omega
      have h1' : decide ((j : Int) + 1 < 1) = false := decide_eq_false h1
      have h4' : decide (4 < (j : Int) + 1) = false := decide_eq_false h4
      clear hv
      go_enter Try.func76, Try.ntmps76
      go_wp2_with (first | refine arr_box rfl .u64 45 _ rfl a rfl ?_)
      intro w1 A1 B1 Z1
      have HB1 : Hid (Below w.heap.size w w1) := B1
      have c := A1.cell j (by rw [HA.out]; exact hj)
      rw [HX.out] at c
      clear A1 B1 Z1
      go_wp2_with fail
      go_ret
      exact ⟨rfl, HB1.out⟩
set_option maxHeartbeats 2000000 in
theorem ref_sum (a : List Nat) (w : World) (ha : a.length = 4) :
    Calls Try.prog 63 #[AV .u64 a] w fun e w' => e = .returned (.int .u64 (V.sum a : Nat)) ∧ Below w.heap.size w w' := by
  obtain ⟨x0, x1, x2, x3, rfl⟩ := V.four ha
  obtain ⟨r, HR⟩ : ∃ r, Hid (V.sum [x0, x1, x2, x3] = r) := ⟨_, rfl⟩
  rw [HR.out]
  clear ha
  go_enter Try.func63, Try.ntmps63
  go_wp2_with (first | refine arr_box rfl .u64 45 _ rfl [x0, x1, x2, x3] rfl ?_)
  intro w1 A1 B1 Z1
  have HB1 : Hid (Below w.heap.size w w1) := B1
  have c0 := A1.cell 0 (by simp)
  have c1 := A1.cell 1 (by simp)
  have c2 := A1.cell 2 (by simp)
  have c3 := A1.cell 3 (by simp)
  simp only [List.getD_cons_zero, List.getD_cons_succ] at c0 c1 c2 c3
  clear A1 B1 Z1
  go_wp2_with fail
  go_ret
  refine ⟨?_, HB1.out⟩
  rw [← HR.out, V.sum_four]
  congr 2
  simp [IntKind.wrap, IntKind.signed, IntKind.bits]
end Go.Proofs.Ytmajkapapbhabaa.Vc
