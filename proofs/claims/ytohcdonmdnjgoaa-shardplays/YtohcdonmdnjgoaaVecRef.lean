/- The document's own answer to chapter 6: Right, Leq, Join, Meet, With, At, Sum. -/
import Derived.Test.YtohcdonmdnjgoaaVecOps

namespace Go.Proofs.Ytohcdonmdnjgoaa.Vc

open Go.RowKit

set_option linter.unusedVariables false

set_option linter.unusedSimpArgs false

set_option maxRecDepth 100000

theorem Try.info_r : (Try.prog.info? 57).map (fun i => (i.zero, i.size)) = some (some (AV .u64 (List.replicate 4 0)), 4) := by kernel_rfl
theorem Try.size_r : (Try.prog.info? 57).map (·.size) = some 4 := by kernel_rfl
theorem size_r {l : List Nat} (h : l.length = 4) : (Try.prog.info? 57).map (·.size) = some l.length := by rw [h]; exact Try.size_r
set_option maxHeartbeats 1000000 in
theorem ref_right (a : List Nat) (w : World) (ha : a.length = 4) :
    Calls Try.prog 75 #[AV .u64 a] w fun e w' => e = .returned (.bool (V.right a)) ∧ Below w.heap.size w w' := by
  have HA : Hid _ := ha
  clear ha
  go_enter Try.func75, Try.ntmps75
  go_wp2_with (first | refine arr_box rfl .u64 57 _ rfl a rfl ?_)
  intro w1 A1 B1 Z1
  have HA1 : Hid (Arr .u64 w1 w.heap.size a) := A1
  have HB1 : Hid (Below w.heap.size w w1) := B1
  clear A1 B1 Z1
  go_wp2_with fail
  go_loop [3] (fun i => ∃ j : Nat, j ≤ 4 ∧ i = .int .i64 j ∧ Hid (∀ k, k < j → a.getD k 0 ≤ 1152921504606846976)) (fun i => 4 - (intOf i).toNat)
  case atStart => exact ⟨0, by omega, rfl, fun k hk => absurd hk (by omega)⟩
  case round =>
    obtain ⟨j, hj, rfl, HS⟩ := hrel
    by_cases hlt : j < 4
    · have ilt : (j : Int) < 4 := by omega
      have c := HA1.out.cell j (by rw [HA.out]; exact hlt)
      by_cases hx : a.getD j 0 ≤ 1152921504606846976
      · have HS' : Hid (∀ k, k < j + 1 → a.getD k 0 ≤ 1152921504606846976) := fun k hk => by
          by_cases e : k = j
          · rw [e]; exact hx
          · exact HS.out k (by omega)
        generalize a.getD j 0 = x at c hx
        have hg : ¬ (1152921504606846976 < (x : Int)) := by omega
        go_wp2_with fail
        go_round
        case rel => exact ⟨j + 1, by omega, by go_num, HS'⟩
        case measure => simp [intOf]; omega
      · have HF : Hid (V.right a = false) := V.right_not a j (by rw [HA.out]; exact hlt) (by omega)
        generalize a.getD j 0 = x at c hx
        have hg : 1152921504606846976 < (x : Int) := by omega
        go_wp2_with fail
        go_ret
        rw [HF.out]
        exact ⟨rfl, HB1.out⟩
    · obtain rfl : j = 4 := by omega
      have HF : Hid (V.right a = true) := V.right_all a HA.out HS.out
      go_wp2_with fail
      go_ret
      rw [HF.out]
      exact ⟨rfl, HB1.out⟩
set_option maxHeartbeats 1000000 in
theorem ref_leq (a b : List Nat) (w : World) (ha : a.length = 4) (hb : b.length = 4) :
    Calls Try.prog 69 #[AV .u64 a, AV .u64 b] w fun e w' => e = .returned (.bool (V.leq a b)) ∧ Below w.heap.size w w' := by
  have HA : Hid _ := ha
  have HB : Hid _ := hb
  clear ha hb
  go_enter Try.func69, Try.ntmps69
  go_wp2_with (first | refine arr_box rfl .u64 57 _ rfl a rfl ?_)
  intro w1 A1 B1 Z1
  go_wp2_with (first | refine arr_box rfl .u64 57 _ rfl b rfl ?_)
  intro w2 A2 B2 Z2
  have HA2 : Hid (∀ u, u = w2 → Arr .u64 u w.heap.size a) := fun u e => by rw [e]; exact A1.below B2 (by omega)
  have HB2 : Hid (Arr .u64 w2 (w.heap.size + 1) b) := A2
  have HW2 : Hid (Below w.heap.size w w2) := B1.trans (B2.mono (by omega))
  clear A1 B1 A2 B2 Z1 Z2
  go_wp2_with fail
  go_loopw [5] (fun i wr => ∃ j : Nat, j ≤ 4 ∧ i = .int .i64 j ∧ Hid (∀ k, k < j → a.getD k 0 ≤ b.getD k 0) ∧ Hid (Arr .u64 wr w.heap.size a) ∧ Hid (Arr .u64 wr (w.heap.size + 1) b) ∧ Hid (Below w.heap.size w wr)) (fun i _ => 4 - (intOf i).toNat)
  case atStart => exact ⟨0, by omega, rfl, fun k hk => absurd hk (by omega), HA2.out _ rfl, HB2, HW2⟩
  case round =>
    obtain ⟨j, hj, rfl, HS, HAr, HBr, HWr⟩ := hrel
    clear HA2 HB2 HW2
    by_cases hlt : j < 4
    · have ilt : (j : Int) < 4 := by omega
      have c := HAr.out.cell j (by rw [HA.out]; exact hlt)
      have d := HBr.out.cell j (by rw [HB.out]; exact hlt)
      have HAd : Hid (Arr .u64 wr.drew w.heap.size a) := Arr.drew HAr.out
      have HBd : Hid (Arr .u64 wr.drew (w.heap.size + 1) b) := Arr.drew HBr.out
      have HWd : Hid (Below w.heap.size w wr.drew) := Below.drew HWr.out
      by_cases hx : a.getD j 0 ≤ b.getD j 0
      · have HS' : Hid (∀ k, k < j + 1 → a.getD k 0 ≤ b.getD k 0) := fun k hk => by
          by_cases e : k = j
          · rw [e]; exact hx
          · exact HS.out k (by omega)
        generalize a.getD j 0 = x at c hx
        generalize b.getD j 0 = y at d hx
        have hg : ¬ ((y : Int) < (x : Int)) := by omega
        clear HAr HBr HWr HS
        go_wp2_with fail
        go_region
        all_goals
          go_wp2_with fail
          go_roundw
          case rel => exact ⟨j + 1, by omega, by go_num, HS', HAd, HBd, HWd⟩
          case measure => simp [intOf]; omega
      · have HF : Hid (V.leq a b = false) := V.leq_not HA.out HB.out j hlt (by omega)
        generalize a.getD j 0 = x at c hx
        generalize b.getD j 0 = y at d hx
        have hg : (y : Int) < (x : Int) := by omega
        clear HAr HBr HWr HS
        go_wp2_with fail
        go_region
        all_goals
          go_wp2_with fail
          go_ret
          rw [HF.out]
          exact ⟨rfl, HWd.out⟩
    · obtain rfl : j = 4 := by omega
      have HF : Hid (V.leq a b = true) := V.leq_all HA.out HB.out HS.out
      go_wp2_with fail
      go_ret
      rw [HF.out]
      exact ⟨rfl, HWr.out⟩
set_option maxHeartbeats 2000000 in
theorem ref_with (a : List Nat) (dc : Int) (n : Nat) (w : World) (ha : a.length = 4) :
    Calls Try.prog 42 #[AV .u64 a, .int .i64 dc, .int .u64 n] w fun e w' => e = .returned (AV .u64 (V.with_ a dc n)) ∧ Below w.heap.size w w' := by
  have HA : Hid _ := ha
  clear ha
  unfold V.with_
  by_cases hk : V.known dc = true
  · rw [if_pos hk]
    obtain ⟨h1, h4⟩ := (V.known_iff dc).1 hk
    clear hk
    obtain ⟨j, rfl⟩ : ∃ j : Nat, dc = (j : Int) + 1 := ⟨(dc - 1).toNat, by omega⟩
    have hj : j < 4 := by omega
    rw [show ((j : Int) + 1 - 1).toNat = j by omega]
    show Calls _ _ _ _ fun e w' => e = .returned (AV .u64 (a.set j n)) ∧ _
    have ij : (j : Int) < 4 := by omega
    have ij1 : (1 : Int) ≤ (j : Int) + 1 := by omega
    have ij4 : (j : Int) + 1 ≤ 4 := by omega
    have HAL : Hid ((a.set j n).length = 4) := by show _ = _; rw [List.length_set]; exact HA.out
    have HI' : Hid _ := size_r HAL.out
    clear h1 h4
    go_enter Try.func42, Try.ntmps42
    go_wp2_with (first | refine arr_box rfl .u64 57 _ rfl a rfl ?_)
    intro w1 A1 B1 Z1
    go_wp2_with (first | refine arr_alloc rfl .u64 57 4 rfl Try.info_r ?_)
    intro w2 A2 B2 Z2
    have HA2 : Hid (Arr .u64 w2 w.heap.size a) := A1.below B2 (by omega)
    have c := HA2.out.cell j (by rw [HA.out]; exact hj)
    have f := HA2.out.free j (by rw [HA.out]; exact hj)
    have HA3 : Hid (Arr .u64 (w2.setCell ⟨w.heap.size, j, none⟩ (.int .u64 (n : Int))) w.heap.size (a.set j n)) := HA2.out.set j n (by rw [HA.out]; exact hj)
    have U3 : Upd w.heap.size w2 (w2.setCell ⟨w.heap.size, j, none⟩ (.int .u64 (n : Int))) := Upd.setCell _ _ _ _
    have HC3 : Hid (Arr .u64 (w2.setCell ⟨w.heap.size, j, none⟩ (.int .u64 (n : Int))) (w.heap.size + 1) (List.replicate 4 0)) := Arr.upd A2 U3 (by omega)
    have HB3 : Hid (Below w.heap.size w (w2.setCell ⟨w.heap.size, j, none⟩ (.int .u64 (n : Int)))) := Below.trans (B1.trans (B2.mono (by omega))) (U3.below (by omega))
    generalize a.getD j 0 = x at *
    clear A1 B1 Z1 A2 B2 Z2 U3 HA2
    go_wp2_with (first | refine arr_load rfl .u64 57 _ rfl w.heap.size rfl (a.set j n) HA3.out 4 31 Try.underlying57 HI'.out ?_ | refine arr_store rfl .u64 57 _ _ rfl (w.heap.size + 1) rfl (a.set j n) rfl _ HC3.out (by rw [HAL.out]; rfl) HI'.out ?_)
    intro u A U
    have HA9 : Hid (Arr .u64 u (w.heap.size + 1) (a.set j n)) := A
    have HB9 : Hid (Below w.heap.size w u) := Below.trans HB3.out (U.below (by omega))
    clear A U
    go_wp2_with fail
    refine bodyPost_ret (v := AV .u64 (a.set j n)) ?_ rfl ⟨rfl, HB9.out⟩
    exact res_arr (t := 57) Try.results42 _ .u64 (w.heap.size + 1) rfl (a.set j n) HA9.out 4 31 Try.underlying57 HI'.out
  · rw [if_neg hk]
    have hk' : ¬ (1 ≤ dc ∧ dc ≤ 4) := fun h => hk ((V.known_iff dc).2 h)
    clear hk
    by_cases h1 : 1 ≤ dc
    · have h4 : ¬ dc ≤ 4 := fun h => hk' ⟨h1, h⟩
      have h4' : decide (dc ≤ 4) = false := decide_eq_false h4
      clear hk'
      have HI : Hid _ := size_r HA.out
      show Calls _ _ _ _ fun e w' => e = .returned (AV .u64 a) ∧ _
      go_enter Try.func42, Try.ntmps42
      go_wp2_with (first | refine arr_box rfl .u64 57 _ rfl a rfl ?_)
      intro w1 A1 B1 Z1
      go_wp2_with (first | refine arr_alloc rfl .u64 57 4 rfl Try.info_r ?_)
      intro w2 A2 B2 Z2
      have HA2 : Hid (Arr .u64 w2 w.heap.size a) := A1.below B2 (by omega)
      have HC2 : Hid (Arr .u64 w2 (w.heap.size + 1) (List.replicate 4 0)) := A2
      have HB2 : Hid (Below w.heap.size w w2) := B1.trans (B2.mono (by omega))
      clear A1 B1 Z1 A2 B2 Z2
      go_wp2_with (first | refine arr_load rfl .u64 57 _ rfl w.heap.size rfl a HA2.out 4 31 Try.underlying57 HI.out ?_ | refine arr_store rfl .u64 57 _ _ rfl (w.heap.size + 1) rfl a rfl _ HC2.out (by rw [HA.out]; rfl) HI.out ?_)
      intro u A U
      have HA9 : Hid (Arr .u64 u (w.heap.size + 1) a) := A
      have HB9 : Hid (Below w.heap.size w u) := Below.trans HB2.out (U.below (by omega))
      clear A U
      go_wp2_with fail
      refine bodyPost_ret (v := AV .u64 a) ?_ rfl ⟨rfl, HB9.out⟩
      exact res_arr (t := 57) Try.results42 _ .u64 (w.heap.size + 1) rfl a HA9.out 4 31 Try.underlying57 HI.out
    · have h1' : decide (1 ≤ dc) = false := decide_eq_false h1
      clear hk'
      have HI : Hid _ := size_r HA.out
      show Calls _ _ _ _ fun e w' => e = .returned (AV .u64 a) ∧ _
      go_enter Try.func42, Try.ntmps42
      go_wp2_with (first | refine arr_box rfl .u64 57 _ rfl a rfl ?_)
      intro w1 A1 B1 Z1
      go_wp2_with (first | refine arr_alloc rfl .u64 57 4 rfl Try.info_r ?_)
      intro w2 A2 B2 Z2
      have HA2 : Hid (Arr .u64 w2 w.heap.size a) := A1.below B2 (by omega)
      have HC2 : Hid (Arr .u64 w2 (w.heap.size + 1) (List.replicate 4 0)) := A2
      have HB2 : Hid (Below w.heap.size w w2) := B1.trans (B2.mono (by omega))
      clear A1 B1 Z1 A2 B2 Z2
      go_wp2_with (first | refine arr_load rfl .u64 57 _ rfl w.heap.size rfl a HA2.out 4 31 Try.underlying57 HI.out ?_ | refine arr_store rfl .u64 57 _ _ rfl (w.heap.size + 1) rfl a rfl _ HC2.out (by rw [HA.out]; rfl) HI.out ?_)
      intro u A U
      have HA9 : Hid (Arr .u64 u (w.heap.size + 1) a) := A
      have HB9 : Hid (Below w.heap.size w u) := Below.trans HB2.out (U.below (by omega))
      clear A U
      go_wp2_with fail
      refine bodyPost_ret (v := AV .u64 a) ?_ rfl ⟨rfl, HB9.out⟩
      exact res_arr (t := 57) Try.results42 _ .u64 (w.heap.size + 1) rfl a HA9.out 4 31 Try.underlying57 HI.out
set_option maxHeartbeats 2000000 in
theorem ref_at (a : List Nat) (dc : Int) (w : World) (ha : a.length = 4) :
    Calls Try.prog 43 #[AV .u64 a, .int .i64 dc] w fun e w' => e = .returned (.int .u64 (V.at_ a dc : Nat)) ∧ Below w.heap.size w w' := by
  have HA : Hid _ := ha
  clear ha
  by_cases h1 : dc < 1
  · rw [V.at_none a dc (by rw [V.known, decide_eq_false_iff_not]; omega)]
    go_enter Try.func43, Try.ntmps43
    go_wp2_with (first | refine arr_box rfl .u64 57 _ rfl a rfl ?_)
    intro w1 A1 B1 Z1
    have HB1 : Hid (Below w.heap.size w w1) := B1
    clear A1 B1 Z1
    go_wp2_with fail
    go_ret
    exact ⟨rfl, HB1.out⟩
  · by_cases h4 : 4 < dc
    · rw [V.at_none a dc (by rw [V.known, decide_eq_false_iff_not]; omega)]
      have h1' : decide (dc < 1) = false := decide_eq_false h1
      have h4' : decide (4 < dc) = true := decide_eq_true h4
      go_enter Try.func43, Try.ntmps43
      go_wp2_with (first | refine arr_box rfl .u64 57 _ rfl a rfl ?_)
      intro w1 A1 B1 Z1
      have HB1 : Hid (Below w.heap.size w w1) := B1
      clear A1 B1 Z1
      go_wp2_with fail
      go_ret
      exact ⟨rfl, HB1.out⟩
    · obtain ⟨j, rfl⟩ : ∃ j : Nat, dc = (j : Int) + 1 := ⟨(dc - 1).toNat, by omega⟩
      have hj : j < 4 := by omega
      have hv : V.at_ a ((j : Int) + 1) = a.getD j 0 := by
        unfold V.at_
        rw [if_pos ((V.known_iff _).2 ⟨by omega, by omega⟩), show ((j : Int) + 1 - 1).toNat = j by omega]
      rw [hv]
      obtain ⟨x, HX⟩ : ∃ x, Hid (a.getD j 0 = x) := ⟨_, rfl⟩
      rw [HX.out]
      have ij : (j : Int) < 4 := by omega
      have h1' : decide ((j : Int) + 1 < 1) = false := decide_eq_false h1
      have h4' : decide (4 < (j : Int) + 1) = false := decide_eq_false h4
      clear hv
      go_enter Try.func43, Try.ntmps43
      go_wp2_with (first | refine arr_box rfl .u64 57 _ rfl a rfl ?_)
      intro w1 A1 B1 Z1
      have HB1 : Hid (Below w.heap.size w w1) := B1
      have c := A1.cell j (by rw [HA.out]; exact hj)
      rw [HX.out] at c
      clear A1 B1 Z1
      go_wp2_with fail
      go_ret
      exact ⟨rfl, HB1.out⟩
set_option maxHeartbeats 2000000 in
theorem ref_sum (a : List Nat) (w : World) (ha : a.length = 4) :
    Calls Try.prog 82 #[AV .u64 a] w fun e w' => e = .returned (.int .u64 (V.sum a : Nat)) ∧ Below w.heap.size w w' := by
  obtain ⟨x0, x1, x2, x3, rfl⟩ := V.four ha
  obtain ⟨r, HR⟩ : ∃ r, Hid (V.sum [x0, x1, x2, x3] = r) := ⟨_, rfl⟩
  rw [HR.out]
  clear ha
  go_enter Try.func82, Try.ntmps82
  go_wp2_with (first | refine arr_box rfl .u64 57 _ rfl [x0, x1, x2, x3] rfl ?_)
  intro w1 A1 B1 Z1
  have HB1 : Hid (Below w.heap.size w w1) := B1
  have c0 := A1.cell 0 (by simp)
  have c1 := A1.cell 1 (by simp)
  have c2 := A1.cell 2 (by simp)
  have c3 := A1.cell 3 (by simp)
  simp only [List.getD_cons_zero, List.getD_cons_succ] at c0 c1 c2 c3
  clear A1 B1 Z1
  go_wp2_with fail
  go_ret
  refine ⟨?_, HB1.out⟩
  rw [← HR.out, V.sum_four]
  congr 2
  simp [IntKind.wrap, IntKind.signed, IntKind.bits]
end Go.Proofs.Ytohcdonmdnjgoaa.Vc
