/- The document's own answer to chapter 6: Right, Leq, Join, Meet, With, At, Sum. -/
import Derived.Test.YtkiaehehckmpnaaVecOps

namespace Go.Proofs.Ytkiaehehckmpnaa.Vc

open Go.RowKit

set_option linter.unusedVariables false

set_option linter.unusedSimpArgs false

set_option maxRecDepth 100000

theorem Try.info_r : (Try.prog.info? 32).map (fun i => (i.zero, i.size)) = some (some (AV .u64 (List.replicate 4 0)), 4) := by kernel_rfl
theorem Try.size_r : (Try.prog.info? 32).map (·.size) = some 4 := by kernel_rfl
theorem size_r {l : List Nat} (h : l.length = 4) : (Try.prog.info? 32).map (·.size) = some l.length := by rw [h]; exact Try.size_r
set_option maxHeartbeats 1000000 in
theorem ref_right (a : List Nat) (w : World) (ha : a.length = 4) :
    Calls Try.prog 46 #[AV .u64 a] w fun e w' => e = .returned (.bool (V.right a)) ∧ Below w.heap.size w w' := by
  have HA : Hid _ := ha
  clear ha
  go_enter Try.func46, Try.ntmps46
  go_wp2_with (first | refine arr_box rfl .u64 32 _ rfl a rfl ?_)
  intro w1 A1 B1 Z1
  have HA1 : Hid (Arr .u64 w1 w.heap.size a) := A1
  have HB1 : Hid (Below w.heap.size w w1) := B1
  clear A1 B1 Z1
  go_wp2_with fail
  go_loop [3] (fun i => ∃ j : Nat, j ≤ 4 ∧ i = .int .i64 j ∧ Hid (∀ k, k < j → a.getD k 0 ≤ 1152921504606846976)) (fun i => 4 - (intOf i).toNat)
  case atStart => exact ⟨0, by omega, rfl, fun k hk => absurd hk (by omega)⟩
  case round =>
    obtain ⟨j, hj, rfl, HS⟩ := hrel
    by_cases hlt : j < 4
    · have ilt : (j : Int) < 4 := by omega
      have c := HA1.out.cell j (by rw [HA.out]; exact hlt)
      by_cases hx : a.getD j 0 ≤ 1152921504606846976
      · have HS' : Hid (∀ k, k < j + 1 → a.getD k 0 ≤ 1152921504606846976) := fun k hk => by
          by_cases e : k = j
          · rw [e]; exact hx
          · exact HS.out k (by omega)
        generalize a.getD j 0 = x at c hx
        have hg : ¬ (1152921504606846976 < (x : Int)) := by omega
        go_wp2_with fail
        go_round
        case rel => exact ⟨j + 1, by omega, by go_num, HS'⟩
        case measure => simp [intOf]; omega
      · have HF : Hid (V.right a = false) := V.right_not a j (by rw [HA.out]; exact hlt) (by omega)
        generalize a.getD j 0 = x at c hx
        have hg : 1152921504606846976 < (x : Int) := by omega
        go_wp2_with fail
        go_ret
        rw [HF.out]
        exact ⟨rfl, HB1.out⟩
    · obtain rfl : j = 4 := by omega
      have HF : Hid (V.right a = true) := V.right_all a HA.out HS.out
      go_wp2_with fail
      go_ret
      rw [HF.out]
      exact ⟨rfl, HB1.out⟩
set_option maxHeartbeats 2000000 in
theorem ref_join (a b : List Nat) (w : World) (ha : a.length = 4) (hb : b.length = 4) :
    Calls Try.prog 48 #[AV .u64 a, AV .u64 b] w fun e w' => e = .returned (AV .u64 (V.join a b)) ∧ Below w.heap.size w w' := by
  have HA : Hid _ := ha
  have HB : Hid _ := hb
  obtain ⟨r, HR⟩ : ∃ r, Hid (V.join a b = r) := ⟨_, rfl⟩
  have HRL : Hid (r.length = 4) := by show _ = _; rw [← HR.out]; exact V.join_length ha hb
  have HRI : Hid (∀ i, i < 4 → r.getD i 0 = max (a.getD i 0) (b.getD i 0)) := fun i hi => by rw [← HR.out]; exact V.join_at ha hb i hi
  have HIr : Hid _ := size_r HRL.out
  rw [HR.out]
  clear ha hb HR
  go_enter Try.func48, Try.ntmps48
  go_wp2_with (first | refine arr_box rfl .u64 32 _ rfl a rfl ?_)
  intro w1 A1 B1 Z1
  go_wp2_with (first | refine arr_box rfl .u64 32 _ rfl b rfl ?_)
  intro w2 A2 B2 Z2
  go_wp2_with (first | refine arr_alloc rfl .u64 32 4 rfl Try.info_r ?_)
  intro w3 A3 B3 Z3
  have HA3 : Hid (Arr .u64 w3 w.heap.size (V.mid r a 0)) := by rw [V.mid_zero]; exact (A1.below B2 (by omega)).below B3 (by omega)
  have HB3 : Hid (Arr .u64 w3 (w.heap.size + 1) b) := A2.below B3 (by omega)
  have HC3 : Hid (Arr .u64 w3 (w.heap.size + 2) (List.replicate 4 0)) := A3
  have HW3 : Hid (Below w.heap.size w w3) := B1.trans ((B2.mono (by omega)).trans (B3.mono (by omega)))
  clear A1 B1 A2 B2 A3 B3 Z1 Z2 Z3
  go_wp2_with fail
  go_loopw [5] (fun i wr => ∃ j : Nat, j ≤ 4 ∧ i = .int .i64 j ∧ Hid (Arr .u64 wr w.heap.size (V.mid r a j)) ∧ Hid (Arr .u64 wr (w.heap.size + 1) b) ∧ Hid (Arr .u64 wr (w.heap.size + 2) (List.replicate 4 0)) ∧ Hid (Below w.heap.size w wr)) (fun i _ => 4 - (intOf i).toNat)
  case atStart => exact ⟨0, by omega, rfl, HA3, HB3, HC3, HW3⟩
  case round =>
    obtain ⟨j, hj, rfl, HAr, HBr, HCr, HWr⟩ := hrel
    clear HA3 HB3 HC3 HW3
    by_cases hlt : j < 4
    · have ilt : (j : Int) < 4 := by omega
      have HML : Hid _ := V.mid_len HRL.out HA.out j
      have c := HAr.out.cell j (by rw [HML.out]; exact hlt)
      have f := HAr.out.free j (by rw [HML.out]; exact hlt)
      have d := HBr.out.cell j (by rw [HB.out]; exact hlt)
      rw [V.mid_at HRL.out HA.out j hlt] at c
      have HX : Hid (Arr .u64 (wr.setCell ⟨w.heap.size, j, none⟩ (.int .u64 ((r.getD j 0 : Nat) : Int))) w.heap.size (V.mid r a (j + 1))) := by
        have h := HAr.out.set j (r.getD j 0) (by rw [HML.out]; exact hlt)
        rw [V.mid_step HRL.out HA.out j hlt] at h
        exact h
      have U : Upd w.heap.size wr (wr.setCell ⟨w.heap.size, j, none⟩ (.int .u64 ((r.getD j 0 : Nat) : Int))) := Upd.setCell _ _ _ _
      have HBx : Hid (Arr .u64 (wr.setCell ⟨w.heap.size, j, none⟩ (.int .u64 ((r.getD j 0 : Nat) : Int))).drew (w.heap.size + 1) b) := (Arr.upd HBr.out U (by omega)).drew
      have HCx : Hid (Arr .u64 (wr.setCell ⟨w.heap.size, j, none⟩ (.int .u64 ((r.getD j 0 : Nat) : Int))).drew (w.heap.size + 2) (List.replicate 4 0)) := (Arr.upd HCr.out U (by omega)).drew
      have HWx : Hid (Below w.heap.size w (wr.setCell ⟨w.heap.size, j, none⟩ (.int .u64 ((r.getD j 0 : Nat) : Int))).drew) := (Below.trans HWr.out (U.below (Nat.le_refl _))).drew
      have HXx : Hid (Arr .u64 (wr.setCell ⟨w.heap.size, j, none⟩ (.int .u64 ((r.getD j 0 : Nat) : Int))).drew w.heap.size (V.mid r a (j + 1))) := HX.out.drew
      have hq := HRI.out j hlt
      generalize r.getD j 0 = z at *
      generalize a.getD j 0 = x at *
      generalize b.getD j 0 = y at *
      clear HX U HAr HBr HCr HWr HML
      by_cases hx : x < y
      · obtain rfl : z = y := by omega
        have hx' : (x : Int) < (z : Int) := by omega
        clear hq hx
        go_wp2_with fail
        go_region
        all_goals
          go_wp2_with fail
          go_roundw
          case rel => exact ⟨j + 1, by omega, by go_num, HXx, HBx, HCx, HWx⟩
          case measure => simp [intOf]; omega
      · obtain rfl : z = x := by omega
        have hx' : ¬ ((z : Int) < (y : Int)) := by omega
        clear hq hx
        go_wp2_with fail
        go_region
        all_goals
          go_wp2_with fail
          go_roundw
          case rel => exact ⟨j + 1, by omega, by go_num, HXx, HBx, HCx, HWx⟩
          case measure => simp [intOf]; omega
    · obtain rfl : j = 4 := by omega
      rw [V.mid_four HRL.out HA.out] at HAr
      go_wp2_with (first | refine arr_load rfl .u64 32 _ rfl w.heap.size rfl r HAr.out 4 23 Try.underlying32 HIr.out ?_ | refine arr_store rfl .u64 32 _ _ rfl (w.heap.size + 2) rfl r rfl _ HCr.out (by rw [HRL.out]; rfl) HIr.out ?_)
      intro u A U
      have HA9 : Hid (Arr .u64 u (w.heap.size + 2) r) := A
      have HB9 : Hid (Below w.heap.size w u) := Below.trans HWr.out (U.below (by omega))
      clear A U
      go_wp2_with fail
      refine bodyPost_ret (v := AV .u64 r) ?_ rfl ⟨rfl, HB9.out⟩
      exact res_arr (t := 32) Try.results48 _ .u64 (w.heap.size + 2) rfl r HA9.out 4 23 Try.underlying32 HIr.out
set_option maxHeartbeats 2000000 in
theorem ref_meet (a b : List Nat) (w : World) (ha : a.length = 4) (hb : b.length = 4) :
    Calls Try.prog 57 #[AV .u64 a, AV .u64 b] w fun e w' => e = .returned (AV .u64 (V.meet a b)) ∧ Below w.heap.size w w' := by
  have HA : Hid _ := ha
  have HB : Hid _ := hb
  obtain ⟨r, HR⟩ : ∃ r, Hid (V.meet a b = r) := ⟨_, rfl⟩
  have HRL : Hid (r.length = 4) := by show _ = _; rw [← HR.out]; exact V.meet_length ha hb
  have HRI : Hid (∀ i, i < 4 → r.getD i 0 = min (a.getD i 0) (b.getD i 0)) := fun i hi => by rw [← HR.out]; exact V.meet_at ha hb i hi
  have HIr : Hid _ := size_r HRL.out
  rw [HR.out]
  clear ha hb HR
  go_enter Try.func57, Try.ntmps57
  go_wp2_with (first | refine arr_box rfl .u64 32 _ rfl a rfl ?_)
  intro w1 A1 B1 Z1
  go_wp2_with (first | refine arr_box rfl .u64 32 _ rfl b rfl ?_)
  intro w2 A2 B2 Z2
  go_wp2_with (first | refine arr_alloc rfl .u64 32 4 rfl Try.info_r ?_)
  intro w3 A3 B3 Z3
  have HA3 : Hid (Arr .u64 w3 w.heap.size (V.mid r a 0)) := by rw [V.mid_zero]; exact (A1.below B2 (by omega)).below B3 (by omega)
  have HB3 : Hid (Arr .u64 w3 (w.heap.size + 1) b) := A2.below B3 (by omega)
  have HC3 : Hid (Arr .u64 w3 (w.heap.size + 2) (List.replicate 4 0)) := A3
  have HW3 : Hid (Below w.heap.size w w3) := B1.trans ((B2.mono (by omega)).trans (B3.mono (by omega)))
  clear A1 B1 A2 B2 A3 B3 Z1 Z2 Z3
  go_wp2_with fail
  go_loopw [5] (fun i wr => ∃ j : Nat, j ≤ 4 ∧ i = .int .i64 j ∧ Hid (Arr .u64 wr w.heap.size (V.mid r a j)) ∧ Hid (Arr .u64 wr (w.heap.size + 1) b) ∧ Hid (Arr .u64 wr (w.heap.size + 2) (List.replicate 4 0)) ∧ Hid (Below w.heap.size w wr)) (fun i _ => 4 - (intOf i).toNat)
  case atStart => exact ⟨0, by omega, rfl, HA3, HB3, HC3, HW3⟩
  case round =>
    obtain ⟨j, hj, rfl, HAr, HBr, HCr, HWr⟩ := hrel
    clear HA3 HB3 HC3 HW3
    by_cases hlt : j < 4
    · have ilt : (j : Int) < 4 := by omega
      have HML : Hid _ := V.mid_len HRL.out HA.out j
      have c := HAr.out.cell j (by rw [HML.out]; exact hlt)
      have f := HAr.out.free j (by rw [HML.out]; exact hlt)
      have d := HBr.out.cell j (by rw [HB.out]; exact hlt)
      rw [V.mid_at HRL.out HA.out j hlt] at c
      have HX : Hid (Arr .u64 (wr.setCell ⟨w.heap.size, j, none⟩ (.int .u64 ((r.getD j 0 : Nat) : Int))) w.heap.size (V.mid r a (j + 1))) := by
        have h := HAr.out.set j (r.getD j 0) (by rw [HML.out]; exact hlt)
        rw [V.mid_step HRL.out HA.out j hlt] at h
        exact h
      have U : Upd w.heap.size wr (wr.setCell ⟨w.heap.size, j, none⟩ (.int .u64 ((r.getD j 0 : Nat) : Int))) := Upd.setCell _ _ _ _
      have HBx : Hid (Arr .u64 (wr.setCell ⟨w.heap.size, j, none⟩ (.int .u64 ((r.getD j 0 : Nat) : Int))).drew (w.heap.size + 1) b) := (Arr.upd HBr.out U (by omega)).drew
      have HCx : Hid (Arr .u64 (wr.setCell ⟨w.heap.size, j, none⟩ (.int .u64 ((r.getD j 0 : Nat) : Int))).drew (w.heap.size + 2) (List.replicate 4 0)) := (Arr.upd HCr.out U (by omega)).drew
      have HWx : Hid (Below w.heap.size w (wr.setCell ⟨w.heap.size, j, none⟩ (.int .u64 ((r.getD j 0 : Nat) : Int))).drew) := (Below.trans HWr.out (U.below (Nat.le_refl _))).drew
      have HXx : Hid (Arr .u64 (wr.setCell ⟨w.heap.size, j, none⟩ (.int .u64 ((r.getD j 0 : Nat) : Int))).drew w.heap.size (V.mid r a (j + 1))) := HX.out.drew
      have hq := HRI.out j hlt
      generalize r.getD j 0 = z at *
      generalize a.getD j 0 = x at *
      generalize b.getD j 0 = y at *
      clear HX U HAr HBr HCr HWr HML
      by_cases hx : y < x
      · obtain rfl : z = y := by omega
        have hx' : (z : Int) < (x : Int) := by omega
        clear hq hx
        go_wp2_with fail
        go_region
        all_goals
          go_wp2_with fail
          go_roundw
          case rel => exact ⟨j + 1, by omega, by go_num, HXx, HBx, HCx, HWx⟩
          case measure => simp [intOf]; omega
      · obtain rfl : z = x := by omega
        have hx' : ¬ ((y : Int) < (z : Int)) := by omega
        clear hq hx
        go_wp2_with fail
        go_region
        all_goals
          go_wp2_with fail
          go_roundw
          case rel => exact ⟨j + 1, by omega, by go_num, HXx, HBx, HCx, HWx⟩
          case measure => simp [intOf]; omega
    · obtain rfl : j = 4 := by omega
      rw [V.mid_four HRL.out HA.out] at HAr
      go_wp2_with (first | refine arr_load rfl .u64 32 _ rfl w.heap.size rfl r HAr.out 4 23 Try.underlying32 HIr.out ?_ | refine arr_store rfl .u64 32 _ _ rfl (w.heap.size + 2) rfl r rfl _ HCr.out (by rw [HRL.out]; rfl) HIr.out ?_)
      intro u A U
      have HA9 : Hid (Arr .u64 u (w.heap.size + 2) r) := A
      have HB9 : Hid (Below w.heap.size w u) := Below.trans HWr.out (U.below (by omega))
      clear A U
      go_wp2_with fail
      refine bodyPost_ret (v := AV .u64 r) ?_ rfl ⟨rfl, HB9.out⟩
      exact res_arr (t := 32) Try.results57 _ .u64 (w.heap.size + 2) rfl r HA9.out 4 23 Try.underlying32 HIr.out
end Go.Proofs.Ytkiaehehckmpnaa.Vc
