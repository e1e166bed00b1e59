/- vec.both. -/
import Derived.Test.YtkiaehehckmpnaaVecSmall

namespace Go.Proofs.Ytkiaehehckmpnaa.Vc

open Go.RowKit

set_option linter.unusedVariables false

set_option linter.unusedSimpArgs false

set_option maxHeartbeats 1000000 in
set_option maxRecDepth 100000 in
theorem both_join (a b : List Nat) (w : World) (ha : a.length = 4) (hb : b.length = 4) :
    Calls Try.prog 59 #[AV .u64 a, AV .u64 b, .func (.func 61) #[] #[]] w fun e w' => e = .returned (AV .u64 (V.join a b)) ∧ Below w.heap.size w w' := by
  have HA : Hid _ := ha
  have HB : Hid _ := hb
  obtain ⟨r, HR⟩ : ∃ r, Hid (V.join a b = r) := ⟨_, rfl⟩
  have HRL : Hid (r.length = 4) := by show _ = _; rw [← HR.out]; exact V.join_length ha hb
  have HRI : Hid (∀ i, i < 4 → r.getD i 0 = max (a.getD i 0) (b.getD i 0)) := by
    intro i hi
    rw [← HR.out]
    obtain ⟨a0, a1, a2, a3, rfl⟩ := V.four ha
    obtain ⟨b0, b1, b2, b3, rfl⟩ := V.four hb
    match i, hi with
    | 0, _ => rfl
    | 1, _ => rfl
    | 2, _ => rfl
    | 3, _ => rfl
  rw [HR.out]
  have C : Hid _ := greater_any
  clear ha hb
  go_enter Try.func59, Try.ntmps59
  go_wp2_with (first | refine arr_box rfl .u64 24 _ rfl a rfl ?_)
  intro w1 A1 B1 Z1
  go_wp2_with (first | refine arr_box rfl .u64 24 _ rfl b rfl ?_)
  intro w2 A2 B2 Z2
  go_wp2_with (first | refine arr_alloc rfl .u64 24 4 rfl Try.info_a ?_)
  intro w3 A3 B3 Z3
  have HA3 : Hid (Arr .u64 w3 w.heap.size a) := (A1.below B2 (by omega)).below B3 (by omega)
  have HB3 : Hid (Arr .u64 w3 (w.heap.size + 1) b) := A2.below B3 (by omega)
  have HC3 : Hid (Arr .u64 w3 (w.heap.size + 2) (r.take 0 ++ List.replicate (4 - 0) 0)) := A3
  have HW3 : Hid (Below w.heap.size w w3) := B1.trans ((B2.mono (by omega)).trans (B3.mono (by omega)))
  clear A1 B1 A2 B2 A3 B3 Z1 Z2 Z3
  go_wp2_with fail
  go_loopw [8] (fun i wr => ∃ j : Nat, j ≤ 4 ∧ i = .int .i64 j ∧ Hid (Arr .u64 wr w.heap.size a) ∧ Hid (Arr .u64 wr (w.heap.size + 1) b) ∧ Hid (Arr .u64 wr (w.heap.size + 2) (r.take j ++ List.replicate (4 - j) 0)) ∧ Hid (Below w.heap.size w wr)) (fun i _ => 4 - (intOf i).toNat)
  case atStart => exact ⟨0, by omega, rfl, HA3, HB3, HC3, HW3⟩
  case round =>
    obtain ⟨j, hj, rfl, HAr, HBr, HCr, HWr⟩ := hrel
    clear HA3 HB3 HC3 HW3
    by_cases hlt : j < 4
    · have ilt : (j : Int) < 4 := by omega
      have HL : Hid ((r.take j ++ List.replicate (4 - j) 0).length = 4) := by have := HRL.out; show _ = _; simp; omega
      have ca := HAr.out.cell j (by rw [HA.out]; exact hlt)
      have cb := HBr.out.cell j (by rw [HB.out]; exact hlt)
      have cr := HCr.out.cell j (by rw [HL.out]; exact hlt)
      have fr := HCr.out.free j (by rw [HL.out]; exact hlt)
      have HX := HCr.out.set j (r.getD j 0) (by rw [HL.out]; exact hlt)
      have he : (r.take j ++ List.replicate (4 - j) 0).set j (r.getD j 0) = r.take (j + 1) ++ List.replicate (4 - (j + 1)) 0 := V.fill_step r j HRL.out hlt
      rw [he] at HX
      have HX' : Hid (Arr .u64 (wr.setCell ⟨w.heap.size + 2, j, none⟩ (.int .u64 ((r.getD j 0 : Nat) : Int))) (w.heap.size + 2) (r.take (j + 1) ++ List.replicate (4 - (j + 1)) 0)) := HX
      have HU : Hid (Upd (w.heap.size + 2) wr (wr.setCell ⟨w.heap.size + 2, j, none⟩ (.int .u64 ((r.getD j 0 : Nat) : Int)))) := Upd.setCell _ _ _ _
      clear HX he
      have HV : Hid _ := HRI.out j hlt
      generalize (r.take j ++ List.replicate (4 - j) 0).getD j 0 = old at cr
      have C1 : Hid _ := fun w => C.out (a.getD j 0) (b.getD j 0) w
      rw [← HV.out] at C1
      generalize a.getD j 0 = x at ca C1
      generalize b.getD j 0 = y at cb C1
      generalize r.getD j 0 = z at C1 HX' HU
      go_wp2_with fail
      go_region_with (go_at_call 61; refine (C1.out _).mono ?_; rintro e u ⟨rfl, rfl⟩)
      all_goals
        go_wp2_with fail
        go_roundw
        case rel => exact ⟨j + 1, by omega, by go_num, (Arr.upd HAr.out HU.out (by omega)).drew, (Arr.upd HBr.out HU.out (by omega)).drew, Arr.drew HX'.out, Below.drew (Below.trans HWr.out (Upd.below HU.out (by omega)))⟩
        case measure => simp [intOf]; omega
    · obtain rfl : j = 4 := by omega
      have HF : Hid (Arr .u64 wr (w.heap.size + 2) r) := by
        have h := HCr.out
        rw [List.take_of_length_le (by rw [HRL.out]; exact Nat.le_refl _)] at h
        show Arr .u64 wr (w.heap.size + 2) r
        simpa using h
      clear HAr HBr HCr
      have HI : Hid _ := size_a HRL.out
      go_wp2_with (first | refine arr_load rfl .u64 24 _ rfl (w.heap.size + 2) rfl r HF.out 4 23 Try.underlying24 HI.out ?_ | refine arr_store rfl .u64 24 _ _ rfl (w.heap.size + 2) rfl r rfl r HF.out rfl HI.out ?_)
      intro u A U
      have HA9 : Hid (Arr .u64 u (w.heap.size + 2) r) := A
      have HB9 : Hid (Below w.heap.size w u) := Below.trans HWr.out (U.below (by omega))
      clear A U HF HWr
      go_wp2_with fail
      refine bodyPost_ret (v := AV .u64 r) ?_ rfl ⟨rfl, HB9.out⟩
      exact res_arr (t := 24) Try.results59 _ .u64 (w.heap.size + 2) rfl r HA9.out 4 23 Try.underlying24 HI.out
set_option maxHeartbeats 1000000 in
set_option maxRecDepth 100000 in
theorem both_meet (a b : List Nat) (w : World) (ha : a.length = 4) (hb : b.length = 4) :
    Calls Try.prog 59 #[AV .u64 a, AV .u64 b, .func (.func 60) #[] #[]] w fun e w' => e = .returned (AV .u64 (V.meet a b)) ∧ Below w.heap.size w w' := by
  have HA : Hid _ := ha
  have HB : Hid _ := hb
  obtain ⟨r, HR⟩ : ∃ r, Hid (V.meet a b = r) := ⟨_, rfl⟩
  have HRL : Hid (r.length = 4) := by show _ = _; rw [← HR.out]; exact V.meet_length ha hb
  have HRI : Hid (∀ i, i < 4 → r.getD i 0 = min (a.getD i 0) (b.getD i 0)) := by
    intro i hi
    rw [← HR.out]
    obtain ⟨a0, a1, a2, a3, rfl⟩ := V.four ha
    obtain ⟨b0, b1, b2, b3, rfl⟩ := V.four hb
    match i, hi with
    | 0, _ => rfl
    | 1, _ => rfl
    | 2, _ => rfl
    | 3, _ => rfl
  rw [HR.out]
  have C : Hid _ := lesser_any
  clear ha hb
  go_enter Try.func59, Try.ntmps59
  go_wp2_with (first | refine arr_box rfl .u64 24 _ rfl a rfl ?_)
  intro w1 A1 B1 Z1
  go_wp2_with (first | refine arr_box rfl .u64 24 _ rfl b rfl ?_)
  intro w2 A2 B2 Z2
  go_wp2_with (first | refine arr_alloc rfl .u64 24 4 rfl Try.info_a ?_)
  intro w3 A3 B3 Z3
  have HA3 : Hid (Arr .u64 w3 w.heap.size a) := (A1.below B2 (by omega)).below B3 (by omega)
  have HB3 : Hid (Arr .u64 w3 (w.heap.size + 1) b) := A2.below B3 (by omega)
  have HC3 : Hid (Arr .u64 w3 (w.heap.size + 2) (r.take 0 ++ List.replicate (4 - 0) 0)) := A3
  have HW3 : Hid (Below w.heap.size w w3) := B1.trans ((B2.mono (by omega)).trans (B3.mono (by omega)))
  clear A1 B1 A2 B2 A3 B3 Z1 Z2 Z3
  go_wp2_with fail
  go_loopw [8] (fun i wr => ∃ j : Nat, j ≤ 4 ∧ i = .int .i64 j ∧ Hid (Arr .u64 wr w.heap.size a) ∧ Hid (Arr .u64 wr (w.heap.size + 1) b) ∧ Hid (Arr .u64 wr (w.heap.size + 2) (r.take j ++ List.replicate (4 - j) 0)) ∧ Hid (Below w.heap.size w wr)) (fun i _ => 4 - (intOf i).toNat)
  case atStart => exact ⟨0, by omega, rfl, HA3, HB3, HC3, HW3⟩
  case round =>
    obtain ⟨j, hj, rfl, HAr, HBr, HCr, HWr⟩ := hrel
    clear HA3 HB3 HC3 HW3
    by_cases hlt : j < 4
    · have ilt : (j : Int) < 4 := by omega
      have HL : Hid ((r.take j ++ List.replicate (4 - j) 0).length = 4) := by have := HRL.out; show _ = _; simp; omega
      have ca := HAr.out.cell j (by rw [HA.out]; exact hlt)
      have cb := HBr.out.cell j (by rw [HB.out]; exact hlt)
      have cr := HCr.out.cell j (by rw [HL.out]; exact hlt)
      have fr := HCr.out.free j (by rw [HL.out]; exact hlt)
      have HX := HCr.out.set j (r.getD j 0) (by rw [HL.out]; exact hlt)
      have he : (r.take j ++ List.replicate (4 - j) 0).set j (r.getD j 0) = r.take (j + 1) ++ List.replicate (4 - (j + 1)) 0 := V.fill_step r j HRL.out hlt
      rw [he] at HX
      have HX' : Hid (Arr .u64 (wr.setCell ⟨w.heap.size + 2, j, none⟩ (.int .u64 ((r.getD j 0 : Nat) : Int))) (w.heap.size + 2) (r.take (j + 1) ++ List.replicate (4 - (j + 1)) 0)) := HX
      have HU : Hid (Upd (w.heap.size + 2) wr (wr.setCell ⟨w.heap.size + 2, j, none⟩ (.int .u64 ((r.getD j 0 : Nat) : Int)))) := Upd.setCell _ _ _ _
      clear HX he
      have HV : Hid _ := HRI.out j hlt
      generalize (r.take j ++ List.replicate (4 - j) 0).getD j 0 = old at cr
      have C1 : Hid _ := fun w => C.out (a.getD j 0) (b.getD j 0) w
      rw [← HV.out] at C1
      generalize a.getD j 0 = x at ca C1
      generalize b.getD j 0 = y at cb C1
      generalize r.getD j 0 = z at C1 HX' HU
      go_wp2_with fail
      go_region_with (go_at_call 60; refine (C1.out _).mono ?_; rintro e u ⟨rfl, rfl⟩)
      all_goals
        go_wp2_with fail
        go_roundw
        case rel => exact ⟨j + 1, by omega, by go_num, (Arr.upd HAr.out HU.out (by omega)).drew, (Arr.upd HBr.out HU.out (by omega)).drew, Arr.drew HX'.out, Below.drew (Below.trans HWr.out (Upd.below HU.out (by omega)))⟩
        case measure => simp [intOf]; omega
    · obtain rfl : j = 4 := by omega
      have HF : Hid (Arr .u64 wr (w.heap.size + 2) r) := by
        have h := HCr.out
        rw [List.take_of_length_le (by rw [HRL.out]; exact Nat.le_refl _)] at h
        show Arr .u64 wr (w.heap.size + 2) r
        simpa using h
      clear HAr HBr HCr
      have HI : Hid _ := size_a HRL.out
      go_wp2_with (first | refine arr_load rfl .u64 24 _ rfl (w.heap.size + 2) rfl r HF.out 4 23 Try.underlying24 HI.out ?_ | refine arr_store rfl .u64 24 _ _ rfl (w.heap.size + 2) rfl r rfl r HF.out rfl HI.out ?_)
      intro u A U
      have HA9 : Hid (Arr .u64 u (w.heap.size + 2) r) := A
      have HB9 : Hid (Below w.heap.size w u) := Below.trans HWr.out (U.below (by omega))
      clear A U HF HWr
      go_wp2_with fail
      refine bodyPost_ret (v := AV .u64 r) ?_ rfl ⟨rfl, HB9.out⟩
      exact res_arr (t := 24) Try.results59 _ .u64 (w.heap.size + 2) rfl r HA9.out 4 23 Try.underlying24 HI.out
end Go.Proofs.Ytkiaehehckmpnaa.Vc
