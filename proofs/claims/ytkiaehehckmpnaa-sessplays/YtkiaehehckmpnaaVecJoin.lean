/- vec: two vectors compared; Join, Meet, Leq. -/
import Derived.Test.YtkiaehehckmpnaaVecBoth

namespace Go.Proofs.Ytkiaehehckmpnaa.Vc

open Go.RowKit

set_option linter.unusedVariables false

set_option linter.unusedSimpArgs false

set_option maxRecDepth 100000

theorem cells_u64 : Try.prog.cellsOf 23 = 1 := by kernel_rfl
theorem plain_u64 : Try.prog.plainKey 23 = true := by kernel_rfl
theorem Try.size_u64 : (Try.prog.info? 23).map (·.size) = some 1 := by kernel_rfl
theorem some_u64 : ∃ i, Try.prog.info? 23 = some i := by
  have := Try.size_u64
  cases h : Try.prog.info? 23 with
  | none => rw [h] at this; cases this
  | some i => exact ⟨i, rfl⟩
theorem eq_v (a b : List Nat) (ha : a.length = 4) (hb : b.length = 4) (w : World) :
    (Op.equalIn 10000 25 (AV .u64 a) (AV .u64 b)).run Try.prog w = .ok (decide (a = b)) w := by
  obtain ⟨i, hi⟩ := some_u64
  have h := run_equalIn_array (P := Try.prog) w 9999 (ks .u64 a).toArray (ks .u64 b).toArray Try.underlying25 hi
  rw [cells_u64] at h
  have h2 := eqItems_ints (P := Try.prog) w 9998 .u64 plain_u64 Try.underlying23 a b (List.range 4) (fun i hi => by rw [ha, hb]; simpa using hi)
  rw [h2] at h
  show (Op.equalIn (9999 + 1) _ _ _).run _ _ = _
  rw [show AV .u64 a = .agg (ks .u64 a).toArray from rfl, show AV .u64 b = .agg (ks .u64 b).toArray from rfl, h]
  congr 1
  apply decide_eq_decide.2
  refine ⟨fun h => ?_, fun h i _ => by rw [h]⟩
  apply List.ext_getElem (by rw [ha, hb])
  intro j h1 h2
  have := h j (by rw [ha] at h1; simpa using h1)
  simpa [List.getD_eq_getElem?_getD, h1, h2] using this
theorem guardType_v : Try.prog.eqGuardType Try.prog.depth 25 = false := by kernel_rfl
theorem guard_v (x y : Operand) (l m : List Nat) (w : World) : (eqGuard .eql 25 x y (AV .u64 l) (AV .u64 m)).run Try.prog w = .ok () w := by
  unfold AV
  simp [eqGuard, guardType_v]
theorem eql_v (a b : List Nat) (ha : a.length = 4) (hb : b.length = 4) (w : World) :
    (binOp .eql 25 (AV .u64 a) (AV .u64 b)).run Try.prog w = .ok (.bool (decide (a = b))) w := by
  have h := eq_v a b ha hb w
  have e : binOp .eql 25 (AV .u64 a) (AV .u64 b) = (do pure (.bool (← Op.equalIn 10000 25 (AV .u64 a) (AV .u64 b)))) := rfl
  rw [e]
  simp only [Sem.run_bind, h, Result.andThen_ok, Sem.run_pure]
theorem eq_r (a b : List Nat) (ha : a.length = 4) (hb : b.length = 4) (w : World) :
    (Op.equalIn 10000 32 (AV .u64 a) (AV .u64 b)).run Try.prog w = .ok (decide (a = b)) w := by
  obtain ⟨i, hi⟩ := some_u64
  have h := run_equalIn_array (P := Try.prog) w 9999 (ks .u64 a).toArray (ks .u64 b).toArray Try.underlying32 hi
  rw [cells_u64] at h
  have h2 := eqItems_ints (P := Try.prog) w 9998 .u64 plain_u64 Try.underlying23 a b (List.range 4) (fun i hi => by rw [ha, hb]; simpa using hi)
  rw [h2] at h
  show (Op.equalIn (9999 + 1) _ _ _).run _ _ = _
  rw [show AV .u64 a = .agg (ks .u64 a).toArray from rfl, show AV .u64 b = .agg (ks .u64 b).toArray from rfl, h]
  congr 1
  apply decide_eq_decide.2
  refine ⟨fun h => ?_, fun h i _ => by rw [h]⟩
  apply List.ext_getElem (by rw [ha, hb])
  intro j h1 h2
  have := h j (by rw [ha] at h1; simpa using h1)
  simpa [List.getD_eq_getElem?_getD, h1, h2] using this
theorem guardType_r : Try.prog.eqGuardType Try.prog.depth 32 = false := by kernel_rfl
theorem guard_r (x y : Operand) (l m : List Nat) (w : World) : (eqGuard .eql 32 x y (AV .u64 l) (AV .u64 m)).run Try.prog w = .ok () w := by
  unfold AV
  simp [eqGuard, guardType_r]
theorem eql_r (a b : List Nat) (ha : a.length = 4) (hb : b.length = 4) (w : World) :
    (binOp .eql 32 (AV .u64 a) (AV .u64 b)).run Try.prog w = .ok (.bool (decide (a = b))) w := by
  have h := eq_r a b ha hb w
  have e : binOp .eql 32 (AV .u64 a) (AV .u64 b) = (do pure (.bool (← Op.equalIn 10000 32 (AV .u64 a) (AV .u64 b)))) := rfl
  rw [e]
  simp only [Sem.run_bind, h, Result.andThen_ok, Sem.run_pure]
set_option maxHeartbeats 1000000 in
theorem join_any (a b : List Nat) (w : World) (ha : a.length = 4) (hb : b.length = 4) :
    Calls Try.prog 39 #[AV .u64 a, AV .u64 b] w fun e w' => e = .returned (AV .u64 (V.join a b)) ∧ Below w.heap.size w w' := by
  have HIa : Hid _ := size_v ha
  have HIb : Hid _ := size_v hb
  have C : Hid _ := fun w => both_join a b w ha hb
  obtain ⟨r, HR⟩ : ∃ r, Hid (V.join a b = r) := ⟨_, rfl⟩
  have HRL : Hid (r.length = 4) := by show _ = _; rw [← HR.out]; exact V.join_length ha hb
  have HIr : Hid _ := size_v HRL.out
  rw [HR.out] at C ⊢
  clear ha hb HR
  go_enter Try.func39, Try.ntmps39
  go_wp2_with (first | refine arr_box rfl .u64 25 _ rfl a rfl ?_)
  intro w1 A1 B1 Z1
  go_wp2_with (first | refine arr_box rfl .u64 25 _ rfl b rfl ?_)
  intro w2 A2 B2 Z2
  go_wp2_with (first | refine arr_alloc rfl .u64 25 4 rfl Try.info_v ?_)
  intro w3 A3 B3 Z3
  have HA3 : Hid (Arr .u64 w3 w.heap.size a) := (A1.below B2 (by omega)).below B3 (by omega)
  have HB3 : Hid (Arr .u64 w3 (w.heap.size + 1) b) := A2.below B3 (by omega)
  have HC3 : Hid (Arr .u64 w3 (w.heap.size + 2) (List.replicate 4 0)) := A3
  have HW3 : Hid (Below w.heap.size w w3) := B1.trans ((B2.mono (by omega)).trans (B3.mono (by omega)))
  have HZ3 : Hid (w.heap.size + 2 < w3.heap.size) := by show _ < _; omega
  clear A1 B1 A2 B2 A3 B3 Z1 Z2 Z3
  go_wp2_with (first | refine arr_load rfl .u64 25 _ rfl (w.heap.size) rfl a HA3.out 4 23 Try.underlying25 HIa.out ?_ | refine arr_load rfl .u64 25 _ rfl (w.heap.size + 1) rfl b HB3.out 4 23 Try.underlying25 HIb.out ?_)
  refine (C.out w3).mono ?_; rintro e w4 ⟨rfl, hb4⟩
  have HC4 : Hid (Arr .u64 w4 (w.heap.size + 2) (List.replicate 4 0)) := Arr.below HC3.out hb4 HZ3.out
  have HW4 : Hid (Below w.heap.size w w4) := Below.trans HW3.out (hb4.mono HW3.out.size)
  clear hb4
  go_wp2_with (first | refine arr_store rfl .u64 25 _ _ rfl (w.heap.size + 2) rfl r rfl _ HC4.out (by rw [HRL.out]; rfl) HIr.out ?_)
  intro u A U
  have HA9 : Hid (Arr .u64 u (w.heap.size + 2) r) := A
  have HB9 : Hid (Below w.heap.size w u) := Below.trans HW4.out (U.below (by omega))
  clear A U
  go_wp2_with fail
  refine bodyPost_ret (v := AV .u64 r) ?_ rfl ⟨rfl, HB9.out⟩
  exact res_arr (t := 25) Try.results39 _ .u64 (w.heap.size + 2) rfl r HA9.out 4 23 Try.underlying25 HIr.out
set_option maxHeartbeats 1000000 in
theorem meet_any (a b : List Nat) (w : World) (ha : a.length = 4) (hb : b.length = 4) :
    Calls Try.prog 38 #[AV .u64 a, AV .u64 b] w fun e w' => e = .returned (AV .u64 (V.meet a b)) ∧ Below w.heap.size w w' := by
  have HIa : Hid _ := size_v ha
  have HIb : Hid _ := size_v hb
  have C : Hid _ := fun w => both_meet a b w ha hb
  obtain ⟨r, HR⟩ : ∃ r, Hid (V.meet a b = r) := ⟨_, rfl⟩
  have HRL : Hid (r.length = 4) := by show _ = _; rw [← HR.out]; exact V.meet_length ha hb
  have HIr : Hid _ := size_v HRL.out
  rw [HR.out] at C ⊢
  clear ha hb HR
  go_enter Try.func38, Try.ntmps38
  go_wp2_with (first | refine arr_box rfl .u64 25 _ rfl a rfl ?_)
  intro w1 A1 B1 Z1
  go_wp2_with (first | refine arr_box rfl .u64 25 _ rfl b rfl ?_)
  intro w2 A2 B2 Z2
  go_wp2_with (first | refine arr_alloc rfl .u64 25 4 rfl Try.info_v ?_)
  intro w3 A3 B3 Z3
  have HA3 : Hid (Arr .u64 w3 w.heap.size a) := (A1.below B2 (by omega)).below B3 (by omega)
  have HB3 : Hid (Arr .u64 w3 (w.heap.size + 1) b) := A2.below B3 (by omega)
  have HC3 : Hid (Arr .u64 w3 (w.heap.size + 2) (List.replicate 4 0)) := A3
  have HW3 : Hid (Below w.heap.size w w3) := B1.trans ((B2.mono (by omega)).trans (B3.mono (by omega)))
  have HZ3 : Hid (w.heap.size + 2 < w3.heap.size) := by show _ < _; omega
  clear A1 B1 A2 B2 A3 B3 Z1 Z2 Z3
  go_wp2_with (first | refine arr_load rfl .u64 25 _ rfl (w.heap.size) rfl a HA3.out 4 23 Try.underlying25 HIa.out ?_ | refine arr_load rfl .u64 25 _ rfl (w.heap.size + 1) rfl b HB3.out 4 23 Try.underlying25 HIb.out ?_)
  refine (C.out w3).mono ?_; rintro e w4 ⟨rfl, hb4⟩
  have HC4 : Hid (Arr .u64 w4 (w.heap.size + 2) (List.replicate 4 0)) := Arr.below HC3.out hb4 HZ3.out
  have HW4 : Hid (Below w.heap.size w w4) := Below.trans HW3.out (hb4.mono HW3.out.size)
  clear hb4
  go_wp2_with (first | refine arr_store rfl .u64 25 _ _ rfl (w.heap.size + 2) rfl r rfl _ HC4.out (by rw [HRL.out]; rfl) HIr.out ?_)
  intro u A U
  have HA9 : Hid (Arr .u64 u (w.heap.size + 2) r) := A
  have HB9 : Hid (Below w.heap.size w u) := Below.trans HW4.out (U.below (by omega))
  clear A U
  go_wp2_with fail
  refine bodyPost_ret (v := AV .u64 r) ?_ rfl ⟨rfl, HB9.out⟩
  exact res_arr (t := 25) Try.results38 _ .u64 (w.heap.size + 2) rfl r HA9.out 4 23 Try.underlying25 HIr.out
set_option maxHeartbeats 1000000 in
theorem leq_any (a b : List Nat) (w : World) (ha : a.length = 4) (hb : b.length = 4) :
    Calls Try.prog 37 #[AV .u64 a, AV .u64 b] w fun e w' => e = .returned (.bool (V.leq a b)) ∧ Below w.heap.size w w' := by
  have HIa : Hid _ := size_v ha
  have HIb : Hid _ := size_v hb
  have C : Hid _ := fun w => join_any a b w ha hb
  have HJ : Hid _ := V.join_length ha hb
  have HE : Hid _ := fun w => eql_v (V.join a b) b HJ.out hb w
  unfold V.leq
  generalize V.join a b = r at *
  obtain ⟨d, HD⟩ : ∃ d, Hid (decide (r = b) = d) := ⟨_, rfl⟩
  rw [HD.out] at HE ⊢
  clear ha hb HD
  go_enter Try.func37, Try.ntmps37
  go_wp2_with (first | refine arr_box rfl .u64 25 _ rfl a rfl ?_)
  intro w1 A1 B1 Z1
  go_wp2_with (first | refine arr_box rfl .u64 25 _ rfl b rfl ?_)
  intro w2 A2 B2 Z2
  have HA2 : Hid (Arr .u64 w2 w.heap.size a) := A1.below B2 (by omega)
  have HB2 : Hid (Arr .u64 w2 (w.heap.size + 1) b) := A2
  have HW2 : Hid (Below w.heap.size w w2) := B1.trans (B2.mono (by omega))
  have HZ2 : Hid (w.heap.size + 1 < w2.heap.size) := by show _ < _; omega
  have hz2 := HZ2.out
  clear A1 B1 A2 B2 Z1 Z2
  go_wp2_with fail
  have KA : Hid (∀ u, Below w2.heap.size w2 u → Arr .u64 u w.heap.size a) := fun u hu => Arr.below HA2.out hu (by omega)
  have KB : Hid (∀ u, Below w2.heap.size w2 u → Arr .u64 u (w.heap.size + 1) b) := fun u hu => Arr.below HB2.out hu (by omega)
  have X : Hid (∀ u, Below w2.heap.size w2 u → Calls Try.prog 39 [AV .u64 a, AV .u64 b].toArray u fun e u' => e = .returned (AV .u64 r) ∧ Below w2.heap.size w2 u') := fun u hu => Calls.more hu (C.out u)
  refine region_more Try.mixed (by kernel_rfl) ?_
  refine q_arr_load rfl .u64 25 _ rfl w.heap.size rfl a KA.out 4 23 Try.underlying25 HIa.out (fun K hK => ?_)
  go_simp
  refine hK _ ?_
  clear hK K
  refine q_arr_load rfl .u64 25 _ rfl (w.heap.size + 1) rfl b KB.out 4 23 Try.underlying25 HIb.out (fun K hK => ?_)
  go_simp
  refine hK _ ?_
  clear hK K
  refine q_call rfl 39 Try.f39 Try.func39 rfl rfl _ _ rfl _ rfl (AV .u64 r) (by exact X.out) (fun K hK => ?_)
  go_simp
  refine hK _ ?_
  clear hK K
  refine q_arr_load rfl .u64 25 _ rfl (w.heap.size + 1) rfl b KB.out 4 23 Try.underlying25 HIb.out (fun K hK => ?_)
  go_simp
  refine hK _ ?_
  clear hK K
  refine q_value rfl (.bool d) (fun u _ => run_eql u .eql 25 25 _ _ (AV .u64 r) (AV .u64 b) _ rfl rfl rfl (guard_v _ _ _ _ u) (HE.out u)) (fun K hK => ?_)
  go_simp
  refine hK _ ?_
  clear hK K
  refine q_assign rfl _ rfl (.bool d) rfl (fun K hK => ?_)
  go_simp
  refine hK _ ?_
  clear hK K
  refine wpQuiet_nil ?_
  intro u hu
  have HW9 : Hid (Below w.heap.size w u) := Below.trans HW2.out (hu.mono HW2.out.size)
  clear hu
  go_wp2_with fail
  go_ret
  exact ⟨rfl, HW9.out⟩
end Go.Proofs.Ytkiaehehckmpnaa.Vc
