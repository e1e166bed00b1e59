/- mac: piece, Equal. -/
import Derived.Test.YtlodahlinncpcaaDoorMacKey
import Derived.ChangeKeysEq
import Derived.Deep.RegionWith
namespace Go.Proofs.YtlodahlinncpcaaDoor.Mc
open Go.RowKit
set_option linter.unusedVariables false
set_option linter.unusedSimpArgs false
theorem eqItems_ints {P : Program} (w : World) (d : Nat) (k : IntKind) {e : TypeId} (he : P.plainKey e = true) (hu : P.underlying e = some (.int k)) (l1 l2 : List Nat) : ∀ is : List Nat, (∀ i ∈ is, i < l1.length ∧ i < l2.length) →
    (Op.eqItems (d + 1) e 1 (ks k l1).toArray (ks k l2).toArray is).run P w = .ok (decide (∀ i ∈ is, l1.getD i 0 = l2.getD i 0)) w
  | [], _ => by simp [Op.eqItems]
  | i :: is, h => by
    have hi := h i (by simp)
    have c1 : (ks k l1).toArray[i * 1]? = some (.int k ((l1.getD i 0 : Nat) : Int)) := by simp [ks, hi.1]
    have c2 : (ks k l2).toArray[i * 1]? = some (.int k ((l2.getD i 0 : Nat) : Int)) := by simp [ks, hi.2]
    have ih := eqItems_ints w d k he hu l1 l2 is (fun j hj => h j (by simp [hj]))
    have e3 : (Op.equalIn (d + 1) e (.int k ((l1.getD i 0 : Nat) : Int)) (.int k ((l2.getD i 0 : Nat) : Int))).run P w = .ok (((l1.getD i 0 : Nat) : Int) == ((l2.getD i 0 : Nat) : Int)) w := by
      simp [Op.equalIn, run_underlying hu]
    simp only [Op.eqItems, Sem.run_bind, run_part_plain w he c1, run_part_plain w he c2, e3, Result.andThen_ok]
    by_cases hq : l1.getD i 0 = l2.getD i 0
    · have hb : (((l1.getD i 0 : Nat) : Int) == ((l2.getD i 0 : Nat) : Int)) = true := by rw [beq_iff_eq, hq]
      rw [hb]
      simp only [Bool.not_true, Bool.false_eq_true, if_false]
      rw [ih]
      congr 1
      apply decide_eq_decide.2
      simp only [List.mem_cons, forall_eq_or_imp]
      exact ⟨fun h => ⟨hq, h⟩, fun h => h.2⟩
    · have hb : (((l1.getD i 0 : Nat) : Int) == ((l2.getD i 0 : Nat) : Int)) = false := by rw [beq_eq_false_iff_ne]; omega
      rw [hb]
      simp only [Bool.not_false, if_true, Sem.run_pure]
      congr 1
      symm
      rw [decide_eq_false_iff_not]
      exact fun h => hq (h i (by simp))
theorem nb_inj (a b : List UInt8) : nb a = nb b ↔ a = b := by
  refine ⟨fun h => ?_, fun h => by rw [h]⟩
  exact (List.map_inj_right (fun x y hxy => UInt8.toNat_inj.1 hxy)).1 h
theorem cells_u8 : Tryd.prog.cellsOf 5 = 1 := by kernel_rfl
theorem plain_u8 : Tryd.prog.plainKey 5 = true := by kernel_rfl
theorem some_u8 : ∃ i, Tryd.prog.info? 5 = some i := by
  have := Tryd.size_u8
  cases h : Tryd.prog.info? 5 with
  | none => rw [h] at this; cases this
  | some i => exact ⟨i, rfl⟩
set_option maxRecDepth 100000 in
theorem eq_b32 (a b : List UInt8) (ha : a.length = 32) (hb : b.length = 32) (w : World) :
    (Op.equalIn 10000 72 (AV .u8 (nb a)) (AV .u8 (nb b))).run Tryd.prog w = .ok (decide (a = b)) w := by
  obtain ⟨i, hi⟩ := some_u8
  have h := run_equalIn_array (P := Tryd.prog) w 9999 (ks .u8 (nb a)).toArray (ks .u8 (nb b)).toArray Tryd.underlying72 hi
  rw [cells_u8] at h
  have h2 := eqItems_ints (P := Tryd.prog) w 9998 .u8 plain_u8 Tryd.underlying5 (nb a) (nb b) (List.range 32) (fun i hi => by rw [nb_length, nb_length, ha, hb]; simpa using hi)
  rw [h2] at h
  show (Op.equalIn (9999 + 1) _ _ _).run _ _ = _
  rw [show AV .u8 (nb a) = .agg (ks .u8 (nb a)).toArray from rfl, show AV .u8 (nb b) = .agg (ks .u8 (nb b)).toArray from rfl, h]
  congr 1
  apply decide_eq_decide.2
  rw [← nb_inj]
  refine ⟨fun h => ?_, fun h i _ => by rw [h]⟩
  apply List.ext_getElem (by rw [nb_length, nb_length, ha, hb])
  intro j h1 h2
  have := h j (by rw [nb_length, ha] at h1; simpa using h1)
  simpa [List.getD_eq_getElem?_getD, h1, h2] using this
theorem guardType_b32 : Tryd.prog.eqGuardType Tryd.prog.depth 72 = false := by kernel_rfl
theorem guard_b32 (x y : Operand) (l m : List Nat) (w : World) : (eqGuard .neq 72 x y (AV .u8 l) (AV .u8 m)).run Tryd.prog w = .ok () w := by
  unfold AV
  simp [eqGuard, guardType_b32]
theorem neq_b32 (a b : List UInt8) (ha : a.length = 32) (hb : b.length = 32) (w : World) :
    (binOp .neq 72 (AV .u8 (nb a)) (AV .u8 (nb b))).run Tryd.prog w = .ok (.bool (!decide (a = b))) w := by
  have h := eq_b32 a b ha hb w
  have e : binOp .neq 72 (AV .u8 (nb a)) (AV .u8 (nb b)) = (do pure (.bool (!(← Op.equalIn 10000 72 (AV .u8 (nb a)) (AV .u8 (nb b)))))) := rfl
  rw [e]
  simp only [Sem.run_bind, h, Result.andThen_ok, Sem.run_pure]
theorem Tryd.info_b32 : (Tryd.prog.info? 72).map (fun i => (i.zero, i.size)) = some (some (AV .u8 (List.replicate 32 0)), 32) := by kernel_rfl
theorem Tryd.size_b32 : (Tryd.prog.info? 72).map (·.size) = some 32 := by kernel_rfl
set_option maxHeartbeats 1000000 in
set_option maxRecDepth 100000 in
theorem piece_any (s : ByteArray) (w : World) :
    Calls Tryd.prog 45 #[.string s] w fun e w' => e = .returned (AV .u8 (nb (M.fill 32 s.data.toList))) ∧ Below w.heap.size w w' := by
  go_enter Tryd.func45, Tryd.ntmps45
  go_wp2_with (first | refine arr_alloc rfl .u8 72 32 rfl Tryd.info_b32 ?_)
  intro w0 A0 B0 Z0
  go_wp2_with (first | refine row_alloc rfl .u8 72 32 rfl Tryd.info_b32 ?_)
  intro w1 R1 B1 Z1
  obtain ⟨w2, hcp, A2, B2, Z2⟩ := copy_in w1 32 (w.heap.size + 1) 72 s R1.out
  have HL : Hid ((nb (M.fill 32 s.data.toList)).length = 32) := by show _ = _; rw [nb_length, M.fill_length]
  obtain ⟨F, HF⟩ : ∃ r, Hid (nb (M.fill 32 s.data.toList) = r) := ⟨_, rfl⟩
  rw [HF.out] at HL A2
  have HI : Hid ((Tryd.prog.info? 72).map (·.size) = some F.length) := by show _ = _; rw [HL.out]; exact Tryd.size_b32
  have HA2 : Hid (Arr .u8 w2 (w.heap.size + 1) F) := A2
  have HR2 : Hid (Arr .u8 w2 w.heap.size (List.replicate 32 0)) := (A0.below B1 (by omega)).below B2 (by omega)
  have HB2 : Hid (Below w.heap.size w w2) := B0.trans ((B1.mono (by omega)).trans (B2.mono (by omega)))
  clear A0 B0 R1 B1 B2 A2
  go_wp2_with (first | refine arr_load rfl .u8 72 _ rfl (w.heap.size + 1) rfl F HA2.out 32 5 Tryd.underlying72 HI.out ?_ | refine arr_store rfl .u8 72 _ _ rfl w.heap.size rfl F rfl _ HR2.out (by rw [HL.out]; rfl) HI.out ?_)
  intro w3 A3 U3
  have HB3 : Hid (Below w.heap.size w w3) := Below.trans HB2.out (U3.below (Nat.le_refl _))
  have HA3 : Hid _ := A3
  clear A3 U3
  go_wp2_with fail
  refine bodyPost_ret (v := AV .u8 F) ?_ rfl ⟨by rw [HF.out], HB3.out⟩
  exact res_arr (t := 72) Tryd.results45 _ .u8 w.heap.size rfl F HA3.out 32 5 Tryd.underlying72 HI.out
theorem fill_eq (a b : List UInt8) (h : a.length = b.length) : M.fill 32 a = M.fill 32 b ↔ a.take 32 = b.take 32 := by
  rw [M.fill, M.fill, h]
  refine ⟨fun e => (List.append_inj e (by rw [List.length_take, List.length_take, h])).1, fun e => by rw [e]⟩
theorem ext_list (s : ByteArray) (q : Nat) : (s.extract q s.size).data.toList = s.data.toList.drop q := by
  rw [extract_list, List.take_of_length_le (by rw [len_list]; exact Nat.le_refl _)]
theorem ne_of_size (a b : ByteArray) (h : a.size ≠ b.size) : decide (a = b) = false := by
  rw [decide_eq_false_iff_not]; intro e; exact h (by rw [e])
set_option maxHeartbeats 1000000 in
set_option maxRecDepth 100000 in
theorem equal_any (a b : ByteArray) (w : World) (ha : a.size ≤ 140737488355328) (hb : b.size ≤ 140737488355328) :
    Calls Tryd.prog 26 #[.string a, .string b] w fun e w' => e = .returned (.bool (decide (a = b))) ∧ Below w.heap.size w w' := by
  by_cases hab : a.size = b.size
  · have hne : ((a.size : Int) != (b.size : Int)) = false := by rw [bne_eq_false_iff_eq]; omega
    have HAB : Hid _ := hab
    have HBA : Hid (b.size = a.size) := hab.symm
    clear hab
    go_enter Tryd.func26, Tryd.ntmps26
    go_wp2_with fail
    clear hne
    go_loopw [5] (fun i wr => ∃ j : Nat, 32 * j < a.size + 32 ∧ i = .int .i64 (32 * j : Nat) ∧ Hid (a.data.toList.take (32 * j) = b.data.toList.take (32 * j)) ∧ Hid (Below w.heap.size w wr)) (fun i _ => a.size + 32 - (intOf i).toNat)
    case atStart => exact ⟨0, by omega, by go_num, rfl, Below.refl _ _⟩
    case round =>
      obtain ⟨j, hj, rfl, HE, HB⟩ := hrel
      obtain ⟨q, hq⟩ : ∃ q, q = 32 * j := ⟨_, rfl⟩
      rw [show (32 * j : Nat) = q from hq.symm]
      rw [← hq] at HE hj
      by_cases hlt : q < a.size
      · have hqb : q < b.size := by rw [HBA.out]; exact hlt
        have iq : (q : Int) < (a.size : Int) := by omega
        have ia : (q : Int) ≤ (a.size : Int) := by omega
        have ib : (q : Int) ≤ (b.size : Int) := by omega
        have na : q ≤ a.size := by omega
        have nbq : q ≤ b.size := by omega
        have vq : IntKind.i64.wrap (q : Int) = q := IntWalk.i64_in _ ⟨by omega, by omega⟩
        have hl1 : (M.fill 32 (a.extract q a.size).data.toList).length = 32 := M.fill_length _ _
        have hl2 : (M.fill 32 (b.extract q b.size).data.toList).length = 32 := M.fill_length _ _
        have HF : Hid (M.fill 32 (a.extract q a.size).data.toList = M.fill 32 (b.extract q b.size).data.toList ↔ a.data.toList.take (q + 32) = b.data.toList.take (q + 32)) := by
          show _ ↔ _
          rw [ext_list, ext_list, fill_eq _ _ (by rw [List.length_drop, List.length_drop, len_list, len_list, HAB.out]), List.take_add, List.take_add, HE.out]
          exact ⟨fun e => by rw [e], fun e => List.append_cancel_left e⟩
        have HEQ : Hid _ := fun w => neq_b32 _ _ hl1 hl2 w
        have hgu : ∀ w, (eqGuard .neq 72 (.tmp 20) (.tmp 24) (AV .u8 (nb (M.fill 32 (a.extract q a.size).data.toList))) (AV .u8 (nb (M.fill 32 (b.extract q b.size).data.toList)))).run Tryd.prog w = .ok () w := fun w => guard_b32 _ _ _ _ w
        have C1 : Hid _ := fun w => piece_any (a.extract q a.size) w
        have C2 : Hid _ := fun w => piece_any (b.extract q b.size) w
        generalize M.fill 32 (a.extract q a.size).data.toList = p1 at *
        generalize M.fill 32 (b.extract q b.size).data.toList = p2 at *
        have HJ : Hid _ := hq
        have HB0 : Hid (Below w.heap.size w wr.drew) := Below.drew HB.out
        clear hl1 hl2 hq
        by_cases hp : p1 = p2
        · have hd : decide (p1 = p2) = true := by simpa using hp
          have HT : Hid _ := HF.out.1 hp
          rw [hd] at HEQ
          have heq := HEQ.out
          simp only [Bool.not_true, Bool.not_false] at heq
          clear hp hd HF HEQ
          go_wp2_with fail
          go_region_with (first | (go_at_call 45; refine (C1.out wr.drew).mono ?_; rintro e u1 ⟨rfl, hb1⟩; have HB1 : Hid (Below w.heap.size w u1) := Below.trans HB0.out (hb1.mono HB0.out.size); clear hb1) | (go_at_call 45; refine (C2.out wr.drew).mono ?_; rintro e u1 ⟨rfl, hb1⟩; have HB1 : Hid (Below w.heap.size w u1) := Below.trans HB0.out (hb1.mono HB0.out.size); clear hb1) | (go_at_call 45; refine (C1.out u1).mono ?_; rintro e u2 ⟨rfl, hb2⟩; have HB2 : Hid (Below w.heap.size w u2) := Below.trans HB1.out (hb2.mono HB1.out.size); clear hb2) | (go_at_call 45; refine (C2.out u1).mono ?_; rintro e u2 ⟨rfl, hb2⟩; have HB2 : Hid (Below w.heap.size w u2) := Below.trans HB1.out (hb2.mono HB1.out.size); clear hb2))
          all_goals
            go_wp2_with fail
            go_roundw
            case rel => exact ⟨j + 1, by have := HJ.out; omega, by have := HJ.out; go_num, by rw [show 32 * (j + 1) = q + 32 by have := HJ.out; omega]; exact HT.out, HB2⟩
            case measure => simp [intOf]; omega
        · have hd : decide (p1 = p2) = false := by simpa using hp
          have HD : Hid (decide (a = b) = false) := by
            show _ = _
            rw [decide_eq_false_iff_not]
            intro e
            exact hp (HF.out.2 (by rw [e]))
          rw [hd] at HEQ
          have heq := HEQ.out
          simp only [Bool.not_true, Bool.not_false] at heq
          clear hp hd HF HEQ
          go_wp2_with fail
          go_region_with (first | (go_at_call 45; refine (C1.out wr.drew).mono ?_; rintro e u1 ⟨rfl, hb1⟩; have HB1 : Hid (Below w.heap.size w u1) := Below.trans HB0.out (hb1.mono HB0.out.size); clear hb1) | (go_at_call 45; refine (C2.out wr.drew).mono ?_; rintro e u1 ⟨rfl, hb1⟩; have HB1 : Hid (Below w.heap.size w u1) := Below.trans HB0.out (hb1.mono HB0.out.size); clear hb1) | (go_at_call 45; refine (C1.out u1).mono ?_; rintro e u2 ⟨rfl, hb2⟩; have HB2 : Hid (Below w.heap.size w u2) := Below.trans HB1.out (hb2.mono HB1.out.size); clear hb2) | (go_at_call 45; refine (C2.out u1).mono ?_; rintro e u2 ⟨rfl, hb2⟩; have HB2 : Hid (Below w.heap.size w u2) := Below.trans HB1.out (hb2.mono HB1.out.size); clear hb2))
          all_goals
            go_wp2_with fail
            go_ret
            rw [HD.out]
            exact ⟨rfl, HB2.out⟩
      · have iq : ¬ (q : Int) < (a.size : Int) := by omega
        have HD : Hid (decide (a = b) = true) := by
          show _ = _
          rw [decide_eq_true_iff]
          have e := HE.out
          rw [List.take_of_length_le (by rw [len_list]; omega), List.take_of_length_le (by rw [len_list, HBA.out]; omega)] at e
          rw [← S_of a, ← S_of b, e]
        clear hq
        go_wp2_with fail
        go_ret
        rw [HD.out]
        exact ⟨rfl, HB.out⟩
  · have hne : ((a.size : Int) != (b.size : Int)) = true := by rw [bne_iff_ne]; omega
    have HD : Hid _ := ne_of_size a b hab
    clear hab
    go_enter Tryd.func26, Tryd.ntmps26
    go_wp2_with fail
    go_ret
    rw [HD.out]
    exact ⟨rfl, Below.refl _ _⟩
end Go.Proofs.YtlodahlinncpcaaDoor.Mc
