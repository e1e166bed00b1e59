/-
  For all texts s and t and every choice 'same', where the arguments and the table together hold at most 1048576 values and letters: two texts have the same digits just if they are the same, each byte has two digits of 0 to 9 and a to f, and joined texts have their digits joined (the law ShaHex). Conditions: that bound alone.
-/
import Derived.Test.YtkdcmobhaaihhaaDoorFrameLaid
import Derived.Test.YtkdcmobhaaihhaaDoorShaEx
namespace Go.Proofs.YtkdcmobhaaihhaaDoor.shaHex
open Go.ChangeShapes Go.WideShapes Go.ChangeAt Go.RowKit
open Go.ChangeMaps (open_string shut_string)
set_option linter.unusedVariables false
set_option linter.unusedSimpArgs false

theorem tol_eq (a b : ByteArray) : (a.toList == b.toList) = decide (a = b) := by
  rw [ByteArray.toList_eq, ByteArray.toList_eq, Bool.eq_iff_iff]
  rw [decide_eq_true_iff, beq_iff_eq, ← S_inj, S_of, S_of]
theorem digit_inj (a b : Nat) (ha : a < 16) (hb : b < 16) (h : Q.digit a = Q.digit b) : a = b := by
  have h' : (Q.digit a).toNat = (Q.digit b).toNat := by rw [h]
  unfold Q.digit at h'
  split at h' <;> split at h' <;> rw [UInt8.toNat_ofNat', UInt8.toNat_ofNat'] at h' <;> omega
theorem hex_inj (s t : List UInt8) (h : Q.hex s = Q.hex t) : s = t := by
  induction s generalizing t with
  | nil =>
    cases t with
    | nil => rfl
    | cons b t => simp [Q.hex] at h
  | cons a s ih =>
    cases t with
    | nil => simp [Q.hex] at h
    | cons b t =>
      simp only [Q.hex, List.flatMap_cons, List.cons_append, List.nil_append, List.cons.injEq] at h
      obtain ⟨h1, h2, h3⟩ := h
      have e1 := digit_inj _ _ (by have := a.toNat_lt; omega) (by have := b.toNat_lt; omega) h1
      have e2 := digit_inj _ _ (by omega) (by omega) h2
      have e3 : a = b := UInt8.toNat_inj.1 (by omega)
      rw [e3, ih t h3]
theorem digit_is (n : Nat) (h : n < 16) : (48 ≤ (Q.digit n).toNat ∧ (Q.digit n).toNat ≤ 57) ∨ (97 ≤ (Q.digit n).toNat ∧ (Q.digit n).toNat ≤ 102) := by
  unfold Q.digit
  split <;> rw [UInt8.toNat_ofNat'] <;> omega
theorem hex_mem (s : List UInt8) (b : UInt8) (h : b ∈ Q.hex s) : (48 ≤ b.toNat ∧ b.toNat ≤ 57) ∨ (97 ≤ b.toNat ∧ b.toNat ≤ 102) := by
  simp only [Q.hex, List.mem_flatMap, List.mem_cons, List.not_mem_nil, or_false] at h
  obtain ⟨x, _, h⟩ := h
  rcases h with rfl | rfl
  · exact digit_is _ (by have := x.toNat_lt; omega)
  · exact digit_is _ (by omega)
theorem hexS_at (s : ByteArray) (k : Nat) (h : k < (S (Q.hex s.data.toList)).size) : (48 ≤ (S (Q.hex s.data.toList))[k].toNat ∧ (S (Q.hex s.data.toList))[k].toNat ≤ 57) ∨ (97 ≤ (S (Q.hex s.data.toList))[k].toNat ∧ (S (Q.hex s.data.toList))[k].toNat ≤ 102) := by
  refine hex_mem s.data.toList _ ?_
  have : (S (Q.hex s.data.toList))[k] = (Q.hex s.data.toList)[k]'(by rw [← S_size]; exact h) := rfl
  rw [this]
  exact List.getElem_mem _
theorem hexS_size (s : ByteArray) : (S (Q.hex s.data.toList)).size = 2 * s.size := by rw [S_size, Q.hex_length, len_list]
theorem hexS_eq (s t : ByteArray) : (S (Q.hex s.data.toList) = S (Q.hex t.data.toList)) ↔ s = t := by
  rw [S_inj]
  refine ⟨fun h => ?_, fun h => by rw [h]⟩
  rw [← S_of s, hex_inj _ _ h, S_of]
theorem hexS_append (s t : ByteArray) : S (Q.hex (s ++ t).data.toList) = S (Q.hex s.data.toList) ++ S (Q.hex t.data.toList) := by
  rw [ByteArray.data_append, Array.toList_append, Q.hex_append, S_append]

set_option maxHeartbeats 1000000 in
set_option maxRecDepth 100000 in
theorem walkF (s t : ByteArray) (w : World) (hT : Tab w) (hs : s.size ≤ 1048576) (ht : t.size ≤ 1048576) :
    Calls Tryd.prog 6 #[.string s, .string t, .bool false] w fun e w' => e = .returned (.bool true) ∧ Below w.heap.size w w' := by
  have CE : Hid _ := examples_any
  have HT : Hid _ := hT
  have hz := hT.pos
  have CS : Hid _ := fun w => hex_any s w (by omega)
  have CT : Hid _ := fun w => hex_any t w (by omega)
  have CST0 := fun w => hex_any (s ++ t) w (by rw [ByteArray.size_append]; omega)
  simp only [hexS_append] at CST0
  have CST : Hid _ := CST0
  have hAs := hexS_size s
  have HAT : Hid _ := hexS_at s
  have HEQ : Hid _ := hexS_eq s t
  generalize S (Q.hex s.data.toList) = A at *
  have hBs : (S (Q.hex t.data.toList)).size ≤ 2097152 := by rw [hexS_size]; omega
  generalize S (Q.hex t.data.toList) = B at *
  clear hT CST0
  have hA1 : (((2 * s.size : Nat) : Int) != 2 * (s.size : Int)) = false := by rw [bne_eq_false_iff_eq]; omega
  have hA2 : ((2 * (s.size : Int)) != 2 * (s.size : Int)) = false := by rw [bne_eq_false_iff_eq]
  have hAi : (A.size : Int) = 2 * (s.size : Int) := by omega
  go_enter Tryd.func6, Tryd.ntmps6
  go_wp2_with fail
  refine (CE.out _ HT.out).mono ?_; rintro e w1 ⟨rfl, hb1⟩
  go_wp2_with fail
  refine (CS.out _).mono ?_; rintro e w2 ⟨rfl, hb2⟩
  have HB2 : Hid (Below w.heap.size w w2) := hb1.trans (hb2.mono hb1.size)
  clear hb1 hb2 CE CS HT
  go_wp2_with fail
  clear hA1 hA2
  go_loopw [9] (fun i wr => ∃ k : Nat, k ≤ 2 * s.size ∧ i = .int .i64 k ∧ Hid (Below w.heap.size w wr)) (fun i _ => 2 * s.size - (intOf i).toNat)
  case atStart => exact ⟨0, by omega, rfl, HB2⟩
  case round =>
    clear HB2
    obtain ⟨k, hk, rfl, HB⟩ := hrel
    by_cases hlt : k < 2 * s.size
    · have hi : (k : Int) < 2 * (s.size : Int) := by omega
      have hb := HAT.out k (by omega)
      obtain ⟨b, hbk⟩ : ∃ b, A[k]'(by omega) = b := ⟨_, rfl⟩
      rw [hbk] at hb
      rcases hb with ⟨h1, h2⟩ | ⟨h1, h2⟩
      · have d1 : decide ((b.toNat : Int) < 48) = false := by rw [decide_eq_false_iff_not]; omega
        have d2 : decide (57 < (b.toNat : Int)) = false := by rw [decide_eq_false_iff_not]; omega
        clear h1 h2
        go_wp2_with fail
        go_roundw
        case rel => exact ⟨k + 1, by omega, by go_num, HB⟩
        case measure => simp [intOf]; omega
      · have d1 : decide ((b.toNat : Int) < 48) = false := by rw [decide_eq_false_iff_not]; omega
        have d2 : decide (57 < (b.toNat : Int)) = true := by rw [decide_eq_true_iff]; omega
        have d3 : decide ((b.toNat : Int) < 97) = false := by rw [decide_eq_false_iff_not]; omega
        have d4 : decide (102 < (b.toNat : Int)) = false := by rw [decide_eq_false_iff_not]; omega
        clear h1 h2
        go_wp2_with fail
        go_roundw
        case rel => exact ⟨k + 1, by omega, by go_num, HB⟩
        case measure => simp [intOf]; omega
    · obtain rfl : k = 2 * s.size := by omega
      have hi : ¬ (((2 * s.size : Nat) : Int) < 2 * (s.size : Int)) := by omega
      clear hlt
      by_cases hst : s = t
      · have hAB := HEQ.out.2 hst
        have h1 : (A.toList == B.toList) = true := by rw [tol_eq, decide_eq_true_iff]; exact hAB
        have h2 : (s.toList == t.toList) = true := by rw [tol_eq, decide_eq_true_iff]; exact hst
        clear hst hAB
        go_wp2_with fail
        refine (CT.out _).mono ?_; rintro e w3 ⟨rfl, hb3⟩
        have HB3 : Hid (Below w.heap.size w w3) := Below.trans HB.out (hb3.mono HB.out.size)
        clear hb3
        go_wp2_with fail
        refine (CST.out _).mono ?_; rintro e w4 ⟨rfl, hb4⟩
        have HB4 : Hid (Below w.heap.size w w4) := Below.trans HB3.out (hb4.mono HB3.out.size)
        clear hb4
        go_wp2_with fail
        refine (CT.out _).mono ?_; rintro e w5 ⟨rfl, hb5⟩
        have HB5 : Hid (Below w.heap.size w w5) := Below.trans HB4.out (hb5.mono HB4.out.size)
        clear hb5
        go_wp2_with fail
        go_ret
        exact ⟨rfl, HB5.out⟩
      · have h1 : (A.toList == B.toList) = false := by rw [tol_eq, decide_eq_false_iff_not]; exact fun h => hst (HEQ.out.1 h)
        have h2 : (s.toList == t.toList) = false := by rw [tol_eq, decide_eq_false_iff_not]; exact hst
        clear hst
        go_wp2_with fail
        refine (CT.out _).mono ?_; rintro e w3 ⟨rfl, hb3⟩
        have HB3 : Hid (Below w.heap.size w w3) := Below.trans HB.out (hb3.mono HB.out.size)
        clear hb3
        go_wp2_with fail
        refine (CST.out _).mono ?_; rintro e w4 ⟨rfl, hb4⟩
        have HB4 : Hid (Below w.heap.size w w4) := Below.trans HB3.out (hb4.mono HB3.out.size)
        clear hb4
        go_wp2_with fail
        refine (CT.out _).mono ?_; rintro e w5 ⟨rfl, hb5⟩
        have HB5 : Hid (Below w.heap.size w w5) := Below.trans HB4.out (hb5.mono HB4.out.size)
        clear hb5
        go_wp2_with fail
        go_ret
        exact ⟨rfl, HB5.out⟩

set_option maxHeartbeats 1000000 in
set_option maxRecDepth 100000 in
theorem walkT (s t : ByteArray) (w : World) (hT : Tab w) (hs : s.size ≤ 1048576) (ht : t.size ≤ 1048576) :
    Calls Tryd.prog 6 #[.string s, .string t, .bool true] w fun e w' => e = .returned (.bool true) ∧ Below w.heap.size w w' := by
  have CE : Hid _ := examples_any
  have HT : Hid _ := hT
  have hz := hT.pos
  have CS : Hid _ := fun w => hex_any s w (by omega)
  have CT : Hid _ := fun w => hex_any s w (by omega)
  have CST0 := fun w => hex_any (s ++ s) w (by rw [ByteArray.size_append]; omega)
  simp only [hexS_append] at CST0
  have CST : Hid _ := CST0
  have hAs := hexS_size s
  have HAT : Hid _ := hexS_at s
  have HEQ : Hid _ := hexS_eq s s
  generalize S (Q.hex s.data.toList) = A at *
  clear hT CST0
  have hA1 : (((2 * s.size : Nat) : Int) != 2 * (s.size : Int)) = false := by rw [bne_eq_false_iff_eq]; omega
  have hA2 : ((2 * (s.size : Int)) != 2 * (s.size : Int)) = false := by rw [bne_eq_false_iff_eq]
  have hAi : (A.size : Int) = 2 * (s.size : Int) := by omega
  go_enter Tryd.func6, Tryd.ntmps6
  go_wp2_with fail
  refine (CE.out _ HT.out).mono ?_; rintro e w1 ⟨rfl, hb1⟩
  go_wp2_with fail
  refine (CS.out _).mono ?_; rintro e w2 ⟨rfl, hb2⟩
  have HB2 : Hid (Below w.heap.size w w2) := hb1.trans (hb2.mono hb1.size)
  clear hb1 hb2 CE CS HT
  go_wp2_with fail
  clear hA1 hA2
  go_loopw [9] (fun i wr => ∃ k : Nat, k ≤ 2 * s.size ∧ i = .int .i64 k ∧ Hid (Below w.heap.size w wr)) (fun i _ => 2 * s.size - (intOf i).toNat)
  case atStart => exact ⟨0, by omega, rfl, HB2⟩
  case round =>
    clear HB2
    obtain ⟨k, hk, rfl, HB⟩ := hrel
    by_cases hlt : k < 2 * s.size
    · have hi : (k : Int) < 2 * (s.size : Int) := by omega
      have hb := HAT.out k (by omega)
      obtain ⟨b, hbk⟩ : ∃ b, A[k]'(by omega) = b := ⟨_, rfl⟩
      rw [hbk] at hb
      rcases hb with ⟨h1, h2⟩ | ⟨h1, h2⟩
      · have d1 : decide ((b.toNat : Int) < 48) = false := by rw [decide_eq_false_iff_not]; omega
        have d2 : decide (57 < (b.toNat : Int)) = false := by rw [decide_eq_false_iff_not]; omega
        clear h1 h2
        go_wp2_with fail
        go_roundw
        case rel => exact ⟨k + 1, by omega, by go_num, HB⟩
        case measure => simp [intOf]; omega
      · have d1 : decide ((b.toNat : Int) < 48) = false := by rw [decide_eq_false_iff_not]; omega
        have d2 : decide (57 < (b.toNat : Int)) = true := by rw [decide_eq_true_iff]; omega
        have d3 : decide ((b.toNat : Int) < 97) = false := by rw [decide_eq_false_iff_not]; omega
        have d4 : decide (102 < (b.toNat : Int)) = false := by rw [decide_eq_false_iff_not]; omega
        clear h1 h2
        go_wp2_with fail
        go_roundw
        case rel => exact ⟨k + 1, by omega, by go_num, HB⟩
        case measure => simp [intOf]; omega
    · obtain rfl : k = 2 * s.size := by omega
      have hi : ¬ (((2 * s.size : Nat) : Int) < 2 * (s.size : Int)) := by omega
      clear hlt
      go_wp2_with fail
      refine (CT.out _).mono ?_; rintro e w3 ⟨rfl, hb3⟩
      have HB3 : Hid (Below w.heap.size w w3) := Below.trans HB.out (hb3.mono HB.out.size)
      clear hb3
      go_wp2_with fail
      refine (CST.out _).mono ?_; rintro e w4 ⟨rfl, hb4⟩
      have HB4 : Hid (Below w.heap.size w w4) := Below.trans HB3.out (hb4.mono HB3.out.size)
      clear hb4
      go_wp2_with fail
      refine (CT.out _).mono ?_; rintro e w5 ⟨rfl, hb5⟩
      have HB5 : Hid (Below w.heap.size w w5) := Below.trans HB4.out (hb5.mono HB4.out.size)
      clear hb5
      go_wp2_with fail
      go_ret
      exact ⟨rfl, HB5.out⟩

theorem walk (a0 : ByteArray) (a1 : ByteArray) (a2 : Bool) (z0 : a0.size ≤ 1048576) (z1 : a1.size ≤ 1048576) (w : World) (hT : Tab w) :
    Calls Tryd.prog 6 #[.string a0, .string a1, .bool a2] w fun e w' => e = .returned (.bool true) ∧ Below w.heap.size w w' := by
  cases a2
  · exact walkF a0 a1 w hT z0 z1
  · exact walkT a0 a1 w hT z0 z1

set_option maxRecDepth 100000 in
theorem lifted (os : Os) (started : os.Started) (H : Type) (enc : TypeId × Value → H) (F : Stop.Interp) :
    ReturnsInHanded {} Tryd.checked os 6 .any ((Rows.OpenSpec.upto Rows.shaHexSpec).preRow enc Tryd.prog Tryd.f6 Rows.shaHexUptoRow.domain false Rows.shaHexUptoRow.laid) (((Rows.OpenSpec.upto Rows.shaHexSpec).at F).post enc Tryd.prog Tryd.f6 false true false false) := by
  have hx : ∃ places, DataW.whole enc Tryd.prog ((laidWorld os).forCall (fun _ _ => 0) ⟨#[], #[.string ByteArray.empty, .string ByteArray.empty, .bool false], []⟩).memory Tryd.f6.params.toList Rows.shaHexSpec.vars false #[Value.string ByteArray.empty, Value.string ByteArray.empty, Value.bool false].toList 8 = some ([.lit (.string []), .lit (.string []), .lit (.bool false)], [], places) := ⟨[], by kernel_rfl⟩
  obtain ⟨places, hx⟩ := hx
  refine returnsInHanded_of_row (C := Tryd.checked) (s := Rows.OpenSpec.upto Rows.shaHexSpec) own started (by kernel_rfl) Tryd.func6
    (witness_row_at (enc := enc) (C := Tryd.checked) false (laidWorld os) #[.string ByteArray.empty, .string ByteArray.empty, .bool false] rfl (by kernel_rfl) (by kernel_rfl) (by kernel_rfl)
      (OpenSpec.preRow_of_cond 8 hx (by kernel_rfl) (fun k hk => by cases hk; kernel_rfl) (by kernel_rfl) (laidMet_of_run' 8 (by kernel_rfl) (by kernel_rfl)))) ?_
  intro W base args ds gs before hval0 hW hcnd hcond hsz0 hL _ _
  have hT : Tab W := tab_of hL
  have hval : ∀ (j : Nat) t v, Tryd.f6.params[j]? = some t → args[j]? = some v → Value.okWide Tryd.prog W .any base t v := hval0
  have hW' := hW
  obtain ⟨p, q, hA0, hV, rfl, hfz, hnd⟩ := hW
  have hA : DataW.TrodAll enc Tryd.prog W 0 (fun _ => true) true Tryd.f6.params.toList args.toList ds p := hA0
  have hsz : (DataW.weightsEach Tryd.prog (Tryd.f6.params.toList ++ Rows.shaHexSpec.plain.varTypes Tryd.prog) (ds ++ gs)).all (· ≤ reachBytes) = true := hsz0
  rw [Tryd.params6] at hA hval hsz
  obtain ⟨rfl, rfl⟩ := trodVars_none hV
  have hAk := hA
  have hlt : ∀ x ∈ p, x.block < W.heap.size := fun x hx => by simpa using hW'.lt x (List.mem_append.2 (.inl hx))
  obtain ⟨v0, vs0, d0, ds0, p0, q0, hargs, rfl, rfl, h0, r0⟩ := trodAll_cons hA
  obtain ⟨v1, vs1, d1, ds1, p1, q1, rfl, rfl, rfl, h1, r1⟩ := trodAll_cons r0
  obtain ⟨v2, vs2, d2, ds2, p2, q2, rfl, rfl, rfl, h2, r2⟩ := trodAll_cons r1
  obtain ⟨rfl, rfl, rfl⟩ := trodAll_nil r2
  obtain rfl : args = #[v0, v1, v2] := by cases args; simp_all
  obtain ⟨a0, rfl, rfl, rfl, w0⟩ := open_string Tryd.underlying9 (hval 0 9 v0 rfl rfl) h0
  have z0 := sized_string hsz (j := 0) (t := 9) rfl rfl
  obtain ⟨a1, rfl, rfl, rfl, w1⟩ := open_string Tryd.underlying9 (hval 1 9 v1 rfl rfl) h1
  have z1 := sized_string hsz (j := 1) (t := 9) rfl rfl
  obtain ⟨a2, rfl, rfl, rfl⟩ := open_bool Tryd.underlying4 (hval 2 4 v2 rfl rfl) h2
  have hbulk := of_decide_eq_true (hcond _ rfl)
  simp only [List.append_nil, List.cons_append, List.nil_append, Rows.uptoBulkAll, Rows.uptoBulk] at hbulk
  clear hA0 hval0 hsz0
  refine (walk a0 a1 a2 (by have h := hbulk; simp only [Array.length_toList] at h; show a0.data.size ≤ _; omega) (by have h := hbulk; simp only [Array.length_toList] at h; show a1.data.size ≤ _; omega) W hT).mono fun e W' ⟨he, hg⟩ => ?_
  subst he
  exact ⟨_, rfl, _, _, _, [], _, [], hW', (trodAll_cons_mk (shut_bool Tryd.underlying4 _) trodAll_mk0), trodAll_below laidOut hg _ _ _ _ (by kernel_rfl) hAk hlt, rfl, hg.frame _, fun h => by cases h⟩

theorem over : Rows.shaHexUptoRow.holds Tryd.pinned (Rows.OpenSpec.upto Rows.shaHexSpec) :=
  OpenClaim.holds_of_cond 6 Tryd.f6 rfl rfl rfl rfl rfl rfl rfl ⟨rfl, rfl, rfl, rfl, rfl⟩ rfl rfl rfl rfl rfl (by kernel_rfl) Tryd.func6 (by kernel_rfl)
    (of_decide_eq_true (by kernel_rfl)) (by unfold Func.isWrapper; first | (rw [if_pos (by decide +kernel)]; kernel_rfl) | (rw [if_neg (by decide +kernel)]; exact ⟨rfl, rfl⟩))
    (fun os started H enc _ F => by rw [OpenClaim.pre_eq_preRow]; exact lifted os started H enc F)

theorem plain (f : FuncId) (fn : Func) (hf : Tryd.pinned.checked.prog.funcNamed "tenement/tenementlaw03.ShaHex" = some f) (hfn : Tryd.pinned.checked.prog.funcs[f]? = some fn) :
    false = Tryd.pinned.checked.prog.looks [] ∧ ∀ (j : Nat) t, fn.params[j]? = some t → Tryd.pinned.checked.prog.wantsStandIn t = false := by
  obtain rfl : f = 6 := Option.some.inj ((show Tryd.prog.funcNamed "tenement/tenementlaw03.ShaHex" = some 6 by kernel_rfl).symm.trans hf) |>.symm
  obtain rfl : fn = Tryd.f6 := (Option.some.inj (Tryd.func6.symm.trans hfn)).symm
  refine ⟨by kernel_rfl, fun j t ht => ?_⟩
  rw [Tryd.params6] at ht
  have hm := Array.mem_of_getElem? ht
  simp only [List.mem_toArray, List.mem_cons, List.not_mem_nil, or_false] at hm
  rcases hm with rfl | rfl | rfl
  all_goals first | exact (show Tryd.prog.wantsStandIn 9 = false by kernel_rfl) | exact (show Tryd.prog.wantsStandIn 4 = false by kernel_rfl)

/-- the statement -/
theorem proved : Rows.ShaHexUptoCardSaid :=
  Claim7.holds_tied_plain_at .later [] _ _ _ _ over (fun _ h => by cases h) (by kernel_rfl) (fun _ h => by cases h) shaHexUpto_row_tie rfl ⟨rfl, rfl⟩ (by kernel_rfl) rfl plain (by kernel_rfl)
#print axioms proved
end Go.Proofs.YtkdcmobhaaihhaaDoor.shaHex
