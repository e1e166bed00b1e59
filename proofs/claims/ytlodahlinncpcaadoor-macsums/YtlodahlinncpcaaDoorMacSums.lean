/-
  For every key (cut to eight bytes and repeated up to nineteen times) and every text the keyed digest is the document's own answer's, and the same twice; two texts are equal just if they are the same (the law MacSums). No conditions.
-/
import Derived.Test.YtlodahlinncpcaaDoorFrameLaid
import Derived.Test.YtlodahlinncpcaaDoorMacEx
import Derived.Test.YtlodahlinncpcaaDoorMacTok
import Derived.Test.YtlodahlinncpcaaDoorMacRefSum
namespace Go.Proofs.YtlodahlinncpcaaDoor.macSums
open Go.ChangeShapes Go.WideShapes Go.ChangeAt Go.RowKit
open Go.Proofs.YtlodahlinncpcaaDoor.Mc
open Go.ChangeMaps (open_string shut_string)
set_option linter.unusedVariables false
set_option linter.unusedSimpArgs false

/-- the key, n times -/
def times (k : ByteArray) : Nat → ByteArray
  | 0 => ⟨#[]⟩
  | n + 1 => times k n ++ k
theorem times_size (k : ByteArray) (n : Nat) : (times k n).size = n * k.size := by
  induction n with
  | zero => rw [Nat.zero_mul]; rfl
  | succ n ih => rw [times, ByteArray.size_append, ih, Nat.succ_mul]
theorem self_eq (a : ByteArray) : (a.toList == a.toList) = true := beq_self_eq_true _
set_option maxHeartbeats 4000000 in
set_option maxRecDepth 100000 in
theorem walkN (k : ByteArray) (b : Nat) (tx a c c' : ByteArray) (same : Bool) (w : World) (hT : Tab w) (hk : k.size ≤ 140737488351232) (hb : b < 256) (ht : tx.size ≤ 140737488351232) (ha : a.size ≤ 140737488351232) (hc : c.size ≤ 140737488351232)
    (hsame : c' = if same then a else c) :
    Calls Tryd.prog 5 #[.string k, .int .u8 (b : Int), .string tx, .string a, .string c, .bool same] w fun e w' => e = .returned (.bool true) ∧ Below w.heap.size w w' := by
  have CE : Hid _ := mexamples_any
  have HT : Hid _ := hT
  have hz := hT.pos
  obtain ⟨N, hN⟩ : ∃ N, N = b % 20 := ⟨_, rfl⟩
  have e1 : (b : Int).tmod 20 = (N : Int) := by rw [Int.tmod_eq_emod_of_nonneg (by omega)]; omega
  have n20 : N < 20 := by omega
  have v1 : IntKind.u8.wrap (N : Int) = (N : Int) := by rw [IntKind.wrap_u8']; omega
  have v2 : IntKind.i64.wrap (N : Int) = N := IntWalk.i64_in _ ⟨by omega, by omega⟩
  obtain ⟨m, hm⟩ : ∃ m, m = Nat.min k.size 8 := ⟨_, rfl⟩
  have hm1 : m ≤ k.size := by rw [hm]; exact Nat.min_le_left _ _
  have hm8 : m ≤ 8 := by rw [hm]; exact Nat.min_le_right _ _
  have hmi : (m : Int) ≤ (k.size : Int) := by omega
  have hmin : (if (8 : Int) < (k.size : Int) then (8 : Int) else (k.size : Int)) = (m : Int) := by
    rw [hm]; split
    · rw [show Nat.min k.size 8 = 8 from Nat.min_eq_right (by omega)]; rfl
    · rw [show Nat.min k.size 8 = k.size from Nat.min_eq_left (by omega)]
  have vm : IntKind.i64.wrap (m : Int) = m := IntWalk.i64_in _ ⟨by omega, by omega⟩
  obtain ⟨K, HK⟩ : ∃ K, Hid (K = k.extract 0 m) := ⟨_, rfl⟩
  have hKs : K.size ≤ 8 := by rw [HK.out, ByteArray.size_extract]; omega
  have HL : Hid (∀ j, j ≤ N → (times K j).size ≤ 160) := fun j hj => by
    rw [times_size]
    calc j * K.size ≤ 20 * 8 := Nat.mul_le_mul (by omega) hKs
      _ = 160 := rfl
  have hKe : k.extract 0 m = K := HK.out.symm
  clear hT hm
  go_enter Tryd.func5, Tryd.ntmps5
  go_wp2_with fail
  refine (CE.out _ HT.out).mono ?_; rintro e w1 ⟨rfl, hb1⟩
  have HB1 : Hid (Below w.heap.size w w1) := hb1
  clear hb1 CE
  go_wp2_with fail
  go_loop [15, 14] (fun i s => ∃ j : Nat, j ≤ N ∧ i = .int .i64 j ∧ s = .string (times K j)) (fun i _ => N - (intOf i).toNat)
  case atStart => exact ⟨0, by omega, rfl, rfl⟩
  case round =>
    obtain ⟨j, hj, rfl, rfl⟩ := hrel
    by_cases hlt : j < N
    · have hi : (j : Int) < (N : Int) := by omega
      have hs := HL.out j hj
      have HS : Hid (times K (j + 1) = times K j ++ K) := rfl
      generalize times K j = s at *
      go_wp2_with fail
      go_round
      case rel => exact ⟨j + 1, by omega, by go_num, by rw [HS.out]⟩
      case measure => simp [intOf]; omega
    · obtain rfl : j = N := by omega
      have hi : ¬ (j : Int) < (j : Int) := by omega
      have hs := HL.out j hj
      generalize times K j = L at *
      have CS : Hid _ := fun w h => msum_any L tx w (by omega) (by omega) h
      have CR : Hid _ := fun w => ref_msum L tx w (by omega) (by omega)
      have hsz : (S (M.hmac L.data.toList tx.data.toList)).size = 32 := by rw [S_size, M.hmac_length]
      generalize S (M.hmac L.data.toList tx.data.toList) = D at *
      have CD : Hid _ := fun w => equal_any D D w (by omega) (by omega)
      have hdd : decide (D = D) = true := by simp
      rw [hdd] at CD
      clear hdd HL hlt hKe hmin e1 v1 v2 vm hm1 hm8 hmi HK hKs
      cases same with
      | true =>
        have hq : decide (a = a) = true := by simp
        have h2 : (a.toList == a.toList) = true := self_eq a
        have CQ : Hid _ := fun w => equal_any a a w (by omega) (by omega)
        rw [hq] at CQ
        go_wp2_with fail
        have HT1 : Hid (Tab w1) := Tab.below HT.out HB1.out hz
        refine (CS.out _ HT1.out).mono ?_; rintro e w2 ⟨rfl, hb2⟩
        have HB2 : Hid (Below w.heap.size w w2) := Below.trans HB1.out (hb2.mono HB1.out.size)
        clear hb2
        go_wp2_with fail
        refine (CR.out _).mono ?_; rintro e w3 ⟨rfl, hb3⟩
        have HB3 : Hid (Below w.heap.size w w3) := Below.trans HB2.out (hb3.mono HB2.out.size)
        clear hb3
        go_wp2_with fail
        refine (CQ.out _).mono ?_; rintro e w4 ⟨rfl, hb4⟩
        have HB4 : Hid (Below w.heap.size w w4) := Below.trans HB3.out (hb4.mono HB3.out.size)
        have HT4 : Hid (Tab w4) := Tab.below HT.out HB4.out hz
        clear hb4
        go_wp2_with fail
        refine (CS.out _ HT4.out).mono ?_; rintro e w5 ⟨rfl, hb5⟩
        have HB5 : Hid (Below w.heap.size w w5) := Below.trans HB4.out (hb5.mono HB4.out.size)
        clear hb5
        go_wp2_with fail
        refine (CD.out _).mono ?_; rintro e w6 ⟨rfl, hb6⟩
        have HB6 : Hid (Below w.heap.size w w6) := Below.trans HB5.out (hb6.mono HB5.out.size)
        clear hb6
        go_wp2_with fail
        go_ret
        exact ⟨by simp, HB6.out⟩
      | false =>
        by_cases hac : a = c
        · have hq : decide (a = c) = true := by simpa using hac
          have h2 : (a.toList == c.toList) = true := by rw [tol_eq]; exact hq
          clear hac hsame
          have CQ : Hid _ := fun w => equal_any a c w (by omega) (by omega)
          rw [hq] at CQ
          go_wp2_with fail
          have HT1 : Hid (Tab w1) := Tab.below HT.out HB1.out hz
          refine (CS.out _ HT1.out).mono ?_; rintro e w2 ⟨rfl, hb2⟩
          have HB2 : Hid (Below w.heap.size w w2) := Below.trans HB1.out (hb2.mono HB1.out.size)
          clear hb2
          go_wp2_with fail
          refine (CR.out _).mono ?_; rintro e w3 ⟨rfl, hb3⟩
          have HB3 : Hid (Below w.heap.size w w3) := Below.trans HB2.out (hb3.mono HB2.out.size)
          clear hb3
          go_wp2_with fail
          refine (CQ.out _).mono ?_; rintro e w4 ⟨rfl, hb4⟩
          have HB4 : Hid (Below w.heap.size w w4) := Below.trans HB3.out (hb4.mono HB3.out.size)
          have HT4 : Hid (Tab w4) := Tab.below HT.out HB4.out hz
          clear hb4
          go_wp2_with fail
          refine (CS.out _ HT4.out).mono ?_; rintro e w5 ⟨rfl, hb5⟩
          have HB5 : Hid (Below w.heap.size w w5) := Below.trans HB4.out (hb5.mono HB4.out.size)
          clear hb5
          go_wp2_with fail
          refine (CD.out _).mono ?_; rintro e w6 ⟨rfl, hb6⟩
          have HB6 : Hid (Below w.heap.size w w6) := Below.trans HB5.out (hb6.mono HB5.out.size)
          clear hb6
          go_wp2_with fail
          go_ret
          exact ⟨by simp, HB6.out⟩
        · have hq : decide (a = c) = false := by simpa using hac
          have h2 : (a.toList == c.toList) = false := by rw [tol_eq]; exact hq
          clear hac hsame
          have CQ : Hid _ := fun w => equal_any a c w (by omega) (by omega)
          rw [hq] at CQ
          go_wp2_with fail
          have HT1 : Hid (Tab w1) := Tab.below HT.out HB1.out hz
          refine (CS.out _ HT1.out).mono ?_; rintro e w2 ⟨rfl, hb2⟩
          have HB2 : Hid (Below w.heap.size w w2) := Below.trans HB1.out (hb2.mono HB1.out.size)
          clear hb2
          go_wp2_with fail
          refine (CR.out _).mono ?_; rintro e w3 ⟨rfl, hb3⟩
          have HB3 : Hid (Below w.heap.size w w3) := Below.trans HB2.out (hb3.mono HB2.out.size)
          clear hb3
          go_wp2_with fail
          refine (CQ.out _).mono ?_; rintro e w4 ⟨rfl, hb4⟩
          have HB4 : Hid (Below w.heap.size w w4) := Below.trans HB3.out (hb4.mono HB3.out.size)
          have HT4 : Hid (Tab w4) := Tab.below HT.out HB4.out hz
          clear hb4
          go_wp2_with fail
          refine (CS.out _ HT4.out).mono ?_; rintro e w5 ⟨rfl, hb5⟩
          have HB5 : Hid (Below w.heap.size w w5) := Below.trans HB4.out (hb5.mono HB4.out.size)
          clear hb5
          go_wp2_with fail
          refine (CD.out _).mono ?_; rintro e w6 ⟨rfl, hb6⟩
          have HB6 : Hid (Below w.heap.size w w6) := Below.trans HB5.out (hb6.mono HB5.out.size)
          clear hb6
          go_wp2_with fail
          go_ret
          exact ⟨by simp, HB6.out⟩
theorem walk (a0 : ByteArray) (a1 : Int) (a2 : ByteArray) (a3 : ByteArray) (a4 : ByteArray) (a5 : Bool) (z0 : a0.size ≤ 140737488351232) (w1 : (Lit.int .u8 a1).wf = true) (z2 : a2.size ≤ 140737488351232) (z3 : a3.size ≤ 140737488351232) (z4 : a4.size ≤ 140737488351232) (w : World) (hT : Tab w) :
    Calls Tryd.prog 5 #[.string a0, .int .u8 a1, .string a2, .string a3, .string a4, .bool a5] w fun e w' => e = .returned (.bool true) ∧ Below w.heap.size w w' := by
  have h1 : 0 ≤ a1 ∧ a1 ≤ 255 := by simpa [Lit.wf, IntKind.min, IntKind.max, IntKind.signed, IntKind.bits] using w1
  obtain ⟨b, rfl⟩ : ∃ b : Nat, a1 = (b : Int) := ⟨a1.toNat, by omega⟩
  exact walkN a0 b a2 a3 a4 _ a5 w hT z0 (by omega) z2 z3 z4 rfl


set_option maxRecDepth 100000 in
theorem lifted (os : Os) (started : os.Started) (H : Type) (enc : TypeId × Value → H) (F : Stop.Interp) :
    ReturnsInHanded {} Tryd.checked os 5 .any ((OpenSpec.ofChange Rows.macSumsSpec).preRow enc Tryd.prog Tryd.f5 Rows.macSumsRow.domain false Rows.macSumsRow.laid) (((OpenSpec.ofChange Rows.macSumsSpec).at F).post enc Tryd.prog Tryd.f5 false true false false) := by
  have hx : ∃ places, DataW.whole enc Tryd.prog ((laidWorld os).forCall (fun _ _ => 0) ⟨#[], #[.string ByteArray.empty, .int .u8 0, .string ByteArray.empty, .string ByteArray.empty, .string ByteArray.empty, .bool false], []⟩).memory Tryd.f5.params.toList Rows.macSumsSpec.vars false #[Value.string ByteArray.empty, Value.int .u8 0, Value.string ByteArray.empty, Value.string ByteArray.empty, Value.string ByteArray.empty, Value.bool false].toList 8 = some ([.lit (.string []), .lit (.int .u8 0), .lit (.string []), .lit (.string []), .lit (.string []), .lit (.bool false)], [], places) := ⟨[], by kernel_rfl⟩
  obtain ⟨places, hx⟩ := hx
  refine returnsInHanded_of_row (C := Tryd.checked) (s := OpenSpec.ofChange Rows.macSumsSpec) own started (by kernel_rfl) Tryd.func5
    (witness_row_at (enc := enc) (C := Tryd.checked) false (laidWorld os) #[.string ByteArray.empty, .int .u8 0, .string ByteArray.empty, .string ByteArray.empty, .string ByteArray.empty, .bool false] rfl (by kernel_rfl) (by kernel_rfl) (by kernel_rfl)
      (OpenSpec.preRow_of_cond 8 hx (by kernel_rfl) (fun k hk => by cases hk) (by kernel_rfl) (laidMet_of_run' 8 (by kernel_rfl) (by kernel_rfl)))) ?_
  intro W base args ds gs before hval0 hW hcnd hcond hsz0 hL _ _
  have hT : Tab W := tab_of hL
  have hval : ∀ (j : Nat) t v, Tryd.f5.params[j]? = some t → args[j]? = some v → Value.okWide Tryd.prog W .any base t v := hval0
  have hW' := hW
  obtain ⟨p, q, hA0, hV, rfl, hfz, hnd⟩ := hW
  have hA : DataW.TrodAll enc Tryd.prog W 0 (fun _ => true) true Tryd.f5.params.toList args.toList ds p := hA0
  have hsz : (DataW.weightsEach Tryd.prog (Tryd.f5.params.toList ++ Rows.macSumsSpec.plain.varTypes Tryd.prog) (ds ++ gs)).all (· ≤ reachBytes) = true := hsz0
  rw [Tryd.params5] at hA hval hsz
  obtain ⟨rfl, rfl⟩ := trodVars_none hV
  have hAk := hA
  have hlt : ∀ x ∈ p, x.block < W.heap.size := fun x hx => by simpa using hW'.lt x (List.mem_append.2 (.inl hx))
  obtain ⟨v0, vs0, d0, ds0, p0, q0, hargs, rfl, rfl, h0, r0⟩ := trodAll_cons hA
  obtain ⟨v1, vs1, d1, ds1, p1, q1, rfl, rfl, rfl, h1, r1⟩ := trodAll_cons r0
  obtain ⟨v2, vs2, d2, ds2, p2, q2, rfl, rfl, rfl, h2, r2⟩ := trodAll_cons r1
  obtain ⟨v3, vs3, d3, ds3, p3, q3, rfl, rfl, rfl, h3, r3⟩ := trodAll_cons r2
  obtain ⟨v4, vs4, d4, ds4, p4, q4, rfl, rfl, rfl, h4, r4⟩ := trodAll_cons r3
  obtain ⟨v5, vs5, d5, ds5, p5, q5, rfl, rfl, rfl, h5, r5⟩ := trodAll_cons r4
  obtain ⟨rfl, rfl, rfl⟩ := trodAll_nil r5
  obtain rfl : args = #[v0, v1, v2, v3, v4, v5] := by cases args; simp_all
  obtain ⟨a0, rfl, rfl, rfl, w0⟩ := open_string Tryd.underlying9 (hval 0 9 v0 rfl rfl) h0
  have z0 := sized_string hsz (j := 0) (t := 9) rfl rfl
  obtain ⟨a1, rfl, rfl, rfl, w1⟩ := open_int Tryd.underlying5 (hval 1 5 v1 rfl rfl) h1
  obtain ⟨a2, rfl, rfl, rfl, w2⟩ := open_string Tryd.underlying9 (hval 2 9 v2 rfl rfl) h2
  have z2 := sized_string hsz (j := 2) (t := 9) rfl rfl
  obtain ⟨a3, rfl, rfl, rfl, w3⟩ := open_string Tryd.underlying9 (hval 3 9 v3 rfl rfl) h3
  have z3 := sized_string hsz (j := 3) (t := 9) rfl rfl
  obtain ⟨a4, rfl, rfl, rfl, w4⟩ := open_string Tryd.underlying9 (hval 4 9 v4 rfl rfl) h4
  have z4 := sized_string hsz (j := 4) (t := 9) rfl rfl
  obtain ⟨a5, rfl, rfl, rfl⟩ := open_bool Tryd.underlying4 (hval 5 4 v5 rfl rfl) h5
  clear hA0 hval0 hsz0
  refine (walk a0 a1 a2 a3 a4 a5 (by rw [Array.length_toList] at z0; exact z0) w1 (by rw [Array.length_toList] at z2; exact z2) (by rw [Array.length_toList] at z3; exact z3) (by rw [Array.length_toList] at z4; exact z4) W hT).mono fun e W' ⟨he, hg⟩ => ?_
  subst he
  exact ⟨_, rfl, _, _, _, [], _, [], hW', (trodAll_cons_mk (shut_bool Tryd.underlying4 _) trodAll_mk0), trodAll_below laidOut hg _ _ _ _ (by kernel_rfl) hAk hlt, rfl, hg.frame _, fun h => by cases h⟩

theorem over : Rows.macSumsRow.holds Tryd.pinned (OpenSpec.ofChange Rows.macSumsSpec) :=
  OpenClaim.holds_of_cond 5 Tryd.f5 rfl rfl rfl rfl rfl rfl rfl ⟨rfl, rfl, rfl, rfl, rfl⟩ rfl rfl rfl rfl rfl (by kernel_rfl) Tryd.func5 (by kernel_rfl)
    (of_decide_eq_true (by kernel_rfl)) (by unfold Func.isWrapper; first | (rw [if_pos (by decide +kernel)]; kernel_rfl) | (rw [if_neg (by decide +kernel)]; exact ⟨rfl, rfl⟩))
    (fun os started H enc _ F => by rw [OpenClaim.pre_eq_preRow]; exact lifted os started H enc F)

set_option maxRecDepth 100000 in
theorem plain (f : FuncId) (fn : Func) (hf : Tryd.pinned.checked.prog.funcNamed "tenement/tenementlaw04.MacSums" = some f) (hfn : Tryd.pinned.checked.prog.funcs[f]? = some fn) :
    false = Tryd.pinned.checked.prog.looks [] ∧ ∀ (j : Nat) t, fn.params[j]? = some t → Tryd.pinned.checked.prog.wantsStandIn t = false := by
  obtain rfl : f = 5 := Option.some.inj ((show Tryd.prog.funcNamed "tenement/tenementlaw04.MacSums" = some 5 by kernel_rfl).symm.trans hf) |>.symm
  obtain rfl : fn = Tryd.f5 := (Option.some.inj (Tryd.func5.symm.trans hfn)).symm
  refine ⟨by kernel_rfl, fun j t ht => ?_⟩
  rw [Tryd.params5] at ht
  have hm := Array.mem_of_getElem? ht
  simp only [List.mem_toArray, List.mem_cons, List.not_mem_nil, or_false] at hm
  rcases hm with rfl | rfl | rfl | rfl | rfl | rfl
  all_goals first | exact (show Tryd.prog.wantsStandIn 9 = false by kernel_rfl) | exact (show Tryd.prog.wantsStandIn 5 = false by kernel_rfl) | exact (show Tryd.prog.wantsStandIn 4 = false by kernel_rfl)

/-- the statement -/
theorem proved : Rows.MacSumsCardSaid :=
  Claim7.holds_tied_plain_at .later [] _ _ _ _ over (fun _ h => by cases h) (by kernel_rfl) (fun _ h => by cases h) macSums_row_tie rfl ⟨rfl, rfl⟩ (by kernel_rfl) rfl plain (by kernel_rfl)
#print axioms proved
end Go.Proofs.YtlodahlinncpcaaDoor.macSums
