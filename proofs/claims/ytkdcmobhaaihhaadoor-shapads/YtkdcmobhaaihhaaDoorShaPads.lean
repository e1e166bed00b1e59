/-
  For every number of bytes: padding begins with 128, ends with how many bits there were, and comes to whole blocks, of at least nine bytes (the law ShaPads). No conditions.
-/
import Derived.Test.YtkdcmobhaaihhaaDoorFrameLaid
import Derived.Test.YtkdcmobhaaihhaaDoorShaEx
namespace Go.Proofs.YtkdcmobhaaihhaaDoor.shaPads
open Go.ChangeShapes Go.WideShapes Go.ChangeAt Go.RowKit
open Go.ChangeMaps (open_string shut_string)
set_option linter.unusedVariables false
set_option linter.unusedSimpArgs false

theorem u64_of (a : Int) (h : (Lit.int .u64 a).wf = true) : ∃ x : Nat, a = (x : Int) ∧ x < 18446744073709551616 := by
  have hx : 0 ≤ a ∧ a ≤ 18446744073709551615 := by simpa [Lit.wf, IntKind.min, IntKind.max, IntKind.signed, IntKind.bits] using h
  exact ⟨a.toNat, by omega, by omega⟩
theorem pad_head (n : Nat) : (Q.pad n)[0]? = some 128 := rfl
theorem pad_zero (n i : Nat) (h1 : 1 ≤ i) (h2 : i ≤ Q.zeros n) : (Q.pad n)[i]? = some 0 := by
  obtain ⟨j, rfl⟩ : ∃ j, i = j + 1 := ⟨i - 1, by omega⟩
  rw [Q.pad, List.getElem?_cons_succ, List.getElem?_append_left (by rw [List.length_replicate]; omega), List.getElem?_replicate, if_pos (by omega)]
theorem pad_tail (n j : Nat) (h : j < 8) : (Q.pad n)[Q.zeros n + 1 + j]? = some (UInt8.ofNat (8 * n % 18446744073709551616 / 256 ^ (7 - j))) := by
  rw [Q.pad, show Q.zeros n + 1 + j = (Q.zeros n + j) + 1 by omega, List.getElem?_cons_succ, List.getElem?_append_right (by rw [List.length_replicate]; omega), List.length_replicate, show Q.zeros n + j - Q.zeros n = j by omega, numB_at _ 8 j h]
theorem S_at (l : List UInt8) (i : Nat) (h : i < (S l).size) (b : UInt8) (hb : l[i]? = some b) : (S l)[i] = b := by
  show (S l).data[i] = b
  have : l.toArray[i]? = some b := by simpa using hb
  exact Option.some.inj ((Array.getElem?_eq_getElem (xs := l.toArray) (by simpa [S, ByteArray.size] using h)).symm.trans this)
/-- the next byte behind those that were read -/
theorem bits_next (c j : Nat) (hc : c < 18446744073709551616) (h : j < 8) :
    bits .or .u64 (IntKind.u64.wrap (((c / 256 ^ (8 - j) : Nat) : Int) * 256)) (IntKind.u64.wrap ((UInt8.ofNat (c / 256 ^ (7 - j))).toNat : Int)) = ((c / 256 ^ (8 - (j + 1)) : Nat) : Int) := by
  have e1 : c / 256 ^ (8 - j) = c / 256 ^ (7 - j) / 256 := by
    rw [show 8 - j = (7 - j) + 1 by omega, Nat.pow_succ, Nat.div_div_eq_div_mul]
  have e2 : c / 256 ^ (7 - j) ≤ c := Nat.div_le_self _ _
  rw [e1, UInt8.toNat_ofNat', show 8 - (j + 1) = 7 - j by omega]
  generalize c / 256 ^ (7 - j) = d at *
  rw [IntKind.wrap_u64, IntKind.wrap_u64, show ((d / 256 : Nat) : Int) * 256 % 18446744073709551616 = ((d / 256 * 256 : Nat) : Int) by omega, show ((d % 2 ^ 8 : Nat) : Int) % 18446744073709551616 = ((d % 256 : Nat) : Int) by omega, u64_or_nat _ _ (by omega) (by omega), nat_join 8 _ _ (by omega) (by omega)]
  congr 1
  omega

set_option maxHeartbeats 1000000 in
set_option maxRecDepth 100000 in
theorem walk (a0 : Int) (w0 : (Lit.int .u64 a0).wf = true) (w : World) (hT : Tab w) :
    Calls Tryd.prog 8 #[.int .u64 a0] w fun e w' => e = .returned (.bool true) ∧ Below w.heap.size w w' := by
  obtain ⟨n, rfl, hn⟩ := u64_of a0 w0
  have CE : Hid _ := examples_any
  have HT : Hid _ := hT
  have CP : Hid _ := fun w => pad_any n w (by omega)
  have hz := hT.pos
  obtain ⟨z, hzd⟩ : ∃ z, z = Q.zeros n := ⟨_, rfl⟩
  have hz64 : z < 64 := by rw [hzd]; exact Nat.mod_lt _ (by omega)
  have hsz : (S (Q.pad n)).size = z + 9 := by rw [S_size, Q.pad_length, hzd]
  have hm : ((n : Int) % 64 + ((z : Int) + 9)) % 64 = 0 := by rw [hzd, Q.zeros]; omega
  have h0 : Hid (∀ h : 0 < (S (Q.pad n)).size, (S (Q.pad n))[0] = 128) := fun h => S_at _ 0 h _ (pad_head n)
  have hZ : Hid (∀ i (h : i < (S (Q.pad n)).size), 1 ≤ i → i ≤ z → (S (Q.pad n))[i] = 0) := fun i h h1 h2 => S_at _ i h _ (pad_zero n i h1 (by omega))
  have hT8 : Hid (∀ j (h : z + 1 + j < (S (Q.pad n)).size), j < 8 → (S (Q.pad n))[z + 1 + j] = UInt8.ofNat (8 * n % 18446744073709551616 / 256 ^ (7 - j))) := fun j h hj => S_at _ _ h _ (by rw [hzd]; exact pad_tail n j hj)
  generalize S (Q.pad n) = pp at *
  clear hzd hT
  go_enter Tryd.func8, Tryd.ntmps8
  go_wp2_with fail
  refine (CE.out _ HT.out).mono ?_; rintro e w1 ⟨rfl, hb1⟩
  go_wp2_with fail
  refine (CP.out _).mono ?_; rintro e w2 ⟨rfl, hb2⟩
  have HB2 : Hid (Below w.heap.size w w2) := hb1.trans (hb2.mono hb1.size)
  have hp0 : pp[0]'(by omega) = 128 := h0.out _
  have hsi : (pp.size : Int) = z + 9 := by omega
  have d1 : decide ((z : Int) + 9 < 9) = false := by rw [decide_eq_false_iff_not]; omega
  have d2 : decide (72 < (z : Int) + 9) = false := by simp; omega
  have d3 : (((n : Int) + ((z : Int) + 9)) % 64 != 0) = false := by simp; omega
  obtain ⟨c, hc⟩ : ∃ c, c = 8 * n % 18446744073709551616 := ⟨_, rfl⟩
  have hc64 : c < 18446744073709551616 := by rw [hc]; exact Nat.mod_lt _ (by omega)
  rw [← hc] at hT8
  have e8 : IntKind.u64.wrap ((n : Int) * 8) = (c : Int) := by rw [IntKind.wrap_u64, hc]; omega
  have HM : Hid _ := hm
  clear hb1 hb2 hc hm CP CE
  go_wp2_with fail
  rw [HM.out]
  clear d1 d2 d3 hp0
  go_loopw [6, 5] (fun i b wr => ∃ j : Nat, j ≤ 8 ∧ i = .int .i64 (z + 1 + j : Nat) ∧ b = .int .u64 (c / 256 ^ (8 - j) : Nat) ∧ Hid (Below w.heap.size w wr)) (fun i _ _ => z + 9 - (intOf i).toNat)
  case atStart => exact ⟨0, by omega, by go_num, by rw [Nat.div_eq_of_lt (by simpa using hc64)]; rfl, HB2⟩
  case round =>
    clear HB2
    obtain ⟨j, hj, rfl, rfl, HB⟩ := hrel
    by_cases hlt : j < 8
    · have HBT : Hid _ := bits_next c j hc64 hlt
      have hb : pp[z + 1 + j]'(by omega) = _ := hT8.out j (by omega) hlt
      generalize c / 256 ^ (8 - j) = b0 at *
      generalize UInt8.ofNat (c / 256 ^ (7 - j)) = by0 at *
      go_wp2_with fail
      go_roundw
      case rel => exact ⟨j + 1, by omega, by go_num, by rw [HBT.out], HB⟩
      case measure => simp [intOf]; omega
    · obtain rfl : j = 8 := by omega
      clear hlt hj
      go_wp2_with fail
      go_loopw [7] (fun i wr => ∃ k : Nat, 1 ≤ k ∧ k ≤ z + 1 ∧ i = .int .i64 k ∧ Hid (Below w.heap.size w wr)) (fun i _ => z + 1 - (intOf i).toNat)
      case atStart => exact ⟨1, by omega, by omega, rfl, HB⟩
      case round =>
        clear HB
        obtain ⟨k, hk1, hk2, rfl, HB⟩ := hrel
        by_cases hlt : k ≤ z
        · have hb : pp[k]'(by omega) = 0 := hZ.out k (by omega) hk1 hlt
          have i1 : (k : Int) < z + 9 := by omega
          have i2 : (k : Int) < z + 1 := by omega
          go_wp2_with fail
          go_roundw
          case rel => exact ⟨k + 1, by omega, by omega, by go_num, HB⟩
          case measure => simp [intOf]; omega
        · obtain rfl : k = z + 1 := by omega
          go_wp2_with fail
          go_ret
          exact ⟨by simp, HB.out⟩

set_option maxRecDepth 100000 in
theorem lifted (os : Os) (started : os.Started) (H : Type) (enc : TypeId × Value → H) (F : Stop.Interp) :
    ReturnsInHanded {} Tryd.checked os 8 .any ((OpenSpec.ofChange Rows.shaPadsSpec).preRow enc Tryd.prog Tryd.f8 Rows.shaPadsRow.domain false Rows.shaPadsRow.laid) (((OpenSpec.ofChange Rows.shaPadsSpec).at F).post enc Tryd.prog Tryd.f8 false true false false) := by
  have hx : ∃ places, DataW.whole enc Tryd.prog ((laidWorld os).forCall (fun _ _ => 0) ⟨#[], #[.int .u64 0], []⟩).memory Tryd.f8.params.toList Rows.shaPadsSpec.vars false #[Value.int .u64 0].toList 8 = some ([.lit (.int .u64 0)], [], places) := ⟨[], by kernel_rfl⟩
  obtain ⟨places, hx⟩ := hx
  refine returnsInHanded_of_row (C := Tryd.checked) (s := OpenSpec.ofChange Rows.shaPadsSpec) own started (by kernel_rfl) Tryd.func8
    (witness_row_at (enc := enc) (C := Tryd.checked) false (laidWorld os) #[.int .u64 0] rfl (by kernel_rfl) (by kernel_rfl) (by kernel_rfl)
      (OpenSpec.preRow_of_cond 8 hx (by kernel_rfl) (fun k hk => by cases hk) (by kernel_rfl) (laidMet_of_run' 8 (by kernel_rfl) (by kernel_rfl)))) ?_
  intro W base args ds gs before hval0 hW hcnd hcond hsz0 hL _ _
  have hT : Tab W := tab_of hL
  have hval : ∀ (j : Nat) t v, Tryd.f8.params[j]? = some t → args[j]? = some v → Value.okWide Tryd.prog W .any base t v := hval0
  have hW' := hW
  obtain ⟨p, q, hA0, hV, rfl, hfz, hnd⟩ := hW
  have hA : DataW.TrodAll enc Tryd.prog W 0 (fun _ => true) true Tryd.f8.params.toList args.toList ds p := hA0
  have hsz : (DataW.weightsEach Tryd.prog (Tryd.f8.params.toList ++ Rows.shaPadsSpec.plain.varTypes Tryd.prog) (ds ++ gs)).all (· ≤ reachBytes) = true := hsz0
  rw [Tryd.params8] at hA hval hsz
  obtain ⟨rfl, rfl⟩ := trodVars_none hV
  have hAk := hA
  have hlt : ∀ x ∈ p, x.block < W.heap.size := fun x hx => by simpa using hW'.lt x (List.mem_append.2 (.inl hx))
  obtain ⟨v0, vs0, d0, ds0, p0, q0, hargs, rfl, rfl, h0, r0⟩ := trodAll_cons hA
  obtain ⟨rfl, rfl, rfl⟩ := trodAll_nil r0
  obtain rfl : args = #[v0] := by cases args; simp_all
  obtain ⟨a0, rfl, rfl, rfl, w0⟩ := open_int Tryd.underlying27 (hval 0 27 v0 rfl rfl) h0
  clear hA0 hval0 hsz0
  refine (walk a0 w0 W hT).mono fun e W' ⟨he, hg⟩ => ?_
  subst he
  exact ⟨_, rfl, _, _, _, [], _, [], hW', (trodAll_cons_mk (shut_bool Tryd.underlying4 _) trodAll_mk0), trodAll_below laidOut hg _ _ _ _ (by kernel_rfl) hAk hlt, rfl, hg.frame _, fun h => by cases h⟩

theorem over : Rows.shaPadsRow.holds Tryd.pinned (OpenSpec.ofChange Rows.shaPadsSpec) :=
  OpenClaim.holds_of_cond 8 Tryd.f8 rfl rfl rfl rfl rfl rfl rfl ⟨rfl, rfl, rfl, rfl, rfl⟩ rfl rfl rfl rfl rfl (by kernel_rfl) Tryd.func8 (by kernel_rfl)
    (of_decide_eq_true (by kernel_rfl)) (by unfold Func.isWrapper; first | (rw [if_pos (by decide +kernel)]; kernel_rfl) | (rw [if_neg (by decide +kernel)]; exact ⟨rfl, rfl⟩))
    (fun os started H enc _ F => by rw [OpenClaim.pre_eq_preRow]; exact lifted os started H enc F)

theorem plain (f : FuncId) (fn : Func) (hf : Tryd.pinned.checked.prog.funcNamed "tenement/tenementlaw03.ShaPads" = some f) (hfn : Tryd.pinned.checked.prog.funcs[f]? = some fn) :
    false = Tryd.pinned.checked.prog.looks [] ∧ ∀ (j : Nat) t, fn.params[j]? = some t → Tryd.pinned.checked.prog.wantsStandIn t = false := by
  obtain rfl : f = 8 := Option.some.inj ((show Tryd.prog.funcNamed "tenement/tenementlaw03.ShaPads" = some 8 by kernel_rfl).symm.trans hf) |>.symm
  obtain rfl : fn = Tryd.f8 := (Option.some.inj (Tryd.func8.symm.trans hfn)).symm
  refine ⟨by kernel_rfl, fun j t ht => ?_⟩
  rw [Tryd.params8] at ht
  have hm := Array.mem_of_getElem? ht
  simp only [List.mem_toArray, List.mem_cons, List.not_mem_nil, or_false] at hm
  subst hm
  all_goals first | exact (show Tryd.prog.wantsStandIn 27 = false by kernel_rfl)

/-- the statement -/
theorem proved : Rows.ShaPadsCardSaid :=
  Claim7.holds_tied_plain_at .later [] _ _ _ _ over (fun _ h => by cases h) (by kernel_rfl) (fun _ h => by cases h) shaPads_row_tie rfl ⟨rfl, rfl⟩ (by kernel_rfl) rfl plain (by kernel_rfl)
#print axioms proved
end Go.Proofs.YtkdcmobhaaihhaaDoor.shaPads
