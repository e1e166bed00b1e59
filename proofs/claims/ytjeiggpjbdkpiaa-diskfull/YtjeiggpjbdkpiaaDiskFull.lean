/-
  There is just so much room; what does not fit leaves all as it was (the law DiskFull). No conditions.
-/
import Derived.Test.YtjeiggpjbdkpiaaFrame

import Derived.Test.YtjeiggpjbdkpiaaDiskEx

import Derived.Deep.DeepCutAuto

import Derived.Test.YtjeiggpjbdkpiaaFrameTexts

namespace Go.Proofs.Ytjeiggpjbdkpiaa.diskFull

open Go.ChangeShapes Go.WideShapes Go.ChangeAt Go.RowKit

open Go.ChangeMaps (open_string shut_string)

set_option linter.unusedVariables false

set_option linter.unusedSimpArgs false

theorem addE_len (E : List Nat) (n : Nat) : (Dk.addE E n).length ≤ E.length + 1 := by
  unfold Dk.addE
  split
  · simp
  · omega
set_option maxHeartbeats 4000000 in
set_option maxRecDepth 100000 in
theorem walk (a0 : Int) (a1 : Option Addr) (len1 cap1 : Nat) (X1 : Nat → ByteArray) (w0 : (Lit.int .u8 a0).wf = true) (l1 : len1 ≤ cap1) (m1 : cap1 ≤ 9223372036854775807) (zs1 : ∀ i, i < len1 → (X1 i).size ≤ 140737488355328) (w : World) (w1 : IsVals Value.string w a1 len1 X1) :
    Calls Try.prog 4 #[.int .u8 a0, .slice a1 len1 cap1] w fun e w' => e = .returned (.bool true) ∧ Below w.heap.size w w' := by
  have h0 : 0 ≤ a0 ∧ a0 ≤ 255 := by simpa [Lit.wf, IntKind.min, IntKind.max, IntKind.signed, IntKind.bits] using w0
  obtain ⟨r, rfl, hr⟩ : ∃ r : Nat, a0 = (r : Int) ∧ r < 256 := ⟨a0.toNat, by omega, by omega⟩
  have HW : Hid (IsVals Value.string w a1 len1 X1) := w1
  have HZ : Hid (∀ i, i < len1 → (X1 i).size ≤ 140737488355328) := zs1
  have CN : Hid (∀ (k : Nat) (u : World), 1 ≤ k → k ≤ 16777216 → Calls Try.prog 7 #[.int .i64 (k : Int)] u fun e w' => e = .returned (.tuple #[.pointer (some ⟨u.heap.size, 0, none⟩), .int .i64 0]) ∧ Dk.Raw w' u.heap.size k false (.slice none 0 0) [] 0 (.slice none 0 0) [] ∧ Below u.heap.size u w') := fun k u h1 h2 => Dk.new_yes k u h1 h2
  clear w0 h0 w1 zs1
  go_enter Try.func4, Try.ntmps4
  go_wp2_with fail
  refine (Dk.examples_any _).mono ?_; rintro e u1 ⟨rfl, hb1⟩
  have B1 := Lib.hid hb1
  clear hb1
  go_wp2_with fail
  rw [show (1 + (r : Int)) = ((1 + r : Nat) : Int) by omega]
  obtain ⟨k, hk, k1, k2⟩ : ∃ k, k = 1 + r ∧ 1 ≤ k ∧ k ≤ 256 := ⟨_, rfl, by omega, by omega⟩
  rw [← hk]
  clear hk hr
  refine (CN.out k _ k1 (by omega)).mono ?_; rintro e u2 ⟨rfl, hr, hb2⟩
  have R2 := Lib.hid hr
  have B2 := Lib.hid (Below.trans B1.out (hb2.mono B1.out.size))
  have Z1 := Lib.hid B1.out.size
  clear hr hb2 CN B1
  go_wp2_with fail
  go_loopw [10, 9] (fun iv av wr => ∃ (j : Nat) (s : ByteArray) (tv ev : Value) (E : List Nat), j ≤ len1 ∧ j ≤ 20 ∧ iv = .int .i64 (j : Int) ∧ av = .string s ∧ s.size ≤ k ∧ Hid (E.length ≤ j) ∧ Hid (Dk.Raw wr u1.heap.size k false tv s.data.toList 0 ev E) ∧ Hid (Below w.heap.size w wr)) (fun iv _ _ => 20 - (intOf iv).toNat)
  case atStart => exact ⟨0, ⟨#[]⟩, _, _, [], by omega, by omega, rfl, rfl, by show 0 ≤ k; omega, by show _ ≤ _; simp, R2, B2⟩
  case round =>
    obtain ⟨j, s, tv, ev, E, hjl, hj20, rfl, rfl, hsk, HE, HR, HB⟩ := hrel
    by_cases hlt : j < len1
    · have i1 : (j : Int) < (len1 : Int) := by omega
      by_cases hl2 : j < 20
      · have i2 : (j : Int) < 20 := by omega
        obtain ⟨b0, off, rfl, hcell⟩ := (HW.out.below HB.out).at j hlt
        obtain ⟨x, HX⟩ : ∃ x, Hid (X1 j = x) := ⟨_, rfl⟩
        rw [HX.out] at hcell
        have hxz : x.size ≤ 140737488355328 := by rw [← HX.out]; exact HZ.out j hlt
        have hll : s.data.toList.length = s.size := Dk.len_list s
        have hwr : IntKind.i64.wrap ((s.size : Int) + (x.size : Int)) = (s.size : Int) + (x.size : Int) := IntWalk.i64_in _ (by omega)
        by_cases hfit : s.size + x.size ≤ k
        · have KA := Lib.hid (Dk.append_yes HR.out x (by rw [hll]; exact hfit) (by omega) (by have := HE.out; omega))
          have hf1 : ((s.size : Int) + (x.size : Int)) ≤ (k : Int) := by omega
          go_wp2_with fail
          refine (KA.out).mono ?_; rintro e u3 ⟨rfl, tv3, ev3, hr, ht⟩
          obtain ⟨s', HS'⟩ : ∃ s', Hid (s ++ x = s') := ⟨_, rfl⟩
          have hs' : s'.size = s.size + x.size := by rw [← HS'.out]; exact ByteArray.size_append
          have e' : s.data.toList ++ x.data.toList = s'.data.toList := by rw [← HS'.out, ByteArray.data_append, Array.toList_append]
          rw [e'] at hr
          have R3 := Lib.hid hr
          have B3 := Lib.hid (Below.trans HB.out (HR.out.below_tn ht Z1.out))
          have hcell3 : u3.cell? ⟨b0, off + j, none⟩ = some (.string x) := by
            obtain ⟨b1, off1, e9, hc9⟩ := (HW.out.below B3.out).at j hlt
            simp only [Option.some.injEq, Addr.mk.injEq, and_true] at e9
            obtain ⟨rfl, rfl⟩ := e9
            rw [hc9, HX.out]
          have KB : Hid (Calls Try.prog 10 #[.pointer (some ⟨u1.heap.size, 0, none⟩)] u3 fun e w' => e = .returned (.string s') ∧ w' = u3) := by
            have := Dk.bytes_any R3.out
            rw [Dk.S_of] at this
            exact this
          have h5 := HS'.out
          have HE3 : Hid ((Dk.addE E (s.data.toList.length + x.size)).length ≤ j + 1) := by
            show _ ≤ _
            have := addE_len E (s.data.toList.length + x.size)
            have := HE.out
            omega
          clear hr ht KA e' hcell HR HB
          go_wp2_with fail
          refine (KB.out).mono ?_; rintro e u4 ⟨rfl, rfl⟩
          go_wp2_with fail
          go_roundw
          case rel => exact ⟨j + 1, s', _, _, _, by omega, by omega, by go_num, rfl, by omega, HE3, R3, B3⟩
          case measure => simp [intOf]; omega
        · have KA := Lib.hid (Dk.append_no HR.out x (by rw [hll]; omega) (by rw [hll]; exact hsk) (by omega) (by unfold maxLen; omega))
          have hf1 : ¬ ((s.size : Int) + (x.size : Int)) ≤ (k : Int) := by omega
          go_wp2_with fail
          refine (KA.out).mono ?_; rintro e u3 ⟨rfl, hb⟩
          have R3 := Lib.hid (HR.out.below hb (Nat.le_refl _))
          have B3 := Lib.hid (Below.trans HB.out (hb.mono HB.out.size))
          have hcell3 : u3.cell? ⟨b0, off + j, none⟩ = some (.string x) := by
            obtain ⟨b1, off1, e9, hc9⟩ := (HW.out.below B3.out).at j hlt
            simp only [Option.some.injEq, Addr.mk.injEq, and_true] at e9
            obtain ⟨rfl, rfl⟩ := e9
            rw [hc9, HX.out]
          have KB : Hid (Calls Try.prog 10 #[.pointer (some ⟨u1.heap.size, 0, none⟩)] u3 fun e w' => e = .returned (.string s) ∧ w' = u3) := by
            have := Dk.bytes_any R3.out
            rw [Dk.S_of] at this
            exact this
          have HE3 : Hid (E.length ≤ j + 1) := by show _ ≤ _; have := HE.out; omega
          clear hb KA hcell HR HB
          go_wp2_with fail
          refine (KB.out).mono ?_; rintro e u4 ⟨rfl, rfl⟩
          go_wp2_with fail
          go_roundw
          case rel => exact ⟨j + 1, s, _, _, _, by omega, by omega, by go_num, rfl, hsk, HE3, R3, B3⟩
          case measure => simp [intOf]; omega
      · have i2 : ¬ (j : Int) < 20 := by omega
        have KS := Lib.hid (Dk.synced_any HR.out)
        go_wp2_with fail
        refine (KS.out).mono ?_; rintro e u4 ⟨rfl, rfl⟩
        go_wp2_with fail
        go_ret
        exact ⟨rfl, HB.out⟩
    · have i1 : ¬ (j : Int) < (len1 : Int) := by omega
      have KS := Lib.hid (Dk.synced_any HR.out)
      go_wp2_with fail
      refine (KS.out).mono ?_; rintro e u4 ⟨rfl, rfl⟩
      go_wp2_with fail
      go_ret
      exact ⟨rfl, HB.out⟩

set_option maxRecDepth 100000 in
theorem lifted (os : Os) (started : os.Started) (H : Type) (enc : TypeId × Value → H) :
    ReturnsInHanded {} Try.checked os 4 .any (Rows.diskFullSpec.pre6 enc Try.prog Try.f4 Rows.diskFullRow.domain false) (Rows.diskFullSpec.post enc Try.prog Try.f4 false true false false) := by
  refine returnsInHanded_of_change_sized (C := Try.checked) own started (by kernel_rfl) Try.func4
    (ChangeSpec.witness6 (enc := enc) (C := Try.checked) false ⟨#[], #[.int .u8 0, .slice none 0 0], []⟩ 8 (by kernel_rfl) (by kernel_rfl) (by kernel_rfl) (by kernel_rfl)) ?_
  intro W base args ds gs before hval0 hW hcnd hsz0 _
  have hval : ∀ (j : Nat) t v, Try.f4.params[j]? = some t → args[j]? = some v → Value.okWide Try.prog W .any base t v := hval0
  have hW' := hW
  obtain ⟨p, q, hA0, hV, rfl, hfz, hnd⟩ := hW
  have hA : DataW.TrodAll enc Try.prog W 0 (fun _ => true) true Try.f4.params.toList args.toList ds p := hA0
  have hsz : (DataW.weightsEach Try.prog (Try.f4.params.toList ++ Rows.diskFullSpec.plain.varTypes Try.prog) (ds ++ gs)).all (· ≤ reachBytes) = true := hsz0
  rw [Try.params4] at hA hval hsz
  obtain ⟨rfl, rfl⟩ := trodVars_none hV
  have hAk := hA
  have hlt : ∀ x ∈ p, x.block < W.heap.size := fun x hx => by simpa using hW'.lt x (List.mem_append.2 (.inl hx))
  obtain ⟨v0, vs0, d0, ds0, p0, q0, hargs, rfl, rfl, h0, r0⟩ := trodAll_cons hA
  obtain ⟨v1, vs1, d1, ds1, p1, q1, rfl, rfl, rfl, h1, r1⟩ := trodAll_cons r0
  obtain ⟨rfl, rfl, rfl⟩ := trodAll_nil r1
  obtain rfl : args = #[v0, v1] := by cases args; simp_all
  obtain ⟨a0, rfl, rfl, rfl, w0⟩ := open_int Try.underlying5 (hval 0 5 v0 rfl rfl) h0
  obtain ⟨a1, len1, cap1, rfl⟩ := okWide_slice Try.underlying22 (hval 1 22 v1 rfl rfl)
  obtain ⟨X1, w1, l1, m1, zs1⟩ := open_texts h1 (Sz.arg hsz (j := 1) rfl rfl)
  clear hA0 hval0 hsz0
  refine (walk a0 a1 len1 cap1 X1 w0 l1 m1 zs1 W w1).mono fun e W' ⟨he, hg⟩ => ?_
  subst he
  exact ⟨_, rfl, _, _, _, [], _, [], hW', (trodAll_cons_mk (shut_bool Try.underlying4 _) trodAll_mk0), trodAll_below laidOut hg _ _ _ _ (by kernel_rfl) hAk hlt, rfl, hg.frame _, fun h => by cases h⟩

theorem over : Rows.diskFullRow.holds Try.pinned (OpenSpec.ofChange Rows.diskFullSpec) :=
  OpenClaim.holds_of_wide 4 Try.f4 rfl rfl rfl rfl rfl rfl rfl ⟨rfl, rfl, rfl, rfl, rfl⟩ rfl rfl rfl rfl rfl (by kernel_rfl) Try.func4 (by kernel_rfl)
    (of_decide_eq_true (by kernel_rfl)) (by unfold Func.isWrapper; first | (rw [if_pos (by decide +kernel)]; kernel_rfl) | (rw [if_neg (by decide +kernel)]; exact ⟨rfl, rfl⟩))
    (fun os started H enc _ => lifted os started H enc)

/-- the statement -/
theorem proved : Rows.DiskFullSaid :=
  over
#print axioms proved

end Go.Proofs.Ytjeiggpjbdkpiaa.diskFull
