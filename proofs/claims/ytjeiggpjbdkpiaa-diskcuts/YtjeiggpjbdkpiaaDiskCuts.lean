/-
  Cut, only the first bytes are left, and synced; it may not be cut to more than there is, nor to less than nothing (the law DiskCuts). No conditions.
-/
import Derived.Test.YtjeiggpjbdkpiaaFrame

import Derived.Test.YtjeiggpjbdkpiaaDiskEx

import Derived.Deep.DeepCutAuto

namespace Go.Proofs.Ytjeiggpjbdkpiaa.diskCuts

open Go.ChangeShapes Go.WideShapes Go.ChangeAt Go.RowKit

open Go.ChangeMaps (open_string shut_string)

set_option linter.unusedVariables false

set_option linter.unusedSimpArgs false

set_option maxHeartbeats 4000000 in
set_option maxRecDepth 100000 in
theorem walk (a0 : ByteArray) (a1 : Int) (a2 : Bool) (z0 : a0.size ≤ 140737488351232) (w1 : (Lit.int .i64 a1).wf = true) (w : World) :
    Calls Try.prog 5 #[.string a0, .int .i64 a1, .bool a2] w fun e w' => e = .returned (.bool true) ∧ Below w.heap.size w w' := by
  have h1 : -9223372036854775808 ≤ a1 ∧ a1 ≤ 9223372036854775807 := by simpa [Lit.wf, IntKind.min, IntKind.max, IntKind.signed, IntKind.bits] using w1
  have CN : Hid (∀ u : World, Calls Try.prog 7 #[.int .i64 1048576] u fun e w' => e = .returned (.tuple #[.pointer (some ⟨u.heap.size, 0, none⟩), .int .i64 0]) ∧ Dk.Raw w' u.heap.size 1048576 false (.slice none 0 0) [] 0 (.slice none 0 0) [] ∧ Below u.heap.size u w') := fun u => Dk.new_yes 1048576 u (by decide) (by decide)
  clear w1
  go_enter Try.func5, Try.ntmps5
  go_wp2_with fail
  refine (Dk.examples_any _).mono ?_; rintro e u1 ⟨rfl, hb1⟩
  have B1 := Lib.hid hb1
  clear hb1
  go_wp2_with fail
  refine (CN.out _).mono ?_; rintro e u2 ⟨rfl, hr, hb2⟩
  have R2 := Lib.hid hr
  have B2 := Lib.hid (Below.trans B1.out (hb2.mono B1.out.size))
  have Z1 := Lib.hid B1.out.size
  clear hr hb2 CN B1
  obtain ⟨M, hM⟩ : ∃ M, M = min a0.size 300 := ⟨_, rfl⟩
  have HM : Hid (M = min a0.size 300) := hM
  obtain ⟨s2, HS2⟩ : ∃ s2, Hid (a0.extract 0 M = s2) := ⟨_, rfl⟩
  have hs2 : s2.size = M := by rw [← HS2.out, ByteArray.size_extract]; omega
  clear hM
  go_upto_region 7 with fail
  go_cut [0] (fun x wx => x = .string s2 ∧ u2 = wx)
  case first =>
    by_cases h300 : 300 < a0.size
    · have hm : M = 300 := by have := HM.out; omega
      subst hm
      have h5 := HS2.out
      go_wp2_with fail
      go_meet
      exact ⟨rfl, rfl⟩
    · have hm : M = a0.size := by have := HM.out; omega
      subst hm
      have h5 := HS2.out
      go_wp2_with fail
      go_meet
      exact ⟨rfl, rfl⟩
  case rest =>
  obtain ⟨rfl, rfl⟩ := hcut
  have hsz : s2.size ≤ 300 := by have := HM.out; omega
  clear HS2 hs2 HM
  obtain ⟨z, HZ⟩ : ∃ z : Int, Hid ((if a2 = true then a1.tmod 350 else a1) = z) := ⟨_, rfl⟩
  go_upto_if 29 with fail
  go_cut [1] (fun x wx => x = .int .i64 z ∧ u2 = wx)
  case first =>
    cases a2 with
    | true =>
      have hz : a1.tmod 350 = z := by have := HZ.out; simpa using this
      go_wp2_with fail
      go_meet
      exact ⟨rfl, rfl⟩
    | false =>
      have hz : a1 = z := by have := HZ.out; simpa using this
      subst hz
      go_wp2_with fail
      go_meet
      exact ⟨rfl, rfl⟩
  case rest =>
  obtain ⟨rfl, rfl⟩ := hcut
  clear HZ h1
  have KA := Lib.hid (Dk.append_yes R2.out s2 (by simpa using by omega) (by decide) (by decide))
  have hll : s2.data.toList.length = s2.size := Dk.len_list s2
  go_wp2_with fail
  refine (KA.out).mono ?_; rintro e u3 ⟨rfl, tv3, ev3, hr, ht⟩
  have R3 : Hid (Dk.Raw u3 u1.heap.size 1048576 false tv3 s2.data.toList 0 ev3 (Dk.addE [] ([].length + s2.size))) := hr
  have B3 := Lib.hid (Below.trans B2.out (R2.out.below_tn ht Z1.out))
  clear hr ht KA
  by_cases hbad : z < 0 ∨ (s2.size : Int) < z
  · have KN := Lib.hid (Dk.cutd_no R3.out z (by rw [hll]; exact hbad) (by rw [hll]; omega))
    have KB : Hid (Calls Try.prog 10 #[.pointer (some ⟨u1.heap.size, 0, none⟩)] u3 fun e w' => e = .returned (.string s2) ∧ w' = u3) := by
      have := Dk.bytes_any R3.out
      rw [Dk.S_of] at this
      exact this
    have KS := Lib.hid (Dk.synced_any R3.out)
    go_wp2_with fail
    refine (KN.out).mono ?_; rintro e u4 ⟨rfl, rfl⟩
    rcases hbad with hb0 | hb0
    · go_wp2_with fail
      refine (KB.out).mono ?_; rintro e u5 ⟨rfl, rfl⟩
      go_wp2_with fail
      refine (KS.out).mono ?_; rintro e u6 ⟨rfl, rfl⟩
      go_wp2_with fail
      go_ret
      exact ⟨rfl, B3.out⟩
    · go_wp2_with fail
      refine (KB.out).mono ?_; rintro e u5 ⟨rfl, rfl⟩
      go_wp2_with fail
      refine (KS.out).mono ?_; rintro e u6 ⟨rfl, rfl⟩
      go_wp2_with fail
      go_ret
      exact ⟨rfl, B3.out⟩
  · obtain ⟨n, rfl⟩ : ∃ n : Nat, z = (n : Int) := ⟨z.toNat, by omega⟩
    have hn : n ≤ s2.size := by omega
    have KY := Lib.hid (Dk.cutd_yes R3.out n (by rw [hll]; exact hn) (by rw [hll]; omega))
    go_wp2_with fail
    refine (KY.out).mono ?_; rintro e u4 ⟨rfl, tv4, hr, ht⟩
    have R4 := Lib.hid hr
    have B4 := Lib.hid (Below.trans B3.out (R3.out.below_tn ht Z1.out))
    obtain ⟨s3, HS3⟩ : ∃ s3, Hid (s2.extract 0 n = s3) := ⟨_, rfl⟩
    have KB : Hid (∀ u, Below u4.heap.size u4 u → Calls Try.prog 10 #[.pointer (some ⟨u1.heap.size, 0, none⟩)] u fun e w' => e = .returned (.string s3) ∧ Below u4.heap.size u4 w') := fun u hu => by
      have := Dk.bytes_any (R4.out.below hu (Nat.le_refl _))
      have e : Dk.S (s2.data.toList.take n) = s3 := by
        rw [← HS3.out]
        conv => rhs; rw [← Dk.S_of s2, Dk.S_extract, List.drop_zero]
      rw [e] at this
      exact this.mono fun _ _ ⟨he, hw⟩ => ⟨he, by rw [hw]; exact hu⟩
    have KS : Hid (∀ u, Below u4.heap.size u4 u → Calls Try.prog 11 #[.pointer (some ⟨u1.heap.size, 0, none⟩)] u fun e w' => e = .returned (.int .i64 (n : Int)) ∧ Below u4.heap.size u4 w') := fun u hu => by
      exact (Dk.synced_any (R4.out.below hu (Nat.le_refl _))).mono fun _ _ ⟨he, hw⟩ => ⟨he, by rw [hw]; exact hu⟩
    clear hr ht KY
    have h5 := HS3.out
    go_wp2_with fail
    refine region_w Try.mixed (by kernel_rfl) ?_
    refine w_move rfl _ rfl (.bool true) rfl (fun K hK => ?_)
    go_simp
    refine hK _ ?_
    clear hK K
    refine w_move rfl _ rfl (.bool true) rfl (fun K hK => ?_)
    go_simp
    refine hK _ ?_
    clear hK K
    refine wg_value rfl (.int .i64 0) (fun u hu => by go_simp) (fun K hK => ?_)
    go_simp
    refine hK _ ?_
    clear hK K
    refine wg_value rfl (.bool true) (fun u hu => by go_simp) (fun K hK => ?_)
    go_simp
    refine hK _ ?_
    clear hK K
    refine w_value rfl (.bool true) (fun u hu => by go_simp) (fun K hK => ?_)
    go_simp
    refine hK _ ?_
    clear hK K
    refine w_move rfl _ rfl (.bool true) rfl (fun K hK => ?_)
    go_simp
    refine hK _ ?_
    clear hK K
    refine wg_value rfl (.pointer (some ⟨u1.heap.size, 0, none⟩)) (fun u hu => by go_simp) (fun K hK => ?_)
    go_simp
    refine hK _ ?_
    clear hK K
    refine wg_call rfl 10 Try.f10 Try.func10 rfl rfl _ _ rfl _ rfl (.string s3) (by exact KB.out) (fun K hK => ?_)
    go_simp
    refine hK _ ?_
    clear hK K
    refine wg_value rfl (.string s2) (fun u hu => by go_simp) (fun K hK => ?_)
    go_simp
    refine hK _ ?_
    clear hK K
    refine wg_value rfl (.int .i64 (n : Int)) (fun u hu => by go_simp) (fun K hK => ?_)
    go_simp
    refine hK _ ?_
    clear hK K
    refine wg_value rfl (.string s3) (fun u hu => by go_simp) (fun K hK => ?_)
    go_simp
    refine hK _ ?_
    clear hK K
    refine wg_value rfl (.bool true) (fun u hu => by go_simp) (fun K hK => ?_)
    go_simp
    refine hK _ ?_
    clear hK K
    refine w_value rfl (.bool true) (fun u hu => by go_simp) (fun K hK => ?_)
    go_simp
    refine hK _ ?_
    clear hK K
    refine w_move rfl _ rfl (.bool true) rfl (fun K hK => ?_)
    go_simp
    refine hK _ ?_
    clear hK K
    refine wg_value rfl (.pointer (some ⟨u1.heap.size, 0, none⟩)) (fun u hu => by go_simp) (fun K hK => ?_)
    go_simp
    refine hK _ ?_
    clear hK K
    refine wg_call rfl 11 Try.f11 Try.func11 rfl rfl _ _ rfl _ rfl (.int .i64 (n : Int)) (by exact KS.out) (fun K hK => ?_)
    go_simp
    refine hK _ ?_
    clear hK K
    refine wg_value rfl (.int .i64 (n : Int)) (fun u hu => by go_simp) (fun K hK => ?_)
    go_simp
    refine hK _ ?_
    clear hK K
    refine wg_value rfl (.bool true) (fun u hu => by go_simp) (fun K hK => ?_)
    go_simp
    refine hK _ ?_
    clear hK K
    refine w_value rfl (.bool true) (fun u hu => by go_simp) (fun K hK => ?_)
    go_simp
    refine hK _ ?_
    clear hK K
    refine w_assign rfl _ rfl (.bool true) rfl (fun K hK => ?_)
    go_simp
    refine hK _ ?_
    clear hK K
    refine w_nil ?_
    intro u hu
    have BZ := Lib.hid (Below.trans B4.out (hu.mono B4.out.size))
    go_wp2_with fail
    go_ret
    exact ⟨rfl, BZ.out⟩

set_option maxRecDepth 100000 in
theorem lifted (os : Os) (started : os.Started) (H : Type) (enc : TypeId × Value → H) :
    ReturnsInHanded {} Try.checked os 5 .any (Rows.diskCutsSpec.pre6 enc Try.prog Try.f5 Rows.diskCutsRow.domain false) (Rows.diskCutsSpec.post enc Try.prog Try.f5 false true false false) := by
  refine returnsInHanded_of_change_sized (C := Try.checked) own started (by kernel_rfl) Try.func5
    (ChangeSpec.witness6 (enc := enc) (C := Try.checked) false ⟨#[], #[.string ByteArray.empty, .int .i64 0, .bool false], []⟩ 8 (by kernel_rfl) (by kernel_rfl) (by kernel_rfl) (by kernel_rfl)) ?_
  intro W base args ds gs before hval0 hW hcnd hsz0 _
  have hval : ∀ (j : Nat) t v, Try.f5.params[j]? = some t → args[j]? = some v → Value.okWide Try.prog W .any base t v := hval0
  have hW' := hW
  obtain ⟨p, q, hA0, hV, rfl, hfz, hnd⟩ := hW
  have hA : DataW.TrodAll enc Try.prog W 0 (fun _ => true) true Try.f5.params.toList args.toList ds p := hA0
  have hsz : (DataW.weightsEach Try.prog (Try.f5.params.toList ++ Rows.diskCutsSpec.plain.varTypes Try.prog) (ds ++ gs)).all (· ≤ reachBytes) = true := hsz0
  rw [Try.params5] at hA hval hsz
  obtain ⟨rfl, rfl⟩ := trodVars_none hV
  have hAk := hA
  have hlt : ∀ x ∈ p, x.block < W.heap.size := fun x hx => by simpa using hW'.lt x (List.mem_append.2 (.inl hx))
  obtain ⟨v0, vs0, d0, ds0, p0, q0, hargs, rfl, rfl, h0, r0⟩ := trodAll_cons hA
  obtain ⟨v1, vs1, d1, ds1, p1, q1, rfl, rfl, rfl, h1, r1⟩ := trodAll_cons r0
  obtain ⟨v2, vs2, d2, ds2, p2, q2, rfl, rfl, rfl, h2, r2⟩ := trodAll_cons r1
  obtain ⟨rfl, rfl, rfl⟩ := trodAll_nil r2
  obtain rfl : args = #[v0, v1, v2] := by cases args; simp_all
  obtain ⟨a0, rfl, rfl, rfl, w0⟩ := open_string Try.underlying9 (hval 0 9 v0 rfl rfl) h0
  have z0 := sized_string hsz (j := 0) (t := 9) rfl rfl
  obtain ⟨a1, rfl, rfl, rfl, w1⟩ := open_int Try.underlying3 (hval 1 3 v1 rfl rfl) h1
  obtain ⟨a2, rfl, rfl, rfl⟩ := open_bool Try.underlying4 (hval 2 4 v2 rfl rfl) h2
  clear hA0 hval0 hsz0
  refine (walk a0 a1 a2 (by rw [Array.length_toList] at z0; exact z0) w1 W).mono fun e W' ⟨he, hg⟩ => ?_
  subst he
  exact ⟨_, rfl, _, _, _, [], _, [], hW', (trodAll_cons_mk (shut_bool Try.underlying4 _) trodAll_mk0), trodAll_below laidOut hg _ _ _ _ (by kernel_rfl) hAk hlt, rfl, hg.frame _, fun h => by cases h⟩

theorem over : Rows.diskCutsRow.holds Try.pinned (OpenSpec.ofChange Rows.diskCutsSpec) :=
  OpenClaim.holds_of_wide 5 Try.f5 rfl rfl rfl rfl rfl rfl rfl ⟨rfl, rfl, rfl, rfl, rfl⟩ rfl rfl rfl rfl rfl (by kernel_rfl) Try.func5 (by kernel_rfl)
    (of_decide_eq_true (by kernel_rfl)) (by unfold Func.isWrapper; first | (rw [if_pos (by decide +kernel)]; kernel_rfl) | (rw [if_neg (by decide +kernel)]; exact ⟨rfl, rfl⟩))
    (fun os started H enc _ => lifted os started H enc)

/-- the statement -/
theorem proved : Rows.DiskCutsSaid :=
  over
#print axioms proved

end Go.Proofs.Ytjeiggpjbdkpiaa.diskCuts
