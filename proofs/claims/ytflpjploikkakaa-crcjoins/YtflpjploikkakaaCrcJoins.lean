/-
  For every input the law CrcJoins returns true and leaves its arguments as they were. No condition.
-/
import Derived.Test.YtflpjploikkakaaRows
import Derived.WalkKit
import Derived.ProofKit
import Derived.OpenShut
import Derived.SizedLaws
import Derived.Test.YtflpjploikkakaaExamples
import Derived.ShutString
namespace Go.Proofs.Ytflpjploikkakaa.crcJoins
open Go.ChangeShapes Go.WideShapes Go.ChangeAt Go.RowKit
open Go.ChangeMaps (open_string shut_string)
set_option linter.unusedVariables false

theorem own : ownKnob Try.prog.godebug = none := by kernel_rfl

theorem app_list (a b : ByteArray) : (a ++ b).data.toList = a.data.toList ++ b.data.toList := by
  rw [ByteArray.data_append, Array.toList_append]
theorem len_list (a : ByteArray) : a.data.toList.length = a.size := by
  rw [Array.length_toList]; rfl
theorem joined (a b : BitVec 32) (n : Int) (v : BitVec 32) (w : World) (h0 : 0 ≤ n) (h2 : n ≤ 9223372036854775807) (hv : M.join a b n.toNat = v) :
    Calls Try.prog 11 #[.int .u32 (a.toNat : Int), .int .u32 (b.toNat : Int), .int .i64 n] w fun e w' => e = .returned (.int .u32 (v.toNat : Int)) ∧ w' = w := by
  have := join_any a b n w (by omega) h2
  rw [hv] at this
  exact this
theorem summed (s : ByteArray) (v : BitVec 32) (w : World) (hs : s.size ≤ maxLen) (hv : M.sum s.data.toList = v) :
    Calls Try.prog 9 #[.string s] w fun e w' => e = .returned (.int .u32 (v.toNat : Int)) ∧ w' = w := by
  have := sum_any s w hs
  rw [hv] at this
  exact this

theorem walk_long (a b c : ByteArray) (z0 : a.size ≤ 140737488351232) (z1 : b.size ≤ 140737488351232) (z2 : c.size ≤ 140737488351232) (hl : 4096 < b.size + c.size) (w : World) :
    Calls Try.prog 4 #[.string a, .string b, .string c] w fun e w' => e = .returned (.bool true) ∧ Grown w w' := by
  have S1 : Hid _ := fun w => sum_any a w (by unfold maxLen; omega)
  have S2 : Hid _ := fun w => sum_any b w (by unfold maxLen; omega)
  have S3 : Hid _ := fun w => sum_any c w (by unfold maxLen; omega)
  generalize M.sum a.data.toList = x at S1
  generalize M.sum b.data.toList = y at S2
  generalize M.sum c.data.toList = z at S3
  go_enter Try.func4, Try.ntmps4
  go_wp2_with fail
  refine (examples_any _).mono ?_; rintro e w' ⟨rfl, rfl⟩
  go_wp2_with fail
  refine (S1.out _).mono ?_; rintro e w' ⟨rfl, rfl⟩
  go_wp2_with fail
  refine (S2.out _).mono ?_; rintro e w' ⟨rfl, rfl⟩
  go_wp2_with fail
  refine (S3.out _).mono ?_; rintro e w' ⟨rfl, rfl⟩
  go_wp2_with fail
  refine (joined _ _ _ _ _ (by omega) (by omega) rfl).mono ?_; rintro e w' ⟨rfl, rfl⟩
  go_wp2_with fail
  refine (joined _ _ _ _ _ (by omega) (by omega) rfl).mono ?_; rintro e w' ⟨rfl, rfl⟩
  go_wp2_with fail
  refine (joined _ _ _ _ _ (by omega) (by omega) rfl).mono ?_; rintro e w' ⟨rfl, rfl⟩
  go_wp2_with fail
  refine (joined _ _ _ _ _ (by omega) (by omega) rfl).mono ?_; rintro e w' ⟨rfl, rfl⟩
  go_wp2_with fail
  go_ret
  exact ⟨rfl, Grown.refl _⟩

theorem walk_short (a b c : ByteArray) (z0 : a.size ≤ 140737488351232) (hl : ¬ 4096 < b.size + c.size) (w : World) :
    Calls Try.prog 4 #[.string a, .string b, .string c] w fun e w' => e = .returned (.bool true) ∧ Grown w w' := by
  have S1 : Hid _ := fun w => sum_any a w (by unfold maxLen; omega)
  have S2 : Hid _ := fun w => sum_any b w (by unfold maxLen; omega)
  have S3 : Hid _ := fun w => sum_any c w (by unfold maxLen; omega)
  have ba : (a ++ b).size = a.size + b.size := by simp
  have bb : (a ++ b ++ c).size = a.size + b.size + c.size := by simp
  have S4 : Hid _ := fun w => sum_any (a ++ b) w (by unfold maxLen; omega)
  have S5 : Hid _ := fun w => sum_any (a ++ b ++ c) w (by unfold maxLen; omega)
  clear ba bb
  have lb := len_list b
  have lc := len_list c
  have j1 : M.join (M.sum a.data.toList) (M.sum b.data.toList) (b.size : Int).toNat = M.sum (a ++ b).data.toList := by
    rw [Int.toNat_natCast, ← lb, M.join_sum _ _ (by omega), app_list]
  have j2 : M.join (M.sum (a ++ b).data.toList) (M.sum c.data.toList) (c.size : Int).toNat = M.sum (a ++ b ++ c).data.toList := by
    rw [Int.toNat_natCast, ← lc, M.join_sum _ _ (by omega), app_list (a ++ b) c]
  have j3 : M.join (M.sum b.data.toList) (M.sum c.data.toList) (c.size : Int).toNat = M.sum (b.data.toList ++ c.data.toList) := by
    rw [Int.toNat_natCast, ← lc, M.join_sum _ _ (by omega)]
  have j4 : M.join (M.sum a.data.toList) (M.sum (b.data.toList ++ c.data.toList)) ((b.size : Int) + (c.size : Int)).toNat = M.sum (a ++ b ++ c).data.toList := by
    rw [show ((b.size : Int) + (c.size : Int)).toNat = (b.data.toList ++ c.data.toList).length by rw [List.length_append]; omega]
    rw [M.join_sum _ _ (by rw [List.length_append]; omega), app_list (a ++ b) c, app_list, List.append_assoc]
  generalize M.sum (b.data.toList ++ c.data.toList) = r at j3 j4
  generalize M.sum (a ++ b ++ c).data.toList = q at S5 j2 j4
  generalize M.sum (a ++ b).data.toList = p at S4 j1 j2
  generalize M.sum a.data.toList = x at S1 j1 j4
  generalize M.sum b.data.toList = y at S2 j1 j3
  generalize M.sum c.data.toList = z at S3 j2 j3
  have J1 : Hid _ := j1
  have J2 : Hid _ := j2
  have J3 : Hid _ := j3
  have J4 : Hid _ := j4
  clear j1 j2 j3 j4 lb lc
  go_enter Try.func4, Try.ntmps4
  go_wp2_with fail
  refine (examples_any _).mono ?_; rintro e w' ⟨rfl, rfl⟩
  go_wp2_with fail
  refine (S1.out _).mono ?_; rintro e w' ⟨rfl, rfl⟩
  go_wp2_with fail
  refine (S2.out _).mono ?_; rintro e w' ⟨rfl, rfl⟩
  go_wp2_with fail
  refine (S3.out _).mono ?_; rintro e w' ⟨rfl, rfl⟩
  go_wp2_with fail
  refine (joined _ _ _ _ _ (by omega) (by omega) J1.out).mono ?_; rintro e w' ⟨rfl, rfl⟩
  go_wp2_with fail
  refine (joined _ _ _ _ _ (by omega) (by omega) J2.out).mono ?_; rintro e w' ⟨rfl, rfl⟩
  go_wp2_with fail
  refine (joined _ _ _ _ _ (by omega) (by omega) J3.out).mono ?_; rintro e w' ⟨rfl, rfl⟩
  go_wp2_with fail
  refine (joined _ _ _ _ _ (by omega) (by omega) J4.out).mono ?_; rintro e w' ⟨rfl, rfl⟩
  go_wp2_with fail
  refine (S4.out _).mono ?_; rintro e w' ⟨rfl, rfl⟩
  go_wp2_with fail
  refine (joined _ _ _ _ _ (by omega) (by omega) J1.out).mono ?_; rintro e w' ⟨rfl, rfl⟩
  go_wp2_with fail
  refine (S5.out _).mono ?_; rintro e w' ⟨rfl, rfl⟩
  go_wp2_with fail
  go_ret
  exact ⟨rfl, Grown.refl _⟩

theorem walk (a0 : ByteArray) (a1 : ByteArray) (a2 : ByteArray) (w0 : a0.size ≤ maxLen) (w1 : a1.size ≤ maxLen) (w2 : a2.size ≤ maxLen) (z0 : a0.data.toList.length ≤ reachBytes) (z1 : a1.data.toList.length ≤ reachBytes) (z2 : a2.data.toList.length ≤ reachBytes) (w : World) :
    Calls Try.prog 4 #[.string a0, .string a1, .string a2] w fun e w' => e = .returned (.bool true) ∧ Grown w w' := by
  rw [len_list] at z0 z1 z2
  unfold reachBytes at z0 z1 z2
  by_cases hl : 4096 < a1.size + a2.size
  · exact walk_long a0 a1 a2 z0 z1 z2 hl w
  · exact walk_short a0 a1 a2 z0 hl w

set_option maxRecDepth 100000 in
theorem lifted (os : Os) (started : os.Started) (H : Type) (enc : TypeId × Value → H) :
    ReturnsInHanded {} Try.checked os 4 .any (Rows.crcJoinsSpec.pre6 enc Try.prog Try.f4 Rows.crcJoinsRow.domain false) (Rows.crcJoinsSpec.post enc Try.prog Try.f4 false true false false) := by
  refine returnsInHanded_of_change_sized (C := Try.checked) own started (by kernel_rfl) Try.func4
    (ChangeSpec.witness6 (enc := enc) (C := Try.checked) false ⟨#[], #[.string ByteArray.empty, .string ByteArray.empty, .string ByteArray.empty], []⟩ 8 (by kernel_rfl) (by kernel_rfl) (by kernel_rfl) (by kernel_rfl)) ?_
  intro W base args ds gs before hval0 hW hcnd hsz0 _
  have hval : ∀ (j : Nat) t v, Try.f4.params[j]? = some t → args[j]? = some v → Value.okWide Try.prog W .any base t v := hval0
  have hW' := hW
  obtain ⟨p, q, hA0, hV, rfl, hfz, hnd⟩ := hW
  have hA : DataW.TrodAll enc Try.prog W 0 (fun _ => true) true Try.f4.params.toList args.toList ds p := hA0
  have hsz : (DataW.weightsEach Try.prog (Try.f4.params.toList ++ Rows.crcJoinsSpec.plain.varTypes Try.prog) (ds ++ gs)).all (· ≤ reachBytes) = true := hsz0
  rw [Try.params4] at hA hval hsz
  obtain ⟨v0, vs0, d0, ds0, p0, q0, hargs, rfl, rfl, h0, r0⟩ := trodAll_cons hA
  obtain ⟨v1, vs1, d1, ds1, p1, q1, rfl, rfl, rfl, h1, r1⟩ := trodAll_cons r0
  obtain ⟨v2, vs2, d2, ds2, p2, q2, rfl, rfl, rfl, h2, r2⟩ := trodAll_cons r1
  obtain ⟨rfl, rfl, rfl⟩ := trodAll_nil r2
  obtain rfl : args = #[v0, v1, v2] := by cases args; simp_all
  obtain ⟨rfl, rfl⟩ := trodVars_none hV
  obtain ⟨a0, rfl, rfl, rfl, w0⟩ := open_string Try.underlying9 (hval 0 9 v0 rfl rfl) h0
  obtain ⟨a1, rfl, rfl, rfl, w1⟩ := open_string Try.underlying9 (hval 1 9 v1 rfl rfl) h1
  obtain ⟨a2, rfl, rfl, rfl, w2⟩ := open_string Try.underlying9 (hval 2 9 v2 rfl rfl) h2
  have z0 := sized_string hsz (j := 0) (t := 9) rfl rfl
  have z1 := sized_string hsz (j := 1) (t := 9) rfl rfl
  have z2 := sized_string hsz (j := 2) (t := 9) rfl rfl
  clear hA0 hval0 hsz0
  simp only [List.append_nil] at hW'
  refine (walk a0 a1 a2 w0 w1 w2 z0 z1 z2 W).mono fun e W' ⟨he, hg⟩ => ?_
  subst he
  exact ⟨_, rfl, post_of_same (pa := []) (pv := []) hW' (fun _ _ _ => (trodAll_cons_mk (shut_bool Try.underlying4 _) trodAll_mk0)) (fun sp _ => (trodAll_cons_mk (shut_string Try.underlying9 w0) (trodAll_cons_mk (shut_string Try.underlying9 w1) (trodAll_cons_mk (shut_string Try.underlying9 w2) trodAll_mk0)))) (fun _ _ => rfl) rfl
    (hg.frame _) hg.2.1 (ok_one (by kernel_rfl) rfl (okWide_bool_mk Try.underlying4 _))⟩

theorem over : Rows.crcJoinsRow.holds Try.pinned (OpenSpec.ofChange Rows.crcJoinsSpec) :=
  OpenClaim.holds_of_wide 4 Try.f4 rfl rfl rfl rfl rfl rfl rfl ⟨rfl, rfl, rfl, rfl, rfl⟩ rfl rfl rfl rfl rfl (by kernel_rfl) Try.func4 (by kernel_rfl)
    (of_decide_eq_true (by kernel_rfl)) (by unfold Func.isWrapper; first | (rw [if_pos (by decide +kernel)]; kernel_rfl) | (rw [if_neg (by decide +kernel)]; exact ⟨rfl, rfl⟩))
    (fun os started H enc _ => lifted os started H enc)

/-- the statement -/
theorem proved : Rows.CrcJoinsSaid :=
  over
#print axioms proved
end Go.Proofs.Ytflpjploikkakaa.crcJoins
