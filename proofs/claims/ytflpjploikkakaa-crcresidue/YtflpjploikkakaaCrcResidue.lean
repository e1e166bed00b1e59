/-
  For every input the law CrcResidue returns true and leaves its arguments as they were. No condition.
-/
import Derived.Test.YtflpjploikkakaaRows
import Derived.WalkKit
import Derived.ProofKit
import Derived.OpenShut
import Derived.SizedLaws
import Derived.Laws.BytesArg
import Derived.Test.YtflpjploikkakaaExamples
import Derived.ShutString
namespace Go.Proofs.Ytflpjploikkakaa.crcResidue
open Go.ChangeShapes Go.WideShapes Go.ChangeAt Go.RowKit
open Go.ChangeMaps (open_string shut_string)
set_option linter.unusedVariables false

theorem own : ownKnob Try.prog.godebug = none := by kernel_rfl

theorem len_list (a : ByteArray) : a.data.toList.length = a.size := by
  rw [Array.length_toList]; rfl
theorem app_list (a b : ByteArray) : (a ++ b).data.toList = a.data.toList ++ b.data.toList := by
  rw [ByteArray.data_append, Array.toList_append]
def tail (x : BitVec 32) : ByteArray := strOfNums [(x.toNat : Int) % 256, (x.toNat : Int) / 256 % 256, (x.toNat : Int) / 65536 % 256, (x.toNat : Int) / 16777216]
theorem ofNat_mod (n : Nat) : UInt8.ofNat (n % 256) = UInt8.ofNat n := by
  apply UInt8.toNat_inj.1
  rw [UInt8.toNat_ofNat', UInt8.toNat_ofNat']
  omega
theorem tail_list (x : BitVec 32) : (tail x).data.toList = [M.byteAt x 0, M.byteAt x 1, M.byteAt x 2, M.byteAt x 3] := by
  unfold tail
  rw [strOfNums_data]
  simp only [List.map_cons, List.map_nil, M.byteAt]
  have e0 : ((x.toNat : Int) % 256).toNat = x.toNat % 256 := by omega
  have e1 : ((x.toNat : Int) / 256 % 256).toNat = (x.toNat / 256) % 256 := by omega
  have e2 : ((x.toNat : Int) / 65536 % 256).toNat = (x.toNat / 65536) % 256 := by omega
  have e3 : ((x.toNat : Int) / 16777216).toNat = x.toNat / 16777216 := by omega
  rw [e0, e1, e2, e3, ofNat_mod, ofNat_mod, ofNat_mod]
  simp
theorem tail_size (x : BitVec 32) : (tail x).size = 4 := by rw [← len_list, tail_list]; rfl

theorem ext_tail (a : ByteArray) (x : BitVec 32) : (a ++ tail x).extract a.size (a.size + 4) = tail x := by
  apply ByteArray.ext
  rw [ByteArray.data_extract, ByteArray.data_append]
  apply Array.ext'
  rw [Array.toList_extract, Array.toList_append]
  have h1 : a.data.toList.length = a.size := len_list a
  have h2 : (tail x).data.toList.length = 4 := by rw [tail_list]; rfl
  have h3 : a.size + 4 - a.size = 4 := by omega
  rw [List.extract_eq_take_drop, ← h1, List.drop_left, h1, h3]
  exact List.take_of_length_le (by omega)

theorem conv (x : BitVec 32) (u : World) :
    (convert 30 9 (.slice (some ⟨u.heap.size, 0, none⟩) 4 4)).run Try.prog (u.alloc (.cells #[.int .u8 ((x.toNat : Int) % 256), .int .u8 ((x.toNat : Int) / 256 % 256), .int .u8 ((x.toNat : Int) / 65536 % 256), .int .u8 ((x.toNat : Int) / 16777216)] 5)) =
      .ok (.string (tail x)) (u.alloc (.cells #[.int .u8 ((x.toNat : Int) % 256), .int .u8 ((x.toNat : Int) / 256 % 256), .int .u8 ((x.toNat : Int) / 65536 % 256), .int .u8 ((x.toNat : Int) / 16777216)] 5)) := by
  refine run_convert_bytes_arg _ 30 5 Try.underlying30 Try.underlying5 u.heap.size 0 4 4 [(x.toNat : Int) % 256, (x.toNat : Int) / 256 % 256, (x.toNat : Int) / 65536 % 256, (x.toNat : Int) / 16777216] rfl ?_ 9 Try.underlying9
  intro i hi
  rw [Nat.zero_add, World.cell?_alloc_new]
  match i, hi with
  | 0, _ => rfl
  | 1, _ => rfl
  | 2, _ => rfl
  | 3, _ => rfl

set_option maxHeartbeats 800000 in
theorem walk_at (a : ByteArray) (z0 : a.size ≤ 140737488351232) (w : World) :
    Calls Try.prog 6 #[.string a] w fun e w' => e = .returned (.bool true) ∧ Grown w w' := by
  have S1 : Hid _ := fun w => sum_any a w (by unfold maxLen; omega)
  have tz := tail_size (M.sum a.data.toList)
  have S2 : Hid _ := fun w => sum_any (a ++ tail (M.sum a.data.toList)) w (by rw [ByteArray.size_append]; unfold maxLen; omega)
  have S3 : Hid _ := fun w => sum_any ((a ++ tail (M.sum a.data.toList)).extract a.size (a.size + 4)) w (by rw [ext_tail]; unfold maxLen; omega)
  have S4 : Hid _ := fun w => join_any (M.sum a.data.toList) (M.sum (tail (M.sum a.data.toList)).data.toList) 4 w (by decide) (by decide)
  rw [app_list, tail_list, M.residue] at S2
  rw [show (4 : Int).toNat = 4 from rfl, tail_list, M.residue_join] at S4
  rw [show ((a ++ tail (M.sum a.data.toList)).extract a.size (a.size + 4)).data.toList = (tail (M.sum a.data.toList)).data.toList by rw [ext_tail], tail_list] at S3
  generalize M.sum [M.byteAt (M.sum a.data.toList) 0, M.byteAt (M.sum a.data.toList) 1, M.byteAt (M.sum a.data.toList) 2, M.byteAt (M.sum a.data.toList) 3] = y at S3 S4
  generalize M.sum a.data.toList = x at S1 S2 S3 S4 tz
  have hcv := conv x
  go_enter Try.func6, Try.ntmps6
  go_wp2_with fail
  refine (examples_any _).mono ?_; rintro e w' ⟨rfl, rfl⟩
  go_wp2_with fail
  refine (S1.out _).mono ?_; rintro e w' ⟨rfl, rfl⟩
  go_wp2_with fail
  refine (S2.out _).mono ?_; rintro e w1 ⟨rfl, rfl⟩
  go_wp2_with fail
  refine (S3.out _).mono ?_; rintro e w1 ⟨rfl, rfl⟩
  go_wp2_with fail
  refine (S4.out _).mono ?_; rintro e w1 ⟨rfl, rfl⟩
  go_wp2_with fail
  go_ret
  exact ⟨rfl, by repeat (first | exact Grown.refl _ | apply Grown.drew | apply Grown.alloc)⟩
theorem walk (a0 : ByteArray) (w0 : a0.size ≤ maxLen) (z0 : a0.data.toList.length ≤ reachBytes) (w : World) :
    Calls Try.prog 6 #[.string a0] w fun e w' => e = .returned (.bool true) ∧ Grown w w' := by
  rw [len_list] at z0
  unfold reachBytes at z0
  exact walk_at a0 z0 w

set_option maxRecDepth 100000 in
theorem lifted (os : Os) (started : os.Started) (H : Type) (enc : TypeId × Value → H) :
    ReturnsInHanded {} Try.checked os 6 .any (Rows.crcResidueSpec.pre6 enc Try.prog Try.f6 Rows.crcResidueRow.domain false) (Rows.crcResidueSpec.post enc Try.prog Try.f6 false true false false) := by
  refine returnsInHanded_of_change_sized (C := Try.checked) own started (by kernel_rfl) Try.func6
    (ChangeSpec.witness6 (enc := enc) (C := Try.checked) false ⟨#[], #[.string ByteArray.empty], []⟩ 8 (by kernel_rfl) (by kernel_rfl) (by kernel_rfl) (by kernel_rfl)) ?_
  intro W base args ds gs before hval0 hW hcnd hsz0 _
  have hval : ∀ (j : Nat) t v, Try.f6.params[j]? = some t → args[j]? = some v → Value.okWide Try.prog W .any base t v := hval0
  have hW' := hW
  obtain ⟨p, q, hA0, hV, rfl, hfz, hnd⟩ := hW
  have hA : DataW.TrodAll enc Try.prog W 0 (fun _ => true) true Try.f6.params.toList args.toList ds p := hA0
  have hsz : (DataW.weightsEach Try.prog (Try.f6.params.toList ++ Rows.crcResidueSpec.plain.varTypes Try.prog) (ds ++ gs)).all (· ≤ reachBytes) = true := hsz0
  rw [Try.params6] at hA hval hsz
  obtain ⟨v0, vs0, d0, ds0, p0, q0, hargs, rfl, rfl, h0, r0⟩ := trodAll_cons hA
  obtain ⟨rfl, rfl, rfl⟩ := trodAll_nil r0
  obtain rfl : args = #[v0] := by cases args; simp_all
  obtain ⟨rfl, rfl⟩ := trodVars_none hV
  obtain ⟨a0, rfl, rfl, rfl, w0⟩ := open_string Try.underlying9 (hval 0 9 v0 rfl rfl) h0
  have z0 := sized_string hsz (j := 0) (t := 9) rfl rfl
  clear hA0 hval0 hsz0
  simp only [List.append_nil] at hW'
  refine (walk a0 w0 z0 W).mono fun e W' ⟨he, hg⟩ => ?_
  subst he
  exact ⟨_, rfl, post_of_same (pa := []) (pv := []) hW' (fun _ _ _ => (trodAll_cons_mk (shut_bool Try.underlying4 _) trodAll_mk0)) (fun sp _ => (trodAll_cons_mk (shut_string Try.underlying9 w0) trodAll_mk0)) (fun _ _ => rfl) rfl
    (hg.frame _) hg.2.1 (ok_one (by kernel_rfl) rfl (okWide_bool_mk Try.underlying4 _))⟩

theorem over : Rows.crcResidueRow.holds Try.pinned (OpenSpec.ofChange Rows.crcResidueSpec) :=
  OpenClaim.holds_of_wide 6 Try.f6 rfl rfl rfl rfl rfl rfl rfl ⟨rfl, rfl, rfl, rfl, rfl⟩ rfl rfl rfl rfl rfl (by kernel_rfl) Try.func6 (by kernel_rfl)
    (of_decide_eq_true (by kernel_rfl)) (by unfold Func.isWrapper; first | (rw [if_pos (by decide +kernel)]; kernel_rfl) | (rw [if_neg (by decide +kernel)]; exact ⟨rfl, rfl⟩))
    (fun os started H enc _ => lifted os started H enc)

/-- the statement -/
theorem proved : Rows.CrcResidueSaid :=
  over
#print axioms proved
end Go.Proofs.Ytflpjploikkakaa.crcResidue
