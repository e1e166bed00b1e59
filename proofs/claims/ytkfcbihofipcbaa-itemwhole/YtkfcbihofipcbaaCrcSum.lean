/- The contracts of Sum, Check and Join, the program's and the document's. -/
import Derived.Test.YtkfcbihofipcbaaCrcStep

namespace Go.Proofs.Ytkfcbihofipcbaa.Cr

open Go.RowKit

theorem ret_int {k : IntKind} {a b : Int} (h : a = b) : Ending.returned (.int k a) = .returned (.int k b) := by rw [h]
theorem ret_bool {a b : Bool} (h : a = b) : Ending.returned (.bool a) = .returned (.bool b) := by rw [h]
theorem take_snoc (s : ByteArray) (k : Nat) (h : k < s.size) : s.data.toList.take (k + 1) = s.data.toList.take k ++ [s[k]] := by
  rw [List.take_succ_eq_append_getElem (by simpa using h)]; rfl
theorem run_snoc (c : BitVec 32) (l : List UInt8) (b : UInt8) : M.run c (l ++ [b]) = M.step (M.run c l) b := by
  rw [M.run_append]; rfl
theorem xor_max (x : BitVec 32) : bits .xor .u32 IntKind.u32.max (x.toNat : Int) = ((~~~ x).toNat : Int) := by
  have e : IntKind.u32.max = ((4294967295 : Nat) : Int) := by decide
  rw [e, u32_xor_nat _ _ (by omega) x.isLt, ← M.ones_xor, BitVec.toNat_xor]
  rfl
theorem xor_two (x y : BitVec 32) : bits .xor .u32 (x.toNat : Int) (y.toNat : Int) = ((x ^^^ y).toNat : Int) := by
  rw [u32_xor_nat _ _ x.isLt y.isLt, BitVec.toNat_xor]
theorem eq_nat (x y : BitVec 32) : ((x.toNat : Int) == (y.toNat : Int)) = (x == y) := by
  rw [Bool.eq_iff_iff, beq_iff_eq, beq_iff_eq]
  constructor
  · intro h; apply BitVec.eq_of_toNat_eq; omega
  · intro h; rw [h]

set_option maxHeartbeats 400000 in
theorem sum_any (s : ByteArray) (w : World) (hs : s.size ≤ 4611686018427387904) :
    Calls Try.prog 49 #[.string s] w fun e w' => e = .returned (.int .u32 ((M.sum s.data.toList).toNat : Int)) ∧ w' = w := by
  go_enter Try.func49, Try.ntmps49
  go_wp2
  go_loop [3, 7] (fun t i => ∃ k : Nat, k ≤ s.size ∧ i = .int .i64 k ∧ t = .int .u32 ((M.run M.ones (s.data.toList.take k)).toNat : Int)) (fun _ i => s.size - (intOf i).toNat)
  case atStart => exact ⟨0, Nat.zero_le _, rfl, rfl⟩
  case round =>
    obtain ⟨k, hk, rfl, rfl⟩ := hrel
    by_cases hlt : k < s.size
    · have H8 : Hid (M.run M.ones (s.data.toList.take (k + 1)) = M.step (M.run M.ones (s.data.toList.take k)) s[k]) := by
        show _ = _
        rw [take_snoc s k hlt, run_snoc]
      generalize M.run M.ones (s.data.toList.take k) = x at *
      go_wp2_with (go_at_call 65; refine (step_any _ _ _).mono ?_; rintro e w' ⟨rfl, rfl⟩)
      go_round
      case rel => exact ⟨k + 1, by omega, by go_num, by rw [H8.out]⟩
      case measure => simp [intOf]; omega
    · have H9 : Hid (M.sum s.data.toList = ~~~ M.run M.ones (s.data.toList.take k)) := by
        show _ = _
        rw [List.take_of_length_le (by simp; omega)]; rfl
      generalize M.run M.ones (s.data.toList.take k) = x at *
      go_wp2
      go_ret
      rw [H9.out]
      exact ⟨ret_int (xor_max x), rfl⟩

set_option maxHeartbeats 400000 in
theorem rsum_any (s : ByteArray) (w : World) (hs : s.size ≤ 4611686018427387904) :
    Calls Try.prog 51 #[.string s] w fun e w' => e = .returned (.int .u32 ((M.sum s.data.toList).toNat : Int)) ∧ w' = w := by
  go_enter Try.func51, Try.ntmps51
  go_wp2
  go_loop [3, 4] (fun t i => ∃ k : Nat, k ≤ s.size ∧ i = .int .i64 k ∧ t = .int .u32 ((M.run M.ones (s.data.toList.take k)).toNat : Int)) (fun _ i => s.size - (intOf i).toNat)
  case atStart => exact ⟨0, Nat.zero_le _, rfl, rfl⟩
  case round =>
    obtain ⟨k, hk, rfl, rfl⟩ := hrel
    by_cases hlt : k < s.size
    · have H8 : Hid (M.run M.ones (s.data.toList.take (k + 1)) = M.step (M.run M.ones (s.data.toList.take k)) s[k]) := by
        show _ = _
        rw [take_snoc s k hlt, run_snoc]
      generalize M.run M.ones (s.data.toList.take k) = x at *
      go_wp2_with (go_at_call 67; refine (rstep_any _ _ _).mono ?_; rintro e w' ⟨rfl, rfl⟩)
      go_round
      case rel => exact ⟨k + 1, by omega, by go_num, by rw [H8.out]⟩
      case measure => simp [intOf]; omega
    · have H9 : Hid (M.sum s.data.toList = ~~~ M.run M.ones (s.data.toList.take k)) := by
        show _ = _
        rw [List.take_of_length_le (by simp; omega)]; rfl
      generalize M.run M.ones (s.data.toList.take k) = x at *
      go_wp2
      go_ret
      rw [H9.out]
      exact ⟨ret_int (xor_max x), rfl⟩

theorem step_zero (x : BitVec 32) : M.step x 0 = M.it 8 x := by
  unfold M.step
  have : M.ext 0 = 0#32 := by decide
  rw [this, BitVec.xor_zero]

theorem step0_any (x : BitVec 32) (w : World) :
    Calls Try.prog 65 #[.int .u32 (x.toNat : Int), .int .u8 0] w fun e w' => e = .returned (.int .u32 ((M.it 8 x).toNat : Int)) ∧ w' = w := by
  have := step_any x 0 w
  rw [step_zero] at this
  exact this
theorem rstep0_any (x : BitVec 32) (w : World) :
    Calls Try.prog 67 #[.int .u32 (x.toNat : Int), .int .u8 0] w fun e w' => e = .returned (.int .u32 ((M.it 8 x).toNat : Int)) ∧ w' = w := by
  have := rstep_any x 0 w
  rw [step_zero] at this
  exact this

end Go.Proofs.Ytkfcbihofipcbaa.Cr
