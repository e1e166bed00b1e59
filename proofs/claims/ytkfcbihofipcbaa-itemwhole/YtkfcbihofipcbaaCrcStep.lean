/- The contracts of the two steps. -/
import Derived.Test.YtkfcbihofipcbaaRows

import Derived.Test.YtkfcbihofipcbaaCrcMath

import Derived.WalkKit

import Derived.WalkLawsBesides

import Derived.Outline

import Derived.Laws.BitsAllLaws

namespace Go.Proofs.Ytkfcbihofipcbaa.Cr

open Go.RowKit

theorem vint {k : IntKind} {a b : Int} (h : a = b) : Value.int k a = .int k b := by rw [h]

theorem ext_toNat (b : UInt8) : (M.ext b).toNat = b.toNat := by
  unfold M.ext; rw [BitVec.toNat_ofNat]; have := b.toNat_lt; omega
theorem xor_in (c : BitVec 32) (b : UInt8) : bits .xor .u32 (c.toNat : Int) ((b.toNat : Int) % 4294967296) = ((c ^^^ M.ext b).toNat : Int) := by
  have hb := b.toNat_lt
  have e : ((b.toNat : Int) % 4294967296) = ((b.toNat : Nat) : Int) := by omega
  rw [e, u32_xor_nat _ _ c.isLt (by omega), BitVec.toNat_xor, ext_toNat]
theorem and_one (x : BitVec 32) : bits .and .u32 (x.toNat : Int) 1 = if x.getLsbD 0 then 1 else 0 := by
  have := u32_and_nat x.toNat 1 x.isLt (by omega)
  rw [show ((1 : Nat) : Int) = 1 from rfl] at this
  rw [this, nat_mask1]
  have e : x.getLsbD 0 = decide (x.toNat % 2 = 1) := by
    rw [BitVec.getLsbD, Nat.testBit_zero]
  rw [e]
  by_cases h : x.toNat % 2 = 1
  · simp [h]
  · have : x.toNat % 2 = 0 := by omega
    simp [this]
theorem mod_two (x : BitVec 32) : (x.toNat : Int) % 2 = if x.getLsbD 0 then 1 else 0 := by
  have e : x.getLsbD 0 = decide (x.toNat % 2 = 1) := by
    rw [BitVec.getLsbD, Nat.testBit_zero]
  rw [e]
  by_cases h : x.toNat % 2 = 1
  · rw [if_pos (by simp [h])]; omega
  · rw [if_neg (by simp [h])]; omega
theorem m_half (x : BitVec 32) : (x.toNat : Int) / (2 : Int) = ((x >>> 1).toNat : Int) := by
  rw [BitVec.toNat_ushiftRight, Nat.shiftRight_eq_div_pow]; simp
theorem xor_poly (x : BitVec 32) : bits .xor .u32 (x.toNat : Int) 3988292384 = ((x ^^^ M.poly).toNat : Int) := by
  have := u32_xor_nat x.toNat 3988292384 x.isLt (by omega)
  rw [show ((3988292384 : Nat) : Int) = 3988292384 from rfl] at this
  rw [this, BitVec.toNat_xor]
  rfl

set_option maxHeartbeats 400000 in
/-- the program's step -/
theorem step_any (c : BitVec 32) (b : UInt8) (w : World) :
    Calls Try.prog 65 #[.int .u32 (c.toNat : Int), .int .u8 (b.toNat : Int)] w fun e w' => e = .returned (.int .u32 ((M.step c b).toNat : Int)) ∧ w' = w := by
  go_enter Try.func65, Try.ntmps65
  go_wp2
  go_loop [0, 10] (fun t i => ∃ k : Nat, k ≤ 8 ∧ i = .int .i64 k ∧ t = .int .u32 ((M.it k (c ^^^ M.ext b)).toNat : Int)) (fun _ i => 8 - (intOf i).toNat)
  case atStart => exact ⟨0, Nat.zero_le _, rfl, vint (xor_in c b)⟩
  case round =>
    obtain ⟨k, hk, rfl, rfl⟩ := hrel
    have H8 : Hid (M.it (k + 1) (c ^^^ M.ext b) = M.s1 (M.it k (c ^^^ M.ext b))) := rfl
    have H9 : Hid (k = 8 → M.step c b = M.it k (c ^^^ M.ext b)) := fun h => by subst h; rfl
    generalize M.it k (c ^^^ M.ext b) = x at *
    by_cases hlt : k < 8
    · by_cases hb : x.getLsbD 0 = true
      · have h1 : bits .and .u32 (x.toNat : Int) 1 = 1 := by rw [and_one, if_pos hb]
        go_wp2
        go_round
        case rel =>
          refine ⟨k + 1, by omega, by go_num, ?_⟩
          rw [H8.out]; unfold M.s1; rw [if_pos hb, m_half, xor_poly]
        case measure => simp [intOf]; omega
      · have h1 : bits .and .u32 (x.toNat : Int) 1 = 0 := by rw [and_one, if_neg hb]
        go_wp2
        go_round
        case rel =>
          refine ⟨k + 1, by omega, by go_num, ?_⟩
          rw [H8.out]; unfold M.s1; rw [if_neg hb, m_half, BitVec.xor_zero]
        case measure => simp [intOf]; omega
    · go_wp2
      go_ret
      rw [H9.out (by omega)]
      exact ⟨rfl, rfl⟩

set_option maxHeartbeats 400000 in
/-- the document's step -/
theorem rstep_any (c : BitVec 32) (b : UInt8) (w : World) :
    Calls Try.prog 67 #[.int .u32 (c.toNat : Int), .int .u8 (b.toNat : Int)] w fun e w' => e = .returned (.int .u32 ((M.step c b).toNat : Int)) ∧ w' = w := by
  go_enter Try.func67, Try.ntmps67
  go_wp2
  go_loop [0, 5] (fun t i => ∃ k : Nat, k ≤ 8 ∧ i = .int .i64 k ∧ t = .int .u32 ((M.it k (c ^^^ M.ext b)).toNat : Int)) (fun _ i => 8 - (intOf i).toNat)
  case atStart => exact ⟨0, Nat.zero_le _, rfl, vint (xor_in c b)⟩
  case round =>
    obtain ⟨k, hk, rfl, rfl⟩ := hrel
    have H8 : Hid (M.it (k + 1) (c ^^^ M.ext b) = M.s1 (M.it k (c ^^^ M.ext b))) := rfl
    have H9 : Hid (k = 8 → M.step c b = M.it k (c ^^^ M.ext b)) := fun h => by subst h; rfl
    generalize M.it k (c ^^^ M.ext b) = x at *
    by_cases hlt : k < 8
    · by_cases hb : x.getLsbD 0 = true
      · have h1 : (x.toNat : Int) % 2 = 1 := by rw [mod_two, if_pos hb]
        go_wp2
        go_round
        case rel =>
          refine ⟨k + 1, by omega, by go_num, ?_⟩
          rw [H8.out]; unfold M.s1; rw [if_pos hb, m_half, xor_poly]
        case measure => simp [intOf]; omega
      · have h1 : (x.toNat : Int) % 2 = 0 := by rw [mod_two, if_neg hb]
        go_wp2
        go_round
        case rel =>
          refine ⟨k + 1, by omega, by go_num, ?_⟩
          rw [H8.out]; unfold M.s1; rw [if_neg hb, m_half, BitVec.xor_zero]
        case measure => simp [intOf]; omega
    · go_wp2
      go_ret
      rw [H9.out (by omega)]
      exact ⟨rfl, rfl⟩
end Go.Proofs.Ytkfcbihofipcbaa.Cr
