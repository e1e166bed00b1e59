/- The contract of the examples that stand ahead of each law. -/
import Derived.Test.YtflpjploikkakaaSum
namespace Go.Proofs.Ytflpjploikkakaa
open Go.RowKit

theorem ex_sum (s : ByteArray) (n : Nat) (h : (M.sum s.data.toList).toNat = n) (hs : s.size ≤ maxLen) (w : World) :
    Calls Try.prog 9 #[.string s] w fun e w' => e = .returned (.int .u32 (n : Int)) ∧ w' = w := by
  have := sum_any s w hs
  rw [h] at this
  exact this
theorem ex1 (w : World) : Calls Try.prog 9 #[.string { data := #[49, 50, 51, 52, 53, 54, 55, 56, 57] }] w fun e w' => e = .returned (.int .u32 3421780262) ∧ w' = w :=
  ex_sum _ 3421780262 (by decide +kernel) (by decide) w
theorem ex2 (w : World) : Calls Try.prog 9 #[.string { data := #[] }] w fun e w' => e = .returned (.int .u32 0) ∧ w' = w :=
  ex_sum _ 0 (by decide +kernel) (by decide) w
theorem ex3 (w : World) : Calls Try.prog 10 #[.string { data := #[49, 50, 51, 52, 53, 54, 55, 56, 57] }, .int .u32 3421780262] w fun e w' => e = .returned (.bool true) ∧ w' = w := by
  have := check_any ⟨#[49, 50, 51, 52, 53, 54, 55, 56, 57]⟩ 3421780262#32 w (by decide)
  rw [show (M.sum (ByteArray.mk #[49, 50, 51, 52, 53, 54, 55, 56, 57]).data.toList == 3421780262#32) = true by decide +kernel] at this
  exact this
theorem ex4 (w : World) : Calls Try.prog 10 #[.string { data := #[120] }, .int .u32 0] w fun e w' => e = .returned (.bool false) ∧ w' = w := by
  have := check_any ⟨#[120]⟩ 0#32 w (by decide)
  rw [show (M.sum (ByteArray.mk #[120]).data.toList == 0#32) = false by decide +kernel] at this
  exact this
theorem ex5 (w : World) : Calls Try.prog 9 #[.string { data := #[49, 50, 51, 52] }] w fun e w' => e = .returned (.int .u32 ((M.sum [49, 50, 51, 52]).toNat : Int)) ∧ w' = w :=
  ex_sum _ _ (by decide +kernel) (by decide) w
theorem ex6 (w : World) : Calls Try.prog 9 #[.string { data := #[53, 54, 55, 56, 57] }] w fun e w' => e = .returned (.int .u32 ((M.sum [53, 54, 55, 56, 57]).toNat : Int)) ∧ w' = w :=
  ex_sum _ _ (by decide +kernel) (by decide) w
theorem ex7 (w : World) : Calls Try.prog 11 #[.int .u32 ((M.sum [49, 50, 51, 52]).toNat : Int), .int .u32 ((M.sum [53, 54, 55, 56, 57]).toNat : Int), .int .i64 5] w fun e w' => e = .returned (.int .u32 3421780262) ∧ w' = w := by
  have := join_any (M.sum [49, 50, 51, 52]) (M.sum [53, 54, 55, 56, 57]) 5 w (by decide) (by decide)
  rw [show (M.join (M.sum [49, 50, 51, 52]) (M.sum [53, 54, 55, 56, 57]) (5 : Int).toNat).toNat = 3421780262 by decide +kernel] at this
  exact this
theorem ex8 (w : World) : Calls Try.prog 11 #[.int .u32 7, .int .u32 9, .int .i64 0] w fun e w' => e = .returned (.int .u32 7) ∧ w' = w := by
  have := join_any 7#32 9#32 0 w (by decide) (by decide)
  rw [show (M.join 7#32 9#32 (0 : Int).toNat).toNat = 7 by decide +kernel] at this
  exact this

set_option maxHeartbeats 400000 in
theorem examples_any (w : World) :
    Calls Try.prog 7 #[] w fun e w' => e = .returned (.bool true) ∧ w' = w := by
  go_enter Try.func7, Try.ntmps7
  go_wp2_with fail
  refine (ex1 _).mono ?_; rintro e w' ⟨rfl, rfl⟩
  go_wp2_with fail
  refine (ex2 _).mono ?_; rintro e w' ⟨rfl, rfl⟩
  go_wp2_with fail
  refine (ex3 _).mono ?_; rintro e w' ⟨rfl, rfl⟩
  go_wp2_with fail
  refine (ex4 _).mono ?_; rintro e w' ⟨rfl, rfl⟩
  go_wp2_with fail
  refine (ex5 _).mono ?_; rintro e w' ⟨rfl, rfl⟩
  go_wp2_with fail
  refine (ex6 _).mono ?_; rintro e w' ⟨rfl, rfl⟩
  go_wp2_with fail
  refine (ex7 _).mono ?_; rintro e w' ⟨rfl, rfl⟩
  go_wp2_with fail
  refine (ex8 _).mono ?_; rintro e w' ⟨rfl, rfl⟩
  go_wp2_with fail
  go_ret
  exact ⟨rfl, rfl⟩
end Go.Proofs.Ytflpjploikkakaa
