/- mac: Right, May, the document's own Right; refToken, token. -/
import Derived.Test.YtlodahlinncpcaaDoorMacMath
import Derived.Test.YtlodahlinncpcaaDoorShaRefSum
import Derived.Laws.BitsAllLaws
namespace Go.Proofs.YtlodahlinncpcaaDoor.Mc
open Go.RowKit
set_option linter.unusedVariables false
set_option linter.unusedSimpArgs false
theorem right_true {T R : Int} {b : Nat} (h1 : 1 ≤ T) (h2 : T ≤ 8) (h3 : 1 ≤ b) (h4 : b ≤ 16) (h5 : 1 ≤ R) (h6 : R ≤ 3) : M.right T b R = true := by
  unfold M.right; rw [decide_eq_true_iff]; exact ⟨h1, h2, h3, h4, h5, h6⟩
theorem right_false {T R : Int} {b : Nat} (h : ¬ (1 ≤ T ∧ T ≤ 8 ∧ 1 ≤ b ∧ b ≤ 16 ∧ 1 ≤ R ∧ R ≤ 3)) : M.right T b R = false := by
  unfold M.right; rw [decide_eq_false_iff_not]; exact h
set_option maxHeartbeats 1000000 in
theorem right_any (T : Int) (B : ByteArray) (R : Int) (U : Nat) (w : World) (hB : B.size ≤ 9223372036854775807) :
    Calls Tryd.prog 31 #[.agg #[.int .i64 T, .string B, .int .i64 R, .int .u64 (U : Int)]] w fun e w' => e = .returned (.bool (M.right T B.size R)) ∧ Below w.heap.size w w' := by
  by_cases h0 : 1 ≤ T
  case neg =>
    have HD : Hid _ := right_false (T := T) (b := B.size) (R := R) (by omega)
    have d0 : decide ((1 : Int) ≤ T) = false := by rw [decide_eq_false_iff_not]; omega
    clear h0
    go_enter Tryd.func31, Tryd.ntmps31
    go_wp2_with fail
    go_ret
    rw [HD.out]
    exact ⟨rfl, (Below.refl _ _).alloc (Nat.le_refl _) _⟩
  by_cases h1 : T ≤ 8
  case neg =>
    have HD : Hid _ := right_false (T := T) (b := B.size) (R := R) (by omega)
    have d0 : decide ((1 : Int) ≤ T) = true := by rw [decide_eq_true_iff]; omega
    have d1 : decide (T ≤ 8) = false := by rw [decide_eq_false_iff_not]; omega
    clear h0 h1
    go_enter Tryd.func31, Tryd.ntmps31
    go_wp2_with fail
    go_ret
    rw [HD.out]
    exact ⟨rfl, (Below.refl _ _).alloc (Nat.le_refl _) _⟩
  by_cases h2 : 1 ≤ B.size
  case neg =>
    have HD : Hid _ := right_false (T := T) (b := B.size) (R := R) (by omega)
    have d0 : decide ((1 : Int) ≤ T) = true := by rw [decide_eq_true_iff]; omega
    have d1 : decide (T ≤ 8) = true := by rw [decide_eq_true_iff]; omega
    have d2 : decide ((1 : Int) ≤ (B.size : Int)) = false := by rw [decide_eq_false_iff_not]; omega
    clear h0 h1 h2
    go_enter Tryd.func31, Tryd.ntmps31
    go_wp2_with fail
    go_ret
    rw [HD.out]
    exact ⟨rfl, (Below.refl _ _).alloc (Nat.le_refl _) _⟩
  by_cases h3 : B.size ≤ 16
  case neg =>
    have HD : Hid _ := right_false (T := T) (b := B.size) (R := R) (by omega)
    have d0 : decide ((1 : Int) ≤ T) = true := by rw [decide_eq_true_iff]; omega
    have d1 : decide (T ≤ 8) = true := by rw [decide_eq_true_iff]; omega
    have d2 : decide ((1 : Int) ≤ (B.size : Int)) = true := by rw [decide_eq_true_iff]; omega
    have d3 : decide ((B.size : Int) ≤ 16) = false := by rw [decide_eq_false_iff_not]; omega
    clear h0 h1 h2 h3
    go_enter Tryd.func31, Tryd.ntmps31
    go_wp2_with fail
    go_ret
    rw [HD.out]
    exact ⟨rfl, (Below.refl _ _).alloc (Nat.le_refl _) _⟩
  by_cases h4 : 1 ≤ R
  case neg =>
    have HD : Hid _ := right_false (T := T) (b := B.size) (R := R) (by omega)
    have d0 : decide ((1 : Int) ≤ T) = true := by rw [decide_eq_true_iff]; omega
    have d1 : decide (T ≤ 8) = true := by rw [decide_eq_true_iff]; omega
    have d2 : decide ((1 : Int) ≤ (B.size : Int)) = true := by rw [decide_eq_true_iff]; omega
    have d3 : decide ((B.size : Int) ≤ 16) = true := by rw [decide_eq_true_iff]; omega
    have d4 : decide ((1 : Int) ≤ R) = false := by rw [decide_eq_false_iff_not]; omega
    clear h0 h1 h2 h3 h4
    go_enter Tryd.func31, Tryd.ntmps31
    go_wp2_with fail
    go_ret
    rw [HD.out]
    exact ⟨rfl, (Below.refl _ _).alloc (Nat.le_refl _) _⟩
  by_cases h5 : R ≤ 3
  case neg =>
    have HD : Hid _ := right_false (T := T) (b := B.size) (R := R) (by omega)
    have d0 : decide ((1 : Int) ≤ T) = true := by rw [decide_eq_true_iff]; omega
    have d1 : decide (T ≤ 8) = true := by rw [decide_eq_true_iff]; omega
    have d2 : decide ((1 : Int) ≤ (B.size : Int)) = true := by rw [decide_eq_true_iff]; omega
    have d3 : decide ((B.size : Int) ≤ 16) = true := by rw [decide_eq_true_iff]; omega
    have d4 : decide ((1 : Int) ≤ R) = true := by rw [decide_eq_true_iff]; omega
    have d5 : decide (R ≤ 3) = false := by rw [decide_eq_false_iff_not]; omega
    clear h0 h1 h2 h3 h4 h5
    go_enter Tryd.func31, Tryd.ntmps31
    go_wp2_with fail
    go_ret
    rw [HD.out]
    exact ⟨rfl, (Below.refl _ _).alloc (Nat.le_refl _) _⟩
  have HD : Hid _ := right_true h0 h1 h2 h3 h4 h5
  have d0 : decide ((1 : Int) ≤ T) = true := by rw [decide_eq_true_iff]; omega
  have d1 : decide (T ≤ 8) = true := by rw [decide_eq_true_iff]; omega
  have d2 : decide ((1 : Int) ≤ (B.size : Int)) = true := by rw [decide_eq_true_iff]; omega
  have d3 : decide ((B.size : Int) ≤ 16) = true := by rw [decide_eq_true_iff]; omega
  have d4 : decide ((1 : Int) ≤ R) = true := by rw [decide_eq_true_iff]; omega
  have d5 : decide (R ≤ 3) = true := by rw [decide_eq_true_iff]; omega
  clear h0 h1 h2 h3 h4 h5
  go_enter Tryd.func31, Tryd.ntmps31
  go_wp2_with fail
  go_ret
  rw [HD.out]
  exact ⟨rfl, (Below.refl _ _).alloc (Nat.le_refl _) _⟩
set_option maxHeartbeats 1000000 in
theorem ref_right (T : Int) (B : ByteArray) (R : Int) (U : Nat) (w : World) (hB : B.size ≤ 9223372036854775807) :
    Calls Tryd.prog 32 #[.agg #[.int .i64 T, .string B, .int .i64 R, .int .u64 (U : Int)]] w fun e w' => e = .returned (.bool (M.right T B.size R)) ∧ Below w.heap.size w w' := by
  by_cases h0 : 1 ≤ T
  case neg =>
    have HD : Hid _ := right_false (T := T) (b := B.size) (R := R) (by omega)
    have d0 : decide ((1 : Int) ≤ T) = false := by rw [decide_eq_false_iff_not]; omega
    clear h0
    go_enter Tryd.func32, Tryd.ntmps32
    go_wp2_with fail
    go_ret
    rw [HD.out]
    exact ⟨rfl, (Below.refl _ _).alloc (Nat.le_refl _) _⟩
  by_cases h1 : T ≤ 8
  case neg =>
    have HD : Hid _ := right_false (T := T) (b := B.size) (R := R) (by omega)
    have d0 : decide ((1 : Int) ≤ T) = true := by rw [decide_eq_true_iff]; omega
    have d1 : decide (T ≤ 8) = false := by rw [decide_eq_false_iff_not]; omega
    clear h0 h1
    go_enter Tryd.func32, Tryd.ntmps32
    go_wp2_with fail
    go_ret
    rw [HD.out]
    exact ⟨rfl, (Below.refl _ _).alloc (Nat.le_refl _) _⟩
  by_cases h2 : 1 ≤ B.size
  case neg =>
    have HD : Hid _ := right_false (T := T) (b := B.size) (R := R) (by omega)
    have d0 : decide ((1 : Int) ≤ T) = true := by rw [decide_eq_true_iff]; omega
    have d1 : decide (T ≤ 8) = true := by rw [decide_eq_true_iff]; omega
    have d2 : decide ((1 : Int) ≤ (B.size : Int)) = false := by rw [decide_eq_false_iff_not]; omega
    clear h0 h1 h2
    go_enter Tryd.func32, Tryd.ntmps32
    go_wp2_with fail
    go_ret
    rw [HD.out]
    exact ⟨rfl, (Below.refl _ _).alloc (Nat.le_refl _) _⟩
  by_cases h3 : B.size ≤ 16
  case neg =>
    have HD : Hid _ := right_false (T := T) (b := B.size) (R := R) (by omega)
    have d0 : decide ((1 : Int) ≤ T) = true := by rw [decide_eq_true_iff]; omega
    have d1 : decide (T ≤ 8) = true := by rw [decide_eq_true_iff]; omega
    have d2 : decide ((1 : Int) ≤ (B.size : Int)) = true := by rw [decide_eq_true_iff]; omega
    have d3 : decide ((B.size : Int) ≤ 16) = false := by rw [decide_eq_false_iff_not]; omega
    clear h0 h1 h2 h3
    go_enter Tryd.func32, Tryd.ntmps32
    go_wp2_with fail
    go_ret
    rw [HD.out]
    exact ⟨rfl, (Below.refl _ _).alloc (Nat.le_refl _) _⟩
  by_cases h4 : 1 ≤ R
  case neg =>
    have HD : Hid _ := right_false (T := T) (b := B.size) (R := R) (by omega)
    have d0 : decide ((1 : Int) ≤ T) = true := by rw [decide_eq_true_iff]; omega
    have d1 : decide (T ≤ 8) = true := by rw [decide_eq_true_iff]; omega
    have d2 : decide ((1 : Int) ≤ (B.size : Int)) = true := by rw [decide_eq_true_iff]; omega
    have d3 : decide ((B.size : Int) ≤ 16) = true := by rw [decide_eq_true_iff]; omega
    have d4 : decide ((1 : Int) ≤ R) = false := by rw [decide_eq_false_iff_not]; omega
    clear h0 h1 h2 h3 h4
    go_enter Tryd.func32, Tryd.ntmps32
    go_wp2_with fail
    go_ret
    rw [HD.out]
    exact ⟨rfl, (Below.refl _ _).alloc (Nat.le_refl _) _⟩
  by_cases h5 : R ≤ 3
  case neg =>
    have HD : Hid _ := right_false (T := T) (b := B.size) (R := R) (by omega)
    have d0 : decide ((1 : Int) ≤ T) = true := by rw [decide_eq_true_iff]; omega
    have d1 : decide (T ≤ 8) = true := by rw [decide_eq_true_iff]; omega
    have d2 : decide ((1 : Int) ≤ (B.size : Int)) = true := by rw [decide_eq_true_iff]; omega
    have d3 : decide ((B.size : Int) ≤ 16) = true := by rw [decide_eq_true_iff]; omega
    have d4 : decide ((1 : Int) ≤ R) = true := by rw [decide_eq_true_iff]; omega
    have d5 : decide (R ≤ 3) = false := by rw [decide_eq_false_iff_not]; omega
    clear h0 h1 h2 h3 h4 h5
    go_enter Tryd.func32, Tryd.ntmps32
    go_wp2_with fail
    go_ret
    rw [HD.out]
    exact ⟨rfl, (Below.refl _ _).alloc (Nat.le_refl _) _⟩
  have HD : Hid _ := right_true h0 h1 h2 h3 h4 h5
  have d0 : decide ((1 : Int) ≤ T) = true := by rw [decide_eq_true_iff]; omega
  have d1 : decide (T ≤ 8) = true := by rw [decide_eq_true_iff]; omega
  have d2 : decide ((1 : Int) ≤ (B.size : Int)) = true := by rw [decide_eq_true_iff]; omega
  have d3 : decide ((B.size : Int) ≤ 16) = true := by rw [decide_eq_true_iff]; omega
  have d4 : decide ((1 : Int) ≤ R) = true := by rw [decide_eq_true_iff]; omega
  have d5 : decide (R ≤ 3) = true := by rw [decide_eq_true_iff]; omega
  clear h0 h1 h2 h3 h4 h5
  go_enter Tryd.func32, Tryd.ntmps32
  go_wp2_with fail
  go_ret
  rw [HD.out]
  exact ⟨rfl, (Below.refl _ _).alloc (Nat.le_refl _) _⟩
end Go.Proofs.YtlodahlinncpcaaDoor.Mc
