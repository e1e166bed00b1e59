/- mac: refToken, token, May. -/
import Derived.Test.YtlodahlinncpcaaDoorMacSmall
namespace Go.Proofs.YtlodahlinncpcaaDoor.Mc
open Go.RowKit
set_option linter.unusedVariables false
set_option linter.unusedSimpArgs false
set_option maxHeartbeats 1000000 in
theorem refToken_any (T : Int) (B : ByteArray) (R : Int) (U : Int) (w : World) :
    Calls Tryd.prog 30 #[.agg #[.int .i64 T, .string B, .int .i64 R, .int .u64 U]] w fun e w' => e = .returned (.agg #[.int .i64 T, .string B, .int .i64 R, .int .u64 U]) ∧ Below w.heap.size w w' := by
  go_enter Tryd.func30, Tryd.ntmps30
  go_wp2_with fail
  refine bodyPost_ret (v := .agg #[.int .i64 T, .string B, .int .i64 R, .int .u64 U]) (by simp [results, Tryd.results30, go_sem]) rfl ⟨rfl, ?_⟩
  exact ((Below.refl _ _).alloc (Nat.le_refl _) _).alloc (by simp) _
set_option maxHeartbeats 1000000 in
theorem token_as (T : Int) (B : ByteArray) (R : Int) (U : Int) (w : World) :
    Calls Tryd.prog 27 #[.agg #[.int .i64 T, .string B, .int .i64 R, .int .u64 U, .bool false]] w fun e w' => e = .returned (.agg #[.int .i64 T, .string B, .int .i64 R, .int .u64 U]) ∧ Below w.heap.size w w' := by
  go_enter Tryd.func27, Tryd.ntmps27
  go_wp2_with fail
  refine bodyPost_ret (v := .agg #[.int .i64 T, .string B, .int .i64 R, .int .u64 U]) (by simp [results, Tryd.results27, go_sem]) rfl ⟨rfl, ?_⟩
  exact ((Below.refl _ _).alloc (Nat.le_refl _) _).alloc (by simp) _
/-- a number as Go's uint -/
def un (T : Int) : Nat := (T % 18446744073709551616).toNat
theorem un_eq (T : Int) : IntKind.u64.wrap T = (un T : Int) := by rw [IntKind.wrap_u64, un]; omega
theorem un_lt (T : Int) : un T < 18446744073709551616 := by unfold un; omega
/-- the bucket of a token that is right -/
def buck (B : ByteArray) : ByteArray := S [98] ++ B.extract 0 (Nat.min B.size 4)
theorem buck_size (B : ByteArray) : 1 ≤ (buck B).size ∧ (buck B).size ≤ 5 := by
  rw [buck, ByteArray.size_append, S_size, ByteArray.size_extract]
  have : Nat.min B.size 4 ≤ 4 := Nat.min_le_right _ _
  simp; omega
set_option maxHeartbeats 1000000 in
set_option maxRecDepth 100000 in
theorem token_own (T : Int) (B : ByteArray) (R : Int) (U : Nat) (w : World) (hB : B.size ≤ 9223372036854775807) (hU : U < 18446744073709551616) :
    Calls Tryd.prog 27 #[.agg #[.int .i64 T, .string B, .int .i64 R, .int .u64 (U : Int), .bool true]] w fun e w' => e = .returned (.agg #[.int .i64 ((1 + un T % 8 : Nat) : Int), .string (buck B), .int .i64 ((1 + un R % 3 : Nat) : Int), .int .u64 ((U % 50 : Nat) : Int)]) ∧ Below w.heap.size w w' := by
  have e1 := un_eq T
  have e2 := un_eq R
  have l1 := un_lt T
  have l2 := un_lt R
  obtain ⟨m, hm⟩ : ∃ m, m = Nat.min B.size 4 := ⟨_, rfl⟩
  have hm1 : m ≤ B.size := by rw [hm]; exact Nat.min_le_left _ _
  have hm4 : m ≤ 4 := by rw [hm]; exact Nat.min_le_right _ _
  have hmi : (m : Int) ≤ (B.size : Int) := by omega
  have hmin : (if (4 : Int) < (B.size : Int) then (4 : Int) else (B.size : Int)) = (m : Int) := by
    rw [hm]; split
    · rw [show Nat.min B.size 4 = 4 from Nat.min_eq_right (by omega)]; rfl
    · rw [show Nat.min B.size 4 = B.size from Nat.min_eq_left (by omega)]
  have HBK : Hid (buck B = ⟨#[98]⟩ ++ B.extract 0 m) := by show _ = _; rw [buck, hm]; rfl
  have hbs : (B.extract 0 m).size ≤ 4 := by rw [ByteArray.size_extract]; omega
  have hcat : (⟨#[98]⟩ : ByteArray).size + (B.extract 0 m).size ≤ 9223372036854775807 := by show 1 + _ ≤ _; omega
  have hcat' : (((⟨#[98]⟩ : ByteArray).size : Int) + ((B.extract 0 m).size : Int)) ≤ 9223372036854775807 := by show (1 : Int) + _ ≤ _; omega
  have hcat2 : (1 : Int) + ((B.extract 0 m).size : Int) ≤ 9223372036854775807 := by omega
  clear hm
  generalize un T = x at *
  generalize un R = y at *
  have a1 : (x : Int).tmod 8 = ((x % 8 : Nat) : Int) := by rw [Int.tmod_eq_emod_of_nonneg (by omega)]; omega
  have b1 : (y : Int).tmod 3 = ((y % 3 : Nat) : Int) := by rw [Int.tmod_eq_emod_of_nonneg (by omega)]; omega
  have c1 : (U : Int).tmod 50 = ((U % 50 : Nat) : Int) := by rw [Int.tmod_eq_emod_of_nonneg (by omega)]; omega
  obtain ⟨x8, hx8⟩ : ∃ r, r = x % 8 := ⟨_, rfl⟩
  obtain ⟨y3, hy3⟩ : ∃ r, r = y % 3 := ⟨_, rfl⟩
  obtain ⟨u5, hu5⟩ : ∃ r, r = U % 50 := ⟨_, rfl⟩
  rw [← hx8] at a1
  rw [← hy3] at b1
  rw [← hu5] at c1
  have lx : x8 < 8 := by omega
  have ly : y3 < 3 := by omega
  have lu : u5 < 50 := by omega
  rw [← hx8, ← hy3, ← hu5]
  have a2 : IntKind.i64.wrap (x8 : Int) = x8 := IntWalk.i64_in _ ⟨by omega, by omega⟩
  have b2 : IntKind.i64.wrap (y3 : Int) = y3 := IntWalk.i64_in _ ⟨by omega, by omega⟩
  obtain ⟨x9, hx9⟩ : ∃ r, r = 1 + x8 := ⟨_, rfl⟩
  obtain ⟨y4, hy4⟩ : ∃ r, r = 1 + y3 := ⟨_, rfl⟩
  have a3 : IntKind.i64.wrap (1 + (x8 : Int)) = (x9 : Int) := by rw [IntWalk.i64_in _ ⟨by omega, by omega⟩]; omega
  have b3 : IntKind.i64.wrap (1 + (y3 : Int)) = (y4 : Int) := by rw [IntWalk.i64_in _ ⟨by omega, by omega⟩]; omega
  have c2 : IntKind.u64.wrap (u5 : Int) = (u5 : Int) := by rw [IntKind.wrap_u64]; omega
  rw [← hx9, ← hy4]
  clear hx8 hy3 hu5 hx9 hy4 lx ly lu l1 l2
  go_enter Tryd.func27, Tryd.ntmps27
  go_wp2_with fail
  refine region_tail 29 Tryd.mixed (by kernel_rfl) ?_
  simp only [List.take_succ_cons, List.take_zero, List.drop_succ_cons, List.drop_zero]
  repeat still_step
  refine still_concat rfl _ _ _ _ rfl ⟨#[98]⟩ (B.extract 0 m) rfl rfl hcat ?_
  repeat still_step
  refine wpStill_nil ?_
  go_wp2_with fail
  refine bodyPost_ret (v := .agg #[.int .i64 (x9 : Int), .string (buck B), .int .i64 (y4 : Int), .int .u64 (u5 : Int)]) (by rw [HBK.out]; simp [results, Tryd.results27, go_sem]) rfl ⟨rfl, ?_⟩
  exact (((Below.refl _ _).alloc (Nat.le_refl _) _).alloc (by simp) _).drew
/-- what a token may -/
def may (T : Int) (B : ByteArray) (R : Nat) (T' : Int) (B' : ByteArray) (r : Nat) : Bool := decide ((r = 1 ∨ r = 2) ∧ T = T' ∧ B = B' ∧ (R / r) % 2 = 1)
theorem tol_eq (a b : ByteArray) : (a.toList == b.toList) = decide (a = b) := by
  rw [ByteArray.toList_eq, ByteArray.toList_eq, Bool.eq_iff_iff]
  rw [decide_eq_true_iff, beq_iff_eq, ← S_inj, S_of, S_of]
set_option maxHeartbeats 1000000 in
theorem may_not (T : Int) (B : ByteArray) (R U : Int) (T' : Int) (B' : ByteArray) (r : Int) (w : World) (h1 : (r != 1) = true) (h2 : (r != 2) = true) :
    Calls Tryd.prog 36 #[.agg #[.int .i64 T, .string B, .int .i64 R, .int .u64 U], .int .i64 T', .string B', .int .i64 r] w fun e w' => e = .returned (.bool false) ∧ Below w.heap.size w w' := by
  go_enter Tryd.func36, Tryd.ntmps36
  go_wp2_with fail
  go_ret
  exact ⟨rfl, (Below.refl _ _).alloc (Nat.le_refl _) _⟩
set_option maxHeartbeats 1000000 in
theorem may_core (T : Int) (B : ByteArray) (R U : Int) (T' : Int) (B' : ByteArray) (r : Int) (w : World) (h1 : (r != 1 && r != 2) = false) (z : Bool) (hz : (bits .and .i64 R r != 0) = z) :
    Calls Tryd.prog 36 #[.agg #[.int .i64 T, .string B, .int .i64 R, .int .u64 U], .int .i64 T', .string B', .int .i64 r] w fun e w' => e = .returned (.bool (decide (T = T') && decide (B = B') && z)) ∧ Below w.heap.size w w' := by
  by_cases hT : T = T'
  · have dT : (T == T') = true := by rw [beq_iff_eq]; exact hT
    have eT : decide (T = T') = true := by rw [decide_eq_true_iff]; exact hT
    by_cases hB : B = B'
    · have dB : (B.toList == B'.toList) = true := by rw [tol_eq, decide_eq_true_iff]; exact hB
      have eB : decide (B = B') = true := by rw [decide_eq_true_iff]; exact hB
      have HE : Hid _ := And.intro eT eB
      clear hT hB eT eB
      rcases Bool.eq_false_or_eq_true (r != 1) with hr | hr
      all_goals
        first
        | (rw [hr, Bool.true_and] at h1)
        | skip
        go_enter Tryd.func36, Tryd.ntmps36
        go_wp2_with fail
        go_ret
        rw [HE.out.1, HE.out.2]
        exact ⟨by simp, (Below.refl _ _).alloc (Nat.le_refl _) _⟩
    · have dB : (B.toList == B'.toList) = false := by rw [tol_eq, decide_eq_false_iff_not]; exact hB
      have eB : decide (B = B') = false := by rw [decide_eq_false_iff_not]; exact hB
      have HE : Hid _ := And.intro eT eB
      clear hT hB eT eB
      rcases Bool.eq_false_or_eq_true (r != 1) with hr | hr
      all_goals
        first
        | (rw [hr, Bool.true_and] at h1)
        | skip
        go_enter Tryd.func36, Tryd.ntmps36
        go_wp2_with fail
        go_ret
        rw [HE.out.1, HE.out.2]
        exact ⟨by simp, (Below.refl _ _).alloc (Nat.le_refl _) _⟩
  · have dT : (T == T') = false := by rw [beq_eq_false_iff_ne]; exact hT
    have eT : decide (T = T') = false := by rw [decide_eq_false_iff_not]; exact hT
    have HE : Hid _ := eT
    clear hT eT
    rcases Bool.eq_false_or_eq_true (r != 1) with hr | hr
    all_goals
      first
      | (rw [hr, Bool.true_and] at h1)
      | skip
      go_enter Tryd.func36, Tryd.ntmps36
      go_wp2_with fail
      go_ret
      rw [HE.out]
      exact ⟨by simp, (Below.refl _ _).alloc (Nat.le_refl _) _⟩
end Go.Proofs.YtlodahlinncpcaaDoor.Mc
