/- The contracts of sha's smallest functions. -/
import Derived.Test.YtlodahlinncpcaaDoorRows
import Derived.Test.YtlodahlinncpcaaDoorShaMath
import Derived.WalkKit
import Derived.WalkLawsBesides
import Derived.WalkSpells
import Derived.Outline
import Derived.Below
import Derived.Laws.BitsAllLaws
namespace Go.Proofs.YtlodahlinncpcaaDoor
open Go.RowKit
set_option linter.unusedVariables false
set_option linter.unusedSimpArgs false

theorem neg_and (n : Nat) (h1 : 1 ≤ n) (h2 : n ≤ 31) : bits .and .u64 (IntKind.u64.wrap (-(n : Int))) 31 = ((32 - n : Nat) : Int) := by
  have e : IntKind.u64.wrap (-(n : Int)) = ((18446744073709551616 - n : Nat) : Int) := by rw [IntKind.wrap_u64]; omega
  rw [e, show (31 : Int) = ((31 : Nat) : Int) from rfl, u64_and_nat _ _ (by omega) (by omega), nat_mask5]
  omega
theorem rot_int (x n : Nat) (hx : x < 4294967296) (h2 : n ≤ 31) : bits .or .u32 ((x : Int) * 2 ^ (32 - n) % 4294967296) ((x : Int) / 2 ^ (32 - (32 - n))) = ((Q.rot x n : Nat) : Int) := by
  have e1 : (x : Int) * 2 ^ (32 - n) % 4294967296 = ((x * 2 ^ (32 - n) % 4294967296 : Nat) : Int) := by simp
  have e2 : (x : Int) / 2 ^ (32 - (32 - n)) = ((x / 2 ^ n : Nat) : Int) := by rw [show 32 - (32 - n) = n by omega]; simp
  rw [e1, e2, u32_or_nat _ _ (Nat.mod_lt _ (by omega)) (Nat.lt_of_le_of_lt (Nat.div_le_self _ _) hx)]
  rfl
theorem xor_int (a b : Nat) (ha : a < 4294967296) (hb : b < 4294967296) : bits .xor .u32 (a : Int) (b : Int) = ((a ^^^ b : Nat) : Int) := u32_xor_nat a b ha hb
theorem xor_lt (a b : Nat) (ha : a < 4294967296) (hb : b < 4294967296) : a ^^^ b < 4294967296 := Nat.xor_lt_two_pow (n := 32) ha hb
set_option maxHeartbeats 400000 in
theorem rotl (x n : Nat) (w : World) (hx : x < 4294967296) (h1 : 1 ≤ n) (h2 : n ≤ 31) :
    Calls Tryd.prog 75 #[.int .u32 x, .int .i64 (-(n : Int))] w fun e w' => e = .returned (.int .u32 (Q.rot x n : Nat)) ∧ w' = w := by
  have e1 := neg_and n h1 h2
  have e2 : IntKind.u64.wrap (32 - ((32 - n : Nat) : Int)) = (n : Int) := by rw [IntKind.wrap_u64]; omega
  have hm : ∃ m : Nat, m = 32 - n := ⟨_, rfl⟩
  obtain ⟨m, hm⟩ := hm
  rw [← hm] at e1 e2
  go_enter Tryd.func75, Tryd.ntmps75
  go_wp2
  go_ret
  rw [rot_int x n hx h2]
  exact ⟨rfl, rfl⟩
theorem turn_any (x n : Nat) (w : World) (hx : x < 4294967296) (h1 : 1 ≤ n) (h2 : n ≤ 31) :
    Calls Tryd.prog 69 #[.int .u32 x, .int .i64 n] w fun e w' => e = .returned (.int .u32 (Q.rot x n : Nat)) ∧ w' = w := by
  have C : Hid _ := fun w => rotl x n w hx h1 h2
  go_enter Tryd.func69, Tryd.ntmps69
  go_wp2_with fail
  refine (C.out _).mono ?_; rintro e w1 ⟨rfl, rfl⟩
  go_wp2_with fail
  go_ret
  exact ⟨rfl, rfl⟩
set_option maxHeartbeats 400000 in
theorem smallS0_any (x : Nat) (w : World) (hx : x < 4294967296) :
    Calls Tryd.prog 57 #[.int .u32 x] w fun e w' => e = .returned (.int .u32 (Q.s0 x : Nat)) ∧ w' = w := by
  have C1 : Hid _ := fun w => turn_any x 7 w hx (by omega) (by omega)
  have C2 : Hid _ := fun w => turn_any x 18 w hx (by omega) (by omega)
  have e1 := xor_int (Q.rot x 7) (Q.rot x 18) (Q.rot_lt x 7 hx) (Q.rot_lt x 18 hx)
  have e2 := xor_int (Q.rot x 7 ^^^ Q.rot x 18) (x / 8) (xor_lt _ _ (Q.rot_lt x 7 hx) (Q.rot_lt x 18 hx)) (by omega)
  have HE : Hid _ := And.intro e1 e2
  clear e1 e2
  go_enter Tryd.func57, Tryd.ntmps57
  go_wp2_with fail
  refine (C1.out _).mono ?_; rintro e w1 ⟨rfl, rfl⟩
  go_wp2_with fail
  refine (C2.out _).mono ?_; rintro e w1 ⟨rfl, rfl⟩
  go_wp2_with fail
  go_ret
  have e3 : (x : Int) / 8 = ((x / 8 : Nat) : Int) := by omega
  rw [e3] 
  rw [HE.out.1, HE.out.2]
  exact ⟨rfl, rfl⟩
set_option maxHeartbeats 400000 in
theorem smallS1_any (x : Nat) (w : World) (hx : x < 4294967296) :
    Calls Tryd.prog 56 #[.int .u32 x] w fun e w' => e = .returned (.int .u32 (Q.s1 x : Nat)) ∧ w' = w := by
  have C1 : Hid _ := fun w => turn_any x 17 w hx (by omega) (by omega)
  have C2 : Hid _ := fun w => turn_any x 19 w hx (by omega) (by omega)
  have e1 := xor_int (Q.rot x 17) (Q.rot x 19) (Q.rot_lt x 17 hx) (Q.rot_lt x 19 hx)
  have e2 := xor_int (Q.rot x 17 ^^^ Q.rot x 19) (x / 1024) (xor_lt _ _ (Q.rot_lt x 17 hx) (Q.rot_lt x 19 hx)) (by omega)
  have HE : Hid _ := And.intro e1 e2
  clear e1 e2
  go_enter Tryd.func56, Tryd.ntmps56
  go_wp2_with fail
  refine (C1.out _).mono ?_; rintro e w1 ⟨rfl, rfl⟩
  go_wp2_with fail
  refine (C2.out _).mono ?_; rintro e w1 ⟨rfl, rfl⟩
  go_wp2_with fail
  go_ret
  have e3 : (x : Int) / 1024 = ((x / 1024 : Nat) : Int) := by omega
  rw [e3] 
  rw [HE.out.1, HE.out.2]
  exact ⟨rfl, rfl⟩
set_option maxHeartbeats 400000 in
theorem bigS0_any (x : Nat) (w : World) (hx : x < 4294967296) :
    Calls Tryd.prog 59 #[.int .u32 x] w fun e w' => e = .returned (.int .u32 (Q.b0 x : Nat)) ∧ w' = w := by
  have C1 : Hid _ := fun w => turn_any x 2 w hx (by omega) (by omega)
  have C2 : Hid _ := fun w => turn_any x 13 w hx (by omega) (by omega)
  have C3 : Hid _ := fun w => turn_any x 22 w hx (by omega) (by omega)
  have e1 := xor_int (Q.rot x 2) (Q.rot x 13) (Q.rot_lt x 2 hx) (Q.rot_lt x 13 hx)
  have e2 := xor_int (Q.rot x 2 ^^^ Q.rot x 13) (Q.rot x 22) (xor_lt _ _ (Q.rot_lt x 2 hx) (Q.rot_lt x 13 hx)) (Q.rot_lt x 22 hx)
  have HE : Hid _ := And.intro e1 e2
  clear e1 e2
  go_enter Tryd.func59, Tryd.ntmps59
  go_wp2_with fail
  refine (C1.out _).mono ?_; rintro e w1 ⟨rfl, rfl⟩
  go_wp2_with fail
  refine (C2.out _).mono ?_; rintro e w1 ⟨rfl, rfl⟩
  go_wp2_with fail
  refine (C3.out _).mono ?_; rintro e w1 ⟨rfl, rfl⟩
  go_wp2_with fail
  go_ret
  rw [HE.out.1, HE.out.2]
  exact ⟨rfl, rfl⟩
set_option maxHeartbeats 400000 in
theorem bigS1_any (x : Nat) (w : World) (hx : x < 4294967296) :
    Calls Tryd.prog 58 #[.int .u32 x] w fun e w' => e = .returned (.int .u32 (Q.b1 x : Nat)) ∧ w' = w := by
  have C1 : Hid _ := fun w => turn_any x 6 w hx (by omega) (by omega)
  have C2 : Hid _ := fun w => turn_any x 11 w hx (by omega) (by omega)
  have C3 : Hid _ := fun w => turn_any x 25 w hx (by omega) (by omega)
  have e1 := xor_int (Q.rot x 6) (Q.rot x 11) (Q.rot_lt x 6 hx) (Q.rot_lt x 11 hx)
  have e2 := xor_int (Q.rot x 6 ^^^ Q.rot x 11) (Q.rot x 25) (xor_lt _ _ (Q.rot_lt x 6 hx) (Q.rot_lt x 11 hx)) (Q.rot_lt x 25 hx)
  have HE : Hid _ := And.intro e1 e2
  clear e1 e2
  go_enter Tryd.func58, Tryd.ntmps58
  go_wp2_with fail
  refine (C1.out _).mono ?_; rintro e w1 ⟨rfl, rfl⟩
  go_wp2_with fail
  refine (C2.out _).mono ?_; rintro e w1 ⟨rfl, rfl⟩
  go_wp2_with fail
  refine (C3.out _).mono ?_; rintro e w1 ⟨rfl, rfl⟩
  go_wp2_with fail
  go_ret
  rw [HE.out.1, HE.out.2]
  exact ⟨rfl, rfl⟩
end Go.Proofs.YtlodahlinncpcaaDoor
