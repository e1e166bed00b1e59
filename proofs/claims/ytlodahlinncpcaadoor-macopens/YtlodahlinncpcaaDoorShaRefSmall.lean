/- The document's own answer: turn, prime. -/
import Derived.Test.YtlodahlinncpcaaDoorShaRefMath
import Derived.Test.YtlodahlinncpcaaDoorShaSched
namespace Go.Proofs.YtlodahlinncpcaaDoor
open Go.RowKit
set_option linter.unusedVariables false
set_option linter.unusedSimpArgs false
theorem rot_int' (x n : Nat) (hx : x < 4294967296) (h2 : n ≤ 31) : bits .or .u32 ((x : Int) / 2 ^ n) ((x : Int) * 2 ^ (32 - n) % 4294967296) = ((Q.rot x n : Nat) : Int) := by
  have e1 : (x : Int) * 2 ^ (32 - n) % 4294967296 = ((x * 2 ^ (32 - n) % 4294967296 : Nat) : Int) := by simp
  have e2 : (x : Int) / 2 ^ n = ((x / 2 ^ n : Nat) : Int) := by simp
  rw [e1, e2, u32_or_nat _ _ (Nat.lt_of_le_of_lt (Nat.div_le_self _ _) hx) (Nat.mod_lt _ (by omega)), Nat.or_comm]
  rfl
set_option maxHeartbeats 1000000 in
theorem ref_turn (x n : Nat) (w : World) (hx : x < 4294967296) (h1 : 1 ≤ n) (h2 : n ≤ 31) :
    Calls Tryd.prog 54 #[.int .u32 x, .int .i64 n] w fun e w' => e = .returned (.int .u32 (Q.rot x n : Nat)) ∧ w' = w.drew := by
  obtain ⟨m, hm⟩ : ∃ m, m = 32 - n := ⟨_, rfl⟩
  have e : (32 : Int) - n = (m : Int) := by omega
  have v : IntKind.i64.wrap (m : Int) = m := IntWalk.i64_in _ ⟨by omega, by omega⟩
  have HR : Hid _ := rot_int' x n hx h2
  go_enter Tryd.func54, Tryd.ntmps54
  go_wp2
  go_region
  go_wp2
  go_ret
  rw [HR.out]
  exact ⟨rfl, rfl⟩
set_option maxHeartbeats 1000000 in
theorem ref_prime (n : Nat) (w : World) (hn : n < 400) :
    Calls Tryd.prog 52 #[.int .u64 n] w fun e w' => e = .returned (.bool (Q.prime n)) ∧ w' = w := by
  go_enter Tryd.func52, Tryd.ntmps52
  go_wp2
  go_loop [3] (fun v => ∃ f d : Nat, v = .int .u64 d ∧ 2 ≤ d ∧ Hid (f + d = 402) ∧ Hid (Q.primeF f n d = Q.prime n)) (fun v => 402 - (intOf v).toNat)
  case atStart => exact ⟨400, 2, rfl, by omega, rfl, rfl⟩
  case round =>
    obtain ⟨f, d, rfl, hd, HF, HP⟩ := hrel
    have hd2 : d ≤ 402 := by have := HF.out; omega
    have hdd : d * d ≤ 161604 := Nat.mul_le_mul hd2 hd2
    have ew : IntKind.u64.wrap ((d : Int) * d) = ((d * d : Nat) : Int) := by rw [IntKind.wrap_u64, ← Int.natCast_mul]; omega
    obtain ⟨q, hq⟩ : ∃ q, q = d * d := ⟨_, rfl⟩
    rw [← hq] at ew hdd
    have ed : (d : Int) * d = (q : Int) := by rw [hq]; simp
    have HQ : Hid _ := hq
    clear hq
    have hne : ¬ (d : Int) = 0 := by omega
    by_cases hlt : q ≤ n
    · have hdn : d ≤ n := by
        have h1 := HQ.out
        have : d * 1 ≤ d * d := Nat.mul_le_mul_left d (by omega)
        omega
      obtain ⟨g, rfl⟩ : ∃ g, f = g + 1 := ⟨f - 1, by have := HF.out; omega⟩
      have HP' := HP.out
      rw [Q.primeF, if_pos (by have := HQ.out; omega)] at HP'
      have hlt' : (q : Int) ≤ n := by omega
      by_cases h0 : n % d = 0
      · rw [if_pos h0] at HP'
        have e0 : ((n : Int) % (d : Int)) = 0 := by omega
        have HR : Hid _ := HP'
        clear HP' HP
        go_wp2
        go_ret
        rw [← HR.out]
        exact ⟨rfl, rfl⟩
      · rw [if_neg h0] at HP'
        have e0 : (((n : Int) % (d : Int)) == 0) = false := by rw [beq_eq_false_iff_ne]; omega
        have HR : Hid _ := HP'
        clear HP' HP
        go_wp2
        go_round
        case rel => exact ⟨g, d + 1, by go_num, by omega, by have := HF.out; show _ = _; omega, HR⟩
        case measure => simp [intOf]; omega
    · have hlt' : ¬ (q : Int) ≤ n := by omega
      have HR : Hid (decide (1 < n) = Q.prime n) := by
        show _ = _
        rw [← HP.out]
        cases f with
        | zero => rfl
        | succ f => rw [Q.primeF, if_neg (by have := HQ.out; omega)]
      clear HP
      go_wp2
      go_ret
      rw [← HR.out]
      exact ⟨by simp; omega, rfl⟩
end Go.Proofs.YtlodahlinncpcaaDoor
