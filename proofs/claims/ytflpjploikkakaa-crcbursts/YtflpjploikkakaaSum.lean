/- The contracts of Sum, Check and Join, the program's and the document's. -/
import Derived.Test.YtflpjploikkakaaStep
namespace Go.Proofs.Ytflpjploikkakaa
open Go.RowKit

theorem ret_int {k : IntKind} {a b : Int} (h : a = b) : Ending.returned (.int k a) = .returned (.int k b) := by rw [h]
theorem ret_bool {a b : Bool} (h : a = b) : Ending.returned (.bool a) = .returned (.bool b) := by rw [h]
theorem take_snoc (s : ByteArray) (k : Nat) (h : k < s.size) : s.data.toList.take (k + 1) = s.data.toList.take k ++ [s[k]] := by
  rw [List.take_succ_eq_append_getElem (by simpa using h)]; rfl
theorem run_snoc (c : BitVec 32) (l : List UInt8) (b : UInt8) : M.run c (l ++ [b]) = M.step (M.run c l) b := by
  rw [M.run_append]; rfl
theorem xor_max (x : BitVec 32) : bits .xor .u32 IntKind.u32.max (x.toNat : Int) = ((~~~ x).toNat : Int) := by
  have e : IntKind.u32.max = ((4294967295 : Nat) : Int) := by decide
  rw [e, u32_xor_nat _ _ (by omega) x.isLt, ← M.ones_xor, BitVec.toNat_xor]
  rfl
theorem xor_two (x y : BitVec 32) : bits .xor .u32 (x.toNat : Int) (y.toNat : Int) = ((x ^^^ y).toNat : Int) := by
  rw [u32_xor_nat _ _ x.isLt y.isLt, BitVec.toNat_xor]
theorem eq_nat (x y : BitVec 32) : ((x.toNat : Int) == (y.toNat : Int)) = (x == y) := by
  rw [Bool.eq_iff_iff, beq_iff_eq, beq_iff_eq]
  constructor
  · intro h; apply BitVec.eq_of_toNat_eq; omega
  · intro h; rw [h]

set_option maxHeartbeats 400000 in
theorem sum_any (s : ByteArray) (w : World) (hs : s.size ≤ maxLen) :
    Calls Try.prog 9 #[.string s] w fun e w' => e = .returned (.int .u32 ((M.sum s.data.toList).toNat : Int)) ∧ w' = w := by
  unfold maxLen at hs
  go_enter Try.func9, Try.ntmps9
  go_wp2
  go_loop [3, 7] (fun t i => ∃ k : Nat, k ≤ s.size ∧ i = .int .i64 k ∧ t = .int .u32 ((M.run M.ones (s.data.toList.take k)).toNat : Int)) (fun _ i => s.size - (intOf i).toNat)
  case atStart => exact ⟨0, Nat.zero_le _, rfl, rfl⟩
  case round =>
    obtain ⟨k, hk, rfl, rfl⟩ := hrel
    by_cases hlt : k < s.size
    · have H8 : Hid (M.run M.ones (s.data.toList.take (k + 1)) = M.step (M.run M.ones (s.data.toList.take k)) s[k]) := by
        show _ = _
        rw [take_snoc s k hlt, run_snoc]
      generalize M.run M.ones (s.data.toList.take k) = x at *
      go_wp2_with (go_at_call 14; refine (step_any _ _ _).mono ?_; rintro e w' ⟨rfl, rfl⟩)
      go_round
      case rel => exact ⟨k + 1, by omega, by go_num, by rw [H8.out]⟩
      case measure => simp [intOf]; omega
    · have H9 : Hid (M.sum s.data.toList = ~~~ M.run M.ones (s.data.toList.take k)) := by
        show _ = _
        rw [List.take_of_length_le (by simp; omega)]; rfl
      generalize M.run M.ones (s.data.toList.take k) = x at *
      go_wp2
      go_ret
      rw [H9.out]
      exact ⟨ret_int (xor_max x), rfl⟩

set_option maxHeartbeats 400000 in
theorem rsum_any (s : ByteArray) (w : World) (hs : s.size ≤ maxLen) :
    Calls Try.prog 8 #[.string s] w fun e w' => e = .returned (.int .u32 ((M.sum s.data.toList).toNat : Int)) ∧ w' = w := by
  unfold maxLen at hs
  go_enter Try.func8, Try.ntmps8
  go_wp2
  go_loop [3, 4] (fun t i => ∃ k : Nat, k ≤ s.size ∧ i = .int .i64 k ∧ t = .int .u32 ((M.run M.ones (s.data.toList.take k)).toNat : Int)) (fun _ i => s.size - (intOf i).toNat)
  case atStart => exact ⟨0, Nat.zero_le _, rfl, rfl⟩
  case round =>
    obtain ⟨k, hk, rfl, rfl⟩ := hrel
    by_cases hlt : k < s.size
    · have H8 : Hid (M.run M.ones (s.data.toList.take (k + 1)) = M.step (M.run M.ones (s.data.toList.take k)) s[k]) := by
        show _ = _
        rw [take_snoc s k hlt, run_snoc]
      generalize M.run M.ones (s.data.toList.take k) = x at *
      go_wp2_with (go_at_call 13; refine (rstep_any _ _ _).mono ?_; rintro e w' ⟨rfl, rfl⟩)
      go_round
      case rel => exact ⟨k + 1, by omega, by go_num, by rw [H8.out]⟩
      case measure => simp [intOf]; omega
    · have H9 : Hid (M.sum s.data.toList = ~~~ M.run M.ones (s.data.toList.take k)) := by
        show _ = _
        rw [List.take_of_length_le (by simp; omega)]; rfl
      generalize M.run M.ones (s.data.toList.take k) = x at *
      go_wp2
      go_ret
      rw [H9.out]
      exact ⟨ret_int (xor_max x), rfl⟩

set_option maxHeartbeats 400000 in
theorem check_any (s : ByteArray) (t : BitVec 32) (w : World) (hs : s.size ≤ maxLen) :
    Calls Try.prog 10 #[.string s, .int .u32 (t.toNat : Int)] w fun e w' => e = .returned (.bool (M.sum s.data.toList == t)) ∧ w' = w := by
  go_enter Try.func10, Try.ntmps10
  go_wp2_with (go_at_call 9; refine (sum_any _ _ hs).mono ?_; rintro e w' ⟨rfl, rfl⟩)
  go_ret
  exact ⟨ret_bool (eq_nat _ _), rfl⟩

theorem step_zero (x : BitVec 32) : M.step x 0 = M.it 8 x := by
  unfold M.step
  have : M.ext 0 = 0#32 := by decide
  rw [this, BitVec.xor_zero]

theorem step0_any (x : BitVec 32) (w : World) :
    Calls Try.prog 14 #[.int .u32 (x.toNat : Int), .int .u8 0] w fun e w' => e = .returned (.int .u32 ((M.it 8 x).toNat : Int)) ∧ w' = w := by
  have := step_any x 0 w
  rw [step_zero] at this
  exact this
theorem rstep0_any (x : BitVec 32) (w : World) :
    Calls Try.prog 13 #[.int .u32 (x.toNat : Int), .int .u8 0] w fun e w' => e = .returned (.int .u32 ((M.it 8 x).toNat : Int)) ∧ w' = w := by
  have := rstep_any x 0 w
  rw [step_zero] at this
  exact this

set_option maxHeartbeats 400000 in
set_option maxRecDepth 100000 in
theorem join_any (a b : BitVec 32) (many : Int) (w : World) (h1 : -9223372036854775808 ≤ many) (h2 : many ≤ 9223372036854775807) :
    Calls Try.prog 11 #[.int .u32 (a.toNat : Int), .int .u32 (b.toNat : Int), .int .i64 many] w fun e w' => e = .returned (.int .u32 ((M.join a b many.toNat).toNat : Int)) ∧ w' = w := by
  by_cases h0 : many < 1
  · have H9 : Hid (M.join a b many.toNat = a) := by
      show _ = _
      unfold M.join; rw [if_pos (by omega)]
    go_enter Try.func11, Try.ntmps11
    go_wp2
    go_ret
    rw [H9.out]
    exact ⟨rfl, rfl⟩
  · have H9 : Hid (M.join a b many.toNat = M.zeros (min many.toNat 4096) a ^^^ b) := by
      show _ = _
      unfold M.join; rw [if_neg (by omega)]
    go_enter Try.func11, Try.ntmps11
    go_wp2
    all_goals
      obtain ⟨N, hN, hN1, hN2, HN⟩ : ∃ N : Nat, N ≤ 4096 ∧ (N : Int) ≤ many ∧ (4096 ≤ (N : Int) ∨ many ≤ (N : Int)) ∧ Hid (N = min many.toNat 4096) := ⟨min many.toNat 4096, by omega, by omega, by omega, rfl⟩
      go_loop [7, 14] (fun t i => ∃ k : Nat, k ≤ N ∧ i = .int .i64 k ∧ t = .int .u32 ((M.zeros k a).toNat : Int)) (fun _ i => N - (intOf i).toNat)
      case atStart => exact ⟨0, Nat.zero_le _, rfl, rfl⟩
      case round =>
        obtain ⟨k, hk, rfl, rfl⟩ := hrel
        have H8 : Hid (M.zeros (k + 1) a = M.it 8 (M.zeros k a)) := M.zeros_succ' k a
        have H7 : Hid (k = N → M.join a b many.toNat = M.zeros k a ^^^ b) := fun h => by rw [H9.out, h, HN.out]
        generalize M.zeros k a = x at *
        by_cases hlt : k < N
        · have hlt1 : (k : Int) < many := by omega
          have hlt2 : (k : Int) < 4096 := by omega
          go_wp2_with (go_at_call 14; refine (step0_any _ _).mono ?_; rintro e w' ⟨rfl, rfl⟩)
          go_round
          case rel => exact ⟨k + 1, by omega, by go_num, by rw [H8.out]⟩
          case measure => simp [intOf]; omega
        · go_wp2
          all_goals
            go_ret
            rw [H7.out (by omega)]
            exact ⟨ret_int (xor_two _ _), rfl⟩

set_option maxHeartbeats 400000 in
set_option maxRecDepth 100000 in
theorem rjoin_any (a b : BitVec 32) (many : Int) (w : World) (h1 : -9223372036854775808 ≤ many) (h2 : many ≤ 9223372036854775807) :
    Calls Try.prog 12 #[.int .u32 (a.toNat : Int), .int .u32 (b.toNat : Int), .int .i64 many] w fun e w' => e = .returned (.int .u32 ((M.join a b many.toNat).toNat : Int)) ∧ w' = w := by
  by_cases h0 : many < 1
  · have H9 : Hid (M.join a b many.toNat = a) := by
      show _ = _
      unfold M.join; rw [if_pos (by omega)]
    go_enter Try.func12, Try.ntmps12
    go_wp2
    go_ret
    rw [H9.out]
    exact ⟨rfl, rfl⟩
  · have H9 : Hid (M.join a b many.toNat = M.zeros (min many.toNat 4096) a ^^^ b) := by
      show _ = _
      unfold M.join; rw [if_neg (by omega)]
    go_enter Try.func12, Try.ntmps12
    go_wp2
    all_goals
      obtain ⟨N, hN, hN1, hN2, HN⟩ : ∃ N : Nat, N ≤ 4096 ∧ (N : Int) ≤ many ∧ (4096 ≤ (N : Int) ∨ many ≤ (N : Int)) ∧ Hid (N = min many.toNat 4096) := ⟨min many.toNat 4096, by omega, by omega, by omega, rfl⟩
      go_loop [0, 7] (fun t i => ∃ k : Nat, k ≤ N ∧ i = .int .i64 k ∧ t = .int .u32 ((M.zeros k a).toNat : Int)) (fun _ i => N - (intOf i).toNat)
      case atStart => exact ⟨0, Nat.zero_le _, rfl, rfl⟩
      case round =>
        obtain ⟨k, hk, rfl, rfl⟩ := hrel
        have H8 : Hid (M.zeros (k + 1) a = M.it 8 (M.zeros k a)) := M.zeros_succ' k a
        have H7 : Hid (k = N → M.join a b many.toNat = M.zeros k a ^^^ b) := fun h => by rw [H9.out, h, HN.out]
        generalize M.zeros k a = x at *
        by_cases hlt : k < N
        · have hlt1 : (k : Int) < many := by omega
          have hlt2 : (k : Int) < 4096 := by omega
          go_wp2_with (go_at_call 13; refine (rstep0_any _ _).mono ?_; rintro e w' ⟨rfl, rfl⟩)
          go_round
          case rel => exact ⟨k + 1, by omega, by go_num, by rw [H8.out]⟩
          case measure => simp [intOf]; omega
        · go_wp2
          all_goals
            go_ret
            rw [H7.out (by omega)]
            exact ⟨ret_int (xor_two _ _), rfl⟩

end Go.Proofs.Ytflpjploikkakaa
