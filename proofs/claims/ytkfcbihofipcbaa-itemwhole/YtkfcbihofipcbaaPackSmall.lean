/- The contracts of pack's smallest functions. -/
import Derived.Test.YtkfcbihofipcbaaRows

import Derived.Test.YtkfcbihofipcbaaPackMath

import Derived.WalkKit

import Derived.WalkLawsBesides

import Derived.WalkSpells

import Derived.Outline

import Derived.Below

import Derived.Laws.BitsAllLaws

namespace Go.Proofs.Ytkfcbihofipcbaa.Pk

open Go.RowKit

set_option linter.unusedVariables false

theorem sized_yes (n : Int) (w : World) (h1 : 1 ≤ n) (h2 : n ≤ 8) :
    Calls Try.prog 58 #[.int .i64 n] w fun e w' => e = .returned (.bool true) ∧ w' = w := by
  go_enter Try.func58, Try.ntmps58
  go_wp2
  go_ret
  exact ⟨rfl, rfl⟩
theorem sized_no (n : Int) (w : World) (h : n < 1 ∨ 8 < n) :
    Calls Try.prog 58 #[.int .i64 n] w fun e w' => e = .returned (.bool false) ∧ w' = w := by
  rcases h with h | h
  · have h' : decide (1 ≤ n) = false := by simp; omega
    go_enter Try.func58, Try.ntmps58
    go_wp2
    go_ret
    exact ⟨rfl, rfl⟩
  · have h1 : 1 ≤ n := by omega
    have h' : decide (n ≤ 8) = false := by simp; omega
    go_enter Try.func58, Try.ntmps58
    go_wp2
    go_ret
    exact ⟨rfl, rfl⟩
theorem bad_any (w : World) :
    Calls Try.prog 76 #[] w fun e w' => e = .returned (.agg #[.string ⟨#[]⟩, .bool true]) ∧ Below w.heap.size w w' := by
  go_enter Try.func76, Try.ntmps76
  go_wp2
  exact bodyPost_ret (v := .agg #[.string ⟨#[]⟩, .bool true]) (by simp [results, Try.results76, go_sem]) rfl ⟨rfl, (Below.refl _ _).alloc (Nat.le_refl _) _⟩
theorem behind_any (s : ByteArray) (b : Bool) (k : Int) (w : World) (hs : s.size ≤ maxLen) (h0 : 0 ≤ k) (h1 : k ≤ s.size) :
    Calls Try.prog 77 #[.agg #[.string s, .bool b], .int .i64 k] w fun e w' => e = .returned (.agg #[.string (s.extract k.toNat s.size), .bool false]) ∧ Below w.heap.size w w' := by
  obtain ⟨n, rfl⟩ := Int.eq_ofNat_of_zero_le h0
  rw [Int.toNat_natCast]
  unfold maxLen at hs
  go_enter Try.func77, Try.ntmps77
  go_wp2
  exact bodyPost_ret (v := .agg #[.string (s.extract n s.size), .bool false]) (by simp [results, Try.results77, go_sem]) rfl ⟨rfl, ((Below.refl _ _).alloc (Nat.le_refl _) _).alloc (by simp) _⟩
theorem ends_any (b i : Nat) (w : World) (hb : b < 256) (hi : i < 10) :
    Calls Try.prog 83 #[.int .u8 b, .int .i64 i] w fun e w' => e = .returned (.bool (P.endsB b i)) ∧ w' = w := by
  by_cases h0 : i = 0
  · subst h0
    go_enter Try.func83, Try.ntmps83
    go_wp2
    go_ret
    exact ⟨rfl, rfl⟩
  · have e0 : ((i : Int) == 0) = false := by rw [beq_eq_false_iff_ne]; omega
    by_cases hb0 : b = 0
    · subst hb0
      have HE : Hid (P.endsB 0 i = false) := by show _ = _; unfold P.endsB; rw [if_neg h0]; rfl
      go_enter Try.func83, Try.ntmps83
      go_wp2
      go_ret
      rw [HE.out]
      exact ⟨rfl, rfl⟩
    · have e1 : ((b : Int) != 0) = true := by rw [bne_iff_ne]; omega
      by_cases h9 : i < 9
      · have h9' : (i : Int) < 9 := by omega
        have HE : Hid (P.endsB b i = true) := by show _ = _; unfold P.endsB; rw [if_neg h0]; simp [hb0, h9]
        go_enter Try.func83, Try.ntmps83
        go_wp2
        go_ret
        rw [HE.out]
        exact ⟨rfl, rfl⟩
      · have h9' : decide ((i : Int) < 9) = false := by simp; omega
        have HE : Hid (P.endsB b i = decide ((b : Int) ≤ 1)) := by
          show _ = _; unfold P.endsB; rw [if_neg h0]; simp [hb0, h9]; omega
        go_enter Try.func83, Try.ntmps83
        go_wp2
        all_goals
          go_ret
          rw [HE.out]
          simp_all
end Go.Proofs.Ytkfcbihofipcbaa.Pk
