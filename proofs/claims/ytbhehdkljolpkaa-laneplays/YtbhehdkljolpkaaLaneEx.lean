/- The chapter's examples, ahead of each law. -/
import Derived.Test.YtbhehdkljolpkaaLaneInt
namespace Go.Proofs.Ytbhehdkljolpkaa
open Go.Conc Go.RowKit
set_option linter.unusedVariables false
set_option linter.unusedSimpArgs false
set_option maxHeartbeats 1000000 in
set_option maxRecDepth 100000 in
theorem examples_any (w : World) : Calls Try.prog 7 #[] w fun e w' => e = .returned (.bool true) ∧ Below w.heap.size w w' := by
  have C1 : Hid (∀ u, Calls Try.prog 8 #[.int .i64 2] u fun e w' => ∃ b c, e = .returned (.tuple #[.pointer (some ⟨b, 0, none⟩), .int .i64 0]) ∧ u.heap.size ≤ c ∧ u.heap.size ≤ b ∧ Ln w' b c 2 [] ∧ Below u.heap.size u w') := fun u => Int.new_ok 2 (by omega) (by omega) u
  go_enter Try.func7, Try.ntmps7
  go_wp2_with fail
  refine (Int.new_no 0 (.inl (by omega)) _).mono ?_
  rintro e w1 ⟨rfl, rfl⟩
  go_wp2_with fail
  refine (C1.out _).mono ?_
  rintro e w2 ⟨b, c, rfl, hc, hb', hL, hb⟩
  have HC : Hid _ := hc
  clear C1 hc hb'
  go_wp2_with fail
  refine (Int.take_no hL).mono ?_
  rintro e w3 ⟨rfl, rfl⟩
  go_wp2_with fail
  refine (Int.put_ok (.int .i64 7) hL (by simp)).mono ?_
  rintro e w4 ⟨rfl, hL4, hB4⟩
  go_wp2_with fail
  refine (Int.put_ok (.int .i64 8) hL4 (by simp)).mono ?_
  rintro e w5 ⟨rfl, hL5, hB5⟩
  go_wp2_with fail
  refine (Int.put_no (.int .i64 9) hL5 (by simp)).mono ?_
  rintro e w6 ⟨rfl, rfl⟩
  go_wp2_with fail
  refine (Int.take_ok hL5).mono ?_
  rintro e w7 ⟨rfl, hL7, hB7⟩
  go_wp2_with fail
  refine (Int.drain_ok hL7 (by simp) (by intro v hv; simp at hv; exact ⟨_, hv⟩)).mono ?_
  rintro e w8 ⟨rfl, hO8, hL8, hB8⟩
  have c8 := hO8.cell 0 (by simp)
  have B8 : Hid (Below w1.heap.size w1 w8) := hb.trans ((((hB4.trans hB5).trans hB7).trans hB8).below HC.out hb.size)
  have X1 : Hid _ := hL8
  simp at c8
  clear hL hL4 hL5 hL7 hO8 hL8 hB4 hB5 hB7 hB8 hb HC
  generalize w7.heap.size = g at *
  simp only [List.length_cons, List.length_nil, Nat.zero_add] at *
  go_wp2_with fail
  refine (Int.len_ok X1.out).mono ?_
  rintro e w9 ⟨rfl, rfl⟩
  go_wp2_with fail
  refine (Int.room_ok X1.out).mono ?_
  rintro e w10 ⟨rfl, rfl⟩
  go_wp2_with fail
  go_ret
  exact ⟨rfl, B8.out⟩
end Go.Proofs.Ytbhehdkljolpkaa
