/- disk: the chapter's examples hold. -/
import Derived.Test.YtjeiggpjbdkpiaaDiskAll

namespace Go.Proofs.Ytjeiggpjbdkpiaa.Dk

open Go.RowKit

set_option linter.unusedVariables false

set_option linter.unusedSimpArgs false

set_option maxRecDepth 100000

set_option maxHeartbeats 1000000 in
theorem examples_any (w : World) :
    Calls Try.prog 6 #[] w fun e w' => e = .returned (.bool true) ∧ Below w.heap.size w w' := by
  have C0 : Hid (∀ u, Calls Try.prog 7 #[.int .i64 0] u fun e w' => e = .returned (.tuple #[.pointer none, .int .i64 1]) ∧ w' = u) := fun u => new_no 0 u (.inl (by decide))
  have C1 : Hid (∀ u : World, Calls Try.prog 7 #[.int .i64 9] u fun e w' => e = .returned (.tuple #[.pointer (some ⟨u.heap.size, 0, none⟩), .int .i64 0]) ∧ Raw w' u.heap.size 9 false (.slice none 0 0) [] 0 (.slice none 0 0) [] ∧ Below u.heap.size u w') := fun u => new_yes 9 u (by decide) (by decide)
  go_enter Try.func6, Try.ntmps6
  go_wp2_with fail
  refine (C0.out _).mono ?_; rintro e u0 ⟨rfl, rfl⟩
  go_wp2_with fail
  refine (C1.out _).mono ?_; rintro e w1 ⟨rfl, hr, hb⟩
  have R1 := Lib.hid hr
  have T1 : Hid (Below u0.heap.size u0 w1) := hb
  clear hr hb
  have K1 := Lib.hid (append_yes R1.out ⟨#[97, 98]⟩ (by decide) (by decide) (by decide))
  go_wp2_with fail
  refine (K1.out).mono ?_; rintro e w2 ⟨rfl, tv2, ev2, hr, ht⟩
  have R2 : Hid (Raw w2 u0.heap.size 9 false tv2 [97, 98] 0 ev2 [2]) := hr
  have T2 : Hid (Below u0.heap.size u0 w2) := Below.trans T1.out (R1.out.below_tn ht (Nat.le_refl _))
  clear hr ht
  have K2 := Lib.hid (syncd_any R2.out)
  go_wp2_with fail
  refine (K2.out).mono ?_; rintro e w3 ⟨rfl, hr, ht⟩
  have R3 : Hid (Raw w3 u0.heap.size 9 false tv2 [97, 98] 2 (.slice none 0 0) []) := hr
  have T3 : Hid (Below u0.heap.size u0 w3) := Below.trans T2.out (R2.out.below_tn ht (Nat.le_refl _))
  clear hr ht
  have K3 := Lib.hid (append_yes R3.out ⟨#[99, 100]⟩ (by decide) (by decide) (by decide))
  go_wp2_with fail
  refine (K3.out).mono ?_; rintro e w4 ⟨rfl, tv4, ev4, hr, ht⟩
  have R4 : Hid (Raw w4 u0.heap.size 9 false tv4 [97, 98, 99, 100] 2 ev4 [4]) := hr
  have T4 : Hid (Below u0.heap.size u0 w4) := Below.trans T3.out (R3.out.below_tn ht (Nat.le_refl _))
  clear hr ht
  have K4 := Lib.hid (append_yes R4.out ⟨#[101, 102]⟩ (by decide) (by decide) (by decide))
  go_wp2_with fail
  refine (K4.out).mono ?_; rintro e w5 ⟨rfl, tv5, ev5, hr, ht⟩
  have R5 : Hid (Raw w5 u0.heap.size 9 false tv5 [97, 98, 99, 100, 101, 102] 2 ev5 [4, 6]) := hr
  have T5 : Hid (Below u0.heap.size u0 w5) := Below.trans T4.out (R4.out.below_tn ht (Nat.le_refl _))
  clear hr ht
  have K5 := Lib.hid (append_no R5.out ⟨#[103, 104, 105, 106]⟩ (by decide) (by decide) (by decide) (by decide))
  go_wp2_with fail
  refine (K5.out).mono ?_; rintro e w6 ⟨rfl, hb⟩
  have R6 : Hid (Raw w6 u0.heap.size 9 false tv5 [97, 98, 99, 100, 101, 102] 2 ev5 [4, 6]) := R5.out.below hb (Nat.le_refl _)
  have T6 : Hid (Below u0.heap.size u0 w6) := Below.trans T5.out (hb.mono T5.out.size)
  clear hb
  have K6 := Lib.hid (synced_any R6.out)
  go_wp2_with fail
  refine (K6.out).mono ?_; rintro e w9 ⟨rfl, rfl⟩
  have KC := Lib.hid (crash_any R6.out 2 (by decide) ⟨by decide, by decide, Nat.le_refl 6⟩ (by decide) (by decide))
  go_wp2_with fail
  refine (KC.out).mono ?_; rintro e w7 ⟨rfl, hr, ht⟩
  have R7 : Hid (Raw w7 u0.heap.size 9 false tv5 [97, 98, 0, 0, 101, 102] 6 (.slice none 0 0) []) := hr
  have T7 : Hid (Below u0.heap.size u0 w7) := Below.trans T6.out (R6.out.below_tn ht (Nat.le_refl _))
  clear hr ht
  have KB : Hid (Calls Try.prog 10 #[.pointer (some ⟨u0.heap.size, 0, none⟩)] w7 fun e w' => e = .returned (.string ⟨#[97, 98, 0, 0, 101, 102]⟩) ∧ w' = w7) := bytes_any R7.out
  have KS := Lib.hid (synced_any R7.out)
  have KN := Lib.hid (cutd_no R7.out 7 (.inr (by decide)) (by decide))
  have KY := Lib.hid (cutd_yes R7.out 1 (by decide) (by decide))
  go_wp2_with fail
  refine (KB.out).mono ?_; rintro e w10 ⟨rfl, rfl⟩
  go_wp2_with fail
  refine (KS.out).mono ?_; rintro e w11 ⟨rfl, rfl⟩
  go_wp2_with fail
  refine (KN.out).mono ?_; rintro e w12 ⟨rfl, rfl⟩
  go_wp2_with fail
  refine (KY.out).mono ?_; rintro e w13 ⟨rfl, tv13, hr, ht⟩
  have KZ : Hid (Calls Try.prog 10 #[.pointer (some ⟨u0.heap.size, 0, none⟩)] w13 fun e w' => e = .returned (.string ⟨#[97]⟩) ∧ w' = w13) := bytes_any hr
  have TZ := Lib.hid (Below.trans T7.out ((R7.out).below_tn ht (Nat.le_refl _)))
  clear hr ht
  go_wp2_with fail
  refine (KZ.out).mono ?_; rintro e w14 ⟨rfl, rfl⟩
  go_wp2_with fail
  go_ret
  exact ⟨rfl, TZ.out⟩
end Go.Proofs.Ytjeiggpjbdkpiaa.Dk
