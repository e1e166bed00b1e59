/-
  Joins and meets come to the same in whatever order, and however often; each is over, or under, both; what is joined is right, where both are (the law VecJoins). No conditions.
-/
import Derived.Test.YtpdomhddjpfibaaDoorFrameTab

import Derived.Test.YtpdomhddjpfibaaDoorVecEx

import Derived.Test.YtpdomhddjpfibaaDoorVecOf

import Derived.Test.YtpdomhddjpfibaaDoorFrameVec

namespace Go.Proofs.YtpdomhddjpfibaaDoor.vecJoins

open Go.ChangeShapes Go.WideShapes Go.ChangeAt Go.RowKit

open Go.Proofs.YtpdomhddjpfibaaDoor.Vc

open Go.ChangeMaps (open_string shut_string)

set_option linter.unusedVariables false

set_option linter.unusedSimpArgs false

theorem q0 (A B : List Nat) (hA : A.length = 4) (hB : B.length = 4) : (V.join A B) = (V.join B A) := by
  obtain ⟨a0, a1, a2, a3, rfl⟩ := V.four hA
  obtain ⟨b0, b1, b2, b3, rfl⟩ := V.four hB
  simp only [V.leq, V.join, V.meet, List.zipWith_cons_cons, List.zipWith_nil_right, List.cons.injEq, and_true, decide_eq_true_eq]
  omega
theorem q1 (A B : List Nat) (hA : A.length = 4) (hB : B.length = 4) : (V.meet A B) = (V.meet B A) := by
  obtain ⟨a0, a1, a2, a3, rfl⟩ := V.four hA
  obtain ⟨b0, b1, b2, b3, rfl⟩ := V.four hB
  simp only [V.leq, V.join, V.meet, List.zipWith_cons_cons, List.zipWith_nil_right, List.cons.injEq, and_true, decide_eq_true_eq]
  omega
theorem q2 (A B C : List Nat) (hA : A.length = 4) (hB : B.length = 4) (hC : C.length = 4) : (V.join (V.join A B) C) = (V.join A (V.join B C)) := by
  obtain ⟨a0, a1, a2, a3, rfl⟩ := V.four hA
  obtain ⟨b0, b1, b2, b3, rfl⟩ := V.four hB
  obtain ⟨c0, c1, c2, c3, rfl⟩ := V.four hC
  simp only [V.leq, V.join, V.meet, List.zipWith_cons_cons, List.zipWith_nil_right, List.cons.injEq, and_true, decide_eq_true_eq]
  omega
theorem q3 (A B C : List Nat) (hA : A.length = 4) (hB : B.length = 4) (hC : C.length = 4) : (V.meet (V.meet A B) C) = (V.meet A (V.meet B C)) := by
  obtain ⟨a0, a1, a2, a3, rfl⟩ := V.four hA
  obtain ⟨b0, b1, b2, b3, rfl⟩ := V.four hB
  obtain ⟨c0, c1, c2, c3, rfl⟩ := V.four hC
  simp only [V.leq, V.join, V.meet, List.zipWith_cons_cons, List.zipWith_nil_right, List.cons.injEq, and_true, decide_eq_true_eq]
  omega
theorem q4 (A B : List Nat) (hA : A.length = 4) (hB : B.length = 4) : (V.join (V.join A B) A) = (V.join A B) := by
  obtain ⟨a0, a1, a2, a3, rfl⟩ := V.four hA
  obtain ⟨b0, b1, b2, b3, rfl⟩ := V.four hB
  simp only [V.leq, V.join, V.meet, List.zipWith_cons_cons, List.zipWith_nil_right, List.cons.injEq, and_true, decide_eq_true_eq]
  omega
theorem q5 (A B : List Nat) (hA : A.length = 4) (hB : B.length = 4) : (V.meet (V.meet A B) A) = (V.meet A B) := by
  obtain ⟨a0, a1, a2, a3, rfl⟩ := V.four hA
  obtain ⟨b0, b1, b2, b3, rfl⟩ := V.four hB
  simp only [V.leq, V.join, V.meet, List.zipWith_cons_cons, List.zipWith_nil_right, List.cons.injEq, and_true, decide_eq_true_eq]
  omega
theorem q6 (A B : List Nat) (hA : A.length = 4) (hB : B.length = 4) : V.leq A (V.join A B) = true := by
  obtain ⟨a0, a1, a2, a3, rfl⟩ := V.four hA
  obtain ⟨b0, b1, b2, b3, rfl⟩ := V.four hB
  simp only [V.leq, V.join, V.meet, List.zipWith_cons_cons, List.zipWith_nil_right, List.cons.injEq, and_true, decide_eq_true_eq]
  omega
theorem q7 (A B : List Nat) (hA : A.length = 4) (hB : B.length = 4) : V.leq (V.meet A B) B = true := by
  obtain ⟨a0, a1, a2, a3, rfl⟩ := V.four hA
  obtain ⟨b0, b1, b2, b3, rfl⟩ := V.four hB
  simp only [V.leq, V.join, V.meet, List.zipWith_cons_cons, List.zipWith_nil_right, List.cons.injEq, and_true, decide_eq_true_eq]
  omega
theorem q8 (A B : List Nat) (hA : A.length = 4) (hB : B.length = 4) : (V.join A (V.meet A B)) = A := by
  obtain ⟨a0, a1, a2, a3, rfl⟩ := V.four hA
  obtain ⟨b0, b1, b2, b3, rfl⟩ := V.four hB
  simp only [V.leq, V.join, V.meet, List.zipWith_cons_cons, List.zipWith_nil_right, List.cons.injEq, and_true, decide_eq_true_eq]
  omega
theorem q9 (A B : List Nat) (hA : A.length = 4) (hB : B.length = 4) : (V.meet A (V.join A B)) = A := by
  obtain ⟨a0, a1, a2, a3, rfl⟩ := V.four hA
  obtain ⟨b0, b1, b2, b3, rfl⟩ := V.four hB
  simp only [V.leq, V.join, V.meet, List.zipWith_cons_cons, List.zipWith_nil_right, List.cons.injEq, and_true, decide_eq_true_eq]
  omega
set_option maxHeartbeats 8000000 in
theorem walk (a0 : List Nat) (o0 : Bool) (a1 : List Nat) (o1 : Bool) (a2 : List Nat) (o2 : Bool) (w0 : V.Ok a0) (w1 : V.Ok a1) (w2 : V.Ok a2) (w : World) (hT : Fm.Tab w) :
    Calls Tryd.prog 5 #[VV a0 o0, VV a1 o1, VV a2 o2] w fun e w' => e = .returned (.bool true) ∧ Below w.heap.size w w' := by
  have CE := Lib.hid examples_any
  obtain ⟨A, EA⟩ : ∃ r, Hid (V.few a0 o0 = r) := ⟨_, rfl⟩
  have OA : Hid (V.Ok A) := by rw [← EA.out]; exact V.few_ok w0 o0
  have HA : Hid (A.length = 4) := OA.out.len
  have CV0 := Lib.hid (fun w => vector_any a0 o0 w w0)
  rw [EA.out] at CV0
  obtain ⟨B, EB⟩ : ∃ r, Hid (V.few a1 o1 = r) := ⟨_, rfl⟩
  have OB : Hid (V.Ok B) := by rw [← EB.out]; exact V.few_ok w1 o1
  have HB : Hid (B.length = 4) := OB.out.len
  have CV1 := Lib.hid (fun w => vector_any a1 o1 w w1)
  rw [EB.out] at CV1
  obtain ⟨C, EC⟩ : ∃ r, Hid (V.few a2 o2 = r) := ⟨_, rfl⟩
  have OC : Hid (V.Ok C) := by rw [← EC.out]; exact V.few_ok w2 o2
  have HC : Hid (C.length = 4) := OC.out.len
  have CV2 := Lib.hid (fun w => vector_any a2 o2 w w2)
  rw [EC.out] at CV2
  have CJ := Lib.hid (fun w => join_any A B w HA.out HB.out)
  have CM := Lib.hid (fun w => meet_any A B w HA.out HB.out)
  obtain ⟨rA, RA⟩ : ∃ r, Hid (V.right A = r) := ⟨_, rfl⟩
  obtain ⟨rB, RB⟩ : ∃ r, Hid (V.right B = r) := ⟨_, rfl⟩
  go_enter Tryd.func5, Tryd.ntmps5
  have M0 : Hid (Kept w w []) := Kept.start w
  go_wp2_with (first | refine blk_box rfl 26 _ rfl (ks .u64 a0 ++ [Value.bool o0]) rfl ?_)
  intro k2 A2 B2 Z2
  have M2 : Hid (Kept w k2 [(w.heap.size, ks .u64 a0 ++ [Value.bool o0])]) := Kept.new M0.out B2 Z2 A2
  clear A2 B2 Z2 M0
  go_wp2_with (first | refine blk_box rfl 26 _ rfl (ks .u64 a1 ++ [Value.bool o1]) rfl ?_)
  intro k3 A3 B3 Z3
  have M3 : Hid (Kept w k3 [(k2.heap.size, ks .u64 a1 ++ [Value.bool o1]), (w.heap.size, ks .u64 a0 ++ [Value.bool o0])]) := Kept.new M2.out B3 Z3 A3
  clear A3 B3 Z3 M2
  go_wp2_with (first | refine blk_box rfl 26 _ rfl (ks .u64 a2 ++ [Value.bool o2]) rfl ?_)
  intro k4 A4 B4 Z4
  have M4 : Hid (Kept w k4 [(k3.heap.size, ks .u64 a2 ++ [Value.bool o2]), (k2.heap.size, ks .u64 a1 ++ [Value.bool o1]), (w.heap.size, ks .u64 a0 ++ [Value.bool o0])]) := Kept.new M3.out B4 Z4 A4
  clear A4 B4 Z4 M3
  go_wp2_with fail
  refine (CE.out k4).mono ?_; rintro e k5 ⟨rfl, hb5⟩
  have M5 : Hid (Kept w k5 [(k3.heap.size, ks .u64 a2 ++ [Value.bool o2]), (k2.heap.size, ks .u64 a1 ++ [Value.bool o1]), (w.heap.size, ks .u64 a0 ++ [Value.bool o0])]) := Kept.below M4.out hb5
  clear hb5 M4
  go_wp2_with (first | refine blk_load rfl 26 _ rfl (w.heap.size) rfl (ks .u64 a0 ++ [Value.bool o0]) (Kept.get M5.out 2 rfl) _ Tryd.underlying26 rfl (size_vv w0.len) ?_)
  refine (CV0.out k5).mono ?_; rintro e k6 ⟨rfl, hb6⟩
  have M6 : Hid (Kept w k6 [(k3.heap.size, ks .u64 a2 ++ [Value.bool o2]), (k2.heap.size, ks .u64 a1 ++ [Value.bool o1]), (w.heap.size, ks .u64 a0 ++ [Value.bool o0])]) := Kept.below M5.out hb6
  clear hb6 M5
  go_wp2_with (first | refine arr_alloc rfl .u64 24 4 rfl Tryd.info_v ?_)
  intro k7 A7 B7 Z7
  go_wp2_with (first | refine arr_store rfl .u64 24 _ _ rfl k6.heap.size rfl A rfl _ A7 (by rw [HA.out]; rfl) (size_v HA.out) ?_)
  intro k8 A8 U8
  have M8 : Hid (Kept w k8 [(k6.heap.size, ks .u64 A), (k3.heap.size, ks .u64 a2 ++ [Value.bool o2]), (k2.heap.size, ks .u64 a1 ++ [Value.bool o1]), (w.heap.size, ks .u64 a0 ++ [Value.bool o0])]) := Kept.fresh M6.out B7 Z7 U8 (Arr.blk A8)
  clear A7 B7 Z7 A8 U8 M6
  go_wp2_with (first | refine blk_load rfl 26 _ rfl (k2.heap.size) rfl (ks .u64 a1 ++ [Value.bool o1]) (Kept.get M8.out 2 rfl) _ Tryd.underlying26 rfl (size_vv w1.len) ?_)
  refine (CV1.out k8).mono ?_; rintro e k9 ⟨rfl, hb9⟩
  have M9 : Hid (Kept w k9 [(k6.heap.size, ks .u64 A), (k3.heap.size, ks .u64 a2 ++ [Value.bool o2]), (k2.heap.size, ks .u64 a1 ++ [Value.bool o1]), (w.heap.size, ks .u64 a0 ++ [Value.bool o0])]) := Kept.below M8.out hb9
  clear hb9 M8
  go_wp2_with (first | refine arr_alloc rfl .u64 24 4 rfl Tryd.info_v ?_)
  intro k10 A10 B10 Z10
  go_wp2_with (first | refine arr_store rfl .u64 24 _ _ rfl k9.heap.size rfl B rfl _ A10 (by rw [HB.out]; rfl) (size_v HB.out) ?_)
  intro k11 A11 U11
  have M11 : Hid (Kept w k11 [(k9.heap.size, ks .u64 B), (k6.heap.size, ks .u64 A), (k3.heap.size, ks .u64 a2 ++ [Value.bool o2]), (k2.heap.size, ks .u64 a1 ++ [Value.bool o1]), (w.heap.size, ks .u64 a0 ++ [Value.bool o0])]) := Kept.fresh M9.out B10 Z10 U11 (Arr.blk A11)
  clear A10 B10 Z10 A11 U11 M9
  go_wp2_with (first | refine blk_load rfl 26 _ rfl (k3.heap.size) rfl (ks .u64 a2 ++ [Value.bool o2]) (Kept.get M11.out 2 rfl) _ Tryd.underlying26 rfl (size_vv w2.len) ?_)
  refine (CV2.out k11).mono ?_; rintro e k12 ⟨rfl, hb12⟩
  have M12 : Hid (Kept w k12 [(k9.heap.size, ks .u64 B), (k6.heap.size, ks .u64 A), (k3.heap.size, ks .u64 a2 ++ [Value.bool o2]), (k2.heap.size, ks .u64 a1 ++ [Value.bool o1]), (w.heap.size, ks .u64 a0 ++ [Value.bool o0])]) := Kept.below M11.out hb12
  clear hb12 M11
  go_wp2_with (first | refine arr_alloc rfl .u64 24 4 rfl Tryd.info_v ?_)
  intro k13 A13 B13 Z13
  go_wp2_with (first | refine arr_store rfl .u64 24 _ _ rfl k12.heap.size rfl C rfl _ A13 (by rw [HC.out]; rfl) (size_v HC.out) ?_)
  intro k14 A14 U14
  have M14 : Hid (Kept w k14 [(k12.heap.size, ks .u64 C), (k9.heap.size, ks .u64 B), (k6.heap.size, ks .u64 A), (k3.heap.size, ks .u64 a2 ++ [Value.bool o2]), (k2.heap.size, ks .u64 a1 ++ [Value.bool o1]), (w.heap.size, ks .u64 a0 ++ [Value.bool o0])]) := Kept.fresh M12.out B13 Z13 U14 (Arr.blk A14)
  clear A13 B13 Z13 A14 U14 M12
  go_wp2_with (first | refine arr_load rfl .u64 24 _ rfl (k6.heap.size) rfl A (Kept.arr M14.out 2 rfl) 4 22 Tryd.underlying24 (size_v HA.out) ?_ | refine arr_load rfl .u64 24 _ rfl (k9.heap.size) rfl B (Kept.arr M14.out 1 rfl) 4 22 Tryd.underlying24 (size_v HB.out) ?_)
  refine (CJ.out k14).mono ?_; rintro e k15 ⟨rfl, hb15⟩
  have M15 : Hid (Kept w k15 [(k12.heap.size, ks .u64 C), (k9.heap.size, ks .u64 B), (k6.heap.size, ks .u64 A), (k3.heap.size, ks .u64 a2 ++ [Value.bool o2]), (k2.heap.size, ks .u64 a1 ++ [Value.bool o1]), (w.heap.size, ks .u64 a0 ++ [Value.bool o0])]) := Kept.below M14.out hb15
  clear hb15 M14
  go_wp2_with (first | refine arr_alloc rfl .u64 24 4 rfl Tryd.info_v ?_)
  intro k16 A16 B16 Z16
  go_wp2_with (first | refine arr_store rfl .u64 24 _ _ rfl k15.heap.size rfl (V.join A B) rfl _ A16 (by rw [(V.join_length HA.out HB.out)]; rfl) (size_v (V.join_length HA.out HB.out)) ?_)
  intro k17 A17 U17
  have M17 : Hid (Kept w k17 [(k15.heap.size, ks .u64 (V.join A B)), (k12.heap.size, ks .u64 C), (k9.heap.size, ks .u64 B), (k6.heap.size, ks .u64 A), (k3.heap.size, ks .u64 a2 ++ [Value.bool o2]), (k2.heap.size, ks .u64 a1 ++ [Value.bool o1]), (w.heap.size, ks .u64 a0 ++ [Value.bool o0])]) := Kept.fresh M15.out B16 Z16 U17 (Arr.blk A17)
  clear A16 B16 Z16 A17 U17 M15
  go_wp2_with (first | refine arr_load rfl .u64 24 _ rfl (k6.heap.size) rfl A (Kept.arr M17.out 3 rfl) 4 22 Tryd.underlying24 (size_v HA.out) ?_ | refine arr_load rfl .u64 24 _ rfl (k9.heap.size) rfl B (Kept.arr M17.out 2 rfl) 4 22 Tryd.underlying24 (size_v HB.out) ?_)
  refine (CM.out k17).mono ?_; rintro e k18 ⟨rfl, hb18⟩
  have M18 : Hid (Kept w k18 [(k15.heap.size, ks .u64 (V.join A B)), (k12.heap.size, ks .u64 C), (k9.heap.size, ks .u64 B), (k6.heap.size, ks .u64 A), (k3.heap.size, ks .u64 a2 ++ [Value.bool o2]), (k2.heap.size, ks .u64 a1 ++ [Value.bool o1]), (w.heap.size, ks .u64 a0 ++ [Value.bool o0])]) := Kept.below M17.out hb18
  clear hb18 M17
  go_wp2_with (first | refine arr_alloc rfl .u64 24 4 rfl Tryd.info_v ?_)
  intro k19 A19 B19 Z19
  go_wp2_with (first | refine arr_store rfl .u64 24 _ _ rfl k18.heap.size rfl (V.meet A B) rfl _ A19 (by rw [(V.meet_length HA.out HB.out)]; rfl) (size_v (V.meet_length HA.out HB.out)) ?_)
  intro k20 A20 U20
  have M20 : Hid (Kept w k20 [(k18.heap.size, ks .u64 (V.meet A B)), (k15.heap.size, ks .u64 (V.join A B)), (k12.heap.size, ks .u64 C), (k9.heap.size, ks .u64 B), (k6.heap.size, ks .u64 A), (k3.heap.size, ks .u64 a2 ++ [Value.bool o2]), (k2.heap.size, ks .u64 a1 ++ [Value.bool o1]), (w.heap.size, ks .u64 a0 ++ [Value.bool o0])]) := Kept.fresh M18.out B19 Z19 U20 (Arr.blk A20)
  clear A19 B19 Z19 A20 U20 M18
  go_wp2_with fail
  have KP8 : Hid (∀ u, Below k20.heap.size k20 u → Arr .u64 u (k6.heap.size) A) := fun u hu => (Kept.below M20.out hu).arr 4 rfl
  have KP9 : Hid (∀ u, Below k20.heap.size k20 u → Arr .u64 u (k9.heap.size) B) := fun u hu => (Kept.below M20.out hu).arr 3 rfl
  have KP10 : Hid (∀ u, Below k20.heap.size k20 u → Arr .u64 u (k12.heap.size) C) := fun u hu => (Kept.below M20.out hu).arr 2 rfl
  have KP11 : Hid (∀ u, Below k20.heap.size k20 u → Arr .u64 u (k15.heap.size) (V.join A B)) := fun u hu => (Kept.below M20.out hu).arr 1 rfl
  have KP12 : Hid (∀ u, Below k20.heap.size k20 u → Arr .u64 u (k18.heap.size) (V.meet A B)) := fun u hu => (Kept.below M20.out hu).arr 0 rfl
  have KC0 : Hid (∀ u, Below k20.heap.size k20 u → Calls Tryd.prog 12 [AV .u64 B, AV .u64 A].toArray u fun e u' => e = .returned (AV .u64 (V.join B A)) ∧ Below k20.heap.size k20 u') := fun u hu => Calls.more hu (join_any B A u HB.out HA.out)
  have KC1 : Hid (∀ u, Below k20.heap.size k20 u → Calls Tryd.prog 14 [AV .u64 B, AV .u64 A].toArray u fun e u' => e = .returned (AV .u64 (V.meet B A)) ∧ Below k20.heap.size k20 u') := fun u hu => Calls.more hu (meet_any B A u HB.out HA.out)
  have KC2 : Hid (∀ u, Below k20.heap.size k20 u → Calls Tryd.prog 12 [AV .u64 (V.join A B), AV .u64 C].toArray u fun e u' => e = .returned (AV .u64 (V.join (V.join A B) C)) ∧ Below k20.heap.size k20 u') := fun u hu => Calls.more hu (join_any (V.join A B) C u (V.join_length HA.out HB.out) HC.out)
  have KC3 : Hid (∀ u, Below k20.heap.size k20 u → Calls Tryd.prog 12 [AV .u64 B, AV .u64 C].toArray u fun e u' => e = .returned (AV .u64 (V.join B C)) ∧ Below k20.heap.size k20 u') := fun u hu => Calls.more hu (join_any B C u HB.out HC.out)
  have KC4 : Hid (∀ u, Below k20.heap.size k20 u → Calls Tryd.prog 12 [AV .u64 A, AV .u64 (V.join B C)].toArray u fun e u' => e = .returned (AV .u64 (V.join A (V.join B C))) ∧ Below k20.heap.size k20 u') := fun u hu => Calls.more hu (join_any A (V.join B C) u HA.out (V.join_length HB.out HC.out))
  have KC5 : Hid (∀ u, Below k20.heap.size k20 u → Calls Tryd.prog 14 [AV .u64 (V.meet A B), AV .u64 C].toArray u fun e u' => e = .returned (AV .u64 (V.meet (V.meet A B) C)) ∧ Below k20.heap.size k20 u') := fun u hu => Calls.more hu (meet_any (V.meet A B) C u (V.meet_length HA.out HB.out) HC.out)
  have KC6 : Hid (∀ u, Below k20.heap.size k20 u → Calls Tryd.prog 14 [AV .u64 B, AV .u64 C].toArray u fun e u' => e = .returned (AV .u64 (V.meet B C)) ∧ Below k20.heap.size k20 u') := fun u hu => Calls.more hu (meet_any B C u HB.out HC.out)
  have KC7 : Hid (∀ u, Below k20.heap.size k20 u → Calls Tryd.prog 14 [AV .u64 A, AV .u64 (V.meet B C)].toArray u fun e u' => e = .returned (AV .u64 (V.meet A (V.meet B C))) ∧ Below k20.heap.size k20 u') := fun u hu => Calls.more hu (meet_any A (V.meet B C) u HA.out (V.meet_length HB.out HC.out))
  have KC8 : Hid (∀ u, Below k20.heap.size k20 u → Calls Tryd.prog 12 [AV .u64 (V.join A B), AV .u64 A].toArray u fun e u' => e = .returned (AV .u64 (V.join (V.join A B) A)) ∧ Below k20.heap.size k20 u') := fun u hu => Calls.more hu (join_any (V.join A B) A u (V.join_length HA.out HB.out) HA.out)
  have KC9 : Hid (∀ u, Below k20.heap.size k20 u → Calls Tryd.prog 14 [AV .u64 (V.meet A B), AV .u64 A].toArray u fun e u' => e = .returned (AV .u64 (V.meet (V.meet A B) A)) ∧ Below k20.heap.size k20 u') := fun u hu => Calls.more hu (meet_any (V.meet A B) A u (V.meet_length HA.out HB.out) HA.out)
  have KC10 : Hid (∀ u, Below k20.heap.size k20 u → Calls Tryd.prog 22 [AV .u64 A, AV .u64 (V.join A B)].toArray u fun e u' => e = .returned (.bool true) ∧ Below k20.heap.size k20 u') := fun u hu => Calls.more hu (by have h := leq_any A (V.join A B) u HA.out (V.join_length HA.out HB.out); rw [(q6 A B HA.out HB.out)] at h; exact h)
  have KC11 : Hid (∀ u, Below k20.heap.size k20 u → Calls Tryd.prog 22 [AV .u64 (V.meet A B), AV .u64 B].toArray u fun e u' => e = .returned (.bool true) ∧ Below k20.heap.size k20 u') := fun u hu => Calls.more hu (by have h := leq_any (V.meet A B) B u (V.meet_length HA.out HB.out) HB.out; rw [(q7 A B HA.out HB.out)] at h; exact h)
  have KC12 : Hid (∀ u, Below k20.heap.size k20 u → Calls Tryd.prog 12 [AV .u64 A, AV .u64 (V.meet A B)].toArray u fun e u' => e = .returned (AV .u64 (V.join A (V.meet A B))) ∧ Below k20.heap.size k20 u') := fun u hu => Calls.more hu (join_any A (V.meet A B) u HA.out (V.meet_length HA.out HB.out))
  have KC13 : Hid (∀ u, Below k20.heap.size k20 u → Calls Tryd.prog 14 [AV .u64 A, AV .u64 (V.join A B)].toArray u fun e u' => e = .returned (AV .u64 (V.meet A (V.join A B))) ∧ Below k20.heap.size k20 u') := fun u hu => Calls.more hu (meet_any A (V.join A B) u HA.out (V.join_length HA.out HB.out))
  have KC14 : Hid (∀ u, Below k20.heap.size k20 u → Calls Tryd.prog 20 [AV .u64 A].toArray u fun e u' => e = .returned (.bool rA) ∧ Below k20.heap.size k20 u') := fun u hu => Calls.more hu (by have h := right_any A u HA.out; rw [RA.out] at h; exact h)
  have KC15 : Hid (∀ u, Below k20.heap.size k20 u → Calls Tryd.prog 20 [AV .u64 B].toArray u fun e u' => e = .returned (.bool rB) ∧ Below k20.heap.size k20 u') := fun u hu => Calls.more hu (by have h := right_any B u HB.out; rw [RB.out] at h; exact h)
  have KRJ : Hid (rA = true → rB = true → ∀ u, Below k20.heap.size k20 u → Calls Tryd.prog 20 [AV .u64 (V.join A B)].toArray u fun e u' => e = .returned (.bool true) ∧ Below k20.heap.size k20 u') := fun h1 h2 u hu => Calls.more hu (by have h := right_any (V.join A B) u (V.join_length HA.out HB.out); rw [V.right_join HA.out HB.out (RA.out.trans h1) (RB.out.trans h2)] at h; exact h)
  refine region_more Tryd.mixed (by kernel_rfl) ?_
  refine q_move rfl _ rfl (.bool true) rfl (fun K hK => ?_)
  go_simp
  refine hK _ ?_
  clear hK K
  refine q_move rfl _ rfl (.bool true) rfl (fun K hK => ?_)
  go_simp
  refine hK _ ?_
  clear hK K
  refine qg_arr_load (by rfl) .u64 24 _ rfl (k15.heap.size) rfl (V.join A B) KP11.out 4 22 Tryd.underlying24 (size_v (V.join_length HA.out HB.out)) (fun K hK => ?_)
  go_simp
  refine hK _ ?_
  clear hK K
  refine qg_arr_load (by rfl) .u64 24 _ rfl (k9.heap.size) rfl B KP9.out 4 22 Tryd.underlying24 (size_v HB.out) (fun K hK => ?_)
  go_simp
  refine hK _ ?_
  clear hK K
  refine qg_arr_load (by rfl) .u64 24 _ rfl (k6.heap.size) rfl A KP8.out 4 22 Tryd.underlying24 (size_v HA.out) (fun K hK => ?_)
  go_simp
  refine hK _ ?_
  clear hK K
  refine qg_call (by rfl) 12 Tryd.f12 Tryd.func12 rfl rfl _ _ rfl _ rfl (AV .u64 (V.join B A)) (by exact KC0.out) (fun K hK => ?_)
  go_simp
  refine hK _ ?_
  clear hK K
  refine qg_value (by rfl) (.bool true) (fun u _ => run_eql u .eql 24 24 _ _ (AV .u64 (V.join A B)) (AV .u64 (V.join B A)) _ rfl rfl rfl (guard_v _ _ _ _ u) (eql_true (V.join A B) (V.join B A) (V.join_length HA.out HB.out) (V.join_length HB.out HA.out) (q0 A B HA.out HB.out) u)) (fun K hK => ?_)
  go_simp
  refine hK _ ?_
  clear hK K
  refine q_value rfl (.bool true) (fun u hu => by go_simp) (fun K hK => ?_)
  go_simp
  refine hK _ ?_
  clear hK K
  refine q_move rfl _ rfl (.bool true) rfl (fun K hK => ?_)
  go_simp
  refine hK _ ?_
  clear hK K
  refine qg_arr_load (by rfl) .u64 24 _ rfl (k18.heap.size) rfl (V.meet A B) KP12.out 4 22 Tryd.underlying24 (size_v (V.meet_length HA.out HB.out)) (fun K hK => ?_)
  go_simp
  refine hK _ ?_
  clear hK K
  refine qg_arr_load (by rfl) .u64 24 _ rfl (k9.heap.size) rfl B KP9.out 4 22 Tryd.underlying24 (size_v HB.out) (fun K hK => ?_)
  go_simp
  refine hK _ ?_
  clear hK K
  refine qg_arr_load (by rfl) .u64 24 _ rfl (k6.heap.size) rfl A KP8.out 4 22 Tryd.underlying24 (size_v HA.out) (fun K hK => ?_)
  go_simp
  refine hK _ ?_
  clear hK K
  refine qg_call (by rfl) 14 Tryd.f14 Tryd.func14 rfl rfl _ _ rfl _ rfl (AV .u64 (V.meet B A)) (by exact KC1.out) (fun K hK => ?_)
  go_simp
  refine hK _ ?_
  clear hK K
  refine qg_value (by rfl) (.bool true) (fun u _ => run_eql u .eql 24 24 _ _ (AV .u64 (V.meet A B)) (AV .u64 (V.meet B A)) _ rfl rfl rfl (guard_v _ _ _ _ u) (eql_true (V.meet A B) (V.meet B A) (V.meet_length HA.out HB.out) (V.meet_length HB.out HA.out) (q1 A B HA.out HB.out) u)) (fun K hK => ?_)
  go_simp
  refine hK _ ?_
  clear hK K
  refine q_value rfl (.bool true) (fun u hu => by go_simp) (fun K hK => ?_)
  go_simp
  refine hK _ ?_
  clear hK K
  refine q_move rfl _ rfl (.bool true) rfl (fun K hK => ?_)
  go_simp
  refine hK _ ?_
  clear hK K
  refine qg_arr_load (by rfl) .u64 24 _ rfl (k15.heap.size) rfl (V.join A B) KP11.out 4 22 Tryd.underlying24 (size_v (V.join_length HA.out HB.out)) (fun K hK => ?_)
  go_simp
  refine hK _ ?_
  clear hK K
  refine qg_arr_load (by rfl) .u64 24 _ rfl (k12.heap.size) rfl C KP10.out 4 22 Tryd.underlying24 (size_v HC.out) (fun K hK => ?_)
  go_simp
  refine hK _ ?_
  clear hK K
  refine qg_call (by rfl) 12 Tryd.f12 Tryd.func12 rfl rfl _ _ rfl _ rfl (AV .u64 (V.join (V.join A B) C)) (by exact KC2.out) (fun K hK => ?_)
  go_simp
  refine hK _ ?_
  clear hK K
  refine qg_arr_load (by rfl) .u64 24 _ rfl (k6.heap.size) rfl A KP8.out 4 22 Tryd.underlying24 (size_v HA.out) (fun K hK => ?_)
  go_simp
  refine hK _ ?_
  clear hK K
  refine qg_arr_load (by rfl) .u64 24 _ rfl (k9.heap.size) rfl B KP9.out 4 22 Tryd.underlying24 (size_v HB.out) (fun K hK => ?_)
  go_simp
  refine hK _ ?_
  clear hK K
  refine qg_arr_load (by rfl) .u64 24 _ rfl (k12.heap.size) rfl C KP10.out 4 22 Tryd.underlying24 (size_v HC.out) (fun K hK => ?_)
  go_simp
  refine hK _ ?_
  clear hK K
  refine qg_call (by rfl) 12 Tryd.f12 Tryd.func12 rfl rfl _ _ rfl _ rfl (AV .u64 (V.join B C)) (by exact KC3.out) (fun K hK => ?_)
  go_simp
  refine hK _ ?_
  clear hK K
  refine qg_call (by rfl) 12 Tryd.f12 Tryd.func12 rfl rfl _ _ rfl _ rfl (AV .u64 (V.join A (V.join B C))) (by exact KC4.out) (fun K hK => ?_)
  go_simp
  refine hK _ ?_
  clear hK K
  refine qg_value (by rfl) (.bool true) (fun u _ => run_eql u .eql 24 24 _ _ (AV .u64 (V.join (V.join A B) C)) (AV .u64 (V.join A (V.join B C))) _ rfl rfl rfl (guard_v _ _ _ _ u) (eql_true (V.join (V.join A B) C) (V.join A (V.join B C)) (V.join_length (V.join_length HA.out HB.out) HC.out) (V.join_length HA.out (V.join_length HB.out HC.out)) (q2 A B C HA.out HB.out HC.out) u)) (fun K hK => ?_)
  go_simp
  refine hK _ ?_
  clear hK K
  refine q_value rfl (.bool true) (fun u hu => by go_simp) (fun K hK => ?_)
  go_simp
  refine hK _ ?_
  clear hK K
  refine q_move rfl _ rfl (.bool true) rfl (fun K hK => ?_)
  go_simp
  refine hK _ ?_
  clear hK K
  refine qg_arr_load (by rfl) .u64 24 _ rfl (k18.heap.size) rfl (V.meet A B) KP12.out 4 22 Tryd.underlying24 (size_v (V.meet_length HA.out HB.out)) (fun K hK => ?_)
  go_simp
  refine hK _ ?_
  clear hK K
  refine qg_arr_load (by rfl) .u64 24 _ rfl (k12.heap.size) rfl C KP10.out 4 22 Tryd.underlying24 (size_v HC.out) (fun K hK => ?_)
  go_simp
  refine hK _ ?_
  clear hK K
  refine qg_call (by rfl) 14 Tryd.f14 Tryd.func14 rfl rfl _ _ rfl _ rfl (AV .u64 (V.meet (V.meet A B) C)) (by exact KC5.out) (fun K hK => ?_)
  go_simp
  refine hK _ ?_
  clear hK K
  refine qg_arr_load (by rfl) .u64 24 _ rfl (k6.heap.size) rfl A KP8.out 4 22 Tryd.underlying24 (size_v HA.out) (fun K hK => ?_)
  go_simp
  refine hK _ ?_
  clear hK K
  refine qg_arr_load (by rfl) .u64 24 _ rfl (k9.heap.size) rfl B KP9.out 4 22 Tryd.underlying24 (size_v HB.out) (fun K hK => ?_)
  go_simp
  refine hK _ ?_
  clear hK K
  refine qg_arr_load (by rfl) .u64 24 _ rfl (k12.heap.size) rfl C KP10.out 4 22 Tryd.underlying24 (size_v HC.out) (fun K hK => ?_)
  go_simp
  refine hK _ ?_
  clear hK K
  refine qg_call (by rfl) 14 Tryd.f14 Tryd.func14 rfl rfl _ _ rfl _ rfl (AV .u64 (V.meet B C)) (by exact KC6.out) (fun K hK => ?_)
  go_simp
  refine hK _ ?_
  clear hK K
  refine qg_call (by rfl) 14 Tryd.f14 Tryd.func14 rfl rfl _ _ rfl _ rfl (AV .u64 (V.meet A (V.meet B C))) (by exact KC7.out) (fun K hK => ?_)
  go_simp
  refine hK _ ?_
  clear hK K
  refine qg_value (by rfl) (.bool true) (fun u _ => run_eql u .eql 24 24 _ _ (AV .u64 (V.meet (V.meet A B) C)) (AV .u64 (V.meet A (V.meet B C))) _ rfl rfl rfl (guard_v _ _ _ _ u) (eql_true (V.meet (V.meet A B) C) (V.meet A (V.meet B C)) (V.meet_length (V.meet_length HA.out HB.out) HC.out) (V.meet_length HA.out (V.meet_length HB.out HC.out)) (q3 A B C HA.out HB.out HC.out) u)) (fun K hK => ?_)
  go_simp
  refine hK _ ?_
  clear hK K
  refine q_value rfl (.bool true) (fun u hu => by go_simp) (fun K hK => ?_)
  go_simp
  refine hK _ ?_
  clear hK K
  refine q_move rfl _ rfl (.bool true) rfl (fun K hK => ?_)
  go_simp
  refine hK _ ?_
  clear hK K
  refine qg_arr_load (by rfl) .u64 24 _ rfl (k15.heap.size) rfl (V.join A B) KP11.out 4 22 Tryd.underlying24 (size_v (V.join_length HA.out HB.out)) (fun K hK => ?_)
  go_simp
  refine hK _ ?_
  clear hK K
  refine qg_arr_load (by rfl) .u64 24 _ rfl (k6.heap.size) rfl A KP8.out 4 22 Tryd.underlying24 (size_v HA.out) (fun K hK => ?_)
  go_simp
  refine hK _ ?_
  clear hK K
  refine qg_call (by rfl) 12 Tryd.f12 Tryd.func12 rfl rfl _ _ rfl _ rfl (AV .u64 (V.join (V.join A B) A)) (by exact KC8.out) (fun K hK => ?_)
  go_simp
  refine hK _ ?_
  clear hK K
  refine qg_arr_load (by rfl) .u64 24 _ rfl (k15.heap.size) rfl (V.join A B) KP11.out 4 22 Tryd.underlying24 (size_v (V.join_length HA.out HB.out)) (fun K hK => ?_)
  go_simp
  refine hK _ ?_
  clear hK K
  refine qg_value (by rfl) (.bool true) (fun u _ => run_eql u .eql 24 24 _ _ (AV .u64 (V.join (V.join A B) A)) (AV .u64 (V.join A B)) _ rfl rfl rfl (guard_v _ _ _ _ u) (eql_true (V.join (V.join A B) A) (V.join A B) (V.join_length (V.join_length HA.out HB.out) HA.out) (V.join_length HA.out HB.out) (q4 A B HA.out HB.out) u)) (fun K hK => ?_)
  go_simp
  refine hK _ ?_
  clear hK K
  refine q_value rfl (.bool true) (fun u hu => by go_simp) (fun K hK => ?_)
  go_simp
  refine hK _ ?_
  clear hK K
  refine q_move rfl _ rfl (.bool true) rfl (fun K hK => ?_)
  go_simp
  refine hK _ ?_
  clear hK K
  refine qg_arr_load (by rfl) .u64 24 _ rfl (k18.heap.size) rfl (V.meet A B) KP12.out 4 22 Tryd.underlying24 (size_v (V.meet_length HA.out HB.out)) (fun K hK => ?_)
  go_simp
  refine hK _ ?_
  clear hK K
  refine qg_arr_load (by rfl) .u64 24 _ rfl (k6.heap.size) rfl A KP8.out 4 22 Tryd.underlying24 (size_v HA.out) (fun K hK => ?_)
  go_simp
  refine hK _ ?_
  clear hK K
  refine qg_call (by rfl) 14 Tryd.f14 Tryd.func14 rfl rfl _ _ rfl _ rfl (AV .u64 (V.meet (V.meet A B) A)) (by exact KC9.out) (fun K hK => ?_)
  go_simp
  refine hK _ ?_
  clear hK K
  refine qg_arr_load (by rfl) .u64 24 _ rfl (k18.heap.size) rfl (V.meet A B) KP12.out 4 22 Tryd.underlying24 (size_v (V.meet_length HA.out HB.out)) (fun K hK => ?_)
  go_simp
  refine hK _ ?_
  clear hK K
  refine qg_value (by rfl) (.bool true) (fun u _ => run_eql u .eql 24 24 _ _ (AV .u64 (V.meet (V.meet A B) A)) (AV .u64 (V.meet A B)) _ rfl rfl rfl (guard_v _ _ _ _ u) (eql_true (V.meet (V.meet A B) A) (V.meet A B) (V.meet_length (V.meet_length HA.out HB.out) HA.out) (V.meet_length HA.out HB.out) (q5 A B HA.out HB.out) u)) (fun K hK => ?_)
  go_simp
  refine hK _ ?_
  clear hK K
  refine q_value rfl (.bool true) (fun u hu => by go_simp) (fun K hK => ?_)
  go_simp
  refine hK _ ?_
  clear hK K
  refine q_move rfl _ rfl (.bool true) rfl (fun K hK => ?_)
  go_simp
  refine hK _ ?_
  clear hK K
  refine qg_arr_load (by rfl) .u64 24 _ rfl (k6.heap.size) rfl A KP8.out 4 22 Tryd.underlying24 (size_v HA.out) (fun K hK => ?_)
  go_simp
  refine hK _ ?_
  clear hK K
  refine qg_arr_load (by rfl) .u64 24 _ rfl (k15.heap.size) rfl (V.join A B) KP11.out 4 22 Tryd.underlying24 (size_v (V.join_length HA.out HB.out)) (fun K hK => ?_)
  go_simp
  refine hK _ ?_
  clear hK K
  refine qg_call (by rfl) 22 Tryd.f22 Tryd.func22 rfl rfl _ _ rfl _ rfl (.bool true) (by exact KC10.out) (fun K hK => ?_)
  go_simp
  refine hK _ ?_
  clear hK K
  refine q_value rfl (.bool true) (fun u hu => by go_simp) (fun K hK => ?_)
  go_simp
  refine hK _ ?_
  clear hK K
  refine q_move rfl _ rfl (.bool true) rfl (fun K hK => ?_)
  go_simp
  refine hK _ ?_
  clear hK K
  refine qg_arr_load (by rfl) .u64 24 _ rfl (k18.heap.size) rfl (V.meet A B) KP12.out 4 22 Tryd.underlying24 (size_v (V.meet_length HA.out HB.out)) (fun K hK => ?_)
  go_simp
  refine hK _ ?_
  clear hK K
  refine qg_arr_load (by rfl) .u64 24 _ rfl (k9.heap.size) rfl B KP9.out 4 22 Tryd.underlying24 (size_v HB.out) (fun K hK => ?_)
  go_simp
  refine hK _ ?_
  clear hK K
  refine qg_call (by rfl) 22 Tryd.f22 Tryd.func22 rfl rfl _ _ rfl _ rfl (.bool true) (by exact KC11.out) (fun K hK => ?_)
  go_simp
  refine hK _ ?_
  clear hK K
  refine q_value rfl (.bool true) (fun u hu => by go_simp) (fun K hK => ?_)
  go_simp
  refine hK _ ?_
  clear hK K
  refine q_move rfl _ rfl (.bool true) rfl (fun K hK => ?_)
  go_simp
  refine hK _ ?_
  clear hK K
  refine qg_arr_load (by rfl) .u64 24 _ rfl (k6.heap.size) rfl A KP8.out 4 22 Tryd.underlying24 (size_v HA.out) (fun K hK => ?_)
  go_simp
  refine hK _ ?_
  clear hK K
  refine qg_arr_load (by rfl) .u64 24 _ rfl (k18.heap.size) rfl (V.meet A B) KP12.out 4 22 Tryd.underlying24 (size_v (V.meet_length HA.out HB.out)) (fun K hK => ?_)
  go_simp
  refine hK _ ?_
  clear hK K
  refine qg_call (by rfl) 12 Tryd.f12 Tryd.func12 rfl rfl _ _ rfl _ rfl (AV .u64 (V.join A (V.meet A B))) (by exact KC12.out) (fun K hK => ?_)
  go_simp
  refine hK _ ?_
  clear hK K
  refine qg_arr_load (by rfl) .u64 24 _ rfl (k6.heap.size) rfl A KP8.out 4 22 Tryd.underlying24 (size_v HA.out) (fun K hK => ?_)
  go_simp
  refine hK _ ?_
  clear hK K
  refine qg_value (by rfl) (.bool true) (fun u _ => run_eql u .eql 24 24 _ _ (AV .u64 (V.join A (V.meet A B))) (AV .u64 A) _ rfl rfl rfl (guard_v _ _ _ _ u) (eql_true (V.join A (V.meet A B)) A (V.join_length HA.out (V.meet_length HA.out HB.out)) HA.out (q8 A B HA.out HB.out) u)) (fun K hK => ?_)
  go_simp
  refine hK _ ?_
  clear hK K
  refine q_value rfl (.bool true) (fun u hu => by go_simp) (fun K hK => ?_)
  go_simp
  refine hK _ ?_
  clear hK K
  refine q_move rfl _ rfl (.bool true) rfl (fun K hK => ?_)
  go_simp
  refine hK _ ?_
  clear hK K
  refine qg_arr_load (by rfl) .u64 24 _ rfl (k6.heap.size) rfl A KP8.out 4 22 Tryd.underlying24 (size_v HA.out) (fun K hK => ?_)
  go_simp
  refine hK _ ?_
  clear hK K
  refine qg_arr_load (by rfl) .u64 24 _ rfl (k15.heap.size) rfl (V.join A B) KP11.out 4 22 Tryd.underlying24 (size_v (V.join_length HA.out HB.out)) (fun K hK => ?_)
  go_simp
  refine hK _ ?_
  clear hK K
  refine qg_call (by rfl) 14 Tryd.f14 Tryd.func14 rfl rfl _ _ rfl _ rfl (AV .u64 (V.meet A (V.join A B))) (by exact KC13.out) (fun K hK => ?_)
  go_simp
  refine hK _ ?_
  clear hK K
  refine qg_arr_load (by rfl) .u64 24 _ rfl (k6.heap.size) rfl A KP8.out 4 22 Tryd.underlying24 (size_v HA.out) (fun K hK => ?_)
  go_simp
  refine hK _ ?_
  clear hK K
  refine qg_value (by rfl) (.bool true) (fun u _ => run_eql u .eql 24 24 _ _ (AV .u64 (V.meet A (V.join A B))) (AV .u64 A) _ rfl rfl rfl (guard_v _ _ _ _ u) (eql_true (V.meet A (V.join A B)) A (V.meet_length HA.out (V.join_length HA.out HB.out)) HA.out (q9 A B HA.out HB.out) u)) (fun K hK => ?_)
  go_simp
  refine hK _ ?_
  clear hK K
  refine q_value rfl (.bool true) (fun u hu => by go_simp) (fun K hK => ?_)
  go_simp
  refine hK _ ?_
  clear hK K
  refine q_move rfl _ rfl (.bool true) rfl (fun K hK => ?_)
  go_simp
  refine hK _ ?_
  clear hK K
  refine qg_arr_load (by rfl) .u64 24 _ rfl (k6.heap.size) rfl A KP8.out 4 22 Tryd.underlying24 (size_v HA.out) (fun K hK => ?_)
  go_simp
  refine hK _ ?_
  clear hK K
  refine qg_call (by rfl) 20 Tryd.f20 Tryd.func20 rfl rfl _ _ rfl _ rfl (.bool rA) (by exact KC14.out) (fun K hK => ?_)
  go_simp
  refine hK _ ?_
  clear hK K
  cases rA with
  | false =>
    refine qg_value (by rfl) (.bool true) (fun u hu => by go_simp) (fun K hK => ?_)
    go_simp
    refine hK _ ?_
    clear hK K
    refine qg_value (by rfl) (.bool true) (fun u hu => by go_simp) (fun K hK => ?_)
    go_simp
    refine hK _ ?_
    clear hK K
    refine q_skip (by rfl) (fun K hK => ?_)
    go_simp
    refine hK _ ?_
    clear hK K
    refine q_skip (by rfl) (fun K hK => ?_)
    go_simp
    refine hK _ ?_
    clear hK K
    refine q_skip (by rfl) (fun K hK => ?_)
    go_simp
    refine hK _ ?_
    clear hK K
    refine qg_value (by rfl) (.bool true) (fun u hu => by go_simp) (fun K hK => ?_)
    go_simp
    refine hK _ ?_
    clear hK K
    refine qg_value (by rfl) (.bool true) (fun u hu => by go_simp) (fun K hK => ?_)
    go_simp
    refine hK _ ?_
    clear hK K
    refine q_skip (by rfl) (fun K hK => ?_)
    go_simp
    refine hK _ ?_
    clear hK K
    refine q_skip (by rfl) (fun K hK => ?_)
    go_simp
    refine hK _ ?_
    clear hK K
    refine qg_value (by rfl) (.bool true) (fun u hu => by go_simp) (fun K hK => ?_)
    go_simp
    refine hK _ ?_
    clear hK K
    refine q_value rfl (.bool true) (fun u hu => by go_simp) (fun K hK => ?_)
    go_simp
    refine hK _ ?_
    clear hK K
    refine q_assign rfl _ rfl (.bool true) rfl (fun K hK => ?_)
    go_simp
    refine hK _ ?_
    clear hK K
    refine wpQuiet_nil ?_
    intro u hu
    have HW9 : Hid (Below w.heap.size w u) := (Kept.below M20.out hu).under
    clear hu
    go_wp2_with fail
    go_ret
    exact ⟨rfl, HW9.out⟩
  | true =>
    refine qg_value (by rfl) (.bool false) (fun u hu => by go_simp) (fun K hK => ?_)
    go_simp
    refine hK _ ?_
    clear hK K
    refine qg_value (by rfl) (.bool false) (fun u hu => by go_simp) (fun K hK => ?_)
    go_simp
    refine hK _ ?_
    clear hK K
    refine qg_arr_load (by rfl) .u64 24 _ rfl (k9.heap.size) rfl B KP9.out 4 22 Tryd.underlying24 (size_v HB.out) (fun K hK => ?_)
    go_simp
    refine hK _ ?_
    clear hK K
    refine qg_call (by rfl) 20 Tryd.f20 Tryd.func20 rfl rfl _ _ rfl _ rfl (.bool rB) (by exact KC15.out) (fun K hK => ?_)
    go_simp
    refine hK _ ?_
    clear hK K
    cases rB with
    | false =>
      refine qg_value (by rfl) (.bool true) (fun u hu => by go_simp) (fun K hK => ?_)
      go_simp
      refine hK _ ?_
      clear hK K
      refine qg_value (by rfl) (.bool true) (fun u hu => by go_simp) (fun K hK => ?_)
      go_simp
      refine hK _ ?_
      clear hK K
      refine qg_value (by rfl) (.bool true) (fun u hu => by go_simp) (fun K hK => ?_)
      go_simp
      refine hK _ ?_
      clear hK K
      refine q_skip (by rfl) (fun K hK => ?_)
      go_simp
      refine hK _ ?_
      clear hK K
      refine q_skip (by rfl) (fun K hK => ?_)
      go_simp
      refine hK _ ?_
      clear hK K
      refine qg_value (by rfl) (.bool true) (fun u hu => by go_simp) (fun K hK => ?_)
      go_simp
      refine hK _ ?_
      clear hK K
      refine q_value rfl (.bool true) (fun u hu => by go_simp) (fun K hK => ?_)
      go_simp
      refine hK _ ?_
      clear hK K
      refine q_assign rfl _ rfl (.bool true) rfl (fun K hK => ?_)
      go_simp
      refine hK _ ?_
      clear hK K
      refine wpQuiet_nil ?_
      intro u hu
      have HW9 : Hid (Below w.heap.size w u) := (Kept.below M20.out hu).under
      clear hu
      go_wp2_with fail
      go_ret
      exact ⟨rfl, HW9.out⟩
    | true =>
      refine qg_value (by rfl) (.bool false) (fun u hu => by go_simp) (fun K hK => ?_)
      go_simp
      refine hK _ ?_
      clear hK K
      refine qg_value (by rfl) (.bool false) (fun u hu => by go_simp) (fun K hK => ?_)
      go_simp
      refine hK _ ?_
      clear hK K
      refine qg_value (by rfl) (.bool false) (fun u hu => by go_simp) (fun K hK => ?_)
      go_simp
      refine hK _ ?_
      clear hK K
      refine qg_arr_load (by rfl) .u64 24 _ rfl (k15.heap.size) rfl (V.join A B) KP11.out 4 22 Tryd.underlying24 (size_v (V.join_length HA.out HB.out)) (fun K hK => ?_)
      go_simp
      refine hK _ ?_
      clear hK K
      refine qg_call (by rfl) 20 Tryd.f20 Tryd.func20 rfl rfl _ _ rfl _ rfl (.bool true) (by exact (KRJ.out rfl rfl)) (fun K hK => ?_)
      go_simp
      refine hK _ ?_
      clear hK K
      refine qg_value (by rfl) (.bool true) (fun u hu => by go_simp) (fun K hK => ?_)
      go_simp
      refine hK _ ?_
      clear hK K
      refine q_value rfl (.bool true) (fun u hu => by go_simp) (fun K hK => ?_)
      go_simp
      refine hK _ ?_
      clear hK K
      refine q_assign rfl _ rfl (.bool true) rfl (fun K hK => ?_)
      go_simp
      refine hK _ ?_
      clear hK K
      refine wpQuiet_nil ?_
      intro u hu
      have HW9 : Hid (Below w.heap.size w u) := (Kept.below M20.out hu).under
      clear hu
      go_wp2_with fail
      go_ret
      exact ⟨rfl, HW9.out⟩

set_option maxRecDepth 100000 in
theorem lifted (os : Os) (started : os.Started) (H : Type) (enc : TypeId × Value → H) (F : Stop.Interp) :
    ReturnsInHanded {} Tryd.checked os 5 .any ((OpenSpec.ofChange Rows.vecJoinsSpec).preRow enc Tryd.prog Tryd.f5 Rows.vecJoinsRow.domain false Rows.vecJoinsRow.laid) (((OpenSpec.ofChange Rows.vecJoinsSpec).at F).post enc Tryd.prog Tryd.f5 false true false false) := by
  have hx : ∃ places, DataW.whole enc Tryd.prog ((laidWorld os).forCall (fun _ _ => 0) ⟨#[], #[.agg #[.int .u64 0, .int .u64 0, .int .u64 0, .int .u64 0, .bool false], .agg #[.int .u64 0, .int .u64 0, .int .u64 0, .int .u64 0, .bool false], .agg #[.int .u64 0, .int .u64 0, .int .u64 0, .int .u64 0, .bool false]], []⟩).memory Tryd.f5.params.toList Rows.vecJoinsSpec.vars false #[Value.agg #[.int .u64 0, .int .u64 0, .int .u64 0, .int .u64 0, .bool false], Value.agg #[.int .u64 0, .int .u64 0, .int .u64 0, .int .u64 0, .bool false], Value.agg #[.int .u64 0, .int .u64 0, .int .u64 0, .int .u64 0, .bool false]].toList 8 = some ([.agg [.agg [.lit (.int .u64 0), .lit (.int .u64 0), .lit (.int .u64 0), .lit (.int .u64 0)], .lit (.bool false)], .agg [.agg [.lit (.int .u64 0), .lit (.int .u64 0), .lit (.int .u64 0), .lit (.int .u64 0)], .lit (.bool false)], .agg [.agg [.lit (.int .u64 0), .lit (.int .u64 0), .lit (.int .u64 0), .lit (.int .u64 0)], .lit (.bool false)]], [], places) := ⟨[], by kernel_rfl⟩
  obtain ⟨places, hx⟩ := hx
  refine returnsInHanded_of_row (C := Tryd.checked) (s := OpenSpec.ofChange Rows.vecJoinsSpec) own started (by kernel_rfl) Tryd.func5
    (witness_row_at (enc := enc) (C := Tryd.checked) false (laidWorld os) #[.agg #[.int .u64 0, .int .u64 0, .int .u64 0, .int .u64 0, .bool false], .agg #[.int .u64 0, .int .u64 0, .int .u64 0, .int .u64 0, .bool false], .agg #[.int .u64 0, .int .u64 0, .int .u64 0, .int .u64 0, .bool false]] rfl (by kernel_rfl) (by kernel_rfl) (by kernel_rfl)
      (OpenSpec.preRow_of_cond 8 hx (by kernel_rfl) (fun k hk => by cases hk) (by kernel_rfl) (laidMet_of_run' 8 (by kernel_rfl) (by kernel_rfl)))) ?_
  intro W base args ds gs before hval0 hW hcnd hcond hsz0 hL _ _
  have hT : Fm.Tab W := tab_of hL
  have hval : ∀ (j : Nat) t v, Tryd.f5.params[j]? = some t → args[j]? = some v → Value.okWide Tryd.prog W .any base t v := hval0
  have hW' := hW
  obtain ⟨p, q, hA0, hV, rfl, hfz, hnd⟩ := hW
  have hA : DataW.TrodAll enc Tryd.prog W 0 (fun _ => true) true Tryd.f5.params.toList args.toList ds p := hA0
  have hsz : (DataW.weightsEach Tryd.prog (Tryd.f5.params.toList ++ Rows.vecJoinsSpec.plain.varTypes Tryd.prog) (ds ++ gs)).all (· ≤ reachBytes) = true := hsz0
  rw [Tryd.params5] at hA hval hsz
  obtain ⟨rfl, rfl⟩ := trodVars_none hV
  have hAk := hA
  have hlt : ∀ x ∈ p, x.block < W.heap.size := fun x hx => by simpa using hW'.lt x (List.mem_append.2 (.inl hx))
  obtain ⟨v0, vs0, d0, ds0, p0, q0, hargs, rfl, rfl, h0, r0⟩ := trodAll_cons hA
  obtain ⟨v1, vs1, d1, ds1, p1, q1, rfl, rfl, rfl, h1, r1⟩ := trodAll_cons r0
  obtain ⟨v2, vs2, d2, ds2, p2, q2, rfl, rfl, rfl, h2, r2⟩ := trodAll_cons r1
  obtain ⟨rfl, rfl, rfl⟩ := trodAll_nil r2
  obtain rfl : args = #[v0, v1, v2] := by cases args; simp_all
  obtain ⟨a0, o0, rfl, w0⟩ := open_vector (hval 0 26 v0 rfl rfl) h0
  obtain ⟨a1, o1, rfl, w1⟩ := open_vector (hval 1 26 v1 rfl rfl) h1
  obtain ⟨a2, o2, rfl, w2⟩ := open_vector (hval 2 26 v2 rfl rfl) h2
  clear hA0 hval0 hsz0
  refine (walk a0 o0 a1 o1 a2 o2 w0 w1 w2 W hT).mono fun e W' ⟨he, hg⟩ => ?_
  subst he
  exact ⟨_, rfl, _, _, _, [], _, [], hW', (trodAll_cons_mk (shut_bool Tryd.underlying4 _) trodAll_mk0), trodAll_below laidOut hg _ _ _ _ (by kernel_rfl) hAk hlt, rfl, hg.frame _, fun h => by cases h⟩

theorem over : Rows.vecJoinsRow.holds Tryd.pinned (OpenSpec.ofChange Rows.vecJoinsSpec) :=
  OpenClaim.holds_of_cond 5 Tryd.f5 rfl rfl rfl rfl rfl rfl rfl ⟨rfl, rfl, rfl, rfl, rfl⟩ rfl rfl rfl rfl rfl (by kernel_rfl) Tryd.func5 (by kernel_rfl)
    (of_decide_eq_true (by kernel_rfl)) (by unfold Func.isWrapper; first | (rw [if_pos (by decide +kernel)]; kernel_rfl) | (rw [if_neg (by decide +kernel)]; exact ⟨rfl, rfl⟩))
    (fun os started H enc _ F => by rw [OpenClaim.pre_eq_preRow]; exact lifted os started H enc F)

set_option maxRecDepth 100000 in
theorem plain (f : FuncId) (fn : Func) (hf : Tryd.pinned.checked.prog.funcNamed "tenement/tenementlaw06.VecJoins" = some f) (hfn : Tryd.pinned.checked.prog.funcs[f]? = some fn) :
    false = Tryd.pinned.checked.prog.looks [] ∧ ∀ (j : Nat) t, fn.params[j]? = some t → Tryd.pinned.checked.prog.wantsStandIn t = false := by
  obtain rfl : f = 5 := Option.some.inj ((show Tryd.prog.funcNamed "tenement/tenementlaw06.VecJoins" = some 5 by kernel_rfl).symm.trans hf) |>.symm
  obtain rfl : fn = Tryd.f5 := (Option.some.inj (Tryd.func5.symm.trans hfn)).symm
  refine ⟨by kernel_rfl, fun j t ht => ?_⟩
  rw [Tryd.params5] at ht
  have hm := Array.mem_of_getElem? ht
  simp only [List.mem_toArray, List.mem_cons, List.not_mem_nil, or_false] at hm
  rcases hm with rfl | rfl | rfl
  all_goals first | exact (show Tryd.prog.wantsStandIn 26 = false by kernel_rfl)

/-- the statement -/
theorem proved : Rows.VecJoinsCardSaid :=
  Claim7.holds_tied_plain_at .later [] _ _ _ _ over (fun _ h => by cases h) (by kernel_rfl) (fun _ h => by cases h) vecJoins_row_tie rfl ⟨rfl, rfl⟩ (by kernel_rfl) rfl plain (by kernel_rfl)
#print axioms proved

end Go.Proofs.YtpdomhddjpfibaaDoor.vecJoins
