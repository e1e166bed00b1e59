/-
  Any two vectors are right, or not, held against one another, joined, met, changed, put, told, as the chapter says (the law VecTells). No conditions.
-/
import Derived.Test.YtpdomhddjpfibaaDoorFrameTab

import Derived.Test.YtpdomhddjpfibaaDoorVecEx

import Derived.Test.YtpdomhddjpfibaaDoorVecOf

import Derived.Test.YtpdomhddjpfibaaDoorVecRef2

import Derived.Deep.RegionHeld3

import Derived.Test.YtpdomhddjpfibaaDoorFrameVec

namespace Go.Proofs.YtpdomhddjpfibaaDoor.vecTells

open Go.ChangeShapes Go.WideShapes Go.ChangeAt Go.RowKit

open Go.Proofs.YtpdomhddjpfibaaDoor.Vc

open Go.ChangeMaps (open_string shut_string)

set_option linter.unusedVariables false

set_option linter.unusedSimpArgs false

structure VS (w : World) (b : Nat) (L : List (List Nat)) : Prop where
  out : Vecs w b 0 L
theorem valloc {w : World} {b o : Nat} {L : List (List Nat)} (h : Vecs w b o L) (ob : Obj) : Vecs (w.alloc ob) b o L := fun i l hl => World.rangeAt_alloc (h i l hl) ob
theorem vnew (k : World) (t : TypeId) (x0 x1 x2 x3 y0 y1 y2 y3 : Nat) : Vecs (k.alloc (.cells #[.int .u64 (x0 : Nat), .int .u64 (x1 : Nat), .int .u64 (x2 : Nat), .int .u64 (x3 : Nat), .int .u64 (y0 : Nat), .int .u64 (y1 : Nat), .int .u64 (y2 : Nat), .int .u64 (y3 : Nat), .int .u64 (x0 : Nat), .int .u64 (x1 : Nat), .int .u64 (x2 : Nat), .int .u64 (x3 : Nat)] t)) k.heap.size 0 [[x0, x1, x2, x3], [y0, y1, y2, y3], [x0, x1, x2, x3]] := by
  have hb := heap_alloc_last k (.cells #[.int .u64 (x0 : Nat), .int .u64 (x1 : Nat), .int .u64 (x2 : Nat), .int .u64 (x3 : Nat), .int .u64 (y0 : Nat), .int .u64 (y1 : Nat), .int .u64 (y2 : Nat), .int .u64 (y3 : Nat), .int .u64 (x0 : Nat), .int .u64 (x1 : Nat), .int .u64 (x2 : Nat), .int .u64 (x3 : Nat)] t)
  intro i l hl j v hv
  rw [cell_of_row _ _ (0 + 4 * i + j) _ t (0, 0) hb]
  rcases i with _ | _ | _ | i
  all_goals simp only [List.getElem?_cons_zero, List.getElem?_cons_succ, List.getElem?_nil, Option.some.injEq, reduceCtorEq, Nat.zero_add] at hl
  all_goals
    subst hl
    rcases j with _ | _ | _ | _ | j
    all_goals simp [ks] at hv
    all_goals
      subst hv
      rfl
theorem eql_rs (a : List Nat) (ha : a.length = 4) (w : World) : (binOp .eql 29 (AV .u64 a) (AV .u64 a)).run Tryd.prog w = .ok (.bool true) w := by
  rw [eql_r a a ha ha w, decide_eq_true rfl]
set_option maxHeartbeats 16000000 in
set_option maxRecDepth 100000 in
theorem walk (a0 : List Nat) (o0 : Bool) (a1 : List Nat) (o1 : Bool) (a2 : Int) (a3 : Int) (a4 : Bool) (w0 : V.Ok a0) (w1 : V.Ok a1) (w2 : (Lit.int .i64 a2).wf = true) (w3 : (Lit.int .u64 a3).wf = true) (w : World) (hT : Fm.Tab w) :
    Calls Tryd.prog 3 #[VV a0 o0, VV a1 o1, .int .i64 a2, .int .u64 a3, .bool a4] w fun e w' => e = .returned (.bool true) ∧ Below w.heap.size w w' := by
  have CE := Lib.hid examples_any
  obtain ⟨A, EA⟩ : ∃ r, Hid (V.few a0 o0 = r) := ⟨_, rfl⟩
  have OA : Hid (V.Ok A) := by rw [← EA.out]; exact V.few_ok w0 o0
  have HA : Hid (A.length = 4) := OA.out.len
  have CV0 := Lib.hid (fun w => vector_any a0 o0 w w0)
  rw [EA.out] at CV0
  obtain ⟨B, EB⟩ : ∃ r, Hid (V.few a1 o1 = r) := ⟨_, rfl⟩
  have OB : Hid (V.Ok B) := by rw [← EB.out]; exact V.few_ok w1 o1
  have HB : Hid (B.length = 4) := OB.out.len
  have CV1 := Lib.hid (fun w => vector_any a1 o1 w w1)
  rw [EB.out] at CV1
  have HT := Lib.hid hT
  obtain ⟨n, rfl, hn⟩ : ∃ n : Nat, a3 = (n : Int) ∧ n < 2 ^ 64 := by
    have hx : 0 ≤ a3 ∧ a3 ≤ 18446744073709551615 := by simpa [Lit.wf, IntKind.min, IntKind.max, IntKind.signed, IntKind.bits] using w3
    exact ⟨a3.toNat, by omega, by omega⟩
  have hd0 : -9223372036854775808 ≤ a2 ∧ a2 ≤ 9223372036854775807 := by simpa [Lit.wf, IntKind.min, IntKind.max, IntKind.signed, IntKind.bits] using w2
  obtain ⟨rA, RA⟩ : ∃ r, Hid (V.right A = r) := ⟨_, rfl⟩
  obtain ⟨lq, LQ⟩ : ∃ r, Hid (V.leq A B = r) := ⟨_, rfl⟩
  obtain ⟨sa, SA⟩ : ∃ r, Hid (V.sum A = r) := ⟨_, rfl⟩
  obtain ⟨pA, PA⟩ : ∃ r, Hid (P.S (V.put A) = r) := ⟨_, rfl⟩
  obtain ⟨tA, TA⟩ : ∃ r, Hid (P.S (text A) = r) := ⟨_, rfl⟩
  clear hn w2 w3 hT
  go_enter Tryd.func3, Tryd.ntmps3
  have M0 : Hid (Kept w w []) := Kept.start w
  go_wp2_with (first | refine blk_box rfl 26 _ rfl (ks .u64 a0 ++ [Value.bool o0]) rfl ?_)
  intro k2 A2 B2 Z2
  have M2 : Hid (Kept w k2 [(w.heap.size, ks .u64 a0 ++ [Value.bool o0])]) := Kept.new M0.out B2 Z2 A2
  clear A2 B2 Z2 M0
  go_wp2_with (first | refine blk_box rfl 26 _ rfl (ks .u64 a1 ++ [Value.bool o1]) rfl ?_)
  intro k3 A3 B3 Z3
  have M3 : Hid (Kept w k3 [(k2.heap.size, ks .u64 a1 ++ [Value.bool o1]), (w.heap.size, ks .u64 a0 ++ [Value.bool o0])]) := Kept.new M2.out B3 Z3 A3
  clear A3 B3 Z3 M2
  go_wp2_with fail
  refine (CE.out k3).mono ?_; rintro e k4 ⟨rfl, hb4⟩
  have M4 : Hid (Kept w k4 [(k2.heap.size, ks .u64 a1 ++ [Value.bool o1]), (w.heap.size, ks .u64 a0 ++ [Value.bool o0])]) := Kept.below M3.out hb4
  clear hb4 M3
  go_upto_if 23 with fail
  go_cut [2] (fun x wx => (∃ D : Int, x = .int .i64 D) ∧ k4 = wx)
  case first =>
    cases a4
    · go_wp2_with fail
      go_meet
      exact ⟨⟨_, rfl⟩, rfl⟩
    · go_wp2_with fail
      go_meet
      exact ⟨⟨_, rfl⟩, rfl⟩
  case rest =>
  obtain ⟨⟨D, rfl⟩, rfl⟩ := hcut
  obtain ⟨xa, XA⟩ : ∃ r, Hid (V.at_ A D = r) := ⟨_, rfl⟩
  go_wp2_with (first | refine blk_load rfl 26 _ rfl (w.heap.size) rfl (ks .u64 a0 ++ [Value.bool o0]) (Kept.get M4.out 1 rfl) _ Tryd.underlying26 rfl (size_vv w0.len) ?_)
  refine (CV0.out k4).mono ?_; rintro e k5 ⟨rfl, hb5⟩
  have M5 : Hid (Kept w k5 [(k2.heap.size, ks .u64 a1 ++ [Value.bool o1]), (w.heap.size, ks .u64 a0 ++ [Value.bool o0])]) := Kept.below M4.out hb5
  clear hb5 M4
  go_wp2_with (first | refine arr_alloc rfl .u64 24 4 rfl Tryd.info_v ?_)
  intro k6 A6 B6 Z6
  go_wp2_with (first | refine arr_store rfl .u64 24 _ _ rfl k5.heap.size rfl A rfl _ A6 (by rw [HA.out]; rfl) (size_v HA.out) ?_)
  intro k7 A7 U7
  have M7 : Hid (Kept w k7 [(k5.heap.size, ks .u64 A), (k2.heap.size, ks .u64 a1 ++ [Value.bool o1]), (w.heap.size, ks .u64 a0 ++ [Value.bool o0])]) := Kept.fresh M5.out B6 Z6 U7 (Arr.blk A7)
  clear A6 B6 Z6 A7 U7 M5
  go_wp2_with (first | refine blk_load rfl 26 _ rfl (k2.heap.size) rfl (ks .u64 a1 ++ [Value.bool o1]) (Kept.get M7.out 1 rfl) _ Tryd.underlying26 rfl (size_vv w1.len) ?_)
  refine (CV1.out k7).mono ?_; rintro e k8 ⟨rfl, hb8⟩
  have M8 : Hid (Kept w k8 [(k5.heap.size, ks .u64 A), (k2.heap.size, ks .u64 a1 ++ [Value.bool o1]), (w.heap.size, ks .u64 a0 ++ [Value.bool o0])]) := Kept.below M7.out hb8
  clear hb8 M7
  go_wp2_with (first | refine arr_alloc rfl .u64 24 4 rfl Tryd.info_v ?_)
  intro k9 A9 B9 Z9
  go_wp2_with (first | refine arr_store rfl .u64 24 _ _ rfl k8.heap.size rfl B rfl _ A9 (by rw [HB.out]; rfl) (size_v HB.out) ?_)
  intro k10 A10 U10
  have M10 : Hid (Kept w k10 [(k8.heap.size, ks .u64 B), (k5.heap.size, ks .u64 A), (k2.heap.size, ks .u64 a1 ++ [Value.bool o1]), (w.heap.size, ks .u64 a0 ++ [Value.bool o0])]) := Kept.fresh M8.out B9 Z9 U10 (Arr.blk A10)
  clear A9 B9 Z9 A10 U10 M8
  go_wp2_with (first | refine arr_load rfl .u64 24 _ rfl (k5.heap.size) rfl A (Kept.arr M10.out 1 rfl) 4 22 Tryd.underlying24 (size_v HA.out) ?_ | refine arr_alloc rfl .u64 29 4 rfl Tryd.info_r ?_)
  intro k11 A11 B11 Z11
  go_wp2_with (first | refine arr_store rfl .u64 29 _ _ rfl k10.heap.size rfl A rfl _ A11 (by rw [HA.out]; rfl) (size_r HA.out) ?_)
  intro k12 A12 U12
  have M12 : Hid (Kept w k12 [(k10.heap.size, ks .u64 A), (k8.heap.size, ks .u64 B), (k5.heap.size, ks .u64 A), (k2.heap.size, ks .u64 a1 ++ [Value.bool o1]), (w.heap.size, ks .u64 a0 ++ [Value.bool o0])]) := Kept.fresh M10.out B11 Z11 U12 (Arr.blk A12)
  clear A11 B11 Z11 A12 U12 M10
  go_wp2_with (first | refine arr_load rfl .u64 24 _ rfl (k8.heap.size) rfl B (Kept.arr M12.out 1 rfl) 4 22 Tryd.underlying24 (size_v HB.out) ?_ | refine arr_alloc rfl .u64 29 4 rfl Tryd.info_r ?_)
  intro k13 A13 B13 Z13
  go_wp2_with (first | refine arr_store rfl .u64 29 _ _ rfl k12.heap.size rfl B rfl _ A13 (by rw [HB.out]; rfl) (size_r HB.out) ?_)
  intro k14 A14 U14
  have M14 : Hid (Kept w k14 [(k12.heap.size, ks .u64 B), (k10.heap.size, ks .u64 A), (k8.heap.size, ks .u64 B), (k5.heap.size, ks .u64 A), (k2.heap.size, ks .u64 a1 ++ [Value.bool o1]), (w.heap.size, ks .u64 a0 ++ [Value.bool o0])]) := Kept.fresh M12.out B13 Z13 U14 (Arr.blk A14)
  clear A13 B13 Z13 A14 U14 M12
  go_wp2_with fail
  have KP12 : Hid (∀ u, Below k14.heap.size k14 u → Arr .u64 u (k5.heap.size) A) := fun u hu => (Kept.below M14.out hu).arr 3 rfl
  have KP13 : Hid (∀ u, Below k14.heap.size k14 u → Arr .u64 u (k8.heap.size) B) := fun u hu => (Kept.below M14.out hu).arr 2 rfl
  have KP14 : Hid (∀ u, Below k14.heap.size k14 u → Arr .u64 u (k10.heap.size) A) := fun u hu => (Kept.below M14.out hu).arr 1 rfl
  have KP15 : Hid (∀ u, Below k14.heap.size k14 u → Arr .u64 u (k12.heap.size) B) := fun u hu => (Kept.below M14.out hu).arr 0 rfl
  have KC0 : Hid (∀ u, Below k14.heap.size k14 u → Calls Tryd.prog 12 [AV .u64 A, AV .u64 B].toArray u fun e u' => e = .returned (AV .u64 (V.join A B)) ∧ Below k14.heap.size k14 u') := fun u hu => Calls.more hu (join_any A B u HA.out HB.out)
  have KC1 : Hid (∀ u, Below k14.heap.size k14 u → Calls Tryd.prog 13 [AV .u64 A, AV .u64 B].toArray u fun e u' => e = .returned (AV .u64 (V.join A B)) ∧ Below k14.heap.size k14 u') := fun u hu => Calls.more hu (ref_join A B u HA.out HB.out)
  refine region_w Tryd.mixed (by kernel_rfl) ?_
  refine w_arr_load rfl .u64 24 _ rfl (k5.heap.size) rfl A KP12.out 4 22 Tryd.underlying24 (size_v HA.out) (fun K hK => ?_)
  go_simp
  refine hK _ ?_
  clear hK K
  refine w_arr_load rfl .u64 24 _ rfl (k8.heap.size) rfl B KP13.out 4 22 Tryd.underlying24 (size_v HB.out) (fun K hK => ?_)
  go_simp
  refine hK _ ?_
  clear hK K
  refine w_call rfl 12 Tryd.f12 Tryd.func12 rfl rfl _ _ rfl _ rfl (AV .u64 (V.join A B)) (by exact KC0.out) (fun K hK => ?_)
  go_simp
  refine hK _ ?_
  clear hK K
  refine w_arr_load rfl .u64 29 _ rfl (k10.heap.size) rfl A KP14.out 4 22 Tryd.underlying29 (size_r HA.out) (fun K hK => ?_)
  go_simp
  refine hK _ ?_
  clear hK K
  refine w_arr_load rfl .u64 29 _ rfl (k12.heap.size) rfl B KP15.out 4 22 Tryd.underlying29 (size_r HB.out) (fun K hK => ?_)
  go_simp
  refine hK _ ?_
  clear hK K
  refine w_call rfl 13 Tryd.f13 Tryd.func13 rfl rfl _ _ rfl _ rfl (AV .u64 (V.join A B)) (by exact KC1.out) (fun K hK => ?_)
  go_simp
  refine hK _ ?_
  clear hK K
  refine w_value rfl (.bool true) (fun u _ => run_eql u .eql 29 29 _ _ (AV .u64 (V.join A B)) (AV .u64 (V.join A B)) _ rfl rfl rfl (guard_r _ _ _ _ u) (eql_rs (V.join A B) (V.join_length HA.out HB.out) u)) (fun K hK => ?_)
  go_simp
  refine hK _ ?_
  clear hK K
  refine w_assign rfl _ rfl (.bool true) rfl (fun K hK => ?_)
  go_simp
  refine hK _ ?_
  clear hK K
  refine w_nil ?_
  intro k15 hu
  have M15 : Hid (Kept w k15 [(k12.heap.size, ks .u64 B), (k10.heap.size, ks .u64 A), (k8.heap.size, ks .u64 B), (k5.heap.size, ks .u64 A), (k2.heap.size, ks .u64 a1 ++ [Value.bool o1]), (w.heap.size, ks .u64 a0 ++ [Value.bool o0])]) := Kept.below M14.out hu
  clear hu M14 KC0 KC1 KP12 KP13 KP14 KP15
  go_wp2_with fail
  have KP12 : Hid (∀ u, Below k15.heap.size k15 u → Arr .u64 u (k5.heap.size) A) := fun u hu => (Kept.below M15.out hu).arr 3 rfl
  have KP13 : Hid (∀ u, Below k15.heap.size k15 u → Arr .u64 u (k8.heap.size) B) := fun u hu => (Kept.below M15.out hu).arr 2 rfl
  have KP14 : Hid (∀ u, Below k15.heap.size k15 u → Arr .u64 u (k10.heap.size) A) := fun u hu => (Kept.below M15.out hu).arr 1 rfl
  have KP15 : Hid (∀ u, Below k15.heap.size k15 u → Arr .u64 u (k12.heap.size) B) := fun u hu => (Kept.below M15.out hu).arr 0 rfl
  have KC0 : Hid (∀ u, Below k15.heap.size k15 u → Calls Tryd.prog 14 [AV .u64 A, AV .u64 B].toArray u fun e u' => e = .returned (AV .u64 (V.meet A B)) ∧ Below k15.heap.size k15 u') := fun u hu => Calls.more hu (meet_any A B u HA.out HB.out)
  have KC1 : Hid (∀ u, Below k15.heap.size k15 u → Calls Tryd.prog 15 [AV .u64 A, AV .u64 B].toArray u fun e u' => e = .returned (AV .u64 (V.meet A B)) ∧ Below k15.heap.size k15 u') := fun u hu => Calls.more hu (ref_meet A B u HA.out HB.out)
  refine region_w Tryd.mixed (by kernel_rfl) ?_
  refine w_arr_load rfl .u64 24 _ rfl (k5.heap.size) rfl A KP12.out 4 22 Tryd.underlying24 (size_v HA.out) (fun K hK => ?_)
  go_simp
  refine hK _ ?_
  clear hK K
  refine w_arr_load rfl .u64 24 _ rfl (k8.heap.size) rfl B KP13.out 4 22 Tryd.underlying24 (size_v HB.out) (fun K hK => ?_)
  go_simp
  refine hK _ ?_
  clear hK K
  refine w_call rfl 14 Tryd.f14 Tryd.func14 rfl rfl _ _ rfl _ rfl (AV .u64 (V.meet A B)) (by exact KC0.out) (fun K hK => ?_)
  go_simp
  refine hK _ ?_
  clear hK K
  refine w_arr_load rfl .u64 29 _ rfl (k10.heap.size) rfl A KP14.out 4 22 Tryd.underlying29 (size_r HA.out) (fun K hK => ?_)
  go_simp
  refine hK _ ?_
  clear hK K
  refine w_arr_load rfl .u64 29 _ rfl (k12.heap.size) rfl B KP15.out 4 22 Tryd.underlying29 (size_r HB.out) (fun K hK => ?_)
  go_simp
  refine hK _ ?_
  clear hK K
  refine w_call rfl 15 Tryd.f15 Tryd.func15 rfl rfl _ _ rfl _ rfl (AV .u64 (V.meet A B)) (by exact KC1.out) (fun K hK => ?_)
  go_simp
  refine hK _ ?_
  clear hK K
  refine w_value rfl (.bool true) (fun u _ => run_eql u .eql 29 29 _ _ (AV .u64 (V.meet A B)) (AV .u64 (V.meet A B)) _ rfl rfl rfl (guard_r _ _ _ _ u) (eql_rs (V.meet A B) (V.meet_length HA.out HB.out) u)) (fun K hK => ?_)
  go_simp
  refine hK _ ?_
  clear hK K
  refine w_assign rfl _ rfl (.bool true) rfl (fun K hK => ?_)
  go_simp
  refine hK _ ?_
  clear hK K
  refine w_nil ?_
  intro k16 hu
  have M16 : Hid (Kept w k16 [(k12.heap.size, ks .u64 B), (k10.heap.size, ks .u64 A), (k8.heap.size, ks .u64 B), (k5.heap.size, ks .u64 A), (k2.heap.size, ks .u64 a1 ++ [Value.bool o1]), (w.heap.size, ks .u64 a0 ++ [Value.bool o0])]) := Kept.below M15.out hu
  clear hu M15 KC0 KC1 KP12 KP13 KP14 KP15
  go_wp2_with fail
  have KP12 : Hid (∀ u, Below k16.heap.size k16 u → Arr .u64 u (k5.heap.size) A) := fun u hu => (Kept.below M16.out hu).arr 3 rfl
  have KP13 : Hid (∀ u, Below k16.heap.size k16 u → Arr .u64 u (k8.heap.size) B) := fun u hu => (Kept.below M16.out hu).arr 2 rfl
  have KP14 : Hid (∀ u, Below k16.heap.size k16 u → Arr .u64 u (k10.heap.size) A) := fun u hu => (Kept.below M16.out hu).arr 1 rfl
  have KP15 : Hid (∀ u, Below k16.heap.size k16 u → Arr .u64 u (k12.heap.size) B) := fun u hu => (Kept.below M16.out hu).arr 0 rfl
  have KC0 : Hid (∀ u, Below k16.heap.size k16 u → Calls Tryd.prog 16 [AV .u64 A, .int .i64 D, .int .u64 n].toArray u fun e u' => e = .returned (AV .u64 (V.with_ A D n)) ∧ Below k16.heap.size k16 u') := fun u hu => Calls.more hu (with_any A D n u HA.out)
  have KC1 : Hid (∀ u, Below k16.heap.size k16 u → Calls Tryd.prog 17 [AV .u64 A, .int .i64 D, .int .u64 n].toArray u fun e u' => e = .returned (AV .u64 (V.with_ A D n)) ∧ Below k16.heap.size k16 u') := fun u hu => Calls.more hu (ref_with A D n u HA.out)
  refine region_w Tryd.mixed (by kernel_rfl) ?_
  refine w_arr_load rfl .u64 24 _ rfl (k5.heap.size) rfl A KP12.out 4 22 Tryd.underlying24 (size_v HA.out) (fun K hK => ?_)
  go_simp
  refine hK _ ?_
  clear hK K
  refine w_move rfl _ rfl (.int .i64 D) rfl (fun K hK => ?_)
  go_simp
  refine hK _ ?_
  clear hK K
  refine w_move rfl _ rfl (.int .u64 n) rfl (fun K hK => ?_)
  go_simp
  refine hK _ ?_
  clear hK K
  refine w_call rfl 16 Tryd.f16 Tryd.func16 rfl rfl _ _ rfl _ rfl (AV .u64 (V.with_ A D n)) (by exact KC0.out) (fun K hK => ?_)
  go_simp
  refine hK _ ?_
  clear hK K
  refine w_arr_load rfl .u64 29 _ rfl (k10.heap.size) rfl A KP14.out 4 22 Tryd.underlying29 (size_r HA.out) (fun K hK => ?_)
  go_simp
  refine hK _ ?_
  clear hK K
  refine w_move rfl _ rfl (.int .i64 D) rfl (fun K hK => ?_)
  go_simp
  refine hK _ ?_
  clear hK K
  refine w_move rfl _ rfl (.int .u64 n) rfl (fun K hK => ?_)
  go_simp
  refine hK _ ?_
  clear hK K
  refine w_call rfl 17 Tryd.f17 Tryd.func17 rfl rfl _ _ rfl _ rfl (AV .u64 (V.with_ A D n)) (by exact KC1.out) (fun K hK => ?_)
  go_simp
  refine hK _ ?_
  clear hK K
  refine w_value rfl (.bool true) (fun u _ => run_eql u .eql 29 29 _ _ (AV .u64 (V.with_ A D n)) (AV .u64 (V.with_ A D n)) _ rfl rfl rfl (guard_r _ _ _ _ u) (eql_rs (V.with_ A D n) (V.with_length HA.out D n) u)) (fun K hK => ?_)
  go_simp
  refine hK _ ?_
  clear hK K
  refine w_assign rfl _ rfl (.bool true) rfl (fun K hK => ?_)
  go_simp
  refine hK _ ?_
  clear hK K
  refine w_nil ?_
  intro k17 hu
  have M17 : Hid (Kept w k17 [(k12.heap.size, ks .u64 B), (k10.heap.size, ks .u64 A), (k8.heap.size, ks .u64 B), (k5.heap.size, ks .u64 A), (k2.heap.size, ks .u64 a1 ++ [Value.bool o1]), (w.heap.size, ks .u64 a0 ++ [Value.bool o0])]) := Kept.below M16.out hu
  clear hu M16 KC0 KC1 KP12 KP13 KP14 KP15
  go_upto_region 13 with fail
  go_cut [19] (fun x wx => x = .bool true ∧ Hid (Below k17.heap.size k17 wx))
  case first =>
    obtain ⟨m, HM⟩ : ∃ r, Hid (V.all [A, B, A] = r) := ⟨_, rfl⟩
    have CA : Hid (∀ X b, b < X.heap.size → VS X b [A, B, A] → Calls Tryd.prog 18 #[.slice (some ⟨b, 0, none⟩) 3 3] X fun e X' => e = .returned (AV .u64 m) ∧ Below X.heap.size X X') := fun X b hb hV => by
      rw [← HM.out]
      exact all_any b 0 3 3 A [B, A] X rfl (Nat.le_refl _) (by unfold maxLen; omega) (by simp [HA.out, HB.out]) hb hV.out
    have CF : Hid (∀ X b, b < X.heap.size → VS X b [A, B, A] → Calls Tryd.prog 19 #[.slice (some ⟨b, 0, none⟩) 3 3] X fun e X' => e = .returned (AV .u64 m) ∧ Below X.heap.size X X') := fun X b hb hV => by
      rw [← HM.out]
      exact ref_all b 0 3 3 A [B, A] X rfl (by unfold maxLen; omega) (by simp [HA.out, HB.out]) hb hV.out
    have hml : m.length = 4 := by rw [← HM.out]; exact (V.all_ok _ (by simp [OA.out, OB.out])).len
    have hq : ∀ u, (binOp .eql 29 (AV .u64 m) (AV .u64 m)).run Tryd.prog u = .ok (.bool true) u := fun u => eql_rs m hml u
    have hg : ∀ x y u, (eqGuard .eql 29 x y (AV .u64 m) (AV .u64 m)).run Tryd.prog u = .ok () u := fun x y u => guard_r x y m m u
    clear hml HM
    obtain ⟨x0, x1, x2, x3, rfl⟩ := V.four HA.out
    obtain ⟨y0, y1, y2, y3, rfl⟩ := V.four HB.out
    have KS : Hid (∀ u, Below k17.heap.size k17 u → u.cell? ⟨k5.heap.size, 0, none⟩ = some (.int .u64 (x0 : Nat)) ∧ u.cell? ⟨k5.heap.size, 1, none⟩ = some (.int .u64 (x1 : Nat)) ∧ u.cell? ⟨k5.heap.size, 2, none⟩ = some (.int .u64 (x2 : Nat)) ∧ u.cell? ⟨k5.heap.size, 3, none⟩ = some (.int .u64 (x3 : Nat)) ∧ u.cell? ⟨k8.heap.size, 0, none⟩ = some (.int .u64 (y0 : Nat)) ∧ u.cell? ⟨k8.heap.size, 1, none⟩ = some (.int .u64 (y1 : Nat)) ∧ u.cell? ⟨k8.heap.size, 2, none⟩ = some (.int .u64 (y2 : Nat)) ∧ u.cell? ⟨k8.heap.size, 3, none⟩ = some (.int .u64 (y3 : Nat)) ∧ u.cell? ⟨k10.heap.size, 0, none⟩ = some (.int .u64 (x0 : Nat)) ∧ u.cell? ⟨k10.heap.size, 1, none⟩ = some (.int .u64 (x1 : Nat)) ∧ u.cell? ⟨k10.heap.size, 2, none⟩ = some (.int .u64 (x2 : Nat)) ∧ u.cell? ⟨k10.heap.size, 3, none⟩ = some (.int .u64 (x3 : Nat)) ∧ u.cell? ⟨k12.heap.size, 0, none⟩ = some (.int .u64 (y0 : Nat)) ∧ u.cell? ⟨k12.heap.size, 1, none⟩ = some (.int .u64 (y1 : Nat)) ∧ u.cell? ⟨k12.heap.size, 2, none⟩ = some (.int .u64 (y2 : Nat)) ∧ u.cell? ⟨k12.heap.size, 3, none⟩ = some (.int .u64 (y3 : Nat))) := fun u hu => ⟨by simpa using ((Kept.below M17.out hu).arr 3 rfl : Arr .u64 u (k5.heap.size) [x0, x1, x2, x3]).cell 0 (by simp), by simpa using ((Kept.below M17.out hu).arr 3 rfl : Arr .u64 u (k5.heap.size) [x0, x1, x2, x3]).cell 1 (by simp), by simpa using ((Kept.below M17.out hu).arr 3 rfl : Arr .u64 u (k5.heap.size) [x0, x1, x2, x3]).cell 2 (by simp), by simpa using ((Kept.below M17.out hu).arr 3 rfl : Arr .u64 u (k5.heap.size) [x0, x1, x2, x3]).cell 3 (by simp), by simpa using ((Kept.below M17.out hu).arr 2 rfl : Arr .u64 u (k8.heap.size) [y0, y1, y2, y3]).cell 0 (by simp), by simpa using ((Kept.below M17.out hu).arr 2 rfl : Arr .u64 u (k8.heap.size) [y0, y1, y2, y3]).cell 1 (by simp), by simpa using ((Kept.below M17.out hu).arr 2 rfl : Arr .u64 u (k8.heap.size) [y0, y1, y2, y3]).cell 2 (by simp), by simpa using ((Kept.below M17.out hu).arr 2 rfl : Arr .u64 u (k8.heap.size) [y0, y1, y2, y3]).cell 3 (by simp), by simpa using ((Kept.below M17.out hu).arr 1 rfl : Arr .u64 u (k10.heap.size) [x0, x1, x2, x3]).cell 0 (by simp), by simpa using ((Kept.below M17.out hu).arr 1 rfl : Arr .u64 u (k10.heap.size) [x0, x1, x2, x3]).cell 1 (by simp), by simpa using ((Kept.below M17.out hu).arr 1 rfl : Arr .u64 u (k10.heap.size) [x0, x1, x2, x3]).cell 2 (by simp), by simpa using ((Kept.below M17.out hu).arr 1 rfl : Arr .u64 u (k10.heap.size) [x0, x1, x2, x3]).cell 3 (by simp), by simpa using ((Kept.below M17.out hu).arr 0 rfl : Arr .u64 u (k12.heap.size) [y0, y1, y2, y3]).cell 0 (by simp), by simpa using ((Kept.below M17.out hu).arr 0 rfl : Arr .u64 u (k12.heap.size) [y0, y1, y2, y3]).cell 1 (by simp), by simpa using ((Kept.below M17.out hu).arr 0 rfl : Arr .u64 u (k12.heap.size) [y0, y1, y2, y3]).cell 2 (by simp), by simpa using ((Kept.below M17.out hu).arr 0 rfl : Arr .u64 u (k12.heap.size) [y0, y1, y2, y3]).cell 3 (by simp)⟩
    have F0 : Hid (Below k17.heap.size k17 k17.drew) := (Below.refl _ _).drew
    have F1 : Hid (∀ o, Below k17.heap.size k17 (k17.alloc o).drew) := fun o => ((Below.refl _ _).alloc (Nat.le_refl _) o).drew
    have F2 : Hid (∀ o p, Below k17.heap.size k17 ((k17.alloc o).alloc p).drew) := fun o p => (((Below.refl _ _).alloc (Nat.le_refl _) o).alloc (((Below.refl _ _).alloc (Nat.le_refl _) o).size) p).drew
    have E1 : Hid (∀ o, (k17.alloc o).heap.size = k17.heap.size + 1) := fun o => by show (k17.heap.push o).size = _; simp
    have E2 : Hid (∀ o p, ((k17.alloc o).alloc p).drew.heap.size = k17.heap.size + 2) := fun o p => by show ((k17.heap.push o).push p).size = _; simp
    have I1 : Hid (∀ o, k17.heap.size < (k17.alloc o).drew.heap.size) := fun o => by show _ < (k17.heap.push o).size; simp
    have N1 : Hid (∀ t, VS (k17.alloc (.cells #[.int .u64 (x0 : Nat), .int .u64 (x1 : Nat), .int .u64 (x2 : Nat), .int .u64 (x3 : Nat), .int .u64 (y0 : Nat), .int .u64 (y1 : Nat), .int .u64 (y2 : Nat), .int .u64 (y3 : Nat), .int .u64 (x0 : Nat), .int .u64 (x1 : Nat), .int .u64 (x2 : Nat), .int .u64 (x3 : Nat)] t)).drew k17.heap.size [[x0, x1, x2, x3], [y0, y1, y2, y3], [x0, x1, x2, x3]]) := fun t => ⟨(vnew k17 t x0 x1 x2 x3 y0 y1 y2 y3 : Vecs _ _ _ _).drew⟩
    have N2 : Hid (∀ t t', VS ((k17.alloc (.cells #[.int .u64 (x0 : Nat), .int .u64 (x1 : Nat), .int .u64 (x2 : Nat), .int .u64 (x3 : Nat), .int .u64 (y0 : Nat), .int .u64 (y1 : Nat), .int .u64 (y2 : Nat), .int .u64 (y3 : Nat), .int .u64 (x0 : Nat), .int .u64 (x1 : Nat), .int .u64 (x2 : Nat), .int .u64 (x3 : Nat)] t)).alloc (.cells #[.int .u64 (x0 : Nat), .int .u64 (x1 : Nat), .int .u64 (x2 : Nat), .int .u64 (x3 : Nat), .int .u64 (y0 : Nat), .int .u64 (y1 : Nat), .int .u64 (y2 : Nat), .int .u64 (y3 : Nat), .int .u64 (x0 : Nat), .int .u64 (x1 : Nat), .int .u64 (x2 : Nat), .int .u64 (x3 : Nat)] t')).drew k17.heap.size [[x0, x1, x2, x3], [y0, y1, y2, y3], [x0, x1, x2, x3]]) := fun t t' => ⟨(valloc (vnew k17 t x0 x1 x2 x3 y0 y1 y2 y3) _ : Vecs _ _ _ _).drew⟩
    have N3 : Hid (∀ t t', VS ((k17.alloc (.cells #[.int .u64 (x0 : Nat), .int .u64 (x1 : Nat), .int .u64 (x2 : Nat), .int .u64 (x3 : Nat), .int .u64 (y0 : Nat), .int .u64 (y1 : Nat), .int .u64 (y2 : Nat), .int .u64 (y3 : Nat), .int .u64 (x0 : Nat), .int .u64 (x1 : Nat), .int .u64 (x2 : Nat), .int .u64 (x3 : Nat)] t)).alloc (.cells #[.int .u64 (x0 : Nat), .int .u64 (x1 : Nat), .int .u64 (x2 : Nat), .int .u64 (x3 : Nat), .int .u64 (y0 : Nat), .int .u64 (y1 : Nat), .int .u64 (y2 : Nat), .int .u64 (y3 : Nat), .int .u64 (x0 : Nat), .int .u64 (x1 : Nat), .int .u64 (x2 : Nat), .int .u64 (x3 : Nat)] t')).drew (k17.heap.size + 1) [[x0, x1, x2, x3], [y0, y1, y2, y3], [x0, x1, x2, x3]]) := fun t t' => ⟨by
      have h := vnew (k17.alloc (.cells #[.int .u64 (x0 : Nat), .int .u64 (x1 : Nat), .int .u64 (x2 : Nat), .int .u64 (x3 : Nat), .int .u64 (y0 : Nat), .int .u64 (y1 : Nat), .int .u64 (y2 : Nat), .int .u64 (y3 : Nat), .int .u64 (x0 : Nat), .int .u64 (x1 : Nat), .int .u64 (x2 : Nat), .int .u64 (x3 : Nat)] t)) t' x0 x1 x2 x3 y0 y1 y2 y3
      rw [E1.out] at h
      exact Vecs.drew h⟩
    have N4 : Hid (∀ (u : World) t, VS (u.alloc (.cells #[.int .u64 (x0 : Nat), .int .u64 (x1 : Nat), .int .u64 (x2 : Nat), .int .u64 (x3 : Nat), .int .u64 (y0 : Nat), .int .u64 (y1 : Nat), .int .u64 (y2 : Nat), .int .u64 (y3 : Nat), .int .u64 (x0 : Nat), .int .u64 (x1 : Nat), .int .u64 (x2 : Nat), .int .u64 (x3 : Nat)] t)) u.heap.size [[x0, x1, x2, x3], [y0, y1, y2, y3], [x0, x1, x2, x3]]) := fun u t => ⟨vnew u t x0 x1 x2 x3 y0 y1 y2 y3⟩
    have FA : Hid (∀ t t' u, Below ((k17.alloc (.cells #[.int .u64 (x0 : Nat), .int .u64 (x1 : Nat), .int .u64 (x2 : Nat), .int .u64 (x3 : Nat), .int .u64 (y0 : Nat), .int .u64 (y1 : Nat), .int .u64 (y2 : Nat), .int .u64 (y3 : Nat), .int .u64 (x0 : Nat), .int .u64 (x1 : Nat), .int .u64 (x2 : Nat), .int .u64 (x3 : Nat)] t)).alloc (.cells #[.int .u64 (x0 : Nat), .int .u64 (x1 : Nat), .int .u64 (x2 : Nat), .int .u64 (x3 : Nat), .int .u64 (y0 : Nat), .int .u64 (y1 : Nat), .int .u64 (y2 : Nat), .int .u64 (y3 : Nat), .int .u64 (x0 : Nat), .int .u64 (x1 : Nat), .int .u64 (x2 : Nat), .int .u64 (x3 : Nat)] t')).drew.heap.size ((k17.alloc (.cells #[.int .u64 (x0 : Nat), .int .u64 (x1 : Nat), .int .u64 (x2 : Nat), .int .u64 (x3 : Nat), .int .u64 (y0 : Nat), .int .u64 (y1 : Nat), .int .u64 (y2 : Nat), .int .u64 (y3 : Nat), .int .u64 (x0 : Nat), .int .u64 (x1 : Nat), .int .u64 (x2 : Nat), .int .u64 (x3 : Nat)] t)).alloc (.cells #[.int .u64 (x0 : Nat), .int .u64 (x1 : Nat), .int .u64 (x2 : Nat), .int .u64 (x3 : Nat), .int .u64 (y0 : Nat), .int .u64 (y1 : Nat), .int .u64 (y2 : Nat), .int .u64 (y3 : Nat), .int .u64 (x0 : Nat), .int .u64 (x1 : Nat), .int .u64 (x2 : Nat), .int .u64 (x3 : Nat)] t')).drew u → k17.heap.size + 1 < u.heap.size ∧ VS u k17.heap.size [[x0, x1, x2, x3], [y0, y1, y2, y3], [x0, x1, x2, x3]] ∧ VS u (k17.heap.size + 1) [[x0, x1, x2, x3], [y0, y1, y2, y3], [x0, x1, x2, x3]]) := fun t t' u hb => by
      have hz := hb.size
      rw [E2.out] at hz
      exact ⟨by omega, ⟨Vecs.below (N2.out t t').out hb (by rw [E2.out]; omega)⟩, ⟨Vecs.below (N3.out t t').out hb (by rw [E2.out]; omega)⟩⟩
    clear M17 XA RA LQ SA PA TA OA OB HA HB
    go_region_held3 (fun u => u.cell? ⟨k5.heap.size, 0, none⟩ = some (.int .u64 (x0 : Nat)) ∧ u.cell? ⟨k5.heap.size, 1, none⟩ = some (.int .u64 (x1 : Nat)) ∧ u.cell? ⟨k5.heap.size, 2, none⟩ = some (.int .u64 (x2 : Nat)) ∧ u.cell? ⟨k5.heap.size, 3, none⟩ = some (.int .u64 (x3 : Nat)) ∧ u.cell? ⟨k8.heap.size, 0, none⟩ = some (.int .u64 (y0 : Nat)) ∧ u.cell? ⟨k8.heap.size, 1, none⟩ = some (.int .u64 (y1 : Nat)) ∧ u.cell? ⟨k8.heap.size, 2, none⟩ = some (.int .u64 (y2 : Nat)) ∧ u.cell? ⟨k8.heap.size, 3, none⟩ = some (.int .u64 (y3 : Nat)) ∧ u.cell? ⟨k10.heap.size, 0, none⟩ = some (.int .u64 (x0 : Nat)) ∧ u.cell? ⟨k10.heap.size, 1, none⟩ = some (.int .u64 (x1 : Nat)) ∧ u.cell? ⟨k10.heap.size, 2, none⟩ = some (.int .u64 (x2 : Nat)) ∧ u.cell? ⟨k10.heap.size, 3, none⟩ = some (.int .u64 (x3 : Nat)) ∧ u.cell? ⟨k12.heap.size, 0, none⟩ = some (.int .u64 (y0 : Nat)) ∧ u.cell? ⟨k12.heap.size, 1, none⟩ = some (.int .u64 (y1 : Nat)) ∧ u.cell? ⟨k12.heap.size, 2, none⟩ = some (.int .u64 (y2 : Nat)) ∧ u.cell? ⟨k12.heap.size, 3, none⟩ = some (.int .u64 (y3 : Nat))) (first | exact KS.out _ HU2.out | exact KS.out _ HU1.out | exact KS.out _ (Below.alloc HU1.out HU1.out.size _) | exact KS.out _ F0.out | exact KS.out _ (F1.out _) | exact KS.out _ (F2.out _ _)) (first | (go_at_call 18; refine Calls.mono (CA.out _ _ ?hb ?hv) ?_; (case hb => first | exact I1.out _ | (rw [E2.out]; omega)); (case hv => first | exact N1.out _ | exact N2.out _ _ | exact N3.out _ _); rintro e u1 ⟨rfl, hb⟩; have HU1 : Hid (Below k17.heap.size k17 u1) := (by first | exact (F2.out _ _).trans (hb.mono (F2.out _ _).size) | exact (F1.out _).trans (hb.mono (F1.out _).size)); first | (have HVa := Lib.hid (FA.out _ _ _ hb); clear hb) | clear hb) | (go_at_call 19; refine Calls.mono (CF.out _ _ ?hb ?hv) ?_; (case hb => first | (have h := HVa.out.1; omega) | (show _ < (Array.push _ _).size; simp)); (case hv => first | exact HVa.out.2.1 | exact HVa.out.2.2 | exact N4.out _ _); rintro e u2 ⟨rfl, hb⟩; have HU2 : Hid (Below k17.heap.size k17 u2) := (by first | exact HU1.out.trans (hb.mono HU1.out.size) | exact (HU1.out.alloc HU1.out.size _).trans (hb.mono (HU1.out.alloc HU1.out.size _).size)); clear hb))
    all_goals
      go_wp2_with fail
      go_meet
      exact ⟨rfl, HU2⟩
  case rest =>
  obtain ⟨rfl, hb13⟩ := hcut
  have M18 : Hid (Kept w wc [(k12.heap.size, ks .u64 B), (k10.heap.size, ks .u64 A), (k8.heap.size, ks .u64 B), (k5.heap.size, ks .u64 A), (k2.heap.size, ks .u64 a1 ++ [Value.bool o1]), (w.heap.size, ks .u64 a0 ++ [Value.bool o0])]) := Kept.below M17.out hb13.out
  clear hb13 M17
  go_wp2_with fail
  have hu2 : ∀ u, Below wc.heap.size wc u → Below w.heap.size w u := fun u hu => (Kept.below M18.out hu).under
  have KP12 : Hid (∀ u, Below wc.heap.size wc u → Arr .u64 u (k5.heap.size) A) := fun u hu => (Kept.below M18.out hu).arr 3 rfl
  have KP13 : Hid (∀ u, Below wc.heap.size wc u → Arr .u64 u (k8.heap.size) B) := fun u hu => (Kept.below M18.out hu).arr 2 rfl
  have KP14 : Hid (∀ u, Below wc.heap.size wc u → Arr .u64 u (k10.heap.size) A) := fun u hu => (Kept.below M18.out hu).arr 1 rfl
  have KP15 : Hid (∀ u, Below wc.heap.size wc u → Arr .u64 u (k12.heap.size) B) := fun u hu => (Kept.below M18.out hu).arr 0 rfl
  have KC0 : Hid (∀ u, Below wc.heap.size wc u → Calls Tryd.prog 20 [AV .u64 A].toArray u fun e u' => e = .returned (.bool rA) ∧ Below wc.heap.size wc u') := fun u hu => Calls.more hu (by have h := right_any A u HA.out; rw [RA.out] at h; exact h)
  have KC1 : Hid (∀ u, Below wc.heap.size wc u → Calls Tryd.prog 21 [AV .u64 A].toArray u fun e u' => e = .returned (.bool rA) ∧ Below wc.heap.size wc u') := fun u hu => Calls.more hu (by have h := ref_right A u HA.out; rw [RA.out] at h; exact h)
  have KC2 : Hid (∀ u, Below wc.heap.size wc u → Calls Tryd.prog 22 [AV .u64 A, AV .u64 B].toArray u fun e u' => e = .returned (.bool lq) ∧ Below wc.heap.size wc u') := fun u hu => Calls.more hu (by have h := leq_any A B u HA.out HB.out; rw [LQ.out] at h; exact h)
  have KC3 : Hid (∀ u, Below wc.heap.size wc u → Calls Tryd.prog 23 [AV .u64 A, AV .u64 B].toArray u fun e u' => e = .returned (.bool lq) ∧ Below wc.heap.size wc u') := fun u hu => Calls.more hu (by have h := ref_leq A B u HA.out HB.out; rw [LQ.out] at h; exact h)
  have KC4 : Hid (∀ u, Below wc.heap.size wc u → Calls Tryd.prog 24 [AV .u64 A, .int .i64 D].toArray u fun e u' => e = .returned (.int .u64 (xa : Nat)) ∧ Below wc.heap.size wc u') := fun u hu => Calls.more hu (by have h := at_any A D u HA.out; rw [XA.out] at h; exact h)
  have KC5 : Hid (∀ u, Below wc.heap.size wc u → Calls Tryd.prog 25 [AV .u64 A, .int .i64 D].toArray u fun e u' => e = .returned (.int .u64 (xa : Nat)) ∧ Below wc.heap.size wc u') := fun u hu => Calls.more hu (by have h := ref_at A D u HA.out; rw [XA.out] at h; exact h)
  have KC6 : Hid (∀ u, Below wc.heap.size wc u → Calls Tryd.prog 26 [AV .u64 A].toArray u fun e u' => e = .returned (.int .u64 (sa : Nat)) ∧ Below wc.heap.size wc u') := fun u hu => Calls.more hu (by have h := sum_any A u HA.out; rw [SA.out] at h; exact h)
  have KC7 : Hid (∀ u, Below wc.heap.size wc u → Calls Tryd.prog 27 [AV .u64 A].toArray u fun e u' => e = .returned (.int .u64 (sa : Nat)) ∧ Below wc.heap.size wc u') := fun u hu => Calls.more hu (by have h := ref_sum A u HA.out; rw [SA.out] at h; exact h)
  have KC8 : Hid (∀ u, Below wc.heap.size wc u → Calls Tryd.prog 28 [AV .u64 A].toArray u fun e u' => e = .returned (.string pA) ∧ Below wc.heap.size wc u') := fun u hu => Calls.more hu (by have h := put_any A u OA.out; rw [PA.out] at h; exact h)
  have KC9 : Hid (∀ u, Below wc.heap.size wc u → Calls Tryd.prog 29 [AV .u64 A].toArray u fun e u' => e = .returned (.string pA) ∧ Below wc.heap.size wc u') := fun u hu => Calls.more hu (by have h := ref_put A u OA.out; rw [PA.out] at h; exact h)
  have KC10 : Hid (∀ u, Below wc.heap.size wc u → Calls Tryd.prog 30 [AV .u64 A].toArray u fun e u' => e = .returned (.string tA) ∧ Below wc.heap.size wc u') := fun u hu => Calls.more hu (by have h := text_any A u OA.out (HT.out.below (hu2 u hu)); rw [TA.out] at h; exact h)
  have KC11 : Hid (∀ u, Below wc.heap.size wc u → Calls Tryd.prog 31 [AV .u64 A].toArray u fun e u' => e = .returned (.string tA) ∧ Below wc.heap.size wc u') := fun u hu => Calls.more hu (by have h := ref_text A u OA.out; rw [TA.out] at h; exact h)
  clear hu2
  refine region_w Tryd.mixed (by kernel_rfl) ?_
  refine w_move rfl _ rfl (.bool true) rfl (fun K hK => ?_)
  go_simp
  refine hK _ ?_
  clear hK K
  refine w_move rfl _ rfl (.bool true) rfl (fun K hK => ?_)
  go_simp
  refine hK _ ?_
  clear hK K
  refine wg_value (by rfl) (.bool true) (fun u hu => by go_simp) (fun K hK => ?_)
  go_simp
  refine hK _ ?_
  clear hK K
  refine w_value rfl (.bool true) (fun u hu => by go_simp) (fun K hK => ?_)
  go_simp
  refine hK _ ?_
  clear hK K
  refine w_move rfl _ rfl (.bool true) rfl (fun K hK => ?_)
  go_simp
  refine hK _ ?_
  clear hK K
  refine wg_value (by rfl) (.bool true) (fun u hu => by go_simp) (fun K hK => ?_)
  go_simp
  refine hK _ ?_
  clear hK K
  refine w_value rfl (.bool true) (fun u hu => by go_simp) (fun K hK => ?_)
  go_simp
  refine hK _ ?_
  clear hK K
  refine w_move rfl _ rfl (.bool true) rfl (fun K hK => ?_)
  go_simp
  refine hK _ ?_
  clear hK K
  refine wg_value (by rfl) (.bool true) (fun u hu => by go_simp) (fun K hK => ?_)
  go_simp
  refine hK _ ?_
  clear hK K
  refine w_value rfl (.bool true) (fun u hu => by go_simp) (fun K hK => ?_)
  go_simp
  refine hK _ ?_
  clear hK K
  refine w_move rfl _ rfl (.bool true) rfl (fun K hK => ?_)
  go_simp
  refine hK _ ?_
  clear hK K
  refine wg_value (by rfl) (.bool true) (fun u hu => by go_simp) (fun K hK => ?_)
  go_simp
  refine hK _ ?_
  clear hK K
  refine w_value rfl (.bool true) (fun u hu => by go_simp) (fun K hK => ?_)
  go_simp
  refine hK _ ?_
  clear hK K
  refine w_move rfl _ rfl (.bool true) rfl (fun K hK => ?_)
  go_simp
  refine hK _ ?_
  clear hK K
  refine wg_arr_load (by rfl) .u64 24 _ rfl (k5.heap.size) rfl A KP12.out 4 22 Tryd.underlying24 (size_v HA.out) (fun K hK => ?_)
  go_simp
  refine hK _ ?_
  clear hK K
  refine wg_call (by rfl) 20 Tryd.f20 Tryd.func20 rfl rfl _ _ rfl _ rfl (.bool rA) (by exact KC0.out) (fun K hK => ?_)
  go_simp
  refine hK _ ?_
  clear hK K
  refine wg_arr_load (by rfl) .u64 29 _ rfl (k10.heap.size) rfl A KP14.out 4 22 Tryd.underlying29 (size_r HA.out) (fun K hK => ?_)
  go_simp
  refine hK _ ?_
  clear hK K
  refine wg_call (by rfl) 21 Tryd.f21 Tryd.func21 rfl rfl _ _ rfl _ rfl (.bool rA) (by exact KC1.out) (fun K hK => ?_)
  go_simp
  refine hK _ ?_
  clear hK K
  refine wg_value (by rfl) (.bool true) (fun u hu => by go_simp) (fun K hK => ?_)
  go_simp
  refine hK _ ?_
  clear hK K
  refine w_value rfl (.bool true) (fun u hu => by go_simp) (fun K hK => ?_)
  go_simp
  refine hK _ ?_
  clear hK K
  refine w_move rfl _ rfl (.bool true) rfl (fun K hK => ?_)
  go_simp
  refine hK _ ?_
  clear hK K
  refine wg_arr_load (by rfl) .u64 24 _ rfl (k5.heap.size) rfl A KP12.out 4 22 Tryd.underlying24 (size_v HA.out) (fun K hK => ?_)
  go_simp
  refine hK _ ?_
  clear hK K
  refine wg_arr_load (by rfl) .u64 24 _ rfl (k8.heap.size) rfl B KP13.out 4 22 Tryd.underlying24 (size_v HB.out) (fun K hK => ?_)
  go_simp
  refine hK _ ?_
  clear hK K
  refine wg_call (by rfl) 22 Tryd.f22 Tryd.func22 rfl rfl _ _ rfl _ rfl (.bool lq) (by exact KC2.out) (fun K hK => ?_)
  go_simp
  refine hK _ ?_
  clear hK K
  refine wg_arr_load (by rfl) .u64 29 _ rfl (k10.heap.size) rfl A KP14.out 4 22 Tryd.underlying29 (size_r HA.out) (fun K hK => ?_)
  go_simp
  refine hK _ ?_
  clear hK K
  refine wg_arr_load (by rfl) .u64 29 _ rfl (k12.heap.size) rfl B KP15.out 4 22 Tryd.underlying29 (size_r HB.out) (fun K hK => ?_)
  go_simp
  refine hK _ ?_
  clear hK K
  refine wg_call (by rfl) 23 Tryd.f23 Tryd.func23 rfl rfl _ _ rfl _ rfl (.bool lq) (by exact KC3.out) (fun K hK => ?_)
  go_simp
  refine hK _ ?_
  clear hK K
  refine wg_value (by rfl) (.bool true) (fun u hu => by go_simp) (fun K hK => ?_)
  go_simp
  refine hK _ ?_
  clear hK K
  refine w_value rfl (.bool true) (fun u hu => by go_simp) (fun K hK => ?_)
  go_simp
  refine hK _ ?_
  clear hK K
  refine w_move rfl _ rfl (.bool true) rfl (fun K hK => ?_)
  go_simp
  refine hK _ ?_
  clear hK K
  refine wg_arr_load (by rfl) .u64 24 _ rfl (k5.heap.size) rfl A KP12.out 4 22 Tryd.underlying24 (size_v HA.out) (fun K hK => ?_)
  go_simp
  refine hK _ ?_
  clear hK K
  refine wg_value (by rfl) (.int .i64 D) (fun u hu => by go_simp) (fun K hK => ?_)
  go_simp
  refine hK _ ?_
  clear hK K
  refine wg_call (by rfl) 24 Tryd.f24 Tryd.func24 rfl rfl _ _ rfl _ rfl (.int .u64 (xa : Nat)) (by exact KC4.out) (fun K hK => ?_)
  go_simp
  refine hK _ ?_
  clear hK K
  refine wg_arr_load (by rfl) .u64 29 _ rfl (k10.heap.size) rfl A KP14.out 4 22 Tryd.underlying29 (size_r HA.out) (fun K hK => ?_)
  go_simp
  refine hK _ ?_
  clear hK K
  refine wg_value (by rfl) (.int .i64 D) (fun u hu => by go_simp) (fun K hK => ?_)
  go_simp
  refine hK _ ?_
  clear hK K
  refine wg_call (by rfl) 25 Tryd.f25 Tryd.func25 rfl rfl _ _ rfl _ rfl (.int .u64 (xa : Nat)) (by exact KC5.out) (fun K hK => ?_)
  go_simp
  refine hK _ ?_
  clear hK K
  refine wg_value (by rfl) (.bool true) (fun u hu => by go_simp) (fun K hK => ?_)
  go_simp
  refine hK _ ?_
  clear hK K
  refine w_value rfl (.bool true) (fun u hu => by go_simp) (fun K hK => ?_)
  go_simp
  refine hK _ ?_
  clear hK K
  refine w_move rfl _ rfl (.bool true) rfl (fun K hK => ?_)
  go_simp
  refine hK _ ?_
  clear hK K
  refine wg_arr_load (by rfl) .u64 24 _ rfl (k5.heap.size) rfl A KP12.out 4 22 Tryd.underlying24 (size_v HA.out) (fun K hK => ?_)
  go_simp
  refine hK _ ?_
  clear hK K
  refine wg_call (by rfl) 26 Tryd.f26 Tryd.func26 rfl rfl _ _ rfl _ rfl (.int .u64 (sa : Nat)) (by exact KC6.out) (fun K hK => ?_)
  go_simp
  refine hK _ ?_
  clear hK K
  refine wg_arr_load (by rfl) .u64 29 _ rfl (k10.heap.size) rfl A KP14.out 4 22 Tryd.underlying29 (size_r HA.out) (fun K hK => ?_)
  go_simp
  refine hK _ ?_
  clear hK K
  refine wg_call (by rfl) 27 Tryd.f27 Tryd.func27 rfl rfl _ _ rfl _ rfl (.int .u64 (sa : Nat)) (by exact KC7.out) (fun K hK => ?_)
  go_simp
  refine hK _ ?_
  clear hK K
  refine wg_value (by rfl) (.bool true) (fun u hu => by go_simp) (fun K hK => ?_)
  go_simp
  refine hK _ ?_
  clear hK K
  refine w_value rfl (.bool true) (fun u hu => by go_simp) (fun K hK => ?_)
  go_simp
  refine hK _ ?_
  clear hK K
  refine w_move rfl _ rfl (.bool true) rfl (fun K hK => ?_)
  go_simp
  refine hK _ ?_
  clear hK K
  refine wg_arr_load (by rfl) .u64 24 _ rfl (k5.heap.size) rfl A KP12.out 4 22 Tryd.underlying24 (size_v HA.out) (fun K hK => ?_)
  go_simp
  refine hK _ ?_
  clear hK K
  refine wg_call (by rfl) 28 Tryd.f28 Tryd.func28 rfl rfl _ _ rfl _ rfl (.string pA) (by exact KC8.out) (fun K hK => ?_)
  go_simp
  refine hK _ ?_
  clear hK K
  refine wg_arr_load (by rfl) .u64 29 _ rfl (k10.heap.size) rfl A KP14.out 4 22 Tryd.underlying29 (size_r HA.out) (fun K hK => ?_)
  go_simp
  refine hK _ ?_
  clear hK K
  refine wg_call (by rfl) 29 Tryd.f29 Tryd.func29 rfl rfl _ _ rfl _ rfl (.string pA) (by exact KC9.out) (fun K hK => ?_)
  go_simp
  refine hK _ ?_
  clear hK K
  refine wg_value (by rfl) (.bool true) (fun u hu => by go_simp) (fun K hK => ?_)
  go_simp
  refine hK _ ?_
  clear hK K
  refine w_value rfl (.bool true) (fun u hu => by go_simp) (fun K hK => ?_)
  go_simp
  refine hK _ ?_
  clear hK K
  refine w_move rfl _ rfl (.bool true) rfl (fun K hK => ?_)
  go_simp
  refine hK _ ?_
  clear hK K
  refine wg_arr_load (by rfl) .u64 24 _ rfl (k5.heap.size) rfl A KP12.out 4 22 Tryd.underlying24 (size_v HA.out) (fun K hK => ?_)
  go_simp
  refine hK _ ?_
  clear hK K
  refine wg_call (by rfl) 30 Tryd.f30 Tryd.func30 rfl rfl _ _ rfl _ rfl (.string tA) (by exact KC10.out) (fun K hK => ?_)
  go_simp
  refine hK _ ?_
  clear hK K
  refine wg_arr_load (by rfl) .u64 29 _ rfl (k10.heap.size) rfl A KP14.out 4 22 Tryd.underlying29 (size_r HA.out) (fun K hK => ?_)
  go_simp
  refine hK _ ?_
  clear hK K
  refine wg_call (by rfl) 31 Tryd.f31 Tryd.func31 rfl rfl _ _ rfl _ rfl (.string tA) (by exact KC11.out) (fun K hK => ?_)
  go_simp
  refine hK _ ?_
  clear hK K
  refine wg_value (by rfl) (.bool true) (fun u hu => by go_simp) (fun K hK => ?_)
  go_simp
  refine hK _ ?_
  clear hK K
  refine w_value rfl (.bool true) (fun u hu => by go_simp) (fun K hK => ?_)
  go_simp
  refine hK _ ?_
  clear hK K
  refine w_assign rfl _ rfl (.bool true) rfl (fun K hK => ?_)
  go_simp
  refine hK _ ?_
  clear hK K
  refine w_nil ?_
  intro k19 hu
  have M19 : Hid (Kept w k19 [(k12.heap.size, ks .u64 B), (k10.heap.size, ks .u64 A), (k8.heap.size, ks .u64 B), (k5.heap.size, ks .u64 A), (k2.heap.size, ks .u64 a1 ++ [Value.bool o1]), (w.heap.size, ks .u64 a0 ++ [Value.bool o0])]) := Kept.below M18.out hu
  clear hu M18 KC0 KC1 KC10 KC11 KC2 KC3 KC4 KC5 KC6 KC7 KC8 KC9 KP12 KP13 KP14 KP15
  have HW9 : Hid (Below w.heap.size w k19) := M19.out.under
  clear M19
  go_wp2_with fail
  go_ret
  exact ⟨rfl, HW9.out⟩

set_option maxRecDepth 100000 in
theorem lifted (os : Os) (started : os.Started) (H : Type) (enc : TypeId × Value → H) (F : Stop.Interp) :
    ReturnsInHanded {} Tryd.checked os 3 .any ((OpenSpec.ofChange Rows.vecTellsSpec).preRow enc Tryd.prog Tryd.f3 Rows.vecTellsRow.domain false Rows.vecTellsRow.laid) (((OpenSpec.ofChange Rows.vecTellsSpec).at F).post enc Tryd.prog Tryd.f3 false true false false) := by
  have hx : ∃ places, DataW.whole enc Tryd.prog ((laidWorld os).forCall (fun _ _ => 0) ⟨#[], #[.agg #[.int .u64 0, .int .u64 0, .int .u64 0, .int .u64 0, .bool false], .agg #[.int .u64 0, .int .u64 0, .int .u64 0, .int .u64 0, .bool false], .int .i64 0, .int .u64 0, .bool false], []⟩).memory Tryd.f3.params.toList Rows.vecTellsSpec.vars false #[Value.agg #[.int .u64 0, .int .u64 0, .int .u64 0, .int .u64 0, .bool false], Value.agg #[.int .u64 0, .int .u64 0, .int .u64 0, .int .u64 0, .bool false], Value.int .i64 0, Value.int .u64 0, Value.bool false].toList 8 = some ([.agg [.agg [.lit (.int .u64 0), .lit (.int .u64 0), .lit (.int .u64 0), .lit (.int .u64 0)], .lit (.bool false)], .agg [.agg [.lit (.int .u64 0), .lit (.int .u64 0), .lit (.int .u64 0), .lit (.int .u64 0)], .lit (.bool false)], .lit (.int .i64 0), .lit (.int .u64 0), .lit (.bool false)], [], places) := ⟨[], by kernel_rfl⟩
  obtain ⟨places, hx⟩ := hx
  refine returnsInHanded_of_row (C := Tryd.checked) (s := OpenSpec.ofChange Rows.vecTellsSpec) own started (by kernel_rfl) Tryd.func3
    (witness_row_at (enc := enc) (C := Tryd.checked) false (laidWorld os) #[.agg #[.int .u64 0, .int .u64 0, .int .u64 0, .int .u64 0, .bool false], .agg #[.int .u64 0, .int .u64 0, .int .u64 0, .int .u64 0, .bool false], .int .i64 0, .int .u64 0, .bool false] rfl (by kernel_rfl) (by kernel_rfl) (by kernel_rfl)
      (OpenSpec.preRow_of_cond 8 hx (by kernel_rfl) (fun k hk => by cases hk) (by kernel_rfl) (laidMet_of_run' 8 (by kernel_rfl) (by kernel_rfl)))) ?_
  intro W base args ds gs before hval0 hW hcnd hcond hsz0 hL _ _
  have hT : Fm.Tab W := tab_of hL
  have hval : ∀ (j : Nat) t v, Tryd.f3.params[j]? = some t → args[j]? = some v → Value.okWide Tryd.prog W .any base t v := hval0
  have hW' := hW
  obtain ⟨p, q, hA0, hV, rfl, hfz, hnd⟩ := hW
  have hA : DataW.TrodAll enc Tryd.prog W 0 (fun _ => true) true Tryd.f3.params.toList args.toList ds p := hA0
  have hsz : (DataW.weightsEach Tryd.prog (Tryd.f3.params.toList ++ Rows.vecTellsSpec.plain.varTypes Tryd.prog) (ds ++ gs)).all (· ≤ reachBytes) = true := hsz0
  rw [Tryd.params3] at hA hval hsz
  obtain ⟨rfl, rfl⟩ := trodVars_none hV
  have hAk := hA
  have hlt : ∀ x ∈ p, x.block < W.heap.size := fun x hx => by simpa using hW'.lt x (List.mem_append.2 (.inl hx))
  obtain ⟨v0, vs0, d0, ds0, p0, q0, hargs, rfl, rfl, h0, r0⟩ := trodAll_cons hA
  obtain ⟨v1, vs1, d1, ds1, p1, q1, rfl, rfl, rfl, h1, r1⟩ := trodAll_cons r0
  obtain ⟨v2, vs2, d2, ds2, p2, q2, rfl, rfl, rfl, h2, r2⟩ := trodAll_cons r1
  obtain ⟨v3, vs3, d3, ds3, p3, q3, rfl, rfl, rfl, h3, r3⟩ := trodAll_cons r2
  obtain ⟨v4, vs4, d4, ds4, p4, q4, rfl, rfl, rfl, h4, r4⟩ := trodAll_cons r3
  obtain ⟨rfl, rfl, rfl⟩ := trodAll_nil r4
  obtain rfl : args = #[v0, v1, v2, v3, v4] := by cases args; simp_all
  obtain ⟨a0, o0, rfl, w0⟩ := open_vector (hval 0 26 v0 rfl rfl) h0
  obtain ⟨a1, o1, rfl, w1⟩ := open_vector (hval 1 26 v1 rfl rfl) h1
  obtain ⟨a2, rfl, rfl, rfl, w2⟩ := open_int Tryd.underlying3 (hval 2 3 v2 rfl rfl) h2
  obtain ⟨a3, rfl, rfl, rfl, w3⟩ := open_int Tryd.underlying22 (hval 3 22 v3 rfl rfl) h3
  obtain ⟨a4, rfl, rfl, rfl⟩ := open_bool Tryd.underlying4 (hval 4 4 v4 rfl rfl) h4
  clear hA0 hval0 hsz0
  refine (walk a0 o0 a1 o1 a2 a3 a4 w0 w1 w2 w3 W hT).mono fun e W' ⟨he, hg⟩ => ?_
  subst he
  exact ⟨_, rfl, _, _, _, [], _, [], hW', (trodAll_cons_mk (shut_bool Tryd.underlying4 _) trodAll_mk0), trodAll_below laidOut hg _ _ _ _ (by kernel_rfl) hAk hlt, rfl, hg.frame _, fun h => by cases h⟩

theorem over : Rows.vecTellsRow.holds Tryd.pinned (OpenSpec.ofChange Rows.vecTellsSpec) :=
  OpenClaim.holds_of_cond 3 Tryd.f3 rfl rfl rfl rfl rfl rfl rfl ⟨rfl, rfl, rfl, rfl, rfl⟩ rfl rfl rfl rfl rfl (by kernel_rfl) Tryd.func3 (by kernel_rfl)
    (of_decide_eq_true (by kernel_rfl)) (by unfold Func.isWrapper; first | (rw [if_pos (by decide +kernel)]; kernel_rfl) | (rw [if_neg (by decide +kernel)]; exact ⟨rfl, rfl⟩))
    (fun os started H enc _ F => by rw [OpenClaim.pre_eq_preRow]; exact lifted os started H enc F)

set_option maxRecDepth 100000 in
theorem plain (f : FuncId) (fn : Func) (hf : Tryd.pinned.checked.prog.funcNamed "tenement/tenementlaw06.VecTells" = some f) (hfn : Tryd.pinned.checked.prog.funcs[f]? = some fn) :
    false = Tryd.pinned.checked.prog.looks [] ∧ ∀ (j : Nat) t, fn.params[j]? = some t → Tryd.pinned.checked.prog.wantsStandIn t = false := by
  obtain rfl : f = 3 := Option.some.inj ((show Tryd.prog.funcNamed "tenement/tenementlaw06.VecTells" = some 3 by kernel_rfl).symm.trans hf) |>.symm
  obtain rfl : fn = Tryd.f3 := (Option.some.inj (Tryd.func3.symm.trans hfn)).symm
  refine ⟨by kernel_rfl, fun j t ht => ?_⟩
  rw [Tryd.params3] at ht
  have hm := Array.mem_of_getElem? ht
  simp only [List.mem_toArray, List.mem_cons, List.not_mem_nil, or_false] at hm
  rcases hm with rfl | rfl | rfl | rfl | rfl
  all_goals first | exact (show Tryd.prog.wantsStandIn 26 = false by kernel_rfl) | exact (show Tryd.prog.wantsStandIn 3 = false by kernel_rfl) | exact (show Tryd.prog.wantsStandIn 22 = false by kernel_rfl) | exact (show Tryd.prog.wantsStandIn 4 = false by kernel_rfl)

/-- the statement -/
theorem proved : Rows.VecTellsCardSaid :=
  Claim7.holds_tied_plain_at .later [] _ _ _ _ over (fun _ h => by cases h) (by kernel_rfl) (fun _ h => by cases h) vecTells_row_tie rfl ⟨rfl, rfl⟩ (by kernel_rfl) rfl plain (by kernel_rfl)
#print axioms proved

end Go.Proofs.YtpdomhddjpfibaaDoor.vecTells
