/-
  Vectors stand in an order by all their numbers: two that are each at most the other one are the same; of two that are not, of which one is, its sum is less, where both are right (the law VecOrder). No conditions.
-/
import Derived.Test.YtpdomhddjpfibaaDoorFrameTab

import Derived.Test.YtpdomhddjpfibaaDoorVecEx

import Derived.Test.YtpdomhddjpfibaaDoorVecOf

import Derived.Deep.DeepCutAuto

import Derived.Test.YtpdomhddjpfibaaDoorFrameVec

namespace Go.Proofs.YtpdomhddjpfibaaDoor.vecOrder

open Go.ChangeShapes Go.WideShapes Go.ChangeAt Go.RowKit

open Go.Proofs.YtpdomhddjpfibaaDoor.Vc

open Go.ChangeMaps (open_string shut_string)

set_option linter.unusedVariables false

set_option linter.unusedSimpArgs false

theorem q0 (A : List Nat) (hA : A.length = 4) : V.leq A A = true := by
  obtain ⟨a0, a1, a2, a3, rfl⟩ := V.four hA
  simp only [V.leq, V.join, V.meet, List.zipWith_cons_cons, List.zipWith_nil_right, List.cons.injEq, and_true, decide_eq_true_eq]
  omega
set_option maxHeartbeats 16000000 in
set_option maxRecDepth 100000 in
theorem walk (a0 : List Nat) (o0 : Bool) (a1 : List Nat) (o1 : Bool) (a2 : List Nat) (o2 : Bool) (w0 : V.Ok a0) (w1 : V.Ok a1) (w2 : V.Ok a2) (w : World) (hT : Fm.Tab w) :
    Calls Tryd.prog 6 #[VV a0 o0, VV a1 o1, VV a2 o2] w fun e w' => e = .returned (.bool true) ∧ Below w.heap.size w w' := by
  have CE := Lib.hid examples_any
  obtain ⟨A, EA⟩ : ∃ r, Hid (V.few a0 o0 = r) := ⟨_, rfl⟩
  have OA : Hid (V.Ok A) := by rw [← EA.out]; exact V.few_ok w0 o0
  have HA : Hid (A.length = 4) := OA.out.len
  have CV0 := Lib.hid (fun w => vector_any a0 o0 w w0)
  rw [EA.out] at CV0
  obtain ⟨B, EB⟩ : ∃ r, Hid (V.few a1 o1 = r) := ⟨_, rfl⟩
  have OB : Hid (V.Ok B) := by rw [← EB.out]; exact V.few_ok w1 o1
  have HB : Hid (B.length = 4) := OB.out.len
  have CV1 := Lib.hid (fun w => vector_any a1 o1 w w1)
  rw [EB.out] at CV1
  obtain ⟨C, EC⟩ : ∃ r, Hid (V.few a2 o2 = r) := ⟨_, rfl⟩
  have OC : Hid (V.Ok C) := by rw [← EC.out]; exact V.few_ok w2 o2
  have HC : Hid (C.length = 4) := OC.out.len
  have CV2 := Lib.hid (fun w => vector_any a2 o2 w w2)
  rw [EC.out] at CV2
  obtain ⟨lab, LAB⟩ : ∃ r, Hid (V.leq A B = r) := ⟨_, rfl⟩
  obtain ⟨lba, LBA⟩ : ∃ r, Hid (V.leq B A = r) := ⟨_, rfl⟩
  obtain ⟨lbc, LBC⟩ : ∃ r, Hid (V.leq B C = r) := ⟨_, rfl⟩
  obtain ⟨eab, EAB⟩ : ∃ r, Hid (decide (A = B) = r) := ⟨_, rfl⟩
  obtain ⟨rA, RA⟩ : ∃ r, Hid (V.right A = r) := ⟨_, rfl⟩
  obtain ⟨rB, RB⟩ : ∃ r, Hid (V.right B = r) := ⟨_, rfl⟩
  obtain ⟨rr, ERR⟩ : ∃ r, Hid ((rA && rB) = r) := ⟨_, rfl⟩
  obtain ⟨sA, SA⟩ : ∃ r, Hid (V.sum A = r) := ⟨_, rfl⟩
  obtain ⟨sB, SB⟩ : ∃ r, Hid (V.sum B = r) := ⟨_, rfl⟩
  have HSL : Hid (rr = true → eab = false → lab = true → (sA : Int) < (sB : Int)) := fun h1 h2 h3 => by
    have hr := ERR.out.trans h1
    rw [Bool.and_eq_true] at hr
    have := V.sum_less HA.out HB.out (RA.out.trans hr.1) (RB.out.trans hr.2) (EAB.out.trans h2) (LAB.out.trans h3)
    rw [SA.out, SB.out] at this
    omega
  have HJB : Hid (decide (V.join A B = B) = lab) := by show _ = _; rw [← LAB.out]; rfl
  have CLAB := Lib.hid (fun w => leq_any A B w HA.out HB.out)
  rw [LAB.out] at CLAB
  have CLBA := Lib.hid (fun w => leq_any B A w HB.out HA.out)
  rw [LBA.out] at CLBA
  have CRA := Lib.hid (fun w => right_any A w HA.out)
  rw [RA.out] at CRA
  have CRB := Lib.hid (fun w => right_any B w HB.out)
  rw [RB.out] at CRB
  go_enter Tryd.func6, Tryd.ntmps6
  have M0 : Hid (Kept w w []) := Kept.start w
  go_wp2_with (first | refine blk_box rfl 26 _ rfl (ks .u64 a0 ++ [Value.bool o0]) rfl ?_)
  intro k2 A2 B2 Z2
  have M2 : Hid (Kept w k2 [(w.heap.size, ks .u64 a0 ++ [Value.bool o0])]) := Kept.new M0.out B2 Z2 A2
  clear A2 B2 Z2 M0
  go_wp2_with (first | refine blk_box rfl 26 _ rfl (ks .u64 a1 ++ [Value.bool o1]) rfl ?_)
  intro k3 A3 B3 Z3
  have M3 : Hid (Kept w k3 [(k2.heap.size, ks .u64 a1 ++ [Value.bool o1]), (w.heap.size, ks .u64 a0 ++ [Value.bool o0])]) := Kept.new M2.out B3 Z3 A3
  clear A3 B3 Z3 M2
  go_wp2_with (first | refine blk_box rfl 26 _ rfl (ks .u64 a2 ++ [Value.bool o2]) rfl ?_)
  intro k4 A4 B4 Z4
  have M4 : Hid (Kept w k4 [(k3.heap.size, ks .u64 a2 ++ [Value.bool o2]), (k2.heap.size, ks .u64 a1 ++ [Value.bool o1]), (w.heap.size, ks .u64 a0 ++ [Value.bool o0])]) := Kept.new M3.out B4 Z4 A4
  clear A4 B4 Z4 M3
  go_wp2_with fail
  refine (CE.out k4).mono ?_; rintro e k5 ⟨rfl, hb5⟩
  have M5 : Hid (Kept w k5 [(k3.heap.size, ks .u64 a2 ++ [Value.bool o2]), (k2.heap.size, ks .u64 a1 ++ [Value.bool o1]), (w.heap.size, ks .u64 a0 ++ [Value.bool o0])]) := Kept.below M4.out hb5
  clear hb5 M4
  go_wp2_with (first | refine blk_load rfl 26 _ rfl (w.heap.size) rfl (ks .u64 a0 ++ [Value.bool o0]) (Kept.get M5.out 2 rfl) _ Tryd.underlying26 rfl (size_vv w0.len) ?_)
  refine (CV0.out k5).mono ?_; rintro e k6 ⟨rfl, hb6⟩
  have M6 : Hid (Kept w k6 [(k3.heap.size, ks .u64 a2 ++ [Value.bool o2]), (k2.heap.size, ks .u64 a1 ++ [Value.bool o1]), (w.heap.size, ks .u64 a0 ++ [Value.bool o0])]) := Kept.below M5.out hb6
  clear hb6 M5
  go_wp2_with (first | refine arr_alloc rfl .u64 24 4 rfl Tryd.info_v ?_)
  intro k7 A7 B7 Z7
  go_wp2_with (first | refine arr_store rfl .u64 24 _ _ rfl k6.heap.size rfl A rfl _ A7 (by rw [HA.out]; rfl) (size_v HA.out) ?_)
  intro k8 A8 U8
  have M8 : Hid (Kept w k8 [(k6.heap.size, ks .u64 A), (k3.heap.size, ks .u64 a2 ++ [Value.bool o2]), (k2.heap.size, ks .u64 a1 ++ [Value.bool o1]), (w.heap.size, ks .u64 a0 ++ [Value.bool o0])]) := Kept.fresh M6.out B7 Z7 U8 (Arr.blk A8)
  clear A7 B7 Z7 A8 U8 M6
  go_wp2_with (first | refine blk_load rfl 26 _ rfl (k2.heap.size) rfl (ks .u64 a1 ++ [Value.bool o1]) (Kept.get M8.out 2 rfl) _ Tryd.underlying26 rfl (size_vv w1.len) ?_)
  refine (CV1.out k8).mono ?_; rintro e k9 ⟨rfl, hb9⟩
  have M9 : Hid (Kept w k9 [(k6.heap.size, ks .u64 A), (k3.heap.size, ks .u64 a2 ++ [Value.bool o2]), (k2.heap.size, ks .u64 a1 ++ [Value.bool o1]), (w.heap.size, ks .u64 a0 ++ [Value.bool o0])]) := Kept.below M8.out hb9
  clear hb9 M8
  go_wp2_with (first | refine arr_alloc rfl .u64 24 4 rfl Tryd.info_v ?_)
  intro k10 A10 B10 Z10
  go_wp2_with (first | refine arr_store rfl .u64 24 _ _ rfl k9.heap.size rfl B rfl _ A10 (by rw [HB.out]; rfl) (size_v HB.out) ?_)
  intro k11 A11 U11
  have M11 : Hid (Kept w k11 [(k9.heap.size, ks .u64 B), (k6.heap.size, ks .u64 A), (k3.heap.size, ks .u64 a2 ++ [Value.bool o2]), (k2.heap.size, ks .u64 a1 ++ [Value.bool o1]), (w.heap.size, ks .u64 a0 ++ [Value.bool o0])]) := Kept.fresh M9.out B10 Z10 U11 (Arr.blk A11)
  clear A10 B10 Z10 A11 U11 M9
  go_wp2_with (first | refine blk_load rfl 26 _ rfl (k3.heap.size) rfl (ks .u64 a2 ++ [Value.bool o2]) (Kept.get M11.out 2 rfl) _ Tryd.underlying26 rfl (size_vv w2.len) ?_)
  refine (CV2.out k11).mono ?_; rintro e k12 ⟨rfl, hb12⟩
  have M12 : Hid (Kept w k12 [(k9.heap.size, ks .u64 B), (k6.heap.size, ks .u64 A), (k3.heap.size, ks .u64 a2 ++ [Value.bool o2]), (k2.heap.size, ks .u64 a1 ++ [Value.bool o1]), (w.heap.size, ks .u64 a0 ++ [Value.bool o0])]) := Kept.below M11.out hb12
  clear hb12 M11
  go_wp2_with (first | refine arr_alloc rfl .u64 24 4 rfl Tryd.info_v ?_)
  intro k13 A13 B13 Z13
  go_wp2_with (first | refine arr_store rfl .u64 24 _ _ rfl k12.heap.size rfl C rfl _ A13 (by rw [HC.out]; rfl) (size_v HC.out) ?_)
  intro k14 A14 U14
  have M14 : Hid (Kept w k14 [(k12.heap.size, ks .u64 C), (k9.heap.size, ks .u64 B), (k6.heap.size, ks .u64 A), (k3.heap.size, ks .u64 a2 ++ [Value.bool o2]), (k2.heap.size, ks .u64 a1 ++ [Value.bool o1]), (w.heap.size, ks .u64 a0 ++ [Value.bool o0])]) := Kept.fresh M12.out B13 Z13 U14 (Arr.blk A14)
  clear A13 B13 Z13 A14 U14 M12
  go_upto_region 7 with fail
  go_cut [11] (fun x wx => x = .bool eab ∧ Hid (Kept w wx [(k12.heap.size, ks .u64 C), (k9.heap.size, ks .u64 B), (k6.heap.size, ks .u64 A), (k3.heap.size, ks .u64 a2 ++ [Value.bool o2]), (k2.heap.size, ks .u64 a1 ++ [Value.bool o1]), (w.heap.size, ks .u64 a0 ++ [Value.bool o0])]))
  case first =>
    cases lab with
    | false =>
      have EF : Hid (eab = false) := by rw [← EAB.out, ← V.leq_both HA.out HB.out, LAB.out]; rfl

      go_wp2_with (first | refine arr_load rfl .u64 24 _ rfl (k6.heap.size) rfl A (Kept.arr M14.out 2 rfl) 4 22 Tryd.underlying24 (size_v HA.out) ?_ | refine arr_loadg rfl .u64 24 _ rfl (k6.heap.size) rfl A (Kept.arr M14.out 2 rfl) 4 22 Tryd.underlying24 (size_v HA.out) ?_ | refine arr_load rfl .u64 24 _ rfl (k9.heap.size) rfl B (Kept.arr M14.out 1 rfl) 4 22 Tryd.underlying24 (size_v HB.out) ?_ | refine arr_loadg rfl .u64 24 _ rfl (k9.heap.size) rfl B (Kept.arr M14.out 1 rfl) 4 22 Tryd.underlying24 (size_v HB.out) ?_)
      refine (CLAB.out k14).mono ?_; rintro e u1 ⟨rfl, hb1⟩
      have N1 : Hid (Kept w u1 [(k12.heap.size, ks .u64 C), (k9.heap.size, ks .u64 B), (k6.heap.size, ks .u64 A), (k3.heap.size, ks .u64 a2 ++ [Value.bool o2]), (k2.heap.size, ks .u64 a1 ++ [Value.bool o1]), (w.heap.size, ks .u64 a0 ++ [Value.bool o0])]) := Kept.below M14.out hb1
      clear hb1
      go_wp2_with (first | refine arr_load rfl .u64 24 _ rfl (k6.heap.size) rfl A (Kept.arr N1.out 2 rfl) 4 22 Tryd.underlying24 (size_v HA.out) ?_ | refine arr_loadg rfl .u64 24 _ rfl (k6.heap.size) rfl A (Kept.arr N1.out 2 rfl) 4 22 Tryd.underlying24 (size_v HA.out) ?_ | refine arr_load rfl .u64 24 _ rfl (k9.heap.size) rfl B (Kept.arr N1.out 1 rfl) 4 22 Tryd.underlying24 (size_v HB.out) ?_ | refine arr_loadg rfl .u64 24 _ rfl (k9.heap.size) rfl B (Kept.arr N1.out 1 rfl) 4 22 Tryd.underlying24 (size_v HB.out) ?_)
      go_meet
      exact ⟨by rw [EF.out], N1⟩
    | true =>
      have EF : Hid (eab = lba) := by rw [← EAB.out, ← V.leq_both HA.out HB.out, LAB.out, LBA.out]; rfl

      go_wp2_with (first | refine arr_load rfl .u64 24 _ rfl (k6.heap.size) rfl A (Kept.arr M14.out 2 rfl) 4 22 Tryd.underlying24 (size_v HA.out) ?_ | refine arr_loadg rfl .u64 24 _ rfl (k6.heap.size) rfl A (Kept.arr M14.out 2 rfl) 4 22 Tryd.underlying24 (size_v HA.out) ?_ | refine arr_load rfl .u64 24 _ rfl (k9.heap.size) rfl B (Kept.arr M14.out 1 rfl) 4 22 Tryd.underlying24 (size_v HB.out) ?_ | refine arr_loadg rfl .u64 24 _ rfl (k9.heap.size) rfl B (Kept.arr M14.out 1 rfl) 4 22 Tryd.underlying24 (size_v HB.out) ?_)
      refine (CLAB.out k14).mono ?_; rintro e u1 ⟨rfl, hb1⟩
      have N1 : Hid (Kept w u1 [(k12.heap.size, ks .u64 C), (k9.heap.size, ks .u64 B), (k6.heap.size, ks .u64 A), (k3.heap.size, ks .u64 a2 ++ [Value.bool o2]), (k2.heap.size, ks .u64 a1 ++ [Value.bool o1]), (w.heap.size, ks .u64 a0 ++ [Value.bool o0])]) := Kept.below M14.out hb1
      clear hb1
      go_wp2_with (first | refine arr_load rfl .u64 24 _ rfl (k6.heap.size) rfl A (Kept.arr N1.out 2 rfl) 4 22 Tryd.underlying24 (size_v HA.out) ?_ | refine arr_loadg rfl .u64 24 _ rfl (k6.heap.size) rfl A (Kept.arr N1.out 2 rfl) 4 22 Tryd.underlying24 (size_v HA.out) ?_ | refine arr_load rfl .u64 24 _ rfl (k9.heap.size) rfl B (Kept.arr N1.out 1 rfl) 4 22 Tryd.underlying24 (size_v HB.out) ?_ | refine arr_loadg rfl .u64 24 _ rfl (k9.heap.size) rfl B (Kept.arr N1.out 1 rfl) 4 22 Tryd.underlying24 (size_v HB.out) ?_)
      refine (CLBA.out u1).mono ?_; rintro e u2 ⟨rfl, hb2⟩
      have N2 : Hid (Kept w u2 [(k12.heap.size, ks .u64 C), (k9.heap.size, ks .u64 B), (k6.heap.size, ks .u64 A), (k3.heap.size, ks .u64 a2 ++ [Value.bool o2]), (k2.heap.size, ks .u64 a1 ++ [Value.bool o1]), (w.heap.size, ks .u64 a0 ++ [Value.bool o0])]) := Kept.below N1.out hb2
      clear hb2
      go_wp2_with (first | refine arr_load rfl .u64 24 _ rfl (k6.heap.size) rfl A (Kept.arr N2.out 2 rfl) 4 22 Tryd.underlying24 (size_v HA.out) ?_ | refine arr_loadg rfl .u64 24 _ rfl (k6.heap.size) rfl A (Kept.arr N2.out 2 rfl) 4 22 Tryd.underlying24 (size_v HA.out) ?_ | refine arr_load rfl .u64 24 _ rfl (k9.heap.size) rfl B (Kept.arr N2.out 1 rfl) 4 22 Tryd.underlying24 (size_v HB.out) ?_ | refine arr_loadg rfl .u64 24 _ rfl (k9.heap.size) rfl B (Kept.arr N2.out 1 rfl) 4 22 Tryd.underlying24 (size_v HB.out) ?_)
      go_meet
      exact ⟨by rw [EF.out], N2⟩
  case rest =>
  obtain ⟨rfl, N0⟩ := hcut
  clear M14 CLBA
  go_upto_region 8 with fail
  go_cut [12] (fun x wx => x = .bool rr ∧ Hid (Kept w wx [(k12.heap.size, ks .u64 C), (k9.heap.size, ks .u64 B), (k6.heap.size, ks .u64 A), (k3.heap.size, ks .u64 a2 ++ [Value.bool o2]), (k2.heap.size, ks .u64 a1 ++ [Value.bool o1]), (w.heap.size, ks .u64 a0 ++ [Value.bool o0])]))
  case first =>
    cases rA with
    | false =>
      have EF : Hid (rr = false) := by rw [← ERR.out]; rfl

      go_wp2_with (first | refine arr_load rfl .u64 24 _ rfl (k6.heap.size) rfl A (Kept.arr N0.out 2 rfl) 4 22 Tryd.underlying24 (size_v HA.out) ?_ | refine arr_loadg rfl .u64 24 _ rfl (k6.heap.size) rfl A (Kept.arr N0.out 2 rfl) 4 22 Tryd.underlying24 (size_v HA.out) ?_ | refine arr_load rfl .u64 24 _ rfl (k9.heap.size) rfl B (Kept.arr N0.out 1 rfl) 4 22 Tryd.underlying24 (size_v HB.out) ?_ | refine arr_loadg rfl .u64 24 _ rfl (k9.heap.size) rfl B (Kept.arr N0.out 1 rfl) 4 22 Tryd.underlying24 (size_v HB.out) ?_)
      refine (CRA.out wc).mono ?_; rintro e u1 ⟨rfl, hb1⟩
      have N1 : Hid (Kept w u1 [(k12.heap.size, ks .u64 C), (k9.heap.size, ks .u64 B), (k6.heap.size, ks .u64 A), (k3.heap.size, ks .u64 a2 ++ [Value.bool o2]), (k2.heap.size, ks .u64 a1 ++ [Value.bool o1]), (w.heap.size, ks .u64 a0 ++ [Value.bool o0])]) := Kept.below N0.out hb1
      clear hb1
      go_wp2_with (first | refine arr_load rfl .u64 24 _ rfl (k6.heap.size) rfl A (Kept.arr N1.out 2 rfl) 4 22 Tryd.underlying24 (size_v HA.out) ?_ | refine arr_loadg rfl .u64 24 _ rfl (k6.heap.size) rfl A (Kept.arr N1.out 2 rfl) 4 22 Tryd.underlying24 (size_v HA.out) ?_ | refine arr_load rfl .u64 24 _ rfl (k9.heap.size) rfl B (Kept.arr N1.out 1 rfl) 4 22 Tryd.underlying24 (size_v HB.out) ?_ | refine arr_loadg rfl .u64 24 _ rfl (k9.heap.size) rfl B (Kept.arr N1.out 1 rfl) 4 22 Tryd.underlying24 (size_v HB.out) ?_)
      go_meet
      exact ⟨by rw [EF.out], N1⟩
    | true =>
      have EF : Hid (rr = rB) := by rw [← ERR.out]; rfl

      go_wp2_with (first | refine arr_load rfl .u64 24 _ rfl (k6.heap.size) rfl A (Kept.arr N0.out 2 rfl) 4 22 Tryd.underlying24 (size_v HA.out) ?_ | refine arr_loadg rfl .u64 24 _ rfl (k6.heap.size) rfl A (Kept.arr N0.out 2 rfl) 4 22 Tryd.underlying24 (size_v HA.out) ?_ | refine arr_load rfl .u64 24 _ rfl (k9.heap.size) rfl B (Kept.arr N0.out 1 rfl) 4 22 Tryd.underlying24 (size_v HB.out) ?_ | refine arr_loadg rfl .u64 24 _ rfl (k9.heap.size) rfl B (Kept.arr N0.out 1 rfl) 4 22 Tryd.underlying24 (size_v HB.out) ?_)
      refine (CRA.out wc).mono ?_; rintro e u1 ⟨rfl, hb1⟩
      have N1 : Hid (Kept w u1 [(k12.heap.size, ks .u64 C), (k9.heap.size, ks .u64 B), (k6.heap.size, ks .u64 A), (k3.heap.size, ks .u64 a2 ++ [Value.bool o2]), (k2.heap.size, ks .u64 a1 ++ [Value.bool o1]), (w.heap.size, ks .u64 a0 ++ [Value.bool o0])]) := Kept.below N0.out hb1
      clear hb1
      go_wp2_with (first | refine arr_load rfl .u64 24 _ rfl (k6.heap.size) rfl A (Kept.arr N1.out 2 rfl) 4 22 Tryd.underlying24 (size_v HA.out) ?_ | refine arr_loadg rfl .u64 24 _ rfl (k6.heap.size) rfl A (Kept.arr N1.out 2 rfl) 4 22 Tryd.underlying24 (size_v HA.out) ?_ | refine arr_load rfl .u64 24 _ rfl (k9.heap.size) rfl B (Kept.arr N1.out 1 rfl) 4 22 Tryd.underlying24 (size_v HB.out) ?_ | refine arr_loadg rfl .u64 24 _ rfl (k9.heap.size) rfl B (Kept.arr N1.out 1 rfl) 4 22 Tryd.underlying24 (size_v HB.out) ?_)
      refine (CRB.out u1).mono ?_; rintro e u2 ⟨rfl, hb2⟩
      have N2 : Hid (Kept w u2 [(k12.heap.size, ks .u64 C), (k9.heap.size, ks .u64 B), (k6.heap.size, ks .u64 A), (k3.heap.size, ks .u64 a2 ++ [Value.bool o2]), (k2.heap.size, ks .u64 a1 ++ [Value.bool o1]), (w.heap.size, ks .u64 a0 ++ [Value.bool o0])]) := Kept.below N1.out hb2
      clear hb2
      go_wp2_with (first | refine arr_load rfl .u64 24 _ rfl (k6.heap.size) rfl A (Kept.arr N2.out 2 rfl) 4 22 Tryd.underlying24 (size_v HA.out) ?_ | refine arr_loadg rfl .u64 24 _ rfl (k6.heap.size) rfl A (Kept.arr N2.out 2 rfl) 4 22 Tryd.underlying24 (size_v HA.out) ?_ | refine arr_load rfl .u64 24 _ rfl (k9.heap.size) rfl B (Kept.arr N2.out 1 rfl) 4 22 Tryd.underlying24 (size_v HB.out) ?_ | refine arr_loadg rfl .u64 24 _ rfl (k9.heap.size) rfl B (Kept.arr N2.out 1 rfl) 4 22 Tryd.underlying24 (size_v HB.out) ?_)
      go_meet
      exact ⟨by rw [EF.out], N2⟩
  case rest =>
  obtain ⟨rfl, N3⟩ := hcut
  clear N0
  go_wp2_with fail
  have KP8 : Hid (∀ u, Below wc.heap.size wc u → Arr .u64 u (k6.heap.size) A) := fun u hu => (Kept.below N3.out hu).arr 2 rfl
  have KP9 : Hid (∀ u, Below wc.heap.size wc u → Arr .u64 u (k9.heap.size) B) := fun u hu => (Kept.below N3.out hu).arr 1 rfl
  have KP10 : Hid (∀ u, Below wc.heap.size wc u → Arr .u64 u (k12.heap.size) C) := fun u hu => (Kept.below N3.out hu).arr 0 rfl
  have KC0 : Hid (∀ u, Below wc.heap.size wc u → Calls Tryd.prog 22 [AV .u64 A, AV .u64 A].toArray u fun e u' => e = .returned (.bool true) ∧ Below wc.heap.size wc u') := fun u hu => Calls.more hu (by have h := leq_any A A u HA.out HA.out; rw [(q0 A HA.out)] at h; exact h)
  have KC1 : Hid (∀ u, Below wc.heap.size wc u → Calls Tryd.prog 22 [AV .u64 A, AV .u64 B].toArray u fun e u' => e = .returned (.bool lab) ∧ Below wc.heap.size wc u') := fun u hu => Calls.more hu (by have h := leq_any A B u HA.out HB.out; rw [LAB.out] at h; exact h)
  have KC2 : Hid (∀ u, Below wc.heap.size wc u → Calls Tryd.prog 12 [AV .u64 A, AV .u64 B].toArray u fun e u' => e = .returned (AV .u64 (V.join A B)) ∧ Below wc.heap.size wc u') := fun u hu => Calls.more hu (join_any A B u HA.out HB.out)
  have KC3 : Hid (∀ u, Below wc.heap.size wc u → Calls Tryd.prog 22 [AV .u64 V.zeros, AV .u64 A].toArray u fun e u' => e = .returned (.bool true) ∧ Below wc.heap.size wc u') := fun u hu => Calls.more hu (by have h := leq_any V.zeros A u rfl HA.out; rw [V.leq_zeros HA.out] at h; exact h)
  have KC4 : Hid (∀ u, Below wc.heap.size wc u → Calls Tryd.prog 22 [AV .u64 B, AV .u64 C].toArray u fun e u' => e = .returned (.bool lbc) ∧ Below wc.heap.size wc u') := fun u hu => Calls.more hu (by have h := leq_any B C u HB.out HC.out; rw [LBC.out] at h; exact h)
  have KC5 : Hid (∀ u, Below wc.heap.size wc u → Calls Tryd.prog 26 [AV .u64 A].toArray u fun e u' => e = .returned (.int .u64 (sA : Nat)) ∧ Below wc.heap.size wc u') := fun u hu => Calls.more hu (by have h := sum_any A u HA.out; rw [SA.out] at h; exact h)
  have KC6 : Hid (∀ u, Below wc.heap.size wc u → Calls Tryd.prog 26 [AV .u64 B].toArray u fun e u' => e = .returned (.int .u64 (sB : Nat)) ∧ Below wc.heap.size wc u') := fun u hu => Calls.more hu (by have h := sum_any B u HB.out; rw [SB.out] at h; exact h)
  have KAC : Hid (lab = true → lbc = true → ∀ u, Below wc.heap.size wc u → Calls Tryd.prog 22 [AV .u64 A, AV .u64 C].toArray u fun e u' => e = .returned (.bool true) ∧ Below wc.heap.size wc u') := fun h1 h2 u hu => Calls.more hu (by have h := leq_any A C u HA.out HC.out; rw [V.leq_trans HA.out HB.out HC.out (LAB.out.trans h1) (LBC.out.trans h2)] at h; exact h)
  refine region_w Tryd.mixed (by kernel_rfl) ?_
  refine w_move rfl _ rfl (.bool true) rfl (fun K hK => ?_)
  go_simp
  refine hK _ ?_
  clear hK K
  refine w_move rfl _ rfl (.bool true) rfl (fun K hK => ?_)
  go_simp
  refine hK _ ?_
  clear hK K
  refine wg_arr_load (by rfl) .u64 24 _ rfl (k6.heap.size) rfl A KP8.out 4 22 Tryd.underlying24 (size_v HA.out) (fun K hK => ?_)
  go_simp
  refine hK _ ?_
  clear hK K
  refine wg_arr_load (by rfl) .u64 24 _ rfl (k6.heap.size) rfl A KP8.out 4 22 Tryd.underlying24 (size_v HA.out) (fun K hK => ?_)
  go_simp
  refine hK _ ?_
  clear hK K
  refine wg_call (by rfl) 22 Tryd.f22 Tryd.func22 rfl rfl _ _ rfl _ rfl (.bool true) (by exact KC0.out) (fun K hK => ?_)
  go_simp
  refine hK _ ?_
  clear hK K
  refine w_value rfl (.bool true) (fun u hu => by go_simp) (fun K hK => ?_)
  go_simp
  refine hK _ ?_
  clear hK K
  refine w_move rfl _ rfl (.bool true) rfl (fun K hK => ?_)
  go_simp
  refine hK _ ?_
  clear hK K
  refine wg_value (by rfl) (.bool eab) (fun u hu => by go_simp) (fun K hK => ?_)
  go_simp
  refine hK _ ?_
  clear hK K
  refine wg_arr_load (by rfl) .u64 24 _ rfl (k6.heap.size) rfl A KP8.out 4 22 Tryd.underlying24 (size_v HA.out) (fun K hK => ?_)
  go_simp
  refine hK _ ?_
  clear hK K
  refine wg_arr_load (by rfl) .u64 24 _ rfl (k9.heap.size) rfl B KP9.out 4 22 Tryd.underlying24 (size_v HB.out) (fun K hK => ?_)
  go_simp
  refine hK _ ?_
  clear hK K
  refine wg_value (by rfl) (.bool eab) (fun u _ => run_eql u .eql 24 24 _ _ (AV .u64 A) (AV .u64 B) _ rfl rfl rfl (guard_v _ _ _ _ u) (eql_as A B HA.out HB.out _ EAB.out u)) (fun K hK => ?_)
  go_simp
  refine hK _ ?_
  clear hK K
  refine wg_value (by rfl) (.bool true) (fun u hu => by go_simp) (fun K hK => ?_)
  go_simp
  refine hK _ ?_
  clear hK K
  refine w_value rfl (.bool true) (fun u hu => by go_simp) (fun K hK => ?_)
  go_simp
  refine hK _ ?_
  clear hK K
  refine w_move rfl _ rfl (.bool true) rfl (fun K hK => ?_)
  go_simp
  refine hK _ ?_
  clear hK K
  refine wg_arr_load (by rfl) .u64 24 _ rfl (k6.heap.size) rfl A KP8.out 4 22 Tryd.underlying24 (size_v HA.out) (fun K hK => ?_)
  go_simp
  refine hK _ ?_
  clear hK K
  refine wg_arr_load (by rfl) .u64 24 _ rfl (k9.heap.size) rfl B KP9.out 4 22 Tryd.underlying24 (size_v HB.out) (fun K hK => ?_)
  go_simp
  refine hK _ ?_
  clear hK K
  refine wg_call (by rfl) 22 Tryd.f22 Tryd.func22 rfl rfl _ _ rfl _ rfl (.bool lab) (by exact KC1.out) (fun K hK => ?_)
  go_simp
  refine hK _ ?_
  clear hK K
  cases lab with
  | false =>
    refine wg_value (by rfl) (.bool true) (fun u hu => by go_simp) (fun K hK => ?_)
    go_simp
    refine hK _ ?_
    clear hK K
    refine wg_value (by rfl) (.bool true) (fun u hu => by go_simp) (fun K hK => ?_)
    go_simp
    refine hK _ ?_
    clear hK K
    refine w_skip 18 false ((some true)) rfl rfl rfl (fun K hK => ?_)
    go_simp
    refine hK _ ?_
    clear hK K
    refine w_skip 18 false ((some true)) rfl rfl rfl (fun K hK => ?_)
    go_simp
    refine hK _ ?_
    clear hK K
    refine w_skip 18 false ((some true)) rfl rfl rfl (fun K hK => ?_)
    go_simp
    refine hK _ ?_
    clear hK K
    refine w_skip 18 false ((some true)) rfl rfl rfl (fun K hK => ?_)
    go_simp
    refine hK _ ?_
    clear hK K
    refine wg_value (by rfl) (.bool true) (fun u hu => by go_simp) (fun K hK => ?_)
    go_simp
    refine hK _ ?_
    clear hK K
    refine wg_value (by rfl) (.bool true) (fun u hu => by go_simp) (fun K hK => ?_)
    go_simp
    refine hK _ ?_
    clear hK K
    refine w_skip 24 false ((some true)) rfl rfl rfl (fun K hK => ?_)
    go_simp
    refine hK _ ?_
    clear hK K
    refine w_skip 24 false ((some true)) rfl rfl rfl (fun K hK => ?_)
    go_simp
    refine hK _ ?_
    clear hK K
    refine w_skip 24 false ((some true)) rfl rfl rfl (fun K hK => ?_)
    go_simp
    refine hK _ ?_
    clear hK K
    refine wg_value (by rfl) (.bool true) (fun u hu => by go_simp) (fun K hK => ?_)
    go_simp
    refine hK _ ?_
    clear hK K
    refine w_value rfl (.bool true) (fun u hu => by go_simp) (fun K hK => ?_)
    go_simp
    refine hK _ ?_
    clear hK K
    refine w_move rfl _ rfl (.bool true) rfl (fun K hK => ?_)
    go_simp
    refine hK _ ?_
    clear hK K
    refine wg_value (by rfl) (.bool rr) (fun u hu => by go_simp) (fun K hK => ?_)
    go_simp
    refine hK _ ?_
    clear hK K
    cases rr with
    | false =>
      refine wg_value (by rfl) (.bool true) (fun u hu => by go_simp) (fun K hK => ?_)
      go_simp
      refine hK _ ?_
      clear hK K
      refine wg_value (by rfl) (.bool true) (fun u hu => by go_simp) (fun K hK => ?_)
      go_simp
      refine hK _ ?_
      clear hK K
      refine w_skip 33 false ((some true)) rfl rfl rfl (fun K hK => ?_)
      go_simp
      refine hK _ ?_
      clear hK K
      refine w_skip 33 false ((some true)) rfl rfl rfl (fun K hK => ?_)
      go_simp
      refine hK _ ?_
      clear hK K
      refine w_skip 33 false ((some true)) rfl rfl rfl (fun K hK => ?_)
      go_simp
      refine hK _ ?_
      clear hK K
      refine wg_value (by rfl) (.bool true) (fun u hu => by go_simp) (fun K hK => ?_)
      go_simp
      refine hK _ ?_
      clear hK K
      refine wg_value (by rfl) (.bool true) (fun u hu => by go_simp) (fun K hK => ?_)
      go_simp
      refine hK _ ?_
      clear hK K
      refine w_skip 38 false ((some true)) rfl rfl rfl (fun K hK => ?_)
      go_simp
      refine hK _ ?_
      clear hK K
      refine w_skip 38 false ((some true)) rfl rfl rfl (fun K hK => ?_)
      go_simp
      refine hK _ ?_
      clear hK K
      refine w_skip 38 false ((some true)) rfl rfl rfl (fun K hK => ?_)
      go_simp
      refine hK _ ?_
      clear hK K
      refine w_skip 38 false ((some true)) rfl rfl rfl (fun K hK => ?_)
      go_simp
      refine hK _ ?_
      clear hK K
      refine wg_value (by rfl) (.bool true) (fun u hu => by go_simp) (fun K hK => ?_)
      go_simp
      refine hK _ ?_
      clear hK K
      refine wg_value (by rfl) (.bool true) (fun u hu => by go_simp) (fun K hK => ?_)
      go_simp
      refine hK _ ?_
      clear hK K
      refine w_skip 44 false ((some true)) rfl rfl rfl (fun K hK => ?_)
      go_simp
      refine hK _ ?_
      clear hK K
      refine w_skip 44 false ((some true)) rfl rfl rfl (fun K hK => ?_)
      go_simp
      refine hK _ ?_
      clear hK K
      refine w_skip 44 false ((some true)) rfl rfl rfl (fun K hK => ?_)
      go_simp
      refine hK _ ?_
      clear hK K
      refine w_skip 44 false ((some true)) rfl rfl rfl (fun K hK => ?_)
      go_simp
      refine hK _ ?_
      clear hK K
      refine w_skip 44 false ((some true)) rfl rfl rfl (fun K hK => ?_)
      go_simp
      refine hK _ ?_
      clear hK K
      refine wg_value (by rfl) (.bool true) (fun u hu => by go_simp) (fun K hK => ?_)
      go_simp
      refine hK _ ?_
      clear hK K
      refine w_value rfl (.bool true) (fun u hu => by go_simp) (fun K hK => ?_)
      go_simp
      refine hK _ ?_
      clear hK K
      refine w_move rfl _ rfl (.bool true) rfl (fun K hK => ?_)
      go_simp
      refine hK _ ?_
      clear hK K
      refine wg_arr_load (by rfl) .u64 24 _ rfl (k6.heap.size) rfl A KP8.out 4 22 Tryd.underlying24 (size_v HA.out) (fun K hK => ?_)
      go_simp
      refine hK _ ?_
      clear hK K
      refine wg_arr_load (by rfl) .u64 24 _ rfl (k9.heap.size) rfl B KP9.out 4 22 Tryd.underlying24 (size_v HB.out) (fun K hK => ?_)
      go_simp
      refine hK _ ?_
      clear hK K
      refine wg_call (by rfl) 22 Tryd.f22 Tryd.func22 rfl rfl _ _ rfl _ rfl (.bool false) (by exact KC1.out) (fun K hK => ?_)
      go_simp
      refine hK _ ?_
      clear hK K
      refine wg_arr_load (by rfl) .u64 24 _ rfl (k6.heap.size) rfl A KP8.out 4 22 Tryd.underlying24 (size_v HA.out) (fun K hK => ?_)
      go_simp
      refine hK _ ?_
      clear hK K
      refine wg_arr_load (by rfl) .u64 24 _ rfl (k9.heap.size) rfl B KP9.out 4 22 Tryd.underlying24 (size_v HB.out) (fun K hK => ?_)
      go_simp
      refine hK _ ?_
      clear hK K
      refine wg_call (by rfl) 12 Tryd.f12 Tryd.func12 rfl rfl _ _ rfl _ rfl (AV .u64 (V.join A B)) (by exact KC2.out) (fun K hK => ?_)
      go_simp
      refine hK _ ?_
      clear hK K
      refine wg_arr_load (by rfl) .u64 24 _ rfl (k9.heap.size) rfl B KP9.out 4 22 Tryd.underlying24 (size_v HB.out) (fun K hK => ?_)
      go_simp
      refine hK _ ?_
      clear hK K
      refine wg_value (by rfl) (.bool false) (fun u _ => run_eql u .eql 24 24 _ _ (AV .u64 (V.join A B)) (AV .u64 B) _ rfl rfl rfl (guard_v _ _ _ _ u) (eql_as (V.join A B) B (V.join_length HA.out HB.out) HB.out _ HJB.out u)) (fun K hK => ?_)
      go_simp
      refine hK _ ?_
      clear hK K
      refine wg_value (by rfl) (.bool true) (fun u hu => by go_simp) (fun K hK => ?_)
      go_simp
      refine hK _ ?_
      clear hK K
      refine w_value rfl (.bool true) (fun u hu => by go_simp) (fun K hK => ?_)
      go_simp
      refine hK _ ?_
      clear hK K
      refine w_move rfl _ rfl (.bool true) rfl (fun K hK => ?_)
      go_simp
      refine hK _ ?_
      clear hK K
      refine wg_value (by rfl) (.agg #[.int .u64 0, .int .u64 0, .int .u64 0, .int .u64 0]) (fun u hu => by go_simp) (fun K hK => ?_)
      go_simp
      refine hK _ ?_
      clear hK K
      refine wg_arr_load (by rfl) .u64 24 _ rfl (k6.heap.size) rfl A KP8.out 4 22 Tryd.underlying24 (size_v HA.out) (fun K hK => ?_)
      go_simp
      refine hK _ ?_
      clear hK K
      refine wg_call (by rfl) 22 Tryd.f22 Tryd.func22 rfl rfl _ _ rfl _ rfl (.bool true) (by exact KC3.out) (fun K hK => ?_)
      go_simp
      refine hK _ ?_
      clear hK K
      refine w_value rfl (.bool true) (fun u hu => by go_simp) (fun K hK => ?_)
      go_simp
      refine hK _ ?_
      clear hK K
      refine w_assign rfl _ rfl (.bool true) rfl (fun K hK => ?_)
      go_simp
      refine hK _ ?_
      clear hK K
      refine w_nil ?_
      intro u hu
      have HW9 : Hid (Below w.heap.size w u) := (Kept.below N3.out hu).under
      clear hu
      go_wp2_with fail
      go_ret
      exact ⟨rfl, HW9.out⟩
    | true =>
      refine wg_value (by rfl) (.bool false) (fun u hu => by go_simp) (fun K hK => ?_)
      go_simp
      refine hK _ ?_
      clear hK K
      refine wg_value (by rfl) (.bool false) (fun u hu => by go_simp) (fun K hK => ?_)
      go_simp
      refine hK _ ?_
      clear hK K
      refine wg_arr_load (by rfl) .u64 24 _ rfl (k6.heap.size) rfl A KP8.out 4 22 Tryd.underlying24 (size_v HA.out) (fun K hK => ?_)
      go_simp
      refine hK _ ?_
      clear hK K
      refine wg_arr_load (by rfl) .u64 24 _ rfl (k9.heap.size) rfl B KP9.out 4 22 Tryd.underlying24 (size_v HB.out) (fun K hK => ?_)
      go_simp
      refine hK _ ?_
      clear hK K
      refine wg_value (by rfl) (.bool eab) (fun u _ => run_eql u .eql 24 24 _ _ (AV .u64 A) (AV .u64 B) _ rfl rfl rfl (guard_v _ _ _ _ u) (eql_as A B HA.out HB.out _ EAB.out u)) (fun K hK => ?_)
      go_simp
      refine hK _ ?_
      clear hK K
      cases eab with
      | false =>
        refine wg_value (by rfl) (.bool false) (fun u hu => by go_simp) (fun K hK => ?_)
        go_simp
        refine hK _ ?_
        clear hK K
        refine wg_value (by rfl) (.bool false) (fun u hu => by go_simp) (fun K hK => ?_)
        go_simp
        refine hK _ ?_
        clear hK K
        refine wg_arr_load (by rfl) .u64 24 _ rfl (k6.heap.size) rfl A KP8.out 4 22 Tryd.underlying24 (size_v HA.out) (fun K hK => ?_)
        go_simp
        refine hK _ ?_
        clear hK K
        refine wg_arr_load (by rfl) .u64 24 _ rfl (k9.heap.size) rfl B KP9.out 4 22 Tryd.underlying24 (size_v HB.out) (fun K hK => ?_)
        go_simp
        refine hK _ ?_
        clear hK K
        refine wg_call (by rfl) 22 Tryd.f22 Tryd.func22 rfl rfl _ _ rfl _ rfl (.bool false) (by exact KC1.out) (fun K hK => ?_)
        go_simp
        refine hK _ ?_
        clear hK K
        refine wg_value (by rfl) (.bool true) (fun u hu => by go_simp) (fun K hK => ?_)
        go_simp
        refine hK _ ?_
        clear hK K
        refine wg_value (by rfl) (.bool true) (fun u hu => by go_simp) (fun K hK => ?_)
        go_simp
        refine hK _ ?_
        clear hK K
        refine wg_value (by rfl) (.bool true) (fun u hu => by go_simp) (fun K hK => ?_)
        go_simp
        refine hK _ ?_
        clear hK K
        refine w_skip 44 false ((some true)) rfl rfl rfl (fun K hK => ?_)
        go_simp
        refine hK _ ?_
        clear hK K
        refine w_skip 44 false ((some true)) rfl rfl rfl (fun K hK => ?_)
        go_simp
        refine hK _ ?_
        clear hK K
        refine w_skip 44 false ((some true)) rfl rfl rfl (fun K hK => ?_)
        go_simp
        refine hK _ ?_
        clear hK K
        refine w_skip 44 false ((some true)) rfl rfl rfl (fun K hK => ?_)
        go_simp
        refine hK _ ?_
        clear hK K
        refine w_skip 44 false ((some true)) rfl rfl rfl (fun K hK => ?_)
        go_simp
        refine hK _ ?_
        clear hK K
        refine wg_value (by rfl) (.bool true) (fun u hu => by go_simp) (fun K hK => ?_)
        go_simp
        refine hK _ ?_
        clear hK K
        refine w_value rfl (.bool true) (fun u hu => by go_simp) (fun K hK => ?_)
        go_simp
        refine hK _ ?_
        clear hK K
        refine w_move rfl _ rfl (.bool true) rfl (fun K hK => ?_)
        go_simp
        refine hK _ ?_
        clear hK K
        refine wg_arr_load (by rfl) .u64 24 _ rfl (k6.heap.size) rfl A KP8.out 4 22 Tryd.underlying24 (size_v HA.out) (fun K hK => ?_)
        go_simp
        refine hK _ ?_
        clear hK K
        refine wg_arr_load (by rfl) .u64 24 _ rfl (k9.heap.size) rfl B KP9.out 4 22 Tryd.underlying24 (size_v HB.out) (fun K hK => ?_)
        go_simp
        refine hK _ ?_
        clear hK K
        refine wg_call (by rfl) 22 Tryd.f22 Tryd.func22 rfl rfl _ _ rfl _ rfl (.bool false) (by exact KC1.out) (fun K hK => ?_)
        go_simp
        refine hK _ ?_
        clear hK K
        refine wg_arr_load (by rfl) .u64 24 _ rfl (k6.heap.size) rfl A KP8.out 4 22 Tryd.underlying24 (size_v HA.out) (fun K hK => ?_)
        go_simp
        refine hK _ ?_
        clear hK K
        refine wg_arr_load (by rfl) .u64 24 _ rfl (k9.heap.size) rfl B KP9.out 4 22 Tryd.underlying24 (size_v HB.out) (fun K hK => ?_)
        go_simp
        refine hK _ ?_
        clear hK K
        refine wg_call (by rfl) 12 Tryd.f12 Tryd.func12 rfl rfl _ _ rfl _ rfl (AV .u64 (V.join A B)) (by exact KC2.out) (fun K hK => ?_)
        go_simp
        refine hK _ ?_
        clear hK K
        refine wg_arr_load (by rfl) .u64 24 _ rfl (k9.heap.size) rfl B KP9.out 4 22 Tryd.underlying24 (size_v HB.out) (fun K hK => ?_)
        go_simp
        refine hK _ ?_
        clear hK K
        refine wg_value (by rfl) (.bool false) (fun u _ => run_eql u .eql 24 24 _ _ (AV .u64 (V.join A B)) (AV .u64 B) _ rfl rfl rfl (guard_v _ _ _ _ u) (eql_as (V.join A B) B (V.join_length HA.out HB.out) HB.out _ HJB.out u)) (fun K hK => ?_)
        go_simp
        refine hK _ ?_
        clear hK K
        refine wg_value (by rfl) (.bool true) (fun u hu => by go_simp) (fun K hK => ?_)
        go_simp
        refine hK _ ?_
        clear hK K
        refine w_value rfl (.bool true) (fun u hu => by go_simp) (fun K hK => ?_)
        go_simp
        refine hK _ ?_
        clear hK K
        refine w_move rfl _ rfl (.bool true) rfl (fun K hK => ?_)
        go_simp
        refine hK _ ?_
        clear hK K
        refine wg_value (by rfl) (.agg #[.int .u64 0, .int .u64 0, .int .u64 0, .int .u64 0]) (fun u hu => by go_simp) (fun K hK => ?_)
        go_simp
        refine hK _ ?_
        clear hK K
        refine wg_arr_load (by rfl) .u64 24 _ rfl (k6.heap.size) rfl A KP8.out 4 22 Tryd.underlying24 (size_v HA.out) (fun K hK => ?_)
        go_simp
        refine hK _ ?_
        clear hK K
        refine wg_call (by rfl) 22 Tryd.f22 Tryd.func22 rfl rfl _ _ rfl _ rfl (.bool true) (by exact KC3.out) (fun K hK => ?_)
        go_simp
        refine hK _ ?_
        clear hK K
        refine w_value rfl (.bool true) (fun u hu => by go_simp) (fun K hK => ?_)
        go_simp
        refine hK _ ?_
        clear hK K
        refine w_assign rfl _ rfl (.bool true) rfl (fun K hK => ?_)
        go_simp
        refine hK _ ?_
        clear hK K
        refine w_nil ?_
        intro u hu
        have HW9 : Hid (Below w.heap.size w u) := (Kept.below N3.out hu).under
        clear hu
        go_wp2_with fail
        go_ret
        exact ⟨rfl, HW9.out⟩
      | true =>
        refine wg_value (by rfl) (.bool true) (fun u hu => by go_simp) (fun K hK => ?_)
        go_simp
        refine hK _ ?_
        clear hK K
        refine wg_value (by rfl) (.bool true) (fun u hu => by go_simp) (fun K hK => ?_)
        go_simp
        refine hK _ ?_
        clear hK K
        refine w_skip 38 false ((some true)) rfl rfl rfl (fun K hK => ?_)
        go_simp
        refine hK _ ?_
        clear hK K
        refine w_skip 38 false ((some true)) rfl rfl rfl (fun K hK => ?_)
        go_simp
        refine hK _ ?_
        clear hK K
        refine w_skip 38 false ((some true)) rfl rfl rfl (fun K hK => ?_)
        go_simp
        refine hK _ ?_
        clear hK K
        refine w_skip 38 false ((some true)) rfl rfl rfl (fun K hK => ?_)
        go_simp
        refine hK _ ?_
        clear hK K
        refine wg_value (by rfl) (.bool true) (fun u hu => by go_simp) (fun K hK => ?_)
        go_simp
        refine hK _ ?_
        clear hK K
        refine wg_value (by rfl) (.bool true) (fun u hu => by go_simp) (fun K hK => ?_)
        go_simp
        refine hK _ ?_
        clear hK K
        refine w_skip 44 false ((some true)) rfl rfl rfl (fun K hK => ?_)
        go_simp
        refine hK _ ?_
        clear hK K
        refine w_skip 44 false ((some true)) rfl rfl rfl (fun K hK => ?_)
        go_simp
        refine hK _ ?_
        clear hK K
        refine w_skip 44 false ((some true)) rfl rfl rfl (fun K hK => ?_)
        go_simp
        refine hK _ ?_
        clear hK K
        refine w_skip 44 false ((some true)) rfl rfl rfl (fun K hK => ?_)
        go_simp
        refine hK _ ?_
        clear hK K
        refine w_skip 44 false ((some true)) rfl rfl rfl (fun K hK => ?_)
        go_simp
        refine hK _ ?_
        clear hK K
        refine wg_value (by rfl) (.bool true) (fun u hu => by go_simp) (fun K hK => ?_)
        go_simp
        refine hK _ ?_
        clear hK K
        refine w_value rfl (.bool true) (fun u hu => by go_simp) (fun K hK => ?_)
        go_simp
        refine hK _ ?_
        clear hK K
        refine w_move rfl _ rfl (.bool true) rfl (fun K hK => ?_)
        go_simp
        refine hK _ ?_
        clear hK K
        refine wg_arr_load (by rfl) .u64 24 _ rfl (k6.heap.size) rfl A KP8.out 4 22 Tryd.underlying24 (size_v HA.out) (fun K hK => ?_)
        go_simp
        refine hK _ ?_
        clear hK K
        refine wg_arr_load (by rfl) .u64 24 _ rfl (k9.heap.size) rfl B KP9.out 4 22 Tryd.underlying24 (size_v HB.out) (fun K hK => ?_)
        go_simp
        refine hK _ ?_
        clear hK K
        refine wg_call (by rfl) 22 Tryd.f22 Tryd.func22 rfl rfl _ _ rfl _ rfl (.bool false) (by exact KC1.out) (fun K hK => ?_)
        go_simp
        refine hK _ ?_
        clear hK K
        refine wg_arr_load (by rfl) .u64 24 _ rfl (k6.heap.size) rfl A KP8.out 4 22 Tryd.underlying24 (size_v HA.out) (fun K hK => ?_)
        go_simp
        refine hK _ ?_
        clear hK K
        refine wg_arr_load (by rfl) .u64 24 _ rfl (k9.heap.size) rfl B KP9.out 4 22 Tryd.underlying24 (size_v HB.out) (fun K hK => ?_)
        go_simp
        refine hK _ ?_
        clear hK K
        refine wg_call (by rfl) 12 Tryd.f12 Tryd.func12 rfl rfl _ _ rfl _ rfl (AV .u64 (V.join A B)) (by exact KC2.out) (fun K hK => ?_)
        go_simp
        refine hK _ ?_
        clear hK K
        refine wg_arr_load (by rfl) .u64 24 _ rfl (k9.heap.size) rfl B KP9.out 4 22 Tryd.underlying24 (size_v HB.out) (fun K hK => ?_)
        go_simp
        refine hK _ ?_
        clear hK K
        refine wg_value (by rfl) (.bool false) (fun u _ => run_eql u .eql 24 24 _ _ (AV .u64 (V.join A B)) (AV .u64 B) _ rfl rfl rfl (guard_v _ _ _ _ u) (eql_as (V.join A B) B (V.join_length HA.out HB.out) HB.out _ HJB.out u)) (fun K hK => ?_)
        go_simp
        refine hK _ ?_
        clear hK K
        refine wg_value (by rfl) (.bool true) (fun u hu => by go_simp) (fun K hK => ?_)
        go_simp
        refine hK _ ?_
        clear hK K
        refine w_value rfl (.bool true) (fun u hu => by go_simp) (fun K hK => ?_)
        go_simp
        refine hK _ ?_
        clear hK K
        refine w_move rfl _ rfl (.bool true) rfl (fun K hK => ?_)
        go_simp
        refine hK _ ?_
        clear hK K
        refine wg_value (by rfl) (.agg #[.int .u64 0, .int .u64 0, .int .u64 0, .int .u64 0]) (fun u hu => by go_simp) (fun K hK => ?_)
        go_simp
        refine hK _ ?_
        clear hK K
        refine wg_arr_load (by rfl) .u64 24 _ rfl (k6.heap.size) rfl A KP8.out 4 22 Tryd.underlying24 (size_v HA.out) (fun K hK => ?_)
        go_simp
        refine hK _ ?_
        clear hK K
        refine wg_call (by rfl) 22 Tryd.f22 Tryd.func22 rfl rfl _ _ rfl _ rfl (.bool true) (by exact KC3.out) (fun K hK => ?_)
        go_simp
        refine hK _ ?_
        clear hK K
        refine w_value rfl (.bool true) (fun u hu => by go_simp) (fun K hK => ?_)
        go_simp
        refine hK _ ?_
        clear hK K
        refine w_assign rfl _ rfl (.bool true) rfl (fun K hK => ?_)
        go_simp
        refine hK _ ?_
        clear hK K
        refine w_nil ?_
        intro u hu
        have HW9 : Hid (Below w.heap.size w u) := (Kept.below N3.out hu).under
        clear hu
        go_wp2_with fail
        go_ret
        exact ⟨rfl, HW9.out⟩
  | true =>
    refine wg_value (by rfl) (.bool false) (fun u hu => by go_simp) (fun K hK => ?_)
    go_simp
    refine hK _ ?_
    clear hK K
    refine wg_value (by rfl) (.bool false) (fun u hu => by go_simp) (fun K hK => ?_)
    go_simp
    refine hK _ ?_
    clear hK K
    refine wg_arr_load (by rfl) .u64 24 _ rfl (k9.heap.size) rfl B KP9.out 4 22 Tryd.underlying24 (size_v HB.out) (fun K hK => ?_)
    go_simp
    refine hK _ ?_
    clear hK K
    refine wg_arr_load (by rfl) .u64 24 _ rfl (k12.heap.size) rfl C KP10.out 4 22 Tryd.underlying24 (size_v HC.out) (fun K hK => ?_)
    go_simp
    refine hK _ ?_
    clear hK K
    refine wg_call (by rfl) 22 Tryd.f22 Tryd.func22 rfl rfl _ _ rfl _ rfl (.bool lbc) (by exact KC4.out) (fun K hK => ?_)
    go_simp
    refine hK _ ?_
    clear hK K
    cases lbc with
    | false =>
      refine wg_value (by rfl) (.bool true) (fun u hu => by go_simp) (fun K hK => ?_)
      go_simp
      refine hK _ ?_
      clear hK K
      refine wg_value (by rfl) (.bool true) (fun u hu => by go_simp) (fun K hK => ?_)
      go_simp
      refine hK _ ?_
      clear hK K
      refine wg_value (by rfl) (.bool true) (fun u hu => by go_simp) (fun K hK => ?_)
      go_simp
      refine hK _ ?_
      clear hK K
      refine w_skip 24 false ((some true)) rfl rfl rfl (fun K hK => ?_)
      go_simp
      refine hK _ ?_
      clear hK K
      refine w_skip 24 false ((some true)) rfl rfl rfl (fun K hK => ?_)
      go_simp
      refine hK _ ?_
      clear hK K
      refine w_skip 24 false ((some true)) rfl rfl rfl (fun K hK => ?_)
      go_simp
      refine hK _ ?_
      clear hK K
      refine wg_value (by rfl) (.bool true) (fun u hu => by go_simp) (fun K hK => ?_)
      go_simp
      refine hK _ ?_
      clear hK K
      refine w_value rfl (.bool true) (fun u hu => by go_simp) (fun K hK => ?_)
      go_simp
      refine hK _ ?_
      clear hK K
      refine w_move rfl _ rfl (.bool true) rfl (fun K hK => ?_)
      go_simp
      refine hK _ ?_
      clear hK K
      refine wg_value (by rfl) (.bool rr) (fun u hu => by go_simp) (fun K hK => ?_)
      go_simp
      refine hK _ ?_
      clear hK K
      cases rr with
      | false =>
        refine wg_value (by rfl) (.bool true) (fun u hu => by go_simp) (fun K hK => ?_)
        go_simp
        refine hK _ ?_
        clear hK K
        refine wg_value (by rfl) (.bool true) (fun u hu => by go_simp) (fun K hK => ?_)
        go_simp
        refine hK _ ?_
        clear hK K
        refine w_skip 33 false ((some true)) rfl rfl rfl (fun K hK => ?_)
        go_simp
        refine hK _ ?_
        clear hK K
        refine w_skip 33 false ((some true)) rfl rfl rfl (fun K hK => ?_)
        go_simp
        refine hK _ ?_
        clear hK K
        refine w_skip 33 false ((some true)) rfl rfl rfl (fun K hK => ?_)
        go_simp
        refine hK _ ?_
        clear hK K
        refine wg_value (by rfl) (.bool true) (fun u hu => by go_simp) (fun K hK => ?_)
        go_simp
        refine hK _ ?_
        clear hK K
        refine wg_value (by rfl) (.bool true) (fun u hu => by go_simp) (fun K hK => ?_)
        go_simp
        refine hK _ ?_
        clear hK K
        refine w_skip 38 false ((some true)) rfl rfl rfl (fun K hK => ?_)
        go_simp
        refine hK _ ?_
        clear hK K
        refine w_skip 38 false ((some true)) rfl rfl rfl (fun K hK => ?_)
        go_simp
        refine hK _ ?_
        clear hK K
        refine w_skip 38 false ((some true)) rfl rfl rfl (fun K hK => ?_)
        go_simp
        refine hK _ ?_
        clear hK K
        refine w_skip 38 false ((some true)) rfl rfl rfl (fun K hK => ?_)
        go_simp
        refine hK _ ?_
        clear hK K
        refine wg_value (by rfl) (.bool true) (fun u hu => by go_simp) (fun K hK => ?_)
        go_simp
        refine hK _ ?_
        clear hK K
        refine wg_value (by rfl) (.bool true) (fun u hu => by go_simp) (fun K hK => ?_)
        go_simp
        refine hK _ ?_
        clear hK K
        refine w_skip 44 false ((some true)) rfl rfl rfl (fun K hK => ?_)
        go_simp
        refine hK _ ?_
        clear hK K
        refine w_skip 44 false ((some true)) rfl rfl rfl (fun K hK => ?_)
        go_simp
        refine hK _ ?_
        clear hK K
        refine w_skip 44 false ((some true)) rfl rfl rfl (fun K hK => ?_)
        go_simp
        refine hK _ ?_
        clear hK K
        refine w_skip 44 false ((some true)) rfl rfl rfl (fun K hK => ?_)
        go_simp
        refine hK _ ?_
        clear hK K
        refine w_skip 44 false ((some true)) rfl rfl rfl (fun K hK => ?_)
        go_simp
        refine hK _ ?_
        clear hK K
        refine wg_value (by rfl) (.bool true) (fun u hu => by go_simp) (fun K hK => ?_)
        go_simp
        refine hK _ ?_
        clear hK K
        refine w_value rfl (.bool true) (fun u hu => by go_simp) (fun K hK => ?_)
        go_simp
        refine hK _ ?_
        clear hK K
        refine w_move rfl _ rfl (.bool true) rfl (fun K hK => ?_)
        go_simp
        refine hK _ ?_
        clear hK K
        refine wg_arr_load (by rfl) .u64 24 _ rfl (k6.heap.size) rfl A KP8.out 4 22 Tryd.underlying24 (size_v HA.out) (fun K hK => ?_)
        go_simp
        refine hK _ ?_
        clear hK K
        refine wg_arr_load (by rfl) .u64 24 _ rfl (k9.heap.size) rfl B KP9.out 4 22 Tryd.underlying24 (size_v HB.out) (fun K hK => ?_)
        go_simp
        refine hK _ ?_
        clear hK K
        refine wg_call (by rfl) 22 Tryd.f22 Tryd.func22 rfl rfl _ _ rfl _ rfl (.bool true) (by exact KC1.out) (fun K hK => ?_)
        go_simp
        refine hK _ ?_
        clear hK K
        refine wg_arr_load (by rfl) .u64 24 _ rfl (k6.heap.size) rfl A KP8.out 4 22 Tryd.underlying24 (size_v HA.out) (fun K hK => ?_)
        go_simp
        refine hK _ ?_
        clear hK K
        refine wg_arr_load (by rfl) .u64 24 _ rfl (k9.heap.size) rfl B KP9.out 4 22 Tryd.underlying24 (size_v HB.out) (fun K hK => ?_)
        go_simp
        refine hK _ ?_
        clear hK K
        refine wg_call (by rfl) 12 Tryd.f12 Tryd.func12 rfl rfl _ _ rfl _ rfl (AV .u64 (V.join A B)) (by exact KC2.out) (fun K hK => ?_)
        go_simp
        refine hK _ ?_
        clear hK K
        refine wg_arr_load (by rfl) .u64 24 _ rfl (k9.heap.size) rfl B KP9.out 4 22 Tryd.underlying24 (size_v HB.out) (fun K hK => ?_)
        go_simp
        refine hK _ ?_
        clear hK K
        refine wg_value (by rfl) (.bool true) (fun u _ => run_eql u .eql 24 24 _ _ (AV .u64 (V.join A B)) (AV .u64 B) _ rfl rfl rfl (guard_v _ _ _ _ u) (eql_as (V.join A B) B (V.join_length HA.out HB.out) HB.out _ HJB.out u)) (fun K hK => ?_)
        go_simp
        refine hK _ ?_
        clear hK K
        refine wg_value (by rfl) (.bool true) (fun u hu => by go_simp) (fun K hK => ?_)
        go_simp
        refine hK _ ?_
        clear hK K
        refine w_value rfl (.bool true) (fun u hu => by go_simp) (fun K hK => ?_)
        go_simp
        refine hK _ ?_
        clear hK K
        refine w_move rfl _ rfl (.bool true) rfl (fun K hK => ?_)
        go_simp
        refine hK _ ?_
        clear hK K
        refine wg_value (by rfl) (.agg #[.int .u64 0, .int .u64 0, .int .u64 0, .int .u64 0]) (fun u hu => by go_simp) (fun K hK => ?_)
        go_simp
        refine hK _ ?_
        clear hK K
        refine wg_arr_load (by rfl) .u64 24 _ rfl (k6.heap.size) rfl A KP8.out 4 22 Tryd.underlying24 (size_v HA.out) (fun K hK => ?_)
        go_simp
        refine hK _ ?_
        clear hK K
        refine wg_call (by rfl) 22 Tryd.f22 Tryd.func22 rfl rfl _ _ rfl _ rfl (.bool true) (by exact KC3.out) (fun K hK => ?_)
        go_simp
        refine hK _ ?_
        clear hK K
        refine w_value rfl (.bool true) (fun u hu => by go_simp) (fun K hK => ?_)
        go_simp
        refine hK _ ?_
        clear hK K
        refine w_assign rfl _ rfl (.bool true) rfl (fun K hK => ?_)
        go_simp
        refine hK _ ?_
        clear hK K
        refine w_nil ?_
        intro u hu
        have HW9 : Hid (Below w.heap.size w u) := (Kept.below N3.out hu).under
        clear hu
        go_wp2_with fail
        go_ret
        exact ⟨rfl, HW9.out⟩
      | true =>
        refine wg_value (by rfl) (.bool false) (fun u hu => by go_simp) (fun K hK => ?_)
        go_simp
        refine hK _ ?_
        clear hK K
        refine wg_value (by rfl) (.bool false) (fun u hu => by go_simp) (fun K hK => ?_)
        go_simp
        refine hK _ ?_
        clear hK K
        refine wg_arr_load (by rfl) .u64 24 _ rfl (k6.heap.size) rfl A KP8.out 4 22 Tryd.underlying24 (size_v HA.out) (fun K hK => ?_)
        go_simp
        refine hK _ ?_
        clear hK K
        refine wg_arr_load (by rfl) .u64 24 _ rfl (k9.heap.size) rfl B KP9.out 4 22 Tryd.underlying24 (size_v HB.out) (fun K hK => ?_)
        go_simp
        refine hK _ ?_
        clear hK K
        refine wg_value (by rfl) (.bool eab) (fun u _ => run_eql u .eql 24 24 _ _ (AV .u64 A) (AV .u64 B) _ rfl rfl rfl (guard_v _ _ _ _ u) (eql_as A B HA.out HB.out _ EAB.out u)) (fun K hK => ?_)
        go_simp
        refine hK _ ?_
        clear hK K
        cases eab with
        | false =>
          refine wg_value (by rfl) (.bool false) (fun u hu => by go_simp) (fun K hK => ?_)
          go_simp
          refine hK _ ?_
          clear hK K
          refine wg_value (by rfl) (.bool false) (fun u hu => by go_simp) (fun K hK => ?_)
          go_simp
          refine hK _ ?_
          clear hK K
          refine wg_arr_load (by rfl) .u64 24 _ rfl (k6.heap.size) rfl A KP8.out 4 22 Tryd.underlying24 (size_v HA.out) (fun K hK => ?_)
          go_simp
          refine hK _ ?_
          clear hK K
          refine wg_arr_load (by rfl) .u64 24 _ rfl (k9.heap.size) rfl B KP9.out 4 22 Tryd.underlying24 (size_v HB.out) (fun K hK => ?_)
          go_simp
          refine hK _ ?_
          clear hK K
          refine wg_call (by rfl) 22 Tryd.f22 Tryd.func22 rfl rfl _ _ rfl _ rfl (.bool true) (by exact KC1.out) (fun K hK => ?_)
          go_simp
          refine hK _ ?_
          clear hK K
          refine wg_value (by rfl) (.bool false) (fun u hu => by go_simp) (fun K hK => ?_)
          go_simp
          refine hK _ ?_
          clear hK K
          refine wg_value (by rfl) (.bool false) (fun u hu => by go_simp) (fun K hK => ?_)
          go_simp
          refine hK _ ?_
          clear hK K
          refine wg_value (by rfl) (.bool false) (fun u hu => by go_simp) (fun K hK => ?_)
          go_simp
          refine hK _ ?_
          clear hK K
          refine wg_arr_load (by rfl) .u64 24 _ rfl (k6.heap.size) rfl A KP8.out 4 22 Tryd.underlying24 (size_v HA.out) (fun K hK => ?_)
          go_simp
          refine hK _ ?_
          clear hK K
          refine wg_call (by rfl) 26 Tryd.f26 Tryd.func26 rfl rfl _ _ rfl _ rfl (.int .u64 (sA : Nat)) (by exact KC5.out) (fun K hK => ?_)
          go_simp
          refine hK _ ?_
          clear hK K
          refine wg_arr_load (by rfl) .u64 24 _ rfl (k9.heap.size) rfl B KP9.out 4 22 Tryd.underlying24 (size_v HB.out) (fun K hK => ?_)
          go_simp
          refine hK _ ?_
          clear hK K
          refine wg_call (by rfl) 26 Tryd.f26 Tryd.func26 rfl rfl _ _ rfl _ rfl (.int .u64 (sB : Nat)) (by exact KC6.out) (fun K hK => ?_)
          go_simp
          refine hK _ ?_
          clear hK K
          refine wg_value (by rfl) (.bool true) (fun u hu => by have hs := HSL.out rfl rfl rfl; go_simp) (fun K hK => ?_)
          go_simp
          refine hK _ ?_
          clear hK K
          refine wg_value (by rfl) (.bool true) (fun u hu => by go_simp) (fun K hK => ?_)
          go_simp
          refine hK _ ?_
          clear hK K
          refine w_value rfl (.bool true) (fun u hu => by go_simp) (fun K hK => ?_)
          go_simp
          refine hK _ ?_
          clear hK K
          refine w_move rfl _ rfl (.bool true) rfl (fun K hK => ?_)
          go_simp
          refine hK _ ?_
          clear hK K
          refine wg_arr_load (by rfl) .u64 24 _ rfl (k6.heap.size) rfl A KP8.out 4 22 Tryd.underlying24 (size_v HA.out) (fun K hK => ?_)
          go_simp
          refine hK _ ?_
          clear hK K
          refine wg_arr_load (by rfl) .u64 24 _ rfl (k9.heap.size) rfl B KP9.out 4 22 Tryd.underlying24 (size_v HB.out) (fun K hK => ?_)
          go_simp
          refine hK _ ?_
          clear hK K
          refine wg_call (by rfl) 22 Tryd.f22 Tryd.func22 rfl rfl _ _ rfl _ rfl (.bool true) (by exact KC1.out) (fun K hK => ?_)
          go_simp
          refine hK _ ?_
          clear hK K
          refine wg_arr_load (by rfl) .u64 24 _ rfl (k6.heap.size) rfl A KP8.out 4 22 Tryd.underlying24 (size_v HA.out) (fun K hK => ?_)
          go_simp
          refine hK _ ?_
          clear hK K
          refine wg_arr_load (by rfl) .u64 24 _ rfl (k9.heap.size) rfl B KP9.out 4 22 Tryd.underlying24 (size_v HB.out) (fun K hK => ?_)
          go_simp
          refine hK _ ?_
          clear hK K
          refine wg_call (by rfl) 12 Tryd.f12 Tryd.func12 rfl rfl _ _ rfl _ rfl (AV .u64 (V.join A B)) (by exact KC2.out) (fun K hK => ?_)
          go_simp
          refine hK _ ?_
          clear hK K
          refine wg_arr_load (by rfl) .u64 24 _ rfl (k9.heap.size) rfl B KP9.out 4 22 Tryd.underlying24 (size_v HB.out) (fun K hK => ?_)
          go_simp
          refine hK _ ?_
          clear hK K
          refine wg_value (by rfl) (.bool true) (fun u _ => run_eql u .eql 24 24 _ _ (AV .u64 (V.join A B)) (AV .u64 B) _ rfl rfl rfl (guard_v _ _ _ _ u) (eql_as (V.join A B) B (V.join_length HA.out HB.out) HB.out _ HJB.out u)) (fun K hK => ?_)
          go_simp
          refine hK _ ?_
          clear hK K
          refine wg_value (by rfl) (.bool true) (fun u hu => by go_simp) (fun K hK => ?_)
          go_simp
          refine hK _ ?_
          clear hK K
          refine w_value rfl (.bool true) (fun u hu => by go_simp) (fun K hK => ?_)
          go_simp
          refine hK _ ?_
          clear hK K
          refine w_move rfl _ rfl (.bool true) rfl (fun K hK => ?_)
          go_simp
          refine hK _ ?_
          clear hK K
          refine wg_value (by rfl) (.agg #[.int .u64 0, .int .u64 0, .int .u64 0, .int .u64 0]) (fun u hu => by go_simp) (fun K hK => ?_)
          go_simp
          refine hK _ ?_
          clear hK K
          refine wg_arr_load (by rfl) .u64 24 _ rfl (k6.heap.size) rfl A KP8.out 4 22 Tryd.underlying24 (size_v HA.out) (fun K hK => ?_)
          go_simp
          refine hK _ ?_
          clear hK K
          refine wg_call (by rfl) 22 Tryd.f22 Tryd.func22 rfl rfl _ _ rfl _ rfl (.bool true) (by exact KC3.out) (fun K hK => ?_)
          go_simp
          refine hK _ ?_
          clear hK K
          refine w_value rfl (.bool true) (fun u hu => by go_simp) (fun K hK => ?_)
          go_simp
          refine hK _ ?_
          clear hK K
          refine w_assign rfl _ rfl (.bool true) rfl (fun K hK => ?_)
          go_simp
          refine hK _ ?_
          clear hK K
          refine w_nil ?_
          intro u hu
          have HW9 : Hid (Below w.heap.size w u) := (Kept.below N3.out hu).under
          clear hu
          go_wp2_with fail
          go_ret
          exact ⟨rfl, HW9.out⟩
        | true =>
          refine wg_value (by rfl) (.bool true) (fun u hu => by go_simp) (fun K hK => ?_)
          go_simp
          refine hK _ ?_
          clear hK K
          refine wg_value (by rfl) (.bool true) (fun u hu => by go_simp) (fun K hK => ?_)
          go_simp
          refine hK _ ?_
          clear hK K
          refine w_skip 38 false ((some true)) rfl rfl rfl (fun K hK => ?_)
          go_simp
          refine hK _ ?_
          clear hK K
          refine w_skip 38 false ((some true)) rfl rfl rfl (fun K hK => ?_)
          go_simp
          refine hK _ ?_
          clear hK K
          refine w_skip 38 false ((some true)) rfl rfl rfl (fun K hK => ?_)
          go_simp
          refine hK _ ?_
          clear hK K
          refine w_skip 38 false ((some true)) rfl rfl rfl (fun K hK => ?_)
          go_simp
          refine hK _ ?_
          clear hK K
          refine wg_value (by rfl) (.bool true) (fun u hu => by go_simp) (fun K hK => ?_)
          go_simp
          refine hK _ ?_
          clear hK K
          refine wg_value (by rfl) (.bool true) (fun u hu => by go_simp) (fun K hK => ?_)
          go_simp
          refine hK _ ?_
          clear hK K
          refine w_skip 44 false ((some true)) rfl rfl rfl (fun K hK => ?_)
          go_simp
          refine hK _ ?_
          clear hK K
          refine w_skip 44 false ((some true)) rfl rfl rfl (fun K hK => ?_)
          go_simp
          refine hK _ ?_
          clear hK K
          refine w_skip 44 false ((some true)) rfl rfl rfl (fun K hK => ?_)
          go_simp
          refine hK _ ?_
          clear hK K
          refine w_skip 44 false ((some true)) rfl rfl rfl (fun K hK => ?_)
          go_simp
          refine hK _ ?_
          clear hK K
          refine w_skip 44 false ((some true)) rfl rfl rfl (fun K hK => ?_)
          go_simp
          refine hK _ ?_
          clear hK K
          refine wg_value (by rfl) (.bool true) (fun u hu => by go_simp) (fun K hK => ?_)
          go_simp
          refine hK _ ?_
          clear hK K
          refine w_value rfl (.bool true) (fun u hu => by go_simp) (fun K hK => ?_)
          go_simp
          refine hK _ ?_
          clear hK K
          refine w_move rfl _ rfl (.bool true) rfl (fun K hK => ?_)
          go_simp
          refine hK _ ?_
          clear hK K
          refine wg_arr_load (by rfl) .u64 24 _ rfl (k6.heap.size) rfl A KP8.out 4 22 Tryd.underlying24 (size_v HA.out) (fun K hK => ?_)
          go_simp
          refine hK _ ?_
          clear hK K
          refine wg_arr_load (by rfl) .u64 24 _ rfl (k9.heap.size) rfl B KP9.out 4 22 Tryd.underlying24 (size_v HB.out) (fun K hK => ?_)
          go_simp
          refine hK _ ?_
          clear hK K
          refine wg_call (by rfl) 22 Tryd.f22 Tryd.func22 rfl rfl _ _ rfl _ rfl (.bool true) (by exact KC1.out) (fun K hK => ?_)
          go_simp
          refine hK _ ?_
          clear hK K
          refine wg_arr_load (by rfl) .u64 24 _ rfl (k6.heap.size) rfl A KP8.out 4 22 Tryd.underlying24 (size_v HA.out) (fun K hK => ?_)
          go_simp
          refine hK _ ?_
          clear hK K
          refine wg_arr_load (by rfl) .u64 24 _ rfl (k9.heap.size) rfl B KP9.out 4 22 Tryd.underlying24 (size_v HB.out) (fun K hK => ?_)
          go_simp
          refine hK _ ?_
          clear hK K
          refine wg_call (by rfl) 12 Tryd.f12 Tryd.func12 rfl rfl _ _ rfl _ rfl (AV .u64 (V.join A B)) (by exact KC2.out) (fun K hK => ?_)
          go_simp
          refine hK _ ?_
          clear hK K
          refine wg_arr_load (by rfl) .u64 24 _ rfl (k9.heap.size) rfl B KP9.out 4 22 Tryd.underlying24 (size_v HB.out) (fun K hK => ?_)
          go_simp
          refine hK _ ?_
          clear hK K
          refine wg_value (by rfl) (.bool true) (fun u _ => run_eql u .eql 24 24 _ _ (AV .u64 (V.join A B)) (AV .u64 B) _ rfl rfl rfl (guard_v _ _ _ _ u) (eql_as (V.join A B) B (V.join_length HA.out HB.out) HB.out _ HJB.out u)) (fun K hK => ?_)
          go_simp
          refine hK _ ?_
          clear hK K
          refine wg_value (by rfl) (.bool true) (fun u hu => by go_simp) (fun K hK => ?_)
          go_simp
          refine hK _ ?_
          clear hK K
          refine w_value rfl (.bool true) (fun u hu => by go_simp) (fun K hK => ?_)
          go_simp
          refine hK _ ?_
          clear hK K
          refine w_move rfl _ rfl (.bool true) rfl (fun K hK => ?_)
          go_simp
          refine hK _ ?_
          clear hK K
          refine wg_value (by rfl) (.agg #[.int .u64 0, .int .u64 0, .int .u64 0, .int .u64 0]) (fun u hu => by go_simp) (fun K hK => ?_)
          go_simp
          refine hK _ ?_
          clear hK K
          refine wg_arr_load (by rfl) .u64 24 _ rfl (k6.heap.size) rfl A KP8.out 4 22 Tryd.underlying24 (size_v HA.out) (fun K hK => ?_)
          go_simp
          refine hK _ ?_
          clear hK K
          refine wg_call (by rfl) 22 Tryd.f22 Tryd.func22 rfl rfl _ _ rfl _ rfl (.bool true) (by exact KC3.out) (fun K hK => ?_)
          go_simp
          refine hK _ ?_
          clear hK K
          refine w_value rfl (.bool true) (fun u hu => by go_simp) (fun K hK => ?_)
          go_simp
          refine hK _ ?_
          clear hK K
          refine w_assign rfl _ rfl (.bool true) rfl (fun K hK => ?_)
          go_simp
          refine hK _ ?_
          clear hK K
          refine w_nil ?_
          intro u hu
          have HW9 : Hid (Below w.heap.size w u) := (Kept.below N3.out hu).under
          clear hu
          go_wp2_with fail
          go_ret
          exact ⟨rfl, HW9.out⟩
    | true =>
      refine wg_value (by rfl) (.bool false) (fun u hu => by go_simp) (fun K hK => ?_)
      go_simp
      refine hK _ ?_
      clear hK K
      refine wg_value (by rfl) (.bool false) (fun u hu => by go_simp) (fun K hK => ?_)
      go_simp
      refine hK _ ?_
      clear hK K
      refine wg_value (by rfl) (.bool false) (fun u hu => by go_simp) (fun K hK => ?_)
      go_simp
      refine hK _ ?_
      clear hK K
      refine wg_arr_load (by rfl) .u64 24 _ rfl (k6.heap.size) rfl A KP8.out 4 22 Tryd.underlying24 (size_v HA.out) (fun K hK => ?_)
      go_simp
      refine hK _ ?_
      clear hK K
      refine wg_arr_load (by rfl) .u64 24 _ rfl (k12.heap.size) rfl C KP10.out 4 22 Tryd.underlying24 (size_v HC.out) (fun K hK => ?_)
      go_simp
      refine hK _ ?_
      clear hK K
      refine wg_call (by rfl) 22 Tryd.f22 Tryd.func22 rfl rfl _ _ rfl _ rfl (.bool true) (by exact (KAC.out rfl rfl)) (fun K hK => ?_)
      go_simp
      refine hK _ ?_
      clear hK K
      refine wg_value (by rfl) (.bool true) (fun u hu => by go_simp) (fun K hK => ?_)
      go_simp
      refine hK _ ?_
      clear hK K
      refine w_value rfl (.bool true) (fun u hu => by go_simp) (fun K hK => ?_)
      go_simp
      refine hK _ ?_
      clear hK K
      refine w_move rfl _ rfl (.bool true) rfl (fun K hK => ?_)
      go_simp
      refine hK _ ?_
      clear hK K
      refine wg_value (by rfl) (.bool rr) (fun u hu => by go_simp) (fun K hK => ?_)
      go_simp
      refine hK _ ?_
      clear hK K
      cases rr with
      | false =>
        refine wg_value (by rfl) (.bool true) (fun u hu => by go_simp) (fun K hK => ?_)
        go_simp
        refine hK _ ?_
        clear hK K
        refine wg_value (by rfl) (.bool true) (fun u hu => by go_simp) (fun K hK => ?_)
        go_simp
        refine hK _ ?_
        clear hK K
        refine w_skip 33 false ((some true)) rfl rfl rfl (fun K hK => ?_)
        go_simp
        refine hK _ ?_
        clear hK K
        refine w_skip 33 false ((some true)) rfl rfl rfl (fun K hK => ?_)
        go_simp
        refine hK _ ?_
        clear hK K
        refine w_skip 33 false ((some true)) rfl rfl rfl (fun K hK => ?_)
        go_simp
        refine hK _ ?_
        clear hK K
        refine wg_value (by rfl) (.bool true) (fun u hu => by go_simp) (fun K hK => ?_)
        go_simp
        refine hK _ ?_
        clear hK K
        refine wg_value (by rfl) (.bool true) (fun u hu => by go_simp) (fun K hK => ?_)
        go_simp
        refine hK _ ?_
        clear hK K
        refine w_skip 38 false ((some true)) rfl rfl rfl (fun K hK => ?_)
        go_simp
        refine hK _ ?_
        clear hK K
        refine w_skip 38 false ((some true)) rfl rfl rfl (fun K hK => ?_)
        go_simp
        refine hK _ ?_
        clear hK K
        refine w_skip 38 false ((some true)) rfl rfl rfl (fun K hK => ?_)
        go_simp
        refine hK _ ?_
        clear hK K
        refine w_skip 38 false ((some true)) rfl rfl rfl (fun K hK => ?_)
        go_simp
        refine hK _ ?_
        clear hK K
        refine wg_value (by rfl) (.bool true) (fun u hu => by go_simp) (fun K hK => ?_)
        go_simp
        refine hK _ ?_
        clear hK K
        refine wg_value (by rfl) (.bool true) (fun u hu => by go_simp) (fun K hK => ?_)
        go_simp
        refine hK _ ?_
        clear hK K
        refine w_skip 44 false ((some true)) rfl rfl rfl (fun K hK => ?_)
        go_simp
        refine hK _ ?_
        clear hK K
        refine w_skip 44 false ((some true)) rfl rfl rfl (fun K hK => ?_)
        go_simp
        refine hK _ ?_
        clear hK K
        refine w_skip 44 false ((some true)) rfl rfl rfl (fun K hK => ?_)
        go_simp
        refine hK _ ?_
        clear hK K
        refine w_skip 44 false ((some true)) rfl rfl rfl (fun K hK => ?_)
        go_simp
        refine hK _ ?_
        clear hK K
        refine w_skip 44 false ((some true)) rfl rfl rfl (fun K hK => ?_)
        go_simp
        refine hK _ ?_
        clear hK K
        refine wg_value (by rfl) (.bool true) (fun u hu => by go_simp) (fun K hK => ?_)
        go_simp
        refine hK _ ?_
        clear hK K
        refine w_value rfl (.bool true) (fun u hu => by go_simp) (fun K hK => ?_)
        go_simp
        refine hK _ ?_
        clear hK K
        refine w_move rfl _ rfl (.bool true) rfl (fun K hK => ?_)
        go_simp
        refine hK _ ?_
        clear hK K
        refine wg_arr_load (by rfl) .u64 24 _ rfl (k6.heap.size) rfl A KP8.out 4 22 Tryd.underlying24 (size_v HA.out) (fun K hK => ?_)
        go_simp
        refine hK _ ?_
        clear hK K
        refine wg_arr_load (by rfl) .u64 24 _ rfl (k9.heap.size) rfl B KP9.out 4 22 Tryd.underlying24 (size_v HB.out) (fun K hK => ?_)
        go_simp
        refine hK _ ?_
        clear hK K
        refine wg_call (by rfl) 22 Tryd.f22 Tryd.func22 rfl rfl _ _ rfl _ rfl (.bool true) (by exact KC1.out) (fun K hK => ?_)
        go_simp
        refine hK _ ?_
        clear hK K
        refine wg_arr_load (by rfl) .u64 24 _ rfl (k6.heap.size) rfl A KP8.out 4 22 Tryd.underlying24 (size_v HA.out) (fun K hK => ?_)
        go_simp
        refine hK _ ?_
        clear hK K
        refine wg_arr_load (by rfl) .u64 24 _ rfl (k9.heap.size) rfl B KP9.out 4 22 Tryd.underlying24 (size_v HB.out) (fun K hK => ?_)
        go_simp
        refine hK _ ?_
        clear hK K
        refine wg_call (by rfl) 12 Tryd.f12 Tryd.func12 rfl rfl _ _ rfl _ rfl (AV .u64 (V.join A B)) (by exact KC2.out) (fun K hK => ?_)
        go_simp
        refine hK _ ?_
        clear hK K
        refine wg_arr_load (by rfl) .u64 24 _ rfl (k9.heap.size) rfl B KP9.out 4 22 Tryd.underlying24 (size_v HB.out) (fun K hK => ?_)
        go_simp
        refine hK _ ?_
        clear hK K
        refine wg_value (by rfl) (.bool true) (fun u _ => run_eql u .eql 24 24 _ _ (AV .u64 (V.join A B)) (AV .u64 B) _ rfl rfl rfl (guard_v _ _ _ _ u) (eql_as (V.join A B) B (V.join_length HA.out HB.out) HB.out _ HJB.out u)) (fun K hK => ?_)
        go_simp
        refine hK _ ?_
        clear hK K
        refine wg_value (by rfl) (.bool true) (fun u hu => by go_simp) (fun K hK => ?_)
        go_simp
        refine hK _ ?_
        clear hK K
        refine w_value rfl (.bool true) (fun u hu => by go_simp) (fun K hK => ?_)
        go_simp
        refine hK _ ?_
        clear hK K
        refine w_move rfl _ rfl (.bool true) rfl (fun K hK => ?_)
        go_simp
        refine hK _ ?_
        clear hK K
        refine wg_value (by rfl) (.agg #[.int .u64 0, .int .u64 0, .int .u64 0, .int .u64 0]) (fun u hu => by go_simp) (fun K hK => ?_)
        go_simp
        refine hK _ ?_
        clear hK K
        refine wg_arr_load (by rfl) .u64 24 _ rfl (k6.heap.size) rfl A KP8.out 4 22 Tryd.underlying24 (size_v HA.out) (fun K hK => ?_)
        go_simp
        refine hK _ ?_
        clear hK K
        refine wg_call (by rfl) 22 Tryd.f22 Tryd.func22 rfl rfl _ _ rfl _ rfl (.bool true) (by exact KC3.out) (fun K hK => ?_)
        go_simp
        refine hK _ ?_
        clear hK K
        refine w_value rfl (.bool true) (fun u hu => by go_simp) (fun K hK => ?_)
        go_simp
        refine hK _ ?_
        clear hK K
        refine w_assign rfl _ rfl (.bool true) rfl (fun K hK => ?_)
        go_simp
        refine hK _ ?_
        clear hK K
        refine w_nil ?_
        intro u hu
        have HW9 : Hid (Below w.heap.size w u) := (Kept.below N3.out hu).under
        clear hu
        go_wp2_with fail
        go_ret
        exact ⟨rfl, HW9.out⟩
      | true =>
        refine wg_value (by rfl) (.bool false) (fun u hu => by go_simp) (fun K hK => ?_)
        go_simp
        refine hK _ ?_
        clear hK K
        refine wg_value (by rfl) (.bool false) (fun u hu => by go_simp) (fun K hK => ?_)
        go_simp
        refine hK _ ?_
        clear hK K
        refine wg_arr_load (by rfl) .u64 24 _ rfl (k6.heap.size) rfl A KP8.out 4 22 Tryd.underlying24 (size_v HA.out) (fun K hK => ?_)
        go_simp
        refine hK _ ?_
        clear hK K
        refine wg_arr_load (by rfl) .u64 24 _ rfl (k9.heap.size) rfl B KP9.out 4 22 Tryd.underlying24 (size_v HB.out) (fun K hK => ?_)
        go_simp
        refine hK _ ?_
        clear hK K
        refine wg_value (by rfl) (.bool eab) (fun u _ => run_eql u .eql 24 24 _ _ (AV .u64 A) (AV .u64 B) _ rfl rfl rfl (guard_v _ _ _ _ u) (eql_as A B HA.out HB.out _ EAB.out u)) (fun K hK => ?_)
        go_simp
        refine hK _ ?_
        clear hK K
        cases eab with
        | false =>
          refine wg_value (by rfl) (.bool false) (fun u hu => by go_simp) (fun K hK => ?_)
          go_simp
          refine hK _ ?_
          clear hK K
          refine wg_value (by rfl) (.bool false) (fun u hu => by go_simp) (fun K hK => ?_)
          go_simp
          refine hK _ ?_
          clear hK K
          refine wg_arr_load (by rfl) .u64 24 _ rfl (k6.heap.size) rfl A KP8.out 4 22 Tryd.underlying24 (size_v HA.out) (fun K hK => ?_)
          go_simp
          refine hK _ ?_
          clear hK K
          refine wg_arr_load (by rfl) .u64 24 _ rfl (k9.heap.size) rfl B KP9.out 4 22 Tryd.underlying24 (size_v HB.out) (fun K hK => ?_)
          go_simp
          refine hK _ ?_
          clear hK K
          refine wg_call (by rfl) 22 Tryd.f22 Tryd.func22 rfl rfl _ _ rfl _ rfl (.bool true) (by exact KC1.out) (fun K hK => ?_)
          go_simp
          refine hK _ ?_
          clear hK K
          refine wg_value (by rfl) (.bool false) (fun u hu => by go_simp) (fun K hK => ?_)
          go_simp
          refine hK _ ?_
          clear hK K
          refine wg_value (by rfl) (.bool false) (fun u hu => by go_simp) (fun K hK => ?_)
          go_simp
          refine hK _ ?_
          clear hK K
          refine wg_value (by rfl) (.bool false) (fun u hu => by go_simp) (fun K hK => ?_)
          go_simp
          refine hK _ ?_
          clear hK K
          refine wg_arr_load (by rfl) .u64 24 _ rfl (k6.heap.size) rfl A KP8.out 4 22 Tryd.underlying24 (size_v HA.out) (fun K hK => ?_)
          go_simp
          refine hK _ ?_
          clear hK K
          refine wg_call (by rfl) 26 Tryd.f26 Tryd.func26 rfl rfl _ _ rfl _ rfl (.int .u64 (sA : Nat)) (by exact KC5.out) (fun K hK => ?_)
          go_simp
          refine hK _ ?_
          clear hK K
          refine wg_arr_load (by rfl) .u64 24 _ rfl (k9.heap.size) rfl B KP9.out 4 22 Tryd.underlying24 (size_v HB.out) (fun K hK => ?_)
          go_simp
          refine hK _ ?_
          clear hK K
          refine wg_call (by rfl) 26 Tryd.f26 Tryd.func26 rfl rfl _ _ rfl _ rfl (.int .u64 (sB : Nat)) (by exact KC6.out) (fun K hK => ?_)
          go_simp
          refine hK _ ?_
          clear hK K
          refine wg_value (by rfl) (.bool true) (fun u hu => by have hs := HSL.out rfl rfl rfl; go_simp) (fun K hK => ?_)
          go_simp
          refine hK _ ?_
          clear hK K
          refine wg_value (by rfl) (.bool true) (fun u hu => by go_simp) (fun K hK => ?_)
          go_simp
          refine hK _ ?_
          clear hK K
          refine w_value rfl (.bool true) (fun u hu => by go_simp) (fun K hK => ?_)
          go_simp
          refine hK _ ?_
          clear hK K
          refine w_move rfl _ rfl (.bool true) rfl (fun K hK => ?_)
          go_simp
          refine hK _ ?_
          clear hK K
          refine wg_arr_load (by rfl) .u64 24 _ rfl (k6.heap.size) rfl A KP8.out 4 22 Tryd.underlying24 (size_v HA.out) (fun K hK => ?_)
          go_simp
          refine hK _ ?_
          clear hK K
          refine wg_arr_load (by rfl) .u64 24 _ rfl (k9.heap.size) rfl B KP9.out 4 22 Tryd.underlying24 (size_v HB.out) (fun K hK => ?_)
          go_simp
          refine hK _ ?_
          clear hK K
          refine wg_call (by rfl) 22 Tryd.f22 Tryd.func22 rfl rfl _ _ rfl _ rfl (.bool true) (by exact KC1.out) (fun K hK => ?_)
          go_simp
          refine hK _ ?_
          clear hK K
          refine wg_arr_load (by rfl) .u64 24 _ rfl (k6.heap.size) rfl A KP8.out 4 22 Tryd.underlying24 (size_v HA.out) (fun K hK => ?_)
          go_simp
          refine hK _ ?_
          clear hK K
          refine wg_arr_load (by rfl) .u64 24 _ rfl (k9.heap.size) rfl B KP9.out 4 22 Tryd.underlying24 (size_v HB.out) (fun K hK => ?_)
          go_simp
          refine hK _ ?_
          clear hK K
          refine wg_call (by rfl) 12 Tryd.f12 Tryd.func12 rfl rfl _ _ rfl _ rfl (AV .u64 (V.join A B)) (by exact KC2.out) (fun K hK => ?_)
          go_simp
          refine hK _ ?_
          clear hK K
          refine wg_arr_load (by rfl) .u64 24 _ rfl (k9.heap.size) rfl B KP9.out 4 22 Tryd.underlying24 (size_v HB.out) (fun K hK => ?_)
          go_simp
          refine hK _ ?_
          clear hK K
          refine wg_value (by rfl) (.bool true) (fun u _ => run_eql u .eql 24 24 _ _ (AV .u64 (V.join A B)) (AV .u64 B) _ rfl rfl rfl (guard_v _ _ _ _ u) (eql_as (V.join A B) B (V.join_length HA.out HB.out) HB.out _ HJB.out u)) (fun K hK => ?_)
          go_simp
          refine hK _ ?_
          clear hK K
          refine wg_value (by rfl) (.bool true) (fun u hu => by go_simp) (fun K hK => ?_)
          go_simp
          refine hK _ ?_
          clear hK K
          refine w_value rfl (.bool true) (fun u hu => by go_simp) (fun K hK => ?_)
          go_simp
          refine hK _ ?_
          clear hK K
          refine w_move rfl _ rfl (.bool true) rfl (fun K hK => ?_)
          go_simp
          refine hK _ ?_
          clear hK K
          refine wg_value (by rfl) (.agg #[.int .u64 0, .int .u64 0, .int .u64 0, .int .u64 0]) (fun u hu => by go_simp) (fun K hK => ?_)
          go_simp
          refine hK _ ?_
          clear hK K
          refine wg_arr_load (by rfl) .u64 24 _ rfl (k6.heap.size) rfl A KP8.out 4 22 Tryd.underlying24 (size_v HA.out) (fun K hK => ?_)
          go_simp
          refine hK _ ?_
          clear hK K
          refine wg_call (by rfl) 22 Tryd.f22 Tryd.func22 rfl rfl _ _ rfl _ rfl (.bool true) (by exact KC3.out) (fun K hK => ?_)
          go_simp
          refine hK _ ?_
          clear hK K
          refine w_value rfl (.bool true) (fun u hu => by go_simp) (fun K hK => ?_)
          go_simp
          refine hK _ ?_
          clear hK K
          refine w_assign rfl _ rfl (.bool true) rfl (fun K hK => ?_)
          go_simp
          refine hK _ ?_
          clear hK K
          refine w_nil ?_
          intro u hu
          have HW9 : Hid (Below w.heap.size w u) := (Kept.below N3.out hu).under
          clear hu
          go_wp2_with fail
          go_ret
          exact ⟨rfl, HW9.out⟩
        | true =>
          refine wg_value (by rfl) (.bool true) (fun u hu => by go_simp) (fun K hK => ?_)
          go_simp
          refine hK _ ?_
          clear hK K
          refine wg_value (by rfl) (.bool true) (fun u hu => by go_simp) (fun K hK => ?_)
          go_simp
          refine hK _ ?_
          clear hK K
          refine w_skip 38 false ((some true)) rfl rfl rfl (fun K hK => ?_)
          go_simp
          refine hK _ ?_
          clear hK K
          refine w_skip 38 false ((some true)) rfl rfl rfl (fun K hK => ?_)
          go_simp
          refine hK _ ?_
          clear hK K
          refine w_skip 38 false ((some true)) rfl rfl rfl (fun K hK => ?_)
          go_simp
          refine hK _ ?_
          clear hK K
          refine w_skip 38 false ((some true)) rfl rfl rfl (fun K hK => ?_)
          go_simp
          refine hK _ ?_
          clear hK K
          refine wg_value (by rfl) (.bool true) (fun u hu => by go_simp) (fun K hK => ?_)
          go_simp
          refine hK _ ?_
          clear hK K
          refine wg_value (by rfl) (.bool true) (fun u hu => by go_simp) (fun K hK => ?_)
          go_simp
          refine hK _ ?_
          clear hK K
          refine w_skip 44 false ((some true)) rfl rfl rfl (fun K hK => ?_)
          go_simp
          refine hK _ ?_
          clear hK K
          refine w_skip 44 false ((some true)) rfl rfl rfl (fun K hK => ?_)
          go_simp
          refine hK _ ?_
          clear hK K
          refine w_skip 44 false ((some true)) rfl rfl rfl (fun K hK => ?_)
          go_simp
          refine hK _ ?_
          clear hK K
          refine w_skip 44 false ((some true)) rfl rfl rfl (fun K hK => ?_)
          go_simp
          refine hK _ ?_
          clear hK K
          refine w_skip 44 false ((some true)) rfl rfl rfl (fun K hK => ?_)
          go_simp
          refine hK _ ?_
          clear hK K
          refine wg_value (by rfl) (.bool true) (fun u hu => by go_simp) (fun K hK => ?_)
          go_simp
          refine hK _ ?_
          clear hK K
          refine w_value rfl (.bool true) (fun u hu => by go_simp) (fun K hK => ?_)
          go_simp
          refine hK _ ?_
          clear hK K
          refine w_move rfl _ rfl (.bool true) rfl (fun K hK => ?_)
          go_simp
          refine hK _ ?_
          clear hK K
          refine wg_arr_load (by rfl) .u64 24 _ rfl (k6.heap.size) rfl A KP8.out 4 22 Tryd.underlying24 (size_v HA.out) (fun K hK => ?_)
          go_simp
          refine hK _ ?_
          clear hK K
          refine wg_arr_load (by rfl) .u64 24 _ rfl (k9.heap.size) rfl B KP9.out 4 22 Tryd.underlying24 (size_v HB.out) (fun K hK => ?_)
          go_simp
          refine hK _ ?_
          clear hK K
          refine wg_call (by rfl) 22 Tryd.f22 Tryd.func22 rfl rfl _ _ rfl _ rfl (.bool true) (by exact KC1.out) (fun K hK => ?_)
          go_simp
          refine hK _ ?_
          clear hK K
          refine wg_arr_load (by rfl) .u64 24 _ rfl (k6.heap.size) rfl A KP8.out 4 22 Tryd.underlying24 (size_v HA.out) (fun K hK => ?_)
          go_simp
          refine hK _ ?_
          clear hK K
          refine wg_arr_load (by rfl) .u64 24 _ rfl (k9.heap.size) rfl B KP9.out 4 22 Tryd.underlying24 (size_v HB.out) (fun K hK => ?_)
          go_simp
          refine hK _ ?_
          clear hK K
          refine wg_call (by rfl) 12 Tryd.f12 Tryd.func12 rfl rfl _ _ rfl _ rfl (AV .u64 (V.join A B)) (by exact KC2.out) (fun K hK => ?_)
          go_simp
          refine hK _ ?_
          clear hK K
          refine wg_arr_load (by rfl) .u64 24 _ rfl (k9.heap.size) rfl B KP9.out 4 22 Tryd.underlying24 (size_v HB.out) (fun K hK => ?_)
          go_simp
          refine hK _ ?_
          clear hK K
          refine wg_value (by rfl) (.bool true) (fun u _ => run_eql u .eql 24 24 _ _ (AV .u64 (V.join A B)) (AV .u64 B) _ rfl rfl rfl (guard_v _ _ _ _ u) (eql_as (V.join A B) B (V.join_length HA.out HB.out) HB.out _ HJB.out u)) (fun K hK => ?_)
          go_simp
          refine hK _ ?_
          clear hK K
          refine wg_value (by rfl) (.bool true) (fun u hu => by go_simp) (fun K hK => ?_)
          go_simp
          refine hK _ ?_
          clear hK K
          refine w_value rfl (.bool true) (fun u hu => by go_simp) (fun K hK => ?_)
          go_simp
          refine hK _ ?_
          clear hK K
          refine w_move rfl _ rfl (.bool true) rfl (fun K hK => ?_)
          go_simp
          refine hK _ ?_
          clear hK K
          refine wg_value (by rfl) (.agg #[.int .u64 0, .int .u64 0, .int .u64 0, .int .u64 0]) (fun u hu => by go_simp) (fun K hK => ?_)
          go_simp
          refine hK _ ?_
          clear hK K
          refine wg_arr_load (by rfl) .u64 24 _ rfl (k6.heap.size) rfl A KP8.out 4 22 Tryd.underlying24 (size_v HA.out) (fun K hK => ?_)
          go_simp
          refine hK _ ?_
          clear hK K
          refine wg_call (by rfl) 22 Tryd.f22 Tryd.func22 rfl rfl _ _ rfl _ rfl (.bool true) (by exact KC3.out) (fun K hK => ?_)
          go_simp
          refine hK _ ?_
          clear hK K
          refine w_value rfl (.bool true) (fun u hu => by go_simp) (fun K hK => ?_)
          go_simp
          refine hK _ ?_
          clear hK K
          refine w_assign rfl _ rfl (.bool true) rfl (fun K hK => ?_)
          go_simp
          refine hK _ ?_
          clear hK K
          refine w_nil ?_
          intro u hu
          have HW9 : Hid (Below w.heap.size w u) := (Kept.below N3.out hu).under
          clear hu
          go_wp2_with fail
          go_ret
          exact ⟨rfl, HW9.out⟩

set_option maxRecDepth 100000 in
theorem lifted (os : Os) (started : os.Started) (H : Type) (enc : TypeId × Value → H) (F : Stop.Interp) :
    ReturnsInHanded {} Tryd.checked os 6 .any ((OpenSpec.ofChange Rows.vecOrderSpec).preRow enc Tryd.prog Tryd.f6 Rows.vecOrderRow.domain false Rows.vecOrderRow.laid) (((OpenSpec.ofChange Rows.vecOrderSpec).at F).post enc Tryd.prog Tryd.f6 false true false false) := by
  have hx : ∃ places, DataW.whole enc Tryd.prog ((laidWorld os).forCall (fun _ _ => 0) ⟨#[], #[.agg #[.int .u64 0, .int .u64 0, .int .u64 0, .int .u64 0, .bool false], .agg #[.int .u64 0, .int .u64 0, .int .u64 0, .int .u64 0, .bool false], .agg #[.int .u64 0, .int .u64 0, .int .u64 0, .int .u64 0, .bool false]], []⟩).memory Tryd.f6.params.toList Rows.vecOrderSpec.vars false #[Value.agg #[.int .u64 0, .int .u64 0, .int .u64 0, .int .u64 0, .bool false], Value.agg #[.int .u64 0, .int .u64 0, .int .u64 0, .int .u64 0, .bool false], Value.agg #[.int .u64 0, .int .u64 0, .int .u64 0, .int .u64 0, .bool false]].toList 8 = some ([.agg [.agg [.lit (.int .u64 0), .lit (.int .u64 0), .lit (.int .u64 0), .lit (.int .u64 0)], .lit (.bool false)], .agg [.agg [.lit (.int .u64 0), .lit (.int .u64 0), .lit (.int .u64 0), .lit (.int .u64 0)], .lit (.bool false)], .agg [.agg [.lit (.int .u64 0), .lit (.int .u64 0), .lit (.int .u64 0), .lit (.int .u64 0)], .lit (.bool false)]], [], places) := ⟨[], by kernel_rfl⟩
  obtain ⟨places, hx⟩ := hx
  refine returnsInHanded_of_row (C := Tryd.checked) (s := OpenSpec.ofChange Rows.vecOrderSpec) own started (by kernel_rfl) Tryd.func6
    (witness_row_at (enc := enc) (C := Tryd.checked) false (laidWorld os) #[.agg #[.int .u64 0, .int .u64 0, .int .u64 0, .int .u64 0, .bool false], .agg #[.int .u64 0, .int .u64 0, .int .u64 0, .int .u64 0, .bool false], .agg #[.int .u64 0, .int .u64 0, .int .u64 0, .int .u64 0, .bool false]] rfl (by kernel_rfl) (by kernel_rfl) (by kernel_rfl)
      (OpenSpec.preRow_of_cond 8 hx (by kernel_rfl) (fun k hk => by cases hk) (by kernel_rfl) (laidMet_of_run' 8 (by kernel_rfl) (by kernel_rfl)))) ?_
  intro W base args ds gs before hval0 hW hcnd hcond hsz0 hL _ _
  have hT : Fm.Tab W := tab_of hL
  have hval : ∀ (j : Nat) t v, Tryd.f6.params[j]? = some t → args[j]? = some v → Value.okWide Tryd.prog W .any base t v := hval0
  have hW' := hW
  obtain ⟨p, q, hA0, hV, rfl, hfz, hnd⟩ := hW
  have hA : DataW.TrodAll enc Tryd.prog W 0 (fun _ => true) true Tryd.f6.params.toList args.toList ds p := hA0
  have hsz : (DataW.weightsEach Tryd.prog (Tryd.f6.params.toList ++ Rows.vecOrderSpec.plain.varTypes Tryd.prog) (ds ++ gs)).all (· ≤ reachBytes) = true := hsz0
  rw [Tryd.params6] at hA hval hsz
  obtain ⟨rfl, rfl⟩ := trodVars_none hV
  have hAk := hA
  have hlt : ∀ x ∈ p, x.block < W.heap.size := fun x hx => by simpa using hW'.lt x (List.mem_append.2 (.inl hx))
  obtain ⟨v0, vs0, d0, ds0, p0, q0, hargs, rfl, rfl, h0, r0⟩ := trodAll_cons hA
  obtain ⟨v1, vs1, d1, ds1, p1, q1, rfl, rfl, rfl, h1, r1⟩ := trodAll_cons r0
  obtain ⟨v2, vs2, d2, ds2, p2, q2, rfl, rfl, rfl, h2, r2⟩ := trodAll_cons r1
  obtain ⟨rfl, rfl, rfl⟩ := trodAll_nil r2
  obtain rfl : args = #[v0, v1, v2] := by cases args; simp_all
  obtain ⟨a0, o0, rfl, w0⟩ := open_vector (hval 0 26 v0 rfl rfl) h0
  obtain ⟨a1, o1, rfl, w1⟩ := open_vector (hval 1 26 v1 rfl rfl) h1
  obtain ⟨a2, o2, rfl, w2⟩ := open_vector (hval 2 26 v2 rfl rfl) h2
  clear hA0 hval0 hsz0
  refine (walk a0 o0 a1 o1 a2 o2 w0 w1 w2 W hT).mono fun e W' ⟨he, hg⟩ => ?_
  subst he
  exact ⟨_, rfl, _, _, _, [], _, [], hW', (trodAll_cons_mk (shut_bool Tryd.underlying4 _) trodAll_mk0), trodAll_below laidOut hg _ _ _ _ (by kernel_rfl) hAk hlt, rfl, hg.frame _, fun h => by cases h⟩

theorem over : Rows.vecOrderRow.holds Tryd.pinned (OpenSpec.ofChange Rows.vecOrderSpec) :=
  OpenClaim.holds_of_cond 6 Tryd.f6 rfl rfl rfl rfl rfl rfl rfl ⟨rfl, rfl, rfl, rfl, rfl⟩ rfl rfl rfl rfl rfl (by kernel_rfl) Tryd.func6 (by kernel_rfl)
    (of_decide_eq_true (by kernel_rfl)) (by unfold Func.isWrapper; first | (rw [if_pos (by decide +kernel)]; kernel_rfl) | (rw [if_neg (by decide +kernel)]; exact ⟨rfl, rfl⟩))
    (fun os started H enc _ F => by rw [OpenClaim.pre_eq_preRow]; exact lifted os started H enc F)

set_option maxRecDepth 100000 in
theorem plain (f : FuncId) (fn : Func) (hf : Tryd.pinned.checked.prog.funcNamed "tenement/tenementlaw06.VecOrder" = some f) (hfn : Tryd.pinned.checked.prog.funcs[f]? = some fn) :
    false = Tryd.pinned.checked.prog.looks [] ∧ ∀ (j : Nat) t, fn.params[j]? = some t → Tryd.pinned.checked.prog.wantsStandIn t = false := by
  obtain rfl : f = 6 := Option.some.inj ((show Tryd.prog.funcNamed "tenement/tenementlaw06.VecOrder" = some 6 by kernel_rfl).symm.trans hf) |>.symm
  obtain rfl : fn = Tryd.f6 := (Option.some.inj (Tryd.func6.symm.trans hfn)).symm
  refine ⟨by kernel_rfl, fun j t ht => ?_⟩
  rw [Tryd.params6] at ht
  have hm := Array.mem_of_getElem? ht
  simp only [List.mem_toArray, List.mem_cons, List.not_mem_nil, or_false] at hm
  rcases hm with rfl | rfl | rfl
  all_goals first | exact (show Tryd.prog.wantsStandIn 26 = false by kernel_rfl)

/-- the statement -/
theorem proved : Rows.VecOrderCardSaid :=
  Claim7.holds_tied_plain_at .later [] _ _ _ _ over (fun _ h => by cases h) (by kernel_rfl) (fun _ h => by cases h) vecOrder_row_tie rfl ⟨rfl, rfl⟩ (by kernel_rfl) rfl plain (by kernel_rfl)
#print axioms proved

end Go.Proofs.YtpdomhddjpfibaaDoor.vecOrder
