/-
  Stamps stand in one order: of two that are not the same one is over; it does not go round; what has seen another one is over it: true for every argument (the law StampOrder). No conditions.
-/
import Derived.Test.YtnmggefbajoadaaDoorFrameTab

import Derived.Test.YtnmggefbajoadaaDoorStampEx

import Derived.Test.YtnmggefbajoadaaDoorStampOf

import Derived.Test.YtnmggefbajoadaaDoorStampOrd

import Derived.Test.YtnmggefbajoadaaDoorFrameMark

namespace Go.Proofs.YtnmggefbajoadaaDoor.stampOrder

open Go.ChangeShapes Go.WideShapes Go.ChangeAt Go.RowKit

open Go.Proofs.YtnmggefbajoadaaDoor.Vc Go.Proofs.YtnmggefbajoadaaDoor.Sp

open Go.ChangeMaps (open_string shut_string)

set_option linter.unusedVariables false

set_option linter.unusedSimpArgs false

theorem neq_v (a b : List Nat) (ha : a.length = 4) (hb : b.length = 4) (w : World) :
    (binOp .neq 24 (AV .u64 a) (AV .u64 b)).run Tryd.prog w = .ok (.bool (!decide (a = b))) w := by
  have h := eq_v a b ha hb w
  have e : binOp .neq 24 (AV .u64 a) (AV .u64 b) = (do pure (.bool (!(← Op.equalIn 10000 24 (AV .u64 a) (AV .u64 b))))) := rfl
  rw [e]
  simp only [Sem.run_bind, h, Result.andThen_ok, Sem.run_pure]
theorem guard_nv (x y : Operand) (l m : List Nat) (w : World) : (eqGuard .neq 24 x y (AV .u64 l) (AV .u64 m)).run Tryd.prog w = .ok () w := by
  unfold AV
  simp [eqGuard, guardType_v]
set_option maxHeartbeats 16000000 in
set_option maxRecDepth 100000 in
theorem walk (a0 : List Nat) (d0 : Int) (o0 : Bool) (a1 : List Nat) (d1 : Int) (o1 : Bool) (a2 : List Nat) (d2 : Int) (o2 : Bool) (w0 : V.Ok a0 ∧ (Lit.int .i64 d0).wf = true) (w1 : V.Ok a1 ∧ (Lit.int .i64 d1).wf = true) (w2 : V.Ok a2 ∧ (Lit.int .i64 d2).wf = true) (w : World) (hT : Fm.Tab w) :
    Calls Tryd.prog 5 #[MV a0 d0 o0, MV a1 d1 o1, MV a2 d2 o2] w fun e w' => e = .returned (.bool true) ∧ Below w.heap.size w w' := by
  have CE := Lib.hid examples_any
  have CM0 := Lib.hid (fun w => mark_any a0 d0 true w w0.1 w0.2)
  have HL0 := Lib.hid w0.1.len
  obtain ⟨A, EA⟩ : ∃ r, Hid (T.markv a0 d0 = r) := ⟨_, rfl⟩
  obtain ⟨nA, NA⟩ : ∃ r, Hid (T.markd d0 = r) := ⟨_, rfl⟩
  have OA : Hid (V.Ok A) := by rw [← EA.out]; exact T.markv_ok HL0.out d0
  have HA : Hid (A.length = 4) := OA.out.len
  have RA : Hid (T.right A (nA : Int) = true) := by rw [← EA.out, ← NA.out]; exact T.mark_right HL0.out d0
  rw [show T.mark a0 d0 true = (T.markv a0 d0, (T.markd d0 : Int)) from rfl, EA.out, NA.out] at CM0
  have CM1 := Lib.hid (fun w => mark_any a1 d1 true w w1.1 w1.2)
  have HL1 := Lib.hid w1.1.len
  obtain ⟨B, EB⟩ : ∃ r, Hid (T.markv a1 d1 = r) := ⟨_, rfl⟩
  obtain ⟨nB, NB⟩ : ∃ r, Hid (T.markd d1 = r) := ⟨_, rfl⟩
  have OB : Hid (V.Ok B) := by rw [← EB.out]; exact T.markv_ok HL1.out d1
  have HB : Hid (B.length = 4) := OB.out.len
  have RB : Hid (T.right B (nB : Int) = true) := by rw [← EB.out, ← NB.out]; exact T.mark_right HL1.out d1
  rw [show T.mark a1 d1 true = (T.markv a1 d1, (T.markd d1 : Int)) from rfl, EB.out, NB.out] at CM1
  have CM2 := Lib.hid (fun w => mark_any a2 d2 true w w2.1 w2.2)
  have HL2 := Lib.hid w2.1.len
  obtain ⟨C, EC⟩ : ∃ r, Hid (T.markv a2 d2 = r) := ⟨_, rfl⟩
  obtain ⟨nC, NC⟩ : ∃ r, Hid (T.markd d2 = r) := ⟨_, rfl⟩
  have OC : Hid (V.Ok C) := by rw [← EC.out]; exact T.markv_ok HL2.out d2
  have HC : Hid (C.length = 4) := OC.out.len
  have RC : Hid (T.right C (nC : Int) = true) := by rw [← EC.out, ← NC.out]; exact T.mark_right HL2.out d2
  rw [show T.mark a2 d2 true = (T.markv a2 d2, (T.markd d2 : Int)) from rfl, EC.out, NC.out] at CM2
  have CO1 := Lib.hid (fun w => order_any A B (nA : Int) (nB : Int) w HA.out HB.out)
  have CO2 := Lib.hid (fun w => order_any B C (nB : Int) (nC : Int) w HB.out HC.out)
  have CO3 := Lib.hid (fun w => order_any A C (nA : Int) (nC : Int) w HA.out HC.out)
  have CS := Lib.hid (fun w => sseen_any A B (nA : Int) w HA.out HB.out)
  obtain ⟨x1, Q1⟩ : ∃ r, Hid (T.order A (nA : Int) B (nB : Int) = r) := ⟨_, rfl⟩
  obtain ⟨x2, Q2⟩ : ∃ r, Hid (T.order B (nB : Int) C (nC : Int) = r) := ⟨_, rfl⟩
  obtain ⟨x3, Q3⟩ : ∃ r, Hid (T.order A (nA : Int) C (nC : Int) = r) := ⟨_, rfl⟩
  obtain ⟨x4, Q4⟩ : ∃ r, Hid (T.order B (nB : Int) A (nA : Int) = r) := ⟨_, rfl⟩
  obtain ⟨q1, QS⟩ : ∃ r, Hid (V.leq A B = r) := ⟨_, rfl⟩
  obtain ⟨eab, QE⟩ : ∃ r, Hid (T.same A (nA : Int) B (nB : Int) = r) := ⟨_, rfl⟩
  rw [Q1.out] at CO1
  rw [Q2.out] at CO2
  rw [Q3.out] at CO3
  rw [QS.out] at CS
  obtain ⟨sn, HSN⟩ : ∃ r, Hid (r = (q1 && !decide (A = B))) := ⟨_, rfl⟩
  have HNQ : Hid (q1 = true → ∀ w, (binOp .neq 24 (AV .u64 A) (AV .u64 B)).run Tryd.prog w = .ok (.bool sn) w) := fun h w => by
    have h1 := neq_v A B HA.out HB.out w
    rw [HSN.out, h, Bool.true_and]
    exact h1
  have HR : Hid (x1 ≤ 0 → x2 ≤ 0 → x3 ≤ 0) := by
    rw [← Q1.out, ← Q2.out, ← Q3.out]
    exact order_tr A B C _ _ _ (by rw [HA.out, HB.out]) (by rw [HB.out, HC.out])
  have EN : Hid (IntKind.i64.wrap (-x4) = x1) := by
    have h1 := order_anti B A (nB : Int) (nA : Int) (by rw [HA.out, HB.out])
    rw [Q1.out, Q4.out] at h1
    have h2 := order_le B A (nB : Int) (nA : Int)
    rw [Q4.out] at h2
    show _ = _
    rw [wrapi (by omega) (by omega), h1]
  have EZ : Hid ((x1 == 0) = eab) := by show _ = _; rw [← Q1.out, ← QE.out]; exact order_zero A B _ _
  have EL : Hid (sn = true → x1 < 0) := fun h => by
    have h1 := HSN.out
    rw [h] at h1
    have h2 := h1.symm
    simp only [Bool.and_eq_true, Bool.not_eq_true', decide_eq_false_iff_not] at h2
    rw [← Q1.out]
    exact order_seen HA.out HB.out RA.out RB.out (QS.out.trans h2.1) h2.2
  have HEAB : Hid (∀ w, (binOp .eql 26 (SV A (nA : Int)) (SV B (nB : Int))).run Tryd.prog w = .ok (.bool eab) w) := fun w => by
    have h := eql_s A B (nA : Int) (nB : Int) HA.out HB.out w
    rw [QE.out] at h
    exact h
  have h3 := later_three A B C (nA : Int) (nB : Int) (nC : Int) HA.out HB.out HC.out
  have k1 := later_len (d := (nB : Int)) (e := (nC : Int)) HB.out HC.out
  have k3 := later_len (d := (nC : Int)) (e := (nA : Int)) HC.out HA.out
  obtain ⟨⟨l1, m1⟩, P1⟩ : ∃ r, Hid (T.later B (nB : Int) C (nC : Int) = r) := ⟨_, rfl⟩
  obtain ⟨⟨l3, m3⟩, P3⟩ : ∃ r, Hid (T.later C (nC : Int) A (nA : Int) = r) := ⟨_, rfl⟩
  rw [P1.out] at h3 k1
  rw [P3.out] at h3 k3
  have K1 : Hid (l1.length = 4) := k1
  have K3 : Hid (l3.length = 4) := k3
  have k2 := later_len (d := (nA : Int)) (e := m1) HA.out K1.out
  have k4 := later_len (d := m3) (e := (nB : Int)) K3.out HB.out
  obtain ⟨⟨l2, m2⟩, P2⟩ : ∃ r, Hid (T.later A (nA : Int) l1 m1 = r) := ⟨_, rfl⟩
  obtain ⟨⟨l4, m4⟩, P4⟩ : ∃ r, Hid (T.later l3 m3 B (nB : Int) = r) := ⟨_, rfl⟩
  rw [P2.out] at k2
  rw [P4.out] at k4
  have K2 : Hid (l2.length = 4) := k2
  have K4 : Hid (l4.length = 4) := k4
  have h3' : (l2, m2) = (l4, m4) := by rw [← P2.out, ← P4.out]; exact h3
  have HEL : Hid (∀ w, (binOp .eql 26 (SV l2 m2) (SV l4 m4)).run Tryd.prog w = .ok (.bool true) w) := fun w => by
    have h := eql_s l2 l4 m2 m4 K2.out K4.out w
    simp only [Prod.mk.injEq] at h3'
    rw [show T.same l2 m2 l4 m4 = true by simp [T.same, h3'.1, h3'.2]] at h
    exact h
  clear h3 h3' k1 k2 k3 k4 w0 w1 w2
  go_enter Tryd.func5, Tryd.ntmps5
  have M0 : Hid (Kept w w []) := Kept.start w
  go_wp2_with (first | refine blk_box rfl 28 _ rfl (ks .u64 a0 ++ [Value.int .i64 d0, Value.bool o0]) rfl ?_)
  intro k1 A1 B1 Z1
  have M2 : Hid (Kept w k1 [(w.heap.size, ks .u64 a0 ++ [Value.int .i64 d0, Value.bool o0])]) := Kept.new M0.out B1 Z1 A1
  clear A1 B1 M0
  go_wp2_with (first | refine blk_box rfl 28 _ rfl (ks .u64 a1 ++ [Value.int .i64 d1, Value.bool o1]) rfl ?_)
  intro k3 A3 B3 Z3
  have M4 : Hid (Kept w k3 [(w.heap.size + 1, ks .u64 a1 ++ [Value.int .i64 d1, Value.bool o1]), (w.heap.size, ks .u64 a0 ++ [Value.int .i64 d0, Value.bool o0])]) := Kept.newAt M2.out Z1 B3 Z3 A3
  clear A3 B3 M2
  go_wp2_with (first | refine blk_box rfl 28 _ rfl (ks .u64 a2 ++ [Value.int .i64 d2, Value.bool o2]) rfl ?_)
  intro k5 A5 B5 Z5
  have M6 : Hid (Kept w k5 [(w.heap.size + 2, ks .u64 a2 ++ [Value.int .i64 d2, Value.bool o2]), (w.heap.size + 1, ks .u64 a1 ++ [Value.int .i64 d1, Value.bool o1]), (w.heap.size, ks .u64 a0 ++ [Value.int .i64 d0, Value.bool o0])]) := Kept.newAt M4.out Z3 B5 Z5 A5
  clear A5 B5 M4
  go_wp2_with fail
  clear Z1 Z3 Z5
  refine (CE.out _).mono ?_; rintro e k7 ⟨rfl, hb7⟩
  have M8 : Hid (Kept w k7 [(w.heap.size + 2, ks .u64 a2 ++ [Value.int .i64 d2, Value.bool o2]), (w.heap.size + 1, ks .u64 a1 ++ [Value.int .i64 d1, Value.bool o1]), (w.heap.size, ks .u64 a0 ++ [Value.int .i64 d0, Value.bool o0])]) := Kept.below M6.out hb7
  clear hb7 M6
  obtain ⟨co9, fo9⟩ := own_at (Kept.get M8.out 2 rfl) HL0.out
  have HN9 := Lib.hid (own_set (Kept.get M8.out 2 rfl) HL0.out true)
  have M10 : Hid (Kept w (k7.setCell ⟨w.heap.size, 5, none⟩ (.bool true)) [(w.heap.size + 2, ks .u64 a2 ++ [Value.int .i64 d2, Value.bool o2]), (w.heap.size + 1, ks .u64 a1 ++ [Value.int .i64 d1, Value.bool o1]), (w.heap.size, ks .u64 a0 ++ [Value.int .i64 d0, Value.bool true])]) := Kept.updAt M8.out 2 rfl (by omega) (by simp; try omega) (Upd.setCell _ _ _ _) HN9.out
  clear HN9 M8
  obtain ⟨co11, fo11⟩ := own_at (Kept.get M10.out 1 rfl) HL1.out
  have HN11 := Lib.hid (own_set (Kept.get M10.out 1 rfl) HL1.out true)
  have M12 : Hid (Kept w ((k7.setCell ⟨w.heap.size, 5, none⟩ (.bool true)).setCell ⟨w.heap.size + 1, 5, none⟩ (.bool true)) [(w.heap.size + 2, ks .u64 a2 ++ [Value.int .i64 d2, Value.bool o2]), (w.heap.size + 1, ks .u64 a1 ++ [Value.int .i64 d1, Value.bool true]), (w.heap.size, ks .u64 a0 ++ [Value.int .i64 d0, Value.bool true])]) := Kept.updAt M10.out 1 rfl (by omega) (by simp; try omega) (Upd.setCell _ _ _ _) HN11.out
  clear HN11 M10
  obtain ⟨co13, fo13⟩ := own_at (Kept.get M12.out 0 rfl) HL2.out
  have HN13 := Lib.hid (own_set (Kept.get M12.out 0 rfl) HL2.out true)
  have M14 : Hid (Kept w (((k7.setCell ⟨w.heap.size, 5, none⟩ (.bool true)).setCell ⟨w.heap.size + 1, 5, none⟩ (.bool true)).setCell ⟨w.heap.size + 2, 5, none⟩ (.bool true)) [(w.heap.size + 2, ks .u64 a2 ++ [Value.int .i64 d2, Value.bool true]), (w.heap.size + 1, ks .u64 a1 ++ [Value.int .i64 d1, Value.bool true]), (w.heap.size, ks .u64 a0 ++ [Value.int .i64 d0, Value.bool true])]) := Kept.updAt M12.out 0 rfl (by omega) (by simp; try omega) (Upd.setCell _ _ _ _) HN13.out
  clear HN13 M12
  go_wp2_with (first | refine blk_load rfl 28 _ rfl (w.heap.size) rfl (ks .u64 a0 ++ [Value.int .i64 d0, Value.bool true]) (Kept.get M14.out 2 rfl) _ Tryd.underlying28 rfl (size_m HL0.out) ?_)
  clear co9 fo9 co11 fo11 co13 fo13
  refine (CM0.out _).mono ?_; rintro e k15 ⟨rfl, hb15⟩
  have M16 : Hid (Kept w k15 [(w.heap.size + 2, ks .u64 a2 ++ [Value.int .i64 d2, Value.bool true]), (w.heap.size + 1, ks .u64 a1 ++ [Value.int .i64 d1, Value.bool true]), (w.heap.size, ks .u64 a0 ++ [Value.int .i64 d0, Value.bool true])]) := Kept.below M14.out hb15
  clear hb15 M14
  go_wp2_with (first | refine blk_alloc rfl 26 (ks .u64 (List.replicate 4 0) ++ [Value.int .i64 0]) rfl Tryd.info_s ?_)
  intro k17 A17 B17 Z17
  go_wp2_with (first | refine blk_store rfl 26 _ _ rfl k15.heap.size rfl (ks .u64 A ++ [Value.int .i64 (nA : Int)]) rfl _ A17 (sv_len HA.out) (size_s HA.out) (one_sv _ _) ?_)
  intro k18 A18 U18
  have M19 : Hid (Kept w k18 [(k15.heap.size, ks .u64 A ++ [Value.int .i64 (nA : Int)]), (w.heap.size + 2, ks .u64 a2 ++ [Value.int .i64 d2, Value.bool true]), (w.heap.size + 1, ks .u64 a1 ++ [Value.int .i64 d1, Value.bool true]), (w.heap.size, ks .u64 a0 ++ [Value.int .i64 d0, Value.bool true])]) := Kept.fresh M16.out B17 Z17 U18 A18
  clear A17 B17 Z17 A18 U18 M16
  go_wp2_with (first | refine blk_load rfl 28 _ rfl (w.heap.size + 1) rfl (ks .u64 a1 ++ [Value.int .i64 d1, Value.bool true]) (Kept.get M19.out 2 rfl) _ Tryd.underlying28 rfl (size_m HL1.out) ?_)
  refine (CM1.out _).mono ?_; rintro e k20 ⟨rfl, hb20⟩
  have M21 : Hid (Kept w k20 [(k15.heap.size, ks .u64 A ++ [Value.int .i64 (nA : Int)]), (w.heap.size + 2, ks .u64 a2 ++ [Value.int .i64 d2, Value.bool true]), (w.heap.size + 1, ks .u64 a1 ++ [Value.int .i64 d1, Value.bool true]), (w.heap.size, ks .u64 a0 ++ [Value.int .i64 d0, Value.bool true])]) := Kept.below M19.out hb20
  clear hb20 M19
  go_wp2_with (first | refine blk_alloc rfl 26 (ks .u64 (List.replicate 4 0) ++ [Value.int .i64 0]) rfl Tryd.info_s ?_)
  intro k22 A22 B22 Z22
  go_wp2_with (first | refine blk_store rfl 26 _ _ rfl k20.heap.size rfl (ks .u64 B ++ [Value.int .i64 (nB : Int)]) rfl _ A22 (sv_len HB.out) (size_s HB.out) (one_sv _ _) ?_)
  intro k23 A23 U23
  have M24 : Hid (Kept w k23 [(k20.heap.size, ks .u64 B ++ [Value.int .i64 (nB : Int)]), (k15.heap.size, ks .u64 A ++ [Value.int .i64 (nA : Int)]), (w.heap.size + 2, ks .u64 a2 ++ [Value.int .i64 d2, Value.bool true]), (w.heap.size + 1, ks .u64 a1 ++ [Value.int .i64 d1, Value.bool true]), (w.heap.size, ks .u64 a0 ++ [Value.int .i64 d0, Value.bool true])]) := Kept.fresh M21.out B22 Z22 U23 A23
  clear A22 B22 Z22 A23 U23 M21
  go_wp2_with (first | refine blk_load rfl 28 _ rfl (w.heap.size + 2) rfl (ks .u64 a2 ++ [Value.int .i64 d2, Value.bool true]) (Kept.get M24.out 2 rfl) _ Tryd.underlying28 rfl (size_m HL2.out) ?_)
  refine (CM2.out _).mono ?_; rintro e k25 ⟨rfl, hb25⟩
  have M26 : Hid (Kept w k25 [(k20.heap.size, ks .u64 B ++ [Value.int .i64 (nB : Int)]), (k15.heap.size, ks .u64 A ++ [Value.int .i64 (nA : Int)]), (w.heap.size + 2, ks .u64 a2 ++ [Value.int .i64 d2, Value.bool true]), (w.heap.size + 1, ks .u64 a1 ++ [Value.int .i64 d1, Value.bool true]), (w.heap.size, ks .u64 a0 ++ [Value.int .i64 d0, Value.bool true])]) := Kept.below M24.out hb25
  clear hb25 M24
  go_wp2_with (first | refine blk_alloc rfl 26 (ks .u64 (List.replicate 4 0) ++ [Value.int .i64 0]) rfl Tryd.info_s ?_)
  intro k27 A27 B27 Z27
  go_wp2_with (first | refine blk_store rfl 26 _ _ rfl k25.heap.size rfl (ks .u64 C ++ [Value.int .i64 (nC : Int)]) rfl _ A27 (sv_len HC.out) (size_s HC.out) (one_sv _ _) ?_)
  intro k28 A28 U28
  have M29 : Hid (Kept w k28 [(k25.heap.size, ks .u64 C ++ [Value.int .i64 (nC : Int)]), (k20.heap.size, ks .u64 B ++ [Value.int .i64 (nB : Int)]), (k15.heap.size, ks .u64 A ++ [Value.int .i64 (nA : Int)]), (w.heap.size + 2, ks .u64 a2 ++ [Value.int .i64 d2, Value.bool true]), (w.heap.size + 1, ks .u64 a1 ++ [Value.int .i64 d1, Value.bool true]), (w.heap.size, ks .u64 a0 ++ [Value.int .i64 d0, Value.bool true])]) := Kept.fresh M26.out B27 Z27 U28 A28
  clear A27 B27 Z27 A28 U28 M26
  go_wp2_with (first | refine blk_load rfl 26 _ rfl (k15.heap.size) rfl (ks .u64 A ++ [Value.int .i64 (nA : Int)]) (Kept.get M29.out 2 rfl) _ Tryd.underlying26 rfl (size_s HA.out) ?_ | refine blk_load rfl 26 _ rfl (k20.heap.size) rfl (ks .u64 B ++ [Value.int .i64 (nB : Int)]) (Kept.get M29.out 1 rfl) _ Tryd.underlying26 rfl (size_s HB.out) ?_)
  refine (CO1.out _).mono ?_; rintro e k30 ⟨rfl, hb30⟩
  have M31 : Hid (Kept w k30 [(k25.heap.size, ks .u64 C ++ [Value.int .i64 (nC : Int)]), (k20.heap.size, ks .u64 B ++ [Value.int .i64 (nB : Int)]), (k15.heap.size, ks .u64 A ++ [Value.int .i64 (nA : Int)]), (w.heap.size + 2, ks .u64 a2 ++ [Value.int .i64 d2, Value.bool true]), (w.heap.size + 1, ks .u64 a1 ++ [Value.int .i64 d1, Value.bool true]), (w.heap.size, ks .u64 a0 ++ [Value.int .i64 d0, Value.bool true])]) := Kept.below M29.out hb30
  clear hb30 M29
  go_upto_region 11 with fail
  go_cut [12] (fun x wx => x = .bool false ∧ Hid (Kept w wx [(k25.heap.size, ks .u64 C ++ [Value.int .i64 (nC : Int)]), (k20.heap.size, ks .u64 B ++ [Value.int .i64 (nB : Int)]), (k15.heap.size, ks .u64 A ++ [Value.int .i64 (nA : Int)]), (w.heap.size + 2, ks .u64 a2 ++ [Value.int .i64 d2, Value.bool true]), (w.heap.size + 1, ks .u64 a1 ++ [Value.int .i64 d1, Value.bool true]), (w.heap.size, ks .u64 a0 ++ [Value.int .i64 d0, Value.bool true])]))
  case first =>
    by_cases h1 : x1 ≤ 0
    · have i1 : decide (x1 ≤ 0) = true := by simpa using h1
      go_wp2_with (first | refine blk_loadg rfl 26 _ rfl (k20.heap.size) rfl (ks .u64 B ++ [Value.int .i64 (nB : Int)]) (Kept.get M31.out 1 rfl) _ Tryd.underlying26 rfl (size_s HB.out) ?_ | refine blk_loadg rfl 26 _ rfl (k25.heap.size) rfl (ks .u64 C ++ [Value.int .i64 (nC : Int)]) (Kept.get M31.out 0 rfl) _ Tryd.underlying26 rfl (size_s HC.out) ?_)
      refine (CO2.out _).mono ?_; rintro e k32 ⟨rfl, hb32⟩
      have M33 : Hid (Kept w k32 [(k25.heap.size, ks .u64 C ++ [Value.int .i64 (nC : Int)]), (k20.heap.size, ks .u64 B ++ [Value.int .i64 (nB : Int)]), (k15.heap.size, ks .u64 A ++ [Value.int .i64 (nA : Int)]), (w.heap.size + 2, ks .u64 a2 ++ [Value.int .i64 d2, Value.bool true]), (w.heap.size + 1, ks .u64 a1 ++ [Value.int .i64 d1, Value.bool true]), (w.heap.size, ks .u64 a0 ++ [Value.int .i64 d0, Value.bool true])]) := Kept.below M31.out hb32
      clear hb32 M31
      by_cases h2 : x2 ≤ 0
      · have i2 : decide (x2 ≤ 0) = true := by simpa using h2
        have i3 : decide (0 < x3) = false := by have := HR.out h1 h2; simp; omega
        have i3' : ¬ 0 < x3 := by have := HR.out h1 h2; omega
        go_wp2_with (first | refine blk_loadg rfl 26 _ rfl (k15.heap.size) rfl (ks .u64 A ++ [Value.int .i64 (nA : Int)]) (Kept.get M33.out 2 rfl) _ Tryd.underlying26 rfl (size_s HA.out) ?_ | refine blk_loadg rfl 26 _ rfl (k25.heap.size) rfl (ks .u64 C ++ [Value.int .i64 (nC : Int)]) (Kept.get M33.out 0 rfl) _ Tryd.underlying26 rfl (size_s HC.out) ?_)
        refine (CO3.out _).mono ?_; rintro e k34 ⟨rfl, hb34⟩
        have M35 : Hid (Kept w k34 [(k25.heap.size, ks .u64 C ++ [Value.int .i64 (nC : Int)]), (k20.heap.size, ks .u64 B ++ [Value.int .i64 (nB : Int)]), (k15.heap.size, ks .u64 A ++ [Value.int .i64 (nA : Int)]), (w.heap.size + 2, ks .u64 a2 ++ [Value.int .i64 d2, Value.bool true]), (w.heap.size + 1, ks .u64 a1 ++ [Value.int .i64 d1, Value.bool true]), (w.heap.size, ks .u64 a0 ++ [Value.int .i64 d0, Value.bool true])]) := Kept.below M33.out hb34
        clear hb34 M33
        go_wp2_with fail
        go_meet
        exact ⟨rfl, M35⟩
      · have i2 : decide (x2 ≤ 0) = false := by simpa using h2
        go_wp2_with fail
        go_meet
        exact ⟨rfl, M33⟩
    · have i1 : decide (x1 ≤ 0) = false := by simpa using h1
      go_wp2_with fail
      go_meet
      exact ⟨rfl, M31⟩
  case rest =>
  obtain ⟨rfl, MX⟩ := hcut
  clear M31
  go_upto_region 12 with fail
  go_cut [13] (fun x wx => x = .bool sn ∧ Hid (Kept w wx [(k25.heap.size, ks .u64 C ++ [Value.int .i64 (nC : Int)]), (k20.heap.size, ks .u64 B ++ [Value.int .i64 (nB : Int)]), (k15.heap.size, ks .u64 A ++ [Value.int .i64 (nA : Int)]), (w.heap.size + 2, ks .u64 a2 ++ [Value.int .i64 d2, Value.bool true]), (w.heap.size + 1, ks .u64 a1 ++ [Value.int .i64 d1, Value.bool true]), (w.heap.size, ks .u64 a0 ++ [Value.int .i64 d0, Value.bool true])]))
  case first =>
    go_wp2_with (first | refine blk_load rfl 26 _ rfl (k15.heap.size) rfl (ks .u64 A ++ [Value.int .i64 (nA : Int)]) (Kept.get MX.out 2 rfl) _ Tryd.underlying26 rfl (size_s HA.out) ?_ | refine row_load rfl .u64 24 _ rfl (k20.heap.size) 0 rfl B (rowp (Kept.get MX.out 1 rfl)) 4 22 Tryd.underlying24 (size_v HB.out) ?_)
    refine (CS.out _).mono ?_; rintro e k32 ⟨rfl, hb32⟩
    have M33 : Hid (Kept w k32 [(k25.heap.size, ks .u64 C ++ [Value.int .i64 (nC : Int)]), (k20.heap.size, ks .u64 B ++ [Value.int .i64 (nB : Int)]), (k15.heap.size, ks .u64 A ++ [Value.int .i64 (nA : Int)]), (w.heap.size + 2, ks .u64 a2 ++ [Value.int .i64 d2, Value.bool true]), (w.heap.size + 1, ks .u64 a1 ++ [Value.int .i64 d1, Value.bool true]), (w.heap.size, ks .u64 a0 ++ [Value.int .i64 d0, Value.bool true])]) := Kept.below MX.out hb32
    clear hb32 MX
    cases q1 with
    | false =>
      obtain rfl : sn = false := by rw [HSN.out]; rfl
      go_wp2_with fail
      go_meet
      exact ⟨rfl, M33⟩
    | true =>
      have hg1 : ∀ x y w, (eqGuard .neq 24 x y (AV .u64 A) (AV .u64 B)).run Tryd.prog w = .ok () w := fun x y w => guard_nv x y A B w
      have hn1 := HNQ.out rfl
      go_wp2_with (first | refine row_loadg rfl .u64 24 _ rfl (k15.heap.size) 0 rfl A (rowp (Kept.get M33.out 2 rfl)) 4 22 Tryd.underlying24 (size_v HA.out) ?_ | refine row_loadg rfl .u64 24 _ rfl (k20.heap.size) 0 rfl B (rowp (Kept.get M33.out 1 rfl)) 4 22 Tryd.underlying24 (size_v HB.out) ?_)
      go_meet
      exact ⟨rfl, M33⟩
  case rest =>
  obtain ⟨rfl, MY⟩ := hcut
  clear MX
  go_wp2_with fail
  have KP8 : Hid (∀ u, Below wc.heap.size wc u → Blk u (k15.heap.size) (ks .u64 A ++ [Value.int .i64 (nA : Int)])) := fun u hu => (Kept.below MY.out hu).get 2 rfl
  have KP8r : Hid (∀ u, Below wc.heap.size wc u → u.rangeAt (k15.heap.size) 0 (ks .u64 A)) := fun u hu => rowp ((Kept.below MY.out hu).get 2 rfl)
  have KP8d : Hid (∀ u, Below wc.heap.size wc u → u.cell? ⟨k15.heap.size, 4, none⟩ = some (.int .i64 (nA : Int))) := fun u hu => dc_cell ((Kept.below MY.out hu).get 2 rfl) HA.out
  have KP9 : Hid (∀ u, Below wc.heap.size wc u → Blk u (k20.heap.size) (ks .u64 B ++ [Value.int .i64 (nB : Int)])) := fun u hu => (Kept.below MY.out hu).get 1 rfl
  have KP9r : Hid (∀ u, Below wc.heap.size wc u → u.rangeAt (k20.heap.size) 0 (ks .u64 B)) := fun u hu => rowp ((Kept.below MY.out hu).get 1 rfl)
  have KP9d : Hid (∀ u, Below wc.heap.size wc u → u.cell? ⟨k20.heap.size, 4, none⟩ = some (.int .i64 (nB : Int))) := fun u hu => dc_cell ((Kept.below MY.out hu).get 1 rfl) HB.out
  have KP10 : Hid (∀ u, Below wc.heap.size wc u → Blk u (k25.heap.size) (ks .u64 C ++ [Value.int .i64 (nC : Int)])) := fun u hu => (Kept.below MY.out hu).get 0 rfl
  have KP10r : Hid (∀ u, Below wc.heap.size wc u → u.rangeAt (k25.heap.size) 0 (ks .u64 C)) := fun u hu => rowp ((Kept.below MY.out hu).get 0 rfl)
  have KP10d : Hid (∀ u, Below wc.heap.size wc u → u.cell? ⟨k25.heap.size, 4, none⟩ = some (.int .i64 (nC : Int))) := fun u hu => dc_cell ((Kept.below MY.out hu).get 0 rfl) HC.out
  have KC0 : Hid (∀ u, Below wc.heap.size wc u → Calls Tryd.prog 21 [SV B (nB : Int), SV A (nA : Int)].toArray u fun e u' => e = .returned (.int .i64 x4) ∧ Below wc.heap.size wc u') := fun  u hu => Calls.more hu (by have h := order_any B A (nB : Int) (nA : Int) u HB.out HA.out; rw [Q4.out] at h; exact h)
  have KC1 : Hid (∀ u, Below wc.heap.size wc u → Calls Tryd.prog 15 [SV B (nB : Int), SV C (nC : Int)].toArray u fun e u' => e = .returned (SV l1 m1) ∧ Below wc.heap.size wc u') := fun  u hu => Calls.more hu (by have h := later_any B C (nB : Int) (nC : Int) u HB.out HC.out; rw [P1.out] at h; exact h)
  have KC2 : Hid (∀ u, Below wc.heap.size wc u → Calls Tryd.prog 15 [SV A (nA : Int), SV l1 m1].toArray u fun e u' => e = .returned (SV l2 m2) ∧ Below wc.heap.size wc u') := fun  u hu => Calls.more hu (by have h := later_any A l1 (nA : Int) m1 u HA.out K1.out; rw [P2.out] at h; exact h)
  have KC3 : Hid (∀ u, Below wc.heap.size wc u → Calls Tryd.prog 15 [SV C (nC : Int), SV A (nA : Int)].toArray u fun e u' => e = .returned (SV l3 m3) ∧ Below wc.heap.size wc u') := fun  u hu => Calls.more hu (by have h := later_any C A (nC : Int) (nA : Int) u HC.out HA.out; rw [P3.out] at h; exact h)
  have KC4 : Hid (∀ u, Below wc.heap.size wc u → Calls Tryd.prog 15 [SV l3 m3, SV B (nB : Int)].toArray u fun e u' => e = .returned (SV l4 m4) ∧ Below wc.heap.size wc u') := fun  u hu => Calls.more hu (by have h := later_any l3 B m3 (nB : Int) u K3.out HB.out; rw [P4.out] at h; exact h)
  refine region_w Tryd.mixed (by kernel_rfl) ?_
  refine w_move rfl _ rfl (.bool true) rfl (fun K hK => ?_)
  go_simp
  refine hK _ ?_
  clear hK K
  refine w_move rfl _ rfl (.bool true) rfl (fun K hK => ?_)
  go_simp
  refine hK _ ?_
  clear hK K
  refine wg_value (by rfl) (.int .i64 x1) (fun u hu => by go_simp) (fun K hK => ?_)
  go_simp
  refine hK _ ?_
  clear hK K
  refine wg_sv_load (by rfl) 26 _ rfl (k20.heap.size) rfl B (nB : Int) KP9.out _ Tryd.underlying26 rfl (size_s HB.out) (fun K hK => ?_)
  go_simp
  refine hK _ ?_
  clear hK K
  refine wg_sv_load (by rfl) 26 _ rfl (k15.heap.size) rfl A (nA : Int) KP8.out _ Tryd.underlying26 rfl (size_s HA.out) (fun K hK => ?_)
  go_simp
  refine hK _ ?_
  clear hK K
  refine wg_call (by rfl) 21 Tryd.f21 Tryd.func21 rfl rfl _ _ rfl _ rfl (.int .i64 x4) (by exact KC0.out) (fun K hK => ?_)
  go_simp
  refine hK _ ?_
  clear hK K
  refine wg_value (by rfl) (.int .i64 x1) (fun u hu => by have hn := EN.out; go_simp) (fun K hK => ?_)
  go_simp
  refine hK _ ?_
  clear hK K
  refine wg_value (by rfl) (.bool true) (fun u hu => by go_simp) (fun K hK => ?_)
  go_simp
  refine hK _ ?_
  clear hK K
  refine w_value rfl (.bool true) (fun u hu => by go_simp) (fun K hK => ?_)
  go_simp
  refine hK _ ?_
  clear hK K
  refine w_move rfl _ rfl (.bool true) rfl (fun K hK => ?_)
  go_simp
  refine hK _ ?_
  clear hK K
  refine wg_value (by rfl) (.int .i64 x1) (fun u hu => by go_simp) (fun K hK => ?_)
  go_simp
  refine hK _ ?_
  clear hK K
  refine wg_value (by rfl) (.bool eab) (fun u hu => by have hz := EZ.out; go_simp) (fun K hK => ?_)
  go_simp
  refine hK _ ?_
  clear hK K
  refine wg_sv_load (by rfl) 26 _ rfl (k15.heap.size) rfl A (nA : Int) KP8.out _ Tryd.underlying26 rfl (size_s HA.out) (fun K hK => ?_)
  go_simp
  refine hK _ ?_
  clear hK K
  refine wg_sv_load (by rfl) 26 _ rfl (k20.heap.size) rfl B (nB : Int) KP9.out _ Tryd.underlying26 rfl (size_s HB.out) (fun K hK => ?_)
  go_simp
  refine hK _ ?_
  clear hK K
  refine wg_value (by rfl) (.bool eab) (fun u _ => run_eql u .eql 26 26 _ _ (SV A (nA : Int)) (SV B (nB : Int)) _ rfl rfl rfl (guard_s _ _ _ _ _ _ u) (HEAB.out u)) (fun K hK => ?_)
  go_simp
  refine hK _ ?_
  clear hK K
  refine wg_value (by rfl) (.bool true) (fun u hu => by go_simp) (fun K hK => ?_)
  go_simp
  refine hK _ ?_
  clear hK K
  refine w_value rfl (.bool true) (fun u hu => by go_simp) (fun K hK => ?_)
  go_simp
  refine hK _ ?_
  clear hK K
  refine w_move rfl _ rfl (.bool true) rfl (fun K hK => ?_)
  go_simp
  refine hK _ ?_
  clear hK K
  refine wg_value (by rfl) (.bool false) (fun u hu => by go_simp) (fun K hK => ?_)
  go_simp
  refine hK _ ?_
  clear hK K
  refine wg_value (by rfl) (.bool true) (fun u hu => by go_simp) (fun K hK => ?_)
  go_simp
  refine hK _ ?_
  clear hK K
  refine w_value rfl (.bool true) (fun u hu => by go_simp) (fun K hK => ?_)
  go_simp
  refine hK _ ?_
  clear hK K
  refine w_move rfl _ rfl (.bool true) rfl (fun K hK => ?_)
  go_simp
  refine hK _ ?_
  clear hK K
  refine wg_value (by rfl) (.bool sn) (fun u hu => by go_simp) (fun K hK => ?_)
  go_simp
  refine hK _ ?_
  clear hK K
  cases sn with
  | false =>
    refine wg_value (by rfl) (.bool true) (fun u hu => by go_simp) (fun K hK => ?_)
    go_simp
    refine hK _ ?_
    clear hK K
    refine wg_value (by rfl) (.bool true) (fun u hu => by go_simp) (fun K hK => ?_)
    go_simp
    refine hK _ ?_
    clear hK K
    refine w_skip 24 false ((some true)) rfl rfl rfl (fun K hK => ?_)
    go_simp
    refine hK _ ?_
    clear hK K
    refine w_skip 24 false ((some true)) rfl rfl rfl (fun K hK => ?_)
    go_simp
    refine hK _ ?_
    clear hK K
    refine wg_value (by rfl) (.bool true) (fun u hu => by go_simp) (fun K hK => ?_)
    go_simp
    refine hK _ ?_
    clear hK K
    refine w_value rfl (.bool true) (fun u hu => by go_simp) (fun K hK => ?_)
    go_simp
    refine hK _ ?_
    clear hK K
    refine w_move rfl _ rfl (.bool true) rfl (fun K hK => ?_)
    go_simp
    refine hK _ ?_
    clear hK K
    refine wg_sv_load (by rfl) 26 _ rfl (k15.heap.size) rfl A (nA : Int) KP8.out _ Tryd.underlying26 rfl (size_s HA.out) (fun K hK => ?_)
    go_simp
    refine hK _ ?_
    clear hK K
    refine wg_sv_load (by rfl) 26 _ rfl (k20.heap.size) rfl B (nB : Int) KP9.out _ Tryd.underlying26 rfl (size_s HB.out) (fun K hK => ?_)
    go_simp
    refine hK _ ?_
    clear hK K
    refine wg_sv_load (by rfl) 26 _ rfl (k25.heap.size) rfl C (nC : Int) KP10.out _ Tryd.underlying26 rfl (size_s HC.out) (fun K hK => ?_)
    go_simp
    refine hK _ ?_
    clear hK K
    refine wg_call (by rfl) 15 Tryd.f15 Tryd.func15 rfl rfl _ _ rfl _ rfl (SV l1 m1) (by exact KC1.out) (fun K hK => ?_)
    go_simp
    refine hK _ ?_
    clear hK K
    refine wg_call (by rfl) 15 Tryd.f15 Tryd.func15 rfl rfl _ _ rfl _ rfl (SV l2 m2) (by exact KC2.out) (fun K hK => ?_)
    go_simp
    refine hK _ ?_
    clear hK K
    refine wg_sv_load (by rfl) 26 _ rfl (k25.heap.size) rfl C (nC : Int) KP10.out _ Tryd.underlying26 rfl (size_s HC.out) (fun K hK => ?_)
    go_simp
    refine hK _ ?_
    clear hK K
    refine wg_sv_load (by rfl) 26 _ rfl (k15.heap.size) rfl A (nA : Int) KP8.out _ Tryd.underlying26 rfl (size_s HA.out) (fun K hK => ?_)
    go_simp
    refine hK _ ?_
    clear hK K
    refine wg_call (by rfl) 15 Tryd.f15 Tryd.func15 rfl rfl _ _ rfl _ rfl (SV l3 m3) (by exact KC3.out) (fun K hK => ?_)
    go_simp
    refine hK _ ?_
    clear hK K
    refine wg_sv_load (by rfl) 26 _ rfl (k20.heap.size) rfl B (nB : Int) KP9.out _ Tryd.underlying26 rfl (size_s HB.out) (fun K hK => ?_)
    go_simp
    refine hK _ ?_
    clear hK K
    refine wg_call (by rfl) 15 Tryd.f15 Tryd.func15 rfl rfl _ _ rfl _ rfl (SV l4 m4) (by exact KC4.out) (fun K hK => ?_)
    go_simp
    refine hK _ ?_
    clear hK K
    refine wg_value (by rfl) (.bool true) (fun u _ => run_eql u .eql 26 26 _ _ (SV l2 m2) (SV l4 m4) _ rfl rfl rfl (guard_s _ _ _ _ _ _ u) (HEL.out u)) (fun K hK => ?_)
    go_simp
    refine hK _ ?_
    clear hK K
    refine w_value rfl (.bool true) (fun u hu => by go_simp) (fun K hK => ?_)
    go_simp
    refine hK _ ?_
    clear hK K
    refine w_assign rfl _ rfl (.bool true) rfl (fun K hK => ?_)
    go_simp
    refine hK _ ?_
    clear hK K
    refine w_nil ?_
    intro u hu
    have HW9 : Hid (Below w.heap.size w u) := (Kept.below MY.out hu).under
    clear hu
    go_wp2_with fail
    go_ret
    exact ⟨rfl, HW9.out⟩
  | true =>
    refine wg_value (by rfl) (.bool false) (fun u hu => by go_simp) (fun K hK => ?_)
    go_simp
    refine hK _ ?_
    clear hK K
    refine wg_value (by rfl) (.bool false) (fun u hu => by go_simp) (fun K hK => ?_)
    go_simp
    refine hK _ ?_
    clear hK K
    refine wg_value (by rfl) (.int .i64 x1) (fun u hu => by go_simp) (fun K hK => ?_)
    go_simp
    refine hK _ ?_
    clear hK K
    refine wg_value (by rfl) (.bool true) (fun u hu => by have hl := EL.out rfl; go_simp) (fun K hK => ?_)
    go_simp
    refine hK _ ?_
    clear hK K
    refine wg_value (by rfl) (.bool true) (fun u hu => by go_simp) (fun K hK => ?_)
    go_simp
    refine hK _ ?_
    clear hK K
    refine w_value rfl (.bool true) (fun u hu => by go_simp) (fun K hK => ?_)
    go_simp
    refine hK _ ?_
    clear hK K
    refine w_move rfl _ rfl (.bool true) rfl (fun K hK => ?_)
    go_simp
    refine hK _ ?_
    clear hK K
    refine wg_sv_load (by rfl) 26 _ rfl (k15.heap.size) rfl A (nA : Int) KP8.out _ Tryd.underlying26 rfl (size_s HA.out) (fun K hK => ?_)
    go_simp
    refine hK _ ?_
    clear hK K
    refine wg_sv_load (by rfl) 26 _ rfl (k20.heap.size) rfl B (nB : Int) KP9.out _ Tryd.underlying26 rfl (size_s HB.out) (fun K hK => ?_)
    go_simp
    refine hK _ ?_
    clear hK K
    refine wg_sv_load (by rfl) 26 _ rfl (k25.heap.size) rfl C (nC : Int) KP10.out _ Tryd.underlying26 rfl (size_s HC.out) (fun K hK => ?_)
    go_simp
    refine hK _ ?_
    clear hK K
    refine wg_call (by rfl) 15 Tryd.f15 Tryd.func15 rfl rfl _ _ rfl _ rfl (SV l1 m1) (by exact KC1.out) (fun K hK => ?_)
    go_simp
    refine hK _ ?_
    clear hK K
    refine wg_call (by rfl) 15 Tryd.f15 Tryd.func15 rfl rfl _ _ rfl _ rfl (SV l2 m2) (by exact KC2.out) (fun K hK => ?_)
    go_simp
    refine hK _ ?_
    clear hK K
    refine wg_sv_load (by rfl) 26 _ rfl (k25.heap.size) rfl C (nC : Int) KP10.out _ Tryd.underlying26 rfl (size_s HC.out) (fun K hK => ?_)
    go_simp
    refine hK _ ?_
    clear hK K
    refine wg_sv_load (by rfl) 26 _ rfl (k15.heap.size) rfl A (nA : Int) KP8.out _ Tryd.underlying26 rfl (size_s HA.out) (fun K hK => ?_)
    go_simp
    refine hK _ ?_
    clear hK K
    refine wg_call (by rfl) 15 Tryd.f15 Tryd.func15 rfl rfl _ _ rfl _ rfl (SV l3 m3) (by exact KC3.out) (fun K hK => ?_)
    go_simp
    refine hK _ ?_
    clear hK K
    refine wg_sv_load (by rfl) 26 _ rfl (k20.heap.size) rfl B (nB : Int) KP9.out _ Tryd.underlying26 rfl (size_s HB.out) (fun K hK => ?_)
    go_simp
    refine hK _ ?_
    clear hK K
    refine wg_call (by rfl) 15 Tryd.f15 Tryd.func15 rfl rfl _ _ rfl _ rfl (SV l4 m4) (by exact KC4.out) (fun K hK => ?_)
    go_simp
    refine hK _ ?_
    clear hK K
    refine wg_value (by rfl) (.bool true) (fun u _ => run_eql u .eql 26 26 _ _ (SV l2 m2) (SV l4 m4) _ rfl rfl rfl (guard_s _ _ _ _ _ _ u) (HEL.out u)) (fun K hK => ?_)
    go_simp
    refine hK _ ?_
    clear hK K
    refine w_value rfl (.bool true) (fun u hu => by go_simp) (fun K hK => ?_)
    go_simp
    refine hK _ ?_
    clear hK K
    refine w_assign rfl _ rfl (.bool true) rfl (fun K hK => ?_)
    go_simp
    refine hK _ ?_
    clear hK K
    refine w_nil ?_
    intro u hu
    have HW9 : Hid (Below w.heap.size w u) := (Kept.below MY.out hu).under
    clear hu
    go_wp2_with fail
    go_ret
    exact ⟨rfl, HW9.out⟩

set_option maxRecDepth 100000 in
theorem lifted (os : Os) (started : os.Started) (H : Type) (enc : TypeId × Value → H) (F : Stop.Interp) :
    ReturnsInHanded {} Tryd.checked os 5 .any ((OpenSpec.ofChange Rows.stampOrderSpec).preRow enc Tryd.prog Tryd.f5 Rows.stampOrderRow.domain false Rows.stampOrderRow.laid) (((OpenSpec.ofChange Rows.stampOrderSpec).at F).post enc Tryd.prog Tryd.f5 false true false false) := by
  have hx : ∃ places, DataW.whole enc Tryd.prog ((laidWorld os).forCall (fun _ _ => 0) ⟨#[], #[.agg #[.int .u64 0, .int .u64 0, .int .u64 0, .int .u64 0, .int .i64 0, .bool false], .agg #[.int .u64 0, .int .u64 0, .int .u64 0, .int .u64 0, .int .i64 0, .bool false], .agg #[.int .u64 0, .int .u64 0, .int .u64 0, .int .u64 0, .int .i64 0, .bool false]], []⟩).memory Tryd.f5.params.toList Rows.stampOrderSpec.vars false #[Value.agg #[.int .u64 0, .int .u64 0, .int .u64 0, .int .u64 0, .int .i64 0, .bool false], Value.agg #[.int .u64 0, .int .u64 0, .int .u64 0, .int .u64 0, .int .i64 0, .bool false], Value.agg #[.int .u64 0, .int .u64 0, .int .u64 0, .int .u64 0, .int .i64 0, .bool false]].toList 8 = some ([.agg [.agg [.agg [.lit (.int .u64 0), .lit (.int .u64 0), .lit (.int .u64 0), .lit (.int .u64 0)], .lit (.int .i64 0)], .lit (.bool false)], .agg [.agg [.agg [.lit (.int .u64 0), .lit (.int .u64 0), .lit (.int .u64 0), .lit (.int .u64 0)], .lit (.int .i64 0)], .lit (.bool false)], .agg [.agg [.agg [.lit (.int .u64 0), .lit (.int .u64 0), .lit (.int .u64 0), .lit (.int .u64 0)], .lit (.int .i64 0)], .lit (.bool false)]], [], places) := ⟨[], by kernel_rfl⟩
  obtain ⟨places, hx⟩ := hx
  refine returnsInHanded_of_row (C := Tryd.checked) (s := OpenSpec.ofChange Rows.stampOrderSpec) own started (by kernel_rfl) Tryd.func5
    (witness_row_at (enc := enc) (C := Tryd.checked) false (laidWorld os) #[.agg #[.int .u64 0, .int .u64 0, .int .u64 0, .int .u64 0, .int .i64 0, .bool false], .agg #[.int .u64 0, .int .u64 0, .int .u64 0, .int .u64 0, .int .i64 0, .bool false], .agg #[.int .u64 0, .int .u64 0, .int .u64 0, .int .u64 0, .int .i64 0, .bool false]] rfl (by kernel_rfl) (by kernel_rfl) (by kernel_rfl)
      (OpenSpec.preRow_of_cond 8 hx (by kernel_rfl) (fun k hk => by cases hk) (by kernel_rfl) (laidMet_of_run' 8 (by kernel_rfl) (by kernel_rfl)))) ?_
  intro W base args ds gs before hval0 hW hcnd hcond hsz0 hL _ _
  have hT : Fm.Tab W := tab_of hL
  have hval : ∀ (j : Nat) t v, Tryd.f5.params[j]? = some t → args[j]? = some v → Value.okWide Tryd.prog W .any base t v := hval0
  have hW' := hW
  obtain ⟨p, q, hA0, hV, rfl, hfz, hnd⟩ := hW
  have hA : DataW.TrodAll enc Tryd.prog W 0 (fun _ => true) true Tryd.f5.params.toList args.toList ds p := hA0
  have hsz : (DataW.weightsEach Tryd.prog (Tryd.f5.params.toList ++ Rows.stampOrderSpec.plain.varTypes Tryd.prog) (ds ++ gs)).all (· ≤ reachBytes) = true := hsz0
  rw [Tryd.params5] at hA hval hsz
  obtain ⟨rfl, rfl⟩ := trodVars_none hV
  have hAk := hA
  have hlt : ∀ x ∈ p, x.block < W.heap.size := fun x hx => by simpa using hW'.lt x (List.mem_append.2 (.inl hx))
  obtain ⟨v0, vs0, d0, ds0, p0, q0, hargs, rfl, rfl, h0, r0⟩ := trodAll_cons hA
  obtain ⟨v1, vs1, d1, ds1, p1, q1, rfl, rfl, rfl, h1, r1⟩ := trodAll_cons r0
  obtain ⟨v2, vs2, d2, ds2, p2, q2, rfl, rfl, rfl, h2, r2⟩ := trodAll_cons r1
  obtain ⟨rfl, rfl, rfl⟩ := trodAll_nil r2
  obtain rfl : args = #[v0, v1, v2] := by cases args; simp_all
  obtain ⟨a0, dd0, o0, rfl, w0⟩ := open_mark (hval 0 28 v0 rfl rfl) h0
  obtain ⟨a1, dd1, o1, rfl, w1⟩ := open_mark (hval 1 28 v1 rfl rfl) h1
  obtain ⟨a2, dd2, o2, rfl, w2⟩ := open_mark (hval 2 28 v2 rfl rfl) h2
  clear hA0 hval0 hsz0
  refine (walk a0 dd0 o0 a1 dd1 o1 a2 dd2 o2 w0 w1 w2 W hT).mono fun e W' ⟨he, hg⟩ => ?_
  subst he
  exact ⟨_, rfl, _, _, _, [], _, [], hW', (trodAll_cons_mk (shut_bool Tryd.underlying4 _) trodAll_mk0), trodAll_below laidOut hg _ _ _ _ (by kernel_rfl) hAk hlt, rfl, hg.frame _, fun h => by cases h⟩

theorem over : Rows.stampOrderRow.holds Tryd.pinned (OpenSpec.ofChange Rows.stampOrderSpec) :=
  OpenClaim.holds_of_cond 5 Tryd.f5 rfl rfl rfl rfl rfl rfl rfl ⟨rfl, rfl, rfl, rfl, rfl⟩ rfl rfl rfl rfl rfl (by kernel_rfl) Tryd.func5 (by kernel_rfl)
    (of_decide_eq_true (by kernel_rfl)) (by unfold Func.isWrapper; first | (rw [if_pos (by decide +kernel)]; kernel_rfl) | (rw [if_neg (by decide +kernel)]; exact ⟨rfl, rfl⟩))
    (fun os started H enc _ F => by rw [OpenClaim.pre_eq_preRow]; exact lifted os started H enc F)

set_option maxRecDepth 100000 in
theorem plain (f : FuncId) (fn : Func) (hf : Tryd.pinned.checked.prog.funcNamed "tenement/tenementlaw07.StampOrder" = some f) (hfn : Tryd.pinned.checked.prog.funcs[f]? = some fn) :
    false = Tryd.pinned.checked.prog.looks [] ∧ ∀ (j : Nat) t, fn.params[j]? = some t → Tryd.pinned.checked.prog.wantsStandIn t = false := by
  obtain rfl : f = 5 := Option.some.inj ((show Tryd.prog.funcNamed "tenement/tenementlaw07.StampOrder" = some 5 by kernel_rfl).symm.trans hf) |>.symm
  obtain rfl : fn = Tryd.f5 := (Option.some.inj (Tryd.func5.symm.trans hfn)).symm
  refine ⟨by kernel_rfl, fun j t ht => ?_⟩
  rw [Tryd.params5] at ht
  have hm := Array.mem_of_getElem? ht
  simp only [List.mem_toArray, List.mem_cons, List.not_mem_nil, or_false] at hm
  rcases hm with rfl | rfl | rfl
  all_goals first | exact (show Tryd.prog.wantsStandIn 28 = false by kernel_rfl)

/-- the statement -/
theorem proved : Rows.StampOrderCardSaid :=
  Claim7.holds_tied_plain_at .later [] _ _ _ _ over (fun _ h => by cases h) (by kernel_rfl) (fun _ h => by cases h) stampOrder_row_tie rfl ⟨rfl, rfl⟩ (by kernel_rfl) rfl plain (by kernel_rfl)
#print axioms proved

end Go.Proofs.YtnmggefbajoadaaDoor.stampOrder
