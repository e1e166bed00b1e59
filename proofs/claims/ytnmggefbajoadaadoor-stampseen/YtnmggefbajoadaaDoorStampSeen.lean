/-
  What is seen is seen of all that is joined with more; a stamp is seen at its own vector, and not below: true for every argument (the law StampSeen). No conditions.
-/
import Derived.Test.YtnmggefbajoadaaDoorFrameTab

import Derived.Test.YtnmggefbajoadaaDoorStampEx

import Derived.Test.YtnmggefbajoadaaDoorStampOf

import Derived.Test.YtnmggefbajoadaaDoorFrameMark

import Derived.Test.YtnmggefbajoadaaDoorFrameVec7

namespace Go.Proofs.YtnmggefbajoadaaDoor.stampSeen

open Go.ChangeShapes Go.WideShapes Go.ChangeAt Go.RowKit

open Go.Proofs.YtnmggefbajoadaaDoor.Vc Go.Proofs.YtnmggefbajoadaaDoor.Sp

open Go.ChangeMaps (open_string shut_string)

set_option linter.unusedVariables false

set_option linter.unusedSimpArgs false

theorem seen_join {a b c : List Nat} (ha : a.length = 4) (hb : b.length = 4) (hc : c.length = 4) (h : V.leq a b = true) : V.leq a (V.join b c) = true := by
  obtain ⟨a0, a1, a2, a3, rfl⟩ := V.four ha
  obtain ⟨b0, b1, b2, b3, rfl⟩ := V.four hb
  obtain ⟨c0, c1, c2, c3, rfl⟩ := V.four hc
  rw [V.leq_iff] at h
  simp only [V.join, List.zipWith_cons_cons, List.zipWith_nil_right]
  rw [V.leq_iff]
  omega
theorem seen_meet {a b c : List Nat} (ha : a.length = 4) (hb : b.length = 4) (hc : c.length = 4) : V.leq a (V.meet b c) = (V.leq a b && V.leq a c) := by
  obtain ⟨a0, a1, a2, a3, rfl⟩ := V.four ha
  obtain ⟨b0, b1, b2, b3, rfl⟩ := V.four hb
  obtain ⟨c0, c1, c2, c3, rfl⟩ := V.four hc
  simp only [V.meet, List.zipWith_cons_cons, List.zipWith_nil_right]
  rw [Bool.eq_iff_iff, Bool.and_eq_true, V.leq_iff, V.leq_iff, V.leq_iff]
  omega
theorem seen_less {a : List Nat} (ha : a.length = 4) (d : Int) (h : T.right a d = true) : V.leq a (V.with_ a d (V.at_ a d - 1)) = false := by
  obtain ⟨_, h1, h4, h5⟩ := T.right_known h
  have hk : V.known d = true := (V.known_iff d).2 ⟨h1, h4⟩
  refine V.leq_not ha (V.with_length ha _ _) (d - 1).toNat (by omega) ?_
  unfold V.with_ V.at_ at *
  rw [if_pos hk, if_pos hk] at *
  rw [List.getD_eq_getElem?_getD (l := a.set _ _), List.getElem?_set_self (by omega), Option.getD_some]
  omega
set_option maxHeartbeats 16000000 in
set_option maxRecDepth 100000 in
theorem walk (a0 : List Nat) (d0 : Int) (o0 : Bool) (a1 : List Nat) (o1 : Bool) (a2 : List Nat) (o2 : Bool) (w0 : V.Ok a0 ∧ (Lit.int .i64 d0).wf = true) (w1 : V.Ok a1) (w2 : V.Ok a2) (w : World) (hT : Fm.Tab w) :
    Calls Tryd.prog 6 #[MV a0 d0 o0, VV a1 o1, VV a2 o2] w fun e w' => e = .returned (.bool true) ∧ Below w.heap.size w w' := by
  have CE := Lib.hid examples_any
  have CM0 := Lib.hid (fun w => mark_any a0 d0 true w w0.1 w0.2)
  have HL0 := Lib.hid w0.1.len
  obtain ⟨A, EA⟩ : ∃ r, Hid (T.markv a0 d0 = r) := ⟨_, rfl⟩
  obtain ⟨nA, NA⟩ : ∃ r, Hid (T.markd d0 = r) := ⟨_, rfl⟩
  have OA : Hid (V.Ok A) := by rw [← EA.out]; exact T.markv_ok HL0.out d0
  have HA : Hid (A.length = 4) := OA.out.len
  have RA : Hid (T.right A (nA : Int) = true) := by rw [← EA.out, ← NA.out]; exact T.mark_right HL0.out d0
  rw [show T.mark a0 d0 true = (T.markv a0 d0, (T.markd d0 : Int)) from rfl, EA.out, NA.out] at CM0
  obtain ⟨B, EB⟩ : ∃ r, Hid (V.few a1 o1 = r) := ⟨_, rfl⟩
  have OB : Hid (V.Ok B) := by rw [← EB.out]; exact V.few_ok w1 o1
  have HB : Hid (B.length = 4) := OB.out.len
  have HL1 := Lib.hid w1.len
  have CV1 := Lib.hid (fun w => vector_any a1 o1 w w1)
  rw [EB.out] at CV1
  obtain ⟨C, EC⟩ : ∃ r, Hid (V.few a2 o2 = r) := ⟨_, rfl⟩
  have OC : Hid (V.Ok C) := by rw [← EC.out]; exact V.few_ok w2 o2
  have HC : Hid (C.length = 4) := OC.out.len
  have HL2 := Lib.hid w2.len
  have CV2 := Lib.hid (fun w => vector_any a2 o2 w w2)
  rw [EC.out] at CV2
  have CJ := Lib.hid (fun w => join_any B C w HB.out HC.out)
  obtain ⟨qb, QB⟩ : ∃ r, Hid (V.leq A B = r) := ⟨_, rfl⟩
  obtain ⟨qc, QC⟩ : ∃ r, Hid (V.leq A C = r) := ⟨_, rfl⟩
  obtain ⟨qm, QM⟩ : ∃ r, Hid (V.leq A (V.meet B C) = r) := ⟨_, rfl⟩
  have QE : Hid (qm = (qb && qc)) := by show _ = _; rw [← QB.out, ← QC.out, ← QM.out]; exact seen_meet HA.out HB.out HC.out
  obtain ⟨x, QX⟩ : ∃ r, Hid (V.at_ A (nA : Int) = r) := ⟨_, rfl⟩
  have hx : 1 ≤ x := by rw [← QX.out]; exact (T.right_known RA.out).2.2.2
  have hx64 : x < 2 ^ 64 := by rw [← QX.out]; exact V.at_lt OA.out _
  obtain ⟨m, hm⟩ : ∃ m, m = x - 1 := ⟨_, rfl⟩
  have EM : Hid (IntKind.u64.wrap ((x : Int) - 1) = (m : Int)) := by show _ = _; rw [wrapu (by omega) (by omega)]; omega
  have QW : Hid (V.leq A (V.with_ A (nA : Int) m) = false) := by
    have h := seen_less HA.out (nA : Int) RA.out
    rw [QX.out, ← hm] at h
    exact h
  clear hx hx64 hm w0 w1 w2
  go_enter Tryd.func6, Tryd.ntmps6
  have M0 : Hid (Kept w w []) := Kept.start w
  go_wp2_with (first | refine blk_box rfl 28 _ rfl (ks .u64 a0 ++ [Value.int .i64 d0, Value.bool o0]) rfl ?_)
  intro k1 A1 B1 Z1
  have M2 : Hid (Kept w k1 [(w.heap.size, ks .u64 a0 ++ [Value.int .i64 d0, Value.bool o0])]) := Kept.new M0.out B1 Z1 A1
  clear A1 B1 M0
  go_wp2_with (first | refine blk_box rfl 30 _ rfl (ks .u64 a1 ++ [Value.bool o1]) rfl ?_)
  intro k3 A3 B3 Z3
  have M4 : Hid (Kept w k3 [(w.heap.size + 1, ks .u64 a1 ++ [Value.bool o1]), (w.heap.size, ks .u64 a0 ++ [Value.int .i64 d0, Value.bool o0])]) := Kept.newAt M2.out Z1 B3 Z3 A3
  clear A3 B3 M2
  go_wp2_with (first | refine blk_box rfl 30 _ rfl (ks .u64 a2 ++ [Value.bool o2]) rfl ?_)
  intro k5 A5 B5 Z5
  have M6 : Hid (Kept w k5 [(w.heap.size + 2, ks .u64 a2 ++ [Value.bool o2]), (w.heap.size + 1, ks .u64 a1 ++ [Value.bool o1]), (w.heap.size, ks .u64 a0 ++ [Value.int .i64 d0, Value.bool o0])]) := Kept.newAt M4.out Z3 B5 Z5 A5
  clear A5 B5 M4
  go_wp2_with fail
  clear Z1 Z3 Z5
  refine (CE.out _).mono ?_; rintro e k7 ⟨rfl, hb7⟩
  have M8 : Hid (Kept w k7 [(w.heap.size + 2, ks .u64 a2 ++ [Value.bool o2]), (w.heap.size + 1, ks .u64 a1 ++ [Value.bool o1]), (w.heap.size, ks .u64 a0 ++ [Value.int .i64 d0, Value.bool o0])]) := Kept.below M6.out hb7
  clear hb7 M6
  obtain ⟨co9, fo9⟩ := own_at (Kept.get M8.out 2 rfl) HL0.out
  have HN9 := Lib.hid (own_set (Kept.get M8.out 2 rfl) HL0.out true)
  have M10 : Hid (Kept w (k7.setCell ⟨w.heap.size, 5, none⟩ (.bool true)) [(w.heap.size + 2, ks .u64 a2 ++ [Value.bool o2]), (w.heap.size + 1, ks .u64 a1 ++ [Value.bool o1]), (w.heap.size, ks .u64 a0 ++ [Value.int .i64 d0, Value.bool true])]) := Kept.updAt M8.out 2 rfl (by omega) (by simp; try omega) (Upd.setCell _ _ _ _) HN9.out
  clear HN9 M8
  go_wp2_with (first | refine blk_load rfl 28 _ rfl (w.heap.size) rfl (ks .u64 a0 ++ [Value.int .i64 d0, Value.bool true]) (Kept.get M10.out 2 rfl) _ Tryd.underlying28 rfl (size_m HL0.out) ?_)
  clear co9 fo9
  refine (CM0.out _).mono ?_; rintro e k11 ⟨rfl, hb11⟩
  have M12 : Hid (Kept w k11 [(w.heap.size + 2, ks .u64 a2 ++ [Value.bool o2]), (w.heap.size + 1, ks .u64 a1 ++ [Value.bool o1]), (w.heap.size, ks .u64 a0 ++ [Value.int .i64 d0, Value.bool true])]) := Kept.below M10.out hb11
  clear hb11 M10
  go_wp2_with (first | refine blk_alloc rfl 26 (ks .u64 (List.replicate 4 0) ++ [Value.int .i64 0]) rfl Tryd.info_s ?_)
  intro k13 A13 B13 Z13
  go_wp2_with (first | refine blk_store rfl 26 _ _ rfl k11.heap.size rfl (ks .u64 A ++ [Value.int .i64 (nA : Int)]) rfl _ A13 (sv_len HA.out) (size_s HA.out) (one_sv _ _) ?_)
  intro k14 A14 U14
  have M15 : Hid (Kept w k14 [(k11.heap.size, ks .u64 A ++ [Value.int .i64 (nA : Int)]), (w.heap.size + 2, ks .u64 a2 ++ [Value.bool o2]), (w.heap.size + 1, ks .u64 a1 ++ [Value.bool o1]), (w.heap.size, ks .u64 a0 ++ [Value.int .i64 d0, Value.bool true])]) := Kept.fresh M12.out B13 Z13 U14 A14
  clear A13 B13 Z13 A14 U14 M12
  go_wp2_with (first | refine blk_load rfl 30 _ rfl (w.heap.size + 1) rfl (ks .u64 a1 ++ [Value.bool o1]) (Kept.get M15.out 2 rfl) _ Tryd.underlying30 rfl (size_vv HL1.out) ?_)
  refine (CV1.out _).mono ?_; rintro e k16 ⟨rfl, hb16⟩
  have M17 : Hid (Kept w k16 [(k11.heap.size, ks .u64 A ++ [Value.int .i64 (nA : Int)]), (w.heap.size + 2, ks .u64 a2 ++ [Value.bool o2]), (w.heap.size + 1, ks .u64 a1 ++ [Value.bool o1]), (w.heap.size, ks .u64 a0 ++ [Value.int .i64 d0, Value.bool true])]) := Kept.below M15.out hb16
  clear hb16 M15
  go_wp2_with (first | refine arr_alloc rfl .u64 24 4 rfl Tryd.info_v ?_)
  intro k18 A18 B18 Z18
  go_wp2_with (first | refine arr_store rfl .u64 24 _ _ rfl k16.heap.size rfl B rfl _ A18 (by rw [HB.out]; rfl) (size_v HB.out) ?_)
  intro k19 A19 U19
  have M20 : Hid (Kept w k19 [(k16.heap.size, ks .u64 B), (k11.heap.size, ks .u64 A ++ [Value.int .i64 (nA : Int)]), (w.heap.size + 2, ks .u64 a2 ++ [Value.bool o2]), (w.heap.size + 1, ks .u64 a1 ++ [Value.bool o1]), (w.heap.size, ks .u64 a0 ++ [Value.int .i64 d0, Value.bool true])]) := Kept.fresh M17.out B18 Z18 U19 (Arr.blk A19)
  clear A18 B18 Z18 A19 U19 M17
  go_wp2_with (first | refine blk_load rfl 30 _ rfl (w.heap.size + 2) rfl (ks .u64 a2 ++ [Value.bool o2]) (Kept.get M20.out 2 rfl) _ Tryd.underlying30 rfl (size_vv HL2.out) ?_)
  refine (CV2.out _).mono ?_; rintro e k21 ⟨rfl, hb21⟩
  have M22 : Hid (Kept w k21 [(k16.heap.size, ks .u64 B), (k11.heap.size, ks .u64 A ++ [Value.int .i64 (nA : Int)]), (w.heap.size + 2, ks .u64 a2 ++ [Value.bool o2]), (w.heap.size + 1, ks .u64 a1 ++ [Value.bool o1]), (w.heap.size, ks .u64 a0 ++ [Value.int .i64 d0, Value.bool true])]) := Kept.below M20.out hb21
  clear hb21 M20
  go_wp2_with (first | refine arr_alloc rfl .u64 24 4 rfl Tryd.info_v ?_)
  intro k23 A23 B23 Z23
  go_wp2_with (first | refine arr_store rfl .u64 24 _ _ rfl k21.heap.size rfl C rfl _ A23 (by rw [HC.out]; rfl) (size_v HC.out) ?_)
  intro k24 A24 U24
  have M25 : Hid (Kept w k24 [(k21.heap.size, ks .u64 C), (k16.heap.size, ks .u64 B), (k11.heap.size, ks .u64 A ++ [Value.int .i64 (nA : Int)]), (w.heap.size + 2, ks .u64 a2 ++ [Value.bool o2]), (w.heap.size + 1, ks .u64 a1 ++ [Value.bool o1]), (w.heap.size, ks .u64 a0 ++ [Value.int .i64 d0, Value.bool true])]) := Kept.fresh M22.out B23 Z23 U24 (Arr.blk A24)
  clear A23 B23 Z23 A24 U24 M22
  go_wp2_with (first | refine arr_load rfl .u64 24 _ rfl (k16.heap.size) rfl B (Kept.arr M25.out 1 rfl) 4 22 Tryd.underlying24 (size_v HB.out) ?_ | refine arr_load rfl .u64 24 _ rfl (k21.heap.size) rfl C (Kept.arr M25.out 0 rfl) 4 22 Tryd.underlying24 (size_v HC.out) ?_)
  refine (CJ.out _).mono ?_; rintro e k26 ⟨rfl, hb26⟩
  have M27 : Hid (Kept w k26 [(k21.heap.size, ks .u64 C), (k16.heap.size, ks .u64 B), (k11.heap.size, ks .u64 A ++ [Value.int .i64 (nA : Int)]), (w.heap.size + 2, ks .u64 a2 ++ [Value.bool o2]), (w.heap.size + 1, ks .u64 a1 ++ [Value.bool o1]), (w.heap.size, ks .u64 a0 ++ [Value.int .i64 d0, Value.bool true])]) := Kept.below M25.out hb26
  clear hb26 M25
  go_wp2_with (first | refine arr_alloc rfl .u64 24 4 rfl Tryd.info_v ?_)
  intro k28 A28 B28 Z28
  go_wp2_with (first | refine arr_store rfl .u64 24 _ _ rfl k26.heap.size rfl (V.join B C) rfl _ A28 (by rw [(V.join_length HB.out HC.out)]; rfl) (size_v (V.join_length HB.out HC.out)) ?_)
  intro k29 A29 U29
  have M30 : Hid (Kept w k29 [(k26.heap.size, ks .u64 (V.join B C)), (k21.heap.size, ks .u64 C), (k16.heap.size, ks .u64 B), (k11.heap.size, ks .u64 A ++ [Value.int .i64 (nA : Int)]), (w.heap.size + 2, ks .u64 a2 ++ [Value.bool o2]), (w.heap.size + 1, ks .u64 a1 ++ [Value.bool o1]), (w.heap.size, ks .u64 a0 ++ [Value.int .i64 d0, Value.bool true])]) := Kept.fresh M27.out B28 Z28 U29 (Arr.blk A29)
  clear A28 B28 Z28 A29 U29 M27
  go_wp2_with fail
  have KP8 : Hid (∀ u, Below k29.heap.size k29 u → Blk u (k11.heap.size) (ks .u64 A ++ [Value.int .i64 (nA : Int)])) := fun u hu => (Kept.below M30.out hu).get 3 rfl
  have KP8r : Hid (∀ u, Below k29.heap.size k29 u → u.rangeAt (k11.heap.size) 0 (ks .u64 A)) := fun u hu => rowp ((Kept.below M30.out hu).get 3 rfl)
  have KP8d : Hid (∀ u, Below k29.heap.size k29 u → u.cell? ⟨k11.heap.size, 4, none⟩ = some (.int .i64 (nA : Int))) := fun u hu => dc_cell ((Kept.below M30.out hu).get 3 rfl) HA.out
  have KP9 : Hid (∀ u, Below k29.heap.size k29 u → Arr .u64 u (k16.heap.size) B) := fun u hu => (Kept.below M30.out hu).arr 2 rfl
  have KP10 : Hid (∀ u, Below k29.heap.size k29 u → Arr .u64 u (k21.heap.size) C) := fun u hu => (Kept.below M30.out hu).arr 1 rfl
  have KP11 : Hid (∀ u, Below k29.heap.size k29 u → Arr .u64 u (k26.heap.size) (V.join B C)) := fun u hu => (Kept.below M30.out hu).arr 0 rfl
  have KC0 : Hid (∀ u, Below k29.heap.size k29 u → Calls Tryd.prog 23 [SV A (nA : Int), AV .u64 A].toArray u fun e u' => e = .returned (.bool true) ∧ Below k29.heap.size k29 u') := fun  u hu => Calls.more hu (by have h := sseen_any A A (nA : Int) u HA.out HA.out; rw [V.leq_refl HA.out] at h; exact h)
  have KC1 : Hid (∀ u, Below k29.heap.size k29 u → Calls Tryd.prog 19 [SV A (nA : Int)].toArray u fun e u' => e = .returned (.int .u64 (x : Int)) ∧ Below k29.heap.size k29 u') := fun  u hu => Calls.more hu (by have h := sn_any A (nA : Int) u HA.out; rw [QX.out] at h; exact h)
  have KC2 : Hid (∀ u, Below k29.heap.size k29 u → Calls Tryd.prog 31 [AV .u64 A, .int .i64 (nA : Int), .int .u64 (m : Int)].toArray u fun e u' => e = .returned (AV .u64 (V.with_ A (nA : Int) m)) ∧ Below k29.heap.size k29 u') := fun  u hu => Calls.more hu (with_any A (nA : Int) m u HA.out)
  have KC3 : Hid (∀ u, Below k29.heap.size k29 u → Calls Tryd.prog 23 [SV A (nA : Int), AV .u64 (V.with_ A (nA : Int) m)].toArray u fun e u' => e = .returned (.bool false) ∧ Below k29.heap.size k29 u') := fun  u hu => Calls.more hu (by have h := sseen_any A (V.with_ A (nA : Int) m) (nA : Int) u HA.out (V.with_length HA.out _ _); rw [QW.out] at h; exact h)
  have KC4 : Hid (∀ u, Below k29.heap.size k29 u → Calls Tryd.prog 23 [SV A (nA : Int), AV .u64 B].toArray u fun e u' => e = .returned (.bool qb) ∧ Below k29.heap.size k29 u') := fun  u hu => Calls.more hu (by have h := sseen_any A B (nA : Int) u HA.out HB.out; rw [QB.out] at h; exact h)
  have KC5 : Hid (∀ u, Below k29.heap.size k29 u → Calls Tryd.prog 32 [AV .u64 B, AV .u64 C].toArray u fun e u' => e = .returned (AV .u64 (V.meet B C)) ∧ Below k29.heap.size k29 u') := fun  u hu => Calls.more hu (meet_any B C u HB.out HC.out)
  have KC6 : Hid (∀ u, Below k29.heap.size k29 u → Calls Tryd.prog 23 [SV A (nA : Int), AV .u64 (V.meet B C)].toArray u fun e u' => e = .returned (.bool qm) ∧ Below k29.heap.size k29 u') := fun  u hu => Calls.more hu (by have h := sseen_any A (V.meet B C) (nA : Int) u HA.out (V.meet_length HB.out HC.out); rw [QM.out] at h; exact h)
  have KC7 : Hid ((qb = true) → ∀ u, Below k29.heap.size k29 u → Calls Tryd.prog 23 [SV A (nA : Int), AV .u64 (V.join B C)].toArray u fun e u' => e = .returned (.bool true) ∧ Below k29.heap.size k29 u') := fun h0 u hu => Calls.more hu (by have h := sseen_any A (V.join B C) (nA : Int) u HA.out (V.join_length HB.out HC.out); rw [seen_join HA.out HB.out HC.out (QB.out.trans h0)] at h; exact h)
  have KC8 : Hid (∀ u, Below k29.heap.size k29 u → Calls Tryd.prog 23 [SV A (nA : Int), AV .u64 C].toArray u fun e u' => e = .returned (.bool qc) ∧ Below k29.heap.size k29 u') := fun  u hu => Calls.more hu (by have h := sseen_any A C (nA : Int) u HA.out HC.out; rw [QC.out] at h; exact h)
  refine region_w Tryd.mixed (by kernel_rfl) ?_
  refine w_move rfl _ rfl (.bool true) rfl (fun K hK => ?_)
  go_simp
  refine hK _ ?_
  clear hK K
  refine w_move rfl _ rfl (.bool true) rfl (fun K hK => ?_)
  go_simp
  refine hK _ ?_
  clear hK K
  refine wg_sv_load (by rfl) 26 _ rfl (k11.heap.size) rfl A (nA : Int) KP8.out _ Tryd.underlying26 rfl (size_s HA.out) (fun K hK => ?_)
  go_simp
  refine hK _ ?_
  clear hK K
  refine wg_value (by rfl) (.pointer (some ⟨k11.heap.size, 0, none⟩)) (fun u hu => by go_simp) (fun K hK => ?_)
  go_simp
  refine hK _ ?_
  clear hK K
  refine wg_row_load (by rfl) .u64 24 _ rfl (k11.heap.size) 0 rfl A KP8r.out 4 22 Tryd.underlying24 (size_v HA.out) (fun K hK => ?_)
  go_simp
  refine hK _ ?_
  clear hK K
  refine wg_call (by rfl) 23 Tryd.f23 Tryd.func23 rfl rfl _ _ rfl _ rfl (.bool true) (by exact KC0.out) (fun K hK => ?_)
  go_simp
  refine hK _ ?_
  clear hK K
  refine w_value rfl (.bool true) (fun u hu => by go_simp) (fun K hK => ?_)
  go_simp
  refine hK _ ?_
  clear hK K
  refine w_move rfl _ rfl (.bool true) rfl (fun K hK => ?_)
  go_simp
  refine hK _ ?_
  clear hK K
  refine wg_sv_load (by rfl) 26 _ rfl (k11.heap.size) rfl A (nA : Int) KP8.out _ Tryd.underlying26 rfl (size_s HA.out) (fun K hK => ?_)
  go_simp
  refine hK _ ?_
  clear hK K
  refine wg_value (by rfl) (.pointer (some ⟨k11.heap.size, 0, none⟩)) (fun u hu => by go_simp) (fun K hK => ?_)
  go_simp
  refine hK _ ?_
  clear hK K
  refine wg_row_load (by rfl) .u64 24 _ rfl (k11.heap.size) 0 rfl A KP8r.out 4 22 Tryd.underlying24 (size_v HA.out) (fun K hK => ?_)
  go_simp
  refine hK _ ?_
  clear hK K
  refine wg_value (by rfl) (.pointer (some ⟨k11.heap.size, 4, none⟩)) (fun u hu => by go_simp) (fun K hK => ?_)
  go_simp
  refine hK _ ?_
  clear hK K
  refine wg_value (by rfl) (.int .i64 (nA : Int)) (fun u hu => by have hc := KP8d.out u hu; go_simp) (fun K hK => ?_)
  go_simp
  refine hK _ ?_
  clear hK K
  refine wg_sv_load (by rfl) 26 _ rfl (k11.heap.size) rfl A (nA : Int) KP8.out _ Tryd.underlying26 rfl (size_s HA.out) (fun K hK => ?_)
  go_simp
  refine hK _ ?_
  clear hK K
  refine wg_call (by rfl) 19 Tryd.f19 Tryd.func19 rfl rfl _ _ rfl _ rfl (.int .u64 (x : Int)) (by exact KC1.out) (fun K hK => ?_)
  go_simp
  refine hK _ ?_
  clear hK K
  refine wg_value (by rfl) (.int .u64 (m : Int)) (fun u hu => by have hw := EM.out; go_simp) (fun K hK => ?_)
  go_simp
  refine hK _ ?_
  clear hK K
  refine wg_call (by rfl) 31 Tryd.f31 Tryd.func31 rfl rfl _ _ rfl _ rfl (AV .u64 (V.with_ A (nA : Int) m)) (by exact KC2.out) (fun K hK => ?_)
  go_simp
  refine hK _ ?_
  clear hK K
  refine wg_call (by rfl) 23 Tryd.f23 Tryd.func23 rfl rfl _ _ rfl _ rfl (.bool false) (by exact KC3.out) (fun K hK => ?_)
  go_simp
  refine hK _ ?_
  clear hK K
  refine wg_value (by rfl) (.bool true) (fun u hu => by go_simp) (fun K hK => ?_)
  go_simp
  refine hK _ ?_
  clear hK K
  refine w_value rfl (.bool true) (fun u hu => by go_simp) (fun K hK => ?_)
  go_simp
  refine hK _ ?_
  clear hK K
  refine w_move rfl _ rfl (.bool true) rfl (fun K hK => ?_)
  go_simp
  refine hK _ ?_
  clear hK K
  refine wg_sv_load (by rfl) 26 _ rfl (k11.heap.size) rfl A (nA : Int) KP8.out _ Tryd.underlying26 rfl (size_s HA.out) (fun K hK => ?_)
  go_simp
  refine hK _ ?_
  clear hK K
  refine wg_arr_load (by rfl) .u64 24 _ rfl (k16.heap.size) rfl B KP9.out 4 22 Tryd.underlying24 (size_v HB.out) (fun K hK => ?_)
  go_simp
  refine hK _ ?_
  clear hK K
  refine wg_call (by rfl) 23 Tryd.f23 Tryd.func23 rfl rfl _ _ rfl _ rfl (.bool qb) (by exact KC4.out) (fun K hK => ?_)
  go_simp
  refine hK _ ?_
  clear hK K
  cases qb with
  | false =>
    refine wg_value (by rfl) (.bool true) (fun u hu => by go_simp) (fun K hK => ?_)
    go_simp
    refine hK _ ?_
    clear hK K
    refine wg_value (by rfl) (.bool true) (fun u hu => by go_simp) (fun K hK => ?_)
    go_simp
    refine hK _ ?_
    clear hK K
    refine w_skip 25 false ((some true)) rfl rfl rfl (fun K hK => ?_)
    go_simp
    refine hK _ ?_
    clear hK K
    refine w_skip 25 false ((some true)) rfl rfl rfl (fun K hK => ?_)
    go_simp
    refine hK _ ?_
    clear hK K
    refine w_skip 25 false ((some true)) rfl rfl rfl (fun K hK => ?_)
    go_simp
    refine hK _ ?_
    clear hK K
    refine wg_value (by rfl) (.bool true) (fun u hu => by go_simp) (fun K hK => ?_)
    go_simp
    refine hK _ ?_
    clear hK K
    refine w_value rfl (.bool true) (fun u hu => by go_simp) (fun K hK => ?_)
    go_simp
    refine hK _ ?_
    clear hK K
    refine w_move rfl _ rfl (.bool true) rfl (fun K hK => ?_)
    go_simp
    refine hK _ ?_
    clear hK K
    refine wg_sv_load (by rfl) 26 _ rfl (k11.heap.size) rfl A (nA : Int) KP8.out _ Tryd.underlying26 rfl (size_s HA.out) (fun K hK => ?_)
    go_simp
    refine hK _ ?_
    clear hK K
    refine wg_arr_load (by rfl) .u64 24 _ rfl (k16.heap.size) rfl B KP9.out 4 22 Tryd.underlying24 (size_v HB.out) (fun K hK => ?_)
    go_simp
    refine hK _ ?_
    clear hK K
    refine wg_arr_load (by rfl) .u64 24 _ rfl (k21.heap.size) rfl C KP10.out 4 22 Tryd.underlying24 (size_v HC.out) (fun K hK => ?_)
    go_simp
    refine hK _ ?_
    clear hK K
    refine wg_call (by rfl) 32 Tryd.f32 Tryd.func32 rfl rfl _ _ rfl _ rfl (AV .u64 (V.meet B C)) (by exact KC5.out) (fun K hK => ?_)
    go_simp
    refine hK _ ?_
    clear hK K
    refine wg_call (by rfl) 23 Tryd.f23 Tryd.func23 rfl rfl _ _ rfl _ rfl (.bool qm) (by exact KC6.out) (fun K hK => ?_)
    go_simp
    refine hK _ ?_
    clear hK K
    refine wg_sv_load (by rfl) 26 _ rfl (k11.heap.size) rfl A (nA : Int) KP8.out _ Tryd.underlying26 rfl (size_s HA.out) (fun K hK => ?_)
    go_simp
    refine hK _ ?_
    clear hK K
    refine wg_arr_load (by rfl) .u64 24 _ rfl (k16.heap.size) rfl B KP9.out 4 22 Tryd.underlying24 (size_v HB.out) (fun K hK => ?_)
    go_simp
    refine hK _ ?_
    clear hK K
    refine wg_call (by rfl) 23 Tryd.f23 Tryd.func23 rfl rfl _ _ rfl _ rfl (.bool false) (by exact KC4.out) (fun K hK => ?_)
    go_simp
    refine hK _ ?_
    clear hK K
    refine wg_value (by rfl) (.bool false) (fun u hu => by go_simp) (fun K hK => ?_)
    go_simp
    refine hK _ ?_
    clear hK K
    refine w_skip 40 true ((some false)) rfl rfl rfl (fun K hK => ?_)
    go_simp
    refine hK _ ?_
    clear hK K
    refine w_skip 40 true ((some false)) rfl rfl rfl (fun K hK => ?_)
    go_simp
    refine hK _ ?_
    clear hK K
    refine w_skip 40 true ((some false)) rfl rfl rfl (fun K hK => ?_)
    go_simp
    refine hK _ ?_
    clear hK K
    refine wg_value (by rfl) (.bool false) (fun u hu => by go_simp) (fun K hK => ?_)
    go_simp
    refine hK _ ?_
    clear hK K
    refine wg_value (by rfl) (.bool true) (fun u hu => by have hq := QE.out; simp only [Bool.and_true, Bool.and_false, Bool.true_and, Bool.false_and] at hq; rw [hq]; go_simp) (fun K hK => ?_)
    go_simp
    refine hK _ ?_
    clear hK K
    refine w_value rfl (.bool true) (fun u hu => by go_simp) (fun K hK => ?_)
    go_simp
    refine hK _ ?_
    clear hK K
    refine w_assign rfl _ rfl (.bool true) rfl (fun K hK => ?_)
    go_simp
    refine hK _ ?_
    clear hK K
    refine w_nil ?_
    intro u hu
    have HW9 : Hid (Below w.heap.size w u) := (Kept.below M30.out hu).under
    clear hu
    go_wp2_with fail
    go_ret
    exact ⟨rfl, HW9.out⟩
  | true =>
    refine wg_value (by rfl) (.bool false) (fun u hu => by go_simp) (fun K hK => ?_)
    go_simp
    refine hK _ ?_
    clear hK K
    refine wg_value (by rfl) (.bool false) (fun u hu => by go_simp) (fun K hK => ?_)
    go_simp
    refine hK _ ?_
    clear hK K
    refine wg_sv_load (by rfl) 26 _ rfl (k11.heap.size) rfl A (nA : Int) KP8.out _ Tryd.underlying26 rfl (size_s HA.out) (fun K hK => ?_)
    go_simp
    refine hK _ ?_
    clear hK K
    refine wg_arr_load (by rfl) .u64 24 _ rfl (k26.heap.size) rfl (V.join B C) KP11.out 4 22 Tryd.underlying24 (size_v (V.join_length HB.out HC.out)) (fun K hK => ?_)
    go_simp
    refine hK _ ?_
    clear hK K
    refine wg_call (by rfl) 23 Tryd.f23 Tryd.func23 rfl rfl _ _ rfl _ rfl (.bool true) (by exact (KC7.out rfl)) (fun K hK => ?_)
    go_simp
    refine hK _ ?_
    clear hK K
    refine wg_value (by rfl) (.bool true) (fun u hu => by go_simp) (fun K hK => ?_)
    go_simp
    refine hK _ ?_
    clear hK K
    refine w_value rfl (.bool true) (fun u hu => by go_simp) (fun K hK => ?_)
    go_simp
    refine hK _ ?_
    clear hK K
    refine w_move rfl _ rfl (.bool true) rfl (fun K hK => ?_)
    go_simp
    refine hK _ ?_
    clear hK K
    refine wg_sv_load (by rfl) 26 _ rfl (k11.heap.size) rfl A (nA : Int) KP8.out _ Tryd.underlying26 rfl (size_s HA.out) (fun K hK => ?_)
    go_simp
    refine hK _ ?_
    clear hK K
    refine wg_arr_load (by rfl) .u64 24 _ rfl (k16.heap.size) rfl B KP9.out 4 22 Tryd.underlying24 (size_v HB.out) (fun K hK => ?_)
    go_simp
    refine hK _ ?_
    clear hK K
    refine wg_arr_load (by rfl) .u64 24 _ rfl (k21.heap.size) rfl C KP10.out 4 22 Tryd.underlying24 (size_v HC.out) (fun K hK => ?_)
    go_simp
    refine hK _ ?_
    clear hK K
    refine wg_call (by rfl) 32 Tryd.f32 Tryd.func32 rfl rfl _ _ rfl _ rfl (AV .u64 (V.meet B C)) (by exact KC5.out) (fun K hK => ?_)
    go_simp
    refine hK _ ?_
    clear hK K
    refine wg_call (by rfl) 23 Tryd.f23 Tryd.func23 rfl rfl _ _ rfl _ rfl (.bool qm) (by exact KC6.out) (fun K hK => ?_)
    go_simp
    refine hK _ ?_
    clear hK K
    refine wg_sv_load (by rfl) 26 _ rfl (k11.heap.size) rfl A (nA : Int) KP8.out _ Tryd.underlying26 rfl (size_s HA.out) (fun K hK => ?_)
    go_simp
    refine hK _ ?_
    clear hK K
    refine wg_arr_load (by rfl) .u64 24 _ rfl (k16.heap.size) rfl B KP9.out 4 22 Tryd.underlying24 (size_v HB.out) (fun K hK => ?_)
    go_simp
    refine hK _ ?_
    clear hK K
    refine wg_call (by rfl) 23 Tryd.f23 Tryd.func23 rfl rfl _ _ rfl _ rfl (.bool true) (by exact KC4.out) (fun K hK => ?_)
    go_simp
    refine hK _ ?_
    clear hK K
    refine wg_value (by rfl) (.bool true) (fun u hu => by go_simp) (fun K hK => ?_)
    go_simp
    refine hK _ ?_
    clear hK K
    refine wg_sv_load (by rfl) 26 _ rfl (k11.heap.size) rfl A (nA : Int) KP8.out _ Tryd.underlying26 rfl (size_s HA.out) (fun K hK => ?_)
    go_simp
    refine hK _ ?_
    clear hK K
    refine wg_arr_load (by rfl) .u64 24 _ rfl (k21.heap.size) rfl C KP10.out 4 22 Tryd.underlying24 (size_v HC.out) (fun K hK => ?_)
    go_simp
    refine hK _ ?_
    clear hK K
    cases qc with
    | false =>
      refine wg_call (by rfl) 23 Tryd.f23 Tryd.func23 rfl rfl _ _ rfl _ rfl (.bool false) (by exact KC8.out) (fun K hK => ?_)
      go_simp
      refine hK _ ?_
      clear hK K
      refine wg_value (by rfl) (.bool false) (fun u hu => by go_simp) (fun K hK => ?_)
      go_simp
      refine hK _ ?_
      clear hK K
      refine wg_value (by rfl) (.bool true) (fun u hu => by have hq := QE.out; simp only [Bool.and_true, Bool.and_false, Bool.true_and, Bool.false_and] at hq; rw [hq]; go_simp) (fun K hK => ?_)
      go_simp
      refine hK _ ?_
      clear hK K
      refine w_value rfl (.bool true) (fun u hu => by go_simp) (fun K hK => ?_)
      go_simp
      refine hK _ ?_
      clear hK K
      refine w_assign rfl _ rfl (.bool true) rfl (fun K hK => ?_)
      go_simp
      refine hK _ ?_
      clear hK K
      refine w_nil ?_
      intro u hu
      have HW9 : Hid (Below w.heap.size w u) := (Kept.below M30.out hu).under
      clear hu
      go_wp2_with fail
      go_ret
      exact ⟨rfl, HW9.out⟩
    | true =>
      refine wg_call (by rfl) 23 Tryd.f23 Tryd.func23 rfl rfl _ _ rfl _ rfl (.bool true) (by exact KC8.out) (fun K hK => ?_)
      go_simp
      refine hK _ ?_
      clear hK K
      refine wg_value (by rfl) (.bool true) (fun u hu => by go_simp) (fun K hK => ?_)
      go_simp
      refine hK _ ?_
      clear hK K
      refine wg_value (by rfl) (.bool true) (fun u hu => by have hq := QE.out; simp only [Bool.and_true, Bool.and_false, Bool.true_and, Bool.false_and] at hq; rw [hq]; go_simp) (fun K hK => ?_)
      go_simp
      refine hK _ ?_
      clear hK K
      refine w_value rfl (.bool true) (fun u hu => by go_simp) (fun K hK => ?_)
      go_simp
      refine hK _ ?_
      clear hK K
      refine w_assign rfl _ rfl (.bool true) rfl (fun K hK => ?_)
      go_simp
      refine hK _ ?_
      clear hK K
      refine w_nil ?_
      intro u hu
      have HW9 : Hid (Below w.heap.size w u) := (Kept.below M30.out hu).under
      clear hu
      go_wp2_with fail
      go_ret
      exact ⟨rfl, HW9.out⟩

set_option maxRecDepth 100000 in
theorem lifted (os : Os) (started : os.Started) (H : Type) (enc : TypeId × Value → H) (F : Stop.Interp) :
    ReturnsInHanded {} Tryd.checked os 6 .any ((OpenSpec.ofChange Rows.stampSeenSpec).preRow enc Tryd.prog Tryd.f6 Rows.stampSeenRow.domain false Rows.stampSeenRow.laid) (((OpenSpec.ofChange Rows.stampSeenSpec).at F).post enc Tryd.prog Tryd.f6 false true false false) := by
  have hx : ∃ places, DataW.whole enc Tryd.prog ((laidWorld os).forCall (fun _ _ => 0) ⟨#[], #[.agg #[.int .u64 0, .int .u64 0, .int .u64 0, .int .u64 0, .int .i64 0, .bool false], .agg #[.int .u64 0, .int .u64 0, .int .u64 0, .int .u64 0, .bool false], .agg #[.int .u64 0, .int .u64 0, .int .u64 0, .int .u64 0, .bool false]], []⟩).memory Tryd.f6.params.toList Rows.stampSeenSpec.vars false #[Value.agg #[.int .u64 0, .int .u64 0, .int .u64 0, .int .u64 0, .int .i64 0, .bool false], Value.agg #[.int .u64 0, .int .u64 0, .int .u64 0, .int .u64 0, .bool false], Value.agg #[.int .u64 0, .int .u64 0, .int .u64 0, .int .u64 0, .bool false]].toList 8 = some ([.agg [.agg [.agg [.lit (.int .u64 0), .lit (.int .u64 0), .lit (.int .u64 0), .lit (.int .u64 0)], .lit (.int .i64 0)], .lit (.bool false)], .agg [.agg [.lit (.int .u64 0), .lit (.int .u64 0), .lit (.int .u64 0), .lit (.int .u64 0)], .lit (.bool false)], .agg [.agg [.lit (.int .u64 0), .lit (.int .u64 0), .lit (.int .u64 0), .lit (.int .u64 0)], .lit (.bool false)]], [], places) := ⟨[], by kernel_rfl⟩
  obtain ⟨places, hx⟩ := hx
  refine returnsInHanded_of_row (C := Tryd.checked) (s := OpenSpec.ofChange Rows.stampSeenSpec) own started (by kernel_rfl) Tryd.func6
    (witness_row_at (enc := enc) (C := Tryd.checked) false (laidWorld os) #[.agg #[.int .u64 0, .int .u64 0, .int .u64 0, .int .u64 0, .int .i64 0, .bool false], .agg #[.int .u64 0, .int .u64 0, .int .u64 0, .int .u64 0, .bool false], .agg #[.int .u64 0, .int .u64 0, .int .u64 0, .int .u64 0, .bool false]] rfl (by kernel_rfl) (by kernel_rfl) (by kernel_rfl)
      (OpenSpec.preRow_of_cond 8 hx (by kernel_rfl) (fun k hk => by cases hk) (by kernel_rfl) (laidMet_of_run' 8 (by kernel_rfl) (by kernel_rfl)))) ?_
  intro W base args ds gs before hval0 hW hcnd hcond hsz0 hL _ _
  have hT : Fm.Tab W := tab_of hL
  have hval : ∀ (j : Nat) t v, Tryd.f6.params[j]? = some t → args[j]? = some v → Value.okWide Tryd.prog W .any base t v := hval0
  have hW' := hW
  obtain ⟨p, q, hA0, hV, rfl, hfz, hnd⟩ := hW
  have hA : DataW.TrodAll enc Tryd.prog W 0 (fun _ => true) true Tryd.f6.params.toList args.toList ds p := hA0
  have hsz : (DataW.weightsEach Tryd.prog (Tryd.f6.params.toList ++ Rows.stampSeenSpec.plain.varTypes Tryd.prog) (ds ++ gs)).all (· ≤ reachBytes) = true := hsz0
  rw [Tryd.params6] at hA hval hsz
  obtain ⟨rfl, rfl⟩ := trodVars_none hV
  have hAk := hA
  have hlt : ∀ x ∈ p, x.block < W.heap.size := fun x hx => by simpa using hW'.lt x (List.mem_append.2 (.inl hx))
  obtain ⟨v0, vs0, d0, ds0, p0, q0, hargs, rfl, rfl, h0, r0⟩ := trodAll_cons hA
  obtain ⟨v1, vs1, d1, ds1, p1, q1, rfl, rfl, rfl, h1, r1⟩ := trodAll_cons r0
  obtain ⟨v2, vs2, d2, ds2, p2, q2, rfl, rfl, rfl, h2, r2⟩ := trodAll_cons r1
  obtain ⟨rfl, rfl, rfl⟩ := trodAll_nil r2
  obtain rfl : args = #[v0, v1, v2] := by cases args; simp_all
  obtain ⟨a0, dd0, o0, rfl, w0⟩ := open_mark (hval 0 28 v0 rfl rfl) h0
  obtain ⟨a1, o1, rfl, w1⟩ := open_vector (hval 1 30 v1 rfl rfl) h1
  obtain ⟨a2, o2, rfl, w2⟩ := open_vector (hval 2 30 v2 rfl rfl) h2
  clear hA0 hval0 hsz0
  refine (walk a0 dd0 o0 a1 o1 a2 o2 w0 w1 w2 W hT).mono fun e W' ⟨he, hg⟩ => ?_
  subst he
  exact ⟨_, rfl, _, _, _, [], _, [], hW', (trodAll_cons_mk (shut_bool Tryd.underlying4 _) trodAll_mk0), trodAll_below laidOut hg _ _ _ _ (by kernel_rfl) hAk hlt, rfl, hg.frame _, fun h => by cases h⟩

theorem over : Rows.stampSeenRow.holds Tryd.pinned (OpenSpec.ofChange Rows.stampSeenSpec) :=
  OpenClaim.holds_of_cond 6 Tryd.f6 rfl rfl rfl rfl rfl rfl rfl ⟨rfl, rfl, rfl, rfl, rfl⟩ rfl rfl rfl rfl rfl (by kernel_rfl) Tryd.func6 (by kernel_rfl)
    (of_decide_eq_true (by kernel_rfl)) (by unfold Func.isWrapper; first | (rw [if_pos (by decide +kernel)]; kernel_rfl) | (rw [if_neg (by decide +kernel)]; exact ⟨rfl, rfl⟩))
    (fun os started H enc _ F => by rw [OpenClaim.pre_eq_preRow]; exact lifted os started H enc F)

set_option maxRecDepth 100000 in
theorem plain (f : FuncId) (fn : Func) (hf : Tryd.pinned.checked.prog.funcNamed "tenement/tenementlaw07.StampSeen" = some f) (hfn : Tryd.pinned.checked.prog.funcs[f]? = some fn) :
    false = Tryd.pinned.checked.prog.looks [] ∧ ∀ (j : Nat) t, fn.params[j]? = some t → Tryd.pinned.checked.prog.wantsStandIn t = false := by
  obtain rfl : f = 6 := Option.some.inj ((show Tryd.prog.funcNamed "tenement/tenementlaw07.StampSeen" = some 6 by kernel_rfl).symm.trans hf) |>.symm
  obtain rfl : fn = Tryd.f6 := (Option.some.inj (Tryd.func6.symm.trans hfn)).symm
  refine ⟨by kernel_rfl, fun j t ht => ?_⟩
  rw [Tryd.params6] at ht
  have hm := Array.mem_of_getElem? ht
  simp only [List.mem_toArray, List.mem_cons, List.not_mem_nil, or_false] at hm
  rcases hm with rfl | rfl | rfl
  all_goals first | exact (show Tryd.prog.wantsStandIn 28 = false by kernel_rfl) | exact (show Tryd.prog.wantsStandIn 30 = false by kernel_rfl)

/-- the statement -/
theorem proved : Rows.StampSeenCardSaid :=
  Claim7.holds_tied_plain_at .later [] _ _ _ _ over (fun _ h => by cases h) (by kernel_rfl) (fun _ h => by cases h) stampSeen_row_tie rfl ⟨rfl, rfl⟩ (by kernel_rfl) rfl plain (by kernel_rfl)
#print axioms proved

end Go.Proofs.YtnmggefbajoadaaDoor.stampSeen
