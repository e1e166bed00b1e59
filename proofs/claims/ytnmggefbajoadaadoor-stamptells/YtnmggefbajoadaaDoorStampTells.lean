/-
  Any two stamps are right, or not, held against one another, seen, or not, put, told, as the chapter says: true for every argument (the law StampTells). No conditions.
-/
import Derived.Test.YtnmggefbajoadaaDoorFrameTab

import Derived.Test.YtnmggefbajoadaaDoorStampEx

import Derived.Test.YtnmggefbajoadaaDoorStampOf

import Derived.Test.YtnmggefbajoadaaDoorStampRA

import Derived.Test.YtnmggefbajoadaaDoorStampRB

import Derived.Test.YtnmggefbajoadaaDoorFrameMark

import Derived.Test.YtnmggefbajoadaaDoorFrameVec7

namespace Go.Proofs.YtnmggefbajoadaaDoor.stampTells

open Go.ChangeShapes Go.WideShapes Go.ChangeAt Go.RowKit

open Go.Proofs.YtnmggefbajoadaaDoor.Vc Go.Proofs.YtnmggefbajoadaaDoor.Sp

open Go.ChangeMaps (open_string shut_string)

set_option linter.unusedVariables false

set_option linter.unusedSimpArgs false

theorem later_len4 {a b : List Nat} {d e : Int} (ha : a.length = 4) (hb : b.length = 4) : (T.later a d b e).1.length = 4 := by
  unfold T.later
  split
  · exact ha
  · exact hb
set_option maxHeartbeats 16000000 in
set_option maxRecDepth 100000 in
theorem walk (a0 : List Nat) (d0 : Int) (o0 : Bool) (a1 : List Nat) (d1 : Int) (o1 : Bool) (a2 : List Nat) (o2 : Bool) (w0 : V.Ok a0 ∧ (Lit.int .i64 d0).wf = true) (w1 : V.Ok a1 ∧ (Lit.int .i64 d1).wf = true) (w2 : V.Ok a2) (w : World) (hT : Fm.Tab w) :
    Calls Tryd.prog 3 #[MV a0 d0 o0, MV a1 d1 o1, VV a2 o2] w fun e w' => e = .returned (.bool true) ∧ Below w.heap.size w w' := by
  have CE := Lib.hid examples_any
  have CM0 := Lib.hid (fun w => mark_any a0 d0 o0 w w0.1 w0.2)
  have HL0 := Lib.hid w0.1.len
  have hd0 : -9223372036854775808 ≤ d0 ∧ d0 ≤ 9223372036854775807 := by simpa [Lit.wf, IntKind.min, IntKind.max, IntKind.signed, IntKind.bits] using w0.2
  have ok0 := T.mark_ok w0.1 d0 o0
  have dd0 : -9223372036854775808 ≤ (T.mark a0 d0 o0).2 ∧ (T.mark a0 d0 o0).2 ≤ 9223372036854775807 := by
    unfold T.mark
    split
    · have := T.markd_le d0
      exact ⟨by show _ ≤ (T.markd d0 : Int); omega, by show (T.markd d0 : Int) ≤ _; omega⟩
    · exact hd0
  obtain ⟨⟨A, D⟩, EA⟩ : ∃ r, Hid (T.mark a0 d0 o0 = r) := ⟨_, rfl⟩
  rw [EA.out] at ok0 CM0 dd0
  have OA : Hid (V.Ok A) := ok0
  have HA : Hid (A.length = 4) := OA.out.len
  have HD : Hid (-9223372036854775808 ≤ D ∧ D ≤ 9223372036854775807) := dd0
  have CM1 := Lib.hid (fun w => mark_any a1 d1 o1 w w1.1 w1.2)
  have HL1 := Lib.hid w1.1.len
  have hd1 : -9223372036854775808 ≤ d1 ∧ d1 ≤ 9223372036854775807 := by simpa [Lit.wf, IntKind.min, IntKind.max, IntKind.signed, IntKind.bits] using w1.2
  have ok1 := T.mark_ok w1.1 d1 o1
  have dd1 : -9223372036854775808 ≤ (T.mark a1 d1 o1).2 ∧ (T.mark a1 d1 o1).2 ≤ 9223372036854775807 := by
    unfold T.mark
    split
    · have := T.markd_le d1
      exact ⟨by show _ ≤ (T.markd d1 : Int); omega, by show (T.markd d1 : Int) ≤ _; omega⟩
    · exact hd1
  obtain ⟨⟨B, E⟩, EB⟩ : ∃ r, Hid (T.mark a1 d1 o1 = r) := ⟨_, rfl⟩
  rw [EB.out] at ok1 CM1 dd1
  have OB : Hid (V.Ok B) := ok1
  have HB : Hid (B.length = 4) := OB.out.len
  have HE : Hid (-9223372036854775808 ≤ E ∧ E ≤ 9223372036854775807) := dd1
  obtain ⟨C, EC⟩ : ∃ r, Hid (V.few a2 o2 = r) := ⟨_, rfl⟩
  have OC : Hid (V.Ok C) := by rw [← EC.out]; exact V.few_ok w2 o2
  have HC : Hid (C.length = 4) := OC.out.len
  have HL2 := Lib.hid w2.len
  have CV2 := Lib.hid (fun w => vector_any a2 o2 w w2)
  rw [EC.out] at CV2
  have HT := Lib.hid hT
  have CP := Lib.hid (fun w => sput_any A D w OA.out)
  have CRP := Lib.hid (fun w => ref_sput A D w OA.out)
  have CF := Lib.hid (fun w => refstamp_any A D w HA.out)
  obtain ⟨s, QP⟩ : ∃ r, Hid (T.puts A D = r) := ⟨_, rfl⟩
  obtain ⟨rr, QR⟩ : ∃ r, Hid (T.right A D = r) := ⟨_, rfl⟩
  rw [QP.out, QR.out] at CP CRP
  obtain ⟨n, QN⟩ : ∃ r, Hid (V.at_ A D = r) := ⟨_, rfl⟩
  obtain ⟨x, QO⟩ : ∃ r, Hid (T.order A D B E = r) := ⟨_, rfl⟩
  obtain ⟨q, QS⟩ : ∃ r, Hid (V.leq A C = r) := ⟨_, rfl⟩
  obtain ⟨t, QT⟩ : ∃ r, Hid (P.S (T.text A D) = r) := ⟨_, rfl⟩
  have k1 := later_len4 (d := D) (e := E) HA.out HB.out
  obtain ⟨⟨l1, m1⟩, P1⟩ : ∃ r, Hid (T.later A D B E = r) := ⟨_, rfl⟩
  rw [P1.out] at k1
  have K1 : Hid (l1.length = 4) := k1
  have HQL : Hid (∀ u, (binOp .eql 39 (SV l1 m1) (SV l1 m1)).run Tryd.prog u = .ok (.bool true) u) := fun u => by rw [eql_rs l1 l1 m1 m1 K1.out K1.out u]; simp [T.same]
  clear hd0 hd1 ok0 ok1 dd0 dd1 k1 w0 w1 w2 hT
  go_enter Tryd.func3, Tryd.ntmps3
  have M0 : Hid (Kept w w []) := Kept.start w
  go_wp2_with (first | refine blk_box rfl 28 _ rfl (ks .u64 a0 ++ [Value.int .i64 d0, Value.bool o0]) rfl ?_)
  intro k1 A1 B1 Z1
  have M2 : Hid (Kept w k1 [(w.heap.size, ks .u64 a0 ++ [Value.int .i64 d0, Value.bool o0])]) := Kept.new M0.out B1 Z1 A1
  clear A1 B1 M0
  go_wp2_with (first | refine blk_box rfl 28 _ rfl (ks .u64 a1 ++ [Value.int .i64 d1, Value.bool o1]) rfl ?_)
  intro k3 A3 B3 Z3
  have M4 : Hid (Kept w k3 [(w.heap.size + 1, ks .u64 a1 ++ [Value.int .i64 d1, Value.bool o1]), (w.heap.size, ks .u64 a0 ++ [Value.int .i64 d0, Value.bool o0])]) := Kept.newAt M2.out Z1 B3 Z3 A3
  clear A3 B3 M2
  go_wp2_with (first | refine blk_box rfl 30 _ rfl (ks .u64 a2 ++ [Value.bool o2]) rfl ?_)
  intro k5 A5 B5 Z5
  have M6 : Hid (Kept w k5 [(w.heap.size + 2, ks .u64 a2 ++ [Value.bool o2]), (w.heap.size + 1, ks .u64 a1 ++ [Value.int .i64 d1, Value.bool o1]), (w.heap.size, ks .u64 a0 ++ [Value.int .i64 d0, Value.bool o0])]) := Kept.newAt M4.out Z3 B5 Z5 A5
  clear A5 B5 M4
  go_wp2_with fail
  clear Z1 Z3 Z5
  refine (CE.out _).mono ?_; rintro e k7 ⟨rfl, hb7⟩
  have M8 : Hid (Kept w k7 [(w.heap.size + 2, ks .u64 a2 ++ [Value.bool o2]), (w.heap.size + 1, ks .u64 a1 ++ [Value.int .i64 d1, Value.bool o1]), (w.heap.size, ks .u64 a0 ++ [Value.int .i64 d0, Value.bool o0])]) := Kept.below M6.out hb7
  clear hb7 M6
  go_wp2_with (first | refine blk_load rfl 28 _ rfl (w.heap.size) rfl (ks .u64 a0 ++ [Value.int .i64 d0, Value.bool o0]) (Kept.get M8.out 2 rfl) _ Tryd.underlying28 rfl (size_m HL0.out) ?_)
  refine (CM0.out _).mono ?_; rintro e k9 ⟨rfl, hb9⟩
  have M10 : Hid (Kept w k9 [(w.heap.size + 2, ks .u64 a2 ++ [Value.bool o2]), (w.heap.size + 1, ks .u64 a1 ++ [Value.int .i64 d1, Value.bool o1]), (w.heap.size, ks .u64 a0 ++ [Value.int .i64 d0, Value.bool o0])]) := Kept.below M8.out hb9
  clear hb9 M8
  go_wp2_with (first | refine blk_alloc rfl 26 (ks .u64 (List.replicate 4 0) ++ [Value.int .i64 0]) rfl Tryd.info_s ?_)
  intro k11 A11 B11 Z11
  go_wp2_with (first | refine blk_store rfl 26 _ _ rfl k9.heap.size rfl (ks .u64 A ++ [Value.int .i64 D]) rfl _ A11 (sv_len HA.out) (size_s HA.out) (one_sv _ _) ?_)
  intro k12 A12 U12
  have M13 : Hid (Kept w k12 [(k9.heap.size, ks .u64 A ++ [Value.int .i64 D]), (w.heap.size + 2, ks .u64 a2 ++ [Value.bool o2]), (w.heap.size + 1, ks .u64 a1 ++ [Value.int .i64 d1, Value.bool o1]), (w.heap.size, ks .u64 a0 ++ [Value.int .i64 d0, Value.bool o0])]) := Kept.fresh M10.out B11 Z11 U12 A12
  clear A11 B11 Z11 A12 U12 M10
  go_wp2_with (first | refine blk_load rfl 28 _ rfl (w.heap.size + 1) rfl (ks .u64 a1 ++ [Value.int .i64 d1, Value.bool o1]) (Kept.get M13.out 2 rfl) _ Tryd.underlying28 rfl (size_m HL1.out) ?_)
  refine (CM1.out _).mono ?_; rintro e k14 ⟨rfl, hb14⟩
  have M15 : Hid (Kept w k14 [(k9.heap.size, ks .u64 A ++ [Value.int .i64 D]), (w.heap.size + 2, ks .u64 a2 ++ [Value.bool o2]), (w.heap.size + 1, ks .u64 a1 ++ [Value.int .i64 d1, Value.bool o1]), (w.heap.size, ks .u64 a0 ++ [Value.int .i64 d0, Value.bool o0])]) := Kept.below M13.out hb14
  clear hb14 M13
  go_wp2_with (first | refine blk_alloc rfl 26 (ks .u64 (List.replicate 4 0) ++ [Value.int .i64 0]) rfl Tryd.info_s ?_)
  intro k16 A16 B16 Z16
  go_wp2_with (first | refine blk_store rfl 26 _ _ rfl k14.heap.size rfl (ks .u64 B ++ [Value.int .i64 E]) rfl _ A16 (sv_len HB.out) (size_s HB.out) (one_sv _ _) ?_)
  intro k17 A17 U17
  have M18 : Hid (Kept w k17 [(k14.heap.size, ks .u64 B ++ [Value.int .i64 E]), (k9.heap.size, ks .u64 A ++ [Value.int .i64 D]), (w.heap.size + 2, ks .u64 a2 ++ [Value.bool o2]), (w.heap.size + 1, ks .u64 a1 ++ [Value.int .i64 d1, Value.bool o1]), (w.heap.size, ks .u64 a0 ++ [Value.int .i64 d0, Value.bool o0])]) := Kept.fresh M15.out B16 Z16 U17 A17
  clear A16 B16 Z16 A17 U17 M15
  go_wp2_with (first | refine blk_load rfl 30 _ rfl (w.heap.size + 2) rfl (ks .u64 a2 ++ [Value.bool o2]) (Kept.get M18.out 2 rfl) _ Tryd.underlying30 rfl (size_vv HL2.out) ?_)
  refine (CV2.out _).mono ?_; rintro e k19 ⟨rfl, hb19⟩
  have M20 : Hid (Kept w k19 [(k14.heap.size, ks .u64 B ++ [Value.int .i64 E]), (k9.heap.size, ks .u64 A ++ [Value.int .i64 D]), (w.heap.size + 2, ks .u64 a2 ++ [Value.bool o2]), (w.heap.size + 1, ks .u64 a1 ++ [Value.int .i64 d1, Value.bool o1]), (w.heap.size, ks .u64 a0 ++ [Value.int .i64 d0, Value.bool o0])]) := Kept.below M18.out hb19
  clear hb19 M18
  go_wp2_with (first | refine arr_alloc rfl .u64 24 4 rfl Tryd.info_v ?_)
  intro k21 A21 B21 Z21
  go_wp2_with (first | refine arr_store rfl .u64 24 _ _ rfl k19.heap.size rfl C rfl _ A21 (by rw [HC.out]; rfl) (size_v HC.out) ?_)
  intro k22 A22 U22
  have M23 : Hid (Kept w k22 [(k19.heap.size, ks .u64 C), (k14.heap.size, ks .u64 B ++ [Value.int .i64 E]), (k9.heap.size, ks .u64 A ++ [Value.int .i64 D]), (w.heap.size + 2, ks .u64 a2 ++ [Value.bool o2]), (w.heap.size + 1, ks .u64 a1 ++ [Value.int .i64 d1, Value.bool o1]), (w.heap.size, ks .u64 a0 ++ [Value.int .i64 d0, Value.bool o0])]) := Kept.fresh M20.out B21 Z21 U22 (Arr.blk A22)
  clear A21 B21 Z21 A22 U22 M20
  go_wp2_with (first | refine blk_load rfl 26 _ rfl (k9.heap.size) rfl (ks .u64 A ++ [Value.int .i64 D]) (Kept.get M23.out 2 rfl) _ Tryd.underlying26 rfl (size_s HA.out) ?_)
  refine (CP.out _).mono ?_; rintro e k24 ⟨rfl, hb24⟩
  have M25 : Hid (Kept w k24 [(k19.heap.size, ks .u64 C), (k14.heap.size, ks .u64 B ++ [Value.int .i64 E]), (k9.heap.size, ks .u64 A ++ [Value.int .i64 D]), (w.heap.size + 2, ks .u64 a2 ++ [Value.bool o2]), (w.heap.size + 1, ks .u64 a1 ++ [Value.int .i64 d1, Value.bool o1]), (w.heap.size, ks .u64 a0 ++ [Value.int .i64 d0, Value.bool o0])]) := Kept.below M23.out hb24
  clear hb24 M23
  go_wp2_with (first | refine blk_load rfl 26 _ rfl (k9.heap.size) rfl (ks .u64 A ++ [Value.int .i64 D]) (Kept.get M25.out 2 rfl) _ Tryd.underlying26 rfl (size_s HA.out) ?_)
  refine (CF.out _).mono ?_; rintro e k26 ⟨rfl, hb26⟩
  have M27 : Hid (Kept w k26 [(k19.heap.size, ks .u64 C), (k14.heap.size, ks .u64 B ++ [Value.int .i64 E]), (k9.heap.size, ks .u64 A ++ [Value.int .i64 D]), (w.heap.size + 2, ks .u64 a2 ++ [Value.bool o2]), (w.heap.size + 1, ks .u64 a1 ++ [Value.int .i64 d1, Value.bool o1]), (w.heap.size, ks .u64 a0 ++ [Value.int .i64 d0, Value.bool o0])]) := Kept.below M25.out hb26
  clear hb26 M25
  go_wp2_with fail
  refine (CRP.out _).mono ?_; rintro e k28 ⟨rfl, hb28⟩
  have M29 : Hid (Kept w k28 [(k19.heap.size, ks .u64 C), (k14.heap.size, ks .u64 B ++ [Value.int .i64 E]), (k9.heap.size, ks .u64 A ++ [Value.int .i64 D]), (w.heap.size + 2, ks .u64 a2 ++ [Value.bool o2]), (w.heap.size + 1, ks .u64 a1 ++ [Value.int .i64 d1, Value.bool o1]), (w.heap.size, ks .u64 a0 ++ [Value.int .i64 d0, Value.bool o0])]) := Kept.below M27.out hb28
  clear hb28 M27
  go_wp2_with fail
  have KP8 : Hid (∀ u, Below k28.heap.size k28 u → Blk u (k9.heap.size) (ks .u64 A ++ [Value.int .i64 D])) := fun u hu => (Kept.below M29.out hu).get 2 rfl
  have KP8r : Hid (∀ u, Below k28.heap.size k28 u → u.rangeAt (k9.heap.size) 0 (ks .u64 A)) := fun u hu => rowp ((Kept.below M29.out hu).get 2 rfl)
  have KP8d : Hid (∀ u, Below k28.heap.size k28 u → u.cell? ⟨k9.heap.size, 4, none⟩ = some (.int .i64 D)) := fun u hu => dc_cell ((Kept.below M29.out hu).get 2 rfl) HA.out
  have KP9 : Hid (∀ u, Below k28.heap.size k28 u → Blk u (k14.heap.size) (ks .u64 B ++ [Value.int .i64 E])) := fun u hu => (Kept.below M29.out hu).get 1 rfl
  have KP9r : Hid (∀ u, Below k28.heap.size k28 u → u.rangeAt (k14.heap.size) 0 (ks .u64 B)) := fun u hu => rowp ((Kept.below M29.out hu).get 1 rfl)
  have KP9d : Hid (∀ u, Below k28.heap.size k28 u → u.cell? ⟨k14.heap.size, 4, none⟩ = some (.int .i64 E)) := fun u hu => dc_cell ((Kept.below M29.out hu).get 1 rfl) HB.out
  have KC0 : Hid (∀ u, Below k28.heap.size k28 u → Calls Tryd.prog 15 [SV A D, SV B E].toArray u fun e u' => e = .returned (SV l1 m1) ∧ Below k28.heap.size k28 u') := fun  u hu => Calls.more hu (by have h := later_any A B D E u HA.out HB.out; rw [P1.out] at h; exact h)
  have KC1 : Hid (∀ u, Below k28.heap.size k28 u → Calls Tryd.prog 14 [SV l1 m1].toArray u fun e u' => e = .returned (SV l1 m1) ∧ Below k28.heap.size k28 u') := fun  u hu => Calls.more hu (refstamp_any l1 m1 u K1.out)
  have KC2 : Hid (∀ u, Below k28.heap.size k28 u → Calls Tryd.prog 14 [SV A D].toArray u fun e u' => e = .returned (SV A D) ∧ Below k28.heap.size k28 u') := fun  u hu => Calls.more hu (refstamp_any A D u HA.out)
  have KC3 : Hid (∀ u, Below k28.heap.size k28 u → Calls Tryd.prog 14 [SV B E].toArray u fun e u' => e = .returned (SV B E) ∧ Below k28.heap.size k28 u') := fun  u hu => Calls.more hu (refstamp_any B E u HB.out)
  have KC4 : Hid (∀ u, Below k28.heap.size k28 u → Calls Tryd.prog 16 [SV A D, SV B E].toArray u fun e u' => e = .returned (SV l1 m1) ∧ Below k28.heap.size k28 u') := fun  u hu => Calls.more hu (by have h := ref_later A B D E u HA.out HB.out; rw [P1.out] at h; exact h)
  refine region_w Tryd.mixed (by kernel_rfl) ?_
  refine w_sv_load rfl 26 _ rfl (k9.heap.size) rfl A D KP8.out _ Tryd.underlying26 rfl (size_s HA.out) (fun K hK => ?_)
  go_simp
  refine hK _ ?_
  clear hK K
  refine w_sv_load rfl 26 _ rfl (k14.heap.size) rfl B E KP9.out _ Tryd.underlying26 rfl (size_s HB.out) (fun K hK => ?_)
  go_simp
  refine hK _ ?_
  clear hK K
  refine w_call rfl 15 Tryd.f15 Tryd.func15 rfl rfl _ _ rfl _ rfl (SV l1 m1) (by exact KC0.out) (fun K hK => ?_)
  go_simp
  refine hK _ ?_
  clear hK K
  refine w_call rfl 14 Tryd.f14 Tryd.func14 rfl rfl _ _ rfl _ rfl (SV l1 m1) (by exact KC1.out) (fun K hK => ?_)
  go_simp
  refine hK _ ?_
  clear hK K
  refine w_sv_load rfl 26 _ rfl (k9.heap.size) rfl A D KP8.out _ Tryd.underlying26 rfl (size_s HA.out) (fun K hK => ?_)
  go_simp
  refine hK _ ?_
  clear hK K
  refine w_call rfl 14 Tryd.f14 Tryd.func14 rfl rfl _ _ rfl _ rfl (SV A D) (by exact KC2.out) (fun K hK => ?_)
  go_simp
  refine hK _ ?_
  clear hK K
  refine w_sv_load rfl 26 _ rfl (k14.heap.size) rfl B E KP9.out _ Tryd.underlying26 rfl (size_s HB.out) (fun K hK => ?_)
  go_simp
  refine hK _ ?_
  clear hK K
  refine w_call rfl 14 Tryd.f14 Tryd.func14 rfl rfl _ _ rfl _ rfl (SV B E) (by exact KC3.out) (fun K hK => ?_)
  go_simp
  refine hK _ ?_
  clear hK K
  refine w_call rfl 16 Tryd.f16 Tryd.func16 rfl rfl _ _ rfl _ rfl (SV l1 m1) (by exact KC4.out) (fun K hK => ?_)
  go_simp
  refine hK _ ?_
  clear hK K
  refine w_value rfl (.bool true) (fun u _ => run_eql u .eql 39 39 _ _ (SV l1 m1) (SV l1 m1) _ rfl rfl rfl (guard_rs _ _ _ _ _ _ u) (HQL.out u)) (fun K hK => ?_)
  go_simp
  refine hK _ ?_
  clear hK K
  refine w_assign rfl _ rfl (.bool true) rfl (fun K hK => ?_)
  go_simp
  refine hK _ ?_
  clear hK K
  refine w_nil ?_
  intro u9 hu9
  have MX : Hid (Kept w u9 [(k19.heap.size, ks .u64 C), (k14.heap.size, ks .u64 B ++ [Value.int .i64 E]), (k9.heap.size, ks .u64 A ++ [Value.int .i64 D]), (w.heap.size + 2, ks .u64 a2 ++ [Value.bool o2]), (w.heap.size + 1, ks .u64 a1 ++ [Value.int .i64 d1, Value.bool o1]), (w.heap.size, ks .u64 a0 ++ [Value.int .i64 d0, Value.bool o0])]) := Kept.below M29.out hu9
  clear hu9 M29
  clear KP8 KP8r KP8d KP9 KP9r KP9d KC0 KC1 KC2 KC3 KC4
  go_wp2_with fail
  have hu2 : ∀ u, Below u9.heap.size u9 u → Below w.heap.size w u := fun u hu => (Kept.below MX.out hu).under
  have KP8 : Hid (∀ u, Below u9.heap.size u9 u → Blk u (k9.heap.size) (ks .u64 A ++ [Value.int .i64 D])) := fun u hu => (Kept.below MX.out hu).get 2 rfl
  have KP8r : Hid (∀ u, Below u9.heap.size u9 u → u.rangeAt (k9.heap.size) 0 (ks .u64 A)) := fun u hu => rowp ((Kept.below MX.out hu).get 2 rfl)
  have KP8d : Hid (∀ u, Below u9.heap.size u9 u → u.cell? ⟨k9.heap.size, 4, none⟩ = some (.int .i64 D)) := fun u hu => dc_cell ((Kept.below MX.out hu).get 2 rfl) HA.out
  have KP9 : Hid (∀ u, Below u9.heap.size u9 u → Blk u (k14.heap.size) (ks .u64 B ++ [Value.int .i64 E])) := fun u hu => (Kept.below MX.out hu).get 1 rfl
  have KP9r : Hid (∀ u, Below u9.heap.size u9 u → u.rangeAt (k14.heap.size) 0 (ks .u64 B)) := fun u hu => rowp ((Kept.below MX.out hu).get 1 rfl)
  have KP9d : Hid (∀ u, Below u9.heap.size u9 u → u.cell? ⟨k14.heap.size, 4, none⟩ = some (.int .i64 E)) := fun u hu => dc_cell ((Kept.below MX.out hu).get 1 rfl) HB.out
  have KP10 : Hid (∀ u, Below u9.heap.size u9 u → Arr .u64 u (k19.heap.size) C) := fun u hu => (Kept.below MX.out hu).arr 0 rfl
  have KC0 : Hid (∀ u, Below u9.heap.size u9 u → Calls Tryd.prog 17 [SV A D].toArray u fun e u' => e = .returned (.bool rr) ∧ Below u9.heap.size u9 u') := fun  u hu => Calls.more hu (by have h := sright_any A D u HA.out; rw [QR.out] at h; exact h)
  have KC1 : Hid (∀ u, Below u9.heap.size u9 u → Calls Tryd.prog 14 [SV A D].toArray u fun e u' => e = .returned (SV A D) ∧ Below u9.heap.size u9 u') := fun  u hu => Calls.more hu (refstamp_any A D u HA.out)
  have KC2 : Hid (∀ u, Below u9.heap.size u9 u → Calls Tryd.prog 18 [SV A D].toArray u fun e u' => e = .returned (.bool rr) ∧ Below u9.heap.size u9 u') := fun  u hu => Calls.more hu (by have h := ref_sright A D u HA.out; rw [QR.out] at h; exact h)
  have KC3 : Hid (∀ u, Below u9.heap.size u9 u → Calls Tryd.prog 19 [SV A D].toArray u fun e u' => e = .returned (.int .u64 (n : Int)) ∧ Below u9.heap.size u9 u') := fun  u hu => Calls.more hu (by have h := sn_any A D u HA.out; rw [QN.out] at h; exact h)
  have KC4 : Hid (∀ u, Below u9.heap.size u9 u → Calls Tryd.prog 20 [SV A D].toArray u fun e u' => e = .returned (.int .u64 (n : Int)) ∧ Below u9.heap.size u9 u') := fun  u hu => Calls.more hu (by have h := ref_sn A D u HA.out; rw [QN.out] at h; exact h)
  have KC5 : Hid (∀ u, Below u9.heap.size u9 u → Calls Tryd.prog 21 [SV A D, SV B E].toArray u fun e u' => e = .returned (.int .i64 x) ∧ Below u9.heap.size u9 u') := fun  u hu => Calls.more hu (by have h := order_any A B D E u HA.out HB.out; rw [QO.out] at h; exact h)
  have KC6 : Hid (∀ u, Below u9.heap.size u9 u → Calls Tryd.prog 14 [SV B E].toArray u fun e u' => e = .returned (SV B E) ∧ Below u9.heap.size u9 u') := fun  u hu => Calls.more hu (refstamp_any B E u HB.out)
  have KC7 : Hid (∀ u, Below u9.heap.size u9 u → Calls Tryd.prog 22 [SV A D, SV B E].toArray u fun e u' => e = .returned (.int .i64 x) ∧ Below u9.heap.size u9 u') := fun  u hu => Calls.more hu (by have h := ref_order A B D E u HA.out HB.out; rw [QO.out] at h; exact h)
  have KC8 : Hid (∀ u, Below u9.heap.size u9 u → Calls Tryd.prog 23 [SV A D, AV .u64 C].toArray u fun e u' => e = .returned (.bool q) ∧ Below u9.heap.size u9 u') := fun  u hu => Calls.more hu (by have h := sseen_any A C D u HA.out HC.out; rw [QS.out] at h; exact h)
  have KC9 : Hid (∀ u, Below u9.heap.size u9 u → Calls Tryd.prog 24 [SV A D, AV .u64 C].toArray u fun e u' => e = .returned (.bool q) ∧ Below u9.heap.size u9 u') := fun  u hu => Calls.more hu (by have h := ref_sseen A C D u HA.out HC.out; rw [QS.out] at h; exact h)
  have KC10 : Hid (∀ u, Below u9.heap.size u9 u → Calls Tryd.prog 25 [SV A D].toArray u fun e u' => e = .returned (.string t) ∧ Below u9.heap.size u9 u') := fun  u hu => Calls.more hu (by have h := stext_any A D u OA.out HD.out.1 HD.out.2 (HT.out.below (hu2 u hu)); rw [QT.out] at h; exact h)
  have KC11 : Hid (∀ u, Below u9.heap.size u9 u → Calls Tryd.prog 26 [SV A D].toArray u fun e u' => e = .returned (.string t) ∧ Below u9.heap.size u9 u') := fun  u hu => Calls.more hu (by have h := ref_stext A D u OA.out HD.out.1 HD.out.2; rw [QT.out] at h; exact h)
  clear hu2
  refine region_w Tryd.mixed (by kernel_rfl) ?_
  refine w_move rfl _ rfl (.bool true) rfl (fun K hK => ?_)
  go_simp
  refine hK _ ?_
  clear hK K
  refine w_move rfl _ rfl (.bool true) rfl (fun K hK => ?_)
  go_simp
  refine hK _ ?_
  clear hK K
  refine wg_value (by rfl) (.bool true) (fun u hu => by go_simp) (fun K hK => ?_)
  go_simp
  refine hK _ ?_
  clear hK K
  refine w_value rfl (.bool true) (fun u hu => by go_simp) (fun K hK => ?_)
  go_simp
  refine hK _ ?_
  clear hK K
  refine w_move rfl _ rfl (.bool true) rfl (fun K hK => ?_)
  go_simp
  refine hK _ ?_
  clear hK K
  refine wg_sv_load (by rfl) 26 _ rfl (k9.heap.size) rfl A D KP8.out _ Tryd.underlying26 rfl (size_s HA.out) (fun K hK => ?_)
  go_simp
  refine hK _ ?_
  clear hK K
  refine wg_call (by rfl) 17 Tryd.f17 Tryd.func17 rfl rfl _ _ rfl _ rfl (.bool rr) (by exact KC0.out) (fun K hK => ?_)
  go_simp
  refine hK _ ?_
  clear hK K
  refine wg_sv_load (by rfl) 26 _ rfl (k9.heap.size) rfl A D KP8.out _ Tryd.underlying26 rfl (size_s HA.out) (fun K hK => ?_)
  go_simp
  refine hK _ ?_
  clear hK K
  refine wg_call (by rfl) 14 Tryd.f14 Tryd.func14 rfl rfl _ _ rfl _ rfl (SV A D) (by exact KC1.out) (fun K hK => ?_)
  go_simp
  refine hK _ ?_
  clear hK K
  refine wg_call (by rfl) 18 Tryd.f18 Tryd.func18 rfl rfl _ _ rfl _ rfl (.bool rr) (by exact KC2.out) (fun K hK => ?_)
  go_simp
  refine hK _ ?_
  clear hK K
  refine wg_value (by rfl) (.bool true) (fun u hu => by go_simp) (fun K hK => ?_)
  go_simp
  refine hK _ ?_
  clear hK K
  refine w_value rfl (.bool true) (fun u hu => by go_simp) (fun K hK => ?_)
  go_simp
  refine hK _ ?_
  clear hK K
  refine w_move rfl _ rfl (.bool true) rfl (fun K hK => ?_)
  go_simp
  refine hK _ ?_
  clear hK K
  refine wg_sv_load (by rfl) 26 _ rfl (k9.heap.size) rfl A D KP8.out _ Tryd.underlying26 rfl (size_s HA.out) (fun K hK => ?_)
  go_simp
  refine hK _ ?_
  clear hK K
  refine wg_call (by rfl) 19 Tryd.f19 Tryd.func19 rfl rfl _ _ rfl _ rfl (.int .u64 (n : Int)) (by exact KC3.out) (fun K hK => ?_)
  go_simp
  refine hK _ ?_
  clear hK K
  refine wg_sv_load (by rfl) 26 _ rfl (k9.heap.size) rfl A D KP8.out _ Tryd.underlying26 rfl (size_s HA.out) (fun K hK => ?_)
  go_simp
  refine hK _ ?_
  clear hK K
  refine wg_call (by rfl) 14 Tryd.f14 Tryd.func14 rfl rfl _ _ rfl _ rfl (SV A D) (by exact KC1.out) (fun K hK => ?_)
  go_simp
  refine hK _ ?_
  clear hK K
  refine wg_call (by rfl) 20 Tryd.f20 Tryd.func20 rfl rfl _ _ rfl _ rfl (.int .u64 (n : Int)) (by exact KC4.out) (fun K hK => ?_)
  go_simp
  refine hK _ ?_
  clear hK K
  refine wg_value (by rfl) (.bool true) (fun u hu => by go_simp) (fun K hK => ?_)
  go_simp
  refine hK _ ?_
  clear hK K
  refine w_value rfl (.bool true) (fun u hu => by go_simp) (fun K hK => ?_)
  go_simp
  refine hK _ ?_
  clear hK K
  refine w_move rfl _ rfl (.bool true) rfl (fun K hK => ?_)
  go_simp
  refine hK _ ?_
  clear hK K
  refine wg_sv_load (by rfl) 26 _ rfl (k9.heap.size) rfl A D KP8.out _ Tryd.underlying26 rfl (size_s HA.out) (fun K hK => ?_)
  go_simp
  refine hK _ ?_
  clear hK K
  refine wg_sv_load (by rfl) 26 _ rfl (k14.heap.size) rfl B E KP9.out _ Tryd.underlying26 rfl (size_s HB.out) (fun K hK => ?_)
  go_simp
  refine hK _ ?_
  clear hK K
  refine wg_call (by rfl) 21 Tryd.f21 Tryd.func21 rfl rfl _ _ rfl _ rfl (.int .i64 x) (by exact KC5.out) (fun K hK => ?_)
  go_simp
  refine hK _ ?_
  clear hK K
  refine wg_sv_load (by rfl) 26 _ rfl (k9.heap.size) rfl A D KP8.out _ Tryd.underlying26 rfl (size_s HA.out) (fun K hK => ?_)
  go_simp
  refine hK _ ?_
  clear hK K
  refine wg_call (by rfl) 14 Tryd.f14 Tryd.func14 rfl rfl _ _ rfl _ rfl (SV A D) (by exact KC1.out) (fun K hK => ?_)
  go_simp
  refine hK _ ?_
  clear hK K
  refine wg_sv_load (by rfl) 26 _ rfl (k14.heap.size) rfl B E KP9.out _ Tryd.underlying26 rfl (size_s HB.out) (fun K hK => ?_)
  go_simp
  refine hK _ ?_
  clear hK K
  refine wg_call (by rfl) 14 Tryd.f14 Tryd.func14 rfl rfl _ _ rfl _ rfl (SV B E) (by exact KC6.out) (fun K hK => ?_)
  go_simp
  refine hK _ ?_
  clear hK K
  refine wg_call (by rfl) 22 Tryd.f22 Tryd.func22 rfl rfl _ _ rfl _ rfl (.int .i64 x) (by exact KC7.out) (fun K hK => ?_)
  go_simp
  refine hK _ ?_
  clear hK K
  refine wg_value (by rfl) (.bool true) (fun u hu => by go_simp) (fun K hK => ?_)
  go_simp
  refine hK _ ?_
  clear hK K
  refine w_value rfl (.bool true) (fun u hu => by go_simp) (fun K hK => ?_)
  go_simp
  refine hK _ ?_
  clear hK K
  refine w_move rfl _ rfl (.bool true) rfl (fun K hK => ?_)
  go_simp
  refine hK _ ?_
  clear hK K
  refine wg_sv_load (by rfl) 26 _ rfl (k9.heap.size) rfl A D KP8.out _ Tryd.underlying26 rfl (size_s HA.out) (fun K hK => ?_)
  go_simp
  refine hK _ ?_
  clear hK K
  refine wg_arr_load (by rfl) .u64 24 _ rfl (k19.heap.size) rfl C KP10.out 4 22 Tryd.underlying24 (size_v HC.out) (fun K hK => ?_)
  go_simp
  refine hK _ ?_
  clear hK K
  refine wg_call (by rfl) 23 Tryd.f23 Tryd.func23 rfl rfl _ _ rfl _ rfl (.bool q) (by exact KC8.out) (fun K hK => ?_)
  go_simp
  refine hK _ ?_
  clear hK K
  refine wg_sv_load (by rfl) 26 _ rfl (k9.heap.size) rfl A D KP8.out _ Tryd.underlying26 rfl (size_s HA.out) (fun K hK => ?_)
  go_simp
  refine hK _ ?_
  clear hK K
  refine wg_call (by rfl) 14 Tryd.f14 Tryd.func14 rfl rfl _ _ rfl _ rfl (SV A D) (by exact KC1.out) (fun K hK => ?_)
  go_simp
  refine hK _ ?_
  clear hK K
  refine wg_arr_load (by rfl) .u64 24 _ rfl (k19.heap.size) rfl C KP10.out 4 22 Tryd.underlying24 (size_v HC.out) (fun K hK => ?_)
  go_simp
  refine hK _ ?_
  clear hK K
  refine wg_call (by rfl) 24 Tryd.f24 Tryd.func24 rfl rfl _ _ rfl _ rfl (.bool q) (by exact KC9.out) (fun K hK => ?_)
  go_simp
  refine hK _ ?_
  clear hK K
  refine wg_value (by rfl) (.bool true) (fun u hu => by go_simp) (fun K hK => ?_)
  go_simp
  refine hK _ ?_
  clear hK K
  refine w_value rfl (.bool true) (fun u hu => by go_simp) (fun K hK => ?_)
  go_simp
  refine hK _ ?_
  clear hK K
  refine w_move rfl _ rfl (.bool true) rfl (fun K hK => ?_)
  go_simp
  refine hK _ ?_
  clear hK K
  refine wg_value (by rfl) (.string s) (fun u hu => by go_simp) (fun K hK => ?_)
  go_simp
  refine hK _ ?_
  clear hK K
  refine wg_value (by rfl) (.string s) (fun u hu => by go_simp) (fun K hK => ?_)
  go_simp
  refine hK _ ?_
  clear hK K
  refine wg_value (by rfl) (.bool true) (fun u hu => by go_simp) (fun K hK => ?_)
  go_simp
  refine hK _ ?_
  clear hK K
  refine w_value rfl (.bool true) (fun u hu => by go_simp) (fun K hK => ?_)
  go_simp
  refine hK _ ?_
  clear hK K
  refine w_move rfl _ rfl (.bool true) rfl (fun K hK => ?_)
  go_simp
  refine hK _ ?_
  clear hK K
  refine wg_value (by rfl) (.bool rr) (fun u hu => by go_simp) (fun K hK => ?_)
  go_simp
  refine hK _ ?_
  clear hK K
  refine wg_value (by rfl) (.bool rr) (fun u hu => by go_simp) (fun K hK => ?_)
  go_simp
  refine hK _ ?_
  clear hK K
  refine wg_value (by rfl) (.bool true) (fun u hu => by go_simp) (fun K hK => ?_)
  go_simp
  refine hK _ ?_
  clear hK K
  refine w_value rfl (.bool true) (fun u hu => by go_simp) (fun K hK => ?_)
  go_simp
  refine hK _ ?_
  clear hK K
  refine w_move rfl _ rfl (.bool true) rfl (fun K hK => ?_)
  go_simp
  refine hK _ ?_
  clear hK K
  refine wg_sv_load (by rfl) 26 _ rfl (k9.heap.size) rfl A D KP8.out _ Tryd.underlying26 rfl (size_s HA.out) (fun K hK => ?_)
  go_simp
  refine hK _ ?_
  clear hK K
  refine wg_call (by rfl) 25 Tryd.f25 Tryd.func25 rfl rfl _ _ rfl _ rfl (.string t) (by exact KC10.out) (fun K hK => ?_)
  go_simp
  refine hK _ ?_
  clear hK K
  refine wg_sv_load (by rfl) 26 _ rfl (k9.heap.size) rfl A D KP8.out _ Tryd.underlying26 rfl (size_s HA.out) (fun K hK => ?_)
  go_simp
  refine hK _ ?_
  clear hK K
  refine wg_call (by rfl) 14 Tryd.f14 Tryd.func14 rfl rfl _ _ rfl _ rfl (SV A D) (by exact KC1.out) (fun K hK => ?_)
  go_simp
  refine hK _ ?_
  clear hK K
  refine wg_call (by rfl) 26 Tryd.f26 Tryd.func26 rfl rfl _ _ rfl _ rfl (.string t) (by exact KC11.out) (fun K hK => ?_)
  go_simp
  refine hK _ ?_
  clear hK K
  refine wg_value (by rfl) (.bool true) (fun u hu => by go_simp) (fun K hK => ?_)
  go_simp
  refine hK _ ?_
  clear hK K
  refine w_value rfl (.bool true) (fun u hu => by go_simp) (fun K hK => ?_)
  go_simp
  refine hK _ ?_
  clear hK K
  refine w_assign rfl _ rfl (.bool true) rfl (fun K hK => ?_)
  go_simp
  refine hK _ ?_
  clear hK K
  refine w_nil ?_
  intro u hu
  have HW9 : Hid (Below w.heap.size w u) := (Kept.below MX.out hu).under
  clear hu
  go_wp2_with fail
  go_ret
  exact ⟨rfl, HW9.out⟩

set_option maxRecDepth 100000 in
theorem lifted (os : Os) (started : os.Started) (H : Type) (enc : TypeId × Value → H) (F : Stop.Interp) :
    ReturnsInHanded {} Tryd.checked os 3 .any ((OpenSpec.ofChange Rows.stampTellsSpec).preRow enc Tryd.prog Tryd.f3 Rows.stampTellsRow.domain false Rows.stampTellsRow.laid) (((OpenSpec.ofChange Rows.stampTellsSpec).at F).post enc Tryd.prog Tryd.f3 false true false false) := by
  have hx : ∃ places, DataW.whole enc Tryd.prog ((laidWorld os).forCall (fun _ _ => 0) ⟨#[], #[.agg #[.int .u64 0, .int .u64 0, .int .u64 0, .int .u64 0, .int .i64 0, .bool false], .agg #[.int .u64 0, .int .u64 0, .int .u64 0, .int .u64 0, .int .i64 0, .bool false], .agg #[.int .u64 0, .int .u64 0, .int .u64 0, .int .u64 0, .bool false]], []⟩).memory Tryd.f3.params.toList Rows.stampTellsSpec.vars false #[Value.agg #[.int .u64 0, .int .u64 0, .int .u64 0, .int .u64 0, .int .i64 0, .bool false], Value.agg #[.int .u64 0, .int .u64 0, .int .u64 0, .int .u64 0, .int .i64 0, .bool false], Value.agg #[.int .u64 0, .int .u64 0, .int .u64 0, .int .u64 0, .bool false]].toList 8 = some ([.agg [.agg [.agg [.lit (.int .u64 0), .lit (.int .u64 0), .lit (.int .u64 0), .lit (.int .u64 0)], .lit (.int .i64 0)], .lit (.bool false)], .agg [.agg [.agg [.lit (.int .u64 0), .lit (.int .u64 0), .lit (.int .u64 0), .lit (.int .u64 0)], .lit (.int .i64 0)], .lit (.bool false)], .agg [.agg [.lit (.int .u64 0), .lit (.int .u64 0), .lit (.int .u64 0), .lit (.int .u64 0)], .lit (.bool false)]], [], places) := ⟨[], by kernel_rfl⟩
  obtain ⟨places, hx⟩ := hx
  refine returnsInHanded_of_row (C := Tryd.checked) (s := OpenSpec.ofChange Rows.stampTellsSpec) own started (by kernel_rfl) Tryd.func3
    (witness_row_at (enc := enc) (C := Tryd.checked) false (laidWorld os) #[.agg #[.int .u64 0, .int .u64 0, .int .u64 0, .int .u64 0, .int .i64 0, .bool false], .agg #[.int .u64 0, .int .u64 0, .int .u64 0, .int .u64 0, .int .i64 0, .bool false], .agg #[.int .u64 0, .int .u64 0, .int .u64 0, .int .u64 0, .bool false]] rfl (by kernel_rfl) (by kernel_rfl) (by kernel_rfl)
      (OpenSpec.preRow_of_cond 8 hx (by kernel_rfl) (fun k hk => by cases hk) (by kernel_rfl) (laidMet_of_run' 8 (by kernel_rfl) (by kernel_rfl)))) ?_
  intro W base args ds gs before hval0 hW hcnd hcond hsz0 hL _ _
  have hT : Fm.Tab W := tab_of hL
  have hval : ∀ (j : Nat) t v, Tryd.f3.params[j]? = some t → args[j]? = some v → Value.okWide Tryd.prog W .any base t v := hval0
  have hW' := hW
  obtain ⟨p, q, hA0, hV, rfl, hfz, hnd⟩ := hW
  have hA : DataW.TrodAll enc Tryd.prog W 0 (fun _ => true) true Tryd.f3.params.toList args.toList ds p := hA0
  have hsz : (DataW.weightsEach Tryd.prog (Tryd.f3.params.toList ++ Rows.stampTellsSpec.plain.varTypes Tryd.prog) (ds ++ gs)).all (· ≤ reachBytes) = true := hsz0
  rw [Tryd.params3] at hA hval hsz
  obtain ⟨rfl, rfl⟩ := trodVars_none hV
  have hAk := hA
  have hlt : ∀ x ∈ p, x.block < W.heap.size := fun x hx => by simpa using hW'.lt x (List.mem_append.2 (.inl hx))
  obtain ⟨v0, vs0, d0, ds0, p0, q0, hargs, rfl, rfl, h0, r0⟩ := trodAll_cons hA
  obtain ⟨v1, vs1, d1, ds1, p1, q1, rfl, rfl, rfl, h1, r1⟩ := trodAll_cons r0
  obtain ⟨v2, vs2, d2, ds2, p2, q2, rfl, rfl, rfl, h2, r2⟩ := trodAll_cons r1
  obtain ⟨rfl, rfl, rfl⟩ := trodAll_nil r2
  obtain rfl : args = #[v0, v1, v2] := by cases args; simp_all
  obtain ⟨a0, dd0, o0, rfl, w0⟩ := open_mark (hval 0 28 v0 rfl rfl) h0
  obtain ⟨a1, dd1, o1, rfl, w1⟩ := open_mark (hval 1 28 v1 rfl rfl) h1
  obtain ⟨a2, o2, rfl, w2⟩ := open_vector (hval 2 30 v2 rfl rfl) h2
  clear hA0 hval0 hsz0
  refine (walk a0 dd0 o0 a1 dd1 o1 a2 o2 w0 w1 w2 W hT).mono fun e W' ⟨he, hg⟩ => ?_
  subst he
  exact ⟨_, rfl, _, _, _, [], _, [], hW', (trodAll_cons_mk (shut_bool Tryd.underlying4 _) trodAll_mk0), trodAll_below laidOut hg _ _ _ _ (by kernel_rfl) hAk hlt, rfl, hg.frame _, fun h => by cases h⟩

theorem over : Rows.stampTellsRow.holds Tryd.pinned (OpenSpec.ofChange Rows.stampTellsSpec) :=
  OpenClaim.holds_of_cond 3 Tryd.f3 rfl rfl rfl rfl rfl rfl rfl ⟨rfl, rfl, rfl, rfl, rfl⟩ rfl rfl rfl rfl rfl (by kernel_rfl) Tryd.func3 (by kernel_rfl)
    (of_decide_eq_true (by kernel_rfl)) (by unfold Func.isWrapper; first | (rw [if_pos (by decide +kernel)]; kernel_rfl) | (rw [if_neg (by decide +kernel)]; exact ⟨rfl, rfl⟩))
    (fun os started H enc _ F => by rw [OpenClaim.pre_eq_preRow]; exact lifted os started H enc F)

set_option maxRecDepth 100000 in
theorem plain (f : FuncId) (fn : Func) (hf : Tryd.pinned.checked.prog.funcNamed "tenement/tenementlaw07.StampTells" = some f) (hfn : Tryd.pinned.checked.prog.funcs[f]? = some fn) :
    false = Tryd.pinned.checked.prog.looks [] ∧ ∀ (j : Nat) t, fn.params[j]? = some t → Tryd.pinned.checked.prog.wantsStandIn t = false := by
  obtain rfl : f = 3 := Option.some.inj ((show Tryd.prog.funcNamed "tenement/tenementlaw07.StampTells" = some 3 by kernel_rfl).symm.trans hf) |>.symm
  obtain rfl : fn = Tryd.f3 := (Option.some.inj (Tryd.func3.symm.trans hfn)).symm
  refine ⟨by kernel_rfl, fun j t ht => ?_⟩
  rw [Tryd.params3] at ht
  have hm := Array.mem_of_getElem? ht
  simp only [List.mem_toArray, List.mem_cons, List.not_mem_nil, or_false] at hm
  rcases hm with rfl | rfl | rfl
  all_goals first | exact (show Tryd.prog.wantsStandIn 28 = false by kernel_rfl) | exact (show Tryd.prog.wantsStandIn 30 = false by kernel_rfl)

/-- the statement -/
theorem proved : Rows.StampTellsCardSaid :=
  Claim7.holds_tied_plain_at .later [] _ _ _ _ over (fun _ h => by cases h) (by kernel_rfl) (fun _ h => by cases h) stampTells_row_tie rfl ⟨rfl, rfl⟩ (by kernel_rfl) rfl plain (by kernel_rfl)
#print axioms proved

end Go.Proofs.YtnmggefbajoadaaDoor.stampTells
