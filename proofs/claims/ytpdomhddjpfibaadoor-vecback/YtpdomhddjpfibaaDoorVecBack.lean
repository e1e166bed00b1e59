/-
  What was put is got, and what stands behind it; cut it is none; another one has other bytes (the law VecBack). No conditions.
-/
import Derived.Test.YtpdomhddjpfibaaDoorFrameTab

import Derived.Test.YtpdomhddjpfibaaDoorVecEx

import Derived.Test.YtpdomhddjpfibaaDoorVecOf

import Derived.Test.YtpdomhddjpfibaaDoorVecBackM

import Derived.Test.YtpdomhddjpfibaaDoorFrameVec

namespace Go.Proofs.YtpdomhddjpfibaaDoor.vecBack

open Go.ChangeShapes Go.WideShapes Go.ChangeAt Go.RowKit

open Go.Proofs.YtpdomhddjpfibaaDoor.Vc

open Go.ChangeMaps (open_string shut_string)

set_option linter.unusedVariables false

set_option linter.unusedSimpArgs false

set_option maxHeartbeats 16000000 in
set_option maxRecDepth 100000 in
theorem walk (a0 : List Nat) (o0 : Bool) (a1 : List Nat) (o1 : Bool) (a2 : ByteArray) (a3 : Int) (w0 : V.Ok a0) (w1 : V.Ok a1) (z2 : a2.size ≤ 140737488351232) (w3 : (Lit.int .u8 a3).wf = true) (w : World) (hT : Fm.Tab w) :
    Calls Tryd.prog 7 #[VV a0 o0, VV a1 o1, .string a2, .int .u8 a3] w fun e w' => e = .returned (.bool true) ∧ Below w.heap.size w w' := by
  have CE := Lib.hid examples_any
  obtain ⟨A, EA⟩ : ∃ r, Hid (V.few a0 o0 = r) := ⟨_, rfl⟩
  have OA : Hid (V.Ok A) := by rw [← EA.out]; exact V.few_ok w0 o0
  have HA : Hid (A.length = 4) := OA.out.len
  have CV0 := Lib.hid (fun w => vector_any a0 o0 w w0)
  rw [EA.out] at CV0
  obtain ⟨B, EB⟩ : ∃ r, Hid (V.few a1 o1 = r) := ⟨_, rfl⟩
  have OB : Hid (V.Ok B) := by rw [← EB.out]; exact V.few_ok w1 o1
  have HB : Hid (B.length = 4) := OB.out.len
  have CV1 := Lib.hid (fun w => vector_any a1 o1 w w1)
  rw [EB.out] at CV1
  have HT := Lib.hid hT
  have hp := V.put_pos HA.out
  obtain ⟨m, rfl, hm⟩ : ∃ m : Nat, a3 = (m : Int) ∧ m ≤ 255 := by
    have hx : 0 ≤ a3 ∧ a3 ≤ 255 := by simpa [Lit.wf, IntKind.min, IntKind.max, IntKind.signed, IntKind.bits] using w3
    exact ⟨a3.toNat, by omega, by omega⟩
  obtain ⟨rA, RA⟩ : ∃ r, Hid (V.right A = r) := ⟨_, rfl⟩
  obtain ⟨eab, EAB⟩ : ∃ r, Hid (decide (A = B) = r) := ⟨_, rfl⟩
  have CP := Lib.hid (fun w => put_any A w OA.out)
  have CR := Lib.hid (fun w => right_any A w HA.out)
  rw [RA.out] at CR
  have hgp := V.gets_put OA.out a2
  have hgc := fun k hk => V.gets_cut OA.out k hk
  have QS0 := V.tol_eq (P.S (V.put A)) (P.S (V.put B))
  rw [V.put_inj OA.out OB.out, EAB.out] at QS0
  have QT0 := V.tol_eq (P.S (text A)) (P.S (text B))
  rw [V.text_inj HA.out HB.out, EAB.out] at QT0
  have hsz : (P.S (V.put A)).size = (V.put A).length := P.S_size _
  obtain ⟨s, ES⟩ : ∃ r, Hid (P.S (V.put A) = r) := ⟨_, rfl⟩
  obtain ⟨sB, EPB⟩ : ∃ r, Hid (P.S (V.put B) = r) := ⟨_, rfl⟩
  obtain ⟨tA, ETA⟩ : ∃ r, Hid (P.S (text A) = r) := ⟨_, rfl⟩
  obtain ⟨tB, ETB⟩ : ∃ r, Hid (P.S (text B) = r) := ⟨_, rfl⟩
  rw [ES.out] at CP hgp hgc QS0 hsz
  rw [EPB.out] at QS0
  rw [ETA.out, ETB.out] at QT0
  have QS := Lib.hid QS0
  have QT := Lib.hid QT0
  have hs0 : s.size ≠ 0 := by omega
  have hs4 : s.size ≤ 40 := by omega
  have hE := V.empty_not s hs0
  obtain ⟨q, hq⟩ : ∃ q, q = m % s.size := ⟨_, rfl⟩
  have hqs : q < s.size := by rw [hq]; exact Nat.mod_lt _ (by omega)
  have e4 : (m : Int).tmod (s.size : Int) = (q : Int) := by rw [Int.tmod_eq_emod_of_nonneg (by omega), hq]; rfl
  have e5 : IntKind.i64.wrap (q : Int) = q := IntWalk.i64_in _ ⟨by omega, by omega⟩
  have e6 : IntKind.i64.wrap (m : Int) = m := IntWalk.i64_in _ ⟨by omega, by omega⟩
  have hn0 : ¬ (s.size : Int) = 0 := by omega
  have iq : (q : Int) ≤ (s.size : Int) := by omega
  have CS := Lib.hid (fun w => get_any (s.extract 0 q) false V.zeros ⟨#[]⟩ true w (by rw [P.ext_head, P.S_size, List.length_take]; unfold maxLen; omega) (hgc q (by omega)))
  obtain ⟨X, R, bd, HG⟩ : ∃ X R bd, Hid (V.gets (s ++ a2) false = (X, R, bd)) := ⟨_, _, _, rfl⟩
  have hbd : bd = !rA := by
    have h := HG.out
    rw [hgp, RA.out] at h
    cases rA with
    | false => simp only [Bool.false_eq_true, if_false, Prod.mk.injEq] at h; exact h.2.2.symm
    | true => simp only [if_true, Prod.mk.injEq] at h; exact h.2.2.symm
  subst hbd
  have HXA : Hid (rA = true → X = A) := fun e => by
    have h := HG.out
    rw [hgp, RA.out, e] at h
    simp only [if_true, Prod.mk.injEq] at h
    exact h.1.symm
  have HRR : rA = true → R = a2 := fun e => by
    have h := HG.out
    rw [hgp, RA.out, e] at h
    simp only [if_true, Prod.mk.injEq] at h
    exact h.2.1.symm
  have QR : Hid (rA = true → (R.toList == a2.toList) = true) := fun e => by rw [HRR e, V.tol_eq]; simp
  have HX : Hid (X.length = 4) := by
    have h := (V.gets_ok (s ++ a2) false).1.len
    rw [HG.out] at h
    exact h
  have hcat : s.size + a2.size ≤ 140737488355328 := by omega
  have CG := Lib.hid (fun w => get_any (s ++ a2) false X R (!rA) w (by rw [ByteArray.size_append]; unfold maxLen; omega) HG.out)
  clear hp hgp hgc QS0 QT0 hsz HRR HG hq hT
  go_enter Tryd.func7, Tryd.ntmps7
  have M0 : Hid (Kept w w []) := Kept.start w
  go_wp2_with (first | refine blk_box rfl 26 _ rfl (ks .u64 a0 ++ [Value.bool o0]) rfl ?_)
  intro k2 A2 B2 Z2
  have M2 : Hid (Kept w k2 [(w.heap.size, ks .u64 a0 ++ [Value.bool o0])]) := Kept.new M0.out B2 Z2 A2
  clear A2 B2 Z2 M0
  go_wp2_with (first | refine blk_box rfl 26 _ rfl (ks .u64 a1 ++ [Value.bool o1]) rfl ?_)
  intro k3 A3 B3 Z3
  have M3 : Hid (Kept w k3 [(k2.heap.size, ks .u64 a1 ++ [Value.bool o1]), (w.heap.size, ks .u64 a0 ++ [Value.bool o0])]) := Kept.new M2.out B3 Z3 A3
  clear A3 B3 Z3 M2
  go_wp2_with fail
  refine (CE.out k3).mono ?_; rintro e k4 ⟨rfl, hb4⟩
  have M4 : Hid (Kept w k4 [(k2.heap.size, ks .u64 a1 ++ [Value.bool o1]), (w.heap.size, ks .u64 a0 ++ [Value.bool o0])]) := Kept.below M3.out hb4
  clear hb4 M3
  go_wp2_with (first | refine blk_load rfl 26 _ rfl (w.heap.size) rfl (ks .u64 a0 ++ [Value.bool o0]) (Kept.get M4.out 1 rfl) _ Tryd.underlying26 rfl (size_vv w0.len) ?_)
  refine (CV0.out k4).mono ?_; rintro e k5 ⟨rfl, hb5⟩
  have M5 : Hid (Kept w k5 [(k2.heap.size, ks .u64 a1 ++ [Value.bool o1]), (w.heap.size, ks .u64 a0 ++ [Value.bool o0])]) := Kept.below M4.out hb5
  clear hb5 M4
  go_wp2_with (first | refine arr_alloc rfl .u64 24 4 rfl Tryd.info_v ?_)
  intro k6 A6 B6 Z6
  go_wp2_with (first | refine arr_store rfl .u64 24 _ _ rfl k5.heap.size rfl A rfl _ A6 (by rw [HA.out]; rfl) (size_v HA.out) ?_)
  intro k7 A7 U7
  have M7 : Hid (Kept w k7 [(k5.heap.size, ks .u64 A), (k2.heap.size, ks .u64 a1 ++ [Value.bool o1]), (w.heap.size, ks .u64 a0 ++ [Value.bool o0])]) := Kept.fresh M5.out B6 Z6 U7 (Arr.blk A7)
  clear A6 B6 Z6 A7 U7 M5
  go_wp2_with (first | refine blk_load rfl 26 _ rfl (k2.heap.size) rfl (ks .u64 a1 ++ [Value.bool o1]) (Kept.get M7.out 1 rfl) _ Tryd.underlying26 rfl (size_vv w1.len) ?_)
  refine (CV1.out k7).mono ?_; rintro e k8 ⟨rfl, hb8⟩
  have M8 : Hid (Kept w k8 [(k5.heap.size, ks .u64 A), (k2.heap.size, ks .u64 a1 ++ [Value.bool o1]), (w.heap.size, ks .u64 a0 ++ [Value.bool o0])]) := Kept.below M7.out hb8
  clear hb8 M7
  go_wp2_with (first | refine arr_alloc rfl .u64 24 4 rfl Tryd.info_v ?_)
  intro k9 A9 B9 Z9
  go_wp2_with (first | refine arr_store rfl .u64 24 _ _ rfl k8.heap.size rfl B rfl _ A9 (by rw [HB.out]; rfl) (size_v HB.out) ?_)
  intro k10 A10 U10
  have M10 : Hid (Kept w k10 [(k8.heap.size, ks .u64 B), (k5.heap.size, ks .u64 A), (k2.heap.size, ks .u64 a1 ++ [Value.bool o1]), (w.heap.size, ks .u64 a0 ++ [Value.bool o0])]) := Kept.fresh M8.out B9 Z9 U10 (Arr.blk A10)
  clear A9 B9 Z9 A10 U10 M8
  go_wp2_with (first | refine arr_load rfl .u64 24 _ rfl (k5.heap.size) rfl A (Kept.arr M10.out 1 rfl) 4 22 Tryd.underlying24 (size_v HA.out) ?_)
  refine (CP.out k10).mono ?_; rintro e k11 ⟨rfl, hb11⟩
  have M11 : Hid (Kept w k11 [(k8.heap.size, ks .u64 B), (k5.heap.size, ks .u64 A), (k2.heap.size, ks .u64 a1 ++ [Value.bool o1]), (w.heap.size, ks .u64 a0 ++ [Value.bool o0])]) := Kept.below M10.out hb11
  clear hb11 M10
  go_wp2_with fail
  refine (CG.out k11).mono ?_; rintro e k12 ⟨rfl, hb12⟩
  have M12 : Hid (Kept w k12 [(k8.heap.size, ks .u64 B), (k5.heap.size, ks .u64 A), (k2.heap.size, ks .u64 a1 ++ [Value.bool o1]), (w.heap.size, ks .u64 a0 ++ [Value.bool o0])]) := Kept.below M11.out hb12
  clear hb12 M11
  go_wp2_with (first | refine arr_alloc rfl .u64 24 4 rfl Tryd.info_v ?_)
  intro k13 A13 B13 Z13
  go_wp2_with (first | refine blk_alloc rfl 51 [.string ⟨#[]⟩, .bool false] rfl Tryd.info_rd ?_)
  intro k14 A14 B14 Z14
  go_wp2_with (first | refine arr_store rfl .u64 24 _ _ rfl (k12.heap.size) rfl X rfl _ (A13.below B14 (by omega)) (by rw [HX.out]; rfl) (size_v HX.out) ?_)
  intro k15 A15 U15
  go_wp2_with (first | refine blk_store rfl 51 _ _ rfl (k12.heap.size + 1) rfl [.string R, .bool (!rA)] rfl _ (A14.upd U15 (by omega)) rfl Tryd.size_rd rfl ?_)
  intro k16 A16 U16
  have M16 : Hid (Kept w k16 [(k12.heap.size + 1, [.string R, .bool (!rA)]), (k12.heap.size, ks .u64 X), (k8.heap.size, ks .u64 B), (k5.heap.size, ks .u64 A), (k2.heap.size, ks .u64 a1 ++ [Value.bool o1]), (w.heap.size, ks .u64 a0 ++ [Value.bool o0])]) := Kept.pair M12.out (B13.trans (B14.mono (by omega))) (by omega) U15 U16 (Arr.blk (A15.upd U16 (by omega))) A16
  clear A13 B13 Z13 A14 B14 Z14 A15 U15 A16 U16 M12
  go_wp2_with fail
  refine (CS.out k16).mono ?_; rintro e k17 ⟨rfl, hb17⟩
  have M17 : Hid (Kept w k17 [(k12.heap.size + 1, [.string R, .bool (!rA)]), (k12.heap.size, ks .u64 X), (k8.heap.size, ks .u64 B), (k5.heap.size, ks .u64 A), (k2.heap.size, ks .u64 a1 ++ [Value.bool o1]), (w.heap.size, ks .u64 a0 ++ [Value.bool o0])]) := Kept.below M16.out hb17
  clear hb17 M16
  go_wp2_with (first | refine arr_alloc rfl .u64 24 4 rfl Tryd.info_v ?_)
  intro k18 A18 B18 Z18
  go_wp2_with (first | refine blk_alloc rfl 51 [.string ⟨#[]⟩, .bool false] rfl Tryd.info_rd ?_)
  intro k19 A19 B19 Z19
  go_wp2_with (first | refine arr_store rfl .u64 24 _ _ rfl (k17.heap.size) rfl V.zeros rfl _ (A18.below B19 (by omega)) (by rw [V.zeros_ok.len]; rfl) (size_v V.zeros_ok.len) ?_)
  intro k20 A20 U20
  go_wp2_with (first | refine blk_store rfl 51 _ _ rfl (k17.heap.size + 1) rfl [.string ⟨#[]⟩, .bool true] rfl _ (A19.upd U20 (by omega)) rfl Tryd.size_rd rfl ?_)
  intro k21 A21 U21
  have M21 : Hid (Kept w k21 [(k17.heap.size + 1, [.string ⟨#[]⟩, .bool true]), (k17.heap.size, ks .u64 V.zeros), (k12.heap.size + 1, [.string R, .bool (!rA)]), (k12.heap.size, ks .u64 X), (k8.heap.size, ks .u64 B), (k5.heap.size, ks .u64 A), (k2.heap.size, ks .u64 a1 ++ [Value.bool o1]), (w.heap.size, ks .u64 a0 ++ [Value.bool o0])]) := Kept.pair M17.out (B18.trans (B19.mono (by omega))) (by omega) U20 U21 (Arr.blk (A20.upd U21 (by omega))) A21
  clear A18 B18 Z18 A19 B19 Z19 A20 U20 A21 U21 M17
  go_wp2_with (first | refine arr_load rfl .u64 24 _ rfl (k5.heap.size) rfl A (Kept.arr M21.out 5 rfl) 4 22 Tryd.underlying24 (size_v HA.out) ?_)
  refine (CR.out k21).mono ?_; rintro e k22 ⟨rfl, hb22⟩
  have M22 : Hid (Kept w k22 [(k17.heap.size + 1, [.string ⟨#[]⟩, .bool true]), (k17.heap.size, ks .u64 V.zeros), (k12.heap.size + 1, [.string R, .bool (!rA)]), (k12.heap.size, ks .u64 X), (k8.heap.size, ks .u64 B), (k5.heap.size, ks .u64 A), (k2.heap.size, ks .u64 a1 ++ [Value.bool o1]), (w.heap.size, ks .u64 a0 ++ [Value.bool o0])]) := Kept.below M21.out hb22
  clear hb22 M21
  go_wp2_with fail
  have hu2 : ∀ u, Below k22.heap.size k22 u → Below w.heap.size w u := fun u hu => (Kept.below M22.out hu).under
  have KP10 : Hid (∀ u, Below k22.heap.size k22 u → Arr .u64 u (k5.heap.size) A) := fun u hu => (Kept.below M22.out hu).arr 5 rfl
  have KP11 : Hid (∀ u, Below k22.heap.size k22 u → Arr .u64 u (k8.heap.size) B) := fun u hu => (Kept.below M22.out hu).arr 4 rfl
  have KP13 : Hid (∀ u, Below k22.heap.size k22 u → Arr .u64 u (k12.heap.size) X) := fun u hu => (Kept.below M22.out hu).arr 3 rfl
  have KF140 : Hid (∀ u, Below k22.heap.size k22 u → u.cell? ⟨k12.heap.size + 1, 0, none⟩ = some (.string R)) := fun u hu => ((Kept.below M22.out hu).get 2 rfl).cell 0 _ rfl
  have KF141 : Hid (∀ u, Below k22.heap.size k22 u → u.cell? ⟨k12.heap.size + 1, 1, none⟩ = some (.bool (!rA))) := fun u hu => ((Kept.below M22.out hu).get 2 rfl).cell 1 _ rfl
  have KF160 : Hid (∀ u, Below k22.heap.size k22 u → u.cell? ⟨k17.heap.size + 1, 0, none⟩ = some (.string ⟨#[]⟩)) := fun u hu => ((Kept.below M22.out hu).get 0 rfl).cell 0 _ rfl
  have KF161 : Hid (∀ u, Below k22.heap.size k22 u → u.cell? ⟨k17.heap.size + 1, 1, none⟩ = some (.bool true)) := fun u hu => ((Kept.below M22.out hu).get 0 rfl).cell 1 _ rfl
  have KC0 : Hid (∀ u, Below k22.heap.size k22 u → Calls Tryd.prog 28 [AV .u64 B].toArray u fun e u' => e = .returned (.string sB) ∧ Below k22.heap.size k22 u') := fun u hu => Calls.more hu (by have h := put_any B u OB.out; rw [EPB.out] at h; exact h)
  have KC1 : Hid (∀ u, Below k22.heap.size k22 u → Calls Tryd.prog 30 [AV .u64 A].toArray u fun e u' => e = .returned (.string tA) ∧ Below k22.heap.size k22 u') := fun u hu => Calls.more hu (by have h := text_any A u OA.out (HT.out.below (hu2 u hu)); rw [ETA.out] at h; exact h)
  have KC2 : Hid (∀ u, Below k22.heap.size k22 u → Calls Tryd.prog 30 [AV .u64 B].toArray u fun e u' => e = .returned (.string tB) ∧ Below k22.heap.size k22 u') := fun u hu => Calls.more hu (by have h := text_any B u OB.out (HT.out.below (hu2 u hu)); rw [ETB.out] at h; exact h)
  clear hu2
  refine region_w Tryd.mixed (by kernel_rfl) ?_
  refine w_move rfl _ rfl (.bool true) rfl (fun K hK => ?_)
  go_simp
  refine hK _ ?_
  clear hK K
  refine w_move rfl _ rfl (.bool true) rfl (fun K hK => ?_)
  go_simp
  refine hK _ ?_
  clear hK K
  refine wg_value (by rfl) (.string s) (fun u hu => by go_simp) (fun K hK => ?_)
  go_simp
  refine hK _ ?_
  clear hK K
  refine wg_arr_load (by rfl) .u64 24 _ rfl (k8.heap.size) rfl B KP11.out 4 22 Tryd.underlying24 (size_v HB.out) (fun K hK => ?_)
  go_simp
  refine hK _ ?_
  clear hK K
  refine wg_call (by rfl) 28 Tryd.f28 Tryd.func28 rfl rfl _ _ rfl _ rfl (.string sB) (by exact KC0.out) (fun K hK => ?_)
  go_simp
  refine hK _ ?_
  clear hK K
  refine wg_value (by rfl) (.bool eab) (fun u hu => by have hs := QS.out; go_simp) (fun K hK => ?_)
  go_simp
  refine hK _ ?_
  clear hK K
  refine wg_arr_load (by rfl) .u64 24 _ rfl (k5.heap.size) rfl A KP10.out 4 22 Tryd.underlying24 (size_v HA.out) (fun K hK => ?_)
  go_simp
  refine hK _ ?_
  clear hK K
  refine wg_arr_load (by rfl) .u64 24 _ rfl (k8.heap.size) rfl B KP11.out 4 22 Tryd.underlying24 (size_v HB.out) (fun K hK => ?_)
  go_simp
  refine hK _ ?_
  clear hK K
  refine wg_value (by rfl) (.bool eab) (fun u _ => run_eql u .eql 24 24 _ _ (AV .u64 A) (AV .u64 B) _ rfl rfl rfl (guard_v _ _ _ _ u) (eql_as A B HA.out HB.out _ EAB.out u)) (fun K hK => ?_)
  go_simp
  refine hK _ ?_
  clear hK K
  refine wg_value (by rfl) (.bool true) (fun u hu => by go_simp) (fun K hK => ?_)
  go_simp
  refine hK _ ?_
  clear hK K
  refine w_value rfl (.bool true) (fun u hu => by go_simp) (fun K hK => ?_)
  go_simp
  refine hK _ ?_
  clear hK K
  refine w_move rfl _ rfl (.bool true) rfl (fun K hK => ?_)
  go_simp
  refine hK _ ?_
  clear hK K
  refine wg_value (by rfl) (.pointer (some ⟨k12.heap.size + 1, 1, none⟩)) (fun u hu => by go_simp) (fun K hK => ?_)
  go_simp
  refine hK _ ?_
  clear hK K
  refine wg_value (by rfl) (.bool (!rA)) (fun u hu => by have hc := KF141.out u hu; go_simp) (fun K hK => ?_)
  go_simp
  refine hK _ ?_
  clear hK K
  refine wg_value (by rfl) (.bool rA) (fun u hu => by go_simp) (fun K hK => ?_)
  go_simp
  refine hK _ ?_
  clear hK K
  refine wg_value (by rfl) (.bool (!rA)) (fun u hu => by go_simp) (fun K hK => ?_)
  go_simp
  refine hK _ ?_
  clear hK K
  refine wg_value (by rfl) (.bool true) (fun u hu => by go_simp) (fun K hK => ?_)
  go_simp
  refine hK _ ?_
  clear hK K
  refine w_value rfl (.bool true) (fun u hu => by go_simp) (fun K hK => ?_)
  go_simp
  refine hK _ ?_
  clear hK K
  refine w_move rfl _ rfl (.bool true) rfl (fun K hK => ?_)
  go_simp
  refine hK _ ?_
  clear hK K
  refine wg_value (by rfl) (.bool rA) (fun u hu => by go_simp) (fun K hK => ?_)
  go_simp
  refine hK _ ?_
  clear hK K
  cases rA with
  | false =>
    refine wg_value (by rfl) (.bool true) (fun u hu => by go_simp) (fun K hK => ?_)
    go_simp
    refine hK _ ?_
    clear hK K
    refine wg_value (by rfl) (.bool true) (fun u hu => by go_simp) (fun K hK => ?_)
    go_simp
    refine hK _ ?_
    clear hK K
    refine w_skip 21 false ((some true)) rfl rfl rfl (fun K hK => ?_)
    go_simp
    refine hK _ ?_
    clear hK K
    refine w_skip 21 false ((some true)) rfl rfl rfl (fun K hK => ?_)
    go_simp
    refine hK _ ?_
    clear hK K
    refine w_skip 21 false ((some true)) rfl rfl rfl (fun K hK => ?_)
    go_simp
    refine hK _ ?_
    clear hK K
    refine w_skip 21 false ((some true)) rfl rfl rfl (fun K hK => ?_)
    go_simp
    refine hK _ ?_
    clear hK K
    refine w_skip 25 true (none) rfl rfl rfl (fun K hK => ?_)
    go_simp
    refine hK _ ?_
    clear hK K
    refine w_skip 25 true (none) rfl rfl rfl (fun K hK => ?_)
    go_simp
    refine hK _ ?_
    clear hK K
    refine w_skip 25 true (none) rfl rfl rfl (fun K hK => ?_)
    go_simp
    refine hK _ ?_
    clear hK K
    refine w_skip 25 true (none) rfl rfl rfl (fun K hK => ?_)
    go_simp
    refine hK _ ?_
    clear hK K
    refine w_skip 21 false ((some true)) rfl rfl rfl (fun K hK => ?_)
    go_simp
    refine hK _ ?_
    clear hK K
    refine wg_value (by rfl) (.bool true) (fun u hu => by go_simp) (fun K hK => ?_)
    go_simp
    refine hK _ ?_
    clear hK K
    refine w_value rfl (.bool true) (fun u hu => by go_simp) (fun K hK => ?_)
    go_simp
    refine hK _ ?_
    clear hK K
    refine w_move rfl _ rfl (.bool true) rfl (fun K hK => ?_)
    go_simp
    refine hK _ ?_
    clear hK K
    refine wg_value (by rfl) (.pointer (some ⟨k17.heap.size + 1, 1, none⟩)) (fun u hu => by go_simp) (fun K hK => ?_)
    go_simp
    refine hK _ ?_
    clear hK K
    refine wg_value (by rfl) (.bool true) (fun u hu => by have hc := KF161.out u hu; go_simp) (fun K hK => ?_)
    go_simp
    refine hK _ ?_
    clear hK K
    refine w_value rfl (.bool true) (fun u hu => by go_simp) (fun K hK => ?_)
    go_simp
    refine hK _ ?_
    clear hK K
    refine w_move rfl _ rfl (.bool true) rfl (fun K hK => ?_)
    go_simp
    refine hK _ ?_
    clear hK K
    refine wg_arr_load (by rfl) .u64 24 _ rfl (k5.heap.size) rfl A KP10.out 4 22 Tryd.underlying24 (size_v HA.out) (fun K hK => ?_)
    go_simp
    refine hK _ ?_
    clear hK K
    refine wg_call (by rfl) 30 Tryd.f30 Tryd.func30 rfl rfl _ _ rfl _ rfl (.string tA) (by exact KC1.out) (fun K hK => ?_)
    go_simp
    refine hK _ ?_
    clear hK K
    refine wg_arr_load (by rfl) .u64 24 _ rfl (k8.heap.size) rfl B KP11.out 4 22 Tryd.underlying24 (size_v HB.out) (fun K hK => ?_)
    go_simp
    refine hK _ ?_
    clear hK K
    refine wg_call (by rfl) 30 Tryd.f30 Tryd.func30 rfl rfl _ _ rfl _ rfl (.string tB) (by exact KC2.out) (fun K hK => ?_)
    go_simp
    refine hK _ ?_
    clear hK K
    refine wg_value (by rfl) (.bool eab) (fun u hu => by have hs := QT.out; go_simp) (fun K hK => ?_)
    go_simp
    refine hK _ ?_
    clear hK K
    refine wg_arr_load (by rfl) .u64 24 _ rfl (k5.heap.size) rfl A KP10.out 4 22 Tryd.underlying24 (size_v HA.out) (fun K hK => ?_)
    go_simp
    refine hK _ ?_
    clear hK K
    refine wg_arr_load (by rfl) .u64 24 _ rfl (k8.heap.size) rfl B KP11.out 4 22 Tryd.underlying24 (size_v HB.out) (fun K hK => ?_)
    go_simp
    refine hK _ ?_
    clear hK K
    refine wg_value (by rfl) (.bool eab) (fun u _ => run_eql u .eql 24 24 _ _ (AV .u64 A) (AV .u64 B) _ rfl rfl rfl (guard_v _ _ _ _ u) (eql_as A B HA.out HB.out _ EAB.out u)) (fun K hK => ?_)
    go_simp
    refine hK _ ?_
    clear hK K
    refine wg_value (by rfl) (.bool true) (fun u hu => by go_simp) (fun K hK => ?_)
    go_simp
    refine hK _ ?_
    clear hK K
    refine w_value rfl (.bool true) (fun u hu => by go_simp) (fun K hK => ?_)
    go_simp
    refine hK _ ?_
    clear hK K
    refine w_assign rfl _ rfl (.bool true) rfl (fun K hK => ?_)
    go_simp
    refine hK _ ?_
    clear hK K
    refine w_nil ?_
    intro u hu
    have HW9 : Hid (Below w.heap.size w u) := (Kept.below M22.out hu).under
    clear hu
    go_wp2_with fail
    go_ret
    exact ⟨rfl, HW9.out⟩
  | true =>
    refine wg_value (by rfl) (.bool false) (fun u hu => by go_simp) (fun K hK => ?_)
    go_simp
    refine hK _ ?_
    clear hK K
    refine wg_value (by rfl) (.bool false) (fun u hu => by go_simp) (fun K hK => ?_)
    go_simp
    refine hK _ ?_
    clear hK K
    refine wg_arr_load (by rfl) .u64 24 _ rfl (k12.heap.size) rfl X KP13.out 4 22 Tryd.underlying24 (size_v HX.out) (fun K hK => ?_)
    go_simp
    refine hK _ ?_
    clear hK K
    refine wg_arr_load (by rfl) .u64 24 _ rfl (k5.heap.size) rfl A KP10.out 4 22 Tryd.underlying24 (size_v HA.out) (fun K hK => ?_)
    go_simp
    refine hK _ ?_
    clear hK K
    refine wg_value (by rfl) (.bool true) (fun u _ => run_eql u .eql 24 24 _ _ (AV .u64 X) (AV .u64 A) _ rfl rfl rfl (guard_v _ _ _ _ u) (eql_true X A HX.out HA.out (HXA.out rfl) u)) (fun K hK => ?_)
    go_simp
    refine hK _ ?_
    clear hK K
    refine wg_value (by rfl) (.bool true) (fun u hu => by go_simp) (fun K hK => ?_)
    go_simp
    refine hK _ ?_
    clear hK K
    refine wg_value (by rfl) (.pointer (some ⟨k12.heap.size + 1, 0, none⟩)) (fun u hu => by go_simp) (fun K hK => ?_)
    go_simp
    refine hK _ ?_
    clear hK K
    refine wg_value (by rfl) (.string R) (fun u hu => by have hc := KF140.out u hu; go_simp) (fun K hK => ?_)
    go_simp
    refine hK _ ?_
    clear hK K
    refine wg_value (by rfl) (.string a2) (fun u hu => by go_simp) (fun K hK => ?_)
    go_simp
    refine hK _ ?_
    clear hK K
    refine wg_value (by rfl) (.bool true) (fun u hu => by have hs := QR.out rfl; go_simp) (fun K hK => ?_)
    go_simp
    refine hK _ ?_
    clear hK K
    refine wg_value (by rfl) (.bool true) (fun u hu => by go_simp) (fun K hK => ?_)
    go_simp
    refine hK _ ?_
    clear hK K
    refine wg_value (by rfl) (.bool true) (fun u hu => by go_simp) (fun K hK => ?_)
    go_simp
    refine hK _ ?_
    clear hK K
    refine w_value rfl (.bool true) (fun u hu => by go_simp) (fun K hK => ?_)
    go_simp
    refine hK _ ?_
    clear hK K
    refine w_move rfl _ rfl (.bool true) rfl (fun K hK => ?_)
    go_simp
    refine hK _ ?_
    clear hK K
    refine wg_value (by rfl) (.pointer (some ⟨k17.heap.size + 1, 1, none⟩)) (fun u hu => by go_simp) (fun K hK => ?_)
    go_simp
    refine hK _ ?_
    clear hK K
    refine wg_value (by rfl) (.bool true) (fun u hu => by have hc := KF161.out u hu; go_simp) (fun K hK => ?_)
    go_simp
    refine hK _ ?_
    clear hK K
    refine w_value rfl (.bool true) (fun u hu => by go_simp) (fun K hK => ?_)
    go_simp
    refine hK _ ?_
    clear hK K
    refine w_move rfl _ rfl (.bool true) rfl (fun K hK => ?_)
    go_simp
    refine hK _ ?_
    clear hK K
    refine wg_arr_load (by rfl) .u64 24 _ rfl (k5.heap.size) rfl A KP10.out 4 22 Tryd.underlying24 (size_v HA.out) (fun K hK => ?_)
    go_simp
    refine hK _ ?_
    clear hK K
    refine wg_call (by rfl) 30 Tryd.f30 Tryd.func30 rfl rfl _ _ rfl _ rfl (.string tA) (by exact KC1.out) (fun K hK => ?_)
    go_simp
    refine hK _ ?_
    clear hK K
    refine wg_arr_load (by rfl) .u64 24 _ rfl (k8.heap.size) rfl B KP11.out 4 22 Tryd.underlying24 (size_v HB.out) (fun K hK => ?_)
    go_simp
    refine hK _ ?_
    clear hK K
    refine wg_call (by rfl) 30 Tryd.f30 Tryd.func30 rfl rfl _ _ rfl _ rfl (.string tB) (by exact KC2.out) (fun K hK => ?_)
    go_simp
    refine hK _ ?_
    clear hK K
    refine wg_value (by rfl) (.bool eab) (fun u hu => by have hs := QT.out; go_simp) (fun K hK => ?_)
    go_simp
    refine hK _ ?_
    clear hK K
    refine wg_arr_load (by rfl) .u64 24 _ rfl (k5.heap.size) rfl A KP10.out 4 22 Tryd.underlying24 (size_v HA.out) (fun K hK => ?_)
    go_simp
    refine hK _ ?_
    clear hK K
    refine wg_arr_load (by rfl) .u64 24 _ rfl (k8.heap.size) rfl B KP11.out 4 22 Tryd.underlying24 (size_v HB.out) (fun K hK => ?_)
    go_simp
    refine hK _ ?_
    clear hK K
    refine wg_value (by rfl) (.bool eab) (fun u _ => run_eql u .eql 24 24 _ _ (AV .u64 A) (AV .u64 B) _ rfl rfl rfl (guard_v _ _ _ _ u) (eql_as A B HA.out HB.out _ EAB.out u)) (fun K hK => ?_)
    go_simp
    refine hK _ ?_
    clear hK K
    refine wg_value (by rfl) (.bool true) (fun u hu => by go_simp) (fun K hK => ?_)
    go_simp
    refine hK _ ?_
    clear hK K
    refine w_value rfl (.bool true) (fun u hu => by go_simp) (fun K hK => ?_)
    go_simp
    refine hK _ ?_
    clear hK K
    refine w_assign rfl _ rfl (.bool true) rfl (fun K hK => ?_)
    go_simp
    refine hK _ ?_
    clear hK K
    refine w_nil ?_
    intro u hu
    have HW9 : Hid (Below w.heap.size w u) := (Kept.below M22.out hu).under
    clear hu
    go_wp2_with fail
    go_ret
    exact ⟨rfl, HW9.out⟩

set_option maxRecDepth 100000 in
theorem lifted (os : Os) (started : os.Started) (H : Type) (enc : TypeId × Value → H) (F : Stop.Interp) :
    ReturnsInHanded {} Tryd.checked os 7 .any ((OpenSpec.ofChange Rows.vecBackSpec).preRow enc Tryd.prog Tryd.f7 Rows.vecBackRow.domain false Rows.vecBackRow.laid) (((OpenSpec.ofChange Rows.vecBackSpec).at F).post enc Tryd.prog Tryd.f7 false true false false) := by
  have hx : ∃ places, DataW.whole enc Tryd.prog ((laidWorld os).forCall (fun _ _ => 0) ⟨#[], #[.agg #[.int .u64 0, .int .u64 0, .int .u64 0, .int .u64 0, .bool false], .agg #[.int .u64 0, .int .u64 0, .int .u64 0, .int .u64 0, .bool false], .string ByteArray.empty, .int .u8 0], []⟩).memory Tryd.f7.params.toList Rows.vecBackSpec.vars false #[Value.agg #[.int .u64 0, .int .u64 0, .int .u64 0, .int .u64 0, .bool false], Value.agg #[.int .u64 0, .int .u64 0, .int .u64 0, .int .u64 0, .bool false], Value.string ByteArray.empty, Value.int .u8 0].toList 8 = some ([.agg [.agg [.lit (.int .u64 0), .lit (.int .u64 0), .lit (.int .u64 0), .lit (.int .u64 0)], .lit (.bool false)], .agg [.agg [.lit (.int .u64 0), .lit (.int .u64 0), .lit (.int .u64 0), .lit (.int .u64 0)], .lit (.bool false)], .lit (.string []), .lit (.int .u8 0)], [], places) := ⟨[], by kernel_rfl⟩
  obtain ⟨places, hx⟩ := hx
  refine returnsInHanded_of_row (C := Tryd.checked) (s := OpenSpec.ofChange Rows.vecBackSpec) own started (by kernel_rfl) Tryd.func7
    (witness_row_at (enc := enc) (C := Tryd.checked) false (laidWorld os) #[.agg #[.int .u64 0, .int .u64 0, .int .u64 0, .int .u64 0, .bool false], .agg #[.int .u64 0, .int .u64 0, .int .u64 0, .int .u64 0, .bool false], .string ByteArray.empty, .int .u8 0] rfl (by kernel_rfl) (by kernel_rfl) (by kernel_rfl)
      (OpenSpec.preRow_of_cond 8 hx (by kernel_rfl) (fun k hk => by cases hk) (by kernel_rfl) (laidMet_of_run' 8 (by kernel_rfl) (by kernel_rfl)))) ?_
  intro W base args ds gs before hval0 hW hcnd hcond hsz0 hL _ _
  have hT : Fm.Tab W := tab_of hL
  have hval : ∀ (j : Nat) t v, Tryd.f7.params[j]? = some t → args[j]? = some v → Value.okWide Tryd.prog W .any base t v := hval0
  have hW' := hW
  obtain ⟨p, q, hA0, hV, rfl, hfz, hnd⟩ := hW
  have hA : DataW.TrodAll enc Tryd.prog W 0 (fun _ => true) true Tryd.f7.params.toList args.toList ds p := hA0
  have hsz : (DataW.weightsEach Tryd.prog (Tryd.f7.params.toList ++ Rows.vecBackSpec.plain.varTypes Tryd.prog) (ds ++ gs)).all (· ≤ reachBytes) = true := hsz0
  rw [Tryd.params7] at hA hval hsz
  obtain ⟨rfl, rfl⟩ := trodVars_none hV
  have hAk := hA
  have hlt : ∀ x ∈ p, x.block < W.heap.size := fun x hx => by simpa using hW'.lt x (List.mem_append.2 (.inl hx))
  obtain ⟨v0, vs0, d0, ds0, p0, q0, hargs, rfl, rfl, h0, r0⟩ := trodAll_cons hA
  obtain ⟨v1, vs1, d1, ds1, p1, q1, rfl, rfl, rfl, h1, r1⟩ := trodAll_cons r0
  obtain ⟨v2, vs2, d2, ds2, p2, q2, rfl, rfl, rfl, h2, r2⟩ := trodAll_cons r1
  obtain ⟨v3, vs3, d3, ds3, p3, q3, rfl, rfl, rfl, h3, r3⟩ := trodAll_cons r2
  obtain ⟨rfl, rfl, rfl⟩ := trodAll_nil r3
  obtain rfl : args = #[v0, v1, v2, v3] := by cases args; simp_all
  obtain ⟨a0, o0, rfl, w0⟩ := open_vector (hval 0 26 v0 rfl rfl) h0
  obtain ⟨a1, o1, rfl, w1⟩ := open_vector (hval 1 26 v1 rfl rfl) h1
  obtain ⟨a2, rfl, rfl, rfl, w2⟩ := open_string Tryd.underlying9 (hval 2 9 v2 rfl rfl) h2
  have z2 := sized_string hsz (j := 2) (t := 9) rfl rfl
  obtain ⟨a3, rfl, rfl, rfl, w3⟩ := open_int Tryd.underlying5 (hval 3 5 v3 rfl rfl) h3
  clear hA0 hval0 hsz0
  refine (walk a0 o0 a1 o1 a2 a3 w0 w1 (by rw [Array.length_toList] at z2; exact z2) w3 W hT).mono fun e W' ⟨he, hg⟩ => ?_
  subst he
  exact ⟨_, rfl, _, _, _, [], _, [], hW', (trodAll_cons_mk (shut_bool Tryd.underlying4 _) trodAll_mk0), trodAll_below laidOut hg _ _ _ _ (by kernel_rfl) hAk hlt, rfl, hg.frame _, fun h => by cases h⟩

theorem over : Rows.vecBackRow.holds Tryd.pinned (OpenSpec.ofChange Rows.vecBackSpec) :=
  OpenClaim.holds_of_cond 7 Tryd.f7 rfl rfl rfl rfl rfl rfl rfl ⟨rfl, rfl, rfl, rfl, rfl⟩ rfl rfl rfl rfl rfl (by kernel_rfl) Tryd.func7 (by kernel_rfl)
    (of_decide_eq_true (by kernel_rfl)) (by unfold Func.isWrapper; first | (rw [if_pos (by decide +kernel)]; kernel_rfl) | (rw [if_neg (by decide +kernel)]; exact ⟨rfl, rfl⟩))
    (fun os started H enc _ F => by rw [OpenClaim.pre_eq_preRow]; exact lifted os started H enc F)

set_option maxRecDepth 100000 in
theorem plain (f : FuncId) (fn : Func) (hf : Tryd.pinned.checked.prog.funcNamed "tenement/tenementlaw06.VecBack" = some f) (hfn : Tryd.pinned.checked.prog.funcs[f]? = some fn) :
    false = Tryd.pinned.checked.prog.looks [] ∧ ∀ (j : Nat) t, fn.params[j]? = some t → Tryd.pinned.checked.prog.wantsStandIn t = false := by
  obtain rfl : f = 7 := Option.some.inj ((show Tryd.prog.funcNamed "tenement/tenementlaw06.VecBack" = some 7 by kernel_rfl).symm.trans hf) |>.symm
  obtain rfl : fn = Tryd.f7 := (Option.some.inj (Tryd.func7.symm.trans hfn)).symm
  refine ⟨by kernel_rfl, fun j t ht => ?_⟩
  rw [Tryd.params7] at ht
  have hm := Array.mem_of_getElem? ht
  simp only [List.mem_toArray, List.mem_cons, List.not_mem_nil, or_false] at hm
  rcases hm with rfl | rfl | rfl | rfl
  all_goals first | exact (show Tryd.prog.wantsStandIn 26 = false by kernel_rfl) | exact (show Tryd.prog.wantsStandIn 9 = false by kernel_rfl) | exact (show Tryd.prog.wantsStandIn 5 = false by kernel_rfl)

/-- the statement -/
theorem proved : Rows.VecBackCardSaid :=
  Claim7.holds_tied_plain_at .later [] _ _ _ _ over (fun _ h => by cases h) (by kernel_rfl) (fun _ h => by cases h) vecBack_row_tie rfl ⟨rfl, rfl⟩ (by kernel_rfl) rfl plain (by kernel_rfl)
#print axioms proved

end Go.Proofs.YtpdomhddjpfibaaDoor.vecBack
