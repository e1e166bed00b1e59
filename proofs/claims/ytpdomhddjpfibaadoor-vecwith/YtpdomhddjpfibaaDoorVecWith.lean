/-
  With another number for one datacenter all others stay; there it is that; for none nothing turns (the law VecWith). No conditions.
-/
import Derived.Test.YtpdomhddjpfibaaDoorFrameTab

import Derived.Test.YtpdomhddjpfibaaDoorVecEx

import Derived.Test.YtpdomhddjpfibaaDoorVecOf

import Derived.Deep.DeepCutAuto

import Derived.Test.YtpdomhddjpfibaaDoorFrameVec

namespace Go.Proofs.YtpdomhddjpfibaaDoor.vecWith

open Go.ChangeShapes Go.WideShapes Go.ChangeAt Go.RowKit

open Go.Proofs.YtpdomhddjpfibaaDoor.Vc

open Go.ChangeMaps (open_string shut_string)

set_option linter.unusedVariables false

set_option linter.unusedSimpArgs false

set_option maxHeartbeats 16000000 in
set_option maxRecDepth 100000 in
theorem walk (a0 : List Nat) (o0 : Bool) (a1 : Int) (a2 : Int) (a3 : Bool) (w0 : V.Ok a0) (w1 : (Lit.int .i64 a1).wf = true) (w2 : (Lit.int .u64 a2).wf = true) (w : World) (hT : Fm.Tab w) :
    Calls Tryd.prog 8 #[VV a0 o0, .int .i64 a1, .int .u64 a2, .bool a3] w fun e w' => e = .returned (.bool true) ∧ Below w.heap.size w w' := by
  have CE := Lib.hid examples_any
  obtain ⟨A, EA⟩ : ∃ r, Hid (V.few a0 o0 = r) := ⟨_, rfl⟩
  have OA : Hid (V.Ok A) := by rw [← EA.out]; exact V.few_ok w0 o0
  have HA : Hid (A.length = 4) := OA.out.len
  have CV0 := Lib.hid (fun w => vector_any a0 o0 w w0)
  rw [EA.out] at CV0
  obtain ⟨n, rfl, hn⟩ : ∃ n : Nat, a2 = (n : Int) ∧ n < 2 ^ 64 := by
    have hx : 0 ≤ a2 ∧ a2 ≤ 18446744073709551615 := by simpa [Lit.wf, IntKind.min, IntKind.max, IntKind.signed, IntKind.bits] using w2
    exact ⟨a2.toNat, by omega, by omega⟩
  have hd0 : -9223372036854775808 ≤ a1 ∧ a1 ≤ 9223372036854775807 := by simpa [Lit.wf, IntKind.min, IntKind.max, IntKind.signed, IntKind.bits] using w1
  clear hn w2
  go_enter Tryd.func8, Tryd.ntmps8
  have M0 : Hid (Kept w w []) := Kept.start w
  go_wp2_with (first | refine blk_box rfl 26 _ rfl (ks .u64 a0 ++ [Value.bool o0]) rfl ?_)
  intro k2 A2 B2 Z2
  have M2 : Hid (Kept w k2 [(w.heap.size, ks .u64 a0 ++ [Value.bool o0])]) := Kept.new M0.out B2 Z2 A2
  clear A2 B2 Z2 M0
  go_wp2_with fail
  refine (CE.out k2).mono ?_; rintro e k3 ⟨rfl, hb3⟩
  have M3 : Hid (Kept w k3 [(w.heap.size, ks .u64 a0 ++ [Value.bool o0])]) := Kept.below M2.out hb3
  clear hb3 M2
  go_upto_if 18 with fail
  go_cut [1] (fun x wx => (∃ D : Int, x = .int .i64 D) ∧ k3 = wx)
  case first =>
    cases a3
    · go_wp2_with fail
      go_meet
      exact ⟨⟨_, rfl⟩, rfl⟩
    · go_wp2_with fail
      go_meet
      exact ⟨⟨_, rfl⟩, rfl⟩
  case rest =>
  obtain ⟨⟨D, rfl⟩, rfl⟩ := hcut
  have HN : Hid (V.Ok A → V.Ok A) := fun h => h
  have CW := Lib.hid (fun w => with_any A D n w HA.out)
  go_wp2_with (first | refine blk_load rfl 26 _ rfl (w.heap.size) rfl (ks .u64 a0 ++ [Value.bool o0]) (Kept.get M3.out 0 rfl) _ Tryd.underlying26 rfl (size_vv w0.len) ?_)
  refine (CV0.out k3).mono ?_; rintro e k4 ⟨rfl, hb4⟩
  have M4 : Hid (Kept w k4 [(w.heap.size, ks .u64 a0 ++ [Value.bool o0])]) := Kept.below M3.out hb4
  clear hb4 M3
  go_wp2_with (first | refine arr_alloc rfl .u64 24 4 rfl Tryd.info_v ?_)
  intro k5 A5 B5 Z5
  go_wp2_with (first | refine arr_store rfl .u64 24 _ _ rfl k4.heap.size rfl A rfl _ A5 (by rw [HA.out]; rfl) (size_v HA.out) ?_)
  intro k6 A6 U6
  have M6 : Hid (Kept w k6 [(k4.heap.size, ks .u64 A), (w.heap.size, ks .u64 a0 ++ [Value.bool o0])]) := Kept.fresh M4.out B5 Z5 U6 (Arr.blk A6)
  clear A5 B5 Z5 A6 U6 M4
  go_wp2_with (first | refine arr_load rfl .u64 24 _ rfl (k4.heap.size) rfl A (Kept.arr M6.out 0 rfl) 4 22 Tryd.underlying24 (size_v HA.out) ?_)
  refine (CW.out k6).mono ?_; rintro e k7 ⟨rfl, hb7⟩
  have M7 : Hid (Kept w k7 [(k4.heap.size, ks .u64 A), (w.heap.size, ks .u64 a0 ++ [Value.bool o0])]) := Kept.below M6.out hb7
  clear hb7 M6
  go_wp2_with (first | refine arr_alloc rfl .u64 24 4 rfl Tryd.info_v ?_)
  intro k8 A8 B8 Z8
  go_wp2_with (first | refine arr_store rfl .u64 24 _ _ rfl k7.heap.size rfl (V.with_ A D n) rfl _ A8 (by rw [(V.with_length HA.out D n)]; rfl) (size_v (V.with_length HA.out D n)) ?_)
  intro k9 A9 U9
  have M9 : Hid (Kept w k9 [(k7.heap.size, ks .u64 (V.with_ A D n)), (k4.heap.size, ks .u64 A), (w.heap.size, ks .u64 a0 ++ [Value.bool o0])]) := Kept.fresh M7.out B8 Z8 U9 (Arr.blk A9)
  clear A8 B8 Z8 A9 U9 M7
  clear CW
  obtain ⟨kn, HK⟩ : ∃ r, Hid (V.known D = r) := ⟨_, rfl⟩
  go_upto_region 8 with fail
  go_cut [12] (fun x wx => x = .bool kn ∧ k9 = wx)
  case first =>
    by_cases h1 : 1 ≤ D
    · by_cases h2 : D ≤ 4
      · have EF : Hid (kn = true) := by rw [← HK.out]; exact (V.known_iff D).2 ⟨h1, h2⟩
        go_wp2_with fail
        go_meet
        exact ⟨by rw [EF.out], rfl⟩
      · have EF : Hid (kn = false) := by rw [← HK.out]; show V.known D = false; simp [V.known]; omega
        have h' : decide (D ≤ 4) = false := by simp; omega
        go_wp2_with fail
        go_meet
        exact ⟨by rw [EF.out], rfl⟩
    · have EF : Hid (kn = false) := by rw [← HK.out]; show V.known D = false; simp [V.known]; omega
      have h' : decide (1 ≤ D) = false := by simp; omega
      go_wp2_with fail
      go_meet
      exact ⟨by rw [EF.out], rfl⟩
  case rest =>
  obtain ⟨rfl, rfl⟩ := hcut
  go_wp2_with fail
  go_loopw [13] (fun i wr => ∃ k : Nat, 1 ≤ k ∧ k ≤ 5 ∧ i = .int .i64 (k : Int) ∧ Hid (Kept w wr [(k7.heap.size, ks .u64 (V.with_ A D n)), (k4.heap.size, ks .u64 A), (w.heap.size, ks .u64 a0 ++ [Value.bool o0])])) (fun i _ => 5 - (intOf i).toNat)
  case atStart => exact ⟨1, by omega, by omega, rfl, M9⟩
  case round =>
    obtain ⟨k, hk1, hk5, rfl, MR⟩ := hrel
    clear M9
    by_cases hlt : k ≤ 4
    · have ilt : (k : Int) ≤ 4 := by omega
      have CA := Lib.hid (fun w => at_any A (k : Int) w HA.out)
      have CB := Lib.hid (fun w => at_any (V.with_ A D n) (k : Int) w (V.with_length HA.out D n))
      have HAT : Hid _ := V.at_with HA.out D n k hk1 hlt
      obtain ⟨x, HX⟩ : ∃ r, Hid (V.at_ A (k : Int) = r) := ⟨_, rfl⟩
      obtain ⟨y, HY⟩ : ∃ r, Hid (V.at_ (V.with_ A D n) (k : Int) = r) := ⟨_, rfl⟩
      rw [HX.out] at CA HAT
      rw [HY.out] at CB HAT
      clear HX HY
      by_cases hd : (k : Int) = D
      · have hq : ((k : Int) == D) = true := by rw [beq_iff_eq]; exact hd
        have HE : Hid (y = n) := by rw [HAT.out, if_pos hd]; rfl
        rw [HE.out] at CB
        clear HAT HE hd
        go_wp2_with (first | refine arr_load rfl .u64 24 _ rfl (k4.heap.size) rfl A (Kept.arr MR.out 1 rfl) 4 22 Tryd.underlying24 (size_v HA.out) ?_)
        refine (CA.out _).mono ?_; rintro e u1 ⟨rfl, hb1⟩
        have N1 : Hid (Kept w u1 [(k7.heap.size, ks .u64 (V.with_ A D n)), (k4.heap.size, ks .u64 A), (w.heap.size, ks .u64 a0 ++ [Value.bool o0])]) := Kept.below MR.out hb1
        clear hb1
        go_wp2_with (first | refine arr_load rfl .u64 24 _ rfl (k7.heap.size) rfl (V.with_ A D n) (Kept.arr N1.out 0 rfl) 4 22 Tryd.underlying24 (size_v (V.with_length HA.out D n)) ?_)
        refine (CB.out _).mono ?_; rintro e u2 ⟨rfl, hb2⟩
        have N2 : Hid (Kept w u2 [(k7.heap.size, ks .u64 (V.with_ A D n)), (k4.heap.size, ks .u64 A), (w.heap.size, ks .u64 a0 ++ [Value.bool o0])]) := Kept.below N1.out hb2
        clear hb2
        go_wp2_with fail
        go_roundw
        case rel => exact ⟨k + 1, by omega, by omega, by go_num, N2⟩
        case measure => simp [intOf]; omega
      · have hq : ((k : Int) == D) = false := by rw [beq_eq_false_iff_ne]; exact hd
        have HE : Hid (y = x) := by rw [HAT.out, if_neg hd]; rfl
        rw [HE.out] at CB
        clear HAT HE hd
        go_wp2_with (first | refine arr_load rfl .u64 24 _ rfl (k4.heap.size) rfl A (Kept.arr MR.out 1 rfl) 4 22 Tryd.underlying24 (size_v HA.out) ?_)
        refine (CA.out _).mono ?_; rintro e u1 ⟨rfl, hb1⟩
        have N1 : Hid (Kept w u1 [(k7.heap.size, ks .u64 (V.with_ A D n)), (k4.heap.size, ks .u64 A), (w.heap.size, ks .u64 a0 ++ [Value.bool o0])]) := Kept.below MR.out hb1
        clear hb1
        go_wp2_with (first | refine arr_load rfl .u64 24 _ rfl (k7.heap.size) rfl (V.with_ A D n) (Kept.arr N1.out 0 rfl) 4 22 Tryd.underlying24 (size_v (V.with_length HA.out D n)) ?_)
        refine (CB.out _).mono ?_; rintro e u2 ⟨rfl, hb2⟩
        have N2 : Hid (Kept w u2 [(k7.heap.size, ks .u64 (V.with_ A D n)), (k4.heap.size, ks .u64 A), (w.heap.size, ks .u64 a0 ++ [Value.bool o0])]) := Kept.below N1.out hb2
        clear hb2
        go_wp2_with fail
        go_roundw
        case rel => exact ⟨k + 1, by omega, by omega, by go_num, N2⟩
        case measure => simp [intOf]; omega
    · obtain rfl : k = 5 := by omega
      go_wp2_with fail
      have KP10 : Hid (∀ u, Below wr.heap.size wr u → Arr .u64 u (k4.heap.size) A) := fun u hu => (Kept.below MR.out hu).arr 1 rfl
      have KP11 : Hid (∀ u, Below wr.heap.size wr u → Arr .u64 u (k7.heap.size) (V.with_ A D n)) := fun u hu => (Kept.below MR.out hu).arr 0 rfl
      have KA0 : Hid (kn = false → ∀ u, Below wr.heap.size wr u → Calls Tryd.prog 24 [AV .u64 A, .int .i64 D].toArray u fun e u' => e = .returned (.int .u64 0) ∧ Below wr.heap.size wr u') := fun h1 u hu => Calls.more hu (by have h := at_any A D u HA.out; rw [V.at_none A D (HK.out.trans h1)] at h; exact h)
      have KC1 : Hid (∀ u, Below wr.heap.size wr u → Calls Tryd.prog 24 [AV .u64 A, .int .i64 D].toArray u fun e u' => e = .returned (.int .u64 (V.at_ A D : Nat)) ∧ Below wr.heap.size wr u') := fun u hu => Calls.more hu (at_any A D u HA.out)
      have KC2 : Hid (∀ u, Below wr.heap.size wr u → Calls Tryd.prog 16 [AV .u64 (V.with_ A D n), .int .i64 D, .int .u64 (V.at_ A D : Nat)].toArray u fun e u' => e = .returned (AV .u64 (V.with_ (V.with_ A D n) D (V.at_ A D))) ∧ Below wr.heap.size wr u') := fun u hu => Calls.more hu (with_any (V.with_ A D n) D (V.at_ A D) u (V.with_length HA.out D n))
      refine region_w Tryd.mixed (by kernel_rfl) ?_
      refine w_move rfl _ rfl (.bool true) rfl (fun K hK => ?_)
      go_simp
      refine hK _ ?_
      clear hK K
      refine w_move rfl _ rfl (.bool true) rfl (fun K hK => ?_)
      go_simp
      refine hK _ ?_
      clear hK K
      refine wg_value (by rfl) (.bool kn) (fun u hu => by go_simp) (fun K hK => ?_)
      go_simp
      refine hK _ ?_
      clear hK K
      refine wg_value (by rfl) (.bool kn) (fun u hu => by go_simp) (fun K hK => ?_)
      go_simp
      refine hK _ ?_
      clear hK K
      cases kn with
      | false =>
        refine wg_arr_load (by rfl) .u64 24 _ rfl (k4.heap.size) rfl A KP10.out 4 22 Tryd.underlying24 (size_v HA.out) (fun K hK => ?_)
        go_simp
        refine hK _ ?_
        clear hK K
        refine wg_arr_load (by rfl) .u64 24 _ rfl (k7.heap.size) rfl (V.with_ A D n) KP11.out 4 22 Tryd.underlying24 (size_v (V.with_length HA.out D n)) (fun K hK => ?_)
        go_simp
        refine hK _ ?_
        clear hK K
        refine wg_value (by rfl) (.bool true) (fun u _ => run_eql u .eql 24 24 _ _ (AV .u64 A) (AV .u64 (V.with_ A D n)) _ rfl rfl rfl (guard_v _ _ _ _ u) (eql_true A (V.with_ A D n) HA.out (V.with_length HA.out D n) (V.with_none A D n HK.out).symm u)) (fun K hK => ?_)
        go_simp
        refine hK _ ?_
        clear hK K
        refine wg_value (by rfl) (.bool true) (fun u hu => by go_simp) (fun K hK => ?_)
        go_simp
        refine hK _ ?_
        clear hK K
        refine w_value rfl (.bool true) (fun u hu => by go_simp) (fun K hK => ?_)
        go_simp
        refine hK _ ?_
        clear hK K
        refine w_move rfl _ rfl (.bool true) rfl (fun K hK => ?_)
        go_simp
        refine hK _ ?_
        clear hK K
        refine wg_value (by rfl) (.bool false) (fun u hu => by go_simp) (fun K hK => ?_)
        go_simp
        refine hK _ ?_
        clear hK K
        refine wg_value (by rfl) (.bool false) (fun u hu => by go_simp) (fun K hK => ?_)
        go_simp
        refine hK _ ?_
        clear hK K
        refine wg_arr_load (by rfl) .u64 24 _ rfl (k4.heap.size) rfl A KP10.out 4 22 Tryd.underlying24 (size_v HA.out) (fun K hK => ?_)
        go_simp
        refine hK _ ?_
        clear hK K
        refine wg_value (by rfl) (.int .i64 D) (fun u hu => by go_simp) (fun K hK => ?_)
        go_simp
        refine hK _ ?_
        clear hK K
        refine wg_call (by rfl) 24 Tryd.f24 Tryd.func24 rfl rfl _ _ rfl _ rfl (.int .u64 0) (by exact (KA0.out rfl)) (fun K hK => ?_)
        go_simp
        refine hK _ ?_
        clear hK K
        refine wg_value (by rfl) (.bool true) (fun u hu => by go_simp) (fun K hK => ?_)
        go_simp
        refine hK _ ?_
        clear hK K
        refine wg_value (by rfl) (.bool true) (fun u hu => by go_simp) (fun K hK => ?_)
        go_simp
        refine hK _ ?_
        clear hK K
        refine w_value rfl (.bool true) (fun u hu => by go_simp) (fun K hK => ?_)
        go_simp
        refine hK _ ?_
        clear hK K
        refine w_move rfl _ rfl (.bool true) rfl (fun K hK => ?_)
        go_simp
        refine hK _ ?_
        clear hK K
        refine wg_value (by rfl) (.bool false) (fun u hu => by go_simp) (fun K hK => ?_)
        go_simp
        refine hK _ ?_
        clear hK K
        refine wg_value (by rfl) (.bool true) (fun u hu => by go_simp) (fun K hK => ?_)
        go_simp
        refine hK _ ?_
        clear hK K
        refine wg_value (by rfl) (.bool true) (fun u hu => by go_simp) (fun K hK => ?_)
        go_simp
        refine hK _ ?_
        clear hK K
        refine w_skip 21 false ((some true)) rfl rfl rfl (fun K hK => ?_)
        go_simp
        refine hK _ ?_
        clear hK K
        refine w_skip 21 false ((some true)) rfl rfl rfl (fun K hK => ?_)
        go_simp
        refine hK _ ?_
        clear hK K
        refine w_skip 21 false ((some true)) rfl rfl rfl (fun K hK => ?_)
        go_simp
        refine hK _ ?_
        clear hK K
        refine w_skip 21 false ((some true)) rfl rfl rfl (fun K hK => ?_)
        go_simp
        refine hK _ ?_
        clear hK K
        refine w_skip 21 false ((some true)) rfl rfl rfl (fun K hK => ?_)
        go_simp
        refine hK _ ?_
        clear hK K
        refine w_skip 21 false ((some true)) rfl rfl rfl (fun K hK => ?_)
        go_simp
        refine hK _ ?_
        clear hK K
        refine w_skip 21 false ((some true)) rfl rfl rfl (fun K hK => ?_)
        go_simp
        refine hK _ ?_
        clear hK K
        refine w_skip 21 false ((some true)) rfl rfl rfl (fun K hK => ?_)
        go_simp
        refine hK _ ?_
        clear hK K
        refine wg_value (by rfl) (.bool true) (fun u hu => by go_simp) (fun K hK => ?_)
        go_simp
        refine hK _ ?_
        clear hK K
        refine w_value rfl (.bool true) (fun u hu => by go_simp) (fun K hK => ?_)
        go_simp
        refine hK _ ?_
        clear hK K
        refine w_assign rfl _ rfl (.bool true) rfl (fun K hK => ?_)
        go_simp
        refine hK _ ?_
        clear hK K
        refine w_nil ?_
        intro u hu
        have HW9 : Hid (Below w.heap.size w u) := (Kept.below MR.out hu).under
        clear hu
        go_wp2_with fail
        go_ret
        exact ⟨rfl, HW9.out⟩
      | true =>
        refine w_skip 3 false ((some true)) rfl rfl rfl (fun K hK => ?_)
        go_simp
        refine hK _ ?_
        clear hK K
        refine w_skip 3 false ((some true)) rfl rfl rfl (fun K hK => ?_)
        go_simp
        refine hK _ ?_
        clear hK K
        refine w_skip 3 false ((some true)) rfl rfl rfl (fun K hK => ?_)
        go_simp
        refine hK _ ?_
        clear hK K
        refine wg_value (by rfl) (.bool true) (fun u hu => by go_simp) (fun K hK => ?_)
        go_simp
        refine hK _ ?_
        clear hK K
        refine w_value rfl (.bool true) (fun u hu => by go_simp) (fun K hK => ?_)
        go_simp
        refine hK _ ?_
        clear hK K
        refine w_move rfl _ rfl (.bool true) rfl (fun K hK => ?_)
        go_simp
        refine hK _ ?_
        clear hK K
        refine wg_value (by rfl) (.bool true) (fun u hu => by go_simp) (fun K hK => ?_)
        go_simp
        refine hK _ ?_
        clear hK K
        refine wg_value (by rfl) (.bool true) (fun u hu => by go_simp) (fun K hK => ?_)
        go_simp
        refine hK _ ?_
        clear hK K
        refine w_skip 11 false ((some true)) rfl rfl rfl (fun K hK => ?_)
        go_simp
        refine hK _ ?_
        clear hK K
        refine w_skip 11 false ((some true)) rfl rfl rfl (fun K hK => ?_)
        go_simp
        refine hK _ ?_
        clear hK K
        refine w_skip 11 false ((some true)) rfl rfl rfl (fun K hK => ?_)
        go_simp
        refine hK _ ?_
        clear hK K
        refine w_skip 11 false ((some true)) rfl rfl rfl (fun K hK => ?_)
        go_simp
        refine hK _ ?_
        clear hK K
        refine wg_value (by rfl) (.bool true) (fun u hu => by go_simp) (fun K hK => ?_)
        go_simp
        refine hK _ ?_
        clear hK K
        refine w_value rfl (.bool true) (fun u hu => by go_simp) (fun K hK => ?_)
        go_simp
        refine hK _ ?_
        clear hK K
        refine w_move rfl _ rfl (.bool true) rfl (fun K hK => ?_)
        go_simp
        refine hK _ ?_
        clear hK K
        refine wg_value (by rfl) (.bool true) (fun u hu => by go_simp) (fun K hK => ?_)
        go_simp
        refine hK _ ?_
        clear hK K
        refine wg_value (by rfl) (.bool false) (fun u hu => by go_simp) (fun K hK => ?_)
        go_simp
        refine hK _ ?_
        clear hK K
        refine wg_value (by rfl) (.bool false) (fun u hu => by go_simp) (fun K hK => ?_)
        go_simp
        refine hK _ ?_
        clear hK K
        refine wg_arr_load (by rfl) .u64 24 _ rfl (k7.heap.size) rfl (V.with_ A D n) KP11.out 4 22 Tryd.underlying24 (size_v (V.with_length HA.out D n)) (fun K hK => ?_)
        go_simp
        refine hK _ ?_
        clear hK K
        refine wg_value (by rfl) (.int .i64 D) (fun u hu => by go_simp) (fun K hK => ?_)
        go_simp
        refine hK _ ?_
        clear hK K
        refine wg_arr_load (by rfl) .u64 24 _ rfl (k4.heap.size) rfl A KP10.out 4 22 Tryd.underlying24 (size_v HA.out) (fun K hK => ?_)
        go_simp
        refine hK _ ?_
        clear hK K
        refine wg_value (by rfl) (.int .i64 D) (fun u hu => by go_simp) (fun K hK => ?_)
        go_simp
        refine hK _ ?_
        clear hK K
        refine wg_call (by rfl) 24 Tryd.f24 Tryd.func24 rfl rfl _ _ rfl _ rfl (.int .u64 (V.at_ A D : Nat)) (by exact KC1.out) (fun K hK => ?_)
        go_simp
        refine hK _ ?_
        clear hK K
        refine wg_call (by rfl) 16 Tryd.f16 Tryd.func16 rfl rfl _ _ rfl _ rfl (AV .u64 (V.with_ (V.with_ A D n) D (V.at_ A D))) (by exact KC2.out) (fun K hK => ?_)
        go_simp
        refine hK _ ?_
        clear hK K
        refine wg_arr_load (by rfl) .u64 24 _ rfl (k4.heap.size) rfl A KP10.out 4 22 Tryd.underlying24 (size_v HA.out) (fun K hK => ?_)
        go_simp
        refine hK _ ?_
        clear hK K
        refine wg_value (by rfl) (.bool true) (fun u _ => run_eql u .eql 24 24 _ _ (AV .u64 (V.with_ (V.with_ A D n) D (V.at_ A D))) (AV .u64 A) _ rfl rfl rfl (guard_v _ _ _ _ u) (eql_true (V.with_ (V.with_ A D n) D (V.at_ A D)) A (V.with_length (V.with_length HA.out D n) D _) HA.out (V.with_back HA.out D n HK.out) u)) (fun K hK => ?_)
        go_simp
        refine hK _ ?_
        clear hK K
        refine wg_value (by rfl) (.bool true) (fun u hu => by go_simp) (fun K hK => ?_)
        go_simp
        refine hK _ ?_
        clear hK K
        refine w_value rfl (.bool true) (fun u hu => by go_simp) (fun K hK => ?_)
        go_simp
        refine hK _ ?_
        clear hK K
        refine w_assign rfl _ rfl (.bool true) rfl (fun K hK => ?_)
        go_simp
        refine hK _ ?_
        clear hK K
        refine w_nil ?_
        intro u hu
        have HW9 : Hid (Below w.heap.size w u) := (Kept.below MR.out hu).under
        clear hu
        go_wp2_with fail
        go_ret
        exact ⟨rfl, HW9.out⟩

set_option maxRecDepth 100000 in
theorem lifted (os : Os) (started : os.Started) (H : Type) (enc : TypeId × Value → H) (F : Stop.Interp) :
    ReturnsInHanded {} Tryd.checked os 8 .any ((OpenSpec.ofChange Rows.vecWithSpec).preRow enc Tryd.prog Tryd.f8 Rows.vecWithRow.domain false Rows.vecWithRow.laid) (((OpenSpec.ofChange Rows.vecWithSpec).at F).post enc Tryd.prog Tryd.f8 false true false false) := by
  have hx : ∃ places, DataW.whole enc Tryd.prog ((laidWorld os).forCall (fun _ _ => 0) ⟨#[], #[.agg #[.int .u64 0, .int .u64 0, .int .u64 0, .int .u64 0, .bool false], .int .i64 0, .int .u64 0, .bool false], []⟩).memory Tryd.f8.params.toList Rows.vecWithSpec.vars false #[Value.agg #[.int .u64 0, .int .u64 0, .int .u64 0, .int .u64 0, .bool false], Value.int .i64 0, Value.int .u64 0, Value.bool false].toList 8 = some ([.agg [.agg [.lit (.int .u64 0), .lit (.int .u64 0), .lit (.int .u64 0), .lit (.int .u64 0)], .lit (.bool false)], .lit (.int .i64 0), .lit (.int .u64 0), .lit (.bool false)], [], places) := ⟨[], by kernel_rfl⟩
  obtain ⟨places, hx⟩ := hx
  refine returnsInHanded_of_row (C := Tryd.checked) (s := OpenSpec.ofChange Rows.vecWithSpec) own started (by kernel_rfl) Tryd.func8
    (witness_row_at (enc := enc) (C := Tryd.checked) false (laidWorld os) #[.agg #[.int .u64 0, .int .u64 0, .int .u64 0, .int .u64 0, .bool false], .int .i64 0, .int .u64 0, .bool false] rfl (by kernel_rfl) (by kernel_rfl) (by kernel_rfl)
      (OpenSpec.preRow_of_cond 8 hx (by kernel_rfl) (fun k hk => by cases hk) (by kernel_rfl) (laidMet_of_run' 8 (by kernel_rfl) (by kernel_rfl)))) ?_
  intro W base args ds gs before hval0 hW hcnd hcond hsz0 hL _ _
  have hT : Fm.Tab W := tab_of hL
  have hval : ∀ (j : Nat) t v, Tryd.f8.params[j]? = some t → args[j]? = some v → Value.okWide Tryd.prog W .any base t v := hval0
  have hW' := hW
  obtain ⟨p, q, hA0, hV, rfl, hfz, hnd⟩ := hW
  have hA : DataW.TrodAll enc Tryd.prog W 0 (fun _ => true) true Tryd.f8.params.toList args.toList ds p := hA0
  have hsz : (DataW.weightsEach Tryd.prog (Tryd.f8.params.toList ++ Rows.vecWithSpec.plain.varTypes Tryd.prog) (ds ++ gs)).all (· ≤ reachBytes) = true := hsz0
  rw [Tryd.params8] at hA hval hsz
  obtain ⟨rfl, rfl⟩ := trodVars_none hV
  have hAk := hA
  have hlt : ∀ x ∈ p, x.block < W.heap.size := fun x hx => by simpa using hW'.lt x (List.mem_append.2 (.inl hx))
  obtain ⟨v0, vs0, d0, ds0, p0, q0, hargs, rfl, rfl, h0, r0⟩ := trodAll_cons hA
  obtain ⟨v1, vs1, d1, ds1, p1, q1, rfl, rfl, rfl, h1, r1⟩ := trodAll_cons r0
  obtain ⟨v2, vs2, d2, ds2, p2, q2, rfl, rfl, rfl, h2, r2⟩ := trodAll_cons r1
  obtain ⟨v3, vs3, d3, ds3, p3, q3, rfl, rfl, rfl, h3, r3⟩ := trodAll_cons r2
  obtain ⟨rfl, rfl, rfl⟩ := trodAll_nil r3
  obtain rfl : args = #[v0, v1, v2, v3] := by cases args; simp_all
  obtain ⟨a0, o0, rfl, w0⟩ := open_vector (hval 0 26 v0 rfl rfl) h0
  obtain ⟨a1, rfl, rfl, rfl, w1⟩ := open_int Tryd.underlying3 (hval 1 3 v1 rfl rfl) h1
  obtain ⟨a2, rfl, rfl, rfl, w2⟩ := open_int Tryd.underlying22 (hval 2 22 v2 rfl rfl) h2
  obtain ⟨a3, rfl, rfl, rfl⟩ := open_bool Tryd.underlying4 (hval 3 4 v3 rfl rfl) h3
  clear hA0 hval0 hsz0
  refine (walk a0 o0 a1 a2 a3 w0 w1 w2 W hT).mono fun e W' ⟨he, hg⟩ => ?_
  subst he
  exact ⟨_, rfl, _, _, _, [], _, [], hW', (trodAll_cons_mk (shut_bool Tryd.underlying4 _) trodAll_mk0), trodAll_below laidOut hg _ _ _ _ (by kernel_rfl) hAk hlt, rfl, hg.frame _, fun h => by cases h⟩

theorem over : Rows.vecWithRow.holds Tryd.pinned (OpenSpec.ofChange Rows.vecWithSpec) :=
  OpenClaim.holds_of_cond 8 Tryd.f8 rfl rfl rfl rfl rfl rfl rfl ⟨rfl, rfl, rfl, rfl, rfl⟩ rfl rfl rfl rfl rfl (by kernel_rfl) Tryd.func8 (by kernel_rfl)
    (of_decide_eq_true (by kernel_rfl)) (by unfold Func.isWrapper; first | (rw [if_pos (by decide +kernel)]; kernel_rfl) | (rw [if_neg (by decide +kernel)]; exact ⟨rfl, rfl⟩))
    (fun os started H enc _ F => by rw [OpenClaim.pre_eq_preRow]; exact lifted os started H enc F)

set_option maxRecDepth 100000 in
theorem plain (f : FuncId) (fn : Func) (hf : Tryd.pinned.checked.prog.funcNamed "tenement/tenementlaw06.VecWith" = some f) (hfn : Tryd.pinned.checked.prog.funcs[f]? = some fn) :
    false = Tryd.pinned.checked.prog.looks [] ∧ ∀ (j : Nat) t, fn.params[j]? = some t → Tryd.pinned.checked.prog.wantsStandIn t = false := by
  obtain rfl : f = 8 := Option.some.inj ((show Tryd.prog.funcNamed "tenement/tenementlaw06.VecWith" = some 8 by kernel_rfl).symm.trans hf) |>.symm
  obtain rfl : fn = Tryd.f8 := (Option.some.inj (Tryd.func8.symm.trans hfn)).symm
  refine ⟨by kernel_rfl, fun j t ht => ?_⟩
  rw [Tryd.params8] at ht
  have hm := Array.mem_of_getElem? ht
  simp only [List.mem_toArray, List.mem_cons, List.not_mem_nil, or_false] at hm
  rcases hm with rfl | rfl | rfl | rfl
  all_goals first | exact (show Tryd.prog.wantsStandIn 26 = false by kernel_rfl) | exact (show Tryd.prog.wantsStandIn 3 = false by kernel_rfl) | exact (show Tryd.prog.wantsStandIn 22 = false by kernel_rfl) | exact (show Tryd.prog.wantsStandIn 4 = false by kernel_rfl)

/-- the statement -/
theorem proved : Rows.VecWithCardSaid :=
  Claim7.holds_tied_plain_at .later [] _ _ _ _ over (fun _ h => by cases h) (by kernel_rfl) (fun _ h => by cases h) vecWith_row_tie rfl ⟨rfl, rfl⟩ (by kernel_rfl) rfl plain (by kernel_rfl)
#print axioms proved

end Go.Proofs.YtpdomhddjpfibaaDoor.vecWith
