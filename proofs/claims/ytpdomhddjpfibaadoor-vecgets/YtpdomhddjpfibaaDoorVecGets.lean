/-
  Any bytes, and those of a vector with a byte another one, are the vector, or none, that the chapter says (the law VecGets). No conditions.
-/
import Derived.Test.YtpdomhddjpfibaaDoorFrameTab

import Derived.Test.YtpdomhddjpfibaaDoorVecEx

import Derived.Test.YtpdomhddjpfibaaDoorVecOf

import Derived.Test.YtpdomhddjpfibaaDoorVecBackM

import Derived.Test.YtpdomhddjpfibaaDoorVecRef3

import Derived.Test.YtpdomhddjpfibaaDoorVecBend

import Derived.Test.YtpdomhddjpfibaaDoorFrameVec

namespace Go.Proofs.YtpdomhddjpfibaaDoor.vecGets

open Go.ChangeShapes Go.WideShapes Go.ChangeAt Go.RowKit

open Go.Proofs.YtpdomhddjpfibaaDoor.Vc

open Go.ChangeMaps (open_string shut_string)

set_option linter.unusedVariables false

set_option linter.unusedSimpArgs false

set_option maxHeartbeats 8000000 in
set_option maxRecDepth 100000 in
theorem walk (a0 : List Nat) (o0 : Bool) (a1 : ByteArray) (a2 : Bool) (a3 : Int) (a4 : Int) (a5 : Bool) (w0 : V.Ok a0) (z1 : a1.size ≤ 140737488351232) (w3 : (Lit.int .i64 a3).wf = true) (w4 : (Lit.int .u8 a4).wf = true) (w : World) (hT : Fm.Tab w) :
    Calls Tryd.prog 4 #[VV a0 o0, .string a1, .bool a2, .int .i64 a3, .int .u8 a4, .bool a5] w fun e w' => e = .returned (.bool true) ∧ Below w.heap.size w w' := by
  have CE := Lib.hid examples_any
  obtain ⟨A, EA⟩ : ∃ r, Hid (V.few a0 o0 = r) := ⟨_, rfl⟩
  have OA : Hid (V.Ok A) := by rw [← EA.out]; exact V.few_ok w0 o0
  have HA : Hid (A.length = 4) := OA.out.len
  have CV0 := Lib.hid (fun w => vector_any a0 o0 w w0)
  rw [EA.out] at CV0
  have h3 : -9223372036854775808 ≤ a3 ∧ a3 ≤ 9223372036854775807 := by simpa [Lit.wf, IntKind.min, IntKind.max, IntKind.signed, IntKind.bits] using w3
  obtain ⟨m, rfl⟩ : ∃ m : UInt8, a4 = (m.toNat : Int) := by
    have hx : 0 ≤ a4 ∧ a4 ≤ 255 := by simpa [Lit.wf, IntKind.min, IntKind.max, IntKind.signed, IntKind.bits] using w4
    exact ⟨UInt8.ofNat a4.toNat, by rw [UInt8.toNat_ofNat_of_lt' (by show _ < 256; omega)]; omega⟩
  cases a2 with
  | false =>
    have HS : Hid (a1.size ≤ maxLen) := by show _ ≤ _; unfold maxLen; omega
    obtain ⟨X, R, bd, HG⟩ : ∃ X R bd, Hid (V.gets a1 a5 = (X, R, bd)) := ⟨_, _, _, rfl⟩
    have HX : Hid (X.length = 4) := by
      have h := (V.gets_ok a1 a5).1.len
      rw [HG.out] at h
      exact h
    have HQ : Hid (∀ u, (binOp .eql 29 (AV .u64 X) (AV .u64 X)).run Tryd.prog u = .ok (.bool true) u) := fun u => by rw [eql_r X X HX.out HX.out u, decide_eq_true rfl]
    have CG := Lib.hid (fun w => get_any a1 a5 X R bd w HS.out HG.out)
    have CR := Lib.hid (fun w => ref_get a1 a5 X R bd w HS.out HG.out)
    clear HG HS
    clear w3 w4 h3
    go_enter Tryd.func4, Tryd.ntmps4
    have M0 : Hid (Kept w w []) := Kept.start w
    go_wp2_with (first | refine blk_box rfl 26 _ rfl (ks .u64 a0 ++ [Value.bool o0]) rfl ?_)
    intro k2 A2 B2 Z2
    have M2 : Hid (Kept w k2 [(w.heap.size, ks .u64 a0 ++ [Value.bool o0])]) := Kept.new M0.out B2 Z2 A2
    clear A2 B2 Z2 M0
    go_wp2_with fail
    refine (CE.out k2).mono ?_; rintro e k3 ⟨rfl, hb3⟩
    have M3 : Hid (Kept w k3 [(w.heap.size, ks .u64 a0 ++ [Value.bool o0])]) := Kept.below M2.out hb3
    clear hb3 M2
    go_wp2_with fail
    refine (CG.out k3).mono ?_; rintro e k4 ⟨rfl, hb4⟩
    have M4 : Hid (Kept w k4 [(w.heap.size, ks .u64 a0 ++ [Value.bool o0])]) := Kept.below M3.out hb4
    clear hb4 M3
    go_wp2_with (first | refine arr_alloc rfl .u64 24 4 rfl Tryd.info_v ?_)
    intro k5 A5 B5 Z5
    go_wp2_with (first | refine blk_alloc rfl 51 [.string ⟨#[]⟩, .bool false] rfl Tryd.info_rd ?_)
    intro k6 A6 B6 Z6
    go_wp2_with (first | refine arr_store rfl .u64 24 _ _ rfl (k4.heap.size) rfl X rfl _ (A5.below B6 (by omega)) (by rw [HX.out]; rfl) (size_v HX.out) ?_)
    intro k7 A7 U7
    go_wp2_with (first | refine blk_store rfl 51 _ _ rfl (k4.heap.size + 1) rfl [.string R, .bool bd] rfl _ (A6.upd U7 (by omega)) rfl Tryd.size_rd rfl ?_)
    intro k8 A8 U8
    have M8 : Hid (Kept w k8 [(k4.heap.size + 1, [.string R, .bool bd]), (k4.heap.size, ks .u64 X), (w.heap.size, ks .u64 a0 ++ [Value.bool o0])]) := Kept.pair M4.out (B5.trans (B6.mono (by omega))) (by omega) U7 U8 (Arr.blk (A7.upd U8 (by omega))) A8
    clear A5 B5 Z5 A6 B6 Z6 A7 U7 A8 U8 M4
    go_wp2_with fail
    refine (CR.out k8).mono ?_; rintro e k9 ⟨rfl, hb9⟩
    have M9 : Hid (Kept w k9 [(k4.heap.size + 1, [.string R, .bool bd]), (k4.heap.size, ks .u64 X), (w.heap.size, ks .u64 a0 ++ [Value.bool o0])]) := Kept.below M8.out hb9
    clear hb9 M8
    go_wp2_with (first | refine arr_alloc rfl .u64 29 4 rfl Tryd.info_r ?_)
    intro k10 A10 B10 Z10
    go_wp2_with (first | refine blk_alloc rfl 54 [.string ⟨#[]⟩, .bool false] rfl Tryd.info_rr ?_)
    intro k11 A11 B11 Z11
    go_wp2_with (first | refine arr_store rfl .u64 29 _ _ rfl (k9.heap.size) rfl X rfl _ (A10.below B11 (by omega)) (by rw [HX.out]; rfl) (size_r HX.out) ?_)
    intro k12 A12 U12
    go_wp2_with (first | refine blk_store rfl 54 _ _ rfl (k9.heap.size + 1) rfl [.string R, .bool bd] rfl _ (A11.upd U12 (by omega)) rfl Tryd.size_rr rfl ?_)
    intro k13 A13 U13
    have M13 : Hid (Kept w k13 [(k9.heap.size + 1, [.string R, .bool bd]), (k9.heap.size, ks .u64 X), (k4.heap.size + 1, [.string R, .bool bd]), (k4.heap.size, ks .u64 X), (w.heap.size, ks .u64 a0 ++ [Value.bool o0])]) := Kept.pair M9.out (B10.trans (B11.mono (by omega))) (by omega) U12 U13 (Arr.blk (A12.upd U13 (by omega))) A13
    clear A10 B10 Z10 A11 B11 Z11 A12 U12 A13 U13 M9
    have c00 := (Kept.get M13.out 2 rfl).cell 0 _ rfl
    have c01 := (Kept.get M13.out 2 rfl).cell 1 _ rfl
    have c10 := (Kept.get M13.out 0 rfl).cell 0 _ rfl
    have c11 := (Kept.get M13.out 0 rfl).cell 1 _ rfl
    have HE : Hid (Below w.heap.size w k13) := M13.out.under
    have HA1 : Hid (Arr .u64 k13 (k4.heap.size) X) := Kept.arr M13.out 3 rfl
    have HA2 : Hid (Arr .u64 k13 (k9.heap.size) X) := Kept.arr M13.out 1 rfl
    clear M13
    go_wp2_with (first | refine arr_loadg rfl .u64 24 _ rfl (k4.heap.size) rfl X HA1.out 4 22 Tryd.underlying24 (size_v HX.out) ?_ | refine arr_loadg rfl .u64 29 _ rfl (k9.heap.size) rfl X HA2.out 4 22 Tryd.underlying29 (size_r HX.out) ?_ | refine val_stepg rfl (.bool true) (run_eql _ .eql 29 29 _ _ (AV .u64 X) (AV .u64 X) _ rfl rfl rfl (guard_r _ _ _ _ _) (HQ.out _)) ?_)
    go_ret
    exact ⟨rfl, HE.out⟩
  | true =>
    have CP := Lib.hid (fun w => ref_put A w OA.out)
    have hp : (P.S (V.put A)).size ≤ 40 := by rw [P.S_size]; exact (V.put_pos HA.out).2
    obtain ⟨p, HP⟩ : ∃ r, Hid (P.S (V.put A) = r) := ⟨_, rfl⟩
    rw [HP.out] at CP hp
    have hcat : p.size + a1.size ≤ 9223372036854775807 := by omega
    have CB := Lib.hid (fun w => bend_any (p ++ a1) a3 m w (by rw [ByteArray.size_append]; omega) h3.1 h3.2)
    clear w3 w4 h3 HP
    go_enter Tryd.func4, Tryd.ntmps4
    have M0 : Hid (Kept w w []) := Kept.start w
    go_wp2_with (first | refine blk_box rfl 26 _ rfl (ks .u64 a0 ++ [Value.bool o0]) rfl ?_)
    intro k2 A2 B2 Z2
    have M2 : Hid (Kept w k2 [(w.heap.size, ks .u64 a0 ++ [Value.bool o0])]) := Kept.new M0.out B2 Z2 A2
    clear A2 B2 Z2 M0
    go_wp2_with fail
    refine (CE.out k2).mono ?_; rintro e k3 ⟨rfl, hb3⟩
    have M3 : Hid (Kept w k3 [(w.heap.size, ks .u64 a0 ++ [Value.bool o0])]) := Kept.below M2.out hb3
    clear hb3 M2
    go_wp2_with (first | refine blk_load rfl 26 _ rfl (w.heap.size) rfl (ks .u64 a0 ++ [Value.bool o0]) (Kept.get M3.out 0 rfl) _ Tryd.underlying26 rfl (size_vv w0.len) ?_)
    refine (CV0.out k3).mono ?_; rintro e k4 ⟨rfl, hb4⟩
    have M4 : Hid (Kept w k4 [(w.heap.size, ks .u64 a0 ++ [Value.bool o0])]) := Kept.below M3.out hb4
    clear hb4 M3
    go_wp2_with fail
    refine (CP.out k4).mono ?_; rintro e k5 ⟨rfl, hb5⟩
    have M5 : Hid (Kept w k5 [(w.heap.size, ks .u64 a0 ++ [Value.bool o0])]) := Kept.below M4.out hb5
    clear hb5 M4
    go_wp2_with fail
    refine (CB.out k5).mono ?_; rintro e k6 ⟨⟨s, rfl, hsz⟩, hb6⟩
    have M6 : Hid (Kept w k6 [(w.heap.size, ks .u64 a0 ++ [Value.bool o0])]) := Kept.below M5.out hb6
    clear hb6 M5
    have HS : Hid (s.size ≤ maxLen) := by show _ ≤ _; rw [hsz, ByteArray.size_append]; unfold maxLen; omega
    clear hsz
    obtain ⟨X, R, bd, HG⟩ : ∃ X R bd, Hid (V.gets s a5 = (X, R, bd)) := ⟨_, _, _, rfl⟩
    have HX : Hid (X.length = 4) := by
      have h := (V.gets_ok s a5).1.len
      rw [HG.out] at h
      exact h
    have HQ : Hid (∀ u, (binOp .eql 29 (AV .u64 X) (AV .u64 X)).run Tryd.prog u = .ok (.bool true) u) := fun u => by rw [eql_r X X HX.out HX.out u, decide_eq_true rfl]
    have CG := Lib.hid (fun w => get_any s a5 X R bd w HS.out HG.out)
    have CR := Lib.hid (fun w => ref_get s a5 X R bd w HS.out HG.out)
    clear HG HS
    go_wp2_with fail
    refine (CG.out k6).mono ?_; rintro e k7 ⟨rfl, hb7⟩
    have M7 : Hid (Kept w k7 [(w.heap.size, ks .u64 a0 ++ [Value.bool o0])]) := Kept.below M6.out hb7
    clear hb7 M6
    go_wp2_with (first | refine arr_alloc rfl .u64 24 4 rfl Tryd.info_v ?_)
    intro k8 A8 B8 Z8
    go_wp2_with (first | refine blk_alloc rfl 51 [.string ⟨#[]⟩, .bool false] rfl Tryd.info_rd ?_)
    intro k9 A9 B9 Z9
    go_wp2_with (first | refine arr_store rfl .u64 24 _ _ rfl (k7.heap.size) rfl X rfl _ (A8.below B9 (by omega)) (by rw [HX.out]; rfl) (size_v HX.out) ?_)
    intro k10 A10 U10
    go_wp2_with (first | refine blk_store rfl 51 _ _ rfl (k7.heap.size + 1) rfl [.string R, .bool bd] rfl _ (A9.upd U10 (by omega)) rfl Tryd.size_rd rfl ?_)
    intro k11 A11 U11
    have M11 : Hid (Kept w k11 [(k7.heap.size + 1, [.string R, .bool bd]), (k7.heap.size, ks .u64 X), (w.heap.size, ks .u64 a0 ++ [Value.bool o0])]) := Kept.pair M7.out (B8.trans (B9.mono (by omega))) (by omega) U10 U11 (Arr.blk (A10.upd U11 (by omega))) A11
    clear A8 B8 Z8 A9 B9 Z9 A10 U10 A11 U11 M7
    go_wp2_with fail
    refine (CR.out k11).mono ?_; rintro e k12 ⟨rfl, hb12⟩
    have M12 : Hid (Kept w k12 [(k7.heap.size + 1, [.string R, .bool bd]), (k7.heap.size, ks .u64 X), (w.heap.size, ks .u64 a0 ++ [Value.bool o0])]) := Kept.below M11.out hb12
    clear hb12 M11
    go_wp2_with (first | refine arr_alloc rfl .u64 29 4 rfl Tryd.info_r ?_)
    intro k13 A13 B13 Z13
    go_wp2_with (first | refine blk_alloc rfl 54 [.string ⟨#[]⟩, .bool false] rfl Tryd.info_rr ?_)
    intro k14 A14 B14 Z14
    go_wp2_with (first | refine arr_store rfl .u64 29 _ _ rfl (k12.heap.size) rfl X rfl _ (A13.below B14 (by omega)) (by rw [HX.out]; rfl) (size_r HX.out) ?_)
    intro k15 A15 U15
    go_wp2_with (first | refine blk_store rfl 54 _ _ rfl (k12.heap.size + 1) rfl [.string R, .bool bd] rfl _ (A14.upd U15 (by omega)) rfl Tryd.size_rr rfl ?_)
    intro k16 A16 U16
    have M16 : Hid (Kept w k16 [(k12.heap.size + 1, [.string R, .bool bd]), (k12.heap.size, ks .u64 X), (k7.heap.size + 1, [.string R, .bool bd]), (k7.heap.size, ks .u64 X), (w.heap.size, ks .u64 a0 ++ [Value.bool o0])]) := Kept.pair M12.out (B13.trans (B14.mono (by omega))) (by omega) U15 U16 (Arr.blk (A15.upd U16 (by omega))) A16
    clear A13 B13 Z13 A14 B14 Z14 A15 U15 A16 U16 M12
    have c00 := (Kept.get M16.out 2 rfl).cell 0 _ rfl
    have c01 := (Kept.get M16.out 2 rfl).cell 1 _ rfl
    have c10 := (Kept.get M16.out 0 rfl).cell 0 _ rfl
    have c11 := (Kept.get M16.out 0 rfl).cell 1 _ rfl
    have HE : Hid (Below w.heap.size w k16) := M16.out.under
    have HA1 : Hid (Arr .u64 k16 (k7.heap.size) X) := Kept.arr M16.out 3 rfl
    have HA2 : Hid (Arr .u64 k16 (k12.heap.size) X) := Kept.arr M16.out 1 rfl
    clear M16
    go_wp2_with (first | refine arr_loadg rfl .u64 24 _ rfl (k7.heap.size) rfl X HA1.out 4 22 Tryd.underlying24 (size_v HX.out) ?_ | refine arr_loadg rfl .u64 29 _ rfl (k12.heap.size) rfl X HA2.out 4 22 Tryd.underlying29 (size_r HX.out) ?_ | refine val_stepg rfl (.bool true) (run_eql _ .eql 29 29 _ _ (AV .u64 X) (AV .u64 X) _ rfl rfl rfl (guard_r _ _ _ _ _) (HQ.out _)) ?_)
    go_ret
    exact ⟨rfl, HE.out⟩

set_option maxRecDepth 100000 in
theorem lifted (os : Os) (started : os.Started) (H : Type) (enc : TypeId × Value → H) (F : Stop.Interp) :
    ReturnsInHanded {} Tryd.checked os 4 .any ((OpenSpec.ofChange Rows.vecGetsSpec).preRow enc Tryd.prog Tryd.f4 Rows.vecGetsRow.domain false Rows.vecGetsRow.laid) (((OpenSpec.ofChange Rows.vecGetsSpec).at F).post enc Tryd.prog Tryd.f4 false true false false) := by
  have hx : ∃ places, DataW.whole enc Tryd.prog ((laidWorld os).forCall (fun _ _ => 0) ⟨#[], #[.agg #[.int .u64 0, .int .u64 0, .int .u64 0, .int .u64 0, .bool false], .string ByteArray.empty, .bool false, .int .i64 0, .int .u8 0, .bool false], []⟩).memory Tryd.f4.params.toList Rows.vecGetsSpec.vars false #[Value.agg #[.int .u64 0, .int .u64 0, .int .u64 0, .int .u64 0, .bool false], Value.string ByteArray.empty, Value.bool false, Value.int .i64 0, Value.int .u8 0, Value.bool false].toList 8 = some ([.agg [.agg [.lit (.int .u64 0), .lit (.int .u64 0), .lit (.int .u64 0), .lit (.int .u64 0)], .lit (.bool false)], .lit (.string []), .lit (.bool false), .lit (.int .i64 0), .lit (.int .u8 0), .lit (.bool false)], [], places) := ⟨[], by kernel_rfl⟩
  obtain ⟨places, hx⟩ := hx
  refine returnsInHanded_of_row (C := Tryd.checked) (s := OpenSpec.ofChange Rows.vecGetsSpec) own started (by kernel_rfl) Tryd.func4
    (witness_row_at (enc := enc) (C := Tryd.checked) false (laidWorld os) #[.agg #[.int .u64 0, .int .u64 0, .int .u64 0, .int .u64 0, .bool false], .string ByteArray.empty, .bool false, .int .i64 0, .int .u8 0, .bool false] rfl (by kernel_rfl) (by kernel_rfl) (by kernel_rfl)
      (OpenSpec.preRow_of_cond 8 hx (by kernel_rfl) (fun k hk => by cases hk) (by kernel_rfl) (laidMet_of_run' 8 (by kernel_rfl) (by kernel_rfl)))) ?_
  intro W base args ds gs before hval0 hW hcnd hcond hsz0 hL _ _
  have hT : Fm.Tab W := tab_of hL
  have hval : ∀ (j : Nat) t v, Tryd.f4.params[j]? = some t → args[j]? = some v → Value.okWide Tryd.prog W .any base t v := hval0
  have hW' := hW
  obtain ⟨p, q, hA0, hV, rfl, hfz, hnd⟩ := hW
  have hA : DataW.TrodAll enc Tryd.prog W 0 (fun _ => true) true Tryd.f4.params.toList args.toList ds p := hA0
  have hsz : (DataW.weightsEach Tryd.prog (Tryd.f4.params.toList ++ Rows.vecGetsSpec.plain.varTypes Tryd.prog) (ds ++ gs)).all (· ≤ reachBytes) = true := hsz0
  rw [Tryd.params4] at hA hval hsz
  obtain ⟨rfl, rfl⟩ := trodVars_none hV
  have hAk := hA
  have hlt : ∀ x ∈ p, x.block < W.heap.size := fun x hx => by simpa using hW'.lt x (List.mem_append.2 (.inl hx))
  obtain ⟨v0, vs0, d0, ds0, p0, q0, hargs, rfl, rfl, h0, r0⟩ := trodAll_cons hA
  obtain ⟨v1, vs1, d1, ds1, p1, q1, rfl, rfl, rfl, h1, r1⟩ := trodAll_cons r0
  obtain ⟨v2, vs2, d2, ds2, p2, q2, rfl, rfl, rfl, h2, r2⟩ := trodAll_cons r1
  obtain ⟨v3, vs3, d3, ds3, p3, q3, rfl, rfl, rfl, h3, r3⟩ := trodAll_cons r2
  obtain ⟨v4, vs4, d4, ds4, p4, q4, rfl, rfl, rfl, h4, r4⟩ := trodAll_cons r3
  obtain ⟨v5, vs5, d5, ds5, p5, q5, rfl, rfl, rfl, h5, r5⟩ := trodAll_cons r4
  obtain ⟨rfl, rfl, rfl⟩ := trodAll_nil r5
  obtain rfl : args = #[v0, v1, v2, v3, v4, v5] := by cases args; simp_all
  obtain ⟨a0, o0, rfl, w0⟩ := open_vector (hval 0 26 v0 rfl rfl) h0
  obtain ⟨a1, rfl, rfl, rfl, w1⟩ := open_string Tryd.underlying9 (hval 1 9 v1 rfl rfl) h1
  have z1 := sized_string hsz (j := 1) (t := 9) rfl rfl
  obtain ⟨a2, rfl, rfl, rfl⟩ := open_bool Tryd.underlying4 (hval 2 4 v2 rfl rfl) h2
  obtain ⟨a3, rfl, rfl, rfl, w3⟩ := open_int Tryd.underlying3 (hval 3 3 v3 rfl rfl) h3
  obtain ⟨a4, rfl, rfl, rfl, w4⟩ := open_int Tryd.underlying5 (hval 4 5 v4 rfl rfl) h4
  obtain ⟨a5, rfl, rfl, rfl⟩ := open_bool Tryd.underlying4 (hval 5 4 v5 rfl rfl) h5
  clear hA0 hval0 hsz0
  refine (walk a0 o0 a1 a2 a3 a4 a5 w0 (by rw [Array.length_toList] at z1; exact z1) w3 w4 W hT).mono fun e W' ⟨he, hg⟩ => ?_
  subst he
  exact ⟨_, rfl, _, _, _, [], _, [], hW', (trodAll_cons_mk (shut_bool Tryd.underlying4 _) trodAll_mk0), trodAll_below laidOut hg _ _ _ _ (by kernel_rfl) hAk hlt, rfl, hg.frame _, fun h => by cases h⟩

theorem over : Rows.vecGetsRow.holds Tryd.pinned (OpenSpec.ofChange Rows.vecGetsSpec) :=
  OpenClaim.holds_of_cond 4 Tryd.f4 rfl rfl rfl rfl rfl rfl rfl ⟨rfl, rfl, rfl, rfl, rfl⟩ rfl rfl rfl rfl rfl (by kernel_rfl) Tryd.func4 (by kernel_rfl)
    (of_decide_eq_true (by kernel_rfl)) (by unfold Func.isWrapper; first | (rw [if_pos (by decide +kernel)]; kernel_rfl) | (rw [if_neg (by decide +kernel)]; exact ⟨rfl, rfl⟩))
    (fun os started H enc _ F => by rw [OpenClaim.pre_eq_preRow]; exact lifted os started H enc F)

set_option maxRecDepth 100000 in
theorem plain (f : FuncId) (fn : Func) (hf : Tryd.pinned.checked.prog.funcNamed "tenement/tenementlaw06.VecGets" = some f) (hfn : Tryd.pinned.checked.prog.funcs[f]? = some fn) :
    false = Tryd.pinned.checked.prog.looks [] ∧ ∀ (j : Nat) t, fn.params[j]? = some t → Tryd.pinned.checked.prog.wantsStandIn t = false := by
  obtain rfl : f = 4 := Option.some.inj ((show Tryd.prog.funcNamed "tenement/tenementlaw06.VecGets" = some 4 by kernel_rfl).symm.trans hf) |>.symm
  obtain rfl : fn = Tryd.f4 := (Option.some.inj (Tryd.func4.symm.trans hfn)).symm
  refine ⟨by kernel_rfl, fun j t ht => ?_⟩
  rw [Tryd.params4] at ht
  have hm := Array.mem_of_getElem? ht
  simp only [List.mem_toArray, List.mem_cons, List.not_mem_nil, or_false] at hm
  rcases hm with rfl | rfl | rfl | rfl | rfl | rfl
  all_goals first | exact (show Tryd.prog.wantsStandIn 26 = false by kernel_rfl) | exact (show Tryd.prog.wantsStandIn 9 = false by kernel_rfl) | exact (show Tryd.prog.wantsStandIn 4 = false by kernel_rfl) | exact (show Tryd.prog.wantsStandIn 3 = false by kernel_rfl) | exact (show Tryd.prog.wantsStandIn 5 = false by kernel_rfl)

/-- the statement -/
theorem proved : Rows.VecGetsCardSaid :=
  Claim7.holds_tied_plain_at .later [] _ _ _ _ over (fun _ h => by cases h) (by kernel_rfl) (fun _ h => by cases h) vecGets_row_tie rfl ⟨rfl, rfl⟩ (by kernel_rfl) rfl plain (by kernel_rfl)
#print axioms proved

end Go.Proofs.YtpdomhddjpfibaaDoor.vecGets
