/-
  Every token is right, or not, minted, and opened, as the document's own answer tells; all bytes, and those of a token with a byte another one, or something behind, are opened so (the law MacOpens). No conditions.
-/
import Derived.Test.YtlodahlinncpcaaDoorFrameLaid
import Derived.Test.YtlodahlinncpcaaDoorMacEx
import Derived.Test.YtlodahlinncpcaaDoorMacTok
import Derived.Test.YtlodahlinncpcaaDoorMacCanon
import Derived.Test.YtlodahlinncpcaaDoorMacBend
import Derived.Test.YtlodahlinncpcaaDoorFramePass
namespace Go.Proofs.YtlodahlinncpcaaDoor.macOpens
open Go.ChangeShapes Go.WideShapes Go.ChangeAt Go.RowKit
open Go.Proofs.YtlodahlinncpcaaDoor.Mc
open Go.ChangeMaps (open_string shut_string)
set_option linter.unusedVariables false
set_option linter.unusedSimpArgs false

theorem Tryd.size_pass : (Tryd.prog.info? 39).map (·.size) = some 5 := by kernel_rfl
/-- both mint the same, and tell the same of what is right -/
theorem both_mint (k B : ByteArray) (T R : Int) (U : Nat) (hk : k.size ≤ 140737488355000) (hB : B.size ≤ 9223372036854775807) (hU : U < 2 ^ 64) : ∃ (m : ByteArray) (ok : Bool), m.size ≤ 100 ∧
    (∀ w, Tab w → Calls Tryd.prog 28 #[.string k, .agg #[.int .i64 T, .string B, .int .i64 R, .int .u64 (U : Int)]] w fun e w' => e = .returned (.tuple #[.string m, .bool ok]) ∧ Below w.heap.size w w') ∧
    (∀ w, Calls Tryd.prog 29 #[.string k, .agg #[.int .i64 T, .string B, .int .i64 R, .int .u64 (U : Int)]] w fun e w' => e = .returned (.tuple #[.string m, .bool ok]) ∧ Below w.heap.size w w') ∧
    (∀ w, Calls Tryd.prog 31 #[.agg #[.int .i64 T, .string B, .int .i64 R, .int .u64 (U : Int)]] w fun e w' => e = .returned (.bool ok) ∧ Below w.heap.size w w') ∧
    (∀ w, Calls Tryd.prog 32 #[.agg #[.int .i64 T, .string B, .int .i64 R, .int .u64 (U : Int)]] w fun e w' => e = .returned (.bool ok) ∧ Below w.heap.size w w') := by
  have r1 := fun w => right_any T B R U w hB
  have r2 := fun w => ref_right T B R U w hB
  cases hR : M.right T B.size R with
  | false =>
    rw [hR] at r1 r2
    exact ⟨⟨#[]⟩, false, by decide, fun w _ => mint_no k B T R U w hB hR, fun w => ref_mint_no k B T R U w hB hR, r1, r2⟩
  | true =>
    rw [hR] at r1 r2
    have h := hR
    unfold M.right at h
    rw [decide_eq_true_iff] at h
    obtain ⟨h1, h2, h3, h4, h5, h6⟩ := h
    obtain ⟨t, rfl⟩ : ∃ t : Nat, T = (t : Int) := ⟨T.toNat, by omega⟩
    obtain ⟨r, rfl⟩ : ∃ r : Nat, R = (r : Int) := ⟨R.toNat, by omega⟩
    refine ⟨_, true, ?_, fun w hT => mint_yes k B t r U w hk (by omega) (by omega) h3 h4 (by omega) (by omega) hU hT, fun w => ref_mint_yes k B t r U w hk (by omega) (by omega) h3 h4 (by omega) (by omega) hU, r1, r2⟩
    rw [S_size, List.length_append, M.hmac_length, plain_len, len_list]
    have := P.vary_le B.size
    omega
set_option maxHeartbeats 20000000 in
set_option maxRecDepth 100000 in
theorem way0 (k s : ByteArray) (h : Nat) (at_ : Int) (y : UInt8) (now : Nat) (T0 : Int) (B0 : ByteArray) (R0 U0 : Int) (o : Bool) (T : Int) (B : ByteArray) (R : Int) (U : Nat) (w : World) (hT : Tab w) (hk : k.size ≤ 140737488351232) (hs : s.size ≤ 140737488351232) (hh : h < 256)
    (ha1 : -9223372036854775808 ≤ at_) (ha2 : at_ ≤ 9223372036854775807) (hnow : now < 2 ^ 64) (hB : B.size ≤ 9223372036854775807) (hU : U < 2 ^ 64)
    (CT0 : ∀ w, Calls Tryd.prog 27 #[.agg #[.int .i64 T0, .string B0, .int .i64 R0, .int .u64 U0, .bool o]] w fun e w' => e = .returned (.agg [.int .i64 T, .string B, .int .i64 R, .int .u64 (U : Int)].toArray) ∧ Below w.heap.size w w') (hj : h % 4 = 0) :
    Calls Tryd.prog 6 #[.agg #[.int .i64 T0, .string B0, .int .i64 R0, .int .u64 U0, .bool o], .string k, .string s, .int .u8 (h : Int), .int .i64 at_, .int .u8 (y.toNat : Int), .int .u64 (now : Int)] w fun e w' => e = .returned (.bool true) ∧ Below w.heap.size w w' := by
  have CE : Hid _ := mexamples_any
  have CT : Hid _ := CT0
  have HT : Hid _ := hT
  have hz := hT.pos
  have hk5 : k.size ≤ 140737488355000 := by omega
  obtain ⟨m, ok, hm, M1, M2, M3, M4⟩ := both_mint k B T R U hk5 hB hU
  have CM : Hid _ := M1
  have CN : Hid _ := M2
  have CR : Hid _ := M3
  have CQ : Hid _ := M4
  have CF : Hid _ := fun w => refToken_any T B R (U : Int) w
  have e4 : (h : Int).tmod 4 = (0 : Int) := by rw [Int.tmod_eq_emod_of_nonneg (by omega)]; omega
  have u4 : IntKind.u8.wrap (0 : Int) = (0 : Int) := by decide
  obtain ⟨i8, hi8⟩ : ∃ i, i = h % 8 := ⟨_, rfl⟩
  have e8 : (h : Int).tmod 8 = (i8 : Int) := by rw [Int.tmod_eq_emod_of_nonneg (by omega)]; omega
  have u8 : IntKind.u8.wrap (i8 : Int) = (i8 : Int) := by rw [IntKind.wrap_u8']; omega
  obtain ⟨n5, hn5⟩ : ∃ n, n = now % 50 := ⟨_, rfl⟩
  have e5 : (now : Int).tmod 50 = (n5 : Int) := by rw [Int.tmod_eq_emod_of_nonneg (by omega)]; omega
  have u5 : IntKind.u64.wrap (n5 : Int) = (n5 : Int) := by rw [IntKind.wrap_u64]; omega
  have hmm : (m.toList == m.toList) = true := beq_self_eq_true _
  clear hT CT0 M1 M2 M3 M4 hi8 hn5 hh hj
  go_enter Tryd.func6, Tryd.ntmps6
  go_wp2_with (first | refine blk_box rfl 39 _ rfl [.int .i64 T0, .string B0, .int .i64 R0, .int .u64 U0, .bool o] rfl ?_)
  intro w1 K1 B1 Z1
  have HT1 : Hid (Tab w1) := Tab.below HT.out B1 hz
  go_wp2_with fail
  refine (CE.out _ HT1.out).mono ?_; rintro e w2 ⟨rfl, hb2⟩
  have HK2 : Hid _ := K1.below hb2 (by omega)
  have HB2 : Hid (Below w.heap.size w w2) := B1.trans (hb2.mono (by omega))
  clear K1 B1 hb2 HT1 CE Z1
  go_wp2_with (first | refine blk_load rfl 39 _ rfl w.heap.size rfl [.int .i64 T0, .string B0, .int .i64 R0, .int .u64 U0, .bool o] HK2.out _ Tryd.underlying39 rfl Tryd.size_pass ?_)
  refine (CT.out _).mono ?_; rintro e w3 ⟨rfl, hb3⟩
  have HB3 : Hid (Below w.heap.size w w3) := Below.trans HB2.out (hb3.mono HB2.out.size)
  clear hb3 HK2 HB2 CT
  go_wp2_with (first | refine blk_alloc rfl 37 zeroTok rfl Tryd.info_tok ?_)
  intro w4 K4 B4 Z4
  go_wp2_with (first | refine blk_store rfl 37 _ _ rfl w3.heap.size rfl [.int .i64 T, .string B, .int .i64 R, .int .u64 (U : Int)] rfl _ K4 rfl Tryd.size_tok rfl ?_)
  intro w5 K5 U5
  have y3 : w.heap.size ≤ w3.heap.size := HB3.out.size
  have HK5 : Hid (Blk w5 w3.heap.size [.int .i64 T, .string B, .int .i64 R, .int .u64 (U : Int)]) := K5
  have HB5 : Hid (Below w.heap.size w w5) := Below.trans HB3.out ((B4.mono y3).trans (U5.below y3))
  have y5 : w5.heap.size = w3.heap.size + 1 := by have := U5.size; omega
  have HT5 : Hid (Tab w5) := Tab.below HT.out HB5.out hz
  obtain ⟨bt, hbt⟩ : ∃ b, w3.heap.size = b := ⟨_, rfl⟩
  rw [hbt] at HK5 y5
  rw [hbt]
  clear K4 B4 Z4 K5 U5 HB3 y3 hbt
  go_wp2_with (first | refine blk_load rfl 37 _ rfl bt rfl [.int .i64 T, .string B, .int .i64 R, .int .u64 (U : Int)] HK5.out _ Tryd.underlying37 rfl Tryd.size_tok ?_)
  refine (CM.out _ HT5.out).mono ?_; rintro e w6 ⟨rfl, hb6⟩
  have y6 := hb6.size
  have HK6 : Hid (Blk w6 bt [.int .i64 T, .string B, .int .i64 R, .int .u64 (U : Int)]) := Blk.below HK5.out hb6 (by omega)
  have HB6 : Hid (Below w.heap.size w w6) := Below.trans HB5.out (hb6.mono HB5.out.size)
  clear hb6 HK5 HB5 HT5 CM
  go_wp2_with (first | refine blk_load rfl 37 _ rfl bt rfl [.int .i64 T, .string B, .int .i64 R, .int .u64 (U : Int)] HK6.out _ Tryd.underlying37 rfl Tryd.size_tok ?_)
  refine (CF.out _).mono ?_; rintro e w7 ⟨rfl, hb7⟩
  have y7 := hb7.size
  have HK7 : Hid (Blk w7 bt [.int .i64 T, .string B, .int .i64 R, .int .u64 (U : Int)]) := Blk.below HK6.out hb7 (by omega)
  have HB7 : Hid (Below w.heap.size w w7) := Below.trans HB6.out (hb7.mono HB6.out.size)
  clear hb7 HK6 HB6
  go_wp2_with fail
  refine (CN.out _).mono ?_; rintro e w8 ⟨rfl, hb8⟩
  have y8 := hb8.size
  have HK8 : Hid (Blk w8 bt [.int .i64 T, .string B, .int .i64 R, .int .u64 (U : Int)]) := Blk.below HK7.out hb8 (by omega)
  have HB8 : Hid (Below w.heap.size w w8) := Below.trans HB7.out (hb8.mono HB7.out.size)
  have z8 : bt < w8.heap.size := by omega
  clear hb8 HK7 HB7 CN
  have XR : Hid (∀ u, Below w8.heap.size w8 u → Calls Tryd.prog 31 [.agg [.int .i64 T, .string B, .int .i64 R, .int .u64 (U : Int)].toArray].toArray u fun e u' => e = .returned (.bool ok) ∧ Below w8.heap.size w8 u') := fun u hu => Calls.more hu (CR.out u)
  have XF : Hid (∀ u, Below w8.heap.size w8 u → Calls Tryd.prog 30 [.agg [.int .i64 T, .string B, .int .i64 R, .int .u64 (U : Int)].toArray].toArray u fun e u' => e = .returned (.agg [.int .i64 T, .string B, .int .i64 R, .int .u64 (U : Int)].toArray) ∧ Below w8.heap.size w8 u') := fun u hu => Calls.more hu (CF.out u)
  have XQ : Hid (∀ u, Below w8.heap.size w8 u → Calls Tryd.prog 32 [.agg [.int .i64 T, .string B, .int .i64 R, .int .u64 (U : Int)].toArray].toArray u fun e u' => e = .returned (.bool ok) ∧ Below w8.heap.size w8 u') := fun u hu => Calls.more hu (CQ.out u)
  have XB : Hid (∀ u, Below w8.heap.size w8 u → Blk u bt [.int .i64 T, .string B, .int .i64 R, .int .u64 (U : Int)]) := fun u hu => Blk.below HK8.out hu z8
  clear CR CQ CF
  go_wp2_with fail
  refine region_more Tryd.mixed (by kernel_rfl) ?_
  refine q_move rfl _ rfl (.string m) rfl (fun K hK => ?_)
  go_simp
  refine hK _ ?_
  clear hK K
  refine q_move rfl _ rfl (.string m) rfl (fun K hK => ?_)
  go_simp
  refine hK _ ?_
  clear hK K
  refine q_value rfl (.bool false) (fun u hu => by go_simp) (fun K hK => ?_)
  go_simp
  refine hK _ ?_
  clear hK K
  refine q_move rfl _ rfl (.bool false) rfl (fun K hK => ?_)
  go_simp
  refine hK _ ?_
  clear hK K
  refine qg_value (by rfl) (.bool ok) (fun u hu => by go_simp) (fun K hK => ?_)
  go_simp
  refine hK _ ?_
  clear hK K
  refine qg_value (by rfl) (.bool ok) (fun u hu => by go_simp) (fun K hK => ?_)
  go_simp
  refine hK _ ?_
  clear hK K
  refine qg_value (by rfl) (.bool false) (fun u hu => by go_simp) (fun K hK => ?_)
  go_simp
  refine hK _ ?_
  clear hK K
  refine q_value rfl (.bool false) (fun u hu => by go_simp) (fun K hK => ?_)
  go_simp
  refine hK _ ?_
  clear hK K
  refine q_move rfl _ rfl (.bool false) rfl (fun K hK => ?_)
  go_simp
  refine hK _ ?_
  clear hK K
  refine qg_blk_load (by rfl) 37 _ rfl bt rfl [.int .i64 T, .string B, .int .i64 R, .int .u64 (U : Int)] (by exact XB.out) _ Tryd.underlying37 rfl Tryd.size_tok (fun K hK => ?_)
  go_simp
  refine hK _ ?_
  clear hK K
  refine qg_call (by rfl) 31 _ Tryd.func31 (by kernel_rfl) (by kernel_rfl) _ _ rfl [.agg [.int .i64 T, .string B, .int .i64 R, .int .u64 (U : Int)].toArray] rfl (.bool ok) (by exact XR.out) (fun K hK => ?_)
  go_simp
  refine hK _ ?_
  clear hK K
  refine qg_blk_load (by rfl) 37 _ rfl bt rfl [.int .i64 T, .string B, .int .i64 R, .int .u64 (U : Int)] (by exact XB.out) _ Tryd.underlying37 rfl Tryd.size_tok (fun K hK => ?_)
  go_simp
  refine hK _ ?_
  clear hK K
  refine qg_call (by rfl) 30 _ Tryd.func30 (by kernel_rfl) (by kernel_rfl) _ _ rfl [.agg [.int .i64 T, .string B, .int .i64 R, .int .u64 (U : Int)].toArray] rfl (.agg [.int .i64 T, .string B, .int .i64 R, .int .u64 (U : Int)].toArray) (by exact XF.out) (fun K hK => ?_)
  go_simp
  refine hK _ ?_
  clear hK K
  refine qg_call (by rfl) 32 _ Tryd.func32 (by kernel_rfl) (by kernel_rfl) _ _ rfl [.agg [.int .i64 T, .string B, .int .i64 R, .int .u64 (U : Int)].toArray] rfl (.bool ok) (by exact XQ.out) (fun K hK => ?_)
  go_simp
  refine hK _ ?_
  clear hK K
  refine qg_value (by rfl) (.bool false) (fun u hu => by go_simp) (fun K hK => ?_)
  go_simp
  refine hK _ ?_
  clear hK K
  refine q_value rfl (.bool false) (fun u hu => by go_simp) (fun K hK => ?_)
  go_simp
  refine hK _ ?_
  clear hK K
  refine wpQuiet_nil ?_
  intro w9 hu9
  have HB9 : Hid (Below w.heap.size w w9) := Below.trans HB8.out (hu9.mono HB8.out.size)
  clear hu9 HK8 HB8 XR XF XQ XB z8 y5 y6 y7 y8
  by_cases h8 : (i8 : Int) < 4
  · have d8 : decide ((i8 : Int) < 4) = true := by rw [decide_eq_true_iff]; omega
    have d8' : (i8 : Int) < 4 := by omega
    clear h8
    obtain ⟨xT, xB, xR, xU, xc, HSA, HSB⟩ := both_open k m n5 hk5 (by omega)
    have CA : Hid _ := HSA
    have CB : Hid _ := HSB
    clear HSA HSB
    have HTa : Hid (Tab w9) := Tab.below HT.out HB9.out hz
    go_wp2_with fail
    refine (CA.out _ HTa.out).mono ?_; rintro e v1 ⟨rfl, hb1⟩
    have HV1 : Hid (Below w.heap.size w v1) := Below.trans HB9.out (hb1.mono HB9.out.size)
    clear hb1
    go_wp2_with (first | refine blk_alloc rfl 37 zeroTok rfl Tryd.info_tok ?_)
    intro v2 K2 B2 Z2
    go_wp2_with (first | refine blk_store rfl 37 _ _ rfl v1.heap.size rfl [.int .i64 xT, .string xB, .int .i64 xR, .int .u64 xU] rfl _ K2 rfl Tryd.size_tok rfl ?_)
    intro v3 K3 U3
    have y1 : w.heap.size ≤ v1.heap.size := HV1.out.size
    have HX3 : Hid (Blk v3 v1.heap.size [.int .i64 xT, .string xB, .int .i64 xR, .int .u64 xU]) := K3
    have HV3 : Hid (Below w.heap.size w v3) := Below.trans HV1.out ((B2.mono y1).trans (U3.below y1))
    have y3 : v3.heap.size = v1.heap.size + 1 := by have := U3.size; omega
    clear K2 B2 Z2 K3 U3 HV1
    go_wp2_with fail
    refine (CB.out _).mono ?_; rintro e v4 ⟨rfl, hb4⟩
    have y4 := hb4.size
    have HX4 : Hid (Blk v4 v1.heap.size [.int .i64 xT, .string xB, .int .i64 xR, .int .u64 xU]) := Blk.below HX3.out hb4 (by omega)
    have HV4 : Hid (Below w.heap.size w v4) := Below.trans HV3.out (hb4.mono HV3.out.size)
    clear hb4 HX3 HV3
    go_wp2_with (first | refine blk_alloc rfl 44 zeroTok rfl Tryd.info_rtok ?_)
    intro v5 K5 B5 Z5
    go_wp2_with (first | refine blk_store rfl 44 _ _ rfl v4.heap.size rfl [.int .i64 xT, .string xB, .int .i64 xR, .int .u64 xU] rfl _ K5 rfl Tryd.size_rtok rfl ?_)
    intro v6 K6 U6
    have y5 : w.heap.size ≤ v4.heap.size := HV4.out.size
    have HY6 : Hid (Blk v6 v4.heap.size [.int .i64 xT, .string xB, .int .i64 xR, .int .u64 xU]) := K6
    have HX6 : Hid (Blk v6 v1.heap.size [.int .i64 xT, .string xB, .int .i64 xR, .int .u64 xU]) := (Blk.below HX4.out B5 (by omega)).upd U6 (by omega)
    have HV6 : Hid (Below w.heap.size w v6) := Below.trans HV4.out ((B5.mono y5).trans (U6.below y5))
    have y6 : v6.heap.size = v4.heap.size + 1 := by have := U6.size; omega
    have y7 : v1.heap.size < v6.heap.size := by omega
    have y8 : v4.heap.size < v6.heap.size := by omega
    clear K5 B5 Z5 K6 U6 HX4 HV4
    have XX : Hid (∀ u, Below v6.heap.size v6 u → Calls Tryd.prog 30 [.agg [.int .i64 xT, .string xB, .int .i64 xR, .int .u64 xU].toArray].toArray u fun e u' => e = .returned (.agg [.int .i64 xT, .string xB, .int .i64 xR, .int .u64 xU].toArray) ∧ Below v6.heap.size v6 u') := fun u hu => Calls.more hu (refToken_any xT xB xR xU u)
    have XA : Hid (∀ u, Below v6.heap.size v6 u → Blk u v1.heap.size [.int .i64 xT, .string xB, .int .i64 xR, .int .u64 xU]) := fun u hu => Blk.below HX6.out hu y7
    have XC : Hid (∀ u, Below v6.heap.size v6 u → Blk u v4.heap.size [.int .i64 xT, .string xB, .int .i64 xR, .int .u64 xU]) := fun u hu => Blk.below HY6.out hu y8
    go_wp2_with fail
    refine region_more Tryd.mixed (by kernel_rfl) ?_
    refine q_move rfl _ rfl (.bool true) rfl (fun K hK => ?_)
    go_simp
    refine hK _ ?_
    clear hK K
    refine q_move rfl _ rfl (.bool true) rfl (fun K hK => ?_)
    go_simp
    refine hK _ ?_
    clear hK K
    refine qg_blk_load (by rfl) 37 _ rfl v1.heap.size rfl [.int .i64 xT, .string xB, .int .i64 xR, .int .u64 xU] (by exact XA.out) _ Tryd.underlying37 rfl Tryd.size_tok (fun K hK => ?_)
    go_simp
    refine hK _ ?_
    clear hK K
    refine qg_call (by rfl) 30 _ Tryd.func30 (by kernel_rfl) (by kernel_rfl) _ _ rfl [.agg [.int .i64 xT, .string xB, .int .i64 xR, .int .u64 xU].toArray] rfl (.agg [.int .i64 xT, .string xB, .int .i64 xR, .int .u64 xU].toArray) (by exact XX.out) (fun K hK => ?_)
    go_simp
    refine hK _ ?_
    clear hK K
    refine qg_blk_load (by rfl) 44 _ rfl v4.heap.size rfl [.int .i64 xT, .string xB, .int .i64 xR, .int .u64 xU] (by exact XC.out) _ Tryd.underlying44 rfl Tryd.size_rtok (fun K hK => ?_)
    go_simp
    refine hK _ ?_
    clear hK K
    refine qg_value (by rfl) (.bool true) (fun u hu => by go_simp) (fun K hK => ?_)
    go_simp
    refine hK _ ?_
    clear hK K
    refine q_value rfl (.bool true) (fun u hu => by go_simp) (fun K hK => ?_)
    go_simp
    refine hK _ ?_
    clear hK K
    refine q_move rfl _ rfl (.bool true) rfl (fun K hK => ?_)
    go_simp
    refine hK _ ?_
    clear hK K
    refine qg_value (by rfl) (.int .i64 xc) (fun u hu => by go_simp) (fun K hK => ?_)
    go_simp
    refine hK _ ?_
    clear hK K
    refine qg_value (by rfl) (.int .i64 xc) (fun u hu => by go_simp) (fun K hK => ?_)
    go_simp
    refine hK _ ?_
    clear hK K
    refine qg_value (by rfl) (.bool true) (fun u hu => by go_simp) (fun K hK => ?_)
    go_simp
    refine hK _ ?_
    clear hK K
    refine q_value rfl (.bool true) (fun u hu => by go_simp) (fun K hK => ?_)
    go_simp
    refine hK _ ?_
    clear hK K
    refine q_assign rfl _ rfl (.bool true) rfl (fun K hK => ?_)
    go_simp
    refine hK _ ?_
    clear hK K
    refine wpQuiet_nil ?_
    intro u hu
    have HVU : Hid (Below w.heap.size w u) := Below.trans HV6.out (hu.mono HV6.out.size)
    clear hu
    go_wp2_with fail
    go_ret
    exact ⟨by simp, HVU.out⟩
  · have d8 : decide ((i8 : Int) < 4) = false := by rw [decide_eq_false_iff_not]; omega
    have d8' : ¬ (i8 : Int) < 4 := by omega
    clear h8
    obtain ⟨xT, xB, xR, xU, xc, HSA, HSB⟩ := both_open k m now hk5 (by omega)
    have CA : Hid _ := HSA
    have CB : Hid _ := HSB
    clear HSA HSB
    have HTa : Hid (Tab w9) := Tab.below HT.out HB9.out hz
    go_wp2_with fail
    refine (CA.out _ HTa.out).mono ?_; rintro e v1 ⟨rfl, hb1⟩
    have HV1 : Hid (Below w.heap.size w v1) := Below.trans HB9.out (hb1.mono HB9.out.size)
    clear hb1
    go_wp2_with (first | refine blk_alloc rfl 37 zeroTok rfl Tryd.info_tok ?_)
    intro v2 K2 B2 Z2
    go_wp2_with (first | refine blk_store rfl 37 _ _ rfl v1.heap.size rfl [.int .i64 xT, .string xB, .int .i64 xR, .int .u64 xU] rfl _ K2 rfl Tryd.size_tok rfl ?_)
    intro v3 K3 U3
    have y1 : w.heap.size ≤ v1.heap.size := HV1.out.size
    have HX3 : Hid (Blk v3 v1.heap.size [.int .i64 xT, .string xB, .int .i64 xR, .int .u64 xU]) := K3
    have HV3 : Hid (Below w.heap.size w v3) := Below.trans HV1.out ((B2.mono y1).trans (U3.below y1))
    have y3 : v3.heap.size = v1.heap.size + 1 := by have := U3.size; omega
    clear K2 B2 Z2 K3 U3 HV1
    go_wp2_with fail
    refine (CB.out _).mono ?_; rintro e v4 ⟨rfl, hb4⟩
    have y4 := hb4.size
    have HX4 : Hid (Blk v4 v1.heap.size [.int .i64 xT, .string xB, .int .i64 xR, .int .u64 xU]) := Blk.below HX3.out hb4 (by omega)
    have HV4 : Hid (Below w.heap.size w v4) := Below.trans HV3.out (hb4.mono HV3.out.size)
    clear hb4 HX3 HV3
    go_wp2_with (first | refine blk_alloc rfl 44 zeroTok rfl Tryd.info_rtok ?_)
    intro v5 K5 B5 Z5
    go_wp2_with (first | refine blk_store rfl 44 _ _ rfl v4.heap.size rfl [.int .i64 xT, .string xB, .int .i64 xR, .int .u64 xU] rfl _ K5 rfl Tryd.size_rtok rfl ?_)
    intro v6 K6 U6
    have y5 : w.heap.size ≤ v4.heap.size := HV4.out.size
    have HY6 : Hid (Blk v6 v4.heap.size [.int .i64 xT, .string xB, .int .i64 xR, .int .u64 xU]) := K6
    have HX6 : Hid (Blk v6 v1.heap.size [.int .i64 xT, .string xB, .int .i64 xR, .int .u64 xU]) := (Blk.below HX4.out B5 (by omega)).upd U6 (by omega)
    have HV6 : Hid (Below w.heap.size w v6) := Below.trans HV4.out ((B5.mono y5).trans (U6.below y5))
    have y6 : v6.heap.size = v4.heap.size + 1 := by have := U6.size; omega
    have y7 : v1.heap.size < v6.heap.size := by omega
    have y8 : v4.heap.size < v6.heap.size := by omega
    clear K5 B5 Z5 K6 U6 HX4 HV4
    have XX : Hid (∀ u, Below v6.heap.size v6 u → Calls Tryd.prog 30 [.agg [.int .i64 xT, .string xB, .int .i64 xR, .int .u64 xU].toArray].toArray u fun e u' => e = .returned (.agg [.int .i64 xT, .string xB, .int .i64 xR, .int .u64 xU].toArray) ∧ Below v6.heap.size v6 u') := fun u hu => Calls.more hu (refToken_any xT xB xR xU u)
    have XA : Hid (∀ u, Below v6.heap.size v6 u → Blk u v1.heap.size [.int .i64 xT, .string xB, .int .i64 xR, .int .u64 xU]) := fun u hu => Blk.below HX6.out hu y7
    have XC : Hid (∀ u, Below v6.heap.size v6 u → Blk u v4.heap.size [.int .i64 xT, .string xB, .int .i64 xR, .int .u64 xU]) := fun u hu => Blk.below HY6.out hu y8
    go_wp2_with fail
    refine region_more Tryd.mixed (by kernel_rfl) ?_
    refine q_move rfl _ rfl (.bool true) rfl (fun K hK => ?_)
    go_simp
    refine hK _ ?_
    clear hK K
    refine q_move rfl _ rfl (.bool true) rfl (fun K hK => ?_)
    go_simp
    refine hK _ ?_
    clear hK K
    refine qg_blk_load (by rfl) 37 _ rfl v1.heap.size rfl [.int .i64 xT, .string xB, .int .i64 xR, .int .u64 xU] (by exact XA.out) _ Tryd.underlying37 rfl Tryd.size_tok (fun K hK => ?_)
    go_simp
    refine hK _ ?_
    clear hK K
    refine qg_call (by rfl) 30 _ Tryd.func30 (by kernel_rfl) (by kernel_rfl) _ _ rfl [.agg [.int .i64 xT, .string xB, .int .i64 xR, .int .u64 xU].toArray] rfl (.agg [.int .i64 xT, .string xB, .int .i64 xR, .int .u64 xU].toArray) (by exact XX.out) (fun K hK => ?_)
    go_simp
    refine hK _ ?_
    clear hK K
    refine qg_blk_load (by rfl) 44 _ rfl v4.heap.size rfl [.int .i64 xT, .string xB, .int .i64 xR, .int .u64 xU] (by exact XC.out) _ Tryd.underlying44 rfl Tryd.size_rtok (fun K hK => ?_)
    go_simp
    refine hK _ ?_
    clear hK K
    refine qg_value (by rfl) (.bool true) (fun u hu => by go_simp) (fun K hK => ?_)
    go_simp
    refine hK _ ?_
    clear hK K
    refine q_value rfl (.bool true) (fun u hu => by go_simp) (fun K hK => ?_)
    go_simp
    refine hK _ ?_
    clear hK K
    refine q_move rfl _ rfl (.bool true) rfl (fun K hK => ?_)
    go_simp
    refine hK _ ?_
    clear hK K
    refine qg_value (by rfl) (.int .i64 xc) (fun u hu => by go_simp) (fun K hK => ?_)
    go_simp
    refine hK _ ?_
    clear hK K
    refine qg_value (by rfl) (.int .i64 xc) (fun u hu => by go_simp) (fun K hK => ?_)
    go_simp
    refine hK _ ?_
    clear hK K
    refine qg_value (by rfl) (.bool true) (fun u hu => by go_simp) (fun K hK => ?_)
    go_simp
    refine hK _ ?_
    clear hK K
    refine q_value rfl (.bool true) (fun u hu => by go_simp) (fun K hK => ?_)
    go_simp
    refine hK _ ?_
    clear hK K
    refine q_assign rfl _ rfl (.bool true) rfl (fun K hK => ?_)
    go_simp
    refine hK _ ?_
    clear hK K
    refine wpQuiet_nil ?_
    intro u hu
    have HVU : Hid (Below w.heap.size w u) := Below.trans HV6.out (hu.mono HV6.out.size)
    clear hu
    go_wp2_with fail
    go_ret
    exact ⟨by simp, HVU.out⟩
set_option maxHeartbeats 20000000 in
set_option maxRecDepth 100000 in
theorem way1 (k s : ByteArray) (h : Nat) (at_ : Int) (y : UInt8) (now : Nat) (T0 : Int) (B0 : ByteArray) (R0 U0 : Int) (o : Bool) (T : Int) (B : ByteArray) (R : Int) (U : Nat) (w : World) (hT : Tab w) (hk : k.size ≤ 140737488351232) (hs : s.size ≤ 140737488351232) (hh : h < 256)
    (ha1 : -9223372036854775808 ≤ at_) (ha2 : at_ ≤ 9223372036854775807) (hnow : now < 2 ^ 64) (hB : B.size ≤ 9223372036854775807) (hU : U < 2 ^ 64)
    (CT0 : ∀ w, Calls Tryd.prog 27 #[.agg #[.int .i64 T0, .string B0, .int .i64 R0, .int .u64 U0, .bool o]] w fun e w' => e = .returned (.agg [.int .i64 T, .string B, .int .i64 R, .int .u64 (U : Int)].toArray) ∧ Below w.heap.size w w') (hj : h % 4 = 1) :
    Calls Tryd.prog 6 #[.agg #[.int .i64 T0, .string B0, .int .i64 R0, .int .u64 U0, .bool o], .string k, .string s, .int .u8 (h : Int), .int .i64 at_, .int .u8 (y.toNat : Int), .int .u64 (now : Int)] w fun e w' => e = .returned (.bool true) ∧ Below w.heap.size w w' := by
  have CE : Hid _ := mexamples_any
  have CT : Hid _ := CT0
  have HT : Hid _ := hT
  have hz := hT.pos
  have hk5 : k.size ≤ 140737488355000 := by omega
  obtain ⟨m, ok, hm, M1, M2, M3, M4⟩ := both_mint k B T R U hk5 hB hU
  have CM : Hid _ := M1
  have CN : Hid _ := M2
  have CR : Hid _ := M3
  have CQ : Hid _ := M4
  have CF : Hid _ := fun w => refToken_any T B R (U : Int) w
  have e4 : (h : Int).tmod 4 = (1 : Int) := by rw [Int.tmod_eq_emod_of_nonneg (by omega)]; omega
  have u4 : IntKind.u8.wrap (1 : Int) = (1 : Int) := by decide
  obtain ⟨i8, hi8⟩ : ∃ i, i = h % 8 := ⟨_, rfl⟩
  have e8 : (h : Int).tmod 8 = (i8 : Int) := by rw [Int.tmod_eq_emod_of_nonneg (by omega)]; omega
  have u8 : IntKind.u8.wrap (i8 : Int) = (i8 : Int) := by rw [IntKind.wrap_u8']; omega
  obtain ⟨n5, hn5⟩ : ∃ n, n = now % 50 := ⟨_, rfl⟩
  have e5 : (now : Int).tmod 50 = (n5 : Int) := by rw [Int.tmod_eq_emod_of_nonneg (by omega)]; omega
  have u5 : IntKind.u64.wrap (n5 : Int) = (n5 : Int) := by rw [IntKind.wrap_u64]; omega
  have hmm : (m.toList == m.toList) = true := beq_self_eq_true _
  clear hT CT0 M1 M2 M3 M4 hi8 hn5 hh hj
  go_enter Tryd.func6, Tryd.ntmps6
  go_wp2_with (first | refine blk_box rfl 39 _ rfl [.int .i64 T0, .string B0, .int .i64 R0, .int .u64 U0, .bool o] rfl ?_)
  intro w1 K1 B1 Z1
  have HT1 : Hid (Tab w1) := Tab.below HT.out B1 hz
  go_wp2_with fail
  refine (CE.out _ HT1.out).mono ?_; rintro e w2 ⟨rfl, hb2⟩
  have HK2 : Hid _ := K1.below hb2 (by omega)
  have HB2 : Hid (Below w.heap.size w w2) := B1.trans (hb2.mono (by omega))
  clear K1 B1 hb2 HT1 CE Z1
  go_wp2_with (first | refine blk_load rfl 39 _ rfl w.heap.size rfl [.int .i64 T0, .string B0, .int .i64 R0, .int .u64 U0, .bool o] HK2.out _ Tryd.underlying39 rfl Tryd.size_pass ?_)
  refine (CT.out _).mono ?_; rintro e w3 ⟨rfl, hb3⟩
  have HB3 : Hid (Below w.heap.size w w3) := Below.trans HB2.out (hb3.mono HB2.out.size)
  clear hb3 HK2 HB2 CT
  go_wp2_with (first | refine blk_alloc rfl 37 zeroTok rfl Tryd.info_tok ?_)
  intro w4 K4 B4 Z4
  go_wp2_with (first | refine blk_store rfl 37 _ _ rfl w3.heap.size rfl [.int .i64 T, .string B, .int .i64 R, .int .u64 (U : Int)] rfl _ K4 rfl Tryd.size_tok rfl ?_)
  intro w5 K5 U5
  have y3 : w.heap.size ≤ w3.heap.size := HB3.out.size
  have HK5 : Hid (Blk w5 w3.heap.size [.int .i64 T, .string B, .int .i64 R, .int .u64 (U : Int)]) := K5
  have HB5 : Hid (Below w.heap.size w w5) := Below.trans HB3.out ((B4.mono y3).trans (U5.below y3))
  have y5 : w5.heap.size = w3.heap.size + 1 := by have := U5.size; omega
  have HT5 : Hid (Tab w5) := Tab.below HT.out HB5.out hz
  obtain ⟨bt, hbt⟩ : ∃ b, w3.heap.size = b := ⟨_, rfl⟩
  rw [hbt] at HK5 y5
  rw [hbt]
  clear K4 B4 Z4 K5 U5 HB3 y3 hbt
  go_wp2_with (first | refine blk_load rfl 37 _ rfl bt rfl [.int .i64 T, .string B, .int .i64 R, .int .u64 (U : Int)] HK5.out _ Tryd.underlying37 rfl Tryd.size_tok ?_)
  refine (CM.out _ HT5.out).mono ?_; rintro e w6 ⟨rfl, hb6⟩
  have y6 := hb6.size
  have HK6 : Hid (Blk w6 bt [.int .i64 T, .string B, .int .i64 R, .int .u64 (U : Int)]) := Blk.below HK5.out hb6 (by omega)
  have HB6 : Hid (Below w.heap.size w w6) := Below.trans HB5.out (hb6.mono HB5.out.size)
  clear hb6 HK5 HB5 HT5 CM
  go_wp2_with (first | refine blk_load rfl 37 _ rfl bt rfl [.int .i64 T, .string B, .int .i64 R, .int .u64 (U : Int)] HK6.out _ Tryd.underlying37 rfl Tryd.size_tok ?_)
  refine (CF.out _).mono ?_; rintro e w7 ⟨rfl, hb7⟩
  have y7 := hb7.size
  have HK7 : Hid (Blk w7 bt [.int .i64 T, .string B, .int .i64 R, .int .u64 (U : Int)]) := Blk.below HK6.out hb7 (by omega)
  have HB7 : Hid (Below w.heap.size w w7) := Below.trans HB6.out (hb7.mono HB6.out.size)
  clear hb7 HK6 HB6
  go_wp2_with fail
  refine (CN.out _).mono ?_; rintro e w8 ⟨rfl, hb8⟩
  have y8 := hb8.size
  have HK8 : Hid (Blk w8 bt [.int .i64 T, .string B, .int .i64 R, .int .u64 (U : Int)]) := Blk.below HK7.out hb8 (by omega)
  have HB8 : Hid (Below w.heap.size w w8) := Below.trans HB7.out (hb8.mono HB7.out.size)
  have z8 : bt < w8.heap.size := by omega
  clear hb8 HK7 HB7 CN
  have XR : Hid (∀ u, Below w8.heap.size w8 u → Calls Tryd.prog 31 [.agg [.int .i64 T, .string B, .int .i64 R, .int .u64 (U : Int)].toArray].toArray u fun e u' => e = .returned (.bool ok) ∧ Below w8.heap.size w8 u') := fun u hu => Calls.more hu (CR.out u)
  have XF : Hid (∀ u, Below w8.heap.size w8 u → Calls Tryd.prog 30 [.agg [.int .i64 T, .string B, .int .i64 R, .int .u64 (U : Int)].toArray].toArray u fun e u' => e = .returned (.agg [.int .i64 T, .string B, .int .i64 R, .int .u64 (U : Int)].toArray) ∧ Below w8.heap.size w8 u') := fun u hu => Calls.more hu (CF.out u)
  have XQ : Hid (∀ u, Below w8.heap.size w8 u → Calls Tryd.prog 32 [.agg [.int .i64 T, .string B, .int .i64 R, .int .u64 (U : Int)].toArray].toArray u fun e u' => e = .returned (.bool ok) ∧ Below w8.heap.size w8 u') := fun u hu => Calls.more hu (CQ.out u)
  have XB : Hid (∀ u, Below w8.heap.size w8 u → Blk u bt [.int .i64 T, .string B, .int .i64 R, .int .u64 (U : Int)]) := fun u hu => Blk.below HK8.out hu z8
  clear CR CQ CF
  go_wp2_with fail
  refine region_more Tryd.mixed (by kernel_rfl) ?_
  refine q_move rfl _ rfl (.string m) rfl (fun K hK => ?_)
  go_simp
  refine hK _ ?_
  clear hK K
  refine q_move rfl _ rfl (.string m) rfl (fun K hK => ?_)
  go_simp
  refine hK _ ?_
  clear hK K
  refine q_value rfl (.bool false) (fun u hu => by go_simp) (fun K hK => ?_)
  go_simp
  refine hK _ ?_
  clear hK K
  refine q_move rfl _ rfl (.bool false) rfl (fun K hK => ?_)
  go_simp
  refine hK _ ?_
  clear hK K
  refine qg_value (by rfl) (.bool ok) (fun u hu => by go_simp) (fun K hK => ?_)
  go_simp
  refine hK _ ?_
  clear hK K
  refine qg_value (by rfl) (.bool ok) (fun u hu => by go_simp) (fun K hK => ?_)
  go_simp
  refine hK _ ?_
  clear hK K
  refine qg_value (by rfl) (.bool false) (fun u hu => by go_simp) (fun K hK => ?_)
  go_simp
  refine hK _ ?_
  clear hK K
  refine q_value rfl (.bool false) (fun u hu => by go_simp) (fun K hK => ?_)
  go_simp
  refine hK _ ?_
  clear hK K
  refine q_move rfl _ rfl (.bool false) rfl (fun K hK => ?_)
  go_simp
  refine hK _ ?_
  clear hK K
  refine qg_blk_load (by rfl) 37 _ rfl bt rfl [.int .i64 T, .string B, .int .i64 R, .int .u64 (U : Int)] (by exact XB.out) _ Tryd.underlying37 rfl Tryd.size_tok (fun K hK => ?_)
  go_simp
  refine hK _ ?_
  clear hK K
  refine qg_call (by rfl) 31 _ Tryd.func31 (by kernel_rfl) (by kernel_rfl) _ _ rfl [.agg [.int .i64 T, .string B, .int .i64 R, .int .u64 (U : Int)].toArray] rfl (.bool ok) (by exact XR.out) (fun K hK => ?_)
  go_simp
  refine hK _ ?_
  clear hK K
  refine qg_blk_load (by rfl) 37 _ rfl bt rfl [.int .i64 T, .string B, .int .i64 R, .int .u64 (U : Int)] (by exact XB.out) _ Tryd.underlying37 rfl Tryd.size_tok (fun K hK => ?_)
  go_simp
  refine hK _ ?_
  clear hK K
  refine qg_call (by rfl) 30 _ Tryd.func30 (by kernel_rfl) (by kernel_rfl) _ _ rfl [.agg [.int .i64 T, .string B, .int .i64 R, .int .u64 (U : Int)].toArray] rfl (.agg [.int .i64 T, .string B, .int .i64 R, .int .u64 (U : Int)].toArray) (by exact XF.out) (fun K hK => ?_)
  go_simp
  refine hK _ ?_
  clear hK K
  refine qg_call (by rfl) 32 _ Tryd.func32 (by kernel_rfl) (by kernel_rfl) _ _ rfl [.agg [.int .i64 T, .string B, .int .i64 R, .int .u64 (U : Int)].toArray] rfl (.bool ok) (by exact XQ.out) (fun K hK => ?_)
  go_simp
  refine hK _ ?_
  clear hK K
  refine qg_value (by rfl) (.bool false) (fun u hu => by go_simp) (fun K hK => ?_)
  go_simp
  refine hK _ ?_
  clear hK K
  refine q_value rfl (.bool false) (fun u hu => by go_simp) (fun K hK => ?_)
  go_simp
  refine hK _ ?_
  clear hK K
  refine wpQuiet_nil ?_
  intro w9 hu9
  have HB9 : Hid (Below w.heap.size w w9) := Below.trans HB8.out (hu9.mono HB8.out.size)
  clear hu9 HK8 HB8 XR XF XQ XB z8 y5 y6 y7 y8
  by_cases h8 : (i8 : Int) < 4
  · have d8 : decide ((i8 : Int) < 4) = true := by rw [decide_eq_true_iff]; omega
    have d8' : (i8 : Int) < 4 := by omega
    clear h8
    have CBD : Hid _ := fun w => bend_any m at_ y w (by omega) ha1 ha2
    go_wp2_with fail
    refine (CBD.out _).mono ?_; rintro e w10 ⟨⟨s', rfl, hs'⟩, hb10⟩
    have HB10 : Hid (Below w.heap.size w w10) := Below.trans HB9.out (hb10.mono HB9.out.size)
    clear hb10
    obtain ⟨xT, xB, xR, xU, xc, HSA, HSB⟩ := both_open k s' n5 hk5 (by omega)
    have CA : Hid _ := HSA
    have CB : Hid _ := HSB
    clear HSA HSB
    have HTa : Hid (Tab w10) := Tab.below HT.out HB10.out hz
    go_wp2_with fail
    refine (CA.out _ HTa.out).mono ?_; rintro e v1 ⟨rfl, hb1⟩
    have HV1 : Hid (Below w.heap.size w v1) := Below.trans HB10.out (hb1.mono HB10.out.size)
    clear hb1
    go_wp2_with (first | refine blk_alloc rfl 37 zeroTok rfl Tryd.info_tok ?_)
    intro v2 K2 B2 Z2
    go_wp2_with (first | refine blk_store rfl 37 _ _ rfl v1.heap.size rfl [.int .i64 xT, .string xB, .int .i64 xR, .int .u64 xU] rfl _ K2 rfl Tryd.size_tok rfl ?_)
    intro v3 K3 U3
    have y1 : w.heap.size ≤ v1.heap.size := HV1.out.size
    have HX3 : Hid (Blk v3 v1.heap.size [.int .i64 xT, .string xB, .int .i64 xR, .int .u64 xU]) := K3
    have HV3 : Hid (Below w.heap.size w v3) := Below.trans HV1.out ((B2.mono y1).trans (U3.below y1))
    have y3 : v3.heap.size = v1.heap.size + 1 := by have := U3.size; omega
    clear K2 B2 Z2 K3 U3 HV1
    go_wp2_with fail
    refine (CB.out _).mono ?_; rintro e v4 ⟨rfl, hb4⟩
    have y4 := hb4.size
    have HX4 : Hid (Blk v4 v1.heap.size [.int .i64 xT, .string xB, .int .i64 xR, .int .u64 xU]) := Blk.below HX3.out hb4 (by omega)
    have HV4 : Hid (Below w.heap.size w v4) := Below.trans HV3.out (hb4.mono HV3.out.size)
    clear hb4 HX3 HV3
    go_wp2_with (first | refine blk_alloc rfl 44 zeroTok rfl Tryd.info_rtok ?_)
    intro v5 K5 B5 Z5
    go_wp2_with (first | refine blk_store rfl 44 _ _ rfl v4.heap.size rfl [.int .i64 xT, .string xB, .int .i64 xR, .int .u64 xU] rfl _ K5 rfl Tryd.size_rtok rfl ?_)
    intro v6 K6 U6
    have y5 : w.heap.size ≤ v4.heap.size := HV4.out.size
    have HY6 : Hid (Blk v6 v4.heap.size [.int .i64 xT, .string xB, .int .i64 xR, .int .u64 xU]) := K6
    have HX6 : Hid (Blk v6 v1.heap.size [.int .i64 xT, .string xB, .int .i64 xR, .int .u64 xU]) := (Blk.below HX4.out B5 (by omega)).upd U6 (by omega)
    have HV6 : Hid (Below w.heap.size w v6) := Below.trans HV4.out ((B5.mono y5).trans (U6.below y5))
    have y6 : v6.heap.size = v4.heap.size + 1 := by have := U6.size; omega
    have y7 : v1.heap.size < v6.heap.size := by omega
    have y8 : v4.heap.size < v6.heap.size := by omega
    clear K5 B5 Z5 K6 U6 HX4 HV4
    have XX : Hid (∀ u, Below v6.heap.size v6 u → Calls Tryd.prog 30 [.agg [.int .i64 xT, .string xB, .int .i64 xR, .int .u64 xU].toArray].toArray u fun e u' => e = .returned (.agg [.int .i64 xT, .string xB, .int .i64 xR, .int .u64 xU].toArray) ∧ Below v6.heap.size v6 u') := fun u hu => Calls.more hu (refToken_any xT xB xR xU u)
    have XA : Hid (∀ u, Below v6.heap.size v6 u → Blk u v1.heap.size [.int .i64 xT, .string xB, .int .i64 xR, .int .u64 xU]) := fun u hu => Blk.below HX6.out hu y7
    have XC : Hid (∀ u, Below v6.heap.size v6 u → Blk u v4.heap.size [.int .i64 xT, .string xB, .int .i64 xR, .int .u64 xU]) := fun u hu => Blk.below HY6.out hu y8
    go_wp2_with fail
    refine region_more Tryd.mixed (by kernel_rfl) ?_
    refine q_move rfl _ rfl (.bool true) rfl (fun K hK => ?_)
    go_simp
    refine hK _ ?_
    clear hK K
    refine q_move rfl _ rfl (.bool true) rfl (fun K hK => ?_)
    go_simp
    refine hK _ ?_
    clear hK K
    refine qg_blk_load (by rfl) 37 _ rfl v1.heap.size rfl [.int .i64 xT, .string xB, .int .i64 xR, .int .u64 xU] (by exact XA.out) _ Tryd.underlying37 rfl Tryd.size_tok (fun K hK => ?_)
    go_simp
    refine hK _ ?_
    clear hK K
    refine qg_call (by rfl) 30 _ Tryd.func30 (by kernel_rfl) (by kernel_rfl) _ _ rfl [.agg [.int .i64 xT, .string xB, .int .i64 xR, .int .u64 xU].toArray] rfl (.agg [.int .i64 xT, .string xB, .int .i64 xR, .int .u64 xU].toArray) (by exact XX.out) (fun K hK => ?_)
    go_simp
    refine hK _ ?_
    clear hK K
    refine qg_blk_load (by rfl) 44 _ rfl v4.heap.size rfl [.int .i64 xT, .string xB, .int .i64 xR, .int .u64 xU] (by exact XC.out) _ Tryd.underlying44 rfl Tryd.size_rtok (fun K hK => ?_)
    go_simp
    refine hK _ ?_
    clear hK K
    refine qg_value (by rfl) (.bool true) (fun u hu => by go_simp) (fun K hK => ?_)
    go_simp
    refine hK _ ?_
    clear hK K
    refine q_value rfl (.bool true) (fun u hu => by go_simp) (fun K hK => ?_)
    go_simp
    refine hK _ ?_
    clear hK K
    refine q_move rfl _ rfl (.bool true) rfl (fun K hK => ?_)
    go_simp
    refine hK _ ?_
    clear hK K
    refine qg_value (by rfl) (.int .i64 xc) (fun u hu => by go_simp) (fun K hK => ?_)
    go_simp
    refine hK _ ?_
    clear hK K
    refine qg_value (by rfl) (.int .i64 xc) (fun u hu => by go_simp) (fun K hK => ?_)
    go_simp
    refine hK _ ?_
    clear hK K
    refine qg_value (by rfl) (.bool true) (fun u hu => by go_simp) (fun K hK => ?_)
    go_simp
    refine hK _ ?_
    clear hK K
    refine q_value rfl (.bool true) (fun u hu => by go_simp) (fun K hK => ?_)
    go_simp
    refine hK _ ?_
    clear hK K
    refine q_assign rfl _ rfl (.bool true) rfl (fun K hK => ?_)
    go_simp
    refine hK _ ?_
    clear hK K
    refine wpQuiet_nil ?_
    intro u hu
    have HVU : Hid (Below w.heap.size w u) := Below.trans HV6.out (hu.mono HV6.out.size)
    clear hu
    go_wp2_with fail
    go_ret
    exact ⟨by simp, HVU.out⟩
  · have d8 : decide ((i8 : Int) < 4) = false := by rw [decide_eq_false_iff_not]; omega
    have d8' : ¬ (i8 : Int) < 4 := by omega
    clear h8
    have CBD : Hid _ := fun w => bend_any m at_ y w (by omega) ha1 ha2
    go_wp2_with fail
    refine (CBD.out _).mono ?_; rintro e w10 ⟨⟨s', rfl, hs'⟩, hb10⟩
    have HB10 : Hid (Below w.heap.size w w10) := Below.trans HB9.out (hb10.mono HB9.out.size)
    clear hb10
    obtain ⟨xT, xB, xR, xU, xc, HSA, HSB⟩ := both_open k s' now hk5 (by omega)
    have CA : Hid _ := HSA
    have CB : Hid _ := HSB
    clear HSA HSB
    have HTa : Hid (Tab w10) := Tab.below HT.out HB10.out hz
    go_wp2_with fail
    refine (CA.out _ HTa.out).mono ?_; rintro e v1 ⟨rfl, hb1⟩
    have HV1 : Hid (Below w.heap.size w v1) := Below.trans HB10.out (hb1.mono HB10.out.size)
    clear hb1
    go_wp2_with (first | refine blk_alloc rfl 37 zeroTok rfl Tryd.info_tok ?_)
    intro v2 K2 B2 Z2
    go_wp2_with (first | refine blk_store rfl 37 _ _ rfl v1.heap.size rfl [.int .i64 xT, .string xB, .int .i64 xR, .int .u64 xU] rfl _ K2 rfl Tryd.size_tok rfl ?_)
    intro v3 K3 U3
    have y1 : w.heap.size ≤ v1.heap.size := HV1.out.size
    have HX3 : Hid (Blk v3 v1.heap.size [.int .i64 xT, .string xB, .int .i64 xR, .int .u64 xU]) := K3
    have HV3 : Hid (Below w.heap.size w v3) := Below.trans HV1.out ((B2.mono y1).trans (U3.below y1))
    have y3 : v3.heap.size = v1.heap.size + 1 := by have := U3.size; omega
    clear K2 B2 Z2 K3 U3 HV1
    go_wp2_with fail
    refine (CB.out _).mono ?_; rintro e v4 ⟨rfl, hb4⟩
    have y4 := hb4.size
    have HX4 : Hid (Blk v4 v1.heap.size [.int .i64 xT, .string xB, .int .i64 xR, .int .u64 xU]) := Blk.below HX3.out hb4 (by omega)
    have HV4 : Hid (Below w.heap.size w v4) := Below.trans HV3.out (hb4.mono HV3.out.size)
    clear hb4 HX3 HV3
    go_wp2_with (first | refine blk_alloc rfl 44 zeroTok rfl Tryd.info_rtok ?_)
    intro v5 K5 B5 Z5
    go_wp2_with (first | refine blk_store rfl 44 _ _ rfl v4.heap.size rfl [.int .i64 xT, .string xB, .int .i64 xR, .int .u64 xU] rfl _ K5 rfl Tryd.size_rtok rfl ?_)
    intro v6 K6 U6
    have y5 : w.heap.size ≤ v4.heap.size := HV4.out.size
    have HY6 : Hid (Blk v6 v4.heap.size [.int .i64 xT, .string xB, .int .i64 xR, .int .u64 xU]) := K6
    have HX6 : Hid (Blk v6 v1.heap.size [.int .i64 xT, .string xB, .int .i64 xR, .int .u64 xU]) := (Blk.below HX4.out B5 (by omega)).upd U6 (by omega)
    have HV6 : Hid (Below w.heap.size w v6) := Below.trans HV4.out ((B5.mono y5).trans (U6.below y5))
    have y6 : v6.heap.size = v4.heap.size + 1 := by have := U6.size; omega
    have y7 : v1.heap.size < v6.heap.size := by omega
    have y8 : v4.heap.size < v6.heap.size := by omega
    clear K5 B5 Z5 K6 U6 HX4 HV4
    have XX : Hid (∀ u, Below v6.heap.size v6 u → Calls Tryd.prog 30 [.agg [.int .i64 xT, .string xB, .int .i64 xR, .int .u64 xU].toArray].toArray u fun e u' => e = .returned (.agg [.int .i64 xT, .string xB, .int .i64 xR, .int .u64 xU].toArray) ∧ Below v6.heap.size v6 u') := fun u hu => Calls.more hu (refToken_any xT xB xR xU u)
    have XA : Hid (∀ u, Below v6.heap.size v6 u → Blk u v1.heap.size [.int .i64 xT, .string xB, .int .i64 xR, .int .u64 xU]) := fun u hu => Blk.below HX6.out hu y7
    have XC : Hid (∀ u, Below v6.heap.size v6 u → Blk u v4.heap.size [.int .i64 xT, .string xB, .int .i64 xR, .int .u64 xU]) := fun u hu => Blk.below HY6.out hu y8
    go_wp2_with fail
    refine region_more Tryd.mixed (by kernel_rfl) ?_
    refine q_move rfl _ rfl (.bool true) rfl (fun K hK => ?_)
    go_simp
    refine hK _ ?_
    clear hK K
    refine q_move rfl _ rfl (.bool true) rfl (fun K hK => ?_)
    go_simp
    refine hK _ ?_
    clear hK K
    refine qg_blk_load (by rfl) 37 _ rfl v1.heap.size rfl [.int .i64 xT, .string xB, .int .i64 xR, .int .u64 xU] (by exact XA.out) _ Tryd.underlying37 rfl Tryd.size_tok (fun K hK => ?_)
    go_simp
    refine hK _ ?_
    clear hK K
    refine qg_call (by rfl) 30 _ Tryd.func30 (by kernel_rfl) (by kernel_rfl) _ _ rfl [.agg [.int .i64 xT, .string xB, .int .i64 xR, .int .u64 xU].toArray] rfl (.agg [.int .i64 xT, .string xB, .int .i64 xR, .int .u64 xU].toArray) (by exact XX.out) (fun K hK => ?_)
    go_simp
    refine hK _ ?_
    clear hK K
    refine qg_blk_load (by rfl) 44 _ rfl v4.heap.size rfl [.int .i64 xT, .string xB, .int .i64 xR, .int .u64 xU] (by exact XC.out) _ Tryd.underlying44 rfl Tryd.size_rtok (fun K hK => ?_)
    go_simp
    refine hK _ ?_
    clear hK K
    refine qg_value (by rfl) (.bool true) (fun u hu => by go_simp) (fun K hK => ?_)
    go_simp
    refine hK _ ?_
    clear hK K
    refine q_value rfl (.bool true) (fun u hu => by go_simp) (fun K hK => ?_)
    go_simp
    refine hK _ ?_
    clear hK K
    refine q_move rfl _ rfl (.bool true) rfl (fun K hK => ?_)
    go_simp
    refine hK _ ?_
    clear hK K
    refine qg_value (by rfl) (.int .i64 xc) (fun u hu => by go_simp) (fun K hK => ?_)
    go_simp
    refine hK _ ?_
    clear hK K
    refine qg_value (by rfl) (.int .i64 xc) (fun u hu => by go_simp) (fun K hK => ?_)
    go_simp
    refine hK _ ?_
    clear hK K
    refine qg_value (by rfl) (.bool true) (fun u hu => by go_simp) (fun K hK => ?_)
    go_simp
    refine hK _ ?_
    clear hK K
    refine q_value rfl (.bool true) (fun u hu => by go_simp) (fun K hK => ?_)
    go_simp
    refine hK _ ?_
    clear hK K
    refine q_assign rfl _ rfl (.bool true) rfl (fun K hK => ?_)
    go_simp
    refine hK _ ?_
    clear hK K
    refine wpQuiet_nil ?_
    intro u hu
    have HVU : Hid (Below w.heap.size w u) := Below.trans HV6.out (hu.mono HV6.out.size)
    clear hu
    go_wp2_with fail
    go_ret
    exact ⟨by simp, HVU.out⟩
set_option maxHeartbeats 20000000 in
set_option maxRecDepth 100000 in
theorem way2 (k s : ByteArray) (h : Nat) (at_ : Int) (y : UInt8) (now : Nat) (T0 : Int) (B0 : ByteArray) (R0 U0 : Int) (o : Bool) (T : Int) (B : ByteArray) (R : Int) (U : Nat) (w : World) (hT : Tab w) (hk : k.size ≤ 140737488351232) (hs : s.size ≤ 140737488351232) (hh : h < 256)
    (ha1 : -9223372036854775808 ≤ at_) (ha2 : at_ ≤ 9223372036854775807) (hnow : now < 2 ^ 64) (hB : B.size ≤ 9223372036854775807) (hU : U < 2 ^ 64)
    (CT0 : ∀ w, Calls Tryd.prog 27 #[.agg #[.int .i64 T0, .string B0, .int .i64 R0, .int .u64 U0, .bool o]] w fun e w' => e = .returned (.agg [.int .i64 T, .string B, .int .i64 R, .int .u64 (U : Int)].toArray) ∧ Below w.heap.size w w') (hj : h % 4 = 2) :
    Calls Tryd.prog 6 #[.agg #[.int .i64 T0, .string B0, .int .i64 R0, .int .u64 U0, .bool o], .string k, .string s, .int .u8 (h : Int), .int .i64 at_, .int .u8 (y.toNat : Int), .int .u64 (now : Int)] w fun e w' => e = .returned (.bool true) ∧ Below w.heap.size w w' := by
  have CE : Hid _ := mexamples_any
  have CT : Hid _ := CT0
  have HT : Hid _ := hT
  have hz := hT.pos
  have hk5 : k.size ≤ 140737488355000 := by omega
  obtain ⟨m, ok, hm, M1, M2, M3, M4⟩ := both_mint k B T R U hk5 hB hU
  have CM : Hid _ := M1
  have CN : Hid _ := M2
  have CR : Hid _ := M3
  have CQ : Hid _ := M4
  have CF : Hid _ := fun w => refToken_any T B R (U : Int) w
  have e4 : (h : Int).tmod 4 = (2 : Int) := by rw [Int.tmod_eq_emod_of_nonneg (by omega)]; omega
  have u4 : IntKind.u8.wrap (2 : Int) = (2 : Int) := by decide
  obtain ⟨i8, hi8⟩ : ∃ i, i = h % 8 := ⟨_, rfl⟩
  have e8 : (h : Int).tmod 8 = (i8 : Int) := by rw [Int.tmod_eq_emod_of_nonneg (by omega)]; omega
  have u8 : IntKind.u8.wrap (i8 : Int) = (i8 : Int) := by rw [IntKind.wrap_u8']; omega
  obtain ⟨n5, hn5⟩ : ∃ n, n = now % 50 := ⟨_, rfl⟩
  have e5 : (now : Int).tmod 50 = (n5 : Int) := by rw [Int.tmod_eq_emod_of_nonneg (by omega)]; omega
  have u5 : IntKind.u64.wrap (n5 : Int) = (n5 : Int) := by rw [IntKind.wrap_u64]; omega
  have hmm : (m.toList == m.toList) = true := beq_self_eq_true _
  clear hT CT0 M1 M2 M3 M4 hi8 hn5 hh hj
  go_enter Tryd.func6, Tryd.ntmps6
  go_wp2_with (first | refine blk_box rfl 39 _ rfl [.int .i64 T0, .string B0, .int .i64 R0, .int .u64 U0, .bool o] rfl ?_)
  intro w1 K1 B1 Z1
  have HT1 : Hid (Tab w1) := Tab.below HT.out B1 hz
  go_wp2_with fail
  refine (CE.out _ HT1.out).mono ?_; rintro e w2 ⟨rfl, hb2⟩
  have HK2 : Hid _ := K1.below hb2 (by omega)
  have HB2 : Hid (Below w.heap.size w w2) := B1.trans (hb2.mono (by omega))
  clear K1 B1 hb2 HT1 CE Z1
  go_wp2_with (first | refine blk_load rfl 39 _ rfl w.heap.size rfl [.int .i64 T0, .string B0, .int .i64 R0, .int .u64 U0, .bool o] HK2.out _ Tryd.underlying39 rfl Tryd.size_pass ?_)
  refine (CT.out _).mono ?_; rintro e w3 ⟨rfl, hb3⟩
  have HB3 : Hid (Below w.heap.size w w3) := Below.trans HB2.out (hb3.mono HB2.out.size)
  clear hb3 HK2 HB2 CT
  go_wp2_with (first | refine blk_alloc rfl 37 zeroTok rfl Tryd.info_tok ?_)
  intro w4 K4 B4 Z4
  go_wp2_with (first | refine blk_store rfl 37 _ _ rfl w3.heap.size rfl [.int .i64 T, .string B, .int .i64 R, .int .u64 (U : Int)] rfl _ K4 rfl Tryd.size_tok rfl ?_)
  intro w5 K5 U5
  have y3 : w.heap.size ≤ w3.heap.size := HB3.out.size
  have HK5 : Hid (Blk w5 w3.heap.size [.int .i64 T, .string B, .int .i64 R, .int .u64 (U : Int)]) := K5
  have HB5 : Hid (Below w.heap.size w w5) := Below.trans HB3.out ((B4.mono y3).trans (U5.below y3))
  have y5 : w5.heap.size = w3.heap.size + 1 := by have := U5.size; omega
  have HT5 : Hid (Tab w5) := Tab.below HT.out HB5.out hz
  obtain ⟨bt, hbt⟩ : ∃ b, w3.heap.size = b := ⟨_, rfl⟩
  rw [hbt] at HK5 y5
  rw [hbt]
  clear K4 B4 Z4 K5 U5 HB3 y3 hbt
  go_wp2_with (first | refine blk_load rfl 37 _ rfl bt rfl [.int .i64 T, .string B, .int .i64 R, .int .u64 (U : Int)] HK5.out _ Tryd.underlying37 rfl Tryd.size_tok ?_)
  refine (CM.out _ HT5.out).mono ?_; rintro e w6 ⟨rfl, hb6⟩
  have y6 := hb6.size
  have HK6 : Hid (Blk w6 bt [.int .i64 T, .string B, .int .i64 R, .int .u64 (U : Int)]) := Blk.below HK5.out hb6 (by omega)
  have HB6 : Hid (Below w.heap.size w w6) := Below.trans HB5.out (hb6.mono HB5.out.size)
  clear hb6 HK5 HB5 HT5 CM
  go_wp2_with (first | refine blk_load rfl 37 _ rfl bt rfl [.int .i64 T, .string B, .int .i64 R, .int .u64 (U : Int)] HK6.out _ Tryd.underlying37 rfl Tryd.size_tok ?_)
  refine (CF.out _).mono ?_; rintro e w7 ⟨rfl, hb7⟩
  have y7 := hb7.size
  have HK7 : Hid (Blk w7 bt [.int .i64 T, .string B, .int .i64 R, .int .u64 (U : Int)]) := Blk.below HK6.out hb7 (by omega)
  have HB7 : Hid (Below w.heap.size w w7) := Below.trans HB6.out (hb7.mono HB6.out.size)
  clear hb7 HK6 HB6
  go_wp2_with fail
  refine (CN.out _).mono ?_; rintro e w8 ⟨rfl, hb8⟩
  have y8 := hb8.size
  have HK8 : Hid (Blk w8 bt [.int .i64 T, .string B, .int .i64 R, .int .u64 (U : Int)]) := Blk.below HK7.out hb8 (by omega)
  have HB8 : Hid (Below w.heap.size w w8) := Below.trans HB7.out (hb8.mono HB7.out.size)
  have z8 : bt < w8.heap.size := by omega
  clear hb8 HK7 HB7 CN
  have XR : Hid (∀ u, Below w8.heap.size w8 u → Calls Tryd.prog 31 [.agg [.int .i64 T, .string B, .int .i64 R, .int .u64 (U : Int)].toArray].toArray u fun e u' => e = .returned (.bool ok) ∧ Below w8.heap.size w8 u') := fun u hu => Calls.more hu (CR.out u)
  have XF : Hid (∀ u, Below w8.heap.size w8 u → Calls Tryd.prog 30 [.agg [.int .i64 T, .string B, .int .i64 R, .int .u64 (U : Int)].toArray].toArray u fun e u' => e = .returned (.agg [.int .i64 T, .string B, .int .i64 R, .int .u64 (U : Int)].toArray) ∧ Below w8.heap.size w8 u') := fun u hu => Calls.more hu (CF.out u)
  have XQ : Hid (∀ u, Below w8.heap.size w8 u → Calls Tryd.prog 32 [.agg [.int .i64 T, .string B, .int .i64 R, .int .u64 (U : Int)].toArray].toArray u fun e u' => e = .returned (.bool ok) ∧ Below w8.heap.size w8 u') := fun u hu => Calls.more hu (CQ.out u)
  have XB : Hid (∀ u, Below w8.heap.size w8 u → Blk u bt [.int .i64 T, .string B, .int .i64 R, .int .u64 (U : Int)]) := fun u hu => Blk.below HK8.out hu z8
  clear CR CQ CF
  go_wp2_with fail
  refine region_more Tryd.mixed (by kernel_rfl) ?_
  refine q_move rfl _ rfl (.string m) rfl (fun K hK => ?_)
  go_simp
  refine hK _ ?_
  clear hK K
  refine q_move rfl _ rfl (.string m) rfl (fun K hK => ?_)
  go_simp
  refine hK _ ?_
  clear hK K
  refine q_value rfl (.bool false) (fun u hu => by go_simp) (fun K hK => ?_)
  go_simp
  refine hK _ ?_
  clear hK K
  refine q_move rfl _ rfl (.bool false) rfl (fun K hK => ?_)
  go_simp
  refine hK _ ?_
  clear hK K
  refine qg_value (by rfl) (.bool ok) (fun u hu => by go_simp) (fun K hK => ?_)
  go_simp
  refine hK _ ?_
  clear hK K
  refine qg_value (by rfl) (.bool ok) (fun u hu => by go_simp) (fun K hK => ?_)
  go_simp
  refine hK _ ?_
  clear hK K
  refine qg_value (by rfl) (.bool false) (fun u hu => by go_simp) (fun K hK => ?_)
  go_simp
  refine hK _ ?_
  clear hK K
  refine q_value rfl (.bool false) (fun u hu => by go_simp) (fun K hK => ?_)
  go_simp
  refine hK _ ?_
  clear hK K
  refine q_move rfl _ rfl (.bool false) rfl (fun K hK => ?_)
  go_simp
  refine hK _ ?_
  clear hK K
  refine qg_blk_load (by rfl) 37 _ rfl bt rfl [.int .i64 T, .string B, .int .i64 R, .int .u64 (U : Int)] (by exact XB.out) _ Tryd.underlying37 rfl Tryd.size_tok (fun K hK => ?_)
  go_simp
  refine hK _ ?_
  clear hK K
  refine qg_call (by rfl) 31 _ Tryd.func31 (by kernel_rfl) (by kernel_rfl) _ _ rfl [.agg [.int .i64 T, .string B, .int .i64 R, .int .u64 (U : Int)].toArray] rfl (.bool ok) (by exact XR.out) (fun K hK => ?_)
  go_simp
  refine hK _ ?_
  clear hK K
  refine qg_blk_load (by rfl) 37 _ rfl bt rfl [.int .i64 T, .string B, .int .i64 R, .int .u64 (U : Int)] (by exact XB.out) _ Tryd.underlying37 rfl Tryd.size_tok (fun K hK => ?_)
  go_simp
  refine hK _ ?_
  clear hK K
  refine qg_call (by rfl) 30 _ Tryd.func30 (by kernel_rfl) (by kernel_rfl) _ _ rfl [.agg [.int .i64 T, .string B, .int .i64 R, .int .u64 (U : Int)].toArray] rfl (.agg [.int .i64 T, .string B, .int .i64 R, .int .u64 (U : Int)].toArray) (by exact XF.out) (fun K hK => ?_)
  go_simp
  refine hK _ ?_
  clear hK K
  refine qg_call (by rfl) 32 _ Tryd.func32 (by kernel_rfl) (by kernel_rfl) _ _ rfl [.agg [.int .i64 T, .string B, .int .i64 R, .int .u64 (U : Int)].toArray] rfl (.bool ok) (by exact XQ.out) (fun K hK => ?_)
  go_simp
  refine hK _ ?_
  clear hK K
  refine qg_value (by rfl) (.bool false) (fun u hu => by go_simp) (fun K hK => ?_)
  go_simp
  refine hK _ ?_
  clear hK K
  refine q_value rfl (.bool false) (fun u hu => by go_simp) (fun K hK => ?_)
  go_simp
  refine hK _ ?_
  clear hK K
  refine wpQuiet_nil ?_
  intro w9 hu9
  have HB9 : Hid (Below w.heap.size w w9) := Below.trans HB8.out (hu9.mono HB8.out.size)
  clear hu9 HK8 HB8 XR XF XQ XB z8 y5 y6 y7 y8
  by_cases h8 : (i8 : Int) < 4
  · have d8 : decide ((i8 : Int) < 4) = true := by rw [decide_eq_true_iff]; omega
    have d8' : (i8 : Int) < 4 := by omega
    clear h8
    have hcat : m.size + s.size ≤ 9223372036854775807 := by omega
    have hms : (m ++ s).size ≤ 140737488355000 := by rw [ByteArray.size_append]; omega
    obtain ⟨xT, xB, xR, xU, xc, HSA, HSB⟩ := both_open k (m ++ s) n5 hk5 (by omega)
    have CA : Hid _ := HSA
    have CB : Hid _ := HSB
    clear HSA HSB
    have HTa : Hid (Tab w9) := Tab.below HT.out HB9.out hz
    go_wp2_with fail
    refine (CA.out _ HTa.out).mono ?_; rintro e v1 ⟨rfl, hb1⟩
    have HV1 : Hid (Below w.heap.size w v1) := Below.trans HB9.out (hb1.mono HB9.out.size)
    clear hb1
    go_wp2_with (first | refine blk_alloc rfl 37 zeroTok rfl Tryd.info_tok ?_)
    intro v2 K2 B2 Z2
    go_wp2_with (first | refine blk_store rfl 37 _ _ rfl v1.heap.size rfl [.int .i64 xT, .string xB, .int .i64 xR, .int .u64 xU] rfl _ K2 rfl Tryd.size_tok rfl ?_)
    intro v3 K3 U3
    have y1 : w.heap.size ≤ v1.heap.size := HV1.out.size
    have HX3 : Hid (Blk v3 v1.heap.size [.int .i64 xT, .string xB, .int .i64 xR, .int .u64 xU]) := K3
    have HV3 : Hid (Below w.heap.size w v3) := Below.trans HV1.out ((B2.mono y1).trans (U3.below y1))
    have y3 : v3.heap.size = v1.heap.size + 1 := by have := U3.size; omega
    clear K2 B2 Z2 K3 U3 HV1
    go_wp2_with fail
    refine (CB.out _).mono ?_; rintro e v4 ⟨rfl, hb4⟩
    have y4 := hb4.size
    have HX4 : Hid (Blk v4 v1.heap.size [.int .i64 xT, .string xB, .int .i64 xR, .int .u64 xU]) := Blk.below HX3.out hb4 (by omega)
    have HV4 : Hid (Below w.heap.size w v4) := Below.trans HV3.out (hb4.mono HV3.out.size)
    clear hb4 HX3 HV3
    go_wp2_with (first | refine blk_alloc rfl 44 zeroTok rfl Tryd.info_rtok ?_)
    intro v5 K5 B5 Z5
    go_wp2_with (first | refine blk_store rfl 44 _ _ rfl v4.heap.size rfl [.int .i64 xT, .string xB, .int .i64 xR, .int .u64 xU] rfl _ K5 rfl Tryd.size_rtok rfl ?_)
    intro v6 K6 U6
    have y5 : w.heap.size ≤ v4.heap.size := HV4.out.size
    have HY6 : Hid (Blk v6 v4.heap.size [.int .i64 xT, .string xB, .int .i64 xR, .int .u64 xU]) := K6
    have HX6 : Hid (Blk v6 v1.heap.size [.int .i64 xT, .string xB, .int .i64 xR, .int .u64 xU]) := (Blk.below HX4.out B5 (by omega)).upd U6 (by omega)
    have HV6 : Hid (Below w.heap.size w v6) := Below.trans HV4.out ((B5.mono y5).trans (U6.below y5))
    have y6 : v6.heap.size = v4.heap.size + 1 := by have := U6.size; omega
    have y7 : v1.heap.size < v6.heap.size := by omega
    have y8 : v4.heap.size < v6.heap.size := by omega
    clear K5 B5 Z5 K6 U6 HX4 HV4
    have XX : Hid (∀ u, Below v6.heap.size v6 u → Calls Tryd.prog 30 [.agg [.int .i64 xT, .string xB, .int .i64 xR, .int .u64 xU].toArray].toArray u fun e u' => e = .returned (.agg [.int .i64 xT, .string xB, .int .i64 xR, .int .u64 xU].toArray) ∧ Below v6.heap.size v6 u') := fun u hu => Calls.more hu (refToken_any xT xB xR xU u)
    have XA : Hid (∀ u, Below v6.heap.size v6 u → Blk u v1.heap.size [.int .i64 xT, .string xB, .int .i64 xR, .int .u64 xU]) := fun u hu => Blk.below HX6.out hu y7
    have XC : Hid (∀ u, Below v6.heap.size v6 u → Blk u v4.heap.size [.int .i64 xT, .string xB, .int .i64 xR, .int .u64 xU]) := fun u hu => Blk.below HY6.out hu y8
    go_wp2_with fail
    refine region_more Tryd.mixed (by kernel_rfl) ?_
    refine q_move rfl _ rfl (.bool true) rfl (fun K hK => ?_)
    go_simp
    refine hK _ ?_
    clear hK K
    refine q_move rfl _ rfl (.bool true) rfl (fun K hK => ?_)
    go_simp
    refine hK _ ?_
    clear hK K
    refine qg_blk_load (by rfl) 37 _ rfl v1.heap.size rfl [.int .i64 xT, .string xB, .int .i64 xR, .int .u64 xU] (by exact XA.out) _ Tryd.underlying37 rfl Tryd.size_tok (fun K hK => ?_)
    go_simp
    refine hK _ ?_
    clear hK K
    refine qg_call (by rfl) 30 _ Tryd.func30 (by kernel_rfl) (by kernel_rfl) _ _ rfl [.agg [.int .i64 xT, .string xB, .int .i64 xR, .int .u64 xU].toArray] rfl (.agg [.int .i64 xT, .string xB, .int .i64 xR, .int .u64 xU].toArray) (by exact XX.out) (fun K hK => ?_)
    go_simp
    refine hK _ ?_
    clear hK K
    refine qg_blk_load (by rfl) 44 _ rfl v4.heap.size rfl [.int .i64 xT, .string xB, .int .i64 xR, .int .u64 xU] (by exact XC.out) _ Tryd.underlying44 rfl Tryd.size_rtok (fun K hK => ?_)
    go_simp
    refine hK _ ?_
    clear hK K
    refine qg_value (by rfl) (.bool true) (fun u hu => by go_simp) (fun K hK => ?_)
    go_simp
    refine hK _ ?_
    clear hK K
    refine q_value rfl (.bool true) (fun u hu => by go_simp) (fun K hK => ?_)
    go_simp
    refine hK _ ?_
    clear hK K
    refine q_move rfl _ rfl (.bool true) rfl (fun K hK => ?_)
    go_simp
    refine hK _ ?_
    clear hK K
    refine qg_value (by rfl) (.int .i64 xc) (fun u hu => by go_simp) (fun K hK => ?_)
    go_simp
    refine hK _ ?_
    clear hK K
    refine qg_value (by rfl) (.int .i64 xc) (fun u hu => by go_simp) (fun K hK => ?_)
    go_simp
    refine hK _ ?_
    clear hK K
    refine qg_value (by rfl) (.bool true) (fun u hu => by go_simp) (fun K hK => ?_)
    go_simp
    refine hK _ ?_
    clear hK K
    refine q_value rfl (.bool true) (fun u hu => by go_simp) (fun K hK => ?_)
    go_simp
    refine hK _ ?_
    clear hK K
    refine q_assign rfl _ rfl (.bool true) rfl (fun K hK => ?_)
    go_simp
    refine hK _ ?_
    clear hK K
    refine wpQuiet_nil ?_
    intro u hu
    have HVU : Hid (Below w.heap.size w u) := Below.trans HV6.out (hu.mono HV6.out.size)
    clear hu
    go_wp2_with fail
    go_ret
    exact ⟨by simp, HVU.out⟩
  · have d8 : decide ((i8 : Int) < 4) = false := by rw [decide_eq_false_iff_not]; omega
    have d8' : ¬ (i8 : Int) < 4 := by omega
    clear h8
    have hcat : m.size + s.size ≤ 9223372036854775807 := by omega
    have hms : (m ++ s).size ≤ 140737488355000 := by rw [ByteArray.size_append]; omega
    obtain ⟨xT, xB, xR, xU, xc, HSA, HSB⟩ := both_open k (m ++ s) now hk5 (by omega)
    have CA : Hid _ := HSA
    have CB : Hid _ := HSB
    clear HSA HSB
    have HTa : Hid (Tab w9) := Tab.below HT.out HB9.out hz
    go_wp2_with fail
    refine (CA.out _ HTa.out).mono ?_; rintro e v1 ⟨rfl, hb1⟩
    have HV1 : Hid (Below w.heap.size w v1) := Below.trans HB9.out (hb1.mono HB9.out.size)
    clear hb1
    go_wp2_with (first | refine blk_alloc rfl 37 zeroTok rfl Tryd.info_tok ?_)
    intro v2 K2 B2 Z2
    go_wp2_with (first | refine blk_store rfl 37 _ _ rfl v1.heap.size rfl [.int .i64 xT, .string xB, .int .i64 xR, .int .u64 xU] rfl _ K2 rfl Tryd.size_tok rfl ?_)
    intro v3 K3 U3
    have y1 : w.heap.size ≤ v1.heap.size := HV1.out.size
    have HX3 : Hid (Blk v3 v1.heap.size [.int .i64 xT, .string xB, .int .i64 xR, .int .u64 xU]) := K3
    have HV3 : Hid (Below w.heap.size w v3) := Below.trans HV1.out ((B2.mono y1).trans (U3.below y1))
    have y3 : v3.heap.size = v1.heap.size + 1 := by have := U3.size; omega
    clear K2 B2 Z2 K3 U3 HV1
    go_wp2_with fail
    refine (CB.out _).mono ?_; rintro e v4 ⟨rfl, hb4⟩
    have y4 := hb4.size
    have HX4 : Hid (Blk v4 v1.heap.size [.int .i64 xT, .string xB, .int .i64 xR, .int .u64 xU]) := Blk.below HX3.out hb4 (by omega)
    have HV4 : Hid (Below w.heap.size w v4) := Below.trans HV3.out (hb4.mono HV3.out.size)
    clear hb4 HX3 HV3
    go_wp2_with (first | refine blk_alloc rfl 44 zeroTok rfl Tryd.info_rtok ?_)
    intro v5 K5 B5 Z5
    go_wp2_with (first | refine blk_store rfl 44 _ _ rfl v4.heap.size rfl [.int .i64 xT, .string xB, .int .i64 xR, .int .u64 xU] rfl _ K5 rfl Tryd.size_rtok rfl ?_)
    intro v6 K6 U6
    have y5 : w.heap.size ≤ v4.heap.size := HV4.out.size
    have HY6 : Hid (Blk v6 v4.heap.size [.int .i64 xT, .string xB, .int .i64 xR, .int .u64 xU]) := K6
    have HX6 : Hid (Blk v6 v1.heap.size [.int .i64 xT, .string xB, .int .i64 xR, .int .u64 xU]) := (Blk.below HX4.out B5 (by omega)).upd U6 (by omega)
    have HV6 : Hid (Below w.heap.size w v6) := Below.trans HV4.out ((B5.mono y5).trans (U6.below y5))
    have y6 : v6.heap.size = v4.heap.size + 1 := by have := U6.size; omega
    have y7 : v1.heap.size < v6.heap.size := by omega
    have y8 : v4.heap.size < v6.heap.size := by omega
    clear K5 B5 Z5 K6 U6 HX4 HV4
    have XX : Hid (∀ u, Below v6.heap.size v6 u → Calls Tryd.prog 30 [.agg [.int .i64 xT, .string xB, .int .i64 xR, .int .u64 xU].toArray].toArray u fun e u' => e = .returned (.agg [.int .i64 xT, .string xB, .int .i64 xR, .int .u64 xU].toArray) ∧ Below v6.heap.size v6 u') := fun u hu => Calls.more hu (refToken_any xT xB xR xU u)
    have XA : Hid (∀ u, Below v6.heap.size v6 u → Blk u v1.heap.size [.int .i64 xT, .string xB, .int .i64 xR, .int .u64 xU]) := fun u hu => Blk.below HX6.out hu y7
    have XC : Hid (∀ u, Below v6.heap.size v6 u → Blk u v4.heap.size [.int .i64 xT, .string xB, .int .i64 xR, .int .u64 xU]) := fun u hu => Blk.below HY6.out hu y8
    go_wp2_with fail
    refine region_more Tryd.mixed (by kernel_rfl) ?_
    refine q_move rfl _ rfl (.bool true) rfl (fun K hK => ?_)
    go_simp
    refine hK _ ?_
    clear hK K
    refine q_move rfl _ rfl (.bool true) rfl (fun K hK => ?_)
    go_simp
    refine hK _ ?_
    clear hK K
    refine qg_blk_load (by rfl) 37 _ rfl v1.heap.size rfl [.int .i64 xT, .string xB, .int .i64 xR, .int .u64 xU] (by exact XA.out) _ Tryd.underlying37 rfl Tryd.size_tok (fun K hK => ?_)
    go_simp
    refine hK _ ?_
    clear hK K
    refine qg_call (by rfl) 30 _ Tryd.func30 (by kernel_rfl) (by kernel_rfl) _ _ rfl [.agg [.int .i64 xT, .string xB, .int .i64 xR, .int .u64 xU].toArray] rfl (.agg [.int .i64 xT, .string xB, .int .i64 xR, .int .u64 xU].toArray) (by exact XX.out) (fun K hK => ?_)
    go_simp
    refine hK _ ?_
    clear hK K
    refine qg_blk_load (by rfl) 44 _ rfl v4.heap.size rfl [.int .i64 xT, .string xB, .int .i64 xR, .int .u64 xU] (by exact XC.out) _ Tryd.underlying44 rfl Tryd.size_rtok (fun K hK => ?_)
    go_simp
    refine hK _ ?_
    clear hK K
    refine qg_value (by rfl) (.bool true) (fun u hu => by go_simp) (fun K hK => ?_)
    go_simp
    refine hK _ ?_
    clear hK K
    refine q_value rfl (.bool true) (fun u hu => by go_simp) (fun K hK => ?_)
    go_simp
    refine hK _ ?_
    clear hK K
    refine q_move rfl _ rfl (.bool true) rfl (fun K hK => ?_)
    go_simp
    refine hK _ ?_
    clear hK K
    refine qg_value (by rfl) (.int .i64 xc) (fun u hu => by go_simp) (fun K hK => ?_)
    go_simp
    refine hK _ ?_
    clear hK K
    refine qg_value (by rfl) (.int .i64 xc) (fun u hu => by go_simp) (fun K hK => ?_)
    go_simp
    refine hK _ ?_
    clear hK K
    refine qg_value (by rfl) (.bool true) (fun u hu => by go_simp) (fun K hK => ?_)
    go_simp
    refine hK _ ?_
    clear hK K
    refine q_value rfl (.bool true) (fun u hu => by go_simp) (fun K hK => ?_)
    go_simp
    refine hK _ ?_
    clear hK K
    refine q_assign rfl _ rfl (.bool true) rfl (fun K hK => ?_)
    go_simp
    refine hK _ ?_
    clear hK K
    refine wpQuiet_nil ?_
    intro u hu
    have HVU : Hid (Below w.heap.size w u) := Below.trans HV6.out (hu.mono HV6.out.size)
    clear hu
    go_wp2_with fail
    go_ret
    exact ⟨by simp, HVU.out⟩
set_option maxHeartbeats 20000000 in
set_option maxRecDepth 100000 in
theorem way3 (k s : ByteArray) (h : Nat) (at_ : Int) (y : UInt8) (now : Nat) (T0 : Int) (B0 : ByteArray) (R0 U0 : Int) (o : Bool) (T : Int) (B : ByteArray) (R : Int) (U : Nat) (w : World) (hT : Tab w) (hk : k.size ≤ 140737488351232) (hs : s.size ≤ 140737488351232) (hh : h < 256)
    (ha1 : -9223372036854775808 ≤ at_) (ha2 : at_ ≤ 9223372036854775807) (hnow : now < 2 ^ 64) (hB : B.size ≤ 9223372036854775807) (hU : U < 2 ^ 64)
    (CT0 : ∀ w, Calls Tryd.prog 27 #[.agg #[.int .i64 T0, .string B0, .int .i64 R0, .int .u64 U0, .bool o]] w fun e w' => e = .returned (.agg [.int .i64 T, .string B, .int .i64 R, .int .u64 (U : Int)].toArray) ∧ Below w.heap.size w w') (hj : h % 4 = 3) :
    Calls Tryd.prog 6 #[.agg #[.int .i64 T0, .string B0, .int .i64 R0, .int .u64 U0, .bool o], .string k, .string s, .int .u8 (h : Int), .int .i64 at_, .int .u8 (y.toNat : Int), .int .u64 (now : Int)] w fun e w' => e = .returned (.bool true) ∧ Below w.heap.size w w' := by
  have CE : Hid _ := mexamples_any
  have CT : Hid _ := CT0
  have HT : Hid _ := hT
  have hz := hT.pos
  have hk5 : k.size ≤ 140737488355000 := by omega
  obtain ⟨m, ok, hm, M1, M2, M3, M4⟩ := both_mint k B T R U hk5 hB hU
  have CM : Hid _ := M1
  have CN : Hid _ := M2
  have CR : Hid _ := M3
  have CQ : Hid _ := M4
  have CF : Hid _ := fun w => refToken_any T B R (U : Int) w
  have e4 : (h : Int).tmod 4 = (3 : Int) := by rw [Int.tmod_eq_emod_of_nonneg (by omega)]; omega
  have u4 : IntKind.u8.wrap (3 : Int) = (3 : Int) := by decide
  obtain ⟨i8, hi8⟩ : ∃ i, i = h % 8 := ⟨_, rfl⟩
  have e8 : (h : Int).tmod 8 = (i8 : Int) := by rw [Int.tmod_eq_emod_of_nonneg (by omega)]; omega
  have u8 : IntKind.u8.wrap (i8 : Int) = (i8 : Int) := by rw [IntKind.wrap_u8']; omega
  obtain ⟨n5, hn5⟩ : ∃ n, n = now % 50 := ⟨_, rfl⟩
  have e5 : (now : Int).tmod 50 = (n5 : Int) := by rw [Int.tmod_eq_emod_of_nonneg (by omega)]; omega
  have u5 : IntKind.u64.wrap (n5 : Int) = (n5 : Int) := by rw [IntKind.wrap_u64]; omega
  have hmm : (m.toList == m.toList) = true := beq_self_eq_true _
  clear hT CT0 M1 M2 M3 M4 hi8 hn5 hh hj
  go_enter Tryd.func6, Tryd.ntmps6
  go_wp2_with (first | refine blk_box rfl 39 _ rfl [.int .i64 T0, .string B0, .int .i64 R0, .int .u64 U0, .bool o] rfl ?_)
  intro w1 K1 B1 Z1
  have HT1 : Hid (Tab w1) := Tab.below HT.out B1 hz
  go_wp2_with fail
  refine (CE.out _ HT1.out).mono ?_; rintro e w2 ⟨rfl, hb2⟩
  have HK2 : Hid _ := K1.below hb2 (by omega)
  have HB2 : Hid (Below w.heap.size w w2) := B1.trans (hb2.mono (by omega))
  clear K1 B1 hb2 HT1 CE Z1
  go_wp2_with (first | refine blk_load rfl 39 _ rfl w.heap.size rfl [.int .i64 T0, .string B0, .int .i64 R0, .int .u64 U0, .bool o] HK2.out _ Tryd.underlying39 rfl Tryd.size_pass ?_)
  refine (CT.out _).mono ?_; rintro e w3 ⟨rfl, hb3⟩
  have HB3 : Hid (Below w.heap.size w w3) := Below.trans HB2.out (hb3.mono HB2.out.size)
  clear hb3 HK2 HB2 CT
  go_wp2_with (first | refine blk_alloc rfl 37 zeroTok rfl Tryd.info_tok ?_)
  intro w4 K4 B4 Z4
  go_wp2_with (first | refine blk_store rfl 37 _ _ rfl w3.heap.size rfl [.int .i64 T, .string B, .int .i64 R, .int .u64 (U : Int)] rfl _ K4 rfl Tryd.size_tok rfl ?_)
  intro w5 K5 U5
  have y3 : w.heap.size ≤ w3.heap.size := HB3.out.size
  have HK5 : Hid (Blk w5 w3.heap.size [.int .i64 T, .string B, .int .i64 R, .int .u64 (U : Int)]) := K5
  have HB5 : Hid (Below w.heap.size w w5) := Below.trans HB3.out ((B4.mono y3).trans (U5.below y3))
  have y5 : w5.heap.size = w3.heap.size + 1 := by have := U5.size; omega
  have HT5 : Hid (Tab w5) := Tab.below HT.out HB5.out hz
  obtain ⟨bt, hbt⟩ : ∃ b, w3.heap.size = b := ⟨_, rfl⟩
  rw [hbt] at HK5 y5
  rw [hbt]
  clear K4 B4 Z4 K5 U5 HB3 y3 hbt
  go_wp2_with (first | refine blk_load rfl 37 _ rfl bt rfl [.int .i64 T, .string B, .int .i64 R, .int .u64 (U : Int)] HK5.out _ Tryd.underlying37 rfl Tryd.size_tok ?_)
  refine (CM.out _ HT5.out).mono ?_; rintro e w6 ⟨rfl, hb6⟩
  have y6 := hb6.size
  have HK6 : Hid (Blk w6 bt [.int .i64 T, .string B, .int .i64 R, .int .u64 (U : Int)]) := Blk.below HK5.out hb6 (by omega)
  have HB6 : Hid (Below w.heap.size w w6) := Below.trans HB5.out (hb6.mono HB5.out.size)
  clear hb6 HK5 HB5 HT5 CM
  go_wp2_with (first | refine blk_load rfl 37 _ rfl bt rfl [.int .i64 T, .string B, .int .i64 R, .int .u64 (U : Int)] HK6.out _ Tryd.underlying37 rfl Tryd.size_tok ?_)
  refine (CF.out _).mono ?_; rintro e w7 ⟨rfl, hb7⟩
  have y7 := hb7.size
  have HK7 : Hid (Blk w7 bt [.int .i64 T, .string B, .int .i64 R, .int .u64 (U : Int)]) := Blk.below HK6.out hb7 (by omega)
  have HB7 : Hid (Below w.heap.size w w7) := Below.trans HB6.out (hb7.mono HB6.out.size)
  clear hb7 HK6 HB6
  go_wp2_with fail
  refine (CN.out _).mono ?_; rintro e w8 ⟨rfl, hb8⟩
  have y8 := hb8.size
  have HK8 : Hid (Blk w8 bt [.int .i64 T, .string B, .int .i64 R, .int .u64 (U : Int)]) := Blk.below HK7.out hb8 (by omega)
  have HB8 : Hid (Below w.heap.size w w8) := Below.trans HB7.out (hb8.mono HB7.out.size)
  have z8 : bt < w8.heap.size := by omega
  clear hb8 HK7 HB7 CN
  have XR : Hid (∀ u, Below w8.heap.size w8 u → Calls Tryd.prog 31 [.agg [.int .i64 T, .string B, .int .i64 R, .int .u64 (U : Int)].toArray].toArray u fun e u' => e = .returned (.bool ok) ∧ Below w8.heap.size w8 u') := fun u hu => Calls.more hu (CR.out u)
  have XF : Hid (∀ u, Below w8.heap.size w8 u → Calls Tryd.prog 30 [.agg [.int .i64 T, .string B, .int .i64 R, .int .u64 (U : Int)].toArray].toArray u fun e u' => e = .returned (.agg [.int .i64 T, .string B, .int .i64 R, .int .u64 (U : Int)].toArray) ∧ Below w8.heap.size w8 u') := fun u hu => Calls.more hu (CF.out u)
  have XQ : Hid (∀ u, Below w8.heap.size w8 u → Calls Tryd.prog 32 [.agg [.int .i64 T, .string B, .int .i64 R, .int .u64 (U : Int)].toArray].toArray u fun e u' => e = .returned (.bool ok) ∧ Below w8.heap.size w8 u') := fun u hu => Calls.more hu (CQ.out u)
  have XB : Hid (∀ u, Below w8.heap.size w8 u → Blk u bt [.int .i64 T, .string B, .int .i64 R, .int .u64 (U : Int)]) := fun u hu => Blk.below HK8.out hu z8
  clear CR CQ CF
  go_wp2_with fail
  refine region_more Tryd.mixed (by kernel_rfl) ?_
  refine q_move rfl _ rfl (.string m) rfl (fun K hK => ?_)
  go_simp
  refine hK _ ?_
  clear hK K
  refine q_move rfl _ rfl (.string m) rfl (fun K hK => ?_)
  go_simp
  refine hK _ ?_
  clear hK K
  refine q_value rfl (.bool false) (fun u hu => by go_simp) (fun K hK => ?_)
  go_simp
  refine hK _ ?_
  clear hK K
  refine q_move rfl _ rfl (.bool false) rfl (fun K hK => ?_)
  go_simp
  refine hK _ ?_
  clear hK K
  refine qg_value (by rfl) (.bool ok) (fun u hu => by go_simp) (fun K hK => ?_)
  go_simp
  refine hK _ ?_
  clear hK K
  refine qg_value (by rfl) (.bool ok) (fun u hu => by go_simp) (fun K hK => ?_)
  go_simp
  refine hK _ ?_
  clear hK K
  refine qg_value (by rfl) (.bool false) (fun u hu => by go_simp) (fun K hK => ?_)
  go_simp
  refine hK _ ?_
  clear hK K
  refine q_value rfl (.bool false) (fun u hu => by go_simp) (fun K hK => ?_)
  go_simp
  refine hK _ ?_
  clear hK K
  refine q_move rfl _ rfl (.bool false) rfl (fun K hK => ?_)
  go_simp
  refine hK _ ?_
  clear hK K
  refine qg_blk_load (by rfl) 37 _ rfl bt rfl [.int .i64 T, .string B, .int .i64 R, .int .u64 (U : Int)] (by exact XB.out) _ Tryd.underlying37 rfl Tryd.size_tok (fun K hK => ?_)
  go_simp
  refine hK _ ?_
  clear hK K
  refine qg_call (by rfl) 31 _ Tryd.func31 (by kernel_rfl) (by kernel_rfl) _ _ rfl [.agg [.int .i64 T, .string B, .int .i64 R, .int .u64 (U : Int)].toArray] rfl (.bool ok) (by exact XR.out) (fun K hK => ?_)
  go_simp
  refine hK _ ?_
  clear hK K
  refine qg_blk_load (by rfl) 37 _ rfl bt rfl [.int .i64 T, .string B, .int .i64 R, .int .u64 (U : Int)] (by exact XB.out) _ Tryd.underlying37 rfl Tryd.size_tok (fun K hK => ?_)
  go_simp
  refine hK _ ?_
  clear hK K
  refine qg_call (by rfl) 30 _ Tryd.func30 (by kernel_rfl) (by kernel_rfl) _ _ rfl [.agg [.int .i64 T, .string B, .int .i64 R, .int .u64 (U : Int)].toArray] rfl (.agg [.int .i64 T, .string B, .int .i64 R, .int .u64 (U : Int)].toArray) (by exact XF.out) (fun K hK => ?_)
  go_simp
  refine hK _ ?_
  clear hK K
  refine qg_call (by rfl) 32 _ Tryd.func32 (by kernel_rfl) (by kernel_rfl) _ _ rfl [.agg [.int .i64 T, .string B, .int .i64 R, .int .u64 (U : Int)].toArray] rfl (.bool ok) (by exact XQ.out) (fun K hK => ?_)
  go_simp
  refine hK _ ?_
  clear hK K
  refine qg_value (by rfl) (.bool false) (fun u hu => by go_simp) (fun K hK => ?_)
  go_simp
  refine hK _ ?_
  clear hK K
  refine q_value rfl (.bool false) (fun u hu => by go_simp) (fun K hK => ?_)
  go_simp
  refine hK _ ?_
  clear hK K
  refine wpQuiet_nil ?_
  intro w9 hu9
  have HB9 : Hid (Below w.heap.size w w9) := Below.trans HB8.out (hu9.mono HB8.out.size)
  clear hu9 HK8 HB8 XR XF XQ XB z8 y5 y6 y7 y8
  by_cases h8 : (i8 : Int) < 4
  · have d8 : decide ((i8 : Int) < 4) = true := by rw [decide_eq_true_iff]; omega
    have d8' : (i8 : Int) < 4 := by omega
    clear h8
    obtain ⟨xT, xB, xR, xU, xc, HSA, HSB⟩ := both_open k s n5 hk5 (by omega)
    have CA : Hid _ := HSA
    have CB : Hid _ := HSB
    clear HSA HSB
    have HTa : Hid (Tab w9) := Tab.below HT.out HB9.out hz
    go_wp2_with fail
    refine (CA.out _ HTa.out).mono ?_; rintro e v1 ⟨rfl, hb1⟩
    have HV1 : Hid (Below w.heap.size w v1) := Below.trans HB9.out (hb1.mono HB9.out.size)
    clear hb1
    go_wp2_with (first | refine blk_alloc rfl 37 zeroTok rfl Tryd.info_tok ?_)
    intro v2 K2 B2 Z2
    go_wp2_with (first | refine blk_store rfl 37 _ _ rfl v1.heap.size rfl [.int .i64 xT, .string xB, .int .i64 xR, .int .u64 xU] rfl _ K2 rfl Tryd.size_tok rfl ?_)
    intro v3 K3 U3
    have y1 : w.heap.size ≤ v1.heap.size := HV1.out.size
    have HX3 : Hid (Blk v3 v1.heap.size [.int .i64 xT, .string xB, .int .i64 xR, .int .u64 xU]) := K3
    have HV3 : Hid (Below w.heap.size w v3) := Below.trans HV1.out ((B2.mono y1).trans (U3.below y1))
    have y3 : v3.heap.size = v1.heap.size + 1 := by have := U3.size; omega
    clear K2 B2 Z2 K3 U3 HV1
    go_wp2_with fail
    refine (CB.out _).mono ?_; rintro e v4 ⟨rfl, hb4⟩
    have y4 := hb4.size
    have HX4 : Hid (Blk v4 v1.heap.size [.int .i64 xT, .string xB, .int .i64 xR, .int .u64 xU]) := Blk.below HX3.out hb4 (by omega)
    have HV4 : Hid (Below w.heap.size w v4) := Below.trans HV3.out (hb4.mono HV3.out.size)
    clear hb4 HX3 HV3
    go_wp2_with (first | refine blk_alloc rfl 44 zeroTok rfl Tryd.info_rtok ?_)
    intro v5 K5 B5 Z5
    go_wp2_with (first | refine blk_store rfl 44 _ _ rfl v4.heap.size rfl [.int .i64 xT, .string xB, .int .i64 xR, .int .u64 xU] rfl _ K5 rfl Tryd.size_rtok rfl ?_)
    intro v6 K6 U6
    have y5 : w.heap.size ≤ v4.heap.size := HV4.out.size
    have HY6 : Hid (Blk v6 v4.heap.size [.int .i64 xT, .string xB, .int .i64 xR, .int .u64 xU]) := K6
    have HX6 : Hid (Blk v6 v1.heap.size [.int .i64 xT, .string xB, .int .i64 xR, .int .u64 xU]) := (Blk.below HX4.out B5 (by omega)).upd U6 (by omega)
    have HV6 : Hid (Below w.heap.size w v6) := Below.trans HV4.out ((B5.mono y5).trans (U6.below y5))
    have y6 : v6.heap.size = v4.heap.size + 1 := by have := U6.size; omega
    have y7 : v1.heap.size < v6.heap.size := by omega
    have y8 : v4.heap.size < v6.heap.size := by omega
    clear K5 B5 Z5 K6 U6 HX4 HV4
    have XX : Hid (∀ u, Below v6.heap.size v6 u → Calls Tryd.prog 30 [.agg [.int .i64 xT, .string xB, .int .i64 xR, .int .u64 xU].toArray].toArray u fun e u' => e = .returned (.agg [.int .i64 xT, .string xB, .int .i64 xR, .int .u64 xU].toArray) ∧ Below v6.heap.size v6 u') := fun u hu => Calls.more hu (refToken_any xT xB xR xU u)
    have XA : Hid (∀ u, Below v6.heap.size v6 u → Blk u v1.heap.size [.int .i64 xT, .string xB, .int .i64 xR, .int .u64 xU]) := fun u hu => Blk.below HX6.out hu y7
    have XC : Hid (∀ u, Below v6.heap.size v6 u → Blk u v4.heap.size [.int .i64 xT, .string xB, .int .i64 xR, .int .u64 xU]) := fun u hu => Blk.below HY6.out hu y8
    go_wp2_with fail
    refine region_more Tryd.mixed (by kernel_rfl) ?_
    refine q_move rfl _ rfl (.bool true) rfl (fun K hK => ?_)
    go_simp
    refine hK _ ?_
    clear hK K
    refine q_move rfl _ rfl (.bool true) rfl (fun K hK => ?_)
    go_simp
    refine hK _ ?_
    clear hK K
    refine qg_blk_load (by rfl) 37 _ rfl v1.heap.size rfl [.int .i64 xT, .string xB, .int .i64 xR, .int .u64 xU] (by exact XA.out) _ Tryd.underlying37 rfl Tryd.size_tok (fun K hK => ?_)
    go_simp
    refine hK _ ?_
    clear hK K
    refine qg_call (by rfl) 30 _ Tryd.func30 (by kernel_rfl) (by kernel_rfl) _ _ rfl [.agg [.int .i64 xT, .string xB, .int .i64 xR, .int .u64 xU].toArray] rfl (.agg [.int .i64 xT, .string xB, .int .i64 xR, .int .u64 xU].toArray) (by exact XX.out) (fun K hK => ?_)
    go_simp
    refine hK _ ?_
    clear hK K
    refine qg_blk_load (by rfl) 44 _ rfl v4.heap.size rfl [.int .i64 xT, .string xB, .int .i64 xR, .int .u64 xU] (by exact XC.out) _ Tryd.underlying44 rfl Tryd.size_rtok (fun K hK => ?_)
    go_simp
    refine hK _ ?_
    clear hK K
    refine qg_value (by rfl) (.bool true) (fun u hu => by go_simp) (fun K hK => ?_)
    go_simp
    refine hK _ ?_
    clear hK K
    refine q_value rfl (.bool true) (fun u hu => by go_simp) (fun K hK => ?_)
    go_simp
    refine hK _ ?_
    clear hK K
    refine q_move rfl _ rfl (.bool true) rfl (fun K hK => ?_)
    go_simp
    refine hK _ ?_
    clear hK K
    refine qg_value (by rfl) (.int .i64 xc) (fun u hu => by go_simp) (fun K hK => ?_)
    go_simp
    refine hK _ ?_
    clear hK K
    refine qg_value (by rfl) (.int .i64 xc) (fun u hu => by go_simp) (fun K hK => ?_)
    go_simp
    refine hK _ ?_
    clear hK K
    refine qg_value (by rfl) (.bool true) (fun u hu => by go_simp) (fun K hK => ?_)
    go_simp
    refine hK _ ?_
    clear hK K
    refine q_value rfl (.bool true) (fun u hu => by go_simp) (fun K hK => ?_)
    go_simp
    refine hK _ ?_
    clear hK K
    refine q_assign rfl _ rfl (.bool true) rfl (fun K hK => ?_)
    go_simp
    refine hK _ ?_
    clear hK K
    refine wpQuiet_nil ?_
    intro u hu
    have HVU : Hid (Below w.heap.size w u) := Below.trans HV6.out (hu.mono HV6.out.size)
    clear hu
    go_wp2_with fail
    go_ret
    exact ⟨by simp, HVU.out⟩
  · have d8 : decide ((i8 : Int) < 4) = false := by rw [decide_eq_false_iff_not]; omega
    have d8' : ¬ (i8 : Int) < 4 := by omega
    clear h8
    obtain ⟨xT, xB, xR, xU, xc, HSA, HSB⟩ := both_open k s now hk5 (by omega)
    have CA : Hid _ := HSA
    have CB : Hid _ := HSB
    clear HSA HSB
    have HTa : Hid (Tab w9) := Tab.below HT.out HB9.out hz
    go_wp2_with fail
    refine (CA.out _ HTa.out).mono ?_; rintro e v1 ⟨rfl, hb1⟩
    have HV1 : Hid (Below w.heap.size w v1) := Below.trans HB9.out (hb1.mono HB9.out.size)
    clear hb1
    go_wp2_with (first | refine blk_alloc rfl 37 zeroTok rfl Tryd.info_tok ?_)
    intro v2 K2 B2 Z2
    go_wp2_with (first | refine blk_store rfl 37 _ _ rfl v1.heap.size rfl [.int .i64 xT, .string xB, .int .i64 xR, .int .u64 xU] rfl _ K2 rfl Tryd.size_tok rfl ?_)
    intro v3 K3 U3
    have y1 : w.heap.size ≤ v1.heap.size := HV1.out.size
    have HX3 : Hid (Blk v3 v1.heap.size [.int .i64 xT, .string xB, .int .i64 xR, .int .u64 xU]) := K3
    have HV3 : Hid (Below w.heap.size w v3) := Below.trans HV1.out ((B2.mono y1).trans (U3.below y1))
    have y3 : v3.heap.size = v1.heap.size + 1 := by have := U3.size; omega
    clear K2 B2 Z2 K3 U3 HV1
    go_wp2_with fail
    refine (CB.out _).mono ?_; rintro e v4 ⟨rfl, hb4⟩
    have y4 := hb4.size
    have HX4 : Hid (Blk v4 v1.heap.size [.int .i64 xT, .string xB, .int .i64 xR, .int .u64 xU]) := Blk.below HX3.out hb4 (by omega)
    have HV4 : Hid (Below w.heap.size w v4) := Below.trans HV3.out (hb4.mono HV3.out.size)
    clear hb4 HX3 HV3
    go_wp2_with (first | refine blk_alloc rfl 44 zeroTok rfl Tryd.info_rtok ?_)
    intro v5 K5 B5 Z5
    go_wp2_with (first | refine blk_store rfl 44 _ _ rfl v4.heap.size rfl [.int .i64 xT, .string xB, .int .i64 xR, .int .u64 xU] rfl _ K5 rfl Tryd.size_rtok rfl ?_)
    intro v6 K6 U6
    have y5 : w.heap.size ≤ v4.heap.size := HV4.out.size
    have HY6 : Hid (Blk v6 v4.heap.size [.int .i64 xT, .string xB, .int .i64 xR, .int .u64 xU]) := K6
    have HX6 : Hid (Blk v6 v1.heap.size [.int .i64 xT, .string xB, .int .i64 xR, .int .u64 xU]) := (Blk.below HX4.out B5 (by omega)).upd U6 (by omega)
    have HV6 : Hid (Below w.heap.size w v6) := Below.trans HV4.out ((B5.mono y5).trans (U6.below y5))
    have y6 : v6.heap.size = v4.heap.size + 1 := by have := U6.size; omega
    have y7 : v1.heap.size < v6.heap.size := by omega
    have y8 : v4.heap.size < v6.heap.size := by omega
    clear K5 B5 Z5 K6 U6 HX4 HV4
    have XX : Hid (∀ u, Below v6.heap.size v6 u → Calls Tryd.prog 30 [.agg [.int .i64 xT, .string xB, .int .i64 xR, .int .u64 xU].toArray].toArray u fun e u' => e = .returned (.agg [.int .i64 xT, .string xB, .int .i64 xR, .int .u64 xU].toArray) ∧ Below v6.heap.size v6 u') := fun u hu => Calls.more hu (refToken_any xT xB xR xU u)
    have XA : Hid (∀ u, Below v6.heap.size v6 u → Blk u v1.heap.size [.int .i64 xT, .string xB, .int .i64 xR, .int .u64 xU]) := fun u hu => Blk.below HX6.out hu y7
    have XC : Hid (∀ u, Below v6.heap.size v6 u → Blk u v4.heap.size [.int .i64 xT, .string xB, .int .i64 xR, .int .u64 xU]) := fun u hu => Blk.below HY6.out hu y8
    go_wp2_with fail
    refine region_more Tryd.mixed (by kernel_rfl) ?_
    refine q_move rfl _ rfl (.bool true) rfl (fun K hK => ?_)
    go_simp
    refine hK _ ?_
    clear hK K
    refine q_move rfl _ rfl (.bool true) rfl (fun K hK => ?_)
    go_simp
    refine hK _ ?_
    clear hK K
    refine qg_blk_load (by rfl) 37 _ rfl v1.heap.size rfl [.int .i64 xT, .string xB, .int .i64 xR, .int .u64 xU] (by exact XA.out) _ Tryd.underlying37 rfl Tryd.size_tok (fun K hK => ?_)
    go_simp
    refine hK _ ?_
    clear hK K
    refine qg_call (by rfl) 30 _ Tryd.func30 (by kernel_rfl) (by kernel_rfl) _ _ rfl [.agg [.int .i64 xT, .string xB, .int .i64 xR, .int .u64 xU].toArray] rfl (.agg [.int .i64 xT, .string xB, .int .i64 xR, .int .u64 xU].toArray) (by exact XX.out) (fun K hK => ?_)
    go_simp
    refine hK _ ?_
    clear hK K
    refine qg_blk_load (by rfl) 44 _ rfl v4.heap.size rfl [.int .i64 xT, .string xB, .int .i64 xR, .int .u64 xU] (by exact XC.out) _ Tryd.underlying44 rfl Tryd.size_rtok (fun K hK => ?_)
    go_simp
    refine hK _ ?_
    clear hK K
    refine qg_value (by rfl) (.bool true) (fun u hu => by go_simp) (fun K hK => ?_)
    go_simp
    refine hK _ ?_
    clear hK K
    refine q_value rfl (.bool true) (fun u hu => by go_simp) (fun K hK => ?_)
    go_simp
    refine hK _ ?_
    clear hK K
    refine q_move rfl _ rfl (.bool true) rfl (fun K hK => ?_)
    go_simp
    refine hK _ ?_
    clear hK K
    refine qg_value (by rfl) (.int .i64 xc) (fun u hu => by go_simp) (fun K hK => ?_)
    go_simp
    refine hK _ ?_
    clear hK K
    refine qg_value (by rfl) (.int .i64 xc) (fun u hu => by go_simp) (fun K hK => ?_)
    go_simp
    refine hK _ ?_
    clear hK K
    refine qg_value (by rfl) (.bool true) (fun u hu => by go_simp) (fun K hK => ?_)
    go_simp
    refine hK _ ?_
    clear hK K
    refine q_value rfl (.bool true) (fun u hu => by go_simp) (fun K hK => ?_)
    go_simp
    refine hK _ ?_
    clear hK K
    refine q_assign rfl _ rfl (.bool true) rfl (fun K hK => ?_)
    go_simp
    refine hK _ ?_
    clear hK K
    refine wpQuiet_nil ?_
    intro u hu
    have HVU : Hid (Below w.heap.size w u) := Below.trans HV6.out (hu.mono HV6.out.size)
    clear hu
    go_wp2_with fail
    go_ret
    exact ⟨by simp, HVU.out⟩
theorem walk (T0 : Int) (B0 : ByteArray) (R0 U0 : Int) (o0 : Bool) (a1 : ByteArray) (a2 : ByteArray) (a3 : Int) (a4 : Int) (a5 : Int) (a6 : Int) (wT0 : (Lit.int .i64 T0).wf = true) (wB0 : B0.size ≤ maxLen) (wR0 : (Lit.int .i64 R0).wf = true) (wU0 : (Lit.int .u64 U0).wf = true) (z1 : a1.size ≤ 140737488351232) (z2 : a2.size ≤ 140737488351232) (w3 : (Lit.int .u8 a3).wf = true) (w4 : (Lit.int .i64 a4).wf = true) (w5 : (Lit.int .u8 a5).wf = true) (w6 : (Lit.int .u64 a6).wf = true) (w : World) (hT : Tab w) :
    Calls Tryd.prog 6 #[.agg #[.int .i64 T0, .string B0, .int .i64 R0, .int .u64 U0, .bool o0], .string a1, .string a2, .int .u8 a3, .int .i64 a4, .int .u8 a5, .int .u64 a6] w fun e w' => e = .returned (.bool true) ∧ Below w.heap.size w w' := by
  have hU : 0 ≤ U0 ∧ U0 ≤ 18446744073709551615 := by simpa [Lit.wf, IntKind.min, IntKind.max, IntKind.signed, IntKind.bits] using wU0
  obtain ⟨U, rfl⟩ : ∃ U : Nat, U0 = (U : Int) := ⟨U0.toNat, by omega⟩
  have hB : B0.size ≤ 9223372036854775807 := by unfold maxLen at wB0; omega
  have h3 : 0 ≤ a3 ∧ a3 ≤ 255 := by simpa [Lit.wf, IntKind.min, IntKind.max, IntKind.signed, IntKind.bits] using w3
  have h4 : -9223372036854775808 ≤ a4 ∧ a4 ≤ 9223372036854775807 := by simpa [Lit.wf, IntKind.min, IntKind.max, IntKind.signed, IntKind.bits] using w4
  have h5 : 0 ≤ a5 ∧ a5 ≤ 255 := by simpa [Lit.wf, IntKind.min, IntKind.max, IntKind.signed, IntKind.bits] using w5
  have h6 : 0 ≤ a6 ∧ a6 ≤ 18446744073709551615 := by simpa [Lit.wf, IntKind.min, IntKind.max, IntKind.signed, IntKind.bits] using w6
  obtain ⟨h, rfl⟩ : ∃ h : Nat, a3 = (h : Int) := ⟨a3.toNat, by omega⟩
  obtain ⟨y, rfl⟩ : ∃ y : UInt8, a5 = (y.toNat : Int) := ⟨UInt8.ofNat a5.toNat, by rw [UInt8.toNat_ofNat']; omega⟩
  obtain ⟨now, rfl⟩ : ∃ n : Nat, a6 = (n : Int) := ⟨a6.toNat, by omega⟩
  obtain ⟨T, B, R, V, hBs, hV, CT⟩ : ∃ (T : Int) (B : ByteArray) (R : Int) (V : Nat), B.size ≤ 9223372036854775807 ∧ V < 2 ^ 64 ∧ ∀ w, Calls Tryd.prog 27 #[.agg #[.int .i64 T0, .string B0, .int .i64 R0, .int .u64 (U : Int), .bool o0]] w fun e w' => e = .returned (.agg [.int .i64 T, .string B, .int .i64 R, .int .u64 (V : Int)].toArray) ∧ Below w.heap.size w w' := by
    cases o0 with
    | false => exact ⟨T0, B0, R0, U, hB, by omega, fun w => token_as T0 B0 R0 (U : Int) w⟩
    | true => exact ⟨_, buck B0, _, U % 50, by have := (buck_size B0).2; omega, by omega, fun w => token_own T0 B0 R0 U w hB (by omega)⟩
  have hj : h % 4 = 0 ∨ h % 4 = 1 ∨ h % 4 = 2 ∨ h % 4 = 3 := by omega
  rcases hj with hj | hj | hj | hj
  · exact way0 a1 a2 h a4 y now T0 B0 R0 (U : Int) o0 T B R V w hT z1 z2 (by omega) h4.1 h4.2 (by omega) hBs hV CT hj
  · exact way1 a1 a2 h a4 y now T0 B0 R0 (U : Int) o0 T B R V w hT z1 z2 (by omega) h4.1 h4.2 (by omega) hBs hV CT hj
  · exact way2 a1 a2 h a4 y now T0 B0 R0 (U : Int) o0 T B R V w hT z1 z2 (by omega) h4.1 h4.2 (by omega) hBs hV CT hj
  · exact way3 a1 a2 h a4 y now T0 B0 R0 (U : Int) o0 T B R V w hT z1 z2 (by omega) h4.1 h4.2 (by omega) hBs hV CT hj


set_option maxRecDepth 100000 in
theorem lifted (os : Os) (started : os.Started) (H : Type) (enc : TypeId × Value → H) (F : Stop.Interp) :
    ReturnsInHanded {} Tryd.checked os 6 .any ((OpenSpec.ofChange Rows.macOpensSpec).preRow enc Tryd.prog Tryd.f6 Rows.macOpensRow.domain false Rows.macOpensRow.laid) (((OpenSpec.ofChange Rows.macOpensSpec).at F).post enc Tryd.prog Tryd.f6 false true false false) := by
  have hx : ∃ places, DataW.whole enc Tryd.prog ((laidWorld os).forCall (fun _ _ => 0) ⟨#[], #[.agg #[.int .i64 0, .string ByteArray.empty, .int .i64 0, .int .u64 0, .bool false], .string ByteArray.empty, .string ByteArray.empty, .int .u8 0, .int .i64 0, .int .u8 0, .int .u64 0], []⟩).memory Tryd.f6.params.toList Rows.macOpensSpec.vars false #[Value.agg #[.int .i64 0, .string ByteArray.empty, .int .i64 0, .int .u64 0, .bool false], Value.string ByteArray.empty, Value.string ByteArray.empty, Value.int .u8 0, Value.int .i64 0, Value.int .u8 0, Value.int .u64 0].toList 8 = some ([.agg [.agg [.lit (.int .i64 0), .lit (.string []), .lit (.int .i64 0), .lit (.int .u64 0)], .lit (.bool false)], .lit (.string []), .lit (.string []), .lit (.int .u8 0), .lit (.int .i64 0), .lit (.int .u8 0), .lit (.int .u64 0)], [], places) := ⟨[], by kernel_rfl⟩
  obtain ⟨places, hx⟩ := hx
  refine returnsInHanded_of_row (C := Tryd.checked) (s := OpenSpec.ofChange Rows.macOpensSpec) own started (by kernel_rfl) Tryd.func6
    (witness_row_at (enc := enc) (C := Tryd.checked) false (laidWorld os) #[.agg #[.int .i64 0, .string ByteArray.empty, .int .i64 0, .int .u64 0, .bool false], .string ByteArray.empty, .string ByteArray.empty, .int .u8 0, .int .i64 0, .int .u8 0, .int .u64 0] rfl (by kernel_rfl) (by kernel_rfl) (by kernel_rfl)
      (OpenSpec.preRow_of_cond 8 hx (by kernel_rfl) (fun k hk => by cases hk) (by kernel_rfl) (laidMet_of_run' 8 (by kernel_rfl) (by kernel_rfl)))) ?_
  intro W base args ds gs before hval0 hW hcnd hcond hsz0 hL _ _
  have hT : Tab W := tab_of hL
  have hval : ∀ (j : Nat) t v, Tryd.f6.params[j]? = some t → args[j]? = some v → Value.okWide Tryd.prog W .any base t v := hval0
  have hW' := hW
  obtain ⟨p, q, hA0, hV, rfl, hfz, hnd⟩ := hW
  have hA : DataW.TrodAll enc Tryd.prog W 0 (fun _ => true) true Tryd.f6.params.toList args.toList ds p := hA0
  have hsz : (DataW.weightsEach Tryd.prog (Tryd.f6.params.toList ++ Rows.macOpensSpec.plain.varTypes Tryd.prog) (ds ++ gs)).all (· ≤ reachBytes) = true := hsz0
  rw [Tryd.params6] at hA hval hsz
  obtain ⟨rfl, rfl⟩ := trodVars_none hV
  have hAk := hA
  have hlt : ∀ x ∈ p, x.block < W.heap.size := fun x hx => by simpa using hW'.lt x (List.mem_append.2 (.inl hx))
  obtain ⟨v0, vs0, d0, ds0, p0, q0, hargs, rfl, rfl, h0, r0⟩ := trodAll_cons hA
  obtain ⟨v1, vs1, d1, ds1, p1, q1, rfl, rfl, rfl, h1, r1⟩ := trodAll_cons r0
  obtain ⟨v2, vs2, d2, ds2, p2, q2, rfl, rfl, rfl, h2, r2⟩ := trodAll_cons r1
  obtain ⟨v3, vs3, d3, ds3, p3, q3, rfl, rfl, rfl, h3, r3⟩ := trodAll_cons r2
  obtain ⟨v4, vs4, d4, ds4, p4, q4, rfl, rfl, rfl, h4, r4⟩ := trodAll_cons r3
  obtain ⟨v5, vs5, d5, ds5, p5, q5, rfl, rfl, rfl, h5, r5⟩ := trodAll_cons r4
  obtain ⟨v6, vs6, d6, ds6, p6, q6, rfl, rfl, rfl, h6, r6⟩ := trodAll_cons r5
  obtain ⟨rfl, rfl, rfl⟩ := trodAll_nil r6
  obtain rfl : args = #[v0, v1, v2, v3, v4, v5, v6] := by cases args; simp_all
  obtain ⟨T0, B0, R0, U0, o0, rfl, wT0, wB0, wR0, wU0⟩ := open_pass (hval 0 39 v0 rfl rfl) h0
  obtain ⟨a1, rfl, rfl, rfl, w1⟩ := open_string Tryd.underlying9 (hval 1 9 v1 rfl rfl) h1
  have z1 := sized_string hsz (j := 1) (t := 9) rfl rfl
  obtain ⟨a2, rfl, rfl, rfl, w2⟩ := open_string Tryd.underlying9 (hval 2 9 v2 rfl rfl) h2
  have z2 := sized_string hsz (j := 2) (t := 9) rfl rfl
  obtain ⟨a3, rfl, rfl, rfl, w3⟩ := open_int Tryd.underlying5 (hval 3 5 v3 rfl rfl) h3
  obtain ⟨a4, rfl, rfl, rfl, w4⟩ := open_int Tryd.underlying3 (hval 4 3 v4 rfl rfl) h4
  obtain ⟨a5, rfl, rfl, rfl, w5⟩ := open_int Tryd.underlying5 (hval 5 5 v5 rfl rfl) h5
  obtain ⟨a6, rfl, rfl, rfl, w6⟩ := open_int Tryd.underlying27 (hval 6 27 v6 rfl rfl) h6
  clear hA0 hval0 hsz0
  refine (walk T0 B0 R0 U0 o0 a1 a2 a3 a4 a5 a6 wT0 wB0 wR0 wU0 (by rw [Array.length_toList] at z1; exact z1) (by rw [Array.length_toList] at z2; exact z2) w3 w4 w5 w6 W hT).mono fun e W' ⟨he, hg⟩ => ?_
  subst he
  exact ⟨_, rfl, _, _, _, [], _, [], hW', (trodAll_cons_mk (shut_bool Tryd.underlying4 _) trodAll_mk0), trodAll_below laidOut hg _ _ _ _ (by kernel_rfl) hAk hlt, rfl, hg.frame _, fun h => by cases h⟩

theorem over : Rows.macOpensRow.holds Tryd.pinned (OpenSpec.ofChange Rows.macOpensSpec) :=
  OpenClaim.holds_of_cond 6 Tryd.f6 rfl rfl rfl rfl rfl rfl rfl ⟨rfl, rfl, rfl, rfl, rfl⟩ rfl rfl rfl rfl rfl (by kernel_rfl) Tryd.func6 (by kernel_rfl)
    (of_decide_eq_true (by kernel_rfl)) (by unfold Func.isWrapper; first | (rw [if_pos (by decide +kernel)]; kernel_rfl) | (rw [if_neg (by decide +kernel)]; exact ⟨rfl, rfl⟩))
    (fun os started H enc _ F => by rw [OpenClaim.pre_eq_preRow]; exact lifted os started H enc F)

set_option maxRecDepth 100000 in
theorem plain (f : FuncId) (fn : Func) (hf : Tryd.pinned.checked.prog.funcNamed "tenement/tenementlaw04.MacOpens" = some f) (hfn : Tryd.pinned.checked.prog.funcs[f]? = some fn) :
    false = Tryd.pinned.checked.prog.looks [] ∧ ∀ (j : Nat) t, fn.params[j]? = some t → Tryd.pinned.checked.prog.wantsStandIn t = false := by
  obtain rfl : f = 6 := Option.some.inj ((show Tryd.prog.funcNamed "tenement/tenementlaw04.MacOpens" = some 6 by kernel_rfl).symm.trans hf) |>.symm
  obtain rfl : fn = Tryd.f6 := (Option.some.inj (Tryd.func6.symm.trans hfn)).symm
  refine ⟨by kernel_rfl, fun j t ht => ?_⟩
  rw [Tryd.params6] at ht
  have hm := Array.mem_of_getElem? ht
  simp only [List.mem_toArray, List.mem_cons, List.not_mem_nil, or_false] at hm
  rcases hm with rfl | rfl | rfl | rfl | rfl | rfl | rfl
  all_goals first | exact (show Tryd.prog.wantsStandIn 39 = false by kernel_rfl) | exact (show Tryd.prog.wantsStandIn 9 = false by kernel_rfl) | exact (show Tryd.prog.wantsStandIn 5 = false by kernel_rfl) | exact (show Tryd.prog.wantsStandIn 3 = false by kernel_rfl) | exact (show Tryd.prog.wantsStandIn 27 = false by kernel_rfl)

/-- the statement -/
theorem proved : Rows.MacOpensCardSaid :=
  Claim7.holds_tied_plain_at .later [] _ _ _ _ over (fun _ h => by cases h) (by kernel_rfl) (fun _ h => by cases h) macOpens_row_tie rfl ⟨rfl, rfl⟩ (by kernel_rfl) rfl plain (by kernel_rfl)
#print axioms proved
end Go.Proofs.YtlodahlinncpcaaDoor.macOpens
