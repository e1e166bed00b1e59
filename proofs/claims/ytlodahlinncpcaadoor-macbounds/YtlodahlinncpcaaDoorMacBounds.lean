/-
  For every tenant, every length of the bucket, all rights and every time: a token is right, and minted, just if tenant, bucket and rights are in their bounds (the law MacBounds). No conditions.
-/
import Derived.Test.YtlodahlinncpcaaDoorFrameLaid
import Derived.Test.YtlodahlinncpcaaDoorMacEx
namespace Go.Proofs.YtlodahlinncpcaaDoor.macBounds
open Go.ChangeShapes Go.WideShapes Go.ChangeAt Go.RowKit
open Go.Proofs.YtlodahlinncpcaaDoor.Mc
open Go.ChangeMaps (open_string shut_string)
set_option linter.unusedVariables false
set_option linter.unusedSimpArgs false

theorem empty_no (s : ByteArray) (h : s.size ≠ 0) : s.toList.isEmpty = false := by
  rw [ByteArray.toList_eq]
  rw [List.isEmpty_eq_false_iff]
  intro e
  apply h
  have : s.data.toList.length = s.size := by rw [Array.length_toList]; rfl
  rw [← this, e]; rfl
set_option maxHeartbeats 2000000 in
set_option maxRecDepth 100000 in
theorem way0 (a0 a2 : Int) (b n U : Nat) (w : World) (hT : Tab w) (h0 : -128 ≤ a0 ∧ a0 ≤ 127) (h2 : -128 ≤ a2 ∧ a2 ≤ 127) (hb : b < 256) (hn : n = b % 20) (hU : U < 2 ^ 64) (g0 : ¬ 1 ≤ a0) :
    Calls Tryd.prog 10 #[.int .i8 a0, .int .u8 (b : Int), .int .i8 a2, .int .u64 (U : Int)] w fun e w' => e = .returned (.bool true) ∧ Below w.heap.size w w' := by
  have CE : Hid _ := mexamples_any
  have HT : Hid _ := hT
  have hz := hT.pos
  have e1 : (b : Int).tmod 20 = (n : Int) := by rw [Int.tmod_eq_emod_of_nonneg (by omega)]; omega
  have n20 : n < 20 := by omega
  have v1 : IntKind.u8.wrap (n : Int) = (n : Int) := by rw [IntKind.wrap_u8']; omega
  have v2 : IntKind.i64.wrap (n : Int) = n := IntWalk.i64_in _ ⟨by omega, by omega⟩
  have v3 : IntKind.i64.wrap a0 = a0 := IntWalk.i64_in _ ⟨by omega, by omega⟩
  have v4 : IntKind.i64.wrap a2 = a2 := IntWalk.i64_in _ ⟨by omega, by omega⟩
  obtain ⟨B, HB0⟩ : ∃ B, Hid (S (List.replicate n (0 : UInt8)) = B) := ⟨_, rfl⟩
  have hBs : B.size = n := by rw [← HB0.out, S_size, List.length_replicate]
  have HR : Hid (M.right a0 B.size a2 = false) := right_false (by omega)
  have CM : Hid _ := fun w (_ : Tab w) => mint_no ⟨#[107, 101, 121]⟩ B a0 a2 U w (by omega) HR.out
  have CR : Hid _ := fun w => right_any a0 B a2 U w (by omega)
  rw [HR.out] at CR
  have d0 : decide ((1 : Int) ≤ a0) = false := by rw [decide_eq_false_iff_not]; omega
  clear hT h0 h2 hb hn g0
  go_enter Tryd.func10, Tryd.ntmps10
  go_wp2_with fail
  refine (CE.out _ HT.out).mono ?_; rintro e w1 ⟨rfl, hb1⟩
  obtain ⟨w2, hmk, HO0, B2, Z2⟩ := make_bytes w1 .i64 .i64 n n (Nat.le_refl _) (by omega)
  have hcv := OB.strAt HO0
  rw [HB0.out] at hcv
  have HB2 : Hid (Below w.heap.size w w2) := hb1.trans (B2.mono hb1.size)
  have zz : w.heap.size ≤ w2.heap.size := HB2.out.size
  clear hb1 B2 HO0 CE Z2
  go_wp2_with (first | refine blk_alloc rfl 37 zeroTok rfl Tryd.info_tok ?_)
  intro w3 K3 B3 Z3
  go_wp2_with (first | refine blk_store rfl 37 _ _ rfl w2.heap.size rfl [.int .i64 a0, .string B, .int .i64 a2, .int .u64 (U : Int)] rfl _ K3 rfl Tryd.size_tok rfl ?_)
  intro w4 K4 U4
  have HK4 : Hid (Blk w4 w2.heap.size [.int .i64 a0, .string B, .int .i64 a2, .int .u64 (U : Int)]) := K4
  have HB4 : Hid (Below w.heap.size w w4) := Below.trans HB2.out ((B3.mono zz).trans (U4.below zz))
  have z4 : w4.heap.size = w2.heap.size + 1 := by have := U4.size; omega
  clear K3 B3 Z3 K4 U4 HB2 hmk hcv
  generalize w2.heap.size = bt at *
  have HT4 : Hid (Tab w4) := Tab.below HT.out HB4.out hz
  have c0 : w4.cell? ⟨bt, 0, none⟩ = some (.int .i64 a0) := Blk.cell HK4.out 0 _ rfl
  have c1 : w4.cell? ⟨bt, 1, none⟩ = some (.string B) := Blk.cell HK4.out 1 _ rfl
  have c2 : w4.cell? ⟨bt, 2, none⟩ = some (.int .i64 a2) := Blk.cell HK4.out 2 _ rfl
  have c3 : w4.cell? ⟨bt, 3, none⟩ = some (.int .u64 (U : Int)) := Blk.cell HK4.out 3 _ rfl
  go_wp2_with fail
  refine (CM.out _ HT4.out).mono ?_; rintro e w5 ⟨rfl, hb5⟩
  have HK5 : Hid (Blk w5 bt [.int .i64 a0, .string B, .int .i64 a2, .int .u64 (U : Int)]) := Blk.below HK4.out hb5 (by omega)
  have HB5 : Hid (Below w.heap.size w w5) := Below.trans HB4.out (hb5.mono HB4.out.size)
  have z5 := hb5.size
  clear hb5 c0 c1 c2 c3 HK4 HB4 HT4 CM
  have c0 : w5.cell? ⟨bt, 0, none⟩ = some (.int .i64 a0) := Blk.cell HK5.out 0 _ rfl
  have c1 : w5.cell? ⟨bt, 1, none⟩ = some (.string B) := Blk.cell HK5.out 1 _ rfl
  have c2 : w5.cell? ⟨bt, 2, none⟩ = some (.int .i64 a2) := Blk.cell HK5.out 2 _ rfl
  have c3 : w5.cell? ⟨bt, 3, none⟩ = some (.int .u64 (U : Int)) := Blk.cell HK5.out 3 _ rfl
  go_wp2_with fail
  refine (CR.out _).mono ?_; rintro e w6 ⟨rfl, hb6⟩
  have HB6 : Hid (Below w.heap.size w w6) := Below.trans HB5.out (hb6.mono HB5.out.size)
  clear hb6
  go_wp2_with fail
  go_ret
  exact ⟨by simp, HB6.out⟩
set_option maxHeartbeats 2000000 in
set_option maxRecDepth 100000 in
theorem way1 (a0 a2 : Int) (b n U : Nat) (w : World) (hT : Tab w) (h0 : -128 ≤ a0 ∧ a0 ≤ 127) (h2 : -128 ≤ a2 ∧ a2 ≤ 127) (hb : b < 256) (hn : n = b % 20) (hU : U < 2 ^ 64) (g0 : 1 ≤ a0) (g1 : ¬ a0 ≤ 8) :
    Calls Tryd.prog 10 #[.int .i8 a0, .int .u8 (b : Int), .int .i8 a2, .int .u64 (U : Int)] w fun e w' => e = .returned (.bool true) ∧ Below w.heap.size w w' := by
  have CE : Hid _ := mexamples_any
  have HT : Hid _ := hT
  have hz := hT.pos
  have e1 : (b : Int).tmod 20 = (n : Int) := by rw [Int.tmod_eq_emod_of_nonneg (by omega)]; omega
  have n20 : n < 20 := by omega
  have v1 : IntKind.u8.wrap (n : Int) = (n : Int) := by rw [IntKind.wrap_u8']; omega
  have v2 : IntKind.i64.wrap (n : Int) = n := IntWalk.i64_in _ ⟨by omega, by omega⟩
  have v3 : IntKind.i64.wrap a0 = a0 := IntWalk.i64_in _ ⟨by omega, by omega⟩
  have v4 : IntKind.i64.wrap a2 = a2 := IntWalk.i64_in _ ⟨by omega, by omega⟩
  obtain ⟨B, HB0⟩ : ∃ B, Hid (S (List.replicate n (0 : UInt8)) = B) := ⟨_, rfl⟩
  have hBs : B.size = n := by rw [← HB0.out, S_size, List.length_replicate]
  have HR : Hid (M.right a0 B.size a2 = false) := right_false (by omega)
  have CM : Hid _ := fun w (_ : Tab w) => mint_no ⟨#[107, 101, 121]⟩ B a0 a2 U w (by omega) HR.out
  have CR : Hid _ := fun w => right_any a0 B a2 U w (by omega)
  rw [HR.out] at CR
  have d0 : decide ((1 : Int) ≤ a0) = true := by rw [decide_eq_true_iff]; omega
  have d1 : decide (a0 ≤ 8) = false := by rw [decide_eq_false_iff_not]; omega
  clear hT h0 h2 hb hn g0 g1
  go_enter Tryd.func10, Tryd.ntmps10
  go_wp2_with fail
  refine (CE.out _ HT.out).mono ?_; rintro e w1 ⟨rfl, hb1⟩
  obtain ⟨w2, hmk, HO0, B2, Z2⟩ := make_bytes w1 .i64 .i64 n n (Nat.le_refl _) (by omega)
  have hcv := OB.strAt HO0
  rw [HB0.out] at hcv
  have HB2 : Hid (Below w.heap.size w w2) := hb1.trans (B2.mono hb1.size)
  have zz : w.heap.size ≤ w2.heap.size := HB2.out.size
  clear hb1 B2 HO0 CE Z2
  go_wp2_with (first | refine blk_alloc rfl 37 zeroTok rfl Tryd.info_tok ?_)
  intro w3 K3 B3 Z3
  go_wp2_with (first | refine blk_store rfl 37 _ _ rfl w2.heap.size rfl [.int .i64 a0, .string B, .int .i64 a2, .int .u64 (U : Int)] rfl _ K3 rfl Tryd.size_tok rfl ?_)
  intro w4 K4 U4
  have HK4 : Hid (Blk w4 w2.heap.size [.int .i64 a0, .string B, .int .i64 a2, .int .u64 (U : Int)]) := K4
  have HB4 : Hid (Below w.heap.size w w4) := Below.trans HB2.out ((B3.mono zz).trans (U4.below zz))
  have z4 : w4.heap.size = w2.heap.size + 1 := by have := U4.size; omega
  clear K3 B3 Z3 K4 U4 HB2 hmk hcv
  generalize w2.heap.size = bt at *
  have HT4 : Hid (Tab w4) := Tab.below HT.out HB4.out hz
  have c0 : w4.cell? ⟨bt, 0, none⟩ = some (.int .i64 a0) := Blk.cell HK4.out 0 _ rfl
  have c1 : w4.cell? ⟨bt, 1, none⟩ = some (.string B) := Blk.cell HK4.out 1 _ rfl
  have c2 : w4.cell? ⟨bt, 2, none⟩ = some (.int .i64 a2) := Blk.cell HK4.out 2 _ rfl
  have c3 : w4.cell? ⟨bt, 3, none⟩ = some (.int .u64 (U : Int)) := Blk.cell HK4.out 3 _ rfl
  go_wp2_with fail
  refine (CM.out _ HT4.out).mono ?_; rintro e w5 ⟨rfl, hb5⟩
  have HK5 : Hid (Blk w5 bt [.int .i64 a0, .string B, .int .i64 a2, .int .u64 (U : Int)]) := Blk.below HK4.out hb5 (by omega)
  have HB5 : Hid (Below w.heap.size w w5) := Below.trans HB4.out (hb5.mono HB4.out.size)
  have z5 := hb5.size
  clear hb5 c0 c1 c2 c3 HK4 HB4 HT4 CM
  have c0 : w5.cell? ⟨bt, 0, none⟩ = some (.int .i64 a0) := Blk.cell HK5.out 0 _ rfl
  have c1 : w5.cell? ⟨bt, 1, none⟩ = some (.string B) := Blk.cell HK5.out 1 _ rfl
  have c2 : w5.cell? ⟨bt, 2, none⟩ = some (.int .i64 a2) := Blk.cell HK5.out 2 _ rfl
  have c3 : w5.cell? ⟨bt, 3, none⟩ = some (.int .u64 (U : Int)) := Blk.cell HK5.out 3 _ rfl
  go_wp2_with fail
  refine (CR.out _).mono ?_; rintro e w6 ⟨rfl, hb6⟩
  have HB6 : Hid (Below w.heap.size w w6) := Below.trans HB5.out (hb6.mono HB5.out.size)
  clear hb6
  go_wp2_with fail
  go_ret
  exact ⟨by simp, HB6.out⟩
set_option maxHeartbeats 2000000 in
set_option maxRecDepth 100000 in
theorem way2 (a0 a2 : Int) (b n U : Nat) (w : World) (hT : Tab w) (h0 : -128 ≤ a0 ∧ a0 ≤ 127) (h2 : -128 ≤ a2 ∧ a2 ≤ 127) (hb : b < 256) (hn : n = b % 20) (hU : U < 2 ^ 64) (g0 : 1 ≤ a0) (g1 : a0 ≤ 8) (g2 : ¬ 1 ≤ n) :
    Calls Tryd.prog 10 #[.int .i8 a0, .int .u8 (b : Int), .int .i8 a2, .int .u64 (U : Int)] w fun e w' => e = .returned (.bool true) ∧ Below w.heap.size w w' := by
  have CE : Hid _ := mexamples_any
  have HT : Hid _ := hT
  have hz := hT.pos
  have e1 : (b : Int).tmod 20 = (n : Int) := by rw [Int.tmod_eq_emod_of_nonneg (by omega)]; omega
  have n20 : n < 20 := by omega
  have v1 : IntKind.u8.wrap (n : Int) = (n : Int) := by rw [IntKind.wrap_u8']; omega
  have v2 : IntKind.i64.wrap (n : Int) = n := IntWalk.i64_in _ ⟨by omega, by omega⟩
  have v3 : IntKind.i64.wrap a0 = a0 := IntWalk.i64_in _ ⟨by omega, by omega⟩
  have v4 : IntKind.i64.wrap a2 = a2 := IntWalk.i64_in _ ⟨by omega, by omega⟩
  obtain ⟨B, HB0⟩ : ∃ B, Hid (S (List.replicate n (0 : UInt8)) = B) := ⟨_, rfl⟩
  have hBs : B.size = n := by rw [← HB0.out, S_size, List.length_replicate]
  have HR : Hid (M.right a0 B.size a2 = false) := right_false (by omega)
  have CM : Hid _ := fun w (_ : Tab w) => mint_no ⟨#[107, 101, 121]⟩ B a0 a2 U w (by omega) HR.out
  have CR : Hid _ := fun w => right_any a0 B a2 U w (by omega)
  rw [HR.out] at CR
  have d0 : decide ((1 : Int) ≤ a0) = true := by rw [decide_eq_true_iff]; omega
  have d1 : decide (a0 ≤ 8) = true := by rw [decide_eq_true_iff]; omega
  have d2 : decide ((1 : Int) ≤ (n : Int)) = false := by rw [decide_eq_false_iff_not]; omega
  clear hT h0 h2 hb hn g0 g1 g2
  go_enter Tryd.func10, Tryd.ntmps10
  go_wp2_with fail
  refine (CE.out _ HT.out).mono ?_; rintro e w1 ⟨rfl, hb1⟩
  obtain ⟨w2, hmk, HO0, B2, Z2⟩ := make_bytes w1 .i64 .i64 n n (Nat.le_refl _) (by omega)
  have hcv := OB.strAt HO0
  rw [HB0.out] at hcv
  have HB2 : Hid (Below w.heap.size w w2) := hb1.trans (B2.mono hb1.size)
  have zz : w.heap.size ≤ w2.heap.size := HB2.out.size
  clear hb1 B2 HO0 CE Z2
  go_wp2_with (first | refine blk_alloc rfl 37 zeroTok rfl Tryd.info_tok ?_)
  intro w3 K3 B3 Z3
  go_wp2_with (first | refine blk_store rfl 37 _ _ rfl w2.heap.size rfl [.int .i64 a0, .string B, .int .i64 a2, .int .u64 (U : Int)] rfl _ K3 rfl Tryd.size_tok rfl ?_)
  intro w4 K4 U4
  have HK4 : Hid (Blk w4 w2.heap.size [.int .i64 a0, .string B, .int .i64 a2, .int .u64 (U : Int)]) := K4
  have HB4 : Hid (Below w.heap.size w w4) := Below.trans HB2.out ((B3.mono zz).trans (U4.below zz))
  have z4 : w4.heap.size = w2.heap.size + 1 := by have := U4.size; omega
  clear K3 B3 Z3 K4 U4 HB2 hmk hcv
  generalize w2.heap.size = bt at *
  have HT4 : Hid (Tab w4) := Tab.below HT.out HB4.out hz
  have c0 : w4.cell? ⟨bt, 0, none⟩ = some (.int .i64 a0) := Blk.cell HK4.out 0 _ rfl
  have c1 : w4.cell? ⟨bt, 1, none⟩ = some (.string B) := Blk.cell HK4.out 1 _ rfl
  have c2 : w4.cell? ⟨bt, 2, none⟩ = some (.int .i64 a2) := Blk.cell HK4.out 2 _ rfl
  have c3 : w4.cell? ⟨bt, 3, none⟩ = some (.int .u64 (U : Int)) := Blk.cell HK4.out 3 _ rfl
  go_wp2_with fail
  refine (CM.out _ HT4.out).mono ?_; rintro e w5 ⟨rfl, hb5⟩
  have HK5 : Hid (Blk w5 bt [.int .i64 a0, .string B, .int .i64 a2, .int .u64 (U : Int)]) := Blk.below HK4.out hb5 (by omega)
  have HB5 : Hid (Below w.heap.size w w5) := Below.trans HB4.out (hb5.mono HB4.out.size)
  have z5 := hb5.size
  clear hb5 c0 c1 c2 c3 HK4 HB4 HT4 CM
  have c0 : w5.cell? ⟨bt, 0, none⟩ = some (.int .i64 a0) := Blk.cell HK5.out 0 _ rfl
  have c1 : w5.cell? ⟨bt, 1, none⟩ = some (.string B) := Blk.cell HK5.out 1 _ rfl
  have c2 : w5.cell? ⟨bt, 2, none⟩ = some (.int .i64 a2) := Blk.cell HK5.out 2 _ rfl
  have c3 : w5.cell? ⟨bt, 3, none⟩ = some (.int .u64 (U : Int)) := Blk.cell HK5.out 3 _ rfl
  go_wp2_with fail
  refine (CR.out _).mono ?_; rintro e w6 ⟨rfl, hb6⟩
  have HB6 : Hid (Below w.heap.size w w6) := Below.trans HB5.out (hb6.mono HB5.out.size)
  clear hb6
  go_wp2_with fail
  go_ret
  exact ⟨by simp, HB6.out⟩
set_option maxHeartbeats 2000000 in
set_option maxRecDepth 100000 in
theorem way3 (a0 a2 : Int) (b n U : Nat) (w : World) (hT : Tab w) (h0 : -128 ≤ a0 ∧ a0 ≤ 127) (h2 : -128 ≤ a2 ∧ a2 ≤ 127) (hb : b < 256) (hn : n = b % 20) (hU : U < 2 ^ 64) (g0 : 1 ≤ a0) (g1 : a0 ≤ 8) (g2 : 1 ≤ n) (g3 : ¬ n ≤ 16) :
    Calls Tryd.prog 10 #[.int .i8 a0, .int .u8 (b : Int), .int .i8 a2, .int .u64 (U : Int)] w fun e w' => e = .returned (.bool true) ∧ Below w.heap.size w w' := by
  have CE : Hid _ := mexamples_any
  have HT : Hid _ := hT
  have hz := hT.pos
  have e1 : (b : Int).tmod 20 = (n : Int) := by rw [Int.tmod_eq_emod_of_nonneg (by omega)]; omega
  have n20 : n < 20 := by omega
  have v1 : IntKind.u8.wrap (n : Int) = (n : Int) := by rw [IntKind.wrap_u8']; omega
  have v2 : IntKind.i64.wrap (n : Int) = n := IntWalk.i64_in _ ⟨by omega, by omega⟩
  have v3 : IntKind.i64.wrap a0 = a0 := IntWalk.i64_in _ ⟨by omega, by omega⟩
  have v4 : IntKind.i64.wrap a2 = a2 := IntWalk.i64_in _ ⟨by omega, by omega⟩
  obtain ⟨B, HB0⟩ : ∃ B, Hid (S (List.replicate n (0 : UInt8)) = B) := ⟨_, rfl⟩
  have hBs : B.size = n := by rw [← HB0.out, S_size, List.length_replicate]
  have HR : Hid (M.right a0 B.size a2 = false) := right_false (by omega)
  have CM : Hid _ := fun w (_ : Tab w) => mint_no ⟨#[107, 101, 121]⟩ B a0 a2 U w (by omega) HR.out
  have CR : Hid _ := fun w => right_any a0 B a2 U w (by omega)
  rw [HR.out] at CR
  have d0 : decide ((1 : Int) ≤ a0) = true := by rw [decide_eq_true_iff]; omega
  have d1 : decide (a0 ≤ 8) = true := by rw [decide_eq_true_iff]; omega
  have d2 : decide ((1 : Int) ≤ (n : Int)) = true := by rw [decide_eq_true_iff]; omega
  have d3 : decide ((n : Int) ≤ 16) = false := by rw [decide_eq_false_iff_not]; omega
  clear hT h0 h2 hb hn g0 g1 g2 g3
  go_enter Tryd.func10, Tryd.ntmps10
  go_wp2_with fail
  refine (CE.out _ HT.out).mono ?_; rintro e w1 ⟨rfl, hb1⟩
  obtain ⟨w2, hmk, HO0, B2, Z2⟩ := make_bytes w1 .i64 .i64 n n (Nat.le_refl _) (by omega)
  have hcv := OB.strAt HO0
  rw [HB0.out] at hcv
  have HB2 : Hid (Below w.heap.size w w2) := hb1.trans (B2.mono hb1.size)
  have zz : w.heap.size ≤ w2.heap.size := HB2.out.size
  clear hb1 B2 HO0 CE Z2
  go_wp2_with (first | refine blk_alloc rfl 37 zeroTok rfl Tryd.info_tok ?_)
  intro w3 K3 B3 Z3
  go_wp2_with (first | refine blk_store rfl 37 _ _ rfl w2.heap.size rfl [.int .i64 a0, .string B, .int .i64 a2, .int .u64 (U : Int)] rfl _ K3 rfl Tryd.size_tok rfl ?_)
  intro w4 K4 U4
  have HK4 : Hid (Blk w4 w2.heap.size [.int .i64 a0, .string B, .int .i64 a2, .int .u64 (U : Int)]) := K4
  have HB4 : Hid (Below w.heap.size w w4) := Below.trans HB2.out ((B3.mono zz).trans (U4.below zz))
  have z4 : w4.heap.size = w2.heap.size + 1 := by have := U4.size; omega
  clear K3 B3 Z3 K4 U4 HB2 hmk hcv
  generalize w2.heap.size = bt at *
  have HT4 : Hid (Tab w4) := Tab.below HT.out HB4.out hz
  have c0 : w4.cell? ⟨bt, 0, none⟩ = some (.int .i64 a0) := Blk.cell HK4.out 0 _ rfl
  have c1 : w4.cell? ⟨bt, 1, none⟩ = some (.string B) := Blk.cell HK4.out 1 _ rfl
  have c2 : w4.cell? ⟨bt, 2, none⟩ = some (.int .i64 a2) := Blk.cell HK4.out 2 _ rfl
  have c3 : w4.cell? ⟨bt, 3, none⟩ = some (.int .u64 (U : Int)) := Blk.cell HK4.out 3 _ rfl
  go_wp2_with fail
  refine (CM.out _ HT4.out).mono ?_; rintro e w5 ⟨rfl, hb5⟩
  have HK5 : Hid (Blk w5 bt [.int .i64 a0, .string B, .int .i64 a2, .int .u64 (U : Int)]) := Blk.below HK4.out hb5 (by omega)
  have HB5 : Hid (Below w.heap.size w w5) := Below.trans HB4.out (hb5.mono HB4.out.size)
  have z5 := hb5.size
  clear hb5 c0 c1 c2 c3 HK4 HB4 HT4 CM
  have c0 : w5.cell? ⟨bt, 0, none⟩ = some (.int .i64 a0) := Blk.cell HK5.out 0 _ rfl
  have c1 : w5.cell? ⟨bt, 1, none⟩ = some (.string B) := Blk.cell HK5.out 1 _ rfl
  have c2 : w5.cell? ⟨bt, 2, none⟩ = some (.int .i64 a2) := Blk.cell HK5.out 2 _ rfl
  have c3 : w5.cell? ⟨bt, 3, none⟩ = some (.int .u64 (U : Int)) := Blk.cell HK5.out 3 _ rfl
  go_wp2_with fail
  refine (CR.out _).mono ?_; rintro e w6 ⟨rfl, hb6⟩
  have HB6 : Hid (Below w.heap.size w w6) := Below.trans HB5.out (hb6.mono HB5.out.size)
  clear hb6
  go_wp2_with fail
  go_ret
  exact ⟨by simp, HB6.out⟩
set_option maxHeartbeats 2000000 in
set_option maxRecDepth 100000 in
theorem way4 (a0 a2 : Int) (b n U : Nat) (w : World) (hT : Tab w) (h0 : -128 ≤ a0 ∧ a0 ≤ 127) (h2 : -128 ≤ a2 ∧ a2 ≤ 127) (hb : b < 256) (hn : n = b % 20) (hU : U < 2 ^ 64) (g0 : 1 ≤ a0) (g1 : a0 ≤ 8) (g2 : 1 ≤ n) (g3 : n ≤ 16) (g4 : ¬ 1 ≤ a2) :
    Calls Tryd.prog 10 #[.int .i8 a0, .int .u8 (b : Int), .int .i8 a2, .int .u64 (U : Int)] w fun e w' => e = .returned (.bool true) ∧ Below w.heap.size w w' := by
  have CE : Hid _ := mexamples_any
  have HT : Hid _ := hT
  have hz := hT.pos
  have e1 : (b : Int).tmod 20 = (n : Int) := by rw [Int.tmod_eq_emod_of_nonneg (by omega)]; omega
  have n20 : n < 20 := by omega
  have v1 : IntKind.u8.wrap (n : Int) = (n : Int) := by rw [IntKind.wrap_u8']; omega
  have v2 : IntKind.i64.wrap (n : Int) = n := IntWalk.i64_in _ ⟨by omega, by omega⟩
  have v3 : IntKind.i64.wrap a0 = a0 := IntWalk.i64_in _ ⟨by omega, by omega⟩
  have v4 : IntKind.i64.wrap a2 = a2 := IntWalk.i64_in _ ⟨by omega, by omega⟩
  obtain ⟨B, HB0⟩ : ∃ B, Hid (S (List.replicate n (0 : UInt8)) = B) := ⟨_, rfl⟩
  have hBs : B.size = n := by rw [← HB0.out, S_size, List.length_replicate]
  have HR : Hid (M.right a0 B.size a2 = false) := right_false (by omega)
  have CM : Hid _ := fun w (_ : Tab w) => mint_no ⟨#[107, 101, 121]⟩ B a0 a2 U w (by omega) HR.out
  have CR : Hid _ := fun w => right_any a0 B a2 U w (by omega)
  rw [HR.out] at CR
  have d0 : decide ((1 : Int) ≤ a0) = true := by rw [decide_eq_true_iff]; omega
  have d1 : decide (a0 ≤ 8) = true := by rw [decide_eq_true_iff]; omega
  have d2 : decide ((1 : Int) ≤ (n : Int)) = true := by rw [decide_eq_true_iff]; omega
  have d3 : decide ((n : Int) ≤ 16) = true := by rw [decide_eq_true_iff]; omega
  have d4 : decide ((1 : Int) ≤ a2) = false := by rw [decide_eq_false_iff_not]; omega
  clear hT h0 h2 hb hn g0 g1 g2 g3 g4
  go_enter Tryd.func10, Tryd.ntmps10
  go_wp2_with fail
  refine (CE.out _ HT.out).mono ?_; rintro e w1 ⟨rfl, hb1⟩
  obtain ⟨w2, hmk, HO0, B2, Z2⟩ := make_bytes w1 .i64 .i64 n n (Nat.le_refl _) (by omega)
  have hcv := OB.strAt HO0
  rw [HB0.out] at hcv
  have HB2 : Hid (Below w.heap.size w w2) := hb1.trans (B2.mono hb1.size)
  have zz : w.heap.size ≤ w2.heap.size := HB2.out.size
  clear hb1 B2 HO0 CE Z2
  go_wp2_with (first | refine blk_alloc rfl 37 zeroTok rfl Tryd.info_tok ?_)
  intro w3 K3 B3 Z3
  go_wp2_with (first | refine blk_store rfl 37 _ _ rfl w2.heap.size rfl [.int .i64 a0, .string B, .int .i64 a2, .int .u64 (U : Int)] rfl _ K3 rfl Tryd.size_tok rfl ?_)
  intro w4 K4 U4
  have HK4 : Hid (Blk w4 w2.heap.size [.int .i64 a0, .string B, .int .i64 a2, .int .u64 (U : Int)]) := K4
  have HB4 : Hid (Below w.heap.size w w4) := Below.trans HB2.out ((B3.mono zz).trans (U4.below zz))
  have z4 : w4.heap.size = w2.heap.size + 1 := by have := U4.size; omega
  clear K3 B3 Z3 K4 U4 HB2 hmk hcv
  generalize w2.heap.size = bt at *
  have HT4 : Hid (Tab w4) := Tab.below HT.out HB4.out hz
  have c0 : w4.cell? ⟨bt, 0, none⟩ = some (.int .i64 a0) := Blk.cell HK4.out 0 _ rfl
  have c1 : w4.cell? ⟨bt, 1, none⟩ = some (.string B) := Blk.cell HK4.out 1 _ rfl
  have c2 : w4.cell? ⟨bt, 2, none⟩ = some (.int .i64 a2) := Blk.cell HK4.out 2 _ rfl
  have c3 : w4.cell? ⟨bt, 3, none⟩ = some (.int .u64 (U : Int)) := Blk.cell HK4.out 3 _ rfl
  go_wp2_with fail
  refine (CM.out _ HT4.out).mono ?_; rintro e w5 ⟨rfl, hb5⟩
  have HK5 : Hid (Blk w5 bt [.int .i64 a0, .string B, .int .i64 a2, .int .u64 (U : Int)]) := Blk.below HK4.out hb5 (by omega)
  have HB5 : Hid (Below w.heap.size w w5) := Below.trans HB4.out (hb5.mono HB4.out.size)
  have z5 := hb5.size
  clear hb5 c0 c1 c2 c3 HK4 HB4 HT4 CM
  have c0 : w5.cell? ⟨bt, 0, none⟩ = some (.int .i64 a0) := Blk.cell HK5.out 0 _ rfl
  have c1 : w5.cell? ⟨bt, 1, none⟩ = some (.string B) := Blk.cell HK5.out 1 _ rfl
  have c2 : w5.cell? ⟨bt, 2, none⟩ = some (.int .i64 a2) := Blk.cell HK5.out 2 _ rfl
  have c3 : w5.cell? ⟨bt, 3, none⟩ = some (.int .u64 (U : Int)) := Blk.cell HK5.out 3 _ rfl
  go_wp2_with fail
  refine (CR.out _).mono ?_; rintro e w6 ⟨rfl, hb6⟩
  have HB6 : Hid (Below w.heap.size w w6) := Below.trans HB5.out (hb6.mono HB5.out.size)
  clear hb6
  go_wp2_with fail
  go_ret
  exact ⟨by simp, HB6.out⟩
set_option maxHeartbeats 2000000 in
set_option maxRecDepth 100000 in
theorem way5 (a0 a2 : Int) (b n U : Nat) (w : World) (hT : Tab w) (h0 : -128 ≤ a0 ∧ a0 ≤ 127) (h2 : -128 ≤ a2 ∧ a2 ≤ 127) (hb : b < 256) (hn : n = b % 20) (hU : U < 2 ^ 64) (g0 : 1 ≤ a0) (g1 : a0 ≤ 8) (g2 : 1 ≤ n) (g3 : n ≤ 16) (g4 : 1 ≤ a2) (g5 : ¬ a2 ≤ 3) :
    Calls Tryd.prog 10 #[.int .i8 a0, .int .u8 (b : Int), .int .i8 a2, .int .u64 (U : Int)] w fun e w' => e = .returned (.bool true) ∧ Below w.heap.size w w' := by
  have CE : Hid _ := mexamples_any
  have HT : Hid _ := hT
  have hz := hT.pos
  have e1 : (b : Int).tmod 20 = (n : Int) := by rw [Int.tmod_eq_emod_of_nonneg (by omega)]; omega
  have n20 : n < 20 := by omega
  have v1 : IntKind.u8.wrap (n : Int) = (n : Int) := by rw [IntKind.wrap_u8']; omega
  have v2 : IntKind.i64.wrap (n : Int) = n := IntWalk.i64_in _ ⟨by omega, by omega⟩
  have v3 : IntKind.i64.wrap a0 = a0 := IntWalk.i64_in _ ⟨by omega, by omega⟩
  have v4 : IntKind.i64.wrap a2 = a2 := IntWalk.i64_in _ ⟨by omega, by omega⟩
  obtain ⟨B, HB0⟩ : ∃ B, Hid (S (List.replicate n (0 : UInt8)) = B) := ⟨_, rfl⟩
  have hBs : B.size = n := by rw [← HB0.out, S_size, List.length_replicate]
  have HR : Hid (M.right a0 B.size a2 = false) := right_false (by omega)
  have CM : Hid _ := fun w (_ : Tab w) => mint_no ⟨#[107, 101, 121]⟩ B a0 a2 U w (by omega) HR.out
  have CR : Hid _ := fun w => right_any a0 B a2 U w (by omega)
  rw [HR.out] at CR
  have d0 : decide ((1 : Int) ≤ a0) = true := by rw [decide_eq_true_iff]; omega
  have d1 : decide (a0 ≤ 8) = true := by rw [decide_eq_true_iff]; omega
  have d2 : decide ((1 : Int) ≤ (n : Int)) = true := by rw [decide_eq_true_iff]; omega
  have d3 : decide ((n : Int) ≤ 16) = true := by rw [decide_eq_true_iff]; omega
  have d4 : decide ((1 : Int) ≤ a2) = true := by rw [decide_eq_true_iff]; omega
  have d5 : decide (a2 ≤ 3) = false := by rw [decide_eq_false_iff_not]; omega
  clear hT h0 h2 hb hn g0 g1 g2 g3 g4 g5
  go_enter Tryd.func10, Tryd.ntmps10
  go_wp2_with fail
  refine (CE.out _ HT.out).mono ?_; rintro e w1 ⟨rfl, hb1⟩
  obtain ⟨w2, hmk, HO0, B2, Z2⟩ := make_bytes w1 .i64 .i64 n n (Nat.le_refl _) (by omega)
  have hcv := OB.strAt HO0
  rw [HB0.out] at hcv
  have HB2 : Hid (Below w.heap.size w w2) := hb1.trans (B2.mono hb1.size)
  have zz : w.heap.size ≤ w2.heap.size := HB2.out.size
  clear hb1 B2 HO0 CE Z2
  go_wp2_with (first | refine blk_alloc rfl 37 zeroTok rfl Tryd.info_tok ?_)
  intro w3 K3 B3 Z3
  go_wp2_with (first | refine blk_store rfl 37 _ _ rfl w2.heap.size rfl [.int .i64 a0, .string B, .int .i64 a2, .int .u64 (U : Int)] rfl _ K3 rfl Tryd.size_tok rfl ?_)
  intro w4 K4 U4
  have HK4 : Hid (Blk w4 w2.heap.size [.int .i64 a0, .string B, .int .i64 a2, .int .u64 (U : Int)]) := K4
  have HB4 : Hid (Below w.heap.size w w4) := Below.trans HB2.out ((B3.mono zz).trans (U4.below zz))
  have z4 : w4.heap.size = w2.heap.size + 1 := by have := U4.size; omega
  clear K3 B3 Z3 K4 U4 HB2 hmk hcv
  generalize w2.heap.size = bt at *
  have HT4 : Hid (Tab w4) := Tab.below HT.out HB4.out hz
  have c0 : w4.cell? ⟨bt, 0, none⟩ = some (.int .i64 a0) := Blk.cell HK4.out 0 _ rfl
  have c1 : w4.cell? ⟨bt, 1, none⟩ = some (.string B) := Blk.cell HK4.out 1 _ rfl
  have c2 : w4.cell? ⟨bt, 2, none⟩ = some (.int .i64 a2) := Blk.cell HK4.out 2 _ rfl
  have c3 : w4.cell? ⟨bt, 3, none⟩ = some (.int .u64 (U : Int)) := Blk.cell HK4.out 3 _ rfl
  go_wp2_with fail
  refine (CM.out _ HT4.out).mono ?_; rintro e w5 ⟨rfl, hb5⟩
  have HK5 : Hid (Blk w5 bt [.int .i64 a0, .string B, .int .i64 a2, .int .u64 (U : Int)]) := Blk.below HK4.out hb5 (by omega)
  have HB5 : Hid (Below w.heap.size w w5) := Below.trans HB4.out (hb5.mono HB4.out.size)
  have z5 := hb5.size
  clear hb5 c0 c1 c2 c3 HK4 HB4 HT4 CM
  have c0 : w5.cell? ⟨bt, 0, none⟩ = some (.int .i64 a0) := Blk.cell HK5.out 0 _ rfl
  have c1 : w5.cell? ⟨bt, 1, none⟩ = some (.string B) := Blk.cell HK5.out 1 _ rfl
  have c2 : w5.cell? ⟨bt, 2, none⟩ = some (.int .i64 a2) := Blk.cell HK5.out 2 _ rfl
  have c3 : w5.cell? ⟨bt, 3, none⟩ = some (.int .u64 (U : Int)) := Blk.cell HK5.out 3 _ rfl
  go_wp2_with fail
  refine (CR.out _).mono ?_; rintro e w6 ⟨rfl, hb6⟩
  have HB6 : Hid (Below w.heap.size w w6) := Below.trans HB5.out (hb6.mono HB5.out.size)
  clear hb6
  go_wp2_with fail
  go_ret
  exact ⟨by simp, HB6.out⟩
set_option maxHeartbeats 2000000 in
set_option maxRecDepth 100000 in
theorem way6 (a0 a2 : Int) (b n U : Nat) (w : World) (hT : Tab w) (h0 : -128 ≤ a0 ∧ a0 ≤ 127) (h2 : -128 ≤ a2 ∧ a2 ≤ 127) (hb : b < 256) (hn : n = b % 20) (hU : U < 2 ^ 64) (g0 : 1 ≤ a0) (g1 : a0 ≤ 8) (g2 : 1 ≤ n) (g3 : n ≤ 16) (g4 : 1 ≤ a2) (g5 : a2 ≤ 3) :
    Calls Tryd.prog 10 #[.int .i8 a0, .int .u8 (b : Int), .int .i8 a2, .int .u64 (U : Int)] w fun e w' => e = .returned (.bool true) ∧ Below w.heap.size w w' := by
  have CE : Hid _ := mexamples_any
  have HT : Hid _ := hT
  have hz := hT.pos
  have e1 : (b : Int).tmod 20 = (n : Int) := by rw [Int.tmod_eq_emod_of_nonneg (by omega)]; omega
  have n20 : n < 20 := by omega
  have v1 : IntKind.u8.wrap (n : Int) = (n : Int) := by rw [IntKind.wrap_u8']; omega
  have v2 : IntKind.i64.wrap (n : Int) = n := IntWalk.i64_in _ ⟨by omega, by omega⟩
  have v3 : IntKind.i64.wrap a0 = a0 := IntWalk.i64_in _ ⟨by omega, by omega⟩
  have v4 : IntKind.i64.wrap a2 = a2 := IntWalk.i64_in _ ⟨by omega, by omega⟩
  obtain ⟨B, HB0⟩ : ∃ B, Hid (S (List.replicate n (0 : UInt8)) = B) := ⟨_, rfl⟩
  have hBs : B.size = n := by rw [← HB0.out, S_size, List.length_replicate]
  have HR : Hid (M.right a0 B.size a2 = true) := right_true g0 g1 (by omega) (by omega) g4 g5
  obtain ⟨t0, ht0⟩ : ∃ t : Nat, a0 = (t : Int) := ⟨a0.toNat, by omega⟩
  obtain ⟨r0, hr0⟩ : ∃ r : Nat, a2 = (r : Int) := ⟨a2.toNat, by omega⟩
  have CM0 := fun w h => mint_yes ⟨#[107, 101, 121]⟩ B t0 r0 U w (by decide) (by omega) (by omega) (by omega) (by omega) (by omega) (by omega) hU h
  rw [← ht0, ← hr0] at CM0
  have hne : (S (M.plain t0 B.data.toList r0 U ++ M.hmac (⟨#[107, 101, 121]⟩ : ByteArray).data.toList (M.plain t0 B.data.toList r0 U))).size ≠ 0 := by
    rw [S_size, List.length_append, M.hmac_length]; omega
  generalize S (M.plain t0 B.data.toList r0 U ++ M.hmac (⟨#[107, 101, 121]⟩ : ByteArray).data.toList (M.plain t0 B.data.toList r0 U)) = sS at *
  have hE : sS.toList.isEmpty = false := empty_no sS hne
  have CM : Hid _ := CM0
  clear CM0 ht0 hr0 hne
  have CR : Hid _ := fun w => right_any a0 B a2 U w (by omega)
  rw [HR.out] at CR
  have d0 : decide ((1 : Int) ≤ a0) = true := by rw [decide_eq_true_iff]; omega
  have d1 : decide (a0 ≤ 8) = true := by rw [decide_eq_true_iff]; omega
  have d2 : decide ((1 : Int) ≤ (n : Int)) = true := by rw [decide_eq_true_iff]; omega
  have d3 : decide ((n : Int) ≤ 16) = true := by rw [decide_eq_true_iff]; omega
  have d4 : decide ((1 : Int) ≤ a2) = true := by rw [decide_eq_true_iff]; omega
  have d5 : decide (a2 ≤ 3) = true := by rw [decide_eq_true_iff]; omega
  clear hT h0 h2 hb hn g0 g1 g2 g3 g4 g5
  go_enter Tryd.func10, Tryd.ntmps10
  go_wp2_with fail
  refine (CE.out _ HT.out).mono ?_; rintro e w1 ⟨rfl, hb1⟩
  obtain ⟨w2, hmk, HO0, B2, Z2⟩ := make_bytes w1 .i64 .i64 n n (Nat.le_refl _) (by omega)
  have hcv := OB.strAt HO0
  rw [HB0.out] at hcv
  have HB2 : Hid (Below w.heap.size w w2) := hb1.trans (B2.mono hb1.size)
  have zz : w.heap.size ≤ w2.heap.size := HB2.out.size
  clear hb1 B2 HO0 CE Z2
  go_wp2_with (first | refine blk_alloc rfl 37 zeroTok rfl Tryd.info_tok ?_)
  intro w3 K3 B3 Z3
  go_wp2_with (first | refine blk_store rfl 37 _ _ rfl w2.heap.size rfl [.int .i64 a0, .string B, .int .i64 a2, .int .u64 (U : Int)] rfl _ K3 rfl Tryd.size_tok rfl ?_)
  intro w4 K4 U4
  have HK4 : Hid (Blk w4 w2.heap.size [.int .i64 a0, .string B, .int .i64 a2, .int .u64 (U : Int)]) := K4
  have HB4 : Hid (Below w.heap.size w w4) := Below.trans HB2.out ((B3.mono zz).trans (U4.below zz))
  have z4 : w4.heap.size = w2.heap.size + 1 := by have := U4.size; omega
  clear K3 B3 Z3 K4 U4 HB2 hmk hcv
  generalize w2.heap.size = bt at *
  have HT4 : Hid (Tab w4) := Tab.below HT.out HB4.out hz
  have c0 : w4.cell? ⟨bt, 0, none⟩ = some (.int .i64 a0) := Blk.cell HK4.out 0 _ rfl
  have c1 : w4.cell? ⟨bt, 1, none⟩ = some (.string B) := Blk.cell HK4.out 1 _ rfl
  have c2 : w4.cell? ⟨bt, 2, none⟩ = some (.int .i64 a2) := Blk.cell HK4.out 2 _ rfl
  have c3 : w4.cell? ⟨bt, 3, none⟩ = some (.int .u64 (U : Int)) := Blk.cell HK4.out 3 _ rfl
  go_wp2_with fail
  refine (CM.out _ HT4.out).mono ?_; rintro e w5 ⟨rfl, hb5⟩
  have HK5 : Hid (Blk w5 bt [.int .i64 a0, .string B, .int .i64 a2, .int .u64 (U : Int)]) := Blk.below HK4.out hb5 (by omega)
  have HB5 : Hid (Below w.heap.size w w5) := Below.trans HB4.out (hb5.mono HB4.out.size)
  have z5 := hb5.size
  clear hb5 c0 c1 c2 c3 HK4 HB4 HT4 CM
  have c0 : w5.cell? ⟨bt, 0, none⟩ = some (.int .i64 a0) := Blk.cell HK5.out 0 _ rfl
  have c1 : w5.cell? ⟨bt, 1, none⟩ = some (.string B) := Blk.cell HK5.out 1 _ rfl
  have c2 : w5.cell? ⟨bt, 2, none⟩ = some (.int .i64 a2) := Blk.cell HK5.out 2 _ rfl
  have c3 : w5.cell? ⟨bt, 3, none⟩ = some (.int .u64 (U : Int)) := Blk.cell HK5.out 3 _ rfl
  go_wp2_with fail
  refine (CR.out _).mono ?_; rintro e w6 ⟨rfl, hb6⟩
  have HB6 : Hid (Below w.heap.size w w6) := Below.trans HB5.out (hb6.mono HB5.out.size)
  clear hb6
  go_wp2_with fail
  go_ret
  exact ⟨by simp, HB6.out⟩
theorem walk (a0 : Int) (a1 : Int) (a2 : Int) (a3 : Int) (w0 : (Lit.int .i8 a0).wf = true) (w1 : (Lit.int .u8 a1).wf = true) (w2 : (Lit.int .i8 a2).wf = true) (w3 : (Lit.int .u64 a3).wf = true) (w : World) (hT : Tab w) :
    Calls Tryd.prog 10 #[.int .i8 a0, .int .u8 a1, .int .i8 a2, .int .u64 a3] w fun e w' => e = .returned (.bool true) ∧ Below w.heap.size w w' := by
  have h0 : -128 ≤ a0 ∧ a0 ≤ 127 := by simpa [Lit.wf, IntKind.min, IntKind.max, IntKind.signed, IntKind.bits] using w0
  have h1 : 0 ≤ a1 ∧ a1 ≤ 255 := by simpa [Lit.wf, IntKind.min, IntKind.max, IntKind.signed, IntKind.bits] using w1
  have h2 : -128 ≤ a2 ∧ a2 ≤ 127 := by simpa [Lit.wf, IntKind.min, IntKind.max, IntKind.signed, IntKind.bits] using w2
  have h3 : 0 ≤ a3 ∧ a3 ≤ 18446744073709551615 := by simpa [Lit.wf, IntKind.min, IntKind.max, IntKind.signed, IntKind.bits] using w3
  obtain ⟨b, rfl⟩ : ∃ b : Nat, a1 = (b : Int) := ⟨a1.toNat, by omega⟩
  obtain ⟨U, rfl⟩ : ∃ U : Nat, a3 = (U : Int) := ⟨a3.toNat, by omega⟩
  have hU : U < 2 ^ 64 := by omega
  obtain ⟨n, hn⟩ : ∃ n, n = b % 20 := ⟨_, rfl⟩
  by_cases g0 : 1 ≤ a0
  case neg => exact way0 a0 a2 b n U w hT h0 h2 (by omega) hn hU g0
  by_cases g1 : a0 ≤ 8
  case neg => exact way1 a0 a2 b n U w hT h0 h2 (by omega) hn hU g0 g1
  by_cases g2 : 1 ≤ n
  case neg => exact way2 a0 a2 b n U w hT h0 h2 (by omega) hn hU g0 g1 g2
  by_cases g3 : n ≤ 16
  case neg => exact way3 a0 a2 b n U w hT h0 h2 (by omega) hn hU g0 g1 g2 g3
  by_cases g4 : 1 ≤ a2
  case neg => exact way4 a0 a2 b n U w hT h0 h2 (by omega) hn hU g0 g1 g2 g3 g4
  by_cases g5 : a2 ≤ 3
  case neg => exact way5 a0 a2 b n U w hT h0 h2 (by omega) hn hU g0 g1 g2 g3 g4 g5
  exact way6 a0 a2 b n U w hT h0 h2 (by omega) hn hU g0 g1 g2 g3 g4 g5


set_option maxRecDepth 100000 in
theorem lifted (os : Os) (started : os.Started) (H : Type) (enc : TypeId × Value → H) (F : Stop.Interp) :
    ReturnsInHanded {} Tryd.checked os 10 .any ((OpenSpec.ofChange Rows.macBoundsSpec).preRow enc Tryd.prog Tryd.f10 Rows.macBoundsRow.domain false Rows.macBoundsRow.laid) (((OpenSpec.ofChange Rows.macBoundsSpec).at F).post enc Tryd.prog Tryd.f10 false true false false) := by
  have hx : ∃ places, DataW.whole enc Tryd.prog ((laidWorld os).forCall (fun _ _ => 0) ⟨#[], #[.int .i8 0, .int .u8 0, .int .i8 0, .int .u64 0], []⟩).memory Tryd.f10.params.toList Rows.macBoundsSpec.vars false #[Value.int .i8 0, Value.int .u8 0, Value.int .i8 0, Value.int .u64 0].toList 8 = some ([.lit (.int .i8 0), .lit (.int .u8 0), .lit (.int .i8 0), .lit (.int .u64 0)], [], places) := ⟨[], by kernel_rfl⟩
  obtain ⟨places, hx⟩ := hx
  refine returnsInHanded_of_row (C := Tryd.checked) (s := OpenSpec.ofChange Rows.macBoundsSpec) own started (by kernel_rfl) Tryd.func10
    (witness_row_at (enc := enc) (C := Tryd.checked) false (laidWorld os) #[.int .i8 0, .int .u8 0, .int .i8 0, .int .u64 0] rfl (by kernel_rfl) (by kernel_rfl) (by kernel_rfl)
      (OpenSpec.preRow_of_cond 8 hx (by kernel_rfl) (fun k hk => by cases hk) (by kernel_rfl) (laidMet_of_run' 8 (by kernel_rfl) (by kernel_rfl)))) ?_
  intro W base args ds gs before hval0 hW hcnd hcond hsz0 hL _ _
  have hT : Tab W := tab_of hL
  have hval : ∀ (j : Nat) t v, Tryd.f10.params[j]? = some t → args[j]? = some v → Value.okWide Tryd.prog W .any base t v := hval0
  have hW' := hW
  obtain ⟨p, q, hA0, hV, rfl, hfz, hnd⟩ := hW
  have hA : DataW.TrodAll enc Tryd.prog W 0 (fun _ => true) true Tryd.f10.params.toList args.toList ds p := hA0
  have hsz : (DataW.weightsEach Tryd.prog (Tryd.f10.params.toList ++ Rows.macBoundsSpec.plain.varTypes Tryd.prog) (ds ++ gs)).all (· ≤ reachBytes) = true := hsz0
  rw [Tryd.params10] at hA hval hsz
  obtain ⟨rfl, rfl⟩ := trodVars_none hV
  have hAk := hA
  have hlt : ∀ x ∈ p, x.block < W.heap.size := fun x hx => by simpa using hW'.lt x (List.mem_append.2 (.inl hx))
  obtain ⟨v0, vs0, d0, ds0, p0, q0, hargs, rfl, rfl, h0, r0⟩ := trodAll_cons hA
  obtain ⟨v1, vs1, d1, ds1, p1, q1, rfl, rfl, rfl, h1, r1⟩ := trodAll_cons r0
  obtain ⟨v2, vs2, d2, ds2, p2, q2, rfl, rfl, rfl, h2, r2⟩ := trodAll_cons r1
  obtain ⟨v3, vs3, d3, ds3, p3, q3, rfl, rfl, rfl, h3, r3⟩ := trodAll_cons r2
  obtain ⟨rfl, rfl, rfl⟩ := trodAll_nil r3
  obtain rfl : args = #[v0, v1, v2, v3] := by cases args; simp_all
  obtain ⟨a0, rfl, rfl, rfl, w0⟩ := open_int Tryd.underlying60 (hval 0 60 v0 rfl rfl) h0
  obtain ⟨a1, rfl, rfl, rfl, w1⟩ := open_int Tryd.underlying5 (hval 1 5 v1 rfl rfl) h1
  obtain ⟨a2, rfl, rfl, rfl, w2⟩ := open_int Tryd.underlying60 (hval 2 60 v2 rfl rfl) h2
  obtain ⟨a3, rfl, rfl, rfl, w3⟩ := open_int Tryd.underlying27 (hval 3 27 v3 rfl rfl) h3
  clear hA0 hval0 hsz0
  refine (walk a0 a1 a2 a3 w0 w1 w2 w3 W hT).mono fun e W' ⟨he, hg⟩ => ?_
  subst he
  exact ⟨_, rfl, _, _, _, [], _, [], hW', (trodAll_cons_mk (shut_bool Tryd.underlying4 _) trodAll_mk0), trodAll_below laidOut hg _ _ _ _ (by kernel_rfl) hAk hlt, rfl, hg.frame _, fun h => by cases h⟩

theorem over : Rows.macBoundsRow.holds Tryd.pinned (OpenSpec.ofChange Rows.macBoundsSpec) :=
  OpenClaim.holds_of_cond 10 Tryd.f10 rfl rfl rfl rfl rfl rfl rfl ⟨rfl, rfl, rfl, rfl, rfl⟩ rfl rfl rfl rfl rfl (by kernel_rfl) Tryd.func10 (by kernel_rfl)
    (of_decide_eq_true (by kernel_rfl)) (by unfold Func.isWrapper; first | (rw [if_pos (by decide +kernel)]; kernel_rfl) | (rw [if_neg (by decide +kernel)]; exact ⟨rfl, rfl⟩))
    (fun os started H enc _ F => by rw [OpenClaim.pre_eq_preRow]; exact lifted os started H enc F)

set_option maxRecDepth 100000 in
theorem plain (f : FuncId) (fn : Func) (hf : Tryd.pinned.checked.prog.funcNamed "tenement/tenementlaw04.MacBounds" = some f) (hfn : Tryd.pinned.checked.prog.funcs[f]? = some fn) :
    false = Tryd.pinned.checked.prog.looks [] ∧ ∀ (j : Nat) t, fn.params[j]? = some t → Tryd.pinned.checked.prog.wantsStandIn t = false := by
  obtain rfl : f = 10 := Option.some.inj ((show Tryd.prog.funcNamed "tenement/tenementlaw04.MacBounds" = some 10 by kernel_rfl).symm.trans hf) |>.symm
  obtain rfl : fn = Tryd.f10 := (Option.some.inj (Tryd.func10.symm.trans hfn)).symm
  refine ⟨by kernel_rfl, fun j t ht => ?_⟩
  rw [Tryd.params10] at ht
  have hm := Array.mem_of_getElem? ht
  simp only [List.mem_toArray, List.mem_cons, List.not_mem_nil, or_false] at hm
  rcases hm with rfl | rfl | rfl | rfl
  all_goals first | exact (show Tryd.prog.wantsStandIn 60 = false by kernel_rfl) | exact (show Tryd.prog.wantsStandIn 5 = false by kernel_rfl) | exact (show Tryd.prog.wantsStandIn 27 = false by kernel_rfl)

/-- the statement -/
theorem proved : Rows.MacBoundsCardSaid :=
  Claim7.holds_tied_plain_at .later [] _ _ _ _ over (fun _ h => by cases h) (by kernel_rfl) (fun _ h => by cases h) macBounds_row_tie rfl ⟨rfl, rfl⟩ (by kernel_rfl) rfl plain (by kernel_rfl)
#print axioms proved
end Go.Proofs.YtlodahlinncpcaaDoor.macBounds
