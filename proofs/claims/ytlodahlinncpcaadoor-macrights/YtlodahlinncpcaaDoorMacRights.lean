/-
  For every token that is right, every tenant and every bucket: it may do just what it has the right to, for its own tenant, in its own bucket (the law MacRights). No conditions.
-/
import Derived.Test.YtlodahlinncpcaaDoorFrameLaid
import Derived.Test.YtlodahlinncpcaaDoorMacEx
import Derived.Test.YtlodahlinncpcaaDoorMacTok
import Derived.Test.YtlodahlinncpcaaDoorFramePass
namespace Go.Proofs.YtlodahlinncpcaaDoor.macRights
open Go.ChangeShapes Go.WideShapes Go.ChangeAt Go.RowKit
open Go.Proofs.YtlodahlinncpcaaDoor.Mc
open Go.ChangeMaps (open_string shut_string)
set_option linter.unusedVariables false
set_option linter.unusedSimpArgs false

theorem and_11 : (bits .and .i64 1 1 != 0) = true := by decide
theorem and_12 : (bits .and .i64 1 2 != 0) = false := by decide
theorem and_21 : (bits .and .i64 2 1 != 0) = false := by decide
theorem and_22 : (bits .and .i64 2 2 != 0) = true := by decide
theorem and_31 : (bits .and .i64 3 1 != 0) = true := by decide
theorem and_32 : (bits .and .i64 3 2 != 0) = true := by decide
theorem may_other (T : Int) (B : ByteArray) (R U : Int) (T' : Int) (B' : ByteArray) (r : Int) (w : World) (h1 : (r != 1 && r != 2) = false) (z : Bool) (hz : (bits .and .i64 R r != 0) = z) (hne : ¬ (T = T' ∧ B = B')) :
    Calls Tryd.prog 36 #[.agg #[.int .i64 T, .string B, .int .i64 R, .int .u64 U], .int .i64 T', .string B', .int .i64 r] w fun e w' => e = .returned (.bool false) ∧ Below w.heap.size w w' := by
  have h := may_core T B R U T' B' r w h1 z hz
  have e : (decide (T = T') && decide (B = B') && z) = false := by
    by_cases hT : T = T'
    · have hB : ¬ B = B' := fun hb => hne ⟨hT, hb⟩
      simp [hB]
    · simp [hT]
  rw [e] at h
  exact h
theorem may_self (T : Int) (B : ByteArray) (R U : Int) (r : Int) (w : World) (h1 : (r != 1 && r != 2) = false) (z : Bool) (hz : (bits .and .i64 R r != 0) = z) :
    Calls Tryd.prog 36 #[.agg #[.int .i64 T, .string B, .int .i64 R, .int .u64 U], .int .i64 T, .string B, .int .i64 r] w fun e w' => e = .returned (.bool z) ∧ Below w.heap.size w w' := by
  have h := may_core T B R U T B r w h1 z hz
  have e : (decide (T = T) && decide (B = B) && z) = z := by simp
  rw [e] at h
  exact h
set_option maxHeartbeats 2000000 in
set_option maxRecDepth 100000 in
theorem way1tenant (T : Int) (B : ByteArray) (R : Int) (U x u : Nat) (Bk : ByteArray) (o : Bool) (a1 : Int) (a2 : ByteArray) (w : World) (hT : Tab w)
    (CT0 : ∀ w, Calls Tryd.prog 27 #[.agg #[.int .i64 T, .string B, .int .i64 R, .int .u64 (U : Int), .bool true]] w fun e w' => e = .returned (.agg #[.int .i64 (x : Int), .string Bk, .int .i64 1, .int .u64 (u : Int)]) ∧ Below w.heap.size w w') (hne : ¬ a1 = (x : Int)) :
    Calls Tryd.prog 9 #[.agg #[.int .i64 T, .string B, .int .i64 R, .int .u64 (U : Int), .bool o], .int .i64 a1, .string a2] w fun e w' => e = .returned (.bool true) ∧ Below w.heap.size w w' := by
  have CE : Hid _ := mexamples_any
  have CT : Hid _ := CT0
  have HT : Hid _ := hT
  have hz := hT.pos
  have M1 : Hid _ := fun w => may_self (x : Int) Bk 1 (u : Int) 1 w rfl true and_11
  have M2 : Hid _ := fun w => may_self (x : Int) Bk 1 (u : Int) 2 w rfl false and_12
  have M3 : Hid _ := fun w => may_not (x : Int) Bk 1 (u : Int) (x : Int) Bk 3 w rfl rfl
  have M0 : Hid _ := fun w => may_not (x : Int) Bk 1 (u : Int) (x : Int) Bk 0 w rfl rfl
  have N1 : Hid _ := fun w => may_other (x : Int) Bk 1 (u : Int) a1 a2 1 w rfl true and_11 (fun h => hne h.1.symm)
  have N2 : Hid _ := fun w => may_other (x : Int) Bk 1 (u : Int) a1 a2 2 w rfl false and_12 (fun h => hne h.1.symm)
  have d1 : (a1 != (x : Int)) = true := by rw [bne_iff_ne]; exact hne
  clear hne
  clear hT CT0
  go_enter Tryd.func9, Tryd.ntmps9
  go_wp2_with (first | refine blk_box rfl 39 _ rfl [.int .i64 T, .string B, .int .i64 R, .int .u64 (U : Int), .bool o] rfl ?_)
  intro w1 K1 B1 Z1
  have HT1 : Hid (Tab w1) := Tab.below HT.out B1 hz
  go_wp2_with fail
  refine (CE.out _ HT1.out).mono ?_; rintro e w2 ⟨rfl, hb2⟩
  have K2 := K1.below hb2 (by omega)
  have HB2 : Hid (Below w.heap.size w w2) := B1.trans (hb2.mono (by omega))
  have z2 := hb2.size
  have p0 := Blk.cell K2 0 _ rfl
  have p1 := Blk.cell K2 1 _ rfl
  have p2 := Blk.cell K2 2 _ rfl
  have p3 := Blk.cell K2 3 _ rfl
  have p4 := Blk.cell K2 4 _ rfl
  have q4 := Blk.free K2 4 (by simp)
  have HB3 : Hid (Below w.heap.size w (w2.setCell ⟨w.heap.size, 4, none⟩ (.bool true))) := Below.setCell HB2.out (Nat.le_refl _) _
  have z3 : (w2.setCell ⟨w.heap.size, 4, none⟩ (.bool true)).heap.size = w2.heap.size := by simp [World.setCell]
  clear K1 B1 hb2 K2 HT1 CE
  go_wp2_with fail
  refine (CT.out _).mono ?_; rintro e w4 ⟨rfl, hb4⟩
  have HB4 : Hid (Below w.heap.size w w4) := Below.trans HB3.out (hb4.mono (by rw [z3]; omega))
  have z4 := hb4.size
  clear hb4 p0 p1 p2 p3 p4 q4 HB3 CT
  go_wp2_with (first | refine blk_alloc rfl 37 zeroTok rfl Tryd.info_tok ?_)
  intro w5 K5 B5 Z5
  go_wp2_with (first | refine blk_store rfl 37 _ _ rfl w4.heap.size rfl [.int .i64 (x : Int), .string Bk, .int .i64 1, .int .u64 (u : Int)] rfl _ K5 rfl Tryd.size_tok rfl ?_)
  intro w6 K6 U6
  have zz : w.heap.size ≤ w4.heap.size := HB4.out.size
  have HK6 : Hid (Blk w6 w4.heap.size [.int .i64 (x : Int), .string Bk, .int .i64 1, .int .u64 (u : Int)]) := K6
  have HB6 : Hid (Below w.heap.size w w6) := Below.trans HB4.out ((B5.mono zz).trans (U6.below zz))
  have z6 : w6.heap.size = w4.heap.size + 1 := by have := U6.size; omega
  clear K5 B5 Z5 K6 U6 HB4 z3 z4 z2 HB2 Z1
  generalize w4.heap.size = bt at *
  have c0 : w6.cell? ⟨bt, 0, none⟩ = some (.int .i64 (x : Int)) := Blk.cell HK6.out 0 _ rfl
  have c1 : w6.cell? ⟨bt, 1, none⟩ = some (.string Bk) := Blk.cell HK6.out 1 _ rfl
  have c2 : w6.cell? ⟨bt, 2, none⟩ = some (.int .i64 1) := Blk.cell HK6.out 2 _ rfl
  have c3 : w6.cell? ⟨bt, 3, none⟩ = some (.int .u64 (u : Int)) := Blk.cell HK6.out 3 _ rfl
  go_wp2_with fail
  refine (M1.out _).mono ?_; rintro e w7 ⟨rfl, hb7⟩
  have HK7 : Hid (Blk w7 bt [.int .i64 (x : Int), .string Bk, .int .i64 1, .int .u64 (u : Int)]) := Blk.below HK6.out hb7 (by omega)
  have HB7 : Hid (Below w.heap.size w w7) := Below.trans HB6.out (hb7.mono HB6.out.size)
  have z7 := hb7.size
  clear hb7 c0 c1 c2 c3 HK6 HB6
  have c0 : w7.cell? ⟨bt, 0, none⟩ = some (.int .i64 (x : Int)) := Blk.cell HK7.out 0 _ rfl
  have c1 : w7.cell? ⟨bt, 1, none⟩ = some (.string Bk) := Blk.cell HK7.out 1 _ rfl
  have c2 : w7.cell? ⟨bt, 2, none⟩ = some (.int .i64 1) := Blk.cell HK7.out 2 _ rfl
  have c3 : w7.cell? ⟨bt, 3, none⟩ = some (.int .u64 (u : Int)) := Blk.cell HK7.out 3 _ rfl
  go_wp2_with fail
  refine (M2.out _).mono ?_; rintro e w8 ⟨rfl, hb8⟩
  have HK8 : Hid (Blk w8 bt [.int .i64 (x : Int), .string Bk, .int .i64 1, .int .u64 (u : Int)]) := Blk.below HK7.out hb8 (by omega)
  have HB8 : Hid (Below w.heap.size w w8) := Below.trans HB7.out (hb8.mono HB7.out.size)
  have z8 := hb8.size
  clear hb8 c0 c1 c2 c3 HK7 HB7
  have c0 : w8.cell? ⟨bt, 0, none⟩ = some (.int .i64 (x : Int)) := Blk.cell HK8.out 0 _ rfl
  have c1 : w8.cell? ⟨bt, 1, none⟩ = some (.string Bk) := Blk.cell HK8.out 1 _ rfl
  have c2 : w8.cell? ⟨bt, 2, none⟩ = some (.int .i64 1) := Blk.cell HK8.out 2 _ rfl
  have c3 : w8.cell? ⟨bt, 3, none⟩ = some (.int .u64 (u : Int)) := Blk.cell HK8.out 3 _ rfl
  go_wp2_with fail
  refine (M3.out _).mono ?_; rintro e w9 ⟨rfl, hb9⟩
  have HK9 : Hid (Blk w9 bt [.int .i64 (x : Int), .string Bk, .int .i64 1, .int .u64 (u : Int)]) := Blk.below HK8.out hb9 (by omega)
  have HB9 : Hid (Below w.heap.size w w9) := Below.trans HB8.out (hb9.mono HB8.out.size)
  have z9 := hb9.size
  clear hb9 c0 c1 c2 c3 HK8 HB8
  have c0 : w9.cell? ⟨bt, 0, none⟩ = some (.int .i64 (x : Int)) := Blk.cell HK9.out 0 _ rfl
  have c1 : w9.cell? ⟨bt, 1, none⟩ = some (.string Bk) := Blk.cell HK9.out 1 _ rfl
  have c2 : w9.cell? ⟨bt, 2, none⟩ = some (.int .i64 1) := Blk.cell HK9.out 2 _ rfl
  have c3 : w9.cell? ⟨bt, 3, none⟩ = some (.int .u64 (u : Int)) := Blk.cell HK9.out 3 _ rfl
  go_wp2_with fail
  refine (M0.out _).mono ?_; rintro e w10 ⟨rfl, hb10⟩
  have HK10 : Hid (Blk w10 bt [.int .i64 (x : Int), .string Bk, .int .i64 1, .int .u64 (u : Int)]) := Blk.below HK9.out hb10 (by omega)
  have HB10 : Hid (Below w.heap.size w w10) := Below.trans HB9.out (hb10.mono HB9.out.size)
  have z10 := hb10.size
  clear hb10 c0 c1 c2 c3 HK9 HB9
  have c0 : w10.cell? ⟨bt, 0, none⟩ = some (.int .i64 (x : Int)) := Blk.cell HK10.out 0 _ rfl
  have c1 : w10.cell? ⟨bt, 1, none⟩ = some (.string Bk) := Blk.cell HK10.out 1 _ rfl
  have c2 : w10.cell? ⟨bt, 2, none⟩ = some (.int .i64 1) := Blk.cell HK10.out 2 _ rfl
  have c3 : w10.cell? ⟨bt, 3, none⟩ = some (.int .u64 (u : Int)) := Blk.cell HK10.out 3 _ rfl
  go_wp2_with fail
  refine (N1.out _).mono ?_; rintro e w11 ⟨rfl, hb11⟩
  have HK11 : Hid (Blk w11 bt [.int .i64 (x : Int), .string Bk, .int .i64 1, .int .u64 (u : Int)]) := Blk.below HK10.out hb11 (by omega)
  have HB11 : Hid (Below w.heap.size w w11) := Below.trans HB10.out (hb11.mono HB10.out.size)
  have z11 := hb11.size
  clear hb11 c0 c1 c2 c3 HK10 HB10
  have c0 : w11.cell? ⟨bt, 0, none⟩ = some (.int .i64 (x : Int)) := Blk.cell HK11.out 0 _ rfl
  have c1 : w11.cell? ⟨bt, 1, none⟩ = some (.string Bk) := Blk.cell HK11.out 1 _ rfl
  have c2 : w11.cell? ⟨bt, 2, none⟩ = some (.int .i64 1) := Blk.cell HK11.out 2 _ rfl
  have c3 : w11.cell? ⟨bt, 3, none⟩ = some (.int .u64 (u : Int)) := Blk.cell HK11.out 3 _ rfl
  go_wp2_with fail
  refine (N2.out _).mono ?_; rintro e w12 ⟨rfl, hb12⟩
  have HK12 : Hid (Blk w12 bt [.int .i64 (x : Int), .string Bk, .int .i64 1, .int .u64 (u : Int)]) := Blk.below HK11.out hb12 (by omega)
  have HB12 : Hid (Below w.heap.size w w12) := Below.trans HB11.out (hb12.mono HB11.out.size)
  have z12 := hb12.size
  clear hb12 c0 c1 c2 c3 HK11 HB11
  go_wp2_with fail
  go_ret
  exact ⟨by simp, HB12.out⟩
set_option maxHeartbeats 2000000 in
set_option maxRecDepth 100000 in
theorem way1bucket (T : Int) (B : ByteArray) (R : Int) (U x u : Nat) (Bk : ByteArray) (o : Bool) (a1 : Int) (a2 : ByteArray) (w : World) (hT : Tab w)
    (CT0 : ∀ w, Calls Tryd.prog 27 #[.agg #[.int .i64 T, .string B, .int .i64 R, .int .u64 (U : Int), .bool true]] w fun e w' => e = .returned (.agg #[.int .i64 (x : Int), .string Bk, .int .i64 1, .int .u64 (u : Int)]) ∧ Below w.heap.size w w') (hq : a1 = (x : Int)) (hne : ¬ a2 = Bk) :
    Calls Tryd.prog 9 #[.agg #[.int .i64 T, .string B, .int .i64 R, .int .u64 (U : Int), .bool o], .int .i64 a1, .string a2] w fun e w' => e = .returned (.bool true) ∧ Below w.heap.size w w' := by
  have CE : Hid _ := mexamples_any
  have CT : Hid _ := CT0
  have HT : Hid _ := hT
  have hz := hT.pos
  have M1 : Hid _ := fun w => may_self (x : Int) Bk 1 (u : Int) 1 w rfl true and_11
  have M2 : Hid _ := fun w => may_self (x : Int) Bk 1 (u : Int) 2 w rfl false and_12
  have M3 : Hid _ := fun w => may_not (x : Int) Bk 1 (u : Int) (x : Int) Bk 3 w rfl rfl
  have M0 : Hid _ := fun w => may_not (x : Int) Bk 1 (u : Int) (x : Int) Bk 0 w rfl rfl
  have N1 : Hid _ := fun w => may_other (x : Int) Bk 1 (u : Int) a1 a2 1 w rfl true and_11 (fun h => hne h.2.symm)
  have N2 : Hid _ := fun w => may_other (x : Int) Bk 1 (u : Int) a1 a2 2 w rfl false and_12 (fun h => hne h.2.symm)
  have d1 : (a1 != (x : Int)) = false := by rw [bne_eq_false_iff_eq]; exact hq
  have d2 : (a2.toList == Bk.toList) = false := by rw [tol_eq, decide_eq_false_iff_not]; exact hne
  clear hne hq
  clear hT CT0
  go_enter Tryd.func9, Tryd.ntmps9
  go_wp2_with (first | refine blk_box rfl 39 _ rfl [.int .i64 T, .string B, .int .i64 R, .int .u64 (U : Int), .bool o] rfl ?_)
  intro w1 K1 B1 Z1
  have HT1 : Hid (Tab w1) := Tab.below HT.out B1 hz
  go_wp2_with fail
  refine (CE.out _ HT1.out).mono ?_; rintro e w2 ⟨rfl, hb2⟩
  have K2 := K1.below hb2 (by omega)
  have HB2 : Hid (Below w.heap.size w w2) := B1.trans (hb2.mono (by omega))
  have z2 := hb2.size
  have p0 := Blk.cell K2 0 _ rfl
  have p1 := Blk.cell K2 1 _ rfl
  have p2 := Blk.cell K2 2 _ rfl
  have p3 := Blk.cell K2 3 _ rfl
  have p4 := Blk.cell K2 4 _ rfl
  have q4 := Blk.free K2 4 (by simp)
  have HB3 : Hid (Below w.heap.size w (w2.setCell ⟨w.heap.size, 4, none⟩ (.bool true))) := Below.setCell HB2.out (Nat.le_refl _) _
  have z3 : (w2.setCell ⟨w.heap.size, 4, none⟩ (.bool true)).heap.size = w2.heap.size := by simp [World.setCell]
  clear K1 B1 hb2 K2 HT1 CE
  go_wp2_with fail
  refine (CT.out _).mono ?_; rintro e w4 ⟨rfl, hb4⟩
  have HB4 : Hid (Below w.heap.size w w4) := Below.trans HB3.out (hb4.mono (by rw [z3]; omega))
  have z4 := hb4.size
  clear hb4 p0 p1 p2 p3 p4 q4 HB3 CT
  go_wp2_with (first | refine blk_alloc rfl 37 zeroTok rfl Tryd.info_tok ?_)
  intro w5 K5 B5 Z5
  go_wp2_with (first | refine blk_store rfl 37 _ _ rfl w4.heap.size rfl [.int .i64 (x : Int), .string Bk, .int .i64 1, .int .u64 (u : Int)] rfl _ K5 rfl Tryd.size_tok rfl ?_)
  intro w6 K6 U6
  have zz : w.heap.size ≤ w4.heap.size := HB4.out.size
  have HK6 : Hid (Blk w6 w4.heap.size [.int .i64 (x : Int), .string Bk, .int .i64 1, .int .u64 (u : Int)]) := K6
  have HB6 : Hid (Below w.heap.size w w6) := Below.trans HB4.out ((B5.mono zz).trans (U6.below zz))
  have z6 : w6.heap.size = w4.heap.size + 1 := by have := U6.size; omega
  clear K5 B5 Z5 K6 U6 HB4 z3 z4 z2 HB2 Z1
  generalize w4.heap.size = bt at *
  have c0 : w6.cell? ⟨bt, 0, none⟩ = some (.int .i64 (x : Int)) := Blk.cell HK6.out 0 _ rfl
  have c1 : w6.cell? ⟨bt, 1, none⟩ = some (.string Bk) := Blk.cell HK6.out 1 _ rfl
  have c2 : w6.cell? ⟨bt, 2, none⟩ = some (.int .i64 1) := Blk.cell HK6.out 2 _ rfl
  have c3 : w6.cell? ⟨bt, 3, none⟩ = some (.int .u64 (u : Int)) := Blk.cell HK6.out 3 _ rfl
  go_wp2_with fail
  refine (M1.out _).mono ?_; rintro e w7 ⟨rfl, hb7⟩
  have HK7 : Hid (Blk w7 bt [.int .i64 (x : Int), .string Bk, .int .i64 1, .int .u64 (u : Int)]) := Blk.below HK6.out hb7 (by omega)
  have HB7 : Hid (Below w.heap.size w w7) := Below.trans HB6.out (hb7.mono HB6.out.size)
  have z7 := hb7.size
  clear hb7 c0 c1 c2 c3 HK6 HB6
  have c0 : w7.cell? ⟨bt, 0, none⟩ = some (.int .i64 (x : Int)) := Blk.cell HK7.out 0 _ rfl
  have c1 : w7.cell? ⟨bt, 1, none⟩ = some (.string Bk) := Blk.cell HK7.out 1 _ rfl
  have c2 : w7.cell? ⟨bt, 2, none⟩ = some (.int .i64 1) := Blk.cell HK7.out 2 _ rfl
  have c3 : w7.cell? ⟨bt, 3, none⟩ = some (.int .u64 (u : Int)) := Blk.cell HK7.out 3 _ rfl
  go_wp2_with fail
  refine (M2.out _).mono ?_; rintro e w8 ⟨rfl, hb8⟩
  have HK8 : Hid (Blk w8 bt [.int .i64 (x : Int), .string Bk, .int .i64 1, .int .u64 (u : Int)]) := Blk.below HK7.out hb8 (by omega)
  have HB8 : Hid (Below w.heap.size w w8) := Below.trans HB7.out (hb8.mono HB7.out.size)
  have z8 := hb8.size
  clear hb8 c0 c1 c2 c3 HK7 HB7
  have c0 : w8.cell? ⟨bt, 0, none⟩ = some (.int .i64 (x : Int)) := Blk.cell HK8.out 0 _ rfl
  have c1 : w8.cell? ⟨bt, 1, none⟩ = some (.string Bk) := Blk.cell HK8.out 1 _ rfl
  have c2 : w8.cell? ⟨bt, 2, none⟩ = some (.int .i64 1) := Blk.cell HK8.out 2 _ rfl
  have c3 : w8.cell? ⟨bt, 3, none⟩ = some (.int .u64 (u : Int)) := Blk.cell HK8.out 3 _ rfl
  go_wp2_with fail
  refine (M3.out _).mono ?_; rintro e w9 ⟨rfl, hb9⟩
  have HK9 : Hid (Blk w9 bt [.int .i64 (x : Int), .string Bk, .int .i64 1, .int .u64 (u : Int)]) := Blk.below HK8.out hb9 (by omega)
  have HB9 : Hid (Below w.heap.size w w9) := Below.trans HB8.out (hb9.mono HB8.out.size)
  have z9 := hb9.size
  clear hb9 c0 c1 c2 c3 HK8 HB8
  have c0 : w9.cell? ⟨bt, 0, none⟩ = some (.int .i64 (x : Int)) := Blk.cell HK9.out 0 _ rfl
  have c1 : w9.cell? ⟨bt, 1, none⟩ = some (.string Bk) := Blk.cell HK9.out 1 _ rfl
  have c2 : w9.cell? ⟨bt, 2, none⟩ = some (.int .i64 1) := Blk.cell HK9.out 2 _ rfl
  have c3 : w9.cell? ⟨bt, 3, none⟩ = some (.int .u64 (u : Int)) := Blk.cell HK9.out 3 _ rfl
  go_wp2_with fail
  refine (M0.out _).mono ?_; rintro e w10 ⟨rfl, hb10⟩
  have HK10 : Hid (Blk w10 bt [.int .i64 (x : Int), .string Bk, .int .i64 1, .int .u64 (u : Int)]) := Blk.below HK9.out hb10 (by omega)
  have HB10 : Hid (Below w.heap.size w w10) := Below.trans HB9.out (hb10.mono HB9.out.size)
  have z10 := hb10.size
  clear hb10 c0 c1 c2 c3 HK9 HB9
  have c0 : w10.cell? ⟨bt, 0, none⟩ = some (.int .i64 (x : Int)) := Blk.cell HK10.out 0 _ rfl
  have c1 : w10.cell? ⟨bt, 1, none⟩ = some (.string Bk) := Blk.cell HK10.out 1 _ rfl
  have c2 : w10.cell? ⟨bt, 2, none⟩ = some (.int .i64 1) := Blk.cell HK10.out 2 _ rfl
  have c3 : w10.cell? ⟨bt, 3, none⟩ = some (.int .u64 (u : Int)) := Blk.cell HK10.out 3 _ rfl
  go_wp2_with fail
  refine (N1.out _).mono ?_; rintro e w11 ⟨rfl, hb11⟩
  have HK11 : Hid (Blk w11 bt [.int .i64 (x : Int), .string Bk, .int .i64 1, .int .u64 (u : Int)]) := Blk.below HK10.out hb11 (by omega)
  have HB11 : Hid (Below w.heap.size w w11) := Below.trans HB10.out (hb11.mono HB10.out.size)
  have z11 := hb11.size
  clear hb11 c0 c1 c2 c3 HK10 HB10
  have c0 : w11.cell? ⟨bt, 0, none⟩ = some (.int .i64 (x : Int)) := Blk.cell HK11.out 0 _ rfl
  have c1 : w11.cell? ⟨bt, 1, none⟩ = some (.string Bk) := Blk.cell HK11.out 1 _ rfl
  have c2 : w11.cell? ⟨bt, 2, none⟩ = some (.int .i64 1) := Blk.cell HK11.out 2 _ rfl
  have c3 : w11.cell? ⟨bt, 3, none⟩ = some (.int .u64 (u : Int)) := Blk.cell HK11.out 3 _ rfl
  go_wp2_with fail
  refine (N2.out _).mono ?_; rintro e w12 ⟨rfl, hb12⟩
  have HK12 : Hid (Blk w12 bt [.int .i64 (x : Int), .string Bk, .int .i64 1, .int .u64 (u : Int)]) := Blk.below HK11.out hb12 (by omega)
  have HB12 : Hid (Below w.heap.size w w12) := Below.trans HB11.out (hb12.mono HB11.out.size)
  have z12 := hb12.size
  clear hb12 c0 c1 c2 c3 HK11 HB11
  go_wp2_with fail
  go_ret
  exact ⟨by simp, HB12.out⟩
set_option maxHeartbeats 2000000 in
set_option maxRecDepth 100000 in
theorem way1none (T : Int) (B : ByteArray) (R : Int) (U x u : Nat) (Bk : ByteArray) (o : Bool) (a1 : Int) (a2 : ByteArray) (w : World) (hT : Tab w)
    (CT0 : ∀ w, Calls Tryd.prog 27 #[.agg #[.int .i64 T, .string B, .int .i64 R, .int .u64 (U : Int), .bool true]] w fun e w' => e = .returned (.agg #[.int .i64 (x : Int), .string Bk, .int .i64 1, .int .u64 (u : Int)]) ∧ Below w.heap.size w w') (hq : a1 = (x : Int)) (hp : a2 = Bk) :
    Calls Tryd.prog 9 #[.agg #[.int .i64 T, .string B, .int .i64 R, .int .u64 (U : Int), .bool o], .int .i64 a1, .string a2] w fun e w' => e = .returned (.bool true) ∧ Below w.heap.size w w' := by
  have CE : Hid _ := mexamples_any
  have CT : Hid _ := CT0
  have HT : Hid _ := hT
  have hz := hT.pos
  have M1 : Hid _ := fun w => may_self (x : Int) Bk 1 (u : Int) 1 w rfl true and_11
  have M2 : Hid _ := fun w => may_self (x : Int) Bk 1 (u : Int) 2 w rfl false and_12
  have M3 : Hid _ := fun w => may_not (x : Int) Bk 1 (u : Int) (x : Int) Bk 3 w rfl rfl
  have M0 : Hid _ := fun w => may_not (x : Int) Bk 1 (u : Int) (x : Int) Bk 0 w rfl rfl
  have d1 : (a1 != (x : Int)) = false := by rw [bne_eq_false_iff_eq]; exact hq
  have d2 : (a2.toList == Bk.toList) = true := by rw [tol_eq, decide_eq_true_iff]; exact hp
  clear hq hp
  clear hT CT0
  go_enter Tryd.func9, Tryd.ntmps9
  go_wp2_with (first | refine blk_box rfl 39 _ rfl [.int .i64 T, .string B, .int .i64 R, .int .u64 (U : Int), .bool o] rfl ?_)
  intro w1 K1 B1 Z1
  have HT1 : Hid (Tab w1) := Tab.below HT.out B1 hz
  go_wp2_with fail
  refine (CE.out _ HT1.out).mono ?_; rintro e w2 ⟨rfl, hb2⟩
  have K2 := K1.below hb2 (by omega)
  have HB2 : Hid (Below w.heap.size w w2) := B1.trans (hb2.mono (by omega))
  have z2 := hb2.size
  have p0 := Blk.cell K2 0 _ rfl
  have p1 := Blk.cell K2 1 _ rfl
  have p2 := Blk.cell K2 2 _ rfl
  have p3 := Blk.cell K2 3 _ rfl
  have p4 := Blk.cell K2 4 _ rfl
  have q4 := Blk.free K2 4 (by simp)
  have HB3 : Hid (Below w.heap.size w (w2.setCell ⟨w.heap.size, 4, none⟩ (.bool true))) := Below.setCell HB2.out (Nat.le_refl _) _
  have z3 : (w2.setCell ⟨w.heap.size, 4, none⟩ (.bool true)).heap.size = w2.heap.size := by simp [World.setCell]
  clear K1 B1 hb2 K2 HT1 CE
  go_wp2_with fail
  refine (CT.out _).mono ?_; rintro e w4 ⟨rfl, hb4⟩
  have HB4 : Hid (Below w.heap.size w w4) := Below.trans HB3.out (hb4.mono (by rw [z3]; omega))
  have z4 := hb4.size
  clear hb4 p0 p1 p2 p3 p4 q4 HB3 CT
  go_wp2_with (first | refine blk_alloc rfl 37 zeroTok rfl Tryd.info_tok ?_)
  intro w5 K5 B5 Z5
  go_wp2_with (first | refine blk_store rfl 37 _ _ rfl w4.heap.size rfl [.int .i64 (x : Int), .string Bk, .int .i64 1, .int .u64 (u : Int)] rfl _ K5 rfl Tryd.size_tok rfl ?_)
  intro w6 K6 U6
  have zz : w.heap.size ≤ w4.heap.size := HB4.out.size
  have HK6 : Hid (Blk w6 w4.heap.size [.int .i64 (x : Int), .string Bk, .int .i64 1, .int .u64 (u : Int)]) := K6
  have HB6 : Hid (Below w.heap.size w w6) := Below.trans HB4.out ((B5.mono zz).trans (U6.below zz))
  have z6 : w6.heap.size = w4.heap.size + 1 := by have := U6.size; omega
  clear K5 B5 Z5 K6 U6 HB4 z3 z4 z2 HB2 Z1
  generalize w4.heap.size = bt at *
  have c0 : w6.cell? ⟨bt, 0, none⟩ = some (.int .i64 (x : Int)) := Blk.cell HK6.out 0 _ rfl
  have c1 : w6.cell? ⟨bt, 1, none⟩ = some (.string Bk) := Blk.cell HK6.out 1 _ rfl
  have c2 : w6.cell? ⟨bt, 2, none⟩ = some (.int .i64 1) := Blk.cell HK6.out 2 _ rfl
  have c3 : w6.cell? ⟨bt, 3, none⟩ = some (.int .u64 (u : Int)) := Blk.cell HK6.out 3 _ rfl
  go_wp2_with fail
  refine (M1.out _).mono ?_; rintro e w7 ⟨rfl, hb7⟩
  have HK7 : Hid (Blk w7 bt [.int .i64 (x : Int), .string Bk, .int .i64 1, .int .u64 (u : Int)]) := Blk.below HK6.out hb7 (by omega)
  have HB7 : Hid (Below w.heap.size w w7) := Below.trans HB6.out (hb7.mono HB6.out.size)
  have z7 := hb7.size
  clear hb7 c0 c1 c2 c3 HK6 HB6
  have c0 : w7.cell? ⟨bt, 0, none⟩ = some (.int .i64 (x : Int)) := Blk.cell HK7.out 0 _ rfl
  have c1 : w7.cell? ⟨bt, 1, none⟩ = some (.string Bk) := Blk.cell HK7.out 1 _ rfl
  have c2 : w7.cell? ⟨bt, 2, none⟩ = some (.int .i64 1) := Blk.cell HK7.out 2 _ rfl
  have c3 : w7.cell? ⟨bt, 3, none⟩ = some (.int .u64 (u : Int)) := Blk.cell HK7.out 3 _ rfl
  go_wp2_with fail
  refine (M2.out _).mono ?_; rintro e w8 ⟨rfl, hb8⟩
  have HK8 : Hid (Blk w8 bt [.int .i64 (x : Int), .string Bk, .int .i64 1, .int .u64 (u : Int)]) := Blk.below HK7.out hb8 (by omega)
  have HB8 : Hid (Below w.heap.size w w8) := Below.trans HB7.out (hb8.mono HB7.out.size)
  have z8 := hb8.size
  clear hb8 c0 c1 c2 c3 HK7 HB7
  have c0 : w8.cell? ⟨bt, 0, none⟩ = some (.int .i64 (x : Int)) := Blk.cell HK8.out 0 _ rfl
  have c1 : w8.cell? ⟨bt, 1, none⟩ = some (.string Bk) := Blk.cell HK8.out 1 _ rfl
  have c2 : w8.cell? ⟨bt, 2, none⟩ = some (.int .i64 1) := Blk.cell HK8.out 2 _ rfl
  have c3 : w8.cell? ⟨bt, 3, none⟩ = some (.int .u64 (u : Int)) := Blk.cell HK8.out 3 _ rfl
  go_wp2_with fail
  refine (M3.out _).mono ?_; rintro e w9 ⟨rfl, hb9⟩
  have HK9 : Hid (Blk w9 bt [.int .i64 (x : Int), .string Bk, .int .i64 1, .int .u64 (u : Int)]) := Blk.below HK8.out hb9 (by omega)
  have HB9 : Hid (Below w.heap.size w w9) := Below.trans HB8.out (hb9.mono HB8.out.size)
  have z9 := hb9.size
  clear hb9 c0 c1 c2 c3 HK8 HB8
  have c0 : w9.cell? ⟨bt, 0, none⟩ = some (.int .i64 (x : Int)) := Blk.cell HK9.out 0 _ rfl
  have c1 : w9.cell? ⟨bt, 1, none⟩ = some (.string Bk) := Blk.cell HK9.out 1 _ rfl
  have c2 : w9.cell? ⟨bt, 2, none⟩ = some (.int .i64 1) := Blk.cell HK9.out 2 _ rfl
  have c3 : w9.cell? ⟨bt, 3, none⟩ = some (.int .u64 (u : Int)) := Blk.cell HK9.out 3 _ rfl
  go_wp2_with fail
  refine (M0.out _).mono ?_; rintro e w10 ⟨rfl, hb10⟩
  have HK10 : Hid (Blk w10 bt [.int .i64 (x : Int), .string Bk, .int .i64 1, .int .u64 (u : Int)]) := Blk.below HK9.out hb10 (by omega)
  have HB10 : Hid (Below w.heap.size w w10) := Below.trans HB9.out (hb10.mono HB9.out.size)
  have z10 := hb10.size
  clear hb10 c0 c1 c2 c3 HK9 HB9
  have c0 : w10.cell? ⟨bt, 0, none⟩ = some (.int .i64 (x : Int)) := Blk.cell HK10.out 0 _ rfl
  have c1 : w10.cell? ⟨bt, 1, none⟩ = some (.string Bk) := Blk.cell HK10.out 1 _ rfl
  have c2 : w10.cell? ⟨bt, 2, none⟩ = some (.int .i64 1) := Blk.cell HK10.out 2 _ rfl
  have c3 : w10.cell? ⟨bt, 3, none⟩ = some (.int .u64 (u : Int)) := Blk.cell HK10.out 3 _ rfl
  go_wp2_with fail
  go_ret
  exact ⟨by simp, HB10.out⟩
set_option maxHeartbeats 2000000 in
set_option maxRecDepth 100000 in
theorem way2tenant (T : Int) (B : ByteArray) (R : Int) (U x u : Nat) (Bk : ByteArray) (o : Bool) (a1 : Int) (a2 : ByteArray) (w : World) (hT : Tab w)
    (CT0 : ∀ w, Calls Tryd.prog 27 #[.agg #[.int .i64 T, .string B, .int .i64 R, .int .u64 (U : Int), .bool true]] w fun e w' => e = .returned (.agg #[.int .i64 (x : Int), .string Bk, .int .i64 2, .int .u64 (u : Int)]) ∧ Below w.heap.size w w') (hne : ¬ a1 = (x : Int)) :
    Calls Tryd.prog 9 #[.agg #[.int .i64 T, .string B, .int .i64 R, .int .u64 (U : Int), .bool o], .int .i64 a1, .string a2] w fun e w' => e = .returned (.bool true) ∧ Below w.heap.size w w' := by
  have CE : Hid _ := mexamples_any
  have CT : Hid _ := CT0
  have HT : Hid _ := hT
  have hz := hT.pos
  have M1 : Hid _ := fun w => may_self (x : Int) Bk 2 (u : Int) 1 w rfl false and_21
  have M2 : Hid _ := fun w => may_self (x : Int) Bk 2 (u : Int) 2 w rfl true and_22
  have M3 : Hid _ := fun w => may_not (x : Int) Bk 2 (u : Int) (x : Int) Bk 3 w rfl rfl
  have M0 : Hid _ := fun w => may_not (x : Int) Bk 2 (u : Int) (x : Int) Bk 0 w rfl rfl
  have N1 : Hid _ := fun w => may_other (x : Int) Bk 2 (u : Int) a1 a2 1 w rfl false and_21 (fun h => hne h.1.symm)
  have N2 : Hid _ := fun w => may_other (x : Int) Bk 2 (u : Int) a1 a2 2 w rfl true and_22 (fun h => hne h.1.symm)
  have d1 : (a1 != (x : Int)) = true := by rw [bne_iff_ne]; exact hne
  clear hne
  clear hT CT0
  go_enter Tryd.func9, Tryd.ntmps9
  go_wp2_with (first | refine blk_box rfl 39 _ rfl [.int .i64 T, .string B, .int .i64 R, .int .u64 (U : Int), .bool o] rfl ?_)
  intro w1 K1 B1 Z1
  have HT1 : Hid (Tab w1) := Tab.below HT.out B1 hz
  go_wp2_with fail
  refine (CE.out _ HT1.out).mono ?_; rintro e w2 ⟨rfl, hb2⟩
  have K2 := K1.below hb2 (by omega)
  have HB2 : Hid (Below w.heap.size w w2) := B1.trans (hb2.mono (by omega))
  have z2 := hb2.size
  have p0 := Blk.cell K2 0 _ rfl
  have p1 := Blk.cell K2 1 _ rfl
  have p2 := Blk.cell K2 2 _ rfl
  have p3 := Blk.cell K2 3 _ rfl
  have p4 := Blk.cell K2 4 _ rfl
  have q4 := Blk.free K2 4 (by simp)
  have HB3 : Hid (Below w.heap.size w (w2.setCell ⟨w.heap.size, 4, none⟩ (.bool true))) := Below.setCell HB2.out (Nat.le_refl _) _
  have z3 : (w2.setCell ⟨w.heap.size, 4, none⟩ (.bool true)).heap.size = w2.heap.size := by simp [World.setCell]
  clear K1 B1 hb2 K2 HT1 CE
  go_wp2_with fail
  refine (CT.out _).mono ?_; rintro e w4 ⟨rfl, hb4⟩
  have HB4 : Hid (Below w.heap.size w w4) := Below.trans HB3.out (hb4.mono (by rw [z3]; omega))
  have z4 := hb4.size
  clear hb4 p0 p1 p2 p3 p4 q4 HB3 CT
  go_wp2_with (first | refine blk_alloc rfl 37 zeroTok rfl Tryd.info_tok ?_)
  intro w5 K5 B5 Z5
  go_wp2_with (first | refine blk_store rfl 37 _ _ rfl w4.heap.size rfl [.int .i64 (x : Int), .string Bk, .int .i64 2, .int .u64 (u : Int)] rfl _ K5 rfl Tryd.size_tok rfl ?_)
  intro w6 K6 U6
  have zz : w.heap.size ≤ w4.heap.size := HB4.out.size
  have HK6 : Hid (Blk w6 w4.heap.size [.int .i64 (x : Int), .string Bk, .int .i64 2, .int .u64 (u : Int)]) := K6
  have HB6 : Hid (Below w.heap.size w w6) := Below.trans HB4.out ((B5.mono zz).trans (U6.below zz))
  have z6 : w6.heap.size = w4.heap.size + 1 := by have := U6.size; omega
  clear K5 B5 Z5 K6 U6 HB4 z3 z4 z2 HB2 Z1
  generalize w4.heap.size = bt at *
  have c0 : w6.cell? ⟨bt, 0, none⟩ = some (.int .i64 (x : Int)) := Blk.cell HK6.out 0 _ rfl
  have c1 : w6.cell? ⟨bt, 1, none⟩ = some (.string Bk) := Blk.cell HK6.out 1 _ rfl
  have c2 : w6.cell? ⟨bt, 2, none⟩ = some (.int .i64 2) := Blk.cell HK6.out 2 _ rfl
  have c3 : w6.cell? ⟨bt, 3, none⟩ = some (.int .u64 (u : Int)) := Blk.cell HK6.out 3 _ rfl
  go_wp2_with fail
  refine (M1.out _).mono ?_; rintro e w7 ⟨rfl, hb7⟩
  have HK7 : Hid (Blk w7 bt [.int .i64 (x : Int), .string Bk, .int .i64 2, .int .u64 (u : Int)]) := Blk.below HK6.out hb7 (by omega)
  have HB7 : Hid (Below w.heap.size w w7) := Below.trans HB6.out (hb7.mono HB6.out.size)
  have z7 := hb7.size
  clear hb7 c0 c1 c2 c3 HK6 HB6
  have c0 : w7.cell? ⟨bt, 0, none⟩ = some (.int .i64 (x : Int)) := Blk.cell HK7.out 0 _ rfl
  have c1 : w7.cell? ⟨bt, 1, none⟩ = some (.string Bk) := Blk.cell HK7.out 1 _ rfl
  have c2 : w7.cell? ⟨bt, 2, none⟩ = some (.int .i64 2) := Blk.cell HK7.out 2 _ rfl
  have c3 : w7.cell? ⟨bt, 3, none⟩ = some (.int .u64 (u : Int)) := Blk.cell HK7.out 3 _ rfl
  go_wp2_with fail
  refine (M2.out _).mono ?_; rintro e w8 ⟨rfl, hb8⟩
  have HK8 : Hid (Blk w8 bt [.int .i64 (x : Int), .string Bk, .int .i64 2, .int .u64 (u : Int)]) := Blk.below HK7.out hb8 (by omega)
  have HB8 : Hid (Below w.heap.size w w8) := Below.trans HB7.out (hb8.mono HB7.out.size)
  have z8 := hb8.size
  clear hb8 c0 c1 c2 c3 HK7 HB7
  have c0 : w8.cell? ⟨bt, 0, none⟩ = some (.int .i64 (x : Int)) := Blk.cell HK8.out 0 _ rfl
  have c1 : w8.cell? ⟨bt, 1, none⟩ = some (.string Bk) := Blk.cell HK8.out 1 _ rfl
  have c2 : w8.cell? ⟨bt, 2, none⟩ = some (.int .i64 2) := Blk.cell HK8.out 2 _ rfl
  have c3 : w8.cell? ⟨bt, 3, none⟩ = some (.int .u64 (u : Int)) := Blk.cell HK8.out 3 _ rfl
  go_wp2_with fail
  refine (M3.out _).mono ?_; rintro e w9 ⟨rfl, hb9⟩
  have HK9 : Hid (Blk w9 bt [.int .i64 (x : Int), .string Bk, .int .i64 2, .int .u64 (u : Int)]) := Blk.below HK8.out hb9 (by omega)
  have HB9 : Hid (Below w.heap.size w w9) := Below.trans HB8.out (hb9.mono HB8.out.size)
  have z9 := hb9.size
  clear hb9 c0 c1 c2 c3 HK8 HB8
  have c0 : w9.cell? ⟨bt, 0, none⟩ = some (.int .i64 (x : Int)) := Blk.cell HK9.out 0 _ rfl
  have c1 : w9.cell? ⟨bt, 1, none⟩ = some (.string Bk) := Blk.cell HK9.out 1 _ rfl
  have c2 : w9.cell? ⟨bt, 2, none⟩ = some (.int .i64 2) := Blk.cell HK9.out 2 _ rfl
  have c3 : w9.cell? ⟨bt, 3, none⟩ = some (.int .u64 (u : Int)) := Blk.cell HK9.out 3 _ rfl
  go_wp2_with fail
  refine (M0.out _).mono ?_; rintro e w10 ⟨rfl, hb10⟩
  have HK10 : Hid (Blk w10 bt [.int .i64 (x : Int), .string Bk, .int .i64 2, .int .u64 (u : Int)]) := Blk.below HK9.out hb10 (by omega)
  have HB10 : Hid (Below w.heap.size w w10) := Below.trans HB9.out (hb10.mono HB9.out.size)
  have z10 := hb10.size
  clear hb10 c0 c1 c2 c3 HK9 HB9
  have c0 : w10.cell? ⟨bt, 0, none⟩ = some (.int .i64 (x : Int)) := Blk.cell HK10.out 0 _ rfl
  have c1 : w10.cell? ⟨bt, 1, none⟩ = some (.string Bk) := Blk.cell HK10.out 1 _ rfl
  have c2 : w10.cell? ⟨bt, 2, none⟩ = some (.int .i64 2) := Blk.cell HK10.out 2 _ rfl
  have c3 : w10.cell? ⟨bt, 3, none⟩ = some (.int .u64 (u : Int)) := Blk.cell HK10.out 3 _ rfl
  go_wp2_with fail
  refine (N1.out _).mono ?_; rintro e w11 ⟨rfl, hb11⟩
  have HK11 : Hid (Blk w11 bt [.int .i64 (x : Int), .string Bk, .int .i64 2, .int .u64 (u : Int)]) := Blk.below HK10.out hb11 (by omega)
  have HB11 : Hid (Below w.heap.size w w11) := Below.trans HB10.out (hb11.mono HB10.out.size)
  have z11 := hb11.size
  clear hb11 c0 c1 c2 c3 HK10 HB10
  have c0 : w11.cell? ⟨bt, 0, none⟩ = some (.int .i64 (x : Int)) := Blk.cell HK11.out 0 _ rfl
  have c1 : w11.cell? ⟨bt, 1, none⟩ = some (.string Bk) := Blk.cell HK11.out 1 _ rfl
  have c2 : w11.cell? ⟨bt, 2, none⟩ = some (.int .i64 2) := Blk.cell HK11.out 2 _ rfl
  have c3 : w11.cell? ⟨bt, 3, none⟩ = some (.int .u64 (u : Int)) := Blk.cell HK11.out 3 _ rfl
  go_wp2_with fail
  refine (N2.out _).mono ?_; rintro e w12 ⟨rfl, hb12⟩
  have HK12 : Hid (Blk w12 bt [.int .i64 (x : Int), .string Bk, .int .i64 2, .int .u64 (u : Int)]) := Blk.below HK11.out hb12 (by omega)
  have HB12 : Hid (Below w.heap.size w w12) := Below.trans HB11.out (hb12.mono HB11.out.size)
  have z12 := hb12.size
  clear hb12 c0 c1 c2 c3 HK11 HB11
  go_wp2_with fail
  go_ret
  exact ⟨by simp, HB12.out⟩
set_option maxHeartbeats 2000000 in
set_option maxRecDepth 100000 in
theorem way2bucket (T : Int) (B : ByteArray) (R : Int) (U x u : Nat) (Bk : ByteArray) (o : Bool) (a1 : Int) (a2 : ByteArray) (w : World) (hT : Tab w)
    (CT0 : ∀ w, Calls Tryd.prog 27 #[.agg #[.int .i64 T, .string B, .int .i64 R, .int .u64 (U : Int), .bool true]] w fun e w' => e = .returned (.agg #[.int .i64 (x : Int), .string Bk, .int .i64 2, .int .u64 (u : Int)]) ∧ Below w.heap.size w w') (hq : a1 = (x : Int)) (hne : ¬ a2 = Bk) :
    Calls Tryd.prog 9 #[.agg #[.int .i64 T, .string B, .int .i64 R, .int .u64 (U : Int), .bool o], .int .i64 a1, .string a2] w fun e w' => e = .returned (.bool true) ∧ Below w.heap.size w w' := by
  have CE : Hid _ := mexamples_any
  have CT : Hid _ := CT0
  have HT : Hid _ := hT
  have hz := hT.pos
  have M1 : Hid _ := fun w => may_self (x : Int) Bk 2 (u : Int) 1 w rfl false and_21
  have M2 : Hid _ := fun w => may_self (x : Int) Bk 2 (u : Int) 2 w rfl true and_22
  have M3 : Hid _ := fun w => may_not (x : Int) Bk 2 (u : Int) (x : Int) Bk 3 w rfl rfl
  have M0 : Hid _ := fun w => may_not (x : Int) Bk 2 (u : Int) (x : Int) Bk 0 w rfl rfl
  have N1 : Hid _ := fun w => may_other (x : Int) Bk 2 (u : Int) a1 a2 1 w rfl false and_21 (fun h => hne h.2.symm)
  have N2 : Hid _ := fun w => may_other (x : Int) Bk 2 (u : Int) a1 a2 2 w rfl true and_22 (fun h => hne h.2.symm)
  have d1 : (a1 != (x : Int)) = false := by rw [bne_eq_false_iff_eq]; exact hq
  have d2 : (a2.toList == Bk.toList) = false := by rw [tol_eq, decide_eq_false_iff_not]; exact hne
  clear hne hq
  clear hT CT0
  go_enter Tryd.func9, Tryd.ntmps9
  go_wp2_with (first | refine blk_box rfl 39 _ rfl [.int .i64 T, .string B, .int .i64 R, .int .u64 (U : Int), .bool o] rfl ?_)
  intro w1 K1 B1 Z1
  have HT1 : Hid (Tab w1) := Tab.below HT.out B1 hz
  go_wp2_with fail
  refine (CE.out _ HT1.out).mono ?_; rintro e w2 ⟨rfl, hb2⟩
  have K2 := K1.below hb2 (by omega)
  have HB2 : Hid (Below w.heap.size w w2) := B1.trans (hb2.mono (by omega))
  have z2 := hb2.size
  have p0 := Blk.cell K2 0 _ rfl
  have p1 := Blk.cell K2 1 _ rfl
  have p2 := Blk.cell K2 2 _ rfl
  have p3 := Blk.cell K2 3 _ rfl
  have p4 := Blk.cell K2 4 _ rfl
  have q4 := Blk.free K2 4 (by simp)
  have HB3 : Hid (Below w.heap.size w (w2.setCell ⟨w.heap.size, 4, none⟩ (.bool true))) := Below.setCell HB2.out (Nat.le_refl _) _
  have z3 : (w2.setCell ⟨w.heap.size, 4, none⟩ (.bool true)).heap.size = w2.heap.size := by simp [World.setCell]
  clear K1 B1 hb2 K2 HT1 CE
  go_wp2_with fail
  refine (CT.out _).mono ?_; rintro e w4 ⟨rfl, hb4⟩
  have HB4 : Hid (Below w.heap.size w w4) := Below.trans HB3.out (hb4.mono (by rw [z3]; omega))
  have z4 := hb4.size
  clear hb4 p0 p1 p2 p3 p4 q4 HB3 CT
  go_wp2_with (first | refine blk_alloc rfl 37 zeroTok rfl Tryd.info_tok ?_)
  intro w5 K5 B5 Z5
  go_wp2_with (first | refine blk_store rfl 37 _ _ rfl w4.heap.size rfl [.int .i64 (x : Int), .string Bk, .int .i64 2, .int .u64 (u : Int)] rfl _ K5 rfl Tryd.size_tok rfl ?_)
  intro w6 K6 U6
  have zz : w.heap.size ≤ w4.heap.size := HB4.out.size
  have HK6 : Hid (Blk w6 w4.heap.size [.int .i64 (x : Int), .string Bk, .int .i64 2, .int .u64 (u : Int)]) := K6
  have HB6 : Hid (Below w.heap.size w w6) := Below.trans HB4.out ((B5.mono zz).trans (U6.below zz))
  have z6 : w6.heap.size = w4.heap.size + 1 := by have := U6.size; omega
  clear K5 B5 Z5 K6 U6 HB4 z3 z4 z2 HB2 Z1
  generalize w4.heap.size = bt at *
  have c0 : w6.cell? ⟨bt, 0, none⟩ = some (.int .i64 (x : Int)) := Blk.cell HK6.out 0 _ rfl
  have c1 : w6.cell? ⟨bt, 1, none⟩ = some (.string Bk) := Blk.cell HK6.out 1 _ rfl
  have c2 : w6.cell? ⟨bt, 2, none⟩ = some (.int .i64 2) := Blk.cell HK6.out 2 _ rfl
  have c3 : w6.cell? ⟨bt, 3, none⟩ = some (.int .u64 (u : Int)) := Blk.cell HK6.out 3 _ rfl
  go_wp2_with fail
  refine (M1.out _).mono ?_; rintro e w7 ⟨rfl, hb7⟩
  have HK7 : Hid (Blk w7 bt [.int .i64 (x : Int), .string Bk, .int .i64 2, .int .u64 (u : Int)]) := Blk.below HK6.out hb7 (by omega)
  have HB7 : Hid (Below w.heap.size w w7) := Below.trans HB6.out (hb7.mono HB6.out.size)
  have z7 := hb7.size
  clear hb7 c0 c1 c2 c3 HK6 HB6
  have c0 : w7.cell? ⟨bt, 0, none⟩ = some (.int .i64 (x : Int)) := Blk.cell HK7.out 0 _ rfl
  have c1 : w7.cell? ⟨bt, 1, none⟩ = some (.string Bk) := Blk.cell HK7.out 1 _ rfl
  have c2 : w7.cell? ⟨bt, 2, none⟩ = some (.int .i64 2) := Blk.cell HK7.out 2 _ rfl
  have c3 : w7.cell? ⟨bt, 3, none⟩ = some (.int .u64 (u : Int)) := Blk.cell HK7.out 3 _ rfl
  go_wp2_with fail
  refine (M2.out _).mono ?_; rintro e w8 ⟨rfl, hb8⟩
  have HK8 : Hid (Blk w8 bt [.int .i64 (x : Int), .string Bk, .int .i64 2, .int .u64 (u : Int)]) := Blk.below HK7.out hb8 (by omega)
  have HB8 : Hid (Below w.heap.size w w8) := Below.trans HB7.out (hb8.mono HB7.out.size)
  have z8 := hb8.size
  clear hb8 c0 c1 c2 c3 HK7 HB7
  have c0 : w8.cell? ⟨bt, 0, none⟩ = some (.int .i64 (x : Int)) := Blk.cell HK8.out 0 _ rfl
  have c1 : w8.cell? ⟨bt, 1, none⟩ = some (.string Bk) := Blk.cell HK8.out 1 _ rfl
  have c2 : w8.cell? ⟨bt, 2, none⟩ = some (.int .i64 2) := Blk.cell HK8.out 2 _ rfl
  have c3 : w8.cell? ⟨bt, 3, none⟩ = some (.int .u64 (u : Int)) := Blk.cell HK8.out 3 _ rfl
  go_wp2_with fail
  refine (M3.out _).mono ?_; rintro e w9 ⟨rfl, hb9⟩
  have HK9 : Hid (Blk w9 bt [.int .i64 (x : Int), .string Bk, .int .i64 2, .int .u64 (u : Int)]) := Blk.below HK8.out hb9 (by omega)
  have HB9 : Hid (Below w.heap.size w w9) := Below.trans HB8.out (hb9.mono HB8.out.size)
  have z9 := hb9.size
  clear hb9 c0 c1 c2 c3 HK8 HB8
  have c0 : w9.cell? ⟨bt, 0, none⟩ = some (.int .i64 (x : Int)) := Blk.cell HK9.out 0 _ rfl
  have c1 : w9.cell? ⟨bt, 1, none⟩ = some (.string Bk) := Blk.cell HK9.out 1 _ rfl
  have c2 : w9.cell? ⟨bt, 2, none⟩ = some (.int .i64 2) := Blk.cell HK9.out 2 _ rfl
  have c3 : w9.cell? ⟨bt, 3, none⟩ = some (.int .u64 (u : Int)) := Blk.cell HK9.out 3 _ rfl
  go_wp2_with fail
  refine (M0.out _).mono ?_; rintro e w10 ⟨rfl, hb10⟩
  have HK10 : Hid (Blk w10 bt [.int .i64 (x : Int), .string Bk, .int .i64 2, .int .u64 (u : Int)]) := Blk.below HK9.out hb10 (by omega)
  have HB10 : Hid (Below w.heap.size w w10) := Below.trans HB9.out (hb10.mono HB9.out.size)
  have z10 := hb10.size
  clear hb10 c0 c1 c2 c3 HK9 HB9
  have c0 : w10.cell? ⟨bt, 0, none⟩ = some (.int .i64 (x : Int)) := Blk.cell HK10.out 0 _ rfl
  have c1 : w10.cell? ⟨bt, 1, none⟩ = some (.string Bk) := Blk.cell HK10.out 1 _ rfl
  have c2 : w10.cell? ⟨bt, 2, none⟩ = some (.int .i64 2) := Blk.cell HK10.out 2 _ rfl
  have c3 : w10.cell? ⟨bt, 3, none⟩ = some (.int .u64 (u : Int)) := Blk.cell HK10.out 3 _ rfl
  go_wp2_with fail
  refine (N1.out _).mono ?_; rintro e w11 ⟨rfl, hb11⟩
  have HK11 : Hid (Blk w11 bt [.int .i64 (x : Int), .string Bk, .int .i64 2, .int .u64 (u : Int)]) := Blk.below HK10.out hb11 (by omega)
  have HB11 : Hid (Below w.heap.size w w11) := Below.trans HB10.out (hb11.mono HB10.out.size)
  have z11 := hb11.size
  clear hb11 c0 c1 c2 c3 HK10 HB10
  have c0 : w11.cell? ⟨bt, 0, none⟩ = some (.int .i64 (x : Int)) := Blk.cell HK11.out 0 _ rfl
  have c1 : w11.cell? ⟨bt, 1, none⟩ = some (.string Bk) := Blk.cell HK11.out 1 _ rfl
  have c2 : w11.cell? ⟨bt, 2, none⟩ = some (.int .i64 2) := Blk.cell HK11.out 2 _ rfl
  have c3 : w11.cell? ⟨bt, 3, none⟩ = some (.int .u64 (u : Int)) := Blk.cell HK11.out 3 _ rfl
  go_wp2_with fail
  refine (N2.out _).mono ?_; rintro e w12 ⟨rfl, hb12⟩
  have HK12 : Hid (Blk w12 bt [.int .i64 (x : Int), .string Bk, .int .i64 2, .int .u64 (u : Int)]) := Blk.below HK11.out hb12 (by omega)
  have HB12 : Hid (Below w.heap.size w w12) := Below.trans HB11.out (hb12.mono HB11.out.size)
  have z12 := hb12.size
  clear hb12 c0 c1 c2 c3 HK11 HB11
  go_wp2_with fail
  go_ret
  exact ⟨by simp, HB12.out⟩
set_option maxHeartbeats 2000000 in
set_option maxRecDepth 100000 in
theorem way2none (T : Int) (B : ByteArray) (R : Int) (U x u : Nat) (Bk : ByteArray) (o : Bool) (a1 : Int) (a2 : ByteArray) (w : World) (hT : Tab w)
    (CT0 : ∀ w, Calls Tryd.prog 27 #[.agg #[.int .i64 T, .string B, .int .i64 R, .int .u64 (U : Int), .bool true]] w fun e w' => e = .returned (.agg #[.int .i64 (x : Int), .string Bk, .int .i64 2, .int .u64 (u : Int)]) ∧ Below w.heap.size w w') (hq : a1 = (x : Int)) (hp : a2 = Bk) :
    Calls Tryd.prog 9 #[.agg #[.int .i64 T, .string B, .int .i64 R, .int .u64 (U : Int), .bool o], .int .i64 a1, .string a2] w fun e w' => e = .returned (.bool true) ∧ Below w.heap.size w w' := by
  have CE : Hid _ := mexamples_any
  have CT : Hid _ := CT0
  have HT : Hid _ := hT
  have hz := hT.pos
  have M1 : Hid _ := fun w => may_self (x : Int) Bk 2 (u : Int) 1 w rfl false and_21
  have M2 : Hid _ := fun w => may_self (x : Int) Bk 2 (u : Int) 2 w rfl true and_22
  have M3 : Hid _ := fun w => may_not (x : Int) Bk 2 (u : Int) (x : Int) Bk 3 w rfl rfl
  have M0 : Hid _ := fun w => may_not (x : Int) Bk 2 (u : Int) (x : Int) Bk 0 w rfl rfl
  have d1 : (a1 != (x : Int)) = false := by rw [bne_eq_false_iff_eq]; exact hq
  have d2 : (a2.toList == Bk.toList) = true := by rw [tol_eq, decide_eq_true_iff]; exact hp
  clear hq hp
  clear hT CT0
  go_enter Tryd.func9, Tryd.ntmps9
  go_wp2_with (first | refine blk_box rfl 39 _ rfl [.int .i64 T, .string B, .int .i64 R, .int .u64 (U : Int), .bool o] rfl ?_)
  intro w1 K1 B1 Z1
  have HT1 : Hid (Tab w1) := Tab.below HT.out B1 hz
  go_wp2_with fail
  refine (CE.out _ HT1.out).mono ?_; rintro e w2 ⟨rfl, hb2⟩
  have K2 := K1.below hb2 (by omega)
  have HB2 : Hid (Below w.heap.size w w2) := B1.trans (hb2.mono (by omega))
  have z2 := hb2.size
  have p0 := Blk.cell K2 0 _ rfl
  have p1 := Blk.cell K2 1 _ rfl
  have p2 := Blk.cell K2 2 _ rfl
  have p3 := Blk.cell K2 3 _ rfl
  have p4 := Blk.cell K2 4 _ rfl
  have q4 := Blk.free K2 4 (by simp)
  have HB3 : Hid (Below w.heap.size w (w2.setCell ⟨w.heap.size, 4, none⟩ (.bool true))) := Below.setCell HB2.out (Nat.le_refl _) _
  have z3 : (w2.setCell ⟨w.heap.size, 4, none⟩ (.bool true)).heap.size = w2.heap.size := by simp [World.setCell]
  clear K1 B1 hb2 K2 HT1 CE
  go_wp2_with fail
  refine (CT.out _).mono ?_; rintro e w4 ⟨rfl, hb4⟩
  have HB4 : Hid (Below w.heap.size w w4) := Below.trans HB3.out (hb4.mono (by rw [z3]; omega))
  have z4 := hb4.size
  clear hb4 p0 p1 p2 p3 p4 q4 HB3 CT
  go_wp2_with (first | refine blk_alloc rfl 37 zeroTok rfl Tryd.info_tok ?_)
  intro w5 K5 B5 Z5
  go_wp2_with (first | refine blk_store rfl 37 _ _ rfl w4.heap.size rfl [.int .i64 (x : Int), .string Bk, .int .i64 2, .int .u64 (u : Int)] rfl _ K5 rfl Tryd.size_tok rfl ?_)
  intro w6 K6 U6
  have zz : w.heap.size ≤ w4.heap.size := HB4.out.size
  have HK6 : Hid (Blk w6 w4.heap.size [.int .i64 (x : Int), .string Bk, .int .i64 2, .int .u64 (u : Int)]) := K6
  have HB6 : Hid (Below w.heap.size w w6) := Below.trans HB4.out ((B5.mono zz).trans (U6.below zz))
  have z6 : w6.heap.size = w4.heap.size + 1 := by have := U6.size; omega
  clear K5 B5 Z5 K6 U6 HB4 z3 z4 z2 HB2 Z1
  generalize w4.heap.size = bt at *
  have c0 : w6.cell? ⟨bt, 0, none⟩ = some (.int .i64 (x : Int)) := Blk.cell HK6.out 0 _ rfl
  have c1 : w6.cell? ⟨bt, 1, none⟩ = some (.string Bk) := Blk.cell HK6.out 1 _ rfl
  have c2 : w6.cell? ⟨bt, 2, none⟩ = some (.int .i64 2) := Blk.cell HK6.out 2 _ rfl
  have c3 : w6.cell? ⟨bt, 3, none⟩ = some (.int .u64 (u : Int)) := Blk.cell HK6.out 3 _ rfl
  go_wp2_with fail
  refine (M1.out _).mono ?_; rintro e w7 ⟨rfl, hb7⟩
  have HK7 : Hid (Blk w7 bt [.int .i64 (x : Int), .string Bk, .int .i64 2, .int .u64 (u : Int)]) := Blk.below HK6.out hb7 (by omega)
  have HB7 : Hid (Below w.heap.size w w7) := Below.trans HB6.out (hb7.mono HB6.out.size)
  have z7 := hb7.size
  clear hb7 c0 c1 c2 c3 HK6 HB6
  have c0 : w7.cell? ⟨bt, 0, none⟩ = some (.int .i64 (x : Int)) := Blk.cell HK7.out 0 _ rfl
  have c1 : w7.cell? ⟨bt, 1, none⟩ = some (.string Bk) := Blk.cell HK7.out 1 _ rfl
  have c2 : w7.cell? ⟨bt, 2, none⟩ = some (.int .i64 2) := Blk.cell HK7.out 2 _ rfl
  have c3 : w7.cell? ⟨bt, 3, none⟩ = some (.int .u64 (u : Int)) := Blk.cell HK7.out 3 _ rfl
  go_wp2_with fail
  refine (M2.out _).mono ?_; rintro e w8 ⟨rfl, hb8⟩
  have HK8 : Hid (Blk w8 bt [.int .i64 (x : Int), .string Bk, .int .i64 2, .int .u64 (u : Int)]) := Blk.below HK7.out hb8 (by omega)
  have HB8 : Hid (Below w.heap.size w w8) := Below.trans HB7.out (hb8.mono HB7.out.size)
  have z8 := hb8.size
  clear hb8 c0 c1 c2 c3 HK7 HB7
  have c0 : w8.cell? ⟨bt, 0, none⟩ = some (.int .i64 (x : Int)) := Blk.cell HK8.out 0 _ rfl
  have c1 : w8.cell? ⟨bt, 1, none⟩ = some (.string Bk) := Blk.cell HK8.out 1 _ rfl
  have c2 : w8.cell? ⟨bt, 2, none⟩ = some (.int .i64 2) := Blk.cell HK8.out 2 _ rfl
  have c3 : w8.cell? ⟨bt, 3, none⟩ = some (.int .u64 (u : Int)) := Blk.cell HK8.out 3 _ rfl
  go_wp2_with fail
  refine (M3.out _).mono ?_; rintro e w9 ⟨rfl, hb9⟩
  have HK9 : Hid (Blk w9 bt [.int .i64 (x : Int), .string Bk, .int .i64 2, .int .u64 (u : Int)]) := Blk.below HK8.out hb9 (by omega)
  have HB9 : Hid (Below w.heap.size w w9) := Below.trans HB8.out (hb9.mono HB8.out.size)
  have z9 := hb9.size
  clear hb9 c0 c1 c2 c3 HK8 HB8
  have c0 : w9.cell? ⟨bt, 0, none⟩ = some (.int .i64 (x : Int)) := Blk.cell HK9.out 0 _ rfl
  have c1 : w9.cell? ⟨bt, 1, none⟩ = some (.string Bk) := Blk.cell HK9.out 1 _ rfl
  have c2 : w9.cell? ⟨bt, 2, none⟩ = some (.int .i64 2) := Blk.cell HK9.out 2 _ rfl
  have c3 : w9.cell? ⟨bt, 3, none⟩ = some (.int .u64 (u : Int)) := Blk.cell HK9.out 3 _ rfl
  go_wp2_with fail
  refine (M0.out _).mono ?_; rintro e w10 ⟨rfl, hb10⟩
  have HK10 : Hid (Blk w10 bt [.int .i64 (x : Int), .string Bk, .int .i64 2, .int .u64 (u : Int)]) := Blk.below HK9.out hb10 (by omega)
  have HB10 : Hid (Below w.heap.size w w10) := Below.trans HB9.out (hb10.mono HB9.out.size)
  have z10 := hb10.size
  clear hb10 c0 c1 c2 c3 HK9 HB9
  have c0 : w10.cell? ⟨bt, 0, none⟩ = some (.int .i64 (x : Int)) := Blk.cell HK10.out 0 _ rfl
  have c1 : w10.cell? ⟨bt, 1, none⟩ = some (.string Bk) := Blk.cell HK10.out 1 _ rfl
  have c2 : w10.cell? ⟨bt, 2, none⟩ = some (.int .i64 2) := Blk.cell HK10.out 2 _ rfl
  have c3 : w10.cell? ⟨bt, 3, none⟩ = some (.int .u64 (u : Int)) := Blk.cell HK10.out 3 _ rfl
  go_wp2_with fail
  go_ret
  exact ⟨by simp, HB10.out⟩
set_option maxHeartbeats 2000000 in
set_option maxRecDepth 100000 in
theorem way3tenant (T : Int) (B : ByteArray) (R : Int) (U x u : Nat) (Bk : ByteArray) (o : Bool) (a1 : Int) (a2 : ByteArray) (w : World) (hT : Tab w)
    (CT0 : ∀ w, Calls Tryd.prog 27 #[.agg #[.int .i64 T, .string B, .int .i64 R, .int .u64 (U : Int), .bool true]] w fun e w' => e = .returned (.agg #[.int .i64 (x : Int), .string Bk, .int .i64 3, .int .u64 (u : Int)]) ∧ Below w.heap.size w w') (hne : ¬ a1 = (x : Int)) :
    Calls Tryd.prog 9 #[.agg #[.int .i64 T, .string B, .int .i64 R, .int .u64 (U : Int), .bool o], .int .i64 a1, .string a2] w fun e w' => e = .returned (.bool true) ∧ Below w.heap.size w w' := by
  have CE : Hid _ := mexamples_any
  have CT : Hid _ := CT0
  have HT : Hid _ := hT
  have hz := hT.pos
  have M1 : Hid _ := fun w => may_self (x : Int) Bk 3 (u : Int) 1 w rfl true and_31
  have M2 : Hid _ := fun w => may_self (x : Int) Bk 3 (u : Int) 2 w rfl true and_32
  have M3 : Hid _ := fun w => may_not (x : Int) Bk 3 (u : Int) (x : Int) Bk 3 w rfl rfl
  have M0 : Hid _ := fun w => may_not (x : Int) Bk 3 (u : Int) (x : Int) Bk 0 w rfl rfl
  have N1 : Hid _ := fun w => may_other (x : Int) Bk 3 (u : Int) a1 a2 1 w rfl true and_31 (fun h => hne h.1.symm)
  have N2 : Hid _ := fun w => may_other (x : Int) Bk 3 (u : Int) a1 a2 2 w rfl true and_32 (fun h => hne h.1.symm)
  have d1 : (a1 != (x : Int)) = true := by rw [bne_iff_ne]; exact hne
  clear hne
  clear hT CT0
  go_enter Tryd.func9, Tryd.ntmps9
  go_wp2_with (first | refine blk_box rfl 39 _ rfl [.int .i64 T, .string B, .int .i64 R, .int .u64 (U : Int), .bool o] rfl ?_)
  intro w1 K1 B1 Z1
  have HT1 : Hid (Tab w1) := Tab.below HT.out B1 hz
  go_wp2_with fail
  refine (CE.out _ HT1.out).mono ?_; rintro e w2 ⟨rfl, hb2⟩
  have K2 := K1.below hb2 (by omega)
  have HB2 : Hid (Below w.heap.size w w2) := B1.trans (hb2.mono (by omega))
  have z2 := hb2.size
  have p0 := Blk.cell K2 0 _ rfl
  have p1 := Blk.cell K2 1 _ rfl
  have p2 := Blk.cell K2 2 _ rfl
  have p3 := Blk.cell K2 3 _ rfl
  have p4 := Blk.cell K2 4 _ rfl
  have q4 := Blk.free K2 4 (by simp)
  have HB3 : Hid (Below w.heap.size w (w2.setCell ⟨w.heap.size, 4, none⟩ (.bool true))) := Below.setCell HB2.out (Nat.le_refl _) _
  have z3 : (w2.setCell ⟨w.heap.size, 4, none⟩ (.bool true)).heap.size = w2.heap.size := by simp [World.setCell]
  clear K1 B1 hb2 K2 HT1 CE
  go_wp2_with fail
  refine (CT.out _).mono ?_; rintro e w4 ⟨rfl, hb4⟩
  have HB4 : Hid (Below w.heap.size w w4) := Below.trans HB3.out (hb4.mono (by rw [z3]; omega))
  have z4 := hb4.size
  clear hb4 p0 p1 p2 p3 p4 q4 HB3 CT
  go_wp2_with (first | refine blk_alloc rfl 37 zeroTok rfl Tryd.info_tok ?_)
  intro w5 K5 B5 Z5
  go_wp2_with (first | refine blk_store rfl 37 _ _ rfl w4.heap.size rfl [.int .i64 (x : Int), .string Bk, .int .i64 3, .int .u64 (u : Int)] rfl _ K5 rfl Tryd.size_tok rfl ?_)
  intro w6 K6 U6
  have zz : w.heap.size ≤ w4.heap.size := HB4.out.size
  have HK6 : Hid (Blk w6 w4.heap.size [.int .i64 (x : Int), .string Bk, .int .i64 3, .int .u64 (u : Int)]) := K6
  have HB6 : Hid (Below w.heap.size w w6) := Below.trans HB4.out ((B5.mono zz).trans (U6.below zz))
  have z6 : w6.heap.size = w4.heap.size + 1 := by have := U6.size; omega
  clear K5 B5 Z5 K6 U6 HB4 z3 z4 z2 HB2 Z1
  generalize w4.heap.size = bt at *
  have c0 : w6.cell? ⟨bt, 0, none⟩ = some (.int .i64 (x : Int)) := Blk.cell HK6.out 0 _ rfl
  have c1 : w6.cell? ⟨bt, 1, none⟩ = some (.string Bk) := Blk.cell HK6.out 1 _ rfl
  have c2 : w6.cell? ⟨bt, 2, none⟩ = some (.int .i64 3) := Blk.cell HK6.out 2 _ rfl
  have c3 : w6.cell? ⟨bt, 3, none⟩ = some (.int .u64 (u : Int)) := Blk.cell HK6.out 3 _ rfl
  go_wp2_with fail
  refine (M1.out _).mono ?_; rintro e w7 ⟨rfl, hb7⟩
  have HK7 : Hid (Blk w7 bt [.int .i64 (x : Int), .string Bk, .int .i64 3, .int .u64 (u : Int)]) := Blk.below HK6.out hb7 (by omega)
  have HB7 : Hid (Below w.heap.size w w7) := Below.trans HB6.out (hb7.mono HB6.out.size)
  have z7 := hb7.size
  clear hb7 c0 c1 c2 c3 HK6 HB6
  have c0 : w7.cell? ⟨bt, 0, none⟩ = some (.int .i64 (x : Int)) := Blk.cell HK7.out 0 _ rfl
  have c1 : w7.cell? ⟨bt, 1, none⟩ = some (.string Bk) := Blk.cell HK7.out 1 _ rfl
  have c2 : w7.cell? ⟨bt, 2, none⟩ = some (.int .i64 3) := Blk.cell HK7.out 2 _ rfl
  have c3 : w7.cell? ⟨bt, 3, none⟩ = some (.int .u64 (u : Int)) := Blk.cell HK7.out 3 _ rfl
  go_wp2_with fail
  refine (M2.out _).mono ?_; rintro e w8 ⟨rfl, hb8⟩
  have HK8 : Hid (Blk w8 bt [.int .i64 (x : Int), .string Bk, .int .i64 3, .int .u64 (u : Int)]) := Blk.below HK7.out hb8 (by omega)
  have HB8 : Hid (Below w.heap.size w w8) := Below.trans HB7.out (hb8.mono HB7.out.size)
  have z8 := hb8.size
  clear hb8 c0 c1 c2 c3 HK7 HB7
  have c0 : w8.cell? ⟨bt, 0, none⟩ = some (.int .i64 (x : Int)) := Blk.cell HK8.out 0 _ rfl
  have c1 : w8.cell? ⟨bt, 1, none⟩ = some (.string Bk) := Blk.cell HK8.out 1 _ rfl
  have c2 : w8.cell? ⟨bt, 2, none⟩ = some (.int .i64 3) := Blk.cell HK8.out 2 _ rfl
  have c3 : w8.cell? ⟨bt, 3, none⟩ = some (.int .u64 (u : Int)) := Blk.cell HK8.out 3 _ rfl
  go_wp2_with fail
  refine (M3.out _).mono ?_; rintro e w9 ⟨rfl, hb9⟩
  have HK9 : Hid (Blk w9 bt [.int .i64 (x : Int), .string Bk, .int .i64 3, .int .u64 (u : Int)]) := Blk.below HK8.out hb9 (by omega)
  have HB9 : Hid (Below w.heap.size w w9) := Below.trans HB8.out (hb9.mono HB8.out.size)
  have z9 := hb9.size
  clear hb9 c0 c1 c2 c3 HK8 HB8
  have c0 : w9.cell? ⟨bt, 0, none⟩ = some (.int .i64 (x : Int)) := Blk.cell HK9.out 0 _ rfl
  have c1 : w9.cell? ⟨bt, 1, none⟩ = some (.string Bk) := Blk.cell HK9.out 1 _ rfl
  have c2 : w9.cell? ⟨bt, 2, none⟩ = some (.int .i64 3) := Blk.cell HK9.out 2 _ rfl
  have c3 : w9.cell? ⟨bt, 3, none⟩ = some (.int .u64 (u : Int)) := Blk.cell HK9.out 3 _ rfl
  go_wp2_with fail
  refine (M0.out _).mono ?_; rintro e w10 ⟨rfl, hb10⟩
  have HK10 : Hid (Blk w10 bt [.int .i64 (x : Int), .string Bk, .int .i64 3, .int .u64 (u : Int)]) := Blk.below HK9.out hb10 (by omega)
  have HB10 : Hid (Below w.heap.size w w10) := Below.trans HB9.out (hb10.mono HB9.out.size)
  have z10 := hb10.size
  clear hb10 c0 c1 c2 c3 HK9 HB9
  have c0 : w10.cell? ⟨bt, 0, none⟩ = some (.int .i64 (x : Int)) := Blk.cell HK10.out 0 _ rfl
  have c1 : w10.cell? ⟨bt, 1, none⟩ = some (.string Bk) := Blk.cell HK10.out 1 _ rfl
  have c2 : w10.cell? ⟨bt, 2, none⟩ = some (.int .i64 3) := Blk.cell HK10.out 2 _ rfl
  have c3 : w10.cell? ⟨bt, 3, none⟩ = some (.int .u64 (u : Int)) := Blk.cell HK10.out 3 _ rfl
  go_wp2_with fail
  refine (N1.out _).mono ?_; rintro e w11 ⟨rfl, hb11⟩
  have HK11 : Hid (Blk w11 bt [.int .i64 (x : Int), .string Bk, .int .i64 3, .int .u64 (u : Int)]) := Blk.below HK10.out hb11 (by omega)
  have HB11 : Hid (Below w.heap.size w w11) := Below.trans HB10.out (hb11.mono HB10.out.size)
  have z11 := hb11.size
  clear hb11 c0 c1 c2 c3 HK10 HB10
  have c0 : w11.cell? ⟨bt, 0, none⟩ = some (.int .i64 (x : Int)) := Blk.cell HK11.out 0 _ rfl
  have c1 : w11.cell? ⟨bt, 1, none⟩ = some (.string Bk) := Blk.cell HK11.out 1 _ rfl
  have c2 : w11.cell? ⟨bt, 2, none⟩ = some (.int .i64 3) := Blk.cell HK11.out 2 _ rfl
  have c3 : w11.cell? ⟨bt, 3, none⟩ = some (.int .u64 (u : Int)) := Blk.cell HK11.out 3 _ rfl
  go_wp2_with fail
  refine (N2.out _).mono ?_; rintro e w12 ⟨rfl, hb12⟩
  have HK12 : Hid (Blk w12 bt [.int .i64 (x : Int), .string Bk, .int .i64 3, .int .u64 (u : Int)]) := Blk.below HK11.out hb12 (by omega)
  have HB12 : Hid (Below w.heap.size w w12) := Below.trans HB11.out (hb12.mono HB11.out.size)
  have z12 := hb12.size
  clear hb12 c0 c1 c2 c3 HK11 HB11
  go_wp2_with fail
  go_ret
  exact ⟨by simp, HB12.out⟩
set_option maxHeartbeats 2000000 in
set_option maxRecDepth 100000 in
theorem way3bucket (T : Int) (B : ByteArray) (R : Int) (U x u : Nat) (Bk : ByteArray) (o : Bool) (a1 : Int) (a2 : ByteArray) (w : World) (hT : Tab w)
    (CT0 : ∀ w, Calls Tryd.prog 27 #[.agg #[.int .i64 T, .string B, .int .i64 R, .int .u64 (U : Int), .bool true]] w fun e w' => e = .returned (.agg #[.int .i64 (x : Int), .string Bk, .int .i64 3, .int .u64 (u : Int)]) ∧ Below w.heap.size w w') (hq : a1 = (x : Int)) (hne : ¬ a2 = Bk) :
    Calls Tryd.prog 9 #[.agg #[.int .i64 T, .string B, .int .i64 R, .int .u64 (U : Int), .bool o], .int .i64 a1, .string a2] w fun e w' => e = .returned (.bool true) ∧ Below w.heap.size w w' := by
  have CE : Hid _ := mexamples_any
  have CT : Hid _ := CT0
  have HT : Hid _ := hT
  have hz := hT.pos
  have M1 : Hid _ := fun w => may_self (x : Int) Bk 3 (u : Int) 1 w rfl true and_31
  have M2 : Hid _ := fun w => may_self (x : Int) Bk 3 (u : Int) 2 w rfl true and_32
  have M3 : Hid _ := fun w => may_not (x : Int) Bk 3 (u : Int) (x : Int) Bk 3 w rfl rfl
  have M0 : Hid _ := fun w => may_not (x : Int) Bk 3 (u : Int) (x : Int) Bk 0 w rfl rfl
  have N1 : Hid _ := fun w => may_other (x : Int) Bk 3 (u : Int) a1 a2 1 w rfl true and_31 (fun h => hne h.2.symm)
  have N2 : Hid _ := fun w => may_other (x : Int) Bk 3 (u : Int) a1 a2 2 w rfl true and_32 (fun h => hne h.2.symm)
  have d1 : (a1 != (x : Int)) = false := by rw [bne_eq_false_iff_eq]; exact hq
  have d2 : (a2.toList == Bk.toList) = false := by rw [tol_eq, decide_eq_false_iff_not]; exact hne
  clear hne hq
  clear hT CT0
  go_enter Tryd.func9, Tryd.ntmps9
  go_wp2_with (first | refine blk_box rfl 39 _ rfl [.int .i64 T, .string B, .int .i64 R, .int .u64 (U : Int), .bool o] rfl ?_)
  intro w1 K1 B1 Z1
  have HT1 : Hid (Tab w1) := Tab.below HT.out B1 hz
  go_wp2_with fail
  refine (CE.out _ HT1.out).mono ?_; rintro e w2 ⟨rfl, hb2⟩
  have K2 := K1.below hb2 (by omega)
  have HB2 : Hid (Below w.heap.size w w2) := B1.trans (hb2.mono (by omega))
  have z2 := hb2.size
  have p0 := Blk.cell K2 0 _ rfl
  have p1 := Blk.cell K2 1 _ rfl
  have p2 := Blk.cell K2 2 _ rfl
  have p3 := Blk.cell K2 3 _ rfl
  have p4 := Blk.cell K2 4 _ rfl
  have q4 := Blk.free K2 4 (by simp)
  have HB3 : Hid (Below w.heap.size w (w2.setCell ⟨w.heap.size, 4, none⟩ (.bool true))) := Below.setCell HB2.out (Nat.le_refl _) _
  have z3 : (w2.setCell ⟨w.heap.size, 4, none⟩ (.bool true)).heap.size = w2.heap.size := by simp [World.setCell]
  clear K1 B1 hb2 K2 HT1 CE
  go_wp2_with fail
  refine (CT.out _).mono ?_; rintro e w4 ⟨rfl, hb4⟩
  have HB4 : Hid (Below w.heap.size w w4) := Below.trans HB3.out (hb4.mono (by rw [z3]; omega))
  have z4 := hb4.size
  clear hb4 p0 p1 p2 p3 p4 q4 HB3 CT
  go_wp2_with (first | refine blk_alloc rfl 37 zeroTok rfl Tryd.info_tok ?_)
  intro w5 K5 B5 Z5
  go_wp2_with (first | refine blk_store rfl 37 _ _ rfl w4.heap.size rfl [.int .i64 (x : Int), .string Bk, .int .i64 3, .int .u64 (u : Int)] rfl _ K5 rfl Tryd.size_tok rfl ?_)
  intro w6 K6 U6
  have zz : w.heap.size ≤ w4.heap.size := HB4.out.size
  have HK6 : Hid (Blk w6 w4.heap.size [.int .i64 (x : Int), .string Bk, .int .i64 3, .int .u64 (u : Int)]) := K6
  have HB6 : Hid (Below w.heap.size w w6) := Below.trans HB4.out ((B5.mono zz).trans (U6.below zz))
  have z6 : w6.heap.size = w4.heap.size + 1 := by have := U6.size; omega
  clear K5 B5 Z5 K6 U6 HB4 z3 z4 z2 HB2 Z1
  generalize w4.heap.size = bt at *
  have c0 : w6.cell? ⟨bt, 0, none⟩ = some (.int .i64 (x : Int)) := Blk.cell HK6.out 0 _ rfl
  have c1 : w6.cell? ⟨bt, 1, none⟩ = some (.string Bk) := Blk.cell HK6.out 1 _ rfl
  have c2 : w6.cell? ⟨bt, 2, none⟩ = some (.int .i64 3) := Blk.cell HK6.out 2 _ rfl
  have c3 : w6.cell? ⟨bt, 3, none⟩ = some (.int .u64 (u : Int)) := Blk.cell HK6.out 3 _ rfl
  go_wp2_with fail
  refine (M1.out _).mono ?_; rintro e w7 ⟨rfl, hb7⟩
  have HK7 : Hid (Blk w7 bt [.int .i64 (x : Int), .string Bk, .int .i64 3, .int .u64 (u : Int)]) := Blk.below HK6.out hb7 (by omega)
  have HB7 : Hid (Below w.heap.size w w7) := Below.trans HB6.out (hb7.mono HB6.out.size)
  have z7 := hb7.size
  clear hb7 c0 c1 c2 c3 HK6 HB6
  have c0 : w7.cell? ⟨bt, 0, none⟩ = some (.int .i64 (x : Int)) := Blk.cell HK7.out 0 _ rfl
  have c1 : w7.cell? ⟨bt, 1, none⟩ = some (.string Bk) := Blk.cell HK7.out 1 _ rfl
  have c2 : w7.cell? ⟨bt, 2, none⟩ = some (.int .i64 3) := Blk.cell HK7.out 2 _ rfl
  have c3 : w7.cell? ⟨bt, 3, none⟩ = some (.int .u64 (u : Int)) := Blk.cell HK7.out 3 _ rfl
  go_wp2_with fail
  refine (M2.out _).mono ?_; rintro e w8 ⟨rfl, hb8⟩
  have HK8 : Hid (Blk w8 bt [.int .i64 (x : Int), .string Bk, .int .i64 3, .int .u64 (u : Int)]) := Blk.below HK7.out hb8 (by omega)
  have HB8 : Hid (Below w.heap.size w w8) := Below.trans HB7.out (hb8.mono HB7.out.size)
  have z8 := hb8.size
  clear hb8 c0 c1 c2 c3 HK7 HB7
  have c0 : w8.cell? ⟨bt, 0, none⟩ = some (.int .i64 (x : Int)) := Blk.cell HK8.out 0 _ rfl
  have c1 : w8.cell? ⟨bt, 1, none⟩ = some (.string Bk) := Blk.cell HK8.out 1 _ rfl
  have c2 : w8.cell? ⟨bt, 2, none⟩ = some (.int .i64 3) := Blk.cell HK8.out 2 _ rfl
  have c3 : w8.cell? ⟨bt, 3, none⟩ = some (.int .u64 (u : Int)) := Blk.cell HK8.out 3 _ rfl
  go_wp2_with fail
  refine (M3.out _).mono ?_; rintro e w9 ⟨rfl, hb9⟩
  have HK9 : Hid (Blk w9 bt [.int .i64 (x : Int), .string Bk, .int .i64 3, .int .u64 (u : Int)]) := Blk.below HK8.out hb9 (by omega)
  have HB9 : Hid (Below w.heap.size w w9) := Below.trans HB8.out (hb9.mono HB8.out.size)
  have z9 := hb9.size
  clear hb9 c0 c1 c2 c3 HK8 HB8
  have c0 : w9.cell? ⟨bt, 0, none⟩ = some (.int .i64 (x : Int)) := Blk.cell HK9.out 0 _ rfl
  have c1 : w9.cell? ⟨bt, 1, none⟩ = some (.string Bk) := Blk.cell HK9.out 1 _ rfl
  have c2 : w9.cell? ⟨bt, 2, none⟩ = some (.int .i64 3) := Blk.cell HK9.out 2 _ rfl
  have c3 : w9.cell? ⟨bt, 3, none⟩ = some (.int .u64 (u : Int)) := Blk.cell HK9.out 3 _ rfl
  go_wp2_with fail
  refine (M0.out _).mono ?_; rintro e w10 ⟨rfl, hb10⟩
  have HK10 : Hid (Blk w10 bt [.int .i64 (x : Int), .string Bk, .int .i64 3, .int .u64 (u : Int)]) := Blk.below HK9.out hb10 (by omega)
  have HB10 : Hid (Below w.heap.size w w10) := Below.trans HB9.out (hb10.mono HB9.out.size)
  have z10 := hb10.size
  clear hb10 c0 c1 c2 c3 HK9 HB9
  have c0 : w10.cell? ⟨bt, 0, none⟩ = some (.int .i64 (x : Int)) := Blk.cell HK10.out 0 _ rfl
  have c1 : w10.cell? ⟨bt, 1, none⟩ = some (.string Bk) := Blk.cell HK10.out 1 _ rfl
  have c2 : w10.cell? ⟨bt, 2, none⟩ = some (.int .i64 3) := Blk.cell HK10.out 2 _ rfl
  have c3 : w10.cell? ⟨bt, 3, none⟩ = some (.int .u64 (u : Int)) := Blk.cell HK10.out 3 _ rfl
  go_wp2_with fail
  refine (N1.out _).mono ?_; rintro e w11 ⟨rfl, hb11⟩
  have HK11 : Hid (Blk w11 bt [.int .i64 (x : Int), .string Bk, .int .i64 3, .int .u64 (u : Int)]) := Blk.below HK10.out hb11 (by omega)
  have HB11 : Hid (Below w.heap.size w w11) := Below.trans HB10.out (hb11.mono HB10.out.size)
  have z11 := hb11.size
  clear hb11 c0 c1 c2 c3 HK10 HB10
  have c0 : w11.cell? ⟨bt, 0, none⟩ = some (.int .i64 (x : Int)) := Blk.cell HK11.out 0 _ rfl
  have c1 : w11.cell? ⟨bt, 1, none⟩ = some (.string Bk) := Blk.cell HK11.out 1 _ rfl
  have c2 : w11.cell? ⟨bt, 2, none⟩ = some (.int .i64 3) := Blk.cell HK11.out 2 _ rfl
  have c3 : w11.cell? ⟨bt, 3, none⟩ = some (.int .u64 (u : Int)) := Blk.cell HK11.out 3 _ rfl
  go_wp2_with fail
  refine (N2.out _).mono ?_; rintro e w12 ⟨rfl, hb12⟩
  have HK12 : Hid (Blk w12 bt [.int .i64 (x : Int), .string Bk, .int .i64 3, .int .u64 (u : Int)]) := Blk.below HK11.out hb12 (by omega)
  have HB12 : Hid (Below w.heap.size w w12) := Below.trans HB11.out (hb12.mono HB11.out.size)
  have z12 := hb12.size
  clear hb12 c0 c1 c2 c3 HK11 HB11
  go_wp2_with fail
  go_ret
  exact ⟨by simp, HB12.out⟩
set_option maxHeartbeats 2000000 in
set_option maxRecDepth 100000 in
theorem way3none (T : Int) (B : ByteArray) (R : Int) (U x u : Nat) (Bk : ByteArray) (o : Bool) (a1 : Int) (a2 : ByteArray) (w : World) (hT : Tab w)
    (CT0 : ∀ w, Calls Tryd.prog 27 #[.agg #[.int .i64 T, .string B, .int .i64 R, .int .u64 (U : Int), .bool true]] w fun e w' => e = .returned (.agg #[.int .i64 (x : Int), .string Bk, .int .i64 3, .int .u64 (u : Int)]) ∧ Below w.heap.size w w') (hq : a1 = (x : Int)) (hp : a2 = Bk) :
    Calls Tryd.prog 9 #[.agg #[.int .i64 T, .string B, .int .i64 R, .int .u64 (U : Int), .bool o], .int .i64 a1, .string a2] w fun e w' => e = .returned (.bool true) ∧ Below w.heap.size w w' := by
  have CE : Hid _ := mexamples_any
  have CT : Hid _ := CT0
  have HT : Hid _ := hT
  have hz := hT.pos
  have M1 : Hid _ := fun w => may_self (x : Int) Bk 3 (u : Int) 1 w rfl true and_31
  have M2 : Hid _ := fun w => may_self (x : Int) Bk 3 (u : Int) 2 w rfl true and_32
  have M3 : Hid _ := fun w => may_not (x : Int) Bk 3 (u : Int) (x : Int) Bk 3 w rfl rfl
  have M0 : Hid _ := fun w => may_not (x : Int) Bk 3 (u : Int) (x : Int) Bk 0 w rfl rfl
  have d1 : (a1 != (x : Int)) = false := by rw [bne_eq_false_iff_eq]; exact hq
  have d2 : (a2.toList == Bk.toList) = true := by rw [tol_eq, decide_eq_true_iff]; exact hp
  clear hq hp
  clear hT CT0
  go_enter Tryd.func9, Tryd.ntmps9
  go_wp2_with (first | refine blk_box rfl 39 _ rfl [.int .i64 T, .string B, .int .i64 R, .int .u64 (U : Int), .bool o] rfl ?_)
  intro w1 K1 B1 Z1
  have HT1 : Hid (Tab w1) := Tab.below HT.out B1 hz
  go_wp2_with fail
  refine (CE.out _ HT1.out).mono ?_; rintro e w2 ⟨rfl, hb2⟩
  have K2 := K1.below hb2 (by omega)
  have HB2 : Hid (Below w.heap.size w w2) := B1.trans (hb2.mono (by omega))
  have z2 := hb2.size
  have p0 := Blk.cell K2 0 _ rfl
  have p1 := Blk.cell K2 1 _ rfl
  have p2 := Blk.cell K2 2 _ rfl
  have p3 := Blk.cell K2 3 _ rfl
  have p4 := Blk.cell K2 4 _ rfl
  have q4 := Blk.free K2 4 (by simp)
  have HB3 : Hid (Below w.heap.size w (w2.setCell ⟨w.heap.size, 4, none⟩ (.bool true))) := Below.setCell HB2.out (Nat.le_refl _) _
  have z3 : (w2.setCell ⟨w.heap.size, 4, none⟩ (.bool true)).heap.size = w2.heap.size := by simp [World.setCell]
  clear K1 B1 hb2 K2 HT1 CE
  go_wp2_with fail
  refine (CT.out _).mono ?_; rintro e w4 ⟨rfl, hb4⟩
  have HB4 : Hid (Below w.heap.size w w4) := Below.trans HB3.out (hb4.mono (by rw [z3]; omega))
  have z4 := hb4.size
  clear hb4 p0 p1 p2 p3 p4 q4 HB3 CT
  go_wp2_with (first | refine blk_alloc rfl 37 zeroTok rfl Tryd.info_tok ?_)
  intro w5 K5 B5 Z5
  go_wp2_with (first | refine blk_store rfl 37 _ _ rfl w4.heap.size rfl [.int .i64 (x : Int), .string Bk, .int .i64 3, .int .u64 (u : Int)] rfl _ K5 rfl Tryd.size_tok rfl ?_)
  intro w6 K6 U6
  have zz : w.heap.size ≤ w4.heap.size := HB4.out.size
  have HK6 : Hid (Blk w6 w4.heap.size [.int .i64 (x : Int), .string Bk, .int .i64 3, .int .u64 (u : Int)]) := K6
  have HB6 : Hid (Below w.heap.size w w6) := Below.trans HB4.out ((B5.mono zz).trans (U6.below zz))
  have z6 : w6.heap.size = w4.heap.size + 1 := by have := U6.size; omega
  clear K5 B5 Z5 K6 U6 HB4 z3 z4 z2 HB2 Z1
  generalize w4.heap.size = bt at *
  have c0 : w6.cell? ⟨bt, 0, none⟩ = some (.int .i64 (x : Int)) := Blk.cell HK6.out 0 _ rfl
  have c1 : w6.cell? ⟨bt, 1, none⟩ = some (.string Bk) := Blk.cell HK6.out 1 _ rfl
  have c2 : w6.cell? ⟨bt, 2, none⟩ = some (.int .i64 3) := Blk.cell HK6.out 2 _ rfl
  have c3 : w6.cell? ⟨bt, 3, none⟩ = some (.int .u64 (u : Int)) := Blk.cell HK6.out 3 _ rfl
  go_wp2_with fail
  refine (M1.out _).mono ?_; rintro e w7 ⟨rfl, hb7⟩
  have HK7 : Hid (Blk w7 bt [.int .i64 (x : Int), .string Bk, .int .i64 3, .int .u64 (u : Int)]) := Blk.below HK6.out hb7 (by omega)
  have HB7 : Hid (Below w.heap.size w w7) := Below.trans HB6.out (hb7.mono HB6.out.size)
  have z7 := hb7.size
  clear hb7 c0 c1 c2 c3 HK6 HB6
  have c0 : w7.cell? ⟨bt, 0, none⟩ = some (.int .i64 (x : Int)) := Blk.cell HK7.out 0 _ rfl
  have c1 : w7.cell? ⟨bt, 1, none⟩ = some (.string Bk) := Blk.cell HK7.out 1 _ rfl
  have c2 : w7.cell? ⟨bt, 2, none⟩ = some (.int .i64 3) := Blk.cell HK7.out 2 _ rfl
  have c3 : w7.cell? ⟨bt, 3, none⟩ = some (.int .u64 (u : Int)) := Blk.cell HK7.out 3 _ rfl
  go_wp2_with fail
  refine (M2.out _).mono ?_; rintro e w8 ⟨rfl, hb8⟩
  have HK8 : Hid (Blk w8 bt [.int .i64 (x : Int), .string Bk, .int .i64 3, .int .u64 (u : Int)]) := Blk.below HK7.out hb8 (by omega)
  have HB8 : Hid (Below w.heap.size w w8) := Below.trans HB7.out (hb8.mono HB7.out.size)
  have z8 := hb8.size
  clear hb8 c0 c1 c2 c3 HK7 HB7
  have c0 : w8.cell? ⟨bt, 0, none⟩ = some (.int .i64 (x : Int)) := Blk.cell HK8.out 0 _ rfl
  have c1 : w8.cell? ⟨bt, 1, none⟩ = some (.string Bk) := Blk.cell HK8.out 1 _ rfl
  have c2 : w8.cell? ⟨bt, 2, none⟩ = some (.int .i64 3) := Blk.cell HK8.out 2 _ rfl
  have c3 : w8.cell? ⟨bt, 3, none⟩ = some (.int .u64 (u : Int)) := Blk.cell HK8.out 3 _ rfl
  go_wp2_with fail
  refine (M3.out _).mono ?_; rintro e w9 ⟨rfl, hb9⟩
  have HK9 : Hid (Blk w9 bt [.int .i64 (x : Int), .string Bk, .int .i64 3, .int .u64 (u : Int)]) := Blk.below HK8.out hb9 (by omega)
  have HB9 : Hid (Below w.heap.size w w9) := Below.trans HB8.out (hb9.mono HB8.out.size)
  have z9 := hb9.size
  clear hb9 c0 c1 c2 c3 HK8 HB8
  have c0 : w9.cell? ⟨bt, 0, none⟩ = some (.int .i64 (x : Int)) := Blk.cell HK9.out 0 _ rfl
  have c1 : w9.cell? ⟨bt, 1, none⟩ = some (.string Bk) := Blk.cell HK9.out 1 _ rfl
  have c2 : w9.cell? ⟨bt, 2, none⟩ = some (.int .i64 3) := Blk.cell HK9.out 2 _ rfl
  have c3 : w9.cell? ⟨bt, 3, none⟩ = some (.int .u64 (u : Int)) := Blk.cell HK9.out 3 _ rfl
  go_wp2_with fail
  refine (M0.out _).mono ?_; rintro e w10 ⟨rfl, hb10⟩
  have HK10 : Hid (Blk w10 bt [.int .i64 (x : Int), .string Bk, .int .i64 3, .int .u64 (u : Int)]) := Blk.below HK9.out hb10 (by omega)
  have HB10 : Hid (Below w.heap.size w w10) := Below.trans HB9.out (hb10.mono HB9.out.size)
  have z10 := hb10.size
  clear hb10 c0 c1 c2 c3 HK9 HB9
  have c0 : w10.cell? ⟨bt, 0, none⟩ = some (.int .i64 (x : Int)) := Blk.cell HK10.out 0 _ rfl
  have c1 : w10.cell? ⟨bt, 1, none⟩ = some (.string Bk) := Blk.cell HK10.out 1 _ rfl
  have c2 : w10.cell? ⟨bt, 2, none⟩ = some (.int .i64 3) := Blk.cell HK10.out 2 _ rfl
  have c3 : w10.cell? ⟨bt, 3, none⟩ = some (.int .u64 (u : Int)) := Blk.cell HK10.out 3 _ rfl
  go_wp2_with fail
  go_ret
  exact ⟨by simp, HB10.out⟩
theorem walk (T0 : Int) (B0 : ByteArray) (R0 U0 : Int) (o0 : Bool) (a1 : Int) (a2 : ByteArray) (wT0 : (Lit.int .i64 T0).wf = true) (wB0 : B0.size ≤ maxLen) (wR0 : (Lit.int .i64 R0).wf = true) (wU0 : (Lit.int .u64 U0).wf = true) (w1 : (Lit.int .i64 a1).wf = true) (z2 : a2.size ≤ 140737488351232) (w : World) (hT : Tab w) :
    Calls Tryd.prog 9 #[.agg #[.int .i64 T0, .string B0, .int .i64 R0, .int .u64 U0, .bool o0], .int .i64 a1, .string a2] w fun e w' => e = .returned (.bool true) ∧ Below w.heap.size w w' := by
  have hU : 0 ≤ U0 ∧ U0 ≤ 18446744073709551615 := by simpa [Lit.wf, IntKind.min, IntKind.max, IntKind.signed, IntKind.bits] using wU0
  obtain ⟨U, rfl⟩ : ∃ U : Nat, U0 = (U : Int) := ⟨U0.toNat, by omega⟩
  have hB : B0.size ≤ 9223372036854775807 := by unfold maxLen at wB0; omega
  have CT := fun w => token_own T0 B0 R0 U w hB (by omega)
  have hy : 1 + un R0 % 3 = 1 ∨ 1 + un R0 % 3 = 2 ∨ 1 + un R0 % 3 = 3 := by omega
  generalize 1 + un T0 % 8 = x at CT
  generalize buck B0 = Bk at CT
  generalize U % 50 = u at CT
  rcases hy with hy | hy | hy
  all_goals
    rw [hy] at CT
    by_cases h1 : a1 = (x : Int)
    · by_cases h2 : a2 = Bk
      · first | exact way1none T0 B0 R0 U x u Bk o0 a1 a2 w hT CT h1 h2 | exact way2none T0 B0 R0 U x u Bk o0 a1 a2 w hT CT h1 h2 | exact way3none T0 B0 R0 U x u Bk o0 a1 a2 w hT CT h1 h2
      · first | exact way1bucket T0 B0 R0 U x u Bk o0 a1 a2 w hT CT h1 h2 | exact way2bucket T0 B0 R0 U x u Bk o0 a1 a2 w hT CT h1 h2 | exact way3bucket T0 B0 R0 U x u Bk o0 a1 a2 w hT CT h1 h2
    · first | exact way1tenant T0 B0 R0 U x u Bk o0 a1 a2 w hT CT h1 | exact way2tenant T0 B0 R0 U x u Bk o0 a1 a2 w hT CT h1 | exact way3tenant T0 B0 R0 U x u Bk o0 a1 a2 w hT CT h1


set_option maxRecDepth 100000 in
theorem lifted (os : Os) (started : os.Started) (H : Type) (enc : TypeId × Value → H) (F : Stop.Interp) :
    ReturnsInHanded {} Tryd.checked os 9 .any ((OpenSpec.ofChange Rows.macRightsSpec).preRow enc Tryd.prog Tryd.f9 Rows.macRightsRow.domain false Rows.macRightsRow.laid) (((OpenSpec.ofChange Rows.macRightsSpec).at F).post enc Tryd.prog Tryd.f9 false true false false) := by
  have hx : ∃ places, DataW.whole enc Tryd.prog ((laidWorld os).forCall (fun _ _ => 0) ⟨#[], #[.agg #[.int .i64 0, .string ByteArray.empty, .int .i64 0, .int .u64 0, .bool false], .int .i64 0, .string ByteArray.empty], []⟩).memory Tryd.f9.params.toList Rows.macRightsSpec.vars false #[Value.agg #[.int .i64 0, .string ByteArray.empty, .int .i64 0, .int .u64 0, .bool false], Value.int .i64 0, Value.string ByteArray.empty].toList 8 = some ([.agg [.agg [.lit (.int .i64 0), .lit (.string []), .lit (.int .i64 0), .lit (.int .u64 0)], .lit (.bool false)], .lit (.int .i64 0), .lit (.string [])], [], places) := ⟨[], by kernel_rfl⟩
  obtain ⟨places, hx⟩ := hx
  refine returnsInHanded_of_row (C := Tryd.checked) (s := OpenSpec.ofChange Rows.macRightsSpec) own started (by kernel_rfl) Tryd.func9
    (witness_row_at (enc := enc) (C := Tryd.checked) false (laidWorld os) #[.agg #[.int .i64 0, .string ByteArray.empty, .int .i64 0, .int .u64 0, .bool false], .int .i64 0, .string ByteArray.empty] rfl (by kernel_rfl) (by kernel_rfl) (by kernel_rfl)
      (OpenSpec.preRow_of_cond 8 hx (by kernel_rfl) (fun k hk => by cases hk) (by kernel_rfl) (laidMet_of_run' 8 (by kernel_rfl) (by kernel_rfl)))) ?_
  intro W base args ds gs before hval0 hW hcnd hcond hsz0 hL _ _
  have hT : Tab W := tab_of hL
  have hval : ∀ (j : Nat) t v, Tryd.f9.params[j]? = some t → args[j]? = some v → Value.okWide Tryd.prog W .any base t v := hval0
  have hW' := hW
  obtain ⟨p, q, hA0, hV, rfl, hfz, hnd⟩ := hW
  have hA : DataW.TrodAll enc Tryd.prog W 0 (fun _ => true) true Tryd.f9.params.toList args.toList ds p := hA0
  have hsz : (DataW.weightsEach Tryd.prog (Tryd.f9.params.toList ++ Rows.macRightsSpec.plain.varTypes Tryd.prog) (ds ++ gs)).all (· ≤ reachBytes) = true := hsz0
  rw [Tryd.params9] at hA hval hsz
  obtain ⟨rfl, rfl⟩ := trodVars_none hV
  have hAk := hA
  have hlt : ∀ x ∈ p, x.block < W.heap.size := fun x hx => by simpa using hW'.lt x (List.mem_append.2 (.inl hx))
  obtain ⟨v0, vs0, d0, ds0, p0, q0, hargs, rfl, rfl, h0, r0⟩ := trodAll_cons hA
  obtain ⟨v1, vs1, d1, ds1, p1, q1, rfl, rfl, rfl, h1, r1⟩ := trodAll_cons r0
  obtain ⟨v2, vs2, d2, ds2, p2, q2, rfl, rfl, rfl, h2, r2⟩ := trodAll_cons r1
  obtain ⟨rfl, rfl, rfl⟩ := trodAll_nil r2
  obtain rfl : args = #[v0, v1, v2] := by cases args; simp_all
  obtain ⟨T0, B0, R0, U0, o0, rfl, wT0, wB0, wR0, wU0⟩ := open_pass (hval 0 39 v0 rfl rfl) h0
  obtain ⟨a1, rfl, rfl, rfl, w1⟩ := open_int Tryd.underlying3 (hval 1 3 v1 rfl rfl) h1
  obtain ⟨a2, rfl, rfl, rfl, w2⟩ := open_string Tryd.underlying9 (hval 2 9 v2 rfl rfl) h2
  have z2 := sized_string hsz (j := 2) (t := 9) rfl rfl
  clear hA0 hval0 hsz0
  refine (walk T0 B0 R0 U0 o0 a1 a2 wT0 wB0 wR0 wU0 w1 (by rw [Array.length_toList] at z2; exact z2) W hT).mono fun e W' ⟨he, hg⟩ => ?_
  subst he
  exact ⟨_, rfl, _, _, _, [], _, [], hW', (trodAll_cons_mk (shut_bool Tryd.underlying4 _) trodAll_mk0), trodAll_below laidOut hg _ _ _ _ (by kernel_rfl) hAk hlt, rfl, hg.frame _, fun h => by cases h⟩

theorem over : Rows.macRightsRow.holds Tryd.pinned (OpenSpec.ofChange Rows.macRightsSpec) :=
  OpenClaim.holds_of_cond 9 Tryd.f9 rfl rfl rfl rfl rfl rfl rfl ⟨rfl, rfl, rfl, rfl, rfl⟩ rfl rfl rfl rfl rfl (by kernel_rfl) Tryd.func9 (by kernel_rfl)
    (of_decide_eq_true (by kernel_rfl)) (by unfold Func.isWrapper; first | (rw [if_pos (by decide +kernel)]; kernel_rfl) | (rw [if_neg (by decide +kernel)]; exact ⟨rfl, rfl⟩))
    (fun os started H enc _ F => by rw [OpenClaim.pre_eq_preRow]; exact lifted os started H enc F)

set_option maxRecDepth 100000 in
theorem plain (f : FuncId) (fn : Func) (hf : Tryd.pinned.checked.prog.funcNamed "tenement/tenementlaw04.MacRights" = some f) (hfn : Tryd.pinned.checked.prog.funcs[f]? = some fn) :
    false = Tryd.pinned.checked.prog.looks [] ∧ ∀ (j : Nat) t, fn.params[j]? = some t → Tryd.pinned.checked.prog.wantsStandIn t = false := by
  obtain rfl : f = 9 := Option.some.inj ((show Tryd.prog.funcNamed "tenement/tenementlaw04.MacRights" = some 9 by kernel_rfl).symm.trans hf) |>.symm
  obtain rfl : fn = Tryd.f9 := (Option.some.inj (Tryd.func9.symm.trans hfn)).symm
  refine ⟨by kernel_rfl, fun j t ht => ?_⟩
  rw [Tryd.params9] at ht
  have hm := Array.mem_of_getElem? ht
  simp only [List.mem_toArray, List.mem_cons, List.not_mem_nil, or_false] at hm
  rcases hm with rfl | rfl | rfl
  all_goals first | exact (show Tryd.prog.wantsStandIn 39 = false by kernel_rfl) | exact (show Tryd.prog.wantsStandIn 3 = false by kernel_rfl) | exact (show Tryd.prog.wantsStandIn 9 = false by kernel_rfl)

/-- the statement -/
theorem proved : Rows.MacRightsCardSaid :=
  Claim7.holds_tied_plain_at .later [] _ _ _ _ over (fun _ h => by cases h) (by kernel_rfl) (fun _ h => by cases h) macRights_row_tie rfl ⟨rfl, rfl⟩ (by kernel_rfl) rfl plain (by kernel_rfl)
#print axioms proved
end Go.Proofs.YtlodahlinncpcaaDoor.macRights
