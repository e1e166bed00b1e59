/-
  Any write and transaction is right, or not, so great, whole, or not, put, the same as another one, or not, as the document's own answer tells (the law ItemTells). No conditions.
-/
import Derived.Test.YtkfcbihofipcbaaFrame

import Derived.Test.YtkfcbihofipcbaaItemF

import Derived.Test.YtkfcbihofipcbaaItemWh

import Derived.Test.YtkfcbihofipcbaaItemRC

import Derived.Test.YtkfcbihofipcbaaFramePut

namespace Go.Proofs.Ytkfcbihofipcbaa.itemTells

open Go.ChangeShapes Go.WideShapes Go.ChangeAt Go.RowKit

open Go.ChangeMaps (open_string shut_string)

open Go.Proofs.Ytkfcbihofipcbaa.Vc Go.Proofs.Ytkfcbihofipcbaa.Sp Go.Proofs.Ytkfcbihofipcbaa.It

set_option linter.unusedVariables false

set_option linter.unusedSimpArgs false

theorem Try.size_dl : (Try.prog.info? 35).map (·.size) = some 8 := by kernel_rfl
set_option maxHeartbeats 16000000 in
set_option maxRecDepth 100000 in
theorem walk (px0 : I.Wt) (po0 : Bool) (pk0 : Nat) (al1 : List Nat) (dd1 : Int) (mo1 : Bool) (sv1 : Value) (PL1 : List I.Pt) (ow1 : Bool) (al2 : List Nat) (dd2 : Int) (mo2 : Bool) (sv2 : Value) (PL2 : List I.Pt) (ow2 : Bool) (kq0 : I.POk (px0, po0, pk0)) (k1 : V.Ok al1) (kd1 : (Lit.int .i64 dd1).wf = true) (kp1 : ∀ p ∈ PL1, I.POk p) (k2 : V.Ok al2) (kd2 : (Lit.int .i64 dd2).wf = true) (kp2 : ∀ p ∈ PL2, I.POk p) (w : World) (ki1 : IsPs w sv1 PL1) (ki2 : IsPs w sv2 PL2) :
    Calls Try.prog 3 #[PV px0 po0 pk0, DV al1 dd1 mo1 sv1 ow1, DV al2 dd2 mo2 sv2 ow2] w fun e w' => e = .returned (.bool true) ∧ Below w.heap.size w w' := by
  have hyo := I.putW_ok px0 po0 pk0 kq0.w
  have CP : Hid (∀ u, Calls Try.prog 12 #[PV px0 po0 pk0] u fun e w' => e = .returned (WV (I.putW px0 po0 pk0)) ∧ Below u.heap.size u w') := fun u => write_any px0 po0 pk0 u kq0.k (by have := kq0.w.v; simp only at this; unfold maxLen; omega)
  obtain ⟨y, HY⟩ : ∃ z, Hid (I.putW px0 po0 pk0 = z) := ⟨_, rfl⟩
  rw [HY.out] at CP hyo
  obtain ⟨xb, xk, xv, xg⟩ := px0
  clear kq0 HY
  have hA1 : V.Ok (T.mark al1 dd1 (ow1 || mo1)).1 := T.mark_ok k1 dd1 _
  have hW1 := I.dealW_whole k1.len dd1 mo1 PL1
  have hO1 := I.dealW_ok ow1 PL1 kp1
  have hN1 := I.dealW_len ow1 PL1
  have CD1 : Hid (∀ u, IsPs u sv1 PL1 → Calls Try.prog 14 #[DV al1 dd1 mo1 sv1 ow1] u fun e w' => ∃ v', e = .returned (TV (T.mark al1 dd1 (ow1 || mo1)).1 (T.mark al1 dd1 (ow1 || mo1)).2 v') ∧ IsWs w' v' (I.dealW ow1 PL1) ∧ Below u.heap.size u w') := fun u hu => deal_any al1 dd1 mo1 sv1 ow1 PL1 u k1 kd1 hu kp1
  obtain ⟨D1, HD1⟩ : ∃ z, Hid ((T.mark al1 dd1 (ow1 || mo1)).2 = z) := ⟨_, rfl⟩
  obtain ⟨A1, HAA1⟩ : ∃ z, Hid ((T.mark al1 dd1 (ow1 || mo1)).1 = z) := ⟨_, rfl⟩
  obtain ⟨L1, HLL1⟩ : ∃ z, Hid (I.dealW ow1 PL1 = z) := ⟨_, rfl⟩
  rw [HD1.out, HAA1.out, HLL1.out] at CD1
  rw [HAA1.out] at hA1
  rw [HLL1.out] at hO1 hN1
  clear hW1
  obtain ⟨a10, a11, a12, a13, rfl⟩ := V.four hA1.len
  obtain ⟨l10, l11, l12, l13, rfl⟩ := V.four k1.len
  have KI1 := Lib.hid ki1
  clear HD1 HAA1 k1 kd1 kp1 ki1
  have hA2 : V.Ok (T.mark al2 dd2 (ow2 || mo2)).1 := T.mark_ok k2 dd2 _
  have hW2 := I.dealW_whole k2.len dd2 mo2 PL2
  have hO2 := I.dealW_ok ow2 PL2 kp2
  have hN2 := I.dealW_len ow2 PL2
  have CD2 : Hid (∀ u, IsPs u sv2 PL2 → Calls Try.prog 14 #[DV al2 dd2 mo2 sv2 ow2] u fun e w' => ∃ v', e = .returned (TV (T.mark al2 dd2 (ow2 || mo2)).1 (T.mark al2 dd2 (ow2 || mo2)).2 v') ∧ IsWs w' v' (I.dealW ow2 PL2) ∧ Below u.heap.size u w') := fun u hu => deal_any al2 dd2 mo2 sv2 ow2 PL2 u k2 kd2 hu kp2
  obtain ⟨D2, HD2⟩ : ∃ z, Hid ((T.mark al2 dd2 (ow2 || mo2)).2 = z) := ⟨_, rfl⟩
  obtain ⟨A2, HAA2⟩ : ∃ z, Hid ((T.mark al2 dd2 (ow2 || mo2)).1 = z) := ⟨_, rfl⟩
  obtain ⟨L2, HLL2⟩ : ∃ z, Hid (I.dealW ow2 PL2 = z) := ⟨_, rfl⟩
  rw [HD2.out, HAA2.out, HLL2.out] at CD2
  rw [HAA2.out] at hA2
  rw [HLL2.out] at hO2 hN2
  clear hW2
  obtain ⟨a20, a21, a22, a23, rfl⟩ := V.four hA2.len
  obtain ⟨l20, l21, l22, l23, rfl⟩ := V.four k2.len
  have KI2 := Lib.hid ki2
  clear HD2 HAA2 k2 kd2 kp2 ki2
  have hn1 : L1.length < 1000000 := by omega
  have hn2 : L2.length < 1000000 := by omega
  obtain ⟨R, HR⟩ : ∃ z, Hid (I.right y = z) := ⟨_, rfl⟩
  obtain ⟨sz, HS⟩ : ∃ z, Hid (((I.size y : Nat) : Int) = z) := ⟨_, rfl⟩
  obtain ⟨wh, HW⟩ : ∃ z, Hid (I.whole [a10, a11, a12, a13] D1 L1 = z) := ⟨_, rfl⟩
  obtain ⟨sb, HB⟩ : ∃ z, Hid (I.bytesS [a10, a11, a12, a13] D1 L1 = z) := ⟨_, rfl⟩
  obtain ⟨q, HQ⟩ : ∃ z, Hid (I.same [a10, a11, a12, a13] D1 L1 [a20, a21, a22, a23] D2 L2 = z) := ⟨_, rfl⟩
  have CR : Hid (∀ u, Calls Try.prog 18 [WV y].toArray u fun e w' => e = .returned (.bool R) ∧ Below u.heap.size u w') := fun u => by
    have := wright_any y u
    rw [HR.out] at this
    exact this
  have CRr : Hid (∀ u, Calls Try.prog 19 [WV y].toArray u fun e w' => e = .returned (.bool R) ∧ Below u.heap.size u w') := fun u => by
    have := ref_wright y u
    rw [HR.out] at this
    exact this
  have CS : Hid (∀ u, Calls Try.prog 20 [WV y].toArray u fun e w' => e = .returned (.int .i64 sz) ∧ Below u.heap.size u w') := fun u => by
    have := wsize_any y u hyo
    rw [HS.out] at this
    exact this
  have CSr : Hid (∀ u, Calls Try.prog 21 [WV y].toArray u fun e w' => e = .returned (.int .i64 sz) ∧ Below u.heap.size u w') := fun u => by
    have := ref_wsize y u hyo
    rw [HS.out] at this
    exact this
  have CW : Hid (∀ u (v : Value) (hv : IsWs u v L1), Calls Try.prog 22 [TV [a10, a11, a12, a13] D1 v].toArray u fun e w' => e = .returned (.bool wh) ∧ Below u.heap.size u w') := fun u v hv => by
    have := whole_any [a10, a11, a12, a13] D1 v L1 u rfl hv
    rw [HW.out] at this
    exact this
  have CWr : Hid (∀ u (v : Value) (hv : IsWs u v L1), Calls Try.prog 23 [TV [a10, a11, a12, a13] D1 v].toArray u fun e w' => e = .returned (.bool wh) ∧ Below u.heap.size u w') := fun u v hv => by
    have := ref_whole [a10, a11, a12, a13] D1 v L1 u rfl hv
    rw [HW.out] at this
    exact this
  have CB : Hid (∀ u (v : Value) (hv : IsWs u v L1), Calls Try.prog 15 [TV [a10, a11, a12, a13] D1 v].toArray u fun e w' => e = .returned (.tuple #[.string sb, .bool wh]) ∧ Below u.heap.size u w') := fun u v hv => by
    have := bytes_any [a10, a11, a12, a13] D1 v L1 u hA1 hv
    rw [HB.out, HW.out] at this
    exact this
  have CBr : Hid (∀ u (v : Value) (hv : IsWs u v L1), Calls Try.prog 16 [TV [a10, a11, a12, a13] D1 v].toArray u fun e w' => e = .returned (.tuple #[.string sb, .bool wh]) ∧ Below u.heap.size u w') := fun u v hv => by
    have := ref_bytes [a10, a11, a12, a13] D1 v L1 u hA1 hv
    rw [HB.out, HW.out] at this
    exact this
  have CE : Hid (∀ u (v : Value) (v' : Value) (hv : IsWs u v L1) (hv' : IsWs u v' L2), Calls Try.prog 24 [TV [a10, a11, a12, a13] D1 v, TV [a20, a21, a22, a23] D2 v'].toArray u fun e w' => e = .returned (.bool q) ∧ Below u.heap.size u w') := fun u v v' hv hv' => by
    have := same_any [a10, a11, a12, a13] D1 v L1 [a20, a21, a22, a23] D2 v' L2 u rfl rfl hv hv'
    rw [HQ.out] at this
    exact this
  have CEr : Hid (∀ u (v : Value) (v' : Value) (hv : IsWs u v L1) (hv' : IsWs u v' L2), Calls Try.prog 25 [TV [a10, a11, a12, a13] D1 v, TV [a20, a21, a22, a23] D2 v'].toArray u fun e w' => e = .returned (.bool q) ∧ Below u.heap.size u w') := fun u v v' hv hv' => by
    have := ref_same [a10, a11, a12, a13] D1 v L1 [a20, a21, a22, a23] D2 v' L2 u rfl rfl hv hv'
    rw [HQ.out] at this
    exact this
  have CT1 : Hid (∀ u v, IsWs u v L1 → Calls Try.prog 17 [TV [a10, a11, a12, a13] D1 v].toArray u fun e w' => ∃ v', e = .returned (TV [a10, a11, a12, a13] D1 v') ∧ OW 38 w' u.heap.size v' L1 ∧ Below u.heap.size u w') := fun u v hv => reftxn_any [a10, a11, a12, a13] D1 v L1 u rfl hv hn1
  have CT2 : Hid (∀ u v, IsWs u v L2 → Calls Try.prog 17 [TV [a20, a21, a22, a23] D2 v].toArray u fun e w' => ∃ v', e = .returned (TV [a20, a21, a22, a23] D2 v') ∧ OW 38 w' u.heap.size v' L2 ∧ Below u.heap.size u w') := fun u v hv => reftxn_any [a20, a21, a22, a23] D2 v L2 u rfl hv hn2
  have CF : Hid (∀ u v, IsWs u v [y] → Calls Try.prog 13 #[v] u fun e w' => ∃ v', e = .returned v' ∧ OW 38 w' u.heap.size v' [y] ∧ Below u.heap.size u w') := fun u v hv => refwrites_any v [y] u hv (by show 1 < _; omega)
  clear hyo HR HS HW HB HQ hn1 hn2 hA1 hA2 hO1 hO2 hN1 hN2
  go_enter Try.func3, Try.ntmps3
  have W0 : Hid (Below w.heap.size w w) := Below.refl _ _
  go_wp2_with (first | refine blk_box rfl 25 _ rfl [.string xb, .string xk, .string xv, .bool xg, .bool po0, .int .u8 (pk0 : Int)] rfl ?_)
  intro k1 A1 B1 Z1
  go_wp2_with (first | refine blk_box rfl 35 _ rfl [.int .u64 (l10 : Int), .int .u64 (l11 : Int), .int .u64 (l12 : Int), .int .u64 (l13 : Int), .int .i64 dd1, .bool mo1, sv1, .bool ow1] rfl ?_)
  intro k2 A2 B2 Z2
  go_wp2_with (first | refine blk_box rfl 35 _ rfl [.int .u64 (l20 : Int), .int .u64 (l21 : Int), .int .u64 (l22 : Int), .int .u64 (l23 : Int), .int .i64 dd2, .bool mo2, sv2, .bool ow2] rfl ?_)
  intro k3 A3 B3 Z3
  have hb3 : Below w.heap.size w k3 := ((B1).trans (B2.mono (by omega))).trans (B3.mono (by omega))
  have HP3_ : Hid (Blk k3 (w.heap.size) [.string xb, .string xk, .string xv, .bool xg, .bool po0, .int .u8 (pk0 : Int)]) := ((A1).below B2 (by omega)).below B3 (by omega)
  have LP3_ : Hid (w.heap.size < k3.heap.size) := by show _ < _; omega
  have HX3_ : Hid (Blk k3 (w.heap.size + 1) [.int .u64 (l10 : Int), .int .u64 (l11 : Int), .int .u64 (l12 : Int), .int .u64 (l13 : Int), .int .i64 dd1, .bool mo1, sv1, .bool ow1]) := (A2).below B3 (by omega)
  have LX3_ : Hid (w.heap.size + 1 < k3.heap.size) := by show _ < _; omega
  have HY3_ : Hid (Blk k3 (w.heap.size + 2) [.int .u64 (l20 : Int), .int .u64 (l21 : Int), .int .u64 (l22 : Int), .int .u64 (l23 : Int), .int .i64 dd2, .bool mo2, sv2, .bool ow2]) := A3
  have LY3_ : Hid (w.heap.size + 2 < k3.heap.size) := by show _ < _; omega
  have W3 : Hid (Below w.heap.size w k3) := Below.trans W0.out (hb3.mono W0.out.size)
  have HP3 := HP3_
  have LP3 := LP3_
  have HX3 := HX3_
  have LX3 := LX3_
  have HY3 := HY3_
  have LY3 := LY3_
  clear hb3 A1 B1 Z1 A2 B2 Z2 A3 B3 Z3 W0 HP3_ LP3_ HX3_ LX3_ HY3_ LY3_
  go_wp2_with fail
  refine (examples_any _).mono ?_; rintro e k4 ⟨rfl, hb4⟩
  have HP4 : Hid (Blk k4 (w.heap.size) [.string xb, .string xk, .string xv, .bool xg, .bool po0, .int .u8 (pk0 : Int)]) := Blk.below HP3.out hb4 LP3.out
  have LP4 : Hid (w.heap.size < k4.heap.size) := Nat.lt_of_lt_of_le LP3.out hb4.size
  have HX4 : Hid (Blk k4 (w.heap.size + 1) [.int .u64 (l10 : Int), .int .u64 (l11 : Int), .int .u64 (l12 : Int), .int .u64 (l13 : Int), .int .i64 dd1, .bool mo1, sv1, .bool ow1]) := Blk.below HX3.out hb4 LX3.out
  have LX4 : Hid (w.heap.size + 1 < k4.heap.size) := Nat.lt_of_lt_of_le LX3.out hb4.size
  have HY4 : Hid (Blk k4 (w.heap.size + 2) [.int .u64 (l20 : Int), .int .u64 (l21 : Int), .int .u64 (l22 : Int), .int .u64 (l23 : Int), .int .i64 dd2, .bool mo2, sv2, .bool ow2]) := Blk.below HY3.out hb4 LY3.out
  have LY4 : Hid (w.heap.size + 2 < k4.heap.size) := Nat.lt_of_lt_of_le LY3.out hb4.size
  have W4 : Hid (Below w.heap.size w k4) := Below.trans W3.out (hb4.mono W3.out.size)
  clear hb4 HP3 LP3 HX3 LX3 HY3 LY3 W3 
  go_wp2_with (first | refine blk_load rfl 25 _ rfl (w.heap.size) rfl [.string xb, .string xk, .string xv, .bool xg, .bool po0, .int .u8 (pk0 : Int)] HP4.out _ Try.underlying25 rfl Try.size_p ?_)
  refine (CP.out _).mono ?_; rintro e k5 ⟨rfl, hb5⟩
  have HP5 : Hid (Blk k5 (w.heap.size) [.string xb, .string xk, .string xv, .bool xg, .bool po0, .int .u8 (pk0 : Int)]) := Blk.below HP4.out hb5 LP4.out
  have LP5 : Hid (w.heap.size < k5.heap.size) := Nat.lt_of_lt_of_le LP4.out hb5.size
  have HX5 : Hid (Blk k5 (w.heap.size + 1) [.int .u64 (l10 : Int), .int .u64 (l11 : Int), .int .u64 (l12 : Int), .int .u64 (l13 : Int), .int .i64 dd1, .bool mo1, sv1, .bool ow1]) := Blk.below HX4.out hb5 LX4.out
  have LX5 : Hid (w.heap.size + 1 < k5.heap.size) := Nat.lt_of_lt_of_le LX4.out hb5.size
  have HY5 : Hid (Blk k5 (w.heap.size + 2) [.int .u64 (l20 : Int), .int .u64 (l21 : Int), .int .u64 (l22 : Int), .int .u64 (l23 : Int), .int .i64 dd2, .bool mo2, sv2, .bool ow2]) := Blk.below HY4.out hb5 LY4.out
  have LY5 : Hid (w.heap.size + 2 < k5.heap.size) := Nat.lt_of_lt_of_le LY4.out hb5.size
  have W5 : Hid (Below w.heap.size w k5) := Below.trans W4.out (hb5.mono W4.out.size)
  clear hb5 HP4 LP4 HX4 LX4 HY4 LY4 W4 
  go_wp2_with (first | refine blk_alloc rfl 23 (wc I.none_) rfl Try.info_iw2 ?_)
  intro k6 A6 B6 Z6
  go_wp2_with (first | refine blk_store rfl 23 _ _ rfl (k5.heap.size) rfl (wc y) rfl _ A6 rfl Try.size_w rfl ?_)
  intro k7 A7 U7
  have hb7 : Below k5.heap.size k5 k7 := B6.trans (U7.below (Nat.le_refl _))
  have HW7_ : Hid (Blk k7 (k5.heap.size) (wc y)) := A7
  have LW7_ : Hid (k5.heap.size < k7.heap.size) := by show _ < _; rw [U7.size]; omega
  have HP7 : Hid (Blk k7 (w.heap.size) [.string xb, .string xk, .string xv, .bool xg, .bool po0, .int .u8 (pk0 : Int)]) := Blk.below HP5.out hb7 LP5.out
  have LP7 : Hid (w.heap.size < k7.heap.size) := Nat.lt_of_lt_of_le LP5.out hb7.size
  have HX7 : Hid (Blk k7 (w.heap.size + 1) [.int .u64 (l10 : Int), .int .u64 (l11 : Int), .int .u64 (l12 : Int), .int .u64 (l13 : Int), .int .i64 dd1, .bool mo1, sv1, .bool ow1]) := Blk.below HX5.out hb7 LX5.out
  have LX7 : Hid (w.heap.size + 1 < k7.heap.size) := Nat.lt_of_lt_of_le LX5.out hb7.size
  have HY7 : Hid (Blk k7 (w.heap.size + 2) [.int .u64 (l20 : Int), .int .u64 (l21 : Int), .int .u64 (l22 : Int), .int .u64 (l23 : Int), .int .i64 dd2, .bool mo2, sv2, .bool ow2]) := Blk.below HY5.out hb7 LY5.out
  have LY7 : Hid (w.heap.size + 2 < k7.heap.size) := Nat.lt_of_lt_of_le LY5.out hb7.size
  have W7 : Hid (Below w.heap.size w k7) := Below.trans W5.out (hb7.mono W5.out.size)
  have HW7 := HW7_
  have LW7 := LW7_
  clear hb7 A6 B6 Z6 A7 U7 HW7_ LW7_ HP5 LP5 HX5 LX5 HY5 LY5 W5
  go_wp2_with (first | refine blk_load rfl 23 _ rfl (k5.heap.size) rfl (wc y) HW7.out _ Try.underlying23 rfl Try.size_w ?_ | refine build_iw rfl _ rfl y rfl ?_)
  intro k8 A8 B8 Z8
  have hb8 : Below k7.heap.size k7 k8 := B8
  have HG8_ : Hid (Blk k8 (k7.heap.size) (wc y)) := A8
  have LG8_ : Hid (k7.heap.size < k8.heap.size) := by show _ < _; omega
  have HP8 : Hid (Blk k8 (w.heap.size) [.string xb, .string xk, .string xv, .bool xg, .bool po0, .int .u8 (pk0 : Int)]) := Blk.below HP7.out hb8 LP7.out
  have LP8 : Hid (w.heap.size < k8.heap.size) := Nat.lt_of_lt_of_le LP7.out hb8.size
  have HX8 : Hid (Blk k8 (w.heap.size + 1) [.int .u64 (l10 : Int), .int .u64 (l11 : Int), .int .u64 (l12 : Int), .int .u64 (l13 : Int), .int .i64 dd1, .bool mo1, sv1, .bool ow1]) := Blk.below HX7.out hb8 LX7.out
  have LX8 : Hid (w.heap.size + 1 < k8.heap.size) := Nat.lt_of_lt_of_le LX7.out hb8.size
  have HY8 : Hid (Blk k8 (w.heap.size + 2) [.int .u64 (l20 : Int), .int .u64 (l21 : Int), .int .u64 (l22 : Int), .int .u64 (l23 : Int), .int .i64 dd2, .bool mo2, sv2, .bool ow2]) := Blk.below HY7.out hb8 LY7.out
  have LY8 : Hid (w.heap.size + 2 < k8.heap.size) := Nat.lt_of_lt_of_le LY7.out hb8.size
  have HW8 : Hid (Blk k8 (k5.heap.size) (wc y)) := Blk.below HW7.out hb8 LW7.out
  have LW8 : Hid (k5.heap.size < k8.heap.size) := Nat.lt_of_lt_of_le LW7.out hb8.size
  have W8 : Hid (Below w.heap.size w k8) := Below.trans W7.out (hb8.mono W7.out.size)
  have HG8 := HG8_
  have LG8 := LG8_
  clear hb8 A8 B8 Z8 HP7 LP7 HX7 LX7 HY7 LY7 HW7 LW7 W7 HG8_ LG8_
  go_wp2_with fail
  refine (CF.out _ _ (IsWs.one HG8.out LG8.out)).mono ?_; rintro e k9 ⟨v, rfl, ho, hb9⟩
  have HP9 : Hid (Blk k9 (w.heap.size) [.string xb, .string xk, .string xv, .bool xg, .bool po0, .int .u8 (pk0 : Int)]) := Blk.below HP8.out hb9 LP8.out
  have LP9 : Hid (w.heap.size < k9.heap.size) := Nat.lt_of_lt_of_le LP8.out hb9.size
  have HX9 : Hid (Blk k9 (w.heap.size + 1) [.int .u64 (l10 : Int), .int .u64 (l11 : Int), .int .u64 (l12 : Int), .int .u64 (l13 : Int), .int .i64 dd1, .bool mo1, sv1, .bool ow1]) := Blk.below HX8.out hb9 LX8.out
  have LX9 : Hid (w.heap.size + 1 < k9.heap.size) := Nat.lt_of_lt_of_le LX8.out hb9.size
  have HY9 : Hid (Blk k9 (w.heap.size + 2) [.int .u64 (l20 : Int), .int .u64 (l21 : Int), .int .u64 (l22 : Int), .int .u64 (l23 : Int), .int .i64 dd2, .bool mo2, sv2, .bool ow2]) := Blk.below HY8.out hb9 LY8.out
  have LY9 : Hid (w.heap.size + 2 < k9.heap.size) := Nat.lt_of_lt_of_le LY8.out hb9.size
  have HW9 : Hid (Blk k9 (k5.heap.size) (wc y)) := Blk.below HW8.out hb9 LW8.out
  have LW9 : Hid (k5.heap.size < k9.heap.size) := Nat.lt_of_lt_of_le LW8.out hb9.size
  have HG9 : Hid (Blk k9 (k7.heap.size) (wc y)) := Blk.below HG8.out hb9 LG8.out
  have LG9 : Hid (k7.heap.size < k9.heap.size) := Nat.lt_of_lt_of_le LG8.out hb9.size
  have W9 : Hid (Below w.heap.size w k9) := Below.trans W8.out (hb9.mono W8.out.size)
  clear hb9 HP8 LP8 HX8 LX8 HY8 LY8 HW8 LW8 HG8 LG8 W8 
  obtain ⟨gr, go, gc, hv, _, hrow⟩ := IsWs.at ho.is 0 (by show 0 < 1; omega)
  subst hv
  have hix : ∀ w, (Instr.indexAt 39 (.slice (some ⟨gr, go, none⟩) 1 gc) (.int .i64 0)).run Try.prog w = .ok (.pointer (some ⟨gr, go, none⟩)) w := fun w => by have := index_rw gr go 1 gc 0 (by omega) w; simpa using this
  have HROW : Hid (k9.rangeAt gr go (wc y)) := by have := hrow; rwa [Nat.mul_zero, Nat.add_zero] at this
  clear ho hrow
  go_wp2_with (first | refine mid_load rfl 38 _ rfl gr go rfl (wc y) HROW.out _ Try.underlying38 rfl Try.size_rw ?_ | refine blk_alloc rfl 38 (wc I.none_) rfl Try.info_rw2 ?_)
  intro k10 A10 B10 Z10
  go_wp2_with (first | refine blk_store rfl 38 _ _ rfl (k9.heap.size) rfl (wc y) rfl _ A10 rfl Try.size_rw rfl ?_)
  intro k11 A11 U11
  have hb11 : Below k9.heap.size k9 k11 := B10.trans (U11.below (Nat.le_refl _))
  have HV11_ : Hid (Blk k11 (k9.heap.size) (wc y)) := A11
  have LV11_ : Hid (k9.heap.size < k11.heap.size) := by show _ < _; rw [U11.size]; omega
  have HP11 : Hid (Blk k11 (w.heap.size) [.string xb, .string xk, .string xv, .bool xg, .bool po0, .int .u8 (pk0 : Int)]) := Blk.below HP9.out hb11 LP9.out
  have LP11 : Hid (w.heap.size < k11.heap.size) := Nat.lt_of_lt_of_le LP9.out hb11.size
  have HX11 : Hid (Blk k11 (w.heap.size + 1) [.int .u64 (l10 : Int), .int .u64 (l11 : Int), .int .u64 (l12 : Int), .int .u64 (l13 : Int), .int .i64 dd1, .bool mo1, sv1, .bool ow1]) := Blk.below HX9.out hb11 LX9.out
  have LX11 : Hid (w.heap.size + 1 < k11.heap.size) := Nat.lt_of_lt_of_le LX9.out hb11.size
  have HY11 : Hid (Blk k11 (w.heap.size + 2) [.int .u64 (l20 : Int), .int .u64 (l21 : Int), .int .u64 (l22 : Int), .int .u64 (l23 : Int), .int .i64 dd2, .bool mo2, sv2, .bool ow2]) := Blk.below HY9.out hb11 LY9.out
  have LY11 : Hid (w.heap.size + 2 < k11.heap.size) := Nat.lt_of_lt_of_le LY9.out hb11.size
  have HW11 : Hid (Blk k11 (k5.heap.size) (wc y)) := Blk.below HW9.out hb11 LW9.out
  have LW11 : Hid (k5.heap.size < k11.heap.size) := Nat.lt_of_lt_of_le LW9.out hb11.size
  have HG11 : Hid (Blk k11 (k7.heap.size) (wc y)) := Blk.below HG9.out hb11 LG9.out
  have LG11 : Hid (k7.heap.size < k11.heap.size) := Nat.lt_of_lt_of_le LG9.out hb11.size
  have W11 : Hid (Below w.heap.size w k11) := Below.trans W9.out (hb11.mono W9.out.size)
  have HV11 := HV11_
  have LV11 := LV11_
  clear hb11 A10 B10 Z10 A11 U11 HV11_ LV11_ HP9 LP9 HX9 LX9 HY9 LY9 HW9 LW9 HG9 LG9 W9
  clear hix HROW
  go_wp2_with (first | refine blk_load rfl 35 _ rfl (w.heap.size + 1) rfl [.int .u64 (l10 : Int), .int .u64 (l11 : Int), .int .u64 (l12 : Int), .int .u64 (l13 : Int), .int .i64 dd1, .bool mo1, sv1, .bool ow1] HX11.out _ Try.underlying35 rfl Try.size_dl ?_)
  refine (CD1.out _ (IsPs.below KI1.out W11.out)).mono ?_; rintro e k12 ⟨v, rfl, hi, hb12⟩
  have HP12 : Hid (Blk k12 (w.heap.size) [.string xb, .string xk, .string xv, .bool xg, .bool po0, .int .u8 (pk0 : Int)]) := Blk.below HP11.out hb12 LP11.out
  have LP12 : Hid (w.heap.size < k12.heap.size) := Nat.lt_of_lt_of_le LP11.out hb12.size
  have HX12 : Hid (Blk k12 (w.heap.size + 1) [.int .u64 (l10 : Int), .int .u64 (l11 : Int), .int .u64 (l12 : Int), .int .u64 (l13 : Int), .int .i64 dd1, .bool mo1, sv1, .bool ow1]) := Blk.below HX11.out hb12 LX11.out
  have LX12 : Hid (w.heap.size + 1 < k12.heap.size) := Nat.lt_of_lt_of_le LX11.out hb12.size
  have HY12 : Hid (Blk k12 (w.heap.size + 2) [.int .u64 (l20 : Int), .int .u64 (l21 : Int), .int .u64 (l22 : Int), .int .u64 (l23 : Int), .int .i64 dd2, .bool mo2, sv2, .bool ow2]) := Blk.below HY11.out hb12 LY11.out
  have LY12 : Hid (w.heap.size + 2 < k12.heap.size) := Nat.lt_of_lt_of_le LY11.out hb12.size
  have HW12 : Hid (Blk k12 (k5.heap.size) (wc y)) := Blk.below HW11.out hb12 LW11.out
  have LW12 : Hid (k5.heap.size < k12.heap.size) := Nat.lt_of_lt_of_le LW11.out hb12.size
  have HG12 : Hid (Blk k12 (k7.heap.size) (wc y)) := Blk.below HG11.out hb12 LG11.out
  have LG12 : Hid (k7.heap.size < k12.heap.size) := Nat.lt_of_lt_of_le LG11.out hb12.size
  have HV12 : Hid (Blk k12 (k9.heap.size) (wc y)) := Blk.below HV11.out hb12 LV11.out
  have LV12 : Hid (k9.heap.size < k12.heap.size) := Nat.lt_of_lt_of_le LV11.out hb12.size
  have W12 : Hid (Below w.heap.size w k12) := Below.trans W11.out (hb12.mono W11.out.size)
  clear hb12 HP11 LP11 HX11 LX11 HY11 LY11 HW11 LW11 HG11 LG11 HV11 LV11 W11 
  obtain ⟨s1, c1, ev, _⟩ := hi.is
  subst ev
  have XV112 := Lib.hid hi
  clear hi
  go_wp2_with (first | refine blk_alloc rfl 43 (ks .u64 [0, 0, 0, 0] ++ [Value.int .i64 0, .slice none 0 0]) rfl Try.info_itx ?_)
  intro k13 A13 B13 Z13
  go_wp2_with (first | refine blk_store rfl 43 _ _ rfl (k12.heap.size) rfl [Value.int .u64 (a10 : Int), .int .u64 (a11 : Int), .int .u64 (a12 : Int), .int .u64 (a13 : Int), .int .i64 D1, .slice s1 L1.length c1] rfl _ A13 rfl Try.size_itx rfl ?_)
  intro k14 A14 U14
  have hb14 : Below k12.heap.size k12 k14 := B13.trans (U14.below (Nat.le_refl _))
  have HA14_ : Hid (Blk k14 (k12.heap.size) [Value.int .u64 (a10 : Int), .int .u64 (a11 : Int), .int .u64 (a12 : Int), .int .u64 (a13 : Int), .int .i64 D1, .slice s1 L1.length c1]) := A14
  have LA14_ : Hid (k12.heap.size < k14.heap.size) := by show _ < _; rw [U14.size]; omega
  have HP14 : Hid (Blk k14 (w.heap.size) [.string xb, .string xk, .string xv, .bool xg, .bool po0, .int .u8 (pk0 : Int)]) := Blk.below HP12.out hb14 LP12.out
  have LP14 : Hid (w.heap.size < k14.heap.size) := Nat.lt_of_lt_of_le LP12.out hb14.size
  have HX14 : Hid (Blk k14 (w.heap.size + 1) [.int .u64 (l10 : Int), .int .u64 (l11 : Int), .int .u64 (l12 : Int), .int .u64 (l13 : Int), .int .i64 dd1, .bool mo1, sv1, .bool ow1]) := Blk.below HX12.out hb14 LX12.out
  have LX14 : Hid (w.heap.size + 1 < k14.heap.size) := Nat.lt_of_lt_of_le LX12.out hb14.size
  have HY14 : Hid (Blk k14 (w.heap.size + 2) [.int .u64 (l20 : Int), .int .u64 (l21 : Int), .int .u64 (l22 : Int), .int .u64 (l23 : Int), .int .i64 dd2, .bool mo2, sv2, .bool ow2]) := Blk.below HY12.out hb14 LY12.out
  have LY14 : Hid (w.heap.size + 2 < k14.heap.size) := Nat.lt_of_lt_of_le LY12.out hb14.size
  have HW14 : Hid (Blk k14 (k5.heap.size) (wc y)) := Blk.below HW12.out hb14 LW12.out
  have LW14 : Hid (k5.heap.size < k14.heap.size) := Nat.lt_of_lt_of_le LW12.out hb14.size
  have HG14 : Hid (Blk k14 (k7.heap.size) (wc y)) := Blk.below HG12.out hb14 LG12.out
  have LG14 : Hid (k7.heap.size < k14.heap.size) := Nat.lt_of_lt_of_le LG12.out hb14.size
  have HV14 : Hid (Blk k14 (k9.heap.size) (wc y)) := Blk.below HV12.out hb14 LV12.out
  have LV14 : Hid (k9.heap.size < k14.heap.size) := Nat.lt_of_lt_of_le LV12.out hb14.size
  have XV114 := Lib.hid (IsWs.below XV112.out hb14)
  have W14 : Hid (Below w.heap.size w k14) := Below.trans W12.out (hb14.mono W12.out.size)
  have HA14 := HA14_
  have LA14 := LA14_
  clear hb14 A13 B13 Z13 A14 U14 HA14_ LA14_ HP12 LP12 HX12 LX12 HY12 LY12 HW12 LW12 HG12 LG12 HV12 LV12 XV112 W12
  go_wp2_with (first | refine blk_load rfl 35 _ rfl (w.heap.size + 2) rfl [.int .u64 (l20 : Int), .int .u64 (l21 : Int), .int .u64 (l22 : Int), .int .u64 (l23 : Int), .int .i64 dd2, .bool mo2, sv2, .bool ow2] HY14.out _ Try.underlying35 rfl Try.size_dl ?_)
  refine (CD2.out _ (IsPs.below KI2.out W14.out)).mono ?_; rintro e k15 ⟨v, rfl, hi, hb15⟩
  have HP15 : Hid (Blk k15 (w.heap.size) [.string xb, .string xk, .string xv, .bool xg, .bool po0, .int .u8 (pk0 : Int)]) := Blk.below HP14.out hb15 LP14.out
  have LP15 : Hid (w.heap.size < k15.heap.size) := Nat.lt_of_lt_of_le LP14.out hb15.size
  have HX15 : Hid (Blk k15 (w.heap.size + 1) [.int .u64 (l10 : Int), .int .u64 (l11 : Int), .int .u64 (l12 : Int), .int .u64 (l13 : Int), .int .i64 dd1, .bool mo1, sv1, .bool ow1]) := Blk.below HX14.out hb15 LX14.out
  have LX15 : Hid (w.heap.size + 1 < k15.heap.size) := Nat.lt_of_lt_of_le LX14.out hb15.size
  have HY15 : Hid (Blk k15 (w.heap.size + 2) [.int .u64 (l20 : Int), .int .u64 (l21 : Int), .int .u64 (l22 : Int), .int .u64 (l23 : Int), .int .i64 dd2, .bool mo2, sv2, .bool ow2]) := Blk.below HY14.out hb15 LY14.out
  have LY15 : Hid (w.heap.size + 2 < k15.heap.size) := Nat.lt_of_lt_of_le LY14.out hb15.size
  have HW15 : Hid (Blk k15 (k5.heap.size) (wc y)) := Blk.below HW14.out hb15 LW14.out
  have LW15 : Hid (k5.heap.size < k15.heap.size) := Nat.lt_of_lt_of_le LW14.out hb15.size
  have HG15 : Hid (Blk k15 (k7.heap.size) (wc y)) := Blk.below HG14.out hb15 LG14.out
  have LG15 : Hid (k7.heap.size < k15.heap.size) := Nat.lt_of_lt_of_le LG14.out hb15.size
  have HV15 : Hid (Blk k15 (k9.heap.size) (wc y)) := Blk.below HV14.out hb15 LV14.out
  have LV15 : Hid (k9.heap.size < k15.heap.size) := Nat.lt_of_lt_of_le LV14.out hb15.size
  have HA15 : Hid (Blk k15 (k12.heap.size) [Value.int .u64 (a10 : Int), .int .u64 (a11 : Int), .int .u64 (a12 : Int), .int .u64 (a13 : Int), .int .i64 D1, .slice s1 L1.length c1]) := Blk.below HA14.out hb15 LA14.out
  have LA15 : Hid (k12.heap.size < k15.heap.size) := Nat.lt_of_lt_of_le LA14.out hb15.size
  have XV115 := Lib.hid (IsWs.below XV114.out hb15)
  have W15 : Hid (Below w.heap.size w k15) := Below.trans W14.out (hb15.mono W14.out.size)
  clear hb15 HP14 LP14 HX14 LX14 HY14 LY14 HW14 LW14 HG14 LG14 HV14 LV14 HA14 LA14 XV114 W14 
  obtain ⟨s2, c2, ev, _⟩ := hi.is
  subst ev
  have XV215 := Lib.hid hi
  clear hi
  go_wp2_with (first | refine blk_alloc rfl 43 (ks .u64 [0, 0, 0, 0] ++ [Value.int .i64 0, .slice none 0 0]) rfl Try.info_itx ?_)
  intro k16 A16 B16 Z16
  go_wp2_with (first | refine blk_store rfl 43 _ _ rfl (k15.heap.size) rfl [Value.int .u64 (a20 : Int), .int .u64 (a21 : Int), .int .u64 (a22 : Int), .int .u64 (a23 : Int), .int .i64 D2, .slice s2 L2.length c2] rfl _ A16 rfl Try.size_itx rfl ?_)
  intro k17 A17 U17
  have hb17 : Below k15.heap.size k15 k17 := B16.trans (U17.below (Nat.le_refl _))
  have HB17_ : Hid (Blk k17 (k15.heap.size) [Value.int .u64 (a20 : Int), .int .u64 (a21 : Int), .int .u64 (a22 : Int), .int .u64 (a23 : Int), .int .i64 D2, .slice s2 L2.length c2]) := A17
  have LB17_ : Hid (k15.heap.size < k17.heap.size) := by show _ < _; rw [U17.size]; omega
  have HP17 : Hid (Blk k17 (w.heap.size) [.string xb, .string xk, .string xv, .bool xg, .bool po0, .int .u8 (pk0 : Int)]) := Blk.below HP15.out hb17 LP15.out
  have LP17 : Hid (w.heap.size < k17.heap.size) := Nat.lt_of_lt_of_le LP15.out hb17.size
  have HX17 : Hid (Blk k17 (w.heap.size + 1) [.int .u64 (l10 : Int), .int .u64 (l11 : Int), .int .u64 (l12 : Int), .int .u64 (l13 : Int), .int .i64 dd1, .bool mo1, sv1, .bool ow1]) := Blk.below HX15.out hb17 LX15.out
  have LX17 : Hid (w.heap.size + 1 < k17.heap.size) := Nat.lt_of_lt_of_le LX15.out hb17.size
  have HY17 : Hid (Blk k17 (w.heap.size + 2) [.int .u64 (l20 : Int), .int .u64 (l21 : Int), .int .u64 (l22 : Int), .int .u64 (l23 : Int), .int .i64 dd2, .bool mo2, sv2, .bool ow2]) := Blk.below HY15.out hb17 LY15.out
  have LY17 : Hid (w.heap.size + 2 < k17.heap.size) := Nat.lt_of_lt_of_le LY15.out hb17.size
  have HW17 : Hid (Blk k17 (k5.heap.size) (wc y)) := Blk.below HW15.out hb17 LW15.out
  have LW17 : Hid (k5.heap.size < k17.heap.size) := Nat.lt_of_lt_of_le LW15.out hb17.size
  have HG17 : Hid (Blk k17 (k7.heap.size) (wc y)) := Blk.below HG15.out hb17 LG15.out
  have LG17 : Hid (k7.heap.size < k17.heap.size) := Nat.lt_of_lt_of_le LG15.out hb17.size
  have HV17 : Hid (Blk k17 (k9.heap.size) (wc y)) := Blk.below HV15.out hb17 LV15.out
  have LV17 : Hid (k9.heap.size < k17.heap.size) := Nat.lt_of_lt_of_le LV15.out hb17.size
  have HA17 : Hid (Blk k17 (k12.heap.size) [Value.int .u64 (a10 : Int), .int .u64 (a11 : Int), .int .u64 (a12 : Int), .int .u64 (a13 : Int), .int .i64 D1, .slice s1 L1.length c1]) := Blk.below HA15.out hb17 LA15.out
  have LA17 : Hid (k12.heap.size < k17.heap.size) := Nat.lt_of_lt_of_le LA15.out hb17.size
  have XV117 := Lib.hid (IsWs.below XV115.out hb17)
  have XV217 := Lib.hid (IsWs.below XV215.out hb17)
  have W17 : Hid (Below w.heap.size w k17) := Below.trans W15.out (hb17.mono W15.out.size)
  have HB17 := HB17_
  have LB17 := LB17_
  clear hb17 A16 B16 Z16 A17 U17 HB17_ LB17_ HP15 LP15 HX15 LX15 HY15 LY15 HW15 LW15 HG15 LG15 HV15 LV15 HA15 LA15 XV115 XV215 W15
  go_wp2_with (first | refine blk_load rfl 43 _ rfl (k12.heap.size) rfl [Value.int .u64 (a10 : Int), .int .u64 (a11 : Int), .int .u64 (a12 : Int), .int .u64 (a13 : Int), .int .i64 D1, .slice s1 L1.length c1] HA17.out _ Try.underlying43 rfl Try.size_itx ?_)
  refine (CB.out _ _ XV117.out).mono ?_; rintro e k18 ⟨rfl, hb18⟩
  have HP18 : Hid (Blk k18 (w.heap.size) [.string xb, .string xk, .string xv, .bool xg, .bool po0, .int .u8 (pk0 : Int)]) := Blk.below HP17.out hb18 LP17.out
  have LP18 : Hid (w.heap.size < k18.heap.size) := Nat.lt_of_lt_of_le LP17.out hb18.size
  have HX18 : Hid (Blk k18 (w.heap.size + 1) [.int .u64 (l10 : Int), .int .u64 (l11 : Int), .int .u64 (l12 : Int), .int .u64 (l13 : Int), .int .i64 dd1, .bool mo1, sv1, .bool ow1]) := Blk.below HX17.out hb18 LX17.out
  have LX18 : Hid (w.heap.size + 1 < k18.heap.size) := Nat.lt_of_lt_of_le LX17.out hb18.size
  have HY18 : Hid (Blk k18 (w.heap.size + 2) [.int .u64 (l20 : Int), .int .u64 (l21 : Int), .int .u64 (l22 : Int), .int .u64 (l23 : Int), .int .i64 dd2, .bool mo2, sv2, .bool ow2]) := Blk.below HY17.out hb18 LY17.out
  have LY18 : Hid (w.heap.size + 2 < k18.heap.size) := Nat.lt_of_lt_of_le LY17.out hb18.size
  have HW18 : Hid (Blk k18 (k5.heap.size) (wc y)) := Blk.below HW17.out hb18 LW17.out
  have LW18 : Hid (k5.heap.size < k18.heap.size) := Nat.lt_of_lt_of_le LW17.out hb18.size
  have HG18 : Hid (Blk k18 (k7.heap.size) (wc y)) := Blk.below HG17.out hb18 LG17.out
  have LG18 : Hid (k7.heap.size < k18.heap.size) := Nat.lt_of_lt_of_le LG17.out hb18.size
  have HV18 : Hid (Blk k18 (k9.heap.size) (wc y)) := Blk.below HV17.out hb18 LV17.out
  have LV18 : Hid (k9.heap.size < k18.heap.size) := Nat.lt_of_lt_of_le LV17.out hb18.size
  have HA18 : Hid (Blk k18 (k12.heap.size) [Value.int .u64 (a10 : Int), .int .u64 (a11 : Int), .int .u64 (a12 : Int), .int .u64 (a13 : Int), .int .i64 D1, .slice s1 L1.length c1]) := Blk.below HA17.out hb18 LA17.out
  have LA18 : Hid (k12.heap.size < k18.heap.size) := Nat.lt_of_lt_of_le LA17.out hb18.size
  have HB18 : Hid (Blk k18 (k15.heap.size) [Value.int .u64 (a20 : Int), .int .u64 (a21 : Int), .int .u64 (a22 : Int), .int .u64 (a23 : Int), .int .i64 D2, .slice s2 L2.length c2]) := Blk.below HB17.out hb18 LB17.out
  have LB18 : Hid (k15.heap.size < k18.heap.size) := Nat.lt_of_lt_of_le LB17.out hb18.size
  have XV118 := Lib.hid (IsWs.below XV117.out hb18)
  have XV218 := Lib.hid (IsWs.below XV217.out hb18)
  have W18 : Hid (Below w.heap.size w k18) := Below.trans W17.out (hb18.mono W17.out.size)
  clear hb18 HP17 LP17 HX17 LX17 HY17 LY17 HW17 LW17 HG17 LG17 HV17 LV17 HA17 LA17 HB17 LB17 XV117 XV217 W17 
  go_wp2_with (first | refine blk_load rfl 43 _ rfl (k12.heap.size) rfl [Value.int .u64 (a10 : Int), .int .u64 (a11 : Int), .int .u64 (a12 : Int), .int .u64 (a13 : Int), .int .i64 D1, .slice s1 L1.length c1] HA18.out _ Try.underlying43 rfl Try.size_itx ?_)
  refine (CT1.out _ _ XV118.out).mono ?_; rintro e k19 ⟨v, rfl, ho, hb19⟩
  have HP19 : Hid (Blk k19 (w.heap.size) [.string xb, .string xk, .string xv, .bool xg, .bool po0, .int .u8 (pk0 : Int)]) := Blk.below HP18.out hb19 LP18.out
  have LP19 : Hid (w.heap.size < k19.heap.size) := Nat.lt_of_lt_of_le LP18.out hb19.size
  have HX19 : Hid (Blk k19 (w.heap.size + 1) [.int .u64 (l10 : Int), .int .u64 (l11 : Int), .int .u64 (l12 : Int), .int .u64 (l13 : Int), .int .i64 dd1, .bool mo1, sv1, .bool ow1]) := Blk.below HX18.out hb19 LX18.out
  have LX19 : Hid (w.heap.size + 1 < k19.heap.size) := Nat.lt_of_lt_of_le LX18.out hb19.size
  have HY19 : Hid (Blk k19 (w.heap.size + 2) [.int .u64 (l20 : Int), .int .u64 (l21 : Int), .int .u64 (l22 : Int), .int .u64 (l23 : Int), .int .i64 dd2, .bool mo2, sv2, .bool ow2]) := Blk.below HY18.out hb19 LY18.out
  have LY19 : Hid (w.heap.size + 2 < k19.heap.size) := Nat.lt_of_lt_of_le LY18.out hb19.size
  have HW19 : Hid (Blk k19 (k5.heap.size) (wc y)) := Blk.below HW18.out hb19 LW18.out
  have LW19 : Hid (k5.heap.size < k19.heap.size) := Nat.lt_of_lt_of_le LW18.out hb19.size
  have HG19 : Hid (Blk k19 (k7.heap.size) (wc y)) := Blk.below HG18.out hb19 LG18.out
  have LG19 : Hid (k7.heap.size < k19.heap.size) := Nat.lt_of_lt_of_le LG18.out hb19.size
  have HV19 : Hid (Blk k19 (k9.heap.size) (wc y)) := Blk.below HV18.out hb19 LV18.out
  have LV19 : Hid (k9.heap.size < k19.heap.size) := Nat.lt_of_lt_of_le LV18.out hb19.size
  have HA19 : Hid (Blk k19 (k12.heap.size) [Value.int .u64 (a10 : Int), .int .u64 (a11 : Int), .int .u64 (a12 : Int), .int .u64 (a13 : Int), .int .i64 D1, .slice s1 L1.length c1]) := Blk.below HA18.out hb19 LA18.out
  have LA19 : Hid (k12.heap.size < k19.heap.size) := Nat.lt_of_lt_of_le LA18.out hb19.size
  have HB19 : Hid (Blk k19 (k15.heap.size) [Value.int .u64 (a20 : Int), .int .u64 (a21 : Int), .int .u64 (a22 : Int), .int .u64 (a23 : Int), .int .i64 D2, .slice s2 L2.length c2]) := Blk.below HB18.out hb19 LB18.out
  have LB19 : Hid (k15.heap.size < k19.heap.size) := Nat.lt_of_lt_of_le LB18.out hb19.size
  have XV119 := Lib.hid (IsWs.below XV118.out hb19)
  have XV219 := Lib.hid (IsWs.below XV218.out hb19)
  have W19 : Hid (Below w.heap.size w k19) := Below.trans W18.out (hb19.mono W18.out.size)
  clear hb19 HP18 LP18 HX18 LX18 HY18 LY18 HW18 LW18 HG18 LG18 HV18 LV18 HA18 LA18 HB18 LB18 XV118 XV218 W18 
  obtain ⟨pR, qR, ev, _⟩ := ho.is.is
  subst ev
  have XR19 := Lib.hid ho
  clear ho
  go_wp2_with fail
  refine (CBr.out _ _ (OW.is XR19.out)).mono ?_; rintro e k20 ⟨rfl, hb20⟩
  have HP20 : Hid (Blk k20 (w.heap.size) [.string xb, .string xk, .string xv, .bool xg, .bool po0, .int .u8 (pk0 : Int)]) := Blk.below HP19.out hb20 LP19.out
  have LP20 : Hid (w.heap.size < k20.heap.size) := Nat.lt_of_lt_of_le LP19.out hb20.size
  have HX20 : Hid (Blk k20 (w.heap.size + 1) [.int .u64 (l10 : Int), .int .u64 (l11 : Int), .int .u64 (l12 : Int), .int .u64 (l13 : Int), .int .i64 dd1, .bool mo1, sv1, .bool ow1]) := Blk.below HX19.out hb20 LX19.out
  have LX20 : Hid (w.heap.size + 1 < k20.heap.size) := Nat.lt_of_lt_of_le LX19.out hb20.size
  have HY20 : Hid (Blk k20 (w.heap.size + 2) [.int .u64 (l20 : Int), .int .u64 (l21 : Int), .int .u64 (l22 : Int), .int .u64 (l23 : Int), .int .i64 dd2, .bool mo2, sv2, .bool ow2]) := Blk.below HY19.out hb20 LY19.out
  have LY20 : Hid (w.heap.size + 2 < k20.heap.size) := Nat.lt_of_lt_of_le LY19.out hb20.size
  have HW20 : Hid (Blk k20 (k5.heap.size) (wc y)) := Blk.below HW19.out hb20 LW19.out
  have LW20 : Hid (k5.heap.size < k20.heap.size) := Nat.lt_of_lt_of_le LW19.out hb20.size
  have HG20 : Hid (Blk k20 (k7.heap.size) (wc y)) := Blk.below HG19.out hb20 LG19.out
  have LG20 : Hid (k7.heap.size < k20.heap.size) := Nat.lt_of_lt_of_le LG19.out hb20.size
  have HV20 : Hid (Blk k20 (k9.heap.size) (wc y)) := Blk.below HV19.out hb20 LV19.out
  have LV20 : Hid (k9.heap.size < k20.heap.size) := Nat.lt_of_lt_of_le LV19.out hb20.size
  have HA20 : Hid (Blk k20 (k12.heap.size) [Value.int .u64 (a10 : Int), .int .u64 (a11 : Int), .int .u64 (a12 : Int), .int .u64 (a13 : Int), .int .i64 D1, .slice s1 L1.length c1]) := Blk.below HA19.out hb20 LA19.out
  have LA20 : Hid (k12.heap.size < k20.heap.size) := Nat.lt_of_lt_of_le LA19.out hb20.size
  have HB20 : Hid (Blk k20 (k15.heap.size) [Value.int .u64 (a20 : Int), .int .u64 (a21 : Int), .int .u64 (a22 : Int), .int .u64 (a23 : Int), .int .i64 D2, .slice s2 L2.length c2]) := Blk.below HB19.out hb20 LB19.out
  have LB20 : Hid (k15.heap.size < k20.heap.size) := Nat.lt_of_lt_of_le LB19.out hb20.size
  have XV120 := Lib.hid (IsWs.below XV119.out hb20)
  have XV220 := Lib.hid (IsWs.below XV219.out hb20)
  have XR20 := Lib.hid (OW.below XR19.out hb20)
  have W20 : Hid (Below w.heap.size w k20) := Below.trans W19.out (hb20.mono W19.out.size)
  clear hb20 HP19 LP19 HX19 LX19 HY19 LY19 HW19 LW19 HG19 LG19 HV19 LV19 HA19 LA19 HB19 LB19 XV119 XV219 XR19 W19 
  have KW : Hid (∀ u, Below k20.heap.size k20 u → u.rangeAt (k5.heap.size) 0 (wc y)) := fun u hu => (Blk.below HW20.out hu LW20.out).1
  have KV : Hid (∀ u, Below k20.heap.size k20 u → u.rangeAt (k9.heap.size) 0 (wc y)) := fun u hu => (Blk.below HV20.out hu LV20.out).1
  have KA : Hid (∀ u, Below k20.heap.size k20 u → u.rangeAt (k12.heap.size) 0 [Value.int .u64 (a10 : Int), .int .u64 (a11 : Int), .int .u64 (a12 : Int), .int .u64 (a13 : Int), .int .i64 D1, .slice s1 L1.length c1]) := fun u hu => (Blk.below HA20.out hu LA20.out).1
  have KB : Hid (∀ u, Below k20.heap.size k20 u → u.rangeAt (k15.heap.size) 0 [Value.int .u64 (a20 : Int), .int .u64 (a21 : Int), .int .u64 (a22 : Int), .int .u64 (a23 : Int), .int .i64 D2, .slice s2 L2.length c2]) := fun u hu => (Blk.below HB20.out hu LB20.out).1
  have KI1 : Hid (∀ u, Below k20.heap.size k20 u → IsWs u (.slice s1 L1.length c1) L1) := fun u hu => IsWs.below XV120.out hu
  have KI2 : Hid (∀ u, Below k20.heap.size k20 u → IsWs u (.slice s2 L2.length c2) L2) := fun u hu => IsWs.below XV220.out hu
  have rr : Hid ((R == R) = true) := by show _ = _; simp
  have ss : Hid ((sz == sz) = true) := by show _ = _; simp
  have ww : Hid ((wh == wh) = true) := by show _ = _; simp
  have qq : Hid ((q == q) = true) := by show _ = _; simp
  have bb : Hid ((sb.toList == sb.toList) = true) := by show _ = _; simp
  have WF : Hid (Below w.heap.size w k20) := W20.out
  go_wp2_with fail
  refine region_rel [Spc.eq (.bool true), Spc.eq (.bool true), Spc.eq (.agg (wc y).toArray), Spc.eq (.bool R), Spc.eq (.agg (wc y).toArray), Spc.eq (.bool R), Spc.eq (.bool true), Spc.eq (.bool true), Spc.eq (.bool true), Spc.eq (.agg (wc y).toArray), Spc.eq (.int .i64 sz), Spc.eq (.agg (wc y).toArray), Spc.eq (.int .i64 sz), Spc.eq (.bool true), Spc.eq (.bool true), Spc.eq (.bool true), Spc.eq (.agg [Value.int .u64 (a10 : Int), .int .u64 (a11 : Int), .int .u64 (a12 : Int), .int .u64 (a13 : Int), .int .i64 D1, .slice s1 L1.length c1].toArray), Spc.eq (.bool wh), Spc.eq (.agg [Value.int .u64 (a10 : Int), .int .u64 (a11 : Int), .int .u64 (a12 : Int), .int .u64 (a13 : Int), .int .i64 D1, .slice s1 L1.length c1].toArray), Spc.tx 38 k20.heap.size [a10, a11, a12, a13] D1 L1, Spc.eq (.bool wh), Spc.eq (.bool true), Spc.eq (.bool true), Spc.eq (.bool true), Spc.eq (.string sb), Spc.eq (.string sb), Spc.eq (.bool true), Spc.eq (.bool true), Spc.eq (.bool true), Spc.eq (.bool wh), Spc.eq (.bool wh), Spc.eq (.bool true), Spc.eq (.bool true), Spc.eq (.bool true), Spc.eq (.agg [Value.int .u64 (a10 : Int), .int .u64 (a11 : Int), .int .u64 (a12 : Int), .int .u64 (a13 : Int), .int .i64 D1, .slice s1 L1.length c1].toArray), Spc.eq (.agg [Value.int .u64 (a20 : Int), .int .u64 (a21 : Int), .int .u64 (a22 : Int), .int .u64 (a23 : Int), .int .i64 D2, .slice s2 L2.length c2].toArray), Spc.eq (.bool q), Spc.eq (.agg [Value.int .u64 (a10 : Int), .int .u64 (a11 : Int), .int .u64 (a12 : Int), .int .u64 (a13 : Int), .int .i64 D1, .slice s1 L1.length c1].toArray), Spc.tx 38 k20.heap.size [a10, a11, a12, a13] D1 L1, Spc.eq (.agg [Value.int .u64 (a20 : Int), .int .u64 (a21 : Int), .int .u64 (a22 : Int), .int .u64 (a23 : Int), .int .i64 D2, .slice s2 L2.length c2].toArray), Spc.tx 38 k20.heap.size [a20, a21, a22, a23] D2 L2, Spc.eq (.bool q), Spc.eq (.bool true), Spc.eq (.bool true), Spc.eq (.bool true)] Try.mixed (by kernel_rfl) ?_
  refine r_value rfl (fun u hu hn => by go_simp) (fun K hK => ?_)
  go_simp
  refine hK _ ?_
  clear hK K
  refine r_value rfl (fun u hu hn => by go_simp) (fun K hK => ?_)
  go_simp
  refine hK _ ?_
  clear hK K
  refine rg_blk_load (by rfl) 23 _ rfl (k5.heap.size) 0 rfl (by intro u hu hn; exact KW.out u hu) _ Try.underlying23 rfl Try.size_w (fun K hK => ?_)
  go_simp
  refine hK _ ?_
  clear hK K
  refine rg_callv (by rfl) 18 Try.f18 Try.func18 rfl rfl _ _ rfl _ rfl (by intro u hu hn; exact CR.out u) (fun K hK => ?_)
  go_simp
  refine hK _ ?_
  clear hK K
  refine rg_blk_load (by rfl) 38 _ rfl (k9.heap.size) 0 rfl (by intro u hu hn; exact KV.out u hu) _ Try.underlying38 rfl Try.size_rw (fun K hK => ?_)
  go_simp
  refine hK _ ?_
  clear hK K
  refine rg_callv (by rfl) 19 Try.f19 Try.func19 rfl rfl _ _ rfl _ rfl (by intro u hu hn; exact CRr.out u) (fun K hK => ?_)
  go_simp
  refine hK _ ?_
  clear hK K
  refine rg_value (by rfl) (fun u hu hn => by have hc := rr.out; go_simp) (fun K hK => ?_)
  go_simp
  refine hK _ ?_
  clear hK K
  refine r_value rfl (fun u hu hn => by go_simp) (fun K hK => ?_)
  go_simp
  refine hK _ ?_
  clear hK K
  refine r_value rfl (fun u hu hn => by go_simp) (fun K hK => ?_)
  go_simp
  refine hK _ ?_
  clear hK K
  refine rg_blk_load (by rfl) 23 _ rfl (k5.heap.size) 0 rfl (by intro u hu hn; exact KW.out u hu) _ Try.underlying23 rfl Try.size_w (fun K hK => ?_)
  go_simp
  refine hK _ ?_
  clear hK K
  refine rg_callv (by rfl) 20 Try.f20 Try.func20 rfl rfl _ _ rfl _ rfl (by intro u hu hn; exact CS.out u) (fun K hK => ?_)
  go_simp
  refine hK _ ?_
  clear hK K
  refine rg_blk_load (by rfl) 38 _ rfl (k9.heap.size) 0 rfl (by intro u hu hn; exact KV.out u hu) _ Try.underlying38 rfl Try.size_rw (fun K hK => ?_)
  go_simp
  refine hK _ ?_
  clear hK K
  refine rg_callv (by rfl) 21 Try.f21 Try.func21 rfl rfl _ _ rfl _ rfl (by intro u hu hn; exact CSr.out u) (fun K hK => ?_)
  go_simp
  refine hK _ ?_
  clear hK K
  refine rg_value (by rfl) (fun u hu hn => by have hc := ss.out; go_simp) (fun K hK => ?_)
  go_simp
  refine hK _ ?_
  clear hK K
  refine r_value rfl (fun u hu hn => by go_simp) (fun K hK => ?_)
  go_simp
  refine hK _ ?_
  clear hK K
  refine r_value rfl (fun u hu hn => by go_simp) (fun K hK => ?_)
  go_simp
  refine hK _ ?_
  clear hK K
  refine rg_blk_load (by rfl) 43 _ rfl (k12.heap.size) 0 rfl (by intro u hu hn; exact KA.out u hu) _ Try.underlying43 rfl Try.size_itx (fun K hK => ?_)
  go_simp
  refine hK _ ?_
  clear hK K
  refine rg_callv (by rfl) 22 Try.f22 Try.func22 rfl rfl _ _ rfl _ rfl (by intro u hu hn; exact CW.out u _ (KI1.out u hu)) (fun K hK => ?_)
  go_simp
  refine hK _ ?_
  clear hK K
  refine rg_blk_load (by rfl) 43 _ rfl (k12.heap.size) 0 rfl (by intro u hu hn; exact KA.out u hu) _ Try.underlying43 rfl Try.size_itx (fun K hK => ?_)
  go_simp
  refine hK _ ?_
  clear hK K
  refine rg_call (by rfl) 17 Try.f17 Try.func17 rfl rfl _ _ rfl _ rfl (by intro u hu hn; exact (CT1.out u _ (KI1.out u hu)).mono fun e u' ⟨v', he, ho, hb⟩ => ⟨_, he, hb, by obtain ⟨av, cv, ev, _⟩ := ho.is.is; exact ⟨av, cv, by rw [ev]⟩, ⟨v', rfl, OW.mono ho hu.size⟩⟩) (fun v hv K hK => ?_)
  obtain ⟨e1, f1, rfl⟩ := hv
  go_simp
  refine hK _ ?_
  clear hK K
  refine rg_callv (by rfl) 23 Try.f23 Try.func23 rfl rfl _ _ rfl _ rfl (by intro u hu hn; obtain ⟨v', ev, ho⟩ := hn.get 19 0 rfl rfl _ rfl; obtain rfl := tv_inj ev; exact CWr.out u _ (OW.is ho)) (fun K hK => ?_)
  go_simp
  refine hK _ ?_
  clear hK K
  refine rg_value (by rfl) (fun u hu hn => by have hc := ww.out; go_simp) (fun K hK => ?_)
  go_simp
  refine hK _ ?_
  clear hK K
  refine r_value rfl (fun u hu hn => by go_simp) (fun K hK => ?_)
  go_simp
  refine hK _ ?_
  clear hK K
  refine r_value rfl (fun u hu hn => by go_simp) (fun K hK => ?_)
  go_simp
  refine hK _ ?_
  clear hK K
  refine rg_value (by rfl) (fun u hu hn => by go_simp) (fun K hK => ?_)
  go_simp
  refine hK _ ?_
  clear hK K
  refine rg_value (by rfl) (fun u hu hn => by go_simp) (fun K hK => ?_)
  go_simp
  refine hK _ ?_
  clear hK K
  refine rg_value (by rfl) (fun u hu hn => by have hc := bb.out; go_simp) (fun K hK => ?_)
  go_simp
  refine hK _ ?_
  clear hK K
  refine r_value rfl (fun u hu hn => by go_simp) (fun K hK => ?_)
  go_simp
  refine hK _ ?_
  clear hK K
  refine r_value rfl (fun u hu hn => by go_simp) (fun K hK => ?_)
  go_simp
  refine hK _ ?_
  clear hK K
  refine rg_value (by rfl) (fun u hu hn => by go_simp) (fun K hK => ?_)
  go_simp
  refine hK _ ?_
  clear hK K
  refine rg_value (by rfl) (fun u hu hn => by go_simp) (fun K hK => ?_)
  go_simp
  refine hK _ ?_
  clear hK K
  refine rg_value (by rfl) (fun u hu hn => by have hc := ww.out; go_simp) (fun K hK => ?_)
  go_simp
  refine hK _ ?_
  clear hK K
  refine r_value rfl (fun u hu hn => by go_simp) (fun K hK => ?_)
  go_simp
  refine hK _ ?_
  clear hK K
  refine r_value rfl (fun u hu hn => by go_simp) (fun K hK => ?_)
  go_simp
  refine hK _ ?_
  clear hK K
  refine rg_blk_load (by rfl) 43 _ rfl (k12.heap.size) 0 rfl (by intro u hu hn; exact KA.out u hu) _ Try.underlying43 rfl Try.size_itx (fun K hK => ?_)
  go_simp
  refine hK _ ?_
  clear hK K
  refine rg_blk_load (by rfl) 43 _ rfl (k15.heap.size) 0 rfl (by intro u hu hn; exact KB.out u hu) _ Try.underlying43 rfl Try.size_itx (fun K hK => ?_)
  go_simp
  refine hK _ ?_
  clear hK K
  refine rg_callv (by rfl) 24 Try.f24 Try.func24 rfl rfl _ _ rfl _ rfl (by intro u hu hn; exact CE.out u _ _ (KI1.out u hu) (KI2.out u hu)) (fun K hK => ?_)
  go_simp
  refine hK _ ?_
  clear hK K
  refine rg_blk_load (by rfl) 43 _ rfl (k12.heap.size) 0 rfl (by intro u hu hn; exact KA.out u hu) _ Try.underlying43 rfl Try.size_itx (fun K hK => ?_)
  go_simp
  refine hK _ ?_
  clear hK K
  refine rg_call (by rfl) 17 Try.f17 Try.func17 rfl rfl _ _ rfl _ rfl (by intro u hu hn; exact (CT1.out u _ (KI1.out u hu)).mono fun e u' ⟨v', he, ho, hb⟩ => ⟨_, he, hb, by obtain ⟨av, cv, ev, _⟩ := ho.is.is; exact ⟨av, cv, by rw [ev]⟩, ⟨v', rfl, OW.mono ho hu.size⟩⟩) (fun v hv K hK => ?_)
  obtain ⟨e2, f2, rfl⟩ := hv
  go_simp
  refine hK _ ?_
  clear hK K
  refine rg_blk_load (by rfl) 43 _ rfl (k15.heap.size) 0 rfl (by intro u hu hn; exact KB.out u hu) _ Try.underlying43 rfl Try.size_itx (fun K hK => ?_)
  go_simp
  refine hK _ ?_
  clear hK K
  refine rg_call (by rfl) 17 Try.f17 Try.func17 rfl rfl _ _ rfl _ rfl (by intro u hu hn; exact (CT2.out u _ (KI2.out u hu)).mono fun e u' ⟨v', he, ho, hb⟩ => ⟨_, he, hb, by obtain ⟨av, cv, ev, _⟩ := ho.is.is; exact ⟨av, cv, by rw [ev]⟩, ⟨v', rfl, OW.mono ho hu.size⟩⟩) (fun v hv K hK => ?_)
  obtain ⟨e3, f3, rfl⟩ := hv
  go_simp
  refine hK _ ?_
  clear hK K
  refine rg_callv (by rfl) 25 Try.f25 Try.func25 rfl rfl _ _ rfl _ rfl (by intro u hu hn; obtain ⟨v1, ev1, ho1⟩ := hn.get 38 2 rfl rfl _ rfl; obtain ⟨v2, ev2, ho2⟩ := hn.get 40 0 rfl rfl _ rfl; obtain rfl := tv_inj ev1; obtain rfl := tv_inj ev2; exact CEr.out u _ _ (OW.is ho1) (OW.is ho2)) (fun K hK => ?_)
  go_simp
  refine hK _ ?_
  clear hK K
  refine rg_value (by rfl) (fun u hu hn => by have hc := qq.out; go_simp) (fun K hK => ?_)
  go_simp
  refine hK _ ?_
  clear hK K
  refine r_value rfl (fun u hu hn => by go_simp) (fun K hK => ?_)
  go_simp
  refine hK _ ?_
  clear hK K
  refine r_value rfl (fun u hu hn => by go_simp) (fun K hK => ?_)
  go_simp
  refine hK _ ?_
  clear hK K
  refine r_nil ?_
  intro u hu _
  have WG : Hid (Below w.heap.size w u) := Below.trans WF.out (hu.mono WF.out.size)
  clear hu
  go_wp2_with fail
  go_ret
  exact ⟨rfl, WG.out⟩

set_option maxRecDepth 100000 in
theorem lifted (os : Os) (started : os.Started) (H : Type) (enc : TypeId × Value → H) :
    ReturnsInHanded {} Try.checked os 3 .any (Rows.itemTellsSpec.pre6 enc Try.prog Try.f3 Rows.itemTellsRow.domain false) (Rows.itemTellsSpec.post enc Try.prog Try.f3 false true false false) := by
  refine returnsInHanded_of_change_sized (C := Try.checked) own started (by kernel_rfl) Try.func3
    (ChangeSpec.witness6 (enc := enc) (C := Try.checked) false ⟨#[], #[.agg #[.string ByteArray.empty, .string ByteArray.empty, .string ByteArray.empty, .bool false, .bool false, .int .u8 0], .agg #[.int .u64 0, .int .u64 0, .int .u64 0, .int .u64 0, .int .i64 0, .bool false, .slice none 0 0, .bool false], .agg #[.int .u64 0, .int .u64 0, .int .u64 0, .int .u64 0, .int .i64 0, .bool false, .slice none 0 0, .bool false]], []⟩ 8 (by kernel_rfl) (by kernel_rfl) (by kernel_rfl) (by kernel_rfl)) ?_
  intro W base args ds gs before hval0 hW hcnd hsz0 _
  have hval : ∀ (j : Nat) t v, Try.f3.params[j]? = some t → args[j]? = some v → Value.okWide Try.prog W .any base t v := hval0
  have hW' := hW
  obtain ⟨p, q, hA0, hV, rfl, hfz, hnd⟩ := hW
  have hA : DataW.TrodAll enc Try.prog W 0 (fun _ => true) true Try.f3.params.toList args.toList ds p := hA0
  have hsz : (DataW.weightsEach Try.prog (Try.f3.params.toList ++ Rows.itemTellsSpec.plain.varTypes Try.prog) (ds ++ gs)).all (· ≤ reachBytes) = true := hsz0
  rw [Try.params3] at hA hval hsz
  obtain ⟨rfl, rfl⟩ := trodVars_none hV
  have hAk := hA
  have hlt : ∀ x ∈ p, x.block < W.heap.size := fun x hx => by simpa using hW'.lt x (List.mem_append.2 (.inl hx))
  obtain ⟨v0, vs0, d0, ds0, p0, q0, hargs, rfl, rfl, h0, r0⟩ := trodAll_cons hA
  obtain ⟨v1, vs1, d1, ds1, p1, q1, rfl, rfl, rfl, h1, r1⟩ := trodAll_cons r0
  obtain ⟨v2, vs2, d2, ds2, p2, q2, rfl, rfl, rfl, h2, r2⟩ := trodAll_cons r1
  obtain ⟨rfl, rfl, rfl⟩ := trodAll_nil r2
  obtain rfl : args = #[v0, v1, v2] := by cases args; simp_all
  obtain ⟨px0, po0, pk0, rfl, kq0⟩ := open_put (hval 0 25 v0 rfl rfl) h0 (Sz.arg hsz (j := 0) rfl rfl)
  obtain ⟨al1, dd1, mo1, sv1, PL1, ow1, rfl, k1, kd1, ki1, kp1⟩ := open_deal (hval 1 35 v1 rfl rfl) h1 (Sz.arg hsz (j := 1) rfl rfl)
  obtain ⟨al2, dd2, mo2, sv2, PL2, ow2, rfl, k2, kd2, ki2, kp2⟩ := open_deal (hval 2 35 v2 rfl rfl) h2 (Sz.arg hsz (j := 2) rfl rfl)
  clear hA0 hval0 hsz0
  refine (walk px0 po0 pk0 al1 dd1 mo1 sv1 PL1 ow1 al2 dd2 mo2 sv2 PL2 ow2 kq0 k1 kd1 kp1 k2 kd2 kp2 W ki1 ki2).mono fun e W' ⟨he, hg⟩ => ?_
  subst he
  exact ⟨_, rfl, _, _, _, [], _, [], hW', (trodAll_cons_mk (shut_bool Try.underlying4 _) trodAll_mk0), trodAll_below laidOut hg _ _ _ _ (by kernel_rfl) hAk hlt, rfl, hg.frame _, fun h => by cases h⟩

theorem over : Rows.itemTellsRow.holds Try.pinned (OpenSpec.ofChange Rows.itemTellsSpec) :=
  OpenClaim.holds_of_wide 3 Try.f3 rfl rfl rfl rfl rfl rfl rfl ⟨rfl, rfl, rfl, rfl, rfl⟩ rfl rfl rfl rfl rfl (by kernel_rfl) Try.func3 (by kernel_rfl)
    (of_decide_eq_true (by kernel_rfl)) (by unfold Func.isWrapper; first | (rw [if_pos (by decide +kernel)]; kernel_rfl) | (rw [if_neg (by decide +kernel)]; exact ⟨rfl, rfl⟩))
    (fun os started H enc _ => lifted os started H enc)

/-- the statement -/
theorem proved : Rows.ItemTellsSaid :=
  over
#print axioms proved

end Go.Proofs.Ytkfcbihofipcbaa.itemTells
