/-
  What was put of a transaction is read; cut, or with something behind, it is none; another one has other bytes (the law ItemBack). No conditions.
-/
import Derived.Test.YtkfcbihofipcbaaFrame

import Derived.Test.YtkfcbihofipcbaaItemF

import Derived.Test.YtkfcbihofipcbaaItemWh

import Derived.Test.YtkfcbihofipcbaaFramePut

namespace Go.Proofs.Ytkfcbihofipcbaa.itemBack

open Go.ChangeShapes Go.WideShapes Go.ChangeAt Go.RowKit

open Go.ChangeMaps (open_string shut_string)

open Go.Proofs.Ytkfcbihofipcbaa.Vc Go.Proofs.Ytkfcbihofipcbaa.Sp Go.Proofs.Ytkfcbihofipcbaa.It

set_option linter.unusedVariables false

set_option linter.unusedSimpArgs false

theorem Try.size_dl : (Try.prog.info? 35).map (·.size) = some 8 := by kernel_rfl
theorem flat_len (L : List I.Wt) (h : ∀ x ∈ L, I.right x = true) : ((L.map I.enc).flatten).length ≤ 95 * L.length := by
  induction L with
  | nil => simp
  | cons x L ih =>
    rw [List.map_cons, List.flatten_cons, List.length_append, List.length_cons]
    obtain ⟨_, h2, _, h4, h5, _⟩ := I.right_some (h x (List.mem_cons_self ..))
    have h1 := enc_size x h2 h4 h5
    rw [P.S_size] at h1
    have := ih (fun y hy => h y (List.mem_cons_of_mem _ hy))
    omega
theorem bytes_len {a : List Nat} {d : Int} {L : List I.Wt} (ha : a.length = 4) (h : I.whole a d L = true) : 1 ≤ (I.bytesS a d L).size ∧ (I.bytesS a d L).size ≤ 1000 := by
  obtain ⟨_, _, h8, _⟩ := I.whole_some h
  have hf := flat_len L (I.whole_each h)
  have hp := T.vput_len ha
  unfold I.bytesS
  rw [if_pos h, P.S_size, I.bytes, List.length_append, List.length_append, T.put, List.length_append, P.numB_length, P.numB_length]
  omega
set_option maxHeartbeats 16000000 in
set_option maxRecDepth 100000 in
theorem walk (al0 : List Nat) (dd0 : Int) (mo0 : Bool) (sv0 : Value) (PL0 : List I.Pt) (ow0 : Bool) (al1 : List Nat) (dd1 : Int) (mo1 : Bool) (sv1 : Value) (PL1 : List I.Pt) (ow1 : Bool) (a2 : Int) (k0 : V.Ok al0) (kd0 : (Lit.int .i64 dd0).wf = true) (kp0 : ∀ p ∈ PL0, I.POk p) (k1 : V.Ok al1) (kd1 : (Lit.int .i64 dd1).wf = true) (kp1 : ∀ p ∈ PL1, I.POk p) (w2 : (Lit.int .u16 a2).wf = true) (w : World) (ki0 : IsPs w sv0 PL0) (ki1 : IsPs w sv1 PL1) :
    Calls Try.prog 6 #[DV al0 dd0 mo0 sv0 ow0, DV al1 dd1 mo1 sv1 ow1, .int .u16 a2] w fun e w' => e = .returned (.bool true) ∧ Below w.heap.size w w' := by
  have h2 : 0 ≤ a2 ∧ a2 ≤ 65535 := by simpa [Lit.wf, IntKind.min, IntKind.max, IntKind.signed, IntKind.bits] using w2
  obtain ⟨n2, rfl, hn2⟩ : ∃ r : Nat, a2 = (r : Int) ∧ r < 65536 := ⟨a2.toNat, by omega, by omega⟩
  clear w2 h2
  have hA0 : V.Ok (T.mark al0 dd0 (true || mo0)).1 := T.mark_ok k0 dd0 _
  have hW0 := I.dealW_whole k0.len dd0 mo0 PL0
  have hO0 := I.dealW_ok true PL0 kp0
  have hN0 := I.dealW_len true PL0
  have CD0 : Hid (∀ u, IsPs u sv0 PL0 → Calls Try.prog 14 #[DV al0 dd0 mo0 sv0 true] u fun e w' => ∃ v', e = .returned (TV (T.mark al0 dd0 (true || mo0)).1 (T.mark al0 dd0 (true || mo0)).2 v') ∧ IsWs w' v' (I.dealW true PL0) ∧ Below u.heap.size u w') := fun u hu => deal_any al0 dd0 mo0 sv0 true PL0 u k0 kd0 hu kp0
  obtain ⟨D0, HD0⟩ : ∃ z, Hid ((T.mark al0 dd0 (true || mo0)).2 = z) := ⟨_, rfl⟩
  obtain ⟨A0, HAA0⟩ : ∃ z, Hid ((T.mark al0 dd0 (true || mo0)).1 = z) := ⟨_, rfl⟩
  obtain ⟨L0, HLL0⟩ : ∃ z, Hid (I.dealW true PL0 = z) := ⟨_, rfl⟩
  rw [HD0.out, HAA0.out, HLL0.out] at CD0
  rw [HAA0.out] at hA0
  rw [HLL0.out] at hO0 hN0
  rw [HD0.out, HAA0.out, HLL0.out] at hW0
  have hP0 : 1 ≤ L0.length := by rw [← HLL0.out]; exact I.dealW_pos PL0
  obtain ⟨a00, a01, a02, a03, rfl⟩ := V.four hA0.len
  obtain ⟨l00, l01, l02, l03, rfl⟩ := V.four k0.len
  have KI0 := Lib.hid ki0
  clear HD0 HAA0 k0 kd0 kp0 ki0
  have hA1 : V.Ok (T.mark al1 dd1 (true || mo1)).1 := T.mark_ok k1 dd1 _
  have hW1 := I.dealW_whole k1.len dd1 mo1 PL1
  have hO1 := I.dealW_ok true PL1 kp1
  have hN1 := I.dealW_len true PL1
  have CD1 : Hid (∀ u, IsPs u sv1 PL1 → Calls Try.prog 14 #[DV al1 dd1 mo1 sv1 true] u fun e w' => ∃ v', e = .returned (TV (T.mark al1 dd1 (true || mo1)).1 (T.mark al1 dd1 (true || mo1)).2 v') ∧ IsWs w' v' (I.dealW true PL1) ∧ Below u.heap.size u w') := fun u hu => deal_any al1 dd1 mo1 sv1 true PL1 u k1 kd1 hu kp1
  obtain ⟨D1, HD1⟩ : ∃ z, Hid ((T.mark al1 dd1 (true || mo1)).2 = z) := ⟨_, rfl⟩
  obtain ⟨A1, HAA1⟩ : ∃ z, Hid ((T.mark al1 dd1 (true || mo1)).1 = z) := ⟨_, rfl⟩
  obtain ⟨L1, HLL1⟩ : ∃ z, Hid (I.dealW true PL1 = z) := ⟨_, rfl⟩
  rw [HD1.out, HAA1.out, HLL1.out] at CD1
  rw [HAA1.out] at hA1
  rw [HLL1.out] at hO1 hN1
  rw [HD1.out, HAA1.out, HLL1.out] at hW1
  have hP1 : 1 ≤ L1.length := by rw [← HLL1.out]; exact I.dealW_pos PL1
  obtain ⟨a10, a11, a12, a13, rfl⟩ := V.four hA1.len
  obtain ⟨l10, l11, l12, l13, rfl⟩ := V.four k1.len
  have KI1 := Lib.hid ki1
  clear HD1 HAA1 k1 kd1 kp1 ki1
  obtain ⟨hz0, hy0⟩ := bytes_len hA0.len hW0
  have CB0 : Hid (∀ u v, IsWs u v L0 → Calls Try.prog 15 #[TV [a00, a01, a02, a03] D0 v] u fun e w' => e = .returned (.tuple #[.string (I.bytesS [a00, a01, a02, a03] D0 L0), .bool true]) ∧ Below u.heap.size u w') := fun u v hv => by
    have := bytes_any [a00, a01, a02, a03] D0 v L0 u hA0 hv
    rw [hW0] at this
    exact this
  obtain ⟨hz1, hy1⟩ := bytes_len hA1.len hW1
  have CB1 : Hid (∀ u v, IsWs u v L1 → Calls Try.prog 15 #[TV [a10, a11, a12, a13] D1 v] u fun e w' => e = .returned (.tuple #[.string (I.bytesS [a10, a11, a12, a13] D1 L1), .bool true]) ∧ Below u.heap.size u w') := fun u v hv => by
    have := bytes_any [a10, a11, a12, a13] D1 v L1 u hA1 hv
    rw [hW1] at this
    exact this
  have hr0 := I.read_bytes hA0 hW0
  obtain ⟨m, hm⟩ : ∃ m, m = n2 % (I.bytesS [a00, a01, a02, a03] D0 L0).size := ⟨_, rfl⟩
  have hml : m < (I.bytesS [a00, a01, a02, a03] D0 L0).size := by rw [hm]; exact Nat.mod_lt _ (by omega)
  have hr1 := I.read_cut hA0 hW0 m hml
  have hr2 := I.read_long hA0 hW0 ⟨#[120]⟩ (by decide +kernel)
  have hinj := I.bytes_inj hA0 hA1 hW0 hW1
  have hss : I.same [a00, a01, a02, a03] D0 L0 [a00, a01, a02, a03] D0 L0 = true := by unfold I.same T.same; simp
  obtain ⟨q, HQ⟩ : ∃ q, Hid (I.same [a00, a01, a02, a03] D0 L0 [a10, a11, a12, a13] D1 L1 = q) := ⟨_, rfl⟩
  rw [HQ.out] at hinj
  have CS : Hid (∀ u v v', IsWs u v L0 → IsWs u v' L0 → Calls Try.prog 24 #[TV [a00, a01, a02, a03] D0 v, TV [a00, a01, a02, a03] D0 v'] u fun e w' => e = .returned (.bool true) ∧ Below u.heap.size u w') := fun u v v' hv hv' => by
    have := same_any [a00, a01, a02, a03] D0 v L0 [a00, a01, a02, a03] D0 v' L0 u rfl rfl hv hv'
    rw [hss] at this
    exact this
  have CS2 : Hid (∀ u v v', IsWs u v L0 → IsWs u v' L1 → Calls Try.prog 24 #[TV [a00, a01, a02, a03] D0 v, TV [a10, a11, a12, a13] D1 v'] u fun e w' => e = .returned (.bool q) ∧ Below u.heap.size u w') := fun u v v' hv hv' => by
    have := same_any [a00, a01, a02, a03] D0 v L0 [a10, a11, a12, a13] D1 v' L1 u rfl rfl hv hv'
    rw [HQ.out] at this
    exact this
  have CW : Hid (∀ u v, IsWs u v L0 → Calls Try.prog 22 #[TV [a00, a01, a02, a03] D0 v] u fun e w' => e = .returned (.bool true) ∧ Below u.heap.size u w') := fun u v hv => by
    have := whole_any [a00, a01, a02, a03] D0 v L0 u rfl hv
    rw [hW0] at this
    exact this
  obtain ⟨B0, HB0⟩ : ∃ z, Hid (I.bytesS [a00, a01, a02, a03] D0 L0 = z) := ⟨_, rfl⟩
  obtain ⟨B1, HB1⟩ : ∃ z, Hid (I.bytesS [a10, a11, a12, a13] D1 L1 = z) := ⟨_, rfl⟩
  rw [HB0.out] at CB0 hz0 hy0 hr0 hr1 hr2 hinj hm hml
  rw [HB1.out] at CB1 hz1 hy1 hinj
  have hE : B0.toList.isEmpty = false := V.empty_not B0 (by omega)
  have hqe : (B0.toList == B1.toList) = q := by rw [V.tol_eq]; exact hinj
  have hqq : (q == q) = true := by simp
  obtain ⟨sc, HSC⟩ : ∃ z, Hid (B0.extract 0 m = z) := ⟨_, rfl⟩
  obtain ⟨sx, HSX⟩ : ∃ z, Hid (B0 ++ ⟨#[120]⟩ = z) := ⟨_, rfl⟩
  have hcz : sc.size ≤ maxLen := by rw [← HSC.out, ByteArray.size_extract]; unfold maxLen; omega
  have hxz : sx.size ≤ maxLen := by rw [← HSX.out, ByteArray.size_append]; show B0.size + 1 ≤ _; unfold maxLen; omega
  have h0z : B0.size ≤ maxLen := by unfold maxLen; omega
  rw [HSC.out] at hr1
  rw [HSX.out] at hr2
  have CR0 : Hid (∀ u, Calls Try.prog 31 #[.string B0] u fun e w' => ∃ v, e = .returned (.tuple #[TV [a00, a01, a02, a03] D0 v, .bool true]) ∧ OW 23 w' u.heap.size v L0 ∧ Below u.heap.size u w') := fun u => read_any B0 _ _ _ _ u h0z hr0
  have CR1 : Hid (∀ u, Calls Try.prog 31 #[.string sc] u fun e w' => ∃ v, e = .returned (.tuple #[TV [0, 0, 0, 0] 0 v, .bool false]) ∧ OW 23 w' u.heap.size v [] ∧ Below u.heap.size u w') := fun u => read_any sc _ _ _ _ u hcz hr1
  have CR2 : Hid (∀ u, Calls Try.prog 31 #[.string sx] u fun e w' => ∃ v, e = .returned (.tuple #[TV [0, 0, 0, 0] 0 v, .bool false]) ∧ OW 23 w' u.heap.size v [] ∧ Below u.heap.size u w') := fun u => read_any sx _ _ _ _ u hxz hr2
  have HT : Hid ((n2 : Int).tmod (B0.size : Int) = (m : Int) ∧ (n2 : Int) % (B0.size : Int) = (m : Int)) := ⟨by rw [Int.tmod_eq_emod_of_nonneg (by omega), hm]; rfl, by rw [hm]; rfl⟩
  have hwi : IntKind.i64.wrap (n2 : Int) = (n2 : Int) := wrapi (by omega) (by omega)
  have hwm : IntKind.i64.wrap (m : Int) = (m : Int) := wrapi (by omega) (by omega)
  have hcat : B0.size + (⟨#[120]⟩ : ByteArray).size ≤ 9223372036854775807 := by show B0.size + 1 ≤ _; omega
  have hmle : m ≤ B0.size := by omega
  have hbne : ¬ ((B0.size : Int) = 0) := by omega
  have hbn0 : ((B0.size : Int) == 0) = false := by rw [beq_eq_false_iff_ne]; exact hbne
  clear hm hml hr0 hr1 hr2 hinj hss hA0 hA1 hW0 hW1 hO0 hO1 hN0 hN1 hP0 hP1 hcz hxz h0z HQ hz1 hy1
  go_enter Try.func6, Try.ntmps6
  have W0 : Hid (Below w.heap.size w w) := Below.refl _ _
  go_wp2_with (first | refine blk_box rfl 35 _ rfl [.int .u64 (l00 : Int), .int .u64 (l01 : Int), .int .u64 (l02 : Int), .int .u64 (l03 : Int), .int .i64 dd0, .bool mo0, sv0, .bool ow0] rfl ?_)
  intro k1 A1 B1 Z1
  go_wp2_with (first | refine blk_box rfl 35 _ rfl [.int .u64 (l10 : Int), .int .u64 (l11 : Int), .int .u64 (l12 : Int), .int .u64 (l13 : Int), .int .i64 dd1, .bool mo1, sv1, .bool ow1] rfl ?_)
  intro k2 A2 B2 Z2
  have hb2 : Below w.heap.size w k2 := (B1).trans (B2.mono (by omega))
  have HX2_ : Hid (Blk k2 (w.heap.size) [.int .u64 (l00 : Int), .int .u64 (l01 : Int), .int .u64 (l02 : Int), .int .u64 (l03 : Int), .int .i64 dd0, .bool mo0, sv0, .bool ow0]) := (A1).below B2 (by omega)
  have LX2_ : Hid (w.heap.size < k2.heap.size) := by show _ < _; omega
  have HY2_ : Hid (Blk k2 (w.heap.size + 1) [.int .u64 (l10 : Int), .int .u64 (l11 : Int), .int .u64 (l12 : Int), .int .u64 (l13 : Int), .int .i64 dd1, .bool mo1, sv1, .bool ow1]) := A2
  have LY2_ : Hid (w.heap.size + 1 < k2.heap.size) := by show _ < _; omega
  have W2 : Hid (Below w.heap.size w k2) := Below.trans W0.out (hb2.mono W0.out.size)
  have HX2 := HX2_
  have LX2 := LX2_
  have HY2 := HY2_
  have LY2 := LY2_
  clear hb2 A1 B1 Z1 A2 B2 Z2 W0 HX2_ LX2_ HY2_ LY2_
  go_wp2_with fail
  refine (examples_any _).mono ?_; rintro e k3 ⟨rfl, hb3⟩
  have HX3 : Hid (Blk k3 (w.heap.size) [.int .u64 (l00 : Int), .int .u64 (l01 : Int), .int .u64 (l02 : Int), .int .u64 (l03 : Int), .int .i64 dd0, .bool mo0, sv0, .bool ow0]) := Blk.below HX2.out hb3 LX2.out
  have LX3 : Hid (w.heap.size < k3.heap.size) := Nat.lt_of_lt_of_le LX2.out hb3.size
  have HY3 : Hid (Blk k3 (w.heap.size + 1) [.int .u64 (l10 : Int), .int .u64 (l11 : Int), .int .u64 (l12 : Int), .int .u64 (l13 : Int), .int .i64 dd1, .bool mo1, sv1, .bool ow1]) := Blk.below HY2.out hb3 LY2.out
  have LY3 : Hid (w.heap.size + 1 < k3.heap.size) := Nat.lt_of_lt_of_le LY2.out hb3.size
  have W3 : Hid (Below w.heap.size w k3) := Below.trans W2.out (hb3.mono W2.out.size)
  clear hb3 HX2 LX2 HY2 LY2 W2 
  have cf4 := HX3.out.cell 7 _ rfl
  have ff4 := HX3.out.free 7 (by simp)
  have U4 : Upd (w.heap.size) k3 (k3.setCell ⟨w.heap.size, 7, none⟩ (.bool true)) := Upd.setCell _ _ _ _
  have A4 : Blk (k3.setCell ⟨w.heap.size, 7, none⟩ (.bool true)) (w.heap.size) [.int .u64 (l00 : Int), .int .u64 (l01 : Int), .int .u64 (l02 : Int), .int .u64 (l03 : Int), .int .i64 dd0, .bool mo0, sv0, .bool true] := Blk.setc HX3.out 7 (by simp) (.bool true)
  have HX4 : Hid (Blk (k3.setCell ⟨w.heap.size, 7, none⟩ (.bool true)) (w.heap.size) [.int .u64 (l00 : Int), .int .u64 (l01 : Int), .int .u64 (l02 : Int), .int .u64 (l03 : Int), .int .i64 dd0, .bool mo0, sv0, .bool true]) := A4
  have LX4 : Hid (w.heap.size < (k3.setCell ⟨w.heap.size, 7, none⟩ (.bool true)).heap.size) := by show _ < _; rw [U4.size]; exact LX3.out
  have HY4 : Hid (Blk (k3.setCell ⟨w.heap.size, 7, none⟩ (.bool true)) (w.heap.size + 1) [.int .u64 (l10 : Int), .int .u64 (l11 : Int), .int .u64 (l12 : Int), .int .u64 (l13 : Int), .int .i64 dd1, .bool mo1, sv1, .bool ow1]) := Blk.upd HY3.out U4 (by omega)
  have LY4 : Hid (w.heap.size + 1 < (k3.setCell ⟨w.heap.size, 7, none⟩ (.bool true)).heap.size) := by show _ < _; rw [U4.size]; exact LY3.out
  have W4 : Hid (Below w.heap.size w (k3.setCell ⟨w.heap.size, 7, none⟩ (.bool true))) := Below.trans W3.out (U4.below (by omega))
  clear A4 U4 HX3 LX3 HY3 LY3 W3
  have cf5 := HY4.out.cell 7 _ rfl
  have ff5 := HY4.out.free 7 (by simp)
  have U5 : Upd (w.heap.size + 1) (k3.setCell ⟨w.heap.size, 7, none⟩ (.bool true)) ((k3.setCell ⟨w.heap.size, 7, none⟩ (.bool true)).setCell ⟨w.heap.size + 1, 7, none⟩ (.bool true)) := Upd.setCell _ _ _ _
  have A5 : Blk ((k3.setCell ⟨w.heap.size, 7, none⟩ (.bool true)).setCell ⟨w.heap.size + 1, 7, none⟩ (.bool true)) (w.heap.size + 1) [.int .u64 (l10 : Int), .int .u64 (l11 : Int), .int .u64 (l12 : Int), .int .u64 (l13 : Int), .int .i64 dd1, .bool mo1, sv1, .bool true] := Blk.setc HY4.out 7 (by simp) (.bool true)
  have HX5 : Hid (Blk ((k3.setCell ⟨w.heap.size, 7, none⟩ (.bool true)).setCell ⟨w.heap.size + 1, 7, none⟩ (.bool true)) (w.heap.size) [.int .u64 (l00 : Int), .int .u64 (l01 : Int), .int .u64 (l02 : Int), .int .u64 (l03 : Int), .int .i64 dd0, .bool mo0, sv0, .bool true]) := Blk.upd HX4.out U5 (by omega)
  have LX5 : Hid (w.heap.size < ((k3.setCell ⟨w.heap.size, 7, none⟩ (.bool true)).setCell ⟨w.heap.size + 1, 7, none⟩ (.bool true)).heap.size) := by show _ < _; rw [U5.size]; exact LX4.out
  have HY5 : Hid (Blk ((k3.setCell ⟨w.heap.size, 7, none⟩ (.bool true)).setCell ⟨w.heap.size + 1, 7, none⟩ (.bool true)) (w.heap.size + 1) [.int .u64 (l10 : Int), .int .u64 (l11 : Int), .int .u64 (l12 : Int), .int .u64 (l13 : Int), .int .i64 dd1, .bool mo1, sv1, .bool true]) := A5
  have LY5 : Hid (w.heap.size + 1 < ((k3.setCell ⟨w.heap.size, 7, none⟩ (.bool true)).setCell ⟨w.heap.size + 1, 7, none⟩ (.bool true)).heap.size) := by show _ < _; rw [U5.size]; exact LY4.out
  have W5 : Hid (Below w.heap.size w ((k3.setCell ⟨w.heap.size, 7, none⟩ (.bool true)).setCell ⟨w.heap.size + 1, 7, none⟩ (.bool true))) := Below.trans W4.out (U5.below (by omega))
  clear A5 U5 HX4 LX4 HY4 LY4 W4
  go_wp2_with (first | refine blk_load rfl 35 _ rfl (w.heap.size) rfl [.int .u64 (l00 : Int), .int .u64 (l01 : Int), .int .u64 (l02 : Int), .int .u64 (l03 : Int), .int .i64 dd0, .bool mo0, sv0, .bool true] HX5.out _ Try.underlying35 rfl Try.size_dl ?_)
  refine (CD0.out _ (IsPs.below KI0.out W5.out)).mono ?_; rintro e k6 ⟨v, rfl, hi, hb6⟩
  have HX6 : Hid (Blk k6 (w.heap.size) [.int .u64 (l00 : Int), .int .u64 (l01 : Int), .int .u64 (l02 : Int), .int .u64 (l03 : Int), .int .i64 dd0, .bool mo0, sv0, .bool true]) := Blk.below HX5.out hb6 LX5.out
  have LX6 : Hid (w.heap.size < k6.heap.size) := Nat.lt_of_lt_of_le LX5.out hb6.size
  have HY6 : Hid (Blk k6 (w.heap.size + 1) [.int .u64 (l10 : Int), .int .u64 (l11 : Int), .int .u64 (l12 : Int), .int .u64 (l13 : Int), .int .i64 dd1, .bool mo1, sv1, .bool true]) := Blk.below HY5.out hb6 LY5.out
  have LY6 : Hid (w.heap.size + 1 < k6.heap.size) := Nat.lt_of_lt_of_le LY5.out hb6.size
  have W6 : Hid (Below w.heap.size w k6) := Below.trans W5.out (hb6.mono W5.out.size)
  clear hb6 HX5 LX5 HY5 LY5 W5 
  obtain ⟨s0, c0, ev, _⟩ := hi.is
  subst ev
  have XV06 := Lib.hid hi
  clear hi
  go_wp2_with (first | refine blk_alloc rfl 43 (ks .u64 [0, 0, 0, 0] ++ [Value.int .i64 0, .slice none 0 0]) rfl Try.info_itx ?_)
  intro k7 A7 B7 Z7
  go_wp2_with (first | refine blk_store rfl 43 _ _ rfl (k6.heap.size) rfl [Value.int .u64 (a00 : Int), .int .u64 (a01 : Int), .int .u64 (a02 : Int), .int .u64 (a03 : Int), .int .i64 D0, .slice s0 L0.length c0] rfl _ A7 rfl Try.size_itx rfl ?_)
  intro k8 A8 U8
  have hb8 : Below k6.heap.size k6 k8 := B7.trans (U8.below (Nat.le_refl _))
  have HA8_ : Hid (Blk k8 (k6.heap.size) [Value.int .u64 (a00 : Int), .int .u64 (a01 : Int), .int .u64 (a02 : Int), .int .u64 (a03 : Int), .int .i64 D0, .slice s0 L0.length c0]) := A8
  have LA8_ : Hid (k6.heap.size < k8.heap.size) := by show _ < _; rw [U8.size]; omega
  have HX8 : Hid (Blk k8 (w.heap.size) [.int .u64 (l00 : Int), .int .u64 (l01 : Int), .int .u64 (l02 : Int), .int .u64 (l03 : Int), .int .i64 dd0, .bool mo0, sv0, .bool true]) := Blk.below HX6.out hb8 LX6.out
  have LX8 : Hid (w.heap.size < k8.heap.size) := Nat.lt_of_lt_of_le LX6.out hb8.size
  have HY8 : Hid (Blk k8 (w.heap.size + 1) [.int .u64 (l10 : Int), .int .u64 (l11 : Int), .int .u64 (l12 : Int), .int .u64 (l13 : Int), .int .i64 dd1, .bool mo1, sv1, .bool true]) := Blk.below HY6.out hb8 LY6.out
  have LY8 : Hid (w.heap.size + 1 < k8.heap.size) := Nat.lt_of_lt_of_le LY6.out hb8.size
  have XV08 := Lib.hid (IsWs.below XV06.out hb8)
  have W8 : Hid (Below w.heap.size w k8) := Below.trans W6.out (hb8.mono W6.out.size)
  have HA8 := HA8_
  have LA8 := LA8_
  clear hb8 A7 B7 Z7 A8 U8 HA8_ LA8_ HX6 LX6 HY6 LY6 XV06 W6
  go_wp2_with (first | refine blk_load rfl 35 _ rfl (w.heap.size + 1) rfl [.int .u64 (l10 : Int), .int .u64 (l11 : Int), .int .u64 (l12 : Int), .int .u64 (l13 : Int), .int .i64 dd1, .bool mo1, sv1, .bool true] HY8.out _ Try.underlying35 rfl Try.size_dl ?_)
  refine (CD1.out _ (IsPs.below KI1.out W8.out)).mono ?_; rintro e k9 ⟨v, rfl, hi, hb9⟩
  have HX9 : Hid (Blk k9 (w.heap.size) [.int .u64 (l00 : Int), .int .u64 (l01 : Int), .int .u64 (l02 : Int), .int .u64 (l03 : Int), .int .i64 dd0, .bool mo0, sv0, .bool true]) := Blk.below HX8.out hb9 LX8.out
  have LX9 : Hid (w.heap.size < k9.heap.size) := Nat.lt_of_lt_of_le LX8.out hb9.size
  have HY9 : Hid (Blk k9 (w.heap.size + 1) [.int .u64 (l10 : Int), .int .u64 (l11 : Int), .int .u64 (l12 : Int), .int .u64 (l13 : Int), .int .i64 dd1, .bool mo1, sv1, .bool true]) := Blk.below HY8.out hb9 LY8.out
  have LY9 : Hid (w.heap.size + 1 < k9.heap.size) := Nat.lt_of_lt_of_le LY8.out hb9.size
  have HA9 : Hid (Blk k9 (k6.heap.size) [Value.int .u64 (a00 : Int), .int .u64 (a01 : Int), .int .u64 (a02 : Int), .int .u64 (a03 : Int), .int .i64 D0, .slice s0 L0.length c0]) := Blk.below HA8.out hb9 LA8.out
  have LA9 : Hid (k6.heap.size < k9.heap.size) := Nat.lt_of_lt_of_le LA8.out hb9.size
  have XV09 := Lib.hid (IsWs.below XV08.out hb9)
  have W9 : Hid (Below w.heap.size w k9) := Below.trans W8.out (hb9.mono W8.out.size)
  clear hb9 HX8 LX8 HY8 LY8 HA8 LA8 XV08 W8 
  obtain ⟨s1, c1, ev, _⟩ := hi.is
  subst ev
  have XV19 := Lib.hid hi
  clear hi
  go_wp2_with (first | refine blk_alloc rfl 43 (ks .u64 [0, 0, 0, 0] ++ [Value.int .i64 0, .slice none 0 0]) rfl Try.info_itx ?_)
  intro k10 A10 B10 Z10
  go_wp2_with (first | refine blk_store rfl 43 _ _ rfl (k9.heap.size) rfl [Value.int .u64 (a10 : Int), .int .u64 (a11 : Int), .int .u64 (a12 : Int), .int .u64 (a13 : Int), .int .i64 D1, .slice s1 L1.length c1] rfl _ A10 rfl Try.size_itx rfl ?_)
  intro k11 A11 U11
  have hb11 : Below k9.heap.size k9 k11 := B10.trans (U11.below (Nat.le_refl _))
  have HB11_ : Hid (Blk k11 (k9.heap.size) [Value.int .u64 (a10 : Int), .int .u64 (a11 : Int), .int .u64 (a12 : Int), .int .u64 (a13 : Int), .int .i64 D1, .slice s1 L1.length c1]) := A11
  have LB11_ : Hid (k9.heap.size < k11.heap.size) := by show _ < _; rw [U11.size]; omega
  have HX11 : Hid (Blk k11 (w.heap.size) [.int .u64 (l00 : Int), .int .u64 (l01 : Int), .int .u64 (l02 : Int), .int .u64 (l03 : Int), .int .i64 dd0, .bool mo0, sv0, .bool true]) := Blk.below HX9.out hb11 LX9.out
  have LX11 : Hid (w.heap.size < k11.heap.size) := Nat.lt_of_lt_of_le LX9.out hb11.size
  have HY11 : Hid (Blk k11 (w.heap.size + 1) [.int .u64 (l10 : Int), .int .u64 (l11 : Int), .int .u64 (l12 : Int), .int .u64 (l13 : Int), .int .i64 dd1, .bool mo1, sv1, .bool true]) := Blk.below HY9.out hb11 LY9.out
  have LY11 : Hid (w.heap.size + 1 < k11.heap.size) := Nat.lt_of_lt_of_le LY9.out hb11.size
  have HA11 : Hid (Blk k11 (k6.heap.size) [Value.int .u64 (a00 : Int), .int .u64 (a01 : Int), .int .u64 (a02 : Int), .int .u64 (a03 : Int), .int .i64 D0, .slice s0 L0.length c0]) := Blk.below HA9.out hb11 LA9.out
  have LA11 : Hid (k6.heap.size < k11.heap.size) := Nat.lt_of_lt_of_le LA9.out hb11.size
  have XV011 := Lib.hid (IsWs.below XV09.out hb11)
  have XV111 := Lib.hid (IsWs.below XV19.out hb11)
  have W11 : Hid (Below w.heap.size w k11) := Below.trans W9.out (hb11.mono W9.out.size)
  have HB11 := HB11_
  have LB11 := LB11_
  clear hb11 A10 B10 Z10 A11 U11 HB11_ LB11_ HX9 LX9 HY9 LY9 HA9 LA9 XV09 XV19 W9
  go_wp2_with (first | refine blk_load rfl 43 _ rfl (k6.heap.size) rfl [Value.int .u64 (a00 : Int), .int .u64 (a01 : Int), .int .u64 (a02 : Int), .int .u64 (a03 : Int), .int .i64 D0, .slice s0 L0.length c0] HA11.out _ Try.underlying43 rfl Try.size_itx ?_)
  refine (CB0.out _ _ XV011.out).mono ?_; rintro e k12 ⟨rfl, hb12⟩
  have HX12 : Hid (Blk k12 (w.heap.size) [.int .u64 (l00 : Int), .int .u64 (l01 : Int), .int .u64 (l02 : Int), .int .u64 (l03 : Int), .int .i64 dd0, .bool mo0, sv0, .bool true]) := Blk.below HX11.out hb12 LX11.out
  have LX12 : Hid (w.heap.size < k12.heap.size) := Nat.lt_of_lt_of_le LX11.out hb12.size
  have HY12 : Hid (Blk k12 (w.heap.size + 1) [.int .u64 (l10 : Int), .int .u64 (l11 : Int), .int .u64 (l12 : Int), .int .u64 (l13 : Int), .int .i64 dd1, .bool mo1, sv1, .bool true]) := Blk.below HY11.out hb12 LY11.out
  have LY12 : Hid (w.heap.size + 1 < k12.heap.size) := Nat.lt_of_lt_of_le LY11.out hb12.size
  have HA12 : Hid (Blk k12 (k6.heap.size) [Value.int .u64 (a00 : Int), .int .u64 (a01 : Int), .int .u64 (a02 : Int), .int .u64 (a03 : Int), .int .i64 D0, .slice s0 L0.length c0]) := Blk.below HA11.out hb12 LA11.out
  have LA12 : Hid (k6.heap.size < k12.heap.size) := Nat.lt_of_lt_of_le LA11.out hb12.size
  have HB12 : Hid (Blk k12 (k9.heap.size) [Value.int .u64 (a10 : Int), .int .u64 (a11 : Int), .int .u64 (a12 : Int), .int .u64 (a13 : Int), .int .i64 D1, .slice s1 L1.length c1]) := Blk.below HB11.out hb12 LB11.out
  have LB12 : Hid (k9.heap.size < k12.heap.size) := Nat.lt_of_lt_of_le LB11.out hb12.size
  have XV012 := Lib.hid (IsWs.below XV011.out hb12)
  have XV112 := Lib.hid (IsWs.below XV111.out hb12)
  have W12 : Hid (Below w.heap.size w k12) := Below.trans W11.out (hb12.mono W11.out.size)
  clear hb12 HX11 LX11 HY11 LY11 HA11 LA11 HB11 LB11 XV011 XV111 W11 
  go_wp2_with (first | refine blk_load rfl 43 _ rfl (k9.heap.size) rfl [Value.int .u64 (a10 : Int), .int .u64 (a11 : Int), .int .u64 (a12 : Int), .int .u64 (a13 : Int), .int .i64 D1, .slice s1 L1.length c1] HB12.out _ Try.underlying43 rfl Try.size_itx ?_)
  refine (CB1.out _ _ XV112.out).mono ?_; rintro e k13 ⟨rfl, hb13⟩
  have HX13 : Hid (Blk k13 (w.heap.size) [.int .u64 (l00 : Int), .int .u64 (l01 : Int), .int .u64 (l02 : Int), .int .u64 (l03 : Int), .int .i64 dd0, .bool mo0, sv0, .bool true]) := Blk.below HX12.out hb13 LX12.out
  have LX13 : Hid (w.heap.size < k13.heap.size) := Nat.lt_of_lt_of_le LX12.out hb13.size
  have HY13 : Hid (Blk k13 (w.heap.size + 1) [.int .u64 (l10 : Int), .int .u64 (l11 : Int), .int .u64 (l12 : Int), .int .u64 (l13 : Int), .int .i64 dd1, .bool mo1, sv1, .bool true]) := Blk.below HY12.out hb13 LY12.out
  have LY13 : Hid (w.heap.size + 1 < k13.heap.size) := Nat.lt_of_lt_of_le LY12.out hb13.size
  have HA13 : Hid (Blk k13 (k6.heap.size) [Value.int .u64 (a00 : Int), .int .u64 (a01 : Int), .int .u64 (a02 : Int), .int .u64 (a03 : Int), .int .i64 D0, .slice s0 L0.length c0]) := Blk.below HA12.out hb13 LA12.out
  have LA13 : Hid (k6.heap.size < k13.heap.size) := Nat.lt_of_lt_of_le LA12.out hb13.size
  have HB13 : Hid (Blk k13 (k9.heap.size) [Value.int .u64 (a10 : Int), .int .u64 (a11 : Int), .int .u64 (a12 : Int), .int .u64 (a13 : Int), .int .i64 D1, .slice s1 L1.length c1]) := Blk.below HB12.out hb13 LB12.out
  have LB13 : Hid (k9.heap.size < k13.heap.size) := Nat.lt_of_lt_of_le LB12.out hb13.size
  have XV013 := Lib.hid (IsWs.below XV012.out hb13)
  have XV113 := Lib.hid (IsWs.below XV112.out hb13)
  have W13 : Hid (Below w.heap.size w k13) := Below.trans W12.out (hb13.mono W12.out.size)
  clear hb13 HX12 LX12 HY12 LY12 HA12 LA12 HB12 LB12 XV012 XV112 W12 
  go_wp2_with fail
  refine (CR0.out _).mono ?_; rintro e k14 ⟨v, rfl, ho, hb14⟩
  have HX14 : Hid (Blk k14 (w.heap.size) [.int .u64 (l00 : Int), .int .u64 (l01 : Int), .int .u64 (l02 : Int), .int .u64 (l03 : Int), .int .i64 dd0, .bool mo0, sv0, .bool true]) := Blk.below HX13.out hb14 LX13.out
  have LX14 : Hid (w.heap.size < k14.heap.size) := Nat.lt_of_lt_of_le LX13.out hb14.size
  have HY14 : Hid (Blk k14 (w.heap.size + 1) [.int .u64 (l10 : Int), .int .u64 (l11 : Int), .int .u64 (l12 : Int), .int .u64 (l13 : Int), .int .i64 dd1, .bool mo1, sv1, .bool true]) := Blk.below HY13.out hb14 LY13.out
  have LY14 : Hid (w.heap.size + 1 < k14.heap.size) := Nat.lt_of_lt_of_le LY13.out hb14.size
  have HA14 : Hid (Blk k14 (k6.heap.size) [Value.int .u64 (a00 : Int), .int .u64 (a01 : Int), .int .u64 (a02 : Int), .int .u64 (a03 : Int), .int .i64 D0, .slice s0 L0.length c0]) := Blk.below HA13.out hb14 LA13.out
  have LA14 : Hid (k6.heap.size < k14.heap.size) := Nat.lt_of_lt_of_le LA13.out hb14.size
  have HB14 : Hid (Blk k14 (k9.heap.size) [Value.int .u64 (a10 : Int), .int .u64 (a11 : Int), .int .u64 (a12 : Int), .int .u64 (a13 : Int), .int .i64 D1, .slice s1 L1.length c1]) := Blk.below HB13.out hb14 LB13.out
  have LB14 : Hid (k9.heap.size < k14.heap.size) := Nat.lt_of_lt_of_le LB13.out hb14.size
  have XV014 := Lib.hid (IsWs.below XV013.out hb14)
  have XV114 := Lib.hid (IsWs.below XV113.out hb14)
  have W14 : Hid (Below w.heap.size w k14) := Below.trans W13.out (hb14.mono W13.out.size)
  clear hb14 HX13 LX13 HY13 LY13 HA13 LA13 HB13 LB13 XV013 XV113 W13 
  obtain ⟨pC, qC, ev, _⟩ := ho.is.is
  subst ev
  have XVC14 := Lib.hid ho.is
  clear ho
  go_wp2_with (first | refine blk_alloc rfl 43 (ks .u64 [0, 0, 0, 0] ++ [Value.int .i64 0, .slice none 0 0]) rfl Try.info_itx ?_)
  intro k15 A15 B15 Z15
  go_wp2_with (first | refine blk_store rfl 43 _ _ rfl (k14.heap.size) rfl [Value.int .u64 (a00 : Int), .int .u64 (a01 : Int), .int .u64 (a02 : Int), .int .u64 (a03 : Int), .int .i64 D0, .slice pC L0.length qC] rfl _ A15 rfl Try.size_itx rfl ?_)
  intro k16 A16 U16
  have hb16 : Below k14.heap.size k14 k16 := B15.trans (U16.below (Nat.le_refl _))
  have HC16_ : Hid (Blk k16 (k14.heap.size) [Value.int .u64 (a00 : Int), .int .u64 (a01 : Int), .int .u64 (a02 : Int), .int .u64 (a03 : Int), .int .i64 D0, .slice pC L0.length qC]) := A16
  have LC16_ : Hid (k14.heap.size < k16.heap.size) := by show _ < _; rw [U16.size]; omega
  have HX16 : Hid (Blk k16 (w.heap.size) [.int .u64 (l00 : Int), .int .u64 (l01 : Int), .int .u64 (l02 : Int), .int .u64 (l03 : Int), .int .i64 dd0, .bool mo0, sv0, .bool true]) := Blk.below HX14.out hb16 LX14.out
  have LX16 : Hid (w.heap.size < k16.heap.size) := Nat.lt_of_lt_of_le LX14.out hb16.size
  have HY16 : Hid (Blk k16 (w.heap.size + 1) [.int .u64 (l10 : Int), .int .u64 (l11 : Int), .int .u64 (l12 : Int), .int .u64 (l13 : Int), .int .i64 dd1, .bool mo1, sv1, .bool true]) := Blk.below HY14.out hb16 LY14.out
  have LY16 : Hid (w.heap.size + 1 < k16.heap.size) := Nat.lt_of_lt_of_le LY14.out hb16.size
  have HA16 : Hid (Blk k16 (k6.heap.size) [Value.int .u64 (a00 : Int), .int .u64 (a01 : Int), .int .u64 (a02 : Int), .int .u64 (a03 : Int), .int .i64 D0, .slice s0 L0.length c0]) := Blk.below HA14.out hb16 LA14.out
  have LA16 : Hid (k6.heap.size < k16.heap.size) := Nat.lt_of_lt_of_le LA14.out hb16.size
  have HB16 : Hid (Blk k16 (k9.heap.size) [Value.int .u64 (a10 : Int), .int .u64 (a11 : Int), .int .u64 (a12 : Int), .int .u64 (a13 : Int), .int .i64 D1, .slice s1 L1.length c1]) := Blk.below HB14.out hb16 LB14.out
  have LB16 : Hid (k9.heap.size < k16.heap.size) := Nat.lt_of_lt_of_le LB14.out hb16.size
  have XV016 := Lib.hid (IsWs.below XV014.out hb16)
  have XV116 := Lib.hid (IsWs.below XV114.out hb16)
  have XVC16 := Lib.hid (IsWs.below XVC14.out hb16)
  have W16 : Hid (Below w.heap.size w k16) := Below.trans W14.out (hb16.mono W14.out.size)
  have HC16 := HC16_
  have LC16 := LC16_
  clear hb16 A15 B15 Z15 A16 U16 HC16_ LC16_ HX14 LX14 HY14 LY14 HA14 LA14 HB14 LB14 XV014 XV114 XVC14 W14
  have e1 := HT.out.1
  have e2 := HT.out.2
  have e3 := HSC.out
  go_wp2_with fail
  clear e1 e2 e3 HT
  refine (CR1.out _).mono ?_; rintro e k17 ⟨v, rfl, ho, hb17⟩
  have HX17 : Hid (Blk k17 (w.heap.size) [.int .u64 (l00 : Int), .int .u64 (l01 : Int), .int .u64 (l02 : Int), .int .u64 (l03 : Int), .int .i64 dd0, .bool mo0, sv0, .bool true]) := Blk.below HX16.out hb17 LX16.out
  have LX17 : Hid (w.heap.size < k17.heap.size) := Nat.lt_of_lt_of_le LX16.out hb17.size
  have HY17 : Hid (Blk k17 (w.heap.size + 1) [.int .u64 (l10 : Int), .int .u64 (l11 : Int), .int .u64 (l12 : Int), .int .u64 (l13 : Int), .int .i64 dd1, .bool mo1, sv1, .bool true]) := Blk.below HY16.out hb17 LY16.out
  have LY17 : Hid (w.heap.size + 1 < k17.heap.size) := Nat.lt_of_lt_of_le LY16.out hb17.size
  have HA17 : Hid (Blk k17 (k6.heap.size) [Value.int .u64 (a00 : Int), .int .u64 (a01 : Int), .int .u64 (a02 : Int), .int .u64 (a03 : Int), .int .i64 D0, .slice s0 L0.length c0]) := Blk.below HA16.out hb17 LA16.out
  have LA17 : Hid (k6.heap.size < k17.heap.size) := Nat.lt_of_lt_of_le LA16.out hb17.size
  have HB17 : Hid (Blk k17 (k9.heap.size) [Value.int .u64 (a10 : Int), .int .u64 (a11 : Int), .int .u64 (a12 : Int), .int .u64 (a13 : Int), .int .i64 D1, .slice s1 L1.length c1]) := Blk.below HB16.out hb17 LB16.out
  have LB17 : Hid (k9.heap.size < k17.heap.size) := Nat.lt_of_lt_of_le LB16.out hb17.size
  have HC17 : Hid (Blk k17 (k14.heap.size) [Value.int .u64 (a00 : Int), .int .u64 (a01 : Int), .int .u64 (a02 : Int), .int .u64 (a03 : Int), .int .i64 D0, .slice pC L0.length qC]) := Blk.below HC16.out hb17 LC16.out
  have LC17 : Hid (k14.heap.size < k17.heap.size) := Nat.lt_of_lt_of_le LC16.out hb17.size
  have XV017 := Lib.hid (IsWs.below XV016.out hb17)
  have XV117 := Lib.hid (IsWs.below XV116.out hb17)
  have XVC17 := Lib.hid (IsWs.below XVC16.out hb17)
  have W17 : Hid (Below w.heap.size w k17) := Below.trans W16.out (hb17.mono W16.out.size)
  clear hb17 HX16 LX16 HY16 LY16 HA16 LA16 HB16 LB16 HC16 LC16 XV016 XV116 XVC16 W16 
  obtain ⟨pE, qE, ev, _⟩ := ho.is.is
  subst ev
  clear ho
  go_wp2_with (first | refine blk_alloc rfl 43 (ks .u64 [0, 0, 0, 0] ++ [Value.int .i64 0, .slice none 0 0]) rfl Try.info_itx ?_)
  intro k18 A18 B18 Z18
  go_wp2_with (first | refine blk_store rfl 43 _ _ rfl (k17.heap.size) rfl [Value.int .u64 0, .int .u64 0, .int .u64 0, .int .u64 0, .int .i64 0, .slice pE ([] : List I.Wt).length qE] rfl _ A18 rfl Try.size_itx rfl ?_)
  intro k19 A19 U19
  have hb19 : Below k17.heap.size k17 k19 := B18.trans (U19.below (Nat.le_refl _))
  have HE19_ : Hid (Blk k19 (k17.heap.size) [Value.int .u64 0, .int .u64 0, .int .u64 0, .int .u64 0, .int .i64 0, .slice pE ([] : List I.Wt).length qE]) := A19
  have LE19_ : Hid (k17.heap.size < k19.heap.size) := by show _ < _; rw [U19.size]; omega
  have HX19 : Hid (Blk k19 (w.heap.size) [.int .u64 (l00 : Int), .int .u64 (l01 : Int), .int .u64 (l02 : Int), .int .u64 (l03 : Int), .int .i64 dd0, .bool mo0, sv0, .bool true]) := Blk.below HX17.out hb19 LX17.out
  have LX19 : Hid (w.heap.size < k19.heap.size) := Nat.lt_of_lt_of_le LX17.out hb19.size
  have HY19 : Hid (Blk k19 (w.heap.size + 1) [.int .u64 (l10 : Int), .int .u64 (l11 : Int), .int .u64 (l12 : Int), .int .u64 (l13 : Int), .int .i64 dd1, .bool mo1, sv1, .bool true]) := Blk.below HY17.out hb19 LY17.out
  have LY19 : Hid (w.heap.size + 1 < k19.heap.size) := Nat.lt_of_lt_of_le LY17.out hb19.size
  have HA19 : Hid (Blk k19 (k6.heap.size) [Value.int .u64 (a00 : Int), .int .u64 (a01 : Int), .int .u64 (a02 : Int), .int .u64 (a03 : Int), .int .i64 D0, .slice s0 L0.length c0]) := Blk.below HA17.out hb19 LA17.out
  have LA19 : Hid (k6.heap.size < k19.heap.size) := Nat.lt_of_lt_of_le LA17.out hb19.size
  have HB19 : Hid (Blk k19 (k9.heap.size) [Value.int .u64 (a10 : Int), .int .u64 (a11 : Int), .int .u64 (a12 : Int), .int .u64 (a13 : Int), .int .i64 D1, .slice s1 L1.length c1]) := Blk.below HB17.out hb19 LB17.out
  have LB19 : Hid (k9.heap.size < k19.heap.size) := Nat.lt_of_lt_of_le LB17.out hb19.size
  have HC19 : Hid (Blk k19 (k14.heap.size) [Value.int .u64 (a00 : Int), .int .u64 (a01 : Int), .int .u64 (a02 : Int), .int .u64 (a03 : Int), .int .i64 D0, .slice pC L0.length qC]) := Blk.below HC17.out hb19 LC17.out
  have LC19 : Hid (k14.heap.size < k19.heap.size) := Nat.lt_of_lt_of_le LC17.out hb19.size
  have XV019 := Lib.hid (IsWs.below XV017.out hb19)
  have XV119 := Lib.hid (IsWs.below XV117.out hb19)
  have XVC19 := Lib.hid (IsWs.below XVC17.out hb19)
  have W19 : Hid (Below w.heap.size w k19) := Below.trans W17.out (hb19.mono W17.out.size)
  have HE19 := HE19_
  have LE19 := LE19_
  clear hb19 A18 B18 Z18 A19 U19 HE19_ LE19_ HX17 LX17 HY17 LY17 HA17 LA17 HB17 LB17 HC17 LC17 XV017 XV117 XVC17 W17
  have e3 := HSX.out
  go_wp2_with fail
  clear e3
  refine (CR2.out _).mono ?_; rintro e k20 ⟨v, rfl, ho, hb20⟩
  have HX20 : Hid (Blk k20 (w.heap.size) [.int .u64 (l00 : Int), .int .u64 (l01 : Int), .int .u64 (l02 : Int), .int .u64 (l03 : Int), .int .i64 dd0, .bool mo0, sv0, .bool true]) := Blk.below HX19.out hb20 LX19.out
  have LX20 : Hid (w.heap.size < k20.heap.size) := Nat.lt_of_lt_of_le LX19.out hb20.size
  have HY20 : Hid (Blk k20 (w.heap.size + 1) [.int .u64 (l10 : Int), .int .u64 (l11 : Int), .int .u64 (l12 : Int), .int .u64 (l13 : Int), .int .i64 dd1, .bool mo1, sv1, .bool true]) := Blk.below HY19.out hb20 LY19.out
  have LY20 : Hid (w.heap.size + 1 < k20.heap.size) := Nat.lt_of_lt_of_le LY19.out hb20.size
  have HA20 : Hid (Blk k20 (k6.heap.size) [Value.int .u64 (a00 : Int), .int .u64 (a01 : Int), .int .u64 (a02 : Int), .int .u64 (a03 : Int), .int .i64 D0, .slice s0 L0.length c0]) := Blk.below HA19.out hb20 LA19.out
  have LA20 : Hid (k6.heap.size < k20.heap.size) := Nat.lt_of_lt_of_le LA19.out hb20.size
  have HB20 : Hid (Blk k20 (k9.heap.size) [Value.int .u64 (a10 : Int), .int .u64 (a11 : Int), .int .u64 (a12 : Int), .int .u64 (a13 : Int), .int .i64 D1, .slice s1 L1.length c1]) := Blk.below HB19.out hb20 LB19.out
  have LB20 : Hid (k9.heap.size < k20.heap.size) := Nat.lt_of_lt_of_le LB19.out hb20.size
  have HC20 : Hid (Blk k20 (k14.heap.size) [Value.int .u64 (a00 : Int), .int .u64 (a01 : Int), .int .u64 (a02 : Int), .int .u64 (a03 : Int), .int .i64 D0, .slice pC L0.length qC]) := Blk.below HC19.out hb20 LC19.out
  have LC20 : Hid (k14.heap.size < k20.heap.size) := Nat.lt_of_lt_of_le LC19.out hb20.size
  have HE20 : Hid (Blk k20 (k17.heap.size) [Value.int .u64 0, .int .u64 0, .int .u64 0, .int .u64 0, .int .i64 0, .slice pE ([] : List I.Wt).length qE]) := Blk.below HE19.out hb20 LE19.out
  have LE20 : Hid (k17.heap.size < k20.heap.size) := Nat.lt_of_lt_of_le LE19.out hb20.size
  have XV020 := Lib.hid (IsWs.below XV019.out hb20)
  have XV120 := Lib.hid (IsWs.below XV119.out hb20)
  have XVC20 := Lib.hid (IsWs.below XVC19.out hb20)
  have W20 : Hid (Below w.heap.size w k20) := Below.trans W19.out (hb20.mono W19.out.size)
  clear hb20 HX19 LX19 HY19 LY19 HA19 LA19 HB19 LB19 HC19 LC19 HE19 LE19 XV019 XV119 XVC19 W19 
  obtain ⟨pF, qF, ev, _⟩ := ho.is.is
  subst ev
  clear ho
  go_wp2_with (first | refine blk_alloc rfl 43 (ks .u64 [0, 0, 0, 0] ++ [Value.int .i64 0, .slice none 0 0]) rfl Try.info_itx ?_)
  intro k21 A21 B21 Z21
  go_wp2_with (first | refine blk_store rfl 43 _ _ rfl (k20.heap.size) rfl [Value.int .u64 0, .int .u64 0, .int .u64 0, .int .u64 0, .int .i64 0, .slice pF ([] : List I.Wt).length qF] rfl _ A21 rfl Try.size_itx rfl ?_)
  intro k22 A22 U22
  have hb22 : Below k20.heap.size k20 k22 := B21.trans (U22.below (Nat.le_refl _))
  have HF22_ : Hid (Blk k22 (k20.heap.size) [Value.int .u64 0, .int .u64 0, .int .u64 0, .int .u64 0, .int .i64 0, .slice pF ([] : List I.Wt).length qF]) := A22
  have LF22_ : Hid (k20.heap.size < k22.heap.size) := by show _ < _; rw [U22.size]; omega
  have HX22 : Hid (Blk k22 (w.heap.size) [.int .u64 (l00 : Int), .int .u64 (l01 : Int), .int .u64 (l02 : Int), .int .u64 (l03 : Int), .int .i64 dd0, .bool mo0, sv0, .bool true]) := Blk.below HX20.out hb22 LX20.out
  have LX22 : Hid (w.heap.size < k22.heap.size) := Nat.lt_of_lt_of_le LX20.out hb22.size
  have HY22 : Hid (Blk k22 (w.heap.size + 1) [.int .u64 (l10 : Int), .int .u64 (l11 : Int), .int .u64 (l12 : Int), .int .u64 (l13 : Int), .int .i64 dd1, .bool mo1, sv1, .bool true]) := Blk.below HY20.out hb22 LY20.out
  have LY22 : Hid (w.heap.size + 1 < k22.heap.size) := Nat.lt_of_lt_of_le LY20.out hb22.size
  have HA22 : Hid (Blk k22 (k6.heap.size) [Value.int .u64 (a00 : Int), .int .u64 (a01 : Int), .int .u64 (a02 : Int), .int .u64 (a03 : Int), .int .i64 D0, .slice s0 L0.length c0]) := Blk.below HA20.out hb22 LA20.out
  have LA22 : Hid (k6.heap.size < k22.heap.size) := Nat.lt_of_lt_of_le LA20.out hb22.size
  have HB22 : Hid (Blk k22 (k9.heap.size) [Value.int .u64 (a10 : Int), .int .u64 (a11 : Int), .int .u64 (a12 : Int), .int .u64 (a13 : Int), .int .i64 D1, .slice s1 L1.length c1]) := Blk.below HB20.out hb22 LB20.out
  have LB22 : Hid (k9.heap.size < k22.heap.size) := Nat.lt_of_lt_of_le LB20.out hb22.size
  have HC22 : Hid (Blk k22 (k14.heap.size) [Value.int .u64 (a00 : Int), .int .u64 (a01 : Int), .int .u64 (a02 : Int), .int .u64 (a03 : Int), .int .i64 D0, .slice pC L0.length qC]) := Blk.below HC20.out hb22 LC20.out
  have LC22 : Hid (k14.heap.size < k22.heap.size) := Nat.lt_of_lt_of_le LC20.out hb22.size
  have HE22 : Hid (Blk k22 (k17.heap.size) [Value.int .u64 0, .int .u64 0, .int .u64 0, .int .u64 0, .int .i64 0, .slice pE ([] : List I.Wt).length qE]) := Blk.below HE20.out hb22 LE20.out
  have LE22 : Hid (k17.heap.size < k22.heap.size) := Nat.lt_of_lt_of_le LE20.out hb22.size
  have XV022 := Lib.hid (IsWs.below XV020.out hb22)
  have XV122 := Lib.hid (IsWs.below XV120.out hb22)
  have XVC22 := Lib.hid (IsWs.below XVC20.out hb22)
  have W22 : Hid (Below w.heap.size w k22) := Below.trans W20.out (hb22.mono W20.out.size)
  have HF22 := HF22_
  have LF22 := LF22_
  clear hb22 A21 B21 Z21 A22 U22 HF22_ LF22_ HX20 LX20 HY20 LY20 HA20 LA20 HB20 LB20 HC20 LC20 HE20 LE20 XV020 XV120 XVC20 W20
  have cA0 := HA22.out.cell 0 _ rfl
  have cA1 := HA22.out.cell 1 _ rfl
  have cA2 := HA22.out.cell 2 _ rfl
  have cA3 := HA22.out.cell 3 _ rfl
  have cA4 := HA22.out.cell 4 _ rfl
  have cA5 := HA22.out.cell 5 _ rfl
  have cC0 := HC22.out.cell 0 _ rfl
  have cC1 := HC22.out.cell 1 _ rfl
  have cC2 := HC22.out.cell 2 _ rfl
  have cC3 := HC22.out.cell 3 _ rfl
  have cC4 := HC22.out.cell 4 _ rfl
  have cC5 := HC22.out.cell 5 _ rfl
  go_wp2_with fail
  refine (CS.out _ _ _ XV022.out XVC22.out).mono ?_; rintro e k23 ⟨rfl, hb23⟩
  have HX23 : Hid (Blk k23 (w.heap.size) [.int .u64 (l00 : Int), .int .u64 (l01 : Int), .int .u64 (l02 : Int), .int .u64 (l03 : Int), .int .i64 dd0, .bool mo0, sv0, .bool true]) := Blk.below HX22.out hb23 LX22.out
  have LX23 : Hid (w.heap.size < k23.heap.size) := Nat.lt_of_lt_of_le LX22.out hb23.size
  have HY23 : Hid (Blk k23 (w.heap.size + 1) [.int .u64 (l10 : Int), .int .u64 (l11 : Int), .int .u64 (l12 : Int), .int .u64 (l13 : Int), .int .i64 dd1, .bool mo1, sv1, .bool true]) := Blk.below HY22.out hb23 LY22.out
  have LY23 : Hid (w.heap.size + 1 < k23.heap.size) := Nat.lt_of_lt_of_le LY22.out hb23.size
  have HA23 : Hid (Blk k23 (k6.heap.size) [Value.int .u64 (a00 : Int), .int .u64 (a01 : Int), .int .u64 (a02 : Int), .int .u64 (a03 : Int), .int .i64 D0, .slice s0 L0.length c0]) := Blk.below HA22.out hb23 LA22.out
  have LA23 : Hid (k6.heap.size < k23.heap.size) := Nat.lt_of_lt_of_le LA22.out hb23.size
  have HB23 : Hid (Blk k23 (k9.heap.size) [Value.int .u64 (a10 : Int), .int .u64 (a11 : Int), .int .u64 (a12 : Int), .int .u64 (a13 : Int), .int .i64 D1, .slice s1 L1.length c1]) := Blk.below HB22.out hb23 LB22.out
  have LB23 : Hid (k9.heap.size < k23.heap.size) := Nat.lt_of_lt_of_le LB22.out hb23.size
  have HC23 : Hid (Blk k23 (k14.heap.size) [Value.int .u64 (a00 : Int), .int .u64 (a01 : Int), .int .u64 (a02 : Int), .int .u64 (a03 : Int), .int .i64 D0, .slice pC L0.length qC]) := Blk.below HC22.out hb23 LC22.out
  have LC23 : Hid (k14.heap.size < k23.heap.size) := Nat.lt_of_lt_of_le LC22.out hb23.size
  have HE23 : Hid (Blk k23 (k17.heap.size) [Value.int .u64 0, .int .u64 0, .int .u64 0, .int .u64 0, .int .i64 0, .slice pE ([] : List I.Wt).length qE]) := Blk.below HE22.out hb23 LE22.out
  have LE23 : Hid (k17.heap.size < k23.heap.size) := Nat.lt_of_lt_of_le LE22.out hb23.size
  have HF23 : Hid (Blk k23 (k20.heap.size) [Value.int .u64 0, .int .u64 0, .int .u64 0, .int .u64 0, .int .i64 0, .slice pF ([] : List I.Wt).length qF]) := Blk.below HF22.out hb23 LF22.out
  have LF23 : Hid (k20.heap.size < k23.heap.size) := Nat.lt_of_lt_of_le LF22.out hb23.size
  have XV023 := Lib.hid (IsWs.below XV022.out hb23)
  have XV123 := Lib.hid (IsWs.below XV122.out hb23)
  have XVC23 := Lib.hid (IsWs.below XVC22.out hb23)
  have W23 : Hid (Below w.heap.size w k23) := Below.trans W22.out (hb23.mono W22.out.size)
  clear hb23 HX22 LX22 HY22 LY22 HA22 LA22 HB22 LB22 HC22 LC22 HE22 LE22 HF22 LF22 XV022 XV122 XVC22 W22 cA0 cA1 cA2 cA3 cA4 cA5 cC0 cC1 cC2 cC3 cC4 cC5
  have cC0 := HC23.out.cell 0 _ rfl
  have cC1 := HC23.out.cell 1 _ rfl
  have cC2 := HC23.out.cell 2 _ rfl
  have cC3 := HC23.out.cell 3 _ rfl
  have cC4 := HC23.out.cell 4 _ rfl
  have cC5 := HC23.out.cell 5 _ rfl
  go_wp2_with fail
  refine (CW.out _ _ XVC23.out).mono ?_; rintro e k24 ⟨rfl, hb24⟩
  have HX24 : Hid (Blk k24 (w.heap.size) [.int .u64 (l00 : Int), .int .u64 (l01 : Int), .int .u64 (l02 : Int), .int .u64 (l03 : Int), .int .i64 dd0, .bool mo0, sv0, .bool true]) := Blk.below HX23.out hb24 LX23.out
  have LX24 : Hid (w.heap.size < k24.heap.size) := Nat.lt_of_lt_of_le LX23.out hb24.size
  have HY24 : Hid (Blk k24 (w.heap.size + 1) [.int .u64 (l10 : Int), .int .u64 (l11 : Int), .int .u64 (l12 : Int), .int .u64 (l13 : Int), .int .i64 dd1, .bool mo1, sv1, .bool true]) := Blk.below HY23.out hb24 LY23.out
  have LY24 : Hid (w.heap.size + 1 < k24.heap.size) := Nat.lt_of_lt_of_le LY23.out hb24.size
  have HA24 : Hid (Blk k24 (k6.heap.size) [Value.int .u64 (a00 : Int), .int .u64 (a01 : Int), .int .u64 (a02 : Int), .int .u64 (a03 : Int), .int .i64 D0, .slice s0 L0.length c0]) := Blk.below HA23.out hb24 LA23.out
  have LA24 : Hid (k6.heap.size < k24.heap.size) := Nat.lt_of_lt_of_le LA23.out hb24.size
  have HB24 : Hid (Blk k24 (k9.heap.size) [Value.int .u64 (a10 : Int), .int .u64 (a11 : Int), .int .u64 (a12 : Int), .int .u64 (a13 : Int), .int .i64 D1, .slice s1 L1.length c1]) := Blk.below HB23.out hb24 LB23.out
  have LB24 : Hid (k9.heap.size < k24.heap.size) := Nat.lt_of_lt_of_le LB23.out hb24.size
  have HC24 : Hid (Blk k24 (k14.heap.size) [Value.int .u64 (a00 : Int), .int .u64 (a01 : Int), .int .u64 (a02 : Int), .int .u64 (a03 : Int), .int .i64 D0, .slice pC L0.length qC]) := Blk.below HC23.out hb24 LC23.out
  have LC24 : Hid (k14.heap.size < k24.heap.size) := Nat.lt_of_lt_of_le LC23.out hb24.size
  have HE24 : Hid (Blk k24 (k17.heap.size) [Value.int .u64 0, .int .u64 0, .int .u64 0, .int .u64 0, .int .i64 0, .slice pE ([] : List I.Wt).length qE]) := Blk.below HE23.out hb24 LE23.out
  have LE24 : Hid (k17.heap.size < k24.heap.size) := Nat.lt_of_lt_of_le LE23.out hb24.size
  have HF24 : Hid (Blk k24 (k20.heap.size) [Value.int .u64 0, .int .u64 0, .int .u64 0, .int .u64 0, .int .i64 0, .slice pF ([] : List I.Wt).length qF]) := Blk.below HF23.out hb24 LF23.out
  have LF24 : Hid (k20.heap.size < k24.heap.size) := Nat.lt_of_lt_of_le LF23.out hb24.size
  have XV024 := Lib.hid (IsWs.below XV023.out hb24)
  have XV124 := Lib.hid (IsWs.below XV123.out hb24)
  have XVC24 := Lib.hid (IsWs.below XVC23.out hb24)
  have W24 : Hid (Below w.heap.size w k24) := Below.trans W23.out (hb24.mono W23.out.size)
  clear hb24 HX23 LX23 HY23 LY23 HA23 LA23 HB23 LB23 HC23 LC23 HE23 LE23 HF23 LF23 XV023 XV123 XVC23 W23 cC0 cC1 cC2 cC3 cC4 cC5
  have cA0 := HA24.out.cell 0 _ rfl
  have cA1 := HA24.out.cell 1 _ rfl
  have cA2 := HA24.out.cell 2 _ rfl
  have cA3 := HA24.out.cell 3 _ rfl
  have cA4 := HA24.out.cell 4 _ rfl
  have cA5 := HA24.out.cell 5 _ rfl
  have cB0 := HB24.out.cell 0 _ rfl
  have cB1 := HB24.out.cell 1 _ rfl
  have cB2 := HB24.out.cell 2 _ rfl
  have cB3 := HB24.out.cell 3 _ rfl
  have cB4 := HB24.out.cell 4 _ rfl
  have cB5 := HB24.out.cell 5 _ rfl
  go_wp2_with fail
  refine (CS2.out _ _ _ XV024.out XV124.out).mono ?_; rintro e k25 ⟨rfl, hb25⟩
  have HX25 : Hid (Blk k25 (w.heap.size) [.int .u64 (l00 : Int), .int .u64 (l01 : Int), .int .u64 (l02 : Int), .int .u64 (l03 : Int), .int .i64 dd0, .bool mo0, sv0, .bool true]) := Blk.below HX24.out hb25 LX24.out
  have LX25 : Hid (w.heap.size < k25.heap.size) := Nat.lt_of_lt_of_le LX24.out hb25.size
  have HY25 : Hid (Blk k25 (w.heap.size + 1) [.int .u64 (l10 : Int), .int .u64 (l11 : Int), .int .u64 (l12 : Int), .int .u64 (l13 : Int), .int .i64 dd1, .bool mo1, sv1, .bool true]) := Blk.below HY24.out hb25 LY24.out
  have LY25 : Hid (w.heap.size + 1 < k25.heap.size) := Nat.lt_of_lt_of_le LY24.out hb25.size
  have HA25 : Hid (Blk k25 (k6.heap.size) [Value.int .u64 (a00 : Int), .int .u64 (a01 : Int), .int .u64 (a02 : Int), .int .u64 (a03 : Int), .int .i64 D0, .slice s0 L0.length c0]) := Blk.below HA24.out hb25 LA24.out
  have LA25 : Hid (k6.heap.size < k25.heap.size) := Nat.lt_of_lt_of_le LA24.out hb25.size
  have HB25 : Hid (Blk k25 (k9.heap.size) [Value.int .u64 (a10 : Int), .int .u64 (a11 : Int), .int .u64 (a12 : Int), .int .u64 (a13 : Int), .int .i64 D1, .slice s1 L1.length c1]) := Blk.below HB24.out hb25 LB24.out
  have LB25 : Hid (k9.heap.size < k25.heap.size) := Nat.lt_of_lt_of_le LB24.out hb25.size
  have HC25 : Hid (Blk k25 (k14.heap.size) [Value.int .u64 (a00 : Int), .int .u64 (a01 : Int), .int .u64 (a02 : Int), .int .u64 (a03 : Int), .int .i64 D0, .slice pC L0.length qC]) := Blk.below HC24.out hb25 LC24.out
  have LC25 : Hid (k14.heap.size < k25.heap.size) := Nat.lt_of_lt_of_le LC24.out hb25.size
  have HE25 : Hid (Blk k25 (k17.heap.size) [Value.int .u64 0, .int .u64 0, .int .u64 0, .int .u64 0, .int .i64 0, .slice pE ([] : List I.Wt).length qE]) := Blk.below HE24.out hb25 LE24.out
  have LE25 : Hid (k17.heap.size < k25.heap.size) := Nat.lt_of_lt_of_le LE24.out hb25.size
  have HF25 : Hid (Blk k25 (k20.heap.size) [Value.int .u64 0, .int .u64 0, .int .u64 0, .int .u64 0, .int .i64 0, .slice pF ([] : List I.Wt).length qF]) := Blk.below HF24.out hb25 LF24.out
  have LF25 : Hid (k20.heap.size < k25.heap.size) := Nat.lt_of_lt_of_le LF24.out hb25.size
  have XV025 := Lib.hid (IsWs.below XV024.out hb25)
  have XV125 := Lib.hid (IsWs.below XV124.out hb25)
  have XVC25 := Lib.hid (IsWs.below XVC24.out hb25)
  have W25 : Hid (Below w.heap.size w k25) := Below.trans W24.out (hb25.mono W24.out.size)
  clear hb25 HX24 LX24 HY24 LY24 HA24 LA24 HB24 LB24 HC24 LC24 HE24 LE24 HF24 LF24 XV024 XV124 XVC24 W24 cA0 cA1 cA2 cA3 cA4 cA5 cB0 cB1 cB2 cB3 cB4 cB5
  go_wp2_with fail
  go_ret
  exact ⟨rfl, W25.out⟩

set_option maxRecDepth 100000 in
theorem lifted (os : Os) (started : os.Started) (H : Type) (enc : TypeId × Value → H) :
    ReturnsInHanded {} Try.checked os 6 .any (Rows.itemBackSpec.pre6 enc Try.prog Try.f6 Rows.itemBackRow.domain false) (Rows.itemBackSpec.post enc Try.prog Try.f6 false true false false) := by
  refine returnsInHanded_of_change_sized (C := Try.checked) own started (by kernel_rfl) Try.func6
    (ChangeSpec.witness6 (enc := enc) (C := Try.checked) false ⟨#[], #[.agg #[.int .u64 0, .int .u64 0, .int .u64 0, .int .u64 0, .int .i64 0, .bool false, .slice none 0 0, .bool false], .agg #[.int .u64 0, .int .u64 0, .int .u64 0, .int .u64 0, .int .i64 0, .bool false, .slice none 0 0, .bool false], .int .u16 0], []⟩ 8 (by kernel_rfl) (by kernel_rfl) (by kernel_rfl) (by kernel_rfl)) ?_
  intro W base args ds gs before hval0 hW hcnd hsz0 _
  have hval : ∀ (j : Nat) t v, Try.f6.params[j]? = some t → args[j]? = some v → Value.okWide Try.prog W .any base t v := hval0
  have hW' := hW
  obtain ⟨p, q, hA0, hV, rfl, hfz, hnd⟩ := hW
  have hA : DataW.TrodAll enc Try.prog W 0 (fun _ => true) true Try.f6.params.toList args.toList ds p := hA0
  have hsz : (DataW.weightsEach Try.prog (Try.f6.params.toList ++ Rows.itemBackSpec.plain.varTypes Try.prog) (ds ++ gs)).all (· ≤ reachBytes) = true := hsz0
  rw [Try.params6] at hA hval hsz
  obtain ⟨rfl, rfl⟩ := trodVars_none hV
  have hAk := hA
  have hlt : ∀ x ∈ p, x.block < W.heap.size := fun x hx => by simpa using hW'.lt x (List.mem_append.2 (.inl hx))
  obtain ⟨v0, vs0, d0, ds0, p0, q0, hargs, rfl, rfl, h0, r0⟩ := trodAll_cons hA
  obtain ⟨v1, vs1, d1, ds1, p1, q1, rfl, rfl, rfl, h1, r1⟩ := trodAll_cons r0
  obtain ⟨v2, vs2, d2, ds2, p2, q2, rfl, rfl, rfl, h2, r2⟩ := trodAll_cons r1
  obtain ⟨rfl, rfl, rfl⟩ := trodAll_nil r2
  obtain rfl : args = #[v0, v1, v2] := by cases args; simp_all
  obtain ⟨al0, dd0, mo0, sv0, PL0, ow0, rfl, k0, kd0, ki0, kp0⟩ := open_deal (hval 0 35 v0 rfl rfl) h0 (Sz.arg hsz (j := 0) rfl rfl)
  obtain ⟨al1, dd1, mo1, sv1, PL1, ow1, rfl, k1, kd1, ki1, kp1⟩ := open_deal (hval 1 35 v1 rfl rfl) h1 (Sz.arg hsz (j := 1) rfl rfl)
  obtain ⟨a2, rfl, rfl, rfl, w2⟩ := open_int Try.underlying73 (hval 2 73 v2 rfl rfl) h2
  clear hA0 hval0 hsz0
  refine (walk al0 dd0 mo0 sv0 PL0 ow0 al1 dd1 mo1 sv1 PL1 ow1 a2 k0 kd0 kp0 k1 kd1 kp1 w2 W ki0 ki1).mono fun e W' ⟨he, hg⟩ => ?_
  subst he
  exact ⟨_, rfl, _, _, _, [], _, [], hW', (trodAll_cons_mk (shut_bool Try.underlying4 _) trodAll_mk0), trodAll_below laidOut hg _ _ _ _ (by kernel_rfl) hAk hlt, rfl, hg.frame _, fun h => by cases h⟩

theorem over : Rows.itemBackRow.holds Try.pinned (OpenSpec.ofChange Rows.itemBackSpec) :=
  OpenClaim.holds_of_wide 6 Try.f6 rfl rfl rfl rfl rfl rfl rfl ⟨rfl, rfl, rfl, rfl, rfl⟩ rfl rfl rfl rfl rfl (by kernel_rfl) Try.func6 (by kernel_rfl)
    (of_decide_eq_true (by kernel_rfl)) (by unfold Func.isWrapper; first | (rw [if_pos (by decide +kernel)]; kernel_rfl) | (rw [if_neg (by decide +kernel)]; exact ⟨rfl, rfl⟩))
    (fun os started H enc _ => lifted os started H enc)

/-- the statement -/
theorem proved : Rows.ItemBackSaid :=
  over
#print axioms proved

end Go.Proofs.Ytkfcbihofipcbaa.itemBack
