/-
  A transaction with no writes, with too many, with two of one key, or one that is not right, is not whole (the law ItemWhole). No conditions.
-/
import Derived.Test.YtkfcbihofipcbaaFrame

import Derived.Test.YtkfcbihofipcbaaItemF

import Derived.Test.YtkfcbihofipcbaaItemWh

import Derived.Test.YtkfcbihofipcbaaItemAp2

import Derived.Test.YtkfcbihofipcbaaFramePut

namespace Go.Proofs.Ytkfcbihofipcbaa.itemWhole

open Go.ChangeShapes Go.WideShapes Go.ChangeAt Go.RowKit

open Go.ChangeMaps (open_string shut_string)

open Go.Proofs.Ytkfcbihofipcbaa.Vc Go.Proofs.Ytkfcbihofipcbaa.Sp Go.Proofs.Ytkfcbihofipcbaa.It

set_option linter.unusedVariables false

set_option linter.unusedSimpArgs false

theorem Try.size_dl : (Try.prog.info? 35).map (·.size) = some 8 := by kernel_rfl
theorem wf0 (a : List Nat) (d : Int) : I.whole a d [] = false := by
  unfold I.whole
  rw [decide_eq_false (by simp), Bool.false_and, Bool.and_false]
theorem wf1 (a : List Nat) (d : Int) (M : List I.Wt) (h : 9 ≤ M.length) : I.whole a d M = false := by
  unfold I.whole
  rw [decide_eq_false (by omega), Bool.false_and, Bool.and_false]
theorem wf2 (a : List Nat) (d : Int) (x y : I.Wt) (h : I.key x = I.key y) : I.whole a d [x, y] = false := by
  unfold I.whole
  rw [I.okTo_not [x, y] 1 _ (by show 1 < 2; omega) (by rw [I.apart_not [x, y] 1 0 1 (by omega) h, Bool.and_false]), Bool.and_false, Bool.and_false]
theorem wf3 (a : List Nat) (d : Int) (L : List I.Wt) (y : I.Wt) (hl : 1 ≤ L.length) (h : I.right y = false) : I.whole a d (L.set 0 y) = false := by
  unfold I.whole
  have hg : (L.set 0 y).getD 0 I.none_ = y := by rw [List.getD_eq_getElem?_getD, List.getElem?_set_self (by omega)]; rfl
  rw [I.okTo_not (L.set 0 y) 0 _ (by rw [List.length_set]; omega) (by rw [hg, h, Bool.false_and]), Bool.and_false, Bool.and_false]
theorem wf5 (a : List Nat) (L : List I.Wt) : I.whole a 0 L = false := by
  unfold I.whole T.right
  have h : V.at_ a 0 = 0 := V.at_none a 0 (by decide)
  rw [h, decide_eq_false (by omega), Bool.and_false, Bool.false_and]
theorem right_nokey (b v : ByteArray) (g : Bool) : I.right (b, ⟨#[]⟩, v, g) = false := by
  unfold I.right
  rw [decide_eq_false (fun h => absurd h.2.2.1 (by show ¬ (1 ≤ 0); omega)), Bool.false_and]
theorem right_gone (b k : ByteArray) : I.right (b, k, ⟨#[118]⟩, true) = false := by
  unfold I.right
  rw [show (!true || decide ((⟨#[118]⟩ : ByteArray).size = 0)) = false from rfl, Bool.and_false]
theorem byte_run (w : World) (b c : Nat) (hc : c < 256) (hA : Arr .u8 w b [c]) : (convert 76 9 (.slice (some ⟨b, 0, none⟩) 1 1)).run Try.prog w = .ok (.string ⟨#[UInt8.ofNat c]⟩) w := by
  have hcv := run_convert_bytes_back (P := Try.prog) w 76 9 5 ⟨b, 0, none⟩ 1 [UInt8.ofNat c] Try.underlying76 Try.underlying5 Try.underlying9 (fun j hj => by
    match j, hj with
    | 0, _ =>
      show w.cell? _ = some (.int .u8 (((UInt8.ofNat c).toNat : Nat) : Int))
      rw [P.ofNat_toNat_lt c hc]
      have := Arr.cell hA 0 (by simp)
      simpa [Addr.add] using this)
  exact hcv
set_option maxHeartbeats 32000000 in
set_option maxRecDepth 100000 in
theorem walk (al0 : List Nat) (dd0 : Int) (mo0 : Bool) (sv0 : Value) (PL0 : List I.Pt) (ow0 : Bool) (a1 : Int) (k0 : V.Ok al0) (kd0 : (Lit.int .i64 dd0).wf = true) (kp0 : ∀ p ∈ PL0, I.POk p) (w1 : (Lit.int .u8 a1).wf = true) (w : World) (ki0 : IsPs w sv0 PL0) :
    Calls Try.prog 8 #[DV al0 dd0 mo0 sv0 ow0, .int .u8 a1] w fun e w' => e = .returned (.bool true) ∧ Below w.heap.size w w' := by
  have h1 : 0 ≤ a1 ∧ a1 ≤ 255 := by simpa [Lit.wf, IntKind.min, IntKind.max, IntKind.signed, IntKind.bits] using w1
  obtain ⟨n1, rfl, hn1⟩ : ∃ r : Nat, a1 = (r : Int) ∧ r < 256 := ⟨a1.toNat, by omega, by omega⟩
  clear w1 h1
  have hA0 : V.Ok (T.mark al0 dd0 (true || mo0)).1 := T.mark_ok k0 dd0 _
  have hW0 := I.dealW_whole k0.len dd0 mo0 PL0
  have hO0 := I.dealW_ok true PL0 kp0
  have hN0 := I.dealW_len true PL0
  have CD0 : Hid (∀ u, IsPs u sv0 PL0 → Calls Try.prog 14 #[DV al0 dd0 mo0 sv0 true] u fun e w' => ∃ v', e = .returned (TV (T.mark al0 dd0 (true || mo0)).1 (T.mark al0 dd0 (true || mo0)).2 v') ∧ IsWs w' v' (I.dealW true PL0) ∧ Below u.heap.size u w') := fun u hu => deal_any al0 dd0 mo0 sv0 true PL0 u k0 kd0 hu kp0
  obtain ⟨D0, HD0⟩ : ∃ z, Hid ((T.mark al0 dd0 (true || mo0)).2 = z) := ⟨_, rfl⟩
  obtain ⟨A0, HAA0⟩ : ∃ z, Hid ((T.mark al0 dd0 (true || mo0)).1 = z) := ⟨_, rfl⟩
  obtain ⟨L0, HLL0⟩ : ∃ z, Hid (I.dealW true PL0 = z) := ⟨_, rfl⟩
  rw [HD0.out, HAA0.out, HLL0.out] at CD0
  rw [HAA0.out] at hA0
  rw [HLL0.out] at hO0 hN0
  rw [HD0.out, HAA0.out, HLL0.out] at hW0
  have hP0 : 1 ≤ L0.length := by rw [← HLL0.out]; exact I.dealW_pos PL0
  obtain ⟨a00, a01, a02, a03, rfl⟩ := V.four hA0.len
  obtain ⟨l00, l01, l02, l03, rfl⟩ := V.four k0.len
  have KI0 := Lib.hid ki0
  clear HD0 HAA0 k0 kd0 kp0 ki0
  have CW : Hid (∀ u v, IsWs u v L0 → Calls Try.prog 22 #[TV [a00, a01, a02, a03] D0 v] u fun e w' => e = .returned (.bool true) ∧ Below u.heap.size u w') := fun u v hv => by
    have := whole_any [a00, a01, a02, a03] D0 v L0 u rfl hv
    rw [hW0] at this
    exact this
  have HOA := Lib.hid hA0
  have CF : Hid (∀ (D : Int) (L : List I.Wt), I.whole [a00, a01, a02, a03] D L = false → ∀ u v, IsWs u v L → Calls Try.prog 22 #[TV [a00, a01, a02, a03] D v] u fun e w' => e = .returned (.bool false) ∧ Below u.heap.size u w') := fun D L hw u v hv => by
    have := whole_any [a00, a01, a02, a03] D v L u rfl hv
    rw [hw] at this
    exact this
  have CB : Hid (∀ (D : Int) (L : List I.Wt), I.whole [a00, a01, a02, a03] D L = false → ∀ u v, IsWs u v L → Calls Try.prog 15 #[TV [a00, a01, a02, a03] D v] u fun e w' => e = .returned (.tuple #[.string ⟨#[]⟩, .bool false]) ∧ Below u.heap.size u w') := fun D L hw u v hv => by
    have := bytes_any [a00, a01, a02, a03] D v L u HOA.out hv
    unfold I.bytesS at this
    rw [hw] at this
    exact this
  obtain ⟨x, HX⟩ : ∃ z, Hid (L0.getD 0 I.none_ = z) := ⟨_, rfl⟩
  obtain ⟨xb, xk, xv, xg⟩ := x
  obtain ⟨m, HM⟩ : ∃ z, Hid (L0.length = z) := ⟨_, rfl⟩
  have hne1 := hP0
  have hle1 : L0.length ≤ 1000 := by omega
  rw [HM.out] at hP0 hN0
  obtain ⟨r, hr⟩ : ∃ r, r = n1 % 6 := ⟨_, rfl⟩
  have hr6 : r < 6 := by omega
  have t1 : (n1 : Int).tmod 6 = (r : Int) := by rw [Int.tmod_eq_emod_of_nonneg (by omega)]; omega
  have t2 : (n1 : Int) % 6 = (r : Int) := by omega
  have u2 : IntKind.u8.wrap (r : Int) = (r : Int) := by simp [IntKind.wrap, IntKind.bits, IntKind.signed]; omega
  clear hr hn1 hA0 hW0 hO0
  go_enter Try.func8, Try.ntmps8
  have W0 : Hid (Below w.heap.size w w) := Below.refl _ _
  go_wp2_with (first | refine blk_box rfl 35 _ rfl [.int .u64 (l00 : Int), .int .u64 (l01 : Int), .int .u64 (l02 : Int), .int .u64 (l03 : Int), .int .i64 dd0, .bool mo0, sv0, .bool ow0] rfl ?_)
  intro k1 A1 B1 Z1
  have hb1 : Below w.heap.size w k1 := B1
  have HX1_ : Hid (Blk k1 (w.heap.size) [.int .u64 (l00 : Int), .int .u64 (l01 : Int), .int .u64 (l02 : Int), .int .u64 (l03 : Int), .int .i64 dd0, .bool mo0, sv0, .bool ow0]) := A1
  have LX1_ : Hid (w.heap.size < k1.heap.size) := by show _ < _; omega
  have W1 : Hid (Below w.heap.size w k1) := Below.trans W0.out (hb1.mono W0.out.size)
  have HX1 := HX1_
  have LX1 := LX1_
  clear hb1 A1 B1 Z1 W0 HX1_ LX1_
  go_wp2_with fail
  refine (examples_any _).mono ?_; rintro e k2 ⟨rfl, hb2⟩
  have HX2 : Hid (Blk k2 (w.heap.size) [.int .u64 (l00 : Int), .int .u64 (l01 : Int), .int .u64 (l02 : Int), .int .u64 (l03 : Int), .int .i64 dd0, .bool mo0, sv0, .bool ow0]) := Blk.below HX1.out hb2 LX1.out
  have LX2 : Hid (w.heap.size < k2.heap.size) := Nat.lt_of_lt_of_le LX1.out hb2.size
  have W2 : Hid (Below w.heap.size w k2) := Below.trans W1.out (hb2.mono W1.out.size)
  clear hb2 HX1 LX1 W1 
  have cf3 := HX2.out.cell 7 _ rfl
  have ff3 := HX2.out.free 7 (by simp)
  have U3 : Upd (w.heap.size) k2 (k2.setCell ⟨w.heap.size, 7, none⟩ (.bool true)) := Upd.setCell _ _ _ _
  have A3 : Blk (k2.setCell ⟨w.heap.size, 7, none⟩ (.bool true)) (w.heap.size) [.int .u64 (l00 : Int), .int .u64 (l01 : Int), .int .u64 (l02 : Int), .int .u64 (l03 : Int), .int .i64 dd0, .bool mo0, sv0, .bool true] := Blk.setc HX2.out 7 (by simp) (.bool true)
  have HX3 : Hid (Blk (k2.setCell ⟨w.heap.size, 7, none⟩ (.bool true)) (w.heap.size) [.int .u64 (l00 : Int), .int .u64 (l01 : Int), .int .u64 (l02 : Int), .int .u64 (l03 : Int), .int .i64 dd0, .bool mo0, sv0, .bool true]) := A3
  have LX3 : Hid (w.heap.size < (k2.setCell ⟨w.heap.size, 7, none⟩ (.bool true)).heap.size) := by show _ < _; rw [U3.size]; exact LX2.out
  have W3 : Hid (Below w.heap.size w (k2.setCell ⟨w.heap.size, 7, none⟩ (.bool true))) := Below.trans W2.out (U3.below (by omega))
  clear A3 U3 HX2 LX2 W2
  go_wp2_with (first | refine blk_load rfl 35 _ rfl (w.heap.size) rfl [.int .u64 (l00 : Int), .int .u64 (l01 : Int), .int .u64 (l02 : Int), .int .u64 (l03 : Int), .int .i64 dd0, .bool mo0, sv0, .bool true] HX3.out _ Try.underlying35 rfl Try.size_dl ?_)
  refine (CD0.out _ (IsPs.below KI0.out W3.out)).mono ?_; rintro e k4 ⟨v, rfl, hi, hb4⟩
  have HX4 : Hid (Blk k4 (w.heap.size) [.int .u64 (l00 : Int), .int .u64 (l01 : Int), .int .u64 (l02 : Int), .int .u64 (l03 : Int), .int .i64 dd0, .bool mo0, sv0, .bool true]) := Blk.below HX3.out hb4 LX3.out
  have LX4 : Hid (w.heap.size < k4.heap.size) := Nat.lt_of_lt_of_le LX3.out hb4.size
  have W4 : Hid (Below w.heap.size w k4) := Below.trans W3.out (hb4.mono W3.out.size)
  clear hb4 HX3 LX3 W3 
  obtain ⟨s0, c0, ev, _⟩ := hi.is
  subst ev
  have XV04 := Lib.hid hi
  clear hi
  have HBW : Hid (w.heap.size ≤ k4.heap.size) := W4.out.size
  go_wp2_with (first | refine blk_alloc rfl 43 (ks .u64 [0, 0, 0, 0] ++ [Value.int .i64 0, .slice none 0 0]) rfl Try.info_itx ?_)
  intro k5 A5 B5 Z5
  go_wp2_with (first | refine blk_store rfl 43 _ _ rfl (k4.heap.size) rfl [Value.int .u64 (a00 : Int), .int .u64 (a01 : Int), .int .u64 (a02 : Int), .int .u64 (a03 : Int), .int .i64 D0, .slice s0 L0.length c0] rfl _ A5 rfl Try.size_itx rfl ?_)
  intro k6 A6 U6
  have hb6 : Below k4.heap.size k4 k6 := B5.trans (U6.below (Nat.le_refl _))
  have HT6_ : Hid (Blk k6 (k4.heap.size) [Value.int .u64 (a00 : Int), .int .u64 (a01 : Int), .int .u64 (a02 : Int), .int .u64 (a03 : Int), .int .i64 D0, .slice s0 L0.length c0]) := A6
  have LT6_ : Hid (k4.heap.size < k6.heap.size) := by show _ < _; rw [U6.size]; omega
  have HX6 : Hid (Blk k6 (w.heap.size) [.int .u64 (l00 : Int), .int .u64 (l01 : Int), .int .u64 (l02 : Int), .int .u64 (l03 : Int), .int .i64 dd0, .bool mo0, sv0, .bool true]) := Blk.below HX4.out hb6 LX4.out
  have LX6 : Hid (w.heap.size < k6.heap.size) := Nat.lt_of_lt_of_le LX4.out hb6.size
  have XV06 := Lib.hid (IsWs.below XV04.out hb6)
  have W6 : Hid (Below w.heap.size w k6) := Below.trans W4.out (hb6.mono W4.out.size)
  have HT6 := HT6_
  have LT6 := LT6_
  clear hb6 A5 B5 Z5 A6 U6 HT6_ LT6_ HX4 LX4 XV04 W4
  have HT : Hid (Blk k6 (k4.heap.size) [Value.int .u64 (a00 : Int), .int .u64 (a01 : Int), .int .u64 (a02 : Int), .int .u64 (a03 : Int), .int .i64 D0, .slice s0 L0.length c0]) := HT6
  have LT : Hid (k4.heap.size < k6.heap.size) := LT6
  have XA : Hid (IsWs k6 (.slice s0 L0.length c0) L0) := XV06
  have WK : Hid (Below w.heap.size w k6) := W6
  rw [HM.out] at HT XA
  rw [HM.out]
  clear HT6 LT6 XV06
  go_wp2_with (first | refine blk_load rfl 43 _ rfl (k4.heap.size) rfl [Value.int .u64 (a00 : Int), .int .u64 (a01 : Int), .int .u64 (a02 : Int), .int .u64 (a03 : Int), .int .i64 D0, .slice s0 m c0] HT.out _ Try.underlying43 rfl Try.size_itx ?_)
  refine (CW.out _ _ XA.out).mono ?_; rintro e k60 ⟨rfl, hb⟩
  have BK0 : Hid (Below k6.heap.size k6 k60) := hb
  clear hb
  have c5 := (Blk.below HT.out BK0.out LT.out).cell 5 _ rfl
  have XA1 := Lib.hid (IsWs.below XA.out BK0.out)
  go_wp2_with (first | refine append_many rfl _ _ rfl rfl s0 m c0 rfl L0 XA1.out hne1 hle1 ?_)
  intro v' k61 ho hb
  have BK : Hid (Below k6.heap.size k6 k61) := Below.trans BK0.out (hb.mono BK0.out.size)
  obtain ⟨g, cg, cur, hgv, hgB, hgrow⟩ := OW.some ho hne1
  subst hgv
  have HO := Lib.hid ho
  rw [HM.out] at HO
  rw [HM.out]
  have hgk : k6.heap.size ≤ g := Nat.le_trans BK0.out.size hgB
  have hgl : g < k61.heap.size := by
    rcases Nat.lt_or_ge g k61.heap.size with h | h
    · exact h
    · rw [Array.getElem?_eq_none h] at hgrow; cases hgrow
  have hlt := LT.out
  have HT1 := Lib.hid (Blk.below HT.out BK.out LT.out)
  clear ho hb c5 XA1
  have hr0 : r = 0 ∨ r = 1 ∨ r = 2 ∨ r = 3 ∨ r = 4 ∨ r = 5 := by omega
  rcases hr0 with rfl | rfl | rfl | rfl | rfl | rfl
  · have hbw : w.heap.size ≤ k4.heap.size := HBW.out
    have XN : Hid (IsWs k61 (.slice none 0 0) []) := IsWs.nil _
    have hw := wf0 [a00, a01, a02, a03] D0
    have y5z := HT1.out.cell 5 _ rfl
    have z5z := HT1.out.free 5 (by simp)
    have Vz : Upd (k4.heap.size) k61 (k61.setCell ⟨k4.heap.size, 5, none⟩ (.slice none 0 0)) := Upd.setCell _ _ _ _
    have HTza : Hid (Blk (k61.setCell ⟨k4.heap.size, 5, none⟩ (.slice none 0 0)) (k4.heap.size) [Value.int .u64 (a00 : Int), .int .u64 (a01 : Int), .int .u64 (a02 : Int), .int .u64 (a03 : Int), .int .i64 D0, .slice none 0 0]) := Blk.setc HT1.out 5 (by simp) (.slice none 0 0)
    have XLz : Hid (IsWs (k61.setCell ⟨k4.heap.size, 5, none⟩ (.slice none 0 0)) (.slice none 0 0) ([])) := IsWs.upd XN.out Vz (fun b o n c e9 => by cases e9)
    have hszz : (k61.setCell ⟨k4.heap.size, 5, none⟩ (.slice none 0 0)).heap.size = k61.heap.size := Vz.size
    have LTz : Hid (k4.heap.size < (k61.setCell ⟨k4.heap.size, 5, none⟩ (.slice none 0 0)).heap.size) := by show _ < _; rw [Vz.size]; have := BK.out.size; omega
    have WAz : Hid (Below w.heap.size w (k61.setCell ⟨k4.heap.size, 5, none⟩ (.slice none 0 0))) := (Below.trans WK.out (BK.out.mono WK.out.size)).trans (Vz.below hbw)
    clear Vz hszz
    go_wp2_with (first | refine blk_load rfl 43 _ rfl (k4.heap.size) rfl [Value.int .u64 (a00 : Int), .int .u64 (a01 : Int), .int .u64 (a02 : Int), .int .u64 (a03 : Int), .int .i64 D0, .slice none 0 0] HTza.out _ Try.underlying43 rfl Try.size_itx ?_)
    refine (CB.out _ _ hw _ _ XLz.out).mono ?_; rintro e k80 ⟨rfl, hb⟩
    have HT80 := Lib.hid (Blk.below HTza.out hb LTz.out)
    have XL80 := Lib.hid (IsWs.below XLz.out hb)
    have WA80 : Hid (Below w.heap.size w k80) := Below.trans WAz.out (hb.mono WAz.out.size)
    clear hb y5z z5z HTza XLz WAz LTz
    have c0 := HT80.out.cell 0 _ rfl
    have c1 := HT80.out.cell 1 _ rfl
    have c2 := HT80.out.cell 2 _ rfl
    have c3 := HT80.out.cell 3 _ rfl
    have c4 := HT80.out.cell 4 _ rfl
    have c5 := HT80.out.cell 5 _ rfl
    go_wp2_with fail
    refine (CF.out _ _ hw _ _ XL80.out).mono ?_; rintro e k81 ⟨rfl, hb⟩
    have WA81 : Hid (Below w.heap.size w k81) := Below.trans WA80.out (hb.mono WA80.out.size)
    clear hb c0 c1 c2 c3 c4 c5
    go_wp2_with fail
    go_ret
    exact ⟨rfl, WA81.out⟩
  · have hbw : w.heap.size ≤ k4.heap.size := HBW.out
    have HO0 : Hid (OW 23 k61 k60.heap.size (.slice (some ⟨g, 0, none⟩) m cg) L0) := HO
    have hk60 : k60.heap.size ≤ k61.heap.size := by omega
    go_wp2_with fail
    go_loopw [8, 9] (fun lv iv wr => ∃ (j : Nat) (M : List I.Wt), j ≤ 9 ∧ iv = .int .i64 j ∧ Hid (M.length = m + j) ∧ Hid (OW 23 wr k60.heap.size lv M) ∧ Hid (Below k60.heap.size k61 wr) ∧ Hid (k60.heap.size ≤ wr.heap.size)) (fun _ iv _ => 9 - (intOf iv).toNat)
    case atStart => exact ⟨0, L0, by omega, rfl, HM, HO0, Below.refl _ _, hk60⟩
    case round =>
      obtain ⟨j, M, hj, rfl, HMl, HOr, HBr, HSr⟩ := hrel
      by_cases hj9 : j < 9
      · have ij9 : (j : Int) < 9 := by omega
        have hlen : M.length < 1000000 := by rw [HMl.out]; omega
        have w1e : IntKind.i64.wrap (97 + (j : Int)) = ((97 + j : Nat) : Int) := by rw [wrapi (by omega) (by omega)]; omega
        have w2e : IntKind.u8.wrap ((97 + j : Nat) : Int) = ((97 + j : Nat) : Int) := by simp [IntKind.wrap, IntKind.bits, IntKind.signed]; omega
        obtain ⟨c, hc⟩ : ∃ c, c = 97 + j := ⟨_, rfl⟩
        rw [← hc] at w1e w2e
        have hc6 : c < 256 := by omega
        obtain ⟨sk, HSK⟩ : ∃ z : ByteArray, Hid ((⟨#[UInt8.ofNat c]⟩ : ByteArray) = z) := ⟨_, rfl⟩
        have hcv : (convert 76 9 (.slice (some ⟨wr.heap.size, 0, none⟩) 1 1)).run Try.prog (wr.alloc (.cells #[.int .u8 (97 + (j : Int))] 5)) = .ok (.string sk) (wr.alloc (.cells #[.int .u8 (97 + (j : Int))] 5)) := by rw [show (97 + (j : Int)) = (c : Int) by omega, ← HSK.out]; exact byte_run _ _ c hc6 (Arr.new .u8 wr [c] _)
        have A71 : Hid (Blk ((wr.alloc (.cells #[.int .u8 (97 + (j : Int))] 5)).alloc (.cells #[.string ⟨#[99]⟩, .string sk, .string ⟨#[]⟩, .bool false] 23)) (wr.heap.size + 1) (wc (⟨#[99]⟩, sk, ⟨#[]⟩, false))) := by have h9 : Blk ((wr.alloc (.cells #[.int .u8 (97 + (j : Int))] 5)).alloc (.cells #[.string ⟨#[99]⟩, .string sk, .string ⟨#[]⟩, .bool false] 23)) (wr.alloc (.cells #[.int .u8 (97 + (j : Int))] 5)).heap.size (wc (⟨#[99]⟩, sk, ⟨#[]⟩, false)) := Blk.of_row (heap_alloc_last (wr.alloc (.cells #[.int .u8 (97 + (j : Int))] 5)) _); have e9 : (wr.alloc (.cells #[.int .u8 (97 + (j : Int))] 5)).heap.size = wr.heap.size + 1 := (by show (wr.heap.push _).size = _; simp); rw [e9] at h9; exact h9
        have HO71 := Lib.hid (OW.alloc (OW.alloc HOr.out (.cells #[.int .u8 (97 + (j : Int))] 5)) (.cells #[.string ⟨#[99]⟩, .string sk, .string ⟨#[]⟩, .bool false] 23))
        have hz71 : ((wr.alloc (.cells #[.int .u8 (97 + (j : Int))] 5)).alloc (.cells #[.string ⟨#[99]⟩, .string sk, .string ⟨#[]⟩, .bool false] 23)).heap.size = wr.heap.size + 2 := by show ((wr.heap.push _).push _).size = _; simp
        have HB71 : Hid (Below k60.heap.size k61 ((wr.alloc (.cells #[.int .u8 (97 + (j : Int))] 5)).alloc (.cells #[.string ⟨#[99]⟩, .string sk, .string ⟨#[]⟩, .bool false] 23))) := Below.trans HBr.out (((Below.refl _ _).alloc HSr.out _).alloc (by have := HSr.out; show _ ≤ (wr.heap.push _).size; simp; omega) _)
        have hsr := HSr.out
        clear HSK
        go_wp2_with (at_builtin; refine append_gen (t := 23) Try.underlying41 Try.info_iw _ rfl _ _ rfl k60.heap.size _ _ rfl HO71.out (wr.heap.size + 1) rfl (⟨#[99]⟩, sk, ⟨#[]⟩, false) A71.out ?c2 ?c3 ?_)
        case c2 => exact hlen
        case c3 => rw [hz71]; omega
        intro v' k72 ho hb hbs
        have HO72 : Hid (OW 23 k72 k60.heap.size v' (M ++ [(⟨#[99]⟩, sk, ⟨#[]⟩, false)])) := ho
        have HL72 : Hid ((M ++ [((⟨#[99]⟩, sk, ⟨#[]⟩, false) : I.Wt)]).length = m + (j + 1)) := by show _ = _; rw [List.length_append, HMl.out]; rfl
        have HB72 : Hid (Below k60.heap.size k61 k72) := Below.trans HB71.out hb
        have HS72 : Hid (k60.heap.size ≤ k72.heap.size) := hbs
        clear ho hb hbs A71 hcv hz71 hsr HO71 HB71 HOr HBr HSr
        go_wp2_with fail
        go_roundw
        case rel => exact ⟨j + 1, _, by omega, by go_num, HL72, HO72, HB72, HS72⟩
        case measure => simp [intOf]; omega
      · obtain rfl : j = 9 := by omega
        have hw := wf1 [a00, a01, a02, a03] D0 M (by rw [HMl.out]; omega)
        have BKw : Hid (Below k6.heap.size k6 wr) := Below.trans BK.out (HBr.out.mono BK0.out.size)
        have HTw := Lib.hid (Blk.below HT.out BKw.out LT.out)
        obtain ⟨g2, cg2, cur2, hgv, hgB2, _⟩ := OW.some HOr.out (by rw [HMl.out]; omega)
        subst hgv
        have XM : Hid (IsWs wr (.slice (some ⟨g2, 0, none⟩) M.length cg2) M) := OW.is HOr.out
        have hk0s := BK0.out.size
        have y5l := HTw.out.cell 5 _ rfl
        have z5l := HTw.out.free 5 (by simp)
        have Vl : Upd (k4.heap.size) wr (wr.setCell ⟨k4.heap.size, 5, none⟩ (.slice (some ⟨g2, 0, none⟩) M.length cg2)) := Upd.setCell _ _ _ _
        have HTla : Hid (Blk (wr.setCell ⟨k4.heap.size, 5, none⟩ (.slice (some ⟨g2, 0, none⟩) M.length cg2)) (k4.heap.size) [Value.int .u64 (a00 : Int), .int .u64 (a01 : Int), .int .u64 (a02 : Int), .int .u64 (a03 : Int), .int .i64 D0, .slice (some ⟨g2, 0, none⟩) M.length cg2]) := Blk.setc HTw.out 5 (by simp) (.slice (some ⟨g2, 0, none⟩) M.length cg2)
        have XLl : Hid (IsWs (wr.setCell ⟨k4.heap.size, 5, none⟩ (.slice (some ⟨g2, 0, none⟩) M.length cg2)) (.slice (some ⟨g2, 0, none⟩) M.length cg2) (M)) := IsWs.upd XM.out Vl (fun b o n c e9 => by simp only [Value.slice.injEq, Option.some.injEq, Addr.mk.injEq] at e9; omega)
        have hszl : (wr.setCell ⟨k4.heap.size, 5, none⟩ (.slice (some ⟨g2, 0, none⟩) M.length cg2)).heap.size = wr.heap.size := Vl.size
        have LTl : Hid (k4.heap.size < (wr.setCell ⟨k4.heap.size, 5, none⟩ (.slice (some ⟨g2, 0, none⟩) M.length cg2)).heap.size) := by show _ < _; rw [Vl.size]; have := BKw.out.size; omega
        have WAl : Hid (Below w.heap.size w (wr.setCell ⟨k4.heap.size, 5, none⟩ (.slice (some ⟨g2, 0, none⟩) M.length cg2))) := (Below.trans WK.out (BKw.out.mono WK.out.size)).trans (Vl.below hbw)
        clear Vl hszl
        go_wp2_with (first | refine blk_load rfl 43 _ rfl (k4.heap.size) rfl [Value.int .u64 (a00 : Int), .int .u64 (a01 : Int), .int .u64 (a02 : Int), .int .u64 (a03 : Int), .int .i64 D0, .slice (some ⟨g2, 0, none⟩) M.length cg2] HTla.out _ Try.underlying43 rfl Try.size_itx ?_)
        refine (CB.out _ _ hw _ _ XLl.out).mono ?_; rintro e k80 ⟨rfl, hb⟩
        have HT80 := Lib.hid (Blk.below HTla.out hb LTl.out)
        have XL80 := Lib.hid (IsWs.below XLl.out hb)
        have WA80 : Hid (Below w.heap.size w k80) := Below.trans WAl.out (hb.mono WAl.out.size)
        clear hb y5l z5l HTla XLl WAl LTl
        have c0 := HT80.out.cell 0 _ rfl
        have c1 := HT80.out.cell 1 _ rfl
        have c2 := HT80.out.cell 2 _ rfl
        have c3 := HT80.out.cell 3 _ rfl
        have c4 := HT80.out.cell 4 _ rfl
        have c5 := HT80.out.cell 5 _ rfl
        go_wp2_with fail
        refine (CF.out _ _ hw _ _ XL80.out).mono ?_; rintro e k81 ⟨rfl, hb⟩
        have WA81 : Hid (Below w.heap.size w k81) := Below.trans WA80.out (hb.mono WA80.out.size)
        clear hb c0 c1 c2 c3 c4 c5
        go_wp2_with fail
        go_ret
        exact ⟨rfl, WA81.out⟩
  · have hbw : w.heap.size ≤ k4.heap.size := HBW.out
    obtain ⟨g8, o8, c8, hgv, hg8, hrow8⟩ := IsWs.at (OW.is HO.out) 0 (by rw [HM.out]; exact hP0)
    simp only [Value.slice.injEq, Option.some.injEq, Addr.mk.injEq, and_true] at hgv
    obtain ⟨⟨rfl, rfl⟩, hgm, rfl⟩ := hgv
    clear hgm
    rw [HX.out, Nat.mul_zero, Nat.add_zero] at hrow8
    have KR : Hid (∀ u, Below k61.heap.size k61 u → u.rangeAt g 0 (wc (xb, xk, xv, xg))) := fun u hu k v hv => by rw [hu.cell (p := ⟨g, 0 + k, none⟩) hg8]; exact hrow8 k v hv
    have KB : Hid (∀ u, Below k61.heap.size k61 u → u.cell? ⟨g, 0, none⟩ = some (.string xb)) := fun u hu => KR.out u hu 0 _ rfl
    have KK : Hid (∀ u, Below k61.heap.size k61 u → u.cell? ⟨g, 1, none⟩ = some (.string xk)) := fun u hu => KR.out u hu 1 _ rfl
    have hix : Hid (∀ w, (Instr.indexAt 41 (.slice (some ⟨g, 0, none⟩) m cg) (.int .i64 0)).run Try.prog w = .ok (.pointer (some ⟨g, 0, none⟩)) w) := fun w => by have := index_iw g 0 m cg 0 hP0 w; simpa using this
    go_wp2_with fail
    refine region_rel [Spc.eq (.slice (some ⟨g, 0, none⟩) m cg), Spc.eq (.slice (some ⟨g, 0, none⟩) 0 0), Spc.eq (.slice (some ⟨g, 0, none⟩) m cg), Spc.eq (.pointer (some ⟨g, 0, none⟩)), Spc.eq (.agg (wc (xb, xk, xv, xg)).toArray), Spc.eq (.slice (some ⟨g, 0, none⟩) m cg), Spc.eq (.pointer (some ⟨g, 0, none⟩)), Spc.eq (.pointer (some ⟨g, 0, none⟩)), Spc.eq (.string xb), Spc.eq (.slice (some ⟨g, 0, none⟩) m cg), Spc.eq (.pointer (some ⟨g, 0, none⟩)), Spc.eq (.pointer (some ⟨g, 1, none⟩)), Spc.eq (.string xk), Spc.eq (.agg #[.string xb, .string xk, .string ⟨#[]⟩, .bool false]), Spc.ws k61.heap.size [(xb, xk, xv, xg), (xb, xk, ⟨#[]⟩, false)], Spc.ws k61.heap.size [(xb, xk, xv, xg), (xb, xk, ⟨#[]⟩, false)], Spc.ws k61.heap.size [(xb, xk, xv, xg), (xb, xk, ⟨#[]⟩, false)]] Try.mixed (by kernel_rfl) ?_
    refine r_move rfl _ rfl rfl (fun K hK => ?_)
    go_simp
    refine hK _ ?_
    clear hK K
    refine r_value rfl (fun u hu hn => by go_simp) (fun K hK => ?_)
    go_simp
    refine hK _ ?_
    clear hK K
    refine r_move rfl _ rfl rfl (fun K hK => ?_)
    go_simp
    refine hK _ ?_
    clear hK K
    refine r_value rfl (fun u hu hn => by have hc := hix.out u; go_simp) (fun K hK => ?_)
    go_simp
    refine hK _ ?_
    clear hK K
    refine r_blk_load rfl 23 _ rfl g 0 rfl (by intro u hu hn; exact KR.out u hu) _ Try.underlying23 rfl Try.size_w (fun K hK => ?_)
    go_simp
    refine hK _ ?_
    clear hK K
    refine r_move rfl _ rfl rfl (fun K hK => ?_)
    go_simp
    refine hK _ ?_
    clear hK K
    refine r_value rfl (fun u hu hn => by have hc := hix.out u; go_simp) (fun K hK => ?_)
    go_simp
    refine hK _ ?_
    clear hK K
    refine r_value rfl (fun u hu hn => by go_simp) (fun K hK => ?_)
    go_simp
    refine hK _ ?_
    clear hK K
    refine r_value rfl (fun u hu hn => by have hc := KB.out u hu; go_simp) (fun K hK => ?_)
    go_simp
    refine hK _ ?_
    clear hK K
    refine r_move rfl _ rfl rfl (fun K hK => ?_)
    go_simp
    refine hK _ ?_
    clear hK K
    refine r_value rfl (fun u hu hn => by have hc := hix.out u; go_simp) (fun K hK => ?_)
    go_simp
    refine hK _ ?_
    clear hK K
    refine r_value rfl (fun u hu hn => by go_simp) (fun K hK => ?_)
    go_simp
    refine hK _ ?_
    clear hK K
    refine r_value rfl (fun u hu hn => by have hc := KK.out u hu; go_simp) (fun K hK => ?_)
    go_simp
    refine hK _ ?_
    clear hK K
    refine r_value rfl (fun u hu hn => by go_simp) (fun K hK => ?_)
    go_simp
    refine hK _ ?_
    clear hK K
    refine r_two rfl _ _ rfl (xb, xk, xv, xg) (xb, xk, ⟨#[]⟩, false) rfl rfl (fun u hu => hu.size) (fun v hv K hK => ?_)
    obtain ⟨e1, f1, rfl⟩ := hv
    go_simp
    refine hK _ ?_
    clear hK K
    refine r_append2 rfl _ _ rfl g rfl e1 _ f1 rfl 14 0 rfl rfl rfl (by show 1 ≤ 2; omega) (by show 2 ≤ 1000; omega) (fun u hu => hu.size) (fun v hv K hK => ?_)
    obtain ⟨e2, f2, rfl⟩ := hv
    go_simp
    refine hK _ ?_
    clear hK K
    refine r_fact rfl (.slice e2 2 f2) ⟨_, _, rfl⟩ (fun u hu hn => ⟨by go_simp, hn.get 15 0 rfl rfl _ rfl⟩) (fun v hv K hK => ?_)
    obtain ⟨e3, f3, rfl⟩ := hv
    go_simp
    refine hK _ ?_
    clear hK K
    refine r_nil ?_
    intro u hu hF
    have hX := hF 0 _ rfl
    have XM : Hid (IsWs u (.slice e3 2 f3) [(xb, xk, xv, xg), (xb, xk, ⟨#[]⟩, false)]) := hX.1
    have HNE2 : Hid (∀ b o n c, Value.slice e3 2 f3 = .slice (some ⟨b, o, none⟩) n c → b ≠ k4.heap.size) := fun b o n c e9 => by have h9 := hX.2 b o n c e9; have := BK.out.size; omega
    have BKw : Hid (Below k6.heap.size k6 u) := Below.trans BK.out (hu.mono BK.out.size)
    have HTw := Lib.hid (Blk.below HT.out BKw.out LT.out)
    have hw := wf2 [a00, a01, a02, a03] D0 (xb, xk, xv, xg) (xb, xk, ⟨#[]⟩, false) rfl
    clear hX hF hu KR KB KK hix hrow8
    have y5t := HTw.out.cell 5 _ rfl
    have z5t := HTw.out.free 5 (by simp)
    have Vt : Upd (k4.heap.size) u (u.setCell ⟨k4.heap.size, 5, none⟩ (.slice e3 2 f3)) := Upd.setCell _ _ _ _
    have HTta : Hid (Blk (u.setCell ⟨k4.heap.size, 5, none⟩ (.slice e3 2 f3)) (k4.heap.size) [Value.int .u64 (a00 : Int), .int .u64 (a01 : Int), .int .u64 (a02 : Int), .int .u64 (a03 : Int), .int .i64 D0, .slice e3 2 f3]) := Blk.setc HTw.out 5 (by simp) (.slice e3 2 f3)
    have XLt : Hid (IsWs (u.setCell ⟨k4.heap.size, 5, none⟩ (.slice e3 2 f3)) (.slice e3 2 f3) ([(xb, xk, xv, xg), (xb, xk, ⟨#[]⟩, false)])) := IsWs.upd XM.out Vt (fun b o n c e9 => HNE2.out b o n c e9)
    have hszt : (u.setCell ⟨k4.heap.size, 5, none⟩ (.slice e3 2 f3)).heap.size = u.heap.size := Vt.size
    have LTt : Hid (k4.heap.size < (u.setCell ⟨k4.heap.size, 5, none⟩ (.slice e3 2 f3)).heap.size) := by show _ < _; rw [Vt.size]; have := BKw.out.size; omega
    have WAt : Hid (Below w.heap.size w (u.setCell ⟨k4.heap.size, 5, none⟩ (.slice e3 2 f3))) := (Below.trans WK.out (BKw.out.mono WK.out.size)).trans (Vt.below hbw)
    clear Vt hszt
    go_wp2_with (first | refine blk_load rfl 43 _ rfl (k4.heap.size) rfl [Value.int .u64 (a00 : Int), .int .u64 (a01 : Int), .int .u64 (a02 : Int), .int .u64 (a03 : Int), .int .i64 D0, .slice e3 2 f3] HTta.out _ Try.underlying43 rfl Try.size_itx ?_)
    refine (CB.out _ _ hw _ _ XLt.out).mono ?_; rintro e k80 ⟨rfl, hb⟩
    have HT80 := Lib.hid (Blk.below HTta.out hb LTt.out)
    have XL80 := Lib.hid (IsWs.below XLt.out hb)
    have WA80 : Hid (Below w.heap.size w k80) := Below.trans WAt.out (hb.mono WAt.out.size)
    clear hb y5t z5t HTta XLt WAt LTt
    have c0 := HT80.out.cell 0 _ rfl
    have c1 := HT80.out.cell 1 _ rfl
    have c2 := HT80.out.cell 2 _ rfl
    have c3 := HT80.out.cell 3 _ rfl
    have c4 := HT80.out.cell 4 _ rfl
    have c5 := HT80.out.cell 5 _ rfl
    go_wp2_with fail
    refine (CF.out _ _ hw _ _ XL80.out).mono ?_; rintro e k81 ⟨rfl, hb⟩
    have WA81 : Hid (Below w.heap.size w k81) := Below.trans WA80.out (hb.mono WA80.out.size)
    clear hb c0 c1 c2 c3 c4 c5
    go_wp2_with fail
    go_ret
    exact ⟨rfl, WA81.out⟩
  · have hbw : w.heap.size ≤ k4.heap.size := HBW.out
    obtain ⟨g8, o8, c8, hgv, hg8, hrow8⟩ := IsWs.at (OW.is HO.out) 0 (by rw [HM.out]; exact hP0)
    simp only [Value.slice.injEq, Option.some.injEq, Addr.mk.injEq, and_true] at hgv
    obtain ⟨⟨rfl, rfl⟩, hgm, rfl⟩ := hgv
    clear hgm
    rw [HX.out, Nat.mul_zero, Nat.add_zero] at hrow8
    have hix : ∀ w, (Instr.indexAt 41 (.slice (some ⟨g, 0, none⟩) m cg) (.int .i64 0)).run Try.prog w = .ok (.pointer (some ⟨g, 0, none⟩)) w := fun w => by have := index_iw g 0 m cg 0 hP0 w; simpa using this
    have XI : IsWs k61 (.slice (some ⟨g, 0, none⟩) L0.length cg) L0 := by rw [HM.out]; exact OW.is HO.out
    have q1 : k61.cell? ⟨g, 1, none⟩ = some (.string xk) := hrow8 1 _ rfl
    have q2 : k61.frozen? ⟨g, 1, none⟩ = false := frozen_of_row _ _ _ _ _ hgrow
    have U7 : Upd g k61 (k61.setCell ⟨g, 1, none⟩ (.string ⟨#[]⟩)) := Upd.setCell _ _ _ _
    have XM : Hid (IsWs (k61.setCell ⟨g, 1, none⟩ (.string ⟨#[]⟩)) (.slice (some ⟨g, 0, none⟩) m cg) (L0.set 0 (xb, ⟨#[]⟩, xv, xg))) := by have := IsWs.setc XI 0 (by omega) 1 (by omega) (xb, ⟨#[]⟩, xv, xg) (.string ⟨#[]⟩) (by rw [HX.out]; rfl); rw [HM.out] at this; exact this
    have hw := wf3 [a00, a01, a02, a03] D0 L0 (xb, ⟨#[]⟩, xv, xg) hne1 (right_nokey xb xv xg)
    have BKw : Hid (Below k6.heap.size k6 (k61.setCell ⟨g, 1, none⟩ (.string ⟨#[]⟩))) := Below.trans BK.out (U7.below hgk)
    have HTw := Lib.hid (Blk.below HT.out BKw.out LT.out)
    clear U7 XI hrow8
    have y5s := HTw.out.cell 5 _ rfl
    have z5s := HTw.out.free 5 (by simp)
    have Vs : Upd (k4.heap.size) (k61.setCell ⟨g, 1, none⟩ (.string ⟨#[]⟩)) ((k61.setCell ⟨g, 1, none⟩ (.string ⟨#[]⟩)).setCell ⟨k4.heap.size, 5, none⟩ (.slice (some ⟨g, 0, none⟩) m cg)) := Upd.setCell _ _ _ _
    have HTsa : Hid (Blk ((k61.setCell ⟨g, 1, none⟩ (.string ⟨#[]⟩)).setCell ⟨k4.heap.size, 5, none⟩ (.slice (some ⟨g, 0, none⟩) m cg)) (k4.heap.size) [Value.int .u64 (a00 : Int), .int .u64 (a01 : Int), .int .u64 (a02 : Int), .int .u64 (a03 : Int), .int .i64 D0, .slice (some ⟨g, 0, none⟩) m cg]) := Blk.setc HTw.out 5 (by simp) (.slice (some ⟨g, 0, none⟩) m cg)
    have XLs : Hid (IsWs ((k61.setCell ⟨g, 1, none⟩ (.string ⟨#[]⟩)).setCell ⟨k4.heap.size, 5, none⟩ (.slice (some ⟨g, 0, none⟩) m cg)) (.slice (some ⟨g, 0, none⟩) m cg) (L0.set 0 (xb, ⟨#[]⟩, xv, xg))) := IsWs.upd XM.out Vs (fun b o n c e9 => by simp only [Value.slice.injEq, Option.some.injEq, Addr.mk.injEq] at e9; omega)
    have hszs : ((k61.setCell ⟨g, 1, none⟩ (.string ⟨#[]⟩)).setCell ⟨k4.heap.size, 5, none⟩ (.slice (some ⟨g, 0, none⟩) m cg)).heap.size = (k61.setCell ⟨g, 1, none⟩ (.string ⟨#[]⟩)).heap.size := Vs.size
    have LTs : Hid (k4.heap.size < ((k61.setCell ⟨g, 1, none⟩ (.string ⟨#[]⟩)).setCell ⟨k4.heap.size, 5, none⟩ (.slice (some ⟨g, 0, none⟩) m cg)).heap.size) := by show _ < _; rw [Vs.size]; have := BKw.out.size; omega
    have WAs : Hid (Below w.heap.size w ((k61.setCell ⟨g, 1, none⟩ (.string ⟨#[]⟩)).setCell ⟨k4.heap.size, 5, none⟩ (.slice (some ⟨g, 0, none⟩) m cg))) := (Below.trans WK.out (BKw.out.mono WK.out.size)).trans (Vs.below hbw)
    clear Vs hszs
    go_wp2_with (first | refine blk_load rfl 43 _ rfl (k4.heap.size) rfl [Value.int .u64 (a00 : Int), .int .u64 (a01 : Int), .int .u64 (a02 : Int), .int .u64 (a03 : Int), .int .i64 D0, .slice (some ⟨g, 0, none⟩) m cg] HTsa.out _ Try.underlying43 rfl Try.size_itx ?_)
    refine (CB.out _ _ hw _ _ XLs.out).mono ?_; rintro e k80 ⟨rfl, hb⟩
    have HT80 := Lib.hid (Blk.below HTsa.out hb LTs.out)
    have XL80 := Lib.hid (IsWs.below XLs.out hb)
    have WA80 : Hid (Below w.heap.size w k80) := Below.trans WAs.out (hb.mono WAs.out.size)
    clear hb y5s z5s HTsa XLs WAs LTs
    have c0 := HT80.out.cell 0 _ rfl
    have c1 := HT80.out.cell 1 _ rfl
    have c2 := HT80.out.cell 2 _ rfl
    have c3 := HT80.out.cell 3 _ rfl
    have c4 := HT80.out.cell 4 _ rfl
    have c5 := HT80.out.cell 5 _ rfl
    go_wp2_with fail
    refine (CF.out _ _ hw _ _ XL80.out).mono ?_; rintro e k81 ⟨rfl, hb⟩
    have WA81 : Hid (Below w.heap.size w k81) := Below.trans WA80.out (hb.mono WA80.out.size)
    clear hb c0 c1 c2 c3 c4 c5
    go_wp2_with fail
    go_ret
    exact ⟨rfl, WA81.out⟩
  · have hbw : w.heap.size ≤ k4.heap.size := HBW.out
    obtain ⟨g8, o8, c8, hgv, hg8, hrow8⟩ := IsWs.at (OW.is HO.out) 0 (by rw [HM.out]; exact hP0)
    simp only [Value.slice.injEq, Option.some.injEq, Addr.mk.injEq, and_true] at hgv
    obtain ⟨⟨rfl, rfl⟩, hgm, rfl⟩ := hgv
    clear hgm
    rw [HX.out, Nat.mul_zero, Nat.add_zero] at hrow8
    have hix : ∀ w, (Instr.indexAt 41 (.slice (some ⟨g, 0, none⟩) m cg) (.int .i64 0)).run Try.prog w = .ok (.pointer (some ⟨g, 0, none⟩)) w := fun w => by have := index_iw g 0 m cg 0 hP0 w; simpa using this
    have XI : IsWs k61 (.slice (some ⟨g, 0, none⟩) L0.length cg) L0 := by rw [HM.out]; exact OW.is HO.out
    have q1 : k61.cell? ⟨g, 2, none⟩ = some (.string xv) := hrow8 2 _ rfl
    have q2 : k61.frozen? ⟨g, 2, none⟩ = false := frozen_of_row _ _ _ _ _ hgrow
    have q3 : k61.cell? ⟨g, 3, none⟩ = some (.bool xg) := hrow8 3 _ rfl
    have q4 : k61.frozen? ⟨g, 3, none⟩ = false := frozen_of_row _ _ _ _ _ hgrow
    have U7 : Upd g k61 ((k61.setCell ⟨g, 2, none⟩ (.string ⟨#[118]⟩)).setCell ⟨g, 3, none⟩ (.bool true)) := (Upd.setCell _ _ _ _).trans (Upd.setCell _ _ _ _)
    have X1 : IsWs (k61.setCell ⟨g, 2, none⟩ (.string ⟨#[118]⟩)) (.slice (some ⟨g, 0, none⟩) L0.length cg) (L0.set 0 (xb, xk, ⟨#[118]⟩, xg)) := IsWs.setc XI 0 (by omega) 2 (by omega) (xb, xk, ⟨#[118]⟩, xg) (.string ⟨#[118]⟩) (by rw [HX.out]; rfl)
    have X2 : IsWs (k61.setCell ⟨g, 2, none⟩ (.string ⟨#[118]⟩)) (.slice (some ⟨g, 0, none⟩) (L0.set 0 (xb, xk, ⟨#[118]⟩, xg)).length cg) (L0.set 0 (xb, xk, ⟨#[118]⟩, xg)) := by rw [List.length_set]; exact X1
    have hg0 : (L0.set 0 (xb, xk, ⟨#[118]⟩, xg)).getD 0 I.none_ = (xb, xk, ⟨#[118]⟩, xg) := by rw [List.getD_eq_getElem?_getD, List.getElem?_set_self (by omega)]; rfl
    have XM : Hid (IsWs ((k61.setCell ⟨g, 2, none⟩ (.string ⟨#[118]⟩)).setCell ⟨g, 3, none⟩ (.bool true)) (.slice (some ⟨g, 0, none⟩) m cg) (L0.set 0 (xb, xk, ⟨#[118]⟩, true))) := by have := IsWs.setc X2 0 (by rw [List.length_set]; omega) 3 (by omega) (xb, xk, ⟨#[118]⟩, true) (.bool true) (by rw [hg0]; rfl); rw [List.length_set, List.set_set, HM.out] at this; exact this
    have hw := wf3 [a00, a01, a02, a03] D0 L0 (xb, xk, ⟨#[118]⟩, true) hne1 (right_gone xb xk)
    have BKw : Hid (Below k6.heap.size k6 ((k61.setCell ⟨g, 2, none⟩ (.string ⟨#[118]⟩)).setCell ⟨g, 3, none⟩ (.bool true))) := Below.trans BK.out (U7.below hgk)
    have HTw := Lib.hid (Blk.below HT.out BKw.out LT.out)
    clear U7 XI hrow8
    have y5s := HTw.out.cell 5 _ rfl
    have z5s := HTw.out.free 5 (by simp)
    have Vs : Upd (k4.heap.size) ((k61.setCell ⟨g, 2, none⟩ (.string ⟨#[118]⟩)).setCell ⟨g, 3, none⟩ (.bool true)) (((k61.setCell ⟨g, 2, none⟩ (.string ⟨#[118]⟩)).setCell ⟨g, 3, none⟩ (.bool true)).setCell ⟨k4.heap.size, 5, none⟩ (.slice (some ⟨g, 0, none⟩) m cg)) := Upd.setCell _ _ _ _
    have HTsa : Hid (Blk (((k61.setCell ⟨g, 2, none⟩ (.string ⟨#[118]⟩)).setCell ⟨g, 3, none⟩ (.bool true)).setCell ⟨k4.heap.size, 5, none⟩ (.slice (some ⟨g, 0, none⟩) m cg)) (k4.heap.size) [Value.int .u64 (a00 : Int), .int .u64 (a01 : Int), .int .u64 (a02 : Int), .int .u64 (a03 : Int), .int .i64 D0, .slice (some ⟨g, 0, none⟩) m cg]) := Blk.setc HTw.out 5 (by simp) (.slice (some ⟨g, 0, none⟩) m cg)
    have XLs : Hid (IsWs (((k61.setCell ⟨g, 2, none⟩ (.string ⟨#[118]⟩)).setCell ⟨g, 3, none⟩ (.bool true)).setCell ⟨k4.heap.size, 5, none⟩ (.slice (some ⟨g, 0, none⟩) m cg)) (.slice (some ⟨g, 0, none⟩) m cg) (L0.set 0 (xb, xk, ⟨#[118]⟩, true))) := IsWs.upd XM.out Vs (fun b o n c e9 => by simp only [Value.slice.injEq, Option.some.injEq, Addr.mk.injEq] at e9; omega)
    have hszs : (((k61.setCell ⟨g, 2, none⟩ (.string ⟨#[118]⟩)).setCell ⟨g, 3, none⟩ (.bool true)).setCell ⟨k4.heap.size, 5, none⟩ (.slice (some ⟨g, 0, none⟩) m cg)).heap.size = ((k61.setCell ⟨g, 2, none⟩ (.string ⟨#[118]⟩)).setCell ⟨g, 3, none⟩ (.bool true)).heap.size := Vs.size
    have LTs : Hid (k4.heap.size < (((k61.setCell ⟨g, 2, none⟩ (.string ⟨#[118]⟩)).setCell ⟨g, 3, none⟩ (.bool true)).setCell ⟨k4.heap.size, 5, none⟩ (.slice (some ⟨g, 0, none⟩) m cg)).heap.size) := by show _ < _; rw [Vs.size]; have := BKw.out.size; omega
    have WAs : Hid (Below w.heap.size w (((k61.setCell ⟨g, 2, none⟩ (.string ⟨#[118]⟩)).setCell ⟨g, 3, none⟩ (.bool true)).setCell ⟨k4.heap.size, 5, none⟩ (.slice (some ⟨g, 0, none⟩) m cg))) := (Below.trans WK.out (BKw.out.mono WK.out.size)).trans (Vs.below hbw)
    clear Vs hszs
    go_wp2_with (first | refine blk_load rfl 43 _ rfl (k4.heap.size) rfl [Value.int .u64 (a00 : Int), .int .u64 (a01 : Int), .int .u64 (a02 : Int), .int .u64 (a03 : Int), .int .i64 D0, .slice (some ⟨g, 0, none⟩) m cg] HTsa.out _ Try.underlying43 rfl Try.size_itx ?_)
    refine (CB.out _ _ hw _ _ XLs.out).mono ?_; rintro e k80 ⟨rfl, hb⟩
    have HT80 := Lib.hid (Blk.below HTsa.out hb LTs.out)
    have XL80 := Lib.hid (IsWs.below XLs.out hb)
    have WA80 : Hid (Below w.heap.size w k80) := Below.trans WAs.out (hb.mono WAs.out.size)
    clear hb y5s z5s HTsa XLs WAs LTs
    have c0 := HT80.out.cell 0 _ rfl
    have c1 := HT80.out.cell 1 _ rfl
    have c2 := HT80.out.cell 2 _ rfl
    have c3 := HT80.out.cell 3 _ rfl
    have c4 := HT80.out.cell 4 _ rfl
    have c5 := HT80.out.cell 5 _ rfl
    go_wp2_with fail
    refine (CF.out _ _ hw _ _ XL80.out).mono ?_; rintro e k81 ⟨rfl, hb⟩
    have WA81 : Hid (Below w.heap.size w k81) := Below.trans WA80.out (hb.mono WA80.out.size)
    clear hb c0 c1 c2 c3 c4 c5
    go_wp2_with fail
    go_ret
    exact ⟨rfl, WA81.out⟩
  · have hbw : w.heap.size ≤ k4.heap.size := HBW.out
    have y4 := HT1.out.cell 4 _ rfl
    have z4 := HT1.out.free 4 (by simp)
    have U7 : Upd (k4.heap.size) k61 (k61.setCell ⟨k4.heap.size, 4, none⟩ (.int .i64 0)) := Upd.setCell _ _ _ _
    have HTw : Hid (Blk (k61.setCell ⟨k4.heap.size, 4, none⟩ (.int .i64 0)) (k4.heap.size) [Value.int .u64 (a00 : Int), .int .u64 (a01 : Int), .int .u64 (a02 : Int), .int .u64 (a03 : Int), .int .i64 0, .slice s0 m c0]) := Blk.setc HT1.out 4 (by simp) (.int .i64 0)
    have XM : Hid (IsWs (k61.setCell ⟨k4.heap.size, 4, none⟩ (.int .i64 0)) (.slice (some ⟨g, 0, none⟩) m cg) L0) := IsWs.upd (OW.is HO.out) U7 (fun b o n c e9 => by simp only [Value.slice.injEq, Option.some.injEq, Addr.mk.injEq] at e9; omega)
    have hw := wf5 [a00, a01, a02, a03] L0
    have WKw : Hid (Below w.heap.size w (k61.setCell ⟨k4.heap.size, 4, none⟩ (.int .i64 0))) := (Below.trans WK.out (BK.out.mono WK.out.size)).trans (U7.below hbw)
    have LTw : k4.heap.size < (k61.setCell ⟨k4.heap.size, 4, none⟩ (.int .i64 0)).heap.size := by rw [U7.size]; have := BK.out.size; omega
    clear U7
    have y5d := HTw.out.cell 5 _ rfl
    have z5d := HTw.out.free 5 (by simp)
    have Vd : Upd (k4.heap.size) (k61.setCell ⟨k4.heap.size, 4, none⟩ (.int .i64 0)) ((k61.setCell ⟨k4.heap.size, 4, none⟩ (.int .i64 0)).setCell ⟨k4.heap.size, 5, none⟩ (.slice (some ⟨g, 0, none⟩) m cg)) := Upd.setCell _ _ _ _
    have HTda : Hid (Blk ((k61.setCell ⟨k4.heap.size, 4, none⟩ (.int .i64 0)).setCell ⟨k4.heap.size, 5, none⟩ (.slice (some ⟨g, 0, none⟩) m cg)) (k4.heap.size) [Value.int .u64 (a00 : Int), .int .u64 (a01 : Int), .int .u64 (a02 : Int), .int .u64 (a03 : Int), .int .i64 0, .slice (some ⟨g, 0, none⟩) m cg]) := Blk.setc HTw.out 5 (by simp) (.slice (some ⟨g, 0, none⟩) m cg)
    have XLd : Hid (IsWs ((k61.setCell ⟨k4.heap.size, 4, none⟩ (.int .i64 0)).setCell ⟨k4.heap.size, 5, none⟩ (.slice (some ⟨g, 0, none⟩) m cg)) (.slice (some ⟨g, 0, none⟩) m cg) (L0)) := IsWs.upd XM.out Vd (fun b o n c e9 => by simp only [Value.slice.injEq, Option.some.injEq, Addr.mk.injEq] at e9; omega)
    have hszd : ((k61.setCell ⟨k4.heap.size, 4, none⟩ (.int .i64 0)).setCell ⟨k4.heap.size, 5, none⟩ (.slice (some ⟨g, 0, none⟩) m cg)).heap.size = (k61.setCell ⟨k4.heap.size, 4, none⟩ (.int .i64 0)).heap.size := Vd.size
    have LTd : Hid (k4.heap.size < ((k61.setCell ⟨k4.heap.size, 4, none⟩ (.int .i64 0)).setCell ⟨k4.heap.size, 5, none⟩ (.slice (some ⟨g, 0, none⟩) m cg)).heap.size) := by show _ < _; rw [Vd.size]; exact LTw
    have WAd : Hid (Below w.heap.size w ((k61.setCell ⟨k4.heap.size, 4, none⟩ (.int .i64 0)).setCell ⟨k4.heap.size, 5, none⟩ (.slice (some ⟨g, 0, none⟩) m cg))) := Below.trans WKw.out (Vd.below hbw)
    clear Vd hszd
    go_wp2_with (first | refine blk_load rfl 43 _ rfl (k4.heap.size) rfl [Value.int .u64 (a00 : Int), .int .u64 (a01 : Int), .int .u64 (a02 : Int), .int .u64 (a03 : Int), .int .i64 0, .slice (some ⟨g, 0, none⟩) m cg] HTda.out _ Try.underlying43 rfl Try.size_itx ?_)
    refine (CB.out _ _ hw _ _ XLd.out).mono ?_; rintro e k80 ⟨rfl, hb⟩
    have HT80 := Lib.hid (Blk.below HTda.out hb LTd.out)
    have XL80 := Lib.hid (IsWs.below XLd.out hb)
    have WA80 : Hid (Below w.heap.size w k80) := Below.trans WAd.out (hb.mono WAd.out.size)
    clear hb y5d z5d HTda XLd WAd LTd
    have c0 := HT80.out.cell 0 _ rfl
    have c1 := HT80.out.cell 1 _ rfl
    have c2 := HT80.out.cell 2 _ rfl
    have c3 := HT80.out.cell 3 _ rfl
    have c4 := HT80.out.cell 4 _ rfl
    have c5 := HT80.out.cell 5 _ rfl
    go_wp2_with fail
    refine (CF.out _ _ hw _ _ XL80.out).mono ?_; rintro e k81 ⟨rfl, hb⟩
    have WA81 : Hid (Below w.heap.size w k81) := Below.trans WA80.out (hb.mono WA80.out.size)
    clear hb c0 c1 c2 c3 c4 c5
    go_wp2_with fail
    go_ret
    exact ⟨rfl, WA81.out⟩

set_option maxRecDepth 100000 in
theorem lifted (os : Os) (started : os.Started) (H : Type) (enc : TypeId × Value → H) :
    ReturnsInHanded {} Try.checked os 8 .any (Rows.itemWholeSpec.pre6 enc Try.prog Try.f8 Rows.itemWholeRow.domain false) (Rows.itemWholeSpec.post enc Try.prog Try.f8 false true false false) := by
  refine returnsInHanded_of_change_sized (C := Try.checked) own started (by kernel_rfl) Try.func8
    (ChangeSpec.witness6 (enc := enc) (C := Try.checked) false ⟨#[], #[.agg #[.int .u64 0, .int .u64 0, .int .u64 0, .int .u64 0, .int .i64 0, .bool false, .slice none 0 0, .bool false], .int .u8 0], []⟩ 8 (by kernel_rfl) (by kernel_rfl) (by kernel_rfl) (by kernel_rfl)) ?_
  intro W base args ds gs before hval0 hW hcnd hsz0 _
  have hval : ∀ (j : Nat) t v, Try.f8.params[j]? = some t → args[j]? = some v → Value.okWide Try.prog W .any base t v := hval0
  have hW' := hW
  obtain ⟨p, q, hA0, hV, rfl, hfz, hnd⟩ := hW
  have hA : DataW.TrodAll enc Try.prog W 0 (fun _ => true) true Try.f8.params.toList args.toList ds p := hA0
  have hsz : (DataW.weightsEach Try.prog (Try.f8.params.toList ++ Rows.itemWholeSpec.plain.varTypes Try.prog) (ds ++ gs)).all (· ≤ reachBytes) = true := hsz0
  rw [Try.params8] at hA hval hsz
  obtain ⟨rfl, rfl⟩ := trodVars_none hV
  have hAk := hA
  have hlt : ∀ x ∈ p, x.block < W.heap.size := fun x hx => by simpa using hW'.lt x (List.mem_append.2 (.inl hx))
  obtain ⟨v0, vs0, d0, ds0, p0, q0, hargs, rfl, rfl, h0, r0⟩ := trodAll_cons hA
  obtain ⟨v1, vs1, d1, ds1, p1, q1, rfl, rfl, rfl, h1, r1⟩ := trodAll_cons r0
  obtain ⟨rfl, rfl, rfl⟩ := trodAll_nil r1
  obtain rfl : args = #[v0, v1] := by cases args; simp_all
  obtain ⟨al0, dd0, mo0, sv0, PL0, ow0, rfl, k0, kd0, ki0, kp0⟩ := open_deal (hval 0 35 v0 rfl rfl) h0 (Sz.arg hsz (j := 0) rfl rfl)
  obtain ⟨a1, rfl, rfl, rfl, w1⟩ := open_int Try.underlying5 (hval 1 5 v1 rfl rfl) h1
  clear hA0 hval0 hsz0
  refine (walk al0 dd0 mo0 sv0 PL0 ow0 a1 k0 kd0 kp0 w1 W ki0).mono fun e W' ⟨he, hg⟩ => ?_
  subst he
  exact ⟨_, rfl, _, _, _, [], _, [], hW', (trodAll_cons_mk (shut_bool Try.underlying4 _) trodAll_mk0), trodAll_below laidOut hg _ _ _ _ (by kernel_rfl) hAk hlt, rfl, hg.frame _, fun h => by cases h⟩

theorem over : Rows.itemWholeRow.holds Try.pinned (OpenSpec.ofChange Rows.itemWholeSpec) :=
  OpenClaim.holds_of_wide 8 Try.f8 rfl rfl rfl rfl rfl rfl rfl ⟨rfl, rfl, rfl, rfl, rfl⟩ rfl rfl rfl rfl rfl (by kernel_rfl) Try.func8 (by kernel_rfl)
    (of_decide_eq_true (by kernel_rfl)) (by unfold Func.isWrapper; first | (rw [if_pos (by decide +kernel)]; kernel_rfl) | (rw [if_neg (by decide +kernel)]; exact ⟨rfl, rfl⟩))
    (fun os started H enc _ => lifted os started H enc)

/-- the statement -/
theorem proved : Rows.ItemWholeSaid :=
  over
#print axioms proved

end Go.Proofs.Ytkfcbihofipcbaa.itemWhole
