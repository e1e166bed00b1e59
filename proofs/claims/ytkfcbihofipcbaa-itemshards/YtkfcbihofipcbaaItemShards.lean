/-
  Any key is of the shard that the document's own answer tells, and so are any transaction's writes (the law ItemShards). No conditions.
-/
import Derived.Test.YtkfcbihofipcbaaFrame

import Derived.Test.YtkfcbihofipcbaaItemF

import Derived.Test.YtkfcbihofipcbaaItemWh

import Derived.Test.YtkfcbihofipcbaaItemRC

import Derived.Test.YtkfcbihofipcbaaFramePut

namespace Go.Proofs.Ytkfcbihofipcbaa.itemShards

open Go.ChangeShapes Go.WideShapes Go.ChangeAt Go.RowKit

open Go.ChangeMaps (open_string shut_string)

open Go.Proofs.Ytkfcbihofipcbaa.Vc Go.Proofs.Ytkfcbihofipcbaa.Sp Go.Proofs.Ytkfcbihofipcbaa.It

set_option linter.unusedVariables false

set_option linter.unusedSimpArgs false

theorem Try.size_dl : (Try.prog.info? 35).map (·.size) = some 8 := by kernel_rfl
set_option maxHeartbeats 16000000 in
set_option maxRecDepth 100000 in
theorem walk (a0 : ByteArray) (a1 : ByteArray) (al2 : List Nat) (dd2 : Int) (mo2 : Bool) (sv2 : Value) (PL2 : List I.Pt) (ow2 : Bool) (a3 : Int) (a4 : Int) (a5 : Bool) (z0 : a0.size ≤ 140737488351232) (z1 : a1.size ≤ 140737488351232) (k2 : V.Ok al2) (kd2 : (Lit.int .i64 dd2).wf = true) (kp2 : ∀ p ∈ PL2, I.POk p) (w3 : (Lit.int .i64 a3).wf = true) (w4 : (Lit.int .i64 a4).wf = true) (w : World) (ki2 : IsPs w sv2 PL2) :
    Calls Try.prog 4 #[.string a0, .string a1, DV al2 dd2 mo2 sv2 ow2, .int .i64 a3, .int .i64 a4, .bool a5] w fun e w' => e = .returned (.bool true) ∧ Below w.heap.size w w' := by
  have h3 : -9223372036854775808 ≤ a3 ∧ a3 ≤ 9223372036854775807 := by simpa [Lit.wf, IntKind.min, IntKind.max, IntKind.signed, IntKind.bits] using w3
  have h4 : -9223372036854775808 ≤ a4 ∧ a4 ≤ 9223372036854775807 := by simpa [Lit.wf, IntKind.min, IntKind.max, IntKind.signed, IntKind.bits] using w4
  have t3a := Int.tmod_lt_of_pos a3 (show (0 : Int) < 6 by decide)
  have t3b := Int.lt_tmod_of_pos a3 (show (0 : Int) < 6 by decide)
  have t4a := Int.tmod_lt_of_pos a4 (show (0 : Int) < 6 by decide)
  have t4b := Int.lt_tmod_of_pos a4 (show (0 : Int) < 6 by decide)
  have hA2 : V.Ok (T.mark al2 dd2 (ow2 || mo2)).1 := T.mark_ok k2 dd2 _
  have hW2 := I.dealW_whole k2.len dd2 mo2 PL2
  have hO2 := I.dealW_ok ow2 PL2 kp2
  have hN2 := I.dealW_len ow2 PL2
  have CD2 : Hid (∀ u, IsPs u sv2 PL2 → Calls Try.prog 14 #[DV al2 dd2 mo2 sv2 ow2] u fun e w' => ∃ v', e = .returned (TV (T.mark al2 dd2 (ow2 || mo2)).1 (T.mark al2 dd2 (ow2 || mo2)).2 v') ∧ IsWs w' v' (I.dealW ow2 PL2) ∧ Below u.heap.size u w') := fun u hu => deal_any al2 dd2 mo2 sv2 ow2 PL2 u k2 kd2 hu kp2
  obtain ⟨D2, HD2⟩ : ∃ z, Hid ((T.mark al2 dd2 (ow2 || mo2)).2 = z) := ⟨_, rfl⟩
  obtain ⟨A2, HAA2⟩ : ∃ z, Hid ((T.mark al2 dd2 (ow2 || mo2)).1 = z) := ⟨_, rfl⟩
  obtain ⟨L2, HLL2⟩ : ∃ z, Hid (I.dealW ow2 PL2 = z) := ⟨_, rfl⟩
  rw [HD2.out, HAA2.out, HLL2.out] at CD2
  rw [HAA2.out] at hA2
  rw [HLL2.out] at hO2 hN2
  clear hW2
  obtain ⟨a20, a21, a22, a23, rfl⟩ := V.four hA2.len
  obtain ⟨l20, l21, l22, l23, rfl⟩ := V.four k2.len
  have KI2 := Lib.hid ki2
  clear HD2 HAA2 k2 kd2 kp2 ki2
  have hO : ∀ x ∈ L2, x.1.size ≤ 140737488355328 ∧ x.2.1.size ≤ 140737488355328 := fun x hx => ⟨(hO2 x hx).b, (hO2 x hx).k⟩
  have HOO := Lib.hid hO
  have hn6 : L2.length < 1000000 := by omega
  clear w3 w4 hO hO2 hA2
  cases a5 with
  | false =>
    have hk0 : -9223372036854775808 ≤ a4 := by omega
    have hk1 : a4 ≤ 9223372036854775807 := by omega
    have CO : Hid (∀ u v, IsWs u v L2 → Calls Try.prog 26 #[TV [a20, a21, a22, a23] D2 v, .int .i64 a3, .int .i64 a4] u fun e w' => ∃ v', e = .returned v' ∧ OW 23 w' u.heap.size v' (I.of L2 a3 a4) ∧ Below u.heap.size u w') := fun u v hv => of_any [a20, a21, a22, a23] D2 v L2 a3 a4 u rfl hv hn6 HOO.out hk0 hk1
    have CQ : Hid (∀ u v, IsWs u v L2 → Calls Try.prog 27 #[TV [a20, a21, a22, a23] D2 v, .int .i64 a3, .int .i64 a4] u fun e w' => ∃ v', e = .returned v' ∧ OW 38 w' u.heap.size v' (I.of L2 a3 a4) ∧ Below u.heap.size u w') := fun u v hv => ref_of [a20, a21, a22, a23] D2 v L2 a3 a4 u rfl hv hn6 HOO.out hk0 hk1
    have CT : Hid (∀ u v, IsWs u v L2 → Calls Try.prog 17 #[TV [a20, a21, a22, a23] D2 v] u fun e w' => ∃ v', e = .returned (TV [a20, a21, a22, a23] D2 v') ∧ OW 38 w' u.heap.size v' L2 ∧ Below u.heap.size u w') := fun u v hv => reftxn_any [a20, a21, a22, a23] D2 v L2 u rfl hv hn6
    have hm6 : (I.of L2 a3 a4).length < 1000000 := Nat.lt_of_le_of_lt (List.length_filter_le ..) hn6
    obtain ⟨M, HM⟩ : ∃ z, Hid (I.of L2 a3 a4 = z) := ⟨_, rfl⟩
    rw [HM.out] at CO CQ hm6
    have CF : Hid (∀ u v, IsWs u v M → Calls Try.prog 13 #[v] u fun e w' => ∃ v', e = .returned v' ∧ OW 38 w' u.heap.size v' M ∧ Below u.heap.size u w') := fun u v hv => refwrites_any v M u hv hm6
    obtain ⟨y, HY⟩ : ∃ z, Hid (I.shard a0 a1 a4 = z) := ⟨_, rfl⟩
    have CS : Hid (∀ u, Calls Try.prog 28 #[.string a0, .string a1, .int .i64 a4] u fun e w' => e = .returned (.int .i64 y) ∧ Below u.heap.size u w') := fun u => by rw [← HY.out]; exact shard_any a0 a1 a4 u (by omega) (by omega) hk0 hk1
    have CSr : Hid (∀ u, Calls Try.prog 29 #[.string a0, .string a1, .int .i64 a4] u fun e w' => e = .returned (.int .i64 y) ∧ Below u.heap.size u w') := fun u => by rw [← HY.out]; exact ref_shard a0 a1 a4 u (by omega) (by omega) hk0 hk1
    obtain ⟨m, HMM⟩ : ∃ z, Hid (M.length = z) := ⟨_, rfl⟩
    rw [HMM.out] at hm6
    clear hn6 HOO hk0 hk1 h3 h4 t3a t3b t4a t4b
    go_enter Try.func4, Try.ntmps4
    have W0 : Hid (Below w.heap.size w w) := Below.refl _ _
    go_wp2_with (first | refine blk_box rfl 35 _ rfl [.int .u64 (l20 : Int), .int .u64 (l21 : Int), .int .u64 (l22 : Int), .int .u64 (l23 : Int), .int .i64 dd2, .bool mo2, sv2, .bool ow2] rfl ?_)
    intro k1 A1 B1 Z1
    have hb1 : Below w.heap.size w k1 := B1
    have HX1_ : Hid (Blk k1 (w.heap.size) [.int .u64 (l20 : Int), .int .u64 (l21 : Int), .int .u64 (l22 : Int), .int .u64 (l23 : Int), .int .i64 dd2, .bool mo2, sv2, .bool ow2]) := A1
    have LX1_ : Hid (w.heap.size < k1.heap.size) := by show _ < _; omega
    have W1 : Hid (Below w.heap.size w k1) := Below.trans W0.out (hb1.mono W0.out.size)
    have HX1 := HX1_
    have LX1 := LX1_
    clear hb1 A1 B1 Z1 W0 HX1_ LX1_
    go_wp2_with fail
    refine (examples_any _).mono ?_; rintro e k2 ⟨rfl, hb2⟩
    have HX2 : Hid (Blk k2 (w.heap.size) [.int .u64 (l20 : Int), .int .u64 (l21 : Int), .int .u64 (l22 : Int), .int .u64 (l23 : Int), .int .i64 dd2, .bool mo2, sv2, .bool ow2]) := Blk.below HX1.out hb2 LX1.out
    have LX2 : Hid (w.heap.size < k2.heap.size) := Nat.lt_of_lt_of_le LX1.out hb2.size
    have W2 : Hid (Below w.heap.size w k2) := Below.trans W1.out (hb2.mono W1.out.size)
    clear hb2 HX1 LX1 W1 
    go_wp2_with (first | refine blk_load rfl 35 _ rfl (w.heap.size) rfl [.int .u64 (l20 : Int), .int .u64 (l21 : Int), .int .u64 (l22 : Int), .int .u64 (l23 : Int), .int .i64 dd2, .bool mo2, sv2, .bool ow2] HX2.out _ Try.underlying35 rfl Try.size_dl ?_)
    refine (CD2.out _ (IsPs.below KI2.out W2.out)).mono ?_; rintro e k3 ⟨v, rfl, hi, hb3⟩
    have HX3 : Hid (Blk k3 (w.heap.size) [.int .u64 (l20 : Int), .int .u64 (l21 : Int), .int .u64 (l22 : Int), .int .u64 (l23 : Int), .int .i64 dd2, .bool mo2, sv2, .bool ow2]) := Blk.below HX2.out hb3 LX2.out
    have LX3 : Hid (w.heap.size < k3.heap.size) := Nat.lt_of_lt_of_le LX2.out hb3.size
    have W3 : Hid (Below w.heap.size w k3) := Below.trans W2.out (hb3.mono W2.out.size)
    clear hb3 HX2 LX2 W2 
    obtain ⟨s2, c2, ev, _⟩ := hi.is
    subst ev
    have XV23 := Lib.hid hi
    clear hi
    go_wp2_with (first | refine blk_alloc rfl 43 (ks .u64 [0, 0, 0, 0] ++ [Value.int .i64 0, .slice none 0 0]) rfl Try.info_itx ?_)
    intro k4 A4 B4 Z4
    go_wp2_with (first | refine blk_store rfl 43 _ _ rfl (k3.heap.size) rfl [Value.int .u64 (a20 : Int), .int .u64 (a21 : Int), .int .u64 (a22 : Int), .int .u64 (a23 : Int), .int .i64 D2, .slice s2 L2.length c2] rfl _ A4 rfl Try.size_itx rfl ?_)
    intro k5 A5 U5
    have hb5 : Below k3.heap.size k3 k5 := B4.trans (U5.below (Nat.le_refl _))
    have HT5_ : Hid (Blk k5 (k3.heap.size) [Value.int .u64 (a20 : Int), .int .u64 (a21 : Int), .int .u64 (a22 : Int), .int .u64 (a23 : Int), .int .i64 D2, .slice s2 L2.length c2]) := A5
    have LT5_ : Hid (k3.heap.size < k5.heap.size) := by show _ < _; rw [U5.size]; omega
    have HX5 : Hid (Blk k5 (w.heap.size) [.int .u64 (l20 : Int), .int .u64 (l21 : Int), .int .u64 (l22 : Int), .int .u64 (l23 : Int), .int .i64 dd2, .bool mo2, sv2, .bool ow2]) := Blk.below HX3.out hb5 LX3.out
    have LX5 : Hid (w.heap.size < k5.heap.size) := Nat.lt_of_lt_of_le LX3.out hb5.size
    have XV25 := Lib.hid (IsWs.below XV23.out hb5)
    have W5 : Hid (Below w.heap.size w k5) := Below.trans W3.out (hb5.mono W3.out.size)
    have HT5 := HT5_
    have LT5 := LT5_
    clear hb5 A4 B4 Z4 A5 U5 HT5_ LT5_ HX3 LX3 XV23 W3
    go_wp2_with (first | refine blk_load rfl 43 _ rfl (k3.heap.size) rfl [Value.int .u64 (a20 : Int), .int .u64 (a21 : Int), .int .u64 (a22 : Int), .int .u64 (a23 : Int), .int .i64 D2, .slice s2 L2.length c2] HT5.out _ Try.underlying43 rfl Try.size_itx ?_)
    refine (CO.out _ _ XV25.out).mono ?_; rintro e k6 ⟨v, rfl, ho, hb6⟩
    have HX6 : Hid (Blk k6 (w.heap.size) [.int .u64 (l20 : Int), .int .u64 (l21 : Int), .int .u64 (l22 : Int), .int .u64 (l23 : Int), .int .i64 dd2, .bool mo2, sv2, .bool ow2]) := Blk.below HX5.out hb6 LX5.out
    have LX6 : Hid (w.heap.size < k6.heap.size) := Nat.lt_of_lt_of_le LX5.out hb6.size
    have HT6 : Hid (Blk k6 (k3.heap.size) [Value.int .u64 (a20 : Int), .int .u64 (a21 : Int), .int .u64 (a22 : Int), .int .u64 (a23 : Int), .int .i64 D2, .slice s2 L2.length c2]) := Blk.below HT5.out hb6 LT5.out
    have LT6 : Hid (k3.heap.size < k6.heap.size) := Nat.lt_of_lt_of_le LT5.out hb6.size
    have XV26 := Lib.hid (IsWs.below XV25.out hb6)
    have W6 : Hid (Below w.heap.size w k6) := Below.trans W5.out (hb6.mono W5.out.size)
    clear hb6 HX5 LX5 HT5 LT5 XV25 W5 
    obtain ⟨pO, qO, ev, _⟩ := ho.is.is
    subst ev
    have XO6 := Lib.hid ho
    rw [HMM.out] at XO6
    rw [HMM.out]
    clear ho
    go_wp2_with fail
    refine (CF.out _ _ (OW.is XO6.out)).mono ?_; rintro e k7 ⟨v, rfl, ho, hb7⟩
    have HX7 : Hid (Blk k7 (w.heap.size) [.int .u64 (l20 : Int), .int .u64 (l21 : Int), .int .u64 (l22 : Int), .int .u64 (l23 : Int), .int .i64 dd2, .bool mo2, sv2, .bool ow2]) := Blk.below HX6.out hb7 LX6.out
    have LX7 : Hid (w.heap.size < k7.heap.size) := Nat.lt_of_lt_of_le LX6.out hb7.size
    have HT7 : Hid (Blk k7 (k3.heap.size) [Value.int .u64 (a20 : Int), .int .u64 (a21 : Int), .int .u64 (a22 : Int), .int .u64 (a23 : Int), .int .i64 D2, .slice s2 L2.length c2]) := Blk.below HT6.out hb7 LT6.out
    have LT7 : Hid (k3.heap.size < k7.heap.size) := Nat.lt_of_lt_of_le LT6.out hb7.size
    have XV27 := Lib.hid (IsWs.below XV26.out hb7)
    have XO7 := Lib.hid (OW.below XO6.out hb7)
    have W7 : Hid (Below w.heap.size w k7) := Below.trans W6.out (hb7.mono W6.out.size)
    clear hb7 HX6 LX6 HT6 LT6 XV26 XO6 W6 
    obtain ⟨pF, qF, ev, _⟩ := ho.is.is
    subst ev
    have XF7 := Lib.hid ho
    rw [HMM.out] at XF7
    rw [HMM.out]
    clear ho
    go_wp2_with (first | refine blk_load rfl 43 _ rfl (k3.heap.size) rfl [Value.int .u64 (a20 : Int), .int .u64 (a21 : Int), .int .u64 (a22 : Int), .int .u64 (a23 : Int), .int .i64 D2, .slice s2 L2.length c2] HT7.out _ Try.underlying43 rfl Try.size_itx ?_)
    refine (CT.out _ _ XV27.out).mono ?_; rintro e k8 ⟨v, rfl, ho, hb8⟩
    have HX8 : Hid (Blk k8 (w.heap.size) [.int .u64 (l20 : Int), .int .u64 (l21 : Int), .int .u64 (l22 : Int), .int .u64 (l23 : Int), .int .i64 dd2, .bool mo2, sv2, .bool ow2]) := Blk.below HX7.out hb8 LX7.out
    have LX8 : Hid (w.heap.size < k8.heap.size) := Nat.lt_of_lt_of_le LX7.out hb8.size
    have HT8 : Hid (Blk k8 (k3.heap.size) [Value.int .u64 (a20 : Int), .int .u64 (a21 : Int), .int .u64 (a22 : Int), .int .u64 (a23 : Int), .int .i64 D2, .slice s2 L2.length c2]) := Blk.below HT7.out hb8 LT7.out
    have LT8 : Hid (k3.heap.size < k8.heap.size) := Nat.lt_of_lt_of_le LT7.out hb8.size
    have XV28 := Lib.hid (IsWs.below XV27.out hb8)
    have XO8 := Lib.hid (OW.below XO7.out hb8)
    have XF8 := Lib.hid (OW.below XF7.out hb8)
    have W8 : Hid (Below w.heap.size w k8) := Below.trans W7.out (hb8.mono W7.out.size)
    clear hb8 HX7 LX7 HT7 LT7 XV27 XO7 XF7 W7 
    obtain ⟨pR, qR, ev, _⟩ := ho.is.is
    subst ev
    have XR8 := Lib.hid ho
    clear ho
    go_wp2_with fail
    refine (CQ.out _ _ (OW.is XR8.out)).mono ?_; rintro e k9 ⟨v, rfl, ho, hb9⟩
    have HX9 : Hid (Blk k9 (w.heap.size) [.int .u64 (l20 : Int), .int .u64 (l21 : Int), .int .u64 (l22 : Int), .int .u64 (l23 : Int), .int .i64 dd2, .bool mo2, sv2, .bool ow2]) := Blk.below HX8.out hb9 LX8.out
    have LX9 : Hid (w.heap.size < k9.heap.size) := Nat.lt_of_lt_of_le LX8.out hb9.size
    have HT9 : Hid (Blk k9 (k3.heap.size) [Value.int .u64 (a20 : Int), .int .u64 (a21 : Int), .int .u64 (a22 : Int), .int .u64 (a23 : Int), .int .i64 D2, .slice s2 L2.length c2]) := Blk.below HT8.out hb9 LT8.out
    have LT9 : Hid (k3.heap.size < k9.heap.size) := Nat.lt_of_lt_of_le LT8.out hb9.size
    have XV29 := Lib.hid (IsWs.below XV28.out hb9)
    have XO9 := Lib.hid (OW.below XO8.out hb9)
    have XF9 := Lib.hid (OW.below XF8.out hb9)
    have XR9 := Lib.hid (OW.below XR8.out hb9)
    have W9 : Hid (Below w.heap.size w k9) := Below.trans W8.out (hb9.mono W8.out.size)
    clear hb9 HX8 LX8 HT8 LT8 XV28 XO8 XF8 XR8 W8 
    obtain ⟨pQ, qQ, ev, _⟩ := ho.is.is
    subst ev
    have XQ9 := Lib.hid ho
    rw [HMM.out] at XQ9
    rw [HMM.out]
    clear ho
    have inm : ((m : Int) != (m : Int)) = false := by simp
    go_wp2_with fail
    clear inm
    go_loopw [17] (fun iv wr => ∃ i : Nat, i ≤ m ∧ iv = .int .i64 i ∧ Hid (Below k9.heap.size k9 wr)) (fun iv _ => m - (intOf iv).toNat)
    case atStart => exact ⟨0, by omega, rfl, Below.refl _ _⟩
    case round =>
      obtain ⟨i, hi, rfl, HBi⟩ := hrel
      by_cases him : i < m
      · have iim : (i : Int) < (m : Int) := by omega
        obtain ⟨g2, go, gc, hv, gl, gr⟩ := IsWs.at (OW.is (OW.below XF9.out HBi.out)) i (by rw [HMM.out]; exact him)
        have hv2 := hv
        simp only [Value.slice.injEq] at hv2
        obtain ⟨rfl, hnl, rfl⟩ := hv2
        clear hv hnl
        obtain ⟨h2, ho, hc, hv, hl, hr⟩ := IsWs.at (OW.is (OW.below XQ9.out HBi.out)) i (by rw [HMM.out]; exact him)
        have hv2 := hv
        simp only [Value.slice.injEq] at hv2
        obtain ⟨rfl, hnl, rfl⟩ := hv2
        clear hv hnl
        obtain ⟨z, HZ⟩ : ∃ z, Hid (M.getD i I.none_ = z) := ⟨_, rfl⟩
        rw [HZ.out] at gr hr
        have Kg : Hid (∀ u, Below wr.heap.size wr u → u.rangeAt g2 (go + 4 * i) (wc z)) := fun u hu k v hv => by rw [hu.cell (p := ⟨g2, go + 4 * i + k, none⟩) gl]; exact gr k v hv
        have Kh : Hid (∀ u, Below wr.heap.size wr u → u.rangeAt h2 (ho + 4 * i) (wc z)) := fun u hu k v hv => by rw [hu.cell (p := ⟨h2, ho + 4 * i + k, none⟩) hl]; exact hr k v hv
        have HNQ : Hid (∀ w, (binOp .neq 38 (WV z) (WV z)).run Try.prog w = .ok (.bool false) w) := fun w => by rw [neq_rw z z w]; simp
        clear gr hr gl hl
        go_wp2_with fail
        refine region_w Try.mixed (by kernel_rfl) ?_
        refine w_move rfl _ rfl (.slice (some ⟨g2, go, none⟩) m qF) rfl (fun K hK => ?_)
        go_simp
        refine hK _ ?_
        clear hK K
        refine w_move rfl _ rfl (.int .i64 (i : Int)) rfl (fun K hK => ?_)
        go_simp
        refine hK _ ?_
        clear hK K
        refine w_value rfl (.pointer (some ⟨g2, go + 4 * i, none⟩)) (fun u hu => by have hc := index_rw g2 go m qF i him u; go_simp) (fun K hK => ?_)
        go_simp
        refine hK _ ?_
        clear hK K
        refine w_wv_load rfl 38 _ rfl g2 (go + 4 * i) rfl z (by exact Kg.out) _ Try.underlying38 rfl Try.size_rw (fun K hK => ?_)
        go_simp
        refine hK _ ?_
        clear hK K
        refine w_move rfl _ rfl (.slice (some ⟨h2, ho, none⟩) m qQ) rfl (fun K hK => ?_)
        go_simp
        refine hK _ ?_
        clear hK K
        refine w_move rfl _ rfl (.int .i64 (i : Int)) rfl (fun K hK => ?_)
        go_simp
        refine hK _ ?_
        clear hK K
        refine w_value rfl (.pointer (some ⟨h2, ho + 4 * i, none⟩)) (fun u hu => by have hc := index_rw h2 ho m qQ i him u; go_simp) (fun K hK => ?_)
        go_simp
        refine hK _ ?_
        clear hK K
        refine w_wv_load rfl 38 _ rfl h2 (ho + 4 * i) rfl z (by exact Kh.out) _ Try.underlying38 rfl Try.size_rw (fun K hK => ?_)
        go_simp
        refine hK _ ?_
        clear hK K
        refine w_value rfl (.bool false) (fun u _ => run_eql u .neq 38 38 _ _ (WV z) (WV z) _ rfl rfl rfl (guard_rw _ _ _ _ _ u) (HNQ.out u)) (fun K hK => ?_)
        go_simp
        refine hK _ ?_
        clear hK K
        refine w_nil ?_
        intro u hu
        have HBu : Hid (Below k9.heap.size k9 u) := Below.trans HBi.out (hu.mono HBi.out.size)
        clear hu HBi Kg Kh
        go_wp2_with fail
        go_roundw
        case rel => exact ⟨i + 1, by omega, by go_num, HBu⟩
        case measure => simp [intOf]; omega
      · obtain rfl : i = m := by omega
        have HW80 : Hid (Below w.heap.size w wr) := Below.trans W9.out (HBi.out.mono W9.out.size)
        have hyy : (y == y) = true := by simp
        go_wp2_with fail
        refine (CS.out _).mono ?_; rintro e k81 ⟨rfl, hb81⟩
        have HW81 : Hid (Below w.heap.size w k81) := Below.trans HW80.out (hb81.mono HW80.out.size)
        clear hb81
        go_wp2_with fail
        refine (CSr.out _).mono ?_; rintro e k82 ⟨rfl, hb82⟩
        have HW82 : Hid (Below w.heap.size w k82) := Below.trans HW81.out (hb82.mono HW81.out.size)
        clear hb82
        go_wp2_with fail
        go_ret
        exact ⟨rfl, HW82.out⟩
  | true =>
    obtain ⟨sh, hsh⟩ : ∃ z, a3.tmod 6 = z := ⟨_, rfl⟩
    obtain ⟨kk, hkk⟩ : ∃ z, a4.tmod 6 = z := ⟨_, rfl⟩
    rw [hsh] at t3a t3b
    rw [hkk] at t4a t4b
    have ws : IntKind.i64.wrap sh = sh := wrapi (by omega) (by omega)
    have wk : IntKind.i64.wrap kk = kk := wrapi (by omega) (by omega)
    have hk0 : -9223372036854775808 ≤ kk := by omega
    have hk1 : kk ≤ 9223372036854775807 := by omega
    have CO : Hid (∀ u v, IsWs u v L2 → Calls Try.prog 26 #[TV [a20, a21, a22, a23] D2 v, .int .i64 sh, .int .i64 kk] u fun e w' => ∃ v', e = .returned v' ∧ OW 23 w' u.heap.size v' (I.of L2 sh kk) ∧ Below u.heap.size u w') := fun u v hv => of_any [a20, a21, a22, a23] D2 v L2 sh kk u rfl hv hn6 HOO.out hk0 hk1
    have CQ : Hid (∀ u v, IsWs u v L2 → Calls Try.prog 27 #[TV [a20, a21, a22, a23] D2 v, .int .i64 sh, .int .i64 kk] u fun e w' => ∃ v', e = .returned v' ∧ OW 38 w' u.heap.size v' (I.of L2 sh kk) ∧ Below u.heap.size u w') := fun u v hv => ref_of [a20, a21, a22, a23] D2 v L2 sh kk u rfl hv hn6 HOO.out hk0 hk1
    have CT : Hid (∀ u v, IsWs u v L2 → Calls Try.prog 17 #[TV [a20, a21, a22, a23] D2 v] u fun e w' => ∃ v', e = .returned (TV [a20, a21, a22, a23] D2 v') ∧ OW 38 w' u.heap.size v' L2 ∧ Below u.heap.size u w') := fun u v hv => reftxn_any [a20, a21, a22, a23] D2 v L2 u rfl hv hn6
    have hm6 : (I.of L2 sh kk).length < 1000000 := Nat.lt_of_le_of_lt (List.length_filter_le ..) hn6
    obtain ⟨M, HM⟩ : ∃ z, Hid (I.of L2 sh kk = z) := ⟨_, rfl⟩
    rw [HM.out] at CO CQ hm6
    have CF : Hid (∀ u v, IsWs u v M → Calls Try.prog 13 #[v] u fun e w' => ∃ v', e = .returned v' ∧ OW 38 w' u.heap.size v' M ∧ Below u.heap.size u w') := fun u v hv => refwrites_any v M u hv hm6
    obtain ⟨y, HY⟩ : ∃ z, Hid (I.shard a0 a1 kk = z) := ⟨_, rfl⟩
    have CS : Hid (∀ u, Calls Try.prog 28 #[.string a0, .string a1, .int .i64 kk] u fun e w' => e = .returned (.int .i64 y) ∧ Below u.heap.size u w') := fun u => by rw [← HY.out]; exact shard_any a0 a1 kk u (by omega) (by omega) hk0 hk1
    have CSr : Hid (∀ u, Calls Try.prog 29 #[.string a0, .string a1, .int .i64 kk] u fun e w' => e = .returned (.int .i64 y) ∧ Below u.heap.size u w') := fun u => by rw [← HY.out]; exact ref_shard a0 a1 kk u (by omega) (by omega) hk0 hk1
    obtain ⟨m, HMM⟩ : ∃ z, Hid (M.length = z) := ⟨_, rfl⟩
    rw [HMM.out] at hm6
    clear hn6 HOO hk0 hk1 h3 h4 t3a t3b t4a t4b
    go_enter Try.func4, Try.ntmps4
    have W0 : Hid (Below w.heap.size w w) := Below.refl _ _
    go_wp2_with (first | refine blk_box rfl 35 _ rfl [.int .u64 (l20 : Int), .int .u64 (l21 : Int), .int .u64 (l22 : Int), .int .u64 (l23 : Int), .int .i64 dd2, .bool mo2, sv2, .bool ow2] rfl ?_)
    intro k1 A1 B1 Z1
    have hb1 : Below w.heap.size w k1 := B1
    have HX1_ : Hid (Blk k1 (w.heap.size) [.int .u64 (l20 : Int), .int .u64 (l21 : Int), .int .u64 (l22 : Int), .int .u64 (l23 : Int), .int .i64 dd2, .bool mo2, sv2, .bool ow2]) := A1
    have LX1_ : Hid (w.heap.size < k1.heap.size) := by show _ < _; omega
    have W1 : Hid (Below w.heap.size w k1) := Below.trans W0.out (hb1.mono W0.out.size)
    have HX1 := HX1_
    have LX1 := LX1_
    clear hb1 A1 B1 Z1 W0 HX1_ LX1_
    go_wp2_with fail
    refine (examples_any _).mono ?_; rintro e k2 ⟨rfl, hb2⟩
    have HX2 : Hid (Blk k2 (w.heap.size) [.int .u64 (l20 : Int), .int .u64 (l21 : Int), .int .u64 (l22 : Int), .int .u64 (l23 : Int), .int .i64 dd2, .bool mo2, sv2, .bool ow2]) := Blk.below HX1.out hb2 LX1.out
    have LX2 : Hid (w.heap.size < k2.heap.size) := Nat.lt_of_lt_of_le LX1.out hb2.size
    have W2 : Hid (Below w.heap.size w k2) := Below.trans W1.out (hb2.mono W1.out.size)
    clear hb2 HX1 LX1 W1 
    go_wp2_with (first | refine blk_load rfl 35 _ rfl (w.heap.size) rfl [.int .u64 (l20 : Int), .int .u64 (l21 : Int), .int .u64 (l22 : Int), .int .u64 (l23 : Int), .int .i64 dd2, .bool mo2, sv2, .bool ow2] HX2.out _ Try.underlying35 rfl Try.size_dl ?_)
    refine (CD2.out _ (IsPs.below KI2.out W2.out)).mono ?_; rintro e k3 ⟨v, rfl, hi, hb3⟩
    have HX3 : Hid (Blk k3 (w.heap.size) [.int .u64 (l20 : Int), .int .u64 (l21 : Int), .int .u64 (l22 : Int), .int .u64 (l23 : Int), .int .i64 dd2, .bool mo2, sv2, .bool ow2]) := Blk.below HX2.out hb3 LX2.out
    have LX3 : Hid (w.heap.size < k3.heap.size) := Nat.lt_of_lt_of_le LX2.out hb3.size
    have W3 : Hid (Below w.heap.size w k3) := Below.trans W2.out (hb3.mono W2.out.size)
    clear hb3 HX2 LX2 W2 
    obtain ⟨s2, c2, ev, _⟩ := hi.is
    subst ev
    have XV23 := Lib.hid hi
    clear hi
    go_wp2_with (first | refine blk_alloc rfl 43 (ks .u64 [0, 0, 0, 0] ++ [Value.int .i64 0, .slice none 0 0]) rfl Try.info_itx ?_)
    intro k4 A4 B4 Z4
    go_wp2_with (first | refine blk_store rfl 43 _ _ rfl (k3.heap.size) rfl [Value.int .u64 (a20 : Int), .int .u64 (a21 : Int), .int .u64 (a22 : Int), .int .u64 (a23 : Int), .int .i64 D2, .slice s2 L2.length c2] rfl _ A4 rfl Try.size_itx rfl ?_)
    intro k5 A5 U5
    have hb5 : Below k3.heap.size k3 k5 := B4.trans (U5.below (Nat.le_refl _))
    have HT5_ : Hid (Blk k5 (k3.heap.size) [Value.int .u64 (a20 : Int), .int .u64 (a21 : Int), .int .u64 (a22 : Int), .int .u64 (a23 : Int), .int .i64 D2, .slice s2 L2.length c2]) := A5
    have LT5_ : Hid (k3.heap.size < k5.heap.size) := by show _ < _; rw [U5.size]; omega
    have HX5 : Hid (Blk k5 (w.heap.size) [.int .u64 (l20 : Int), .int .u64 (l21 : Int), .int .u64 (l22 : Int), .int .u64 (l23 : Int), .int .i64 dd2, .bool mo2, sv2, .bool ow2]) := Blk.below HX3.out hb5 LX3.out
    have LX5 : Hid (w.heap.size < k5.heap.size) := Nat.lt_of_lt_of_le LX3.out hb5.size
    have XV25 := Lib.hid (IsWs.below XV23.out hb5)
    have W5 : Hid (Below w.heap.size w k5) := Below.trans W3.out (hb5.mono W3.out.size)
    have HT5 := HT5_
    have LT5 := LT5_
    clear hb5 A4 B4 Z4 A5 U5 HT5_ LT5_ HX3 LX3 XV23 W3
    go_wp2_with (first | refine blk_load rfl 43 _ rfl (k3.heap.size) rfl [Value.int .u64 (a20 : Int), .int .u64 (a21 : Int), .int .u64 (a22 : Int), .int .u64 (a23 : Int), .int .i64 D2, .slice s2 L2.length c2] HT5.out _ Try.underlying43 rfl Try.size_itx ?_)
    refine (CO.out _ _ XV25.out).mono ?_; rintro e k6 ⟨v, rfl, ho, hb6⟩
    have HX6 : Hid (Blk k6 (w.heap.size) [.int .u64 (l20 : Int), .int .u64 (l21 : Int), .int .u64 (l22 : Int), .int .u64 (l23 : Int), .int .i64 dd2, .bool mo2, sv2, .bool ow2]) := Blk.below HX5.out hb6 LX5.out
    have LX6 : Hid (w.heap.size < k6.heap.size) := Nat.lt_of_lt_of_le LX5.out hb6.size
    have HT6 : Hid (Blk k6 (k3.heap.size) [Value.int .u64 (a20 : Int), .int .u64 (a21 : Int), .int .u64 (a22 : Int), .int .u64 (a23 : Int), .int .i64 D2, .slice s2 L2.length c2]) := Blk.below HT5.out hb6 LT5.out
    have LT6 : Hid (k3.heap.size < k6.heap.size) := Nat.lt_of_lt_of_le LT5.out hb6.size
    have XV26 := Lib.hid (IsWs.below XV25.out hb6)
    have W6 : Hid (Below w.heap.size w k6) := Below.trans W5.out (hb6.mono W5.out.size)
    clear hb6 HX5 LX5 HT5 LT5 XV25 W5 
    obtain ⟨pO, qO, ev, _⟩ := ho.is.is
    subst ev
    have XO6 := Lib.hid ho
    rw [HMM.out] at XO6
    rw [HMM.out]
    clear ho
    go_wp2_with fail
    refine (CF.out _ _ (OW.is XO6.out)).mono ?_; rintro e k7 ⟨v, rfl, ho, hb7⟩
    have HX7 : Hid (Blk k7 (w.heap.size) [.int .u64 (l20 : Int), .int .u64 (l21 : Int), .int .u64 (l22 : Int), .int .u64 (l23 : Int), .int .i64 dd2, .bool mo2, sv2, .bool ow2]) := Blk.below HX6.out hb7 LX6.out
    have LX7 : Hid (w.heap.size < k7.heap.size) := Nat.lt_of_lt_of_le LX6.out hb7.size
    have HT7 : Hid (Blk k7 (k3.heap.size) [Value.int .u64 (a20 : Int), .int .u64 (a21 : Int), .int .u64 (a22 : Int), .int .u64 (a23 : Int), .int .i64 D2, .slice s2 L2.length c2]) := Blk.below HT6.out hb7 LT6.out
    have LT7 : Hid (k3.heap.size < k7.heap.size) := Nat.lt_of_lt_of_le LT6.out hb7.size
    have XV27 := Lib.hid (IsWs.below XV26.out hb7)
    have XO7 := Lib.hid (OW.below XO6.out hb7)
    have W7 : Hid (Below w.heap.size w k7) := Below.trans W6.out (hb7.mono W6.out.size)
    clear hb7 HX6 LX6 HT6 LT6 XV26 XO6 W6 
    obtain ⟨pF, qF, ev, _⟩ := ho.is.is
    subst ev
    have XF7 := Lib.hid ho
    rw [HMM.out] at XF7
    rw [HMM.out]
    clear ho
    go_wp2_with (first | refine blk_load rfl 43 _ rfl (k3.heap.size) rfl [Value.int .u64 (a20 : Int), .int .u64 (a21 : Int), .int .u64 (a22 : Int), .int .u64 (a23 : Int), .int .i64 D2, .slice s2 L2.length c2] HT7.out _ Try.underlying43 rfl Try.size_itx ?_)
    refine (CT.out _ _ XV27.out).mono ?_; rintro e k8 ⟨v, rfl, ho, hb8⟩
    have HX8 : Hid (Blk k8 (w.heap.size) [.int .u64 (l20 : Int), .int .u64 (l21 : Int), .int .u64 (l22 : Int), .int .u64 (l23 : Int), .int .i64 dd2, .bool mo2, sv2, .bool ow2]) := Blk.below HX7.out hb8 LX7.out
    have LX8 : Hid (w.heap.size < k8.heap.size) := Nat.lt_of_lt_of_le LX7.out hb8.size
    have HT8 : Hid (Blk k8 (k3.heap.size) [Value.int .u64 (a20 : Int), .int .u64 (a21 : Int), .int .u64 (a22 : Int), .int .u64 (a23 : Int), .int .i64 D2, .slice s2 L2.length c2]) := Blk.below HT7.out hb8 LT7.out
    have LT8 : Hid (k3.heap.size < k8.heap.size) := Nat.lt_of_lt_of_le LT7.out hb8.size
    have XV28 := Lib.hid (IsWs.below XV27.out hb8)
    have XO8 := Lib.hid (OW.below XO7.out hb8)
    have XF8 := Lib.hid (OW.below XF7.out hb8)
    have W8 : Hid (Below w.heap.size w k8) := Below.trans W7.out (hb8.mono W7.out.size)
    clear hb8 HX7 LX7 HT7 LT7 XV27 XO7 XF7 W7 
    obtain ⟨pR, qR, ev, _⟩ := ho.is.is
    subst ev
    have XR8 := Lib.hid ho
    clear ho
    go_wp2_with fail
    refine (CQ.out _ _ (OW.is XR8.out)).mono ?_; rintro e k9 ⟨v, rfl, ho, hb9⟩
    have HX9 : Hid (Blk k9 (w.heap.size) [.int .u64 (l20 : Int), .int .u64 (l21 : Int), .int .u64 (l22 : Int), .int .u64 (l23 : Int), .int .i64 dd2, .bool mo2, sv2, .bool ow2]) := Blk.below HX8.out hb9 LX8.out
    have LX9 : Hid (w.heap.size < k9.heap.size) := Nat.lt_of_lt_of_le LX8.out hb9.size
    have HT9 : Hid (Blk k9 (k3.heap.size) [Value.int .u64 (a20 : Int), .int .u64 (a21 : Int), .int .u64 (a22 : Int), .int .u64 (a23 : Int), .int .i64 D2, .slice s2 L2.length c2]) := Blk.below HT8.out hb9 LT8.out
    have LT9 : Hid (k3.heap.size < k9.heap.size) := Nat.lt_of_lt_of_le LT8.out hb9.size
    have XV29 := Lib.hid (IsWs.below XV28.out hb9)
    have XO9 := Lib.hid (OW.below XO8.out hb9)
    have XF9 := Lib.hid (OW.below XF8.out hb9)
    have XR9 := Lib.hid (OW.below XR8.out hb9)
    have W9 : Hid (Below w.heap.size w k9) := Below.trans W8.out (hb9.mono W8.out.size)
    clear hb9 HX8 LX8 HT8 LT8 XV28 XO8 XF8 XR8 W8 
    obtain ⟨pQ, qQ, ev, _⟩ := ho.is.is
    subst ev
    have XQ9 := Lib.hid ho
    rw [HMM.out] at XQ9
    rw [HMM.out]
    clear ho
    have inm : ((m : Int) != (m : Int)) = false := by simp
    go_wp2_with fail
    clear inm
    go_loopw [17] (fun iv wr => ∃ i : Nat, i ≤ m ∧ iv = .int .i64 i ∧ Hid (Below k9.heap.size k9 wr)) (fun iv _ => m - (intOf iv).toNat)
    case atStart => exact ⟨0, by omega, rfl, Below.refl _ _⟩
    case round =>
      obtain ⟨i, hi, rfl, HBi⟩ := hrel
      by_cases him : i < m
      · have iim : (i : Int) < (m : Int) := by omega
        obtain ⟨g2, go, gc, hv, gl, gr⟩ := IsWs.at (OW.is (OW.below XF9.out HBi.out)) i (by rw [HMM.out]; exact him)
        have hv2 := hv
        simp only [Value.slice.injEq] at hv2
        obtain ⟨rfl, hnl, rfl⟩ := hv2
        clear hv hnl
        obtain ⟨h2, ho, hc, hv, hl, hr⟩ := IsWs.at (OW.is (OW.below XQ9.out HBi.out)) i (by rw [HMM.out]; exact him)
        have hv2 := hv
        simp only [Value.slice.injEq] at hv2
        obtain ⟨rfl, hnl, rfl⟩ := hv2
        clear hv hnl
        obtain ⟨z, HZ⟩ : ∃ z, Hid (M.getD i I.none_ = z) := ⟨_, rfl⟩
        rw [HZ.out] at gr hr
        have Kg : Hid (∀ u, Below wr.heap.size wr u → u.rangeAt g2 (go + 4 * i) (wc z)) := fun u hu k v hv => by rw [hu.cell (p := ⟨g2, go + 4 * i + k, none⟩) gl]; exact gr k v hv
        have Kh : Hid (∀ u, Below wr.heap.size wr u → u.rangeAt h2 (ho + 4 * i) (wc z)) := fun u hu k v hv => by rw [hu.cell (p := ⟨h2, ho + 4 * i + k, none⟩) hl]; exact hr k v hv
        have HNQ : Hid (∀ w, (binOp .neq 38 (WV z) (WV z)).run Try.prog w = .ok (.bool false) w) := fun w => by rw [neq_rw z z w]; simp
        clear gr hr gl hl
        go_wp2_with fail
        refine region_w Try.mixed (by kernel_rfl) ?_
        refine w_move rfl _ rfl (.slice (some ⟨g2, go, none⟩) m qF) rfl (fun K hK => ?_)
        go_simp
        refine hK _ ?_
        clear hK K
        refine w_move rfl _ rfl (.int .i64 (i : Int)) rfl (fun K hK => ?_)
        go_simp
        refine hK _ ?_
        clear hK K
        refine w_value rfl (.pointer (some ⟨g2, go + 4 * i, none⟩)) (fun u hu => by have hc := index_rw g2 go m qF i him u; go_simp) (fun K hK => ?_)
        go_simp
        refine hK _ ?_
        clear hK K
        refine w_wv_load rfl 38 _ rfl g2 (go + 4 * i) rfl z (by exact Kg.out) _ Try.underlying38 rfl Try.size_rw (fun K hK => ?_)
        go_simp
        refine hK _ ?_
        clear hK K
        refine w_move rfl _ rfl (.slice (some ⟨h2, ho, none⟩) m qQ) rfl (fun K hK => ?_)
        go_simp
        refine hK _ ?_
        clear hK K
        refine w_move rfl _ rfl (.int .i64 (i : Int)) rfl (fun K hK => ?_)
        go_simp
        refine hK _ ?_
        clear hK K
        refine w_value rfl (.pointer (some ⟨h2, ho + 4 * i, none⟩)) (fun u hu => by have hc := index_rw h2 ho m qQ i him u; go_simp) (fun K hK => ?_)
        go_simp
        refine hK _ ?_
        clear hK K
        refine w_wv_load rfl 38 _ rfl h2 (ho + 4 * i) rfl z (by exact Kh.out) _ Try.underlying38 rfl Try.size_rw (fun K hK => ?_)
        go_simp
        refine hK _ ?_
        clear hK K
        refine w_value rfl (.bool false) (fun u _ => run_eql u .neq 38 38 _ _ (WV z) (WV z) _ rfl rfl rfl (guard_rw _ _ _ _ _ u) (HNQ.out u)) (fun K hK => ?_)
        go_simp
        refine hK _ ?_
        clear hK K
        refine w_nil ?_
        intro u hu
        have HBu : Hid (Below k9.heap.size k9 u) := Below.trans HBi.out (hu.mono HBi.out.size)
        clear hu HBi Kg Kh
        go_wp2_with fail
        go_roundw
        case rel => exact ⟨i + 1, by omega, by go_num, HBu⟩
        case measure => simp [intOf]; omega
      · obtain rfl : i = m := by omega
        have HW80 : Hid (Below w.heap.size w wr) := Below.trans W9.out (HBi.out.mono W9.out.size)
        have hyy : (y == y) = true := by simp
        go_wp2_with fail
        refine (CS.out _).mono ?_; rintro e k81 ⟨rfl, hb81⟩
        have HW81 : Hid (Below w.heap.size w k81) := Below.trans HW80.out (hb81.mono HW80.out.size)
        clear hb81
        go_wp2_with fail
        refine (CSr.out _).mono ?_; rintro e k82 ⟨rfl, hb82⟩
        have HW82 : Hid (Below w.heap.size w k82) := Below.trans HW81.out (hb82.mono HW81.out.size)
        clear hb82
        go_wp2_with fail
        go_ret
        exact ⟨rfl, HW82.out⟩

set_option maxRecDepth 100000 in
theorem lifted (os : Os) (started : os.Started) (H : Type) (enc : TypeId × Value → H) :
    ReturnsInHanded {} Try.checked os 4 .any (Rows.itemShardsSpec.pre6 enc Try.prog Try.f4 Rows.itemShardsRow.domain false) (Rows.itemShardsSpec.post enc Try.prog Try.f4 false true false false) := by
  refine returnsInHanded_of_change_sized (C := Try.checked) own started (by kernel_rfl) Try.func4
    (ChangeSpec.witness6 (enc := enc) (C := Try.checked) false ⟨#[], #[.string ByteArray.empty, .string ByteArray.empty, .agg #[.int .u64 0, .int .u64 0, .int .u64 0, .int .u64 0, .int .i64 0, .bool false, .slice none 0 0, .bool false], .int .i64 0, .int .i64 0, .bool false], []⟩ 8 (by kernel_rfl) (by kernel_rfl) (by kernel_rfl) (by kernel_rfl)) ?_
  intro W base args ds gs before hval0 hW hcnd hsz0 _
  have hval : ∀ (j : Nat) t v, Try.f4.params[j]? = some t → args[j]? = some v → Value.okWide Try.prog W .any base t v := hval0
  have hW' := hW
  obtain ⟨p, q, hA0, hV, rfl, hfz, hnd⟩ := hW
  have hA : DataW.TrodAll enc Try.prog W 0 (fun _ => true) true Try.f4.params.toList args.toList ds p := hA0
  have hsz : (DataW.weightsEach Try.prog (Try.f4.params.toList ++ Rows.itemShardsSpec.plain.varTypes Try.prog) (ds ++ gs)).all (· ≤ reachBytes) = true := hsz0
  rw [Try.params4] at hA hval hsz
  obtain ⟨rfl, rfl⟩ := trodVars_none hV
  have hAk := hA
  have hlt : ∀ x ∈ p, x.block < W.heap.size := fun x hx => by simpa using hW'.lt x (List.mem_append.2 (.inl hx))
  obtain ⟨v0, vs0, d0, ds0, p0, q0, hargs, rfl, rfl, h0, r0⟩ := trodAll_cons hA
  obtain ⟨v1, vs1, d1, ds1, p1, q1, rfl, rfl, rfl, h1, r1⟩ := trodAll_cons r0
  obtain ⟨v2, vs2, d2, ds2, p2, q2, rfl, rfl, rfl, h2, r2⟩ := trodAll_cons r1
  obtain ⟨v3, vs3, d3, ds3, p3, q3, rfl, rfl, rfl, h3, r3⟩ := trodAll_cons r2
  obtain ⟨v4, vs4, d4, ds4, p4, q4, rfl, rfl, rfl, h4, r4⟩ := trodAll_cons r3
  obtain ⟨v5, vs5, d5, ds5, p5, q5, rfl, rfl, rfl, h5, r5⟩ := trodAll_cons r4
  obtain ⟨rfl, rfl, rfl⟩ := trodAll_nil r5
  obtain rfl : args = #[v0, v1, v2, v3, v4, v5] := by cases args; simp_all
  obtain ⟨a0, rfl, rfl, rfl, w0⟩ := open_string Try.underlying9 (hval 0 9 v0 rfl rfl) h0
  have z0 := sized_string hsz (j := 0) (t := 9) rfl rfl
  obtain ⟨a1, rfl, rfl, rfl, w1⟩ := open_string Try.underlying9 (hval 1 9 v1 rfl rfl) h1
  have z1 := sized_string hsz (j := 1) (t := 9) rfl rfl
  obtain ⟨al2, dd2, mo2, sv2, PL2, ow2, rfl, k2, kd2, ki2, kp2⟩ := open_deal (hval 2 35 v2 rfl rfl) h2 (Sz.arg hsz (j := 2) rfl rfl)
  obtain ⟨a3, rfl, rfl, rfl, w3⟩ := open_int Try.underlying3 (hval 3 3 v3 rfl rfl) h3
  obtain ⟨a4, rfl, rfl, rfl, w4⟩ := open_int Try.underlying3 (hval 4 3 v4 rfl rfl) h4
  obtain ⟨a5, rfl, rfl, rfl⟩ := open_bool Try.underlying4 (hval 5 4 v5 rfl rfl) h5
  clear hA0 hval0 hsz0
  refine (walk a0 a1 al2 dd2 mo2 sv2 PL2 ow2 a3 a4 a5 (by rw [Array.length_toList] at z0; exact z0) (by rw [Array.length_toList] at z1; exact z1) k2 kd2 kp2 w3 w4 W ki2).mono fun e W' ⟨he, hg⟩ => ?_
  subst he
  exact ⟨_, rfl, _, _, _, [], _, [], hW', (trodAll_cons_mk (shut_bool Try.underlying4 _) trodAll_mk0), trodAll_below laidOut hg _ _ _ _ (by kernel_rfl) hAk hlt, rfl, hg.frame _, fun h => by cases h⟩

theorem over : Rows.itemShardsRow.holds Try.pinned (OpenSpec.ofChange Rows.itemShardsSpec) :=
  OpenClaim.holds_of_wide 4 Try.f4 rfl rfl rfl rfl rfl rfl rfl ⟨rfl, rfl, rfl, rfl, rfl⟩ rfl rfl rfl rfl rfl (by kernel_rfl) Try.func4 (by kernel_rfl)
    (of_decide_eq_true (by kernel_rfl)) (by unfold Func.isWrapper; first | (rw [if_pos (by decide +kernel)]; kernel_rfl) | (rw [if_neg (by decide +kernel)]; exact ⟨rfl, rfl⟩))
    (fun os started H enc _ => lifted os started H enc)

/-- the statement -/
theorem proved : Rows.ItemShardsSaid :=
  over
#print axioms proved

end Go.Proofs.Ytkfcbihofipcbaa.itemShards
