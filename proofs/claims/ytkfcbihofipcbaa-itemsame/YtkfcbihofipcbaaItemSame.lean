/-
  Two transactions are the same just if stamp and all writes are, in their order (the law ItemSame). No conditions.
-/
import Derived.Test.YtkfcbihofipcbaaFrame

import Derived.Test.YtkfcbihofipcbaaItemF

import Derived.Test.YtkfcbihofipcbaaItemWh

import Derived.Test.YtkfcbihofipcbaaItemApp

import Derived.Test.YtkfcbihofipcbaaFramePut

namespace Go.Proofs.Ytkfcbihofipcbaa.itemSame

open Go.ChangeShapes Go.WideShapes Go.ChangeAt Go.RowKit

open Go.ChangeMaps (open_string shut_string)

open Go.Proofs.Ytkfcbihofipcbaa.Vc Go.Proofs.Ytkfcbihofipcbaa.Sp Go.Proofs.Ytkfcbihofipcbaa.It

set_option linter.unusedVariables false

set_option linter.unusedSimpArgs false

theorem Try.size_dl : (Try.prog.info? 35).map (·.size) = some 8 := by kernel_rfl
theorem set_ne (L : List I.Wt) (i : Nat) (hi : i < L.length) (y : I.Wt) (h : y ≠ L.getD i I.none_) : L ≠ L.set i y := by
  intro e
  apply h
  have : (L.set i y)[i]? = some y := List.getElem?_set_self hi
  rw [← e] at this
  rw [List.getD_eq_getElem?_getD, this]
  rfl
set_option maxHeartbeats 32000000 in
set_option maxRecDepth 100000 in
theorem walk (al0 : List Nat) (dd0 : Int) (mo0 : Bool) (sv0 : Value) (PL0 : List I.Pt) (ow0 : Bool) (a1 : Int) (k0 : V.Ok al0) (kd0 : (Lit.int .i64 dd0).wf = true) (kp0 : ∀ p ∈ PL0, I.POk p) (w1 : (Lit.int .u8 a1).wf = true) (w : World) (ki0 : IsPs w sv0 PL0) :
    Calls Try.prog 9 #[DV al0 dd0 mo0 sv0 ow0, .int .u8 a1] w fun e w' => e = .returned (.bool true) ∧ Below w.heap.size w w' := by
  have h1 : 0 ≤ a1 ∧ a1 ≤ 255 := by simpa [Lit.wf, IntKind.min, IntKind.max, IntKind.signed, IntKind.bits] using w1
  obtain ⟨n1, rfl, hn1⟩ : ∃ r : Nat, a1 = (r : Int) ∧ r < 256 := ⟨a1.toNat, by omega, by omega⟩
  clear w1 h1
  have hA0 : V.Ok (T.mark al0 dd0 (true || mo0)).1 := T.mark_ok k0 dd0 _
  have hW0 := I.dealW_whole k0.len dd0 mo0 PL0
  have hO0 := I.dealW_ok true PL0 kp0
  have hN0 := I.dealW_len true PL0
  have CD0 : Hid (∀ u, IsPs u sv0 PL0 → Calls Try.prog 14 #[DV al0 dd0 mo0 sv0 true] u fun e w' => ∃ v', e = .returned (TV (T.mark al0 dd0 (true || mo0)).1 (T.mark al0 dd0 (true || mo0)).2 v') ∧ IsWs w' v' (I.dealW true PL0) ∧ Below u.heap.size u w') := fun u hu => deal_any al0 dd0 mo0 sv0 true PL0 u k0 kd0 hu kp0
  obtain ⟨D0, HD0⟩ : ∃ z, Hid ((T.mark al0 dd0 (true || mo0)).2 = z) := ⟨_, rfl⟩
  obtain ⟨A0, HAA0⟩ : ∃ z, Hid ((T.mark al0 dd0 (true || mo0)).1 = z) := ⟨_, rfl⟩
  obtain ⟨L0, HLL0⟩ : ∃ z, Hid (I.dealW true PL0 = z) := ⟨_, rfl⟩
  rw [HD0.out, HAA0.out, HLL0.out] at CD0
  rw [HAA0.out] at hA0
  rw [HLL0.out] at hO0 hN0
  rw [HD0.out, HAA0.out, HLL0.out] at hW0
  have hP0 : 1 ≤ L0.length := by rw [← HLL0.out]; exact I.dealW_pos PL0
  obtain ⟨a00, a01, a02, a03, rfl⟩ := V.four hA0.len
  obtain ⟨l00, l01, l02, l03, rfl⟩ := V.four k0.len
  have KI0 := Lib.hid ki0
  clear HD0 HAA0 k0 kd0 kp0 ki0
  obtain ⟨i, hi⟩ : ∃ i, i = n1 % L0.length := ⟨_, rfl⟩
  have hil : i < L0.length := by rw [hi]; exact Nat.mod_lt _ (by omega)
  have hrt := (I.whole_some hW0).1
  have hOx : I.Ok (L0.getD i I.none_) := hO0 _ (by rw [List.getD_eq_getElem?_getD, List.getElem?_eq_getElem hil]; exact List.getElem_mem _)
  obtain ⟨x, HX⟩ : ∃ z, Hid (L0.getD i I.none_ = z) := ⟨_, rfl⟩
  rw [HX.out] at hOx
  obtain ⟨xb, xk, xv, xg⟩ := x
  have hkz : xk.size ≤ 140737488355328 := hOx.k
  obtain ⟨zk, HZK⟩ : ∃ z, Hid (xk ++ ⟨#[122]⟩ = z) := ⟨_, rfl⟩
  have hzs : zk.size = xk.size + 1 := by rw [← HZK.out, ByteArray.size_append]; rfl
  have hne : L0 ≠ L0.set i (xb, zk, xv, xg) := set_ne L0 i hil _ (by
    rw [HX.out]
    intro e
    simp only [Prod.mk.injEq, true_and, and_true] at e
    rw [e] at hzs
    omega)
  have htk : L0 ≠ L0.take (L0.length - 1) := fun e => by
    have := congrArg List.length e
    rw [List.length_take] at this
    omega
  have hst : T.same [a00, a01, a02, a03] D0 V.zeros 0 = false := by
    by_cases h : T.same [a00, a01, a02, a03] D0 V.zeros 0 = true
    · exfalso
      unfold T.same at h
      simp only [Bool.and_eq_true, decide_eq_true_eq] at h
      rw [h.1, h.2] at hrt
      exact absurd hrt (by decide)
    · simpa using h
  have CE : Hid (∀ u v v', IsWs u v L0 → IsWs u v' L0 → Calls Try.prog 24 #[TV [a00, a01, a02, a03] D0 v, TV [a00, a01, a02, a03] D0 v'] u fun e w' => e = .returned (.bool true) ∧ Below u.heap.size u w') := fun u v v' hv hv' => by
    have := same_any [a00, a01, a02, a03] D0 v L0 [a00, a01, a02, a03] D0 v' L0 u rfl rfl hv hv'
    rw [show I.same [a00, a01, a02, a03] D0 L0 [a00, a01, a02, a03] D0 L0 = true by unfold I.same T.same; simp] at this
    exact this
  have CE2 : Hid (∀ u v v', IsWs u v L0 → IsWs u v' (L0.set i (xb, zk, xv, xg)) → Calls Try.prog 24 #[TV [a00, a01, a02, a03] D0 v, TV [a00, a01, a02, a03] D0 v'] u fun e w' => e = .returned (.bool false) ∧ Below u.heap.size u w') := fun u v v' hv hv' => by
    have := same_any [a00, a01, a02, a03] D0 v L0 [a00, a01, a02, a03] D0 v' _ u rfl rfl hv hv'
    rw [show I.same [a00, a01, a02, a03] D0 L0 [a00, a01, a02, a03] D0 (L0.set i (xb, zk, xv, xg)) = false by unfold I.same; rw [decide_eq_false hne, Bool.and_false]] at this
    exact this
  have CE3 : Hid (∀ u v v', IsWs u v L0 → IsWs u v' (L0.take (L0.length - 1)) → Calls Try.prog 24 #[TV [a00, a01, a02, a03] D0 v, TV [a00, a01, a02, a03] D0 v'] u fun e w' => e = .returned (.bool false) ∧ Below u.heap.size u w') := fun u v v' hv hv' => by
    have := same_any [a00, a01, a02, a03] D0 v L0 [a00, a01, a02, a03] D0 v' _ u rfl rfl hv hv'
    rw [show I.same [a00, a01, a02, a03] D0 L0 [a00, a01, a02, a03] D0 (L0.take (L0.length - 1)) = false by unfold I.same; rw [decide_eq_false htk, Bool.and_false]] at this
    exact this
  have CE4 : Hid (∀ u v v', IsWs u v L0 → IsWs u v' L0 → Calls Try.prog 24 #[TV [a00, a01, a02, a03] D0 v, TV [0, 0, 0, 0] 0 v'] u fun e w' => e = .returned (.bool false) ∧ Below u.heap.size u w') := fun u v v' hv hv' => by
    have := same_any [a00, a01, a02, a03] D0 v L0 [0, 0, 0, 0] 0 v' _ u rfl rfl hv hv'
    rw [show I.same [a00, a01, a02, a03] D0 L0 [0, 0, 0, 0] 0 L0 = false by unfold I.same; rw [show T.same [a00, a01, a02, a03] D0 [0, 0, 0, 0] 0 = false from hst, Bool.false_and]] at this
    exact this
  have CE5 : Hid (∀ u, Calls Try.prog 24 #[.agg #[.int .u64 0, .int .u64 0, .int .u64 0, .int .u64 0, .int .i64 0, .slice none 0 0], .agg #[.int .u64 0, .int .u64 0, .int .u64 0, .int .u64 0, .int .i64 0, .slice none 0 0]] u fun e w' => e = .returned (.bool true) ∧ Below u.heap.size u w') := fun u => by
    have := same_any [0, 0, 0, 0] 0 (.slice none 0 0) [] [0, 0, 0, 0] 0 (.slice none 0 0) [] u rfl rfl (IsWs.nil u) (IsWs.nil u)
    rw [show I.same [0, 0, 0, 0] 0 [] [0, 0, 0, 0] 0 [] = true by decide +kernel] at this
    exact this
  obtain ⟨m, HM⟩ : ∃ z, Hid (L0.length = z) := ⟨_, rfl⟩
  rw [HM.out] at hi hil hP0 hN0 CE3
  have t1 : Hid ((n1 : Int).tmod (m : Int) = (i : Int) ∧ (n1 : Int) % (m : Int) = (i : Int)) := ⟨by rw [Int.tmod_eq_emod_of_nonneg (by omega), hi]; rfl, by rw [hi]; rfl⟩
  have wi1 : Hid (IntKind.i64.wrap (n1 : Int) = (n1 : Int) ∧ IntKind.i64.wrap (i : Int) = (i : Int)) := ⟨wrapi (by omega) (by omega), wrapi (by omega) (by omega)⟩
  have ws1 : Hid (IntKind.i64.wrap ((m : Int) - 1) = ((m - 1 : Nat) : Int)) := by show _ = _; rw [wrapi (by omega) (by omega)]; omega
  have hm0 : Hid (¬ ((m : Int) = 0) ∧ ((m : Int) == 0) = false) := ⟨by omega, by rw [beq_eq_false_iff_ne]; omega⟩
  have hcz : Hid (xk.size + (⟨#[122]⟩ : ByteArray).size ≤ 9223372036854775807) := by show xk.size + 1 ≤ _; omega
  clear hi hn1 hrt hOx hkz hzs hne htk hst hA0 hW0 hO0
  go_enter Try.func9, Try.ntmps9
  have W0 : Hid (Below w.heap.size w w) := Below.refl _ _
  go_wp2_with (first | refine blk_box rfl 35 _ rfl [.int .u64 (l00 : Int), .int .u64 (l01 : Int), .int .u64 (l02 : Int), .int .u64 (l03 : Int), .int .i64 dd0, .bool mo0, sv0, .bool ow0] rfl ?_)
  intro k1 A1 B1 Z1
  have hb1 : Below w.heap.size w k1 := B1
  have HX1_ : Hid (Blk k1 (w.heap.size) [.int .u64 (l00 : Int), .int .u64 (l01 : Int), .int .u64 (l02 : Int), .int .u64 (l03 : Int), .int .i64 dd0, .bool mo0, sv0, .bool ow0]) := A1
  have LX1_ : Hid (w.heap.size < k1.heap.size) := by show _ < _; omega
  have W1 : Hid (Below w.heap.size w k1) := Below.trans W0.out (hb1.mono W0.out.size)
  have HX1 := HX1_
  have LX1 := LX1_
  clear hb1 A1 B1 Z1 W0 HX1_ LX1_
  go_wp2_with fail
  refine (examples_any _).mono ?_; rintro e k2 ⟨rfl, hb2⟩
  have HX2 : Hid (Blk k2 (w.heap.size) [.int .u64 (l00 : Int), .int .u64 (l01 : Int), .int .u64 (l02 : Int), .int .u64 (l03 : Int), .int .i64 dd0, .bool mo0, sv0, .bool ow0]) := Blk.below HX1.out hb2 LX1.out
  have LX2 : Hid (w.heap.size < k2.heap.size) := Nat.lt_of_lt_of_le LX1.out hb2.size
  have W2 : Hid (Below w.heap.size w k2) := Below.trans W1.out (hb2.mono W1.out.size)
  clear hb2 HX1 LX1 W1 
  have cf3 := HX2.out.cell 7 _ rfl
  have ff3 := HX2.out.free 7 (by simp)
  have U3 : Upd (w.heap.size) k2 (k2.setCell ⟨w.heap.size, 7, none⟩ (.bool true)) := Upd.setCell _ _ _ _
  have A3 : Blk (k2.setCell ⟨w.heap.size, 7, none⟩ (.bool true)) (w.heap.size) [.int .u64 (l00 : Int), .int .u64 (l01 : Int), .int .u64 (l02 : Int), .int .u64 (l03 : Int), .int .i64 dd0, .bool mo0, sv0, .bool true] := Blk.setc HX2.out 7 (by simp) (.bool true)
  have HX3 : Hid (Blk (k2.setCell ⟨w.heap.size, 7, none⟩ (.bool true)) (w.heap.size) [.int .u64 (l00 : Int), .int .u64 (l01 : Int), .int .u64 (l02 : Int), .int .u64 (l03 : Int), .int .i64 dd0, .bool mo0, sv0, .bool true]) := A3
  have LX3 : Hid (w.heap.size < (k2.setCell ⟨w.heap.size, 7, none⟩ (.bool true)).heap.size) := by show _ < _; rw [U3.size]; exact LX2.out
  have W3 : Hid (Below w.heap.size w (k2.setCell ⟨w.heap.size, 7, none⟩ (.bool true))) := Below.trans W2.out (U3.below (by omega))
  clear A3 U3 HX2 LX2 W2
  go_wp2_with (first | refine blk_load rfl 35 _ rfl (w.heap.size) rfl [.int .u64 (l00 : Int), .int .u64 (l01 : Int), .int .u64 (l02 : Int), .int .u64 (l03 : Int), .int .i64 dd0, .bool mo0, sv0, .bool true] HX3.out _ Try.underlying35 rfl Try.size_dl ?_)
  refine (CD0.out _ (IsPs.below KI0.out W3.out)).mono ?_; rintro e k4 ⟨v, rfl, hi, hb4⟩
  have HX4 : Hid (Blk k4 (w.heap.size) [.int .u64 (l00 : Int), .int .u64 (l01 : Int), .int .u64 (l02 : Int), .int .u64 (l03 : Int), .int .i64 dd0, .bool mo0, sv0, .bool true]) := Blk.below HX3.out hb4 LX3.out
  have LX4 : Hid (w.heap.size < k4.heap.size) := Nat.lt_of_lt_of_le LX3.out hb4.size
  have W4 : Hid (Below w.heap.size w k4) := Below.trans W3.out (hb4.mono W3.out.size)
  clear hb4 HX3 LX3 W3 
  obtain ⟨s0, c0, ev, _⟩ := hi.is
  subst ev
  have XV04 := Lib.hid hi
  clear hi
  go_wp2_with (first | refine blk_alloc rfl 43 (ks .u64 [0, 0, 0, 0] ++ [Value.int .i64 0, .slice none 0 0]) rfl Try.info_itx ?_)
  intro k5 A5 B5 Z5
  go_wp2_with (first | refine blk_store rfl 43 _ _ rfl (k4.heap.size) rfl [Value.int .u64 (a00 : Int), .int .u64 (a01 : Int), .int .u64 (a02 : Int), .int .u64 (a03 : Int), .int .i64 D0, .slice s0 L0.length c0] rfl _ A5 rfl Try.size_itx rfl ?_)
  intro k6 A6 U6
  have hb6 : Below k4.heap.size k4 k6 := B5.trans (U6.below (Nat.le_refl _))
  have HA6_ : Hid (Blk k6 (k4.heap.size) [Value.int .u64 (a00 : Int), .int .u64 (a01 : Int), .int .u64 (a02 : Int), .int .u64 (a03 : Int), .int .i64 D0, .slice s0 L0.length c0]) := A6
  have LA6_ : Hid (k4.heap.size < k6.heap.size) := by show _ < _; rw [U6.size]; omega
  have HX6 : Hid (Blk k6 (w.heap.size) [.int .u64 (l00 : Int), .int .u64 (l01 : Int), .int .u64 (l02 : Int), .int .u64 (l03 : Int), .int .i64 dd0, .bool mo0, sv0, .bool true]) := Blk.below HX4.out hb6 LX4.out
  have LX6 : Hid (w.heap.size < k6.heap.size) := Nat.lt_of_lt_of_le LX4.out hb6.size
  have XV06 := Lib.hid (IsWs.below XV04.out hb6)
  have W6 : Hid (Below w.heap.size w k6) := Below.trans W4.out (hb6.mono W4.out.size)
  have HA6 := HA6_
  have LA6 := LA6_
  clear hb6 A5 B5 Z5 A6 U6 HA6_ LA6_ HX4 LX4 XV04 W4
  have HA : Hid (Blk k6 (k4.heap.size) [Value.int .u64 (a00 : Int), .int .u64 (a01 : Int), .int .u64 (a02 : Int), .int .u64 (a03 : Int), .int .i64 D0, .slice s0 L0.length c0]) := HA6
  have LA : Hid (k4.heap.size < k6.heap.size) := LA6
  have XA : Hid (IsWs k6 (.slice s0 L0.length c0) L0) := XV06
  have WK : Hid (Below w.heap.size w k6) := W6
  rw [HM.out] at HA XA
  rw [HM.out]
  have KSa : Hid (∀ u, Below k6.heap.size k6 u → u.rangeAt (k4.heap.size) 0 [Value.int .u64 (a00 : Int), .int .u64 (a01 : Int), .int .u64 (a02 : Int), .int .u64 (a03 : Int), .int .i64 D0]) := fun u hu j v hv => (Blk.below HA.out (hu) LA.out).1 j v (by have : j < 5 := (List.getElem?_eq_some_iff.1 hv).1; match j, this with | 0, _ => exact hv | 1, _ => exact hv | 2, _ => exact hv | 3, _ => exact hv | 4, _ => exact hv)
  have K5a : Hid (∀ u, Below k6.heap.size k6 u → u.cell? ⟨k4.heap.size, 5, none⟩ = some (.slice s0 m c0)) := fun u hu => (Blk.below HA.out (hu) LA.out).cell 5 _ rfl
  have KIa : Hid (∀ u, Below k6.heap.size k6 u → IsWs u (.slice s0 m c0) L0) := fun u hu => IsWs.below XA.out hu
  have hne1 : 1 ≤ L0.length := by rw [HM.out]; exact hP0
  have hle1 : L0.length ≤ 1000 := by rw [HM.out]; omega
  go_wp2_with fail
  refine region_relt 7 [Spc.eq (.pointer (some ⟨k4.heap.size, 0, none⟩)), Spc.eq (.agg [Value.int .u64 (a00 : Int), .int .u64 (a01 : Int), .int .u64 (a02 : Int), .int .u64 (a03 : Int), .int .i64 D0].toArray), Spc.eq (.pointer (some ⟨k4.heap.size, 5, none⟩)), Spc.eq (.slice s0 m c0), Spc.ow 23 k6.heap.size L0, Spc.tx 23 k6.heap.size [a00, a01, a02, a03] D0 L0, Spc.row k6.heap.size 43 (ks .u64 [0, 0, 0, 0] ++ [Value.int .i64 0, .slice none 0 0])] Try.mixed (by kernel_rfl) ?_
  refine r_value rfl (fun u hu hn => by go_simp) (fun K hK => ?_)
  go_simp
  refine hK _ ?_
  clear hK K
  refine r_blk_load rfl 30 _ rfl (k4.heap.size) 0 rfl (by intro u hu hn; exact KSa.out u hu) _ Try.underlying30 rfl Try.size_s (fun K hK => ?_)
  go_simp
  refine hK _ ?_
  clear hK K
  refine r_value rfl (fun u hu hn => by go_simp) (fun K hK => ?_)
  go_simp
  refine hK _ ?_
  clear hK K
  refine r_value rfl (fun u hu hn => by have hc := K5a.out u hu; go_simp) (fun K hK => ?_)
  go_simp
  refine hK _ ?_
  clear hK K
  refine r_append0 rfl _ _ rfl rfl s0 m c0 rfl (by intro u hu; exact KIa.out u hu) hne1 hle1 (fun u hu => hu.size) (fun v hv K hK => ?_)
  obtain ⟨e1, f1, rfl⟩ := hv
  go_simp
  refine hK _ ?_
  clear hK K
  refine r_fact rfl (TV [a00, a01, a02, a03] D0 (.slice e1 L0.length f1)) ⟨_, _, rfl⟩ (fun u hu hn => ⟨by unfold TV ks; go_simp, ⟨_, rfl, hn.get 4 0 rfl rfl _ rfl⟩⟩) (fun v hv K hK => ?_)
  obtain ⟨e2, f2, rfl⟩ := hv
  go_simp
  refine hK _ ?_
  clear hK K
  refine r_newr rfl 43 rfl Try.info_itx (fun u hu => hu.size) (fun v hv K hK => ?_)
  obtain ⟨b3, rfl⟩ := hv
  go_simp
  refine hK _ ?_
  clear hK K
  refine r_nil ?_
  intro u hu hF
  obtain ⟨b4, eb, hB, hrow⟩ := hF 0 _ rfl
  obtain rfl : b3 = b4 := by injection eb with h; injection h with h; injection h
  obtain ⟨v', ev, hO⟩ := hF 1 _ rfl
  obtain rfl := tv_inj ev
  have hblk := Blk.of_row hrow
  have hlt : b3 < u.heap.size := by
    rcases Nat.lt_or_ge b3 u.heap.size with h | h
    · exact h
    · rw [Array.getElem?_eq_none h] at hrow; cases hrow
  have HNE := Lib.hid (OW.ne_row hO hrow (by decide))
  obtain ⟨g, cg, cur, hgv, hgB, _⟩ := OW.some hO hne1
  simp only [Value.slice.injEq, true_and] at hgv
  obtain ⟨rfl, rfl⟩ := hgv
  have hgb : g ≠ b3 := HNE.out g 0 _ _ rfl
  rw [HM.out] at hO
  rw [HM.out]
  refine blk_store rfl 43 _ _ rfl b3 rfl [Value.int .u64 (a00 : Int), .int .u64 (a01 : Int), .int .u64 (a02 : Int), .int .u64 (a03 : Int), .int .i64 D0, .slice (some ⟨g, 0, none⟩) m f2] rfl _ hblk rfl Try.size_itx rfl ?_
  intro k60 A60 U60
  have BK : Hid (Below k6.heap.size k6 k60) := hu.trans (U60.below hB)
  have HQ : Hid (Blk k60 b3 [Value.int .u64 (a00 : Int), .int .u64 (a01 : Int), .int .u64 (a02 : Int), .int .u64 (a03 : Int), .int .i64 D0, .slice (some ⟨g, 0, none⟩) m f2]) := A60
  have LQ : Hid (b3 < k60.heap.size) := by show _ < _; rw [U60.size]; exact hlt
  have XQ : Hid (OW 23 k60 k6.heap.size (.slice (some ⟨g, 0, none⟩) m f2) L0) := OW.far hO U60 (fun g2 o2 n2 c2 e9 => by simp only [Value.slice.injEq, Option.some.injEq, Addr.mk.injEq] at e9; omega)
  clear hu hF eb hrow ev hO hblk hlt HNE A60 U60 KSa K5a KIa
  have HA1 := Lib.hid (Blk.below HA.out BK.out LA.out)
  go_wp2_with (first | refine blk_load rfl 43 _ rfl (k4.heap.size) rfl [Value.int .u64 (a00 : Int), .int .u64 (a01 : Int), .int .u64 (a02 : Int), .int .u64 (a03 : Int), .int .i64 D0, .slice s0 m c0] HA1.out _ Try.underlying43 rfl Try.size_itx ?_ | refine blk_load rfl 43 _ rfl b3 rfl [Value.int .u64 (a00 : Int), .int .u64 (a01 : Int), .int .u64 (a02 : Int), .int .u64 (a03 : Int), .int .i64 D0, .slice (some ⟨g, 0, none⟩) m f2] HQ.out _ Try.underlying43 rfl Try.size_itx ?_)
  refine (CE.out _ _ _ (IsWs.below XA.out BK.out) (OW.is XQ.out)).mono ?_; rintro e k61 ⟨rfl, hb⟩
  have BK1 : Hid (Below k6.heap.size k6 k61) := Below.trans BK.out (hb.mono BK.out.size)
  have HQ1 := Lib.hid (Blk.below HQ.out hb LQ.out)
  have LQ1 : Hid (b3 < k61.heap.size) := Nat.lt_of_lt_of_le LQ.out hb.size
  have XQ1 := Lib.hid (OW.below XQ.out hb)
  clear hb BK HQ LQ XQ HA1
  have c5 := HQ1.out.cell 5 _ rfl
  have x1 := t1.out.1
  have x2 := t1.out.2
  have x3 := wi1.out.1
  have x4 := wi1.out.2
  have x5 := hm0.out.1
  have x6 := hm0.out.2
  obtain ⟨g9, c9, cur, hgv, hgB, hgrow⟩ := OW.some XQ1.out hne1
  simp only [Value.slice.injEq, Option.some.injEq, Addr.mk.injEq, and_true, true_and] at hgv
  obtain ⟨rfl, hgm, rfl⟩ := hgv
  clear hgm
  obtain ⟨g8, o8, c8, hgv, hg8, hrow8⟩ := IsWs.at (OW.is XQ1.out) i (by rw [HM.out]; exact hil)
  simp only [Value.slice.injEq, Option.some.injEq, Addr.mk.injEq, and_true] at hgv
  obtain ⟨⟨rfl, rfl⟩, hgm, rfl⟩ := hgv
  clear hgm
  rw [HX.out] at hrow8
  have KQ5 : Hid (∀ u, Below k61.heap.size k61 u → u.cell? ⟨b3, 5, none⟩ = some (.slice (some ⟨g, 0, none⟩) m f2)) := fun u hu => (Blk.below HQ1.out hu LQ1.out).cell 5 _ rfl
  have KK : Hid (∀ u, Below k61.heap.size k61 u → u.cell? ⟨g, 4 * i + 1, none⟩ = some (.string xk)) := fun u hu => by rw [hu.cell (p := ⟨g, 4 * i + 1, none⟩) hg8]; have := hrow8 1 _ rfl; rwa [Nat.zero_add] at this
  have KF : Hid (∀ u, Below k61.heap.size k61 u → u.frozen? ⟨g, 4 * i + 1, none⟩ = false) := fun u hu => by rw [hu.frozen (p := ⟨g, 4 * i + 1, none⟩) hg8]; exact frozen_of_row _ _ _ _ _ hgrow
  go_wp2_with fail
  clear c5 x1 x2 x3 x4 x5 x6
  refine region_relt 12 [Spc.eq (.pointer (some ⟨b3, 5, none⟩)), Spc.eq (.slice (some ⟨g, 0, none⟩) m f2), Spc.eq (.int .i64 (i : Int)), Spc.eq (.pointer (some ⟨b3, 5, none⟩)), Spc.eq (.slice (some ⟨g, 0, none⟩) m f2), Spc.eq (.int .i64 (i : Int)), Spc.eq (.pointer (some ⟨g, 4 * i, none⟩)), Spc.eq (.pointer (some ⟨g, 4 * i + 1, none⟩)), Spc.eq (.string xk), Spc.eq (.string zk), Spc.eq (.pointer (some ⟨g, 4 * i, none⟩)), Spc.eq (.pointer (some ⟨g, 4 * i + 1, none⟩))] Try.mixed (by kernel_rfl) ?_
  refine r_value rfl (fun u hu hn => by go_simp) (fun K hK => ?_)
  go_simp
  refine hK _ ?_
  clear hK K
  refine r_value rfl (fun u hu hn => by have hc := KQ5.out u hu; go_simp) (fun K hK => ?_)
  go_simp
  refine hK _ ?_
  clear hK K
  refine r_move rfl _ rfl rfl (fun K hK => ?_)
  go_simp
  refine hK _ ?_
  clear hK K
  refine r_value rfl (fun u hu hn => by go_simp) (fun K hK => ?_)
  go_simp
  refine hK _ ?_
  clear hK K
  refine r_value rfl (fun u hu hn => by have hc := KQ5.out u hu; go_simp) (fun K hK => ?_)
  go_simp
  refine hK _ ?_
  clear hK K
  refine r_move rfl _ rfl rfl (fun K hK => ?_)
  go_simp
  refine hK _ ?_
  clear hK K
  refine r_value rfl (fun u hu hn => by have hc := index_iw g 0 m f2 i hil u; rw [Nat.zero_add] at hc; go_simp) (fun K hK => ?_)
  go_simp
  refine hK _ ?_
  clear hK K
  refine r_value rfl (fun u hu hn => by go_simp) (fun K hK => ?_)
  go_simp
  refine hK _ ?_
  clear hK K
  refine r_value rfl (fun u hu hn => by have hc := KK.out u hu; go_simp) (fun K hK => ?_)
  go_simp
  refine hK _ ?_
  clear hK K
  refine rg_concat (wanted_none rfl) _ _ _ _ rfl xk ⟨#[122]⟩ rfl rfl hcz.out HZK.out (fun K hK => ?_)
  go_simp
  refine hK _ ?_
  clear hK K
  refine r_value rfl (fun u hu hn => by have hc := index_iw g 0 m f2 i hil u; rw [Nat.zero_add] at hc; go_simp) (fun K hK => ?_)
  go_simp
  refine hK _ ?_
  clear hK K
  refine r_value rfl (fun u hu hn => by go_simp) (fun K hK => ?_)
  go_simp
  refine hK _ ?_
  clear hK K
  refine r_nil ?_
  intro u hu _
  have q1 := KK.out u hu
  have q2 := KF.out u hu
  have U62 : Upd g u (u.setCell ⟨g, 4 * i + 1, none⟩ (.string zk)) := Upd.setCell _ _ _ _
  have BK2 : Hid (Below k6.heap.size k6 (u.setCell ⟨g, 4 * i + 1, none⟩ (.string zk))) := (Below.trans BK1.out (hu.mono BK1.out.size)).trans (U62.below hgB)
  have HQ2 : Hid (Blk (u.setCell ⟨g, 4 * i + 1, none⟩ (.string zk)) b3 [Value.int .u64 (a00 : Int), .int .u64 (a01 : Int), .int .u64 (a02 : Int), .int .u64 (a03 : Int), .int .i64 D0, .slice (some ⟨g, 0, none⟩) m f2]) := Blk.upd (Blk.below HQ1.out hu LQ1.out) U62 (fun h => hgb h.symm)
  have XI : IsWs u (.slice (some ⟨g, 0, none⟩) L0.length f2) L0 := by rw [HM.out]; exact OW.is (OW.below XQ1.out hu)
  have XQ2 : Hid (IsWs (u.setCell ⟨g, 4 * i + 1, none⟩ (.string zk)) (.slice (some ⟨g, 0, none⟩) m f2) (L0.set i (xb, zk, xv, xg))) := by have := IsWs.setc XI i (by rw [HM.out]; exact hil) 1 (by omega) (xb, zk, xv, xg) (.string zk) (by rw [HX.out]; rfl); rw [HM.out, Nat.zero_add] at this; exact this
  clear hu U62 XI BK1 HQ1 LQ1 XQ1 KQ5 KK KF hgrow hrow8 hg8
  simp only [List.drop]
  have HA2 := Lib.hid (Blk.below HA.out BK2.out LA.out)
  go_wp2_with (first | refine blk_load rfl 43 _ rfl (k4.heap.size) rfl [Value.int .u64 (a00 : Int), .int .u64 (a01 : Int), .int .u64 (a02 : Int), .int .u64 (a03 : Int), .int .i64 D0, .slice s0 m c0] HA2.out _ Try.underlying43 rfl Try.size_itx ?_ | refine blk_load rfl 43 _ rfl b3 rfl [Value.int .u64 (a00 : Int), .int .u64 (a01 : Int), .int .u64 (a02 : Int), .int .u64 (a03 : Int), .int .i64 D0, .slice (some ⟨g, 0, none⟩) m f2] HQ2.out _ Try.underlying43 rfl Try.size_itx ?_)
  refine (CE2.out _ _ _ (IsWs.below XA.out BK2.out) XQ2.out).mono ?_; rintro e k64 ⟨rfl, hb⟩
  have BK3 : Hid (Below k6.heap.size k6 k64) := Below.trans BK2.out (hb.mono BK2.out.size)
  clear hb BK2 HQ2 XQ2 HA2
  have KSb : Hid (∀ u, Below k64.heap.size k64 u → u.rangeAt (k4.heap.size) 0 [Value.int .u64 (a00 : Int), .int .u64 (a01 : Int), .int .u64 (a02 : Int), .int .u64 (a03 : Int), .int .i64 D0]) := fun u hu j v hv => (Blk.below HA.out (Below.trans BK3.out (hu.mono BK3.out.size)) LA.out).1 j v (by have : j < 5 := (List.getElem?_eq_some_iff.1 hv).1; match j, this with | 0, _ => exact hv | 1, _ => exact hv | 2, _ => exact hv | 3, _ => exact hv | 4, _ => exact hv)
  have K5b : Hid (∀ u, Below k64.heap.size k64 u → u.cell? ⟨k4.heap.size, 5, none⟩ = some (.slice s0 m c0)) := fun u hu => (Blk.below HA.out (Below.trans BK3.out (hu.mono BK3.out.size)) LA.out).cell 5 _ rfl
  have hcap : m ≤ c0 := by obtain ⟨_, _, hv, h1, _⟩ := XA.out.is; simp only [Value.slice.injEq] at hv; omega
  go_wp2_with fail
  refine region_relt 11 [Spc.eq (.pointer (some ⟨k4.heap.size, 0, none⟩)), Spc.eq (.agg [Value.int .u64 (a00 : Int), .int .u64 (a01 : Int), .int .u64 (a02 : Int), .int .u64 (a03 : Int), .int .i64 D0].toArray), Spc.eq (.pointer (some ⟨k4.heap.size, 5, none⟩)), Spc.eq (.slice s0 m c0), Spc.eq (.pointer (some ⟨k4.heap.size, 5, none⟩)), Spc.eq (.slice s0 m c0), Spc.eq (.int .i64 (m : Int)), Spc.eq (.int .i64 ((m - 1 : Nat) : Int)), Spc.eq (.slice s0 (m - 1) c0), Spc.eq (.agg [Value.int .u64 (a00 : Int), .int .u64 (a01 : Int), .int .u64 (a02 : Int), .int .u64 (a03 : Int), .int .i64 D0, .slice s0 (m - 1) c0].toArray), Spc.blk k64.heap.size (ks .u64 [0, 0, 0, 0] ++ [Value.int .i64 0, .slice none 0 0])] Try.mixed (by kernel_rfl) ?_
  refine r_value rfl (fun u hu hn => by go_simp) (fun K hK => ?_)
  go_simp
  refine hK _ ?_
  clear hK K
  refine r_blk_load rfl 30 _ rfl (k4.heap.size) 0 rfl (by intro u hu hn; exact KSb.out u hu) _ Try.underlying30 rfl Try.size_s (fun K hK => ?_)
  go_simp
  refine hK _ ?_
  clear hK K
  refine r_value rfl (fun u hu hn => by go_simp) (fun K hK => ?_)
  go_simp
  refine hK _ ?_
  clear hK K
  refine r_value rfl (fun u hu hn => by have hc := K5b.out u hu; go_simp) (fun K hK => ?_)
  go_simp
  refine hK _ ?_
  clear hK K
  refine r_value rfl (fun u hu hn => by go_simp) (fun K hK => ?_)
  go_simp
  refine hK _ ?_
  clear hK K
  refine r_value rfl (fun u hu hn => by have hc := K5b.out u hu; go_simp) (fun K hK => ?_)
  go_simp
  refine hK _ ?_
  clear hK K
  refine r_value rfl (fun u hu hn => by go_simp) (fun K hK => ?_)
  go_simp
  refine hK _ ?_
  clear hK K
  refine r_value rfl (fun u hu hn => by have hc := ws1.out; go_simp) (fun K hK => ?_)
  go_simp
  refine hK _ ?_
  clear hK K
  refine r_value rfl (fun u hu hn => by have h1 := hcap; have h2 : (((m - 1 : Nat) : Int)) ≤ (c0 : Int) := (by omega); go_simp) (fun K hK => ?_)
  go_simp
  refine hK _ ?_
  clear hK K
  refine r_value rfl (fun u hu hn => by go_simp) (fun K hK => ?_)
  go_simp
  refine hK _ ?_
  clear hK K
  refine r_new rfl 43 rfl Try.info_itx (fun u hu => hu.size) (fun v hv K hK => ?_)
  obtain ⟨b5, rfl⟩ := hv
  go_simp
  refine hK _ ?_
  clear hK K
  refine r_nil ?_
  intro u hu hF
  obtain ⟨b6, eb, hB, hlt, hblk⟩ := hF 0 _ rfl
  obtain rfl : b5 = b6 := by injection eb with h; injection h with h; injection h
  refine blk_store rfl 43 _ _ rfl b5 rfl [Value.int .u64 (a00 : Int), .int .u64 (a01 : Int), .int .u64 (a02 : Int), .int .u64 (a03 : Int), .int .i64 D0, .slice s0 (m - 1) c0] rfl _ hblk rfl Try.size_itx rfl ?_
  intro k70 A70 U70
  have BK4 : Hid (Below k6.heap.size k6 k70) := (Below.trans BK3.out (hu.mono BK3.out.size)).trans (U70.below (Nat.le_trans BK3.out.size hB))
  have HC4 : Hid (Blk k70 b5 [Value.int .u64 (a00 : Int), .int .u64 (a01 : Int), .int .u64 (a02 : Int), .int .u64 (a03 : Int), .int .i64 D0, .slice s0 (m - 1) c0]) := A70
  have LC4 : Hid (b5 < k70.heap.size) := by show _ < _; rw [U70.size]; exact hlt
  clear hu hF eb hB hlt hblk A70 U70 KSb K5b BK3
  have HA4 := Lib.hid (Blk.below HA.out BK4.out LA.out)
  have c5 := HA4.out.cell 5 _ rfl
  go_wp2_with (first | refine blk_alloc rfl 43 (ks .u64 [0, 0, 0, 0] ++ [Value.int .i64 0, .slice none 0 0]) rfl Try.info_itx ?_)
  intro k71 A71 B71 Z71
  go_wp2_with (first | refine blk_store rfl 43 _ _ rfl k70.heap.size rfl [Value.int .u64 0, .int .u64 0, .int .u64 0, .int .u64 0, .int .i64 0, .slice s0 m c0] rfl _ A71 rfl Try.size_itx rfl ?_)
  intro k72 A72 U72
  have hb72 : Below k70.heap.size k70 k72 := B71.trans (U72.below (Nat.le_refl _))
  have BK5 : Hid (Below k6.heap.size k6 k72) := Below.trans BK4.out (hb72.mono BK4.out.size)
  have HC5 := Lib.hid (Blk.below HC4.out hb72 LC4.out)
  have LC5 : Hid (b5 < k72.heap.size) := Nat.lt_of_lt_of_le LC4.out hb72.size
  have HD5 : Hid (Blk k72 k70.heap.size [Value.int .u64 0, .int .u64 0, .int .u64 0, .int .u64 0, .int .i64 0, .slice s0 m c0]) := A72
  have LD5 : Hid (k70.heap.size < k72.heap.size) := by show _ < _; rw [U72.size]; omega
  clear c5 HA4 A71 B71 Z71 A72 U72 hb72 BK4 HC4 LC4
  have HA5 := Lib.hid (Blk.below HA.out BK5.out LA.out)
  have cA0 := HA5.out.cell 0 _ rfl
  have cA1 := HA5.out.cell 1 _ rfl
  have cA2 := HA5.out.cell 2 _ rfl
  have cA3 := HA5.out.cell 3 _ rfl
  have cA4 := HA5.out.cell 4 _ rfl
  have cA5 := HA5.out.cell 5 _ rfl
  have cC0 := HC5.out.cell 0 _ rfl
  have cC1 := HC5.out.cell 1 _ rfl
  have cC2 := HC5.out.cell 2 _ rfl
  have cC3 := HC5.out.cell 3 _ rfl
  have cC4 := HC5.out.cell 4 _ rfl
  have cC5 := HC5.out.cell 5 _ rfl
  go_wp2_with fail
  have XC : IsWs k72 (.slice s0 (m - 1) c0) (L0.take (m - 1)) := IsWs.take (IsWs.below XA.out BK5.out) (m - 1) (by rw [HM.out]; omega)
  refine (CE3.out _ _ _ (IsWs.below XA.out BK5.out) XC).mono ?_; rintro e k73 ⟨rfl, hb⟩
  have BK6 : Hid (Below k6.heap.size k6 k73) := Below.trans BK5.out (hb.mono BK5.out.size)
  have HD6 := Lib.hid (Blk.below HD5.out hb LD5.out)
  clear hb XC HA5 HC5 LC5 BK5 HD5 LD5 cA0 cA1 cA2 cA3 cA4 cA5 cC0 cC1 cC2 cC3 cC4 cC5
  have HA6 := Lib.hid (Blk.below HA.out BK6.out LA.out)
  have cA0 := HA6.out.cell 0 _ rfl
  have cA1 := HA6.out.cell 1 _ rfl
  have cA2 := HA6.out.cell 2 _ rfl
  have cA3 := HA6.out.cell 3 _ rfl
  have cA4 := HA6.out.cell 4 _ rfl
  have cA5 := HA6.out.cell 5 _ rfl
  have cD0 := HD6.out.cell 0 _ rfl
  have cD1 := HD6.out.cell 1 _ rfl
  have cD2 := HD6.out.cell 2 _ rfl
  have cD3 := HD6.out.cell 3 _ rfl
  have cD4 := HD6.out.cell 4 _ rfl
  have cD5 := HD6.out.cell 5 _ rfl
  go_wp2_with fail
  refine (CE4.out _ _ _ (IsWs.below XA.out BK6.out) (IsWs.below XA.out BK6.out)).mono ?_; rintro e k74 ⟨rfl, hb⟩
  have BK7 : Hid (Below k6.heap.size k6 k74) := Below.trans BK6.out (hb.mono BK6.out.size)
  clear hb HA6 HD6 BK6 cA0 cA1 cA2 cA3 cA4 cA5 cD0 cD1 cD2 cD3 cD4 cD5
  go_wp2_with fail
  refine (CE5.out _).mono ?_; rintro e k75 ⟨rfl, hb⟩
  have BK8 : Hid (Below k6.heap.size k6 k75) := Below.trans BK7.out (hb.mono BK7.out.size)
  clear hb BK7
  go_wp2_with fail
  go_ret
  exact ⟨rfl, Below.trans WK.out (BK8.out.mono WK.out.size)⟩

set_option maxRecDepth 100000 in
theorem lifted (os : Os) (started : os.Started) (H : Type) (enc : TypeId × Value → H) :
    ReturnsInHanded {} Try.checked os 9 .any (Rows.itemSameSpec.pre6 enc Try.prog Try.f9 Rows.itemSameRow.domain false) (Rows.itemSameSpec.post enc Try.prog Try.f9 false true false false) := by
  refine returnsInHanded_of_change_sized (C := Try.checked) own started (by kernel_rfl) Try.func9
    (ChangeSpec.witness6 (enc := enc) (C := Try.checked) false ⟨#[], #[.agg #[.int .u64 0, .int .u64 0, .int .u64 0, .int .u64 0, .int .i64 0, .bool false, .slice none 0 0, .bool false], .int .u8 0], []⟩ 8 (by kernel_rfl) (by kernel_rfl) (by kernel_rfl) (by kernel_rfl)) ?_
  intro W base args ds gs before hval0 hW hcnd hsz0 _
  have hval : ∀ (j : Nat) t v, Try.f9.params[j]? = some t → args[j]? = some v → Value.okWide Try.prog W .any base t v := hval0
  have hW' := hW
  obtain ⟨p, q, hA0, hV, rfl, hfz, hnd⟩ := hW
  have hA : DataW.TrodAll enc Try.prog W 0 (fun _ => true) true Try.f9.params.toList args.toList ds p := hA0
  have hsz : (DataW.weightsEach Try.prog (Try.f9.params.toList ++ Rows.itemSameSpec.plain.varTypes Try.prog) (ds ++ gs)).all (· ≤ reachBytes) = true := hsz0
  rw [Try.params9] at hA hval hsz
  obtain ⟨rfl, rfl⟩ := trodVars_none hV
  have hAk := hA
  have hlt : ∀ x ∈ p, x.block < W.heap.size := fun x hx => by simpa using hW'.lt x (List.mem_append.2 (.inl hx))
  obtain ⟨v0, vs0, d0, ds0, p0, q0, hargs, rfl, rfl, h0, r0⟩ := trodAll_cons hA
  obtain ⟨v1, vs1, d1, ds1, p1, q1, rfl, rfl, rfl, h1, r1⟩ := trodAll_cons r0
  obtain ⟨rfl, rfl, rfl⟩ := trodAll_nil r1
  obtain rfl : args = #[v0, v1] := by cases args; simp_all
  obtain ⟨al0, dd0, mo0, sv0, PL0, ow0, rfl, k0, kd0, ki0, kp0⟩ := open_deal (hval 0 35 v0 rfl rfl) h0 (Sz.arg hsz (j := 0) rfl rfl)
  obtain ⟨a1, rfl, rfl, rfl, w1⟩ := open_int Try.underlying5 (hval 1 5 v1 rfl rfl) h1
  clear hA0 hval0 hsz0
  refine (walk al0 dd0 mo0 sv0 PL0 ow0 a1 k0 kd0 kp0 w1 W ki0).mono fun e W' ⟨he, hg⟩ => ?_
  subst he
  exact ⟨_, rfl, _, _, _, [], _, [], hW', (trodAll_cons_mk (shut_bool Try.underlying4 _) trodAll_mk0), trodAll_below laidOut hg _ _ _ _ (by kernel_rfl) hAk hlt, rfl, hg.frame _, fun h => by cases h⟩

theorem over : Rows.itemSameRow.holds Try.pinned (OpenSpec.ofChange Rows.itemSameSpec) :=
  OpenClaim.holds_of_wide 9 Try.f9 rfl rfl rfl rfl rfl rfl rfl ⟨rfl, rfl, rfl, rfl, rfl⟩ rfl rfl rfl rfl rfl (by kernel_rfl) Try.func9 (by kernel_rfl)
    (of_decide_eq_true (by kernel_rfl)) (by unfold Func.isWrapper; first | (rw [if_pos (by decide +kernel)]; kernel_rfl) | (rw [if_neg (by decide +kernel)]; exact ⟨rfl, rfl⟩))
    (fun os started H enc _ => lifted os started H enc)

/-- the statement -/
theorem proved : Rows.ItemSameSaid :=
  over
#print axioms proved

end Go.Proofs.Ytkfcbihofipcbaa.itemSame
