/-
  Any bytes, and those of a transaction with a byte another one, or something behind, are the transaction, or none, that the document's own answer tells (the law ItemReads). No conditions.
-/
import Derived.Test.YtkfcbihofipcbaaFrame

import Derived.Test.YtkfcbihofipcbaaItemF

import Derived.Test.YtkfcbihofipcbaaItemWh

import Derived.Test.YtkfcbihofipcbaaItemRC

import Derived.Test.YtkfcbihofipcbaaVecBendN

import Derived.Test.YtkfcbihofipcbaaFramePut

namespace Go.Proofs.Ytkfcbihofipcbaa.itemReads

open Go.ChangeShapes Go.WideShapes Go.ChangeAt Go.RowKit

open Go.ChangeMaps (open_string shut_string)

open Go.Proofs.Ytkfcbihofipcbaa.Vc Go.Proofs.Ytkfcbihofipcbaa.Sp Go.Proofs.Ytkfcbihofipcbaa.It

set_option linter.unusedVariables false

set_option linter.unusedSimpArgs false

theorem Try.size_dl : (Try.prog.info? 35).map (·.size) = some 8 := by kernel_rfl
theorem flat_len (L : List I.Wt) (h : ∀ x ∈ L, I.right x = true) : ((L.map I.enc).flatten).length ≤ 95 * L.length := by
  induction L with
  | nil => simp
  | cons x L ih =>
    rw [List.map_cons, List.flatten_cons, List.length_append, List.length_cons]
    obtain ⟨_, h2, _, h4, h5, _⟩ := I.right_some (h x (List.mem_cons_self ..))
    have h1 := enc_size x h2 h4 h5
    rw [P.S_size] at h1
    have := ih (fun y hy => h y (List.mem_cons_of_mem _ hy))
    omega
theorem bytes_len {a : List Nat} {d : Int} {L : List I.Wt} (ha : a.length = 4) (h : I.whole a d L = true) : 1 ≤ (I.bytesS a d L).size ∧ (I.bytesS a d L).size ≤ 1000 := by
  obtain ⟨_, _, h8, _⟩ := I.whole_some h
  have hf := flat_len L (I.whole_each h)
  have hp := T.vput_len ha
  unfold I.bytesS
  rw [if_pos h, P.S_size, I.bytes, List.length_append, List.length_append, T.put, List.length_append, P.numB_length, P.numB_length]
  omega
theorem read_ok (s : ByteArray) : (I.read s).1.length = 4 := by
  rcases I.read_cases s with ⟨a, d, L, h⟩ | h
  · rw [h]; exact (I.read_some h).2.2.len
  · rw [h]; rfl
theorem read_few (s : ByteArray) : (I.read s).2.2.1.length ≤ 8 := by
  rcases I.read_cases s with ⟨a, d, L, h⟩ | h
  · rw [h]; obtain ⟨_, _, h8, _⟩ := I.whole_some (I.read_some h).1; exact h8
  · rw [h]; exact Nat.zero_le _
set_option maxHeartbeats 32000000 in
set_option maxRecDepth 100000 in
theorem walk (al0 : List Nat) (dd0 : Int) (mo0 : Bool) (sv0 : Value) (PL0 : List I.Pt) (ow0 : Bool) (a1 : ByteArray) (a2 : Int) (a3 : Int) (a4 : Int) (k0 : V.Ok al0) (kd0 : (Lit.int .i64 dd0).wf = true) (kp0 : ∀ p ∈ PL0, I.POk p) (z1 : a1.size ≤ 140737488351232) (w2 : (Lit.int .u8 a2).wf = true) (w3 : (Lit.int .i64 a3).wf = true) (w4 : (Lit.int .u8 a4).wf = true) (w : World) (ki0 : IsPs w sv0 PL0) :
    Calls Try.prog 5 #[DV al0 dd0 mo0 sv0 ow0, .string a1, .int .u8 a2, .int .i64 a3, .int .u8 a4] w fun e w' => e = .returned (.bool true) ∧ Below w.heap.size w w' := by
  have h2 : 0 ≤ a2 ∧ a2 ≤ 255 := by simpa [Lit.wf, IntKind.min, IntKind.max, IntKind.signed, IntKind.bits] using w2
  have h3 : -9223372036854775808 ≤ a3 ∧ a3 ≤ 9223372036854775807 := by simpa [Lit.wf, IntKind.min, IntKind.max, IntKind.signed, IntKind.bits] using w3
  have h4 : 0 ≤ a4 ∧ a4 ≤ 255 := by simpa [Lit.wf, IntKind.min, IntKind.max, IntKind.signed, IntKind.bits] using w4
  obtain ⟨n2, rfl, hn2⟩ : ∃ r : Nat, a2 = (r : Int) ∧ r < 256 := ⟨a2.toNat, by omega, by omega⟩
  have hA0 : V.Ok (T.mark al0 dd0 (true || mo0)).1 := T.mark_ok k0 dd0 _
  have hW0 := I.dealW_whole k0.len dd0 mo0 PL0
  have hO0 := I.dealW_ok true PL0 kp0
  have hN0 := I.dealW_len true PL0
  have CD0 : Hid (∀ u, IsPs u sv0 PL0 → Calls Try.prog 14 #[DV al0 dd0 mo0 sv0 true] u fun e w' => ∃ v', e = .returned (TV (T.mark al0 dd0 (true || mo0)).1 (T.mark al0 dd0 (true || mo0)).2 v') ∧ IsWs w' v' (I.dealW true PL0) ∧ Below u.heap.size u w') := fun u hu => deal_any al0 dd0 mo0 sv0 true PL0 u k0 kd0 hu kp0
  obtain ⟨D0, HD0⟩ : ∃ z, Hid ((T.mark al0 dd0 (true || mo0)).2 = z) := ⟨_, rfl⟩
  obtain ⟨A0, HAA0⟩ : ∃ z, Hid ((T.mark al0 dd0 (true || mo0)).1 = z) := ⟨_, rfl⟩
  obtain ⟨L0, HLL0⟩ : ∃ z, Hid (I.dealW true PL0 = z) := ⟨_, rfl⟩
  rw [HD0.out, HAA0.out, HLL0.out] at CD0
  rw [HAA0.out] at hA0
  rw [HLL0.out] at hO0 hN0
  rw [HD0.out, HAA0.out, HLL0.out] at hW0
  have hP0 : 1 ≤ L0.length := by rw [← HLL0.out]; exact I.dealW_pos PL0
  obtain ⟨a00, a01, a02, a03, rfl⟩ := V.four hA0.len
  obtain ⟨l00, l01, l02, l03, rfl⟩ := V.four k0.len
  have KI0 := Lib.hid ki0
  clear HD0 HAA0 k0 kd0 kp0 ki0
  obtain ⟨hz0, hy0⟩ := bytes_len hA0.len hW0
  have hn6 : L0.length < 1000000 := by omega
  have CB : Hid (∀ u v, IsWs u v L0 → Calls Try.prog 16 #[TV [a00, a01, a02, a03] D0 v] u fun e w' => e = .returned (.tuple #[.string (I.bytesS [a00, a01, a02, a03] D0 L0), .bool true]) ∧ Below u.heap.size u w') := fun u v hv => by
    have := ref_bytes [a00, a01, a02, a03] D0 v L0 u hA0 hv
    rw [hW0] at this
    exact this
  have CT : Hid (∀ u v, IsWs u v L0 → Calls Try.prog 17 #[TV [a00, a01, a02, a03] D0 v] u fun e w' => ∃ v', e = .returned (TV [a00, a01, a02, a03] D0 v') ∧ OW 38 w' u.heap.size v' L0 ∧ Below u.heap.size u w') := fun u v hv => reftxn_any [a00, a01, a02, a03] D0 v L0 u rfl hv hn6
  obtain ⟨B0, HB0⟩ : ∃ z, Hid (I.bytesS [a00, a01, a02, a03] D0 L0 = z) := ⟨_, rfl⟩
  rw [HB0.out] at CB hz0 hy0
  clear hA0 hW0 hO0 hN0 hP0 HB0 hn6
  obtain ⟨r, hr⟩ : ∃ r, r = n2 % 4 := ⟨_, rfl⟩
  have hr4 : r < 4 := by omega
  have t2 : (n2 : Int).tmod 4 = (r : Int) := by rw [Int.tmod_eq_emod_of_nonneg (by omega)]; omega
  have m2 : (n2 : Int) % 4 = (r : Int) := by omega
  have u2 : IntKind.u8.wrap (r : Int) = (r : Int) := by simp [IntKind.wrap, IntKind.bits, IntKind.signed]; omega
  clear hr hn2 h2 w2
  go_enter Try.func5, Try.ntmps5
  have W0 : Hid (Below w.heap.size w w) := Below.refl _ _
  go_wp2_with (first | refine blk_box rfl 35 _ rfl [.int .u64 (l00 : Int), .int .u64 (l01 : Int), .int .u64 (l02 : Int), .int .u64 (l03 : Int), .int .i64 dd0, .bool mo0, sv0, .bool ow0] rfl ?_)
  intro k1 A1 B1 Z1
  have hb1 : Below w.heap.size w k1 := B1
  have HX1_ : Hid (Blk k1 (w.heap.size) [.int .u64 (l00 : Int), .int .u64 (l01 : Int), .int .u64 (l02 : Int), .int .u64 (l03 : Int), .int .i64 dd0, .bool mo0, sv0, .bool ow0]) := A1
  have LX1_ : Hid (w.heap.size < k1.heap.size) := by show _ < _; omega
  have W1 : Hid (Below w.heap.size w k1) := Below.trans W0.out (hb1.mono W0.out.size)
  have HX1 := HX1_
  have LX1 := LX1_
  clear hb1 A1 B1 Z1 W0 HX1_ LX1_
  go_wp2_with fail
  refine (examples_any _).mono ?_; rintro e k2 ⟨rfl, hb2⟩
  have HX2 : Hid (Blk k2 (w.heap.size) [.int .u64 (l00 : Int), .int .u64 (l01 : Int), .int .u64 (l02 : Int), .int .u64 (l03 : Int), .int .i64 dd0, .bool mo0, sv0, .bool ow0]) := Blk.below HX1.out hb2 LX1.out
  have LX2 : Hid (w.heap.size < k2.heap.size) := Nat.lt_of_lt_of_le LX1.out hb2.size
  have W2 : Hid (Below w.heap.size w k2) := Below.trans W1.out (hb2.mono W1.out.size)
  clear hb2 HX1 LX1 W1 
  have cf3 := HX2.out.cell 7 _ rfl
  have ff3 := HX2.out.free 7 (by simp)
  have U3 : Upd (w.heap.size) k2 (k2.setCell ⟨w.heap.size, 7, none⟩ (.bool true)) := Upd.setCell _ _ _ _
  have A3 : Blk (k2.setCell ⟨w.heap.size, 7, none⟩ (.bool true)) (w.heap.size) [.int .u64 (l00 : Int), .int .u64 (l01 : Int), .int .u64 (l02 : Int), .int .u64 (l03 : Int), .int .i64 dd0, .bool mo0, sv0, .bool true] := Blk.setc HX2.out 7 (by simp) (.bool true)
  have HX3 : Hid (Blk (k2.setCell ⟨w.heap.size, 7, none⟩ (.bool true)) (w.heap.size) [.int .u64 (l00 : Int), .int .u64 (l01 : Int), .int .u64 (l02 : Int), .int .u64 (l03 : Int), .int .i64 dd0, .bool mo0, sv0, .bool true]) := A3
  have LX3 : Hid (w.heap.size < (k2.setCell ⟨w.heap.size, 7, none⟩ (.bool true)).heap.size) := by show _ < _; rw [U3.size]; exact LX2.out
  have W3 : Hid (Below w.heap.size w (k2.setCell ⟨w.heap.size, 7, none⟩ (.bool true))) := Below.trans W2.out (U3.below (by omega))
  clear A3 U3 HX2 LX2 W2
  go_wp2_with (first | refine blk_load rfl 35 _ rfl (w.heap.size) rfl [.int .u64 (l00 : Int), .int .u64 (l01 : Int), .int .u64 (l02 : Int), .int .u64 (l03 : Int), .int .i64 dd0, .bool mo0, sv0, .bool true] HX3.out _ Try.underlying35 rfl Try.size_dl ?_)
  refine (CD0.out _ (IsPs.below KI0.out W3.out)).mono ?_; rintro e k4 ⟨v, rfl, hi, hb4⟩
  have HX4 : Hid (Blk k4 (w.heap.size) [.int .u64 (l00 : Int), .int .u64 (l01 : Int), .int .u64 (l02 : Int), .int .u64 (l03 : Int), .int .i64 dd0, .bool mo0, sv0, .bool true]) := Blk.below HX3.out hb4 LX3.out
  have LX4 : Hid (w.heap.size < k4.heap.size) := Nat.lt_of_lt_of_le LX3.out hb4.size
  have W4 : Hid (Below w.heap.size w k4) := Below.trans W3.out (hb4.mono W3.out.size)
  clear hb4 HX3 LX3 W3 
  have XV4 := Lib.hid hi
  clear hi
  go_wp2_with fail
  refine (CT.out _ _ XV4.out).mono ?_; rintro e k5 ⟨v', rfl, ho, hb5⟩
  have HX5 : Hid (Blk k5 (w.heap.size) [.int .u64 (l00 : Int), .int .u64 (l01 : Int), .int .u64 (l02 : Int), .int .u64 (l03 : Int), .int .i64 dd0, .bool mo0, sv0, .bool true]) := Blk.below HX4.out hb5 LX4.out
  have LX5 : Hid (w.heap.size < k5.heap.size) := Nat.lt_of_lt_of_le LX4.out hb5.size
  have XV5 := Lib.hid (IsWs.below XV4.out hb5)
  have W5 : Hid (Below w.heap.size w k5) := Below.trans W4.out (hb5.mono W4.out.size)
  clear hb5 HX4 LX4 XV4 W4 
  have XR5 := Lib.hid ho
  clear ho
  go_wp2_with fail
  refine (CB.out _ _ (OW.is XR5.out)).mono ?_; rintro e k6 ⟨rfl, hb6⟩
  have HX6 : Hid (Blk k6 (w.heap.size) [.int .u64 (l00 : Int), .int .u64 (l01 : Int), .int .u64 (l02 : Int), .int .u64 (l03 : Int), .int .i64 dd0, .bool mo0, sv0, .bool true]) := Blk.below HX5.out hb6 LX5.out
  have LX6 : Hid (w.heap.size < k6.heap.size) := Nat.lt_of_lt_of_le LX5.out hb6.size
  have XV6 := Lib.hid (IsWs.below XV5.out hb6)
  have XR6 := Lib.hid (OW.below XR5.out hb6)
  have W6 : Hid (Below w.heap.size w k6) := Below.trans W5.out (hb6.mono W5.out.size)
  clear hb6 HX5 LX5 XV5 XR5 W5 
  have hr0 : r = 0 ∨ r = 1 ∨ r = 2 ∨ r = 3 := by omega
  rcases hr0 with rfl | rfl | rfl | rfl
  · have hS : a1.size ≤ maxLen := by unfold maxLen; omega
    rcases hrd : I.read a1 with ⟨RA, RE, RL, rok⟩
    have hral : RA.length = 4 := by have := read_ok a1; rw [hrd] at this; exact this
    have hrl8 : RL.length < 1000000 := by have := read_few a1; rw [hrd] at this; have h8 : RL.length ≤ 8 := this; omega
    obtain ⟨b0, b1, b2, b3, rfl⟩ := V.four hral
    have CR : Hid (∀ u, Calls Try.prog 31 #[.string a1] u fun e w' => ∃ v, e = .returned (.tuple #[TV [b0, b1, b2, b3] RE v, .bool rok]) ∧ OW 23 w' u.heap.size v RL ∧ Below u.heap.size u w') := fun u => read_any a1 _ _ _ _ u hS hrd
    have CQ : Hid (∀ u, Calls Try.prog 32 #[.string a1] u fun e w' => ∃ v, e = .returned (.tuple #[TV [b0, b1, b2, b3] RE v, .bool rok]) ∧ OW 38 w' u.heap.size v RL ∧ Below u.heap.size u w') := fun u => ref_read a1 u hS _ _ _ _ hrd
    have CF : Hid (∀ u v, IsWs u v RL → Calls Try.prog 17 [TV [b0, b1, b2, b3] RE v].toArray u fun e w' => ∃ v', e = .returned (TV [b0, b1, b2, b3] RE v') ∧ OW 38 w' u.heap.size v' RL ∧ Below u.heap.size u w') := fun u v hv => reftxn_any [b0, b1, b2, b3] RE v RL u rfl hv hrl8
    have CE : Hid (∀ u v v', IsWs u v RL → IsWs u v' RL → Calls Try.prog 25 [TV [b0, b1, b2, b3] RE v, TV [b0, b1, b2, b3] RE v'].toArray u fun e w' => e = .returned (.bool true) ∧ Below u.heap.size u w') := fun u v v' hv hv' => by
      have := ref_same [b0, b1, b2, b3] RE v RL [b0, b1, b2, b3] RE v' RL u rfl rfl hv hv'
      rw [show I.same [b0, b1, b2, b3] RE RL [b0, b1, b2, b3] RE RL = true by unfold I.same T.same; simp] at this
      exact this
    clear hrd hral hrl8 hS
    go_wp2_with fail
    refine (CR.out _).mono ?_; rintro e k7 ⟨v, rfl, ho, hb7⟩
    have HX7 : Hid (Blk k7 (w.heap.size) [.int .u64 (l00 : Int), .int .u64 (l01 : Int), .int .u64 (l02 : Int), .int .u64 (l03 : Int), .int .i64 dd0, .bool mo0, sv0, .bool true]) := Blk.below HX6.out hb7 LX6.out
    have LX7 : Hid (w.heap.size < k7.heap.size) := Nat.lt_of_lt_of_le LX6.out hb7.size
    have W7 : Hid (Below w.heap.size w k7) := Below.trans W6.out (hb7.mono W6.out.size)
    clear hb7 HX6 LX6 W6 
    obtain ⟨pA, qA, ev, _⟩ := ho.is.is
    subst ev
    have XVA7 := Lib.hid ho.is
    clear ho
    go_wp2_with (first | refine blk_alloc rfl 43 (ks .u64 [0, 0, 0, 0] ++ [Value.int .i64 0, .slice none 0 0]) rfl Try.info_itx ?_)
    intro k8 A8 B8 Z8
    go_wp2_with (first | refine blk_store rfl 43 _ _ rfl (k7.heap.size) rfl [Value.int .u64 (b0 : Int), .int .u64 (b1 : Int), .int .u64 (b2 : Int), .int .u64 (b3 : Int), .int .i64 RE, .slice pA RL.length qA] rfl _ A8 rfl Try.size_itx rfl ?_)
    intro k9 A9 U9
    have hb9 : Below k7.heap.size k7 k9 := B8.trans (U9.below (Nat.le_refl _))
    have HA9_ : Hid (Blk k9 (k7.heap.size) [Value.int .u64 (b0 : Int), .int .u64 (b1 : Int), .int .u64 (b2 : Int), .int .u64 (b3 : Int), .int .i64 RE, .slice pA RL.length qA]) := A9
    have LA9_ : Hid (k7.heap.size < k9.heap.size) := by show _ < _; rw [U9.size]; omega
    have HX9 : Hid (Blk k9 (w.heap.size) [.int .u64 (l00 : Int), .int .u64 (l01 : Int), .int .u64 (l02 : Int), .int .u64 (l03 : Int), .int .i64 dd0, .bool mo0, sv0, .bool true]) := Blk.below HX7.out hb9 LX7.out
    have LX9 : Hid (w.heap.size < k9.heap.size) := Nat.lt_of_lt_of_le LX7.out hb9.size
    have XVA9 := Lib.hid (IsWs.below XVA7.out hb9)
    have W9 : Hid (Below w.heap.size w k9) := Below.trans W7.out (hb9.mono W7.out.size)
    have HA9 := HA9_
    have LA9 := LA9_
    clear hb9 A8 B8 Z8 A9 U9 HA9_ LA9_ HX7 LX7 XVA7 W7
    go_wp2_with fail
    refine (CQ.out _).mono ?_; rintro e k10 ⟨v, rfl, ho, hb10⟩
    have HX10 : Hid (Blk k10 (w.heap.size) [.int .u64 (l00 : Int), .int .u64 (l01 : Int), .int .u64 (l02 : Int), .int .u64 (l03 : Int), .int .i64 dd0, .bool mo0, sv0, .bool true]) := Blk.below HX9.out hb10 LX9.out
    have LX10 : Hid (w.heap.size < k10.heap.size) := Nat.lt_of_lt_of_le LX9.out hb10.size
    have HA10 : Hid (Blk k10 (k7.heap.size) [Value.int .u64 (b0 : Int), .int .u64 (b1 : Int), .int .u64 (b2 : Int), .int .u64 (b3 : Int), .int .i64 RE, .slice pA RL.length qA]) := Blk.below HA9.out hb10 LA9.out
    have LA10 : Hid (k7.heap.size < k10.heap.size) := Nat.lt_of_lt_of_le LA9.out hb10.size
    have XVA10 := Lib.hid (IsWs.below XVA9.out hb10)
    have W10 : Hid (Below w.heap.size w k10) := Below.trans W9.out (hb10.mono W9.out.size)
    clear hb10 HX9 LX9 HA9 LA9 XVA9 W9 
    obtain ⟨pB, qB, ev, _⟩ := ho.is.is
    subst ev
    have XVB10 := Lib.hid ho.is
    clear ho
    go_wp2_with (first | refine blk_alloc rfl 52 (ks .u64 [0, 0, 0, 0] ++ [Value.int .i64 0, .slice none 0 0]) rfl Try.info_tx ?_)
    intro k11 A11 B11 Z11
    go_wp2_with (first | refine blk_store rfl 52 _ _ rfl (k10.heap.size) rfl [Value.int .u64 (b0 : Int), .int .u64 (b1 : Int), .int .u64 (b2 : Int), .int .u64 (b3 : Int), .int .i64 RE, .slice pB RL.length qB] rfl _ A11 rfl Try.size_tx rfl ?_)
    intro k12 A12 U12
    have hb12 : Below k10.heap.size k10 k12 := B11.trans (U12.below (Nat.le_refl _))
    have HB12_ : Hid (Blk k12 (k10.heap.size) [Value.int .u64 (b0 : Int), .int .u64 (b1 : Int), .int .u64 (b2 : Int), .int .u64 (b3 : Int), .int .i64 RE, .slice pB RL.length qB]) := A12
    have LB12_ : Hid (k10.heap.size < k12.heap.size) := by show _ < _; rw [U12.size]; omega
    have HX12 : Hid (Blk k12 (w.heap.size) [.int .u64 (l00 : Int), .int .u64 (l01 : Int), .int .u64 (l02 : Int), .int .u64 (l03 : Int), .int .i64 dd0, .bool mo0, sv0, .bool true]) := Blk.below HX10.out hb12 LX10.out
    have LX12 : Hid (w.heap.size < k12.heap.size) := Nat.lt_of_lt_of_le LX10.out hb12.size
    have HA12 : Hid (Blk k12 (k7.heap.size) [Value.int .u64 (b0 : Int), .int .u64 (b1 : Int), .int .u64 (b2 : Int), .int .u64 (b3 : Int), .int .i64 RE, .slice pA RL.length qA]) := Blk.below HA10.out hb12 LA10.out
    have LA12 : Hid (k7.heap.size < k12.heap.size) := Nat.lt_of_lt_of_le LA10.out hb12.size
    have XVA12 := Lib.hid (IsWs.below XVA10.out hb12)
    have XVB12 := Lib.hid (IsWs.below XVB10.out hb12)
    have W12 : Hid (Below w.heap.size w k12) := Below.trans W10.out (hb12.mono W10.out.size)
    have HB12 := HB12_
    have LB12 := LB12_
    clear hb12 A11 B11 Z11 A12 U12 HB12_ LB12_ HX10 LX10 HA10 LA10 XVA10 XVB10 W10
    have KA : Hid (∀ u, Below k12.heap.size k12 u → u.rangeAt (k7.heap.size) 0 [Value.int .u64 (b0 : Int), .int .u64 (b1 : Int), .int .u64 (b2 : Int), .int .u64 (b3 : Int), .int .i64 RE, .slice pA RL.length qA]) := fun u hu => (Blk.below HA12.out hu LA12.out).1
    have KIA : Hid (∀ u, Below k12.heap.size k12 u → IsWs u (.slice pA RL.length qA) RL) := fun u hu => IsWs.below XVA12.out hu
    have KB : Hid (∀ u, Below k12.heap.size k12 u → u.rangeAt (k10.heap.size) 0 [Value.int .u64 (b0 : Int), .int .u64 (b1 : Int), .int .u64 (b2 : Int), .int .u64 (b3 : Int), .int .i64 RE, .slice pB RL.length qB]) := fun u hu => (Blk.below HB12.out hu LB12.out).1
    have KIB : Hid (∀ u, Below k12.heap.size k12 u → IsWs u (.slice pB RL.length qB) RL) := fun u hu => IsWs.below XVB12.out hu
    have ww : Hid ((rok == rok) = true) := by show _ = _; simp
    have WF : Hid (Below w.heap.size w k12) := W12.out
    go_wp2_with fail
    refine region_rel [Spc.eq (.bool true), Spc.eq (.bool true), Spc.eq (.agg [Value.int .u64 (b0 : Int), .int .u64 (b1 : Int), .int .u64 (b2 : Int), .int .u64 (b3 : Int), .int .i64 RE, .slice pA RL.length qA].toArray), Spc.tx 38 k12.heap.size [b0, b1, b2, b3] RE RL, Spc.eq (.agg [Value.int .u64 (b0 : Int), .int .u64 (b1 : Int), .int .u64 (b2 : Int), .int .u64 (b3 : Int), .int .i64 RE, .slice pB RL.length qB].toArray), Spc.eq (.bool true), Spc.eq (.bool true), Spc.eq (.bool true), Spc.eq (.bool rok), Spc.eq (.bool rok), Spc.eq (.bool true), Spc.eq (.bool true), Spc.eq (.bool true)] Try.mixed (by kernel_rfl) ?_
    refine r_value rfl (fun u hu hn => by go_simp) (fun K hK => ?_)
    go_simp
    refine hK _ ?_
    clear hK K
    refine r_value rfl (fun u hu hn => by go_simp) (fun K hK => ?_)
    go_simp
    refine hK _ ?_
    clear hK K
    refine rg_blk_load (by rfl) 43 _ rfl (k7.heap.size) 0 rfl (by intro u hu hn; exact KA.out u hu) _ Try.underlying43 rfl Try.size_itx (fun K hK => ?_)
    go_simp
    refine hK _ ?_
    clear hK K
    refine rg_call (by rfl) 17 Try.f17 Try.func17 rfl rfl _ _ rfl _ rfl (by intro u hu hn; exact (CF.out u _ (KIA.out u hu)).mono fun e u' ⟨v', he, ho, hb⟩ => ⟨_, he, hb, by obtain ⟨av, cv, ev, _⟩ := ho.is.is; exact ⟨av, cv, by rw [ev]⟩, ⟨v', rfl, OW.mono ho hu.size⟩⟩) (fun v hv K hK => ?_)
    obtain ⟨e1, f1, rfl⟩ := hv
    go_simp
    refine hK _ ?_
    clear hK K
    refine rg_blk_load (by rfl) 52 _ rfl (k10.heap.size) 0 rfl (by intro u hu hn; exact KB.out u hu) _ Try.underlying52 rfl Try.size_tx (fun K hK => ?_)
    go_simp
    refine hK _ ?_
    clear hK K
    refine rg_callv (by rfl) 25 Try.f25 Try.func25 rfl rfl _ _ rfl _ rfl (by intro u hu hn; obtain ⟨v1, ev1, ho1⟩ := hn.get 3 1 rfl rfl _ rfl; obtain rfl := tv_inj ev1; exact CE.out u _ _ (OW.is ho1) (KIB.out u hu)) (fun K hK => ?_)
    go_simp
    refine hK _ ?_
    clear hK K
    refine r_value rfl (fun u hu hn => by go_simp) (fun K hK => ?_)
    go_simp
    refine hK _ ?_
    clear hK K
    refine r_value rfl (fun u hu hn => by go_simp) (fun K hK => ?_)
    go_simp
    refine hK _ ?_
    clear hK K
    refine rg_value (by rfl) (fun u hu hn => by go_simp) (fun K hK => ?_)
    go_simp
    refine hK _ ?_
    clear hK K
    refine rg_value (by rfl) (fun u hu hn => by go_simp) (fun K hK => ?_)
    go_simp
    refine hK _ ?_
    clear hK K
    refine rg_value (by rfl) (fun u hu hn => by have hc := ww.out; go_simp) (fun K hK => ?_)
    go_simp
    refine hK _ ?_
    clear hK K
    refine r_value rfl (fun u hu hn => by go_simp) (fun K hK => ?_)
    go_simp
    refine hK _ ?_
    clear hK K
    refine r_value rfl (fun u hu hn => by go_simp) (fun K hK => ?_)
    go_simp
    refine hK _ ?_
    clear hK K
    refine r_nil ?_
    intro u hu _
    have WG : Hid (Below w.heap.size w u) := Below.trans WF.out (hu.mono WF.out.size)
    clear hu
    go_wp2_with fail
    go_ret
    exact ⟨rfl, WG.out⟩
  · obtain ⟨mb, rfl⟩ : ∃ mb : UInt8, a4 = (mb.toNat : Int) := ⟨UInt8.ofNat a4.toNat, by rw [P.ofNat_toNat_lt _ (by omega)]; omega⟩
    have CBD := Lib.hid (fun w => bend_any B0 a3 mb w (by omega) h3.1 h3.2)
    go_wp2_with fail
    refine (CBD.out _).mono ?_; rintro e k7 ⟨⟨sx, rfl, hsx⟩, hb7⟩
    have HX7 : Hid (Blk k7 (w.heap.size) [.int .u64 (l00 : Int), .int .u64 (l01 : Int), .int .u64 (l02 : Int), .int .u64 (l03 : Int), .int .i64 dd0, .bool mo0, sv0, .bool true]) := Blk.below HX6.out hb7 LX6.out
    have LX7 : Hid (w.heap.size < k7.heap.size) := Nat.lt_of_lt_of_le LX6.out hb7.size
    have W7 : Hid (Below w.heap.size w k7) := Below.trans W6.out (hb7.mono W6.out.size)
    clear hb7 HX6 LX6 W6 
    have hS : sx.size ≤ maxLen := by rw [hsx]; unfold maxLen; omega
    clear hsx
    rcases hrd : I.read sx with ⟨RA, RE, RL, rok⟩
    have hral : RA.length = 4 := by have := read_ok sx; rw [hrd] at this; exact this
    have hrl8 : RL.length < 1000000 := by have := read_few sx; rw [hrd] at this; have h8 : RL.length ≤ 8 := this; omega
    obtain ⟨b0, b1, b2, b3, rfl⟩ := V.four hral
    have CR : Hid (∀ u, Calls Try.prog 31 #[.string sx] u fun e w' => ∃ v, e = .returned (.tuple #[TV [b0, b1, b2, b3] RE v, .bool rok]) ∧ OW 23 w' u.heap.size v RL ∧ Below u.heap.size u w') := fun u => read_any sx _ _ _ _ u hS hrd
    have CQ : Hid (∀ u, Calls Try.prog 32 #[.string sx] u fun e w' => ∃ v, e = .returned (.tuple #[TV [b0, b1, b2, b3] RE v, .bool rok]) ∧ OW 38 w' u.heap.size v RL ∧ Below u.heap.size u w') := fun u => ref_read sx u hS _ _ _ _ hrd
    have CF : Hid (∀ u v, IsWs u v RL → Calls Try.prog 17 [TV [b0, b1, b2, b3] RE v].toArray u fun e w' => ∃ v', e = .returned (TV [b0, b1, b2, b3] RE v') ∧ OW 38 w' u.heap.size v' RL ∧ Below u.heap.size u w') := fun u v hv => reftxn_any [b0, b1, b2, b3] RE v RL u rfl hv hrl8
    have CE : Hid (∀ u v v', IsWs u v RL → IsWs u v' RL → Calls Try.prog 25 [TV [b0, b1, b2, b3] RE v, TV [b0, b1, b2, b3] RE v'].toArray u fun e w' => e = .returned (.bool true) ∧ Below u.heap.size u w') := fun u v v' hv hv' => by
      have := ref_same [b0, b1, b2, b3] RE v RL [b0, b1, b2, b3] RE v' RL u rfl rfl hv hv'
      rw [show I.same [b0, b1, b2, b3] RE RL [b0, b1, b2, b3] RE RL = true by unfold I.same T.same; simp] at this
      exact this
    clear hrd hral hrl8 hS
    go_wp2_with fail
    refine (CR.out _).mono ?_; rintro e k8 ⟨v, rfl, ho, hb8⟩
    have HX8 : Hid (Blk k8 (w.heap.size) [.int .u64 (l00 : Int), .int .u64 (l01 : Int), .int .u64 (l02 : Int), .int .u64 (l03 : Int), .int .i64 dd0, .bool mo0, sv0, .bool true]) := Blk.below HX7.out hb8 LX7.out
    have LX8 : Hid (w.heap.size < k8.heap.size) := Nat.lt_of_lt_of_le LX7.out hb8.size
    have W8 : Hid (Below w.heap.size w k8) := Below.trans W7.out (hb8.mono W7.out.size)
    clear hb8 HX7 LX7 W7 
    obtain ⟨pA, qA, ev, _⟩ := ho.is.is
    subst ev
    have XVA8 := Lib.hid ho.is
    clear ho
    go_wp2_with (first | refine blk_alloc rfl 43 (ks .u64 [0, 0, 0, 0] ++ [Value.int .i64 0, .slice none 0 0]) rfl Try.info_itx ?_)
    intro k9 A9 B9 Z9
    go_wp2_with (first | refine blk_store rfl 43 _ _ rfl (k8.heap.size) rfl [Value.int .u64 (b0 : Int), .int .u64 (b1 : Int), .int .u64 (b2 : Int), .int .u64 (b3 : Int), .int .i64 RE, .slice pA RL.length qA] rfl _ A9 rfl Try.size_itx rfl ?_)
    intro k10 A10 U10
    have hb10 : Below k8.heap.size k8 k10 := B9.trans (U10.below (Nat.le_refl _))
    have HA10_ : Hid (Blk k10 (k8.heap.size) [Value.int .u64 (b0 : Int), .int .u64 (b1 : Int), .int .u64 (b2 : Int), .int .u64 (b3 : Int), .int .i64 RE, .slice pA RL.length qA]) := A10
    have LA10_ : Hid (k8.heap.size < k10.heap.size) := by show _ < _; rw [U10.size]; omega
    have HX10 : Hid (Blk k10 (w.heap.size) [.int .u64 (l00 : Int), .int .u64 (l01 : Int), .int .u64 (l02 : Int), .int .u64 (l03 : Int), .int .i64 dd0, .bool mo0, sv0, .bool true]) := Blk.below HX8.out hb10 LX8.out
    have LX10 : Hid (w.heap.size < k10.heap.size) := Nat.lt_of_lt_of_le LX8.out hb10.size
    have XVA10 := Lib.hid (IsWs.below XVA8.out hb10)
    have W10 : Hid (Below w.heap.size w k10) := Below.trans W8.out (hb10.mono W8.out.size)
    have HA10 := HA10_
    have LA10 := LA10_
    clear hb10 A9 B9 Z9 A10 U10 HA10_ LA10_ HX8 LX8 XVA8 W8
    go_wp2_with fail
    refine (CQ.out _).mono ?_; rintro e k11 ⟨v, rfl, ho, hb11⟩
    have HX11 : Hid (Blk k11 (w.heap.size) [.int .u64 (l00 : Int), .int .u64 (l01 : Int), .int .u64 (l02 : Int), .int .u64 (l03 : Int), .int .i64 dd0, .bool mo0, sv0, .bool true]) := Blk.below HX10.out hb11 LX10.out
    have LX11 : Hid (w.heap.size < k11.heap.size) := Nat.lt_of_lt_of_le LX10.out hb11.size
    have HA11 : Hid (Blk k11 (k8.heap.size) [Value.int .u64 (b0 : Int), .int .u64 (b1 : Int), .int .u64 (b2 : Int), .int .u64 (b3 : Int), .int .i64 RE, .slice pA RL.length qA]) := Blk.below HA10.out hb11 LA10.out
    have LA11 : Hid (k8.heap.size < k11.heap.size) := Nat.lt_of_lt_of_le LA10.out hb11.size
    have XVA11 := Lib.hid (IsWs.below XVA10.out hb11)
    have W11 : Hid (Below w.heap.size w k11) := Below.trans W10.out (hb11.mono W10.out.size)
    clear hb11 HX10 LX10 HA10 LA10 XVA10 W10 
    obtain ⟨pB, qB, ev, _⟩ := ho.is.is
    subst ev
    have XVB11 := Lib.hid ho.is
    clear ho
    go_wp2_with (first | refine blk_alloc rfl 52 (ks .u64 [0, 0, 0, 0] ++ [Value.int .i64 0, .slice none 0 0]) rfl Try.info_tx ?_)
    intro k12 A12 B12 Z12
    go_wp2_with (first | refine blk_store rfl 52 _ _ rfl (k11.heap.size) rfl [Value.int .u64 (b0 : Int), .int .u64 (b1 : Int), .int .u64 (b2 : Int), .int .u64 (b3 : Int), .int .i64 RE, .slice pB RL.length qB] rfl _ A12 rfl Try.size_tx rfl ?_)
    intro k13 A13 U13
    have hb13 : Below k11.heap.size k11 k13 := B12.trans (U13.below (Nat.le_refl _))
    have HB13_ : Hid (Blk k13 (k11.heap.size) [Value.int .u64 (b0 : Int), .int .u64 (b1 : Int), .int .u64 (b2 : Int), .int .u64 (b3 : Int), .int .i64 RE, .slice pB RL.length qB]) := A13
    have LB13_ : Hid (k11.heap.size < k13.heap.size) := by show _ < _; rw [U13.size]; omega
    have HX13 : Hid (Blk k13 (w.heap.size) [.int .u64 (l00 : Int), .int .u64 (l01 : Int), .int .u64 (l02 : Int), .int .u64 (l03 : Int), .int .i64 dd0, .bool mo0, sv0, .bool true]) := Blk.below HX11.out hb13 LX11.out
    have LX13 : Hid (w.heap.size < k13.heap.size) := Nat.lt_of_lt_of_le LX11.out hb13.size
    have HA13 : Hid (Blk k13 (k8.heap.size) [Value.int .u64 (b0 : Int), .int .u64 (b1 : Int), .int .u64 (b2 : Int), .int .u64 (b3 : Int), .int .i64 RE, .slice pA RL.length qA]) := Blk.below HA11.out hb13 LA11.out
    have LA13 : Hid (k8.heap.size < k13.heap.size) := Nat.lt_of_lt_of_le LA11.out hb13.size
    have XVA13 := Lib.hid (IsWs.below XVA11.out hb13)
    have XVB13 := Lib.hid (IsWs.below XVB11.out hb13)
    have W13 : Hid (Below w.heap.size w k13) := Below.trans W11.out (hb13.mono W11.out.size)
    have HB13 := HB13_
    have LB13 := LB13_
    clear hb13 A12 B12 Z12 A13 U13 HB13_ LB13_ HX11 LX11 HA11 LA11 XVA11 XVB11 W11
    have KA : Hid (∀ u, Below k13.heap.size k13 u → u.rangeAt (k8.heap.size) 0 [Value.int .u64 (b0 : Int), .int .u64 (b1 : Int), .int .u64 (b2 : Int), .int .u64 (b3 : Int), .int .i64 RE, .slice pA RL.length qA]) := fun u hu => (Blk.below HA13.out hu LA13.out).1
    have KIA : Hid (∀ u, Below k13.heap.size k13 u → IsWs u (.slice pA RL.length qA) RL) := fun u hu => IsWs.below XVA13.out hu
    have KB : Hid (∀ u, Below k13.heap.size k13 u → u.rangeAt (k11.heap.size) 0 [Value.int .u64 (b0 : Int), .int .u64 (b1 : Int), .int .u64 (b2 : Int), .int .u64 (b3 : Int), .int .i64 RE, .slice pB RL.length qB]) := fun u hu => (Blk.below HB13.out hu LB13.out).1
    have KIB : Hid (∀ u, Below k13.heap.size k13 u → IsWs u (.slice pB RL.length qB) RL) := fun u hu => IsWs.below XVB13.out hu
    have ww : Hid ((rok == rok) = true) := by show _ = _; simp
    have WF : Hid (Below w.heap.size w k13) := W13.out
    go_wp2_with fail
    refine region_rel [Spc.eq (.bool true), Spc.eq (.bool true), Spc.eq (.agg [Value.int .u64 (b0 : Int), .int .u64 (b1 : Int), .int .u64 (b2 : Int), .int .u64 (b3 : Int), .int .i64 RE, .slice pA RL.length qA].toArray), Spc.tx 38 k13.heap.size [b0, b1, b2, b3] RE RL, Spc.eq (.agg [Value.int .u64 (b0 : Int), .int .u64 (b1 : Int), .int .u64 (b2 : Int), .int .u64 (b3 : Int), .int .i64 RE, .slice pB RL.length qB].toArray), Spc.eq (.bool true), Spc.eq (.bool true), Spc.eq (.bool true), Spc.eq (.bool rok), Spc.eq (.bool rok), Spc.eq (.bool true), Spc.eq (.bool true), Spc.eq (.bool true)] Try.mixed (by kernel_rfl) ?_
    refine r_value rfl (fun u hu hn => by go_simp) (fun K hK => ?_)
    go_simp
    refine hK _ ?_
    clear hK K
    refine r_value rfl (fun u hu hn => by go_simp) (fun K hK => ?_)
    go_simp
    refine hK _ ?_
    clear hK K
    refine rg_blk_load (by rfl) 43 _ rfl (k8.heap.size) 0 rfl (by intro u hu hn; exact KA.out u hu) _ Try.underlying43 rfl Try.size_itx (fun K hK => ?_)
    go_simp
    refine hK _ ?_
    clear hK K
    refine rg_call (by rfl) 17 Try.f17 Try.func17 rfl rfl _ _ rfl _ rfl (by intro u hu hn; exact (CF.out u _ (KIA.out u hu)).mono fun e u' ⟨v', he, ho, hb⟩ => ⟨_, he, hb, by obtain ⟨av, cv, ev, _⟩ := ho.is.is; exact ⟨av, cv, by rw [ev]⟩, ⟨v', rfl, OW.mono ho hu.size⟩⟩) (fun v hv K hK => ?_)
    obtain ⟨e1, f1, rfl⟩ := hv
    go_simp
    refine hK _ ?_
    clear hK K
    refine rg_blk_load (by rfl) 52 _ rfl (k11.heap.size) 0 rfl (by intro u hu hn; exact KB.out u hu) _ Try.underlying52 rfl Try.size_tx (fun K hK => ?_)
    go_simp
    refine hK _ ?_
    clear hK K
    refine rg_callv (by rfl) 25 Try.f25 Try.func25 rfl rfl _ _ rfl _ rfl (by intro u hu hn; obtain ⟨v1, ev1, ho1⟩ := hn.get 3 1 rfl rfl _ rfl; obtain rfl := tv_inj ev1; exact CE.out u _ _ (OW.is ho1) (KIB.out u hu)) (fun K hK => ?_)
    go_simp
    refine hK _ ?_
    clear hK K
    refine r_value rfl (fun u hu hn => by go_simp) (fun K hK => ?_)
    go_simp
    refine hK _ ?_
    clear hK K
    refine r_value rfl (fun u hu hn => by go_simp) (fun K hK => ?_)
    go_simp
    refine hK _ ?_
    clear hK K
    refine rg_value (by rfl) (fun u hu hn => by go_simp) (fun K hK => ?_)
    go_simp
    refine hK _ ?_
    clear hK K
    refine rg_value (by rfl) (fun u hu hn => by go_simp) (fun K hK => ?_)
    go_simp
    refine hK _ ?_
    clear hK K
    refine rg_value (by rfl) (fun u hu hn => by have hc := ww.out; go_simp) (fun K hK => ?_)
    go_simp
    refine hK _ ?_
    clear hK K
    refine r_value rfl (fun u hu hn => by go_simp) (fun K hK => ?_)
    go_simp
    refine hK _ ?_
    clear hK K
    refine r_value rfl (fun u hu hn => by go_simp) (fun K hK => ?_)
    go_simp
    refine hK _ ?_
    clear hK K
    refine r_nil ?_
    intro u hu _
    have WG : Hid (Below w.heap.size w u) := Below.trans WF.out (hu.mono WF.out.size)
    clear hu
    go_wp2_with fail
    go_ret
    exact ⟨rfl, WG.out⟩
  · obtain ⟨mb, rfl⟩ : ∃ mb : UInt8, a4 = (mb.toNat : Int) := ⟨UInt8.ofNat a4.toNat, by rw [P.ofNat_toNat_lt _ (by omega)]; omega⟩
    have CBD := Lib.hid (fun w => bend_any B0 a3 mb w (by omega) h3.1 h3.2)
    go_wp2_with fail
    refine (CBD.out _).mono ?_; rintro e k7 ⟨⟨sx, rfl, hsx⟩, hb7⟩
    have HX7 : Hid (Blk k7 (w.heap.size) [.int .u64 (l00 : Int), .int .u64 (l01 : Int), .int .u64 (l02 : Int), .int .u64 (l03 : Int), .int .i64 dd0, .bool mo0, sv0, .bool true]) := Blk.below HX6.out hb7 LX6.out
    have LX7 : Hid (w.heap.size < k7.heap.size) := Nat.lt_of_lt_of_le LX6.out hb7.size
    have W7 : Hid (Below w.heap.size w k7) := Below.trans W6.out (hb7.mono W6.out.size)
    clear hb7 HX6 LX6 W6 
    have hS : sx.size ≤ maxLen := by rw [hsx]; unfold maxLen; omega
    clear hsx
    rcases hrd : I.read sx with ⟨RA, RE, RL, rok⟩
    have hral : RA.length = 4 := by have := read_ok sx; rw [hrd] at this; exact this
    have hrl8 : RL.length < 1000000 := by have := read_few sx; rw [hrd] at this; have h8 : RL.length ≤ 8 := this; omega
    obtain ⟨b0, b1, b2, b3, rfl⟩ := V.four hral
    have CR : Hid (∀ u, Calls Try.prog 31 #[.string sx] u fun e w' => ∃ v, e = .returned (.tuple #[TV [b0, b1, b2, b3] RE v, .bool rok]) ∧ OW 23 w' u.heap.size v RL ∧ Below u.heap.size u w') := fun u => read_any sx _ _ _ _ u hS hrd
    have CQ : Hid (∀ u, Calls Try.prog 32 #[.string sx] u fun e w' => ∃ v, e = .returned (.tuple #[TV [b0, b1, b2, b3] RE v, .bool rok]) ∧ OW 38 w' u.heap.size v RL ∧ Below u.heap.size u w') := fun u => ref_read sx u hS _ _ _ _ hrd
    have CF : Hid (∀ u v, IsWs u v RL → Calls Try.prog 17 [TV [b0, b1, b2, b3] RE v].toArray u fun e w' => ∃ v', e = .returned (TV [b0, b1, b2, b3] RE v') ∧ OW 38 w' u.heap.size v' RL ∧ Below u.heap.size u w') := fun u v hv => reftxn_any [b0, b1, b2, b3] RE v RL u rfl hv hrl8
    have CE : Hid (∀ u v v', IsWs u v RL → IsWs u v' RL → Calls Try.prog 25 [TV [b0, b1, b2, b3] RE v, TV [b0, b1, b2, b3] RE v'].toArray u fun e w' => e = .returned (.bool true) ∧ Below u.heap.size u w') := fun u v v' hv hv' => by
      have := ref_same [b0, b1, b2, b3] RE v RL [b0, b1, b2, b3] RE v' RL u rfl rfl hv hv'
      rw [show I.same [b0, b1, b2, b3] RE RL [b0, b1, b2, b3] RE RL = true by unfold I.same T.same; simp] at this
      exact this
    clear hrd hral hrl8 hS
    go_wp2_with fail
    refine (CR.out _).mono ?_; rintro e k8 ⟨v, rfl, ho, hb8⟩
    have HX8 : Hid (Blk k8 (w.heap.size) [.int .u64 (l00 : Int), .int .u64 (l01 : Int), .int .u64 (l02 : Int), .int .u64 (l03 : Int), .int .i64 dd0, .bool mo0, sv0, .bool true]) := Blk.below HX7.out hb8 LX7.out
    have LX8 : Hid (w.heap.size < k8.heap.size) := Nat.lt_of_lt_of_le LX7.out hb8.size
    have W8 : Hid (Below w.heap.size w k8) := Below.trans W7.out (hb8.mono W7.out.size)
    clear hb8 HX7 LX7 W7 
    obtain ⟨pA, qA, ev, _⟩ := ho.is.is
    subst ev
    have XVA8 := Lib.hid ho.is
    clear ho
    go_wp2_with (first | refine blk_alloc rfl 43 (ks .u64 [0, 0, 0, 0] ++ [Value.int .i64 0, .slice none 0 0]) rfl Try.info_itx ?_)
    intro k9 A9 B9 Z9
    go_wp2_with (first | refine blk_store rfl 43 _ _ rfl (k8.heap.size) rfl [Value.int .u64 (b0 : Int), .int .u64 (b1 : Int), .int .u64 (b2 : Int), .int .u64 (b3 : Int), .int .i64 RE, .slice pA RL.length qA] rfl _ A9 rfl Try.size_itx rfl ?_)
    intro k10 A10 U10
    have hb10 : Below k8.heap.size k8 k10 := B9.trans (U10.below (Nat.le_refl _))
    have HA10_ : Hid (Blk k10 (k8.heap.size) [Value.int .u64 (b0 : Int), .int .u64 (b1 : Int), .int .u64 (b2 : Int), .int .u64 (b3 : Int), .int .i64 RE, .slice pA RL.length qA]) := A10
    have LA10_ : Hid (k8.heap.size < k10.heap.size) := by show _ < _; rw [U10.size]; omega
    have HX10 : Hid (Blk k10 (w.heap.size) [.int .u64 (l00 : Int), .int .u64 (l01 : Int), .int .u64 (l02 : Int), .int .u64 (l03 : Int), .int .i64 dd0, .bool mo0, sv0, .bool true]) := Blk.below HX8.out hb10 LX8.out
    have LX10 : Hid (w.heap.size < k10.heap.size) := Nat.lt_of_lt_of_le LX8.out hb10.size
    have XVA10 := Lib.hid (IsWs.below XVA8.out hb10)
    have W10 : Hid (Below w.heap.size w k10) := Below.trans W8.out (hb10.mono W8.out.size)
    have HA10 := HA10_
    have LA10 := LA10_
    clear hb10 A9 B9 Z9 A10 U10 HA10_ LA10_ HX8 LX8 XVA8 W8
    go_wp2_with fail
    refine (CQ.out _).mono ?_; rintro e k11 ⟨v, rfl, ho, hb11⟩
    have HX11 : Hid (Blk k11 (w.heap.size) [.int .u64 (l00 : Int), .int .u64 (l01 : Int), .int .u64 (l02 : Int), .int .u64 (l03 : Int), .int .i64 dd0, .bool mo0, sv0, .bool true]) := Blk.below HX10.out hb11 LX10.out
    have LX11 : Hid (w.heap.size < k11.heap.size) := Nat.lt_of_lt_of_le LX10.out hb11.size
    have HA11 : Hid (Blk k11 (k8.heap.size) [Value.int .u64 (b0 : Int), .int .u64 (b1 : Int), .int .u64 (b2 : Int), .int .u64 (b3 : Int), .int .i64 RE, .slice pA RL.length qA]) := Blk.below HA10.out hb11 LA10.out
    have LA11 : Hid (k8.heap.size < k11.heap.size) := Nat.lt_of_lt_of_le LA10.out hb11.size
    have XVA11 := Lib.hid (IsWs.below XVA10.out hb11)
    have W11 : Hid (Below w.heap.size w k11) := Below.trans W10.out (hb11.mono W10.out.size)
    clear hb11 HX10 LX10 HA10 LA10 XVA10 W10 
    obtain ⟨pB, qB, ev, _⟩ := ho.is.is
    subst ev
    have XVB11 := Lib.hid ho.is
    clear ho
    go_wp2_with (first | refine blk_alloc rfl 52 (ks .u64 [0, 0, 0, 0] ++ [Value.int .i64 0, .slice none 0 0]) rfl Try.info_tx ?_)
    intro k12 A12 B12 Z12
    go_wp2_with (first | refine blk_store rfl 52 _ _ rfl (k11.heap.size) rfl [Value.int .u64 (b0 : Int), .int .u64 (b1 : Int), .int .u64 (b2 : Int), .int .u64 (b3 : Int), .int .i64 RE, .slice pB RL.length qB] rfl _ A12 rfl Try.size_tx rfl ?_)
    intro k13 A13 U13
    have hb13 : Below k11.heap.size k11 k13 := B12.trans (U13.below (Nat.le_refl _))
    have HB13_ : Hid (Blk k13 (k11.heap.size) [Value.int .u64 (b0 : Int), .int .u64 (b1 : Int), .int .u64 (b2 : Int), .int .u64 (b3 : Int), .int .i64 RE, .slice pB RL.length qB]) := A13
    have LB13_ : Hid (k11.heap.size < k13.heap.size) := by show _ < _; rw [U13.size]; omega
    have HX13 : Hid (Blk k13 (w.heap.size) [.int .u64 (l00 : Int), .int .u64 (l01 : Int), .int .u64 (l02 : Int), .int .u64 (l03 : Int), .int .i64 dd0, .bool mo0, sv0, .bool true]) := Blk.below HX11.out hb13 LX11.out
    have LX13 : Hid (w.heap.size < k13.heap.size) := Nat.lt_of_lt_of_le LX11.out hb13.size
    have HA13 : Hid (Blk k13 (k8.heap.size) [Value.int .u64 (b0 : Int), .int .u64 (b1 : Int), .int .u64 (b2 : Int), .int .u64 (b3 : Int), .int .i64 RE, .slice pA RL.length qA]) := Blk.below HA11.out hb13 LA11.out
    have LA13 : Hid (k8.heap.size < k13.heap.size) := Nat.lt_of_lt_of_le LA11.out hb13.size
    have XVA13 := Lib.hid (IsWs.below XVA11.out hb13)
    have XVB13 := Lib.hid (IsWs.below XVB11.out hb13)
    have W13 : Hid (Below w.heap.size w k13) := Below.trans W11.out (hb13.mono W11.out.size)
    have HB13 := HB13_
    have LB13 := LB13_
    clear hb13 A12 B12 Z12 A13 U13 HB13_ LB13_ HX11 LX11 HA11 LA11 XVA11 XVB11 W11
    have KA : Hid (∀ u, Below k13.heap.size k13 u → u.rangeAt (k8.heap.size) 0 [Value.int .u64 (b0 : Int), .int .u64 (b1 : Int), .int .u64 (b2 : Int), .int .u64 (b3 : Int), .int .i64 RE, .slice pA RL.length qA]) := fun u hu => (Blk.below HA13.out hu LA13.out).1
    have KIA : Hid (∀ u, Below k13.heap.size k13 u → IsWs u (.slice pA RL.length qA) RL) := fun u hu => IsWs.below XVA13.out hu
    have KB : Hid (∀ u, Below k13.heap.size k13 u → u.rangeAt (k11.heap.size) 0 [Value.int .u64 (b0 : Int), .int .u64 (b1 : Int), .int .u64 (b2 : Int), .int .u64 (b3 : Int), .int .i64 RE, .slice pB RL.length qB]) := fun u hu => (Blk.below HB13.out hu LB13.out).1
    have KIB : Hid (∀ u, Below k13.heap.size k13 u → IsWs u (.slice pB RL.length qB) RL) := fun u hu => IsWs.below XVB13.out hu
    have ww : Hid ((rok == rok) = true) := by show _ = _; simp
    have WF : Hid (Below w.heap.size w k13) := W13.out
    go_wp2_with fail
    refine region_rel [Spc.eq (.bool true), Spc.eq (.bool true), Spc.eq (.agg [Value.int .u64 (b0 : Int), .int .u64 (b1 : Int), .int .u64 (b2 : Int), .int .u64 (b3 : Int), .int .i64 RE, .slice pA RL.length qA].toArray), Spc.tx 38 k13.heap.size [b0, b1, b2, b3] RE RL, Spc.eq (.agg [Value.int .u64 (b0 : Int), .int .u64 (b1 : Int), .int .u64 (b2 : Int), .int .u64 (b3 : Int), .int .i64 RE, .slice pB RL.length qB].toArray), Spc.eq (.bool true), Spc.eq (.bool true), Spc.eq (.bool true), Spc.eq (.bool rok), Spc.eq (.bool rok), Spc.eq (.bool true), Spc.eq (.bool true), Spc.eq (.bool true)] Try.mixed (by kernel_rfl) ?_
    refine r_value rfl (fun u hu hn => by go_simp) (fun K hK => ?_)
    go_simp
    refine hK _ ?_
    clear hK K
    refine r_value rfl (fun u hu hn => by go_simp) (fun K hK => ?_)
    go_simp
    refine hK _ ?_
    clear hK K
    refine rg_blk_load (by rfl) 43 _ rfl (k8.heap.size) 0 rfl (by intro u hu hn; exact KA.out u hu) _ Try.underlying43 rfl Try.size_itx (fun K hK => ?_)
    go_simp
    refine hK _ ?_
    clear hK K
    refine rg_call (by rfl) 17 Try.f17 Try.func17 rfl rfl _ _ rfl _ rfl (by intro u hu hn; exact (CF.out u _ (KIA.out u hu)).mono fun e u' ⟨v', he, ho, hb⟩ => ⟨_, he, hb, by obtain ⟨av, cv, ev, _⟩ := ho.is.is; exact ⟨av, cv, by rw [ev]⟩, ⟨v', rfl, OW.mono ho hu.size⟩⟩) (fun v hv K hK => ?_)
    obtain ⟨e1, f1, rfl⟩ := hv
    go_simp
    refine hK _ ?_
    clear hK K
    refine rg_blk_load (by rfl) 52 _ rfl (k11.heap.size) 0 rfl (by intro u hu hn; exact KB.out u hu) _ Try.underlying52 rfl Try.size_tx (fun K hK => ?_)
    go_simp
    refine hK _ ?_
    clear hK K
    refine rg_callv (by rfl) 25 Try.f25 Try.func25 rfl rfl _ _ rfl _ rfl (by intro u hu hn; obtain ⟨v1, ev1, ho1⟩ := hn.get 3 1 rfl rfl _ rfl; obtain rfl := tv_inj ev1; exact CE.out u _ _ (OW.is ho1) (KIB.out u hu)) (fun K hK => ?_)
    go_simp
    refine hK _ ?_
    clear hK K
    refine r_value rfl (fun u hu hn => by go_simp) (fun K hK => ?_)
    go_simp
    refine hK _ ?_
    clear hK K
    refine r_value rfl (fun u hu hn => by go_simp) (fun K hK => ?_)
    go_simp
    refine hK _ ?_
    clear hK K
    refine rg_value (by rfl) (fun u hu hn => by go_simp) (fun K hK => ?_)
    go_simp
    refine hK _ ?_
    clear hK K
    refine rg_value (by rfl) (fun u hu hn => by go_simp) (fun K hK => ?_)
    go_simp
    refine hK _ ?_
    clear hK K
    refine rg_value (by rfl) (fun u hu hn => by have hc := ww.out; go_simp) (fun K hK => ?_)
    go_simp
    refine hK _ ?_
    clear hK K
    refine r_value rfl (fun u hu hn => by go_simp) (fun K hK => ?_)
    go_simp
    refine hK _ ?_
    clear hK K
    refine r_value rfl (fun u hu hn => by go_simp) (fun K hK => ?_)
    go_simp
    refine hK _ ?_
    clear hK K
    refine r_nil ?_
    intro u hu _
    have WG : Hid (Below w.heap.size w u) := Below.trans WF.out (hu.mono WF.out.size)
    clear hu
    go_wp2_with fail
    go_ret
    exact ⟨rfl, WG.out⟩
  · obtain ⟨sx, HSX⟩ : ∃ z, Hid (B0 ++ a1 = z) := ⟨_, rfl⟩
    have hcat : B0.size + a1.size ≤ 9223372036854775807 := by omega
    have hS : sx.size ≤ maxLen := by rw [← HSX.out, ByteArray.size_append]; unfold maxLen; omega
    have esx := HSX.out
    rcases hrd : I.read sx with ⟨RA, RE, RL, rok⟩
    have hral : RA.length = 4 := by have := read_ok sx; rw [hrd] at this; exact this
    have hrl8 : RL.length < 1000000 := by have := read_few sx; rw [hrd] at this; have h8 : RL.length ≤ 8 := this; omega
    obtain ⟨b0, b1, b2, b3, rfl⟩ := V.four hral
    have CR : Hid (∀ u, Calls Try.prog 31 #[.string sx] u fun e w' => ∃ v, e = .returned (.tuple #[TV [b0, b1, b2, b3] RE v, .bool rok]) ∧ OW 23 w' u.heap.size v RL ∧ Below u.heap.size u w') := fun u => read_any sx _ _ _ _ u hS hrd
    have CQ : Hid (∀ u, Calls Try.prog 32 #[.string sx] u fun e w' => ∃ v, e = .returned (.tuple #[TV [b0, b1, b2, b3] RE v, .bool rok]) ∧ OW 38 w' u.heap.size v RL ∧ Below u.heap.size u w') := fun u => ref_read sx u hS _ _ _ _ hrd
    have CF : Hid (∀ u v, IsWs u v RL → Calls Try.prog 17 [TV [b0, b1, b2, b3] RE v].toArray u fun e w' => ∃ v', e = .returned (TV [b0, b1, b2, b3] RE v') ∧ OW 38 w' u.heap.size v' RL ∧ Below u.heap.size u w') := fun u v hv => reftxn_any [b0, b1, b2, b3] RE v RL u rfl hv hrl8
    have CE : Hid (∀ u v v', IsWs u v RL → IsWs u v' RL → Calls Try.prog 25 [TV [b0, b1, b2, b3] RE v, TV [b0, b1, b2, b3] RE v'].toArray u fun e w' => e = .returned (.bool true) ∧ Below u.heap.size u w') := fun u v v' hv hv' => by
      have := ref_same [b0, b1, b2, b3] RE v RL [b0, b1, b2, b3] RE v' RL u rfl rfl hv hv'
      rw [show I.same [b0, b1, b2, b3] RE RL [b0, b1, b2, b3] RE RL = true by unfold I.same T.same; simp] at this
      exact this
    clear hrd hral hrl8 hS
    go_wp2_with fail
    refine (CR.out _).mono ?_; rintro e k7 ⟨v, rfl, ho, hb7⟩
    have HX7 : Hid (Blk k7 (w.heap.size) [.int .u64 (l00 : Int), .int .u64 (l01 : Int), .int .u64 (l02 : Int), .int .u64 (l03 : Int), .int .i64 dd0, .bool mo0, sv0, .bool true]) := Blk.below HX6.out hb7 LX6.out
    have LX7 : Hid (w.heap.size < k7.heap.size) := Nat.lt_of_lt_of_le LX6.out hb7.size
    have W7 : Hid (Below w.heap.size w k7) := Below.trans W6.out (hb7.mono W6.out.size)
    clear hb7 HX6 LX6 W6 
    obtain ⟨pA, qA, ev, _⟩ := ho.is.is
    subst ev
    have XVA7 := Lib.hid ho.is
    clear ho
    go_wp2_with (first | refine blk_alloc rfl 43 (ks .u64 [0, 0, 0, 0] ++ [Value.int .i64 0, .slice none 0 0]) rfl Try.info_itx ?_)
    intro k8 A8 B8 Z8
    go_wp2_with (first | refine blk_store rfl 43 _ _ rfl (k7.heap.size) rfl [Value.int .u64 (b0 : Int), .int .u64 (b1 : Int), .int .u64 (b2 : Int), .int .u64 (b3 : Int), .int .i64 RE, .slice pA RL.length qA] rfl _ A8 rfl Try.size_itx rfl ?_)
    intro k9 A9 U9
    have hb9 : Below k7.heap.size k7 k9 := B8.trans (U9.below (Nat.le_refl _))
    have HA9_ : Hid (Blk k9 (k7.heap.size) [Value.int .u64 (b0 : Int), .int .u64 (b1 : Int), .int .u64 (b2 : Int), .int .u64 (b3 : Int), .int .i64 RE, .slice pA RL.length qA]) := A9
    have LA9_ : Hid (k7.heap.size < k9.heap.size) := by show _ < _; rw [U9.size]; omega
    have HX9 : Hid (Blk k9 (w.heap.size) [.int .u64 (l00 : Int), .int .u64 (l01 : Int), .int .u64 (l02 : Int), .int .u64 (l03 : Int), .int .i64 dd0, .bool mo0, sv0, .bool true]) := Blk.below HX7.out hb9 LX7.out
    have LX9 : Hid (w.heap.size < k9.heap.size) := Nat.lt_of_lt_of_le LX7.out hb9.size
    have XVA9 := Lib.hid (IsWs.below XVA7.out hb9)
    have W9 : Hid (Below w.heap.size w k9) := Below.trans W7.out (hb9.mono W7.out.size)
    have HA9 := HA9_
    have LA9 := LA9_
    clear hb9 A8 B8 Z8 A9 U9 HA9_ LA9_ HX7 LX7 XVA7 W7
    go_wp2_with fail
    refine (CQ.out _).mono ?_; rintro e k10 ⟨v, rfl, ho, hb10⟩
    have HX10 : Hid (Blk k10 (w.heap.size) [.int .u64 (l00 : Int), .int .u64 (l01 : Int), .int .u64 (l02 : Int), .int .u64 (l03 : Int), .int .i64 dd0, .bool mo0, sv0, .bool true]) := Blk.below HX9.out hb10 LX9.out
    have LX10 : Hid (w.heap.size < k10.heap.size) := Nat.lt_of_lt_of_le LX9.out hb10.size
    have HA10 : Hid (Blk k10 (k7.heap.size) [Value.int .u64 (b0 : Int), .int .u64 (b1 : Int), .int .u64 (b2 : Int), .int .u64 (b3 : Int), .int .i64 RE, .slice pA RL.length qA]) := Blk.below HA9.out hb10 LA9.out
    have LA10 : Hid (k7.heap.size < k10.heap.size) := Nat.lt_of_lt_of_le LA9.out hb10.size
    have XVA10 := Lib.hid (IsWs.below XVA9.out hb10)
    have W10 : Hid (Below w.heap.size w k10) := Below.trans W9.out (hb10.mono W9.out.size)
    clear hb10 HX9 LX9 HA9 LA9 XVA9 W9 
    obtain ⟨pB, qB, ev, _⟩ := ho.is.is
    subst ev
    have XVB10 := Lib.hid ho.is
    clear ho
    go_wp2_with (first | refine blk_alloc rfl 52 (ks .u64 [0, 0, 0, 0] ++ [Value.int .i64 0, .slice none 0 0]) rfl Try.info_tx ?_)
    intro k11 A11 B11 Z11
    go_wp2_with (first | refine blk_store rfl 52 _ _ rfl (k10.heap.size) rfl [Value.int .u64 (b0 : Int), .int .u64 (b1 : Int), .int .u64 (b2 : Int), .int .u64 (b3 : Int), .int .i64 RE, .slice pB RL.length qB] rfl _ A11 rfl Try.size_tx rfl ?_)
    intro k12 A12 U12
    have hb12 : Below k10.heap.size k10 k12 := B11.trans (U12.below (Nat.le_refl _))
    have HB12_ : Hid (Blk k12 (k10.heap.size) [Value.int .u64 (b0 : Int), .int .u64 (b1 : Int), .int .u64 (b2 : Int), .int .u64 (b3 : Int), .int .i64 RE, .slice pB RL.length qB]) := A12
    have LB12_ : Hid (k10.heap.size < k12.heap.size) := by show _ < _; rw [U12.size]; omega
    have HX12 : Hid (Blk k12 (w.heap.size) [.int .u64 (l00 : Int), .int .u64 (l01 : Int), .int .u64 (l02 : Int), .int .u64 (l03 : Int), .int .i64 dd0, .bool mo0, sv0, .bool true]) := Blk.below HX10.out hb12 LX10.out
    have LX12 : Hid (w.heap.size < k12.heap.size) := Nat.lt_of_lt_of_le LX10.out hb12.size
    have HA12 : Hid (Blk k12 (k7.heap.size) [Value.int .u64 (b0 : Int), .int .u64 (b1 : Int), .int .u64 (b2 : Int), .int .u64 (b3 : Int), .int .i64 RE, .slice pA RL.length qA]) := Blk.below HA10.out hb12 LA10.out
    have LA12 : Hid (k7.heap.size < k12.heap.size) := Nat.lt_of_lt_of_le LA10.out hb12.size
    have XVA12 := Lib.hid (IsWs.below XVA10.out hb12)
    have XVB12 := Lib.hid (IsWs.below XVB10.out hb12)
    have W12 : Hid (Below w.heap.size w k12) := Below.trans W10.out (hb12.mono W10.out.size)
    have HB12 := HB12_
    have LB12 := LB12_
    clear hb12 A11 B11 Z11 A12 U12 HB12_ LB12_ HX10 LX10 HA10 LA10 XVA10 XVB10 W10
    have KA : Hid (∀ u, Below k12.heap.size k12 u → u.rangeAt (k7.heap.size) 0 [Value.int .u64 (b0 : Int), .int .u64 (b1 : Int), .int .u64 (b2 : Int), .int .u64 (b3 : Int), .int .i64 RE, .slice pA RL.length qA]) := fun u hu => (Blk.below HA12.out hu LA12.out).1
    have KIA : Hid (∀ u, Below k12.heap.size k12 u → IsWs u (.slice pA RL.length qA) RL) := fun u hu => IsWs.below XVA12.out hu
    have KB : Hid (∀ u, Below k12.heap.size k12 u → u.rangeAt (k10.heap.size) 0 [Value.int .u64 (b0 : Int), .int .u64 (b1 : Int), .int .u64 (b2 : Int), .int .u64 (b3 : Int), .int .i64 RE, .slice pB RL.length qB]) := fun u hu => (Blk.below HB12.out hu LB12.out).1
    have KIB : Hid (∀ u, Below k12.heap.size k12 u → IsWs u (.slice pB RL.length qB) RL) := fun u hu => IsWs.below XVB12.out hu
    have ww : Hid ((rok == rok) = true) := by show _ = _; simp
    have WF : Hid (Below w.heap.size w k12) := W12.out
    go_wp2_with fail
    refine region_rel [Spc.eq (.bool true), Spc.eq (.bool true), Spc.eq (.agg [Value.int .u64 (b0 : Int), .int .u64 (b1 : Int), .int .u64 (b2 : Int), .int .u64 (b3 : Int), .int .i64 RE, .slice pA RL.length qA].toArray), Spc.tx 38 k12.heap.size [b0, b1, b2, b3] RE RL, Spc.eq (.agg [Value.int .u64 (b0 : Int), .int .u64 (b1 : Int), .int .u64 (b2 : Int), .int .u64 (b3 : Int), .int .i64 RE, .slice pB RL.length qB].toArray), Spc.eq (.bool true), Spc.eq (.bool true), Spc.eq (.bool true), Spc.eq (.bool rok), Spc.eq (.bool rok), Spc.eq (.bool true), Spc.eq (.bool true), Spc.eq (.bool true)] Try.mixed (by kernel_rfl) ?_
    refine r_value rfl (fun u hu hn => by go_simp) (fun K hK => ?_)
    go_simp
    refine hK _ ?_
    clear hK K
    refine r_value rfl (fun u hu hn => by go_simp) (fun K hK => ?_)
    go_simp
    refine hK _ ?_
    clear hK K
    refine rg_blk_load (by rfl) 43 _ rfl (k7.heap.size) 0 rfl (by intro u hu hn; exact KA.out u hu) _ Try.underlying43 rfl Try.size_itx (fun K hK => ?_)
    go_simp
    refine hK _ ?_
    clear hK K
    refine rg_call (by rfl) 17 Try.f17 Try.func17 rfl rfl _ _ rfl _ rfl (by intro u hu hn; exact (CF.out u _ (KIA.out u hu)).mono fun e u' ⟨v', he, ho, hb⟩ => ⟨_, he, hb, by obtain ⟨av, cv, ev, _⟩ := ho.is.is; exact ⟨av, cv, by rw [ev]⟩, ⟨v', rfl, OW.mono ho hu.size⟩⟩) (fun v hv K hK => ?_)
    obtain ⟨e1, f1, rfl⟩ := hv
    go_simp
    refine hK _ ?_
    clear hK K
    refine rg_blk_load (by rfl) 52 _ rfl (k10.heap.size) 0 rfl (by intro u hu hn; exact KB.out u hu) _ Try.underlying52 rfl Try.size_tx (fun K hK => ?_)
    go_simp
    refine hK _ ?_
    clear hK K
    refine rg_callv (by rfl) 25 Try.f25 Try.func25 rfl rfl _ _ rfl _ rfl (by intro u hu hn; obtain ⟨v1, ev1, ho1⟩ := hn.get 3 1 rfl rfl _ rfl; obtain rfl := tv_inj ev1; exact CE.out u _ _ (OW.is ho1) (KIB.out u hu)) (fun K hK => ?_)
    go_simp
    refine hK _ ?_
    clear hK K
    refine r_value rfl (fun u hu hn => by go_simp) (fun K hK => ?_)
    go_simp
    refine hK _ ?_
    clear hK K
    refine r_value rfl (fun u hu hn => by go_simp) (fun K hK => ?_)
    go_simp
    refine hK _ ?_
    clear hK K
    refine rg_value (by rfl) (fun u hu hn => by go_simp) (fun K hK => ?_)
    go_simp
    refine hK _ ?_
    clear hK K
    refine rg_value (by rfl) (fun u hu hn => by go_simp) (fun K hK => ?_)
    go_simp
    refine hK _ ?_
    clear hK K
    refine rg_value (by rfl) (fun u hu hn => by have hc := ww.out; go_simp) (fun K hK => ?_)
    go_simp
    refine hK _ ?_
    clear hK K
    refine r_value rfl (fun u hu hn => by go_simp) (fun K hK => ?_)
    go_simp
    refine hK _ ?_
    clear hK K
    refine r_value rfl (fun u hu hn => by go_simp) (fun K hK => ?_)
    go_simp
    refine hK _ ?_
    clear hK K
    refine r_nil ?_
    intro u hu _
    have WG : Hid (Below w.heap.size w u) := Below.trans WF.out (hu.mono WF.out.size)
    clear hu
    go_wp2_with fail
    go_ret
    exact ⟨rfl, WG.out⟩

set_option maxRecDepth 100000 in
theorem lifted (os : Os) (started : os.Started) (H : Type) (enc : TypeId × Value → H) :
    ReturnsInHanded {} Try.checked os 5 .any (Rows.itemReadsSpec.pre6 enc Try.prog Try.f5 Rows.itemReadsRow.domain false) (Rows.itemReadsSpec.post enc Try.prog Try.f5 false true false false) := by
  refine returnsInHanded_of_change_sized (C := Try.checked) own started (by kernel_rfl) Try.func5
    (ChangeSpec.witness6 (enc := enc) (C := Try.checked) false ⟨#[], #[.agg #[.int .u64 0, .int .u64 0, .int .u64 0, .int .u64 0, .int .i64 0, .bool false, .slice none 0 0, .bool false], .string ByteArray.empty, .int .u8 0, .int .i64 0, .int .u8 0], []⟩ 8 (by kernel_rfl) (by kernel_rfl) (by kernel_rfl) (by kernel_rfl)) ?_
  intro W base args ds gs before hval0 hW hcnd hsz0 _
  have hval : ∀ (j : Nat) t v, Try.f5.params[j]? = some t → args[j]? = some v → Value.okWide Try.prog W .any base t v := hval0
  have hW' := hW
  obtain ⟨p, q, hA0, hV, rfl, hfz, hnd⟩ := hW
  have hA : DataW.TrodAll enc Try.prog W 0 (fun _ => true) true Try.f5.params.toList args.toList ds p := hA0
  have hsz : (DataW.weightsEach Try.prog (Try.f5.params.toList ++ Rows.itemReadsSpec.plain.varTypes Try.prog) (ds ++ gs)).all (· ≤ reachBytes) = true := hsz0
  rw [Try.params5] at hA hval hsz
  obtain ⟨rfl, rfl⟩ := trodVars_none hV
  have hAk := hA
  have hlt : ∀ x ∈ p, x.block < W.heap.size := fun x hx => by simpa using hW'.lt x (List.mem_append.2 (.inl hx))
  obtain ⟨v0, vs0, d0, ds0, p0, q0, hargs, rfl, rfl, h0, r0⟩ := trodAll_cons hA
  obtain ⟨v1, vs1, d1, ds1, p1, q1, rfl, rfl, rfl, h1, r1⟩ := trodAll_cons r0
  obtain ⟨v2, vs2, d2, ds2, p2, q2, rfl, rfl, rfl, h2, r2⟩ := trodAll_cons r1
  obtain ⟨v3, vs3, d3, ds3, p3, q3, rfl, rfl, rfl, h3, r3⟩ := trodAll_cons r2
  obtain ⟨v4, vs4, d4, ds4, p4, q4, rfl, rfl, rfl, h4, r4⟩ := trodAll_cons r3
  obtain ⟨rfl, rfl, rfl⟩ := trodAll_nil r4
  obtain rfl : args = #[v0, v1, v2, v3, v4] := by cases args; simp_all
  obtain ⟨al0, dd0, mo0, sv0, PL0, ow0, rfl, k0, kd0, ki0, kp0⟩ := open_deal (hval 0 35 v0 rfl rfl) h0 (Sz.arg hsz (j := 0) rfl rfl)
  obtain ⟨a1, rfl, rfl, rfl, w1⟩ := open_string Try.underlying9 (hval 1 9 v1 rfl rfl) h1
  have z1 := sized_string hsz (j := 1) (t := 9) rfl rfl
  obtain ⟨a2, rfl, rfl, rfl, w2⟩ := open_int Try.underlying5 (hval 2 5 v2 rfl rfl) h2
  obtain ⟨a3, rfl, rfl, rfl, w3⟩ := open_int Try.underlying3 (hval 3 3 v3 rfl rfl) h3
  obtain ⟨a4, rfl, rfl, rfl, w4⟩ := open_int Try.underlying5 (hval 4 5 v4 rfl rfl) h4
  clear hA0 hval0 hsz0
  refine (walk al0 dd0 mo0 sv0 PL0 ow0 a1 a2 a3 a4 k0 kd0 kp0 (by rw [Array.length_toList] at z1; exact z1) w2 w3 w4 W ki0).mono fun e W' ⟨he, hg⟩ => ?_
  subst he
  exact ⟨_, rfl, _, _, _, [], _, [], hW', (trodAll_cons_mk (shut_bool Try.underlying4 _) trodAll_mk0), trodAll_below laidOut hg _ _ _ _ (by kernel_rfl) hAk hlt, rfl, hg.frame _, fun h => by cases h⟩

theorem over : Rows.itemReadsRow.holds Try.pinned (OpenSpec.ofChange Rows.itemReadsSpec) :=
  OpenClaim.holds_of_wide 5 Try.f5 rfl rfl rfl rfl rfl rfl rfl ⟨rfl, rfl, rfl, rfl, rfl⟩ rfl rfl rfl rfl rfl (by kernel_rfl) Try.func5 (by kernel_rfl)
    (of_decide_eq_true (by kernel_rfl)) (by unfold Func.isWrapper; first | (rw [if_pos (by decide +kernel)]; kernel_rfl) | (rw [if_neg (by decide +kernel)]; exact ⟨rfl, rfl⟩))
    (fun os started H enc _ => lifted os started H enc)

/-- the statement -/
theorem proved : Rows.ItemReadsSaid :=
  over
#print axioms proved

end Go.Proofs.Ytkfcbihofipcbaa.itemReads
