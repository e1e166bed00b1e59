/-
  Each write is of one shard alone, and the shards' writes together are all of them (the law ItemParts). No conditions.
-/
import Derived.Test.YtkfcbihofipcbaaFrame

import Derived.Test.YtkfcbihofipcbaaItemF

import Derived.Test.YtkfcbihofipcbaaItemWh

import Derived.Test.YtkfcbihofipcbaaFramePut

namespace Go.Proofs.Ytkfcbihofipcbaa.itemParts

open Go.ChangeShapes Go.WideShapes Go.ChangeAt Go.RowKit

open Go.ChangeMaps (open_string shut_string)

open Go.Proofs.Ytkfcbihofipcbaa.Vc Go.Proofs.Ytkfcbihofipcbaa.Sp Go.Proofs.Ytkfcbihofipcbaa.It

set_option linter.unusedVariables false

set_option linter.unusedSimpArgs false

theorem Try.size_dl : (Try.prog.info? 35).map (·.size) = some 8 := by kernel_rfl
/-- how many are of shards below k -/
def cnt (L : List I.Wt) (s : Int) (k : Nat) : Nat := (L.filter fun x => decide (I.shard x.1 x.2.1 s < (k : Int))).length
theorem cnt_step (L : List I.Wt) (s : Int) (k : Nat) : cnt L s (k + 1) = cnt L s k + (I.of L (k : Int) s).length := by
  unfold cnt I.of
  induction L with
  | nil => rfl
  | cons x L ih =>
    rw [List.filter_cons, List.filter_cons, List.filter_cons]
    have e1 : ((k + 1 : Nat) : Int) = (k : Int) + 1 := by omega
    rcases Int.lt_trichotomy (I.shard x.1 x.2.1 s) (k : Int) with h | h | h
    · rw [if_pos (decide_eq_true (by omega)), if_pos (decide_eq_true h), if_neg (by rw [decide_eq_true_eq]; omega), List.length_cons, List.length_cons, ih]; omega
    · rw [if_pos (decide_eq_true (by omega)), if_neg (by rw [decide_eq_true_eq]; omega), if_pos (decide_eq_true h), List.length_cons, List.length_cons, ih]; omega
    · rw [if_neg (by rw [decide_eq_true_eq]; omega), if_neg (by rw [decide_eq_true_eq]; omega), if_neg (by rw [decide_eq_true_eq]; omega), ih]
theorem cnt_zero (L : List I.Wt) (s : Nat) (h : 1 ≤ s) : cnt L (s : Int) 0 = 0 := by
  unfold cnt
  rw [List.length_eq_zero_iff, List.filter_eq_nil_iff]
  intro x _
  have := I.shard_pos x.1 x.2.1 (s : Int) (by omega)
  rw [decide_eq_true_eq]; omega
theorem cnt_all (L : List I.Wt) (s : Nat) (h : 1 ≤ s) : cnt L (s : Int) (s + 2) = L.length := by
  unfold cnt
  congr 1
  rw [List.filter_eq_self]
  intro x _
  have := I.shard_pos x.1 x.2.1 (s : Int) (by omega)
  rw [decide_eq_true_eq]; omega
theorem cnt_le (L : List I.Wt) (s : Int) (k : Nat) : cnt L s k ≤ L.length := List.length_filter_le ..
set_option maxHeartbeats 16000000 in
set_option maxRecDepth 100000 in
theorem walk (al0 : List Nat) (dd0 : Int) (mo0 : Bool) (sv0 : Value) (PL0 : List I.Pt) (ow0 : Bool) (a1 : Int) (k0 : V.Ok al0) (kd0 : (Lit.int .i64 dd0).wf = true) (kp0 : ∀ p ∈ PL0, I.POk p) (w1 : (Lit.int .u8 a1).wf = true) (w : World) (ki0 : IsPs w sv0 PL0) :
    Calls Try.prog 7 #[DV al0 dd0 mo0 sv0 ow0, .int .u8 a1] w fun e w' => e = .returned (.bool true) ∧ Below w.heap.size w w' := by
  have h1 : 0 ≤ a1 ∧ a1 ≤ 255 := by simpa [Lit.wf, IntKind.min, IntKind.max, IntKind.signed, IntKind.bits] using w1
  obtain ⟨n1, rfl, hn1⟩ : ∃ r : Nat, a1 = (r : Int) ∧ r < 256 := ⟨a1.toNat, by omega, by omega⟩
  clear w1 h1
  have hA0 : V.Ok (T.mark al0 dd0 (true || mo0)).1 := T.mark_ok k0 dd0 _
  have hW0 := I.dealW_whole k0.len dd0 mo0 PL0
  have hO0 := I.dealW_ok true PL0 kp0
  have hN0 := I.dealW_len true PL0
  have CD0 : Hid (∀ u, IsPs u sv0 PL0 → Calls Try.prog 14 #[DV al0 dd0 mo0 sv0 true] u fun e w' => ∃ v', e = .returned (TV (T.mark al0 dd0 (true || mo0)).1 (T.mark al0 dd0 (true || mo0)).2 v') ∧ IsWs w' v' (I.dealW true PL0) ∧ Below u.heap.size u w') := fun u hu => deal_any al0 dd0 mo0 sv0 true PL0 u k0 kd0 hu kp0
  obtain ⟨D0, HD0⟩ : ∃ z, Hid ((T.mark al0 dd0 (true || mo0)).2 = z) := ⟨_, rfl⟩
  obtain ⟨A0, HAA0⟩ : ∃ z, Hid ((T.mark al0 dd0 (true || mo0)).1 = z) := ⟨_, rfl⟩
  obtain ⟨L0, HLL0⟩ : ∃ z, Hid (I.dealW true PL0 = z) := ⟨_, rfl⟩
  rw [HD0.out, HAA0.out, HLL0.out] at CD0
  rw [HAA0.out] at hA0
  rw [HLL0.out] at hO0 hN0
  rw [HD0.out, HAA0.out, HLL0.out] at hW0
  have hP0 : 1 ≤ L0.length := by rw [← HLL0.out]; exact I.dealW_pos PL0
  obtain ⟨a00, a01, a02, a03, rfl⟩ := V.four hA0.len
  obtain ⟨l00, l01, l02, l03, rfl⟩ := V.four k0.len
  have KI0 := Lib.hid ki0
  clear HD0 HAA0 k0 kd0 kp0 ki0
  obtain ⟨s, hs⟩ : ∃ s, s = 1 + n1 % 8 := ⟨_, rfl⟩
  have hs1 : 1 ≤ s := by omega
  have hs8 : s ≤ 8 := by omega
  have t1 : Hid ((n1 : Int).tmod 8 = ((s - 1 : Nat) : Int) ∧ (n1 : Int) % 8 = ((s - 1 : Nat) : Int)) := ⟨by rw [Int.tmod_eq_emod_of_nonneg (by omega)]; omega, by omega⟩
  have u1 : Hid (IntKind.u8.wrap ((s - 1 : Nat) : Int) = ((s - 1 : Nat) : Int)) := by show _ = _; simp [IntKind.wrap, IntKind.bits, IntKind.signed]; omega
  have i1 : Hid (IntKind.i64.wrap ((s - 1 : Nat) : Int) = ((s - 1 : Nat) : Int)) := wrapi (by omega) (by omega)
  have s1e : Hid (IntKind.i64.wrap (1 + ((s - 1 : Nat) : Int)) = (s : Int)) := by show _ = _; rw [wrapi (by omega) (by omega)]; omega
  have hO : ∀ x ∈ L0, x.1.size ≤ 140737488355328 ∧ x.2.1.size ≤ 140737488355328 := fun x hx => ⟨(hO0 x hx).b, (hO0 x hx).k⟩
  have HOO := Lib.hid hO
  have CO : Hid (∀ u v (k : Nat), k ≤ 10 → IsWs u v L0 → Calls Try.prog 26 #[TV [a00, a01, a02, a03] D0 v, .int .i64 (k : Int), .int .i64 (s : Int)] u fun e w' => ∃ v', e = .returned v' ∧ OW 23 w' u.heap.size v' (I.of L0 (k : Int) (s : Int)) ∧ Below u.heap.size u w') := fun u v k hk hv => of_any [a00, a01, a02, a03] D0 v L0 (k : Int) (s : Int) u rfl hv (by omega) HOO.out (by omega) (by omega)
  have CH0 : Hid (∀ u, Calls Try.prog 28 #[.string ⟨#[98]⟩, .string ⟨#[107]⟩, .int .i64 0] u fun e w' => e = .returned (.int .i64 1) ∧ Below u.heap.size u w') := fun u => shard_any ⟨#[98]⟩ ⟨#[107]⟩ 0 u (by decide +kernel) (by decide +kernel) (by decide) (by decide)
  have CH5 : Hid (∀ u, Calls Try.prog 28 #[.string ⟨#[98]⟩, .string ⟨#[107]⟩, .int .i64 (-5)] u fun e w' => e = .returned (.int .i64 1) ∧ Below u.heap.size u w') := fun u => shard_any ⟨#[98]⟩ ⟨#[107]⟩ (-5) u (by decide +kernel) (by decide +kernel) (by decide) (by decide)
  clear hs hn1 hO hO0 hW0 hA0 hP0
  go_enter Try.func7, Try.ntmps7
  have W0 : Hid (Below w.heap.size w w) := Below.refl _ _
  go_wp2_with (first | refine blk_box rfl 35 _ rfl [.int .u64 (l00 : Int), .int .u64 (l01 : Int), .int .u64 (l02 : Int), .int .u64 (l03 : Int), .int .i64 dd0, .bool mo0, sv0, .bool ow0] rfl ?_)
  intro k1 A1 B1 Z1
  have hb1 : Below w.heap.size w k1 := B1
  have HX1_ : Hid (Blk k1 (w.heap.size) [.int .u64 (l00 : Int), .int .u64 (l01 : Int), .int .u64 (l02 : Int), .int .u64 (l03 : Int), .int .i64 dd0, .bool mo0, sv0, .bool ow0]) := A1
  have LX1_ : Hid (w.heap.size < k1.heap.size) := by show _ < _; omega
  have W1 : Hid (Below w.heap.size w k1) := Below.trans W0.out (hb1.mono W0.out.size)
  have HX1 := HX1_
  have LX1 := LX1_
  clear hb1 A1 B1 Z1 W0 HX1_ LX1_
  go_wp2_with fail
  refine (examples_any _).mono ?_; rintro e k2 ⟨rfl, hb2⟩
  have HX2 : Hid (Blk k2 (w.heap.size) [.int .u64 (l00 : Int), .int .u64 (l01 : Int), .int .u64 (l02 : Int), .int .u64 (l03 : Int), .int .i64 dd0, .bool mo0, sv0, .bool ow0]) := Blk.below HX1.out hb2 LX1.out
  have LX2 : Hid (w.heap.size < k2.heap.size) := Nat.lt_of_lt_of_le LX1.out hb2.size
  have W2 : Hid (Below w.heap.size w k2) := Below.trans W1.out (hb2.mono W1.out.size)
  clear hb2 HX1 LX1 W1 
  have cf3 := HX2.out.cell 7 _ rfl
  have ff3 := HX2.out.free 7 (by simp)
  have U3 : Upd (w.heap.size) k2 (k2.setCell ⟨w.heap.size, 7, none⟩ (.bool true)) := Upd.setCell _ _ _ _
  have A3 : Blk (k2.setCell ⟨w.heap.size, 7, none⟩ (.bool true)) (w.heap.size) [.int .u64 (l00 : Int), .int .u64 (l01 : Int), .int .u64 (l02 : Int), .int .u64 (l03 : Int), .int .i64 dd0, .bool mo0, sv0, .bool true] := Blk.setc HX2.out 7 (by simp) (.bool true)
  have HX3 : Hid (Blk (k2.setCell ⟨w.heap.size, 7, none⟩ (.bool true)) (w.heap.size) [.int .u64 (l00 : Int), .int .u64 (l01 : Int), .int .u64 (l02 : Int), .int .u64 (l03 : Int), .int .i64 dd0, .bool mo0, sv0, .bool true]) := A3
  have LX3 : Hid (w.heap.size < (k2.setCell ⟨w.heap.size, 7, none⟩ (.bool true)).heap.size) := by show _ < _; rw [U3.size]; exact LX2.out
  have W3 : Hid (Below w.heap.size w (k2.setCell ⟨w.heap.size, 7, none⟩ (.bool true))) := Below.trans W2.out (U3.below (by omega))
  clear A3 U3 HX2 LX2 W2
  go_wp2_with (first | refine blk_load rfl 35 _ rfl (w.heap.size) rfl [.int .u64 (l00 : Int), .int .u64 (l01 : Int), .int .u64 (l02 : Int), .int .u64 (l03 : Int), .int .i64 dd0, .bool mo0, sv0, .bool true] HX3.out _ Try.underlying35 rfl Try.size_dl ?_)
  refine (CD0.out _ (IsPs.below KI0.out W3.out)).mono ?_; rintro e k4 ⟨v, rfl, hi, hb4⟩
  have HX4 : Hid (Blk k4 (w.heap.size) [.int .u64 (l00 : Int), .int .u64 (l01 : Int), .int .u64 (l02 : Int), .int .u64 (l03 : Int), .int .i64 dd0, .bool mo0, sv0, .bool true]) := Blk.below HX3.out hb4 LX3.out
  have LX4 : Hid (w.heap.size < k4.heap.size) := Nat.lt_of_lt_of_le LX3.out hb4.size
  have W4 : Hid (Below w.heap.size w k4) := Below.trans W3.out (hb4.mono W3.out.size)
  clear hb4 HX3 LX3 W3 
  obtain ⟨s0, c0, ev, _⟩ := hi.is
  subst ev
  have XV04 := Lib.hid hi
  clear hi
  go_wp2_with (first | refine blk_alloc rfl 43 (ks .u64 [0, 0, 0, 0] ++ [Value.int .i64 0, .slice none 0 0]) rfl Try.info_itx ?_)
  intro k5 A5 B5 Z5
  go_wp2_with (first | refine blk_store rfl 43 _ _ rfl (k4.heap.size) rfl [Value.int .u64 (a00 : Int), .int .u64 (a01 : Int), .int .u64 (a02 : Int), .int .u64 (a03 : Int), .int .i64 D0, .slice s0 L0.length c0] rfl _ A5 rfl Try.size_itx rfl ?_)
  intro k6 A6 U6
  have hb6 : Below k4.heap.size k4 k6 := B5.trans (U6.below (Nat.le_refl _))
  have HT6_ : Hid (Blk k6 (k4.heap.size) [Value.int .u64 (a00 : Int), .int .u64 (a01 : Int), .int .u64 (a02 : Int), .int .u64 (a03 : Int), .int .i64 D0, .slice s0 L0.length c0]) := A6
  have LT6_ : Hid (k4.heap.size < k6.heap.size) := by show _ < _; rw [U6.size]; omega
  have HX6 : Hid (Blk k6 (w.heap.size) [.int .u64 (l00 : Int), .int .u64 (l01 : Int), .int .u64 (l02 : Int), .int .u64 (l03 : Int), .int .i64 dd0, .bool mo0, sv0, .bool true]) := Blk.below HX4.out hb6 LX4.out
  have LX6 : Hid (w.heap.size < k6.heap.size) := Nat.lt_of_lt_of_le LX4.out hb6.size
  have XV06 := Lib.hid (IsWs.below XV04.out hb6)
  have W6 : Hid (Below w.heap.size w k6) := Below.trans W4.out (hb6.mono W4.out.size)
  have HT6 := HT6_
  have LT6 := LT6_
  clear hb6 A5 B5 Z5 A6 U6 HT6_ LT6_ HX4 LX4 XV04 W4
  have e1 := t1.out.1
  have e2 := t1.out.2
  have e3 := u1.out
  have e4 := i1.out
  have e5 := s1e.out
  go_wp2_with fail
  clear e1 e2 e3 e4 e5 t1 u1 i1 s1e
  obtain ⟨N, HN⟩ : ∃ z, Hid (L0.length = z) := ⟨_, rfl⟩
  rw [HN.out] at hN0
  have HC0 : Hid (cnt L0 (s : Int) 0 = 0) := cnt_zero L0 s hs1
  have w2e : IntKind.i64.wrap ((s : Int) + 1) = (s : Int) + 1 := wrapi (by omega) (by omega)
  go_loopw [8, 9] (fun mv kv wr => ∃ (j c : Nat), j ≤ s + 2 ∧ c ≤ 10 ∧ kv = .int .i64 j ∧ mv = .int .i64 c ∧ Hid (cnt L0 (s : Int) j = c) ∧ Hid (Below k6.heap.size k6 wr)) (fun _ kv _ => s + 2 - (intOf kv).toNat)
  case atStart => exact ⟨0, 0, by omega, by omega, rfl, rfl, HC0, Below.refl _ _⟩
  case round =>
    obtain ⟨j, c, hj, hc, rfl, rfl, HCj, HBk⟩ := hrel
    obtain ⟨wa, rfl⟩ : ∃ x : World, x = wr := ⟨_, rfl⟩
    have HT50 : Hid (Blk wa (k4.heap.size) [Value.int .u64 (a00 : Int), .int .u64 (a01 : Int), .int .u64 (a02 : Int), .int .u64 (a03 : Int), .int .i64 D0, .slice s0 L0.length c0]) := Blk.below HT6.out HBk.out LT6.out
    have LT50 : Hid (k4.heap.size < wa.heap.size) := Nat.lt_of_lt_of_le LT6.out HBk.out.size
    have XV50 := Lib.hid (IsWs.below XV06.out HBk.out)
    by_cases hlt : j < s + 2
    · have ilt : (j : Int) ≤ (s : Int) + 1 := by omega
      have jle : j ≤ 10 := by omega
      go_wp2_with (first | refine blk_load rfl 43 _ rfl (k4.heap.size) rfl [Value.int .u64 (a00 : Int), .int .u64 (a01 : Int), .int .u64 (a02 : Int), .int .u64 (a03 : Int), .int .i64 D0, .slice s0 L0.length c0] HT50.out _ Try.underlying43 rfl Try.size_itx ?_)
      refine (CO.out _ _ j jle XV50.out).mono ?_; rintro e k60 ⟨v', rfl, ho, hb60⟩
      obtain ⟨av, cv, ev, _⟩ := ho.is.is
      subst ev
      have HI60 := Lib.hid ho.is
      have HB60 : Hid (Below k6.heap.size k6 k60) := Below.trans HBk.out (hb60.mono HBk.out.size)
      have hcs := cnt_step L0 (s : Int) j
      rw [HCj.out] at hcs
      have hcl := cnt_le L0 (s : Int) (j + 1)
      rw [HN.out] at hcl
      have HMEM : Hid (∀ i, i < (I.of L0 (j : Int) (s : Int)).length → (I.of L0 (j : Int) (s : Int)).getD i I.none_ ∈ L0 ∧ I.shard ((I.of L0 (j : Int) (s : Int)).getD i I.none_).1 ((I.of L0 (j : Int) (s : Int)).getD i I.none_).2.1 (s : Int) = (j : Int)) := fun i hi => by
        rw [List.getD_eq_getElem?_getD, List.getElem?_eq_getElem hi]
        have := List.getElem_mem hi
        obtain ⟨m1, m2⟩ := List.mem_filter.1 this
        exact ⟨m1, of_decide_eq_true m2⟩
      obtain ⟨M, HM⟩ : ∃ z, Hid (I.of L0 (j : Int) (s : Int) = z) := ⟨_, rfl⟩
      rw [HM.out] at HI60 hcs HMEM
      rw [HM.out]
      obtain ⟨m, HMM⟩ : ∃ z, Hid (M.length = z) := ⟨_, rfl⟩
      rw [HMM.out] at HI60 hcs HMEM
      rw [HMM.out]
      have HCN : Hid (cnt L0 (s : Int) (j + 1) = c + m) := hcs
      have hcm : c + m ≤ 10 := by omega
      have wcm : IntKind.i64.wrap ((c : Int) + (m : Int)) = ((c + m : Nat) : Int) := by rw [wrapi (by omega) (by omega)]; omega
      clear ho hb60 hcs hcl HBk HT50 LT50 XV50 HCj
      go_wp2_with fail
      clear wcm
      go_loopw [11] (fun iv wr => ∃ i : Nat, i ≤ m ∧ iv = .int .i64 i ∧ Hid (Below k60.heap.size k60 wr)) (fun iv _ => m - (intOf iv).toNat)
      case atStart => exact ⟨0, by omega, rfl, Below.refl _ _⟩
      case round =>
        obtain ⟨i, hi, rfl, HBi⟩ := hrel
        by_cases him : i < m
        · have iim : (i : Int) < (m : Int) := by omega
          obtain ⟨g2, off2, cap2, hv, hg2, hrow2⟩ := IsWs.at (IsWs.below HI60.out HBi.out) i (by rw [HMM.out]; exact him)
          have hv2 := hv
          simp only [Value.slice.injEq] at hv2
          obtain ⟨rfl, hnl, rfl⟩ := hv2
          clear hv hnl
          obtain ⟨hm1, hm2⟩ := HMEM.out i him
          have hoo := HOO.out _ hm1
          obtain ⟨z, HZ⟩ : ∃ z, Hid (M.getD i I.none_ = z) := ⟨_, rfl⟩
          rw [HZ.out] at hrow2 hm2 hoo
          obtain ⟨zb, zk, zv, zg⟩ := z
          simp only at hm2 hoo
          have hsp := I.shard_pos zb zk (s : Int) (by omega)
          rw [hm2] at hsp
          have CS : Hid (∀ u, Below wr.heap.size wr u → Calls Try.prog 28 [.string zb, .string zk, .int .i64 (s : Int)].toArray u fun e u' => e = .returned (.int .i64 (j : Int)) ∧ Below wr.heap.size wr u') := fun u hu => by
            have := shard_any zb zk (s : Int) u hoo.1 hoo.2 (by omega) (by omega)
            rw [hm2] at this
            exact Calls.more hu this
          have q1 : Hid (((j : Int) != (j : Int)) = false) := by show _ = _; simp
          have q2 : Hid (decide ((j : Int) < 1) = false) := by show _ = _; simp; omega
          have q3 : Hid (decide ((s : Int) < (j : Int)) = false ∧ j ≤ s) := ⟨decide_eq_false (by omega), by omega⟩
          have KZ0 : Hid (∀ u, Below wr.heap.size wr u → u.cell? ⟨g2, off2 + 4 * i, none⟩ = some (.string zb)) := fun u hu => by rw [hu.cell (p := ⟨g2, off2 + 4 * i, none⟩) hg2]; exact hrow2 0 _ rfl
          have KZ1 : Hid (∀ u, Below wr.heap.size wr u → u.cell? ⟨g2, off2 + 4 * i + 1, none⟩ = some (.string zk)) := fun u hu => by rw [hu.cell (p := ⟨g2, off2 + 4 * i + 1, none⟩) hg2]; exact hrow2 1 _ rfl
          clear hrow2 hm1 hm2 hoo hsp hg2
          go_wp2_with fail
          refine region_w Try.mixed (by kernel_rfl) ?_
          refine w_move rfl _ rfl (.slice (some ⟨g2, off2, none⟩) m cv) rfl (fun K hK => ?_)
          go_simp
          refine hK _ ?_
          clear hK K
          refine w_move rfl _ rfl (.int .i64 (i : Int)) rfl (fun K hK => ?_)
          go_simp
          refine hK _ ?_
          clear hK K
          refine w_value rfl (.pointer (some ⟨g2, off2 + 4 * i, none⟩)) (fun u hu => by have hc := index_iw g2 off2 m cv i him u; go_simp) (fun K hK => ?_)
          go_simp
          refine hK _ ?_
          clear hK K
          refine w_value rfl (.pointer (some ⟨g2, off2 + 4 * i, none⟩)) (fun u hu => by go_simp) (fun K hK => ?_)
          go_simp
          refine hK _ ?_
          clear hK K
          refine w_value rfl (.string zb) (fun u hu => by have hc := KZ0.out u hu; go_simp) (fun K hK => ?_)
          go_simp
          refine hK _ ?_
          clear hK K
          refine w_move rfl _ rfl (.slice (some ⟨g2, off2, none⟩) m cv) rfl (fun K hK => ?_)
          go_simp
          refine hK _ ?_
          clear hK K
          refine w_move rfl _ rfl (.int .i64 (i : Int)) rfl (fun K hK => ?_)
          go_simp
          refine hK _ ?_
          clear hK K
          refine w_value rfl (.pointer (some ⟨g2, off2 + 4 * i, none⟩)) (fun u hu => by have hc := index_iw g2 off2 m cv i him u; go_simp) (fun K hK => ?_)
          go_simp
          refine hK _ ?_
          clear hK K
          refine w_value rfl (.pointer (some ⟨g2, off2 + 4 * i + 1, none⟩)) (fun u hu => by go_simp) (fun K hK => ?_)
          go_simp
          refine hK _ ?_
          clear hK K
          refine w_value rfl (.string zk) (fun u hu => by have hc := KZ1.out u hu; go_simp) (fun K hK => ?_)
          go_simp
          refine hK _ ?_
          clear hK K
          refine w_move rfl _ rfl (.int .i64 (s : Int)) rfl (fun K hK => ?_)
          go_simp
          refine hK _ ?_
          clear hK K
          refine w_call rfl 28 Try.f28 Try.func28 rfl rfl _ _ rfl _ rfl (.int .i64 (j : Int)) (by exact CS.out) (fun K hK => ?_)
          go_simp
          refine hK _ ?_
          clear hK K
          refine w_move rfl _ rfl (.int .i64 (j : Int)) rfl (fun K hK => ?_)
          go_simp
          refine hK _ ?_
          clear hK K
          refine w_value rfl (.bool false) (fun u hu => by have hc := q1.out; go_simp) (fun K hK => ?_)
          go_simp
          refine hK _ ?_
          clear hK K
          refine w_move rfl _ rfl (.bool false) rfl (fun K hK => ?_)
          go_simp
          refine hK _ ?_
          clear hK K
          refine wg_value (by rfl) (.int .i64 (j : Int)) (fun u hu => by go_simp) (fun K hK => ?_)
          go_simp
          refine hK _ ?_
          clear hK K
          refine wg_value (by rfl) (.bool false) (fun u hu => by have hc := q2.out; go_simp) (fun K hK => ?_)
          go_simp
          refine hK _ ?_
          clear hK K
          refine w_value rfl (.bool false) (fun u hu => by go_simp) (fun K hK => ?_)
          go_simp
          refine hK _ ?_
          clear hK K
          refine w_move rfl _ rfl (.bool false) rfl (fun K hK => ?_)
          go_simp
          refine hK _ ?_
          clear hK K
          refine wg_value (by rfl) (.int .i64 (j : Int)) (fun u hu => by go_simp) (fun K hK => ?_)
          go_simp
          refine hK _ ?_
          clear hK K
          refine wg_value (by rfl) (.int .i64 (s : Int)) (fun u hu => by go_simp) (fun K hK => ?_)
          go_simp
          refine hK _ ?_
          clear hK K
          refine wg_value (by rfl) (.bool false) (fun u hu => by have hc := q3.out.1; have hd := q3.out.2; go_simp) (fun K hK => ?_)
          go_simp
          refine hK _ ?_
          clear hK K
          refine w_value rfl (.bool false) (fun u hu => by go_simp) (fun K hK => ?_)
          go_simp
          refine hK _ ?_
          clear hK K
          refine w_nil ?_
          intro u hu
          have HBu : Hid (Below k60.heap.size k60 u) := Below.trans HBi.out (hu.mono HBi.out.size)
          clear hu HBi KZ0 KZ1 CS q1 q2 q3
          go_wp2_with fail
          go_roundw
          case rel => exact ⟨i + 1, by omega, by go_num, HBu⟩
          case measure => simp [intOf]; omega
        · obtain rfl : i = m := by omega
          have HBz : Hid (Below k6.heap.size k6 wr) := Below.trans HB60.out (HBi.out.mono HB60.out.size)
          clear HBi HB60
          go_wp2_with fail
          go_roundw
          case rel => exact ⟨j + 1, c + i, by omega, by omega, by go_num, rfl, HCN, HBz⟩
          case measure => simp [intOf]; omega
    · obtain rfl : j = s + 2 := by omega
      have hfin := cnt_all L0 s hs1
      rw [HCj.out, HN.out] at hfin
      subst hfin
      have ilt : decide (((s + 2 : Nat) : Int) ≤ (s : Int) + 1) = false := decide_eq_false (by omega)
      have jlt : ¬ (((s + 2 : Nat) : Int) ≤ (s : Int) + 1) := by omega
      have ieq : ((c : Int) == (c : Int)) = true := by simp
      rw [HN.out] at HT50
      have c5 := HT50.out.cell 5 _ rfl
      have HWa : Hid (Below w.heap.size w wa) := Below.trans W6.out (HBk.out.mono W6.out.size)
      go_wp2_with fail
      refine (CH0.out _).mono ?_; rintro e k70 ⟨rfl, hb70⟩
      have HW70 : Hid (Below w.heap.size w k70) := Below.trans HWa.out (hb70.mono HWa.out.size)
      clear hb70 c5
      go_wp2_with fail
      refine (CH5.out _).mono ?_; rintro e k71 ⟨rfl, hb71⟩
      have HW71 : Hid (Below w.heap.size w k71) := Below.trans HW70.out (hb71.mono HW70.out.size)
      clear hb71
      go_wp2_with fail
      go_ret
      exact ⟨rfl, HW71.out⟩

set_option maxRecDepth 100000 in
theorem lifted (os : Os) (started : os.Started) (H : Type) (enc : TypeId × Value → H) :
    ReturnsInHanded {} Try.checked os 7 .any (Rows.itemPartsSpec.pre6 enc Try.prog Try.f7 Rows.itemPartsRow.domain false) (Rows.itemPartsSpec.post enc Try.prog Try.f7 false true false false) := by
  refine returnsInHanded_of_change_sized (C := Try.checked) own started (by kernel_rfl) Try.func7
    (ChangeSpec.witness6 (enc := enc) (C := Try.checked) false ⟨#[], #[.agg #[.int .u64 0, .int .u64 0, .int .u64 0, .int .u64 0, .int .i64 0, .bool false, .slice none 0 0, .bool false], .int .u8 0], []⟩ 8 (by kernel_rfl) (by kernel_rfl) (by kernel_rfl) (by kernel_rfl)) ?_
  intro W base args ds gs before hval0 hW hcnd hsz0 _
  have hval : ∀ (j : Nat) t v, Try.f7.params[j]? = some t → args[j]? = some v → Value.okWide Try.prog W .any base t v := hval0
  have hW' := hW
  obtain ⟨p, q, hA0, hV, rfl, hfz, hnd⟩ := hW
  have hA : DataW.TrodAll enc Try.prog W 0 (fun _ => true) true Try.f7.params.toList args.toList ds p := hA0
  have hsz : (DataW.weightsEach Try.prog (Try.f7.params.toList ++ Rows.itemPartsSpec.plain.varTypes Try.prog) (ds ++ gs)).all (· ≤ reachBytes) = true := hsz0
  rw [Try.params7] at hA hval hsz
  obtain ⟨rfl, rfl⟩ := trodVars_none hV
  have hAk := hA
  have hlt : ∀ x ∈ p, x.block < W.heap.size := fun x hx => by simpa using hW'.lt x (List.mem_append.2 (.inl hx))
  obtain ⟨v0, vs0, d0, ds0, p0, q0, hargs, rfl, rfl, h0, r0⟩ := trodAll_cons hA
  obtain ⟨v1, vs1, d1, ds1, p1, q1, rfl, rfl, rfl, h1, r1⟩ := trodAll_cons r0
  obtain ⟨rfl, rfl, rfl⟩ := trodAll_nil r1
  obtain rfl : args = #[v0, v1] := by cases args; simp_all
  obtain ⟨al0, dd0, mo0, sv0, PL0, ow0, rfl, k0, kd0, ki0, kp0⟩ := open_deal (hval 0 35 v0 rfl rfl) h0 (Sz.arg hsz (j := 0) rfl rfl)
  obtain ⟨a1, rfl, rfl, rfl, w1⟩ := open_int Try.underlying5 (hval 1 5 v1 rfl rfl) h1
  clear hA0 hval0 hsz0
  refine (walk al0 dd0 mo0 sv0 PL0 ow0 a1 k0 kd0 kp0 w1 W ki0).mono fun e W' ⟨he, hg⟩ => ?_
  subst he
  exact ⟨_, rfl, _, _, _, [], _, [], hW', (trodAll_cons_mk (shut_bool Try.underlying4 _) trodAll_mk0), trodAll_below laidOut hg _ _ _ _ (by kernel_rfl) hAk hlt, rfl, hg.frame _, fun h => by cases h⟩

theorem over : Rows.itemPartsRow.holds Try.pinned (OpenSpec.ofChange Rows.itemPartsSpec) :=
  OpenClaim.holds_of_wide 7 Try.f7 rfl rfl rfl rfl rfl rfl rfl ⟨rfl, rfl, rfl, rfl, rfl⟩ rfl rfl rfl rfl rfl (by kernel_rfl) Try.func7 (by kernel_rfl)
    (of_decide_eq_true (by kernel_rfl)) (by unfold Func.isWrapper; first | (rw [if_pos (by decide +kernel)]; kernel_rfl) | (rw [if_neg (by decide +kernel)]; exact ⟨rfl, rfl⟩))
    (fun os started H enc _ => lifted os started H enc)

/-- the statement -/
theorem proved : Rows.ItemPartsSaid :=
  over
#print axioms proved

end Go.Proofs.Ytkfcbihofipcbaa.itemParts
