/- The document's own answer to chapter 8: Same, Of. -/
import Derived.Test.YtkfcbihofipcbaaItemRB

import Derived.Test.YtkfcbihofipcbaaItemEq

namespace Go.Proofs.Ytkfcbihofipcbaa.It

open Go.RowKit Go.Proofs.Ytkfcbihofipcbaa.Vc Go.Proofs.Ytkfcbihofipcbaa.Sp

set_option linter.unusedVariables false

set_option linter.unusedSimpArgs false

set_option maxRecDepth 100000

set_option maxHeartbeats 8000000 in
theorem ref_same (a : List Nat) (d : Int) (v : Value) (L : List I.Wt) (b : List Nat) (f : Int) (v' : Value) (M : List I.Wt) (w : World) (ha : a.length = 4) (hb : b.length = 4) (hL : IsWs w v L) (hM : IsWs w v' M) :
    Calls Try.prog 25 #[TV a d v, TV b f v'] w fun e w' => e = .returned (.bool (I.same a d L b f M)) ∧ Below w.heap.size w w' := by
  have HA := Lib.hid ha
  have HB := Lib.hid hb
  have HSa := Lib.hid (size_rs (d := d) ha)
  have HSb := Lib.hid (size_rs (d := f) hb)
  have HE := Lib.hid (fun w => neq_rs a b d f ha hb w)
  unfold I.same
  obtain ⟨sa, ca, rfl, hca, hma, _⟩ := hL.is
  obtain ⟨sb, cb, rfl, hcb, hmb, _⟩ := hM.is
  obtain ⟨n, HN⟩ : ∃ n, Hid (L.length = n) := ⟨_, rfl⟩
  obtain ⟨m, HM⟩ : ∃ n, Hid (M.length = n) := ⟨_, rfl⟩
  have HL := Lib.hid hL
  have HLM := Lib.hid hM
  rw [HN.out] at HL hca
  rw [HM.out] at HLM
  have hn63 : n ≤ 9223372036854775807 := by unfold maxLen at hma; omega
  rw [HN.out, HM.out]
  obtain ⟨r, HR⟩ : ∃ r, Hid ((T.same a d b f && decide (L = M)) = r) := ⟨_, rfl⟩
  rw [HR.out]
  clear ha hb hL hM hca hma hcb hmb
  go_enter Try.func25, Try.ntmps25
  go_wp2_with (first | refine blk_box rfl 52 _ rfl (ks .u64 a ++ [Value.int .i64 d, .slice sa n ca]) rfl ?_)
  intro w1 A1 B1 Z1
  go_wp2_with (first | refine blk_box rfl 52 _ rfl (ks .u64 b ++ [Value.int .i64 f, .slice sb m cb]) rfl ?_)
  intro w2 A2 B2 Z2
  have HL2 : Hid (IsWs w2 (.slice sa n ca) L) := IsWs.below HL.out (B1.trans (B2.mono (by omega)))
  have HM2 : Hid (IsWs w2 (.slice sb m cb) M) := IsWs.below HLM.out (B1.trans (B2.mono (by omega)))
  have HA2 : Hid (Blk w2 w.heap.size (ks .u64 a ++ [Value.int .i64 d, .slice sa n ca])) := Blk.below A1 B2 (by omega)
  have HB2 : Hid (Blk w2 (w.heap.size + 1) (ks .u64 b ++ [Value.int .i64 f, .slice sb m cb])) := A2
  have HW2 : Hid (Below w.heap.size w w2) := B1.trans (B2.mono (by omega))
  have HZ2 : Hid (w.heap.size + 1 < w2.heap.size) := by show _ < _; omega
  have c5 := tx_cell HA2.out HA.out
  have d5 := tx_cell HB2.out HB.out
  clear A1 B1 A2 B2 Z1 Z2 HL HLM
  cases hs : T.same a d b f with
  | false =>
    obtain rfl : false = r := by rw [← HR.out, hs]; rfl
    rw [hs] at HE
    clear hs
    go_wp2_with (first | refine sub_load rfl 50 _ rfl w.heap.size rfl (ks .u64 a ++ [Value.int .i64 d]) [.slice sa n ca] (tx_stamp HA2.out) _ Try.underlying50 rfl HSa.out ?_ | refine sub_load rfl 50 _ rfl (w.heap.size + 1) rfl (ks .u64 b ++ [Value.int .i64 f]) [.slice sb m cb] (tx_stamp HB2.out) _ Try.underlying50 rfl HSb.out ?_ | refine val_step rfl (.bool true) (run_eql _ .neq 50 50 _ _ (SV a d) (SV b f) _ rfl rfl rfl (guard_nrs _ _ _ _ _ _ _) (HE.out _)) ?_)
    go_ret
    exact ⟨rfl, HW2.out⟩
  | true =>
    rw [hs] at HE
    rw [hs, Bool.true_and] at HR
    clear hs
    by_cases hnm : n = m
    · subst hnm
      have inm : ((n : Int) != (n : Int)) = false := by simp
      go_wp2_with (first | refine sub_load rfl 50 _ rfl w.heap.size rfl (ks .u64 a ++ [Value.int .i64 d]) [.slice sa n ca] (tx_stamp HA2.out) _ Try.underlying50 rfl HSa.out ?_ | refine sub_load rfl 50 _ rfl (w.heap.size + 1) rfl (ks .u64 b ++ [Value.int .i64 f]) [.slice sb n cb] (tx_stamp HB2.out) _ Try.underlying50 rfl HSb.out ?_ | refine val_step rfl (.bool false) (run_eql _ .neq 50 50 _ _ (SV a d) (SV b f) _ rfl rfl rfl (guard_nrs _ _ _ _ _ _ _) (HE.out _)) ?_)
      go_loopw [5] (fun i wr => ∃ j : Nat, j ≤ n ∧ i = .int .i64 j ∧ Hid (L.take j = M.take j) ∧ Hid (Blk wr w.heap.size (ks .u64 a ++ [Value.int .i64 d, .slice sa n ca])) ∧ Hid (Blk wr (w.heap.size + 1) (ks .u64 b ++ [Value.int .i64 f, .slice sb n cb])) ∧ Hid (IsWs wr (.slice sa n ca) L) ∧ Hid (IsWs wr (.slice sb n cb) M) ∧ Hid (Below w.heap.size w wr) ∧ Hid (w.heap.size + 1 < wr.heap.size)) (fun i _ => n - (intOf i).toNat)
      case atStart => exact ⟨0, by omega, rfl, rfl, HA2, HB2, HL2, HM2, HW2, HZ2⟩
      case round =>
        obtain ⟨j, hj, rfl, HT, HAr, HBr, HLr, HMr, HWr, HZr⟩ := hrel
        clear HA2 HB2 HL2 HM2 HW2 HZ2 c5 d5 inm
        by_cases hlt : j < n
        · have ilt : (j : Int) < (n : Int) := by omega
          have c5 := tx_cell HAr.out HA.out
          obtain ⟨g, off, cap', hv, hg, hrow⟩ := IsWs.at HLr.out j (by rw [HN.out]; exact hlt)
          obtain rfl : sa = some ⟨g, off, none⟩ := by injection hv
          clear hv
          obtain ⟨h, pff, cap', hv, hh, hrow'⟩ := IsWs.at HMr.out j (by rw [HM.out]; exact hlt)
          obtain rfl : sb = some ⟨h, pff, none⟩ := by injection hv
          clear hv
          have hts := I.take_same L M j HT.out (by rw [HN.out]; exact hlt) (by rw [HM.out]; exact hlt)
          have hne : L.getD j I.none_ ≠ M.getD j I.none_ → L ≠ M := fun h e => h (by rw [e])
          obtain ⟨x, HX⟩ : ∃ x, Hid (L.getD j I.none_ = x) := ⟨_, rfl⟩
          obtain ⟨y, HY⟩ : ∃ x, Hid (M.getD j I.none_ = x) := ⟨_, rfl⟩
          rw [HX.out] at hrow hts hne
          rw [HY.out] at hrow' hts hne
          have HTS := Lib.hid hts
          have HNE := Lib.hid hne
          have K5 : Hid (∀ u, Below wr.heap.size wr u → u.cell? ⟨w.heap.size, 5, none⟩ = some (.slice (some ⟨g, off, none⟩) n ca)) := fun u hu => tx_cell (Blk.below HAr.out hu (Nat.lt_of_succ_lt HZr.out)) HA.out
          have K6 : Hid (∀ u, Below wr.heap.size wr u → u.cell? ⟨w.heap.size + 1, 5, none⟩ = some (.slice (some ⟨h, pff, none⟩) n cb)) := fun u hu => tx_cell (Blk.below HBr.out hu HZr.out) HB.out
          have KR : Hid (∀ u, Below wr.heap.size wr u → u.rangeAt g (off + 4 * j) (wc x)) := fun u hu k v hv => by rw [hu.cell (p := ⟨g, off + 4 * j + k, none⟩) hg]; exact hrow k v hv
          have KS : Hid (∀ u, Below wr.heap.size wr u → u.rangeAt h (pff + 4 * j) (wc y)) := fun u hu k v hv => by rw [hu.cell (p := ⟨h, pff + 4 * j + k, none⟩) hh]; exact hrow' k v hv
          obtain ⟨q, HQ⟩ : ∃ q, Hid ((!decide (x = y)) = q) := ⟨_, rfl⟩
          have HNQ : Hid (∀ w, (binOp .neq 38 (WV x) (WV y)).run Try.prog w = .ok (.bool q) w) := fun w => by rw [← HQ.out]; exact neq_rw x y w
          clear hrow hrow' hts hne hg hh
          go_wp2_with fail
          refine region_w Try.mixed (by kernel_rfl) ?_
          refine w_value rfl (.pointer (some ⟨w.heap.size, 5, none⟩)) (fun u hu => by go_simp) (fun K hK => ?_)
          go_simp
          refine hK _ ?_
          clear hK K
          refine w_value rfl (.slice (some ⟨g, off, none⟩) n ca) (fun u hu => by have hc := K5.out u hu; go_simp) (fun K hK => ?_)
          go_simp
          refine hK _ ?_
          clear hK K
          refine w_move rfl _ rfl (.int .i64 (j : Int)) rfl (fun K hK => ?_)
          go_simp
          refine hK _ ?_
          clear hK K
          refine w_value rfl (.pointer (some ⟨g, off + 4 * j, none⟩)) (fun u hu => by have hc := index_rw g off n ca j hlt u; go_simp) (fun K hK => ?_)
          go_simp
          refine hK _ ?_
          clear hK K
          refine w_wv_load rfl 38 _ rfl g (off + 4 * j) rfl x (by exact KR.out) _ Try.underlying38 rfl Try.size_rw (fun K hK => ?_)
          go_simp
          refine hK _ ?_
          clear hK K
          refine w_value rfl (.pointer (some ⟨w.heap.size + 1, 5, none⟩)) (fun u hu => by go_simp) (fun K hK => ?_)
          go_simp
          refine hK _ ?_
          clear hK K
          refine w_value rfl (.slice (some ⟨h, pff, none⟩) n cb) (fun u hu => by have hc := K6.out u hu; go_simp) (fun K hK => ?_)
          go_simp
          refine hK _ ?_
          clear hK K
          refine w_move rfl _ rfl (.int .i64 (j : Int)) rfl (fun K hK => ?_)
          go_simp
          refine hK _ ?_
          clear hK K
          refine w_value rfl (.pointer (some ⟨h, pff + 4 * j, none⟩)) (fun u hu => by have hc := index_rw h pff n cb j hlt u; go_simp) (fun K hK => ?_)
          go_simp
          refine hK _ ?_
          clear hK K
          refine w_wv_load rfl 38 _ rfl h (pff + 4 * j) rfl y (by exact KS.out) _ Try.underlying38 rfl Try.size_rw (fun K hK => ?_)
          go_simp
          refine hK _ ?_
          clear hK K
          refine w_value rfl (.bool q) (fun u _ => run_eql u .neq 38 38 _ _ (WV x) (WV y) _ rfl rfl rfl (guard_rw _ _ _ _ _ u) (HNQ.out u)) (fun K hK => ?_)
          go_simp
          refine hK _ ?_
          clear hK K
          refine w_nil ?_
          intro u hu
          have HAu : Hid (Blk u w.heap.size (ks .u64 a ++ [Value.int .i64 d, .slice (some ⟨g, off, none⟩) n ca])) := Blk.below HAr.out hu (Nat.lt_of_succ_lt HZr.out)
          have HBu : Hid (Blk u (w.heap.size + 1) (ks .u64 b ++ [Value.int .i64 f, .slice (some ⟨h, pff, none⟩) n cb])) := Blk.below HBr.out hu HZr.out
          have HLu : Hid (IsWs u (.slice (some ⟨g, off, none⟩) n ca) L) := IsWs.below HLr.out hu
          have HMu : Hid (IsWs u (.slice (some ⟨h, pff, none⟩) n cb) M) := IsWs.below HMr.out hu
          have HWu : Hid (Below w.heap.size w u) := Below.trans HWr.out (hu.mono HWr.out.size)
          have HZu : Hid (w.heap.size + 1 < u.heap.size) := Nat.lt_of_lt_of_le HZr.out hu.size
          clear hu HAr HBr HLr HMr HWr HZr K5 K6 KR KS c5
          cases q with
          | true =>
            obtain rfl : false = r := by
              rw [← HR.out]
              exact (decide_eq_false (HNE.out (fun e => by have := HQ.out; rw [decide_eq_true e] at this; cases this))).symm
            go_wp2_with fail
            go_ret
            exact ⟨rfl, HWu.out⟩
          | false =>
            have HT' : Hid (L.take (j + 1) = M.take (j + 1)) := HTS.out (by have := HQ.out; simpa using this)
            go_wp2_with fail
            go_roundw
            case rel => exact ⟨j + 1, by omega, by go_num, HT', HAu, HBu, HLu, HMu, HWu, HZu⟩
            case measure => simp [intOf]; omega
        · obtain rfl : j = n := by omega
          have c5 := tx_cell HAr.out HA.out
          obtain rfl : true = r := by
            have h := HT.out
            rw [List.take_of_length_le (by rw [HN.out]; exact Nat.le_refl _), List.take_of_length_le (by rw [HM.out]; exact Nat.le_refl _)] at h
            rw [← HR.out, decide_eq_true h]
          go_wp2_with fail
          go_ret
          exact ⟨rfl, HWr.out⟩
    · obtain rfl : false = r := by
        rw [← HR.out]
        exact (decide_eq_false (fun e => hnm (by rw [← HN.out, ← HM.out, e]))).symm
      have inm : ((n : Int) != (m : Int)) = true := by simp; omega
      have jnm : ¬ (n : Int) = (m : Int) := by omega
      have knm : ¬ n = m := hnm
      go_wp2_with (first | refine sub_load rfl 50 _ rfl w.heap.size rfl (ks .u64 a ++ [Value.int .i64 d]) [.slice sa n ca] (tx_stamp HA2.out) _ Try.underlying50 rfl HSa.out ?_ | refine sub_load rfl 50 _ rfl (w.heap.size + 1) rfl (ks .u64 b ++ [Value.int .i64 f]) [.slice sb m cb] (tx_stamp HB2.out) _ Try.underlying50 rfl HSb.out ?_ | refine val_step rfl (.bool false) (run_eql _ .neq 50 50 _ _ (SV a d) (SV b f) _ rfl rfl rfl (guard_nrs _ _ _ _ _ _ _) (HE.out _)) ?_)
      go_ret
      exact ⟨rfl, HW2.out⟩
set_option maxHeartbeats 8000000 in
theorem ref_of (a : List Nat) (d : Int) (v : Value) (L : List I.Wt) (s k : Int) (w : World) (ha : a.length = 4) (hL : IsWs w v L) (hn : L.length < 1000000) (hO : ∀ x ∈ L, x.1.size ≤ 140737488355328 ∧ x.2.1.size ≤ 140737488355328) (h0 : -9223372036854775808 ≤ k) (h1 : k ≤ 9223372036854775807) :
    Calls Try.prog 27 #[TV a d v, .int .i64 s, .int .i64 k] w fun e w' => ∃ v', e = .returned v' ∧ OW 38 w' w.heap.size v' (I.of L s k) ∧ Below w.heap.size w w' := by
  have HA := Lib.hid ha
  obtain ⟨sa, cap, rfl, hca, hma, _⟩ := hL.is
  have HOK : Hid (∀ j, j < L.length → (L.getD j I.none_).1.size ≤ 140737488355328 ∧ (L.getD j I.none_).2.1.size ≤ 140737488355328) := fun j hj => by
    rw [List.getD_eq_getElem?_getD, List.getElem?_eq_getElem hj]
    exact hO _ (List.getElem_mem hj)
  obtain ⟨n, HN⟩ : ∃ n, Hid (L.length = n) := ⟨_, rfl⟩
  have HL := Lib.hid hL
  rw [HN.out] at HL HOK hn
  rw [HN.out]
  have HF : Hid (I.of L s k = (L.take n).filter fun x => decide (I.shard x.1 x.2.1 k = s)) := by
    show _ = _
    rw [List.take_of_length_le (by rw [HN.out]; exact Nat.le_refl _)]
    rfl
  rw [HF.out]
  clear ha hL hca hma hO
  go_enter Try.func27, Try.ntmps27
  go_wp2_with (first | refine blk_box rfl 52 _ rfl (ks .u64 a ++ [Value.int .i64 d, .slice sa n cap]) rfl ?_)
  intro w1 A1 B1 Z1
  have HA1 : Hid (Blk w1 w.heap.size (ks .u64 a ++ [Value.int .i64 d, .slice sa n cap])) := A1
  have HB1 : Hid (Below w.heap.size w w1) := B1
  have HZ1 : Hid (w.heap.size < w1.heap.size) := by show _ < _; omega
  have HO1 : Hid (OW 38 w1 (w.heap.size + 1) (.slice none 0 0) ((L.take 0).filter fun x => decide (I.shard x.1 x.2.1 k = s))) := OW.nil _ _ _
  clear A1 B1 Z1
  go_wp2_with fail
  go_loopw [7, 8] (fun t i wr => ∃ j : Nat, j ≤ n ∧ i = .int .i64 j ∧ Hid (OW 38 wr (w.heap.size + 1) t ((L.take j).filter fun x => decide (I.shard x.1 x.2.1 k = s))) ∧ Hid (Blk wr w.heap.size (ks .u64 a ++ [Value.int .i64 d, .slice sa n cap])) ∧ Hid (Below w.heap.size w wr) ∧ Hid (w.heap.size < wr.heap.size)) (fun _ i _ => n - (intOf i).toNat)
  case atStart => exact ⟨0, by omega, rfl, HO1, HA1, HB1, HZ1⟩
  case round =>
    obtain ⟨j, hj, rfl, HOr, HAr, HBr, HZr⟩ := hrel
    clear HA1 HB1 HZ1 HO1
    have c5 := tx_cell HAr.out HA.out
    by_cases hlt : j < n
    · have ilt : (j : Int) < (n : Int) := by omega
      obtain ⟨g, off, cap', hv, hg0, hrow⟩ := IsWs.at HL.out j (by rw [HN.out]; exact hlt)
      obtain rfl : sa = some ⟨g, off, none⟩ := by injection hv
      clear hv
      have hg := Nat.lt_of_lt_of_le hg0 HBr.out.size
      have hrow : wr.rangeAt g (off + 4 * j) (wc (L.getD j I.none_)) := fun k v hv => by rw [HBr.out.cell (p := ⟨g, off + 4 * j + k, none⟩) hg0]; exact hrow k v hv
      have hfs := I.filter_step L (fun x => decide (I.shard x.1 x.2.1 k = s)) j (by rw [HN.out]; exact hlt)
      have hok := HOK.out j hlt
      have hlen : ((L.take j).filter fun x => decide (I.shard x.1 x.2.1 k = s)).length < 1000000 := Nat.lt_of_le_of_lt (List.length_filter_le ..) (by rw [List.length_take]; omega)
      obtain ⟨x, HX⟩ : ∃ x, Hid (L.getD j I.none_ = x) := ⟨_, rfl⟩
      rw [HX.out] at hrow hfs hok
      obtain ⟨xb, xk, xv, xg⟩ := x
      have CS := Lib.hid (fun w => ref_shard xb xk k w (by have := hok.1; simp only at this; omega) (by have := hok.2; simp only at this; omega) h0 h1)
      simp only at hfs
      obtain ⟨y, HY⟩ : ∃ y, Hid (I.shard xb xk k = y) := ⟨_, rfl⟩
      rw [HY.out] at CS hfs
      obtain ⟨q, HQ⟩ : ∃ q, Hid (decide (y = s) = q) := ⟨_, rfl⟩
      have QQ : Hid ((y == s) = q) := by show _ = _; rw [← HQ.out]; rfl
      rw [HQ.out] at hfs
      have HFS := Lib.hid hfs
      have K5 : Hid (∀ u, Below wr.heap.size wr u → u.cell? ⟨w.heap.size, 5, none⟩ = some (.slice (some ⟨g, off, none⟩) n cap)) := fun u hu => tx_cell (Blk.below HAr.out hu HZr.out) HA.out
      have KB : Hid (∀ u, Below wr.heap.size wr u → u.cell? ⟨g, off + 4 * j, none⟩ = some (.string xb)) := fun u hu => by rw [hu.cell (p := ⟨g, off + 4 * j, none⟩) hg]; exact hrow 0 _ rfl
      have KK : Hid (∀ u, Below wr.heap.size wr u → u.cell? ⟨g, off + 4 * j + 1, none⟩ = some (.string xk)) := fun u hu => by rw [hu.cell (p := ⟨g, off + 4 * j + 1, none⟩) hg]; exact hrow 1 _ rfl
      have KR : Hid (∀ u, Below wr.heap.size wr u → u.rangeAt g (off + 4 * j) (wc (xb, xk, xv, xg))) := fun u hu k v hv => by rw [hu.cell (p := ⟨g, off + 4 * j + k, none⟩) hg]; exact hrow k v hv
      have XS : Hid (∀ u, Below wr.heap.size wr u → Calls Try.prog 29 [.string xb, .string xk, .int .i64 k].toArray u fun e u' => e = .returned (.int .i64 y) ∧ Below wr.heap.size wr u') := fun u hu => Calls.more hu (CS.out u)
      clear hrow hfs hok CS
      go_wp2_with fail
      refine region_w Try.mixed (by kernel_rfl) ?_
      refine w_value rfl (.pointer (some ⟨w.heap.size, 5, none⟩)) (fun u hu => by go_simp) (fun K hK => ?_)
      go_simp
      refine hK _ ?_
      clear hK K
      refine w_value rfl (.slice (some ⟨g, off, none⟩) n cap) (fun u hu => by have hc := K5.out u hu; go_simp) (fun K hK => ?_)
      go_simp
      refine hK _ ?_
      clear hK K
      refine w_move rfl _ rfl (.int .i64 (j : Int)) rfl (fun K hK => ?_)
      go_simp
      refine hK _ ?_
      clear hK K
      refine w_value rfl (.pointer (some ⟨g, off + 4 * j, none⟩)) (fun u hu => by have hc := index_rw g off n cap j hlt u; go_simp) (fun K hK => ?_)
      go_simp
      refine hK _ ?_
      clear hK K
      refine w_value rfl (.pointer (some ⟨g, off + 4 * j, none⟩)) (fun u hu => by go_simp) (fun K hK => ?_)
      go_simp
      refine hK _ ?_
      clear hK K
      refine w_value rfl (.string xb) (fun u hu => by have hc := KB.out u hu; go_simp) (fun K hK => ?_)
      go_simp
      refine hK _ ?_
      clear hK K
      refine w_value rfl (.pointer (some ⟨w.heap.size, 5, none⟩)) (fun u hu => by go_simp) (fun K hK => ?_)
      go_simp
      refine hK _ ?_
      clear hK K
      refine w_value rfl (.slice (some ⟨g, off, none⟩) n cap) (fun u hu => by have hc := K5.out u hu; go_simp) (fun K hK => ?_)
      go_simp
      refine hK _ ?_
      clear hK K
      refine w_move rfl _ rfl (.int .i64 (j : Int)) rfl (fun K hK => ?_)
      go_simp
      refine hK _ ?_
      clear hK K
      refine w_value rfl (.pointer (some ⟨g, off + 4 * j, none⟩)) (fun u hu => by have hc := index_rw g off n cap j hlt u; go_simp) (fun K hK => ?_)
      go_simp
      refine hK _ ?_
      clear hK K
      refine w_value rfl (.pointer (some ⟨g, off + 4 * j + 1, none⟩)) (fun u hu => by go_simp) (fun K hK => ?_)
      go_simp
      refine hK _ ?_
      clear hK K
      refine w_value rfl (.string xk) (fun u hu => by have hc := KK.out u hu; go_simp) (fun K hK => ?_)
      go_simp
      refine hK _ ?_
      clear hK K
      refine w_move rfl _ rfl (.int .i64 k) rfl (fun K hK => ?_)
      go_simp
      refine hK _ ?_
      clear hK K
      refine w_call rfl 29 Try.f29 Try.func29 rfl rfl _ _ rfl _ rfl (.int .i64 y) (by exact XS.out) (fun K hK => ?_)
      go_simp
      refine hK _ ?_
      clear hK K
      refine w_move rfl _ rfl (.int .i64 s) rfl (fun K hK => ?_)
      go_simp
      refine hK _ ?_
      clear hK K
      refine w_value rfl (.bool q) (fun u hu => by have hc := QQ.out; go_simp) (fun K hK => ?_)
      go_simp
      refine hK _ ?_
      clear hK K
      refine w_nil ?_
      intro u hu
      have HOu := Lib.hid (OW.below HOr.out hu)
      have HAu : Hid (Blk u w.heap.size (ks .u64 a ++ [Value.int .i64 d, .slice (some ⟨g, off, none⟩) n cap])) := Blk.below HAr.out hu HZr.out
      have HBu : Hid (Below w.heap.size w u) := Below.trans HBr.out (hu.mono HBr.out.size)
      have HZu : Hid (w.heap.size < u.heap.size) := Nat.lt_of_lt_of_le HZr.out hu.size
      have c5' := tx_cell HAu.out HA.out
      have HRu := Lib.hid (KR.out u hu)
      clear hu HAr HBr HZr K5 KB KK KR XS c5 HOr hg hg0
      cases q with
      | false =>
        have HO' := HOu.out
        rw [show ((L.take j).filter fun x => decide (I.shard x.1 x.2.1 k = s)) = (L.take (j + 1)).filter fun x => decide (I.shard x.1 x.2.1 k = s) by rw [HFS.out]; simp] at HO'
        have HO' := Lib.hid HO'
        go_wp2_with fail
        go_roundw
        case rel => exact ⟨j + 1, by omega, by go_num, HO', HAu, HBu, HZu⟩
        case measure => simp [intOf]; omega
      | true =>
        have hix : ∀ w, (Instr.indexAt 39 (.slice (some ⟨g, off, none⟩) n cap) (.int .i64 (j : Int))).run Try.prog w = .ok (.pointer (some ⟨g, off + 4 * j, none⟩)) w := fun w => index_rw g off n cap j hlt w
        go_wp2_with (first | refine mid_load rfl 38 _ rfl g (off + 4 * j) rfl (wc (xb, xk, xv, xg)) HRu.out _ Try.underlying38 rfl Try.size_rw ?_ | refine build_rw rfl _ rfl (xb, xk, xv, xg) rfl ?_)
        intro w5 A5 B5 Z5
        have HO5 := Lib.hid (OW.below HOu.out B5)
        have HA5 : Hid (Blk w5 w.heap.size (ks .u64 a ++ [Value.int .i64 d, .slice (some ⟨g, off, none⟩) n cap])) := Blk.below HAu.out B5 HZu.out
        have HB5 : Hid (Below w.heap.size w w5) := Below.trans HBu.out (B5.mono HBu.out.size)
        have hz5 : w.heap.size + 1 ≤ w5.heap.size := by have := HZu.out; omega
        clear B5 Z5 HOu HAu HBu c5' hix HRu
        go_wp2_with (at_builtin; refine append_gen (t := 38) Try.underlying39 Try.info_rw _ rfl _ _ rfl (w.heap.size + 1) _ _ rfl HO5.out u.heap.size rfl (xb, xk, xv, xg) A5 ?c2 ?c3 ?_)
        case c2 => exact hlen
        case c3 => omega
        intro v' w6 ho hb hbs
        have HO6 : Hid (OW 38 w6 (w.heap.size + 1) v' ((L.take (j + 1)).filter fun x => decide (I.shard x.1 x.2.1 k = s))) := by
          show OW _ _ _ _ _
          rw [HFS.out]
          exact ho
        have HA6 : Hid (Blk w6 w.heap.size (ks .u64 a ++ [Value.int .i64 d, .slice (some ⟨g, off, none⟩) n cap])) := Blk.below HA5.out hb (by omega)
        have HB6 : Hid (Below w.heap.size w w6) := Below.trans HB5.out (hb.mono (by omega))
        have HZ6 : Hid (w.heap.size < w6.heap.size) := by show _ < _; omega
        clear ho hb hbs A5 HO5 HA5 HB5
        go_wp2_with fail
        go_roundw
        case rel => exact ⟨j + 1, by omega, by go_num, HO6, HA6, HB6, HZ6⟩
        case measure => simp [intOf]; omega
    · obtain rfl : j = n := by omega
      go_wp2_with fail
      go_ret
      exact ⟨_, rfl, OW.mono HOr.out (by omega), HBr.out⟩
end Go.Proofs.Ytkfcbihofipcbaa.It
