/- The program's item: Same. -/
import Derived.Test.YtkfcbihofipcbaaItemD

namespace Go.Proofs.Ytkfcbihofipcbaa.It

open Go.RowKit Go.Proofs.Ytkfcbihofipcbaa.Vc Go.Proofs.Ytkfcbihofipcbaa.Sp

set_option linter.unusedVariables false

set_option linter.unusedSimpArgs false

set_option maxRecDepth 100000

set_option maxHeartbeats 8000000 in
theorem equal_any (v v' : Value) (L M : List I.Wt) (w : World) (hL : IsWs w v L) (hM : IsWs w v' M) :
    Calls Try.prog 47 #[v, v'] w fun e w' => e = .returned (.bool (decide (L = M))) ∧ Below w.heap.size w w' := by
  obtain ⟨sa, ca, rfl, hca, hma, _⟩ := hL.is
  obtain ⟨sb, cb, rfl, _⟩ := hM.is
  have hnb : L.length ≤ 9223372036854775807 := by unfold maxLen at hma; omega
  obtain ⟨n, HN⟩ : ∃ n, Hid (L.length = n) := ⟨_, rfl⟩
  obtain ⟨m, HM⟩ : ∃ n, Hid (M.length = n) := ⟨_, rfl⟩
  have HL := Lib.hid hL
  have HK := Lib.hid hM
  rw [HN.out] at HL hnb
  rw [HM.out] at HK
  rw [HN.out, HM.out]
  obtain ⟨r, HR⟩ : ∃ r, Hid (decide (L = M) = r) := ⟨_, rfl⟩
  rw [HR.out]
  clear hL hM hca hma
  by_cases hnm : n = m
  · subst hnm
    have inm : ((n : Int) != (n : Int)) = false := by simp
    have HW2 : Hid (Below w.heap.size w w) := Below.refl _ _
    go_enter Try.func47, Try.ntmps47
    go_wp2_with fail
    go_loopw [13] (fun i wr => ∃ j : Nat, j ≤ n ∧ i = .int .i64 j ∧ Hid (L.take j = M.take j) ∧ Hid (Below w.heap.size w wr)) (fun i _ => n - (intOf i).toNat)
    case atStart => exact ⟨0, by omega, rfl, rfl, HW2⟩
    case round =>
      obtain ⟨j, hj, rfl, HT, HWr⟩ := hrel
      clear HW2 inm
      by_cases hlt : j < n
      · have ilt : (j : Int) < (n : Int) := by omega
        obtain ⟨g, off, cap', hv, hg, hrow⟩ := IsWs.at (IsWs.below HL.out HWr.out) j (by rw [HN.out]; exact hlt)
        obtain rfl : sa = some ⟨g, off, none⟩ := by injection hv
        clear hv
        obtain ⟨h, pff, cap', hv, hh, hrow'⟩ := IsWs.at (IsWs.below HK.out HWr.out) j (by rw [HM.out]; exact hlt)
        obtain rfl : sb = some ⟨h, pff, none⟩ := by injection hv
        clear hv
        have hts := I.take_same L M j HT.out (by rw [HN.out]; exact hlt) (by rw [HM.out]; exact hlt)
        have hne : L.getD j I.none_ ≠ M.getD j I.none_ → L ≠ M := fun h e => h (by rw [e])
        obtain ⟨x, HX⟩ : ∃ x, Hid (L.getD j I.none_ = x) := ⟨_, rfl⟩
        obtain ⟨y, HY⟩ : ∃ x, Hid (M.getD j I.none_ = x) := ⟨_, rfl⟩
        rw [HX.out] at hrow hts hne
        rw [HY.out] at hrow' hts hne
        have HTS := Lib.hid hts
        have HNE := Lib.hid hne
        have KR : Hid (∀ u, Below wr.heap.size wr u → u.rangeAt g (off + 4 * j) (wc x)) := fun u hu k v hv => by rw [hu.cell (p := ⟨g, off + 4 * j + k, none⟩) hg]; exact hrow k v hv
        have KS : Hid (∀ u, Below wr.heap.size wr u → u.rangeAt h (pff + 4 * j) (wc y)) := fun u hu k v hv => by rw [hu.cell (p := ⟨h, pff + 4 * j + k, none⟩) hh]; exact hrow' k v hv
        obtain ⟨q, HQ⟩ : ∃ q, Hid ((!decide (x = y)) = q) := ⟨_, rfl⟩
        have HNQ : Hid (∀ w, (binOp .neq 23 (WV x) (WV y)).run Try.prog w = .ok (.bool q) w) := fun w => by rw [← HQ.out]; exact neq_iw x y w
        clear hrow hrow' hts hne hg hh
        go_wp2_with fail
        refine region_w Try.mixed (by kernel_rfl) ?_
        refine w_move rfl _ rfl (.slice (some ⟨g, off, none⟩) n ca) rfl (fun K hK => ?_)
        go_simp
        refine hK _ ?_
        clear hK K
        refine w_move rfl _ rfl (.int .i64 (j : Int)) rfl (fun K hK => ?_)
        go_simp
        refine hK _ ?_
        clear hK K
        refine w_value rfl (.pointer (some ⟨g, off + 4 * j, none⟩)) (fun u hu => by have hc := index_iw g off n ca j hlt u; go_simp) (fun K hK => ?_)
        go_simp
        refine hK _ ?_
        clear hK K
        refine w_wv_load rfl 23 _ rfl g (off + 4 * j) rfl x (by exact KR.out) _ Try.underlying23 rfl Try.size_w (fun K hK => ?_)
        go_simp
        refine hK _ ?_
        clear hK K
        refine w_move rfl _ rfl (.slice (some ⟨h, pff, none⟩) n cb) rfl (fun K hK => ?_)
        go_simp
        refine hK _ ?_
        clear hK K
        refine w_move rfl _ rfl (.int .i64 (j : Int)) rfl (fun K hK => ?_)
        go_simp
        refine hK _ ?_
        clear hK K
        refine w_value rfl (.pointer (some ⟨h, pff + 4 * j, none⟩)) (fun u hu => by have hc := index_iw h pff n cb j hlt u; go_simp) (fun K hK => ?_)
        go_simp
        refine hK _ ?_
        clear hK K
        refine w_wv_load rfl 23 _ rfl h (pff + 4 * j) rfl y (by exact KS.out) _ Try.underlying23 rfl Try.size_w (fun K hK => ?_)
        go_simp
        refine hK _ ?_
        clear hK K
        refine w_value rfl (.bool q) (fun u _ => run_eql u .neq 23 23 _ _ (WV x) (WV y) _ rfl rfl rfl (guard_iw _ _ _ _ _ u) (HNQ.out u)) (fun K hK => ?_)
        go_simp
        refine hK _ ?_
        clear hK K
        refine w_nil ?_
        intro u hu
        have HWu : Hid (Below w.heap.size w u) := Below.trans HWr.out (hu.mono HWr.out.size)
        clear hu HWr KR KS
        cases q with
        | true =>
          obtain rfl : false = r := by
            rw [← HR.out]
            exact (decide_eq_false (HNE.out (fun e => by have := HQ.out; rw [decide_eq_true e] at this; cases this))).symm
          go_wp2_with fail
          go_ret
          exact ⟨rfl, HWu.out⟩
        | false =>
          have HT' : Hid (L.take (j + 1) = M.take (j + 1)) := HTS.out (by have := HQ.out; simpa using this)
          go_wp2_with fail
          go_roundw
          case rel => exact ⟨j + 1, by omega, by go_num, HT', HWu⟩
          case measure => simp [intOf]; omega
      · obtain rfl : j = n := by omega
        obtain rfl : true = r := by
          have h := HT.out
          rw [List.take_of_length_le (by rw [HN.out]; exact Nat.le_refl _), List.take_of_length_le (by rw [HM.out]; exact Nat.le_refl _)] at h
          rw [← HR.out, decide_eq_true h]
        go_wp2_with fail
        go_ret
        exact ⟨rfl, HWr.out⟩
  · obtain rfl : false = r := by
      rw [← HR.out]
      exact (decide_eq_false (fun e => hnm (by rw [← HN.out, ← HM.out, e]))).symm
    have inm : ((n : Int) != (m : Int)) = true := by simp; omega
    have jnm : ¬ (n : Int) = (m : Int) := by omega
    have knm : ¬ n = m := hnm
    go_enter Try.func47, Try.ntmps47
    go_wp2_with fail
    go_ret
    exact ⟨rfl, Below.refl _ _⟩
theorem guard_es (x y : Operand) (l m : List Nat) (d e : Int) (w : World) : (eqGuard .eql 30 x y (SV l d) (SV m e)).run Try.prog w = .ok () w := by
  unfold SV
  simp [eqGuard, guardType_s]
theorem eql_s (a b : List Nat) (d e : Int) (ha : a.length = 4) (hb : b.length = 4) (w : World) : (binOp .eql 30 (SV a d) (SV b e)).run Try.prog w = .ok (.bool (T.same a d b e)) w := by
  have h := eq_gen under_s held_s fields_s Try.underlying28 (fun w => Try.sizeOf28 w) a b d e ha hb w
  have e : binOp .eql 30 (SV a d) (SV b e) = (do pure (.bool (← Op.equalIn 10000 30 (SV a d) (SV b e)))) := rfl
  rw [e]
  simp only [Sem.run_bind, h, Result.andThen_ok, Sem.run_pure]
set_option maxHeartbeats 8000000 in
theorem same_any (a : List Nat) (d : Int) (v : Value) (L : List I.Wt) (b : List Nat) (f : Int) (v' : Value) (M : List I.Wt) (w : World) (ha : a.length = 4) (hb : b.length = 4) (hL : IsWs w v L) (hM : IsWs w v' M) :
    Calls Try.prog 24 #[TV a d v, TV b f v'] w fun e w' => e = .returned (.bool (I.same a d L b f M)) ∧ Below w.heap.size w w' := by
  have HA := Lib.hid ha
  have HB := Lib.hid hb
  have HSa := Lib.hid (size_s (d := d) ha)
  have HSb := Lib.hid (size_s (d := f) hb)
  have HL := Lib.hid hL
  have HM := Lib.hid hM
  obtain ⟨e0, HE0⟩ : ∃ r, Hid (T.same a d b f = r) := ⟨_, rfl⟩
  have HE : Hid (∀ w, (binOp .eql 30 (SV a d) (SV b f)).run Try.prog w = .ok (.bool e0) w) := fun w => by rw [← HE0.out]; exact eql_s a b d f ha hb w
  unfold I.same
  rw [HE0.out]
  have CE := Lib.hid (fun u hl hm => equal_any v v' L M u hl hm)
  obtain ⟨r, HR⟩ : ∃ r, Hid (decide (L = M) = r) := ⟨_, rfl⟩
  rw [HR.out] at CE
  rw [HR.out]
  clear ha hb hL hM
  go_enter Try.func24, Try.ntmps24
  go_wp2_with (first | refine blk_box rfl 43 _ rfl (ks .u64 a ++ [Value.int .i64 d, v]) rfl ?_)
  intro w1 A1 B1 Z1
  go_wp2_with (first | refine blk_box rfl 43 _ rfl (ks .u64 b ++ [Value.int .i64 f, v']) rfl ?_)
  intro w2 A2 B2 Z2
  have HA2 : Hid (Blk w2 w.heap.size (ks .u64 a ++ [Value.int .i64 d, v])) := Blk.below A1 B2 (by omega)
  have HB2 : Hid (Blk w2 (w.heap.size + 1) (ks .u64 b ++ [Value.int .i64 f, v'])) := A2
  have HW2 : Hid (Below w.heap.size w w2) := B1.trans (B2.mono (by omega))
  have c5 := tx_cell HA2.out HA.out
  have d5 := tx_cell HB2.out HB.out
  clear A1 B1 Z1 A2 B2 Z2
  cases e0 with
  | false =>
    go_wp2_with (first | refine sub_load rfl 30 _ rfl w.heap.size rfl (ks .u64 a ++ [Value.int .i64 d]) [v] (tx_stamp HA2.out) _ Try.underlying30 rfl HSa.out ?_ | refine sub_load rfl 30 _ rfl (w.heap.size + 1) rfl (ks .u64 b ++ [Value.int .i64 f]) [v'] (tx_stamp HB2.out) _ Try.underlying30 rfl HSb.out ?_ | refine val_step rfl (.bool false) (run_eql _ .eql 30 30 _ _ (SV a d) (SV b f) _ rfl rfl rfl (guard_es _ _ _ _ _ _ _) (HE.out _)) ?_)
    go_ret
    exact ⟨rfl, HW2.out⟩
  | true =>
    go_wp2_with (first | refine sub_load rfl 30 _ rfl w.heap.size rfl (ks .u64 a ++ [Value.int .i64 d]) [v] (tx_stamp HA2.out) _ Try.underlying30 rfl HSa.out ?_ | refine sub_load rfl 30 _ rfl (w.heap.size + 1) rfl (ks .u64 b ++ [Value.int .i64 f]) [v'] (tx_stamp HB2.out) _ Try.underlying30 rfl HSb.out ?_ | refine val_step rfl (.bool true) (run_eql _ .eql 30 30 _ _ (SV a d) (SV b f) _ rfl rfl rfl (guard_es _ _ _ _ _ _ _) (HE.out _)) ?_)
    refine (CE.out _ (IsWs.below HL.out HW2.out) (IsWs.below HM.out HW2.out)).mono ?_; rintro e w3 ⟨rfl, hb3⟩
    have HW3 : Hid (Below w.heap.size w w3) := Below.trans HW2.out (hb3.mono HW2.out.size)
    clear hb3
    go_wp2_with fail
    go_ret
    exact ⟨rfl, HW3.out⟩
end Go.Proofs.Ytkfcbihofipcbaa.It
