/-
  ChainAdds: each stamp has one version, the first that was added
-/
import Derived.Test.YtmajkapapbhabaaFrame

import Derived.Test.YtmajkapapbhabaaChainEx

import Derived.Test.YtmajkapapbhabaaFrameMarks

namespace Go.Proofs.Ytmajkapapbhabaa.chainAdds

open Go.ChangeShapes Go.WideShapes Go.ChangeAt Go.RowKit

open Go.ChangeMaps (open_string shut_string)

open Go.Proofs.Ytmajkapapbhabaa.Vc Go.Proofs.Ytmajkapapbhabaa.Sp Go.Proofs.Ytmajkapapbhabaa.Rw Go.Proofs.Ytmajkapapbhabaa.Ch Go.Proofs.Ytmajkapapbhabaa.Se

set_option linter.unusedVariables false

set_option linter.unusedSimpArgs false

set_option maxHeartbeats 32000000 in
set_option maxRecDepth 100000 in
theorem walk (mv0 : Value) (ML0 : List Mk) (m0 : ∀ x ∈ ML0, MOk x) (w : World) (w0 : Rw.IsR mkd w mv0 ML0) :
    Calls Try.prog 6 #[mv0] w fun e w' => e = .returned (.bool true) ∧ Below w.heap.size w w' := by
  have HML : Hid (IsR mkd w mv0 ML0) := w0
  have HMO : Hid (∀ x ∈ ML0, MOk x) := m0
  obtain ⟨sa, cap, rfl, _, _, _⟩ := w0.is
  obtain ⟨n, HN⟩ : ∃ n, Hid (ML0.length = n) := ⟨_, rfl⟩
  rw [HN.out] at HML ⊢
  clear w0 m0
  go_enter Try.func6, Try.ntmps6
  go_wp2_with fail
  refine (examples_any _).mono ?_; rintro e w1 ⟨rfl, hb1⟩
  have HB1 : Hid (Below w.heap.size w w1) := hb1
  clear hb1
  go_wp2_with fail
  refine (newI _).mono ?_; rintro e w2 ⟨rfl, hc, hb⟩
  obtain ⟨c, HC⟩ : ∃ c, Hid (w1.heap.size = c) := ⟨_, rfl⟩
  have S2 : Hid (Sep w w2 [rO stk 34 w.heap.size (.slice none 0 0) [], rC num 72 c (.slice none 0 0) []]) := by
    show Sep _ _ _
    rw [← HC.out]
    exact (((Sep.start w1).newchain hb hc).elder HB1.out).nilrow stk 34 w.heap.size
  rw [HC.out]
  clear hc hb HC HB1
  go_wp2_with fail
  go_loopw [5, 6, 7] (fun many va i wr => ∃ (j q : Nat) (ms : List C.St) (v : Value) (L : List (C.Vr Nat)), j ≤ n ∧ j ≤ 20 ∧ q ≤ j ∧ many = .int .i64 (q : Int) ∧ i = .int .i64 (j : Int) ∧ Hid (ms.length = j) ∧ Hid (L.length = q) ∧ Hid (C.Held L ms) ∧ Hid (∀ s ∈ ms, s.1.length = 4) ∧ Hid (Sep w wr [rO stk 34 w.heap.size va ms, rC num 72 c v L])) (fun _ _ i _ => 20 - (intOf i).toNat)
  case atStart => exact ⟨0, 0, [], .slice none 0 0, [], by omega, by omega, by omega, rfl, rfl, rfl, rfl, C.Held.nil, (fun s hs => by cases hs), S2⟩
  case round =>
    obtain ⟨j, q, ms, v, L, hjn, hj20, hqj, rfl, rfl, HJ, HQ, HH, HF, Sr⟩ := hrel
    clear S2
    by_cases hlt : j < n
    · have i1 : (j : Int) < (n : Int) := by omega
      by_cases hl2 : j < 20
      · have i2 : (j : Int) < 20 := by omega
        obtain ⟨g, off, cap', hv, hg0, hrow⟩ := IsR.at HML.out j (by rw [HN.out]; exact hlt)
        obtain rfl : sa = some ⟨g, off, none⟩ := by injection hv
        have hmem := List.mem_of_getElem? (C.getD_some (show j < ML0.length by rw [HN.out]; exact hlt) mkd.none_)
        have HXO := Lib.hid (HMO.out _ hmem)
        obtain ⟨x, HX⟩ : ∃ x, Hid (ML0.getD j mkd.none_ = x) := ⟨_, rfl⟩
        rw [HX.out] at hrow HXO
        have HROW : Hid (wr.rangeAt g (off + 6 * j) (mkd.cf x)) := fun k u hu => by rw [Sr.out.under.cell (p := ⟨g, off + 6 * j + k, none⟩) hg0]; exact hrow k u hu
        have hix : ∀ w, (Instr.indexAt 65 (.slice (some ⟨g, off, none⟩) n cap) (.int .i64 (j : Int))).run Try.prog w = .ok (.pointer (some ⟨g, off + 6 * j, none⟩)) w := fun w => index_mk g off n cap j hlt w
        clear hv hrow hmem HX
        go_wp2_with (first | refine wpList_load_mid rfl 36 _ rfl g (off + 6 * j) rfl (mkd.cf x) _ HROW.out Try.underlying36 rfl size_mk ?_)
        refine (mark_row x HXO.out _).mono ?_; rintro e w3 ⟨s, -, hs4, rfl, hb3⟩
        have S3 := Lib.hid (Sr.out.below hb3)
        have hs5 := hs4.len
        obtain ⟨l, e0⟩ := s
        dsimp only at hs5 ⊢
        obtain ⟨b0, b1, b2, b3, rfl⟩ := V.four hs5
        have HSS := Lib.hid (size_s (l := [b0, b1, b2, b3]) (d := e0) rfl)
        clear hs4 hs5 hb3 HXO HROW hix Sr
        go_wp2_with (first | refine blk_alloc rfl 34 (ks .u64 (List.replicate 4 0) ++ [Value.int .i64 0]) rfl Try.info_s ?_)
        intro w4 A B Z
        obtain ⟨bs, HBS⟩ : ∃ b, Hid (w3.heap.size = b) := ⟨_, rfl⟩
        go_wp2_with (first | refine blk_store rfl 34 _ _ rfl w3.heap.size rfl (ks .u64 [b0, b1, b2, b3] ++ [Value.int .i64 e0]) rfl _ A rfl HSS.out rfl ?_)
        intro w5 A9 U9
        obtain ⟨sv, cv, ev, _⟩ := (S3.out.or 0 rfl).is.is
        rw [HJ.out] at ev
        subst ev
        have S5 : Hid (Sep w w5 [rB bs (ks .u64 [b0, b1, b2, b3] ++ [Value.int .i64 e0]), rO stk 34 w.heap.size (.slice sv j cv) ms, rC num 72 c v L]) := by
          show Sep _ _ _
          rw [← HBS.out]
          exact Sep.fresh S3.out B Z U9 A9
        rw [HBS.out]
        clear A B Z A9 U9 S3 HBS
        go_wp2_with fail
        go_loopw [9, 10] (fun met k wr => ∃ (i : Nat) (mt : Bool), i ≤ j ∧ met = .bool mt ∧ k = .int .i64 (i : Int) ∧ Hid (decide ((([b0, b1, b2, b3], e0) : C.St) ∈ ms.take i) = mt) ∧ Hid (Sep w wr [rB bs (ks .u64 [b0, b1, b2, b3] ++ [Value.int .i64 e0]), rO stk 34 w.heap.size (.slice sv j cv) ms, rC num 72 c v L])) (fun _ k _ => j - (intOf k).toNat)
        case atStart => exact ⟨0, false, by omega, rfl, rfl, by show _ = _; simp, S5⟩
        case round =>
          obtain ⟨i, mt, hij, rfl, rfl, HMT, Sk⟩ := hrel
          clear S5
          by_cases hlk : i < j
          · have i3 : (i : Int) < (j : Int) := by omega
            obtain ⟨gm, om, cm, hv, hgm, hrow⟩ := IsR.at (Sk.out.or 1 rfl).is i (by rw [HJ.out]; exact hlk)
            obtain rfl : sv = some ⟨gm, om, none⟩ := by injection hv
            have hyi := C.getD_some (show i < ms.length by rw [HJ.out]; exact hlk) stk.none_
            have hy4 := HF.out _ (List.mem_of_getElem? hyi)
            have hstep := take_mem (s := (([b0, b1, b2, b3], e0) : C.St)) hyi
            rw [HMT.out] at hstep
            obtain ⟨y, HY⟩ : ∃ y, Hid (ms.getD i stk.none_ = y) := ⟨_, rfl⟩
            rw [HY.out] at hrow hy4 hstep
            rw [stk_cf hy4] at hrow
            obtain ⟨r, HR⟩ : ∃ r, Hid (decide (y = (([b0, b1, b2, b3], e0) : C.St)) = r) := ⟨_, rfl⟩
            rw [HR.out] at hstep
            have HST := Lib.hid hstep
            have HE := Lib.hid (fun u => eql_st (b := (([b0, b1, b2, b3], e0) : C.St)) hy4 rfl HR.out u)
            have hix : ∀ w, (Instr.indexAt 68 (.slice (some ⟨gm, om, none⟩) j cv) (.int .i64 (i : Int))).run Try.prog w = .ok (.pointer (some ⟨gm, om + 5 * i, none⟩)) w := fun w => index_st gm om j cv i hlk w
            have HROW : Hid (∀ u, Below wr.heap.size wr u → u.rangeAt gm (om + 5 * i) (ks .u64 y.1 ++ [Value.int .i64 y.2])) := fun u hu k v hv => by
              rw [hu.cell (p := ⟨gm, om + 5 * i + k, none⟩) hgm]
              exact hrow k v hv
            have HSY := Lib.hid (size_s (d := y.2) hy4)
            have HBK : Hid (∀ u, Below wr.heap.size wr u → Blk u bs (ks .u64 [b0, b1, b2, b3] ++ [Value.int .i64 e0])) := fun u hu => (Sk.out.below hu).blk 0 rfl
            clear hv hrow hyi hy4 hstep HY
            cases mt with
            | true =>
              go_wp2_with fail
              refine region_w Try.mixed (by kernel_rfl) ?_
              refine w_move rfl _ rfl (.bool true) rfl (fun K hK => ?_)
              go_simp
              refine hK _ ?_
              clear hK K
              refine w_move rfl _ rfl (.bool true) rfl (fun K hK => ?_)
              go_simp
              refine hK _ ?_
              clear hK K
              refine w_skip 1 false (some true) rfl (by rfl) rfl (fun K hK => ?_)
              go_simp
              refine hK _ ?_
              clear hK K
              refine w_skip 1 false (some true) rfl (by rfl) rfl (fun K hK => ?_)
              go_simp
              refine hK _ ?_
              clear hK K
              refine w_skip 1 false (some true) rfl (by rfl) rfl (fun K hK => ?_)
              go_simp
              refine hK _ ?_
              clear hK K
              refine w_skip 1 false (some true) rfl (by rfl) rfl (fun K hK => ?_)
              go_simp
              refine hK _ ?_
              clear hK K
              refine w_skip 1 false (some true) rfl (by rfl) rfl (fun K hK => ?_)
              go_simp
              refine hK _ ?_
              clear hK K
              refine w_skip 1 false (some true) rfl (by rfl) rfl (fun K hK => ?_)
              go_simp
              refine hK _ ?_
              clear hK K
              refine w_value rfl (.bool true) (fun u hu => by go_simp) (fun K hK => ?_)
              go_simp
              refine hK _ ?_
              clear hK K
              refine w_assign rfl _ rfl (.bool true) rfl (fun K hK => ?_)
              go_simp
              refine hK _ ?_
              clear hK K
              refine w_nil ?_
              intro u hu
              have S9 := Lib.hid (Sk.out.below hu)
              clear hu HROW HBK hix HE Sk
              go_wp2_with fail
              go_roundw
              case rel => exact ⟨i + 1, true, by omega, rfl, by go_num, HST, S9⟩
              case measure => simp [intOf]; omega
            | false =>
              go_wp2_with fail
              refine region_w Try.mixed (by kernel_rfl) ?_
              refine w_move rfl _ rfl (.bool false) rfl (fun K hK => ?_)
              go_simp
              refine hK _ ?_
              clear hK K
              refine w_move rfl _ rfl (.bool false) rfl (fun K hK => ?_)
              go_simp
              refine hK _ ?_
              clear hK K
              refine wg_value (by rfl) (.slice (some ⟨gm, om, none⟩) j cv) (fun u hu => by go_simp) (fun K hK => ?_)
              go_simp
              refine hK _ ?_
              clear hK K
              refine wg_value (by rfl) (.int .i64 (i : Int)) (fun u hu => by go_simp) (fun K hK => ?_)
              go_simp
              refine hK _ ?_
              clear hK K
              refine wg_value (by rfl) (.pointer (some ⟨gm, om + 5 * i, none⟩)) (fun u hu => by have hs := hix u; go_simp) (fun K hK => ?_)
              go_simp
              refine hK _ ?_
              clear hK K
              refine wg_mid_load (by rfl) 34 _ rfl gm (om + 5 * i) rfl (ks .u64 y.1 ++ [Value.int .i64 y.2]) (by exact HROW.out) _ Try.underlying34 rfl HSY.out (fun K hK => ?_)
              go_simp
              refine hK _ ?_
              clear hK K
              refine wg_blk_load (by rfl) 34 _ rfl bs rfl (ks .u64 [b0, b1, b2, b3] ++ [Value.int .i64 e0]) (by exact HBK.out) _ Try.underlying34 rfl HSS.out (fun K hK => ?_)
              go_simp
              refine hK _ ?_
              clear hK K
              refine wg_value (by rfl) (.bool r) (fun u _ => run_eql u .eql 34 34 _ _ (SV y.1 y.2) (SV [b0, b1, b2, b3] e0) _ rfl rfl rfl (guard_s _ _ _ _ _ _ u) (HE.out u)) (fun K hK => ?_)
              go_simp
              refine hK _ ?_
              clear hK K
              refine w_value rfl (.bool r) (fun u hu => by go_simp) (fun K hK => ?_)
              go_simp
              refine hK _ ?_
              clear hK K
              refine w_assign rfl _ rfl (.bool r) rfl (fun K hK => ?_)
              go_simp
              refine hK _ ?_
              clear hK K
              refine w_nil ?_
              intro u hu
              have S9 := Lib.hid (Sk.out.below hu)
              clear hu HROW HBK hix HE Sk
              go_wp2_with fail
              go_roundw
              case rel => exact ⟨i + 1, r, by omega, rfl, by go_num, HST, S9⟩
              case measure => simp [intOf]; omega
          · obtain rfl : i = j := by omega
            have i3 : ¬ (i : Int) < (i : Int) := by omega
            have HMT2 : Hid (decide ((([b0, b1, b2, b3], e0) : C.St) ∈ ms) = mt) := by
              show _ = _
              rw [← HMT.out, List.take_of_length_le (by rw [HJ.out]; exact Nat.le_refl _)]
            obtain ⟨r, HR⟩ : ∃ r, Hid (T.right [b0, b1, b2, b3] e0 = r) := ⟨_, rfl⟩
            have CR : Hid (∀ u, Calls Try.prog 33 #[.agg (ks .u64 [b0, b1, b2, b3] ++ [Value.int .i64 e0]).toArray] u fun e w' => e = .returned (.bool r) ∧ Below u.heap.size u w') := fun u => by
              have := sright_any [b0, b1, b2, b3] e0 u rfl
              rw [HR.out] at this
              exact this
            have hwant := HH.out.want (([b0, b1, b2, b3], e0) : C.St) i
            rw [show C.right (([b0, b1, b2, b3], e0) : C.St) = r from HR.out, HMT2.out] at hwant
            have HST := Lib.hid (HH.out.step (([b0, b1, b2, b3], e0) : C.St) rfl)
            rw [HJ.out] at HST
            have HLN := Lib.hid (C.add_len L (([b0, b1, b2, b3], e0) : C.St) i)
            rw [HQ.out] at HLN
            have CA := Lib.hid (fun u (hu : Ch num 72 u c v L) => addI c v L (([b0, b1, b2, b3], e0) : C.St) i u hu rfl (by rw [HQ.out]; omega))
            obtain ⟨L', HL'⟩ : ∃ L', Hid ((C.add L (([b0, b1, b2, b3], e0) : C.St) i).1 = L') := ⟨_, rfl⟩
            obtain ⟨wn, HWN⟩ : ∃ wn, Hid ((C.add L (([b0, b1, b2, b3], e0) : C.St) i).2 = wn) := ⟨_, rfl⟩
            rw [HL'.out] at HST HLN
            rw [HWN.out] at HLN hwant
            have HWT := Lib.hid hwant
            clear hwant
            have CA : Hid (∀ u, Ch num 72 u c v L → Calls Try.prog 23 #[.pointer (some ⟨c, 0, none⟩), .agg (ks .u64 [b0, b1, b2, b3] ++ [Value.int .i64 e0]).toArray, .int .i64 (i : Int)] u fun e w' => ∃ v', e = .returned (.bool wn) ∧ Ch num 72 w' c v' L' ∧ Tw c v.ownBlock u w' ∧ Nw u v v') := fun u hu => by
              have := CA.out u hu
              rw [HL'.out, HWN.out] at this
              exact this
            have HF' : Hid (∀ s ∈ ms ++ [(([b0, b1, b2, b3], e0) : C.St)], s.1.length = 4) := fun s hs => by
              rcases List.mem_append.1 hs with h | h
              · exact HF.out s h
              · rw [List.mem_singleton.1 h]; rfl
            have HJ' : Hid ((ms ++ [(([b0, b1, b2, b3], e0) : C.St)]).length = i + 1) := by show _ = _; rw [List.length_append, HJ.out]; rfl
            clear HMT HMT2 HR HWN HL' HH HF
            go_wp2_with (first | refine blk_load rfl 34 _ rfl bs rfl (ks .u64 [b0, b1, b2, b3] ++ [Value.int .i64 e0]) (Sk.out.blk 0 rfl) _ Try.underlying34 rfl HSS.out ?_)
            refine (CR.out _).mono ?_; rintro e w6 ⟨rfl, hb6⟩
            have S6 := Lib.hid (Sk.out.below hb6)
            clear hb6 Sk CR
            cases r with
            | false =>
              obtain rfl : wn = false := HWT.out
              clear HWT
              have HLQ : Hid (L'.length = q) := HLN.out
              clear HLN
              go_wp2_with (first | refine blk_load rfl 34 _ rfl bs rfl (ks .u64 [b0, b1, b2, b3] ++ [Value.int .i64 e0]) (S6.out.blk 0 rfl) _ Try.underlying34 rfl HSS.out ?_)
              refine (CA.out _ (S6.out.ch 2 rfl)).mono ?_; rintro e w8 ⟨v8, rfl, hc, ht, hn⟩
              have S8 : Hid (Sep w w8 [rB bs (ks .u64 [b0, b1, b2, b3] ++ [Value.int .i64 e0]), rO stk 34 w.heap.size (.slice sv i cv) ms, rC num 72 c v8 L']) := S6.out.chain 2 rfl hc ht hn
              clear hc ht hn S6 CA
              have hB9 : Below w8.heap.size w8 (w8.alloc (.cells #[.int .u64 (b0 : Int), .int .u64 (b1 : Int), .int .u64 (b2 : Int), .int .u64 (b3 : Int), .int .i64 e0] 34)) := (Below.refl _ _).alloc (Nat.le_refl _) _
              have S9 := S8.out.below hB9
              have hX9 : (w8.alloc (.cells #[.int .u64 (b0 : Int), .int .u64 (b1 : Int), .int .u64 (b2 : Int), .int .u64 (b3 : Int), .int .i64 e0] 34)).heap[w8.heap.size]? = some (.cells (stk.cf (([b0, b1, b2, b3], e0) : C.St)).toArray 34 (0, 0)) := heap_alloc_last w8 _
              obtain ⟨v9, w9, hr, ho, hg, hnw⟩ := run_append_one (K := stk) 68 Try.underlying68 inf_st zc_st _ w.heap.size _ ms (S9.or 1 rfl) w8.heap.size 0 1 1 [(([b0, b1, b2, b3], e0) : C.St)] (IsR.one (Blk.of_row hX9) (Array.getElem?_eq_some_iff.1 hX9).1) (by simp) (by rw [HJ.out]; simp; omega) (by omega) S9.size
              have HRn := Lib.hid hr
              have S10 : Hid (Sep w w9 [rO stk 34 w.heap.size v9 (ms ++ [(([b0, b1, b2, b3], e0) : C.St)]), rC num 72 c v8 L']) := (S9.row 1 rfl ho hg hnw).tail
              have hbl : Blk w8 bs [Value.int .u64 (b0 : Int), Value.int .u64 (b1 : Int), Value.int .u64 (b2 : Int), Value.int .u64 (b3 : Int), Value.int .i64 e0] := S8.out.blk 0 rfl
              clear hr ho hg hnw hX9 S9 hB9
              go_wp2_with (first | refine blk_load rfl 34 _ rfl bs rfl [Value.int .u64 (b0 : Int), Value.int .u64 (b1 : Int), Value.int .u64 (b2 : Int), Value.int .u64 (b3 : Int), Value.int .i64 e0] hbl _ Try.underlying34 rfl HSS.out ?_ | (at_builtin; refine append_step rfl _ _ _ _ rfl rfl rfl HRn.out ?_))
              go_roundw
              case rel => exact ⟨i + 1, q, ms ++ [(([b0, b1, b2, b3], e0) : C.St)], v8, L', by omega, by omega, by omega, by go_num, by go_num, HJ', HLQ, HST, HF', S10⟩
              case measure => simp [intOf]; omega
            | true =>
              cases mt with
              | true =>
                obtain rfl : wn = false := HWT.out
                clear HWT
                have HLQ : Hid (L'.length = q) := HLN.out
                clear HLN
                go_wp2_with (first | refine blk_load rfl 34 _ rfl bs rfl (ks .u64 [b0, b1, b2, b3] ++ [Value.int .i64 e0]) (S6.out.blk 0 rfl) _ Try.underlying34 rfl HSS.out ?_)
                refine (CA.out _ (S6.out.ch 2 rfl)).mono ?_; rintro e w8 ⟨v8, rfl, hc, ht, hn⟩
                have S8 : Hid (Sep w w8 [rB bs (ks .u64 [b0, b1, b2, b3] ++ [Value.int .i64 e0]), rO stk 34 w.heap.size (.slice sv i cv) ms, rC num 72 c v8 L']) := S6.out.chain 2 rfl hc ht hn
                clear hc ht hn S6 CA
                have hB9 : Below w8.heap.size w8 (w8.alloc (.cells #[.int .u64 (b0 : Int), .int .u64 (b1 : Int), .int .u64 (b2 : Int), .int .u64 (b3 : Int), .int .i64 e0] 34)) := (Below.refl _ _).alloc (Nat.le_refl _) _
                have S9 := S8.out.below hB9
                have hX9 : (w8.alloc (.cells #[.int .u64 (b0 : Int), .int .u64 (b1 : Int), .int .u64 (b2 : Int), .int .u64 (b3 : Int), .int .i64 e0] 34)).heap[w8.heap.size]? = some (.cells (stk.cf (([b0, b1, b2, b3], e0) : C.St)).toArray 34 (0, 0)) := heap_alloc_last w8 _
                obtain ⟨v9, w9, hr, ho, hg, hnw⟩ := run_append_one (K := stk) 68 Try.underlying68 inf_st zc_st _ w.heap.size _ ms (S9.or 1 rfl) w8.heap.size 0 1 1 [(([b0, b1, b2, b3], e0) : C.St)] (IsR.one (Blk.of_row hX9) (Array.getElem?_eq_some_iff.1 hX9).1) (by simp) (by rw [HJ.out]; simp; omega) (by omega) S9.size
                have HRn := Lib.hid hr
                have S10 : Hid (Sep w w9 [rO stk 34 w.heap.size v9 (ms ++ [(([b0, b1, b2, b3], e0) : C.St)]), rC num 72 c v8 L']) := (S9.row 1 rfl ho hg hnw).tail
                have hbl : Blk w8 bs [Value.int .u64 (b0 : Int), Value.int .u64 (b1 : Int), Value.int .u64 (b2 : Int), Value.int .u64 (b3 : Int), Value.int .i64 e0] := S8.out.blk 0 rfl
                clear hr ho hg hnw hX9 S9 hB9
                go_wp2_with (first | refine blk_load rfl 34 _ rfl bs rfl [Value.int .u64 (b0 : Int), Value.int .u64 (b1 : Int), Value.int .u64 (b2 : Int), Value.int .u64 (b3 : Int), Value.int .i64 e0] hbl _ Try.underlying34 rfl HSS.out ?_ | (at_builtin; refine append_step rfl _ _ _ _ rfl rfl rfl HRn.out ?_))
                go_roundw
                case rel => exact ⟨i + 1, q, ms ++ [(([b0, b1, b2, b3], e0) : C.St)], v8, L', by omega, by omega, by omega, by go_num, by go_num, HJ', HLQ, HST, HF', S10⟩
                case measure => simp [intOf]; omega
              | false =>
                obtain rfl : wn = true := HWT.out
                clear HWT
                have HLQ : Hid (L'.length = q + 1) := HLN.out
                clear HLN
                go_wp2_with (first | refine blk_load rfl 34 _ rfl bs rfl (ks .u64 [b0, b1, b2, b3] ++ [Value.int .i64 e0]) (S6.out.blk 0 rfl) _ Try.underlying34 rfl HSS.out ?_)
                refine (CA.out _ (S6.out.ch 2 rfl)).mono ?_; rintro e w8 ⟨v8, rfl, hc, ht, hn⟩
                have S8 : Hid (Sep w w8 [rB bs (ks .u64 [b0, b1, b2, b3] ++ [Value.int .i64 e0]), rO stk 34 w.heap.size (.slice sv i cv) ms, rC num 72 c v8 L']) := S6.out.chain 2 rfl hc ht hn
                clear hc ht hn S6 CA
                have hB9 : Below w8.heap.size w8 (w8.alloc (.cells #[.int .u64 (b0 : Int), .int .u64 (b1 : Int), .int .u64 (b2 : Int), .int .u64 (b3 : Int), .int .i64 e0] 34)) := (Below.refl _ _).alloc (Nat.le_refl _) _
                have S9 := S8.out.below hB9
                have hX9 : (w8.alloc (.cells #[.int .u64 (b0 : Int), .int .u64 (b1 : Int), .int .u64 (b2 : Int), .int .u64 (b3 : Int), .int .i64 e0] 34)).heap[w8.heap.size]? = some (.cells (stk.cf (([b0, b1, b2, b3], e0) : C.St)).toArray 34 (0, 0)) := heap_alloc_last w8 _
                obtain ⟨v9, w9, hr, ho, hg, hnw⟩ := run_append_one (K := stk) 68 Try.underlying68 inf_st zc_st _ w.heap.size _ ms (S9.or 1 rfl) w8.heap.size 0 1 1 [(([b0, b1, b2, b3], e0) : C.St)] (IsR.one (Blk.of_row hX9) (Array.getElem?_eq_some_iff.1 hX9).1) (by simp) (by rw [HJ.out]; simp; omega) (by omega) S9.size
                have HRn := Lib.hid hr
                have S10 : Hid (Sep w w9 [rO stk 34 w.heap.size v9 (ms ++ [(([b0, b1, b2, b3], e0) : C.St)]), rC num 72 c v8 L']) := (S9.row 1 rfl ho hg hnw).tail
                have hbl : Blk w8 bs [Value.int .u64 (b0 : Int), Value.int .u64 (b1 : Int), Value.int .u64 (b2 : Int), Value.int .u64 (b3 : Int), Value.int .i64 e0] := S8.out.blk 0 rfl
                clear hr ho hg hnw hX9 S9 hB9
                go_wp2_with (first | refine blk_load rfl 34 _ rfl bs rfl [Value.int .u64 (b0 : Int), Value.int .u64 (b1 : Int), Value.int .u64 (b2 : Int), Value.int .u64 (b3 : Int), Value.int .i64 e0] hbl _ Try.underlying34 rfl HSS.out ?_ | (at_builtin; refine append_step rfl _ _ _ _ rfl rfl rfl HRn.out ?_))
                go_roundw
                case rel => exact ⟨i + 1, q + 1, ms ++ [(([b0, b1, b2, b3], e0) : C.St)], v8, L', by omega, by omega, by omega, by go_num, by go_num, HJ', HLQ, HST, HF', S10⟩
                case measure => simp [intOf]; omega
      · have i2 : ¬ (j : Int) < 20 := by omega
        obtain ⟨sv, cv, ev, _⟩ := (Sr.out.or 0 rfl).is.is
        rw [HJ.out] at ev
        subst ev
        have CAll := Lib.hid (fun u (hu : Ch num 72 u c v L) => allI c v L u hu (by rw [HQ.out]; omega))
        have CLn := Lib.hid (fun u (hu : Ch num 72 u c v L) => lenI c v L u hu)
        rw [HQ.out] at CLn
        go_wp2_with fail
        refine (CAll.out _ (Sr.out.ch 1 rfl)).mono ?_; rintro e w3 ⟨vA, rfl, ho, hb⟩
        obtain ⟨sA, cA, eA, _⟩ := ho.is.is
        rw [HQ.out] at eA
        subst eA
        obtain ⟨bA, HBA⟩ : ∃ b, Hid (wr.heap.size = b) := ⟨_, rfl⟩
        have S3 : Hid (Sep w w3 [rO (vk num) 72 bA (.slice sA q cA) L, rO stk 34 w.heap.size (.slice sv j cv) ms, rC num 72 c v L]) := by
          show Sep _ _ _
          rw [← HBA.out]
          exact Sr.out.newrow hb ho
        clear ho hb HBA Sr CAll
        go_wp2_with fail
        go_loopw [13] (fun k wr => ∃ (i : Nat), i ≤ q ∧ k = .int .i64 (i : Int) ∧ Hid (Sep w wr [rO (vk num) 72 bA (.slice sA q cA) L, rO stk 34 w.heap.size (.slice sv j cv) ms, rC num 72 c v L])) (fun k _ => q - (intOf k).toNat)
        case atStart => exact ⟨0, by omega, rfl, S3⟩
        case round =>
          obtain ⟨i, hiq, rfl, Sk⟩ := hrel
          clear S3
          by_cases hli : i < q
          · have i3 : (i : Int) < (q : Int) := by omega
            have hxi := C.getD_some (show i < L.length by rw [HQ.out]; exact hli) (vk num).none_
            have hidx := HH.out.idx _ (List.mem_of_getElem? hxi)
            have hx4 := HH.out.up.four _ (List.mem_of_getElem? hxi)
            obtain ⟨gA, oA, cA', hv, hgA, hrow⟩ := IsR.at (Sk.out.or 0 rfl).is i (by rw [HQ.out]; exact hli)
            obtain rfl : sA = some ⟨gA, oA, none⟩ := by injection hv
            clear hv hxi
            have hprev := fun hp : 0 < i => up_at HH.out.up (i - 1) (by rw [HQ.out]; omega) (vk num).none_
            have hprow := fun hp : 0 < i => IsR.at (Sk.out.or 0 rfl).is (i - 1) (by rw [HQ.out]; omega)
            have hp4 := fun hp : 0 < i => HH.out.up.four _ (List.mem_of_getElem? (C.getD_some (show i - 1 < L.length by rw [HQ.out]; omega) (vk num).none_))
            obtain ⟨xx, HXX⟩ : ∃ x, Hid (L.getD i (vk num).none_ = x) := ⟨_, rfl⟩
            rw [HXX.out] at hrow hidx hx4
            have hprev := fun hp : 0 < i => (show C.ord (L.getD (i - 1) (vk num).none_).1 xx.1 < 0 by have := hprev hp; rw [show i - 1 + 1 = i by omega, HXX.out] at this; exact this)
            clear HXX
            obtain ⟨s, y⟩ := xx
            dsimp only at hidx hx4 hprev
            have hyj : y < j := by
              have := (List.getElem?_eq_some_iff.1 hidx).1
              rw [HJ.out] at this
              exact this
            have hsy : ms.getD y stk.none_ = s := by rw [List.getD_eq_getElem?_getD, hidx]; rfl
            obtain ⟨gm, om, cm, hv, hgm, hrowm⟩ := IsR.at (Sk.out.or 1 rfl).is y (by rw [HJ.out]; exact hyj)
            obtain rfl : sv = some ⟨gm, om, none⟩ := by injection hv
            rw [hsy, stk_cf hx4] at hrowm
            clear hv hsy hidx
            have cc : wr.cell? ⟨gA, oA + 6 * i + 5, none⟩ = some (.int .i64 (y : Int)) := hrow 5 _ rfl
            have HRA : Hid (∀ u, Below wr.heap.size wr u → u.rangeAt gA (oA + 6 * i) (ks .u64 s.1 ++ [Value.int .i64 s.2])) := fun u hu k v hv => by
              rw [hu.cell (p := ⟨gA, oA + 6 * i + k, none⟩) hgA]
              exact row_stamp hrow hx4 k v hv
            have HRM : Hid (∀ u, Below wr.heap.size wr u → u.rangeAt gm (om + 5 * y) (ks .u64 s.1 ++ [Value.int .i64 s.2])) := fun u hu k v hv => by
              rw [hu.cell (p := ⟨gm, om + 5 * y + k, none⟩) hgm]
              exact hrowm k v hv
            have HSZ := Lib.hid (size_s (d := s.2) hx4)
            have HE := Lib.hid (fun u => neq_st (a := s) (b := s) hx4 hx4 (decide_eq_true rfl) u)
            have hixa : ∀ w, (Instr.indexAt 80 (.slice (some ⟨gA, oA, none⟩) q cA) (.int .i64 (i : Int))).run Try.prog w = .ok (.pointer (some ⟨gA, oA + 6 * i, none⟩)) w := fun w => index_vI gA oA q cA i hli w
            have hixm : ∀ w, (Instr.indexAt 68 (.slice (some ⟨gm, om, none⟩) j cv) (.int .i64 (y : Int))).run Try.prog w = .ok (.pointer (some ⟨gm, om + 5 * y, none⟩)) w := fun w => index_st gm om j cv y hyj w
            have i4 : ¬ ((y : Int) < 0) := by omega
            have i5 : ¬ ((y : Int) ≥ (j : Int)) := by omega
            by_cases hp : 0 < i
            · have i6 : (0 : Int) < (i : Int) := by omega
              have k1 : IntKind.i64.wrap ((i : Int) - 1) = (i : Int) - 1 := by rw [IntKind.wrap_i64]; omega
              have hprev := hprev hp
              have hp4 := hp4 hp
              obtain ⟨gB, oB, cB, hv, hgB, hrowb⟩ := hprow hp
              obtain ⟨rfl, rfl⟩ : gA = gB ∧ oA = oB := by injection hv with h1; injection h1 with h1; injection h1 with h1 h2; exact ⟨h1, h2⟩
              clear hprow hv
              obtain ⟨pp, HPP⟩ : ∃ x, Hid (L.getD (i - 1) (vk num).none_ = x) := ⟨_, rfl⟩
              rw [HPP.out] at hrowb hp4 hprev
              clear HPP
              obtain ⟨p, z⟩ := pp
              dsimp only at hp4 hprev
              obtain ⟨od, HOD⟩ : ∃ od, Hid (C.ord p s = od) := ⟨_, rfl⟩
              have XO : Hid (∀ u, Below wr.heap.size wr u → Calls Try.prog 28 [SV p.1 p.2, SV s.1 s.2].toArray u fun e u' => e = .returned (.int .i64 od) ∧ Below wr.heap.size wr u') := fun u hu => Calls.more hu (by have := order_any p.1 s.1 p.2 s.2 u hp4 hx4; rw [show T.order p.1 p.2 s.1 s.2 = od from HOD.out] at this; exact this)
              rw [HOD.out] at hprev
              have hod : ¬ (0 ≤ od) := by omega
              obtain ⟨h, HH1⟩ : ∃ h, Hid (i - 1 = h) := ⟨_, rfl⟩
              have hhq : h < q := by have := HH1.out; omega
              have hih : (i : Int) - 1 = (h : Int) := by have := HH1.out; omega
              rw [HH1.out] at hrowb
              have HRB : Hid (∀ u, Below wr.heap.size wr u → u.rangeAt gA (oA + 6 * h) (ks .u64 p.1 ++ [Value.int .i64 p.2])) := fun u hu k v hv => by
                rw [hu.cell (p := ⟨gA, oA + 6 * h + k, none⟩) hgA]
                exact row_stamp hrowb hp4 k v hv
              have HSP := Lib.hid (size_s (d := p.2) hp4)
              have hixb : ∀ w, (Instr.indexAt 80 (.slice (some ⟨gA, oA, none⟩) q cA) (.int .i64 ((i : Int) - 1))).run Try.prog w = .ok (.pointer (some ⟨gA, oA + 6 * h, none⟩)) w := fun w => by rw [hih]; exact index_vI gA oA q cA h hhq w
              clear hrow hrowm hrowb hprev hp4 hx4 hih hgA hgm hgB
              go_wp2_with fail
              refine region_w Try.mixed (by kernel_rfl) ?_
              refine w_move rfl _ rfl (.int .i64 (y : Int)) rfl (fun K hK => ?_)
              go_simp
              refine hK _ ?_
              clear hK K
              refine w_value rfl (.bool false) (fun u hu => by go_simp) (fun K hK => ?_)
              go_simp
              refine hK _ ?_
              clear hK K
              refine w_move rfl _ rfl (.bool false) rfl (fun K hK => ?_)
              go_simp
              refine hK _ ?_
              clear hK K
              refine wg_value (by rfl) (.int .i64 (y : Int)) (fun u hu => by go_simp) (fun K hK => ?_)
              go_simp
              refine hK _ ?_
              clear hK K
              refine wg_value (by rfl) (.slice (some ⟨gm, om, none⟩) j cv) (fun u hu => by go_simp) (fun K hK => ?_)
              go_simp
              refine hK _ ?_
              clear hK K
              refine wg_value (by rfl) (.int .i64 (j : Int)) (fun u hu => by go_simp) (fun K hK => ?_)
              go_simp
              refine hK _ ?_
              clear hK K
              refine wg_value (by rfl) (.bool false) (fun u hu => by go_simp) (fun K hK => ?_)
              go_simp
              refine hK _ ?_
              clear hK K
              refine w_value rfl (.bool false) (fun u hu => by go_simp) (fun K hK => ?_)
              go_simp
              refine hK _ ?_
              clear hK K
              refine w_move rfl _ rfl (.bool false) rfl (fun K hK => ?_)
              go_simp
              refine hK _ ?_
              clear hK K
              refine wg_value (by rfl) (.slice (some ⟨gm, om, none⟩) j cv) (fun u hu => by go_simp) (fun K hK => ?_)
              go_simp
              refine hK _ ?_
              clear hK K
              refine wg_value (by rfl) (.int .i64 (y : Int)) (fun u hu => by go_simp) (fun K hK => ?_)
              go_simp
              refine hK _ ?_
              clear hK K
              refine wg_value (by rfl) (.pointer (some ⟨gm, om + 5 * y, none⟩)) (fun u hu => by have hs := hixm u; go_simp) (fun K hK => ?_)
              go_simp
              refine hK _ ?_
              clear hK K
              refine wg_mid_load (by rfl) 34 _ rfl gm (om + 5 * y) rfl (ks .u64 s.1 ++ [Value.int .i64 s.2]) (by exact HRM.out) _ Try.underlying34 rfl HSZ.out (fun K hK => ?_)
              go_simp
              refine hK _ ?_
              clear hK K
              refine wg_value (by rfl) (.slice (some ⟨gA, oA, none⟩) q cA) (fun u hu => by go_simp) (fun K hK => ?_)
              go_simp
              refine hK _ ?_
              clear hK K
              refine wg_value (by rfl) (.int .i64 (i : Int)) (fun u hu => by go_simp) (fun K hK => ?_)
              go_simp
              refine hK _ ?_
              clear hK K
              refine wg_value (by rfl) (.pointer (some ⟨gA, oA + 6 * i, none⟩)) (fun u hu => by have hs := hixa u; go_simp) (fun K hK => ?_)
              go_simp
              refine hK _ ?_
              clear hK K
              refine wg_value (by rfl) (.pointer (some ⟨gA, oA + 6 * i, none⟩)) (fun u hu => by go_simp) (fun K hK => ?_)
              go_simp
              refine hK _ ?_
              clear hK K
              refine wg_mid_load (by rfl) 34 _ rfl gA (oA + 6 * i) rfl (ks .u64 s.1 ++ [Value.int .i64 s.2]) (by exact HRA.out) _ Try.underlying34 rfl HSZ.out (fun K hK => ?_)
              go_simp
              refine hK _ ?_
              clear hK K
              refine wg_value (by rfl) (.bool false) (fun u _ => run_eql u .neq 34 34 _ _ (SV s.1 s.2) (SV s.1 s.2) _ rfl rfl rfl (guard_sn _ _ _ _ _ _ u) (HE.out u)) (fun K hK => ?_)
              go_simp
              refine hK _ ?_
              clear hK K
              refine w_value rfl (.bool false) (fun u hu => by go_simp) (fun K hK => ?_)
              go_simp
              refine hK _ ?_
              clear hK K
              refine w_move rfl _ rfl (.bool false) rfl (fun K hK => ?_)
              go_simp
              refine hK _ ?_
              clear hK K
              refine wg_value (by rfl) (.int .i64 (i : Int)) (fun u hu => by go_simp) (fun K hK => ?_)
              go_simp
              refine hK _ ?_
              clear hK K
              refine wg_value (by rfl) (.bool true) (fun u hu => by go_simp) (fun K hK => ?_)
              go_simp
              refine hK _ ?_
              clear hK K
              refine wg_value (by rfl) (.bool true) (fun u hu => by go_simp) (fun K hK => ?_)
              go_simp
              refine hK _ ?_
              clear hK K
              refine wg_value (by rfl) (.slice (some ⟨gA, oA, none⟩) q cA) (fun u hu => by go_simp) (fun K hK => ?_)
              go_simp
              refine hK _ ?_
              clear hK K
              refine wg_value (by rfl) (.int .i64 (i : Int)) (fun u hu => by go_simp) (fun K hK => ?_)
              go_simp
              refine hK _ ?_
              clear hK K
              refine wg_value (by rfl) (.int .i64 ((i : Int) - 1)) (fun u hu => by have hs := k1; go_simp) (fun K hK => ?_)
              go_simp
              refine hK _ ?_
              clear hK K
              refine wg_value (by rfl) (.pointer (some ⟨gA, oA + 6 * h, none⟩)) (fun u hu => by have hs := hixb u; go_simp) (fun K hK => ?_)
              go_simp
              refine hK _ ?_
              clear hK K
              refine wg_value (by rfl) (.pointer (some ⟨gA, oA + 6 * h, none⟩)) (fun u hu => by go_simp) (fun K hK => ?_)
              go_simp
              refine hK _ ?_
              clear hK K
              refine wg_mid_load (by rfl) 34 _ rfl gA (oA + 6 * h) rfl (ks .u64 p.1 ++ [Value.int .i64 p.2]) (by exact HRB.out) _ Try.underlying34 rfl HSP.out (fun K hK => ?_)
              go_simp
              refine hK _ ?_
              clear hK K
              refine wg_value (by rfl) (.slice (some ⟨gA, oA, none⟩) q cA) (fun u hu => by go_simp) (fun K hK => ?_)
              go_simp
              refine hK _ ?_
              clear hK K
              refine wg_value (by rfl) (.int .i64 (i : Int)) (fun u hu => by go_simp) (fun K hK => ?_)
              go_simp
              refine hK _ ?_
              clear hK K
              refine wg_value (by rfl) (.pointer (some ⟨gA, oA + 6 * i, none⟩)) (fun u hu => by have hs := hixa u; go_simp) (fun K hK => ?_)
              go_simp
              refine hK _ ?_
              clear hK K
              refine wg_value (by rfl) (.pointer (some ⟨gA, oA + 6 * i, none⟩)) (fun u hu => by go_simp) (fun K hK => ?_)
              go_simp
              refine hK _ ?_
              clear hK K
              refine wg_mid_load (by rfl) 34 _ rfl gA (oA + 6 * i) rfl (ks .u64 s.1 ++ [Value.int .i64 s.2]) (by exact HRA.out) _ Try.underlying34 rfl HSZ.out (fun K hK => ?_)
              go_simp
              refine hK _ ?_
              clear hK K
              refine wg_call (by rfl) 28 Try.f28 Try.func28 rfl rfl _ _ rfl [SV p.1 p.2, SV s.1 s.2] rfl (.int .i64 od) (by exact XO.out) (fun K hK => ?_)
              go_simp
              refine hK _ ?_
              clear hK K
              refine wg_value (by rfl) (.bool false) (fun u hu => by have hs := hod; go_simp) (fun K hK => ?_)
              go_simp
              refine hK _ ?_
              clear hK K
              refine wg_value (by rfl) (.bool false) (fun u hu => by go_simp) (fun K hK => ?_)
              go_simp
              refine hK _ ?_
              clear hK K
              refine w_value rfl (.bool false) (fun u hu => by go_simp) (fun K hK => ?_)
              go_simp
              refine hK _ ?_
              clear hK K
              refine w_nil ?_
              intro u hu
              have S9 := Lib.hid (Sk.out.below hu)
              clear hu HRA HRM HRB XO HE hixa hixb hixm cc Sk k1
              go_wp2_with fail
              go_roundw
              case rel => exact ⟨i + 1, by omega, by go_num, S9⟩
              case measure => simp [intOf]; omega
            · have i6 : ¬ ((0 : Int) < (i : Int)) := by omega
              clear hrow hrowm hprev hp4 hprow hx4 hgA hgm
              go_wp2_with fail
              refine region_w Try.mixed (by kernel_rfl) ?_
              refine w_move rfl _ rfl (.int .i64 (y : Int)) rfl (fun K hK => ?_)
              go_simp
              refine hK _ ?_
              clear hK K
              refine w_value rfl (.bool false) (fun u hu => by go_simp) (fun K hK => ?_)
              go_simp
              refine hK _ ?_
              clear hK K
              refine w_move rfl _ rfl (.bool false) rfl (fun K hK => ?_)
              go_simp
              refine hK _ ?_
              clear hK K
              refine wg_value (by rfl) (.int .i64 (y : Int)) (fun u hu => by go_simp) (fun K hK => ?_)
              go_simp
              refine hK _ ?_
              clear hK K
              refine wg_value (by rfl) (.slice (some ⟨gm, om, none⟩) j cv) (fun u hu => by go_simp) (fun K hK => ?_)
              go_simp
              refine hK _ ?_
              clear hK K
              refine wg_value (by rfl) (.int .i64 (j : Int)) (fun u hu => by go_simp) (fun K hK => ?_)
              go_simp
              refine hK _ ?_
              clear hK K
              refine wg_value (by rfl) (.bool false) (fun u hu => by go_simp) (fun K hK => ?_)
              go_simp
              refine hK _ ?_
              clear hK K
              refine w_value rfl (.bool false) (fun u hu => by go_simp) (fun K hK => ?_)
              go_simp
              refine hK _ ?_
              clear hK K
              refine w_move rfl _ rfl (.bool false) rfl (fun K hK => ?_)
              go_simp
              refine hK _ ?_
              clear hK K
              refine wg_value (by rfl) (.slice (some ⟨gm, om, none⟩) j cv) (fun u hu => by go_simp) (fun K hK => ?_)
              go_simp
              refine hK _ ?_
              clear hK K
              refine wg_value (by rfl) (.int .i64 (y : Int)) (fun u hu => by go_simp) (fun K hK => ?_)
              go_simp
              refine hK _ ?_
              clear hK K
              refine wg_value (by rfl) (.pointer (some ⟨gm, om + 5 * y, none⟩)) (fun u hu => by have hs := hixm u; go_simp) (fun K hK => ?_)
              go_simp
              refine hK _ ?_
              clear hK K
              refine wg_mid_load (by rfl) 34 _ rfl gm (om + 5 * y) rfl (ks .u64 s.1 ++ [Value.int .i64 s.2]) (by exact HRM.out) _ Try.underlying34 rfl HSZ.out (fun K hK => ?_)
              go_simp
              refine hK _ ?_
              clear hK K
              refine wg_value (by rfl) (.slice (some ⟨gA, oA, none⟩) q cA) (fun u hu => by go_simp) (fun K hK => ?_)
              go_simp
              refine hK _ ?_
              clear hK K
              refine wg_value (by rfl) (.int .i64 (i : Int)) (fun u hu => by go_simp) (fun K hK => ?_)
              go_simp
              refine hK _ ?_
              clear hK K
              refine wg_value (by rfl) (.pointer (some ⟨gA, oA + 6 * i, none⟩)) (fun u hu => by have hs := hixa u; go_simp) (fun K hK => ?_)
              go_simp
              refine hK _ ?_
              clear hK K
              refine wg_value (by rfl) (.pointer (some ⟨gA, oA + 6 * i, none⟩)) (fun u hu => by go_simp) (fun K hK => ?_)
              go_simp
              refine hK _ ?_
              clear hK K
              refine wg_mid_load (by rfl) 34 _ rfl gA (oA + 6 * i) rfl (ks .u64 s.1 ++ [Value.int .i64 s.2]) (by exact HRA.out) _ Try.underlying34 rfl HSZ.out (fun K hK => ?_)
              go_simp
              refine hK _ ?_
              clear hK K
              refine wg_value (by rfl) (.bool false) (fun u _ => run_eql u .neq 34 34 _ _ (SV s.1 s.2) (SV s.1 s.2) _ rfl rfl rfl (guard_sn _ _ _ _ _ _ u) (HE.out u)) (fun K hK => ?_)
              go_simp
              refine hK _ ?_
              clear hK K
              refine w_value rfl (.bool false) (fun u hu => by go_simp) (fun K hK => ?_)
              go_simp
              refine hK _ ?_
              clear hK K
              refine w_move rfl _ rfl (.bool false) rfl (fun K hK => ?_)
              go_simp
              refine hK _ ?_
              clear hK K
              refine wg_value (by rfl) (.int .i64 (i : Int)) (fun u hu => by go_simp) (fun K hK => ?_)
              go_simp
              refine hK _ ?_
              clear hK K
              refine wg_value (by rfl) (.bool false) (fun u hu => by go_simp) (fun K hK => ?_)
              go_simp
              refine hK _ ?_
              clear hK K
              refine wg_value (by rfl) (.bool false) (fun u hu => by go_simp) (fun K hK => ?_)
              go_simp
              refine hK _ ?_
              clear hK K
              refine w_skip 23 true (some false) rfl (by rfl) rfl (fun K hK => ?_)
              go_simp
              refine hK _ ?_
              clear hK K
              refine w_skip 23 true (some false) rfl (by rfl) rfl (fun K hK => ?_)
              go_simp
              refine hK _ ?_
              clear hK K
              refine w_skip 23 true (some false) rfl (by rfl) rfl (fun K hK => ?_)
              go_simp
              refine hK _ ?_
              clear hK K
              refine w_skip 23 true (some false) rfl (by rfl) rfl (fun K hK => ?_)
              go_simp
              refine hK _ ?_
              clear hK K
              refine w_skip 23 true (some false) rfl (by rfl) rfl (fun K hK => ?_)
              go_simp
              refine hK _ ?_
              clear hK K
              refine w_skip 23 true (some false) rfl (by rfl) rfl (fun K hK => ?_)
              go_simp
              refine hK _ ?_
              clear hK K
              refine w_skip 23 true (some false) rfl (by rfl) rfl (fun K hK => ?_)
              go_simp
              refine hK _ ?_
              clear hK K
              refine w_skip 23 true (some false) rfl (by rfl) rfl (fun K hK => ?_)
              go_simp
              refine hK _ ?_
              clear hK K
              refine w_skip 23 true (some false) rfl (by rfl) rfl (fun K hK => ?_)
              go_simp
              refine hK _ ?_
              clear hK K
              refine w_skip 23 true (some false) rfl (by rfl) rfl (fun K hK => ?_)
              go_simp
              refine hK _ ?_
              clear hK K
              refine w_skip 23 true (some false) rfl (by rfl) rfl (fun K hK => ?_)
              go_simp
              refine hK _ ?_
              clear hK K
              refine w_skip 23 true (some false) rfl (by rfl) rfl (fun K hK => ?_)
              go_simp
              refine hK _ ?_
              clear hK K
              refine w_skip 23 true (some false) rfl (by rfl) rfl (fun K hK => ?_)
              go_simp
              refine hK _ ?_
              clear hK K
              refine wg_value (by rfl) (.bool false) (fun u hu => by go_simp) (fun K hK => ?_)
              go_simp
              refine hK _ ?_
              clear hK K
              refine w_value rfl (.bool false) (fun u hu => by go_simp) (fun K hK => ?_)
              go_simp
              refine hK _ ?_
              clear hK K
              refine w_nil ?_
              intro u hu
              have S9 := Lib.hid (Sk.out.below hu)
              clear hu HRA HRM HE hixa hixm cc Sk
              go_wp2_with fail
              go_roundw
              case rel => exact ⟨i + 1, by omega, by go_num, S9⟩
              case measure => simp [intOf]; omega
          · obtain rfl : i = q := by omega
            have i3 : ¬ (i : Int) < (i : Int) := by omega
            go_wp2_with fail
            refine (CLn.out _ (Sk.out.ch 2 rfl)).mono ?_; rintro e wl ⟨rfl, rfl⟩
            have HB9 := Lib.hid Sk.out.under
            clear Sk CLn
            go_wp2_with fail
            go_ret
            exact ⟨rfl, HB9.out⟩
    · have i1 : ¬ (j : Int) < (n : Int) := by omega
      obtain ⟨sv, cv, ev, _⟩ := (Sr.out.or 0 rfl).is.is
      rw [HJ.out] at ev
      subst ev
      have CAll := Lib.hid (fun u (hu : Ch num 72 u c v L) => allI c v L u hu (by rw [HQ.out]; omega))
      have CLn := Lib.hid (fun u (hu : Ch num 72 u c v L) => lenI c v L u hu)
      rw [HQ.out] at CLn
      go_wp2_with fail
      refine (CAll.out _ (Sr.out.ch 1 rfl)).mono ?_; rintro e w3 ⟨vA, rfl, ho, hb⟩
      obtain ⟨sA, cA, eA, _⟩ := ho.is.is
      rw [HQ.out] at eA
      subst eA
      obtain ⟨bA, HBA⟩ : ∃ b, Hid (wr.heap.size = b) := ⟨_, rfl⟩
      have S3 : Hid (Sep w w3 [rO (vk num) 72 bA (.slice sA q cA) L, rO stk 34 w.heap.size (.slice sv j cv) ms, rC num 72 c v L]) := by
        show Sep _ _ _
        rw [← HBA.out]
        exact Sr.out.newrow hb ho
      clear ho hb HBA Sr CAll
      go_wp2_with fail
      go_loopw [13] (fun k wr => ∃ (i : Nat), i ≤ q ∧ k = .int .i64 (i : Int) ∧ Hid (Sep w wr [rO (vk num) 72 bA (.slice sA q cA) L, rO stk 34 w.heap.size (.slice sv j cv) ms, rC num 72 c v L])) (fun k _ => q - (intOf k).toNat)
      case atStart => exact ⟨0, by omega, rfl, S3⟩
      case round =>
        obtain ⟨i, hiq, rfl, Sk⟩ := hrel
        clear S3
        by_cases hli : i < q
        · have i3 : (i : Int) < (q : Int) := by omega
          have hxi := C.getD_some (show i < L.length by rw [HQ.out]; exact hli) (vk num).none_
          have hidx := HH.out.idx _ (List.mem_of_getElem? hxi)
          have hx4 := HH.out.up.four _ (List.mem_of_getElem? hxi)
          obtain ⟨gA, oA, cA', hv, hgA, hrow⟩ := IsR.at (Sk.out.or 0 rfl).is i (by rw [HQ.out]; exact hli)
          obtain rfl : sA = some ⟨gA, oA, none⟩ := by injection hv
          clear hv hxi
          have hprev := fun hp : 0 < i => up_at HH.out.up (i - 1) (by rw [HQ.out]; omega) (vk num).none_
          have hprow := fun hp : 0 < i => IsR.at (Sk.out.or 0 rfl).is (i - 1) (by rw [HQ.out]; omega)
          have hp4 := fun hp : 0 < i => HH.out.up.four _ (List.mem_of_getElem? (C.getD_some (show i - 1 < L.length by rw [HQ.out]; omega) (vk num).none_))
          obtain ⟨xx, HXX⟩ : ∃ x, Hid (L.getD i (vk num).none_ = x) := ⟨_, rfl⟩
          rw [HXX.out] at hrow hidx hx4
          have hprev := fun hp : 0 < i => (show C.ord (L.getD (i - 1) (vk num).none_).1 xx.1 < 0 by have := hprev hp; rw [show i - 1 + 1 = i by omega, HXX.out] at this; exact this)
          clear HXX
          obtain ⟨s, y⟩ := xx
          dsimp only at hidx hx4 hprev
          have hyj : y < j := by
            have := (List.getElem?_eq_some_iff.1 hidx).1
            rw [HJ.out] at this
            exact this
          have hsy : ms.getD y stk.none_ = s := by rw [List.getD_eq_getElem?_getD, hidx]; rfl
          obtain ⟨gm, om, cm, hv, hgm, hrowm⟩ := IsR.at (Sk.out.or 1 rfl).is y (by rw [HJ.out]; exact hyj)
          obtain rfl : sv = some ⟨gm, om, none⟩ := by injection hv
          rw [hsy, stk_cf hx4] at hrowm
          clear hv hsy hidx
          have cc : wr.cell? ⟨gA, oA + 6 * i + 5, none⟩ = some (.int .i64 (y : Int)) := hrow 5 _ rfl
          have HRA : Hid (∀ u, Below wr.heap.size wr u → u.rangeAt gA (oA + 6 * i) (ks .u64 s.1 ++ [Value.int .i64 s.2])) := fun u hu k v hv => by
            rw [hu.cell (p := ⟨gA, oA + 6 * i + k, none⟩) hgA]
            exact row_stamp hrow hx4 k v hv
          have HRM : Hid (∀ u, Below wr.heap.size wr u → u.rangeAt gm (om + 5 * y) (ks .u64 s.1 ++ [Value.int .i64 s.2])) := fun u hu k v hv => by
            rw [hu.cell (p := ⟨gm, om + 5 * y + k, none⟩) hgm]
            exact hrowm k v hv
          have HSZ := Lib.hid (size_s (d := s.2) hx4)
          have HE := Lib.hid (fun u => neq_st (a := s) (b := s) hx4 hx4 (decide_eq_true rfl) u)
          have hixa : ∀ w, (Instr.indexAt 80 (.slice (some ⟨gA, oA, none⟩) q cA) (.int .i64 (i : Int))).run Try.prog w = .ok (.pointer (some ⟨gA, oA + 6 * i, none⟩)) w := fun w => index_vI gA oA q cA i hli w
          have hixm : ∀ w, (Instr.indexAt 68 (.slice (some ⟨gm, om, none⟩) j cv) (.int .i64 (y : Int))).run Try.prog w = .ok (.pointer (some ⟨gm, om + 5 * y, none⟩)) w := fun w => index_st gm om j cv y hyj w
          have i4 : ¬ ((y : Int) < 0) := by omega
          have i5 : ¬ ((y : Int) ≥ (j : Int)) := by omega
          by_cases hp : 0 < i
          · have i6 : (0 : Int) < (i : Int) := by omega
            have k1 : IntKind.i64.wrap ((i : Int) - 1) = (i : Int) - 1 := by rw [IntKind.wrap_i64]; omega
            have hprev := hprev hp
            have hp4 := hp4 hp
            obtain ⟨gB, oB, cB, hv, hgB, hrowb⟩ := hprow hp
            obtain ⟨rfl, rfl⟩ : gA = gB ∧ oA = oB := by injection hv with h1; injection h1 with h1; injection h1 with h1 h2; exact ⟨h1, h2⟩
            clear hprow hv
            obtain ⟨pp, HPP⟩ : ∃ x, Hid (L.getD (i - 1) (vk num).none_ = x) := ⟨_, rfl⟩
            rw [HPP.out] at hrowb hp4 hprev
            clear HPP
            obtain ⟨p, z⟩ := pp
            dsimp only at hp4 hprev
            obtain ⟨od, HOD⟩ : ∃ od, Hid (C.ord p s = od) := ⟨_, rfl⟩
            have XO : Hid (∀ u, Below wr.heap.size wr u → Calls Try.prog 28 [SV p.1 p.2, SV s.1 s.2].toArray u fun e u' => e = .returned (.int .i64 od) ∧ Below wr.heap.size wr u') := fun u hu => Calls.more hu (by have := order_any p.1 s.1 p.2 s.2 u hp4 hx4; rw [show T.order p.1 p.2 s.1 s.2 = od from HOD.out] at this; exact this)
            rw [HOD.out] at hprev
            have hod : ¬ (0 ≤ od) := by omega
            obtain ⟨h, HH1⟩ : ∃ h, Hid (i - 1 = h) := ⟨_, rfl⟩
            have hhq : h < q := by have := HH1.out; omega
            have hih : (i : Int) - 1 = (h : Int) := by have := HH1.out; omega
            rw [HH1.out] at hrowb
            have HRB : Hid (∀ u, Below wr.heap.size wr u → u.rangeAt gA (oA + 6 * h) (ks .u64 p.1 ++ [Value.int .i64 p.2])) := fun u hu k v hv => by
              rw [hu.cell (p := ⟨gA, oA + 6 * h + k, none⟩) hgA]
              exact row_stamp hrowb hp4 k v hv
            have HSP := Lib.hid (size_s (d := p.2) hp4)
            have hixb : ∀ w, (Instr.indexAt 80 (.slice (some ⟨gA, oA, none⟩) q cA) (.int .i64 ((i : Int) - 1))).run Try.prog w = .ok (.pointer (some ⟨gA, oA + 6 * h, none⟩)) w := fun w => by rw [hih]; exact index_vI gA oA q cA h hhq w
            clear hrow hrowm hrowb hprev hp4 hx4 hih hgA hgm hgB
            go_wp2_with fail
            refine region_w Try.mixed (by kernel_rfl) ?_
            refine w_move rfl _ rfl (.int .i64 (y : Int)) rfl (fun K hK => ?_)
            go_simp
            refine hK _ ?_
            clear hK K
            refine w_value rfl (.bool false) (fun u hu => by go_simp) (fun K hK => ?_)
            go_simp
            refine hK _ ?_
            clear hK K
            refine w_move rfl _ rfl (.bool false) rfl (fun K hK => ?_)
            go_simp
            refine hK _ ?_
            clear hK K
            refine wg_value (by rfl) (.int .i64 (y : Int)) (fun u hu => by go_simp) (fun K hK => ?_)
            go_simp
            refine hK _ ?_
            clear hK K
            refine wg_value (by rfl) (.slice (some ⟨gm, om, none⟩) j cv) (fun u hu => by go_simp) (fun K hK => ?_)
            go_simp
            refine hK _ ?_
            clear hK K
            refine wg_value (by rfl) (.int .i64 (j : Int)) (fun u hu => by go_simp) (fun K hK => ?_)
            go_simp
            refine hK _ ?_
            clear hK K
            refine wg_value (by rfl) (.bool false) (fun u hu => by go_simp) (fun K hK => ?_)
            go_simp
            refine hK _ ?_
            clear hK K
            refine w_value rfl (.bool false) (fun u hu => by go_simp) (fun K hK => ?_)
            go_simp
            refine hK _ ?_
            clear hK K
            refine w_move rfl _ rfl (.bool false) rfl (fun K hK => ?_)
            go_simp
            refine hK _ ?_
            clear hK K
            refine wg_value (by rfl) (.slice (some ⟨gm, om, none⟩) j cv) (fun u hu => by go_simp) (fun K hK => ?_)
            go_simp
            refine hK _ ?_
            clear hK K
            refine wg_value (by rfl) (.int .i64 (y : Int)) (fun u hu => by go_simp) (fun K hK => ?_)
            go_simp
            refine hK _ ?_
            clear hK K
            refine wg_value (by rfl) (.pointer (some ⟨gm, om + 5 * y, none⟩)) (fun u hu => by have hs := hixm u; go_simp) (fun K hK => ?_)
            go_simp
            refine hK _ ?_
            clear hK K
            refine wg_mid_load (by rfl) 34 _ rfl gm (om + 5 * y) rfl (ks .u64 s.1 ++ [Value.int .i64 s.2]) (by exact HRM.out) _ Try.underlying34 rfl HSZ.out (fun K hK => ?_)
            go_simp
            refine hK _ ?_
            clear hK K
            refine wg_value (by rfl) (.slice (some ⟨gA, oA, none⟩) q cA) (fun u hu => by go_simp) (fun K hK => ?_)
            go_simp
            refine hK _ ?_
            clear hK K
            refine wg_value (by rfl) (.int .i64 (i : Int)) (fun u hu => by go_simp) (fun K hK => ?_)
            go_simp
            refine hK _ ?_
            clear hK K
            refine wg_value (by rfl) (.pointer (some ⟨gA, oA + 6 * i, none⟩)) (fun u hu => by have hs := hixa u; go_simp) (fun K hK => ?_)
            go_simp
            refine hK _ ?_
            clear hK K
            refine wg_value (by rfl) (.pointer (some ⟨gA, oA + 6 * i, none⟩)) (fun u hu => by go_simp) (fun K hK => ?_)
            go_simp
            refine hK _ ?_
            clear hK K
            refine wg_mid_load (by rfl) 34 _ rfl gA (oA + 6 * i) rfl (ks .u64 s.1 ++ [Value.int .i64 s.2]) (by exact HRA.out) _ Try.underlying34 rfl HSZ.out (fun K hK => ?_)
            go_simp
            refine hK _ ?_
            clear hK K
            refine wg_value (by rfl) (.bool false) (fun u _ => run_eql u .neq 34 34 _ _ (SV s.1 s.2) (SV s.1 s.2) _ rfl rfl rfl (guard_sn _ _ _ _ _ _ u) (HE.out u)) (fun K hK => ?_)
            go_simp
            refine hK _ ?_
            clear hK K
            refine w_value rfl (.bool false) (fun u hu => by go_simp) (fun K hK => ?_)
            go_simp
            refine hK _ ?_
            clear hK K
            refine w_move rfl _ rfl (.bool false) rfl (fun K hK => ?_)
            go_simp
            refine hK _ ?_
            clear hK K
            refine wg_value (by rfl) (.int .i64 (i : Int)) (fun u hu => by go_simp) (fun K hK => ?_)
            go_simp
            refine hK _ ?_
            clear hK K
            refine wg_value (by rfl) (.bool true) (fun u hu => by go_simp) (fun K hK => ?_)
            go_simp
            refine hK _ ?_
            clear hK K
            refine wg_value (by rfl) (.bool true) (fun u hu => by go_simp) (fun K hK => ?_)
            go_simp
            refine hK _ ?_
            clear hK K
            refine wg_value (by rfl) (.slice (some ⟨gA, oA, none⟩) q cA) (fun u hu => by go_simp) (fun K hK => ?_)
            go_simp
            refine hK _ ?_
            clear hK K
            refine wg_value (by rfl) (.int .i64 (i : Int)) (fun u hu => by go_simp) (fun K hK => ?_)
            go_simp
            refine hK _ ?_
            clear hK K
            refine wg_value (by rfl) (.int .i64 ((i : Int) - 1)) (fun u hu => by have hs := k1; go_simp) (fun K hK => ?_)
            go_simp
            refine hK _ ?_
            clear hK K
            refine wg_value (by rfl) (.pointer (some ⟨gA, oA + 6 * h, none⟩)) (fun u hu => by have hs := hixb u; go_simp) (fun K hK => ?_)
            go_simp
            refine hK _ ?_
            clear hK K
            refine wg_value (by rfl) (.pointer (some ⟨gA, oA + 6 * h, none⟩)) (fun u hu => by go_simp) (fun K hK => ?_)
            go_simp
            refine hK _ ?_
            clear hK K
            refine wg_mid_load (by rfl) 34 _ rfl gA (oA + 6 * h) rfl (ks .u64 p.1 ++ [Value.int .i64 p.2]) (by exact HRB.out) _ Try.underlying34 rfl HSP.out (fun K hK => ?_)
            go_simp
            refine hK _ ?_
            clear hK K
            refine wg_value (by rfl) (.slice (some ⟨gA, oA, none⟩) q cA) (fun u hu => by go_simp) (fun K hK => ?_)
            go_simp
            refine hK _ ?_
            clear hK K
            refine wg_value (by rfl) (.int .i64 (i : Int)) (fun u hu => by go_simp) (fun K hK => ?_)
            go_simp
            refine hK _ ?_
            clear hK K
            refine wg_value (by rfl) (.pointer (some ⟨gA, oA + 6 * i, none⟩)) (fun u hu => by have hs := hixa u; go_simp) (fun K hK => ?_)
            go_simp
            refine hK _ ?_
            clear hK K
            refine wg_value (by rfl) (.pointer (some ⟨gA, oA + 6 * i, none⟩)) (fun u hu => by go_simp) (fun K hK => ?_)
            go_simp
            refine hK _ ?_
            clear hK K
            refine wg_mid_load (by rfl) 34 _ rfl gA (oA + 6 * i) rfl (ks .u64 s.1 ++ [Value.int .i64 s.2]) (by exact HRA.out) _ Try.underlying34 rfl HSZ.out (fun K hK => ?_)
            go_simp
            refine hK _ ?_
            clear hK K
            refine wg_call (by rfl) 28 Try.f28 Try.func28 rfl rfl _ _ rfl [SV p.1 p.2, SV s.1 s.2] rfl (.int .i64 od) (by exact XO.out) (fun K hK => ?_)
            go_simp
            refine hK _ ?_
            clear hK K
            refine wg_value (by rfl) (.bool false) (fun u hu => by have hs := hod; go_simp) (fun K hK => ?_)
            go_simp
            refine hK _ ?_
            clear hK K
            refine wg_value (by rfl) (.bool false) (fun u hu => by go_simp) (fun K hK => ?_)
            go_simp
            refine hK _ ?_
            clear hK K
            refine w_value rfl (.bool false) (fun u hu => by go_simp) (fun K hK => ?_)
            go_simp
            refine hK _ ?_
            clear hK K
            refine w_nil ?_
            intro u hu
            have S9 := Lib.hid (Sk.out.below hu)
            clear hu HRA HRM HRB XO HE hixa hixb hixm cc Sk k1
            go_wp2_with fail
            go_roundw
            case rel => exact ⟨i + 1, by omega, by go_num, S9⟩
            case measure => simp [intOf]; omega
          · have i6 : ¬ ((0 : Int) < (i : Int)) := by omega
            clear hrow hrowm hprev hp4 hprow hx4 hgA hgm
            go_wp2_with fail
            refine region_w Try.mixed (by kernel_rfl) ?_
            refine w_move rfl _ rfl (.int .i64 (y : Int)) rfl (fun K hK => ?_)
            go_simp
            refine hK _ ?_
            clear hK K
            refine w_value rfl (.bool false) (fun u hu => by go_simp) (fun K hK => ?_)
            go_simp
            refine hK _ ?_
            clear hK K
            refine w_move rfl _ rfl (.bool false) rfl (fun K hK => ?_)
            go_simp
            refine hK _ ?_
            clear hK K
            refine wg_value (by rfl) (.int .i64 (y : Int)) (fun u hu => by go_simp) (fun K hK => ?_)
            go_simp
            refine hK _ ?_
            clear hK K
            refine wg_value (by rfl) (.slice (some ⟨gm, om, none⟩) j cv) (fun u hu => by go_simp) (fun K hK => ?_)
            go_simp
            refine hK _ ?_
            clear hK K
            refine wg_value (by rfl) (.int .i64 (j : Int)) (fun u hu => by go_simp) (fun K hK => ?_)
            go_simp
            refine hK _ ?_
            clear hK K
            refine wg_value (by rfl) (.bool false) (fun u hu => by go_simp) (fun K hK => ?_)
            go_simp
            refine hK _ ?_
            clear hK K
            refine w_value rfl (.bool false) (fun u hu => by go_simp) (fun K hK => ?_)
            go_simp
            refine hK _ ?_
            clear hK K
            refine w_move rfl _ rfl (.bool false) rfl (fun K hK => ?_)
            go_simp
            refine hK _ ?_
            clear hK K
            refine wg_value (by rfl) (.slice (some ⟨gm, om, none⟩) j cv) (fun u hu => by go_simp) (fun K hK => ?_)
            go_simp
            refine hK _ ?_
            clear hK K
            refine wg_value (by rfl) (.int .i64 (y : Int)) (fun u hu => by go_simp) (fun K hK => ?_)
            go_simp
            refine hK _ ?_
            clear hK K
            refine wg_value (by rfl) (.pointer (some ⟨gm, om + 5 * y, none⟩)) (fun u hu => by have hs := hixm u; go_simp) (fun K hK => ?_)
            go_simp
            refine hK _ ?_
            clear hK K
            refine wg_mid_load (by rfl) 34 _ rfl gm (om + 5 * y) rfl (ks .u64 s.1 ++ [Value.int .i64 s.2]) (by exact HRM.out) _ Try.underlying34 rfl HSZ.out (fun K hK => ?_)
            go_simp
            refine hK _ ?_
            clear hK K
            refine wg_value (by rfl) (.slice (some ⟨gA, oA, none⟩) q cA) (fun u hu => by go_simp) (fun K hK => ?_)
            go_simp
            refine hK _ ?_
            clear hK K
            refine wg_value (by rfl) (.int .i64 (i : Int)) (fun u hu => by go_simp) (fun K hK => ?_)
            go_simp
            refine hK _ ?_
            clear hK K
            refine wg_value (by rfl) (.pointer (some ⟨gA, oA + 6 * i, none⟩)) (fun u hu => by have hs := hixa u; go_simp) (fun K hK => ?_)
            go_simp
            refine hK _ ?_
            clear hK K
            refine wg_value (by rfl) (.pointer (some ⟨gA, oA + 6 * i, none⟩)) (fun u hu => by go_simp) (fun K hK => ?_)
            go_simp
            refine hK _ ?_
            clear hK K
            refine wg_mid_load (by rfl) 34 _ rfl gA (oA + 6 * i) rfl (ks .u64 s.1 ++ [Value.int .i64 s.2]) (by exact HRA.out) _ Try.underlying34 rfl HSZ.out (fun K hK => ?_)
            go_simp
            refine hK _ ?_
            clear hK K
            refine wg_value (by rfl) (.bool false) (fun u _ => run_eql u .neq 34 34 _ _ (SV s.1 s.2) (SV s.1 s.2) _ rfl rfl rfl (guard_sn _ _ _ _ _ _ u) (HE.out u)) (fun K hK => ?_)
            go_simp
            refine hK _ ?_
            clear hK K
            refine w_value rfl (.bool false) (fun u hu => by go_simp) (fun K hK => ?_)
            go_simp
            refine hK _ ?_
            clear hK K
            refine w_move rfl _ rfl (.bool false) rfl (fun K hK => ?_)
            go_simp
            refine hK _ ?_
            clear hK K
            refine wg_value (by rfl) (.int .i64 (i : Int)) (fun u hu => by go_simp) (fun K hK => ?_)
            go_simp
            refine hK _ ?_
            clear hK K
            refine wg_value (by rfl) (.bool false) (fun u hu => by go_simp) (fun K hK => ?_)
            go_simp
            refine hK _ ?_
            clear hK K
            refine wg_value (by rfl) (.bool false) (fun u hu => by go_simp) (fun K hK => ?_)
            go_simp
            refine hK _ ?_
            clear hK K
            refine w_skip 23 true (some false) rfl (by rfl) rfl (fun K hK => ?_)
            go_simp
            refine hK _ ?_
            clear hK K
            refine w_skip 23 true (some false) rfl (by rfl) rfl (fun K hK => ?_)
            go_simp
            refine hK _ ?_
            clear hK K
            refine w_skip 23 true (some false) rfl (by rfl) rfl (fun K hK => ?_)
            go_simp
            refine hK _ ?_
            clear hK K
            refine w_skip 23 true (some false) rfl (by rfl) rfl (fun K hK => ?_)
            go_simp
            refine hK _ ?_
            clear hK K
            refine w_skip 23 true (some false) rfl (by rfl) rfl (fun K hK => ?_)
            go_simp
            refine hK _ ?_
            clear hK K
            refine w_skip 23 true (some false) rfl (by rfl) rfl (fun K hK => ?_)
            go_simp
            refine hK _ ?_
            clear hK K
            refine w_skip 23 true (some false) rfl (by rfl) rfl (fun K hK => ?_)
            go_simp
            refine hK _ ?_
            clear hK K
            refine w_skip 23 true (some false) rfl (by rfl) rfl (fun K hK => ?_)
            go_simp
            refine hK _ ?_
            clear hK K
            refine w_skip 23 true (some false) rfl (by rfl) rfl (fun K hK => ?_)
            go_simp
            refine hK _ ?_
            clear hK K
            refine w_skip 23 true (some false) rfl (by rfl) rfl (fun K hK => ?_)
            go_simp
            refine hK _ ?_
            clear hK K
            refine w_skip 23 true (some false) rfl (by rfl) rfl (fun K hK => ?_)
            go_simp
            refine hK _ ?_
            clear hK K
            refine w_skip 23 true (some false) rfl (by rfl) rfl (fun K hK => ?_)
            go_simp
            refine hK _ ?_
            clear hK K
            refine w_skip 23 true (some false) rfl (by rfl) rfl (fun K hK => ?_)
            go_simp
            refine hK _ ?_
            clear hK K
            refine wg_value (by rfl) (.bool false) (fun u hu => by go_simp) (fun K hK => ?_)
            go_simp
            refine hK _ ?_
            clear hK K
            refine w_value rfl (.bool false) (fun u hu => by go_simp) (fun K hK => ?_)
            go_simp
            refine hK _ ?_
            clear hK K
            refine w_nil ?_
            intro u hu
            have S9 := Lib.hid (Sk.out.below hu)
            clear hu HRA HRM HE hixa hixm cc Sk
            go_wp2_with fail
            go_roundw
            case rel => exact ⟨i + 1, by omega, by go_num, S9⟩
            case measure => simp [intOf]; omega
        · obtain rfl : i = q := by omega
          have i3 : ¬ (i : Int) < (i : Int) := by omega
          go_wp2_with fail
          refine (CLn.out _ (Sk.out.ch 2 rfl)).mono ?_; rintro e wl ⟨rfl, rfl⟩
          have HB9 := Lib.hid Sk.out.under
          clear Sk CLn
          go_wp2_with fail
          go_ret
          exact ⟨rfl, HB9.out⟩

set_option maxRecDepth 100000 in
theorem lifted (os : Os) (started : os.Started) (H : Type) (enc : TypeId × Value → H) :
    ReturnsInHanded {} Try.checked os 6 .any (Rows.chainAddsSpec.pre6 enc Try.prog Try.f6 Rows.chainAddsRow.domain false) (Rows.chainAddsSpec.post enc Try.prog Try.f6 false true false false) := by
  refine returnsInHanded_of_change_sized (C := Try.checked) own started (by kernel_rfl) Try.func6
    (ChangeSpec.witness6 (enc := enc) (C := Try.checked) false ⟨#[], #[.slice none 0 0], []⟩ 8 (by kernel_rfl) (by kernel_rfl) (by kernel_rfl) (by kernel_rfl)) ?_
  intro W base args ds gs before hval0 hW hcnd hsz0 _
  have hval : ∀ (j : Nat) t v, Try.f6.params[j]? = some t → args[j]? = some v → Value.okWide Try.prog W .any base t v := hval0
  have hW' := hW
  obtain ⟨p, q, hA0, hV, rfl, hfz, hnd⟩ := hW
  have hA : DataW.TrodAll enc Try.prog W 0 (fun _ => true) true Try.f6.params.toList args.toList ds p := hA0
  have hsz : (DataW.weightsEach Try.prog (Try.f6.params.toList ++ Rows.chainAddsSpec.plain.varTypes Try.prog) (ds ++ gs)).all (· ≤ reachBytes) = true := hsz0
  rw [Try.params6] at hA hval hsz
  obtain ⟨rfl, rfl⟩ := trodVars_none hV
  have hAk := hA
  have hlt : ∀ x ∈ p, x.block < W.heap.size := fun x hx => by simpa using hW'.lt x (List.mem_append.2 (.inl hx))
  obtain ⟨v0, vs0, d0, ds0, p0, q0, hargs, rfl, rfl, h0, r0⟩ := trodAll_cons hA
  obtain ⟨rfl, rfl, rfl⟩ := trodAll_nil r0
  obtain rfl : args = #[v0] := by cases args; simp_all
  obtain ⟨a0, len0, cap0, rfl⟩ := okWide_slice Try.underlying65 (hval 0 65 v0 rfl rfl)
  obtain ⟨ML0, w0, m0⟩ := open_marks h0
  clear hA0 hval0 hsz0
  refine (walk (.slice a0 len0 cap0) ML0 m0 W w0).mono fun e W' ⟨he, hg⟩ => ?_
  subst he
  exact ⟨_, rfl, _, _, _, [], _, [], hW', (trodAll_cons_mk (shut_bool Try.underlying4 _) trodAll_mk0), trodAll_below laidOut hg _ _ _ _ (by kernel_rfl) hAk hlt, rfl, hg.frame _, fun h => by cases h⟩

theorem over : Rows.chainAddsRow.holds Try.pinned (OpenSpec.ofChange Rows.chainAddsSpec) :=
  OpenClaim.holds_of_wide 6 Try.f6 rfl rfl rfl rfl rfl rfl rfl ⟨rfl, rfl, rfl, rfl, rfl⟩ rfl rfl rfl rfl rfl (by kernel_rfl) Try.func6 (by kernel_rfl)
    (of_decide_eq_true (by kernel_rfl)) (by unfold Func.isWrapper; first | (rw [if_pos (by decide +kernel)]; kernel_rfl) | (rw [if_neg (by decide +kernel)]; exact ⟨rfl, rfl⟩))
    (fun os started H enc _ => lifted os started H enc)

/-- the statement -/
theorem proved : Rows.ChainAddsSaid :=
  over
#print axioms proved

end Go.Proofs.Ytmajkapapbhabaa.chainAdds
