/-
  ChainPlays: versions are added, and pruned, deed by deed, as the chapter says
-/
import Derived.Test.YtmajkapapbhabaaFrame

import Derived.Test.YtmajkapapbhabaaChainEx

import Derived.Deep.DeepCutAuto

import Derived.Test.YtmajkapapbhabaaChainDoc

namespace Go.Proofs.Ytmajkapapbhabaa.chainPlays

open Go.ChangeShapes Go.WideShapes Go.ChangeAt Go.RowKit

open Go.ChangeMaps (open_string shut_string)

open Go.Proofs.Ytmajkapapbhabaa.Vc Go.Proofs.Ytmajkapapbhabaa.Sp Go.Proofs.Ytmajkapapbhabaa.Rw Go.Proofs.Ytmajkapapbhabaa.Ch Go.Proofs.Ytmajkapapbhabaa.Se

set_option linter.unusedVariables false

set_option linter.unusedSimpArgs false

theorem size_ks {l : List Nat} (h : l.length = 4) : (Try.prog.info? 32).map (·.size) = some (ks .u64 l).length := by rw [ks_length]; exact size_v h
theorem info_ks : (Try.prog.info? 32).map (fun i => (i.zero, i.size)) = some (some (.agg (ks .u64 (List.replicate 4 0)).toArray), (ks .u64 (List.replicate 4 0)).length) := Try.info_v
theorem one_ks (l : List Nat) : (ks .u64 l).all (fun v => v.oneCell') = true := by
  rw [List.all_eq_true]
  intro v hv
  obtain ⟨x, _, rfl⟩ := List.mem_map.1 hv
  rfl
theorem vec_any (a : List Nat) (o : Bool) (ha : V.Ok a) : ∃ h : List Nat, h.length = 4 ∧ ∀ w, Calls Try.prog 10 #[.agg (ks .u64 a ++ [Value.bool o]).toArray] w fun e w' => e = .returned (.agg (ks .u64 h).toArray) ∧ Below w.heap.size w w' :=
  ⟨V.few a o, by unfold V.few; split <;> simp [ha.len], fun w => vector_any a o w ha⟩
theorem size_dd : (Try.prog.info? 40).map (·.size) = some 13 := by kernel_rfl
theorem elem_dd : Try.prog.elem 22 = 40 := by kernel_rfl
theorem index_dd (b o n cap j : Nat) (hj : j < n) (w : World) : (Instr.indexAt 22 (.slice (some ⟨b, o, none⟩) n cap) (.int .i64 (j : Int))).run Try.prog w = .ok (.pointer (some ⟨b, o + 13 * j, none⟩)) w :=
  run_index elem_dd Try.underlying22 Try.sizeOf40 b o n cap j hj w
theorem zero_dd : ddk.cf ddk.none_ = [Value.int .u8 0, .int .u64 0, .int .u64 0, .int .u64 0, .int .u64 0, .int .i64 0, .bool false, .string ⟨#[]⟩, .int .u64 0, .int .u64 0, .int .u64 0, .int .u64 0, .bool false] := rfl
theorem info_dd : (Try.prog.info? 40).map (fun i => (i.zero, i.size)) = some (some (.agg (ddk.cf ddk.none_).toArray), (ddk.cf ddk.none_).length) := by rw [zero_dd]; kernel_rfl
theorem deed_mark {w : World} {b : Nat} {x : Dd} (h : w.rangeAt b 0 (ddk.cf x)) : w.rangeAt b 1 (mkd.cf x.m) := fun j v hv => by
  have hj : j < 6 := by have := (List.getElem?_eq_some_iff.1 hv).1; rwa [mkd.len] at this
  have := h (1 + j) v (by
    match j, hj with
    | 0, _ => exact hv
    | 1, _ => exact hv
    | 2, _ => exact hv
    | 3, _ => exact hv
    | 4, _ => exact hv
    | 5, _ => exact hv)
  rwa [Nat.zero_add] at this
theorem deed_vec {w : World} {b : Nat} {x : Dd} (h : w.rangeAt b 0 (ddk.cf x)) (hl : x.l.length = 4) : w.rangeAt b 8 (ks .u64 x.l ++ [Value.bool x.own]) := fun j v hv => by
  obtain ⟨k, m, s, l, o⟩ := x
  obtain ⟨a0, a1, a2, a3, rfl⟩ := V.four hl
  have hj : j < 5 := by have := (List.getElem?_eq_some_iff.1 hv).1; simpa [ks] using this
  have := h (8 + j) v (by
    match j, hj with
    | 0, _ => exact hv
    | 1, _ => exact hv
    | 2, _ => exact hv
    | 3, _ => exact hv
    | 4, _ => exact hv)
  rwa [Nat.zero_add] at this
theorem neq_r9 (a : List Nat) (d : Int) (ha : a.length = 4) (w : World) : (binOp .neq 49 (SV a d) (SV a d)).run Try.prog w = .ok (.bool false) w := by
  have h := eq_gen under_r held_r fields_r Try.underlying45 (fun w => Try.sizeOf45 w) a a d d ha ha w
  have e : binOp .neq 49 (SV a d) (SV a d) = (do pure (.bool (!(← Op.equalIn 10000 49 (SV a d) (SV a d))))) := rfl
  rw [e]
  simp only [Sem.run_bind, h, Result.andThen_ok, Sem.run_pure]
  simp [T.same]
theorem guard_r9 (x y : Operand) (l m : List Nat) (d e : Int) (w : World) : (eqGuard .neq 49 x y (SV l d) (SV m e)).run Try.prog w = .ok () w := by
  unfold SV
  simp [eqGuard, guardType_rs]
set_option maxHeartbeats 64000000 in
set_option maxRecDepth 100000 in
theorem walk (mv0 : Value) (ML0 : List Dd) (m0 : ∀ x ∈ ML0, DOk x) (w : World) (w0 : Rw.IsR ddk w mv0 ML0) :
    Calls Try.prog 3 #[mv0] w fun e w' => e = .returned (.bool true) ∧ Below w.heap.size w w' := by
  have HML : Hid (IsR ddk w mv0 ML0) := w0
  have HMO : Hid (∀ x ∈ ML0, DOk x) := m0
  obtain ⟨sa, cap, rfl, _, _, _⟩ := w0.is
  obtain ⟨n, HN⟩ : ∃ n, Hid (ML0.length = n) := ⟨_, rfl⟩
  rw [HN.out] at HML ⊢
  clear w0 m0
  go_enter Try.func3, Try.ntmps3
  go_wp2_with fail
  refine (examples_any _).mono ?_; rintro e w1 ⟨rfl, hb1⟩
  have HB1 : Hid (Below w.heap.size w w1) := hb1
  clear hb1
  go_wp2_with fail
  refine (newS _).mono ?_; rintro e w2 ⟨rfl, hc, hb⟩
  obtain ⟨ca, HCa⟩ : ∃ c, Hid (w1.heap.size = c) := ⟨_, rfl⟩
  have S2 : Hid (Sep w w2 [rC txt 52 ca (.slice none 0 0) []]) := by
    show Sep _ _ _
    rw [← HCa.out]
    exact ((Sep.start w1).newchain hb hc).elder HB1.out
  rw [HCa.out]
  clear hc hb HCa HB1
  go_wp2_with (first | refine blk_box rfl 29 _ rfl [Value.slice none 0 0] rfl ?_)
  intro w3 A B Z
  obtain ⟨cb, HCb⟩ : ∃ c, Hid (w2.heap.size = c) := ⟨_, rfl⟩
  have S3 : Hid (Sep w w3 [rC txt 56 cb (.slice none 0 0) [], rC txt 52 ca (.slice none 0 0) []]) := by
    show Sep _ _ _
    rw [← HCb.out]
    exact S2.out.newchain B ⟨A, OR.nil _ _ _, C.Up.nil⟩
  rw [HCb.out]
  clear A B Z HCb S2
  go_wp2_with fail
  go_loopw [6] (fun i wr => ∃ (j : Nat) (va vb : Value) (L : List (C.Vr ByteArray)), j ≤ n ∧ j ≤ 50 ∧ i = .int .i64 (j : Int) ∧ Hid (L.length ≤ j) ∧ Hid (Sep w wr [rC txt 56 cb vb L, rC txt 52 ca va L])) (fun i _ => 50 - (intOf i).toNat)
  case atStart => exact ⟨0, .slice none 0 0, .slice none 0 0, [], by omega, by omega, rfl, Nat.zero_le _, S3⟩
  case round =>
    obtain ⟨j, va, vb, L, hjn, hj50, rfl, HQ, Sr⟩ := hrel
    clear S3
    by_cases hlt : j < n
    · have i1 : (j : Int) < (n : Int) := by omega
      by_cases hl2 : j < 50
      · have i2 : (j : Int) < 50 := by omega
        obtain ⟨g, off, cap', hv, hg0, hrow⟩ := IsR.at HML.out j (by rw [HN.out]; exact hlt)
        obtain rfl : sa = some ⟨g, off, none⟩ := by injection hv
        have hmem := List.mem_of_getElem? (C.getD_some (show j < ML0.length by rw [HN.out]; exact hlt) ddk.none_)
        have hxo := HMO.out _ hmem
        obtain ⟨x, HX⟩ : ∃ x, Hid (ML0.getD j ddk.none_ = x) := ⟨_, rfl⟩
        rw [HX.out] at hrow hxo
        have HXO := Lib.hid hxo
        have HROW : Hid (wr.rangeAt g (off + 13 * j) (ddk.cf x)) := fun k u hu => by rw [Sr.out.under.cell (p := ⟨g, off + 13 * j + k, none⟩) hg0]; exact hrow k u hu
        have hix : ∀ w, (Instr.indexAt 22 (.slice (some ⟨g, off, none⟩) n cap) (.int .i64 (j : Int))).run Try.prog w = .ok (.pointer (some ⟨g, off + 13 * j, none⟩)) w := fun w => index_dd g off n cap j hlt w
        obtain ⟨h, h4, hvh⟩ := vec_any x.l x.own hxo.v
        have CVh := Lib.hid hvh
        have H4 := Lib.hid h4
        have HL4 : Hid (x.l.length = 4) := hxo.v.len
        have HSV1 : Hid ((Try.prog.info? 38).map (·.size) = some (ks .u64 x.l ++ [Value.bool x.own]).length) := by show _ = _; rw [List.length_append, ks_length, HL4.out]; exact Try.size_vv
        clear hv hrow hmem HX hxo hvh h4
        go_wp2_with (first | refine wpList_load_mid rfl 40 _ rfl g (off + 13 * j) rfl (ddk.cf x) _ HROW.out Try.underlying40 rfl size_dd ?_ | refine blk_alloc rfl 40 (ddk.cf ddk.none_) rfl info_dd ?_)
        intro w4 A B Z
        obtain ⟨bd, HBD⟩ : ∃ b, Hid (wr.heap.size = b) := ⟨_, rfl⟩
        go_wp2_with (first | refine blk_store rfl 40 _ _ rfl wr.heap.size rfl (ddk.cf x) rfl _ A rfl size_dd rfl ?_)
        intro w5 A9 U9
        have S5 : Hid (Sep w w5 [rB bd (ddk.cf x), rC txt 56 cb vb L, rC txt 52 ca va L]) := by
          show Sep _ _ _
          rw [← HBD.out]
          exact Sep.fresh Sr.out B Z U9 A9
        rw [HBD.out]
        clear A B Z A9 U9 Sr HBD HROW hix
        have HRM : Hid (w5.rangeAt bd 1 (mkd.cf x.m)) := deed_mark (S5.out.blk 0 rfl).1
        go_wp2_with (first | refine wpList_load_mid rfl 36 _ rfl bd 1 rfl (mkd.cf x.m) _ HRM.out Try.underlying36 rfl size_mk ?_)
        refine (mark_row x.m HXO.out.m _).mono ?_; rintro e w6 ⟨s, -, hs4, rfl, hb⟩
        have S6 := Lib.hid (S5.out.below hb)
        have HS4 : Hid (s.1.length = 4) := hs4.len
        have HSS := Lib.hid (size_s (d := s.2) hs4.len)
        clear hs4 hb S5 HRM
        go_wp2_with (first | refine blk_alloc rfl 34 (ks .u64 (List.replicate 4 0) ++ [Value.int .i64 0]) rfl Try.info_s ?_)
        intro k7a A B Z
        obtain ⟨bkm, HB_m⟩ : ∃ b, Hid (w6.heap.size = b) := ⟨_, rfl⟩
        go_wp2_with (first | refine blk_store rfl 34 _ _ rfl w6.heap.size rfl (ks .u64 s.1 ++ [Value.int .i64 s.2]) rfl _ A (sv_len HS4.out) HSS.out (one_sv _ _) ?_)
        intro k7 A9 U9
        have Sq7 : Hid (Sep w k7 [rB bkm (ks .u64 s.1 ++ [Value.int .i64 s.2]), rB bd (ddk.cf x), rC txt 56 cb vb L, rC txt 52 ca va L]) := by
          show Sep _ _ _
          rw [← HB_m.out]
          exact Sep.fresh S6.out B Z U9 A9
        rw [HB_m.out]
        clear A B Z A9 U9 HB_m S6
        have HRV : Hid (k7.rangeAt bd 8 (ks .u64 x.l ++ [Value.bool x.own])) := deed_vec (Sq7.out.blk 1 rfl).1 HL4.out
        go_wp2_with (first | refine wpList_load_mid rfl 38 _ rfl bd 8 rfl (ks .u64 x.l ++ [Value.bool x.own]) _ HRV.out Try.underlying38 rfl HSV1.out ?_)
        clear HRV
        refine (CVh.out _).mono ?_; rintro e k8 ⟨rfl, hb⟩
        have Sq8 : Hid (Sep w k8 [rB bkm (ks .u64 s.1 ++ [Value.int .i64 s.2]), rB bd (ddk.cf x), rC txt 56 cb vb L, rC txt 52 ca va L]) := Sq7.out.below hb
        clear hb Sq7
        go_wp2_with (first | refine blk_alloc rfl 32 (ks .u64 (List.replicate 4 0)) rfl info_ks ?_)
        intro k9a A B Z
        obtain ⟨bkh, HB_h⟩ : ∃ b, Hid (k8.heap.size = b) := ⟨_, rfl⟩
        go_wp2_with (first | refine blk_store rfl 32 _ _ rfl k8.heap.size rfl (ks .u64 h) rfl _ A (by rw [ks_length, H4.out]; rfl) (size_ks H4.out) (one_ks _) ?_)
        intro k9 A9 U9
        have Sq9 : Hid (Sep w k9 [rB bkh (ks .u64 h), rB bkm (ks .u64 s.1 ++ [Value.int .i64 s.2]), rB bd (ddk.cf x), rC txt 56 cb vb L, rC txt 52 ca va L]) := by
          show Sep _ _ _
          rw [← HB_h.out]
          exact Sep.fresh Sq8.out B Z U9 A9
        rw [HB_h.out]
        clear A B Z A9 U9 HB_h Sq8
        obtain ⟨K, HK⟩ : ∃ K, Hid (x.kind = K) := ⟨_, rfl⟩
        have hK : K < 256 := by rw [← HK.out]; exact HXO.out.k
        obtain ⟨r, hr⟩ : ∃ r, r = K % 6 := ⟨_, rfl⟩
        have hr6 : r < 6 := by omega
        have T0 : (K : Int).tmod 6 = (r : Int) := by rw [Int.tmod_eq_emod_of_nonneg (by omega)]; omega
        have M0 : (K : Int) % 6 = (r : Int) := by omega
        have wu0 : IntKind.u8.wrap (r : Int) = (r : Int) := by simp [IntKind.wrap, IntKind.bits, IntKind.signed]; omega
        have c0 : k9.cell? ⟨bd, 0, none⟩ = some (.int .u8 (K : Int)) := by
          have := (Sq9.out.blk 2 rfl).cell 0 (.int .u8 (x.kind : Int)) rfl
          rw [HK.out] at this
          exact this
        clear hr hK
        go_upto_if 52 with fail
        go_cut [10] (fun b wx => b = .bool true ∧ ∃ (L' : List (C.Vr ByteArray)) (va' vb' : Value), Hid (L'.length ≤ j + 1) ∧ Hid (Sep w wx [rB bkh (ks .u64 h), rB bkm (ks .u64 s.1 ++ [Value.int .i64 s.2]), rB bd (ddk.cf x), rC txt 56 cb vb' L', rC txt 52 ca va' L']))
        case first =>
          have HLN : Hid (L.length < 1000) := by have := HQ.out; show _ < _; omega
          by_cases h5 : r = 5
          · have hd5 : ((r : Int) == 5) = true := by rw [h5]; rfl
            obtain ⟨M, HM⟩ : ∃ M, Hid (C.keep L h = M) := ⟨_, rfl⟩
            have HMQ : Hid (M.length ≤ j + 1) := by
              show _ ≤ _
              rw [← HM.out, ← keep_stays L h]
              exact Nat.le_trans (List.length_filter_le ..) (by have := HQ.out; omega)
            obtain ⟨z, HZ⟩ : ∃ z, Hid ((L.length : Int) - ((C.keep L h).length : Int) = z) := ⟨_, rfl⟩
            have C1 : Hid (∀ u, Ch txt 52 u ca va L → Calls Try.prog 11 #[.pointer (some ⟨ca, 0, none⟩), .agg (ks .u64 h).toArray] u fun e w' => ∃ v', e = .returned (.int .i64 z) ∧ Ch txt 52 w' ca v' M ∧ Tw ca va.ownBlock u w' ∧ Nw u va v') := fun u hu => by
              have := pruneS ca va L h u hu H4.out HLN.out
              rw [HZ.out, HM.out] at this
              exact this
            have C2 : Hid (∀ u, Ch txt 56 u cb vb L → Calls Try.prog 12 #[.pointer (some ⟨cb, 0, none⟩), .agg (ks .u64 h).toArray] u fun e w' => ∃ v', e = .returned (.int .i64 z) ∧ Ch txt 56 w' cb v' M ∧ Tw cb vb.ownBlock u w' ∧ Nw u vb v') := fun u hu => by
              have := refprune cb vb L h u hu H4.out HLN.out
              rw [HZ.out, HM.out] at this
              exact this
            have SD : Hid (Sep w k9.drew [rB bkh (ks .u64 h), rB bkm (ks .u64 s.1 ++ [Value.int .i64 s.2]), rB bd (ddk.cf x), rC txt 56 cb vb L, rC txt 52 ca va L]) := Sq9.out.below (Below.drew (Below.refl _ _))
            have hzz : (z == z) = true := beq_self_eq_true z
            clear HZ HM
            go_wp2_with fail
            refine region_pick (fun u => Blk u bkh (ks .u64 h)) [0, 1, 3, 4] [2, 5, 6, 7] Try.mixed (by kernel_rfl) rfl (by kernel_rfl) (SD.out.blk 0 rfl) ?_
            refine p_read rfl ?_
            refine c_move rfl _ rfl (.pointer (some ⟨ca, 0, none⟩)) rfl (fun _ _ _ h => h) (fun K hK => ?_)
            go_simp
            refine hK _ ?_
            clear hK K
            refine c_nil ?_
            refine p_read rfl ?_
            refine c_blk_load rfl 32 _ rfl bkh rfl (ks .u64 h) (fun u hu => hu) _ Try.underlying32 rfl (size_ks H4.out) (fun _ _ _ h => h) (fun K hK => ?_)
            go_simp
            refine hK _ ?_
            clear hK K
            refine c_nil ?_
            refine p_read rfl ?_
            refine c_move rfl _ rfl (.pointer (some ⟨cb, 0, none⟩)) rfl (fun _ _ _ h => h) (fun K hK => ?_)
            go_simp
            refine hK _ ?_
            clear hK K
            refine c_nil ?_
            refine p_read rfl ?_
            refine c_blk_load rfl 32 _ rfl bkh rfl (ks .u64 h) (fun u hu => hu) _ Try.underlying32 rfl (size_ks H4.out) (fun _ _ _ h => h) (fun K hK => ?_)
            go_simp
            refine hK _ ?_
            clear hK K
            refine c_nil ?_
            refine p_nil ?_
            refine p_step rfl ?_
            go_wp2_with (first | (go_at_call 11; refine Calls.mono (C1.out _ (SD.out.ch 4 rfl)) ?_; rintro e wa ⟨va', rfl, hc, ht, hn⟩))
            have SA := Lib.hid (SD.out.chain 4 rfl hc ht hn)
            clear hc ht hn
            refine And.intro (SA.out.blk 0 rfl) ?_
            refine p_step rfl ?_
            go_wp2_with (first | (go_at_call 12; refine Calls.mono (C2.out _ (SA.out.ch 3 rfl)) ?_; rintro e wb ⟨vb', rfl, hc, ht, hn⟩))
            have SB := Lib.hid (SA.out.chain 3 rfl hc ht hn)
            clear hc ht hn
            refine And.intro (SB.out.blk 0 rfl) ?_
            refine p_step rfl ?_
            go_wp2_with fail
            refine And.intro (SB.out.blk 0 rfl) ?_
            refine p_step rfl ?_
            go_wp2_with fail
            refine And.intro (SB.out.blk 0 rfl) ?_
            refine p_end ?_
            go_wp2_with fail
            go_meet
            exact ⟨rfl, M, va', vb', HMQ, SB⟩
          · have hd5 : ((r : Int) == 5) = false := by rw [beq_eq_false_iff_ne]; omega
            obtain ⟨M, HM⟩ : ∃ M, Hid ((C.add L s x.s).1 = M) := ⟨_, rfl⟩
            obtain ⟨z, HZ⟩ : ∃ z, Hid ((C.add L s x.s).2 = z) := ⟨_, rfl⟩
            have HMQ : Hid (M.length ≤ j + 1) := by
              have := C.add_len L s x.s
              have h9 := HQ.out
              show _ ≤ _
              rw [← HM.out]
              split at this <;> omega
            have C1 : Hid (∀ u, Ch txt 52 u ca va L → Calls Try.prog 13 #[.pointer (some ⟨ca, 0, none⟩), .agg (ks .u64 s.1 ++ [Value.int .i64 s.2]).toArray, .string x.s] u fun e w' => ∃ v', e = .returned (.bool z) ∧ Ch txt 52 w' ca v' M ∧ Tw ca va.ownBlock u w' ∧ Nw u va v') := fun u hu => by
              have := addS ca va L s x.s u hu HS4.out HLN.out
              rw [HZ.out, HM.out] at this
              exact this
            have C2 : Hid (∀ u, Ch txt 56 u cb vb L → Calls Try.prog 14 #[.pointer (some ⟨cb, 0, none⟩), .agg (ks .u64 s.1 ++ [Value.int .i64 s.2]).toArray, .string x.s] u fun e w' => ∃ v', e = .returned (.bool z) ∧ Ch txt 56 w' cb v' M ∧ Tw cb vb.ownBlock u w' ∧ Nw u vb v') := fun u hu => by
              have := refadd cb vb L s x.s u hu HS4.out HLN.out
              rw [HZ.out, HM.out] at this
              exact this
            have CRS : Hid (∀ u, Calls Try.prog 15 #[.agg (ks .u64 s.1 ++ [Value.int .i64 s.2]).toArray] u fun e w' => e = .returned (.agg (ks .u64 s.1 ++ [Value.int .i64 s.2]).toArray) ∧ Below u.heap.size u w') := fun u => refstamp_any s.1 s.2 u HS4.out
            have SD : Hid (Sep w k9.drew [rB bkh (ks .u64 h), rB bkm (ks .u64 s.1 ++ [Value.int .i64 s.2]), rB bd (ddk.cf x), rC txt 56 cb vb L, rC txt 52 ca va L]) := Sq9.out.below (Below.drew (Below.refl _ _))
            have hzz : (z == z) = true := beq_self_eq_true z
            have HS9 : Hid (∀ u vb' va' L1 L2, Sep w u [rB bkh (ks .u64 h), rB bkm (ks .u64 s.1 ++ [Value.int .i64 s.2]), rB bd (ddk.cf x), rC txt 56 cb vb' L1, rC txt 52 ca va' L2] → Blk u bkm (ks .u64 s.1 ++ [Value.int .i64 s.2]) ∧ u.cell? ⟨bd, 7, none⟩ = some (.string x.s)) := fun u vb' va' L1 L2 hu => ⟨hu.blk 1 rfl, (hu.blk 2 rfl).cell 7 _ rfl⟩
            clear HZ HM
            go_wp2_with fail
            refine region_pick (fun u => Blk u bkm (ks .u64 s.1 ++ [Value.int .i64 s.2]) ∧ u.cell? ⟨bd, 7, none⟩ = some (.string x.s)) [0, 1, 2, 3, 5, 6, 8, 9] [4, 7, 10, 11, 12] Try.mixed (by kernel_rfl) rfl (by kernel_rfl) (HS9.out _ _ _ _ _ SD.out) ?_
            refine p_read rfl ?_
            refine c_move rfl _ rfl (.pointer (some ⟨ca, 0, none⟩)) rfl (fun _ _ _ h => h) (fun K hK => ?_)
            go_simp
            refine hK _ ?_
            clear hK K
            refine c_nil ?_
            refine p_read rfl ?_
            refine c_blk_load rfl 34 _ rfl bkm rfl (ks .u64 s.1 ++ [Value.int .i64 s.2]) (fun u hu => hu.1) _ Try.underlying34 rfl HSS.out (fun _ _ _ h => h) (fun K hK => ?_)
            go_simp
            refine hK _ ?_
            clear hK K
            refine c_nil ?_
            refine p_read rfl ?_
            refine c_value rfl (.pointer (some ⟨bd, 7, none⟩)) (fun u hu => by go_simp) (fun _ _ _ h => h) (fun K hK => ?_)
            go_simp
            refine hK _ ?_
            clear hK K
            refine c_nil ?_
            refine p_read rfl ?_
            refine c_value rfl (.string x.s) (fun u hu => by have hs := hu.2; go_simp) (fun _ _ _ h => h) (fun K hK => ?_)
            go_simp
            refine hK _ ?_
            clear hK K
            refine c_nil ?_
            refine p_read rfl ?_
            refine c_move rfl _ rfl (.pointer (some ⟨cb, 0, none⟩)) rfl (fun _ _ _ h => h) (fun K hK => ?_)
            go_simp
            refine hK _ ?_
            clear hK K
            refine c_nil ?_
            refine p_read rfl ?_
            refine c_blk_load rfl 34 _ rfl bkm rfl (ks .u64 s.1 ++ [Value.int .i64 s.2]) (fun u hu => hu.1) _ Try.underlying34 rfl HSS.out (fun _ _ _ h => h) (fun K hK => ?_)
            go_simp
            refine hK _ ?_
            clear hK K
            refine c_nil ?_
            refine p_read rfl ?_
            refine c_value rfl (.pointer (some ⟨bd, 7, none⟩)) (fun u hu => by go_simp) (fun _ _ _ h => h) (fun K hK => ?_)
            go_simp
            refine hK _ ?_
            clear hK K
            refine c_nil ?_
            refine p_read rfl ?_
            refine c_value rfl (.string x.s) (fun u hu => by have hs := hu.2; go_simp) (fun _ _ _ h => h) (fun K hK => ?_)
            go_simp
            refine hK _ ?_
            clear hK K
            refine c_nil ?_
            refine p_nil ?_
            refine p_step rfl ?_
            go_wp2_with (first | (go_at_call 13; refine Calls.mono (C1.out _ (SD.out.ch 4 rfl)) ?_; rintro e wa ⟨va', rfl, hc, ht, hn⟩))
            have SA := Lib.hid (SD.out.chain 4 rfl hc ht hn)
            clear hc ht hn
            refine And.intro (HS9.out _ _ _ _ _ SA.out) ?_
            refine p_step rfl ?_
            go_wp2_with (first | (go_at_call 15; refine Calls.mono (CRS.out _) ?_; rintro e wc ⟨rfl, hb⟩))
            have SC := Lib.hid (SA.out.below hb)
            clear hb
            refine And.intro (HS9.out _ _ _ _ _ SC.out) ?_
            refine p_step rfl ?_
            go_wp2_with (first | (go_at_call 14; refine Calls.mono (C2.out _ (SC.out.ch 3 rfl)) ?_; rintro e wb ⟨vb', rfl, hc, ht, hn⟩))
            have SB := Lib.hid (SC.out.chain 3 rfl hc ht hn)
            clear hc ht hn
            refine And.intro (HS9.out _ _ _ _ _ SB.out) ?_
            refine p_step rfl ?_
            go_wp2_with fail
            refine And.intro (HS9.out _ _ _ _ _ SB.out) ?_
            refine p_step rfl ?_
            go_wp2_with fail
            refine And.intro (HS9.out _ _ _ _ _ SB.out) ?_
            refine p_end ?_
            go_wp2_with fail
            go_meet
            exact ⟨rfl, M, va', vb', HMQ, SB⟩
        case rest =>
        clear c0 T0 M0 wu0 Sq9
        obtain ⟨rfl, L2, va2, vb2, HQ2, Sx⟩ := hcut
        have HLL : Hid (L2.length < 1000) := by have := HQ2.out; show _ < _; omega
        have HUP := Lib.hid (Sx.out.ch 4 rfl).up
        obtain ⟨X, HXX⟩ : ∃ X, Hid ((C.read L2 h).getD (vk txt).none_ = X) := ⟨_, rfl⟩
        obtain ⟨q, HQX⟩ : ∃ q, Hid ((C.read L2 h).isSome = q) := ⟨_, rfl⟩
        obtain ⟨P, HP⟩ : ∃ X, Hid (L2.getLast?.getD (vk txt).none_ = X) := ⟨_, rfl⟩
        obtain ⟨hb, HHB⟩ : ∃ q, Hid (decide (0 < L2.length) = q) := ⟨_, rfl⟩
        obtain ⟨nl, HNL⟩ : ∃ m, Hid (L2.length = m) := ⟨_, rfl⟩
        have HX4 : Hid (X.1.1.length = 4) := by show _ = _; rw [← HXX.out]; exact best_fourS HUP.out h
        have HP4 : Hid (P.1.1.length = 4) := by
          have h2 := HP.out
          show _ = _
          cases hr : L2.getLast? with
          | none => rw [hr] at h2; rw [← h2]; rfl
          | some b => rw [hr] at h2; rw [← h2]; exact HUP.out.four _ (HUP.out.last hr).1
        have R1 : Hid (∀ vv u, Ch txt 52 u ca vv L2 → Calls Try.prog 16 #[.pointer (some ⟨ca, 0, none⟩), .agg (ks .u64 h).toArray] u fun e u' => e = .returned (.tuple #[(vk txt).val X, .bool q]) ∧ Below u.heap.size u u') := fun vv u hu => by
          have := readS ca vv L2 h u hu H4.out HLL.out
          rw [HXX.out, HQX.out] at this
          exact this
        have R2 : Hid (∀ vv u, Ch txt 56 u cb vv L2 → Calls Try.prog 17 #[.pointer (some ⟨cb, 0, none⟩), .agg (ks .u64 h).toArray] u fun e u' => e = .returned (.tuple #[(vk txt).val X, .bool q]) ∧ Below u.heap.size u u') := fun vv u hu => by
          have := refread cb vv L2 h u hu H4.out HLL.out
          rw [HXX.out, HQX.out] at this
          exact this
        have R3 : Hid (∀ vv u, Ch txt 52 u ca vv L2 → Calls Try.prog 18 #[.pointer (some ⟨ca, 0, none⟩)] u fun e u' => e = .returned (.tuple #[(vk txt).val P, .bool hb]) ∧ Below u.heap.size u u') := fun vv u hu => by
          have := lastS ca vv L2 u hu (by have := HLL.out; omega)
          rw [HP.out, HHB.out] at this
          exact this
        have R4 : Hid (∀ vv u, Ch txt 56 u cb vv L2 → Calls Try.prog 19 #[.pointer (some ⟨cb, 0, none⟩)] u fun e u' => e = .returned (.tuple #[(vk txt).val P, .bool hb]) ∧ Below u.heap.size u u') := fun vv u hu => by
          have := reflast cb vv L2 u hu (by have := HLL.out; omega)
          rw [HP.out, HHB.out] at this
          exact this
        have CAll := Lib.hid (fun vv u (hu : Ch txt 52 u ca vv L2) => allS ca vv L2 u hu (by have := HLL.out; omega))
        have CL : Hid (∀ vv u, Ch txt 52 u ca vv L2 → Calls Try.prog 21 #[.pointer (some ⟨ca, 0, none⟩)] u fun e u' => e = .returned (.int .i64 (nl : Int)) ∧ Below u.heap.size u u') := fun vv u hu => by
          have := lenS ca vv L2 u hu
          rw [HNL.out] at this
          exact this.mono fun e u' ⟨h1, h2⟩ => ⟨h1, by rw [h2]; exact Below.refl _ _⟩
        have hnl : nl < 1000 := by rw [← HNL.out]; exact HLL.out
        have hqq : (q == q) = true := beq_self_eq_true q
        have hbb : (hb == hb) = true := beq_self_eq_true hb
        clear HXX HQX HP HHB
        go_wp2_with (first | refine blk_load rfl 32 _ rfl bkh rfl (ks .u64 h) (Sx.out.blk 0 rfl) _ Try.underlying32 rfl (size_ks H4.out) ?_)
        refine (R1.out _ _ (Sx.out.ch 4 rfl)).mono ?_; rintro e k21 ⟨rfl, hb⟩
        have Sq21 : Hid (Sep w k21 [rB bkh (ks .u64 h), rB bkm (ks .u64 s.1 ++ [Value.int .i64 s.2]), rB bd (ddk.cf x), rC txt 56 cb vb2 L2, rC txt 52 ca va2 L2]) := Sx.out.below hb
        clear hb Sx
        go_wp2_with (first | refine blk_alloc rfl 52 ((vk txt).cf (vk txt).none_) rfl info_vS ?_)
        intro k22a A B Z
        obtain ⟨bkx, HB_x⟩ : ∃ b, Hid (k21.heap.size = b) := ⟨_, rfl⟩
        go_wp2_with (first | refine blk_store rfl 52 _ _ rfl k21.heap.size rfl ((vk txt).cf X) rfl _ A rfl size_vS rfl ?_)
        intro k22 A9 U9
        have Sq22 : Hid (Sep w k22 [rB bkx ((vk txt).cf X), rB bkh (ks .u64 h), rB bkm (ks .u64 s.1 ++ [Value.int .i64 s.2]), rB bd (ddk.cf x), rC txt 56 cb vb2 L2, rC txt 52 ca va2 L2]) := by
          show Sep _ _ _
          rw [← HB_x.out]
          exact Sep.fresh Sq21.out B Z U9 A9
        rw [HB_x.out]
        clear A B Z A9 U9 HB_x Sq21
        go_wp2_with (first | refine blk_load rfl 32 _ rfl bkh rfl (ks .u64 h) (Sq22.out.blk 1 rfl) _ Try.underlying32 rfl (size_ks H4.out) ?_)
        refine (R2.out _ _ (Sq22.out.ch 4 rfl)).mono ?_; rintro e k23 ⟨rfl, hb⟩
        have Sq23 : Hid (Sep w k23 [rB bkx ((vk txt).cf X), rB bkh (ks .u64 h), rB bkm (ks .u64 s.1 ++ [Value.int .i64 s.2]), rB bd (ddk.cf x), rC txt 56 cb vb2 L2, rC txt 52 ca va2 L2]) := Sq22.out.below hb
        clear hb Sq22
        go_wp2_with (first | refine blk_alloc rfl 56 ((vk txt).cf (vk txt).none_) rfl info_vR ?_)
        intro k24a A B Z
        obtain ⟨bky, HB_y⟩ : ∃ b, Hid (k23.heap.size = b) := ⟨_, rfl⟩
        go_wp2_with (first | refine blk_store rfl 56 _ _ rfl k23.heap.size rfl ((vk txt).cf X) rfl _ A rfl size_vR rfl ?_)
        intro k24 A9 U9
        have Sq24 : Hid (Sep w k24 [rB bky ((vk txt).cf X), rB bkx ((vk txt).cf X), rB bkh (ks .u64 h), rB bkm (ks .u64 s.1 ++ [Value.int .i64 s.2]), rB bd (ddk.cf x), rC txt 56 cb vb2 L2, rC txt 52 ca va2 L2]) := by
          show Sep _ _ _
          rw [← HB_y.out]
          exact Sep.fresh Sq23.out B Z U9 A9
        rw [HB_y.out]
        clear A B Z A9 U9 HB_y Sq23
        go_wp2_with fail
        refine (R3.out _ _ (Sq24.out.ch 6 rfl)).mono ?_; rintro e k25 ⟨rfl, hb⟩
        have Sq25 : Hid (Sep w k25 [rB bky ((vk txt).cf X), rB bkx ((vk txt).cf X), rB bkh (ks .u64 h), rB bkm (ks .u64 s.1 ++ [Value.int .i64 s.2]), rB bd (ddk.cf x), rC txt 56 cb vb2 L2, rC txt 52 ca va2 L2]) := Sq24.out.below hb
        clear hb Sq24
        go_wp2_with (first | refine blk_alloc rfl 52 ((vk txt).cf (vk txt).none_) rfl info_vS ?_)
        intro k26a A B Z
        obtain ⟨bkp, HB_p⟩ : ∃ b, Hid (k25.heap.size = b) := ⟨_, rfl⟩
        go_wp2_with (first | refine blk_store rfl 52 _ _ rfl k25.heap.size rfl ((vk txt).cf P) rfl _ A rfl size_vS rfl ?_)
        intro k26 A9 U9
        have Sq26 : Hid (Sep w k26 [rB bkp ((vk txt).cf P), rB bky ((vk txt).cf X), rB bkx ((vk txt).cf X), rB bkh (ks .u64 h), rB bkm (ks .u64 s.1 ++ [Value.int .i64 s.2]), rB bd (ddk.cf x), rC txt 56 cb vb2 L2, rC txt 52 ca va2 L2]) := by
          show Sep _ _ _
          rw [← HB_p.out]
          exact Sep.fresh Sq25.out B Z U9 A9
        rw [HB_p.out]
        clear A B Z A9 U9 HB_p Sq25
        go_wp2_with fail
        refine (R4.out _ _ (Sq26.out.ch 6 rfl)).mono ?_; rintro e k27 ⟨rfl, hb⟩
        have Sq27 : Hid (Sep w k27 [rB bkp ((vk txt).cf P), rB bky ((vk txt).cf X), rB bkx ((vk txt).cf X), rB bkh (ks .u64 h), rB bkm (ks .u64 s.1 ++ [Value.int .i64 s.2]), rB bd (ddk.cf x), rC txt 56 cb vb2 L2, rC txt 52 ca va2 L2]) := Sq26.out.below hb
        clear hb Sq26
        go_wp2_with (first | refine blk_alloc rfl 56 ((vk txt).cf (vk txt).none_) rfl info_vR ?_)
        intro k28a A B Z
        obtain ⟨bkz, HB_z⟩ : ∃ b, Hid (k27.heap.size = b) := ⟨_, rfl⟩
        go_wp2_with (first | refine blk_store rfl 56 _ _ rfl k27.heap.size rfl ((vk txt).cf P) rfl _ A rfl size_vR rfl ?_)
        intro k28 A9 U9
        have Sq28 : Hid (Sep w k28 [rB bkz ((vk txt).cf P), rB bkp ((vk txt).cf P), rB bky ((vk txt).cf X), rB bkx ((vk txt).cf X), rB bkh (ks .u64 h), rB bkm (ks .u64 s.1 ++ [Value.int .i64 s.2]), rB bd (ddk.cf x), rC txt 56 cb vb2 L2, rC txt 52 ca va2 L2]) := by
          show Sep _ _ _
          rw [← HB_z.out]
          exact Sep.fresh Sq27.out B Z U9 A9
        rw [HB_z.out]
        clear A B Z A9 U9 HB_z Sq27
        go_wp2_with fail
        refine (CAll.out _ _ (Sq28.out.ch 8 rfl)).mono ?_; rintro e k29 ⟨vA, rfl, ho, hb9⟩
        obtain ⟨sA, cA, eA, _⟩ := ho.is.is
        rw [HNL.out] at eA
        subst eA
        obtain ⟨bA, HBA⟩ : ∃ b, Hid (k28.heap.size = b) := ⟨_, rfl⟩
        have Sq29 : Hid (Sep w k29 [rO (vk txt) 52 bA (.slice sA nl cA) L2, rB bkz ((vk txt).cf P), rB bkp ((vk txt).cf P), rB bky ((vk txt).cf X), rB bkx ((vk txt).cf X), rB bkh (ks .u64 h), rB bkm (ks .u64 s.1 ++ [Value.int .i64 s.2]), rB bd (ddk.cf x), rC txt 56 cb vb2 L2, rC txt 52 ca va2 L2]) := by
          show Sep _ _ _
          rw [← HBA.out]
          exact Sq28.out.newrow hb9 ho
        clear ho hb9 HBA Sq28 CAll R1 R2 R3 R4
        obtain ⟨sB, cB, eB, _⟩ := (Sq29.out.ch 8 rfl).own.is.is
        rw [HNL.out] at eB
        have HCB : Hid (∀ u, Below k29.heap.size k29 u → u.cell? ⟨cb, 0, none⟩ = some (.slice sB nl cB)) := fun u hu => by rw [← eB]; exact ((Sq29.out.below hu).ch 8 rfl).cell
        have HRx : Hid (∀ u, Below k29.heap.size k29 u → u.rangeAt bkx 0 (ks .u64 X.1.1 ++ [Value.int .i64 X.1.2])) := fun u hu => row_stampS (((Sq29.out.below hu).blk 4 rfl).1) HX4.out
        have HTx : Hid (∀ u, Below k29.heap.size k29 u → u.cell? ⟨bkx, 5, none⟩ = some (.string X.2)) := fun u hu => ((Sq29.out.below hu).blk 4 rfl).cell 5 _ rfl
        have HRy : Hid (∀ u, Below k29.heap.size k29 u → u.rangeAt bky 0 (ks .u64 X.1.1 ++ [Value.int .i64 X.1.2])) := fun u hu => row_stampS (((Sq29.out.below hu).blk 3 rfl).1) HX4.out
        have HTy : Hid (∀ u, Below k29.heap.size k29 u → u.cell? ⟨bky, 5, none⟩ = some (.string X.2)) := fun u hu => ((Sq29.out.below hu).blk 3 rfl).cell 5 _ rfl
        have HRp : Hid (∀ u, Below k29.heap.size k29 u → u.rangeAt bkp 0 (ks .u64 P.1.1 ++ [Value.int .i64 P.1.2])) := fun u hu => row_stampS (((Sq29.out.below hu).blk 2 rfl).1) HP4.out
        have HTp : Hid (∀ u, Below k29.heap.size k29 u → u.cell? ⟨bkp, 5, none⟩ = some (.string P.2)) := fun u hu => ((Sq29.out.below hu).blk 2 rfl).cell 5 _ rfl
        have HRz : Hid (∀ u, Below k29.heap.size k29 u → u.rangeAt bkz 0 (ks .u64 P.1.1 ++ [Value.int .i64 P.1.2])) := fun u hu => row_stampS (((Sq29.out.below hu).blk 1 rfl).1) HP4.out
        have HTz : Hid (∀ u, Below k29.heap.size k29 u → u.cell? ⟨bkz, 5, none⟩ = some (.string P.2)) := fun u hu => ((Sq29.out.below hu).blk 1 rfl).cell 5 _ rfl
        have HZX := Lib.hid (size_s (d := X.1.2) HX4.out)
        have HZrX := Lib.hid (size_srr (d := X.1.2) HX4.out)
        have XRX : Hid (∀ u, Below k29.heap.size k29 u → Calls Try.prog 15 [.agg (ks .u64 X.1.1 ++ [Value.int .i64 X.1.2]).toArray].toArray u fun e u' => e = .returned (.agg (ks .u64 X.1.1 ++ [Value.int .i64 X.1.2]).toArray) ∧ Below k29.heap.size k29 u') := fun u hu => Calls.more hu (refstamp_any X.1.1 X.1.2 u HX4.out)
        have HNX := Lib.hid (fun u => neq_r9 X.1.1 X.1.2 HX4.out u)
        have HZP := Lib.hid (size_s (d := P.1.2) HP4.out)
        have HZrP := Lib.hid (size_srr (d := P.1.2) HP4.out)
        have XRP : Hid (∀ u, Below k29.heap.size k29 u → Calls Try.prog 15 [.agg (ks .u64 P.1.1 ++ [Value.int .i64 P.1.2]).toArray].toArray u fun e u' => e = .returned (.agg (ks .u64 P.1.1 ++ [Value.int .i64 P.1.2]).toArray) ∧ Below k29.heap.size k29 u') := fun u hu => Calls.more hu (refstamp_any P.1.1 P.1.2 u HP4.out)
        have HNP := Lib.hid (fun u => neq_r9 P.1.1 P.1.2 HP4.out u)
        have XL : Hid (∀ u, Below k29.heap.size k29 u → Calls Try.prog 21 [.pointer (some ⟨ca, 0, none⟩)].toArray u fun e u' => e = .returned (.int .i64 (nl : Int)) ∧ Below k29.heap.size k29 u') := fun u hu => Calls.more hu (CL.out _ u ((Sq29.out.below hu).ch 9 rfl))
        clear CL eB
        go_wp2_with fail
        refine region_w Try.mixed (by kernel_rfl) ?_
        refine w_move rfl _ rfl (.bool true) rfl (fun K hK => ?_)
        go_simp
        refine hK _ ?_
        clear hK K
        refine w_value rfl (.bool false) (fun u hu => by go_simp) (fun K hK => ?_)
        go_simp
        refine hK _ ?_
        clear hK K
        refine w_move rfl _ rfl (.bool false) rfl (fun K hK => ?_)
        go_simp
        refine hK _ ?_
        clear hK K
        refine wg_value (by rfl) (.pointer (some ⟨bkx, 0, none⟩)) (fun u hu => by go_simp) (fun K hK => ?_)
        go_simp
        refine hK _ ?_
        clear hK K
        refine wg_mid_load (by rfl) 34 _ rfl bkx 0 rfl (ks .u64 X.1.1 ++ [Value.int .i64 X.1.2]) (by exact HRx.out) _ Try.underlying34 rfl HZX.out (fun K hK => ?_)
        go_simp
        refine hK _ ?_
        clear hK K
        refine wg_call (by rfl) 15 Try.f15 Try.func15 rfl rfl _ _ rfl [.agg (ks .u64 X.1.1 ++ [Value.int .i64 X.1.2]).toArray] rfl (.agg (ks .u64 X.1.1 ++ [Value.int .i64 X.1.2]).toArray) (by exact XRX.out) (fun K hK => ?_)
        go_simp
        refine hK _ ?_
        clear hK K
        refine wg_value (by rfl) (.pointer (some ⟨bky, 0, none⟩)) (fun u hu => by go_simp) (fun K hK => ?_)
        go_simp
        refine hK _ ?_
        clear hK K
        refine wg_mid_load (by rfl) 49 _ rfl bky 0 rfl (ks .u64 X.1.1 ++ [Value.int .i64 X.1.2]) (by exact HRy.out) _ Try.underlying49 rfl HZrX.out (fun K hK => ?_)
        go_simp
        refine hK _ ?_
        clear hK K
        refine wg_value (by rfl) (.bool false) (fun u _ => run_eql u .neq 49 49 _ _ (SV X.1.1 X.1.2) (SV X.1.1 X.1.2) _ rfl rfl rfl (guard_r9 _ _ _ _ _ _ u) (HNX.out u)) (fun K hK => ?_)
        go_simp
        refine hK _ ?_
        clear hK K
        refine w_value rfl (.bool false) (fun u hu => by go_simp) (fun K hK => ?_)
        go_simp
        refine hK _ ?_
        clear hK K
        refine w_move rfl _ rfl (.bool false) rfl (fun K hK => ?_)
        go_simp
        refine hK _ ?_
        clear hK K
        refine wg_value (by rfl) (.pointer (some ⟨bkx, 5, none⟩)) (fun u hu => by go_simp) (fun K hK => ?_)
        go_simp
        refine hK _ ?_
        clear hK K
        refine wg_value (by rfl) (.string X.2) (fun u hu => by have hs := HTx.out u hu; go_simp) (fun K hK => ?_)
        go_simp
        refine hK _ ?_
        clear hK K
        refine wg_value (by rfl) (.pointer (some ⟨bky, 5, none⟩)) (fun u hu => by go_simp) (fun K hK => ?_)
        go_simp
        refine hK _ ?_
        clear hK K
        refine wg_value (by rfl) (.string X.2) (fun u hu => by have hs := HTy.out u hu; go_simp) (fun K hK => ?_)
        go_simp
        refine hK _ ?_
        clear hK K
        refine wg_value (by rfl) (.bool false) (fun u hu => by go_simp) (fun K hK => ?_)
        go_simp
        refine hK _ ?_
        clear hK K
        refine w_value rfl (.bool false) (fun u hu => by go_simp) (fun K hK => ?_)
        go_simp
        refine hK _ ?_
        clear hK K
        refine w_move rfl _ rfl (.bool false) rfl (fun K hK => ?_)
        go_simp
        refine hK _ ?_
        clear hK K
        refine wg_value (by rfl) (.bool q) (fun u hu => by go_simp) (fun K hK => ?_)
        go_simp
        refine hK _ ?_
        clear hK K
        refine wg_value (by rfl) (.bool q) (fun u hu => by go_simp) (fun K hK => ?_)
        go_simp
        refine hK _ ?_
        clear hK K
        refine wg_value (by rfl) (.bool false) (fun u hu => by have hs := hqq; go_simp) (fun K hK => ?_)
        go_simp
        refine hK _ ?_
        clear hK K
        refine w_value rfl (.bool false) (fun u hu => by go_simp) (fun K hK => ?_)
        go_simp
        refine hK _ ?_
        clear hK K
        refine w_move rfl _ rfl (.bool false) rfl (fun K hK => ?_)
        go_simp
        refine hK _ ?_
        clear hK K
        refine wg_value (by rfl) (.pointer (some ⟨bkp, 0, none⟩)) (fun u hu => by go_simp) (fun K hK => ?_)
        go_simp
        refine hK _ ?_
        clear hK K
        refine wg_mid_load (by rfl) 34 _ rfl bkp 0 rfl (ks .u64 P.1.1 ++ [Value.int .i64 P.1.2]) (by exact HRp.out) _ Try.underlying34 rfl HZP.out (fun K hK => ?_)
        go_simp
        refine hK _ ?_
        clear hK K
        refine wg_call (by rfl) 15 Try.f15 Try.func15 rfl rfl _ _ rfl [.agg (ks .u64 P.1.1 ++ [Value.int .i64 P.1.2]).toArray] rfl (.agg (ks .u64 P.1.1 ++ [Value.int .i64 P.1.2]).toArray) (by exact XRP.out) (fun K hK => ?_)
        go_simp
        refine hK _ ?_
        clear hK K
        refine wg_value (by rfl) (.pointer (some ⟨bkz, 0, none⟩)) (fun u hu => by go_simp) (fun K hK => ?_)
        go_simp
        refine hK _ ?_
        clear hK K
        refine wg_mid_load (by rfl) 49 _ rfl bkz 0 rfl (ks .u64 P.1.1 ++ [Value.int .i64 P.1.2]) (by exact HRz.out) _ Try.underlying49 rfl HZrP.out (fun K hK => ?_)
        go_simp
        refine hK _ ?_
        clear hK K
        refine wg_value (by rfl) (.bool false) (fun u _ => run_eql u .neq 49 49 _ _ (SV P.1.1 P.1.2) (SV P.1.1 P.1.2) _ rfl rfl rfl (guard_r9 _ _ _ _ _ _ u) (HNP.out u)) (fun K hK => ?_)
        go_simp
        refine hK _ ?_
        clear hK K
        refine w_value rfl (.bool false) (fun u hu => by go_simp) (fun K hK => ?_)
        go_simp
        refine hK _ ?_
        clear hK K
        refine w_move rfl _ rfl (.bool false) rfl (fun K hK => ?_)
        go_simp
        refine hK _ ?_
        clear hK K
        refine wg_value (by rfl) (.pointer (some ⟨bkp, 5, none⟩)) (fun u hu => by go_simp) (fun K hK => ?_)
        go_simp
        refine hK _ ?_
        clear hK K
        refine wg_value (by rfl) (.string P.2) (fun u hu => by have hs := HTp.out u hu; go_simp) (fun K hK => ?_)
        go_simp
        refine hK _ ?_
        clear hK K
        refine wg_value (by rfl) (.pointer (some ⟨bkz, 5, none⟩)) (fun u hu => by go_simp) (fun K hK => ?_)
        go_simp
        refine hK _ ?_
        clear hK K
        refine wg_value (by rfl) (.string P.2) (fun u hu => by have hs := HTz.out u hu; go_simp) (fun K hK => ?_)
        go_simp
        refine hK _ ?_
        clear hK K
        refine wg_value (by rfl) (.bool false) (fun u hu => by go_simp) (fun K hK => ?_)
        go_simp
        refine hK _ ?_
        clear hK K
        refine w_value rfl (.bool false) (fun u hu => by go_simp) (fun K hK => ?_)
        go_simp
        refine hK _ ?_
        clear hK K
        refine w_move rfl _ rfl (.bool false) rfl (fun K hK => ?_)
        go_simp
        refine hK _ ?_
        clear hK K
        refine wg_value (by rfl) (.bool hb) (fun u hu => by go_simp) (fun K hK => ?_)
        go_simp
        refine hK _ ?_
        clear hK K
        refine wg_value (by rfl) (.bool hb) (fun u hu => by go_simp) (fun K hK => ?_)
        go_simp
        refine hK _ ?_
        clear hK K
        refine wg_value (by rfl) (.bool false) (fun u hu => by have hs := hbb; go_simp) (fun K hK => ?_)
        go_simp
        refine hK _ ?_
        clear hK K
        refine w_value rfl (.bool false) (fun u hu => by go_simp) (fun K hK => ?_)
        go_simp
        refine hK _ ?_
        clear hK K
        refine w_move rfl _ rfl (.bool false) rfl (fun K hK => ?_)
        go_simp
        refine hK _ ?_
        clear hK K
        refine wg_value (by rfl) (.pointer (some ⟨ca, 0, none⟩)) (fun u hu => by go_simp) (fun K hK => ?_)
        go_simp
        refine hK _ ?_
        clear hK K
        refine wg_call (by rfl) 21 Try.f21 Try.func21 rfl rfl _ _ rfl [.pointer (some ⟨ca, 0, none⟩)] rfl (.int .i64 (nl : Int)) (by exact XL.out) (fun K hK => ?_)
        go_simp
        refine hK _ ?_
        clear hK K
        refine wg_value (by rfl) (.pointer (some ⟨cb, 0, none⟩)) (fun u hu => by go_simp) (fun K hK => ?_)
        go_simp
        refine hK _ ?_
        clear hK K
        refine wg_value (by rfl) (.pointer (some ⟨cb, 0, none⟩)) (fun u hu => by go_simp) (fun K hK => ?_)
        go_simp
        refine hK _ ?_
        clear hK K
        refine wg_value (by rfl) (.pointer (some ⟨cb, 0, none⟩)) (fun u hu => by go_simp) (fun K hK => ?_)
        go_simp
        refine hK _ ?_
        clear hK K
        refine wg_value (by rfl) (.slice sB nl cB) (fun u hu => by have hs := HCB.out u hu; go_simp) (fun K hK => ?_)
        go_simp
        refine hK _ ?_
        clear hK K
        refine wg_value (by rfl) (.int .i64 (nl : Int)) (fun u hu => by go_simp) (fun K hK => ?_)
        go_simp
        refine hK _ ?_
        clear hK K
        refine wg_value (by rfl) (.bool false) (fun u hu => by go_simp) (fun K hK => ?_)
        go_simp
        refine hK _ ?_
        clear hK K
        refine w_value rfl (.bool false) (fun u hu => by go_simp) (fun K hK => ?_)
        go_simp
        refine hK _ ?_
        clear hK K
        refine w_move rfl _ rfl (.bool false) rfl (fun K hK => ?_)
        go_simp
        refine hK _ ?_
        clear hK K
        refine wg_value (by rfl) (.slice sA nl cA) (fun u hu => by go_simp) (fun K hK => ?_)
        go_simp
        refine hK _ ?_
        clear hK K
        refine wg_value (by rfl) (.int .i64 (nl : Int)) (fun u hu => by go_simp) (fun K hK => ?_)
        go_simp
        refine hK _ ?_
        clear hK K
        refine wg_value (by rfl) (.pointer (some ⟨cb, 0, none⟩)) (fun u hu => by go_simp) (fun K hK => ?_)
        go_simp
        refine hK _ ?_
        clear hK K
        refine wg_value (by rfl) (.pointer (some ⟨cb, 0, none⟩)) (fun u hu => by go_simp) (fun K hK => ?_)
        go_simp
        refine hK _ ?_
        clear hK K
        refine wg_value (by rfl) (.pointer (some ⟨cb, 0, none⟩)) (fun u hu => by go_simp) (fun K hK => ?_)
        go_simp
        refine hK _ ?_
        clear hK K
        refine wg_value (by rfl) (.slice sB nl cB) (fun u hu => by have hs := HCB.out u hu; go_simp) (fun K hK => ?_)
        go_simp
        refine hK _ ?_
        clear hK K
        refine wg_value (by rfl) (.int .i64 (nl : Int)) (fun u hu => by go_simp) (fun K hK => ?_)
        go_simp
        refine hK _ ?_
        clear hK K
        refine wg_value (by rfl) (.bool false) (fun u hu => by go_simp) (fun K hK => ?_)
        go_simp
        refine hK _ ?_
        clear hK K
        refine w_value rfl (.bool false) (fun u hu => by go_simp) (fun K hK => ?_)
        go_simp
        refine hK _ ?_
        clear hK K
        refine w_nil ?_
        intro u hu
        have S30 : Hid (Sep w u [rO (vk txt) 52 bA (.slice sA nl cA) L2, rB bkz ((vk txt).cf P), rB bkp ((vk txt).cf P), rB bky ((vk txt).cf X), rB bkx ((vk txt).cf X), rB bkh (ks .u64 h), rB bkm (ks .u64 s.1 ++ [Value.int .i64 s.2]), rB bd (ddk.cf x), rC txt 56 cb vb2 L2, rC txt 52 ca va2 L2]) := Sq29.out.below hu
        clear hu HCB HRx HRy HRp HRz HTx HTy HTp HTz XRX XRP HNX HNP XL Sq29 hqq hbb
        go_wp2_with fail
        go_loopw [20] (fun y wr => ∃ (i : Nat), i ≤ nl ∧ y = .int .i64 (i : Int) ∧ Hid (Sep w wr [rO (vk txt) 52 bA (.slice sA nl cA) L2, rB bkz ((vk txt).cf P), rB bkp ((vk txt).cf P), rB bky ((vk txt).cf X), rB bkx ((vk txt).cf X), rB bkh (ks .u64 h), rB bkm (ks .u64 s.1 ++ [Value.int .i64 s.2]), rB bd (ddk.cf x), rC txt 56 cb vb2 L2, rC txt 52 ca va2 L2])) (fun y _ => nl - (intOf y).toNat)
        case atStart => exact ⟨0, by omega, rfl, S30⟩
        case round =>
          obtain ⟨i, hin, rfl, Sr⟩ := hrel
          clear S30
          by_cases hli : i < nl
          · have i3 : (i : Int) < (nl : Int) := by omega
            have hxi := C.getD_some (show i < L2.length by rw [HNL.out]; exact hli) (vk txt).none_
            have hx4 := HUP.out.four _ (List.mem_of_getElem? hxi)
            obtain ⟨gA, oA, cA', hv, hgA, hrow⟩ := IsR.at (Sr.out.or 0 rfl).is i (by rw [HNL.out]; exact hli)
            obtain rfl : sA = some ⟨gA, oA, none⟩ := by injection hv
            clear hv
            obtain ⟨gB, oB, cB', hv, hgB, hrowB⟩ := IsR.at (Sr.out.ch 8 rfl).own.is i (by rw [HNL.out]; exact hli)
            rw [HNL.out] at hv
            obtain ⟨y, HYY⟩ : ∃ y, Hid (L2.getD i (vk txt).none_ = y) := ⟨_, rfl⟩
            rw [HYY.out] at hrow hrowB hx4
            clear HYY hxi
            have HCB : Hid (∀ u, Below wr.heap.size wr u → u.cell? ⟨cb, 0, none⟩ = some (.slice (some ⟨gB, oB, none⟩) nl cB')) := fun u hu => by rw [← hv]; exact ((Sr.out.below hu).ch 8 rfl).cell
            have HRA : Hid (∀ u, Below wr.heap.size wr u → u.rangeAt gA (oA + 6 * i) (ks .u64 y.1.1 ++ [Value.int .i64 y.1.2])) := fun u hu k v hv => by
              rw [hu.cell (p := ⟨gA, oA + 6 * i + k, none⟩) hgA]
              exact row_stampS hrow hx4 k v hv
            have HRB : Hid (∀ u, Below wr.heap.size wr u → u.rangeAt gB (oB + 6 * i) (ks .u64 y.1.1 ++ [Value.int .i64 y.1.2])) := fun u hu k v hv => by
              rw [hu.cell (p := ⟨gB, oB + 6 * i + k, none⟩) hgB]
              exact row_stampS hrowB hx4 k v hv
            have HTA : Hid (∀ u, Below wr.heap.size wr u → u.cell? ⟨gA, oA + 6 * i + 5, none⟩ = some (.string y.2)) := fun u hu => by
              rw [hu.cell (p := ⟨gA, oA + 6 * i + 5, none⟩) hgA]
              exact hrow 5 _ rfl
            have HTB : Hid (∀ u, Below wr.heap.size wr u → u.cell? ⟨gB, oB + 6 * i + 5, none⟩ = some (.string y.2)) := fun u hu => by
              rw [hu.cell (p := ⟨gB, oB + 6 * i + 5, none⟩) hgB]
              exact hrowB 5 _ rfl
            have hixA : ∀ w, (Instr.indexAt 61 (.slice (some ⟨gA, oA, none⟩) nl cA) (.int .i64 (i : Int))).run Try.prog w = .ok (.pointer (some ⟨gA, oA + 6 * i, none⟩)) w := fun w => index_vS gA oA nl cA i hli w
            have hixB : ∀ w, (Instr.indexAt 27 (.slice (some ⟨gB, oB, none⟩) nl cB') (.int .i64 (i : Int))).run Try.prog w = .ok (.pointer (some ⟨gB, oB + 6 * i, none⟩)) w := fun w => index_vR gB oB nl cB' i hli w
            have HSY := Lib.hid (size_s (d := y.1.2) hx4)
            have HSYr := Lib.hid (size_srr (d := y.1.2) hx4)
            have XR : Hid (∀ u, Below wr.heap.size wr u → Calls Try.prog 15 [.agg (ks .u64 y.1.1 ++ [Value.int .i64 y.1.2]).toArray].toArray u fun e u' => e = .returned (.agg (ks .u64 y.1.1 ++ [Value.int .i64 y.1.2]).toArray) ∧ Below wr.heap.size wr u') := fun u hu => Calls.more hu (refstamp_any y.1.1 y.1.2 u hx4)
            have HN2 := Lib.hid (fun u => neq_r9 y.1.1 y.1.2 hx4 u)
            clear hrow hrowB hv hgA hgB hx4
            go_wp2_with fail
            refine region_w Try.mixed (by kernel_rfl) ?_
            refine w_move rfl _ rfl (.slice (some ⟨gA, oA, none⟩) nl cA) rfl (fun K hK => ?_)
            go_simp
            refine hK _ ?_
            clear hK K
            refine w_move rfl _ rfl (.int .i64 (i : Int)) rfl (fun K hK => ?_)
            go_simp
            refine hK _ ?_
            clear hK K
            refine w_value rfl (.pointer (some ⟨gA, oA + 6 * i, none⟩)) (fun u hu => by have hs := hixA u; go_simp) (fun K hK => ?_)
            go_simp
            refine hK _ ?_
            clear hK K
            refine w_value rfl (.pointer (some ⟨gA, oA + 6 * i, none⟩)) (fun u hu => by go_simp) (fun K hK => ?_)
            go_simp
            refine hK _ ?_
            clear hK K
            refine w_mid_load rfl 34 _ rfl gA (oA + 6 * i) rfl (ks .u64 y.1.1 ++ [Value.int .i64 y.1.2]) (by exact HRA.out) _ Try.underlying34 rfl HSY.out (fun K hK => ?_)
            go_simp
            refine hK _ ?_
            clear hK K
            refine w_call rfl 15 Try.f15 Try.func15 rfl rfl _ _ rfl [.agg (ks .u64 y.1.1 ++ [Value.int .i64 y.1.2]).toArray] rfl (.agg (ks .u64 y.1.1 ++ [Value.int .i64 y.1.2]).toArray) (by exact XR.out) (fun K hK => ?_)
            go_simp
            refine hK _ ?_
            clear hK K
            refine w_move rfl _ rfl (.pointer (some ⟨cb, 0, none⟩)) rfl (fun K hK => ?_)
            go_simp
            refine hK _ ?_
            clear hK K
            refine w_value rfl (.pointer (some ⟨cb, 0, none⟩)) (fun u hu => by go_simp) (fun K hK => ?_)
            go_simp
            refine hK _ ?_
            clear hK K
            refine w_value rfl (.pointer (some ⟨cb, 0, none⟩)) (fun u hu => by go_simp) (fun K hK => ?_)
            go_simp
            refine hK _ ?_
            clear hK K
            refine w_value rfl (.slice (some ⟨gB, oB, none⟩) nl cB') (fun u hu => by have hs := HCB.out u hu; go_simp) (fun K hK => ?_)
            go_simp
            refine hK _ ?_
            clear hK K
            refine w_move rfl _ rfl (.int .i64 (i : Int)) rfl (fun K hK => ?_)
            go_simp
            refine hK _ ?_
            clear hK K
            refine w_value rfl (.pointer (some ⟨gB, oB + 6 * i, none⟩)) (fun u hu => by have hs := hixB u; go_simp) (fun K hK => ?_)
            go_simp
            refine hK _ ?_
            clear hK K
            refine w_value rfl (.pointer (some ⟨gB, oB + 6 * i, none⟩)) (fun u hu => by go_simp) (fun K hK => ?_)
            go_simp
            refine hK _ ?_
            clear hK K
            refine w_mid_load rfl 49 _ rfl gB (oB + 6 * i) rfl (ks .u64 y.1.1 ++ [Value.int .i64 y.1.2]) (by exact HRB.out) _ Try.underlying49 rfl HSYr.out (fun K hK => ?_)
            go_simp
            refine hK _ ?_
            clear hK K
            refine w_value rfl (.bool false) (fun u _ => run_eql u .neq 49 49 _ _ (SV y.1.1 y.1.2) (SV y.1.1 y.1.2) _ rfl rfl rfl (guard_r9 _ _ _ _ _ _ u) (HN2.out u)) (fun K hK => ?_)
            go_simp
            refine hK _ ?_
            clear hK K
            refine w_move rfl _ rfl (.bool false) rfl (fun K hK => ?_)
            go_simp
            refine hK _ ?_
            clear hK K
            refine wg_value (by rfl) (.slice (some ⟨gA, oA, none⟩) nl cA) (fun u hu => by go_simp) (fun K hK => ?_)
            go_simp
            refine hK _ ?_
            clear hK K
            refine wg_value (by rfl) (.int .i64 (i : Int)) (fun u hu => by go_simp) (fun K hK => ?_)
            go_simp
            refine hK _ ?_
            clear hK K
            refine wg_value (by rfl) (.pointer (some ⟨gA, oA + 6 * i, none⟩)) (fun u hu => by have hs := hixA u; go_simp) (fun K hK => ?_)
            go_simp
            refine hK _ ?_
            clear hK K
            refine wg_value (by rfl) (.pointer (some ⟨gA, oA + 6 * i + 5, none⟩)) (fun u hu => by go_simp) (fun K hK => ?_)
            go_simp
            refine hK _ ?_
            clear hK K
            refine wg_value (by rfl) (.string y.2) (fun u hu => by have hs := HTA.out u hu; go_simp) (fun K hK => ?_)
            go_simp
            refine hK _ ?_
            clear hK K
            refine wg_value (by rfl) (.pointer (some ⟨cb, 0, none⟩)) (fun u hu => by go_simp) (fun K hK => ?_)
            go_simp
            refine hK _ ?_
            clear hK K
            refine wg_value (by rfl) (.pointer (some ⟨cb, 0, none⟩)) (fun u hu => by go_simp) (fun K hK => ?_)
            go_simp
            refine hK _ ?_
            clear hK K
            refine wg_value (by rfl) (.pointer (some ⟨cb, 0, none⟩)) (fun u hu => by go_simp) (fun K hK => ?_)
            go_simp
            refine hK _ ?_
            clear hK K
            refine wg_value (by rfl) (.slice (some ⟨gB, oB, none⟩) nl cB') (fun u hu => by have hs := HCB.out u hu; go_simp) (fun K hK => ?_)
            go_simp
            refine hK _ ?_
            clear hK K
            refine wg_value (by rfl) (.int .i64 (i : Int)) (fun u hu => by go_simp) (fun K hK => ?_)
            go_simp
            refine hK _ ?_
            clear hK K
            refine wg_value (by rfl) (.pointer (some ⟨gB, oB + 6 * i, none⟩)) (fun u hu => by have hs := hixB u; go_simp) (fun K hK => ?_)
            go_simp
            refine hK _ ?_
            clear hK K
            refine wg_value (by rfl) (.pointer (some ⟨gB, oB + 6 * i + 5, none⟩)) (fun u hu => by go_simp) (fun K hK => ?_)
            go_simp
            refine hK _ ?_
            clear hK K
            refine wg_value (by rfl) (.string y.2) (fun u hu => by have hs := HTB.out u hu; go_simp) (fun K hK => ?_)
            go_simp
            refine hK _ ?_
            clear hK K
            refine wg_value (by rfl) (.bool false) (fun u hu => by go_simp) (fun K hK => ?_)
            go_simp
            refine hK _ ?_
            clear hK K
            refine w_value rfl (.bool false) (fun u hu => by go_simp) (fun K hK => ?_)
            go_simp
            refine hK _ ?_
            clear hK K
            refine w_nil ?_
            intro u hu
            have S9 := Lib.hid (Sr.out.below hu)
            clear hu HCB HRA HRB HTA HTB XR HN2 hixA hixB Sr
            go_wp2_with fail
            go_roundw
            case rel => exact ⟨i + 1, by omega, by go_num, S9⟩
            case measure => simp [intOf]; omega
          · obtain rfl : i = nl := by omega
            have i3 : ¬ (i : Int) < (i : Int) := by omega
            have S40 : Hid (Sep w wr [rC txt 56 cb vb2 L2, rC txt 52 ca va2 L2]) := Sr.out.tail.tail.tail.tail.tail.tail.tail.tail
            clear Sr
            go_wp2_with fail
            go_roundw
            case rel => exact ⟨j + 1, va2, vb2, L2, by omega, by omega, by go_num, HQ2, S40⟩
            case measure => simp [intOf]; omega
      · have i2 : ¬ (j : Int) < 50 := by omega
        go_wp2_with fail
        go_ret
        exact ⟨rfl, Sr.out.under⟩
    · have i1 : ¬ (j : Int) < (n : Int) := by omega
      go_wp2_with fail
      go_ret
      exact ⟨rfl, Sr.out.under⟩

set_option maxRecDepth 100000 in
theorem lifted (os : Os) (started : os.Started) (H : Type) (enc : TypeId × Value → H) :
    ReturnsInHanded {} Try.checked os 3 .any (Rows.chainPlaysSpec.pre6 enc Try.prog Try.f3 Rows.chainPlaysRow.domain false) (Rows.chainPlaysSpec.post enc Try.prog Try.f3 false true false false) := by
  refine returnsInHanded_of_change_sized (C := Try.checked) own started (by kernel_rfl) Try.func3
    (ChangeSpec.witness6 (enc := enc) (C := Try.checked) false ⟨#[], #[.slice none 0 0], []⟩ 8 (by kernel_rfl) (by kernel_rfl) (by kernel_rfl) (by kernel_rfl)) ?_
  intro W base args ds gs before hval0 hW hcnd hsz0 _
  have hval : ∀ (j : Nat) t v, Try.f3.params[j]? = some t → args[j]? = some v → Value.okWide Try.prog W .any base t v := hval0
  have hW' := hW
  obtain ⟨p, q, hA0, hV, rfl, hfz, hnd⟩ := hW
  have hA : DataW.TrodAll enc Try.prog W 0 (fun _ => true) true Try.f3.params.toList args.toList ds p := hA0
  have hsz : (DataW.weightsEach Try.prog (Try.f3.params.toList ++ Rows.chainPlaysSpec.plain.varTypes Try.prog) (ds ++ gs)).all (· ≤ reachBytes) = true := hsz0
  rw [Try.params3] at hA hval hsz
  obtain ⟨rfl, rfl⟩ := trodVars_none hV
  have hAk := hA
  have hlt : ∀ x ∈ p, x.block < W.heap.size := fun x hx => by simpa using hW'.lt x (List.mem_append.2 (.inl hx))
  obtain ⟨v0, vs0, d0, ds0, p0, q0, hargs, rfl, rfl, h0, r0⟩ := trodAll_cons hA
  obtain ⟨rfl, rfl, rfl⟩ := trodAll_nil r0
  obtain rfl : args = #[v0] := by cases args; simp_all
  obtain ⟨a0, len0, cap0, rfl⟩ := okWide_slice Try.underlying22 (hval 0 22 v0 rfl rfl)
  obtain ⟨ML0, w0, m0⟩ := open_deeds h0
  clear hA0 hval0 hsz0
  refine (walk (.slice a0 len0 cap0) ML0 m0 W w0).mono fun e W' ⟨he, hg⟩ => ?_
  subst he
  exact ⟨_, rfl, _, _, _, [], _, [], hW', (trodAll_cons_mk (shut_bool Try.underlying4 _) trodAll_mk0), trodAll_below laidOut hg _ _ _ _ (by kernel_rfl) hAk hlt, rfl, hg.frame _, fun h => by cases h⟩

theorem over : Rows.chainPlaysRow.holds Try.pinned (OpenSpec.ofChange Rows.chainPlaysSpec) :=
  OpenClaim.holds_of_wide 3 Try.f3 rfl rfl rfl rfl rfl rfl rfl ⟨rfl, rfl, rfl, rfl, rfl⟩ rfl rfl rfl rfl rfl (by kernel_rfl) Try.func3 (by kernel_rfl)
    (of_decide_eq_true (by kernel_rfl)) (by unfold Func.isWrapper; first | (rw [if_pos (by decide +kernel)]; kernel_rfl) | (rw [if_neg (by decide +kernel)]; exact ⟨rfl, rfl⟩))
    (fun os started H enc _ => lifted os started H enc)

/-- the statement -/
theorem proved : Rows.ChainPlaysSaid :=
  over
#print axioms proved

end Go.Proofs.Ytmajkapapbhabaa.chainPlays
