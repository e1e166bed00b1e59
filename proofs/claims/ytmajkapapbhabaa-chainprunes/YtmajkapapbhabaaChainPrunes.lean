/-
  ChainPrunes: pruned, whatever is read at the horizon or beyond it is as it was
-/
import Derived.Test.YtmajkapapbhabaaFrame

import Derived.Test.YtmajkapapbhabaaChainLaw2

import Derived.Test.YtmajkapapbhabaaFrameMarks

import Derived.Test.YtmajkapapbhabaaFrameVecN

namespace Go.Proofs.Ytmajkapapbhabaa.chainPrunes

open Go.ChangeShapes Go.WideShapes Go.ChangeAt Go.RowKit

open Go.ChangeMaps (open_string shut_string)

open Go.Proofs.Ytmajkapapbhabaa.Vc Go.Proofs.Ytmajkapapbhabaa.Sp Go.Proofs.Ytmajkapapbhabaa.Rw Go.Proofs.Ytmajkapapbhabaa.Ch Go.Proofs.Ytmajkapapbhabaa.Se

set_option linter.unusedVariables false

set_option linter.unusedSimpArgs false

set_option maxHeartbeats 64000000 in
set_option maxRecDepth 100000 in
theorem walk (mv0 : Value) (ML0 : List Mk) (a1 : List Nat) (o1 : Bool) (a2 : List Nat) (o2 : Bool) (m0 : ∀ x ∈ ML0, MOk x) (w1 : V.Ok a1) (w2 : V.Ok a2) (w : World) (w0 : Rw.IsR mkd w mv0 ML0) :
    Calls Try.prog 5 #[mv0, VV a1 o1, VV a2 o2] w fun e w' => e = .returned (.bool true) ∧ Below w.heap.size w w' := by
  have HML : Hid (IsR mkd w mv0 ML0) := w0
  have HMO : Hid (∀ x ∈ ML0, MOk x) := m0
  obtain ⟨sa, cap, rfl, _, _, _⟩ := w0.is
  obtain ⟨n, HN⟩ : ∃ n, Hid (ML0.length = n) := ⟨_, rfl⟩
  rw [HN.out] at HML ⊢
  have HV1 := Lib.hid w1.len
  have HV2 := Lib.hid w2.len
  obtain ⟨h, h4, hvh⟩ := vec_any a1 o1 w1
  obtain ⟨g2, g4, hvg⟩ := vec_any a2 o2 w2
  have CVh := Lib.hid hvh
  have CVg := Lib.hid hvg
  obtain ⟨f, HFJ⟩ : ∃ f, Hid (V.join h g2 = f) := ⟨_, rfl⟩
  have hf4 : f.length = 4 := by rw [← HFJ.out]; exact V.join_length h4 g4
  have CJ : Hid (∀ u, Calls Try.prog 30 #[.agg (ks .u64 h).toArray, .agg (ks .u64 g2).toArray] u fun e u' => e = .returned (.agg (ks .u64 f).toArray) ∧ Below u.heap.size u u') := fun u => by
    have := join_any h g2 u h4 g4
    rw [HFJ.out] at this
    exact this
  have HHF : Hid (∀ s : C.St, s.1.length = 4 → C.seen s h = true → C.seen s f = true) := fun s hs hh => by
    show V.leq _ _ = true
    rw [← HFJ.out]
    exact seen_join hs h4 g4 hh
  have H4 := Lib.hid h4
  have G4 := Lib.hid g4
  have F4 := Lib.hid hf4
  have HSV1 : Hid ((Try.prog.info? 38).map (·.size) = some (ks .u64 a1 ++ [Value.bool o1]).length) := by show _ = _; rw [List.length_append, ks_length, HV1.out]; exact Try.size_vv
  have HSV2 : Hid ((Try.prog.info? 38).map (·.size) = some (ks .u64 a2 ++ [Value.bool o2]).length) := by show _ = _; rw [List.length_append, ks_length, HV2.out]; exact Try.size_vv
  clear w0 m0 w1 w2 hvh hvg h4 g4 hf4 HFJ
  go_enter Try.func5, Try.ntmps5
  go_wp2_with (first | refine blk_box rfl 38 _ rfl (ks .u64 a1 ++ [Value.bool o1]) rfl ?_)
  intro u1 A1 B1 Z1
  obtain ⟨c1, HC1⟩ : ∃ c, Hid (w.heap.size = c) := ⟨_, rfl⟩
  have S1 : Hid (Sep w u1 [rB c1 (ks .u64 a1 ++ [Value.bool o1])]) := by show Sep _ _ _; rw [← HC1.out]; exact (Sep.start w).box B1 Z1 A1
  clear A1 B1
  go_wp2_with (first | refine blk_box rfl 38 _ rfl (ks .u64 a2 ++ [Value.bool o2]) rfl ?_)
  intro u2 A2 B2 Z2
  rw [← Z1] at A2 B2 Z2
  obtain ⟨c2, HC2⟩ : ∃ c, Hid (u1.heap.size = c) := ⟨_, rfl⟩
  have S2 : Hid (Sep w u2 [rB c2 (ks .u64 a2 ++ [Value.bool o2]), rB c1 (ks .u64 a1 ++ [Value.bool o1])]) := by show Sep _ _ _; rw [← HC2.out]; exact S1.out.box B2 Z2 A2
  have HZ : Hid (w.heap.size + 1 = c2) := by show _ = _; rw [← Z1]; exact HC2.out
  have HZ2 : Hid (c1 + 1 = c2) := by show _ = _; rw [← HC1.out]; exact HZ.out
  clear A2 B2 Z2 S1
  go_wp2_with fail
  refine (examples_any _).mono ?_; rintro e u3 ⟨rfl, hb⟩
  have S3 := Lib.hid (S2.out.below hb)
  clear hb S2
  go_wp2_with fail
  refine (newI _).mono ?_; rintro e u4 ⟨rfl, hc, hb⟩
  obtain ⟨c, HC⟩ : ∃ c, Hid (u3.heap.size = c) := ⟨_, rfl⟩
  have S4 : Hid (Sep w u4 [rC num 72 c (.slice none 0 0) [], rB c2 (ks .u64 a2 ++ [Value.bool o2]), rB c1 (ks .u64 a1 ++ [Value.bool o1])]) := by
    show Sep _ _ _
    rw [← HC.out]
    exact S3.out.newchain hb hc
  rw [HC.out]
  clear hc hb S3
  go_wp2_with fail
  simp only [HC1.out, HC2.out, HC.out, Z1, HZ.out, HZ2.out]
  clear Z1
  go_loopw [9] (fun i wr => ∃ (j : Nat) (v : Value) (L : List (C.Vr Nat)), j ≤ n ∧ j ≤ 20 ∧ i = .int .i64 (j : Int) ∧ Hid (L.length ≤ j) ∧ Hid (Sep w wr [rC num 72 c v L, rB c2 (ks .u64 a2 ++ [Value.bool o2]), rB c1 (ks .u64 a1 ++ [Value.bool o1])])) (fun i _ => 20 - (intOf i).toNat)
  case atStart => exact ⟨0, .slice none 0 0, [], by omega, by omega, rfl, Nat.zero_le _, S4⟩
  case round =>
    obtain ⟨j, v, L, hjn, hj20, rfl, HQ, Sr⟩ := hrel
    clear S4
    by_cases hlt : j < n
    · have i1 : (j : Int) < (n : Int) := by omega
      by_cases hl2 : j < 20
      · have i2 : (j : Int) < 20 := by omega
        obtain ⟨g, off, cap', hv, hg0, hrow⟩ := IsR.at HML.out j (by rw [HN.out]; exact hlt)
        obtain rfl : sa = some ⟨g, off, none⟩ := by injection hv
        have hmem := List.mem_of_getElem? (C.getD_some (show j < ML0.length by rw [HN.out]; exact hlt) mkd.none_)
        have hxo := HMO.out _ hmem
        obtain ⟨x, HX⟩ : ∃ x, Hid (ML0.getD j mkd.none_ = x) := ⟨_, rfl⟩
        rw [HX.out] at hrow hxo
        have HXO := Lib.hid hxo
        have HROW : Hid (wr.rangeAt g (off + 6 * j) (mkd.cf x)) := fun k u hu => by rw [Sr.out.under.cell (p := ⟨g, off + 6 * j + k, none⟩) hg0]; exact hrow k u hu
        have hix : ∀ w, (Instr.indexAt 65 (.slice (some ⟨g, off, none⟩) n cap) (.int .i64 (j : Int))).run Try.prog w = .ok (.pointer (some ⟨g, off + 6 * j, none⟩)) w := fun w => index_mk g off n cap j hlt w
        clear hv hrow hmem HX hxo
        go_wp2_with (first | refine wpList_load_mid rfl 36 _ rfl g (off + 6 * j) rfl (mkd.cf x) _ HROW.out Try.underlying36 rfl size_mk ?_ | refine blk_alloc rfl 36 (mkd.cf mkd.none_) rfl info_mk ?_)
        intro w4 A B Z
        obtain ⟨bm, HBM⟩ : ∃ b, Hid (wr.heap.size = b) := ⟨_, rfl⟩
        go_wp2_with (first | refine blk_store rfl 36 _ _ rfl wr.heap.size rfl (mkd.cf x) rfl _ A rfl size_mk rfl ?_)
        intro w5 A9 U9
        rw [mk_cf HXO.out.v.len] at A9
        obtain ⟨⟨xl, xd⟩, xo⟩ := x
        have S5 : Hid (Sep w w5 [rB bm (ks .u64 xl ++ [Value.int .i64 xd, Value.bool xo]), rC num 72 c v L, rB c2 (ks .u64 a2 ++ [Value.bool o2]), rB c1 (ks .u64 a1 ++ [Value.bool o1])]) := by
          show Sep _ _ _
          rw [← HBM.out]
          exact Sep.fresh Sr.out B Z U9 A9
        rw [HBM.out]
        clear A B Z A9 U9 Sr HBM HROW hix
        have HLX : Hid (xl.length = 4) := HXO.out.v.len
        obtain ⟨co, fo⟩ := own_at (S5.out.blk 0 rfl) HLX.out
        have S6 : Hid (Sep w (w5.setCell ⟨bm, 5, none⟩ (.bool true)) [rB bm (ks .u64 xl ++ [Value.int .i64 xd, Value.bool true]), rC num 72 c v L, rB c2 (ks .u64 a2 ++ [Value.bool o2]), rB c1 (ks .u64 a1 ++ [Value.bool o1])]) := S5.out.upd 0 rfl (Upd.setCell _ _ _ _) (own_set (S5.out.blk 0 rfl) HLX.out true)
        have HBM6 := Lib.hid (S6.out.blk 0 rfl)
        have CM : Hid (∀ u, Calls Try.prog 9 #[.agg (ks .u64 xl ++ [Value.int .i64 xd, Value.bool true]).toArray] u fun e u' => e = .returned (SV (T.mark xl xd true).1 (T.mark xl xd true).2) ∧ Below u.heap.size u u') := fun u => mark_any xl xd true u HXO.out.v HXO.out.d
        have HS4 : Hid ((T.mark xl xd true).1.length = 4) := (T.mark_ok HXO.out.v xd true).len
        obtain ⟨s, HS⟩ : ∃ s : C.St, Hid (T.mark xl xd true = s) := ⟨_, rfl⟩
        rw [HS.out] at CM HS4
        clear HXO HS S5
        go_wp2_with (first | refine blk_load rfl 36 _ rfl bm rfl (ks .u64 xl ++ [Value.int .i64 xd, Value.bool true]) HBM6.out _ Try.underlying36 rfl (size_m HLX.out) ?_)
        clear co fo HBM6
        refine (CM.out _).mono ?_; rintro e w7 ⟨rfl, hb⟩
        have S7 := Lib.hid (S6.out.below hb)
        clear hb S6 CM
        go_wp2_with fail
        refine (addI c v L s j _ (S7.out.ch 1 rfl) HS4.out (by have := HQ.out; omega)).mono ?_; rintro e w8 ⟨v8, rfl, hc, ht, hn⟩
        have S8 : Hid (Sep w w8 [rC num 72 c v8 (C.add L s j).1, rB c2 (ks .u64 a2 ++ [Value.bool o2]), rB c1 (ks .u64 a1 ++ [Value.bool o1])]) := (S7.out.chain 1 rfl hc ht hn).tail
        have HQ8 : Hid ((C.add L s j).1.length ≤ j + 1) := by
          have := C.add_len L s j
          have h9 := HQ.out
          show _ ≤ _
          split at this <;> omega
        clear hc ht hn S7
        go_wp2_with fail
        go_roundw
        case rel => exact ⟨j + 1, v8, (C.add L s j).1, by omega, by omega, by go_num, HQ8, S8⟩
        case measure => simp [intOf]; omega
      · have i2 : ¬ (j : Int) < 20 := by omega
        obtain ⟨X, HX⟩ : ∃ X, Hid ((C.read L h).getD (vk num).none_ = X) := ⟨_, rfl⟩
        obtain ⟨q, HQX⟩ : ∃ q, Hid ((C.read L h).isSome = q) := ⟨_, rfl⟩
        obtain ⟨Y, HY⟩ : ∃ X, Hid ((C.read L f).getD (vk num).none_ = X) := ⟨_, rfl⟩
        obtain ⟨z, HQY⟩ : ∃ q, Hid ((C.read L f).isSome = q) := ⟨_, rfl⟩
        have HUP := Lib.hid (Sr.out.ch 0 rfl).up
        have HX4 : Hid (X.1.1.length = 4) := by show _ = _; rw [← HX.out]; exact best_fourI HUP.out h
        have HY4 : Hid (Y.1.1.length = 4) := by show _ = _; rw [← HY.out]; exact best_fourI HUP.out f
        have HLN : Hid (L.length < 1000) := by have := HQ.out; show _ < _; omega
        obtain ⟨M, HM⟩ : ∃ M, Hid (C.keep L h = M) := ⟨_, rfl⟩
        have HMUP : Hid (C.Up M) := by show C.Up _; rw [← HM.out]; exact HUP.out.keep h
        have HMX : Hid (C.read M h = C.read L h) := by show _ = _; rw [← HM.out]; exact HUP.out.read_keep (fun s _ hh => hh)
        have HMY : Hid (C.read M f = C.read L f) := by show _ = _; rw [← HM.out]; exact HUP.out.read_keep HHF.out
        have HMK : Hid (C.keep M h = M) := by show _ = _; rw [← HM.out]; exact HUP.out.keep_keep h
        have HMS : Hid (M.filter (fun x => C.seen x.1 h) = (C.read L h).toList) := by show _ = _; rw [← HM.out]; exact HUP.out.keep_seen h
        have HML2 : Hid (M.length ≤ L.length) := by show _ ≤ _; rw [← HM.out, ← keep_isI L h]; exact List.length_filter_le ..
        have R1 : Hid (∀ u, Ch num 72 u c v L → Calls Try.prog 25 #[.pointer (some ⟨c, 0, none⟩), .agg (ks .u64 h).toArray] u fun e u' => e = .returned (.tuple #[(vk num).val X, .bool q]) ∧ Below u.heap.size u u') := fun u hu => by
          have := readI c v L h u hu H4.out HLN.out
          rw [HX.out, HQX.out] at this
          exact this
        have R2 : Hid (∀ u, Ch num 72 u c v L → Calls Try.prog 25 #[.pointer (some ⟨c, 0, none⟩), .agg (ks .u64 f).toArray] u fun e u' => e = .returned (.tuple #[(vk num).val Y, .bool z]) ∧ Below u.heap.size u u') := fun u hu => by
          have := readI c v L f u hu F4.out HLN.out
          rw [HY.out, HQY.out] at this
          exact this
        have R3 : Hid (∀ v' u, Ch num 72 u c v' M → Calls Try.prog 25 #[.pointer (some ⟨c, 0, none⟩), .agg (ks .u64 h).toArray] u fun e u' => e = .returned (.tuple #[(vk num).val X, .bool q]) ∧ Below u.heap.size u u') := fun v' u hu => by
          have := readI c v' M h u hu H4.out (by have := HML2.out; have := HLN.out; omega)
          rw [HMX.out, HX.out, HQX.out] at this
          exact this
        have R4 : Hid (∀ v' u, Ch num 72 u c v' M → Calls Try.prog 25 #[.pointer (some ⟨c, 0, none⟩), .agg (ks .u64 f).toArray] u fun e u' => e = .returned (.tuple #[(vk num).val Y, .bool z]) ∧ Below u.heap.size u u') := fun v' u hu => by
          have := readI c v' M f u hu F4.out (by have := HML2.out; have := HLN.out; omega)
          rw [HMY.out, HY.out, HQY.out] at this
          exact this
        have CP : Hid (∀ u, Ch num 72 u c v L → Calls Try.prog 31 #[.pointer (some ⟨c, 0, none⟩), .agg (ks .u64 h).toArray] u fun e w' => ∃ v', e = .returned (.int .i64 ((L.length : Int) - (M.length : Int))) ∧ Ch num 72 w' c v' M ∧ Tw c v.ownBlock u w' ∧ Nw u v v') := fun u hu => by
          have := pruneI c v L h u hu H4.out HLN.out
          rw [HM.out] at this
          exact this
        have CP2 : Hid (∀ v' u, Ch num 72 u c v' M → Calls Try.prog 31 #[.pointer (some ⟨c, 0, none⟩), .agg (ks .u64 h).toArray] u fun e w' => ∃ v'', e = .returned (.int .i64 0) ∧ Ch num 72 w' c v'' M ∧ Tw c v'.ownBlock u w' ∧ Nw u v' v'') := fun v' u hu => by
          have := pruneI c v' M h u hu H4.out (by have := HML2.out; have := HLN.out; omega)
          rw [HMK.out, Int.sub_self] at this
          exact this
        have CA := Lib.hid (fun v' u (hu : Ch num 72 u c v' M) => allI c v' M u hu (by have := HML2.out; have := HLN.out; omega))
        have CL1 := Lib.hid (fun u (hu : Ch num 72 u c v L) => lenI c v L u hu)
        have CL2 := Lib.hid (fun v' u (hu : Ch num 72 u c v' M) => lenI c v' M u hu)
        obtain ⟨m, HMm⟩ : ∃ m, Hid (M.length = m) := ⟨_, rfl⟩
        obtain ⟨nl, HNL⟩ : ∃ m, Hid (L.length = m) := ⟨_, rfl⟩
        rw [HMm.out, HNL.out] at CP HML2
        rw [HMm.out] at CL2
        rw [HNL.out] at CL1 HLN
        have hmb : m < 1000 := by have h1 := HML2.out; have h2 := HLN.out; omega
        have HSX := Lib.hid size_vI
        clear HM HMX HMY HMK HX HY HQY HUP HQ
        go_wp2_with (first | refine blk_load rfl 38 _ rfl c1 rfl (ks .u64 a1 ++ [Value.bool o1]) (Sr.out.blk 2 rfl) _ Try.underlying38 rfl HSV1.out ?_)
        refine (CVh.out _).mono ?_; rintro e k1 ⟨rfl, hb⟩
        have Sq1 : Hid (Sep w k1 [rC num 72 c v L, rB c2 (ks .u64 a2 ++ [Value.bool o2]), rB c1 (ks .u64 a1 ++ [Value.bool o1])]) := Sr.out.below hb
        clear hb Sr
        go_wp2_with (first | refine blk_alloc rfl 32 (ks .u64 (List.replicate 4 0)) rfl info_ks ?_)
        intro k2a A B Z
        obtain ⟨bkh, HB_h⟩ : ∃ b, Hid (k1.heap.size = b) := ⟨_, rfl⟩
        go_wp2_with (first | refine blk_store rfl 32 _ _ rfl k1.heap.size rfl (ks .u64 h) rfl _ A (by rw [ks_length, H4.out]; rfl) (size_ks H4.out) (one_ks _) ?_)
        intro k2 A9 U9
        have Sq2 : Hid (Sep w k2 [rB bkh (ks .u64 h), rC num 72 c v L, rB c2 (ks .u64 a2 ++ [Value.bool o2]), rB c1 (ks .u64 a1 ++ [Value.bool o1])]) := by
          show Sep _ _ _
          rw [← HB_h.out]
          exact Sep.fresh Sq1.out B Z U9 A9
        rw [HB_h.out]
        clear A B Z A9 U9 HB_h Sq1
        have HRh : Hid (∀ u, Below k2.heap.size k2 u → u.rangeAt bkh 0 (ks .u64 h)) := fun u hu => ((Sq2.out.below hu).blk 0 rfl).1
        have HR2 : Hid (∀ u, Below k2.heap.size k2 u → u.rangeAt c2 0 (ks .u64 a2 ++ [Value.bool o2])) := fun u hu => ((Sq2.out.below hu).blk 2 rfl).1
        go_wp2_with fail
        refine region_relt 5 [Spc.eq (.agg (ks .u64 h).toArray), Spc.eq (.agg (ks .u64 a2 ++ [Value.bool o2]).toArray), Spc.eq (.agg (ks .u64 g2).toArray), Spc.eq (.agg (ks .u64 f).toArray), Spc.blk k2.heap.size (ks .u64 (List.replicate 4 0))] Try.mixed (by kernel_rfl) ?_
        refine r_blk_load rfl 32 _ rfl bkh 0 rfl (by intro u hu hn; exact HRh.out u hu) _ Try.underlying32 rfl (size_ks H4.out) (fun K hK => ?_)
        go_simp
        refine hK _ ?_
        clear hK K
        refine r_blk_load rfl 38 _ rfl c2 0 rfl (by intro u hu hn; exact HR2.out u hu) _ Try.underlying38 rfl HSV2.out (fun K hK => ?_)
        go_simp
        refine hK _ ?_
        clear hK K
        refine r_callv rfl 10 Try.f10 Try.func10 rfl rfl _ _ rfl [.agg (ks .u64 a2 ++ [Value.bool o2]).toArray] rfl (by intro u hu hn; exact CVg.out u) (fun K hK => ?_)
        go_simp
        refine hK _ ?_
        clear hK K
        refine r_callv rfl 30 Try.f30 Try.func30 rfl rfl _ _ rfl [.agg (ks .u64 h).toArray, .agg (ks .u64 g2).toArray] rfl (by intro u hu hn; exact CJ.out u) (fun K hK => ?_)
        go_simp
        refine hK _ ?_
        clear hK K
        refine r_new rfl 32 rfl info_ks (fun u hu => hu.size) (fun v hv K hK => ?_)
        obtain ⟨bf, rfl⟩ := hv
        go_simp
        refine hK _ ?_
        clear hK K
        refine r_nil ?_
        intro k3a hu hF
        obtain ⟨b, eb, hB, hlt, hblk⟩ := hF 0 _ rfl
        obtain rfl : bf = b := by injection eb with h; injection h with h; injection h
        have hbel := hu
        clear eb hF HRh HR2
        refine blk_store rfl 32 _ _ rfl bf rfl (ks .u64 f) rfl _ hblk (by rw [ks_length, F4.out]; rfl) (size_ks F4.out) (one_ks _) ?_
        intro k3 A U
        have Sq3 : Hid (Sep w k3 [rB bf (ks .u64 f), rB bkh (ks .u64 h), rC num 72 c v L, rB c2 (ks .u64 a2 ++ [Value.bool o2]), rB c1 (ks .u64 a1 ++ [Value.bool o1])]) := by
          refine Sep.push Sq2.out (hbel.trans (U.below hB)) (rB bf (ks .u64 f)) A (fun k hk => ?_)
          simp only [rB, List.mem_singleton] at hk
          subst hk
          exact ⟨hB, by rw [U.size]; exact hlt⟩
        clear A U hblk hbel hu hB hlt Sq2
        go_wp2_with (first | refine blk_load rfl 32 _ rfl bkh rfl (ks .u64 h) (Sq3.out.blk 1 rfl) _ Try.underlying32 rfl (size_ks H4.out) ?_)
        refine (R1.out _ (Sq3.out.ch 2 rfl)).mono ?_; rintro e k4 ⟨rfl, hb⟩
        have Sq4 : Hid (Sep w k4 [rB bf (ks .u64 f), rB bkh (ks .u64 h), rC num 72 c v L, rB c2 (ks .u64 a2 ++ [Value.bool o2]), rB c1 (ks .u64 a1 ++ [Value.bool o1])]) := Sq3.out.below hb
        clear hb Sq3
        go_wp2_with (first | refine blk_alloc rfl 72 ((vk num).cf (vk num).none_) rfl info_vI ?_)
        intro k5a A B Z
        obtain ⟨bkx, HB_x⟩ : ∃ b, Hid (k4.heap.size = b) := ⟨_, rfl⟩
        go_wp2_with (first | refine blk_store rfl 72 _ _ rfl k4.heap.size rfl ((vk num).cf X) rfl _ A rfl HSX.out rfl ?_)
        intro k5 A9 U9
        have Sq5 : Hid (Sep w k5 [rB bkx ((vk num).cf X), rB bf (ks .u64 f), rB bkh (ks .u64 h), rC num 72 c v L, rB c2 (ks .u64 a2 ++ [Value.bool o2]), rB c1 (ks .u64 a1 ++ [Value.bool o1])]) := by
          show Sep _ _ _
          rw [← HB_x.out]
          exact Sep.fresh Sq4.out B Z U9 A9
        rw [HB_x.out]
        clear A B Z A9 U9 HB_x Sq4
        go_wp2_with (first | refine blk_load rfl 32 _ rfl bf rfl (ks .u64 f) (Sq5.out.blk 1 rfl) _ Try.underlying32 rfl (size_ks F4.out) ?_)
        refine (R2.out _ (Sq5.out.ch 3 rfl)).mono ?_; rintro e k6 ⟨rfl, hb⟩
        have Sq6 : Hid (Sep w k6 [rB bkx ((vk num).cf X), rB bf (ks .u64 f), rB bkh (ks .u64 h), rC num 72 c v L, rB c2 (ks .u64 a2 ++ [Value.bool o2]), rB c1 (ks .u64 a1 ++ [Value.bool o1])]) := Sq5.out.below hb
        clear hb Sq5
        go_wp2_with (first | refine blk_alloc rfl 72 ((vk num).cf (vk num).none_) rfl info_vI ?_)
        intro k7a A B Z
        obtain ⟨bky, HB_y⟩ : ∃ b, Hid (k6.heap.size = b) := ⟨_, rfl⟩
        go_wp2_with (first | refine blk_store rfl 72 _ _ rfl k6.heap.size rfl ((vk num).cf Y) rfl _ A rfl HSX.out rfl ?_)
        intro k7 A9 U9
        have Sq7 : Hid (Sep w k7 [rB bky ((vk num).cf Y), rB bkx ((vk num).cf X), rB bf (ks .u64 f), rB bkh (ks .u64 h), rC num 72 c v L, rB c2 (ks .u64 a2 ++ [Value.bool o2]), rB c1 (ks .u64 a1 ++ [Value.bool o1])]) := by
          show Sep _ _ _
          rw [← HB_y.out]
          exact Sep.fresh Sq6.out B Z U9 A9
        rw [HB_y.out]
        clear A B Z A9 U9 HB_y Sq6
        go_wp2_with fail
        refine (CL1.out _ (Sq7.out.ch 4 rfl)).mono ?_; rintro e wl ⟨rfl, rfl⟩
        go_wp2_with (first | refine blk_load rfl 32 _ rfl bkh rfl (ks .u64 h) (Sq7.out.blk 3 rfl) _ Try.underlying32 rfl (size_ks H4.out) ?_)
        refine (CP.out _ (Sq7.out.ch 4 rfl)).mono ?_; rintro e k8 ⟨v2, rfl, hc, ht, hn⟩
        have Sq8 : Hid (Sep w k8 [rB bky ((vk num).cf Y), rB bkx ((vk num).cf X), rB bf (ks .u64 f), rB bkh (ks .u64 h), rC num 72 c v2 M, rB c2 (ks .u64 a2 ++ [Value.bool o2]), rB c1 (ks .u64 a1 ++ [Value.bool o1])]) := Sq7.out.chain 4 rfl hc ht hn
        clear hc ht hn Sq7
        go_wp2_with (first | refine blk_load rfl 32 _ rfl bkh rfl (ks .u64 h) (Sq8.out.blk 3 rfl) _ Try.underlying32 rfl (size_ks H4.out) ?_)
        refine (R3.out _ _ (Sq8.out.ch 4 rfl)).mono ?_; rintro e k9 ⟨rfl, hb⟩
        have Sq9 : Hid (Sep w k9 [rB bky ((vk num).cf Y), rB bkx ((vk num).cf X), rB bf (ks .u64 f), rB bkh (ks .u64 h), rC num 72 c v2 M, rB c2 (ks .u64 a2 ++ [Value.bool o2]), rB c1 (ks .u64 a1 ++ [Value.bool o1])]) := Sq8.out.below hb
        clear hb Sq8
        go_wp2_with (first | refine blk_alloc rfl 72 ((vk num).cf (vk num).none_) rfl info_vI ?_)
        intro k10a A B Z
        obtain ⟨bkp, HB_p⟩ : ∃ b, Hid (k9.heap.size = b) := ⟨_, rfl⟩
        go_wp2_with (first | refine blk_store rfl 72 _ _ rfl k9.heap.size rfl ((vk num).cf X) rfl _ A rfl HSX.out rfl ?_)
        intro k10 A9 U9
        have Sq10 : Hid (Sep w k10 [rB bkp ((vk num).cf X), rB bky ((vk num).cf Y), rB bkx ((vk num).cf X), rB bf (ks .u64 f), rB bkh (ks .u64 h), rC num 72 c v2 M, rB c2 (ks .u64 a2 ++ [Value.bool o2]), rB c1 (ks .u64 a1 ++ [Value.bool o1])]) := by
          show Sep _ _ _
          rw [← HB_p.out]
          exact Sep.fresh Sq9.out B Z U9 A9
        rw [HB_p.out]
        clear A B Z A9 U9 HB_p Sq9
        go_wp2_with (first | refine blk_load rfl 32 _ rfl bf rfl (ks .u64 f) (Sq10.out.blk 3 rfl) _ Try.underlying32 rfl (size_ks F4.out) ?_)
        refine (R4.out _ _ (Sq10.out.ch 5 rfl)).mono ?_; rintro e k11 ⟨rfl, hb⟩
        have Sq11 : Hid (Sep w k11 [rB bkp ((vk num).cf X), rB bky ((vk num).cf Y), rB bkx ((vk num).cf X), rB bf (ks .u64 f), rB bkh (ks .u64 h), rC num 72 c v2 M, rB c2 (ks .u64 a2 ++ [Value.bool o2]), rB c1 (ks .u64 a1 ++ [Value.bool o1])]) := Sq10.out.below hb
        clear hb Sq10
        go_wp2_with (first | refine blk_alloc rfl 72 ((vk num).cf (vk num).none_) rfl info_vI ?_)
        intro k12a A B Z
        obtain ⟨bkq, HB_q⟩ : ∃ b, Hid (k11.heap.size = b) := ⟨_, rfl⟩
        go_wp2_with (first | refine blk_store rfl 72 _ _ rfl k11.heap.size rfl ((vk num).cf Y) rfl _ A rfl HSX.out rfl ?_)
        intro k12 A9 U9
        have Sq12 : Hid (Sep w k12 [rB bkq ((vk num).cf Y), rB bkp ((vk num).cf X), rB bky ((vk num).cf Y), rB bkx ((vk num).cf X), rB bf (ks .u64 f), rB bkh (ks .u64 h), rC num 72 c v2 M, rB c2 (ks .u64 a2 ++ [Value.bool o2]), rB c1 (ks .u64 a1 ++ [Value.bool o1])]) := by
          show Sep _ _ _
          rw [← HB_q.out]
          exact Sep.fresh Sq11.out B Z U9 A9
        rw [HB_q.out]
        clear A B Z A9 U9 HB_q Sq11
        go_wp2_with (first | refine blk_load rfl 32 _ rfl bkh rfl (ks .u64 h) (Sq12.out.blk 5 rfl) _ Try.underlying32 rfl (size_ks H4.out) ?_)
        refine (CP2.out _ _ (Sq12.out.ch 6 rfl)).mono ?_; rintro e k13 ⟨v3, rfl, hc, ht, hn⟩
        have Sq13 : Hid (Sep w k13 [rB bkq ((vk num).cf Y), rB bkp ((vk num).cf X), rB bky ((vk num).cf Y), rB bkx ((vk num).cf X), rB bf (ks .u64 f), rB bkh (ks .u64 h), rC num 72 c v3 M, rB c2 (ks .u64 a2 ++ [Value.bool o2]), rB c1 (ks .u64 a1 ++ [Value.bool o1])]) := Sq12.out.chain 6 rfl hc ht hn
        clear hc ht hn Sq12
        go_wp2_with fail
        refine (CA.out _ _ (Sq13.out.ch 6 rfl)).mono ?_; rintro e k14 ⟨vA, rfl, ho, hb⟩
        obtain ⟨sA, cA, eA, _⟩ := ho.is.is
        rw [HMm.out] at eA
        subst eA
        obtain ⟨bA, HBA⟩ : ∃ b, Hid (k13.heap.size = b) := ⟨_, rfl⟩
        have Sq14 : Hid (Sep w k14 [rO (vk num) 72 bA (.slice sA m cA) M, rB bkq ((vk num).cf Y), rB bkp ((vk num).cf X), rB bky ((vk num).cf Y), rB bkx ((vk num).cf X), rB bf (ks .u64 f), rB bkh (ks .u64 h), rC num 72 c v3 M, rB c2 (ks .u64 a2 ++ [Value.bool o2]), rB c1 (ks .u64 a1 ++ [Value.bool o1])]) := by
          show Sep _ _ _
          rw [← HBA.out]
          exact Sq13.out.newrow hb ho
        clear ho hb HBA Sq13 CA CP CP2 R1 R2 R3 R4 CL1 CVh CVg CJ
        go_wp2_with fail
        go_loopw [25, 26] (fun sn k wk => ∃ (i cn : Nat), i ≤ m ∧ cn ≤ i ∧ sn = .int .i64 (cn : Int) ∧ k = .int .i64 (i : Int) ∧ Hid (((M.take i).filter (fun x => C.seen x.1 h)).length = cn) ∧ Hid (Sep w wk [rO (vk num) 72 bA (.slice sA m cA) M, rB bkq ((vk num).cf Y), rB bkp ((vk num).cf X), rB bky ((vk num).cf Y), rB bkx ((vk num).cf X), rB bf (ks .u64 f), rB bkh (ks .u64 h), rC num 72 c v3 M, rB c2 (ks .u64 a2 ++ [Value.bool o2]), rB c1 (ks .u64 a1 ++ [Value.bool o1])])) (fun _ k _ => m - (intOf k).toNat)
        case atStart => exact ⟨0, 0, by omega, by omega, rfl, rfl, by show _ = _; simp, Sq14⟩
        case round =>
          obtain ⟨i, cn, hiq, hcn, rfl, rfl, HCN, Sk⟩ := hrel
          clear Sq14
          by_cases hli : i < m
          · have i3 : (i : Int) < (m : Int) := by omega
            have hxi := C.getD_some (show i < M.length by rw [HMm.out]; exact hli) (vk num).none_
            have hx4 := HMUP.out.four _ (List.mem_of_getElem? hxi)
            have hstep := congrArg List.length (C.filter_take M (fun x => C.seen x.1 h) i _ hxi)
            rw [List.length_append, HCN.out] at hstep
            obtain ⟨gA, oA, cA', hv, hgA, hrow⟩ := IsR.at (Sk.out.or 0 rfl).is i (by rw [HMm.out]; exact hli)
            obtain rfl : sA = some ⟨gA, oA, none⟩ := by injection hv
            clear hv hxi
            have hprev := fun hp : 0 < i => up_at HMUP.out (i - 1) (by rw [HMm.out]; omega) (vk num).none_
            have hprow := fun hp : 0 < i => IsR.at (Sk.out.or 0 rfl).is (i - 1) (by rw [HMm.out]; omega)
            have hp4 := fun hp : 0 < i => HMUP.out.four _ (List.mem_of_getElem? (C.getD_some (show i - 1 < M.length by rw [HMm.out]; omega) (vk num).none_))
            obtain ⟨xx, HXX⟩ : ∃ x, Hid (M.getD i (vk num).none_ = x) := ⟨_, rfl⟩
            rw [HXX.out] at hrow hx4 hstep
            have hprev := fun hp : 0 < i => (show C.ord (M.getD (i - 1) (vk num).none_).1 xx.1 < 0 by have := hprev hp; rw [show i - 1 + 1 = i by omega, HXX.out] at this; exact this)
            clear HXX
            obtain ⟨s, y⟩ := xx
            dsimp only at hx4 hprev hstep
            obtain ⟨sq, HSQ⟩ : ∃ q, Hid (C.seen s h = q) := ⟨_, rfl⟩
            rw [HSQ.out] at hstep
            have HST := Lib.hid hstep
            have HRA : Hid (∀ u, Below wr.heap.size wr u → u.rangeAt gA (oA + 6 * i) (ks .u64 s.1 ++ [Value.int .i64 s.2])) := fun u hu k v hv => by
              rw [hu.cell (p := ⟨gA, oA + 6 * i + k, none⟩) hgA]
              exact row_stamp hrow hx4 k v hv
            have HRh : Hid (∀ u, Below wr.heap.size wr u → Blk u bkh (ks .u64 h)) := fun u hu => (Sk.out.below hu).blk 6 rfl
            have HSZ := Lib.hid (size_s (d := s.2) hx4)
            have HE : Hid (∀ u, Below wr.heap.size wr u → Calls Try.prog 29 [SV s.1 s.2, .agg (ks .u64 h).toArray].toArray u fun e u' => e = .returned (.bool sq) ∧ Below wr.heap.size wr u') := fun u hu => Calls.more hu (by have := sseen_any s.1 h s.2 u hx4 H4.out; rw [show V.leq s.1 h = sq from HSQ.out] at this; exact this)
            have hixa : ∀ w, (Instr.indexAt 80 (.slice (some ⟨gA, oA, none⟩) m cA) (.int .i64 (i : Int))).run Try.prog w = .ok (.pointer (some ⟨gA, oA + 6 * i, none⟩)) w := fun w => index_vI gA oA m cA i hli w
            clear hstep
            go_wp2_with fail
            refine region_w Try.mixed (by kernel_rfl) ?_
            refine w_move rfl _ rfl (.slice (some ⟨gA, oA, none⟩) m cA) rfl (fun K hK => ?_)
            go_simp
            refine hK _ ?_
            clear hK K
            refine w_move rfl _ rfl (.int .i64 (i : Int)) rfl (fun K hK => ?_)
            go_simp
            refine hK _ ?_
            clear hK K
            refine w_value rfl (.pointer (some ⟨gA, oA + 6 * i, none⟩)) (fun u hu => by have hs := hixa u; go_simp) (fun K hK => ?_)
            go_simp
            refine hK _ ?_
            clear hK K
            refine w_value rfl (.pointer (some ⟨gA, oA + 6 * i, none⟩)) (fun u hu => by go_simp) (fun K hK => ?_)
            go_simp
            refine hK _ ?_
            clear hK K
            refine w_mid_load rfl 34 _ rfl gA (oA + 6 * i) rfl (ks .u64 s.1 ++ [Value.int .i64 s.2]) (by exact HRA.out) _ Try.underlying34 rfl HSZ.out (fun K hK => ?_)
            go_simp
            refine hK _ ?_
            clear hK K
            refine w_blk_load rfl 32 _ rfl bkh rfl (ks .u64 h) (by exact HRh.out) _ Try.underlying32 rfl (size_ks H4.out) (fun K hK => ?_)
            go_simp
            refine hK _ ?_
            clear hK K
            refine w_call rfl 29 Try.f29 Try.func29 rfl rfl _ _ rfl [SV s.1 s.2, .agg (ks .u64 h).toArray] rfl (.bool sq) (by exact HE.out) (fun K hK => ?_)
            go_simp
            refine hK _ ?_
            clear hK K
            refine w_nil ?_
            intro u hu
            have S8 := Lib.hid (Sk.out.below hu)
            have HRA2 : Hid (∀ u', Below u.heap.size u u' → u'.rangeAt gA (oA + 6 * i) (ks .u64 s.1 ++ [Value.int .i64 s.2])) := fun u' hu' k v hv => by
              rw [hu'.cell (p := ⟨gA, oA + 6 * i + k, none⟩) (Nat.lt_of_lt_of_le hgA hu.size)]
              exact HRA.out u hu k v hv
            have HBU := Lib.hid hu
            clear hu HRA HRh Sk
            cases sq with
            | true =>
              have HCN2 : Hid (((M.take (i + 1)).filter (fun x => C.seen x.1 h)).length = cn + 1) := HST.out
              clear HST
              by_cases hp : 0 < i
              · have i6 : (0 : Int) < (i : Int) := by omega
                have k1 : IntKind.i64.wrap ((i : Int) - 1) = (i : Int) - 1 := by rw [IntKind.wrap_i64]; omega
                have hprev := hprev hp
                have hp4 := hp4 hp
                obtain ⟨gB, oB, cB, hv, hgB, hrowb⟩ := hprow hp
                obtain ⟨rfl, rfl⟩ : gA = gB ∧ oA = oB := by injection hv with h1; injection h1 with h1; injection h1 with h1 h2; exact ⟨h1, h2⟩
                clear hprow hv
                obtain ⟨pp, HPP⟩ : ∃ x, Hid (M.getD (i - 1) (vk num).none_ = x) := ⟨_, rfl⟩
                rw [HPP.out] at hrowb hp4 hprev
                clear HPP
                obtain ⟨p, zz⟩ := pp
                dsimp only at hp4 hprev
                obtain ⟨od, HOD⟩ : ∃ od, Hid (C.ord p s = od) := ⟨_, rfl⟩
                have XO : Hid (∀ u, Calls Try.prog 28 [SV p.1 p.2, SV s.1 s.2].toArray u fun e u' => e = .returned (.int .i64 od) ∧ Below u.heap.size u u') := fun u => by have := order_any p.1 s.1 p.2 s.2 u hp4 hx4; rw [show T.order p.1 p.2 s.1 s.2 = od from HOD.out] at this; exact this
                have XO2 : Hid (∀ u', Below u.heap.size u u' → Calls Try.prog 28 [SV p.1 p.2, SV s.1 s.2].toArray u' fun e u'' => e = .returned (.int .i64 od) ∧ Below u.heap.size u u'') := fun u' hu' => Calls.more hu' (XO.out u')
                rw [HOD.out] at hprev
                have hod : ¬ (0 ≤ od) := by omega
                obtain ⟨h1, HH1⟩ : ∃ h, Hid (i - 1 = h) := ⟨_, rfl⟩
                have hhq : h1 < m := by have := HH1.out; omega
                have hih : (i : Int) - 1 = (h1 : Int) := by have := HH1.out; omega
                rw [HH1.out] at hrowb
                have HRB : Hid (∀ u', Below u.heap.size u u' → u'.rangeAt gA (oA + 6 * h1) (ks .u64 p.1 ++ [Value.int .i64 p.2])) := fun u' hu' k v hv => by
                  rw [hu'.cell (p := ⟨gA, oA + 6 * h1 + k, none⟩) (Nat.lt_of_lt_of_le hgB HBU.out.size), HBU.out.cell (p := ⟨gA, oA + 6 * h1 + k, none⟩) hgB]
                  exact row_stamp hrowb hp4 k v hv
                have HSP := Lib.hid (size_s (d := p.2) hp4)
                have hixb : ∀ w, (Instr.indexAt 80 (.slice (some ⟨gA, oA, none⟩) m cA) (.int .i64 ((i : Int) - 1))).run Try.prog w = .ok (.pointer (some ⟨gA, oA + 6 * h1, none⟩)) w := fun w => by rw [hih]; exact index_vI gA oA m cA h1 hhq w
                clear hrow hrowb hprev hp4 hx4 hih hgA hgB HBU XO
                go_wp2_with fail
                refine region_w Try.mixed (by kernel_rfl) ?_
                refine w_move rfl _ rfl (.int .i64 (i : Int)) rfl (fun K hK => ?_)
                go_simp
                refine hK _ ?_
                clear hK K
                refine w_value rfl (.bool true) (fun u hu => by go_simp) (fun K hK => ?_)
                go_simp
                refine hK _ ?_
                clear hK K
                refine w_move rfl _ rfl (.bool true) rfl (fun K hK => ?_)
                go_simp
                refine hK _ ?_
                clear hK K
                refine wg_value (by rfl) (.slice (some ⟨gA, oA, none⟩) m cA) (fun u hu => by go_simp) (fun K hK => ?_)
                go_simp
                refine hK _ ?_
                clear hK K
                refine wg_value (by rfl) (.int .i64 (i : Int)) (fun u hu => by go_simp) (fun K hK => ?_)
                go_simp
                refine hK _ ?_
                clear hK K
                refine wg_value (by rfl) (.int .i64 ((i : Int) - 1)) (fun u hu => by have hs := k1; go_simp) (fun K hK => ?_)
                go_simp
                refine hK _ ?_
                clear hK K
                refine wg_value (by rfl) (.pointer (some ⟨gA, oA + 6 * h1, none⟩)) (fun u hu => by have hs := hixb u; go_simp) (fun K hK => ?_)
                go_simp
                refine hK _ ?_
                clear hK K
                refine wg_value (by rfl) (.pointer (some ⟨gA, oA + 6 * h1, none⟩)) (fun u hu => by go_simp) (fun K hK => ?_)
                go_simp
                refine hK _ ?_
                clear hK K
                refine wg_mid_load (by rfl) 34 _ rfl gA (oA + 6 * h1) rfl (ks .u64 p.1 ++ [Value.int .i64 p.2]) (by exact HRB.out) _ Try.underlying34 rfl HSP.out (fun K hK => ?_)
                go_simp
                refine hK _ ?_
                clear hK K
                refine wg_value (by rfl) (.slice (some ⟨gA, oA, none⟩) m cA) (fun u hu => by go_simp) (fun K hK => ?_)
                go_simp
                refine hK _ ?_
                clear hK K
                refine wg_value (by rfl) (.int .i64 (i : Int)) (fun u hu => by go_simp) (fun K hK => ?_)
                go_simp
                refine hK _ ?_
                clear hK K
                refine wg_value (by rfl) (.pointer (some ⟨gA, oA + 6 * i, none⟩)) (fun u hu => by have hs := hixa u; go_simp) (fun K hK => ?_)
                go_simp
                refine hK _ ?_
                clear hK K
                refine wg_value (by rfl) (.pointer (some ⟨gA, oA + 6 * i, none⟩)) (fun u hu => by go_simp) (fun K hK => ?_)
                go_simp
                refine hK _ ?_
                clear hK K
                refine wg_mid_load (by rfl) 34 _ rfl gA (oA + 6 * i) rfl (ks .u64 s.1 ++ [Value.int .i64 s.2]) (by exact HRA2.out) _ Try.underlying34 rfl HSZ.out (fun K hK => ?_)
                go_simp
                refine hK _ ?_
                clear hK K
                refine wg_call (by rfl) 28 Try.f28 Try.func28 rfl rfl _ _ rfl [SV p.1 p.2, SV s.1 s.2] rfl (.int .i64 od) (by exact XO2.out) (fun K hK => ?_)
                go_simp
                refine hK _ ?_
                clear hK K
                refine wg_value (by rfl) (.bool false) (fun u hu => by have hs := hod; go_simp) (fun K hK => ?_)
                go_simp
                refine hK _ ?_
                clear hK K
                refine w_value rfl (.bool false) (fun u hu => by go_simp) (fun K hK => ?_)
                go_simp
                refine hK _ ?_
                clear hK K
                refine w_nil ?_
                intro u2 hu2
                have S9 := Lib.hid (S8.out.below hu2)
                clear hu2 HRA2 HRB XO2 hixb HE hixa S8
                go_wp2_with fail
                go_roundw
                case rel => exact ⟨i + 1, cn + 1, by omega, by omega, by go_num, by go_num, HCN2, S9⟩
                case measure => simp [intOf]; omega
              · have i6 : ¬ ((0 : Int) < (i : Int)) := by omega
                clear hrow hprev hp4 hprow hx4 hgA HBU
                go_wp2_with fail
                refine region_w Try.mixed (by kernel_rfl) ?_
                refine w_move rfl _ rfl (.int .i64 (i : Int)) rfl (fun K hK => ?_)
                go_simp
                refine hK _ ?_
                clear hK K
                refine w_value rfl (.bool false) (fun u hu => by go_simp) (fun K hK => ?_)
                go_simp
                refine hK _ ?_
                clear hK K
                refine w_move rfl _ rfl (.bool false) rfl (fun K hK => ?_)
                go_simp
                refine hK _ ?_
                clear hK K
                refine w_skip 2 true (some false) rfl (by rfl) rfl (fun K hK => ?_)
                go_simp
                refine hK _ ?_
                clear hK K
                refine w_skip 2 true (some false) rfl (by rfl) rfl (fun K hK => ?_)
                go_simp
                refine hK _ ?_
                clear hK K
                refine w_skip 2 true (some false) rfl (by rfl) rfl (fun K hK => ?_)
                go_simp
                refine hK _ ?_
                clear hK K
                refine w_skip 2 true (some false) rfl (by rfl) rfl (fun K hK => ?_)
                go_simp
                refine hK _ ?_
                clear hK K
                refine w_skip 2 true (some false) rfl (by rfl) rfl (fun K hK => ?_)
                go_simp
                refine hK _ ?_
                clear hK K
                refine w_skip 2 true (some false) rfl (by rfl) rfl (fun K hK => ?_)
                go_simp
                refine hK _ ?_
                clear hK K
                refine w_skip 2 true (some false) rfl (by rfl) rfl (fun K hK => ?_)
                go_simp
                refine hK _ ?_
                clear hK K
                refine w_skip 2 true (some false) rfl (by rfl) rfl (fun K hK => ?_)
                go_simp
                refine hK _ ?_
                clear hK K
                refine w_skip 2 true (some false) rfl (by rfl) rfl (fun K hK => ?_)
                go_simp
                refine hK _ ?_
                clear hK K
                refine w_skip 2 true (some false) rfl (by rfl) rfl (fun K hK => ?_)
                go_simp
                refine hK _ ?_
                clear hK K
                refine w_skip 2 true (some false) rfl (by rfl) rfl (fun K hK => ?_)
                go_simp
                refine hK _ ?_
                clear hK K
                refine w_skip 2 true (some false) rfl (by rfl) rfl (fun K hK => ?_)
                go_simp
                refine hK _ ?_
                clear hK K
                refine w_skip 2 true (some false) rfl (by rfl) rfl (fun K hK => ?_)
                go_simp
                refine hK _ ?_
                clear hK K
                refine w_value rfl (.bool false) (fun u hu => by go_simp) (fun K hK => ?_)
                go_simp
                refine hK _ ?_
                clear hK K
                refine w_nil ?_
                intro u2 hu2
                have S9 := Lib.hid (S8.out.below hu2)
                clear hu2 HRA2  HE hixa S8
                go_wp2_with fail
                go_roundw
                case rel => exact ⟨i + 1, cn + 1, by omega, by omega, by go_num, by go_num, HCN2, S9⟩
                case measure => simp [intOf]; omega
            | false =>
              have HCN2 : Hid (((M.take (i + 1)).filter (fun x => C.seen x.1 h)).length = cn) := HST.out
              clear HST
              by_cases hp : 0 < i
              · have i6 : (0 : Int) < (i : Int) := by omega
                have k1 : IntKind.i64.wrap ((i : Int) - 1) = (i : Int) - 1 := by rw [IntKind.wrap_i64]; omega
                have hprev := hprev hp
                have hp4 := hp4 hp
                obtain ⟨gB, oB, cB, hv, hgB, hrowb⟩ := hprow hp
                obtain ⟨rfl, rfl⟩ : gA = gB ∧ oA = oB := by injection hv with h1; injection h1 with h1; injection h1 with h1 h2; exact ⟨h1, h2⟩
                clear hprow hv
                obtain ⟨pp, HPP⟩ : ∃ x, Hid (M.getD (i - 1) (vk num).none_ = x) := ⟨_, rfl⟩
                rw [HPP.out] at hrowb hp4 hprev
                clear HPP
                obtain ⟨p, zz⟩ := pp
                dsimp only at hp4 hprev
                obtain ⟨od, HOD⟩ : ∃ od, Hid (C.ord p s = od) := ⟨_, rfl⟩
                have XO : Hid (∀ u, Calls Try.prog 28 [SV p.1 p.2, SV s.1 s.2].toArray u fun e u' => e = .returned (.int .i64 od) ∧ Below u.heap.size u u') := fun u => by have := order_any p.1 s.1 p.2 s.2 u hp4 hx4; rw [show T.order p.1 p.2 s.1 s.2 = od from HOD.out] at this; exact this
                have XO2 : Hid (∀ u', Below u.heap.size u u' → Calls Try.prog 28 [SV p.1 p.2, SV s.1 s.2].toArray u' fun e u'' => e = .returned (.int .i64 od) ∧ Below u.heap.size u u'') := fun u' hu' => Calls.more hu' (XO.out u')
                rw [HOD.out] at hprev
                have hod : ¬ (0 ≤ od) := by omega
                obtain ⟨h1, HH1⟩ : ∃ h, Hid (i - 1 = h) := ⟨_, rfl⟩
                have hhq : h1 < m := by have := HH1.out; omega
                have hih : (i : Int) - 1 = (h1 : Int) := by have := HH1.out; omega
                rw [HH1.out] at hrowb
                have HRB : Hid (∀ u', Below u.heap.size u u' → u'.rangeAt gA (oA + 6 * h1) (ks .u64 p.1 ++ [Value.int .i64 p.2])) := fun u' hu' k v hv => by
                  rw [hu'.cell (p := ⟨gA, oA + 6 * h1 + k, none⟩) (Nat.lt_of_lt_of_le hgB HBU.out.size), HBU.out.cell (p := ⟨gA, oA + 6 * h1 + k, none⟩) hgB]
                  exact row_stamp hrowb hp4 k v hv
                have HSP := Lib.hid (size_s (d := p.2) hp4)
                have hixb : ∀ w, (Instr.indexAt 80 (.slice (some ⟨gA, oA, none⟩) m cA) (.int .i64 ((i : Int) - 1))).run Try.prog w = .ok (.pointer (some ⟨gA, oA + 6 * h1, none⟩)) w := fun w => by rw [hih]; exact index_vI gA oA m cA h1 hhq w
                clear hrow hrowb hprev hp4 hx4 hih hgA hgB HBU XO
                go_wp2_with fail
                refine region_w Try.mixed (by kernel_rfl) ?_
                refine w_move rfl _ rfl (.int .i64 (i : Int)) rfl (fun K hK => ?_)
                go_simp
                refine hK _ ?_
                clear hK K
                refine w_value rfl (.bool true) (fun u hu => by go_simp) (fun K hK => ?_)
                go_simp
                refine hK _ ?_
                clear hK K
                refine w_move rfl _ rfl (.bool true) rfl (fun K hK => ?_)
                go_simp
                refine hK _ ?_
                clear hK K
                refine wg_value (by rfl) (.slice (some ⟨gA, oA, none⟩) m cA) (fun u hu => by go_simp) (fun K hK => ?_)
                go_simp
                refine hK _ ?_
                clear hK K
                refine wg_value (by rfl) (.int .i64 (i : Int)) (fun u hu => by go_simp) (fun K hK => ?_)
                go_simp
                refine hK _ ?_
                clear hK K
                refine wg_value (by rfl) (.int .i64 ((i : Int) - 1)) (fun u hu => by have hs := k1; go_simp) (fun K hK => ?_)
                go_simp
                refine hK _ ?_
                clear hK K
                refine wg_value (by rfl) (.pointer (some ⟨gA, oA + 6 * h1, none⟩)) (fun u hu => by have hs := hixb u; go_simp) (fun K hK => ?_)
                go_simp
                refine hK _ ?_
                clear hK K
                refine wg_value (by rfl) (.pointer (some ⟨gA, oA + 6 * h1, none⟩)) (fun u hu => by go_simp) (fun K hK => ?_)
                go_simp
                refine hK _ ?_
                clear hK K
                refine wg_mid_load (by rfl) 34 _ rfl gA (oA + 6 * h1) rfl (ks .u64 p.1 ++ [Value.int .i64 p.2]) (by exact HRB.out) _ Try.underlying34 rfl HSP.out (fun K hK => ?_)
                go_simp
                refine hK _ ?_
                clear hK K
                refine wg_value (by rfl) (.slice (some ⟨gA, oA, none⟩) m cA) (fun u hu => by go_simp) (fun K hK => ?_)
                go_simp
                refine hK _ ?_
                clear hK K
                refine wg_value (by rfl) (.int .i64 (i : Int)) (fun u hu => by go_simp) (fun K hK => ?_)
                go_simp
                refine hK _ ?_
                clear hK K
                refine wg_value (by rfl) (.pointer (some ⟨gA, oA + 6 * i, none⟩)) (fun u hu => by have hs := hixa u; go_simp) (fun K hK => ?_)
                go_simp
                refine hK _ ?_
                clear hK K
                refine wg_value (by rfl) (.pointer (some ⟨gA, oA + 6 * i, none⟩)) (fun u hu => by go_simp) (fun K hK => ?_)
                go_simp
                refine hK _ ?_
                clear hK K
                refine wg_mid_load (by rfl) 34 _ rfl gA (oA + 6 * i) rfl (ks .u64 s.1 ++ [Value.int .i64 s.2]) (by exact HRA2.out) _ Try.underlying34 rfl HSZ.out (fun K hK => ?_)
                go_simp
                refine hK _ ?_
                clear hK K
                refine wg_call (by rfl) 28 Try.f28 Try.func28 rfl rfl _ _ rfl [SV p.1 p.2, SV s.1 s.2] rfl (.int .i64 od) (by exact XO2.out) (fun K hK => ?_)
                go_simp
                refine hK _ ?_
                clear hK K
                refine wg_value (by rfl) (.bool false) (fun u hu => by have hs := hod; go_simp) (fun K hK => ?_)
                go_simp
                refine hK _ ?_
                clear hK K
                refine w_value rfl (.bool false) (fun u hu => by go_simp) (fun K hK => ?_)
                go_simp
                refine hK _ ?_
                clear hK K
                refine w_nil ?_
                intro u2 hu2
                have S9 := Lib.hid (S8.out.below hu2)
                clear hu2 HRA2 HRB XO2 hixb HE hixa S8
                go_wp2_with fail
                go_roundw
                case rel => exact ⟨i + 1, cn, by omega, by omega, rfl, by go_num, HCN2, S9⟩
                case measure => simp [intOf]; omega
              · have i6 : ¬ ((0 : Int) < (i : Int)) := by omega
                clear hrow hprev hp4 hprow hx4 hgA HBU
                go_wp2_with fail
                refine region_w Try.mixed (by kernel_rfl) ?_
                refine w_move rfl _ rfl (.int .i64 (i : Int)) rfl (fun K hK => ?_)
                go_simp
                refine hK _ ?_
                clear hK K
                refine w_value rfl (.bool false) (fun u hu => by go_simp) (fun K hK => ?_)
                go_simp
                refine hK _ ?_
                clear hK K
                refine w_move rfl _ rfl (.bool false) rfl (fun K hK => ?_)
                go_simp
                refine hK _ ?_
                clear hK K
                refine w_skip 2 true (some false) rfl (by rfl) rfl (fun K hK => ?_)
                go_simp
                refine hK _ ?_
                clear hK K
                refine w_skip 2 true (some false) rfl (by rfl) rfl (fun K hK => ?_)
                go_simp
                refine hK _ ?_
                clear hK K
                refine w_skip 2 true (some false) rfl (by rfl) rfl (fun K hK => ?_)
                go_simp
                refine hK _ ?_
                clear hK K
                refine w_skip 2 true (some false) rfl (by rfl) rfl (fun K hK => ?_)
                go_simp
                refine hK _ ?_
                clear hK K
                refine w_skip 2 true (some false) rfl (by rfl) rfl (fun K hK => ?_)
                go_simp
                refine hK _ ?_
                clear hK K
                refine w_skip 2 true (some false) rfl (by rfl) rfl (fun K hK => ?_)
                go_simp
                refine hK _ ?_
                clear hK K
                refine w_skip 2 true (some false) rfl (by rfl) rfl (fun K hK => ?_)
                go_simp
                refine hK _ ?_
                clear hK K
                refine w_skip 2 true (some false) rfl (by rfl) rfl (fun K hK => ?_)
                go_simp
                refine hK _ ?_
                clear hK K
                refine w_skip 2 true (some false) rfl (by rfl) rfl (fun K hK => ?_)
                go_simp
                refine hK _ ?_
                clear hK K
                refine w_skip 2 true (some false) rfl (by rfl) rfl (fun K hK => ?_)
                go_simp
                refine hK _ ?_
                clear hK K
                refine w_skip 2 true (some false) rfl (by rfl) rfl (fun K hK => ?_)
                go_simp
                refine hK _ ?_
                clear hK K
                refine w_skip 2 true (some false) rfl (by rfl) rfl (fun K hK => ?_)
                go_simp
                refine hK _ ?_
                clear hK K
                refine w_skip 2 true (some false) rfl (by rfl) rfl (fun K hK => ?_)
                go_simp
                refine hK _ ?_
                clear hK K
                refine w_value rfl (.bool false) (fun u hu => by go_simp) (fun K hK => ?_)
                go_simp
                refine hK _ ?_
                clear hK K
                refine w_nil ?_
                intro u2 hu2
                have S9 := Lib.hid (S8.out.below hu2)
                clear hu2 HRA2  HE hixa S8
                go_wp2_with fail
                go_roundw
                case rel => exact ⟨i + 1, cn, by omega, by omega, rfl, by go_num, HCN2, S9⟩
                case measure => simp [intOf]; omega
          · obtain rfl : i = m := by omega
            have i3 : ¬ (i : Int) < (i : Int) := by omega
            have HCQ : Hid ((cn : Int) ≤ 1 ∧ ((cn : Int) == 1) = q) := by
              have h1 := HCN.out
              rw [List.take_of_length_le (by rw [HMm.out]; exact Nat.le_refl _), HMS.out] at h1
              have h2 := HQX.out
              cases hr : C.read L h with
              | none => rw [hr] at h1 h2; rw [← h1, ← h2]; exact ⟨by decide, rfl⟩
              | some b => rw [hr] at h1 h2; rw [← h1, ← h2]; exact ⟨(show ((1 : Nat) : Int) ≤ 1 by decide), rfl⟩
            have hc1 := HCQ.out.1
            have hc2 := HCQ.out.2
            have k1 : IntKind.i64.wrap ((nl : Int) - (i : Int)) = (nl : Int) - (i : Int) := by have := HLN.out; have := HML2.out; rw [IntKind.wrap_i64]; omega
            have hQX : Hid True := trivial
            have EX := Lib.hid (fun u => eql_vI X HX4.out u)
            have EY := Lib.hid (fun u => eql_vI Y HY4.out u)
            clear HCN HMS HQX HCQ
            go_wp2_with (first | refine blk_loadg rfl 72 _ rfl bkx rfl ((vk num).cf X) (Sk.out.blk 4 rfl) _ Try.underlying72 rfl HSX.out ?_ | refine blk_loadg rfl 72 _ rfl bkp rfl ((vk num).cf X) (Sk.out.blk 2 rfl) _ Try.underlying72 rfl HSX.out ?_ | refine blk_loadg rfl 72 _ rfl bky rfl ((vk num).cf Y) (Sk.out.blk 3 rfl) _ Try.underlying72 rfl HSX.out ?_ | refine blk_loadg rfl 72 _ rfl bkq rfl ((vk num).cf Y) (Sk.out.blk 1 rfl) _ Try.underlying72 rfl HSX.out ?_ | refine val_stepg rfl (.bool true) (run_eql _ .eql 72 72 _ _ ((vk num).val X) ((vk num).val X) _ rfl rfl rfl (guard_vI _ _ _ _ _ _ (.inl rfl)) (EX.out _)) ?_ | refine val_stepg rfl (.bool true) (run_eql _ .eql 72 72 _ _ ((vk num).val Y) ((vk num).val Y) _ rfl rfl rfl (guard_vI _ _ _ _ _ _ (.inl rfl)) (EY.out _)) ?_)
            refine (CL2.out _ _ (Sk.out.ch 7 rfl)).mono ?_; rintro e wl ⟨rfl, rfl⟩
            have HB9 := Lib.hid Sk.out.under
            clear Sk CL2
            go_wp2_with fail
            go_ret
            exact ⟨rfl, HB9.out⟩
    · have i1 : ¬ (j : Int) < (n : Int) := by omega
      obtain ⟨X, HX⟩ : ∃ X, Hid ((C.read L h).getD (vk num).none_ = X) := ⟨_, rfl⟩
      obtain ⟨q, HQX⟩ : ∃ q, Hid ((C.read L h).isSome = q) := ⟨_, rfl⟩
      obtain ⟨Y, HY⟩ : ∃ X, Hid ((C.read L f).getD (vk num).none_ = X) := ⟨_, rfl⟩
      obtain ⟨z, HQY⟩ : ∃ q, Hid ((C.read L f).isSome = q) := ⟨_, rfl⟩
      have HUP := Lib.hid (Sr.out.ch 0 rfl).up
      have HX4 : Hid (X.1.1.length = 4) := by show _ = _; rw [← HX.out]; exact best_fourI HUP.out h
      have HY4 : Hid (Y.1.1.length = 4) := by show _ = _; rw [← HY.out]; exact best_fourI HUP.out f
      have HLN : Hid (L.length < 1000) := by have := HQ.out; show _ < _; omega
      obtain ⟨M, HM⟩ : ∃ M, Hid (C.keep L h = M) := ⟨_, rfl⟩
      have HMUP : Hid (C.Up M) := by show C.Up _; rw [← HM.out]; exact HUP.out.keep h
      have HMX : Hid (C.read M h = C.read L h) := by show _ = _; rw [← HM.out]; exact HUP.out.read_keep (fun s _ hh => hh)
      have HMY : Hid (C.read M f = C.read L f) := by show _ = _; rw [← HM.out]; exact HUP.out.read_keep HHF.out
      have HMK : Hid (C.keep M h = M) := by show _ = _; rw [← HM.out]; exact HUP.out.keep_keep h
      have HMS : Hid (M.filter (fun x => C.seen x.1 h) = (C.read L h).toList) := by show _ = _; rw [← HM.out]; exact HUP.out.keep_seen h
      have HML2 : Hid (M.length ≤ L.length) := by show _ ≤ _; rw [← HM.out, ← keep_isI L h]; exact List.length_filter_le ..
      have R1 : Hid (∀ u, Ch num 72 u c v L → Calls Try.prog 25 #[.pointer (some ⟨c, 0, none⟩), .agg (ks .u64 h).toArray] u fun e u' => e = .returned (.tuple #[(vk num).val X, .bool q]) ∧ Below u.heap.size u u') := fun u hu => by
        have := readI c v L h u hu H4.out HLN.out
        rw [HX.out, HQX.out] at this
        exact this
      have R2 : Hid (∀ u, Ch num 72 u c v L → Calls Try.prog 25 #[.pointer (some ⟨c, 0, none⟩), .agg (ks .u64 f).toArray] u fun e u' => e = .returned (.tuple #[(vk num).val Y, .bool z]) ∧ Below u.heap.size u u') := fun u hu => by
        have := readI c v L f u hu F4.out HLN.out
        rw [HY.out, HQY.out] at this
        exact this
      have R3 : Hid (∀ v' u, Ch num 72 u c v' M → Calls Try.prog 25 #[.pointer (some ⟨c, 0, none⟩), .agg (ks .u64 h).toArray] u fun e u' => e = .returned (.tuple #[(vk num).val X, .bool q]) ∧ Below u.heap.size u u') := fun v' u hu => by
        have := readI c v' M h u hu H4.out (by have := HML2.out; have := HLN.out; omega)
        rw [HMX.out, HX.out, HQX.out] at this
        exact this
      have R4 : Hid (∀ v' u, Ch num 72 u c v' M → Calls Try.prog 25 #[.pointer (some ⟨c, 0, none⟩), .agg (ks .u64 f).toArray] u fun e u' => e = .returned (.tuple #[(vk num).val Y, .bool z]) ∧ Below u.heap.size u u') := fun v' u hu => by
        have := readI c v' M f u hu F4.out (by have := HML2.out; have := HLN.out; omega)
        rw [HMY.out, HY.out, HQY.out] at this
        exact this
      have CP : Hid (∀ u, Ch num 72 u c v L → Calls Try.prog 31 #[.pointer (some ⟨c, 0, none⟩), .agg (ks .u64 h).toArray] u fun e w' => ∃ v', e = .returned (.int .i64 ((L.length : Int) - (M.length : Int))) ∧ Ch num 72 w' c v' M ∧ Tw c v.ownBlock u w' ∧ Nw u v v') := fun u hu => by
        have := pruneI c v L h u hu H4.out HLN.out
        rw [HM.out] at this
        exact this
      have CP2 : Hid (∀ v' u, Ch num 72 u c v' M → Calls Try.prog 31 #[.pointer (some ⟨c, 0, none⟩), .agg (ks .u64 h).toArray] u fun e w' => ∃ v'', e = .returned (.int .i64 0) ∧ Ch num 72 w' c v'' M ∧ Tw c v'.ownBlock u w' ∧ Nw u v' v'') := fun v' u hu => by
        have := pruneI c v' M h u hu H4.out (by have := HML2.out; have := HLN.out; omega)
        rw [HMK.out, Int.sub_self] at this
        exact this
      have CA := Lib.hid (fun v' u (hu : Ch num 72 u c v' M) => allI c v' M u hu (by have := HML2.out; have := HLN.out; omega))
      have CL1 := Lib.hid (fun u (hu : Ch num 72 u c v L) => lenI c v L u hu)
      have CL2 := Lib.hid (fun v' u (hu : Ch num 72 u c v' M) => lenI c v' M u hu)
      obtain ⟨m, HMm⟩ : ∃ m, Hid (M.length = m) := ⟨_, rfl⟩
      obtain ⟨nl, HNL⟩ : ∃ m, Hid (L.length = m) := ⟨_, rfl⟩
      rw [HMm.out, HNL.out] at CP HML2
      rw [HMm.out] at CL2
      rw [HNL.out] at CL1 HLN
      have hmb : m < 1000 := by have h1 := HML2.out; have h2 := HLN.out; omega
      have HSX := Lib.hid size_vI
      clear HM HMX HMY HMK HX HY HQY HUP HQ
      go_wp2_with (first | refine blk_load rfl 38 _ rfl c1 rfl (ks .u64 a1 ++ [Value.bool o1]) (Sr.out.blk 2 rfl) _ Try.underlying38 rfl HSV1.out ?_)
      refine (CVh.out _).mono ?_; rintro e k1 ⟨rfl, hb⟩
      have Sq1 : Hid (Sep w k1 [rC num 72 c v L, rB c2 (ks .u64 a2 ++ [Value.bool o2]), rB c1 (ks .u64 a1 ++ [Value.bool o1])]) := Sr.out.below hb
      clear hb Sr
      go_wp2_with (first | refine blk_alloc rfl 32 (ks .u64 (List.replicate 4 0)) rfl info_ks ?_)
      intro k2a A B Z
      obtain ⟨bkh, HB_h⟩ : ∃ b, Hid (k1.heap.size = b) := ⟨_, rfl⟩
      go_wp2_with (first | refine blk_store rfl 32 _ _ rfl k1.heap.size rfl (ks .u64 h) rfl _ A (by rw [ks_length, H4.out]; rfl) (size_ks H4.out) (one_ks _) ?_)
      intro k2 A9 U9
      have Sq2 : Hid (Sep w k2 [rB bkh (ks .u64 h), rC num 72 c v L, rB c2 (ks .u64 a2 ++ [Value.bool o2]), rB c1 (ks .u64 a1 ++ [Value.bool o1])]) := by
        show Sep _ _ _
        rw [← HB_h.out]
        exact Sep.fresh Sq1.out B Z U9 A9
      rw [HB_h.out]
      clear A B Z A9 U9 HB_h Sq1
      have HRh : Hid (∀ u, Below k2.heap.size k2 u → u.rangeAt bkh 0 (ks .u64 h)) := fun u hu => ((Sq2.out.below hu).blk 0 rfl).1
      have HR2 : Hid (∀ u, Below k2.heap.size k2 u → u.rangeAt c2 0 (ks .u64 a2 ++ [Value.bool o2])) := fun u hu => ((Sq2.out.below hu).blk 2 rfl).1
      go_wp2_with fail
      refine region_relt 5 [Spc.eq (.agg (ks .u64 h).toArray), Spc.eq (.agg (ks .u64 a2 ++ [Value.bool o2]).toArray), Spc.eq (.agg (ks .u64 g2).toArray), Spc.eq (.agg (ks .u64 f).toArray), Spc.blk k2.heap.size (ks .u64 (List.replicate 4 0))] Try.mixed (by kernel_rfl) ?_
      refine r_blk_load rfl 32 _ rfl bkh 0 rfl (by intro u hu hn; exact HRh.out u hu) _ Try.underlying32 rfl (size_ks H4.out) (fun K hK => ?_)
      go_simp
      refine hK _ ?_
      clear hK K
      refine r_blk_load rfl 38 _ rfl c2 0 rfl (by intro u hu hn; exact HR2.out u hu) _ Try.underlying38 rfl HSV2.out (fun K hK => ?_)
      go_simp
      refine hK _ ?_
      clear hK K
      refine r_callv rfl 10 Try.f10 Try.func10 rfl rfl _ _ rfl [.agg (ks .u64 a2 ++ [Value.bool o2]).toArray] rfl (by intro u hu hn; exact CVg.out u) (fun K hK => ?_)
      go_simp
      refine hK _ ?_
      clear hK K
      refine r_callv rfl 30 Try.f30 Try.func30 rfl rfl _ _ rfl [.agg (ks .u64 h).toArray, .agg (ks .u64 g2).toArray] rfl (by intro u hu hn; exact CJ.out u) (fun K hK => ?_)
      go_simp
      refine hK _ ?_
      clear hK K
      refine r_new rfl 32 rfl info_ks (fun u hu => hu.size) (fun v hv K hK => ?_)
      obtain ⟨bf, rfl⟩ := hv
      go_simp
      refine hK _ ?_
      clear hK K
      refine r_nil ?_
      intro k3a hu hF
      obtain ⟨b, eb, hB, hlt, hblk⟩ := hF 0 _ rfl
      obtain rfl : bf = b := by injection eb with h; injection h with h; injection h
      have hbel := hu
      clear eb hF HRh HR2
      refine blk_store rfl 32 _ _ rfl bf rfl (ks .u64 f) rfl _ hblk (by rw [ks_length, F4.out]; rfl) (size_ks F4.out) (one_ks _) ?_
      intro k3 A U
      have Sq3 : Hid (Sep w k3 [rB bf (ks .u64 f), rB bkh (ks .u64 h), rC num 72 c v L, rB c2 (ks .u64 a2 ++ [Value.bool o2]), rB c1 (ks .u64 a1 ++ [Value.bool o1])]) := by
        refine Sep.push Sq2.out (hbel.trans (U.below hB)) (rB bf (ks .u64 f)) A (fun k hk => ?_)
        simp only [rB, List.mem_singleton] at hk
        subst hk
        exact ⟨hB, by rw [U.size]; exact hlt⟩
      clear A U hblk hbel hu hB hlt Sq2
      go_wp2_with (first | refine blk_load rfl 32 _ rfl bkh rfl (ks .u64 h) (Sq3.out.blk 1 rfl) _ Try.underlying32 rfl (size_ks H4.out) ?_)
      refine (R1.out _ (Sq3.out.ch 2 rfl)).mono ?_; rintro e k4 ⟨rfl, hb⟩
      have Sq4 : Hid (Sep w k4 [rB bf (ks .u64 f), rB bkh (ks .u64 h), rC num 72 c v L, rB c2 (ks .u64 a2 ++ [Value.bool o2]), rB c1 (ks .u64 a1 ++ [Value.bool o1])]) := Sq3.out.below hb
      clear hb Sq3
      go_wp2_with (first | refine blk_alloc rfl 72 ((vk num).cf (vk num).none_) rfl info_vI ?_)
      intro k5a A B Z
      obtain ⟨bkx, HB_x⟩ : ∃ b, Hid (k4.heap.size = b) := ⟨_, rfl⟩
      go_wp2_with (first | refine blk_store rfl 72 _ _ rfl k4.heap.size rfl ((vk num).cf X) rfl _ A rfl HSX.out rfl ?_)
      intro k5 A9 U9
      have Sq5 : Hid (Sep w k5 [rB bkx ((vk num).cf X), rB bf (ks .u64 f), rB bkh (ks .u64 h), rC num 72 c v L, rB c2 (ks .u64 a2 ++ [Value.bool o2]), rB c1 (ks .u64 a1 ++ [Value.bool o1])]) := by
        show Sep _ _ _
        rw [← HB_x.out]
        exact Sep.fresh Sq4.out B Z U9 A9
      rw [HB_x.out]
      clear A B Z A9 U9 HB_x Sq4
      go_wp2_with (first | refine blk_load rfl 32 _ rfl bf rfl (ks .u64 f) (Sq5.out.blk 1 rfl) _ Try.underlying32 rfl (size_ks F4.out) ?_)
      refine (R2.out _ (Sq5.out.ch 3 rfl)).mono ?_; rintro e k6 ⟨rfl, hb⟩
      have Sq6 : Hid (Sep w k6 [rB bkx ((vk num).cf X), rB bf (ks .u64 f), rB bkh (ks .u64 h), rC num 72 c v L, rB c2 (ks .u64 a2 ++ [Value.bool o2]), rB c1 (ks .u64 a1 ++ [Value.bool o1])]) := Sq5.out.below hb
      clear hb Sq5
      go_wp2_with (first | refine blk_alloc rfl 72 ((vk num).cf (vk num).none_) rfl info_vI ?_)
      intro k7a A B Z
      obtain ⟨bky, HB_y⟩ : ∃ b, Hid (k6.heap.size = b) := ⟨_, rfl⟩
      go_wp2_with (first | refine blk_store rfl 72 _ _ rfl k6.heap.size rfl ((vk num).cf Y) rfl _ A rfl HSX.out rfl ?_)
      intro k7 A9 U9
      have Sq7 : Hid (Sep w k7 [rB bky ((vk num).cf Y), rB bkx ((vk num).cf X), rB bf (ks .u64 f), rB bkh (ks .u64 h), rC num 72 c v L, rB c2 (ks .u64 a2 ++ [Value.bool o2]), rB c1 (ks .u64 a1 ++ [Value.bool o1])]) := by
        show Sep _ _ _
        rw [← HB_y.out]
        exact Sep.fresh Sq6.out B Z U9 A9
      rw [HB_y.out]
      clear A B Z A9 U9 HB_y Sq6
      go_wp2_with fail
      refine (CL1.out _ (Sq7.out.ch 4 rfl)).mono ?_; rintro e wl ⟨rfl, rfl⟩
      go_wp2_with (first | refine blk_load rfl 32 _ rfl bkh rfl (ks .u64 h) (Sq7.out.blk 3 rfl) _ Try.underlying32 rfl (size_ks H4.out) ?_)
      refine (CP.out _ (Sq7.out.ch 4 rfl)).mono ?_; rintro e k8 ⟨v2, rfl, hc, ht, hn⟩
      have Sq8 : Hid (Sep w k8 [rB bky ((vk num).cf Y), rB bkx ((vk num).cf X), rB bf (ks .u64 f), rB bkh (ks .u64 h), rC num 72 c v2 M, rB c2 (ks .u64 a2 ++ [Value.bool o2]), rB c1 (ks .u64 a1 ++ [Value.bool o1])]) := Sq7.out.chain 4 rfl hc ht hn
      clear hc ht hn Sq7
      go_wp2_with (first | refine blk_load rfl 32 _ rfl bkh rfl (ks .u64 h) (Sq8.out.blk 3 rfl) _ Try.underlying32 rfl (size_ks H4.out) ?_)
      refine (R3.out _ _ (Sq8.out.ch 4 rfl)).mono ?_; rintro e k9 ⟨rfl, hb⟩
      have Sq9 : Hid (Sep w k9 [rB bky ((vk num).cf Y), rB bkx ((vk num).cf X), rB bf (ks .u64 f), rB bkh (ks .u64 h), rC num 72 c v2 M, rB c2 (ks .u64 a2 ++ [Value.bool o2]), rB c1 (ks .u64 a1 ++ [Value.bool o1])]) := Sq8.out.below hb
      clear hb Sq8
      go_wp2_with (first | refine blk_alloc rfl 72 ((vk num).cf (vk num).none_) rfl info_vI ?_)
      intro k10a A B Z
      obtain ⟨bkp, HB_p⟩ : ∃ b, Hid (k9.heap.size = b) := ⟨_, rfl⟩
      go_wp2_with (first | refine blk_store rfl 72 _ _ rfl k9.heap.size rfl ((vk num).cf X) rfl _ A rfl HSX.out rfl ?_)
      intro k10 A9 U9
      have Sq10 : Hid (Sep w k10 [rB bkp ((vk num).cf X), rB bky ((vk num).cf Y), rB bkx ((vk num).cf X), rB bf (ks .u64 f), rB bkh (ks .u64 h), rC num 72 c v2 M, rB c2 (ks .u64 a2 ++ [Value.bool o2]), rB c1 (ks .u64 a1 ++ [Value.bool o1])]) := by
        show Sep _ _ _
        rw [← HB_p.out]
        exact Sep.fresh Sq9.out B Z U9 A9
      rw [HB_p.out]
      clear A B Z A9 U9 HB_p Sq9
      go_wp2_with (first | refine blk_load rfl 32 _ rfl bf rfl (ks .u64 f) (Sq10.out.blk 3 rfl) _ Try.underlying32 rfl (size_ks F4.out) ?_)
      refine (R4.out _ _ (Sq10.out.ch 5 rfl)).mono ?_; rintro e k11 ⟨rfl, hb⟩
      have Sq11 : Hid (Sep w k11 [rB bkp ((vk num).cf X), rB bky ((vk num).cf Y), rB bkx ((vk num).cf X), rB bf (ks .u64 f), rB bkh (ks .u64 h), rC num 72 c v2 M, rB c2 (ks .u64 a2 ++ [Value.bool o2]), rB c1 (ks .u64 a1 ++ [Value.bool o1])]) := Sq10.out.below hb
      clear hb Sq10
      go_wp2_with (first | refine blk_alloc rfl 72 ((vk num).cf (vk num).none_) rfl info_vI ?_)
      intro k12a A B Z
      obtain ⟨bkq, HB_q⟩ : ∃ b, Hid (k11.heap.size = b) := ⟨_, rfl⟩
      go_wp2_with (first | refine blk_store rfl 72 _ _ rfl k11.heap.size rfl ((vk num).cf Y) rfl _ A rfl HSX.out rfl ?_)
      intro k12 A9 U9
      have Sq12 : Hid (Sep w k12 [rB bkq ((vk num).cf Y), rB bkp ((vk num).cf X), rB bky ((vk num).cf Y), rB bkx ((vk num).cf X), rB bf (ks .u64 f), rB bkh (ks .u64 h), rC num 72 c v2 M, rB c2 (ks .u64 a2 ++ [Value.bool o2]), rB c1 (ks .u64 a1 ++ [Value.bool o1])]) := by
        show Sep _ _ _
        rw [← HB_q.out]
        exact Sep.fresh Sq11.out B Z U9 A9
      rw [HB_q.out]
      clear A B Z A9 U9 HB_q Sq11
      go_wp2_with (first | refine blk_load rfl 32 _ rfl bkh rfl (ks .u64 h) (Sq12.out.blk 5 rfl) _ Try.underlying32 rfl (size_ks H4.out) ?_)
      refine (CP2.out _ _ (Sq12.out.ch 6 rfl)).mono ?_; rintro e k13 ⟨v3, rfl, hc, ht, hn⟩
      have Sq13 : Hid (Sep w k13 [rB bkq ((vk num).cf Y), rB bkp ((vk num).cf X), rB bky ((vk num).cf Y), rB bkx ((vk num).cf X), rB bf (ks .u64 f), rB bkh (ks .u64 h), rC num 72 c v3 M, rB c2 (ks .u64 a2 ++ [Value.bool o2]), rB c1 (ks .u64 a1 ++ [Value.bool o1])]) := Sq12.out.chain 6 rfl hc ht hn
      clear hc ht hn Sq12
      go_wp2_with fail
      refine (CA.out _ _ (Sq13.out.ch 6 rfl)).mono ?_; rintro e k14 ⟨vA, rfl, ho, hb⟩
      obtain ⟨sA, cA, eA, _⟩ := ho.is.is
      rw [HMm.out] at eA
      subst eA
      obtain ⟨bA, HBA⟩ : ∃ b, Hid (k13.heap.size = b) := ⟨_, rfl⟩
      have Sq14 : Hid (Sep w k14 [rO (vk num) 72 bA (.slice sA m cA) M, rB bkq ((vk num).cf Y), rB bkp ((vk num).cf X), rB bky ((vk num).cf Y), rB bkx ((vk num).cf X), rB bf (ks .u64 f), rB bkh (ks .u64 h), rC num 72 c v3 M, rB c2 (ks .u64 a2 ++ [Value.bool o2]), rB c1 (ks .u64 a1 ++ [Value.bool o1])]) := by
        show Sep _ _ _
        rw [← HBA.out]
        exact Sq13.out.newrow hb ho
      clear ho hb HBA Sq13 CA CP CP2 R1 R2 R3 R4 CL1 CVh CVg CJ
      go_wp2_with fail
      go_loopw [25, 26] (fun sn k wk => ∃ (i cn : Nat), i ≤ m ∧ cn ≤ i ∧ sn = .int .i64 (cn : Int) ∧ k = .int .i64 (i : Int) ∧ Hid (((M.take i).filter (fun x => C.seen x.1 h)).length = cn) ∧ Hid (Sep w wk [rO (vk num) 72 bA (.slice sA m cA) M, rB bkq ((vk num).cf Y), rB bkp ((vk num).cf X), rB bky ((vk num).cf Y), rB bkx ((vk num).cf X), rB bf (ks .u64 f), rB bkh (ks .u64 h), rC num 72 c v3 M, rB c2 (ks .u64 a2 ++ [Value.bool o2]), rB c1 (ks .u64 a1 ++ [Value.bool o1])])) (fun _ k _ => m - (intOf k).toNat)
      case atStart => exact ⟨0, 0, by omega, by omega, rfl, rfl, by show _ = _; simp, Sq14⟩
      case round =>
        obtain ⟨i, cn, hiq, hcn, rfl, rfl, HCN, Sk⟩ := hrel
        clear Sq14
        by_cases hli : i < m
        · have i3 : (i : Int) < (m : Int) := by omega
          have hxi := C.getD_some (show i < M.length by rw [HMm.out]; exact hli) (vk num).none_
          have hx4 := HMUP.out.four _ (List.mem_of_getElem? hxi)
          have hstep := congrArg List.length (C.filter_take M (fun x => C.seen x.1 h) i _ hxi)
          rw [List.length_append, HCN.out] at hstep
          obtain ⟨gA, oA, cA', hv, hgA, hrow⟩ := IsR.at (Sk.out.or 0 rfl).is i (by rw [HMm.out]; exact hli)
          obtain rfl : sA = some ⟨gA, oA, none⟩ := by injection hv
          clear hv hxi
          have hprev := fun hp : 0 < i => up_at HMUP.out (i - 1) (by rw [HMm.out]; omega) (vk num).none_
          have hprow := fun hp : 0 < i => IsR.at (Sk.out.or 0 rfl).is (i - 1) (by rw [HMm.out]; omega)
          have hp4 := fun hp : 0 < i => HMUP.out.four _ (List.mem_of_getElem? (C.getD_some (show i - 1 < M.length by rw [HMm.out]; omega) (vk num).none_))
          obtain ⟨xx, HXX⟩ : ∃ x, Hid (M.getD i (vk num).none_ = x) := ⟨_, rfl⟩
          rw [HXX.out] at hrow hx4 hstep
          have hprev := fun hp : 0 < i => (show C.ord (M.getD (i - 1) (vk num).none_).1 xx.1 < 0 by have := hprev hp; rw [show i - 1 + 1 = i by omega, HXX.out] at this; exact this)
          clear HXX
          obtain ⟨s, y⟩ := xx
          dsimp only at hx4 hprev hstep
          obtain ⟨sq, HSQ⟩ : ∃ q, Hid (C.seen s h = q) := ⟨_, rfl⟩
          rw [HSQ.out] at hstep
          have HST := Lib.hid hstep
          have HRA : Hid (∀ u, Below wr.heap.size wr u → u.rangeAt gA (oA + 6 * i) (ks .u64 s.1 ++ [Value.int .i64 s.2])) := fun u hu k v hv => by
            rw [hu.cell (p := ⟨gA, oA + 6 * i + k, none⟩) hgA]
            exact row_stamp hrow hx4 k v hv
          have HRh : Hid (∀ u, Below wr.heap.size wr u → Blk u bkh (ks .u64 h)) := fun u hu => (Sk.out.below hu).blk 6 rfl
          have HSZ := Lib.hid (size_s (d := s.2) hx4)
          have HE : Hid (∀ u, Below wr.heap.size wr u → Calls Try.prog 29 [SV s.1 s.2, .agg (ks .u64 h).toArray].toArray u fun e u' => e = .returned (.bool sq) ∧ Below wr.heap.size wr u') := fun u hu => Calls.more hu (by have := sseen_any s.1 h s.2 u hx4 H4.out; rw [show V.leq s.1 h = sq from HSQ.out] at this; exact this)
          have hixa : ∀ w, (Instr.indexAt 80 (.slice (some ⟨gA, oA, none⟩) m cA) (.int .i64 (i : Int))).run Try.prog w = .ok (.pointer (some ⟨gA, oA + 6 * i, none⟩)) w := fun w => index_vI gA oA m cA i hli w
          clear hstep
          go_wp2_with fail
          refine region_w Try.mixed (by kernel_rfl) ?_
          refine w_move rfl _ rfl (.slice (some ⟨gA, oA, none⟩) m cA) rfl (fun K hK => ?_)
          go_simp
          refine hK _ ?_
          clear hK K
          refine w_move rfl _ rfl (.int .i64 (i : Int)) rfl (fun K hK => ?_)
          go_simp
          refine hK _ ?_
          clear hK K
          refine w_value rfl (.pointer (some ⟨gA, oA + 6 * i, none⟩)) (fun u hu => by have hs := hixa u; go_simp) (fun K hK => ?_)
          go_simp
          refine hK _ ?_
          clear hK K
          refine w_value rfl (.pointer (some ⟨gA, oA + 6 * i, none⟩)) (fun u hu => by go_simp) (fun K hK => ?_)
          go_simp
          refine hK _ ?_
          clear hK K
          refine w_mid_load rfl 34 _ rfl gA (oA + 6 * i) rfl (ks .u64 s.1 ++ [Value.int .i64 s.2]) (by exact HRA.out) _ Try.underlying34 rfl HSZ.out (fun K hK => ?_)
          go_simp
          refine hK _ ?_
          clear hK K
          refine w_blk_load rfl 32 _ rfl bkh rfl (ks .u64 h) (by exact HRh.out) _ Try.underlying32 rfl (size_ks H4.out) (fun K hK => ?_)
          go_simp
          refine hK _ ?_
          clear hK K
          refine w_call rfl 29 Try.f29 Try.func29 rfl rfl _ _ rfl [SV s.1 s.2, .agg (ks .u64 h).toArray] rfl (.bool sq) (by exact HE.out) (fun K hK => ?_)
          go_simp
          refine hK _ ?_
          clear hK K
          refine w_nil ?_
          intro u hu
          have S8 := Lib.hid (Sk.out.below hu)
          have HRA2 : Hid (∀ u', Below u.heap.size u u' → u'.rangeAt gA (oA + 6 * i) (ks .u64 s.1 ++ [Value.int .i64 s.2])) := fun u' hu' k v hv => by
            rw [hu'.cell (p := ⟨gA, oA + 6 * i + k, none⟩) (Nat.lt_of_lt_of_le hgA hu.size)]
            exact HRA.out u hu k v hv
          have HBU := Lib.hid hu
          clear hu HRA HRh Sk
          cases sq with
          | true =>
            have HCN2 : Hid (((M.take (i + 1)).filter (fun x => C.seen x.1 h)).length = cn + 1) := HST.out
            clear HST
            by_cases hp : 0 < i
            · have i6 : (0 : Int) < (i : Int) := by omega
              have k1 : IntKind.i64.wrap ((i : Int) - 1) = (i : Int) - 1 := by rw [IntKind.wrap_i64]; omega
              have hprev := hprev hp
              have hp4 := hp4 hp
              obtain ⟨gB, oB, cB, hv, hgB, hrowb⟩ := hprow hp
              obtain ⟨rfl, rfl⟩ : gA = gB ∧ oA = oB := by injection hv with h1; injection h1 with h1; injection h1 with h1 h2; exact ⟨h1, h2⟩
              clear hprow hv
              obtain ⟨pp, HPP⟩ : ∃ x, Hid (M.getD (i - 1) (vk num).none_ = x) := ⟨_, rfl⟩
              rw [HPP.out] at hrowb hp4 hprev
              clear HPP
              obtain ⟨p, zz⟩ := pp
              dsimp only at hp4 hprev
              obtain ⟨od, HOD⟩ : ∃ od, Hid (C.ord p s = od) := ⟨_, rfl⟩
              have XO : Hid (∀ u, Calls Try.prog 28 [SV p.1 p.2, SV s.1 s.2].toArray u fun e u' => e = .returned (.int .i64 od) ∧ Below u.heap.size u u') := fun u => by have := order_any p.1 s.1 p.2 s.2 u hp4 hx4; rw [show T.order p.1 p.2 s.1 s.2 = od from HOD.out] at this; exact this
              have XO2 : Hid (∀ u', Below u.heap.size u u' → Calls Try.prog 28 [SV p.1 p.2, SV s.1 s.2].toArray u' fun e u'' => e = .returned (.int .i64 od) ∧ Below u.heap.size u u'') := fun u' hu' => Calls.more hu' (XO.out u')
              rw [HOD.out] at hprev
              have hod : ¬ (0 ≤ od) := by omega
              obtain ⟨h1, HH1⟩ : ∃ h, Hid (i - 1 = h) := ⟨_, rfl⟩
              have hhq : h1 < m := by have := HH1.out; omega
              have hih : (i : Int) - 1 = (h1 : Int) := by have := HH1.out; omega
              rw [HH1.out] at hrowb
              have HRB : Hid (∀ u', Below u.heap.size u u' → u'.rangeAt gA (oA + 6 * h1) (ks .u64 p.1 ++ [Value.int .i64 p.2])) := fun u' hu' k v hv => by
                rw [hu'.cell (p := ⟨gA, oA + 6 * h1 + k, none⟩) (Nat.lt_of_lt_of_le hgB HBU.out.size), HBU.out.cell (p := ⟨gA, oA + 6 * h1 + k, none⟩) hgB]
                exact row_stamp hrowb hp4 k v hv
              have HSP := Lib.hid (size_s (d := p.2) hp4)
              have hixb : ∀ w, (Instr.indexAt 80 (.slice (some ⟨gA, oA, none⟩) m cA) (.int .i64 ((i : Int) - 1))).run Try.prog w = .ok (.pointer (some ⟨gA, oA + 6 * h1, none⟩)) w := fun w => by rw [hih]; exact index_vI gA oA m cA h1 hhq w
              clear hrow hrowb hprev hp4 hx4 hih hgA hgB HBU XO
              go_wp2_with fail
              refine region_w Try.mixed (by kernel_rfl) ?_
              refine w_move rfl _ rfl (.int .i64 (i : Int)) rfl (fun K hK => ?_)
              go_simp
              refine hK _ ?_
              clear hK K
              refine w_value rfl (.bool true) (fun u hu => by go_simp) (fun K hK => ?_)
              go_simp
              refine hK _ ?_
              clear hK K
              refine w_move rfl _ rfl (.bool true) rfl (fun K hK => ?_)
              go_simp
              refine hK _ ?_
              clear hK K
              refine wg_value (by rfl) (.slice (some ⟨gA, oA, none⟩) m cA) (fun u hu => by go_simp) (fun K hK => ?_)
              go_simp
              refine hK _ ?_
              clear hK K
              refine wg_value (by rfl) (.int .i64 (i : Int)) (fun u hu => by go_simp) (fun K hK => ?_)
              go_simp
              refine hK _ ?_
              clear hK K
              refine wg_value (by rfl) (.int .i64 ((i : Int) - 1)) (fun u hu => by have hs := k1; go_simp) (fun K hK => ?_)
              go_simp
              refine hK _ ?_
              clear hK K
              refine wg_value (by rfl) (.pointer (some ⟨gA, oA + 6 * h1, none⟩)) (fun u hu => by have hs := hixb u; go_simp) (fun K hK => ?_)
              go_simp
              refine hK _ ?_
              clear hK K
              refine wg_value (by rfl) (.pointer (some ⟨gA, oA + 6 * h1, none⟩)) (fun u hu => by go_simp) (fun K hK => ?_)
              go_simp
              refine hK _ ?_
              clear hK K
              refine wg_mid_load (by rfl) 34 _ rfl gA (oA + 6 * h1) rfl (ks .u64 p.1 ++ [Value.int .i64 p.2]) (by exact HRB.out) _ Try.underlying34 rfl HSP.out (fun K hK => ?_)
              go_simp
              refine hK _ ?_
              clear hK K
              refine wg_value (by rfl) (.slice (some ⟨gA, oA, none⟩) m cA) (fun u hu => by go_simp) (fun K hK => ?_)
              go_simp
              refine hK _ ?_
              clear hK K
              refine wg_value (by rfl) (.int .i64 (i : Int)) (fun u hu => by go_simp) (fun K hK => ?_)
              go_simp
              refine hK _ ?_
              clear hK K
              refine wg_value (by rfl) (.pointer (some ⟨gA, oA + 6 * i, none⟩)) (fun u hu => by have hs := hixa u; go_simp) (fun K hK => ?_)
              go_simp
              refine hK _ ?_
              clear hK K
              refine wg_value (by rfl) (.pointer (some ⟨gA, oA + 6 * i, none⟩)) (fun u hu => by go_simp) (fun K hK => ?_)
              go_simp
              refine hK _ ?_
              clear hK K
              refine wg_mid_load (by rfl) 34 _ rfl gA (oA + 6 * i) rfl (ks .u64 s.1 ++ [Value.int .i64 s.2]) (by exact HRA2.out) _ Try.underlying34 rfl HSZ.out (fun K hK => ?_)
              go_simp
              refine hK _ ?_
              clear hK K
              refine wg_call (by rfl) 28 Try.f28 Try.func28 rfl rfl _ _ rfl [SV p.1 p.2, SV s.1 s.2] rfl (.int .i64 od) (by exact XO2.out) (fun K hK => ?_)
              go_simp
              refine hK _ ?_
              clear hK K
              refine wg_value (by rfl) (.bool false) (fun u hu => by have hs := hod; go_simp) (fun K hK => ?_)
              go_simp
              refine hK _ ?_
              clear hK K
              refine w_value rfl (.bool false) (fun u hu => by go_simp) (fun K hK => ?_)
              go_simp
              refine hK _ ?_
              clear hK K
              refine w_nil ?_
              intro u2 hu2
              have S9 := Lib.hid (S8.out.below hu2)
              clear hu2 HRA2 HRB XO2 hixb HE hixa S8
              go_wp2_with fail
              go_roundw
              case rel => exact ⟨i + 1, cn + 1, by omega, by omega, by go_num, by go_num, HCN2, S9⟩
              case measure => simp [intOf]; omega
            · have i6 : ¬ ((0 : Int) < (i : Int)) := by omega
              clear hrow hprev hp4 hprow hx4 hgA HBU
              go_wp2_with fail
              refine region_w Try.mixed (by kernel_rfl) ?_
              refine w_move rfl _ rfl (.int .i64 (i : Int)) rfl (fun K hK => ?_)
              go_simp
              refine hK _ ?_
              clear hK K
              refine w_value rfl (.bool false) (fun u hu => by go_simp) (fun K hK => ?_)
              go_simp
              refine hK _ ?_
              clear hK K
              refine w_move rfl _ rfl (.bool false) rfl (fun K hK => ?_)
              go_simp
              refine hK _ ?_
              clear hK K
              refine w_skip 2 true (some false) rfl (by rfl) rfl (fun K hK => ?_)
              go_simp
              refine hK _ ?_
              clear hK K
              refine w_skip 2 true (some false) rfl (by rfl) rfl (fun K hK => ?_)
              go_simp
              refine hK _ ?_
              clear hK K
              refine w_skip 2 true (some false) rfl (by rfl) rfl (fun K hK => ?_)
              go_simp
              refine hK _ ?_
              clear hK K
              refine w_skip 2 true (some false) rfl (by rfl) rfl (fun K hK => ?_)
              go_simp
              refine hK _ ?_
              clear hK K
              refine w_skip 2 true (some false) rfl (by rfl) rfl (fun K hK => ?_)
              go_simp
              refine hK _ ?_
              clear hK K
              refine w_skip 2 true (some false) rfl (by rfl) rfl (fun K hK => ?_)
              go_simp
              refine hK _ ?_
              clear hK K
              refine w_skip 2 true (some false) rfl (by rfl) rfl (fun K hK => ?_)
              go_simp
              refine hK _ ?_
              clear hK K
              refine w_skip 2 true (some false) rfl (by rfl) rfl (fun K hK => ?_)
              go_simp
              refine hK _ ?_
              clear hK K
              refine w_skip 2 true (some false) rfl (by rfl) rfl (fun K hK => ?_)
              go_simp
              refine hK _ ?_
              clear hK K
              refine w_skip 2 true (some false) rfl (by rfl) rfl (fun K hK => ?_)
              go_simp
              refine hK _ ?_
              clear hK K
              refine w_skip 2 true (some false) rfl (by rfl) rfl (fun K hK => ?_)
              go_simp
              refine hK _ ?_
              clear hK K
              refine w_skip 2 true (some false) rfl (by rfl) rfl (fun K hK => ?_)
              go_simp
              refine hK _ ?_
              clear hK K
              refine w_skip 2 true (some false) rfl (by rfl) rfl (fun K hK => ?_)
              go_simp
              refine hK _ ?_
              clear hK K
              refine w_value rfl (.bool false) (fun u hu => by go_simp) (fun K hK => ?_)
              go_simp
              refine hK _ ?_
              clear hK K
              refine w_nil ?_
              intro u2 hu2
              have S9 := Lib.hid (S8.out.below hu2)
              clear hu2 HRA2  HE hixa S8
              go_wp2_with fail
              go_roundw
              case rel => exact ⟨i + 1, cn + 1, by omega, by omega, by go_num, by go_num, HCN2, S9⟩
              case measure => simp [intOf]; omega
          | false =>
            have HCN2 : Hid (((M.take (i + 1)).filter (fun x => C.seen x.1 h)).length = cn) := HST.out
            clear HST
            by_cases hp : 0 < i
            · have i6 : (0 : Int) < (i : Int) := by omega
              have k1 : IntKind.i64.wrap ((i : Int) - 1) = (i : Int) - 1 := by rw [IntKind.wrap_i64]; omega
              have hprev := hprev hp
              have hp4 := hp4 hp
              obtain ⟨gB, oB, cB, hv, hgB, hrowb⟩ := hprow hp
              obtain ⟨rfl, rfl⟩ : gA = gB ∧ oA = oB := by injection hv with h1; injection h1 with h1; injection h1 with h1 h2; exact ⟨h1, h2⟩
              clear hprow hv
              obtain ⟨pp, HPP⟩ : ∃ x, Hid (M.getD (i - 1) (vk num).none_ = x) := ⟨_, rfl⟩
              rw [HPP.out] at hrowb hp4 hprev
              clear HPP
              obtain ⟨p, zz⟩ := pp
              dsimp only at hp4 hprev
              obtain ⟨od, HOD⟩ : ∃ od, Hid (C.ord p s = od) := ⟨_, rfl⟩
              have XO : Hid (∀ u, Calls Try.prog 28 [SV p.1 p.2, SV s.1 s.2].toArray u fun e u' => e = .returned (.int .i64 od) ∧ Below u.heap.size u u') := fun u => by have := order_any p.1 s.1 p.2 s.2 u hp4 hx4; rw [show T.order p.1 p.2 s.1 s.2 = od from HOD.out] at this; exact this
              have XO2 : Hid (∀ u', Below u.heap.size u u' → Calls Try.prog 28 [SV p.1 p.2, SV s.1 s.2].toArray u' fun e u'' => e = .returned (.int .i64 od) ∧ Below u.heap.size u u'') := fun u' hu' => Calls.more hu' (XO.out u')
              rw [HOD.out] at hprev
              have hod : ¬ (0 ≤ od) := by omega
              obtain ⟨h1, HH1⟩ : ∃ h, Hid (i - 1 = h) := ⟨_, rfl⟩
              have hhq : h1 < m := by have := HH1.out; omega
              have hih : (i : Int) - 1 = (h1 : Int) := by have := HH1.out; omega
              rw [HH1.out] at hrowb
              have HRB : Hid (∀ u', Below u.heap.size u u' → u'.rangeAt gA (oA + 6 * h1) (ks .u64 p.1 ++ [Value.int .i64 p.2])) := fun u' hu' k v hv => by
                rw [hu'.cell (p := ⟨gA, oA + 6 * h1 + k, none⟩) (Nat.lt_of_lt_of_le hgB HBU.out.size), HBU.out.cell (p := ⟨gA, oA + 6 * h1 + k, none⟩) hgB]
                exact row_stamp hrowb hp4 k v hv
              have HSP := Lib.hid (size_s (d := p.2) hp4)
              have hixb : ∀ w, (Instr.indexAt 80 (.slice (some ⟨gA, oA, none⟩) m cA) (.int .i64 ((i : Int) - 1))).run Try.prog w = .ok (.pointer (some ⟨gA, oA + 6 * h1, none⟩)) w := fun w => by rw [hih]; exact index_vI gA oA m cA h1 hhq w
              clear hrow hrowb hprev hp4 hx4 hih hgA hgB HBU XO
              go_wp2_with fail
              refine region_w Try.mixed (by kernel_rfl) ?_
              refine w_move rfl _ rfl (.int .i64 (i : Int)) rfl (fun K hK => ?_)
              go_simp
              refine hK _ ?_
              clear hK K
              refine w_value rfl (.bool true) (fun u hu => by go_simp) (fun K hK => ?_)
              go_simp
              refine hK _ ?_
              clear hK K
              refine w_move rfl _ rfl (.bool true) rfl (fun K hK => ?_)
              go_simp
              refine hK _ ?_
              clear hK K
              refine wg_value (by rfl) (.slice (some ⟨gA, oA, none⟩) m cA) (fun u hu => by go_simp) (fun K hK => ?_)
              go_simp
              refine hK _ ?_
              clear hK K
              refine wg_value (by rfl) (.int .i64 (i : Int)) (fun u hu => by go_simp) (fun K hK => ?_)
              go_simp
              refine hK _ ?_
              clear hK K
              refine wg_value (by rfl) (.int .i64 ((i : Int) - 1)) (fun u hu => by have hs := k1; go_simp) (fun K hK => ?_)
              go_simp
              refine hK _ ?_
              clear hK K
              refine wg_value (by rfl) (.pointer (some ⟨gA, oA + 6 * h1, none⟩)) (fun u hu => by have hs := hixb u; go_simp) (fun K hK => ?_)
              go_simp
              refine hK _ ?_
              clear hK K
              refine wg_value (by rfl) (.pointer (some ⟨gA, oA + 6 * h1, none⟩)) (fun u hu => by go_simp) (fun K hK => ?_)
              go_simp
              refine hK _ ?_
              clear hK K
              refine wg_mid_load (by rfl) 34 _ rfl gA (oA + 6 * h1) rfl (ks .u64 p.1 ++ [Value.int .i64 p.2]) (by exact HRB.out) _ Try.underlying34 rfl HSP.out (fun K hK => ?_)
              go_simp
              refine hK _ ?_
              clear hK K
              refine wg_value (by rfl) (.slice (some ⟨gA, oA, none⟩) m cA) (fun u hu => by go_simp) (fun K hK => ?_)
              go_simp
              refine hK _ ?_
              clear hK K
              refine wg_value (by rfl) (.int .i64 (i : Int)) (fun u hu => by go_simp) (fun K hK => ?_)
              go_simp
              refine hK _ ?_
              clear hK K
              refine wg_value (by rfl) (.pointer (some ⟨gA, oA + 6 * i, none⟩)) (fun u hu => by have hs := hixa u; go_simp) (fun K hK => ?_)
              go_simp
              refine hK _ ?_
              clear hK K
              refine wg_value (by rfl) (.pointer (some ⟨gA, oA + 6 * i, none⟩)) (fun u hu => by go_simp) (fun K hK => ?_)
              go_simp
              refine hK _ ?_
              clear hK K
              refine wg_mid_load (by rfl) 34 _ rfl gA (oA + 6 * i) rfl (ks .u64 s.1 ++ [Value.int .i64 s.2]) (by exact HRA2.out) _ Try.underlying34 rfl HSZ.out (fun K hK => ?_)
              go_simp
              refine hK _ ?_
              clear hK K
              refine wg_call (by rfl) 28 Try.f28 Try.func28 rfl rfl _ _ rfl [SV p.1 p.2, SV s.1 s.2] rfl (.int .i64 od) (by exact XO2.out) (fun K hK => ?_)
              go_simp
              refine hK _ ?_
              clear hK K
              refine wg_value (by rfl) (.bool false) (fun u hu => by have hs := hod; go_simp) (fun K hK => ?_)
              go_simp
              refine hK _ ?_
              clear hK K
              refine w_value rfl (.bool false) (fun u hu => by go_simp) (fun K hK => ?_)
              go_simp
              refine hK _ ?_
              clear hK K
              refine w_nil ?_
              intro u2 hu2
              have S9 := Lib.hid (S8.out.below hu2)
              clear hu2 HRA2 HRB XO2 hixb HE hixa S8
              go_wp2_with fail
              go_roundw
              case rel => exact ⟨i + 1, cn, by omega, by omega, rfl, by go_num, HCN2, S9⟩
              case measure => simp [intOf]; omega
            · have i6 : ¬ ((0 : Int) < (i : Int)) := by omega
              clear hrow hprev hp4 hprow hx4 hgA HBU
              go_wp2_with fail
              refine region_w Try.mixed (by kernel_rfl) ?_
              refine w_move rfl _ rfl (.int .i64 (i : Int)) rfl (fun K hK => ?_)
              go_simp
              refine hK _ ?_
              clear hK K
              refine w_value rfl (.bool false) (fun u hu => by go_simp) (fun K hK => ?_)
              go_simp
              refine hK _ ?_
              clear hK K
              refine w_move rfl _ rfl (.bool false) rfl (fun K hK => ?_)
              go_simp
              refine hK _ ?_
              clear hK K
              refine w_skip 2 true (some false) rfl (by rfl) rfl (fun K hK => ?_)
              go_simp
              refine hK _ ?_
              clear hK K
              refine w_skip 2 true (some false) rfl (by rfl) rfl (fun K hK => ?_)
              go_simp
              refine hK _ ?_
              clear hK K
              refine w_skip 2 true (some false) rfl (by rfl) rfl (fun K hK => ?_)
              go_simp
              refine hK _ ?_
              clear hK K
              refine w_skip 2 true (some false) rfl (by rfl) rfl (fun K hK => ?_)
              go_simp
              refine hK _ ?_
              clear hK K
              refine w_skip 2 true (some false) rfl (by rfl) rfl (fun K hK => ?_)
              go_simp
              refine hK _ ?_
              clear hK K
              refine w_skip 2 true (some false) rfl (by rfl) rfl (fun K hK => ?_)
              go_simp
              refine hK _ ?_
              clear hK K
              refine w_skip 2 true (some false) rfl (by rfl) rfl (fun K hK => ?_)
              go_simp
              refine hK _ ?_
              clear hK K
              refine w_skip 2 true (some false) rfl (by rfl) rfl (fun K hK => ?_)
              go_simp
              refine hK _ ?_
              clear hK K
              refine w_skip 2 true (some false) rfl (by rfl) rfl (fun K hK => ?_)
              go_simp
              refine hK _ ?_
              clear hK K
              refine w_skip 2 true (some false) rfl (by rfl) rfl (fun K hK => ?_)
              go_simp
              refine hK _ ?_
              clear hK K
              refine w_skip 2 true (some false) rfl (by rfl) rfl (fun K hK => ?_)
              go_simp
              refine hK _ ?_
              clear hK K
              refine w_skip 2 true (some false) rfl (by rfl) rfl (fun K hK => ?_)
              go_simp
              refine hK _ ?_
              clear hK K
              refine w_skip 2 true (some false) rfl (by rfl) rfl (fun K hK => ?_)
              go_simp
              refine hK _ ?_
              clear hK K
              refine w_value rfl (.bool false) (fun u hu => by go_simp) (fun K hK => ?_)
              go_simp
              refine hK _ ?_
              clear hK K
              refine w_nil ?_
              intro u2 hu2
              have S9 := Lib.hid (S8.out.below hu2)
              clear hu2 HRA2  HE hixa S8
              go_wp2_with fail
              go_roundw
              case rel => exact ⟨i + 1, cn, by omega, by omega, rfl, by go_num, HCN2, S9⟩
              case measure => simp [intOf]; omega
        · obtain rfl : i = m := by omega
          have i3 : ¬ (i : Int) < (i : Int) := by omega
          have HCQ : Hid ((cn : Int) ≤ 1 ∧ ((cn : Int) == 1) = q) := by
            have h1 := HCN.out
            rw [List.take_of_length_le (by rw [HMm.out]; exact Nat.le_refl _), HMS.out] at h1
            have h2 := HQX.out
            cases hr : C.read L h with
            | none => rw [hr] at h1 h2; rw [← h1, ← h2]; exact ⟨by decide, rfl⟩
            | some b => rw [hr] at h1 h2; rw [← h1, ← h2]; exact ⟨(show ((1 : Nat) : Int) ≤ 1 by decide), rfl⟩
          have hc1 := HCQ.out.1
          have hc2 := HCQ.out.2
          have k1 : IntKind.i64.wrap ((nl : Int) - (i : Int)) = (nl : Int) - (i : Int) := by have := HLN.out; have := HML2.out; rw [IntKind.wrap_i64]; omega
          have hQX : Hid True := trivial
          have EX := Lib.hid (fun u => eql_vI X HX4.out u)
          have EY := Lib.hid (fun u => eql_vI Y HY4.out u)
          clear HCN HMS HQX HCQ
          go_wp2_with (first | refine blk_loadg rfl 72 _ rfl bkx rfl ((vk num).cf X) (Sk.out.blk 4 rfl) _ Try.underlying72 rfl HSX.out ?_ | refine blk_loadg rfl 72 _ rfl bkp rfl ((vk num).cf X) (Sk.out.blk 2 rfl) _ Try.underlying72 rfl HSX.out ?_ | refine blk_loadg rfl 72 _ rfl bky rfl ((vk num).cf Y) (Sk.out.blk 3 rfl) _ Try.underlying72 rfl HSX.out ?_ | refine blk_loadg rfl 72 _ rfl bkq rfl ((vk num).cf Y) (Sk.out.blk 1 rfl) _ Try.underlying72 rfl HSX.out ?_ | refine val_stepg rfl (.bool true) (run_eql _ .eql 72 72 _ _ ((vk num).val X) ((vk num).val X) _ rfl rfl rfl (guard_vI _ _ _ _ _ _ (.inl rfl)) (EX.out _)) ?_ | refine val_stepg rfl (.bool true) (run_eql _ .eql 72 72 _ _ ((vk num).val Y) ((vk num).val Y) _ rfl rfl rfl (guard_vI _ _ _ _ _ _ (.inl rfl)) (EY.out _)) ?_)
          refine (CL2.out _ _ (Sk.out.ch 7 rfl)).mono ?_; rintro e wl ⟨rfl, rfl⟩
          have HB9 := Lib.hid Sk.out.under
          clear Sk CL2
          go_wp2_with fail
          go_ret
          exact ⟨rfl, HB9.out⟩

set_option maxRecDepth 100000 in
theorem lifted (os : Os) (started : os.Started) (H : Type) (enc : TypeId × Value → H) :
    ReturnsInHanded {} Try.checked os 5 .any (Rows.chainPrunesSpec.pre6 enc Try.prog Try.f5 Rows.chainPrunesRow.domain false) (Rows.chainPrunesSpec.post enc Try.prog Try.f5 false true false false) := by
  refine returnsInHanded_of_change_sized (C := Try.checked) own started (by kernel_rfl) Try.func5
    (ChangeSpec.witness6 (enc := enc) (C := Try.checked) false ⟨#[], #[.slice none 0 0, .agg #[.int .u64 0, .int .u64 0, .int .u64 0, .int .u64 0, .bool false], .agg #[.int .u64 0, .int .u64 0, .int .u64 0, .int .u64 0, .bool false]], []⟩ 8 (by kernel_rfl) (by kernel_rfl) (by kernel_rfl) (by kernel_rfl)) ?_
  intro W base args ds gs before hval0 hW hcnd hsz0 _
  have hval : ∀ (j : Nat) t v, Try.f5.params[j]? = some t → args[j]? = some v → Value.okWide Try.prog W .any base t v := hval0
  have hW' := hW
  obtain ⟨p, q, hA0, hV, rfl, hfz, hnd⟩ := hW
  have hA : DataW.TrodAll enc Try.prog W 0 (fun _ => true) true Try.f5.params.toList args.toList ds p := hA0
  have hsz : (DataW.weightsEach Try.prog (Try.f5.params.toList ++ Rows.chainPrunesSpec.plain.varTypes Try.prog) (ds ++ gs)).all (· ≤ reachBytes) = true := hsz0
  rw [Try.params5] at hA hval hsz
  obtain ⟨rfl, rfl⟩ := trodVars_none hV
  have hAk := hA
  have hlt : ∀ x ∈ p, x.block < W.heap.size := fun x hx => by simpa using hW'.lt x (List.mem_append.2 (.inl hx))
  obtain ⟨v0, vs0, d0, ds0, p0, q0, hargs, rfl, rfl, h0, r0⟩ := trodAll_cons hA
  obtain ⟨v1, vs1, d1, ds1, p1, q1, rfl, rfl, rfl, h1, r1⟩ := trodAll_cons r0
  obtain ⟨v2, vs2, d2, ds2, p2, q2, rfl, rfl, rfl, h2, r2⟩ := trodAll_cons r1
  obtain ⟨rfl, rfl, rfl⟩ := trodAll_nil r2
  obtain rfl : args = #[v0, v1, v2] := by cases args; simp_all
  obtain ⟨a0, len0, cap0, rfl⟩ := okWide_slice Try.underlying65 (hval 0 65 v0 rfl rfl)
  obtain ⟨ML0, w0, m0⟩ := open_marks h0
  obtain ⟨a1, o1, rfl, w1⟩ := open_vector (hval 1 38 v1 rfl rfl) h1
  obtain ⟨a2, o2, rfl, w2⟩ := open_vector (hval 2 38 v2 rfl rfl) h2
  clear hA0 hval0 hsz0
  refine (walk (.slice a0 len0 cap0) ML0 a1 o1 a2 o2 m0 w1 w2 W w0).mono fun e W' ⟨he, hg⟩ => ?_
  subst he
  exact ⟨_, rfl, _, _, _, [], _, [], hW', (trodAll_cons_mk (shut_bool Try.underlying4 _) trodAll_mk0), trodAll_below laidOut hg _ _ _ _ (by kernel_rfl) hAk hlt, rfl, hg.frame _, fun h => by cases h⟩

theorem over : Rows.chainPrunesRow.holds Try.pinned (OpenSpec.ofChange Rows.chainPrunesSpec) :=
  OpenClaim.holds_of_wide 5 Try.f5 rfl rfl rfl rfl rfl rfl rfl ⟨rfl, rfl, rfl, rfl, rfl⟩ rfl rfl rfl rfl rfl (by kernel_rfl) Try.func5 (by kernel_rfl)
    (of_decide_eq_true (by kernel_rfl)) (by unfold Func.isWrapper; first | (rw [if_pos (by decide +kernel)]; kernel_rfl) | (rw [if_neg (by decide +kernel)]; exact ⟨rfl, rfl⟩))
    (fun os started H enc _ => lifted os started H enc)

/-- the statement -/
theorem proved : Rows.ChainPrunesSaid :=
  over
#print axioms proved

end Go.Proofs.Ytmajkapapbhabaa.chainPrunes
