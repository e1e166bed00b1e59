/-
  ChainOrder: added in whatever order, versions are read alike
-/
import Derived.Test.YtmajkapapbhabaaFrame

import Derived.Test.YtmajkapapbhabaaChainLaw2

import Derived.Deep.DeepCutAuto

import Derived.Test.YtmajkapapbhabaaFrameMarks

import Derived.Test.YtmajkapapbhabaaFrameVecN

namespace Go.Proofs.Ytmajkapapbhabaa.chainOrder

open Go.ChangeShapes Go.WideShapes Go.ChangeAt Go.RowKit

open Go.ChangeMaps (open_string shut_string)

open Go.Proofs.Ytmajkapapbhabaa.Vc Go.Proofs.Ytmajkapapbhabaa.Sp Go.Proofs.Ytmajkapapbhabaa.Rw Go.Proofs.Ytmajkapapbhabaa.Ch Go.Proofs.Ytmajkapapbhabaa.Se

set_option linter.unusedVariables false

set_option linter.unusedSimpArgs false

theorem slice_hi {t ts : TypeId} (he : Try.prog.elem ts = t) (hu : Try.prog.underlying ts = some (.slice t)) {k : Nat} (hs : ∀ w, (sizeOf t).run Try.prog w = .ok k w) (a : Option Addr) (n c i : Nat) (hi : i ≤ c) (w : World) :
    (Instr.sliceAt ts (.slice a n c) none (some (.int .i64 (i : Int))) none).run Try.prog w = .ok (.slice a i c) w := by
  rw [run_sliceAt_slice w _ _ _ _ _ (by rw [he]; exact hu), run_slice_h w _ _ _ _ (by rw [he]; exact hu) _ _ (by omega) (by omega), he, hs, Result.andThen_ok]
  unfold sliced
  cases a with
  | none => simp
  | some a => simp [Addr.add]
theorem at_small {a : List Nat} (h : V.right a = true) (d : Int) : V.at_ a d ≤ 1152921504606846976 := by
  unfold V.at_
  split
  · by_cases hi : (d - 1).toNat < a.length
    · rw [List.getD_eq_getElem?_getD, List.getElem?_eq_getElem hi]
      have := List.all_eq_true.1 h _ (List.getElem_mem hi)
      simpa using this
    · rw [List.getD_eq_getElem?_getD, List.getElem?_eq_none (by omega)]
      exact Nat.zero_le _
  · exact Nat.zero_le _
theorem adds_len (L : List (C.Vr Nat)) : (C.adds L).length ≤ L.length := by
  induction L using C.snoc_ind with
  | h0 => exact Nat.le_refl _
  | h1 L x ih =>
    rw [C.adds_snoc, C.add_len, List.length_append]
    split <;> simp <;> omega
/-- a stamp's own number -/
def own_n (s : C.St) : Nat := V.at_ s.1 s.2
def ver (s : C.St) : C.Vr Nat := (s, own_n s)
theorem adds_take (ms : List C.St) (i : Nat) (s : C.St) (h : ms[i]? = some s) : C.adds ((ms.take (i + 1)).map ver) = (C.add (C.adds ((ms.take i).map ver)) s (own_n s)).1 := by
  rw [List.take_add_one, h, List.map_append]
  exact C.adds_snoc _ _
theorem adds_drop (ms : List C.St) (i : Nat) (s : C.St) (h : ms[i]? = some s) : C.adds (((ms.drop i).reverse).map ver) = (C.add (C.adds (((ms.drop (i + 1)).reverse).map ver)) s (own_n s)).1 := by
  obtain ⟨hi, he⟩ := List.getElem?_eq_some_iff.1 h
  rw [List.drop_eq_getElem_cons hi, he, List.reverse_cons, List.map_append]
  exact C.adds_snoc _ _
theorem adds_rev (ms : List C.St) (h : ∀ s ∈ ms, C.right s = true ∧ s.1.length = 4) : C.adds ((ms.reverse).map ver) = C.adds (ms.map ver) :=
  C.adds_alike own_n ms.reverse ms (fun s hs => h s (List.mem_reverse.1 hs)) (fun s => List.mem_reverse)
theorem in_adds (ms : List C.St) (h : ∀ s ∈ ms, C.right s = true ∧ s.1.length = 4) {s : C.St} (hs : s ∈ ms) : ver s ∈ C.adds (ms.map ver) := (C.mem_adds own_n ms (fun s hs => (h s hs).1) _).2 ⟨s, hs, rfl⟩
theorem up_adds (ms : List C.St) (h : ∀ s ∈ ms, C.right s = true ∧ s.1.length = 4) : C.Up (C.adds (ms.map ver)) := C.Up.adds _ (fun x hx => by
  obtain ⟨s, hs, rfl⟩ := List.mem_map.1 hx
  exact (h s hs).2)
set_option maxHeartbeats 64000000 in
set_option maxRecDepth 100000 in
theorem walk (mv0 : Value) (ML0 : List Mk) (a1 : List Nat) (o1 : Bool) (m0 : ∀ x ∈ ML0, MOk x) (w1 : V.Ok a1) (w : World) (w0 : Rw.IsR mkd w mv0 ML0) :
    Calls Try.prog 4 #[mv0, VV a1 o1] w fun e w' => e = .returned (.bool true) ∧ Below w.heap.size w w' := by
  have HMO : Hid (∀ x ∈ ML0, MOk x) := m0
  have HM0 : Hid (IsR mkd w mv0 ML0) := w0
  obtain ⟨sa, cap, rfl, hca, _, _⟩ := w0.is
  obtain ⟨k, hk⟩ : ∃ k : Nat, k = min ML0.length 20 := ⟨_, rfl⟩
  have hk1 : k ≤ ML0.length := by omega
  have hk2 : k ≤ 20 := by omega
  have hmin : min (ML0.length : Int) 20 = (k : Int) := by omega
  have hsl : ∀ w, (Instr.sliceAt 65 (.slice sa ML0.length cap) none (some (.int .i64 (k : Int))) none).run Try.prog w = .ok (.slice sa k cap) w := fun w => slice_hi elem_mk Try.underlying65 Try.sizeOf36 sa _ cap k (by omega) w
  have HML : Hid (IsR mkd w (.slice sa k cap) (ML0.take k)) := IsR.take w0 k hk1
  have HMK : Hid ((ML0.take k).length = k) := by show _ = _; rw [List.length_take]; omega
  have HMO : Hid (∀ x ∈ ML0.take k, MOk x) := fun x hx => HMO.out x (List.mem_of_mem_take hx)
  obtain ⟨MK, HMKe⟩ : ∃ l, Hid (ML0.take k = l) := ⟨_, rfl⟩
  rw [HMKe.out] at HML HMK HMO
  have hk20 : k = ML0.length ∨ k = 20 ∧ 20 < ML0.length := by omega
  have hkn : 20 < ML0.length → k = 20 := by omega
  have hkn2 : ¬ 20 < ML0.length → k = ML0.length := by omega
  clear HMKe HM0 w0 m0 hk hk1 hca hk20
  generalize ML0.length = n at *
  have HV1 := Lib.hid w1.len
  obtain ⟨h, h4, hvh⟩ := vec_any a1 o1 w1
  have CVh := Lib.hid hvh
  have H4 := Lib.hid h4
  have HSV1 : Hid ((Try.prog.info? 38).map (·.size) = some (ks .u64 a1 ++ [Value.bool o1]).length) := by show _ = _; rw [List.length_append, ks_length, HV1.out]; exact Try.size_vv
  clear w1 hvh h4
  go_enter Try.func4, Try.ntmps4
  go_wp2_with (first | refine blk_box rfl 38 _ rfl (ks .u64 a1 ++ [Value.bool o1]) rfl ?_)
  intro u1 A1 B1 Z1
  obtain ⟨c1, HC1⟩ : ∃ c, Hid (w.heap.size = c) := ⟨_, rfl⟩
  have S1 : Hid (Sep w u1 [rB c1 (ks .u64 a1 ++ [Value.bool o1])]) := by show Sep _ _ _; rw [← HC1.out]; exact (Sep.start w).box B1 Z1 A1
  clear A1 B1 Z1
  rw [HC1.out]
  go_wp2_with fail
  refine (examples_any _).mono ?_; rintro e u3 ⟨rfl, hb⟩
  have S3 := Lib.hid (S1.out.below hb)
  clear hb S1
  go_wp2_with fail
  refine (newI _).mono ?_; rintro e u4 ⟨rfl, hc, hb⟩
  obtain ⟨ca, HCa⟩ : ∃ c, Hid (u3.heap.size = c) := ⟨_, rfl⟩
  have S4 : Hid (Sep w u4 [rC num 72 ca (.slice none 0 0) [], rB c1 (ks .u64 a1 ++ [Value.bool o1])]) := by
    show Sep _ _ _
    rw [← HCa.out]
    exact S3.out.newchain hb hc
  rw [HCa.out]
  clear hc hb S3 HCa
  go_wp2_with fail
  refine (newI _).mono ?_; rintro e u5 ⟨rfl, hc, hb⟩
  obtain ⟨cb, HCb⟩ : ∃ c, Hid (u4.heap.size = c) := ⟨_, rfl⟩
  have S5 : Hid (Sep w u5 [rO stk 34 w.heap.size (.slice none 0 0) [], rC num 72 cb (.slice none 0 0) [], rC num 72 ca (.slice none 0 0) [], rB c1 (ks .u64 a1 ++ [Value.bool o1])]) := by
    show Sep _ _ _
    rw [← HCb.out]
    exact (S4.out.newchain hb hc).nilrow stk 34 w.heap.size
  rw [HCb.out]
  clear hc hb S4 HCb
  go_upto_region 8 with fail
  go_cut [0] (fun x wx => x = .slice sa k cap ∧ wx = u5)
  case first =>
    by_cases h20 : 20 < n
    · have hm : k = 20 := by omega
      have hsl20 : ∀ w, (Instr.sliceAt 65 (.slice sa n cap) none (some (.int .i64 20)) none).run Try.prog w = .ok (.slice sa 20 cap) w := fun w => by have := hsl w; rw [hm] at this; exact this
      subst hm
      clear hsl hmin
      go_wp2_with fail
      go_meet
      exact ⟨rfl, rfl⟩
    · have hm : k = n := by omega
      subst hm
      clear hmin
      go_wp2_with fail
      go_meet
      exact ⟨rfl, rfl⟩
  case rest =>
  obtain ⟨rfl, rfl⟩ := hcut
  clear hmin hsl
  go_wp2_with fail
  go_loopw [8, 9] (fun va i wr => ∃ (j : Nat) (ms : List C.St), j ≤ k ∧ i = .int .i64 (j : Int) ∧ Hid (ms.length = j) ∧ Hid (∀ s ∈ ms, C.right s = true ∧ s.1.length = 4) ∧ Hid (Sep w wr [rO stk 34 w.heap.size va ms, rC num 72 cb (.slice none 0 0) [], rC num 72 ca (.slice none 0 0) [], rB c1 (ks .u64 a1 ++ [Value.bool o1])])) (fun _ i _ => k - (intOf i).toNat)
  case atStart => exact ⟨0, [], by omega, rfl, rfl, (fun s hs => by cases hs), S5⟩
  case round =>
    obtain ⟨j, ms, hjk, rfl, HJ, HR, Sr⟩ := hrel
    clear S5
    obtain ⟨sv, cv, ev, _⟩ := (Sr.out.or 0 rfl).is.is
    rw [HJ.out] at ev
    subst ev
    by_cases hlt : j < k
    · have i1 : (j : Int) < (k : Int) := by omega
      obtain ⟨g, off, cap', hv, hg0, hrow⟩ := IsR.at HML.out j (by rw [HMK.out]; exact hlt)
      obtain rfl : sa = some ⟨g, off, none⟩ := by injection hv
      have hmem := List.mem_of_getElem? (C.getD_some (show j < MK.length by rw [HMK.out]; exact hlt) mkd.none_)
      have hxo := HMO.out _ hmem
      obtain ⟨x, HX⟩ : ∃ x, Hid (MK.getD j mkd.none_ = x) := ⟨_, rfl⟩
      rw [HX.out] at hrow hxo
      have HXO := Lib.hid hxo
      have HROW : Hid (wr.rangeAt g (off + 6 * j) (mkd.cf x)) := fun k u hu => by rw [Sr.out.under.cell (p := ⟨g, off + 6 * j + k, none⟩) hg0]; exact hrow k u hu
      have hix : ∀ w, (Instr.indexAt 65 (.slice (some ⟨g, off, none⟩) k cap) (.int .i64 (j : Int))).run Try.prog w = .ok (.pointer (some ⟨g, off + 6 * j, none⟩)) w := fun w => index_mk g off k cap j hlt w
      clear hv hrow hmem HX hxo
      go_wp2_with (first | refine wpList_load_mid rfl 36 _ rfl g (off + 6 * j) rfl (mkd.cf x) _ HROW.out Try.underlying36 rfl size_mk ?_ | refine blk_alloc rfl 36 (mkd.cf mkd.none_) rfl info_mk ?_)
      intro w4 A B Z
      obtain ⟨bm, HBM⟩ : ∃ b, Hid (wr.heap.size = b) := ⟨_, rfl⟩
      go_wp2_with (first | refine blk_store rfl 36 _ _ rfl wr.heap.size rfl (mkd.cf x) rfl _ A rfl size_mk rfl ?_)
      intro w5 A9 U9
      rw [mk_cf HXO.out.v.len] at A9
      obtain ⟨⟨xl, xd⟩, xo⟩ := x
      have S5 : Hid (Sep w w5 [rB bm (ks .u64 xl ++ [Value.int .i64 xd, Value.bool xo]), rO stk 34 w.heap.size (.slice sv j cv) ms, rC num 72 cb (.slice none 0 0) [], rC num 72 ca (.slice none 0 0) [], rB c1 (ks .u64 a1 ++ [Value.bool o1])]) := by
        show Sep _ _ _
        rw [← HBM.out]
        exact Sep.fresh Sr.out B Z U9 A9
      rw [HBM.out]
      clear A B Z A9 U9 Sr HBM HROW hix
      have HLX : Hid (xl.length = 4) := HXO.out.v.len
      obtain ⟨co, fo⟩ := own_at (S5.out.blk 0 rfl) HLX.out
      have S6 : Hid (Sep w (w5.setCell ⟨bm, 5, none⟩ (.bool true)) [rB bm (ks .u64 xl ++ [Value.int .i64 xd, Value.bool true]), rO stk 34 w.heap.size (.slice sv j cv) ms, rC num 72 cb (.slice none 0 0) [], rC num 72 ca (.slice none 0 0) [], rB c1 (ks .u64 a1 ++ [Value.bool o1])]) := S5.out.upd 0 rfl (Upd.setCell _ _ _ _) (own_set (S5.out.blk 0 rfl) HLX.out true)
      have HBM6 := Lib.hid (S6.out.blk 0 rfl)
      have CM : Hid (∀ u, Calls Try.prog 9 #[.agg (ks .u64 xl ++ [Value.int .i64 xd, Value.bool true]).toArray] u fun e u' => e = .returned (SV (T.mark xl xd true).1 (T.mark xl xd true).2) ∧ Below u.heap.size u u') := fun u => mark_any xl xd true u HXO.out.v HXO.out.d
      have hs4 : (T.mark xl xd true).1.length = 4 := (T.mark_ok HXO.out.v xd true).len
      have hsr : C.right (T.mark xl xd true) = true := T.mark_right HLX.out xd
      obtain ⟨s, HS⟩ : ∃ s : C.St, Hid (T.mark xl xd true = s) := ⟨_, rfl⟩
      rw [HS.out] at CM hs4 hsr
      obtain ⟨l, e0⟩ := s
      dsimp only at hs4 CM
      obtain ⟨b0, b1, b2, b3, rfl⟩ := V.four hs4
      have HSR := Lib.hid hsr
      have CM : Hid (∀ u, Calls Try.prog 9 #[.agg (ks .u64 xl ++ [Value.int .i64 xd, Value.bool true]).toArray] u fun e u' => e = .returned (.agg #[.int .u64 (b0 : Int), .int .u64 (b1 : Int), .int .u64 (b2 : Int), .int .u64 (b3 : Int), .int .i64 e0]) ∧ Below u.heap.size u u') := CM
      clear HXO HS S5 hs4 hsr
      go_wp2_with (first | refine blk_load rfl 36 _ rfl bm rfl (ks .u64 xl ++ [Value.int .i64 xd, Value.bool true]) HBM6.out _ Try.underlying36 rfl (size_m HLX.out) ?_)
      clear co fo HBM6
      refine (CM.out _).mono ?_; rintro e w8 ⟨rfl, hb⟩
      have S8 := Lib.hid (S6.out.below hb).tail
      clear hb S6 CM
      have hB9 : Below w8.heap.size w8 (w8.alloc (.cells #[.int .u64 (b0 : Int), .int .u64 (b1 : Int), .int .u64 (b2 : Int), .int .u64 (b3 : Int), .int .i64 e0] 34)) := (Below.refl _ _).alloc (Nat.le_refl _) _
      have S9 := S8.out.below hB9
      have hX9 : (w8.alloc (.cells #[.int .u64 (b0 : Int), .int .u64 (b1 : Int), .int .u64 (b2 : Int), .int .u64 (b3 : Int), .int .i64 e0] 34)).heap[w8.heap.size]? = some (.cells (stk.cf (([b0, b1, b2, b3], e0) : C.St)).toArray 34 (0, 0)) := heap_alloc_last w8 _
      obtain ⟨v9, w9, hr, ho, hg, hnw⟩ := run_append_one (K := stk) 68 Try.underlying68 inf_st zc_st _ w.heap.size _ ms (S9.or 0 rfl) w8.heap.size 0 1 1 [(([b0, b1, b2, b3], e0) : C.St)] (IsR.one (Blk.of_row hX9) (Array.getElem?_eq_some_iff.1 hX9).1) (by simp) (by rw [HJ.out]; simp; omega) (by omega) S9.size
      have HRn := Lib.hid hr
      have S10 : Hid (Sep w w9 [rO stk 34 w.heap.size v9 (ms ++ [(([b0, b1, b2, b3], e0) : C.St)]), rC num 72 cb (.slice none 0 0) [], rC num 72 ca (.slice none 0 0) [], rB c1 (ks .u64 a1 ++ [Value.bool o1])]) := S9.row 0 rfl ho hg hnw
      have HJ' : Hid ((ms ++ [(([b0, b1, b2, b3], e0) : C.St)]).length = j + 1) := by show _ = _; rw [List.length_append, HJ.out]; rfl
      have HR' : Hid (∀ s ∈ ms ++ [(([b0, b1, b2, b3], e0) : C.St)], C.right s = true ∧ s.1.length = 4) := fun s hs => by
        rcases List.mem_append.1 hs with h | h
        · exact HR.out s h
        · rw [List.mem_singleton.1 h]; exact ⟨HSR.out, rfl⟩
      clear hr ho hg hnw hX9 S9 hB9 S8
      go_wp2_with (first | (at_builtin; refine append_step rfl _ _ _ _ rfl rfl rfl HRn.out ?_))
      go_roundw
      case rel => exact ⟨j + 1, _, by omega, by go_num, HJ', HR', S10⟩
      case measure => simp [intOf]; omega
    · obtain rfl : j = k := by omega
      have i1 : ¬ (j : Int) < (j : Int) := by omega
      go_wp2_with fail
      obtain ⟨k, hkj⟩ : ∃ k, k = j := ⟨_, rfl⟩
      obtain rfl := hkj
      clear i1 hlt hjk HML HMK HMO
      go_loopw [11] (fun x wr => ∃ (i : Nat) (v : Value), i ≤ k ∧ x = .int .i64 (i : Int) ∧ Hid (Sep w wr [rO stk 34 w.heap.size (.slice sv k cv) ms, rC num 72 cb (.slice none 0 0) [], rC num 72 ca v (C.adds ((ms.take i).map ver)), rB c1 (ks .u64 a1 ++ [Value.bool o1])])) (fun x _ => k - (intOf x).toNat)
      case atStart => exact ⟨0, _, by omega, rfl, Sr⟩
      case round =>
        obtain ⟨i, v, hik, rfl, Sr2⟩ := hrel
        clear Sr
        have Sr := Sr2
        clear Sr2
        by_cases hli : i < k
        · have i1 : (i : Int) < (k : Int) := by omega
          obtain ⟨gm, om, cm, hv, hgm, hrow⟩ := IsR.at (Sr.out.or 0 rfl).is i (by rw [HJ.out]; exact hli)
          obtain rfl : sv = some ⟨gm, om, none⟩ := by injection hv
          have hyi := C.getD_some (show i < ms.length by rw [HJ.out]; exact hli) stk.none_
          have hmem := List.mem_of_getElem? hyi
          have hrs := HR.out _ hmem
          obtain ⟨s, HSs⟩ : ∃ y, Hid (ms.getD i stk.none_ = y) := ⟨_, rfl⟩
          rw [HSs.out] at hrow hyi hmem hrs
          rw [stk_cf hrs.2] at hrow
          have HSY := Lib.hid (size_s (d := s.2) hrs.2)
          have hix : ∀ w, (Instr.indexAt 68 (.slice (some ⟨gm, om, none⟩) k cv) (.int .i64 (i : Int))).run Try.prog w = .ok (.pointer (some ⟨gm, om + 5 * i, none⟩)) w := fun w => index_st gm om k cv i hli w
          have HROW : Hid (∀ u, Below wr.heap.size wr u → u.rangeAt gm (om + 5 * i) (ks .u64 s.1 ++ [Value.int .i64 s.2])) := fun u hu k v hv => by
            rw [hu.cell (p := ⟨gm, om + 5 * i + k, none⟩) hgm]
            exact hrow k v hv
          clear hv hrow HSs hgm
          have HLS := Lib.hid (adds_take ms i s hyi)
          have HLN : Hid ((C.adds ((ms.take i).map ver)).length < 1000) := by
            have := adds_len ((ms.take i).map ver)
            rw [List.length_map, List.length_take, HJ.out] at this
            show _ < _
            omega
          obtain ⟨LL, HLL⟩ : ∃ l, Hid ((C.adds ((ms.take i).map ver)) = l) := ⟨_, rfl⟩
          rw [HLL.out] at HLS HLN Sr
          clear HLL
          obtain ⟨y, HY⟩ : ∃ y, Hid (own_n s = y) := ⟨_, rfl⟩
          have hys : y ≤ 1152921504606846976 := by rw [← HY.out]; exact at_small (T.right_known hrs.1).1 s.2
          have kw : IntKind.i64.wrap (y : Int) = (y : Int) := by rw [IntKind.wrap_i64]; omega
          have CN : Hid (∀ u, Calls Try.prog 24 [.agg (ks .u64 s.1 ++ [Value.int .i64 s.2]).toArray].toArray u fun e u' => e = .returned (.int .u64 (y : Int)) ∧ Below u.heap.size u u') := fun u => by
            have := sn_any s.1 s.2 u hrs.2
            rw [show V.at_ s.1 s.2 = y from HY.out] at this
            exact this
          have CAd : Hid (∀ u, Ch num 72 u ca v LL → Calls Try.prog 23 #[.pointer (some ⟨ca, 0, none⟩), .agg (ks .u64 s.1 ++ [Value.int .i64 s.2]).toArray, .int .i64 (y : Int)] u fun e w' => ∃ v', e = .returned (.bool (C.add LL s y).2) ∧ Ch num 72 w' ca v' (C.adds ((ms.take (i + 1)).map ver)) ∧ Tw ca v.ownBlock u w' ∧ Nw u v v') := fun u hu => by
            rw [HLS.out, HY.out]
            exact addI ca v LL s y u hu hrs.2 HLN.out
          obtain ⟨bo, HBO⟩ : ∃ bo, Hid ((C.add LL s y).2 = bo) := ⟨_, rfl⟩
          rw [HBO.out] at CAd
          clear HBO
          clear HLS HLN
          go_wp2_with fail
          refine region_relt 11 [Spc.eq (.pointer (some ⟨ca, 0, none⟩)), Spc.eq (.slice (some ⟨gm, om, none⟩) k cv), Spc.eq (.int .i64 (i : Int)), Spc.eq (.pointer (some ⟨gm, om + 5 * i, none⟩)), Spc.eq (.agg (ks .u64 s.1 ++ [Value.int .i64 s.2]).toArray), Spc.eq (.slice (some ⟨gm, om, none⟩) k cv), Spc.eq (.int .i64 (i : Int)), Spc.eq (.pointer (some ⟨gm, om + 5 * i, none⟩)), Spc.eq (.agg (ks .u64 s.1 ++ [Value.int .i64 s.2]).toArray), Spc.eq (.int .u64 (y : Int)), Spc.eq (.int .i64 (y : Int))] Try.mixed (by kernel_rfl) ?_
          refine r_move rfl _ rfl rfl (fun K hK => ?_)
          go_simp
          refine hK _ ?_
          clear hK K
          refine r_move rfl _ rfl rfl (fun K hK => ?_)
          go_simp
          refine hK _ ?_
          clear hK K
          refine r_move rfl _ rfl rfl (fun K hK => ?_)
          go_simp
          refine hK _ ?_
          clear hK K
          refine r_value rfl (fun u hu hn => by have hs := hix u; go_simp) (fun K hK => ?_)
          go_simp
          refine hK _ ?_
          clear hK K
          refine r_blk_load rfl 34 _ rfl gm (om + 5 * i) rfl (by intro u hu hn; exact HROW.out u hu) _ Try.underlying34 rfl HSY.out (fun K hK => ?_)
          go_simp
          refine hK _ ?_
          clear hK K
          refine r_move rfl _ rfl rfl (fun K hK => ?_)
          go_simp
          refine hK _ ?_
          clear hK K
          refine r_move rfl _ rfl rfl (fun K hK => ?_)
          go_simp
          refine hK _ ?_
          clear hK K
          refine r_value rfl (fun u hu hn => by have hs := hix u; go_simp) (fun K hK => ?_)
          go_simp
          refine hK _ ?_
          clear hK K
          refine r_blk_load rfl 34 _ rfl gm (om + 5 * i) rfl (by intro u hu hn; exact HROW.out u hu) _ Try.underlying34 rfl HSY.out (fun K hK => ?_)
          go_simp
          refine hK _ ?_
          clear hK K
          refine r_callv rfl 24 Try.f24 Try.func24 rfl rfl _ _ rfl [.agg (ks .u64 s.1 ++ [Value.int .i64 s.2]).toArray] rfl (by intro u hu hn; exact CN.out u) (fun K hK => ?_)
          go_simp
          refine hK _ ?_
          clear hK K
          refine r_value rfl (fun u hu hn => by have hs := kw; go_simp) (fun K hK => ?_)
          go_simp
          refine hK _ ?_
          clear hK K
          refine r_nil ?_
          intro u hu hF
          have S7 := Lib.hid (Sr.out.below hu)
          clear hF hu Sr HROW hix CN kw hyi hmem hrs
          go_wp2_with (first | (go_at_call 23; refine (CAd.out _ (S7.out.ch 2 rfl)).mono ?_; rintro e w8 ⟨v8, rfl, hc, ht, hn⟩))
          have S8 := Lib.hid (S7.out.chain 2 rfl hc ht hn)
          clear hc ht hn S7 CAd
          go_wp2_with fail
          go_roundw
          case rel => exact ⟨i + 1, v8, by omega, by go_num, S8⟩
          case measure => simp [intOf]; omega
        · obtain rfl : i = k := by omega
          have i1 : ¬ (i : Int) < (i : Int) := by omega
          rw [List.take_of_length_le (by rw [HJ.out]; exact Nat.le_refl _)] at Sr
          obtain ⟨LA, HLA⟩ : ∃ l, Hid (C.adds (ms.map ver) = l) := ⟨_, rfl⟩
          rw [HLA.out] at Sr
          have HUP : Hid (C.Up LA) := by show C.Up _; rw [← HLA.out]; exact up_adds ms HR.out
          have HIN : Hid (∀ s ∈ ms, ver s ∈ LA) := fun s hs => by rw [← HLA.out]; exact in_adds ms HR.out hs
          have HLL : Hid (LA.length < 1000) := by
            have := adds_len (ms.map ver)
            rw [HLA.out, List.length_map, HJ.out] at this
            show _ < _
            omega
          have HLP : Hid (decide (0 < LA.length) = decide (0 < i)) := by
            show _ = _
            rw [decide_eq_decide, ← HLA.out]
            constructor
            · intro h9
              have := adds_len (ms.map ver)
              rw [List.length_map, HJ.out] at this
              omega
            · intro h9
              obtain ⟨s, hs⟩ := List.exists_mem_of_length_pos (by rw [HJ.out]; exact h9 : 0 < ms.length)
              exact List.length_pos_of_mem (HLA.out ▸ HIN.out s hs)
          have k0 : IntKind.i64.wrap ((i : Int) - 1) = (i : Int) - 1 := by rw [IntKind.wrap_i64]; omega
          go_wp2_with fail
          clear i1 hli hik k0
          obtain ⟨k, hki⟩ : ∃ k, k = i := ⟨_, rfl⟩
          obtain rfl := hki
          go_loopw [12] (fun x wr => ∃ (i : Nat) (v1 : Value) (z : Int), i ≤ k ∧ x = .int .i64 z ∧ Hid (z = (i : Int) - 1) ∧ Hid (Sep w wr [rO stk 34 w.heap.size (.slice sv k cv) ms, rC num 72 cb v1 (C.adds (((ms.drop i).reverse).map ver)), rC num 72 ca v LA, rB c1 (ks .u64 a1 ++ [Value.bool o1])])) (fun x _ => (intOf x + 1).toNat)
          case atStart => exact ⟨k, _, _, by omega, rfl, rfl, by
            show Sep _ _ _
            rw [List.drop_of_length_le (by rw [HJ.out]; exact Nat.le_refl _)]
            exact Sr.out⟩
          case round =>
            obtain ⟨i, v1, z, hik, rfl, HZ, Sr2⟩ := hrel
            clear Sr
            have Sr := Sr2
            clear Sr2
            cases i with
            | succ i =>
              obtain rfl : z = (i : Int) := by have := HZ.out; omega
              have hli : i < k := by omega
              have i1 : (0 : Int) ≤ (i : Int) := by omega
              have k1 : IntKind.i64.wrap ((i : Int) - 1) = (i : Int) - 1 := by rw [IntKind.wrap_i64]; omega
              obtain ⟨va, HVA⟩ : ∃ va, Hid (v = va) := ⟨_, rfl⟩
              rw [HVA.out] at Sr
              obtain ⟨vb, HVB⟩ : ∃ vb, Hid (v1 = vb) := ⟨_, rfl⟩
              clear HZ
              obtain ⟨gm, om, cm, hv, hgm, hrow⟩ := IsR.at (Sr.out.or 0 rfl).is i (by rw [HJ.out]; exact hli)
              obtain rfl : sv = some ⟨gm, om, none⟩ := by injection hv
              have hyi := C.getD_some (show i < ms.length by rw [HJ.out]; exact hli) stk.none_
              have hmem := List.mem_of_getElem? hyi
              have hrs := HR.out _ hmem
              obtain ⟨s, HSs⟩ : ∃ y, Hid (ms.getD i stk.none_ = y) := ⟨_, rfl⟩
              rw [HSs.out] at hrow hyi hmem hrs
              rw [stk_cf hrs.2] at hrow
              have HSY := Lib.hid (size_s (d := s.2) hrs.2)
              have hix : ∀ w, (Instr.indexAt 68 (.slice (some ⟨gm, om, none⟩) k cv) (.int .i64 (i : Int))).run Try.prog w = .ok (.pointer (some ⟨gm, om + 5 * i, none⟩)) w := fun w => index_st gm om k cv i hli w
              have HROW : Hid (∀ u, Below wr.heap.size wr u → u.rangeAt gm (om + 5 * i) (ks .u64 s.1 ++ [Value.int .i64 s.2])) := fun u hu k v hv => by
                rw [hu.cell (p := ⟨gm, om + 5 * i + k, none⟩) hgm]
                exact hrow k v hv
              clear hv hrow HSs hgm
              have HLS := Lib.hid (adds_drop ms i s hyi)
              have HLN : Hid ((C.adds (((ms.drop (i + 1)).reverse).map ver)).length < 1000) := by
                have := adds_len (((ms.drop (i + 1)).reverse).map ver)
                rw [List.length_map, List.length_reverse, List.length_drop, HJ.out] at this
                show _ < _
                omega
              obtain ⟨LL, HLL⟩ : ∃ l, Hid (C.adds (((ms.drop (i + 1)).reverse).map ver) = l) := ⟨_, rfl⟩
              rw [HLL.out] at HLS HLN Sr
              clear HLL
              obtain ⟨y, HY⟩ : ∃ y, Hid (own_n s = y) := ⟨_, rfl⟩
              have hys : y ≤ 1152921504606846976 := by rw [← HY.out]; exact at_small (T.right_known hrs.1).1 s.2
              have kw : IntKind.i64.wrap (y : Int) = (y : Int) := by rw [IntKind.wrap_i64]; omega
              have CN : Hid (∀ u, Calls Try.prog 24 [.agg (ks .u64 s.1 ++ [Value.int .i64 s.2]).toArray].toArray u fun e u' => e = .returned (.int .u64 (y : Int)) ∧ Below u.heap.size u u') := fun u => by
                have := sn_any s.1 s.2 u hrs.2
                rw [show V.at_ s.1 s.2 = y from HY.out] at this
                exact this
              have CAd : Hid (∀ u, Ch num 72 u cb v1 LL → Calls Try.prog 23 #[.pointer (some ⟨cb, 0, none⟩), .agg (ks .u64 s.1 ++ [Value.int .i64 s.2]).toArray, .int .i64 (y : Int)] u fun e w' => ∃ v', e = .returned (.bool (C.add LL s y).2) ∧ Ch num 72 w' cb v' (C.adds (((ms.drop i).reverse).map ver)) ∧ Tw cb v1.ownBlock u w' ∧ Nw u v1 v') := fun u hu => by
                rw [HLS.out, HY.out]
                exact addI cb v1 LL s y u hu hrs.2 HLN.out
              obtain ⟨bo, HBO⟩ : ∃ bo, Hid ((C.add LL s y).2 = bo) := ⟨_, rfl⟩
              rw [HBO.out] at CAd
              clear HBO
              clear HLS HLN
              go_wp2_with fail
              refine region_relt 11 [Spc.eq (.pointer (some ⟨cb, 0, none⟩)), Spc.eq (.slice (some ⟨gm, om, none⟩) k cv), Spc.eq (.int .i64 (i : Int)), Spc.eq (.pointer (some ⟨gm, om + 5 * i, none⟩)), Spc.eq (.agg (ks .u64 s.1 ++ [Value.int .i64 s.2]).toArray), Spc.eq (.slice (some ⟨gm, om, none⟩) k cv), Spc.eq (.int .i64 (i : Int)), Spc.eq (.pointer (some ⟨gm, om + 5 * i, none⟩)), Spc.eq (.agg (ks .u64 s.1 ++ [Value.int .i64 s.2]).toArray), Spc.eq (.int .u64 (y : Int)), Spc.eq (.int .i64 (y : Int))] Try.mixed (by kernel_rfl) ?_
              refine r_move rfl _ rfl rfl (fun K hK => ?_)
              go_simp
              refine hK _ ?_
              clear hK K
              refine r_move rfl _ rfl rfl (fun K hK => ?_)
              go_simp
              refine hK _ ?_
              clear hK K
              refine r_move rfl _ rfl rfl (fun K hK => ?_)
              go_simp
              refine hK _ ?_
              clear hK K
              refine r_value rfl (fun u hu hn => by have hs := hix u; go_simp) (fun K hK => ?_)
              go_simp
              refine hK _ ?_
              clear hK K
              refine r_blk_load rfl 34 _ rfl gm (om + 5 * i) rfl (by intro u hu hn; exact HROW.out u hu) _ Try.underlying34 rfl HSY.out (fun K hK => ?_)
              go_simp
              refine hK _ ?_
              clear hK K
              refine r_move rfl _ rfl rfl (fun K hK => ?_)
              go_simp
              refine hK _ ?_
              clear hK K
              refine r_move rfl _ rfl rfl (fun K hK => ?_)
              go_simp
              refine hK _ ?_
              clear hK K
              refine r_value rfl (fun u hu hn => by have hs := hix u; go_simp) (fun K hK => ?_)
              go_simp
              refine hK _ ?_
              clear hK K
              refine r_blk_load rfl 34 _ rfl gm (om + 5 * i) rfl (by intro u hu hn; exact HROW.out u hu) _ Try.underlying34 rfl HSY.out (fun K hK => ?_)
              go_simp
              refine hK _ ?_
              clear hK K
              refine r_callv rfl 24 Try.f24 Try.func24 rfl rfl _ _ rfl [.agg (ks .u64 s.1 ++ [Value.int .i64 s.2]).toArray] rfl (by intro u hu hn; exact CN.out u) (fun K hK => ?_)
              go_simp
              refine hK _ ?_
              clear hK K
              refine r_value rfl (fun u hu hn => by have hs := kw; go_simp) (fun K hK => ?_)
              go_simp
              refine hK _ ?_
              clear hK K
              refine r_nil ?_
              intro u hu hF
              have S7 := Lib.hid (Sr.out.below hu)
              clear hF hu Sr HROW hix CN kw hyi hmem hrs
              go_wp2_with (first | (go_at_call 23; refine (CAd.out _ (S7.out.ch 1 rfl)).mono ?_; rintro e w8 ⟨v8, rfl, hc, ht, hn⟩))
              have S8 := Lib.hid (S7.out.chain 1 rfl hc ht hn)
              clear hc ht hn S7 CAd
              rw [← HVA.out] at S8
              go_wp2_with fail
              go_roundw
              case rel => exact ⟨i, v8, _, by omega, rfl, rfl, S8⟩
              case measure => simp [intOf]
            | zero =>
              obtain rfl : z = -1 := by have := HZ.out; omega
              rw [List.drop_zero, adds_rev ms HR.out, HLA.out] at Sr
              have i1 : ¬ (0 : Int) ≤ -1 := by omega
              clear HZ HLA
              obtain ⟨X, HX⟩ : ∃ X, Hid ((C.read LA h).getD (vk num).none_ = X) := ⟨_, rfl⟩
              obtain ⟨q, HQX⟩ : ∃ q, Hid ((C.read LA h).isSome = q) := ⟨_, rfl⟩
              obtain ⟨P, HP⟩ : ∃ X, Hid (LA.getLast?.getD (vk num).none_ = X) := ⟨_, rfl⟩
              obtain ⟨hb, HHB⟩ : ∃ q, Hid (decide (0 < LA.length) = q) := ⟨_, rfl⟩
              obtain ⟨nl, HNL⟩ : ∃ m, Hid (LA.length = m) := ⟨_, rfl⟩
              have HX4 : Hid (X.1.1.length = 4) := by show _ = _; rw [← HX.out]; exact best_fourI HUP.out h
              have HRD : Hid (q = true → C.seen X.1 h = true ∧ ∀ y ∈ LA, C.seen y.1 h = true → C.ord y.1 X.1 ≤ 0) := fun hq => by
                have h1 := HQX.out
                have h2 := HX.out
                cases hr : C.read LA h with
                | none => rw [hr, hq] at h1; cases h1
                | some b =>
                  rw [hr] at h2
                  obtain rfl : b = X := h2
                  exact (HUP.out.read hr).2
              have HSN : Hid (∀ y ∈ LA, C.seen y.1 h = true → q = true) := fun y hy hs => by
                have h1 := HQX.out
                cases hr : C.read LA h with
                | none => have := C.read_none.1 hr y hy; rw [hs] at this; cases this
                | some b => rw [hr] at h1; exact h1.symm
              have HPL : Hid (P.1.1.length = 4 ∧ ∀ y ∈ LA, C.ord y.1 P.1 ≤ 0) := by
                have h2 := HP.out
                cases hr : LA.getLast? with
                | none =>
                  rw [hr] at h2
                  obtain rfl : (vk num).none_ = P := h2
                  refine ⟨rfl, fun y hy => ?_⟩
                  rw [List.getLast?_eq_none_iff.1 hr] at hy
                  cases hy
                | some b =>
                  rw [hr] at h2
                  obtain rfl : b = P := h2
                  exact ⟨HUP.out.four _ (HUP.out.last hr).1, (HUP.out.last hr).2⟩
              have hgt : decide (0 < k) = hb := by rw [← HHB.out, HLP.out]
              have hqq : (q != q) = false := bne_self_eq_false q
              have hbb : (hb == hb) = true := beq_self_eq_true hb
              have R1 : Hid (∀ c vv u, Ch num 72 u c vv LA → Calls Try.prog 25 #[.pointer (some ⟨c, 0, none⟩), .agg (ks .u64 h).toArray] u fun e u' => e = .returned (.tuple #[(vk num).val X, .bool q]) ∧ Below u.heap.size u u') := fun c vv u hu => by
                have := readI c vv LA h u hu H4.out HLL.out
                rw [HX.out, HQX.out] at this
                exact this
              have R2 : Hid (∀ c vv u, Ch num 72 u c vv LA → Calls Try.prog 26 #[.pointer (some ⟨c, 0, none⟩)] u fun e u' => e = .returned (.tuple #[(vk num).val P, .bool hb]) ∧ Below u.heap.size u u') := fun c vv u hu => by
                have := lastI c vv LA u hu (by have := HLL.out; omega)
                rw [HP.out, HHB.out] at this
                exact this
              have CL : Hid (∀ c vv u, Ch num 72 u c vv LA → Calls Try.prog 27 #[.pointer (some ⟨c, 0, none⟩)] u fun e u' => e = .returned (.int .i64 (nl : Int)) ∧ u' = u) := fun c vv u hu => by
                have := lenI c vv LA u hu
                rw [HNL.out] at this
                exact this
              have HSX := Lib.hid size_vI
              have EX := Lib.hid (fun u => neq_vI X HX4.out u)
              have EP := Lib.hid (fun u => neq_vI P HPL.out.1 u)
              clear HX HQX HP HHB HNL HLP HUP HLL
              go_wp2_with (first | refine blk_load rfl 38 _ rfl c1 rfl (ks .u64 a1 ++ [Value.bool o1]) (Sr.out.blk 3 rfl) _ Try.underlying38 rfl HSV1.out ?_)
              clear i1
              refine (CVh.out _).mono ?_; rintro e k1 ⟨rfl, hb⟩
              have Sq1 : Hid (Sep w k1 [rO stk 34 w.heap.size (.slice sv k cv) ms, rC num 72 cb v1 LA, rC num 72 ca v LA, rB c1 (ks .u64 a1 ++ [Value.bool o1])]) := Sr.out.below hb
              clear hb Sr
              go_wp2_with (first | refine blk_alloc rfl 32 (ks .u64 (List.replicate 4 0)) rfl info_ks ?_)
              intro k2a A B Z
              obtain ⟨bkh, HB_h⟩ : ∃ b, Hid (k1.heap.size = b) := ⟨_, rfl⟩
              go_wp2_with (first | refine blk_store rfl 32 _ _ rfl k1.heap.size rfl (ks .u64 h) rfl _ A (by rw [ks_length, H4.out]; rfl) (size_ks H4.out) (one_ks _) ?_)
              intro k2 A9 U9
              have Sq2 : Hid (Sep w k2 [rB bkh (ks .u64 h), rO stk 34 w.heap.size (.slice sv k cv) ms, rC num 72 cb v1 LA, rC num 72 ca v LA, rB c1 (ks .u64 a1 ++ [Value.bool o1])]) := by
                show Sep _ _ _
                rw [← HB_h.out]
                exact Sep.fresh Sq1.out B Z U9 A9
              rw [HB_h.out]
              clear A B Z A9 U9 HB_h Sq1
              go_wp2_with (first | refine blk_load rfl 32 _ rfl bkh rfl (ks .u64 h) (Sq2.out.blk 0 rfl) _ Try.underlying32 rfl (size_ks H4.out) ?_)
              refine (R1.out _ _ _ (Sq2.out.ch 3 rfl)).mono ?_; rintro e k3 ⟨rfl, hb⟩
              have Sq3 : Hid (Sep w k3 [rB bkh (ks .u64 h), rO stk 34 w.heap.size (.slice sv k cv) ms, rC num 72 cb v1 LA, rC num 72 ca v LA, rB c1 (ks .u64 a1 ++ [Value.bool o1])]) := Sq2.out.below hb
              clear hb Sq2
              go_wp2_with (first | refine blk_alloc rfl 72 ((vk num).cf (vk num).none_) rfl info_vI ?_)
              intro k4a A B Z
              obtain ⟨bkx, HB_x⟩ : ∃ b, Hid (k3.heap.size = b) := ⟨_, rfl⟩
              go_wp2_with (first | refine blk_store rfl 72 _ _ rfl k3.heap.size rfl ((vk num).cf X) rfl _ A rfl HSX.out rfl ?_)
              intro k4 A9 U9
              have Sq4 : Hid (Sep w k4 [rB bkx ((vk num).cf X), rB bkh (ks .u64 h), rO stk 34 w.heap.size (.slice sv k cv) ms, rC num 72 cb v1 LA, rC num 72 ca v LA, rB c1 (ks .u64 a1 ++ [Value.bool o1])]) := by
                show Sep _ _ _
                rw [← HB_x.out]
                exact Sep.fresh Sq3.out B Z U9 A9
              rw [HB_x.out]
              clear A B Z A9 U9 HB_x Sq3
              go_wp2_with (first | refine blk_load rfl 32 _ rfl bkh rfl (ks .u64 h) (Sq4.out.blk 1 rfl) _ Try.underlying32 rfl (size_ks H4.out) ?_)
              refine (R1.out _ _ _ (Sq4.out.ch 3 rfl)).mono ?_; rintro e k5 ⟨rfl, hb⟩
              have Sq5 : Hid (Sep w k5 [rB bkx ((vk num).cf X), rB bkh (ks .u64 h), rO stk 34 w.heap.size (.slice sv k cv) ms, rC num 72 cb v1 LA, rC num 72 ca v LA, rB c1 (ks .u64 a1 ++ [Value.bool o1])]) := Sq4.out.below hb
              clear hb Sq4
              go_wp2_with (first | refine blk_alloc rfl 72 ((vk num).cf (vk num).none_) rfl info_vI ?_)
              intro k6a A B Z
              obtain ⟨bky, HB_y⟩ : ∃ b, Hid (k5.heap.size = b) := ⟨_, rfl⟩
              go_wp2_with (first | refine blk_store rfl 72 _ _ rfl k5.heap.size rfl ((vk num).cf X) rfl _ A rfl HSX.out rfl ?_)
              intro k6 A9 U9
              have Sq6 : Hid (Sep w k6 [rB bky ((vk num).cf X), rB bkx ((vk num).cf X), rB bkh (ks .u64 h), rO stk 34 w.heap.size (.slice sv k cv) ms, rC num 72 cb v1 LA, rC num 72 ca v LA, rB c1 (ks .u64 a1 ++ [Value.bool o1])]) := by
                show Sep _ _ _
                rw [← HB_y.out]
                exact Sep.fresh Sq5.out B Z U9 A9
              rw [HB_y.out]
              clear A B Z A9 U9 HB_y Sq5
              go_wp2_with fail
              refine (R2.out _ _ _ (Sq6.out.ch 5 rfl)).mono ?_; rintro e k7 ⟨rfl, hb⟩
              have Sq7 : Hid (Sep w k7 [rB bky ((vk num).cf X), rB bkx ((vk num).cf X), rB bkh (ks .u64 h), rO stk 34 w.heap.size (.slice sv k cv) ms, rC num 72 cb v1 LA, rC num 72 ca v LA, rB c1 (ks .u64 a1 ++ [Value.bool o1])]) := Sq6.out.below hb
              clear hb Sq6
              go_wp2_with (first | refine blk_alloc rfl 72 ((vk num).cf (vk num).none_) rfl info_vI ?_)
              intro k8a A B Z
              obtain ⟨bkp, HB_p⟩ : ∃ b, Hid (k7.heap.size = b) := ⟨_, rfl⟩
              go_wp2_with (first | refine blk_store rfl 72 _ _ rfl k7.heap.size rfl ((vk num).cf P) rfl _ A rfl HSX.out rfl ?_)
              intro k8 A9 U9
              have Sq8 : Hid (Sep w k8 [rB bkp ((vk num).cf P), rB bky ((vk num).cf X), rB bkx ((vk num).cf X), rB bkh (ks .u64 h), rO stk 34 w.heap.size (.slice sv k cv) ms, rC num 72 cb v1 LA, rC num 72 ca v LA, rB c1 (ks .u64 a1 ++ [Value.bool o1])]) := by
                show Sep _ _ _
                rw [← HB_p.out]
                exact Sep.fresh Sq7.out B Z U9 A9
              rw [HB_p.out]
              clear A B Z A9 U9 HB_p Sq7
              go_wp2_with fail
              refine (R2.out _ _ _ (Sq8.out.ch 5 rfl)).mono ?_; rintro e k9 ⟨rfl, hb⟩
              have Sq9 : Hid (Sep w k9 [rB bkp ((vk num).cf P), rB bky ((vk num).cf X), rB bkx ((vk num).cf X), rB bkh (ks .u64 h), rO stk 34 w.heap.size (.slice sv k cv) ms, rC num 72 cb v1 LA, rC num 72 ca v LA, rB c1 (ks .u64 a1 ++ [Value.bool o1])]) := Sq8.out.below hb
              clear hb Sq8
              go_wp2_with (first | refine blk_alloc rfl 72 ((vk num).cf (vk num).none_) rfl info_vI ?_)
              intro k10a A B Z
              obtain ⟨bkz, HB_z⟩ : ∃ b, Hid (k9.heap.size = b) := ⟨_, rfl⟩
              go_wp2_with (first | refine blk_store rfl 72 _ _ rfl k9.heap.size rfl ((vk num).cf P) rfl _ A rfl HSX.out rfl ?_)
              intro k10 A9 U9
              have Sq10 : Hid (Sep w k10 [rB bkz ((vk num).cf P), rB bkp ((vk num).cf P), rB bky ((vk num).cf X), rB bkx ((vk num).cf X), rB bkh (ks .u64 h), rO stk 34 w.heap.size (.slice sv k cv) ms, rC num 72 cb v1 LA, rC num 72 ca v LA, rB c1 (ks .u64 a1 ++ [Value.bool o1])]) := by
                show Sep _ _ _
                rw [← HB_z.out]
                exact Sep.fresh Sq9.out B Z U9 A9
              rw [HB_z.out]
              clear A B Z A9 U9 HB_z Sq9
              go_wp2_with (first | refine blk_load rfl 72 _ rfl bkx rfl ((vk num).cf X) (Sq10.out.blk 3 rfl) _ Try.underlying72 rfl HSX.out ?_ | refine blk_load rfl 72 _ rfl bky rfl ((vk num).cf X) (Sq10.out.blk 2 rfl) _ Try.underlying72 rfl HSX.out ?_ | refine blk_loadg rfl 72 _ rfl bkp rfl ((vk num).cf P) (Sq10.out.blk 1 rfl) _ Try.underlying72 rfl HSX.out ?_ | refine blk_loadg rfl 72 _ rfl bkz rfl ((vk num).cf P) (Sq10.out.blk 0 rfl) _ Try.underlying72 rfl HSX.out ?_ | refine val_step rfl (.bool false) (run_eql _ .neq 72 72 _ _ ((vk num).val X) ((vk num).val X) _ rfl rfl rfl (guard_vI _ _ _ _ _ _ (.inr rfl)) (EX.out _)) ?_ | refine val_stepg rfl (.bool false) (run_eql _ .neq 72 72 _ _ ((vk num).val P) ((vk num).val P) _ rfl rfl rfl (guard_vI _ _ _ _ _ _ (.inr rfl)) (EP.out _)) ?_)
              refine (CL.out _ _ _ (Sq10.out.ch 7 rfl)).mono ?_; rintro e wl ⟨rfl, rfl⟩
              go_wp2_with fail
              refine (CL.out _ _ _ (Sq10.out.ch 6 rfl)).mono ?_; rintro e wl ⟨rfl, rfl⟩
              go_wp2_with fail
              clear hgt hqq hbb EX EP CL R1 R2 CVh
              go_loopw [22] (fun x wr => ∃ (i : Nat), i ≤ k ∧ x = .int .i64 (i : Int) ∧ Hid (Sep w wr [rB bkz ((vk num).cf P), rB bkp ((vk num).cf P), rB bky ((vk num).cf X), rB bkx ((vk num).cf X), rB bkh (ks .u64 h), rO stk 34 w.heap.size (.slice sv k cv) ms, rC num 72 cb v1 LA, rC num 72 ca v LA, rB c1 (ks .u64 a1 ++ [Value.bool o1])])) (fun x _ => k - (intOf x).toNat)
              case atStart => exact ⟨0, by omega, rfl, Sq10⟩
              case round =>
                obtain ⟨i, hik, rfl, Sr2⟩ := hrel
                clear Sq10
                have Sr := Sr2
                clear Sr2
                have HRX : Hid (∀ u, Below wr.heap.size wr u → u.rangeAt bkx 0 (ks .u64 X.1.1 ++ [Value.int .i64 X.1.2])) := fun u hu => row_stamp (((Sr.out.below hu).blk 3 rfl).1) HX4.out
                have HRP : Hid (∀ u, Below wr.heap.size wr u → u.rangeAt bkp 0 (ks .u64 P.1.1 ++ [Value.int .i64 P.1.2])) := fun u hu => row_stamp (((Sr.out.below hu).blk 1 rfl).1) HPL.out.1
                have HRh : Hid (∀ u, Below wr.heap.size wr u → Blk u bkh (ks .u64 h)) := fun u hu => (Sr.out.below hu).blk 4 rfl
                have HSP := Lib.hid (size_s (d := P.1.2) HPL.out.1)
                have HSQ := Lib.hid (size_s (d := X.1.2) HX4.out)
                by_cases hli : i < k
                · have i1 : (i : Int) < (k : Int) := by omega
                  obtain ⟨gm, om, cm, hv, hgm, hrow⟩ := IsR.at (Sr.out.or 5 rfl).is i (by rw [HJ.out]; exact hli)
                  obtain rfl : sv = some ⟨gm, om, none⟩ := by injection hv
                  have hyi := C.getD_some (show i < ms.length by rw [HJ.out]; exact hli) stk.none_
                  have hmem := List.mem_of_getElem? hyi
                  have hrs := HR.out _ hmem
                  obtain ⟨s, HSs⟩ : ∃ y, Hid (ms.getD i stk.none_ = y) := ⟨_, rfl⟩
                  rw [HSs.out] at hrow hyi hmem hrs
                  rw [stk_cf hrs.2] at hrow
                  have HSY := Lib.hid (size_s (d := s.2) hrs.2)
                  have hix : ∀ w, (Instr.indexAt 68 (.slice (some ⟨gm, om, none⟩) k cv) (.int .i64 (i : Int))).run Try.prog w = .ok (.pointer (some ⟨gm, om + 5 * i, none⟩)) w := fun w => index_st gm om k cv i hli w
                  have HROW : Hid (∀ u, Below wr.heap.size wr u → u.rangeAt gm (om + 5 * i) (ks .u64 s.1 ++ [Value.int .i64 s.2])) := fun u hu k v hv => by
                    rw [hu.cell (p := ⟨gm, om + 5 * i + k, none⟩) hgm]
                    exact hrow k v hv
                  clear hv hrow HSs hgm
                  obtain ⟨od, HOD⟩ : ∃ od, Hid (C.ord s P.1 = od) := ⟨_, rfl⟩
                  have hod : ¬ (0 < od) := by have := HPL.out.2 _ (HIN.out s hmem); rw [show C.ord (ver s).1 P.1 = od from HOD.out] at this; omega
                  have XO : Hid (∀ u, Below wr.heap.size wr u → Calls Try.prog 28 [SV s.1 s.2, SV P.1.1 P.1.2].toArray u fun e u' => e = .returned (.int .i64 od) ∧ Below wr.heap.size wr u') := fun u hu => Calls.more hu (by have := order_any s.1 P.1.1 s.2 P.1.2 u hrs.2 HPL.out.1; rw [show T.order s.1 s.2 P.1.1 P.1.2 = od from HOD.out] at this; exact this)
                  obtain ⟨sn, HSV⟩ : ∃ q, Hid (C.seen s h = q) := ⟨_, rfl⟩
                  have XS : Hid (∀ u, Below wr.heap.size wr u → Calls Try.prog 29 [SV s.1 s.2, .agg (ks .u64 h).toArray].toArray u fun e u' => e = .returned (.bool sn) ∧ Below wr.heap.size wr u') := fun u hu => Calls.more hu (by have := sseen_any s.1 h s.2 u hrs.2 H4.out; rw [show V.leq s.1 h = sn from HSV.out] at this; exact this)
                  cases sn with
                  | true =>
                    obtain rfl : q = true := HSN.out _ (HIN.out s hmem) HSV.out
                    obtain ⟨od2, HOD2⟩ : ∃ od, Hid (C.ord s X.1 = od) := ⟨_, rfl⟩
                    have hod2 : ¬ (0 < od2) := by have := (HRD.out rfl).2 _ (HIN.out s hmem) HSV.out; rw [show C.ord (ver s).1 X.1 = od2 from HOD2.out] at this; omega
                    have XO2 : Hid (∀ u, Below wr.heap.size wr u → Calls Try.prog 28 [SV s.1 s.2, SV X.1.1 X.1.2].toArray u fun e u' => e = .returned (.int .i64 od2) ∧ Below wr.heap.size wr u') := fun u hu => Calls.more hu (by have := order_any s.1 X.1.1 s.2 X.1.2 u hrs.2 HX4.out; rw [show T.order s.1 s.2 X.1.1 X.1.2 = od2 from HOD2.out] at this; exact this)
                    clear hmem hyi hrs
                    go_wp2_with fail
                    refine region_w Try.mixed (by kernel_rfl) ?_
                    refine w_move rfl _ rfl (.slice (some ⟨gm, om, none⟩) k cv) rfl (fun K hK => ?_)
                    go_simp
                    refine hK _ ?_
                    clear hK K
                    refine w_move rfl _ rfl (.int .i64 (i : Int)) rfl (fun K hK => ?_)
                    go_simp
                    refine hK _ ?_
                    clear hK K
                    refine w_value rfl (.pointer (some ⟨gm, om + 5 * i, none⟩)) (fun u hu => by have hs := hix u; go_simp) (fun K hK => ?_)
                    go_simp
                    refine hK _ ?_
                    clear hK K
                    refine w_mid_load rfl 34 _ rfl gm (om + 5 * i) rfl (ks .u64 s.1 ++ [Value.int .i64 s.2]) (by exact HROW.out) _ Try.underlying34 rfl HSY.out (fun K hK => ?_)
                    go_simp
                    refine hK _ ?_
                    clear hK K
                    refine w_value rfl (.pointer (some ⟨bkp, 0, none⟩)) (fun u hu => by go_simp) (fun K hK => ?_)
                    go_simp
                    refine hK _ ?_
                    clear hK K
                    refine w_mid_load rfl 34 _ rfl bkp 0 rfl (ks .u64 P.1.1 ++ [Value.int .i64 P.1.2]) (by exact HRP.out) _ Try.underlying34 rfl HSP.out (fun K hK => ?_)
                    go_simp
                    refine hK _ ?_
                    clear hK K
                    refine w_call rfl 28 Try.f28 Try.func28 rfl rfl _ _ rfl [SV s.1 s.2, SV P.1.1 P.1.2] rfl (.int .i64 od) (by exact XO.out) (fun K hK => ?_)
                    go_simp
                    refine hK _ ?_
                    clear hK K
                    refine w_value rfl (.bool false) (fun u hu => by have hs := hod; go_simp) (fun K hK => ?_)
                    go_simp
                    refine hK _ ?_
                    clear hK K
                    refine w_move rfl _ rfl (.bool false) rfl (fun K hK => ?_)
                    go_simp
                    refine hK _ ?_
                    clear hK K
                    refine wg_value (by rfl) (.slice (some ⟨gm, om, none⟩) k cv) (fun u hu => by go_simp) (fun K hK => ?_)
                    go_simp
                    refine hK _ ?_
                    clear hK K
                    refine wg_value (by rfl) (.int .i64 (i : Int)) (fun u hu => by go_simp) (fun K hK => ?_)
                    go_simp
                    refine hK _ ?_
                    clear hK K
                    refine wg_value (by rfl) (.pointer (some ⟨gm, om + 5 * i, none⟩)) (fun u hu => by have hs := hix u; go_simp) (fun K hK => ?_)
                    go_simp
                    refine hK _ ?_
                    clear hK K
                    refine wg_mid_load (by rfl) 34 _ rfl gm (om + 5 * i) rfl (ks .u64 s.1 ++ [Value.int .i64 s.2]) (by exact HROW.out) _ Try.underlying34 rfl HSY.out (fun K hK => ?_)
                    go_simp
                    refine hK _ ?_
                    clear hK K
                    refine wg_blk_load (by rfl) 32 _ rfl bkh rfl (ks .u64 h) (by exact HRh.out) _ Try.underlying32 rfl (size_ks H4.out) (fun K hK => ?_)
                    go_simp
                    refine hK _ ?_
                    clear hK K
                    refine wg_call (by rfl) 29 Try.f29 Try.func29 rfl rfl _ _ rfl [SV s.1 s.2, .agg (ks .u64 h).toArray] rfl (.bool true) (by exact XS.out) (fun K hK => ?_)
                    go_simp
                    refine hK _ ?_
                    clear hK K
                    refine wg_value (by rfl) (.bool true) (fun u hu => by go_simp) (fun K hK => ?_)
                    go_simp
                    refine hK _ ?_
                    clear hK K
                    refine wg_value (by rfl) (.bool true) (fun u hu => by go_simp) (fun K hK => ?_)
                    go_simp
                    refine hK _ ?_
                    clear hK K
                    refine wg_value (by rfl) (.bool false) (fun u hu => by go_simp) (fun K hK => ?_)
                    go_simp
                    refine hK _ ?_
                    clear hK K
                    refine wg_value (by rfl) (.bool false) (fun u hu => by go_simp) (fun K hK => ?_)
                    go_simp
                    refine hK _ ?_
                    clear hK K
                    refine wg_value (by rfl) (.slice (some ⟨gm, om, none⟩) k cv) (fun u hu => by go_simp) (fun K hK => ?_)
                    go_simp
                    refine hK _ ?_
                    clear hK K
                    refine wg_value (by rfl) (.int .i64 (i : Int)) (fun u hu => by go_simp) (fun K hK => ?_)
                    go_simp
                    refine hK _ ?_
                    clear hK K
                    refine wg_value (by rfl) (.pointer (some ⟨gm, om + 5 * i, none⟩)) (fun u hu => by have hs := hix u; go_simp) (fun K hK => ?_)
                    go_simp
                    refine hK _ ?_
                    clear hK K
                    refine wg_mid_load (by rfl) 34 _ rfl gm (om + 5 * i) rfl (ks .u64 s.1 ++ [Value.int .i64 s.2]) (by exact HROW.out) _ Try.underlying34 rfl HSY.out (fun K hK => ?_)
                    go_simp
                    refine hK _ ?_
                    clear hK K
                    refine wg_value (by rfl) (.pointer (some ⟨bkx, 0, none⟩)) (fun u hu => by go_simp) (fun K hK => ?_)
                    go_simp
                    refine hK _ ?_
                    clear hK K
                    refine wg_mid_load (by rfl) 34 _ rfl bkx 0 rfl (ks .u64 X.1.1 ++ [Value.int .i64 X.1.2]) (by exact HRX.out) _ Try.underlying34 rfl HSQ.out (fun K hK => ?_)
                    go_simp
                    refine hK _ ?_
                    clear hK K
                    refine wg_call (by rfl) 28 Try.f28 Try.func28 rfl rfl _ _ rfl [SV s.1 s.2, SV X.1.1 X.1.2] rfl (.int .i64 od2) (by exact XO2.out) (fun K hK => ?_)
                    go_simp
                    refine hK _ ?_
                    clear hK K
                    refine wg_value (by rfl) (.bool false) (fun u hu => by have hs := hod2; go_simp) (fun K hK => ?_)
                    go_simp
                    refine hK _ ?_
                    clear hK K
                    refine wg_value (by rfl) (.bool false) (fun u hu => by go_simp) (fun K hK => ?_)
                    go_simp
                    refine hK _ ?_
                    clear hK K
                    refine wg_value (by rfl) (.bool false) (fun u hu => by go_simp) (fun K hK => ?_)
                    go_simp
                    refine hK _ ?_
                    clear hK K
                    refine w_value rfl (.bool false) (fun u hu => by go_simp) (fun K hK => ?_)
                    go_simp
                    refine hK _ ?_
                    clear hK K
                    refine w_nil ?_
                    intro u hu
                    have S9 := Lib.hid (Sr.out.below hu)
                    clear hu HROW HRP HRX HRh XO XS hix Sr
                    go_wp2_with fail
                    go_roundw
                    case rel => exact ⟨i + 1, by omega, by go_num, S9⟩
                    case measure => simp [intOf]; omega
                  | false =>
                    clear hmem hyi hrs
                    go_wp2_with fail
                    refine region_w Try.mixed (by kernel_rfl) ?_
                    refine w_move rfl _ rfl (.slice (some ⟨gm, om, none⟩) k cv) rfl (fun K hK => ?_)
                    go_simp
                    refine hK _ ?_
                    clear hK K
                    refine w_move rfl _ rfl (.int .i64 (i : Int)) rfl (fun K hK => ?_)
                    go_simp
                    refine hK _ ?_
                    clear hK K
                    refine w_value rfl (.pointer (some ⟨gm, om + 5 * i, none⟩)) (fun u hu => by have hs := hix u; go_simp) (fun K hK => ?_)
                    go_simp
                    refine hK _ ?_
                    clear hK K
                    refine w_mid_load rfl 34 _ rfl gm (om + 5 * i) rfl (ks .u64 s.1 ++ [Value.int .i64 s.2]) (by exact HROW.out) _ Try.underlying34 rfl HSY.out (fun K hK => ?_)
                    go_simp
                    refine hK _ ?_
                    clear hK K
                    refine w_value rfl (.pointer (some ⟨bkp, 0, none⟩)) (fun u hu => by go_simp) (fun K hK => ?_)
                    go_simp
                    refine hK _ ?_
                    clear hK K
                    refine w_mid_load rfl 34 _ rfl bkp 0 rfl (ks .u64 P.1.1 ++ [Value.int .i64 P.1.2]) (by exact HRP.out) _ Try.underlying34 rfl HSP.out (fun K hK => ?_)
                    go_simp
                    refine hK _ ?_
                    clear hK K
                    refine w_call rfl 28 Try.f28 Try.func28 rfl rfl _ _ rfl [SV s.1 s.2, SV P.1.1 P.1.2] rfl (.int .i64 od) (by exact XO.out) (fun K hK => ?_)
                    go_simp
                    refine hK _ ?_
                    clear hK K
                    refine w_value rfl (.bool false) (fun u hu => by have hs := hod; go_simp) (fun K hK => ?_)
                    go_simp
                    refine hK _ ?_
                    clear hK K
                    refine w_move rfl _ rfl (.bool false) rfl (fun K hK => ?_)
                    go_simp
                    refine hK _ ?_
                    clear hK K
                    refine wg_value (by rfl) (.slice (some ⟨gm, om, none⟩) k cv) (fun u hu => by go_simp) (fun K hK => ?_)
                    go_simp
                    refine hK _ ?_
                    clear hK K
                    refine wg_value (by rfl) (.int .i64 (i : Int)) (fun u hu => by go_simp) (fun K hK => ?_)
                    go_simp
                    refine hK _ ?_
                    clear hK K
                    refine wg_value (by rfl) (.pointer (some ⟨gm, om + 5 * i, none⟩)) (fun u hu => by have hs := hix u; go_simp) (fun K hK => ?_)
                    go_simp
                    refine hK _ ?_
                    clear hK K
                    refine wg_mid_load (by rfl) 34 _ rfl gm (om + 5 * i) rfl (ks .u64 s.1 ++ [Value.int .i64 s.2]) (by exact HROW.out) _ Try.underlying34 rfl HSY.out (fun K hK => ?_)
                    go_simp
                    refine hK _ ?_
                    clear hK K
                    refine wg_blk_load (by rfl) 32 _ rfl bkh rfl (ks .u64 h) (by exact HRh.out) _ Try.underlying32 rfl (size_ks H4.out) (fun K hK => ?_)
                    go_simp
                    refine hK _ ?_
                    clear hK K
                    refine wg_call (by rfl) 29 Try.f29 Try.func29 rfl rfl _ _ rfl [SV s.1 s.2, .agg (ks .u64 h).toArray] rfl (.bool false) (by exact XS.out) (fun K hK => ?_)
                    go_simp
                    refine hK _ ?_
                    clear hK K
                    refine wg_value (by rfl) (.bool false) (fun u hu => by go_simp) (fun K hK => ?_)
                    go_simp
                    refine hK _ ?_
                    clear hK K
                    refine w_skip 15 true (some false) rfl (by rfl) rfl (fun K hK => ?_)
                    go_simp
                    refine hK _ ?_
                    clear hK K
                    refine w_skip 15 true (some false) rfl (by rfl) rfl (fun K hK => ?_)
                    go_simp
                    refine hK _ ?_
                    clear hK K
                    refine w_skip 15 true (some false) rfl (by rfl) rfl (fun K hK => ?_)
                    go_simp
                    refine hK _ ?_
                    clear hK K
                    refine w_skip 18 false none rfl (by rfl) rfl (fun K hK => ?_)
                    go_simp
                    refine hK _ ?_
                    clear hK K
                    refine w_skip 18 false none rfl (by rfl) rfl (fun K hK => ?_)
                    go_simp
                    refine hK _ ?_
                    clear hK K
                    refine w_skip 18 false none rfl (by rfl) rfl (fun K hK => ?_)
                    go_simp
                    refine hK _ ?_
                    clear hK K
                    refine w_skip 18 false none rfl (by rfl) rfl (fun K hK => ?_)
                    go_simp
                    refine hK _ ?_
                    clear hK K
                    refine w_skip 18 false none rfl (by rfl) rfl (fun K hK => ?_)
                    go_simp
                    refine hK _ ?_
                    clear hK K
                    refine w_skip 18 false none rfl (by rfl) rfl (fun K hK => ?_)
                    go_simp
                    refine hK _ ?_
                    clear hK K
                    refine w_skip 18 false none rfl (by rfl) rfl (fun K hK => ?_)
                    go_simp
                    refine hK _ ?_
                    clear hK K
                    refine w_skip 18 false none rfl (by rfl) rfl (fun K hK => ?_)
                    go_simp
                    refine hK _ ?_
                    clear hK K
                    refine w_skip 15 true (some false) rfl (by rfl) rfl (fun K hK => ?_)
                    go_simp
                    refine hK _ ?_
                    clear hK K
                    refine wg_value (by rfl) (.bool false) (fun u hu => by go_simp) (fun K hK => ?_)
                    go_simp
                    refine hK _ ?_
                    clear hK K
                    refine w_value rfl (.bool false) (fun u hu => by go_simp) (fun K hK => ?_)
                    go_simp
                    refine hK _ ?_
                    clear hK K
                    refine w_nil ?_
                    intro u hu
                    have S9 := Lib.hid (Sr.out.below hu)
                    clear hu HROW HRP HRX HRh XO XS hix Sr
                    go_wp2_with fail
                    go_roundw
                    case rel => exact ⟨i + 1, by omega, by go_num, S9⟩
                    case measure => simp [intOf]; omega
                · obtain rfl : i = k := by omega
                  have i1 : ¬ (i : Int) < (i : Int) := by omega
                  have HRX9 := Lib.hid (HRX.out _ (Below.refl _ _))
                  have HRh9 := Lib.hid (HRh.out _ (Below.refl _ _))
                  have HB9 := Lib.hid Sr.out.under
                  clear HRX HRP HRh Sr
                  cases q with
                  | false =>
                    go_wp2_with fail
                    go_ret
                    exact ⟨rfl, HB9.out⟩
                  | true =>
                    have CSX := Lib.hid (fun u => sseen_any X.1.1 h X.1.2 u HX4.out H4.out)
                    rw [show V.leq X.1.1 h = true from (HRD.out rfl).1] at CSX
                    go_wp2_with (first | refine mid_loadgI rfl 34 _ rfl bkx 0 rfl (ks .u64 X.1.1 ++ [Value.int .i64 X.1.2]) HRX9.out _ Try.underlying34 rfl HSQ.out ?_ | refine blk_loadg rfl 32 _ rfl bkh rfl (ks .u64 h) HRh9.out _ Try.underlying32 rfl (size_ks H4.out) ?_)
                    refine (CSX.out _).mono ?_; rintro e wz ⟨rfl, hb9⟩
                    have HB10 := Lib.hid (Below.trans HB9.out (hb9.mono HB9.out.size))
                    clear hb9
                    go_wp2_with fail
                    go_ret
                    exact ⟨rfl, HB10.out⟩

set_option maxRecDepth 100000 in
theorem lifted (os : Os) (started : os.Started) (H : Type) (enc : TypeId × Value → H) :
    ReturnsInHanded {} Try.checked os 4 .any (Rows.chainOrderSpec.pre6 enc Try.prog Try.f4 Rows.chainOrderRow.domain false) (Rows.chainOrderSpec.post enc Try.prog Try.f4 false true false false) := by
  refine returnsInHanded_of_change_sized (C := Try.checked) own started (by kernel_rfl) Try.func4
    (ChangeSpec.witness6 (enc := enc) (C := Try.checked) false ⟨#[], #[.slice none 0 0, .agg #[.int .u64 0, .int .u64 0, .int .u64 0, .int .u64 0, .bool false]], []⟩ 8 (by kernel_rfl) (by kernel_rfl) (by kernel_rfl) (by kernel_rfl)) ?_
  intro W base args ds gs before hval0 hW hcnd hsz0 _
  have hval : ∀ (j : Nat) t v, Try.f4.params[j]? = some t → args[j]? = some v → Value.okWide Try.prog W .any base t v := hval0
  have hW' := hW
  obtain ⟨p, q, hA0, hV, rfl, hfz, hnd⟩ := hW
  have hA : DataW.TrodAll enc Try.prog W 0 (fun _ => true) true Try.f4.params.toList args.toList ds p := hA0
  have hsz : (DataW.weightsEach Try.prog (Try.f4.params.toList ++ Rows.chainOrderSpec.plain.varTypes Try.prog) (ds ++ gs)).all (· ≤ reachBytes) = true := hsz0
  rw [Try.params4] at hA hval hsz
  obtain ⟨rfl, rfl⟩ := trodVars_none hV
  have hAk := hA
  have hlt : ∀ x ∈ p, x.block < W.heap.size := fun x hx => by simpa using hW'.lt x (List.mem_append.2 (.inl hx))
  obtain ⟨v0, vs0, d0, ds0, p0, q0, hargs, rfl, rfl, h0, r0⟩ := trodAll_cons hA
  obtain ⟨v1, vs1, d1, ds1, p1, q1, rfl, rfl, rfl, h1, r1⟩ := trodAll_cons r0
  obtain ⟨rfl, rfl, rfl⟩ := trodAll_nil r1
  obtain rfl : args = #[v0, v1] := by cases args; simp_all
  obtain ⟨a0, len0, cap0, rfl⟩ := okWide_slice Try.underlying65 (hval 0 65 v0 rfl rfl)
  obtain ⟨ML0, w0, m0⟩ := open_marks h0
  obtain ⟨a1, o1, rfl, w1⟩ := open_vector (hval 1 38 v1 rfl rfl) h1
  clear hA0 hval0 hsz0
  refine (walk (.slice a0 len0 cap0) ML0 a1 o1 m0 w1 W w0).mono fun e W' ⟨he, hg⟩ => ?_
  subst he
  exact ⟨_, rfl, _, _, _, [], _, [], hW', (trodAll_cons_mk (shut_bool Try.underlying4 _) trodAll_mk0), trodAll_below laidOut hg _ _ _ _ (by kernel_rfl) hAk hlt, rfl, hg.frame _, fun h => by cases h⟩

theorem over : Rows.chainOrderRow.holds Try.pinned (OpenSpec.ofChange Rows.chainOrderSpec) :=
  OpenClaim.holds_of_wide 4 Try.f4 rfl rfl rfl rfl rfl rfl rfl ⟨rfl, rfl, rfl, rfl, rfl⟩ rfl rfl rfl rfl rfl (by kernel_rfl) Try.func4 (by kernel_rfl)
    (of_decide_eq_true (by kernel_rfl)) (by unfold Func.isWrapper; first | (rw [if_pos (by decide +kernel)]; kernel_rfl) | (rw [if_neg (by decide +kernel)]; exact ⟨rfl, rfl⟩))
    (fun os started H enc _ => lifted os started H enc)

/-- the statement -/
theorem proved : Rows.ChainOrderSaid :=
  over
#print axioms proved

end Go.Proofs.Ytmajkapapbhabaa.chainOrder
