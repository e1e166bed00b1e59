/-
  The horizon is at most what is stable, and at most each snapshot that is open; with none open it is what is stable (the law SessHorizon). No conditions.
-/
import Derived.Test.YtkiaehehckmpnaaFrame

import Derived.Test.YtkiaehehckmpnaaSessEx

import Derived.Deep.DeepCutAuto

import Derived.Test.YtkiaehehckmpnaaFrameDeed14

import Derived.Test.YtkiaehehckmpnaaFrameVecN

namespace Go.Proofs.Ytkiaehehckmpnaa.sessHorizon

open Go.ChangeShapes Go.WideShapes Go.ChangeAt Go.RowKit

open Go.ChangeMaps (open_string shut_string)

set_option linter.unusedVariables false

set_option linter.unusedSimpArgs false

open Go.Proofs.Ytkiaehehckmpnaa.Vc Go.Proofs.Ytkiaehehckmpnaa.Sp Go.Proofs.Ytkiaehehckmpnaa.Rw Go.Proofs.Ytkiaehehckmpnaa.Se Go.Proofs.Ytkiaehehckmpnaa.It Go.Proofs.Ytkiaehehckmpnaa.Z Go.Proofs.Ytkiaehehckmpnaa.Zm

theorem fold_le : ∀ (L : List (List Nat)) (a : List Nat), a.length = 4 → (∀ x ∈ L, x.length = 4) → (L.foldl V.meet a).length = 4 ∧ ∀ n j, j < 4 → (n ≤ (L.foldl V.meet a).getD j 0 ↔ n ≤ a.getD j 0 ∧ ∀ x ∈ L, n ≤ x.getD j 0)
  | [], a, ha, _ => ⟨ha, fun n j _ => by simp⟩
  | b :: L, a, ha, hL => by
    have hb := hL b (List.mem_cons_self ..)
    obtain ⟨h1, h2⟩ := fold_le L (V.meet a b) (V.meet_length ha hb) (fun x hx => hL x (List.mem_cons_of_mem _ hx))
    refine ⟨h1, fun n j hj => ?_⟩
    rw [List.foldl_cons, h2 n j hj, V.meet_at ha hb j hj, Nat.le_min]
    constructor
    · rintro ⟨⟨h3, h4⟩, h5⟩
      refine ⟨h3, fun x hx => ?_⟩
      rcases List.mem_cons.1 hx with rfl | hx
      · exact h4
      · exact h5 x hx
    · rintro ⟨h3, h4⟩
      exact ⟨⟨h3, h4 b (List.mem_cons_self ..)⟩, fun x hx => h4 x (List.mem_cons_of_mem _ hx)⟩
theorem all_le {L : List (List Nat)} (hn : L ≠ []) (hL : ∀ x ∈ L, x.length = 4) : (V.all L).length = 4 ∧ ∀ n j, j < 4 → (n ≤ (V.all L).getD j 0 ↔ ∀ x ∈ L, n ≤ x.getD j 0) := by
  cases L with
  | nil => exact absurd rfl hn
  | cons a L =>
    obtain ⟨h1, h2⟩ := fold_le L a (hL a (List.mem_cons_self ..)) (fun x hx => hL x (List.mem_cons_of_mem _ hx))
    refine ⟨h1, fun n j hj => (h2 n j hj).trans ?_⟩
    simp
theorem four_ext {a b : List Nat} (ha : a.length = 4) (hb : b.length = 4) (h : ∀ j, j < 4 → a.getD j 0 = b.getD j 0) : a = b := by
  apply List.ext_getElem (by rw [ha, hb])
  intro i h1 h2
  have := h i (by omega)
  rw [List.getD_eq_getElem?_getD, List.getD_eq_getElem?_getD, List.getElem?_eq_getElem h1, List.getElem?_eq_getElem h2] at this
  exact this
section

variable {S : List Ss} {s : List Nat}

theorem hz_mem (hS : Z.Good S) (hs : V.Ok s) : ∀ x ∈ snaps S ++ [s], x.length = 4 := fun x hx => by
  rcases List.mem_append.1 hx with h | h
  · exact (snaps_len hS x h).1
  · rw [List.mem_singleton] at h; rw [h]; exact hs.1
theorem hz_len (hS : Z.Good S) (hs : V.Ok s) : (horizon S s).length = 4 := (all_le (by simp) (hz_mem hS hs)).1
theorem hz_leq (hS : Z.Good S) (hs : V.Ok s) {x : List Nat} (hx : x ∈ snaps S ++ [s]) : V.leq (horizon S s) x = true :=
  V.leq_all (hz_len hS hs) (hz_mem hS hs x hx) (fun k hk => ((all_le (by simp) (hz_mem hS hs)).2 _ k hk).1 (Nat.le_refl _) x hx)
theorem hz_fold (hS : Z.Good S) (hs : V.Ok s) : (snaps S).foldl V.meet s = horizon S s := by
  obtain ⟨f1, f2⟩ := fold_le (snaps S) s hs.1 (fun x hx => (snaps_len hS x hx).1)
  obtain ⟨a1, a2⟩ := all_le (L := snaps S ++ [s]) (by simp) (hz_mem hS hs)
  refine four_ext f1 a1 (fun j hj => Nat.le_antisymm ?_ ?_)
  · refine (a2 _ j hj).2 (fun x hx => ?_)
    have h := (f2 _ j hj).1 (Nat.le_refl _)
    rcases List.mem_append.1 hx with h9 | h9
    · exact h.2 x h9
    · rw [List.mem_singleton] at h9; rw [h9]; exact h.1
  · have h := (a2 _ j hj).1 (Nat.le_refl _)
    exact (f2 _ j hj).2 ⟨h s (by simp), fun x hx => h x (List.mem_append_left _ hx)⟩
theorem hz_more (hS : Z.Good S) (hs : V.Ok s) {S' : List Ss} (hS' : Z.Good S') (hsub : ∀ x ∈ snaps S', x ∈ snaps S) : V.leq (horizon S s) (horizon S' s) = true := by
  refine V.leq_all (hz_len hS hs) (hz_len hS' hs) (fun k hk => ?_)
  refine ((all_le (by simp) (hz_mem hS' hs)).2 _ k hk).2 (fun x hx => ?_)
  refine ((all_le (by simp) (hz_mem hS hs)).2 _ k hk).1 (Nat.le_refl _) x ?_
  rcases List.mem_append.1 hx with h | h
  · exact List.mem_append_left _ (hsub x h)
  · exact List.mem_append_right _ h
theorem hz_none (h : many S = 0) : horizon S s = s := by
  have : snaps S = [] := by
    unfold snaps
    have h2 : S.filter (·.opn) = [] := List.length_eq_zero_iff.1 h
    rw [h2]; rfl
  unfold horizon
  rw [this]; rfl
theorem many_set (hS : Z.Good S) {id : Int} (hk : known id = true) (x : Ss) : many (st S id x) + (if (gt S id).opn = true then 1 else 0) = many S + (if x.opn = true then 1 else 0) := by
  have hg := gt_known hS.len hk
  obtain ⟨hi, e⟩ := List.getElem?_eq_some_iff.1 hg
  have e1 : many S = S.countP (·.opn) := (List.countP_eq_length_filter ..).symm
  have e2 : many (st S id x) = (S.set (id - 1).toNat x).countP (·.opn) := (List.countP_eq_length_filter ..).symm
  rw [e1, e2, List.countP_set hi, e]
  have h1 : (gt S id).opn = true → 0 < S.countP (·.opn) := fun h => List.countP_pos_iff.2 ⟨_, List.mem_of_getElem? hg, h⟩
  by_cases h2 : (gt S id).opn = true
  · have := h1 h2
    rw [if_pos h2]
    split <;> omega
  · rw [if_neg h2]
    split <;> omega
theorem errBeg_cases (id : Int) (v : List Nat) : (errBeg S id v = 0 ∧ (gt S id).opn = false ∧ known id = true) ∨ ((errBeg S id v = 1 ∨ errBeg S id v = 6) ∧ aftBeg S id v = S) := by
  by_cases h : okSee id v = true
  · have hk : known id = true := by unfold okSee at h; simp only [Bool.and_eq_true] at h; exact h.1
    by_cases ho : (gt S id).opn = true
    · have e : errBeg S id v = 6 := by unfold errBeg; rw [if_pos h, if_pos ho]
      exact .inr ⟨.inr e, by unfold aftBeg; rw [e]; rfl⟩
    · have e : errBeg S id v = 0 := by unfold errBeg; rw [if_pos h, if_neg ho]
      exact .inl ⟨e, by simpa using ho, hk⟩
  · have e : errBeg S id v = 1 := by unfold errBeg; rw [if_neg h]
    exact .inr ⟨.inl e, by unfold aftBeg; rw [e]; rfl⟩
theorem many_beg (hS : Z.Good S) {id : Int} {v : List Nat} (h : errBeg S id v = 0) (ho : (gt S id).opn = false) (hk : known id = true) : many (aftBeg S id v) = many S + 1 := by
  unfold aftBeg
  rw [if_pos h]
  have := many_set hS hk (begS (gt S id) v)
  rw [ho] at this
  simpa [begS] using this
theorem end_cases (hS : Z.Good S) (id : Int) : (∀ x ∈ snaps (aftEnd S id), x ∈ snaps S) ∧ ((errEnd S id = 0 ∧ many (aftEnd S id) + 1 = many S) ∨ (errEnd S id = 5 ∧ aftEnd S id = S)) := by
  by_cases ho : (gt S id).opn = true
  · have hk := opn_known ho
    have e : aftEnd S id = st S id (endS (gt S id)) := by unfold aftEnd; rw [if_pos ho]
    refine ⟨fun x hx => ?_, .inl ⟨by unfold errEnd; rw [if_pos ho], ?_⟩⟩
    · rw [e] at hx
      obtain ⟨y, hy, rfl⟩ := List.mem_map.1 hx
      obtain ⟨h1, h2⟩ := List.mem_filter.1 hy
      refine List.mem_map.2 ⟨y, List.mem_filter.2 ⟨?_, h2⟩, rfl⟩
      rcases List.mem_or_eq_of_mem_set h1 with h3 | h3
      · exact h3
      · rw [h3] at h2; cases h2
    · rw [e]
      have := many_set hS hk (endS (gt S id))
      rw [if_pos ho] at this
      simpa [endS] using this
  · have e : aftEnd S id = S := by unfold aftEnd; rw [if_neg ho]
    exact ⟨fun x hx => by rw [e] at hx; exact hx, .inr ⟨by unfold errEnd; rw [if_neg ho], e⟩⟩
/-- what is met up to the j-th session -/
def mt (S : List Ss) (s : List Nat) (j : Nat) : List Nat := (snaps (S.take j)).foldl V.meet s
theorem mt_step (hS : Z.Good S) (j : Nat) (hj : j < 8) : mt S s (j + 1) = if (gt S ((j : Int) + 1)).opn = true then V.meet (mt S s j) (gt S ((j : Int) + 1)).snap else mt S s j := by
  have hg := gt_known hS.len ((known_iff ((j : Int) + 1)).2 (by omega))
  rw [show ((j : Int) + 1 - 1).toNat = j by omega] at hg
  unfold mt
  rw [snaps_step S j _ hg, List.foldl_append]
  split <;> rfl
theorem mt_len (hS : Z.Good S) (hs : V.Ok s) (j : Nat) : (mt S s j).length = 4 := (fold_le _ s hs.1 (fun x hx => by
  obtain ⟨y, hy, rfl⟩ := List.mem_map.1 hx
  exact (hS.ok y (List.mem_of_mem_take (List.mem_filter.1 hy).1)).snap.1)).1
theorem mt_end (hS : Z.Good S) (hs : V.Ok s) : mt S s 8 = horizon S s := by
  unfold mt
  rw [List.take_of_length_le (by rw [hS.len]; exact Nat.le_refl _), hz_fold hS hs]
theorem snap_in (hS : Z.Good S) {id : Int} (ho : (gt S id).opn = true) : (gt S id).snap ∈ snaps S := by
  have hg := gt_known hS.len (opn_known ho)
  exact List.mem_map.2 ⟨_, List.mem_filter.2 ⟨List.mem_of_getElem? hg, ho⟩, rfl⟩
end

theorem Try.elem_vp : Try.prog.elem 80 = 27 := by kernel_rfl
theorem index_vp (b o n cap j : Nat) (hj : j < n) (w : World) : (Instr.indexAt 80 (.slice (some ⟨b, o, none⟩) n cap) (.int .i64 (j : Int))).run Try.prog w = .ok (.pointer (some ⟨b, o + 5 * j, none⟩)) w := run_index Try.elem_vp Try.underlying80 Try.sizeOf27 b o n cap j hj w
theorem size_vp : (Try.prog.info? 27).map (·.size) = some 5 := by kernel_rfl
set_option maxHeartbeats 32000000 in
set_option maxRecDepth 100000 in
theorem walk (dv0 : Value) (VL0 : List Vp) (a1 : List Nat) (o1 : Bool) (a2 : Int) (w1 : V.Ok a1) (w2 : (Lit.int .u8 a2).wf = true) (w : World) (w0 : Rw.IsR vpk w dv0 VL0) (m0 : ∀ x ∈ VL0, V.Ok x.1) :
    Calls Try.prog 5 #[dv0, VV a1 o1, .int .u8 a2] w fun e w' => e = .returned (.bool true) ∧ Below w.heap.size w w' := by
  obtain ⟨sa, ca, rfl, hca, hma, _⟩ := w0.is
  have HVW := Lib.hid w0
  have HVM := Lib.hid m0
  obtain ⟨n, HN⟩ : ∃ n, Hid (VL0.length = n) := ⟨_, rfl⟩
  rw [HN.out] at HVW
  rw [HN.out]
  have h02 : 0 ≤ a2 ∧ a2 ≤ 255 := by simpa [Lit.wf, IntKind.min, IntKind.max, IntKind.signed, IntKind.bits] using w2
  obtain ⟨E, rfl⟩ : ∃ E : Nat, a2 = (E : Int) := ⟨a2.toNat, by omega⟩
  obtain ⟨r, hr⟩ : ∃ r, E % 8 = r := ⟨_, rfl⟩
  have hr8 : r < 8 := by omega
  have e1 : Hid ((E : Int).tmod 8 = (r : Int) ∧ (E : Int) % 8 = (r : Int)) := ⟨by rw [Int.tmod_eq_emod_of_nonneg (by omega), ← hr]; rfl, by rw [← hr]; rfl⟩
  have e2 : Hid (IntKind.u8.wrap (r : Int) = (r : Int)) := by
    show _ = _
    have h2 : (r : Int) % 256 = r := Int.emod_eq_of_lt (by omega) (by omega)
    simpa [IntKind.wrap, IntKind.bits, IntKind.signed] using h2
  have e3 : Hid (IntKind.i64.wrap (r : Int) = (r : Int)) := by show _ = _; rw [IntKind.wrap_i64]; omega
  obtain ⟨kk, hkk⟩ : ∃ kk : Int, kk = 1 + (r : Int) := ⟨_, rfl⟩
  have e4 : Hid (IntKind.i64.wrap (1 + (r : Int)) = kk) := by show _ = _; rw [IntKind.wrap_i64]; omega
  obtain ⟨s, HSV⟩ : ∃ s, Hid (V.few a1 o1 = s) := ⟨_, rfl⟩
  have HSO : Hid (V.Ok s) := by show V.Ok _; rw [← HSV.out]; exact V.few_ok w1 o1
  have CV := Lib.hid (fun u => vector_any a1 o1 u w1)
  rw [HSV.out] at CV
  have HSZ : Hid ((Try.prog.info? 25).map (·.size) = some (ks .u64 s).length) := by show _ = _; rw [ks_length]; exact size_v HSO.out.1
  have HLN : Hid ((ks .u64 s).length = (ks .u64 [0, 0, 0, 0]).length) := by show _ = _; rw [ks_length, HSO.out.1]; rfl
  have HSV5 : Hid ((Try.prog.info? 27).map (·.size) = some (ks .u64 a1 ++ [Value.bool o1]).length) := by show _ = _; rw [List.length_append, ks_length, w1.1]; exact size_vp
  clear hca hma m0 w0 w1 w2 hr hr8 hkk h02
  go_enter Try.func5, Try.ntmps5
  go_wp2_with (first | refine blk_box rfl 27 _ rfl (ks .u64 a1 ++ [Value.bool o1]) rfl ?_)
  intro u1 A1 B1 Z1
  have S1 := Lib.hid ((Sep.start w).box B1 Z1 A1)
  clear A1 B1 Z1
  go_wp2_with fail
  refine (examples_any _).mono ?_; rintro e u2 ⟨rfl, hb⟩
  have CN := Lib.hid (newtab_any (S1.out.below hb))
  clear hb S1
  go_wp2_with fail
  refine (CN.out).mono ?_; rintro e w1 ⟨b, rfl, ht⟩
  have H1 := Lib.hid ht
  clear ht CN
  go_wp2_with (first | refine blk_load rfl 27 _ rfl w.heap.size rfl (ks .u64 a1 ++ [Value.bool o1]) (H1.out.sep.blk 0 rfl) _ Try.underlying27 rfl HSV5.out ?_)
  refine (CV.out _).mono ?_; rintro e w2 ⟨rfl, hb⟩
  have H2 := Lib.hid (H1.out.below hb)
  clear hb H1
  go_wp2_with (first | refine blk_alloc rfl 25 (ks .u64 [0, 0, 0, 0]) rfl Try.info_v ?_)
  intro w3 A3 B3 Z3
  have HA := Lib.hid A3
  have HB := Lib.hid B3
  have HZ := Lib.hid Z3
  clear A3 B3 Z3
  go_wp2_with (first | refine blk_store rfl 25 _ _ rfl w2.heap.size rfl (ks .u64 s) rfl (ks .u64 [0, 0, 0, 0]) HA.out HLN.out HSZ.out (ks_all _ _) ?_)
  intro w4 A4 U4
  have H4 := Lib.hid (H2.out.fresh HB.out HZ.out U4 A4)
  clear A4 U4 HA HB HZ H2
  obtain ⟨bs, HBS⟩ : ∃ bs, Hid (w2.heap.size = bs) := ⟨_, rfl⟩
  rw [HBS.out] at H4
  rw [HBS.out]
  have HL0 : Hid (∃ S, Tab w w4 b S [rB bs (ks .u64 s)] ∧ many S = 0) := ⟨S0, H4.out.sub (List.Sublist.cons_cons _ (List.nil_sublist _)), rfl⟩
  clear H4 HBS CV HSV5
  go_wp2_with fail
  go_loopw [10, 11] (fun z x wr => ∃ i o9 : Nat, i ≤ 8 ∧ o9 ≤ i ∧ x = .int .i64 i ∧ z = .int .i64 o9 ∧ Hid (∃ S, Tab w wr b S [rB bs (ks .u64 s)] ∧ many S = o9)) (fun _ x _ => 8 - (intOf x).toNat)
  case atStart => exact ⟨0, 0, by omega, by omega, rfl, rfl, HL0⟩
  case round =>
    obtain ⟨i, o9, hi, ho9, rfl, rfl, HLr⟩ := hrel
    clear HL0
    by_cases k1 : i < n
    · have i1 : (i : Int) < (n : Int) := by omega
      by_cases k3 : i < 8
      · have i3 : (i : Int) < 8 := by omega
        obtain ⟨S, hT, hMN⟩ := HLr.out
        have HMN := Lib.hid hMN
        have H20 := Lib.hid hT
        have hbw := hT.under
        obtain ⟨g, off, cap', hv, hg, hrow⟩ := IsR.at (HVW.out.below hbw) i (by rw [HN.out]; exact k1)
        rw [HN.out] at hv
        simp only [Value.slice.injEq, true_and] at hv
        obtain ⟨rfl, rfl⟩ := hv
        have hV := HVM.out _ (List.mem_of_getElem? (getD_some (show i < VL0.length by rw [HN.out]; exact k1) vpk.none_))
        obtain ⟨⟨a7, o7⟩, hVV⟩ : ∃ z, VL0.getD i vpk.none_ = z := ⟨_, rfl⟩
        rw [hVV] at hrow hV
        have hV : V.Ok a7 := hV
        have hrow : wr.rangeAt g (off + 5 * i) (vpcell (a7, o7)) := hrow
        rw [vpcell_eq hV.len] at hrow
        have HRW := Lib.hid hrow
        have CV := Lib.hid (fun u => vector_any a7 o7 u hV)
        obtain ⟨l, HLV⟩ : ∃ l, Hid (V.few a7 o7 = l) := ⟨_, rfl⟩
        rw [HLV.out] at CV
        have HLO : Hid (V.Ok l) := by show V.Ok _; rw [← HLV.out]; exact V.few_ok hV o7
        have HS5 : Hid ((Try.prog.info? 27).map (·.size) = some (ks .u64 a7 ++ [Value.bool o7]).length) := by show _ = _; rw [List.length_append, ks_length, hV.len]; exact size_vp
        have hixv : ∀ w, (Instr.indexAt 80 (.slice (some ⟨g, off, none⟩) n ca) (.int .i64 (i : Int))).run Try.prog w = .ok (.pointer (some ⟨g, off + 5 * i, none⟩)) w := fun w => index_vp g off n ca i k1 w
        have ei : IntKind.i64.wrap ((i : Int) + 1) = ((i + 1 : Nat) : Int) := by rw [IntKind.wrap_i64]; omega
        have eo : IntKind.i64.wrap ((o9 : Int) + 1) = ((o9 + 1 : Nat) : Int) := by rw [IntKind.wrap_i64]; omega
        clear hbw hrow hV hVV hT hMN HLr hg
        go_wp2_with (first | refine mid_load rfl 27 _ rfl g (off + 5 * i) rfl (ks .u64 a7 ++ [Value.bool o7]) HRW.out _ Try.underlying27 rfl HS5.out ?_)
        refine (CV.out _).mono ?_; rintro e w21 ⟨rfl, hb⟩
        have H21 := Lib.hid (H20.out.below hb)
        have C := Lib.hid (tbegin_any H21.out ((i + 1 : Nat) : Int) l HLO.out)
        have HG := Lib.hid H21.out.good
        clear hb H20 CV HRW
        rcases errBeg_cases (S := S) ((i + 1 : Nat) : Int) l with ⟨z0, z1, z2⟩ | ⟨z0, z1⟩
        · have HMB : Hid (many (aftBeg S ((i + 1 : Nat) : Int) l) = o9 + 1) := by show _ = _; rw [many_beg HG.out z0 z1 z2, HMN.out]
          rw [z0] at C
          clear z0 z1 z2
          go_wp2_with fail
          refine (C.out).mono ?_; rintro e w22 ⟨rfl, ht⟩
          have HNX : Hid (∃ S, Tab w w22 b S [rB bs (ks .u64 s)] ∧ many S = o9 + 1) := ⟨_, ht, HMB.out⟩
          clear ht C
          go_wp2_with fail
          go_roundw
          case rel => exact ⟨i + 1, o9 + 1, by omega, by omega, by go_num, by go_num, HNX⟩
          case measure => simp [intOf]; omega
        · rw [z1] at C
          rcases z0 with z0 | z0
          all_goals
            rw [z0] at C
            clear z0 z1
            go_wp2_with fail
            refine (C.out).mono ?_; rintro e w22 ⟨rfl, ht⟩
            have HNX : Hid (∃ S, Tab w w22 b S [rB bs (ks .u64 s)] ∧ many S = o9) := ⟨_, ht, HMN.out⟩
            clear ht C
            go_wp2_with fail
            go_roundw
            case rel => exact ⟨i + 1, o9, by omega, by omega, by go_num, rfl, HNX⟩
            case measure => simp [intOf]; omega
      · have i3 : decide ((i : Int) < 8) = false := by simp; omega
        obtain ⟨S, hT, hMN⟩ := HLr.out
        have HMN := Lib.hid hMN
        have H30 := Lib.hid hT
        have HG := Lib.hid hT.good
        clear hT hMN HLr
        obtain ⟨h, HH⟩ : ∃ h, Hid (horizon S s = h) := ⟨_, rfl⟩
        have HH4 : Hid (h.length = 4) := by show _ = _; rw [← HH.out]; exact hz_len HG.out HSO.out
        have HHZ : Hid ((Try.prog.info? 25).map (·.size) = some (ks .u64 h).length) := by show _ = _; rw [ks_length]; exact size_v HH4.out
        have HHL : Hid ((ks .u64 h).length = (ks .u64 [0, 0, 0, 0]).length) := by show _ = _; rw [ks_length, HH4.out]; rfl
        have C := Lib.hid (thor_any H30.out s HSO.out)
        rw [HH.out] at C
        go_wp2_with (first | refine blk_load rfl 25 _ rfl bs rfl (ks .u64 s) (H30.out.sep.blk 0 rfl) _ Try.underlying25 rfl HSZ.out ?_)
        refine (C.out).mono ?_; rintro e w31 ⟨rfl, hb⟩
        have H31 := Lib.hid (H30.out.below hb)
        clear hb C H30
        go_wp2_with (first | refine blk_alloc rfl 25 (ks .u64 [0, 0, 0, 0]) rfl Try.info_v ?_)
        intro w32 A32 B32 Z32
        have HA := Lib.hid A32
        have HB := Lib.hid B32
        have HZ := Lib.hid Z32
        clear A32 B32 Z32
        go_wp2_with (first | refine blk_store rfl 25 _ _ rfl w31.heap.size rfl (ks .u64 h) rfl (ks .u64 [0, 0, 0, 0]) HA.out HHL.out HHZ.out (ks_all _ _) ?_)
        intro w33 A33 U33
        have H33 := Lib.hid (H31.out.fresh HB.out HZ.out U33 A33)
        clear A33 U33 HA HB HZ H31
        obtain ⟨bh, HBH⟩ : ∃ bh, Hid (w31.heap.size = bh) := ⟨_, rfl⟩
        rw [HBH.out] at H33
        rw [HBH.out]
        clear HBH
        go_wp2_with (first | refine blk_load rfl 25 _ rfl bs rfl (ks .u64 s) (H33.out.sep.blk 1 rfl) _ Try.underlying25 rfl HSZ.out ?_ | refine blk_alloc rfl 25 (ks .u64 [0, 0, 0, 0]) rfl Try.info_v ?_)
        intro w34 A B Z
        have HA := Lib.hid A
        have HB := Lib.hid B
        have HZ := Lib.hid Z
        clear A B Z
        go_wp2_with (first | refine blk_store rfl 25 _ _ rfl w33.heap.size rfl (ks .u64 s) rfl (ks .u64 [0, 0, 0, 0]) HA.out HLN.out HSZ.out (ks_all _ _) ?_)
        intro w35 A U
        have H35 := Lib.hid (H33.out.fresh HB.out HZ.out U A)
        clear A U HA HB HZ H33
        obtain ⟨bm, HBM⟩ : ∃ bm, Hid (w33.heap.size = bm) := ⟨_, rfl⟩
        rw [HBM.out] at H35
        rw [HBM.out]
        clear HBM
        have HI0 : Hid (Tab w w35 b S [rB bm (ks .u64 (mt S s 0)), rB bh (ks .u64 h), rB bs (ks .u64 s)]) := H35.out
        clear H35
        go_wp2_with fail
        go_loopw [14, 15, 16] (fun x y1 y2 wq => ∃ j : Nat, j ≤ 8 ∧ x = .int .i64 ((j + 1 : Nat) : Int) ∧ Hid (Tab w wq b S [rB bm (ks .u64 (mt S s j)), rB bh (ks .u64 h), rB bs (ks .u64 s)])) (fun x _ _ _ => 9 - (intOf x).toNat)
        case atStart => exact ⟨0, by omega, rfl, HI0⟩
        case round =>
          obtain ⟨j, hj, rfl, HIr⟩ := hrel
          clear HI0
          obtain ⟨id, hid⟩ : ∃ id : Nat, id = j + 1 := ⟨_, rfl⟩
          rw [← hid]
          by_cases kj : j < 8
          · have ij : (id : Int) ≤ 8 := by omega
            have eid : ((j : Int) + 1) = (id : Int) := by omega
            have hst := mt_step (s := s) HG.out j kj
            rw [eid] at hst
            obtain ⟨mm, HMM⟩ : ∃ mm, Hid (mt S s j = mm) := ⟨_, rfl⟩
            have HM4 : Hid (mm.length = 4) := by show _ = _; rw [← HMM.out]; exact mt_len HG.out HSO.out j
            have HMZ : Hid ((Try.prog.info? 25).map (·.size) = some (ks .u64 mm).length) := by show _ = _; rw [ks_length]; exact size_v HM4.out
            rw [HMM.out] at HIr hst
            obtain ⟨x, HX⟩ : ∃ x, Hid ((gt S (id : Int)).snap = x) := ⟨_, rfl⟩
            obtain ⟨q, HQ⟩ : ∃ q, Hid ((gt S (id : Int)).opn = q) := ⟨_, rfl⟩
            have HX4 : Hid (x.length = 4) := by show _ = _; rw [← HX.out]; exact (gt_ok HG.out.ok _).snap.1
            have HXZ : Hid ((Try.prog.info? 25).map (·.size) = some (ks .u64 x).length) := by show _ = _; rw [ks_length]; exact size_v HX4.out
            have HXL : Hid ((ks .u64 x).length = (ks .u64 [0, 0, 0, 0]).length) := by show _ = _; rw [ks_length, HX4.out]; rfl
            rw [HX.out, HQ.out] at hst
            have HST := Lib.hid hst
            have HID := Lib.hid hid
            have eI : IntKind.i64.wrap ((id : Int) + 1) = ((id + 1 : Nat) : Int) := by rw [IntKind.wrap_i64]; omega
            have C := Lib.hid (tsnap_any HIr.out (id : Int))
            rw [HX.out, HQ.out] at C
            clear hst hid eid
            go_wp2_with fail
            refine (C.out).mono ?_; rintro e w50 ⟨rfl, hb⟩
            have H50 := Lib.hid (HIr.out.below hb)
            clear hb C HIr
            go_wp2_with (first | refine blk_alloc rfl 25 (ks .u64 [0, 0, 0, 0]) rfl Try.info_v ?_)
            intro w51 A51 B51 Z51
            have HA := Lib.hid A51
            have HB := Lib.hid B51
            have HZ := Lib.hid Z51
            clear A51 B51 Z51
            go_wp2_with (first | refine blk_store rfl 25 _ _ rfl w50.heap.size rfl (ks .u64 x) rfl (ks .u64 [0, 0, 0, 0]) HA.out HXL.out HXZ.out (ks_all _ _) ?_)
            intro w52 A52 U52
            have H52 := Lib.hid (H50.out.fresh HB.out HZ.out U52 A52)
            clear A52 U52 HA HB HZ H50
            cases q with
            | false =>
              have HNX : Hid (Tab w w52 b S [rB bm (ks .u64 (mt S s (j + 1))), rB bh (ks .u64 h), rB bs (ks .u64 s)]) := by
                show Tab _ _ _ _ _
                rw [HST.out]
                exact H52.out.less
              clear H52
              go_wp2_with fail
              go_roundw
              case rel => exact ⟨j + 1, by omega, by rw [HID.out]; first | rfl | go_num, HNX⟩
              case measure => simp [intOf]; omega
            | true =>
              have hlq : V.leq h x = true := by rw [← HH.out, ← HX.out]; exact hz_leq HG.out HSO.out (List.mem_append_left _ (snap_in HG.out HQ.out))
              have CL := Lib.hid (fun u => leq_any h x u HH4.out HX4.out)
              rw [hlq] at CL
              have CM := Lib.hid (fun u => meet_any mm x u HM4.out HX4.out)
              obtain ⟨y, HY⟩ : ∃ y, Hid (V.meet mm x = y) := ⟨_, rfl⟩
              rw [HY.out] at CM
              have HY4 : Hid (y.length = 4) := by show _ = _; rw [← HY.out]; exact V.meet_length HM4.out HX4.out
              have HYZ : Hid ((Try.prog.info? 25).map (·.size) = some (ks .u64 y).length) := by show _ = _; rw [ks_length]; exact size_v HY4.out
              clear hlq
              go_wp2_with (first | refine blk_loadg (by rfl) 25 _ rfl bh rfl (ks .u64 h) (H52.out.sep.blk 2 rfl) _ Try.underlying25 rfl HHZ.out ?_ | refine blk_loadg (by rfl) 25 _ rfl w50.heap.size rfl (ks .u64 x) (H52.out.sep.blk 0 rfl) _ Try.underlying25 rfl HXZ.out ?_)
              refine (CL.out _).mono ?_; rintro e w53 ⟨rfl, hb⟩
              have H53 := Lib.hid (H52.out.below hb)
              clear hb CL H52
              go_wp2_with (first | refine blk_load rfl 25 _ rfl bm rfl (ks .u64 mm) (H53.out.sep.blk 1 rfl) _ Try.underlying25 rfl HMZ.out ?_ | refine blk_load rfl 25 _ rfl w50.heap.size rfl (ks .u64 x) (H53.out.sep.blk 0 rfl) _ Try.underlying25 rfl HXZ.out ?_)
              refine (CM.out _).mono ?_; rintro e w54 ⟨rfl, hb⟩
              have H54 := Lib.hid (H53.out.below hb)
              clear hb CM H53
              go_wp2_with (first | refine blk_store rfl 25 _ _ rfl bm rfl (ks .u64 y) rfl (ks .u64 mm) (H54.out.sep.blk 1 rfl) (by rw [ks_length, ks_length, HY4.out, HM4.out]) HYZ.out (ks_all _ _) ?_)
              intro w55 A U
              have HNX : Hid (Tab w w55 b S [rB bm (ks .u64 (mt S s (j + 1))), rB bh (ks .u64 h), rB bs (ks .u64 s)]) := by
                show Tab _ _ _ _ _
                rw [HST.out]
                first | rw [if_pos rfl, HY.out] | rw [if_pos True.intro, HY.out]
                exact (H54.out.upd 1 rfl U A).less
              clear A U H54
              go_wp2_with fail
              go_roundw
              case rel => exact ⟨j + 1, by omega, by rw [HID.out]; first | rfl | go_num, HNX⟩
              case measure => simp [intOf]; omega
          · obtain rfl : j = 8 := by omega
            obtain rfl : id = 9 := by omega
            rw [mt_end HG.out HSO.out, HH.out] at HIr
            obtain ⟨hsub, hend⟩ := end_cases HG.out kk
            have C := Lib.hid (tend_any HIr.out kk)
            obtain ⟨S9, HS9⟩ : ∃ S9, Hid (aftEnd S kk = S9) := ⟨_, rfl⟩
            rw [HS9.out] at C hsub hend
            have HSUB := Lib.hid hsub
            obtain ⟨er, HER⟩ : ∃ er, Hid (errEnd S kk = er) := ⟨_, rfl⟩
            rw [HER.out] at C hend
            obtain ⟨o8, HO8⟩ : ∃ o8 : Nat, Hid (many S9 = o8) := ⟨_, rfl⟩
            rw [HO8.out, HMN.out] at hend
            have HEND := Lib.hid hend
            have p1 := e1.out.1
            have p2 := e1.out.2
            have p3 := e2.out
            have p4 := e3.out
            have p5 := e4.out
            clear hsub hend
            go_wp2_with fail
            clear p1 p2 p3 p4 p5
            refine (C.out).mono ?_; rintro e w60 ⟨rfl, ht⟩
            have H60 := Lib.hid ht
            have HG9 := Lib.hid ht.good
            clear ht C HIr
            obtain ⟨h9, HH9⟩ : ∃ h9, Hid (horizon S9 s = h9) := ⟨_, rfl⟩
            have HH94 : Hid (h9.length = 4) := by show _ = _; rw [← HH9.out]; exact hz_len HG9.out HSO.out
            have HHZ9 : Hid ((Try.prog.info? 25).map (·.size) = some (ks .u64 h9).length) := by show _ = _; rw [ks_length]; exact size_v HH94.out
            have HHL9 : Hid ((ks .u64 h9).length = (ks .u64 [0, 0, 0, 0]).length) := by show _ = _; rw [ks_length, HH94.out]; rfl
            have C := Lib.hid (thor_any H60.out s HSO.out)
            rw [HH9.out] at C
            have CL1 := Lib.hid (fun u => leq_any h s u HH4.out HSO.out.1)
            have CL2 := Lib.hid (fun u => leq_any h h9 u HH4.out HH94.out)
            have hl1 : V.leq h s = true := by rw [← HH.out]; exact hz_leq HG.out HSO.out (List.mem_append_right _ (List.mem_singleton_self _))
            have hl2 : V.leq h h9 = true := by rw [← HH.out, ← HH9.out]; exact hz_more HG.out HSO.out HG9.out HSUB.out
            rw [hl1] at CL1
            rw [hl2] at CL2
            clear hl1 hl2
            have hgv : ∀ u, (Op.equalIn 10000 25 (.agg (ks .u64 h).toArray) (.agg (ks .u64 h).toArray)).run Try.prog u = .ok true u := fun u => by
              have h9 := eq_v h h HH4.out HH4.out u
              rw [decide_eq_true rfl] at h9
              exact h9
            go_wp2_with (first | refine blk_load rfl 25 _ rfl bs rfl (ks .u64 s) (H60.out.sep.blk 2 rfl) _ Try.underlying25 rfl HSZ.out ?_)
            refine (C.out).mono ?_; rintro e w61 ⟨rfl, hb⟩
            have H61 := Lib.hid (H60.out.below hb)
            clear hb C H60
            go_wp2_with (first | refine blk_alloc rfl 25 (ks .u64 [0, 0, 0, 0]) rfl Try.info_v ?_)
            intro w62 A62 B62 Z62
            have HA := Lib.hid A62
            have HB := Lib.hid B62
            have HZ := Lib.hid Z62
            clear A62 B62 Z62
            go_wp2_with (first | refine blk_store rfl 25 _ _ rfl w61.heap.size rfl (ks .u64 h9) rfl (ks .u64 [0, 0, 0, 0]) HA.out HHL9.out HHZ9.out (ks_all _ _) ?_)
            intro w63 A63 U63
            have H63 := Lib.hid (H61.out.fresh HB.out HZ.out U63 A63)
            clear A63 U63 HA HB HZ H61
            have CM := Lib.hid (tmany_any H63.out)
            rw [HO8.out] at CM
            rcases HEND.out with ⟨z1, z2⟩ | ⟨z1, z2⟩
            · subst z1
              have e9 : IntKind.i64.wrap ((o9 : Int) - 1) = (o8 : Int) := by rw [IntKind.wrap_i64]; omega
              go_wp2_with (first | refine blk_loadg (by rfl) 25 _ rfl bh rfl (ks .u64 h) (H63.out.sep.blk 2 rfl) _ Try.underlying25 rfl HHZ.out ?_ | refine blk_loadg (by rfl) 25 _ rfl bm rfl (ks .u64 h) (H63.out.sep.blk 1 rfl) _ Try.underlying25 rfl HHZ.out ?_ | refine blk_loadg (by rfl) 25 _ rfl bs rfl (ks .u64 s) (H63.out.sep.blk 3 rfl) _ Try.underlying25 rfl HSZ.out ?_)
              refine (CL1.out _).mono ?_; rintro e w64 ⟨rfl, hb⟩
              have H64 := Lib.hid (H63.out.below hb)
              clear hb CL1
              go_wp2_with (first | refine blk_loadg (by rfl) 25 _ rfl bh rfl (ks .u64 h) (H64.out.sep.blk 2 rfl) _ Try.underlying25 rfl HHZ.out ?_ | refine blk_loadg (by rfl) 25 _ rfl w61.heap.size rfl (ks .u64 h9) (H64.out.sep.blk 0 rfl) _ Try.underlying25 rfl HHZ9.out ?_)
              refine (CL2.out _).mono ?_; rintro e w65 ⟨rfl, hb⟩
              have H65 := Lib.hid (H64.out.below hb)
              have CM2 := Lib.hid (tmany_any H65.out)
              rw [HO8.out] at CM2
              clear hb CL2
              go_wp2_with fail
              refine (CM2.out).mono ?_; rintro e w66 ⟨rfl, hb⟩
              have H66 := Lib.hid (H65.out.below hb)
              have HF := Lib.hid (H66.out.under)
              clear hb CM2
              by_cases ho : 0 < o9
              · have io : (0 : Int) < (o9 : Int) := by omega
                go_wp2_with fail
                go_ret
                exact ⟨rfl, HF.out⟩
              · obtain rfl : o9 = 0 := by omega
                have hhs : h = s := by rw [← HH.out]; exact hz_none HMN.out
                subst hhs
                go_wp2_with (first | refine blk_loadg (by rfl) 25 _ rfl bh rfl (ks .u64 h) (H66.out.sep.blk 2 rfl) _ Try.underlying25 rfl HHZ.out ?_ | refine blk_loadg (by rfl) 25 _ rfl bs rfl (ks .u64 h) (H66.out.sep.blk 3 rfl) _ Try.underlying25 rfl HHZ.out ?_)
                go_ret
                exact ⟨rfl, HF.out⟩
            · subst z1
              obtain rfl : o8 = o9 := by rw [← HO8.out, z2]; exact HMN.out
              clear z2
              go_wp2_with (first | refine blk_loadg (by rfl) 25 _ rfl bh rfl (ks .u64 h) (H63.out.sep.blk 2 rfl) _ Try.underlying25 rfl HHZ.out ?_ | refine blk_loadg (by rfl) 25 _ rfl bm rfl (ks .u64 h) (H63.out.sep.blk 1 rfl) _ Try.underlying25 rfl HHZ.out ?_ | refine blk_loadg (by rfl) 25 _ rfl bs rfl (ks .u64 s) (H63.out.sep.blk 3 rfl) _ Try.underlying25 rfl HSZ.out ?_)
              refine (CL1.out _).mono ?_; rintro e w64 ⟨rfl, hb⟩
              have H64 := Lib.hid (H63.out.below hb)
              clear hb CL1
              go_wp2_with (first | refine blk_loadg (by rfl) 25 _ rfl bh rfl (ks .u64 h) (H64.out.sep.blk 2 rfl) _ Try.underlying25 rfl HHZ.out ?_ | refine blk_loadg (by rfl) 25 _ rfl w61.heap.size rfl (ks .u64 h9) (H64.out.sep.blk 0 rfl) _ Try.underlying25 rfl HHZ9.out ?_)
              refine (CL2.out _).mono ?_; rintro e w65 ⟨rfl, hb⟩
              have H65 := Lib.hid (H64.out.below hb)
              have CM2 := Lib.hid (tmany_any H65.out)
              rw [HO8.out] at CM2
              clear hb CL2
              go_wp2_with fail
              refine (CM2.out).mono ?_; rintro e w66 ⟨rfl, hb⟩
              have H66 := Lib.hid (H65.out.below hb)
              have HF := Lib.hid (H66.out.under)
              clear hb CM2
              by_cases ho : 0 < o8
              · have io : (0 : Int) < (o8 : Int) := by omega
                go_wp2_with fail
                go_ret
                exact ⟨rfl, HF.out⟩
              · obtain rfl : o8 = 0 := by omega
                have hhs : h = s := by rw [← HH.out]; exact hz_none HMN.out
                subst hhs
                go_wp2_with (first | refine blk_loadg (by rfl) 25 _ rfl bh rfl (ks .u64 h) (H66.out.sep.blk 2 rfl) _ Try.underlying25 rfl HHZ.out ?_ | refine blk_loadg (by rfl) 25 _ rfl bs rfl (ks .u64 h) (H66.out.sep.blk 3 rfl) _ Try.underlying25 rfl HHZ.out ?_)
                go_ret
                exact ⟨rfl, HF.out⟩
    · have i1 : decide ((i : Int) < (n : Int)) = false := by simp; omega
      obtain ⟨S, hT, hMN⟩ := HLr.out
      have HMN := Lib.hid hMN
      have H30 := Lib.hid hT
      have HG := Lib.hid hT.good
      clear hT hMN HLr
      obtain ⟨h, HH⟩ : ∃ h, Hid (horizon S s = h) := ⟨_, rfl⟩
      have HH4 : Hid (h.length = 4) := by show _ = _; rw [← HH.out]; exact hz_len HG.out HSO.out
      have HHZ : Hid ((Try.prog.info? 25).map (·.size) = some (ks .u64 h).length) := by show _ = _; rw [ks_length]; exact size_v HH4.out
      have HHL : Hid ((ks .u64 h).length = (ks .u64 [0, 0, 0, 0]).length) := by show _ = _; rw [ks_length, HH4.out]; rfl
      have C := Lib.hid (thor_any H30.out s HSO.out)
      rw [HH.out] at C
      go_wp2_with (first | refine blk_load rfl 25 _ rfl bs rfl (ks .u64 s) (H30.out.sep.blk 0 rfl) _ Try.underlying25 rfl HSZ.out ?_)
      refine (C.out).mono ?_; rintro e w31 ⟨rfl, hb⟩
      have H31 := Lib.hid (H30.out.below hb)
      clear hb C H30
      go_wp2_with (first | refine blk_alloc rfl 25 (ks .u64 [0, 0, 0, 0]) rfl Try.info_v ?_)
      intro w32 A32 B32 Z32
      have HA := Lib.hid A32
      have HB := Lib.hid B32
      have HZ := Lib.hid Z32
      clear A32 B32 Z32
      go_wp2_with (first | refine blk_store rfl 25 _ _ rfl w31.heap.size rfl (ks .u64 h) rfl (ks .u64 [0, 0, 0, 0]) HA.out HHL.out HHZ.out (ks_all _ _) ?_)
      intro w33 A33 U33
      have H33 := Lib.hid (H31.out.fresh HB.out HZ.out U33 A33)
      clear A33 U33 HA HB HZ H31
      obtain ⟨bh, HBH⟩ : ∃ bh, Hid (w31.heap.size = bh) := ⟨_, rfl⟩
      rw [HBH.out] at H33
      rw [HBH.out]
      clear HBH
      go_wp2_with (first | refine blk_load rfl 25 _ rfl bs rfl (ks .u64 s) (H33.out.sep.blk 1 rfl) _ Try.underlying25 rfl HSZ.out ?_ | refine blk_alloc rfl 25 (ks .u64 [0, 0, 0, 0]) rfl Try.info_v ?_)
      intro w34 A B Z
      have HA := Lib.hid A
      have HB := Lib.hid B
      have HZ := Lib.hid Z
      clear A B Z
      go_wp2_with (first | refine blk_store rfl 25 _ _ rfl w33.heap.size rfl (ks .u64 s) rfl (ks .u64 [0, 0, 0, 0]) HA.out HLN.out HSZ.out (ks_all _ _) ?_)
      intro w35 A U
      have H35 := Lib.hid (H33.out.fresh HB.out HZ.out U A)
      clear A U HA HB HZ H33
      obtain ⟨bm, HBM⟩ : ∃ bm, Hid (w33.heap.size = bm) := ⟨_, rfl⟩
      rw [HBM.out] at H35
      rw [HBM.out]
      clear HBM
      have HI0 : Hid (Tab w w35 b S [rB bm (ks .u64 (mt S s 0)), rB bh (ks .u64 h), rB bs (ks .u64 s)]) := H35.out
      clear H35
      go_wp2_with fail
      go_loopw [14, 15, 16] (fun x y1 y2 wq => ∃ j : Nat, j ≤ 8 ∧ x = .int .i64 ((j + 1 : Nat) : Int) ∧ Hid (Tab w wq b S [rB bm (ks .u64 (mt S s j)), rB bh (ks .u64 h), rB bs (ks .u64 s)])) (fun x _ _ _ => 9 - (intOf x).toNat)
      case atStart => exact ⟨0, by omega, rfl, HI0⟩
      case round =>
        obtain ⟨j, hj, rfl, HIr⟩ := hrel
        clear HI0
        obtain ⟨id, hid⟩ : ∃ id : Nat, id = j + 1 := ⟨_, rfl⟩
        rw [← hid]
        by_cases kj : j < 8
        · have ij : (id : Int) ≤ 8 := by omega
          have eid : ((j : Int) + 1) = (id : Int) := by omega
          have hst := mt_step (s := s) HG.out j kj
          rw [eid] at hst
          obtain ⟨mm, HMM⟩ : ∃ mm, Hid (mt S s j = mm) := ⟨_, rfl⟩
          have HM4 : Hid (mm.length = 4) := by show _ = _; rw [← HMM.out]; exact mt_len HG.out HSO.out j
          have HMZ : Hid ((Try.prog.info? 25).map (·.size) = some (ks .u64 mm).length) := by show _ = _; rw [ks_length]; exact size_v HM4.out
          rw [HMM.out] at HIr hst
          obtain ⟨x, HX⟩ : ∃ x, Hid ((gt S (id : Int)).snap = x) := ⟨_, rfl⟩
          obtain ⟨q, HQ⟩ : ∃ q, Hid ((gt S (id : Int)).opn = q) := ⟨_, rfl⟩
          have HX4 : Hid (x.length = 4) := by show _ = _; rw [← HX.out]; exact (gt_ok HG.out.ok _).snap.1
          have HXZ : Hid ((Try.prog.info? 25).map (·.size) = some (ks .u64 x).length) := by show _ = _; rw [ks_length]; exact size_v HX4.out
          have HXL : Hid ((ks .u64 x).length = (ks .u64 [0, 0, 0, 0]).length) := by show _ = _; rw [ks_length, HX4.out]; rfl
          rw [HX.out, HQ.out] at hst
          have HST := Lib.hid hst
          have HID := Lib.hid hid
          have eI : IntKind.i64.wrap ((id : Int) + 1) = ((id + 1 : Nat) : Int) := by rw [IntKind.wrap_i64]; omega
          have C := Lib.hid (tsnap_any HIr.out (id : Int))
          rw [HX.out, HQ.out] at C
          clear hst hid eid
          go_wp2_with fail
          refine (C.out).mono ?_; rintro e w50 ⟨rfl, hb⟩
          have H50 := Lib.hid (HIr.out.below hb)
          clear hb C HIr
          go_wp2_with (first | refine blk_alloc rfl 25 (ks .u64 [0, 0, 0, 0]) rfl Try.info_v ?_)
          intro w51 A51 B51 Z51
          have HA := Lib.hid A51
          have HB := Lib.hid B51
          have HZ := Lib.hid Z51
          clear A51 B51 Z51
          go_wp2_with (first | refine blk_store rfl 25 _ _ rfl w50.heap.size rfl (ks .u64 x) rfl (ks .u64 [0, 0, 0, 0]) HA.out HXL.out HXZ.out (ks_all _ _) ?_)
          intro w52 A52 U52
          have H52 := Lib.hid (H50.out.fresh HB.out HZ.out U52 A52)
          clear A52 U52 HA HB HZ H50
          cases q with
          | false =>
            have HNX : Hid (Tab w w52 b S [rB bm (ks .u64 (mt S s (j + 1))), rB bh (ks .u64 h), rB bs (ks .u64 s)]) := by
              show Tab _ _ _ _ _
              rw [HST.out]
              exact H52.out.less
            clear H52
            go_wp2_with fail
            go_roundw
            case rel => exact ⟨j + 1, by omega, by rw [HID.out]; first | rfl | go_num, HNX⟩
            case measure => simp [intOf]; omega
          | true =>
            have hlq : V.leq h x = true := by rw [← HH.out, ← HX.out]; exact hz_leq HG.out HSO.out (List.mem_append_left _ (snap_in HG.out HQ.out))
            have CL := Lib.hid (fun u => leq_any h x u HH4.out HX4.out)
            rw [hlq] at CL
            have CM := Lib.hid (fun u => meet_any mm x u HM4.out HX4.out)
            obtain ⟨y, HY⟩ : ∃ y, Hid (V.meet mm x = y) := ⟨_, rfl⟩
            rw [HY.out] at CM
            have HY4 : Hid (y.length = 4) := by show _ = _; rw [← HY.out]; exact V.meet_length HM4.out HX4.out
            have HYZ : Hid ((Try.prog.info? 25).map (·.size) = some (ks .u64 y).length) := by show _ = _; rw [ks_length]; exact size_v HY4.out
            clear hlq
            go_wp2_with (first | refine blk_loadg (by rfl) 25 _ rfl bh rfl (ks .u64 h) (H52.out.sep.blk 2 rfl) _ Try.underlying25 rfl HHZ.out ?_ | refine blk_loadg (by rfl) 25 _ rfl w50.heap.size rfl (ks .u64 x) (H52.out.sep.blk 0 rfl) _ Try.underlying25 rfl HXZ.out ?_)
            refine (CL.out _).mono ?_; rintro e w53 ⟨rfl, hb⟩
            have H53 := Lib.hid (H52.out.below hb)
            clear hb CL H52
            go_wp2_with (first | refine blk_load rfl 25 _ rfl bm rfl (ks .u64 mm) (H53.out.sep.blk 1 rfl) _ Try.underlying25 rfl HMZ.out ?_ | refine blk_load rfl 25 _ rfl w50.heap.size rfl (ks .u64 x) (H53.out.sep.blk 0 rfl) _ Try.underlying25 rfl HXZ.out ?_)
            refine (CM.out _).mono ?_; rintro e w54 ⟨rfl, hb⟩
            have H54 := Lib.hid (H53.out.below hb)
            clear hb CM H53
            go_wp2_with (first | refine blk_store rfl 25 _ _ rfl bm rfl (ks .u64 y) rfl (ks .u64 mm) (H54.out.sep.blk 1 rfl) (by rw [ks_length, ks_length, HY4.out, HM4.out]) HYZ.out (ks_all _ _) ?_)
            intro w55 A U
            have HNX : Hid (Tab w w55 b S [rB bm (ks .u64 (mt S s (j + 1))), rB bh (ks .u64 h), rB bs (ks .u64 s)]) := by
              show Tab _ _ _ _ _
              rw [HST.out]
              first | rw [if_pos rfl, HY.out] | rw [if_pos True.intro, HY.out]
              exact (H54.out.upd 1 rfl U A).less
            clear A U H54
            go_wp2_with fail
            go_roundw
            case rel => exact ⟨j + 1, by omega, by rw [HID.out]; first | rfl | go_num, HNX⟩
            case measure => simp [intOf]; omega
        · obtain rfl : j = 8 := by omega
          obtain rfl : id = 9 := by omega
          rw [mt_end HG.out HSO.out, HH.out] at HIr
          obtain ⟨hsub, hend⟩ := end_cases HG.out kk
          have C := Lib.hid (tend_any HIr.out kk)
          obtain ⟨S9, HS9⟩ : ∃ S9, Hid (aftEnd S kk = S9) := ⟨_, rfl⟩
          rw [HS9.out] at C hsub hend
          have HSUB := Lib.hid hsub
          obtain ⟨er, HER⟩ : ∃ er, Hid (errEnd S kk = er) := ⟨_, rfl⟩
          rw [HER.out] at C hend
          obtain ⟨o8, HO8⟩ : ∃ o8 : Nat, Hid (many S9 = o8) := ⟨_, rfl⟩
          rw [HO8.out, HMN.out] at hend
          have HEND := Lib.hid hend
          have p1 := e1.out.1
          have p2 := e1.out.2
          have p3 := e2.out
          have p4 := e3.out
          have p5 := e4.out
          clear hsub hend
          go_wp2_with fail
          clear p1 p2 p3 p4 p5
          refine (C.out).mono ?_; rintro e w60 ⟨rfl, ht⟩
          have H60 := Lib.hid ht
          have HG9 := Lib.hid ht.good
          clear ht C HIr
          obtain ⟨h9, HH9⟩ : ∃ h9, Hid (horizon S9 s = h9) := ⟨_, rfl⟩
          have HH94 : Hid (h9.length = 4) := by show _ = _; rw [← HH9.out]; exact hz_len HG9.out HSO.out
          have HHZ9 : Hid ((Try.prog.info? 25).map (·.size) = some (ks .u64 h9).length) := by show _ = _; rw [ks_length]; exact size_v HH94.out
          have HHL9 : Hid ((ks .u64 h9).length = (ks .u64 [0, 0, 0, 0]).length) := by show _ = _; rw [ks_length, HH94.out]; rfl
          have C := Lib.hid (thor_any H60.out s HSO.out)
          rw [HH9.out] at C
          have CL1 := Lib.hid (fun u => leq_any h s u HH4.out HSO.out.1)
          have CL2 := Lib.hid (fun u => leq_any h h9 u HH4.out HH94.out)
          have hl1 : V.leq h s = true := by rw [← HH.out]; exact hz_leq HG.out HSO.out (List.mem_append_right _ (List.mem_singleton_self _))
          have hl2 : V.leq h h9 = true := by rw [← HH.out, ← HH9.out]; exact hz_more HG.out HSO.out HG9.out HSUB.out
          rw [hl1] at CL1
          rw [hl2] at CL2
          clear hl1 hl2
          have hgv : ∀ u, (Op.equalIn 10000 25 (.agg (ks .u64 h).toArray) (.agg (ks .u64 h).toArray)).run Try.prog u = .ok true u := fun u => by
            have h9 := eq_v h h HH4.out HH4.out u
            rw [decide_eq_true rfl] at h9
            exact h9
          go_wp2_with (first | refine blk_load rfl 25 _ rfl bs rfl (ks .u64 s) (H60.out.sep.blk 2 rfl) _ Try.underlying25 rfl HSZ.out ?_)
          refine (C.out).mono ?_; rintro e w61 ⟨rfl, hb⟩
          have H61 := Lib.hid (H60.out.below hb)
          clear hb C H60
          go_wp2_with (first | refine blk_alloc rfl 25 (ks .u64 [0, 0, 0, 0]) rfl Try.info_v ?_)
          intro w62 A62 B62 Z62
          have HA := Lib.hid A62
          have HB := Lib.hid B62
          have HZ := Lib.hid Z62
          clear A62 B62 Z62
          go_wp2_with (first | refine blk_store rfl 25 _ _ rfl w61.heap.size rfl (ks .u64 h9) rfl (ks .u64 [0, 0, 0, 0]) HA.out HHL9.out HHZ9.out (ks_all _ _) ?_)
          intro w63 A63 U63
          have H63 := Lib.hid (H61.out.fresh HB.out HZ.out U63 A63)
          clear A63 U63 HA HB HZ H61
          have CM := Lib.hid (tmany_any H63.out)
          rw [HO8.out] at CM
          rcases HEND.out with ⟨z1, z2⟩ | ⟨z1, z2⟩
          · subst z1
            have e9 : IntKind.i64.wrap ((o9 : Int) - 1) = (o8 : Int) := by rw [IntKind.wrap_i64]; omega
            go_wp2_with (first | refine blk_loadg (by rfl) 25 _ rfl bh rfl (ks .u64 h) (H63.out.sep.blk 2 rfl) _ Try.underlying25 rfl HHZ.out ?_ | refine blk_loadg (by rfl) 25 _ rfl bm rfl (ks .u64 h) (H63.out.sep.blk 1 rfl) _ Try.underlying25 rfl HHZ.out ?_ | refine blk_loadg (by rfl) 25 _ rfl bs rfl (ks .u64 s) (H63.out.sep.blk 3 rfl) _ Try.underlying25 rfl HSZ.out ?_)
            refine (CL1.out _).mono ?_; rintro e w64 ⟨rfl, hb⟩
            have H64 := Lib.hid (H63.out.below hb)
            clear hb CL1
            go_wp2_with (first | refine blk_loadg (by rfl) 25 _ rfl bh rfl (ks .u64 h) (H64.out.sep.blk 2 rfl) _ Try.underlying25 rfl HHZ.out ?_ | refine blk_loadg (by rfl) 25 _ rfl w61.heap.size rfl (ks .u64 h9) (H64.out.sep.blk 0 rfl) _ Try.underlying25 rfl HHZ9.out ?_)
            refine (CL2.out _).mono ?_; rintro e w65 ⟨rfl, hb⟩
            have H65 := Lib.hid (H64.out.below hb)
            have CM2 := Lib.hid (tmany_any H65.out)
            rw [HO8.out] at CM2
            clear hb CL2
            go_wp2_with fail
            refine (CM2.out).mono ?_; rintro e w66 ⟨rfl, hb⟩
            have H66 := Lib.hid (H65.out.below hb)
            have HF := Lib.hid (H66.out.under)
            clear hb CM2
            by_cases ho : 0 < o9
            · have io : (0 : Int) < (o9 : Int) := by omega
              go_wp2_with fail
              go_ret
              exact ⟨rfl, HF.out⟩
            · obtain rfl : o9 = 0 := by omega
              have hhs : h = s := by rw [← HH.out]; exact hz_none HMN.out
              subst hhs
              go_wp2_with (first | refine blk_loadg (by rfl) 25 _ rfl bh rfl (ks .u64 h) (H66.out.sep.blk 2 rfl) _ Try.underlying25 rfl HHZ.out ?_ | refine blk_loadg (by rfl) 25 _ rfl bs rfl (ks .u64 h) (H66.out.sep.blk 3 rfl) _ Try.underlying25 rfl HHZ.out ?_)
              go_ret
              exact ⟨rfl, HF.out⟩
          · subst z1
            obtain rfl : o8 = o9 := by rw [← HO8.out, z2]; exact HMN.out
            clear z2
            go_wp2_with (first | refine blk_loadg (by rfl) 25 _ rfl bh rfl (ks .u64 h) (H63.out.sep.blk 2 rfl) _ Try.underlying25 rfl HHZ.out ?_ | refine blk_loadg (by rfl) 25 _ rfl bm rfl (ks .u64 h) (H63.out.sep.blk 1 rfl) _ Try.underlying25 rfl HHZ.out ?_ | refine blk_loadg (by rfl) 25 _ rfl bs rfl (ks .u64 s) (H63.out.sep.blk 3 rfl) _ Try.underlying25 rfl HSZ.out ?_)
            refine (CL1.out _).mono ?_; rintro e w64 ⟨rfl, hb⟩
            have H64 := Lib.hid (H63.out.below hb)
            clear hb CL1
            go_wp2_with (first | refine blk_loadg (by rfl) 25 _ rfl bh rfl (ks .u64 h) (H64.out.sep.blk 2 rfl) _ Try.underlying25 rfl HHZ.out ?_ | refine blk_loadg (by rfl) 25 _ rfl w61.heap.size rfl (ks .u64 h9) (H64.out.sep.blk 0 rfl) _ Try.underlying25 rfl HHZ9.out ?_)
            refine (CL2.out _).mono ?_; rintro e w65 ⟨rfl, hb⟩
            have H65 := Lib.hid (H64.out.below hb)
            have CM2 := Lib.hid (tmany_any H65.out)
            rw [HO8.out] at CM2
            clear hb CL2
            go_wp2_with fail
            refine (CM2.out).mono ?_; rintro e w66 ⟨rfl, hb⟩
            have H66 := Lib.hid (H65.out.below hb)
            have HF := Lib.hid (H66.out.under)
            clear hb CM2
            by_cases ho : 0 < o8
            · have io : (0 : Int) < (o8 : Int) := by omega
              go_wp2_with fail
              go_ret
              exact ⟨rfl, HF.out⟩
            · obtain rfl : o8 = 0 := by omega
              have hhs : h = s := by rw [← HH.out]; exact hz_none HMN.out
              subst hhs
              go_wp2_with (first | refine blk_loadg (by rfl) 25 _ rfl bh rfl (ks .u64 h) (H66.out.sep.blk 2 rfl) _ Try.underlying25 rfl HHZ.out ?_ | refine blk_loadg (by rfl) 25 _ rfl bs rfl (ks .u64 h) (H66.out.sep.blk 3 rfl) _ Try.underlying25 rfl HHZ.out ?_)
              go_ret
              exact ⟨rfl, HF.out⟩


set_option maxRecDepth 100000 in
theorem lifted (os : Os) (started : os.Started) (H : Type) (enc : TypeId × Value → H) :
    ReturnsInHanded {} Try.checked os 5 .any (Rows.sessHorizonSpec.pre6 enc Try.prog Try.f5 Rows.sessHorizonRow.domain false) (Rows.sessHorizonSpec.post enc Try.prog Try.f5 false true false false) := by
  refine returnsInHanded_of_change_sized (C := Try.checked) own started (by kernel_rfl) Try.func5
    (ChangeSpec.witness6 (enc := enc) (C := Try.checked) false ⟨#[], #[.slice none 0 0, .agg #[.int .u64 0, .int .u64 0, .int .u64 0, .int .u64 0, .bool false], .int .u8 0], []⟩ 8 (by kernel_rfl) (by kernel_rfl) (by kernel_rfl) (by kernel_rfl)) ?_
  intro W base args ds gs before hval0 hW hcnd hsz0 _
  have hval : ∀ (j : Nat) t v, Try.f5.params[j]? = some t → args[j]? = some v → Value.okWide Try.prog W .any base t v := hval0
  have hW' := hW
  obtain ⟨p, q, hA0, hV, rfl, hfz, hnd⟩ := hW
  have hA : DataW.TrodAll enc Try.prog W 0 (fun _ => true) true Try.f5.params.toList args.toList ds p := hA0
  have hsz : (DataW.weightsEach Try.prog (Try.f5.params.toList ++ Rows.sessHorizonSpec.plain.varTypes Try.prog) (ds ++ gs)).all (· ≤ reachBytes) = true := hsz0
  rw [Try.params5] at hA hval hsz
  obtain ⟨rfl, rfl⟩ := trodVars_none hV
  have hAk := hA
  have hlt : ∀ x ∈ p, x.block < W.heap.size := fun x hx => by simpa using hW'.lt x (List.mem_append.2 (.inl hx))
  obtain ⟨v0, vs0, d0, ds0, p0, q0, hargs, rfl, rfl, h0, r0⟩ := trodAll_cons hA
  obtain ⟨v1, vs1, d1, ds1, p1, q1, rfl, rfl, rfl, h1, r1⟩ := trodAll_cons r0
  obtain ⟨v2, vs2, d2, ds2, p2, q2, rfl, rfl, rfl, h2, r2⟩ := trodAll_cons r1
  obtain ⟨rfl, rfl, rfl⟩ := trodAll_nil r2
  obtain rfl : args = #[v0, v1, v2] := by cases args; simp_all
  obtain ⟨a0, len0, cap0, rfl⟩ := okWide_slice Try.underlying80 (hval 0 80 v0 rfl rfl)
  obtain ⟨VL0, w0, m0⟩ := open_vectors h0 (Sz.arg hsz (j := 0) rfl rfl)
  obtain ⟨a1, o1, rfl, w1⟩ := open_vector (hval 1 27 v1 rfl rfl) h1
  obtain ⟨a2, rfl, rfl, rfl, w2⟩ := open_int Try.underlying5 (hval 2 5 v2 rfl rfl) h2
  clear hA0 hval0 hsz0
  refine (walk (.slice a0 len0 cap0) VL0 a1 o1 a2 w1 w2 W w0 m0).mono fun e W' ⟨he, hg⟩ => ?_
  subst he
  exact ⟨_, rfl, _, _, _, [], _, [], hW', (trodAll_cons_mk (shut_bool Try.underlying4 _) trodAll_mk0), trodAll_below laidOut hg _ _ _ _ (by kernel_rfl) hAk hlt, rfl, hg.frame _, fun h => by cases h⟩

theorem over : Rows.sessHorizonRow.holds Try.pinned (OpenSpec.ofChange Rows.sessHorizonSpec) :=
  OpenClaim.holds_of_wide 5 Try.f5 rfl rfl rfl rfl rfl rfl rfl ⟨rfl, rfl, rfl, rfl, rfl⟩ rfl rfl rfl rfl rfl (by kernel_rfl) Try.func5 (by kernel_rfl)
    (of_decide_eq_true (by kernel_rfl)) (by unfold Func.isWrapper; first | (rw [if_pos (by decide +kernel)]; kernel_rfl) | (rw [if_neg (by decide +kernel)]; exact ⟨rfl, rfl⟩))
    (fun os started H enc _ => lifted os started H enc)

/-- the statement -/
theorem proved : Rows.SessHorizonSaid :=
  over
#print axioms proved

end Go.Proofs.Ytkiaehehckmpnaa.sessHorizon
