/- The document's own answer to chapter 9; vectors by their parts; a region with picked reads; deeds that came in. -/
import Derived.Test.YtmajkapapbhabaaStampA

import Derived.Test.YtmajkapapbhabaaVecRef3

import Derived.Test.YtmajkapapbhabaaFrameVecN

import Derived.Test.YtmajkapapbhabaaVecAllF

import Derived.Test.YtmajkapapbhabaaChainPruneS

import Derived.Test.YtmajkapapbhabaaStampRB

import Derived.Test.YtmajkapapbhabaaSep

import Derived.Maps.AppendAt

import Derived.Test.YtmajkapapbhabaaRegionCut

import Derived.Test.YtmajkapapbhabaaFrameMarks

namespace Go.Proofs.Ytmajkapapbhabaa.Sp

open Go.RowKit Go.Proofs.Ytmajkapapbhabaa.Vc

set_option linter.unusedVariables false

set_option linter.unusedSimpArgs false

set_option maxRecDepth 100000

set_option maxHeartbeats 1000000 in
theorem ref_sn (a : List Nat) (d : Int) (w : World) (ha : a.length = 4) :
    Calls Try.prog 62 #[SV a d] w fun e w' => e = .returned (.int .u64 (V.at_ a d : Nat)) ∧ Below w.heap.size w w' := by
  have HI := Lib.hid (size_r ha)
  have HA := Lib.hid ha
  have C := Lib.hid (fun w => ref_at a d w ha)
  obtain ⟨x, HX⟩ : ∃ r, Hid (V.at_ a d = r) := ⟨_, rfl⟩
  rw [HX.out] at C ⊢
  clear ha
  go_enter Try.func62, Try.ntmps62
  go_wp2_with (first | refine blk_box rfl 49 _ rfl (ks .u64 a ++ [Value.int .i64 d]) rfl ?_)
  intro w1 A1 B1 Z1
  have HR := Lib.hid (rowp A1)
  have c := dc_cell A1 HA.out
  have HB1 : Hid (Below w.heap.size w w1) := B1
  clear A1 B1 Z1
  go_wp2_with (first | refine row_load rfl .u64 45 _ rfl w.heap.size 0 rfl a HR.out 4 30 Try.underlying45 HI.out ?_)
  refine (C.out _).mono ?_; rintro e w2 ⟨rfl, hb2⟩
  have HB2 : Hid (Below w.heap.size w w2) := Below.trans HB1.out (hb2.mono HB1.out.size)
  clear hb2 c
  go_wp2_with fail
  go_ret
  exact ⟨rfl, HB2.out⟩
set_option maxHeartbeats 1000000 in
theorem ref_sright (a : List Nat) (d : Int) (w : World) (ha : a.length = 4) :
    Calls Try.prog 39 #[SV a d] w fun e w' => e = .returned (.bool (T.right a d)) ∧ Below w.heap.size w w' := by
  have HI := Lib.hid (size_r ha)
  have HS := Lib.hid (size_rs (d := d) ha)
  have C := Lib.hid (fun w => ref_right a w ha)
  have CN := Lib.hid (fun w => ref_sn a d w ha)
  unfold T.right
  clear ha
  cases hr : V.right a with
  | false =>
    rw [hr] at C
    clear hr CN
    show Calls _ _ _ _ fun e w' => e = .returned (.bool false) ∧ _
    go_enter Try.func39, Try.ntmps39
    go_wp2_with (first | refine blk_box rfl 49 _ rfl (ks .u64 a ++ [Value.int .i64 d]) rfl ?_)
    intro w1 A1 B1 Z1
    have HR := Lib.hid (rowp A1)
    have HB1 : Hid (Below w.heap.size w w1) := B1
    clear A1 B1 Z1
    go_wp2_with (first | refine row_load rfl .u64 45 _ rfl w.heap.size 0 rfl a HR.out 4 30 Try.underlying45 HI.out ?_)
    refine (C.out _).mono ?_; rintro e w2 ⟨rfl, hb2⟩
    have HB2 : Hid (Below w.heap.size w w2) := Below.trans HB1.out (hb2.mono HB1.out.size)
    clear hb2
    go_wp2_with fail
    go_ret
    exact ⟨rfl, HB2.out⟩
  | true =>
    rw [hr] at C
    clear hr
    obtain ⟨x, HX⟩ : ∃ r, Hid (V.at_ a d = r) := ⟨_, rfl⟩
    rw [HX.out] at CN ⊢
    obtain ⟨q, HQ⟩ : ∃ r, Hid (decide (1 ≤ x) = r) := ⟨_, rfl⟩
    have hq : decide ((1 : Int) ≤ (x : Int)) = q := by rw [← HQ.out]; exact decide_eq_decide.2 (by omega)
    show Calls _ _ _ _ fun e w' => e = .returned (.bool (decide (1 ≤ x))) ∧ _
    rw [HQ.out]
    go_enter Try.func39, Try.ntmps39
    go_wp2_with (first | refine blk_box rfl 49 _ rfl (ks .u64 a ++ [Value.int .i64 d]) rfl ?_)
    intro w1 A1 B1 Z1
    have HR := Lib.hid (rowp A1)
    have HA1 : Hid (Blk w1 w.heap.size (ks .u64 a ++ [Value.int .i64 d])) := A1
    have HZ1 : Hid (w.heap.size < w1.heap.size) := by show _ < _; omega
    have HB1 : Hid (Below w.heap.size w w1) := B1
    clear A1 B1 Z1
    go_wp2_with (first | refine row_load rfl .u64 45 _ rfl w.heap.size 0 rfl a HR.out 4 30 Try.underlying45 HI.out ?_)
    refine (C.out _).mono ?_; rintro e w2 ⟨rfl, hb2⟩
    have HB2 : Hid (Below w.heap.size w w2) := Below.trans HB1.out (hb2.mono HB1.out.size)
    have HA2 : Hid (Blk w2 w.heap.size (ks .u64 a ++ [Value.int .i64 d])) := Blk.below HA1.out hb2 HZ1.out
    clear hb2 HR HA1
    go_wp2_with (first | refine blk_loadg rfl 49 _ rfl w.heap.size rfl (ks .u64 a ++ [Value.int .i64 d]) HA2.out _ Try.underlying49 rfl HS.out ?_)
    refine (CN.out _).mono ?_; rintro e w3 ⟨rfl, hb3⟩
    have HB3 : Hid (Below w.heap.size w w3) := Below.trans HB2.out (hb3.mono HB2.out.size)
    clear hb3
    go_wp2_with fail
    go_ret
    exact ⟨rfl, HB3.out⟩
set_option maxHeartbeats 1000000 in
theorem ref_sseen (a b : List Nat) (d : Int) (w : World) (ha : a.length = 4) (hb : b.length = 4) :
    Calls Try.prog 36 #[SV a d, AV .u64 b] w fun e w' => e = .returned (.bool (V.leq a b)) ∧ Below w.heap.size w w' := by
  have HI := Lib.hid (size_r ha)
  have HIb := Lib.hid (size_r hb)
  have C := Lib.hid (fun w => ref_leq a b w ha hb)
  generalize V.leq a b = q at *
  clear ha hb
  go_enter Try.func36, Try.ntmps36
  go_wp2_with (first | refine blk_box rfl 49 _ rfl (ks .u64 a ++ [Value.int .i64 d]) rfl ?_)
  intro w1 A1 B1 Z1
  go_wp2_with (first | refine arr_box rfl .u64 45 _ rfl b rfl ?_)
  intro w2 A2 B2 Z2
  have HR := Lib.hid (rowp (Blk.below A1 B2 (by omega)))
  have HA2 : Hid (Arr .u64 w2 (w.heap.size + 1) b) := A2
  have HB2 : Hid (Below w.heap.size w w2) := B1.trans (B2.mono (by omega))
  clear A1 B1 Z1 A2 B2 Z2
  go_wp2_with (first | refine row_load rfl .u64 45 _ rfl w.heap.size 0 rfl a HR.out 4 30 Try.underlying45 HI.out ?_ | refine arr_load rfl .u64 45 _ rfl (w.heap.size + 1) rfl b HA2.out 4 30 Try.underlying45 HIb.out ?_)
  refine (C.out _).mono ?_; rintro e w3 ⟨rfl, hb3⟩
  have HB3 : Hid (Below w.heap.size w w3) := Below.trans HB2.out (hb3.mono HB2.out.size)
  clear hb3
  go_wp2_with fail
  go_ret
  exact ⟨rfl, HB3.out⟩
end Go.Proofs.Ytmajkapapbhabaa.Sp

namespace Go.Proofs.Ytmajkapapbhabaa.Vc

open Go.RowKit

set_option linter.unusedVariables false

set_option linter.unusedSimpArgs false

set_option maxRecDepth 100000

/-- the first j numbers modulo four -/
def part (a : List Nat) (j : Nat) : List Nat := (a.take j).map (· % 4) ++ a.drop j
theorem part_len (a : List Nat) (j : Nat) (h : a.length = 4) : (part a j).length = 4 := by simp [part, h]; omega
theorem part_step (a : List Nat) (j : Nat) (h : a.length = 4) (hj : j < 4) : (part a j).set j ((part a j).getD j 0 % 4) = part a (j + 1) := by
  obtain ⟨x, y, z, t, rfl⟩ := V.four h
  match j, hj with
  | 0, _ => rfl
  | 1, _ => rfl
  | 2, _ => rfl
  | 3, _ => rfl
theorem part_zero (a : List Nat) : part a 0 = a := by simp [part]
theorem part_all (a : List Nat) (h : a.length = 4) : part a 4 = V.few a true := by
  obtain ⟨x, y, z, t, rfl⟩ := V.four h
  rfl
theorem pre_row {w : World} {b : Nat} {l : List Nat} {own : Bool} (h : Blk w b (ks .u64 l ++ [Value.bool own])) : w.rangeAt b 0 (ks .u64 l) := fun j v hv => h.1 j v (by
  rw [List.getElem?_append_left]
  · exact hv
  · exact (List.getElem?_eq_some_iff.1 hv).1)
theorem Blk.setw {w : World} {b : Nat} {l : List Nat} {own : Bool} (h : Blk w b (ks .u64 l ++ [Value.bool own])) (j x : Nat) (hj : j < l.length) :
    Blk (w.setCell ⟨b, j, none⟩ (.int .u64 (x : Int))) b (ks .u64 (l.set j x) ++ [Value.bool own]) := by
  have hlen : (ks .u64 l ++ [Value.bool own]).length = l.length + 1 := by simp [ks_length]
  have c : w.cell? ⟨b, j, none⟩ = some (.int .u64 ((l.getD j 0 : Nat) : Int)) := h.cell j _ (by
    rw [List.getElem?_append_left (by rw [ks_length]; exact hj)]; simp [ks, hj])
  have e : ks .u64 (l.set j x) ++ [Value.bool own] = (ks .u64 l ++ [Value.bool own]).set j (.int .u64 (x : Int)) := by
    rw [ks_set, List.set_append_left _ _ (by rw [ks_length]; exact hj)]
  rw [e]
  refine ⟨fun i v hv => ?_, fun i hi => ?_⟩
  · rw [Nat.zero_add]
    by_cases e : j = i
    · subst e
      rw [List.getElem?_set_self (by rw [hlen]; omega)] at hv
      rw [← Option.some.inj hv]
      exact World.cell?_setCell_same _ _ _ c
    · rw [List.getElem?_set_ne e] at hv
      rw [World.cell?_setCell_other _ _ _ _ (by simp [e])]
      simpa using h.1 i v hv
  · rw [List.length_set] at hi
    obtain ⟨h1, h2⟩ := h.2 i hi
    exact ⟨World.isSome_setCells b [.int .u64 (x : Int)] j w _ h1, by simpa using h2⟩
theorem own_cell {w : World} {b : Nat} {l : List Nat} {own : Bool} (hl : l.length = 4) (h : Blk w b (ks .u64 l ++ [Value.bool own])) : w.cell? ⟨b, 4, none⟩ = some (.bool own) :=
  h.cell 4 _ (by rw [List.getElem?_append_right (by rw [ks_length, hl]; exact Nat.le_refl _), ks_length, hl]; rfl)
theorem num_cell {w : World} {b : Nat} {l : List Nat} {own : Bool} (j : Nat) (hj : j < l.length) (h : Blk w b (ks .u64 l ++ [Value.bool own])) : w.cell? ⟨b, j, none⟩ = some (.int .u64 ((l.getD j 0 : Nat) : Int)) ∧ w.frozen? ⟨b, j, none⟩ = false :=
  ⟨h.cell j _ (by rw [List.getElem?_append_left (by rw [ks_length]; exact hj)]; simp [ks, hj]), h.free j (by simp [ks_length]; omega)⟩
set_option maxHeartbeats 2000000 in
theorem vector_any (a : List Nat) (own : Bool) (w : World) (ha : V.Ok a) :
    Calls Try.prog 10 #[VV a own] w fun e w' => e = .returned (AV .u64 (V.few a own)) ∧ Below w.heap.size w w' := by
  have HA : Hid _ := ha.len
  have HI : Hid _ := size_v ha.len
  clear ha
  cases own with
  | false =>
    show Calls _ _ _ _ fun e w' => e = .returned (AV .u64 a) ∧ _
    go_enter Try.func10, Try.ntmps10
    go_wp2_with (first | refine blk_box rfl 38 _ rfl (ks .u64 a ++ [Value.bool false]) rfl ?_)
    intro w1 A1 B1 Z1
    go_wp2_with (first | refine arr_alloc rfl .u64 32 4 rfl Try.info_v ?_)
    intro w2 A2 B2 Z2
    have A1' := Blk.below A1 B2 (by omega)
    have c := own_cell HA.out A1'
    have HR : Hid _ := pre_row A1'
    have HA2 : Hid (Arr .u64 w2 (w.heap.size + 1) (List.replicate 4 0)) := A2
    have HB2 : Hid (Below w.heap.size w w2) := B1.trans (B2.mono (by omega))
    clear A1 B1 A2 B2 Z1 Z2 A1'
    go_wp2_with (first | refine row_load rfl .u64 32 _ rfl w.heap.size 0 rfl a HR.out 4 30 Try.underlying32 HI.out ?_ | refine arr_store rfl .u64 32 _ _ rfl (w.heap.size + 1) rfl a rfl _ HA2.out (by rw [HA.out]; rfl) HI.out ?_)
    intro u A U
    have HA9 : Hid (Arr .u64 u (w.heap.size + 1) a) := A
    have HB9 : Hid (Below w.heap.size w u) := Below.trans HB2.out (U.below (by omega))
    clear A U
    go_wp2_with fail
    refine bodyPost_ret (v := AV .u64 a) ?_ rfl ⟨rfl, HB9.out⟩
    exact res_arr (t := 32) Try.results10 _ .u64 (w.heap.size + 1) rfl a HA9.out 4 30 Try.underlying32 HI.out
  | true =>
    obtain ⟨r, HR⟩ : ∃ r, Hid (V.few a true = r) := ⟨_, rfl⟩
    have HRP : Hid (part a 4 = r) := by rw [← HR.out]; exact part_all a HA.out
    rw [HR.out]
    go_enter Try.func10, Try.ntmps10
    go_wp2_with (first | refine blk_box rfl 38 _ rfl (ks .u64 a ++ [Value.bool true]) rfl ?_)
    intro w1 A1 B1 Z1
    go_wp2_with (first | refine arr_alloc rfl .u64 32 4 rfl Try.info_v ?_)
    intro w2 A2 B2 Z2
    have A1' := Blk.below A1 B2 (by omega)
    have c := own_cell HA.out A1'
    have HP2 : Hid (Blk w2 w.heap.size (ks .u64 (part a 0) ++ [Value.bool true])) := by rw [part_zero]; exact A1'
    have HA2 : Hid (Arr .u64 w2 (w.heap.size + 1) (List.replicate 4 0)) := A2
    have HB2 : Hid (Below w.heap.size w w2) := B1.trans (B2.mono (by omega))
    clear A1 B1 A2 B2 Z1 Z2 A1'
    go_wp2_with fail
    clear c
    go_loopw [3] (fun i wr => ∃ j : Nat, j ≤ 4 ∧ i = .int .i64 j ∧ Hid (Blk wr w.heap.size (ks .u64 (part a j) ++ [Value.bool true])) ∧ Hid (Arr .u64 wr (w.heap.size + 1) (List.replicate 4 0)) ∧ Hid (Below w.heap.size w wr)) (fun i _ => 4 - (intOf i).toNat)
    case atStart => exact ⟨0, by omega, rfl, HP2, HA2, HB2⟩
    case round =>
      obtain ⟨j, hj, rfl, HPr, HAr, HBr⟩ := hrel
      clear HP2 HA2 HB2
      have HL : Hid _ := part_len a j HA.out
      by_cases hlt : j < 4
      · have ilt : (j : Int) < 4 := by omega
        obtain ⟨c, f⟩ := num_cell j (by rw [HL.out]; exact hlt) HPr.out
        have hset := Blk.setw HPr.out j ((part a j).getD j 0 % 4) (by rw [HL.out]; exact hlt)
        rw [part_step a j HA.out hlt] at hset
        generalize (part a j).getD j 0 = x at *
        have ex : (x : Int).tmod 4 = ((x % 4 : Nat) : Int) := by rw [Int.tmod_eq_emod_of_nonneg (by omega)]; rfl
        have HS : Hid _ := hset
        have HU : Hid (Upd w.heap.size wr (wr.setCell ⟨w.heap.size, j, none⟩ (.int .u64 ((x % 4 : Nat) : Int)))) := Upd.setCell _ _ _ _
        clear hset
        go_wp2_with fail
        go_roundw
        case rel => exact ⟨j + 1, by omega, by go_num, HS, Arr.upd HAr.out HU.out (by omega), Below.trans HBr.out (Upd.below HU.out (Nat.le_refl _))⟩
        case measure => simp [intOf]; omega
      · obtain rfl : j = 4 := by omega
        rw [HRP.out] at HPr HL
        have HRR : Hid _ := pre_row HPr.out
        have HIr : Hid _ := size_v HL.out
        go_wp2_with (first | refine row_load rfl .u64 32 _ rfl w.heap.size 0 rfl r HRR.out 4 30 Try.underlying32 HIr.out ?_ | refine arr_store rfl .u64 32 _ _ rfl (w.heap.size + 1) rfl r rfl _ HAr.out (by rw [HL.out]; rfl) HIr.out ?_)
        intro u A U
        have HA9 : Hid (Arr .u64 u (w.heap.size + 1) r) := A
        have HB9 : Hid (Below w.heap.size w u) := Below.trans HBr.out (U.below (by omega))
        clear A U
        go_wp2_with fail
        refine bodyPost_ret (v := AV .u64 r) ?_ rfl ⟨rfl, HB9.out⟩
        exact res_arr (t := 32) Try.results10 _ .u64 (w.heap.size + 1) rfl r HA9.out 4 30 Try.underlying32 HIr.out
theorem Try.size_vv : (Try.prog.info? 38).map (·.size) = some 5 := by kernel_rfl
theorem size_vv {l : List Nat} {own : Bool} (h : l.length = 4) : (Try.prog.info? 38).map (·.size) = some (ks .u64 l ++ [Value.bool own]).length := by
  rw [List.length_append, ks_length, h]; exact Try.size_vv
theorem eql_true (a b : List Nat) (ha : a.length = 4) (hb : b.length = 4) (h : a = b) (w : World) : (binOp .eql 32 (AV .u64 a) (AV .u64 b)).run Try.prog w = .ok (.bool true) w := by
  rw [eql_v a b ha hb w, decide_eq_true h]
theorem eql_false (a b : List Nat) (ha : a.length = 4) (hb : b.length = 4) (h : a ≠ b) (w : World) : (binOp .eql 32 (AV .u64 a) (AV .u64 b)).run Try.prog w = .ok (.bool false) w := by
  rw [eql_v a b ha hb w, decide_eq_false h]
theorem eql_as (a b : List Nat) (ha : a.length = 4) (hb : b.length = 4) (r : Bool) (h : decide (a = b) = r) (w : World) : (binOp .eql 32 (AV .u64 a) (AV .u64 b)).run Try.prog w = .ok (.bool r) w := by
  rw [eql_v a b ha hb w, h]
end Go.Proofs.Ytmajkapapbhabaa.Vc

namespace Go.Proofs.Ytmajkapapbhabaa.Ch

open Go.RowKit Go.Proofs.Ytmajkapapbhabaa.Vc Go.Proofs.Ytmajkapapbhabaa.Sp Go.Proofs.Ytmajkapapbhabaa.Rw Go.Proofs.Ytmajkapapbhabaa.Se

set_option linter.unusedVariables false

set_option linter.unusedSimpArgs false

set_option maxRecDepth 100000

theorem size_vR : (Try.prog.info? 56).map (·.size) = some 6 := by kernel_rfl
theorem elem_vR : Try.prog.elem 27 = 56 := by kernel_rfl
theorem index_vR (b o n cap j : Nat) (hj : j < n) (w : World) : (Instr.indexAt 27 (.slice (some ⟨b, o, none⟩) n cap) (.int .i64 (j : Int))).run Try.prog w = .ok (.pointer (some ⟨b, o + 6 * j, none⟩)) w :=
  run_index elem_vR Try.underlying27 Try.sizeOf56 b o n cap j hj w
theorem info_vR : (Try.prog.info? 56).map (fun i => (i.zero, i.size)) = some (some (.agg [Value.int .u64 0, .int .u64 0, .int .u64 0, .int .u64 0, .int .i64 0, txt.f txt.zero].toArray), 6) := by kernel_rfl
theorem zero_R : (vk txt).val (vk txt).none_ = .agg #[.int .u64 0, .int .u64 0, .int .u64 0, .int .u64 0, .int .i64 0, txt.f txt.zero] := rfl
theorem inf_R : (Try.prog.info? 56).map (fun i => (i.zero, i.size, i.bytes)) = some (some ((vk txt).val (vk txt).none_), (vk txt).k, 56) := by rw [zero_R]; kernel_rfl
theorem zc_R : ((vk txt).val (vk txt).none_).cells.size = (vk txt).k := rfl
theorem row_stampS {w : World} {b p : Nat} {x : C.Vr ByteArray} (h : w.rangeAt b p ((vk txt).cf x)) (hx : x.1.1.length = 4) : w.rangeAt b p (ks .u64 x.1.1 ++ [Value.int .i64 x.1.2]) := fun j v hv => by
  refine h j v ?_
  rw [vk_stamp txt x hx, List.getElem?_append_left (List.getElem?_eq_some_iff.1 hv).1]
  exact hv
theorem size_kr {l : List Nat} (h : l.length = 4) : (Try.prog.info? 45).map (·.size) = some (ks .u64 l).length := by rw [ks_length]; exact size_r h
theorem size_srr {l : List Nat} {d : Int} (h : l.length = 4) : (Try.prog.info? 49).map (·.size) = some (ks .u64 l ++ [Value.int .i64 d]).length := size_rs h
set_option maxHeartbeats 8000000 in
theorem refread (c : Nat) (v : Value) (L : List (C.Vr ByteArray)) (h : List Nat) (w : World) (hch : Ch txt 56 w c v L) (hh : h.length = 4) (hn : L.length < 1000) :
    Calls Try.prog 17 #[.pointer (some ⟨c, 0, none⟩), .agg (ks .u64 h).toArray] w fun e w' => e = .returned (.tuple #[(vk txt).val ((C.read L h).getD (vk txt).none_), .bool (C.read L h).isSome]) ∧ Below w.heap.size w w' := by
  have HCH := Lib.hid hch
  have HH := Lib.hid hh
  have HUP := Lib.hid hch.up
  obtain ⟨sa, cap, ev, _⟩ := hch.own.is.is
  obtain ⟨n, HN⟩ : ∃ n, Hid (L.length = n) := ⟨_, rfl⟩
  rw [HN.out] at ev hn
  subst ev
  have HCC : Hid (∀ u, Below w.heap.size w u → u.cell? ⟨c, 0, none⟩ = some (.slice sa n cap)) := fun u hu => (HCH.out.below hu).cell
  obtain ⟨X, HXX⟩ : ∃ X, Hid ((C.read L h).getD (vk txt).none_ = X) := ⟨_, rfl⟩
  obtain ⟨q, HQX⟩ : ∃ q, Hid ((C.read L h).isSome = q) := ⟨_, rfl⟩
  rw [HXX.out, HQX.out]
  clear hch hh
  go_enter Try.func17, Try.ntmps17
  go_wp2_with (first | refine blk_box rfl 45 _ rfl (ks .u64 h) rfl ?_)
  intro w1 A1 B1 Z1
  obtain ⟨bh, HBH⟩ : ∃ b, Hid (w.heap.size = b) := ⟨_, rfl⟩
  have S1 : Hid (Sep w w1 [rB bh (ks .u64 h)]) := by show Sep _ _ _; rw [← HBH.out]; exact (Sep.start w).box B1 Z1 A1
  clear A1 B1
  go_wp2_with (first | refine blk_alloc rfl 56 ((vk txt).cf (vk txt).none_) rfl info_vR ?_)
  intro w2 A2 B2 Z2
  rw [← Z1] at A2 B2 Z2
  obtain ⟨br, HBR⟩ : ∃ b, Hid (w1.heap.size = b) := ⟨_, rfl⟩
  have S2 : Hid (Sep w w2 [rB br ((vk txt).cf (vk txt).none_), rB bh (ks .u64 h)]) := by show Sep _ _ _; rw [← HBR.out]; exact S1.out.box B2 Z2 A2
  have HZ : Hid (bh + 1 = br) := by show _ = _; rw [← HBR.out, ← HBH.out, Z1]
  rw [HBH.out, HZ.out]
  clear A2 B2 Z2 S1 Z1
  have cc := HCC.out _ S2.out.under
  have k0 : IntKind.i64.wrap ((n : Int) - 1) = (n : Int) - 1 := by rw [IntKind.wrap_i64]; omega
  go_wp2_with fail
  clear cc k0
  go_loopw [6] (fun x wr => ∃ (i : Nat) (z : Int), i ≤ n ∧ x = .int .i64 z ∧ Hid (z = (i : Int) - 1) ∧ Hid (∀ j y, i ≤ j → L[j]? = some y → C.seen y.1 h = false) ∧ Hid (Sep w wr [rB br ((vk txt).cf (vk txt).none_), rB bh (ks .u64 h)])) (fun x _ => (intOf x + 1).toNat)
  case atStart => exact ⟨n, _, by omega, rfl, rfl, (fun j y hj hy => by
    have := (List.getElem?_eq_some_iff.1 hy).1
    rw [HN.out] at this
    omega), S2⟩
  case round =>
    obtain ⟨i, z, hin, rfl, HZi, HSE, Sr⟩ := hrel
    clear S2
    cases i with
    | succ i =>
      obtain rfl : z = (i : Int) := by have := HZi.out; omega
      have hli : i < n := by omega
      have i1 : (0 : Int) ≤ (i : Int) := by omega
      have k1 : IntKind.i64.wrap ((i : Int) - 1) = (i : Int) - 1 := by rw [IntKind.wrap_i64]; omega
      have hxi := C.getD_some (show i < L.length by rw [HN.out]; exact hli) (vk txt).none_
      have hx4 := HUP.out.four _ (List.mem_of_getElem? hxi)
      obtain ⟨gA, oA, cA', hv, hgA, hrow⟩ := IsR.at (HCH.out.below Sr.out.under).own.is i (by rw [HN.out]; exact hli)
      obtain rfl : sa = some ⟨gA, oA, none⟩ := by injection hv
      obtain ⟨x, HX⟩ : ∃ x, Hid (L.getD i (vk txt).none_ = x) := ⟨_, rfl⟩
      rw [HX.out] at hrow hxi hx4
      clear HX hv HZi
      obtain ⟨sq, HSQ⟩ : ∃ q, Hid (C.seen x.1 h = q) := ⟨_, rfl⟩
      have HRA : Hid (∀ u, Below wr.heap.size wr u → u.rangeAt gA (oA + 6 * i) ((vk txt).cf x)) := fun u hu k v hv => by
        rw [hu.cell (p := ⟨gA, oA + 6 * i + k, none⟩) hgA]
        exact hrow k v hv
      have HRS : Hid (∀ u, Below wr.heap.size wr u → u.rangeAt gA (oA + 6 * i) (ks .u64 x.1.1 ++ [Value.int .i64 x.1.2])) := fun u hu => row_stampS (HRA.out u hu) hx4
      have HRh : Hid (∀ u, Below wr.heap.size wr u → Blk u bh (ks .u64 h)) := fun u hu => (Sr.out.below hu).blk 1 rfl
      have HCr : Hid (∀ u, Below wr.heap.size wr u → u.cell? ⟨c, 0, none⟩ = some (.slice (some ⟨gA, oA, none⟩) n cap)) := fun u hu => HCC.out u (Sr.out.below hu).under
      have XS : Hid (∀ u, Below wr.heap.size wr u → Calls Try.prog 36 [SV x.1.1 x.1.2, .agg (ks .u64 h).toArray].toArray u fun e u' => e = .returned (.bool sq) ∧ Below wr.heap.size wr u') := fun u hu => Calls.more hu (by have := ref_sseen x.1.1 h x.1.2 u hx4 HH.out; rw [show V.leq x.1.1 h = sq from HSQ.out] at this; exact this)
      have hixa : ∀ w, (Instr.indexAt 27 (.slice (some ⟨gA, oA, none⟩) n cap) (.int .i64 (i : Int))).run Try.prog w = .ok (.pointer (some ⟨gA, oA + 6 * i, none⟩)) w := fun w => index_vR gA oA n cap i hli w
      have HSX := Lib.hid (size_srr (d := x.1.2) hx4)
      clear hrow hgA
      go_wp2_with fail
      refine region_w Try.mixed (by kernel_rfl) ?_
      refine w_move rfl _ rfl (.pointer (some ⟨c, 0, none⟩)) rfl (fun K hK => ?_)
      go_simp
      refine hK _ ?_
      clear hK K
      refine w_value rfl (.pointer (some ⟨c, 0, none⟩)) (fun u hu => by go_simp) (fun K hK => ?_)
      go_simp
      refine hK _ ?_
      clear hK K
      refine w_value rfl (.pointer (some ⟨c, 0, none⟩)) (fun u hu => by go_simp) (fun K hK => ?_)
      go_simp
      refine hK _ ?_
      clear hK K
      refine w_value rfl (.slice (some ⟨gA, oA, none⟩) n cap) (fun u hu => by have hs := HCr.out u hu; go_simp) (fun K hK => ?_)
      go_simp
      refine hK _ ?_
      clear hK K
      refine w_move rfl _ rfl (.int .i64 (i : Int)) rfl (fun K hK => ?_)
      go_simp
      refine hK _ ?_
      clear hK K
      refine w_value rfl (.pointer (some ⟨gA, oA + 6 * i, none⟩)) (fun u hu => by have hs := hixa u; go_simp) (fun K hK => ?_)
      go_simp
      refine hK _ ?_
      clear hK K
      refine w_value rfl (.pointer (some ⟨gA, oA + 6 * i, none⟩)) (fun u hu => by go_simp) (fun K hK => ?_)
      go_simp
      refine hK _ ?_
      clear hK K
      refine w_mid_load rfl 49 _ rfl gA (oA + 6 * i) rfl (ks .u64 x.1.1 ++ [Value.int .i64 x.1.2]) (by exact HRS.out) _ Try.underlying49 rfl HSX.out (fun K hK => ?_)
      go_simp
      refine hK _ ?_
      clear hK K
      refine w_blk_load rfl 45 _ rfl bh rfl (ks .u64 h) (by exact HRh.out) _ Try.underlying45 rfl (size_kr HH.out) (fun K hK => ?_)
      go_simp
      refine hK _ ?_
      clear hK K
      refine w_call rfl 36 Try.f36 Try.func36 rfl rfl _ _ rfl [SV x.1.1 x.1.2, .agg (ks .u64 h).toArray] rfl (.bool sq) (by exact XS.out) (fun K hK => ?_)
      go_simp
      refine hK _ ?_
      clear hK K
      refine w_nil ?_
      intro u hu
      have S8 := Lib.hid (Sr.out.below hu)
      have HRB := Lib.hid (HRA.out u hu)
      have cc := HCr.out u hu
      clear hu HRA HRS HRh HCr XS Sr
      cases sq with
      | true =>
        have hrd : C.read L h = some x := C.read_at L h i x hxi HSQ.out (fun j y hj hy => HSE.out j y (by omega) hy)
        obtain rfl : x = X := by rw [← HXX.out, hrd]; rfl
        obtain rfl : true = q := by rw [← HQX.out, hrd]; rfl
        clear HXX HQX hrd
        have HA8 := Lib.hid (S8.out.blk 0 rfl)
        have HBB := Lib.hid (S8.out.lt 0 rfl br (by simp [rB]))
        go_wp2_with (first | refine wpList_load_mid rfl 56 _ rfl gA (oA + 6 * i) rfl ((vk txt).cf x) _ HRB.out Try.underlying56 rfl size_vR ?_ | refine blk_store rfl 56 _ _ rfl br rfl ((vk txt).cf x) rfl _ HA8.out rfl size_vR rfl ?_)
        intro u9 A U
        have HA9 : Hid (Blk u9 br ((vk txt).cf x)) := A
        have HW9 : Hid (Below w.heap.size w u9) := Below.trans S8.out.under (U.below HBB.out.1)
        clear A U
        go_wp2_with fail
        refine bodyPost_ret (v := .tuple #[(vk txt).val x, .bool true]) ?_ rfl ⟨rfl, HW9.out⟩
        exact res_blk2 (t := 56) Try.results17 _ br rfl _ HA9.out _ Try.underlying56 rfl size_vR
      | false =>
        have HSE2 : Hid (∀ j y, i ≤ j → L[j]? = some y → C.seen y.1 h = false) := fun j y hj hy => by
          rcases Nat.lt_or_ge i j with h1 | h1
          · exact HSE.out j y (by omega) hy
          · obtain rfl : j = i := by omega
            rw [hxi] at hy
            obtain rfl := Option.some.inj hy
            exact HSQ.out
        clear hxi cc HSE
        go_wp2_with fail
        go_roundw
        case rel => exact ⟨i, _, by omega, rfl, rfl, HSE2, S8⟩
        case measure => simp [intOf]
    | zero =>
      obtain rfl : z = -1 := by have := HZi.out; omega
      have hrd : C.read L h = none := C.read_none.2 (fun y hy => by
        obtain ⟨j, hj⟩ := List.mem_iff_getElem?.1 hy
        exact HSE.out j y (Nat.zero_le _) hj)
      obtain rfl : (vk txt).none_ = X := by rw [← HXX.out, hrd]; rfl
      obtain rfl : false = q := by rw [← HQX.out, hrd]; rfl
      clear HXX HQX hrd
      have HA8 := Lib.hid (Sr.out.blk 0 rfl)
      have HBB := Lib.hid (Sr.out.lt 0 rfl br (by simp [rB]))
      clear HZi
      go_wp2_with (first | refine blk_store rfl 56 _ _ rfl br rfl ((vk txt).cf (vk txt).none_) rfl _ HA8.out rfl size_vR rfl ?_)
      intro u9 A U
      have HA9 : Hid (Blk u9 br ((vk txt).cf (vk txt).none_)) := A
      have HW9 : Hid (Below w.heap.size w u9) := Below.trans Sr.out.under (U.below HBB.out.1)
      clear A U
      go_wp2_with fail
      refine bodyPost_ret (v := .tuple #[(vk txt).val (vk txt).none_, .bool false]) ?_ rfl ⟨rfl, HW9.out⟩
      exact res_blk2 (t := 56) Try.results17 _ br rfl _ HA9.out _ Try.underlying56 rfl size_vR
set_option maxHeartbeats 4000000 in
theorem reflast (c : Nat) (v : Value) (L : List (C.Vr ByteArray)) (w : World) (hch : Ch txt 56 w c v L) (hn : L.length < 100000) :
    Calls Try.prog 19 #[.pointer (some ⟨c, 0, none⟩)] w fun e w' => e = .returned (.tuple #[(vk txt).val (L.getLast?.getD (vk txt).none_), .bool (decide (0 < L.length))]) ∧ Below w.heap.size w w' := by
  have HCH := Lib.hid hch
  obtain ⟨sa, cap, ev, _⟩ := hch.own.is.is
  subst ev
  by_cases hp : 0 < L.length
  · rw [last_ofS L hp, decide_eq_true hp]
    obtain ⟨g, off, cap', hv, hg0, hrow⟩ := IsR.at hch.own.is (L.length - 1) (by omega)
    obtain rfl : sa = some ⟨g, off, none⟩ := by injection hv
    have hj : L.length - 1 < L.length := by omega
    have hix : ∀ w, (Instr.indexAt 27 (.slice (some ⟨g, off, none⟩) L.length cap) (.int .i64 ((L.length : Int) - 1))).run Try.prog w = .ok (.pointer (some ⟨g, off + 6 * (L.length - 1), none⟩)) w := fun w => by
      have := index_vR g off L.length cap (L.length - 1) hj w
      rw [show ((L.length - 1 : Nat) : Int) = (L.length : Int) - 1 by omega] at this
      exact this
    obtain ⟨x, HX⟩ : ∃ x, Hid (L.getD (L.length - 1) (vk txt).none_ = x) := ⟨_, rfl⟩
    rw [HX.out] at hrow ⊢
    have cc := hch.cell
    have hne : ((L.length : Int) == 0) = false := beq_eq_false_iff_ne.2 (by omega)
    have k1 : IntKind.i64.wrap ((L.length : Int) - 1) = (L.length : Int) - 1 := by rw [IntKind.wrap_i64]; omega
    have HLT := Lib.hid HCH.out.lt
    clear hv hch hj HX HCH
    generalize L.length = n at *
    obtain ⟨j, HJ⟩ : ∃ j, Hid (n - 1 = j) := ⟨_, rfl⟩
    rw [HJ.out] at hix hrow
    have HRW : Hid (w.rangeAt g (off + 6 * j) ((vk txt).cf x)) := hrow
    clear hrow
    go_enter Try.func19, Try.ntmps19
    go_wp2_with (first | refine blk_alloc rfl 56 ((vk txt).cf (vk txt).none_) rfl info_vR ?_)
    intro w1 A1 B1 Z1
    have cc1 := (B1.cell (p := ⟨c, 0, none⟩) HLT.out).trans cc
    have HR1 : Hid (w1.drew.rangeAt g (off + 6 * j) ((vk txt).cf x)) := fun k u hu => by rw [World.cell?_drew, B1.cell (p := ⟨g, off + 6 * j + k, none⟩) hg0]; exact HRW.out k u hu
    have HA1 : Hid (Blk w1.drew w.heap.size ((vk txt).cf (vk txt).none_)) := A1.drew
    have HB1 : Hid (Below w.heap.size w w1.drew) := B1.drew
    clear A1 B1 Z1 cc
    go_wp2_with fail
    refine region_tail 12 Try.mixed (by kernel_rfl) ?_
    simp only [List.take_succ_cons, List.take_zero, List.drop_succ_cons, List.drop_zero]
    repeat still_step
    refine still_midS rfl 56 _ rfl g (off + 6 * j) rfl ((vk txt).cf x) HR1.out _ Try.underlying56 rfl size_vR ?_
    refine wpStill_nil ?_
    refine blk_store rfl 56 _ _ rfl w.heap.size rfl ((vk txt).cf x) rfl _ HA1.out rfl size_vR rfl ?_
    intro u A U
    have HA9 : Hid (Blk u w.heap.size ((vk txt).cf x)) := A
    have HW9 : Hid (Below w.heap.size w u) := Below.trans HB1.out (U.below (Nat.le_refl _))
    clear A U
    go_wp2_with fail
    refine bodyPost_ret (v := .tuple #[(vk txt).val x, .bool true]) ?_ rfl ⟨rfl, HW9.out⟩
    exact res_blk2 (t := 56) Try.results19 _ w.heap.size rfl _ HA9.out _ Try.underlying56 rfl size_vR
  · have hl0 : L = [] := List.length_eq_zero_iff.1 (by omega)
    have cc := hch.cell
    rw [decide_eq_false hp, hl0]
    rw [hl0] at cc
    have HLT := Lib.hid HCH.out.lt
    clear hch HCH hp
    show Calls _ _ _ _ fun e w' => e = .returned (.tuple #[(vk txt).val (vk txt).none_, .bool false]) ∧ _
    go_enter Try.func19, Try.ntmps19
    go_wp2_with (first | refine blk_alloc rfl 56 ((vk txt).cf (vk txt).none_) rfl info_vR ?_)
    intro w1 A1 B1 Z1
    have cc1 := (B1.cell (p := ⟨c, 0, none⟩) HLT.out).trans cc
    have HA1 : Hid (Blk w1 w.heap.size ((vk txt).cf (vk txt).none_)) := A1
    have HB1 : Hid (Below w.heap.size w w1) := B1
    clear A1 B1 Z1 cc
    go_wp2_with (first | refine blk_store rfl 56 _ _ rfl w.heap.size rfl ((vk txt).cf (vk txt).none_) rfl _ HA1.out rfl size_vR rfl ?_)
    intro u A U
    have HA9 : Hid (Blk u w.heap.size ((vk txt).cf (vk txt).none_)) := A
    have HW9 : Hid (Below w.heap.size w u) := Below.trans HB1.out (U.below (Nat.le_refl _))
    clear A U
    go_wp2_with fail
    refine bodyPost_ret (v := .tuple #[(vk txt).val (vk txt).none_, .bool false]) ?_ rfl ⟨rfl, HW9.out⟩
    exact res_blk2 (t := 56) Try.results19 _ w.heap.size rfl _ HA9.out _ Try.underlying56 rfl size_vR
end Go.Proofs.Ytmajkapapbhabaa.Ch

namespace Go.Proofs.Ytmajkapapbhabaa.Ch

open Go.RowKit Go.Proofs.Ytmajkapapbhabaa.Vc Go.Proofs.Ytmajkapapbhabaa.Sp Go.Proofs.Ytmajkapapbhabaa.Rw Go.Proofs.Ytmajkapapbhabaa.Se

set_option linter.unusedVariables false

set_option linter.unusedSimpArgs false

set_option maxRecDepth 100000

section

variable {β : Type} {K : Kd β}

/-- append onto an own row, whatever slice comes -/
theorem append_any {t ts : TypeId} (ty : TypeId) {bytes : Nat} (hu : Try.prog.underlying ts = some (.slice t)) {z : Value} (hinf : (Try.prog.info? t).map (fun i => (i.zero, i.size, i.bytes)) = some (some z, K.k, bytes)) (hzc : z.cells.size = K.k) (w : World) (base : Nat) (v : Value) (L : List β) (hown : OR K t w base v L) (x : Value) (M : List β) (hM : IsR K w x M) (hl : L.length + M.length ≤ 1000000) (hby : bytes ≤ 100000) (hbase : base ≤ w.heap.size) :
    ∃ v' w', (Builtin.append_ #[ts, ts] ty #[v, x]).run Try.prog w = .ok v' w' ∧ OR K t w' base v' (L ++ M) ∧ w.grownBy w' v.ownBlock ∧ Nw w v v' := by
  obtain ⟨i0, hi, hz0, hz1, hz2⟩ : ∃ i0, Try.prog.info? t = some i0 ∧ i0.zero = some z ∧ i0.size = K.k ∧ i0.bytes = bytes := by
    cases hi : Try.prog.info? t with
    | none => rw [hi] at hinf; cases hinf
    | some i0 =>
      rw [hi] at hinf
      simp only [Option.map_some, Option.some.injEq, Prod.mk.injEq] at hinf
      exact ⟨i0, rfl, hinf.1, hinf.2.1, hinf.2.2⟩
  obtain ⟨a, cap, rfl, h1, h2, h3⟩ := hM.is
  cases a with
  | none =>
    have h0 : M = [] := by
      by_cases hne : M = []
      · exact hne
      · obtain ⟨b, off, ha, _⟩ := h3 hne; cases ha
    subst h0
    rw [List.append_nil]
    rcases hown.row with ⟨rfl, rfl⟩ | ⟨g, cp, cur, rfl, hB, hgl, hh, hnc, _⟩
    · refine ⟨_, w, ?_, hown, World.grownBy.refl _ _, Nw.refl _ _⟩
      simp [Builtin.append_, run_underlying hu, sizeOf, typeInfo, hi, Builtin.lenOf, run_firstCells_none]
    · refine ⟨_, w, ?_, hown, World.grownBy.refl _ _, Nw.refl _ _⟩
      simp [Builtin.append_, run_underlying hu, sizeOf, typeInfo, hi, Builtin.lenOf, run_firstCells_none, hnc, storeCells]
  | some a =>
    have hrow : ∀ j u, (K.cells M)[j]? = some u → w.cell? (a.add j) = some u := by
      by_cases hne : M = []
      · subst hne; intro j u hu; simp [Kd.cells] at hu
      · obtain ⟨b', off', ha, hlt, hW⟩ := h3 hne
        obtain rfl := Option.some.inj ha
        exact cells_row hW
    have hbm := Nat.mul_le_mul hl hby
    obtain ⟨v', w', hr, ho, hg, _, hb⟩ := run_append_own_at (P := Try.prog) w base ts ty t i0 z K.k bytes hu hi hz0 hz1 hz2 hzc K.pos v L.length (K.cells L) hown.own a M.length cap (K.cells M) (cells_len M) hrow (cells_one M) (by unfold maxLen; omega) (by omega) hbase
    refine ⟨v', w', hr, ⟨?_⟩, hg, ?_⟩
    · rw [List.length_append, cells_append]; exact ho
    · rcases hb with h | h
      · exact .inl h
      · exact .inr fun k hk => by rw [h] at hk; exact Nat.le_of_eq (Option.some.inj hk)
theorem slice_hi {t ts : TypeId} (he : Try.prog.elem ts = t) (hu : Try.prog.underlying ts = some (.slice t)) {k : Nat} (hs : ∀ w, (sizeOf t).run Try.prog w = .ok k w) (a : Option Addr) (n c i : Nat) (hi : i ≤ c) (w : World) :
    (Instr.sliceAt ts (.slice a n c) none (some (.int .i64 (i : Int))) none).run Try.prog w = .ok (.slice a i c) w := by
  rw [run_sliceAt_slice w _ _ _ _ _ (by rw [he]; exact hu), run_slice_h w _ _ _ _ (by rw [he]; exact hu) _ _ (by omega) (by omega), he, hs, Result.andThen_ok]
  unfold sliced
  cases a with
  | none => simp
  | some a => simp [Addr.add]
/-- s[i:], and what it holds -/
theorem slice_lo {t ts : TypeId} (he : Try.prog.elem ts = t) (hu : Try.prog.underlying ts = some (.slice t)) (hs : ∀ w, (sizeOf t).run Try.prog w = .ok K.k w) (a : Option Addr) (c i : Nat) (L : List β) (hi : i ≤ L.length) (hc : L.length ≤ c) (hm : c ≤ maxLen) :
    ∃ a' m c', (∀ w, (Instr.sliceAt ts (.slice a L.length c) (some (.int .i64 (i : Int))) none none).run Try.prog w = .ok (.slice a' m c') w) ∧ ∀ u, IsR K u (.slice a L.length c) L → IsR K u (.slice a' m c') (L.drop i) := by
  refine ⟨if c = i then a else a.map (·.add (i * K.k)), L.length - i, c - i, fun w => ?_, fun u hL => ?_⟩
  · rw [run_sliceAt_slice w _ _ _ _ _ (by rw [he]; exact hu), run_slice_l w _ _ _ _ (by rw [he]; exact hu) _ _ (by omega) (by omega), he, hs, Result.andThen_ok, Int.toNat_natCast]
    rfl
  · rcases Nat.lt_or_ge i L.length with h | h
    · obtain ⟨b, off, cap', hv, hb, _⟩ := hL.at i h
      obtain ⟨rfl, rfl⟩ : a = some ⟨b, off, none⟩ ∧ c = cap' := by injection hv with h1 h2 h3; exact ⟨h1, h3⟩
      have := IsR.drop hL i hi
      rw [if_neg (by omega), Option.map_some, Addr.add_mid, Nat.mul_comm]
      exact this
    · have e : L.drop i = [] := List.drop_of_length_le h
      rw [e]
      refine ⟨_, _, by rw [show L.length - i = ([] : List β).length by simp; omega], Nat.zero_le _, by omega, fun h => absurd rfl h⟩
end

theorem order_lt {L : List (C.Vr ByteArray)} {s : C.St} {j : Nat} {x : C.Vr ByteArray} (hx : L[j]? = some x) (hj : j ≤ C.pos L s) : C.ord x.1 s < 0 ↔ j < C.pos L s := by
  constructor
  · intro h
    rcases Nat.lt_or_ge j (C.pos L s) with h1 | h1
    · exact h1
    · obtain rfl : j = C.pos L s := by omega
      exact absurd h (C.pos_at L s x hx)
  · intro h
    exact C.pos_under L s j x h hx
theorem same_iffS (a b : C.St) : T.same a.1 a.2 b.1 b.2 = decide (a = b) := by
  obtain ⟨a, d⟩ := a
  obtain ⟨b, e⟩ := b
  by_cases h : (a, d) = (b, e)
  · injection h with h1 h2; subst h1; subst h2; simp [T.same]
  · rw [decide_eq_false h]
    cases hh : T.same a d b e with
    | false => rfl
    | true => exact absurd (same_eq hh) h
set_option maxHeartbeats 16000000 in
theorem refadd (c : Nat) (v : Value) (L : List (C.Vr ByteArray)) (s : C.St) (y : ByteArray) (w : World) (hch : Ch txt 56 w c v L) (hs : s.1.length = 4) (hn : L.length < 1000) :
    Calls Try.prog 14 #[.pointer (some ⟨c, 0, none⟩), SV s.1 s.2, .string y] w fun e w' => ∃ v', e = .returned (.bool (C.add L s y).2) ∧ Ch txt 56 w' c v' (C.add L s y).1 ∧ Tw c v.ownBlock w w' ∧ Nw w v v' := by
  have HCH := Lib.hid hch
  have HUP := Lib.hid hch.up
  have HLT := Lib.hid hch.lt
  obtain ⟨sa, cap, ev, hcap, hcm, _⟩ := hch.own.is.is
  obtain ⟨n, HN⟩ : ∃ n, Hid (L.length = n) := ⟨_, rfl⟩
  rw [HN.out] at hn hcap
  have ev0 := ev
  rw [HN.out] at ev
  subst ev
  clear ev0
  have HCC : Hid (∀ u, Below w.heap.size w u → u.cell? ⟨c, 0, none⟩ = some (.slice sa n cap)) := fun u hu => (HCH.out.below hu).cell
  have HPL : Hid (C.pos L s ≤ n) := by show _ ≤ _; rw [← HN.out]; exact C.pos_le L s
  have HAD : Hid (C.add L s y = if C.right s = true ∧ C.has L s = false then (C.ins L s y, true) else (L, false)) := rfl
  have HUPA := Lib.hid (hch.up.add s y hs)
  obtain ⟨A, HA⟩ : ∃ A, Hid (C.add L s y = A) := ⟨_, rfl⟩
  rw [HA.out] at HAD HUPA ⊢
  clear HA
  obtain ⟨l, e0⟩ := s
  dsimp only at hs ⊢
  obtain ⟨b0, b1, b2, b3, rfl⟩ := V.four hs
  have HSS := Lib.hid (size_srr (l := [b0, b1, b2, b3]) (d := e0) rfl)
  obtain ⟨r, HR⟩ : ∃ r, Hid (C.right (([b0, b1, b2, b3], e0) : C.St) = r) := ⟨_, rfl⟩
  have CR : Hid (∀ u, Calls Try.prog 39 #[.agg (ks .u64 [b0, b1, b2, b3] ++ [Value.int .i64 e0]).toArray] u fun e w' => e = .returned (.bool r) ∧ Below u.heap.size u w') := fun u => by
    have := ref_sright [b0, b1, b2, b3] e0 u rfl
    rw [show T.right [b0, b1, b2, b3] e0 = r from HR.out] at this
    exact this
  rw [HR.out] at HAD
  clear HR hch hs
  go_enter Try.func14, Try.ntmps14
  go_wp2_with (first | refine blk_box rfl 49 _ rfl (ks .u64 [b0, b1, b2, b3] ++ [Value.int .i64 e0]) rfl ?_)
  intro w1 A1 B1 Z1
  obtain ⟨bs, HBS⟩ : ∃ b, Hid (w.heap.size = b) := ⟨_, rfl⟩
  have S1 : Hid (Sep w w1 [rB bs (ks .u64 [b0, b1, b2, b3] ++ [Value.int .i64 e0])]) := by show Sep _ _ _; rw [← HBS.out]; exact (Sep.start w).box B1 Z1 A1
  clear A1 B1 Z1
  rw [HBS.out]
  go_wp2_with (first | refine blk_load rfl 49 _ rfl bs rfl (ks .u64 [b0, b1, b2, b3] ++ [Value.int .i64 e0]) (S1.out.blk 0 rfl) _ Try.underlying49 rfl HSS.out ?_)
  refine (CR.out _).mono ?_; rintro e w2 ⟨rfl, hb⟩
  have S2 := Lib.hid (S1.out.below hb)
  clear hb S1 CR
  cases r with
  | false =>
    obtain rfl : (L, false) = A := by have := HAD.out; rw [if_neg (fun h => by cases h.1)] at this; exact this.symm
    have HB9 := Lib.hid S2.out.under
    clear S2
    go_wp2_with fail
    go_ret
    exact ⟨rfl, _, HCH.out.below HB9.out, Tw.of_below HB9.out, Nw.refl _ _⟩
  | true =>
    obtain ⟨p, HP⟩ : ∃ p, Hid (C.pos L (([b0, b1, b2, b3], e0) : C.St) = p) := ⟨_, rfl⟩
    have HOL := Lib.hid (fun j x (hx : L[j]? = some x) => order_lt (s := (([b0, b1, b2, b3], e0) : C.St)) hx)
    have HHP := Lib.hid (C.has_pos HUP.out (([b0, b1, b2, b3], e0) : C.St) rfl)
    rw [HP.out] at HOL HPL HHP
    have hpn := HPL.out
    go_wp2_with fail
    go_loopw [7] (fun x wr => ∃ j : Nat, j ≤ p ∧ x = .int .i64 (j : Int) ∧ Hid (Sep w wr [rB bs (ks .u64 [b0, b1, b2, b3] ++ [Value.int .i64 e0])])) (fun x _ => p - (intOf x).toNat)
    case atStart => exact ⟨0, by omega, rfl, S2⟩
    case round =>
      obtain ⟨j, hjp, rfl, Sr⟩ := hrel
      clear S2
      have HCr : Hid (∀ u, Below wr.heap.size wr u → u.cell? ⟨c, 0, none⟩ = some (.slice sa n cap)) := fun u hu => HCC.out u (Sr.out.below hu).under
      have HRh : Hid (∀ u, Below wr.heap.size wr u → Blk u bs (ks .u64 [b0, b1, b2, b3] ++ [Value.int .i64 e0])) := fun u hu => (Sr.out.below hu).blk 0 rfl
      by_cases hjn : j < n
      · have i1 : (j : Int) < (n : Int) := by omega
        have hxi := C.getD_some (show j < L.length by rw [HN.out]; exact hjn) (vk txt).none_
        have hx4 := HUP.out.four _ (List.mem_of_getElem? hxi)
        obtain ⟨gA, oA, cA', hv, hgA, hrow⟩ := IsR.at (HCH.out.below Sr.out.under).own.is j (by rw [HN.out]; exact hjn)
        obtain rfl : sa = some ⟨gA, oA, none⟩ := by injection hv
        obtain ⟨x, HX⟩ : ∃ x, Hid (L.getD j (vk txt).none_ = x) := ⟨_, rfl⟩
        rw [HX.out] at hrow hxi hx4
        clear HX hv
        have hlt := HOL.out j x hxi hjp
        obtain ⟨od, HOD⟩ : ∃ q, Hid (C.ord x.1 (([b0, b1, b2, b3], e0) : C.St) = q) := ⟨_, rfl⟩
        rw [HOD.out] at hlt
        have HRA : Hid (∀ u, Below wr.heap.size wr u → u.rangeAt gA (oA + 6 * j) (ks .u64 x.1.1 ++ [Value.int .i64 x.1.2])) := fun u hu k v hv => by
          rw [hu.cell (p := ⟨gA, oA + 6 * j + k, none⟩) hgA]
          exact row_stampS hrow hx4 k v hv
        have XO : Hid (∀ u, Below wr.heap.size wr u → Calls Try.prog 40 [SV x.1.1 x.1.2, .agg (ks .u64 [b0, b1, b2, b3] ++ [Value.int .i64 e0]).toArray].toArray u fun e u' => e = .returned (.int .i64 od) ∧ Below wr.heap.size wr u') := fun u hu => Calls.more hu (by have := ref_order x.1.1 [b0, b1, b2, b3] x.1.2 e0 u hx4 rfl; rw [show T.order x.1.1 x.1.2 [b0, b1, b2, b3] e0 = od from HOD.out] at this; exact this)
        have hixa : ∀ w, (Instr.indexAt 27 (.slice (some ⟨gA, oA, none⟩) n cap) (.int .i64 (j : Int))).run Try.prog w = .ok (.pointer (some ⟨gA, oA + 6 * j, none⟩)) w := fun w => index_vR gA oA n cap j hjn w
        have HSX := Lib.hid (size_srr (d := x.1.2) hx4)
        obtain ⟨lt, HLT2⟩ : ∃ q, Hid (decide (j < p) = q) := ⟨_, rfl⟩
        have hod : decide (od < 0) = lt := by rw [← HLT2.out, decide_eq_decide]; exact hlt
        have HCr : Hid (∀ u, Below wr.heap.size wr u → u.cell? ⟨c, 0, none⟩ = some (.slice (some ⟨gA, oA, none⟩) n cap)) := HCr
        clear hrow hgA hlt
        go_wp2_with fail
        refine region_w Try.mixed (by kernel_rfl) ?_
        refine w_move rfl _ rfl (.int .i64 (j : Int)) rfl (fun K hK => ?_)
        go_simp
        refine hK _ ?_
        clear hK K
        refine w_move rfl _ rfl (.pointer (some ⟨c, 0, none⟩)) rfl (fun K hK => ?_)
        go_simp
        refine hK _ ?_
        clear hK K
        refine w_value rfl (.pointer (some ⟨c, 0, none⟩)) (fun u hu => by go_simp) (fun K hK => ?_)
        go_simp
        refine hK _ ?_
        clear hK K
        refine w_value rfl (.pointer (some ⟨c, 0, none⟩)) (fun u hu => by go_simp) (fun K hK => ?_)
        go_simp
        refine hK _ ?_
        clear hK K
        refine w_value rfl (.slice (some ⟨gA, oA, none⟩) n cap) (fun u hu => by have hs := HCr.out u hu; go_simp) (fun K hK => ?_)
        go_simp
        refine hK _ ?_
        clear hK K
        refine w_value rfl (.int .i64 (n : Int)) (fun u hu => by go_simp) (fun K hK => ?_)
        go_simp
        refine hK _ ?_
        clear hK K
        refine w_value rfl (.bool true) (fun u hu => by go_simp) (fun K hK => ?_)
        go_simp
        refine hK _ ?_
        clear hK K
        refine w_move rfl _ rfl (.bool true) rfl (fun K hK => ?_)
        go_simp
        refine hK _ ?_
        clear hK K
        refine wg_value (by rfl) (.pointer (some ⟨c, 0, none⟩)) (fun u hu => by go_simp) (fun K hK => ?_)
        go_simp
        refine hK _ ?_
        clear hK K
        refine wg_value (by rfl) (.pointer (some ⟨c, 0, none⟩)) (fun u hu => by go_simp) (fun K hK => ?_)
        go_simp
        refine hK _ ?_
        clear hK K
        refine wg_value (by rfl) (.pointer (some ⟨c, 0, none⟩)) (fun u hu => by go_simp) (fun K hK => ?_)
        go_simp
        refine hK _ ?_
        clear hK K
        refine wg_value (by rfl) (.slice (some ⟨gA, oA, none⟩) n cap) (fun u hu => by have hs := HCr.out u hu; go_simp) (fun K hK => ?_)
        go_simp
        refine hK _ ?_
        clear hK K
        refine wg_value (by rfl) (.int .i64 (j : Int)) (fun u hu => by go_simp) (fun K hK => ?_)
        go_simp
        refine hK _ ?_
        clear hK K
        refine wg_value (by rfl) (.pointer (some ⟨gA, oA + 6 * j, none⟩)) (fun u hu => by have hs := hixa u; go_simp) (fun K hK => ?_)
        go_simp
        refine hK _ ?_
        clear hK K
        refine wg_value (by rfl) (.pointer (some ⟨gA, oA + 6 * j, none⟩)) (fun u hu => by go_simp) (fun K hK => ?_)
        go_simp
        refine hK _ ?_
        clear hK K
        refine wg_mid_load (by rfl) 49 _ rfl gA (oA + 6 * j) rfl (ks .u64 x.1.1 ++ [Value.int .i64 x.1.2]) (by exact HRA.out) _ Try.underlying49 rfl HSX.out (fun K hK => ?_)
        go_simp
        refine hK _ ?_
        clear hK K
        refine wg_blk_load (by rfl) 49 _ rfl bs rfl (ks .u64 [b0, b1, b2, b3] ++ [Value.int .i64 e0]) (by exact HRh.out) _ Try.underlying49 rfl HSS.out (fun K hK => ?_)
        go_simp
        refine hK _ ?_
        clear hK K
        refine wg_call (by rfl) 40 Try.f40 Try.func40 rfl rfl _ _ rfl [SV x.1.1 x.1.2, .agg (ks .u64 [b0, b1, b2, b3] ++ [Value.int .i64 e0]).toArray] rfl (.int .i64 od) (by exact XO.out) (fun K hK => ?_)
        go_simp
        refine hK _ ?_
        clear hK K
        refine wg_value (by rfl) (.bool lt) (fun u hu => by have hs := hod; go_simp) (fun K hK => ?_)
        go_simp
        refine hK _ ?_
        clear hK K
        refine w_value rfl (.bool lt) (fun u hu => by go_simp) (fun K hK => ?_)
        go_simp
        refine hK _ ?_
        clear hK K
        refine w_nil ?_
        intro u hu
        have S8 := Lib.hid (Sr.out.below hu)
        clear hu HRA HCr HRh XO Sr hod
        cases lt with
        | true =>
          have hjp2 := of_decide_eq_true HLT2.out
          clear hxi
          go_wp2_with fail
          go_roundw
          case rel => exact ⟨j + 1, by omega, by go_num, S8⟩
          case measure => simp [intOf]; omega
        | false =>
          have hjp2 := of_decide_eq_false HLT2.out
          obtain rfl : j = p := by omega
          obtain ⟨q, HQ⟩ : ∃ q, Hid (decide (x.1 = (([b0, b1, b2, b3], e0) : C.St)) = q) := ⟨_, rfl⟩
          have HHQ : Hid (C.has L (([b0, b1, b2, b3], e0) : C.St) = q) := by
            show _ = _
            rw [← HQ.out, Bool.eq_iff_iff, HHP.out, decide_eq_true_iff]
            exact ⟨fun ⟨x', h1, h2⟩ => by rw [hxi] at h1; obtain rfl := Option.some.inj h1; exact h2, fun h => ⟨x, hxi, h⟩⟩
          have HEq : Hid (∀ w, (binOp .eql 49 (SV x.1.1 x.1.2) (SV [b0, b1, b2, b3] e0)).run Try.prog w = .ok (.bool q) w) := fun w => by
            rw [eql_rs _ _ _ _ hx4 rfl]
            rw [show T.same x.1.1 x.1.2 [b0, b1, b2, b3] e0 = q from by rw [← HQ.out]; exact same_iffS x.1 (([b0, b1, b2, b3], e0) : C.St)]
          have HCr : Hid (∀ u', Below u.heap.size u u' → u'.cell? ⟨c, 0, none⟩ = some (.slice (some ⟨gA, oA, none⟩) n cap)) := fun u' hu => HCC.out u' (S8.out.below hu).under
          have HRh : Hid (∀ u', Below u.heap.size u u' → Blk u' bs (ks .u64 [b0, b1, b2, b3] ++ [Value.int .i64 e0])) := fun u' hu => (S8.out.below hu).blk 0 rfl
          have HRA : Hid (∀ u', Below u.heap.size u u' → u'.rangeAt gA (oA + 6 * j) (ks .u64 x.1.1 ++ [Value.int .i64 x.1.2])) := fun u' hu => by
            obtain ⟨gB, oB, cB, hv, hgB, hrowB⟩ := IsR.at (HCH.out.below (S8.out.below hu).under).own.is j (by rw [HN.out]; exact hjn)
            obtain ⟨rfl, rfl⟩ : gA = gB ∧ oA = oB := by injection hv with h1; injection h1 with h1; injection h1 with h1 h2; exact ⟨h1, h2⟩
            rw [List.getD_eq_getElem?_getD, hxi] at hrowB
            exact row_stampS hrowB hx4
          clear HQ hxi hx4 hjp2 hjp
          go_wp2_with fail
          refine region_w Try.mixed (by kernel_rfl) ?_
          refine w_move rfl _ rfl (.int .i64 (j : Int)) rfl (fun K hK => ?_)
          go_simp
          refine hK _ ?_
          clear hK K
          refine w_move rfl _ rfl (.pointer (some ⟨c, 0, none⟩)) rfl (fun K hK => ?_)
          go_simp
          refine hK _ ?_
          clear hK K
          refine w_value rfl (.pointer (some ⟨c, 0, none⟩)) (fun u hu => by go_simp) (fun K hK => ?_)
          go_simp
          refine hK _ ?_
          clear hK K
          refine w_value rfl (.pointer (some ⟨c, 0, none⟩)) (fun u hu => by go_simp) (fun K hK => ?_)
          go_simp
          refine hK _ ?_
          clear hK K
          refine w_value rfl (.slice (some ⟨gA, oA, none⟩) n cap) (fun u hu => by have hs := HCr.out u hu; go_simp) (fun K hK => ?_)
          go_simp
          refine hK _ ?_
          clear hK K
          refine w_value rfl (.int .i64 (n : Int)) (fun u hu => by go_simp) (fun K hK => ?_)
          go_simp
          refine hK _ ?_
          clear hK K
          refine w_value rfl (.bool true) (fun u hu => by go_simp) (fun K hK => ?_)
          go_simp
          refine hK _ ?_
          clear hK K
          refine w_move rfl _ rfl (.bool true) rfl (fun K hK => ?_)
          go_simp
          refine hK _ ?_
          clear hK K
          refine wg_value (by rfl) (.pointer (some ⟨c, 0, none⟩)) (fun u hu => by go_simp) (fun K hK => ?_)
          go_simp
          refine hK _ ?_
          clear hK K
          refine wg_value (by rfl) (.pointer (some ⟨c, 0, none⟩)) (fun u hu => by go_simp) (fun K hK => ?_)
          go_simp
          refine hK _ ?_
          clear hK K
          refine wg_value (by rfl) (.pointer (some ⟨c, 0, none⟩)) (fun u hu => by go_simp) (fun K hK => ?_)
          go_simp
          refine hK _ ?_
          clear hK K
          refine wg_value (by rfl) (.slice (some ⟨gA, oA, none⟩) n cap) (fun u hu => by have hs := HCr.out u hu; go_simp) (fun K hK => ?_)
          go_simp
          refine hK _ ?_
          clear hK K
          refine wg_value (by rfl) (.int .i64 (j : Int)) (fun u hu => by go_simp) (fun K hK => ?_)
          go_simp
          refine hK _ ?_
          clear hK K
          refine wg_value (by rfl) (.pointer (some ⟨gA, oA + 6 * j, none⟩)) (fun u hu => by have hs := hixa u; go_simp) (fun K hK => ?_)
          go_simp
          refine hK _ ?_
          clear hK K
          refine wg_value (by rfl) (.pointer (some ⟨gA, oA + 6 * j, none⟩)) (fun u hu => by go_simp) (fun K hK => ?_)
          go_simp
          refine hK _ ?_
          clear hK K
          refine wg_mid_load (by rfl) 49 _ rfl gA (oA + 6 * j) rfl (ks .u64 x.1.1 ++ [Value.int .i64 x.1.2]) (by exact HRA.out) _ Try.underlying49 rfl HSX.out (fun K hK => ?_)
          go_simp
          refine hK _ ?_
          clear hK K
          refine wg_blk_load (by rfl) 49 _ rfl bs rfl (ks .u64 [b0, b1, b2, b3] ++ [Value.int .i64 e0]) (by exact HRh.out) _ Try.underlying49 rfl HSS.out (fun K hK => ?_)
          go_simp
          refine hK _ ?_
          clear hK K
          refine wg_value (by rfl) (.bool q) (fun u _ => run_eql u .eql 49 49 _ _ (SV x.1.1 x.1.2) (SV [b0, b1, b2, b3] e0) _ rfl rfl rfl (guard_rs _ _ _ _ _ _ u) (HEq.out u)) (fun K hK => ?_)
          go_simp
          refine hK _ ?_
          clear hK K
          refine w_value rfl (.bool q) (fun u hu => by go_simp) (fun K hK => ?_)
          go_simp
          refine hK _ ?_
          clear hK K
          refine w_nil ?_
          intro u9 hu9
          have S9 := Lib.hid (S8.out.below hu9)
          clear hu9 HRA HCr HRh S8 hixa HEq i1
          rw [HHQ.out] at HAD
          clear HHQ HHP
          cases q with
          | true =>
            obtain rfl : (L, false) = A := by have := HAD.out; rw [if_neg (fun h => by cases h.2)] at this; exact this.symm
            have HB9 := Lib.hid S9.out.under
            clear S9
            go_wp2_with fail
            go_ret
            exact ⟨rfl, _, HCH.out.below HB9.out, Tw.of_below HB9.out, Nw.refl _ _⟩
          | false =>
            obtain ⟨sa, HSA⟩ : ∃ z, z = some (⟨gA, oA, none⟩ : Addr) := ⟨_, rfl⟩
            rw [← HSA] at HCH HCC ⊢
            clear HSA
            obtain rfl : (C.ins L (([b0, b1, b2, b3], e0) : C.St) y, true) = A := by have := HAD.out; rw [if_pos (by simp)] at this; exact this.symm
            have HUI : Hid (C.Up (L.take j ++ ((([b0, b1, b2, b3], e0) : C.St), y) :: L.drop j)) := by
              have h9 := HUPA.out
              have : C.ins L (([b0, b1, b2, b3], e0) : C.St) y = L.take j ++ ((([b0, b1, b2, b3], e0) : C.St), y) :: L.drop j := by rw [← HP.out]; rfl
              rw [← this]
              exact h9
            have HIN : Hid (C.ins L (([b0, b1, b2, b3], e0) : C.St) y = L.take j ++ ((([b0, b1, b2, b3], e0) : C.St), y) :: L.drop j) := by show _ = _; rw [← HP.out]; rfl
            clear HAD HUPA HOL HP
            have hsl : ∀ w, (Instr.sliceAt 27 (.slice sa n cap) none (some (.int .i64 (j : Int))) none).run Try.prog w = .ok (.slice sa j cap) w := fun w => slice_hi elem_vR Try.underlying27 Try.sizeOf56 sa n cap j (by omega) w
            obtain ⟨a2, m2, c2, hs2, hI2⟩ := slice_lo (K := vk txt) elem_vR Try.underlying27 Try.sizeOf56 sa cap j L (by rw [HN.out]; exact hpn) (by rw [HN.out]; exact hcap) hcm
            rw [HN.out] at hs2 hI2
            have HI2 := Lib.hid hI2
            have cc := HCC.out _ S9.out.under
            obtain ⟨v10, w10, hr, ho, hg, hnw⟩ := append_any (K := vk txt) 27 Try.underlying27 inf_R zc_R u9 w.heap.size (.slice none 0 0) [] (OR.nil _ _ _) (.slice sa j cap) (L.take j) (IsR.take (HCH.out.below S9.out.under).own.is j (by rw [HN.out]; exact hpn)) (by simp; have := HN.out; omega) (by omega) S9.out.size
            have HR10 := Lib.hid hr
            have S10 : Hid (Sep w w10 [rO (vk txt) 56 w.heap.size v10 (L.take j), rB bs (ks .u64 [b0, b1, b2, b3] ++ [Value.int .i64 e0])]) := (S9.out.nilrow (vk txt) 56 w.heap.size).row 0 rfl ho hg hnw
            clear hr ho hg hnw hI2
            have hbl : Blk w10 bs [Value.int .u64 (b0 : Int), Value.int .u64 (b1 : Int), Value.int .u64 (b2 : Int), Value.int .u64 (b3 : Int), Value.int .i64 e0] := S10.out.blk 1 rfl
            have hB11 : Below w10.heap.size w10 (w10.alloc (.cells #[.int .u64 (b0 : Int), .int .u64 (b1 : Int), .int .u64 (b2 : Int), .int .u64 (b3 : Int), .int .i64 e0, .string y] 56)) := (Below.refl _ _).alloc (Nat.le_refl _) _
            have S11 := S10.out.below hB11
            have hX11 : (w10.alloc (.cells #[.int .u64 (b0 : Int), .int .u64 (b1 : Int), .int .u64 (b2 : Int), .int .u64 (b3 : Int), .int .i64 e0, .string y] 56)).heap[w10.heap.size]? = some (.cells ((vk txt).cf ((([b0, b1, b2, b3], e0) : C.St), y)).toArray 56 (0, 0)) := heap_alloc_last w10 _
            obtain ⟨v12, w12, hr, ho, hg, hnw⟩ := append_any (K := vk txt) 27 Try.underlying27 inf_R zc_R _ w.heap.size v10 (L.take j) (S11.or 0 rfl) (.slice (some ⟨w10.heap.size, 0, none⟩) 1 1) [((([b0, b1, b2, b3], e0) : C.St), y)] (IsR.one (Blk.of_row hX11) (Array.getElem?_eq_some_iff.1 hX11).1) (by simp; have := HN.out; omega) (by omega) S11.size
            have HR12 := Lib.hid hr
            have S12 : Hid (Sep w w12 [rO (vk txt) 56 w.heap.size v12 (L.take j ++ [((([b0, b1, b2, b3], e0) : C.St), y)]), rB bs (ks .u64 [b0, b1, b2, b3] ++ [Value.int .i64 e0])]) := S11.row 0 rfl ho hg hnw
            clear hr ho hg hnw S11 hB11 hX11
            clear S10
            have cc2 := HCC.out _ S12.out.under
            obtain ⟨v13, w13, hr, ho, hg, hnw⟩ := append_any (K := vk txt) 27 Try.underlying27 inf_R zc_R w12 w.heap.size v12 (L.take j ++ [((([b0, b1, b2, b3], e0) : C.St), y)]) (S12.out.or 0 rfl) (.slice a2 m2 c2) (L.drop j) (HI2.out _ (HCH.out.below S12.out.under).own.is) (by simp; have := HN.out; omega) (by omega) S12.out.size
            have HR13 := Lib.hid hr
            have S13 : Hid (Sep w w13 [rO (vk txt) 56 w.heap.size v13 (L.take j ++ ((([b0, b1, b2, b3], e0) : C.St), y) :: L.drop j), rB bs (ks .u64 [b0, b1, b2, b3] ++ [Value.int .i64 e0])]) := by
              show Sep _ _ _
              have e : L.take j ++ ((([b0, b1, b2, b3], e0) : C.St), y) :: L.drop j = (L.take j ++ [((([b0, b1, b2, b3], e0) : C.St), y)]) ++ L.drop j := by rw [List.append_assoc]; rfl
              rw [e]
              exact S12.out.row 0 rfl ho hg hnw
            clear hr ho hg hnw S12
            have HC13 : Hid (Ch txt 56 w13 c (.slice sa n cap) L) := HCH.out.below S13.out.under
            have HO13 := Lib.hid (S13.out.or 0 rfl)
            obtain ⟨av, cv, ev, _⟩ := HO13.out.is.is
            obtain ⟨nv, HNV⟩ : ∃ nv, Hid ((L.take j ++ ((([b0, b1, b2, b3], e0) : C.St), y) :: L.drop j).length = nv) := ⟨_, rfl⟩
            rw [HNV.out] at ev
            subst ev
            have c13 := HC13.out.cell
            have f13 := HC13.out.free
            go_wp2_with (first | refine blk_load rfl 49 _ rfl bs rfl [Value.int .u64 (b0 : Int), Value.int .u64 (b1 : Int), Value.int .u64 (b2 : Int), Value.int .u64 (b3 : Int), Value.int .i64 e0] hbl _ Try.underlying49 rfl HSS.out ?_ | (at_builtin; refine append_step rfl _ _ _ _ rfl rfl rfl HR10.out ?_) | (at_builtin; refine append_step rfl _ _ _ _ rfl rfl rfl HR12.out ?_) | (at_builtin; refine append_step rfl _ _ _ _ rfl rfl rfl HR13.out ?_))
            go_ret
            have hu9 := Upd.setCell w13 c 0 (.slice av nv cv)
            rw [HIN.out]
            refine ⟨rfl, _, ⟨Blk.setc HC13.out.blk 0 (by simp) _, ?_, HUI.out⟩, (Tw.of_below S13.out.under).trans (Tw.of_upd hu9), .inr fun g hg => (HO13.out.lt hg).1⟩
            refine (HO13.out.mono HLT.out).grown (grownBy_upd hu9) (fun g hg e => ?_)
            have h1 := (HO13.out.lt hg).1
            have h2 := Option.some.inj e
            have h3 := HLT.out
            omega
      · have i1 : ¬ (j : Int) < (n : Int) := by omega
        obtain rfl : j = p := by omega
        have HHQ : Hid (C.has L (([b0, b1, b2, b3], e0) : C.St) = false) := by
          show _ = _
          rw [← Bool.not_eq_true, HHP.out]
          rintro ⟨x, h1, _⟩
          rw [List.getElem?_eq_none (by rw [HN.out]; omega)] at h1
          cases h1
        rw [HHQ.out] at HAD
        clear HHQ HHP
        go_wp2_with fail
        refine region_w Try.mixed (by kernel_rfl) ?_
        refine w_move rfl _ rfl (.int .i64 (j : Int)) rfl (fun K hK => ?_)
        go_simp
        refine hK _ ?_
        clear hK K
        refine w_move rfl _ rfl (.pointer (some ⟨c, 0, none⟩)) rfl (fun K hK => ?_)
        go_simp
        refine hK _ ?_
        clear hK K
        refine w_value rfl (.pointer (some ⟨c, 0, none⟩)) (fun u hu => by go_simp) (fun K hK => ?_)
        go_simp
        refine hK _ ?_
        clear hK K
        refine w_value rfl (.pointer (some ⟨c, 0, none⟩)) (fun u hu => by go_simp) (fun K hK => ?_)
        go_simp
        refine hK _ ?_
        clear hK K
        refine w_value rfl (.slice sa n cap) (fun u hu => by have hs := HCr.out u hu; go_simp) (fun K hK => ?_)
        go_simp
        refine hK _ ?_
        clear hK K
        refine w_value rfl (.int .i64 (n : Int)) (fun u hu => by go_simp) (fun K hK => ?_)
        go_simp
        refine hK _ ?_
        clear hK K
        refine w_value rfl (.bool false) (fun u hu => by go_simp) (fun K hK => ?_)
        go_simp
        refine hK _ ?_
        clear hK K
        refine w_move rfl _ rfl (.bool false) rfl (fun K hK => ?_)
        go_simp
        refine hK _ ?_
        clear hK K
        refine w_skip 7 true (some false) rfl (by rfl) rfl (fun K hK => ?_)
        go_simp
        refine hK _ ?_
        clear hK K
        refine w_skip 7 true (some false) rfl (by rfl) rfl (fun K hK => ?_)
        go_simp
        refine hK _ ?_
        clear hK K
        refine w_skip 7 true (some false) rfl (by rfl) rfl (fun K hK => ?_)
        go_simp
        refine hK _ ?_
        clear hK K
        refine w_skip 7 true (some false) rfl (by rfl) rfl (fun K hK => ?_)
        go_simp
        refine hK _ ?_
        clear hK K
        refine w_skip 7 true (some false) rfl (by rfl) rfl (fun K hK => ?_)
        go_simp
        refine hK _ ?_
        clear hK K
        refine w_skip 7 true (some false) rfl (by rfl) rfl (fun K hK => ?_)
        go_simp
        refine hK _ ?_
        clear hK K
        refine w_skip 7 true (some false) rfl (by rfl) rfl (fun K hK => ?_)
        go_simp
        refine hK _ ?_
        clear hK K
        refine w_skip 7 true (some false) rfl (by rfl) rfl (fun K hK => ?_)
        go_simp
        refine hK _ ?_
        clear hK K
        refine w_skip 7 true (some false) rfl (by rfl) rfl (fun K hK => ?_)
        go_simp
        refine hK _ ?_
        clear hK K
        refine w_skip 7 true (some false) rfl (by rfl) rfl (fun K hK => ?_)
        go_simp
        refine hK _ ?_
        clear hK K
        refine w_skip 7 true (some false) rfl (by rfl) rfl (fun K hK => ?_)
        go_simp
        refine hK _ ?_
        clear hK K
        refine w_value rfl (.bool false) (fun u hu => by go_simp) (fun K hK => ?_)
        go_simp
        refine hK _ ?_
        clear hK K
        refine w_nil ?_
        intro u hu
        have S8 := Lib.hid (Sr.out.below hu)
        have HCr : Hid (∀ u', Below u.heap.size u u' → u'.cell? ⟨c, 0, none⟩ = some (.slice sa n cap)) := fun u' hu => HCC.out u' (S8.out.below hu).under
        clear hu HRh Sr
        go_wp2_with fail
        refine region_w Try.mixed (by kernel_rfl) ?_
        refine w_move rfl _ rfl (.int .i64 (j : Int)) rfl (fun K hK => ?_)
        go_simp
        refine hK _ ?_
        clear hK K
        refine w_move rfl _ rfl (.pointer (some ⟨c, 0, none⟩)) rfl (fun K hK => ?_)
        go_simp
        refine hK _ ?_
        clear hK K
        refine w_value rfl (.pointer (some ⟨c, 0, none⟩)) (fun u hu => by go_simp) (fun K hK => ?_)
        go_simp
        refine hK _ ?_
        clear hK K
        refine w_value rfl (.pointer (some ⟨c, 0, none⟩)) (fun u hu => by go_simp) (fun K hK => ?_)
        go_simp
        refine hK _ ?_
        clear hK K
        refine w_value rfl (.slice sa n cap) (fun u hu => by have hs := HCr.out u hu; go_simp) (fun K hK => ?_)
        go_simp
        refine hK _ ?_
        clear hK K
        refine w_value rfl (.int .i64 (n : Int)) (fun u hu => by go_simp) (fun K hK => ?_)
        go_simp
        refine hK _ ?_
        clear hK K
        refine w_value rfl (.bool false) (fun u hu => by go_simp) (fun K hK => ?_)
        go_simp
        refine hK _ ?_
        clear hK K
        refine w_move rfl _ rfl (.bool false) rfl (fun K hK => ?_)
        go_simp
        refine hK _ ?_
        clear hK K
        refine w_skip 7 true (some false) rfl (by rfl) rfl (fun K hK => ?_)
        go_simp
        refine hK _ ?_
        clear hK K
        refine w_skip 7 true (some false) rfl (by rfl) rfl (fun K hK => ?_)
        go_simp
        refine hK _ ?_
        clear hK K
        refine w_skip 7 true (some false) rfl (by rfl) rfl (fun K hK => ?_)
        go_simp
        refine hK _ ?_
        clear hK K
        refine w_skip 7 true (some false) rfl (by rfl) rfl (fun K hK => ?_)
        go_simp
        refine hK _ ?_
        clear hK K
        refine w_skip 7 true (some false) rfl (by rfl) rfl (fun K hK => ?_)
        go_simp
        refine hK _ ?_
        clear hK K
        refine w_skip 7 true (some false) rfl (by rfl) rfl (fun K hK => ?_)
        go_simp
        refine hK _ ?_
        clear hK K
        refine w_skip 7 true (some false) rfl (by rfl) rfl (fun K hK => ?_)
        go_simp
        refine hK _ ?_
        clear hK K
        refine w_skip 7 true (some false) rfl (by rfl) rfl (fun K hK => ?_)
        go_simp
        refine hK _ ?_
        clear hK K
        refine w_skip 7 true (some false) rfl (by rfl) rfl (fun K hK => ?_)
        go_simp
        refine hK _ ?_
        clear hK K
        refine w_skip 7 true (some false) rfl (by rfl) rfl (fun K hK => ?_)
        go_simp
        refine hK _ ?_
        clear hK K
        refine w_value rfl (.bool false) (fun u hu => by go_simp) (fun K hK => ?_)
        go_simp
        refine hK _ ?_
        clear hK K
        refine w_nil ?_
        intro u9 hu9
        have S9 := Lib.hid (S8.out.below hu9)
        clear hu9 HCr S8 i1
        obtain rfl : (C.ins L (([b0, b1, b2, b3], e0) : C.St) y, true) = A := by have := HAD.out; rw [if_pos (by simp)] at this; exact this.symm
        have HUI : Hid (C.Up (L.take j ++ ((([b0, b1, b2, b3], e0) : C.St), y) :: L.drop j)) := by
          have h9 := HUPA.out
          have : C.ins L (([b0, b1, b2, b3], e0) : C.St) y = L.take j ++ ((([b0, b1, b2, b3], e0) : C.St), y) :: L.drop j := by rw [← HP.out]; rfl
          rw [← this]
          exact h9
        have HIN : Hid (C.ins L (([b0, b1, b2, b3], e0) : C.St) y = L.take j ++ ((([b0, b1, b2, b3], e0) : C.St), y) :: L.drop j) := by show _ = _; rw [← HP.out]; rfl
        clear HAD HUPA HOL HP
        have hsl : ∀ w, (Instr.sliceAt 27 (.slice sa n cap) none (some (.int .i64 (j : Int))) none).run Try.prog w = .ok (.slice sa j cap) w := fun w => slice_hi elem_vR Try.underlying27 Try.sizeOf56 sa n cap j (by omega) w
        obtain ⟨a2, m2, c2, hs2, hI2⟩ := slice_lo (K := vk txt) elem_vR Try.underlying27 Try.sizeOf56 sa cap j L (by rw [HN.out]; exact hpn) (by rw [HN.out]; exact hcap) hcm
        rw [HN.out] at hs2 hI2
        have HI2 := Lib.hid hI2
        have cc := HCC.out _ S9.out.under
        obtain ⟨v10, w10, hr, ho, hg, hnw⟩ := append_any (K := vk txt) 27 Try.underlying27 inf_R zc_R u9 w.heap.size (.slice none 0 0) [] (OR.nil _ _ _) (.slice sa j cap) (L.take j) (IsR.take (HCH.out.below S9.out.under).own.is j (by rw [HN.out]; exact hpn)) (by simp; have := HN.out; omega) (by omega) S9.out.size
        have HR10 := Lib.hid hr
        have S10 : Hid (Sep w w10 [rO (vk txt) 56 w.heap.size v10 (L.take j), rB bs (ks .u64 [b0, b1, b2, b3] ++ [Value.int .i64 e0])]) := (S9.out.nilrow (vk txt) 56 w.heap.size).row 0 rfl ho hg hnw
        clear hr ho hg hnw hI2
        have hbl : Blk w10 bs [Value.int .u64 (b0 : Int), Value.int .u64 (b1 : Int), Value.int .u64 (b2 : Int), Value.int .u64 (b3 : Int), Value.int .i64 e0] := S10.out.blk 1 rfl
        have hB11 : Below w10.heap.size w10 (w10.alloc (.cells #[.int .u64 (b0 : Int), .int .u64 (b1 : Int), .int .u64 (b2 : Int), .int .u64 (b3 : Int), .int .i64 e0, .string y] 56)) := (Below.refl _ _).alloc (Nat.le_refl _) _
        have S11 := S10.out.below hB11
        have hX11 : (w10.alloc (.cells #[.int .u64 (b0 : Int), .int .u64 (b1 : Int), .int .u64 (b2 : Int), .int .u64 (b3 : Int), .int .i64 e0, .string y] 56)).heap[w10.heap.size]? = some (.cells ((vk txt).cf ((([b0, b1, b2, b3], e0) : C.St), y)).toArray 56 (0, 0)) := heap_alloc_last w10 _
        obtain ⟨v12, w12, hr, ho, hg, hnw⟩ := append_any (K := vk txt) 27 Try.underlying27 inf_R zc_R _ w.heap.size v10 (L.take j) (S11.or 0 rfl) (.slice (some ⟨w10.heap.size, 0, none⟩) 1 1) [((([b0, b1, b2, b3], e0) : C.St), y)] (IsR.one (Blk.of_row hX11) (Array.getElem?_eq_some_iff.1 hX11).1) (by simp; have := HN.out; omega) (by omega) S11.size
        have HR12 := Lib.hid hr
        have S12 : Hid (Sep w w12 [rO (vk txt) 56 w.heap.size v12 (L.take j ++ [((([b0, b1, b2, b3], e0) : C.St), y)]), rB bs (ks .u64 [b0, b1, b2, b3] ++ [Value.int .i64 e0])]) := S11.row 0 rfl ho hg hnw
        clear hr ho hg hnw S11 hB11 hX11
        clear S10
        have cc2 := HCC.out _ S12.out.under
        obtain ⟨v13, w13, hr, ho, hg, hnw⟩ := append_any (K := vk txt) 27 Try.underlying27 inf_R zc_R w12 w.heap.size v12 (L.take j ++ [((([b0, b1, b2, b3], e0) : C.St), y)]) (S12.out.or 0 rfl) (.slice a2 m2 c2) (L.drop j) (HI2.out _ (HCH.out.below S12.out.under).own.is) (by simp; have := HN.out; omega) (by omega) S12.out.size
        have HR13 := Lib.hid hr
        have S13 : Hid (Sep w w13 [rO (vk txt) 56 w.heap.size v13 (L.take j ++ ((([b0, b1, b2, b3], e0) : C.St), y) :: L.drop j), rB bs (ks .u64 [b0, b1, b2, b3] ++ [Value.int .i64 e0])]) := by
          show Sep _ _ _
          have e : L.take j ++ ((([b0, b1, b2, b3], e0) : C.St), y) :: L.drop j = (L.take j ++ [((([b0, b1, b2, b3], e0) : C.St), y)]) ++ L.drop j := by rw [List.append_assoc]; rfl
          rw [e]
          exact S12.out.row 0 rfl ho hg hnw
        clear hr ho hg hnw S12
        have HC13 : Hid (Ch txt 56 w13 c (.slice sa n cap) L) := HCH.out.below S13.out.under
        have HO13 := Lib.hid (S13.out.or 0 rfl)
        obtain ⟨av, cv, ev, _⟩ := HO13.out.is.is
        obtain ⟨nv, HNV⟩ : ∃ nv, Hid ((L.take j ++ ((([b0, b1, b2, b3], e0) : C.St), y) :: L.drop j).length = nv) := ⟨_, rfl⟩
        rw [HNV.out] at ev
        subst ev
        have c13 := HC13.out.cell
        have f13 := HC13.out.free
        go_wp2_with (first | refine blk_load rfl 49 _ rfl bs rfl [Value.int .u64 (b0 : Int), Value.int .u64 (b1 : Int), Value.int .u64 (b2 : Int), Value.int .u64 (b3 : Int), Value.int .i64 e0] hbl _ Try.underlying49 rfl HSS.out ?_ | (at_builtin; refine append_step rfl _ _ _ _ rfl rfl rfl HR10.out ?_) | (at_builtin; refine append_step rfl _ _ _ _ rfl rfl rfl HR12.out ?_) | (at_builtin; refine append_step rfl _ _ _ _ rfl rfl rfl HR13.out ?_))
        go_ret
        have hu9 := Upd.setCell w13 c 0 (.slice av nv cv)
        rw [HIN.out]
        refine ⟨rfl, _, ⟨Blk.setc HC13.out.blk 0 (by simp) _, ?_, HUI.out⟩, (Tw.of_below S13.out.under).trans (Tw.of_upd hu9), .inr fun g hg => (HO13.out.lt hg).1⟩
        refine (HO13.out.mono HLT.out).grown (grownBy_upd hu9) (fun g hg e => ?_)
        have h1 := (HO13.out.lt hg).1
        have h2 := Option.some.inj e
        have h3 := HLT.out
        omega
end Go.Proofs.Ytmajkapapbhabaa.Ch

namespace Go.Proofs.Ytmajkapapbhabaa.Ch

open Go.RowKit Go.Proofs.Ytmajkapapbhabaa.Vc Go.Proofs.Ytmajkapapbhabaa.Sp Go.Proofs.Ytmajkapapbhabaa.Rw Go.Proofs.Ytmajkapapbhabaa.Se

set_option linter.unusedVariables false

set_option linter.unusedSimpArgs false

set_option maxRecDepth 100000

/-- what stays -/
def stays (q : Bool) (b : C.St) (h : List Nat) (x : C.Vr ByteArray) : Bool := !q || !C.seen x.1 h || decide (x.1 = b)
theorem keep_stays (L : List (C.Vr ByteArray)) (h : List Nat) : L.filter (stays (C.read L h).isSome ((C.read L h).getD (vk txt).none_).1 h) = C.keep L h := by
  cases e : C.read L h with
  | none =>
    rw [C.keep_none e, List.filter_eq_self]
    intro x hx
    rfl
  | some b =>
    rw [C.keep_some e]
    congr 1
set_option maxHeartbeats 16000000 in
theorem refprune (c : Nat) (v : Value) (L : List (C.Vr ByteArray)) (h : List Nat) (w : World) (hch : Ch txt 56 w c v L) (hh : h.length = 4) (hn : L.length < 1000) :
    Calls Try.prog 12 #[.pointer (some ⟨c, 0, none⟩), .agg (ks .u64 h).toArray] w fun e w' => ∃ v', e = .returned (.int .i64 ((L.length : Int) - ((C.keep L h).length : Int))) ∧ Ch txt 56 w' c v' (C.keep L h) ∧ Tw c v.ownBlock w w' ∧ Nw w v v' := by
  have HCH := Lib.hid hch
  have HUP := Lib.hid hch.up
  have HLT := Lib.hid hch.lt
  have HH := Lib.hid hh
  have CRd := Lib.hid (fun u (hu : Ch txt 56 u c v L) => refread c v L h u hu hh hn)
  have HK := Lib.hid (keep_stays L h)
  have HUK := Lib.hid (hch.up.keep h)
  have HB4 : Hid (((C.read L h).getD (vk txt).none_).1.1.length = 4) := best_fourS hch.up h
  obtain ⟨X, HX⟩ : ∃ X, Hid ((C.read L h).getD (vk txt).none_ = X) := ⟨_, rfl⟩
  obtain ⟨q, HQ⟩ : ∃ q, Hid ((C.read L h).isSome = q) := ⟨_, rfl⟩
  have CRd : Hid (∀ u, Ch txt 56 u c v L → Calls Try.prog 17 #[.pointer (some ⟨c, 0, none⟩), .agg (ks .u64 h).toArray] u fun e u' => e = .returned (.tuple #[(vk txt).val X, .bool q]) ∧ Below u.heap.size u u') := fun u hu => by
    have := CRd.out u hu
    rw [HX.out, HQ.out] at this
    exact this
  rw [HX.out, HQ.out] at HK
  rw [HX.out] at HB4
  obtain ⟨M, HM⟩ : ∃ M, Hid (C.keep L h = M) := ⟨_, rfl⟩
  rw [HM.out] at HK HUK ⊢
  obtain ⟨n, HN⟩ : ∃ n, Hid (L.length = n) := ⟨_, rfl⟩
  obtain ⟨nv, HNV⟩ : ∃ n, Hid (M.length = n) := ⟨_, rfl⟩
  have HNN : Hid (nv ≤ n) := by show _ ≤ _; rw [← HNV.out, ← HN.out, ← HK.out]; exact List.length_filter_le ..
  obtain ⟨sa, cap, ev, hcap, hcm, _⟩ := hch.own.is.is
  rw [HN.out] at hn hcap ev ⊢
  rw [HNV.out]
  subst ev
  have HCC : Hid (∀ u, Below w.heap.size w u → u.cell? ⟨c, 0, none⟩ = some (.slice sa n cap)) := fun u hu => (HCH.out.below hu).cell
  clear hch hh HX HQ HM
  go_enter Try.func12, Try.ntmps12
  go_wp2_with (first | refine blk_box rfl 45 _ rfl (ks .u64 h) rfl ?_)
  intro w1 A1 B1 Z1
  obtain ⟨bh, HBH⟩ : ∃ b, Hid (w.heap.size = b) := ⟨_, rfl⟩
  have S1 : Hid (Sep w w1 [rB bh (ks .u64 h)]) := by show Sep _ _ _; rw [← HBH.out]; exact (Sep.start w).box B1 Z1 A1
  clear A1 B1 Z1
  rw [HBH.out]
  go_wp2_with (first | refine blk_load rfl 45 _ rfl bh rfl (ks .u64 h) (S1.out.blk 0 rfl) _ Try.underlying45 rfl (size_kr HH.out) ?_)
  refine (CRd.out _ (HCH.out.below S1.out.under)).mono ?_; rintro e w2 ⟨rfl, hb⟩
  have S2 := Lib.hid (S1.out.below hb)
  clear hb S1 CRd
  go_wp2_with (first | refine blk_alloc rfl 56 ((vk txt).cf (vk txt).none_) rfl info_vR ?_)
  intro w3 A B Z
  obtain ⟨bb, HBB⟩ : ∃ b, Hid (w2.heap.size = b) := ⟨_, rfl⟩
  go_wp2_with (first | refine blk_store rfl 56 _ _ rfl w2.heap.size rfl ((vk txt).cf X) rfl _ A rfl size_vR rfl ?_)
  intro w4 A9 U9
  have S4 : Hid (Sep w w4 [rO (vk txt) 56 w.heap.size (.slice none 0 0) [], rB bb ((vk txt).cf X), rB bh (ks .u64 h)]) := by
    show Sep _ _ _
    rw [← HBB.out]
    exact (Sep.fresh S2.out B Z U9 A9).nilrow (vk txt) 56 w.heap.size
  rw [HBB.out]
  clear A B Z A9 U9 S2 HBB
  go_wp2_with fail
  go_loopw [7, 8] (fun va x wr => ∃ i : Nat, i ≤ n ∧ x = .int .i64 (i : Int) ∧ Hid (Sep w wr [rO (vk txt) 56 w.heap.size va ((L.take i).filter (stays q X.1 h)), rB bb ((vk txt).cf X), rB bh (ks .u64 h)])) (fun _ x _ => n - (intOf x).toNat)
  case atStart => exact ⟨0, by omega, rfl, S4⟩
  case round =>
    obtain ⟨i, hin, rfl, Sr⟩ := hrel
    clear S4
    by_cases hlt : i < n
    · have i1 : (i : Int) < (n : Int) := by omega
      have hxi := C.getD_some (show i < L.length by rw [HN.out]; exact hlt) (vk txt).none_
      have hx4 := HUP.out.four _ (List.mem_of_getElem? hxi)
      have hft := C.filter_take L (stays q X.1 h) i _ hxi
      obtain ⟨gA, oA, cA', hv, hgA, hrow⟩ := IsR.at (HCH.out.below Sr.out.under).own.is i (by rw [HN.out]; exact hlt)
      obtain rfl : sa = some ⟨gA, oA, none⟩ := by injection hv
      obtain ⟨x, HXX⟩ : ∃ x, Hid (L.getD i (vk txt).none_ = x) := ⟨_, rfl⟩
      rw [HXX.out] at hrow hx4 hft
      clear HXX hv hxi
      obtain ⟨⟨xl, e0⟩, y⟩ := x
      dsimp only at hx4
      obtain ⟨b0, b1, b2, b3, rfl⟩ := V.four hx4
      have HSS := Lib.hid (size_srr (l := [b0, b1, b2, b3]) (d := e0) rfl)
      obtain ⟨F1, HF1⟩ : ∃ l, Hid ((L.take i).filter (stays q X.1 h) = l) := ⟨_, rfl⟩
      rw [HF1.out] at Sr hft
      have HFL : Hid (F1.length ≤ n) := by
        show _ ≤ _
        rw [← HF1.out, ← HN.out]
        exact Nat.le_trans (List.length_filter_le ..) (by rw [List.length_take]; omega)
      obtain ⟨sq, HSQ⟩ : ∃ z, Hid (C.seen (([b0, b1, b2, b3], e0) : C.St) h = z) := ⟨_, rfl⟩
      obtain ⟨es, HES⟩ : ∃ z, Hid (decide ((([b0, b1, b2, b3], e0) : C.St) = X.1) = z) := ⟨_, rfl⟩
      have hst : stays q X.1 h ((([b0, b1, b2, b3], e0), y) : C.Vr ByteArray) = (!q || !sq || es) := by show (!q || !C.seen (([b0, b1, b2, b3], e0) : C.St) h || decide ((([b0, b1, b2, b3], e0) : C.St) = X.1)) = _; rw [HSQ.out, HES.out]
      rw [hst] at hft
      have HFT := Lib.hid hft
      have HRX : Hid (wr.rangeAt gA (oA + 6 * i) [Value.int .u64 (b0 : Int), Value.int .u64 (b1 : Int), Value.int .u64 (b2 : Int), Value.int .u64 (b3 : Int), Value.int .i64 e0, Value.string y]) := hrow
      have HRA : Hid (∀ u, Below wr.heap.size wr u → u.rangeAt gA (oA + 6 * i) (ks .u64 [b0, b1, b2, b3] ++ [Value.int .i64 e0])) := fun u hu k v hv => by
        rw [hu.cell (p := ⟨gA, oA + 6 * i + k, none⟩) hgA]
        exact row_stampS hrow rfl k v hv
      have HRh : Hid (∀ u, Below wr.heap.size wr u → Blk u bh (ks .u64 h)) := fun u hu => (Sr.out.below hu).blk 2 rfl
      have HRb : Hid (∀ u, Below wr.heap.size wr u → u.rangeAt bb 0 (ks .u64 X.1.1 ++ [Value.int .i64 X.1.2])) := fun u hu => row_stampS (((Sr.out.below hu).blk 1 rfl).1) HB4.out
      have HCr : Hid (∀ u, Below wr.heap.size wr u → u.cell? ⟨c, 0, none⟩ = some (.slice (some ⟨gA, oA, none⟩) n cap)) := fun u hu => HCC.out u (Sr.out.below hu).under
      have XS : Hid (∀ u, Below wr.heap.size wr u → Calls Try.prog 36 [.agg (ks .u64 [b0, b1, b2, b3] ++ [Value.int .i64 e0]).toArray, .agg (ks .u64 h).toArray].toArray u fun e u' => e = .returned (.bool sq) ∧ Below wr.heap.size wr u') := fun u hu => Calls.more hu (by have := ref_sseen [b0, b1, b2, b3] h e0 u rfl HH.out; rw [show V.leq [b0, b1, b2, b3] h = sq from HSQ.out] at this; exact this)
      have HE : Hid (∀ w, (binOp .eql 49 (SV [b0, b1, b2, b3] e0) (SV X.1.1 X.1.2)).run Try.prog w = .ok (.bool es) w) := fun w => by
        rw [eql_rs _ _ _ _ rfl HB4.out]
        rw [show T.same [b0, b1, b2, b3] e0 X.1.1 X.1.2 = es from by rw [← HES.out]; exact same_iffS (([b0, b1, b2, b3], e0) : C.St) X.1]
      have HSB := Lib.hid (size_srr (d := X.1.2) HB4.out)
      have hixa : ∀ w, (Instr.indexAt 27 (.slice (some ⟨gA, oA, none⟩) n cap) (.int .i64 (i : Int))).run Try.prog w = .ok (.pointer (some ⟨gA, oA + 6 * i, none⟩)) w := fun w => index_vR gA oA n cap i hlt w
      clear hrow hst hft HSQ HES hx4 HF1
      cases q with
      | false =>
        have cc0 := HCr.out wr (Below.refl _ _)
        go_wp2_with fail
        clear cc0
        refine region_w Try.mixed (by kernel_rfl) ?_
        refine w_move rfl _ rfl (.bool false) rfl (fun K hK => ?_)
        go_simp
        refine hK _ ?_
        clear hK K
        refine w_value rfl (.bool true) (fun u hu => by go_simp) (fun K hK => ?_)
        go_simp
        refine hK _ ?_
        clear hK K
        refine w_move rfl _ rfl (.bool true) rfl (fun K hK => ?_)
        go_simp
        refine hK _ ?_
        clear hK K
        refine w_skip 2 false (some true) rfl (by rfl) rfl (fun K hK => ?_)
        go_simp
        refine hK _ ?_
        clear hK K
        refine w_skip 2 false (some true) rfl (by rfl) rfl (fun K hK => ?_)
        go_simp
        refine hK _ ?_
        clear hK K
        refine w_skip 2 false (some true) rfl (by rfl) rfl (fun K hK => ?_)
        go_simp
        refine hK _ ?_
        clear hK K
        refine w_skip 2 false (some true) rfl (by rfl) rfl (fun K hK => ?_)
        go_simp
        refine hK _ ?_
        clear hK K
        refine w_skip 2 false (some true) rfl (by rfl) rfl (fun K hK => ?_)
        go_simp
        refine hK _ ?_
        clear hK K
        refine w_skip 2 false (some true) rfl (by rfl) rfl (fun K hK => ?_)
        go_simp
        refine hK _ ?_
        clear hK K
        refine w_skip 2 false (some true) rfl (by rfl) rfl (fun K hK => ?_)
        go_simp
        refine hK _ ?_
        clear hK K
        refine w_skip 2 false (some true) rfl (by rfl) rfl (fun K hK => ?_)
        go_simp
        refine hK _ ?_
        clear hK K
        refine w_skip 2 false (some true) rfl (by rfl) rfl (fun K hK => ?_)
        go_simp
        refine hK _ ?_
        clear hK K
        refine w_skip 2 false (some true) rfl (by rfl) rfl (fun K hK => ?_)
        go_simp
        refine hK _ ?_
        clear hK K
        refine w_skip 2 false (some true) rfl (by rfl) rfl (fun K hK => ?_)
        go_simp
        refine hK _ ?_
        clear hK K
        refine w_value rfl (.bool true) (fun u hu => by go_simp) (fun K hK => ?_)
        go_simp
        refine hK _ ?_
        clear hK K
        refine w_move rfl _ rfl (.bool true) rfl (fun K hK => ?_)
        go_simp
        refine hK _ ?_
        clear hK K
        refine w_skip 15 false (some true) rfl (by rfl) rfl (fun K hK => ?_)
        go_simp
        refine hK _ ?_
        clear hK K
        refine w_skip 15 false (some true) rfl (by rfl) rfl (fun K hK => ?_)
        go_simp
        refine hK _ ?_
        clear hK K
        refine w_skip 15 false (some true) rfl (by rfl) rfl (fun K hK => ?_)
        go_simp
        refine hK _ ?_
        clear hK K
        refine w_skip 15 false (some true) rfl (by rfl) rfl (fun K hK => ?_)
        go_simp
        refine hK _ ?_
        clear hK K
        refine w_skip 15 false (some true) rfl (by rfl) rfl (fun K hK => ?_)
        go_simp
        refine hK _ ?_
        clear hK K
        refine w_skip 15 false (some true) rfl (by rfl) rfl (fun K hK => ?_)
        go_simp
        refine hK _ ?_
        clear hK K
        refine w_skip 15 false (some true) rfl (by rfl) rfl (fun K hK => ?_)
        go_simp
        refine hK _ ?_
        clear hK K
        refine w_skip 15 false (some true) rfl (by rfl) rfl (fun K hK => ?_)
        go_simp
        refine hK _ ?_
        clear hK K
        refine w_skip 15 false (some true) rfl (by rfl) rfl (fun K hK => ?_)
        go_simp
        refine hK _ ?_
        clear hK K
        refine w_skip 15 false (some true) rfl (by rfl) rfl (fun K hK => ?_)
        go_simp
        refine hK _ ?_
        clear hK K
        refine w_skip 15 false (some true) rfl (by rfl) rfl (fun K hK => ?_)
        go_simp
        refine hK _ ?_
        clear hK K
        refine w_value rfl (.bool true) (fun u hu => by go_simp) (fun K hK => ?_)
        go_simp
        refine hK _ ?_
        clear hK K
        refine w_nil ?_
        intro u hu
        have S8 := Lib.hid (Sr.out.below hu)
        have HRX8 : Hid (u.rangeAt gA (oA + 6 * i) [Value.int .u64 (b0 : Int), Value.int .u64 (b1 : Int), Value.int .u64 (b2 : Int), Value.int .u64 (b3 : Int), Value.int .i64 e0, Value.string y]) := fun k v hv => by
          rw [hu.cell (p := ⟨gA, oA + 6 * i + k, none⟩) hgA]
          exact HRX.out k v hv
        have cc := HCr.out u hu
        clear hu HRX HRA HRh HRb HCr XS HE Sr
        have HFT2 : Hid ((L.take (i + 1)).filter (stays false X.1 h) = F1 ++ [((([b0, b1, b2, b3], e0), y) : C.Vr ByteArray)]) := HFT.out
        have hB9 : Below u.heap.size u (u.alloc (.cells #[.int .u64 (b0 : Int), .int .u64 (b1 : Int), .int .u64 (b2 : Int), .int .u64 (b3 : Int), .int .i64 e0, .string y] 56)) := (Below.refl _ _).alloc (Nat.le_refl _) _
        have S9 := S8.out.below hB9
        have hX9 : (u.alloc (.cells #[.int .u64 (b0 : Int), .int .u64 (b1 : Int), .int .u64 (b2 : Int), .int .u64 (b3 : Int), .int .i64 e0, .string y] 56)).heap[u.heap.size]? = some (.cells ((vk txt).cf ((([b0, b1, b2, b3], e0), y) : C.Vr ByteArray)).toArray 56 (0, 0)) := heap_alloc_last u _
        obtain ⟨v9, w9, hr, ho, hg, hnw⟩ := append_any (K := vk txt) 27 Try.underlying27 inf_R zc_R _ w.heap.size _ F1 (S9.or 0 rfl) (.slice (some ⟨u.heap.size, 0, none⟩) 1 1) [((([b0, b1, b2, b3], e0), y) : C.Vr ByteArray)] (IsR.one (Blk.of_row hX9) (Array.getElem?_eq_some_iff.1 hX9).1) (by have := HFL.out; simp; omega) (by omega) S9.size
        have HRn := Lib.hid hr
        have S10 : Hid (Sep w w9 [rO (vk txt) 56 w.heap.size v9 ((L.take (i + 1)).filter (stays false X.1 h)), rB bb ((vk txt).cf X), rB bh (ks .u64 h)]) := by
          show Sep _ _ _
          rw [HFT2.out]
          exact S9.row 0 rfl ho hg hnw
        clear hr ho hg hnw hX9 S9 hB9
        go_wp2_with (first | refine wpList_load_mid rfl 56 _ rfl gA (oA + 6 * i) rfl [Value.int .u64 (b0 : Int), Value.int .u64 (b1 : Int), Value.int .u64 (b2 : Int), Value.int .u64 (b3 : Int), Value.int .i64 e0, Value.string y] _ HRX8.out Try.underlying56 rfl size_vR ?_ | (at_builtin; refine append_step rfl _ _ _ _ rfl rfl rfl HRn.out ?_))
        go_roundw
        case rel => exact ⟨i + 1, by omega, by go_num, S10⟩
        case measure => simp [intOf]; omega
      | true =>
        cases sq with
        | false =>
          have cc0 := HCr.out wr (Below.refl _ _)
          go_wp2_with fail
          clear cc0
          refine region_w Try.mixed (by kernel_rfl) ?_
          refine w_move rfl _ rfl (.bool true) rfl (fun K hK => ?_)
          go_simp
          refine hK _ ?_
          clear hK K
          refine w_value rfl (.bool false) (fun u hu => by go_simp) (fun K hK => ?_)
          go_simp
          refine hK _ ?_
          clear hK K
          refine w_move rfl _ rfl (.bool false) rfl (fun K hK => ?_)
          go_simp
          refine hK _ ?_
          clear hK K
          refine wg_value (by rfl) (.pointer (some ⟨c, 0, none⟩)) (fun u hu => by go_simp) (fun K hK => ?_)
          go_simp
          refine hK _ ?_
          clear hK K
          refine wg_value (by rfl) (.pointer (some ⟨c, 0, none⟩)) (fun u hu => by go_simp) (fun K hK => ?_)
          go_simp
          refine hK _ ?_
          clear hK K
          refine wg_value (by rfl) (.pointer (some ⟨c, 0, none⟩)) (fun u hu => by go_simp) (fun K hK => ?_)
          go_simp
          refine hK _ ?_
          clear hK K
          refine wg_value (by rfl) (.slice (some ⟨gA, oA, none⟩) n cap) (fun u hu => by have hs := HCr.out u hu; go_simp) (fun K hK => ?_)
          go_simp
          refine hK _ ?_
          clear hK K
          refine wg_value (by rfl) (.int .i64 (i : Int)) (fun u hu => by go_simp) (fun K hK => ?_)
          go_simp
          refine hK _ ?_
          clear hK K
          refine wg_value (by rfl) (.pointer (some ⟨gA, oA + 6 * i, none⟩)) (fun u hu => by have hs := hixa u; go_simp) (fun K hK => ?_)
          go_simp
          refine hK _ ?_
          clear hK K
          refine wg_value (by rfl) (.pointer (some ⟨gA, oA + 6 * i, none⟩)) (fun u hu => by go_simp) (fun K hK => ?_)
          go_simp
          refine hK _ ?_
          clear hK K
          refine wg_mid_load (by rfl) 49 _ rfl gA (oA + 6 * i) rfl (ks .u64 [b0, b1, b2, b3] ++ [Value.int .i64 e0]) (by exact HRA.out) _ Try.underlying49 rfl HSS.out (fun K hK => ?_)
          go_simp
          refine hK _ ?_
          clear hK K
          refine wg_blk_load (by rfl) 45 _ rfl bh rfl (ks .u64 h) (by exact HRh.out) _ Try.underlying45 rfl (size_kr HH.out) (fun K hK => ?_)
          go_simp
          refine hK _ ?_
          clear hK K
          refine wg_call (by rfl) 36 Try.f36 Try.func36 rfl rfl _ _ rfl [.agg (ks .u64 [b0, b1, b2, b3] ++ [Value.int .i64 e0]).toArray, .agg (ks .u64 h).toArray] rfl (.bool false) (by exact XS.out) (fun K hK => ?_)
          go_simp
          refine hK _ ?_
          clear hK K
          refine wg_value (by rfl) (.bool true) (fun u hu => by go_simp) (fun K hK => ?_)
          go_simp
          refine hK _ ?_
          clear hK K
          refine w_value rfl (.bool true) (fun u hu => by go_simp) (fun K hK => ?_)
          go_simp
          refine hK _ ?_
          clear hK K
          refine w_move rfl _ rfl (.bool true) rfl (fun K hK => ?_)
          go_simp
          refine hK _ ?_
          clear hK K
          refine w_skip 15 false (some true) rfl (by rfl) rfl (fun K hK => ?_)
          go_simp
          refine hK _ ?_
          clear hK K
          refine w_skip 15 false (some true) rfl (by rfl) rfl (fun K hK => ?_)
          go_simp
          refine hK _ ?_
          clear hK K
          refine w_skip 15 false (some true) rfl (by rfl) rfl (fun K hK => ?_)
          go_simp
          refine hK _ ?_
          clear hK K
          refine w_skip 15 false (some true) rfl (by rfl) rfl (fun K hK => ?_)
          go_simp
          refine hK _ ?_
          clear hK K
          refine w_skip 15 false (some true) rfl (by rfl) rfl (fun K hK => ?_)
          go_simp
          refine hK _ ?_
          clear hK K
          refine w_skip 15 false (some true) rfl (by rfl) rfl (fun K hK => ?_)
          go_simp
          refine hK _ ?_
          clear hK K
          refine w_skip 15 false (some true) rfl (by rfl) rfl (fun K hK => ?_)
          go_simp
          refine hK _ ?_
          clear hK K
          refine w_skip 15 false (some true) rfl (by rfl) rfl (fun K hK => ?_)
          go_simp
          refine hK _ ?_
          clear hK K
          refine w_skip 15 false (some true) rfl (by rfl) rfl (fun K hK => ?_)
          go_simp
          refine hK _ ?_
          clear hK K
          refine w_skip 15 false (some true) rfl (by rfl) rfl (fun K hK => ?_)
          go_simp
          refine hK _ ?_
          clear hK K
          refine w_skip 15 false (some true) rfl (by rfl) rfl (fun K hK => ?_)
          go_simp
          refine hK _ ?_
          clear hK K
          refine w_value rfl (.bool true) (fun u hu => by go_simp) (fun K hK => ?_)
          go_simp
          refine hK _ ?_
          clear hK K
          refine w_nil ?_
          intro u hu
          have S8 := Lib.hid (Sr.out.below hu)
          have HRX8 : Hid (u.rangeAt gA (oA + 6 * i) [Value.int .u64 (b0 : Int), Value.int .u64 (b1 : Int), Value.int .u64 (b2 : Int), Value.int .u64 (b3 : Int), Value.int .i64 e0, Value.string y]) := fun k v hv => by
            rw [hu.cell (p := ⟨gA, oA + 6 * i + k, none⟩) hgA]
            exact HRX.out k v hv
          have cc := HCr.out u hu
          clear hu HRX HRA HRh HRb HCr XS HE Sr
          have HFT2 : Hid ((L.take (i + 1)).filter (stays true X.1 h) = F1 ++ [((([b0, b1, b2, b3], e0), y) : C.Vr ByteArray)]) := HFT.out
          have hB9 : Below u.heap.size u (u.alloc (.cells #[.int .u64 (b0 : Int), .int .u64 (b1 : Int), .int .u64 (b2 : Int), .int .u64 (b3 : Int), .int .i64 e0, .string y] 56)) := (Below.refl _ _).alloc (Nat.le_refl _) _
          have S9 := S8.out.below hB9
          have hX9 : (u.alloc (.cells #[.int .u64 (b0 : Int), .int .u64 (b1 : Int), .int .u64 (b2 : Int), .int .u64 (b3 : Int), .int .i64 e0, .string y] 56)).heap[u.heap.size]? = some (.cells ((vk txt).cf ((([b0, b1, b2, b3], e0), y) : C.Vr ByteArray)).toArray 56 (0, 0)) := heap_alloc_last u _
          obtain ⟨v9, w9, hr, ho, hg, hnw⟩ := append_any (K := vk txt) 27 Try.underlying27 inf_R zc_R _ w.heap.size _ F1 (S9.or 0 rfl) (.slice (some ⟨u.heap.size, 0, none⟩) 1 1) [((([b0, b1, b2, b3], e0), y) : C.Vr ByteArray)] (IsR.one (Blk.of_row hX9) (Array.getElem?_eq_some_iff.1 hX9).1) (by have := HFL.out; simp; omega) (by omega) S9.size
          have HRn := Lib.hid hr
          have S10 : Hid (Sep w w9 [rO (vk txt) 56 w.heap.size v9 ((L.take (i + 1)).filter (stays true X.1 h)), rB bb ((vk txt).cf X), rB bh (ks .u64 h)]) := by
            show Sep _ _ _
            rw [HFT2.out]
            exact S9.row 0 rfl ho hg hnw
          clear hr ho hg hnw hX9 S9 hB9
          go_wp2_with (first | refine wpList_load_mid rfl 56 _ rfl gA (oA + 6 * i) rfl [Value.int .u64 (b0 : Int), Value.int .u64 (b1 : Int), Value.int .u64 (b2 : Int), Value.int .u64 (b3 : Int), Value.int .i64 e0, Value.string y] _ HRX8.out Try.underlying56 rfl size_vR ?_ | (at_builtin; refine append_step rfl _ _ _ _ rfl rfl rfl HRn.out ?_))
          go_roundw
          case rel => exact ⟨i + 1, by omega, by go_num, S10⟩
          case measure => simp [intOf]; omega
        | true =>
          have cc0 := HCr.out wr (Below.refl _ _)
          go_wp2_with fail
          clear cc0
          refine region_w Try.mixed (by kernel_rfl) ?_
          refine w_move rfl _ rfl (.bool true) rfl (fun K hK => ?_)
          go_simp
          refine hK _ ?_
          clear hK K
          refine w_value rfl (.bool false) (fun u hu => by go_simp) (fun K hK => ?_)
          go_simp
          refine hK _ ?_
          clear hK K
          refine w_move rfl _ rfl (.bool false) rfl (fun K hK => ?_)
          go_simp
          refine hK _ ?_
          clear hK K
          refine wg_value (by rfl) (.pointer (some ⟨c, 0, none⟩)) (fun u hu => by go_simp) (fun K hK => ?_)
          go_simp
          refine hK _ ?_
          clear hK K
          refine wg_value (by rfl) (.pointer (some ⟨c, 0, none⟩)) (fun u hu => by go_simp) (fun K hK => ?_)
          go_simp
          refine hK _ ?_
          clear hK K
          refine wg_value (by rfl) (.pointer (some ⟨c, 0, none⟩)) (fun u hu => by go_simp) (fun K hK => ?_)
          go_simp
          refine hK _ ?_
          clear hK K
          refine wg_value (by rfl) (.slice (some ⟨gA, oA, none⟩) n cap) (fun u hu => by have hs := HCr.out u hu; go_simp) (fun K hK => ?_)
          go_simp
          refine hK _ ?_
          clear hK K
          refine wg_value (by rfl) (.int .i64 (i : Int)) (fun u hu => by go_simp) (fun K hK => ?_)
          go_simp
          refine hK _ ?_
          clear hK K
          refine wg_value (by rfl) (.pointer (some ⟨gA, oA + 6 * i, none⟩)) (fun u hu => by have hs := hixa u; go_simp) (fun K hK => ?_)
          go_simp
          refine hK _ ?_
          clear hK K
          refine wg_value (by rfl) (.pointer (some ⟨gA, oA + 6 * i, none⟩)) (fun u hu => by go_simp) (fun K hK => ?_)
          go_simp
          refine hK _ ?_
          clear hK K
          refine wg_mid_load (by rfl) 49 _ rfl gA (oA + 6 * i) rfl (ks .u64 [b0, b1, b2, b3] ++ [Value.int .i64 e0]) (by exact HRA.out) _ Try.underlying49 rfl HSS.out (fun K hK => ?_)
          go_simp
          refine hK _ ?_
          clear hK K
          refine wg_blk_load (by rfl) 45 _ rfl bh rfl (ks .u64 h) (by exact HRh.out) _ Try.underlying45 rfl (size_kr HH.out) (fun K hK => ?_)
          go_simp
          refine hK _ ?_
          clear hK K
          refine wg_call (by rfl) 36 Try.f36 Try.func36 rfl rfl _ _ rfl [.agg (ks .u64 [b0, b1, b2, b3] ++ [Value.int .i64 e0]).toArray, .agg (ks .u64 h).toArray] rfl (.bool true) (by exact XS.out) (fun K hK => ?_)
          go_simp
          refine hK _ ?_
          clear hK K
          refine wg_value (by rfl) (.bool false) (fun u hu => by go_simp) (fun K hK => ?_)
          go_simp
          refine hK _ ?_
          clear hK K
          refine w_value rfl (.bool false) (fun u hu => by go_simp) (fun K hK => ?_)
          go_simp
          refine hK _ ?_
          clear hK K
          refine w_move rfl _ rfl (.bool false) rfl (fun K hK => ?_)
          go_simp
          refine hK _ ?_
          clear hK K
          refine wg_value (by rfl) (.pointer (some ⟨c, 0, none⟩)) (fun u hu => by go_simp) (fun K hK => ?_)
          go_simp
          refine hK _ ?_
          clear hK K
          refine wg_value (by rfl) (.pointer (some ⟨c, 0, none⟩)) (fun u hu => by go_simp) (fun K hK => ?_)
          go_simp
          refine hK _ ?_
          clear hK K
          refine wg_value (by rfl) (.pointer (some ⟨c, 0, none⟩)) (fun u hu => by go_simp) (fun K hK => ?_)
          go_simp
          refine hK _ ?_
          clear hK K
          refine wg_value (by rfl) (.slice (some ⟨gA, oA, none⟩) n cap) (fun u hu => by have hs := HCr.out u hu; go_simp) (fun K hK => ?_)
          go_simp
          refine hK _ ?_
          clear hK K
          refine wg_value (by rfl) (.int .i64 (i : Int)) (fun u hu => by go_simp) (fun K hK => ?_)
          go_simp
          refine hK _ ?_
          clear hK K
          refine wg_value (by rfl) (.pointer (some ⟨gA, oA + 6 * i, none⟩)) (fun u hu => by have hs := hixa u; go_simp) (fun K hK => ?_)
          go_simp
          refine hK _ ?_
          clear hK K
          refine wg_value (by rfl) (.pointer (some ⟨gA, oA + 6 * i, none⟩)) (fun u hu => by go_simp) (fun K hK => ?_)
          go_simp
          refine hK _ ?_
          clear hK K
          refine wg_mid_load (by rfl) 49 _ rfl gA (oA + 6 * i) rfl (ks .u64 [b0, b1, b2, b3] ++ [Value.int .i64 e0]) (by exact HRA.out) _ Try.underlying49 rfl HSS.out (fun K hK => ?_)
          go_simp
          refine hK _ ?_
          clear hK K
          refine wg_value (by rfl) (.pointer (some ⟨bb, 0, none⟩)) (fun u hu => by go_simp) (fun K hK => ?_)
          go_simp
          refine hK _ ?_
          clear hK K
          refine wg_mid_load (by rfl) 49 _ rfl bb 0 rfl (ks .u64 X.1.1 ++ [Value.int .i64 X.1.2]) (by exact HRb.out) _ Try.underlying49 rfl HSB.out (fun K hK => ?_)
          go_simp
          refine hK _ ?_
          clear hK K
          refine wg_value (by rfl) (.bool es) (fun u _ => run_eql u .eql 49 49 _ _ (SV [b0, b1, b2, b3] e0) (SV X.1.1 X.1.2) _ rfl rfl rfl (guard_rs _ _ _ _ _ _ u) (HE.out u)) (fun K hK => ?_)
          go_simp
          refine hK _ ?_
          clear hK K
          refine w_value rfl (.bool es) (fun u hu => by go_simp) (fun K hK => ?_)
          go_simp
          refine hK _ ?_
          clear hK K
          refine w_nil ?_
          intro u hu
          have S8 := Lib.hid (Sr.out.below hu)
          have HRX8 : Hid (u.rangeAt gA (oA + 6 * i) [Value.int .u64 (b0 : Int), Value.int .u64 (b1 : Int), Value.int .u64 (b2 : Int), Value.int .u64 (b3 : Int), Value.int .i64 e0, Value.string y]) := fun k v hv => by
            rw [hu.cell (p := ⟨gA, oA + 6 * i + k, none⟩) hgA]
            exact HRX.out k v hv
          have cc := HCr.out u hu
          clear hu HRX HRA HRh HRb HCr XS HE Sr
          cases es with
          | true =>
            have HFT2 : Hid ((L.take (i + 1)).filter (stays true X.1 h) = F1 ++ [((([b0, b1, b2, b3], e0), y) : C.Vr ByteArray)]) := HFT.out
            have hB9 : Below u.heap.size u (u.alloc (.cells #[.int .u64 (b0 : Int), .int .u64 (b1 : Int), .int .u64 (b2 : Int), .int .u64 (b3 : Int), .int .i64 e0, .string y] 56)) := (Below.refl _ _).alloc (Nat.le_refl _) _
            have S9 := S8.out.below hB9
            have hX9 : (u.alloc (.cells #[.int .u64 (b0 : Int), .int .u64 (b1 : Int), .int .u64 (b2 : Int), .int .u64 (b3 : Int), .int .i64 e0, .string y] 56)).heap[u.heap.size]? = some (.cells ((vk txt).cf ((([b0, b1, b2, b3], e0), y) : C.Vr ByteArray)).toArray 56 (0, 0)) := heap_alloc_last u _
            obtain ⟨v9, w9, hr, ho, hg, hnw⟩ := append_any (K := vk txt) 27 Try.underlying27 inf_R zc_R _ w.heap.size _ F1 (S9.or 0 rfl) (.slice (some ⟨u.heap.size, 0, none⟩) 1 1) [((([b0, b1, b2, b3], e0), y) : C.Vr ByteArray)] (IsR.one (Blk.of_row hX9) (Array.getElem?_eq_some_iff.1 hX9).1) (by have := HFL.out; simp; omega) (by omega) S9.size
            have HRn := Lib.hid hr
            have S10 : Hid (Sep w w9 [rO (vk txt) 56 w.heap.size v9 ((L.take (i + 1)).filter (stays true X.1 h)), rB bb ((vk txt).cf X), rB bh (ks .u64 h)]) := by
              show Sep _ _ _
              rw [HFT2.out]
              exact S9.row 0 rfl ho hg hnw
            clear hr ho hg hnw hX9 S9 hB9
            go_wp2_with (first | refine wpList_load_mid rfl 56 _ rfl gA (oA + 6 * i) rfl [Value.int .u64 (b0 : Int), Value.int .u64 (b1 : Int), Value.int .u64 (b2 : Int), Value.int .u64 (b3 : Int), Value.int .i64 e0, Value.string y] _ HRX8.out Try.underlying56 rfl size_vR ?_ | (at_builtin; refine append_step rfl _ _ _ _ rfl rfl rfl HRn.out ?_))
            go_roundw
            case rel => exact ⟨i + 1, by omega, by go_num, S10⟩
            case measure => simp [intOf]; omega
          | false =>
            have HFT2 : Hid ((L.take (i + 1)).filter (stays true X.1 h) = F1) := by
              have e : (L.take (i + 1)).filter (stays true X.1 h) = F1 ++ [] := HFT.out
              show _ = _
              rw [e, List.append_nil]
            clear cc HRX8
            go_wp2_with fail
            go_roundw
            case rel => exact ⟨i + 1, by omega, by go_num, by rw [HFT2.out]; exact S8⟩
            case measure => simp [intOf]; omega
    · obtain rfl : i = n := by omega
      have i1 : ¬ (i : Int) < (i : Int) := by omega
      rw [List.take_of_length_le (by rw [HN.out]; exact Nat.le_refl _), HK.out] at Sr
      have HC13 : Hid (Ch txt 56 wr c (.slice sa i cap) L) := HCH.out.below Sr.out.under
      have HO13 := Lib.hid (Sr.out.or 0 rfl)
      have HBU := Lib.hid Sr.out.under
      obtain ⟨av, cv, ev, _⟩ := HO13.out.is.is
      rw [HNV.out] at ev
      subst ev
      have c13 := HC13.out.cell
      have f13 := HC13.out.free
      have k1 : IntKind.i64.wrap ((i : Int) - (nv : Int)) = (i : Int) - (nv : Int) := by have := HNN.out; rw [IntKind.wrap_i64]; omega
      clear Sr HK
      go_wp2_with fail
      go_ret
      have hu9 := Upd.setCell wr c 0 (.slice av nv cv)
      refine ⟨rfl, _, ⟨Blk.setc HC13.out.blk 0 (by simp) _, ?_, HUK.out⟩, (Tw.of_below HBU.out).trans (Tw.of_upd hu9), .inr fun g hg => (HO13.out.lt hg).1⟩
      refine (HO13.out.mono HLT.out).grown (grownBy_upd hu9) (fun g hg e => ?_)
      have h1 := (HO13.out.lt hg).1
      have h2 := Option.some.inj e
      have h3 := HLT.out
      omega
end Go.Proofs.Ytmajkapapbhabaa.Ch

namespace Go.Proofs.Ytmajkapapbhabaa

open Go.RowKit

set_option linter.unusedVariables false

section

variable {P : Program} {ops : Array Oper} {Q : Exit → Act → World → Prop} {md : Region.Mode} {S : World → Prop} {cut : Nat}

def seqL (md : Region.Mode) (ops : Array Oper) : List Nat → Array Bool → Bool
  | [], listed => (Region.ready md ops listed).isEmpty
  | k :: ks, listed => (Region.ready md ops listed == [k]) && seqL md ops ks (listed.setIfInBounds k true)
def pickB (md : Region.Mode) (ops : Array Oper) (cut : Nat) (tl : List Nat) : List Nat → Array Bool → Bool
  | [], listed => seqL md ops tl listed
  | k :: ks, listed => (Region.ready md ops listed).contains k && Region.free md ops listed k && waitB md ops cut k && pickB md ops cut tl ks (listed.setIfInBounds k true)
def tailN (P : Program) (ops : Array Oper) (S : World → Prop) (Q : Exit → Act → World → Prop) : List Nat → Act → World → Prop
  | [], a, w => Q .normal a w
  | k :: ks, a, w => ∃ o, ops[k]? = some o ∧ (if Region.wanted o (yielded ops a.tmps) then o.wp P a w (fun a' w' => S w' ∧ tailN P ops S Q ks a' w') Q ∨ (o.asks P a w ∧ LetsOut Q) else S w ∧ tailN P ops S Q ks (a.put o.dst undef) w)
def stillN (P : Program) (ops : Array Oper) (S : World → Prop) (Q : Exit → Act → World → Prop) (Lq : Act → Prop) : List Nat → Act → Prop
  | [], a => Lq a
  | k :: ks, a => ∃ o, ops[k]? = some o ∧ ∃ v, YieldsIf P ops S o v a ∧ (∀ c a w, Q (.panic c) (a.put o.dst v) w → Q (.panic c) a w) ∧ stillN P ops S Q Lq ks (a.put o.dst v)
theorem pick_tail : ∀ (ks : List Nat) (listed : Array Bool) (a : Act) (w : World), seqL md ops ks listed = true → tailN P ops S Q ks a w → wpAnyC P md ops Q S cut ks.length listed a w
  | [], listed, a, w, hB, h => ⟨by simpa [seqL] using hB, h⟩
  | k :: ks, listed, a, w, hB, h => by
    obtain ⟨o, h0, h⟩ := h
    simp only [seqL, Bool.and_eq_true, beq_iff_eq] at hB
    refine ⟨fun h1 => (by rw [hB.1] at h1; cases h1), fun i hi => ?_⟩
    rw [hB.1] at hi
    obtain rfl : i = k := by simpa using hi
    have ih := fun a' w' => pick_tail ks (listed.setIfInBounds i true) a' w' hB.2
    unfold wpOp
    simp only [h0]
    split
    · rename_i hw
      rw [if_pos hw] at h
      exact h.imp (Oper.wp_mono fun a' w' h' => ⟨fun _ => h'.1, ih a' w' h'.2⟩) id
    · rename_i hw
      rw [if_neg hw] at h
      exact ⟨fun _ => h.1, ih _ _ h.2⟩
theorem pick_lex (hsel : Region.noSelect ops = true) (tl : List Nat) : ∀ (ks : List Nat) (listed : Array Bool) (a : Act) (w : World),
    pickB md ops cut tl ks listed = true → S w → stillN P ops S Q (fun a' => tailN P ops S Q tl a' w) ks a → wpAnyC P md ops Q S cut (ks.length + tl.length) listed a w
  | [], listed, a, w, hB, hS, h => by
    rw [List.length_nil, Nat.zero_add]
    exact pick_tail tl listed a w hB h
  | k :: ks, listed, a, w, hB, hS, h => by
    simp only [pickB, Bool.and_eq_true] at hB
    obtain ⟨o, h0, v, hy, hQ, hn⟩ := h
    rw [List.length_cons, show ks.length + 1 + tl.length = (ks.length + tl.length) + 1 by omega]
    have ih := pick_lex hsel tl ks (listed.setIfInBounds k true) (a.put o.dst v) w hB.2 hS hn
    exact wpAnyC_first h0 (Region.noSelect_spec hsel) hB.1.2 hQ (ks.length + tl.length) listed a w (Region.free_spec h0 hB.1.1.2) (by simpa using hB.1.1.1) hy hS ih
structure SN (P : Program) (ops : Array Oper) (S : World → Prop) (Q : Exit → Act → World → Prop) (Lq : Act → Prop) (ks : List Nat) (a : Act) : Prop where
  out : stillN P ops S Q Lq ks a
structure TN (P : Program) (ops : Array Oper) (S : World → Prop) (Q : Exit → Act → World → Prop) (ks : List Nat) (a : Act) (w : World) : Prop where
  out : tailN P ops S Q ks a w
theorem stillN_mono {Lq Lq' : Act → Prop} (hh : ∀ a, Lq a → Lq' a) : ∀ (ks : List Nat) (a : Act), stillN P ops S Q Lq ks a → stillN P ops S Q Lq' ks a
  | [], a, h => hh a h
  | k :: ks, a, ⟨o, h0, v, h1, h2, h3⟩ => ⟨o, h0, v, h1, h2, stillN_mono hh ks _ h3⟩
theorem region_pick {id : Nat} {a : Act} {w : World} {l : List Oper} (S : World → Prop) (rs tl : List Nat) (hm : P.follows .mixedOrders = true) (hsel : Region.noSelect l.toArray = true) (hn : rs.length + tl.length = l.length) (hB : pickB .any l.toArray l.length tl rs (Array.replicate l.length false) = true) (hS : S w.drew)
    (h : SN P l.toArray S Q (fun a' => TN P l.toArray S Q tl a' w.drew) rs a) : (Code.region id l.toArray true).wp P Q a w := by
  refine wp_region_any hm (wpAny_of_C (S := S) (cut := l.length) _ _ _ _ ?_)
  have := pick_lex (md := .any) (P := P) (Q := Q) (S := S) (cut := l.length) (ops := l.toArray) hsel tl rs (Array.replicate l.length false) a w.drew hB hS (stillN_mono (fun a' h' => h'.out) rs a h.out)
  rw [hn] at this
  simpa using this
section

variable {o : Oper} {a : Act} {w : World} {Lq : Act → Prop} {k : Nat} {ks : List Nat}

/-- one read: shown by a word of SC -/
theorem p_read (h0 : ops[k]? = some o) (h : SC P ops S Q (fun a' => SN P ops S Q Lq ks a') [o] a) : SN P ops S Q Lq (k :: ks) a := by
  obtain ⟨v, h1, h2, h3⟩ := h.out
  exact ⟨⟨o, h0, v, h1, h2, SN.out h3⟩⟩
theorem p_nil (h : Lq a) : SN P ops S Q Lq [] a := ⟨h⟩
theorem p_step (h0 : ops[k]? = some o) (h : wpList P ops (thenC Q fun a' w' => S w' ∧ TN P ops S Q ks a' w') [o] a w) : TN P ops S Q (k :: ks) a w := by
  refine ⟨⟨o, h0, ?_⟩⟩
  unfold wpList at h
  split
  · rename_i hw
    rw [if_pos hw] at h
    exact h.imp (Oper.wp_mono fun a' w' h' => ⟨h'.1, h'.2.out⟩) id
  · rename_i hw
    rw [if_neg hw] at h
    exact ⟨h.1, h.2.out⟩
theorem p_end (h : Q .normal a w) : TN P ops S Q [] a w := ⟨h⟩
end

end

end Go.Proofs.Ytmajkapapbhabaa

namespace Go.Proofs.Ytmajkapapbhabaa

open Go.ChangeShapes Go.WideShapes Go.ChangeAt Go.RowKit Go.Deep Go.Proofs.Ytmajkapapbhabaa.Sp Go.Proofs.Ytmajkapapbhabaa.Rw

set_option linter.unusedVariables false

set_option maxRecDepth 100000

structure Dd where
  kind : Nat
  m : Mk
  s : ByteArray
  l : List Nat
  own : Bool
def dcell (x : Dd) : List Value := [.int .u8 (x.kind : Int), .int .u64 ((x.m.1.1.getD 0 0 : Nat) : Int), .int .u64 ((x.m.1.1.getD 1 0 : Nat) : Int), .int .u64 ((x.m.1.1.getD 2 0 : Nat) : Int), .int .u64 ((x.m.1.1.getD 3 0 : Nat) : Int), .int .i64 x.m.1.2, .bool x.m.2, .string x.s, .int .u64 ((x.l.getD 0 0 : Nat) : Int), .int .u64 ((x.l.getD 1 0 : Nat) : Int), .int .u64 ((x.l.getD 2 0 : Nat) : Int), .int .u64 ((x.l.getD 3 0 : Nat) : Int), .bool x.own]
def ddk : Kd Dd where
  cf := dcell
  k := 13
  pos := by decide
  len x := rfl
  one x u hu := by
    simp only [dcell, List.mem_cons, List.not_mem_nil, or_false] at hu
    rcases hu with rfl | rfl | rfl | rfl | rfl | rfl | rfl | rfl | rfl | rfl | rfl | rfl | rfl <;> rfl
  none_ := ⟨0, ((V.zeros, 0), false), ⟨#[]⟩, V.zeros, false⟩
instance : Inhabited Dd := ⟨ddk.none_⟩
structure DOk (x : Dd) : Prop where
  k : x.kind < 256
  m : MOk x.m
  v : V.Ok x.l
theorem cells_dd13 : Try.prog.cellsOf 40 = 13 := by kernel_rfl
theorem cells_du8 : Try.prog.cellsOf 5 = 1 := by kernel_rfl
theorem cells_dst : Try.prog.cellsOf 9 = 1 := by kernel_rfl
theorem cells_dvv : Try.prog.cellsOf 38 = 5 := by kernel_rfl
section

variable {H : Type} {enc : TypeId × Value → H} {W : World} {m : Nat} {sp : Nat → Bool} {held : Bool} {y : DataW H × List MemPlace}

theorem deed_cells (c0 c1 c2 c3 c4 c5 c6 c7 c8 c9 c10 c11 c12 : Value) (h : DataW.trod enc Try.prog W 0 sp held m 40 [c0, c1, c2, c3, c4, c5, c6, c7, c8, c9, c10, c11, c12] = some y) : ∃ x : Dd, [c0, c1, c2, c3, c4, c5, c6, c7, c8, c9, c10, c11, c12] = dcell x ∧ DOk x := by
  obtain ⟨xs, n, _, rfl, hl, hlen, hf⟩ := DataW.trod_struct Try.underlying40 h
  match xs, hlen with
  | [x0, x1, x2, x3], _ =>
    have t0 : DataW.trod enc Try.prog W 0 sp held n 5 (([c0, c1, c2, c3, c4, c5, c6, c7, c8, c9, c10, c11, c12].drop 0).take (Try.prog.cellsOf 5)) = some x0 := by simpa using hf 0 _ rfl
    have t1 : DataW.trod enc Try.prog W 0 sp held n 36 (([c0, c1, c2, c3, c4, c5, c6, c7, c8, c9, c10, c11, c12].drop 1).take (Try.prog.cellsOf 36)) = some x1 := by simpa using hf 1 _ rfl
    have t2 : DataW.trod enc Try.prog W 0 sp held n 9 (([c0, c1, c2, c3, c4, c5, c6, c7, c8, c9, c10, c11, c12].drop 7).take (Try.prog.cellsOf 9)) = some x2 := by simpa using hf 2 _ rfl
    have t3 : DataW.trod enc Try.prog W 0 sp held n 38 (([c0, c1, c2, c3, c4, c5, c6, c7, c8, c9, c10, c11, c12].drop 8).take (Try.prog.cellsOf 38)) = some x3 := by simpa using hf 3 _ rfl
    rw [cells_du8] at t0
    rw [cells_mk6] at t1
    rw [cells_dst] at t2
    rw [cells_dvv] at t3
    simp only [List.drop, List.take] at t0 t1 t2 t3
    cases n with
    | zero => simp [DataW.trod] at t1
    | succ n =>
      obtain ⟨k, e0, _, wk⟩ := DataW.trod_int Try.underlying5 t0
      obtain ⟨l, d, own, e1, hok, hd⟩ := mark_cells c1 c2 c3 c4 c5 c6 t1
      obtain ⟨s, e2, _, _⟩ := DataW.trod_string Try.underlying9 t2
      obtain ⟨vl, vo, e3, hv⟩ := vec_cells c8 c9 c10 c11 c12 t3
      simp only [List.cons.injEq, and_true] at e0 e2
      have hk : 0 ≤ k ∧ k ≤ 255 := by simpa [Lit.wf, IntKind.min, IntKind.max, IntKind.signed, IntKind.bits] using wk
      obtain ⟨K, rfl⟩ : ∃ K : Nat, k = (K : Int) := ⟨k.toNat, by omega⟩
      subst e0 e2
      refine ⟨⟨K, ((l, d), own), s, vl, vo⟩, ?_, by show K < 256; omega, ⟨hok, hd⟩, hv⟩
      obtain ⟨a0, a1, a2, a3, rfl⟩ := V.four hok.len
      obtain ⟨v0, v1, v2, v3, rfl⟩ := V.four hv.len
      simp only [ks, List.map_cons, List.map_nil, List.cons_append, List.nil_append, List.cons.injEq, and_true] at e1 e3
      obtain ⟨rfl, rfl, rfl, rfl, rfl, rfl⟩ := e1
      obtain ⟨rfl, rfl, rfl, rfl, rfl⟩ := e3
      rfl
theorem deeds_cells {c : Value} (h : DataW.trod enc Try.prog W 0 (fun _ => true) held m 22 [c] = some y) : ∃ L, IsR ddk W c L ∧ ∀ x ∈ L, DOk x := by
  rcases open_slice Try.underlying22 h with ⟨hcs, _⟩ | ⟨x, len, cap, mm, n, D, Pl, hcs, hb, hl, hm, hmm, rfl, hall⟩
  · simp only [List.cons.injEq, and_true] at hcs
    subst hcs
    exact ⟨[], ⟨none, 0, rfl, Nat.le_refl _, by unfold maxLen; omega, fun h => absurd rfl h⟩, fun p hp => by cases hp⟩
  · simp only [List.cons.injEq, and_true] at hcs
    subst hcs
    simp only [if_true] at hmm
    subst hmm
    have each : ∀ i, i < len → ∃ p : Dd, DOk p ∧ ∀ j v, (dcell p)[j]? = some v → W.cell? (x.add (i * 13 + j)) = some v := by
      intro i hi
      obtain ⟨cs', h1, h2⟩ := hall i (by omega)
      rw [cells_dd13] at h1
      obtain ⟨_, hlen, hcell⟩ := World.cells?_some h1
      match cs', hlen with
      | [c0, c1, c2, c3, c4, c5, c6, c7, c8, c9, c10, c11, c12], _ =>
        obtain ⟨p, e, hp⟩ := deed_cells c0 c1 c2 c3 c4 c5 c6 c7 c8 c9 c10 c11 c12 h2
        refine ⟨p, hp, fun j v hv => ?_⟩
        rw [← e] at hv
        obtain ⟨hj, he⟩ := List.getElem?_eq_some_iff.1 hv
        have := hcell j hj
        rw [add_add] at this
        rw [this]
        exact hv
    obtain ⟨q, hq⟩ := choose_lt each
    obtain ⟨b, off, spot⟩ := x
    refine ⟨(List.range len).map q, ⟨some ⟨b, off, spot⟩, mm, by simp, by simpa using hl, hm, fun hn => ?_⟩, fun p hp => ?_⟩
    · have h0 : 0 < len := by
        rcases Nat.eq_zero_or_pos len with h | h
        · subst h; exact absurd rfl hn
        · exact h
      have h00 := (hq 0 h0).2 0 _ rfl
      have hspot : spot = none := by simpa [Addr.add] using World.cell?_spot h00
      subst hspot
      have hbl : b < W.heap.size := World.block_lt_of_cell? W _ h00
      refine ⟨b, off, rfl, hbl, fun i z hz j v hv => ?_⟩
      have hi : i < len := by have := (List.getElem?_eq_some_iff.1 hz).1; simpa using this
      have hz' : q i = z := by
        rw [List.getElem?_map, List.getElem?_range hi] at hz
        simpa using hz
      rw [← hz'] at hv
      have := (hq i hi).2 j v hv
      rw [addr_add] at this
      rw [← this]
      congr 2
      show off + 13 * i + j = _
      omega
    · obtain ⟨i, hi, rfl⟩ := List.mem_map.1 hp
      exact (hq i (List.mem_range.1 hi)).1
end

theorem open_deeds {H : Type} {enc : TypeId × Value → H} {W : World} {a : Option Addr} {len cap : Nat} {d : DataW H} {p : List MemPlace}
    (h : DataW.Trod enc Try.prog W 0 (fun _ => true) true 22 (.slice a len cap) d p) : ∃ L, IsR ddk W (.slice a len cap) L ∧ ∀ x ∈ L, DOk x := by
  obtain ⟨fuel, hf⟩ := h
  exact deeds_cells hf
end Go.Proofs.Ytmajkapapbhabaa
