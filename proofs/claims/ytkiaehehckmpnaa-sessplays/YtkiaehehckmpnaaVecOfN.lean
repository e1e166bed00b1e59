/- A vector by its parts: the law's own helper. -/
import Derived.Test.YtkiaehehckmpnaaFrameVecN

import Derived.Test.YtkiaehehckmpnaaVecAllF

namespace Go.Proofs.Ytkiaehehckmpnaa.Vc

open Go.RowKit

set_option linter.unusedVariables false

set_option linter.unusedSimpArgs false

set_option maxRecDepth 100000

/-- the first j numbers modulo four -/
def part (a : List Nat) (j : Nat) : List Nat := (a.take j).map (· % 4) ++ a.drop j
theorem part_len (a : List Nat) (j : Nat) (h : a.length = 4) : (part a j).length = 4 := by simp [part, h]; omega
theorem part_step (a : List Nat) (j : Nat) (h : a.length = 4) (hj : j < 4) : (part a j).set j ((part a j).getD j 0 % 4) = part a (j + 1) := by
  obtain ⟨x, y, z, t, rfl⟩ := V.four h
  match j, hj with
  | 0, _ => rfl
  | 1, _ => rfl
  | 2, _ => rfl
  | 3, _ => rfl
theorem part_zero (a : List Nat) : part a 0 = a := by simp [part]
theorem part_all (a : List Nat) (h : a.length = 4) : part a 4 = V.few a true := by
  obtain ⟨x, y, z, t, rfl⟩ := V.four h
  rfl
theorem pre_row {w : World} {b : Nat} {l : List Nat} {own : Bool} (h : Blk w b (ks .u64 l ++ [Value.bool own])) : w.rangeAt b 0 (ks .u64 l) := fun j v hv => h.1 j v (by
  rw [List.getElem?_append_left]
  · exact hv
  · exact (List.getElem?_eq_some_iff.1 hv).1)
theorem Blk.setw {w : World} {b : Nat} {l : List Nat} {own : Bool} (h : Blk w b (ks .u64 l ++ [Value.bool own])) (j x : Nat) (hj : j < l.length) :
    Blk (w.setCell ⟨b, j, none⟩ (.int .u64 (x : Int))) b (ks .u64 (l.set j x) ++ [Value.bool own]) := by
  have hlen : (ks .u64 l ++ [Value.bool own]).length = l.length + 1 := by simp [ks_length]
  have c : w.cell? ⟨b, j, none⟩ = some (.int .u64 ((l.getD j 0 : Nat) : Int)) := h.cell j _ (by
    rw [List.getElem?_append_left (by rw [ks_length]; exact hj)]; simp [ks, hj])
  have e : ks .u64 (l.set j x) ++ [Value.bool own] = (ks .u64 l ++ [Value.bool own]).set j (.int .u64 (x : Int)) := by
    rw [ks_set, List.set_append_left _ _ (by rw [ks_length]; exact hj)]
  rw [e]
  refine ⟨fun i v hv => ?_, fun i hi => ?_⟩
  · rw [Nat.zero_add]
    by_cases e : j = i
    · subst e
      rw [List.getElem?_set_self (by rw [hlen]; omega)] at hv
      rw [← Option.some.inj hv]
      exact World.cell?_setCell_same _ _ _ c
    · rw [List.getElem?_set_ne e] at hv
      rw [World.cell?_setCell_other _ _ _ _ (by simp [e])]
      simpa using h.1 i v hv
  · rw [List.length_set] at hi
    obtain ⟨h1, h2⟩ := h.2 i hi
    exact ⟨World.isSome_setCells b [.int .u64 (x : Int)] j w _ h1, by simpa using h2⟩
theorem own_cell {w : World} {b : Nat} {l : List Nat} {own : Bool} (hl : l.length = 4) (h : Blk w b (ks .u64 l ++ [Value.bool own])) : w.cell? ⟨b, 4, none⟩ = some (.bool own) :=
  h.cell 4 _ (by rw [List.getElem?_append_right (by rw [ks_length, hl]; exact Nat.le_refl _), ks_length, hl]; rfl)
theorem num_cell {w : World} {b : Nat} {l : List Nat} {own : Bool} (j : Nat) (hj : j < l.length) (h : Blk w b (ks .u64 l ++ [Value.bool own])) : w.cell? ⟨b, j, none⟩ = some (.int .u64 ((l.getD j 0 : Nat) : Int)) ∧ w.frozen? ⟨b, j, none⟩ = false :=
  ⟨h.cell j _ (by rw [List.getElem?_append_left (by rw [ks_length]; exact hj)]; simp [ks, hj]), h.free j (by simp [ks_length]; omega)⟩
set_option maxHeartbeats 2000000 in
theorem vector_any (a : List Nat) (own : Bool) (w : World) (ha : V.Ok a) :
    Calls Try.prog 11 #[VV a own] w fun e w' => e = .returned (AV .u64 (V.few a own)) ∧ Below w.heap.size w w' := by
  have HA : Hid _ := ha.len
  have HI : Hid _ := size_v ha.len
  clear ha
  cases own with
  | false =>
    show Calls _ _ _ _ fun e w' => e = .returned (AV .u64 a) ∧ _
    go_enter Try.func11, Try.ntmps11
    go_wp2_with (first | refine blk_box rfl 27 _ rfl (ks .u64 a ++ [Value.bool false]) rfl ?_)
    intro w1 A1 B1 Z1
    go_wp2_with (first | refine arr_alloc rfl .u64 25 4 rfl Try.info_v ?_)
    intro w2 A2 B2 Z2
    have A1' := Blk.below A1 B2 (by omega)
    have c := own_cell HA.out A1'
    have HR : Hid _ := pre_row A1'
    have HA2 : Hid (Arr .u64 w2 (w.heap.size + 1) (List.replicate 4 0)) := A2
    have HB2 : Hid (Below w.heap.size w w2) := B1.trans (B2.mono (by omega))
    clear A1 B1 A2 B2 Z1 Z2 A1'
    go_wp2_with (first | refine row_load rfl .u64 25 _ rfl w.heap.size 0 rfl a HR.out 4 23 Try.underlying25 HI.out ?_ | refine arr_store rfl .u64 25 _ _ rfl (w.heap.size + 1) rfl a rfl _ HA2.out (by rw [HA.out]; rfl) HI.out ?_)
    intro u A U
    have HA9 : Hid (Arr .u64 u (w.heap.size + 1) a) := A
    have HB9 : Hid (Below w.heap.size w u) := Below.trans HB2.out (U.below (by omega))
    clear A U
    go_wp2_with fail
    refine bodyPost_ret (v := AV .u64 a) ?_ rfl ⟨rfl, HB9.out⟩
    exact res_arr (t := 25) Try.results11 _ .u64 (w.heap.size + 1) rfl a HA9.out 4 23 Try.underlying25 HI.out
  | true =>
    obtain ⟨r, HR⟩ : ∃ r, Hid (V.few a true = r) := ⟨_, rfl⟩
    have HRP : Hid (part a 4 = r) := by rw [← HR.out]; exact part_all a HA.out
    rw [HR.out]
    go_enter Try.func11, Try.ntmps11
    go_wp2_with (first | refine blk_box rfl 27 _ rfl (ks .u64 a ++ [Value.bool true]) rfl ?_)
    intro w1 A1 B1 Z1
    go_wp2_with (first | refine arr_alloc rfl .u64 25 4 rfl Try.info_v ?_)
    intro w2 A2 B2 Z2
    have A1' := Blk.below A1 B2 (by omega)
    have c := own_cell HA.out A1'
    have HP2 : Hid (Blk w2 w.heap.size (ks .u64 (part a 0) ++ [Value.bool true])) := by rw [part_zero]; exact A1'
    have HA2 : Hid (Arr .u64 w2 (w.heap.size + 1) (List.replicate 4 0)) := A2
    have HB2 : Hid (Below w.heap.size w w2) := B1.trans (B2.mono (by omega))
    clear A1 B1 A2 B2 Z1 Z2 A1'
    go_wp2_with fail
    clear c
    go_loopw [3] (fun i wr => ∃ j : Nat, j ≤ 4 ∧ i = .int .i64 j ∧ Hid (Blk wr w.heap.size (ks .u64 (part a j) ++ [Value.bool true])) ∧ Hid (Arr .u64 wr (w.heap.size + 1) (List.replicate 4 0)) ∧ Hid (Below w.heap.size w wr)) (fun i _ => 4 - (intOf i).toNat)
    case atStart => exact ⟨0, by omega, rfl, HP2, HA2, HB2⟩
    case round =>
      obtain ⟨j, hj, rfl, HPr, HAr, HBr⟩ := hrel
      clear HP2 HA2 HB2
      have HL : Hid _ := part_len a j HA.out
      by_cases hlt : j < 4
      · have ilt : (j : Int) < 4 := by omega
        obtain ⟨c, f⟩ := num_cell j (by rw [HL.out]; exact hlt) HPr.out
        have hset := Blk.setw HPr.out j ((part a j).getD j 0 % 4) (by rw [HL.out]; exact hlt)
        rw [part_step a j HA.out hlt] at hset
        generalize (part a j).getD j 0 = x at *
        have ex : (x : Int).tmod 4 = ((x % 4 : Nat) : Int) := by rw [Int.tmod_eq_emod_of_nonneg (by omega)]; rfl
        have HS : Hid _ := hset
        have HU : Hid (Upd w.heap.size wr (wr.setCell ⟨w.heap.size, j, none⟩ (.int .u64 ((x % 4 : Nat) : Int)))) := Upd.setCell _ _ _ _
        clear hset
        go_wp2_with fail
        go_roundw
        case rel => exact ⟨j + 1, by omega, by go_num, HS, Arr.upd HAr.out HU.out (by omega), Below.trans HBr.out (Upd.below HU.out (Nat.le_refl _))⟩
        case measure => simp [intOf]; omega
      · obtain rfl : j = 4 := by omega
        rw [HRP.out] at HPr HL
        have HRR : Hid _ := pre_row HPr.out
        have HIr : Hid _ := size_v HL.out
        go_wp2_with (first | refine row_load rfl .u64 25 _ rfl w.heap.size 0 rfl r HRR.out 4 23 Try.underlying25 HIr.out ?_ | refine arr_store rfl .u64 25 _ _ rfl (w.heap.size + 1) rfl r rfl _ HAr.out (by rw [HL.out]; rfl) HIr.out ?_)
        intro u A U
        have HA9 : Hid (Arr .u64 u (w.heap.size + 1) r) := A
        have HB9 : Hid (Below w.heap.size w u) := Below.trans HBr.out (U.below (by omega))
        clear A U
        go_wp2_with fail
        refine bodyPost_ret (v := AV .u64 r) ?_ rfl ⟨rfl, HB9.out⟩
        exact res_arr (t := 25) Try.results11 _ .u64 (w.heap.size + 1) rfl r HA9.out 4 23 Try.underlying25 HIr.out
theorem Try.size_vv : (Try.prog.info? 27).map (·.size) = some 5 := by kernel_rfl
theorem size_vv {l : List Nat} {own : Bool} (h : l.length = 4) : (Try.prog.info? 27).map (·.size) = some (ks .u64 l ++ [Value.bool own]).length := by
  rw [List.length_append, ks_length, h]; exact Try.size_vv
theorem eql_true (a b : List Nat) (ha : a.length = 4) (hb : b.length = 4) (h : a = b) (w : World) : (binOp .eql 25 (AV .u64 a) (AV .u64 b)).run Try.prog w = .ok (.bool true) w := by
  rw [eql_v a b ha hb w, decide_eq_true h]
theorem eql_false (a b : List Nat) (ha : a.length = 4) (hb : b.length = 4) (h : a ≠ b) (w : World) : (binOp .eql 25 (AV .u64 a) (AV .u64 b)).run Try.prog w = .ok (.bool false) w := by
  rw [eql_v a b ha hb w, decide_eq_false h]
theorem eql_as (a b : List Nat) (ha : a.length = 4) (hb : b.length = 4) (r : Bool) (h : decide (a = b) = r) (w : World) : (binOp .eql 25 (AV .u64 a) (AV .u64 b)).run Try.prog w = .ok (.bool r) w := by
  rw [eql_v a b ha hb w, h]
end Go.Proofs.Ytkiaehehckmpnaa.Vc
