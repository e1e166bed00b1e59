/-
  For every text: its digest is what the blocks of the text and its padding come to, one by one, from Start; it has 32 bytes, 64 digits; padding comes to whole blocks (the law ShaWhole). No conditions.
-/
import Derived.Test.YtkdcmobhaaihhaaDoorFrameLaid
import Derived.Test.YtkdcmobhaaihhaaDoorShaEx
namespace Go.Proofs.YtkdcmobhaaihhaaDoor.shaWhole
open Go.ChangeShapes Go.WideShapes Go.ChangeAt Go.RowKit
open Go.ChangeMaps (open_string shut_string)
set_option linter.unusedVariables false
set_option linter.unusedSimpArgs false

theorem Tab.alloc {w : World} (h : Tab w) (o : Obj) : Tab (w.alloc o) := h.own ((Below.refl _ _).alloc (Nat.le_refl _) o)
theorem spell_at (st : List Nat) (t i : Nat) (ht : t < st.length) (hi : i < 4) : (Q.spell st)[4 * t + i]? = (Q.four (st.getD t 0))[i]? := by
  induction st generalizing t with
  | nil => simp at ht
  | cons a s ih =>
    rw [Q.spell, List.flatMap_cons]
    cases t with
    | zero => rw [List.getElem?_append_left (by simp [Q.four]; omega)]; simp
    | succ t =>
      rw [List.getElem?_append_right (by simp [Q.four]; omega), show (Q.four a).length = 4 from rfl, show 4 * (t + 1) + i - 4 = 4 * t + i by omega]
      exact ih t (by simpa using ht)
theorem spellS_at (st : List Nat) (t i : Nat) (ht : t < st.length) (hi : i < 4) (h : 4 * t + i < (S (Q.spell st)).size) (b : UInt8) (hb : (Q.four (st.getD t 0))[i]? = some b) : (S (Q.spell st))[4 * t + i] = b := by
  show (S (Q.spell st)).data[4 * t + i] = b
  have : (Q.spell st).toArray[4 * t + i]? = some b := by
    have := spell_at st t i ht hi
    rw [hb] at this
    simpa using this
  exact Option.some.inj ((Array.getElem?_eq_getElem (xs := (Q.spell st).toArray) (by simpa [S, ByteArray.size] using h)).symm.trans this)
theorem word_back (x : Nat) (h : x < 4294967296) : (UInt8.ofNat (x / 16777216)).toNat * 16777216 + (UInt8.ofNat (x / 65536)).toNat * 65536 + (UInt8.ofNat (x / 256)).toNat * 256 + (UInt8.ofNat x).toNat = x := by
  simp only [UInt8.toNat_ofNat']; omega
theorem all_size (s : ByteArray) : (s ++ S (Q.pad s.size)).size = s.size + (Q.pad s.size).length := by rw [ByteArray.size_append, S_size]
theorem all_list (s : ByteArray) : (s ++ S (Q.pad s.size)).data.toList = s.data.toList ++ Q.pad s.data.toList.length := by
  rw [ByteArray.data_append, Array.toList_append, S_list, len_list]
theorem slice_list (s : ByteArray) (a : Nat) : (s.extract a (a + 64)).data.toList = (s.data.toList.drop a).take 64 := by
  rw [extract_list, List.drop_take, Nat.add_sub_cancel_left]
set_option maxHeartbeats 1000000 in
set_option maxRecDepth 100000 in
theorem walk (a0 : ByteArray) (z0 : a0.size ≤ 140737488351232) (w : World) (hT : Tab w) :
    Calls Tryd.prog 5 #[.string a0] w fun e w' => e = .returned (.bool true) ∧ Below w.heap.size w w' := by
  have CE : Hid _ := examples_any
  have HT : Hid _ := hT
  have hz := hT.pos
  have CP : Hid _ := fun w => pad_any a0.size w (by omega)
  have CSum : Hid _ := fun w => sum_any a0 w (by omega)
  have hp := Q.pad_length a0.size
  have hpw := Q.pad_whole a0.size
  have hpz : Q.zeros a0.size < 64 := Nat.mod_lt _ (by omega)
  have hal := all_size a0
  obtain ⟨N, hN⟩ : ∃ N, N = (a0 ++ S (Q.pad a0.size)).size / 64 := ⟨_, rfl⟩
  have hNs : (a0 ++ S (Q.pad a0.size)).size = 64 * N := by omega
  have HSUM : Hid (Q.sum a0.data.toList = Q.spell (Q.blocks N Q.start (a0 ++ S (Q.pad a0.size)).data.toList)) := by
    show _ = _
    rw [all_list, Q.sum, hN, hal, len_list]
  have hpp : (S (Q.pad a0.size)).size ≤ 72 := by rw [S_size]; omega
  have d1 : ((a0 ++ S (Q.pad a0.size)).size : Int) % 64 = 0 := by omega
  have d2 : decide (((a0 ++ S (Q.pad a0.size)).size : Int) < (a0.size : Int) + 9) = false := by rw [decide_eq_false_iff_not]; omega
  have d3 : decide ((a0.size : Int) + 72 < ((a0 ++ S (Q.pad a0.size)).size : Int)) = false := by rw [decide_eq_false_iff_not]; omega
  have hms : (a0 ++ S (Q.pad a0.size)).size ≤ 140737488355328 := by omega
  have hsw : IntKind.u64.wrap (a0.size : Int) = (a0.size : Int) := by rw [IntKind.wrap_u64]; omega
  have hsl := sum_length a0.data.toList
  clear hT hal hN hp hpw hpz
  generalize S (Q.pad a0.size) = pp at *
  obtain ⟨al, HAL⟩ : ∃ al, Hid (a0 ++ pp = al) := ⟨_, rfl⟩
  rw [HAL.out] at HSUM d1 d2 d3 hms hNs
  have hal : a0 ++ pp = al := HAL.out
  go_enter Tryd.func5, Tryd.ntmps5
  go_wp2_with fail
  refine (CE.out _ HT.out).mono ?_; rintro e w1 ⟨rfl, hb1⟩
  go_wp2_with fail
  refine (CP.out _).mono ?_; rintro e w2 ⟨rfl, hb2⟩
  have HB2 : Hid (Below w.heap.size w w2) := hb1.trans (hb2.mono hb1.size)
  have hz2 := HB2.out.size
  have HNS : Hid _ := hNs
  clear hb1 hb2 CE CP hNs
  go_wp2_with fail
  refine (start_any _).mono ?_; rintro e w3 ⟨rfl, hb3⟩
  have HB3 : Hid (Below w.heap.size w w3) := Below.trans HB2.out (hb3.mono HB2.out.size)
  have hz3 := HB3.out.size
  clear hb3 HB2 d1 d2 d3 hz2 hal hsw
  go_wp2_with (first | refine arr_alloc rfl .u32 26 8 rfl Tryd.info_a8 ?_)
  intro w4 A4 B4 Z4
  go_wp2_with (first | (refine arr_store rfl .u32 26 _ _ rfl w3.heap.size rfl Q.start rfl _ A4 rfl Tryd.size_a8 ?_))
  intro w5 A5 U5
  have HA5 : Hid _ := A5
  have HB5 : Hid (Below w.heap.size w w5) := Below.trans HB3.out ((B4.mono (by omega)).trans (U5.below (by omega)))
  have HT5 : Hid (Tab w5) := Tab.below HT.out HB5.out (by omega)
  have hz5 : w3.heap.size + 1 ≤ w5.heap.size := by have := U5.size; omega
  clear A4 B4 A5 U5 Z4 HB3
  go_wp2_with fail
  go_loopw [6] (fun i wr => ∃ (j : Nat) (st : List Nat), j ≤ N ∧ i = .int .i64 (64 * j : Nat) ∧ Hid (Q.Ok8 st) ∧ Hid (Q.blocks (N - j) st (al.data.toList.drop (64 * j)) = Q.blocks N Q.start al.data.toList) ∧ Hid (Tab wr) ∧ Hid (Arr .u32 wr w3.heap.size st) ∧ Hid (Below w.heap.size w wr) ∧ w3.heap.size + 1 ≤ wr.heap.size) (fun i _ => 64 * N - (intOf i).toNat)
  case atStart => exact ⟨0, Q.start, by omega, by go_num, Q.start_ok, rfl, HT5, HA5, HB5, hz5⟩
  case round =>
    have HTB : Hid _ := HT.out
    clear HT HB5 HA5 HT5 hz5
    obtain ⟨j, st, hj, rfl, HO, HE, HT, HA1, HB, hzr⟩ := hrel
    by_cases hlt : j < N
    · have hle : ((64 * j : Nat) : Int) + 64 ≤ (al.size : Int) := by have := HNS.out; omega
      have e64 : (al.extract (64 * j) (64 * j + 64)).size = 64 := by have := HNS.out; rw [ByteArray.size_extract]; omega
      have eh := slice_list al (64 * j)
      obtain ⟨x0, x1, x2, x3, x4, x5, x6, x7, rfl⟩ := Q.eight st HO.out.1
      obtain ⟨y0, y1, y2, y3, y4, y5, y6, y7, HY⟩ := Q.eight (Q.block [x0, x1, x2, x3, x4, x5, x6, x7] (al.extract (64 * j) (64 * j + 64)).data.toList) (Q.block_ok _ _ HO.out).1
      have HOY : Hid (Q.Ok8 [y0, y1, y2, y3, y4, y5, y6, y7]) := by rw [← HY]; exact Q.block_ok _ _ HO.out
      have C : Hid _ := block_out x0 x1 x2 x3 x4 x5 x6 x7 y0 y1 y2 y3 y4 y5 y6 y7 (al.extract (64 * j) (64 * j + 64)) HO.out e64 HY
      have HE' : Hid (Q.blocks (N - (j + 1)) [y0, y1, y2, y3, y4, y5, y6, y7] (al.data.toList.drop (64 * (j + 1))) = Q.blocks N Q.start al.data.toList) := by
        show _ = _
        rw [← HE.out, show N - j = (N - (j + 1)) + 1 by omega, Q.blocks, ← eh, HY, List.drop_drop, show 64 * j + 64 = 64 * (j + 1) by omega]
      have HA : Arr .u32 wr w3.heap.size [x0, x1, x2, x3, x4, x5, x6, x7] := HA1.out
      have c0 : wr.cell? ⟨w3.heap.size, 0, none⟩ = some (.int .u32 (x0 : Int)) := Arr.cell HA 0 (by simp)
      have c1 : wr.cell? ⟨w3.heap.size, 1, none⟩ = some (.int .u32 (x1 : Int)) := Arr.cell HA 1 (by simp)
      have c2 : wr.cell? ⟨w3.heap.size, 2, none⟩ = some (.int .u32 (x2 : Int)) := Arr.cell HA 2 (by simp)
      have c3 : wr.cell? ⟨w3.heap.size, 3, none⟩ = some (.int .u32 (x3 : Int)) := Arr.cell HA 3 (by simp)
      have c4 : wr.cell? ⟨w3.heap.size, 4, none⟩ = some (.int .u32 (x4 : Int)) := Arr.cell HA 4 (by simp)
      have c5 : wr.cell? ⟨w3.heap.size, 5, none⟩ = some (.int .u32 (x5 : Int)) := Arr.cell HA 5 (by simp)
      have c6 : wr.cell? ⟨w3.heap.size, 6, none⟩ = some (.int .u32 (x6 : Int)) := Arr.cell HA 6 (by simp)
      have c7 : wr.cell? ⟨w3.heap.size, 7, none⟩ = some (.int .u32 (x7 : Int)) := Arr.cell HA 7 (by simp)
      have HAH : Hid _ := HA
      have HLT : Hid (j < N) := hlt
      clear HY HA eh e64 HE hlt
      obtain ⟨q, hq⟩ : ∃ q, q = 64 * j := ⟨_, rfl⟩
      rw [← hq] at hle C
      rw [show (64 * j : Nat) = q from hq.symm]
      obtain ⟨r, hr⟩ : ∃ r, r = q + 64 := ⟨_, rfl⟩
      rw [← hr] at C
      have er : (q : Int) + 64 = (r : Int) := by omega
      have hr1 : (r : Int) ≤ (al.size : Int) := by omega
      have hr2 : (q : Int) ≤ (r : Int) := by omega
      have hr3 : r ≤ al.size := by omega
      have hr4 : q ≤ r := by omega
      have hqi : (q : Int) ≤ (al.size : Int) := by omega
      have hq0 : q ≤ al.size := by omega
      have vr : IntKind.i64.wrap (r : Int) = r := IntWalk.i64_in _ ⟨by omega, by omega⟩
      have vq : IntKind.i64.wrap (q : Int) = q := IntWalk.i64_in _ ⟨by omega, by omega⟩
      have hne1 : w3.heap.size ≠ wr.heap.size := by omega
      have hne2 : w3.heap.size < wr.heap.size := by omega
      have hne3 : ¬ wr.heap.size = w3.heap.size := by omega
      have HRR : Hid _ := hr
      clear hle hr
      have hms' : (al.size : Int) ≤ 140737488355328 := by omega
      have HQ : Hid _ := hq
      clear hq
      go_wp2_with fail
      go_region_with (first | (go_at_call 14; refine (C.out _ (Tab.drew HT.out)).mono ?_; rintro e u ⟨rfl, hbu⟩; have HBU : Hid (Below wr.heap.size wr u) := Below.trans (Below.drew (Below.refl _ _)) hbu; have hzu : wr.heap.size ≤ u.heap.size := hbu.size; clear hbu) | (go_at_call 14; refine (C.out _ (Tab.drew (Tab.alloc HT.out _))).mono ?_; rintro e u ⟨rfl, hbu⟩; have AZ : Arr .u32 u wr.heap.size (List.replicate 8 0) := Arr.below (Arr.drew (Arr.new .u32 wr (List.replicate 8 0) _)) hbu (by simp); have g0 : u.cell? ⟨wr.heap.size, 0, none⟩ = some (.int .u32 0) := Arr.cell AZ 0 (by simp); have h0 : u.frozen? ⟨wr.heap.size, 0, none⟩ = false := Arr.free AZ 0 (by simp); have g1 : u.cell? ⟨wr.heap.size, 1, none⟩ = some (.int .u32 0) := Arr.cell AZ 1 (by simp); have h1 : u.frozen? ⟨wr.heap.size, 1, none⟩ = false := Arr.free AZ 1 (by simp); have g2 : u.cell? ⟨wr.heap.size, 2, none⟩ = some (.int .u32 0) := Arr.cell AZ 2 (by simp); have h2 : u.frozen? ⟨wr.heap.size, 2, none⟩ = false := Arr.free AZ 2 (by simp); have g3 : u.cell? ⟨wr.heap.size, 3, none⟩ = some (.int .u32 0) := Arr.cell AZ 3 (by simp); have h3 : u.frozen? ⟨wr.heap.size, 3, none⟩ = false := Arr.free AZ 3 (by simp); have g4 : u.cell? ⟨wr.heap.size, 4, none⟩ = some (.int .u32 0) := Arr.cell AZ 4 (by simp); have h4 : u.frozen? ⟨wr.heap.size, 4, none⟩ = false := Arr.free AZ 4 (by simp); have g5 : u.cell? ⟨wr.heap.size, 5, none⟩ = some (.int .u32 0) := Arr.cell AZ 5 (by simp); have h5 : u.frozen? ⟨wr.heap.size, 5, none⟩ = false := Arr.free AZ 5 (by simp); have g6 : u.cell? ⟨wr.heap.size, 6, none⟩ = some (.int .u32 0) := Arr.cell AZ 6 (by simp); have h6 : u.frozen? ⟨wr.heap.size, 6, none⟩ = false := Arr.free AZ 6 (by simp); have g7 : u.cell? ⟨wr.heap.size, 7, none⟩ = some (.int .u32 0) := Arr.cell AZ 7 (by simp); have h7 : u.frozen? ⟨wr.heap.size, 7, none⟩ = false := Arr.free AZ 7 (by simp); have HAZ : Hid _ := AZ; have HBU : Hid (Below wr.heap.size wr u) := Below.trans (Below.drew (Below.alloc (Below.refl _ _) (Nat.le_refl _) _)) (hbu.mono (by simp)); have hzu : wr.heap.size + 1 ≤ u.heap.size := (by have := hbu.size; simpa using this); clear hbu AZ))
      all_goals
        clear c0 c1 c2 c3 c4 c5 c6 c7
        first
        | (obtain ⟨v, hv⟩ : ∃ v, v = u.alloc (.cells (ks .u32 [y0, y1, y2, y3, y4, y5, y6, y7]).toArray 26) := ⟨_, rfl⟩
           have HV : Hid (Arr .u32 v u.heap.size [y0, y1, y2, y3, y4, y5, y6, y7]) := (by rw [hv]; exact Arr.new .u32 u [y0, y1, y2, y3, y4, y5, y6, y7] _)
           have HVA : Hid (Arr .u32 v w3.heap.size [x0, x1, x2, x3, x4, x5, x6, x7]) := (by rw [hv]; exact Arr.alloc (Arr.below HAH.out HBU.out hne2) _)
           have HVB : Hid (Below w.heap.size w v) := (by rw [hv]; exact Below.alloc (Below.trans HB.out (Below.mono HBU.out (by omega))) (by omega) _)
           have hzv : w3.heap.size + 1 ≤ v.heap.size := (by rw [hv]; simp; omega)
           have hv' : u.alloc (Obj.cells #[.int .u32 (y0 : Int), .int .u32 (y1 : Int), .int .u32 (y2 : Int), .int .u32 (y3 : Int), .int .u32 (y4 : Int), .int .u32 (y5 : Int), .int .u32 (y6 : Int), .int .u32 (y7 : Int)] 26) = v := hv.symm
           rw [hv']
           clear hv hv'
           go_wp2_with (first | refine arr_load rfl .u32 26 _ rfl u.heap.size rfl [y0, y1, y2, y3, y4, y5, y6, y7] HV.out 8 25 Tryd.underlying26 Tryd.size_a8 ?_ | (refine arr_store rfl .u32 26 _ _ rfl w3.heap.size rfl [y0, y1, y2, y3, y4, y5, y6, y7] rfl [x0, x1, x2, x3, x4, x5, x6, x7] HVA.out rfl Tryd.size_a8 ?_))
           intro w7 A7 U7
           have HA7 : Hid _ := A7
           have HB7 : Hid (Below w.heap.size w w7) := Below.trans HVB.out (U7.below (by omega))
           have hz7 : w3.heap.size + 1 ≤ w7.heap.size := (by have := U7.size; omega)
           have HT7 : Hid (Tab w7) := Tab.below HTB.out HB7.out hz
           clear A7 U7 HV HVA HVB hzv
           go_wp2_with fail
           go_roundw
           case rel => exact ⟨j + 1, [y0, y1, y2, y3, y4, y5, y6, y7], (by have := HLT.out; omega), (by have := HQ.out; have := HRR.out; go_num), HOY, HE', HT7, HA7, HB7, hz7⟩
           case measure => (have h1 := HQ.out; have h2 := HRR.out; have h3 := HNS.out; have h4 := HLT.out; simp [intOf]; omega))
        | (obtain ⟨v, hv⟩ : ∃ v, v = u.setCells wr.heap.size 0 (ks .u32 [y0, y1, y2, y3, y4, y5, y6, y7]) := ⟨_, rfl⟩
           have HV : Hid (Arr .u32 v wr.heap.size [y0, y1, y2, y3, y4, y5, y6, y7]) := (by rw [hv]; exact Arr.store HAZ.out [y0, y1, y2, y3, y4, y5, y6, y7] rfl)
           have HU : Upd wr.heap.size u v := (by rw [hv]; exact Upd.setCells _ _ 0 u)
           have HVA : Hid (Arr .u32 v w3.heap.size [x0, x1, x2, x3, x4, x5, x6, x7]) := Arr.upd (Arr.below HAH.out HBU.out hne2) HU hne1
           have HVB : Hid (Below w.heap.size w v) := Below.trans HB.out (Below.trans (Below.mono HBU.out (by omega)) (Upd.below HU (by omega)))
           have hzv : w3.heap.size + 1 ≤ v.heap.size := (by have := HU.size; omega)
           have hv' : ((((((((u.setCell ⟨wr.heap.size, 0, none⟩ (.int .u32 (y0 : Int))).setCell ⟨wr.heap.size, 1, none⟩ (.int .u32 (y1 : Int))).setCell ⟨wr.heap.size, 2, none⟩ (.int .u32 (y2 : Int))).setCell ⟨wr.heap.size, 3, none⟩ (.int .u32 (y3 : Int))).setCell ⟨wr.heap.size, 4, none⟩ (.int .u32 (y4 : Int))).setCell ⟨wr.heap.size, 5, none⟩ (.int .u32 (y5 : Int))).setCell ⟨wr.heap.size, 6, none⟩ (.int .u32 (y6 : Int))).setCell ⟨wr.heap.size, 7, none⟩ (.int .u32 (y7 : Int))) = v := hv.symm
           rw [hv']
           clear g0 g1 g2 g3 g4 g5 g6 g7 h0 h1 h2 h3 h4 h5 h6 h7 HU HAZ hv hv'
           go_wp2_with (first | refine arr_load rfl .u32 26 _ rfl wr.heap.size rfl [y0, y1, y2, y3, y4, y5, y6, y7] HV.out 8 25 Tryd.underlying26 Tryd.size_a8 ?_ | (refine arr_store rfl .u32 26 _ _ rfl w3.heap.size rfl [y0, y1, y2, y3, y4, y5, y6, y7] rfl [x0, x1, x2, x3, x4, x5, x6, x7] HVA.out rfl Tryd.size_a8 ?_))
           intro w7 A7 U7
           have HA7 : Hid _ := A7
           have HB7 : Hid (Below w.heap.size w w7) := Below.trans HVB.out (U7.below (by omega))
           have hz7 : w3.heap.size + 1 ≤ w7.heap.size := (by have := U7.size; omega)
           have HT7 : Hid (Tab w7) := Tab.below HTB.out HB7.out hz
           clear A7 U7 HV HVA HVB hzv
           go_wp2_with fail
           go_roundw
           case rel => exact ⟨j + 1, [y0, y1, y2, y3, y4, y5, y6, y7], (by have := HLT.out; omega), (by have := HQ.out; have := HRR.out; go_num), HOY, HE', HT7, HA7, HB7, hz7⟩
           case measure => (have h1 := HQ.out; have h2 := HRR.out; have h3 := HNS.out; have h4 := HLT.out; simp [intOf]; omega))
    · obtain rfl : j = N := by omega
      have hle : ¬ (((64 * j : Nat) : Int) + 64 ≤ (al.size : Int)) := by have := HNS.out; omega
      have HST : Hid (st = Q.blocks j Q.start al.data.toList) := by
        have h := HE.out
        rw [Nat.sub_self, Q.blocks] at h
        exact h
      rw [← HST.out] at HSUM
      obtain ⟨q, hq⟩ : ∃ q, q = 64 * j := ⟨_, rfl⟩
      rw [show (64 * j : Nat) = q from hq.symm] at hle ⊢
      have HQ : Hid _ := hq
      have hqm : q ≤ 140737488355328 := by have := HNS.out; omega
      clear hlt hj HE hq
      have HO8 : Hid (st.length = 8) := HO.out.1
      rw [HSUM.out] at hsl
      have CSum' := CSum.out
      rw [HSUM.out] at CSum'
      have hss : (S (Q.spell st)).size = 32 := by rw [S_size]; exact hsl
      have HAT : Hid (∀ t i (ht : t < 8) (hi : i < 4) (h : 4 * t + i < (S (Q.spell st)).size) (b : UInt8) (hb : (Q.four (st.getD t 0))[i]? = some b), (S (Q.spell st))[4 * t + i] = b) := fun t i ht hi h b hb => spellS_at st t i (by rw [HO8.out]; exact ht) hi h b hb
      generalize S (Q.spell st) = sm at *
      have CSH : Hid _ := CSum'
      have CH : Hid _ := fun w => hex_any sm w (by omega)
      have hhs : (S (Q.hex sm.data.toList)).size = 64 := by rw [S_size, Q.hex_length, len_list, hss]
      generalize S (Q.hex sm.data.toList) = hx at *
      clear CSum' CSum hsl HSUM
      go_wp2_with fail
      refine (CSH.out _ HT.out).mono ?_; rintro e w7 ⟨rfl, hb7⟩
      have HA7 : Hid _ := Arr.below HA1.out hb7 (by omega)
      have HB7 : Hid (Below w.heap.size w w7) := Below.trans HB.out (hb7.mono HB.out.size)
      have hz7 := hb7.size
      clear hb7 HA1 HB
      go_wp2_with fail
      refine (CH.out _).mono ?_; rintro e w8 ⟨rfl, hb8⟩
      have HA8 : Hid _ := Arr.below HA7.out hb8 (by omega)
      have HB8 : Hid (Below w.heap.size w w8) := Below.trans HB7.out (hb8.mono HB7.out.size)
      clear hb8 HA7 HB7
      go_wp2_with fail
      go_loopw [10] (fun i wr => ∃ t : Nat, t ≤ 8 ∧ i = .int .i64 t ∧ Hid (Arr .u32 wr w3.heap.size st) ∧ Hid (Below w.heap.size w wr)) (fun i _ => 8 - (intOf i).toNat)
      case atStart => exact ⟨0, by omega, rfl, HA8, HB8⟩
      case round =>
        clear HA8 HB8
        obtain ⟨t, ht, rfl, HA, HB⟩ := hrel
        by_cases hlt : t < 8
        · have b0 : sm[4 * t]'(by omega) = UInt8.ofNat (st.getD t 0 / 16777216) := HAT.out t 0 hlt (by omega) (by omega) _ rfl
          have b1 : sm[4 * t + 1]'(by omega) = UInt8.ofNat (st.getD t 0 / 65536) := HAT.out t 1 hlt (by omega) (by omega) _ rfl
          have b2 : sm[4 * t + 2]'(by omega) = UInt8.ofNat (st.getD t 0 / 256) := HAT.out t 2 hlt (by omega) (by omega) _ rfl
          have b3 : sm[4 * t + 3]'(by omega) = UInt8.ofNat (st.getD t 0) := HAT.out t 3 hlt (by omega) (by omega) _ rfl
          have HWB : Hid _ := word_back (st.getD t 0) (Q.Ok.getD HO.out.2 t)
          have hc := Arr.cell HA.out t (by rw [HO8.out]; exact hlt)
          generalize UInt8.ofNat (st.getD t 0 / 16777216) = e0 at *
          generalize UInt8.ofNat (st.getD t 0 / 65536) = e1 at *
          generalize UInt8.ofNat (st.getD t 0 / 256) = e2 at *
          generalize UInt8.ofNat (st.getD t 0) = e3 at *
          generalize st.getD t 0 = x at *
          obtain ⟨k0, hk0⟩ : ∃ k, 4 * t = k := ⟨_, rfl⟩
          obtain ⟨k1, hk1⟩ : ∃ k, k0 + 1 = k := ⟨_, rfl⟩
          obtain ⟨k2, hk2⟩ : ∃ k, k0 + 2 = k := ⟨_, rfl⟩
          obtain ⟨k3, hk3⟩ : ∃ k, k0 + 3 = k := ⟨_, rfl⟩
          simp only [hk0, hk1, hk2, hk3] at b0 b1 b2 b3
          have j0 : 4 * (t : Int) = (k0 : Int) := by omega
          have j1 : (k0 : Int) + 1 = (k1 : Int) := by omega
          have j2 : (k0 : Int) + 2 = (k2 : Int) := by omega
          have j3 : (k0 : Int) + 3 = (k3 : Int) := by omega
          have i0 : (k0 : Int) < 32 := by omega
          have i1 : (k1 : Int) < 32 := by omega
          have i2 : (k2 : Int) < 32 := by omega
          have i3 : (k3 : Int) < 32 := by omega
          have v0 : IntKind.i64.wrap (k0 : Int) = k0 := IntWalk.i64_in _ ⟨by omega, by omega⟩
          have v1 : IntKind.i64.wrap (k1 : Int) = k1 := IntWalk.i64_in _ ⟨by omega, by omega⟩
          have v2 : IntKind.i64.wrap (k2 : Int) = k2 := IntWalk.i64_in _ ⟨by omega, by omega⟩
          have v3 : IntKind.i64.wrap (k3 : Int) = k3 := IntWalk.i64_in _ ⟨by omega, by omega⟩
          have n0 : k0 < 32 := by omega
          have n1 : k1 < 32 := by omega
          have n2 : k2 < 32 := by omega
          have n3 : k3 < 32 := by omega
          have i8 : (t : Int) < 8 := by omega
          have HWI : Hid _ := word_int e0 e1 e2 e3
          go_wp2_with fail
          go_region
          rw [HWI.out, HWB.out]
          have hxx : ((x : Int) != (x : Int)) = false := by simp
          clear b0 b1 b2 b3 HWI HWB i0 i1 i2 i3 j0 j1 j2 j3 v0 v1 v2 v3
          go_wp2_with fail
          go_roundw
          case rel => exact ⟨t + 1, by omega, by go_num, Arr.drew HA.out, Below.drew HB.out⟩
          case measure => simp [intOf]; omega
        · obtain rfl : t = 8 := by omega
          have hlt' : ¬ (((8 : Nat) : Int) < 8) := by omega
          go_wp2_with fail
          go_ret
          exact ⟨rfl, HB.out⟩

set_option maxRecDepth 100000 in
theorem lifted (os : Os) (started : os.Started) (H : Type) (enc : TypeId × Value → H) (F : Stop.Interp) :
    ReturnsInHanded {} Tryd.checked os 5 .any ((OpenSpec.ofChange Rows.shaWholeSpec).preRow enc Tryd.prog Tryd.f5 Rows.shaWholeRow.domain false Rows.shaWholeRow.laid) (((OpenSpec.ofChange Rows.shaWholeSpec).at F).post enc Tryd.prog Tryd.f5 false true false false) := by
  have hx : ∃ places, DataW.whole enc Tryd.prog ((laidWorld os).forCall (fun _ _ => 0) ⟨#[], #[.string ByteArray.empty], []⟩).memory Tryd.f5.params.toList Rows.shaWholeSpec.vars false #[Value.string ByteArray.empty].toList 8 = some ([.lit (.string [])], [], places) := ⟨[], by kernel_rfl⟩
  obtain ⟨places, hx⟩ := hx
  refine returnsInHanded_of_row (C := Tryd.checked) (s := OpenSpec.ofChange Rows.shaWholeSpec) own started (by kernel_rfl) Tryd.func5
    (witness_row_at (enc := enc) (C := Tryd.checked) false (laidWorld os) #[.string ByteArray.empty] rfl (by kernel_rfl) (by kernel_rfl) (by kernel_rfl)
      (OpenSpec.preRow_of_cond 8 hx (by kernel_rfl) (fun k hk => by cases hk) (by kernel_rfl) (laidMet_of_run' 8 (by kernel_rfl) (by kernel_rfl)))) ?_
  intro W base args ds gs before hval0 hW hcnd hcond hsz0 hL _ _
  have hT : Tab W := tab_of hL
  have hval : ∀ (j : Nat) t v, Tryd.f5.params[j]? = some t → args[j]? = some v → Value.okWide Tryd.prog W .any base t v := hval0
  have hW' := hW
  obtain ⟨p, q, hA0, hV, rfl, hfz, hnd⟩ := hW
  have hA : DataW.TrodAll enc Tryd.prog W 0 (fun _ => true) true Tryd.f5.params.toList args.toList ds p := hA0
  have hsz : (DataW.weightsEach Tryd.prog (Tryd.f5.params.toList ++ Rows.shaWholeSpec.plain.varTypes Tryd.prog) (ds ++ gs)).all (· ≤ reachBytes) = true := hsz0
  rw [Tryd.params5] at hA hval hsz
  obtain ⟨rfl, rfl⟩ := trodVars_none hV
  have hAk := hA
  have hlt : ∀ x ∈ p, x.block < W.heap.size := fun x hx => by simpa using hW'.lt x (List.mem_append.2 (.inl hx))
  obtain ⟨v0, vs0, d0, ds0, p0, q0, hargs, rfl, rfl, h0, r0⟩ := trodAll_cons hA
  obtain ⟨rfl, rfl, rfl⟩ := trodAll_nil r0
  obtain rfl : args = #[v0] := by cases args; simp_all
  obtain ⟨a0, rfl, rfl, rfl, w0⟩ := open_string Tryd.underlying9 (hval 0 9 v0 rfl rfl) h0
  have z0 := sized_string hsz (j := 0) (t := 9) rfl rfl
  clear hA0 hval0 hsz0
  refine (walk a0 (by rw [Array.length_toList] at z0; exact z0) W hT).mono fun e W' ⟨he, hg⟩ => ?_
  subst he
  exact ⟨_, rfl, _, _, _, [], _, [], hW', (trodAll_cons_mk (shut_bool Tryd.underlying4 _) trodAll_mk0), trodAll_below laidOut hg _ _ _ _ (by kernel_rfl) hAk hlt, rfl, hg.frame _, fun h => by cases h⟩

theorem over : Rows.shaWholeRow.holds Tryd.pinned (OpenSpec.ofChange Rows.shaWholeSpec) :=
  OpenClaim.holds_of_cond 5 Tryd.f5 rfl rfl rfl rfl rfl rfl rfl ⟨rfl, rfl, rfl, rfl, rfl⟩ rfl rfl rfl rfl rfl (by kernel_rfl) Tryd.func5 (by kernel_rfl)
    (of_decide_eq_true (by kernel_rfl)) (by unfold Func.isWrapper; first | (rw [if_pos (by decide +kernel)]; kernel_rfl) | (rw [if_neg (by decide +kernel)]; exact ⟨rfl, rfl⟩))
    (fun os started H enc _ F => by rw [OpenClaim.pre_eq_preRow]; exact lifted os started H enc F)

theorem plain (f : FuncId) (fn : Func) (hf : Tryd.pinned.checked.prog.funcNamed "tenement/tenementlaw03.ShaWhole" = some f) (hfn : Tryd.pinned.checked.prog.funcs[f]? = some fn) :
    false = Tryd.pinned.checked.prog.looks [] ∧ ∀ (j : Nat) t, fn.params[j]? = some t → Tryd.pinned.checked.prog.wantsStandIn t = false := by
  obtain rfl : f = 5 := Option.some.inj ((show Tryd.prog.funcNamed "tenement/tenementlaw03.ShaWhole" = some 5 by kernel_rfl).symm.trans hf) |>.symm
  obtain rfl : fn = Tryd.f5 := (Option.some.inj (Tryd.func5.symm.trans hfn)).symm
  refine ⟨by kernel_rfl, fun j t ht => ?_⟩
  rw [Tryd.params5] at ht
  have hm := Array.mem_of_getElem? ht
  simp only [List.mem_toArray, List.mem_cons, List.not_mem_nil, or_false] at hm
  subst hm
  all_goals first | exact (show Tryd.prog.wantsStandIn 9 = false by kernel_rfl)

/-- the statement -/
theorem proved : Rows.ShaWholeCardSaid :=
  Claim7.holds_tied_plain_at .later [] _ _ _ _ over (fun _ h => by cases h) (by kernel_rfl) (fun _ h => by cases h) shaWhole_row_tie rfl ⟨rfl, rfl⟩ (by kernel_rfl) rfl plain (by kernel_rfl)
#print axioms proved
end Go.Proofs.YtkdcmobhaaihhaaDoor.shaWhole
