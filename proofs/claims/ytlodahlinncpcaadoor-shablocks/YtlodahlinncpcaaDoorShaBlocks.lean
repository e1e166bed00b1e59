/-
  From any state: of every text, cut or filled to a block or not, the program's Block answers what the document's own answer answers; so do Pad of every number and Start (the law ShaBlocks). No conditions.
-/
import Derived.Test.YtlodahlinncpcaaDoorFrameLaid
import Derived.Test.YtlodahlinncpcaaDoorShaEx
import Derived.Test.YtlodahlinncpcaaDoorShaRefBlk2
import Derived.Test.YtlodahlinncpcaaDoorShaRefPad
import Derived.Test.YtlodahlinncpcaaDoorShaEqArr
import Derived.Test.YtlodahlinncpcaaDoorShaRefBlock
import Derived.Test.YtlodahlinncpcaaDoorFrameArr
namespace Go.Proofs.YtlodahlinncpcaaDoor.shaBlocks
open Go.ChangeShapes Go.WideShapes Go.ChangeAt Go.RowKit
open Go.ChangeMaps (open_string shut_string)
set_option linter.unusedVariables false
set_option linter.unusedSimpArgs false

theorem refBlockHolds : RefBlock := fun l s w h hs => ref_block l s w h hs
theorem u64_of (a : Int) (h : (Lit.int .u64 a).wf = true) : ∃ x : Nat, a = (x : Int) ∧ x < 18446744073709551616 := by
  have hx : 0 ≤ a ∧ a ≤ 18446744073709551615 := by simpa [Lit.wf, IntKind.min, IntKind.max, IntKind.signed, IntKind.bits] using h
  exact ⟨a.toNat, by omega, by omega⟩
/-- what both answer of a text -/
theorem both (RB : RefBlock) (l : List Nat) (t : ByteArray) (h8 : Q.Ok8 l) : ∃ (r : List Nat) (ok : Bool), Q.Ok8 r ∧
    (∀ w, Tab w → Calls Tryd.prog 17 #[AV .u32 l, .string t] w fun e w' => e = .returned (.tuple #[AV .u32 r, .bool ok]) ∧ Below w.heap.size w w') ∧
    (∀ w, Calls Tryd.prog 18 #[AV .u32 l, .string t] w fun e w' => e = .returned (.tuple #[AV .u32 r, .bool ok]) ∧ Below w.heap.size w w') := by
  by_cases h : t.size = 64
  · exact ⟨Q.block l t.data.toList, true, Q.block_ok _ _ h8, fun w hT => block_ok l t w h8 h hT, fun w => refBlock_ok RB l t w h8 h⟩
  · exact ⟨List.replicate 8 0, false, ⟨rfl, fun x hx => by rw [List.eq_of_mem_replicate hx]; omega⟩, fun w _ => block_no l t w h8.1 h, fun w => refBlock_no l t w h8.1 h⟩
theorem start_out (w : World) : Calls Tryd.prog 21 #[] w fun e w' => e = .returned (.agg #[.int .u32 1779033703, .int .u32 3144134277, .int .u32 1013904242, .int .u32 2773480762, .int .u32 1359893119, .int .u32 2600822924, .int .u32 528734635, .int .u32 1541459225]) ∧ Below w.heap.size w w' := start_any w
theorem ref_start_out (w : World) : Calls Tryd.prog 22 #[] w fun e w' => e = .returned (.agg #[.int .u32 1779033703, .int .u32 3144134277, .int .u32 1013904242, .int .u32 2773480762, .int .u32 1359893119, .int .u32 2600822924, .int .u32 528734635, .int .u32 1541459225]) ∧ Below w.heap.size w w' := ref_start w
theorem eq_start (w : World) : (Op.equalIn 10000 26 (.agg #[.int .u32 1779033703, .int .u32 3144134277, .int .u32 1013904242, .int .u32 2773480762, .int .u32 1359893119, .int .u32 2600822924, .int .u32 528734635, .int .u32 1541459225]) (.agg #[.int .u32 1779033703, .int .u32 3144134277, .int .u32 1013904242, .int .u32 2773480762, .int .u32 1359893119, .int .u32 2600822924, .int .u32 528734635, .int .u32 1541459225])).run Tryd.prog w = .ok true w := eq_state 1779033703 3144134277 1013904242 2773480762 1359893119 2600822924 528734635 1541459225 w Q.start_ok.2
set_option maxHeartbeats 1000000 in
set_option maxRecDepth 100000 in
theorem walkF (RB : RefBlock) (l : List Nat) (t : ByteArray) (n : Nat) (w : World) (hT : Tab w) (h8 : Q.Ok8 l) (hn : n < 18446744073709551616) :
    Calls Tryd.prog 4 #[AV .u32 l, .string t, .bool false, .int .u64 n] w fun e w' => e = .returned (.bool true) ∧ Below w.heap.size w w' := by
  have CE : Hid _ := examples_any
  have HT : Hid _ := hT
  have hz := hT.pos
  obtain ⟨r, ok, hro, CA0, CB0⟩ := both RB l t h8
  have hr := hro.1
  obtain ⟨r0, r1, r2, r3, r4, r5, r6, r7, hrr⟩ := Q.eight r hr
  have HRR : Hid _ := hrr
  have HRO : Hid (Q.Ok [r0, r1, r2, r3, r4, r5, r6, r7]) := by rw [← hrr]; exact hro.2
  clear hrr hro
  have CA : Hid _ := CA0
  have CB : Hid _ := CB0
  have CP : Hid _ := fun w => pad_any n w (by omega)
  have CQ : Hid _ := fun w => ref_pad n w hn
  have HL8 : Hid _ := h8.1
  have HR8 : Hid _ := hr
  have HIL : Hid ((Tryd.prog.info? 26).map (·.size) = some l.length) := by show _ = _; rw [HL8.out]; exact Tryd.size_a8
  have HIR : Hid ((Tryd.prog.info? 26).map (·.size) = some r.length) := by show _ = _; rw [HR8.out]; exact Tryd.size_a8
  generalize S (Q.pad n) = pp at *
  clear hT CA0 CB0 hr h8
  go_enter Tryd.func4, Tryd.ntmps4
  go_wp2_with (first | refine arr_box rfl .u32 26 _ rfl l rfl ?_)
  intro w1 A1 B1 Z1
  have HT1 : Hid (Tab w1) := Tab.below HT.out B1 hz
  go_wp2_with fail
  refine (CE.out _ HT1.out).mono ?_; rintro e w2 ⟨rfl, hb2⟩
  have z2 := hb2.size
  have HA2 : Hid _ := A1.below hb2 (by omega)
  have HB2 : Hid (Below w.heap.size w w2) := B1.trans (hb2.mono (by omega))
  have HT2 : Hid (Tab w2) := Tab.below HT.out HB2.out hz
  clear A1 B1 hb2 HT1 CE
  go_wp2_with (first | refine arr_load rfl .u32 26 _ rfl w.heap.size rfl l HA2.out 8 25 Tryd.underlying26 HIL.out ?_)
  refine (CA.out _ HT2.out).mono ?_; rintro e w3 ⟨rfl, hb3⟩
  have z3 := hb3.size
  have HA3 : Hid _ := Arr.below HA2.out hb3 (by omega)
  have HB3 : Hid (Below w.heap.size w w3) := Below.trans HB2.out (hb3.mono (by omega))
  clear hb3 HA2 HB2 HT2 CA
  go_wp2_with (first | refine arr_alloc rfl .u32 26 8 rfl Tryd.info_a8 ?_)
  intro w4 A4 B4 Z4
  go_wp2_with (first | refine arr_store rfl .u32 26 _ _ rfl w3.heap.size rfl r rfl _ A4 (by rw [HR8.out]; rfl) HIR.out ?_)
  intro w5 A5 U5
  have HA5 : Hid (Arr .u32 w5 w.heap.size l) := Arr.upd (Arr.below HA3.out B4 (by omega)) U5 (by omega)
  have HR5 : Hid (Arr .u32 w5 w3.heap.size r) := A5
  have HB5 : Hid (Below w.heap.size w w5) := Below.trans HB3.out ((B4.mono (by omega)).trans (U5.below (by omega)))
  have z5 : w5.heap.size = w3.heap.size + 1 := by have := U5.size; omega
  clear A4 B4 Z4 A5 U5 HA3 HB3
  go_wp2_with (first | refine arr_load rfl .u32 26 _ rfl w.heap.size rfl l HA5.out 8 25 Tryd.underlying26 HIL.out ?_)
  refine (CB.out _).mono ?_; rintro e w6 ⟨rfl, hb6⟩
  have z6 := hb6.size
  have HR6 : Hid _ := Arr.below HR5.out hb6 (by omega)
  have HB6 : Hid (Below w.heap.size w w6) := Below.trans HB5.out (hb6.mono (by omega))
  clear hb6 HA5 HB5 HR5 CB
  go_wp2_with (first | refine arr_alloc rfl .u32 26 8 rfl Tryd.info_a8 ?_)
  intro w7 A7 B7 Z7
  go_wp2_with (first | refine arr_store rfl .u32 26 _ _ rfl w6.heap.size rfl r rfl _ A7 (by rw [HR8.out]; rfl) HIR.out ?_)
  intro w8 A8 U8
  have HR8a : Hid (Arr .u32 w8 w3.heap.size r) := Arr.upd (Arr.below HR6.out B7 (by omega)) U8 (by omega)
  have HR8b : Hid (Arr .u32 w8 w6.heap.size r) := A8
  have HB8 : Hid (Below w.heap.size w w8) := Below.trans HB6.out ((B7.mono (by omega)).trans (U8.below (by omega)))
  have z8 : w8.heap.size = w6.heap.size + 1 := by have := U8.size; omega
  clear A7 B7 Z7 A8 U8 HR6 HB6
  have HRa := HR8a.out
  have HRb := HR8b.out
  rw [HRR.out] at HRa HRb
  have c0 : w8.cell? ⟨w3.heap.size, 0, none⟩ = some (.int .u32 (r0 : Int)) := Arr.cell HRa 0 (by simp)
  have d0 : w8.cell? ⟨w6.heap.size, 0, none⟩ = some (.int .u32 (r0 : Int)) := Arr.cell HRb 0 (by simp)
  have c1 : w8.cell? ⟨w3.heap.size, 1, none⟩ = some (.int .u32 (r1 : Int)) := Arr.cell HRa 1 (by simp)
  have d1 : w8.cell? ⟨w6.heap.size, 1, none⟩ = some (.int .u32 (r1 : Int)) := Arr.cell HRb 1 (by simp)
  have c2 : w8.cell? ⟨w3.heap.size, 2, none⟩ = some (.int .u32 (r2 : Int)) := Arr.cell HRa 2 (by simp)
  have d2 : w8.cell? ⟨w6.heap.size, 2, none⟩ = some (.int .u32 (r2 : Int)) := Arr.cell HRb 2 (by simp)
  have c3 : w8.cell? ⟨w3.heap.size, 3, none⟩ = some (.int .u32 (r3 : Int)) := Arr.cell HRa 3 (by simp)
  have d3 : w8.cell? ⟨w6.heap.size, 3, none⟩ = some (.int .u32 (r3 : Int)) := Arr.cell HRb 3 (by simp)
  have c4 : w8.cell? ⟨w3.heap.size, 4, none⟩ = some (.int .u32 (r4 : Int)) := Arr.cell HRa 4 (by simp)
  have d4 : w8.cell? ⟨w6.heap.size, 4, none⟩ = some (.int .u32 (r4 : Int)) := Arr.cell HRb 4 (by simp)
  have c5 : w8.cell? ⟨w3.heap.size, 5, none⟩ = some (.int .u32 (r5 : Int)) := Arr.cell HRa 5 (by simp)
  have d5 : w8.cell? ⟨w6.heap.size, 5, none⟩ = some (.int .u32 (r5 : Int)) := Arr.cell HRb 5 (by simp)
  have c6 : w8.cell? ⟨w3.heap.size, 6, none⟩ = some (.int .u32 (r6 : Int)) := Arr.cell HRa 6 (by simp)
  have d6 : w8.cell? ⟨w6.heap.size, 6, none⟩ = some (.int .u32 (r6 : Int)) := Arr.cell HRb 6 (by simp)
  have c7 : w8.cell? ⟨w3.heap.size, 7, none⟩ = some (.int .u32 (r7 : Int)) := Arr.cell HRa 7 (by simp)
  have d7 : w8.cell? ⟨w6.heap.size, 7, none⟩ = some (.int .u32 (r7 : Int)) := Arr.cell HRb 7 (by simp)
  clear HRa HRb
  have hq := eq_state r0 r1 r2 r3 r4 r5 r6 r7 w8 HRO.out
  go_wp2_with fail
  refine (CP.out _).mono ?_; rintro e w9 ⟨rfl, hb9⟩
  have HB9 : Hid (Below w.heap.size w w9) := Below.trans HB8.out (hb9.mono HB8.out.size)
  clear hb9 hq c0 d0 c1 d1 c2 d2 c3 d3 c4 d4 c5 d5 c6 d6 c7 d7
  go_wp2_with fail
  refine (CQ.out _).mono ?_; rintro e w10 ⟨rfl, hb10⟩
  have HB10 : Hid (Below w.heap.size w w10) := Below.trans HB9.out (hb10.mono HB9.out.size)
  clear hb10
  go_wp2_with fail
  refine (start_out _).mono ?_; rintro e w11 ⟨rfl, hb11⟩
  have HB11 : Hid (Below w.heap.size w w11) := Below.trans HB10.out (hb11.mono HB10.out.size)
  clear hb11
  go_wp2_with fail
  refine (ref_start_out _).mono ?_; rintro e w12 ⟨rfl, hb12⟩
  have HB12 : Hid (Below w.heap.size w w12) := Below.trans HB11.out (hb12.mono HB11.out.size)
  clear hb12
  have hq := eq_start w12
  go_wp2_with fail
  go_ret
  exact ⟨by simp, HB12.out⟩
set_option maxHeartbeats 1000000 in
set_option maxRecDepth 100000 in
theorem walkT (RB : RefBlock) (l : List Nat) (s : ByteArray) (hs : s.size ≤ 140737488351232) (n : Nat) (w : World) (hT : Tab w) (h8 : Q.Ok8 l) (hn : n < 18446744073709551616) :
    Calls Tryd.prog 4 #[AV .u32 l, .string s, .bool true, .int .u64 n] w fun e w' => e = .returned (.bool true) ∧ Below w.heap.size w w' := by
  obtain ⟨t, HTT⟩ : ∃ t, Hid ((s ++ S (List.replicate 64 0)).extract 0 64 = t) := ⟨_, rfl⟩
  have hzs : (S (List.replicate 64 0)).size = 64 := by rw [S_size, List.length_replicate]
  have CE : Hid _ := examples_any
  have HT : Hid _ := hT
  have hz := hT.pos
  obtain ⟨r, ok, hro, CA0, CB0⟩ := both RB l t h8
  have hr := hro.1
  obtain ⟨r0, r1, r2, r3, r4, r5, r6, r7, hrr⟩ := Q.eight r hr
  have HRR : Hid _ := hrr
  have HRO : Hid (Q.Ok [r0, r1, r2, r3, r4, r5, r6, r7]) := by rw [← hrr]; exact hro.2
  clear hrr hro
  have CA : Hid _ := CA0
  have CB : Hid _ := CB0
  have CP : Hid _ := fun w => pad_any n w (by omega)
  have CQ : Hid _ := fun w => ref_pad n w hn
  have HL8 : Hid _ := h8.1
  have HR8 : Hid _ := hr
  have HIL : Hid ((Tryd.prog.info? 26).map (·.size) = some l.length) := by show _ = _; rw [HL8.out]; exact Tryd.size_a8
  have HIR : Hid ((Tryd.prog.info? 26).map (·.size) = some r.length) := by show _ = _; rw [HR8.out]; exact Tryd.size_a8
  generalize S (Q.pad n) = pp at *
  clear hT CA0 CB0 hr h8
  go_enter Tryd.func4, Tryd.ntmps4
  go_wp2_with (first | refine arr_box rfl .u32 26 _ rfl l rfl ?_)
  intro w1 A1 B1 Z1
  have HT1 : Hid (Tab w1) := Tab.below HT.out B1 hz
  go_wp2_with fail
  refine (CE.out _ HT1.out).mono ?_; rintro e w2 ⟨rfl, hb2⟩
  have z2 := hb2.size
  have HA2 : Hid _ := A1.below hb2 (by omega)
  have HB2 : Hid (Below w.heap.size w w2) := B1.trans (hb2.mono (by omega))
  have HT2 : Hid (Tab w2) := Tab.below HT.out HB2.out hz
  clear A1 B1 hb2 HT1 CE
  obtain ⟨wm, hmk, HOm, HBm, Zm⟩ := make_bytes w2 .i64 .i64 64 64 (by omega) (by omega)
  have hmk' : (Instr.makeSlice 28 (.int .i64 64) (.int .i64 64)).run Tryd.prog w2 = .ok (.slice (some ⟨w2.heap.size, 0, none⟩) 64 64) wm := hmk
  have hcv := HOm.strAt
  have HA2 : Hid _ := Arr.below HA2.out HBm (by omega)
  have HB2 : Hid (Below w.heap.size w wm) := Below.trans HB2.out (HBm.mono (by omega))
  have HT2 : Hid (Tab wm) := Tab.below HT.out HB2.out hz
  obtain ⟨zz, HZZ⟩ : ∃ z, Hid (S (List.replicate 64 0) = z) := ⟨_, rfl⟩
  rw [HZZ.out] at hcv hzs HTT
  have hzl : s.size + zz.size ≤ 281474976710656 := by omega
  have hb64 : (64 : Int) ≤ ((s ++ zz).size : Int) := by rw [ByteArray.size_append]; omega
  have hbn64 : 64 ≤ (s ++ zz).size := by rw [ByteArray.size_append]; omega
  have htt : (s ++ zz).extract 0 64 = t := HTT.out
  clear hmk HOm HBm
  go_wp2_with (first | refine arr_load rfl .u32 26 _ rfl w.heap.size rfl l HA2.out 8 25 Tryd.underlying26 HIL.out ?_)
  clear htt hmk' hcv
  refine (CA.out _ HT2.out).mono ?_; rintro e w3 ⟨rfl, hb3⟩
  have z3 := hb3.size
  have HA3 : Hid _ := Arr.below HA2.out hb3 (by omega)
  have HB3 : Hid (Below w.heap.size w w3) := Below.trans HB2.out (hb3.mono (by omega))
  clear hb3 HA2 HB2 HT2 CA
  go_wp2_with (first | refine arr_alloc rfl .u32 26 8 rfl Tryd.info_a8 ?_)
  intro w4 A4 B4 Z4
  go_wp2_with (first | refine arr_store rfl .u32 26 _ _ rfl w3.heap.size rfl r rfl _ A4 (by rw [HR8.out]; rfl) HIR.out ?_)
  intro w5 A5 U5
  have HA5 : Hid (Arr .u32 w5 w.heap.size l) := Arr.upd (Arr.below HA3.out B4 (by omega)) U5 (by omega)
  have HR5 : Hid (Arr .u32 w5 w3.heap.size r) := A5
  have HB5 : Hid (Below w.heap.size w w5) := Below.trans HB3.out ((B4.mono (by omega)).trans (U5.below (by omega)))
  have z5 : w5.heap.size = w3.heap.size + 1 := by have := U5.size; omega
  clear A4 B4 Z4 A5 U5 HA3 HB3
  go_wp2_with (first | refine arr_load rfl .u32 26 _ rfl w.heap.size rfl l HA5.out 8 25 Tryd.underlying26 HIL.out ?_)
  refine (CB.out _).mono ?_; rintro e w6 ⟨rfl, hb6⟩
  have z6 := hb6.size
  have HR6 : Hid _ := Arr.below HR5.out hb6 (by omega)
  have HB6 : Hid (Below w.heap.size w w6) := Below.trans HB5.out (hb6.mono (by omega))
  clear hb6 HA5 HB5 HR5 CB
  go_wp2_with (first | refine arr_alloc rfl .u32 26 8 rfl Tryd.info_a8 ?_)
  intro w7 A7 B7 Z7
  go_wp2_with (first | refine arr_store rfl .u32 26 _ _ rfl w6.heap.size rfl r rfl _ A7 (by rw [HR8.out]; rfl) HIR.out ?_)
  intro w8 A8 U8
  have HR8a : Hid (Arr .u32 w8 w3.heap.size r) := Arr.upd (Arr.below HR6.out B7 (by omega)) U8 (by omega)
  have HR8b : Hid (Arr .u32 w8 w6.heap.size r) := A8
  have HB8 : Hid (Below w.heap.size w w8) := Below.trans HB6.out ((B7.mono (by omega)).trans (U8.below (by omega)))
  have z8 : w8.heap.size = w6.heap.size + 1 := by have := U8.size; omega
  clear A7 B7 Z7 A8 U8 HR6 HB6
  have HRa := HR8a.out
  have HRb := HR8b.out
  rw [HRR.out] at HRa HRb
  have c0 : w8.cell? ⟨w3.heap.size, 0, none⟩ = some (.int .u32 (r0 : Int)) := Arr.cell HRa 0 (by simp)
  have d0 : w8.cell? ⟨w6.heap.size, 0, none⟩ = some (.int .u32 (r0 : Int)) := Arr.cell HRb 0 (by simp)
  have c1 : w8.cell? ⟨w3.heap.size, 1, none⟩ = some (.int .u32 (r1 : Int)) := Arr.cell HRa 1 (by simp)
  have d1 : w8.cell? ⟨w6.heap.size, 1, none⟩ = some (.int .u32 (r1 : Int)) := Arr.cell HRb 1 (by simp)
  have c2 : w8.cell? ⟨w3.heap.size, 2, none⟩ = some (.int .u32 (r2 : Int)) := Arr.cell HRa 2 (by simp)
  have d2 : w8.cell? ⟨w6.heap.size, 2, none⟩ = some (.int .u32 (r2 : Int)) := Arr.cell HRb 2 (by simp)
  have c3 : w8.cell? ⟨w3.heap.size, 3, none⟩ = some (.int .u32 (r3 : Int)) := Arr.cell HRa 3 (by simp)
  have d3 : w8.cell? ⟨w6.heap.size, 3, none⟩ = some (.int .u32 (r3 : Int)) := Arr.cell HRb 3 (by simp)
  have c4 : w8.cell? ⟨w3.heap.size, 4, none⟩ = some (.int .u32 (r4 : Int)) := Arr.cell HRa 4 (by simp)
  have d4 : w8.cell? ⟨w6.heap.size, 4, none⟩ = some (.int .u32 (r4 : Int)) := Arr.cell HRb 4 (by simp)
  have c5 : w8.cell? ⟨w3.heap.size, 5, none⟩ = some (.int .u32 (r5 : Int)) := Arr.cell HRa 5 (by simp)
  have d5 : w8.cell? ⟨w6.heap.size, 5, none⟩ = some (.int .u32 (r5 : Int)) := Arr.cell HRb 5 (by simp)
  have c6 : w8.cell? ⟨w3.heap.size, 6, none⟩ = some (.int .u32 (r6 : Int)) := Arr.cell HRa 6 (by simp)
  have d6 : w8.cell? ⟨w6.heap.size, 6, none⟩ = some (.int .u32 (r6 : Int)) := Arr.cell HRb 6 (by simp)
  have c7 : w8.cell? ⟨w3.heap.size, 7, none⟩ = some (.int .u32 (r7 : Int)) := Arr.cell HRa 7 (by simp)
  have d7 : w8.cell? ⟨w6.heap.size, 7, none⟩ = some (.int .u32 (r7 : Int)) := Arr.cell HRb 7 (by simp)
  clear HRa HRb
  have hq := eq_state r0 r1 r2 r3 r4 r5 r6 r7 w8 HRO.out
  go_wp2_with fail
  refine (CP.out _).mono ?_; rintro e w9 ⟨rfl, hb9⟩
  have HB9 : Hid (Below w.heap.size w w9) := Below.trans HB8.out (hb9.mono HB8.out.size)
  clear hb9 hq c0 d0 c1 d1 c2 d2 c3 d3 c4 d4 c5 d5 c6 d6 c7 d7
  go_wp2_with fail
  refine (CQ.out _).mono ?_; rintro e w10 ⟨rfl, hb10⟩
  have HB10 : Hid (Below w.heap.size w w10) := Below.trans HB9.out (hb10.mono HB9.out.size)
  clear hb10
  go_wp2_with fail
  refine (start_out _).mono ?_; rintro e w11 ⟨rfl, hb11⟩
  have HB11 : Hid (Below w.heap.size w w11) := Below.trans HB10.out (hb11.mono HB10.out.size)
  clear hb11
  go_wp2_with fail
  refine (ref_start_out _).mono ?_; rintro e w12 ⟨rfl, hb12⟩
  have HB12 : Hid (Below w.heap.size w w12) := Below.trans HB11.out (hb12.mono HB11.out.size)
  clear hb12
  have hq := eq_start w12
  go_wp2_with fail
  go_ret
  exact ⟨by simp, HB12.out⟩
theorem walk (a0 : List Nat) (a1 : ByteArray) (a2 : Bool) (a3 : Int) (w0 : Q.Ok8 a0) (z1 : a1.size ≤ 140737488351232) (w3 : (Lit.int .u64 a3).wf = true) (w : World) (hT : Tab w) :
    Calls Tryd.prog 4 #[AV .u32 a0, .string a1, .bool a2, .int .u64 a3] w fun e w' => e = .returned (.bool true) ∧ Below w.heap.size w w' := by
  obtain ⟨n, rfl, hn⟩ := u64_of a3 w3
  cases a2
  · exact walkF refBlockHolds a0 a1 n w hT w0 hn
  · exact walkT refBlockHolds a0 a1 z1 n w hT w0 hn

set_option maxRecDepth 100000 in
theorem lifted (os : Os) (started : os.Started) (H : Type) (enc : TypeId × Value → H) (F : Stop.Interp) :
    ReturnsInHanded {} Tryd.checked os 4 .any ((OpenSpec.ofChange Rows.shaBlocksSpec).preRow enc Tryd.prog Tryd.f4 Rows.shaBlocksRow.domain false Rows.shaBlocksRow.laid) (((OpenSpec.ofChange Rows.shaBlocksSpec).at F).post enc Tryd.prog Tryd.f4 false true false false) := by
  have hx : ∃ places, DataW.whole enc Tryd.prog ((laidWorld os).forCall (fun _ _ => 0) ⟨#[], #[.agg #[.int .u32 0, .int .u32 0, .int .u32 0, .int .u32 0, .int .u32 0, .int .u32 0, .int .u32 0, .int .u32 0], .string ByteArray.empty, .bool false, .int .u64 0], []⟩).memory Tryd.f4.params.toList Rows.shaBlocksSpec.vars false #[Value.agg #[.int .u32 0, .int .u32 0, .int .u32 0, .int .u32 0, .int .u32 0, .int .u32 0, .int .u32 0, .int .u32 0], Value.string ByteArray.empty, Value.bool false, Value.int .u64 0].toList 8 = some ([.agg [.lit (.int .u32 0), .lit (.int .u32 0), .lit (.int .u32 0), .lit (.int .u32 0), .lit (.int .u32 0), .lit (.int .u32 0), .lit (.int .u32 0), .lit (.int .u32 0)], .lit (.string []), .lit (.bool false), .lit (.int .u64 0)], [], places) := ⟨[], by kernel_rfl⟩
  obtain ⟨places, hx⟩ := hx
  refine returnsInHanded_of_row (C := Tryd.checked) (s := OpenSpec.ofChange Rows.shaBlocksSpec) own started (by kernel_rfl) Tryd.func4
    (witness_row_at (enc := enc) (C := Tryd.checked) false (laidWorld os) #[.agg #[.int .u32 0, .int .u32 0, .int .u32 0, .int .u32 0, .int .u32 0, .int .u32 0, .int .u32 0, .int .u32 0], .string ByteArray.empty, .bool false, .int .u64 0] rfl (by kernel_rfl) (by kernel_rfl) (by kernel_rfl)
      (OpenSpec.preRow_of_cond 8 hx (by kernel_rfl) (fun k hk => by cases hk) (by kernel_rfl) (laidMet_of_run' 8 (by kernel_rfl) (by kernel_rfl)))) ?_
  intro W base args ds gs before hval0 hW hcnd hcond hsz0 hL _ _
  have hT : Tab W := tab_of hL
  have hval : ∀ (j : Nat) t v, Tryd.f4.params[j]? = some t → args[j]? = some v → Value.okWide Tryd.prog W .any base t v := hval0
  have hW' := hW
  obtain ⟨p, q, hA0, hV, rfl, hfz, hnd⟩ := hW
  have hA : DataW.TrodAll enc Tryd.prog W 0 (fun _ => true) true Tryd.f4.params.toList args.toList ds p := hA0
  have hsz : (DataW.weightsEach Tryd.prog (Tryd.f4.params.toList ++ Rows.shaBlocksSpec.plain.varTypes Tryd.prog) (ds ++ gs)).all (· ≤ reachBytes) = true := hsz0
  rw [Tryd.params4] at hA hval hsz
  obtain ⟨rfl, rfl⟩ := trodVars_none hV
  have hAk := hA
  have hlt : ∀ x ∈ p, x.block < W.heap.size := fun x hx => by simpa using hW'.lt x (List.mem_append.2 (.inl hx))
  obtain ⟨v0, vs0, d0, ds0, p0, q0, hargs, rfl, rfl, h0, r0⟩ := trodAll_cons hA
  obtain ⟨v1, vs1, d1, ds1, p1, q1, rfl, rfl, rfl, h1, r1⟩ := trodAll_cons r0
  obtain ⟨v2, vs2, d2, ds2, p2, q2, rfl, rfl, rfl, h2, r2⟩ := trodAll_cons r1
  obtain ⟨v3, vs3, d3, ds3, p3, q3, rfl, rfl, rfl, h3, r3⟩ := trodAll_cons r2
  obtain ⟨rfl, rfl, rfl⟩ := trodAll_nil r3
  obtain rfl : args = #[v0, v1, v2, v3] := by cases args; simp_all
  obtain ⟨a0, rfl, w0⟩ := open_state (hval 0 26 v0 rfl rfl) h0
  obtain ⟨a1, rfl, rfl, rfl, w1⟩ := open_string Tryd.underlying9 (hval 1 9 v1 rfl rfl) h1
  have z1 := sized_string hsz (j := 1) (t := 9) rfl rfl
  obtain ⟨a2, rfl, rfl, rfl⟩ := open_bool Tryd.underlying4 (hval 2 4 v2 rfl rfl) h2
  obtain ⟨a3, rfl, rfl, rfl, w3⟩ := open_int Tryd.underlying27 (hval 3 27 v3 rfl rfl) h3
  clear hA0 hval0 hsz0
  refine (walk a0 a1 a2 a3 w0 (by rw [Array.length_toList] at z1; exact z1) w3 W hT).mono fun e W' ⟨he, hg⟩ => ?_
  subst he
  exact ⟨_, rfl, _, _, _, [], _, [], hW', (trodAll_cons_mk (shut_bool Tryd.underlying4 _) trodAll_mk0), trodAll_below laidOut hg _ _ _ _ (by kernel_rfl) hAk hlt, rfl, hg.frame _, fun h => by cases h⟩

theorem over : Rows.shaBlocksRow.holds Tryd.pinned (OpenSpec.ofChange Rows.shaBlocksSpec) :=
  OpenClaim.holds_of_cond 4 Tryd.f4 rfl rfl rfl rfl rfl rfl rfl ⟨rfl, rfl, rfl, rfl, rfl⟩ rfl rfl rfl rfl rfl (by kernel_rfl) Tryd.func4 (by kernel_rfl)
    (of_decide_eq_true (by kernel_rfl)) (by unfold Func.isWrapper; first | (rw [if_pos (by decide +kernel)]; kernel_rfl) | (rw [if_neg (by decide +kernel)]; exact ⟨rfl, rfl⟩))
    (fun os started H enc _ F => by rw [OpenClaim.pre_eq_preRow]; exact lifted os started H enc F)

set_option maxRecDepth 100000 in
theorem plain (f : FuncId) (fn : Func) (hf : Tryd.pinned.checked.prog.funcNamed "tenement/tenementlaw03.ShaBlocks" = some f) (hfn : Tryd.pinned.checked.prog.funcs[f]? = some fn) :
    false = Tryd.pinned.checked.prog.looks [] ∧ ∀ (j : Nat) t, fn.params[j]? = some t → Tryd.pinned.checked.prog.wantsStandIn t = false := by
  obtain rfl : f = 4 := Option.some.inj ((show Tryd.prog.funcNamed "tenement/tenementlaw03.ShaBlocks" = some 4 by kernel_rfl).symm.trans hf) |>.symm
  obtain rfl : fn = Tryd.f4 := (Option.some.inj (Tryd.func4.symm.trans hfn)).symm
  refine ⟨by kernel_rfl, fun j t ht => ?_⟩
  rw [Tryd.params4] at ht
  have hm := Array.mem_of_getElem? ht
  simp only [List.mem_toArray, List.mem_cons, List.not_mem_nil, or_false] at hm
  rcases hm with rfl | rfl | rfl | rfl
  all_goals first | exact (show Tryd.prog.wantsStandIn 26 = false by kernel_rfl) | exact (show Tryd.prog.wantsStandIn 9 = false by kernel_rfl) | exact (show Tryd.prog.wantsStandIn 4 = false by kernel_rfl) | exact (show Tryd.prog.wantsStandIn 27 = false by kernel_rfl)

/-- the statement -/
theorem proved : Rows.ShaBlocksCardSaid :=
  Claim7.holds_tied_plain_at .later [] _ _ _ _ over (fun _ h => by cases h) (by kernel_rfl) (fun _ h => by cases h) shaBlocks_row_tie rfl ⟨rfl, rfl⟩ (by kernel_rfl) rfl plain (by kernel_rfl)
#print axioms proved
end Go.Proofs.YtlodahlinncpcaaDoor.shaBlocks
