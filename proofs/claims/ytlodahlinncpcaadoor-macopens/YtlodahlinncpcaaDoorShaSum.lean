/- Sum. -/
import Derived.Test.YtlodahlinncpcaaDoorShaBlocks0
namespace Go.Proofs.YtlodahlinncpcaaDoor
open Go.RowKit
set_option linter.unusedVariables false
set_option linter.unusedSimpArgs false
theorem blocks_out (n : Nat) (x0 x1 x2 x3 x4 x5 x6 x7 : Nat) (y0 y1 y2 y3 y4 y5 y6 y7 : Nat) (s : ByteArray) (h : Q.Ok8 [x0, x1, x2, x3, x4, x5, x6, x7]) (hs : s.size = 64 * n) (hm : s.size ≤ 281474976710656) (hy : Q.blocks n [x0, x1, x2, x3, x4, x5, x6, x7] s.data.toList = [y0, y1, y2, y3, y4, y5, y6, y7]) (w : World) (hT : Tab w) :
    Calls Tryd.prog 37 #[.agg #[.int .u32 (x0 : Int), .int .u32 (x1 : Int), .int .u32 (x2 : Int), .int .u32 (x3 : Int), .int .u32 (x4 : Int), .int .u32 (x5 : Int), .int .u32 (x6 : Int), .int .u32 (x7 : Int)], .string s] w fun e w' => e = .returned (.agg #[.int .u32 (y0 : Int), .int .u32 (y1 : Int), .int .u32 (y2 : Int), .int .u32 (y3 : Int), .int .u32 (y4 : Int), .int .u32 (y5 : Int), .int .u32 (y6 : Int), .int .u32 (y7 : Int)]) ∧ Below w.heap.size w w' := by
  have := blocks_any n [x0, x1, x2, x3, x4, x5, x6, x7] s w h hs hm hT
  rw [hy] at this
  exact this
theorem sum_split (s : List UInt8) : Q.sum s = Q.spell (Q.blocks ((s.length % 64 + (Q.pad s.length).length) / 64) (Q.blocks (s.length / 64) Q.start (s.take (s.length - s.length % 64))) (s.drop (s.length - s.length % 64) ++ Q.pad s.length)) := by
  have h := Q.pad_whole s.length
  rw [← Q.blocks_append (s.length / 64) _ Q.start _ _ (by rw [List.length_take]; omega), ← List.append_assoc, List.take_append_drop, Q.sum]
  congr 2
  omega

set_option maxHeartbeats 1000000 in
set_option maxRecDepth 100000 in
theorem sum_any (s : ByteArray) (w : World) (hs : s.size ≤ 140737488355328) (hT : Tab w) :
    Calls Tryd.prog 13 #[.string s] w fun e w' => e = .returned (.string (S (Q.sum s.data.toList))) ∧ Below w.heap.size w w' := by
  have hz := hT.pos
  have HT : Hid _ := hT
  clear hT
  obtain ⟨q, hq⟩ : ∃ q, q = s.size - s.size % 64 := ⟨_, rfl⟩
  have hqs : q ≤ s.size := by omega
  have eq1 : (s.size : Int) - (s.size : Int) % 64 = (q : Int) := by omega
  have hp := Q.pad_length s.size
  have hpw := Q.pad_whole s.size
  have hpz : Q.zeros s.size < 64 := Nat.mod_lt _ (by omega)
  have HS1 : (s.extract 0 q).size = 64 * (s.size / 64) := by rw [ByteArray.size_extract]; omega
  have HS2 : (s.extract q s.size ++ S (Q.pad s.size)).size = 64 * ((s.size % 64 + (Q.pad s.size).length) / 64) := by rw [ByteArray.size_append, ByteArray.size_extract, S_size]; omega
  have HS2' : (s.extract q s.size ++ S (Q.pad s.size)).size ≤ 281474976710656 := by rw [HS2]; omega
  have ES1 : (s.extract 0 q).data.toList = s.data.toList.take q := by rw [extract_list]; simp
  have ES2 : (s.extract q s.size ++ S (Q.pad s.size)).data.toList = s.data.toList.drop q ++ Q.pad s.size := by
    rw [ByteArray.data_append, Array.toList_append, extract_drop s q _ rfl, S_list]
  have E := sum_split s.data.toList
  rw [len_list, ← hq, ← ES1, ← ES2] at E
  have O0 := Q.start_ok
  obtain ⟨z0, z1, z2, z3, z4, z5, z6, z7, HZ⟩ := Q.eight Q.start O0.1
  rw [HZ] at E O0
  have O1 := Q.blocks_ok (s.size / 64) [z0, z1, z2, z3, z4, z5, z6, z7] (s.extract 0 q).data.toList O0
  obtain ⟨x0, x1, x2, x3, x4, x5, x6, x7, HX⟩ := Q.eight _ O1.1
  rw [HX] at E O1
  have O2 := Q.blocks_ok ((s.size % 64 + (Q.pad s.size).length) / 64) [x0, x1, x2, x3, x4, x5, x6, x7] (s.extract q s.size ++ S (Q.pad s.size)).data.toList O1
  obtain ⟨y0, y1, y2, y3, y4, y5, y6, y7, HY⟩ := Q.eight _ O2.1
  rw [HY] at E O2
  have HE : Hid _ := E
  have C1 : Hid _ := blocks_out (s.size / 64) z0 z1 z2 z3 z4 z5 z6 z7 x0 x1 x2 x3 x4 x5 x6 x7 (s.extract 0 q) O0 HS1 (by rw [ByteArray.size_extract]; omega) HX
  have C2 : Hid _ := blocks_out _ x0 x1 x2 x3 x4 x5 x6 x7 y0 y1 y2 y3 y4 y5 y6 y7 _ O1 HS2 HS2' HY
  have CP : Hid _ := fun w => pad_any s.size w (by omega)
  have C3 : Hid _ := fun w => spell_any [y0, y1, y2, y3, y4, y5, y6, y7] w O2
  have hps : (S (Q.pad s.size)).size ≤ 80 := by rw [S_size]; omega
  generalize S (Q.pad s.size) = pp at *
  have HZH : Hid _ := HZ
  clear E HX HY HZ O0 O1 O2 HS1 HS2 HS2' ES1 ES2 hp hpw hpz
  have HQ : Hid _ := hq
  clear hq
  go_enter Tryd.func13, Tryd.ntmps13
  go_wp2_with fail
  refine (start_any _).mono ?_; rintro e w1 ⟨rfl, hb1⟩
  have HB1 : Hid _ := hb1
  have hz1 := hb1.size
  clear hb1
  go_wp2_with (first | refine arr_alloc rfl .u32 26 8 rfl Tryd.info_a8 ?_)
  intro w2 A2 B2 Z2
  go_wp2_with (first | (refine arr_store rfl .u32 26 _ _ rfl w1.heap.size rfl Q.start rfl _ A2 rfl Tryd.size_a8 ?_))
  intro w3 A3 U3
  have HA3 : Hid _ := A3
  have HB3 : Hid (Below w.heap.size w w3) := Below.trans HB1.out ((B2.mono (by omega)).trans (U3.below (by omega)))
  have HT3 : Hid (Tab w3) := Tab.below HT.out HB3.out (by omega)
  have hz3 : w1.heap.size + 1 ≤ w3.heap.size := by have := U3.size; omega
  have HA3' : Arr .u32 w3 w1.heap.size [z0, z1, z2, z3, z4, z5, z6, z7] := by rw [← HZH.out]; exact A3
  have HA4 : Hid _ := HA3'
  have c0 : w3.cell? ⟨w1.heap.size, 0, none⟩ = some (.int .u32 (z0 : Int)) := HA3'.cell 0 (by simp)
  have c1 : w3.cell? ⟨w1.heap.size, 1, none⟩ = some (.int .u32 (z1 : Int)) := HA3'.cell 1 (by simp)
  have c2 : w3.cell? ⟨w1.heap.size, 2, none⟩ = some (.int .u32 (z2 : Int)) := HA3'.cell 2 (by simp)
  have c3 : w3.cell? ⟨w1.heap.size, 3, none⟩ = some (.int .u32 (z3 : Int)) := HA3'.cell 3 (by simp)
  have c4 : w3.cell? ⟨w1.heap.size, 4, none⟩ = some (.int .u32 (z4 : Int)) := HA3'.cell 4 (by simp)
  have c5 : w3.cell? ⟨w1.heap.size, 5, none⟩ = some (.int .u32 (z5 : Int)) := HA3'.cell 5 (by simp)
  have c6 : w3.cell? ⟨w1.heap.size, 6, none⟩ = some (.int .u32 (z6 : Int)) := HA3'.cell 6 (by simp)
  have c7 : w3.cell? ⟨w1.heap.size, 7, none⟩ = some (.int .u32 (z7 : Int)) := HA3'.cell 7 (by simp)
  clear A2 B2 A3 U3 Z2 HB1 HA3' HA3
  go_wp2_with fail
  go_region_with (first | (go_at_call 37; refine (C1.out _ (Tab.drew HT3.out)).mono ?_; rintro e u ⟨rfl, hbu⟩; have AU := Arr.below (Arr.drew HA4.out) hbu (by simp; omega); have d0 : u.cell? ⟨w1.heap.size, 0, none⟩ = some (.int .u32 (z0 : Int)) := Arr.cell AU 0 (by simp); have f0 : u.frozen? ⟨w1.heap.size, 0, none⟩ = false := Arr.free AU 0 (by simp); have d1 : u.cell? ⟨w1.heap.size, 1, none⟩ = some (.int .u32 (z1 : Int)) := Arr.cell AU 1 (by simp); have f1 : u.frozen? ⟨w1.heap.size, 1, none⟩ = false := Arr.free AU 1 (by simp); have d2 : u.cell? ⟨w1.heap.size, 2, none⟩ = some (.int .u32 (z2 : Int)) := Arr.cell AU 2 (by simp); have f2 : u.frozen? ⟨w1.heap.size, 2, none⟩ = false := Arr.free AU 2 (by simp); have d3 : u.cell? ⟨w1.heap.size, 3, none⟩ = some (.int .u32 (z3 : Int)) := Arr.cell AU 3 (by simp); have f3 : u.frozen? ⟨w1.heap.size, 3, none⟩ = false := Arr.free AU 3 (by simp); have d4 : u.cell? ⟨w1.heap.size, 4, none⟩ = some (.int .u32 (z4 : Int)) := Arr.cell AU 4 (by simp); have f4 : u.frozen? ⟨w1.heap.size, 4, none⟩ = false := Arr.free AU 4 (by simp); have d5 : u.cell? ⟨w1.heap.size, 5, none⟩ = some (.int .u32 (z5 : Int)) := Arr.cell AU 5 (by simp); have f5 : u.frozen? ⟨w1.heap.size, 5, none⟩ = false := Arr.free AU 5 (by simp); have d6 : u.cell? ⟨w1.heap.size, 6, none⟩ = some (.int .u32 (z6 : Int)) := Arr.cell AU 6 (by simp); have f6 : u.frozen? ⟨w1.heap.size, 6, none⟩ = false := Arr.free AU 6 (by simp); have d7 : u.cell? ⟨w1.heap.size, 7, none⟩ = some (.int .u32 (z7 : Int)) := Arr.cell AU 7 (by simp); have f7 : u.frozen? ⟨w1.heap.size, 7, none⟩ = false := Arr.free AU 7 (by simp); have HS : Hid (Arr .u32 (u.setCells w1.heap.size 0 (ks .u32 [x0, x1, x2, x3, x4, x5, x6, x7])) w1.heap.size [x0, x1, x2, x3, x4, x5, x6, x7]) := Arr.store AU [x0, x1, x2, x3, x4, x5, x6, x7] rfl; have HU : Hid (Upd w1.heap.size u (u.setCells w1.heap.size 0 (ks .u32 [x0, x1, x2, x3, x4, x5, x6, x7]))) := Upd.setCells _ _ 0 u; have HBU : Hid (Below w3.heap.size w3 u) := Below.trans (Below.drew (Below.refl _ _)) hbu; have hzu : w3.heap.size ≤ u.heap.size := hbu.size; clear AU hbu))
  clear c0 c1 c2 c3 c4 c5 c6 c7 d0 d1 d2 d3 d4 d5 d6 d7 f0 f1 f2 f3 f4 f5 f6 f7
  obtain ⟨w5, hw5⟩ : ∃ w5, w5 = u.setCells w1.heap.size 0 (ks .u32 [x0, x1, x2, x3, x4, x5, x6, x7]) := ⟨_, rfl⟩
  have HB5 : Hid (Below w.heap.size w w5) := by rw [hw5]; exact Below.trans HB3.out (Below.trans (Below.mono HBU.out (by omega)) (Upd.below HU.out (by omega)))
  have HT5 : Hid (Tab w5) := Tab.below HT.out HB5.out (by omega)
  have HA5 : Arr .u32 w5 w1.heap.size [x0, x1, x2, x3, x4, x5, x6, x7] := by rw [hw5]; exact HS.out
  have hz5 : w1.heap.size + 1 ≤ w5.heap.size := by have := HU.out.size; rw [hw5]; omega
  have c0 : w5.cell? ⟨w1.heap.size, 0, none⟩ = some (.int .u32 (x0 : Int)) := HA5.cell 0 (by simp)
  have c1 : w5.cell? ⟨w1.heap.size, 1, none⟩ = some (.int .u32 (x1 : Int)) := HA5.cell 1 (by simp)
  have c2 : w5.cell? ⟨w1.heap.size, 2, none⟩ = some (.int .u32 (x2 : Int)) := HA5.cell 2 (by simp)
  have c3 : w5.cell? ⟨w1.heap.size, 3, none⟩ = some (.int .u32 (x3 : Int)) := HA5.cell 3 (by simp)
  have c4 : w5.cell? ⟨w1.heap.size, 4, none⟩ = some (.int .u32 (x4 : Int)) := HA5.cell 4 (by simp)
  have c5 : w5.cell? ⟨w1.heap.size, 5, none⟩ = some (.int .u32 (x5 : Int)) := HA5.cell 5 (by simp)
  have c6 : w5.cell? ⟨w1.heap.size, 6, none⟩ = some (.int .u32 (x6 : Int)) := HA5.cell 6 (by simp)
  have c7 : w5.cell? ⟨w1.heap.size, 7, none⟩ = some (.int .u32 (x7 : Int)) := HA5.cell 7 (by simp)
  have HA5' : Hid _ := HA5
  have hw5' : (((((((((u.setCell ⟨w1.heap.size, 0, none⟩ (.int .u32 (x0 : Int))).setCell ⟨w1.heap.size, 1, none⟩ (.int .u32 (x1 : Int))).setCell ⟨w1.heap.size, 2, none⟩ (.int .u32 (x2 : Int))).setCell ⟨w1.heap.size, 3, none⟩ (.int .u32 (x3 : Int))).setCell ⟨w1.heap.size, 4, none⟩ (.int .u32 (x4 : Int))).setCell ⟨w1.heap.size, 5, none⟩ (.int .u32 (x5 : Int))).setCell ⟨w1.heap.size, 6, none⟩ (.int .u32 (x6 : Int))).setCell ⟨w1.heap.size, 7, none⟩ (.int .u32 (x7 : Int)))) = w5 := hw5.symm
  rw [hw5']
  clear hw5 hw5' HS HU HBU HA5 HA4 HB3 HT3 hz3 hzu
  have hsw : IntKind.u64.wrap (s.size : Int) = (s.size : Int) := by rw [IntKind.wrap_u64]; omega
  go_wp2_with fail
  go_region_with (first | (go_at_call 19; refine (CP.out _).mono ?_; rintro e t ⟨rfl, hbt⟩; have AU := Arr.below (Arr.drew HA5'.out) hbt (by simp; omega); have HBT : Hid (Below w5.heap.size w5 t) := Below.trans (Below.drew (Below.refl _ _)) hbt; have hzt : w5.heap.size ≤ t.heap.size := hbt.size; have HAT : Hid _ := AU; have HTT : Hid (Tab t) := Tab.below HT5.out HBT.out (by omega); have d0 : t.cell? ⟨w1.heap.size, 0, none⟩ = some (.int .u32 (x0 : Int)) := Arr.cell AU 0 (by simp); have d1 : t.cell? ⟨w1.heap.size, 1, none⟩ = some (.int .u32 (x1 : Int)) := Arr.cell AU 1 (by simp); have d2 : t.cell? ⟨w1.heap.size, 2, none⟩ = some (.int .u32 (x2 : Int)) := Arr.cell AU 2 (by simp); have d3 : t.cell? ⟨w1.heap.size, 3, none⟩ = some (.int .u32 (x3 : Int)) := Arr.cell AU 3 (by simp); have d4 : t.cell? ⟨w1.heap.size, 4, none⟩ = some (.int .u32 (x4 : Int)) := Arr.cell AU 4 (by simp); have d5 : t.cell? ⟨w1.heap.size, 5, none⟩ = some (.int .u32 (x5 : Int)) := Arr.cell AU 5 (by simp); have d6 : t.cell? ⟨w1.heap.size, 6, none⟩ = some (.int .u32 (x6 : Int)) := Arr.cell AU 6 (by simp); have d7 : t.cell? ⟨w1.heap.size, 7, none⟩ = some (.int .u32 (x7 : Int)) := Arr.cell AU 7 (by simp); clear AU hbt) | (go_at_call 37; refine (C2.out _ HTT.out).mono ?_; rintro e v ⟨rfl, hbv⟩; have AU := Arr.below HAT.out hbv (by omega); have a0 : v.cell? ⟨w1.heap.size, 0, none⟩ = some (.int .u32 (x0 : Int)) := Arr.cell AU 0 (by simp); have f0 : v.frozen? ⟨w1.heap.size, 0, none⟩ = false := Arr.free AU 0 (by simp); have a1 : v.cell? ⟨w1.heap.size, 1, none⟩ = some (.int .u32 (x1 : Int)) := Arr.cell AU 1 (by simp); have f1 : v.frozen? ⟨w1.heap.size, 1, none⟩ = false := Arr.free AU 1 (by simp); have a2 : v.cell? ⟨w1.heap.size, 2, none⟩ = some (.int .u32 (x2 : Int)) := Arr.cell AU 2 (by simp); have f2 : v.frozen? ⟨w1.heap.size, 2, none⟩ = false := Arr.free AU 2 (by simp); have a3 : v.cell? ⟨w1.heap.size, 3, none⟩ = some (.int .u32 (x3 : Int)) := Arr.cell AU 3 (by simp); have f3 : v.frozen? ⟨w1.heap.size, 3, none⟩ = false := Arr.free AU 3 (by simp); have a4 : v.cell? ⟨w1.heap.size, 4, none⟩ = some (.int .u32 (x4 : Int)) := Arr.cell AU 4 (by simp); have f4 : v.frozen? ⟨w1.heap.size, 4, none⟩ = false := Arr.free AU 4 (by simp); have a5 : v.cell? ⟨w1.heap.size, 5, none⟩ = some (.int .u32 (x5 : Int)) := Arr.cell AU 5 (by simp); have f5 : v.frozen? ⟨w1.heap.size, 5, none⟩ = false := Arr.free AU 5 (by simp); have a6 : v.cell? ⟨w1.heap.size, 6, none⟩ = some (.int .u32 (x6 : Int)) := Arr.cell AU 6 (by simp); have f6 : v.frozen? ⟨w1.heap.size, 6, none⟩ = false := Arr.free AU 6 (by simp); have a7 : v.cell? ⟨w1.heap.size, 7, none⟩ = some (.int .u32 (x7 : Int)) := Arr.cell AU 7 (by simp); have f7 : v.frozen? ⟨w1.heap.size, 7, none⟩ = false := Arr.free AU 7 (by simp); have HS : Hid (Arr .u32 (v.setCells w1.heap.size 0 (ks .u32 [y0, y1, y2, y3, y4, y5, y6, y7])) w1.heap.size [y0, y1, y2, y3, y4, y5, y6, y7]) := Arr.store AU [y0, y1, y2, y3, y4, y5, y6, y7] rfl; have HU : Hid (Upd w1.heap.size v (v.setCells w1.heap.size 0 (ks .u32 [y0, y1, y2, y3, y4, y5, y6, y7]))) := Upd.setCells _ _ 0 v; have HBV : Hid (Below t.heap.size t v) := hbv; clear AU hbv))
  all_goals
    clear c0 c1 c2 c3 c4 c5 c6 c7 d0 d1 d2 d3 d4 d5 d6 d7 f0 f1 f2 f3 f4 f5 f6 f7 a0 a1 a2 a3 a4 a5 a6 a7
    obtain ⟨w7, hw7⟩ : ∃ w7, w7 = v.setCells w1.heap.size 0 (ks .u32 [y0, y1, y2, y3, y4, y5, y6, y7]) := ⟨_, rfl⟩
    have HB7 : Hid (Below w.heap.size w w7) := by rw [hw7]; exact Below.trans HB5.out (Below.trans (Below.mono HBT.out (by omega)) (Below.trans (Below.mono HBV.out (by omega)) (Upd.below HU.out (by omega))))
    have HA7 : Hid (Arr .u32 w7 w1.heap.size [y0, y1, y2, y3, y4, y5, y6, y7]) := by rw [hw7]; exact HS.out
    have hz7 : w1.heap.size + 1 ≤ w7.heap.size := by have := HU.out.size; have := HBV.out.size; rw [hw7]; omega
    have hw7' : (((((((((v.setCell ⟨w1.heap.size, 0, none⟩ (.int .u32 (y0 : Int))).setCell ⟨w1.heap.size, 1, none⟩ (.int .u32 (y1 : Int))).setCell ⟨w1.heap.size, 2, none⟩ (.int .u32 (y2 : Int))).setCell ⟨w1.heap.size, 3, none⟩ (.int .u32 (y3 : Int))).setCell ⟨w1.heap.size, 4, none⟩ (.int .u32 (y4 : Int))).setCell ⟨w1.heap.size, 5, none⟩ (.int .u32 (y5 : Int))).setCell ⟨w1.heap.size, 6, none⟩ (.int .u32 (y6 : Int))).setCell ⟨w1.heap.size, 7, none⟩ (.int .u32 (y7 : Int)))) = w7 := hw7.symm
    rw [hw7']
    clear hw7 hw7' HS HU HBV HAT HTT HBT hzt
    go_wp2_with (first | refine arr_load rfl .u32 26 _ rfl w1.heap.size rfl [y0, y1, y2, y3, y4, y5, y6, y7] HA7.out 8 25 Tryd.underlying26 Tryd.size_a8 ?_)
    refine (C3.out _).mono ?_; rintro e w8 ⟨rfl, hb8⟩
    go_wp2_with fail
    go_ret
    rw [HE.out]
    exact ⟨rfl, Below.trans HB7.out (hb8.mono (by omega))⟩
end Go.Proofs.YtlodahlinncpcaaDoor
