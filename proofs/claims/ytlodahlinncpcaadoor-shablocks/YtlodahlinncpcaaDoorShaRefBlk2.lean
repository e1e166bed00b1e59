/- The document's own answer: Block, out of block. -/
import Derived.Test.YtlodahlinncpcaaDoorShaRefTab
import Derived.Test.YtlodahlinncpcaaDoorShaBlockB
namespace Go.Proofs.YtlodahlinncpcaaDoor
open Go.RowKit
set_option linter.unusedVariables false
set_option linter.unusedSimpArgs false
/-- what is said of the document's own block -/
def RefBlock : Prop := ∀ (l : List Nat) (s : ByteArray) (w : World), Q.Ok8 l → s.size = 64 →
    Calls Tryd.prog 40 #[AV .u32 l, .string s, AV .u32 Q.K] w fun e w' => e = .returned (AV .u32 (Q.block l s.data.toList)) ∧ Below w.heap.size w w'
set_option maxHeartbeats 1000000 in
set_option maxRecDepth 100000 in
theorem refBlock_no (l : List Nat) (s : ByteArray) (w : World) (h8 : l.length = 8) (h : s.size ≠ 64) :
    Calls Tryd.prog 18 #[AV .u32 l, .string s] w fun e w' => e = .returned (.tuple #[AV .u32 (List.replicate 8 0), .bool false]) ∧ Below w.heap.size w w' := by
  have h' : ((s.size : Int) != 64) = true := by rw [bne_iff_ne]; omega
  go_enter Tryd.func18, Tryd.ntmps18
  go_wp2_with (first | refine arr_box rfl .u32 26 _ rfl l rfl ?_ | refine arr_alloc rfl .u32 26 8 rfl Tryd.info_a8 ?_)
  intro w1 A1 B1 Z1
  go_wp2_with (first | refine arr_box rfl .u32 26 _ rfl l rfl ?_ | refine arr_alloc rfl .u32 26 8 rfl Tryd.info_a8 ?_)
  intro w2 A2 B2 Z2
  have HB : Hid _ := B1.trans (B2.mono (by omega))
  have HA : Hid (Arr .u32 w2 (w.heap.size + 1) (List.replicate 8 0)) := A2
  clear A1 A2 B1 B2 Z1 Z2
  go_wp2_with (first | refine arr_store rfl .u32 26 _ _ rfl (w.heap.size + 1) rfl (List.replicate 8 0) rfl _ HA.out rfl Tryd.size_a8 ?_)
  intro w3 A3 U3
  have HA3 : Hid _ := A3
  have HB3 : Hid _ := Below.trans HB.out (U3.below (by omega))
  clear A3 U3
  go_wp2_with fail
  refine bodyPost_ret (v := .tuple #[AV .u32 (List.replicate 8 0), .bool false]) ?_ rfl ⟨rfl, HB3.out⟩
  exact res_arr2 (t := 26) Tryd.results18 _ .u32 _ rfl _ HA3.out 8 25 Tryd.underlying26 Tryd.size_a8
theorem refBlock_out (RB : RefBlock) (x0 x1 x2 x3 x4 x5 x6 x7 : Nat) (y0 y1 y2 y3 y4 y5 y6 y7 : Nat) (s : ByteArray) (h : Q.Ok8 [x0, x1, x2, x3, x4, x5, x6, x7]) (hs : s.size = 64) (hy : Q.block [x0, x1, x2, x3, x4, x5, x6, x7] s.data.toList = [y0, y1, y2, y3, y4, y5, y6, y7]) (w : World) :
    Calls Tryd.prog 40 #[.agg #[.int .u32 (x0 : Int), .int .u32 (x1 : Int), .int .u32 (x2 : Int), .int .u32 (x3 : Int), .int .u32 (x4 : Int), .int .u32 (x5 : Int), .int .u32 (x6 : Int), .int .u32 (x7 : Int)], .string s, AV .u32 Q.K] w fun e w' => e = .returned (.agg #[.int .u32 (y0 : Int), .int .u32 (y1 : Int), .int .u32 (y2 : Int), .int .u32 (y3 : Int), .int .u32 (y4 : Int), .int .u32 (y5 : Int), .int .u32 (y6 : Int), .int .u32 (y7 : Int)]) ∧ Below w.heap.size w w' := by
  have := RB [x0, x1, x2, x3, x4, x5, x6, x7] s w h hs
  rw [hy] at this
  exact this
set_option maxHeartbeats 1000000 in
set_option maxRecDepth 100000 in
theorem refBlock_ok (RB : RefBlock) (l : List Nat) (s : ByteArray) (w : World) (h8 : Q.Ok8 l) (h : s.size = 64) :
    Calls Tryd.prog 18 #[AV .u32 l, .string s] w fun e w' => e = .returned (.tuple #[AV .u32 (Q.block l s.data.toList), .bool true]) ∧ Below w.heap.size w w' := by
  have O2 := Q.block_ok l s.data.toList h8
  obtain ⟨x0, x1, x2, x3, x4, x5, x6, x7, rfl⟩ := Q.eight l h8.1
  obtain ⟨y0, y1, y2, y3, y4, y5, y6, y7, HY⟩ := Q.eight _ O2.1
  have C : Hid _ := refBlock_out RB x0 x1 x2 x3 x4 x5 x6 x7 y0 y1 y2 y3 y4 y5 y6 y7 s h8 h HY
  have CT : Hid _ := table_any
  obtain ⟨KK, HKK⟩ : ∃ r, Hid (Q.K = r) := ⟨_, rfl⟩
  rw [HKK.out] at C CT
  have HYY : Hid _ := HY
  clear HY O2
  go_enter Tryd.func18, Tryd.ntmps18
  go_wp2_with (first | refine arr_box rfl .u32 26 _ rfl [x0, x1, x2, x3, x4, x5, x6, x7] rfl ?_ | refine arr_alloc rfl .u32 26 8 rfl Tryd.info_a8 ?_)
  intro w1 A1 B1 Z1
  go_wp2_with (first | refine arr_box rfl .u32 26 _ rfl [x0, x1, x2, x3, x4, x5, x6, x7] rfl ?_ | refine arr_alloc rfl .u32 26 8 rfl Tryd.info_a8 ?_)
  intro w2 A2 B2 Z2
  have HB2 : Hid _ := B1.trans (B2.mono (by omega))
  have HA1 : Arr .u32 w2 w.heap.size [x0, x1, x2, x3, x4, x5, x6, x7] := A1.below B2 (by omega)
  have HA2 : Hid (Arr .u32 w2 (w.heap.size + 1) (List.replicate 8 0)) := A2
  have hz2 : w2.heap.size = w.heap.size + 2 := by omega
  have HA1' : Hid _ := HA1
  have c0 : w2.cell? ⟨w.heap.size, 0, none⟩ = some (.int .u32 (x0 : Int)) := Arr.cell HA1 0 (by simp)
  have c1 : w2.cell? ⟨w.heap.size, 1, none⟩ = some (.int .u32 (x1 : Int)) := Arr.cell HA1 1 (by simp)
  have c2 : w2.cell? ⟨w.heap.size, 2, none⟩ = some (.int .u32 (x2 : Int)) := Arr.cell HA1 2 (by simp)
  have c3 : w2.cell? ⟨w.heap.size, 3, none⟩ = some (.int .u32 (x3 : Int)) := Arr.cell HA1 3 (by simp)
  have c4 : w2.cell? ⟨w.heap.size, 4, none⟩ = some (.int .u32 (x4 : Int)) := Arr.cell HA1 4 (by simp)
  have c5 : w2.cell? ⟨w.heap.size, 5, none⟩ = some (.int .u32 (x5 : Int)) := Arr.cell HA1 5 (by simp)
  have c6 : w2.cell? ⟨w.heap.size, 6, none⟩ = some (.int .u32 (x6 : Int)) := Arr.cell HA1 6 (by simp)
  have c7 : w2.cell? ⟨w.heap.size, 7, none⟩ = some (.int .u32 (x7 : Int)) := Arr.cell HA1 7 (by simp)
  clear A1 A2 B1 B2 Z1 Z2 HA1
  go_wp2_with fail
  go_region_with (first | (go_at_call 39; refine (CT.out _).mono ?_; rintro e t ⟨rfl, hbt⟩; have AT := Arr.below (Arr.drew HA1'.out) hbt (by simp; omega); have AR := Arr.below (Arr.drew HA2.out) hbt (by simp; omega); have HBT : Hid (Below w2.heap.size w2 t) := Below.trans (Below.drew (Below.refl _ _)) hbt; have hzt : w2.heap.size ≤ t.heap.size := hbt.size; have HAR : Hid _ := AR; have d0 : t.cell? ⟨w.heap.size, 0, none⟩ = some (.int .u32 (x0 : Int)) := Arr.cell AT 0 (by simp); have d1 : t.cell? ⟨w.heap.size, 1, none⟩ = some (.int .u32 (x1 : Int)) := Arr.cell AT 1 (by simp); have d2 : t.cell? ⟨w.heap.size, 2, none⟩ = some (.int .u32 (x2 : Int)) := Arr.cell AT 2 (by simp); have d3 : t.cell? ⟨w.heap.size, 3, none⟩ = some (.int .u32 (x3 : Int)) := Arr.cell AT 3 (by simp); have d4 : t.cell? ⟨w.heap.size, 4, none⟩ = some (.int .u32 (x4 : Int)) := Arr.cell AT 4 (by simp); have d5 : t.cell? ⟨w.heap.size, 5, none⟩ = some (.int .u32 (x5 : Int)) := Arr.cell AT 5 (by simp); have d6 : t.cell? ⟨w.heap.size, 6, none⟩ = some (.int .u32 (x6 : Int)) := Arr.cell AT 6 (by simp); have d7 : t.cell? ⟨w.heap.size, 7, none⟩ = some (.int .u32 (x7 : Int)) := Arr.cell AT 7 (by simp); clear AT AR hbt) | (go_at_call 40; refine (C.out _).mono ?_; rintro e v ⟨rfl, hbv⟩; have AU := Arr.below HAR.out hbv (by omega); have a0 : v.cell? ⟨w.heap.size + 1, 0, none⟩ = some (.int .u32 (0 : Int)) := Arr.cell AU 0 (by simp); have f0 : v.frozen? ⟨w.heap.size + 1, 0, none⟩ = false := Arr.free AU 0 (by simp); have a1 : v.cell? ⟨w.heap.size + 1, 1, none⟩ = some (.int .u32 (0 : Int)) := Arr.cell AU 1 (by simp); have f1 : v.frozen? ⟨w.heap.size + 1, 1, none⟩ = false := Arr.free AU 1 (by simp); have a2 : v.cell? ⟨w.heap.size + 1, 2, none⟩ = some (.int .u32 (0 : Int)) := Arr.cell AU 2 (by simp); have f2 : v.frozen? ⟨w.heap.size + 1, 2, none⟩ = false := Arr.free AU 2 (by simp); have a3 : v.cell? ⟨w.heap.size + 1, 3, none⟩ = some (.int .u32 (0 : Int)) := Arr.cell AU 3 (by simp); have f3 : v.frozen? ⟨w.heap.size + 1, 3, none⟩ = false := Arr.free AU 3 (by simp); have a4 : v.cell? ⟨w.heap.size + 1, 4, none⟩ = some (.int .u32 (0 : Int)) := Arr.cell AU 4 (by simp); have f4 : v.frozen? ⟨w.heap.size + 1, 4, none⟩ = false := Arr.free AU 4 (by simp); have a5 : v.cell? ⟨w.heap.size + 1, 5, none⟩ = some (.int .u32 (0 : Int)) := Arr.cell AU 5 (by simp); have f5 : v.frozen? ⟨w.heap.size + 1, 5, none⟩ = false := Arr.free AU 5 (by simp); have a6 : v.cell? ⟨w.heap.size + 1, 6, none⟩ = some (.int .u32 (0 : Int)) := Arr.cell AU 6 (by simp); have f6 : v.frozen? ⟨w.heap.size + 1, 6, none⟩ = false := Arr.free AU 6 (by simp); have a7 : v.cell? ⟨w.heap.size + 1, 7, none⟩ = some (.int .u32 (0 : Int)) := Arr.cell AU 7 (by simp); have f7 : v.frozen? ⟨w.heap.size + 1, 7, none⟩ = false := Arr.free AU 7 (by simp); have HS : Hid (Arr .u32 (v.setCells (w.heap.size + 1) 0 (ks .u32 [y0, y1, y2, y3, y4, y5, y6, y7])) (w.heap.size + 1) [y0, y1, y2, y3, y4, y5, y6, y7]) := Arr.store AU [y0, y1, y2, y3, y4, y5, y6, y7] rfl; have HU : Hid (Upd (w.heap.size + 1) v (v.setCells (w.heap.size + 1) 0 (ks .u32 [y0, y1, y2, y3, y4, y5, y6, y7]))) := Upd.setCells _ _ 0 v; have HBV : Hid (Below t.heap.size t v) := hbv; clear AU hbv))
  all_goals
    clear c0 c1 c2 c3 c4 c5 c6 c7 d0 d1 d2 d3 d4 d5 d6 d7 f0 f1 f2 f3 f4 f5 f6 f7 a0 a1 a2 a3 a4 a5 a6 a7
    obtain ⟨w7, hw7⟩ : ∃ w7, w7 = v.setCells (w.heap.size + 1) 0 (ks .u32 [y0, y1, y2, y3, y4, y5, y6, y7]) := ⟨_, rfl⟩
    have HB7 : Hid (Below w.heap.size w w7) := by rw [hw7]; exact Below.trans HB2.out (Below.trans (Below.mono HBT.out (by omega)) (Below.trans (Below.mono HBV.out (by omega)) (Upd.below HU.out (by omega))))
    have HA7 : Hid (Arr .u32 w7 (w.heap.size + 1) [y0, y1, y2, y3, y4, y5, y6, y7]) := by rw [hw7]; exact HS.out
    have hw7' : ((((((((v.setCell ⟨w.heap.size + 1, 0, none⟩ (.int .u32 (y0 : Int))).setCell ⟨w.heap.size + 1, 1, none⟩ (.int .u32 (y1 : Int))).setCell ⟨w.heap.size + 1, 2, none⟩ (.int .u32 (y2 : Int))).setCell ⟨w.heap.size + 1, 3, none⟩ (.int .u32 (y3 : Int))).setCell ⟨w.heap.size + 1, 4, none⟩ (.int .u32 (y4 : Int))).setCell ⟨w.heap.size + 1, 5, none⟩ (.int .u32 (y5 : Int))).setCell ⟨w.heap.size + 1, 6, none⟩ (.int .u32 (y6 : Int))).setCell ⟨w.heap.size + 1, 7, none⟩ (.int .u32 (y7 : Int))) = w7 := hw7.symm
    rw [hw7']
    clear hw7 hw7' HS HU HBV HAR HBT hzt
    go_wp2_with fail
    refine bodyPost_ret (v := .tuple #[AV .u32 [y0, y1, y2, y3, y4, y5, y6, y7], .bool true]) ?_ rfl ⟨by rw [HYY.out], HB7.out⟩
    exact res_arr2 (t := 26) Tryd.results18 _ .u32 (w.heap.size + 1) rfl [y0, y1, y2, y3, y4, y5, y6, y7] HA7.out 8 25 Tryd.underlying26 Tryd.size_a8
end Go.Proofs.YtlodahlinncpcaaDoor
