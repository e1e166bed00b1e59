/- blocks. -/
import Derived.Test.YtlodahlinncpcaaDoorShaBlockB
import Derived.Test.YtlodahlinncpcaaDoorShaHexF
namespace Go.Proofs.YtlodahlinncpcaaDoor
open Go.RowKit
set_option linter.unusedVariables false
set_option linter.unusedSimpArgs false
theorem Tab.drew {w : World} (h : Tab w) : Tab w.drew := fun i hi => by simpa using h i hi
def strLen : Value → Nat
  | .string s => s.size
  | _ => 0
theorem block_out (x0 x1 x2 x3 x4 x5 x6 x7 : Nat) (y0 y1 y2 y3 y4 y5 y6 y7 : Nat) (s : ByteArray) (h : Q.Ok8 [x0, x1, x2, x3, x4, x5, x6, x7]) (hs : s.size = 64) (hy : Q.block [x0, x1, x2, x3, x4, x5, x6, x7] s.data.toList = [y0, y1, y2, y3, y4, y5, y6, y7]) (w : World) (hT : Tab w) :
    Calls Tryd.prog 17 #[.agg #[.int .u32 (x0 : Int), .int .u32 (x1 : Int), .int .u32 (x2 : Int), .int .u32 (x3 : Int), .int .u32 (x4 : Int), .int .u32 (x5 : Int), .int .u32 (x6 : Int), .int .u32 (x7 : Int)], .string s] w fun e w' => e = .returned (.tuple #[.agg #[.int .u32 (y0 : Int), .int .u32 (y1 : Int), .int .u32 (y2 : Int), .int .u32 (y3 : Int), .int .u32 (y4 : Int), .int .u32 (y5 : Int), .int .u32 (y6 : Int), .int .u32 (y7 : Int)], .bool true]) ∧ Below w.heap.size w w' := by
  have := block_ok [x0, x1, x2, x3, x4, x5, x6, x7] s w h hs hT
  rw [hy] at this
  exact this
set_option maxHeartbeats 1000000 in
set_option maxRecDepth 100000 in
theorem blocks_any (n : Nat) (l : List Nat) (s : ByteArray) (w : World) (h8 : Q.Ok8 l) (h : s.size = 64 * n) (hs : s.size ≤ 281474976710656) (hT : Tab w) :
    Calls Tryd.prog 37 #[AV .u32 l, .string s] w fun e w' => e = .returned (AV .u32 (Q.blocks n l s.data.toList)) ∧ Below w.heap.size w w' := by
  have HT : Hid _ := hT
  have hz := hT.pos
  have HL : Hid _ := h8
  clear hT h8
  go_enter Tryd.func37, Tryd.ntmps37
  go_wp2_with (first | refine arr_box rfl .u32 26 _ rfl l rfl ?_ | refine arr_alloc rfl .u32 26 8 rfl Tryd.info_a8 ?_)
  intro w1 A1 B1 Z1
  go_wp2_with (first | refine arr_box rfl .u32 26 _ rfl l rfl ?_ | refine arr_alloc rfl .u32 26 8 rfl Tryd.info_a8 ?_)
  intro w2 A2 B2 Z2
  have HB2 : Hid _ := B1.trans (B2.mono (by omega))
  have HA1 : Hid _ := A1.below B2 (by omega)
  have HA2 : Hid _ := A2
  have HT2 : Hid (Tab w2) := Tab.below HT.out HB2.out (by omega)
  clear A1 A2 B1 B2 Z1
  go_wp2_with fail
  go_loopw [1] (fun v wr => ∃ (m : Nat) (st : List Nat) (r : ByteArray), v = .string r ∧ r.size = 64 * m ∧ r.size ≤ s.size ∧ Hid (Q.Ok8 st) ∧ Hid (Q.blocks m st r.data.toList = Q.blocks n l s.data.toList) ∧ Hid (Tab wr) ∧ Hid (Arr .u32 wr w.heap.size st) ∧ Hid (Arr .u32 wr (w.heap.size + 1) (List.replicate 8 0)) ∧ Hid (Below w.heap.size w wr) ∧ w.heap.size + 2 ≤ wr.heap.size) (fun v _ => strLen v)
  case atStart => exact ⟨n, l, s, rfl, h, Nat.le_refl _, HL, rfl, HT2, HA1, HA2, HB2, by omega⟩
  case round =>
    clear HT HL HB2 HA1 HA2 HT2 h
    obtain ⟨m, st, r, rfl, hr, hrs, HO, HE, HT, HA1, HA2, HB, hzr⟩ := hrel
    cases m with
    | succ m =>
      have hsz : (64 : Int) ≤ r.size := by omega
      have hszn : 64 ≤ r.size := by omega
      have e64 : (r.extract 0 64).size = 64 := by rw [ByteArray.size_extract]; omega
      have eh : (r.extract 0 64).data.toList = r.data.toList.take 64 := by rw [extract_list]; simp
      have HD : Hid ((r.extract 64 r.size).data.toList = r.data.toList.drop 64) := extract_drop r 64 _ rfl
      have HDS : (r.extract 64 r.size).size = 64 * m := by rw [ByteArray.size_extract]; omega
      obtain ⟨x0, x1, x2, x3, x4, x5, x6, x7, rfl⟩ := Q.eight st HO.out.1
      obtain ⟨y0, y1, y2, y3, y4, y5, y6, y7, HY⟩ := Q.eight (Q.block [x0, x1, x2, x3, x4, x5, x6, x7] (r.extract 0 64).data.toList) (Q.block_ok _ _ HO.out).1
      have HOY : Hid (Q.Ok8 [y0, y1, y2, y3, y4, y5, y6, y7]) := by rw [← HY]; exact Q.block_ok _ _ HO.out
      have C : Hid _ := block_out x0 x1 x2 x3 x4 x5 x6 x7 y0 y1 y2 y3 y4 y5 y6 y7 (r.extract 0 64) HO.out e64 HY
      have HE' : Hid (Q.blocks m [y0, y1, y2, y3, y4, y5, y6, y7] (r.extract 64 r.size).data.toList = Q.blocks n l s.data.toList) := by
        show _ = _
        rw [← HE.out, Q.blocks, HD.out, ← HY, eh]
      have HA : Arr .u32 wr w.heap.size [x0, x1, x2, x3, x4, x5, x6, x7] := HA1.out
      have c0 : wr.cell? ⟨w.heap.size, 0, none⟩ = some (.int .u32 (x0 : Int)) := Arr.cell HA 0 (by simp)
      have c1 : wr.cell? ⟨w.heap.size, 1, none⟩ = some (.int .u32 (x1 : Int)) := Arr.cell HA 1 (by simp)
      have c2 : wr.cell? ⟨w.heap.size, 2, none⟩ = some (.int .u32 (x2 : Int)) := Arr.cell HA 2 (by simp)
      have c3 : wr.cell? ⟨w.heap.size, 3, none⟩ = some (.int .u32 (x3 : Int)) := Arr.cell HA 3 (by simp)
      have c4 : wr.cell? ⟨w.heap.size, 4, none⟩ = some (.int .u32 (x4 : Int)) := Arr.cell HA 4 (by simp)
      have c5 : wr.cell? ⟨w.heap.size, 5, none⟩ = some (.int .u32 (x5 : Int)) := Arr.cell HA 5 (by simp)
      have c6 : wr.cell? ⟨w.heap.size, 6, none⟩ = some (.int .u32 (x6 : Int)) := Arr.cell HA 6 (by simp)
      have c7 : wr.cell? ⟨w.heap.size, 7, none⟩ = some (.int .u32 (x7 : Int)) := Arr.cell HA 7 (by simp)
      have HAH : Hid _ := HA
      have hzz : w.heap.size < wr.heap.size := by omega
      have HDS' : Hid _ := HDS
      have HRZ : Hid _ := hr
      clear HY HA HD eh e64 HE HDS hr
      go_wp2_with fail
      go_region_with (first | (go_at_call 17; refine (C.out _ (Tab.drew HT.out)).mono ?_; rintro e u ⟨rfl, hbu⟩; have AU := Arr.below (Arr.drew HAH.out) hbu (by simpa using hzz); have d0 : u.cell? ⟨w.heap.size, 0, none⟩ = some (.int .u32 (x0 : Int)) := Arr.cell AU 0 (by simp); have f0 : u.frozen? ⟨w.heap.size, 0, none⟩ = false := Arr.free AU 0 (by simp); have d1 : u.cell? ⟨w.heap.size, 1, none⟩ = some (.int .u32 (x1 : Int)) := Arr.cell AU 1 (by simp); have f1 : u.frozen? ⟨w.heap.size, 1, none⟩ = false := Arr.free AU 1 (by simp); have d2 : u.cell? ⟨w.heap.size, 2, none⟩ = some (.int .u32 (x2 : Int)) := Arr.cell AU 2 (by simp); have f2 : u.frozen? ⟨w.heap.size, 2, none⟩ = false := Arr.free AU 2 (by simp); have d3 : u.cell? ⟨w.heap.size, 3, none⟩ = some (.int .u32 (x3 : Int)) := Arr.cell AU 3 (by simp); have f3 : u.frozen? ⟨w.heap.size, 3, none⟩ = false := Arr.free AU 3 (by simp); have d4 : u.cell? ⟨w.heap.size, 4, none⟩ = some (.int .u32 (x4 : Int)) := Arr.cell AU 4 (by simp); have f4 : u.frozen? ⟨w.heap.size, 4, none⟩ = false := Arr.free AU 4 (by simp); have d5 : u.cell? ⟨w.heap.size, 5, none⟩ = some (.int .u32 (x5 : Int)) := Arr.cell AU 5 (by simp); have f5 : u.frozen? ⟨w.heap.size, 5, none⟩ = false := Arr.free AU 5 (by simp); have d6 : u.cell? ⟨w.heap.size, 6, none⟩ = some (.int .u32 (x6 : Int)) := Arr.cell AU 6 (by simp); have f6 : u.frozen? ⟨w.heap.size, 6, none⟩ = false := Arr.free AU 6 (by simp); have d7 : u.cell? ⟨w.heap.size, 7, none⟩ = some (.int .u32 (x7 : Int)) := Arr.cell AU 7 (by simp); have f7 : u.frozen? ⟨w.heap.size, 7, none⟩ = false := Arr.free AU 7 (by simp); have HS : Hid (Arr .u32 (u.setCells w.heap.size 0 (ks .u32 [y0, y1, y2, y3, y4, y5, y6, y7])) w.heap.size [y0, y1, y2, y3, y4, y5, y6, y7]) := Arr.store AU [y0, y1, y2, y3, y4, y5, y6, y7] rfl; have HU : Hid (Upd w.heap.size u (u.setCells w.heap.size 0 (ks .u32 [y0, y1, y2, y3, y4, y5, y6, y7]))) := Upd.setCells _ _ 0 u; have HBU : Hid (Below wr.heap.size wr u) := Below.trans (Below.drew (Below.refl _ _)) hbu; have hzu : wr.heap.size ≤ u.heap.size := hbu.size; clear AU hbu))
      all_goals
        have HTn : Hid (Tab _) := Tab.below (Tab.below HT.out HBU.out (by omega)) (Upd.below HU.out (Nat.le_refl _)) (by omega)
        have HA2n : Hid _ := Arr.upd (Arr.below HA2.out HBU.out (by omega)) HU.out (by omega)
        have HBn : Hid (Below w.heap.size w _) := Below.trans HB.out (Below.trans (Below.mono HBU.out (by omega)) (Upd.below HU.out (by omega)))
        have hzn : w.heap.size + 2 ≤ (u.setCells w.heap.size 0 (ks .u32 [y0, y1, y2, y3, y4, y5, y6, y7])).heap.size := by have := HU.out.size; omega
        clear c0 c1 c2 c3 c4 c5 c6 c7 d0 d1 d2 d3 d4 d5 d6 d7 f0 f1 f2 f3 f4 f5 f6 f7
        go_wp2_with fail
        go_roundw
        case rel => exact ⟨m, [y0, y1, y2, y3, y4, y5, y6, y7], r.extract 64 r.size, rfl, HDS'.out, by have := HRZ.out; rw [HDS'.out]; omega, HOY, HE', HTn.out, HS.out, HA2n.out, HBn.out, hzn⟩
        case measure =>
          have h1 := HRZ.out
          have h2 := HDS'.out
          show (r.extract 64 r.size).size < r.size
          omega
    | zero =>
      have hr0 : r.size = 0 := by omega
      have hr1 : ¬ ((64 : Int) ≤ (r.size : Int)) := by omega
      have H8 : Hid (st.length = 8) := HO.out.1
      have HEE : Hid (st = Q.blocks n l s.data.toList) := HE.out
      have HI : Hid ((Tryd.prog.info? 26).map (·.size) = some st.length) := by show _ = _; rw [H8.out]; exact Tryd.size_a8
      clear hr hrs
      go_wp2_with (first | refine arr_load rfl .u32 26 _ rfl w.heap.size rfl st HA1.out 8 25 Tryd.underlying26 HI.out ?_ | (refine arr_store rfl .u32 26 _ _ rfl (w.heap.size + 1) rfl st rfl _ HA2.out (by rw [H8.out]; rfl) HI.out ?_))
      intro w7 A7 U7
      have HA7 : Hid _ := A7
      have HB7 : Hid _ := Below.trans HB.out (U7.below (by omega))
      clear A7 U7 HA2 HB
      go_wp2_with fail
      refine bodyPost_ret (v := AV .u32 st) ?_ rfl ⟨by rw [HEE.out], HB7.out⟩
      exact res_arr (t := 26) Tryd.results37 _ .u32 (w.heap.size + 1) rfl st HA7.out 8 25 Tryd.underlying26 HI.out
end Go.Proofs.YtlodahlinncpcaaDoor
