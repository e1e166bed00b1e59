/- Block, of a block. -/
import Derived.Test.YtlodahlinncpcaaDoorShaBlock
import Derived.Deep.RegionWith
namespace Go.Proofs.YtlodahlinncpcaaDoor
open Go.RowKit
set_option linter.unusedVariables false
set_option linter.unusedSimpArgs false

/-- the first i are added -/
def mix (r l : List Nat) (i : Nat) : List Nat := (Q.plus r l).take i ++ r.drop i
theorem mix_zero (r l : List Nat) : mix r l 0 = r := by simp [mix]
theorem mix_all (r l : List Nat) (h1 : r.length = 8) (h2 : l.length = 8) : mix r l 8 = Q.plus r l := by
  have : (Q.plus r l).length = 8 := (Q.plus_ok r l h1 h2).1
  rw [mix, List.drop_of_length_le (by omega), List.take_of_length_le (by omega), List.append_nil]
theorem mix_length (r l : List Nat) (i : Nat) (h1 : r.length = 8) (h2 : l.length = 8) (hi : i ≤ 8) : (mix r l i).length = 8 := by
  have : (Q.plus r l).length = 8 := (Q.plus_ok r l h1 h2).1
  rw [mix, List.length_append, List.length_take, List.length_drop]; omega
theorem plus_at (r l : List Nat) (i : Nat) (h1 : i < r.length) (h2 : i < l.length) : (Q.plus r l)[i]? = some ((r.getD i 0 + l.getD i 0) % 4294967296) := by
  simp [Q.plus, List.getElem?_zipWith, h1, h2]
theorem mix_at (r l : List Nat) (i : Nat) (h1 : r.length = 8) (h2 : l.length = 8) (hi : i < 8) : (mix r l i).getD i 0 = r.getD i 0 := by
  have : (Q.plus r l).length = 8 := (Q.plus_ok r l h1 h2).1
  rw [mix, List.getD_eq_getElem?_getD, List.getElem?_append_right (by rw [List.length_take]; omega), List.length_take, Nat.min_eq_left (by omega), Nat.sub_self, List.getElem?_drop, List.getD_eq_getElem?_getD, Nat.add_zero]
theorem mix_set (r l : List Nat) (i : Nat) (h1 : r.length = 8) (h2 : l.length = 8) (hi : i < 8) : (mix r l i).set i ((r.getD i 0 + l.getD i 0) % 4294967296) = mix r l (i + 1) := by
  have h3 : (Q.plus r l).length = 8 := (Q.plus_ok r l h1 h2).1
  have h4 : ((Q.plus r l).take i).length = i := by rw [List.length_take]; omega
  rw [mix, List.set_append_right _ _ (by omega), h4, Nat.sub_self, mix, List.take_add_one, plus_at r l i (by omega) (by omega), List.append_assoc]
  congr 1
  rw [List.drop_eq_getElem_cons (show i < r.length by omega), List.set_cons_zero]
  rfl
theorem R_succ (k w s : List Nat) (t : Nat) : Q.R k w s (t + 1) = Q.rnd (Q.R k w s t) ((k.getD t 0 + w.getD t 0) % 4294967296) := rfl

theorem round_out (x0 x1 x2 x3 x4 x5 x6 x7 k : Nat) (y0 y1 y2 y3 y4 y5 y6 y7 : Nat) (h : Q.Ok8 [x0, x1, x2, x3, x4, x5, x6, x7]) (hy : Q.rnd [x0, x1, x2, x3, x4, x5, x6, x7] k = [y0, y1, y2, y3, y4, y5, y6, y7]) (w : World) :
    Calls Tryd.prog 42 #[.agg #[.int .u32 (x0 : Int), .int .u32 (x1 : Int), .int .u32 (x2 : Int), .int .u32 (x3 : Int), .int .u32 (x4 : Int), .int .u32 (x5 : Int), .int .u32 (x6 : Int), .int .u32 (x7 : Int)], .int .u32 k] w fun e w' => e = .returned (.agg #[.int .u32 (y0 : Int), .int .u32 (y1 : Int), .int .u32 (y2 : Int), .int .u32 (y3 : Int), .int .u32 (y4 : Int), .int .u32 (y5 : Int), .int .u32 (y6 : Int), .int .u32 (y7 : Int)]) ∧ Below w.heap.size w w' := by
  have := round_any [x0, x1, x2, x3, x4, x5, x6, x7] k w h
  rw [hy] at this
  exact this
theorem wrap_two (a b : Nat) : IntKind.u32.wrap ((a : Int) + b) = (((a + b) % 4294967296 : Nat) : Int) := by
  simp only [IntKind.wrap_u32']; omega
set_option maxHeartbeats 1000000 in
set_option maxRecDepth 100000 in
theorem block_ok (l : List Nat) (s : ByteArray) (w : World) (h8 : Q.Ok8 l) (h : s.size = 64) (hT : Tab w) :
    Calls Tryd.prog 17 #[AV .u32 l, .string s] w fun e w' => e = .returned (.tuple #[AV .u32 (Q.block l s.data.toList), .bool true]) ∧ Below w.heap.size w w' := by
  have CS0 := fun w => schedule_any s w h
  have HW : Hid _ := Q.W_length s.data.toList 64
  have HWO : Hid _ := Q.W_ok s.data.toList 64
  obtain ⟨ww, HWW⟩ : ∃ ww, Hid (Q.W s.data.toList 64 = ww) := ⟨_, rfl⟩
  simp only [HWW.out] at CS0 HW HWO
  have CS : Hid _ := CS0
  clear CS0
  have HT : Hid _ := hT
  have hz := hT.pos
  have HL : Hid _ := h8
  clear hT h8
  go_enter Tryd.func17, Tryd.ntmps17
  go_wp2_with (first | refine arr_box rfl .u32 26 _ rfl l rfl ?_ | refine arr_alloc rfl .u32 26 8 rfl Tryd.info_a8 ?_)
  intro w1 A1 B1 Z1
  go_wp2_with (first | refine arr_box rfl .u32 26 _ rfl l rfl ?_ | refine arr_alloc rfl .u32 26 8 rfl Tryd.info_a8 ?_)
  intro w2 A2 B2 Z2
  have HB2 : Hid _ := B1.trans (B2.mono (by omega))
  have HA1 : Hid _ := A1.below B2 (by omega)
  have HA2 : Hid _ := A2
  clear A1 A2 B1 B2 Z1
  go_wp2_with fail
  refine (CS.out _).mono ?_; rintro e w3 ⟨rfl, hb3⟩
  have hz3 := hb3.size
  have HB3 : Hid _ := Below.trans HB2.out (hb3.mono (by omega))
  have HT3 : Hid (Tab w3) := Tab.below HT.out HB3.out (by omega)
  have HA13 : Hid _ := Arr.below HA1.out hb3 (by omega)
  have HA23 : Hid _ := Arr.below HA2.out hb3 (by omega)
  clear HB2 HA1 HA2 hb3 HT CS
  go_wp2_with (first | refine arr_alloc rfl .u32 65 64 rfl Tryd.info_a64 ?_)
  intro w4 A4 B4 Z4
  go_wp2_with (first | (refine arr_store rfl .u32 65 _ _ rfl w3.heap.size rfl ww rfl _ A4 (by rw [HW.out]; rfl) (by rw [HW.out]; exact Tryd.size_a64) ?_))
  intro w5 A5 U5
  have HT5 : Hid (Tab w5) := Tab.below (Tab.below HT3.out B4 (by omega)) (U5.below (Nat.le_refl _)) (by omega)
  have HA1 : Hid _ := Arr.upd (Arr.below HA13.out B4 (by omega)) U5 (by omega)
  have HA2 : Hid _ := Arr.upd (Arr.below HA23.out B4 (by omega)) U5 (by omega)
  have HA6 : Hid _ := A5
  have HB5 : Hid (Below w.heap.size w w5) := Below.trans HB3.out ((B4.mono (by omega)).trans (U5.below (by omega)))
  have hz5 : w3.heap.size < w5.heap.size := by have := U5.size; omega
  clear A4 B4 Z4 A5 U5 HT3 HA13 HA23 HB3
  have H8 : Hid (l.length = 8) := HL.out.1
  go_wp2_with (first | refine arr_load rfl .u32 26 _ rfl w.heap.size rfl l HA1.out 8 25 Tryd.underlying26 (by rw [H8.out]; exact Tryd.size_a8) ?_ | (refine arr_store rfl .u32 26 _ _ rfl (w.heap.size + 1) rfl l rfl _ HA2.out (by rw [H8.out]; rfl) (by rw [H8.out]; exact Tryd.size_a8) ?_))
  intro w6 A6 U6
  have HT0 : Hid (Tab w6) := Tab.below HT5.out (U6.below (Nat.le_refl _)) (by omega)
  have HA10 : Hid _ := Arr.upd HA1.out U6 (by omega)
  have HA60 : Hid _ := Arr.upd HA6.out U6 (by omega)
  have HA20 : Hid _ := A6
  have HB0 : Hid (Below w.heap.size w w6) := Below.trans HB5.out (U6.below (by omega))
  have hz6 : w3.heap.size < w6.heap.size := by have := U6.size; omega
  clear HT5 HA1 HA2 HA6 HB5 hz5 A6 U6
  go_wp2_with fail
  go_loopw [15] (fun i wr => ∃ t : Nat, t ≤ 64 ∧ i = .int .i64 t ∧ Hid (Tab wr) ∧ Hid (Arr .u32 wr w.heap.size l) ∧ Hid (Arr .u32 wr (w.heap.size + 1) (Q.R Q.K ww l t)) ∧ Hid (Arr .u32 wr w3.heap.size ww) ∧ Hid (Below w.heap.size w wr) ∧ w3.heap.size < wr.heap.size) (fun i _ => 64 - (intOf i).toNat)
  case atStart => exact ⟨0, by omega, rfl, HT0, HA10, HA20, HA60, HB0, hz6⟩
  case round =>
    clear HT0 HA10 HA20 HA60 HB0 hz6
    obtain ⟨t, ht, rfl, HT, HA1, HA2, HA6, HB, hzr⟩ := hrel
    by_cases hlt : t < 64
    · have HR8 : Hid _ := Q.R_ok Q.K ww l t HL.out
      have HRS : Hid _ := R_succ Q.K ww l t
      have HR8' : Hid _ := Q.R_ok Q.K ww l (t + 1) HL.out
      have kc : wr.cell? ⟨0, t, none⟩ = some (.int .u32 ((Q.K.getD t 0 : Nat) : Int)) := HT.out t hlt
      have wc := Arr.cell HA6.out t (by rw [HW.out]; exact hlt)
      have HWR : Hid _ := wrap_two (Q.K.getD t 0) (ww.getD t 0)
      generalize Q.K.getD t 0 = kt at *
      generalize ww.getD t 0 = wt at *
      obtain ⟨rr, HRR⟩ : ∃ r, Hid (Q.R Q.K ww l t = r) := ⟨_, rfl⟩
      rw [HRR.out] at HA2 HR8 HRS
      obtain ⟨x0, x1, x2, x3, x4, x5, x6, x7, rfl⟩ := Q.eight rr HR8.out.1
      obtain ⟨kw, HKW⟩ : ∃ r, Hid ((kt + wt) % 4294967296 = r) := ⟨_, rfl⟩
      rw [HKW.out] at HWR HRS
      obtain ⟨y0, y1, y2, y3, y4, y5, y6, y7, HY⟩ := Q.eight (Q.rnd [x0, x1, x2, x3, x4, x5, x6, x7] kw) (Q.rnd_ok _ kw HR8.out).1
      rw [HY] at HRS
      have C : Hid _ := round_out x0 x1 x2 x3 x4 x5 x6 x7 kw y0 y1 y2 y3 y4 y5 y6 y7 HR8.out HY
      have HA : Arr .u32 wr (w.heap.size + 1) [x0, x1, x2, x3, x4, x5, x6, x7] := HA2.out
      have c0 : wr.cell? ⟨w.heap.size + 1, 0, none⟩ = some (.int .u32 (x0 : Int)) := Arr.cell HA 0 (by simp)
      have c1 : wr.cell? ⟨w.heap.size + 1, 1, none⟩ = some (.int .u32 (x1 : Int)) := Arr.cell HA 1 (by simp)
      have c2 : wr.cell? ⟨w.heap.size + 1, 2, none⟩ = some (.int .u32 (x2 : Int)) := Arr.cell HA 2 (by simp)
      have c3 : wr.cell? ⟨w.heap.size + 1, 3, none⟩ = some (.int .u32 (x3 : Int)) := Arr.cell HA 3 (by simp)
      have c4 : wr.cell? ⟨w.heap.size + 1, 4, none⟩ = some (.int .u32 (x4 : Int)) := Arr.cell HA 4 (by simp)
      have c5 : wr.cell? ⟨w.heap.size + 1, 5, none⟩ = some (.int .u32 (x5 : Int)) := Arr.cell HA 5 (by simp)
      have c6 : wr.cell? ⟨w.heap.size + 1, 6, none⟩ = some (.int .u32 (x6 : Int)) := Arr.cell HA 6 (by simp)
      have c7 : wr.cell? ⟨w.heap.size + 1, 7, none⟩ = some (.int .u32 (x7 : Int)) := Arr.cell HA 7 (by simp)
      have hwr : IntKind.u32.wrap ((kt : Int) + wt) = (kw : Int) := HWR.out
      have it : (t : Int) < 64 := by omega
      have HAH : Hid _ := HA
      have hzz : w.heap.size + 1 < wr.heap.size := by omega
      clear HY HA hlt
      go_wp2_with fail
      go_region_with (first | (go_at_call 42; refine (C.out _).mono ?_; rintro e u ⟨rfl, hbu⟩; have AU := Arr.below (Arr.drew HAH.out) hbu (by simpa using hzz); have d0 : u.cell? ⟨w.heap.size + 1, 0, none⟩ = some (.int .u32 (x0 : Int)) := Arr.cell AU 0 (by simp); have f0 : u.frozen? ⟨w.heap.size + 1, 0, none⟩ = false := Arr.free AU 0 (by simp); have d1 : u.cell? ⟨w.heap.size + 1, 1, none⟩ = some (.int .u32 (x1 : Int)) := Arr.cell AU 1 (by simp); have f1 : u.frozen? ⟨w.heap.size + 1, 1, none⟩ = false := Arr.free AU 1 (by simp); have d2 : u.cell? ⟨w.heap.size + 1, 2, none⟩ = some (.int .u32 (x2 : Int)) := Arr.cell AU 2 (by simp); have f2 : u.frozen? ⟨w.heap.size + 1, 2, none⟩ = false := Arr.free AU 2 (by simp); have d3 : u.cell? ⟨w.heap.size + 1, 3, none⟩ = some (.int .u32 (x3 : Int)) := Arr.cell AU 3 (by simp); have f3 : u.frozen? ⟨w.heap.size + 1, 3, none⟩ = false := Arr.free AU 3 (by simp); have d4 : u.cell? ⟨w.heap.size + 1, 4, none⟩ = some (.int .u32 (x4 : Int)) := Arr.cell AU 4 (by simp); have f4 : u.frozen? ⟨w.heap.size + 1, 4, none⟩ = false := Arr.free AU 4 (by simp); have d5 : u.cell? ⟨w.heap.size + 1, 5, none⟩ = some (.int .u32 (x5 : Int)) := Arr.cell AU 5 (by simp); have f5 : u.frozen? ⟨w.heap.size + 1, 5, none⟩ = false := Arr.free AU 5 (by simp); have d6 : u.cell? ⟨w.heap.size + 1, 6, none⟩ = some (.int .u32 (x6 : Int)) := Arr.cell AU 6 (by simp); have f6 : u.frozen? ⟨w.heap.size + 1, 6, none⟩ = false := Arr.free AU 6 (by simp); have d7 : u.cell? ⟨w.heap.size + 1, 7, none⟩ = some (.int .u32 (x7 : Int)) := Arr.cell AU 7 (by simp); have f7 : u.frozen? ⟨w.heap.size + 1, 7, none⟩ = false := Arr.free AU 7 (by simp); have HS : Hid (Arr .u32 (u.setCells (w.heap.size + 1) 0 (ks .u32 [y0, y1, y2, y3, y4, y5, y6, y7])) (w.heap.size + 1) [y0, y1, y2, y3, y4, y5, y6, y7]) := Arr.store AU [y0, y1, y2, y3, y4, y5, y6, y7] rfl; have HU : Hid (Upd (w.heap.size + 1) u (u.setCells (w.heap.size + 1) 0 (ks .u32 [y0, y1, y2, y3, y4, y5, y6, y7]))) := Upd.setCells _ _ 0 u; have HBU : Hid (Below wr.heap.size wr u) := Below.trans (Below.drew (Below.refl _ _)) hbu; have hzu : wr.heap.size ≤ u.heap.size := hbu.size; clear AU hbu))
      all_goals
        have HTn : Hid (Tab _) := Tab.below (Tab.below HT.out HBU.out (by omega)) (Upd.below HU.out (Nat.le_refl _)) (by omega)
        have HA1n : Hid _ := Arr.upd (Arr.below HA1.out HBU.out (by omega)) HU.out (by omega)
        have HA6n : Hid _ := Arr.upd (Arr.below HA6.out HBU.out (by omega)) HU.out (by omega)
        have HBn : Hid (Below w.heap.size w _) := Below.trans HB.out (Below.trans (Below.mono HBU.out (by omega)) (Upd.below HU.out (by omega)))
        have hzn : w3.heap.size < (u.setCells (w.heap.size + 1) 0 (ks .u32 [y0, y1, y2, y3, y4, y5, y6, y7])).heap.size := by have := HU.out.size; omega
        clear c0 c1 c2 c3 c4 c5 c6 c7 d0 d1 d2 d3 d4 d5 d6 d7 f0 f1 f2 f3 f4 f5 f6 f7 kc wc
        go_wp2_with fail
        go_roundw
        case rel => exact ⟨t + 1, by omega, by go_num, HTn.out, HA1n.out, by rw [HRS.out]; exact HS.out, HA6n.out, HBn.out, hzn⟩
        case measure => simp [intOf]; omega
    · obtain rfl : t = 64 := by omega
      have hlt' : ¬ (((64 : Nat) : Int) < 64) := by omega
      clear HA6 HT
      have HR8 : Hid _ := Q.R_ok Q.K ww l 64 HL.out
      have H8 : Hid (l.length = 8) := HL.out.1
      have HBL : Hid (Q.block l s.data.toList = Q.plus (Q.R Q.K ww l 64) l) := by show _ = _; rw [Q.block, HWW.out]
      obtain ⟨rr, HRR⟩ : ∃ r, Hid (Q.R Q.K ww l 64 = r) := ⟨_, rfl⟩
      rw [HRR.out] at HA2 HR8 HBL
      have HR : Hid (rr.length = 8) := HR8.out.1
      have HA2' : Hid (Arr .u32 wr (w.heap.size + 1) (mix rr l 0)) := by show Arr _ _ _ _; rw [mix_zero]; exact HA2.out
      clear HA2 HR8 HRR
      go_wp2_with fail
      clear hlt' hlt ht
      go_loopw [28] (fun i wr => ∃ t : Nat, t ≤ 8 ∧ i = .int .i64 t ∧ Hid (Arr .u32 wr w.heap.size l) ∧ Hid (Arr .u32 wr (w.heap.size + 1) (mix rr l t)) ∧ Hid (Below w.heap.size w wr)) (fun i _ => 8 - (intOf i).toNat)
      case atStart => exact ⟨0, by omega, rfl, HA1, HA2', HB⟩
      case round =>
        clear HA1 HA2' HB
        obtain ⟨t, ht, rfl, HA1, HA2, HB⟩ := hrel
        by_cases hlt : t < 8
        · have hlen := mix_length rr l t HR.out H8.out ht
          have c1 := Arr.cell HA1.out t (by rw [H8.out]; exact hlt)
          have c2 := Arr.cell HA2.out t (by rw [hlen]; exact hlt)
          have f2 := Arr.free HA2.out t (by rw [hlen]; exact hlt)
          rw [mix_at rr l t HR.out H8.out hlt] at c2
          have HS0 := Arr.set HA2.out t ((rr.getD t 0 + l.getD t 0) % 4294967296) (by rw [hlen]; exact hlt)
          rw [mix_set rr l t HR.out H8.out hlt] at HS0
          have HS : Hid _ := HS0
          have HU : Hid _ := Upd.setCell wr (w.heap.size + 1) t (.int .u32 ((rr.getD t 0 + l.getD t 0) % 4294967296 : Nat))
          have HWR : Hid _ := wrap_two (rr.getD t 0) (l.getD t 0)
          generalize rr.getD t 0 = r1 at c2 HWR HS HU
          generalize l.getD t 0 = l1 at c1 HWR HS HU
          have it : (t : Int) < 8 := by omega
          clear hlen HS0
          go_wp2_with fail
          go_region
          all_goals
            rw [show ((r1 : Int) + (l1 : Int)) % 4294967296 = (((r1 + l1) % 4294967296 : Nat) : Int) by omega]
            generalize (r1 + l1) % 4294967296 = xx at *
            go_wp2_with fail
            go_roundw
            case rel => exact ⟨t + 1, by omega, by go_num, Arr.drew (Arr.upd HA1.out HU.out (by omega)), Arr.drew HS.out, Below.drew (Below.trans HB.out (Upd.below HU.out (by omega)))⟩
            case measure => simp [intOf]; omega
        · obtain rfl : t = 8 := by omega
          have hlt' : ¬ (((8 : Nat) : Int) < 8) := by omega
          have HA2' : Hid (Arr .u32 wr (w.heap.size + 1) (Q.block l s.data.toList)) := by
            show Arr _ _ _ _
            rw [HBL.out, ← mix_all rr l HR.out H8.out]
            exact HA2.out
          have HN : Hid ((Q.block l s.data.toList).length = 8) := (Q.block_ok l _ HL.out).1
          obtain ⟨bb, HBB⟩ : ∃ r, Hid (Q.block l s.data.toList = r) := ⟨_, rfl⟩
          rw [HBB.out] at HA2' HN
          clear HA2 HA1
          go_wp2_with (first | refine arr_load rfl .u32 26 _ rfl (w.heap.size + 1) rfl bb HA2'.out 8 25 Tryd.underlying26 (by rw [HN.out]; exact Tryd.size_a8) ?_ | (refine arr_store rfl .u32 26 _ _ rfl (w.heap.size + 1) rfl bb rfl _ HA2'.out rfl (by rw [HN.out]; exact Tryd.size_a8) ?_))
          intro w7 A7 U7
          have HA7 : Hid _ := A7
          have HB7 : Hid _ := Below.trans HB.out (U7.below (by omega))
          clear A7 U7 HA2' HB
          go_wp2_with fail
          have HI : (Tryd.prog.info? 26).map (·.size) = some bb.length := by rw [HN.out]; exact Tryd.size_a8
          refine bodyPost_ret (v := .tuple #[AV .u32 bb, .bool true]) ?_ rfl ⟨by rw [HBB.out], HB7.out⟩
          exact res_arr2 (t := 26) Tryd.results17 _ .u32 (w.heap.size + 1) rfl bb HA7.out 8 25 Tryd.underlying26 HI
end Go.Proofs.YtlodahlinncpcaaDoor
