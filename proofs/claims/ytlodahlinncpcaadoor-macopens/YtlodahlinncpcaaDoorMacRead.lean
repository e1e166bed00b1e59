/- mac: read. -/
import Derived.Test.YtlodahlinncpcaaDoorShaBlk
import Derived.Test.YtlodahlinncpcaaDoorShaStill
import Derived.Test.YtlodahlinncpcaaDoorShaRefSum
import Derived.Test.YtlodahlinncpcaaDoorMacKey
import Derived.Test.YtlodahlinncpcaaDoorPackText
namespace Go.Proofs.YtlodahlinncpcaaDoor.Mc
open Go.RowKit
set_option linter.unusedVariables false
set_option linter.unusedSimpArgs false
theorem Tryd.info_tok : (Tryd.prog.info? 37).map (fun i => (i.zero, i.size)) = some (some (.agg [Value.int .i64 0, .string ⟨#[]⟩, .int .i64 0, .int .u64 0].toArray), 4) := by kernel_rfl
theorem Tryd.size_tok : (Tryd.prog.info? 37).map (·.size) = some 4 := by kernel_rfl
theorem Tryd.info_rd : (Tryd.prog.info? 91).map (fun i => (i.zero, i.size)) = some (some (.agg [Value.string ⟨#[]⟩, .bool false].toArray), 2) := by kernel_rfl
theorem Tryd.size_rd : (Tryd.prog.info? 91).map (·.size) = some 2 := by kernel_rfl
def zeroTok : List Value := [.int .i64 0, .string ⟨#[]⟩, .int .i64 0, .int .u64 0]
theorem rn_le (s : ByteArray) (b : Bool) (k : Int) (n : Nat) (t : ByteArray) (b' : Bool) (h : P.RN s b k = (n, t, b')) : t.size ≤ s.size := by
  have := Pk.RN_size s b k; rw [h] at this; exact this
theorem rt_le (s : ByteArray) (b : Bool) (k : Int) (n : ByteArray) (t : ByteArray) (b' : Bool) (h : P.RT s b k = (n, t, b')) : t.size ≤ s.size := by
  have := Pk.RT_size s b k; rw [h] at this; exact this
set_option maxHeartbeats 2000000 in
set_option maxRecDepth 100000 in
theorem read_any (s : ByteArray) (n1 n3 n4 : Nat) (t r1 r2 r3 r4 : ByteArray) (b1 b2 b3 b4 : Bool) (w : World) (hs : s.size ≤ 140737488355328)
    (h1 : P.RN s false 1 = (n1, r1, b1)) (h2 : P.RT r1 b1 16 = (t, r2, b2)) (h3 : P.RN r2 b2 1 = (n3, r3, b3)) (h4 : P.RN r3 b3 8 = (n4, r4, b4))
    (hn1 : n1 < 256) (hn3 : n3 < 256) (ht : t.size ≤ 140737488355328) :
    Calls Tryd.prog 49 #[.string s] w fun e w' => e = .returned (.tuple #[.agg (if b4 then zeroTok else [.int .i64 (n1 : Int), .string t, .int .i64 (n3 : Int), .int .u64 (n4 : Int)]).toArray, .string (if b4 then ⟨#[]⟩ else r4), .bool (!b4)]) ∧ Below w.heap.size w w' := by
  have l1 := rn_le _ _ _ _ _ _ h1
  have l2 := rt_le _ _ _ _ _ _ h2
  have l3 := rn_le _ _ _ _ _ _ h3
  have C1 : Hid _ := fun w => Pk.rnumber_any s false 1 n1 r1 b1 w (by unfold maxLen; omega) h1
  have C2 : Hid _ := fun w => Pk.rtext_any r1 b1 16 t r2 b2 w (by unfold maxLen; omega) (by omega) h2
  have C3 : Hid _ := fun w => Pk.rnumber_any r2 b2 1 n3 r3 b3 w (by unfold maxLen; omega) h3
  have C4 : Hid _ := fun w => Pk.rnumber_any r3 b3 8 n4 r4 b4 w (by unfold maxLen; omega) h4
  have CC : Hid _ := fun w => clone_any t w (by omega)
  clear h1 h2 h3 h4 l1 l2 l3
  go_enter Tryd.func49, Tryd.ntmps49
  go_wp2_with (first | refine blk_alloc rfl 37 zeroTok rfl Tryd.info_tok ?_)
  intro w1 K1 B1 Z1
  go_wp2_with (first | refine blk_alloc rfl 91 [.string ⟨#[]⟩, .bool false] rfl Tryd.info_rd ?_)
  intro w2 K2' B2 Z2
  have K2 : Blk w2 (w.heap.size + 1) [.string ⟨#[]⟩, .bool false] := by first | exact K2' | (rw [← Z1]; exact K2')
  go_wp2_with (first | refine blk_store rfl 91 _ _ rfl (w.heap.size + 1) rfl [.string s, .bool false] rfl _ K2 rfl Tryd.size_rd rfl ?_)
  intro w3 K3 U3
  have HT3 : Hid (Blk w3 w.heap.size zeroTok) := (K1.below B2 (by omega)).upd U3 (by omega)
  have HR3 : Hid (Blk w3 (w.heap.size + 1) [.string s, .bool false]) := K3
  have HB3 : Hid (Below w.heap.size w w3) := B1.trans ((B2.mono (by omega)).trans (U3.below (by omega)))
  have hz3 : w3.heap.size = w.heap.size + 2 := by have := U3.size; omega
  clear K1 B1 Z1 K2' K2 B2 Z2 K3 U3
  go_wp2_with (first | refine blk_load rfl 91 _ rfl (w.heap.size + 1) rfl [.string s, .bool false] HR3.out _ Tryd.underlying91 rfl Tryd.size_rd ?_)
  refine (C1.out _).mono ?_; rintro e w4 ⟨rfl, hb4⟩
  have z4 := hb4.size
  have HR4 : Hid (Blk w4 (w.heap.size + 1) [.string s, .bool false]) := Blk.below HR3.out hb4 (by omega)
  have HT4 : Hid (Blk w4 w.heap.size zeroTok) := Blk.below HT3.out hb4 (by omega)
  have HB4 : Hid (Below w.heap.size w w4) := Below.trans HB3.out (hb4.mono HB3.out.size)
  clear hb4 HR3 HT3 HB3
  go_wp2_with (first | refine blk_store rfl 91 _ _ rfl (w.heap.size + 1) rfl [.string r1, .bool b1] rfl _ HR4.out rfl Tryd.size_rd rfl ?_)
  intro w5 K5 U5
  have HR5 : Hid (Blk w5 (w.heap.size + 1) [.string r1, .bool b1]) := K5
  have HT5 : Hid (Blk w5 w.heap.size zeroTok) := Blk.upd HT4.out U5 (by omega)
  have HB5 : Hid (Below w.heap.size w w5) := Below.trans HB4.out (U5.below (by omega))
  have hz5 : w.heap.size + 2 ≤ w5.heap.size := by have := U5.size; omega
  clear K5 U5 HR4 HT4 HB4 z4 hz3
  go_wp2_with (first | refine blk_load rfl 91 _ rfl (w.heap.size + 1) rfl [.string r1, .bool b1] HR5.out _ Tryd.underlying91 rfl Tryd.size_rd ?_)
  refine (C2.out _).mono ?_; rintro e w6 ⟨rfl, hb6⟩
  have z6 := hb6.size
  have HR6 : Hid (Blk w6 (w.heap.size + 1) [.string r1, .bool b1]) := Blk.below HR5.out hb6 (by omega)
  have HT6 : Hid (Blk w6 w.heap.size zeroTok) := Blk.below HT5.out hb6 (by omega)
  have HB6 : Hid (Below w.heap.size w w6) := Below.trans HB5.out (hb6.mono HB5.out.size)
  clear hb6 HR5 HT5 HB5
  go_wp2_with (first | refine blk_store rfl 91 _ _ rfl (w.heap.size + 1) rfl [.string r2, .bool b2] rfl _ HR6.out rfl Tryd.size_rd rfl ?_)
  intro w7 K7 U7
  have HR7 : Hid (Blk w7 (w.heap.size + 1) [.string r2, .bool b2]) := K7
  have HT7 : Hid (Blk w7 w.heap.size zeroTok) := Blk.upd HT6.out U7 (by omega)
  have HB7 : Hid (Below w.heap.size w w7) := Below.trans HB6.out (U7.below (by omega))
  have hz7 : w.heap.size + 2 ≤ w7.heap.size := by have := U7.size; omega
  clear K7 U7 HR6 HT6 HB6 z6 hz5
  go_wp2_with (first | refine blk_load rfl 91 _ rfl (w.heap.size + 1) rfl [.string r2, .bool b2] HR7.out _ Tryd.underlying91 rfl Tryd.size_rd ?_)
  refine (C3.out _).mono ?_; rintro e w8 ⟨rfl, hb8⟩
  have z8 := hb8.size
  have HR8 : Hid (Blk w8 (w.heap.size + 1) [.string r2, .bool b2]) := Blk.below HR7.out hb8 (by omega)
  have HT8 : Hid (Blk w8 w.heap.size zeroTok) := Blk.below HT7.out hb8 (by omega)
  have HB8 : Hid (Below w.heap.size w w8) := Below.trans HB7.out (hb8.mono HB7.out.size)
  clear hb8 HR7 HT7 HB7
  go_wp2_with (first | refine blk_store rfl 91 _ _ rfl (w.heap.size + 1) rfl [.string r3, .bool b3] rfl _ HR8.out rfl Tryd.size_rd rfl ?_)
  intro w9 K9 U9
  have HR9 : Hid (Blk w9 (w.heap.size + 1) [.string r3, .bool b3]) := K9
  have HT9 : Hid (Blk w9 w.heap.size zeroTok) := Blk.upd HT8.out U9 (by omega)
  have HB9 : Hid (Below w.heap.size w w9) := Below.trans HB8.out (U9.below (by omega))
  have hz9 : w.heap.size + 2 ≤ w9.heap.size := by have := U9.size; omega
  clear K9 U9 HR8 HT8 HB8 z8 hz7
  go_wp2_with (first | refine blk_load rfl 91 _ rfl (w.heap.size + 1) rfl [.string r3, .bool b3] HR9.out _ Tryd.underlying91 rfl Tryd.size_rd ?_)
  refine (C4.out _).mono ?_; rintro e w10 ⟨rfl, hb10⟩
  have z10 := hb10.size
  have HR10 : Hid (Blk w10 (w.heap.size + 1) [.string r3, .bool b3]) := Blk.below HR9.out hb10 (by omega)
  have HT10 : Hid (Blk w10 w.heap.size zeroTok) := Blk.below HT9.out hb10 (by omega)
  have HB10 : Hid (Below w.heap.size w w10) := Below.trans HB9.out (hb10.mono HB9.out.size)
  clear hb10 HR9 HT9 HB9
  go_wp2_with (first | refine blk_store rfl 91 _ _ rfl (w.heap.size + 1) rfl [.string r4, .bool b4] rfl _ HR10.out rfl Tryd.size_rd rfl ?_)
  intro w11 K11 U11
  have HR11 : Hid (Blk w11 (w.heap.size + 1) [.string r4, .bool b4]) := K11
  have HT11 : Hid (Blk w11 w.heap.size zeroTok) := Blk.upd HT10.out U11 (by omega)
  have HB11 : Hid (Below w.heap.size w w11) := Below.trans HB10.out (U11.below (by omega))
  have hz11 : w.heap.size + 2 ≤ w11.heap.size := by have := U11.size; omega
  clear K11 U11 HR10 HT10 HB10 z10 hz9
  have c : w11.cell? ⟨w.heap.size + 1, 1, none⟩ = some (.bool b4) := Blk.cell HR11.out 1 _ rfl
  have c0 : w11.cell? ⟨w.heap.size + 1, 0, none⟩ = some (.string r4) := Blk.cell HR11.out 0 _ rfl
  cases b4 with
  | true =>
    go_wp2_with (first | refine blk_store rfl 37 _ _ rfl w.heap.size rfl zeroTok rfl _ HT11.out rfl Tryd.size_tok rfl ?_)
    intro w12 K12 U12
    have HT12 : Hid (Blk w12 w.heap.size zeroTok) := K12
    have HB12 : Hid (Below w.heap.size w w12) := Below.trans HB11.out (U12.below (by omega))
    clear K12 U12
    go_wp2_with fail
    exact bodyPost_ret (v := .tuple #[.agg zeroTok.toArray, .string ⟨#[]⟩, .bool false]) (res_blk3 Tryd.results49 _ w.heap.size rfl zeroTok HT12.out _ Tryd.underlying37 rfl Tryd.size_tok) rfl ⟨by simp, HB12.out⟩
  | false =>
    have v1 : IntKind.i64.wrap (n1 : Int) = n1 := IntWalk.i64_in _ ⟨by omega, by omega⟩
    have v3 : IntKind.i64.wrap (n3 : Int) = n3 := IntWalk.i64_in _ ⟨by omega, by omega⟩
    go_wp2_with fail
    refine (CC.out _).mono ?_; rintro e w12 ⟨rfl, hb12⟩
    have z12 := hb12.size
    have HR12 : Hid (Blk w12 (w.heap.size + 1) [.string r4, .bool false]) := Blk.below HR11.out hb12 (by omega)
    have HT12 : Hid (Blk w12 w.heap.size zeroTok) := Blk.below HT11.out hb12 (by omega)
    have HB12 : Hid (Below w.heap.size w w12) := Below.trans HB11.out (hb12.mono HB11.out.size)
    clear hb12 c c0 HR11 HT11 HB11
    go_wp2_with (first | refine blk_store rfl 37 _ _ rfl w.heap.size rfl [.int .i64 (n1 : Int), .string t, .int .i64 (n3 : Int), .int .u64 (n4 : Int)] rfl _ HT12.out rfl Tryd.size_tok rfl ?_)
    intro w13 K13 U13
    have HT13 : Hid (Blk w13 w.heap.size [.int .i64 (n1 : Int), .string t, .int .i64 (n3 : Int), .int .u64 (n4 : Int)]) := K13
    have HR13 : Hid (Blk w13 (w.heap.size + 1) [.string r4, .bool false]) := Blk.upd HR12.out U13 (by omega)
    have HB13 : Hid (Below w.heap.size w w13) := Below.trans HB12.out (U13.below (by omega))
    clear K13 U13 HR12 HT12 HB12 v1 v3
    have c0 : w13.cell? ⟨w.heap.size + 1, 0, none⟩ = some (.string r4) := Blk.cell HR13.out 0 _ rfl
    have t0 : w13.cell? ⟨w.heap.size, 0, none⟩ = some (.int .i64 (n1 : Int)) := Blk.cell HT13.out 0 _ rfl
    have f0 : w13.frozen? ⟨w.heap.size, 0, none⟩ = false := Blk.free HT13.out 0 (by simp)
    have t1 : w13.cell? ⟨w.heap.size, 1, none⟩ = some (.string t) := Blk.cell HT13.out 1 _ rfl
    have f1 : w13.frozen? ⟨w.heap.size, 1, none⟩ = false := Blk.free HT13.out 1 (by simp)
    have t2 : w13.cell? ⟨w.heap.size, 2, none⟩ = some (.int .i64 (n3 : Int)) := Blk.cell HT13.out 2 _ rfl
    have f2 : w13.frozen? ⟨w.heap.size, 2, none⟩ = false := Blk.free HT13.out 2 (by simp)
    have t3 : w13.cell? ⟨w.heap.size, 3, none⟩ = some (.int .u64 (n4 : Int)) := Blk.cell HT13.out 3 _ rfl
    have f3 : w13.frozen? ⟨w.heap.size, 3, none⟩ = false := Blk.free HT13.out 3 (by simp)
    have HST : Hid (Blk (w13.setCells w.heap.size 0 [.int .i64 (n1 : Int), .string t, .int .i64 (n3 : Int), .int .u64 (n4 : Int)]) w.heap.size [.int .i64 (n1 : Int), .string t, .int .i64 (n3 : Int), .int .u64 (n4 : Int)]) := Blk.store HT13.out _ rfl
    have HSU : Hid (Below w.heap.size w (w13.setCells w.heap.size 0 [.int .i64 (n1 : Int), .string t, .int .i64 (n3 : Int), .int .u64 (n4 : Int)])) := Below.trans HB13.out ((Upd.setCells w.heap.size _ 0 w13).below (Nat.le_refl _))
    go_wp2_with fail
    go_region
    all_goals
      go_wp2_with fail
      exact bodyPost_ret (v := .tuple #[.agg [.int .i64 (n1 : Int), .string t, .int .i64 (n3 : Int), .int .u64 (n4 : Int)].toArray, .string r4, .bool true]) (res_blk3 Tryd.results49 _ w.heap.size rfl [.int .i64 (n1 : Int), .string t, .int .i64 (n3 : Int), .int .u64 (n4 : Int)] (Blk.drew HST.out) _ Tryd.underlying37 rfl Tryd.size_tok) rfl ⟨by simp, Below.drew HSU.out⟩
end Go.Proofs.YtlodahlinncpcaaDoor.Mc
