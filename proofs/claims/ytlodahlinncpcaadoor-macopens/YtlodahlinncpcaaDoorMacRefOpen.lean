/- mac: the document's own Open. -/
import Derived.Test.YtlodahlinncpcaaDoorMacRefMint
import Derived.Test.YtlodahlinncpcaaDoorMacTok
namespace Go.Proofs.YtlodahlinncpcaaDoor.Mc
open Go.RowKit
set_option linter.unusedVariables false
set_option linter.unusedSimpArgs false
set_option maxHeartbeats 4000000 in
set_option maxRecDepth 100000 in
theorem ref_open_bad (k s : ByteArray) (now n1 n3 n4 : Nat) (t r1 r2 r3 r4 : ByteArray) (b1 b2 b3 : Bool) (w : World) (hk : k.size ≤ 140737488355000) (hs : s.size ≤ 100)
    (h1 : P.RN s false 1 = (n1, r1, b1)) (h2 : P.RT r1 b1 16 = (t, r2, b2)) (h3 : P.RN r2 b2 1 = (n3, r3, b3)) (h4 : P.RN r3 b3 8 = (n4, r4, true))
    (hn1 : n1 < 256) (hn3 : n3 < 256) (hn4 : n4 < 2 ^ 64) (ht : t.size ≤ 140737488355000) :
    Calls Tryd.prog 35 #[.string k, .string s, .int .u64 (now : Int)] w fun e w' => e = .returned (.tuple #[.agg zeroTok.toArray, .int .i64 8]) ∧ Below w.heap.size w w' := by
  have l1 := rn_le _ _ _ _ _ _ h1
  have l2 := rt_le _ _ _ _ _ _ h2
  have l3 := rn_le _ _ _ _ _ _ h3
  have C1 : Hid _ := fun w => Pk.ref_rnumber_any s false 1 n1 r1 b1 w (by unfold maxLen; omega) h1
  have C2 : Hid _ := fun w => Pk.ref_rtext_any r1 b1 16 t r2 b2 w (by unfold maxLen; omega) (by omega) h2
  have C3 : Hid _ := fun w => Pk.ref_rnumber_any r2 b2 1 n3 r3 b3 w (by unfold maxLen; omega) h3
  have C4 : Hid _ := fun w => Pk.ref_rnumber_any r3 b3 8 n4 r4 true w (by unfold maxLen; omega) h4
  have his : ¬ (100 : Int) < (s.size : Int) := by omega
  have v1 : IntKind.i64.wrap (n1 : Int) = n1 := IntWalk.i64_in _ ⟨by omega, by omega⟩
  have v3 : IntKind.i64.wrap (n3 : Int) = n3 := IntWalk.i64_in _ ⟨by omega, by omega⟩
  clear h1 h2 h3 h4 l1 l2 l3
  go_enter Tryd.func35, Tryd.ntmps35
  go_wp2_with (first | refine blk_alloc rfl 44 zeroTok rfl Tryd.info_rtok ?_)
  intro w1 K1 B1 Z1
  go_wp2_with (first | refine blk_alloc rfl 79 [.string ⟨#[]⟩, .bool false] rfl Tryd.info_rrd ?_)
  intro w2 K2' B2 Z2
  have K2 : Blk w2 (w.heap.size + 1) [.string ⟨#[]⟩, .bool false] := by first | exact K2' | (rw [← Z1]; exact K2')
  go_wp2_with (first | refine blk_store rfl 79 _ _ rfl (w.heap.size + 1) rfl [.string s, .bool false] rfl _ K2 rfl Tryd.size_rrd rfl ?_)
  intro w3 K3 U3
  have HO3 : Hid (Blk w3 w.heap.size zeroTok) := (K1.below B2 (by omega)).upd U3 (by omega)
  have HR3 : Hid (Blk w3 (w.heap.size + 1) [.string s, .bool false]) := K3
  have HB3 : Hid (Below w.heap.size w w3) := B1.trans ((B2.mono (by omega)).trans (U3.below (by omega)))
  have q3 : w.heap.size + 1 < w3.heap.size := by have := U3.size; omega
  clear K1 B1 Z1 K2' K2 B2 Z2 K3 U3 his
  go_wp2_with (first | refine blk_load rfl 79 _ rfl (w.heap.size + 1) rfl [.string s, .bool false] HR3.out _ Tryd.underlying79 rfl Tryd.size_rrd ?_)
  refine (C1.out _).mono ?_; rintro e w4 ⟨rfl, hb4⟩
  have z4 := hb4.size
  have HO4 : Hid (Blk w4 w.heap.size zeroTok) := Blk.below HO3.out hb4 (by omega)
  have HB4 : Hid (Below w.heap.size w w4) := Below.trans HB3.out (hb4.mono HB3.out.size)
  clear hb4 HR3 HO3 HB3
  go_wp2_with (first | refine blk_alloc rfl 79 [.string ⟨#[]⟩, .bool false] rfl Tryd.info_rrd ?_)
  intro w5 K5 B5 Z5
  go_wp2_with (first | refine blk_store rfl 79 _ _ rfl w4.heap.size rfl [.string r1, .bool b1] rfl _ K5 rfl Tryd.size_rrd rfl ?_)
  intro w6 K6 U6
  have HO6 : Hid (Blk w6 w.heap.size zeroTok) := (Blk.below HO4.out B5 (by omega)).upd U6 (by omega)
  have HR6 : Hid (Blk w6 w4.heap.size [.string r1, .bool b1]) := K6
  have HB6 : Hid (Below w.heap.size w w6) := Below.trans HB4.out ((B5.mono (by omega)).trans (U6.below (by omega)))
  have y6 : w6.heap.size = w4.heap.size + 1 := by have := U6.size; omega
  obtain ⟨bk6, hbk6⟩ : ∃ b, w4.heap.size = b := ⟨_, rfl⟩
  rw [hbk6] at HR6 y6
  rw [hbk6]
  have q6 : bk6 < w6.heap.size := by omega
  have o6 : w.heap.size < bk6 := by omega
  clear K5 B5 Z5 K6 U6 HO4 HB4 hbk6 z4 y6 q3
  go_wp2_with (first | refine blk_load rfl 79 _ rfl bk6 rfl [.string r1, .bool b1] HR6.out _ Tryd.underlying79 rfl Tryd.size_rrd ?_)
  refine (C2.out _).mono ?_; rintro e w7 ⟨rfl, hb7⟩
  have z7 := hb7.size
  have HO7 : Hid (Blk w7 w.heap.size zeroTok) := Blk.below HO6.out hb7 (by omega)
  have HB7 : Hid (Below w.heap.size w w7) := Below.trans HB6.out (hb7.mono HB6.out.size)
  clear hb7 HR6 HO6 HB6
  go_wp2_with (first | refine blk_alloc rfl 79 [.string ⟨#[]⟩, .bool false] rfl Tryd.info_rrd ?_)
  intro w8 K8 B8 Z8
  go_wp2_with (first | refine blk_store rfl 79 _ _ rfl w7.heap.size rfl [.string r2, .bool b2] rfl _ K8 rfl Tryd.size_rrd rfl ?_)
  intro w9 K9 U9
  have HO9 : Hid (Blk w9 w.heap.size zeroTok) := (Blk.below HO7.out B8 (by omega)).upd U9 (by omega)
  have HR9 : Hid (Blk w9 w7.heap.size [.string r2, .bool b2]) := K9
  have HB9 : Hid (Below w.heap.size w w9) := Below.trans HB7.out ((B8.mono (by omega)).trans (U9.below (by omega)))
  have y9 : w9.heap.size = w7.heap.size + 1 := by have := U9.size; omega
  obtain ⟨bk9, hbk9⟩ : ∃ b, w7.heap.size = b := ⟨_, rfl⟩
  rw [hbk9] at HR9 y9
  rw [hbk9]
  have q9 : bk9 < w9.heap.size := by omega
  have o9 : w.heap.size < bk9 := by omega
  clear K8 B8 Z8 K9 U9 HO7 HB7 hbk9 z7 y9 q6
  go_wp2_with (first | refine blk_load rfl 79 _ rfl bk9 rfl [.string r2, .bool b2] HR9.out _ Tryd.underlying79 rfl Tryd.size_rrd ?_)
  refine (C3.out _).mono ?_; rintro e w10 ⟨rfl, hb10⟩
  have z10 := hb10.size
  have HO10 : Hid (Blk w10 w.heap.size zeroTok) := Blk.below HO9.out hb10 (by omega)
  have HB10 : Hid (Below w.heap.size w w10) := Below.trans HB9.out (hb10.mono HB9.out.size)
  clear hb10 HR9 HO9 HB9
  go_wp2_with (first | refine blk_alloc rfl 79 [.string ⟨#[]⟩, .bool false] rfl Tryd.info_rrd ?_)
  intro w11 K11 B11 Z11
  go_wp2_with (first | refine blk_store rfl 79 _ _ rfl w10.heap.size rfl [.string r3, .bool b3] rfl _ K11 rfl Tryd.size_rrd rfl ?_)
  intro w12 K12 U12
  have HO12 : Hid (Blk w12 w.heap.size zeroTok) := (Blk.below HO10.out B11 (by omega)).upd U12 (by omega)
  have HR12 : Hid (Blk w12 w10.heap.size [.string r3, .bool b3]) := K12
  have HB12 : Hid (Below w.heap.size w w12) := Below.trans HB10.out ((B11.mono (by omega)).trans (U12.below (by omega)))
  have y12 : w12.heap.size = w10.heap.size + 1 := by have := U12.size; omega
  obtain ⟨bk12, hbk12⟩ : ∃ b, w10.heap.size = b := ⟨_, rfl⟩
  rw [hbk12] at HR12 y12
  rw [hbk12]
  have q12 : bk12 < w12.heap.size := by omega
  have o12 : w.heap.size < bk12 := by omega
  clear K11 B11 Z11 K12 U12 HO10 HB10 hbk12 z10 y12 q9
  go_wp2_with (first | refine blk_load rfl 79 _ rfl bk12 rfl [.string r3, .bool b3] HR12.out _ Tryd.underlying79 rfl Tryd.size_rrd ?_)
  refine (C4.out _).mono ?_; rintro e w13 ⟨rfl, hb13⟩
  have z13 := hb13.size
  have HO13 : Hid (Blk w13 w.heap.size zeroTok) := Blk.below HO12.out hb13 (by omega)
  have HB13 : Hid (Below w.heap.size w w13) := Below.trans HB12.out (hb13.mono HB12.out.size)
  clear hb13 HR12 HO12 HB12
  go_wp2_with (first | refine blk_alloc rfl 79 [.string ⟨#[]⟩, .bool false] rfl Tryd.info_rrd ?_)
  intro w14 K14 B14 Z14
  go_wp2_with (first | refine blk_store rfl 79 _ _ rfl w13.heap.size rfl [.string r4, .bool true] rfl _ K14 rfl Tryd.size_rrd rfl ?_)
  intro w15 K15 U15
  have HO15 : Hid (Blk w15 w.heap.size zeroTok) := (Blk.below HO13.out B14 (by omega)).upd U15 (by omega)
  have HR15 : Hid (Blk w15 w13.heap.size [.string r4, .bool true]) := K15
  have HB15 : Hid (Below w.heap.size w w15) := Below.trans HB13.out ((B14.mono (by omega)).trans (U15.below (by omega)))
  have y15 : w15.heap.size = w13.heap.size + 1 := by have := U15.size; omega
  obtain ⟨bk15, hbk15⟩ : ∃ b, w13.heap.size = b := ⟨_, rfl⟩
  rw [hbk15] at HR15 y15
  rw [hbk15]
  have q15 : bk15 < w15.heap.size := by omega
  have o15 : w.heap.size < bk15 := by omega
  clear K14 B14 Z14 K15 U15 HO13 HB13 hbk15 z13 y15 q12
  go_wp2_with (first | refine blk_alloc rfl 44 zeroTok rfl Tryd.info_rtok ?_)
  intro w16 K16 B16 Z16
  go_wp2_with (first | refine blk_store rfl 44 _ _ rfl w15.heap.size rfl [.int .i64 (n1 : Int), .string t, .int .i64 (n3 : Int), .int .u64 (n4 : Int)] rfl _ K16 rfl Tryd.size_rtok rfl ?_)
  intro w17 K17 U17
  have HO17 : Hid (Blk w17 w.heap.size zeroTok) := (Blk.below HO15.out B16 (by omega)).upd U17 (by omega)
  have HR17 : Hid (Blk w17 bk15 [.string r4, .bool true]) := (Blk.below HR15.out B16 (by omega)).upd U17 (by omega)
  have HV17 : Hid (Blk w17 w15.heap.size [.int .i64 (n1 : Int), .string t, .int .i64 (n3 : Int), .int .u64 (n4 : Int)]) := K17
  have HB17 : Hid (Below w.heap.size w w17) := Below.trans HB15.out ((B16.mono (by omega)).trans (U17.below (by omega)))
  have y17 : w17.heap.size = w15.heap.size + 1 := by have := U17.size; omega
  obtain ⟨bt, hbt⟩ : ∃ b, w15.heap.size = b := ⟨_, rfl⟩
  rw [hbt] at HV17 y17
  rw [hbt]
  have ot : w.heap.size < bt := by omega
  clear K16 B16 Z16 K17 U17 HO15 HR15 HB15 hbt v1 v3
  have f1 : w17.cell? ⟨bk15, 1, none⟩ = some (.bool true) := Blk.cell HR17.out 1 _ rfl
  go_wp2_with (first | refine blk_store rfl 44 _ _ rfl w.heap.size rfl zeroTok rfl _ HO17.out rfl Tryd.size_rtok rfl ?_)
  intro w20 K20 U20
  have HK20 : Hid (Blk w20 w.heap.size zeroTok) := K20
  have HB20 : Hid (Below w.heap.size w w20) := Below.trans HB17.out (U20.below (Nat.le_refl _))
  clear K20 U20
  go_wp2_with fail
  exact bodyPost_ret (v := .tuple #[.agg zeroTok.toArray, .int .i64 8]) (res_blk2 Tryd.results35 _ w.heap.size rfl zeroTok HK20.out _ Tryd.underlying44 rfl Tryd.size_rtok) rfl ⟨rfl, HB20.out⟩
set_option maxHeartbeats 4000000 in
set_option maxRecDepth 100000 in
theorem ref_open_late (k s : ByteArray) (now n1 n3 n4 : Nat) (t r1 r2 r3 r4 : ByteArray) (b1 b2 b3 : Bool) (w : World) (hk : k.size ≤ 140737488355000) (hs : s.size ≤ 100)
    (h1 : P.RN s false 1 = (n1, r1, b1)) (h2 : P.RT r1 b1 16 = (t, r2, b2)) (h3 : P.RN r2 b2 1 = (n3, r3, b3)) (h4 : P.RN r3 b3 8 = (n4, r4, false))
    (hn1 : n1 < 256) (hn3 : n3 < 256) (hn4 : n4 < 2 ^ 64) (ht : t.size ≤ 140737488355000) (hL : n4 ≤ now) :
    Calls Tryd.prog 35 #[.string k, .string s, .int .u64 (now : Int)] w fun e w' => e = .returned (.tuple #[.agg zeroTok.toArray, .int .i64 8]) ∧ Below w.heap.size w w' := by
  have l1 := rn_le _ _ _ _ _ _ h1
  have l2 := rt_le _ _ _ _ _ _ h2
  have l3 := rn_le _ _ _ _ _ _ h3
  have C1 : Hid _ := fun w => Pk.ref_rnumber_any s false 1 n1 r1 b1 w (by unfold maxLen; omega) h1
  have C2 : Hid _ := fun w => Pk.ref_rtext_any r1 b1 16 t r2 b2 w (by unfold maxLen; omega) (by omega) h2
  have C3 : Hid _ := fun w => Pk.ref_rnumber_any r2 b2 1 n3 r3 b3 w (by unfold maxLen; omega) h3
  have C4 : Hid _ := fun w => Pk.ref_rnumber_any r3 b3 8 n4 r4 false w (by unfold maxLen; omega) h4
  have his : ¬ (100 : Int) < (s.size : Int) := by omega
  have v1 : IntKind.i64.wrap (n1 : Int) = n1 := IntWalk.i64_in _ ⟨by omega, by omega⟩
  have v3 : IntKind.i64.wrap (n3 : Int) = n3 := IntWalk.i64_in _ ⟨by omega, by omega⟩
  have d1 : decide ((n4 : Int) ≤ (now : Int)) = true := by rw [decide_eq_true_iff]; omega
  clear h1 h2 h3 h4 l1 l2 l3
  go_enter Tryd.func35, Tryd.ntmps35
  go_wp2_with (first | refine blk_alloc rfl 44 zeroTok rfl Tryd.info_rtok ?_)
  intro w1 K1 B1 Z1
  go_wp2_with (first | refine blk_alloc rfl 79 [.string ⟨#[]⟩, .bool false] rfl Tryd.info_rrd ?_)
  intro w2 K2' B2 Z2
  have K2 : Blk w2 (w.heap.size + 1) [.string ⟨#[]⟩, .bool false] := by first | exact K2' | (rw [← Z1]; exact K2')
  go_wp2_with (first | refine blk_store rfl 79 _ _ rfl (w.heap.size + 1) rfl [.string s, .bool false] rfl _ K2 rfl Tryd.size_rrd rfl ?_)
  intro w3 K3 U3
  have HO3 : Hid (Blk w3 w.heap.size zeroTok) := (K1.below B2 (by omega)).upd U3 (by omega)
  have HR3 : Hid (Blk w3 (w.heap.size + 1) [.string s, .bool false]) := K3
  have HB3 : Hid (Below w.heap.size w w3) := B1.trans ((B2.mono (by omega)).trans (U3.below (by omega)))
  have q3 : w.heap.size + 1 < w3.heap.size := by have := U3.size; omega
  clear K1 B1 Z1 K2' K2 B2 Z2 K3 U3 his
  go_wp2_with (first | refine blk_load rfl 79 _ rfl (w.heap.size + 1) rfl [.string s, .bool false] HR3.out _ Tryd.underlying79 rfl Tryd.size_rrd ?_)
  refine (C1.out _).mono ?_; rintro e w4 ⟨rfl, hb4⟩
  have z4 := hb4.size
  have HO4 : Hid (Blk w4 w.heap.size zeroTok) := Blk.below HO3.out hb4 (by omega)
  have HB4 : Hid (Below w.heap.size w w4) := Below.trans HB3.out (hb4.mono HB3.out.size)
  clear hb4 HR3 HO3 HB3
  go_wp2_with (first | refine blk_alloc rfl 79 [.string ⟨#[]⟩, .bool false] rfl Tryd.info_rrd ?_)
  intro w5 K5 B5 Z5
  go_wp2_with (first | refine blk_store rfl 79 _ _ rfl w4.heap.size rfl [.string r1, .bool b1] rfl _ K5 rfl Tryd.size_rrd rfl ?_)
  intro w6 K6 U6
  have HO6 : Hid (Blk w6 w.heap.size zeroTok) := (Blk.below HO4.out B5 (by omega)).upd U6 (by omega)
  have HR6 : Hid (Blk w6 w4.heap.size [.string r1, .bool b1]) := K6
  have HB6 : Hid (Below w.heap.size w w6) := Below.trans HB4.out ((B5.mono (by omega)).trans (U6.below (by omega)))
  have y6 : w6.heap.size = w4.heap.size + 1 := by have := U6.size; omega
  obtain ⟨bk6, hbk6⟩ : ∃ b, w4.heap.size = b := ⟨_, rfl⟩
  rw [hbk6] at HR6 y6
  rw [hbk6]
  have q6 : bk6 < w6.heap.size := by omega
  have o6 : w.heap.size < bk6 := by omega
  clear K5 B5 Z5 K6 U6 HO4 HB4 hbk6 z4 y6 q3
  go_wp2_with (first | refine blk_load rfl 79 _ rfl bk6 rfl [.string r1, .bool b1] HR6.out _ Tryd.underlying79 rfl Tryd.size_rrd ?_)
  refine (C2.out _).mono ?_; rintro e w7 ⟨rfl, hb7⟩
  have z7 := hb7.size
  have HO7 : Hid (Blk w7 w.heap.size zeroTok) := Blk.below HO6.out hb7 (by omega)
  have HB7 : Hid (Below w.heap.size w w7) := Below.trans HB6.out (hb7.mono HB6.out.size)
  clear hb7 HR6 HO6 HB6
  go_wp2_with (first | refine blk_alloc rfl 79 [.string ⟨#[]⟩, .bool false] rfl Tryd.info_rrd ?_)
  intro w8 K8 B8 Z8
  go_wp2_with (first | refine blk_store rfl 79 _ _ rfl w7.heap.size rfl [.string r2, .bool b2] rfl _ K8 rfl Tryd.size_rrd rfl ?_)
  intro w9 K9 U9
  have HO9 : Hid (Blk w9 w.heap.size zeroTok) := (Blk.below HO7.out B8 (by omega)).upd U9 (by omega)
  have HR9 : Hid (Blk w9 w7.heap.size [.string r2, .bool b2]) := K9
  have HB9 : Hid (Below w.heap.size w w9) := Below.trans HB7.out ((B8.mono (by omega)).trans (U9.below (by omega)))
  have y9 : w9.heap.size = w7.heap.size + 1 := by have := U9.size; omega
  obtain ⟨bk9, hbk9⟩ : ∃ b, w7.heap.size = b := ⟨_, rfl⟩
  rw [hbk9] at HR9 y9
  rw [hbk9]
  have q9 : bk9 < w9.heap.size := by omega
  have o9 : w.heap.size < bk9 := by omega
  clear K8 B8 Z8 K9 U9 HO7 HB7 hbk9 z7 y9 q6
  go_wp2_with (first | refine blk_load rfl 79 _ rfl bk9 rfl [.string r2, .bool b2] HR9.out _ Tryd.underlying79 rfl Tryd.size_rrd ?_)
  refine (C3.out _).mono ?_; rintro e w10 ⟨rfl, hb10⟩
  have z10 := hb10.size
  have HO10 : Hid (Blk w10 w.heap.size zeroTok) := Blk.below HO9.out hb10 (by omega)
  have HB10 : Hid (Below w.heap.size w w10) := Below.trans HB9.out (hb10.mono HB9.out.size)
  clear hb10 HR9 HO9 HB9
  go_wp2_with (first | refine blk_alloc rfl 79 [.string ⟨#[]⟩, .bool false] rfl Tryd.info_rrd ?_)
  intro w11 K11 B11 Z11
  go_wp2_with (first | refine blk_store rfl 79 _ _ rfl w10.heap.size rfl [.string r3, .bool b3] rfl _ K11 rfl Tryd.size_rrd rfl ?_)
  intro w12 K12 U12
  have HO12 : Hid (Blk w12 w.heap.size zeroTok) := (Blk.below HO10.out B11 (by omega)).upd U12 (by omega)
  have HR12 : Hid (Blk w12 w10.heap.size [.string r3, .bool b3]) := K12
  have HB12 : Hid (Below w.heap.size w w12) := Below.trans HB10.out ((B11.mono (by omega)).trans (U12.below (by omega)))
  have y12 : w12.heap.size = w10.heap.size + 1 := by have := U12.size; omega
  obtain ⟨bk12, hbk12⟩ : ∃ b, w10.heap.size = b := ⟨_, rfl⟩
  rw [hbk12] at HR12 y12
  rw [hbk12]
  have q12 : bk12 < w12.heap.size := by omega
  have o12 : w.heap.size < bk12 := by omega
  clear K11 B11 Z11 K12 U12 HO10 HB10 hbk12 z10 y12 q9
  go_wp2_with (first | refine blk_load rfl 79 _ rfl bk12 rfl [.string r3, .bool b3] HR12.out _ Tryd.underlying79 rfl Tryd.size_rrd ?_)
  refine (C4.out _).mono ?_; rintro e w13 ⟨rfl, hb13⟩
  have z13 := hb13.size
  have HO13 : Hid (Blk w13 w.heap.size zeroTok) := Blk.below HO12.out hb13 (by omega)
  have HB13 : Hid (Below w.heap.size w w13) := Below.trans HB12.out (hb13.mono HB12.out.size)
  clear hb13 HR12 HO12 HB12
  go_wp2_with (first | refine blk_alloc rfl 79 [.string ⟨#[]⟩, .bool false] rfl Tryd.info_rrd ?_)
  intro w14 K14 B14 Z14
  go_wp2_with (first | refine blk_store rfl 79 _ _ rfl w13.heap.size rfl [.string r4, .bool false] rfl _ K14 rfl Tryd.size_rrd rfl ?_)
  intro w15 K15 U15
  have HO15 : Hid (Blk w15 w.heap.size zeroTok) := (Blk.below HO13.out B14 (by omega)).upd U15 (by omega)
  have HR15 : Hid (Blk w15 w13.heap.size [.string r4, .bool false]) := K15
  have HB15 : Hid (Below w.heap.size w w15) := Below.trans HB13.out ((B14.mono (by omega)).trans (U15.below (by omega)))
  have y15 : w15.heap.size = w13.heap.size + 1 := by have := U15.size; omega
  obtain ⟨bk15, hbk15⟩ : ∃ b, w13.heap.size = b := ⟨_, rfl⟩
  rw [hbk15] at HR15 y15
  rw [hbk15]
  have q15 : bk15 < w15.heap.size := by omega
  have o15 : w.heap.size < bk15 := by omega
  clear K14 B14 Z14 K15 U15 HO13 HB13 hbk15 z13 y15 q12
  go_wp2_with (first | refine blk_alloc rfl 44 zeroTok rfl Tryd.info_rtok ?_)
  intro w16 K16 B16 Z16
  go_wp2_with (first | refine blk_store rfl 44 _ _ rfl w15.heap.size rfl [.int .i64 (n1 : Int), .string t, .int .i64 (n3 : Int), .int .u64 (n4 : Int)] rfl _ K16 rfl Tryd.size_rtok rfl ?_)
  intro w17 K17 U17
  have HO17 : Hid (Blk w17 w.heap.size zeroTok) := (Blk.below HO15.out B16 (by omega)).upd U17 (by omega)
  have HR17 : Hid (Blk w17 bk15 [.string r4, .bool false]) := (Blk.below HR15.out B16 (by omega)).upd U17 (by omega)
  have HV17 : Hid (Blk w17 w15.heap.size [.int .i64 (n1 : Int), .string t, .int .i64 (n3 : Int), .int .u64 (n4 : Int)]) := K17
  have HB17 : Hid (Below w.heap.size w w17) := Below.trans HB15.out ((B16.mono (by omega)).trans (U17.below (by omega)))
  have y17 : w17.heap.size = w15.heap.size + 1 := by have := U17.size; omega
  obtain ⟨bt, hbt⟩ : ∃ b, w15.heap.size = b := ⟨_, rfl⟩
  rw [hbt] at HV17 y17
  rw [hbt]
  have ot : w.heap.size < bt := by omega
  clear K16 B16 Z16 K17 U17 HO15 HR15 HB15 hbt v1 v3
  have f1 : w17.cell? ⟨bk15, 1, none⟩ = some (.bool false) := Blk.cell HR17.out 1 _ rfl
  go_wp2_with (first | refine blk_store rfl 44 _ _ rfl w.heap.size rfl zeroTok rfl _ HO17.out rfl Tryd.size_rtok rfl ?_)
  intro w20 K20 U20
  have HK20 : Hid (Blk w20 w.heap.size zeroTok) := K20
  have HB20 : Hid (Below w.heap.size w w20) := Below.trans HB17.out (U20.below (Nat.le_refl _))
  clear K20 U20
  go_wp2_with fail
  exact bodyPost_ret (v := .tuple #[.agg zeroTok.toArray, .int .i64 8]) (res_blk2 Tryd.results35 _ w.heap.size rfl zeroTok HK20.out _ Tryd.underlying44 rfl Tryd.size_rtok) rfl ⟨rfl, HB20.out⟩
set_option maxHeartbeats 4000000 in
set_option maxRecDepth 100000 in
theorem ref_open_wrong (k s : ByteArray) (now n1 n3 n4 : Nat) (t r1 r2 r3 r4 : ByteArray) (b1 b2 b3 : Bool) (w : World) (hk : k.size ≤ 140737488355000) (hs : s.size ≤ 100)
    (h1 : P.RN s false 1 = (n1, r1, b1)) (h2 : P.RT r1 b1 16 = (t, r2, b2)) (h3 : P.RN r2 b2 1 = (n3, r3, b3)) (h4 : P.RN r3 b3 8 = (n4, r4, false))
    (hn1 : n1 < 256) (hn3 : n3 < 256) (hn4 : n4 < 2 ^ 64) (ht : t.size ≤ 140737488355000) (hR : M.right (n1 : Int) t.size (n3 : Int) = false) (hL : now < n4) :
    Calls Tryd.prog 35 #[.string k, .string s, .int .u64 (now : Int)] w fun e w' => e = .returned (.tuple #[.agg zeroTok.toArray, .int .i64 8]) ∧ Below w.heap.size w w' := by
  have l1 := rn_le _ _ _ _ _ _ h1
  have l2 := rt_le _ _ _ _ _ _ h2
  have l3 := rn_le _ _ _ _ _ _ h3
  have C1 : Hid _ := fun w => Pk.ref_rnumber_any s false 1 n1 r1 b1 w (by unfold maxLen; omega) h1
  have C2 : Hid _ := fun w => Pk.ref_rtext_any r1 b1 16 t r2 b2 w (by unfold maxLen; omega) (by omega) h2
  have C3 : Hid _ := fun w => Pk.ref_rnumber_any r2 b2 1 n3 r3 b3 w (by unfold maxLen; omega) h3
  have C4 : Hid _ := fun w => Pk.ref_rnumber_any r3 b3 8 n4 r4 false w (by unfold maxLen; omega) h4
  have his : ¬ (100 : Int) < (s.size : Int) := by omega
  have v1 : IntKind.i64.wrap (n1 : Int) = n1 := IntWalk.i64_in _ ⟨by omega, by omega⟩
  have v3 : IntKind.i64.wrap (n3 : Int) = n3 := IntWalk.i64_in _ ⟨by omega, by omega⟩
  have d1 : decide ((n4 : Int) ≤ (now : Int)) = false := by rw [decide_eq_false_iff_not]; omega
  have CM : Hid _ := fun w => ref_mint_no k t (n1 : Int) (n3 : Int) n4 w (by omega) hR
  clear hR
  clear h1 h2 h3 h4 l1 l2 l3
  go_enter Tryd.func35, Tryd.ntmps35
  go_wp2_with (first | refine blk_alloc rfl 44 zeroTok rfl Tryd.info_rtok ?_)
  intro w1 K1 B1 Z1
  go_wp2_with (first | refine blk_alloc rfl 79 [.string ⟨#[]⟩, .bool false] rfl Tryd.info_rrd ?_)
  intro w2 K2' B2 Z2
  have K2 : Blk w2 (w.heap.size + 1) [.string ⟨#[]⟩, .bool false] := by first | exact K2' | (rw [← Z1]; exact K2')
  go_wp2_with (first | refine blk_store rfl 79 _ _ rfl (w.heap.size + 1) rfl [.string s, .bool false] rfl _ K2 rfl Tryd.size_rrd rfl ?_)
  intro w3 K3 U3
  have HO3 : Hid (Blk w3 w.heap.size zeroTok) := (K1.below B2 (by omega)).upd U3 (by omega)
  have HR3 : Hid (Blk w3 (w.heap.size + 1) [.string s, .bool false]) := K3
  have HB3 : Hid (Below w.heap.size w w3) := B1.trans ((B2.mono (by omega)).trans (U3.below (by omega)))
  have q3 : w.heap.size + 1 < w3.heap.size := by have := U3.size; omega
  clear K1 B1 Z1 K2' K2 B2 Z2 K3 U3 his
  go_wp2_with (first | refine blk_load rfl 79 _ rfl (w.heap.size + 1) rfl [.string s, .bool false] HR3.out _ Tryd.underlying79 rfl Tryd.size_rrd ?_)
  refine (C1.out _).mono ?_; rintro e w4 ⟨rfl, hb4⟩
  have z4 := hb4.size
  have HO4 : Hid (Blk w4 w.heap.size zeroTok) := Blk.below HO3.out hb4 (by omega)
  have HB4 : Hid (Below w.heap.size w w4) := Below.trans HB3.out (hb4.mono HB3.out.size)
  clear hb4 HR3 HO3 HB3
  go_wp2_with (first | refine blk_alloc rfl 79 [.string ⟨#[]⟩, .bool false] rfl Tryd.info_rrd ?_)
  intro w5 K5 B5 Z5
  go_wp2_with (first | refine blk_store rfl 79 _ _ rfl w4.heap.size rfl [.string r1, .bool b1] rfl _ K5 rfl Tryd.size_rrd rfl ?_)
  intro w6 K6 U6
  have HO6 : Hid (Blk w6 w.heap.size zeroTok) := (Blk.below HO4.out B5 (by omega)).upd U6 (by omega)
  have HR6 : Hid (Blk w6 w4.heap.size [.string r1, .bool b1]) := K6
  have HB6 : Hid (Below w.heap.size w w6) := Below.trans HB4.out ((B5.mono (by omega)).trans (U6.below (by omega)))
  have y6 : w6.heap.size = w4.heap.size + 1 := by have := U6.size; omega
  obtain ⟨bk6, hbk6⟩ : ∃ b, w4.heap.size = b := ⟨_, rfl⟩
  rw [hbk6] at HR6 y6
  rw [hbk6]
  have q6 : bk6 < w6.heap.size := by omega
  have o6 : w.heap.size < bk6 := by omega
  clear K5 B5 Z5 K6 U6 HO4 HB4 hbk6 z4 y6 q3
  go_wp2_with (first | refine blk_load rfl 79 _ rfl bk6 rfl [.string r1, .bool b1] HR6.out _ Tryd.underlying79 rfl Tryd.size_rrd ?_)
  refine (C2.out _).mono ?_; rintro e w7 ⟨rfl, hb7⟩
  have z7 := hb7.size
  have HO7 : Hid (Blk w7 w.heap.size zeroTok) := Blk.below HO6.out hb7 (by omega)
  have HB7 : Hid (Below w.heap.size w w7) := Below.trans HB6.out (hb7.mono HB6.out.size)
  clear hb7 HR6 HO6 HB6
  go_wp2_with (first | refine blk_alloc rfl 79 [.string ⟨#[]⟩, .bool false] rfl Tryd.info_rrd ?_)
  intro w8 K8 B8 Z8
  go_wp2_with (first | refine blk_store rfl 79 _ _ rfl w7.heap.size rfl [.string r2, .bool b2] rfl _ K8 rfl Tryd.size_rrd rfl ?_)
  intro w9 K9 U9
  have HO9 : Hid (Blk w9 w.heap.size zeroTok) := (Blk.below HO7.out B8 (by omega)).upd U9 (by omega)
  have HR9 : Hid (Blk w9 w7.heap.size [.string r2, .bool b2]) := K9
  have HB9 : Hid (Below w.heap.size w w9) := Below.trans HB7.out ((B8.mono (by omega)).trans (U9.below (by omega)))
  have y9 : w9.heap.size = w7.heap.size + 1 := by have := U9.size; omega
  obtain ⟨bk9, hbk9⟩ : ∃ b, w7.heap.size = b := ⟨_, rfl⟩
  rw [hbk9] at HR9 y9
  rw [hbk9]
  have q9 : bk9 < w9.heap.size := by omega
  have o9 : w.heap.size < bk9 := by omega
  clear K8 B8 Z8 K9 U9 HO7 HB7 hbk9 z7 y9 q6
  go_wp2_with (first | refine blk_load rfl 79 _ rfl bk9 rfl [.string r2, .bool b2] HR9.out _ Tryd.underlying79 rfl Tryd.size_rrd ?_)
  refine (C3.out _).mono ?_; rintro e w10 ⟨rfl, hb10⟩
  have z10 := hb10.size
  have HO10 : Hid (Blk w10 w.heap.size zeroTok) := Blk.below HO9.out hb10 (by omega)
  have HB10 : Hid (Below w.heap.size w w10) := Below.trans HB9.out (hb10.mono HB9.out.size)
  clear hb10 HR9 HO9 HB9
  go_wp2_with (first | refine blk_alloc rfl 79 [.string ⟨#[]⟩, .bool false] rfl Tryd.info_rrd ?_)
  intro w11 K11 B11 Z11
  go_wp2_with (first | refine blk_store rfl 79 _ _ rfl w10.heap.size rfl [.string r3, .bool b3] rfl _ K11 rfl Tryd.size_rrd rfl ?_)
  intro w12 K12 U12
  have HO12 : Hid (Blk w12 w.heap.size zeroTok) := (Blk.below HO10.out B11 (by omega)).upd U12 (by omega)
  have HR12 : Hid (Blk w12 w10.heap.size [.string r3, .bool b3]) := K12
  have HB12 : Hid (Below w.heap.size w w12) := Below.trans HB10.out ((B11.mono (by omega)).trans (U12.below (by omega)))
  have y12 : w12.heap.size = w10.heap.size + 1 := by have := U12.size; omega
  obtain ⟨bk12, hbk12⟩ : ∃ b, w10.heap.size = b := ⟨_, rfl⟩
  rw [hbk12] at HR12 y12
  rw [hbk12]
  have q12 : bk12 < w12.heap.size := by omega
  have o12 : w.heap.size < bk12 := by omega
  clear K11 B11 Z11 K12 U12 HO10 HB10 hbk12 z10 y12 q9
  go_wp2_with (first | refine blk_load rfl 79 _ rfl bk12 rfl [.string r3, .bool b3] HR12.out _ Tryd.underlying79 rfl Tryd.size_rrd ?_)
  refine (C4.out _).mono ?_; rintro e w13 ⟨rfl, hb13⟩
  have z13 := hb13.size
  have HO13 : Hid (Blk w13 w.heap.size zeroTok) := Blk.below HO12.out hb13 (by omega)
  have HB13 : Hid (Below w.heap.size w w13) := Below.trans HB12.out (hb13.mono HB12.out.size)
  clear hb13 HR12 HO12 HB12
  go_wp2_with (first | refine blk_alloc rfl 79 [.string ⟨#[]⟩, .bool false] rfl Tryd.info_rrd ?_)
  intro w14 K14 B14 Z14
  go_wp2_with (first | refine blk_store rfl 79 _ _ rfl w13.heap.size rfl [.string r4, .bool false] rfl _ K14 rfl Tryd.size_rrd rfl ?_)
  intro w15 K15 U15
  have HO15 : Hid (Blk w15 w.heap.size zeroTok) := (Blk.below HO13.out B14 (by omega)).upd U15 (by omega)
  have HR15 : Hid (Blk w15 w13.heap.size [.string r4, .bool false]) := K15
  have HB15 : Hid (Below w.heap.size w w15) := Below.trans HB13.out ((B14.mono (by omega)).trans (U15.below (by omega)))
  have y15 : w15.heap.size = w13.heap.size + 1 := by have := U15.size; omega
  obtain ⟨bk15, hbk15⟩ : ∃ b, w13.heap.size = b := ⟨_, rfl⟩
  rw [hbk15] at HR15 y15
  rw [hbk15]
  have q15 : bk15 < w15.heap.size := by omega
  have o15 : w.heap.size < bk15 := by omega
  clear K14 B14 Z14 K15 U15 HO13 HB13 hbk15 z13 y15 q12
  go_wp2_with (first | refine blk_alloc rfl 44 zeroTok rfl Tryd.info_rtok ?_)
  intro w16 K16 B16 Z16
  go_wp2_with (first | refine blk_store rfl 44 _ _ rfl w15.heap.size rfl [.int .i64 (n1 : Int), .string t, .int .i64 (n3 : Int), .int .u64 (n4 : Int)] rfl _ K16 rfl Tryd.size_rtok rfl ?_)
  intro w17 K17 U17
  have HO17 : Hid (Blk w17 w.heap.size zeroTok) := (Blk.below HO15.out B16 (by omega)).upd U17 (by omega)
  have HR17 : Hid (Blk w17 bk15 [.string r4, .bool false]) := (Blk.below HR15.out B16 (by omega)).upd U17 (by omega)
  have HV17 : Hid (Blk w17 w15.heap.size [.int .i64 (n1 : Int), .string t, .int .i64 (n3 : Int), .int .u64 (n4 : Int)]) := K17
  have HB17 : Hid (Below w.heap.size w w17) := Below.trans HB15.out ((B16.mono (by omega)).trans (U17.below (by omega)))
  have y17 : w17.heap.size = w15.heap.size + 1 := by have := U17.size; omega
  obtain ⟨bt, hbt⟩ : ∃ b, w15.heap.size = b := ⟨_, rfl⟩
  rw [hbt] at HV17 y17
  rw [hbt]
  have ot : w.heap.size < bt := by omega
  clear K16 B16 Z16 K17 U17 HO15 HR15 HB15 hbt v1 v3
  have f1 : w17.cell? ⟨bk15, 1, none⟩ = some (.bool false) := Blk.cell HR17.out 1 _ rfl
  go_wp2_with (first | refine blk_load rfl 44 _ rfl bt rfl [.int .i64 (n1 : Int), .string t, .int .i64 (n3 : Int), .int .u64 (n4 : Int)] HV17.out _ Tryd.underlying44 rfl Tryd.size_rtok ?_)
  refine (CM.out _).mono ?_; rintro e w18 ⟨rfl, hb18⟩
  have z18 := hb18.size
  have HO18 : Hid (Blk w18 w.heap.size zeroTok) := Blk.below HO17.out hb18 (by omega)
  have HV18 : Hid (Blk w18 bt [.int .i64 (n1 : Int), .string t, .int .i64 (n3 : Int), .int .u64 (n4 : Int)]) := Blk.below HV17.out hb18 (by omega)
  have HB18 : Hid (Below w.heap.size w w18) := Below.trans HB17.out (hb18.mono HB17.out.size)
  clear hb18 HO17 HV17 HB17 HR17 f1 d1
  go_wp2_with (first | refine blk_store rfl 44 _ _ rfl w.heap.size rfl zeroTok rfl _ HO18.out rfl Tryd.size_rtok rfl ?_)
  intro w20 K20 U20
  have HK20 : Hid (Blk w20 w.heap.size zeroTok) := K20
  have HB20 : Hid (Below w.heap.size w w20) := Below.trans HB18.out (U20.below (Nat.le_refl _))
  clear K20 U20
  go_wp2_with fail
  exact bodyPost_ret (v := .tuple #[.agg zeroTok.toArray, .int .i64 8]) (res_blk2 Tryd.results35 _ w.heap.size rfl zeroTok HK20.out _ Tryd.underlying44 rfl Tryd.size_rtok) rfl ⟨rfl, HB20.out⟩
set_option maxHeartbeats 4000000 in
set_option maxRecDepth 100000 in
theorem ref_open_other (k s : ByteArray) (now n1 n3 n4 : Nat) (t r1 r2 r3 r4 : ByteArray) (b1 b2 b3 : Bool) (w : World) (hk : k.size ≤ 140737488355000) (hs : s.size ≤ 100)
    (h1 : P.RN s false 1 = (n1, r1, b1)) (h2 : P.RT r1 b1 16 = (t, r2, b2)) (h3 : P.RN r2 b2 1 = (n3, r3, b3)) (h4 : P.RN r3 b3 8 = (n4, r4, false))
    (hn1 : n1 < 256) (hn3 : n3 < 256) (hn4 : n4 < 2 ^ 64) (ht : t.size ≤ 140737488355000) (hR : M.right (n1 : Int) t.size (n3 : Int) = true) (hL : now < n4) (hZ : ¬ S (M.plain n1 t.data.toList n3 n4 ++ M.hmac k.data.toList (M.plain n1 t.data.toList n3 n4)) = s) :
    Calls Tryd.prog 35 #[.string k, .string s, .int .u64 (now : Int)] w fun e w' => e = .returned (.tuple #[.agg zeroTok.toArray, .int .i64 8]) ∧ Below w.heap.size w w' := by
  have l1 := rn_le _ _ _ _ _ _ h1
  have l2 := rt_le _ _ _ _ _ _ h2
  have l3 := rn_le _ _ _ _ _ _ h3
  have C1 : Hid _ := fun w => Pk.ref_rnumber_any s false 1 n1 r1 b1 w (by unfold maxLen; omega) h1
  have C2 : Hid _ := fun w => Pk.ref_rtext_any r1 b1 16 t r2 b2 w (by unfold maxLen; omega) (by omega) h2
  have C3 : Hid _ := fun w => Pk.ref_rnumber_any r2 b2 1 n3 r3 b3 w (by unfold maxLen; omega) h3
  have C4 : Hid _ := fun w => Pk.ref_rnumber_any r3 b3 8 n4 r4 false w (by unfold maxLen; omega) h4
  have his : ¬ (100 : Int) < (s.size : Int) := by omega
  have v1 : IntKind.i64.wrap (n1 : Int) = n1 := IntWalk.i64_in _ ⟨by omega, by omega⟩
  have v3 : IntKind.i64.wrap (n3 : Int) = n3 := IntWalk.i64_in _ ⟨by omega, by omega⟩
  have d1 : decide ((n4 : Int) ≤ (now : Int)) = false := by rw [decide_eq_false_iff_not]; omega
  have CM : Hid _ := fun w => ref_mint_yes k t n1 n3 n4 w hk (right_of hR).1 (right_of hR).2.1 (right_of hR).2.2.1 (right_of hR).2.2.2.1 (right_of hR).2.2.2.2.1 (right_of hR).2.2.2.2.2 hn4
  generalize S (M.plain n1 t.data.toList n3 n4 ++ M.hmac k.data.toList (M.plain n1 t.data.toList n3 n4)) = again at *
  clear hR
  have d2 : (again.toList == s.toList) = false := by rw [tol_eq, decide_eq_false_iff_not]; exact hZ
  clear hZ
  clear h1 h2 h3 h4 l1 l2 l3
  go_enter Tryd.func35, Tryd.ntmps35
  go_wp2_with (first | refine blk_alloc rfl 44 zeroTok rfl Tryd.info_rtok ?_)
  intro w1 K1 B1 Z1
  go_wp2_with (first | refine blk_alloc rfl 79 [.string ⟨#[]⟩, .bool false] rfl Tryd.info_rrd ?_)
  intro w2 K2' B2 Z2
  have K2 : Blk w2 (w.heap.size + 1) [.string ⟨#[]⟩, .bool false] := by first | exact K2' | (rw [← Z1]; exact K2')
  go_wp2_with (first | refine blk_store rfl 79 _ _ rfl (w.heap.size + 1) rfl [.string s, .bool false] rfl _ K2 rfl Tryd.size_rrd rfl ?_)
  intro w3 K3 U3
  have HO3 : Hid (Blk w3 w.heap.size zeroTok) := (K1.below B2 (by omega)).upd U3 (by omega)
  have HR3 : Hid (Blk w3 (w.heap.size + 1) [.string s, .bool false]) := K3
  have HB3 : Hid (Below w.heap.size w w3) := B1.trans ((B2.mono (by omega)).trans (U3.below (by omega)))
  have q3 : w.heap.size + 1 < w3.heap.size := by have := U3.size; omega
  clear K1 B1 Z1 K2' K2 B2 Z2 K3 U3 his
  go_wp2_with (first | refine blk_load rfl 79 _ rfl (w.heap.size + 1) rfl [.string s, .bool false] HR3.out _ Tryd.underlying79 rfl Tryd.size_rrd ?_)
  refine (C1.out _).mono ?_; rintro e w4 ⟨rfl, hb4⟩
  have z4 := hb4.size
  have HO4 : Hid (Blk w4 w.heap.size zeroTok) := Blk.below HO3.out hb4 (by omega)
  have HB4 : Hid (Below w.heap.size w w4) := Below.trans HB3.out (hb4.mono HB3.out.size)
  clear hb4 HR3 HO3 HB3
  go_wp2_with (first | refine blk_alloc rfl 79 [.string ⟨#[]⟩, .bool false] rfl Tryd.info_rrd ?_)
  intro w5 K5 B5 Z5
  go_wp2_with (first | refine blk_store rfl 79 _ _ rfl w4.heap.size rfl [.string r1, .bool b1] rfl _ K5 rfl Tryd.size_rrd rfl ?_)
  intro w6 K6 U6
  have HO6 : Hid (Blk w6 w.heap.size zeroTok) := (Blk.below HO4.out B5 (by omega)).upd U6 (by omega)
  have HR6 : Hid (Blk w6 w4.heap.size [.string r1, .bool b1]) := K6
  have HB6 : Hid (Below w.heap.size w w6) := Below.trans HB4.out ((B5.mono (by omega)).trans (U6.below (by omega)))
  have y6 : w6.heap.size = w4.heap.size + 1 := by have := U6.size; omega
  obtain ⟨bk6, hbk6⟩ : ∃ b, w4.heap.size = b := ⟨_, rfl⟩
  rw [hbk6] at HR6 y6
  rw [hbk6]
  have q6 : bk6 < w6.heap.size := by omega
  have o6 : w.heap.size < bk6 := by omega
  clear K5 B5 Z5 K6 U6 HO4 HB4 hbk6 z4 y6 q3
  go_wp2_with (first | refine blk_load rfl 79 _ rfl bk6 rfl [.string r1, .bool b1] HR6.out _ Tryd.underlying79 rfl Tryd.size_rrd ?_)
  refine (C2.out _).mono ?_; rintro e w7 ⟨rfl, hb7⟩
  have z7 := hb7.size
  have HO7 : Hid (Blk w7 w.heap.size zeroTok) := Blk.below HO6.out hb7 (by omega)
  have HB7 : Hid (Below w.heap.size w w7) := Below.trans HB6.out (hb7.mono HB6.out.size)
  clear hb7 HR6 HO6 HB6
  go_wp2_with (first | refine blk_alloc rfl 79 [.string ⟨#[]⟩, .bool false] rfl Tryd.info_rrd ?_)
  intro w8 K8 B8 Z8
  go_wp2_with (first | refine blk_store rfl 79 _ _ rfl w7.heap.size rfl [.string r2, .bool b2] rfl _ K8 rfl Tryd.size_rrd rfl ?_)
  intro w9 K9 U9
  have HO9 : Hid (Blk w9 w.heap.size zeroTok) := (Blk.below HO7.out B8 (by omega)).upd U9 (by omega)
  have HR9 : Hid (Blk w9 w7.heap.size [.string r2, .bool b2]) := K9
  have HB9 : Hid (Below w.heap.size w w9) := Below.trans HB7.out ((B8.mono (by omega)).trans (U9.below (by omega)))
  have y9 : w9.heap.size = w7.heap.size + 1 := by have := U9.size; omega
  obtain ⟨bk9, hbk9⟩ : ∃ b, w7.heap.size = b := ⟨_, rfl⟩
  rw [hbk9] at HR9 y9
  rw [hbk9]
  have q9 : bk9 < w9.heap.size := by omega
  have o9 : w.heap.size < bk9 := by omega
  clear K8 B8 Z8 K9 U9 HO7 HB7 hbk9 z7 y9 q6
  go_wp2_with (first | refine blk_load rfl 79 _ rfl bk9 rfl [.string r2, .bool b2] HR9.out _ Tryd.underlying79 rfl Tryd.size_rrd ?_)
  refine (C3.out _).mono ?_; rintro e w10 ⟨rfl, hb10⟩
  have z10 := hb10.size
  have HO10 : Hid (Blk w10 w.heap.size zeroTok) := Blk.below HO9.out hb10 (by omega)
  have HB10 : Hid (Below w.heap.size w w10) := Below.trans HB9.out (hb10.mono HB9.out.size)
  clear hb10 HR9 HO9 HB9
  go_wp2_with (first | refine blk_alloc rfl 79 [.string ⟨#[]⟩, .bool false] rfl Tryd.info_rrd ?_)
  intro w11 K11 B11 Z11
  go_wp2_with (first | refine blk_store rfl 79 _ _ rfl w10.heap.size rfl [.string r3, .bool b3] rfl _ K11 rfl Tryd.size_rrd rfl ?_)
  intro w12 K12 U12
  have HO12 : Hid (Blk w12 w.heap.size zeroTok) := (Blk.below HO10.out B11 (by omega)).upd U12 (by omega)
  have HR12 : Hid (Blk w12 w10.heap.size [.string r3, .bool b3]) := K12
  have HB12 : Hid (Below w.heap.size w w12) := Below.trans HB10.out ((B11.mono (by omega)).trans (U12.below (by omega)))
  have y12 : w12.heap.size = w10.heap.size + 1 := by have := U12.size; omega
  obtain ⟨bk12, hbk12⟩ : ∃ b, w10.heap.size = b := ⟨_, rfl⟩
  rw [hbk12] at HR12 y12
  rw [hbk12]
  have q12 : bk12 < w12.heap.size := by omega
  have o12 : w.heap.size < bk12 := by omega
  clear K11 B11 Z11 K12 U12 HO10 HB10 hbk12 z10 y12 q9
  go_wp2_with (first | refine blk_load rfl 79 _ rfl bk12 rfl [.string r3, .bool b3] HR12.out _ Tryd.underlying79 rfl Tryd.size_rrd ?_)
  refine (C4.out _).mono ?_; rintro e w13 ⟨rfl, hb13⟩
  have z13 := hb13.size
  have HO13 : Hid (Blk w13 w.heap.size zeroTok) := Blk.below HO12.out hb13 (by omega)
  have HB13 : Hid (Below w.heap.size w w13) := Below.trans HB12.out (hb13.mono HB12.out.size)
  clear hb13 HR12 HO12 HB12
  go_wp2_with (first | refine blk_alloc rfl 79 [.string ⟨#[]⟩, .bool false] rfl Tryd.info_rrd ?_)
  intro w14 K14 B14 Z14
  go_wp2_with (first | refine blk_store rfl 79 _ _ rfl w13.heap.size rfl [.string r4, .bool false] rfl _ K14 rfl Tryd.size_rrd rfl ?_)
  intro w15 K15 U15
  have HO15 : Hid (Blk w15 w.heap.size zeroTok) := (Blk.below HO13.out B14 (by omega)).upd U15 (by omega)
  have HR15 : Hid (Blk w15 w13.heap.size [.string r4, .bool false]) := K15
  have HB15 : Hid (Below w.heap.size w w15) := Below.trans HB13.out ((B14.mono (by omega)).trans (U15.below (by omega)))
  have y15 : w15.heap.size = w13.heap.size + 1 := by have := U15.size; omega
  obtain ⟨bk15, hbk15⟩ : ∃ b, w13.heap.size = b := ⟨_, rfl⟩
  rw [hbk15] at HR15 y15
  rw [hbk15]
  have q15 : bk15 < w15.heap.size := by omega
  have o15 : w.heap.size < bk15 := by omega
  clear K14 B14 Z14 K15 U15 HO13 HB13 hbk15 z13 y15 q12
  go_wp2_with (first | refine blk_alloc rfl 44 zeroTok rfl Tryd.info_rtok ?_)
  intro w16 K16 B16 Z16
  go_wp2_with (first | refine blk_store rfl 44 _ _ rfl w15.heap.size rfl [.int .i64 (n1 : Int), .string t, .int .i64 (n3 : Int), .int .u64 (n4 : Int)] rfl _ K16 rfl Tryd.size_rtok rfl ?_)
  intro w17 K17 U17
  have HO17 : Hid (Blk w17 w.heap.size zeroTok) := (Blk.below HO15.out B16 (by omega)).upd U17 (by omega)
  have HR17 : Hid (Blk w17 bk15 [.string r4, .bool false]) := (Blk.below HR15.out B16 (by omega)).upd U17 (by omega)
  have HV17 : Hid (Blk w17 w15.heap.size [.int .i64 (n1 : Int), .string t, .int .i64 (n3 : Int), .int .u64 (n4 : Int)]) := K17
  have HB17 : Hid (Below w.heap.size w w17) := Below.trans HB15.out ((B16.mono (by omega)).trans (U17.below (by omega)))
  have y17 : w17.heap.size = w15.heap.size + 1 := by have := U17.size; omega
  obtain ⟨bt, hbt⟩ : ∃ b, w15.heap.size = b := ⟨_, rfl⟩
  rw [hbt] at HV17 y17
  rw [hbt]
  have ot : w.heap.size < bt := by omega
  clear K16 B16 Z16 K17 U17 HO15 HR15 HB15 hbt v1 v3
  have f1 : w17.cell? ⟨bk15, 1, none⟩ = some (.bool false) := Blk.cell HR17.out 1 _ rfl
  go_wp2_with (first | refine blk_load rfl 44 _ rfl bt rfl [.int .i64 (n1 : Int), .string t, .int .i64 (n3 : Int), .int .u64 (n4 : Int)] HV17.out _ Tryd.underlying44 rfl Tryd.size_rtok ?_)
  refine (CM.out _).mono ?_; rintro e w18 ⟨rfl, hb18⟩
  have z18 := hb18.size
  have HO18 : Hid (Blk w18 w.heap.size zeroTok) := Blk.below HO17.out hb18 (by omega)
  have HV18 : Hid (Blk w18 bt [.int .i64 (n1 : Int), .string t, .int .i64 (n3 : Int), .int .u64 (n4 : Int)]) := Blk.below HV17.out hb18 (by omega)
  have HB18 : Hid (Below w.heap.size w w18) := Below.trans HB17.out (hb18.mono HB17.out.size)
  clear hb18 HO17 HV17 HB17 HR17 f1 d1
  go_wp2_with (first | refine blk_store rfl 44 _ _ rfl w.heap.size rfl zeroTok rfl _ HO18.out rfl Tryd.size_rtok rfl ?_)
  intro w20 K20 U20
  have HK20 : Hid (Blk w20 w.heap.size zeroTok) := K20
  have HB20 : Hid (Below w.heap.size w w20) := Below.trans HB18.out (U20.below (Nat.le_refl _))
  clear K20 U20
  go_wp2_with fail
  exact bodyPost_ret (v := .tuple #[.agg zeroTok.toArray, .int .i64 8]) (res_blk2 Tryd.results35 _ w.heap.size rfl zeroTok HK20.out _ Tryd.underlying44 rfl Tryd.size_rtok) rfl ⟨rfl, HB20.out⟩
set_option maxHeartbeats 4000000 in
set_option maxRecDepth 100000 in
theorem ref_open_yes (k s : ByteArray) (now n1 n3 n4 : Nat) (t r1 r2 r3 r4 : ByteArray) (b1 b2 b3 : Bool) (w : World) (hk : k.size ≤ 140737488355000) (hs : s.size ≤ 100)
    (h1 : P.RN s false 1 = (n1, r1, b1)) (h2 : P.RT r1 b1 16 = (t, r2, b2)) (h3 : P.RN r2 b2 1 = (n3, r3, b3)) (h4 : P.RN r3 b3 8 = (n4, r4, false))
    (hn1 : n1 < 256) (hn3 : n3 < 256) (hn4 : n4 < 2 ^ 64) (ht : t.size ≤ 140737488355000) (hR : M.right (n1 : Int) t.size (n3 : Int) = true) (hL : now < n4) (hZ : S (M.plain n1 t.data.toList n3 n4 ++ M.hmac k.data.toList (M.plain n1 t.data.toList n3 n4)) = s) :
    Calls Tryd.prog 35 #[.string k, .string s, .int .u64 (now : Int)] w fun e w' => e = .returned (.tuple #[.agg [.int .i64 (n1 : Int), .string t, .int .i64 (n3 : Int), .int .u64 (n4 : Int)].toArray, .int .i64 0]) ∧ Below w.heap.size w w' := by
  have l1 := rn_le _ _ _ _ _ _ h1
  have l2 := rt_le _ _ _ _ _ _ h2
  have l3 := rn_le _ _ _ _ _ _ h3
  have C1 : Hid _ := fun w => Pk.ref_rnumber_any s false 1 n1 r1 b1 w (by unfold maxLen; omega) h1
  have C2 : Hid _ := fun w => Pk.ref_rtext_any r1 b1 16 t r2 b2 w (by unfold maxLen; omega) (by omega) h2
  have C3 : Hid _ := fun w => Pk.ref_rnumber_any r2 b2 1 n3 r3 b3 w (by unfold maxLen; omega) h3
  have C4 : Hid _ := fun w => Pk.ref_rnumber_any r3 b3 8 n4 r4 false w (by unfold maxLen; omega) h4
  have his : ¬ (100 : Int) < (s.size : Int) := by omega
  have v1 : IntKind.i64.wrap (n1 : Int) = n1 := IntWalk.i64_in _ ⟨by omega, by omega⟩
  have v3 : IntKind.i64.wrap (n3 : Int) = n3 := IntWalk.i64_in _ ⟨by omega, by omega⟩
  have d1 : decide ((n4 : Int) ≤ (now : Int)) = false := by rw [decide_eq_false_iff_not]; omega
  have CM : Hid _ := fun w => ref_mint_yes k t n1 n3 n4 w hk (right_of hR).1 (right_of hR).2.1 (right_of hR).2.2.1 (right_of hR).2.2.2.1 (right_of hR).2.2.2.2.1 (right_of hR).2.2.2.2.2 hn4
  generalize S (M.plain n1 t.data.toList n3 n4 ++ M.hmac k.data.toList (M.plain n1 t.data.toList n3 n4)) = again at *
  clear hR
  have d2 : (again.toList == s.toList) = true := by rw [tol_eq, decide_eq_true_iff]; exact hZ
  clear hZ
  clear h1 h2 h3 h4 l1 l2 l3
  go_enter Tryd.func35, Tryd.ntmps35
  go_wp2_with (first | refine blk_alloc rfl 44 zeroTok rfl Tryd.info_rtok ?_)
  intro w1 K1 B1 Z1
  go_wp2_with (first | refine blk_alloc rfl 79 [.string ⟨#[]⟩, .bool false] rfl Tryd.info_rrd ?_)
  intro w2 K2' B2 Z2
  have K2 : Blk w2 (w.heap.size + 1) [.string ⟨#[]⟩, .bool false] := by first | exact K2' | (rw [← Z1]; exact K2')
  go_wp2_with (first | refine blk_store rfl 79 _ _ rfl (w.heap.size + 1) rfl [.string s, .bool false] rfl _ K2 rfl Tryd.size_rrd rfl ?_)
  intro w3 K3 U3
  have HO3 : Hid (Blk w3 w.heap.size zeroTok) := (K1.below B2 (by omega)).upd U3 (by omega)
  have HR3 : Hid (Blk w3 (w.heap.size + 1) [.string s, .bool false]) := K3
  have HB3 : Hid (Below w.heap.size w w3) := B1.trans ((B2.mono (by omega)).trans (U3.below (by omega)))
  have q3 : w.heap.size + 1 < w3.heap.size := by have := U3.size; omega
  clear K1 B1 Z1 K2' K2 B2 Z2 K3 U3 his
  go_wp2_with (first | refine blk_load rfl 79 _ rfl (w.heap.size + 1) rfl [.string s, .bool false] HR3.out _ Tryd.underlying79 rfl Tryd.size_rrd ?_)
  refine (C1.out _).mono ?_; rintro e w4 ⟨rfl, hb4⟩
  have z4 := hb4.size
  have HO4 : Hid (Blk w4 w.heap.size zeroTok) := Blk.below HO3.out hb4 (by omega)
  have HB4 : Hid (Below w.heap.size w w4) := Below.trans HB3.out (hb4.mono HB3.out.size)
  clear hb4 HR3 HO3 HB3
  go_wp2_with (first | refine blk_alloc rfl 79 [.string ⟨#[]⟩, .bool false] rfl Tryd.info_rrd ?_)
  intro w5 K5 B5 Z5
  go_wp2_with (first | refine blk_store rfl 79 _ _ rfl w4.heap.size rfl [.string r1, .bool b1] rfl _ K5 rfl Tryd.size_rrd rfl ?_)
  intro w6 K6 U6
  have HO6 : Hid (Blk w6 w.heap.size zeroTok) := (Blk.below HO4.out B5 (by omega)).upd U6 (by omega)
  have HR6 : Hid (Blk w6 w4.heap.size [.string r1, .bool b1]) := K6
  have HB6 : Hid (Below w.heap.size w w6) := Below.trans HB4.out ((B5.mono (by omega)).trans (U6.below (by omega)))
  have y6 : w6.heap.size = w4.heap.size + 1 := by have := U6.size; omega
  obtain ⟨bk6, hbk6⟩ : ∃ b, w4.heap.size = b := ⟨_, rfl⟩
  rw [hbk6] at HR6 y6
  rw [hbk6]
  have q6 : bk6 < w6.heap.size := by omega
  have o6 : w.heap.size < bk6 := by omega
  clear K5 B5 Z5 K6 U6 HO4 HB4 hbk6 z4 y6 q3
  go_wp2_with (first | refine blk_load rfl 79 _ rfl bk6 rfl [.string r1, .bool b1] HR6.out _ Tryd.underlying79 rfl Tryd.size_rrd ?_)
  refine (C2.out _).mono ?_; rintro e w7 ⟨rfl, hb7⟩
  have z7 := hb7.size
  have HO7 : Hid (Blk w7 w.heap.size zeroTok) := Blk.below HO6.out hb7 (by omega)
  have HB7 : Hid (Below w.heap.size w w7) := Below.trans HB6.out (hb7.mono HB6.out.size)
  clear hb7 HR6 HO6 HB6
  go_wp2_with (first | refine blk_alloc rfl 79 [.string ⟨#[]⟩, .bool false] rfl Tryd.info_rrd ?_)
  intro w8 K8 B8 Z8
  go_wp2_with (first | refine blk_store rfl 79 _ _ rfl w7.heap.size rfl [.string r2, .bool b2] rfl _ K8 rfl Tryd.size_rrd rfl ?_)
  intro w9 K9 U9
  have HO9 : Hid (Blk w9 w.heap.size zeroTok) := (Blk.below HO7.out B8 (by omega)).upd U9 (by omega)
  have HR9 : Hid (Blk w9 w7.heap.size [.string r2, .bool b2]) := K9
  have HB9 : Hid (Below w.heap.size w w9) := Below.trans HB7.out ((B8.mono (by omega)).trans (U9.below (by omega)))
  have y9 : w9.heap.size = w7.heap.size + 1 := by have := U9.size; omega
  obtain ⟨bk9, hbk9⟩ : ∃ b, w7.heap.size = b := ⟨_, rfl⟩
  rw [hbk9] at HR9 y9
  rw [hbk9]
  have q9 : bk9 < w9.heap.size := by omega
  have o9 : w.heap.size < bk9 := by omega
  clear K8 B8 Z8 K9 U9 HO7 HB7 hbk9 z7 y9 q6
  go_wp2_with (first | refine blk_load rfl 79 _ rfl bk9 rfl [.string r2, .bool b2] HR9.out _ Tryd.underlying79 rfl Tryd.size_rrd ?_)
  refine (C3.out _).mono ?_; rintro e w10 ⟨rfl, hb10⟩
  have z10 := hb10.size
  have HO10 : Hid (Blk w10 w.heap.size zeroTok) := Blk.below HO9.out hb10 (by omega)
  have HB10 : Hid (Below w.heap.size w w10) := Below.trans HB9.out (hb10.mono HB9.out.size)
  clear hb10 HR9 HO9 HB9
  go_wp2_with (first | refine blk_alloc rfl 79 [.string ⟨#[]⟩, .bool false] rfl Tryd.info_rrd ?_)
  intro w11 K11 B11 Z11
  go_wp2_with (first | refine blk_store rfl 79 _ _ rfl w10.heap.size rfl [.string r3, .bool b3] rfl _ K11 rfl Tryd.size_rrd rfl ?_)
  intro w12 K12 U12
  have HO12 : Hid (Blk w12 w.heap.size zeroTok) := (Blk.below HO10.out B11 (by omega)).upd U12 (by omega)
  have HR12 : Hid (Blk w12 w10.heap.size [.string r3, .bool b3]) := K12
  have HB12 : Hid (Below w.heap.size w w12) := Below.trans HB10.out ((B11.mono (by omega)).trans (U12.below (by omega)))
  have y12 : w12.heap.size = w10.heap.size + 1 := by have := U12.size; omega
  obtain ⟨bk12, hbk12⟩ : ∃ b, w10.heap.size = b := ⟨_, rfl⟩
  rw [hbk12] at HR12 y12
  rw [hbk12]
  have q12 : bk12 < w12.heap.size := by omega
  have o12 : w.heap.size < bk12 := by omega
  clear K11 B11 Z11 K12 U12 HO10 HB10 hbk12 z10 y12 q9
  go_wp2_with (first | refine blk_load rfl 79 _ rfl bk12 rfl [.string r3, .bool b3] HR12.out _ Tryd.underlying79 rfl Tryd.size_rrd ?_)
  refine (C4.out _).mono ?_; rintro e w13 ⟨rfl, hb13⟩
  have z13 := hb13.size
  have HO13 : Hid (Blk w13 w.heap.size zeroTok) := Blk.below HO12.out hb13 (by omega)
  have HB13 : Hid (Below w.heap.size w w13) := Below.trans HB12.out (hb13.mono HB12.out.size)
  clear hb13 HR12 HO12 HB12
  go_wp2_with (first | refine blk_alloc rfl 79 [.string ⟨#[]⟩, .bool false] rfl Tryd.info_rrd ?_)
  intro w14 K14 B14 Z14
  go_wp2_with (first | refine blk_store rfl 79 _ _ rfl w13.heap.size rfl [.string r4, .bool false] rfl _ K14 rfl Tryd.size_rrd rfl ?_)
  intro w15 K15 U15
  have HO15 : Hid (Blk w15 w.heap.size zeroTok) := (Blk.below HO13.out B14 (by omega)).upd U15 (by omega)
  have HR15 : Hid (Blk w15 w13.heap.size [.string r4, .bool false]) := K15
  have HB15 : Hid (Below w.heap.size w w15) := Below.trans HB13.out ((B14.mono (by omega)).trans (U15.below (by omega)))
  have y15 : w15.heap.size = w13.heap.size + 1 := by have := U15.size; omega
  obtain ⟨bk15, hbk15⟩ : ∃ b, w13.heap.size = b := ⟨_, rfl⟩
  rw [hbk15] at HR15 y15
  rw [hbk15]
  have q15 : bk15 < w15.heap.size := by omega
  have o15 : w.heap.size < bk15 := by omega
  clear K14 B14 Z14 K15 U15 HO13 HB13 hbk15 z13 y15 q12
  go_wp2_with (first | refine blk_alloc rfl 44 zeroTok rfl Tryd.info_rtok ?_)
  intro w16 K16 B16 Z16
  go_wp2_with (first | refine blk_store rfl 44 _ _ rfl w15.heap.size rfl [.int .i64 (n1 : Int), .string t, .int .i64 (n3 : Int), .int .u64 (n4 : Int)] rfl _ K16 rfl Tryd.size_rtok rfl ?_)
  intro w17 K17 U17
  have HO17 : Hid (Blk w17 w.heap.size zeroTok) := (Blk.below HO15.out B16 (by omega)).upd U17 (by omega)
  have HR17 : Hid (Blk w17 bk15 [.string r4, .bool false]) := (Blk.below HR15.out B16 (by omega)).upd U17 (by omega)
  have HV17 : Hid (Blk w17 w15.heap.size [.int .i64 (n1 : Int), .string t, .int .i64 (n3 : Int), .int .u64 (n4 : Int)]) := K17
  have HB17 : Hid (Below w.heap.size w w17) := Below.trans HB15.out ((B16.mono (by omega)).trans (U17.below (by omega)))
  have y17 : w17.heap.size = w15.heap.size + 1 := by have := U17.size; omega
  obtain ⟨bt, hbt⟩ : ∃ b, w15.heap.size = b := ⟨_, rfl⟩
  rw [hbt] at HV17 y17
  rw [hbt]
  have ot : w.heap.size < bt := by omega
  clear K16 B16 Z16 K17 U17 HO15 HR15 HB15 hbt v1 v3
  have f1 : w17.cell? ⟨bk15, 1, none⟩ = some (.bool false) := Blk.cell HR17.out 1 _ rfl
  go_wp2_with (first | refine blk_load rfl 44 _ rfl bt rfl [.int .i64 (n1 : Int), .string t, .int .i64 (n3 : Int), .int .u64 (n4 : Int)] HV17.out _ Tryd.underlying44 rfl Tryd.size_rtok ?_)
  refine (CM.out _).mono ?_; rintro e w18 ⟨rfl, hb18⟩
  have z18 := hb18.size
  have HO18 : Hid (Blk w18 w.heap.size zeroTok) := Blk.below HO17.out hb18 (by omega)
  have HV18 : Hid (Blk w18 bt [.int .i64 (n1 : Int), .string t, .int .i64 (n3 : Int), .int .u64 (n4 : Int)]) := Blk.below HV17.out hb18 (by omega)
  have HB18 : Hid (Below w.heap.size w w18) := Below.trans HB17.out (hb18.mono HB17.out.size)
  clear hb18 HO17 HV17 HB17 HR17 f1 d1
  go_wp2_with (first | refine blk_load rfl 44 _ rfl bt rfl [.int .i64 (n1 : Int), .string t, .int .i64 (n3 : Int), .int .u64 (n4 : Int)] HV18.out _ Tryd.underlying44 rfl Tryd.size_rtok ?_ | refine blk_store rfl 44 _ _ rfl w.heap.size rfl [.int .i64 (n1 : Int), .string t, .int .i64 (n3 : Int), .int .u64 (n4 : Int)] rfl _ HO18.out rfl Tryd.size_rtok rfl ?_)
  intro w20 K20 U20
  have HK20 : Hid (Blk w20 w.heap.size [.int .i64 (n1 : Int), .string t, .int .i64 (n3 : Int), .int .u64 (n4 : Int)]) := K20
  have HB20 : Hid (Below w.heap.size w w20) := Below.trans HB18.out (U20.below (Nat.le_refl _))
  clear K20 U20
  go_wp2_with fail
  exact bodyPost_ret (v := .tuple #[.agg [.int .i64 (n1 : Int), .string t, .int .i64 (n3 : Int), .int .u64 (n4 : Int)].toArray, .int .i64 0]) (res_blk2 Tryd.results35 _ w.heap.size rfl [.int .i64 (n1 : Int), .string t, .int .i64 (n3 : Int), .int .u64 (n4 : Int)] HK20.out _ Tryd.underlying44 rfl Tryd.size_rtok) rfl ⟨rfl, HB20.out⟩
set_option maxHeartbeats 1000000 in
theorem ref_open_long (k s : ByteArray) (now : Nat) (w : World) (hs : s.size ≤ 140737488355328) (hl : 100 < s.size) :
    Calls Tryd.prog 35 #[.string k, .string s, .int .u64 (now : Int)] w fun e w' => e = .returned (.tuple #[.agg zeroTok.toArray, .int .i64 8]) ∧ Below w.heap.size w w' := by
  have his : (100 : Int) < (s.size : Int) := by omega
  go_enter Tryd.func35, Tryd.ntmps35
  go_wp2_with (first | refine blk_alloc rfl 44 zeroTok rfl Tryd.info_rtok ?_)
  intro w1 K1 B1 Z1
  have HO1 : Hid _ := K1
  have HB1 : Hid _ := B1
  clear K1 B1
  go_wp2_with (first | refine blk_store rfl 44 _ _ rfl w.heap.size rfl zeroTok rfl _ HO1.out rfl Tryd.size_rtok rfl ?_)
  intro w20 K20 U20
  have HK20 : Hid (Blk w20 w.heap.size zeroTok) := K20
  have HB20 : Hid (Below w.heap.size w w20) := Below.trans HB1.out (U20.below (Nat.le_refl _))
  clear K20 U20
  go_wp2_with fail
  exact bodyPost_ret (v := .tuple #[.agg zeroTok.toArray, .int .i64 8]) (res_blk2 Tryd.results35 _ w.heap.size rfl zeroTok HK20.out _ Tryd.underlying44 rfl Tryd.size_rtok) rfl ⟨rfl, HB20.out⟩
end Go.Proofs.YtlodahlinncpcaaDoor.Mc
