/- mac: Open. -/
import Derived.Test.YtlodahlinncpcaaDoorMacRead
import Derived.Test.YtlodahlinncpcaaDoorMacMint
import Derived.Test.YtlodahlinncpcaaDoorMacEqual
namespace Go.Proofs.YtlodahlinncpcaaDoor.Mc
open Go.RowKit
set_option linter.unusedVariables false
set_option linter.unusedSimpArgs false
theorem zero_one : zeroTok.all (fun v => v.oneCell') = true := rfl
set_option maxHeartbeats 2000000 in
set_option maxRecDepth 100000 in
theorem open_bad (k s : ByteArray) (now n1 n3 n4 : Nat) (t r1 r2 r3 r4 : ByteArray) (b1 b2 b3 : Bool) (w : World) (hk : k.size ≤ 140737488355000) (hs : s.size ≤ 140737488355000) (hT : Tab w)
    (h1 : P.RN s false 1 = (n1, r1, b1)) (h2 : P.RT r1 b1 16 = (t, r2, b2)) (h3 : P.RN r2 b2 1 = (n3, r3, b3)) (h4 : P.RN r3 b3 8 = (n4, r4, true))
    (hn1 : n1 < 256) (hn3 : n3 < 256) (ht : t.size ≤ 140737488355000) :
    Calls Tryd.prog 34 #[.string k, .string s, .int .u64 (now : Int)] w fun e w' => e = .returned (.tuple #[.agg zeroTok.toArray, .int .i64 8]) ∧ Below w.heap.size w w' := by
  have HT : Hid _ := hT
  have hz := hT.pos
  have l4 : r4.size ≤ s.size := Nat.le_trans (rn_le _ _ _ _ _ _ h4) (Nat.le_trans (rn_le _ _ _ _ _ _ h3) (Nat.le_trans (rt_le _ _ _ _ _ _ h2) (rn_le _ _ _ _ _ _ h1)))
  have CRD0 := fun w => read_any s n1 n3 n4 t r1 r2 r3 r4 b1 b2 b3 true w (by omega) h1 h2 h3 h4 hn1 hn3 (by omega)
  simp only [Bool.false_eq_true, if_false, if_true, Bool.not_false, Bool.not_true] at CRD0
  have CRD : Hid _ := CRD0
  clear hT h1 h2 h3 h4 CRD0
  go_enter Tryd.func34, Tryd.ntmps34
  go_wp2_with (first | refine blk_alloc rfl 37 zeroTok rfl Tryd.info_tok ?_)
  intro w1 K1 B1 Z1
  go_wp2_with fail
  refine (CRD.out _).mono ?_; rintro e w2 ⟨rfl, hb2⟩
  have z2 := hb2.size
  have HO2 : Hid (Blk w2 w.heap.size zeroTok) := K1.below hb2 (by omega)
  have HB2 : Hid (Below w.heap.size w w2) := B1.trans (hb2.mono (by omega))
  clear K1 B1 hb2 CRD
  go_wp2_with (first | refine blk_alloc rfl 37 zeroTok rfl Tryd.info_tok ?_)
  intro w3 K3 B3 Z3
  go_wp2_with (first | refine blk_store rfl 37 _ _ rfl w2.heap.size rfl zeroTok rfl _ K3 rfl Tryd.size_tok rfl ?_)
  intro w4 K4 U4
  have HK4 : Hid (Blk w4 w2.heap.size zeroTok) := K4
  have HO4 : Hid (Blk w4 w.heap.size zeroTok) := (Blk.below HO2.out B3 (by omega)).upd U4 (by omega)
  have HB4 : Hid (Below w.heap.size w w4) := Below.trans HB2.out ((B3.mono (by omega)).trans (U4.below (by omega)))
  have z4 : w4.heap.size = w2.heap.size + 1 := by have := U4.size; omega
  have hw2 : w.heap.size < w2.heap.size := by omega
  clear K3 B3 Z3 K4 U4 HO2 HB2 Z1 z2
  generalize w2.heap.size = bt at *
  go_wp2_with (first | refine blk_store rfl 37 _ _ rfl w.heap.size rfl zeroTok rfl _ HO4.out rfl Tryd.size_tok rfl ?_)
  intro w9 K9 U9
  have HK9 : Hid (Blk w9 w.heap.size zeroTok) := K9
  have HB9 : Hid (Below w.heap.size w w9) := Below.trans HB4.out (U9.below (Nat.le_refl _))
  clear K9 U9
  go_wp2_with fail
  exact bodyPost_ret (v := .tuple #[.agg zeroTok.toArray, .int .i64 8]) (res_blk2 Tryd.results34 _ w.heap.size rfl zeroTok HK9.out _ Tryd.underlying37 rfl Tryd.size_tok) rfl ⟨rfl, HB9.out⟩
set_option maxHeartbeats 2000000 in
set_option maxRecDepth 100000 in
theorem open_wrong (k s : ByteArray) (now n1 n3 n4 : Nat) (t r1 r2 r3 r4 : ByteArray) (b1 b2 b3 : Bool) (w : World) (hk : k.size ≤ 140737488355000) (hs : s.size ≤ 140737488355000) (hT : Tab w)
    (h1 : P.RN s false 1 = (n1, r1, b1)) (h2 : P.RT r1 b1 16 = (t, r2, b2)) (h3 : P.RN r2 b2 1 = (n3, r3, b3)) (h4 : P.RN r3 b3 8 = (n4, r4, false))
    (hn1 : n1 < 256) (hn3 : n3 < 256) (ht : t.size ≤ 140737488355000) (hR : M.right (n1 : Int) t.size (n3 : Int) = false) :
    Calls Tryd.prog 34 #[.string k, .string s, .int .u64 (now : Int)] w fun e w' => e = .returned (.tuple #[.agg zeroTok.toArray, .int .i64 8]) ∧ Below w.heap.size w w' := by
  have HT : Hid _ := hT
  have hz := hT.pos
  have l4 : r4.size ≤ s.size := Nat.le_trans (rn_le _ _ _ _ _ _ h4) (Nat.le_trans (rn_le _ _ _ _ _ _ h3) (Nat.le_trans (rt_le _ _ _ _ _ _ h2) (rn_le _ _ _ _ _ _ h1)))
  have CRD0 := fun w => read_any s n1 n3 n4 t r1 r2 r3 r4 b1 b2 b3 false w (by omega) h1 h2 h3 h4 hn1 hn3 (by omega)
  simp only [Bool.false_eq_true, if_false, if_true, Bool.not_false, Bool.not_true] at CRD0
  have CRD : Hid _ := CRD0
  have CR : Hid _ := fun w => right_any (n1 : Int) t (n3 : Int) n4 w (by omega)
  rw [hR] at CR
  clear hR
  clear hT h1 h2 h3 h4 CRD0
  go_enter Tryd.func34, Tryd.ntmps34
  go_wp2_with (first | refine blk_alloc rfl 37 zeroTok rfl Tryd.info_tok ?_)
  intro w1 K1 B1 Z1
  go_wp2_with fail
  refine (CRD.out _).mono ?_; rintro e w2 ⟨rfl, hb2⟩
  have z2 := hb2.size
  have HO2 : Hid (Blk w2 w.heap.size zeroTok) := K1.below hb2 (by omega)
  have HB2 : Hid (Below w.heap.size w w2) := B1.trans (hb2.mono (by omega))
  clear K1 B1 hb2 CRD
  go_wp2_with (first | refine blk_alloc rfl 37 zeroTok rfl Tryd.info_tok ?_)
  intro w3 K3 B3 Z3
  go_wp2_with (first | refine blk_store rfl 37 _ _ rfl w2.heap.size rfl [.int .i64 (n1 : Int), .string t, .int .i64 (n3 : Int), .int .u64 (n4 : Int)] rfl _ K3 rfl Tryd.size_tok rfl ?_)
  intro w4 K4 U4
  have HK4 : Hid (Blk w4 w2.heap.size [.int .i64 (n1 : Int), .string t, .int .i64 (n3 : Int), .int .u64 (n4 : Int)]) := K4
  have HO4 : Hid (Blk w4 w.heap.size zeroTok) := (Blk.below HO2.out B3 (by omega)).upd U4 (by omega)
  have HB4 : Hid (Below w.heap.size w w4) := Below.trans HB2.out ((B3.mono (by omega)).trans (U4.below (by omega)))
  have z4 : w4.heap.size = w2.heap.size + 1 := by have := U4.size; omega
  have hw2 : w.heap.size < w2.heap.size := by omega
  clear K3 B3 Z3 K4 U4 HO2 HB2 Z1 z2
  generalize w2.heap.size = bt at *
  go_wp2_with (first | refine blk_loadg (by rfl) 37 _ rfl bt rfl [.int .i64 (n1 : Int), .string t, .int .i64 (n3 : Int), .int .u64 (n4 : Int)] HK4.out _ Tryd.underlying37 rfl Tryd.size_tok ?_)
  refine (CR.out _).mono ?_; rintro e w5 ⟨rfl, hb5⟩
  have z5 := hb5.size
  have HK5 : Hid (Blk w5 bt [.int .i64 (n1 : Int), .string t, .int .i64 (n3 : Int), .int .u64 (n4 : Int)]) := Blk.below HK4.out hb5 (by omega)
  have HO5 : Hid (Blk w5 w.heap.size zeroTok) := Blk.below HO4.out hb5 (by omega)
  have HB5 : Hid (Below w.heap.size w w5) := Below.trans HB4.out (hb5.mono HB4.out.size)
  clear hb5 HK4 HO4 HB4
  go_wp2_with (first | refine blk_store rfl 37 _ _ rfl w.heap.size rfl zeroTok rfl _ HO5.out rfl Tryd.size_tok rfl ?_)
  intro w9 K9 U9
  have HK9 : Hid (Blk w9 w.heap.size zeroTok) := K9
  have HB9 : Hid (Below w.heap.size w w9) := Below.trans HB5.out (U9.below (Nat.le_refl _))
  clear K9 U9
  go_wp2_with fail
  exact bodyPost_ret (v := .tuple #[.agg zeroTok.toArray, .int .i64 8]) (res_blk2 Tryd.results34 _ w.heap.size rfl zeroTok HK9.out _ Tryd.underlying37 rfl Tryd.size_tok) rfl ⟨rfl, HB9.out⟩
set_option maxHeartbeats 2000000 in
set_option maxRecDepth 100000 in
theorem open_late (k s : ByteArray) (now n1 n3 n4 : Nat) (t r1 r2 r3 r4 : ByteArray) (b1 b2 b3 : Bool) (w : World) (hk : k.size ≤ 140737488355000) (hs : s.size ≤ 140737488355000) (hT : Tab w)
    (h1 : P.RN s false 1 = (n1, r1, b1)) (h2 : P.RT r1 b1 16 = (t, r2, b2)) (h3 : P.RN r2 b2 1 = (n3, r3, b3)) (h4 : P.RN r3 b3 8 = (n4, r4, false))
    (hn1 : n1 < 256) (hn3 : n3 < 256) (ht : t.size ≤ 140737488355000) (hR : M.right (n1 : Int) t.size (n3 : Int) = true) (hL : n4 ≤ now) :
    Calls Tryd.prog 34 #[.string k, .string s, .int .u64 (now : Int)] w fun e w' => e = .returned (.tuple #[.agg zeroTok.toArray, .int .i64 8]) ∧ Below w.heap.size w w' := by
  have HT : Hid _ := hT
  have hz := hT.pos
  have l4 : r4.size ≤ s.size := Nat.le_trans (rn_le _ _ _ _ _ _ h4) (Nat.le_trans (rn_le _ _ _ _ _ _ h3) (Nat.le_trans (rt_le _ _ _ _ _ _ h2) (rn_le _ _ _ _ _ _ h1)))
  have CRD0 := fun w => read_any s n1 n3 n4 t r1 r2 r3 r4 b1 b2 b3 false w (by omega) h1 h2 h3 h4 hn1 hn3 (by omega)
  simp only [Bool.false_eq_true, if_false, if_true, Bool.not_false, Bool.not_true] at CRD0
  have CRD : Hid _ := CRD0
  have CR : Hid _ := fun w => right_any (n1 : Int) t (n3 : Int) n4 w (by omega)
  rw [hR] at CR
  clear hR
  have d1 : decide ((n4 : Int) ≤ (now : Int)) = true := by rw [decide_eq_true_iff]; omega
  clear hT h1 h2 h3 h4 CRD0
  go_enter Tryd.func34, Tryd.ntmps34
  go_wp2_with (first | refine blk_alloc rfl 37 zeroTok rfl Tryd.info_tok ?_)
  intro w1 K1 B1 Z1
  go_wp2_with fail
  refine (CRD.out _).mono ?_; rintro e w2 ⟨rfl, hb2⟩
  have z2 := hb2.size
  have HO2 : Hid (Blk w2 w.heap.size zeroTok) := K1.below hb2 (by omega)
  have HB2 : Hid (Below w.heap.size w w2) := B1.trans (hb2.mono (by omega))
  clear K1 B1 hb2 CRD
  go_wp2_with (first | refine blk_alloc rfl 37 zeroTok rfl Tryd.info_tok ?_)
  intro w3 K3 B3 Z3
  go_wp2_with (first | refine blk_store rfl 37 _ _ rfl w2.heap.size rfl [.int .i64 (n1 : Int), .string t, .int .i64 (n3 : Int), .int .u64 (n4 : Int)] rfl _ K3 rfl Tryd.size_tok rfl ?_)
  intro w4 K4 U4
  have HK4 : Hid (Blk w4 w2.heap.size [.int .i64 (n1 : Int), .string t, .int .i64 (n3 : Int), .int .u64 (n4 : Int)]) := K4
  have HO4 : Hid (Blk w4 w.heap.size zeroTok) := (Blk.below HO2.out B3 (by omega)).upd U4 (by omega)
  have HB4 : Hid (Below w.heap.size w w4) := Below.trans HB2.out ((B3.mono (by omega)).trans (U4.below (by omega)))
  have z4 : w4.heap.size = w2.heap.size + 1 := by have := U4.size; omega
  have hw2 : w.heap.size < w2.heap.size := by omega
  clear K3 B3 Z3 K4 U4 HO2 HB2 Z1 z2
  generalize w2.heap.size = bt at *
  go_wp2_with (first | refine blk_loadg (by rfl) 37 _ rfl bt rfl [.int .i64 (n1 : Int), .string t, .int .i64 (n3 : Int), .int .u64 (n4 : Int)] HK4.out _ Tryd.underlying37 rfl Tryd.size_tok ?_)
  refine (CR.out _).mono ?_; rintro e w5 ⟨rfl, hb5⟩
  have z5 := hb5.size
  have HK5 : Hid (Blk w5 bt [.int .i64 (n1 : Int), .string t, .int .i64 (n3 : Int), .int .u64 (n4 : Int)]) := Blk.below HK4.out hb5 (by omega)
  have HO5 : Hid (Blk w5 w.heap.size zeroTok) := Blk.below HO4.out hb5 (by omega)
  have HB5 : Hid (Below w.heap.size w w5) := Below.trans HB4.out (hb5.mono HB4.out.size)
  clear hb5 HK4 HO4 HB4
  have c3 : w5.cell? ⟨bt, 3, none⟩ = some (.int .u64 (n4 : Int)) := Blk.cell HK5.out 3 _ rfl
  go_wp2_with (first | refine blk_store rfl 37 _ _ rfl w.heap.size rfl zeroTok rfl _ HO5.out rfl Tryd.size_tok rfl ?_)
  intro w9 K9 U9
  have HK9 : Hid (Blk w9 w.heap.size zeroTok) := K9
  have HB9 : Hid (Below w.heap.size w w9) := Below.trans HB5.out (U9.below (Nat.le_refl _))
  clear K9 U9
  go_wp2_with fail
  exact bodyPost_ret (v := .tuple #[.agg zeroTok.toArray, .int .i64 8]) (res_blk2 Tryd.results34 _ w.heap.size rfl zeroTok HK9.out _ Tryd.underlying37 rfl Tryd.size_tok) rfl ⟨rfl, HB9.out⟩
set_option maxHeartbeats 2000000 in
set_option maxRecDepth 100000 in
theorem open_other (k s : ByteArray) (now n1 n3 n4 : Nat) (t r1 r2 r3 r4 : ByteArray) (b1 b2 b3 : Bool) (w : World) (hk : k.size ≤ 140737488355000) (hs : s.size ≤ 140737488355000) (hT : Tab w)
    (h1 : P.RN s false 1 = (n1, r1, b1)) (h2 : P.RT r1 b1 16 = (t, r2, b2)) (h3 : P.RN r2 b2 1 = (n3, r3, b3)) (h4 : P.RN r3 b3 8 = (n4, r4, false))
    (hn1 : n1 < 256) (hn3 : n3 < 256) (ht : t.size ≤ 140737488355000) (hR : M.right (n1 : Int) t.size (n3 : Int) = true) (hL : now < n4) (hZ : decide (r4 = S (M.hmac k.data.toList (s.extract 0 (s.size - r4.size)).data.toList)) = false) :
    Calls Tryd.prog 34 #[.string k, .string s, .int .u64 (now : Int)] w fun e w' => e = .returned (.tuple #[.agg zeroTok.toArray, .int .i64 8]) ∧ Below w.heap.size w w' := by
  have HT : Hid _ := hT
  have hz := hT.pos
  have l4 : r4.size ≤ s.size := Nat.le_trans (rn_le _ _ _ _ _ _ h4) (Nat.le_trans (rn_le _ _ _ _ _ _ h3) (Nat.le_trans (rt_le _ _ _ _ _ _ h2) (rn_le _ _ _ _ _ _ h1)))
  have CRD0 := fun w => read_any s n1 n3 n4 t r1 r2 r3 r4 b1 b2 b3 false w (by omega) h1 h2 h3 h4 hn1 hn3 (by omega)
  simp only [Bool.false_eq_true, if_false, if_true, Bool.not_false, Bool.not_true] at CRD0
  have CRD : Hid _ := CRD0
  have CR : Hid _ := fun w => right_any (n1 : Int) t (n3 : Int) n4 w (by omega)
  rw [hR] at CR
  clear hR
  have d1 : decide ((n4 : Int) ≤ (now : Int)) = false := by rw [decide_eq_false_iff_not]; omega
  obtain ⟨q, hq⟩ : ∃ q, q = s.size - r4.size := ⟨_, rfl⟩
  have e1 : (s.size : Int) - (r4.size : Int) = (q : Int) := by omega
  have vq : IntKind.i64.wrap (q : Int) = q := IntWalk.i64_in _ ⟨by omega, by omega⟩
  have iq : (q : Int) ≤ (s.size : Int) := by omega
  have nq : q ≤ s.size := by omega
  have hcs : (s.extract 0 q).size ≤ 140737488355000 := by rw [ByteArray.size_extract]; omega
  have CS : Hid _ := fun w h => msum_any k (s.extract 0 q) w hk hcs h
  have hsz : (S (M.hmac k.data.toList (s.extract 0 q).data.toList)).size = 32 := by rw [S_size, M.hmac_length]
  have CE : Hid _ := fun w => equal_any r4 (S (M.hmac k.data.toList (s.extract 0 q).data.toList)) w (by omega) (by omega)
  rw [← hq] at hZ
  rw [hZ] at CE
  clear hZ hq
  generalize S (M.hmac k.data.toList (s.extract 0 q).data.toList) = d at *
  clear hT h1 h2 h3 h4 CRD0
  go_enter Tryd.func34, Tryd.ntmps34
  go_wp2_with (first | refine blk_alloc rfl 37 zeroTok rfl Tryd.info_tok ?_)
  intro w1 K1 B1 Z1
  go_wp2_with fail
  refine (CRD.out _).mono ?_; rintro e w2 ⟨rfl, hb2⟩
  have z2 := hb2.size
  have HO2 : Hid (Blk w2 w.heap.size zeroTok) := K1.below hb2 (by omega)
  have HB2 : Hid (Below w.heap.size w w2) := B1.trans (hb2.mono (by omega))
  clear K1 B1 hb2 CRD
  go_wp2_with (first | refine blk_alloc rfl 37 zeroTok rfl Tryd.info_tok ?_)
  intro w3 K3 B3 Z3
  go_wp2_with (first | refine blk_store rfl 37 _ _ rfl w2.heap.size rfl [.int .i64 (n1 : Int), .string t, .int .i64 (n3 : Int), .int .u64 (n4 : Int)] rfl _ K3 rfl Tryd.size_tok rfl ?_)
  intro w4 K4 U4
  have HK4 : Hid (Blk w4 w2.heap.size [.int .i64 (n1 : Int), .string t, .int .i64 (n3 : Int), .int .u64 (n4 : Int)]) := K4
  have HO4 : Hid (Blk w4 w.heap.size zeroTok) := (Blk.below HO2.out B3 (by omega)).upd U4 (by omega)
  have HB4 : Hid (Below w.heap.size w w4) := Below.trans HB2.out ((B3.mono (by omega)).trans (U4.below (by omega)))
  have z4 : w4.heap.size = w2.heap.size + 1 := by have := U4.size; omega
  have hw2 : w.heap.size < w2.heap.size := by omega
  clear K3 B3 Z3 K4 U4 HO2 HB2 Z1 z2
  generalize w2.heap.size = bt at *
  go_wp2_with (first | refine blk_loadg (by rfl) 37 _ rfl bt rfl [.int .i64 (n1 : Int), .string t, .int .i64 (n3 : Int), .int .u64 (n4 : Int)] HK4.out _ Tryd.underlying37 rfl Tryd.size_tok ?_)
  refine (CR.out _).mono ?_; rintro e w5 ⟨rfl, hb5⟩
  have z5 := hb5.size
  have HK5 : Hid (Blk w5 bt [.int .i64 (n1 : Int), .string t, .int .i64 (n3 : Int), .int .u64 (n4 : Int)]) := Blk.below HK4.out hb5 (by omega)
  have HO5 : Hid (Blk w5 w.heap.size zeroTok) := Blk.below HO4.out hb5 (by omega)
  have HB5 : Hid (Below w.heap.size w w5) := Below.trans HB4.out (hb5.mono HB4.out.size)
  clear hb5 HK4 HO4 HB4
  have c3 : w5.cell? ⟨bt, 3, none⟩ = some (.int .u64 (n4 : Int)) := Blk.cell HK5.out 3 _ rfl
  go_wp2_with fail
  have HT5 : Hid (Tab w5) := Tab.below HT.out HB5.out hz
  refine (CS.out _ HT5.out).mono ?_; rintro e w6 ⟨rfl, hb6⟩
  have z6 := hb6.size
  have HK6 : Hid (Blk w6 bt [.int .i64 (n1 : Int), .string t, .int .i64 (n3 : Int), .int .u64 (n4 : Int)]) := Blk.below HK5.out hb6 (by omega)
  have HO6 : Hid (Blk w6 w.heap.size zeroTok) := Blk.below HO5.out hb6 (by omega)
  have HB6 : Hid (Below w.heap.size w w6) := Below.trans HB5.out (hb6.mono HB5.out.size)
  clear hb6 HK5 HO5 HB5 c3 d1 HT5
  go_wp2_with fail
  refine (CE.out _).mono ?_; rintro e w7 ⟨rfl, hb7⟩
  have z7 := hb7.size
  have HK7 : Hid (Blk w7 bt [.int .i64 (n1 : Int), .string t, .int .i64 (n3 : Int), .int .u64 (n4 : Int)]) := Blk.below HK6.out hb7 (by omega)
  have HO7 : Hid (Blk w7 w.heap.size zeroTok) := Blk.below HO6.out hb7 (by omega)
  have HB7 : Hid (Below w.heap.size w w7) := Below.trans HB6.out (hb7.mono HB6.out.size)
  clear hb7 HK6 HO6 HB6
  go_wp2_with (first | refine blk_store rfl 37 _ _ rfl w.heap.size rfl zeroTok rfl _ HO7.out rfl Tryd.size_tok rfl ?_)
  intro w9 K9 U9
  have HK9 : Hid (Blk w9 w.heap.size zeroTok) := K9
  have HB9 : Hid (Below w.heap.size w w9) := Below.trans HB7.out (U9.below (Nat.le_refl _))
  clear K9 U9
  go_wp2_with fail
  exact bodyPost_ret (v := .tuple #[.agg zeroTok.toArray, .int .i64 8]) (res_blk2 Tryd.results34 _ w.heap.size rfl zeroTok HK9.out _ Tryd.underlying37 rfl Tryd.size_tok) rfl ⟨rfl, HB9.out⟩
set_option maxHeartbeats 2000000 in
set_option maxRecDepth 100000 in
theorem open_yes (k s : ByteArray) (now n1 n3 n4 : Nat) (t r1 r2 r3 r4 : ByteArray) (b1 b2 b3 : Bool) (w : World) (hk : k.size ≤ 140737488355000) (hs : s.size ≤ 140737488355000) (hT : Tab w)
    (h1 : P.RN s false 1 = (n1, r1, b1)) (h2 : P.RT r1 b1 16 = (t, r2, b2)) (h3 : P.RN r2 b2 1 = (n3, r3, b3)) (h4 : P.RN r3 b3 8 = (n4, r4, false))
    (hn1 : n1 < 256) (hn3 : n3 < 256) (ht : t.size ≤ 140737488355000) (hR : M.right (n1 : Int) t.size (n3 : Int) = true) (hL : now < n4) (hZ : decide (r4 = S (M.hmac k.data.toList (s.extract 0 (s.size - r4.size)).data.toList)) = true) :
    Calls Tryd.prog 34 #[.string k, .string s, .int .u64 (now : Int)] w fun e w' => e = .returned (.tuple #[.agg [.int .i64 (n1 : Int), .string t, .int .i64 (n3 : Int), .int .u64 (n4 : Int)].toArray, .int .i64 0]) ∧ Below w.heap.size w w' := by
  have HT : Hid _ := hT
  have hz := hT.pos
  have l4 : r4.size ≤ s.size := Nat.le_trans (rn_le _ _ _ _ _ _ h4) (Nat.le_trans (rn_le _ _ _ _ _ _ h3) (Nat.le_trans (rt_le _ _ _ _ _ _ h2) (rn_le _ _ _ _ _ _ h1)))
  have CRD0 := fun w => read_any s n1 n3 n4 t r1 r2 r3 r4 b1 b2 b3 false w (by omega) h1 h2 h3 h4 hn1 hn3 (by omega)
  simp only [Bool.false_eq_true, if_false, if_true, Bool.not_false, Bool.not_true] at CRD0
  have CRD : Hid _ := CRD0
  have CR : Hid _ := fun w => right_any (n1 : Int) t (n3 : Int) n4 w (by omega)
  rw [hR] at CR
  clear hR
  have d1 : decide ((n4 : Int) ≤ (now : Int)) = false := by rw [decide_eq_false_iff_not]; omega
  obtain ⟨q, hq⟩ : ∃ q, q = s.size - r4.size := ⟨_, rfl⟩
  have e1 : (s.size : Int) - (r4.size : Int) = (q : Int) := by omega
  have vq : IntKind.i64.wrap (q : Int) = q := IntWalk.i64_in _ ⟨by omega, by omega⟩
  have iq : (q : Int) ≤ (s.size : Int) := by omega
  have nq : q ≤ s.size := by omega
  have hcs : (s.extract 0 q).size ≤ 140737488355000 := by rw [ByteArray.size_extract]; omega
  have CS : Hid _ := fun w h => msum_any k (s.extract 0 q) w hk hcs h
  have hsz : (S (M.hmac k.data.toList (s.extract 0 q).data.toList)).size = 32 := by rw [S_size, M.hmac_length]
  have CE : Hid _ := fun w => equal_any r4 (S (M.hmac k.data.toList (s.extract 0 q).data.toList)) w (by omega) (by omega)
  rw [← hq] at hZ
  rw [hZ] at CE
  clear hZ hq
  generalize S (M.hmac k.data.toList (s.extract 0 q).data.toList) = d at *
  clear hT h1 h2 h3 h4 CRD0
  go_enter Tryd.func34, Tryd.ntmps34
  go_wp2_with (first | refine blk_alloc rfl 37 zeroTok rfl Tryd.info_tok ?_)
  intro w1 K1 B1 Z1
  go_wp2_with fail
  refine (CRD.out _).mono ?_; rintro e w2 ⟨rfl, hb2⟩
  have z2 := hb2.size
  have HO2 : Hid (Blk w2 w.heap.size zeroTok) := K1.below hb2 (by omega)
  have HB2 : Hid (Below w.heap.size w w2) := B1.trans (hb2.mono (by omega))
  clear K1 B1 hb2 CRD
  go_wp2_with (first | refine blk_alloc rfl 37 zeroTok rfl Tryd.info_tok ?_)
  intro w3 K3 B3 Z3
  go_wp2_with (first | refine blk_store rfl 37 _ _ rfl w2.heap.size rfl [.int .i64 (n1 : Int), .string t, .int .i64 (n3 : Int), .int .u64 (n4 : Int)] rfl _ K3 rfl Tryd.size_tok rfl ?_)
  intro w4 K4 U4
  have HK4 : Hid (Blk w4 w2.heap.size [.int .i64 (n1 : Int), .string t, .int .i64 (n3 : Int), .int .u64 (n4 : Int)]) := K4
  have HO4 : Hid (Blk w4 w.heap.size zeroTok) := (Blk.below HO2.out B3 (by omega)).upd U4 (by omega)
  have HB4 : Hid (Below w.heap.size w w4) := Below.trans HB2.out ((B3.mono (by omega)).trans (U4.below (by omega)))
  have z4 : w4.heap.size = w2.heap.size + 1 := by have := U4.size; omega
  have hw2 : w.heap.size < w2.heap.size := by omega
  clear K3 B3 Z3 K4 U4 HO2 HB2 Z1 z2
  generalize w2.heap.size = bt at *
  go_wp2_with (first | refine blk_loadg (by rfl) 37 _ rfl bt rfl [.int .i64 (n1 : Int), .string t, .int .i64 (n3 : Int), .int .u64 (n4 : Int)] HK4.out _ Tryd.underlying37 rfl Tryd.size_tok ?_)
  refine (CR.out _).mono ?_; rintro e w5 ⟨rfl, hb5⟩
  have z5 := hb5.size
  have HK5 : Hid (Blk w5 bt [.int .i64 (n1 : Int), .string t, .int .i64 (n3 : Int), .int .u64 (n4 : Int)]) := Blk.below HK4.out hb5 (by omega)
  have HO5 : Hid (Blk w5 w.heap.size zeroTok) := Blk.below HO4.out hb5 (by omega)
  have HB5 : Hid (Below w.heap.size w w5) := Below.trans HB4.out (hb5.mono HB4.out.size)
  clear hb5 HK4 HO4 HB4
  have c3 : w5.cell? ⟨bt, 3, none⟩ = some (.int .u64 (n4 : Int)) := Blk.cell HK5.out 3 _ rfl
  go_wp2_with fail
  have HT5 : Hid (Tab w5) := Tab.below HT.out HB5.out hz
  refine (CS.out _ HT5.out).mono ?_; rintro e w6 ⟨rfl, hb6⟩
  have z6 := hb6.size
  have HK6 : Hid (Blk w6 bt [.int .i64 (n1 : Int), .string t, .int .i64 (n3 : Int), .int .u64 (n4 : Int)]) := Blk.below HK5.out hb6 (by omega)
  have HO6 : Hid (Blk w6 w.heap.size zeroTok) := Blk.below HO5.out hb6 (by omega)
  have HB6 : Hid (Below w.heap.size w w6) := Below.trans HB5.out (hb6.mono HB5.out.size)
  clear hb6 HK5 HO5 HB5 c3 d1 HT5
  go_wp2_with fail
  refine (CE.out _).mono ?_; rintro e w7 ⟨rfl, hb7⟩
  have z7 := hb7.size
  have HK7 : Hid (Blk w7 bt [.int .i64 (n1 : Int), .string t, .int .i64 (n3 : Int), .int .u64 (n4 : Int)]) := Blk.below HK6.out hb7 (by omega)
  have HO7 : Hid (Blk w7 w.heap.size zeroTok) := Blk.below HO6.out hb7 (by omega)
  have HB7 : Hid (Below w.heap.size w w7) := Below.trans HB6.out (hb7.mono HB6.out.size)
  clear hb7 HK6 HO6 HB6
  go_wp2_with (first | refine blk_load rfl 37 _ rfl bt rfl [.int .i64 (n1 : Int), .string t, .int .i64 (n3 : Int), .int .u64 (n4 : Int)] HK7.out _ Tryd.underlying37 rfl Tryd.size_tok ?_ | refine blk_store rfl 37 _ _ rfl w.heap.size rfl [.int .i64 (n1 : Int), .string t, .int .i64 (n3 : Int), .int .u64 (n4 : Int)] rfl _ HO7.out rfl Tryd.size_tok rfl ?_)
  intro w9 K9 U9
  have HK9 : Hid (Blk w9 w.heap.size [.int .i64 (n1 : Int), .string t, .int .i64 (n3 : Int), .int .u64 (n4 : Int)]) := K9
  have HB9 : Hid (Below w.heap.size w w9) := Below.trans HB7.out (U9.below (Nat.le_refl _))
  clear K9 U9
  go_wp2_with fail
  exact bodyPost_ret (v := .tuple #[.agg [.int .i64 (n1 : Int), .string t, .int .i64 (n3 : Int), .int .u64 (n4 : Int)].toArray, .int .i64 0]) (res_blk2 Tryd.results34 _ w.heap.size rfl [.int .i64 (n1 : Int), .string t, .int .i64 (n3 : Int), .int .u64 (n4 : Int)] HK9.out _ Tryd.underlying37 rfl Tryd.size_tok) rfl ⟨rfl, HB9.out⟩
end Go.Proofs.YtlodahlinncpcaaDoor.Mc
