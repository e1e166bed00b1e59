/- mac: the chapter's examples. -/
import Derived.Test.YtlodahlinncpcaaDoorMacBackM
import Derived.Test.YtlodahlinncpcaaDoorMacMath
import Derived.Test.YtlodahlinncpcaaDoorMacTok
namespace Go.Proofs.YtlodahlinncpcaaDoor.Mc
open Go.RowKit
set_option linter.unusedVariables false
set_option linter.unusedSimpArgs false
/-- the token of the examples, minted -/
def exS : ByteArray := S (M.plain 2 [98] 1 5 ++ M.hmac [107, 101, 121] (M.plain 2 [98] 1 5))
theorem exS_size : exS.size = 44 := by rw [exS, S_size, List.length_append, M.hmac_length, M.ex_plain]; rfl
theorem ex_mint (w : World) (hT : Tab w) : Calls Tryd.prog 28 #[.string ⟨#[107, 101, 121]⟩, .agg #[.int .i64 2, .string ⟨#[98]⟩, .int .i64 1, .int .u64 5]] w fun e w' => e = .returned (.tuple #[.string exS, .bool true]) ∧ Below w.heap.size w w' :=
  mint_yes ⟨#[107, 101, 121]⟩ ⟨#[98]⟩ 2 1 5 w (by decide) (by decide) (by decide) (by decide) (by decide) (by decide) (by decide) (by decide) hT
theorem ex_mint0 (w : World) : Calls Tryd.prog 28 #[.string ⟨#[107, 101, 121]⟩, .agg #[.int .i64 0, .string ⟨#[]⟩, .int .i64 0, .int .u64 0]] w fun e w' => e = .returned (.tuple #[.string ⟨#[]⟩, .bool false]) ∧ Below w.heap.size w w' :=
  mint_no ⟨#[107, 101, 121]⟩ ⟨#[]⟩ 0 0 0 w (by decide) (by decide)
theorem ex_open4 (w : World) (hT : Tab w) : Calls Tryd.prog 34 #[.string ⟨#[107, 101, 121]⟩, .string exS, .int .u64 4] w fun e w' => e = .returned (.tuple #[.agg [.int .i64 2, .string ⟨#[98]⟩, .int .i64 1, .int .u64 5].toArray, .int .i64 0]) ∧ Below w.heap.size w w' := by
  have h := opens_in ⟨#[107, 101, 121]⟩ 2 1 5 4 ⟨#[98]⟩ (M.hmac [107, 101, 121] (M.plain 2 [98] 1 5)) w (by decide) hT (M.hmac_length _ _) (by decide) (by decide) (by decide) (by decide) (by decide) (by decide) (by decide) (by decide)
  rw [if_pos rfl, if_pos rfl] at h
  exact h
theorem ex_open5 (w : World) (hT : Tab w) : Calls Tryd.prog 34 #[.string ⟨#[107, 101, 121]⟩, .string exS, .int .u64 5] w fun e w' => e = .returned (.tuple #[.agg zeroTok.toArray, .int .i64 8]) ∧ Below w.heap.size w w' :=
  opens_late ⟨#[107, 101, 121]⟩ 2 1 5 5 ⟨#[98]⟩ (M.hmac [107, 101, 121] (M.plain 2 [98] 1 5)) w (by decide) hT (M.hmac_length _ _) (by decide) (by decide) (by decide) (by decide) (by decide) (by decide) (by decide) (by decide)
theorem ex_openz (w : World) (hT : Tab w) : Calls Tryd.prog 34 #[.string ⟨#[107, 101, 122]⟩, .string exS, .int .u64 4] w fun e w' => e = .returned (.tuple #[.agg zeroTok.toArray, .int .i64 8]) ∧ Below w.heap.size w w' := by
  have h := opens_in ⟨#[107, 101, 122]⟩ 2 1 5 4 ⟨#[98]⟩ (M.hmac [107, 101, 121] (M.plain 2 [98] 1 5)) w (by decide) hT (M.hmac_length _ _) (by decide) (by decide) (by decide) (by decide) (by decide) (by decide) (by decide) (by decide)
  have hne : ¬ M.hmac [107, 101, 121] (M.plain 2 [98] 1 5) = M.hmac [107, 101, 122] (M.plain 2 [98] 1 5) := by
    rw [M.ex_plain, M.ex_key, M.ex_kez]; decide
  rw [if_neg hne, if_neg hne] at h
  exact h
theorem ex_sum (w : World) (hT : Tab w) : Calls Tryd.prog 24 #[.string ⟨#[107, 101, 121]⟩, .string ⟨#[84, 104, 101, 32, 113, 117, 105, 99, 107, 32, 98, 114, 111, 119, 110, 32, 102, 111, 120, 32, 106, 117, 109, 112, 115, 32, 111, 118, 101, 114, 32, 116, 104, 101, 32, 108, 97, 122, 121, 32, 100, 111, 103]⟩] w fun e w' => e = .returned (.string ⟨#[247, 188, 131, 244, 48, 83, 132, 36, 177, 50, 152, 230, 170, 111, 177, 67, 239, 77, 89, 161, 73, 70, 23, 89, 151, 71, 157, 188, 45, 26, 60, 216]⟩) ∧ Below w.heap.size w w' := by
  have h := msum_any ⟨#[107, 101, 121]⟩ ⟨#[84, 104, 101, 32, 113, 117, 105, 99, 107, 32, 98, 114, 111, 119, 110, 32, 102, 111, 120, 32, 106, 117, 109, 112, 115, 32, 111, 118, 101, 114, 32, 116, 104, 101, 32, 108, 97, 122, 121, 32, 100, 111, 103]⟩ w (by decide) (by decide) hT
  rw [show M.hmac (⟨#[107, 101, 121]⟩ : ByteArray).data.toList (⟨#[84, 104, 101, 32, 113, 117, 105, 99, 107, 32, 98, 114, 111, 119, 110, 32, 102, 111, 120, 32, 106, 117, 109, 112, 115, 32, 111, 118, 101, 114, 32, 116, 104, 101, 32, 108, 97, 122, 121, 32, 100, 111, 103]⟩ : ByteArray).data.toList = [247, 188, 131, 244, 48, 83, 132, 36, 177, 50, 152, 230, 170, 111, 177, 67, 239, 77, 89, 161, 73, 70, 23, 89, 151, 71, 157, 188, 45, 26, 60, 216] from M.ex_fox] at h
  exact h
theorem ex_right (w : World) : Calls Tryd.prog 31 #[.agg #[.int .i64 2, .string ⟨#[98]⟩, .int .i64 1, .int .u64 5]] w fun e w' => e = .returned (.bool true) ∧ Below w.heap.size w w' :=
  right_any 2 ⟨#[98]⟩ 1 5 w (by decide)
theorem ex_may1 (w : World) : Calls Tryd.prog 36 #[.agg #[.int .i64 2, .string ⟨#[98]⟩, .int .i64 1, .int .u64 5], .int .i64 2, .string ⟨#[98]⟩, .int .i64 1] w fun e w' => e = .returned (.bool true) ∧ Below w.heap.size w w' :=
  may_core 2 ⟨#[98]⟩ 1 5 2 ⟨#[98]⟩ 1 w rfl true (by decide)
theorem ex_may2 (w : World) : Calls Tryd.prog 36 #[.agg #[.int .i64 2, .string ⟨#[98]⟩, .int .i64 1, .int .u64 5], .int .i64 2, .string ⟨#[98]⟩, .int .i64 2] w fun e w' => e = .returned (.bool false) ∧ Below w.heap.size w w' :=
  may_core 2 ⟨#[98]⟩ 1 5 2 ⟨#[98]⟩ 2 w rfl false (by decide)
theorem ex_may3 (w : World) : Calls Tryd.prog 36 #[.agg #[.int .i64 2, .string ⟨#[98]⟩, .int .i64 1, .int .u64 5], .int .i64 1, .string ⟨#[98]⟩, .int .i64 1] w fun e w' => e = .returned (.bool false) ∧ Below w.heap.size w w' :=
  may_core 2 ⟨#[98]⟩ 1 5 1 ⟨#[98]⟩ 1 w rfl true (by decide)
theorem ex_equal (w : World) : Calls Tryd.prog 26 #[.string ⟨#[97]⟩, .string ⟨#[97]⟩] w fun e w' => e = .returned (.bool true) ∧ Below w.heap.size w w' := by
  have h := equal_any ⟨#[97]⟩ ⟨#[97]⟩ w (by decide) (by decide)
  rw [show decide ((⟨#[97]⟩ : ByteArray) = ⟨#[97]⟩) = true by decide] at h
  exact h
theorem ex_unequal (w : World) : Calls Tryd.prog 26 #[.string ⟨#[97]⟩, .string ⟨#[98]⟩] w fun e w' => e = .returned (.bool false) ∧ Below w.heap.size w w' := by
  have h := equal_any ⟨#[97]⟩ ⟨#[98]⟩ w (by decide) (by decide)
  rw [show decide ((⟨#[97]⟩ : ByteArray) = ⟨#[98]⟩) = false by decide] at h
  exact h
set_option maxHeartbeats 4000000 in
set_option maxRecDepth 100000 in
theorem mexamples_any (w : World) (hT : Tab w) : Calls Tryd.prog 23 #[] w fun e w' => e = .returned (.bool true) ∧ Below w.heap.size w w' := by
  have HT : Hid _ := hT
  have hz := hT.pos
  have hS := exS_size
  have CM : Hid _ := ex_mint
  have C4 : Hid _ := ex_open4
  have C5 : Hid _ := ex_open5
  have CZ : Hid _ := ex_openz
  generalize exS = sS at *
  clear hT
  go_enter Tryd.func23, Tryd.ntmps23
  go_wp2_with (first | refine blk_alloc rfl 37 zeroTok rfl Tryd.info_tok ?_)
  intro w1 K1 B1 Z1
  go_wp2_with (first | refine blk_store rfl 37 _ _ rfl w.heap.size rfl [.int .i64 2, .string ⟨#[98]⟩, .int .i64 1, .int .u64 5] rfl _ K1 rfl Tryd.size_tok rfl ?_)
  intro w2 K2 U2
  have HK2 : Hid (Blk w2 w.heap.size [.int .i64 2, .string ⟨#[98]⟩, .int .i64 1, .int .u64 5]) := K2
  have HB2 : Hid (Below w.heap.size w w2) := B1.trans (U2.below (by omega))
  have z2 : w2.heap.size = w.heap.size + 1 := by have := U2.size; omega
  have HT2 : Hid (Tab w2) := Tab.below HT.out HB2.out hz
  clear K1 B1 Z1 K2 U2
  go_wp2_with (first | refine blk_load rfl 37 _ rfl w.heap.size rfl [.int .i64 2, .string ⟨#[98]⟩, .int .i64 1, .int .u64 5] HK2.out _ Tryd.underlying37 rfl Tryd.size_tok ?_)
  refine (CM.out _ HT2.out).mono ?_; rintro e w3 ⟨rfl, hb3⟩
  have z3 : w.heap.size + 1 ≤ w3.heap.size := by have := hb3.size; omega
  have HK3 : Hid (Blk w3 w.heap.size [.int .i64 2, .string ⟨#[98]⟩, .int .i64 1, .int .u64 5]) := Blk.below HK2.out hb3 (by omega)
  have HB3 : Hid (Below w.heap.size w w3) := Below.trans HB2.out (hb3.mono HB2.out.size)
  clear hb3 HK2 HB2 HT2 z2 CM
  go_wp2_with fail
  have HT3 : Hid (Tab w3) := Tab.below HT.out HB3.out hz
  refine (C4.out _ HT3.out).mono ?_; rintro e w4 ⟨rfl, hb4⟩
  have z4 := hb4.size
  have HK4 : Hid (Blk w4 w.heap.size [.int .i64 2, .string ⟨#[98]⟩, .int .i64 1, .int .u64 5]) := Blk.below HK3.out hb4 (by omega)
  have HB4 : Hid (Below w.heap.size w w4) := Below.trans HB3.out (hb4.mono HB3.out.size)
  clear hb4 HK3 HB3 HT3 C4
  go_wp2_with (first | refine blk_alloc rfl 37 zeroTok rfl Tryd.info_tok ?_)
  intro w5 K5 B5 Z5
  go_wp2_with (first | refine blk_store rfl 37 _ _ rfl w4.heap.size rfl [.int .i64 2, .string ⟨#[98]⟩, .int .i64 1, .int .u64 5] rfl _ K5 rfl Tryd.size_tok rfl ?_)
  intro w6 K6 U6
  have HK6 : Hid (Blk w6 w.heap.size [.int .i64 2, .string ⟨#[98]⟩, .int .i64 1, .int .u64 5]) := (Blk.below HK4.out B5 (by omega)).upd U6 (by omega)
  have HB6 : Hid (Below w.heap.size w w6) := Below.trans HB4.out ((B5.mono (by omega)).trans (U6.below (by omega)))
  have z6 : w6.heap.size = w4.heap.size + 1 := by have := U6.size; omega
  have HU6 : Hid (Blk w6 w4.heap.size [.int .i64 2, .string ⟨#[98]⟩, .int .i64 1, .int .u64 5]) := K6
  clear K5 B5 Z5 K6 U6 HK4 HB4
  obtain ⟨bu, hbu⟩ : ∃ bu, w4.heap.size = bu := ⟨_, rfl⟩
  rw [hbu] at HU6
  rw [hbu]
  have hbu1 : w.heap.size + 1 ≤ bu := by omega
  have hbu2 : bu < w6.heap.size := by omega
  clear hbu
  go_wp2_with fail
  have HT6 : Hid (Tab w6) := Tab.below HT.out HB6.out hz
  refine (C5.out _ HT6.out).mono ?_; rintro e w7 ⟨rfl, hb7⟩
  have z7 := hb7.size
  have HK7 : Hid (Blk w7 w.heap.size [.int .i64 2, .string ⟨#[98]⟩, .int .i64 1, .int .u64 5]) := Blk.below HK6.out hb7 (by omega)
  have HB7 : Hid (Below w.heap.size w w7) := Below.trans HB6.out (hb7.mono HB6.out.size)
  have HU7 : Hid (Blk w7 bu [.int .i64 2, .string ⟨#[98]⟩, .int .i64 1, .int .u64 5]) := Blk.below HU6.out hb7 (by omega)
  clear hb7 HK6 HB6 HT6 C5
  go_wp2_with (first | refine blk_alloc rfl 37 zeroTok rfl Tryd.info_tok ?_)
  intro w8 K8 B8 Z8
  go_wp2_with (first | refine blk_store rfl 37 _ _ rfl w7.heap.size rfl zeroTok rfl _ K8 rfl Tryd.size_tok rfl ?_)
  intro w9 K9 U9
  have HK9 : Hid (Blk w9 w.heap.size [.int .i64 2, .string ⟨#[98]⟩, .int .i64 1, .int .u64 5]) := (Blk.below HK7.out B8 (by omega)).upd U9 (by omega)
  have HB9 : Hid (Below w.heap.size w w9) := Below.trans HB7.out ((B8.mono (by omega)).trans (U9.below (by omega)))
  have z9 : w9.heap.size = w7.heap.size + 1 := by have := U9.size; omega
  have HU9 : Hid (Blk w9 bu [.int .i64 2, .string ⟨#[98]⟩, .int .i64 1, .int .u64 5]) := (Blk.below HU7.out B8 (by omega)).upd U9 (by omega)
  clear K8 B8 Z8 K9 U9 HK7 HB7 HU7 HU6
  go_wp2_with fail
  have HT9 : Hid (Tab w9) := Tab.below HT.out HB9.out hz
  refine (CZ.out _ HT9.out).mono ?_; rintro e w10 ⟨rfl, hb10⟩
  have z10 := hb10.size
  have HK10 : Hid (Blk w10 w.heap.size [.int .i64 2, .string ⟨#[98]⟩, .int .i64 1, .int .u64 5]) := Blk.below HK9.out hb10 (by omega)
  have HB10 : Hid (Below w.heap.size w w10) := Below.trans HB9.out (hb10.mono HB9.out.size)
  have HU10 : Hid (Blk w10 bu [.int .i64 2, .string ⟨#[98]⟩, .int .i64 1, .int .u64 5]) := Blk.below HU9.out hb10 (by omega)
  clear hb10 HK9 HB9 HT9 CZ
  go_wp2_with (first | refine blk_alloc rfl 37 zeroTok rfl Tryd.info_tok ?_)
  intro w11 K11 B11 Z11
  go_wp2_with (first | refine blk_store rfl 37 _ _ rfl w10.heap.size rfl zeroTok rfl _ K11 rfl Tryd.size_tok rfl ?_)
  intro w12 K12 U12
  have HK12 : Hid (Blk w12 w.heap.size [.int .i64 2, .string ⟨#[98]⟩, .int .i64 1, .int .u64 5]) := (Blk.below HK10.out B11 (by omega)).upd U12 (by omega)
  have HB12 : Hid (Below w.heap.size w w12) := Below.trans HB10.out ((B11.mono (by omega)).trans (U12.below (by omega)))
  have z12 : w12.heap.size = w10.heap.size + 1 := by have := U12.size; omega
  have HU12 : Hid (Blk w12 bu [.int .i64 2, .string ⟨#[98]⟩, .int .i64 1, .int .u64 5]) := (Blk.below HU10.out B11 (by omega)).upd U12 (by omega)
  clear K11 B11 Z11 K12 U12 HK10 HB10 HU10 HU9
  go_wp2_with fail
  refine (ex_mint0 _).mono ?_; rintro e w13 ⟨rfl, hb13⟩
  have z13 := hb13.size
  have HK13 : Hid (Blk w13 w.heap.size [.int .i64 2, .string ⟨#[98]⟩, .int .i64 1, .int .u64 5]) := Blk.below HK12.out hb13 (by omega)
  have HB13 : Hid (Below w.heap.size w w13) := Below.trans HB12.out (hb13.mono HB12.out.size)
  have HU13 : Hid (Blk w13 bu [.int .i64 2, .string ⟨#[98]⟩, .int .i64 1, .int .u64 5]) := Blk.below HU12.out hb13 (by omega)
  clear hb13 HK12 HB12 HU12
  go_wp2_with fail
  have HT13 : Hid (Tab w13) := Tab.below HT.out HB13.out hz
  refine (ex_sum _ HT13.out).mono ?_; rintro e w14 ⟨rfl, hb14⟩
  have z14 := hb14.size
  have HK14 : Hid (Blk w14 w.heap.size [.int .i64 2, .string ⟨#[98]⟩, .int .i64 1, .int .u64 5]) := Blk.below HK13.out hb14 (by omega)
  have HB14 : Hid (Below w.heap.size w w14) := Below.trans HB13.out (hb14.mono HB13.out.size)
  have HU14 : Hid (Blk w14 bu [.int .i64 2, .string ⟨#[98]⟩, .int .i64 1, .int .u64 5]) := Blk.below HU13.out hb14 (by omega)
  clear hb14 HK13 HB13 HU13
  have u0 : w14.cell? ⟨bu, 0, none⟩ = some (.int .i64 2) := Blk.cell HU14.out 0 _ rfl
  have u1 : w14.cell? ⟨bu, 1, none⟩ = some (.string ⟨#[98]⟩) := Blk.cell HU14.out 1 _ rfl
  have u2 : w14.cell? ⟨bu, 2, none⟩ = some (.int .i64 1) := Blk.cell HU14.out 2 _ rfl
  have u3 : w14.cell? ⟨bu, 3, none⟩ = some (.int .u64 5) := Blk.cell HU14.out 3 _ rfl
  have c0 : w14.cell? ⟨w.heap.size, 0, none⟩ = some (.int .i64 2) := Blk.cell HK14.out 0 _ rfl
  have c1 : w14.cell? ⟨w.heap.size, 1, none⟩ = some (.string ⟨#[98]⟩) := Blk.cell HK14.out 1 _ rfl
  have c2 : w14.cell? ⟨w.heap.size, 2, none⟩ = some (.int .i64 1) := Blk.cell HK14.out 2 _ rfl
  have c3 : w14.cell? ⟨w.heap.size, 3, none⟩ = some (.int .u64 5) := Blk.cell HK14.out 3 _ rfl
  go_wp2_with fail
  refine (ex_may1 _).mono ?_; rintro e w15 ⟨rfl, hb15⟩
  have z15 := hb15.size
  have HK15 : Hid (Blk w15 w.heap.size [.int .i64 2, .string ⟨#[98]⟩, .int .i64 1, .int .u64 5]) := Blk.below HK14.out hb15 (by omega)
  have HB15 : Hid (Below w.heap.size w w15) := Below.trans HB14.out (hb15.mono HB14.out.size)
  clear hb15 HK14 HB14 c0 c1 c2 c3
  clear u0 u1 u2 u3 HU14
  have c0 : w15.cell? ⟨w.heap.size, 0, none⟩ = some (.int .i64 2) := Blk.cell HK15.out 0 _ rfl
  have c1 : w15.cell? ⟨w.heap.size, 1, none⟩ = some (.string ⟨#[98]⟩) := Blk.cell HK15.out 1 _ rfl
  have c2 : w15.cell? ⟨w.heap.size, 2, none⟩ = some (.int .i64 1) := Blk.cell HK15.out 2 _ rfl
  have c3 : w15.cell? ⟨w.heap.size, 3, none⟩ = some (.int .u64 5) := Blk.cell HK15.out 3 _ rfl
  go_wp2_with fail
  refine (ex_may2 _).mono ?_; rintro e w16 ⟨rfl, hb16⟩
  have z16 := hb16.size
  have HK16 : Hid (Blk w16 w.heap.size [.int .i64 2, .string ⟨#[98]⟩, .int .i64 1, .int .u64 5]) := Blk.below HK15.out hb16 (by omega)
  have HB16 : Hid (Below w.heap.size w w16) := Below.trans HB15.out (hb16.mono HB15.out.size)
  clear hb16 HK15 HB15 c0 c1 c2 c3
  have c0 : w16.cell? ⟨w.heap.size, 0, none⟩ = some (.int .i64 2) := Blk.cell HK16.out 0 _ rfl
  have c1 : w16.cell? ⟨w.heap.size, 1, none⟩ = some (.string ⟨#[98]⟩) := Blk.cell HK16.out 1 _ rfl
  have c2 : w16.cell? ⟨w.heap.size, 2, none⟩ = some (.int .i64 1) := Blk.cell HK16.out 2 _ rfl
  have c3 : w16.cell? ⟨w.heap.size, 3, none⟩ = some (.int .u64 5) := Blk.cell HK16.out 3 _ rfl
  go_wp2_with fail
  refine (ex_may3 _).mono ?_; rintro e w17 ⟨rfl, hb17⟩
  have z17 := hb17.size
  have HK17 : Hid (Blk w17 w.heap.size [.int .i64 2, .string ⟨#[98]⟩, .int .i64 1, .int .u64 5]) := Blk.below HK16.out hb17 (by omega)
  have HB17 : Hid (Below w.heap.size w w17) := Below.trans HB16.out (hb17.mono HB16.out.size)
  clear hb17 HK16 HB16 c0 c1 c2 c3
  go_wp2_with fail
  refine (ex_equal _).mono ?_; rintro e w18 ⟨rfl, hb18⟩
  have z18 := hb18.size
  have HK18 : Hid (Blk w18 w.heap.size [.int .i64 2, .string ⟨#[98]⟩, .int .i64 1, .int .u64 5]) := Blk.below HK17.out hb18 (by omega)
  have HB18 : Hid (Below w.heap.size w w18) := Below.trans HB17.out (hb18.mono HB17.out.size)
  clear hb18 HK17 HB17
  go_wp2_with fail
  refine (ex_unequal _).mono ?_; rintro e w19 ⟨rfl, hb19⟩
  have z19 := hb19.size
  have HK19 : Hid (Blk w19 w.heap.size [.int .i64 2, .string ⟨#[98]⟩, .int .i64 1, .int .u64 5]) := Blk.below HK18.out hb19 (by omega)
  have HB19 : Hid (Below w.heap.size w w19) := Below.trans HB18.out (hb19.mono HB18.out.size)
  clear hb19 HK18 HB18
  have c0 : w19.cell? ⟨w.heap.size, 0, none⟩ = some (.int .i64 2) := Blk.cell HK19.out 0 _ rfl
  have c1 : w19.cell? ⟨w.heap.size, 1, none⟩ = some (.string ⟨#[98]⟩) := Blk.cell HK19.out 1 _ rfl
  have c2 : w19.cell? ⟨w.heap.size, 2, none⟩ = some (.int .i64 1) := Blk.cell HK19.out 2 _ rfl
  have c3 : w19.cell? ⟨w.heap.size, 3, none⟩ = some (.int .u64 5) := Blk.cell HK19.out 3 _ rfl
  go_wp2_with fail
  refine (ex_right _).mono ?_; rintro e w20 ⟨rfl, hb20⟩
  have z20 := hb20.size
  have HK20 : Hid (Blk w20 w.heap.size [.int .i64 2, .string ⟨#[98]⟩, .int .i64 1, .int .u64 5]) := Blk.below HK19.out hb20 (by omega)
  have HB20 : Hid (Below w.heap.size w w20) := Below.trans HB19.out (hb20.mono HB19.out.size)
  clear hb20 HK19 HB19 c0 c1 c2 c3
  go_wp2_with fail
  go_ret
  exact ⟨by simp, HB20.out⟩
end Go.Proofs.YtlodahlinncpcaaDoor.Mc
