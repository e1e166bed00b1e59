/-
  What is gone is free again: with all gone nothing is used, and what did not fit does (the law QuotaFrees). No conditions.
-/
import Derived.Test.YtepoodfihemmcaaFrame

import Derived.Test.YtepoodfihemmcaaQuotaLaw

import Derived.Deep.DeepCutAuto

import Derived.Test.YtepoodfihemmcaaFramePuts

namespace Go.Proofs.Ytepoodfihemmcaa.quotaFrees

open Go.ChangeShapes Go.WideShapes Go.ChangeAt Go.RowKit

open Go.ChangeMaps (open_string shut_string)

set_option linter.unusedVariables false

set_option linter.unusedSimpArgs false

theorem sizeBig (s : ByteArray) (hs : s.size ≤ 32) (z : Int) (hz : 2 + (s.size : Int) = z) (u : World) : Calls Try.prog 24 #[.agg [Value.string ⟨#[122]⟩, .string ⟨#[122]⟩, .string s, .bool false].toArray] u fun e w' => e = .returned (.int .i64 z) ∧ Below u.heap.size u w' := by
  have h1 := It.wsize_any (Q.big s) u (Qm.ok_right (Q.big_right hs).1)
  have h2 : ((I.size (Q.big s) : Nat) : Int) = z := by rw [← hz]; exact (Q.big_right hs).2
  rw [h2] at h1
  exact h1
theorem gone_step (L : List I.Wt) (j : Nat) (h : j < L.length) : (L.take (j + 1)).map Q.gone = (L.take j).map Q.gone ++ [Q.gone (L.getD j I.none_)] := by
  rw [List.take_succ_eq_append_getElem h, List.map_append, List.getD_eq_getElem?_getD, List.getElem?_eq_getElem h]
  rfl
set_option maxHeartbeats 32000000 in
set_option maxRecDepth 100000 in
theorem walk (dv0 : Value) (DL0 : List I.Pt) (a1 : ByteArray) (z1 : a1.size ≤ 140737488351232) (w : World) (w0 : It.IsPs w dv0 DL0) (m0 : ∀ x ∈ DL0, I.POk x) :
    Calls Try.prog 7 #[dv0, .string a1] w fun e w' => e = .returned (.bool true) ∧ Below w.heap.size w w' := by
  have HDS := Lib.hid w0
  have HMO : Hid (∀ x ∈ DL0, I.POk x) := m0
  obtain ⟨sa, cap, rfl, hca, hma, _⟩ := w0.is
  clear hca hma m0 w0
  obtain ⟨LW, HLW⟩ : ∃ LW, Hid (I.wrs 8 true DL0 [] = LW) := ⟨_, rfl⟩
  have CW := Lib.hid (fun u (hu : Below w.heap.size w u) => It.writes_true _ DL0 8 u (HDS.out.below hu) HMO.out (by decide))
  have hwh := I.wrs_whole DL0 [] (by rfl) (by simp)
  have hown := Q.wrs_own 8 DL0 [] (fun x hx => by cases hx)
  rw [HLW.out] at CW hwh hown
  have HOK := Lib.hid hwh.1
  have HL8 := Lib.hid hwh.2
  have HOW := Lib.hid hown
  obtain ⟨d0, HD0⟩ : ∃ d, Hid (DL0.length = d) := ⟨_, rfl⟩
  rw [HD0.out] at CW
  rw [HD0.out]
  clear hwh hown HDS HMO HLW HD0
  go_enter Try.func7, Try.ntmps7
  go_wp2_with fail
  refine (Qm.examples_any _).mono ?_; rintro e w1 ⟨rfl, hb1⟩
  have B1 : Hid (Below w.heap.size w w1) := hb1
  clear hb1
  go_wp2_with fail
  refine (CW.out _ B1.out).mono ?_; rintro e w2 ⟨v', rfl, how, hb⟩
  have V2 : Hid (It.IsWs w2 v' LW) := how.is
  have B2 : Hid (Below w.heap.size w w2) := Below.trans B1.out (hb.mono B1.out.size)
  clear how hb CW B1
  obtain ⟨va, vc, ev⟩ := Qm.IsWs.slice V2.out
  subst ev
  obtain ⟨m, HM⟩ : ∃ m, Hid (LW.length = m) := ⟨_, rfl⟩
  rw [HM.out] at V2 HL8 HOK ⊢
  have hm8 : m ≤ 8 := HL8.out
  go_wp2_with fail
  go_loopw [7, 8] (fun s i wr => ∃ (j : Nat) (q : Int), j ≤ m ∧ i = .int .i64 (j : Int) ∧ s = .int .i64 q ∧ Hid (Q.sumS (LW.take j) = q) ∧ Hid (It.IsWs wr (.slice va m vc) LW) ∧ Hid (Below w.heap.size w wr)) (fun _ i _ => m - (intOf i).toNat)
  case atStart => exact ⟨0, 0, by omega, rfl, rfl, rfl, V2, B2⟩
  case round =>
    obtain ⟨j, q, hjm, rfl, rfl, HS, HV, HB⟩ := hrel
    clear V2 B2
    by_cases hlt : j < m
    · have i1 : (j : Int) < (m : Int) := by omega
      obtain ⟨g, off, cap', hv, hg0, hrow⟩ := It.IsWs.at HV.out j (by rw [HM.out]; exact hlt)
      obtain rfl : va = some ⟨g, off, none⟩ := by injection hv
      clear hv
      have hst := Q.sumS_step LW j (by rw [HM.out]; exact hlt)
      have hbd := Q.sumS_bounds LW j (by rw [HM.out]; omega) (Q.okTo_le HOK.out hjm)
      have hrt := I.okTo_right HOK.out j hlt
      obtain ⟨x, HX⟩ : ∃ x, Hid (LW.getD j I.none_ = x) := ⟨_, rfl⟩
      rw [HX.out] at hrow hst hrt
      clear HX
      have hsz := Q.sz_right hrt
      have CS := Lib.hid (fun u => It.wsize_any x u (Qm.ok_right hrt))
      obtain ⟨z, HZ⟩ : ∃ z : Int, Hid (Q.sz x = z) := ⟨_, rfl⟩
      rw [HZ.out] at hst hsz
      rw [HS.out] at hst hbd
      change Hid (∀ u, Calls Try.prog 24 #[It.WV x] u fun e w' => e = .returned (.int .i64 (Q.sz x)) ∧ Below u.heap.size u w') at CS
      rw [HZ.out] at CS
      obtain ⟨xb, xk, xv, xg⟩ := x
      have CS : Hid (∀ u, Calls Try.prog 24 #[.agg [Value.string xb, .string xk, .string xv, .bool xg].toArray] u fun e w' => e = .returned (.int .i64 z) ∧ Below u.heap.size u w') := CS.out
      have HROW : Hid (wr.rangeAt g (off + 4 * j) [Value.string xb, .string xk, .string xv, .bool xg]) := hrow
      have HST := Lib.hid hst
      have hix : ∀ w, (Instr.indexAt 31 (.slice (some ⟨g, off, none⟩) m vc) (.int .i64 (j : Int))).run Try.prog w = .ok (.pointer (some ⟨g, off + 4 * j, none⟩)) w := fun w => It.index_iw g off m vc j hlt w
      have kq : IntKind.i64.wrap (q + z) = q + z := Qm.wrap_small _ (by omega) (by omega)
      clear hrow hst hrt hg0 HZ
      go_wp2_with (first | refine wpList_load_mid rfl 45 _ rfl g (off + 4 * j) rfl [Value.string xb, .string xk, .string xv, .bool xg] _ HROW.out Try.underlying45 rfl It.Try.size_w ?_)
      refine (CS.out _).mono ?_; rintro e w3 ⟨rfl, hb⟩
      have HV3 := Lib.hid (HV.out.below hb)
      have HB3 : Hid (Below w.heap.size w w3) := Below.trans HB.out (hb.mono HB.out.size)
      clear hb HV HB HROW CS hix
      go_wp2_with fail
      go_roundw
      case rel => exact ⟨j + 1, q + z, by omega, by go_num, rfl, HST, HV3, HB3⟩
      case measure => simp [intOf]; omega
    · obtain rfl : j = m := by omega
      have hbd := Q.sumS_bounds LW j (by rw [HM.out]; exact Nat.le_refl _) HOK.out
      rw [HS.out] at hbd
      have HTK : Hid (LW.take j = LW) := List.take_of_length_le (by rw [HM.out]; exact Nat.le_refl _)
      have HT1 : Hid (Q.tot (Q.layAll [] LW) = q) := by
        have := Q.whole_tot LW j (by rw [HM.out]; exact Nat.le_refl _) HOK.out
        rw [HTK.out] at this
        rw [HTK.out] at HS
        show _ = _
        rw [this]; exact HS.out
      clear HS HTK
      have hq1 : 0 ≤ q := hbd.1
      have hq2 : q ≤ 512 := by omega
      have k1 : IntKind.i64.wrap (q + 1) = q + 1 := Qm.wrap_small _ (by omega) (by omega)
      have CN := Lib.hid (fun u => Qm.new_ok (q + 1) u (by omega) (by omega))
      clear hbd
      go_wp2_with fail
      refine (CN.out _).mono ?_; rintro e w3 ⟨b, mb, rfl, hqo, hb, n1, n2⟩
      have HQ3 := Lib.hid hqo
      have HV3 := Lib.hid (HV.out.below hb)
      have HB3 : Hid (Below w.heap.size w w3) := Below.trans HB.out (hb.mono HB.out.size)
      have N2 : Hid (w.heap.size ≤ mb) := Nat.le_trans HB.out.size n2
      clear hqo hb n1 n2 CN HV HB
      obtain ⟨Mz, HMz⟩ : ∃ M, M = min a1.size 32 := ⟨_, rfl⟩
      have HMIN : Hid (Mz = min a1.size 32) := HMz
      obtain ⟨s2, HS2⟩ : ∃ s2, Hid (a1.extract 0 Mz = s2) := ⟨_, rfl⟩
      have hs2 : s2.size = Mz := by rw [← HS2.out, ByteArray.size_extract]; omega
      clear HMz
      go_upto_region 13 with fail
      go_cut [11] (fun x11 wx => ∃ bg wq, wq = wx ∧ x11 = .slice (some ⟨bg, 0, none⟩) 1 1 ∧ Hid (Blk wq bg [Value.string ⟨#[122]⟩, .string ⟨#[122]⟩, .string s2, .bool false]) ∧ Hid (Below w3.heap.size w3 wq) ∧ Hid (bg < wq.heap.size))
      case first =>
        by_cases h32 : 32 < a1.size
        · have hm : Mz = 32 := by have := HMIN.out; omega
          subst hm
          have h5 := HS2.out
          go_wp2_with (first | refine It.build_iw rfl _ rfl (Q.big s2) rfl ?_)
          intro w4 A B Z
          have HA : Hid (Blk w4 w3.heap.size [Value.string ⟨#[122]⟩, .string ⟨#[122]⟩, .string s2, .bool false]) := A
          have HB4 := Lib.hid B
          have HZ4 : Hid (w3.heap.size < w4.heap.size) := by show _ < _; omega
          clear A B Z
          go_wp2_with fail
          go_meet
          exact ⟨_, _, rfl, rfl, HA, HB4, HZ4⟩
        · have hm : Mz = a1.size := by have := HMIN.out; omega
          subst hm
          have h5 := HS2.out
          go_wp2_with (first | refine It.build_iw rfl _ rfl (Q.big s2) rfl ?_)
          intro w4 A B Z
          have HA : Hid (Blk w4 w3.heap.size [Value.string ⟨#[122]⟩, .string ⟨#[122]⟩, .string s2, .bool false]) := A
          have HB4 := Lib.hid B
          have HZ4 : Hid (w3.heap.size < w4.heap.size) := by show _ < _; omega
          clear A B Z
          go_wp2_with fail
          go_meet
          exact ⟨_, _, rfl, rfl, HA, HB4, HZ4⟩
      case rest =>
      obtain ⟨bg, w5, rfl, rfl, HG5, HBx, HZ5⟩ := hcut
      have hs32 : s2.size ≤ 32 := by have := HMIN.out; omega
      obtain ⟨z, HZZ⟩ : ∃ z : Int, Hid (2 + (s2.size : Int) = z) := ⟨_, rfl⟩
      have hz1 : 2 ≤ z ∧ z ≤ 34 := by have := HZZ.out; omega
      have CS := Lib.hid (fun u => sizeBig s2 hs32 z HZZ.out u)
      have HQ5 := Lib.hid (HQ3.out.more HBx.out)
      have HV5 := Lib.hid (HV3.out.below HBx.out)
      have HB5 : Hid (Below w.heap.size w w5) := Below.trans HB3.out (HBx.out.mono HB3.out.size)
      have HLZ : Hid (Q.look (Q.layAll [] LW) Q.zz = 0) := by
        show _ = _
        rw [Q.look_all_not Q.zz Q.Good.nil HOW.out]
        rfl
      have HG1 : Hid (Q.Good (Q.layAll [] LW)) := Q.layAll_good LW Q.Good.nil
      have HGN : Hid (Q.layAll (Q.layAll [] LW) (LW.map Q.gone) = []) := Q.all_gone (by rw [HM.out]; exact HOK.out)
      have HBT : Hid (Q.tot (Q.layAll (Q.layAll [] LW) [Q.big s2]) = q + z) := by
        show _ = _
        rw [Q.big_tot hs32 HLZ.out, HT1.out, HZZ.out]
      have HBZ : Hid (Q.tot (Q.layAll [] [Q.big s2]) = z) := by
        show _ = _
        rw [Q.big_tot (M := []) hs32 rfl, HZZ.out]
        show 0 + z = z
        omega
      have HLN : Hid ((Q.layAll [] [Q.big s2]).length = 1) := Q.big_len hs32
      have CT1 : Hid (∀ u v, Qm.Qo u b mb (q + 1) [] → It.IsWs u v LW → Calls Try.prog 16 #[.pointer (some ⟨b, 0, none⟩), v] u fun e w' => e = .returned (.bool true) ∧ Qm.Qo w' b mb (q + 1) (Q.layAll [] LW) ∧ Qm.Only mb u w') := fun u v hu hv => by
        have := Qm.take_any b mb (q + 1) [] v LW u hu Q.Good.nil hv q HT1.out (by omega) (by omega) true (decide_eq_true (by omega))
        rw [if_pos rfl] at this
        exact this
      have CF : Hid (∀ u v, Qm.Qo u b mb (q + 1) (Q.layAll [] LW) → It.IsWs u v [Q.big s2] → Calls Try.prog 15 #[.pointer (some ⟨b, 0, none⟩), v] u fun e w' => e = .returned (.bool false) ∧ Below u.heap.size u w') := fun u v hu hv =>
        Qm.fits_any b mb (q + 1) _ v _ u hu HG1.out hv (q + z) HBT.out (by omega) (by omega) false (decide_eq_false (by omega))
      have CT2 : Hid (∀ u v, Qm.Qo u b mb (q + 1) (Q.layAll [] LW) → It.IsWs u v (LW.map Q.gone) → Calls Try.prog 16 #[.pointer (some ⟨b, 0, none⟩), v] u fun e w' => e = .returned (.bool true) ∧ Qm.Qo w' b mb (q + 1) [] ∧ Qm.Only mb u w') := fun u v hu hv => by
        have := Qm.take_any b mb (q + 1) _ v _ u hu HG1.out hv 0 (by rw [HGN.out]; rfl) (by omega) (by omega) true (decide_eq_true (by omega))
        rw [if_pos rfl, HGN.out] at this
        exact this
      have CT3 : Hid (∀ u v, Qm.Qo u b mb (q + 1) [] → It.IsWs u v [Q.big s2] → Calls Try.prog 16 #[.pointer (some ⟨b, 0, none⟩), v] u fun e w' => e = .returned (.bool (decide (z ≤ q + 1))) ∧ Qm.Qo w' b mb (q + 1) (if decide (z ≤ q + 1) = true then Q.layAll [] [Q.big s2] else []) ∧ Qm.Only mb u w') := fun u v hu hv =>
        Qm.take_any b mb (q + 1) [] v _ u hu Q.Good.nil hv z HBZ.out (by omega) (by omega) _ rfl
      have kz : IntKind.i64.wrap (q + z) = q + z := Qm.wrap_small _ (by omega) (by omega)
      have jz : decide (q + z ≤ q + 1) = false := decide_eq_false (by omega)
      have jz2 : decide (z ≤ 1) = false := decide_eq_false (by omega)
      have hix0 : ∀ w, (Instr.indexAt 31 (.slice (some ⟨bg, 0, none⟩) 1 1) (.int .i64 0)).run Try.prog w = .ok (.pointer (some ⟨bg, 0, none⟩)) w := fun w => It.index_iw bg 0 1 1 0 (by decide) w
      clear HQ3 HV3 HB3 HBx HLZ HGN HBT HT1 HMIN HS2 hs2 HOW HG1
      go_wp2_with fail
      refine (CT1.out _ _ HQ5.out HV5.out).mono ?_; rintro e w6 ⟨rfl, hqo, ho⟩
      have HQ6 := Lib.hid hqo
      have HV6 := Lib.hid (ho.ws HQ5.out.map.isMap HV5.out)
      have HG6 : Hid (Blk w6 bg [Value.string ⟨#[122]⟩, .string ⟨#[122]⟩, .string s2, .bool false]) := Qm.Blk.only HG5.out ho HZ5.out (Qm.not_map (HG5.out.cell 0 _ rfl) HQ5.out.map.isMap)
      have HZ6 : Hid (bg < w6.heap.size) := Nat.lt_of_lt_of_le HZ5.out ho.size
      have HB6 : Hid (Below w.heap.size w w6) := Below.trans HB5.out (ho.below N2.out HB5.out.size)
      clear hqo ho HQ5 HV5 HG5 HZ5 HB5 CT1
      have HI6 : Hid (It.IsWs w6 (.slice (some ⟨bg, 0, none⟩) 1 1) [Q.big s2]) := It.IsWs.one HG6.out HZ6.out
      go_wp2_with fail
      refine (CF.out _ _ HQ6.out HI6.out).mono ?_; rintro e w7 ⟨rfl, hb⟩
      have HQ7 := Lib.hid (HQ6.out.more hb)
      have HV7 := Lib.hid (HV6.out.below hb)
      have HG7 : Hid (Blk w7 bg [Value.string ⟨#[122]⟩, .string ⟨#[122]⟩, .string s2, .bool false]) := Blk.below HG6.out hb HZ6.out
      have HZ7 : Hid (bg < w7.heap.size) := Nat.lt_of_lt_of_le HZ6.out hb.size
      have HB7 : Hid (Below w.heap.size w w7) := Below.trans HB6.out (hb.mono HB6.out.size)
      clear hb HQ6 HV6 HG6 HZ6 HB6 HI6 CF
      go_wp2_with (first | refine blk_load rfl 45 _ rfl bg rfl [Value.string ⟨#[122]⟩, .string ⟨#[122]⟩, .string s2, .bool false] HG7.out _ Try.underlying45 rfl It.Try.size_w ?_)
      refine (CS.out _).mono ?_; rintro e wl ⟨rfl, hb⟩
      have HQ8 := Lib.hid (HQ7.out.more hb)
      have HV8 := Lib.hid (HV7.out.below hb)
      have HG8 : Hid (Blk wl bg [Value.string ⟨#[122]⟩, .string ⟨#[122]⟩, .string s2, .bool false]) := Blk.below HG7.out hb HZ7.out
      have HZ8 : Hid (bg < wl.heap.size) := Nat.lt_of_lt_of_le HZ7.out hb.size
      have HB8 : Hid (Below w.heap.size w wl) := Below.trans HB7.out (hb.mono HB7.out.size)
      clear hb HQ7 HV7 HG7 HZ7 HB7
      have HO0 : Hid (It.OW 45 wl wl.heap.size (.slice none 0 0) ((LW.take 0).map Q.gone)) := It.OW.nil _ _ _
      have HW0 : Hid (Below wl.heap.size wl wl) := Below.refl _ _
      go_wp2_with fail
      go_loopw [15, 16] (fun t i wr => ∃ (k : Nat), k ≤ j ∧ i = .int .i64 (k : Int) ∧ Hid (It.OW 45 wr wl.heap.size t ((LW.take k).map Q.gone)) ∧ Hid (Below wl.heap.size wl wr)) (fun _ i _ => j - (intOf i).toNat)
      case atStart => exact ⟨0, by omega, rfl, HO0, HW0⟩
      case round =>
        obtain ⟨k, hkj, rfl, HO, HW⟩ := hrel
        clear HO0 HW0
        by_cases hlk : k < j
        · have i3 : (k : Int) < (j : Int) := by omega
          obtain ⟨g, off, cap', hv, hg0, hrow⟩ := It.IsWs.at HV8.out k (by rw [HM.out]; exact hlk)
          obtain rfl : va = some ⟨g, off, none⟩ := by injection hv
          clear hv
          have hgs := gone_step LW k (by rw [HM.out]; exact hlk)
          obtain ⟨x, HX⟩ : ∃ x, Hid (LW.getD k I.none_ = x) := ⟨_, rfl⟩
          rw [HX.out] at hrow hgs
          clear HX
          obtain ⟨xb, xk, xv, xg⟩ := x
          have HGS := Lib.hid hgs
          have HR2 : Hid (∀ u, Below wl.heap.size wl u → u.cell? ⟨g, off + 4 * k, none⟩ = some (.string xb) ∧ u.cell? ⟨g, off + 4 * k + 1, none⟩ = some (.string xk)) := fun u hu => ⟨by rw [hu.cell (p := ⟨g, off + 4 * k, none⟩) hg0]; exact hrow 0 _ rfl, by rw [hu.cell (p := ⟨g, off + 4 * k + 1, none⟩) hg0]; exact hrow 1 _ rfl⟩
          have hix : ∀ w, (Instr.indexAt 31 (.slice (some ⟨g, off, none⟩) j vc) (.int .i64 (k : Int))).run Try.prog w = .ok (.pointer (some ⟨g, off + 4 * k, none⟩)) w := fun w => It.index_iw g off j vc k hlk w
          have hlk2 : ((LW.take k).map Q.gone).length = k := by rw [List.length_map, List.length_take]; have := HM.out; omega
          obtain ⟨ta, tc, ev⟩ := Qm.IsWs.slice HO.out.is
          rw [hlk2] at ev
          subst ev
          have HLE := Lib.hid hlk2
          have HD := Lib.hid (HR2.out _ (Below.drew HW.out))
          have HOd := Lib.hid (It.OW.drew HO.out)
          have HWd : Hid (Below wl.heap.size wl wr.drew) := Below.drew HW.out
          clear hrow hgs hg0 hlk2 HO HW
          go_wp2_with fail
          refine region_pickC (fun u => u.cell? ⟨g, off + 4 * k, none⟩ = some (.string xb) ∧ u.cell? ⟨g, off + 4 * k + 1, none⟩ = some (.string xk)) 14 [0, 1, 2, 3, 4, 5, 6, 7, 8, 9, 10, 11] [12, 13, 14] Try.mixed (by kernel_rfl) rfl (by kernel_rfl) HD.out ?_
          refine p_readC rfl ?_
          refine c_move rfl _ rfl (.slice ta k tc) rfl (fun _ _ _ h => h) (fun K hK => ?_)
          go_simp
          refine hK _ ?_
          clear hK K
          refine c_nil ?_
          refine p_readC rfl ?_
          refine c_move rfl _ rfl (.slice (some ⟨g, off, none⟩) j vc) rfl (fun _ _ _ h => h) (fun K hK => ?_)
          go_simp
          refine hK _ ?_
          clear hK K
          refine c_nil ?_
          refine p_readC rfl ?_
          refine c_move rfl _ rfl (.int .i64 (k : Int)) rfl (fun _ _ _ h => h) (fun K hK => ?_)
          go_simp
          refine hK _ ?_
          clear hK K
          refine c_nil ?_
          refine p_readC rfl ?_
          refine c_value rfl (.pointer (some ⟨g, off + 4 * k, none⟩)) (fun u hu => by go_simp) (fun _ _ _ h => h) (fun K hK => ?_)
          go_simp
          refine hK _ ?_
          clear hK K
          refine c_nil ?_
          refine p_readC rfl ?_
          refine c_value rfl (.pointer (some ⟨g, off + 4 * k, none⟩)) (fun u hu => by go_simp) (fun _ _ _ h => h) (fun K hK => ?_)
          go_simp
          refine hK _ ?_
          clear hK K
          refine c_nil ?_
          refine p_readC rfl ?_
          refine c_value rfl (.string xb) (fun u hu => by have h1 := hu.1; go_simp) (fun _ _ _ h => h) (fun K hK => ?_)
          go_simp
          refine hK _ ?_
          clear hK K
          refine c_nil ?_
          refine p_readC rfl ?_
          refine c_move rfl _ rfl (.slice (some ⟨g, off, none⟩) j vc) rfl (fun _ _ _ h => h) (fun K hK => ?_)
          go_simp
          refine hK _ ?_
          clear hK K
          refine c_nil ?_
          refine p_readC rfl ?_
          refine c_move rfl _ rfl (.int .i64 (k : Int)) rfl (fun _ _ _ h => h) (fun K hK => ?_)
          go_simp
          refine hK _ ?_
          clear hK K
          refine c_nil ?_
          refine p_readC rfl ?_
          refine c_value rfl (.pointer (some ⟨g, off + 4 * k, none⟩)) (fun u hu => by go_simp) (fun _ _ _ h => h) (fun K hK => ?_)
          go_simp
          refine hK _ ?_
          clear hK K
          refine c_nil ?_
          refine p_readC rfl ?_
          refine c_value rfl (.pointer (some ⟨g, off + 4 * k + 1, none⟩)) (fun u hu => by go_simp) (fun _ _ _ h => h) (fun K hK => ?_)
          go_simp
          refine hK _ ?_
          clear hK K
          refine c_nil ?_
          refine p_readC rfl ?_
          refine c_value rfl (.string xk) (fun u hu => by have h1 := hu.2; go_simp) (fun _ _ _ h => h) (fun K hK => ?_)
          go_simp
          refine hK _ ?_
          clear hK K
          refine c_nil ?_
          refine p_readC rfl ?_
          refine c_value rfl (.agg #[.string xb, .string xk, .string ⟨#[]⟩, .bool true]) (fun u hu => by go_simp) (fun _ _ _ h => h) (fun K hK => ?_)
          go_simp
          refine hK _ ?_
          clear hK K
          refine c_nil ?_
          refine p_nilC ?_
          refine p_stepC rfl ?_
          refine It.build_iw rfl _ rfl (xb, xk, ⟨#[]⟩, true) rfl ?_
          intro u1 A B Z
          have HA1 : Hid (Blk u1 wr.drew.heap.size (It.wc (xb, xk, ⟨#[]⟩, true))) := A
          have HO1 := Lib.hid (It.OW.below HOd.out B)
          have HW1 : Hid (Below wl.heap.size wl u1) := Below.trans HWd.out (B.mono HWd.out.size)
          clear A B Z
          go_wp2_with fail
          refine And.intro (fun _ => HR2.out _ HW1.out) ?_
          refine p_stepC rfl ?_
          refine It.append_gen (t := 45) Try.underlying31 It.Try.info_iw _ rfl _ _ rfl wl.heap.size _ _ rfl HO1.out wr.drew.heap.size rfl (xb, xk, ⟨#[]⟩, true) HA1.out (by rw [HLE.out]; omega) HW1.out.size ?_
          intro v2 u2 ho hb hs
          have HO2 : Hid (It.OW 45 u2 wl.heap.size v2 ((LW.take (k + 1)).map Q.gone)) := by show It.OW _ _ _ _ _; rw [HGS.out]; exact ho
          have HW2 : Hid (Below wl.heap.size wl u2) := HW1.out.trans hb
          clear ho hb hs
          go_wp2_with fail
          refine And.intro (fun _ => HR2.out _ HW2.out) ?_
          refine p_stepC rfl ?_
          go_wp2_with fail
          refine And.intro (fun h9 => absurd h9 (by decide)) ?_
          refine p_endC ?_
          go_wp2_with fail
          go_roundw
          case rel => exact ⟨k + 1, by omega, by go_num, HO2, HW2⟩
          case measure => simp [intOf]; omega
        · obtain rfl : k = j := by omega
          have HTK : Hid (LW.take k = LW) := List.take_of_length_le (by rw [HM.out]; exact Nat.le_refl _)
          have HQ9 := Lib.hid (HQ8.out.more HW.out)
          have HG9 : Hid (Blk wr bg [Value.string ⟨#[122]⟩, .string ⟨#[122]⟩, .string s2, .bool false]) := Blk.below HG8.out HW.out HZ8.out
          have HZ9 : Hid (bg < wr.heap.size) := Nat.lt_of_lt_of_le HZ8.out HW.out.size
          have HB9 : Hid (Below w.heap.size w wr) := Below.trans HB8.out (HW.out.mono HB8.out.size)
          have HV9 := Lib.hid (It.OW.is HO.out)
          rw [HTK.out] at HV9
          clear HO HW HQ8 HG8 HZ8 HB8 HV8 HTK
          go_wp2_with fail
          refine (CT2.out _ _ HQ9.out HV9.out).mono ?_; rintro e wa ⟨rfl, hqo, ho⟩
          have HQA := Lib.hid hqo
          have HGA : Hid (Blk wa bg [Value.string ⟨#[122]⟩, .string ⟨#[122]⟩, .string s2, .bool false]) := Qm.Blk.only HG9.out ho HZ9.out (Qm.not_map (HG9.out.cell 0 _ rfl) HQ9.out.map.isMap)
          have HZA : Hid (bg < wa.heap.size) := Nat.lt_of_lt_of_le HZ9.out ho.size
          have HBA : Hid (Below w.heap.size w wa) := Below.trans HB9.out (ho.below N2.out HB9.out.size)
          have HIA : Hid (It.IsWs wa (.slice (some ⟨bg, 0, none⟩) 1 1) [Q.big s2]) := It.IsWs.one HGA.out HZA.out
          clear hqo ho HQ9 HG9 HZ9 HB9 HV9 CT2
          by_cases hd : z ≤ q + 1
          · rw [decide_eq_true hd, if_pos rfl] at CT3
            have CK : Hid (∀ u, Qm.Qo u b mb (q + 1) (Q.layAll [] [Q.big s2]) → Calls Try.prog 20 #[.pointer (some ⟨b, 0, none⟩)] u fun e w' => e = .returned (.int .i64 1) ∧ w' = u) := fun u hu => by
              have := Qm.keys_any b mb (q + 1) _ u hu
              rw [HLN.out] at this
              exact this
            go_wp2_with fail
            refine (CT3.out _ _ HQA.out HIA.out).mono ?_; rintro e wb ⟨rfl, hqo, ho⟩
            have HQB := Lib.hid hqo
            have HGB : Hid (Blk wb bg [Value.string ⟨#[122]⟩, .string ⟨#[122]⟩, .string s2, .bool false]) := Qm.Blk.only HGA.out ho HZA.out (Qm.not_map (HGA.out.cell 0 _ rfl) HQA.out.map.isMap)
            have HBB : Hid (Below w.heap.size w wb) := Below.trans HBA.out (ho.below N2.out HBA.out.size)
            clear hqo ho HQA HGA HZA HBA HIA CT3
            go_wp2_with fail
            refine (CK.out _ HQB.out).mono ?_; rintro e wc ⟨rfl, h9⟩
            subst wc
            clear CK
            go_wp2_with (first | refine blk_loadg rfl 45 _ rfl bg rfl [Value.string ⟨#[122]⟩, .string ⟨#[122]⟩, .string s2, .bool false] HGB.out _ Try.underlying45 rfl It.Try.size_w ?_)
            refine (CS.out _).mono ?_; rintro e wd ⟨rfl, hb⟩
            have HQD := Lib.hid (HQB.out.more hb)
            have HBD : Hid (Below w.heap.size w wd) := Below.trans HBB.out (hb.mono HBB.out.size)
            clear hb HQB HBB HGB
            go_wp2_with fail
            go_ret
            exact ⟨rfl, HBD.out⟩
          · rw [decide_eq_false hd, if_neg (by decide)] at CT3
            have jd : decide (z ≤ q + 1) = false := decide_eq_false hd
            have CK : Hid (∀ u, Qm.Qo u b mb (q + 1) [] → Calls Try.prog 20 #[.pointer (some ⟨b, 0, none⟩)] u fun e w' => e = .returned (.int .i64 0) ∧ w' = u) := fun u hu => by
              have := Qm.keys_any b mb (q + 1) _ u hu
              skip
              exact this
            go_wp2_with fail
            refine (CT3.out _ _ HQA.out HIA.out).mono ?_; rintro e wb ⟨rfl, hqo, ho⟩
            have HQB := Lib.hid hqo
            have HGB : Hid (Blk wb bg [Value.string ⟨#[122]⟩, .string ⟨#[122]⟩, .string s2, .bool false]) := Qm.Blk.only HGA.out ho HZA.out (Qm.not_map (HGA.out.cell 0 _ rfl) HQA.out.map.isMap)
            have HBB : Hid (Below w.heap.size w wb) := Below.trans HBA.out (ho.below N2.out HBA.out.size)
            clear hqo ho HQA HGA HZA HBA HIA CT3
            go_wp2_with fail
            refine (CK.out _ HQB.out).mono ?_; rintro e wc ⟨rfl, h9⟩
            subst wc
            clear CK
            go_wp2_with (first | refine blk_loadg rfl 45 _ rfl bg rfl [Value.string ⟨#[122]⟩, .string ⟨#[122]⟩, .string s2, .bool false] HGB.out _ Try.underlying45 rfl It.Try.size_w ?_)
            refine (CS.out _).mono ?_; rintro e wd ⟨rfl, hb⟩
            have HQD := Lib.hid (HQB.out.more hb)
            have HBD : Hid (Below w.heap.size w wd) := Below.trans HBB.out (hb.mono HBB.out.size)
            clear hb HQB HBB HGB
            go_wp2_with fail
            refine (Qm.used_any b mb (q + 1) [] _ HQD.out 0 (Qm.wrap_small 0 (by decide) (by decide))).mono ?_; rintro e we ⟨rfl, hb⟩
            have HBE : Hid (Below w.heap.size w we) := Below.trans HBD.out (hb.mono HBD.out.size)
            clear hb
            go_wp2_with fail
            go_ret
            exact ⟨rfl, HBE.out⟩

set_option maxRecDepth 100000 in
theorem lifted (os : Os) (started : os.Started) (H : Type) (enc : TypeId × Value → H) :
    ReturnsInHanded {} Try.checked os 7 .any (Rows.quotaFreesSpec.pre6 enc Try.prog Try.f7 Rows.quotaFreesRow.domain false) (Rows.quotaFreesSpec.post enc Try.prog Try.f7 false true false false) := by
  refine returnsInHanded_of_change_sized (C := Try.checked) own started (by kernel_rfl) Try.func7
    (ChangeSpec.witness6 (enc := enc) (C := Try.checked) false ⟨#[], #[.slice none 0 0, .string ByteArray.empty], []⟩ 8 (by kernel_rfl) (by kernel_rfl) (by kernel_rfl) (by kernel_rfl)) ?_
  intro W base args ds gs before hval0 hW hcnd hsz0 _
  have hval : ∀ (j : Nat) t v, Try.f7.params[j]? = some t → args[j]? = some v → Value.okWide Try.prog W .any base t v := hval0
  have hW' := hW
  obtain ⟨p, q, hA0, hV, rfl, hfz, hnd⟩ := hW
  have hA : DataW.TrodAll enc Try.prog W 0 (fun _ => true) true Try.f7.params.toList args.toList ds p := hA0
  have hsz : (DataW.weightsEach Try.prog (Try.f7.params.toList ++ Rows.quotaFreesSpec.plain.varTypes Try.prog) (ds ++ gs)).all (· ≤ reachBytes) = true := hsz0
  rw [Try.params7] at hA hval hsz
  obtain ⟨rfl, rfl⟩ := trodVars_none hV
  have hAk := hA
  have hlt : ∀ x ∈ p, x.block < W.heap.size := fun x hx => by simpa using hW'.lt x (List.mem_append.2 (.inl hx))
  obtain ⟨v0, vs0, d0, ds0, p0, q0, hargs, rfl, rfl, h0, r0⟩ := trodAll_cons hA
  obtain ⟨v1, vs1, d1, ds1, p1, q1, rfl, rfl, rfl, h1, r1⟩ := trodAll_cons r0
  obtain ⟨rfl, rfl, rfl⟩ := trodAll_nil r1
  obtain rfl : args = #[v0, v1] := by cases args; simp_all
  obtain ⟨a0, len0, cap0, rfl⟩ := okWide_slice Try.underlying33 (hval 0 33 v0 rfl rfl)
  obtain ⟨DL0, w0, m0⟩ := open_puts h0 (Sz.arg hsz (j := 0) rfl rfl)
  obtain ⟨a1, rfl, rfl, rfl, w1⟩ := open_string Try.underlying9 (hval 1 9 v1 rfl rfl) h1
  have z1 := sized_string hsz (j := 1) (t := 9) rfl rfl
  clear hA0 hval0 hsz0
  refine (walk (.slice a0 len0 cap0) DL0 a1 (by rw [Array.length_toList] at z1; exact z1) W w0 m0).mono fun e W' ⟨he, hg⟩ => ?_
  subst he
  exact ⟨_, rfl, _, _, _, [], _, [], hW', (trodAll_cons_mk (shut_bool Try.underlying4 _) trodAll_mk0), trodAll_below laidOut hg _ _ _ _ (by kernel_rfl) hAk hlt, rfl, hg.frame _, fun h => by cases h⟩

theorem over : Rows.quotaFreesRow.holds Try.pinned (OpenSpec.ofChange Rows.quotaFreesSpec) :=
  OpenClaim.holds_of_wide 7 Try.f7 rfl rfl rfl rfl rfl rfl rfl ⟨rfl, rfl, rfl, rfl, rfl⟩ rfl rfl rfl rfl rfl (by kernel_rfl) Try.func7 (by kernel_rfl)
    (of_decide_eq_true (by kernel_rfl)) (by unfold Func.isWrapper; first | (rw [if_pos (by decide +kernel)]; kernel_rfl) | (rw [if_neg (by decide +kernel)]; exact ⟨rfl, rfl⟩))
    (fun os started H enc _ => lifted os started H enc)

/-- the statement -/
theorem proved : Rows.QuotaFreesSaid :=
  over
#print axioms proved

end Go.Proofs.Ytepoodfihemmcaa.quotaFrees
