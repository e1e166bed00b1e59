/-
  What is synced is never lost, whichever blocks are kept; each other block is there, or is zeros (the law DiskKeeps). No conditions.
-/
import Derived.Test.YtjeiggpjbdkpiaaFrame

import Derived.Test.YtjeiggpjbdkpiaaDiskMath

import Derived.Deep.DeepCutAuto

import Derived.Test.YtjeiggpjbdkpiaaFrameTexts

namespace Go.Proofs.Ytjeiggpjbdkpiaa.diskKeeps

open Go.ChangeShapes Go.WideShapes Go.ChangeAt Go.RowKit

open Go.ChangeMaps (open_string shut_string)

set_option linter.unusedVariables false

set_option linter.unusedSimpArgs false

set_option maxHeartbeats 8000000 in
set_option maxRecDepth 100000 in
theorem walk (a0 : Option Addr) (len0 cap0 : Nat) (X0 : Nat → ByteArray) (a1 : Int) (a2 : Int) (l0 : len0 ≤ cap0) (m0 : cap0 ≤ 9223372036854775807) (zs0 : ∀ i, i < len0 → (X0 i).size ≤ 140737488355328) (w1 : (Lit.int .u32 a1).wf = true) (w2 : (Lit.int .u64 a2).wf = true) (w : World) (w0 : IsVals Value.string w a0 len0 X0) :
    Calls Try.prog 3 #[.slice a0 len0 cap0, .int .u32 a1, .int .u64 a2] w fun e w' => e = .returned (.bool true) ∧ Below w.heap.size w w' := by
  have h1 : 0 ≤ a1 ∧ a1 ≤ 4294967295 := by simpa [Lit.wf, IntKind.min, IntKind.max, IntKind.signed, IntKind.bits] using w1
  obtain ⟨sy, rfl, hsy⟩ : ∃ r : Nat, a1 = (r : Int) ∧ r < 4294967296 := ⟨a1.toNat, by omega, by omega⟩
  have h2 : 0 ≤ a2 ∧ a2 ≤ 18446744073709551615 := by simpa [Lit.wf, IntKind.min, IntKind.max, IntKind.signed, IntKind.bits] using w2
  obtain ⟨kp, rfl, hkp⟩ : ∃ r : Nat, a2 = (r : Int) ∧ r < 2 ^ 64 := ⟨a2.toNat, by omega, by omega⟩
  have HK := Lib.hid hkp
  have HW : Hid (IsVals Value.string w a0 len0 X0) := w0
  have HZ : Hid (∀ i, i < len0 → (X0 i).size ≤ 140737488355328) := zs0
  have CN : Hid (∀ u : World, Calls Try.prog 7 #[.int .i64 1048576] u fun e w' => e = .returned (.tuple #[.pointer (some ⟨u.heap.size, 0, none⟩), .int .i64 0]) ∧ Dk.Raw w' u.heap.size 1048576 false (.slice none 0 0) [] 0 (.slice none 0 0) [] ∧ Below u.heap.size u w') := fun u => Dk.new_yes 1048576 u (by decide) (by decide)
  clear w1 w2 h1 h2 w0 zs0 hkp
  go_enter Try.func3, Try.ntmps3
  go_wp2_with fail
  refine (Dk.examples_any _).mono ?_; rintro e u1 ⟨rfl, hb1⟩
  have B1 := Lib.hid hb1
  clear hb1
  go_wp2_with fail
  refine (CN.out _).mono ?_; rintro e u2 ⟨rfl, hr, hb2⟩
  have R2 := Lib.hid hr
  have B2 := Lib.hid (Below.trans B1.out (hb2.mono B1.out.size))
  have Z1 := Lib.hid B1.out.size
  clear hr hb2 CN B1
  go_wp2_with fail
  go_loopw [14, 10, 11, 12, 13] (fun iv pv av wv lv wr => ∃ (j m : Nat) (sP sA sW : ByteArray) (P : List UInt8) (B : List (List UInt8)) (tv ev : Value), j ≤ len0 ∧ j ≤ 20 ∧ m ≤ j ∧ iv = .int .i64 (j : Int) ∧ pv = .string sP ∧ av = .string sA ∧ wv = .string sW ∧ lv = .int .i64 (m : Int) ∧ Hid (B.length = m) ∧ Hid (Dk.S P = sP) ∧ Hid (Dk.S (P ++ B.flatten) = sA) ∧ Hid (Dk.S (Dk.lostB kp 0 B) = sW) ∧ Hid ((P ++ B.flatten).length ≤ 100 * j) ∧ Hid (Dk.Raw wr u1.heap.size 1048576 false tv (P ++ B.flatten) P.length ev (Dk.ends P.length B)) ∧ Hid (Below w.heap.size w wr)) (fun iv _ _ _ _ _ => 20 - (intOf iv).toNat)
  case atStart => exact ⟨0, 0, ⟨#[]⟩, ⟨#[]⟩, ⟨#[]⟩, [], [], _, _, by omega, by omega, by omega, rfl, rfl, rfl, rfl, rfl, rfl, rfl, rfl, rfl, (by show _ ≤ _; simp), R2, B2⟩
  case round =>
    obtain ⟨j, m, sP, sA, sW, P, B, tv, ev, hjl, hj20, hmj, rfl, rfl, rfl, rfl, rfl, HBL, HSP, HSA, HSW, HTL, HR, HB⟩ := hrel
    have hBm : B.length = m := HBL.out
    have hpl : sP.size ≤ 2000 := by rw [← HSP.out, Dk.S_size]; have := HTL.out; rw [List.length_append] at this; omega
    have hal : sA.size ≤ 2000 := by rw [← HSA.out, Dk.S_size]; have := HTL.out; omega
    have hwl : sW.size ≤ 2000 := by rw [← HSW.out, Dk.S_size, Dk.lostB_len]; have := HTL.out; rw [List.length_append] at this; omega
    by_cases hlt : j < len0
    · have i1 : (j : Int) < (len0 : Int) := by omega
      by_cases hl2 : j < 20
      · have i2 : (j : Int) < 20 := by omega
        obtain ⟨b0, off, rfl, hcell⟩ := (HW.out.below HB.out).at j hlt
        obtain ⟨x, HX⟩ : ∃ x, Hid (X0 j = x) := ⟨_, rfl⟩
        rw [HX.out] at hcell
        have hxz : x.size ≤ 140737488355328 := by rw [← HX.out]; exact HZ.out j hlt
        obtain ⟨N, hN⟩ : ∃ N, N = min x.size 100 := ⟨_, rfl⟩
        have HN : Hid (N = min x.size 100) := hN
        obtain ⟨s, HS⟩ : ∃ s, Hid (x.extract 0 N = s) := ⟨_, rfl⟩
        have hs : s.size = N := by rw [← HS.out, ByteArray.size_extract]; omega
        have hs100 : s.size ≤ 100 := by omega
        clear hN hBm
        go_upto_region 14 with fail
        go_cut [15] (fun v wx => v = .string s ∧ Below wr.heap.size wr wx)
        case first =>
          have hsx := HS.out
          have hb0 : b0 < wr.heap.size := World.block_lt_of_cell? wr _ hcell
          by_cases h100 : 100 < x.size
          · have i100 : ¬ (x.size : Int) < 100 := by omega
            have i101 : ¬ (x.size : Int) ≤ 100 := by omega
            have hm : N = 100 := by have := HN.out; omega
            subst hm
            refine region_w Try.mixed (by kernel_rfl) ?_
            refine w_move rfl _ rfl (.slice (some ⟨b0, off, none⟩) len0 cap0) rfl (fun K hK => ?_)
            go_simp
            refine hK _ ?_
            clear hK K
            refine w_move rfl _ rfl (.int .i64 (j : Int)) rfl (fun K hK => ?_)
            go_simp
            refine hK _ ?_
            clear hK K
            refine w_value rfl (.pointer (some ⟨b0, off + j, none⟩)) (fun u hu => by go_simp) (fun K hK => ?_)
            go_simp
            refine hK _ ?_
            clear hK K
            refine w_value rfl (.string x) (fun u hu => by have hc := keepcell hu hb0 hcell; go_simp) (fun K hK => ?_)
            go_simp
            refine hK _ ?_
            clear hK K
            refine w_move rfl _ rfl (.slice (some ⟨b0, off, none⟩) len0 cap0) rfl (fun K hK => ?_)
            go_simp
            refine hK _ ?_
            clear hK K
            refine w_move rfl _ rfl (.int .i64 (j : Int)) rfl (fun K hK => ?_)
            go_simp
            refine hK _ ?_
            clear hK K
            refine w_value rfl (.pointer (some ⟨b0, off + j, none⟩)) (fun u hu => by go_simp) (fun K hK => ?_)
            go_simp
            refine hK _ ?_
            clear hK K
            refine w_value rfl (.string x) (fun u hu => by have hc := keepcell hu hb0 hcell; go_simp) (fun K hK => ?_)
            go_simp
            refine hK _ ?_
            clear hK K
            refine w_value rfl (.int .i64 (x.size : Int)) (fun u hu => by go_simp) (fun K hK => ?_)
            go_simp
            refine hK _ ?_
            clear hK K
            refine w_value rfl (.int .i64 100) (fun u hu => by go_simp) (fun K hK => ?_)
            go_simp
            refine hK _ ?_
            clear hK K
            refine w_value rfl (.string s) (fun u hu => by go_simp) (fun K hK => ?_)
            go_simp
            refine hK _ ?_
            clear hK K
            refine w_assign rfl _ rfl (.string s) rfl (fun K hK => ?_)
            go_simp
            refine hK _ ?_
            clear hK K
            refine w_nil ?_
            intro u hu
            go_wp2_with fail
            go_meet
            exact ⟨rfl, hu⟩
          · have i100 : ¬ (100 : Int) < (x.size : Int) := by omega
            have hm : N = x.size := by have := HN.out; omega
            subst hm
            refine region_w Try.mixed (by kernel_rfl) ?_
            refine w_move rfl _ rfl (.slice (some ⟨b0, off, none⟩) len0 cap0) rfl (fun K hK => ?_)
            go_simp
            refine hK _ ?_
            clear hK K
            refine w_move rfl _ rfl (.int .i64 (j : Int)) rfl (fun K hK => ?_)
            go_simp
            refine hK _ ?_
            clear hK K
            refine w_value rfl (.pointer (some ⟨b0, off + j, none⟩)) (fun u hu => by go_simp) (fun K hK => ?_)
            go_simp
            refine hK _ ?_
            clear hK K
            refine w_value rfl (.string x) (fun u hu => by have hc := keepcell hu hb0 hcell; go_simp) (fun K hK => ?_)
            go_simp
            refine hK _ ?_
            clear hK K
            refine w_move rfl _ rfl (.slice (some ⟨b0, off, none⟩) len0 cap0) rfl (fun K hK => ?_)
            go_simp
            refine hK _ ?_
            clear hK K
            refine w_move rfl _ rfl (.int .i64 (j : Int)) rfl (fun K hK => ?_)
            go_simp
            refine hK _ ?_
            clear hK K
            refine w_value rfl (.pointer (some ⟨b0, off + j, none⟩)) (fun u hu => by go_simp) (fun K hK => ?_)
            go_simp
            refine hK _ ?_
            clear hK K
            refine w_value rfl (.string x) (fun u hu => by have hc := keepcell hu hb0 hcell; go_simp) (fun K hK => ?_)
            go_simp
            refine hK _ ?_
            clear hK K
            refine w_value rfl (.int .i64 (x.size : Int)) (fun u hu => by go_simp) (fun K hK => ?_)
            go_simp
            refine hK _ ?_
            clear hK K
            refine w_value rfl (.int .i64 (x.size : Int)) (fun u hu => by go_simp) (fun K hK => ?_)
            go_simp
            refine hK _ ?_
            clear hK K
            refine w_value rfl (.string s) (fun u hu => by go_simp) (fun K hK => ?_)
            go_simp
            refine hK _ ?_
            clear hK K
            refine w_assign rfl _ rfl (.string s) rfl (fun K hK => ?_)
            go_simp
            refine hK _ ?_
            clear hK K
            refine w_nil ?_
            intro u hu
            go_wp2_with fail
            go_meet
            exact ⟨rfl, hu⟩
        case rest =>
        obtain ⟨rfl, hbx⟩ := hcut
        have R3 := Lib.hid (HR.out.below hbx (Nat.le_refl _))
        have B3 := Lib.hid (Below.trans HB.out (hbx.mono HB.out.size))
        clear hcell HR HB hbx hs HN HS
        have hll : s.data.toList.length = s.size := Dk.len_list s
        have KA := Lib.hid (Dk.append_yes R3.out s (by have := HTL.out; omega) (by decide) (by rw [Dk.ends_len, HBL.out]; omega))
        go_wp2_with fail
        refine (KA.out).mono ?_; rintro e u3 ⟨rfl, tv3, ev3, hr, ht⟩
        rw [Dk.flat_snoc, Dk.addE_ends P B s.data.toList s.size hll (by rw [HBL.out]; omega)] at hr
        have R4 := Lib.hid hr
        have B4 := Lib.hid (Below.trans B3.out (R3.out.below_tn ht Z1.out))
        obtain ⟨sA2, HSA2⟩ : ∃ z, Hid (sA ++ s = z) := ⟨_, rfl⟩
        have hSA2 := HSA2.out
        have HA2 : Hid (Dk.S (P ++ (B ++ [s.data.toList]).flatten) = sA2) := by
          show _ = _
          rw [← Dk.flat_snoc, ← Dk.S_append, HSA.out, Dk.S_of, hSA2]
        have HTL2 : Hid ((P ++ (B ++ [s.data.toList]).flatten).length ≤ 100 * (j + 1)) := by
          show _ ≤ _
          rw [← Dk.flat_snoc, List.length_append, hll]
          have := HTL.out
          omega
        clear hr ht KA
        have hbi : ((kp : Int) / 2 ^ m).tmod 2 = ((kp / 2 ^ m % 2 : Nat) : Int) := by
          have e : ((kp : Int) / 2 ^ m) = ((kp / 2 ^ m : Nat) : Int) := by simp
          rw [e]
          generalize kp / 2 ^ m = q
          rw [Int.tmod_eq_emod_of_nonneg (Int.natCast_nonneg q)]
          omega
        obtain ⟨bs, hbs⟩ : ∃ x, (((sy : Int) / 2 ^ j).tmod 2 == 1) = x := ⟨_, rfl⟩
        have hls := Dk.lostB_snoc kp 0 B s.data.toList
        rw [Nat.zero_add, HBL.out] at hls
        unfold Dk.left at hls
        rw [hll] at hls
        by_cases hbit : kp / 2 ^ m % 2 = 0
        · have hbk : (((kp : Int) / 2 ^ m).tmod 2 == 1) = false := by rw [hbi, hbit]; rfl
          rw [if_pos hbit] at hls
          obtain ⟨i0, hi, hz0, hz1, hz2⟩ := info_parts Dk.Try.info_u8
          obtain ⟨um, hmk, hown, hgr⟩ := run_make_full (P := Try.prog) u3 u3.heap.size 31 5 i0 (.int .u8 0) 1 Try.underlying31 hi hz0 hz1 .i64 .i64 s.size (by rw [hz2]; omega) (by unfold maxLen; omega) (Nat.le_refl _)
          have hbm : Below u3.heap.size u3 um := (Below.refl _ _).grown hgr (Nat.le_refl _) (fun k h => by cases h)
          have hOB : Dk.OB um u3.heap.size (.slice (some ⟨u3.heap.size, 0, none⟩) s.size s.size) (List.replicate s.size 0) := by
            have e : (madeCells (Value.int .u8 0).cells (s.size * 1)).toList = Dk.u8s (List.replicate s.size 0) := by
              show (madeCells #[Value.int .u8 0] (s.size * 1)).toList = _
              rw [toList_madeCells_one, Dk.u8s_zero, Nat.mul_one]
            rw [e] at hown
            exact ⟨by rw [List.length_replicate]; exact hown⟩
          obtain ⟨sZ, HSZ⟩ : ∃ z, Hid (Dk.S (List.replicate s.size 0) = z) := ⟨_, rfl⟩
          have hcv := hOB.str
          rw [HSZ.out] at hcv
          have hzs : sZ.size = s.size := by rw [← HSZ.out, Dk.S_size, List.length_replicate]
          have R5 := Lib.hid (R4.out.below hbm (Nat.le_refl _))
          have B5 := Lib.hid (Below.trans B4.out (hbm.mono B4.out.size))
          obtain ⟨sW2, HSW2⟩ : ∃ z, Hid (sW ++ sZ = z) := ⟨_, rfl⟩
          have hSW2 := HSW2.out
          have HW2 : Hid (Dk.S (Dk.lostB kp 0 (B ++ [s.data.toList])) = sW2) := by
            show _ = _
            rw [hls, ← Dk.S_append, HSW.out, HSZ.out, hSW2]
          clear hi hz0 hz1 hz2 hgr hbm hOB hown hls hbit hbi
          have KY := Lib.hid (Dk.syncd_any R5.out)
          cases bs with
          | true =>
            go_wp2_with fail
            refine (KY.out).mono ?_; rintro e u6 ⟨rfl, hr, ht⟩
            have R6 : Hid (Dk.Raw u6 u1.heap.size 1048576 false tv3 ((P ++ (B ++ [s.data.toList]).flatten) ++ ([] : List (List UInt8)).flatten) (P ++ (B ++ [s.data.toList]).flatten).length (.slice none 0 0) (Dk.ends (P ++ (B ++ [s.data.toList]).flatten).length [])) := by
              show Dk.Raw _ _ _ _ _ _ _ _ _
              rw [List.flatten_nil, List.append_nil]
              exact hr
            have B6 := Lib.hid (Below.trans B5.out (R5.out.below_tn ht Z1.out))
            have HA3 : Hid (Dk.S ((P ++ (B ++ [s.data.toList]).flatten) ++ ([] : List (List UInt8)).flatten) = sA2) := by
              show _ = _
              rw [List.flatten_nil, List.append_nil]; exact HA2.out
            have HTL3 : Hid (((P ++ (B ++ [s.data.toList]).flatten) ++ ([] : List (List UInt8)).flatten).length ≤ 100 * (j + 1)) := by
              show _ ≤ _
              rw [List.flatten_nil, List.append_nil]; exact HTL2.out
            clear hr ht KY
            go_wp2_with fail
            go_roundw
            case rel => exact ⟨j + 1, 0, sA2, sA2, ⟨#[]⟩, P ++ (B ++ [s.data.toList]).flatten, [], _, _, by omega, by omega, by omega, by go_num, rfl, rfl, rfl, rfl, rfl, HA2, HA3, rfl, HTL3, R6, B6⟩
            case measure => simp [intOf]; omega
          | false =>
            go_wp2_with fail
            go_roundw
            case rel => exact ⟨j + 1, m + 1, sP, sA2, sW2, P, B ++ [s.data.toList], _, _, by omega, by omega, by omega, by go_num, rfl, rfl, rfl, by go_num, (by show _ = _; rw [List.length_append, HBL.out]; rfl), HSP, HA2, HW2, HTL2, R5, B5⟩
            case measure => simp [intOf]; omega
        · have hbk : (((kp : Int) / 2 ^ m).tmod 2 == 1) = true := by
            have e1 : kp / 2 ^ m % 2 = 1 := by omega
            rw [hbi, e1]; rfl
          rw [if_neg hbit] at hls
          obtain ⟨sW2, HSW2⟩ : ∃ z, Hid (sW ++ s = z) := ⟨_, rfl⟩
          have hSW2 := HSW2.out
          have HW2 : Hid (Dk.S (Dk.lostB kp 0 (B ++ [s.data.toList])) = sW2) := by
            show _ = _
            rw [hls, ← Dk.S_append, HSW.out, Dk.S_of, hSW2]
          clear hls hbit hbi
          have KY := Lib.hid (Dk.syncd_any R4.out)
          cases bs with
          | true =>
            go_wp2_with fail
            refine (KY.out).mono ?_; rintro e u6 ⟨rfl, hr, ht⟩
            have R6 : Hid (Dk.Raw u6 u1.heap.size 1048576 false tv3 ((P ++ (B ++ [s.data.toList]).flatten) ++ ([] : List (List UInt8)).flatten) (P ++ (B ++ [s.data.toList]).flatten).length (.slice none 0 0) (Dk.ends (P ++ (B ++ [s.data.toList]).flatten).length [])) := by
              show Dk.Raw _ _ _ _ _ _ _ _ _
              rw [List.flatten_nil, List.append_nil]
              exact hr
            have B6 := Lib.hid (Below.trans B4.out (R4.out.below_tn ht Z1.out))
            have HA3 : Hid (Dk.S ((P ++ (B ++ [s.data.toList]).flatten) ++ ([] : List (List UInt8)).flatten) = sA2) := by
              show _ = _
              rw [List.flatten_nil, List.append_nil]; exact HA2.out
            have HTL3 : Hid (((P ++ (B ++ [s.data.toList]).flatten) ++ ([] : List (List UInt8)).flatten).length ≤ 100 * (j + 1)) := by
              show _ ≤ _
              rw [List.flatten_nil, List.append_nil]; exact HTL2.out
            clear hr ht KY
            go_wp2_with fail
            go_roundw
            case rel => exact ⟨j + 1, 0, sA2, sA2, ⟨#[]⟩, P ++ (B ++ [s.data.toList]).flatten, [], _, _, by omega, by omega, by omega, by go_num, rfl, rfl, rfl, rfl, rfl, HA2, HA3, rfl, HTL3, R6, B6⟩
            case measure => simp [intOf]; omega
          | false =>
            go_wp2_with fail
            go_roundw
            case rel => exact ⟨j + 1, m + 1, sP, sA2, sW2, P, B ++ [s.data.toList], _, _, by omega, by omega, by omega, by go_num, rfl, rfl, rfl, by go_num, (by show _ = _; rw [List.length_append, HBL.out]; rfl), HSP, HA2, HW2, HTL2, R4, B4⟩
            case measure => simp [intOf]; omega
      · have i2 : ¬ (j : Int) < 20 := by omega
        have KB : Hid (Calls Try.prog 10 #[.pointer (some ⟨u1.heap.size, 0, none⟩)] wr fun e w' => e = .returned (.string sA) ∧ w' = wr) := by
          have := Dk.bytes_any HR.out
          rw [HSA.out] at this
          exact this
        have KS : Hid (Calls Try.prog 11 #[.pointer (some ⟨u1.heap.size, 0, none⟩)] wr fun e w' => e = .returned (.int .i64 (sP.size : Int)) ∧ w' = wr) := by
          have := Dk.synced_any HR.out
          rw [← Dk.S_size, HSP.out] at this
          exact this
        have KC := Lib.hid (Dk.crash_any HR.out kp HK.out (Dk.ends_asc _ _ B (by rw [List.length_append]; exact Nat.le_refl _)) (by have := HTL.out; omega) (by rw [Dk.ends_len]; omega))
        go_wp2_with fail
        refine (KB.out).mono ?_; rintro e u4 ⟨rfl, rfl⟩
        go_wp2_with fail
        refine (KS.out).mono ?_; rintro e u5 ⟨rfl, rfl⟩
        go_wp2_with fail
        refine (KC.out).mono ?_; rintro e u6 ⟨rfl, hr, ht⟩
        rw [Dk.lost_is] at hr
        have R6 := Lib.hid hr
        have B6 := Lib.hid (Below.trans HB.out (HR.out.below_tn ht Z1.out))
        obtain ⟨sF, HSF⟩ : ∃ s, Hid (sP ++ sW = s) := ⟨_, rfl⟩
        have hSF := HSF.out
        have KB6 : Hid (Calls Try.prog 10 #[.pointer (some ⟨u1.heap.size, 0, none⟩)] u6 fun e w' => e = .returned (.string sF) ∧ w' = u6) := by
          have := Dk.bytes_any R6.out
          rw [← Dk.S_append, HSP.out, HSW.out, hSF] at this
          exact this
        have KS6 : Hid (Calls Try.prog 11 #[.pointer (some ⟨u1.heap.size, 0, none⟩)] u6 fun e w' => e = .returned (.int .i64 (sA.size : Int)) ∧ w' = u6) := by
          have := Dk.synced_any R6.out
          rw [← Dk.S_size, HSA.out] at this
          exact this
        clear hr ht KB KS KC
        go_wp2_with fail
        refine (KB6.out).mono ?_; rintro e u7 ⟨rfl, rfl⟩
        go_wp2_with fail
        refine (KS6.out).mono ?_; rintro e u8 ⟨rfl, rfl⟩
        go_wp2_with fail
        go_ret
        exact ⟨rfl, B6.out⟩
    · have i1 : ¬ (j : Int) < (len0 : Int) := by omega
      have KB : Hid (Calls Try.prog 10 #[.pointer (some ⟨u1.heap.size, 0, none⟩)] wr fun e w' => e = .returned (.string sA) ∧ w' = wr) := by
        have := Dk.bytes_any HR.out
        rw [HSA.out] at this
        exact this
      have KS : Hid (Calls Try.prog 11 #[.pointer (some ⟨u1.heap.size, 0, none⟩)] wr fun e w' => e = .returned (.int .i64 (sP.size : Int)) ∧ w' = wr) := by
        have := Dk.synced_any HR.out
        rw [← Dk.S_size, HSP.out] at this
        exact this
      have KC := Lib.hid (Dk.crash_any HR.out kp HK.out (Dk.ends_asc _ _ B (by rw [List.length_append]; exact Nat.le_refl _)) (by have := HTL.out; omega) (by rw [Dk.ends_len]; omega))
      go_wp2_with fail
      refine (KB.out).mono ?_; rintro e u4 ⟨rfl, rfl⟩
      go_wp2_with fail
      refine (KS.out).mono ?_; rintro e u5 ⟨rfl, rfl⟩
      go_wp2_with fail
      refine (KC.out).mono ?_; rintro e u6 ⟨rfl, hr, ht⟩
      rw [Dk.lost_is] at hr
      have R6 := Lib.hid hr
      have B6 := Lib.hid (Below.trans HB.out (HR.out.below_tn ht Z1.out))
      obtain ⟨sF, HSF⟩ : ∃ s, Hid (sP ++ sW = s) := ⟨_, rfl⟩
      have hSF := HSF.out
      have KB6 : Hid (Calls Try.prog 10 #[.pointer (some ⟨u1.heap.size, 0, none⟩)] u6 fun e w' => e = .returned (.string sF) ∧ w' = u6) := by
        have := Dk.bytes_any R6.out
        rw [← Dk.S_append, HSP.out, HSW.out, hSF] at this
        exact this
      have KS6 : Hid (Calls Try.prog 11 #[.pointer (some ⟨u1.heap.size, 0, none⟩)] u6 fun e w' => e = .returned (.int .i64 (sA.size : Int)) ∧ w' = u6) := by
        have := Dk.synced_any R6.out
        rw [← Dk.S_size, HSA.out] at this
        exact this
      clear hr ht KB KS KC
      go_wp2_with fail
      refine (KB6.out).mono ?_; rintro e u7 ⟨rfl, rfl⟩
      go_wp2_with fail
      refine (KS6.out).mono ?_; rintro e u8 ⟨rfl, rfl⟩
      go_wp2_with fail
      go_ret
      exact ⟨rfl, B6.out⟩

set_option maxRecDepth 100000 in
theorem lifted (os : Os) (started : os.Started) (H : Type) (enc : TypeId × Value → H) :
    ReturnsInHanded {} Try.checked os 3 .any (Rows.diskKeepsSpec.pre6 enc Try.prog Try.f3 Rows.diskKeepsRow.domain false) (Rows.diskKeepsSpec.post enc Try.prog Try.f3 false true false false) := by
  refine returnsInHanded_of_change_sized (C := Try.checked) own started (by kernel_rfl) Try.func3
    (ChangeSpec.witness6 (enc := enc) (C := Try.checked) false ⟨#[], #[.slice none 0 0, .int .u32 0, .int .u64 0], []⟩ 8 (by kernel_rfl) (by kernel_rfl) (by kernel_rfl) (by kernel_rfl)) ?_
  intro W base args ds gs before hval0 hW hcnd hsz0 _
  have hval : ∀ (j : Nat) t v, Try.f3.params[j]? = some t → args[j]? = some v → Value.okWide Try.prog W .any base t v := hval0
  have hW' := hW
  obtain ⟨p, q, hA0, hV, rfl, hfz, hnd⟩ := hW
  have hA : DataW.TrodAll enc Try.prog W 0 (fun _ => true) true Try.f3.params.toList args.toList ds p := hA0
  have hsz : (DataW.weightsEach Try.prog (Try.f3.params.toList ++ Rows.diskKeepsSpec.plain.varTypes Try.prog) (ds ++ gs)).all (· ≤ reachBytes) = true := hsz0
  rw [Try.params3] at hA hval hsz
  obtain ⟨rfl, rfl⟩ := trodVars_none hV
  have hAk := hA
  have hlt : ∀ x ∈ p, x.block < W.heap.size := fun x hx => by simpa using hW'.lt x (List.mem_append.2 (.inl hx))
  obtain ⟨v0, vs0, d0, ds0, p0, q0, hargs, rfl, rfl, h0, r0⟩ := trodAll_cons hA
  obtain ⟨v1, vs1, d1, ds1, p1, q1, rfl, rfl, rfl, h1, r1⟩ := trodAll_cons r0
  obtain ⟨v2, vs2, d2, ds2, p2, q2, rfl, rfl, rfl, h2, r2⟩ := trodAll_cons r1
  obtain ⟨rfl, rfl, rfl⟩ := trodAll_nil r2
  obtain rfl : args = #[v0, v1, v2] := by cases args; simp_all
  obtain ⟨a0, len0, cap0, rfl⟩ := okWide_slice Try.underlying22 (hval 0 22 v0 rfl rfl)
  obtain ⟨X0, w0, l0, m0, zs0⟩ := open_texts h0 (Sz.arg hsz (j := 0) rfl rfl)
  obtain ⟨a1, rfl, rfl, rfl, w1⟩ := open_int Try.underlying23 (hval 1 23 v1 rfl rfl) h1
  obtain ⟨a2, rfl, rfl, rfl, w2⟩ := open_int Try.underlying24 (hval 2 24 v2 rfl rfl) h2
  clear hA0 hval0 hsz0
  refine (walk a0 len0 cap0 X0 a1 a2 l0 m0 zs0 w1 w2 W w0).mono fun e W' ⟨he, hg⟩ => ?_
  subst he
  exact ⟨_, rfl, _, _, _, [], _, [], hW', (trodAll_cons_mk (shut_bool Try.underlying4 _) trodAll_mk0), trodAll_below laidOut hg _ _ _ _ (by kernel_rfl) hAk hlt, rfl, hg.frame _, fun h => by cases h⟩

theorem over : Rows.diskKeepsRow.holds Try.pinned (OpenSpec.ofChange Rows.diskKeepsSpec) :=
  OpenClaim.holds_of_wide 3 Try.f3 rfl rfl rfl rfl rfl rfl rfl ⟨rfl, rfl, rfl, rfl, rfl⟩ rfl rfl rfl rfl rfl (by kernel_rfl) Try.func3 (by kernel_rfl)
    (of_decide_eq_true (by kernel_rfl)) (by unfold Func.isWrapper; first | (rw [if_pos (by decide +kernel)]; kernel_rfl) | (rw [if_neg (by decide +kernel)]; exact ⟨rfl, rfl⟩))
    (fun os started H enc _ => lifted os started H enc)

/-- the statement -/
theorem proved : Rows.DiskKeepsSaid :=
  over
#print axioms proved

end Go.Proofs.Ytjeiggpjbdkpiaa.diskKeeps
