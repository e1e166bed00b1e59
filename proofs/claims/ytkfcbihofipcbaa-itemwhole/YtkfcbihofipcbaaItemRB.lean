/- The document's own answer to chapter 8: Shard, Whole. -/
import Derived.Test.YtkfcbihofipcbaaItemRA

import Derived.Test.YtkfcbihofipcbaaStampRA

import Derived.Test.YtkfcbihofipcbaaCrcSum

import Derived.Test.YtkfcbihofipcbaaPackRefPut

namespace Go.Proofs.Ytkfcbihofipcbaa.It

open Go.RowKit Go.Proofs.Ytkfcbihofipcbaa.Vc Go.Proofs.Ytkfcbihofipcbaa.Sp

set_option linter.unusedVariables false

set_option linter.unusedSimpArgs false

set_option maxRecDepth 100000

theorem textS_eq (s : ByteArray) : Pk.textS s = P.S (I.text s) := by
  unfold Pk.textS I.text
  rw [← P.S_append, P.S_of]
set_option maxHeartbeats 2000000 in
theorem ref_shard (b k : ByteArray) (n : Int) (w : World) (hb : b.size ≤ 140737488355328) (hk : k.size ≤ 140737488355328) (h0 : -9223372036854775808 ≤ n) (h1 : n ≤ 9223372036854775807) :
    Calls Try.prog 29 #[.string b, .string k, .int .i64 n] w fun e w' => e = .returned (.int .i64 (I.shard b k n)) ∧ Below w.heap.size w w' := by
  by_cases hn : n < 1
  · have HF : Hid (I.shard b k n = 1) := by show _ = _; unfold I.shard; rw [if_pos hn]
    rw [HF.out]
    go_enter Try.func29, Try.ntmps29
    go_wp2_with fail
    go_ret
    exact ⟨rfl, Below.refl _ _⟩
  · have hi : ¬ n < 1 := hn
    have hi' : decide (n < 1) = false := by simp; omega
    have CB := Lib.hid (fun w => Pk.ref_text_any b w (by omega))
    have CK := Lib.hid (fun w => Pk.ref_text_any k w (by omega))
    rw [textS_eq] at CB CK
    have lb := I.text_len b
    have lk := I.text_len k
    have sb : (P.S (I.text b)).size = (I.text b).length := P.S_size _
    have sk : (P.S (I.text k)).size = (I.text k).length := P.S_size _
    have ss : (P.S (I.text b) ++ P.S (I.text k)).size ≤ 4611686018427387904 := by rw [ByteArray.size_append]; omega
    have CS := Lib.hid (fun w => Cr.rsum_any (P.S (I.text b) ++ P.S (I.text k)) w ss)
    rw [show (P.S (I.text b) ++ P.S (I.text k)).data.toList = I.text b ++ I.text k by rw [P.S_append, P.S_list]] at CS
    obtain ⟨m, HM⟩ : ∃ m, Hid ((Cr.M.sum (I.text b ++ I.text k)).toNat = m) := ⟨_, rfl⟩
    have hm : m < 4294967296 := by rw [← HM.out]; exact (Cr.M.sum (I.text b ++ I.text k)).isLt
    have HF : Hid (I.shard b k n = (m : Int) % n + 1) := by show _ = _; unfold I.shard; rw [if_neg hn, HM.out]
    rw [HM.out] at CS
    rw [HF.out]
    have hcat : (P.S (I.text b)).size + (P.S (I.text k)).size ≤ 9223372036854775807 := by omega
    generalize P.S (I.text b) = p at *
    generalize P.S (I.text k) = q at *
    have e1 : IntKind.u64.wrap (m : Int) = (m : Int) := wrapu (by omega) (by omega)
    have e2 : IntKind.u64.wrap n = n := wrapu (by omega) (by omega)
    obtain ⟨r, hr⟩ : ∃ r : Int, r = (m : Int) % n := ⟨_, rfl⟩
    have hr0 : 0 ≤ r := by rw [hr]; exact Int.emod_nonneg _ (by omega)
    have hrn : r < n := by rw [hr]; exact Int.emod_lt_of_pos _ (by omega)
    have e3 : (m : Int).tmod n = r := by rw [Int.tmod_eq_emod_of_nonneg (by omega), hr]
    have e4 : IntKind.i64.wrap r = r := wrapi (by omega) (by omega)
    have e5 : IntKind.i64.wrap (r + 1) = r + 1 := wrapi (by omega) (by omega)
    have hz : ¬ n = 0 := by omega
    rw [← hr]
    clear hr HF HM sb sk lb lk ss
    go_enter Try.func29, Try.ntmps29
    go_wp2_with fail
    refine (CB.out _).mono ?_; rintro e w1 ⟨rfl, hb1⟩
    go_wp2_with fail
    refine (CK.out _).mono ?_; rintro e w2 ⟨rfl, hb2⟩
    have HB : Hid (Below w.heap.size w w2) := hb1.trans (hb2.mono hb1.size)
    clear hb1 hb2
    go_wp2_with fail
    refine (CS.out _).mono ?_; rintro e w3 ⟨rfl, rfl⟩
    go_wp2_with fail
    go_ret
    exact ⟨rfl, HB.out⟩
set_option maxHeartbeats 8000000 in
theorem ref_whole (a : List Nat) (d : Int) (v : Value) (L : List I.Wt) (w : World) (ha : a.length = 4) (hL : IsWs w v L) :
    Calls Try.prog 23 #[TV a d v] w fun e w' => e = .returned (.bool (I.whole a d L)) ∧ Below w.heap.size w w' := by
  have HA := Lib.hid ha
  have HSs := Lib.hid (size_rs (d := d) ha)
  have C := Lib.hid (fun w => ref_sright a d w ha)
  unfold I.whole
  obtain ⟨sa, cap, rfl, hcap, hmax, hmem⟩ := hL.is
  obtain ⟨n, HN⟩ : ∃ n, Hid (L.length = n) := ⟨_, rfl⟩
  have HL := Lib.hid hL
  rw [HN.out] at HL hcap
  rw [HN.out]
  obtain ⟨r, HR⟩ : ∃ r, Hid ((T.right a d && (decide (1 ≤ n ∧ n ≤ 8) && I.okTo L n)) = r) := ⟨_, rfl⟩
  rw [HR.out]
  clear ha hL hmax hmem
  go_enter Try.func23, Try.ntmps23
  go_wp2_with (first | refine blk_box rfl 52 _ rfl (ks .u64 a ++ [Value.int .i64 d, .slice sa n cap]) rfl ?_)
  intro w1 A1 B1 Z1
  have HL1 : Hid (IsWs w1 (.slice sa n cap) L) := IsWs.below HL.out B1
  have HA1 : Hid (Blk w1 w.heap.size (ks .u64 a ++ [Value.int .i64 d, .slice sa n cap])) := A1
  have HB1 : Hid (Below w.heap.size w w1) := B1
  have HZ1 : Hid (w.heap.size < w1.heap.size) := by show _ < _; omega
  clear A1 B1 Z1 HL
  go_wp2_with (first | refine sub_load rfl 50 _ rfl w.heap.size rfl (ks .u64 a ++ [Value.int .i64 d]) [.slice sa n cap] (tx_stamp HA1.out) _ Try.underlying50 rfl HSs.out ?_)
  refine (C.out _).mono ?_; rintro e w2 ⟨rfl, hb2⟩
  have HL2 : Hid (IsWs w2 (.slice sa n cap) L) := IsWs.below HL1.out hb2
  have HA2 : Hid (Blk w2 w.heap.size (ks .u64 a ++ [Value.int .i64 d, .slice sa n cap])) := Blk.below HA1.out hb2 HZ1.out
  have HB2 : Hid (Below w.heap.size w w2) := Below.trans HB1.out (hb2.mono HB1.out.size)
  have HZ2 : Hid (w.heap.size < w2.heap.size) := Nat.lt_of_lt_of_le HZ1.out hb2.size
  have c5 := tx_cell HA2.out HA.out
  clear hb2 HL1 HA1 HB1 HZ1 C
  cases hr : T.right a d with
  | false =>
    obtain rfl : false = r := by rw [← HR.out, hr]; rfl
    clear hr
    go_wp2_with fail
    go_ret
    exact ⟨rfl, HB2.out⟩
  | true =>
    rw [hr, Bool.true_and] at HR
    clear hr
    by_cases h1 : 1 ≤ n
    · by_cases h8 : n ≤ 8
      · have i1 : decide ((n : Int) < 1) = false := by simp; omega
        have i8 : decide ((8 : Int) < (n : Int)) = false := by simp; omega
        have j1 : ¬ (n : Int) < 1 := by omega
        have j8 : ¬ (8 : Int) < (n : Int) := by omega
        have HRR : Hid (I.okTo L n = r) := by show _ = _; rw [← HR.out]; simp [h1, h8]
        clear HR
        go_wp2_with fail
        go_loopw [3] (fun i wr => ∃ j : Nat, j ≤ n ∧ i = .int .i64 j ∧ Hid (I.okTo L j = true) ∧ Hid (Blk wr w.heap.size (ks .u64 a ++ [Value.int .i64 d, .slice sa n cap])) ∧ Hid (IsWs wr (.slice sa n cap) L) ∧ Hid (Below w.heap.size w wr) ∧ Hid (w.heap.size < wr.heap.size)) (fun i _ => n - (intOf i).toNat)
        case atStart => exact ⟨0, by omega, rfl, rfl, HA2, HL2, HB2, HZ2⟩
        case round =>
          obtain ⟨j, hj, rfl, HO, HAr, HLr, HBr, HZr⟩ := hrel
          clear HA2 HL2 HB2 HZ2 c5 i1 i8 j1 j8
          obtain ⟨wa, rfl⟩ : ∃ x : World, x = wr := ⟨_, rfl⟩
          have c5 := tx_cell HAr.out HA.out
          by_cases hlt : j < n
          · have ilt : (j : Int) < (n : Int) := by omega
            have hjn : j < n := hlt
            obtain ⟨g, off, cap', hv, hg, hrow⟩ := IsWs.at HLr.out j (by rw [HN.out]; exact hlt)
            obtain rfl : sa = (some ⟨g, off, none⟩) := by injection hv
            clear hv
            have hix : ∀ w, (Instr.indexAt 39 (.slice (some ⟨g, off, none⟩) n cap) (.int .i64 (j : Int))).run Try.prog w = .ok (.pointer (some ⟨g, off + 4 * j, none⟩)) w := fun w => index_rw g off n cap j hjn w
            have HROW := Lib.hid hrow
            have hst := I.okTo_step L j
            have CR := Lib.hid (fun w => ref_wright (L.getD j I.none_) w)
            obtain ⟨x, HX⟩ : ∃ x, Hid (L.getD j I.none_ = x) := ⟨_, rfl⟩
            rw [HX.out] at CR HROW hst
            rw [HO.out, Bool.true_and] at hst
            clear hrow
            go_wp2_with (first | refine mid_load rfl 38 _ rfl g (off + 4 * j) rfl (wc x) HROW.out _ Try.underlying38 rfl Try.size_rw ?_)
            refine (CR.out _).mono ?_; rintro e w3 ⟨rfl, hb3⟩
            have HA3 : Hid (Blk w3 w.heap.size (ks .u64 a ++ [Value.int .i64 d, .slice (some ⟨g, off, none⟩) n cap])) := Blk.below HAr.out hb3 HZr.out
            have HL3 : Hid (IsWs w3 (.slice (some ⟨g, off, none⟩) n cap) L) := IsWs.below HLr.out hb3
            have HB3 : Hid (Below w.heap.size w w3) := Below.trans HBr.out (hb3.mono HBr.out.size)
            have HZ3 : Hid (w.heap.size < w3.heap.size) := Nat.lt_of_lt_of_le HZr.out hb3.size
            clear hb3 HAr HLr HBr HZr CR HROW c5
            cases hrx : I.right x with
            | false =>
              obtain rfl : false = r := by rw [← HRR.out]; exact (I.okTo_not L j n hlt (by rw [HX.out, hrx]; rfl)).symm
              clear hrx hst
              go_wp2_with fail
              go_ret
              exact ⟨rfl, HB3.out⟩
            | true =>
              rw [hrx, Bool.true_and] at hst
              have HST := Lib.hid hst
              have HRX := Lib.hid hrx
              clear hrx hst
              go_wp2_with fail
              go_loopw [4] (fun i wr => ∃ k : Nat, k ≤ j ∧ i = .int .i64 k ∧ Hid (I.apart L j k = true) ∧ Hid (Blk wr w.heap.size (ks .u64 a ++ [Value.int .i64 d, .slice (some ⟨g, off, none⟩) n cap])) ∧ Hid (IsWs wr (.slice (some ⟨g, off, none⟩) n cap) L) ∧ Hid (Below w.heap.size w wr) ∧ Hid (w.heap.size < wr.heap.size)) (fun i _ => j - (intOf i).toNat)
              case atStart => exact ⟨0, by omega, rfl, rfl, HA3, HL3, HB3, HZ3⟩
              case round =>
                obtain ⟨k, hk, rfl, HP, HAr, HLr, HBr, HZr⟩ := hrel
                clear HA3 HL3 HB3 HZ3
                by_cases hkl : k < j
                · have ikl : (k : Int) < (j : Int) := by omega
                  have hin : k < n := by omega
                  obtain ⟨g1, off1, cap1, hv, hg1, hrow1⟩ := IsWs.at HLr.out k (by rw [HN.out]; exact hin)
                  have hv' := hv
                  simp only [Value.slice.injEq, Option.some.injEq, Addr.mk.injEq, and_true] at hv'
                  obtain ⟨⟨rfl, rfl⟩, hnl, rfl⟩ := hv'
                  clear hv hnl
                  obtain ⟨g2, off2, cap2, hv, hg2, hrow2⟩ := IsWs.at HLr.out j (by rw [HN.out]; exact hjn)
                  have hv' := hv
                  simp only [Value.slice.injEq, Option.some.injEq, Addr.mk.injEq, and_true] at hv'
                  obtain ⟨⟨rfl, rfl⟩, hnl, rfl⟩ := hv'
                  clear hv hg2 hnl
                  have hap := I.apart_step L j k
                  have hno := fun h => I.apart_not L j k j hkl h
                  rw [HP.out, Bool.true_and] at hap
                  rw [HX.out] at hrow2 hap hno
                  obtain ⟨y, HY⟩ : ∃ y, Hid (L.getD k I.none_ = y) := ⟨_, rfl⟩
                  rw [HY.out] at hrow1 hap hno
                  obtain ⟨bk, kk, vk, gk⟩ := y
                  obtain ⟨bj, kj, vj, gj⟩ := x
                  obtain ⟨e1, HE1⟩ : ∃ r, Hid (decide (bk = bj) = r) := ⟨_, rfl⟩
                  obtain ⟨e2, HE2⟩ : ∃ r, Hid (decide (kk = kj) = r) := ⟨_, rfl⟩
                  have Q1 : Hid ((bk.toList == bj.toList) = e1) := by show _ = _; rw [V.tol_eq]; exact HE1.out
                  have Q2 : Hid ((kk.toList == kj.toList) = e2) := by show _ = _; rw [V.tol_eq]; exact HE2.out
                  have hkey : decide (I.key (bk, kk, vk, gk) = I.key (bj, kj, vj, gj)) = (e1 && e2) := by
                    rw [← HE1.out, ← HE2.out, ← Bool.decide_and]
                    exact decide_eq_decide.2 (by simp [I.key])
                  rw [hkey] at hap
                  have HAP := Lib.hid hap
                  have HNO : Hid ((e1 && e2) = true → I.apart L j j = false) := fun h => hno (of_decide_eq_true (hkey.trans h))
                  have K5 : Hid (∀ u, Below wr.heap.size wr u → u.cell? ⟨w.heap.size, 5, none⟩ = some (.slice (some ⟨g, off, none⟩) n cap)) := fun u hu => tx_cell (Blk.below HAr.out hu HZr.out) HA.out
                  have KCk0 : Hid (∀ u, Below wr.heap.size wr u → u.cell? ⟨g, off + 4 * k, none⟩ = some (.string bk)) := fun u hu => by rw [hu.cell (p := ⟨g, off + 4 * k, none⟩) hg1]; exact hrow1 0 _ rfl
                  have KCk1 : Hid (∀ u, Below wr.heap.size wr u → u.cell? ⟨g, off + 4 * k + 1, none⟩ = some (.string kk)) := fun u hu => by rw [hu.cell (p := ⟨g, off + 4 * k + 1, none⟩) hg1]; exact hrow1 1 _ rfl
                  have KCj0 : Hid (∀ u, Below wr.heap.size wr u → u.cell? ⟨g, off + 4 * j, none⟩ = some (.string bj)) := fun u hu => by rw [hu.cell (p := ⟨g, off + 4 * j, none⟩) hg1]; exact hrow2 0 _ rfl
                  have KCj1 : Hid (∀ u, Below wr.heap.size wr u → u.cell? ⟨g, off + 4 * j + 1, none⟩ = some (.string kj)) := fun u hu => by rw [hu.cell (p := ⟨g, off + 4 * j + 1, none⟩) hg1]; exact hrow2 1 _ rfl
                  clear hrow1 hrow2 hap hno hkey hg1 HE1 HE2 hix
                  go_wp2_with fail
                  refine region_w Try.mixed (by kernel_rfl) ?_
                  refine w_value rfl (.pointer (some ⟨w.heap.size, 5, none⟩)) (fun u hu => by go_simp) (fun K hK => ?_)
                  go_simp
                  refine hK _ ?_
                  clear hK K
                  refine w_value rfl (.slice (some ⟨g, off, none⟩) n cap) (fun u hu => by have hc := K5.out u hu; go_simp) (fun K hK => ?_)
                  go_simp
                  refine hK _ ?_
                  clear hK K
                  refine w_move rfl _ rfl (.int .i64 (k : Int)) rfl (fun K hK => ?_)
                  go_simp
                  refine hK _ ?_
                  clear hK K
                  refine w_value rfl (.pointer (some ⟨g, off + 4 * k, none⟩)) (fun u hu => by have hc := index_rw g off n cap k hin u; go_simp) (fun K hK => ?_)
                  go_simp
                  refine hK _ ?_
                  clear hK K
                  refine w_value rfl (.pointer (some ⟨g, off + 4 * k, none⟩)) (fun u hu => by go_simp) (fun K hK => ?_)
                  go_simp
                  refine hK _ ?_
                  clear hK K
                  refine w_value rfl (.string bk) (fun u hu => by have hc := KCk0.out u hu; go_simp) (fun K hK => ?_)
                  go_simp
                  refine hK _ ?_
                  clear hK K
                  refine w_value rfl (.pointer (some ⟨w.heap.size, 5, none⟩)) (fun u hu => by go_simp) (fun K hK => ?_)
                  go_simp
                  refine hK _ ?_
                  clear hK K
                  refine w_value rfl (.slice (some ⟨g, off, none⟩) n cap) (fun u hu => by have hc := K5.out u hu; go_simp) (fun K hK => ?_)
                  go_simp
                  refine hK _ ?_
                  clear hK K
                  refine w_move rfl _ rfl (.int .i64 (j : Int)) rfl (fun K hK => ?_)
                  go_simp
                  refine hK _ ?_
                  clear hK K
                  refine w_value rfl (.pointer (some ⟨g, off + 4 * j, none⟩)) (fun u hu => by have hc := index_rw g off n cap j hjn u; go_simp) (fun K hK => ?_)
                  go_simp
                  refine hK _ ?_
                  clear hK K
                  refine w_value rfl (.pointer (some ⟨g, off + 4 * j, none⟩)) (fun u hu => by go_simp) (fun K hK => ?_)
                  go_simp
                  refine hK _ ?_
                  clear hK K
                  refine w_value rfl (.string bj) (fun u hu => by have hc := KCj0.out u hu; go_simp) (fun K hK => ?_)
                  go_simp
                  refine hK _ ?_
                  clear hK K
                  refine w_value rfl (.bool e1) (fun u hu => by have hs := Q1.out; go_simp) (fun K hK => ?_)
                  go_simp
                  refine hK _ ?_
                  clear hK K
                  refine w_move rfl _ rfl (.bool e1) rfl (fun K hK => ?_)
                  go_simp
                  refine hK _ ?_
                  clear hK K
                  cases e1 with
                  | false =>
                    refine w_skip 13 true (some false) rfl rfl rfl (fun K hK => ?_)
                    go_simp
                    refine hK _ ?_
                    clear hK K
                    refine w_skip 13 true (some false) rfl rfl rfl (fun K hK => ?_)
                    go_simp
                    refine hK _ ?_
                    clear hK K
                    refine w_skip 13 true (some false) rfl rfl rfl (fun K hK => ?_)
                    go_simp
                    refine hK _ ?_
                    clear hK K
                    refine w_skip 13 true (some false) rfl rfl rfl (fun K hK => ?_)
                    go_simp
                    refine hK _ ?_
                    clear hK K
                    refine w_skip 13 true (some false) rfl rfl rfl (fun K hK => ?_)
                    go_simp
                    refine hK _ ?_
                    clear hK K
                    refine w_skip 13 true (some false) rfl rfl rfl (fun K hK => ?_)
                    go_simp
                    refine hK _ ?_
                    clear hK K
                    refine w_skip 13 true (some false) rfl rfl rfl (fun K hK => ?_)
                    go_simp
                    refine hK _ ?_
                    clear hK K
                    refine w_skip 13 true (some false) rfl rfl rfl (fun K hK => ?_)
                    go_simp
                    refine hK _ ?_
                    clear hK K
                    refine w_skip 13 true (some false) rfl rfl rfl (fun K hK => ?_)
                    go_simp
                    refine hK _ ?_
                    clear hK K
                    refine w_skip 13 true (some false) rfl rfl rfl (fun K hK => ?_)
                    go_simp
                    refine hK _ ?_
                    clear hK K
                    refine w_skip 13 true (some false) rfl rfl rfl (fun K hK => ?_)
                    go_simp
                    refine hK _ ?_
                    clear hK K
                    refine w_skip 13 true (some false) rfl rfl rfl (fun K hK => ?_)
                    go_simp
                    refine hK _ ?_
                    clear hK K
                    refine w_skip 13 true (some false) rfl rfl rfl (fun K hK => ?_)
                    go_simp
                    refine hK _ ?_
                    clear hK K
                    refine w_value rfl (.bool false) (fun u hu => by go_simp) (fun K hK => ?_)
                    go_simp
                    refine hK _ ?_
                    clear hK K
                    refine w_nil ?_
                    intro u hu
                    have HAu : Hid (Blk u w.heap.size (ks .u64 a ++ [Value.int .i64 d, .slice (some ⟨g, off, none⟩) n cap])) := Blk.below HAr.out hu HZr.out
                    have HLu : Hid (IsWs u (.slice (some ⟨g, off, none⟩) n cap) L) := IsWs.below HLr.out hu
                    have HBu : Hid (Below w.heap.size w u) := Below.trans HBr.out (hu.mono HBr.out.size)
                    have HZu : Hid (w.heap.size < u.heap.size) := Nat.lt_of_lt_of_le HZr.out hu.size
                    have HPu : Hid (I.apart L j (k + 1) = true) := by show _ = _; rw [HAP.out]; rfl
                    clear hu HAr HLr HBr HZr K5 KCk0 KCk1 KCj0 KCj1
                    go_wp2_with fail
                    go_roundw
                    case rel => exact ⟨k + 1, by omega, by go_num, HPu, HAu, HLu, HBu, HZu⟩
                    case measure => simp [intOf]; omega
                  | true =>
                    refine wg_value (by rfl) (.pointer (some ⟨w.heap.size, 5, none⟩)) (fun u hu => by go_simp) (fun K hK => ?_)
                    go_simp
                    refine hK _ ?_
                    clear hK K
                    refine wg_value (by rfl) (.slice (some ⟨g, off, none⟩) n cap) (fun u hu => by have hc := K5.out u hu; go_simp) (fun K hK => ?_)
                    go_simp
                    refine hK _ ?_
                    clear hK K
                    refine wg_value (by rfl) (.int .i64 (k : Int)) (fun u hu => by go_simp) (fun K hK => ?_)
                    go_simp
                    refine hK _ ?_
                    clear hK K
                    refine wg_value (by rfl) (.pointer (some ⟨g, off + 4 * k, none⟩)) (fun u hu => by have hc := index_rw g off n cap k hin u; go_simp) (fun K hK => ?_)
                    go_simp
                    refine hK _ ?_
                    clear hK K
                    refine wg_value (by rfl) (.pointer (some ⟨g, off + 4 * k + 1, none⟩)) (fun u hu => by go_simp) (fun K hK => ?_)
                    go_simp
                    refine hK _ ?_
                    clear hK K
                    refine wg_value (by rfl) (.string kk) (fun u hu => by have hc := KCk1.out u hu; go_simp) (fun K hK => ?_)
                    go_simp
                    refine hK _ ?_
                    clear hK K
                    refine wg_value (by rfl) (.pointer (some ⟨w.heap.size, 5, none⟩)) (fun u hu => by go_simp) (fun K hK => ?_)
                    go_simp
                    refine hK _ ?_
                    clear hK K
                    refine wg_value (by rfl) (.slice (some ⟨g, off, none⟩) n cap) (fun u hu => by have hc := K5.out u hu; go_simp) (fun K hK => ?_)
                    go_simp
                    refine hK _ ?_
                    clear hK K
                    refine wg_value (by rfl) (.int .i64 (j : Int)) (fun u hu => by go_simp) (fun K hK => ?_)
                    go_simp
                    refine hK _ ?_
                    clear hK K
                    refine wg_value (by rfl) (.pointer (some ⟨g, off + 4 * j, none⟩)) (fun u hu => by have hc := index_rw g off n cap j hjn u; go_simp) (fun K hK => ?_)
                    go_simp
                    refine hK _ ?_
                    clear hK K
                    refine wg_value (by rfl) (.pointer (some ⟨g, off + 4 * j + 1, none⟩)) (fun u hu => by go_simp) (fun K hK => ?_)
                    go_simp
                    refine hK _ ?_
                    clear hK K
                    refine wg_value (by rfl) (.string kj) (fun u hu => by have hc := KCj1.out u hu; go_simp) (fun K hK => ?_)
                    go_simp
                    refine hK _ ?_
                    clear hK K
                    refine wg_value (by rfl) (.bool e2) (fun u hu => by have hs := Q2.out; go_simp) (fun K hK => ?_)
                    go_simp
                    refine hK _ ?_
                    clear hK K
                    refine w_value rfl (.bool e2) (fun u hu => by go_simp) (fun K hK => ?_)
                    go_simp
                    refine hK _ ?_
                    clear hK K
                    refine w_nil ?_
                    intro u hu
                    cases e2 with
                    | false =>
                      have HAu : Hid (Blk u w.heap.size (ks .u64 a ++ [Value.int .i64 d, .slice (some ⟨g, off, none⟩) n cap])) := Blk.below HAr.out hu HZr.out
                      have HLu : Hid (IsWs u (.slice (some ⟨g, off, none⟩) n cap) L) := IsWs.below HLr.out hu
                      have HBu : Hid (Below w.heap.size w u) := Below.trans HBr.out (hu.mono HBr.out.size)
                      have HZu : Hid (w.heap.size < u.heap.size) := Nat.lt_of_lt_of_le HZr.out hu.size
                      have HPu : Hid (I.apart L j (k + 1) = true) := by show _ = _; rw [HAP.out]; rfl
                      clear hu HAr HLr HBr HZr K5 KCk0 KCk1 KCj0 KCj1
                      go_wp2_with fail
                      go_roundw
                      case rel => exact ⟨k + 1, by omega, by go_num, HPu, HAu, HLu, HBu, HZu⟩
                      case measure => simp [intOf]; omega
                    | true =>
                      obtain rfl : false = r := by rw [← HRR.out]; exact (I.okTo_not L j n hlt (by rw [HNO.out rfl, Bool.and_false])).symm
                      have HBu : Hid (Below w.heap.size w u) := Below.trans HBr.out (hu.mono HBr.out.size)
                      clear hu
                      go_wp2_with fail
                      go_ret
                      exact ⟨rfl, HBu.out⟩
                · obtain rfl : k = j := by omega
                  have HO' : Hid (I.okTo L (k + 1) = true) := by show _ = _; rw [HST.out]; exact HP.out
                  go_wp2_with fail
                  go_roundw
                  case rel => exact ⟨k + 1, by omega, by go_num, HO', HAr, HLr, HBr, HZr⟩
                  case measure => simp [intOf]; omega
          · obtain rfl : j = n := by omega
            obtain rfl : true = r := by rw [← HRR.out]; exact HO.out.symm
            go_wp2_with fail
            go_ret
            exact ⟨rfl, HBr.out⟩
      · obtain rfl : false = r := by rw [← HR.out]; simp [h8]
        have i1 : decide ((n : Int) < 1) = false := by simp; omega
        have j1 : ¬ (n : Int) < 1 := by omega
        have i8 : decide ((8 : Int) < (n : Int)) = true := by simp; omega
        have j8 : (8 : Int) < (n : Int) := by omega
        go_wp2_with fail
        go_ret
        exact ⟨rfl, HB2.out⟩
    · obtain rfl : false = r := by rw [← HR.out]; simp [h1]
      have i1 : decide ((n : Int) < 1) = true := by simp; omega
      have j1 : (n : Int) < 1 := by omega
      go_wp2_with fail
      go_ret
      exact ⟨rfl, HB2.out⟩
end Go.Proofs.Ytkfcbihofipcbaa.It
