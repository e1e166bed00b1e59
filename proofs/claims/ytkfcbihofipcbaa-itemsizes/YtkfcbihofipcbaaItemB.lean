/- The program's item: Shard, and what is picked by a closure: pick, Of, Whole. -/
import Derived.Test.YtkfcbihofipcbaaItemA

import Derived.Test.YtkfcbihofipcbaaItemM2

import Derived.Test.YtkfcbihofipcbaaItemEq

namespace Go.Proofs.Ytkfcbihofipcbaa.It

open Go.RowKit Go.Proofs.Ytkfcbihofipcbaa.Vc Go.Proofs.Ytkfcbihofipcbaa.Sp

set_option linter.unusedVariables false

set_option linter.unusedSimpArgs false

set_option maxRecDepth 100000

set_option maxHeartbeats 2000000 in
theorem shard_any (b k : ByteArray) (n : Int) (w : World) (hb : b.size ≤ 140737488355328) (hk : k.size ≤ 140737488355328) (h0 : -9223372036854775808 ≤ n) (h1 : n ≤ 9223372036854775807) :
    Calls Try.prog 28 #[.string b, .string k, .int .i64 n] w fun e w' => e = .returned (.int .i64 (I.shard b k n)) ∧ Below w.heap.size w w' := by
  by_cases hn : n < 1
  · have HF : Hid (I.shard b k n = 1) := by show _ = _; unfold I.shard; rw [if_pos hn]
    rw [HF.out]
    go_enter Try.func28, Try.ntmps28
    go_wp2_with fail
    go_ret
    exact ⟨rfl, Below.refl _ _⟩
  · have hi : ¬ n < 1 := hn
    have hi' : decide (n < 1) = false := by simp; omega
    have CB := Lib.hid (fun w => Pk.text_any b w (by omega))
    have CK := Lib.hid (fun w => Pk.text_any k w (by omega))
    rw [textS_eq] at CB CK
    have lb := I.text_len b
    have lk := I.text_len k
    have sb : (P.S (I.text b)).size = (I.text b).length := P.S_size _
    have sk : (P.S (I.text k)).size = (I.text k).length := P.S_size _
    have ss : (P.S (I.text b) ++ P.S (I.text k)).size ≤ 4611686018427387904 := by rw [ByteArray.size_append]; omega
    have CS := Lib.hid (fun w => Cr.sum_any (P.S (I.text b) ++ P.S (I.text k)) w ss)
    rw [show (P.S (I.text b) ++ P.S (I.text k)).data.toList = I.text b ++ I.text k by rw [P.S_append, P.S_list]] at CS
    obtain ⟨m, HM⟩ : ∃ m, Hid ((Cr.M.sum (I.text b ++ I.text k)).toNat = m) := ⟨_, rfl⟩
    have hm : m < 4294967296 := by rw [← HM.out]; exact (Cr.M.sum (I.text b ++ I.text k)).isLt
    have HF : Hid (I.shard b k n = (m : Int) % n + 1) := by show _ = _; unfold I.shard; rw [if_neg hn, HM.out]
    rw [HM.out] at CS
    rw [HF.out]
    have hcat : (P.S (I.text b)).size + (P.S (I.text k)).size ≤ 9223372036854775807 := by omega
    generalize P.S (I.text b) = p at *
    generalize P.S (I.text k) = q at *
    have e1 : IntKind.u64.wrap (m : Int) = (m : Int) := wrapu (by omega) (by omega)
    have e2 : IntKind.u64.wrap n = n := wrapu (by omega) (by omega)
    obtain ⟨r, hr⟩ : ∃ r : Int, r = (m : Int) % n := ⟨_, rfl⟩
    have hr0 : 0 ≤ r := by rw [hr]; exact Int.emod_nonneg _ (by omega)
    have hrn : r < n := by rw [hr]; exact Int.emod_lt_of_pos _ (by omega)
    have e3 : (m : Int).tmod n = r := by rw [Int.tmod_eq_emod_of_nonneg (by omega), hr]
    have e4 : IntKind.i64.wrap r = r := wrapi (by omega) (by omega)
    have e5 : IntKind.i64.wrap (r + 1) = r + 1 := wrapi (by omega) (by omega)
    have hz : ¬ n = 0 := by omega
    rw [← hr]
    clear hr HF HM sb sk lb lk ss
    go_enter Try.func28, Try.ntmps28
    go_wp2_with fail
    refine (CB.out _).mono ?_; rintro e w1 ⟨rfl, hb1⟩
    go_wp2_with fail
    refine (CK.out _).mono ?_; rintro e w2 ⟨rfl, hb2⟩
    have HB : Hid (Below w.heap.size w w2) := hb1.trans (hb2.mono hb1.size)
    clear hb1 hb2
    go_wp2_with fail
    refine (CS.out _).mono ?_; rintro e w3 ⟨rfl, rfl⟩
    go_wp2_with fail
    go_ret
    exact ⟨rfl, HB.out⟩
set_option maxHeartbeats 8000000 in
theorem pick_w (c1 : Value) (p : I.Wt → Bool) (v : Value) (L : List I.Wt) (w : World) (hL : IsWs w v L) (hn : L.length < 1000000)
    (hf : ∀ x ∈ L, ∀ u, Below w.heap.size w u → Calls Try.prog 45 #[WV x, c1] u fun e u' => e = .returned (.bool (p x)) ∧ Below u.heap.size u u') :
    Calls Try.prog 44 #[v, .func (.func 45) #[] #[c1]] w fun e w' => ∃ v', e = .returned v' ∧ OW 23 w' w.heap.size v' (L.filter p) ∧ Below w.heap.size w w' := by
  obtain ⟨sa, cap, rfl, hca, hma, _⟩ := hL.is
  obtain ⟨n, HN⟩ : ∃ n, Hid (L.length = n) := ⟨_, rfl⟩
  have HL := Lib.hid hL
  have HFN := Lib.hid hf
  rw [HN.out] at HL hn
  rw [HN.out]
  have HO1 : Hid (OW 23 w w.heap.size (.slice none 0 0) ((L.take 0).filter p)) := OW.nil _ _ _
  have HB1 : Hid (Below w.heap.size w w) := Below.refl _ _
  clear hL hca hma hf
  go_enter Try.func44, Try.ntmps44
  go_wp2_with fail
  go_loopw [5, 10] (fun t i wr => ∃ j : Nat, j ≤ n ∧ i = .int .i64 j ∧ Hid (OW 23 wr w.heap.size t ((L.take j).filter p)) ∧ Hid (Below w.heap.size w wr)) (fun _ i _ => n - (intOf i).toNat)
  case atStart => exact ⟨0, by omega, rfl, HO1, HB1⟩
  case round =>
    obtain ⟨j, hj, rfl, HOr, HBr⟩ := hrel
    clear HB1 HO1
    by_cases hlt : j < n
    · have ilt : (j : Int) < (n : Int) := by omega
      obtain ⟨g, off, cap', hv, hg0, hrow⟩ := IsWs.at HL.out j (by rw [HN.out]; exact hlt)
      obtain rfl : sa = some ⟨g, off, none⟩ := by injection hv
      clear hv
      have hg := Nat.lt_of_lt_of_le hg0 HBr.out.size
      have hrow : wr.rangeAt g (off + 4 * j) (wc (L.getD j I.none_)) := fun k v hv => by rw [HBr.out.cell (p := ⟨g, off + 4 * j + k, none⟩) hg0]; exact hrow k v hv
      have hfs := I.filter_step L p j (by rw [HN.out]; exact hlt)
      have hmem : L.getD j I.none_ ∈ L := by
        rw [List.getD_eq_getElem?_getD, List.getElem?_eq_getElem (by rw [HN.out]; exact hlt)]
        exact List.getElem_mem _
      have CF := Lib.hid (HFN.out _ hmem)
      have hlen : ((L.take j).filter p).length < 1000000 := Nat.lt_of_le_of_lt (List.length_filter_le ..) (by rw [List.length_take]; omega)
      obtain ⟨x, HX⟩ : ∃ x, Hid (L.getD j I.none_ = x) := ⟨_, rfl⟩
      rw [HX.out] at hrow hfs CF
      obtain ⟨q, HQ⟩ : ∃ q, Hid (p x = q) := ⟨_, rfl⟩
      rw [HQ.out] at hfs CF
      have HFS := Lib.hid hfs
      have HRr := Lib.hid hrow
      have hix : ∀ w, (Instr.indexAt 41 (.slice (some ⟨g, off, none⟩) n cap) (.int .i64 (j : Int))).run Try.prog w = .ok (.pointer (some ⟨g, off + 4 * j, none⟩)) w := fun w => index_iw g off n cap j hlt w
      clear hrow hfs hmem
      go_wp2_with (first | refine mid_load rfl 23 _ rfl g (off + 4 * j) rfl (wc x) HRr.out _ Try.underlying23 rfl Try.size_w ?_ | refine blk_alloc rfl 23 (wc I.none_) rfl Try.info_iw2 ?_)
      intro w2 A2 B2 Z2
      go_wp2_with (first | refine blk_store rfl 23 _ _ rfl wr.heap.size rfl (wc x) rfl _ A2 rfl Try.size_w rfl ?_)
      intro w3 A3 U3
      have HA3 : Hid (Blk w3 wr.heap.size (wc x)) := A3
      have HB3 : Hid (Below wr.heap.size wr w3) := B2.trans (U3.below (Nat.le_refl _))
      have hz3 : wr.heap.size < w3.heap.size := by rw [U3.size]; omega
      have HZ3 := Lib.hid hz3
      clear A2 B2 Z2 A3 U3 hix
      go_wp2_with (first | refine blk_load rfl 23 _ rfl wr.heap.size rfl (wc x) HA3.out _ Try.underlying23 rfl Try.size_w ?_)
      refine (CF.out _ (Below.trans HBr.out (HB3.out.mono HBr.out.size))).mono ?_; rintro e w4 ⟨rfl, hb4⟩
      have HA4 : Hid (Blk w4 wr.heap.size (wc x)) := Blk.below HA3.out hb4 HZ3.out
      have HB4 : Hid (Below wr.heap.size wr w4) := Below.trans HB3.out (hb4.mono HB3.out.size)
      have HO4 := Lib.hid (OW.below HOr.out HB4.out)
      have HW4 : Hid (Below w.heap.size w w4) := Below.trans HBr.out (HB4.out.mono HBr.out.size)
      clear hb4 HA3 HB3 HOr HBr hz3 HZ3 HB4 CF HRr hg hg0
      cases q with
      | false =>
        have HO' := HO4.out
        rw [show ((L.take j).filter p) = (L.take (j + 1)).filter p by rw [HFS.out]; simp] at HO'
        have HO' := Lib.hid HO'
        go_wp2_with fail
        go_roundw
        case rel => exact ⟨j + 1, by omega, by go_num, HO', HW4⟩
        case measure => simp [intOf]; omega
      | true =>
        go_wp2_with (first | refine blk_load rfl 23 _ rfl wr.heap.size rfl (wc x) HA4.out _ Try.underlying23 rfl Try.size_w ?_ | refine build_iw rfl _ rfl x rfl ?_)
        intro w5 A5 B5 Z5
        have HO5 := Lib.hid (OW.below HO4.out B5)
        have HB5 : Hid (Below w.heap.size w w5) := Below.trans HW4.out (B5.mono HW4.out.size)
        have hz5 : w.heap.size ≤ w5.heap.size := HB5.out.size
        clear B5 Z5 HO4 HW4 HA4
        go_wp2_with (at_builtin; refine append_gen (t := 23) Try.underlying41 Try.info_iw _ rfl _ _ rfl w.heap.size _ _ rfl HO5.out w4.heap.size rfl x A5 ?c2 ?c3 ?_)
        case c2 => exact hlen
        case c3 => omega
        intro v' w6 ho hb hbs
        have HO6 : Hid (OW 23 w6 w.heap.size v' ((L.take (j + 1)).filter p)) := by
          show OW _ _ _ _ _
          rw [HFS.out]
          exact ho
        have HB6 : Hid (Below w.heap.size w w6) := Below.trans HB5.out hb
        clear ho hb hbs A5 HO5 HB5
        go_wp2_with fail
        go_roundw
        case rel => exact ⟨j + 1, by omega, by go_num, HO6, HB6⟩
        case measure => simp [intOf]; omega
    · obtain rfl : j = n := by omega
      have HF : Hid (L.take j = L) := List.take_of_length_le (by rw [HN.out]; exact Nat.le_refl _)
      rw [HF.out] at HOr
      go_wp2_with fail
      go_ret
      exact ⟨_, rfl, HOr.out, HBr.out⟩
set_option maxHeartbeats 8000000 in
theorem pick_o (c1 c2 : Value) (p : I.Wt → Bool) (v : Value) (L : List I.Wt) (w : World) (hL : IsWs w v L) (hn : L.length < 1000000)
    (hf : ∀ x ∈ L, ∀ u, Below w.heap.size w u → Calls Try.prog 48 #[WV x, c1, c2] u fun e u' => e = .returned (.bool (p x)) ∧ Below u.heap.size u u') :
    Calls Try.prog 44 #[v, .func (.func 48) #[] #[c1, c2]] w fun e w' => ∃ v', e = .returned v' ∧ OW 23 w' w.heap.size v' (L.filter p) ∧ Below w.heap.size w w' := by
  obtain ⟨sa, cap, rfl, hca, hma, _⟩ := hL.is
  obtain ⟨n, HN⟩ : ∃ n, Hid (L.length = n) := ⟨_, rfl⟩
  have HL := Lib.hid hL
  have HFN := Lib.hid hf
  rw [HN.out] at HL hn
  rw [HN.out]
  have HO1 : Hid (OW 23 w w.heap.size (.slice none 0 0) ((L.take 0).filter p)) := OW.nil _ _ _
  have HB1 : Hid (Below w.heap.size w w) := Below.refl _ _
  clear hL hca hma hf
  go_enter Try.func44, Try.ntmps44
  go_wp2_with fail
  go_loopw [5, 10] (fun t i wr => ∃ j : Nat, j ≤ n ∧ i = .int .i64 j ∧ Hid (OW 23 wr w.heap.size t ((L.take j).filter p)) ∧ Hid (Below w.heap.size w wr)) (fun _ i _ => n - (intOf i).toNat)
  case atStart => exact ⟨0, by omega, rfl, HO1, HB1⟩
  case round =>
    obtain ⟨j, hj, rfl, HOr, HBr⟩ := hrel
    clear HB1 HO1
    by_cases hlt : j < n
    · have ilt : (j : Int) < (n : Int) := by omega
      obtain ⟨g, off, cap', hv, hg0, hrow⟩ := IsWs.at HL.out j (by rw [HN.out]; exact hlt)
      obtain rfl : sa = some ⟨g, off, none⟩ := by injection hv
      clear hv
      have hg := Nat.lt_of_lt_of_le hg0 HBr.out.size
      have hrow : wr.rangeAt g (off + 4 * j) (wc (L.getD j I.none_)) := fun k v hv => by rw [HBr.out.cell (p := ⟨g, off + 4 * j + k, none⟩) hg0]; exact hrow k v hv
      have hfs := I.filter_step L p j (by rw [HN.out]; exact hlt)
      have hmem : L.getD j I.none_ ∈ L := by
        rw [List.getD_eq_getElem?_getD, List.getElem?_eq_getElem (by rw [HN.out]; exact hlt)]
        exact List.getElem_mem _
      have CF := Lib.hid (HFN.out _ hmem)
      have hlen : ((L.take j).filter p).length < 1000000 := Nat.lt_of_le_of_lt (List.length_filter_le ..) (by rw [List.length_take]; omega)
      obtain ⟨x, HX⟩ : ∃ x, Hid (L.getD j I.none_ = x) := ⟨_, rfl⟩
      rw [HX.out] at hrow hfs CF
      obtain ⟨q, HQ⟩ : ∃ q, Hid (p x = q) := ⟨_, rfl⟩
      rw [HQ.out] at hfs CF
      have HFS := Lib.hid hfs
      have HRr := Lib.hid hrow
      have hix : ∀ w, (Instr.indexAt 41 (.slice (some ⟨g, off, none⟩) n cap) (.int .i64 (j : Int))).run Try.prog w = .ok (.pointer (some ⟨g, off + 4 * j, none⟩)) w := fun w => index_iw g off n cap j hlt w
      clear hrow hfs hmem
      go_wp2_with (first | refine mid_load rfl 23 _ rfl g (off + 4 * j) rfl (wc x) HRr.out _ Try.underlying23 rfl Try.size_w ?_ | refine blk_alloc rfl 23 (wc I.none_) rfl Try.info_iw2 ?_)
      intro w2 A2 B2 Z2
      go_wp2_with (first | refine blk_store rfl 23 _ _ rfl wr.heap.size rfl (wc x) rfl _ A2 rfl Try.size_w rfl ?_)
      intro w3 A3 U3
      have HA3 : Hid (Blk w3 wr.heap.size (wc x)) := A3
      have HB3 : Hid (Below wr.heap.size wr w3) := B2.trans (U3.below (Nat.le_refl _))
      have hz3 : wr.heap.size < w3.heap.size := by rw [U3.size]; omega
      have HZ3 := Lib.hid hz3
      clear A2 B2 Z2 A3 U3 hix
      go_wp2_with (first | refine blk_load rfl 23 _ rfl wr.heap.size rfl (wc x) HA3.out _ Try.underlying23 rfl Try.size_w ?_)
      refine (CF.out _ (Below.trans HBr.out (HB3.out.mono HBr.out.size))).mono ?_; rintro e w4 ⟨rfl, hb4⟩
      have HA4 : Hid (Blk w4 wr.heap.size (wc x)) := Blk.below HA3.out hb4 HZ3.out
      have HB4 : Hid (Below wr.heap.size wr w4) := Below.trans HB3.out (hb4.mono HB3.out.size)
      have HO4 := Lib.hid (OW.below HOr.out HB4.out)
      have HW4 : Hid (Below w.heap.size w w4) := Below.trans HBr.out (HB4.out.mono HBr.out.size)
      clear hb4 HA3 HB3 HOr HBr hz3 HZ3 HB4 CF HRr hg hg0
      cases q with
      | false =>
        have HO' := HO4.out
        rw [show ((L.take j).filter p) = (L.take (j + 1)).filter p by rw [HFS.out]; simp] at HO'
        have HO' := Lib.hid HO'
        go_wp2_with fail
        go_roundw
        case rel => exact ⟨j + 1, by omega, by go_num, HO', HW4⟩
        case measure => simp [intOf]; omega
      | true =>
        go_wp2_with (first | refine blk_load rfl 23 _ rfl wr.heap.size rfl (wc x) HA4.out _ Try.underlying23 rfl Try.size_w ?_ | refine build_iw rfl _ rfl x rfl ?_)
        intro w5 A5 B5 Z5
        have HO5 := Lib.hid (OW.below HO4.out B5)
        have HB5 : Hid (Below w.heap.size w w5) := Below.trans HW4.out (B5.mono HW4.out.size)
        have hz5 : w.heap.size ≤ w5.heap.size := HB5.out.size
        clear B5 Z5 HO4 HW4 HA4
        go_wp2_with (at_builtin; refine append_gen (t := 23) Try.underlying41 Try.info_iw _ rfl _ _ rfl w.heap.size _ _ rfl HO5.out w4.heap.size rfl x A5 ?c2 ?c3 ?_)
        case c2 => exact hlen
        case c3 => omega
        intro v' w6 ho hb hbs
        have HO6 : Hid (OW 23 w6 w.heap.size v' ((L.take (j + 1)).filter p)) := by
          show OW _ _ _ _ _
          rw [HFS.out]
          exact ho
        have HB6 : Hid (Below w.heap.size w w6) := Below.trans HB5.out hb
        clear ho hb hbs A5 HO5 HB5
        go_wp2_with fail
        go_roundw
        case rel => exact ⟨j + 1, by omega, by go_num, HO6, HB6⟩
        case measure => simp [intOf]; omega
    · obtain rfl : j = n := by omega
      have HF : Hid (L.take j = L) := List.take_of_length_le (by rw [HN.out]; exact Nat.le_refl _)
      rw [HF.out] at HOr
      go_wp2_with fail
      go_ret
      exact ⟨_, rfl, HOr.out, HBr.out⟩
end Go.Proofs.Ytkfcbihofipcbaa.It
