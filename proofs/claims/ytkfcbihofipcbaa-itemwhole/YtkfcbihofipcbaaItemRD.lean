/- The document's own answer to chapter 8: Bytes. -/
import Derived.Test.YtkfcbihofipcbaaItemRB

import Derived.Test.YtkfcbihofipcbaaItemEq

namespace Go.Proofs.Ytkfcbihofipcbaa.It

open Go.RowKit Go.Proofs.Ytkfcbihofipcbaa.Vc Go.Proofs.Ytkfcbihofipcbaa.Sp

set_option linter.unusedVariables false

set_option linter.unusedSimpArgs false

set_option maxRecDepth 100000

set_option maxHeartbeats 8000000 in
theorem ref_bytes (a : List Nat) (d : Int) (v : Value) (L : List I.Wt) (w : World) (ha : V.Ok a) (hL : IsWs w v L) :
    Calls Try.prog 16 #[TV a d v] w fun e w' => e = .returned (.tuple #[.string (I.bytesS a d L), .bool (I.whole a d L)]) ∧ Below w.heap.size w w' := by
  have HA := Lib.hid ha.len
  have HSs := Lib.hid (size_rs (d := d) ha.len)
  have HST := Lib.hid (fun v => size_tx (d := d) (v := v) ha.len)
  have CW := Lib.hid (fun w v hL => ref_whole a d v L w ha.len hL)
  have CP := Lib.hid (fun w => ref_sput a d w ha)
  have hpl := T.vput_len ha.len
  unfold I.bytesS
  obtain ⟨sa, cap, rfl, hca, hma, _⟩ := hL.is
  obtain ⟨n, HN⟩ : ∃ n, Hid (L.length = n) := ⟨_, rfl⟩
  have HL := Lib.hid hL
  rw [HN.out] at HL
  rw [HN.out]
  clear hca hma hL ha
  cases hw : I.whole a d L with
  | false =>
    rw [hw] at CW
    clear hw
    show Calls _ _ _ _ fun e w' => e = .returned (.tuple #[.string ⟨#[]⟩, .bool false]) ∧ _
    go_enter Try.func16, Try.ntmps16
    go_wp2_with (first | refine blk_box rfl 52 _ rfl (ks .u64 a ++ [Value.int .i64 d, .slice sa n cap]) rfl ?_)
    intro w1 A1 B1 Z1
    have HL1 : Hid (IsWs w1 (.slice sa n cap) L) := IsWs.below HL.out B1
    have HA1 : Hid (Blk w1 w.heap.size (ks .u64 a ++ [Value.int .i64 d, .slice sa n cap])) := A1
    have HB1 : Hid (Below w.heap.size w w1) := B1
    clear A1 B1 Z1
    go_wp2_with (first | refine blk_load rfl 52 _ rfl w.heap.size rfl (ks .u64 a ++ [Value.int .i64 d, .slice sa n cap]) HA1.out _ Try.underlying52 rfl (HST.out _) ?_)
    refine (CW.out _ _ HL1.out).mono ?_; rintro e w2 ⟨rfl, hb2⟩
    have HB2 : Hid (Below w.heap.size w w2) := Below.trans HB1.out (hb2.mono HB1.out.size)
    clear hb2
    go_wp2_with fail
    go_ret2
    exact ⟨rfl, HB2.out⟩
  | true =>
    rw [hw] at CW
    obtain ⟨hr, h1, h8, hok⟩ := I.whole_some hw
    rw [HN.out] at h1 h8 hok
    have HRI : Hid (∀ j, j < n → I.right (L.getD j I.none_) = true) := fun j hj => I.okTo_right hok j hj
    rw [hr, show T.puts a d = P.S (T.put a d) by unfold T.puts; rw [hr]; rfl] at CP
    have hd := (T.right_known hr).2
    clear hw hr hok
    have CN := Lib.hid (fun w => Pk.ref_number_any n 1 w (by omega))
    rw [show Pk.numS n 1 = P.S (P.numB n 1) from rfl] at CN
    have hw64 : IntKind.u64.wrap (n : Int) = (n : Int) := wrapu (by omega) (by omega)
    have HBY : Hid (I.bytes a d L = T.put a d ++ P.numB n 1 ++ ((L.take n).map I.enc).flatten) := by
      show _ = _
      rw [List.take_of_length_le (by rw [HN.out]; exact Nat.le_refl _), I.bytes, HN.out]
    obtain ⟨r, HR⟩ : ∃ r, Hid (P.S (I.bytes a d L) = r) := ⟨_, rfl⟩
    show Calls _ _ _ _ fun e w' => e = .returned (.tuple #[.string (P.S (I.bytes a d L)), .bool true]) ∧ _
    rw [HR.out]
    have z1 : (P.S (T.put a d)).size ≤ 41 := by rw [P.S_size, T.put, List.length_append, P.numB_length]; omega
    have z2 : (P.S (P.numB n 1)).size = 1 := by rw [P.S_size, P.numB_length]
    have HS0 : Hid (P.S (T.put a d ++ P.numB n 1 ++ ((L.take 0).map I.enc).flatten) = P.S (T.put a d) ++ P.S (P.numB n 1)) := by
      show _ = _
      rw [P.S_append]
      simp
    obtain ⟨p, EP⟩ : ∃ r, Hid (P.S (T.put a d) = r) := ⟨_, rfl⟩
    obtain ⟨q, EQ⟩ : ∃ r, Hid (P.S (P.numB n 1) = r) := ⟨_, rfl⟩
    rw [EP.out] at CP z1 HS0
    rw [EQ.out] at CN z2 HS0
    have z3 : (p ++ q).size ≤ 42 + 100 * 0 := by rw [ByteArray.size_append]; omega
    clear hpl hd
    go_enter Try.func16, Try.ntmps16
    go_wp2_with (first | refine blk_box rfl 52 _ rfl (ks .u64 a ++ [Value.int .i64 d, .slice sa n cap]) rfl ?_)
    intro w1 A1 B1 Z1
    have HL1 : Hid (IsWs w1 (.slice sa n cap) L) := IsWs.below HL.out B1
    have HA1 : Hid (Blk w1 w.heap.size (ks .u64 a ++ [Value.int .i64 d, .slice sa n cap])) := A1
    have HB1 : Hid (Below w.heap.size w w1) := B1
    have HZ1 : Hid (w.heap.size < w1.heap.size) := by show _ < _; omega
    clear A1 B1 Z1
    go_wp2_with (first | refine blk_load rfl 52 _ rfl w.heap.size rfl (ks .u64 a ++ [Value.int .i64 d, .slice sa n cap]) HA1.out _ Try.underlying52 rfl (HST.out _) ?_)
    refine (CW.out _ _ HL1.out).mono ?_; rintro e w2 ⟨rfl, hb2⟩
    have HA2 : Hid (Blk w2 w.heap.size (ks .u64 a ++ [Value.int .i64 d, .slice sa n cap])) := Blk.below HA1.out hb2 HZ1.out
    have HB2 : Hid (Below w.heap.size w w2) := Below.trans HB1.out (hb2.mono HB1.out.size)
    have HZ2 : Hid (w.heap.size < w2.heap.size) := Nat.lt_of_lt_of_le HZ1.out hb2.size
    clear hb2 HL1 HA1 HB1 HZ1 CW
    go_wp2_with (first | refine sub_load rfl 50 _ rfl w.heap.size rfl (ks .u64 a ++ [Value.int .i64 d]) [.slice sa n cap] (tx_stamp HA2.out) _ Try.underlying50 rfl HSs.out ?_)
    refine (CP.out _).mono ?_; rintro e w3 ⟨rfl, hb3⟩
    have HA3 : Hid (Blk w3 w.heap.size (ks .u64 a ++ [Value.int .i64 d, .slice sa n cap])) := Blk.below HA2.out hb3 HZ2.out
    have HB3 : Hid (Below w.heap.size w w3) := Below.trans HB2.out (hb3.mono HB2.out.size)
    have HZ3 : Hid (w.heap.size < w3.heap.size) := Nat.lt_of_lt_of_le HZ2.out hb3.size
    have c5 := tx_cell HA3.out HA.out
    clear hb3 HA2 HB2 HZ2 CP
    go_wp2_with fail
    refine (CN.out _).mono ?_; rintro e w4 ⟨rfl, hb4⟩
    have HA4 : Hid (Blk w4 w.heap.size (ks .u64 a ++ [Value.int .i64 d, .slice sa n cap])) := Blk.below HA3.out hb4 HZ3.out
    have HB4 : Hid (Below w.heap.size w w4) := Below.trans HB3.out (hb4.mono HB3.out.size)
    have HZ4 : Hid (w.heap.size < w4.heap.size) := Nat.lt_of_lt_of_le HZ3.out hb4.size
    clear hb4 HA3 HB3 HZ3 CN c5
    go_wp2_with fail
    go_loopw [4, 6] (fun t i wr => ∃ (j : Nat) (s : ByteArray), j ≤ n ∧ i = .int .i64 j ∧ t = .string s ∧ s.size ≤ 42 + 100 * j ∧ Hid (P.S (T.put a d ++ P.numB n 1 ++ ((L.take j).map I.enc).flatten) = s) ∧ Hid (Blk wr w.heap.size (ks .u64 a ++ [Value.int .i64 d, .slice sa n cap])) ∧ Hid (Below w.heap.size w wr) ∧ Hid (w.heap.size < wr.heap.size)) (fun _ i _ => n - (intOf i).toNat)
    case atStart => exact ⟨0, p ++ q, by omega, rfl, rfl, z3, HS0, HA4, HB4, HZ4⟩
    case round =>
      obtain ⟨j, s, hj, rfl, rfl, hs, HS, HAr, HBr, HZr⟩ := hrel
      clear HA4 HB4 HZ4 z1 z2 z3 HS0
      have c5 := tx_cell HAr.out HA.out
      by_cases hlt : j < n
      · have ilt : (j : Int) < (n : Int) := by omega
        obtain ⟨g, off, cap', hv, hg0, hrow0⟩ := IsWs.at HL.out j (by rw [HN.out]; exact hlt)
        obtain rfl : sa = some ⟨g, off, none⟩ := by injection hv
        clear hv
        have hes := I.enc_step L j (by rw [HN.out]; exact hlt)
        have hrt := I.right_some (HRI.out j hlt)
        have HROW : Hid (wr.rangeAt g (off + 4 * j) (wc (L.getD j I.none_))) := fun k v hv => by rw [HBr.out.cell (p := ⟨g, off + 4 * j + k, none⟩) hg0]; exact hrow0 k v hv
        obtain ⟨x, HX⟩ : ∃ x, Hid (L.getD j I.none_ = x) := ⟨_, rfl⟩
        rw [HX.out] at HROW hes hrt
        obtain ⟨xb, xk, xv, xg⟩ := x
        simp only at hrt
        have hix : ∀ w, (Instr.indexAt 39 (.slice (some ⟨g, off, none⟩) n cap) (.int .i64 (j : Int))).run Try.prog w = .ok (.pointer (some ⟨g, off + 4 * j, none⟩)) w := fun w => index_rw g off n cap j hlt w
        have CB := Lib.hid (fun w => Pk.ref_text_any xb w (by omega))
        have CK := Lib.hid (fun w => Pk.ref_text_any xk w (by omega))
        have CV := Lib.hid (fun w => Pk.ref_text_any xv w (by omega))
        rw [textS_eq] at CB CK CV
        have lb : (P.S (I.text xb)).size ≤ 26 := by rw [P.S_size]; have := I.text_len xb; omega
        have lk : (P.S (I.text xk)).size ≤ 26 := by rw [P.S_size]; have := I.text_len xk; omega
        have lv : (P.S (I.text xv)).size ≤ 42 := by rw [P.S_size]; have := I.text_len xv; omega
        have HSS0 : Hid (P.S (T.put a d ++ P.numB n 1 ++ ((L.take (j + 1)).map I.enc).flatten) = s ++ P.S (I.enc (xb, xk, xv, xg))) := by
          show _ = _
          rw [hes, ← List.append_assoc, ← P.S_append, HS.out]
        have henc : P.S (I.enc (xb, xk, xv, xg)) = (P.S (I.text xb) ++ P.S (I.text xk)) ++ P.S (if xg = true then [1] else 0 :: I.text xv) := by
          rw [P.S_append, P.S_append]
          rfl
        rw [henc] at HSS0
        obtain ⟨tb, EB⟩ : ∃ r, Hid (P.S (I.text xb) = r) := ⟨_, rfl⟩
        obtain ⟨tk, EK⟩ : ∃ r, Hid (P.S (I.text xk) = r) := ⟨_, rfl⟩
        rw [EB.out] at CB lb HSS0
        rw [EK.out] at CK lk HSS0
        obtain ⟨y1, EY1⟩ : ∃ r, Hid (s ++ tb = r) := ⟨_, rfl⟩
        obtain ⟨y2, EY2⟩ : ∃ r, Hid (y1 ++ tk = r) := ⟨_, rfl⟩
        have m1 : y1.size = s.size + tb.size := by rw [← EY1.out, ByteArray.size_append]
        have m2 : y2.size = y1.size + tk.size := by rw [← EY2.out, ByteArray.size_append]
        have n1 : Hid (s.size + tb.size ≤ 9223372036854775807) := by show _ ≤ _; omega
        have n2 : Hid (y1.size + tk.size ≤ 9223372036854775807) := by show _ ≤ _; omega
        have n3 : y2.size + 1 ≤ 9223372036854775807 := by omega
        have n4 : y2.size ≤ 42 + 100 * j + 52 := by omega
        clear hes hrow0 hrt hg0 m1 m2 lb lk
        go_wp2_with (first | refine mid_load rfl 38 _ rfl g (off + 4 * j) rfl (wc (xb, xk, xv, xg)) HROW.out _ Try.underlying38 rfl Try.size_rw ?_ | refine blk_alloc rfl 38 (wc I.none_) rfl Try.info_rw2 ?_)
        intro w5 A5 B5 Z5
        go_wp2_with (first | refine blk_store rfl 38 _ _ rfl wr.heap.size rfl (wc (xb, xk, xv, xg)) rfl _ A5 rfl Try.size_rw rfl ?_)
        intro w6 A6 U6
        have HX6 : Hid (Blk w6 wr.heap.size (wc (xb, xk, xv, xg))) := A6
        have HA6 : Hid (Blk w6 w.heap.size (ks .u64 a ++ [Value.int .i64 d, .slice (some ⟨g, off, none⟩) n cap])) := Blk.upd (Blk.below HAr.out B5 HZr.out) U6 (by have := HZr.out; omega)
        have HB6 : Hid (Below w.heap.size w w6) := (Below.trans HBr.out (B5.mono HBr.out.size)).trans (U6.below HBr.out.size)
        have HZ6 : Hid (w.heap.size < w6.heap.size ∧ wr.heap.size < w6.heap.size) := by have := HZr.out; have := U6.size; exact ⟨by omega, by omega⟩
        clear A5 B5 Z5 A6 U6 HAr HBr hix HROW c5
        have K0 : Hid (∀ u, Below w6.heap.size w6 u → u.cell? ⟨wr.heap.size, 0, none⟩ = some (.string xb)) := fun u hu => (Blk.below HX6.out hu HZ6.out.2).cell 0 _ rfl
        have K1 : Hid (∀ u, Below w6.heap.size w6 u → u.cell? ⟨wr.heap.size, 1, none⟩ = some (.string xk)) := fun u hu => (Blk.below HX6.out hu HZ6.out.2).cell 1 _ rfl
        have X0 : Hid (∀ u, Below w6.heap.size w6 u → Calls Try.prog 40 [.string xb].toArray u fun e u' => e = .returned (.string tb) ∧ Below w6.heap.size w6 u') := fun u hu => Calls.more hu (CB.out u)
        have X1 : Hid (∀ u, Below w6.heap.size w6 u → Calls Try.prog 40 [.string xk].toArray u fun e u' => e = .returned (.string tk) ∧ Below w6.heap.size w6 u') := fun u hu => Calls.more hu (CK.out u)
        clear CB CK
        go_wp2_with fail
        refine region_w Try.mixed (by kernel_rfl) ?_
        refine w_move rfl _ rfl (.string s) rfl (fun K hK => ?_)
        go_simp
        refine hK _ ?_
        clear hK K
        refine w_value rfl (.pointer (some ⟨wr.heap.size, 0, none⟩)) (fun u hu => by go_simp) (fun K hK => ?_)
        go_simp
        refine hK _ ?_
        clear hK K
        refine w_value rfl (.string xb) (fun u hu => by have hc := K0.out u hu; go_simp) (fun K hK => ?_)
        go_simp
        refine hK _ ?_
        clear hK K
        refine w_call rfl 40 Try.f40 Try.func40 rfl rfl _ _ rfl _ rfl (.string tb) (by exact X0.out) (fun K hK => ?_)
        go_simp
        refine hK _ ?_
        clear hK K
        refine w_cat rfl _ _ _ _ rfl s tb y1 rfl rfl n1.out EY1.out (fun K hK => ?_)
        go_simp
        refine hK _ ?_
        clear hK K
        refine w_value rfl (.pointer (some ⟨wr.heap.size, 1, none⟩)) (fun u hu => by go_simp) (fun K hK => ?_)
        go_simp
        refine hK _ ?_
        clear hK K
        refine w_value rfl (.string xk) (fun u hu => by have hc := K1.out u hu; go_simp) (fun K hK => ?_)
        go_simp
        refine hK _ ?_
        clear hK K
        refine w_call rfl 40 Try.f40 Try.func40 rfl rfl _ _ rfl _ rfl (.string tk) (by exact X1.out) (fun K hK => ?_)
        go_simp
        refine hK _ ?_
        clear hK K
        refine w_cat rfl _ _ _ _ rfl y1 tk y2 rfl rfl n2.out EY2.out (fun K hK => ?_)
        go_simp
        refine hK _ ?_
        clear hK K
        refine w_assign rfl _ rfl (.string y2) rfl (fun K hK => ?_)
        go_simp
        refine hK _ ?_
        clear hK K
        refine w_nil ?_
        intro u hu
        have HXu : Hid (Blk u wr.heap.size (wc (xb, xk, xv, xg))) := Blk.below HX6.out hu HZ6.out.2
        have HAu : Hid (Blk u w.heap.size (ks .u64 a ++ [Value.int .i64 d, .slice (some ⟨g, off, none⟩) n cap])) := Blk.below HA6.out hu HZ6.out.1
        have HBu : Hid (Below w.heap.size w u) := Below.trans HB6.out (hu.mono HB6.out.size)
        have HZu : Hid (w.heap.size < u.heap.size) := Nat.lt_of_lt_of_le HZ6.out.1 hu.size
        have d3 := HXu.out.cell 3 _ rfl
        have d2 := HXu.out.cell 2 _ rfl
        clear hu HX6 HA6 HB6 HZ6 K0 K1 X0 X1
        cases xg with
        | true =>
          have HSZ : (y2 ++ ⟨#[1]⟩).size ≤ 42 + 100 * (j + 1) := by rw [ByteArray.size_append]; show y2.size + 1 ≤ _; omega
          have HSS : Hid (P.S (T.put a d ++ P.numB n 1 ++ ((L.take (j + 1)).map I.enc).flatten) = y2 ++ ⟨#[1]⟩) := by
            show _ = _
            rw [HSS0.out, ← EY2.out, ← EY1.out]
            apply ByteArray.ext
            simp [ByteArray.data_append, Array.append_assoc, P.S]
          have HAz := HAu
          have HBz := HBu
          have HZz := HZu
          go_wp2_with fail
          go_roundw
          case rel => exact ⟨j + 1, y2 ++ ⟨#[1]⟩, by omega, by go_num, rfl, HSZ, HSS, HAz, HBz, HZz⟩
          case measure => simp [intOf]; omega
        | false =>
          obtain ⟨tv, EV⟩ : ∃ r, Hid (P.S (I.text xv) = r) := ⟨_, rfl⟩
          rw [EV.out] at CV lv
          have hc0 : (y2 ++ ⟨#[0]⟩).size + tv.size ≤ 9223372036854775807 := by rw [ByteArray.size_append]; show y2.size + 1 + _ ≤ _; omega
          go_wp2_with fail
          refine (CV.out _).mono ?_; rintro e w7 ⟨rfl, hb7⟩
          have HAz : Hid (Blk w7 w.heap.size (ks .u64 a ++ [Value.int .i64 d, .slice (some ⟨g, off, none⟩) n cap])) := Blk.below HAu.out hb7 HZu.out
          have HBz : Hid (Below w.heap.size w w7) := Below.trans HBu.out (hb7.mono HBu.out.size)
          have HZz : Hid (w.heap.size < w7.heap.size) := Nat.lt_of_lt_of_le HZu.out hb7.size
          have HSZ : ((y2 ++ ⟨#[0]⟩) ++ tv).size ≤ 42 + 100 * (j + 1) := by rw [ByteArray.size_append, ByteArray.size_append]; show y2.size + 1 + _ ≤ _; omega
          have HSS : Hid (P.S (T.put a d ++ P.numB n 1 ++ ((L.take (j + 1)).map I.enc).flatten) = (y2 ++ ⟨#[0]⟩) ++ tv) := by
            show _ = _
            rw [HSS0.out, ← EY2.out, ← EY1.out, ← EV.out]
            apply ByteArray.ext
            simp [ByteArray.data_append, Array.append_assoc, P.S]
          clear hb7 HAu HBu HZu HXu d2 d3
          go_wp2_with fail
          go_roundw
          case rel => exact ⟨j + 1, (y2 ++ ⟨#[0]⟩) ++ tv, by omega, by go_num, rfl, HSZ, HSS, HAz, HBz, HZz⟩
          case measure => simp [intOf]; omega
      · obtain rfl : j = n := by omega
        obtain rfl : s = r := by rw [← HR.out, HBY.out]; exact HS.out.symm
        go_wp2_with fail
        go_ret2
        exact ⟨rfl, HBr.out⟩
end Go.Proofs.Ytkfcbihofipcbaa.It
