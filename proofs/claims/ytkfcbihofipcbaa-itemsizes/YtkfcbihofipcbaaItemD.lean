/- The program's item: putWrite, Bytes. -/
import Derived.Test.YtkfcbihofipcbaaItemC

namespace Go.Proofs.Ytkfcbihofipcbaa.It

open Go.RowKit Go.Proofs.Ytkfcbihofipcbaa.Vc Go.Proofs.Ytkfcbihofipcbaa.Sp

set_option linter.unusedVariables false

set_option linter.unusedSimpArgs false

set_option maxRecDepth 100000

theorem enc_size (x : I.Wt) (hb : x.1.size ≤ 16) (hk : x.2.1.size ≤ 16) (hv : x.2.2.1.size ≤ 32) : (P.S (I.enc x)).size ≤ 95 := by
  obtain ⟨b, k, v, g⟩ := x
  simp only at hb hk hv
  have h1 := I.text_len b
  have h2 := I.text_len k
  have h3 := I.text_len v
  rw [P.S_size]
  unfold I.enc
  simp only [List.length_append]
  cases g with
  | true => show _ + 1 ≤ _; omega
  | false => show _ + (_ + 1) ≤ _; omega
set_option maxHeartbeats 4000000 in
theorem putw_any (x : I.Wt) (w : World) (hb : x.1.size ≤ 16) (hk : x.2.1.size ≤ 16) (hv : x.2.2.1.size ≤ 32) :
    Calls Try.prog 37 #[WV x] w fun e w' => e = .returned (.string (P.S (I.enc x))) ∧ Below w.heap.size w w' := by
  obtain ⟨xb, xk, xv, xg⟩ := x
  simp only at hb hk hv
  have CB := Lib.hid (fun w => Pk.text_any xb w (by omega))
  have CK := Lib.hid (fun w => Pk.text_any xk w (by omega))
  have CV := Lib.hid (fun w => Pk.text_any xv w (by omega))
  rw [textS_eq] at CB CK CV
  have lb : (P.S (I.text xb)).size ≤ 26 := by rw [P.S_size]; have := I.text_len xb; omega
  have lk : (P.S (I.text xk)).size ≤ 26 := by rw [P.S_size]; have := I.text_len xk; omega
  have lv : (P.S (I.text xv)).size ≤ 42 := by rw [P.S_size]; have := I.text_len xv; omega
  have henc : P.S (I.enc (xb, xk, xv, xg)) = (P.S (I.text xb) ++ P.S (I.text xk)) ++ P.S (if xg = true then [1] else 0 :: I.text xv) := by
    rw [P.S_append, P.S_append]
    rfl
  rw [henc]
  obtain ⟨tb, EB⟩ : ∃ r, Hid (P.S (I.text xb) = r) := ⟨_, rfl⟩
  obtain ⟨tk, EK⟩ : ∃ r, Hid (P.S (I.text xk) = r) := ⟨_, rfl⟩
  rw [EB.out] at CB lb
  rw [EK.out] at CK lk
  rw [EB.out, EK.out]
  obtain ⟨y, EY⟩ : ∃ r, Hid (tb ++ tk = r) := ⟨_, rfl⟩
  have m1 : y.size = tb.size + tk.size := by rw [← EY.out, ByteArray.size_append]
  have n1 : Hid (tb.size + tk.size ≤ 9223372036854775807) := by show _ ≤ _; omega
  have n2 : y.size ≤ 52 := by omega
  rw [EY.out]
  obtain ⟨R, HR⟩ : ∃ r, Hid (y ++ P.S (if xg = true then [1] else 0 :: I.text xv) = r) := ⟨_, rfl⟩
  rw [HR.out]
  clear henc m1 lb lk hb hk hv
  go_enter Try.func37, Try.ntmps37
  go_wp2_with (first | refine blk_box rfl 23 _ rfl [.string xb, .string xk, .string xv, .bool xg] rfl ?_)
  intro w1 A1 B1 Z1
  have HB1 : Hid (Below w.heap.size w w1) := B1
  have HA1 := Lib.hid A1
  have HZ1 : Hid (w.heap.size < w1.heap.size) := by show _ < _; omega
  have K0 : Hid (∀ u, Below w1.heap.size w1 u → u.cell? ⟨w.heap.size, 0, none⟩ = some (.string xb)) := fun u hu => (Blk.below HA1.out hu HZ1.out).cell 0 _ rfl
  have K1 : Hid (∀ u, Below w1.heap.size w1 u → u.cell? ⟨w.heap.size, 1, none⟩ = some (.string xk)) := fun u hu => (Blk.below HA1.out hu HZ1.out).cell 1 _ rfl
  have X0 : Hid (∀ u, Below w1.heap.size w1 u → Calls Try.prog 50 [.string xb].toArray u fun e u' => e = .returned (.string tb) ∧ Below w1.heap.size w1 u') := fun u hu => Calls.more hu (CB.out u)
  have X1 : Hid (∀ u, Below w1.heap.size w1 u → Calls Try.prog 50 [.string xk].toArray u fun e u' => e = .returned (.string tk) ∧ Below w1.heap.size w1 u') := fun u hu => Calls.more hu (CK.out u)
  clear A1 B1 Z1 CB CK
  go_wp2_with fail
  refine region_w Try.mixed (by kernel_rfl) ?_
  refine w_value rfl (.pointer (some ⟨w.heap.size, 0, none⟩)) (fun u hu => by go_simp) (fun K hK => ?_)
  go_simp
  refine hK _ ?_
  clear hK K
  refine w_value rfl (.string xb) (fun u hu => by have hc := K0.out u hu; go_simp) (fun K hK => ?_)
  go_simp
  refine hK _ ?_
  clear hK K
  refine w_call rfl 50 Try.f50 Try.func50 rfl rfl _ _ rfl _ rfl (.string tb) (by exact X0.out) (fun K hK => ?_)
  go_simp
  refine hK _ ?_
  clear hK K
  refine w_value rfl (.pointer (some ⟨w.heap.size, 1, none⟩)) (fun u hu => by go_simp) (fun K hK => ?_)
  go_simp
  refine hK _ ?_
  clear hK K
  refine w_value rfl (.string xk) (fun u hu => by have hc := K1.out u hu; go_simp) (fun K hK => ?_)
  go_simp
  refine hK _ ?_
  clear hK K
  refine w_call rfl 50 Try.f50 Try.func50 rfl rfl _ _ rfl _ rfl (.string tk) (by exact X1.out) (fun K hK => ?_)
  go_simp
  refine hK _ ?_
  clear hK K
  refine w_cat rfl _ _ _ _ rfl tb tk y rfl rfl n1.out EY.out (fun K hK => ?_)
  go_simp
  refine hK _ ?_
  clear hK K
  refine w_assign rfl _ rfl (.string y) rfl (fun K hK => ?_)
  go_simp
  refine hK _ ?_
  clear hK K
  refine w_nil ?_
  intro u hu
  have HAu : Hid (Blk u w.heap.size [.string xb, .string xk, .string xv, .bool xg]) := Blk.below HA1.out hu HZ1.out
  have HBu : Hid (Below w.heap.size w u) := Below.trans HB1.out (hu.mono HB1.out.size)
  have HZu : Hid (w.heap.size < u.heap.size) := Nat.lt_of_lt_of_le HZ1.out hu.size
  have d3 := HAu.out.cell 3 _ rfl
  clear hu HA1 HB1 HZ1 K0 K1 X0 X1
  cases xg with
  | true =>
    have CN := Lib.hid (fun w => Pk.number_any 1 1 w (by decide))
    rw [show Pk.numS 1 1 = ⟨#[1]⟩ from rfl] at CN
    obtain rfl : y ++ ⟨#[1]⟩ = R := HR.out
    have nn : y.size + (⟨#[1]⟩ : ByteArray).size ≤ 9223372036854775807 := by show y.size + 1 ≤ _; omega
    go_wp2_with fail
    refine (CN.out _).mono ?_; rintro e w2 ⟨rfl, hb2⟩
    have HB2 : Hid (Below w.heap.size w w2) := Below.trans HBu.out (hb2.mono HBu.out.size)
    clear hb2
    go_wp2_with fail
    go_ret
    exact ⟨rfl, HB2.out⟩
  | false =>
    have CN := Lib.hid (fun w => Pk.number_any 0 1 w (by decide))
    rw [show Pk.numS 0 1 = ⟨#[0]⟩ from rfl] at CN
    have hz : P.S (0 :: I.text xv) = ⟨#[0]⟩ ++ P.S (I.text xv) := by
      apply ByteArray.ext
      simp [P.S]
    obtain ⟨tv, EV⟩ : ∃ r, Hid (P.S (I.text xv) = r) := ⟨_, rfl⟩
    rw [EV.out] at CV lv hz
    obtain ⟨z, EZ⟩ : ∃ r, Hid (y ++ ⟨#[0]⟩ = r) := ⟨_, rfl⟩
    obtain ⟨z2, EZ2⟩ : ∃ r, Hid (z ++ tv = r) := ⟨_, rfl⟩
    have mz : z.size = y.size + 1 := by rw [← EZ.out, ByteArray.size_append]; rfl
    have k1 : Hid (y.size + (⟨#[0]⟩ : ByteArray).size ≤ 9223372036854775807) := by show y.size + 1 ≤ _; omega
    have k2 : Hid (z.size + tv.size ≤ 9223372036854775807) := by show _ ≤ _; omega
    obtain rfl : z2 = R := by
      rw [← HR.out, show (if false = true then [1] else 0 :: I.text xv) = 0 :: I.text xv from rfl, hz, ← EZ2.out, ← EZ.out]
      apply ByteArray.ext
      simp [ByteArray.data_append, Array.append_assoc]
    have K2 : Hid (∀ v, Below u.heap.size u v → v.cell? ⟨w.heap.size, 2, none⟩ = some (.string xv)) := fun v hv => (Blk.below HAu.out hv HZu.out).cell 2 _ rfl
    have XN : Hid (∀ v, Below u.heap.size u v → Calls Try.prog 36 [.int .u64 0, .int .i64 1].toArray v fun e u' => e = .returned (.string ⟨#[0]⟩) ∧ Below u.heap.size u u') := fun v hv => Calls.more hv (CN.out v)
    have XV : Hid (∀ v, Below u.heap.size u v → Calls Try.prog 50 [.string xv].toArray v fun e u' => e = .returned (.string tv) ∧ Below u.heap.size u u') := fun v hv => Calls.more hv (CV.out v)
    clear CN CV hz mz lv
    go_wp2_with fail
    refine region_w Try.mixed (by kernel_rfl) ?_
    refine w_move rfl _ rfl (.string y) rfl (fun K hK => ?_)
    go_simp
    refine hK _ ?_
    clear hK K
    refine w_call rfl 36 Try.f36 Try.func36 rfl rfl _ _ rfl _ rfl (.string ⟨#[0]⟩) (by exact XN.out) (fun K hK => ?_)
    go_simp
    refine hK _ ?_
    clear hK K
    refine w_cat rfl _ _ _ _ rfl y ⟨#[0]⟩ z rfl rfl k1.out EZ.out (fun K hK => ?_)
    go_simp
    refine hK _ ?_
    clear hK K
    refine w_value rfl (.pointer (some ⟨w.heap.size, 2, none⟩)) (fun u hu => by go_simp) (fun K hK => ?_)
    go_simp
    refine hK _ ?_
    clear hK K
    refine w_value rfl (.string xv) (fun u hu => by have hc := K2.out u hu; go_simp) (fun K hK => ?_)
    go_simp
    refine hK _ ?_
    clear hK K
    refine w_call rfl 50 Try.f50 Try.func50 rfl rfl _ _ rfl _ rfl (.string tv) (by exact XV.out) (fun K hK => ?_)
    go_simp
    refine hK _ ?_
    clear hK K
    refine w_cat rfl _ _ _ _ rfl z tv z2 rfl rfl k2.out EZ2.out (fun K hK => ?_)
    go_simp
    refine hK _ ?_
    clear hK K
    refine w_assign rfl _ rfl (.string z2) rfl (fun K hK => ?_)
    go_simp
    refine hK _ ?_
    clear hK K
    refine w_nil ?_
    intro v hv
    have HBv : Hid (Below w.heap.size w v) := Below.trans HBu.out (hv.mono HBu.out.size)
    clear hv
    go_wp2_with fail
    go_ret
    exact ⟨rfl, HBv.out⟩
set_option maxHeartbeats 8000000 in
theorem bytes_any (a : List Nat) (d : Int) (v : Value) (L : List I.Wt) (w : World) (ha : V.Ok a) (hL : IsWs w v L) :
    Calls Try.prog 15 #[TV a d v] w fun e w' => e = .returned (.tuple #[.string (I.bytesS a d L), .bool (I.whole a d L)]) ∧ Below w.heap.size w w' := by
  have HA := Lib.hid ha.len
  have HSs := Lib.hid (size_s (d := d) ha.len)
  have HST := Lib.hid (fun v => size_itx (d := d) (v := v) ha.len)
  have CW := Lib.hid (fun w v hL => whole_any a d v L w ha.len hL)
  have CP := Lib.hid (fun w => sput_any a d w ha)
  have hpl := T.vput_len ha.len
  unfold I.bytesS
  obtain ⟨sa, cap, rfl, hca, hma, _⟩ := hL.is
  obtain ⟨n, HN⟩ : ∃ n, Hid (L.length = n) := ⟨_, rfl⟩
  have HL := Lib.hid hL
  rw [HN.out] at HL
  rw [HN.out]
  clear hca hma hL ha
  cases hw : I.whole a d L with
  | false =>
    rw [hw] at CW
    clear hw
    show Calls _ _ _ _ fun e w' => e = .returned (.tuple #[.string ⟨#[]⟩, .bool false]) ∧ _
    go_enter Try.func15, Try.ntmps15
    go_wp2_with (first | refine blk_box rfl 43 _ rfl (ks .u64 a ++ [Value.int .i64 d, .slice sa n cap]) rfl ?_)
    intro w1 A1 B1 Z1
    have HL1 : Hid (IsWs w1 (.slice sa n cap) L) := IsWs.below HL.out B1
    have HA1 : Hid (Blk w1 w.heap.size (ks .u64 a ++ [Value.int .i64 d, .slice sa n cap])) := A1
    have HB1 : Hid (Below w.heap.size w w1) := B1
    clear A1 B1 Z1
    go_wp2_with (first | refine blk_load rfl 43 _ rfl w.heap.size rfl (ks .u64 a ++ [Value.int .i64 d, .slice sa n cap]) HA1.out _ Try.underlying43 rfl (HST.out _) ?_)
    refine (CW.out _ _ HL1.out).mono ?_; rintro e w2 ⟨rfl, hb2⟩
    have HB2 : Hid (Below w.heap.size w w2) := Below.trans HB1.out (hb2.mono HB1.out.size)
    clear hb2
    go_wp2_with fail
    go_ret2
    exact ⟨rfl, HB2.out⟩
  | true =>
    rw [hw] at CW
    obtain ⟨hr, h1, h8, hok⟩ := I.whole_some hw
    rw [HN.out] at h1 h8 hok
    have HRI : Hid (∀ j, j < n → I.right (L.getD j I.none_) = true) := fun j hj => I.okTo_right hok j hj
    rw [hr, show T.puts a d = P.S (T.put a d) by unfold T.puts; rw [hr]; rfl] at CP
    have hd := (T.right_known hr).2
    clear hw hr hok
    have CN := Lib.hid (fun w => Pk.number_any n 1 w (by omega))
    rw [show Pk.numS n 1 = P.S (P.numB n 1) from rfl] at CN
    have hw64 : IntKind.u64.wrap (n : Int) = (n : Int) := wrapu (by omega) (by omega)
    have HBY : Hid (I.bytes a d L = T.put a d ++ P.numB n 1 ++ ((L.take n).map I.enc).flatten) := by
      show _ = _
      rw [List.take_of_length_le (by rw [HN.out]; exact Nat.le_refl _), I.bytes, HN.out]
    obtain ⟨r, HR⟩ : ∃ r, Hid (P.S (I.bytes a d L) = r) := ⟨_, rfl⟩
    show Calls _ _ _ _ fun e w' => e = .returned (.tuple #[.string (P.S (I.bytes a d L)), .bool true]) ∧ _
    rw [HR.out]
    have z1 : (P.S (T.put a d)).size ≤ 41 := by rw [P.S_size, T.put, List.length_append, P.numB_length]; omega
    have z2 : (P.S (P.numB n 1)).size = 1 := by rw [P.S_size, P.numB_length]
    have HS0 : Hid (P.S (T.put a d ++ P.numB n 1 ++ ((L.take 0).map I.enc).flatten) = P.S (T.put a d) ++ P.S (P.numB n 1)) := by
      show _ = _
      rw [P.S_append]
      simp
    obtain ⟨p, EP⟩ : ∃ r, Hid (P.S (T.put a d) = r) := ⟨_, rfl⟩
    obtain ⟨q, EQ⟩ : ∃ r, Hid (P.S (P.numB n 1) = r) := ⟨_, rfl⟩
    rw [EP.out] at CP z1 HS0
    rw [EQ.out] at CN z2 HS0
    have z3 : (p ++ q).size ≤ 42 + 100 * 0 := by rw [ByteArray.size_append]; omega
    clear hpl hd
    go_enter Try.func15, Try.ntmps15
    go_wp2_with (first | refine blk_box rfl 43 _ rfl (ks .u64 a ++ [Value.int .i64 d, .slice sa n cap]) rfl ?_)
    intro w1 A1 B1 Z1
    have HL1 : Hid (IsWs w1 (.slice sa n cap) L) := IsWs.below HL.out B1
    have HA1 : Hid (Blk w1 w.heap.size (ks .u64 a ++ [Value.int .i64 d, .slice sa n cap])) := A1
    have HB1 : Hid (Below w.heap.size w w1) := B1
    have HZ1 : Hid (w.heap.size < w1.heap.size) := by show _ < _; omega
    clear A1 B1 Z1
    go_wp2_with (first | refine blk_load rfl 43 _ rfl w.heap.size rfl (ks .u64 a ++ [Value.int .i64 d, .slice sa n cap]) HA1.out _ Try.underlying43 rfl (HST.out _) ?_)
    refine (CW.out _ _ HL1.out).mono ?_; rintro e w2 ⟨rfl, hb2⟩
    have HA2 : Hid (Blk w2 w.heap.size (ks .u64 a ++ [Value.int .i64 d, .slice sa n cap])) := Blk.below HA1.out hb2 HZ1.out
    have HB2 : Hid (Below w.heap.size w w2) := Below.trans HB1.out (hb2.mono HB1.out.size)
    have HZ2 : Hid (w.heap.size < w2.heap.size) := Nat.lt_of_lt_of_le HZ1.out hb2.size
    clear hb2 HL1 HA1 HB1 HZ1 CW
    go_wp2_with (first | refine sub_load rfl 30 _ rfl w.heap.size rfl (ks .u64 a ++ [Value.int .i64 d]) [.slice sa n cap] (tx_stamp HA2.out) _ Try.underlying30 rfl HSs.out ?_)
    refine (CP.out _).mono ?_; rintro e w3 ⟨rfl, hb3⟩
    have HA3 : Hid (Blk w3 w.heap.size (ks .u64 a ++ [Value.int .i64 d, .slice sa n cap])) := Blk.below HA2.out hb3 HZ2.out
    have HB3 : Hid (Below w.heap.size w w3) := Below.trans HB2.out (hb3.mono HB2.out.size)
    have HZ3 : Hid (w.heap.size < w3.heap.size) := Nat.lt_of_lt_of_le HZ2.out hb3.size
    have c5 := tx_cell HA3.out HA.out
    clear hb3 HA2 HB2 HZ2 CP
    go_wp2_with fail
    refine (CN.out _).mono ?_; rintro e w4 ⟨rfl, hb4⟩
    have HA4 : Hid (Blk w4 w.heap.size (ks .u64 a ++ [Value.int .i64 d, .slice sa n cap])) := Blk.below HA3.out hb4 HZ3.out
    have HB4 : Hid (Below w.heap.size w w4) := Below.trans HB3.out (hb4.mono HB3.out.size)
    have HZ4 : Hid (w.heap.size < w4.heap.size) := Nat.lt_of_lt_of_le HZ3.out hb4.size
    clear hb4 HA3 HB3 HZ3 CN c5
    have c5 := tx_cell HA4.out HA.out
    go_wp2_with fail
    go_loopw [4, 27] (fun t i wr => ∃ (j : Nat) (s : ByteArray), j ≤ n ∧ i = .int .i64 j ∧ t = .string s ∧ s.size ≤ 42 + 100 * j ∧ Hid (P.S (T.put a d ++ P.numB n 1 ++ ((L.take j).map I.enc).flatten) = s) ∧ Hid (Blk wr w.heap.size (ks .u64 a ++ [Value.int .i64 d, .slice sa n cap])) ∧ Hid (Below w.heap.size w wr) ∧ Hid (w.heap.size < wr.heap.size)) (fun _ i _ => n - (intOf i).toNat)
    case atStart => exact ⟨0, p ++ q, by omega, rfl, rfl, z3, HS0, HA4, HB4, HZ4⟩
    case round =>
      obtain ⟨j, s, hj, rfl, rfl, hs, HS, HAr, HBr, HZr⟩ := hrel
      clear HA4 HB4 HZ4 z1 z2 z3 HS0 c5
      have c5 := tx_cell HAr.out HA.out
      by_cases hlt : j < n
      · have ilt : (j : Int) < (n : Int) := by omega
        obtain ⟨g, off, cap', hv, hg0, hrow0⟩ := IsWs.at HL.out j (by rw [HN.out]; exact hlt)
        obtain rfl : sa = some ⟨g, off, none⟩ := by injection hv
        clear hv
        have hes := I.enc_step L j (by rw [HN.out]; exact hlt)
        have hrt := I.right_some (HRI.out j hlt)
        have HROW : Hid (wr.rangeAt g (off + 4 * j) (wc (L.getD j I.none_))) := fun k v hv => by rw [HBr.out.cell (p := ⟨g, off + 4 * j + k, none⟩) hg0]; exact hrow0 k v hv
        obtain ⟨x, HX⟩ : ∃ x, Hid (L.getD j I.none_ = x) := ⟨_, rfl⟩
        rw [HX.out] at HROW hes hrt
        have hix : ∀ w, (Instr.indexAt 41 (.slice (some ⟨g, off, none⟩) n cap) (.int .i64 (j : Int))).run Try.prog w = .ok (.pointer (some ⟨g, off + 4 * j, none⟩)) w := fun w => index_iw g off n cap j hlt w
        have CW := Lib.hid (fun w => putw_any x w (by omega) (by omega) (by omega))
        have le := enc_size x (by omega) (by omega) (by omega)
        have HSS : Hid (P.S (T.put a d ++ P.numB n 1 ++ ((L.take (j + 1)).map I.enc).flatten) = s ++ P.S (I.enc x)) := by
          show _ = _
          rw [hes, ← List.append_assoc, ← P.S_append, HS.out]
        obtain ⟨y, EY⟩ : ∃ r, Hid (P.S (I.enc x) = r) := ⟨_, rfl⟩
        rw [EY.out] at CW le HSS
        have n1 : s.size + y.size ≤ 9223372036854775807 := by omega
        have HSZ : (s ++ y).size ≤ 42 + 100 * (j + 1) := by rw [ByteArray.size_append]; omega
        clear hes hrow0 hrt hg0
        go_wp2_with (first | refine mid_load rfl 23 _ rfl g (off + 4 * j) rfl (wc x) HROW.out _ Try.underlying23 rfl Try.size_w ?_ | refine blk_alloc rfl 23 (wc I.none_) rfl Try.info_iw2 ?_)
        intro w5 A5 B5 Z5
        go_wp2_with (first | refine blk_store rfl 23 _ _ rfl wr.heap.size rfl (wc x) rfl _ A5 rfl Try.size_w rfl ?_)
        intro w6 A6 U6
        have HX6 : Hid (Blk w6 wr.heap.size (wc x)) := A6
        have HA6 : Hid (Blk w6 w.heap.size (ks .u64 a ++ [Value.int .i64 d, .slice (some ⟨g, off, none⟩) n cap])) := Blk.upd (Blk.below HAr.out B5 HZr.out) U6 (by have := HZr.out; omega)
        have HB6 : Hid (Below w.heap.size w w6) := (Below.trans HBr.out (B5.mono HBr.out.size)).trans (U6.below HBr.out.size)
        have HZ6 : Hid (w.heap.size < w6.heap.size) := by have := HZr.out; have := U6.size; show _ < _; omega
        clear A5 B5 Z5 A6 U6 HAr HBr HZr hix HROW c5
        go_wp2_with (first | refine blk_load rfl 23 _ rfl wr.heap.size rfl (wc x) HX6.out _ Try.underlying23 rfl Try.size_w ?_)
        refine (CW.out _).mono ?_; rintro e w7 ⟨rfl, hb7⟩
        have HA7 : Hid (Blk w7 w.heap.size (ks .u64 a ++ [Value.int .i64 d, .slice (some ⟨g, off, none⟩) n cap])) := Blk.below HA6.out hb7 HZ6.out
        have HB7 : Hid (Below w.heap.size w w7) := Below.trans HB6.out (hb7.mono HB6.out.size)
        have HZ7 : Hid (w.heap.size < w7.heap.size) := Nat.lt_of_lt_of_le HZ6.out hb7.size
        clear hb7 HX6 HA6 HB6 HZ6 CW
        go_wp2_with fail
        go_roundw
        case rel => exact ⟨j + 1, s ++ y, by omega, by go_num, rfl, HSZ, HSS, HA7, HB7, HZ7⟩
        case measure => simp [intOf]; omega
      · obtain rfl : j = n := by omega
        obtain rfl : s = r := by rw [← HR.out, HBY.out]; exact HS.out.symm
        go_wp2_with fail
        go_ret2
        exact ⟨rfl, HBr.out⟩
end Go.Proofs.Ytkfcbihofipcbaa.It
