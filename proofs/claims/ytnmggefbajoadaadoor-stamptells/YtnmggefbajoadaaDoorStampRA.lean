/- The document's own answer to chapter 7: N, Right, Seen, Put, Signed, Text. -/
import Derived.Test.YtnmggefbajoadaaDoorStampA

import Derived.Test.YtnmggefbajoadaaDoorVecRef3

namespace Go.Proofs.YtnmggefbajoadaaDoor.Sp

open Go.RowKit Go.Proofs.YtnmggefbajoadaaDoor.Vc

set_option linter.unusedVariables false

set_option linter.unusedSimpArgs false

set_option maxRecDepth 100000

set_option maxHeartbeats 1000000 in
theorem ref_sn (a : List Nat) (d : Int) (w : World) (ha : a.length = 4) :
    Calls Tryd.prog 20 #[SV a d] w fun e w' => e = .returned (.int .u64 (V.at_ a d : Nat)) ∧ Below w.heap.size w w' := by
  have HI := Lib.hid (size_r ha)
  have HA := Lib.hid ha
  have C := Lib.hid (fun w => ref_at a d w ha)
  obtain ⟨x, HX⟩ : ∃ r, Hid (V.at_ a d = r) := ⟨_, rfl⟩
  rw [HX.out] at C ⊢
  clear ha
  go_enter Tryd.func20, Tryd.ntmps20
  go_wp2_with (first | refine blk_box rfl 39 _ rfl (ks .u64 a ++ [Value.int .i64 d]) rfl ?_)
  intro w1 A1 B1 Z1
  have HR := Lib.hid (rowp A1)
  have c := dc_cell A1 HA.out
  have HB1 : Hid (Below w.heap.size w w1) := B1
  clear A1 B1 Z1
  go_wp2_with (first | refine row_load rfl .u64 37 _ rfl w.heap.size 0 rfl a HR.out 4 22 Tryd.underlying37 HI.out ?_)
  refine (C.out _).mono ?_; rintro e w2 ⟨rfl, hb2⟩
  have HB2 : Hid (Below w.heap.size w w2) := Below.trans HB1.out (hb2.mono HB1.out.size)
  clear hb2 c
  go_wp2_with fail
  go_ret
  exact ⟨rfl, HB2.out⟩
set_option maxHeartbeats 1000000 in
theorem ref_sright (a : List Nat) (d : Int) (w : World) (ha : a.length = 4) :
    Calls Tryd.prog 18 #[SV a d] w fun e w' => e = .returned (.bool (T.right a d)) ∧ Below w.heap.size w w' := by
  have HI := Lib.hid (size_r ha)
  have HS := Lib.hid (size_rs (d := d) ha)
  have C := Lib.hid (fun w => ref_right a w ha)
  have CN := Lib.hid (fun w => ref_sn a d w ha)
  unfold T.right
  clear ha
  cases hr : V.right a with
  | false =>
    rw [hr] at C
    clear hr CN
    show Calls _ _ _ _ fun e w' => e = .returned (.bool false) ∧ _
    go_enter Tryd.func18, Tryd.ntmps18
    go_wp2_with (first | refine blk_box rfl 39 _ rfl (ks .u64 a ++ [Value.int .i64 d]) rfl ?_)
    intro w1 A1 B1 Z1
    have HR := Lib.hid (rowp A1)
    have HB1 : Hid (Below w.heap.size w w1) := B1
    clear A1 B1 Z1
    go_wp2_with (first | refine row_load rfl .u64 37 _ rfl w.heap.size 0 rfl a HR.out 4 22 Tryd.underlying37 HI.out ?_)
    refine (C.out _).mono ?_; rintro e w2 ⟨rfl, hb2⟩
    have HB2 : Hid (Below w.heap.size w w2) := Below.trans HB1.out (hb2.mono HB1.out.size)
    clear hb2
    go_wp2_with fail
    go_ret
    exact ⟨rfl, HB2.out⟩
  | true =>
    rw [hr] at C
    clear hr
    obtain ⟨x, HX⟩ : ∃ r, Hid (V.at_ a d = r) := ⟨_, rfl⟩
    rw [HX.out] at CN ⊢
    obtain ⟨q, HQ⟩ : ∃ r, Hid (decide (1 ≤ x) = r) := ⟨_, rfl⟩
    have hq : decide ((1 : Int) ≤ (x : Int)) = q := by rw [← HQ.out]; exact decide_eq_decide.2 (by omega)
    show Calls _ _ _ _ fun e w' => e = .returned (.bool (decide (1 ≤ x))) ∧ _
    rw [HQ.out]
    go_enter Tryd.func18, Tryd.ntmps18
    go_wp2_with (first | refine blk_box rfl 39 _ rfl (ks .u64 a ++ [Value.int .i64 d]) rfl ?_)
    intro w1 A1 B1 Z1
    have HR := Lib.hid (rowp A1)
    have HA1 : Hid (Blk w1 w.heap.size (ks .u64 a ++ [Value.int .i64 d])) := A1
    have HZ1 : Hid (w.heap.size < w1.heap.size) := by show _ < _; omega
    have HB1 : Hid (Below w.heap.size w w1) := B1
    clear A1 B1 Z1
    go_wp2_with (first | refine row_load rfl .u64 37 _ rfl w.heap.size 0 rfl a HR.out 4 22 Tryd.underlying37 HI.out ?_)
    refine (C.out _).mono ?_; rintro e w2 ⟨rfl, hb2⟩
    have HB2 : Hid (Below w.heap.size w w2) := Below.trans HB1.out (hb2.mono HB1.out.size)
    have HA2 : Hid (Blk w2 w.heap.size (ks .u64 a ++ [Value.int .i64 d])) := Blk.below HA1.out hb2 HZ1.out
    clear hb2 HR HA1
    go_wp2_with (first | refine blk_loadg rfl 39 _ rfl w.heap.size rfl (ks .u64 a ++ [Value.int .i64 d]) HA2.out _ Tryd.underlying39 rfl HS.out ?_)
    refine (CN.out _).mono ?_; rintro e w3 ⟨rfl, hb3⟩
    have HB3 : Hid (Below w.heap.size w w3) := Below.trans HB2.out (hb3.mono HB2.out.size)
    clear hb3
    go_wp2_with fail
    go_ret
    exact ⟨rfl, HB3.out⟩
set_option maxHeartbeats 1000000 in
theorem ref_sseen (a b : List Nat) (d : Int) (w : World) (ha : a.length = 4) (hb : b.length = 4) :
    Calls Tryd.prog 24 #[SV a d, AV .u64 b] w fun e w' => e = .returned (.bool (V.leq a b)) ∧ Below w.heap.size w w' := by
  have HI := Lib.hid (size_r ha)
  have HIb := Lib.hid (size_r hb)
  have C := Lib.hid (fun w => ref_leq a b w ha hb)
  generalize V.leq a b = q at *
  clear ha hb
  go_enter Tryd.func24, Tryd.ntmps24
  go_wp2_with (first | refine blk_box rfl 39 _ rfl (ks .u64 a ++ [Value.int .i64 d]) rfl ?_)
  intro w1 A1 B1 Z1
  go_wp2_with (first | refine arr_box rfl .u64 37 _ rfl b rfl ?_)
  intro w2 A2 B2 Z2
  have HR := Lib.hid (rowp (Blk.below A1 B2 (by omega)))
  have HA2 : Hid (Arr .u64 w2 (w.heap.size + 1) b) := A2
  have HB2 : Hid (Below w.heap.size w w2) := B1.trans (B2.mono (by omega))
  clear A1 B1 Z1 A2 B2 Z2
  go_wp2_with (first | refine row_load rfl .u64 37 _ rfl w.heap.size 0 rfl a HR.out 4 22 Tryd.underlying37 HI.out ?_ | refine arr_load rfl .u64 37 _ rfl (w.heap.size + 1) rfl b HA2.out 4 22 Tryd.underlying37 HIb.out ?_)
  refine (C.out _).mono ?_; rintro e w3 ⟨rfl, hb3⟩
  have HB3 : Hid (Below w.heap.size w w3) := Below.trans HB2.out (hb3.mono HB2.out.size)
  clear hb3
  go_wp2_with fail
  go_ret
  exact ⟨rfl, HB3.out⟩
set_option maxHeartbeats 2000000 in
theorem ref_sput (a : List Nat) (d : Int) (w : World) (ha : V.Ok a) :
    Calls Tryd.prog 13 #[SV a d] w fun e w' => e = .returned (.tuple #[.string (T.puts a d), .bool (T.right a d)]) ∧ Below w.heap.size w w' := by
  have HI := Lib.hid (size_r ha.len)
  have HA := Lib.hid ha.len
  have HS := Lib.hid (size_rs (d := d) ha.len)
  have C := Lib.hid (fun w => ref_sright a d w ha.len)
  have CP := Lib.hid (fun w => ref_put a w ha)
  have sP : (P.S (V.put a)).size ≤ 40 := by rw [P.S_size]; exact T.vput_len ha.len
  unfold T.puts
  clear ha
  cases hr : T.right a d with
  | false =>
    rw [hr] at C
    clear hr
    show Calls _ _ _ _ fun e w' => e = .returned (.tuple #[.string ⟨#[]⟩, .bool false]) ∧ _
    go_enter Tryd.func13, Tryd.ntmps13
    go_wp2_with (first | refine blk_box rfl 39 _ rfl (ks .u64 a ++ [Value.int .i64 d]) rfl ?_)
    intro w1 A1 B1 Z1
    have HA1 : Hid (Blk w1 w.heap.size (ks .u64 a ++ [Value.int .i64 d])) := A1
    have HB1 : Hid (Below w.heap.size w w1) := B1
    clear A1 B1 Z1
    go_wp2_with (first | refine blk_load rfl 39 _ rfl w.heap.size rfl (ks .u64 a ++ [Value.int .i64 d]) HA1.out _ Tryd.underlying39 rfl HS.out ?_)
    refine (C.out _).mono ?_; rintro e w2 ⟨rfl, hb2⟩
    have HB2 : Hid (Below w.heap.size w w2) := Below.trans HB1.out (hb2.mono HB1.out.size)
    clear hb2
    go_wp2_with fail
    go_ret2
    exact ⟨rfl, HB2.out⟩
  | true =>
    rw [hr] at C
    obtain ⟨_, h1, h4, _⟩ := T.right_known hr
    clear hr
    obtain ⟨n, rfl⟩ : ∃ n : Nat, d = (n : Int) := ⟨d.toNat, by omega⟩
    have hw : IntKind.u64.wrap (n : Int) = (n : Int) := wrapu (by omega) (by omega)
    have CNm := Lib.hid (fun w => Pk.ref_number_any n 1 w (by omega))
    rw [show Pk.numS n 1 = P.S (P.numB n 1) from rfl] at CNm
    obtain ⟨p, HP⟩ : ∃ r, Hid (P.S (V.put a) = r) := ⟨_, rfl⟩
    obtain ⟨q, HQ⟩ : ∃ r, Hid (P.S (P.numB n 1) = r) := ⟨_, rfl⟩
    have sQ : q.size = 1 := by rw [← HQ.out, P.S_size, P.numB_length]
    obtain ⟨y, HY⟩ : ∃ r, Hid (q ++ p = r) := ⟨_, rfl⟩
    have HV : Hid (P.S (T.put a (n : Int)) = y) := by
      show _ = _
      rw [← HY.out, ← HQ.out, ← HP.out, P.S_append]
      rfl
    rw [HP.out] at CP sP
    rw [HQ.out] at CNm
    show Calls _ _ _ _ fun e w' => e = .returned (.tuple #[.string (P.S (T.put a (n : Int))), .bool true]) ∧ _
    rw [HV.out]
    have hn : Hid (q.size + p.size ≤ 9223372036854775807) := by show _ ≤ _; omega
    clear HV HP HQ sP sQ
    go_enter Tryd.func13, Tryd.ntmps13
    go_wp2_with (first | refine blk_box rfl 39 _ rfl (ks .u64 a ++ [Value.int .i64 (n : Int)]) rfl ?_)
    intro w1 A1 B1 Z1
    have HA1 : Hid (Blk w1 w.heap.size (ks .u64 a ++ [Value.int .i64 (n : Int)])) := A1
    have HZ1 : Hid (w.heap.size < w1.heap.size) := by show _ < _; omega
    have HB1 : Hid (Below w.heap.size w w1) := B1
    clear A1 B1 Z1
    go_wp2_with (first | refine blk_load rfl 39 _ rfl w.heap.size rfl (ks .u64 a ++ [Value.int .i64 (n : Int)]) HA1.out _ Tryd.underlying39 rfl HS.out ?_)
    refine (C.out _).mono ?_; rintro e w2 ⟨rfl, hb2⟩
    have HB2 : Hid (Below w.heap.size w w2) := Below.trans HB1.out (hb2.mono HB1.out.size)
    have HZ2 : Hid (w.heap.size < w2.heap.size) := Nat.lt_of_lt_of_le HZ1.out hb2.size
    have HA2 : Hid (Blk w2 w.heap.size (ks .u64 a ++ [Value.int .i64 (n : Int)])) := Blk.below HA1.out hb2 HZ1.out
    clear hb2 HA1 HB1 HZ1 C
    have K1 : Hid (∀ u, Below w2.heap.size w2 u → u.cell? ⟨w.heap.size, 4, none⟩ = some (.int .i64 (n : Int))) := fun u hu => dc_cell (Blk.below HA2.out hu HZ2.out) HA.out
    have K2 : Hid (∀ u, Below w2.heap.size w2 u → u.rangeAt w.heap.size 0 (ks .u64 a)) := fun u hu => rowp (Blk.below HA2.out hu HZ2.out)
    have X1 : Hid (∀ u, Below w2.heap.size w2 u → Calls Tryd.prog 37 [.int .u64 (n : Int), .int .i64 1].toArray u fun e u' => e = .returned (.string q) ∧ Below w2.heap.size w2 u') := fun u hu => Calls.more hu (CNm.out u)
    have X2 : Hid (∀ u, Below w2.heap.size w2 u → Calls Tryd.prog 38 [AV .u64 a].toArray u fun e u' => e = .returned (.string p) ∧ Below w2.heap.size w2 u') := fun u hu => Calls.more hu (CP.out u)
    go_wp2_with fail
    refine region_w Tryd.mixed (by kernel_rfl) ?_
    refine w_value rfl (.pointer (some ⟨w.heap.size, 4, none⟩)) (fun u hu => by go_simp) (fun K hK => ?_)
    go_simp
    refine hK _ ?_
    clear hK K
    refine w_value rfl (.int .i64 (n : Int)) (fun u hu => by have hc := K1.out u hu; go_simp) (fun K hK => ?_)
    go_simp
    refine hK _ ?_
    clear hK K
    refine w_value rfl (.int .u64 (n : Int)) (fun u hu => by go_simp) (fun K hK => ?_)
    go_simp
    refine hK _ ?_
    clear hK K
    refine w_call rfl 37 Tryd.f37 Tryd.func37 rfl rfl _ _ rfl _ rfl (.string q) (by exact X1.out) (fun K hK => ?_)
    go_simp
    refine hK _ ?_
    clear hK K
    refine w_value rfl (.pointer (some ⟨w.heap.size, 0, none⟩)) (fun u hu => by go_simp) (fun K hK => ?_)
    go_simp
    refine hK _ ?_
    clear hK K
    refine w_row_load rfl .u64 37 _ rfl w.heap.size 0 rfl a (by exact K2.out) 4 22 Tryd.underlying37 HI.out (fun K hK => ?_)
    go_simp
    refine hK _ ?_
    clear hK K
    refine w_call rfl 38 Tryd.f38 Tryd.func38 rfl rfl _ _ rfl _ rfl (.string p) (by exact X2.out) (fun K hK => ?_)
    go_simp
    refine hK _ ?_
    clear hK K
    refine w_cat rfl _ _ _ _ rfl q p y rfl rfl hn.out HY.out (fun K hK => ?_)
    go_simp
    refine hK _ ?_
    clear hK K
    refine w_assign rfl _ rfl (.string y) rfl (fun K hK => ?_)
    go_simp
    refine hK _ ?_
    clear hK K
    refine w_assign rfl _ rfl (.bool true) rfl (fun K hK => ?_)
    go_simp
    refine hK _ ?_
    clear hK K
    refine w_nil ?_
    intro u hu
    have HW9 : Hid (Below w.heap.size w u) := Below.trans HB2.out (hu.mono HB2.out.size)
    clear hu
    go_wp2_with fail
    go_ret2
    exact ⟨rfl, HW9.out⟩
set_option maxHeartbeats 2000000 in
theorem ref_stext_walk (a : List Nat) (d : Int) (w : World) (ha : V.Ok a) (h0 : -9223372036854775808 ≤ d) (h1 : d ≤ 9223372036854775807) (CI : Hid (∀ u, Below w.heap.size w u → Calls Tryd.prog 49 [.int .i64 d].toArray u fun e u' => e = .returned (.string (P.S (Lib.itoa d))) ∧ Below u.heap.size u u'))
    (CT : Hid (∀ u, Below w.heap.size w u → Calls Tryd.prog 50 [AV .u64 a].toArray u fun e u' => e = .returned (.string (P.S (text a))) ∧ Below u.heap.size u u')) :
    Calls Tryd.prog 26 #[SV a d] w fun e w' => e = .returned (.string (P.S (T.text a d))) ∧ Below w.heap.size w w' := by
  have HI := Lib.hid (size_r ha.len)
  have HA := Lib.hid ha.len
  have sP : (P.S (text a)).size ≤ 100 := by rw [P.S_size]; exact text_len a ha
  have sQ : (P.S (Lib.itoa d)).size ≤ 21 := by rw [P.S_size]; exact Lib.itoa_length_le d h0 h1
  obtain ⟨p, HP⟩ : ∃ r, Hid (P.S (text a) = r) := ⟨_, rfl⟩
  obtain ⟨q, HQ⟩ : ∃ r, Hid (P.S (Lib.itoa d) = r) := ⟨_, rfl⟩
  obtain ⟨z, HZ⟩ : ∃ r : ByteArray, Hid (q ++ ⟨#[64]⟩ = r) := ⟨_, rfl⟩
  obtain ⟨y, HY⟩ : ∃ r, Hid (z ++ p = r) := ⟨_, rfl⟩
  have HV : Hid (P.S (T.text a d) = y) := by
    show _ = _
    rw [← HY.out, ← HZ.out, ← HQ.out, ← HP.out, show (⟨#[64]⟩ : ByteArray) = P.S [64] from rfl, P.S_append, P.S_append]
    rfl
  rw [HP.out] at CT sP
  rw [HQ.out] at CI sQ
  have sZ : z.size = q.size + 1 := by rw [← HZ.out, ByteArray.size_append]; rfl
  have hn1 : Hid (q.size + (⟨#[64]⟩ : ByteArray).size ≤ 9223372036854775807) := by show q.size + 1 ≤ _; omega
  have hn2 : Hid (z.size + p.size ≤ 9223372036854775807) := by show _ ≤ _; omega
  rw [HV.out]
  clear HV HP HQ sP sQ sZ ha h0 h1
  go_enter Tryd.func26, Tryd.ntmps26
  go_wp2_with (first | refine blk_box rfl 39 _ rfl (ks .u64 a ++ [Value.int .i64 d]) rfl ?_)
  intro w1 A1 B1 Z1
  have HB1 : Hid (Below w.heap.size w w1) := B1
  have K1 : Hid (∀ u, Below w1.heap.size w1 u → u.cell? ⟨w.heap.size, 4, none⟩ = some (.int .i64 d)) := fun u hu => dc_cell (Blk.below A1 hu (by omega)) HA.out
  have K2 : Hid (∀ u, Below w1.heap.size w1 u → u.rangeAt w.heap.size 0 (ks .u64 a)) := fun u hu => rowp (Blk.below A1 hu (by omega))
  have X1 : Hid (∀ u, Below w1.heap.size w1 u → Calls Tryd.prog 49 [.int .i64 d].toArray u fun e u' => e = .returned (.string q) ∧ Below w1.heap.size w1 u') := fun u hu => Calls.more hu (CI.out u (Below.trans B1 (hu.mono (by omega))))
  have X2 : Hid (∀ u, Below w1.heap.size w1 u → Calls Tryd.prog 50 [AV .u64 a].toArray u fun e u' => e = .returned (.string p) ∧ Below w1.heap.size w1 u') := fun u hu => Calls.more hu (CT.out u (Below.trans B1 (hu.mono (by omega))))
  clear A1 B1 Z1 CI CT
  go_wp2_with fail
  refine region_w Tryd.mixed (by kernel_rfl) ?_
  refine w_value rfl (.pointer (some ⟨w.heap.size, 4, none⟩)) (fun u hu => by go_simp) (fun K hK => ?_)
  go_simp
  refine hK _ ?_
  clear hK K
  refine w_value rfl (.int .i64 d) (fun u hu => by have hc := K1.out u hu; go_simp) (fun K hK => ?_)
  go_simp
  refine hK _ ?_
  clear hK K
  refine w_call rfl 49 Tryd.f49 Tryd.func49 rfl rfl _ _ rfl _ rfl (.string q) (by exact X1.out) (fun K hK => ?_)
  go_simp
  refine hK _ ?_
  clear hK K
  refine w_cat rfl _ _ _ _ rfl q ⟨#[64]⟩ z rfl rfl hn1.out HZ.out (fun K hK => ?_)
  go_simp
  refine hK _ ?_
  clear hK K
  refine w_value rfl (.pointer (some ⟨w.heap.size, 0, none⟩)) (fun u hu => by go_simp) (fun K hK => ?_)
  go_simp
  refine hK _ ?_
  clear hK K
  refine w_row_load rfl .u64 37 _ rfl w.heap.size 0 rfl a (by exact K2.out) 4 22 Tryd.underlying37 HI.out (fun K hK => ?_)
  go_simp
  refine hK _ ?_
  clear hK K
  refine w_call rfl 50 Tryd.f50 Tryd.func50 rfl rfl _ _ rfl _ rfl (.string p) (by exact X2.out) (fun K hK => ?_)
  go_simp
  refine hK _ ?_
  clear hK K
  refine w_cat rfl _ _ _ _ rfl z p y rfl rfl hn2.out HY.out (fun K hK => ?_)
  go_simp
  refine hK _ ?_
  clear hK K
  refine w_assign rfl _ rfl (.string y) rfl (fun K hK => ?_)
  go_simp
  refine hK _ ?_
  clear hK K
  refine w_nil ?_
  intro u hu
  have HW9 : Hid (Below w.heap.size w u) := Below.trans HB1.out (hu.mono HB1.out.size)
  clear hu
  go_wp2_with fail
  go_ret
  exact ⟨rfl, HW9.out⟩
set_option maxHeartbeats 1000000 in
theorem ref_signed (d : Int) (w : World) (h0 : -9223372036854775808 ≤ d) (h1 : d ≤ 9223372036854775807) :
    Calls Tryd.prog 49 #[.int .i64 d] w fun e w' => e = .returned (.string (P.S (Lib.itoa d))) ∧ Below w.heap.size w w' := by
  by_cases hd : d < 0
  · obtain ⟨n, rfl⟩ : ∃ n : Nat, d = -(n : Int) := ⟨d.natAbs, by omega⟩
    have hn : n < 2 ^ 64 := by omega
    have C := Lib.hid (fun w => ref_digits n w hn)
    have sQ : (P.S (Fm.digs n)).size ≤ 20 := by rw [P.S_size]; exact Fm.digs_len n hn
    obtain ⟨q, HQ⟩ : ∃ r, Hid (P.S (Fm.digs n) = r) := ⟨_, rfl⟩
    have HV : Hid (P.S (Lib.itoa (-(n : Int))) = (⟨#[45]⟩ : ByteArray) ++ q) := by
      show _ = _
      rw [Lib.itoa_neg n (by omega), ← HQ.out, show (⟨#[45]⟩ : ByteArray) = P.S [45] from rfl, P.S_append]
      rfl
    rw [HQ.out] at C sQ
    rw [HV.out]
    have e1 : IntKind.u64.wrap (-(n : Int)) = 18446744073709551616 - (n : Int) := by
      have h2 : (-(n : Int)) % 18446744073709551616 = 18446744073709551616 - (n : Int) := by omega
      simpa [IntKind.wrap, IntKind.bits, IntKind.signed] using h2
    have e2 : IntKind.u64.wrap (-(18446744073709551616 - (n : Int))) = (n : Int) := by
      have h2 : (-(18446744073709551616 - (n : Int))) % 18446744073709551616 = (n : Int) := by omega
      simpa [IntKind.wrap, IntKind.bits, IntKind.signed] using h2
    clear HV HQ
    go_enter Tryd.func49, Tryd.ntmps49
    go_wp2_with fail
    refine (C.out _).mono ?_; rintro e w2 ⟨rfl, hb2⟩
    go_wp2_with fail
    go_ret
    exact ⟨rfl, hb2⟩
  · obtain ⟨n, rfl⟩ : ∃ n : Nat, d = (n : Int) := ⟨d.toNat, by omega⟩
    have hn : n < 2 ^ 64 := by omega
    have C := Lib.hid (fun w => ref_digits n w hn)
    have e1 : IntKind.u64.wrap (n : Int) = (n : Int) := wrapu (by omega) (by omega)
    rw [Lib.itoa_nonneg]
    show Calls _ _ _ _ fun e w' => e = .returned (.string (P.S (Fm.digs n))) ∧ _
    go_enter Tryd.func49, Tryd.ntmps49
    go_wp2_with fail
    refine (C.out _).mono ?_; rintro e w2 ⟨rfl, hb2⟩
    go_wp2_with fail
    go_ret
    exact ⟨rfl, hb2⟩
theorem ref_stext (a : List Nat) (d : Int) (w : World) (ha : V.Ok a) (h0 : -9223372036854775808 ≤ d) (h1 : d ≤ 9223372036854775807) :
    Calls Tryd.prog 26 #[SV a d] w fun e w' => e = .returned (.string (P.S (T.text a d))) ∧ Below w.heap.size w w' :=
  ref_stext_walk a d w ha h0 h1 (fun u hu => ref_signed d u h0 h1) (fun u hu => ref_text a u ha)
end Go.Proofs.YtnmggefbajoadaaDoor.Sp
