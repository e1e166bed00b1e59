/- The document's own answer to chapter 7: N, Right, Seen, Put. -/
import Derived.Test.YtkfcbihofipcbaaStampA

import Derived.Test.YtkfcbihofipcbaaVecRef3

namespace Go.Proofs.Ytkfcbihofipcbaa.Sp

open Go.RowKit Go.Proofs.Ytkfcbihofipcbaa.Vc

set_option linter.unusedVariables false

set_option linter.unusedSimpArgs false

set_option maxRecDepth 100000

set_option maxHeartbeats 1000000 in
theorem ref_sn (a : List Nat) (d : Int) (w : World) (ha : a.length = 4) :
    Calls Try.prog 64 #[SV a d] w fun e w' => e = .returned (.int .u64 (V.at_ a d : Nat)) ∧ Below w.heap.size w w' := by
  have HI := Lib.hid (size_r ha)
  have HA := Lib.hid ha
  have C := Lib.hid (fun w => ref_at a d w ha)
  obtain ⟨x, HX⟩ : ∃ r, Hid (V.at_ a d = r) := ⟨_, rfl⟩
  rw [HX.out] at C ⊢
  clear ha
  go_enter Try.func64, Try.ntmps64
  go_wp2_with (first | refine blk_box rfl 50 _ rfl (ks .u64 a ++ [Value.int .i64 d]) rfl ?_)
  intro w1 A1 B1 Z1
  have HR := Lib.hid (rowp A1)
  have c := dc_cell A1 HA.out
  have HB1 : Hid (Below w.heap.size w w1) := B1
  clear A1 B1 Z1
  go_wp2_with (first | refine row_load rfl .u64 48 _ rfl w.heap.size 0 rfl a HR.out 4 26 Try.underlying48 HI.out ?_)
  refine (C.out _).mono ?_; rintro e w2 ⟨rfl, hb2⟩
  have HB2 : Hid (Below w.heap.size w w2) := Below.trans HB1.out (hb2.mono HB1.out.size)
  clear hb2 c
  go_wp2_with fail
  go_ret
  exact ⟨rfl, HB2.out⟩
set_option maxHeartbeats 1000000 in
theorem ref_sright (a : List Nat) (d : Int) (w : World) (ha : a.length = 4) :
    Calls Try.prog 46 #[SV a d] w fun e w' => e = .returned (.bool (T.right a d)) ∧ Below w.heap.size w w' := by
  have HI := Lib.hid (size_r ha)
  have HS := Lib.hid (size_rs (d := d) ha)
  have C := Lib.hid (fun w => ref_right a w ha)
  have CN := Lib.hid (fun w => ref_sn a d w ha)
  unfold T.right
  clear ha
  cases hr : V.right a with
  | false =>
    rw [hr] at C
    clear hr CN
    show Calls _ _ _ _ fun e w' => e = .returned (.bool false) ∧ _
    go_enter Try.func46, Try.ntmps46
    go_wp2_with (first | refine blk_box rfl 50 _ rfl (ks .u64 a ++ [Value.int .i64 d]) rfl ?_)
    intro w1 A1 B1 Z1
    have HR := Lib.hid (rowp A1)
    have HB1 : Hid (Below w.heap.size w w1) := B1
    clear A1 B1 Z1
    go_wp2_with (first | refine row_load rfl .u64 48 _ rfl w.heap.size 0 rfl a HR.out 4 26 Try.underlying48 HI.out ?_)
    refine (C.out _).mono ?_; rintro e w2 ⟨rfl, hb2⟩
    have HB2 : Hid (Below w.heap.size w w2) := Below.trans HB1.out (hb2.mono HB1.out.size)
    clear hb2
    go_wp2_with fail
    go_ret
    exact ⟨rfl, HB2.out⟩
  | true =>
    rw [hr] at C
    clear hr
    obtain ⟨x, HX⟩ : ∃ r, Hid (V.at_ a d = r) := ⟨_, rfl⟩
    rw [HX.out] at CN ⊢
    obtain ⟨q, HQ⟩ : ∃ r, Hid (decide (1 ≤ x) = r) := ⟨_, rfl⟩
    have hq : decide ((1 : Int) ≤ (x : Int)) = q := by rw [← HQ.out]; exact decide_eq_decide.2 (by omega)
    show Calls _ _ _ _ fun e w' => e = .returned (.bool (decide (1 ≤ x))) ∧ _
    rw [HQ.out]
    go_enter Try.func46, Try.ntmps46
    go_wp2_with (first | refine blk_box rfl 50 _ rfl (ks .u64 a ++ [Value.int .i64 d]) rfl ?_)
    intro w1 A1 B1 Z1
    have HR := Lib.hid (rowp A1)
    have HA1 : Hid (Blk w1 w.heap.size (ks .u64 a ++ [Value.int .i64 d])) := A1
    have HZ1 : Hid (w.heap.size < w1.heap.size) := by show _ < _; omega
    have HB1 : Hid (Below w.heap.size w w1) := B1
    clear A1 B1 Z1
    go_wp2_with (first | refine row_load rfl .u64 48 _ rfl w.heap.size 0 rfl a HR.out 4 26 Try.underlying48 HI.out ?_)
    refine (C.out _).mono ?_; rintro e w2 ⟨rfl, hb2⟩
    have HB2 : Hid (Below w.heap.size w w2) := Below.trans HB1.out (hb2.mono HB1.out.size)
    have HA2 : Hid (Blk w2 w.heap.size (ks .u64 a ++ [Value.int .i64 d])) := Blk.below HA1.out hb2 HZ1.out
    clear hb2 HR HA1
    go_wp2_with (first | refine blk_loadg rfl 50 _ rfl w.heap.size rfl (ks .u64 a ++ [Value.int .i64 d]) HA2.out _ Try.underlying50 rfl HS.out ?_)
    refine (CN.out _).mono ?_; rintro e w3 ⟨rfl, hb3⟩
    have HB3 : Hid (Below w.heap.size w w3) := Below.trans HB2.out (hb3.mono HB2.out.size)
    clear hb3
    go_wp2_with fail
    go_ret
    exact ⟨rfl, HB3.out⟩
set_option maxHeartbeats 2000000 in
theorem ref_sput (a : List Nat) (d : Int) (w : World) (ha : V.Ok a) :
    Calls Try.prog 38 #[SV a d] w fun e w' => e = .returned (.tuple #[.string (T.puts a d), .bool (T.right a d)]) ∧ Below w.heap.size w w' := by
  have HI := Lib.hid (size_r ha.len)
  have HA := Lib.hid ha.len
  have HS := Lib.hid (size_rs (d := d) ha.len)
  have C := Lib.hid (fun w => ref_sright a d w ha.len)
  have CP := Lib.hid (fun w => ref_put a w ha)
  have sP : (P.S (V.put a)).size ≤ 40 := by rw [P.S_size]; exact T.vput_len ha.len
  unfold T.puts
  clear ha
  cases hr : T.right a d with
  | false =>
    rw [hr] at C
    clear hr
    show Calls _ _ _ _ fun e w' => e = .returned (.tuple #[.string ⟨#[]⟩, .bool false]) ∧ _
    go_enter Try.func38, Try.ntmps38
    go_wp2_with (first | refine blk_box rfl 50 _ rfl (ks .u64 a ++ [Value.int .i64 d]) rfl ?_)
    intro w1 A1 B1 Z1
    have HA1 : Hid (Blk w1 w.heap.size (ks .u64 a ++ [Value.int .i64 d])) := A1
    have HB1 : Hid (Below w.heap.size w w1) := B1
    clear A1 B1 Z1
    go_wp2_with (first | refine blk_load rfl 50 _ rfl w.heap.size rfl (ks .u64 a ++ [Value.int .i64 d]) HA1.out _ Try.underlying50 rfl HS.out ?_)
    refine (C.out _).mono ?_; rintro e w2 ⟨rfl, hb2⟩
    have HB2 : Hid (Below w.heap.size w w2) := Below.trans HB1.out (hb2.mono HB1.out.size)
    clear hb2
    go_wp2_with fail
    go_ret2
    exact ⟨rfl, HB2.out⟩
  | true =>
    rw [hr] at C
    obtain ⟨_, h1, h4, _⟩ := T.right_known hr
    clear hr
    obtain ⟨n, rfl⟩ : ∃ n : Nat, d = (n : Int) := ⟨d.toNat, by omega⟩
    have hw : IntKind.u64.wrap (n : Int) = (n : Int) := wrapu (by omega) (by omega)
    have CNm := Lib.hid (fun w => Pk.ref_number_any n 1 w (by omega))
    rw [show Pk.numS n 1 = P.S (P.numB n 1) from rfl] at CNm
    obtain ⟨p, HP⟩ : ∃ r, Hid (P.S (V.put a) = r) := ⟨_, rfl⟩
    obtain ⟨q, HQ⟩ : ∃ r, Hid (P.S (P.numB n 1) = r) := ⟨_, rfl⟩
    have sQ : q.size = 1 := by rw [← HQ.out, P.S_size, P.numB_length]
    obtain ⟨y, HY⟩ : ∃ r, Hid (q ++ p = r) := ⟨_, rfl⟩
    have HV : Hid (P.S (T.put a (n : Int)) = y) := by
      show _ = _
      rw [← HY.out, ← HQ.out, ← HP.out, P.S_append]
      rfl
    rw [HP.out] at CP sP
    rw [HQ.out] at CNm
    show Calls _ _ _ _ fun e w' => e = .returned (.tuple #[.string (P.S (T.put a (n : Int))), .bool true]) ∧ _
    rw [HV.out]
    have hn : Hid (q.size + p.size ≤ 9223372036854775807) := by show _ ≤ _; omega
    clear HV HP HQ sP sQ
    go_enter Try.func38, Try.ntmps38
    go_wp2_with (first | refine blk_box rfl 50 _ rfl (ks .u64 a ++ [Value.int .i64 (n : Int)]) rfl ?_)
    intro w1 A1 B1 Z1
    have HA1 : Hid (Blk w1 w.heap.size (ks .u64 a ++ [Value.int .i64 (n : Int)])) := A1
    have HZ1 : Hid (w.heap.size < w1.heap.size) := by show _ < _; omega
    have HB1 : Hid (Below w.heap.size w w1) := B1
    clear A1 B1 Z1
    go_wp2_with (first | refine blk_load rfl 50 _ rfl w.heap.size rfl (ks .u64 a ++ [Value.int .i64 (n : Int)]) HA1.out _ Try.underlying50 rfl HS.out ?_)
    refine (C.out _).mono ?_; rintro e w2 ⟨rfl, hb2⟩
    have HB2 : Hid (Below w.heap.size w w2) := Below.trans HB1.out (hb2.mono HB1.out.size)
    have HZ2 : Hid (w.heap.size < w2.heap.size) := Nat.lt_of_lt_of_le HZ1.out hb2.size
    have HA2 : Hid (Blk w2 w.heap.size (ks .u64 a ++ [Value.int .i64 (n : Int)])) := Blk.below HA1.out hb2 HZ1.out
    clear hb2 HA1 HB1 HZ1 C
    have K1 : Hid (∀ u, Below w2.heap.size w2 u → u.cell? ⟨w.heap.size, 4, none⟩ = some (.int .i64 (n : Int))) := fun u hu => dc_cell (Blk.below HA2.out hu HZ2.out) HA.out
    have K2 : Hid (∀ u, Below w2.heap.size w2 u → u.rangeAt w.heap.size 0 (ks .u64 a)) := fun u hu => rowp (Blk.below HA2.out hu HZ2.out)
    have X1 : Hid (∀ u, Below w2.heap.size w2 u → Calls Try.prog 39 [.int .u64 (n : Int), .int .i64 1].toArray u fun e u' => e = .returned (.string q) ∧ Below w2.heap.size w2 u') := fun u hu => Calls.more hu (CNm.out u)
    have X2 : Hid (∀ u, Below w2.heap.size w2 u → Calls Try.prog 59 [AV .u64 a].toArray u fun e u' => e = .returned (.string p) ∧ Below w2.heap.size w2 u') := fun u hu => Calls.more hu (CP.out u)
    go_wp2_with fail
    refine region_w Try.mixed (by kernel_rfl) ?_
    refine w_value rfl (.pointer (some ⟨w.heap.size, 4, none⟩)) (fun u hu => by go_simp) (fun K hK => ?_)
    go_simp
    refine hK _ ?_
    clear hK K
    refine w_value rfl (.int .i64 (n : Int)) (fun u hu => by have hc := K1.out u hu; go_simp) (fun K hK => ?_)
    go_simp
    refine hK _ ?_
    clear hK K
    refine w_value rfl (.int .u64 (n : Int)) (fun u hu => by go_simp) (fun K hK => ?_)
    go_simp
    refine hK _ ?_
    clear hK K
    refine w_call rfl 39 Try.f39 Try.func39 rfl rfl _ _ rfl _ rfl (.string q) (by exact X1.out) (fun K hK => ?_)
    go_simp
    refine hK _ ?_
    clear hK K
    refine w_value rfl (.pointer (some ⟨w.heap.size, 0, none⟩)) (fun u hu => by go_simp) (fun K hK => ?_)
    go_simp
    refine hK _ ?_
    clear hK K
    refine w_row_load rfl .u64 48 _ rfl w.heap.size 0 rfl a (by exact K2.out) 4 26 Try.underlying48 HI.out (fun K hK => ?_)
    go_simp
    refine hK _ ?_
    clear hK K
    refine w_call rfl 59 Try.f59 Try.func59 rfl rfl _ _ rfl _ rfl (.string p) (by exact X2.out) (fun K hK => ?_)
    go_simp
    refine hK _ ?_
    clear hK K
    refine w_cat rfl _ _ _ _ rfl q p y rfl rfl hn.out HY.out (fun K hK => ?_)
    go_simp
    refine hK _ ?_
    clear hK K
    refine w_assign rfl _ rfl (.string y) rfl (fun K hK => ?_)
    go_simp
    refine hK _ ?_
    clear hK K
    refine w_assign rfl _ rfl (.bool true) rfl (fun K hK => ?_)
    go_simp
    refine hK _ ?_
    clear hK K
    refine w_nil ?_
    intro u hu
    have HW9 : Hid (Below w.heap.size w u) := Below.trans HB2.out (hu.mono HB2.out.size)
    clear hu
    go_wp2_with fail
    go_ret2
    exact ⟨rfl, HW9.out⟩
end Go.Proofs.Ytkfcbihofipcbaa.Sp
