/- A stamp by its parts, and as the document's: the law's own helpers. -/
import Derived.Test.YtohcdonmdnjgoaaStampC

import Derived.Test.YtohcdonmdnjgoaaVecAllF

namespace Go.Proofs.Ytohcdonmdnjgoaa.Sp

open Go.RowKit Go.Proofs.Ytohcdonmdnjgoaa.Vc

set_option linter.unusedVariables false

set_option linter.unusedSimpArgs false

set_option maxRecDepth 100000

theorem mark_cell {w : World} {b : Nat} {l : List Nat} {d : Int} {own : Bool} (h : Blk w b ((ks .u64 l ++ [Value.int .i64 d]) ++ [Value.bool own])) (hl : l.length = 4) :
    w.cell? ⟨b, 4, none⟩ = some (.int .i64 d) ∧ w.cell? ⟨b, 5, none⟩ = some (.bool own) ∧ ∀ j, j < 4 → w.cell? ⟨b, j, none⟩ = some (.int .u64 ((l.getD j 0 : Nat) : Int)) := by
  rw [List.append_assoc] at h
  exact ⟨ext_cell h hl 0 _ rfl, ext_cell h hl 1 _ rfl, fun j hj => vec_cell h j (by omega)⟩
theorem base_at {a : List Nat} (h : a.length = 4) (j : Nat) (hj : j < 3) : (T.base a).getD j 0 = a.getD j 0 % 4 := by
  obtain ⟨x, y, z, t, rfl⟩ := V.four h
  match j, hj with
  | 0, _ => rfl
  | 1, _ => rfl
  | 2, _ => rfl
theorem base_three {a : List Nat} (h : a.length = 4) : (T.base a).take 3 ++ List.replicate (4 - 3) 0 = T.base a := by
  obtain ⟨x, y, z, t, rfl⟩ := V.four h
  rfl
set_option maxHeartbeats 4000000 in
theorem mark_any (a : List Nat) (d : Int) (own : Bool) (w : World) (ha : V.Ok a) (hd : (Lit.int .i64 d).wf = true) :
    Calls Try.prog 36 #[MV a d own] w fun e w' => e = .returned (SV (T.mark a d own).1 (T.mark a d own).2) ∧ Below w.heap.size w w' := by
  have HA := Lib.hid ha.len
  have HSa := Lib.hid (size_s (d := d) ha.len)
  have HLa := Lib.hid (sv_len (d := d) ha.len)
  cases own with
  | false =>
    show Calls _ _ _ _ fun e w' => e = .returned (SV a d) ∧ _
    clear ha hd
    go_enter Try.func36, Try.ntmps36
    go_wp2_with (first | refine blk_box rfl 37 _ rfl (ks .u64 a ++ [Value.int .i64 d, Value.bool false]) rfl ?_)
    intro w1 A1 B1 Z1
    go_wp2_with (first | refine blk_alloc rfl 35 (ks .u64 (List.replicate 4 0) ++ [Value.int .i64 0]) rfl Try.info_s ?_)
    intro w2 A2 B2 Z2
    have A1' : Blk w1 w.heap.size ((ks .u64 a ++ [Value.int .i64 d]) ++ [Value.bool false]) := by rw [List.append_assoc]; exact A1
    have HA2 : Hid (Blk w2 w.heap.size ((ks .u64 a ++ [Value.int .i64 d]) ++ [Value.bool false])) := Blk.below A1' B2 (by omega)
    have HB2 : Hid (Blk w2 (w.heap.size + 1) (ks .u64 (List.replicate 4 0) ++ [Value.int .i64 0])) := A2
    have HW2 : Hid (Below w.heap.size w w2) := B1.trans (B2.mono (by omega))
    have c5 := (mark_cell HA2.out HA.out).2.1
    clear A1 A1' B1 A2 B2 Z1 Z2
    go_wp2_with (first | refine sub_load rfl 35 _ rfl w.heap.size rfl (ks .u64 a ++ [Value.int .i64 d]) [Value.bool false] HA2.out _ Try.underlying35 rfl HSa.out ?_ | refine blk_store rfl 35 _ _ rfl (w.heap.size + 1) rfl (ks .u64 a ++ [Value.int .i64 d]) rfl _ HB2.out HLa.out HSa.out (one_sv _ _) ?_)
    intro u A U
    have HA9 : Hid (Blk u (w.heap.size + 1) (ks .u64 a ++ [Value.int .i64 d])) := A
    have HW9 : Hid (Below w.heap.size w u) := Below.trans HW2.out (U.below (by omega))
    clear A U
    go_wp2_with fail
    refine bodyPost_ret (v := SV a d) ?_ rfl ⟨rfl, HW9.out⟩
    exact res_blk1 (t := 35) Try.results36 _ (w.heap.size + 1) rfl _ HA9.out _ Try.underlying35 rfl HSa.out
  | true =>
    show Calls _ _ _ _ fun e w' => e = .returned (SV (T.markv a d) (T.markd d : Int)) ∧ _
    have hd' : -9223372036854775808 ≤ d ∧ d ≤ 9223372036854775807 := by simpa [Lit.wf, IntKind.min, IntKind.max, IntKind.signed, IntKind.bits] using hd
    obtain ⟨n, hn⟩ : ∃ n : Nat, (n : Int) = d % 18446744073709551616 := ⟨(d % 18446744073709551616).toNat, by omega⟩
    have e1 : IntKind.u64.wrap d = (n : Int) := by
      rw [hn]
      simp [IntKind.wrap, IntKind.bits, IntKind.signed]
    obtain ⟨r, hr⟩ : ∃ r, r = n % 3 := ⟨_, rfl⟩
    have hr3 : r < 3 := by omega
    have e2 : (n : Int).tmod 3 = (r : Int) := by rw [Int.tmod_eq_emod_of_nonneg (by omega), hr]; rfl
    have e3 : IntKind.i64.wrap (r : Int) = (r : Int) := wrapi (by omega) (by omega)
    have e4 : IntKind.i64.wrap (1 + (r : Int)) = (r : Int) + 1 := by rw [wrapi (by omega) (by omega)]; omega
    have hk : T.markd d = 1 + r := by
      unfold T.markd
      rw [← hn, Int.toNat_natCast, hr]
    obtain ⟨bs, HBS⟩ : ∃ r, Hid (T.base a = r) := ⟨_, rfl⟩
    have HBL : Hid (bs.length = 4) := by show _ = _; rw [← HBS.out]; exact T.base_len ha.len
    have HB3 : Hid (bs.take 3 ++ List.replicate (4 - 3) 0 = bs) := by show _ = _; rw [← HBS.out]; exact base_three ha.len
    have HBA : Hid (∀ j, j < 3 → bs.getD j 0 = a.getD j 0 % 4) := fun j hj => by rw [← HBS.out]; exact base_at ha.len j hj
    obtain ⟨x, HX⟩ : ∃ x, Hid (bs.getD r 0 = x) := ⟨_, rfl⟩
    have HV : Hid (T.markv a d = bs.set r (1 + x)) := by
      show _ = _
      rw [T.markv, hk, HBS.out, show 1 + r - 1 = r by omega, HX.out]
    have hx : x < 4 := by
      rw [← HX.out, HBA.out r hr3]; omega
    have ex : ((1 : Int) + (x : Int)) % 18446744073709551616 = ((1 + x : Nat) : Int) := by omega
    have e5 : IntKind.u64.wrap (1 + (x : Int)) = ((1 + x : Nat) : Int) := by rw [wrapu (by omega) (by omega)]; omega
    rw [HV.out, hk, show (((1 + r : Nat)) : Int) = (r : Int) + 1 by omega]
    have HRL : Hid ((bs.set r (1 + x)).length = 4) := by show _ = _; rw [List.length_set]; exact HBL.out
    have HSr := Lib.hid (size_s (d := (r : Int) + 1) HRL.out)
    have HLr := Lib.hid (sv_len (d := (r : Int) + 1) HRL.out)
    clear ha hd hd' hn hk hr HV
    go_enter Try.func36, Try.ntmps36
    go_wp2_with (first | refine blk_box rfl 37 _ rfl (ks .u64 a ++ [Value.int .i64 d, Value.bool true]) rfl ?_)
    intro w1 A1 B1 Z1
    go_wp2_with (first | refine blk_alloc rfl 35 (ks .u64 (List.replicate 4 0) ++ [Value.int .i64 0]) rfl Try.info_s ?_)
    intro w2 A2 B2 Z2
    have A1' : Blk w1 w.heap.size ((ks .u64 a ++ [Value.int .i64 d]) ++ [Value.bool true]) := by rw [List.append_assoc]; exact A1
    have HA2 : Hid (Blk w2 w.heap.size ((ks .u64 a ++ [Value.int .i64 d]) ++ [Value.bool true])) := Blk.below A1' B2 (by omega)
    have HB2 : Hid (Blk w2 (w.heap.size + 1) (ks .u64 (List.replicate 4 0) ++ [Value.int .i64 0])) := A2
    have HW2 : Hid (Below w.heap.size w w2) := B1.trans (B2.mono (by omega))
    have hz2 : w2.heap.size = w.heap.size + 1 + 1 := by omega
    have HZ2 : Hid _ := hz2
    obtain ⟨c4, c5, _⟩ := mark_cell HA2.out HA.out
    clear A1 A1' B1 A2 B2 Z1 Z2
    go_wp2_with (first | refine blk_alloc rfl 35 (ks .u64 (List.replicate 4 0) ++ [Value.int .i64 0]) rfl Try.info_s ?_)
    intro w3 A3 B3 Z3
    go_wp2_with (first | refine blk_store rfl 35 _ _ rfl (w.heap.size + 2) rfl (ks .u64 (List.replicate 4 0) ++ [Value.int .i64 ((r : Int) + 1)]) rfl _ A3 rfl Try.size_s rfl ?_)
    intro w4 A U
    have HA4 : Hid (Blk w4 w.heap.size ((ks .u64 a ++ [Value.int .i64 d]) ++ [Value.bool true])) := Blk.upd (Blk.below HA2.out B3 (by omega)) U (by omega)
    have HB4 : Hid (Blk w4 (w.heap.size + 1) (ks .u64 (List.replicate 4 0) ++ [Value.int .i64 0])) := Blk.upd (Blk.below HB2.out B3 (by omega)) U (by omega)
    have HC4 : Hid (Blk w4 (w.heap.size + 2) (ks .u64 (bs.take 0 ++ List.replicate (4 - 0) 0) ++ [Value.int .i64 ((r : Int) + 1)])) := A
    have HW4 : Hid (Below w.heap.size w w4) := (Below.trans HW2.out (B3.mono (by omega))).trans (U.below (by omega))
    clear A U A3 B3 Z3 hz2 HA2 HB2 HW2 c4 c5 HZ2
    go_wp2_with fail
    go_loopw [4] (fun i wr => ∃ j : Nat, j ≤ 3 ∧ i = .int .i64 j ∧ Hid (Blk wr w.heap.size ((ks .u64 a ++ [Value.int .i64 d]) ++ [Value.bool true])) ∧ Hid (Blk wr (w.heap.size + 1) (ks .u64 (List.replicate 4 0) ++ [Value.int .i64 0])) ∧ Hid (Blk wr (w.heap.size + 2) (ks .u64 (bs.take j ++ List.replicate (4 - j) 0) ++ [Value.int .i64 ((r : Int) + 1)])) ∧ Hid (Below w.heap.size w wr)) (fun i _ => 3 - (intOf i).toNat)
    case atStart => exact ⟨0, by omega, rfl, HA4, HB4, HC4, HW4⟩
    case round =>
      obtain ⟨j, hj, rfl, HAr, HBr, HCr, HWr⟩ := hrel
      clear HA4 HB4 HC4 HW4
      by_cases hlt : j < 3
      · have ilt : (j : Int) < 3 := by omega
        have ilt4 : (j : Int) < 4 := by omega
        have c := (mark_cell HAr.out HA.out).2.2 j (by omega)
        have HL : Hid ((bs.take j ++ List.replicate (4 - j) 0).length = 4) := by have := HBL.out; show _ = _; simp; omega
        have co := vec_cell HCr.out j (by rw [HL.out]; omega)
        have cf := vec_free HCr.out j (by rw [HL.out]; omega)
        have hset := Blk.setv HCr.out j (bs.getD j 0) (by rw [HL.out]; omega)
        rw [V.fill_step bs j HBL.out (by omega), HBA.out j hlt] at hset
        generalize a.getD j 0 = y at *
        generalize (bs.take j ++ List.replicate (4 - j) 0).getD j 0 = old at co
        have ey : (y : Int).tmod 4 = ((y % 4 : Nat) : Int) := by rw [Int.tmod_eq_emod_of_nonneg (by omega)]; rfl
        have HS : Hid _ := hset
        have HU : Hid (Upd (w.heap.size + 2) wr (wr.setCell ⟨w.heap.size + 2, j, none⟩ (.int .u64 ((y % 4 : Nat) : Int)))) := Upd.setCell _ _ _ _
        have HA5 : Hid (Blk (wr.setCell ⟨w.heap.size + 2, j, none⟩ (.int .u64 ((y % 4 : Nat) : Int))) w.heap.size ((ks .u64 a ++ [Value.int .i64 d]) ++ [Value.bool true])) := Blk.upd HAr.out HU.out (by omega)
        have HB5 : Hid (Blk (wr.setCell ⟨w.heap.size + 2, j, none⟩ (.int .u64 ((y % 4 : Nat) : Int))) (w.heap.size + 1) (ks .u64 (List.replicate 4 0) ++ [Value.int .i64 0])) := Blk.upd HBr.out HU.out (by omega)
        have HW5 : Hid (Below w.heap.size w (wr.setCell ⟨w.heap.size + 2, j, none⟩ (.int .u64 ((y % 4 : Nat) : Int)))) := Below.trans HWr.out (Upd.below HU.out (by omega))
        clear hset HAr HBr HCr HWr HU
        go_wp2_with fail
        go_roundw
        case rel => exact ⟨j + 1, by omega, by go_num, HA5, HB5, HS, HW5⟩
        case measure => simp [intOf]; omega
      · obtain rfl : j = 3 := by omega
        rw [HB3.out] at HCr
        have ir4 : (r : Int) < 4 := by omega
        have HCd : Hid (Blk wr.drew (w.heap.size + 2) (ks .u64 bs ++ [Value.int .i64 ((r : Int) + 1)])) := Blk.drew HCr.out
        have HBd : Hid (Blk wr.drew (w.heap.size + 1) (ks .u64 (List.replicate 4 0) ++ [Value.int .i64 0])) := Blk.drew HBr.out
        have HWd : Hid (Below w.heap.size w wr.drew) := Below.drew HWr.out
        have c := dc_cell HCd.out HBL.out
        have co := vec_cell HCd.out r (by rw [HBL.out]; omega)
        have cf := vec_free HCd.out r (by rw [HBL.out]; omega)
        rw [HX.out] at co
        have hset := Blk.setv HCd.out r (1 + x) (by rw [HBL.out]; omega)
        have HS : Hid _ := hset
        have HU : Hid (Upd (w.heap.size + 2) wr.drew (wr.drew.setCell ⟨w.heap.size + 2, r, none⟩ (.int .u64 ((1 + x : Nat) : Int)))) := Upd.setCell _ _ _ _
        have HB5 : Hid (Blk (wr.drew.setCell ⟨w.heap.size + 2, r, none⟩ (.int .u64 ((1 + x : Nat) : Int))) (w.heap.size + 1) (ks .u64 (List.replicate 4 0) ++ [Value.int .i64 0])) := Blk.upd HBd.out HU.out (by omega)
        have HW5 : Hid (Below w.heap.size w (wr.drew.setCell ⟨w.heap.size + 2, r, none⟩ (.int .u64 ((1 + x : Nat) : Int)))) := Below.trans HWd.out (Upd.below HU.out (by omega))
        clear hset HAr HBr HCr HWr HU HCd HBd HWd
        go_wp2_with fail
        refine region_tail 12 Try.mixed (by kernel_rfl) ?_
        simp only [List.take_succ_cons, List.take_zero, List.drop_succ_cons, List.drop_zero]
        repeat still_step
        refine wpStill_nil ?_
        go_wp2_with (first | refine blk_load rfl 35 _ rfl (w.heap.size + 2) rfl _ HS.out _ Try.underlying35 rfl HSr.out ?_ | refine blk_store rfl 35 _ _ rfl (w.heap.size + 1) rfl (ks .u64 (bs.set r (1 + x)) ++ [Value.int .i64 ((r : Int) + 1)]) rfl _ HB5.out HLr.out HSr.out (one_sv _ _) ?_)
        intro u A U
        have HA9 : Hid (Blk u (w.heap.size + 1) (ks .u64 (bs.set r (1 + x)) ++ [Value.int .i64 ((r : Int) + 1)])) := A
        have HW9 : Hid (Below w.heap.size w u) := Below.trans HW5.out (U.below (by omega))
        clear A U
        go_wp2_with fail
        refine bodyPost_ret (v := SV (bs.set r (1 + x)) ((r : Int) + 1)) ?_ rfl ⟨rfl, HW9.out⟩
        exact res_blk1 (t := 35) Try.results36 _ (w.heap.size + 1) rfl _ HA9.out _ Try.underlying35 rfl HSr.out
set_option maxHeartbeats 2000000 in
theorem refstamp_any (a : List Nat) (d : Int) (w : World) (ha : a.length = 4) :
    Calls Try.prog 20 #[SV a d] w fun e w' => e = .returned (SV a d) ∧ Below w.heap.size w w' := by
  obtain ⟨x0, x1, x2, x3, rfl⟩ := V.four ha
  clear ha
  go_enter Try.func20, Try.ntmps20
  go_wp2_with (first | refine blk_box rfl 35 _ rfl ([Value.int .u64 (x0 : Int), Value.int .u64 (x1 : Int), Value.int .u64 (x2 : Int), Value.int .u64 (x3 : Int)] ++ [Value.int .i64 d]) rfl ?_)
  intro w1 A1 B1 Z1
  go_wp2_with (first | refine blk_alloc rfl 61 (ks .u64 (List.replicate 4 0) ++ [Value.int .i64 0]) rfl Try.info_rs ?_)
  intro w2 A2 B2 Z2
  have HA2 : Hid (Blk w2 w.heap.size ([Value.int .u64 (x0 : Int), Value.int .u64 (x1 : Int), Value.int .u64 (x2 : Int), Value.int .u64 (x3 : Int)] ++ [Value.int .i64 d])) := Blk.below A1 B2 (by omega)
  have HB2 : Hid (Blk w2 (w.heap.size + 1) (ks .u64 (List.replicate 4 0) ++ [Value.int .i64 0])) := A2
  have HW2 : Hid (Below w.heap.size w w2) := B1.trans (B2.mono (by omega))
  have c := HA2.out.cell 4 (Value.int .i64 d) rfl
  clear A1 B1 A2 B2 Z1 Z2
  go_wp2_with (first | refine sub_load rfl 33 _ rfl w.heap.size rfl [Value.int .u64 (x0 : Int), Value.int .u64 (x1 : Int), Value.int .u64 (x2 : Int), Value.int .u64 (x3 : Int)] [Value.int .i64 d] HA2.out _ Try.underlying33 rfl Try.size_v ?_ | refine blk_store rfl 61 _ _ rfl (w.heap.size + 1) rfl (ks .u64 [x0, x1, x2, x3] ++ [Value.int .i64 d]) rfl _ HB2.out rfl Try.size_rs rfl ?_)
  intro u A U
  have HA9 : Hid (Blk u (w.heap.size + 1) (ks .u64 [x0, x1, x2, x3] ++ [Value.int .i64 d])) := A
  have HW9 : Hid (Below w.heap.size w u) := Below.trans HW2.out (U.below (by omega))
  clear A U
  go_wp2_with fail
  refine bodyPost_ret (v := SV [x0, x1, x2, x3] d) ?_ rfl ⟨rfl, HW9.out⟩
  exact res_blk1 (t := 61) Try.results20 _ (w.heap.size + 1) rfl _ HA9.out _ Try.underlying61 rfl Try.size_rs
theorem Try.size_m : (Try.prog.info? 37).map (·.size) = some 6 := by kernel_rfl
theorem size_m {l : List Nat} {d : Int} {own : Bool} (h : l.length = 4) : (Try.prog.info? 37).map (·.size) = some (ks .u64 l ++ [Value.int .i64 d, Value.bool own]).length := by
  rw [List.length_append, ks_length, h]; exact Try.size_m
theorem own_at {w : World} {b : Nat} {l : List Nat} {d : Int} {own : Bool} (h : Blk w b (ks .u64 l ++ [Value.int .i64 d, Value.bool own])) (hl : l.length = 4) : w.cell? ⟨b, 5, none⟩ = some (.bool own) ∧ w.frozen? ⟨b, 5, none⟩ = false :=
  ⟨ext_cell h hl 1 _ rfl, h.free 5 (by rw [List.length_append, ks_length, hl]; simp)⟩
theorem own_set {w : World} {b : Nat} {l : List Nat} {d : Int} {own : Bool} (h : Blk w b (ks .u64 l ++ [Value.int .i64 d, Value.bool own])) (hl : l.length = 4) (v : Bool) : Blk (w.setCell ⟨b, 5, none⟩ (.bool v)) b (ks .u64 l ++ [Value.int .i64 d, Value.bool v]) := by
  have := Blk.setc h 5 (by rw [List.length_append, ks_length, hl]; simp) (.bool v)
  rwa [List.set_append_right _ _ (by rw [ks_length, hl]; decide), ks_length, hl] at this
end Go.Proofs.Ytohcdonmdnjgoaa.Sp
