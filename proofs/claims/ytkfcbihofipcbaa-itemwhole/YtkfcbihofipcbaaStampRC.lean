/- The document's own answer to chapter 7: Get. -/
import Derived.Test.YtkfcbihofipcbaaStampRA

import Derived.Test.YtkfcbihofipcbaaStampC

import Derived.Test.YtkfcbihofipcbaaVecRef3

import Derived.Test.YtkfcbihofipcbaaPackRefGet

namespace Go.Proofs.Ytkfcbihofipcbaa.Sp

open Go.RowKit Go.Proofs.Ytkfcbihofipcbaa.Vc

set_option linter.unusedVariables false

set_option linter.unusedSimpArgs false

set_option maxRecDepth 100000

set_option maxHeartbeats 4000000 in
theorem ref_sget (s : ByteArray) (b : Bool) (l : List Nat) (d : Int) (t : ByteArray) (b' : Bool) (w : World) (hs : s.size ≤ maxLen) (h : T.gets s b = (l, d, t, b')) :
    Calls Try.prog 54 #[.agg #[.string s, .bool b]] w fun e w' => e = .returned (.tuple #[SV l d, .agg #[.string t, .bool b']]) ∧ Below w.heap.size w w' := by
  rcases hv : P.RN s b 1 with ⟨n, t0, c0⟩
  have hn := T.RN_lt s b n t0 c0 hv
  have hz0 : t0.size ≤ maxLen := by have := Pk.RN_size s b 1; rw [hv] at this; exact Nat.le_trans this hs
  have C1 := Lib.hid (fun w => Pk.ref_rnumber_any s b 1 n t0 c0 w hs hv)
  rcases hg0 : V.gets t0 c0 with ⟨m, t1, c1⟩
  have hm : m.length = 4 := by have := (V.gets_ok t0 c0).1.len; rw [hg0] at this; exact this
  have C2 := Lib.hid (fun w => ref_get t0 c0 m t1 c1 w hz0 hg0)
  have HG : Hid ((if c1 = true ∨ T.right m (n : Int) = false then (V.zeros, (0 : Int), (⟨#[]⟩ : ByteArray), true) else (m, (n : Int), t1, c1)) = (l, d, t, b')) := by
    have hh := h
    unfold T.gets at hh
    rw [hv, hg0] at hh
    exact hh
  have CR := Lib.hid (fun w => ref_sright m (n : Int) w hm)
  have hw : IntKind.i64.wrap (n : Int) = (n : Int) := wrapi (by omega) (by omega)
  clear h hs hv hg0 hz0 hn
  obtain ⟨x0, x1, x2, x3, rfl⟩ := V.four hm
  have HM : Hid ([x0, x1, x2, x3].length = 4) := hm
  clear hm
  go_enter Try.func54, Try.ntmps54
  have M0 : Hid (Kept w w []) := Kept.start w
  go_wp2_with (first | refine blk_box rfl 97 _ rfl ([.string s, .bool b]) rfl ?_)
  intro k1 A1 B1 Z1
  have M2 : Hid (Kept w k1 [(w.heap.size, [.string s, .bool b])]) := Kept.new M0.out B1 Z1 A1
  clear A1 B1 M0
  go_wp2_with (first | refine blk_alloc rfl 50 (ks .u64 (List.replicate 4 0) ++ [Value.int .i64 0]) rfl Try.info_rs ?_)
  intro k3 A3 B3 Z3
  have M4 : Hid (Kept w k3 [(w.heap.size + 1, (ks .u64 (List.replicate 4 0) ++ [Value.int .i64 0])), (w.heap.size, [.string s, .bool b])]) := Kept.newAt M2.out Z1 B3 Z3 A3
  clear A3 B3 M2
  go_wp2_with (first | refine blk_alloc rfl 97 [.string ⟨#[]⟩, .bool false] rfl Try.info_rr ?_)
  intro k5 A5 B5 Z5
  have M6 : Hid (Kept w k5 [(w.heap.size + 2, [.string ⟨#[]⟩, .bool false]), (w.heap.size + 1, (ks .u64 (List.replicate 4 0) ++ [Value.int .i64 0])), (w.heap.size, [.string s, .bool b])]) := Kept.newAt M4.out Z3 B5 Z5 A5
  clear A5 B5 M4
  go_wp2_with (first | refine blk_load rfl 97 _ rfl (w.heap.size) rfl ([.string s, .bool b]) (Kept.get M6.out 2 rfl) _ Try.underlying97 rfl Try.size_rr ?_)
  clear Z1 Z3 Z5
  have LT : Hid (w.heap.size + 2 < k5.heap.size) := (M6.out.mem _ (List.mem_cons_self ..)).2
  refine (C1.out _).mono ?_; rintro e k7 ⟨rfl, hb7⟩
  have M8 : Hid (Kept w k7 [(w.heap.size + 2, [.string ⟨#[]⟩, .bool false]), (w.heap.size + 1, (ks .u64 (List.replicate 4 0) ++ [Value.int .i64 0])), (w.heap.size, [.string s, .bool b])]) := Kept.below M6.out hb7
  clear hb7 M6
  go_wp2_with (first | refine blk_alloc rfl 97 [.string ⟨#[]⟩, .bool false] rfl Try.info_rr ?_)
  intro k9 A9 B9 Z9
  go_wp2_with (first | refine blk_store rfl 97 _ _ rfl k7.heap.size rfl ([.string t0, .bool c0]) rfl _ A9 rfl Try.size_rr rfl ?_)
  intro k10 A10 U10
  have M11 : Hid (Kept w k10 [(k7.heap.size, [.string t0, .bool c0]), (w.heap.size + 2, [.string ⟨#[]⟩, .bool false]), (w.heap.size + 1, (ks .u64 (List.replicate 4 0) ++ [Value.int .i64 0])), (w.heap.size, [.string s, .bool b])]) := Kept.fresh M8.out B9 Z9 U10 A10
  clear A9 B9 Z9 A10 U10 M8
  go_wp2_with (first | refine blk_load rfl 97 _ rfl (k7.heap.size) rfl ([.string t0, .bool c0]) (Kept.get M11.out 0 rfl) _ Try.underlying97 rfl Try.size_rr ?_)
  refine (C2.out _).mono ?_; rintro e k12 ⟨rfl, hb12⟩
  have M13 : Hid (Kept w k12 [(k7.heap.size, [.string t0, .bool c0]), (w.heap.size + 2, [.string ⟨#[]⟩, .bool false]), (w.heap.size + 1, (ks .u64 (List.replicate 4 0) ++ [Value.int .i64 0])), (w.heap.size, [.string s, .bool b])]) := Kept.below M11.out hb12
  clear hb12 M11
  have LTA : Hid (w.heap.size + 2 < k12.heap.size) := (M13.out.mem _ (List.mem_of_getElem? (i := 1) rfl)).2
  go_wp2_with (first | refine arr_alloc rfl .u64 48 4 rfl Try.info_r ?_)
  intro k14 A14 B14 Z14
  go_wp2_with (first | refine blk_alloc rfl 97 [.string ⟨#[]⟩, .bool false] rfl Try.info_rr ?_)
  intro k15 A15 B15 Z15
  go_wp2_with (first | refine arr_store rfl .u64 48 _ _ rfl (k12.heap.size) rfl [x0, x1, x2, x3] rfl _ (A14.below B15 (by omega)) rfl Try.size_r ?_)
  intro k16 A16 U16
  go_wp2_with (first | refine blk_store rfl 97 _ _ rfl (k12.heap.size + 1) rfl [.string t1, .bool c1] rfl _ (A15.upd U16 (by omega)) rfl Try.size_rr rfl ?_)
  intro k17 A17 U17
  have M18 : Hid (Kept w k17 [(k12.heap.size + 1, [.string t1, .bool c1]), (k12.heap.size, ks .u64 [x0, x1, x2, x3]), (k7.heap.size, [.string t0, .bool c0]), (w.heap.size + 2, [.string ⟨#[]⟩, .bool false]), (w.heap.size + 1, (ks .u64 (List.replicate 4 0) ++ [Value.int .i64 0])), (w.heap.size, [.string s, .bool b])]) := Kept.pair M13.out (B14.trans (B15.mono (by omega))) (by omega) U16 U17 (Arr.blk (A16.upd U17 (by omega))) A17
  clear A14 B14 Z14 A15 B15 Z15 A16 U16 A17 U17 M13
  have LTB : Hid (w.heap.size + 2 < k17.heap.size) := (M18.out.mem _ (List.mem_of_getElem? (i := 3) rfl)).2
  go_wp2_with (first | refine blk_load rfl 48 _ rfl (k12.heap.size) rfl [.int .u64 (x0 : Int), .int .u64 (x1 : Int), .int .u64 (x2 : Int), .int .u64 (x3 : Int)] (Kept.get M18.out 1 rfl) _ Try.underlying48 rfl Try.size_r ?_ | refine blk_alloc rfl 50 (ks .u64 (List.replicate 4 0) ++ [Value.int .i64 0]) rfl Try.info_rs ?_)
  intro k19 A19 B19 Z19
  go_wp2_with (first | refine blk_store rfl 50 _ _ rfl k17.heap.size rfl (ks .u64 [x0, x1, x2, x3] ++ [Value.int .i64 (n : Int)]) rfl _ A19 rfl Try.size_rs rfl ?_)
  intro k20 A20 U20
  have M21 : Hid (Kept w k20 [(k17.heap.size, ks .u64 [x0, x1, x2, x3] ++ [Value.int .i64 (n : Int)]), (k12.heap.size + 1, [.string t1, .bool c1]), (k12.heap.size, ks .u64 [x0, x1, x2, x3]), (k7.heap.size, [.string t0, .bool c0]), (w.heap.size + 2, [.string ⟨#[]⟩, .bool false]), (w.heap.size + 1, (ks .u64 (List.replicate 4 0) ++ [Value.int .i64 0])), (w.heap.size, [.string s, .bool b])]) := Kept.fresh M18.out B19 Z19 U20 A20
  clear A19 B19 Z19 A20 U20 M18
  have cb := (Kept.get M21.out 1 rfl).cell 1 (.bool c1) rfl
  have lt := LT.out
  cases c1 with
  | true =>
    have hg := HG.out
    rw [if_pos (Or.inl rfl)] at hg
    simp only [Prod.mk.injEq] at hg
    obtain ⟨rfl, rfl, rfl, rfl⟩ := hg
    clear HG CR
    go_wp2_with (first | refine blk_store rfl 50 _ _ rfl (w.heap.size + 1) rfl (ks .u64 (List.replicate 4 0) ++ [Value.int .i64 0]) rfl _ (Kept.get M21.out 5 rfl) rfl Try.size_rs rfl ?_)
    intro u A U
    have HA10 : Hid (Blk u (w.heap.size + 1) (ks .u64 (List.replicate 4 0) ++ [Value.int .i64 0])) := A
    have HC10 : Hid (Blk u (w.heap.size + 2) [.string ⟨#[]⟩, .bool false]) := Blk.upd (Kept.get M21.out 4 rfl) U (by omega)
    have HW10 : Hid (Below w.heap.size w u) := Below.trans M21.out.under (U.below (by omega))
    clear A U
    go_wp2_with (first | refine blk_store rfl 97 _ _ rfl (w.heap.size + 2) rfl [.string ⟨#[]⟩, .bool true] rfl _ HC10.out rfl Try.size_rr rfl ?_)
    intro v B UV
    have HB11 : Hid (Blk v (w.heap.size + 2) [.string ⟨#[]⟩, .bool true]) := B
    have HV11 : Hid (Blk v (w.heap.size + 1) (ks .u64 (List.replicate 4 0) ++ [Value.int .i64 0])) := Blk.upd HA10.out UV (by omega)
    have HE11 : Hid (Below w.heap.size w v) := Below.trans HW10.out (UV.below (by omega))
    clear B UV
    go_wp2_with fail
    refine bodyPost_ret (v := .tuple #[SV V.zeros 0, .agg #[.string ⟨#[]⟩, .bool true]]) ?_ rfl ⟨rfl, HE11.out⟩
    exact res_two Try.results54 _ (w.heap.size + 1) (w.heap.size + 2) rfl rfl _ HV11.out _ Try.underlying50 rfl Try.size_rs _ HB11.out _ Try.underlying97 rfl Try.size_rr
  | false =>
    cases hr : T.right [x0, x1, x2, x3] (n : Int) with
    | false =>
      rw [hr] at CR
      have hg := HG.out
      rw [if_pos (Or.inr hr)] at hg
      simp only [Prod.mk.injEq] at hg
      obtain ⟨rfl, rfl, rfl, rfl⟩ := hg
      clear HG hr
      go_wp2_with (first | refine blk_loadg rfl 50 _ rfl (k17.heap.size) rfl (ks .u64 [x0, x1, x2, x3] ++ [Value.int .i64 (n : Int)]) (Kept.get M21.out 0 rfl) _ Try.underlying50 rfl (size_rs HM.out) ?_)
      refine (CR.out _).mono ?_; rintro e k22 ⟨rfl, hb22⟩
      have M23 : Hid (Kept w k22 [(k17.heap.size, ks .u64 [x0, x1, x2, x3] ++ [Value.int .i64 (n : Int)]), (k12.heap.size + 1, [.string t1, .bool false]), (k12.heap.size, ks .u64 [x0, x1, x2, x3]), (k7.heap.size, [.string t0, .bool c0]), (w.heap.size + 2, [.string ⟨#[]⟩, .bool false]), (w.heap.size + 1, (ks .u64 (List.replicate 4 0) ++ [Value.int .i64 0])), (w.heap.size, [.string s, .bool b])]) := Kept.below M21.out hb22
      clear hb22 M21
      go_wp2_with (first | refine blk_store rfl 50 _ _ rfl (w.heap.size + 1) rfl (ks .u64 (List.replicate 4 0) ++ [Value.int .i64 0]) rfl _ (Kept.get M23.out 5 rfl) rfl Try.size_rs rfl ?_)
      intro u A U
      have HA10 : Hid (Blk u (w.heap.size + 1) (ks .u64 (List.replicate 4 0) ++ [Value.int .i64 0])) := A
      have HC10 : Hid (Blk u (w.heap.size + 2) [.string ⟨#[]⟩, .bool false]) := Blk.upd (Kept.get M23.out 4 rfl) U (by omega)
      have HW10 : Hid (Below w.heap.size w u) := Below.trans M23.out.under (U.below (by omega))
      clear A U
      go_wp2_with (first | refine blk_store rfl 97 _ _ rfl (w.heap.size + 2) rfl [.string ⟨#[]⟩, .bool true] rfl _ HC10.out rfl Try.size_rr rfl ?_)
      intro v B UV
      have HB11 : Hid (Blk v (w.heap.size + 2) [.string ⟨#[]⟩, .bool true]) := B
      have HV11 : Hid (Blk v (w.heap.size + 1) (ks .u64 (List.replicate 4 0) ++ [Value.int .i64 0])) := Blk.upd HA10.out UV (by omega)
      have HE11 : Hid (Below w.heap.size w v) := Below.trans HW10.out (UV.below (by omega))
      clear B UV
      go_wp2_with fail
      refine bodyPost_ret (v := .tuple #[SV V.zeros 0, .agg #[.string ⟨#[]⟩, .bool true]]) ?_ rfl ⟨rfl, HE11.out⟩
      exact res_two Try.results54 _ (w.heap.size + 1) (w.heap.size + 2) rfl rfl _ HV11.out _ Try.underlying50 rfl Try.size_rs _ HB11.out _ Try.underlying97 rfl Try.size_rr
    | true =>
      rw [hr] at CR
      have hg := HG.out
      rw [if_neg (by simp [hr])] at hg
      simp only [Prod.mk.injEq] at hg
      obtain ⟨rfl, rfl, rfl, rfl⟩ := hg
      clear HG hr
      go_wp2_with (first | refine blk_loadg rfl 50 _ rfl (k17.heap.size) rfl (ks .u64 [x0, x1, x2, x3] ++ [Value.int .i64 (n : Int)]) (Kept.get M21.out 0 rfl) _ Try.underlying50 rfl (size_rs HM.out) ?_)
      refine (CR.out _).mono ?_; rintro e k22 ⟨rfl, hb22⟩
      have M23 : Hid (Kept w k22 [(k17.heap.size, ks .u64 [x0, x1, x2, x3] ++ [Value.int .i64 (n : Int)]), (k12.heap.size + 1, [.string t1, .bool false]), (k12.heap.size, ks .u64 [x0, x1, x2, x3]), (k7.heap.size, [.string t0, .bool c0]), (w.heap.size + 2, [.string ⟨#[]⟩, .bool false]), (w.heap.size + 1, (ks .u64 (List.replicate 4 0) ++ [Value.int .i64 0])), (w.heap.size, [.string s, .bool b])]) := Kept.below M21.out hb22
      clear hb22 M21
      go_wp2_with fail
      have a0 := vec_cell (Kept.get M23.out 0 rfl) 0 (by simp)
      have a1 := vec_cell (Kept.get M23.out 0 rfl) 1 (by simp)
      have a2 := vec_cell (Kept.get M23.out 0 rfl) 2 (by simp)
      have a3 := vec_cell (Kept.get M23.out 0 rfl) 3 (by simp)
      have a4 := dc_cell (Kept.get M23.out 0 rfl) rfl
      have r0 := (Kept.get M23.out 1 rfl).cell 0 _ rfl
      have r1 := (Kept.get M23.out 1 rfl).cell 1 _ rfl
      have e0 := (Kept.get M23.out 5 rfl).cell 0 _ rfl
      have e1 := (Kept.get M23.out 5 rfl).cell 1 _ rfl
      have e2 := (Kept.get M23.out 5 rfl).cell 2 _ rfl
      have e3 := (Kept.get M23.out 5 rfl).cell 3 _ rfl
      have e4 := (Kept.get M23.out 5 rfl).cell 4 _ rfl
      have f0 := (Kept.get M23.out 5 rfl).free 0 (by decide)
      have f1 := (Kept.get M23.out 5 rfl).free 1 (by decide)
      have f2 := (Kept.get M23.out 5 rfl).free 2 (by decide)
      have f3 := (Kept.get M23.out 5 rfl).free 3 (by decide)
      have f4 := (Kept.get M23.out 5 rfl).free 4 (by decide)
      have o0 := (Kept.get M23.out 4 rfl).cell 0 _ rfl
      have o1 := (Kept.get M23.out 4 rfl).cell 1 _ rfl
      have g0 := (Kept.get M23.out 4 rfl).free 0 (by simp)
      have g1 := (Kept.get M23.out 4 rfl).free 1 (by simp)
      simp only [List.getD_cons_zero, List.getD_cons_succ] at a0 a1 a2 a3
      have lta := LTA.out
      have ltb := LTB.out
      go_region
      all_goals
        have U9 : Upd (w.heap.size + 1) k22 (k22.setCells (w.heap.size + 1) 0 (ks .u64 [x0, x1, x2, x3] ++ [Value.int .i64 (n : Int)])) := Upd.setCells _ _ _ _
        have HA9 : Blk (k22.setCells (w.heap.size + 1) 0 (ks .u64 [x0, x1, x2, x3] ++ [Value.int .i64 (n : Int)])) (w.heap.size + 1) (ks .u64 [x0, x1, x2, x3] ++ [Value.int .i64 (n : Int)]) := Blk.store (Kept.get M23.out 5 rfl) _ rfl
        have HC9 : Blk (k22.setCells (w.heap.size + 1) 0 (ks .u64 [x0, x1, x2, x3] ++ [Value.int .i64 (n : Int)])) (w.heap.size + 2) [.string ⟨#[]⟩, .bool false] := Blk.upd (Kept.get M23.out 4 rfl) U9 (by omega)
        have U10 : Upd (w.heap.size + 2) _ ((k22.setCells (w.heap.size + 1) 0 (ks .u64 [x0, x1, x2, x3] ++ [Value.int .i64 (n : Int)])).setCells (w.heap.size + 2) 0 [.string t1, .bool false]) := Upd.setCells _ _ _ _
        have HB10 : Hid (Blk ((k22.setCells (w.heap.size + 1) 0 (ks .u64 [x0, x1, x2, x3] ++ [Value.int .i64 (n : Int)])).setCells (w.heap.size + 2) 0 [.string t1, .bool false]).drew (w.heap.size + 2) [.string t1, .bool false]) := (HC9.store [.string t1, .bool false] rfl).drew
        have HA10 : Hid (Blk ((k22.setCells (w.heap.size + 1) 0 (ks .u64 [x0, x1, x2, x3] ++ [Value.int .i64 (n : Int)])).setCells (w.heap.size + 2) 0 [.string t1, .bool false]).drew (w.heap.size + 1) (ks .u64 [x0, x1, x2, x3] ++ [Value.int .i64 (n : Int)])) := (Blk.upd HA9 U10 (by omega)).drew
        have HW10 : Hid (Below w.heap.size w ((k22.setCells (w.heap.size + 1) 0 (ks .u64 [x0, x1, x2, x3] ++ [Value.int .i64 (n : Int)])).setCells (w.heap.size + 2) 0 [.string t1, .bool false]).drew) := ((Below.trans M23.out.under (U9.below (by omega))).trans (U10.below (by omega))).drew
        clear U9 HA9 HC9 U10 a0 a1 a2 a3 a4 e0 e1 e2 e3 e4 f0 f1 f2 f3 f4 r0 r1 o0 o1 g0 g1
        go_wp2_with fail
        refine bodyPost_ret (v := .tuple #[SV [x0, x1, x2, x3] (n : Int), .agg #[.string t1, .bool false]]) ?_ rfl ⟨rfl, HW10.out⟩
        exact res_two Try.results54 _ (w.heap.size + 1) (w.heap.size + 2) rfl rfl _ HA10.out _ Try.underlying50 rfl Try.size_rs _ HB10.out _ Try.underlying97 rfl Try.size_rr
end Go.Proofs.Ytkfcbihofipcbaa.Sp
