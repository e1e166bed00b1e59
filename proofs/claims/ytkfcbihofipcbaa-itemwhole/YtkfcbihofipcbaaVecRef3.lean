/- The document's own answer to chapter 6: Get. -/
import Derived.Test.YtkfcbihofipcbaaVecRefP

import Derived.Test.YtkfcbihofipcbaaVecGet

import Derived.Test.YtkfcbihofipcbaaPackRefGet

namespace Go.Proofs.Ytkfcbihofipcbaa.Vc

open Go.RowKit

set_option linter.unusedVariables false

set_option linter.unusedSimpArgs false

set_option maxRecDepth 100000

theorem Try.info_rr : (Try.prog.info? 97).map (fun i => (i.zero, i.size)) = some (some (.agg [Value.string ⟨#[]⟩, .bool false].toArray), 2) := by kernel_rfl
theorem Try.size_rr : (Try.prog.info? 97).map (·.size) = some 2 := by kernel_rfl
set_option maxHeartbeats 4000000 in
theorem ref_get (s : ByteArray) (b : Bool) (l : List Nat) (t : ByteArray) (b' : Bool) (w : World) (hs : s.size ≤ maxLen) (h : V.gets s b = (l, t, b')) :
    Calls Try.prog 71 #[.agg #[.string s, .bool b]] w fun e w' => e = .returned (.tuple #[AV .u64 l, .agg #[.string t, .bool b']]) ∧ Below w.heap.size w w' := by
  rcases h1 : P.RV s b with ⟨n0, t0, c0⟩
  have z1 := V.RV_size s b n0 t0 c0 h1
  rcases h2 : P.RV t0 c0 with ⟨n1, t1, c1⟩
  have z2 := V.RV_size t0 c0 n1 t1 c1 h2
  rcases h3 : P.RV t1 c1 with ⟨n2, t2, c2⟩
  have z3 := V.RV_size t1 c1 n2 t2 c2 h3
  rcases h4 : P.RV t2 c2 with ⟨n3, t3, c3⟩
  have hrd : V.rd 4 s b = ([n0, n1, n2, n3], t3, c3) := by simp [V.rd, h1, h2, h3, h4]
  have C1 := Lib.hid (fun w => Pk.ref_rvary_any s b n0 t0 c0 w hs h1)
  have C2 := Lib.hid (fun w => Pk.ref_rvary_any t0 c0 n1 t1 c1 w (by omega) h2)
  have C3 := Lib.hid (fun w => Pk.ref_rvary_any t1 c1 n2 t2 c2 w (by omega) h3)
  have C4 := Lib.hid (fun w => Pk.ref_rvary_any t2 c2 n3 t3 c3 w (by omega) h4)
  have HG : Hid ((if c3 = true ∨ V.right [n0, n1, n2, n3] = false then (V.zeros, ⟨#[]⟩, true) else ([n0, n1, n2, n3], t3, c3)) = (l, t, b')) := by
    have hh := h
    unfold V.gets at hh
    rw [hrd] at hh
    exact hh
  clear h hs h1 h2 h3 h4 z1 z2 z3 hrd
  go_enter Try.func71, Try.ntmps71
  go_wp2_with (first | refine blk_box rfl 97 _ rfl [.string s, .bool b] rfl ?_)
  intro w1 A1 B1 Z1
  go_wp2_with (first | refine arr_alloc rfl .u64 48 4 rfl Try.info_r ?_)
  intro w2 A2 B2 Z2
  go_wp2_with (first | refine blk_alloc rfl 97 [.string ⟨#[]⟩, .bool false] rfl Try.info_rr ?_)
  intro w3 A3 B3 Z3
  have HA3 : Blk w3 w.heap.size [.string s, .bool b] := (A1.below B2 (by omega)).below B3 (by omega)
  have HB3 : Blk w3 (w.heap.size + 1) (ks .u64 (List.replicate 4 0)) := Arr.blk (A2.below B3 (by omega))
  have HW3 : Below w.heap.size w w3 := B1.trans ((B2.mono (by omega)).trans (B3.mono (by omega)))
  have M3 : Hid (Kept w w3 [(w.heap.size + 2, [.string ⟨#[]⟩, .bool false]), (w.heap.size + 1, ks .u64 (List.replicate 4 0)), (w.heap.size, [.string s, .bool b])]) := by
    refine ⟨HW3, fun p hp => ?_⟩
    simp only [List.mem_cons, List.not_mem_nil, or_false] at hp
    rcases hp with rfl | rfl | rfl
    · exact ⟨A3, by show _ < _; omega⟩
    · exact ⟨HB3, by show _ < _; omega⟩
    · exact ⟨HA3, by show _ < _; omega⟩
  have HS3 : Hid (w.heap.size + 2 < w3.heap.size) := by show _ < _; omega
  clear A1 B1 A2 B2 A3 B3 Z1 Z2 Z3 HA3 HB3 HW3
  go_wp2_with (first | refine blk_load rfl 97 _ rfl (w.heap.size) rfl [.string s, .bool b] (Kept.get M3.out 2 rfl) _ Try.underlying97 rfl Try.size_rr ?_)
  refine (C1.out w3).mono ?_; rintro e k4 ⟨rfl, hb⟩
  have N4 : Hid (Kept w k4 [(w.heap.size + 2, [.string ⟨#[]⟩, .bool false]), (w.heap.size + 1, ks .u64 (List.replicate 4 0)), (w.heap.size, [.string s, .bool b])]) := Kept.below M3.out hb
  have T4 : Hid (w.heap.size + 2 < k4.heap.size) := Nat.lt_of_lt_of_le HS3.out hb.size
  clear hb M3 HS3 C1
  go_wp2_with (first | refine blk_alloc rfl 97 [.string ⟨#[]⟩, .bool false] rfl Try.info_rr ?_)
  intro w4 A B Z
  go_wp2_with (first | refine blk_store rfl 97 _ _ rfl k4.heap.size rfl [.string t0, .bool c0] rfl _ A rfl Try.size_rr rfl ?_)
  intro u4 A' U
  have M4 : Hid (Kept w u4 [(k4.heap.size, [.string t0, .bool c0]), (w.heap.size + 2, [.string ⟨#[]⟩, .bool false]), (w.heap.size + 1, ks .u64 (List.replicate 4 0)), (w.heap.size, [.string s, .bool b])]) := Kept.fresh N4.out B Z U A'
  have HS4 : Hid (w.heap.size + 2 < u4.heap.size) := by have h1 := T4.out; have h2 := U.size; show _ < _; omega
  have Q4 : Hid (w.heap.size + 2 < k4.heap.size) := T4
  clear A B Z A' U N4 T4
  go_wp2_with (first | refine blk_load rfl 97 _ rfl (k4.heap.size) rfl [.string t0, .bool c0] (Kept.get M4.out 0 rfl) _ Try.underlying97 rfl Try.size_rr ?_)
  refine (C2.out u4).mono ?_; rintro e k5 ⟨rfl, hb⟩
  have N5 : Hid (Kept w k5 [(k4.heap.size, [.string t0, .bool c0]), (w.heap.size + 2, [.string ⟨#[]⟩, .bool false]), (w.heap.size + 1, ks .u64 (List.replicate 4 0)), (w.heap.size, [.string s, .bool b])]) := Kept.below M4.out hb
  have T5 : Hid (w.heap.size + 2 < k5.heap.size) := Nat.lt_of_lt_of_le HS4.out hb.size
  clear hb M4 HS4 C2
  go_wp2_with (first | refine blk_alloc rfl 97 [.string ⟨#[]⟩, .bool false] rfl Try.info_rr ?_)
  intro w5 A B Z
  go_wp2_with (first | refine blk_store rfl 97 _ _ rfl k5.heap.size rfl [.string t1, .bool c1] rfl _ A rfl Try.size_rr rfl ?_)
  intro u5 A' U
  have M5 : Hid (Kept w u5 [(k5.heap.size, [.string t1, .bool c1]), (k4.heap.size, [.string t0, .bool c0]), (w.heap.size + 2, [.string ⟨#[]⟩, .bool false]), (w.heap.size + 1, ks .u64 (List.replicate 4 0)), (w.heap.size, [.string s, .bool b])]) := Kept.fresh N5.out B Z U A'
  have HS5 : Hid (w.heap.size + 2 < u5.heap.size) := by have h1 := T5.out; have h2 := U.size; show _ < _; omega
  have Q5 : Hid (w.heap.size + 2 < k5.heap.size) := T5
  clear A B Z A' U N5 T5
  go_wp2_with (first | refine blk_load rfl 97 _ rfl (k5.heap.size) rfl [.string t1, .bool c1] (Kept.get M5.out 0 rfl) _ Try.underlying97 rfl Try.size_rr ?_)
  refine (C3.out u5).mono ?_; rintro e k6 ⟨rfl, hb⟩
  have N6 : Hid (Kept w k6 [(k5.heap.size, [.string t1, .bool c1]), (k4.heap.size, [.string t0, .bool c0]), (w.heap.size + 2, [.string ⟨#[]⟩, .bool false]), (w.heap.size + 1, ks .u64 (List.replicate 4 0)), (w.heap.size, [.string s, .bool b])]) := Kept.below M5.out hb
  have T6 : Hid (w.heap.size + 2 < k6.heap.size) := Nat.lt_of_lt_of_le HS5.out hb.size
  clear hb M5 HS5 C3
  go_wp2_with (first | refine blk_alloc rfl 97 [.string ⟨#[]⟩, .bool false] rfl Try.info_rr ?_)
  intro w6 A B Z
  go_wp2_with (first | refine blk_store rfl 97 _ _ rfl k6.heap.size rfl [.string t2, .bool c2] rfl _ A rfl Try.size_rr rfl ?_)
  intro u6 A' U
  have M6 : Hid (Kept w u6 [(k6.heap.size, [.string t2, .bool c2]), (k5.heap.size, [.string t1, .bool c1]), (k4.heap.size, [.string t0, .bool c0]), (w.heap.size + 2, [.string ⟨#[]⟩, .bool false]), (w.heap.size + 1, ks .u64 (List.replicate 4 0)), (w.heap.size, [.string s, .bool b])]) := Kept.fresh N6.out B Z U A'
  have HS6 : Hid (w.heap.size + 2 < u6.heap.size) := by have h1 := T6.out; have h2 := U.size; show _ < _; omega
  have Q6 : Hid (w.heap.size + 2 < k6.heap.size) := T6
  clear A B Z A' U N6 T6
  go_wp2_with (first | refine blk_load rfl 97 _ rfl (k6.heap.size) rfl [.string t2, .bool c2] (Kept.get M6.out 0 rfl) _ Try.underlying97 rfl Try.size_rr ?_)
  refine (C4.out u6).mono ?_; rintro e k7 ⟨rfl, hb⟩
  have N7 : Hid (Kept w k7 [(k6.heap.size, [.string t2, .bool c2]), (k5.heap.size, [.string t1, .bool c1]), (k4.heap.size, [.string t0, .bool c0]), (w.heap.size + 2, [.string ⟨#[]⟩, .bool false]), (w.heap.size + 1, ks .u64 (List.replicate 4 0)), (w.heap.size, [.string s, .bool b])]) := Kept.below M6.out hb
  have T7 : Hid (w.heap.size + 2 < k7.heap.size) := Nat.lt_of_lt_of_le HS6.out hb.size
  clear hb M6 HS6 C4
  go_wp2_with (first | refine blk_alloc rfl 97 [.string ⟨#[]⟩, .bool false] rfl Try.info_rr ?_)
  intro w7 A B Z
  go_wp2_with (first | refine blk_store rfl 97 _ _ rfl k7.heap.size rfl [.string t3, .bool c3] rfl _ A rfl Try.size_rr rfl ?_)
  intro u7 A' U
  have M7 : Hid (Kept w u7 [(k7.heap.size, [.string t3, .bool c3]), (k6.heap.size, [.string t2, .bool c2]), (k5.heap.size, [.string t1, .bool c1]), (k4.heap.size, [.string t0, .bool c0]), (w.heap.size + 2, [.string ⟨#[]⟩, .bool false]), (w.heap.size + 1, ks .u64 (List.replicate 4 0)), (w.heap.size, [.string s, .bool b])]) := Kept.fresh N7.out B Z U A'
  have HS7 : Hid (w.heap.size + 2 < u7.heap.size) := by have h1 := T7.out; have h2 := U.size; show _ < _; omega
  have Q7 : Hid (w.heap.size + 2 < k7.heap.size) := T7
  clear A B Z A' U N7 T7
  go_wp2_with (first | refine arr_alloc rfl .u64 48 4 rfl Try.info_r ?_)
  intro v1 A B Z
  go_wp2_with (first | refine arr_store rfl .u64 48 _ _ rfl u7.heap.size rfl [n0, n1, n2, n3] rfl _ A rfl Try.size_r ?_)
  intro v2 A' U
  have M8 : Hid (Kept w v2 [(u7.heap.size, ks .u64 [n0, n1, n2, n3]), (k7.heap.size, [.string t3, .bool c3]), (k6.heap.size, [.string t2, .bool c2]), (k5.heap.size, [.string t1, .bool c1]), (k4.heap.size, [.string t0, .bool c0]), (w.heap.size + 2, [.string ⟨#[]⟩, .bool false]), (w.heap.size + 1, ks .u64 (List.replicate 4 0)), (w.heap.size, [.string s, .bool b])]) := Kept.fresh M7.out B Z U (Arr.blk A')
  clear A B Z A' U M7
  have hab := HS7.out
  have hrb := Q7.out
  have cb := (Kept.get M8.out 1 rfl).cell 1 (.bool c3) rfl
  clear Q4 Q5 Q6 Q7
  cases c3 with
  | true =>
    have hg := HG.out
    rw [if_pos (Or.inl rfl)] at hg
    simp only [Prod.mk.injEq] at hg
    obtain ⟨rfl, rfl, rfl⟩ := hg
    go_wp2_with (first | refine arr_store rfl .u64 48 _ _ rfl (w.heap.size + 1) rfl V.zeros rfl _ (Kept.arr M8.out 6 rfl) rfl Try.size_r ?_)
    intro u A U
    have HA9 : Hid (Arr .u64 u (w.heap.size + 1) V.zeros) := A
    have HC9 : Hid (Blk u (w.heap.size + 2) [.string ⟨#[]⟩, .bool false]) := Blk.upd (Kept.get M8.out 5 rfl) U (by omega)
    have HW9 : Hid (Below w.heap.size w u) := Below.trans M8.out.under (U.below (by omega))
    clear A U
    go_wp2_with (first | refine blk_store rfl 97 _ _ rfl (w.heap.size + 2) rfl [.string ⟨#[]⟩, .bool true] rfl _ HC9.out rfl Try.size_rr rfl ?_)
    intro v B UV
    have HB9 : Hid (Blk v (w.heap.size + 2) [.string ⟨#[]⟩, .bool true]) := B
    have HV9 : Hid (Arr .u64 v (w.heap.size + 1) V.zeros) := Arr.upd HA9.out UV (by omega)
    have HE9 : Hid (Below w.heap.size w v) := Below.trans HW9.out (UV.below (by omega))
    clear B UV
    go_wp2_with fail
    refine bodyPost_ret (v := .tuple #[AV .u64 V.zeros, .agg #[.string ⟨#[]⟩, .bool true]]) ?_ rfl ⟨rfl, HE9.out⟩
    exact res_arr_blk Try.results71 _ .u64 (w.heap.size + 1) (w.heap.size + 2) rfl rfl V.zeros HV9.out 4 26 Try.underlying48 Try.size_r _ HB9.out _ Try.underlying97 rfl Try.size_rr
  | false =>
    have CR := Lib.hid (fun w => ref_right [n0, n1, n2, n3] w rfl)
    cases hr : V.right [n0, n1, n2, n3] with
    | false =>
      rw [hr] at CR
      have hg := HG.out
      rw [if_pos (Or.inr hr)] at hg
      simp only [Prod.mk.injEq] at hg
      obtain ⟨rfl, rfl, rfl⟩ := hg
      clear hr
      go_wp2_with (first | refine arr_loadg rfl .u64 48 _ rfl (u7.heap.size) rfl [n0, n1, n2, n3] (Kept.arr M8.out 0 rfl) 4 26 Try.underlying48 Try.size_r ?_)
      refine (CR.out v2).mono ?_; rintro e v3 ⟨rfl, hb⟩
      have M9 : Hid (Kept w v3 [(u7.heap.size, ks .u64 [n0, n1, n2, n3]), (k7.heap.size, [.string t3, .bool false]), (k6.heap.size, [.string t2, .bool c2]), (k5.heap.size, [.string t1, .bool c1]), (k4.heap.size, [.string t0, .bool c0]), (w.heap.size + 2, [.string ⟨#[]⟩, .bool false]), (w.heap.size + 1, ks .u64 (List.replicate 4 0)), (w.heap.size, [.string s, .bool b])]) := Kept.below M8.out hb
      clear hb M8
      go_wp2_with (first | refine arr_store rfl .u64 48 _ _ rfl (w.heap.size + 1) rfl V.zeros rfl _ (Kept.arr M9.out 6 rfl) rfl Try.size_r ?_)
      intro u A U
      have HA9 : Hid (Arr .u64 u (w.heap.size + 1) V.zeros) := A
      have HC9 : Hid (Blk u (w.heap.size + 2) [.string ⟨#[]⟩, .bool false]) := Blk.upd (Kept.get M9.out 5 rfl) U (by omega)
      have HW9 : Hid (Below w.heap.size w u) := Below.trans M9.out.under (U.below (by omega))
      clear A U
      go_wp2_with (first | refine blk_store rfl 97 _ _ rfl (w.heap.size + 2) rfl [.string ⟨#[]⟩, .bool true] rfl _ HC9.out rfl Try.size_rr rfl ?_)
      intro v B UV
      have HB9 : Hid (Blk v (w.heap.size + 2) [.string ⟨#[]⟩, .bool true]) := B
      have HV9 : Hid (Arr .u64 v (w.heap.size + 1) V.zeros) := Arr.upd HA9.out UV (by omega)
      have HE9 : Hid (Below w.heap.size w v) := Below.trans HW9.out (UV.below (by omega))
      clear B UV
      go_wp2_with fail
      refine bodyPost_ret (v := .tuple #[AV .u64 V.zeros, .agg #[.string ⟨#[]⟩, .bool true]]) ?_ rfl ⟨rfl, HE9.out⟩
      exact res_arr_blk Try.results71 _ .u64 (w.heap.size + 1) (w.heap.size + 2) rfl rfl V.zeros HV9.out 4 26 Try.underlying48 Try.size_r _ HB9.out _ Try.underlying97 rfl Try.size_rr
    | true =>
      rw [hr] at CR
      have hg := HG.out
      rw [if_neg (by simp [hr])] at hg
      simp only [Prod.mk.injEq] at hg
      obtain ⟨rfl, rfl, rfl⟩ := hg
      clear hr
      go_wp2_with (first | refine arr_loadg rfl .u64 48 _ rfl (u7.heap.size) rfl [n0, n1, n2, n3] (Kept.arr M8.out 0 rfl) 4 26 Try.underlying48 Try.size_r ?_)
      refine (CR.out v2).mono ?_; rintro e v3 ⟨rfl, hb⟩
      have M9 : Hid (Kept w v3 [(u7.heap.size, ks .u64 [n0, n1, n2, n3]), (k7.heap.size, [.string t3, .bool false]), (k6.heap.size, [.string t2, .bool c2]), (k5.heap.size, [.string t1, .bool c1]), (k4.heap.size, [.string t0, .bool c0]), (w.heap.size + 2, [.string ⟨#[]⟩, .bool false]), (w.heap.size + 1, ks .u64 (List.replicate 4 0)), (w.heap.size, [.string s, .bool b])]) := Kept.below M8.out hb
      clear hb M8 cb CR
      obtain ⟨p, HP⟩ : ∃ p, Hid (u7.heap.size = p) := ⟨_, rfl⟩
      obtain ⟨q, HQ⟩ : ∃ q, Hid (k7.heap.size = q) := ⟨_, rfl⟩
      have HAv : Hid (Arr .u64 v3 p [n0, n1, n2, n3]) := by rw [← HP.out]; exact Kept.arr M9.out 0 rfl
      have HRv : Hid (Blk v3 q [.string t3, .bool false]) := by rw [← HQ.out]; exact Kept.get M9.out 1 rfl
      have HF4 : Hid (Arr .u64 v3 (w.heap.size + 1) (List.replicate 4 0)) := Kept.arr M9.out 6 rfl
      have HC4 : Hid (Blk v3 (w.heap.size + 2) [.string ⟨#[]⟩, .bool false]) := Kept.get M9.out 5 rfl
      have HW4 : Hid (Below w.heap.size w v3) := M9.out.under
      rw [HP.out] at hab ⊢
      rw [HQ.out] at hrb ⊢
      clear M9 HP HQ HG
      have a0 := HAv.out.cell 0 (by simp)
      have a1 := HAv.out.cell 1 (by simp)
      have a2 := HAv.out.cell 2 (by simp)
      have a3 := HAv.out.cell 3 (by simp)
      have o00 := HF4.out.cell 0 (by simp)
      have o01 := HF4.out.cell 1 (by simp)
      have o02 := HF4.out.cell 2 (by simp)
      have o03 := HF4.out.cell 3 (by simp)
      have f0 := HF4.out.free 0 (by simp)
      have f1 := HF4.out.free 1 (by simp)
      have f2 := HF4.out.free 2 (by simp)
      have f3 := HF4.out.free 3 (by simp)
      have r0 := HRv.out.cell 0 _ rfl
      have r1 := HRv.out.cell 1 _ rfl
      have o0 := HC4.out.cell 0 _ rfl
      have o1 := HC4.out.cell 1 _ rfl
      have g0 := HC4.out.free 0 (by simp)
      have g1 := HC4.out.free 1 (by simp)
      have d1 : p ≠ w.heap.size + 1 := by omega
      have d2 : p ≠ w.heap.size + 2 := by omega
      have d3 : q ≠ w.heap.size + 1 := by omega
      have d4 : q ≠ w.heap.size + 2 := by omega
      clear hab hrb
      simp only [List.getD_cons_zero, List.getD_cons_succ, List.replicate, List.getD_cons_zero] at a0 a1 a2 a3 o00 o01 o02 o03
      go_wp2_with fail
      go_region
      all_goals
        have U9 : Upd (w.heap.size + 1) v3 (v3.setCells (w.heap.size + 1) 0 (ks .u64 [n0, n1, n2, n3])) := Upd.setCells _ _ _ _
        have HA9 : Arr .u64 (v3.setCells (w.heap.size + 1) 0 (ks .u64 [n0, n1, n2, n3])) (w.heap.size + 1) [n0, n1, n2, n3] := HF4.out.store [n0, n1, n2, n3] rfl
        have HC9 : Blk (v3.setCells (w.heap.size + 1) 0 (ks .u64 [n0, n1, n2, n3])) (w.heap.size + 2) [.string ⟨#[]⟩, .bool false] := Blk.upd HC4.out U9 (by omega)
        have U10 : Upd (w.heap.size + 2) _ ((v3.setCells (w.heap.size + 1) 0 (ks .u64 [n0, n1, n2, n3])).setCells (w.heap.size + 2) 0 [.string t3, .bool false]) := Upd.setCells _ _ _ _
        have HB10 : Hid (Blk ((v3.setCells (w.heap.size + 1) 0 (ks .u64 [n0, n1, n2, n3])).setCells (w.heap.size + 2) 0 [.string t3, .bool false]).drew (w.heap.size + 2) [.string t3, .bool false]) := (HC9.store [.string t3, .bool false] rfl).drew
        have HA10 : Hid (Arr .u64 ((v3.setCells (w.heap.size + 1) 0 (ks .u64 [n0, n1, n2, n3])).setCells (w.heap.size + 2) 0 [.string t3, .bool false]).drew (w.heap.size + 1) [n0, n1, n2, n3]) := (Arr.upd HA9 U10 (by omega)).drew
        have HW10 : Hid (Below w.heap.size w ((v3.setCells (w.heap.size + 1) 0 (ks .u64 [n0, n1, n2, n3])).setCells (w.heap.size + 2) 0 [.string t3, .bool false]).drew) := ((Below.trans HW4.out (U9.below (by omega))).trans (U10.below (by omega))).drew
        clear U9 HA9 HC9 U10 a0 a1 a2 a3 f0 f1 f2 f3 r0 r1 o0 o1 g0 g1 o00 o01 o02 o03
        go_wp2_with fail
        refine bodyPost_ret (v := .tuple #[AV .u64 [n0, n1, n2, n3], .agg #[.string t3, .bool false]]) ?_ rfl ⟨rfl, HW10.out⟩
        exact res_arr_blk Try.results71 _ .u64 (w.heap.size + 1) (w.heap.size + 2) rfl rfl [n0, n1, n2, n3] HA10.out 4 26 Try.underlying48 Try.size_r _ HB10.out _ Try.underlying97 rfl Try.size_rr
end Go.Proofs.Ytkfcbihofipcbaa.Vc
