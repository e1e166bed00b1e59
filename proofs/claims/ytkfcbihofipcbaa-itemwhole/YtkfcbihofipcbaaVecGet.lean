/- vec: Get. -/
import Derived.Test.YtkfcbihofipcbaaVecOps

import Derived.Test.YtkfcbihofipcbaaPackGet

namespace Go.Proofs.Ytkfcbihofipcbaa.Vc

open Go.RowKit

set_option linter.unusedVariables false

set_option linter.unusedSimpArgs false

set_option maxRecDepth 100000

theorem Try.info_rd : (Try.prog.info? 94).map (fun i => (i.zero, i.size)) = some (some (.agg [Value.string ⟨#[]⟩, .bool false].toArray), 2) := by kernel_rfl
theorem Try.size_rd : (Try.prog.info? 94).map (·.size) = some 2 := by kernel_rfl
theorem set_last (l : List Nat) (k n : Nat) (hk : 0 < k) : (l ++ List.replicate k 0).set l.length n = (l ++ [n]) ++ List.replicate (k - 1) 0 := by
  obtain ⟨m, rfl⟩ : ∃ m, k = m + 1 := ⟨k - 1, by omega⟩
  rw [List.set_append_right _ _ (Nat.le_refl _), Nat.sub_self, List.replicate_succ]
  simp
set_option maxHeartbeats 2000000 in
theorem get_any (s : ByteArray) (b : Bool) (l : List Nat) (t : ByteArray) (b' : Bool) (w : World) (hs : s.size ≤ maxLen) (h : V.gets s b = (l, t, b')) :
    Calls Try.prog 75 #[.agg #[.string s, .bool b]] w fun e w' => e = .returned (.tuple #[AV .u64 l, .agg #[.string t, .bool b']]) ∧ Below w.heap.size w w' := by
  have HG : Hid _ := h
  have HS : Hid _ := hs
  clear h hs
  go_enter Try.func75, Try.ntmps75
  go_wp2_with (first | refine blk_box rfl 94 _ rfl [.string s, .bool b] rfl ?_)
  intro w1 A1 B1 Z1
  go_wp2_with (first | refine arr_alloc rfl .u64 28 4 rfl Try.info_v ?_)
  intro w2 A2 B2 Z2
  go_wp2_with (first | refine blk_alloc rfl 94 [.string ⟨#[]⟩, .bool false] rfl Try.info_rd ?_)
  intro w3 A3 B3 Z3
  have HA3 : Hid (Blk w3 w.heap.size [.string s, .bool b]) := (A1.below B2 (by omega)).below B3 (by omega)
  have HB3 : Hid (Arr .u64 w3 (w.heap.size + 1) ([] ++ List.replicate (4 - 0) 0)) := A2.below B3 (by omega)
  have HC3 : Hid (Blk w3 (w.heap.size + 2) [.string ⟨#[]⟩, .bool false]) := A3
  have HW3 : Hid (Below w.heap.size w w3) := B1.trans ((B2.mono (by omega)).trans (B3.mono (by omega)))
  have HZ3 : Hid (w.heap.size + 2 < w3.heap.size) := by show _ < _; omega
  clear A1 B1 A2 B2 A3 B3 Z1 Z2 Z3
  go_wp2_with fail
  go_loopw [5] (fun i wr => ∃ (j : Nat) (m : List Nat) (s1 : ByteArray) (b1 : Bool), j ≤ 4 ∧ i = .int .i64 j ∧ Hid (m.length = j) ∧ Hid (V.rd 4 s b = (m ++ (V.rd (4 - j) s1 b1).1, (V.rd (4 - j) s1 b1).2)) ∧ Hid (s1.size ≤ maxLen) ∧ Hid (Blk wr w.heap.size [.string s1, .bool b1]) ∧ Hid (Arr .u64 wr (w.heap.size + 1) (m ++ List.replicate (4 - j) 0)) ∧ Hid (Blk wr (w.heap.size + 2) [.string ⟨#[]⟩, .bool false]) ∧ Hid (Below w.heap.size w wr) ∧ Hid (w.heap.size + 2 < wr.heap.size)) (fun i _ => 4 - (intOf i).toNat)
  case atStart => exact ⟨0, [], s, b, by omega, rfl, rfl, rfl, HS, HA3, HB3, HC3, HW3, HZ3⟩
  case round =>
    obtain ⟨j, m, s1, b1, hj, rfl, HM, HR, HS1, HAr, HBr, HCr, HWr, HZr⟩ := hrel
    clear HA3 HB3 HC3 HW3 HZ3
    by_cases hlt : j < 4
    · have ilt : (j : Int) < 4 := by omega
      rcases hv : P.RV s1 b1 with ⟨n, t1, b2⟩
      have C : Hid _ := fun w => Pk.rvary_any s1 b1 n t1 b2 w HS1.out hv
      have HSZ : Hid (t1.size ≤ maxLen) := Nat.le_trans (V.RV_size s1 b1 n t1 b2 hv).1 HS1.out
      have HR' : Hid (V.rd 4 s b = ((m ++ [n]) ++ (V.rd (4 - (j + 1)) t1 b2).1, (V.rd (4 - (j + 1)) t1 b2).2)) := by
        show _ = _
        rw [HR.out, show 4 - j = (4 - (j + 1)) + 1 by omega, V.rd, hv]
        simp
      clear hv
      have HL : Hid ((m ++ List.replicate (4 - j) 0).length = 4) := by have := HM.out; show _ = _; simp; omega
      have HSET : Hid ((m ++ List.replicate (4 - j) 0).set j n = (m ++ [n]) ++ List.replicate (4 - (j + 1)) 0) := by
        have h := set_last m (4 - j) n (by omega)
        rw [HM.out, show 4 - j - 1 = 4 - (j + 1) by omega] at h
        exact h
      go_wp2_with (first | refine blk_load rfl 94 _ rfl w.heap.size rfl [.string s1, .bool b1] HAr.out _ Try.underlying94 rfl Try.size_rd ?_)
      refine (C.out wr).mono ?_; rintro e w4 ⟨rfl, hb4⟩
      have hz4 := hb4.size
      have hzr := HZr.out
      have HA4 : Hid (Arr .u64 w4 (w.heap.size + 1) (m ++ List.replicate (4 - j) 0)) := Arr.below HBr.out hb4 (by omega)
      have cr := HA4.out.cell j (by rw [HL.out]; exact hlt)
      have fr := HA4.out.free j (by rw [HL.out]; exact hlt)
      have HX : Hid (Arr .u64 (w4.setCell ⟨w.heap.size + 1, j, none⟩ (.int .u64 (n : Int))) (w.heap.size + 1) ((m ++ [n]) ++ List.replicate (4 - (j + 1)) 0)) := by
        have h := HA4.out.set j n (by rw [HL.out]; exact hlt)
        rw [HSET.out] at h
        exact h
      have U4 : Upd (w.heap.size + 1) w4 (w4.setCell ⟨w.heap.size + 1, j, none⟩ (.int .u64 (n : Int))) := Upd.setCell _ _ _ _
      have HR4 : Hid (Blk (w4.setCell ⟨w.heap.size + 1, j, none⟩ (.int .u64 (n : Int))) w.heap.size [.string s1, .bool b1]) := Blk.upd (Blk.below HAr.out hb4 (by omega)) U4 (by omega)
      have HC4 : Hid (Blk (w4.setCell ⟨w.heap.size + 1, j, none⟩ (.int .u64 (n : Int))) (w.heap.size + 2) [.string ⟨#[]⟩, .bool false]) := Blk.upd (Blk.below HCr.out hb4 (by omega)) U4 (by omega)
      have HW4 : Hid (Below w.heap.size w (w4.setCell ⟨w.heap.size + 1, j, none⟩ (.int .u64 (n : Int)))) := (Below.trans HWr.out (hb4.mono HWr.out.size)).trans (U4.below (by omega))
      have HZ4 : Hid (w.heap.size + 2 < (w4.setCell ⟨w.heap.size + 1, j, none⟩ (.int .u64 (n : Int))).heap.size) := by show _ < _; rw [U4.size]; omega
      generalize (m ++ List.replicate (4 - j) 0).getD j 0 = old at cr
      have HN : Hid ((m ++ [n]).length = j + 1) := by show _ = _; rw [List.length_append, HM.out]; rfl
      clear hb4 U4 hz4 hzr HAr HBr HCr HWr HZr HR HM HA4
      go_wp2_with (first | refine blk_store rfl 94 _ _ rfl w.heap.size rfl [.string t1, .bool b2] rfl _ HR4.out rfl Try.size_rd rfl ?_)
      intro u A U
      have HA9 : Hid (Blk u w.heap.size [.string t1, .bool b2]) := A
      have HX9 : Hid (Arr .u64 u (w.heap.size + 1) ((m ++ [n]) ++ List.replicate (4 - (j + 1)) 0)) := Arr.upd HX.out U (by omega)
      have HC9 : Hid (Blk u (w.heap.size + 2) [.string ⟨#[]⟩, .bool false]) := Blk.upd HC4.out U (by omega)
      have HW9 : Hid (Below w.heap.size w u) := Below.trans HW4.out (U.below (by omega))
      have HZ9 : Hid (w.heap.size + 2 < u.heap.size) := by show _ < _; rw [U.size]; exact HZ4.out
      clear A U cr fr
      go_wp2_with fail
      go_roundw
      case rel => exact ⟨j + 1, m ++ [n], t1, b2, by omega, by go_num, HN, HR', HSZ, HA9, HX9, HC9, HW9, HZ9⟩
      case measure => simp [intOf]; omega
    · obtain rfl : j = 4 := by omega
      have HR4 : Hid (V.rd 4 s b = (m, s1, b1)) := by
        have h := HR.out
        show V.rd 4 s b = (m, s1, b1)
        rw [h]
        show (m ++ (V.rd 0 s1 b1).1, (V.rd 0 s1 b1).2) = _
        simp [V.rd]
      have HF : Hid (Arr .u64 wr (w.heap.size + 1) m) := by
        have h := HBr.out
        show Arr .u64 wr (w.heap.size + 1) m
        simpa using h
      have HI : Hid _ := size_v HM.out
      have hzr := HZr.out
      clear HBr HR
      have cb := HAr.out.cell 1 (.bool b1) rfl
      cases b1 with
      | true =>
        have hg := HG.out
        unfold V.gets at hg
        rw [HR4.out, if_pos (Or.inl rfl)] at hg
        simp only [Prod.mk.injEq] at hg
        obtain ⟨rfl, rfl, rfl⟩ := hg
        go_wp2_with (first | refine arr_store rfl .u64 28 _ _ rfl (w.heap.size + 1) rfl V.zeros rfl _ HF.out (by rw [HM.out]; rfl) Try.size_v ?_)
        intro u A U
        have HA9 : Hid (Arr .u64 u (w.heap.size + 1) V.zeros) := A
        have HC9 : Hid (Blk u (w.heap.size + 2) [.string ⟨#[]⟩, .bool false]) := Blk.upd HCr.out U (by omega)
        have HW9 : Hid (Below w.heap.size w u) := Below.trans HWr.out (U.below (by omega))
        clear A U
        go_wp2_with (first | refine blk_store rfl 94 _ _ rfl (w.heap.size + 2) rfl [.string ⟨#[]⟩, .bool true] rfl _ HC9.out rfl Try.size_rd rfl ?_)
        intro v B UV
        have HB9 : Hid (Blk v (w.heap.size + 2) [.string ⟨#[]⟩, .bool true]) := B
        have HV9 : Hid (Arr .u64 v (w.heap.size + 1) V.zeros) := Arr.upd HA9.out UV (by omega)
        have HE9 : Hid (Below w.heap.size w v) := Below.trans HW9.out (UV.below (by omega))
        clear B UV
        go_wp2_with fail
        refine bodyPost_ret (v := .tuple #[AV .u64 V.zeros, .agg #[.string ⟨#[]⟩, .bool true]]) ?_ rfl ⟨rfl, HE9.out⟩
        exact res_arr_blk Try.results75 _ .u64 (w.heap.size + 1) (w.heap.size + 2) rfl rfl V.zeros HV9.out 4 26 Try.underlying28 Try.size_v _ HB9.out _ Try.underlying94 rfl Try.size_rd
      | false =>
        have CR : Hid _ := fun w => right_any m w HM.out
        cases hr : V.right m with
        | false =>
          rw [hr] at CR
          have hg := HG.out
          unfold V.gets at hg
          rw [HR4.out, if_pos (Or.inr hr)] at hg
          simp only [Prod.mk.injEq] at hg
          obtain ⟨rfl, rfl, rfl⟩ := hg
          clear hr
          go_wp2_with (first | refine arr_loadg rfl .u64 28 _ rfl (w.heap.size + 1) rfl m HF.out 4 26 Try.underlying28 HI.out ?_)
          refine (CR.out wr).mono ?_; rintro e w4 ⟨rfl, hb4⟩
          have hz4 := hb4.size
          have HF4 : Hid (Arr .u64 w4 (w.heap.size + 1) m) := Arr.below HF.out hb4 (by omega)
          have HC4 : Hid (Blk w4 (w.heap.size + 2) [.string ⟨#[]⟩, .bool false]) := Blk.below HCr.out hb4 (by omega)
          have HW4 : Hid (Below w.heap.size w w4) := Below.trans HWr.out (hb4.mono HWr.out.size)
          clear hb4
          go_wp2_with (first | refine arr_store rfl .u64 28 _ _ rfl (w.heap.size + 1) rfl V.zeros rfl _ HF4.out (by rw [HM.out]; rfl) Try.size_v ?_)
          intro u A U
          have HA9 : Hid (Arr .u64 u (w.heap.size + 1) V.zeros) := A
          have HC9 : Hid (Blk u (w.heap.size + 2) [.string ⟨#[]⟩, .bool false]) := Blk.upd HC4.out U (by omega)
          have HW9 : Hid (Below w.heap.size w u) := Below.trans HW4.out (U.below (by omega))
          clear A U
          go_wp2_with (first | refine blk_store rfl 94 _ _ rfl (w.heap.size + 2) rfl [.string ⟨#[]⟩, .bool true] rfl _ HC9.out rfl Try.size_rd rfl ?_)
          intro v B UV
          have HB9 : Hid (Blk v (w.heap.size + 2) [.string ⟨#[]⟩, .bool true]) := B
          have HV9 : Hid (Arr .u64 v (w.heap.size + 1) V.zeros) := Arr.upd HA9.out UV (by omega)
          have HE9 : Hid (Below w.heap.size w v) := Below.trans HW9.out (UV.below (by omega))
          clear B UV
          go_wp2_with fail
          refine bodyPost_ret (v := .tuple #[AV .u64 V.zeros, .agg #[.string ⟨#[]⟩, .bool true]]) ?_ rfl ⟨rfl, HE9.out⟩
          exact res_arr_blk Try.results75 _ .u64 (w.heap.size + 1) (w.heap.size + 2) rfl rfl V.zeros HV9.out 4 26 Try.underlying28 Try.size_v _ HB9.out _ Try.underlying94 rfl Try.size_rd
        | true =>
          rw [hr] at CR
          have hg := HG.out
          unfold V.gets at hg
          rw [HR4.out, if_neg (by simp [hr])] at hg
          simp only [Prod.mk.injEq] at hg
          obtain ⟨rfl, rfl, rfl⟩ := hg
          clear hr
          go_wp2_with (first | refine arr_loadg rfl .u64 28 _ rfl (w.heap.size + 1) rfl m HF.out 4 26 Try.underlying28 HI.out ?_)
          refine (CR.out wr).mono ?_; rintro e w4 ⟨rfl, hb4⟩
          have hz4 := hb4.size
          have HF4 : Hid (Arr .u64 w4 (w.heap.size + 1) m) := Arr.below HF.out hb4 (by omega)
          have HC4 : Hid (Blk w4 (w.heap.size + 2) [.string ⟨#[]⟩, .bool false]) := Blk.below HCr.out hb4 (by omega)
          have HA4 : Hid (Blk w4 w.heap.size [.string s1, .bool false]) := Blk.below HAr.out hb4 (by omega)
          have HW4 : Hid (Below w.heap.size w w4) := Below.trans HWr.out (hb4.mono HWr.out.size)
          clear hb4
          obtain ⟨x0, x1, x2, x3, rfl⟩ := V.four HM.out
          have a0 := HF4.out.cell 0 (by simp)
          have a1 := HF4.out.cell 1 (by simp)
          have a2 := HF4.out.cell 2 (by simp)
          have a3 := HF4.out.cell 3 (by simp)
          have f0 := HF4.out.free 0 (by simp)
          have f1 := HF4.out.free 1 (by simp)
          have f2 := HF4.out.free 2 (by simp)
          have f3 := HF4.out.free 3 (by simp)
          have r0 := HA4.out.cell 0 _ rfl
          have r1 := HA4.out.cell 1 _ rfl
          have o0 := HC4.out.cell 0 _ rfl
          have o1 := HC4.out.cell 1 _ rfl
          have g0 := HC4.out.free 0 (by simp)
          have g1 := HC4.out.free 1 (by simp)
          simp only [List.getD_cons_zero, List.getD_cons_succ] at a0 a1 a2 a3
          go_wp2_with fail
          go_region
          all_goals
            have U9 : Upd (w.heap.size + 1) w4 (w4.setCells (w.heap.size + 1) 0 (ks .u64 [x0, x1, x2, x3])) := Upd.setCells _ _ _ _
            have HA9 : Arr .u64 (w4.setCells (w.heap.size + 1) 0 (ks .u64 [x0, x1, x2, x3])) (w.heap.size + 1) [x0, x1, x2, x3] := HF4.out.store [x0, x1, x2, x3] rfl
            have HC9 : Blk (w4.setCells (w.heap.size + 1) 0 (ks .u64 [x0, x1, x2, x3])) (w.heap.size + 2) [.string ⟨#[]⟩, .bool false] := Blk.upd HC4.out U9 (by omega)
            have U10 : Upd (w.heap.size + 2) _ ((w4.setCells (w.heap.size + 1) 0 (ks .u64 [x0, x1, x2, x3])).setCells (w.heap.size + 2) 0 [.string s1, .bool false]) := Upd.setCells _ _ _ _
            have HB10 : Hid (Blk ((w4.setCells (w.heap.size + 1) 0 (ks .u64 [x0, x1, x2, x3])).setCells (w.heap.size + 2) 0 [.string s1, .bool false]).drew (w.heap.size + 2) [.string s1, .bool false]) := (HC9.store [.string s1, .bool false] rfl).drew
            have HA10 : Hid (Arr .u64 ((w4.setCells (w.heap.size + 1) 0 (ks .u64 [x0, x1, x2, x3])).setCells (w.heap.size + 2) 0 [.string s1, .bool false]).drew (w.heap.size + 1) [x0, x1, x2, x3]) := (Arr.upd HA9 U10 (by omega)).drew
            have HW10 : Hid (Below w.heap.size w ((w4.setCells (w.heap.size + 1) 0 (ks .u64 [x0, x1, x2, x3])).setCells (w.heap.size + 2) 0 [.string s1, .bool false]).drew) := ((Below.trans HW4.out (U9.below (by omega))).trans (U10.below (by omega))).drew
            clear U9 HA9 HC9 U10 a0 a1 a2 a3 f0 f1 f2 f3 r0 r1 o0 o1 g0 g1
            go_wp2_with fail
            refine bodyPost_ret (v := .tuple #[AV .u64 [x0, x1, x2, x3], .agg #[.string s1, .bool false]]) ?_ rfl ⟨rfl, HW10.out⟩
            exact res_arr_blk Try.results75 _ .u64 (w.heap.size + 1) (w.heap.size + 2) rfl rfl [x0, x1, x2, x3] HA10.out 4 26 Try.underlying28 Try.size_v _ HB10.out _ Try.underlying94 rfl Try.size_rd
end Go.Proofs.Ytkfcbihofipcbaa.Vc
