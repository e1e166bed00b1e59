/- The document's own answer: Sum. -/
import Derived.Test.YtlodahlinncpcaaDoorShaRefBlock
import Derived.Test.YtlodahlinncpcaaDoorShaRefPad
import Derived.Test.YtlodahlinncpcaaDoorShaSpell
import Derived.Test.YtlodahlinncpcaaDoorShaStill
import Derived.Deep.RegionHeld3
namespace Go.Proofs.YtlodahlinncpcaaDoor
open Go.RowKit
set_option linter.unusedVariables false
set_option linter.unusedSimpArgs false
theorem Tryd.mixed : Tryd.prog.follows .mixedOrders = true := by kernel_rfl
theorem alls_size (s : ByteArray) : (s ++ S (Q.pad s.size)).size = s.size + (Q.pad s.size).length := by rw [ByteArray.size_append, S_size]
theorem alls_list (s : ByteArray) : (s ++ S (Q.pad s.size)).data.toList = s.data.toList ++ Q.pad s.data.toList.length := by
  rw [ByteArray.data_append, Array.toList_append, S_list, len_list]
theorem slices_list (s : ByteArray) (a : Nat) : (s.extract a (a + 64)).data.toList = (s.data.toList.drop a).take 64 := by
  rw [extract_list, List.drop_take, Nat.add_sub_cancel_left]
/-- a drawn region: what only reads first, the tail in its order; the world behind the draw a letter -/
theorem region_tail {P : Program} {id : Nat} {Q : Exit → Act → World → Prop} {a : Act} {w : World} {l : List Oper} (n : Nat) (hm : P.follows .mixedOrders = true) (hB : Region.lexTailB .any l.toArray n = true)
    (h : wpStill P l.toArray w.drew (fun a' => wpList P l.toArray Q (l.drop n) a' w.drew) (l.take n) a) : (Code.region id l.toArray true).wp P Q a w :=
  wp_region_still_tail n hm hB h
set_option maxHeartbeats 4000000 in
set_option maxRecDepth 100000 in
theorem ref_sum (s : ByteArray) (w : World) (hs : s.size ≤ 140737488355000) :
    Calls Tryd.prog 14 #[.string s] w fun e w' => e = .returned (.string (S (Q.sum s.data.toList))) ∧ Below w.heap.size w w' := by
  have CP : Hid _ := fun w => ref_pad s.size w (by omega)
  have hp := Q.pad_length s.size
  have hpw := Q.pad_whole s.size
  have hpz : Q.zeros s.size < 64 := Nat.mod_lt _ (by omega)
  have hal := alls_size s
  obtain ⟨N, hN⟩ : ∃ N, N = (s ++ S (Q.pad s.size)).size / 64 := ⟨_, rfl⟩
  have hNs : (s ++ S (Q.pad s.size)).size = 64 * N := by omega
  have HSUM : Hid (Q.sum s.data.toList = Q.spell (Q.blocks N Q.start (s ++ S (Q.pad s.size)).data.toList)) := by
    show _ = _
    rw [alls_list, Q.sum, hN, hal, len_list]
  have hpp : (S (Q.pad s.size)).size ≤ 72 := by rw [S_size]; omega
  have hms : (s ++ S (Q.pad s.size)).size ≤ 140737488355328 := by omega
  have hsw : IntKind.u64.wrap (s.size : Int) = (s.size : Int) := by rw [IntKind.wrap_u64]; omega
  have HKL : Hid _ := Q.K_length
  have HIK : Hid ((Tryd.prog.info? 65).map (·.size) = some Q.K.length) := by show _ = _; rw [HKL.out]; exact Tryd.size_a64
  have CT : Hid _ := table_any
  have CB : Hid _ := fun l t w => ref_block l t w
  obtain ⟨KK, HKK⟩ : ∃ r, Hid (Q.K = r) := ⟨_, rfl⟩
  rw [HKK.out] at HIK HKL CT CB
  clear hal hN hp hpw hpz
  generalize S (Q.pad s.size) = pp at *
  obtain ⟨al, HAL⟩ : ∃ al, Hid (s ++ pp = al) := ⟨_, rfl⟩
  rw [HAL.out] at HSUM hms hNs
  have hal : s ++ pp = al := HAL.out
  have HNS : Hid _ := hNs
  clear hNs
  go_enter Tryd.func14, Tryd.ntmps14
  go_wp2_with fail
  refine (CP.out _).mono ?_; rintro e w1 ⟨rfl, hb1⟩
  go_wp2_with fail
  refine (CT.out _).mono ?_; rintro e w2 ⟨rfl, hb2⟩
  have HB2 : Hid (Below w.heap.size w w2) := hb1.trans (hb2.mono hb1.size)
  clear hb1 hb2 hal hsw CP CT
  go_wp2_with (first | refine arr_alloc rfl .u32 65 64 rfl Tryd.info_a64 ?_)
  intro w3 A3 B3 Z3
  go_wp2_with (first | refine arr_store rfl .u32 65 _ _ rfl w2.heap.size rfl KK rfl _ A3 (by rw [HKL.out]; rfl) HIK.out ?_)
  intro w4 A4 U4
  have HB4 : Hid (Below w.heap.size w w4) := Below.trans HB2.out ((B3.mono HB2.out.size).trans (U4.below HB2.out.size))
  have HK4 : Hid (Arr .u32 w4 w2.heap.size KK) := A4
  have z4 : w4.heap.size = w2.heap.size + 1 := by have := U4.size; omega
  have z2 := HB2.out.size
  clear A3 B3 Z3 A4 U4 HB2
  go_wp2_with fail
  refine (ref_start _).mono ?_; rintro e w5 ⟨rfl, hb5⟩
  have HB5 : Hid (Below w.heap.size w w5) := Below.trans HB4.out (hb5.mono HB4.out.size)
  have HK5 : Hid (Arr .u32 w5 w2.heap.size KK) := Arr.below HK4.out hb5 (by omega)
  have z5 := hb5.size
  clear hb5 HB4 HK4
  go_wp2_with (first | refine arr_alloc rfl .u32 26 8 rfl Tryd.info_a8 ?_)
  intro w6 A6 B6 Z6
  go_wp2_with (first | (refine arr_store rfl .u32 26 _ _ rfl w5.heap.size rfl Q.start rfl _ A6 rfl Tryd.size_a8 ?_))
  intro w7 A7 U7
  have HA7 : Hid (Arr .u32 w7 w5.heap.size Q.start) := A7
  have HK7 : Hid (Arr .u32 w7 w2.heap.size KK) := Arr.upd (Arr.below HK5.out B6 (by omega)) U7 (by omega)
  have HB7 : Hid (Below w.heap.size w w7) := Below.trans HB5.out ((B6.mono HB5.out.size).trans (U7.below HB5.out.size))
  have z7 : w5.heap.size + 1 ≤ w7.heap.size := by have := U7.size; omega
  have hbk : w2.heap.size < w5.heap.size := by omega
  have hwk : w.heap.size ≤ w2.heap.size := by omega
  clear A6 B6 Z6 A7 U7 HB5 HK5 z4 z5 z2
  generalize w2.heap.size = bk at *
  generalize w5.heap.size = bs at *
  go_wp2_with fail
  go_loopw [5] (fun i wr => ∃ (j : Nat) (st : List Nat), j ≤ N ∧ i = .int .i64 (64 * j : Nat) ∧ Hid (Q.Ok8 st) ∧ Hid (Q.blocks (N - j) st (al.data.toList.drop (64 * j)) = Q.blocks N Q.start al.data.toList) ∧ Hid (Arr .u32 wr bk KK) ∧ Hid (Arr .u32 wr bs st) ∧ Hid (Below w.heap.size w wr) ∧ bs + 1 ≤ wr.heap.size) (fun i _ => 64 * N - (intOf i).toNat)
  case atStart => exact ⟨0, Q.start, by omega, by go_num, Q.start_ok, rfl, HK7, HA7, HB7, z7⟩
  case round =>
    clear HA7 HK7 HB7 z7
    obtain ⟨j, st, hj, rfl, HO, HE, HK, HA, HB, hzr⟩ := hrel
    by_cases hlt : j < N
    · have hle : ((64 * j : Nat) : Int) + 64 ≤ (al.size : Int) := by have := HNS.out; omega
      have e64 : (al.extract (64 * j) (64 * j + 64)).size = 64 := by have := HNS.out; rw [ByteArray.size_extract]; omega
      have eh := slices_list al (64 * j)
      have HOY : Hid (Q.Ok8 (Q.block st (al.extract (64 * j) (64 * j + 64)).data.toList)) := Q.block_ok _ _ HO.out
      have HE' : Hid (Q.blocks (N - (j + 1)) (Q.block st (al.extract (64 * j) (64 * j + 64)).data.toList) (al.data.toList.drop (64 * (j + 1))) = Q.blocks N Q.start al.data.toList) := by
        show _ = _
        rw [← HE.out, show N - j = (N - (j + 1)) + 1 by omega, Q.blocks, ← eh, List.drop_drop, show 64 * j + 64 = 64 * (j + 1) by omega]
      have C : Hid _ := fun w => CB.out st (al.extract (64 * j) (64 * j + 64)) w HO.out e64
      obtain ⟨st', HST⟩ : ∃ r, Hid (Q.block st (al.extract (64 * j) (64 * j + 64)).data.toList = r) := ⟨_, rfl⟩
      rw [HST.out] at HOY HE' C
      have HLT : Hid (j < N) := hlt
      clear eh e64 HE hlt
      obtain ⟨q, hq⟩ : ∃ q, q = 64 * j := ⟨_, rfl⟩
      rw [← hq] at hle C
      rw [show (64 * j : Nat) = q from hq.symm]
      obtain ⟨r, hr⟩ : ∃ r, r = q + 64 := ⟨_, rfl⟩
      rw [← hr] at C
      have er : (q : Int) + 64 = (r : Int) := by omega
      have hr1 : (r : Int) ≤ (al.size : Int) := by omega
      have hr2 : (q : Int) ≤ (r : Int) := by omega
      have hr3 : r ≤ al.size := by omega
      have hr4 : q ≤ r := by omega
      have hqi : (q : Int) ≤ (al.size : Int) := by omega
      have hq0 : q ≤ al.size := by omega
      have vr : IntKind.i64.wrap (r : Int) = r := IntWalk.i64_in _ ⟨by omega, by omega⟩
      have vq : IntKind.i64.wrap (q : Int) = q := IntWalk.i64_in _ ⟨by omega, by omega⟩
      have HRR : Hid _ := hr
      clear hle hr
      have hms' : (al.size : Int) ≤ 140737488355328 := by omega
      have HQ : Hid _ := hq
      clear hq
      have HI : Hid ((Tryd.prog.info? 26).map (·.size) = some st.length) := by show _ = _; rw [HO.out.1]; exact Tryd.size_a8
      have HI' : Hid ((Tryd.prog.info? 26).map (·.size) = some st'.length) := by show _ = _; rw [HOY.out.1]; exact Tryd.size_a8
      have HLL : Hid (st'.length = st.length) := by show _ = _; rw [HO.out.1, HOY.out.1]
      have HAd : Hid (Arr .u32 wr.drew bs st) := Arr.drew HA.out
      have HKd : Hid (Arr .u32 wr.drew bk KK) := Arr.drew HK.out
      have HBd : Hid (Below w.heap.size w wr.drew) := Below.drew HB.out
      have hzd : bs + 1 ≤ wr.drew.heap.size := hzr
      go_wp2_with fail
      refine region_tail 7 Tryd.mixed (by kernel_rfl) ?_
      generalize wr.drew = u at *
      clear HA HK HB hzr
      simp only [List.take_succ_cons, List.take_zero, List.drop_succ_cons, List.drop_zero]
      refine still_arr_load rfl .u32 26 _ rfl bs rfl st HAd.out 8 25 Tryd.underlying26 HI.out ?_
      still_step
      still_step
      still_step
      still_step
      still_step
      refine still_arr_load rfl .u32 65 _ rfl bk rfl KK HKd.out 64 25 Tryd.underlying65 HIK.out ?_
      refine wpStill_nil ?_
      go_wp2_with fail
      refine (C.out _).mono ?_; rintro e u2 ⟨rfl, hb2⟩
      have HA2 : Hid (Arr .u32 u2 bs st) := Arr.below HAd.out hb2 (by omega)
      have HK2 : Hid (Arr .u32 u2 bk KK) := Arr.below HKd.out hb2 (by omega)
      have HB2 : Hid (Below w.heap.size w u2) := Below.trans HBd.out (hb2.mono HBd.out.size)
      have hz2 := hb2.size
      clear hb2 HAd HKd HBd
      go_wp2_with (first | refine arr_store rfl .u32 26 _ _ rfl bs rfl st' rfl st HA2.out HLL.out HI'.out ?_)
      intro u3 A3 U3
      have HA3 : Hid (Arr .u32 u3 bs st') := A3
      have HK3 : Hid (Arr .u32 u3 bk KK) := Arr.upd HK2.out U3 (by omega)
      have HB3 : Hid (Below w.heap.size w u3) := Below.trans HB2.out (U3.below (by omega))
      have hz3 := U3.size
      clear A3 U3 HA2 HK2 HB2
      go_wp2_with fail
      go_roundw
      case rel =>
        have e1 := HRR.out
        have e2 := HQ.out
        have e3 := HLT.out
        exact ⟨j + 1, st', by omega, by go_num, HOY, HE', HK3, HA3, HB3, by omega⟩
      case measure =>
        have e1 := HRR.out
        have e2 := HQ.out
        have e3 := HLT.out
        simp [intOf]; omega
    · obtain rfl : j = N := by omega
      obtain ⟨q, hq⟩ : ∃ q, q = 64 * j := ⟨_, rfl⟩
      have hlt' : ¬ ((q : Int) + 64 ≤ (al.size : Int)) := by have := HNS.out; omega
      have hqs : q ≤ 140737488355328 := by have := HNS.out; omega
      have HBL : Hid (st = Q.blocks j Q.start al.data.toList) := by
        have h := HE.out
        rw [Nat.sub_self] at h
        exact h
      rw [← HBL.out] at HSUM
      have HO2 : Hid (OB wr w.heap.size (.slice none 0 0) (Q.spell (st.take 0))) := ⟨rfl, .inl ⟨rfl, rfl⟩⟩
      have H8 : Hid _ := HO.out.1
      have hwz : w.heap.size ≤ wr.heap.size := HB.out.size
      rw [show (64 * j : Nat) = q from hq.symm]
      clear HK HE HBL hlt hq
      go_wp2_with fail
      clear hlt' hqs
      go_loopw [7, 6] (fun i v wr => ∃ t : Nat, t ≤ 8 ∧ i = .int .i64 t ∧ Hid (OB wr (bs + 1) v (Q.spell (st.take t))) ∧ Hid (Arr .u32 wr bs st) ∧ Hid (Below w.heap.size w wr) ∧ bs + 1 ≤ wr.heap.size) (fun i _ _ => 8 - (intOf i).toNat)
      case atStart => exact ⟨0, by omega, rfl, ⟨rfl, .inl ⟨rfl, rfl⟩⟩, HA, HB, hzr⟩
      case round =>
        clear HO2 HB hzr HA hwz
        obtain ⟨t, ht, rfl, HO1, HA, HB, hzr⟩ := hrel
        by_cases hlt : t < 8
        · have HX : Hid _ := spell_take st t (by rw [H8.out]; exact hlt)
          have HLn : Hid ((Q.spell (st.take t)).length ≤ 32) := by show _ ≤ _; rw [Q.spell_length, List.length_take]; omega
          have c := Arr.cell HA.out t (by rw [H8.out]; exact hlt)
          generalize st.getD t 0 = x at *
          obtain ⟨L, HL⟩ : ∃ r, Hid (Q.spell (st.take t) = r) := ⟨_, rfl⟩
          rw [HL.out] at HO1 HX HLn
          have HB0 : Hid _ := four_cells x
          clear HL
          have it : (t : Int) < 8 := by omega
          have cA : ∀ X, (wr.alloc X).cell? ⟨bs, t, none⟩ = some (.int .u32 (x : Int)) := fun X => by
            rw [World.cell?_alloc_some wr ⟨bs, t, none⟩ X (by rw [c]; rfl)]; exact c
          have HCA : Hid _ := cA
          have HL4 : Hid (L.length + 4 ≤ 140737488355328) := by have := HLn.out; show _ ≤ _; omega
          clear cA
          go_wp2_with fail
          go_region_held3 (fun u => u.cell? ⟨bs, t, none⟩ = some (.int .u32 (x : Int))) (first | (simp only [World.cell?_drew]; exact c) | (simp only [World.cell?_drew]; exact HCA.out _) | exact H5c.out) ((refine step_append_bytes _ rfl _ _ rfl (bs + 1) _ L rfl (OB.drew (OB.alloc HO1.out _)) wr.heap.size 4 (Q.four x) rfl rfl ((World.rangeAt_drew _ _ _ _).2 (range_new wr _ _ _ HB0.out)) HL4.out (by simp; omega) ?_; intro v' w5 ho hb; have HO5 : Hid _ := ho; have HB5 : Hid (Below w.heap.size w w5) := Below.trans (Below.drew (Below.alloc HB.out (by have := HB.out.size; omega) _)) (hb.mono (by omega)); have HA5 : Hid (Arr .u32 w5 bs st) := Arr.below (Arr.drew (Arr.alloc HA.out _)) hb (by omega); have hz5 : bs + 1 ≤ w5.heap.size := (by have h := hb.size; simp at h; omega); have H5c : Hid (w5.cell? ⟨bs, t, none⟩ = some (.int .u32 (x : Int))) := (by show _ = _; rw [hb.cell (p := ⟨bs, t, none⟩) (by show bs < bs + 1; omega)]; simp only [World.cell?_drew]; exact HCA.out _); clear ho hb))
          go_wp2_with fail
          go_roundw
          case rel => exact ⟨t + 1, by omega, by go_num, by rw [HX.out]; exact HO5.out, HA5, HB5, hz5⟩
          case measure => simp [intOf]; omega
        · obtain rfl : t = 8 := by omega
          have hlt' : ¬ (((8 : Nat) : Int) < 8) := by omega
          have e : st.take 8 = st := List.take_of_length_le (by rw [H8.out]; exact Nat.le_refl _)
          rw [e] at HO1
          have hs := HO1.out.str (by intro e; have h := Q.spell_length st; rw [e, H8.out] at h; simp at h)
          clear e
          go_wp2_with fail
          go_ret
          rw [HSUM.out]
          exact ⟨rfl, HB.out⟩
end Go.Proofs.YtlodahlinncpcaaDoor
