/-
  There are just so many sessions, each with one transaction at most; what is none has none (the law SessMany). No conditions.
-/
import Derived.Test.YtkiaehehckmpnaaFrame

import Derived.Test.YtkiaehehckmpnaaSessEx

import Derived.Deep.DeepCutAuto

import Derived.Test.YtkiaehehckmpnaaFrameVecN

namespace Go.Proofs.Ytkiaehehckmpnaa.sessMany

open Go.ChangeShapes Go.WideShapes Go.ChangeAt Go.RowKit

open Go.ChangeMaps (open_string shut_string)

set_option linter.unusedVariables false

set_option linter.unusedSimpArgs false

open Go.Proofs.Ytkiaehehckmpnaa.Vc Go.Proofs.Ytkiaehehckmpnaa.Sp Go.Proofs.Ytkiaehehckmpnaa.Rw Go.Proofs.Ytkiaehehckmpnaa.Se Go.Proofs.Ytkiaehehckmpnaa.It Go.Proofs.Ytkiaehehckmpnaa.Z Go.Proofs.Ytkiaehehckmpnaa.Zm

structure Mn (S : List Ss) (q : Bool) (k : Nat) (s : List Nat) : Prop where
  opn : ∀ i : Int, (gt S i).opn = (known i && (q && decide (i < (k : Int))))
  snap : ∀ i : Int, (gt S i).opn = true → (gt S i).snap = s
theorem gt0 (i : Int) : gt S0 i = nos := by
  unfold gt S0
  split
  · rw [List.getD_eq_getElem?_getD, List.getElem?_replicate]
    split <;> rfl
  · rfl
theorem mn0 (q : Bool) (s : List Nat) : Mn S0 q 0 s := by
  refine ⟨fun i => ?_, fun i h => ?_⟩
  · rw [gt0]
    cases hk : known i with
    | false => rfl
    | true =>
      have := (known_iff i).1 hk
      have h0 : decide (i < ((0 : Nat) : Int)) = false := by simp; omega
      rw [h0, Bool.and_false]; rfl
  · rw [gt0] at h; cases h
theorem mn_round {S : List Ss} {q : Bool} {j : Nat} {s : List Nat} (hS : Z.Good S) (hq : V.right s = q) (hm : Mn S q j s) :
    errBeg S j s = (if (known j && q) = true then 0 else 1) ∧ errBeg (aftBeg S j s) j s = (if (known j && q) = true then 6 else 1) ∧ Mn (aftBeg (aftBeg S j s) j s) q (j + 1) s := by
  have hok : okSee (j : Int) s = (known j && q) := by unfold okSee; rw [hq]
  by_cases h : (known (j : Int) && q) = true
  · simp only [Bool.and_eq_true] at h
    obtain ⟨hk, hq1⟩ := h
    have h0 : (gt S j).opn = false := by rw [hm.opn, hk]; simp
    have e1 : errBeg S j s = 0 := by unfold errBeg; rw [hok, hk, hq1, h0]; rfl
    have a1 : aftBeg S j s = st S j (begS (gt S j) s) := by unfold aftBeg; rw [e1]; rfl
    have g1 : gt (st S j (begS (gt S j) s)) j = begS (gt S j) s := by rw [gt_st hS.len hk]; exact if_pos rfl
    have e2 : errBeg (st S j (begS (gt S j) s)) j s = 6 := by unfold errBeg; rw [hok, hk, hq1, g1]; rfl
    have a2 : aftBeg (st S j (begS (gt S j) s)) j s = st S j (begS (gt S j) s) := by unfold aftBeg; rw [e2]; rfl
    rw [a1, e1, e2, a2]
    refine ⟨by rw [hk, hq1]; rfl, by rw [hk, hq1]; rfl, ⟨fun i => ?_, fun i h9 => ?_⟩⟩
    · rw [gt_st hS.len hk]
      by_cases e : i = (j : Int)
      · subst e
        rw [if_pos rfl, hk, hq1]
        simp [begS]
        omega
      · rw [if_neg e, hm.opn]
        congr 2
        simp only [decide_eq_decide]
        omega
    · rw [gt_st hS.len hk] at h9 ⊢
      by_cases e : i = (j : Int)
      · rw [if_pos e]; rfl
      · rw [if_neg e] at h9 ⊢; exact hm.snap i h9
  · have hf : (known (j : Int) && q) = false := by simpa using h
    have e1 : errBeg S j s = 1 := by unfold errBeg; rw [hok, hf]; rfl
    have a1 : aftBeg S j s = S := by unfold aftBeg; rw [e1]; rfl
    rw [a1, e1, a1, hf]
    refine ⟨rfl, rfl, ⟨fun i => ?_, hm.snap⟩⟩
    rw [hm.opn]
    by_cases e : i = (j : Int)
    · subst e
      cases hk : known (j : Int) with
      | false => rfl
      | true =>
        rw [hk, Bool.true_and] at hf
        rw [hf]; rfl
    · congr 2
      simp only [decide_eq_decide]
      omega
theorem filter_all {α : Type} {p : α → Bool} {L : List α} (h : ∀ x ∈ L, p x = true) : L.filter p = L := List.filter_eq_self.2 h
theorem mn_many {S : List Ss} {q : Bool} {s : List Nat} (hS : Z.Good S) (hm : Mn S q 10 s) : many S = if q = true then 8 else 0 := by
  have hall : ∀ x ∈ S, x.opn = q := by
    intro x hx
    obtain ⟨i, hi, rfl⟩ := List.getElem_of_mem hx
    have hl := hS.len
    have hk : known ((i : Int) + 1) = true := (known_iff _).2 (by omega)
    have h1 := hm.opn ((i : Int) + 1)
    have h2 := gt_known hl hk
    rw [show ((i : Int) + 1 - 1).toNat = i by omega, List.getElem?_eq_getElem hi] at h2
    rw [Option.some.inj h2, h1, hk]
    have h3 : decide ((i : Int) + 1 < ((10 : Nat) : Int)) = true := by simp; omega
    rw [h3]; simp
  unfold many
  cases q with
  | true => rw [filter_all hall, hS.len]; rfl
  | false =>
    have : S.filter (·.opn) = [] := List.filter_eq_nil_iff.2 (fun x hx => by rw [hall x hx]; decide)
    rw [this]; rfl
set_option maxHeartbeats 32000000 in
set_option maxRecDepth 100000 in
theorem walk (a0 : Int) (a1 : List Nat) (o1 : Bool) (w0 : (Lit.int .i64 a0).wf = true) (w1 : V.Ok a1) (w : World) :
    Calls Try.prog 7 #[.int .i64 a0, VV a1 o1] w fun e w' => e = .returned (.bool true) ∧ Below w.heap.size w w' := by
  have HW1 := w1
  obtain ⟨s, HSV⟩ : ∃ s, Hid (V.few a1 o1 = s) := ⟨_, rfl⟩
  have HSO : Hid (V.Ok s) := by show V.Ok _; rw [← HSV.out]; exact V.few_ok w1 o1
  have CV := Lib.hid (fun u => vector_any a1 o1 u w1)
  rw [HSV.out] at CV
  obtain ⟨q, HQ⟩ : ∃ q, Hid (V.right s = q) := ⟨_, rfl⟩
  have CR := Lib.hid (fun u => right_any s u HSO.out.1)
  rw [HQ.out] at CR
  have HIs := Lib.hid (size_v HSO.out.1)
  have HSZ : Hid ((Try.prog.info? 25).map (·.size) = some (ks .u64 s).length) := by show _ = _; rw [ks_length]; exact HIs.out
  have HLN : Hid ((ks .u64 s).length = (ks .u64 [0, 0, 0, 0]).length) := by show _ = _; rw [ks_length, HSO.out.1]; rfl
  have HSV5 : Hid ((Try.prog.info? 27).map (·.size) = some (ks .u64 a1 ++ [Value.bool o1]).length) := by
    obtain ⟨n0, n1, n2, n3, hn4⟩ := V.four w1.1
    show _ = _
    rw [hn4]; kernel_rfl
  clear HW1 w0
  go_enter Try.func7, Try.ntmps7
  go_wp2_with (first | refine blk_box rfl 27 _ rfl (ks .u64 a1 ++ [Value.bool o1]) rfl ?_)
  intro u1 A1 B1 Z1
  have HA1 := Lib.hid A1
  have HB1 := Lib.hid B1
  have HZ1 := Lib.hid Z1
  clear A1 B1 Z1
  go_wp2_with fail
  refine (examples_any _).mono ?_; rintro e u2 ⟨rfl, hb⟩
  have HA2 := Lib.hid (HA1.out.below hb (by rw [HZ1.out]; omega))
  have HB2 : Hid (Below w.heap.size w u2) := HB1.out.trans (hb.mono HB1.out.size)
  have HZ2 : Hid (w.heap.size < u2.heap.size) := by show _ < _; have := hb.size; have := HZ1.out; omega
  clear hb HA1 HB1 HZ1
  have S9 : Hid (Sep w u2 [rB w.heap.size (ks .u64 a1 ++ [Value.bool o1])]) := ⟨HB2.out, fun r hr => by
    rw [List.mem_singleton] at hr; subst hr
    exact ⟨HA2.out, fun k hk => by simp only [rB, List.mem_singleton] at hk; subst hk; exact ⟨Nat.le_refl _, HZ2.out⟩⟩, List.pairwise_singleton _ _⟩
  have CN := Lib.hid (newtab_any S9.out)
  clear S9 HA2 HB2 HZ2
  go_wp2_with fail
  refine (CN.out).mono ?_; rintro e w1 ⟨b, rfl, ht⟩
  have H1 := Lib.hid ht
  clear ht CN
  go_wp2_with (first | refine blk_load rfl 27 _ rfl w.heap.size rfl (ks .u64 a1 ++ [Value.bool o1]) (H1.out.sep.blk 0 rfl) _ Try.underlying27 rfl HSV5.out ?_)
  refine (CV.out _).mono ?_; rintro e w2 ⟨rfl, hb⟩
  have H2 := Lib.hid (H1.out.below hb)
  clear hb H1
  go_wp2_with (first | refine blk_alloc rfl 25 (ks .u64 [0, 0, 0, 0]) rfl Try.info_v ?_)
  intro w3 A3 B3 Z3
  have HA := Lib.hid A3
  have HB := Lib.hid B3
  have HZ := Lib.hid Z3
  clear A3 B3 Z3
  go_wp2_with (first | refine blk_store rfl 25 _ _ rfl w2.heap.size rfl (ks .u64 s) rfl (ks .u64 [0, 0, 0, 0]) HA.out HLN.out HSZ.out (ks_all _ _) ?_)
  intro w4 A4 U4
  have H4 := Lib.hid (H2.out.fresh HB.out HZ.out U4 A4)
  clear A4 U4 HA HB HZ H2
  go_wp2_with (first | refine blk_load rfl 25 _ rfl w2.heap.size rfl (ks .u64 s) (H4.out.sep.blk 0 rfl) _ Try.underlying25 rfl HSZ.out ?_)
  refine (CR.out _).mono ?_; rintro e w5 ⟨rfl, hb⟩
  have H5 := Lib.hid (H4.out.below hb)
  clear hb H4
  obtain ⟨bx, HBX⟩ : ∃ bx, Hid (w2.heap.size = bx) := ⟨_, rfl⟩
  rw [HBX.out] at H5
  rw [HBX.out]
  have HL0 : Hid (∃ S, Tab w w5 b S [rB bx (ks .u64 s), rB w.heap.size (ks .u64 a1 ++ [Value.bool o1])] ∧ Mn S q 0 s) := ⟨S0, H5.out, mn0 q s⟩
  clear H5 HBX CV CR
  cases q with
  | true =>
    go_wp2_with fail
    go_loopw [9, 10] (fun x y wr => ∃ j : Nat, j ≤ 10 ∧ x = .int .i64 j ∧ Hid (∃ S, Tab w wr b S [rB bx (ks .u64 s), rB w.heap.size (ks .u64 a1 ++ [Value.bool o1])] ∧ Mn S true j s)) (fun x _ _ => 10 - (intOf x).toNat)
    case atStart => exact ⟨0, by omega, rfl, HL0⟩
    case round =>
      obtain ⟨j, hj, rfl, HLr⟩ := hrel
      clear HL0
      by_cases hlt : j ≤ 9
      · have ilt : (j : Int) ≤ 9 := by omega
        obtain ⟨S, hT, hM⟩ := HLr.out
        obtain ⟨m1, m2, m3⟩ := mn_round hT.good HQ.out hM
        have C1 := Lib.hid (tbegin_any hT (j : Int) s HSO.out)
        have C2 : Hid (∀ u, Tab w u b (aftBeg S j s) [rB bx (ks .u64 s), rB w.heap.size (ks .u64 a1 ++ [Value.bool o1])] → Calls Try.prog 13 #[.pointer (some ⟨b, 0, none⟩), .int .i64 (j : Int), AV .u64 s] u fun e w' => e = .returned (.int .i64 (errBeg (aftBeg S j s) j s)) ∧ Tab w w' b (aftBeg (aftBeg S j s) j s) [rB bx (ks .u64 s), rB w.heap.size (ks .u64 a1 ++ [Value.bool o1])]) := fun u hu => tbegin_any hu (j : Int) s HSO.out
        have HT := Lib.hid hT
        have M3 := Lib.hid m3
        rw [m1] at C1
        rw [m2] at C2
        clear hT hM m1 m2 m3 HLr
        by_cases k1 : 1 ≤ (j : Int)
        · by_cases k2 : (j : Int) ≤ 8
          · have hk : known (j : Int) = true := (known_iff _).2 ⟨k1, k2⟩
            rw [hk] at C1 C2
            have C1' : Hid (Calls Try.prog 13 #[.pointer (some ⟨b, 0, none⟩), .int .i64 (j : Int), AV .u64 s] wr fun e w' => e = .returned (.int .i64 0) ∧ Tab w w' b (aftBeg S j s) _) := C1
            clear C1
            go_wp2_with (first | refine blk_load rfl 25 _ rfl bx rfl (ks .u64 s) (HT.out.sep.blk 0 rfl) _ Try.underlying25 rfl HSZ.out ?_)
            refine (C1'.out).mono ?_; rintro e w7 ⟨rfl, ht⟩
            have H7 := Lib.hid ht
            clear ht C1'
            have C3 : Hid (Calls Try.prog 13 #[.pointer (some ⟨b, 0, none⟩), .int .i64 (j : Int), AV .u64 s] w7 fun e w' => e = .returned (.int .i64 6) ∧ Tab w w' b (aftBeg (aftBeg S j s) j s) _) := C2.out w7 H7.out
            clear C2
            go_wp2_with (first | refine blk_loadg (by rfl) 25 _ rfl bx rfl (ks .u64 s) (H7.out.sep.blk 0 rfl) _ Try.underlying25 rfl HSZ.out ?_)
            refine (C3.out).mono ?_; rintro e w8 ⟨rfl, ht⟩
            have HN : Hid (∃ S, Tab w w8 b S [rB bx (ks .u64 s), rB w.heap.size (ks .u64 a1 ++ [Value.bool o1])] ∧ Mn S true (j + 1) s) := ⟨_, ht, M3.out⟩
            clear ht C3
            go_wp2_with fail
            go_roundw
            case rel => exact ⟨j + 1, by omega, by go_num, HN⟩
            case measure => simp [intOf]; omega
          · have hk : known (j : Int) = false := by cases h : known (j : Int) with | false => rfl | true => exact absurd ((known_iff _).1 h).2 k2
            have k3 : decide ((j : Int) ≤ 8) = false := by simp; omega
            rw [hk] at C1 C2
            have C1' : Hid (Calls Try.prog 13 #[.pointer (some ⟨b, 0, none⟩), .int .i64 (j : Int), AV .u64 s] wr fun e w' => e = .returned (.int .i64 1) ∧ Tab w w' b (aftBeg S j s) _) := C1
            clear C1
            go_wp2_with (first | refine blk_load rfl 25 _ rfl bx rfl (ks .u64 s) (HT.out.sep.blk 0 rfl) _ Try.underlying25 rfl HSZ.out ?_)
            refine (C1'.out).mono ?_; rintro e w7 ⟨rfl, ht⟩
            have H7 := Lib.hid ht
            clear ht C1'
            have C3 : Hid (Calls Try.prog 13 #[.pointer (some ⟨b, 0, none⟩), .int .i64 (j : Int), AV .u64 s] w7 fun e w' => e = .returned (.int .i64 1) ∧ Tab w w' b (aftBeg (aftBeg S j s) j s) _) := C2.out w7 H7.out
            clear C2
            go_wp2_with (first | refine blk_loadg (by rfl) 25 _ rfl bx rfl (ks .u64 s) (H7.out.sep.blk 0 rfl) _ Try.underlying25 rfl HSZ.out ?_)
            refine (C3.out).mono ?_; rintro e w8 ⟨rfl, ht⟩
            have HN : Hid (∃ S, Tab w w8 b S [rB bx (ks .u64 s), rB w.heap.size (ks .u64 a1 ++ [Value.bool o1])] ∧ Mn S true (j + 1) s) := ⟨_, ht, M3.out⟩
            clear ht C3
            go_wp2_with fail
            go_roundw
            case rel => exact ⟨j + 1, by omega, by go_num, HN⟩
            case measure => simp [intOf]; omega
        · have hk : known (j : Int) = false := by cases h : known (j : Int) with | false => rfl | true => exact absurd ((known_iff _).1 h).1 k1
          have k3 : decide (1 ≤ (j : Int)) = false := by simp; omega
          rw [hk] at C1 C2
          have C1' : Hid (Calls Try.prog 13 #[.pointer (some ⟨b, 0, none⟩), .int .i64 (j : Int), AV .u64 s] wr fun e w' => e = .returned (.int .i64 1) ∧ Tab w w' b (aftBeg S j s) _) := C1
          clear C1
          go_wp2_with (first | refine blk_load rfl 25 _ rfl bx rfl (ks .u64 s) (HT.out.sep.blk 0 rfl) _ Try.underlying25 rfl HSZ.out ?_)
          refine (C1'.out).mono ?_; rintro e w7 ⟨rfl, ht⟩
          have H7 := Lib.hid ht
          clear ht C1'
          have C3 : Hid (Calls Try.prog 13 #[.pointer (some ⟨b, 0, none⟩), .int .i64 (j : Int), AV .u64 s] w7 fun e w' => e = .returned (.int .i64 1) ∧ Tab w w' b (aftBeg (aftBeg S j s) j s) _) := C2.out w7 H7.out
          clear C2
          go_wp2_with (first | refine blk_loadg (by rfl) 25 _ rfl bx rfl (ks .u64 s) (H7.out.sep.blk 0 rfl) _ Try.underlying25 rfl HSZ.out ?_)
          refine (C3.out).mono ?_; rintro e w8 ⟨rfl, ht⟩
          have HN : Hid (∃ S, Tab w w8 b S [rB bx (ks .u64 s), rB w.heap.size (ks .u64 a1 ++ [Value.bool o1])] ∧ Mn S true (j + 1) s) := ⟨_, ht, M3.out⟩
          clear ht C3
          go_wp2_with fail
          go_roundw
          case rel => exact ⟨j + 1, by omega, by go_num, HN⟩
          case measure => simp [intOf]; omega
      · obtain rfl : j = 10 := by omega
        obtain ⟨S, hT, hM⟩ := HLr.out
        have HMM := mn_many hT.good hM
        have HT := Lib.hid hT
        have HM := Lib.hid hM
        clear hT hM HLr
        by_cases k1 : 1 ≤ a0
        · by_cases k2 : a0 ≤ 8
          · have hk : known a0 = true := (known_iff _).2 ⟨k1, k2⟩
            have HOK : Hid (okSee a0 s = true) := by show _ = _; unfold okSee; rw [HQ.out, hk]; rfl
            have HOP : Hid ((gt S a0).opn = true) := by show _ = _; rw [HM.out.opn, hk]; simp; omega
            obtain ⟨x, HX⟩ : ∃ x, Hid ((gt S a0).snap = x) := ⟨_, rfl⟩
            have HX4 : Hid (x.length = 4) := by show _ = _; rw [← HX.out]; exact (gt_ok HT.out.good.ok a0).snap.1
            have HXZ : Hid ((Try.prog.info? 25).map (·.size) = some (ks .u64 x).length) := by show _ = _; rw [ks_length, HX4.out]; exact Try.size_v
            have HXL : Hid ((ks .u64 x).length = (ks .u64 [0, 0, 0, 0]).length) := by show _ = _; rw [ks_length, HX4.out]; rfl
            have HER : Hid (errEnd (aftSee S a0 s) a0 = 0) := by
              show _ = _
              unfold errEnd aftSee
              rw [HOK.out]
              rw [if_pos rfl, gt_st HT.out.good.len hk, if_pos rfl]
              show (if (gt S a0).opn = true then (0 : Int) else 5) = 0
              rw [HOP.out]; rfl
            have HMY : Hid ((many S : Int) = 8) := by show _ = _; rw [HMM]; rfl
            have H9 := HT
            clear hk HMM
            have hxs : x = s := by rw [← HX.out]; exact HM.out.snap a0 HOP.out
            subst hxs
            clear HM
            have hgv : ∀ u, (Op.equalIn 10000 25 (.agg (ks .u64 x).toArray) (.agg (ks .u64 x).toArray)).run Try.prog u = .ok true u := fun u => by
              have h9 := eq_v x x HX4.out HX4.out u
              rw [decide_eq_true rfl] at h9
              exact h9
            have C := Lib.hid (tsnap_any H9.out a0)
            rw [HX.out, HOP.out] at C
            go_wp2_with fail
            refine (C.out).mono ?_; rintro e w10 ⟨rfl, hb⟩
            have H10 := Lib.hid (H9.out.below hb)
            clear hb C H9 HT
            go_wp2_with (first | refine blk_alloc rfl 25 (ks .u64 [0, 0, 0, 0]) rfl Try.info_v ?_)
            intro w11 A11 B11 Z11
            have HA := Lib.hid A11
            have HB := Lib.hid B11
            have HZ := Lib.hid Z11
            clear A11 B11 Z11
            go_wp2_with (first | refine blk_store rfl 25 _ _ rfl w10.heap.size rfl (ks .u64 x) rfl (ks .u64 [0, 0, 0, 0]) HA.out HXL.out HXZ.out (ks_all _ _) ?_)
            intro w12 A12 U12
            have H12 := Lib.hid (H10.out.fresh HB.out HZ.out U12 A12)
            clear A12 U12 HA HB HZ H10
            have C := Lib.hid (tmany_any H12.out)
            rw [HMY.out] at C
            go_wp2_with fail
            refine (C.out).mono ?_; rintro e w13 ⟨rfl, hb⟩
            have H13 := Lib.hid (H12.out.below hb)
            clear hb C H12
            have C := Lib.hid (tsee_any H13.out a0 x HSO.out)
            rw [HOK.out] at C
            go_wp2_with (first | refine blk_loadg (by rfl) 25 _ rfl w10.heap.size rfl (ks .u64 x) (H13.out.sep.blk 0 rfl) _ Try.underlying25 rfl HXZ.out ?_ | refine blk_loadg (by rfl) 25 _ rfl bx rfl (ks .u64 x) (H13.out.sep.blk 1 rfl) _ Try.underlying25 rfl HXZ.out ?_)
            refine (C.out).mono ?_; rintro e w14 ⟨rfl, ht⟩
            have H14 := Lib.hid ht
            clear ht C H13
            have C := Lib.hid (tend_any H14.out a0)
            rw [HER.out] at C
            go_wp2_with fail
            refine (C.out).mono ?_; rintro e w15 ⟨rfl, ht⟩
            have HF := Lib.hid ht.under
            clear ht C
            go_wp2_with fail
            go_ret
            exact ⟨rfl, HF.out⟩
          · have hk : known a0 = false := by cases h : known a0 with | false => rfl | true => exact absurd ((known_iff _).1 h).2 k2
            have k3 : decide (a0 ≤ 8) = false := by simp; omega
            have HOK : Hid (okSee a0 s = false) := by show _ = _; unfold okSee; rw [HQ.out, hk]; rfl
            have HOP : Hid ((gt S a0).opn = false) := by show _ = _; rw [HM.out.opn, hk]; rfl
            obtain ⟨x, HX⟩ : ∃ x, Hid ((gt S a0).snap = x) := ⟨_, rfl⟩
            have HX4 : Hid (x.length = 4) := by show _ = _; rw [← HX.out]; exact (gt_ok HT.out.good.ok a0).snap.1
            have HXZ : Hid ((Try.prog.info? 25).map (·.size) = some (ks .u64 x).length) := by show _ = _; rw [ks_length, HX4.out]; exact Try.size_v
            have HXL : Hid ((ks .u64 x).length = (ks .u64 [0, 0, 0, 0]).length) := by show _ = _; rw [ks_length, HX4.out]; rfl
            have HER : Hid (errEnd (aftSee S a0 s) a0 = 5) := by
              show _ = _
              unfold errEnd aftSee
              rw [HOK.out]
              skip
              show (if (gt S a0).opn = true then (0 : Int) else 5) = 5
              rw [HOP.out]; rfl
            have HMY : Hid ((many S : Int) = 8) := by show _ = _; rw [HMM]; rfl
            have H9 := HT
            clear hk HMM HM
            have C := Lib.hid (tsnap_any H9.out a0)
            rw [HX.out, HOP.out] at C
            go_wp2_with fail
            refine (C.out).mono ?_; rintro e w10 ⟨rfl, hb⟩
            have H10 := Lib.hid (H9.out.below hb)
            clear hb C H9 HT
            go_wp2_with (first | refine blk_alloc rfl 25 (ks .u64 [0, 0, 0, 0]) rfl Try.info_v ?_)
            intro w11 A11 B11 Z11
            have HA := Lib.hid A11
            have HB := Lib.hid B11
            have HZ := Lib.hid Z11
            clear A11 B11 Z11
            go_wp2_with (first | refine blk_store rfl 25 _ _ rfl w10.heap.size rfl (ks .u64 x) rfl (ks .u64 [0, 0, 0, 0]) HA.out HXL.out HXZ.out (ks_all _ _) ?_)
            intro w12 A12 U12
            have H12 := Lib.hid (H10.out.fresh HB.out HZ.out U12 A12)
            clear A12 U12 HA HB HZ H10
            have C := Lib.hid (tmany_any H12.out)
            rw [HMY.out] at C
            go_wp2_with fail
            refine (C.out).mono ?_; rintro e w13 ⟨rfl, hb⟩
            have H13 := Lib.hid (H12.out.below hb)
            clear hb C H12
            have C := Lib.hid (tsee_any H13.out a0 s HSO.out)
            rw [HOK.out] at C
            go_wp2_with (first | refine blk_loadg (by rfl) 25 _ rfl bx rfl (ks .u64 s) (H13.out.sep.blk 1 rfl) _ Try.underlying25 rfl HSZ.out ?_)
            refine (C.out).mono ?_; rintro e w14 ⟨rfl, ht⟩
            have H14 := Lib.hid ht
            clear ht C H13
            have C := Lib.hid (tend_any H14.out a0)
            rw [HER.out] at C
            go_wp2_with fail
            refine (C.out).mono ?_; rintro e w15 ⟨rfl, ht⟩
            have HF := Lib.hid ht.under
            clear ht C
            go_wp2_with fail
            go_ret
            exact ⟨rfl, HF.out⟩
        · have hk : known a0 = false := by cases h : known a0 with | false => rfl | true => exact absurd ((known_iff _).1 h).1 k1
          have k3 : decide (1 ≤ a0) = false := by simp; omega
          have HOK : Hid (okSee a0 s = false) := by show _ = _; unfold okSee; rw [HQ.out, hk]; rfl
          have HOP : Hid ((gt S a0).opn = false) := by show _ = _; rw [HM.out.opn, hk]; rfl
          obtain ⟨x, HX⟩ : ∃ x, Hid ((gt S a0).snap = x) := ⟨_, rfl⟩
          have HX4 : Hid (x.length = 4) := by show _ = _; rw [← HX.out]; exact (gt_ok HT.out.good.ok a0).snap.1
          have HXZ : Hid ((Try.prog.info? 25).map (·.size) = some (ks .u64 x).length) := by show _ = _; rw [ks_length, HX4.out]; exact Try.size_v
          have HXL : Hid ((ks .u64 x).length = (ks .u64 [0, 0, 0, 0]).length) := by show _ = _; rw [ks_length, HX4.out]; rfl
          have HER : Hid (errEnd (aftSee S a0 s) a0 = 5) := by
            show _ = _
            unfold errEnd aftSee
            rw [HOK.out]
            skip
            show (if (gt S a0).opn = true then (0 : Int) else 5) = 5
            rw [HOP.out]; rfl
          have HMY : Hid ((many S : Int) = 8) := by show _ = _; rw [HMM]; rfl
          have H9 := HT
          clear hk HMM HM
          have C := Lib.hid (tsnap_any H9.out a0)
          rw [HX.out, HOP.out] at C
          go_wp2_with fail
          refine (C.out).mono ?_; rintro e w10 ⟨rfl, hb⟩
          have H10 := Lib.hid (H9.out.below hb)
          clear hb C H9 HT
          go_wp2_with (first | refine blk_alloc rfl 25 (ks .u64 [0, 0, 0, 0]) rfl Try.info_v ?_)
          intro w11 A11 B11 Z11
          have HA := Lib.hid A11
          have HB := Lib.hid B11
          have HZ := Lib.hid Z11
          clear A11 B11 Z11
          go_wp2_with (first | refine blk_store rfl 25 _ _ rfl w10.heap.size rfl (ks .u64 x) rfl (ks .u64 [0, 0, 0, 0]) HA.out HXL.out HXZ.out (ks_all _ _) ?_)
          intro w12 A12 U12
          have H12 := Lib.hid (H10.out.fresh HB.out HZ.out U12 A12)
          clear A12 U12 HA HB HZ H10
          have C := Lib.hid (tmany_any H12.out)
          rw [HMY.out] at C
          go_wp2_with fail
          refine (C.out).mono ?_; rintro e w13 ⟨rfl, hb⟩
          have H13 := Lib.hid (H12.out.below hb)
          clear hb C H12
          have C := Lib.hid (tsee_any H13.out a0 s HSO.out)
          rw [HOK.out] at C
          go_wp2_with (first | refine blk_loadg (by rfl) 25 _ rfl bx rfl (ks .u64 s) (H13.out.sep.blk 1 rfl) _ Try.underlying25 rfl HSZ.out ?_)
          refine (C.out).mono ?_; rintro e w14 ⟨rfl, ht⟩
          have H14 := Lib.hid ht
          clear ht C H13
          have C := Lib.hid (tend_any H14.out a0)
          rw [HER.out] at C
          go_wp2_with fail
          refine (C.out).mono ?_; rintro e w15 ⟨rfl, ht⟩
          have HF := Lib.hid ht.under
          clear ht C
          go_wp2_with fail
          go_ret
          exact ⟨rfl, HF.out⟩
  | false =>
    go_wp2_with fail
    go_loopw [9, 10] (fun x y wr => ∃ j : Nat, j ≤ 10 ∧ x = .int .i64 j ∧ Hid (∃ S, Tab w wr b S [rB bx (ks .u64 s), rB w.heap.size (ks .u64 a1 ++ [Value.bool o1])] ∧ Mn S false j s)) (fun x _ _ => 10 - (intOf x).toNat)
    case atStart => exact ⟨0, by omega, rfl, HL0⟩
    case round =>
      obtain ⟨j, hj, rfl, HLr⟩ := hrel
      clear HL0
      by_cases hlt : j ≤ 9
      · have ilt : (j : Int) ≤ 9 := by omega
        obtain ⟨S, hT, hM⟩ := HLr.out
        obtain ⟨m1, m2, m3⟩ := mn_round hT.good HQ.out hM
        have C1 := Lib.hid (tbegin_any hT (j : Int) s HSO.out)
        have C2 : Hid (∀ u, Tab w u b (aftBeg S j s) [rB bx (ks .u64 s), rB w.heap.size (ks .u64 a1 ++ [Value.bool o1])] → Calls Try.prog 13 #[.pointer (some ⟨b, 0, none⟩), .int .i64 (j : Int), AV .u64 s] u fun e w' => e = .returned (.int .i64 (errBeg (aftBeg S j s) j s)) ∧ Tab w w' b (aftBeg (aftBeg S j s) j s) [rB bx (ks .u64 s), rB w.heap.size (ks .u64 a1 ++ [Value.bool o1])]) := fun u hu => tbegin_any hu (j : Int) s HSO.out
        have HT := Lib.hid hT
        have M3 := Lib.hid m3
        rw [m1] at C1
        rw [m2] at C2
        clear hT hM m1 m2 m3 HLr
        by_cases k1 : 1 ≤ (j : Int)
        · by_cases k2 : (j : Int) ≤ 8
          · have hk : known (j : Int) = true := (known_iff _).2 ⟨k1, k2⟩
            rw [hk] at C1 C2
            have C1' : Hid (Calls Try.prog 13 #[.pointer (some ⟨b, 0, none⟩), .int .i64 (j : Int), AV .u64 s] wr fun e w' => e = .returned (.int .i64 1) ∧ Tab w w' b (aftBeg S j s) _) := C1
            clear C1
            go_wp2_with (first | refine blk_load rfl 25 _ rfl bx rfl (ks .u64 s) (HT.out.sep.blk 0 rfl) _ Try.underlying25 rfl HSZ.out ?_)
            refine (C1'.out).mono ?_; rintro e w7 ⟨rfl, ht⟩
            have H7 := Lib.hid ht
            clear ht C1'
            have C3 : Hid (Calls Try.prog 13 #[.pointer (some ⟨b, 0, none⟩), .int .i64 (j : Int), AV .u64 s] w7 fun e w' => e = .returned (.int .i64 1) ∧ Tab w w' b (aftBeg (aftBeg S j s) j s) _) := C2.out w7 H7.out
            clear C2
            go_wp2_with (first | refine blk_loadg (by rfl) 25 _ rfl bx rfl (ks .u64 s) (H7.out.sep.blk 0 rfl) _ Try.underlying25 rfl HSZ.out ?_)
            refine (C3.out).mono ?_; rintro e w8 ⟨rfl, ht⟩
            have HN : Hid (∃ S, Tab w w8 b S [rB bx (ks .u64 s), rB w.heap.size (ks .u64 a1 ++ [Value.bool o1])] ∧ Mn S false (j + 1) s) := ⟨_, ht, M3.out⟩
            clear ht C3
            go_wp2_with fail
            go_roundw
            case rel => exact ⟨j + 1, by omega, by go_num, HN⟩
            case measure => simp [intOf]; omega
          · have hk : known (j : Int) = false := by cases h : known (j : Int) with | false => rfl | true => exact absurd ((known_iff _).1 h).2 k2
            have k3 : decide ((j : Int) ≤ 8) = false := by simp; omega
            rw [hk] at C1 C2
            have C1' : Hid (Calls Try.prog 13 #[.pointer (some ⟨b, 0, none⟩), .int .i64 (j : Int), AV .u64 s] wr fun e w' => e = .returned (.int .i64 1) ∧ Tab w w' b (aftBeg S j s) _) := C1
            clear C1
            go_wp2_with (first | refine blk_load rfl 25 _ rfl bx rfl (ks .u64 s) (HT.out.sep.blk 0 rfl) _ Try.underlying25 rfl HSZ.out ?_)
            refine (C1'.out).mono ?_; rintro e w7 ⟨rfl, ht⟩
            have H7 := Lib.hid ht
            clear ht C1'
            have C3 : Hid (Calls Try.prog 13 #[.pointer (some ⟨b, 0, none⟩), .int .i64 (j : Int), AV .u64 s] w7 fun e w' => e = .returned (.int .i64 1) ∧ Tab w w' b (aftBeg (aftBeg S j s) j s) _) := C2.out w7 H7.out
            clear C2
            go_wp2_with (first | refine blk_loadg (by rfl) 25 _ rfl bx rfl (ks .u64 s) (H7.out.sep.blk 0 rfl) _ Try.underlying25 rfl HSZ.out ?_)
            refine (C3.out).mono ?_; rintro e w8 ⟨rfl, ht⟩
            have HN : Hid (∃ S, Tab w w8 b S [rB bx (ks .u64 s), rB w.heap.size (ks .u64 a1 ++ [Value.bool o1])] ∧ Mn S false (j + 1) s) := ⟨_, ht, M3.out⟩
            clear ht C3
            go_wp2_with fail
            go_roundw
            case rel => exact ⟨j + 1, by omega, by go_num, HN⟩
            case measure => simp [intOf]; omega
        · have hk : known (j : Int) = false := by cases h : known (j : Int) with | false => rfl | true => exact absurd ((known_iff _).1 h).1 k1
          have k3 : decide (1 ≤ (j : Int)) = false := by simp; omega
          rw [hk] at C1 C2
          have C1' : Hid (Calls Try.prog 13 #[.pointer (some ⟨b, 0, none⟩), .int .i64 (j : Int), AV .u64 s] wr fun e w' => e = .returned (.int .i64 1) ∧ Tab w w' b (aftBeg S j s) _) := C1
          clear C1
          go_wp2_with (first | refine blk_load rfl 25 _ rfl bx rfl (ks .u64 s) (HT.out.sep.blk 0 rfl) _ Try.underlying25 rfl HSZ.out ?_)
          refine (C1'.out).mono ?_; rintro e w7 ⟨rfl, ht⟩
          have H7 := Lib.hid ht
          clear ht C1'
          have C3 : Hid (Calls Try.prog 13 #[.pointer (some ⟨b, 0, none⟩), .int .i64 (j : Int), AV .u64 s] w7 fun e w' => e = .returned (.int .i64 1) ∧ Tab w w' b (aftBeg (aftBeg S j s) j s) _) := C2.out w7 H7.out
          clear C2
          go_wp2_with (first | refine blk_loadg (by rfl) 25 _ rfl bx rfl (ks .u64 s) (H7.out.sep.blk 0 rfl) _ Try.underlying25 rfl HSZ.out ?_)
          refine (C3.out).mono ?_; rintro e w8 ⟨rfl, ht⟩
          have HN : Hid (∃ S, Tab w w8 b S [rB bx (ks .u64 s), rB w.heap.size (ks .u64 a1 ++ [Value.bool o1])] ∧ Mn S false (j + 1) s) := ⟨_, ht, M3.out⟩
          clear ht C3
          go_wp2_with fail
          go_roundw
          case rel => exact ⟨j + 1, by omega, by go_num, HN⟩
          case measure => simp [intOf]; omega
      · obtain rfl : j = 10 := by omega
        obtain ⟨S, hT, hM⟩ := HLr.out
        have HMM := mn_many hT.good hM
        have HT := Lib.hid hT
        have HM := Lib.hid hM
        clear hT hM HLr
        by_cases k1 : 1 ≤ a0
        · by_cases k2 : a0 ≤ 8
          · have hk : known a0 = true := (known_iff _).2 ⟨k1, k2⟩
            have HOK : Hid (okSee a0 s = false) := by show _ = _; unfold okSee; rw [HQ.out, hk]; rfl
            have HOP : Hid ((gt S a0).opn = false) := by show _ = _; rw [HM.out.opn, hk]; rfl
            obtain ⟨x, HX⟩ : ∃ x, Hid ((gt S a0).snap = x) := ⟨_, rfl⟩
            have HX4 : Hid (x.length = 4) := by show _ = _; rw [← HX.out]; exact (gt_ok HT.out.good.ok a0).snap.1
            have HXZ : Hid ((Try.prog.info? 25).map (·.size) = some (ks .u64 x).length) := by show _ = _; rw [ks_length, HX4.out]; exact Try.size_v
            have HXL : Hid ((ks .u64 x).length = (ks .u64 [0, 0, 0, 0]).length) := by show _ = _; rw [ks_length, HX4.out]; rfl
            have HER : Hid (errEnd (aftSee S a0 s) a0 = 5) := by
              show _ = _
              unfold errEnd aftSee
              rw [HOK.out]
              skip
              show (if (gt S a0).opn = true then (0 : Int) else 5) = 5
              rw [HOP.out]; rfl
            have HMY : Hid ((many S : Int) = 0) := by show _ = _; rw [HMM]; rfl
            have H9 := HT
            clear hk HMM HM
            have C := Lib.hid (tsnap_any H9.out a0)
            rw [HX.out, HOP.out] at C
            go_wp2_with fail
            refine (C.out).mono ?_; rintro e w10 ⟨rfl, hb⟩
            have H10 := Lib.hid (H9.out.below hb)
            clear hb C H9 HT
            go_wp2_with (first | refine blk_alloc rfl 25 (ks .u64 [0, 0, 0, 0]) rfl Try.info_v ?_)
            intro w11 A11 B11 Z11
            have HA := Lib.hid A11
            have HB := Lib.hid B11
            have HZ := Lib.hid Z11
            clear A11 B11 Z11
            go_wp2_with (first | refine blk_store rfl 25 _ _ rfl w10.heap.size rfl (ks .u64 x) rfl (ks .u64 [0, 0, 0, 0]) HA.out HXL.out HXZ.out (ks_all _ _) ?_)
            intro w12 A12 U12
            have H12 := Lib.hid (H10.out.fresh HB.out HZ.out U12 A12)
            clear A12 U12 HA HB HZ H10
            have C := Lib.hid (tmany_any H12.out)
            rw [HMY.out] at C
            go_wp2_with fail
            refine (C.out).mono ?_; rintro e w13 ⟨rfl, hb⟩
            have H13 := Lib.hid (H12.out.below hb)
            clear hb C H12
            have C := Lib.hid (tsee_any H13.out a0 s HSO.out)
            rw [HOK.out] at C
            go_wp2_with (first | refine blk_loadg (by rfl) 25 _ rfl bx rfl (ks .u64 s) (H13.out.sep.blk 1 rfl) _ Try.underlying25 rfl HSZ.out ?_)
            refine (C.out).mono ?_; rintro e w14 ⟨rfl, ht⟩
            have H14 := Lib.hid ht
            clear ht C H13
            have C := Lib.hid (tend_any H14.out a0)
            rw [HER.out] at C
            go_wp2_with fail
            refine (C.out).mono ?_; rintro e w15 ⟨rfl, ht⟩
            have HF := Lib.hid ht.under
            clear ht C
            go_wp2_with fail
            go_ret
            exact ⟨rfl, HF.out⟩
          · have hk : known a0 = false := by cases h : known a0 with | false => rfl | true => exact absurd ((known_iff _).1 h).2 k2
            have k3 : decide (a0 ≤ 8) = false := by simp; omega
            have HOK : Hid (okSee a0 s = false) := by show _ = _; unfold okSee; rw [HQ.out, hk]; rfl
            have HOP : Hid ((gt S a0).opn = false) := by show _ = _; rw [HM.out.opn, hk]; rfl
            obtain ⟨x, HX⟩ : ∃ x, Hid ((gt S a0).snap = x) := ⟨_, rfl⟩
            have HX4 : Hid (x.length = 4) := by show _ = _; rw [← HX.out]; exact (gt_ok HT.out.good.ok a0).snap.1
            have HXZ : Hid ((Try.prog.info? 25).map (·.size) = some (ks .u64 x).length) := by show _ = _; rw [ks_length, HX4.out]; exact Try.size_v
            have HXL : Hid ((ks .u64 x).length = (ks .u64 [0, 0, 0, 0]).length) := by show _ = _; rw [ks_length, HX4.out]; rfl
            have HER : Hid (errEnd (aftSee S a0 s) a0 = 5) := by
              show _ = _
              unfold errEnd aftSee
              rw [HOK.out]
              skip
              show (if (gt S a0).opn = true then (0 : Int) else 5) = 5
              rw [HOP.out]; rfl
            have HMY : Hid ((many S : Int) = 0) := by show _ = _; rw [HMM]; rfl
            have H9 := HT
            clear hk HMM HM
            have C := Lib.hid (tsnap_any H9.out a0)
            rw [HX.out, HOP.out] at C
            go_wp2_with fail
            refine (C.out).mono ?_; rintro e w10 ⟨rfl, hb⟩
            have H10 := Lib.hid (H9.out.below hb)
            clear hb C H9 HT
            go_wp2_with (first | refine blk_alloc rfl 25 (ks .u64 [0, 0, 0, 0]) rfl Try.info_v ?_)
            intro w11 A11 B11 Z11
            have HA := Lib.hid A11
            have HB := Lib.hid B11
            have HZ := Lib.hid Z11
            clear A11 B11 Z11
            go_wp2_with (first | refine blk_store rfl 25 _ _ rfl w10.heap.size rfl (ks .u64 x) rfl (ks .u64 [0, 0, 0, 0]) HA.out HXL.out HXZ.out (ks_all _ _) ?_)
            intro w12 A12 U12
            have H12 := Lib.hid (H10.out.fresh HB.out HZ.out U12 A12)
            clear A12 U12 HA HB HZ H10
            have C := Lib.hid (tmany_any H12.out)
            rw [HMY.out] at C
            go_wp2_with fail
            refine (C.out).mono ?_; rintro e w13 ⟨rfl, hb⟩
            have H13 := Lib.hid (H12.out.below hb)
            clear hb C H12
            have C := Lib.hid (tsee_any H13.out a0 s HSO.out)
            rw [HOK.out] at C
            go_wp2_with (first | refine blk_loadg (by rfl) 25 _ rfl bx rfl (ks .u64 s) (H13.out.sep.blk 1 rfl) _ Try.underlying25 rfl HSZ.out ?_)
            refine (C.out).mono ?_; rintro e w14 ⟨rfl, ht⟩
            have H14 := Lib.hid ht
            clear ht C H13
            have C := Lib.hid (tend_any H14.out a0)
            rw [HER.out] at C
            go_wp2_with fail
            refine (C.out).mono ?_; rintro e w15 ⟨rfl, ht⟩
            have HF := Lib.hid ht.under
            clear ht C
            go_wp2_with fail
            go_ret
            exact ⟨rfl, HF.out⟩
        · have hk : known a0 = false := by cases h : known a0 with | false => rfl | true => exact absurd ((known_iff _).1 h).1 k1
          have k3 : decide (1 ≤ a0) = false := by simp; omega
          have HOK : Hid (okSee a0 s = false) := by show _ = _; unfold okSee; rw [HQ.out, hk]; rfl
          have HOP : Hid ((gt S a0).opn = false) := by show _ = _; rw [HM.out.opn, hk]; rfl
          obtain ⟨x, HX⟩ : ∃ x, Hid ((gt S a0).snap = x) := ⟨_, rfl⟩
          have HX4 : Hid (x.length = 4) := by show _ = _; rw [← HX.out]; exact (gt_ok HT.out.good.ok a0).snap.1
          have HXZ : Hid ((Try.prog.info? 25).map (·.size) = some (ks .u64 x).length) := by show _ = _; rw [ks_length, HX4.out]; exact Try.size_v
          have HXL : Hid ((ks .u64 x).length = (ks .u64 [0, 0, 0, 0]).length) := by show _ = _; rw [ks_length, HX4.out]; rfl
          have HER : Hid (errEnd (aftSee S a0 s) a0 = 5) := by
            show _ = _
            unfold errEnd aftSee
            rw [HOK.out]
            skip
            show (if (gt S a0).opn = true then (0 : Int) else 5) = 5
            rw [HOP.out]; rfl
          have HMY : Hid ((many S : Int) = 0) := by show _ = _; rw [HMM]; rfl
          have H9 := HT
          clear hk HMM HM
          have C := Lib.hid (tsnap_any H9.out a0)
          rw [HX.out, HOP.out] at C
          go_wp2_with fail
          refine (C.out).mono ?_; rintro e w10 ⟨rfl, hb⟩
          have H10 := Lib.hid (H9.out.below hb)
          clear hb C H9 HT
          go_wp2_with (first | refine blk_alloc rfl 25 (ks .u64 [0, 0, 0, 0]) rfl Try.info_v ?_)
          intro w11 A11 B11 Z11
          have HA := Lib.hid A11
          have HB := Lib.hid B11
          have HZ := Lib.hid Z11
          clear A11 B11 Z11
          go_wp2_with (first | refine blk_store rfl 25 _ _ rfl w10.heap.size rfl (ks .u64 x) rfl (ks .u64 [0, 0, 0, 0]) HA.out HXL.out HXZ.out (ks_all _ _) ?_)
          intro w12 A12 U12
          have H12 := Lib.hid (H10.out.fresh HB.out HZ.out U12 A12)
          clear A12 U12 HA HB HZ H10
          have C := Lib.hid (tmany_any H12.out)
          rw [HMY.out] at C
          go_wp2_with fail
          refine (C.out).mono ?_; rintro e w13 ⟨rfl, hb⟩
          have H13 := Lib.hid (H12.out.below hb)
          clear hb C H12
          have C := Lib.hid (tsee_any H13.out a0 s HSO.out)
          rw [HOK.out] at C
          go_wp2_with (first | refine blk_loadg (by rfl) 25 _ rfl bx rfl (ks .u64 s) (H13.out.sep.blk 1 rfl) _ Try.underlying25 rfl HSZ.out ?_)
          refine (C.out).mono ?_; rintro e w14 ⟨rfl, ht⟩
          have H14 := Lib.hid ht
          clear ht C H13
          have C := Lib.hid (tend_any H14.out a0)
          rw [HER.out] at C
          go_wp2_with fail
          refine (C.out).mono ?_; rintro e w15 ⟨rfl, ht⟩
          have HF := Lib.hid ht.under
          clear ht C
          go_wp2_with fail
          go_ret
          exact ⟨rfl, HF.out⟩

set_option maxRecDepth 100000 in
theorem lifted (os : Os) (started : os.Started) (H : Type) (enc : TypeId × Value → H) :
    ReturnsInHanded {} Try.checked os 7 .any (Rows.sessManySpec.pre6 enc Try.prog Try.f7 Rows.sessManyRow.domain false) (Rows.sessManySpec.post enc Try.prog Try.f7 false true false false) := by
  refine returnsInHanded_of_change_sized (C := Try.checked) own started (by kernel_rfl) Try.func7
    (ChangeSpec.witness6 (enc := enc) (C := Try.checked) false ⟨#[], #[.int .i64 0, .agg #[.int .u64 0, .int .u64 0, .int .u64 0, .int .u64 0, .bool false]], []⟩ 8 (by kernel_rfl) (by kernel_rfl) (by kernel_rfl) (by kernel_rfl)) ?_
  intro W base args ds gs before hval0 hW hcnd hsz0 _
  have hval : ∀ (j : Nat) t v, Try.f7.params[j]? = some t → args[j]? = some v → Value.okWide Try.prog W .any base t v := hval0
  have hW' := hW
  obtain ⟨p, q, hA0, hV, rfl, hfz, hnd⟩ := hW
  have hA : DataW.TrodAll enc Try.prog W 0 (fun _ => true) true Try.f7.params.toList args.toList ds p := hA0
  have hsz : (DataW.weightsEach Try.prog (Try.f7.params.toList ++ Rows.sessManySpec.plain.varTypes Try.prog) (ds ++ gs)).all (· ≤ reachBytes) = true := hsz0
  rw [Try.params7] at hA hval hsz
  obtain ⟨rfl, rfl⟩ := trodVars_none hV
  have hAk := hA
  have hlt : ∀ x ∈ p, x.block < W.heap.size := fun x hx => by simpa using hW'.lt x (List.mem_append.2 (.inl hx))
  obtain ⟨v0, vs0, d0, ds0, p0, q0, hargs, rfl, rfl, h0, r0⟩ := trodAll_cons hA
  obtain ⟨v1, vs1, d1, ds1, p1, q1, rfl, rfl, rfl, h1, r1⟩ := trodAll_cons r0
  obtain ⟨rfl, rfl, rfl⟩ := trodAll_nil r1
  obtain rfl : args = #[v0, v1] := by cases args; simp_all
  obtain ⟨a0, rfl, rfl, rfl, w0⟩ := open_int Try.underlying3 (hval 0 3 v0 rfl rfl) h0
  obtain ⟨a1, o1, rfl, w1⟩ := open_vector (hval 1 27 v1 rfl rfl) h1
  clear hA0 hval0 hsz0
  refine (walk a0 a1 o1 w0 w1 W).mono fun e W' ⟨he, hg⟩ => ?_
  subst he
  exact ⟨_, rfl, _, _, _, [], _, [], hW', (trodAll_cons_mk (shut_bool Try.underlying4 _) trodAll_mk0), trodAll_below laidOut hg _ _ _ _ (by kernel_rfl) hAk hlt, rfl, hg.frame _, fun h => by cases h⟩

theorem over : Rows.sessManyRow.holds Try.pinned (OpenSpec.ofChange Rows.sessManySpec) :=
  OpenClaim.holds_of_wide 7 Try.f7 rfl rfl rfl rfl rfl rfl rfl ⟨rfl, rfl, rfl, rfl, rfl⟩ rfl rfl rfl rfl rfl (by kernel_rfl) Try.func7 (by kernel_rfl)
    (of_decide_eq_true (by kernel_rfl)) (by unfold Func.isWrapper; first | (rw [if_pos (by decide +kernel)]; kernel_rfl) | (rw [if_neg (by decide +kernel)]; exact ⟨rfl, rfl⟩))
    (fun os started H enc _ => lifted os started H enc)

/-- the statement -/
theorem proved : Rows.SessManySaid :=
  over
#print axioms proved

end Go.Proofs.Ytkiaehehckmpnaa.sessMany
