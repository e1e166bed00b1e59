/-
  A stamp is right just if its datacenter is one, has a number, and none is too great: true for every argument (the law StampBounds). No conditions.
-/
import Derived.Test.YtnmggefbajoadaaDoorFrameTab

import Derived.Test.YtnmggefbajoadaaDoorStampEx

import Derived.Test.YtnmggefbajoadaaDoorStampOf

import Derived.Test.YtnmggefbajoadaaDoorStampRB

import Derived.Test.YtnmggefbajoadaaDoorVecBackM

import Derived.Test.YtnmggefbajoadaaDoorFrameMark

namespace Go.Proofs.YtnmggefbajoadaaDoor.stampBounds

open Go.ChangeShapes Go.WideShapes Go.ChangeAt Go.RowKit

open Go.Proofs.YtnmggefbajoadaaDoor.Vc Go.Proofs.YtnmggefbajoadaaDoor.Sp

open Go.ChangeMaps (open_string shut_string)

set_option linter.unusedVariables false

set_option linter.unusedSimpArgs false

theorem dc_set {w : World} {b : Nat} {l : List Nat} {d : Int} (h : Blk w b (ks .u64 l ++ [Value.int .i64 d])) (hl : l.length = 4) (e : Int) : Blk (w.setCell ⟨b, 4, none⟩ (.int .i64 e)) b (ks .u64 l ++ [Value.int .i64 e]) := by
  have := Blk.setc h 4 (by rw [sv_len hl]; omega) (.int .i64 e)
  rwa [List.set_append_right _ _ (by rw [ks_length, hl]; omega), ks_length, hl] at this
theorem T.puts_pos (a : List Nat) (d : Int) (h : T.right a d = true) : (T.puts a d).size ≠ 0 := by
  unfold T.puts
  rw [if_pos h, P.S_size, T.put, List.length_append, P.numB_length]
  omega
set_option maxHeartbeats 16000000 in
set_option maxRecDepth 100000 in
theorem walk (a0 : List Nat) (d0 : Int) (o0 : Bool) (a1 : Int) (a2 : Int) (w0 : V.Ok a0 ∧ (Lit.int .i64 d0).wf = true) (w1 : (Lit.int .i8 a1).wf = true) (w2 : (Lit.int .u8 a2).wf = true) (w : World) (hT : Fm.Tab w) :
    Calls Tryd.prog 8 #[MV a0 d0 o0, .int .i8 a1, .int .u8 a2] w fun e w' => e = .returned (.bool true) ∧ Below w.heap.size w w' := by
  have CE := Lib.hid examples_any
  have CM0 := Lib.hid (fun w => mark_any a0 d0 true w w0.1 w0.2)
  have HL0 := Lib.hid w0.1.len
  obtain ⟨A, EA⟩ : ∃ r, Hid (T.markv a0 d0 = r) := ⟨_, rfl⟩
  obtain ⟨nA, NA⟩ : ∃ r, Hid (T.markd d0 = r) := ⟨_, rfl⟩
  have OA : Hid (V.Ok A) := by rw [← EA.out]; exact T.markv_ok HL0.out d0
  have HA : Hid (A.length = 4) := OA.out.len
  have RA : Hid (T.right A (nA : Int) = true) := by rw [← EA.out, ← NA.out]; exact T.mark_right HL0.out d0
  rw [show T.mark a0 d0 true = (T.markv a0 d0, (T.markd d0 : Int)) from rfl, EA.out, NA.out] at CM0
  have CR0 := Lib.hid (fun w => sright_any A (nA : Int) w HA.out)
  rw [RA.out] at CR0
  obtain ⟨m, rfl, hm⟩ : ∃ m : Nat, a2 = (m : Int) ∧ m ≤ 255 := by
    have hx : 0 ≤ a2 ∧ a2 ≤ 255 := by simpa [Lit.wf, IntKind.min, IntKind.max, IntKind.signed, IntKind.bits] using w2
    exact ⟨a2.toNat, by omega, by omega⟩
  have hd : -128 ≤ a1 ∧ a1 ≤ 127 := by simpa [Lit.wf, IntKind.min, IntKind.max, IntKind.signed, IntKind.bits] using w1
  obtain ⟨D, eD⟩ : ∃ D, a1.tmod 7 = D := ⟨_, rfl⟩
  have hD : -7 < D ∧ D < 7 := by
    rw [← eD]
    have h1 := Int.tmod_lt_of_pos a1 (b := 7) (by omega)
    have h2 := Int.lt_tmod_of_pos a1 (b := 7) (by omega)
    omega
  have hw8 : IntKind.i8.wrap D = D := by
    have h2 : (if 128 ≤ D % 256 then D % 256 - 256 else D % 256) = D := by split <;> omega
    simpa [IntKind.wrap, IntKind.bits, IntKind.signed] using h2
  have hw64 : IntKind.i64.wrap D = D := wrapi (by omega) (by omega)
  obtain ⟨j, ej⟩ : ∃ j, j = m % 4 := ⟨_, rfl⟩
  have hj : j < 4 := by omega
  have ij : (j : Int) < 4 := by omega
  obtain ⟨r, er⟩ : ∃ r, r = m % 3 := ⟨_, rfl⟩
  have hr : r < 3 := by omega
  have tj : (m : Int).tmod 4 = (j : Int) := by rw [Int.tmod_eq_emod_of_nonneg (by omega), ej]; rfl
  have tr : (m : Int).tmod 3 = (r : Int) := by rw [Int.tmod_eq_emod_of_nonneg (by omega), er]; rfl
  have wr1 : IntKind.u64.wrap (r : Int) = (r : Int) := wrapu (by omega) (by omega)
  have wr2 : IntKind.u64.wrap (1152921504606846976 + (r : Int)) = ((1152921504606846976 + r : Nat) : Int) := by rw [wrapu (by omega) (by omega)]; omega
  obtain ⟨A2, EA2⟩ : ∃ l, Hid (A.set j (1152921504606846976 + r) = l) := ⟨_, rfl⟩
  have OA2 : Hid (V.Ok A2) := by
    rw [← EA2.out]
    refine ⟨by rw [List.length_set]; exact HA.out, fun x hx => ?_⟩
    rcases List.mem_or_eq_of_mem_set hx with hx | rfl
    · exact OA.out.lt x hx
    · omega
  have HA2 : Hid (A2.length = 4) := OA2.out.len
  clear w0 w1 w2 hd hD ej er
  go_enter Tryd.func8, Tryd.ntmps8
  have M0 : Hid (Kept w w []) := Kept.start w
  go_wp2_with (first | refine blk_box rfl 28 _ rfl (ks .u64 a0 ++ [Value.int .i64 d0, Value.bool o0]) rfl ?_)
  intro k1 A1 B1 Z1
  have M2 : Hid (Kept w k1 [(w.heap.size, ks .u64 a0 ++ [Value.int .i64 d0, Value.bool o0])]) := Kept.new M0.out B1 Z1 A1
  clear A1 B1 M0
  go_wp2_with fail
  clear Z1
  refine (CE.out _).mono ?_; rintro e k3 ⟨rfl, hb3⟩
  have M4 : Hid (Kept w k3 [(w.heap.size, ks .u64 a0 ++ [Value.int .i64 d0, Value.bool o0])]) := Kept.below M2.out hb3
  clear hb3 M2
  obtain ⟨co5, fo5⟩ := own_at (Kept.get M4.out 0 rfl) HL0.out
  have HN5 := Lib.hid (own_set (Kept.get M4.out 0 rfl) HL0.out true)
  have M6 : Hid (Kept w (k3.setCell ⟨w.heap.size, 5, none⟩ (.bool true)) [(w.heap.size, ks .u64 a0 ++ [Value.int .i64 d0, Value.bool true])]) := Kept.updAt M4.out 0 rfl (by omega) (by simp; try omega) (Upd.setCell _ _ _ _) HN5.out
  clear HN5 M4
  go_wp2_with (first | refine blk_load rfl 28 _ rfl (w.heap.size) rfl (ks .u64 a0 ++ [Value.int .i64 d0, Value.bool true]) (Kept.get M6.out 0 rfl) _ Tryd.underlying28 rfl (size_m HL0.out) ?_)
  clear co5 fo5
  refine (CM0.out _).mono ?_; rintro e k7 ⟨rfl, hb7⟩
  have M8 : Hid (Kept w k7 [(w.heap.size, ks .u64 a0 ++ [Value.int .i64 d0, Value.bool true])]) := Kept.below M6.out hb7
  clear hb7 M6
  have LT : Hid (w.heap.size < k7.heap.size) := (M8.out.mem _ (List.mem_cons_self ..)).2
  go_wp2_with (first | refine blk_alloc rfl 26 (ks .u64 (List.replicate 4 0) ++ [Value.int .i64 0]) rfl Tryd.info_s ?_)
  intro k9 A9 B9 Z9
  go_wp2_with (first | refine blk_store rfl 26 _ _ rfl k7.heap.size rfl (ks .u64 A ++ [Value.int .i64 (nA : Int)]) rfl _ A9 (sv_len HA.out) (size_s HA.out) (one_sv _ _) ?_)
  intro k10 A10 U10
  have M11 : Hid (Kept w k10 [(k7.heap.size, ks .u64 A ++ [Value.int .i64 (nA : Int)]), (w.heap.size, ks .u64 a0 ++ [Value.int .i64 d0, Value.bool true])]) := Kept.fresh M8.out B9 Z9 U10 A10
  clear A9 B9 Z9 A10 U10 M8
  go_wp2_with (first | refine blk_load rfl 26 _ rfl (k7.heap.size) rfl (ks .u64 A ++ [Value.int .i64 (nA : Int)]) (Kept.get M11.out 0 rfl) _ Tryd.underlying26 rfl (size_s HA.out) ?_)
  refine (CR0.out _).mono ?_; rintro e k12 ⟨rfl, hb12⟩
  have M13 : Hid (Kept w k12 [(k7.heap.size, ks .u64 A ++ [Value.int .i64 (nA : Int)]), (w.heap.size, ks .u64 a0 ++ [Value.int .i64 d0, Value.bool true])]) := Kept.below M11.out hb12
  clear hb12 M11
  have lt := LT.out
  have c4 := dc_cell (Kept.get M13.out 0 rfl) HA.out
  have f4 := (Kept.get M13.out 0 rfl).free 4 (by rw [sv_len HA.out]; omega)
  have M14 : Hid (Kept w (k12.setCell ⟨k7.heap.size, 4, none⟩ (.int .i64 D)) [(k7.heap.size, ks .u64 A ++ [Value.int .i64 D]), (w.heap.size, ks .u64 a0 ++ [Value.int .i64 d0, Value.bool true])]) := Kept.updAt M13.out 0 rfl (by omega) (by simp; omega) (Upd.setCell _ _ _ _) (dc_set (Kept.get M13.out 0 rfl) HA.out D)
  clear M13
  by_cases hb : 250 < m
  · have ib : (250 : Int) < (m : Int) := by omega
    have cj := vec_cell (Kept.get M14.out 0 rfl) j (by rw [HA.out]; exact hj)
    have fj := vec_free (Kept.get M14.out 0 rfl) j (by rw [HA.out]; exact hj)
    have hset := Blk.setv (Kept.get M14.out 0 rfl) j (1152921504606846976 + r) (by rw [HA.out]; exact hj)
    rw [EA2.out] at hset
    generalize A.getD j 0 = old at cj
    have M15 : Hid (Kept w ((k12.setCell ⟨k7.heap.size, 4, none⟩ (.int .i64 D)).setCell ⟨k7.heap.size, j, none⟩ (.int .u64 ((1152921504606846976 + r : Nat) : Int))) [(k7.heap.size, ks .u64 A2 ++ [Value.int .i64 D]), (w.heap.size, ks .u64 a0 ++ [Value.int .i64 d0, Value.bool true])]) := Kept.updAt M14.out 0 rfl (by omega) (by simp; omega) (Upd.setCell _ _ _ _) hset
    clear hset M14
    have c5 := dc_cell (Kept.get M15.out 0 rfl) HA2.out
    have CA := Lib.hid (fun w => at_any A2 D w HA2.out)
    have CN := Lib.hid (fun w => sn_any A2 D w HA2.out)
    have CP := Lib.hid (fun w => sput_any A2 D w OA2.out)
    have CR := Lib.hid (fun w => sright_any A2 D w HA2.out)
    have CV := Lib.hid (fun w => right_any A2 w HA2.out)
    have HTR : Hid (T.right A2 D = (V.right A2 && decide (1 ≤ V.at_ A2 D))) := rfl
    have HTN : Hid (V.known D = false → V.at_ A2 D = 0) := fun h => V.at_none _ _ h
    have HTP : Hid (T.right A2 D = true → (T.puts A2 D).size ≠ 0) := fun h => T.puts_pos A2 D h
    have HTE : Hid (T.right A2 D = false → T.puts A2 D = ⟨#[]⟩) := fun h => by unfold T.puts; rw [h]; rfl
    obtain ⟨n, QN⟩ : ∃ r, Hid (V.at_ A2 D = r) := ⟨_, rfl⟩
    obtain ⟨rr, QR⟩ : ∃ r, Hid (T.right A2 D = r) := ⟨_, rfl⟩
    obtain ⟨rv, QV⟩ : ∃ r, Hid (V.right A2 = r) := ⟨_, rfl⟩
    obtain ⟨tt, QT⟩ : ∃ r, Hid (T.puts A2 D = r) := ⟨_, rfl⟩
    rw [QN.out] at CA CN HTR HTN
    rw [QR.out] at CR CP HTR HTP HTE
    rw [QV.out] at CV HTR
    rw [QT.out] at CP HTP HTE
    go_wp2_with (first | refine row_load rfl .u64 24 _ rfl (k7.heap.size) 0 rfl A2 (rowp (Kept.get M15.out 0 rfl)) 4 22 Tryd.underlying24 (size_v HA2.out) ?_)
    refine (CA.out _).mono ?_; rintro e k16 ⟨rfl, hb16⟩
    have M17 : Hid (Kept w k16 [(k7.heap.size, ks .u64 A2 ++ [Value.int .i64 D]), (w.heap.size, ks .u64 a0 ++ [Value.int .i64 d0, Value.bool true])]) := Kept.below M15.out hb16
    clear hb16 M15
    clear c5 CA cj fj
    go_wp2_with (first | refine blk_load rfl 26 _ rfl (k7.heap.size) rfl (ks .u64 A2 ++ [Value.int .i64 D]) (Kept.get M17.out 0 rfl) _ Tryd.underlying26 rfl (size_s HA2.out) ?_)
    refine (CP.out _).mono ?_; rintro e k18 ⟨rfl, hb18⟩
    have M19 : Hid (Kept w k18 [(k7.heap.size, ks .u64 A2 ++ [Value.int .i64 D]), (w.heap.size, ks .u64 a0 ++ [Value.int .i64 d0, Value.bool true])]) := Kept.below M17.out hb18
    clear hb18 M17
    clear CP
    have c6 := dc_cell (Kept.get M19.out 0 rfl) HA2.out
    by_cases h1 : 1 ≤ D
    · by_cases h2 : D ≤ 4
      · by_cases h3 : 1 ≤ n
        · have i3 : (1 : Int) ≤ (n : Int) := by omega
          go_wp2_with (first | refine row_loadg rfl .u64 24 _ rfl (k7.heap.size) 0 rfl A2 (rowp (Kept.get M19.out 0 rfl)) 4 22 Tryd.underlying24 (size_v HA2.out) ?_)
          refine (CV.out _).mono ?_; rintro e k20 ⟨rfl, hb20⟩
          have M21 : Hid (Kept w k20 [(k7.heap.size, ks .u64 A2 ++ [Value.int .i64 D]), (w.heap.size, ks .u64 a0 ++ [Value.int .i64 d0, Value.bool true])]) := Kept.below M19.out hb20
          clear hb20 M19
          cases rv with
          | false =>
            obtain rfl : rr = false := by rw [HTR.out]; rfl
            obtain rfl : tt = ⟨#[]⟩ := HTE.out rfl
            go_wp2_with (first | refine blk_loadg rfl 26 _ rfl (k7.heap.size) rfl (ks .u64 A2 ++ [Value.int .i64 D]) (Kept.get M21.out 0 rfl) _ Tryd.underlying26 rfl (size_s HA2.out) ?_)
            refine (CR.out _).mono ?_; rintro e k22 ⟨rfl, hb22⟩
            have M23 : Hid (Kept w k22 [(k7.heap.size, ks .u64 A2 ++ [Value.int .i64 D]), (w.heap.size, ks .u64 a0 ++ [Value.int .i64 d0, Value.bool true])]) := Kept.below M21.out hb22
            clear hb22 M21
            go_wp2_with (first | refine blk_loadg rfl 26 _ rfl (k7.heap.size) rfl (ks .u64 A2 ++ [Value.int .i64 D]) (Kept.get M23.out 0 rfl) _ Tryd.underlying26 rfl (size_s HA2.out) ?_)
            refine (CN.out _).mono ?_; rintro e k24 ⟨rfl, hb24⟩
            have M25 : Hid (Kept w k24 [(k7.heap.size, ks .u64 A2 ++ [Value.int .i64 D]), (w.heap.size, ks .u64 a0 ++ [Value.int .i64 d0, Value.bool true])]) := Kept.below M23.out hb24
            clear hb24 M23
            go_wp2_with fail
            go_ret
            exact ⟨rfl, M25.out.under⟩
          | true =>
            obtain rfl : rr = true := by rw [HTR.out]; simpa using h3
            have hE := V.empty_not tt (HTP.out rfl)
            go_wp2_with (first | refine blk_loadg rfl 26 _ rfl (k7.heap.size) rfl (ks .u64 A2 ++ [Value.int .i64 D]) (Kept.get M21.out 0 rfl) _ Tryd.underlying26 rfl (size_s HA2.out) ?_)
            refine (CR.out _).mono ?_; rintro e k22 ⟨rfl, hb22⟩
            have M23 : Hid (Kept w k22 [(k7.heap.size, ks .u64 A2 ++ [Value.int .i64 D]), (w.heap.size, ks .u64 a0 ++ [Value.int .i64 d0, Value.bool true])]) := Kept.below M21.out hb22
            clear hb22 M21
            go_wp2_with (first | refine blk_loadg rfl 26 _ rfl (k7.heap.size) rfl (ks .u64 A2 ++ [Value.int .i64 D]) (Kept.get M23.out 0 rfl) _ Tryd.underlying26 rfl (size_s HA2.out) ?_)
            refine (CN.out _).mono ?_; rintro e k24 ⟨rfl, hb24⟩
            have M25 : Hid (Kept w k24 [(k7.heap.size, ks .u64 A2 ++ [Value.int .i64 D]), (w.heap.size, ks .u64 a0 ++ [Value.int .i64 d0, Value.bool true])]) := Kept.below M23.out hb24
            clear hb24 M23
            go_wp2_with fail
            go_ret
            exact ⟨rfl, M25.out.under⟩
        · have i3 : ¬ (1 : Int) ≤ (n : Int) := by omega
          have i3' : decide ((1 : Int) ≤ (n : Int)) = false := by simp; omega
          obtain rfl : rr = false := by rw [HTR.out]; simp [h3]
          obtain rfl : tt = ⟨#[]⟩ := HTE.out rfl
          go_wp2_with (first | refine blk_loadg rfl 26 _ rfl (k7.heap.size) rfl (ks .u64 A2 ++ [Value.int .i64 D]) (Kept.get M19.out 0 rfl) _ Tryd.underlying26 rfl (size_s HA2.out) ?_)
          refine (CR.out _).mono ?_; rintro e k20 ⟨rfl, hb20⟩
          have M21 : Hid (Kept w k20 [(k7.heap.size, ks .u64 A2 ++ [Value.int .i64 D]), (w.heap.size, ks .u64 a0 ++ [Value.int .i64 d0, Value.bool true])]) := Kept.below M19.out hb20
          clear hb20 M19
          go_wp2_with (first | refine blk_loadg rfl 26 _ rfl (k7.heap.size) rfl (ks .u64 A2 ++ [Value.int .i64 D]) (Kept.get M21.out 0 rfl) _ Tryd.underlying26 rfl (size_s HA2.out) ?_)
          refine (CN.out _).mono ?_; rintro e k22 ⟨rfl, hb22⟩
          have M23 : Hid (Kept w k22 [(k7.heap.size, ks .u64 A2 ++ [Value.int .i64 D]), (w.heap.size, ks .u64 a0 ++ [Value.int .i64 d0, Value.bool true])]) := Kept.below M21.out hb22
          clear hb22 M21
          go_wp2_with fail
          go_ret
          exact ⟨rfl, M23.out.under⟩
      · obtain rfl : n = 0 := HTN.out (by simp [V.known]; omega)
        have i2 : decide (D ≤ 4) = false := by simp; omega
        obtain rfl : rr = false := by rw [HTR.out]; simp
        obtain rfl : tt = ⟨#[]⟩ := HTE.out rfl
        go_wp2_with (first | refine blk_loadg rfl 26 _ rfl (k7.heap.size) rfl (ks .u64 A2 ++ [Value.int .i64 D]) (Kept.get M19.out 0 rfl) _ Tryd.underlying26 rfl (size_s HA2.out) ?_)
        refine (CR.out _).mono ?_; rintro e k20 ⟨rfl, hb20⟩
        have M21 : Hid (Kept w k20 [(k7.heap.size, ks .u64 A2 ++ [Value.int .i64 D]), (w.heap.size, ks .u64 a0 ++ [Value.int .i64 d0, Value.bool true])]) := Kept.below M19.out hb20
        clear hb20 M19
        go_wp2_with (first | refine blk_loadg rfl 26 _ rfl (k7.heap.size) rfl (ks .u64 A2 ++ [Value.int .i64 D]) (Kept.get M21.out 0 rfl) _ Tryd.underlying26 rfl (size_s HA2.out) ?_)
        refine (CN.out _).mono ?_; rintro e k22 ⟨rfl, hb22⟩
        have M23 : Hid (Kept w k22 [(k7.heap.size, ks .u64 A2 ++ [Value.int .i64 D]), (w.heap.size, ks .u64 a0 ++ [Value.int .i64 d0, Value.bool true])]) := Kept.below M21.out hb22
        clear hb22 M21
        go_wp2_with fail
        go_ret
        exact ⟨rfl, M23.out.under⟩
    · obtain rfl : n = 0 := HTN.out (by simp [V.known]; omega)
      have i1 : decide (1 ≤ D) = false := by simp; omega
      obtain rfl : rr = false := by rw [HTR.out]; simp
      obtain rfl : tt = ⟨#[]⟩ := HTE.out rfl
      go_wp2_with (first | refine blk_loadg rfl 26 _ rfl (k7.heap.size) rfl (ks .u64 A2 ++ [Value.int .i64 D]) (Kept.get M19.out 0 rfl) _ Tryd.underlying26 rfl (size_s HA2.out) ?_)
      refine (CR.out _).mono ?_; rintro e k20 ⟨rfl, hb20⟩
      have M21 : Hid (Kept w k20 [(k7.heap.size, ks .u64 A2 ++ [Value.int .i64 D]), (w.heap.size, ks .u64 a0 ++ [Value.int .i64 d0, Value.bool true])]) := Kept.below M19.out hb20
      clear hb20 M19
      go_wp2_with (first | refine blk_loadg rfl 26 _ rfl (k7.heap.size) rfl (ks .u64 A2 ++ [Value.int .i64 D]) (Kept.get M21.out 0 rfl) _ Tryd.underlying26 rfl (size_s HA2.out) ?_)
      refine (CN.out _).mono ?_; rintro e k22 ⟨rfl, hb22⟩
      have M23 : Hid (Kept w k22 [(k7.heap.size, ks .u64 A2 ++ [Value.int .i64 D]), (w.heap.size, ks .u64 a0 ++ [Value.int .i64 d0, Value.bool true])]) := Kept.below M21.out hb22
      clear hb22 M21
      go_wp2_with fail
      go_ret
      exact ⟨rfl, M23.out.under⟩
  · have ib : ¬ (250 : Int) < (m : Int) := by omega
    have c5 := dc_cell (Kept.get M14.out 0 rfl) HA.out
    have CA := Lib.hid (fun w => at_any A D w HA.out)
    have CN := Lib.hid (fun w => sn_any A D w HA.out)
    have CP := Lib.hid (fun w => sput_any A D w OA.out)
    have CR := Lib.hid (fun w => sright_any A D w HA.out)
    have CV := Lib.hid (fun w => right_any A w HA.out)
    have HTR : Hid (T.right A D = (V.right A && decide (1 ≤ V.at_ A D))) := rfl
    have HTN : Hid (V.known D = false → V.at_ A D = 0) := fun h => V.at_none _ _ h
    have HTP : Hid (T.right A D = true → (T.puts A D).size ≠ 0) := fun h => T.puts_pos A D h
    have HTE : Hid (T.right A D = false → T.puts A D = ⟨#[]⟩) := fun h => by unfold T.puts; rw [h]; rfl
    obtain ⟨n, QN⟩ : ∃ r, Hid (V.at_ A D = r) := ⟨_, rfl⟩
    obtain ⟨rr, QR⟩ : ∃ r, Hid (T.right A D = r) := ⟨_, rfl⟩
    obtain ⟨rv, QV⟩ : ∃ r, Hid (V.right A = r) := ⟨_, rfl⟩
    obtain ⟨tt, QT⟩ : ∃ r, Hid (T.puts A D = r) := ⟨_, rfl⟩
    rw [QN.out] at CA CN HTR HTN
    rw [QR.out] at CR CP HTR HTP HTE
    rw [QV.out] at CV HTR
    rw [QT.out] at CP HTP HTE
    go_wp2_with (first | refine row_load rfl .u64 24 _ rfl (k7.heap.size) 0 rfl A (rowp (Kept.get M14.out 0 rfl)) 4 22 Tryd.underlying24 (size_v HA.out) ?_)
    refine (CA.out _).mono ?_; rintro e k15 ⟨rfl, hb15⟩
    have M16 : Hid (Kept w k15 [(k7.heap.size, ks .u64 A ++ [Value.int .i64 D]), (w.heap.size, ks .u64 a0 ++ [Value.int .i64 d0, Value.bool true])]) := Kept.below M14.out hb15
    clear hb15 M14
    clear c5 CA
    go_wp2_with (first | refine blk_load rfl 26 _ rfl (k7.heap.size) rfl (ks .u64 A ++ [Value.int .i64 D]) (Kept.get M16.out 0 rfl) _ Tryd.underlying26 rfl (size_s HA.out) ?_)
    refine (CP.out _).mono ?_; rintro e k17 ⟨rfl, hb17⟩
    have M18 : Hid (Kept w k17 [(k7.heap.size, ks .u64 A ++ [Value.int .i64 D]), (w.heap.size, ks .u64 a0 ++ [Value.int .i64 d0, Value.bool true])]) := Kept.below M16.out hb17
    clear hb17 M16
    clear CP
    have c6 := dc_cell (Kept.get M18.out 0 rfl) HA.out
    by_cases h1 : 1 ≤ D
    · by_cases h2 : D ≤ 4
      · by_cases h3 : 1 ≤ n
        · have i3 : (1 : Int) ≤ (n : Int) := by omega
          go_wp2_with (first | refine row_loadg rfl .u64 24 _ rfl (k7.heap.size) 0 rfl A (rowp (Kept.get M18.out 0 rfl)) 4 22 Tryd.underlying24 (size_v HA.out) ?_)
          refine (CV.out _).mono ?_; rintro e k19 ⟨rfl, hb19⟩
          have M20 : Hid (Kept w k19 [(k7.heap.size, ks .u64 A ++ [Value.int .i64 D]), (w.heap.size, ks .u64 a0 ++ [Value.int .i64 d0, Value.bool true])]) := Kept.below M18.out hb19
          clear hb19 M18
          cases rv with
          | false =>
            obtain rfl : rr = false := by rw [HTR.out]; rfl
            obtain rfl : tt = ⟨#[]⟩ := HTE.out rfl
            go_wp2_with (first | refine blk_loadg rfl 26 _ rfl (k7.heap.size) rfl (ks .u64 A ++ [Value.int .i64 D]) (Kept.get M20.out 0 rfl) _ Tryd.underlying26 rfl (size_s HA.out) ?_)
            refine (CR.out _).mono ?_; rintro e k21 ⟨rfl, hb21⟩
            have M22 : Hid (Kept w k21 [(k7.heap.size, ks .u64 A ++ [Value.int .i64 D]), (w.heap.size, ks .u64 a0 ++ [Value.int .i64 d0, Value.bool true])]) := Kept.below M20.out hb21
            clear hb21 M20
            go_wp2_with (first | refine blk_loadg rfl 26 _ rfl (k7.heap.size) rfl (ks .u64 A ++ [Value.int .i64 D]) (Kept.get M22.out 0 rfl) _ Tryd.underlying26 rfl (size_s HA.out) ?_)
            refine (CN.out _).mono ?_; rintro e k23 ⟨rfl, hb23⟩
            have M24 : Hid (Kept w k23 [(k7.heap.size, ks .u64 A ++ [Value.int .i64 D]), (w.heap.size, ks .u64 a0 ++ [Value.int .i64 d0, Value.bool true])]) := Kept.below M22.out hb23
            clear hb23 M22
            go_wp2_with fail
            go_ret
            exact ⟨rfl, M24.out.under⟩
          | true =>
            obtain rfl : rr = true := by rw [HTR.out]; simpa using h3
            have hE := V.empty_not tt (HTP.out rfl)
            go_wp2_with (first | refine blk_loadg rfl 26 _ rfl (k7.heap.size) rfl (ks .u64 A ++ [Value.int .i64 D]) (Kept.get M20.out 0 rfl) _ Tryd.underlying26 rfl (size_s HA.out) ?_)
            refine (CR.out _).mono ?_; rintro e k21 ⟨rfl, hb21⟩
            have M22 : Hid (Kept w k21 [(k7.heap.size, ks .u64 A ++ [Value.int .i64 D]), (w.heap.size, ks .u64 a0 ++ [Value.int .i64 d0, Value.bool true])]) := Kept.below M20.out hb21
            clear hb21 M20
            go_wp2_with (first | refine blk_loadg rfl 26 _ rfl (k7.heap.size) rfl (ks .u64 A ++ [Value.int .i64 D]) (Kept.get M22.out 0 rfl) _ Tryd.underlying26 rfl (size_s HA.out) ?_)
            refine (CN.out _).mono ?_; rintro e k23 ⟨rfl, hb23⟩
            have M24 : Hid (Kept w k23 [(k7.heap.size, ks .u64 A ++ [Value.int .i64 D]), (w.heap.size, ks .u64 a0 ++ [Value.int .i64 d0, Value.bool true])]) := Kept.below M22.out hb23
            clear hb23 M22
            go_wp2_with fail
            go_ret
            exact ⟨rfl, M24.out.under⟩
        · have i3 : ¬ (1 : Int) ≤ (n : Int) := by omega
          have i3' : decide ((1 : Int) ≤ (n : Int)) = false := by simp; omega
          obtain rfl : rr = false := by rw [HTR.out]; simp [h3]
          obtain rfl : tt = ⟨#[]⟩ := HTE.out rfl
          go_wp2_with (first | refine blk_loadg rfl 26 _ rfl (k7.heap.size) rfl (ks .u64 A ++ [Value.int .i64 D]) (Kept.get M18.out 0 rfl) _ Tryd.underlying26 rfl (size_s HA.out) ?_)
          refine (CR.out _).mono ?_; rintro e k19 ⟨rfl, hb19⟩
          have M20 : Hid (Kept w k19 [(k7.heap.size, ks .u64 A ++ [Value.int .i64 D]), (w.heap.size, ks .u64 a0 ++ [Value.int .i64 d0, Value.bool true])]) := Kept.below M18.out hb19
          clear hb19 M18
          go_wp2_with (first | refine blk_loadg rfl 26 _ rfl (k7.heap.size) rfl (ks .u64 A ++ [Value.int .i64 D]) (Kept.get M20.out 0 rfl) _ Tryd.underlying26 rfl (size_s HA.out) ?_)
          refine (CN.out _).mono ?_; rintro e k21 ⟨rfl, hb21⟩
          have M22 : Hid (Kept w k21 [(k7.heap.size, ks .u64 A ++ [Value.int .i64 D]), (w.heap.size, ks .u64 a0 ++ [Value.int .i64 d0, Value.bool true])]) := Kept.below M20.out hb21
          clear hb21 M20
          go_wp2_with fail
          go_ret
          exact ⟨rfl, M22.out.under⟩
      · obtain rfl : n = 0 := HTN.out (by simp [V.known]; omega)
        have i2 : decide (D ≤ 4) = false := by simp; omega
        obtain rfl : rr = false := by rw [HTR.out]; simp
        obtain rfl : tt = ⟨#[]⟩ := HTE.out rfl
        go_wp2_with (first | refine blk_loadg rfl 26 _ rfl (k7.heap.size) rfl (ks .u64 A ++ [Value.int .i64 D]) (Kept.get M18.out 0 rfl) _ Tryd.underlying26 rfl (size_s HA.out) ?_)
        refine (CR.out _).mono ?_; rintro e k19 ⟨rfl, hb19⟩
        have M20 : Hid (Kept w k19 [(k7.heap.size, ks .u64 A ++ [Value.int .i64 D]), (w.heap.size, ks .u64 a0 ++ [Value.int .i64 d0, Value.bool true])]) := Kept.below M18.out hb19
        clear hb19 M18
        go_wp2_with (first | refine blk_loadg rfl 26 _ rfl (k7.heap.size) rfl (ks .u64 A ++ [Value.int .i64 D]) (Kept.get M20.out 0 rfl) _ Tryd.underlying26 rfl (size_s HA.out) ?_)
        refine (CN.out _).mono ?_; rintro e k21 ⟨rfl, hb21⟩
        have M22 : Hid (Kept w k21 [(k7.heap.size, ks .u64 A ++ [Value.int .i64 D]), (w.heap.size, ks .u64 a0 ++ [Value.int .i64 d0, Value.bool true])]) := Kept.below M20.out hb21
        clear hb21 M20
        go_wp2_with fail
        go_ret
        exact ⟨rfl, M22.out.under⟩
    · obtain rfl : n = 0 := HTN.out (by simp [V.known]; omega)
      have i1 : decide (1 ≤ D) = false := by simp; omega
      obtain rfl : rr = false := by rw [HTR.out]; simp
      obtain rfl : tt = ⟨#[]⟩ := HTE.out rfl
      go_wp2_with (first | refine blk_loadg rfl 26 _ rfl (k7.heap.size) rfl (ks .u64 A ++ [Value.int .i64 D]) (Kept.get M18.out 0 rfl) _ Tryd.underlying26 rfl (size_s HA.out) ?_)
      refine (CR.out _).mono ?_; rintro e k19 ⟨rfl, hb19⟩
      have M20 : Hid (Kept w k19 [(k7.heap.size, ks .u64 A ++ [Value.int .i64 D]), (w.heap.size, ks .u64 a0 ++ [Value.int .i64 d0, Value.bool true])]) := Kept.below M18.out hb19
      clear hb19 M18
      go_wp2_with (first | refine blk_loadg rfl 26 _ rfl (k7.heap.size) rfl (ks .u64 A ++ [Value.int .i64 D]) (Kept.get M20.out 0 rfl) _ Tryd.underlying26 rfl (size_s HA.out) ?_)
      refine (CN.out _).mono ?_; rintro e k21 ⟨rfl, hb21⟩
      have M22 : Hid (Kept w k21 [(k7.heap.size, ks .u64 A ++ [Value.int .i64 D]), (w.heap.size, ks .u64 a0 ++ [Value.int .i64 d0, Value.bool true])]) := Kept.below M20.out hb21
      clear hb21 M20
      go_wp2_with fail
      go_ret
      exact ⟨rfl, M22.out.under⟩

set_option maxRecDepth 100000 in
theorem lifted (os : Os) (started : os.Started) (H : Type) (enc : TypeId × Value → H) (F : Stop.Interp) :
    ReturnsInHanded {} Tryd.checked os 8 .any ((OpenSpec.ofChange Rows.stampBoundsSpec).preRow enc Tryd.prog Tryd.f8 Rows.stampBoundsRow.domain false Rows.stampBoundsRow.laid) (((OpenSpec.ofChange Rows.stampBoundsSpec).at F).post enc Tryd.prog Tryd.f8 false true false false) := by
  have hx : ∃ places, DataW.whole enc Tryd.prog ((laidWorld os).forCall (fun _ _ => 0) ⟨#[], #[.agg #[.int .u64 0, .int .u64 0, .int .u64 0, .int .u64 0, .int .i64 0, .bool false], .int .i8 0, .int .u8 0], []⟩).memory Tryd.f8.params.toList Rows.stampBoundsSpec.vars false #[Value.agg #[.int .u64 0, .int .u64 0, .int .u64 0, .int .u64 0, .int .i64 0, .bool false], Value.int .i8 0, Value.int .u8 0].toList 8 = some ([.agg [.agg [.agg [.lit (.int .u64 0), .lit (.int .u64 0), .lit (.int .u64 0), .lit (.int .u64 0)], .lit (.int .i64 0)], .lit (.bool false)], .lit (.int .i8 0), .lit (.int .u8 0)], [], places) := ⟨[], by kernel_rfl⟩
  obtain ⟨places, hx⟩ := hx
  refine returnsInHanded_of_row (C := Tryd.checked) (s := OpenSpec.ofChange Rows.stampBoundsSpec) own started (by kernel_rfl) Tryd.func8
    (witness_row_at (enc := enc) (C := Tryd.checked) false (laidWorld os) #[.agg #[.int .u64 0, .int .u64 0, .int .u64 0, .int .u64 0, .int .i64 0, .bool false], .int .i8 0, .int .u8 0] rfl (by kernel_rfl) (by kernel_rfl) (by kernel_rfl)
      (OpenSpec.preRow_of_cond 8 hx (by kernel_rfl) (fun k hk => by cases hk) (by kernel_rfl) (laidMet_of_run' 8 (by kernel_rfl) (by kernel_rfl)))) ?_
  intro W base args ds gs before hval0 hW hcnd hcond hsz0 hL _ _
  have hT : Fm.Tab W := tab_of hL
  have hval : ∀ (j : Nat) t v, Tryd.f8.params[j]? = some t → args[j]? = some v → Value.okWide Tryd.prog W .any base t v := hval0
  have hW' := hW
  obtain ⟨p, q, hA0, hV, rfl, hfz, hnd⟩ := hW
  have hA : DataW.TrodAll enc Tryd.prog W 0 (fun _ => true) true Tryd.f8.params.toList args.toList ds p := hA0
  have hsz : (DataW.weightsEach Tryd.prog (Tryd.f8.params.toList ++ Rows.stampBoundsSpec.plain.varTypes Tryd.prog) (ds ++ gs)).all (· ≤ reachBytes) = true := hsz0
  rw [Tryd.params8] at hA hval hsz
  obtain ⟨rfl, rfl⟩ := trodVars_none hV
  have hAk := hA
  have hlt : ∀ x ∈ p, x.block < W.heap.size := fun x hx => by simpa using hW'.lt x (List.mem_append.2 (.inl hx))
  obtain ⟨v0, vs0, d0, ds0, p0, q0, hargs, rfl, rfl, h0, r0⟩ := trodAll_cons hA
  obtain ⟨v1, vs1, d1, ds1, p1, q1, rfl, rfl, rfl, h1, r1⟩ := trodAll_cons r0
  obtain ⟨v2, vs2, d2, ds2, p2, q2, rfl, rfl, rfl, h2, r2⟩ := trodAll_cons r1
  obtain ⟨rfl, rfl, rfl⟩ := trodAll_nil r2
  obtain rfl : args = #[v0, v1, v2] := by cases args; simp_all
  obtain ⟨a0, dd0, o0, rfl, w0⟩ := open_mark (hval 0 28 v0 rfl rfl) h0
  obtain ⟨a1, rfl, rfl, rfl, w1⟩ := open_int Tryd.underlying67 (hval 1 67 v1 rfl rfl) h1
  obtain ⟨a2, rfl, rfl, rfl, w2⟩ := open_int Tryd.underlying5 (hval 2 5 v2 rfl rfl) h2
  clear hA0 hval0 hsz0
  refine (walk a0 dd0 o0 a1 a2 w0 w1 w2 W hT).mono fun e W' ⟨he, hg⟩ => ?_
  subst he
  exact ⟨_, rfl, _, _, _, [], _, [], hW', (trodAll_cons_mk (shut_bool Tryd.underlying4 _) trodAll_mk0), trodAll_below laidOut hg _ _ _ _ (by kernel_rfl) hAk hlt, rfl, hg.frame _, fun h => by cases h⟩

theorem over : Rows.stampBoundsRow.holds Tryd.pinned (OpenSpec.ofChange Rows.stampBoundsSpec) :=
  OpenClaim.holds_of_cond 8 Tryd.f8 rfl rfl rfl rfl rfl rfl rfl ⟨rfl, rfl, rfl, rfl, rfl⟩ rfl rfl rfl rfl rfl (by kernel_rfl) Tryd.func8 (by kernel_rfl)
    (of_decide_eq_true (by kernel_rfl)) (by unfold Func.isWrapper; first | (rw [if_pos (by decide +kernel)]; kernel_rfl) | (rw [if_neg (by decide +kernel)]; exact ⟨rfl, rfl⟩))
    (fun os started H enc _ F => by rw [OpenClaim.pre_eq_preRow]; exact lifted os started H enc F)

set_option maxRecDepth 100000 in
theorem plain (f : FuncId) (fn : Func) (hf : Tryd.pinned.checked.prog.funcNamed "tenement/tenementlaw07.StampBounds" = some f) (hfn : Tryd.pinned.checked.prog.funcs[f]? = some fn) :
    false = Tryd.pinned.checked.prog.looks [] ∧ ∀ (j : Nat) t, fn.params[j]? = some t → Tryd.pinned.checked.prog.wantsStandIn t = false := by
  obtain rfl : f = 8 := Option.some.inj ((show Tryd.prog.funcNamed "tenement/tenementlaw07.StampBounds" = some 8 by kernel_rfl).symm.trans hf) |>.symm
  obtain rfl : fn = Tryd.f8 := (Option.some.inj (Tryd.func8.symm.trans hfn)).symm
  refine ⟨by kernel_rfl, fun j t ht => ?_⟩
  rw [Tryd.params8] at ht
  have hm := Array.mem_of_getElem? ht
  simp only [List.mem_toArray, List.mem_cons, List.not_mem_nil, or_false] at hm
  rcases hm with rfl | rfl | rfl
  all_goals first | exact (show Tryd.prog.wantsStandIn 28 = false by kernel_rfl) | exact (show Tryd.prog.wantsStandIn 67 = false by kernel_rfl) | exact (show Tryd.prog.wantsStandIn 5 = false by kernel_rfl)

/-- the statement -/
theorem proved : Rows.StampBoundsCardSaid :=
  Claim7.holds_tied_plain_at .later [] _ _ _ _ over (fun _ h => by cases h) (by kernel_rfl) (fun _ h => by cases h) stampBounds_row_tie rfl ⟨rfl, rfl⟩ (by kernel_rfl) rfl plain (by kernel_rfl)
#print axioms proved

end Go.Proofs.YtnmggefbajoadaaDoor.stampBounds
