/-
  Writes are taken, or refused, list by list, as the document's own answer tells (the law QuotaPlays). No conditions.
-/
import Derived.Test.YtepoodfihemmcaaFrame

import Derived.Test.YtepoodfihemmcaaQuotaDoc2

import Derived.Deep.DeepCutAuto

import Derived.Test.YtepoodfihemmcaaFramePuts

namespace Go.Proofs.Ytepoodfihemmcaa.quotaPlays

open Go.ChangeShapes Go.WideShapes Go.ChangeAt Go.RowKit

open Go.ChangeMaps (open_string shut_string)

set_option linter.unusedVariables false

set_option linter.unusedSimpArgs false

theorem qo_far {w w' : World} {b mb c : Nat} {L : Int} {M : Q.Tb} (h : Qm.Qo w b mb L M) (ho : Qm.Only c w w') (h1 : b ≠ c) (h2 : mb ≠ c) : Qm.Qo w' b mb L M := ⟨Qm.Blk.only h.blk ho h.lt.1 h1, h.map.st (ho.far mb h.lt.2 h2), h.ne⟩
set_option maxHeartbeats 32000000 in
set_option maxRecDepth 100000 in
theorem walk (a0 : Int) (a1 : Bool) (dv2 : Value) (DL2 : List Pl) (w0 : (Lit.int .i64 a0).wf = true) (w : World) (w2 : IsPls w dv2 DL2) (m2 : ∀ x ∈ DL2, PlOk w x) :
    Calls Try.prog 3 #[.int .i64 a0, .bool a1, dv2] w fun e w' => e = .returned (.bool true) ∧ Below w.heap.size w w' := by
  have HDS := Lib.hid w2
  have HMO : Hid (∀ x ∈ DL2, PlOk w x) := m2
  obtain ⟨sa, cap, rfl, hca, hma, _⟩ := w2
  have hnb : DL2.length ≤ 9223372036854775807 := by unfold maxLen at hma; omega
  obtain ⟨n, HN⟩ : ∃ n, Hid (DL2.length = n) := ⟨_, rfl⟩
  rw [HN.out] at HDS hnb ⊢
  clear m2 w0 hca hma
  go_enter Try.func3, Try.ntmps3
  go_wp2_with fail
  refine (Qm.examples_any _).mono ?_; rintro e w1 ⟨rfl, hb1⟩
  have B1 : Hid (Below w.heap.size w w1) := hb1
  clear hb1
  go_upto_if 18 with fail
  go_cut [0] (fun x wx => ∃ z : Int, x = .int .i64 z ∧ w1 = wx)
  case first =>
    cases a1 with
    | true =>
      go_wp2_with fail
      go_meet
      exact ⟨_, rfl, rfl⟩
    | false =>
      go_wp2_with fail
      go_meet
      exact ⟨_, rfl, rfl⟩
  case rest =>
  obtain ⟨z, rfl, rfl⟩ := hcut
  by_cases hv : z < 0 ∨ 1073741824 < z
  · have CN := Lib.hid (fun u => Qm.new_not z u hv)
    have CX := Lib.hid (fun u => Qr.new_not z u hv)
    go_wp2_with fail
    refine (CN.out _).mono ?_; rintro e w2 ⟨rfl, h9⟩
    subst w2
    go_wp2_with fail
    refine (CX.out _).mono ?_; rintro e w2 ⟨rfl, h9⟩
    subst w2
    go_wp2_with fail
    go_ret
    exact ⟨rfl, B1.out⟩
  · have hz0 : 0 ≤ z := by omega
    have hz1 : z ≤ 1073741824 := by omega
    have CN := Lib.hid (fun u => Qm.new_ok z u hz0 hz1)
    have CX := Lib.hid (fun u => Qr.new_ok z u hz0 hz1)
    clear hv
    go_wp2_with fail
    refine (CN.out _).mono ?_; rintro e w2 ⟨b, mb, rfl, hq, hb, n1, n2⟩
    have Q2 := Lib.hid hq
    have B2 : Hid (Below w.heap.size w w2) := Below.trans B1.out (hb.mono B1.out.size)
    have N2 : Hid (w.heap.size ≤ mb) := Nat.le_trans B1.out.size n2
    clear hq hb n1 n2 CN B1
    go_wp2_with fail
    refine (CX.out _).mono ?_; rintro e w3 ⟨rb, rfl, hx, hb, n3⟩
    have Q3 := Lib.hid (Q2.out.more hb)
    have X3 := Lib.hid hx
    have B3 : Hid (Below w.heap.size w w3) := Below.trans B2.out (hb.mono B2.out.size)
    have NN : Hid (w.heap.size ≤ mb ∧ w.heap.size ≤ rb ∧ b < rb ∧ mb < rb) := ⟨N2.out, Nat.le_trans B2.out.size n3, by have := Q2.out.lt; omega, by have := Q2.out.lt; omega⟩
    clear hx hb n3 CX B2 Q2 N2
    go_wp2_with fail
    go_loopw [11] (fun i wr => ∃ (j : Nat) (M : Q.Tb) (D : List I.Wt) (lv : Value), j ≤ n ∧ j ≤ 30 ∧ i = .int .i64 (j : Int) ∧ Hid (Q.Good M) ∧ Hid (Q.R M D) ∧ Hid (∀ y ∈ D, I.right y = true) ∧ Hid (D.length ≤ 6 * j) ∧ Hid (Q.tot M ≤ z) ∧ Hid (Qm.Qo wr b mb z M) ∧ Hid (Qr.Ro wr rb z lv D) ∧ Hid (Below w.heap.size w wr)) (fun i _ => 30 - (intOf i).toNat)
    case atStart => exact ⟨0, [], [], _, by omega, by omega, rfl, Q.Good.nil, Q.R.nil, (fun y hy => by cases hy), Nat.le_refl _, hz0, Q3, X3, B3⟩
    case round =>
      obtain ⟨j, M, D, lv, hjn, hj30, rfl, HG, HRL, HRT, HDL, HLE, HQ, HX, HB⟩ := hrel
      clear Q3 X3 B3
      by_cases hlt : j < n
      · have i1 : (j : Int) < (n : Int) := by omega
        by_cases hl2 : j < 30
        · have i2 : (j : Int) < 30 := by omega
          obtain ⟨g, off, cap', x, hv, hg0, hx, hcell⟩ := IsPls.at HDS.out j (by rw [HN.out]; exact hlt)
          obtain rfl : sa = some ⟨g, off, none⟩ := by injection hv
          have hok := HMO.out x (List.mem_of_getElem? hx)
          clear hv hx
          obtain ⟨pa, pc, ev⟩ := Qm.IsPs.slice hok.is
          have CW := Lib.hid (fun u (hu : Below w.heap.size w u) => It.writes_false x.v x.L 6 u (hok.is.below hu) hok.ok (by decide))
          obtain ⟨LW, HLW⟩ : ∃ LW, Hid (I.wrs 6 false x.L [] = LW) := ⟨_, rfl⟩
          have hl6 : LW.length ≤ 6 := by rw [← HLW.out]; exact I.wrs_len 6 false x.L [] (by simp)
          rw [HLW.out, ev] at CW
          rw [ev] at hcell
          obtain ⟨pm, HPM⟩ : ∃ pm, Hid (x.L.length = pm) := ⟨_, rfl⟩
          rw [HPM.out] at hcell CW
          have hcr : wr.cell? ⟨g, off + j, none⟩ = some (.slice pa pm pc) := by rw [HB.out.cell (p := ⟨g, off + j, none⟩) hg0]; exact hcell
          have hix : ∀ w, (Instr.indexAt 22 (.slice (some ⟨g, off, none⟩) n cap) (.int .i64 (j : Int))).run Try.prog w = .ok (.pointer (some ⟨g, off + j, none⟩)) w := fun w => Qm.index_pl g off n cap j hlt w
          clear hcell hok ev HPM HLW hg0
          go_wp2_with fail
          refine (CW.out _ HB.out).mono ?_; rintro e w4 ⟨v', rfl, how, hb⟩
          have HV4 : Hid (It.IsWs w4 v' LW) := how.is
          have HQ4 := Lib.hid (HQ.out.more hb)
          have HX4 := Lib.hid (HX.out.more hb)
          have HB4 : Hid (Below w.heap.size w w4) := Below.trans HB.out (hb.mono HB.out.size)
          clear how hb HQ HX HB CW hcr hix
          obtain ⟨va, vc, ev⟩ := Qm.IsWs.slice HV4.out
          subst ev
          have CRW := Lib.hid (It.refwrites_any _ LW w4 HV4.out (by omega))
          obtain ⟨m, HM⟩ : ∃ m, Hid (LW.length = m) := ⟨_, rfl⟩
          rw [HM.out] at HV4 CRW ⊢
          go_wp2_with fail
          refine CRW.out.mono ?_; rintro e w5 ⟨v2, rfl, how, hb⟩
          have HU5 : Hid (It.IsWs w5 v2 LW) := how.is
          have HV5 := Lib.hid (HV4.out.below hb)
          have HQ5 := Lib.hid (HQ4.out.more hb)
          have HX5 := Lib.hid (HX4.out.more hb)
          have HB5 : Hid (Below w.heap.size w w5) := Below.trans HB4.out (hb.mono HB4.out.size)
          clear how hb HQ4 HX4 HV4 HB4 CRW
          have hbo := Qm.bounds LW HG.out (by have := HLE.out; omega) (by omega)
          obtain ⟨t0, H0⟩ : ∃ t, Hid (Q.tot M = t) := ⟨_, rfl⟩
          obtain ⟨t, H1⟩ : ∃ t, Hid (Q.tot (Q.layAll M LW) = t) := ⟨_, rfl⟩
          rw [H1.out] at hbo
          have ht0 : 0 ≤ t0 ∧ t0 ≤ z := ⟨by rw [← H0.out]; exact Q.tot_pos HG.out, by rw [← H0.out]; exact HLE.out⟩
          have HST : Hid (Q.sumS (Q.allD D LW) = t) := by show _ = _; rw [← (HRL.out.all HG.out).tot]; exact H1.out
          have HDN : Hid (D.length + LW.length < 900000) := (show _ < _ from by have := HDL.out; omega)
          have CAX := Lib.hid (Qr.after_any rb z lv v2 D LW w5 HX5.out HU5.out HDN.out HRT.out t HST.out)
          have CA : Hid (∀ u, Qm.Qo u b mb z M → It.IsWs u (.slice va m vc) LW → Calls Try.prog 14 #[.pointer (some ⟨b, 0, none⟩), .slice va m vc] u fun e w' => e = .returned (.int .i64 t) ∧ Below u.heap.size u w') := fun u hu hv => Qm.after_any b mb z M _ LW u hu HG.out hv t H1.out hbo.1 hbo.2
          have CF : Hid (∀ u, Qm.Qo u b mb z M → It.IsWs u (.slice va m vc) LW → Calls Try.prog 15 #[.pointer (some ⟨b, 0, none⟩), .slice va m vc] u fun e w' => e = .returned (.bool (decide (t ≤ z))) ∧ Below u.heap.size u w') := fun u hu hv => Qm.fits_any b mb z M _ LW u hu HG.out hv t H1.out hbo.1 hbo.2 _ rfl
          have CT : Hid (∀ u, Qm.Qo u b mb z M → It.IsWs u (.slice va m vc) LW → Calls Try.prog 16 #[.pointer (some ⟨b, 0, none⟩), .slice va m vc] u fun e w' => e = .returned (.bool (decide (t ≤ z))) ∧ Qm.Qo w' b mb z (if decide (t ≤ z) = true then Q.layAll M LW else M) ∧ Qm.Only mb u w') := fun u hu hv => Qm.take_any b mb z M _ LW u hu HG.out hv t H1.out hbo.1 hbo.2 _ rfl
          have CX : Hid (∀ u, Qr.Ro u rb z lv D → It.IsWs u v2 LW → Calls Try.prog 17 #[.pointer (some ⟨rb, 0, none⟩), v2] u fun e w' => e = .returned (.bool (decide (t ≤ z))) ∧ (∃ lv', Qr.Ro w' rb z lv' (if decide (t ≤ z) = true then Q.allD D LW else D)) ∧ Qm.Only rb u w') := fun u hu hv => Qr.take_any rb z lv v2 D LW u hu hv HDN.out HRT.out t HST.out _ rfl
          clear HST HDN
          go_wp2_with fail
          refine CAX.out.mono ?_; rintro e w6 ⟨rfl, hb⟩
          have HQ6 := Lib.hid (HQ5.out.more hb)
          have HX6 := Lib.hid (HX5.out.more hb)
          have HV6 := Lib.hid (HV5.out.below hb)
          have HU6 := Lib.hid (HU5.out.below hb)
          have HB6 : Hid (Below w.heap.size w w6) := Below.trans HB5.out (hb.mono HB5.out.size)
          clear hb HQ5 HX5 HV5 HU5 HB5 CAX
          go_wp2_with fail
          refine (CA.out _ HQ6.out HV6.out).mono ?_; rintro e w7 ⟨rfl, hb⟩
          have HQ7 := Lib.hid (HQ6.out.more hb)
          have HX7 := Lib.hid (HX6.out.more hb)
          have HV7 := Lib.hid (HV6.out.below hb)
          have HU7 := Lib.hid (HU6.out.below hb)
          have HB7 : Hid (Below w.heap.size w w7) := Below.trans HB6.out (hb.mono HB6.out.size)
          clear hb HQ6 HX6 HV6 HU6 HB6 CA
          by_cases hle : t ≤ z
          · rw [decide_eq_true hle] at CF
            rw [decide_eq_true hle, if_pos rfl] at CT CX
            have i5 : t ≤ z := hle
            have HG6 : Hid (Q.Good (Q.layAll M LW)) := Q.layAll_good LW HG.out
            have HRL6 : Hid (Q.R (Q.layAll M LW) (Q.allD D LW)) := HRL.out.all HG.out
            have HRT6 : Hid (∀ y ∈ (Q.allD D LW), I.right y = true) := Q.allD_right LW HRT.out
            have HDL6 : Hid ((Q.allD D LW).length ≤ 6 * (j + 1)) := (show _ ≤ _ from by have h1 := Q.allD_len LW D; have h2 := HDL.out; omega)
            have HTT6 : Hid (Q.tot (Q.layAll M LW) = t) := H1.out
            have HLE6 : Hid (Q.tot (Q.layAll M LW) ≤ z) := by show _ ≤ _; rw [HTT6.out]; omega
            have HSS6 : Hid (Q.sumS (Q.allD D LW) = t) := by show _ = _; rw [← HRL6.out.tot]; exact HTT6.out
            obtain ⟨p, HPP⟩ : ∃ p, Hid ((Q.layAll M LW).length = p) := ⟨_, rfl⟩
            have HCC6 : Hid (Q.cnt (Q.allD D LW) = p) := by show _ = _; rw [← HRL6.out.len]; exact HPP.out
            have HDB : Hid ((Q.allD D LW).length < 900000) := (show _ < _ from by have h1 := HDL6.out; omega)
            have CU : Hid (∀ u, Qm.Qo u b mb z (Q.layAll M LW) → Calls Try.prog 18 #[.pointer (some ⟨b, 0, none⟩)] u fun e w' => e = .returned (.int .i64 t) ∧ Below u.heap.size u w') := fun u hu => Qm.used_any b mb z _ u hu t (by rw [HTT6.out]; exact Qm.wrap_small _ (by omega) (by omega))
            have CUX : Hid (∀ u lv, Qr.Ro u rb z lv (Q.allD D LW) → Calls Try.prog 19 #[.pointer (some ⟨rb, 0, none⟩)] u fun e w' => e = .returned (.int .i64 t) ∧ Below u.heap.size u w') := fun u lv hu => Qr.used_any rb z lv _ u hu HDB.out HRT6.out t HSS6.out
            have CK : Hid (∀ u, Qm.Qo u b mb z (Q.layAll M LW) → Calls Try.prog 20 #[.pointer (some ⟨b, 0, none⟩)] u fun e w' => e = .returned (.int .i64 (p : Int)) ∧ w' = u) := fun u hu => by
              have := Qm.keys_any b mb z _ u hu
              rw [HPP.out] at this
              exact this
            have CKX : Hid (∀ u lv, Qr.Ro u rb z lv (Q.allD D LW) → Calls Try.prog 21 #[.pointer (some ⟨rb, 0, none⟩)] u fun e w' => e = .returned (.int .i64 (p : Int)) ∧ Below u.heap.size u w') := fun u lv hu => Qr.keys_any rb z lv _ u hu HDB.out HRT6.out p HCC6.out
            go_wp2_with fail
            refine (CF.out _ HQ7.out HV7.out).mono ?_; rintro e w8 ⟨rfl, hb⟩
            have HQ8 := Lib.hid (HQ7.out.more hb)
            have HX8 := Lib.hid (HX7.out.more hb)
            have HV8 := Lib.hid (HV7.out.below hb)
            have HU8 := Lib.hid (HU7.out.below hb)
            have HB8 : Hid (Below w.heap.size w w8) := Below.trans HB7.out (hb.mono HB7.out.size)
            clear hb HQ7 HX7 HV7 HU7 HB7 CF
            go_wp2_with fail
            refine (CT.out _ HQ8.out HV8.out).mono ?_; rintro e w9 ⟨rfl, hq, ho⟩
            have HQ9 := Lib.hid hq
            have HX9 := Lib.hid (HX8.out.only ho HQ8.out.map.isMap)
            have HU9 := Lib.hid (ho.ws HQ8.out.map.isMap HU8.out)
            have HB9 : Hid (Below w.heap.size w w9) := Below.trans HB8.out (ho.below NN.out.1 HB8.out.size)
            clear hq ho HQ8 HX8 HV8 HU8 HB8 CT
            go_wp2_with fail
            refine (CX.out _ HX9.out HU9.out).mono ?_; rintro e wa ⟨rfl, ⟨lv2, hx⟩, ho⟩
            have HXA := Lib.hid hx
            have HQA := Lib.hid (qo_far HQ9.out ho (by have := NN.out; omega) (by have := NN.out; omega))
            have HBA : Hid (Below w.heap.size w wa) := Below.trans HB9.out (ho.below NN.out.2.1 HB9.out.size)
            clear hx ho HQ9 HX9 HU9 HB9 CX
            go_wp2_with fail
            refine (CU.out _ HQA.out).mono ?_; rintro e wb ⟨rfl, hb⟩
            have HQB := Lib.hid (HQA.out.more hb)
            have HXB := Lib.hid (HXA.out.more hb)
            have HBB : Hid (Below w.heap.size w wb) := Below.trans HBA.out (hb.mono HBA.out.size)
            clear hb HQA HXA HBA CU
            go_wp2_with fail
            refine (CUX.out _ _ HXB.out).mono ?_; rintro e wc ⟨rfl, hb⟩
            have HQC := Lib.hid (HQB.out.more hb)
            have HXC := Lib.hid (HXB.out.more hb)
            have HBC : Hid (Below w.heap.size w wc) := Below.trans HBB.out (hb.mono HBB.out.size)
            clear hb HQB HXB HBB CUX
            go_wp2_with fail
            refine (CK.out _ HQC.out).mono ?_; rintro e wd ⟨rfl, h9⟩
            subst wd
            go_wp2_with fail
            refine (CKX.out _ _ HXC.out).mono ?_; rintro e we ⟨rfl, hb⟩
            have HQE := Lib.hid (HQC.out.more hb)
            have HXE := Lib.hid (HXC.out.more hb)
            have HBE : Hid (Below w.heap.size w we) := Below.trans HBC.out (hb.mono HBC.out.size)
            clear hb HQC HXC HBC CKX CK
            go_wp2_with fail
            refine (Qm.limit_any b mb z _ _ HQE.out).mono ?_; rintro e wf ⟨rfl, h9⟩
            subst wf
            clear HPP HCC6 HDB HSS6 HTT6 HG HRL HRT HDL HLE H0 H1
            go_wp2_with fail
            go_roundw
            case rel => exact ⟨j + 1, (Q.layAll M LW), (Q.allD D LW), lv2, by omega, by omega, by go_num, HG6, HRL6, HRT6, HDL6, HLE6, HQE, HXE, HBE⟩
            case measure => simp [intOf]; omega
          · rw [decide_eq_false hle] at CF
            rw [decide_eq_false hle, if_neg (by decide)] at CT CX
            have j5 : decide (t ≤ z) = false := by simp; omega
            have HG6 : Hid (Q.Good M) := HG.out
            have HRL6 : Hid (Q.R M D) := HRL.out
            have HRT6 : Hid (∀ y ∈ D, I.right y = true) := HRT.out
            have HDL6 : Hid (D.length ≤ 6 * (j + 1)) := (show _ ≤ _ from by have h2 := HDL.out; omega)
            have HTT6 : Hid (Q.tot M = t0) := H0.out
            have HLE6 : Hid (Q.tot M ≤ z) := by show _ ≤ _; rw [HTT6.out]; omega
            have HSS6 : Hid (Q.sumS D = t0) := by show _ = _; rw [← HRL6.out.tot]; exact HTT6.out
            obtain ⟨p, HPP⟩ : ∃ p, Hid (M.length = p) := ⟨_, rfl⟩
            have HCC6 : Hid (Q.cnt D = p) := by show _ = _; rw [← HRL6.out.len]; exact HPP.out
            have HDB : Hid (D.length < 900000) := (show _ < _ from by have h1 := HDL6.out; omega)
            have CU : Hid (∀ u, Qm.Qo u b mb z M → Calls Try.prog 18 #[.pointer (some ⟨b, 0, none⟩)] u fun e w' => e = .returned (.int .i64 t0) ∧ Below u.heap.size u w') := fun u hu => Qm.used_any b mb z _ u hu t0 (by rw [HTT6.out]; exact Qm.wrap_small _ (by omega) (by omega))
            have CUX : Hid (∀ u lv, Qr.Ro u rb z lv D → Calls Try.prog 19 #[.pointer (some ⟨rb, 0, none⟩)] u fun e w' => e = .returned (.int .i64 t0) ∧ Below u.heap.size u w') := fun u lv hu => Qr.used_any rb z lv _ u hu HDB.out HRT6.out t0 HSS6.out
            have CK : Hid (∀ u, Qm.Qo u b mb z M → Calls Try.prog 20 #[.pointer (some ⟨b, 0, none⟩)] u fun e w' => e = .returned (.int .i64 (p : Int)) ∧ w' = u) := fun u hu => by
              have := Qm.keys_any b mb z _ u hu
              rw [HPP.out] at this
              exact this
            have CKX : Hid (∀ u lv, Qr.Ro u rb z lv D → Calls Try.prog 21 #[.pointer (some ⟨rb, 0, none⟩)] u fun e w' => e = .returned (.int .i64 (p : Int)) ∧ Below u.heap.size u w') := fun u lv hu => Qr.keys_any rb z lv _ u hu HDB.out HRT6.out p HCC6.out
            go_wp2_with fail
            refine (CF.out _ HQ7.out HV7.out).mono ?_; rintro e w8 ⟨rfl, hb⟩
            have HQ8 := Lib.hid (HQ7.out.more hb)
            have HX8 := Lib.hid (HX7.out.more hb)
            have HV8 := Lib.hid (HV7.out.below hb)
            have HU8 := Lib.hid (HU7.out.below hb)
            have HB8 : Hid (Below w.heap.size w w8) := Below.trans HB7.out (hb.mono HB7.out.size)
            clear hb HQ7 HX7 HV7 HU7 HB7 CF
            go_wp2_with fail
            refine (CT.out _ HQ8.out HV8.out).mono ?_; rintro e w9 ⟨rfl, hq, ho⟩
            have HQ9 := Lib.hid hq
            have HX9 := Lib.hid (HX8.out.only ho HQ8.out.map.isMap)
            have HU9 := Lib.hid (ho.ws HQ8.out.map.isMap HU8.out)
            have HB9 : Hid (Below w.heap.size w w9) := Below.trans HB8.out (ho.below NN.out.1 HB8.out.size)
            clear hq ho HQ8 HX8 HV8 HU8 HB8 CT
            go_wp2_with fail
            refine (CX.out _ HX9.out HU9.out).mono ?_; rintro e wa ⟨rfl, ⟨lv2, hx⟩, ho⟩
            have HXA := Lib.hid hx
            have HQA := Lib.hid (qo_far HQ9.out ho (by have := NN.out; omega) (by have := NN.out; omega))
            have HBA : Hid (Below w.heap.size w wa) := Below.trans HB9.out (ho.below NN.out.2.1 HB9.out.size)
            clear hx ho HQ9 HX9 HU9 HB9 CX
            go_wp2_with fail
            refine (CU.out _ HQA.out).mono ?_; rintro e wb ⟨rfl, hb⟩
            have HQB := Lib.hid (HQA.out.more hb)
            have HXB := Lib.hid (HXA.out.more hb)
            have HBB : Hid (Below w.heap.size w wb) := Below.trans HBA.out (hb.mono HBA.out.size)
            clear hb HQA HXA HBA CU
            go_wp2_with fail
            refine (CUX.out _ _ HXB.out).mono ?_; rintro e wc ⟨rfl, hb⟩
            have HQC := Lib.hid (HQB.out.more hb)
            have HXC := Lib.hid (HXB.out.more hb)
            have HBC : Hid (Below w.heap.size w wc) := Below.trans HBB.out (hb.mono HBB.out.size)
            clear hb HQB HXB HBB CUX
            go_wp2_with fail
            refine (CK.out _ HQC.out).mono ?_; rintro e wd ⟨rfl, h9⟩
            subst wd
            go_wp2_with fail
            refine (CKX.out _ _ HXC.out).mono ?_; rintro e we ⟨rfl, hb⟩
            have HQE := Lib.hid (HQC.out.more hb)
            have HXE := Lib.hid (HXC.out.more hb)
            have HBE : Hid (Below w.heap.size w we) := Below.trans HBC.out (hb.mono HBC.out.size)
            clear hb HQC HXC HBC CKX CK
            go_wp2_with fail
            refine (Qm.limit_any b mb z _ _ HQE.out).mono ?_; rintro e wf ⟨rfl, h9⟩
            subst wf
            clear HPP HCC6 HDB HSS6 HTT6 HG HRL HRT HDL HLE H0 H1
            go_wp2_with fail
            go_roundw
            case rel => exact ⟨j + 1, M, D, lv2, by omega, by omega, by go_num, HG6, HRL6, HRT6, HDL6, HLE6, HQE, HXE, HBE⟩
            case measure => simp [intOf]; omega
        · have i2 : decide ((j : Int) < 30) = false := by simp; omega
          go_wp2_with fail
          go_ret
          exact ⟨rfl, HB.out⟩
      · have i1 : decide ((j : Int) < (n : Int)) = false := by simp; omega
        go_wp2_with fail
        go_ret
        exact ⟨rfl, HB.out⟩

set_option maxRecDepth 100000 in
theorem lifted (os : Os) (started : os.Started) (H : Type) (enc : TypeId × Value → H) :
    ReturnsInHanded {} Try.checked os 3 .any (Rows.quotaPlaysSpec.pre6 enc Try.prog Try.f3 Rows.quotaPlaysRow.domain false) (Rows.quotaPlaysSpec.post enc Try.prog Try.f3 false true false false) := by
  refine returnsInHanded_of_change_sized (C := Try.checked) own started (by kernel_rfl) Try.func3
    (ChangeSpec.witness6 (enc := enc) (C := Try.checked) false ⟨#[], #[.int .i64 0, .bool false, .slice none 0 0], []⟩ 8 (by kernel_rfl) (by kernel_rfl) (by kernel_rfl) (by kernel_rfl)) ?_
  intro W base args ds gs before hval0 hW hcnd hsz0 _
  have hval : ∀ (j : Nat) t v, Try.f3.params[j]? = some t → args[j]? = some v → Value.okWide Try.prog W .any base t v := hval0
  have hW' := hW
  obtain ⟨p, q, hA0, hV, rfl, hfz, hnd⟩ := hW
  have hA : DataW.TrodAll enc Try.prog W 0 (fun _ => true) true Try.f3.params.toList args.toList ds p := hA0
  have hsz : (DataW.weightsEach Try.prog (Try.f3.params.toList ++ Rows.quotaPlaysSpec.plain.varTypes Try.prog) (ds ++ gs)).all (· ≤ reachBytes) = true := hsz0
  rw [Try.params3] at hA hval hsz
  obtain ⟨rfl, rfl⟩ := trodVars_none hV
  have hAk := hA
  have hlt : ∀ x ∈ p, x.block < W.heap.size := fun x hx => by simpa using hW'.lt x (List.mem_append.2 (.inl hx))
  obtain ⟨v0, vs0, d0, ds0, p0, q0, hargs, rfl, rfl, h0, r0⟩ := trodAll_cons hA
  obtain ⟨v1, vs1, d1, ds1, p1, q1, rfl, rfl, rfl, h1, r1⟩ := trodAll_cons r0
  obtain ⟨v2, vs2, d2, ds2, p2, q2, rfl, rfl, rfl, h2, r2⟩ := trodAll_cons r1
  obtain ⟨rfl, rfl, rfl⟩ := trodAll_nil r2
  obtain rfl : args = #[v0, v1, v2] := by cases args; simp_all
  obtain ⟨a0, rfl, rfl, rfl, w0⟩ := open_int Try.underlying3 (hval 0 3 v0 rfl rfl) h0
  obtain ⟨a1, rfl, rfl, rfl⟩ := open_bool Try.underlying4 (hval 1 4 v1 rfl rfl) h1
  obtain ⟨a2, len2, cap2, rfl⟩ := okWide_slice Try.underlying22 (hval 2 22 v2 rfl rfl)
  obtain ⟨DL2, w2, m2⟩ := open_putss h2 (Sz.arg hsz (j := 2) rfl rfl)
  clear hA0 hval0 hsz0
  refine (walk a0 a1 (.slice a2 len2 cap2) DL2 w0 W w2 m2).mono fun e W' ⟨he, hg⟩ => ?_
  subst he
  exact ⟨_, rfl, _, _, _, [], _, [], hW', (trodAll_cons_mk (shut_bool Try.underlying4 _) trodAll_mk0), trodAll_below laidOut hg _ _ _ _ (by kernel_rfl) hAk hlt, rfl, hg.frame _, fun h => by cases h⟩

theorem over : Rows.quotaPlaysRow.holds Try.pinned (OpenSpec.ofChange Rows.quotaPlaysSpec) :=
  OpenClaim.holds_of_wide 3 Try.f3 rfl rfl rfl rfl rfl rfl rfl ⟨rfl, rfl, rfl, rfl, rfl⟩ rfl rfl rfl rfl rfl (by kernel_rfl) Try.func3 (by kernel_rfl)
    (of_decide_eq_true (by kernel_rfl)) (by unfold Func.isWrapper; first | (rw [if_pos (by decide +kernel)]; kernel_rfl) | (rw [if_neg (by decide +kernel)]; exact ⟨rfl, rfl⟩))
    (fun os started H enc _ => lifted os started H enc)

/-- the statement -/
theorem proved : Rows.QuotaPlaysSaid :=
  over
#print axioms proved

end Go.Proofs.Ytepoodfihemmcaa.quotaPlays
