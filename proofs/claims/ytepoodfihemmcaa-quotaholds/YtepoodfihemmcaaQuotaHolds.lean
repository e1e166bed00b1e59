/-
  Never is more used than may be; what does not fit turns nothing; what fits is used just so (the law QuotaHolds). No conditions.
-/
import Derived.Test.YtepoodfihemmcaaFrame

import Derived.Test.YtepoodfihemmcaaQuotaLaw

import Derived.Test.YtepoodfihemmcaaFramePuts

namespace Go.Proofs.Ytepoodfihemmcaa.quotaHolds

open Go.ChangeShapes Go.WideShapes Go.ChangeAt Go.RowKit

open Go.ChangeMaps (open_string shut_string)

set_option linter.unusedVariables false

set_option linter.unusedSimpArgs false

set_option maxHeartbeats 16000000 in
set_option maxRecDepth 100000 in
theorem walk (a0 : Int) (dv1 : Value) (DL1 : List Pl) (w0 : (Lit.int .u8 a0).wf = true) (w : World) (w1 : IsPls w dv1 DL1) (m1 : ∀ x ∈ DL1, PlOk w x) :
    Calls Try.prog 4 #[.int .u8 a0, dv1] w fun e w' => e = .returned (.bool true) ∧ Below w.heap.size w w' := by
  have hlim : 0 ≤ a0 ∧ a0 ≤ 255 := by simpa [Lit.wf, IntKind.min, IntKind.max, IntKind.signed, IntKind.bits] using w0
  have HDS := Lib.hid w1
  have HMO : Hid (∀ x ∈ DL1, PlOk w x) := m1
  obtain ⟨sa, cap, rfl, hca, hma, _⟩ := w1
  have hnb : DL1.length ≤ 9223372036854775807 := by unfold maxLen at hma; omega
  obtain ⟨n, HN⟩ : ∃ n, Hid (DL1.length = n) := ⟨_, rfl⟩
  rw [HN.out] at HDS hnb ⊢
  clear m1 w0 hca hma
  have k0 : IntKind.i64.wrap a0 = a0 := Qm.wrap_small a0 (by omega) (by omega)
  have CN := Lib.hid (fun u => Qm.new_ok a0 u (by omega) (by omega))
  go_enter Try.func4, Try.ntmps4
  go_wp2_with fail
  refine (Qm.examples_any _).mono ?_; rintro e w1 ⟨rfl, hb1⟩
  have B1 : Hid (Below w.heap.size w w1) := hb1
  clear hb1
  go_wp2_with fail
  refine (CN.out _).mono ?_; rintro e w2 ⟨b, mb, rfl, hq, hb, n1, n2⟩
  have Q2 := Lib.hid hq
  have B2 : Hid (Below w.heap.size w w2) := Below.trans B1.out (hb.mono B1.out.size)
  have N2 : Hid (w.heap.size ≤ mb) := Nat.le_trans B1.out.size n2
  clear hq hb n1 n2 CN B1
  go_wp2_with fail
  go_loopw [8] (fun i wr => ∃ (j : Nat) (M : Q.Tb), j ≤ n ∧ j ≤ 20 ∧ i = .int .i64 (j : Int) ∧ Hid (Q.Good M) ∧ Hid (Q.tot M ≤ a0) ∧ Hid (Qm.Qo wr b mb a0 M) ∧ Hid (Below w.heap.size w wr)) (fun i _ => 20 - (intOf i).toNat)
  case atStart => exact ⟨0, [], by omega, by omega, rfl, Q.Good.nil, hlim.1, Q2, B2⟩
  case round =>
    obtain ⟨j, M, hjn, hj20, rfl, HG, HT, HQ, HB⟩ := hrel
    clear Q2 B2
    by_cases hlt : j < n
    · have i1 : (j : Int) < (n : Int) := by omega
      by_cases hl2 : j < 20
      · have i2 : (j : Int) < 20 := by omega
        obtain ⟨g, off, cap', x, hv, hg0, hx, hcell⟩ := IsPls.at HDS.out j (by rw [HN.out]; exact hlt)
        obtain rfl : sa = some ⟨g, off, none⟩ := by injection hv
        have hok := HMO.out x (List.mem_of_getElem? hx)
        clear hv hx
        obtain ⟨pa, pc, ev⟩ := Qm.IsPs.slice hok.is
        have CW := Lib.hid (fun u (hu : Below w.heap.size w u) => It.writes_true x.v x.L 8 u (hok.is.below hu) hok.ok (by decide))
        obtain ⟨LW, HLW⟩ : ∃ LW, Hid (I.wrs 8 true x.L [] = LW) := ⟨_, rfl⟩
        have hl8 : LW.length ≤ 8 := by rw [← HLW.out]; exact I.wrs_len 8 true x.L [] (by simp)
        rw [HLW.out, ev] at CW
        rw [ev] at hcell
        obtain ⟨pm, HPM⟩ : ∃ pm, Hid (x.L.length = pm) := ⟨_, rfl⟩
        rw [HPM.out] at hcell CW
        have hcr : wr.cell? ⟨g, off + j, none⟩ = some (.slice pa pm pc) := by rw [HB.out.cell (p := ⟨g, off + j, none⟩) hg0]; exact hcell
        have hix : ∀ w, (Instr.indexAt 22 (.slice (some ⟨g, off, none⟩) n cap) (.int .i64 (j : Int))).run Try.prog w = .ok (.pointer (some ⟨g, off + j, none⟩)) w := fun w => Qm.index_pl g off n cap j hlt w
        clear hcell hok ev HPM HLW hg0
        go_wp2_with fail
        refine (CW.out _ HB.out).mono ?_; rintro e w3 ⟨v', rfl, how, hb⟩
        have HV3 : Hid (It.IsWs w3 v' LW) := how.is
        have HQ3 := Lib.hid (HQ.out.more hb)
        have HB3 : Hid (Below w.heap.size w w3) := Below.trans HB.out (hb.mono HB.out.size)
        clear how hb HQ HB CW hcr hix
        obtain ⟨va, vc, ev⟩ := Qm.IsWs.slice HV3.out
        subst ev
        have hbo := Qm.bounds LW HG.out (by have := HT.out; omega) (by omega)
        obtain ⟨t0, H0⟩ : ∃ t, Hid (Q.tot M = t) := ⟨_, rfl⟩
        obtain ⟨t1, H1⟩ : ∃ t, Hid (Q.tot (Q.layAll M LW) = t) := ⟨_, rfl⟩
        rw [H1.out] at hbo
        have ht0 : 0 ≤ t0 ∧ t0 ≤ a0 := ⟨by rw [← H0.out]; exact Q.tot_pos HG.out, by rw [← H0.out]; exact HT.out⟩
        have CU : Hid (∀ u, Qm.Qo u b mb a0 M → Calls Try.prog 18 #[.pointer (some ⟨b, 0, none⟩)] u fun e w' => e = .returned (.int .i64 t0) ∧ Below u.heap.size u w') := fun u hu => Qm.used_any b mb a0 M u hu t0 (by rw [H0.out]; exact Qm.wrap_small t0 (by omega) (by omega))
        have CU2 : Hid (∀ u, Qm.Qo u b mb a0 (Q.layAll M LW) → Calls Try.prog 18 #[.pointer (some ⟨b, 0, none⟩)] u fun e w' => e = .returned (.int .i64 t1) ∧ Below u.heap.size u w') := fun u hu => Qm.used_any b mb a0 _ u hu t1 (by rw [H1.out]; exact Qm.wrap_small t1 (by omega) (by omega))
        have CA : Hid (∀ u, Qm.Qo u b mb a0 M → It.IsWs u (.slice va LW.length vc) LW → Calls Try.prog 14 #[.pointer (some ⟨b, 0, none⟩), .slice va LW.length vc] u fun e w' => e = .returned (.int .i64 t1) ∧ Below u.heap.size u w') := fun u hu hv => Qm.after_any b mb a0 M _ LW u hu HG.out hv t1 H1.out hbo.1 hbo.2
        have CT : Hid (∀ u, Qm.Qo u b mb a0 M → It.IsWs u (.slice va LW.length vc) LW → Calls Try.prog 16 #[.pointer (some ⟨b, 0, none⟩), .slice va LW.length vc] u fun e w' => e = .returned (.bool (decide (t1 ≤ a0))) ∧ Qm.Qo w' b mb a0 (if decide (t1 ≤ a0) = true then Q.layAll M LW else M) ∧ Qm.Only mb u w') := fun u hu hv => Qm.take_any b mb a0 M _ LW u hu HG.out hv t1 H1.out hbo.1 hbo.2 _ rfl
        obtain ⟨m, HM⟩ : ∃ m, Hid (LW.length = m) := ⟨_, rfl⟩
        rw [HM.out] at HV3 CA CT ⊢
        go_wp2_with fail
        refine (CU.out _ HQ3.out).mono ?_; rintro e w4 ⟨rfl, hb⟩
        have HQ4 := Lib.hid (HQ3.out.more hb)
        have HV4 := Lib.hid (HV3.out.below hb)
        have HB4 : Hid (Below w.heap.size w w4) := Below.trans HB3.out (hb.mono HB3.out.size)
        clear hb HQ3 HV3 HB3
        go_wp2_with fail
        refine (CA.out _ HQ4.out HV4.out).mono ?_; rintro e w5 ⟨rfl, hb⟩
        have HQ5 := Lib.hid (HQ4.out.more hb)
        have HV5 := Lib.hid (HV4.out.below hb)
        have HB5 : Hid (Below w.heap.size w w5) := Below.trans HB4.out (hb.mono HB4.out.size)
        clear hb HQ4 HV4 HB4 CA
        by_cases hle : t1 ≤ a0
        · rw [decide_eq_true hle, if_pos rfl] at CT
          have HG6 : Hid (Q.Good (Q.layAll M LW)) := Q.layAll_good LW HG.out
          have HT6 : Hid (Q.tot (Q.layAll M LW) ≤ a0) := by show _ ≤ _; rw [H1.out]; exact hle
          have j1 : decide (a0 < t1) = false := by simp; omega
          have j2 : decide (t1 < 0) = false := by simp; omega
          go_wp2_with fail
          refine (CT.out _ HQ5.out HV5.out).mono ?_; rintro e w6 ⟨rfl, hq, ho⟩
          have HQ6 := Lib.hid hq
          have HB6 : Hid (Below w.heap.size w w6) := Below.trans HB5.out (ho.below N2.out HB5.out.size)
          clear hq ho HQ5 HV5 HB5 CT
          go_wp2_with fail
          refine (CU2.out _ HQ6.out).mono ?_; rintro e w7 ⟨rfl, hb⟩
          have HQ7 := Lib.hid (HQ6.out.more hb)
          have HB7 : Hid (Below w.heap.size w w7) := Below.trans HB6.out (hb.mono HB6.out.size)
          clear hb HQ6 HB6
          go_wp2_with fail
          refine (CU2.out _ HQ7.out).mono ?_; rintro e w8 ⟨rfl, hb⟩
          have HQ8 := Lib.hid (HQ7.out.more hb)
          have HB8 : Hid (Below w.heap.size w w8) := Below.trans HB7.out (hb.mono HB7.out.size)
          clear hb HQ7 HB7
          go_wp2_with fail
          refine (CU2.out _ HQ8.out).mono ?_; rintro e w9 ⟨rfl, hb⟩
          have HQ9 := Lib.hid (HQ8.out.more hb)
          have HB9 : Hid (Below w.heap.size w w9) := Below.trans HB8.out (hb.mono HB8.out.size)
          clear hb HQ8 HB8 CU CU2 HG HT
          go_wp2_with fail
          go_roundw
          case rel => exact ⟨j + 1, _, by omega, by omega, by go_num, HG6, HT6, HQ9, HB9⟩
          case measure => simp [intOf]; omega
        · rw [decide_eq_false hle, if_neg (by decide)] at CT
          have j1 : decide (a0 < t0) = false := by simp; omega
          have j2 : decide (t0 < 0) = false := by simp; omega
          have j3 : decide (t1 ≤ a0) = false := by simp; omega
          go_wp2_with fail
          refine (CT.out _ HQ5.out HV5.out).mono ?_; rintro e w6 ⟨rfl, hq, ho⟩
          have HQ6 := Lib.hid hq
          have HB6 : Hid (Below w.heap.size w w6) := Below.trans HB5.out (ho.below N2.out HB5.out.size)
          clear hq ho HQ5 HV5 HB5 CT
          go_wp2_with fail
          refine (CU.out _ HQ6.out).mono ?_; rintro e w7 ⟨rfl, hb⟩
          have HQ7 := Lib.hid (HQ6.out.more hb)
          have HB7 : Hid (Below w.heap.size w w7) := Below.trans HB6.out (hb.mono HB6.out.size)
          clear hb HQ6 HB6
          go_wp2_with fail
          refine (CU.out _ HQ7.out).mono ?_; rintro e w8 ⟨rfl, hb⟩
          have HQ8 := Lib.hid (HQ7.out.more hb)
          have HB8 : Hid (Below w.heap.size w w8) := Below.trans HB7.out (hb.mono HB7.out.size)
          clear hb HQ7 HB7
          go_wp2_with fail
          refine (CU.out _ HQ8.out).mono ?_; rintro e w9 ⟨rfl, hb⟩
          have HQ9 := Lib.hid (HQ8.out.more hb)
          have HB9 : Hid (Below w.heap.size w w9) := Below.trans HB8.out (hb.mono HB8.out.size)
          clear hb HQ8 HB8 CU CU2
          go_wp2_with fail
          go_roundw
          case rel => exact ⟨j + 1, _, by omega, by omega, by go_num, HG, HT, HQ9, HB9⟩
          case measure => simp [intOf]; omega
      · have i2 : decide ((j : Int) < 20) = false := by simp; omega
        go_wp2_with fail
        go_ret
        exact ⟨rfl, HB.out⟩
    · have i1 : decide ((j : Int) < (n : Int)) = false := by simp; omega
      go_wp2_with fail
      go_ret
      exact ⟨rfl, HB.out⟩

set_option maxRecDepth 100000 in
theorem lifted (os : Os) (started : os.Started) (H : Type) (enc : TypeId × Value → H) :
    ReturnsInHanded {} Try.checked os 4 .any (Rows.quotaHoldsSpec.pre6 enc Try.prog Try.f4 Rows.quotaHoldsRow.domain false) (Rows.quotaHoldsSpec.post enc Try.prog Try.f4 false true false false) := by
  refine returnsInHanded_of_change_sized (C := Try.checked) own started (by kernel_rfl) Try.func4
    (ChangeSpec.witness6 (enc := enc) (C := Try.checked) false ⟨#[], #[.int .u8 0, .slice none 0 0], []⟩ 8 (by kernel_rfl) (by kernel_rfl) (by kernel_rfl) (by kernel_rfl)) ?_
  intro W base args ds gs before hval0 hW hcnd hsz0 _
  have hval : ∀ (j : Nat) t v, Try.f4.params[j]? = some t → args[j]? = some v → Value.okWide Try.prog W .any base t v := hval0
  have hW' := hW
  obtain ⟨p, q, hA0, hV, rfl, hfz, hnd⟩ := hW
  have hA : DataW.TrodAll enc Try.prog W 0 (fun _ => true) true Try.f4.params.toList args.toList ds p := hA0
  have hsz : (DataW.weightsEach Try.prog (Try.f4.params.toList ++ Rows.quotaHoldsSpec.plain.varTypes Try.prog) (ds ++ gs)).all (· ≤ reachBytes) = true := hsz0
  rw [Try.params4] at hA hval hsz
  obtain ⟨rfl, rfl⟩ := trodVars_none hV
  have hAk := hA
  have hlt : ∀ x ∈ p, x.block < W.heap.size := fun x hx => by simpa using hW'.lt x (List.mem_append.2 (.inl hx))
  obtain ⟨v0, vs0, d0, ds0, p0, q0, hargs, rfl, rfl, h0, r0⟩ := trodAll_cons hA
  obtain ⟨v1, vs1, d1, ds1, p1, q1, rfl, rfl, rfl, h1, r1⟩ := trodAll_cons r0
  obtain ⟨rfl, rfl, rfl⟩ := trodAll_nil r1
  obtain rfl : args = #[v0, v1] := by cases args; simp_all
  obtain ⟨a0, rfl, rfl, rfl, w0⟩ := open_int Try.underlying5 (hval 0 5 v0 rfl rfl) h0
  obtain ⟨a1, len1, cap1, rfl⟩ := okWide_slice Try.underlying22 (hval 1 22 v1 rfl rfl)
  obtain ⟨DL1, w1, m1⟩ := open_putss h1 (Sz.arg hsz (j := 1) rfl rfl)
  clear hA0 hval0 hsz0
  refine (walk a0 (.slice a1 len1 cap1) DL1 w0 W w1 m1).mono fun e W' ⟨he, hg⟩ => ?_
  subst he
  exact ⟨_, rfl, _, _, _, [], _, [], hW', (trodAll_cons_mk (shut_bool Try.underlying4 _) trodAll_mk0), trodAll_below laidOut hg _ _ _ _ (by kernel_rfl) hAk hlt, rfl, hg.frame _, fun h => by cases h⟩

theorem over : Rows.quotaHoldsRow.holds Try.pinned (OpenSpec.ofChange Rows.quotaHoldsSpec) :=
  OpenClaim.holds_of_wide 4 Try.f4 rfl rfl rfl rfl rfl rfl rfl ⟨rfl, rfl, rfl, rfl, rfl⟩ rfl rfl rfl rfl rfl (by kernel_rfl) Try.func4 (by kernel_rfl)
    (of_decide_eq_true (by kernel_rfl)) (by unfold Func.isWrapper; first | (rw [if_pos (by decide +kernel)]; kernel_rfl) | (rw [if_neg (by decide +kernel)]; exact ⟨rfl, rfl⟩))
    (fun os started H enc _ => lifted os started H enc)

/-- the statement -/
theorem proved : Rows.QuotaHoldsSaid :=
  over
#print axioms proved

end Go.Proofs.Ytepoodfihemmcaa.quotaHolds
