/-
  Just what was taken last of each key counts, whatever was taken of it ahead; what is gone counts nothing (the law QuotaLast). No conditions.
-/
import Derived.Test.YtepoodfihemmcaaFrame

import Derived.Test.YtepoodfihemmcaaQuotaRel

import Derived.Deep.DeepCutAuto

import Derived.Test.YtepoodfihemmcaaFramePuts

namespace Go.Proofs.Ytepoodfihemmcaa.quotaLast

open Go.ChangeShapes Go.WideShapes Go.ChangeAt Go.RowKit

open Go.ChangeMaps (open_string shut_string)

set_option linter.unusedVariables false

set_option linter.unusedSimpArgs false

theorem IsWs.cap {w : World} {v : Value} {L : List I.Wt} (h : It.IsWs w v L) : ∃ a c, v = .slice a L.length c ∧ L.length ≤ c ∧ c ≤ maxLen := by
  obtain ⟨a, c, hv, h1, h2, _⟩ := h.is
  exact ⟨a, c, hv, h1, h2⟩
theorem IsWs.sub {w : World} {g off c : Nat} {L : List I.Wt} (h : It.IsWs w (.slice (some ⟨g, off, none⟩) L.length c) L) (j : Nat) (hj : j < L.length) : It.IsWs w (.slice (some ⟨g, off + 4 * j, none⟩) 1 (c - j)) [L.getD j I.none_] := by
  obtain ⟨g', off', c', hv, hlt, hrow⟩ := h.at j hj
  simp only [Value.slice.injEq, Option.some.injEq, Addr.mk.injEq, and_true, true_and] at hv
  obtain ⟨⟨rfl, rfl⟩, rfl⟩ := hv
  obtain ⟨a, cap, hv, h1, h2, _⟩ := h.is
  simp only [Value.slice.injEq, true_and] at hv
  obtain ⟨_, rfl⟩ := hv
  refine ⟨_, c - j, rfl, by simp; omega, by omega, fun _ => ⟨g, off + 4 * j, rfl, hlt, fun i x hx => ?_⟩⟩
  cases i with
  | zero =>
    simp only [List.getElem?_cons_zero, Option.some.injEq] at hx
    subst hx
    exact hrow
  | succ i => simp at hx
section

variable {ops : Array Oper} {rest : List Oper} {o : Oper} {a : Act} {w : World} {Q : Exit → Act → World → Prop}

theorem slice_iw (hgd : o.guard = none) (x y z : Operand) (ho : o.op = .slice 31 x (some z) (some y) none) (g off n c j : Nat) (hx : a.eval x = .slice (some ⟨g, off, none⟩) n c) (hz : a.eval z = .int .i64 (j : Int)) (hy : a.eval y = .int .i64 ((j + 1 : Nat) : Int)) (hj : j < c)
    (h : wpList Try.prog ops Q rest (a.put o.dst (.slice (some ⟨g, off + 4 * j, none⟩) 1 (c - j))) w) : wpList Try.prog ops Q (o :: rest) a w := by
  refine val_step hgd _ ?_ h
  have hv : sliced (some ⟨g, off, none⟩) j (j + 1) c 4 = .slice (some ⟨g, off + 4 * j, none⟩) 1 (c - j) := by
    unfold sliced
    rw [if_neg (by omega), Option.map_some, Addr.add_mid, Nat.mul_comm j 4, Nat.add_sub_cancel_left]
  unfold execOp
  simp only [ho, hx, hy, hz, Option.map_some, Option.map_none, Sem.run_bind]
  rw [run_sliceAt_slice w _ _ _ _ _ (by rw [It.Try.elem_iw]; exact Try.underlying31), run_slice_lh w _ _ _ _ (by rw [It.Try.elem_iw]; exact Try.underlying31) _ _ _ _ (by omega) (by omega) (by omega), It.Try.elem_iw, Try.sizeOf45, Result.andThen_ok, Int.toNat_natCast, Int.toNat_natCast, hv]
  rfl
end

theorem cnt_one (x : I.Wt) (h : I.right x = true) : Q.cnt [x] = if x.2.2.2 = true then 0 else 1 := by
  rw [Q.cnt_cons]
  have h1 := Q.sz_right h
  have h2 := Q.sz_gone h
  show _ + 0 = _
  by_cases hg : x.2.2.2 = true
  · rw [if_pos hg, if_neg (by have := h2.2 hg; omega)]
  · rw [if_neg hg, if_pos (by have : Q.sz x ≠ 0 := fun e => hg (h2.1 e); omega)]
set_option maxHeartbeats 32000000 in
set_option maxRecDepth 100000 in
theorem walk (dv0 : Value) (DL0 : List I.Pt) (w : World) (w0 : It.IsPs w dv0 DL0) (m0 : ∀ x ∈ DL0, I.POk x) :
    Calls Try.prog 5 #[dv0] w fun e w' => e = .returned (.bool true) ∧ Below w.heap.size w w' := by
  have HDS := Lib.hid w0
  have HMO : Hid (∀ x ∈ DL0, I.POk x) := m0
  obtain ⟨sa, cap, rfl, hca, hma, _⟩ := w0.is
  clear hca hma m0 w0
  obtain ⟨LW, HLW⟩ : ∃ LW, Hid (I.wrs 20 false DL0 [] = LW) := ⟨_, rfl⟩
  have CW := Lib.hid (fun u (hu : Below w.heap.size w u) => It.writes_false _ DL0 20 u (HDS.out.below hu) HMO.out (by decide))
  have hl := I.wrs_len 20 false DL0 [] (by simp)
  rw [HLW.out] at CW hl
  have HL20 := Lib.hid hl
  obtain ⟨d0, HD0⟩ : ∃ d, Hid (DL0.length = d) := ⟨_, rfl⟩
  rw [HD0.out] at CW
  rw [HD0.out]
  clear hl HDS HMO HLW HD0
  have CN := Lib.hid (fun u => Qm.new_ok 1048576 u (by decide) (by decide))
  go_enter Try.func5, Try.ntmps5
  go_wp2_with fail
  refine (Qm.examples_any _).mono ?_; rintro e w1 ⟨rfl, hb1⟩
  have B1 : Hid (Below w.heap.size w w1) := hb1
  clear hb1
  go_wp2_with fail
  refine (CN.out _).mono ?_; rintro e w2 ⟨b, mb, rfl, hq, hb, n1, n2⟩
  have Q2 := Lib.hid hq
  have B2 : Hid (Below w.heap.size w w2) := Below.trans B1.out (hb.mono B1.out.size)
  have N2 : Hid (w.heap.size ≤ mb) := Nat.le_trans B1.out.size n2
  clear hq hb n1 n2 CN B1
  go_wp2_with fail
  refine (CW.out _ B2.out).mono ?_; rintro e w3 ⟨v', rfl, how, hb⟩
  have V3 : Hid (It.IsWs w3 v' LW) := how.is
  have Q3 : Hid (Qm.Qo w3 b mb 1048576 (Q.layAll [] (LW.take 0))) := Q2.out.more hb
  have B3 : Hid (Below w.heap.size w w3) := Below.trans B2.out (hb.mono B2.out.size)
  clear how hb CW B2 Q2
  obtain ⟨va, vc, ev, hcp, hcm⟩ := IsWs.cap V3.out
  subst ev
  obtain ⟨n, HN⟩ : ∃ n, Hid (LW.length = n) := ⟨_, rfl⟩
  rw [HN.out] at V3 HL20 hcp ⊢
  have hn20 : n ≤ 20 := HL20.out
  have S0 : Hid (0 + Q.sumS (Q.lastsC (LW.drop 0)) = Q.sumS (Q.lastsC LW)) := by show _ = _; rw [List.drop_zero]; omega
  have C0 : Hid (0 + Q.cnt (Q.lastsC (LW.drop 0)) = Q.cnt (Q.lastsC LW)) := by show _ = _; rw [List.drop_zero]; omega
  clear HL20
  go_wp2_with fail
  go_loopw [7, 8, 9] (fun s c i wr => ∃ (j : Nat) (q : Int) (p : Nat), j ≤ n ∧ i = .int .i64 (j : Int) ∧ s = .int .i64 q ∧ c = .int .i64 (p : Int) ∧ 0 ≤ q ∧ q ≤ 64 * j ∧ p ≤ j ∧ Hid (q + Q.sumS (Q.lastsC (LW.drop j)) = Q.sumS (Q.lastsC LW)) ∧ Hid (p + Q.cnt (Q.lastsC (LW.drop j)) = Q.cnt (Q.lastsC LW)) ∧ Hid (Qm.Qo wr b mb 1048576 (Q.layAll [] (LW.take j))) ∧ Hid (It.IsWs wr (.slice va n vc) LW) ∧ Hid (Below w.heap.size w wr)) (fun _ _ i _ => n - (intOf i).toNat)
  case atStart => exact ⟨0, 0, 0, by omega, rfl, rfl, rfl, by omega, by omega, by omega, S0, C0, Q3, V3, B3⟩
  case round =>
    obtain ⟨j, q, p, hjn, rfl, rfl, rfl, hq0, hq1, hp1, HS, HC, HQ, HV, HB⟩ := hrel
    clear S0 C0 Q3 V3 B3
    by_cases hlt : j < n
    · have i1 : (j : Int) < (n : Int) := by omega
      obtain ⟨g, off, cap', hv, hg0, hrow⟩ := It.IsWs.at HV.out j (by rw [HN.out]; exact hlt)
      obtain rfl : va = some ⟨g, off, none⟩ := by injection hv
      clear hv
      have HSUB : Hid (It.IsWs wr (.slice (some ⟨g, off + 4 * j, none⟩) 1 (vc - j)) [LW.getD j I.none_]) := IsWs.sub (by rw [HN.out]; exact HV.out) j (by rw [HN.out]; exact hlt)
      have hdr := Q.drop_cons LW j (by rw [HN.out]; exact hlt)
      have hly := Q.layAll_step [] LW j (by rw [HN.out]; exact hlt)
      obtain ⟨x, HX⟩ : ∃ x, Hid (LW.getD j I.none_ = x) := ⟨_, rfl⟩
      rw [HX.out] at hrow hdr hly HSUB
      have hgood : Q.Good (Q.layAll [] (LW.take j)) := Q.layAll_good _ Q.Good.nil
      have htj : Q.tot (Q.layAll [] (LW.take j)) ≤ 64 * j := by
        have := Q.tot_layAll (LW.take j) Q.Good.nil
        rw [List.length_take] at this
        have h0 : Q.tot ([] : Q.Tb) = 0 := rfl
        omega
      have htx : 0 ≤ Q.tot (Q.layAll (Q.layAll [] (LW.take j)) [x]) ∧ Q.tot (Q.layAll (Q.layAll [] (LW.take j)) [x]) ≤ 64 * j + 64 := by
        have h1 := Q.tot_layAll [x] hgood
        have h2 := Q.tot_pos (Q.layAll_good [x] hgood)
        simp only [List.length_cons, List.length_nil] at h1
        omega
      have CT : Hid (∀ u v, Qm.Qo u b mb 1048576 (Q.layAll [] (LW.take j)) → It.IsWs u v [x] → Calls Try.prog 16 #[.pointer (some ⟨b, 0, none⟩), v] u fun e w' => e = .returned (.bool true) ∧ Qm.Qo w' b mb 1048576 (Q.layAll [] (LW.take (j + 1))) ∧ Qm.Only mb u w') := fun u v hu hv => by
        have := Qm.take_any b mb 1048576 _ v [x] u hu hgood hv _ rfl htx.1 (by omega) true (decide_eq_true (by omega))
        rw [if_pos rfl] at this
        rw [hly]
        exact this
      have HDR := Lib.hid hdr
      have hcj : j < vc := by omega
      obtain ⟨r, HR⟩ : ∃ r, Hid (I.right x = r) := ⟨_, rfl⟩
      have CR := Lib.hid (fun u => It.wright_any x u)
      rw [HR.out] at CR
      obtain ⟨xb, xk, xv, xg⟩ := x
      have CR : Hid (∀ u, Calls Try.prog 23 #[.agg [Value.string xb, .string xk, .string xv, .bool xg].toArray] u fun e w' => e = .returned (.bool r) ∧ Below u.heap.size u w') := CR.out
      have hix : ∀ w, (Instr.indexAt 31 (.slice (some ⟨g, off, none⟩) n vc) (.int .i64 (j : Int))).run Try.prog w = .ok (.pointer (some ⟨g, off + 4 * j, none⟩)) w := fun w => It.index_iw g off n vc j hlt w
      have HROW : Hid (wr.rangeAt g (off + 4 * j) [Value.string xb, .string xk, .string xv, .bool xg]) := hrow
      clear hrow hdr hly hgood htj htx hg0
      go_wp2_with (first | refine slice_iw rfl _ _ _ rfl g off n vc j rfl rfl rfl hcj ?_)
      refine (CT.out _ _ HQ.out HSUB.out).mono ?_; rintro e w4 ⟨rfl, hqo, ho⟩
      have HQ4 := Lib.hid hqo
      have HV4 := Lib.hid (ho.ws HQ.out.map.isMap HV.out)
      have HROW4 : Hid (w4.rangeAt g (off + 4 * j) [Value.string xb, .string xk, .string xv, .bool xg]) := ho.row HQ.out.map.isMap HROW.out
      have HB4 : Hid (Below w.heap.size w w4) := Below.trans HB.out (ho.below N2.out HB.out.size)
      clear hqo ho HQ HV HB CT HSUB HROW
      go_wp2_with (first | refine wpList_load_mid rfl 45 _ rfl g (off + 4 * j) rfl [Value.string xb, .string xk, .string xv, .bool xg] _ HROW4.out Try.underlying45 rfl It.Try.size_w ?_)
      refine (CR.out _).mono ?_; rintro e w7 ⟨rfl, hb⟩
      have HQ7 := Lib.hid (HQ4.out.more hb)
      have HV7 := Lib.hid (HV4.out.below hb)
      have HB7 : Hid (Below w.heap.size w w7) := Below.trans HB4.out (hb.mono HB4.out.size)
      clear hb HQ4 HV4 HB4 HROW4 CR
      obtain ⟨fin, HFIN⟩ : ∃ f, Hid ((r && !Q.later (xb, xk, xv, xg) (LW.drop (j + 1))) = f) := ⟨_, rfl⟩
      obtain ⟨g0, off0, cap0, hv, hg7, hrow7⟩ := It.IsWs.at HV7.out j (by rw [HN.out]; exact hlt)
      have hv2 := hv
      simp only [Value.slice.injEq, Option.some.injEq, Addr.mk.injEq, and_true, true_and] at hv2
      obtain ⟨⟨rfl, rfl⟩, hnl, rfl⟩ := hv2
      clear hv hnl
      rw [HX.out] at hrow7
      clear HX
      have HR7 : Hid (w7.rangeAt g (off + 4 * j) [Value.string xb, .string xk, .string xv, .bool xg]) := hrow7
      have HG7 : Hid (g < w7.heap.size) := hg7
      clear hrow7 hg7
      go_wp2_with fail
      go_loopw [10, 11] (fun t i wr => ∃ (k : Nat) (tv : Bool), k ≤ n ∧ i = .int .i64 (k : Int) ∧ t = .bool tv ∧ Hid ((tv && !Q.later (xb, xk, xv, xg) (LW.drop k)) = fin) ∧ Hid (Below w7.heap.size w7 wr)) (fun _ i _ => n - (intOf i).toNat)
      case atStart => exact ⟨j + 1, r, by omega, by go_num, rfl, HFIN, Below.refl _ _⟩
      case round =>
        obtain ⟨k, tv, hkn, rfl, rfl, HT, HBk⟩ := hrel
        by_cases hlk : k < n
        · have ikm : (k : Int) < (n : Int) := by omega
          obtain ⟨g2, off2, cap2, hv, hg2, hrow2⟩ := It.IsWs.at (HV7.out.below HBk.out) k (by rw [HN.out]; exact hlk)
          have hv2 := hv
          simp only [Value.slice.injEq, Option.some.injEq, Addr.mk.injEq, and_true, true_and] at hv2
          obtain ⟨⟨rfl, rfl⟩, hnl, rfl⟩ := hv2
          clear hv hnl
          have hts := Q.later_step (xb, xk, xv, xg) (LW.getD k I.none_) (LW.drop (k + 1)) tv
          rw [← Q.drop_cons LW k (by rw [HN.out]; exact hlk), HT.out] at hts
          obtain ⟨y, HY⟩ : ∃ y, Hid (LW.getD k I.none_ = y) := ⟨_, rfl⟩
          rw [HY.out] at hrow2 hts
          clear HY
          obtain ⟨e3, HE3⟩ : ∃ r, Hid (I.right y = r) := ⟨_, rfl⟩
          have CRY : Hid (∀ u, Below wr.heap.size wr u → Calls Try.prog 23 #[It.WV y] u fun e u' => e = .returned (.bool e3) ∧ Below wr.heap.size wr u') := fun u hu => (It.wright_any y u).mono (by rintro e u' ⟨rfl, hb⟩; exact ⟨by rw [HE3.out], Below.trans hu (hb.mono hu.size)⟩)
          rw [HE3.out] at hts
          obtain ⟨yb, yk, yv, yg⟩ := y
          obtain ⟨e1, HE1⟩ : ∃ r, Hid (decide (yb = xb) = r) := ⟨_, rfl⟩
          obtain ⟨e2, HE2⟩ : ∃ r, Hid (decide (yk = xk) = r) := ⟨_, rfl⟩
          have Q1 : Hid ((yb.toList == xb.toList) = e1) := by show _ = _; rw [V.tol_eq]; exact HE1.out
          have Q2 : Hid ((yk.toList == xk.toList) = e2) := by show _ = _; rw [V.tol_eq]; exact HE2.out
          have hkey : decide (I.key (yb, yk, yv, yg) = I.key (xb, xk, xv, xg)) = (e1 && e2) := by
            rw [← HE1.out, ← HE2.out, ← Bool.decide_and]
            exact decide_eq_decide.2 (by simp [I.key])
          rw [hkey] at hts
          have HTS : Hid (((tv && !((e1 && e2) && e3)) && !Q.later (xb, xk, xv, xg) (LW.drop (k + 1))) = fin) := hts.symm
          have KYR : Hid (∀ u, Below wr.heap.size wr u → u.rangeAt g (off + 4 * k) (It.wc (yb, yk, yv, yg))) := fun u hu i v hv => by rw [hu.cell (p := ⟨g, off + 4 * k + i, none⟩) hg2]; exact hrow2 i v hv
          have KY0 : Hid (∀ u, Below wr.heap.size wr u → u.cell? ⟨g, off + 4 * k, none⟩ = some (.string yb)) := fun u hu => KYR.out u hu 0 _ rfl
          have KY1 : Hid (∀ u, Below wr.heap.size wr u → u.cell? ⟨g, off + 4 * k + 1, none⟩ = some (.string yk)) := fun u hu => KYR.out u hu 1 _ rfl
          have HX8 : Hid (∀ u, Below wr.heap.size wr u → u.rangeAt g (off + 4 * j) [Value.string xb, .string xk, .string xv, .bool xg]) := fun u hu i v hv => by rw [(Below.trans HBk.out (hu.mono HBk.out.size)).cell (p := ⟨g, off + 4 * j + i, none⟩) HG7.out]; exact HR7.out i v hv
          have KX0 : Hid (∀ u, Below wr.heap.size wr u → u.cell? ⟨g, off + 4 * j, none⟩ = some (.string xb)) := fun u hu => HX8.out u hu 0 _ rfl
          have KX1 : Hid (∀ u, Below wr.heap.size wr u → u.cell? ⟨g, off + 4 * j + 1, none⟩ = some (.string xk)) := fun u hu => HX8.out u hu 1 _ rfl
          clear hrow2 hts hkey hg2 HE1 HE2 HE3 HX8
          go_wp2_with fail
          refine region_w Try.mixed (by kernel_rfl) ?_
          refine w_move rfl _ rfl (.bool tv) rfl (fun K hK => ?_)
          go_simp
          refine hK _ ?_
          clear hK K
          refine w_move rfl _ rfl (.bool tv) rfl (fun K hK => ?_)
          go_simp
          refine hK _ ?_
          clear hK K
          cases tv with
          | false =>
            refine w_skip 1 true (some false) rfl rfl rfl (fun K hK => ?_)
            go_simp
            refine hK _ ?_
            clear hK K
            refine w_skip 1 true (some false) rfl rfl rfl (fun K hK => ?_)
            go_simp
            refine hK _ ?_
            clear hK K
            refine w_skip 1 true (some false) rfl rfl rfl (fun K hK => ?_)
            go_simp
            refine hK _ ?_
            clear hK K
            refine w_skip 1 true (some false) rfl rfl rfl (fun K hK => ?_)
            go_simp
            refine hK _ ?_
            clear hK K
            refine w_skip 1 true (some false) rfl rfl rfl (fun K hK => ?_)
            go_simp
            refine hK _ ?_
            clear hK K
            refine w_skip 1 true (some false) rfl rfl rfl (fun K hK => ?_)
            go_simp
            refine hK _ ?_
            clear hK K
            refine w_skip 1 true (some false) rfl rfl rfl (fun K hK => ?_)
            go_simp
            refine hK _ ?_
            clear hK K
            refine w_skip 1 true (some false) rfl rfl rfl (fun K hK => ?_)
            go_simp
            refine hK _ ?_
            clear hK K
            refine w_skip 1 true (some false) rfl rfl rfl (fun K hK => ?_)
            go_simp
            refine hK _ ?_
            clear hK K
            refine w_skip 1 true (some false) rfl rfl rfl (fun K hK => ?_)
            go_simp
            refine hK _ ?_
            clear hK K
            refine w_skip 1 true (some false) rfl rfl rfl (fun K hK => ?_)
            go_simp
            refine hK _ ?_
            clear hK K
            refine w_skip 1 true (some false) rfl rfl rfl (fun K hK => ?_)
            go_simp
            refine hK _ ?_
            clear hK K
            refine w_skip 13 true (none) rfl rfl rfl (fun K hK => ?_)
            go_simp
            refine hK _ ?_
            clear hK K
            refine w_skip 13 true (none) rfl rfl rfl (fun K hK => ?_)
            go_simp
            refine hK _ ?_
            clear hK K
            refine w_skip 13 true (none) rfl rfl rfl (fun K hK => ?_)
            go_simp
            refine hK _ ?_
            clear hK K
            refine w_skip 13 true (none) rfl rfl rfl (fun K hK => ?_)
            go_simp
            refine hK _ ?_
            clear hK K
            refine w_skip 13 true (none) rfl rfl rfl (fun K hK => ?_)
            go_simp
            refine hK _ ?_
            clear hK K
            refine w_skip 13 true (none) rfl rfl rfl (fun K hK => ?_)
            go_simp
            refine hK _ ?_
            clear hK K
            refine w_skip 13 true (none) rfl rfl rfl (fun K hK => ?_)
            go_simp
            refine hK _ ?_
            clear hK K
            refine w_skip 13 true (none) rfl rfl rfl (fun K hK => ?_)
            go_simp
            refine hK _ ?_
            clear hK K
            refine w_skip 13 true (none) rfl rfl rfl (fun K hK => ?_)
            go_simp
            refine hK _ ?_
            clear hK K
            refine w_skip 13 true (none) rfl rfl rfl (fun K hK => ?_)
            go_simp
            refine hK _ ?_
            clear hK K
            refine w_skip 13 true (none) rfl rfl rfl (fun K hK => ?_)
            go_simp
            refine hK _ ?_
            clear hK K
            refine w_skip 1 true (some false) rfl rfl rfl (fun K hK => ?_)
            go_simp
            refine hK _ ?_
            clear hK K
            refine w_skip 1 true (some false) rfl rfl rfl (fun K hK => ?_)
            go_simp
            refine hK _ ?_
            clear hK K
            refine w_skip 26 true (none) rfl rfl rfl (fun K hK => ?_)
            go_simp
            refine hK _ ?_
            clear hK K
            refine w_skip 26 true (none) rfl rfl rfl (fun K hK => ?_)
            go_simp
            refine hK _ ?_
            clear hK K
            refine w_skip 26 true (none) rfl rfl rfl (fun K hK => ?_)
            go_simp
            refine hK _ ?_
            clear hK K
            refine w_skip 26 true (none) rfl rfl rfl (fun K hK => ?_)
            go_simp
            refine hK _ ?_
            clear hK K
            refine w_skip 26 true (none) rfl rfl rfl (fun K hK => ?_)
            go_simp
            refine hK _ ?_
            clear hK K
            refine w_skip 1 true (some false) rfl rfl rfl (fun K hK => ?_)
            go_simp
            refine hK _ ?_
            clear hK K
            refine w_skip 1 true (some false) rfl rfl rfl (fun K hK => ?_)
            go_simp
            refine hK _ ?_
            clear hK K
            refine w_value rfl (.bool false) (fun u hu => by go_simp) (fun K hK => ?_)
            go_simp
            refine hK _ ?_
            clear hK K
            refine w_assign rfl _ rfl (.bool false) rfl (fun K hK => ?_)
            go_simp
            refine hK _ ?_
            clear hK K
            refine w_nil ?_
            intro u hu
            have HBu : Hid (Below w7.heap.size w7 u) := Below.trans HBk.out (hu.mono HBk.out.size)
            have HTu : Hid ((false && !Q.later (xb, xk, xv, xg) (LW.drop (k + 1))) = fin) := by show _ = _; rw [← HTS.out]; simp
            clear hu HBk KX0 KX1 KY0 KY1 KYR CRY
            go_wp2_with fail
            go_roundw
            case rel => exact ⟨k + 1, false, by omega, by go_num, rfl, HTu, HBu⟩
            case measure => simp [intOf]; omega
          | true =>
            refine wg_value (by rfl) (.slice (some ⟨g, off, none⟩) n vc) (fun u hu => by go_simp) (fun K hK => ?_)
            go_simp
            refine hK _ ?_
            clear hK K
            refine wg_value (by rfl) (.int .i64 (k : Int)) (fun u hu => by go_simp) (fun K hK => ?_)
            go_simp
            refine hK _ ?_
            clear hK K
            refine wg_value (by rfl) (.pointer (some ⟨g, off + 4 * k, none⟩)) (fun u hu => by have hc := It.index_iw g off n vc k hlk u; go_simp) (fun K hK => ?_)
            go_simp
            refine hK _ ?_
            clear hK K
            refine wg_value (by rfl) (.pointer (some ⟨g, off + 4 * k, none⟩)) (fun u hu => by go_simp) (fun K hK => ?_)
            go_simp
            refine hK _ ?_
            clear hK K
            refine wg_value (by rfl) (.string yb) (fun u hu => by have hc := KY0.out u hu; go_simp) (fun K hK => ?_)
            go_simp
            refine hK _ ?_
            clear hK K
            refine wg_value (by rfl) (.slice (some ⟨g, off, none⟩) n vc) (fun u hu => by go_simp) (fun K hK => ?_)
            go_simp
            refine hK _ ?_
            clear hK K
            refine wg_value (by rfl) (.int .i64 (j : Int)) (fun u hu => by go_simp) (fun K hK => ?_)
            go_simp
            refine hK _ ?_
            clear hK K
            refine wg_value (by rfl) (.pointer (some ⟨g, off + 4 * j, none⟩)) (fun u hu => by have hc := It.index_iw g off n vc j hlt u; go_simp) (fun K hK => ?_)
            go_simp
            refine hK _ ?_
            clear hK K
            refine wg_value (by rfl) (.pointer (some ⟨g, off + 4 * j, none⟩)) (fun u hu => by go_simp) (fun K hK => ?_)
            go_simp
            refine hK _ ?_
            clear hK K
            refine wg_value (by rfl) (.string xb) (fun u hu => by have hc := KX0.out u hu; go_simp) (fun K hK => ?_)
            go_simp
            refine hK _ ?_
            clear hK K
            refine wg_value (by rfl) (.bool e1) (fun u hu => by have hs := Q1.out; go_simp) (fun K hK => ?_)
            go_simp
            refine hK _ ?_
            clear hK K
            refine wg_value (by rfl) (.bool e1) (fun u hu => by go_simp) (fun K hK => ?_)
            go_simp
            refine hK _ ?_
            clear hK K
            cases e1 with
            | false =>
              refine w_skip 13 true (some false) rfl rfl rfl (fun K hK => ?_)
              go_simp
              refine hK _ ?_
              clear hK K
              refine w_skip 13 true (some false) rfl rfl rfl (fun K hK => ?_)
              go_simp
              refine hK _ ?_
              clear hK K
              refine w_skip 13 true (some false) rfl rfl rfl (fun K hK => ?_)
              go_simp
              refine hK _ ?_
              clear hK K
              refine w_skip 13 true (some false) rfl rfl rfl (fun K hK => ?_)
              go_simp
              refine hK _ ?_
              clear hK K
              refine w_skip 13 true (some false) rfl rfl rfl (fun K hK => ?_)
              go_simp
              refine hK _ ?_
              clear hK K
              refine w_skip 13 true (some false) rfl rfl rfl (fun K hK => ?_)
              go_simp
              refine hK _ ?_
              clear hK K
              refine w_skip 13 true (some false) rfl rfl rfl (fun K hK => ?_)
              go_simp
              refine hK _ ?_
              clear hK K
              refine w_skip 13 true (some false) rfl rfl rfl (fun K hK => ?_)
              go_simp
              refine hK _ ?_
              clear hK K
              refine w_skip 13 true (some false) rfl rfl rfl (fun K hK => ?_)
              go_simp
              refine hK _ ?_
              clear hK K
              refine w_skip 13 true (some false) rfl rfl rfl (fun K hK => ?_)
              go_simp
              refine hK _ ?_
              clear hK K
              refine w_skip 13 true (some false) rfl rfl rfl (fun K hK => ?_)
              go_simp
              refine hK _ ?_
              clear hK K
              refine wg_value (by rfl) (.bool false) (fun u hu => by go_simp) (fun K hK => ?_)
              go_simp
              refine hK _ ?_
              clear hK K
              refine wg_value (by rfl) (.bool false) (fun u hu => by go_simp) (fun K hK => ?_)
              go_simp
              refine hK _ ?_
              clear hK K
              refine w_skip 26 true (some false) rfl rfl rfl (fun K hK => ?_)
              go_simp
              refine hK _ ?_
              clear hK K
              refine w_skip 26 true (some false) rfl rfl rfl (fun K hK => ?_)
              go_simp
              refine hK _ ?_
              clear hK K
              refine w_skip 26 true (some false) rfl rfl rfl (fun K hK => ?_)
              go_simp
              refine hK _ ?_
              clear hK K
              refine w_skip 26 true (some false) rfl rfl rfl (fun K hK => ?_)
              go_simp
              refine hK _ ?_
              clear hK K
              refine w_skip 26 true (some false) rfl rfl rfl (fun K hK => ?_)
              go_simp
              refine hK _ ?_
              clear hK K
              refine wg_value (by rfl) (.bool false) (fun u hu => by go_simp) (fun K hK => ?_)
              go_simp
              refine hK _ ?_
              clear hK K
              refine wg_value (by rfl) (.bool true) (fun u hu => by go_simp) (fun K hK => ?_)
              go_simp
              refine hK _ ?_
              clear hK K
              refine w_value rfl (.bool true) (fun u hu => by go_simp) (fun K hK => ?_)
              go_simp
              refine hK _ ?_
              clear hK K
              refine w_assign rfl _ rfl (.bool true) rfl (fun K hK => ?_)
              go_simp
              refine hK _ ?_
              clear hK K
              refine w_nil ?_
              intro u hu
              have HBu : Hid (Below w7.heap.size w7 u) := Below.trans HBk.out (hu.mono HBk.out.size)
              have HTu : Hid ((true && !Q.later (xb, xk, xv, xg) (LW.drop (k + 1))) = fin) := by show _ = _; rw [← HTS.out]; simp
              clear hu HBk KX0 KX1 KY0 KY1 KYR CRY
              go_wp2_with fail
              go_roundw
              case rel => exact ⟨k + 1, true, by omega, by go_num, rfl, HTu, HBu⟩
              case measure => simp [intOf]; omega
            | true =>
              refine wg_value (by rfl) (.slice (some ⟨g, off, none⟩) n vc) (fun u hu => by go_simp) (fun K hK => ?_)
              go_simp
              refine hK _ ?_
              clear hK K
              refine wg_value (by rfl) (.int .i64 (k : Int)) (fun u hu => by go_simp) (fun K hK => ?_)
              go_simp
              refine hK _ ?_
              clear hK K
              refine wg_value (by rfl) (.pointer (some ⟨g, off + 4 * k, none⟩)) (fun u hu => by have hc := It.index_iw g off n vc k hlk u; go_simp) (fun K hK => ?_)
              go_simp
              refine hK _ ?_
              clear hK K
              refine wg_value (by rfl) (.pointer (some ⟨g, off + 4 * k + 1, none⟩)) (fun u hu => by go_simp) (fun K hK => ?_)
              go_simp
              refine hK _ ?_
              clear hK K
              refine wg_value (by rfl) (.string yk) (fun u hu => by have hc := KY1.out u hu; go_simp) (fun K hK => ?_)
              go_simp
              refine hK _ ?_
              clear hK K
              refine wg_value (by rfl) (.slice (some ⟨g, off, none⟩) n vc) (fun u hu => by go_simp) (fun K hK => ?_)
              go_simp
              refine hK _ ?_
              clear hK K
              refine wg_value (by rfl) (.int .i64 (j : Int)) (fun u hu => by go_simp) (fun K hK => ?_)
              go_simp
              refine hK _ ?_
              clear hK K
              refine wg_value (by rfl) (.pointer (some ⟨g, off + 4 * j, none⟩)) (fun u hu => by have hc := It.index_iw g off n vc j hlt u; go_simp) (fun K hK => ?_)
              go_simp
              refine hK _ ?_
              clear hK K
              refine wg_value (by rfl) (.pointer (some ⟨g, off + 4 * j + 1, none⟩)) (fun u hu => by go_simp) (fun K hK => ?_)
              go_simp
              refine hK _ ?_
              clear hK K
              refine wg_value (by rfl) (.string xk) (fun u hu => by have hc := KX1.out u hu; go_simp) (fun K hK => ?_)
              go_simp
              refine hK _ ?_
              clear hK K
              refine wg_value (by rfl) (.bool e2) (fun u hu => by have hs := Q2.out; go_simp) (fun K hK => ?_)
              go_simp
              refine hK _ ?_
              clear hK K
              refine wg_value (by rfl) (.bool e2) (fun u hu => by go_simp) (fun K hK => ?_)
              go_simp
              refine hK _ ?_
              clear hK K
              refine wg_value (by rfl) (.bool e2) (fun u hu => by go_simp) (fun K hK => ?_)
              go_simp
              refine hK _ ?_
              clear hK K
              cases e2 with
              | false =>
                refine w_skip 26 true (some false) rfl rfl rfl (fun K hK => ?_)
                go_simp
                refine hK _ ?_
                clear hK K
                refine w_skip 26 true (some false) rfl rfl rfl (fun K hK => ?_)
                go_simp
                refine hK _ ?_
                clear hK K
                refine w_skip 26 true (some false) rfl rfl rfl (fun K hK => ?_)
                go_simp
                refine hK _ ?_
                clear hK K
                refine w_skip 26 true (some false) rfl rfl rfl (fun K hK => ?_)
                go_simp
                refine hK _ ?_
                clear hK K
                refine w_skip 26 true (some false) rfl rfl rfl (fun K hK => ?_)
                go_simp
                refine hK _ ?_
                clear hK K
                refine wg_value (by rfl) (.bool false) (fun u hu => by go_simp) (fun K hK => ?_)
                go_simp
                refine hK _ ?_
                clear hK K
                refine wg_value (by rfl) (.bool true) (fun u hu => by go_simp) (fun K hK => ?_)
                go_simp
                refine hK _ ?_
                clear hK K
                refine w_value rfl (.bool true) (fun u hu => by go_simp) (fun K hK => ?_)
                go_simp
                refine hK _ ?_
                clear hK K
                refine w_assign rfl _ rfl (.bool true) rfl (fun K hK => ?_)
                go_simp
                refine hK _ ?_
                clear hK K
                refine w_nil ?_
                intro u hu
                have HBu : Hid (Below w7.heap.size w7 u) := Below.trans HBk.out (hu.mono HBk.out.size)
                have HTu : Hid ((true && !Q.later (xb, xk, xv, xg) (LW.drop (k + 1))) = fin) := by show _ = _; rw [← HTS.out]; simp
                clear hu HBk KX0 KX1 KY0 KY1 KYR CRY
                go_wp2_with fail
                go_roundw
                case rel => exact ⟨k + 1, true, by omega, by go_num, rfl, HTu, HBu⟩
                case measure => simp [intOf]; omega
              | true =>
                refine wg_value (by rfl) (.slice (some ⟨g, off, none⟩) n vc) (fun u hu => by go_simp) (fun K hK => ?_)
                go_simp
                refine hK _ ?_
                clear hK K
                refine wg_value (by rfl) (.int .i64 (k : Int)) (fun u hu => by go_simp) (fun K hK => ?_)
                go_simp
                refine hK _ ?_
                clear hK K
                refine wg_value (by rfl) (.pointer (some ⟨g, off + 4 * k, none⟩)) (fun u hu => by have hc := It.index_iw g off n vc k hlk u; go_simp) (fun K hK => ?_)
                go_simp
                refine hK _ ?_
                clear hK K
                refine It.wg_wv_load (by rfl) 45 _ rfl g (off + 4 * k) rfl (yb, yk, yv, yg) (fun u hu => KYR.out u hu) _ Try.underlying45 rfl It.Try.size_w (fun K hK => ?_)
                go_simp
                refine hK _ ?_
                clear hK K
                refine wg_call (by rfl) 23 _ Try.func23 rfl rfl _ _ rfl [It.WV (yb, yk, yv, yg)] rfl (.bool e3) (fun u hu => CRY.out u hu) (fun K hK => ?_)
                go_simp
                refine hK _ ?_
                clear hK K
                refine wg_value (by rfl) (.bool e3) (fun u hu => by go_simp) (fun K hK => ?_)
                go_simp
                refine hK _ ?_
                clear hK K
                refine wg_value (by rfl) (.bool (!e3)) (fun u hu => by go_simp) (fun K hK => ?_)
                go_simp
                refine hK _ ?_
                clear hK K
                refine w_value rfl (.bool (!e3)) (fun u hu => by go_simp) (fun K hK => ?_)
                go_simp
                refine hK _ ?_
                clear hK K
                refine w_assign rfl _ rfl (.bool (!e3)) rfl (fun K hK => ?_)
                go_simp
                refine hK _ ?_
                clear hK K
                refine w_nil ?_
                intro u hu
                have HBu : Hid (Below w7.heap.size w7 u) := Below.trans HBk.out (hu.mono HBk.out.size)
                have HTu : Hid (((!e3) && !Q.later (xb, xk, xv, xg) (LW.drop (k + 1))) = fin) := by show _ = _; rw [← HTS.out]; simp
                clear hu HBk KX0 KX1 KY0 KY1 KYR CRY
                go_wp2_with fail
                go_roundw
                case rel => exact ⟨k + 1, (!e3), by omega, by go_num, rfl, HTu, HBu⟩
                case measure => simp [intOf]; omega
        · obtain rfl : k = n := by omega
          have htv : tv = fin := by
            have := HT.out
            rw [List.drop_of_length_le (by rw [HN.out]; exact Nat.le_refl _)] at this
            simpa [Q.later] using this
          subst htv
          have HQ8 := Lib.hid (HQ7.out.more HBk.out)
          have HV8 := Lib.hid (HV7.out.below HBk.out)
          have HB8 : Hid (Below w.heap.size w wr) := Below.trans HB7.out (HBk.out.mono HB7.out.size)
          have HR8 : Hid (wr.rangeAt g (off + 4 * j) [Value.string xb, .string xk, .string xv, .bool xg]) := fun i v hv => by rw [HBk.out.cell (p := ⟨g, off + 4 * j + i, none⟩) HG7.out]; exact HR7.out i v hv
          have HG8 : Hid (g < wr.heap.size) := Nat.lt_of_lt_of_le HG7.out HBk.out.size
          have hls : Q.lastsC (LW.drop j) = (if (I.right (xb, xk, xv, xg) && !Q.later (xb, xk, xv, xg) (LW.drop (j + 1))) = true then [(xb, xk, xv, xg)] else []) ++ Q.lastsC (LW.drop (j + 1)) := by rw [HDR.out]; rfl
          rw [HR.out, HFIN.out] at hls
          have HLS := Lib.hid hls
          clear hls HT HBk HQ7 HV7 HB7 HR7 HG7 HDR
          cases tv with
          | false =>
            have HS2 : Hid (q + Q.sumS (Q.lastsC (LW.drop (j + 1))) = Q.sumS (Q.lastsC LW)) := by
              have := HS.out
              rw [HLS.out] at this
              exact this
            have HC2 : Hid (p + Q.cnt (Q.lastsC (LW.drop (j + 1))) = Q.cnt (Q.lastsC LW)) := by
              have := HC.out
              rw [HLS.out] at this
              exact this
            clear HS HC HLS HR8 HG8 HFIN HR
            go_wp2_with fail
            go_roundw
            case rel => exact ⟨j + 1, q, p, by omega, by go_num, rfl, rfl, hq0, by omega, by omega, HS2, HC2, HQ8, HV8, HB8⟩
            case measure => simp [intOf]; omega
          | true =>
            have hrt : I.right (xb, xk, xv, xg) = true := by
              have h1 := HFIN.out
              rw [HR.out]
              cases r with
              | true => rfl
              | false => simp at h1
            have hsz := Q.sz_right hrt
            have hcn := cnt_one _ hrt
            have CS := Lib.hid (fun u => It.wsize_any (xb, xk, xv, xg) u (Qm.ok_right hrt))
            obtain ⟨z, HZ⟩ : ∃ z : Int, Hid (Q.sz (xb, xk, xv, xg) = z) := ⟨_, rfl⟩
            change Hid (∀ u, Calls Try.prog 24 #[.agg [Value.string xb, .string xk, .string xv, .bool xg].toArray] u fun e w' => e = .returned (.int .i64 (Q.sz (xb, xk, xv, xg))) ∧ Below u.heap.size u w') at CS
            rw [HZ.out] at CS hsz
            have HS2 : Hid ((q + z) + Q.sumS (Q.lastsC (LW.drop (j + 1))) = Q.sumS (Q.lastsC LW)) := by
              have := HS.out
              rw [HLS.out, if_pos rfl, Q.sumS_app, Q.sumS_cons, Q.sumS_nil, HZ.out] at this
              show _ = _
              omega
            have HC1 : Hid (p + ((if xg = true then 0 else 1) + Q.cnt (Q.lastsC (LW.drop (j + 1)))) = Q.cnt (Q.lastsC LW)) := by
              have := HC.out
              rw [HLS.out, if_pos rfl, Q.cnt_app, hcn] at this
              exact this
            have kq : IntKind.i64.wrap (q + z) = q + z := Qm.wrap_small _ (by omega) (by omega)
            have hix : ∀ w, (Instr.indexAt 31 (.slice (some ⟨g, off, none⟩) k vc) (.int .i64 (j : Int))).run Try.prog w = .ok (.pointer (some ⟨g, off + 4 * j, none⟩)) w := fun w => It.index_iw g off k vc j hlt w
            clear HS HC HLS HFIN HR hrt hcn HZ
            go_wp2_with (first | refine wpList_load_mid rfl 45 _ rfl g (off + 4 * j) rfl [Value.string xb, .string xk, .string xv, .bool xg] _ HR8.out Try.underlying45 rfl It.Try.size_w ?_)
            refine (CS.out _).mono ?_; rintro e w9 ⟨rfl, hb⟩
            have HQ9 := Lib.hid (HQ8.out.more hb)
            have HV9 := Lib.hid (HV8.out.below hb)
            have HB9 : Hid (Below w.heap.size w w9) := Below.trans HB8.out (hb.mono HB8.out.size)
            have c3 : w9.cell? ⟨g, off + 4 * j + 3, none⟩ = some (.bool xg) := by rw [hb.cell (p := ⟨g, off + 4 * j + 3, none⟩) HG8.out]; exact HR8.out 3 _ rfl
            clear hb HQ8 HV8 HB8 HR8 HG8 CS
            cases xg with
            | true =>
              have HC2 : Hid (p + Q.cnt (Q.lastsC (LW.drop (j + 1))) = Q.cnt (Q.lastsC LW)) := by
                have := HC1.out
                rw [if_pos rfl] at this
                show _ = _
                omega
              clear HC1
              go_wp2_with fail
              go_roundw
              case rel => exact ⟨j + 1, q + z, p, by omega, by go_num, rfl, rfl, by omega, by omega, by omega, HS2, HC2, HQ9, HV9, HB9⟩
              case measure => simp [intOf]; omega
            | false =>
              have HC2 : Hid ((p + 1) + Q.cnt (Q.lastsC (LW.drop (j + 1))) = Q.cnt (Q.lastsC LW)) := by
                have := HC1.out
                rw [if_neg (by decide)] at this
                show _ = _
                omega
              clear HC1
              go_wp2_with fail
              go_roundw
              case rel => exact ⟨j + 1, q + z, p + 1, by omega, by go_num, rfl, by go_num, by omega, by omega, by omega, HS2, HC2, HQ9, HV9, HB9⟩
              case measure => simp [intOf]; omega
    · obtain rfl : j = n := by omega
      have hR := Q.lasts_all LW
      have hdn : LW.drop j = [] := List.drop_of_length_le (by rw [HN.out]; exact Nat.le_refl _)
      have htk : LW.take j = LW := List.take_of_length_le (by rw [HN.out]; exact Nat.le_refl _)
      rw [htk] at HQ
      rw [hdn] at HS HC
      have hq : q = Q.sumS (Q.lastsC LW) := by have := HS.out; rw [← this]; show q = q + 0; omega
      have hp : p = Q.cnt (Q.lastsC LW) := by have := HC.out; rw [← this]; rfl
      have CU : Hid (∀ u, Qm.Qo u b mb 1048576 (Q.layAll [] LW) → Calls Try.prog 18 #[.pointer (some ⟨b, 0, none⟩)] u fun e w' => e = .returned (.int .i64 q) ∧ Below u.heap.size u w') := fun u hu => Qm.used_any b mb 1048576 _ u hu q (by rw [hR.tot, ← hq]; exact Qm.wrap_small q (by omega) (by omega))
      have CK : Hid (∀ u, Qm.Qo u b mb 1048576 (Q.layAll [] LW) → Calls Try.prog 20 #[.pointer (some ⟨b, 0, none⟩)] u fun e w' => e = .returned (.int .i64 (p : Int)) ∧ w' = u) := fun u hu => by
        have := Qm.keys_any b mb 1048576 _ u hu
        rw [hR.len, ← hp] at this
        exact this
      clear hR hdn htk hq hp HS HC HV
      go_wp2_with fail
      refine (CU.out _ HQ.out).mono ?_; rintro e wb ⟨rfl, hb⟩
      have HQ2 := Lib.hid (HQ.out.more hb)
      have HB2 : Hid (Below w.heap.size w wb) := Below.trans HB.out (hb.mono HB.out.size)
      clear hb HQ HB
      go_wp2_with fail
      refine (CK.out _ HQ2.out).mono ?_; rintro e wc ⟨rfl, rfl⟩
      go_wp2_with fail
      go_ret
      exact ⟨rfl, HB2.out⟩

set_option maxRecDepth 100000 in
theorem lifted (os : Os) (started : os.Started) (H : Type) (enc : TypeId × Value → H) :
    ReturnsInHanded {} Try.checked os 5 .any (Rows.quotaLastSpec.pre6 enc Try.prog Try.f5 Rows.quotaLastRow.domain false) (Rows.quotaLastSpec.post enc Try.prog Try.f5 false true false false) := by
  refine returnsInHanded_of_change_sized (C := Try.checked) own started (by kernel_rfl) Try.func5
    (ChangeSpec.witness6 (enc := enc) (C := Try.checked) false ⟨#[], #[.slice none 0 0], []⟩ 8 (by kernel_rfl) (by kernel_rfl) (by kernel_rfl) (by kernel_rfl)) ?_
  intro W base args ds gs before hval0 hW hcnd hsz0 _
  have hval : ∀ (j : Nat) t v, Try.f5.params[j]? = some t → args[j]? = some v → Value.okWide Try.prog W .any base t v := hval0
  have hW' := hW
  obtain ⟨p, q, hA0, hV, rfl, hfz, hnd⟩ := hW
  have hA : DataW.TrodAll enc Try.prog W 0 (fun _ => true) true Try.f5.params.toList args.toList ds p := hA0
  have hsz : (DataW.weightsEach Try.prog (Try.f5.params.toList ++ Rows.quotaLastSpec.plain.varTypes Try.prog) (ds ++ gs)).all (· ≤ reachBytes) = true := hsz0
  rw [Try.params5] at hA hval hsz
  obtain ⟨rfl, rfl⟩ := trodVars_none hV
  have hAk := hA
  have hlt : ∀ x ∈ p, x.block < W.heap.size := fun x hx => by simpa using hW'.lt x (List.mem_append.2 (.inl hx))
  obtain ⟨v0, vs0, d0, ds0, p0, q0, hargs, rfl, rfl, h0, r0⟩ := trodAll_cons hA
  obtain ⟨rfl, rfl, rfl⟩ := trodAll_nil r0
  obtain rfl : args = #[v0] := by cases args; simp_all
  obtain ⟨a0, len0, cap0, rfl⟩ := okWide_slice Try.underlying33 (hval 0 33 v0 rfl rfl)
  obtain ⟨DL0, w0, m0⟩ := open_puts h0 (Sz.arg hsz (j := 0) rfl rfl)
  clear hA0 hval0 hsz0
  refine (walk (.slice a0 len0 cap0) DL0 W w0 m0).mono fun e W' ⟨he, hg⟩ => ?_
  subst he
  exact ⟨_, rfl, _, _, _, [], _, [], hW', (trodAll_cons_mk (shut_bool Try.underlying4 _) trodAll_mk0), trodAll_below laidOut hg _ _ _ _ (by kernel_rfl) hAk hlt, rfl, hg.frame _, fun h => by cases h⟩

theorem over : Rows.quotaLastRow.holds Try.pinned (OpenSpec.ofChange Rows.quotaLastSpec) :=
  OpenClaim.holds_of_wide 5 Try.f5 rfl rfl rfl rfl rfl rfl rfl ⟨rfl, rfl, rfl, rfl, rfl⟩ rfl rfl rfl rfl rfl (by kernel_rfl) Try.func5 (by kernel_rfl)
    (of_decide_eq_true (by kernel_rfl)) (by unfold Func.isWrapper; first | (rw [if_pos (by decide +kernel)]; kernel_rfl) | (rw [if_neg (by decide +kernel)]; exact ⟨rfl, rfl⟩))
    (fun os started H enc _ => lifted os started H enc)

/-- the statement -/
theorem proved : Rows.QuotaLastSaid :=
  over
#print axioms proved

end Go.Proofs.Ytepoodfihemmcaa.quotaLast
