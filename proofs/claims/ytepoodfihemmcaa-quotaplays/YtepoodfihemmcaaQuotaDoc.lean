/- The quota as the document has it: the list of what was taken last. -/
import Derived.Test.YtepoodfihemmcaaQuotaRel

namespace Go.Proofs.Ytepoodfihemmcaa.Qr

open Go.RowKit Go.Proofs.Ytepoodfihemmcaa.It

set_option linter.unusedVariables false

set_option linter.unusedSimpArgs false

set_option maxRecDepth 100000

theorem IsWs.cap {w : World} {v : Value} {L : List I.Wt} (h : IsWs w v L) : ∃ a c, v = .slice a L.length c ∧ L.length ≤ c ∧ c ≤ maxLen := by
  obtain ⟨a, c, hv, h1, h2, _⟩ := h.is
  exact ⟨a, c, hv, h1, h2⟩
set_option maxHeartbeats 16000000 in
theorem with_any (v : Value) (D : List I.Wt) (x : I.Wt) (w : World) (hL : IsWs w v D) (hn : D.length < 900000) :
    Calls Try.prog 36 #[v, WV x] w fun e w' => ∃ v', e = .returned v' ∧ IsWs w' v' (Q.withD D x) ∧ Below w.heap.size w w' := by
  obtain ⟨sa, cap, rfl, hca, hma⟩ := IsWs.cap hL
  obtain ⟨n, HN⟩ : ∃ n, Hid (D.length = n) := ⟨_, rfl⟩
  have HL := Lib.hid hL
  rw [HN.out] at HL hn ⊢
  obtain ⟨r, HR⟩ : ∃ r, Hid (I.right x = r) := ⟨_, rfl⟩
  have CR := Lib.hid (fun u => ref_wright x u)
  rw [HR.out] at CR
  obtain ⟨p, HP⟩ : ∃ p : I.Wt → Bool, Hid (p = fun y => !decide (I.key y = I.key x)) := ⟨_, rfl⟩
  obtain ⟨R, HW⟩ : ∃ R, Hid (Q.withD D x = R) := ⟨_, rfl⟩
  have HWD : Hid ((if r = true then D.filter p ++ [x] else D) = R) := by
    show _ = _
    rw [← HW.out, ← HR.out, HP.out]
    rfl
  rw [HW.out]
  obtain ⟨xb, xk, xv, xg⟩ := x
  have CR : Hid (∀ u, Calls Try.prog 38 #[.agg [Value.string xb, .string xk, .string xv, .bool xg].toArray] u fun e w' => e = .returned (.bool r) ∧ Below u.heap.size u w') := CR.out
  clear hL hca hma HR HW
  go_enter Try.func36, Try.ntmps36
  go_wp2_with (first | refine blk_box rfl 66 _ rfl [Value.string xb, .string xk, .string xv, .bool xg] rfl ?_)
  intro w0 A B Z
  obtain ⟨bx, HBX⟩ : ∃ q, Hid (w.heap.size = q) := ⟨_, rfl⟩
  have HX0 : Hid (Blk w0 bx [Value.string xb, .string xk, .string xv, .bool xg]) := by show Blk _ _ _; rw [← HBX.out]; exact A
  have HB0 : Hid (Below w.heap.size w w0) := B
  have HZ0 : Hid (bx < w0.heap.size) := by show _ < _; have := HBX.out; omega
  rw [HBX.out]
  clear A B Z HBX
  go_wp2_with (first | refine blk_load rfl 66 _ rfl bx rfl [Value.string xb, .string xk, .string xv, .bool xg] HX0.out _ Try.underlying66 rfl Try.size_rw ?_)
  refine (CR.out _).mono ?_; rintro e w1 ⟨rfl, hb⟩
  have HX1 : Hid (Blk w1 bx [Value.string xb, .string xk, .string xv, .bool xg]) := Blk.below HX0.out hb HZ0.out
  have HB1 : Hid (Below w.heap.size w w1) := Below.trans HB0.out (hb.mono HB0.out.size)
  have HZ1 : Hid (bx < w1.heap.size) := Nat.lt_of_lt_of_le HZ0.out hb.size
  clear hb HX0 HB0 HZ0 CR
  cases r with
  | false =>
    have HWF : Hid (IsWs w1 (.slice sa n cap) R) := by
      have := HWD.out
      rw [if_neg (by decide)] at this
      rw [← this]
      exact HL.out.below HB1.out
    clear HWD HP HL HX1
    go_wp2_with fail
    go_ret
    exact ⟨_, rfl, HWF.out, HB1.out⟩
  | true =>
  have HWT : Hid (D.filter p ++ [(xb, xk, xv, xg)] = R) := by have := HWD.out; rwa [if_pos rfl] at this
  have HL1 : Hid (IsWs w1 (.slice sa n cap) D) := HL.out.below HB1.out
  have HO0 : Hid (OW 66 w1 w1.heap.size (.slice none 0 0) ((D.take 0).filter p)) := OW.nil _ _ _
  have HW0 : Hid (Below w1.heap.size w1 w1) := Below.refl _ _
  clear HWD HL
  go_wp2_with fail
  go_loopw [5, 6] (fun t i wr => ∃ j : Nat, j ≤ n ∧ i = .int .i64 (j : Int) ∧ Hid (OW 66 wr w1.heap.size t ((D.take j).filter p)) ∧ Hid (Below w1.heap.size w1 wr)) (fun _ i _ => n - (intOf i).toNat)
  case atStart => exact ⟨0, by omega, rfl, HO0, HW0⟩
  case round =>
    obtain ⟨j, hjn, rfl, HO, HB⟩ := hrel
    clear HO0 HW0
    obtain ⟨ta, tc, ev, _, _⟩ := IsWs.cap HO.out.is
    subst ev
    have hk : ((D.take j).filter p).length ≤ n := by
      have h1 := List.length_filter_le p (D.take j)
      have h2 : (D.take j).length ≤ j := by rw [List.length_take]; omega
      omega
    obtain ⟨k, HK⟩ : ∃ k, Hid (((D.take j).filter p).length = k) := ⟨_, rfl⟩
    rw [HK.out] at HO hk ⊢
    by_cases hlt : j < n
    · have i1 : (j : Int) < (n : Int) := by omega
      obtain ⟨g, off, cap', hv, hg0, hrow⟩ := IsWs.at HL1.out j (by rw [HN.out]; exact hlt)
      obtain rfl : sa = some ⟨g, off, none⟩ := by injection hv
      clear hv
      have hfs := I.filter_step D p j (by rw [HN.out]; exact hlt)
      obtain ⟨y, HY⟩ : ∃ y, Hid (D.getD j I.none_ = y) := ⟨_, rfl⟩
      rw [HY.out] at hrow hfs
      clear HY
      obtain ⟨yb, yk, yv, yg⟩ := y
      obtain ⟨e1, HE1⟩ : ∃ r, Hid (decide (yb = xb) = r) := ⟨_, rfl⟩
      obtain ⟨e2, HE2⟩ : ∃ r, Hid (decide (yk = xk) = r) := ⟨_, rfl⟩
      have Q1 : Hid ((yb.toList == xb.toList) = e1) := by show _ = _; rw [V.tol_eq]; exact HE1.out
      have Q2 : Hid ((yk.toList == xk.toList) = e2) := by show _ = _; rw [V.tol_eq]; exact HE2.out
      have hkey : p (yb, yk, yv, yg) = !(e1 && e2) := by
        rw [HP.out]
        show (!decide _) = _
        rw [← HE1.out, ← HE2.out, ← Bool.decide_and]
        congr 1
        exact decide_eq_decide.2 (by simp [I.key])
      rw [hkey] at hfs
      have HFS := Lib.hid hfs
      have KYR : Hid (∀ u, Below wr.heap.size wr u → u.rangeAt g (off + 4 * j) [Value.string yb, .string yk, .string yv, .bool yg]) := fun u hu i v hv => by rw [(Below.trans HB.out (hu.mono HB.out.size)).cell (p := ⟨g, off + 4 * j + i, none⟩) hg0]; exact hrow i v hv
      have KY0 : Hid (∀ u, Below wr.heap.size wr u → u.cell? ⟨g, off + 4 * j, none⟩ = some (.string yb)) := fun u hu => KYR.out u hu 0 _ rfl
      have KY1 : Hid (∀ u, Below wr.heap.size wr u → u.cell? ⟨g, off + 4 * j + 1, none⟩ = some (.string yk)) := fun u hu => KYR.out u hu 1 _ rfl
      have KX0 : Hid (∀ u, Below wr.heap.size wr u → u.cell? ⟨bx, 0, none⟩ = some (.string xb)) := fun u hu => (Blk.below HX1.out (Below.trans HB.out (hu.mono HB.out.size)) HZ1.out).cell 0 _ rfl
      have KX1 : Hid (∀ u, Below wr.heap.size wr u → u.cell? ⟨bx, 1, none⟩ = some (.string xk)) := fun u hu => (Blk.below HX1.out (Below.trans HB.out (hu.mono HB.out.size)) HZ1.out).cell 1 _ rfl
      have hix : ∀ w, (Instr.indexAt 34 (.slice (some ⟨g, off, none⟩) n cap) (.int .i64 (j : Int))).run Try.prog w = .ok (.pointer (some ⟨g, off + 4 * j, none⟩)) w := fun w => It.index_rw g off n cap j hlt w
      clear hrow hfs hkey hg0 HE1 HE2
      go_wp2_with fail
      cases e1 with
      | false =>
        refine region_w Try.mixed (by kernel_rfl) ?_
        refine w_move rfl _ rfl (.slice (some ⟨g, off, none⟩) n cap) rfl (fun K hK => ?_)
        go_simp
        refine hK _ ?_
        clear hK K
        refine w_move rfl _ rfl (.int .i64 (j : Int)) rfl (fun K hK => ?_)
        go_simp
        refine hK _ ?_
        clear hK K
        refine w_value rfl (.pointer (some ⟨g, off + 4 * j, none⟩)) (fun u hu => by have hc := It.index_rw g off n cap j hlt u; go_simp) (fun K hK => ?_)
        go_simp
        refine hK _ ?_
        clear hK K
        refine w_value rfl (.pointer (some ⟨g, off + 4 * j, none⟩)) (fun u hu => by go_simp) (fun K hK => ?_)
        go_simp
        refine hK _ ?_
        clear hK K
        refine w_value rfl (.string yb) (fun u hu => by have hc := KY0.out u hu; go_simp) (fun K hK => ?_)
        go_simp
        refine hK _ ?_
        clear hK K
        refine w_value rfl (.pointer (some ⟨bx, 0, none⟩)) (fun u hu => by go_simp) (fun K hK => ?_)
        go_simp
        refine hK _ ?_
        clear hK K
        refine w_value rfl (.string xb) (fun u hu => by have hc := KX0.out u hu; go_simp) (fun K hK => ?_)
        go_simp
        refine hK _ ?_
        clear hK K
        refine w_value rfl (.bool true) (fun u hu => by have hs := Q1.out; go_simp) (fun K hK => ?_)
        go_simp
        refine hK _ ?_
        clear hK K
        refine w_move rfl _ rfl (.bool true) rfl (fun K hK => ?_)
        go_simp
        refine hK _ ?_
        clear hK K
        refine w_skip 8 false (some true) rfl rfl rfl (fun K hK => ?_)
        go_simp
        refine hK _ ?_
        clear hK K
        refine w_skip 8 false (some true) rfl rfl rfl (fun K hK => ?_)
        go_simp
        refine hK _ ?_
        clear hK K
        refine w_skip 8 false (some true) rfl rfl rfl (fun K hK => ?_)
        go_simp
        refine hK _ ?_
        clear hK K
        refine w_skip 8 false (some true) rfl rfl rfl (fun K hK => ?_)
        go_simp
        refine hK _ ?_
        clear hK K
        refine w_skip 8 false (some true) rfl rfl rfl (fun K hK => ?_)
        go_simp
        refine hK _ ?_
        clear hK K
        refine w_skip 8 false (some true) rfl rfl rfl (fun K hK => ?_)
        go_simp
        refine hK _ ?_
        clear hK K
        refine w_skip 8 false (some true) rfl rfl rfl (fun K hK => ?_)
        go_simp
        refine hK _ ?_
        clear hK K
        refine w_skip 8 false (some true) rfl rfl rfl (fun K hK => ?_)
        go_simp
        refine hK _ ?_
        clear hK K
        refine w_value rfl (.bool true) (fun u hu => by go_simp) (fun K hK => ?_)
        go_simp
        refine hK _ ?_
        clear hK K
        refine w_nil ?_
        intro u hu
        go_wp2_with (first | refine wpList_load_mid rfl 66 _ rfl g (off + 4 * j) rfl [Value.string yb, .string yk, .string yv, .bool yg] _ (KYR.out u hu) Try.underlying66 rfl It.Try.size_rw ?_ | refine It.build_rw rfl _ rfl (yb, yk, yv, yg) rfl ?_)
        intro u1 A B Z
        have HA : Hid (Blk u1 u.heap.size [Value.string yb, .string yk, .string yv, .bool yg]) := A
        have HOu : Hid (It.OW 66 u1 w1.heap.size (.slice ta k tc) ((D.take j).filter p)) := It.OW.below (It.OW.below HO.out hu) B
        have HBu : Hid (Below w1.heap.size w1 u1) := Below.trans (Below.trans HB.out (hu.mono HB.out.size)) (B.mono (Nat.le_trans HB.out.size hu.size))
        clear A B Z
        go_wp2_with (at_builtin; refine It.append_gen (t := 66) Try.underlying34 It.Try.info_rw _ rfl _ _ rfl w1.heap.size _ _ rfl HOu.out u.heap.size rfl (yb, yk, yv, yg) HA.out (by rw [HK.out]; omega) HBu.out.size ?_)
        intro v2 u2 ho hb hs
        have HO2 : Hid (It.OW 66 u2 w1.heap.size v2 ((D.take (j + 1)).filter p)) := by
          show It.OW _ _ _ _ _
          rw [HFS.out, if_pos (show (!(false && e2)) = true from rfl)]; exact ho
        have HB2 : Hid (Below w1.heap.size w1 u2) := HBu.out.trans hb
        clear ho hb hs hu HO HB HOu HBu HA KY0 KY1 KYR KX0 KX1
        go_wp2_with fail
        go_roundw
        case rel => exact ⟨j + 1, by omega, by go_num, HO2, HB2⟩
        case measure => simp [intOf]; omega
      | true =>
        cases e2 with
        | false =>
          refine region_w Try.mixed (by kernel_rfl) ?_
          refine w_move rfl _ rfl (.slice (some ⟨g, off, none⟩) n cap) rfl (fun K hK => ?_)
          go_simp
          refine hK _ ?_
          clear hK K
          refine w_move rfl _ rfl (.int .i64 (j : Int)) rfl (fun K hK => ?_)
          go_simp
          refine hK _ ?_
          clear hK K
          refine w_value rfl (.pointer (some ⟨g, off + 4 * j, none⟩)) (fun u hu => by have hc := It.index_rw g off n cap j hlt u; go_simp) (fun K hK => ?_)
          go_simp
          refine hK _ ?_
          clear hK K
          refine w_value rfl (.pointer (some ⟨g, off + 4 * j, none⟩)) (fun u hu => by go_simp) (fun K hK => ?_)
          go_simp
          refine hK _ ?_
          clear hK K
          refine w_value rfl (.string yb) (fun u hu => by have hc := KY0.out u hu; go_simp) (fun K hK => ?_)
          go_simp
          refine hK _ ?_
          clear hK K
          refine w_value rfl (.pointer (some ⟨bx, 0, none⟩)) (fun u hu => by go_simp) (fun K hK => ?_)
          go_simp
          refine hK _ ?_
          clear hK K
          refine w_value rfl (.string xb) (fun u hu => by have hc := KX0.out u hu; go_simp) (fun K hK => ?_)
          go_simp
          refine hK _ ?_
          clear hK K
          refine w_value rfl (.bool false) (fun u hu => by have hs := Q1.out; go_simp) (fun K hK => ?_)
          go_simp
          refine hK _ ?_
          clear hK K
          refine w_move rfl _ rfl (.bool false) rfl (fun K hK => ?_)
          go_simp
          refine hK _ ?_
          clear hK K
          refine wg_value (by rfl) (.slice (some ⟨g, off, none⟩) n cap) (fun u hu => by go_simp) (fun K hK => ?_)
          go_simp
          refine hK _ ?_
          clear hK K
          refine wg_value (by rfl) (.int .i64 (j : Int)) (fun u hu => by go_simp) (fun K hK => ?_)
          go_simp
          refine hK _ ?_
          clear hK K
          refine wg_value (by rfl) (.pointer (some ⟨g, off + 4 * j, none⟩)) (fun u hu => by have hc := It.index_rw g off n cap j hlt u; go_simp) (fun K hK => ?_)
          go_simp
          refine hK _ ?_
          clear hK K
          refine wg_value (by rfl) (.pointer (some ⟨g, off + 4 * j + 1, none⟩)) (fun u hu => by go_simp) (fun K hK => ?_)
          go_simp
          refine hK _ ?_
          clear hK K
          refine wg_value (by rfl) (.string yk) (fun u hu => by have hc := KY1.out u hu; go_simp) (fun K hK => ?_)
          go_simp
          refine hK _ ?_
          clear hK K
          refine wg_value (by rfl) (.pointer (some ⟨bx, 1, none⟩)) (fun u hu => by go_simp) (fun K hK => ?_)
          go_simp
          refine hK _ ?_
          clear hK K
          refine wg_value (by rfl) (.string xk) (fun u hu => by have hc := KX1.out u hu; go_simp) (fun K hK => ?_)
          go_simp
          refine hK _ ?_
          clear hK K
          refine wg_value (by rfl) (.bool true) (fun u hu => by have hs := Q2.out; go_simp) (fun K hK => ?_)
          go_simp
          refine hK _ ?_
          clear hK K
          refine w_value rfl (.bool true) (fun u hu => by go_simp) (fun K hK => ?_)
          go_simp
          refine hK _ ?_
          clear hK K
          refine w_nil ?_
          intro u hu
          go_wp2_with (first | refine wpList_load_mid rfl 66 _ rfl g (off + 4 * j) rfl [Value.string yb, .string yk, .string yv, .bool yg] _ (KYR.out u hu) Try.underlying66 rfl It.Try.size_rw ?_ | refine It.build_rw rfl _ rfl (yb, yk, yv, yg) rfl ?_)
          intro u1 A B Z
          have HA : Hid (Blk u1 u.heap.size [Value.string yb, .string yk, .string yv, .bool yg]) := A
          have HOu : Hid (It.OW 66 u1 w1.heap.size (.slice ta k tc) ((D.take j).filter p)) := It.OW.below (It.OW.below HO.out hu) B
          have HBu : Hid (Below w1.heap.size w1 u1) := Below.trans (Below.trans HB.out (hu.mono HB.out.size)) (B.mono (Nat.le_trans HB.out.size hu.size))
          clear A B Z
          go_wp2_with (at_builtin; refine It.append_gen (t := 66) Try.underlying34 It.Try.info_rw _ rfl _ _ rfl w1.heap.size _ _ rfl HOu.out u.heap.size rfl (yb, yk, yv, yg) HA.out (by rw [HK.out]; omega) HBu.out.size ?_)
          intro v2 u2 ho hb hs
          have HO2 : Hid (It.OW 66 u2 w1.heap.size v2 ((D.take (j + 1)).filter p)) := by
            show It.OW _ _ _ _ _
            rw [HFS.out, if_pos (show (!(true && false)) = true from rfl)]; exact ho
          have HB2 : Hid (Below w1.heap.size w1 u2) := HBu.out.trans hb
          clear ho hb hs hu HO HB HOu HBu HA KY0 KY1 KYR KX0 KX1
          go_wp2_with fail
          go_roundw
          case rel => exact ⟨j + 1, by omega, by go_num, HO2, HB2⟩
          case measure => simp [intOf]; omega
        | true =>
          refine region_w Try.mixed (by kernel_rfl) ?_
          refine w_move rfl _ rfl (.slice (some ⟨g, off, none⟩) n cap) rfl (fun K hK => ?_)
          go_simp
          refine hK _ ?_
          clear hK K
          refine w_move rfl _ rfl (.int .i64 (j : Int)) rfl (fun K hK => ?_)
          go_simp
          refine hK _ ?_
          clear hK K
          refine w_value rfl (.pointer (some ⟨g, off + 4 * j, none⟩)) (fun u hu => by have hc := It.index_rw g off n cap j hlt u; go_simp) (fun K hK => ?_)
          go_simp
          refine hK _ ?_
          clear hK K
          refine w_value rfl (.pointer (some ⟨g, off + 4 * j, none⟩)) (fun u hu => by go_simp) (fun K hK => ?_)
          go_simp
          refine hK _ ?_
          clear hK K
          refine w_value rfl (.string yb) (fun u hu => by have hc := KY0.out u hu; go_simp) (fun K hK => ?_)
          go_simp
          refine hK _ ?_
          clear hK K
          refine w_value rfl (.pointer (some ⟨bx, 0, none⟩)) (fun u hu => by go_simp) (fun K hK => ?_)
          go_simp
          refine hK _ ?_
          clear hK K
          refine w_value rfl (.string xb) (fun u hu => by have hc := KX0.out u hu; go_simp) (fun K hK => ?_)
          go_simp
          refine hK _ ?_
          clear hK K
          refine w_value rfl (.bool false) (fun u hu => by have hs := Q1.out; go_simp) (fun K hK => ?_)
          go_simp
          refine hK _ ?_
          clear hK K
          refine w_move rfl _ rfl (.bool false) rfl (fun K hK => ?_)
          go_simp
          refine hK _ ?_
          clear hK K
          refine wg_value (by rfl) (.slice (some ⟨g, off, none⟩) n cap) (fun u hu => by go_simp) (fun K hK => ?_)
          go_simp
          refine hK _ ?_
          clear hK K
          refine wg_value (by rfl) (.int .i64 (j : Int)) (fun u hu => by go_simp) (fun K hK => ?_)
          go_simp
          refine hK _ ?_
          clear hK K
          refine wg_value (by rfl) (.pointer (some ⟨g, off + 4 * j, none⟩)) (fun u hu => by have hc := It.index_rw g off n cap j hlt u; go_simp) (fun K hK => ?_)
          go_simp
          refine hK _ ?_
          clear hK K
          refine wg_value (by rfl) (.pointer (some ⟨g, off + 4 * j + 1, none⟩)) (fun u hu => by go_simp) (fun K hK => ?_)
          go_simp
          refine hK _ ?_
          clear hK K
          refine wg_value (by rfl) (.string yk) (fun u hu => by have hc := KY1.out u hu; go_simp) (fun K hK => ?_)
          go_simp
          refine hK _ ?_
          clear hK K
          refine wg_value (by rfl) (.pointer (some ⟨bx, 1, none⟩)) (fun u hu => by go_simp) (fun K hK => ?_)
          go_simp
          refine hK _ ?_
          clear hK K
          refine wg_value (by rfl) (.string xk) (fun u hu => by have hc := KX1.out u hu; go_simp) (fun K hK => ?_)
          go_simp
          refine hK _ ?_
          clear hK K
          refine wg_value (by rfl) (.bool false) (fun u hu => by have hs := Q2.out; go_simp) (fun K hK => ?_)
          go_simp
          refine hK _ ?_
          clear hK K
          refine w_value rfl (.bool false) (fun u hu => by go_simp) (fun K hK => ?_)
          go_simp
          refine hK _ ?_
          clear hK K
          refine w_nil ?_
          intro u hu
          have HO2 : Hid (It.OW 66 u w1.heap.size (.slice ta k tc) ((D.take (j + 1)).filter p)) := by
            show It.OW _ _ _ _ _
            rw [HFS.out, if_neg (show ¬ (!(true && true)) = true by decide), List.append_nil]; exact It.OW.below HO.out hu
          have HB2 : Hid (Below w1.heap.size w1 u) := Below.trans HB.out (hu.mono HB.out.size)
          clear hu HO HB KY0 KY1 KYR KX0 KX1
          go_wp2_with fail
          go_roundw
          case rel => exact ⟨j + 1, by omega, by go_num, HO2, HB2⟩
          case measure => simp [intOf]; omega
    · obtain rfl : j = n := by omega
      have hfl : (D.take j).filter p = D.filter p := by rw [List.take_of_length_le (by rw [HN.out]; exact Nat.le_refl _)]
      rw [hfl] at HO HK
      have HX2 : Hid (Blk wr bx [Value.string xb, .string xk, .string xv, .bool xg]) := Blk.below HX1.out HB.out HZ1.out
      go_wp2_with (first | refine blk_load rfl 66 _ rfl bx rfl [Value.string xb, .string xk, .string xv, .bool xg] HX2.out _ Try.underlying66 rfl Try.size_rw ?_ | refine It.build_rw rfl _ rfl (xb, xk, xv, xg) rfl ?_)
      intro u1 A B Z
      have HA : Hid (Blk u1 wr.heap.size [Value.string xb, .string xk, .string xv, .bool xg]) := A
      have HOu : Hid (It.OW 66 u1 w1.heap.size (.slice ta k tc) (D.filter p)) := It.OW.below HO.out B
      have HBu : Hid (Below w1.heap.size w1 u1) := Below.trans HB.out (B.mono HB.out.size)
      clear A B Z
      go_wp2_with (at_builtin; refine It.append_gen (t := 66) Try.underlying34 It.Try.info_rw _ rfl _ _ rfl w1.heap.size _ _ rfl HOu.out wr.heap.size rfl (xb, xk, xv, xg) HA.out (by rw [HK.out]; omega) HBu.out.size ?_)
      intro v2 u2 ho hb hs
      have HW2 : Hid (IsWs u2 v2 R) := by show IsWs _ _ _; rw [← HWT.out]; exact ho.is
      have HB2 : Hid (Below w.heap.size w u2) := Below.trans HB1.out ((HBu.out.trans hb).mono HB1.out.size)
      clear ho hb hs
      go_wp2_with fail
      go_ret
      exact ⟨_, rfl, HW2.out, HB2.out⟩
end Go.Proofs.Ytepoodfihemmcaa.Qr
