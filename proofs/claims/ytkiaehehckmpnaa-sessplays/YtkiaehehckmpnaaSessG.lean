/- The document's sessions: Many, Horizon, Own, Write. -/
import Derived.Test.YtkiaehehckmpnaaSessD

namespace Go.Proofs.Ytkiaehehckmpnaa.Zm

open Go.RowKit Go.Proofs.Ytkiaehehckmpnaa.Vc Go.Proofs.Ytkiaehehckmpnaa.Sp Go.Proofs.Ytkiaehehckmpnaa.Rw Go.Proofs.Ytkiaehehckmpnaa.Se Go.Proofs.Ytkiaehehckmpnaa.It Go.Proofs.Ytkiaehehckmpnaa.Z

set_option linter.unusedVariables false

set_option linter.unusedSimpArgs false

set_option maxRecDepth 100000

theorem many_step (D : List Ss) (j : Nat) (s : Ss) (h : D[j]? = some s) : many (D.take (j + 1)) = many (D.take j) + if s.opn = true then 1 else 0 := by
  rw [List.take_add_one, h]
  unfold many
  rw [List.filter_append, List.length_append]
  congr 1
  simp only [Option.toList_some, List.filter_cons, List.filter_nil]
  cases s.opn <;> rfl
section

variable {w0 w w' : World} {d : Nat} {D : List Ss} {R : List Rg}

theorem DTab.cell (h : DTab w0 w d D R) (n : Nat) (h1 : 1 ≤ n) (h8 : n ≤ 8) : w.cell? ⟨d, 10 * n + 4, none⟩ = some (.bool (gt D (n : Int)).opn) ∧ w.rangeAt d (10 * n + 5) (ks .u64 (gt D (n : Int)).snap) := by
  obtain ⟨A, B, v, Y, hA⟩ := h.at n h1 h8
  exact ⟨fc_open (fc_blk hA.sep) (gt_ok h.good.ok _).seen.1 hA.off, fc_snap (fc_blk hA.sep) (gt_ok h.good.ok _).seen.1 hA.off⟩
theorem DTab.sub9 {R' : List Rg} (h : DTab w0 w d D R) (hs : R'.Sublist R) : DTab w0 w d D R' := by
  obtain ⟨Zv, h1, h2, h3⟩ := h.mem
  exact ⟨h.good, Zv, h1, h2, h3.sub (hs.append_right _)⟩
theorem DTab.upd (h : DTab w0 w d D R) (i : Nat) {c : Nat} {vs us : List Value} (hi : R[i]? = some (rB c vs)) (hu : Upd c w w') (hB : Blk w' c us) : DTab w0 w' d D (R.set i (rB c us)) := by
  obtain ⟨Zv, h1, h2, h3⟩ := h.mem
  have hl := (List.getElem?_eq_some_iff.1 hi).1
  have := h3.upd (us := us) i (b := c) (vs := vs) (by rw [List.getElem?_append_left hl]; exact hi) hu hB
  rw [List.set_append_left _ _ hl] at this
  exact ⟨h.good, Zv, h1, h2, this⟩
set_option maxHeartbeats 4000000 in
theorem dmany_any (h : DTab w0 w d D R) :
    Calls Try.prog 33 #[.pointer (some ⟨d, 0, none⟩)] w fun e w' => e = .returned (.int .i64 (many D : Int)) ∧ Below w.heap.size w w' := by
  have H := Lib.hid h
  have HG := Lib.hid h.good
  obtain ⟨m, HM⟩ : ∃ m, Hid (many D = m) := ⟨_, rfl⟩
  rw [HM.out]
  have HB0 : Hid (Below w.heap.size w w) := Below.refl _ _
  clear h
  go_enter Try.func33, Try.ntmps33
  go_wp2_with fail
  go_loopw [3, 4] (fun t i wr => ∃ j c : Nat, j ≤ 8 ∧ i = .int .i64 ((j + 1 : Nat) : Int) ∧ t = .int .i64 (c : Int) ∧ c ≤ j ∧ Hid (many (D.take j) = c) ∧ Hid (Below w.heap.size w wr)) (fun _ i _ => 9 - (intOf i).toNat)
  case atStart => exact ⟨0, 0, by omega, rfl, rfl, by omega, rfl, HB0⟩
  case round =>
    obtain ⟨j, c, hj, rfl, rfl, hc, HCr, HBr⟩ := hrel
    clear HB0
    obtain ⟨n, hn⟩ : ∃ n, n = j + 1 := ⟨_, rfl⟩
    rw [← hn]
    have HNJ := Lib.hid hn
    by_cases hlt : n ≤ 8
    · have ilt : (n : Int) ≤ 8 := by omega
      obtain ⟨q, HQ⟩ : ∃ q, Hid ((gt D (n : Int)).opn = q) := ⟨_, rfl⟩
      have hc4 := ((H.out.below HBr.out).cell n (by omega) hlt).1
      rw [HQ.out] at hc4
      have hix : ∀ w, (Instr.indexAt 36 (.pointer (some ⟨d, 0, none⟩)) (.int .i64 (n : Int))).run Try.prog w = .ok (.pointer (some ⟨d, 10 * n, none⟩)) w := fun w => index_dt d n (by omega) w
      have hg := gt_known HG.out.len ((known_iff (n : Int)).2 (by omega))
      rw [show ((n : Int) - 1).toNat = j by omega] at hg
      have hst := many_step D j _ hg
      rw [HQ.out, HCr.out] at hst
      have HST := Lib.hid hst
      have en : IntKind.i64.wrap ((n : Int) + 1) = ((n + 1 : Nat) : Int) := by rw [IntKind.wrap_i64]; omega
      have ec : IntKind.i64.wrap ((c : Int) + 1) = ((c + 1 : Nat) : Int) := by rw [IntKind.wrap_i64]; omega
      clear hn hst hg
      cases q with
      | false =>
        have HC9 : Hid (many (D.take (j + 1)) = c) := HST.out
        go_wp2_with fail
        go_roundw
        case rel => exact ⟨j + 1, c, by have := HNJ.out; omega, by rw [HNJ.out]; first | rfl | go_num, rfl, by omega, HC9, HBr⟩
        case measure => simp [intOf]; omega
      | true =>
        have HC9 : Hid (many (D.take (j + 1)) = c + 1) := HST.out
        go_wp2_with fail
        go_roundw
        case rel => exact ⟨j + 1, c + 1, by have := HNJ.out; omega, by rw [HNJ.out]; first | rfl | go_num, by first | rfl | go_num, by omega, HC9, HBr⟩
        case measure => simp [intOf]; omega
    · obtain rfl : j = 8 := by omega
      obtain rfl : n = 9 := by omega
      have hF : D.take 8 = D := List.take_of_length_le (by rw [HG.out.len]; exact Nat.le_refl _)
      rw [hF, HM.out] at HCr
      have hmc : m = c := HCr.out
      subst hmc
      clear hF
      go_wp2_with fail
      go_ret
      exact ⟨rfl, HBr.out⟩
set_option maxHeartbeats 8000000 in
theorem dhor_any (h : DTab w0 w d D R) (l : List Nat) (hl : V.Ok l) :
    Calls Try.prog 31 #[.pointer (some ⟨d, 0, none⟩), AV .u64 l] w fun e w' => e = .returned (AV .u64 (horizon D l)) ∧ Below w.heap.size w w' := by
  have H := Lib.hid h
  have HG := Lib.hid h.good
  have HL := Lib.hid hl
  have HE : Hid (mt D l 8 = horizon D l) := mt_end h.good hl
  obtain ⟨r, HR⟩ : ∃ r, Hid (horizon D l = r) := ⟨_, rfl⟩
  rw [HR.out] at HE ⊢
  have HM0 : Hid (mt D l 0 = l) := rfl
  clear h hl
  go_enter Try.func31, Try.ntmps31
  go_wp2_with (first | refine arr_box rfl .u64 32 _ rfl l rfl ?_)
  intro w1 A1 B1 Z1
  have HZ1 := Lib.hid Z1
  have H1 := Lib.hid (H.out.box B1 Z1 A1.blk)
  have HB1 := Lib.hid B1
  clear A1 B1 Z1
  go_wp2_with (first | refine arr_alloc rfl .u64 32 4 rfl Try.info_r ?_)
  intro w2 A2 B2 Z2
  have HA2 := Lib.hid A2
  obtain ⟨rb, HRB⟩ : ∃ rb, Hid (w1.heap.size = rb) := ⟨_, rfl⟩
  obtain ⟨lb, HLB⟩ : ∃ lb, Hid (w.heap.size = lb) := ⟨_, rfl⟩
  have HI0 : Hid (DTab w0 w2 d D [rB rb (ks .u64 [0, 0, 0, 0]), rB lb (ks .u64 (mt D l 0))] ∧ Below w.heap.size w w2) := by
    rw [← HRB.out, ← HLB.out]
    exact ⟨(((H1.out.box B2 Z2 A2.blk)).sub9 (List.Sublist.cons_cons _ (List.Sublist.cons_cons _ (List.nil_sublist _)))), HB1.out.trans (B2.mono HB1.out.size)⟩
  have HLT : Hid (w.heap.size ≤ lb ∧ w.heap.size ≤ rb) := ⟨by rw [← HLB.out]; exact Nat.le_refl _, by rw [← HRB.out]; exact HB1.out.size⟩
  rw [HLB.out, HRB.out]
  clear A2 B2 Z2 HA2 H1 HB1 HZ1 HRB HLB
  go_wp2_with fail
  go_loopw [5] (fun i wr => ∃ j : Nat, j ≤ 8 ∧ i = .int .i64 ((j + 1 : Nat) : Int) ∧ Hid (DTab w0 wr d D [rB rb (ks .u64 [0, 0, 0, 0]), rB lb (ks .u64 (mt D l j))] ∧ Below w.heap.size w wr)) (fun i _ => 9 - (intOf i).toNat)
  case atStart => exact ⟨0, by omega, rfl, HI0⟩
  case round =>
    obtain ⟨j, hj, rfl, HIr⟩ := hrel
    clear HI0
    obtain ⟨n, hn⟩ : ∃ n, n = j + 1 := ⟨_, rfl⟩
    rw [← hn]
    have HNJ := Lib.hid hn
    obtain ⟨mm, HMM⟩ : ∃ mm, Hid (mt D l j = mm) := ⟨_, rfl⟩
    have HM4 : Hid (mm.length = 4) := by show _ = _; rw [← HMM.out]; exact mt_len HG.out HL.out j
    have HMZ : Hid ((Try.prog.info? 32).map (·.size) = some (ks .u64 mm).length) := by show _ = _; rw [ks_length]; exact size_r HM4.out
    by_cases hlt : n ≤ 8
    · have ilt : (n : Int) ≤ 8 := by omega
      have hst := mt_step (s := l) HG.out j (by omega)
      rw [show ((j : Int) + 1) = (n : Int) by omega, HMM.out] at hst
      rw [HMM.out] at HIr
      obtain ⟨q, HQ⟩ : ∃ q, Hid ((gt D (n : Int)).opn = q) := ⟨_, rfl⟩
      obtain ⟨x, HX⟩ : ∃ x, Hid ((gt D (n : Int)).snap = x) := ⟨_, rfl⟩
      have HX4 : Hid (x.length = 4) := by show _ = _; rw [← HX.out]; exact (gt_ok HG.out.ok _).snap.1
      have HXZ : Hid ((Try.prog.info? 32).map (·.size) = some (ks .u64 x).length) := by show _ = _; rw [ks_length]; exact size_r HX4.out
      rw [HQ.out, HX.out] at hst
      have hcc := HIr.out.1.cell n (by omega) hlt
      rw [HQ.out, HX.out] at hcc
      have hc4 := hcc.1
      have HIX : Hid (∀ w, (Instr.indexAt 36 (.pointer (some ⟨d, 0, none⟩)) (.int .i64 (n : Int))).run Try.prog w = .ok (.pointer (some ⟨d, 10 * n, none⟩)) w) := fun w => index_dt d n (by omega) w
      have hix := HIX.out
      have HRX : Hid (∀ u, DTab w0 u d D [rB rb (ks .u64 [0, 0, 0, 0]), rB lb (ks .u64 mm)] → u.rangeAt d (10 * n + 5) (ks .u64 x) ∧ Blk u lb (ks .u64 mm)) := fun u hu => ⟨by rw [← HX.out]; exact (hu.cell n (by omega) hlt).2, hu.sep.blk 1 rfl⟩
      have HST := Lib.hid hst
      have en : IntKind.i64.wrap ((n : Int) + 1) = ((n + 1 : Nat) : Int) := by rw [IntKind.wrap_i64]; omega
      clear hn hst hcc
      cases q with
      | false =>
        have HN9 : Hid (DTab w0 wr d D [rB rb (ks .u64 [0, 0, 0, 0]), rB lb (ks .u64 (mt D l (j + 1)))] ∧ Below w.heap.size w wr) := by
          show _ ∧ _
          rw [HST.out]
          exact HIr.out
        go_wp2_with fail
        go_roundw
        case rel => exact ⟨j + 1, by have := HNJ.out; omega, by rw [HNJ.out]; first | rfl | go_num, HN9⟩
        case measure => simp [intOf]; omega
      | true =>
        have CM := Lib.hid (fun u => ref_meet mm x u HM4.out HX4.out)
        obtain ⟨y, HY⟩ : ∃ y, Hid (V.meet mm x = y) := ⟨_, rfl⟩
        rw [HY.out] at CM
        have HY4 : Hid (y.length = 4) := by show _ = _; rw [← HY.out]; exact V.meet_length HM4.out HX4.out
        have HYZ : Hid ((Try.prog.info? 32).map (·.size) = some (ks .u64 y).length) := by show _ = _; rw [ks_length]; exact size_r HY4.out
        have HD9 : Hid (DTab w0 wr.drew d D [rB rb (ks .u64 [0, 0, 0, 0]), rB lb (ks .u64 mm)] ∧ Below w.heap.size w wr.drew) := ⟨HIr.out.1.below (Below.refl _ _).drew, HIr.out.2.drew⟩
        go_wp2_with fail
        refine region_pickC (fun u => u.rangeAt d (10 * n + 5) (ks .u64 x) ∧ Blk u lb (ks .u64 mm)) 9 [0, 1, 2, 3, 4, 5, 6, 7] [8, 9] Try.mixed (by kernel_rfl) rfl (by kernel_rfl) (HRX.out _ HD9.out.1) ?_
        refine p_readC rfl ?_
        refine ct_mid_load rfl 32 _ rfl lb 0 rfl (ks .u64 mm) (fun u hu => hu.2.1) _ Try.underlying32 rfl HMZ.out (fun _ _ _ h => h) (fun K hK => ?_)
        go_simp
        refine hK _ ?_
        clear hK K
        refine c_nil ?_
        refine p_readC rfl ?_
        refine c_move rfl _ rfl (.pointer (some ⟨d, 0, none⟩)) rfl (fun _ _ _ h => h) (fun K hK => ?_)
        go_simp
        refine hK _ ?_
        clear hK K
        refine c_nil ?_
        refine p_readC rfl ?_
        refine c_move rfl _ rfl (.int .i64 (n : Int)) rfl (fun _ _ _ h => h) (fun K hK => ?_)
        go_simp
        refine hK _ ?_
        clear hK K
        refine c_nil ?_
        refine p_readC rfl ?_
        refine c_value rfl (.pointer (some ⟨d, 0, none⟩)) (fun u hu => by go_simp) (fun _ _ _ h => h) (fun K hK => ?_)
        go_simp
        refine hK _ ?_
        clear hK K
        refine c_nil ?_
        refine p_readC rfl ?_
        refine c_value rfl (.pointer (some ⟨d, 0, none⟩)) (fun u hu => by go_simp) (fun _ _ _ h => h) (fun K hK => ?_)
        go_simp
        refine hK _ ?_
        clear hK K
        refine c_nil ?_
        refine p_readC rfl ?_
        refine c_value rfl (.pointer (some ⟨d, 10 * n, none⟩)) (fun u hu => by have h9 := HIX.out u; go_simp) (fun _ _ _ h => h) (fun K hK => ?_)
        go_simp
        refine hK _ ?_
        clear hK K
        refine c_nil ?_
        refine p_readC rfl ?_
        refine c_value rfl (.pointer (some ⟨d, 10 * n + 5, none⟩)) (fun u hu => by go_simp) (fun _ _ _ h => h) (fun K hK => ?_)
        go_simp
        refine hK _ ?_
        clear hK K
        refine c_nil ?_
        refine p_readC rfl ?_
        refine ct_mid_load rfl 32 _ rfl d (10 * n + 5) rfl (ks .u64 x) (fun u hu => hu.1) _ Try.underlying32 rfl HXZ.out (fun _ _ _ h => h) (fun K hK => ?_)
        go_simp
        refine hK _ ?_
        clear hK K
        refine c_nil ?_
        refine p_nilC ?_
        refine p_stepC rfl ?_
        go_wp2_with (go_at_call 57; refine (CM.out _).mono ?_; rintro e w5 ⟨rfl, hb⟩)
        have HD5 : Hid (DTab w0 w5 d D [rB rb (ks .u64 [0, 0, 0, 0]), rB lb (ks .u64 mm)] ∧ Below w.heap.size w w5) := ⟨HD9.out.1.below hb, HD9.out.2.trans (hb.mono HD9.out.2.size)⟩
        clear hb
        refine And.intro (fun _ => HRX.out _ HD5.out.1) ?_
        refine p_stepC rfl ?_
        refine blk_store rfl 32 _ _ rfl lb rfl (ks .u64 y) rfl (ks .u64 mm) (HD5.out.1.sep.blk 1 rfl) (by rw [ks_length, ks_length, HY4.out, HM4.out]) HYZ.out (ks_all _ _) ?_
        intro w6 A6 U6
        have HN9 : Hid (DTab w0 w6 d D [rB rb (ks .u64 [0, 0, 0, 0]), rB lb (ks .u64 (mt D l (j + 1)))] ∧ Below w.heap.size w w6) := by
          show _ ∧ _
          rw [HST.out]
          first | rw [if_pos rfl, HY.out] | rw [if_pos True.intro, HY.out]
          exact ⟨HD5.out.1.upd 1 rfl U6 A6, HD5.out.2.trans (U6.below HLT.out.1)⟩
        clear A6 U6
        refine And.intro (fun h9 => absurd h9 (by decide)) ?_
        refine p_endC ?_
        go_wp2_with fail
        go_roundw
        case rel => exact ⟨j + 1, by have := HNJ.out; omega, by rw [HNJ.out]; first | rfl | go_num, HN9⟩
        case measure => simp [intOf]; omega
    · obtain rfl : j = 8 := by omega
      obtain rfl : n = 9 := by omega
      rw [HMM.out] at HE HIr
      have hmr : mm = r := HE.out
      subst hmr
      go_wp2_with (first | refine blk_load rfl 32 _ rfl lb rfl (ks .u64 mm) (HIr.out.1.sep.blk 1 rfl) _ Try.underlying32 rfl HMZ.out ?_ | refine blk_store rfl 32 _ _ rfl rb rfl (ks .u64 mm) rfl (ks .u64 [0, 0, 0, 0]) (HIr.out.1.sep.blk 0 rfl) (by rw [ks_length, HM4.out]; rfl) HMZ.out (ks_all _ _) ?_)
      intro w9 A9 U9
      have HA9 := Lib.hid A9
      have HB9 : Hid (Below w.heap.size w w9) := HIr.out.2.trans (U9.below HLT.out.2)
      clear A9 U9
      go_wp2_with fail
      refine bodyPost_ret ?_ rfl ⟨rfl, HB9.out⟩
      exact res_blk1 (t := 32) Try.results31 _ rb rfl (ks .u64 mm) HA9.out _ Try.underlying32 rfl HMZ.out
theorem isr_four {w : World} {g n cap : Nat} {L : List I.Wt} (h : IsR wk w (.slice (some ⟨g, 0, none⟩) n cap) L) (i : Nat) (hi : i < L.length) : g < w.heap.size ∧ w.rangeAt g (4 * i) (wc (L.getD i I.none_)) := by
  obtain ⟨g', off', cap', hv, hg, hrow⟩ := IsR.at h i hi
  simp only [Value.slice.injEq, Option.some.injEq, Addr.mk.injEq, and_true] at hv
  obtain ⟨⟨rfl, rfl⟩, -, rfl⟩ := hv
  refine ⟨hg, fun j v hv => ?_⟩
  have := hrow j v hv
  rwa [Nat.zero_add] at this
theorem or_zero {t : TypeId} {w : World} {base : Nat} {v : Value} {L : List I.Wt} (h : OR wk t w base v L) : ∃ sa cap, v = .slice sa L.length cap ∧ (0 < L.length → ∃ g, sa = some ⟨g, 0, none⟩) := by
  rcases h.row with ⟨e, e2⟩ | ⟨g, cap, cur, e, _⟩
  · exact ⟨none, 0, by rw [e, e2]; rfl, fun h => by rw [e2] at h; simp at h⟩
  · exact ⟨_, cap, e, fun _ => ⟨g, rfl⟩⟩
theorem bytes_ne {a b : ByteArray} (h : a ≠ b) : ¬ a.toList = b.toList := fun e => h (by rcases a with ⟨⟨_⟩⟩; rcases b with ⟨⟨_⟩⟩; simpa using e)
set_option maxHeartbeats 8000000 in
theorem down_any (h : DTab w0 w d D R) (id : Int) (bk ky : ByteArray) :
    Calls Try.prog 25 #[.pointer (some ⟨d, 0, none⟩), .int .i64 id, .string bk, .string ky] w fun e w' => e = .returned (.tuple #[WV (ownV (norm (gt D id)).wr (bk, ky)), .bool (ownB (norm (gt D id)).wr (bk, ky))]) ∧ Below w.heap.size w w' := by
  have H := Lib.hid h
  obtain ⟨L, HL⟩ : ∃ L, Hid ((norm (gt D id)).wr = L) := ⟨_, rfl⟩
  have HL8 : Hid (L.length ≤ 8) := by show _ ≤ _; rw [← HL.out]; exact (norm_ok (gt_ok h.good.ok id)).len
  obtain ⟨y, HY⟩ : ∃ y, Hid (ownV L (bk, ky) = y) := ⟨_, rfl⟩
  obtain ⟨b, HB⟩ : ∃ b, Hid (ownB L (bk, ky) = b) := ⟨_, rfl⟩
  rw [HL.out, HY.out, HB.out]
  have HE0 : Hid (∀ k, k < 0 → I.key (L.getD k I.none_) ≠ (bk, ky)) := fun k hk => absurd hk (by omega)
  clear h
  go_enter Try.func25, Try.ntmps25
  go_wp2_with (first | refine blk_alloc rfl 56 (wc I.none_) rfl It.Try.info_rw2 ?_)
  intro w1 A1 B1 Z1
  have HA1 := Lib.hid A1
  have HB1 := Lib.hid B1
  have CW := Lib.hid (dwrites_any (H.out.below B1) id)
  rw [HL.out] at CW
  clear A1 B1 Z1
  go_wp2_with fail
  refine (CW.out).mono ?_; rintro e w2 ⟨v', rfl, hor, hw⟩
  subst hw
  obtain ⟨n, HN⟩ : ∃ n, Hid (L.length = n) := ⟨_, rfl⟩
  have hn8 : n ≤ 8 := by have := HL8.out; have := HN.out; omega
  obtain ⟨sa, cap, ev, hsa⟩ := or_zero hor
  rw [HN.out] at ev hsa
  subst ev
  have HSA := Lib.hid hsa
  have HIS := Lib.hid hor.is
  clear hor hsa CW
  go_wp2_with fail
  go_loopw [11] (fun x wr => ∃ i : Nat, i ≤ n ∧ x = .int .i64 i ∧ Hid (∀ k, k < i → I.key (L.getD k I.none_) ≠ (bk, ky)) ∧ wr = w2) (fun x _ => n - (intOf x).toNat)
  case atStart => exact ⟨0, by omega, rfl, HE0, rfl⟩
  case round =>
    obtain ⟨i, hi, rfl, HEr, hwr⟩ := hrel
    subst hwr
    clear HE0
    by_cases hlt : i < n
    · have ilt : (i : Int) < (n : Int) := by omega
      obtain ⟨g, hs⟩ := HSA.out (by omega)
      subst hs
      obtain ⟨z, HZ⟩ : ∃ z, Hid (L.getD i I.none_ = z) := ⟨_, rfl⟩
      have hrow := isr_four HIS.out i (by rw [HN.out]; exact hlt)
      rw [HZ.out] at hrow
      have HRW := Lib.hid hrow.2
      have c0 : wr.cell? ⟨g, 4 * i, none⟩ = some (.string z.1) := hrow.2 0 _ rfl
      have c1 : wr.cell? ⟨g, 4 * i + 1, none⟩ = some (.string z.2.1) := hrow.2 1 _ rfl
      have hix : ∀ w, (Instr.indexAt 33 (.slice (some ⟨g, 0, none⟩) n cap) (.int .i64 (i : Int))).run Try.prog w = .ok (.pointer (some ⟨g, 4 * i, none⟩)) w := fun w => by
        have h9 := index_rw g 0 n cap i hlt w
        rwa [Nat.zero_add] at h9
      obtain ⟨zb, zk, zv, zg⟩ := z
      clear hrow
      by_cases hb1 : zb = bk
      · subst hb1
        by_cases hk1 : zk = ky
        · subst hk1
          have hix2 : ix L (zb, zk) = i := ix_of (by rw [HN.out]; exact hlt) (by rw [HZ.out]; exact decide_eq_true rfl) (fun k hk => decide_eq_false (HEr.out k hk))
          obtain rfl : b = true := by rw [← HB.out]; unfold ownB; rw [hix2, HN.out]; exact decide_eq_true hlt
          obtain rfl : y = (zb, zk, zv, zg) := by rw [← HY.out]; unfold ownV; rw [hix2]; exact HZ.out
          clear hix2
          go_wp2_with (first | refine mid_load rfl 56 _ rfl g (4 * i) rfl (wc (zb, zk, zv, zg)) HRW.out _ Try.underlying56 rfl It.Try.size_rw ?_ | refine blk_store rfl 56 _ _ rfl w.heap.size rfl (wc (zb, zk, zv, zg)) rfl (wc I.none_) HA1.out rfl It.Try.size_rw (It.one_wc _) ?_)
          intro w3 A3 U3
          have HA3 := Lib.hid A3
          have HB3 : Hid (Below w.heap.size w w3) := HB1.out.trans (U3.below (Nat.le_refl _))
          clear A3 U3
          go_wp2_with fail
          refine bodyPost_ret ?_ rfl ⟨rfl, HB3.out⟩
          exact res_blk2 (t := 56) Try.results25 _ w.heap.size rfl (wc (zb, zk, zv, zg)) HA3.out _ Try.underlying56 rfl It.Try.size_rw
        · have hne := bytes_ne hk1
          have hd1 : decide (zk.toList = ky.toList) = false := decide_eq_false hne
          have hd2 : (zk.toList == ky.toList) = false := by rw [beq_eq_false_iff_ne]; exact hne
          have HE' : Hid (∀ k, k < i + 1 → I.key (L.getD k I.none_) ≠ (zb, ky)) := fun k hk => by
            rcases Nat.lt_or_eq_of_le (Nat.le_of_lt_succ hk) with h9 | h9
            · exact HEr.out k h9
            · rw [h9, HZ.out]; exact fun e => hk1 (congrArg Prod.snd e)
          go_wp2_with fail
          go_roundw
          case rel => exact ⟨i + 1, by omega, by go_num, HE', by first | rfl | trivial⟩
          case measure => simp [intOf]; omega
      · have hne := bytes_ne hb1
        have HE' : Hid (∀ k, k < i + 1 → I.key (L.getD k I.none_) ≠ (bk, ky)) := fun k hk => by
          rcases Nat.lt_or_eq_of_le (Nat.le_of_lt_succ hk) with h9 | h9
          · exact HEr.out k h9
          · rw [h9, HZ.out]; exact fun e => hb1 (congrArg Prod.fst e)
        go_wp2_with fail
        go_roundw
        case rel => exact ⟨i + 1, by omega, by go_num, HE', by first | rfl | trivial⟩
        case measure => simp [intOf]; omega
    · obtain rfl : i = n := by omega
      have hno : ix L (bk, ky) = L.length := ix_none (fun x hx => by
        obtain ⟨k, hk, rfl⟩ := List.getElem_of_mem hx
        have h9 := HEr.out k (by rw [← HN.out]; exact hk)
        rw [List.getD_eq_getElem?_getD, List.getElem?_eq_getElem hk] at h9
        exact decide_eq_false h9)
      obtain rfl : b = false := by rw [← HB.out]; unfold ownB; rw [hno]; exact decide_eq_false (Nat.lt_irrefl _)
      obtain rfl : y = I.none_ := by rw [← HY.out]; unfold ownV; rw [hno]; simp
      clear hno
      go_wp2_with (first | refine blk_store rfl 56 _ _ rfl w.heap.size rfl (wc I.none_) rfl (wc I.none_) HA1.out rfl It.Try.size_rw (It.one_wc _) ?_)
      intro w3 A3 U3
      have HA3 := Lib.hid A3
      have HB3 : Hid (Below w.heap.size w w3) := HB1.out.trans (U3.below (Nat.le_refl _))
      clear A3 U3
      go_wp2_with fail
      refine bodyPost_ret ?_ rfl ⟨rfl, HB3.out⟩
      exact res_blk2 (t := 56) Try.results25 _ w.heap.size rfl (wc I.none_) HA3.out _ Try.underlying56 rfl It.Try.size_rw
end

end Go.Proofs.Ytkiaehehckmpnaa.Zm
