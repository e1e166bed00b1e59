/- sess: snapshots, Many, Horizon. -/
import Derived.Test.YtkiaehehckmpnaaSessT

namespace Go.Proofs.Ytkiaehehckmpnaa.Zm

open Go.RowKit Go.Proofs.Ytkiaehehckmpnaa.Vc Go.Proofs.Ytkiaehehckmpnaa.Sp Go.Proofs.Ytkiaehehckmpnaa.Rw Go.Proofs.Ytkiaehehckmpnaa.Se Go.Proofs.Ytkiaehehckmpnaa.It Go.Proofs.Ytkiaehehckmpnaa.Z

set_option linter.unusedVariables false

set_option linter.unusedSimpArgs false

set_option maxRecDepth 100000

theorem Try.size_arr : (Try.prog.info? 93).map (·.size) = some 80 := by kernel_rfl
theorem zero_vk : vk.val vk.none_ = .agg #[.int .u64 0, .int .u64 0, .int .u64 0, .int .u64 0] := rfl
theorem inf_vk : (Try.prog.info? 25).map (fun i => (i.zero, i.size, i.bytes)) = some (some (vk.val vk.none_), vk.k, 32) := by rw [zero_vk]; kernel_rfl
theorem vrow_slice {t : TypeId} {w : World} {v : Value} {base : Nat} {L : List (List Nat)} (h : OR vk t w base v L) : ∃ sa cap, v = .slice sa L.length cap := by
  obtain ⟨a, c, hv, _⟩ := h.is.is
  exact ⟨a, c, hv⟩
/-- []Vec{v} -/
theorem build_v {w : World} {ops : Array Oper} {rest : List Oper} {o : Oper} {a : Act} {Q : Exit → Act → World → Prop} (hgd : o.guard = none) (x : Operand) (ho : o.op = .buildSlice 110 1 #[(0, x)]) (l : List Nat) (hl : l.length = 4) (hx : a.eval x = AV .u64 l)
    (h : ∀ w', Blk w' w.heap.size (ks .u64 l) → Below w.heap.size w w' → w'.heap.size = w.heap.size + 1 → wpList Try.prog ops Q rest (a.put o.dst (.slice (some ⟨w.heap.size, 0, none⟩) 1 1)) w') : wpList Try.prog ops Q (o :: rest) a w := by
  obtain ⟨n0, n1, n2, n3, rfl⟩ := V.four hl
  refine wpList_plain hgd fun K hK => ?_
  have e : (Instr.buildSlice 110 1 #[(0, AV .u64 [n0, n1, n2, n3])]).run Try.prog w = .ok (.slice (some ⟨w.heap.size, 0, none⟩) 1 1) (w.alloc (.cells #[.int .u64 (n0 : Int), .int .u64 (n1 : Int), .int .u64 (n2 : Int), .int .u64 (n3 : Int)] 25)) := by
    unfold AV ks
    simp only [List.map_cons, List.map_nil]
    go_simp
  unfold Oper.wp execOp
  simp only [ho, Sem.run_bind, List.map_toArray, List.map_cons, List.map_nil, hx, e, Result.andThen_ok, Sem.run_pure]
  exact hK _ _ (h _ (Blk.of_row (heap_alloc_last w _)) ((Below.refl _ _).alloc (Nat.le_refl _) _) (by show (w.heap.push _).size = _; simp))
theorem isr_one {w : World} {b : Nat} {l : List Nat} (hl : l.length = 4) (h : Blk w b (ks .u64 l)) (hb : b < w.heap.size) : IsR vk w (.slice (some ⟨b, 0, none⟩) 1 1) [l] := IsR.one (K := vk) (by rw [vk_cf hl]; exact h) hb
theorem snaps_step (S : List Ss) (j : Nat) (s : Ss) (h : S[j]? = some s) : snaps (S.take (j + 1)) = snaps (S.take j) ++ if s.opn = true then [s.snap] else [] := by
  rw [List.take_add_one, h]
  unfold snaps
  rw [List.filter_append, List.map_append]
  congr 1
  simp only [Option.toList_some, List.filter_cons, List.filter_nil]
  cases s.opn <;> rfl
theorem sc_one {s : Ss} {v : Value} (hv : v.oneCell' = true) : (sc s v).all (fun v => v.oneCell') = true := by
  unfold sc
  simp only [List.all_append, List.all_cons, List.all_nil, ks_all, Bool.true_and, Bool.and_true]
  rw [hv]
  rfl
section

variable {w0 w : World} {b : Nat} {S : List Ss} {R : List Rg}

/-- the table's value, session by session -/
theorem Tab.value (h : Tab w0 w b S R) : ∃ cs : List Value, cs.length = 80 ∧ Blk w b cs ∧ ∀ j, j < 8 → ∃ s v, S[j]? = some s ∧ s.Ok ∧ v.oneCell' = true ∧ cs.toArray.extract (j * 10) (j * 10 + 10) = (sc s v).toArray := by
  obtain ⟨Zv, h1, h2, h3⟩ := h.mem
  have hok := h.good.ok
  have hlen := h.good.len
  have hZ : ∀ p ∈ Zv, p.1.Ok := fun p hp => hok _ (by rw [← h1]; exact List.mem_map.2 ⟨p, hp, rfl⟩)
  have hl8 : Zv.length = 8 := by rw [← hlen, ← h1, List.length_map]
  refine ⟨cT Zv, by rw [cT_len hZ, hl8], h3.blk R.length (by simp [tb]), fun j hj => ?_⟩
  cases e : Zv[j]? with
  | none => rw [List.getElem?_eq_none_iff] at e; omega
  | some p =>
    obtain ⟨s, v⟩ := p
    have hm := List.mem_of_getElem? e
    obtain ⟨e1, _⟩ := split_at e
    refine ⟨s, v, by rw [← h1, List.getElem?_map, e]; rfl, hZ _ hm, ?_, ?_⟩
    · have hr : Sep w0 w (tb 41 b Zv) := h3.sub (List.sublist_append_right _ _)
      have ho : OR wk 41 w 0 v s.wr := (hr.each (rO wk 41 0 v s.wr) (List.mem_cons_of_mem _ (List.mem_map.2 ⟨(s, v), hm, rfl⟩))).1
      obtain ⟨a, c, hv, _⟩ := ho.is.is
      rw [hv]; rfl
    · conv => lhs; rw [e1, cT_split]
      exact extract_one _ _ s v (hZ _ hm) j (by rw [cT_len (fun p hp => hZ p (List.mem_of_mem_take hp)), List.length_take, Nat.min_eq_left (by omega)])
set_option maxHeartbeats 8000000 in
theorem snaps_any (h : Tab w0 w b S R) :
    Calls Try.prog 56 #[.pointer (some ⟨b, 0, none⟩)] w fun e w' => ∃ v', e = .returned v' ∧ OR vk 25 w' w.heap.size v' (snaps S) ∧ Below w.heap.size w w' := by
  obtain ⟨cs, hcl, hcb, hcj⟩ := h.value
  have HB := Lib.hid hcb
  have HJ := Lib.hid hcj
  have HS8 := Lib.hid h.good.len
  have HSZ : Hid ((Try.prog.info? 93).map (·.size) = some cs.length) := by show _ = _; rw [hcl]; exact Try.size_arr
  have HO0 : Hid (OR vk 25 w w.heap.size (.slice none 0 0) (snaps (S.take 0))) := OR.nil _ _ _
  have HBR : Hid (Below w.heap.size w w) := Below.refl _ _
  clear hcl hcb hcj h
  go_enter Try.func56, Try.ntmps56
  go_wp2_with (first | refine blk_load rfl 93 _ rfl b rfl cs HB.out _ Try.underlying93 rfl HSZ.out ?_)
  go_loopw [3, 10] (fun t i wr => ∃ j : Nat, j ≤ 8 ∧ i = .int .i64 j ∧ Hid (OR vk 25 wr w.heap.size t (snaps (S.take j))) ∧ Hid (Below w.heap.size w wr)) (fun _ i _ => 8 - (intOf i).toNat)
  case atStart => exact ⟨0, by omega, rfl, HO0, HBR⟩
  case round =>
    obtain ⟨j, hj, rfl, HOr, HBr⟩ := hrel
    clear HO0 HBR
    by_cases hlt : j < 8
    · have ilt : (j : Int) < 8 := by omega
      obtain ⟨s, v, hs, hok, hv1, hex⟩ := HJ.out j hlt
      have hst := snaps_step S j s hs
      have hix : ∀ w, (Instr.index 93 (.agg cs.toArray) (.int .i64 (j : Int))).run Try.prog w = .ok (.agg (sc s v).toArray) w := fun w => by rw [← hex]; exact index_one cs.toArray j hlt w
      have HV1 := Lib.hid hv1
      have HOK := Lib.hid hok
      have HL10 : Hid ((sc s v).length = 10) := sc_len hok v
      have HS4 := Lib.hid hok.snap.1
      have HI4 : Hid ((Try.prog.info? 25).map (·.size) = some s.snap.length) := size_v hok.snap.1
      have HIS : Hid ((Try.prog.info? 92).map (·.size) = some (sc s v).length) := by show _ = _; rw [HL10.out]; exact Try.size_one
      have HST := Lib.hid hst
      have hln : (snaps (S.take j)).length ≤ 8 := by
        unfold snaps
        rw [List.length_map]
        refine Nat.le_trans (List.length_filter_le _ _) ?_
        rw [List.length_take]; omega
      have HLN := Lib.hid hln
      clear hs hok hv1 hex hst hln
      obtain ⟨q, HQ⟩ : ∃ q, Hid (s.opn = q) := ⟨_, rfl⟩
      obtain ⟨ta, tc, et⟩ := vrow_slice HOr.out
      subst et
      go_wp2_with (first | refine blk_alloc rfl 92 (sc nos nil_) rfl Try.info_one ?_)
      intro w1 A1 B1 Z1
      have HA1 := Lib.hid A1
      have HB1 : Hid (Below w.heap.size w w1) := HBr.out.trans (B1.mono HBr.out.size)
      have HO1 := Lib.hid (HOr.out.below B1)
      have HZ1 := Lib.hid Z1
      clear A1 B1 Z1
      go_wp2_with (first | refine blk_store rfl 92 _ _ rfl wr.heap.size rfl (sc s v) rfl (sc nos nil_) HA1.out (by rw [HL10.out]; rfl) HIS.out (sc_one HV1.out) ?_)
      intro w2 A2 U2
      have HE2 : Hid (Blk w2 wr.heap.size ([] ++ (sc s v ++ []))) := by show Blk _ _ _; rw [List.append_nil, List.nil_append]; exact A2
      have HB2 : Hid (Below w.heap.size w w2) := HB1.out.trans (U2.below HBr.out.size)
      have HO2 : Hid (OR vk 25 w2 w.heap.size (.slice ta (snaps (S.take j)).length tc) (snaps (S.take j))) := HO1.out.grown (grownBy_upd U2) (fun g hg e => by
        have h1 := (HOr.out.lt hg).2
        obtain rfl := Option.some.inj e
        exact absurd h1 (Nat.lt_irrefl _))
      clear A2 U2
      have c4 : w2.cell? ⟨wr.heap.size, 4, none⟩ = some (.bool q) := by
        have := fc_open HE2.out HOK.out.seen.1 (o := 0) rfl
        rw [HQ.out] at this
        exact this
      cases q with
      | false =>
        have HO9 : Hid (OR vk 25 w2 w.heap.size (.slice ta (snaps (S.take j)).length tc) (snaps (S.take (j + 1)))) := by
          show OR _ _ _ _ _ _
          rw [HST.out, HQ.out, if_neg (by decide), List.append_nil]
          exact HO2.out
        go_wp2_with fail
        go_roundw
        case rel => exact ⟨j + 1, by omega, by go_num, HO9, HB2⟩
        case measure => simp [intOf]; omega
      | true =>
        have HR5 : Hid (w2.rangeAt wr.heap.size 5 (ks .u64 s.snap)) := by
          have := fc_snap HE2.out HOK.out.seen.1 (o := 0) rfl
          exact this
        obtain ⟨m, HM⟩ : ∃ m, Hid ((snaps (S.take j)).length = m) := ⟨_, rfl⟩
        rw [HM.out] at HO2
        rw [HM.out]
        go_wp2_with (first | refine row_load rfl .u64 25 _ rfl wr.heap.size 5 rfl s.snap HR5.out 4 23 Try.underlying25 HI4.out ?_ | refine build_v rfl _ rfl s.snap HS4.out rfl ?_)
        intro w3 A3 B3 Z3
        have HO3 := Lib.hid (HO2.out.below B3)
        have HB3 : Hid (Below w.heap.size w w3) := HB2.out.trans (B3.mono HB2.out.size)
        have HM3 := Lib.hid (isr_one HS4.out A3 (by omega))
        clear A3 B3 Z3
        obtain ⟨v', w4, hrr, hor, hg, hnw⟩ := append_any (K := vk) 110 Try.underlying110 inf_vk rfl w3 w.heap.size (.slice ta m tc) (snaps (S.take j)) HO3.out (.slice (some ⟨w2.heap.size, 0, none⟩) 1 1) [s.snap] HM3.out (by have := HLN.out; simp only [List.length_cons, List.length_nil]; omega) (by decide) HB3.out.size
        have HO4 : Hid (OR vk 25 w4 w.heap.size v' (snaps (S.take (j + 1)))) := by
          show OR _ _ _ _ _ _
          rw [HST.out, HQ.out, if_pos rfl]
          exact hor
        have HB4 : Hid (Below w.heap.size w w4) := HB3.out.trans ((Below.refl _ _).grown hg HB3.out.size (fun k hk => (HO3.out.lt hk).1))
        have HRR := Lib.hid hrr
        obtain ⟨t2, c2, e2⟩ := vrow_slice HO4.out
        subst e2
        clear hrr hor hg hnw
        go_wp2_with (at_builtin; refine append_step rfl _ _ _ _ rfl rfl rfl HRR.out ?_)
        go_roundw
        case rel => exact ⟨j + 1, by omega, by go_num, HO4, HB4⟩
        case measure => simp [intOf]; omega
    · obtain rfl : j = 8 := by omega
      have HF : Hid (S.take 8 = S) := List.take_of_length_le (by rw [HS8.out]; exact Nat.le_refl _)
      rw [HF.out] at HOr
      go_wp2_with fail
      go_ret
      exact ⟨_, rfl, HOr.out, HBr.out⟩
theorem tmany_any (h : Tab w0 w b S R) :
    Calls Try.prog 32 #[.pointer (some ⟨b, 0, none⟩)] w fun e w' => e = .returned (.int .i64 (many S : Int)) ∧ Below w.heap.size w w' := by
  have CS := Lib.hid (snaps_any h)
  obtain ⟨m, HM⟩ : ∃ m, Hid (many S = m) := ⟨_, rfl⟩
  have HL : Hid ((snaps S).length = m) := by show _ = _; rw [← HM.out]; unfold snaps many; rw [List.length_map]
  rw [HM.out]
  clear h
  go_enter Try.func32, Try.ntmps32
  go_wp2_with fail
  refine (CS.out).mono ?_; rintro e w1 ⟨v', rfl, ho, hb⟩
  obtain ⟨ta, tc, et⟩ := vrow_slice ho
  subst et
  have HB := Lib.hid hb
  clear ho hb CS
  rw [HL.out]
  go_wp2_with fail
  go_ret
  exact ⟨rfl, HB.out⟩
set_option maxHeartbeats 8000000 in
theorem thor_any (h : Tab w0 w b S R) (l : List Nat) (hl : V.Ok l) :
    Calls Try.prog 30 #[.pointer (some ⟨b, 0, none⟩), AV .u64 l] w fun e w' => e = .returned (AV .u64 (horizon S l)) ∧ Below w.heap.size w w' := by
  have H := Lib.hid h
  have HL := Lib.hid hl
  have HIl := Lib.hid (size_v hl.1)
  have HV4 : Hid ((Try.prog.info? 25).map (·.size) = some (ks .u64 l).length) := by show _ = _; rw [ks_length]; exact HIl.out
  have HSN := Lib.hid (snaps_len h.good)
  have HN8 : Hid ((snaps S).length ≤ 8) := by
    show _ ≤ _
    unfold snaps
    rw [List.length_map]
    refine Nat.le_trans (List.length_filter_le _ _) ?_
    rw [h.good.len]; exact Nat.le_refl _
  obtain ⟨r, HR⟩ : ∃ r, Hid (horizon S l = r) := ⟨_, rfl⟩
  have HRO : Hid (V.Ok r) := by
    show V.Ok _
    rw [← HR.out]
    unfold horizon
    refine V.all_ok _ (fun a ha => ?_)
    rcases List.mem_append.1 ha with h1 | h1
    · exact HSN.out a h1
    · rw [List.mem_singleton] at h1; rw [h1]; exact hl
  have HIr := Lib.hid (size_v HRO.out.1)
  rw [HR.out]
  clear h hl
  go_enter Try.func30, Try.ntmps30
  go_wp2_with (first | refine arr_box rfl .u64 25 _ rfl l rfl ?_)
  intro w1 A1 B1 Z1
  have HA1 := Lib.hid A1
  have HB1 := Lib.hid B1
  have HZ1 := Lib.hid Z1
  clear A1 B1 Z1
  go_wp2_with (first | refine arr_alloc rfl .u64 25 4 rfl Try.info_v ?_)
  intro w2 A2 B2 Z2
  rw [HZ1.out] at A2 Z2
  have HX2 : Hid (Blk w2.drew w.heap.size (ks .u64 l)) := (HA1.out.blk.below B2 (by rw [HZ1.out]; omega)).drew
  have HA2 : Hid (Arr .u64 w2.drew (w.heap.size + 1) (List.replicate 4 0)) := A2.drew
  have HB2 : Hid (Below w.heap.size w w2.drew) := (HB1.out.trans (B2.mono HB1.out.size)).drew
  have HZ2 : Hid (w.heap.size + 2 ≤ w2.drew.heap.size) := by show _ ≤ w2.heap.size; omega
  have HT2 := Lib.hid (H.out.below HB2.out)
  have hz1 := HZ1.out
  rw [HZ1.out]
  clear A2 B2 Z2 HA1 HB1
  go_wp2_with fail
  refine region_tree (fun u => Blk u w.heap.size (ks .u64 l)) 6 Try.mixed ?_
  refine tr_read 0 rfl (by kernel_rfl) HX2.out ?_
  refine c_move rfl _ rfl (.pointer (some ⟨b, 0, none⟩)) rfl (fun _ _ _ h => h) (fun K hK => ?_)
  go_simp
  refine hK _ ?_
  clear hK K
  refine c_nil ?_
  refine tr_read 2 rfl (by kernel_rfl) HX2.out ?_
  refine ct_mid_load rfl 25 _ rfl w.heap.size 0 rfl (ks .u64 l) (fun u hu => hu.1) _ Try.underlying25 rfl HV4.out (fun _ _ _ h => h) (fun K hK => ?_)
  go_simp
  refine hK _ ?_
  clear hK K
  refine c_nil ?_
  refine tr_two 1 3 rfl rfl (by kernel_rfl) ?_ ?_
  · skip
    have CS := Lib.hid (snaps_any (Tab.below HT2.out (Below.refl _ _)))
    go_wp2_with (go_at_call 56; refine (CS.out).mono ?_; rintro e w3 ⟨v', rfl, ho, hb⟩)
    clear CS
    have HO3 := Lib.hid ho
    have HB3 := Lib.hid hb
    have HX3 : Hid (Blk w3 w.heap.size (ks .u64 l)) := HX2.out.below hb (by have := HZ2.out; omega)
    clear ho hb
    refine And.intro (fun _ => HX3.out) ?_
    refine tr_one 3 rfl (by kernel_rfl) ?_
    refine build_v rfl _ rfl l HL.out.1 rfl ?_
    intro w4 A4 B4 Z4
    have HO4 := Lib.hid (HO3.out.below B4)
    have HM4 := Lib.hid (isr_one HL.out.1 A4 (by omega))
    have h34 := HB3.out.trans (B4.mono HB3.out.size)
    have HX4 : Hid (Blk w4 w.heap.size (ks .u64 l)) := HX2.out.below h34 (by have := HZ2.out; omega)
    have HA4 : Hid (Arr .u64 w4 (w.heap.size + 1) (List.replicate 4 0)) := HA2.out.below h34 (by have := HZ2.out; omega)
    have HB4 : Hid (Below w.heap.size w w4) := HB2.out.trans (h34.mono HB2.out.size)
    have HS4 : Hid (w2.drew.heap.size ≤ w4.heap.size) := h34.size
    clear A4 B4 Z4 h34
    go_wp2_with fail
    refine And.intro (fun _ => HX4.out) ?_
    obtain ⟨v9, w5, hrr, hor, hg, hnw⟩ := append_any (K := vk) 110 Try.underlying110 inf_vk rfl w4 w2.drew.heap.size v' (snaps S) HO4.out (.slice (some ⟨w3.heap.size, 0, none⟩) 1 1) [l] HM4.out (by have := HN8.out; simp only [List.length_cons, List.length_nil]; omega) (by decide) HS4.out
    refine tr_one 4 rfl (by kernel_rfl) ?_
    refine append_step rfl _ _ _ _ rfl rfl rfl hrr ?_
    have hBel := (Below.refl w2.drew.heap.size w4).grown hg HS4.out (fun k hk => (HO4.out.lt hk).1)
    have hz2 := HZ2.out
    have HX5 : Hid (Blk w5 w.heap.size (ks .u64 l)) := HX4.out.below hBel (by omega)
    have HA5 : Hid (Arr .u64 w5 (w.heap.size + 1) (List.replicate 4 0)) := HA4.out.below hBel (by omega)
    have HZ5 : Hid (w.heap.size + 1 < w5.heap.size) := by show _ < _; have := hBel.size; have := HS4.out; omega
    have HB5 : Hid (Below w.heap.size w w5) := HB4.out.trans (hBel.mono (by omega))
    clear hBel
    obtain ⟨g2, cp, cur, ev, _, _⟩ := OR.some hor (by simp)
    have HOW := Lib.hid hor
    obtain ⟨n, HN⟩ : ∃ n, Hid ((snaps S ++ [l]).length = n) := ⟨_, rfl⟩
    rw [HN.out] at ev
    subst ev
    have CALL : Hid (Calls Try.prog 55 #[.slice (some ⟨g2, 0, none⟩) n cp] w5 fun e w' => e = .returned (AV .u64 r) ∧ Below w5.heap.size w5 w') := by
      obtain ⟨sa, cap, e1, h1, h2, h3⟩ := hor.is.is
      simp only [Value.slice.injEq] at e1
      obtain ⟨rfl, e2, rfl⟩ := e1
      have hne : snaps S ++ [l] ≠ [] := by simp
      obtain ⟨b9, o9, e9, h9, hv⟩ := h3 hne
      simp only [Option.some.injEq, Addr.mk.injEq, and_true] at e9
      obtain ⟨rfl, rfl⟩ := e9
      have hlen : ∀ x ∈ snaps S ++ [l], x.length = 4 := fun x hx => by
        rcases List.mem_append.1 hx with h8 | h8
        · exact (HSN.out x h8).1
        · rw [List.mem_singleton] at h8; rw [h8]; exact HL.out.1
      have hR : V.all (snaps S ++ [l]) = r := HR.out
      cases hc : snaps S ++ [l] with
      | nil => exact absurd hc hne
      | cons x xs =>
        have hN := HN.out
        rw [hc] at h1 hv hlen hR hN
        show Calls _ _ _ _ _
        rw [← hR]
        refine all_any g2 0 n cp x xs w5 hN (by rw [← hN]; exact h1) h2 hlen h9 ?_
        exact vk_vecs hv hlen
    clear hrr hor hg hnw
    go_wp2_with fail
    refine And.intro (fun _ => HX5.out) ?_
    refine tr_one 5 rfl (by kernel_rfl) ?_
    go_wp2_with (go_at_call 55; refine (CALL.out).mono ?_; rintro e w6 ⟨rfl, hb⟩)
    have HA6 : Hid (Arr .u64 w6 (w.heap.size + 1) (List.replicate 4 0)) := HA5.out.below hb HZ5.out
    have HX6 : Hid (Blk w6 w.heap.size (ks .u64 l)) := HX5.out.below hb (by have := HZ5.out; omega)
    have HB6 : Hid (Below w.heap.size w w6) := HB5.out.trans (hb.mono HB5.out.size)
    clear hb CALL
    refine And.intro (fun _ => HX6.out) ?_
    refine tr_one 6 rfl (by kernel_rfl) ?_
    refine arr_store rfl .u64 25 _ _ rfl (w.heap.size + 1) rfl r rfl _ HA6.out (by rw [HRO.out.1]; rfl) HIr.out ?_
    intro w7 A7 U7
    have HA7 := Lib.hid A7
    have HB7 : Hid (Below w.heap.size w w7) := HB6.out.trans (U7.below (by omega))
    clear A7 U7
    go_wp2_with fail
    refine And.intro (fun h9 => absurd h9 (by decide)) ?_
    refine tr_end (by kernel_rfl) ?_
    go_wp2_with fail
    refine bodyPost_ret ?_ rfl ⟨rfl, HB7.out⟩
    exact res_arr (t := 25) Try.results30 _ .u64 (w.heap.size + 1) rfl r HA7.out 4 23 Try.underlying25 HIr.out
  · skip
    refine build_v rfl _ rfl l HL.out.1 rfl ?_
    intro w3 A3 B3 Z3
    have HM3 := Lib.hid (isr_one HL.out.1 A3 (by omega))
    have HB3 := Lib.hid B3
    have HX3 : Hid (Blk w3 w.heap.size (ks .u64 l)) := HX2.out.below B3 (by have := HZ2.out; omega)
    clear A3 B3 Z3
    go_wp2_with fail
    refine And.intro (fun _ => HX3.out) ?_
    refine tr_one 1 rfl (by kernel_rfl) ?_
    have CS := Lib.hid (snaps_any (Tab.below HT2.out HB3.out))
    go_wp2_with (go_at_call 56; refine (CS.out).mono ?_; rintro e w4 ⟨v', rfl, ho, hb⟩)
    clear CS
    have HO4 := Lib.hid (ho.mono HB3.out.size)
    have HM4 := Lib.hid (HM3.out.below hb)
    have h34 := HB3.out.trans (hb.mono HB3.out.size)
    have HX4 : Hid (Blk w4 w.heap.size (ks .u64 l)) := HX2.out.below h34 (by have := HZ2.out; omega)
    have HA4 : Hid (Arr .u64 w4 (w.heap.size + 1) (List.replicate 4 0)) := HA2.out.below h34 (by have := HZ2.out; omega)
    have HB4 : Hid (Below w.heap.size w w4) := HB2.out.trans (h34.mono HB2.out.size)
    have HS4 : Hid (w2.drew.heap.size ≤ w4.heap.size) := h34.size
    clear ho hb h34
    refine And.intro (fun _ => HX4.out) ?_
    obtain ⟨v9, w5, hrr, hor, hg, hnw⟩ := append_any (K := vk) 110 Try.underlying110 inf_vk rfl w4 w2.drew.heap.size v' (snaps S) HO4.out (.slice (some ⟨w2.drew.heap.size, 0, none⟩) 1 1) [l] HM4.out (by have := HN8.out; simp only [List.length_cons, List.length_nil]; omega) (by decide) HS4.out
    refine tr_one 4 rfl (by kernel_rfl) ?_
    refine append_step rfl _ _ _ _ rfl rfl rfl hrr ?_
    have hBel := (Below.refl w2.drew.heap.size w4).grown hg HS4.out (fun k hk => (HO4.out.lt hk).1)
    have hz2 := HZ2.out
    have HX5 : Hid (Blk w5 w.heap.size (ks .u64 l)) := HX4.out.below hBel (by omega)
    have HA5 : Hid (Arr .u64 w5 (w.heap.size + 1) (List.replicate 4 0)) := HA4.out.below hBel (by omega)
    have HZ5 : Hid (w.heap.size + 1 < w5.heap.size) := by show _ < _; have := hBel.size; have := HS4.out; omega
    have HB5 : Hid (Below w.heap.size w w5) := HB4.out.trans (hBel.mono (by omega))
    clear hBel
    obtain ⟨g2, cp, cur, ev, _, _⟩ := OR.some hor (by simp)
    have HOW := Lib.hid hor
    obtain ⟨n, HN⟩ : ∃ n, Hid ((snaps S ++ [l]).length = n) := ⟨_, rfl⟩
    rw [HN.out] at ev
    subst ev
    have CALL : Hid (Calls Try.prog 55 #[.slice (some ⟨g2, 0, none⟩) n cp] w5 fun e w' => e = .returned (AV .u64 r) ∧ Below w5.heap.size w5 w') := by
      obtain ⟨sa, cap, e1, h1, h2, h3⟩ := hor.is.is
      simp only [Value.slice.injEq] at e1
      obtain ⟨rfl, e2, rfl⟩ := e1
      have hne : snaps S ++ [l] ≠ [] := by simp
      obtain ⟨b9, o9, e9, h9, hv⟩ := h3 hne
      simp only [Option.some.injEq, Addr.mk.injEq, and_true] at e9
      obtain ⟨rfl, rfl⟩ := e9
      have hlen : ∀ x ∈ snaps S ++ [l], x.length = 4 := fun x hx => by
        rcases List.mem_append.1 hx with h8 | h8
        · exact (HSN.out x h8).1
        · rw [List.mem_singleton] at h8; rw [h8]; exact HL.out.1
      have hR : V.all (snaps S ++ [l]) = r := HR.out
      cases hc : snaps S ++ [l] with
      | nil => exact absurd hc hne
      | cons x xs =>
        have hN := HN.out
        rw [hc] at h1 hv hlen hR hN
        show Calls _ _ _ _ _
        rw [← hR]
        refine all_any g2 0 n cp x xs w5 hN (by rw [← hN]; exact h1) h2 hlen h9 ?_
        exact vk_vecs hv hlen
    clear hrr hor hg hnw
    go_wp2_with fail
    refine And.intro (fun _ => HX5.out) ?_
    refine tr_one 5 rfl (by kernel_rfl) ?_
    go_wp2_with (go_at_call 55; refine (CALL.out).mono ?_; rintro e w6 ⟨rfl, hb⟩)
    have HA6 : Hid (Arr .u64 w6 (w.heap.size + 1) (List.replicate 4 0)) := HA5.out.below hb HZ5.out
    have HX6 : Hid (Blk w6 w.heap.size (ks .u64 l)) := HX5.out.below hb (by have := HZ5.out; omega)
    have HB6 : Hid (Below w.heap.size w w6) := HB5.out.trans (hb.mono HB5.out.size)
    clear hb CALL
    refine And.intro (fun _ => HX6.out) ?_
    refine tr_one 6 rfl (by kernel_rfl) ?_
    refine arr_store rfl .u64 25 _ _ rfl (w.heap.size + 1) rfl r rfl _ HA6.out (by rw [HRO.out.1]; rfl) HIr.out ?_
    intro w7 A7 U7
    have HA7 := Lib.hid A7
    have HB7 : Hid (Below w.heap.size w w7) := HB6.out.trans (U7.below (by omega))
    clear A7 U7
    go_wp2_with fail
    refine And.intro (fun h9 => absurd h9 (by decide)) ?_
    refine tr_end (by kernel_rfl) ?_
    go_wp2_with fail
    refine bodyPost_ret ?_ rfl ⟨rfl, HB7.out⟩
    exact res_arr (t := 25) Try.results30 _ .u64 (w.heap.size + 1) rfl r HA7.out 4 23 Try.underlying25 HIr.out
end

end Go.Proofs.Ytkiaehehckmpnaa.Zm
