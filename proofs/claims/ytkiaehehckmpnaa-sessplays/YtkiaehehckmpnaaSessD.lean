/- The document's sessions: its table in memory; See, Begin, End, Seen, Snapshot, Writes. -/
import Derived.Test.YtkiaehehckmpnaaSessN

namespace Go.Proofs.Ytkiaehehckmpnaa.Zm

open Go.RowKit Go.Proofs.Ytkiaehehckmpnaa.Vc Go.Proofs.Ytkiaehehckmpnaa.Sp Go.Proofs.Ytkiaehehckmpnaa.Rw Go.Proofs.Ytkiaehehckmpnaa.Se Go.Proofs.Ytkiaehehckmpnaa.It Go.Proofs.Ytkiaehehckmpnaa.Z

set_option linter.unusedVariables false

set_option linter.unusedSimpArgs false

set_option maxRecDepth 100000

theorem Try.elem_dt : Try.prog.elem 36 = 35 := by kernel_rfl
theorem Try.len_dt : Try.prog.arrayLen 36 = 9 := by kernel_rfl
theorem index_dt (b i : Nat) (hi : i < 9) (w : World) : (Instr.indexAt 36 (.pointer (some ⟨b, 0, none⟩)) (.int .i64 (i : Int))).run Try.prog w = .ok (.pointer (some ⟨b, 10 * i, none⟩)) w := by
  rw [run_indexAt_array w _ _ _ _ (by rw [Try.elem_dt, Try.len_dt]; exact Try.underlying36), Try.elem_dt, Try.len_dt, if_pos ⟨by omega, by omega⟩, Try.sizeOf35]
  rw [Result.andThen_ok, Int.toNat_natCast, Nat.mul_comm, Addr.add_mid, Nat.zero_add]
/-- the document's table -/
structure DTab (w0 w : World) (d : Nat) (D : List Ss) (R : List Rg) : Prop where
  good : Z.Good D
  mem : ∃ Zv : Zs, Zv.map (·.1) = D ∧ (∀ p ∈ Zv, Nl p) ∧ Sep w0 w (R ++ tb 56 d ((nos, nil_) :: Zv))
section

variable {w0 w w' : World} {d : Nat} {D : List Ss} {R : List Rg}

theorem DTab.below (h : DTab w0 w d D R) (hb : Below w.heap.size w w') : DTab w0 w' d D R := by
  obtain ⟨Zv, h1, h2, h3⟩ := h.mem
  exact ⟨h.good, Zv, h1, h2, h3.below hb⟩
theorem DTab.sep (h : DTab w0 w d D R) : Sep w0 w R := by
  obtain ⟨Zv, h1, h2, h3⟩ := h.mem
  exact h3.sub (List.sublist_append_left _ _)
theorem DTab.box (h : DTab w0 w d D R) (hb : Below w.heap.size w w') (hz : w'.heap.size = w.heap.size + 1) {vs : List Value} (hB : Blk w' w.heap.size vs) : DTab w0 w' d D (rB w.heap.size vs :: R) := by
  obtain ⟨Zv, h1, h2, h3⟩ := h.mem
  exact ⟨h.good, Zv, h1, h2, h3.box hb hz hB⟩
theorem DTab.less {r : Rg} (h : DTab w0 w d D (r :: R)) : DTab w0 w d D R := by
  obtain ⟨Zv, h1, h2, h3⟩ := h.mem
  exact ⟨h.good, Zv, h1, h2, h3.tail⟩
/-- one session, to be worked on; and the table behind that -/
structure DAt (w0 w : World) (d : Nat) (D : List Ss) (R : List Rg) (n : Nat) (A B : List Value) (v : Value) (Y : List Rg) : Prop where
  off : A.length = 10 * n
  nl : Nl (gt D (n : Int), v)
  sep : Sep w0 w (fc 56 d A B (gt D (n : Int)) v ++ (R ++ Y))
  back : ∀ w' s' v', s'.Ok → Nl (s', v') → Sep w0 w' (fc 56 d A B s' v' ++ (R ++ Y)) → DTab w0 w' d (st D (n : Int) s') R
theorem DAt.below {n : Nat} {A B : List Value} {v : Value} {Y : List Rg} (h : DAt w0 w d D R n A B v Y) (hb : Below w.heap.size w w') : DAt w0 w' d D R n A B v Y := ⟨h.off, h.nl, h.sep.below hb, h.back⟩
theorem DTab.at (h : DTab w0 w d D R) (n : Nat) (h1 : 1 ≤ n) (h8 : n ≤ 8) : ∃ A B v Y, DAt w0 w d D R n A B v Y := by
  obtain ⟨Zv, e1, h2, h3⟩ := h.mem
  have hk : known (n : Int) = true := (known_iff _).2 (by omega)
  have hg := gt_known h.good.len hk
  rw [show ((n : Int) - 1).toNat = n - 1 by omega] at hg
  have hok := h.good.ok
  rw [← e1] at hg
  rw [List.getElem?_map] at hg
  cases e : Zv[n - 1]? with
  | none => rw [e] at hg; cases hg
  | some p =>
    rw [e] at hg
    obtain ⟨s, v⟩ := p
    have hs : s = gt D (n : Int) := by rw [← e1]; exact Option.some.inj hg
    subst hs
    obtain ⟨z1, z2⟩ := split_at e
    have hZ : ∀ p ∈ Zv, p.1.Ok := fun p hp => hok _ (by rw [← e1]; exact List.mem_map.2 ⟨p, hp, rfl⟩)
    have hi := (List.getElem?_eq_some_iff.1 e).1
    refine ⟨cT ((nos, nil_) :: Zv.take (n - 1)), cT (Zv.drop (n - 1 + 1)), v, rT 56 ((nos, nil_) :: Zv.take (n - 1)) ++ rT 56 (Zv.drop (n - 1 + 1)), ?_, h2 _ (List.mem_of_getElem? e), ?_, ?_⟩
    · rw [cT_len (fun p hp => by
        rcases List.mem_cons.1 hp with rfl | hp
        · exact nos_ok
        · exact hZ p (List.mem_of_mem_take hp)), List.length_cons, List.length_take, Nat.min_eq_left (by omega)]
      omega
    · rw [z1, ← List.cons_append] at h3
      exact focus h3
    · intro w' s' v' hs' hnl hsep
      refine ⟨h.good.st _ hs', Zv.set (n - 1) (s', v'), ?_, ?_, ?_⟩
      · rw [List.map_set, e1]
        unfold st
        rw [show ((n : Int) - 1).toNat = n - 1 by omega]
      · intro p hp
        rcases List.mem_or_eq_of_mem_set hp with h4 | h4
        · exact h2 p h4
        · rw [h4]; exact hnl
      · rw [z2, ← List.cons_append]
        exact unfocus hsep
theorem dst_same {n : Nat} (hl : D.length = 8) (h1 : 1 ≤ n) (h8 : n ≤ 8) : st D (n : Int) (gt D (n : Int)) = D := st_same hl ((known_iff _).2 (by omega))
theorem nat_of {id : Int} (h : known id = true) : ∃ n : Nat, id = (n : Int) ∧ 1 ≤ n ∧ n ≤ 8 := by
  have := (known_iff id).1 h
  exact ⟨id.toNat, by omega, by omega, by omega⟩
theorem Try.info_rv : (Try.prog.info? 32).map (fun i => (i.zero, i.size)) = some (some (AV .u64 (List.replicate 4 0)), 4) := Try.info_r
set_option maxHeartbeats 4000000 in
theorem dseen_any (h : DTab w0 w d D R) (id : Int) :
    Calls Try.prog 29 #[.pointer (some ⟨d, 0, none⟩), .int .i64 id] w fun e w' => e = .returned (AV .u64 (gt D id).seen) ∧ Below w.heap.size w w' := by
  have H := Lib.hid h
  have CK := Lib.hid (fun u => is_any id u)
  obtain ⟨l, HL⟩ : ∃ l, Hid ((gt D id).seen = l) := ⟨_, rfl⟩
  have h4 : l.length = 4 := by rw [← HL.out]; exact (gt_ok h.good.ok id).seen.1
  have HV4 : Hid ((Try.prog.info? 32).map (·.size) = some l.length) := size_r h4
  have H4 := Lib.hid h4
  cases hk : known id with
  | false =>
    rw [hk] at CK
    have hz : l = V.zeros := by rw [← HL.out, gt_none _ _ hk]; rfl
    rw [HL.out]
    subst hz
    clear h h4 hk
    go_enter Try.func29, Try.ntmps29
    go_wp2_with (first | refine arr_alloc rfl .u64 32 4 rfl Try.info_r ?_)
    intro w1 A1 B1 Z1
    have HA1 := Lib.hid A1
    have HB1 := Lib.hid B1
    clear A1 B1 Z1
    go_wp2_with fail
    refine (CK.out _).mono ?_; rintro e w2 ⟨rfl, hw⟩
    subst hw
    go_wp2_with (first | refine arr_store rfl .u64 32 _ _ rfl w.heap.size rfl V.zeros rfl _ HA1.out rfl HV4.out ?_)
    intro w3 A3 U3
    have HA3 := Lib.hid A3
    have HB3 : Hid (Below w.heap.size w w3) := HB1.out.trans (U3.below (Nat.le_refl _))
    clear A3 U3
    go_wp2_with fail
    refine bodyPost_ret ?_ rfl ⟨rfl, HB3.out⟩
    exact res_arr (t := 32) Try.results29 _ .u64 w.heap.size rfl V.zeros HA3.out 4 23 Try.underlying32 HV4.out
  | true =>
    rw [hk] at CK
    obtain ⟨n, rfl, h1, h8⟩ := nat_of hk
    rw [HL.out]
    have hix : ∀ w, (Instr.indexAt 36 (.pointer (some ⟨d, 0, none⟩)) (.int .i64 (n : Int))).run Try.prog w = .ok (.pointer (some ⟨d, 10 * n, none⟩)) w := fun w => index_dt d n (by omega) w
    have HR : Hid (∀ u, DTab w0 u d D R → u.rangeAt d (10 * n) (ks .u64 l)) := fun u hu => by
      obtain ⟨A, B, v, Y, hA⟩ := hu.at n h1 h8
      rw [← HL.out]
      exact fc_seen (fc_blk hA.sep) hA.off
    clear h h4 hk h1 h8
    go_enter Try.func29, Try.ntmps29
    go_wp2_with (first | refine arr_alloc rfl .u64 32 4 rfl Try.info_r ?_)
    intro w1 A1 B1 Z1
    have HA1 := Lib.hid A1
    have HB1 := Lib.hid B1
    have HR1 := Lib.hid (HR.out w1 (H.out.below B1))
    clear A1 B1 Z1
    go_wp2_with fail
    refine (CK.out _).mono ?_; rintro e w2 ⟨rfl, hw⟩
    subst hw
    go_wp2_with (first | refine row_load rfl .u64 32 _ rfl d (10 * n) rfl l HR1.out 4 23 Try.underlying32 HV4.out ?_ | refine arr_store rfl .u64 32 _ _ rfl w.heap.size rfl l rfl _ HA1.out (by rw [H4.out]; rfl) HV4.out ?_)
    intro w3 A3 U3
    have HA3 := Lib.hid A3
    have HB3 : Hid (Below w.heap.size w w3) := HB1.out.trans (U3.below (Nat.le_refl _))
    clear A3 U3
    go_wp2_with fail
    refine bodyPost_ret ?_ rfl ⟨rfl, HB3.out⟩
    exact res_arr (t := 32) Try.results29 _ .u64 w.heap.size rfl l HA3.out 4 23 Try.underlying32 HV4.out
set_option maxHeartbeats 4000000 in
theorem dsnap_any (h : DTab w0 w d D R) (id : Int) :
    Calls Try.prog 23 #[.pointer (some ⟨d, 0, none⟩), .int .i64 id] w fun e w' => e = .returned (.tuple #[AV .u64 (norm (gt D id)).snap, .bool (gt D id).opn]) ∧ Below w.heap.size w w' := by
  have H := Lib.hid h
  have CK := Lib.hid (fun u => is_any id u)
  obtain ⟨l, HL⟩ : ∃ l, Hid ((norm (gt D id)).snap = l) := ⟨_, rfl⟩
  obtain ⟨q, HQ⟩ : ∃ q, Hid ((gt D id).opn = q) := ⟨_, rfl⟩
  have h4 : l.length = 4 := by rw [← HL.out]; exact (norm_ok (gt_ok h.good.ok id)).snap.1
  have HV4 : Hid ((Try.prog.info? 32).map (·.size) = some l.length) := size_r h4
  have H4 := Lib.hid h4
  cases hk : known id with
  | false =>
    rw [hk] at CK
    have hz : l = V.zeros := by rw [← HL.out, gt_none _ _ hk]; rfl
    have hq : q = false := by rw [← HQ.out, gt_none _ _ hk]; rfl
    rw [HL.out, HQ.out]
    subst hz
    subst hq
    clear h h4 hk
    go_enter Try.func23, Try.ntmps23
    go_wp2_with (first | refine arr_alloc rfl .u64 32 4 rfl Try.info_r ?_)
    intro w1 A1 B1 Z1
    have HA1 := Lib.hid A1
    have HB1 := Lib.hid B1
    clear A1 B1 Z1
    go_wp2_with fail
    refine (CK.out _).mono ?_; rintro e w2 ⟨rfl, hw⟩
    subst hw
    go_wp2_with (first | refine arr_store rfl .u64 32 _ _ rfl w.heap.size rfl V.zeros rfl _ HA1.out rfl HV4.out ?_)
    intro w3 A3 U3
    have HA3 := Lib.hid A3
    have HB3 : Hid (Below w.heap.size w w3) := HB1.out.trans (U3.below (Nat.le_refl _))
    clear A3 U3
    go_wp2_with fail
    refine bodyPost_ret ?_ rfl ⟨rfl, HB3.out⟩
    exact res_arr2 (t := 32) Try.results23 _ .u64 w.heap.size rfl V.zeros HA3.out 4 23 Try.underlying32 HV4.out
  | true =>
    rw [hk] at CK
    obtain ⟨n, rfl, h1, h8⟩ := nat_of hk
    rw [HL.out, HQ.out]
    have hix : ∀ w, (Instr.indexAt 36 (.pointer (some ⟨d, 0, none⟩)) (.int .i64 (n : Int))).run Try.prog w = .ok (.pointer (some ⟨d, 10 * n, none⟩)) w := fun w => index_dt d n (by omega) w
    have HO : Hid (∀ u, DTab w0 u d D R → u.cell? ⟨d, 10 * n + 4, none⟩ = some (.bool q)) := fun u hu => by
      obtain ⟨A, B, v, Y, hA⟩ := hu.at n h1 h8
      rw [← HQ.out]
      exact fc_open (fc_blk hA.sep) (gt_ok hu.good.ok _).seen.1 hA.off
    have HR : Hid (q = true → ∀ u, DTab w0 u d D R → u.rangeAt d (10 * n + 5) (ks .u64 l)) := fun hq u hu => by
      obtain ⟨A, B, v, Y, hA⟩ := hu.at n h1 h8
      have e : norm (gt D (n : Int)) = gt D (n : Int) := by unfold norm; rw [HQ.out, hq]; rfl
      rw [← HL.out, e]
      exact fc_snap (fc_blk hA.sep) (gt_ok hu.good.ok _).seen.1 hA.off
    have HN : Hid (q = false → l = V.zeros) := fun hq => by rw [← HL.out]; unfold norm; rw [HQ.out, hq]; rfl
    clear h h4 hk h1 h8
    go_enter Try.func23, Try.ntmps23
    go_wp2_with (first | refine arr_alloc rfl .u64 32 4 rfl Try.info_r ?_)
    intro w1 A1 B1 Z1
    have HA1 := Lib.hid A1
    have HB1 := Lib.hid B1
    have HT1 := Lib.hid (H.out.below B1)
    have c4 := HO.out w1 HT1.out
    clear A1 B1 Z1
    go_wp2_with fail
    refine (CK.out _).mono ?_; rintro e w2 ⟨rfl, hw⟩
    subst hw
    cases q with
    | false =>
      obtain rfl : l = V.zeros := HN.out rfl
      go_wp2_with (first | refine arr_store rfl .u64 32 _ _ rfl w.heap.size rfl V.zeros rfl _ HA1.out rfl HV4.out ?_)
      intro w3 A3 U3
      have HA3 := Lib.hid A3
      have HB3 : Hid (Below w.heap.size w w3) := HB1.out.trans (U3.below (Nat.le_refl _))
      clear A3 U3
      go_wp2_with fail
      refine bodyPost_ret ?_ rfl ⟨rfl, HB3.out⟩
      exact res_arr2 (t := 32) Try.results23 _ .u64 w.heap.size rfl V.zeros HA3.out 4 23 Try.underlying32 HV4.out
    | true =>
      have HR1 := Lib.hid (HR.out rfl _ HT1.out)
      go_wp2_with (first | refine row_load rfl .u64 32 _ rfl d (10 * n + 5) rfl l HR1.out 4 23 Try.underlying32 HV4.out ?_ | refine arr_store rfl .u64 32 _ _ rfl w.heap.size rfl l rfl _ HA1.out (by rw [H4.out]; rfl) HV4.out ?_)
      intro w3 A3 U3
      have HA3 := Lib.hid A3
      have HB3 : Hid (Below w.heap.size w w3) := HB1.out.trans (U3.below (Nat.le_refl _))
      clear A3 U3
      go_wp2_with fail
      refine bodyPost_ret ?_ rfl ⟨rfl, HB3.out⟩
      exact res_arr2 (t := 32) Try.results23 _ .u64 w.heap.size rfl l HA3.out 4 23 Try.underlying32 HV4.out
set_option maxHeartbeats 4000000 in
theorem dwrites_any (h : DTab w0 w d D R) (id : Int) :
    Calls Try.prog 27 #[.pointer (some ⟨d, 0, none⟩), .int .i64 id] w fun e w' => ∃ v', e = .returned v' ∧ OR wk 56 w 0 v' (norm (gt D id)).wr ∧ w' = w := by
  have CK := Lib.hid (fun u => is_any id u)
  obtain ⟨L, HL⟩ : ∃ L, Hid ((norm (gt D id)).wr = L) := ⟨_, rfl⟩
  obtain ⟨q, HQ⟩ : ∃ q, Hid ((gt D id).opn = q) := ⟨_, rfl⟩
  have HN : Hid (q = false → L = []) := fun hq => by rw [← HL.out]; unfold norm; rw [HQ.out, hq]; rfl
  rw [HL.out]
  cases hk : known id with
  | false =>
    rw [hk] at CK
    have hq : q = false := by rw [← HQ.out, gt_none _ _ hk]; rfl
    obtain rfl : L = [] := HN.out hq
    clear h hk hq
    go_enter Try.func27, Try.ntmps27
    go_wp2_with fail
    refine (CK.out _).mono ?_; rintro e w2 ⟨rfl, hw⟩
    subst hw
    go_wp2_with fail
    go_ret
    exact ⟨_, rfl, OR.nil _ _ _, rfl⟩
  | true =>
    rw [hk] at CK
    obtain ⟨n, rfl, h1, h8⟩ := nat_of hk
    have hix : ∀ w, (Instr.indexAt 36 (.pointer (some ⟨d, 0, none⟩)) (.int .i64 (n : Int))).run Try.prog w = .ok (.pointer (some ⟨d, 10 * n, none⟩)) w := fun w => index_dt d n (by omega) w
    obtain ⟨A, B, v, Y, hA⟩ := h.at n h1 h8
    have hs := gt_ok h.good.ok (n : Int)
    have c4 := fc_open (fc_blk hA.sep) hs.seen.1 hA.off
    have c9 := fc_wr (fc_blk hA.sep) hs.seen.1 hs.snap.1 hA.off
    have ho := fc_or hA.sep
    rw [HQ.out] at c4
    obtain ⟨sa, cap, ev⟩ := or_slice ho
    subst ev
    have HO : Hid (q = true → OR wk 56 w 0 (.slice sa (gt D (n : Int)).wr.length cap) L) := fun hq => by
      have e : norm (gt D (n : Int)) = gt D (n : Int) := by unfold norm; rw [HQ.out, hq]; rfl
      rw [← HL.out, e]
      exact ho
    generalize (gt D (n : Int)).wr.length = m at *
    clear h hk h1 h8 hA hs ho
    go_enter Try.func27, Try.ntmps27
    go_wp2_with fail
    refine (CK.out _).mono ?_; rintro e w2 ⟨rfl, hw⟩
    subst hw
    cases q with
    | false =>
      obtain rfl : L = [] := HN.out rfl
      go_wp2_with fail
      go_ret
      exact ⟨_, rfl, OR.nil _ _ _, rfl⟩
    | true =>
      go_wp2_with fail
      go_ret
      exact ⟨_, rfl, HO.out (by first | rfl | trivial), rfl⟩
set_option maxHeartbeats 4000000 in
theorem dend_any (h : DTab w0 w d D R) (id : Int) :
    Calls Try.prog 16 #[.pointer (some ⟨d, 0, none⟩), .int .i64 id] w fun e w' => e = .returned (.int .i64 (errEnd D id)) ∧ DTab w0 w' d (shutAll D id) R := by
  have H := Lib.hid h
  have CK := Lib.hid (fun u => is_any id u)
  obtain ⟨er, HER⟩ : ∃ er, Hid (errEnd D id = er) := ⟨_, rfl⟩
  obtain ⟨D9, HD9⟩ : ∃ D9, Hid (shutAll D id = D9) := ⟨_, rfl⟩
  obtain ⟨q, HQ⟩ : ∃ q, Hid ((gt D id).opn = q) := ⟨_, rfl⟩
  rw [HER.out, HD9.out]
  have HNO : Hid (q = false → er = 5 ∧ D9 = D) := fun hq => ⟨by rw [← HER.out]; unfold errEnd; rw [HQ.out, hq]; rfl, by rw [← HD9.out]; unfold shutAll; rw [HQ.out, hq]; rfl⟩
  cases hk : known id with
  | false =>
    rw [hk] at CK
    have hq : q = false := by rw [← HQ.out, gt_none _ _ hk]; rfl
    obtain ⟨rfl, rfl⟩ := HNO.out hq
    clear h hk hq
    go_enter Try.func16, Try.ntmps16
    go_wp2_with fail
    refine (CK.out _).mono ?_; rintro e w2 ⟨rfl, hw⟩
    subst hw
    go_wp2_with fail
    go_ret
    exact ⟨rfl, H.out⟩
  | true =>
    rw [hk] at CK
    obtain ⟨n, rfl, h1, h8⟩ := nat_of hk
    have hix : ∀ w, (Instr.indexAt 36 (.pointer (some ⟨d, 0, none⟩)) (.int .i64 (n : Int))).run Try.prog w = .ok (.pointer (some ⟨d, 10 * n, none⟩)) w := fun w => index_dt d n (by omega) w
    obtain ⟨A, B, v, Y, hA⟩ := h.at n h1 h8
    have HA := Lib.hid hA
    have HS := Lib.hid (gt_ok h.good.ok (n : Int))
    have c4 := fc_open (fc_blk hA.sep) HS.out.seen.1 hA.off
    have f4 := fc_free (fc_blk hA.sep) HS.out hA.off 4 (by decide)
    rw [HQ.out] at c4
    clear h hk h1 h8 hA
    go_enter Try.func16, Try.ntmps16
    go_wp2_with fail
    refine (CK.out _).mono ?_; rintro e w2 ⟨rfl, hw⟩
    subst hw
    cases q with
    | false =>
      obtain ⟨rfl, rfl⟩ := HNO.out rfl
      go_wp2_with fail
      go_ret
      exact ⟨rfl, H.out⟩
    | true =>
      have HT : Hid (DTab w0 (w2.setCell ⟨d, 10 * n + 4, none⟩ (.bool false)) d D9 R) := by
        show DTab _ _ _ _ _
        rw [← HD9.out]
        unfold shutAll
        rw [HQ.out, if_pos rfl]
        exact HA.out.back _ _ _ (shutS_ok HS.out) (fun h9 => HA.out.nl h9) (set_open HA.out.sep HS.out HA.out.off false)
      obtain rfl : er = 0 := by rw [← HER.out]; unfold errEnd; rw [HQ.out]; rfl
      go_wp2_with fail
      go_ret
      exact ⟨rfl, HT.out⟩
set_option maxHeartbeats 8000000 in
theorem dbegin_any (h : DTab w0 w d D R) (id : Int) (l : List Nat) (hl : V.Ok l) :
    Calls Try.prog 14 #[.pointer (some ⟨d, 0, none⟩), .int .i64 id, AV .u64 l] w fun e w' => e = .returned (.int .i64 (errBeg D id l)) ∧ DTab w0 w' d (aftBeg D id l) R := by
  have H := Lib.hid h
  have HL := Lib.hid hl
  have CK := Lib.hid (fun u => is_any id u)
  have CR := Lib.hid (fun u => ref_right l u hl.1)
  have HIl := Lib.hid (size_r hl.1)
  have HV4 : Hid ((Try.prog.info? 32).map (·.size) = some (ks .u64 l).length) := by show _ = _; rw [ks_length]; exact HIl.out
  obtain ⟨er, HER⟩ : ∃ er, Hid (errBeg D id l = er) := ⟨_, rfl⟩
  obtain ⟨D9, HD9⟩ : ∃ D9, Hid (aftBeg D id l = D9) := ⟨_, rfl⟩
  rw [HER.out, HD9.out]
  clear h hl
  go_enter Try.func14, Try.ntmps14
  go_wp2_with (first | refine arr_box rfl .u64 32 _ rfl l rfl ?_)
  intro w1 A1 B1 Z1
  have HA1 := Lib.hid A1
  have HZ1 := Lib.hid Z1
  have H1 := Lib.hid (H.out.box B1 Z1 A1.blk)
  clear A1 B1 Z1
  go_wp2_with fail
  refine (CK.out _).mono ?_; rintro e w2 ⟨rfl, hw⟩
  subst hw
  cases hk : known id with
  | false =>
    have hok : okSee id l = false := by unfold okSee; rw [hk]; rfl
    obtain rfl : er = 1 := by rw [← HER.out]; unfold errBeg; rw [hok]; rfl
    obtain rfl : D9 = D := by rw [← HD9.out]; unfold aftBeg; rw [HER.out]; rfl
    go_wp2_with fail
    go_ret
    exact ⟨rfl, H1.out.less⟩
  | true =>
    go_wp2_with (first | refine arr_loadg (by rfl) .u64 32 _ rfl w.heap.size rfl l HA1.out 4 23 Try.underlying32 HIl.out ?_)
    refine (CR.out _).mono ?_; rintro e w3 ⟨rfl, hb⟩
    have H3 := Lib.hid (H1.out.below hb)
    clear hb
    cases hr : V.right l with
    | false =>
      have hok : okSee id l = false := by unfold okSee; rw [hr, Bool.and_false]
      obtain rfl : er = 1 := by rw [← HER.out]; unfold errBeg; rw [hok]; rfl
      obtain rfl : D9 = D := by rw [← HD9.out]; unfold aftBeg; rw [HER.out]; rfl
      go_wp2_with fail
      go_ret
      exact ⟨rfl, H3.out.less⟩
    | true =>
      have hok : okSee id l = true := by unfold okSee; rw [hk, hr]; rfl
      obtain ⟨n, rfl, h1, h8⟩ := nat_of hk
      have hix : ∀ w, (Instr.indexAt 36 (.pointer (some ⟨d, 0, none⟩)) (.int .i64 (n : Int))).run Try.prog w = .ok (.pointer (some ⟨d, 10 * n, none⟩)) w := fun w => index_dt d n (by omega) w
      have HIX := Lib.hid hix
      obtain ⟨A, B, v, Y, hA⟩ := H3.out.at n h1 h8
      have HA := Lib.hid hA
      have HS := Lib.hid (gt_ok H3.out.good.ok (n : Int))
      obtain ⟨q, HQ⟩ : ∃ q, Hid ((gt D (n : Int)).opn = q) := ⟨_, rfl⟩
      have c4 := fc_open (fc_blk hA.sep) HS.out.seen.1 hA.off
      have f4 := fc_free (fc_blk hA.sep) HS.out hA.off 4 (by decide)
      rw [HQ.out] at c4
      have HOK := Lib.hid hok
      clear hk hr hok h1 h8 hA
      cases q with
      | true =>
        obtain rfl : er = 6 := by rw [← HER.out]; unfold errBeg; rw [HOK.out, HQ.out]; rfl
        obtain rfl : D9 = D := by rw [← HD9.out]; unfold aftBeg; rw [HER.out]; rfl
        go_wp2_with fail
        go_ret
        exact ⟨rfl, H3.out.less⟩
      | false =>
        obtain rfl : er = 0 := by rw [← HER.out]; unfold errBeg; rw [HOK.out, HQ.out]; rfl
        have HSO := Lib.hid (sep_drew (set_open HA.out.sep HS.out HA.out.off true))
        go_wp2_with fail
        refine region_pickC (fun u => Blk u w.heap.size (ks .u64 l)) 8 [0, 1, 2, 3, 4, 5, 6] [7] Try.mixed (by kernel_rfl) rfl (by kernel_rfl) (fc_blkR HSO.out) ?_
        refine p_readC rfl ?_
        refine c_move rfl _ rfl (.pointer (some ⟨d, 0, none⟩)) rfl (fun _ _ _ h => h) (fun K hK => ?_)
        go_simp
        refine hK _ ?_
        clear hK K
        refine c_nil ?_
        refine p_readC rfl ?_
        refine c_move rfl _ rfl (.int .i64 (n : Int)) rfl (fun _ _ _ h => h) (fun K hK => ?_)
        go_simp
        refine hK _ ?_
        clear hK K
        refine c_nil ?_
        refine p_readC rfl ?_
        refine ct_mid_load rfl 32 _ rfl w.heap.size 0 rfl (ks .u64 l) (fun u hu => hu.1) _ Try.underlying32 rfl HV4.out (fun _ _ _ h => h) (fun K hK => ?_)
        go_simp
        refine hK _ ?_
        clear hK K
        refine c_nil ?_
        refine p_readC rfl ?_
        refine c_value rfl (.pointer (some ⟨d, 0, none⟩)) (fun u hu => by go_simp) (fun _ _ _ h => h) (fun K hK => ?_)
        go_simp
        refine hK _ ?_
        clear hK K
        refine c_nil ?_
        refine p_readC rfl ?_
        refine c_value rfl (.pointer (some ⟨d, 0, none⟩)) (fun u hu => by go_simp) (fun _ _ _ h => h) (fun K hK => ?_)
        go_simp
        refine hK _ ?_
        clear hK K
        refine c_nil ?_
        refine p_readC rfl ?_
        refine c_value rfl (.pointer (some ⟨d, 10 * n, none⟩)) (fun u hu => by have h9 := HIX.out u; go_simp) (fun _ _ _ h => h) (fun K hK => ?_)
        go_simp
        refine hK _ ?_
        clear hK K
        refine c_nil ?_
        refine p_readC rfl ?_
        refine c_value rfl (.pointer (some ⟨d, 10 * n + 5, none⟩)) (fun u hu => by go_simp) (fun _ _ _ h => h) (fun K hK => ?_)
        go_simp
        refine hK _ ?_
        clear hK K
        refine c_nil ?_
        refine p_nilC ?_
        refine p_stepC rfl ?_
        refine st_snap rfl 32 _ _ rfl HSO.out ⟨HS.out.seen, HS.out.snap, HS.out.len, HS.out.each⟩ HA.out.off rfl l HL.out.1 rfl Try.size_r ?_
        intro w5 h5
        have H5 := Lib.hid h5
        clear h5
        refine And.intro (fun _ => fc_blkR H5.out) ?_
        refine p_endC ?_
        have g9 := fc_wr (fc_blk H5.out) HS.out.seen.1 HL.out.1 HA.out.off
        have k9 := fc_free (fc_blk H5.out) ⟨HS.out.seen, HL.out, HS.out.len, HS.out.each⟩ HA.out.off 9 (by decide)
        have HT : Hid (DTab w0 (w5.setCell ⟨d, 10 * n + 9, none⟩ (.slice none 0 0)) d D9 (rB w.heap.size (ks .u64 l) :: R)) := by
          show DTab _ _ _ _ _
          rw [← HD9.out]
          unfold aftBeg
          rw [HER.out, if_pos rfl]
          exact HA.out.back _ _ _ (begS_ok HS.out HL.out) (fun _ => rfl) (set_nil H5.out ⟨HS.out.seen, HL.out, HS.out.len, HS.out.each⟩ HA.out.off)
        go_wp2_with fail
        go_ret
        exact ⟨rfl, HT.out.less⟩
set_option maxHeartbeats 8000000 in
theorem dsee_any (h : DTab w0 w d D R) (id : Int) (l : List Nat) (hl : V.Ok l) :
    Calls Try.prog 18 #[.pointer (some ⟨d, 0, none⟩), .int .i64 id, AV .u64 l] w fun e w' => e = .returned (.bool (okSee id l)) ∧ DTab w0 w' d (aftSee D id l) R := by
  have H := Lib.hid h
  have HL := Lib.hid hl
  have CK := Lib.hid (fun u => is_any id u)
  have CR := Lib.hid (fun u => ref_right l u hl.1)
  have HIl := Lib.hid (size_r hl.1)
  have HV4 : Hid ((Try.prog.info? 32).map (·.size) = some (ks .u64 l).length) := by show _ = _; rw [ks_length]; exact HIl.out
  obtain ⟨er, HER⟩ : ∃ er, Hid (okSee id l = er) := ⟨_, rfl⟩
  obtain ⟨D9, HD9⟩ : ∃ D9, Hid (aftSee D id l = D9) := ⟨_, rfl⟩
  rw [HER.out, HD9.out]
  clear h hl
  go_enter Try.func18, Try.ntmps18
  go_wp2_with (first | refine arr_box rfl .u64 32 _ rfl l rfl ?_)
  intro w1 A1 B1 Z1
  have HA1 := Lib.hid A1
  have HZ1 := Lib.hid Z1
  have H1 := Lib.hid (H.out.box B1 Z1 A1.blk)
  clear A1 B1 Z1
  go_wp2_with fail
  refine (CK.out _).mono ?_; rintro e w2 ⟨rfl, hw⟩
  subst hw
  cases hk : known id with
  | false =>
    have hok : okSee id l = false := by unfold okSee; rw [hk]; rfl
    obtain rfl : er = false := by rw [← HER.out]; exact hok
    obtain rfl : D9 = D := by rw [← HD9.out]; unfold aftSee; rw [hok]; rfl
    go_wp2_with fail
    go_ret
    exact ⟨rfl, H1.out.less⟩
  | true =>
    go_wp2_with (first | refine arr_loadg (by rfl) .u64 32 _ rfl w.heap.size rfl l HA1.out 4 23 Try.underlying32 HIl.out ?_)
    refine (CR.out _).mono ?_; rintro e w3 ⟨rfl, hb⟩
    have H3 := Lib.hid (H1.out.below hb)
    clear hb
    cases hr : V.right l with
    | false =>
      have hok : okSee id l = false := by unfold okSee; rw [hr, Bool.and_false]
      obtain rfl : er = false := by rw [← HER.out]; exact hok
      obtain rfl : D9 = D := by rw [← HD9.out]; unfold aftSee; rw [hok]; rfl
      go_wp2_with fail
      go_ret
      exact ⟨rfl, H3.out.less⟩
    | true =>
      have hok : okSee id l = true := by unfold okSee; rw [hk, hr]; rfl
      obtain rfl : er = true := by rw [← HER.out]; exact hok
      obtain ⟨n, rfl, h1, h8⟩ := nat_of hk
      have HIX : Hid (∀ w, (Instr.indexAt 36 (.pointer (some ⟨d, 0, none⟩)) (.int .i64 (n : Int))).run Try.prog w = .ok (.pointer (some ⟨d, 10 * n, none⟩)) w) := fun w => index_dt d n (by omega) w
      obtain ⟨A, B, v, Y, hA⟩ := H3.out.at n h1 h8
      have HAT := Lib.hid (hA.below (Below.refl _ _).drew)
      have HS := Lib.hid (gt_ok H3.out.good.ok (n : Int))
      obtain ⟨x, HX⟩ : ∃ x, Hid ((gt D (n : Int)).seen = x) := ⟨_, rfl⟩
      obtain ⟨y, HY⟩ : ∃ y, Hid (V.join x l = y) := ⟨_, rfl⟩
      have HX4 : Hid (x.length = 4) := by show _ = _; rw [← HX.out]; exact HS.out.seen.1
      have HXK : Hid ((Try.prog.info? 32).map (·.size) = some (ks .u64 x).length) := by show _ = _; rw [ks_length]; exact size_r HX4.out
      have CJ := Lib.hid (fun u => ref_join x l u HX4.out HL.out.1)
      rw [HY.out] at CJ
      have HY4 : Hid (y.length = 4) := by show _ = _; rw [← HY.out]; exact V.join_length HX4.out HL.out.1
      have HRS : Hid (∀ u, DAt w0 u d D (rB w.heap.size (ks .u64 l) :: R) n A B v Y → u.rangeAt d (10 * n) (ks .u64 x) ∧ Blk u w.heap.size (ks .u64 l)) := fun u hu => ⟨by rw [← HX.out]; exact fc_seen (fc_blk hu.sep) hu.off, fc_blkR hu.sep⟩
      have HOK := Lib.hid hok
      clear hk hr hok h1 h8 hA
      go_wp2_with fail
      refine region_tree (fun u => u.rangeAt d (10 * n) (ks .u64 x) ∧ Blk u w.heap.size (ks .u64 l)) 15 Try.mixed ?_
      refine tr_read 0 rfl (by kernel_rfl) (HRS.out _ HAT.out) ?_
      refine c_move rfl _ rfl (.pointer (some ⟨d, 0, none⟩)) rfl (fun _ _ _ h => h) (fun K hK => ?_)
      go_simp
      refine hK _ ?_
      clear hK K
      refine c_nil ?_
      refine tr_read 1 rfl (by kernel_rfl) (HRS.out _ HAT.out) ?_
      refine c_move rfl _ rfl (.int .i64 (n : Int)) rfl (fun _ _ _ h => h) (fun K hK => ?_)
      go_simp
      refine hK _ ?_
      clear hK K
      refine c_nil ?_
      refine tr_read 2 rfl (by kernel_rfl) (HRS.out _ HAT.out) ?_
      refine c_move rfl _ rfl (.pointer (some ⟨d, 0, none⟩)) rfl (fun _ _ _ h => h) (fun K hK => ?_)
      go_simp
      refine hK _ ?_
      clear hK K
      refine c_nil ?_
      refine tr_read 3 rfl (by kernel_rfl) (HRS.out _ HAT.out) ?_
      refine c_move rfl _ rfl (.int .i64 (n : Int)) rfl (fun _ _ _ h => h) (fun K hK => ?_)
      go_simp
      refine hK _ ?_
      clear hK K
      refine c_nil ?_
      refine tr_read 4 rfl (by kernel_rfl) (HRS.out _ HAT.out) ?_
      refine c_value rfl (.pointer (some ⟨d, 0, none⟩)) (fun u hu => by go_simp) (fun _ _ _ h => h) (fun K hK => ?_)
      go_simp
      refine hK _ ?_
      clear hK K
      refine c_nil ?_
      refine tr_read 5 rfl (by kernel_rfl) (HRS.out _ HAT.out) ?_
      refine c_value rfl (.pointer (some ⟨d, 0, none⟩)) (fun u hu => by go_simp) (fun _ _ _ h => h) (fun K hK => ?_)
      go_simp
      refine hK _ ?_
      clear hK K
      refine c_nil ?_
      refine tr_read 6 rfl (by kernel_rfl) (HRS.out _ HAT.out) ?_
      refine c_value rfl (.pointer (some ⟨d, 10 * n, none⟩)) (fun u hu => by have h9 := HIX.out u; go_simp) (fun _ _ _ h => h) (fun K hK => ?_)
      go_simp
      refine hK _ ?_
      clear hK K
      refine c_nil ?_
      refine tr_read 7 rfl (by kernel_rfl) (HRS.out _ HAT.out) ?_
      refine c_value rfl (.pointer (some ⟨d, 10 * n, none⟩)) (fun u hu => by go_simp) (fun _ _ _ h => h) (fun K hK => ?_)
      go_simp
      refine hK _ ?_
      clear hK K
      refine c_nil ?_
      refine tr_read 8 rfl (by kernel_rfl) (HRS.out _ HAT.out) ?_
      refine ct_mid_load rfl 32 _ rfl d (10 * n) rfl (ks .u64 x) (fun u hu => hu.1) _ Try.underlying32 rfl HXK.out (fun _ _ _ h => h) (fun K hK => ?_)
      go_simp
      refine hK _ ?_
      clear hK K
      refine c_nil ?_
      refine tr_read 9 rfl (by kernel_rfl) (HRS.out _ HAT.out) ?_
      refine ct_mid_load rfl 32 _ rfl w.heap.size 0 rfl (ks .u64 l) (fun u hu => hu.2.1) _ Try.underlying32 rfl HV4.out (fun _ _ _ h => h) (fun K hK => ?_)
      go_simp
      refine hK _ ?_
      clear hK K
      refine c_nil ?_
      refine tr_two 10 11 rfl rfl (by kernel_rfl) ?_ ?_
      · skip
        go_wp2_with (go_at_call 48; refine (CJ.out _).mono ?_; rintro e w5 ⟨rfl, hb⟩)
        have HA5 := Lib.hid (HAT.out.below hb)
        clear hb
        refine And.intro (fun _ => HRS.out _ HA5.out) ?_
        refine tr_one 11 rfl (by kernel_rfl) ?_
        go_wp2_with fail
        refine And.intro (fun _ => HRS.out _ HA5.out) ?_
        refine tr_one 12 rfl (by kernel_rfl) ?_
        go_wp2_with fail
        refine And.intro (fun _ => HRS.out _ HA5.out) ?_
        refine tr_one 13 rfl (by kernel_rfl) ?_
        have h9 := HIX.out
        go_wp2_with fail
        clear h9
        refine And.intro (fun _ => HRS.out _ HA5.out) ?_
        refine tr_one 14 rfl (by kernel_rfl) ?_
        go_wp2_with fail
        refine And.intro (fun _ => HRS.out _ HA5.out) ?_
        refine tr_one 15 rfl (by kernel_rfl) ?_
        refine st_seen rfl 32 _ _ rfl HA5.out.sep HS.out HA5.out.off rfl y HY4.out rfl Try.size_r ?_
        intro w6 hs
        have HT : Hid (DTab w0 w6 d D9 R) := by
          show DTab _ _ _ _ _
          rw [← HD9.out]
          unfold aftSee
          rw [if_pos HOK.out]
          have e : seeS (gt D (n : Int)) l = { gt D (n : Int) with seen := y } := by unfold seeS; rw [HX.out, HY.out]
          exact (HA5.out.back w6 (seeS (gt D (n : Int)) l) v (seeS_ok HS.out HL.out) (fun h9 => HA5.out.nl h9) (by rw [e]; exact hs)).less
        clear hs
        refine And.intro (fun h9 => absurd h9 (by decide)) ?_
        refine tr_end (by kernel_rfl) ?_
        go_wp2_with fail
        go_ret
        exact ⟨rfl, HT.out⟩
      · skip
        go_wp2_with fail
        refine And.intro (fun _ => HRS.out _ HAT.out) ?_
        refine tr_two 10 12 rfl rfl (by kernel_rfl) ?_ ?_
        · skip
          go_wp2_with (go_at_call 48; refine (CJ.out _).mono ?_; rintro e w5 ⟨rfl, hb⟩)
          have HA5 := Lib.hid (HAT.out.below hb)
          clear hb
          refine And.intro (fun _ => HRS.out _ HA5.out) ?_
          refine tr_one 12 rfl (by kernel_rfl) ?_
          go_wp2_with fail
          refine And.intro (fun _ => HRS.out _ HA5.out) ?_
          refine tr_one 13 rfl (by kernel_rfl) ?_
          have h9 := HIX.out
          go_wp2_with fail
          clear h9
          refine And.intro (fun _ => HRS.out _ HA5.out) ?_
          refine tr_one 14 rfl (by kernel_rfl) ?_
          go_wp2_with fail
          refine And.intro (fun _ => HRS.out _ HA5.out) ?_
          refine tr_one 15 rfl (by kernel_rfl) ?_
          refine st_seen rfl 32 _ _ rfl HA5.out.sep HS.out HA5.out.off rfl y HY4.out rfl Try.size_r ?_
          intro w6 hs
          have HT : Hid (DTab w0 w6 d D9 R) := by
            show DTab _ _ _ _ _
            rw [← HD9.out]
            unfold aftSee
            rw [if_pos HOK.out]
            have e : seeS (gt D (n : Int)) l = { gt D (n : Int) with seen := y } := by unfold seeS; rw [HX.out, HY.out]
            exact (HA5.out.back w6 (seeS (gt D (n : Int)) l) v (seeS_ok HS.out HL.out) (fun h9 => HA5.out.nl h9) (by rw [e]; exact hs)).less
          clear hs
          refine And.intro (fun h9 => absurd h9 (by decide)) ?_
          refine tr_end (by kernel_rfl) ?_
          go_wp2_with fail
          go_ret
          exact ⟨rfl, HT.out⟩
        · skip
          go_wp2_with fail
          refine And.intro (fun _ => HRS.out _ HAT.out) ?_
          refine tr_one 10 rfl (by kernel_rfl) ?_
          go_wp2_with (go_at_call 48; refine (CJ.out _).mono ?_; rintro e w5 ⟨rfl, hb⟩)
          have HA5 := Lib.hid (HAT.out.below hb)
          clear hb
          refine And.intro (fun _ => HRS.out _ HA5.out) ?_
          refine tr_one 13 rfl (by kernel_rfl) ?_
          have h9 := HIX.out
          go_wp2_with fail
          clear h9
          refine And.intro (fun _ => HRS.out _ HA5.out) ?_
          refine tr_one 14 rfl (by kernel_rfl) ?_
          go_wp2_with fail
          refine And.intro (fun _ => HRS.out _ HA5.out) ?_
          refine tr_one 15 rfl (by kernel_rfl) ?_
          refine st_seen rfl 32 _ _ rfl HA5.out.sep HS.out HA5.out.off rfl y HY4.out rfl Try.size_r ?_
          intro w6 hs
          have HT : Hid (DTab w0 w6 d D9 R) := by
            show DTab _ _ _ _ _
            rw [← HD9.out]
            unfold aftSee
            rw [if_pos HOK.out]
            have e : seeS (gt D (n : Int)) l = { gt D (n : Int) with seen := y } := by unfold seeS; rw [HX.out, HY.out]
            exact (HA5.out.back w6 (seeS (gt D (n : Int)) l) v (seeS_ok HS.out HL.out) (fun h9 => HA5.out.nl h9) (by rw [e]; exact hs)).less
          clear hs
          refine And.intro (fun h9 => absurd h9 (by decide)) ?_
          refine tr_end (by kernel_rfl) ?_
          go_wp2_with fail
          go_ret
          exact ⟨rfl, HT.out⟩
end

end Go.Proofs.Ytkiaehehckmpnaa.Zm
