/- sess: what one session's calls do: begin, end, put, pick. -/
import Derived.Test.YtkiaehehckmpnaaSessW

namespace Go.Proofs.Ytkiaehehckmpnaa.Zm

open Go.RowKit Go.Proofs.Ytkiaehehckmpnaa.Vc Go.Proofs.Ytkiaehehckmpnaa.Sp Go.Proofs.Ytkiaehehckmpnaa.Rw Go.Proofs.Ytkiaehehckmpnaa.Se Go.Proofs.Ytkiaehehckmpnaa.It Go.Proofs.Ytkiaehehckmpnaa.Z

set_option linter.unusedVariables false

set_option linter.unusedSimpArgs false

set_option maxRecDepth 100000

section

variable {w0 w : World} {g o : Nat} {A B : List Value} {s : Ss} {v : Value} {R : List Rg}

set_option maxHeartbeats 4000000 in
theorem begin_any (h : Sep w0 w (fc 41 g A B s v ++ R)) (hs : s.Ok) (hsh : Z.Shut s) (ho : A.length = o) (l : List Nat) (hl : V.Ok l) :
    Calls Try.prog 44 #[.pointer (some ⟨g, o, none⟩), AV .u64 l] w fun e w' => e = .returned (.int .i64 (if s.opn = true then 6 else 0)) ∧ Sep w0 w' (fc 41 g A B (if s.opn = true then s else begS s l) v ++ R) := by
  have H := Lib.hid h
  have HS := Lib.hid hs
  have HO := Lib.hid ho
  have HL := Lib.hid hl.1
  have HIl := Lib.hid (size_v hl.1)
  have HSH := Lib.hid hsh
  have HV4 : Hid ((Try.prog.info? 25).map (·.size) = some (ks .u64 l).length) := by show _ = _; rw [ks_length]; exact HIl.out
  clear h hs ho hl hsh
  obtain ⟨q, HQ⟩ : ∃ q, Hid (s.opn = q) := ⟨_, rfl⟩
  obtain ⟨er, HER⟩ : ∃ er : Int, Hid ((if s.opn = true then 6 else 0) = er) := ⟨_, rfl⟩
  obtain ⟨s9, HS9⟩ : ∃ s9, Hid ((if s.opn = true then s else begS s l) = s9) := ⟨_, rfl⟩
  rw [HER.out, HS9.out]
  rw [HQ.out] at HER HS9
  go_enter Try.func44, Try.ntmps44
  go_wp2_with (first | refine blk_box rfl 25 _ rfl (ks .u64 l) rfl ?_)
  intro w1 A1 B1 Z1
  have H1 := Lib.hid (fc_box H.out B1 Z1 A1)
  clear A1 B1 Z1
  have c4 := fc_open (fc_blk H1.out) HS.out.seen.1 HO.out
  rw [HQ.out] at c4
  cases q with
  | true =>
    obtain rfl : er = 6 := by rw [← HER.out]; rfl
    obtain rfl : s9 = s := by rw [← HS9.out]; rfl
    go_wp2_with fail
    go_ret
    exact ⟨rfl, fc_drop H1.out⟩
  | false =>
    obtain rfl : er = 0 := by rw [← HER.out]; rfl
    obtain rfl : s9 = begS s l := by rw [← HS9.out]; rfl
    have f4 := fc_free (fc_blk H1.out) HS.out HO.out 4 (by decide)
    have HD := Lib.hid (sep_drew H1.out)
    go_wp2_with fail
    refine region_pickC (fun u => Blk u w.heap.size (ks .u64 l)) 9 [0, 1, 2, 3, 4] [5, 6, 7, 8] Try.mixed (by kernel_rfl) rfl (by kernel_rfl) (fc_blkR HD.out) ?_
    refine p_readC rfl ?_
    refine c_move rfl _ rfl (.pointer (some ⟨g, o, none⟩)) rfl (fun _ _ _ h => h) (fun K hK => ?_)
    go_simp
    refine hK _ ?_
    clear hK K
    refine c_nil ?_
    refine p_readC rfl ?_
    refine c_move rfl _ rfl (.pointer (some ⟨g, o, none⟩)) rfl (fun _ _ _ h => h) (fun K hK => ?_)
    go_simp
    refine hK _ ?_
    clear hK K
    refine c_nil ?_
    refine p_readC rfl ?_
    refine ct_mid_load rfl 25 _ rfl w.heap.size 0 rfl (ks .u64 l) (fun u hu => hu.1) _ Try.underlying25 rfl HV4.out (fun _ _ _ h => h) (fun K hK => ?_)
    go_simp
    refine hK _ ?_
    clear hK K
    refine c_nil ?_
    refine p_readC rfl ?_
    refine c_value rfl (.pointer (some ⟨g, o, none⟩)) (fun u hu => by go_simp) (fun _ _ _ h => h) (fun K hK => ?_)
    go_simp
    refine hK _ ?_
    clear hK K
    refine c_nil ?_
    refine p_readC rfl ?_
    refine c_value rfl (.pointer (some ⟨g, o + 4, none⟩)) (fun u hu => by go_simp) (fun _ _ _ h => h) (fun K hK => ?_)
    go_simp
    refine hK _ ?_
    clear hK K
    refine c_nil ?_
    refine p_nilC ?_
    refine p_stepC rfl ?_
    have d4 : w1.drew.cell? ⟨g, o + 4, none⟩ = some (.bool false) := by have := fc_open (fc_blk HD.out) HS.out.seen.1 HO.out; rw [HQ.out] at this; exact this
    have e4 : w1.drew.frozen? ⟨g, o + 4, none⟩ = false := fc_free (fc_blk HD.out) HS.out HO.out 4 (by decide)
    have HE := Lib.hid (set_open HD.out HS.out HO.out true)
    go_wp2_with fail
    refine And.intro (fun _ => fc_blkR HE.out) ?_
    refine p_stepC rfl ?_
    go_wp2_with fail
    refine And.intro (fun _ => fc_blkR HE.out) ?_
    refine p_stepC rfl ?_
    go_wp2_with fail
    refine And.intro (fun _ => fc_blkR HE.out) ?_
    refine p_stepC rfl ?_
    refine st_snap rfl 25 _ _ rfl HE.out ⟨HS.out.seen, HS.out.snap, HS.out.len, HS.out.each⟩ HO.out rfl l HL.out rfl Try.size_v ?_
    intro w3 h3
    have H3 := Lib.hid (fc_drop h3)
    have HB3 := Lib.hid (fc_blkR h3)
    clear h3
    go_wp2_with fail
    refine And.intro (HB3.out) ?_
    refine p_endC ?_
    go_wp2_with fail
    go_ret
    refine ⟨rfl, ?_⟩
    have hwr := (HSH.out HQ.out).2
    have e : begS s l = { ({ s with opn := true } : Ss) with snap := l } := by unfold begS; rw [← hwr]
    rw [e]
    exact H3.out
set_option maxHeartbeats 4000000 in
theorem end_any (h : Sep w0 w (fc 41 g A B s v ++ R)) (hs : s.Ok) (ho : A.length = o) :
    Calls Try.prog 47 #[.pointer (some ⟨g, o, none⟩)] w fun e w' => e = .returned (.int .i64 (if s.opn = true then 0 else 5)) ∧ Sep w0 w' (fc 41 g A B (if s.opn = true then endS s else s) (if s.opn = true then nil_ else v) ++ R) := by
  have H := Lib.hid h
  have HS := Lib.hid hs
  have HO := Lib.hid ho
  obtain ⟨x0, x1, x2, x3, hx⟩ := V.four hs.seen.1
  have HX := Lib.hid hx
  have c4 := fc_open (fc_blk h) hs.seen.1 ho
  have HR := Lib.hid (fc_seen (fc_blk h) ho)
  rw [hx] at HR
  change Hid (w.rangeAt g o [Value.int .u64 (x0 : Int), .int .u64 (x1 : Int), .int .u64 (x2 : Int), .int .u64 (x3 : Int)]) at HR
  obtain ⟨q, HQ⟩ : ∃ q, Hid (s.opn = q) := ⟨_, rfl⟩
  obtain ⟨er, HER⟩ : ∃ er : Int, Hid ((if s.opn = true then 0 else 5) = er) := ⟨_, rfl⟩
  obtain ⟨s9, HS9⟩ : ∃ s9, Hid ((if s.opn = true then endS s else s) = s9) := ⟨_, rfl⟩
  obtain ⟨v9, HV9⟩ : ∃ v9, Hid ((if s.opn = true then nil_ else v) = v9) := ⟨_, rfl⟩
  rw [HER.out, HS9.out, HV9.out]
  rw [HQ.out] at HER HS9 HV9 c4
  clear h hs ho hx
  go_enter Try.func47, Try.ntmps47
  cases q with
  | false =>
    obtain rfl : er = 5 := by rw [← HER.out]; rfl
    obtain rfl : s9 = s := by rw [← HS9.out]; rfl
    obtain rfl : v9 = v := by rw [← HV9.out]; rfl
    go_wp2_with fail
    go_ret
    exact ⟨rfl, H.out⟩
  | true =>
    obtain rfl : er = 0 := by rw [← HER.out]; rfl
    obtain rfl : s9 = endS s := by rw [← HS9.out]; rfl
    obtain rfl : v9 = nil_ := by rw [← HV9.out]; rfl
    have hes : endS s = ⟨[x0, x1, x2, x3], false, V.zeros, []⟩ := by unfold endS; rw [HX.out]
    have HE := Lib.hid hes
    clear hes
    go_wp2_with (first | refine mid_load rfl 25 _ rfl g o rfl [Value.int .u64 (x0 : Int), .int .u64 (x1 : Int), .int .u64 (x2 : Int), .int .u64 (x3 : Int)] HR.out _ Try.underlying25 rfl Try.size_v ?_ | refine st_whole rfl 92 _ _ rfl H.out HS.out HO.out rfl ⟨[x0, x1, x2, x3], false, V.zeros, []⟩ (by rw [← HE.out]; exact endS_ok HS.out) rfl rfl Try.size_one ?_)
    intro w2 h2
    have H2 := Lib.hid h2
    clear h2
    go_wp2_with fail
    go_ret
    rw [HE.out]
    exact ⟨rfl, H2.out⟩
theorem ixw {L : List I.Wt} {k : ByteArray × ByteArray} {r : Int} (h : IxW (fun x => decide (I.key x = k)) L r) : (r = -1 ∧ ix L k = L.length) ∨ (r = (ix L k : Int) ∧ ix L k < L.length) := by
  rcases h with ⟨rfl, h1⟩ | ⟨i, rfl, hi, h1, h2⟩
  · exact .inl ⟨rfl, ix_none h1⟩
  · have e := ix_of hi h1 h2
    rw [e]
    exact .inr ⟨rfl, hi⟩
/-- where the key stands -/
theorem where_any (h : OR wk 41 w 0 v s.wr) (hs : s.Ok) (bk ky : ByteArray) (p q : Nat) (hp : Blk w p [.string bk]) (hq : Blk w q [.string ky]) (hpl : p < w.heap.size) (hql : q < w.heap.size) :
    Calls Try.prog 63 #[v, .func (.func 65) #[] #[.pointer (some ⟨p, 0, none⟩), .pointer (some ⟨q, 0, none⟩)]] w fun e w' => ∃ r, e = .returned (.int .i64 r) ∧ ((r = -1 ∧ ix s.wr (bk, ky) = s.wr.length) ∨ (r = (ix s.wr (bk, ky) : Int) ∧ ix s.wr (bk, ky) < s.wr.length)) ∧ Below w.heap.size w w' := by
  refine (indexW _ _ (fun x => decide (I.key x = (bk, ky))) v s.wr w h.is (by have := hs.len; omega) (fun x hx u hu => named_is x bk ky p q u (hp.below hu hpl) (hq.below hu hql) (Nat.lt_of_lt_of_le hpl hu.size) (Nat.lt_of_lt_of_le hql hu.size))).mono ?_
  rintro e w' ⟨r, he, hr, hb⟩
  exact ⟨r, he, ixw hr, hb⟩
theorem or_slice {t : TypeId} {base : Nat} {L : List I.Wt} (h : OR wk t w base v L) : ∃ sa cap, v = .slice sa L.length cap := by
  obtain ⟨a, c, hv, _⟩ := h.is.is
  exact ⟨a, c, hv⟩
set_option maxHeartbeats 4000000 in
theorem pick_any (h : Sep w0 w (fc 41 g A B s v ++ R)) (hs : s.Ok) (ho : A.length = o) (bk ky : ByteArray) (p q : Nat) (hp : Blk w p [.string bk]) (hq : Blk w q [.string ky]) (hpl : p < w.heap.size) (hql : q < w.heap.size) :
    Calls Try.prog 53 #[.pointer (some ⟨g, o, none⟩), .func (.func 65) #[] #[.pointer (some ⟨p, 0, none⟩), .pointer (some ⟨q, 0, none⟩)]] w fun e w' => e = .returned (.tuple #[WV (ownV s.wr (bk, ky)), .bool (ownB s.wr (bk, ky))]) ∧ Below w.heap.size w w' := by
  have CW := Lib.hid (fun (u : World) (hu : OR wk 41 u 0 v s.wr) (h1 : Blk u p [.string bk]) (h2 : Blk u q [.string ky]) (h3 : p < u.heap.size) (h4 : q < u.heap.size) => where_any hu hs bk ky p q h1 h2 h3 h4)
  obtain ⟨sa, cap, ev⟩ := or_slice (fc_or h)
  subst ev
  have H := Lib.hid h
  have HS := Lib.hid hs
  have HO := Lib.hid ho
  have HP := Lib.hid hp
  have HQ := Lib.hid hq
  have HPL := Lib.hid hpl
  have HQL := Lib.hid hql
  obtain ⟨n, HN⟩ : ∃ n, Hid (s.wr.length = n) := ⟨_, rfl⟩
  obtain ⟨i, HI⟩ : ∃ i, Hid (ix s.wr (bk, ky) = i) := ⟨_, rfl⟩
  obtain ⟨y, HY⟩ : ∃ y, Hid (ownV s.wr (bk, ky) = y) := ⟨_, rfl⟩
  obtain ⟨b, HB⟩ : ∃ b, Hid (ownB s.wr (bk, ky) = b) := ⟨_, rfl⟩
  have c9 := fc_wr (fc_blk h) hs.seen.1 hs.snap.1 ho
  rw [HY.out, HB.out]
  rw [HN.out] at c9 H CW
  rw [HI.out] at CW
  clear h hs ho hp hq hpl hql
  go_enter Try.func53, Try.ntmps53
  go_wp2_with (first | refine blk_alloc rfl 41 (wc I.none_) rfl It.Try.info_iw2 ?_)
  intro w1 A1 B1 Z1
  have H1 := Lib.hid (fc_box H.out B1 Z1 A1)
  have HB1 := Lib.hid B1
  have HZ1 := Lib.hid Z1
  have c9 := fc_wr (fc_blk H1.out) HS.out.seen.1 HS.out.snap.1 HO.out
  have CC := Lib.hid (CW.out w1 (fc_or H1.out) (HP.out.below B1 HPL.out) (HQ.out.below B1 HQL.out) (Nat.lt_of_lt_of_le HPL.out B1.size) (Nat.lt_of_lt_of_le HQL.out B1.size))
  clear A1 B1 Z1 CW
  go_wp2_with fail
  refine CC.out.mono ?_; rintro e w2 ⟨r, rfl, hr, hb⟩
  have H2 := Lib.hid (H1.out.below hb)
  have HB2 := Lib.hid (HB1.out.trans (hb.mono HB1.out.size))
  clear hb CC c9
  have c9 := fc_wr (fc_blk H2.out) HS.out.seen.1 HS.out.snap.1 HO.out
  rcases hr with ⟨rfl, hr⟩ | ⟨rfl, hr⟩
  · obtain rfl : b = false := by rw [← HB.out]; unfold ownB; rw [HI.out, HN.out, hr]; simp
    obtain rfl : y = I.none_ := by rw [← HY.out]; unfold ownV; rw [HI.out, hr, ← HN.out]; simp
    clear hr
    go_wp2_with (first | refine blk_load rfl 41 _ rfl w.heap.size rfl (wc I.none_) (fc_blkR H2.out) _ Try.underlying41 rfl It.Try.size_w ?_ | refine blk_store rfl 41 _ _ rfl w.heap.size rfl (wc I.none_) rfl (wc I.none_) (fc_blkR H2.out) rfl It.Try.size_w (It.one_wc I.none_) ?_)
    intro w3 A3 U3
    have HA3 := Lib.hid A3
    have HB3 : Hid (Below w.heap.size w w3) := HB2.out.trans (U3.below (Nat.le_refl _))
    clear A3 U3
    go_wp2_with fail
    refine bodyPost_ret ?_ rfl ⟨rfl, HB3.out⟩
    exact res_blk2 (t := 41) Try.results53 _ w.heap.size rfl (wc I.none_) HA3.out _ Try.underlying41 rfl It.Try.size_w
  · obtain rfl : b = true := by rw [← HB.out]; unfold ownB; rw [HI.out, HN.out]; simp [hr]
    have HY0 : Hid (s.wr.getD i I.none_ = y) := by show _ = _; rw [← HY.out]; unfold ownV; rw [HI.out]
    obtain ⟨gg, off, cap', hv, hg0, hrow⟩ := IsR.at (fc_or H2.out).is i (by rw [HN.out]; exact hr)
    obtain rfl : sa = some ⟨gg, off, none⟩ := by injection hv
    clear hv
    have hrow : w2.rangeAt gg (off + 4 * i) (wc (s.wr.getD i I.none_)) := hrow
    rw [HY0.out] at hrow
    have HRR := Lib.hid hrow
    have hix : ∀ w, (Instr.indexAt 58 (.slice (some ⟨gg, off, none⟩) n cap) (.int .i64 (i : Int))).run Try.prog w = .ok (.pointer (some ⟨gg, off + 4 * i, none⟩)) w := fun w => index_iw gg off n cap i hr w
    have h0 : ¬ ((i : Int) < 0) := by omega
    clear hrow hr hg0
    go_wp2_with (first | refine mid_load rfl 41 _ rfl gg (off + 4 * i) rfl (wc y) HRR.out _ Try.underlying41 rfl It.Try.size_w ?_ | refine blk_store rfl 41 _ _ rfl w.heap.size rfl (wc y) rfl (wc I.none_) (fc_blkR H2.out) rfl It.Try.size_w (It.one_wc y) ?_)
    intro w3 A3 U3
    have HA3 := Lib.hid A3
    have HB3 : Hid (Below w.heap.size w w3) := HB2.out.trans (U3.below (Nat.le_refl _))
    clear A3 U3
    go_wp2_with fail
    refine bodyPost_ret ?_ rfl ⟨rfl, HB3.out⟩
    exact res_blk2 (t := 41) Try.results53 _ w.heap.size rfl (wc y) HA3.out _ Try.underlying41 rfl It.Try.size_w
end

end Go.Proofs.Ytkiaehehckmpnaa.Zm
