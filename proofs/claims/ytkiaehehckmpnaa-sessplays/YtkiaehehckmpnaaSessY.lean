/- sess: what turns the table: See, Write. -/
import Derived.Test.YtkiaehehckmpnaaSessV

namespace Go.Proofs.Ytkiaehehckmpnaa.Zm

open Go.RowKit Go.Proofs.Ytkiaehehckmpnaa.Vc Go.Proofs.Ytkiaehehckmpnaa.Sp Go.Proofs.Ytkiaehehckmpnaa.Rw Go.Proofs.Ytkiaehehckmpnaa.Se Go.Proofs.Ytkiaehehckmpnaa.It Go.Proofs.Ytkiaehehckmpnaa.Z

set_option linter.unusedVariables false

set_option linter.unusedSimpArgs false

set_option maxRecDepth 100000

section

variable {w0 w : World} {b : Nat} {S : List Ss} {R : List Rg}

set_option maxHeartbeats 8000000 in
theorem tsee_any (h : Tab w0 w b S R) (id : Int) (l : List Nat) (hl : V.Ok l) :
    Calls Try.prog 17 #[.pointer (some ⟨b, 0, none⟩), .int .i64 id, AV .u64 l] w fun e w' => e = .returned (.bool (okSee id l)) ∧ Tab w0 w' b (aftSee S id l) R := by
  have H := Lib.hid h
  have HS := Lib.hid (gt_ok h.good.ok id)
  have HSH := Lib.hid (gt_shut h.shut id)
  have HL := Lib.hid hl
  have CK := Lib.hid (fun u => sknown_any id u)
  have CR := Lib.hid (fun u => right_any l u hl.1)
  have HIl := Lib.hid (size_v hl.1)
  have HV4 : Hid ((Try.prog.info? 25).map (·.size) = some (ks .u64 l).length) := by show _ = _; rw [ks_length]; exact HIl.out
  obtain ⟨er, HER⟩ : ∃ er, Hid (okSee id l = er) := ⟨_, rfl⟩
  obtain ⟨S9, HS9⟩ : ∃ S9, Hid (aftSee S id l = S9) := ⟨_, rfl⟩
  obtain ⟨x, HX⟩ : ∃ x, Hid ((gt S id).seen = x) := ⟨_, rfl⟩
  obtain ⟨y, HY⟩ : ∃ y, Hid (V.join x l = y) := ⟨_, rfl⟩
  have HX4 : Hid (x.length = 4) := by show _ = _; rw [← HX.out]; exact HS.out.seen.1
  have HXK : Hid ((Try.prog.info? 25).map (·.size) = some (ks .u64 x).length) := by show _ = _; rw [ks_length]; exact size_v HX4.out
  have CJ := Lib.hid (fun u => join_any x l u HX4.out hl.1)
  rw [HY.out] at CJ
  have HY4 : Hid (y.length = 4) := by show _ = _; rw [← HY.out]; exact V.join_length HX4.out hl.1
  rw [HER.out, HS9.out]
  clear h hl
  go_enter Try.func17, Try.ntmps17
  go_wp2_with (first | refine arr_box rfl .u64 25 _ rfl l rfl ?_)
  intro w1 A1 B1 Z1
  have HA1 := Lib.hid A1
  have HZ1 := Lib.hid Z1
  have H1 := Lib.hid (H.out.box B1 Z1 A1.blk)
  clear A1 B1 Z1
  go_wp2_with fail
  refine (CK.out _).mono ?_; rintro e w2 ⟨rfl, hw⟩
  subst hw
  cases hk : known id with
  | false =>
    have hok : okSee id l = false := by unfold okSee; rw [hk]; rfl
    obtain rfl : er = false := by rw [← HER.out]; exact hok
    obtain rfl : S9 = S := by rw [← HS9.out]; unfold aftSee; rw [hok]; rfl
    go_wp2_with fail
    go_ret
    exact ⟨rfl, H1.out.less⟩
  | true =>
    go_wp2_with (first | refine arr_loadg (by rfl) .u64 25 _ rfl w.heap.size rfl l HA1.out 4 23 Try.underlying25 HIl.out ?_)
    refine (CR.out _).mono ?_; rintro e w3 ⟨rfl, hb⟩
    have H3 := Lib.hid (H1.out.below hb)
    have HA3 : Hid (Arr .u64 w3 w.heap.size l) := HA1.out.below hb (by rw [HZ1.out]; omega)
    have HZ3 : Hid (w.heap.size < w3.heap.size) := by show _ < _; have := hb.size; have := HZ1.out; omega
    clear hb
    cases hr : V.right l with
    | false =>
      have hok : okSee id l = false := by unfold okSee; rw [hr, Bool.and_false]
      obtain rfl : er = false := by rw [← HER.out]; exact hok
      obtain rfl : S9 = S := by rw [← HS9.out]; unfold aftSee; rw [hok]; rfl
      go_wp2_with fail
      go_ret
      exact ⟨rfl, H3.out.less⟩
    | true =>
      have hok : okSee id l = true := by unfold okSee; rw [hk, hr]; rfl
      obtain rfl : er = true := by rw [← HER.out]; exact hok
      have HK := Lib.hid hk
      have HOK := Lib.hid hok
      have CF := Lib.hid (find_any H3.out id)
      clear hk hr hok
      go_wp2_with fail
      refine (CF.out).mono ?_; rintro e w4 ⟨g, o, A, B, v, X, rfl, hA, hb, -⟩
      have HAT := Lib.hid (hA.below (Below.refl _ _).drew)
      have HAD : Hid (Blk w4.drew w.heap.size (ks .u64 l)) := (HA3.out.blk.below hb HZ3.out).drew
      have HZ4 : Hid (w.heap.size < w4.drew.heap.size) := Nat.lt_of_lt_of_le HZ3.out hb.size
      have HRS : Hid (w4.drew.rangeAt g o (ks .u64 x)) := by show World.rangeAt _ _ _ _; rw [← HX.out]; exact fc_seen (fc_blk HAT.out.sep) HAT.out.off
      clear hA hb CF
      go_wp2_with fail
      refine region_pickC (fun u => u.rangeAt g o (ks .u64 x) ∧ Blk u w.heap.size (ks .u64 l)) 9 [0, 1, 2, 3, 4, 5] [6, 7, 8, 9] Try.mixed (by kernel_rfl) rfl (by kernel_rfl) ⟨HRS.out, HAD.out⟩ ?_
      refine p_readC rfl ?_
      refine c_move rfl _ rfl (.pointer (some ⟨g, o, none⟩)) rfl (fun _ _ _ h => h) (fun K hK => ?_)
      go_simp
      refine hK _ ?_
      clear hK K
      refine c_nil ?_
      refine p_readC rfl ?_
      refine c_move rfl _ rfl (.pointer (some ⟨g, o, none⟩)) rfl (fun _ _ _ h => h) (fun K hK => ?_)
      go_simp
      refine hK _ ?_
      clear hK K
      refine c_nil ?_
      refine p_readC rfl ?_
      refine c_value rfl (.pointer (some ⟨g, o, none⟩)) (fun u hu => by go_simp) (fun _ _ _ h => h) (fun K hK => ?_)
      go_simp
      refine hK _ ?_
      clear hK K
      refine c_nil ?_
      refine p_readC rfl ?_
      refine c_value rfl (.pointer (some ⟨g, o, none⟩)) (fun u hu => by go_simp) (fun _ _ _ h => h) (fun K hK => ?_)
      go_simp
      refine hK _ ?_
      clear hK K
      refine c_nil ?_
      refine p_readC rfl ?_
      refine ct_mid_load rfl 25 _ rfl g o rfl (ks .u64 x) (fun u hu => hu.1) _ Try.underlying25 rfl HXK.out (fun _ _ _ h => h) (fun K hK => ?_)
      go_simp
      refine hK _ ?_
      clear hK K
      refine c_nil ?_
      refine p_readC rfl ?_
      refine ct_mid_load rfl 25 _ rfl w.heap.size 0 rfl (ks .u64 l) (fun u hu => hu.2.1) _ Try.underlying25 rfl HV4.out (fun _ _ _ h => h) (fun K hK => ?_)
      go_simp
      refine hK _ ?_
      clear hK K
      refine c_nil ?_
      refine p_nilC ?_
      refine p_stepC rfl ?_
      go_wp2_with (go_at_call 39; refine (CJ.out _).mono ?_; rintro e w5 ⟨rfl, hb⟩)
      have HA5 := Lib.hid (HAT.out.below hb)
      have HB5 : Hid (Blk w5 w.heap.size (ks .u64 l)) := HAD.out.below hb HZ4.out
      have HR5 : Hid (w5.rangeAt g o (ks .u64 x)) := by show World.rangeAt _ _ _ _; rw [← HX.out]; exact fc_seen (fc_blk HA5.out.sep) HA5.out.off
      clear hb
      refine And.intro (fun _ => ⟨HR5.out, HB5.out⟩) ?_
      refine p_stepC rfl ?_
      go_wp2_with fail
      refine And.intro (fun _ => ⟨HR5.out, HB5.out⟩) ?_
      refine p_stepC rfl ?_
      go_wp2_with fail
      refine And.intro (fun _ => ⟨HR5.out, HB5.out⟩) ?_
      refine p_stepC rfl ?_
      refine st_seen rfl 25 _ _ rfl HA5.out.sep HS.out HA5.out.off rfl y HY4.out rfl Try.size_v ?_
      intro w6 hs
      have HT : Hid (Tab w0 w6 b S9 R) := by
        show Tab _ _ _ _ _
        rw [← HS9.out]
        unfold aftSee
        rw [if_pos HOK.out]
        have e : seeS (gt S id) l = { gt S id with seen := y } := by unfold seeS; rw [HX.out, HY.out]
        have := HA5.out.back w6 (seeS (gt S id) l) v (seeS_ok HS.out HL.out) (fun h9 => HSH.out h9) (fun h9 => HA5.out.nl h9) (by rw [e]; exact hs)
        rw [if_pos HK.out] at this
        exact this.less
      clear hs
      go_wp2_with fail
      refine And.intro (fun h9 => absurd h9 (by decide)) ?_
      refine p_endC ?_
      go_wp2_with fail
      go_ret
      exact ⟨rfl, HT.out⟩
set_option maxHeartbeats 8000000 in
theorem twrite_any (h : Tab w0 w b S R) (id : Int) (x : I.Wt) :
    Calls Try.prog 19 #[.pointer (some ⟨b, 0, none⟩), .int .i64 id, WV x] w fun e w' => e = .returned (.int .i64 (errWr S id x)) ∧ Tab w0 w' b (aftWr S id x) R := by
  have H := Lib.hid h
  have HS := Lib.hid (gt_ok h.good.ok id)
  have HSH := Lib.hid (gt_shut h.shut id)
  have CR := Lib.hid (fun u => wright_any x u)
  obtain ⟨rx, HRX⟩ : ∃ rx, Hid (I.right x = rx) := ⟨_, rfl⟩
  rw [HRX.out] at CR
  obtain ⟨q, HQ⟩ : ∃ q, Hid ((gt S id).opn = q) := ⟨_, rfl⟩
  obtain ⟨er, HER⟩ : ∃ er, Hid (errWr S id x = er) := ⟨_, rfl⟩
  obtain ⟨S9, HS9⟩ : ∃ S9, Hid (aftWr S id x = S9) := ⟨_, rfl⟩
  rw [HER.out, HS9.out]
  clear h
  go_enter Try.func19, Try.ntmps19
  go_wp2_with (first | refine blk_box rfl 41 _ rfl (wc x) rfl ?_)
  intro w1 A1 B1 Z1
  have HA1 := Lib.hid A1
  have HZ1 := Lib.hid Z1
  have H1 := Lib.hid (H.out.box B1 Z1 A1)
  have CF := Lib.hid (find_any H1.out id)
  clear A1 B1 Z1
  go_wp2_with fail
  refine (CF.out).mono ?_; rintro e w2 ⟨g, o, A, B, v, X, rfl, hA, hb, -⟩
  have HX := Lib.hid hA
  have H2 := Lib.hid (H1.out.below hb)
  have HA2 : Hid (Blk w2 w.heap.size (wc x)) := HA1.out.below hb (by rw [HZ1.out]; omega)
  have HZ2 : Hid (w.heap.size < w2.heap.size) := by show _ < _; have := hb.size; have := HZ1.out; omega
  have c4 := fc_open (fc_blk HX.out.sep) HS.out.seen.1 HX.out.off
  rw [HQ.out] at c4
  clear hA hb CF
  cases q with
  | false =>
    obtain rfl : er = 5 := by rw [← HER.out]; unfold errWr; rw [HQ.out]; rfl
    obtain rfl : S9 = S := by rw [← HS9.out]; unfold aftWr; rw [HER.out]; rfl
    go_wp2_with fail
    go_ret
    exact ⟨rfl, H2.out.less⟩
  | true =>
    have HK := Lib.hid (opn_known HQ.out)
    go_wp2_with (first | refine blk_load rfl 41 _ rfl w.heap.size rfl (wc x) HA2.out _ Try.underlying41 rfl It.Try.size_w ?_)
    refine (CR.out _).mono ?_; rintro e w3 ⟨rfl, hb⟩
    have HAT := Lib.hid (HX.out.below (hb.trans (Below.refl _ _).drew))
    have H3 := Lib.hid (H2.out.below hb)
    have HA3 : Hid (Blk w3.drew w.heap.size (wc x)) := (HA2.out.below hb HZ2.out).drew
    have HZ3 : Hid (w.heap.size < w3.drew.heap.size) := Nat.lt_of_lt_of_le HZ2.out hb.size
    clear hb c4
    cases rx with
    | false =>
      obtain rfl : er = 1 := by rw [← HER.out]; unfold errWr; rw [HQ.out, HRX.out]; rfl
      obtain rfl : S9 = S := by rw [← HS9.out]; unfold aftWr; rw [HER.out]; rfl
      go_wp2_with fail
      go_ret
      exact ⟨rfl, H3.out.less⟩
    | true =>
      have HE : Hid (errPut (gt S id).wr x = er) := by show _ = _; rw [← HER.out]; unfold errWr; rw [if_pos HQ.out, if_pos HRX.out]
      have CO := Lib.hid (fun u => sown_any x u HRX.out)
      have CN := Lib.hid (fun u => named_mk x.1 x.2.1 u)
      have HF : Hid (∀ u, Blk u w.heap.size (wc x) → u.cell? ⟨w.heap.size, 0, none⟩ = some (.string x.1) ∧ u.cell? ⟨w.heap.size, 1, none⟩ = some (.string x.2.1)) := fun u hu => ⟨hu.cell 0 _ rfl, hu.cell 1 _ rfl⟩
      go_wp2_with fail
      refine region_pickC (fun u => Blk u w.heap.size (wc x)) 9 [0, 1, 3, 4, 5, 6] [2, 7, 8, 9] Try.mixed (by kernel_rfl) rfl (by kernel_rfl) HA3.out ?_
      refine p_readC rfl ?_
      refine c_move rfl _ rfl (.pointer (some ⟨g, o, none⟩)) rfl (fun _ _ _ h => h) (fun K hK => ?_)
      go_simp
      refine hK _ ?_
      clear hK K
      refine c_nil ?_
      refine p_readC rfl ?_
      refine ct_mid_load rfl 41 _ rfl w.heap.size 0 rfl (wc x) (fun u hu => hu.1) _ Try.underlying41 rfl It.Try.size_w (fun _ _ _ h => h) (fun K hK => ?_)
      go_simp
      refine hK _ ?_
      clear hK K
      refine c_nil ?_
      refine p_readC rfl ?_
      refine c_value rfl (.pointer (some ⟨w.heap.size, 0, none⟩)) (fun u hu => by go_simp) (fun _ _ _ h => h) (fun K hK => ?_)
      go_simp
      refine hK _ ?_
      clear hK K
      refine c_nil ?_
      refine p_readC rfl ?_
      refine c_value rfl (.string x.1) (fun u hu => by have h9 := (HF.out u hu).1; go_simp) (fun _ _ _ h => h) (fun K hK => ?_)
      go_simp
      refine hK _ ?_
      clear hK K
      refine c_nil ?_
      refine p_readC rfl ?_
      refine c_value rfl (.pointer (some ⟨w.heap.size, 1, none⟩)) (fun u hu => by go_simp) (fun _ _ _ h => h) (fun K hK => ?_)
      go_simp
      refine hK _ ?_
      clear hK K
      refine c_nil ?_
      refine p_readC rfl ?_
      refine c_value rfl (.string x.2.1) (fun u hu => by have h9 := (HF.out u hu).2; go_simp) (fun _ _ _ h => h) (fun K hK => ?_)
      go_simp
      refine hK _ ?_
      clear hK K
      refine c_nil ?_
      refine p_nilC ?_
      refine p_stepC rfl ?_
      go_wp2_with (go_at_call 50; refine (CO.out _).mono ?_; rintro e w4 ⟨rfl, hb⟩)
      have HX4 := Lib.hid (HAT.out.below hb)
      have HA4 : Hid (Blk w4 w.heap.size (wc x)) := HA3.out.below hb HZ3.out
      have HZ4 : Hid (w.heap.size < w4.heap.size) := Nat.lt_of_lt_of_le HZ3.out hb.size
      clear hb
      refine And.intro (fun _ => HA4.out) ?_
      refine p_stepC rfl ?_
      go_wp2_with (go_at_call 51; refine (CN.out _).mono ?_; rintro e w5 ⟨rfl, hp, hq, hb, hz⟩)
      have HA5 : Hid (Blk w5 w.heap.size (wc x)) := HA4.out.below hb HZ4.out
      have CP := Lib.hid (place_any x w4.heap.size (w4.heap.size + 1) (fc_box2 (p := 0) (q := 0) HX4.out.sep hb hz hp hq) HS.out HX4.out.nl HX4.out.off)
      rw [HE.out] at CP
      clear hp hq hb hz
      refine And.intro (fun _ => HA5.out) ?_
      refine p_stepC rfl ?_
      go_wp2_with (go_at_call 49; refine (CP.out).mono ?_; rintro e w6 ⟨rfl, v', hnl, hs⟩)
      have HT : Hid (Tab w0 w6 b S9 (rB w.heap.size (wc x) :: R)) := by
        show Tab _ _ _ _ _
        rw [← HS9.out]
        unfold aftWr
        rw [HER.out]
        by_cases h0 : er = 0
        · rw [if_pos h0] at hs hnl ⊢
          have := HX4.out.back w6 (putS (gt S id) x) v' (putS_ok HS.out HRX.out (by rw [HE.out]; exact h0)) (fun h9 => by
            have h8 : (gt S id).opn = false := h9
            rw [HQ.out] at h8; cases h8) hnl (fc_drop (fc_drop hs))
          rw [if_pos HK.out] at this
          exact this
        · rw [if_neg h0] at hs hnl ⊢
          exact H3.out.same HX4.out hnl (fc_drop (fc_drop hs))
      clear hnl hs
      refine And.intro (fun _ => HT.out.sep.blk 0 rfl) ?_
      refine p_stepC rfl ?_
      go_wp2_with fail
      refine And.intro (fun h9 => absurd h9 (by decide)) ?_
      refine p_endC ?_
      go_wp2_with fail
      go_ret
      exact ⟨rfl, HT.out.less⟩
end

end Go.Proofs.Ytkiaehehckmpnaa.Zm
