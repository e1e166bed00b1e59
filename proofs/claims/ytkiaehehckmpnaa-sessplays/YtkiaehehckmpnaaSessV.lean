/- sess: what turns the table: See, Begin, Write, End. -/
import Derived.Test.YtkiaehehckmpnaaSessT

import Derived.Test.YtkiaehehckmpnaaSessP

namespace Go.Proofs.Ytkiaehehckmpnaa.Zm

open Go.RowKit Go.Proofs.Ytkiaehehckmpnaa.Vc Go.Proofs.Ytkiaehehckmpnaa.Sp Go.Proofs.Ytkiaehehckmpnaa.Rw Go.Proofs.Ytkiaehehckmpnaa.Se Go.Proofs.Ytkiaehehckmpnaa.It Go.Proofs.Ytkiaehehckmpnaa.Z

set_option linter.unusedVariables false

set_option linter.unusedSimpArgs false

set_option maxRecDepth 100000

section

variable {w0 w : World} {b : Nat} {S : List Ss} {R : List Rg}

theorem Tab.same (h : Tab w0 w b S R) {w1 w' : World} {id : Int} {g o : Nat} {A B : List Value} {v v' : Value} {X : List Rg} (hA : At w0 w1 b S R id g o A B v X) (hn : Nl (gt S id, v')) (hsep : Sep w0 w' (fc 41 g A B (gt S id) v' ++ X)) : Tab w0 w' b S R := by
  have h1 := hA.back w' (gt S id) v' (gt_ok h.good.ok id) (gt_shut h.shut id) hn hsep
  by_cases hk : known id = true
  · rw [if_pos hk, st_same h.good.len hk] at h1; exact h1
  · rw [if_neg hk] at h1; exact h1
theorem opn_known {id : Int} (ho : (gt S id).opn = true) : known id = true := by
  cases hk : known id with
  | true => rfl
  | false => rw [gt_none _ _ hk] at ho; cases ho
set_option maxHeartbeats 4000000 in
theorem tend_any (h : Tab w0 w b S R) (id : Int) :
    Calls Try.prog 15 #[.pointer (some ⟨b, 0, none⟩), .int .i64 id] w fun e w' => e = .returned (.int .i64 (errEnd S id)) ∧ Tab w0 w' b (aftEnd S id) R := by
  have H := Lib.hid h
  have HS := Lib.hid (gt_ok h.good.ok id)
  have CF := Lib.hid (find_any h id)
  obtain ⟨er, HER⟩ : ∃ er, Hid (errEnd S id = er) := ⟨_, rfl⟩
  obtain ⟨S9, HS9⟩ : ∃ S9, Hid (aftEnd S id = S9) := ⟨_, rfl⟩
  rw [HER.out, HS9.out]
  clear h
  go_enter Try.func15, Try.ntmps15
  go_wp2_with fail
  refine (CF.out).mono ?_; rintro e w2 ⟨g, o, A, B, v, X, rfl, hA, hb, -⟩
  have HX := Lib.hid hA
  have CE := Lib.hid (end_any hA.sep HS.out hA.off)
  clear hA hb CF
  go_wp2_with fail
  refine (CE.out).mono ?_; rintro e w3 ⟨rfl, hs⟩
  have HT : Hid (Tab w0 w3 b S9 R) := by
    show Tab _ _ _ _ _
    rw [← HS9.out]
    unfold aftEnd
    by_cases hq : (gt S id).opn = true
    · rw [if_pos hq] at hs ⊢
      rw [if_pos hq] at hs
      have := HX.out.back w3 (endS (gt S id)) nil_ (endS_ok HS.out) (fun _ => ⟨rfl, rfl⟩) (fun _ => rfl) hs
      rw [if_pos (opn_known hq)] at this
      exact this
    · rw [if_neg hq] at hs ⊢
      rw [if_neg hq] at hs
      exact H.out.same HX.out HX.out.nl hs
  have HE : Hid ((if (gt S id).opn = true then 0 else 5) = er) := HER.out
  clear hs CE
  rw [HE.out]
  go_wp2_with fail
  go_ret
  exact ⟨rfl, HT.out⟩
set_option maxHeartbeats 8000000 in
theorem tbegin_any (h : Tab w0 w b S R) (id : Int) (l : List Nat) (hl : V.Ok l) :
    Calls Try.prog 13 #[.pointer (some ⟨b, 0, none⟩), .int .i64 id, AV .u64 l] w fun e w' => e = .returned (.int .i64 (errBeg S id l)) ∧ Tab w0 w' b (aftBeg S id l) R := by
  have H := Lib.hid h
  have HS := Lib.hid (gt_ok h.good.ok id)
  have HSH := Lib.hid (gt_shut h.shut id)
  have HL := Lib.hid hl
  have CK := Lib.hid (fun u => sknown_any id u)
  have CR := Lib.hid (fun u => right_any l u hl.1)
  have HIl := Lib.hid (size_v hl.1)
  have HV4 : Hid ((Try.prog.info? 25).map (·.size) = some (ks .u64 l).length) := by show _ = _; rw [ks_length]; exact HIl.out
  obtain ⟨er, HER⟩ : ∃ er, Hid (errBeg S id l = er) := ⟨_, rfl⟩
  obtain ⟨S9, HS9⟩ : ∃ S9, Hid (aftBeg S id l = S9) := ⟨_, rfl⟩
  rw [HER.out, HS9.out]
  clear h hl
  go_enter Try.func13, Try.ntmps13
  go_wp2_with (first | refine arr_box rfl .u64 25 _ rfl l rfl ?_)
  intro w1 A1 B1 Z1
  have HA1 := Lib.hid A1
  have HB1 := Lib.hid B1
  have HZ1 := Lib.hid Z1
  have H1 := Lib.hid (H.out.box B1 Z1 A1.blk)
  clear A1 B1 Z1
  go_wp2_with fail
  refine (CK.out _).mono ?_; rintro e w2 ⟨rfl, hw⟩
  subst hw
  cases hk : known id with
  | false =>
    have hok : okSee id l = false := by unfold okSee; rw [hk]; rfl
    obtain rfl : er = 1 := by rw [← HER.out]; unfold errBeg; rw [hok]; rfl
    obtain rfl : S9 = S := by rw [← HS9.out]; unfold aftBeg; rw [HER.out]; rfl
    go_wp2_with fail
    go_ret
    exact ⟨rfl, H1.out.less⟩
  | true =>
    go_wp2_with (first | refine arr_loadg (by rfl) .u64 25 _ rfl w.heap.size rfl l HA1.out 4 23 Try.underlying25 HIl.out ?_)
    refine (CR.out _).mono ?_; rintro e w3 ⟨rfl, hb⟩
    have H3 := Lib.hid (H1.out.below hb)
    have HA3 : Hid (Arr .u64 w3 w.heap.size l) := HA1.out.below hb (by rw [HZ1.out]; omega)
    have HZ3 : Hid (w.heap.size < w3.heap.size) := by show _ < _; have := hb.size; have := HZ1.out; omega
    clear hb
    cases hr : V.right l with
    | false =>
      have hok : okSee id l = false := by unfold okSee; rw [hr, Bool.and_false]
      obtain rfl : er = 1 := by rw [← HER.out]; unfold errBeg; rw [hok]; rfl
      obtain rfl : S9 = S := by rw [← HS9.out]; unfold aftBeg; rw [HER.out]; rfl
      go_wp2_with fail
      go_ret
      exact ⟨rfl, H3.out.less⟩
    | true =>
      have hok : okSee id l = true := by unfold okSee; rw [hk, hr]; rfl
      have HK := Lib.hid hk
      have HOK := Lib.hid hok
      have HAD : Hid (Blk w3.drew w.heap.size (ks .u64 l)) := HA3.out.blk.drew
      have CF := Lib.hid (find_any (H3.out.below (Below.refl _ _).drew) id)
      clear hk hr hok
      go_wp2_with fail
      refine region_pickC (fun u => Blk u w.heap.size (ks .u64 l)) 5 [0, 1, 3] [2, 4, 5] Try.mixed (by kernel_rfl) rfl (by kernel_rfl) HAD.out ?_
      refine p_readC rfl ?_
      refine c_move rfl _ rfl (.pointer (some ⟨b, 0, none⟩)) rfl (fun _ _ _ h => h) (fun K hK => ?_)
      go_simp
      refine hK _ ?_
      clear hK K
      refine c_nil ?_
      refine p_readC rfl ?_
      refine c_move rfl _ rfl (.int .i64 id) rfl (fun _ _ _ h => h) (fun K hK => ?_)
      go_simp
      refine hK _ ?_
      clear hK K
      refine c_nil ?_
      refine p_readC rfl ?_
      refine ct_mid_load rfl 25 _ rfl w.heap.size 0 rfl (ks .u64 l) (fun u hu => hu.1) _ Try.underlying25 rfl HV4.out (fun _ _ _ h => h) (fun K hK => ?_)
      go_simp
      refine hK _ ?_
      clear hK K
      refine c_nil ?_
      refine p_nilC ?_
      refine p_stepC rfl ?_
      go_wp2_with (go_at_call 43; refine (CF.out).mono ?_; rintro e w4 ⟨g, o, A, B, v, X, rfl, hA, hb, -⟩)
      have HX := Lib.hid hA
      have HE : Hid ((if (gt S id).opn = true then 6 else 0) = er) := by
        show _ = _
        rw [← HER.out]
        unfold errBeg
        rw [if_pos HOK.out]
      have CE := Lib.hid (begin_any hA.sep HS.out HSH.out hA.off l HL.out)
      rw [HE.out] at CE
      have HA4 : Hid (Blk w4 w.heap.size (ks .u64 l)) := HAD.out.below hb HZ3.out
      clear hA hb CF
      refine And.intro (fun _ => HA4.out) ?_
      refine p_stepC rfl ?_
      go_wp2_with (go_at_call 44; refine (CE.out).mono ?_; rintro e w5 ⟨rfl, hs⟩)
      have HT : Hid (Tab w0 w5 b S9 (rB w.heap.size (ks .u64 l) :: R)) := by
        show Tab _ _ _ _ _
        rw [← HS9.out]
        unfold aftBeg errBeg
        rw [if_pos HOK.out]
        by_cases hq : (gt S id).opn = true
        · rw [if_pos hq] at hs ⊢
          rw [if_neg (by decide)]
          exact H3.out.same HX.out HX.out.nl hs
        · rw [if_neg hq] at hs ⊢
          rw [if_pos rfl]
          have h0 := (HSH.out (by simpa using hq)).2
          have := HX.out.back w5 (begS (gt S id) l) v (begS_ok HS.out HL.out) (fun h9 => by cases h9) (fun _ => HX.out.nl h0) hs
          rw [if_pos HK.out] at this
          exact this
      clear hs CE
      refine And.intro (fun _ => HT.out.sep.blk 0 rfl) ?_
      refine p_stepC rfl ?_
      go_wp2_with fail
      refine And.intro (fun h9 => absurd h9 (by decide)) ?_
      refine p_endC ?_
      go_wp2_with fail
      go_ret
      exact ⟨rfl, HT.out.less⟩
end

end Go.Proofs.Ytkiaehehckmpnaa.Zm
