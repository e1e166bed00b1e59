/- sess: a write is put in the place of what was, or behind all. -/
import Derived.Test.YtkiaehehckmpnaaSessB

namespace Go.Proofs.Ytkiaehehckmpnaa.Zm

open Go.RowKit Go.Proofs.Ytkiaehehckmpnaa.Vc Go.Proofs.Ytkiaehehckmpnaa.Sp Go.Proofs.Ytkiaehehckmpnaa.Rw Go.Proofs.Ytkiaehehckmpnaa.Se Go.Proofs.Ytkiaehehckmpnaa.It Go.Proofs.Ytkiaehehckmpnaa.Z

set_option linter.unusedVariables false

set_option linter.unusedSimpArgs false

set_option maxRecDepth 100000

section

variable {w0 w : World} {g o : Nat} {A B : List Value} {s : Ss} {v : Value} {R : List Rg}

theorem fc_lt2 {r : Rg} {b : Nat} {vs : List Value} {t : TypeId} (h : Sep w0 w (fc t g A B s v ++ (r :: rB b vs :: R))) : b < w.heap.size := (h.lt 3 (r := rB b vs) rfl b (by simp [rB])).2
theorem fc_lt3 {r r' : Rg} {b : Nat} {vs : List Value} {t : TypeId} (h : Sep w0 w (fc t g A B s v ++ (r :: r' :: rB b vs :: R))) : b < w.heap.size := (h.lt 4 (r := rB b vs) rfl b (by simp [rB])).2
set_option maxHeartbeats 8000000 in
theorem place_any (x : I.Wt) (p q : Nat) (h : Sep w0 w (fc 41 g A B s v ++ (rB p [.string x.1] :: rB q [.string x.2.1] :: R))) (hs : s.Ok) (hnl : Nl (s, v)) (ho : A.length = o) :
    Calls Try.prog 49 #[.pointer (some ⟨g, o, none⟩), WV x, .func (.func 65) #[] #[.pointer (some ⟨p, 0, none⟩), .pointer (some ⟨q, 0, none⟩)]] w fun e w' => e = .returned (.int .i64 (errPut s.wr x)) ∧ ∃ v', Nl (if errPut s.wr x = 0 then putS s x else s, v') ∧ Sep w0 w' (fc 41 g A B (if errPut s.wr x = 0 then putS s x else s) v' ++ (rB p [.string x.1] :: rB q [.string x.2.1] :: R)) := by
  have CW := Lib.hid (fun (u : World) (hu : OR wk 41 u 0 v s.wr) (h1 : Blk u p [.string x.1]) (h2 : Blk u q [.string x.2.1]) (h3 : p < u.heap.size) (h4 : q < u.heap.size) => where_any hu hs x.1 x.2.1 p q h1 h2 h3 h4)
  have hrow := (fc_or h).row
  have H := Lib.hid h
  have HS := Lib.hid hs
  have HO := Lib.hid ho
  have HNL := Lib.hid hnl
  obtain ⟨er, HER⟩ : ∃ er : Int, Hid (errPut s.wr x = er) := ⟨_, rfl⟩
  obtain ⟨s9, HS9⟩ : ∃ s9, Hid ((if er = 0 then putS s x else s) = s9) := ⟨_, rfl⟩
  rw [HER.out, HS9.out]
  obtain ⟨n, HN⟩ : ∃ n, Hid (s.wr.length = n) := ⟨_, rfl⟩
  obtain ⟨i, HI⟩ : ∃ i, Hid (ix s.wr (x.1, x.2.1) = i) := ⟨_, rfl⟩
  rw [HN.out, HI.out] at CW
  obtain ⟨sa, cap, ev⟩ : ∃ sa cap, v = .slice sa n cap := by rw [← HN.out]; exact or_slice (fc_or h)
  subst ev
  have HRW : Hid (i < n → ∃ gg, sa = some ⟨gg, 0, none⟩) := fun hin => by
    rcases hrow with ⟨e, e2⟩ | ⟨gg, cap', cur, e, _⟩
    · have h3 := HN.out
      rw [e2] at h3
      simp at h3
      omega
    · simp only [Value.slice.injEq] at e
      exact ⟨gg, e.1⟩
  clear h hs ho hnl hrow
  go_enter Try.func49, Try.ntmps49
  go_wp2_with (first | refine blk_box rfl 41 _ rfl (wc x) rfl ?_)
  intro w1 A1 B1 Z1
  have H1 := Lib.hid (fc_box H.out B1 Z1 A1)
  have c9 := fc_wr (fc_blk H1.out) HS.out.seen.1 HS.out.snap.1 HO.out
  have CC := Lib.hid (CW.out w1 (fc_or H1.out) (fc_blkR2 H1.out) (fc_blkR3 H1.out) (fc_lt2 H1.out) (fc_lt3 H1.out))
  clear A1 B1 Z1 CW
  go_wp2_with fail
  refine CC.out.mono ?_; rintro e w2 ⟨r, rfl, hr, hb⟩
  have H2 := Lib.hid (H1.out.below hb)
  clear hb CC c9
  have c9 := fc_wr (fc_blk H2.out) HS.out.seen.1 HS.out.snap.1 HO.out
  have HD := Lib.hid (sep_drew H2.out)
  have d9 : Hid (w2.drew.cell? ⟨g, o + 9, none⟩ = some (.slice sa n cap)) := fc_wr (fc_blk HD.out) HS.out.seen.1 HS.out.snap.1 HO.out
  rcases hr with ⟨rfl, hr⟩ | ⟨rfl, hr⟩
  · have HIN : Hid (i = n) := hr
    by_cases h8 : n = 8
    · subst h8
      obtain rfl : er = 4 := by rw [← HER.out]; unfold errPut; rw [show I.key x = (x.1, x.2.1) from rfl, HI.out, HN.out, HIN.out, if_neg (by decide), if_pos rfl]
      obtain rfl : s9 = s := by rw [← HS9.out]; exact if_neg (by decide)
      go_wp2_with fail
      go_ret
      exact ⟨rfl, _, HNL.out, fc_drop H2.out⟩
    · obtain rfl : er = 0 := by rw [← HER.out]; unfold errPut; rw [show I.key x = (x.1, x.2.1) from rfl, HI.out, HN.out, HIN.out, if_neg (by omega), if_neg h8]
      obtain rfl : s9 = putS s x := by rw [← HS9.out]; exact if_pos rfl
      have HPL : Hid (putL s.wr x = s.wr ++ [x]) := by show _ = _; unfold putL; rw [show I.key x = (x.1, x.2.1) from rfl, HI.out, HN.out, HIN.out, if_neg (by omega)]
      have hd8 : ((n : Int) == 8) = false := by rw [beq_eq_false_iff_ne]; omega
      clear hr
      go_wp2_with fail
      refine region_pickC (fun u => u.cell? ⟨g, o + 9, none⟩ = some (.slice sa n cap) ∧ Blk u w.heap.size (wc x)) 10 [0, 1, 2, 3, 4, 5] [6, 7, 8, 9, 10] Try.mixed (by kernel_rfl) rfl (by kernel_rfl) ⟨d9.out, fc_blkR HD.out⟩ ?_
      refine p_readC rfl ?_
      refine c_move rfl _ rfl (.pointer (some ⟨g, o, none⟩)) rfl (fun _ _ _ h => h) (fun K hK => ?_)
      go_simp
      refine hK _ ?_
      clear hK K
      refine c_nil ?_
      refine p_readC rfl ?_
      refine c_move rfl _ rfl (.pointer (some ⟨g, o, none⟩)) rfl (fun _ _ _ h => h) (fun K hK => ?_)
      go_simp
      refine hK _ ?_
      clear hK K
      refine c_nil ?_
      refine p_readC rfl ?_
      refine c_value rfl (.pointer (some ⟨g, o, none⟩)) (fun u hu => by go_simp) (fun _ _ _ h => h) (fun K hK => ?_)
      go_simp
      refine hK _ ?_
      clear hK K
      refine c_nil ?_
      refine p_readC rfl ?_
      refine c_value rfl (.pointer (some ⟨g, o + 9, none⟩)) (fun u hu => by go_simp) (fun _ _ _ h => h) (fun K hK => ?_)
      go_simp
      refine hK _ ?_
      clear hK K
      refine c_nil ?_
      refine p_readC rfl ?_
      refine c_value rfl (.slice sa n cap) (fun u hu => by have h9 := hu.1; go_simp) (fun _ _ _ h => h) (fun K hK => ?_)
      go_simp
      refine hK _ ?_
      clear hK K
      refine c_nil ?_
      refine p_readC rfl ?_
      refine ct_mid_load rfl 41 _ rfl w.heap.size 0 rfl (wc x) (fun u hu => hu.2.1) _ Try.underlying41 rfl It.Try.size_w (fun _ _ _ h => h) (fun K hK => ?_)
      go_simp
      refine hK _ ?_
      clear hK K
      refine c_nil ?_
      refine p_nilC ?_
      refine p_stepC rfl ?_
      refine build_iw rfl _ rfl x rfl ?_
      intro w3 A3 B3 Z3
      have H3 := Lib.hid (fc_box HD.out B3 Z3 A3)
      have HM : Hid (IsR wk w3 (.slice (some ⟨w2.drew.heap.size, 0, none⟩) 1 1) [x]) := IsR.one (K := wk) A3 (by rw [Z3]; exact Nat.lt_succ_self _)
      have e9 : Hid (w3.cell? ⟨g, o + 9, none⟩ = some (.slice sa n cap)) := fc_wr (fc_blk H3.out) HS.out.seen.1 HS.out.snap.1 HO.out
      clear A3 B3 Z3
      go_wp2_with fail
      refine And.intro (fun _ => ⟨e9.out, H3.out.blk 3 rfl⟩) ?_
      refine p_stepC rfl ?_
      obtain ⟨v', w4, hrr, hor, hg, hnw⟩ := append_any (K := wk) 58 Try.underlying58 inf_iw rfl w3 0 (.slice sa n cap) s.wr (fc_or H3.out) (.slice (some ⟨w2.drew.heap.size, 0, none⟩) 1 1) [x] HM.out (by have := HS.out.len; simp; omega) (by decide) (Nat.zero_le _)
      refine append_step rfl _ _ _ _ rfl rfl rfl hrr ?_
      have H4 := Lib.hid (H3.out.row 1 (L := s.wr) (L' := s.wr ++ [x]) rfl hor hg hnw)
      obtain ⟨m, HMM⟩ : ∃ m, Hid ((s.wr ++ [x]).length = m) := ⟨_, rfl⟩
      obtain ⟨sa', cap', ev'⟩ : ∃ sa' cap', v' = .slice sa' m cap' := by rw [← HMM.out]; exact or_slice hor
      subst ev'
      have e9 : Hid (w4.cell? ⟨g, o + 9, none⟩ = some (.slice sa n cap)) := fc_wr (s := s) (v := .slice sa n cap) (H4.out.blk 0 rfl) HS.out.seen.1 HS.out.snap.1 HO.out
      have g9 : w4.cell? ⟨g, o + 9, none⟩ = some (.slice sa n cap) := e9.out
      have k9 : w4.frozen? ⟨g, o + 9, none⟩ = false := fc_free (s := s) (v := .slice sa n cap) (H4.out.blk 0 rfl) HS.out HO.out 9 (by decide)
      have e8 : Hid (Blk w4 w.heap.size (wc x)) := H4.out.blk 3 rfl
      clear hrr hor hg hnw
      go_wp2_with fail
      refine And.intro (fun _ => ⟨e9.out, e8.out⟩) ?_
      refine p_stepC rfl ?_
      go_wp2_with fail
      refine And.intro (fun _ => ⟨e9.out, e8.out⟩) ?_
      refine p_stepC rfl ?_
      go_wp2_with fail
      refine And.intro (fun _ => ⟨e9.out, e8.out⟩) ?_
      refine p_stepC rfl ?_
      go_wp2_with fail
      refine And.intro (fun h9 => absurd h9 (by decide)) ?_
      refine p_endC ?_
      go_wp2_with fail
      go_ret
      refine ⟨rfl, .slice sa' m cap', fun h0 => absurd h0 (putL_ne _ _), ?_⟩
      have H5 := H4.out.upd 0 (b := g) (vs := A ++ (sc s (.slice sa n cap) ++ B)) rfl (Upd.setCell w4 g (o + 9) (.slice sa' m cap')) (blk_wr (s := s) (H4.out.blk 0 rfl) HS.out HO.out _)
      have H6 : Sep w0 (w4.setCell ⟨g, o + 9, none⟩ (.slice sa' m cap')) (fc 41 g A B { s with wr := s.wr ++ [x] } (.slice sa' m cap') ++ (rB w2.drew.heap.size (wc x) :: rB w.heap.size (wc x) :: rB p [.string x.1] :: rB q [.string x.2.1] :: R)) := H5
      have e : putS s x = { s with wr := s.wr ++ [x] } := by unfold putS; rw [HPL.out]
      rw [e]
      exact fc_drop (fc_drop H6)
  · obtain rfl : er = 0 := by rw [← HER.out]; unfold errPut; rw [show I.key x = (x.1, x.2.1) from rfl, HI.out, HN.out, if_pos hr]
    obtain rfl : s9 = putS s x := by rw [← HS9.out]; exact if_pos rfl
    have HPL : Hid (putL s.wr x = s.wr.set i x) := by show _ = _; unfold putL; rw [show I.key x = (x.1, x.2.1) from rfl, HI.out, HN.out, if_pos hr]
    obtain ⟨gg, hsa⟩ := HRW.out hr
    subst hsa
    have HIL : Hid (i < s.wr.length) := by show _ < _; rw [HN.out]; exact hr
    have hix : ∀ w, (Instr.indexAt 58 (.slice (some ⟨gg, 0, none⟩) n cap) (.int .i64 (i : Int))).run Try.prog w = .ok (.pointer (some ⟨gg, 4 * i, none⟩)) w := fun w => by
      have := index_iw gg 0 n cap i hr w
      rwa [Nat.zero_add] at this
    have h0 : 0 ≤ (i : Int) := by omega
    clear hr HRW
    go_wp2_with fail
    refine region_pickC (fun u => u.cell? ⟨g, o + 9, none⟩ = some (.slice (some ⟨gg, 0, none⟩) n cap) ∧ Blk u w.heap.size (wc x)) 7 [0, 1, 2, 3, 4, 5, 6] [7] Try.mixed (by kernel_rfl) rfl (by kernel_rfl) ⟨d9.out, fc_blkR HD.out⟩ ?_
    refine p_readC rfl ?_
    refine c_move rfl _ rfl (.pointer (some ⟨g, o, none⟩)) rfl (fun _ _ _ h => h) (fun K hK => ?_)
    go_simp
    refine hK _ ?_
    clear hK K
    refine c_nil ?_
    refine p_readC rfl ?_
    refine c_value rfl (.pointer (some ⟨g, o, none⟩)) (fun u hu => by go_simp) (fun _ _ _ h => h) (fun K hK => ?_)
    go_simp
    refine hK _ ?_
    clear hK K
    refine c_nil ?_
    refine p_readC rfl ?_
    refine c_value rfl (.pointer (some ⟨g, o + 9, none⟩)) (fun u hu => by go_simp) (fun _ _ _ h => h) (fun K hK => ?_)
    go_simp
    refine hK _ ?_
    clear hK K
    refine c_nil ?_
    refine p_readC rfl ?_
    refine c_value rfl (.slice (some ⟨gg, 0, none⟩) n cap) (fun u hu => by have h9 := hu.1; go_simp) (fun _ _ _ h => h) (fun K hK => ?_)
    go_simp
    refine hK _ ?_
    clear hK K
    refine c_nil ?_
    refine p_readC rfl ?_
    refine c_move rfl _ rfl (.int .i64 (i : Int)) rfl (fun _ _ _ h => h) (fun K hK => ?_)
    go_simp
    refine hK _ ?_
    clear hK K
    refine c_nil ?_
    refine p_readC rfl ?_
    refine ct_mid_load rfl 41 _ rfl w.heap.size 0 rfl (wc x) (fun u hu => hu.2.1) _ Try.underlying41 rfl It.Try.size_w (fun _ _ _ h => h) (fun K hK => ?_)
    go_simp
    refine hK _ ?_
    clear hK K
    refine c_nil ?_
    refine p_readC rfl ?_
    refine c_value rfl (.pointer (some ⟨gg, 4 * i, none⟩)) (fun u hu => by have hx := hix u; go_simp) (fun _ _ _ h => h) (fun K hK => ?_)
    go_simp
    refine hK _ ?_
    clear hK K
    refine c_nil ?_
    refine p_nilC ?_
    refine p_stepC rfl ?_
    refine or_store rfl 41 _ _ rfl gg (4 * i) rfl x rfl 0 n cap s.wr (fc_or HD.out) i HIL.out rfl It.Try.size_w ?_
    intro w3 hor hg
    have H4 := Lib.hid (HD.out.row 1 (L := s.wr) (L' := s.wr.set i x) rfl hor hg (.inl rfl))
    clear hor hg
    go_wp2_with fail
    refine And.intro (fun h9 => absurd h9 (by decide)) ?_
    refine p_endC ?_
    go_wp2_with fail
    go_ret
    refine ⟨rfl, .slice (some ⟨gg, 0, none⟩) n cap, fun h0 => absurd h0 (putL_ne _ _), ?_⟩
    have e : putS s x = { s with wr := s.wr.set i x } := by unfold putS; rw [HPL.out]
    rw [e]
    exact fc_drop H4.out
end

end Go.Proofs.Ytkiaehehckmpnaa.Zm
