/- The document's sessions: Write. -/
import Derived.Test.YtkiaehehckmpnaaSessG

namespace Go.Proofs.Ytkiaehehckmpnaa.Zm

open Go.RowKit Go.Proofs.Ytkiaehehckmpnaa.Vc Go.Proofs.Ytkiaehehckmpnaa.Sp Go.Proofs.Ytkiaehehckmpnaa.Rw Go.Proofs.Ytkiaehehckmpnaa.Se Go.Proofs.Ytkiaehehckmpnaa.It Go.Proofs.Ytkiaehehckmpnaa.Z

set_option linter.unusedVariables false

set_option linter.unusedSimpArgs false

set_option maxRecDepth 100000

theorem inf_rw : (Try.prog.info? 56).map (fun i => (i.zero, i.size, i.bytes)) = some (some (wk.val wk.none_), wk.k, 56) := It.Try.info_rw
section

variable {w0 w w' : World} {R : List Rg}

theorem sep_imp {r r' : Rg} (h : Sep w0 w (r :: R)) (hb : r'.bl = r.bl) (hp : r.P w → r'.P w) : Sep w0 w (r' :: R) := by
  refine ⟨h.under, fun x hx => ?_, ?_⟩
  · rcases List.mem_cons.1 hx with rfl | hx
    · have := h.each r (List.mem_cons_self ..)
      rw [hb]
      exact ⟨hp this.1, this.2⟩
    · exact h.each x (List.mem_cons_of_mem _ hx)
  · obtain ⟨h1, h2⟩ := List.pairwise_cons.1 h.disj
    exact List.pairwise_cons.2 ⟨fun s hs k hk => h1 s hs k (by rw [← hb]; exact hk), h2⟩
theorem fc_swap {t : TypeId} {g o : Nat} {A B : List Value} {s : Ss} {v v1 : Value} {L : List I.Wt} (h : Sep w0 w (rO wk t 0 v1 L :: (fc t g A B s v ++ R))) (hs : s.Ok) (ho : A.length = o) : Sep w0 (w.setCell ⟨g, o + 9, none⟩ v1) (fc t g A B { s with wr := L } v1 ++ R) := by
  have h1 := h.upd 1 (b := g) (vs := A ++ (sc s v ++ B)) rfl (Upd.setCell w g (o + 9) v1) (blk_wr (s := s) (h.blk 1 rfl) hs ho v1)
  have h2 : Sep w0 (w.setCell ⟨g, o + 9, none⟩ v1) (rO wk t 0 v1 L :: rB g (A ++ (sc s v1 ++ B)) :: R) := h1.sub (List.Sublist.cons_cons _ (List.Sublist.cons_cons _ (List.sublist_cons_self _ _)))
  exact h2.perm (List.Perm.swap _ _ _)
end

section

variable {w0 w w' : World} {d : Nat} {D : List Ss} {R : List Rg}

set_option maxHeartbeats 16000000 in
theorem dwrite_any (h : DTab w0 w d D R) (id : Int) (x : I.Wt) :
    Calls Try.prog 20 #[.pointer (some ⟨d, 0, none⟩), .int .i64 id, WV x] w fun e w' => e = .returned (.int .i64 (errWr D id x)) ∧ DTab w0 w' d (aftWr D id x) R := by
  have H := Lib.hid h
  have CK := Lib.hid (fun u => is_any id u)
  have CR := Lib.hid (fun u => ref_wright x u)
  obtain ⟨rx, HRX⟩ : ∃ rx, Hid (I.right x = rx) := ⟨_, rfl⟩
  rw [HRX.out] at CR
  obtain ⟨q, HQ⟩ : ∃ q, Hid ((gt D id).opn = q) := ⟨_, rfl⟩
  obtain ⟨er, HER⟩ : ∃ er, Hid (errWr D id x = er) := ⟨_, rfl⟩
  obtain ⟨D9, HD9⟩ : ∃ D9, Hid (aftWr D id x = D9) := ⟨_, rfl⟩
  have HNO : Hid (q = false → er = 5 ∧ D9 = D) := fun hq => by
    have e : er = 5 := by rw [← HER.out]; unfold errWr; rw [HQ.out, hq]; rfl
    exact ⟨e, by rw [← HD9.out]; unfold aftWr; rw [HER.out, e]; rfl⟩
  rw [HER.out, HD9.out]
  clear h
  go_enter Try.func20, Try.ntmps20
  go_wp2_with (first | refine blk_box rfl 56 _ rfl (wc x) rfl ?_)
  intro w1 A1 B1 Z1
  have H1 := Lib.hid (H.out.box B1 Z1 A1)
  clear A1 B1 Z1
  go_wp2_with fail
  refine (CK.out _).mono ?_; rintro e w2 ⟨rfl, hw⟩
  subst hw
  cases hk : known id with
  | false =>
    have hq : q = false := by rw [← HQ.out, gt_none _ _ hk]; rfl
    obtain ⟨rfl, rfl⟩ := HNO.out hq
    go_wp2_with fail
    go_ret
    exact ⟨rfl, H1.out.less⟩
  | true =>
    obtain ⟨n0, rfl, h1, h8⟩ := nat_of hk
    have HIX0 : Hid (∀ w, (Instr.indexAt 36 (.pointer (some ⟨d, 0, none⟩)) (.int .i64 (n0 : Int))).run Try.prog w = .ok (.pointer (some ⟨d, 10 * n0, none⟩)) w) := fun w => index_dt d n0 (by omega) w
    have hix0 := HIX0.out
    obtain ⟨A, B, v, Y, hA⟩ := H1.out.at n0 h1 h8
    have HA := Lib.hid hA
    have HS := Lib.hid (gt_ok H1.out.good.ok (n0 : Int))
    have c4 := fc_open (fc_blk hA.sep) HS.out.seen.1 hA.off
    rw [HQ.out] at c4
    have HBX : Hid (Blk w2 w.heap.size (wc x)) := fc_blkR hA.sep
    clear hk h1 h8 hA
    cases q with
    | false =>
      obtain ⟨rfl, rfl⟩ := HNO.out rfl
      go_wp2_with fail
      go_ret
      exact ⟨rfl, H1.out.less⟩
    | true =>
      go_wp2_with (first | refine blk_load rfl 56 _ rfl w.heap.size rfl (wc x) HBX.out _ Try.underlying56 rfl It.Try.size_rw ?_)
      refine (CR.out _).mono ?_; rintro e w3 ⟨rfl, hb⟩
      have H3 := Lib.hid (H1.out.below hb)
      have HA3 := Lib.hid (HA.out.below hb)
      clear hb c4 HBX
      cases rx with
      | false =>
        obtain rfl : er = 1 := by rw [← HER.out]; unfold errWr; rw [HQ.out, HRX.out]; rfl
        obtain rfl : D9 = D := by rw [← HD9.out]; unfold aftWr; rw [HER.out]; rfl
        go_wp2_with fail
        go_ret
        exact ⟨rfl, H3.out.less⟩
      | true =>
        obtain ⟨L, HL⟩ : ∃ L, Hid ((gt D (n0 : Int)).wr = L) := ⟨_, rfl⟩
        have HE : Hid (errPut L x = er) := by show _ = _; rw [← HER.out, ← HL.out]; unfold errWr; rw [if_pos HQ.out, if_pos HRX.out]
        have HL8 : Hid (L.length ≤ 8) := by show _ ≤ _; rw [← HL.out]; exact HS.out.len
        have HKN : Hid (er = 0 → D9 = st D (n0 : Int) { gt D (n0 : Int) with wr := putL L x }) := fun h0 => by rw [← HD9.out]; unfold aftWr; rw [HER.out, if_pos h0]; unfold putS; rw [HL.out]
        have HPO : Hid (er = 0 → ({ gt D (n0 : Int) with wr := putL L x } : Ss).Ok) := fun h0 => by
          have h9 := putS_ok HS.out HRX.out (by rw [HL.out, HE.out]; exact h0)
          unfold putS at h9
          rw [HL.out] at h9
          exact h9
        have c9 := fc_wr (fc_blk HA3.out.sep) HS.out.seen.1 HS.out.snap.1 HA3.out.off
        have ho := fc_or HA3.out.sep
        rw [HL.out] at ho
        obtain ⟨n, HN⟩ : ∃ n, Hid (L.length = n) := ⟨_, rfl⟩
        have hn8 : n ≤ 8 := by have := HL8.out; have := HN.out; omega
        obtain ⟨sa, cap, ev, _⟩ := or_zero ho
        rw [HN.out] at ev
        obtain ⟨v1, w4, hrr, hor, hg, hnw⟩ := append_any (K := wk) 33 Try.underlying33 inf_rw rfl w3 w3.heap.size (.slice none 0 0) [] (OR.nil _ _ _) v L ho.is (by simp; have := HL8.out; omega) (by decide) (Nat.le_refl _)
        have hb34 : Below w3.heap.size w3 w4 := (Below.refl w3.heap.size w3).grown hg (Nat.le_refl _) (fun k hk => by cases hk)
        rw [List.nil_append] at hor
        have HSEP : Hid (Sep w0 w4 (rO wk 56 0 v1 L :: (fc 56 d A B (gt D (n0 : Int)) v ++ ((rB w.heap.size (wc x) :: R) ++ Y)))) := sep_imp (HA3.out.sep.newrow hb34 hor) rfl (fun h9 => OR.mono h9 (Nat.zero_le _))
        have H4 := Lib.hid (H3.out.below hb34)
        have HRR := Lib.hid hrr
        obtain ⟨sb, cap1, ev1, hsb⟩ := or_zero hor
        rw [HN.out] at ev1 hsb
        have HSB := Lib.hid hsb
        subst ev
        subst ev1
        have HB0 : Hid (Below w4.heap.size w4 w4) := Below.refl _ _
        have HE0 : Hid (∀ k, k < 0 → I.key (L.getD k I.none_) ≠ I.key x) := fun k hk => absurd hk (by omega)
        clear ho hrr hor hg hnw hb34 hsb
        go_wp2_with (at_builtin; refine append_step rfl _ _ _ _ rfl rfl rfl HRR.out ?_)
        go_loopw [8] (fun y wr => ∃ i : Nat, i ≤ n ∧ y = .int .i64 i ∧ Hid (∀ k, k < i → I.key (L.getD k I.none_) ≠ I.key x) ∧ Hid (Below w4.heap.size w4 wr)) (fun y _ => n - (intOf y).toNat)
        case atStart => exact ⟨0, by omega, rfl, HE0, HB0⟩
        case round =>
          obtain ⟨i, hi, rfl, HEr, HBr⟩ := hrel
          clear HE0 HB0 c9 hix0
          have HSr := Lib.hid (HSEP.out.below HBr.out)
          by_cases hlt : i < n
          · have ilt : (i : Int) < (n : Int) := by omega
            obtain ⟨g, hs⟩ := HSB.out (by omega)
            subst hs
            obtain ⟨z, HZ⟩ : ∃ z, Hid (L.getD i I.none_ = z) := ⟨_, rfl⟩
            have HIX : Hid (∀ w, (Instr.indexAt 33 (.slice (some ⟨g, 0, none⟩) n cap1) (.int .i64 (i : Int))).run Try.prog w = .ok (.pointer (some ⟨g, 4 * i, none⟩)) w) := fun w => by
              have h9 := index_rw g 0 n cap1 i hlt w
              rwa [Nat.zero_add] at h9
            have HCZ : Hid (∀ u, Below wr.heap.size wr u → (u.cell? ⟨g, 4 * i, none⟩ = some (.string z.1) ∧ u.cell? ⟨g, 4 * i + 1, none⟩ = some (.string z.2.1)) ∧ u.cell? ⟨w.heap.size, 0, none⟩ = some (.string x.1) ∧ u.cell? ⟨w.heap.size, 1, none⟩ = some (.string x.2.1)) := fun u hu => by
              have hS := HSr.out.below hu
              have hrow := isr_four (hS.or 0 rfl).is i (by rw [HN.out]; exact hlt)
              rw [HZ.out] at hrow
              have hbx : Blk u w.heap.size (wc x) := hS.blk 3 rfl
              exact ⟨⟨hrow.2 0 _ rfl, hrow.2 1 _ rfl⟩, hbx.cell 0 _ rfl, hbx.cell 1 _ rfl⟩
            obtain ⟨zb, zk, zv, zg⟩ := z
            obtain ⟨xb, xk, xv, xg⟩ := x
            go_wp2_with fail
            by_cases hb1 : zb = xb
            · subst hb1
              by_cases hk1 : zk = xk
              · subst hk1
                refine region_w Try.mixed (by kernel_rfl) ?_
                refine w_value rfl (.slice (some ⟨g, 0, none⟩) n cap1) (fun u hu => by go_simp) (fun K hK => ?_)
                go_simp
                refine hK _ ?_
                clear hK K
                refine w_value rfl (.int .i64 (i : Int)) (fun u hu => by go_simp) (fun K hK => ?_)
                go_simp
                refine hK _ ?_
                clear hK K
                refine w_value rfl (.pointer (some ⟨g, 4 * i, none⟩)) (fun u hu => by have h9 := HIX.out u; go_simp) (fun K hK => ?_)
                go_simp
                refine hK _ ?_
                clear hK K
                refine w_value rfl (.pointer (some ⟨g, 4 * i, none⟩)) (fun u hu => by go_simp) (fun K hK => ?_)
                go_simp
                refine hK _ ?_
                clear hK K
                refine w_value rfl (.string zb) (fun u hu => by have h9 := (HCZ.out u hu).1.1; go_simp) (fun K hK => ?_)
                go_simp
                refine hK _ ?_
                clear hK K
                refine w_value rfl (.pointer (some ⟨w.heap.size, 0, none⟩)) (fun u hu => by go_simp) (fun K hK => ?_)
                go_simp
                refine hK _ ?_
                clear hK K
                refine w_value rfl (.string zb) (fun u hu => by have h9 := (HCZ.out u hu).2.1; go_simp) (fun K hK => ?_)
                go_simp
                refine hK _ ?_
                clear hK K
                refine w_value rfl (.bool true) (fun u hu => by go_simp) (fun K hK => ?_)
                go_simp
                refine hK _ ?_
                clear hK K
                refine w_value rfl (.bool true) (fun u hu => by go_simp) (fun K hK => ?_)
                go_simp
                refine hK _ ?_
                clear hK K
                refine wg_value (by rfl) (.slice (some ⟨g, 0, none⟩) n cap1) (fun u hu => by go_simp) (fun K hK => ?_)
                go_simp
                refine hK _ ?_
                clear hK K
                refine wg_value (by rfl) (.int .i64 (i : Int)) (fun u hu => by go_simp) (fun K hK => ?_)
                go_simp
                refine hK _ ?_
                clear hK K
                refine wg_value (by rfl) (.pointer (some ⟨g, 4 * i, none⟩)) (fun u hu => by have h9 := HIX.out u; go_simp) (fun K hK => ?_)
                go_simp
                refine hK _ ?_
                clear hK K
                refine wg_value (by rfl) (.pointer (some ⟨g, 4 * i + 1, none⟩)) (fun u hu => by go_simp) (fun K hK => ?_)
                go_simp
                refine hK _ ?_
                clear hK K
                refine wg_value (by rfl) (.string zk) (fun u hu => by have h9 := (HCZ.out u hu).1.2; go_simp) (fun K hK => ?_)
                go_simp
                refine hK _ ?_
                clear hK K
                refine wg_value (by rfl) (.pointer (some ⟨w.heap.size, 1, none⟩)) (fun u hu => by go_simp) (fun K hK => ?_)
                go_simp
                refine hK _ ?_
                clear hK K
                refine wg_value (by rfl) (.string zk) (fun u hu => by have h9 := (HCZ.out u hu).2.2; go_simp) (fun K hK => ?_)
                go_simp
                refine hK _ ?_
                clear hK K
                refine wg_value (by rfl) (.bool true) (fun u hu => by go_simp) (fun K hK => ?_)
                go_simp
                refine hK _ ?_
                clear hK K
                refine w_value rfl (.bool true) (fun u hu => by go_simp) (fun K hK => ?_)
                go_simp
                refine hK _ ?_
                clear hK K
                refine w_nil ?_
                intro u hu
                have HSu := Lib.hid (HSr.out.below hu)
                have hix2 : ix L (zb, zk) = i := ix_of (by rw [HN.out]; exact hlt) (by rw [HZ.out]; exact decide_eq_true rfl) (fun k hk => decide_eq_false (HEr.out k hk))
                have hpl : putL L (zb, zk, xv, xg) = L.set i (zb, zk, xv, xg) := by unfold putL; rw [show I.key (zb, zk, xv, xg) = (zb, zk) from rfl, hix2, HN.out, if_pos hlt]
                obtain rfl : er = 0 := by rw [← HE.out]; unfold errPut; rw [show I.key (zb, zk, xv, xg) = (zb, zk) from rfl, hix2, HN.out, if_pos hlt]
                have hd9 := HKN.out rfl
                have hok9 := HPO.out rfl
                rw [hpl] at hd9 hok9
                have HD := Lib.hid hd9
                have HOK9 := Lib.hid hok9
                have HIL : Hid (i < L.length) := by show _ < _; rw [HN.out]; exact hlt
                have HBXu : Hid (Blk u w.heap.size (wc (zb, zk, xv, xg))) := HSu.out.blk 3 rfl
                have hix := HIX.out
                have hix0 := HIX0.out
                clear hix2 hpl hd9 hok9 hu
                go_wp2_with (first | refine blk_load rfl 56 _ rfl w.heap.size rfl (wc (zb, zk, xv, xg)) HBXu.out _ Try.underlying56 rfl It.Try.size_rw ?_ | refine or_store rfl 56 _ _ rfl g (4 * i) rfl (zb, zk, xv, xg) rfl 0 n cap1 L (HSu.out.or 0 rfl) i HIL.out rfl It.Try.size_rw ?_)
                intro w6 hor hg
                have H6 := Lib.hid (HSu.out.row 0 (L := L) (L' := L.set i (zb, zk, xv, xg)) rfl hor hg (.inl rfl))
                have g9 := fc_wr (s := gt D (n0 : Int)) (A := A) (B := B) (H6.out.blk 1 rfl) HS.out.seen.1 HS.out.snap.1 HA3.out.off
                have k9 := fc_free (s := gt D (n0 : Int)) (A := A) (B := B) (v := .slice sa n cap) (H6.out.blk 1 rfl) HS.out HA3.out.off 9 (by decide)
                have HT : Hid (DTab w0 (w6.setCell ⟨d, 10 * n0 + 9, none⟩ (.slice (some ⟨g, 0, none⟩) n cap1)) d D9 R) := by
                  show DTab _ _ _ _ _
                  rw [HD.out]
                  exact (HA3.out.back _ _ _ HOK9.out (fun h0 => absurd h0 (by intro e; have h7 := HIL.out; have e : L.set i (zb, zk, xv, xg) = [] := e; rw [List.set_eq_nil_iff] at e; rw [e] at h7; simp at h7)) (fc_swap H6.out HS.out HA3.out.off)).less
                clear hor hg
                go_wp2_with fail
                go_ret
                exact ⟨rfl, HT.out⟩
              · have hk2 := bytes_ne hk1
                refine region_w Try.mixed (by kernel_rfl) ?_
                refine w_value rfl (.slice (some ⟨g, 0, none⟩) n cap1) (fun u hu => by go_simp) (fun K hK => ?_)
                go_simp
                refine hK _ ?_
                clear hK K
                refine w_value rfl (.int .i64 (i : Int)) (fun u hu => by go_simp) (fun K hK => ?_)
                go_simp
                refine hK _ ?_
                clear hK K
                refine w_value rfl (.pointer (some ⟨g, 4 * i, none⟩)) (fun u hu => by have h9 := HIX.out u; go_simp) (fun K hK => ?_)
                go_simp
                refine hK _ ?_
                clear hK K
                refine w_value rfl (.pointer (some ⟨g, 4 * i, none⟩)) (fun u hu => by go_simp) (fun K hK => ?_)
                go_simp
                refine hK _ ?_
                clear hK K
                refine w_value rfl (.string zb) (fun u hu => by have h9 := (HCZ.out u hu).1.1; go_simp) (fun K hK => ?_)
                go_simp
                refine hK _ ?_
                clear hK K
                refine w_value rfl (.pointer (some ⟨w.heap.size, 0, none⟩)) (fun u hu => by go_simp) (fun K hK => ?_)
                go_simp
                refine hK _ ?_
                clear hK K
                refine w_value rfl (.string zb) (fun u hu => by have h9 := (HCZ.out u hu).2.1; go_simp) (fun K hK => ?_)
                go_simp
                refine hK _ ?_
                clear hK K
                refine w_value rfl (.bool true) (fun u hu => by go_simp) (fun K hK => ?_)
                go_simp
                refine hK _ ?_
                clear hK K
                refine w_value rfl (.bool true) (fun u hu => by go_simp) (fun K hK => ?_)
                go_simp
                refine hK _ ?_
                clear hK K
                refine wg_value (by rfl) (.slice (some ⟨g, 0, none⟩) n cap1) (fun u hu => by go_simp) (fun K hK => ?_)
                go_simp
                refine hK _ ?_
                clear hK K
                refine wg_value (by rfl) (.int .i64 (i : Int)) (fun u hu => by go_simp) (fun K hK => ?_)
                go_simp
                refine hK _ ?_
                clear hK K
                refine wg_value (by rfl) (.pointer (some ⟨g, 4 * i, none⟩)) (fun u hu => by have h9 := HIX.out u; go_simp) (fun K hK => ?_)
                go_simp
                refine hK _ ?_
                clear hK K
                refine wg_value (by rfl) (.pointer (some ⟨g, 4 * i + 1, none⟩)) (fun u hu => by go_simp) (fun K hK => ?_)
                go_simp
                refine hK _ ?_
                clear hK K
                refine wg_value (by rfl) (.string zk) (fun u hu => by have h9 := (HCZ.out u hu).1.2; go_simp) (fun K hK => ?_)
                go_simp
                refine hK _ ?_
                clear hK K
                refine wg_value (by rfl) (.pointer (some ⟨w.heap.size, 1, none⟩)) (fun u hu => by go_simp) (fun K hK => ?_)
                go_simp
                refine hK _ ?_
                clear hK K
                refine wg_value (by rfl) (.string xk) (fun u hu => by have h9 := (HCZ.out u hu).2.2; go_simp) (fun K hK => ?_)
                go_simp
                refine hK _ ?_
                clear hK K
                refine wg_value (by rfl) (.bool false) (fun u hu => by have h9 := hk2; go_simp) (fun K hK => ?_)
                go_simp
                refine hK _ ?_
                clear hK K
                refine w_value rfl (.bool false) (fun u hu => by go_simp) (fun K hK => ?_)
                go_simp
                refine hK _ ?_
                clear hK K
                refine w_nil ?_
                intro u hu
                have HB9 := Lib.hid (HBr.out.trans (hu.mono HBr.out.size))
                have HE' : Hid (∀ k, k < i + 1 → I.key (L.getD k I.none_) ≠ I.key (zb, xk, xv, xg)) := fun k hk => by
                  rcases Nat.lt_or_eq_of_le (Nat.le_of_lt_succ hk) with h9 | h9
                  · exact HEr.out k h9
                  · rw [h9, HZ.out]; exact fun e => hk1 (congrArg Prod.snd e)
                clear hu
                go_wp2_with fail
                go_roundw
                case rel => exact ⟨i + 1, by omega, by go_num, HE', HB9⟩
                case measure => simp [intOf]; omega
            · have hb2 := bytes_ne hb1
              refine region_w Try.mixed (by kernel_rfl) ?_
              refine w_value rfl (.slice (some ⟨g, 0, none⟩) n cap1) (fun u hu => by go_simp) (fun K hK => ?_)
              go_simp
              refine hK _ ?_
              clear hK K
              refine w_value rfl (.int .i64 (i : Int)) (fun u hu => by go_simp) (fun K hK => ?_)
              go_simp
              refine hK _ ?_
              clear hK K
              refine w_value rfl (.pointer (some ⟨g, 4 * i, none⟩)) (fun u hu => by have h9 := HIX.out u; go_simp) (fun K hK => ?_)
              go_simp
              refine hK _ ?_
              clear hK K
              refine w_value rfl (.pointer (some ⟨g, 4 * i, none⟩)) (fun u hu => by go_simp) (fun K hK => ?_)
              go_simp
              refine hK _ ?_
              clear hK K
              refine w_value rfl (.string zb) (fun u hu => by have h9 := (HCZ.out u hu).1.1; go_simp) (fun K hK => ?_)
              go_simp
              refine hK _ ?_
              clear hK K
              refine w_value rfl (.pointer (some ⟨w.heap.size, 0, none⟩)) (fun u hu => by go_simp) (fun K hK => ?_)
              go_simp
              refine hK _ ?_
              clear hK K
              refine w_value rfl (.string xb) (fun u hu => by have h9 := (HCZ.out u hu).2.1; go_simp) (fun K hK => ?_)
              go_simp
              refine hK _ ?_
              clear hK K
              refine w_value rfl (.bool false) (fun u hu => by have h9 := hb2; go_simp) (fun K hK => ?_)
              go_simp
              refine hK _ ?_
              clear hK K
              refine w_value rfl (.bool false) (fun u hu => by go_simp) (fun K hK => ?_)
              go_simp
              refine hK _ ?_
              clear hK K
              refine w_skip 8 true (some false) rfl rfl rfl (fun K hK => ?_)
              go_simp
              refine hK _ ?_
              clear hK K
              refine w_skip 8 true (some false) rfl rfl rfl (fun K hK => ?_)
              go_simp
              refine hK _ ?_
              clear hK K
              refine w_skip 8 true (some false) rfl rfl rfl (fun K hK => ?_)
              go_simp
              refine hK _ ?_
              clear hK K
              refine w_skip 8 true (some false) rfl rfl rfl (fun K hK => ?_)
              go_simp
              refine hK _ ?_
              clear hK K
              refine w_skip 8 true (some false) rfl rfl rfl (fun K hK => ?_)
              go_simp
              refine hK _ ?_
              clear hK K
              refine w_skip 8 true (some false) rfl rfl rfl (fun K hK => ?_)
              go_simp
              refine hK _ ?_
              clear hK K
              refine w_skip 8 true (some false) rfl rfl rfl (fun K hK => ?_)
              go_simp
              refine hK _ ?_
              clear hK K
              refine w_skip 8 true (some false) rfl rfl rfl (fun K hK => ?_)
              go_simp
              refine hK _ ?_
              clear hK K
              refine w_value rfl (.bool false) (fun u hu => by go_simp) (fun K hK => ?_)
              go_simp
              refine hK _ ?_
              clear hK K
              refine w_nil ?_
              intro u hu
              have HB9 := Lib.hid (HBr.out.trans (hu.mono HBr.out.size))
              have HE' : Hid (∀ k, k < i + 1 → I.key (L.getD k I.none_) ≠ I.key (xb, xk, xv, xg)) := fun k hk => by
                rcases Nat.lt_or_eq_of_le (Nat.le_of_lt_succ hk) with h9 | h9
                · exact HEr.out k h9
                · rw [h9, HZ.out]; exact fun e => hb1 (congrArg Prod.fst e)
              clear hu
              go_wp2_with fail
              go_roundw
              case rel => exact ⟨i + 1, by omega, by go_num, HE', HB9⟩
              case measure => simp [intOf]; omega
          · obtain rfl : i = n := by omega
            have hno : ix L (I.key x) = L.length := ix_none (fun y hy => by
              obtain ⟨k, hk, rfl⟩ := List.getElem_of_mem hy
              have h9 := HEr.out k (by rw [← HN.out]; exact hk)
              rw [List.getD_eq_getElem?_getD, List.getElem?_eq_getElem hk] at h9
              exact decide_eq_false h9)
            by_cases h8 : i = 8
            · subst h8
              obtain rfl : er = 4 := by rw [← HE.out]; unfold errPut; rw [hno, HN.out, if_neg (Nat.lt_irrefl _), if_pos rfl]
              obtain rfl : D9 = D := by rw [← HD9.out]; unfold aftWr; rw [HER.out]; rfl
              clear hno
              go_wp2_with fail
              go_ret
              exact ⟨rfl, (H4.out.below HBr.out).less⟩
            · have hpl : putL L x = L ++ [x] := by unfold putL; rw [hno, if_neg (Nat.lt_irrefl _)]
              obtain rfl : er = 0 := by rw [← HE.out]; unfold errPut; rw [hno, HN.out, if_neg (Nat.lt_irrefl _), if_neg h8]
              have hd9 := HKN.out rfl
              have hok9 := HPO.out rfl
              rw [hpl] at hd9 hok9
              have HD := Lib.hid hd9
              have HOK9 := Lib.hid hok9
              have i8 : ¬ (8 : Int) ≤ (i : Int) := by omega
              have HSd := Lib.hid (sep_drew HSr.out)
              clear hno hpl hd9 hok9
              go_wp2_with fail
              refine region_pickC (fun u => Blk u w.heap.size (wc x)) 11 [0, 1, 2, 3, 6, 7] [4, 5, 8, 9, 10] Try.mixed (by kernel_rfl) rfl (by kernel_rfl) (HSd.out.blk 3 rfl) ?_
              refine p_readC rfl ?_
              refine c_move rfl _ rfl (.pointer (some ⟨d, 0, none⟩)) rfl (fun _ _ _ h => h) (fun K hK => ?_)
              go_simp
              refine hK _ ?_
              clear hK K
              refine c_nil ?_
              refine p_readC rfl ?_
              refine c_move rfl _ rfl (.int .i64 (n0 : Int)) rfl (fun _ _ _ h => h) (fun K hK => ?_)
              go_simp
              refine hK _ ?_
              clear hK K
              refine c_nil ?_
              refine p_readC rfl ?_
              refine c_move rfl _ rfl (.slice sb i cap1) rfl (fun _ _ _ h => h) (fun K hK => ?_)
              go_simp
              refine hK _ ?_
              clear hK K
              refine c_nil ?_
              refine p_readC rfl ?_
              refine ct_mid_load rfl 56 _ rfl w.heap.size 0 rfl (wc x) (fun u hu => hu.1) _ Try.underlying56 rfl It.Try.size_rw (fun _ _ _ h => h) (fun K hK => ?_)
              go_simp
              refine hK _ ?_
              clear hK K
              refine c_nil ?_
              refine p_readC rfl ?_
              refine c_value rfl (.pointer (some ⟨d, 0, none⟩)) (fun u hu => by go_simp) (fun _ _ _ h => h) (fun K hK => ?_)
              go_simp
              refine hK _ ?_
              clear hK K
              refine c_nil ?_
              refine p_readC rfl ?_
              refine c_value rfl (.pointer (some ⟨d, 0, none⟩)) (fun u hu => by go_simp) (fun _ _ _ h => h) (fun K hK => ?_)
              go_simp
              refine hK _ ?_
              clear hK K
              refine c_nil ?_
              refine p_nilC ?_
              refine p_stepC rfl ?_
              refine build_rw rfl _ rfl x rfl ?_
              intro w5 A5 B5 Z5
              have H5 := Lib.hid (HSd.out.below B5)
              have HM5 : Hid (IsR wk w5 (.slice (some ⟨wr.drew.heap.size, 0, none⟩) 1 1) [x]) := IsR.one (K := wk) A5 (by rw [Z5]; exact Nat.lt_succ_self _)
              clear A5 B5 Z5
              go_wp2_with fail
              refine And.intro (fun _ => H5.out.blk 3 rfl) ?_
              refine p_stepC rfl ?_
              obtain ⟨v2, w6, hrr, hor, hg, hnw⟩ := append_any (K := wk) 33 Try.underlying33 inf_rw rfl w5 0 (.slice sb i cap1) L (H5.out.or 0 rfl) (.slice (some ⟨wr.drew.heap.size, 0, none⟩) 1 1) [x] HM5.out (by have := HL8.out; simp; omega) (by decide) (Nat.zero_le _)
              refine append_step rfl _ _ _ _ rfl rfl rfl hrr ?_
              have H6 := Lib.hid (H5.out.row 0 (L := L) (L' := L ++ [x]) rfl hor hg hnw)
              obtain ⟨m, HMM⟩ : ∃ m, Hid ((L ++ [x]).length = m) := ⟨_, rfl⟩
              obtain ⟨s2, cap2, ev2⟩ : ∃ s2 cap2, v2 = .slice s2 m cap2 := by rw [← HMM.out]; exact or_slice hor
              subst ev2
              have g9 := fc_wr (s := gt D (n0 : Int)) (A := A) (B := B) (H6.out.blk 1 rfl) HS.out.seen.1 HS.out.snap.1 HA3.out.off
              have k9 := fc_free (s := gt D (n0 : Int)) (A := A) (B := B) (v := .slice sa i cap) (H6.out.blk 1 rfl) HS.out HA3.out.off 9 (by decide)
              clear hrr hor hg hnw
              go_wp2_with fail
              refine And.intro (fun _ => H6.out.blk 3 rfl) ?_
              refine p_stepC rfl ?_
              have h9 := HIX0.out
              go_wp2_with fail
              clear h9
              refine And.intro (fun _ => H6.out.blk 3 rfl) ?_
              refine p_stepC rfl ?_
              go_wp2_with fail
              refine And.intro (fun _ => H6.out.blk 3 rfl) ?_
              refine p_stepC rfl ?_
              have HSW := Lib.hid (fc_swap H6.out HS.out HA3.out.off)
              have HT : Hid (DTab w0 (w6.setCell ⟨d, 10 * n0 + 9, none⟩ (.slice s2 m cap2)) d D9 R) := by
                show DTab _ _ _ _ _
                rw [HD.out]
                exact (HA3.out.back _ _ _ HOK9.out (fun h0 => absurd h0 (by simp)) HSW.out).less
              go_wp2_with fail
              refine And.intro (fun _ => HSW.out.blk 2 rfl) ?_
              refine p_endC ?_
              go_wp2_with fail
              go_ret
              exact ⟨rfl, HT.out⟩
end

end Go.Proofs.Ytkiaehehckmpnaa.Zm
