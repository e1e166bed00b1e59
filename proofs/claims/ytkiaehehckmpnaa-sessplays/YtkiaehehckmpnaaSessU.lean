/- sess: what the table tells: Seen, Snapshot, Own, Writes. -/
import Derived.Test.YtkiaehehckmpnaaSessT

namespace Go.Proofs.Ytkiaehehckmpnaa.Zm

open Go.RowKit Go.Proofs.Ytkiaehehckmpnaa.Vc Go.Proofs.Ytkiaehehckmpnaa.Sp Go.Proofs.Ytkiaehehckmpnaa.Rw Go.Proofs.Ytkiaehehckmpnaa.Se Go.Proofs.Ytkiaehehckmpnaa.It Go.Proofs.Ytkiaehehckmpnaa.Z

set_option linter.unusedVariables false

set_option linter.unusedSimpArgs false

set_option maxRecDepth 100000

section

variable {w0 w : World} {b : Nat} {S : List Ss} {R : List Rg}

set_option maxHeartbeats 4000000 in
theorem tseen_any (h : Tab w0 w b S R) (id : Int) :
    Calls Try.prog 28 #[.pointer (some ⟨b, 0, none⟩), .int .i64 id] w fun e w' => e = .returned (AV .u64 (gt S id).seen) ∧ Below w.heap.size w w' := by
  have H := Lib.hid h
  obtain ⟨l, HL⟩ : ∃ l, Hid ((gt S id).seen = l) := ⟨_, rfl⟩
  have h4 : l.length = 4 := by rw [← HL.out]; exact (gt_ok h.good.ok id).seen.1
  rw [HL.out]
  have HV4 : Hid ((Try.prog.info? 25).map (·.size) = some l.length) := size_v h4
  have H4 := Lib.hid h4
  clear h h4
  go_enter Try.func28, Try.ntmps28
  go_wp2_with (first | refine arr_alloc rfl .u64 25 4 rfl Try.info_v ?_)
  intro w1 A1 B1 Z1
  have CF := Lib.hid (find_any (H.out.below B1) id)
  have HA1 := Lib.hid A1
  have HB1 := Lib.hid B1
  have HZ1 := Lib.hid Z1
  clear A1 B1 Z1
  go_wp2_with fail
  refine (CF.out).mono ?_; rintro e w2 ⟨g, o, A, B, v, X, rfl, hA, hb, -⟩
  have HR : Hid (w2.rangeAt g o (ks .u64 l)) := by show World.rangeAt _ _ _ _; rw [← HL.out]; exact fc_seen (fc_blk hA.sep) hA.off
  have HA2 : Hid (Arr .u64 w2 w.heap.size (List.replicate 4 0)) := HA1.out.below hb (by rw [HZ1.out]; omega)
  have HB2 : Hid (Below w.heap.size w w2) := HB1.out.trans (hb.mono HB1.out.size)
  clear hA hb CF
  go_wp2_with (first | refine row_load rfl .u64 25 _ rfl g o rfl l HR.out 4 23 Try.underlying25 HV4.out ?_ | refine arr_store rfl .u64 25 _ _ rfl w.heap.size rfl l rfl _ HA2.out (by rw [H4.out]; rfl) HV4.out ?_)
  intro w3 A3 U3
  have HA3 := Lib.hid A3
  have HB3 : Hid (Below w.heap.size w w3) := HB2.out.trans (U3.below (Nat.le_refl _))
  clear A3 U3
  go_wp2_with fail
  refine bodyPost_ret ?_ rfl ⟨rfl, HB3.out⟩
  exact res_arr (t := 25) Try.results28 _ .u64 w.heap.size rfl l HA3.out 4 23 Try.underlying25 HV4.out
set_option maxHeartbeats 4000000 in
theorem tsnap_any (h : Tab w0 w b S R) (id : Int) :
    Calls Try.prog 22 #[.pointer (some ⟨b, 0, none⟩), .int .i64 id] w fun e w' => e = .returned (.tuple #[AV .u64 (gt S id).snap, .bool (gt S id).opn]) ∧ Below w.heap.size w w' := by
  have H := Lib.hid h
  have hlt := h.lt
  obtain ⟨l, HL⟩ : ∃ l, Hid ((gt S id).snap = l) := ⟨_, rfl⟩
  obtain ⟨q, HQ⟩ : ∃ q, Hid ((gt S id).opn = q) := ⟨_, rfl⟩
  have h4 : l.length = 4 := by rw [← HL.out]; exact (gt_ok h.good.ok id).snap.1
  have HS := Lib.hid (gt_ok h.good.ok id).seen.1
  rw [HL.out, HQ.out]
  have HV4 : Hid ((Try.prog.info? 25).map (·.size) = some l.length) := size_v h4
  have HK4 : Hid ((Try.prog.info? 25).map (·.size) = some (ks .u64 l).length) := by show _ = _; rw [ks_length]; exact HV4.out
  have H4 := Lib.hid h4
  have HLT := Lib.hid hlt
  clear h h4 hlt
  go_enter Try.func22, Try.ntmps22
  go_wp2_with (first | refine arr_alloc rfl .u64 25 4 rfl Try.info_v ?_)
  intro w1 A1 B1 Z1
  have CF := Lib.hid (find_any (H.out.below B1) id)
  have HA1 := Lib.hid A1
  have HB1 := Lib.hid B1
  have HZ1 := Lib.hid Z1
  clear A1 B1 Z1
  go_wp2_with fail
  refine (CF.out).mono ?_; rintro e w2 ⟨g, o, A, B, v, X, rfl, hA, hb, hg⟩
  have HNE : Hid (g ≠ w.heap.size) := fun e => by have := HLT.out; have := HZ1.out; omega
  have HD : Hid (w2.drew.rangeAt g (o + 5) (ks .u64 l) ∧ w2.drew.cell? ⟨g, o + 4, none⟩ = some (.bool q)) := by
    have hD := sep_drew hA.sep
    refine ⟨?_, ?_⟩
    · rw [← HL.out]; exact fc_snap (fc_blk hD) HS.out hA.off
    · rw [← HQ.out]; exact fc_open (fc_blk hD) HS.out hA.off
  have HA2 : Hid (Arr .u64 w2.drew w.heap.size (List.replicate 4 0)) := (HA1.out.below hb (by rw [HZ1.out]; omega)).drew
  have HB2 : Hid (Below w.heap.size w w2.drew) := (HB1.out.trans (hb.mono HB1.out.size)).drew
  clear hA hb CF hg
  go_wp2_with fail
  refine region_pickC (fun u => u.rangeAt g (o + 5) (ks .u64 l) ∧ u.cell? ⟨g, o + 4, none⟩ = some (.bool q)) 9 [0, 1, 2, 3, 4, 5, 6, 7] [8, 9] Try.mixed (by kernel_rfl) rfl (by kernel_rfl) HD.out ?_
  refine p_readC rfl ?_
  refine c_move rfl _ rfl (.pointer (some ⟨g, o, none⟩)) rfl (fun _ _ _ h => h) (fun K hK => ?_)
  go_simp
  refine hK _ ?_
  clear hK K
  refine c_nil ?_
  refine p_readC rfl ?_
  refine c_value rfl (.pointer (some ⟨g, o, none⟩)) (fun u hu => by go_simp) (fun _ _ _ h => h) (fun K hK => ?_)
  go_simp
  refine hK _ ?_
  clear hK K
  refine c_nil ?_
  refine p_readC rfl ?_
  refine c_value rfl (.pointer (some ⟨g, o + 5, none⟩)) (fun u hu => by go_simp) (fun _ _ _ h => h) (fun K hK => ?_)
  go_simp
  refine hK _ ?_
  clear hK K
  refine c_nil ?_
  refine p_readC rfl ?_
  refine ct_mid_load rfl 25 _ rfl g (o + 5) rfl (ks .u64 l) (fun u hu => hu.1) _ Try.underlying25 rfl HK4.out (fun _ _ _ h => h) (fun K hK => ?_)
  go_simp
  refine hK _ ?_
  clear hK K
  refine c_nil ?_
  refine p_readC rfl ?_
  refine c_move rfl _ rfl (.pointer (some ⟨g, o, none⟩)) rfl (fun _ _ _ h => h) (fun K hK => ?_)
  go_simp
  refine hK _ ?_
  clear hK K
  refine c_nil ?_
  refine p_readC rfl ?_
  refine c_value rfl (.pointer (some ⟨g, o, none⟩)) (fun u hu => by go_simp) (fun _ _ _ h => h) (fun K hK => ?_)
  go_simp
  refine hK _ ?_
  clear hK K
  refine c_nil ?_
  refine p_readC rfl ?_
  refine c_value rfl (.pointer (some ⟨g, o + 4, none⟩)) (fun u hu => by go_simp) (fun _ _ _ h => h) (fun K hK => ?_)
  go_simp
  refine hK _ ?_
  clear hK K
  refine c_nil ?_
  refine p_readC rfl ?_
  refine c_value rfl (.bool q) (fun u hu => by have h9 := hu.2; go_simp) (fun _ _ _ h => h) (fun K hK => ?_)
  go_simp
  refine hK _ ?_
  clear hK K
  refine c_nil ?_
  refine p_nilC ?_
  refine p_stepC rfl ?_
  refine arr_store rfl .u64 25 _ _ rfl w.heap.size rfl l rfl _ HA2.out (by rw [H4.out]; rfl) HV4.out ?_
  intro w3 A3 U3
  have HA3 := Lib.hid A3
  have HB3 : Hid (Below w.heap.size w w3) := HB2.out.trans (U3.below (Nat.le_refl _))
  have HS3 : Hid (w3.rangeAt g (o + 5) (ks .u64 l) ∧ w3.cell? ⟨g, o + 4, none⟩ = some (.bool q)) := ⟨range_upd U3 HNE.out HD.out.1, by rw [cell_upd U3 HNE.out]; exact HD.out.2⟩
  clear A3 U3
  go_wp2_with fail
  refine And.intro (fun _ => HS3.out) ?_
  refine p_stepC rfl ?_
  go_wp2_with fail
  refine And.intro (fun h9 => absurd h9 (by decide)) ?_
  refine p_endC ?_
  go_wp2_with fail
  refine bodyPost_ret ?_ rfl ⟨rfl, HB3.out⟩
  exact res_arr2 (t := 25) Try.results22 _ .u64 w.heap.size rfl l HA3.out 4 23 Try.underlying25 HV4.out
set_option maxHeartbeats 4000000 in
theorem town_any (h : Tab w0 w b S R) (id : Int) (bk ky : ByteArray) :
    Calls Try.prog 24 #[.pointer (some ⟨b, 0, none⟩), .int .i64 id, .string bk, .string ky] w fun e w' => e = .returned (.tuple #[WV (ownV (gt S id).wr (bk, ky)), .bool (ownB (gt S id).wr (bk, ky))]) ∧ Below w.heap.size w w' := by
  have H := Lib.hid h
  have HS := Lib.hid (gt_ok h.good.ok id)
  obtain ⟨y, HY⟩ : ∃ y, Hid (ownV (gt S id).wr (bk, ky) = y) := ⟨_, rfl⟩
  obtain ⟨q, HQ⟩ : ∃ q, Hid (ownB (gt S id).wr (bk, ky) = q) := ⟨_, rfl⟩
  rw [HY.out, HQ.out]
  clear h
  go_enter Try.func24, Try.ntmps24
  go_wp2_with (first | refine blk_alloc rfl 41 (wc I.none_) rfl It.Try.info_iw2 ?_)
  intro w1 A1 B1 Z1
  have CF := Lib.hid (find_any (H.out.below B1) id)
  have HA1 := Lib.hid A1
  have HB1 := Lib.hid B1
  have HZ1 := Lib.hid Z1
  clear A1 B1 Z1
  go_wp2_with fail
  refine (CF.out).mono ?_; rintro e w2 ⟨g, o, A, B, v, X, rfl, hA, hb, -⟩
  have HX := Lib.hid hA
  have HA2 : Hid (Blk w2 w.heap.size (wc I.none_)) := HA1.out.below hb (by rw [HZ1.out]; omega)
  have HZ2 : Hid (w.heap.size < w2.heap.size) := by show _ < _; have := hb.size; have := HZ1.out; omega
  have HB2 : Hid (Below w.heap.size w w2) := HB1.out.trans (hb.mono HB1.out.size)
  have CN := Lib.hid (named_mk bk ky w2)
  clear hA hb CF
  go_wp2_with fail
  refine (CN.out).mono ?_; rintro e w3 ⟨rfl, hp, hq, hb, hz⟩
  have CP := Lib.hid (pick_any (HX.out.below hb).sep HS.out HX.out.off bk ky w2.heap.size (w2.heap.size + 1) hp hq (by omega) (by omega))
  rw [HY.out, HQ.out] at CP
  have HA3 : Hid (Blk w3 w.heap.size (wc I.none_)) := HA2.out.below hb HZ2.out
  have HZ3 : Hid (w.heap.size < w3.heap.size) := Nat.lt_of_lt_of_le HZ2.out hb.size
  have HB3 : Hid (Below w.heap.size w w3) := HB2.out.trans (hb.mono HB2.out.size)
  clear hp hq hb hz CN
  go_wp2_with fail
  refine (CP.out).mono ?_; rintro e w4 ⟨rfl, hb⟩
  have HA4 : Hid (Blk w4 w.heap.size (wc I.none_)) := HA3.out.below hb HZ3.out
  have HB4 : Hid (Below w.heap.size w w4) := HB3.out.trans (hb.mono HB3.out.size)
  clear hb CP
  go_wp2_with (first | refine blk_store rfl 41 _ _ rfl w.heap.size rfl (wc y) rfl (wc I.none_) HA4.out rfl It.Try.size_w (It.one_wc y) ?_)
  intro w5 A5 U5
  have HA5 := Lib.hid A5
  have HB5 : Hid (Below w.heap.size w w5) := HB4.out.trans (U5.below (Nat.le_refl _))
  clear A5 U5
  go_wp2_with fail
  refine bodyPost_ret ?_ rfl ⟨rfl, HB5.out⟩
  exact res_blk2 (t := 41) Try.results24 _ w.heap.size rfl (wc y) HA5.out _ Try.underlying41 rfl It.Try.size_w
set_option maxHeartbeats 4000000 in
theorem twrites_any (h : Tab w0 w b S R) (id : Int) :
    Calls Try.prog 26 #[.pointer (some ⟨b, 0, none⟩), .int .i64 id] w fun e w' => ∃ v', e = .returned v' ∧ OR wk 41 w' w.heap.size v' (gt S id).wr ∧ Below w.heap.size w w' := by
  have HS := Lib.hid (gt_ok h.good.ok id)
  have CF := Lib.hid (find_any h id)
  clear h
  obtain ⟨L, HL⟩ : ∃ L, Hid ((gt S id).wr = L) := ⟨_, rfl⟩
  rw [HL.out]
  go_enter Try.func26, Try.ntmps26
  go_wp2_with fail
  refine (CF.out).mono ?_; rintro e w2 ⟨g, o, A, B, v, X, rfl, hA, hb, -⟩
  have c9 := fc_wr (fc_blk hA.sep) HS.out.seen.1 HS.out.snap.1 hA.off
  have ho := fc_or hA.sep
  rw [HL.out] at ho
  have CC := Lib.hid (cloneWt v L w2 ho.is (fun hn => by
    rcases ho.row with ⟨_, h2⟩ | ⟨gg, cap, cur, hv, _⟩
    · exact h2
    · rw [hv] at hn; cases hn) (by have := HS.out.len; rw [HL.out] at this; omega))
  obtain ⟨sa, cap, ev⟩ : ∃ sa cap, v = .slice sa L.length cap := or_slice ho
  have HB2 := Lib.hid hb
  clear hA hb CF ho
  subst ev
  generalize L.length = n at *
  go_wp2_with fail
  refine (CC.out).mono ?_; rintro e w3 ⟨v', rfl, ho, hb⟩
  have HO3 := Lib.hid (ho.mono HB2.out.size)
  have HB3 := Lib.hid (HB2.out.trans (hb.mono HB2.out.size))
  obtain ⟨sb, cap', ev⟩ : ∃ sb cap', v' = .slice sb L.length cap' := or_slice ho
  subst ev
  clear ho hb CC
  generalize L.length = m at *
  go_wp2_with fail
  go_ret
  exact ⟨_, rfl, HO3.out, HB3.out⟩
theorem clone_nil (w : World) : Calls Try.prog 54 #[nil_] w fun e w' => e = .returned nil_ ∧ w' = w := by
  have hnil : ∀ w, (binOp .eql 58 (.slice none 0 0) (.slice none 0 0)).run Try.prog w = .ok (.bool true) w := fun w => Lib.run_eql_slice_nil w 58 41 none 0 0 0 0 Try.underlying58
  unfold nil_
  go_enter Try.func54, Try.ntmps54
  go_wp2_with fail
  go_ret
  exact ⟨rfl, rfl⟩
theorem twrites_nil (h : Tab w0 w b S R) (id : Int) (h0 : (gt S id).wr = []) :
    Calls Try.prog 26 #[.pointer (some ⟨b, 0, none⟩), .int .i64 id] w fun e w' => e = .returned nil_ ∧ Below w.heap.size w w' := by
  have HS := Lib.hid (gt_ok h.good.ok id)
  have CF := Lib.hid (find_any h id)
  have H0 := Lib.hid h0
  have CC := Lib.hid clone_nil
  clear h h0
  unfold nil_ at *
  go_enter Try.func26, Try.ntmps26
  go_wp2_with fail
  refine (CF.out).mono ?_; rintro e w2 ⟨g, o, A, B, v, X, rfl, hA, hb, -⟩
  have c9 := fc_wr (fc_blk hA.sep) HS.out.seen.1 HS.out.snap.1 hA.off
  have hv : v = .slice none 0 0 := hA.nl H0.out
  rw [hv] at c9
  have HB2 := Lib.hid hb
  clear hA hb CF hv
  go_wp2_with fail
  refine (CC.out _).mono ?_; rintro e w3 ⟨rfl, hw⟩
  subst hw
  go_wp2_with fail
  go_ret
  exact ⟨rfl, HB2.out⟩
end

end Go.Proofs.Ytkiaehehckmpnaa.Zm
