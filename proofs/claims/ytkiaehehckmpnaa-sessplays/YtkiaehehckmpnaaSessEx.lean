/- sess: the chapter's examples; a new table; the laws' vectors. -/
import Derived.Test.YtkiaehehckmpnaaSessU

import Derived.Test.YtkiaehehckmpnaaSessY

import Derived.Test.YtkiaehehckmpnaaSessH

import Derived.Test.YtkiaehehckmpnaaVecOfN

namespace Go.Proofs.Ytkiaehehckmpnaa.Zm

open Go.RowKit Go.Proofs.Ytkiaehehckmpnaa.Vc Go.Proofs.Ytkiaehehckmpnaa.Sp Go.Proofs.Ytkiaehehckmpnaa.Rw Go.Proofs.Ytkiaehehckmpnaa.Se Go.Proofs.Ytkiaehehckmpnaa.It Go.Proofs.Ytkiaehehckmpnaa.Z

set_option linter.unusedVariables false

set_option linter.unusedSimpArgs false

set_option maxRecDepth 100000

theorem nilrows {w0 w : World} {R : List Rg} (h : Sep w0 w R) : ∀ n, Sep w0 w (List.replicate n (rO wk 41 0 nil_ []) ++ R)
  | 0 => h
  | n + 1 => by
    rw [List.replicate_succ, List.cons_append]
    exact (nilrows h n).nilrow wk 41 0
theorem Tab.new {w0 w w' : World} {R : List Rg} (h : Sep w0 w R) (hb : Below w.heap.size w w') (hz : w'.heap.size = w.heap.size + 1) (hB : Blk w' w.heap.size (cT (List.replicate 8 (nos, nil_)))) : Tab w0 w' w.heap.size (List.replicate 8 nos) R := by
  refine ⟨good0, shut0, List.replicate 8 (nos, nil_), by simp, fun p hp => by rw [List.eq_of_mem_replicate hp]; exact fun _ => rfl, ?_⟩
  have h1 := ((nilrows h 8).box hb hz hB)
  refine h1.perm ?_
  have e : rT 41 (List.replicate 8 (nos, nil_)) = List.replicate 8 (rO wk 41 0 nil_ []) := by simp [rT, nos]
  unfold tb
  rw [e]
  exact (List.perm_append_comm (l₁ := rB w.heap.size (cT (List.replicate 8 (nos, nil_))) :: List.replicate 8 (rO wk 41 0 nil_ [])) (l₂ := R))
def S0 : List Ss := List.replicate 8 nos
theorem newtab_any {w0 w : World} {R : List Rg} (h : Sep w0 w R) : Calls Try.prog 10 #[] w fun e w' => ∃ b, e = .returned (.pointer (some ⟨b, 0, none⟩)) ∧ Tab w0 w' b S0 R := by
  refine (new_any w).mono ?_
  rintro e w' ⟨he, hB, hb, hz⟩
  exact ⟨_, he, Tab.new h hb hz hB⟩
def xv : List Nat := [1, 2, 0, 0]
def xw : I.Wt := (⟨#[98]⟩, ⟨#[107]⟩, ⟨#[118]⟩, false)
def X1 : List Ss := aftBeg S0 1 xv
def X2 : List Ss := aftWr X1 1 xw
def X3 : List Ss := aftEnd X2 1
def X4 : List Ss := aftSee X3 3 xv
theorem xv_ok : V.Ok xv := ⟨rfl, by decide⟩
theorem e1 : errWr S0 1 xw = 5 := by decide +kernel
theorem a1 : aftWr S0 1 xw = S0 := by unfold aftWr; rw [e1]; rfl
theorem e2 : errBeg S0 1 xv = 0 := by decide +kernel
theorem e3 : errBeg X1 1 xv = 6 := by decide +kernel
theorem a3 : aftBeg X1 1 xv = X1 := by unfold aftBeg; rw [e3]; rfl
theorem e4 : errBeg X1 9 xv = 1 := by decide +kernel
theorem a4 : aftBeg X1 9 xv = X1 := by unfold aftBeg; rw [e4]; rfl
theorem e5 : errWr X1 1 xw = 0 := by decide +kernel
theorem e6 : (gt X2 1).snap = xv := by decide +kernel
theorem e7 : (gt X2 1).opn = true := by decide +kernel
theorem e8 : ownV (gt X2 1).wr (⟨#[98]⟩, ⟨#[107]⟩) = xw := by decide +kernel
theorem e9 : ownB (gt X2 1).wr (⟨#[98]⟩, ⟨#[107]⟩) = true := by decide +kernel
theorem e10 : ownV (gt X2 2).wr (⟨#[98]⟩, ⟨#[107]⟩) = I.none_ := by decide +kernel
theorem e11 : ownB (gt X2 2).wr (⟨#[98]⟩, ⟨#[107]⟩) = false := by decide +kernel
theorem e12 : horizon X2 [5, 1, 0, 0] = [1, 1, 0, 0] := by decide +kernel
theorem e13 : many X2 = 1 := by decide +kernel
theorem e14 : errEnd X2 1 = 0 := by decide +kernel
theorem e15 : errEnd X3 1 = 5 := by decide +kernel
theorem a15 : aftEnd X3 1 = X3 := by unfold aftEnd; rw [if_neg (by decide +kernel)]
theorem e16 : okSee 3 xv = true := by decide +kernel
theorem e17 : (gt X4 3).seen = xv := by decide +kernel
theorem e18 : (gt X4 1).wr = [] := by decide +kernel
theorem e19 : V.sum [1, 1, 0, 0] = 2 := by decide +kernel
theorem e20 : V.at_ [1, 1, 0, 0] 1 = 1 := by decide +kernel
set_option maxHeartbeats 8000000 in
theorem examples_any (w : World) :
    Calls Try.prog 9 #[] w fun e w' => e = .returned (.bool true) ∧ Below w.heap.size w w' := by
  have HN := Lib.hid (newtab_any (Sep.start w))
  have E12 := Lib.hid e12
  have CSM := Lib.hid (fun u => sum_any [1, 1, 0, 0] u rfl)
  have CAT := Lib.hid (fun u => at_any [1, 1, 0, 0] 1 u rfl)
  rw [e19] at CSM
  rw [e20] at CAT
  go_enter Try.func9, Try.ntmps9
  go_wp2_with fail
  refine (HN.out).mono ?_; rintro e w1 ⟨b, rfl, ht⟩
  have H1 := Lib.hid ht
  clear ht HN
  go_wp2_with (first | refine blk_alloc rfl 25 (ks .u64 [0, 0, 0, 0]) rfl Try.info_v ?_)
  intro w2 A2 B2 Z2
  have HA := Lib.hid A2
  have HB := Lib.hid B2
  have HZ := Lib.hid Z2
  clear A2 B2 Z2
  go_wp2_with (first | refine blk_store rfl 25 _ _ rfl w1.heap.size rfl (ks .u64 xv) rfl (ks .u64 [0, 0, 0, 0]) HA.out rfl Try.size_v (ks_all _ _) ?_)
  intro w3 A3 U3
  have H3 := Lib.hid (H1.out.fresh HB.out HZ.out U3 A3)
  clear A3 U3 HA HB HZ H1
  go_wp2_with (first | refine blk_alloc rfl 41 (wc I.none_) rfl It.Try.info_iw2 ?_)
  intro w4 A4 B4 Z4
  have HA := Lib.hid A4
  have HB := Lib.hid B4
  have HZ := Lib.hid Z4
  clear A4 B4 Z4
  go_wp2_with (first | refine blk_store rfl 41 _ _ rfl w3.heap.size rfl (wc xw) rfl (wc I.none_) HA.out rfl It.Try.size_w (It.one_wc xw) ?_)
  intro w5 A5 U5
  have H5 := Lib.hid (H3.out.fresh HB.out HZ.out U5 A5)
  clear A5 U5 HA HB HZ H3
  have C := Lib.hid (twrite_any H5.out 1 xw)
  rw [e1, a1] at C
  go_wp2_with (first | refine blk_load rfl 41 _ rfl w3.heap.size rfl (wc xw) (H5.out.sep.blk 0 rfl) _ Try.underlying41 rfl It.Try.size_w ?_)
  refine (C.out).mono ?_; rintro e w6 ⟨rfl, ht⟩
  have H6 := Lib.hid ht
  clear ht C H5
  have C := Lib.hid (tbegin_any H6.out 1 xv xv_ok)
  rw [e2] at C
  go_wp2_with (first | refine blk_load rfl 25 _ rfl w1.heap.size rfl (ks .u64 xv) (H6.out.sep.blk 1 rfl) _ Try.underlying25 rfl Try.size_v ?_)
  refine (C.out).mono ?_; rintro e w7 ⟨rfl, ht⟩
  have H7 := Lib.hid ht
  clear ht C H6
  have H7 : Hid (Tab w w7 b X1 [_, _]) := H7
  have C := Lib.hid (tbegin_any H7.out 1 xv xv_ok)
  rw [e3, a3] at C
  go_wp2_with (first | refine blk_load rfl 25 _ rfl w1.heap.size rfl (ks .u64 xv) (H7.out.sep.blk 1 rfl) _ Try.underlying25 rfl Try.size_v ?_)
  refine (C.out).mono ?_; rintro e w8 ⟨rfl, ht⟩
  have H8 := Lib.hid ht
  clear ht C H7
  have C := Lib.hid (tbegin_any H8.out 9 xv xv_ok)
  rw [e4, a4] at C
  go_wp2_with (first | refine blk_load rfl 25 _ rfl w1.heap.size rfl (ks .u64 xv) (H8.out.sep.blk 1 rfl) _ Try.underlying25 rfl Try.size_v ?_)
  refine (C.out).mono ?_; rintro e w9 ⟨rfl, ht⟩
  have H9 := Lib.hid ht
  clear ht C H8
  have C := Lib.hid (twrite_any H9.out 1 xw)
  rw [e5] at C
  go_wp2_with (first | refine blk_load rfl 41 _ rfl w3.heap.size rfl (wc xw) (H9.out.sep.blk 0 rfl) _ Try.underlying41 rfl It.Try.size_w ?_)
  refine (C.out).mono ?_; rintro e w10 ⟨rfl, ht⟩
  have H10 := Lib.hid ht
  clear ht C H9
  have H10 : Hid (Tab w w10 b X2 [_, _]) := H10
  have C := Lib.hid (tsnap_any H10.out 1)
  rw [e6, e7] at C
  go_wp2_with fail
  refine (C.out).mono ?_; rintro e w11 ⟨rfl, hb⟩
  have H11 := Lib.hid (H10.out.below hb)
  clear hb C H10
  go_wp2_with (first | refine blk_alloc rfl 25 (ks .u64 [0, 0, 0, 0]) rfl Try.info_v ?_)
  intro w12 A12 B12 Z12
  have HA := Lib.hid A12
  have HB := Lib.hid B12
  have HZ := Lib.hid Z12
  clear A12 B12 Z12
  go_wp2_with (first | refine blk_store rfl 25 _ _ rfl w11.heap.size rfl (ks .u64 xv) rfl (ks .u64 [0, 0, 0, 0]) HA.out rfl Try.size_v (ks_all _ _) ?_)
  intro w13 A13 U13
  have H13 := Lib.hid (H11.out.fresh HB.out HZ.out U13 A13)
  clear A13 U13 HA HB HZ H11
  have C := Lib.hid (town_any H13.out 1 ⟨#[98]⟩ ⟨#[107]⟩)
  rw [e8, e9] at C
  go_wp2_with fail
  refine (C.out).mono ?_; rintro e w14 ⟨rfl, hb⟩
  have H14 := Lib.hid (H13.out.below hb)
  clear hb C H13
  go_wp2_with (first | refine blk_alloc rfl 41 (wc I.none_) rfl It.Try.info_iw2 ?_)
  intro w15 A15 B15 Z15
  have HA := Lib.hid A15
  have HB := Lib.hid B15
  have HZ := Lib.hid Z15
  clear A15 B15 Z15
  go_wp2_with (first | refine blk_store rfl 41 _ _ rfl w14.heap.size rfl (wc xw) rfl (wc I.none_) HA.out rfl It.Try.size_w (It.one_wc xw) ?_)
  intro w16 A16 U16
  have H16 := Lib.hid (H14.out.fresh HB.out HZ.out U16 A16)
  clear A16 U16 HA HB HZ H14
  have C := Lib.hid (town_any H16.out 2 ⟨#[98]⟩ ⟨#[107]⟩)
  rw [e10, e11] at C
  go_wp2_with fail
  refine (C.out).mono ?_; rintro e w17 ⟨rfl, hb⟩
  have H17 := Lib.hid (H16.out.below hb)
  clear hb C H16
  go_wp2_with (first | refine blk_alloc rfl 41 (wc I.none_) rfl It.Try.info_iw2 ?_)
  intro w18 A18 B18 Z18
  have HA := Lib.hid A18
  have HB := Lib.hid B18
  have HZ := Lib.hid Z18
  clear A18 B18 Z18
  go_wp2_with (first | refine blk_store rfl 41 _ _ rfl w17.heap.size rfl (wc I.none_) rfl (wc I.none_) HA.out rfl It.Try.size_w (It.one_wc I.none_) ?_)
  intro w19 A19 U19
  have H19 := Lib.hid (H17.out.fresh HB.out HZ.out U19 A19)
  clear A19 U19 HA HB HZ H17
  have C := Lib.hid (thor_any H19.out [5, 1, 0, 0] ⟨rfl, by decide⟩)
  rw [E12.out] at C
  go_wp2_with fail
  refine (C.out).mono ?_; rintro e w20 ⟨rfl, hb⟩
  have H20 := Lib.hid (H19.out.below hb)
  clear hb C H19
  go_wp2_with (first | refine blk_alloc rfl 25 (ks .u64 [0, 0, 0, 0]) rfl Try.info_v ?_)
  intro w21 A21 B21 Z21
  have HA := Lib.hid A21
  have HB := Lib.hid B21
  have HZ := Lib.hid Z21
  clear A21 B21 Z21
  go_wp2_with (first | refine blk_store rfl 25 _ _ rfl w20.heap.size rfl (ks .u64 [1, 1, 0, 0]) rfl (ks .u64 [0, 0, 0, 0]) HA.out rfl Try.size_v (ks_all _ _) ?_)
  intro w22 A22 U22
  have H22 := Lib.hid (H20.out.fresh HB.out HZ.out U22 A22)
  clear A22 U22 HA HB HZ H20
  have C := Lib.hid (tmany_any H22.out)
  rw [e13] at C
  go_wp2_with fail
  refine (C.out).mono ?_; rintro e w23 ⟨rfl, hb⟩
  have H23 := Lib.hid (H22.out.below hb)
  clear hb C H22
  have C := Lib.hid (tend_any H23.out 1)
  rw [e14] at C
  go_wp2_with fail
  refine (C.out).mono ?_; rintro e w24 ⟨rfl, ht⟩
  have H24 := Lib.hid ht
  clear ht C H23
  have H24 : Hid (Tab w w24 b X3 [_, _, _, _, _, _]) := H24
  have C := Lib.hid (tend_any H24.out 1)
  rw [e15, a15] at C
  go_wp2_with fail
  refine (C.out).mono ?_; rintro e w25 ⟨rfl, ht⟩
  have H25 := Lib.hid ht
  clear ht C H24
  have C := Lib.hid (tsee_any H25.out 3 xv xv_ok)
  rw [e16] at C
  go_wp2_with (first | refine blk_load rfl 25 _ rfl w1.heap.size rfl (ks .u64 xv) (H25.out.sep.blk 5 rfl) _ Try.underlying25 rfl Try.size_v ?_)
  refine (C.out).mono ?_; rintro e w26 ⟨rfl, ht⟩
  have H26 := Lib.hid ht
  clear ht C H25
  have H26 : Hid (Tab w w26 b X4 [_, _, _, _, _, _]) := H26
  go_wp2_with fail
  have Hs : Hid (∀ u, Below w26.heap.size w26 u → Blk u w11.heap.size (ks .u64 xv)) := fun u hu => (H26.out.below hu).sep.blk 3 rfl
  have Hv : Hid (∀ u, Below w26.heap.size w26 u → Blk u w1.heap.size (ks .u64 xv)) := fun u hu => (H26.out.below hu).sep.blk 5 rfl
  have Hx : Hid (∀ u, Below w26.heap.size w26 u → Blk u w14.heap.size (wc xw)) := fun u hu => (H26.out.below hu).sep.blk 2 rfl
  have Hw : Hid (∀ u, Below w26.heap.size w26 u → Blk u w3.heap.size (wc xw)) := fun u hu => (H26.out.below hu).sep.blk 4 rfl
  have Hh : Hid (∀ u, Below w26.heap.size w26 u → Blk u w20.heap.size (ks .u64 [1, 1, 0, 0])) := fun u hu => (H26.out.below hu).sep.blk 0 rfl
  have XS : Hid (∀ u, Below w26.heap.size w26 u → Calls Try.prog 40 [.agg (ks .u64 [1, 1, 0, 0]).toArray].toArray u fun e u' => e = .returned (.int .u64 2) ∧ Below w26.heap.size w26 u') := fun u hu => Calls.more hu (CSM.out u)
  have XA : Hid (∀ u, Below w26.heap.size w26 u → Calls Try.prog 41 [.agg (ks .u64 [1, 1, 0, 0]).toArray, .int .i64 1].toArray u fun e u' => e = .returned (.int .u64 1) ∧ Below w26.heap.size w26 u') := fun u hu => Calls.more hu (CAT.out u)
  have XN : Hid (∀ u, Below w26.heap.size w26 u → Calls Try.prog 28 [.pointer (some ⟨b, 0, none⟩), .int .i64 3].toArray u fun e u' => e = .returned (.agg (ks .u64 xv).toArray) ∧ Below w26.heap.size w26 u') := fun u hu => Calls.more hu (by have h9 := tseen_any (H26.out.below hu) 3; rw [e17] at h9; exact h9)
  have XW : Hid (∀ u, Below w26.heap.size w26 u → Calls Try.prog 26 [.pointer (some ⟨b, 0, none⟩), .int .i64 1].toArray u fun e u' => e = .returned (nil_) ∧ Below w26.heap.size w26 u') := fun u hu => Calls.more hu (twrites_nil (H26.out.below hu) 1 e18)
  have HGV : Hid (∀ u, (binOp .eql 25 (AV .u64 xv) (AV .u64 xv)).run Try.prog u = .ok (.bool true) u) := fun u => eql_v xv xv rfl rfl u
  have HGW : Hid (∀ u, (binOp .eql 41 (WV xw) (WV xw)).run Try.prog u = .ok (.bool true) u) := fun u => eql_iw xw xw u
  refine region_w Try.mixed (by kernel_rfl) ?_
  refine w_value rfl (.int .i64 5) (fun u hu => by go_simp) (fun K hK => ?_)
  go_simp
  refine hK _ ?_
  clear hK K
  refine w_value rfl (.bool true) (fun u hu => by go_simp) (fun K hK => ?_)
  go_simp
  refine hK _ ?_
  clear hK K
  refine w_value rfl (.bool true) (fun u hu => by go_simp) (fun K hK => ?_)
  go_simp
  refine hK _ ?_
  clear hK K
  refine wg_value (by rfl) (.int .i64 0) (fun u hu => by go_simp) (fun K hK => ?_)
  go_simp
  refine hK _ ?_
  clear hK K
  refine wg_value (by rfl) (.bool true) (fun u hu => by go_simp) (fun K hK => ?_)
  go_simp
  refine hK _ ?_
  clear hK K
  refine w_value rfl (.bool true) (fun u hu => by go_simp) (fun K hK => ?_)
  go_simp
  refine hK _ ?_
  clear hK K
  refine w_value rfl (.bool true) (fun u hu => by go_simp) (fun K hK => ?_)
  go_simp
  refine hK _ ?_
  clear hK K
  refine wg_value (by rfl) (.int .i64 6) (fun u hu => by go_simp) (fun K hK => ?_)
  go_simp
  refine hK _ ?_
  clear hK K
  refine wg_value (by rfl) (.bool true) (fun u hu => by go_simp) (fun K hK => ?_)
  go_simp
  refine hK _ ?_
  clear hK K
  refine w_value rfl (.bool true) (fun u hu => by go_simp) (fun K hK => ?_)
  go_simp
  refine hK _ ?_
  clear hK K
  refine w_value rfl (.bool true) (fun u hu => by go_simp) (fun K hK => ?_)
  go_simp
  refine hK _ ?_
  clear hK K
  refine wg_value (by rfl) (.int .i64 1) (fun u hu => by go_simp) (fun K hK => ?_)
  go_simp
  refine hK _ ?_
  clear hK K
  refine wg_value (by rfl) (.bool true) (fun u hu => by go_simp) (fun K hK => ?_)
  go_simp
  refine hK _ ?_
  clear hK K
  refine w_value rfl (.bool true) (fun u hu => by go_simp) (fun K hK => ?_)
  go_simp
  refine hK _ ?_
  clear hK K
  refine w_value rfl (.bool true) (fun u hu => by go_simp) (fun K hK => ?_)
  go_simp
  refine hK _ ?_
  clear hK K
  refine wg_value (by rfl) (.int .i64 0) (fun u hu => by go_simp) (fun K hK => ?_)
  go_simp
  refine hK _ ?_
  clear hK K
  refine wg_value (by rfl) (.bool true) (fun u hu => by go_simp) (fun K hK => ?_)
  go_simp
  refine hK _ ?_
  clear hK K
  refine w_value rfl (.bool true) (fun u hu => by go_simp) (fun K hK => ?_)
  go_simp
  refine hK _ ?_
  clear hK K
  refine w_value rfl (.bool true) (fun u hu => by go_simp) (fun K hK => ?_)
  go_simp
  refine hK _ ?_
  clear hK K
  refine wg_blk_load (by rfl) 25 _ rfl w11.heap.size rfl (ks .u64 xv) (by exact Hs.out) _ Try.underlying25 rfl Try.size_v (fun K hK => ?_)
  go_simp
  refine hK _ ?_
  clear hK K
  refine wg_blk_load (by rfl) 25 _ rfl w1.heap.size rfl (ks .u64 xv) (by exact Hv.out) _ Try.underlying25 rfl Try.size_v (fun K hK => ?_)
  go_simp
  refine hK _ ?_
  clear hK K
  refine wg_value (by rfl) (.bool true) (fun u _ => run_eql u .eql 25 25 _ _ (AV .u64 xv) (AV .u64 xv) _ rfl rfl rfl (guard_v _ _ xv xv u) (HGV.out u)) (fun K hK => ?_)
  go_simp
  refine hK _ ?_
  clear hK K
  refine w_value rfl (.bool true) (fun u hu => by go_simp) (fun K hK => ?_)
  go_simp
  refine hK _ ?_
  clear hK K
  refine w_value rfl (.bool true) (fun u hu => by go_simp) (fun K hK => ?_)
  go_simp
  refine hK _ ?_
  clear hK K
  refine wg_value (by rfl) (.bool true) (fun u hu => by go_simp) (fun K hK => ?_)
  go_simp
  refine hK _ ?_
  clear hK K
  refine w_value rfl (.bool true) (fun u hu => by go_simp) (fun K hK => ?_)
  go_simp
  refine hK _ ?_
  clear hK K
  refine w_value rfl (.bool true) (fun u hu => by go_simp) (fun K hK => ?_)
  go_simp
  refine hK _ ?_
  clear hK K
  refine wg_blk_load (by rfl) 41 _ rfl w14.heap.size rfl (wc xw) (by exact Hx.out) _ Try.underlying41 rfl It.Try.size_w (fun K hK => ?_)
  go_simp
  refine hK _ ?_
  clear hK K
  refine wg_blk_load (by rfl) 41 _ rfl w3.heap.size rfl (wc xw) (by exact Hw.out) _ Try.underlying41 rfl It.Try.size_w (fun K hK => ?_)
  go_simp
  refine hK _ ?_
  clear hK K
  refine wg_value (by rfl) (.bool true) (fun u _ => run_eql u .eql 41 41 _ _ (WV xw) (WV xw) _ rfl rfl rfl (guard_iw .eql _ _ xw xw u) (HGW.out u)) (fun K hK => ?_)
  go_simp
  refine hK _ ?_
  clear hK K
  refine w_value rfl (.bool true) (fun u hu => by go_simp) (fun K hK => ?_)
  go_simp
  refine hK _ ?_
  clear hK K
  refine w_value rfl (.bool true) (fun u hu => by go_simp) (fun K hK => ?_)
  go_simp
  refine hK _ ?_
  clear hK K
  refine wg_value (by rfl) (.bool true) (fun u hu => by go_simp) (fun K hK => ?_)
  go_simp
  refine hK _ ?_
  clear hK K
  refine w_value rfl (.bool true) (fun u hu => by go_simp) (fun K hK => ?_)
  go_simp
  refine hK _ ?_
  clear hK K
  refine w_value rfl (.bool true) (fun u hu => by go_simp) (fun K hK => ?_)
  go_simp
  refine hK _ ?_
  clear hK K
  refine wg_value (by rfl) (.bool false) (fun u hu => by go_simp) (fun K hK => ?_)
  go_simp
  refine hK _ ?_
  clear hK K
  refine wg_value (by rfl) (.bool true) (fun u hu => by go_simp) (fun K hK => ?_)
  go_simp
  refine hK _ ?_
  clear hK K
  refine w_value rfl (.bool true) (fun u hu => by go_simp) (fun K hK => ?_)
  go_simp
  refine hK _ ?_
  clear hK K
  refine w_value rfl (.bool true) (fun u hu => by go_simp) (fun K hK => ?_)
  go_simp
  refine hK _ ?_
  clear hK K
  refine wg_blk_load (by rfl) 25 _ rfl w20.heap.size rfl (ks .u64 [1, 1, 0, 0]) (by exact Hh.out) _ Try.underlying25 rfl Try.size_v (fun K hK => ?_)
  go_simp
  refine hK _ ?_
  clear hK K
  refine wg_call (by rfl) 40 Try.f40 Try.func40 rfl rfl _ _ rfl [.agg ((ks .u64 [1, 1, 0, 0])).toArray] rfl (.int .u64 2) (by exact XS.out) (fun K hK => ?_)
  go_simp
  refine hK _ ?_
  clear hK K
  refine wg_value (by rfl) (.bool true) (fun u hu => by go_simp) (fun K hK => ?_)
  go_simp
  refine hK _ ?_
  clear hK K
  refine w_value rfl (.bool true) (fun u hu => by go_simp) (fun K hK => ?_)
  go_simp
  refine hK _ ?_
  clear hK K
  refine w_value rfl (.bool true) (fun u hu => by go_simp) (fun K hK => ?_)
  go_simp
  refine hK _ ?_
  clear hK K
  refine wg_blk_load (by rfl) 25 _ rfl w20.heap.size rfl (ks .u64 [1, 1, 0, 0]) (by exact Hh.out) _ Try.underlying25 rfl Try.size_v (fun K hK => ?_)
  go_simp
  refine hK _ ?_
  clear hK K
  refine wg_call (by rfl) 41 Try.f41 Try.func41 rfl rfl _ _ rfl [.agg ((ks .u64 [1, 1, 0, 0])).toArray, .int .i64 1] rfl (.int .u64 1) (by exact XA.out) (fun K hK => ?_)
  go_simp
  refine hK _ ?_
  clear hK K
  refine wg_value (by rfl) (.bool true) (fun u hu => by go_simp) (fun K hK => ?_)
  go_simp
  refine hK _ ?_
  clear hK K
  refine w_value rfl (.bool true) (fun u hu => by go_simp) (fun K hK => ?_)
  go_simp
  refine hK _ ?_
  clear hK K
  refine w_value rfl (.bool true) (fun u hu => by go_simp) (fun K hK => ?_)
  go_simp
  refine hK _ ?_
  clear hK K
  refine wg_value (by rfl) (.int .i64 1) (fun u hu => by go_simp) (fun K hK => ?_)
  go_simp
  refine hK _ ?_
  clear hK K
  refine wg_value (by rfl) (.bool true) (fun u hu => by go_simp) (fun K hK => ?_)
  go_simp
  refine hK _ ?_
  clear hK K
  refine w_value rfl (.bool true) (fun u hu => by go_simp) (fun K hK => ?_)
  go_simp
  refine hK _ ?_
  clear hK K
  refine w_value rfl (.bool true) (fun u hu => by go_simp) (fun K hK => ?_)
  go_simp
  refine hK _ ?_
  clear hK K
  refine wg_value (by rfl) (.int .i64 0) (fun u hu => by go_simp) (fun K hK => ?_)
  go_simp
  refine hK _ ?_
  clear hK K
  refine wg_value (by rfl) (.bool true) (fun u hu => by go_simp) (fun K hK => ?_)
  go_simp
  refine hK _ ?_
  clear hK K
  refine w_value rfl (.bool true) (fun u hu => by go_simp) (fun K hK => ?_)
  go_simp
  refine hK _ ?_
  clear hK K
  refine w_value rfl (.bool true) (fun u hu => by go_simp) (fun K hK => ?_)
  go_simp
  refine hK _ ?_
  clear hK K
  refine wg_value (by rfl) (.int .i64 5) (fun u hu => by go_simp) (fun K hK => ?_)
  go_simp
  refine hK _ ?_
  clear hK K
  refine wg_value (by rfl) (.bool true) (fun u hu => by go_simp) (fun K hK => ?_)
  go_simp
  refine hK _ ?_
  clear hK K
  refine w_value rfl (.bool true) (fun u hu => by go_simp) (fun K hK => ?_)
  go_simp
  refine hK _ ?_
  clear hK K
  refine w_value rfl (.bool true) (fun u hu => by go_simp) (fun K hK => ?_)
  go_simp
  refine hK _ ?_
  clear hK K
  refine wg_value (by rfl) (.bool true) (fun u hu => by go_simp) (fun K hK => ?_)
  go_simp
  refine hK _ ?_
  clear hK K
  refine w_value rfl (.bool true) (fun u hu => by go_simp) (fun K hK => ?_)
  go_simp
  refine hK _ ?_
  clear hK K
  refine w_value rfl (.bool true) (fun u hu => by go_simp) (fun K hK => ?_)
  go_simp
  refine hK _ ?_
  clear hK K
  refine wg_value (by rfl) (.pointer (some ⟨b, 0, none⟩)) (fun u hu => by go_simp) (fun K hK => ?_)
  go_simp
  refine hK _ ?_
  clear hK K
  refine wg_call (by rfl) 28 Try.f28 Try.func28 rfl rfl _ _ rfl [.pointer (some ⟨b, 0, none⟩), .int .i64 3] rfl (.agg (ks .u64 xv).toArray) (by exact XN.out) (fun K hK => ?_)
  go_simp
  refine hK _ ?_
  clear hK K
  refine wg_blk_load (by rfl) 25 _ rfl w1.heap.size rfl (ks .u64 xv) (by exact Hv.out) _ Try.underlying25 rfl Try.size_v (fun K hK => ?_)
  go_simp
  refine hK _ ?_
  clear hK K
  refine wg_value (by rfl) (.bool true) (fun u _ => run_eql u .eql 25 25 _ _ (AV .u64 xv) (AV .u64 xv) _ rfl rfl rfl (guard_v _ _ xv xv u) (HGV.out u)) (fun K hK => ?_)
  go_simp
  refine hK _ ?_
  clear hK K
  refine w_value rfl (.bool true) (fun u hu => by go_simp) (fun K hK => ?_)
  go_simp
  refine hK _ ?_
  clear hK K
  refine w_value rfl (.bool true) (fun u hu => by go_simp) (fun K hK => ?_)
  go_simp
  refine hK _ ?_
  clear hK K
  refine wg_value (by rfl) (.pointer (some ⟨b, 0, none⟩)) (fun u hu => by go_simp) (fun K hK => ?_)
  go_simp
  refine hK _ ?_
  clear hK K
  refine wg_call (by rfl) 26 Try.f26 Try.func26 rfl rfl _ _ rfl [.pointer (some ⟨b, 0, none⟩), .int .i64 1] rfl (nil_) (by exact XW.out) (fun K hK => ?_)
  go_simp
  refine hK _ ?_
  clear hK K
  refine wg_value (by rfl) (.int .i64 0) (fun u hu => by unfold nil_; go_simp) (fun K hK => ?_)
  go_simp
  refine hK _ ?_
  clear hK K
  refine wg_value (by rfl) (.bool true) (fun u hu => by go_simp) (fun K hK => ?_)
  go_simp
  refine hK _ ?_
  clear hK K
  refine w_value rfl (.bool true) (fun u hu => by go_simp) (fun K hK => ?_)
  go_simp
  refine hK _ ?_
  clear hK K
  refine w_value rfl (.bool true) (fun u hu => by go_simp) (fun K hK => ?_)
  go_simp
  refine hK _ ?_
  clear hK K
  refine w_nil ?_
  intro u hu
  have HF := Lib.hid ((H26.out.below hu).under)
  go_wp2_with fail
  go_ret
  exact ⟨rfl, HF.out⟩
end Go.Proofs.Ytkiaehehckmpnaa.Zm
