/- The program's item: getWrite. -/
import Derived.Test.YtkfcbihofipcbaaItemE

import Derived.Test.YtkfcbihofipcbaaItemCan

import Derived.Test.YtkfcbihofipcbaaItemRE

import Derived.Test.YtkfcbihofipcbaaStrClone

import Derived.Test.YtkfcbihofipcbaaPackDone

namespace Go.Proofs.Ytkfcbihofipcbaa.It

open Go.RowKit Go.Proofs.Ytkfcbihofipcbaa.Vc Go.Proofs.Ytkfcbihofipcbaa.Sp

set_option linter.unusedVariables false

set_option linter.unusedSimpArgs false

set_option maxRecDepth 100000

theorem RT_small (s : ByteArray) (b : Bool) (k : Int) (t r : ByteArray) (c : Bool) (h0 : 0 ≤ k) (h : P.RT s b k = (t, r, c)) : (t.size : Int) ≤ k := by
  cases c with
  | false =>
    have := (Cn.rtext_canon _ _ _ _ (Cn.RT_some _ _ _ _ _ h).2).2
    rwa [P.len_list] at this
  | true =>
    have : t = ⟨#[]⟩ := by
      unfold P.RT P.outT at h
      split at h
      · simp at h; exact h.1.symm
      · simp at h
    rw [this]; exact h0
set_option maxHeartbeats 8000000 in
theorem getw_any (s : ByteArray) (b : Bool) (x : I.Wt) (t : ByteArray) (c : Bool) (w : World) (hs : s.size ≤ maxLen) (h : I.getW s b = (x, t, c)) :
    Calls Try.prog 70 #[.agg #[.string s, .bool b]] w fun e w' => e = .returned (.tuple #[WV x, .agg #[.string t, .bool c]]) ∧ Below w.heap.size w w' := by
  rcases h1 : P.RT s b 16 with ⟨xb, s2, c2⟩
  have hs2 : s2.size ≤ maxLen := by have := RT_size' s b 16; rw [h1] at this; exact Nat.le_trans this hs
  rcases h2 : P.RT s2 c2 16 with ⟨xk, s3, c3⟩
  have hs3 : s3.size ≤ maxLen := by have := RT_size' s2 c2 16; rw [h2] at this; exact Nat.le_trans this hs2
  rcases h3 : P.RN s3 c3 1 with ⟨m, s4, c4⟩
  have hs4 : s4.size ≤ maxLen := by have := Pk.RN_size s3 c3 1; rw [h3] at this; exact Nat.le_trans this hs3
  rcases h4 : P.RT s4 c4 32 with ⟨xv, s5, c5⟩
  have hm := T.RN_lt s3 c3 m s4 c4 h3
  have zb := RT_small s b 16 xb s2 c2 (by omega) h1
  have zk := RT_small s2 c2 16 xk s3 c3 (by omega) h2
  have zv := RT_small s4 c4 32 xv s5 c5 (by omega) h4
  have CB := Lib.hid (fun w => Pk.rtext_any s b 16 xb s2 c2 w hs (by omega) h1)
  have CK := Lib.hid (fun w => Pk.rtext_any s2 c2 16 xk s3 c3 w hs2 (by omega) h2)
  have CO := Lib.hid (fun w => Pk.rnumber_any s3 c3 1 m s4 c4 w hs3 h3)
  have CV := Lib.hid (fun w => Pk.rtext_any s4 c4 32 xv s5 c5 w hs4 (by omega) h4)
  have LB := Lib.hid (fun w => Mc.clone_any xb w (by omega))
  have LK := Lib.hid (fun w => Mc.clone_any xk w (by omega))
  have LV := Lib.hid (fun w => Mc.clone_any xv w (by omega))
  have HG : Hid ((if m = 0 then ((xb, xk, xv, false), s5, c5) else if m = 1 then ((xb, xk, ⟨#[]⟩, true), s4, c4) else (I.none_, ⟨#[]⟩, true)) = (x, t, c)) := by
    rw [← h]
    show _ = I.getW s b
    unfold I.getW
    simp only [h1, h2, h3, h4]
  clear h h1 h2 h3 h4 hs hs2 hs3 hs4 zb zk zv
  go_enter Try.func70, Try.ntmps70
  have W0 : Hid (Below w.heap.size w w) := Below.refl _ _
  go_wp2_with (first | refine blk_box rfl 94 _ rfl [.string s, .bool b] rfl ?_)
  intro k1 A1 B1 Z1
  go_wp2_with (first | refine blk_alloc rfl 23 (wc I.none_) rfl Try.info_iw2 ?_)
  intro k2 A2 B2 Z2
  go_wp2_with (first | refine blk_alloc rfl 94 [.string ⟨#[]⟩, .bool false] rfl Try.info_rd ?_)
  intro k3 A3 B3 Z3
  have hb3 : Below w.heap.size w k3 := ((B1).trans (B2.mono (by omega))).trans (B3.mono (by omega))
  have HR3_ : Hid (Blk k3 (w.heap.size) [.string s, .bool b]) := ((A1).below B2 (by omega)).below B3 (by omega)
  have LR3_ : Hid (w.heap.size < k3.heap.size) := by show _ < _; omega
  have HO3_ : Hid (Blk k3 (w.heap.size + 1) (wc I.none_)) := (A2).below B3 (by omega)
  have LO3_ : Hid (w.heap.size + 1 < k3.heap.size) := by show _ < _; omega
  have HQ3_ : Hid (Blk k3 (w.heap.size + 2) [.string ⟨#[]⟩, .bool false]) := A3
  have LQ3_ : Hid (w.heap.size + 2 < k3.heap.size) := by show _ < _; omega
  have W3 : Hid (Below w.heap.size w k3) := Below.trans W0.out (hb3.mono W0.out.size)
  have HR3 := HR3_
  have LR3 := LR3_
  have HO3 := HO3_
  have LO3 := LO3_
  have HQ3 := HQ3_
  have LQ3 := LQ3_
  clear hb3 A1 B1 Z1 A2 B2 Z2 A3 B3 Z3 W0 HR3_ LR3_ HO3_ LO3_ HQ3_ LQ3_
  go_wp2_with (first | refine blk_load rfl 94 _ rfl (w.heap.size) rfl [.string s, .bool b] HR3.out _ Try.underlying94 rfl Try.size_rd ?_)
  refine (CB.out _).mono ?_; rintro e k4 ⟨rfl, hb4⟩
  have HR4 : Hid (Blk k4 (w.heap.size) [.string s, .bool b]) := Blk.below HR3.out hb4 LR3.out
  have LR4 : Hid (w.heap.size < k4.heap.size) := Nat.lt_of_lt_of_le LR3.out hb4.size
  have HO4 : Hid (Blk k4 (w.heap.size + 1) (wc I.none_)) := Blk.below HO3.out hb4 LO3.out
  have LO4 : Hid (w.heap.size + 1 < k4.heap.size) := Nat.lt_of_lt_of_le LO3.out hb4.size
  have HQ4 : Hid (Blk k4 (w.heap.size + 2) [.string ⟨#[]⟩, .bool false]) := Blk.below HQ3.out hb4 LQ3.out
  have LQ4 : Hid (w.heap.size + 2 < k4.heap.size) := Nat.lt_of_lt_of_le LQ3.out hb4.size
  have W4 : Hid (Below w.heap.size w k4) := Below.trans W3.out (hb4.mono W3.out.size)
  clear hb4 HR3 LR3 HO3 LO3 HQ3 LQ3 W3 
  go_wp2_with (first | refine blk_store rfl 94 _ _ rfl (w.heap.size) rfl [.string s2, .bool c2] rfl _ HR4.out rfl Try.size_rd rfl ?_)
  intro k5 A5 U5
  have HR5 : Hid (Blk k5 (w.heap.size) [.string s2, .bool c2]) := A5
  have LR5 : Hid (w.heap.size < k5.heap.size) := by show _ < _; rw [U5.size]; exact LR4.out
  have HO5 : Hid (Blk k5 (w.heap.size + 1) (wc I.none_)) := Blk.upd HO4.out U5 (by omega)
  have LO5 : Hid (w.heap.size + 1 < k5.heap.size) := by show _ < _; rw [U5.size]; exact LO4.out
  have HQ5 : Hid (Blk k5 (w.heap.size + 2) [.string ⟨#[]⟩, .bool false]) := Blk.upd HQ4.out U5 (by omega)
  have LQ5 : Hid (w.heap.size + 2 < k5.heap.size) := by show _ < _; rw [U5.size]; exact LQ4.out
  have W5 : Hid (Below w.heap.size w k5) := Below.trans W4.out (U5.below (by omega))
  clear A5 U5 HR4 LR4 HO4 LO4 HQ4 LQ4 W4
  go_wp2_with (first | refine blk_load rfl 94 _ rfl (w.heap.size) rfl [.string s2, .bool c2] HR5.out _ Try.underlying94 rfl Try.size_rd ?_)
  refine (CK.out _).mono ?_; rintro e k6 ⟨rfl, hb6⟩
  have HR6 : Hid (Blk k6 (w.heap.size) [.string s2, .bool c2]) := Blk.below HR5.out hb6 LR5.out
  have LR6 : Hid (w.heap.size < k6.heap.size) := Nat.lt_of_lt_of_le LR5.out hb6.size
  have HO6 : Hid (Blk k6 (w.heap.size + 1) (wc I.none_)) := Blk.below HO5.out hb6 LO5.out
  have LO6 : Hid (w.heap.size + 1 < k6.heap.size) := Nat.lt_of_lt_of_le LO5.out hb6.size
  have HQ6 : Hid (Blk k6 (w.heap.size + 2) [.string ⟨#[]⟩, .bool false]) := Blk.below HQ5.out hb6 LQ5.out
  have LQ6 : Hid (w.heap.size + 2 < k6.heap.size) := Nat.lt_of_lt_of_le LQ5.out hb6.size
  have W6 : Hid (Below w.heap.size w k6) := Below.trans W5.out (hb6.mono W5.out.size)
  clear hb6 HR5 LR5 HO5 LO5 HQ5 LQ5 W5 
  go_wp2_with (first | refine blk_store rfl 94 _ _ rfl (w.heap.size) rfl [.string s3, .bool c3] rfl _ HR6.out rfl Try.size_rd rfl ?_)
  intro k7 A7 U7
  have HR7 : Hid (Blk k7 (w.heap.size) [.string s3, .bool c3]) := A7
  have LR7 : Hid (w.heap.size < k7.heap.size) := by show _ < _; rw [U7.size]; exact LR6.out
  have HO7 : Hid (Blk k7 (w.heap.size + 1) (wc I.none_)) := Blk.upd HO6.out U7 (by omega)
  have LO7 : Hid (w.heap.size + 1 < k7.heap.size) := by show _ < _; rw [U7.size]; exact LO6.out
  have HQ7 : Hid (Blk k7 (w.heap.size + 2) [.string ⟨#[]⟩, .bool false]) := Blk.upd HQ6.out U7 (by omega)
  have LQ7 : Hid (w.heap.size + 2 < k7.heap.size) := by show _ < _; rw [U7.size]; exact LQ6.out
  have W7 : Hid (Below w.heap.size w k7) := Below.trans W6.out (U7.below (by omega))
  clear A7 U7 HR6 LR6 HO6 LO6 HQ6 LQ6 W6
  go_wp2_with (first | refine blk_load rfl 94 _ rfl (w.heap.size) rfl [.string s3, .bool c3] HR7.out _ Try.underlying94 rfl Try.size_rd ?_)
  refine (CO.out _).mono ?_; rintro e k8 ⟨rfl, hb8⟩
  have HR8 : Hid (Blk k8 (w.heap.size) [.string s3, .bool c3]) := Blk.below HR7.out hb8 LR7.out
  have LR8 : Hid (w.heap.size < k8.heap.size) := Nat.lt_of_lt_of_le LR7.out hb8.size
  have HO8 : Hid (Blk k8 (w.heap.size + 1) (wc I.none_)) := Blk.below HO7.out hb8 LO7.out
  have LO8 : Hid (w.heap.size + 1 < k8.heap.size) := Nat.lt_of_lt_of_le LO7.out hb8.size
  have HQ8 : Hid (Blk k8 (w.heap.size + 2) [.string ⟨#[]⟩, .bool false]) := Blk.below HQ7.out hb8 LQ7.out
  have LQ8 : Hid (w.heap.size + 2 < k8.heap.size) := Nat.lt_of_lt_of_le LQ7.out hb8.size
  have W8 : Hid (Below w.heap.size w k8) := Below.trans W7.out (hb8.mono W7.out.size)
  clear hb8 HR7 LR7 HO7 LO7 HQ7 LQ7 W7 
  go_wp2_with (first | refine blk_store rfl 94 _ _ rfl (w.heap.size) rfl [.string s4, .bool c4] rfl _ HR8.out rfl Try.size_rd rfl ?_)
  intro k9 A9 U9
  have HR9 : Hid (Blk k9 (w.heap.size) [.string s4, .bool c4]) := A9
  have LR9 : Hid (w.heap.size < k9.heap.size) := by show _ < _; rw [U9.size]; exact LR8.out
  have HO9 : Hid (Blk k9 (w.heap.size + 1) (wc I.none_)) := Blk.upd HO8.out U9 (by omega)
  have LO9 : Hid (w.heap.size + 1 < k9.heap.size) := by show _ < _; rw [U9.size]; exact LO8.out
  have HQ9 : Hid (Blk k9 (w.heap.size + 2) [.string ⟨#[]⟩, .bool false]) := Blk.upd HQ8.out U9 (by omega)
  have LQ9 : Hid (w.heap.size + 2 < k9.heap.size) := by show _ < _; rw [U9.size]; exact LQ8.out
  have W9 : Hid (Below w.heap.size w k9) := Below.trans W8.out (U9.below (by omega))
  clear A9 U9 HR8 LR8 HO8 LO8 HQ8 LQ8 W8
  go_wp2_with fail
  refine (LB.out _).mono ?_; rintro e k10 ⟨rfl, hb10⟩
  have HR10 : Hid (Blk k10 (w.heap.size) [.string s4, .bool c4]) := Blk.below HR9.out hb10 LR9.out
  have LR10 : Hid (w.heap.size < k10.heap.size) := Nat.lt_of_lt_of_le LR9.out hb10.size
  have HO10 : Hid (Blk k10 (w.heap.size + 1) (wc I.none_)) := Blk.below HO9.out hb10 LO9.out
  have LO10 : Hid (w.heap.size + 1 < k10.heap.size) := Nat.lt_of_lt_of_le LO9.out hb10.size
  have HQ10 : Hid (Blk k10 (w.heap.size + 2) [.string ⟨#[]⟩, .bool false]) := Blk.below HQ9.out hb10 LQ9.out
  have LQ10 : Hid (w.heap.size + 2 < k10.heap.size) := Nat.lt_of_lt_of_le LQ9.out hb10.size
  have W10 : Hid (Below w.heap.size w k10) := Below.trans W9.out (hb10.mono W9.out.size)
  clear hb10 HR9 LR9 HO9 LO9 HQ9 LQ9 W9 
  go_wp2_with fail
  refine (LK.out _).mono ?_; rintro e k11 ⟨rfl, hb11⟩
  have HR11 : Hid (Blk k11 (w.heap.size) [.string s4, .bool c4]) := Blk.below HR10.out hb11 LR10.out
  have LR11 : Hid (w.heap.size < k11.heap.size) := Nat.lt_of_lt_of_le LR10.out hb11.size
  have HO11 : Hid (Blk k11 (w.heap.size + 1) (wc I.none_)) := Blk.below HO10.out hb11 LO10.out
  have LO11 : Hid (w.heap.size + 1 < k11.heap.size) := Nat.lt_of_lt_of_le LO10.out hb11.size
  have HQ11 : Hid (Blk k11 (w.heap.size + 2) [.string ⟨#[]⟩, .bool false]) := Blk.below HQ10.out hb11 LQ10.out
  have LQ11 : Hid (w.heap.size + 2 < k11.heap.size) := Nat.lt_of_lt_of_le LQ10.out hb11.size
  have W11 : Hid (Below w.heap.size w k11) := Below.trans W10.out (hb11.mono W10.out.size)
  clear hb11 HR10 LR10 HO10 LO10 HQ10 LQ10 W10 
  have hq : w.heap.size + 2 < k11.heap.size := LQ11.out
  go_wp2_with (first | refine blk_alloc rfl 23 (wc I.none_) rfl Try.info_iw2 ?_)
  intro k12 A12 B12 Z12
  go_wp2_with (first | refine blk_store rfl 23 _ _ rfl (k11.heap.size) rfl (wc (xb, xk, ⟨#[]⟩, false)) rfl _ A12 rfl Try.size_w rfl ?_)
  intro k13 A13 U13
  have hb13 : Below k11.heap.size k11 k13 := B12.trans (U13.below (Nat.le_refl _))
  have HD13_ : Hid (Blk k13 (k11.heap.size) (wc (xb, xk, ⟨#[]⟩, false))) := A13
  have LD13_ : Hid (k11.heap.size < k13.heap.size) := by show _ < _; rw [U13.size]; omega
  have HR13 : Hid (Blk k13 (w.heap.size) [.string s4, .bool c4]) := Blk.below HR11.out hb13 LR11.out
  have LR13 : Hid (w.heap.size < k13.heap.size) := Nat.lt_of_lt_of_le LR11.out hb13.size
  have HO13 : Hid (Blk k13 (w.heap.size + 1) (wc I.none_)) := Blk.below HO11.out hb13 LO11.out
  have LO13 : Hid (w.heap.size + 1 < k13.heap.size) := Nat.lt_of_lt_of_le LO11.out hb13.size
  have HQ13 : Hid (Blk k13 (w.heap.size + 2) [.string ⟨#[]⟩, .bool false]) := Blk.below HQ11.out hb13 LQ11.out
  have LQ13 : Hid (w.heap.size + 2 < k13.heap.size) := Nat.lt_of_lt_of_le LQ11.out hb13.size
  have W13 : Hid (Below w.heap.size w k13) := Below.trans W11.out (hb13.mono W11.out.size)
  have HD13 := HD13_
  have LD13 := LD13_
  clear hb13 A12 B12 Z12 A13 U13 HD13_ LD13_ HR11 LR11 HO11 LO11 HQ11 LQ11 W11
  by_cases m0 : m = 0
  · have i0 : ((m : Int) == 0) = true := by simp; omega
    have hg := HG.out
    rw [if_pos m0] at hg
    simp only [Prod.mk.injEq] at hg
    obtain ⟨rfl, rfl, rfl⟩ := hg
    clear HG
    go_wp2_with (first | refine blk_load rfl 94 _ rfl (w.heap.size) rfl [.string s4, .bool c4] HR13.out _ Try.underlying94 rfl Try.size_rd ?_)
    refine (CV.out _).mono ?_; rintro e k14 ⟨rfl, hb14⟩
    have HR14 : Hid (Blk k14 (w.heap.size) [.string s4, .bool c4]) := Blk.below HR13.out hb14 LR13.out
    have LR14 : Hid (w.heap.size < k14.heap.size) := Nat.lt_of_lt_of_le LR13.out hb14.size
    have HO14 : Hid (Blk k14 (w.heap.size + 1) (wc I.none_)) := Blk.below HO13.out hb14 LO13.out
    have LO14 : Hid (w.heap.size + 1 < k14.heap.size) := Nat.lt_of_lt_of_le LO13.out hb14.size
    have HQ14 : Hid (Blk k14 (w.heap.size + 2) [.string ⟨#[]⟩, .bool false]) := Blk.below HQ13.out hb14 LQ13.out
    have LQ14 : Hid (w.heap.size + 2 < k14.heap.size) := Nat.lt_of_lt_of_le LQ13.out hb14.size
    have HD14 : Hid (Blk k14 (k11.heap.size) (wc (xb, xk, ⟨#[]⟩, false))) := Blk.below HD13.out hb14 LD13.out
    have LD14 : Hid (k11.heap.size < k14.heap.size) := Nat.lt_of_lt_of_le LD13.out hb14.size
    have W14 : Hid (Below w.heap.size w k14) := Below.trans W13.out (hb14.mono W13.out.size)
    clear hb14 HR13 LR13 HO13 LO13 HQ13 LQ13 HD13 LD13 W13 
    go_wp2_with (first | refine blk_store rfl 94 _ _ rfl (w.heap.size) rfl [.string s5, .bool c5] rfl _ HR14.out rfl Try.size_rd rfl ?_)
    intro k15 A15 U15
    have HR15 : Hid (Blk k15 (w.heap.size) [.string s5, .bool c5]) := A15
    have LR15 : Hid (w.heap.size < k15.heap.size) := by show _ < _; rw [U15.size]; exact LR14.out
    have HO15 : Hid (Blk k15 (w.heap.size + 1) (wc I.none_)) := Blk.upd HO14.out U15 (by omega)
    have LO15 : Hid (w.heap.size + 1 < k15.heap.size) := by show _ < _; rw [U15.size]; exact LO14.out
    have HQ15 : Hid (Blk k15 (w.heap.size + 2) [.string ⟨#[]⟩, .bool false]) := Blk.upd HQ14.out U15 (by omega)
    have LQ15 : Hid (w.heap.size + 2 < k15.heap.size) := by show _ < _; rw [U15.size]; exact LQ14.out
    have HD15 : Hid (Blk k15 (k11.heap.size) (wc (xb, xk, ⟨#[]⟩, false))) := Blk.upd HD14.out U15 (by omega)
    have LD15 : Hid (k11.heap.size < k15.heap.size) := by show _ < _; rw [U15.size]; exact LD14.out
    have W15 : Hid (Below w.heap.size w k15) := Below.trans W14.out (U15.below (by omega))
    clear A15 U15 HR14 LR14 HO14 LO14 HQ14 LQ14 HD14 LD14 W14
    go_wp2_with fail
    refine (LV.out _).mono ?_; rintro e k16 ⟨rfl, hb16⟩
    have HR16 : Hid (Blk k16 (w.heap.size) [.string s5, .bool c5]) := Blk.below HR15.out hb16 LR15.out
    have LR16 : Hid (w.heap.size < k16.heap.size) := Nat.lt_of_lt_of_le LR15.out hb16.size
    have HO16 : Hid (Blk k16 (w.heap.size + 1) (wc I.none_)) := Blk.below HO15.out hb16 LO15.out
    have LO16 : Hid (w.heap.size + 1 < k16.heap.size) := Nat.lt_of_lt_of_le LO15.out hb16.size
    have HQ16 : Hid (Blk k16 (w.heap.size + 2) [.string ⟨#[]⟩, .bool false]) := Blk.below HQ15.out hb16 LQ15.out
    have LQ16 : Hid (w.heap.size + 2 < k16.heap.size) := Nat.lt_of_lt_of_le LQ15.out hb16.size
    have HD16 : Hid (Blk k16 (k11.heap.size) (wc (xb, xk, ⟨#[]⟩, false))) := Blk.below HD15.out hb16 LD15.out
    have LD16 : Hid (k11.heap.size < k16.heap.size) := Nat.lt_of_lt_of_le LD15.out hb16.size
    have W16 : Hid (Below w.heap.size w k16) := Below.trans W15.out (hb16.mono W15.out.size)
    clear hb16 HR15 LR15 HO15 LO15 HQ15 LQ15 HD15 LD15 W15 
    have cf17 := HD16.out.cell 2 _ rfl
    have ff17 := HD16.out.free 2 (by simp [wc])
    have U17 : Upd (k11.heap.size) k16 (k16.setCell ⟨k11.heap.size, 2, none⟩ (.string xv)) := Upd.setCell _ _ _ _
    have A17 : Blk (k16.setCell ⟨k11.heap.size, 2, none⟩ (.string xv)) (k11.heap.size) [.string xb, .string xk, .string xv, .bool false] := Blk.setc HD16.out 2 (by simp [wc]) (.string xv)
    have HR17 : Hid (Blk (k16.setCell ⟨k11.heap.size, 2, none⟩ (.string xv)) (w.heap.size) [.string s5, .bool c5]) := Blk.upd HR16.out U17 (by omega)
    have LR17 : Hid (w.heap.size < (k16.setCell ⟨k11.heap.size, 2, none⟩ (.string xv)).heap.size) := by show _ < _; rw [U17.size]; exact LR16.out
    have HO17 : Hid (Blk (k16.setCell ⟨k11.heap.size, 2, none⟩ (.string xv)) (w.heap.size + 1) (wc I.none_)) := Blk.upd HO16.out U17 (by omega)
    have LO17 : Hid (w.heap.size + 1 < (k16.setCell ⟨k11.heap.size, 2, none⟩ (.string xv)).heap.size) := by show _ < _; rw [U17.size]; exact LO16.out
    have HQ17 : Hid (Blk (k16.setCell ⟨k11.heap.size, 2, none⟩ (.string xv)) (w.heap.size + 2) [.string ⟨#[]⟩, .bool false]) := Blk.upd HQ16.out U17 (by omega)
    have LQ17 : Hid (w.heap.size + 2 < (k16.setCell ⟨k11.heap.size, 2, none⟩ (.string xv)).heap.size) := by show _ < _; rw [U17.size]; exact LQ16.out
    have HD17 : Hid (Blk (k16.setCell ⟨k11.heap.size, 2, none⟩ (.string xv)) (k11.heap.size) [.string xb, .string xk, .string xv, .bool false]) := A17
    have LD17 : Hid (k11.heap.size < (k16.setCell ⟨k11.heap.size, 2, none⟩ (.string xv)).heap.size) := by show _ < _; rw [U17.size]; exact LD16.out
    have W17 : Hid (Below w.heap.size w (k16.setCell ⟨k11.heap.size, 2, none⟩ (.string xv))) := Below.trans W16.out (U17.below (by omega))
    clear A17 U17 HR16 LR16 HO16 LO16 HQ16 LQ16 HD16 LD16 W16
    go_wp2_with fail
    have a0 := HD17.out.cell 0 _ rfl
    have a1 := HD17.out.cell 1 _ rfl
    have a2 := HD17.out.cell 2 _ rfl
    have a3 := HD17.out.cell 3 _ rfl
    have r0 := HR17.out.cell 0 _ rfl
    have r1 := HR17.out.cell 1 _ rfl
    have o0 := HO17.out.cell 0 _ rfl
    have p0 := HO17.out.free 0 (by simp [wc])
    have o1 := HO17.out.cell 1 _ rfl
    have p1 := HO17.out.free 1 (by simp [wc])
    have o2 := HO17.out.cell 2 _ rfl
    have p2 := HO17.out.free 2 (by simp [wc])
    have o3 := HO17.out.cell 3 _ rfl
    have p3 := HO17.out.free 3 (by simp [wc])
    have q0 := HQ17.out.cell 0 _ rfl
    have v0 := HQ17.out.free 0 (by simp)
    have q1 := HQ17.out.cell 1 _ rfl
    have v1 := HQ17.out.free 1 (by simp)
    go_region
    all_goals
      have U8 : Upd (w.heap.size + 1) (k16.setCell ⟨k11.heap.size, 2, none⟩ (.string xv)) ((k16.setCell ⟨k11.heap.size, 2, none⟩ (.string xv)).setCells (w.heap.size + 1) 0 [Value.string xb, .string xk, .string xv, .bool false]) := Upd.setCells _ _ _ _
      have A8 : Blk ((k16.setCell ⟨k11.heap.size, 2, none⟩ (.string xv)).setCells (w.heap.size + 1) 0 [Value.string xb, .string xk, .string xv, .bool false]) (w.heap.size + 1) [Value.string xb, .string xk, .string xv, .bool false] := Blk.store HO17.out _ rfl
      have Q8 : Blk ((k16.setCell ⟨k11.heap.size, 2, none⟩ (.string xv)).setCells (w.heap.size + 1) 0 [Value.string xb, .string xk, .string xv, .bool false]) (w.heap.size + 2) [.string ⟨#[]⟩, .bool false] := Blk.upd HQ17.out U8 (by omega)
      have U9 : Upd (w.heap.size + 2) _ (((k16.setCell ⟨k11.heap.size, 2, none⟩ (.string xv)).setCells (w.heap.size + 1) 0 [Value.string xb, .string xk, .string xv, .bool false]).setCells (w.heap.size + 2) 0 [Value.string s5, .bool c5]) := Upd.setCells _ _ _ _
      have HB9 : Hid (Blk (((k16.setCell ⟨k11.heap.size, 2, none⟩ (.string xv)).setCells (w.heap.size + 1) 0 [Value.string xb, .string xk, .string xv, .bool false]).setCells (w.heap.size + 2) 0 [Value.string s5, .bool c5]).drew (w.heap.size + 2) [Value.string s5, .bool c5]) := (Q8.store [Value.string s5, .bool c5] rfl).drew
      have HA9 : Hid (Blk (((k16.setCell ⟨k11.heap.size, 2, none⟩ (.string xv)).setCells (w.heap.size + 1) 0 [Value.string xb, .string xk, .string xv, .bool false]).setCells (w.heap.size + 2) 0 [Value.string s5, .bool c5]).drew (w.heap.size + 1) [Value.string xb, .string xk, .string xv, .bool false]) := (Blk.upd A8 U9 (by omega)).drew
      have HW9 : Hid (Below w.heap.size w (((k16.setCell ⟨k11.heap.size, 2, none⟩ (.string xv)).setCells (w.heap.size + 1) 0 [Value.string xb, .string xk, .string xv, .bool false]).setCells (w.heap.size + 2) 0 [Value.string s5, .bool c5]).drew) := ((Below.trans W17.out (U8.below (by omega))).trans (U9.below (by omega))).drew
      clear U8 A8 Q8 U9 a0 a1 a2 a3 r0 r1 o0 o1 o2 o3 p0 p1 p2 p3 q0 q1 v0 v1
      go_wp2_with fail
      refine bodyPost_ret (v := .tuple #[.agg [Value.string xb, .string xk, .string xv, .bool false].toArray, .agg [Value.string s5, .bool c5].toArray]) ?_ rfl ⟨rfl, HW9.out⟩
      exact res_two Try.results70 _ (w.heap.size + 1) (w.heap.size + 2) rfl rfl _ HA9.out _ Try.underlying23 rfl Try.size_w _ HB9.out _ Try.underlying94 rfl Try.size_rd
  · have i0 : ((m : Int) == 0) = false := by simp; omega
    have hg := HG.out
    rw [if_neg m0] at hg
    clear HG
    by_cases m1 : m = 1
    · have i1 : ((m : Int) == 1) = true := by simp; omega
      rw [if_pos m1] at hg
      simp only [Prod.mk.injEq] at hg
      obtain ⟨rfl, rfl, rfl⟩ := hg
      have cf14 := HD13.out.cell 3 _ rfl
      have ff14 := HD13.out.free 3 (by simp [wc])
      have U14 : Upd (k11.heap.size) k13 (k13.setCell ⟨k11.heap.size, 3, none⟩ (.bool true)) := Upd.setCell _ _ _ _
      have A14 : Blk (k13.setCell ⟨k11.heap.size, 3, none⟩ (.bool true)) (k11.heap.size) [.string xb, .string xk, .string ⟨#[]⟩, .bool true] := Blk.setc HD13.out 3 (by simp [wc]) (.bool true)
      have HR14 : Hid (Blk (k13.setCell ⟨k11.heap.size, 3, none⟩ (.bool true)) (w.heap.size) [.string s4, .bool c4]) := Blk.upd HR13.out U14 (by omega)
      have LR14 : Hid (w.heap.size < (k13.setCell ⟨k11.heap.size, 3, none⟩ (.bool true)).heap.size) := by show _ < _; rw [U14.size]; exact LR13.out
      have HO14 : Hid (Blk (k13.setCell ⟨k11.heap.size, 3, none⟩ (.bool true)) (w.heap.size + 1) (wc I.none_)) := Blk.upd HO13.out U14 (by omega)
      have LO14 : Hid (w.heap.size + 1 < (k13.setCell ⟨k11.heap.size, 3, none⟩ (.bool true)).heap.size) := by show _ < _; rw [U14.size]; exact LO13.out
      have HQ14 : Hid (Blk (k13.setCell ⟨k11.heap.size, 3, none⟩ (.bool true)) (w.heap.size + 2) [.string ⟨#[]⟩, .bool false]) := Blk.upd HQ13.out U14 (by omega)
      have LQ14 : Hid (w.heap.size + 2 < (k13.setCell ⟨k11.heap.size, 3, none⟩ (.bool true)).heap.size) := by show _ < _; rw [U14.size]; exact LQ13.out
      have HD14 : Hid (Blk (k13.setCell ⟨k11.heap.size, 3, none⟩ (.bool true)) (k11.heap.size) [.string xb, .string xk, .string ⟨#[]⟩, .bool true]) := A14
      have LD14 : Hid (k11.heap.size < (k13.setCell ⟨k11.heap.size, 3, none⟩ (.bool true)).heap.size) := by show _ < _; rw [U14.size]; exact LD13.out
      have W14 : Hid (Below w.heap.size w (k13.setCell ⟨k11.heap.size, 3, none⟩ (.bool true))) := Below.trans W13.out (U14.below (by omega))
      clear A14 U14 HR13 LR13 HO13 LO13 HQ13 LQ13 HD13 LD13 W13
      go_wp2_with fail
      have a0 := HD14.out.cell 0 _ rfl
      have a1 := HD14.out.cell 1 _ rfl
      have a2 := HD14.out.cell 2 _ rfl
      have a3 := HD14.out.cell 3 _ rfl
      have r0 := HR14.out.cell 0 _ rfl
      have r1 := HR14.out.cell 1 _ rfl
      have o0 := HO14.out.cell 0 _ rfl
      have p0 := HO14.out.free 0 (by simp [wc])
      have o1 := HO14.out.cell 1 _ rfl
      have p1 := HO14.out.free 1 (by simp [wc])
      have o2 := HO14.out.cell 2 _ rfl
      have p2 := HO14.out.free 2 (by simp [wc])
      have o3 := HO14.out.cell 3 _ rfl
      have p3 := HO14.out.free 3 (by simp [wc])
      have q0 := HQ14.out.cell 0 _ rfl
      have v0 := HQ14.out.free 0 (by simp)
      have q1 := HQ14.out.cell 1 _ rfl
      have v1 := HQ14.out.free 1 (by simp)
      go_region
      all_goals
        have U8 : Upd (w.heap.size + 1) (k13.setCell ⟨k11.heap.size, 3, none⟩ (.bool true)) ((k13.setCell ⟨k11.heap.size, 3, none⟩ (.bool true)).setCells (w.heap.size + 1) 0 [Value.string xb, .string xk, .string ⟨#[]⟩, .bool true]) := Upd.setCells _ _ _ _
        have A8 : Blk ((k13.setCell ⟨k11.heap.size, 3, none⟩ (.bool true)).setCells (w.heap.size + 1) 0 [Value.string xb, .string xk, .string ⟨#[]⟩, .bool true]) (w.heap.size + 1) [Value.string xb, .string xk, .string ⟨#[]⟩, .bool true] := Blk.store HO14.out _ rfl
        have Q8 : Blk ((k13.setCell ⟨k11.heap.size, 3, none⟩ (.bool true)).setCells (w.heap.size + 1) 0 [Value.string xb, .string xk, .string ⟨#[]⟩, .bool true]) (w.heap.size + 2) [.string ⟨#[]⟩, .bool false] := Blk.upd HQ14.out U8 (by omega)
        have U9 : Upd (w.heap.size + 2) _ (((k13.setCell ⟨k11.heap.size, 3, none⟩ (.bool true)).setCells (w.heap.size + 1) 0 [Value.string xb, .string xk, .string ⟨#[]⟩, .bool true]).setCells (w.heap.size + 2) 0 [Value.string s4, .bool c4]) := Upd.setCells _ _ _ _
        have HB9 : Hid (Blk (((k13.setCell ⟨k11.heap.size, 3, none⟩ (.bool true)).setCells (w.heap.size + 1) 0 [Value.string xb, .string xk, .string ⟨#[]⟩, .bool true]).setCells (w.heap.size + 2) 0 [Value.string s4, .bool c4]).drew (w.heap.size + 2) [Value.string s4, .bool c4]) := (Q8.store [Value.string s4, .bool c4] rfl).drew
        have HA9 : Hid (Blk (((k13.setCell ⟨k11.heap.size, 3, none⟩ (.bool true)).setCells (w.heap.size + 1) 0 [Value.string xb, .string xk, .string ⟨#[]⟩, .bool true]).setCells (w.heap.size + 2) 0 [Value.string s4, .bool c4]).drew (w.heap.size + 1) [Value.string xb, .string xk, .string ⟨#[]⟩, .bool true]) := (Blk.upd A8 U9 (by omega)).drew
        have HW9 : Hid (Below w.heap.size w (((k13.setCell ⟨k11.heap.size, 3, none⟩ (.bool true)).setCells (w.heap.size + 1) 0 [Value.string xb, .string xk, .string ⟨#[]⟩, .bool true]).setCells (w.heap.size + 2) 0 [Value.string s4, .bool c4]).drew) := ((Below.trans W14.out (U8.below (by omega))).trans (U9.below (by omega))).drew
        clear U8 A8 Q8 U9 a0 a1 a2 a3 r0 r1 o0 o1 o2 o3 p0 p1 p2 p3 q0 q1 v0 v1
        go_wp2_with fail
        refine bodyPost_ret (v := .tuple #[.agg [Value.string xb, .string xk, .string ⟨#[]⟩, .bool true].toArray, .agg [Value.string s4, .bool c4].toArray]) ?_ rfl ⟨rfl, HW9.out⟩
        exact res_two Try.results70 _ (w.heap.size + 1) (w.heap.size + 2) rfl rfl _ HA9.out _ Try.underlying23 rfl Try.size_w _ HB9.out _ Try.underlying94 rfl Try.size_rd
    · have i1 : ((m : Int) == 1) = false := by simp; omega
      rw [if_neg m1] at hg
      simp only [Prod.mk.injEq] at hg
      obtain ⟨rfl, rfl, rfl⟩ := hg
      go_wp2_with (first | refine blk_store rfl 23 _ _ rfl (w.heap.size + 1) rfl (wc I.none_) rfl _ HO13.out rfl Try.size_w rfl ?_)
      intro k14 A14 U14
      have HR14 : Hid (Blk k14 (w.heap.size) [.string s4, .bool c4]) := Blk.upd HR13.out U14 (by omega)
      have LR14 : Hid (w.heap.size < k14.heap.size) := by show _ < _; rw [U14.size]; exact LR13.out
      have HO14 : Hid (Blk k14 (w.heap.size + 1) (wc I.none_)) := A14
      have LO14 : Hid (w.heap.size + 1 < k14.heap.size) := by show _ < _; rw [U14.size]; exact LO13.out
      have HQ14 : Hid (Blk k14 (w.heap.size + 2) [.string ⟨#[]⟩, .bool false]) := Blk.upd HQ13.out U14 (by omega)
      have LQ14 : Hid (w.heap.size + 2 < k14.heap.size) := by show _ < _; rw [U14.size]; exact LQ13.out
      have HD14 : Hid (Blk k14 (k11.heap.size) (wc (xb, xk, ⟨#[]⟩, false))) := Blk.upd HD13.out U14 (by omega)
      have LD14 : Hid (k11.heap.size < k14.heap.size) := by show _ < _; rw [U14.size]; exact LD13.out
      have W14 : Hid (Below w.heap.size w k14) := Below.trans W13.out (U14.below (by omega))
      clear A14 U14 HR13 LR13 HO13 LO13 HQ13 LQ13 HD13 LD13 W13
      go_wp2_with (first | refine blk_store rfl 94 _ _ rfl (w.heap.size + 2) rfl [.string ⟨#[]⟩, .bool true] rfl _ HQ14.out rfl Try.size_rd rfl ?_)
      intro k15 A15 U15
      have HR15 : Hid (Blk k15 (w.heap.size) [.string s4, .bool c4]) := Blk.upd HR14.out U15 (by omega)
      have LR15 : Hid (w.heap.size < k15.heap.size) := by show _ < _; rw [U15.size]; exact LR14.out
      have HO15 : Hid (Blk k15 (w.heap.size + 1) (wc I.none_)) := Blk.upd HO14.out U15 (by omega)
      have LO15 : Hid (w.heap.size + 1 < k15.heap.size) := by show _ < _; rw [U15.size]; exact LO14.out
      have HQ15 : Hid (Blk k15 (w.heap.size + 2) [.string ⟨#[]⟩, .bool true]) := A15
      have LQ15 : Hid (w.heap.size + 2 < k15.heap.size) := by show _ < _; rw [U15.size]; exact LQ14.out
      have HD15 : Hid (Blk k15 (k11.heap.size) (wc (xb, xk, ⟨#[]⟩, false))) := Blk.upd HD14.out U15 (by omega)
      have LD15 : Hid (k11.heap.size < k15.heap.size) := by show _ < _; rw [U15.size]; exact LD14.out
      have W15 : Hid (Below w.heap.size w k15) := Below.trans W14.out (U15.below (by omega))
      clear A15 U15 HR14 LR14 HO14 LO14 HQ14 LQ14 HD14 LD14 W14
      go_wp2_with fail
      refine bodyPost_ret (v := .tuple #[WV I.none_, .agg #[.string ⟨#[]⟩, .bool true]]) ?_ rfl ⟨rfl, W15.out⟩
      exact res_two Try.results70 _ (w.heap.size + 1) (w.heap.size + 2) rfl rfl _ HO15.out _ Try.underlying23 rfl Try.size_w _ HQ15.out _ Try.underlying94 rfl Try.size_rd
end Go.Proofs.Ytkfcbihofipcbaa.It
