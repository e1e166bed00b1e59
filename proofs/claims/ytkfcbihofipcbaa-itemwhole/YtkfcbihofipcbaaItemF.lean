/- The program's item: getWrite. -/
import Derived.Test.YtkfcbihofipcbaaItemA

import Derived.Test.YtkfcbihofipcbaaItemBackM

import Derived.Test.YtkfcbihofipcbaaItemRE

import Derived.Test.YtkfcbihofipcbaaStrClone

import Derived.Test.YtkfcbihofipcbaaPackDone

import Derived.Test.YtkfcbihofipcbaaItemOf

namespace Go.Proofs.Ytkfcbihofipcbaa.It

open Go.RowKit Go.Proofs.Ytkfcbihofipcbaa.Vc Go.Proofs.Ytkfcbihofipcbaa.Sp

set_option linter.unusedVariables false

set_option linter.unusedSimpArgs false

set_option maxRecDepth 100000

theorem RT_small (s : ByteArray) (b : Bool) (k : Int) (t r : ByteArray) (c : Bool) (h0 : 0 ≤ k) (h : P.RT s b k = (t, r, c)) : (t.size : Int) ≤ k := by
  cases c with
  | false =>
    have := (Cn.rtext_canon _ _ _ _ (Cn.RT_some _ _ _ _ _ h).2).2
    rwa [P.len_list] at this
  | true =>
    have : t = ⟨#[]⟩ := by
      unfold P.RT P.outT at h
      split at h
      · simp at h; exact h.1.symm
      · simp at h
    rw [this]; exact h0
set_option maxHeartbeats 8000000 in
theorem getw_any (s : ByteArray) (b : Bool) (x : I.Wt) (t : ByteArray) (c : Bool) (w : World) (hs : s.size ≤ maxLen) (h : I.getW s b = (x, t, c)) :
    Calls Try.prog 70 #[.agg #[.string s, .bool b]] w fun e w' => e = .returned (.tuple #[WV x, .agg #[.string t, .bool c]]) ∧ Below w.heap.size w w' := by
  rcases h1 : P.RT s b 16 with ⟨xb, s2, c2⟩
  have hs2 : s2.size ≤ maxLen := by have := RT_size' s b 16; rw [h1] at this; exact Nat.le_trans this hs
  rcases h2 : P.RT s2 c2 16 with ⟨xk, s3, c3⟩
  have hs3 : s3.size ≤ maxLen := by have := RT_size' s2 c2 16; rw [h2] at this; exact Nat.le_trans this hs2
  rcases h3 : P.RN s3 c3 1 with ⟨m, s4, c4⟩
  have hs4 : s4.size ≤ maxLen := by have := Pk.RN_size s3 c3 1; rw [h3] at this; exact Nat.le_trans this hs3
  rcases h4 : P.RT s4 c4 32 with ⟨xv, s5, c5⟩
  have hm := T.RN_lt s3 c3 m s4 c4 h3
  have zb := RT_small s b 16 xb s2 c2 (by omega) h1
  have zk := RT_small s2 c2 16 xk s3 c3 (by omega) h2
  have zv := RT_small s4 c4 32 xv s5 c5 (by omega) h4
  have CB := Lib.hid (fun w => Pk.rtext_any s b 16 xb s2 c2 w hs (by omega) h1)
  have CK := Lib.hid (fun w => Pk.rtext_any s2 c2 16 xk s3 c3 w hs2 (by omega) h2)
  have CO := Lib.hid (fun w => Pk.rnumber_any s3 c3 1 m s4 c4 w hs3 h3)
  have CV := Lib.hid (fun w => Pk.rtext_any s4 c4 32 xv s5 c5 w hs4 (by omega) h4)
  have LB := Lib.hid (fun w => Mc.clone_any xb w (by omega))
  have LK := Lib.hid (fun w => Mc.clone_any xk w (by omega))
  have LV := Lib.hid (fun w => Mc.clone_any xv w (by omega))
  have HG : Hid ((if m = 0 then ((xb, xk, xv, false), s5, c5) else if m = 1 then ((xb, xk, ⟨#[]⟩, true), s4, c4) else (I.none_, ⟨#[]⟩, true)) = (x, t, c)) := by
    rw [← h]
    show _ = I.getW s b
    unfold I.getW
    simp only [h1, h2, h3, h4]
  clear h h1 h2 h3 h4 hs hs2 hs3 hs4 zb zk zv
  go_enter Try.func70, Try.ntmps70
  have W0 : Hid (Below w.heap.size w w) := Below.refl _ _
  go_wp2_with (first | refine blk_box rfl 94 _ rfl [.string s, .bool b] rfl ?_)
  intro k1 A1 B1 Z1
  go_wp2_with (first | refine blk_alloc rfl 23 (wc I.none_) rfl Try.info_iw2 ?_)
  intro k2 A2 B2 Z2
  go_wp2_with (first | refine blk_alloc rfl 94 [.string ⟨#[]⟩, .bool false] rfl Try.info_rd ?_)
  intro k3 A3 B3 Z3
  have hb3 : Below w.heap.size w k3 := ((B1).trans (B2.mono (by omega))).trans (B3.mono (by omega))
  have HR3_ : Hid (Blk k3 (w.heap.size) [.string s, .bool b]) := ((A1).below B2 (by omega)).below B3 (by omega)
  have LR3_ : Hid (w.heap.size < k3.heap.size) := by show _ < _; omega
  have HO3_ : Hid (Blk k3 (w.heap.size + 1) (wc I.none_)) := (A2).below B3 (by omega)
  have LO3_ : Hid (w.heap.size + 1 < k3.heap.size) := by show _ < _; omega
  have HQ3_ : Hid (Blk k3 (w.heap.size + 2) [.string ⟨#[]⟩, .bool false]) := A3
  have LQ3_ : Hid (w.heap.size + 2 < k3.heap.size) := by show _ < _; omega
  have W3 : Hid (Below w.heap.size w k3) := Below.trans W0.out (hb3.mono W0.out.size)
  have HR3 := HR3_
  have LR3 := LR3_
  have HO3 := HO3_
  have LO3 := LO3_
  have HQ3 := HQ3_
  have LQ3 := LQ3_
  clear hb3 A1 B1 Z1 A2 B2 Z2 A3 B3 Z3 W0 HR3_ LR3_ HO3_ LO3_ HQ3_ LQ3_
  go_wp2_with (first | refine blk_load rfl 94 _ rfl (w.heap.size) rfl [.string s, .bool b] HR3.out _ Try.underlying94 rfl Try.size_rd ?_)
  refine (CB.out _).mono ?_; rintro e k4 ⟨rfl, hb4⟩
  have HR4 : Hid (Blk k4 (w.heap.size) [.string s, .bool b]) := Blk.below HR3.out hb4 LR3.out
  have LR4 : Hid (w.heap.size < k4.heap.size) := Nat.lt_of_lt_of_le LR3.out hb4.size
  have HO4 : Hid (Blk k4 (w.heap.size + 1) (wc I.none_)) := Blk.below HO3.out hb4 LO3.out
  have LO4 : Hid (w.heap.size + 1 < k4.heap.size) := Nat.lt_of_lt_of_le LO3.out hb4.size
  have HQ4 : Hid (Blk k4 (w.heap.size + 2) [.string ⟨#[]⟩, .bool false]) := Blk.below HQ3.out hb4 LQ3.out
  have LQ4 : Hid (w.heap.size + 2 < k4.heap.size) := Nat.lt_of_lt_of_le LQ3.out hb4.size
  have W4 : Hid (Below w.heap.size w k4) := Below.trans W3.out (hb4.mono W3.out.size)
  clear hb4 HR3 LR3 HO3 LO3 HQ3 LQ3 W3 
  go_wp2_with (first | refine blk_store rfl 94 _ _ rfl (w.heap.size) rfl [.string s2, .bool c2] rfl _ HR4.out rfl Try.size_rd rfl ?_)
  intro k5 A5 U5
  have HR5 : Hid (Blk k5 (w.heap.size) [.string s2, .bool c2]) := A5
  have LR5 : Hid (w.heap.size < k5.heap.size) := by show _ < _; rw [U5.size]; exact LR4.out
  have HO5 : Hid (Blk k5 (w.heap.size + 1) (wc I.none_)) := Blk.upd HO4.out U5 (by omega)
  have LO5 : Hid (w.heap.size + 1 < k5.heap.size) := by show _ < _; rw [U5.size]; exact LO4.out
  have HQ5 : Hid (Blk k5 (w.heap.size + 2) [.string ⟨#[]⟩, .bool false]) := Blk.upd HQ4.out U5 (by omega)
  have LQ5 : Hid (w.heap.size + 2 < k5.heap.size) := by show _ < _; rw [U5.size]; exact LQ4.out
  have W5 : Hid (Below w.heap.size w k5) := Below.trans W4.out (U5.below (by omega))
  clear A5 U5 HR4 LR4 HO4 LO4 HQ4 LQ4 W4
  go_wp2_with (first | refine blk_load rfl 94 _ rfl (w.heap.size) rfl [.string s2, .bool c2] HR5.out _ Try.underlying94 rfl Try.size_rd ?_)
  refine (CK.out _).mono ?_; rintro e k6 ⟨rfl, hb6⟩
  have HR6 : Hid (Blk k6 (w.heap.size) [.string s2, .bool c2]) := Blk.below HR5.out hb6 LR5.out
  have LR6 : Hid (w.heap.size < k6.heap.size) := Nat.lt_of_lt_of_le LR5.out hb6.size
  have HO6 : Hid (Blk k6 (w.heap.size + 1) (wc I.none_)) := Blk.below HO5.out hb6 LO5.out
  have LO6 : Hid (w.heap.size + 1 < k6.heap.size) := Nat.lt_of_lt_of_le LO5.out hb6.size
  have HQ6 : Hid (Blk k6 (w.heap.size + 2) [.string ⟨#[]⟩, .bool false]) := Blk.below HQ5.out hb6 LQ5.out
  have LQ6 : Hid (w.heap.size + 2 < k6.heap.size) := Nat.lt_of_lt_of_le LQ5.out hb6.size
  have W6 : Hid (Below w.heap.size w k6) := Below.trans W5.out (hb6.mono W5.out.size)
  clear hb6 HR5 LR5 HO5 LO5 HQ5 LQ5 W5 
  go_wp2_with (first | refine blk_store rfl 94 _ _ rfl (w.heap.size) rfl [.string s3, .bool c3] rfl _ HR6.out rfl Try.size_rd rfl ?_)
  intro k7 A7 U7
  have HR7 : Hid (Blk k7 (w.heap.size) [.string s3, .bool c3]) := A7
  have LR7 : Hid (w.heap.size < k7.heap.size) := by show _ < _; rw [U7.size]; exact LR6.out
  have HO7 : Hid (Blk k7 (w.heap.size + 1) (wc I.none_)) := Blk.upd HO6.out U7 (by omega)
  have LO7 : Hid (w.heap.size + 1 < k7.heap.size) := by show _ < _; rw [U7.size]; exact LO6.out
  have HQ7 : Hid (Blk k7 (w.heap.size + 2) [.string ⟨#[]⟩, .bool false]) := Blk.upd HQ6.out U7 (by omega)
  have LQ7 : Hid (w.heap.size + 2 < k7.heap.size) := by show _ < _; rw [U7.size]; exact LQ6.out
  have W7 : Hid (Below w.heap.size w k7) := Below.trans W6.out (U7.below (by omega))
  clear A7 U7 HR6 LR6 HO6 LO6 HQ6 LQ6 W6
  go_wp2_with (first | refine blk_load rfl 94 _ rfl (w.heap.size) rfl [.string s3, .bool c3] HR7.out _ Try.underlying94 rfl Try.size_rd ?_)
  refine (CO.out _).mono ?_; rintro e k8 ⟨rfl, hb8⟩
  have HR8 : Hid (Blk k8 (w.heap.size) [.string s3, .bool c3]) := Blk.below HR7.out hb8 LR7.out
  have LR8 : Hid (w.heap.size < k8.heap.size) := Nat.lt_of_lt_of_le LR7.out hb8.size
  have HO8 : Hid (Blk k8 (w.heap.size + 1) (wc I.none_)) := Blk.below HO7.out hb8 LO7.out
  have LO8 : Hid (w.heap.size + 1 < k8.heap.size) := Nat.lt_of_lt_of_le LO7.out hb8.size
  have HQ8 : Hid (Blk k8 (w.heap.size + 2) [.string ⟨#[]⟩, .bool false]) := Blk.below HQ7.out hb8 LQ7.out
  have LQ8 : Hid (w.heap.size + 2 < k8.heap.size) := Nat.lt_of_lt_of_le LQ7.out hb8.size
  have W8 : Hid (Below w.heap.size w k8) := Below.trans W7.out (hb8.mono W7.out.size)
  clear hb8 HR7 LR7 HO7 LO7 HQ7 LQ7 W7 
  go_wp2_with (first | refine blk_store rfl 94 _ _ rfl (w.heap.size) rfl [.string s4, .bool c4] rfl _ HR8.out rfl Try.size_rd rfl ?_)
  intro k9 A9 U9
  have HR9 : Hid (Blk k9 (w.heap.size) [.string s4, .bool c4]) := A9
  have LR9 : Hid (w.heap.size < k9.heap.size) := by show _ < _; rw [U9.size]; exact LR8.out
  have HO9 : Hid (Blk k9 (w.heap.size + 1) (wc I.none_)) := Blk.upd HO8.out U9 (by omega)
  have LO9 : Hid (w.heap.size + 1 < k9.heap.size) := by show _ < _; rw [U9.size]; exact LO8.out
  have HQ9 : Hid (Blk k9 (w.heap.size + 2) [.string ⟨#[]⟩, .bool false]) := Blk.upd HQ8.out U9 (by omega)
  have LQ9 : Hid (w.heap.size + 2 < k9.heap.size) := by show _ < _; rw [U9.size]; exact LQ8.out
  have W9 : Hid (Below w.heap.size w k9) := Below.trans W8.out (U9.below (by omega))
  clear A9 U9 HR8 LR8 HO8 LO8 HQ8 LQ8 W8
  go_wp2_with fail
  refine (LB.out _).mono ?_; rintro e k10 ⟨rfl, hb10⟩
  have HR10 : Hid (Blk k10 (w.heap.size) [.string s4, .bool c4]) := Blk.below HR9.out hb10 LR9.out
  have LR10 : Hid (w.heap.size < k10.heap.size) := Nat.lt_of_lt_of_le LR9.out hb10.size
  have HO10 : Hid (Blk k10 (w.heap.size + 1) (wc I.none_)) := Blk.below HO9.out hb10 LO9.out
  have LO10 : Hid (w.heap.size + 1 < k10.heap.size) := Nat.lt_of_lt_of_le LO9.out hb10.size
  have HQ10 : Hid (Blk k10 (w.heap.size + 2) [.string ⟨#[]⟩, .bool false]) := Blk.below HQ9.out hb10 LQ9.out
  have LQ10 : Hid (w.heap.size + 2 < k10.heap.size) := Nat.lt_of_lt_of_le LQ9.out hb10.size
  have W10 : Hid (Below w.heap.size w k10) := Below.trans W9.out (hb10.mono W9.out.size)
  clear hb10 HR9 LR9 HO9 LO9 HQ9 LQ9 W9 
  go_wp2_with fail
  refine (LK.out _).mono ?_; rintro e k11 ⟨rfl, hb11⟩
  have HR11 : Hid (Blk k11 (w.heap.size) [.string s4, .bool c4]) := Blk.below HR10.out hb11 LR10.out
  have LR11 : Hid (w.heap.size < k11.heap.size) := Nat.lt_of_lt_of_le LR10.out hb11.size
  have HO11 : Hid (Blk k11 (w.heap.size + 1) (wc I.none_)) := Blk.below HO10.out hb11 LO10.out
  have LO11 : Hid (w.heap.size + 1 < k11.heap.size) := Nat.lt_of_lt_of_le LO10.out hb11.size
  have HQ11 : Hid (Blk k11 (w.heap.size + 2) [.string ⟨#[]⟩, .bool false]) := Blk.below HQ10.out hb11 LQ10.out
  have LQ11 : Hid (w.heap.size + 2 < k11.heap.size) := Nat.lt_of_lt_of_le LQ10.out hb11.size
  have W11 : Hid (Below w.heap.size w k11) := Below.trans W10.out (hb11.mono W10.out.size)
  clear hb11 HR10 LR10 HO10 LO10 HQ10 LQ10 W10 
  have hq : w.heap.size + 2 < k11.heap.size := LQ11.out
  go_wp2_with (first | refine blk_alloc rfl 23 (wc I.none_) rfl Try.info_iw2 ?_)
  intro k12 A12 B12 Z12
  go_wp2_with (first | refine blk_store rfl 23 _ _ rfl (k11.heap.size) rfl (wc (xb, xk, ⟨#[]⟩, false)) rfl _ A12 rfl Try.size_w rfl ?_)
  intro k13 A13 U13
  have hb13 : Below k11.heap.size k11 k13 := B12.trans (U13.below (Nat.le_refl _))
  have HD13_ : Hid (Blk k13 (k11.heap.size) (wc (xb, xk, ⟨#[]⟩, false))) := A13
  have LD13_ : Hid (k11.heap.size < k13.heap.size) := by show _ < _; rw [U13.size]; omega
  have HR13 : Hid (Blk k13 (w.heap.size) [.string s4, .bool c4]) := Blk.below HR11.out hb13 LR11.out
  have LR13 : Hid (w.heap.size < k13.heap.size) := Nat.lt_of_lt_of_le LR11.out hb13.size
  have HO13 : Hid (Blk k13 (w.heap.size + 1) (wc I.none_)) := Blk.below HO11.out hb13 LO11.out
  have LO13 : Hid (w.heap.size + 1 < k13.heap.size) := Nat.lt_of_lt_of_le LO11.out hb13.size
  have HQ13 : Hid (Blk k13 (w.heap.size + 2) [.string ⟨#[]⟩, .bool false]) := Blk.below HQ11.out hb13 LQ11.out
  have LQ13 : Hid (w.heap.size + 2 < k13.heap.size) := Nat.lt_of_lt_of_le LQ11.out hb13.size
  have W13 : Hid (Below w.heap.size w k13) := Below.trans W11.out (hb13.mono W11.out.size)
  have HD13 := HD13_
  have LD13 := LD13_
  clear hb13 A12 B12 Z12 A13 U13 HD13_ LD13_ HR11 LR11 HO11 LO11 HQ11 LQ11 W11
  by_cases m0 : m = 0
  · have i0 : ((m : Int) == 0) = true := by simp; omega
    have hg := HG.out
    rw [if_pos m0] at hg
    simp only [Prod.mk.injEq] at hg
    obtain ⟨rfl, rfl, rfl⟩ := hg
    clear HG
    go_wp2_with (first | refine blk_load rfl 94 _ rfl (w.heap.size) rfl [.string s4, .bool c4] HR13.out _ Try.underlying94 rfl Try.size_rd ?_)
    refine (CV.out _).mono ?_; rintro e k14 ⟨rfl, hb14⟩
    have HR14 : Hid (Blk k14 (w.heap.size) [.string s4, .bool c4]) := Blk.below HR13.out hb14 LR13.out
    have LR14 : Hid (w.heap.size < k14.heap.size) := Nat.lt_of_lt_of_le LR13.out hb14.size
    have HO14 : Hid (Blk k14 (w.heap.size + 1) (wc I.none_)) := Blk.below HO13.out hb14 LO13.out
    have LO14 : Hid (w.heap.size + 1 < k14.heap.size) := Nat.lt_of_lt_of_le LO13.out hb14.size
    have HQ14 : Hid (Blk k14 (w.heap.size + 2) [.string ⟨#[]⟩, .bool false]) := Blk.below HQ13.out hb14 LQ13.out
    have LQ14 : Hid (w.heap.size + 2 < k14.heap.size) := Nat.lt_of_lt_of_le LQ13.out hb14.size
    have HD14 : Hid (Blk k14 (k11.heap.size) (wc (xb, xk, ⟨#[]⟩, false))) := Blk.below HD13.out hb14 LD13.out
    have LD14 : Hid (k11.heap.size < k14.heap.size) := Nat.lt_of_lt_of_le LD13.out hb14.size
    have W14 : Hid (Below w.heap.size w k14) := Below.trans W13.out (hb14.mono W13.out.size)
    clear hb14 HR13 LR13 HO13 LO13 HQ13 LQ13 HD13 LD13 W13 
    go_wp2_with (first | refine blk_store rfl 94 _ _ rfl (w.heap.size) rfl [.string s5, .bool c5] rfl _ HR14.out rfl Try.size_rd rfl ?_)
    intro k15 A15 U15
    have HR15 : Hid (Blk k15 (w.heap.size) [.string s5, .bool c5]) := A15
    have LR15 : Hid (w.heap.size < k15.heap.size) := by show _ < _; rw [U15.size]; exact LR14.out
    have HO15 : Hid (Blk k15 (w.heap.size + 1) (wc I.none_)) := Blk.upd HO14.out U15 (by omega)
    have LO15 : Hid (w.heap.size + 1 < k15.heap.size) := by show _ < _; rw [U15.size]; exact LO14.out
    have HQ15 : Hid (Blk k15 (w.heap.size + 2) [.string ⟨#[]⟩, .bool false]) := Blk.upd HQ14.out U15 (by omega)
    have LQ15 : Hid (w.heap.size + 2 < k15.heap.size) := by show _ < _; rw [U15.size]; exact LQ14.out
    have HD15 : Hid (Blk k15 (k11.heap.size) (wc (xb, xk, ⟨#[]⟩, false))) := Blk.upd HD14.out U15 (by omega)
    have LD15 : Hid (k11.heap.size < k15.heap.size) := by show _ < _; rw [U15.size]; exact LD14.out
    have W15 : Hid (Below w.heap.size w k15) := Below.trans W14.out (U15.below (by omega))
    clear A15 U15 HR14 LR14 HO14 LO14 HQ14 LQ14 HD14 LD14 W14
    go_wp2_with fail
    refine (LV.out _).mono ?_; rintro e k16 ⟨rfl, hb16⟩
    have HR16 : Hid (Blk k16 (w.heap.size) [.string s5, .bool c5]) := Blk.below HR15.out hb16 LR15.out
    have LR16 : Hid (w.heap.size < k16.heap.size) := Nat.lt_of_lt_of_le LR15.out hb16.size
    have HO16 : Hid (Blk k16 (w.heap.size + 1) (wc I.none_)) := Blk.below HO15.out hb16 LO15.out
    have LO16 : Hid (w.heap.size + 1 < k16.heap.size) := Nat.lt_of_lt_of_le LO15.out hb16.size
    have HQ16 : Hid (Blk k16 (w.heap.size + 2) [.string ⟨#[]⟩, .bool false]) := Blk.below HQ15.out hb16 LQ15.out
    have LQ16 : Hid (w.heap.size + 2 < k16.heap.size) := Nat.lt_of_lt_of_le LQ15.out hb16.size
    have HD16 : Hid (Blk k16 (k11.heap.size) (wc (xb, xk, ⟨#[]⟩, false))) := Blk.below HD15.out hb16 LD15.out
    have LD16 : Hid (k11.heap.size < k16.heap.size) := Nat.lt_of_lt_of_le LD15.out hb16.size
    have W16 : Hid (Below w.heap.size w k16) := Below.trans W15.out (hb16.mono W15.out.size)
    clear hb16 HR15 LR15 HO15 LO15 HQ15 LQ15 HD15 LD15 W15 
    have cf17 := HD16.out.cell 2 _ rfl
    have ff17 := HD16.out.free 2 (by simp [wc])
    have U17 : Upd (k11.heap.size) k16 (k16.setCell ⟨k11.heap.size, 2, none⟩ (.string xv)) := Upd.setCell _ _ _ _
    have A17 : Blk (k16.setCell ⟨k11.heap.size, 2, none⟩ (.string xv)) (k11.heap.size) [.string xb, .string xk, .string xv, .bool false] := Blk.setc HD16.out 2 (by simp [wc]) (.string xv)
    have HR17 : Hid (Blk (k16.setCell ⟨k11.heap.size, 2, none⟩ (.string xv)) (w.heap.size) [.string s5, .bool c5]) := Blk.upd HR16.out U17 (by omega)
    have LR17 : Hid (w.heap.size < (k16.setCell ⟨k11.heap.size, 2, none⟩ (.string xv)).heap.size) := by show _ < _; rw [U17.size]; exact LR16.out
    have HO17 : Hid (Blk (k16.setCell ⟨k11.heap.size, 2, none⟩ (.string xv)) (w.heap.size + 1) (wc I.none_)) := Blk.upd HO16.out U17 (by omega)
    have LO17 : Hid (w.heap.size + 1 < (k16.setCell ⟨k11.heap.size, 2, none⟩ (.string xv)).heap.size) := by show _ < _; rw [U17.size]; exact LO16.out
    have HQ17 : Hid (Blk (k16.setCell ⟨k11.heap.size, 2, none⟩ (.string xv)) (w.heap.size + 2) [.string ⟨#[]⟩, .bool false]) := Blk.upd HQ16.out U17 (by omega)
    have LQ17 : Hid (w.heap.size + 2 < (k16.setCell ⟨k11.heap.size, 2, none⟩ (.string xv)).heap.size) := by show _ < _; rw [U17.size]; exact LQ16.out
    have HD17 : Hid (Blk (k16.setCell ⟨k11.heap.size, 2, none⟩ (.string xv)) (k11.heap.size) [.string xb, .string xk, .string xv, .bool false]) := A17
    have LD17 : Hid (k11.heap.size < (k16.setCell ⟨k11.heap.size, 2, none⟩ (.string xv)).heap.size) := by show _ < _; rw [U17.size]; exact LD16.out
    have W17 : Hid (Below w.heap.size w (k16.setCell ⟨k11.heap.size, 2, none⟩ (.string xv))) := Below.trans W16.out (U17.below (by omega))
    clear A17 U17 HR16 LR16 HO16 LO16 HQ16 LQ16 HD16 LD16 W16
    go_wp2_with fail
    have a0 := HD17.out.cell 0 _ rfl
    have a1 := HD17.out.cell 1 _ rfl
    have a2 := HD17.out.cell 2 _ rfl
    have a3 := HD17.out.cell 3 _ rfl
    have r0 := HR17.out.cell 0 _ rfl
    have r1 := HR17.out.cell 1 _ rfl
    have o0 := HO17.out.cell 0 _ rfl
    have p0 := HO17.out.free 0 (by simp [wc])
    have o1 := HO17.out.cell 1 _ rfl
    have p1 := HO17.out.free 1 (by simp [wc])
    have o2 := HO17.out.cell 2 _ rfl
    have p2 := HO17.out.free 2 (by simp [wc])
    have o3 := HO17.out.cell 3 _ rfl
    have p3 := HO17.out.free 3 (by simp [wc])
    have q0 := HQ17.out.cell 0 _ rfl
    have v0 := HQ17.out.free 0 (by simp)
    have q1 := HQ17.out.cell 1 _ rfl
    have v1 := HQ17.out.free 1 (by simp)
    go_region
    all_goals
      have U8 : Upd (w.heap.size + 1) (k16.setCell ⟨k11.heap.size, 2, none⟩ (.string xv)) ((k16.setCell ⟨k11.heap.size, 2, none⟩ (.string xv)).setCells (w.heap.size + 1) 0 [Value.string xb, .string xk, .string xv, .bool false]) := Upd.setCells _ _ _ _
      have A8 : Blk ((k16.setCell ⟨k11.heap.size, 2, none⟩ (.string xv)).setCells (w.heap.size + 1) 0 [Value.string xb, .string xk, .string xv, .bool false]) (w.heap.size + 1) [Value.string xb, .string xk, .string xv, .bool false] := Blk.store HO17.out _ rfl
      have Q8 : Blk ((k16.setCell ⟨k11.heap.size, 2, none⟩ (.string xv)).setCells (w.heap.size + 1) 0 [Value.string xb, .string xk, .string xv, .bool false]) (w.heap.size + 2) [.string ⟨#[]⟩, .bool false] := Blk.upd HQ17.out U8 (by omega)
      have U9 : Upd (w.heap.size + 2) _ (((k16.setCell ⟨k11.heap.size, 2, none⟩ (.string xv)).setCells (w.heap.size + 1) 0 [Value.string xb, .string xk, .string xv, .bool false]).setCells (w.heap.size + 2) 0 [Value.string s5, .bool c5]) := Upd.setCells _ _ _ _
      have HB9 : Hid (Blk (((k16.setCell ⟨k11.heap.size, 2, none⟩ (.string xv)).setCells (w.heap.size + 1) 0 [Value.string xb, .string xk, .string xv, .bool false]).setCells (w.heap.size + 2) 0 [Value.string s5, .bool c5]).drew (w.heap.size + 2) [Value.string s5, .bool c5]) := (Q8.store [Value.string s5, .bool c5] rfl).drew
      have HA9 : Hid (Blk (((k16.setCell ⟨k11.heap.size, 2, none⟩ (.string xv)).setCells (w.heap.size + 1) 0 [Value.string xb, .string xk, .string xv, .bool false]).setCells (w.heap.size + 2) 0 [Value.string s5, .bool c5]).drew (w.heap.size + 1) [Value.string xb, .string xk, .string xv, .bool false]) := (Blk.upd A8 U9 (by omega)).drew
      have HW9 : Hid (Below w.heap.size w (((k16.setCell ⟨k11.heap.size, 2, none⟩ (.string xv)).setCells (w.heap.size + 1) 0 [Value.string xb, .string xk, .string xv, .bool false]).setCells (w.heap.size + 2) 0 [Value.string s5, .bool c5]).drew) := ((Below.trans W17.out (U8.below (by omega))).trans (U9.below (by omega))).drew
      clear U8 A8 Q8 U9 a0 a1 a2 a3 r0 r1 o0 o1 o2 o3 p0 p1 p2 p3 q0 q1 v0 v1
      go_wp2_with fail
      refine bodyPost_ret (v := .tuple #[.agg [Value.string xb, .string xk, .string xv, .bool false].toArray, .agg [Value.string s5, .bool c5].toArray]) ?_ rfl ⟨rfl, HW9.out⟩
      exact res_two Try.results70 _ (w.heap.size + 1) (w.heap.size + 2) rfl rfl _ HA9.out _ Try.underlying23 rfl Try.size_w _ HB9.out _ Try.underlying94 rfl Try.size_rd
  · have i0 : ((m : Int) == 0) = false := by simp; omega
    have hg := HG.out
    rw [if_neg m0] at hg
    clear HG
    by_cases m1 : m = 1
    · have i1 : ((m : Int) == 1) = true := by simp; omega
      rw [if_pos m1] at hg
      simp only [Prod.mk.injEq] at hg
      obtain ⟨rfl, rfl, rfl⟩ := hg
      have cf14 := HD13.out.cell 3 _ rfl
      have ff14 := HD13.out.free 3 (by simp [wc])
      have U14 : Upd (k11.heap.size) k13 (k13.setCell ⟨k11.heap.size, 3, none⟩ (.bool true)) := Upd.setCell _ _ _ _
      have A14 : Blk (k13.setCell ⟨k11.heap.size, 3, none⟩ (.bool true)) (k11.heap.size) [.string xb, .string xk, .string ⟨#[]⟩, .bool true] := Blk.setc HD13.out 3 (by simp [wc]) (.bool true)
      have HR14 : Hid (Blk (k13.setCell ⟨k11.heap.size, 3, none⟩ (.bool true)) (w.heap.size) [.string s4, .bool c4]) := Blk.upd HR13.out U14 (by omega)
      have LR14 : Hid (w.heap.size < (k13.setCell ⟨k11.heap.size, 3, none⟩ (.bool true)).heap.size) := by show _ < _; rw [U14.size]; exact LR13.out
      have HO14 : Hid (Blk (k13.setCell ⟨k11.heap.size, 3, none⟩ (.bool true)) (w.heap.size + 1) (wc I.none_)) := Blk.upd HO13.out U14 (by omega)
      have LO14 : Hid (w.heap.size + 1 < (k13.setCell ⟨k11.heap.size, 3, none⟩ (.bool true)).heap.size) := by show _ < _; rw [U14.size]; exact LO13.out
      have HQ14 : Hid (Blk (k13.setCell ⟨k11.heap.size, 3, none⟩ (.bool true)) (w.heap.size + 2) [.string ⟨#[]⟩, .bool false]) := Blk.upd HQ13.out U14 (by omega)
      have LQ14 : Hid (w.heap.size + 2 < (k13.setCell ⟨k11.heap.size, 3, none⟩ (.bool true)).heap.size) := by show _ < _; rw [U14.size]; exact LQ13.out
      have HD14 : Hid (Blk (k13.setCell ⟨k11.heap.size, 3, none⟩ (.bool true)) (k11.heap.size) [.string xb, .string xk, .string ⟨#[]⟩, .bool true]) := A14
      have LD14 : Hid (k11.heap.size < (k13.setCell ⟨k11.heap.size, 3, none⟩ (.bool true)).heap.size) := by show _ < _; rw [U14.size]; exact LD13.out
      have W14 : Hid (Below w.heap.size w (k13.setCell ⟨k11.heap.size, 3, none⟩ (.bool true))) := Below.trans W13.out (U14.below (by omega))
      clear A14 U14 HR13 LR13 HO13 LO13 HQ13 LQ13 HD13 LD13 W13
      go_wp2_with fail
      have a0 := HD14.out.cell 0 _ rfl
      have a1 := HD14.out.cell 1 _ rfl
      have a2 := HD14.out.cell 2 _ rfl
      have a3 := HD14.out.cell 3 _ rfl
      have r0 := HR14.out.cell 0 _ rfl
      have r1 := HR14.out.cell 1 _ rfl
      have o0 := HO14.out.cell 0 _ rfl
      have p0 := HO14.out.free 0 (by simp [wc])
      have o1 := HO14.out.cell 1 _ rfl
      have p1 := HO14.out.free 1 (by simp [wc])
      have o2 := HO14.out.cell 2 _ rfl
      have p2 := HO14.out.free 2 (by simp [wc])
      have o3 := HO14.out.cell 3 _ rfl
      have p3 := HO14.out.free 3 (by simp [wc])
      have q0 := HQ14.out.cell 0 _ rfl
      have v0 := HQ14.out.free 0 (by simp)
      have q1 := HQ14.out.cell 1 _ rfl
      have v1 := HQ14.out.free 1 (by simp)
      go_region
      all_goals
        have U8 : Upd (w.heap.size + 1) (k13.setCell ⟨k11.heap.size, 3, none⟩ (.bool true)) ((k13.setCell ⟨k11.heap.size, 3, none⟩ (.bool true)).setCells (w.heap.size + 1) 0 [Value.string xb, .string xk, .string ⟨#[]⟩, .bool true]) := Upd.setCells _ _ _ _
        have A8 : Blk ((k13.setCell ⟨k11.heap.size, 3, none⟩ (.bool true)).setCells (w.heap.size + 1) 0 [Value.string xb, .string xk, .string ⟨#[]⟩, .bool true]) (w.heap.size + 1) [Value.string xb, .string xk, .string ⟨#[]⟩, .bool true] := Blk.store HO14.out _ rfl
        have Q8 : Blk ((k13.setCell ⟨k11.heap.size, 3, none⟩ (.bool true)).setCells (w.heap.size + 1) 0 [Value.string xb, .string xk, .string ⟨#[]⟩, .bool true]) (w.heap.size + 2) [.string ⟨#[]⟩, .bool false] := Blk.upd HQ14.out U8 (by omega)
        have U9 : Upd (w.heap.size + 2) _ (((k13.setCell ⟨k11.heap.size, 3, none⟩ (.bool true)).setCells (w.heap.size + 1) 0 [Value.string xb, .string xk, .string ⟨#[]⟩, .bool true]).setCells (w.heap.size + 2) 0 [Value.string s4, .bool c4]) := Upd.setCells _ _ _ _
        have HB9 : Hid (Blk (((k13.setCell ⟨k11.heap.size, 3, none⟩ (.bool true)).setCells (w.heap.size + 1) 0 [Value.string xb, .string xk, .string ⟨#[]⟩, .bool true]).setCells (w.heap.size + 2) 0 [Value.string s4, .bool c4]).drew (w.heap.size + 2) [Value.string s4, .bool c4]) := (Q8.store [Value.string s4, .bool c4] rfl).drew
        have HA9 : Hid (Blk (((k13.setCell ⟨k11.heap.size, 3, none⟩ (.bool true)).setCells (w.heap.size + 1) 0 [Value.string xb, .string xk, .string ⟨#[]⟩, .bool true]).setCells (w.heap.size + 2) 0 [Value.string s4, .bool c4]).drew (w.heap.size + 1) [Value.string xb, .string xk, .string ⟨#[]⟩, .bool true]) := (Blk.upd A8 U9 (by omega)).drew
        have HW9 : Hid (Below w.heap.size w (((k13.setCell ⟨k11.heap.size, 3, none⟩ (.bool true)).setCells (w.heap.size + 1) 0 [Value.string xb, .string xk, .string ⟨#[]⟩, .bool true]).setCells (w.heap.size + 2) 0 [Value.string s4, .bool c4]).drew) := ((Below.trans W14.out (U8.below (by omega))).trans (U9.below (by omega))).drew
        clear U8 A8 Q8 U9 a0 a1 a2 a3 r0 r1 o0 o1 o2 o3 p0 p1 p2 p3 q0 q1 v0 v1
        go_wp2_with fail
        refine bodyPost_ret (v := .tuple #[.agg [Value.string xb, .string xk, .string ⟨#[]⟩, .bool true].toArray, .agg [Value.string s4, .bool c4].toArray]) ?_ rfl ⟨rfl, HW9.out⟩
        exact res_two Try.results70 _ (w.heap.size + 1) (w.heap.size + 2) rfl rfl _ HA9.out _ Try.underlying23 rfl Try.size_w _ HB9.out _ Try.underlying94 rfl Try.size_rd
    · have i1 : ((m : Int) == 1) = false := by simp; omega
      rw [if_neg m1] at hg
      simp only [Prod.mk.injEq] at hg
      obtain ⟨rfl, rfl, rfl⟩ := hg
      go_wp2_with (first | refine blk_store rfl 23 _ _ rfl (w.heap.size + 1) rfl (wc I.none_) rfl _ HO13.out rfl Try.size_w rfl ?_)
      intro k14 A14 U14
      have HR14 : Hid (Blk k14 (w.heap.size) [.string s4, .bool c4]) := Blk.upd HR13.out U14 (by omega)
      have LR14 : Hid (w.heap.size < k14.heap.size) := by show _ < _; rw [U14.size]; exact LR13.out
      have HO14 : Hid (Blk k14 (w.heap.size + 1) (wc I.none_)) := A14
      have LO14 : Hid (w.heap.size + 1 < k14.heap.size) := by show _ < _; rw [U14.size]; exact LO13.out
      have HQ14 : Hid (Blk k14 (w.heap.size + 2) [.string ⟨#[]⟩, .bool false]) := Blk.upd HQ13.out U14 (by omega)
      have LQ14 : Hid (w.heap.size + 2 < k14.heap.size) := by show _ < _; rw [U14.size]; exact LQ13.out
      have HD14 : Hid (Blk k14 (k11.heap.size) (wc (xb, xk, ⟨#[]⟩, false))) := Blk.upd HD13.out U14 (by omega)
      have LD14 : Hid (k11.heap.size < k14.heap.size) := by show _ < _; rw [U14.size]; exact LD13.out
      have W14 : Hid (Below w.heap.size w k14) := Below.trans W13.out (U14.below (by omega))
      clear A14 U14 HR13 LR13 HO13 LO13 HQ13 LQ13 HD13 LD13 W13
      go_wp2_with (first | refine blk_store rfl 94 _ _ rfl (w.heap.size + 2) rfl [.string ⟨#[]⟩, .bool true] rfl _ HQ14.out rfl Try.size_rd rfl ?_)
      intro k15 A15 U15
      have HR15 : Hid (Blk k15 (w.heap.size) [.string s4, .bool c4]) := Blk.upd HR14.out U15 (by omega)
      have LR15 : Hid (w.heap.size < k15.heap.size) := by show _ < _; rw [U15.size]; exact LR14.out
      have HO15 : Hid (Blk k15 (w.heap.size + 1) (wc I.none_)) := Blk.upd HO14.out U15 (by omega)
      have LO15 : Hid (w.heap.size + 1 < k15.heap.size) := by show _ < _; rw [U15.size]; exact LO14.out
      have HQ15 : Hid (Blk k15 (w.heap.size + 2) [.string ⟨#[]⟩, .bool true]) := A15
      have LQ15 : Hid (w.heap.size + 2 < k15.heap.size) := by show _ < _; rw [U15.size]; exact LQ14.out
      have HD15 : Hid (Blk k15 (k11.heap.size) (wc (xb, xk, ⟨#[]⟩, false))) := Blk.upd HD14.out U15 (by omega)
      have LD15 : Hid (k11.heap.size < k15.heap.size) := by show _ < _; rw [U15.size]; exact LD14.out
      have W15 : Hid (Below w.heap.size w k15) := Below.trans W14.out (U15.below (by omega))
      clear A15 U15 HR14 LR14 HO14 LO14 HQ14 LQ14 HD14 LD14 W14
      go_wp2_with fail
      refine bodyPost_ret (v := .tuple #[WV I.none_, .agg #[.string ⟨#[]⟩, .bool true]]) ?_ rfl ⟨rfl, W15.out⟩
      exact res_two Try.results70 _ (w.heap.size + 1) (w.heap.size + 2) rfl rfl _ HO15.out _ Try.underlying23 rfl Try.size_w _ HQ15.out _ Try.underlying94 rfl Try.size_rd
end Go.Proofs.Ytkfcbihofipcbaa.It

namespace Go.Proofs.Ytkfcbihofipcbaa.It

open Go.RowKit Go.Proofs.Ytkfcbihofipcbaa.Vc Go.Proofs.Ytkfcbihofipcbaa.Sp

set_option linter.unusedVariables false

set_option linter.unusedSimpArgs false

set_option maxRecDepth 100000

theorem Try.info_itx : (Try.prog.info? 43).map (fun i => (i.zero, i.size)) = some (some (.agg (ks .u64 [0, 0, 0, 0] ++ [Value.int .i64 0, .slice none 0 0]).toArray), (ks .u64 [0, 0, 0, 0] ++ [Value.int .i64 0, .slice none 0 0]).length) := by kernel_rfl
section

variable {P : Program} {ops : Array Oper} {rest : List Oper} {o : Oper} {a : Act} {w : World} {Q : Exit → Act → World → Prop}

/-- a stamp is stored into the first field of a transaction -/
theorem stamp_store (hgd : o.guard = none) (t : TypeId) (x y : Operand) (ho : o.op = .store t x y) (b : Nat) (hx : a.eval x = .pointer (some ⟨b, 0, none⟩)) (y0 y1 y2 y3 : Nat) (D : Int) (hy : a.eval y = SV [y0, y1, y2, y3] D)
    (x0 x1 x2 x3 : Nat) (E : Int) (v : Value) (hb : Blk w b (ks .u64 [x0, x1, x2, x3] ++ [Value.int .i64 E, v])) (hi : (P.info? t).map (·.size) = some 5)
    (h : ∀ w', Blk w' b (ks .u64 [y0, y1, y2, y3] ++ [Value.int .i64 D, v]) → Upd b w w' → wpList P ops Q rest (a.put o.dst undef) w') : wpList P ops Q (o :: rest) a w := by
  have hth : w.there b 0 5 := fun j hj => hb.2 j (by simp [ks]; omega)
  refine wpList_store_mid hgd t x y ho b 0 (ks .u64 [y0, y1, y2, y3] ++ [Value.int .i64 D]).toArray hx hy (by exact hth) (by exact hi) (all_oneCell_toArray (fun v hv => by simp [ks] at hv; rcases hv with rfl | rfl | rfl | rfl | rfl <;> rfl)) (h _ ?_ (Upd.setCells b _ 0 w))
  have s0 := Blk.setc hb 0 (by simp [ks]) (.int .u64 (y0 : Int))
  have s1 := Blk.setc s0 1 (by simp [ks]) (.int .u64 (y1 : Int))
  have s2 := Blk.setc s1 2 (by simp [ks]) (.int .u64 (y2 : Int))
  have s3 := Blk.setc s2 3 (by simp [ks]) (.int .u64 (y3 : Int))
  have s4 := Blk.setc s3 4 (by simp [ks]) (.int .i64 D)
  exact s4
end

theorem getW_size (s : ByteArray) (b : Bool) : (I.getW s b).2.1.size ≤ s.size := by
  have h1 := RT_size' s b 16
  have h2 := RT_size' (P.RT s b 16).2.1 (P.RT s b 16).2.2 16
  have h3 := Pk.RN_size (P.RT (P.RT s b 16).2.1 (P.RT s b 16).2.2 16).2.1 (P.RT (P.RT s b 16).2.1 (P.RT s b 16).2.2 16).2.2 1
  have h4 := RT_size' (P.RN (P.RT (P.RT s b 16).2.1 (P.RT s b 16).2.2 16).2.1 (P.RT (P.RT s b 16).2.1 (P.RT s b 16).2.2 16).2.2 1).2.1 (P.RN (P.RT (P.RT s b 16).2.1 (P.RT s b 16).2.2 16).2.1 (P.RT (P.RT s b 16).2.1 (P.RT s b 16).2.2 16).2.2 1).2.2 32
  unfold I.getW
  split
  · show (P.RT _ _ _).2.1.size ≤ _; omega
  · split
    · show (P.RN _ _ _).2.1.size ≤ _; omega
    · exact Nat.zero_le _
set_option maxHeartbeats 16000000 in
theorem gett_any (s : ByteArray) (A : List Nat) (D1 : Int) (LR : List I.Wt) (r : ByteArray) (c : Bool) (w : World) (hs : s.size ≤ maxLen) (h : I.getT s = (A, D1, LR, r, c)) :
    Calls Try.prog 52 #[.agg #[.string s, .bool false]] w fun e w' => ∃ v, e = .returned (.tuple #[TV A D1 v, .agg #[.string r, .bool c]]) ∧ OW 23 w' w.heap.size v LR ∧ Below w.heap.size w w' := by
  rcases hg0 : T.gets s false with ⟨A0, D, r0, c0⟩
  have hA0 : V.Ok A0 := by have := T.gets_ok s false; rw [hg0] at this; exact this
  have hr0 : r0.size ≤ maxLen := by have := gets_size s false; rw [hg0] at this; exact Nat.le_trans this hs
  rcases hn0 : P.RN r0 c0 1 with ⟨m, r1, c1⟩
  have hm := T.RN_lt r0 c0 m r1 c1 hn0
  have hr1 : r1.size ≤ maxLen := by have := Pk.RN_size r0 c0 1; rw [hn0] at this; exact Nat.le_trans this hr0
  have HG : Hid (A0 = A ∧ D = D1 ∧ I.getWs m r1 c1 = (LR, r, c)) := by
    unfold I.getT at h
    simp only [hg0, hn0, Prod.mk.injEq] at h
    exact ⟨h.1, h.2.1, h.2.2⟩
  obtain ⟨rfl, rfl, hws⟩ := HG.out
  have HWS := Lib.hid hws
  obtain ⟨a0, a1, a2, a3, rfl⟩ := V.four hA0.len
  have CG := Lib.hid (fun w => sget_any s false [a0, a1, a2, a3] D r0 c0 w hs hg0)
  have CN := Lib.hid (fun w => Pk.rnumber_any r0 c0 1 m r1 c1 w hr0 hn0)
  clear h hg0 hn0 hs hr0 HG hws hA0
  go_enter Try.func52, Try.ntmps52
  have W0 : Hid (Below w.heap.size w w) := Below.refl _ _
  go_wp2_with (first | refine blk_box rfl 94 _ rfl [.string s, .bool false] rfl ?_)
  intro k1 A1 B1 Z1
  go_wp2_with (first | refine blk_alloc rfl 43 (ks .u64 [0, 0, 0, 0] ++ [Value.int .i64 0, .slice none 0 0]) rfl Try.info_itx ?_)
  intro k2 A2 B2 Z2
  go_wp2_with (first | refine blk_alloc rfl 94 [.string ⟨#[]⟩, .bool false] rfl Try.info_rd ?_)
  intro k3 A3 B3 Z3
  go_wp2_with (first | refine blk_alloc rfl 43 (ks .u64 [0, 0, 0, 0] ++ [Value.int .i64 0, .slice none 0 0]) rfl Try.info_itx ?_)
  intro k4 A4 B4 Z4
  have hb4 : Below w.heap.size w k4 := (((B1).trans (B2.mono (by omega))).trans (B3.mono (by omega))).trans (B4.mono (by omega))
  have HR4_ : Hid (Blk k4 (w.heap.size) [.string s, .bool false]) := (((A1).below B2 (by omega)).below B3 (by omega)).below B4 (by omega)
  have LR4_ : Hid (w.heap.size < k4.heap.size) := by show _ < _; omega
  have HO4_ : Hid (Blk k4 (w.heap.size + 1) (ks .u64 [0, 0, 0, 0] ++ [Value.int .i64 0, .slice none 0 0])) := ((A2).below B3 (by omega)).below B4 (by omega)
  have LO4_ : Hid (w.heap.size + 1 < k4.heap.size) := by show _ < _; omega
  have HQ4_ : Hid (Blk k4 (w.heap.size + 2) [.string ⟨#[]⟩, .bool false]) := (A3).below B4 (by omega)
  have LQ4_ : Hid (w.heap.size + 2 < k4.heap.size) := by show _ < _; omega
  have HT4_ : Hid (Blk k4 (w.heap.size + 3) (ks .u64 [0, 0, 0, 0] ++ [Value.int .i64 0, .slice none 0 0])) := A4
  have LT4_ : Hid (w.heap.size + 3 < k4.heap.size) := by show _ < _; omega
  have W4 : Hid (Below w.heap.size w k4) := Below.trans W0.out (hb4.mono W0.out.size)
  have HR4 := HR4_
  have LR4 := LR4_
  have HO4 := HO4_
  have LO4 := LO4_
  have HQ4 := HQ4_
  have LQ4 := LQ4_
  have HT4 := HT4_
  have LT4 := LT4_
  clear hb4 A1 B1 Z1 A2 B2 Z2 A3 B3 Z3 A4 B4 Z4 W0 HR4_ LR4_ HO4_ LO4_ HQ4_ LQ4_ HT4_ LT4_
  go_wp2_with (first | refine blk_load rfl 94 _ rfl (w.heap.size) rfl [.string s, .bool false] HR4.out _ Try.underlying94 rfl Try.size_rd ?_)
  refine (CG.out _).mono ?_; rintro e k5 ⟨rfl, hb5⟩
  have HR5 : Hid (Blk k5 (w.heap.size) [.string s, .bool false]) := Blk.below HR4.out hb5 LR4.out
  have LR5 : Hid (w.heap.size < k5.heap.size) := Nat.lt_of_lt_of_le LR4.out hb5.size
  have HO5 : Hid (Blk k5 (w.heap.size + 1) (ks .u64 [0, 0, 0, 0] ++ [Value.int .i64 0, .slice none 0 0])) := Blk.below HO4.out hb5 LO4.out
  have LO5 : Hid (w.heap.size + 1 < k5.heap.size) := Nat.lt_of_lt_of_le LO4.out hb5.size
  have HQ5 : Hid (Blk k5 (w.heap.size + 2) [.string ⟨#[]⟩, .bool false]) := Blk.below HQ4.out hb5 LQ4.out
  have LQ5 : Hid (w.heap.size + 2 < k5.heap.size) := Nat.lt_of_lt_of_le LQ4.out hb5.size
  have HT5 : Hid (Blk k5 (w.heap.size + 3) (ks .u64 [0, 0, 0, 0] ++ [Value.int .i64 0, .slice none 0 0])) := Blk.below HT4.out hb5 LT4.out
  have LT5 : Hid (w.heap.size + 3 < k5.heap.size) := Nat.lt_of_lt_of_le LT4.out hb5.size
  have W5 : Hid (Below w.heap.size w k5) := Below.trans W4.out (hb5.mono W4.out.size)
  clear hb5 HR4 LR4 HO4 LO4 HQ4 LQ4 HT4 LT4 W4 
  go_wp2_with (first | refine stamp_store rfl 30 _ _ rfl (w.heap.size + 3) rfl a0 a1 a2 a3 D rfl 0 0 0 0 0 _ HT5.out Try.size_s ?_)
  intro k6 A6 U6
  have HR6 : Hid (Blk k6 (w.heap.size) [.string s, .bool false]) := Blk.upd HR5.out U6 (by omega)
  have LR6 : Hid (w.heap.size < k6.heap.size) := by show _ < _; rw [U6.size]; exact LR5.out
  have HO6 : Hid (Blk k6 (w.heap.size + 1) (ks .u64 [0, 0, 0, 0] ++ [Value.int .i64 0, .slice none 0 0])) := Blk.upd HO5.out U6 (by omega)
  have LO6 : Hid (w.heap.size + 1 < k6.heap.size) := by show _ < _; rw [U6.size]; exact LO5.out
  have HQ6 : Hid (Blk k6 (w.heap.size + 2) [.string ⟨#[]⟩, .bool false]) := Blk.upd HQ5.out U6 (by omega)
  have LQ6 : Hid (w.heap.size + 2 < k6.heap.size) := by show _ < _; rw [U6.size]; exact LQ5.out
  have HT6 : Hid (Blk k6 (w.heap.size + 3) (ks .u64 [a0, a1, a2, a3] ++ [Value.int .i64 D, .slice none 0 0])) := A6
  have LT6 : Hid (w.heap.size + 3 < k6.heap.size) := by show _ < _; rw [U6.size]; exact LT5.out
  have W6 : Hid (Below w.heap.size w k6) := Below.trans W5.out (U6.below (by omega))
  clear A6 U6 HR5 LR5 HO5 LO5 HQ5 LQ5 HT5 LT5 W5
  go_wp2_with (first | refine blk_store rfl 94 _ _ rfl (w.heap.size) rfl [.string r0, .bool c0] rfl _ HR6.out rfl Try.size_rd rfl ?_)
  intro k7 A7 U7
  have HR7 : Hid (Blk k7 (w.heap.size) [.string r0, .bool c0]) := A7
  have LR7 : Hid (w.heap.size < k7.heap.size) := by show _ < _; rw [U7.size]; exact LR6.out
  have HO7 : Hid (Blk k7 (w.heap.size + 1) (ks .u64 [0, 0, 0, 0] ++ [Value.int .i64 0, .slice none 0 0])) := Blk.upd HO6.out U7 (by omega)
  have LO7 : Hid (w.heap.size + 1 < k7.heap.size) := by show _ < _; rw [U7.size]; exact LO6.out
  have HQ7 : Hid (Blk k7 (w.heap.size + 2) [.string ⟨#[]⟩, .bool false]) := Blk.upd HQ6.out U7 (by omega)
  have LQ7 : Hid (w.heap.size + 2 < k7.heap.size) := by show _ < _; rw [U7.size]; exact LQ6.out
  have HT7 : Hid (Blk k7 (w.heap.size + 3) (ks .u64 [a0, a1, a2, a3] ++ [Value.int .i64 D, .slice none 0 0])) := Blk.upd HT6.out U7 (by omega)
  have LT7 : Hid (w.heap.size + 3 < k7.heap.size) := by show _ < _; rw [U7.size]; exact LT6.out
  have W7 : Hid (Below w.heap.size w k7) := Below.trans W6.out (U7.below (by omega))
  clear A7 U7 HR6 LR6 HO6 LO6 HQ6 LQ6 HT6 LT6 W6
  go_wp2_with (first | refine blk_load rfl 94 _ rfl (w.heap.size) rfl [.string r0, .bool c0] HR7.out _ Try.underlying94 rfl Try.size_rd ?_)
  refine (CN.out _).mono ?_; rintro e k8 ⟨rfl, hb8⟩
  have HR8 : Hid (Blk k8 (w.heap.size) [.string r0, .bool c0]) := Blk.below HR7.out hb8 LR7.out
  have LR8 : Hid (w.heap.size < k8.heap.size) := Nat.lt_of_lt_of_le LR7.out hb8.size
  have HO8 : Hid (Blk k8 (w.heap.size + 1) (ks .u64 [0, 0, 0, 0] ++ [Value.int .i64 0, .slice none 0 0])) := Blk.below HO7.out hb8 LO7.out
  have LO8 : Hid (w.heap.size + 1 < k8.heap.size) := Nat.lt_of_lt_of_le LO7.out hb8.size
  have HQ8 : Hid (Blk k8 (w.heap.size + 2) [.string ⟨#[]⟩, .bool false]) := Blk.below HQ7.out hb8 LQ7.out
  have LQ8 : Hid (w.heap.size + 2 < k8.heap.size) := Nat.lt_of_lt_of_le LQ7.out hb8.size
  have HT8 : Hid (Blk k8 (w.heap.size + 3) (ks .u64 [a0, a1, a2, a3] ++ [Value.int .i64 D, .slice none 0 0])) := Blk.below HT7.out hb8 LT7.out
  have LT8 : Hid (w.heap.size + 3 < k8.heap.size) := Nat.lt_of_lt_of_le LT7.out hb8.size
  have W8 : Hid (Below w.heap.size w k8) := Below.trans W7.out (hb8.mono W7.out.size)
  clear hb8 HR7 LR7 HO7 LO7 HQ7 LQ7 HT7 LT7 W7 
  go_wp2_with (first | refine blk_store rfl 94 _ _ rfl (w.heap.size) rfl [.string r1, .bool c1] rfl _ HR8.out rfl Try.size_rd rfl ?_)
  intro k9 A9 U9
  have HR9 : Hid (Blk k9 (w.heap.size) [.string r1, .bool c1]) := A9
  have LR9 : Hid (w.heap.size < k9.heap.size) := by show _ < _; rw [U9.size]; exact LR8.out
  have HO9 : Hid (Blk k9 (w.heap.size + 1) (ks .u64 [0, 0, 0, 0] ++ [Value.int .i64 0, .slice none 0 0])) := Blk.upd HO8.out U9 (by omega)
  have LO9 : Hid (w.heap.size + 1 < k9.heap.size) := by show _ < _; rw [U9.size]; exact LO8.out
  have HQ9 : Hid (Blk k9 (w.heap.size + 2) [.string ⟨#[]⟩, .bool false]) := Blk.upd HQ8.out U9 (by omega)
  have LQ9 : Hid (w.heap.size + 2 < k9.heap.size) := by show _ < _; rw [U9.size]; exact LQ8.out
  have HT9 : Hid (Blk k9 (w.heap.size + 3) (ks .u64 [a0, a1, a2, a3] ++ [Value.int .i64 D, .slice none 0 0])) := Blk.upd HT8.out U9 (by omega)
  have LT9 : Hid (w.heap.size + 3 < k9.heap.size) := by show _ < _; rw [U9.size]; exact LT8.out
  have W9 : Hid (Below w.heap.size w k9) := Below.trans W8.out (U9.below (by omega))
  clear A9 U9 HR8 LR8 HO8 LO8 HQ8 LQ8 HT8 LT8 W8
  have hq : w.heap.size + 3 < k9.heap.size := LT9.out
  have HO0 : Hid (OW 23 k9 (k9.heap.size) (.slice none 0 0) []) := OW.nil _ _ _
  go_wp2_with fail
  go_loopw [19] (fun i wr => ∃ (j : Nat) (L : List I.Wt) (s1 : ByteArray) (c1 : Bool) (v : Value), j ≤ m ∧ i = .int .u64 j ∧ Hid ((L ++ (I.getWs (m - j) s1 c1).1, (I.getWs (m - j) s1 c1).2) = (LR, r, c)) ∧ Hid (s1.size ≤ maxLen ∧ L.length = j) ∧ Hid (OW 23 wr (k9.heap.size) v L) ∧ Hid (Blk wr (w.heap.size) [.string s1, .bool c1]) ∧ Hid (Blk wr (w.heap.size + 1) (ks .u64 [0, 0, 0, 0] ++ [Value.int .i64 0, .slice none 0 0])) ∧ Hid (Blk wr (w.heap.size + 2) [.string ⟨#[]⟩, .bool false]) ∧ Hid (Blk wr (w.heap.size + 3) (ks .u64 [a0, a1, a2, a3] ++ [Value.int .i64 D, v])) ∧ Hid (Below w.heap.size w wr) ∧ Hid (k9.heap.size ≤ wr.heap.size)) (fun i _ => m - (intOf i).toNat)
  case atStart => exact ⟨0, [], r1, c1, _, by omega, rfl, (by show _ = _; rw [← HWS.out]; rfl), ⟨hr1, rfl⟩, HO0, HR9, HO9, HQ9, HT9, W9, Nat.le_refl _⟩
  case round =>
    obtain ⟨j, L, s1, c1, v, hj, rfl, HPj, HSj, XV50, HR50, HO50, HQ50, HT50, W50, HSr⟩ := hrel
    clear HR9 LR9 HO9 LO9 HQ9 LQ9 HT9 LT9 W9 HO0
    have hsr := HSr.out
    have LR50 : Hid (w.heap.size < wr.heap.size) := by show _ < _; omega
    have LO50 : Hid (w.heap.size + 1 < wr.heap.size) := by show _ < _; omega
    have LQ50 : Hid (w.heap.size + 2 < wr.heap.size) := by show _ < _; omega
    have LT50 : Hid (w.heap.size + 3 < wr.heap.size) := by show _ < _; omega
    by_cases hlt : j < m
    · have ilt : (j : Int) < (m : Int) := by omega
      obtain ⟨hs1, hlj⟩ := HSj.out
      have hlen : L.length < 1000000 := by omega
      rcases h1 : I.getW s1 c1 with ⟨x, s2, c2⟩
      have hs2 : s2.size ≤ maxLen := by have := getW_size s1 c1; rw [h1] at this; exact Nat.le_trans this hs1
      have CW := Lib.hid (fun w => getw_any s1 c1 x s2 c2 w hs1 h1)
      have HPn : Hid (((L ++ [x]) ++ (I.getWs (m - (j + 1)) s2 c2).1, (I.getWs (m - (j + 1)) s2 c2).2) = (LR, r, c)) := by
        show _ = _
        rw [← HPj.out, show m - j = (m - (j + 1)) + 1 by omega, I.getWs_step, h1]
        simp
      have HGW : Hid (∀ g o n c, v = .slice (some ⟨g, o, none⟩) n c → g ≠ wr.heap.size) := fun g o n c e => Nat.ne_of_lt (OW.lt XV50.out g o n c e)
      have HSn : Hid (s2.size ≤ maxLen ∧ (L ++ [x]).length = j + 1) := ⟨hs2, by rw [List.length_append]; simp [hlj]⟩
      clear h1 HPj HSj hs1 hlj hs2
      go_wp2_with (first | refine blk_alloc rfl 23 (wc I.none_) rfl Try.info_iw2 ?_)
      intro k51 A51 B51 Z51
      have hb51 : Below wr.heap.size wr k51 := B51
      have HD51_ : Hid (Blk k51 (wr.heap.size) (wc I.none_)) := A51
      have LD51_ : Hid (wr.heap.size < k51.heap.size) := by show _ < _; omega
      have HR51 : Hid (Blk k51 (w.heap.size) [.string s1, .bool c1]) := Blk.below HR50.out hb51 LR50.out
      have LR51 : Hid (w.heap.size < k51.heap.size) := Nat.lt_of_lt_of_le LR50.out hb51.size
      have HO51 : Hid (Blk k51 (w.heap.size + 1) (ks .u64 [0, 0, 0, 0] ++ [Value.int .i64 0, .slice none 0 0])) := Blk.below HO50.out hb51 LO50.out
      have LO51 : Hid (w.heap.size + 1 < k51.heap.size) := Nat.lt_of_lt_of_le LO50.out hb51.size
      have HQ51 : Hid (Blk k51 (w.heap.size + 2) [.string ⟨#[]⟩, .bool false]) := Blk.below HQ50.out hb51 LQ50.out
      have LQ51 : Hid (w.heap.size + 2 < k51.heap.size) := Nat.lt_of_lt_of_le LQ50.out hb51.size
      have HT51 : Hid (Blk k51 (w.heap.size + 3) (ks .u64 [a0, a1, a2, a3] ++ [Value.int .i64 D, v])) := Blk.below HT50.out hb51 LT50.out
      have LT51 : Hid (w.heap.size + 3 < k51.heap.size) := Nat.lt_of_lt_of_le LT50.out hb51.size
      have XV51 := Lib.hid (OW.below XV50.out hb51)
      have W51 : Hid (Below w.heap.size w k51) := Below.trans W50.out (hb51.mono W50.out.size)
      have HD51 := HD51_
      have LD51 := LD51_
      clear hb51 A51 B51 Z51 HR50 LR50 HO50 LO50 HQ50 LQ50 HT50 LT50 XV50 W50 HD51_ LD51_
      go_wp2_with (first | refine blk_load rfl 94 _ rfl (w.heap.size) rfl [.string s1, .bool c1] HR51.out _ Try.underlying94 rfl Try.size_rd ?_)
      refine (CW.out _).mono ?_; rintro e k52 ⟨rfl, hb52⟩
      have HR52 : Hid (Blk k52 (w.heap.size) [.string s1, .bool c1]) := Blk.below HR51.out hb52 LR51.out
      have LR52 : Hid (w.heap.size < k52.heap.size) := Nat.lt_of_lt_of_le LR51.out hb52.size
      have HO52 : Hid (Blk k52 (w.heap.size + 1) (ks .u64 [0, 0, 0, 0] ++ [Value.int .i64 0, .slice none 0 0])) := Blk.below HO51.out hb52 LO51.out
      have LO52 : Hid (w.heap.size + 1 < k52.heap.size) := Nat.lt_of_lt_of_le LO51.out hb52.size
      have HQ52 : Hid (Blk k52 (w.heap.size + 2) [.string ⟨#[]⟩, .bool false]) := Blk.below HQ51.out hb52 LQ51.out
      have LQ52 : Hid (w.heap.size + 2 < k52.heap.size) := Nat.lt_of_lt_of_le LQ51.out hb52.size
      have HT52 : Hid (Blk k52 (w.heap.size + 3) (ks .u64 [a0, a1, a2, a3] ++ [Value.int .i64 D, v])) := Blk.below HT51.out hb52 LT51.out
      have LT52 : Hid (w.heap.size + 3 < k52.heap.size) := Nat.lt_of_lt_of_le LT51.out hb52.size
      have HD52 : Hid (Blk k52 (wr.heap.size) (wc I.none_)) := Blk.below HD51.out hb52 LD51.out
      have LD52 : Hid (wr.heap.size < k52.heap.size) := Nat.lt_of_lt_of_le LD51.out hb52.size
      have XV52 := Lib.hid (OW.below XV51.out hb52)
      have W52 : Hid (Below w.heap.size w k52) := Below.trans W51.out (hb52.mono W51.out.size)
      clear hb52 HR51 LR51 HO51 LO51 HQ51 LQ51 HT51 LT51 HD51 LD51 XV51 W51 
      go_wp2_with (first | refine blk_store rfl 23 _ _ rfl (wr.heap.size) rfl (wc x) rfl _ HD52.out rfl Try.size_w rfl ?_)
      intro k53 A53 U53
      have HR53 : Hid (Blk k53 (w.heap.size) [.string s1, .bool c1]) := Blk.upd HR52.out U53 (by omega)
      have LR53 : Hid (w.heap.size < k53.heap.size) := by show _ < _; rw [U53.size]; exact LR52.out
      have HO53 : Hid (Blk k53 (w.heap.size + 1) (ks .u64 [0, 0, 0, 0] ++ [Value.int .i64 0, .slice none 0 0])) := Blk.upd HO52.out U53 (by omega)
      have LO53 : Hid (w.heap.size + 1 < k53.heap.size) := by show _ < _; rw [U53.size]; exact LO52.out
      have HQ53 : Hid (Blk k53 (w.heap.size + 2) [.string ⟨#[]⟩, .bool false]) := Blk.upd HQ52.out U53 (by omega)
      have LQ53 : Hid (w.heap.size + 2 < k53.heap.size) := by show _ < _; rw [U53.size]; exact LQ52.out
      have HT53 : Hid (Blk k53 (w.heap.size + 3) (ks .u64 [a0, a1, a2, a3] ++ [Value.int .i64 D, v])) := Blk.upd HT52.out U53 (by omega)
      have LT53 : Hid (w.heap.size + 3 < k53.heap.size) := by show _ < _; rw [U53.size]; exact LT52.out
      have HD53 : Hid (Blk k53 (wr.heap.size) (wc x)) := A53
      have LD53 : Hid (wr.heap.size < k53.heap.size) := by show _ < _; rw [U53.size]; exact LD52.out
      have XV53 := Lib.hid (OW.far XV52.out U53 HGW.out)
      have W53 : Hid (Below w.heap.size w k53) := Below.trans W52.out (U53.below (by omega))
      clear A53 U53 HR52 LR52 HO52 LO52 HQ52 LQ52 HT52 LT52 HD52 LD52 XV52 W52
      go_wp2_with (first | refine blk_store rfl 94 _ _ rfl (w.heap.size) rfl [.string s2, .bool c2] rfl _ HR53.out rfl Try.size_rd rfl ?_)
      intro k54 A54 U54
      have HR54 : Hid (Blk k54 (w.heap.size) [.string s2, .bool c2]) := A54
      have LR54 : Hid (w.heap.size < k54.heap.size) := by show _ < _; rw [U54.size]; exact LR53.out
      have HO54 : Hid (Blk k54 (w.heap.size + 1) (ks .u64 [0, 0, 0, 0] ++ [Value.int .i64 0, .slice none 0 0])) := Blk.upd HO53.out U54 (by omega)
      have LO54 : Hid (w.heap.size + 1 < k54.heap.size) := by show _ < _; rw [U54.size]; exact LO53.out
      have HQ54 : Hid (Blk k54 (w.heap.size + 2) [.string ⟨#[]⟩, .bool false]) := Blk.upd HQ53.out U54 (by omega)
      have LQ54 : Hid (w.heap.size + 2 < k54.heap.size) := by show _ < _; rw [U54.size]; exact LQ53.out
      have HT54 : Hid (Blk k54 (w.heap.size + 3) (ks .u64 [a0, a1, a2, a3] ++ [Value.int .i64 D, v])) := Blk.upd HT53.out U54 (by omega)
      have LT54 : Hid (w.heap.size + 3 < k54.heap.size) := by show _ < _; rw [U54.size]; exact LT53.out
      have HD54 : Hid (Blk k54 (wr.heap.size) (wc x)) := Blk.upd HD53.out U54 (by omega)
      have LD54 : Hid (wr.heap.size < k54.heap.size) := by show _ < _; rw [U54.size]; exact LD53.out
      have XV54 := Lib.hid (OW.far2 XV53.out U54 (by omega))
      have W54 : Hid (Below w.heap.size w k54) := Below.trans W53.out (U54.below (by omega))
      clear A54 U54 HR53 LR53 HO53 LO53 HQ53 LQ53 HT53 LT53 HD53 LD53 XV53 W53
      have ct5 := HT54.out.cell 5 _ rfl
      go_wp2_with (first | refine blk_load rfl 23 _ rfl (wr.heap.size) rfl (wc x) HD54.out _ Try.underlying23 rfl Try.size_w ?_ | refine build_iw rfl _ rfl x rfl ?_)
      intro k55 A55 B55 Z55
      have HR55 : Hid (Blk k55 (w.heap.size) [.string s2, .bool c2]) := Blk.below HR54.out B55 LR54.out
      have LR55 : Hid (w.heap.size < k55.heap.size) := Nat.lt_of_lt_of_le LR54.out B55.size
      have HO55 : Hid (Blk k55 (w.heap.size + 1) (ks .u64 [0, 0, 0, 0] ++ [Value.int .i64 0, .slice none 0 0])) := Blk.below HO54.out B55 LO54.out
      have LO55 : Hid (w.heap.size + 1 < k55.heap.size) := Nat.lt_of_lt_of_le LO54.out B55.size
      have HQ55 : Hid (Blk k55 (w.heap.size + 2) [.string ⟨#[]⟩, .bool false]) := Blk.below HQ54.out B55 LQ54.out
      have LQ55 : Hid (w.heap.size + 2 < k55.heap.size) := Nat.lt_of_lt_of_le LQ54.out B55.size
      have HT55 : Hid (Blk k55 (w.heap.size + 3) (ks .u64 [a0, a1, a2, a3] ++ [Value.int .i64 D, v])) := Blk.below HT54.out B55 LT54.out
      have LT55 : Hid (w.heap.size + 3 < k55.heap.size) := Nat.lt_of_lt_of_le LT54.out B55.size
      have HD55 : Hid (Blk k55 (wr.heap.size) (wc x)) := Blk.below HD54.out B55 LD54.out
      have LD55 : Hid (wr.heap.size < k55.heap.size) := Nat.lt_of_lt_of_le LD54.out B55.size
      have XV55 := Lib.hid (OW.below XV54.out B55)
      have W55 : Hid (Below w.heap.size w k55) := Below.trans W54.out (B55.mono W54.out.size)
      have hz5 : k9.heap.size ≤ k55.heap.size := by have := LD55.out; omega
      clear B55 Z55 ct5 HR54 LR54 HO54 LO54 HQ54 LQ54 HT54 LT54 HD54 LD54 XV54 W54
      have ct5 := HT55.out.cell 5 _ rfl
      go_wp2_with (at_builtin; refine append_gen (t := 23) Try.underlying41 Try.info_iw _ rfl _ _ rfl (k9.heap.size) _ _ rfl XV55.out k54.heap.size rfl x A55 ?c2 ?c3 ?_)
      case c2 => exact hlen
      case c3 => omega
      intro v' k56 ho hb hbs
      have HR56 : Hid (Blk k56 (w.heap.size) [.string s2, .bool c2]) := Blk.below HR55.out hb (by omega)
      have LR56 : Hid (w.heap.size < k56.heap.size) := by show _ < _; omega
      have HO56 : Hid (Blk k56 (w.heap.size + 1) (ks .u64 [0, 0, 0, 0] ++ [Value.int .i64 0, .slice none 0 0])) := Blk.below HO55.out hb (by omega)
      have LO56 : Hid (w.heap.size + 1 < k56.heap.size) := by show _ < _; omega
      have HQ56 : Hid (Blk k56 (w.heap.size + 2) [.string ⟨#[]⟩, .bool false]) := Blk.below HQ55.out hb (by omega)
      have LQ56 : Hid (w.heap.size + 2 < k56.heap.size) := by show _ < _; omega
      have HT56 : Hid (Blk k56 (w.heap.size + 3) (ks .u64 [a0, a1, a2, a3] ++ [Value.int .i64 D, v])) := Blk.below HT55.out hb (by omega)
      have LT56 : Hid (w.heap.size + 3 < k56.heap.size) := by show _ < _; omega
      have W56 : Hid (Below w.heap.size w k56) := Below.trans W55.out (hb.mono (by omega))
      obtain ⟨av, cv, ev, _⟩ := ho.is.is
      subst ev
      have XV56 := Lib.hid ho
      have HSz : Hid (k9.heap.size ≤ k56.heap.size) := hbs
      obtain ⟨nn, HNN⟩ : ∃ q, Hid ((L ++ [x]).length = q) := ⟨_, rfl⟩
      rw [HNN.out] at XV56
      rw [HNN.out]
      clear ho hb A55 ct5 HR55 LR55 HO55 LO55 HQ55 LQ55 HT55 LT55 HD55 LD55 W55 XV55 hz5 hbs
      have cf57 := HT56.out.cell 5 _ rfl
      have ff57 := HT56.out.free 5 (by simp [ks])
      have U57 : Upd (w.heap.size + 3) k56 (k56.setCell ⟨w.heap.size + 3, 5, none⟩ (.slice av nn cv)) := Upd.setCell _ _ _ _
      have A57 : Blk (k56.setCell ⟨w.heap.size + 3, 5, none⟩ (.slice av nn cv)) (w.heap.size + 3) (ks .u64 [a0, a1, a2, a3] ++ [Value.int .i64 D, .slice av nn cv]) := Blk.setc HT56.out 5 (by simp [ks]) (.slice av nn cv)
      have HR57 : Hid (Blk (k56.setCell ⟨w.heap.size + 3, 5, none⟩ (.slice av nn cv)) (w.heap.size) [.string s2, .bool c2]) := Blk.upd HR56.out U57 (by omega)
      have LR57 : Hid (w.heap.size < (k56.setCell ⟨w.heap.size + 3, 5, none⟩ (.slice av nn cv)).heap.size) := by show _ < _; rw [U57.size]; exact LR56.out
      have HO57 : Hid (Blk (k56.setCell ⟨w.heap.size + 3, 5, none⟩ (.slice av nn cv)) (w.heap.size + 1) (ks .u64 [0, 0, 0, 0] ++ [Value.int .i64 0, .slice none 0 0])) := Blk.upd HO56.out U57 (by omega)
      have LO57 : Hid (w.heap.size + 1 < (k56.setCell ⟨w.heap.size + 3, 5, none⟩ (.slice av nn cv)).heap.size) := by show _ < _; rw [U57.size]; exact LO56.out
      have HQ57 : Hid (Blk (k56.setCell ⟨w.heap.size + 3, 5, none⟩ (.slice av nn cv)) (w.heap.size + 2) [.string ⟨#[]⟩, .bool false]) := Blk.upd HQ56.out U57 (by omega)
      have LQ57 : Hid (w.heap.size + 2 < (k56.setCell ⟨w.heap.size + 3, 5, none⟩ (.slice av nn cv)).heap.size) := by show _ < _; rw [U57.size]; exact LQ56.out
      have HT57 : Hid (Blk (k56.setCell ⟨w.heap.size + 3, 5, none⟩ (.slice av nn cv)) (w.heap.size + 3) (ks .u64 [a0, a1, a2, a3] ++ [Value.int .i64 D, .slice av nn cv])) := A57
      have LT57 : Hid (w.heap.size + 3 < (k56.setCell ⟨w.heap.size + 3, 5, none⟩ (.slice av nn cv)).heap.size) := by show _ < _; rw [U57.size]; exact LT56.out
      have XV57 := Lib.hid (OW.far2 XV56.out U57 (by omega))
      have W57 : Hid (Below w.heap.size w (k56.setCell ⟨w.heap.size + 3, 5, none⟩ (.slice av nn cv))) := Below.trans W56.out (U57.below (by omega))
      clear A57 U57 HR56 LR56 HO56 LO56 HQ56 LQ56 HT56 LT56 XV56 W56
      have HSy : Hid (k9.heap.size ≤ (k56.setCell ⟨w.heap.size + 3, 5, none⟩ (.slice av nn cv)).heap.size) := by show _ ≤ _; rw [(Upd.setCell k56 (w.heap.size + 3) 5 (.slice av nn cv)).size]; exact HSz.out
      go_wp2_with fail
      go_roundw
      case rel => exact ⟨j + 1, L ++ [x], s2, c2, _, by omega, by go_num, HPn, HSn, XV57, HR57, HO57, HQ57, HT57, W57, HSy⟩
      case measure => simp [intOf]; omega
    · obtain rfl : j = m := by omega
      have hfin := HPj.out
      rw [Nat.sub_self] at hfin
      simp only [I.getWs, List.append_nil, Prod.mk.injEq] at hfin
      obtain ⟨rfl, rfl, rfl⟩ := hfin
      clear HPj
      obtain ⟨av, cv, ev, _⟩ := XV50.out.is.is
      subst ev
      obtain ⟨nn, HNN⟩ : ∃ q, Hid (L.length = q) := ⟨_, rfl⟩
      rw [HNN.out] at XV50 HT50
      try rw [HNN.out]
      go_wp2_with fail
      have a_0 := HT50.out.cell 0 _ rfl
      have a_1 := HT50.out.cell 1 _ rfl
      have a_2 := HT50.out.cell 2 _ rfl
      have a_3 := HT50.out.cell 3 _ rfl
      have a_4 := HT50.out.cell 4 _ rfl
      have a_5 := HT50.out.cell 5 _ rfl
      have r_0 := HR50.out.cell 0 _ rfl
      have r_1 := HR50.out.cell 1 _ rfl
      have o_0 := HO50.out.cell 0 _ rfl
      have p_0 := HO50.out.free 0 (by simp [ks])
      have o_1 := HO50.out.cell 1 _ rfl
      have p_1 := HO50.out.free 1 (by simp [ks])
      have o_2 := HO50.out.cell 2 _ rfl
      have p_2 := HO50.out.free 2 (by simp [ks])
      have o_3 := HO50.out.cell 3 _ rfl
      have p_3 := HO50.out.free 3 (by simp [ks])
      have o_4 := HO50.out.cell 4 _ rfl
      have p_4 := HO50.out.free 4 (by simp [ks])
      have o_5 := HO50.out.cell 5 _ rfl
      have p_5 := HO50.out.free 5 (by simp [ks])
      have q_0 := HQ50.out.cell 0 _ rfl
      have v_0 := HQ50.out.free 0 (by simp)
      have q_1 := HQ50.out.cell 1 _ rfl
      have v_1 := HQ50.out.free 1 (by simp)
      go_region
      all_goals
        have U8 : Upd (w.heap.size + 1) wr (wr.setCells (w.heap.size + 1) 0 [Value.int .u64 (a0 : Int), .int .u64 (a1 : Int), .int .u64 (a2 : Int), .int .u64 (a3 : Int), .int .i64 D, .slice av nn cv]) := Upd.setCells _ _ _ _
        have A8 : Blk (wr.setCells (w.heap.size + 1) 0 [Value.int .u64 (a0 : Int), .int .u64 (a1 : Int), .int .u64 (a2 : Int), .int .u64 (a3 : Int), .int .i64 D, .slice av nn cv]) (w.heap.size + 1) [Value.int .u64 (a0 : Int), .int .u64 (a1 : Int), .int .u64 (a2 : Int), .int .u64 (a3 : Int), .int .i64 D, .slice av nn cv] := Blk.store HO50.out _ rfl
        have Q8 : Blk (wr.setCells (w.heap.size + 1) 0 [Value.int .u64 (a0 : Int), .int .u64 (a1 : Int), .int .u64 (a2 : Int), .int .u64 (a3 : Int), .int .i64 D, .slice av nn cv]) (w.heap.size + 2) [.string ⟨#[]⟩, .bool false] := Blk.upd HQ50.out U8 (by omega)
        have U9 : Upd (w.heap.size + 2) _ ((wr.setCells (w.heap.size + 1) 0 [Value.int .u64 (a0 : Int), .int .u64 (a1 : Int), .int .u64 (a2 : Int), .int .u64 (a3 : Int), .int .i64 D, .slice av nn cv]).setCells (w.heap.size + 2) 0 [Value.string s1, .bool c1]) := Upd.setCells _ _ _ _
        have HB9 : Hid (Blk ((wr.setCells (w.heap.size + 1) 0 [Value.int .u64 (a0 : Int), .int .u64 (a1 : Int), .int .u64 (a2 : Int), .int .u64 (a3 : Int), .int .i64 D, .slice av nn cv]).setCells (w.heap.size + 2) 0 [Value.string s1, .bool c1]).drew (w.heap.size + 2) [Value.string s1, .bool c1]) := (Q8.store [Value.string s1, .bool c1] rfl).drew
        have HA9 : Hid (Blk ((wr.setCells (w.heap.size + 1) 0 [Value.int .u64 (a0 : Int), .int .u64 (a1 : Int), .int .u64 (a2 : Int), .int .u64 (a3 : Int), .int .i64 D, .slice av nn cv]).setCells (w.heap.size + 2) 0 [Value.string s1, .bool c1]).drew (w.heap.size + 1) [Value.int .u64 (a0 : Int), .int .u64 (a1 : Int), .int .u64 (a2 : Int), .int .u64 (a3 : Int), .int .i64 D, .slice av nn cv]) := (Blk.upd A8 U9 (by omega)).drew
        have HW9 : Hid (Below w.heap.size w ((wr.setCells (w.heap.size + 1) 0 [Value.int .u64 (a0 : Int), .int .u64 (a1 : Int), .int .u64 (a2 : Int), .int .u64 (a3 : Int), .int .i64 D, .slice av nn cv]).setCells (w.heap.size + 2) 0 [Value.string s1, .bool c1]).drew) := ((Below.trans W50.out (U8.below (by omega))).trans (U9.below (by omega))).drew
        have HO9 := Lib.hid (OW.drew (OW.far2 (OW.far2 XV50.out U8 (by omega)) U9 (by omega)))
        clear U8 A8 Q8 U9 a_0 o_0 p_0 a_1 o_1 p_1 a_2 o_2 p_2 a_3 o_3 p_3 a_4 o_4 p_4 a_5 o_5 p_5 r_0 q_0 v_0 r_1 q_1 v_1
        go_wp2_with fail
        refine bodyPost_ret (v := .tuple #[.agg [Value.int .u64 (a0 : Int), .int .u64 (a1 : Int), .int .u64 (a2 : Int), .int .u64 (a3 : Int), .int .i64 D, .slice av nn cv].toArray, .agg [Value.string s1, .bool c1].toArray]) ?_ rfl ⟨_, rfl, OW.mono HO9.out (by omega), HW9.out⟩
        exact res_two Try.results52 _ (w.heap.size + 1) (w.heap.size + 2) rfl rfl _ HA9.out _ Try.underlying43 rfl Try.size_itx _ HB9.out _ Try.underlying94 rfl Try.size_rd
end Go.Proofs.Ytkfcbihofipcbaa.It

namespace Go.Proofs.Ytkfcbihofipcbaa.It

open Go.RowKit Go.Proofs.Ytkfcbihofipcbaa.Vc Go.Proofs.Ytkfcbihofipcbaa.Sp

set_option linter.unusedVariables false

set_option linter.unusedSimpArgs false

set_option maxRecDepth 100000

theorem empty_size (r : ByteArray) : r.toList.isEmpty = decide (r.size = 0) := by
  by_cases h : r.size = 0
  · rw [decide_eq_true h, ByteArray.toList_eq, List.isEmpty_iff]
    exact List.eq_nil_of_length_eq_zero (by rw [P.len_list]; exact h)
  · rw [decide_eq_false h, V.empty_not r h]
set_option maxHeartbeats 16000000 in
theorem read_any (s : ByteArray) (A : List Nat) (E : Int) (LR : List I.Wt) (ok : Bool) (w : World) (hs : s.size ≤ maxLen) (h : I.read s = (A, E, LR, ok)) :
    Calls Try.prog 31 #[.string s] w fun e w' => ∃ v, e = .returned (.tuple #[TV A E v, .bool ok]) ∧ OW 23 w' w.heap.size v LR ∧ Below w.heap.size w w' := by
  rw [← I.readP_read] at h
  rcases hT : I.getT s with ⟨A0, D, L, r, c⟩
  have hA0 : V.Ok A0 := by have := T.gets_ok s false; unfold I.getT at hT; simp only [Prod.mk.injEq] at hT; rw [hT.1] at this; exact this
  have CT := Lib.hid (fun w => gett_any s A0 D L r c w hs hT)
  unfold I.readP at h
  simp only [hT] at h
  obtain ⟨dn, HDN⟩ : ∃ q, Hid ((!c && r.toList.isEmpty) = q) := ⟨_, rfl⟩
  have CD := Lib.hid (fun w => Pk.done_any r c w)
  rw [HDN.out] at CD
  rw [show (decide (r.size = 0) && !c) = dn by rw [← HDN.out, empty_size, Bool.and_comm]] at h
  obtain ⟨wh, HWH⟩ : ∃ q, Hid (I.whole A0 D L = q) := ⟨_, rfl⟩
  rw [HWH.out] at h
  have HR := Lib.hid h
  have CW := Lib.hid (fun w v hL => whole_any A0 D v L w hA0.len hL)
  rw [HWH.out] at CW
  obtain ⟨a0, a1, a2, a3, rfl⟩ := V.four hA0.len
  clear h hs hT hA0 HDN HWH
  go_enter Try.func31, Try.ntmps31
  have W0 : Hid (Below w.heap.size w w) := Below.refl _ _
  go_wp2_with (first | refine blk_alloc rfl 43 (ks .u64 [0, 0, 0, 0] ++ [Value.int .i64 0, .slice none 0 0]) rfl Try.info_itx ?_)
  intro k1 A1 B1 Z1
  have hb1 : Below w.heap.size w k1 := B1
  have HO1_ : Hid (Blk k1 (w.heap.size) (ks .u64 [0, 0, 0, 0] ++ [Value.int .i64 0, .slice none 0 0])) := A1
  have LO1_ : Hid (w.heap.size < k1.heap.size) := by show _ < _; omega
  have W1 : Hid (Below w.heap.size w k1) := Below.trans W0.out (hb1.mono W0.out.size)
  have HO1 := HO1_
  have LO1 := LO1_
  clear hb1 A1 B1 Z1 W0 HO1_ LO1_
  have hbase : w.heap.size < k1.heap.size := LO1.out
  go_wp2_with fail
  refine (CT.out _).mono ?_; rintro e k2 ⟨v, rfl, ho, hb2⟩
  have HO2 : Hid (Blk k2 (w.heap.size) (ks .u64 [0, 0, 0, 0] ++ [Value.int .i64 0, .slice none 0 0])) := Blk.below HO1.out hb2 LO1.out
  have LO2 : Hid (w.heap.size < k2.heap.size) := Nat.lt_of_lt_of_le LO1.out hb2.size
  have W2 : Hid (Below w.heap.size w k2) := Below.trans W1.out (hb2.mono W1.out.size)
  have hbs := hb2.size
  clear hb2 HO1 LO1 W1 
  obtain ⟨av, cv, ev, _⟩ := ho.is.is
  subst ev
  obtain ⟨nn, HNN⟩ : ∃ q, Hid (L.length = q) := ⟨_, rfl⟩
  have XV2 := Lib.hid ho
  rw [HNN.out] at XV2
  rw [HNN.out]
  have HLT : Hid (∀ g o n c, Value.slice av nn cv = .slice (some ⟨g, o, none⟩) n c → g < k2.heap.size) := OW.lt XV2.out
  have hq : k1.heap.size ≤ k2.heap.size := by have := W2.out.size; have := LO2.out; exact hbs
  clear ho
  go_wp2_with (first | refine blk_alloc rfl 43 (ks .u64 [0, 0, 0, 0] ++ [Value.int .i64 0, .slice none 0 0]) rfl Try.info_itx ?_)
  intro k3 A3 B3 Z3
  go_wp2_with (first | refine blk_alloc rfl 94 [.string ⟨#[]⟩, .bool false] rfl Try.info_rd ?_)
  intro k4 A4 B4 Z4
  have hb4 : Below k2.heap.size k2 k4 := (B3).trans (B4.mono (by omega))
  have HT4_ : Hid (Blk k4 (k2.heap.size) (ks .u64 [0, 0, 0, 0] ++ [Value.int .i64 0, .slice none 0 0])) := (A3).below B4 (by omega)
  have LT4_ : Hid (k2.heap.size < k4.heap.size) := by show _ < _; omega
  have HR4_ : Hid (Blk k4 (k2.heap.size + 1) [.string ⟨#[]⟩, .bool false]) := A4
  have LR4_ : Hid (k2.heap.size + 1 < k4.heap.size) := by show _ < _; omega
  have HO4 : Hid (Blk k4 (w.heap.size) (ks .u64 [0, 0, 0, 0] ++ [Value.int .i64 0, .slice none 0 0])) := Blk.below HO2.out hb4 LO2.out
  have LO4 : Hid (w.heap.size < k4.heap.size) := Nat.lt_of_lt_of_le LO2.out hb4.size
  have XV4 := Lib.hid (OW.below XV2.out hb4)
  have W4 : Hid (Below w.heap.size w k4) := Below.trans W2.out (hb4.mono W2.out.size)
  have HT4 := HT4_
  have LT4 := LT4_
  have HR4 := HR4_
  have LR4 := LR4_
  clear hb4 A3 B3 Z3 A4 B4 Z4 HO2 LO2 XV2 W2 HT4_ LT4_ HR4_ LR4_
  go_wp2_with (first | refine blk_store rfl 43 _ _ rfl (k2.heap.size) rfl (ks .u64 [a0, a1, a2, a3] ++ [Value.int .i64 D, .slice av nn cv]) rfl _ HT4.out rfl Try.size_itx rfl ?_)
  intro k5 A5 U5
  have HO5 : Hid (Blk k5 (w.heap.size) (ks .u64 [0, 0, 0, 0] ++ [Value.int .i64 0, .slice none 0 0])) := Blk.upd HO4.out U5 (by omega)
  have LO5 : Hid (w.heap.size < k5.heap.size) := by show _ < _; rw [U5.size]; exact LO4.out
  have HT5 : Hid (Blk k5 (k2.heap.size) (ks .u64 [a0, a1, a2, a3] ++ [Value.int .i64 D, .slice av nn cv])) := A5
  have LT5 : Hid (k2.heap.size < k5.heap.size) := by show _ < _; rw [U5.size]; exact LT4.out
  have HR5 : Hid (Blk k5 (k2.heap.size + 1) [.string ⟨#[]⟩, .bool false]) := Blk.upd HR4.out U5 (by omega)
  have LR5 : Hid (k2.heap.size + 1 < k5.heap.size) := by show _ < _; rw [U5.size]; exact LR4.out
  have XV5 := Lib.hid (OW.far XV4.out U5 (fun g o n c e => by have := HLT.out g o n c e; omega))
  have W5 : Hid (Below w.heap.size w k5) := Below.trans W4.out (U5.below (by omega))
  clear A5 U5 HO4 LO4 HT4 LT4 HR4 LR4 XV4 W4
  go_wp2_with (first | refine blk_store rfl 94 _ _ rfl (k2.heap.size + 1) rfl [.string r, .bool c] rfl _ HR5.out rfl Try.size_rd rfl ?_)
  intro k6 A6 U6
  have HO6 : Hid (Blk k6 (w.heap.size) (ks .u64 [0, 0, 0, 0] ++ [Value.int .i64 0, .slice none 0 0])) := Blk.upd HO5.out U6 (by omega)
  have LO6 : Hid (w.heap.size < k6.heap.size) := by show _ < _; rw [U6.size]; exact LO5.out
  have HT6 : Hid (Blk k6 (k2.heap.size) (ks .u64 [a0, a1, a2, a3] ++ [Value.int .i64 D, .slice av nn cv])) := Blk.upd HT5.out U6 (by omega)
  have LT6 : Hid (k2.heap.size < k6.heap.size) := by show _ < _; rw [U6.size]; exact LT5.out
  have HR6 : Hid (Blk k6 (k2.heap.size + 1) [.string r, .bool c]) := A6
  have LR6 : Hid (k2.heap.size + 1 < k6.heap.size) := by show _ < _; rw [U6.size]; exact LR5.out
  have XV6 := Lib.hid (OW.far XV5.out U6 (fun g o n c e => by have := HLT.out g o n c e; omega))
  have W6 : Hid (Below w.heap.size w k6) := Below.trans W5.out (U6.below (by omega))
  clear A6 U6 HO5 LO5 HT5 LT5 HR5 LR5 XV5 W5
  go_wp2_with (first | refine blk_load rfl 94 _ rfl (k2.heap.size + 1) rfl [.string r, .bool c] HR6.out _ Try.underlying94 rfl Try.size_rd ?_)
  refine (CD.out _).mono ?_; rintro e k7 ⟨rfl, hb7⟩
  have HO7 : Hid (Blk k7 (w.heap.size) (ks .u64 [0, 0, 0, 0] ++ [Value.int .i64 0, .slice none 0 0])) := Blk.below HO6.out hb7 LO6.out
  have LO7 : Hid (w.heap.size < k7.heap.size) := Nat.lt_of_lt_of_le LO6.out hb7.size
  have HT7 : Hid (Blk k7 (k2.heap.size) (ks .u64 [a0, a1, a2, a3] ++ [Value.int .i64 D, .slice av nn cv])) := Blk.below HT6.out hb7 LT6.out
  have LT7 : Hid (k2.heap.size < k7.heap.size) := Nat.lt_of_lt_of_le LT6.out hb7.size
  have HR7 : Hid (Blk k7 (k2.heap.size + 1) [.string r, .bool c]) := Blk.below HR6.out hb7 LR6.out
  have LR7 : Hid (k2.heap.size + 1 < k7.heap.size) := Nat.lt_of_lt_of_le LR6.out hb7.size
  have XV7 := Lib.hid (OW.below XV6.out hb7)
  have W7 : Hid (Below w.heap.size w k7) := Below.trans W6.out (hb7.mono W6.out.size)
  clear hb7 HO6 LO6 HT6 LT6 HR6 LR6 XV6 W6 
  have hr := HR.out
  cases dn with
  | false =>
    rw [if_neg (by simp)] at hr
    simp only [Prod.mk.injEq] at hr
    obtain ⟨rfl, rfl, rfl, rfl⟩ := hr
    go_wp2_with (first | refine blk_store rfl 43 _ _ rfl (w.heap.size) rfl (ks .u64 [0, 0, 0, 0] ++ [Value.int .i64 0, .slice none 0 0]) rfl _ HO7.out rfl Try.size_itx rfl ?_)
    intro k8 A8 U8
    have HO8 : Hid (Blk k8 (w.heap.size) (ks .u64 [0, 0, 0, 0] ++ [Value.int .i64 0, .slice none 0 0])) := A8
    have LO8 : Hid (w.heap.size < k8.heap.size) := by show _ < _; rw [U8.size]; exact LO7.out
    have HT8 : Hid (Blk k8 (k2.heap.size) (ks .u64 [a0, a1, a2, a3] ++ [Value.int .i64 D, .slice av nn cv])) := Blk.upd HT7.out U8 (by omega)
    have LT8 : Hid (k2.heap.size < k8.heap.size) := by show _ < _; rw [U8.size]; exact LT7.out
    have HR8 : Hid (Blk k8 (k2.heap.size + 1) [.string r, .bool c]) := Blk.upd HR7.out U8 (by omega)
    have LR8 : Hid (k2.heap.size + 1 < k8.heap.size) := by show _ < _; rw [U8.size]; exact LR7.out
    have W8 : Hid (Below w.heap.size w k8) := Below.trans W7.out (U8.below (by omega))
    clear A8 U8 HO7 LO7 HT7 LT7 HR7 LR7 W7
    go_wp2_with fail
    refine bodyPost_ret (v := .tuple #[TV V.zeros 0 (.slice none 0 0), .bool false]) ?_ rfl ⟨_, rfl, OW.nil _ _ _, W8.out⟩
    exact res_blk2 (t := 43) Try.results31 _ w.heap.size rfl _ HO8.out _ Try.underlying43 rfl Try.size_itx
  | true =>
    go_wp2_with (first | refine blk_loadg rfl 43 _ rfl (k2.heap.size) rfl (ks .u64 [a0, a1, a2, a3] ++ [Value.int .i64 D, .slice av nn cv]) HT7.out _ Try.underlying43 rfl Try.size_itx ?_)
    refine (CW.out _ _ XV7.out.is).mono ?_; rintro e k8 ⟨rfl, hb8⟩
    have HO8 : Hid (Blk k8 (w.heap.size) (ks .u64 [0, 0, 0, 0] ++ [Value.int .i64 0, .slice none 0 0])) := Blk.below HO7.out hb8 LO7.out
    have LO8 : Hid (w.heap.size < k8.heap.size) := Nat.lt_of_lt_of_le LO7.out hb8.size
    have HT8 : Hid (Blk k8 (k2.heap.size) (ks .u64 [a0, a1, a2, a3] ++ [Value.int .i64 D, .slice av nn cv])) := Blk.below HT7.out hb8 LT7.out
    have LT8 : Hid (k2.heap.size < k8.heap.size) := Nat.lt_of_lt_of_le LT7.out hb8.size
    have HR8 : Hid (Blk k8 (k2.heap.size + 1) [.string r, .bool c]) := Blk.below HR7.out hb8 LR7.out
    have LR8 : Hid (k2.heap.size + 1 < k8.heap.size) := Nat.lt_of_lt_of_le LR7.out hb8.size
    have XV8 := Lib.hid (OW.below XV7.out hb8)
    have W8 : Hid (Below w.heap.size w k8) := Below.trans W7.out (hb8.mono W7.out.size)
    clear hb8 HO7 LO7 HT7 LT7 HR7 LR7 XV7 W7 
    cases wh with
    | false =>
      rw [if_neg (by simp)] at hr
      simp only [Prod.mk.injEq] at hr
      obtain ⟨rfl, rfl, rfl, rfl⟩ := hr
      go_wp2_with (first | refine blk_store rfl 43 _ _ rfl (w.heap.size) rfl (ks .u64 [0, 0, 0, 0] ++ [Value.int .i64 0, .slice none 0 0]) rfl _ HO8.out rfl Try.size_itx rfl ?_)
      intro k9 A9 U9
      have HO9 : Hid (Blk k9 (w.heap.size) (ks .u64 [0, 0, 0, 0] ++ [Value.int .i64 0, .slice none 0 0])) := A9
      have LO9 : Hid (w.heap.size < k9.heap.size) := by show _ < _; rw [U9.size]; exact LO8.out
      have HT9 : Hid (Blk k9 (k2.heap.size) (ks .u64 [a0, a1, a2, a3] ++ [Value.int .i64 D, .slice av nn cv])) := Blk.upd HT8.out U9 (by omega)
      have LT9 : Hid (k2.heap.size < k9.heap.size) := by show _ < _; rw [U9.size]; exact LT8.out
      have HR9 : Hid (Blk k9 (k2.heap.size + 1) [.string r, .bool c]) := Blk.upd HR8.out U9 (by omega)
      have LR9 : Hid (k2.heap.size + 1 < k9.heap.size) := by show _ < _; rw [U9.size]; exact LR8.out
      have W9 : Hid (Below w.heap.size w k9) := Below.trans W8.out (U9.below (by omega))
      clear A9 U9 HO8 LO8 HT8 LT8 HR8 LR8 W8
      go_wp2_with fail
      refine bodyPost_ret (v := .tuple #[TV V.zeros 0 (.slice none 0 0), .bool false]) ?_ rfl ⟨_, rfl, OW.nil _ _ _, W9.out⟩
      exact res_blk2 (t := 43) Try.results31 _ w.heap.size rfl _ HO9.out _ Try.underlying43 rfl Try.size_itx
    | true =>
      rw [if_pos (by simp)] at hr
      simp only [Prod.mk.injEq] at hr
      obtain ⟨rfl, rfl, rfl, rfl⟩ := hr
      go_wp2_with (first | refine blk_load rfl 43 _ rfl (k2.heap.size) rfl (ks .u64 [a0, a1, a2, a3] ++ [Value.int .i64 D, .slice av nn cv]) HT8.out _ Try.underlying43 rfl Try.size_itx ?_ | refine blk_store rfl 43 _ _ rfl (w.heap.size) rfl (ks .u64 [a0, a1, a2, a3] ++ [Value.int .i64 D, .slice av nn cv]) rfl _ HO8.out rfl Try.size_itx rfl ?_)
      intro k9 A9 U9
      have HO9 : Hid (Blk k9 (w.heap.size) (ks .u64 [a0, a1, a2, a3] ++ [Value.int .i64 D, .slice av nn cv])) := A9
      have LO9 : Hid (w.heap.size < k9.heap.size) := by show _ < _; rw [U9.size]; exact LO8.out
      have HT9 : Hid (Blk k9 (k2.heap.size) (ks .u64 [a0, a1, a2, a3] ++ [Value.int .i64 D, .slice av nn cv])) := Blk.upd HT8.out U9 (by omega)
      have LT9 : Hid (k2.heap.size < k9.heap.size) := by show _ < _; rw [U9.size]; exact LT8.out
      have HR9 : Hid (Blk k9 (k2.heap.size + 1) [.string r, .bool c]) := Blk.upd HR8.out U9 (by omega)
      have LR9 : Hid (k2.heap.size + 1 < k9.heap.size) := by show _ < _; rw [U9.size]; exact LR8.out
      have XV9 := Lib.hid (OW.far2 XV8.out U9 (by omega))
      have W9 : Hid (Below w.heap.size w k9) := Below.trans W8.out (U9.below (by omega))
      clear A9 U9 HO8 LO8 HT8 LT8 HR8 LR8 XV8 W8
      go_wp2_with fail
      refine bodyPost_ret (v := .tuple #[TV [a0, a1, a2, a3] D (.slice av nn cv), .bool true]) ?_ rfl ⟨_, rfl, OW.mono XV9.out (by omega), W9.out⟩
      exact res_blk2 (t := 43) Try.results31 _ w.heap.size rfl _ HO9.out _ Try.underlying43 rfl Try.size_itx
end Go.Proofs.Ytkfcbihofipcbaa.It

namespace Go.Proofs.Ytkfcbihofipcbaa.It

open Go.RowKit Go.Proofs.Ytkfcbihofipcbaa.Vc Go.Proofs.Ytkfcbihofipcbaa.Sp

set_option linter.unusedVariables false

set_option linter.unusedSimpArgs false

set_option maxRecDepth 100000

theorem IsWs.one {w : World} {b : Nat} {x : I.Wt} (h : Blk w b (wc x)) (hb : b < w.heap.size) : IsWs w (.slice (some ⟨b, 0, none⟩) 1 1) [x] := by
  refine ⟨_, 1, rfl, Nat.le_refl _, by unfold maxLen; omega, fun _ => ⟨b, 0, rfl, hb, fun i y hy => ?_⟩⟩
  cases i with
  | zero =>
    simp only [List.getElem?_cons_zero, Option.some.injEq] at hy
    subst hy
    exact h.1
  | succ i => simp at hy
theorem exI_ok : V.Ok [1, 0, 0, 0] := ⟨rfl, by decide +kernel⟩
theorem exI_bytes : I.bytesS [1, 0, 0, 0] 1 [((⟨#[98]⟩, ⟨#[107]⟩, ⟨#[118]⟩, false) : I.Wt)] = ⟨#[1, 1, 0, 0, 0, 1, 1, 98, 1, 107, 0, 1, 118]⟩ := by decide +kernel
theorem exI_whole : I.whole [1, 0, 0, 0] 1 [((⟨#[98]⟩, ⟨#[107]⟩, ⟨#[118]⟩, false) : I.Wt)] = true := by decide +kernel
theorem exI_wholez : I.whole [0, 0, 0, 0] 0 [] = false := by decide +kernel
theorem exI_right : I.right ((⟨#[98]⟩, ⟨#[107]⟩, ⟨#[118]⟩, false) : I.Wt) = true := by decide +kernel
theorem exI_rightz : I.right I.none_ = false := by decide +kernel
theorem exI_read : I.read ⟨#[1, 1, 0, 0, 0, 1, 1, 98, 1, 107, 0, 1, 118]⟩ = ([1, 0, 0, 0], 1, [((⟨#[98]⟩, ⟨#[107]⟩, ⟨#[118]⟩, false) : I.Wt)], true) := by
  rw [← exI_bytes]; exact I.read_bytes exI_ok exI_whole
theorem exI_same : I.same [1, 0, 0, 0] 1 [((⟨#[98]⟩, ⟨#[107]⟩, ⟨#[118]⟩, false) : I.Wt)] [1, 0, 0, 0] 1 [((⟨#[98]⟩, ⟨#[107]⟩, ⟨#[118]⟩, false) : I.Wt)] = true := by decide +kernel
theorem shard_one (b k : ByteArray) : I.shard b k 1 = 1 := by
  unfold I.shard
  rw [if_neg (by omega), Int.emod_one]
  rfl
theorem exI_of1 : I.of [((⟨#[98]⟩, ⟨#[107]⟩, ⟨#[118]⟩, false) : I.Wt)] 1 1 = [((⟨#[98]⟩, ⟨#[107]⟩, ⟨#[118]⟩, false) : I.Wt)] := by unfold I.of; simp [shard_one]
theorem exI_of2 : I.of [((⟨#[98]⟩, ⟨#[107]⟩, ⟨#[118]⟩, false) : I.Wt)] 2 1 = [] := by unfold I.of; simp [shard_one]
set_option maxHeartbeats 16000000 in
theorem examples_any (w : World) :
    Calls Try.prog 11 #[] w fun e w' => e = .returned (.bool true) ∧ Below w.heap.size w w' := by
  have CB : Hid (∀ u v, IsWs u v [((⟨#[98]⟩, ⟨#[107]⟩, ⟨#[118]⟩, false) : I.Wt)] → Calls Try.prog 15 #[.agg [Value.int .u64 1, .int .u64 0, .int .u64 0, .int .u64 0, .int .i64 1, v].toArray] u fun e w' => e = .returned (.tuple #[.string ⟨#[1, 1, 0, 0, 0, 1, 1, 98, 1, 107, 0, 1, 118]⟩, .bool true]) ∧ Below u.heap.size u w') := fun u v hv => by
    have := bytes_any [1, 0, 0, 0] 1 v [((⟨#[98]⟩, ⟨#[107]⟩, ⟨#[118]⟩, false) : I.Wt)] u exI_ok hv
    rw [exI_bytes, exI_whole] at this
    exact this
  have CD : Hid (∀ u, Calls Try.prog 31 #[.string ⟨#[1, 1, 0, 0, 0, 1, 1, 98, 1, 107, 0, 1, 118]⟩] u fun e w' => ∃ v, e = .returned (.tuple #[.agg [Value.int .u64 1, .int .u64 0, .int .u64 0, .int .u64 0, .int .i64 1, v].toArray, .bool true]) ∧ OW 23 w' u.heap.size v [((⟨#[98]⟩, ⟨#[107]⟩, ⟨#[118]⟩, false) : I.Wt)] ∧ Below u.heap.size u w') := fun u =>
    read_any ⟨#[1, 1, 0, 0, 0, 1, 1, 98, 1, 107, 0, 1, 118]⟩ [1, 0, 0, 0] 1 [((⟨#[98]⟩, ⟨#[107]⟩, ⟨#[118]⟩, false) : I.Wt)] true u (by decide +kernel) exI_read
  have CR : Hid (∀ u, Calls Try.prog 18 #[.agg [Value.string ⟨#[98]⟩, .string ⟨#[107]⟩, .string ⟨#[118]⟩, .bool false].toArray] u fun e w' => e = .returned (.bool true) ∧ Below u.heap.size u w') := fun u => by
    have := wright_any ((⟨#[98]⟩, ⟨#[107]⟩, ⟨#[118]⟩, false) : I.Wt) u
    rw [exI_right] at this
    exact this
  have CRz : Hid (∀ u, Calls Try.prog 18 #[.agg #[.string ⟨#[]⟩, .string ⟨#[]⟩, .string ⟨#[]⟩, .bool false]] u fun e w' => e = .returned (.bool false) ∧ Below u.heap.size u w') := fun u => by
    have := wright_any I.none_ u
    rw [exI_rightz] at this
    exact this
  have CW : Hid (∀ u v, IsWs u v [((⟨#[98]⟩, ⟨#[107]⟩, ⟨#[118]⟩, false) : I.Wt)] → Calls Try.prog 22 #[.agg [Value.int .u64 1, .int .u64 0, .int .u64 0, .int .u64 0, .int .i64 1, v].toArray] u fun e w' => e = .returned (.bool true) ∧ Below u.heap.size u w') := fun u v hv => by
    have := whole_any [1, 0, 0, 0] 1 v [((⟨#[98]⟩, ⟨#[107]⟩, ⟨#[118]⟩, false) : I.Wt)] u rfl hv
    rw [exI_whole] at this
    exact this
  have CWz : Hid (∀ u, Calls Try.prog 22 #[.agg [Value.int .u64 0, .int .u64 0, .int .u64 0, .int .u64 0, .int .i64 0, .slice none 0 0].toArray] u fun e w' => e = .returned (.bool false) ∧ Below u.heap.size u w') := fun u => by
    have := whole_any [0, 0, 0, 0] 0 (.slice none 0 0) [] u rfl (IsWs.nil u)
    rw [exI_wholez] at this
    exact this
  have CS : Hid (∀ u, Calls Try.prog 20 #[.agg [Value.string ⟨#[98]⟩, .string ⟨#[107]⟩, .string ⟨#[118]⟩, .bool false].toArray] u fun e w' => e = .returned (.int .i64 3) ∧ Below u.heap.size u w') := fun u => wsize_any ((⟨#[98]⟩, ⟨#[107]⟩, ⟨#[118]⟩, false) : I.Wt) u ⟨by decide +kernel, by decide +kernel, by decide +kernel⟩
  have CSg : Hid (∀ u, Calls Try.prog 20 #[.agg #[.string ⟨#[98]⟩, .string ⟨#[107]⟩, .string ⟨#[]⟩, .bool true]] u fun e w' => e = .returned (.int .i64 0) ∧ Below u.heap.size u w') := fun u => wsize_any (⟨#[98]⟩, ⟨#[107]⟩, ⟨#[]⟩, true) u ⟨by decide +kernel, by decide +kernel, by decide +kernel⟩
  have CE : Hid (∀ u v v', IsWs u v [((⟨#[98]⟩, ⟨#[107]⟩, ⟨#[118]⟩, false) : I.Wt)] → IsWs u v' [((⟨#[98]⟩, ⟨#[107]⟩, ⟨#[118]⟩, false) : I.Wt)] → Calls Try.prog 24 #[.agg [Value.int .u64 1, .int .u64 0, .int .u64 0, .int .u64 0, .int .i64 1, v].toArray, .agg [Value.int .u64 1, .int .u64 0, .int .u64 0, .int .u64 0, .int .i64 1, v'].toArray] u fun e w' => e = .returned (.bool true) ∧ Below u.heap.size u w') := fun u v v' hv hv' => by
    have := same_any [1, 0, 0, 0] 1 v [((⟨#[98]⟩, ⟨#[107]⟩, ⟨#[118]⟩, false) : I.Wt)] [1, 0, 0, 0] 1 v' [((⟨#[98]⟩, ⟨#[107]⟩, ⟨#[118]⟩, false) : I.Wt)] u rfl rfl hv hv'
    rw [exI_same] at this
    exact this
  have CH : Hid (∀ u, Calls Try.prog 28 #[.string ⟨#[98]⟩, .string ⟨#[107]⟩, .int .i64 1] u fun e w' => e = .returned (.int .i64 1) ∧ Below u.heap.size u w') := fun u => by
    have := shard_any ⟨#[98]⟩ ⟨#[107]⟩ 1 u (by decide +kernel) (by decide +kernel) (by decide) (by decide)
    rw [shard_one] at this
    exact this
  have hO : ∀ x ∈ [((⟨#[98]⟩, ⟨#[107]⟩, ⟨#[118]⟩, false) : I.Wt)], x.1.size ≤ 140737488355328 ∧ x.2.1.size ≤ 140737488355328 := by decide +kernel
  have CO1 : Hid (∀ u v, IsWs u v [((⟨#[98]⟩, ⟨#[107]⟩, ⟨#[118]⟩, false) : I.Wt)] → Calls Try.prog 26 #[.agg [Value.int .u64 1, .int .u64 0, .int .u64 0, .int .u64 0, .int .i64 1, v].toArray, .int .i64 1, .int .i64 1] u fun e w' => ∃ v', e = .returned v' ∧ OW 23 w' u.heap.size v' [((⟨#[98]⟩, ⟨#[107]⟩, ⟨#[118]⟩, false) : I.Wt)] ∧ Below u.heap.size u w') := fun u v hv => by
    have := of_any [1, 0, 0, 0] 1 v [((⟨#[98]⟩, ⟨#[107]⟩, ⟨#[118]⟩, false) : I.Wt)] 1 1 u rfl hv (by decide) hO (by decide) (by decide)
    rw [exI_of1] at this
    exact this
  have CO2 : Hid (∀ u v, IsWs u v [((⟨#[98]⟩, ⟨#[107]⟩, ⟨#[118]⟩, false) : I.Wt)] → Calls Try.prog 26 #[.agg [Value.int .u64 1, .int .u64 0, .int .u64 0, .int .u64 0, .int .i64 1, v].toArray, .int .i64 2, .int .i64 1] u fun e w' => ∃ v', e = .returned v' ∧ OW 23 w' u.heap.size v' [] ∧ Below u.heap.size u w') := fun u v hv => by
    have := of_any [1, 0, 0, 0] 1 v [((⟨#[98]⟩, ⟨#[107]⟩, ⟨#[118]⟩, false) : I.Wt)] 2 1 u rfl hv (by decide) hO (by decide) (by decide)
    rw [exI_of2] at this
    exact this
  clear hO
  go_enter Try.func11, Try.ntmps11
  have W0 : Hid (Below w.heap.size w w) := Below.refl _ _
  go_wp2_with (first | refine blk_alloc rfl 23 (wc I.none_) rfl Try.info_iw2 ?_)
  intro k1 A1 B1 Z1
  go_wp2_with (first | refine blk_store rfl 23 _ _ rfl (w.heap.size) rfl [Value.string ⟨#[98]⟩, .string ⟨#[107]⟩, .string ⟨#[118]⟩, .bool false] rfl _ A1 rfl Try.size_w rfl ?_)
  intro k2 A2 U2
  have hb2 : Below w.heap.size w k2 := B1.trans (U2.below (Nat.le_refl _))
  have HW2_ : Hid (Blk k2 (w.heap.size) [Value.string ⟨#[98]⟩, .string ⟨#[107]⟩, .string ⟨#[118]⟩, .bool false]) := A2
  have LW2_ : Hid (w.heap.size < k2.heap.size) := by show _ < _; rw [U2.size]; omega
  have W2 : Hid (Below w.heap.size w k2) := Below.trans W0.out (hb2.mono W0.out.size)
  have HW2 := HW2_
  have LW2 := LW2_
  clear hb2 A1 B1 Z1 A2 U2 HW2_ LW2_ W0
  go_wp2_with (first | refine blk_load rfl 23 _ rfl (w.heap.size) rfl [Value.string ⟨#[98]⟩, .string ⟨#[107]⟩, .string ⟨#[118]⟩, .bool false] HW2.out _ Try.underlying23 rfl Try.size_w ?_ | refine build_iw rfl _ rfl ((⟨#[98]⟩, ⟨#[107]⟩, ⟨#[118]⟩, false) : I.Wt) rfl ?_)
  intro k3 A3 B3 Z3
  have hb3 : Below k2.heap.size k2 k3 := B3
  have HG3_ : Hid (Blk k3 (k2.heap.size) (wc ((⟨#[98]⟩, ⟨#[107]⟩, ⟨#[118]⟩, false) : I.Wt))) := A3
  have LG3_ : Hid (k2.heap.size < k3.heap.size) := by show _ < _; omega
  have HW3 : Hid (Blk k3 (w.heap.size) [Value.string ⟨#[98]⟩, .string ⟨#[107]⟩, .string ⟨#[118]⟩, .bool false]) := Blk.below HW2.out hb3 LW2.out
  have LW3 : Hid (w.heap.size < k3.heap.size) := Nat.lt_of_lt_of_le LW2.out hb3.size
  have W3 : Hid (Below w.heap.size w k3) := Below.trans W2.out (hb3.mono W2.out.size)
  have HG3 := HG3_
  have LG3 := LG3_
  clear hb3 A3 B3 Z3 HW2 LW2 W2 HG3_ LG3_
  go_wp2_with (first | refine blk_alloc rfl 43 (ks .u64 [0, 0, 0, 0] ++ [Value.int .i64 0, .slice none 0 0]) rfl Try.info_itx ?_)
  intro k4 A4 B4 Z4
  go_wp2_with (first | refine blk_store rfl 43 _ _ rfl (k3.heap.size) rfl [Value.int .u64 1, .int .u64 0, .int .u64 0, .int .u64 0, .int .i64 1, .slice (some ⟨k2.heap.size, 0, none⟩) 1 1] rfl _ A4 rfl Try.size_itx rfl ?_)
  intro k5 A5 U5
  have hb5 : Below k3.heap.size k3 k5 := B4.trans (U5.below (Nat.le_refl _))
  have HT5_ : Hid (Blk k5 (k3.heap.size) [Value.int .u64 1, .int .u64 0, .int .u64 0, .int .u64 0, .int .i64 1, .slice (some ⟨k2.heap.size, 0, none⟩) 1 1]) := A5
  have LT5_ : Hid (k3.heap.size < k5.heap.size) := by show _ < _; rw [U5.size]; omega
  have HW5 : Hid (Blk k5 (w.heap.size) [Value.string ⟨#[98]⟩, .string ⟨#[107]⟩, .string ⟨#[118]⟩, .bool false]) := Blk.below HW3.out hb5 LW3.out
  have LW5 : Hid (w.heap.size < k5.heap.size) := Nat.lt_of_lt_of_le LW3.out hb5.size
  have HG5 : Hid (Blk k5 (k2.heap.size) (wc ((⟨#[98]⟩, ⟨#[107]⟩, ⟨#[118]⟩, false) : I.Wt))) := Blk.below HG3.out hb5 LG3.out
  have LG5 : Hid (k2.heap.size < k5.heap.size) := Nat.lt_of_lt_of_le LG3.out hb5.size
  have W5 : Hid (Below w.heap.size w k5) := Below.trans W3.out (hb5.mono W3.out.size)
  have HT5 := HT5_
  have LT5 := LT5_
  clear hb5 A4 B4 Z4 A5 U5 HT5_ LT5_ HW3 LW3 HG3 LG3 W3
  go_wp2_with (first | refine blk_load rfl 43 _ rfl (k3.heap.size) rfl [Value.int .u64 1, .int .u64 0, .int .u64 0, .int .u64 0, .int .i64 1, .slice (some ⟨k2.heap.size, 0, none⟩) 1 1] HT5.out _ Try.underlying43 rfl Try.size_itx ?_)
  refine (CB.out _ _ (IsWs.one HG5.out LG5.out)).mono ?_; rintro e k6 ⟨rfl, hb6⟩
  have HW6 : Hid (Blk k6 (w.heap.size) [Value.string ⟨#[98]⟩, .string ⟨#[107]⟩, .string ⟨#[118]⟩, .bool false]) := Blk.below HW5.out hb6 LW5.out
  have LW6 : Hid (w.heap.size < k6.heap.size) := Nat.lt_of_lt_of_le LW5.out hb6.size
  have HG6 : Hid (Blk k6 (k2.heap.size) (wc ((⟨#[98]⟩, ⟨#[107]⟩, ⟨#[118]⟩, false) : I.Wt))) := Blk.below HG5.out hb6 LG5.out
  have LG6 : Hid (k2.heap.size < k6.heap.size) := Nat.lt_of_lt_of_le LG5.out hb6.size
  have HT6 : Hid (Blk k6 (k3.heap.size) [Value.int .u64 1, .int .u64 0, .int .u64 0, .int .u64 0, .int .i64 1, .slice (some ⟨k2.heap.size, 0, none⟩) 1 1]) := Blk.below HT5.out hb6 LT5.out
  have LT6 : Hid (k3.heap.size < k6.heap.size) := Nat.lt_of_lt_of_le LT5.out hb6.size
  have W6 : Hid (Below w.heap.size w k6) := Below.trans W5.out (hb6.mono W5.out.size)
  clear hb6 HW5 LW5 HG5 LG5 HT5 LT5 W5 
  go_wp2_with fail
  refine (CD.out _).mono ?_; rintro e k7 ⟨v, rfl, ho, hb7⟩
  have HW7 : Hid (Blk k7 (w.heap.size) [Value.string ⟨#[98]⟩, .string ⟨#[107]⟩, .string ⟨#[118]⟩, .bool false]) := Blk.below HW6.out hb7 LW6.out
  have LW7 : Hid (w.heap.size < k7.heap.size) := Nat.lt_of_lt_of_le LW6.out hb7.size
  have HG7 : Hid (Blk k7 (k2.heap.size) (wc ((⟨#[98]⟩, ⟨#[107]⟩, ⟨#[118]⟩, false) : I.Wt))) := Blk.below HG6.out hb7 LG6.out
  have LG7 : Hid (k2.heap.size < k7.heap.size) := Nat.lt_of_lt_of_le LG6.out hb7.size
  have HT7 : Hid (Blk k7 (k3.heap.size) [Value.int .u64 1, .int .u64 0, .int .u64 0, .int .u64 0, .int .i64 1, .slice (some ⟨k2.heap.size, 0, none⟩) 1 1]) := Blk.below HT6.out hb7 LT6.out
  have LT7 : Hid (k3.heap.size < k7.heap.size) := Nat.lt_of_lt_of_le LT6.out hb7.size
  have W7 : Hid (Below w.heap.size w k7) := Below.trans W6.out (hb7.mono W6.out.size)
  clear hb7 HW6 LW6 HG6 LG6 HT6 LT6 W6 
  obtain ⟨av, cv, ev, _⟩ := ho.is.is
  subst ev
  have XV7 := Lib.hid ho
  have HLT : Hid (∀ g o n c, Value.slice av 1 cv = .slice (some ⟨g, o, none⟩) n c → g < k7.heap.size) := OW.lt ho
  clear ho
  go_wp2_with (first | refine blk_alloc rfl 43 (ks .u64 [0, 0, 0, 0] ++ [Value.int .i64 0, .slice none 0 0]) rfl Try.info_itx ?_)
  intro k8 A8 B8 Z8
  go_wp2_with (first | refine blk_store rfl 43 _ _ rfl (k7.heap.size) rfl [Value.int .u64 1, .int .u64 0, .int .u64 0, .int .u64 0, .int .i64 1, .slice av 1 cv] rfl _ A8 rfl Try.size_itx rfl ?_)
  intro k9 A9 U9
  have hb9 : Below k7.heap.size k7 k9 := B8.trans (U9.below (Nat.le_refl _))
  have HU9_ : Hid (Blk k9 (k7.heap.size) [Value.int .u64 1, .int .u64 0, .int .u64 0, .int .u64 0, .int .i64 1, .slice av 1 cv]) := A9
  have LU9_ : Hid (k7.heap.size < k9.heap.size) := by show _ < _; rw [U9.size]; omega
  have HW9 : Hid (Blk k9 (w.heap.size) [Value.string ⟨#[98]⟩, .string ⟨#[107]⟩, .string ⟨#[118]⟩, .bool false]) := Blk.below HW7.out hb9 LW7.out
  have LW9 : Hid (w.heap.size < k9.heap.size) := Nat.lt_of_lt_of_le LW7.out hb9.size
  have HG9 : Hid (Blk k9 (k2.heap.size) (wc ((⟨#[98]⟩, ⟨#[107]⟩, ⟨#[118]⟩, false) : I.Wt))) := Blk.below HG7.out hb9 LG7.out
  have LG9 : Hid (k2.heap.size < k9.heap.size) := Nat.lt_of_lt_of_le LG7.out hb9.size
  have HT9 : Hid (Blk k9 (k3.heap.size) [Value.int .u64 1, .int .u64 0, .int .u64 0, .int .u64 0, .int .i64 1, .slice (some ⟨k2.heap.size, 0, none⟩) 1 1]) := Blk.below HT7.out hb9 LT7.out
  have LT9 : Hid (k3.heap.size < k9.heap.size) := Nat.lt_of_lt_of_le LT7.out hb9.size
  have XV9 := Lib.hid (OW.below XV7.out hb9)
  have W9 : Hid (Below w.heap.size w k9) := Below.trans W7.out (hb9.mono W7.out.size)
  have HU9 := HU9_
  have LU9 := LU9_
  clear hb9 A8 B8 Z8 A9 U9 HU9_ LU9_ HW7 LW7 HG7 LG7 HT7 LT7 XV7 W7
  have cW0 := HW9.out.cell 0 _ rfl
  have cW1 := HW9.out.cell 1 _ rfl
  have cW2 := HW9.out.cell 2 _ rfl
  have cW3 := HW9.out.cell 3 _ rfl
  go_wp2_with fail
  refine (CR.out _).mono ?_; rintro e k10 ⟨rfl, hb10⟩
  have HW10 : Hid (Blk k10 (w.heap.size) [Value.string ⟨#[98]⟩, .string ⟨#[107]⟩, .string ⟨#[118]⟩, .bool false]) := Blk.below HW9.out hb10 LW9.out
  have LW10 : Hid (w.heap.size < k10.heap.size) := Nat.lt_of_lt_of_le LW9.out hb10.size
  have HG10 : Hid (Blk k10 (k2.heap.size) (wc ((⟨#[98]⟩, ⟨#[107]⟩, ⟨#[118]⟩, false) : I.Wt))) := Blk.below HG9.out hb10 LG9.out
  have LG10 : Hid (k2.heap.size < k10.heap.size) := Nat.lt_of_lt_of_le LG9.out hb10.size
  have HT10 : Hid (Blk k10 (k3.heap.size) [Value.int .u64 1, .int .u64 0, .int .u64 0, .int .u64 0, .int .i64 1, .slice (some ⟨k2.heap.size, 0, none⟩) 1 1]) := Blk.below HT9.out hb10 LT9.out
  have LT10 : Hid (k3.heap.size < k10.heap.size) := Nat.lt_of_lt_of_le LT9.out hb10.size
  have HU10 : Hid (Blk k10 (k7.heap.size) [Value.int .u64 1, .int .u64 0, .int .u64 0, .int .u64 0, .int .i64 1, .slice av 1 cv]) := Blk.below HU9.out hb10 LU9.out
  have LU10 : Hid (k7.heap.size < k10.heap.size) := Nat.lt_of_lt_of_le LU9.out hb10.size
  have XV10 := Lib.hid (OW.below XV9.out hb10)
  have W10 : Hid (Below w.heap.size w k10) := Below.trans W9.out (hb10.mono W9.out.size)
  clear hb10 HW9 LW9 HG9 LG9 HT9 LT9 HU9 LU9 XV9 W9 cW0 cW1 cW2 cW3
  go_wp2_with fail
  refine (CRz.out _).mono ?_; rintro e k11 ⟨rfl, hb11⟩
  have HW11 : Hid (Blk k11 (w.heap.size) [Value.string ⟨#[98]⟩, .string ⟨#[107]⟩, .string ⟨#[118]⟩, .bool false]) := Blk.below HW10.out hb11 LW10.out
  have LW11 : Hid (w.heap.size < k11.heap.size) := Nat.lt_of_lt_of_le LW10.out hb11.size
  have HG11 : Hid (Blk k11 (k2.heap.size) (wc ((⟨#[98]⟩, ⟨#[107]⟩, ⟨#[118]⟩, false) : I.Wt))) := Blk.below HG10.out hb11 LG10.out
  have LG11 : Hid (k2.heap.size < k11.heap.size) := Nat.lt_of_lt_of_le LG10.out hb11.size
  have HT11 : Hid (Blk k11 (k3.heap.size) [Value.int .u64 1, .int .u64 0, .int .u64 0, .int .u64 0, .int .i64 1, .slice (some ⟨k2.heap.size, 0, none⟩) 1 1]) := Blk.below HT10.out hb11 LT10.out
  have LT11 : Hid (k3.heap.size < k11.heap.size) := Nat.lt_of_lt_of_le LT10.out hb11.size
  have HU11 : Hid (Blk k11 (k7.heap.size) [Value.int .u64 1, .int .u64 0, .int .u64 0, .int .u64 0, .int .i64 1, .slice av 1 cv]) := Blk.below HU10.out hb11 LU10.out
  have LU11 : Hid (k7.heap.size < k11.heap.size) := Nat.lt_of_lt_of_le LU10.out hb11.size
  have XV11 := Lib.hid (OW.below XV10.out hb11)
  have W11 : Hid (Below w.heap.size w k11) := Below.trans W10.out (hb11.mono W10.out.size)
  clear hb11 HW10 LW10 HG10 LG10 HT10 LT10 HU10 LU10 XV10 W10 
  have cT0 := HT11.out.cell 0 _ rfl
  have cT1 := HT11.out.cell 1 _ rfl
  have cT2 := HT11.out.cell 2 _ rfl
  have cT3 := HT11.out.cell 3 _ rfl
  have cT4 := HT11.out.cell 4 _ rfl
  have cT5 := HT11.out.cell 5 _ rfl
  go_wp2_with fail
  refine (CW.out _ _ (IsWs.one HG11.out LG11.out)).mono ?_; rintro e k12 ⟨rfl, hb12⟩
  have HW12 : Hid (Blk k12 (w.heap.size) [Value.string ⟨#[98]⟩, .string ⟨#[107]⟩, .string ⟨#[118]⟩, .bool false]) := Blk.below HW11.out hb12 LW11.out
  have LW12 : Hid (w.heap.size < k12.heap.size) := Nat.lt_of_lt_of_le LW11.out hb12.size
  have HG12 : Hid (Blk k12 (k2.heap.size) (wc ((⟨#[98]⟩, ⟨#[107]⟩, ⟨#[118]⟩, false) : I.Wt))) := Blk.below HG11.out hb12 LG11.out
  have LG12 : Hid (k2.heap.size < k12.heap.size) := Nat.lt_of_lt_of_le LG11.out hb12.size
  have HT12 : Hid (Blk k12 (k3.heap.size) [Value.int .u64 1, .int .u64 0, .int .u64 0, .int .u64 0, .int .i64 1, .slice (some ⟨k2.heap.size, 0, none⟩) 1 1]) := Blk.below HT11.out hb12 LT11.out
  have LT12 : Hid (k3.heap.size < k12.heap.size) := Nat.lt_of_lt_of_le LT11.out hb12.size
  have HU12 : Hid (Blk k12 (k7.heap.size) [Value.int .u64 1, .int .u64 0, .int .u64 0, .int .u64 0, .int .i64 1, .slice av 1 cv]) := Blk.below HU11.out hb12 LU11.out
  have LU12 : Hid (k7.heap.size < k12.heap.size) := Nat.lt_of_lt_of_le LU11.out hb12.size
  have XV12 := Lib.hid (OW.below XV11.out hb12)
  have W12 : Hid (Below w.heap.size w k12) := Below.trans W11.out (hb12.mono W11.out.size)
  clear hb12 HW11 LW11 HG11 LG11 HT11 LT11 HU11 LU11 XV11 W11 cT0 cT1 cT2 cT3 cT4 cT5
  go_wp2_with fail
  refine (CWz.out _).mono ?_; rintro e k13 ⟨rfl, hb13⟩
  have HW13 : Hid (Blk k13 (w.heap.size) [Value.string ⟨#[98]⟩, .string ⟨#[107]⟩, .string ⟨#[118]⟩, .bool false]) := Blk.below HW12.out hb13 LW12.out
  have LW13 : Hid (w.heap.size < k13.heap.size) := Nat.lt_of_lt_of_le LW12.out hb13.size
  have HG13 : Hid (Blk k13 (k2.heap.size) (wc ((⟨#[98]⟩, ⟨#[107]⟩, ⟨#[118]⟩, false) : I.Wt))) := Blk.below HG12.out hb13 LG12.out
  have LG13 : Hid (k2.heap.size < k13.heap.size) := Nat.lt_of_lt_of_le LG12.out hb13.size
  have HT13 : Hid (Blk k13 (k3.heap.size) [Value.int .u64 1, .int .u64 0, .int .u64 0, .int .u64 0, .int .i64 1, .slice (some ⟨k2.heap.size, 0, none⟩) 1 1]) := Blk.below HT12.out hb13 LT12.out
  have LT13 : Hid (k3.heap.size < k13.heap.size) := Nat.lt_of_lt_of_le LT12.out hb13.size
  have HU13 : Hid (Blk k13 (k7.heap.size) [Value.int .u64 1, .int .u64 0, .int .u64 0, .int .u64 0, .int .i64 1, .slice av 1 cv]) := Blk.below HU12.out hb13 LU12.out
  have LU13 : Hid (k7.heap.size < k13.heap.size) := Nat.lt_of_lt_of_le LU12.out hb13.size
  have XV13 := Lib.hid (OW.below XV12.out hb13)
  have W13 : Hid (Below w.heap.size w k13) := Below.trans W12.out (hb13.mono W12.out.size)
  clear hb13 HW12 LW12 HG12 LG12 HT12 LT12 HU12 LU12 XV12 W12 
  have cW0 := HW13.out.cell 0 _ rfl
  have cW1 := HW13.out.cell 1 _ rfl
  have cW2 := HW13.out.cell 2 _ rfl
  have cW3 := HW13.out.cell 3 _ rfl
  go_wp2_with fail
  refine (CS.out _).mono ?_; rintro e k14 ⟨rfl, hb14⟩
  have HW14 : Hid (Blk k14 (w.heap.size) [Value.string ⟨#[98]⟩, .string ⟨#[107]⟩, .string ⟨#[118]⟩, .bool false]) := Blk.below HW13.out hb14 LW13.out
  have LW14 : Hid (w.heap.size < k14.heap.size) := Nat.lt_of_lt_of_le LW13.out hb14.size
  have HG14 : Hid (Blk k14 (k2.heap.size) (wc ((⟨#[98]⟩, ⟨#[107]⟩, ⟨#[118]⟩, false) : I.Wt))) := Blk.below HG13.out hb14 LG13.out
  have LG14 : Hid (k2.heap.size < k14.heap.size) := Nat.lt_of_lt_of_le LG13.out hb14.size
  have HT14 : Hid (Blk k14 (k3.heap.size) [Value.int .u64 1, .int .u64 0, .int .u64 0, .int .u64 0, .int .i64 1, .slice (some ⟨k2.heap.size, 0, none⟩) 1 1]) := Blk.below HT13.out hb14 LT13.out
  have LT14 : Hid (k3.heap.size < k14.heap.size) := Nat.lt_of_lt_of_le LT13.out hb14.size
  have HU14 : Hid (Blk k14 (k7.heap.size) [Value.int .u64 1, .int .u64 0, .int .u64 0, .int .u64 0, .int .i64 1, .slice av 1 cv]) := Blk.below HU13.out hb14 LU13.out
  have LU14 : Hid (k7.heap.size < k14.heap.size) := Nat.lt_of_lt_of_le LU13.out hb14.size
  have XV14 := Lib.hid (OW.below XV13.out hb14)
  have W14 : Hid (Below w.heap.size w k14) := Below.trans W13.out (hb14.mono W13.out.size)
  clear hb14 HW13 LW13 HG13 LG13 HT13 LT13 HU13 LU13 XV13 W13 cW0 cW1 cW2 cW3
  go_wp2_with fail
  refine (CSg.out _).mono ?_; rintro e k15 ⟨rfl, hb15⟩
  have HW15 : Hid (Blk k15 (w.heap.size) [Value.string ⟨#[98]⟩, .string ⟨#[107]⟩, .string ⟨#[118]⟩, .bool false]) := Blk.below HW14.out hb15 LW14.out
  have LW15 : Hid (w.heap.size < k15.heap.size) := Nat.lt_of_lt_of_le LW14.out hb15.size
  have HG15 : Hid (Blk k15 (k2.heap.size) (wc ((⟨#[98]⟩, ⟨#[107]⟩, ⟨#[118]⟩, false) : I.Wt))) := Blk.below HG14.out hb15 LG14.out
  have LG15 : Hid (k2.heap.size < k15.heap.size) := Nat.lt_of_lt_of_le LG14.out hb15.size
  have HT15 : Hid (Blk k15 (k3.heap.size) [Value.int .u64 1, .int .u64 0, .int .u64 0, .int .u64 0, .int .i64 1, .slice (some ⟨k2.heap.size, 0, none⟩) 1 1]) := Blk.below HT14.out hb15 LT14.out
  have LT15 : Hid (k3.heap.size < k15.heap.size) := Nat.lt_of_lt_of_le LT14.out hb15.size
  have HU15 : Hid (Blk k15 (k7.heap.size) [Value.int .u64 1, .int .u64 0, .int .u64 0, .int .u64 0, .int .i64 1, .slice av 1 cv]) := Blk.below HU14.out hb15 LU14.out
  have LU15 : Hid (k7.heap.size < k15.heap.size) := Nat.lt_of_lt_of_le LU14.out hb15.size
  have XV15 := Lib.hid (OW.below XV14.out hb15)
  have W15 : Hid (Below w.heap.size w k15) := Below.trans W14.out (hb15.mono W14.out.size)
  clear hb15 HW14 LW14 HG14 LG14 HT14 LT14 HU14 LU14 XV14 W14 
  have cT0 := HT15.out.cell 0 _ rfl
  have cT1 := HT15.out.cell 1 _ rfl
  have cT2 := HT15.out.cell 2 _ rfl
  have cT3 := HT15.out.cell 3 _ rfl
  have cT4 := HT15.out.cell 4 _ rfl
  have cT5 := HT15.out.cell 5 _ rfl
  have cU0 := HU15.out.cell 0 _ rfl
  have cU1 := HU15.out.cell 1 _ rfl
  have cU2 := HU15.out.cell 2 _ rfl
  have cU3 := HU15.out.cell 3 _ rfl
  have cU4 := HU15.out.cell 4 _ rfl
  have cU5 := HU15.out.cell 5 _ rfl
  go_wp2_with fail
  refine (CE.out _ _ _ (IsWs.one HG15.out LG15.out) XV15.out.is).mono ?_; rintro e k16 ⟨rfl, hb16⟩
  have HW16 : Hid (Blk k16 (w.heap.size) [Value.string ⟨#[98]⟩, .string ⟨#[107]⟩, .string ⟨#[118]⟩, .bool false]) := Blk.below HW15.out hb16 LW15.out
  have LW16 : Hid (w.heap.size < k16.heap.size) := Nat.lt_of_lt_of_le LW15.out hb16.size
  have HG16 : Hid (Blk k16 (k2.heap.size) (wc ((⟨#[98]⟩, ⟨#[107]⟩, ⟨#[118]⟩, false) : I.Wt))) := Blk.below HG15.out hb16 LG15.out
  have LG16 : Hid (k2.heap.size < k16.heap.size) := Nat.lt_of_lt_of_le LG15.out hb16.size
  have HT16 : Hid (Blk k16 (k3.heap.size) [Value.int .u64 1, .int .u64 0, .int .u64 0, .int .u64 0, .int .i64 1, .slice (some ⟨k2.heap.size, 0, none⟩) 1 1]) := Blk.below HT15.out hb16 LT15.out
  have LT16 : Hid (k3.heap.size < k16.heap.size) := Nat.lt_of_lt_of_le LT15.out hb16.size
  have HU16 : Hid (Blk k16 (k7.heap.size) [Value.int .u64 1, .int .u64 0, .int .u64 0, .int .u64 0, .int .i64 1, .slice av 1 cv]) := Blk.below HU15.out hb16 LU15.out
  have LU16 : Hid (k7.heap.size < k16.heap.size) := Nat.lt_of_lt_of_le LU15.out hb16.size
  have XV16 := Lib.hid (OW.below XV15.out hb16)
  have W16 : Hid (Below w.heap.size w k16) := Below.trans W15.out (hb16.mono W15.out.size)
  clear hb16 HW15 LW15 HG15 LG15 HT15 LT15 HU15 LU15 XV15 W15 cT0 cT1 cT2 cT3 cT4 cT5 cU0 cU1 cU2 cU3 cU4 cU5
  go_wp2_with fail
  refine (CH.out _).mono ?_; rintro e k17 ⟨rfl, hb17⟩
  have HW17 : Hid (Blk k17 (w.heap.size) [Value.string ⟨#[98]⟩, .string ⟨#[107]⟩, .string ⟨#[118]⟩, .bool false]) := Blk.below HW16.out hb17 LW16.out
  have LW17 : Hid (w.heap.size < k17.heap.size) := Nat.lt_of_lt_of_le LW16.out hb17.size
  have HG17 : Hid (Blk k17 (k2.heap.size) (wc ((⟨#[98]⟩, ⟨#[107]⟩, ⟨#[118]⟩, false) : I.Wt))) := Blk.below HG16.out hb17 LG16.out
  have LG17 : Hid (k2.heap.size < k17.heap.size) := Nat.lt_of_lt_of_le LG16.out hb17.size
  have HT17 : Hid (Blk k17 (k3.heap.size) [Value.int .u64 1, .int .u64 0, .int .u64 0, .int .u64 0, .int .i64 1, .slice (some ⟨k2.heap.size, 0, none⟩) 1 1]) := Blk.below HT16.out hb17 LT16.out
  have LT17 : Hid (k3.heap.size < k17.heap.size) := Nat.lt_of_lt_of_le LT16.out hb17.size
  have HU17 : Hid (Blk k17 (k7.heap.size) [Value.int .u64 1, .int .u64 0, .int .u64 0, .int .u64 0, .int .i64 1, .slice av 1 cv]) := Blk.below HU16.out hb17 LU16.out
  have LU17 : Hid (k7.heap.size < k17.heap.size) := Nat.lt_of_lt_of_le LU16.out hb17.size
  have XV17 := Lib.hid (OW.below XV16.out hb17)
  have W17 : Hid (Below w.heap.size w k17) := Below.trans W16.out (hb17.mono W16.out.size)
  clear hb17 HW16 LW16 HG16 LG16 HT16 LT16 HU16 LU16 XV16 W16 
  have cT0 := HT17.out.cell 0 _ rfl
  have cT1 := HT17.out.cell 1 _ rfl
  have cT2 := HT17.out.cell 2 _ rfl
  have cT3 := HT17.out.cell 3 _ rfl
  have cT4 := HT17.out.cell 4 _ rfl
  have cT5 := HT17.out.cell 5 _ rfl
  go_wp2_with fail
  refine (CO1.out _ _ (IsWs.one HG17.out LG17.out)).mono ?_; rintro e k18 ⟨v1, rfl, ho1, hb18⟩
  have HW18 : Hid (Blk k18 (w.heap.size) [Value.string ⟨#[98]⟩, .string ⟨#[107]⟩, .string ⟨#[118]⟩, .bool false]) := Blk.below HW17.out hb18 LW17.out
  have LW18 : Hid (w.heap.size < k18.heap.size) := Nat.lt_of_lt_of_le LW17.out hb18.size
  have HG18 : Hid (Blk k18 (k2.heap.size) (wc ((⟨#[98]⟩, ⟨#[107]⟩, ⟨#[118]⟩, false) : I.Wt))) := Blk.below HG17.out hb18 LG17.out
  have LG18 : Hid (k2.heap.size < k18.heap.size) := Nat.lt_of_lt_of_le LG17.out hb18.size
  have HT18 : Hid (Blk k18 (k3.heap.size) [Value.int .u64 1, .int .u64 0, .int .u64 0, .int .u64 0, .int .i64 1, .slice (some ⟨k2.heap.size, 0, none⟩) 1 1]) := Blk.below HT17.out hb18 LT17.out
  have LT18 : Hid (k3.heap.size < k18.heap.size) := Nat.lt_of_lt_of_le LT17.out hb18.size
  have HU18 : Hid (Blk k18 (k7.heap.size) [Value.int .u64 1, .int .u64 0, .int .u64 0, .int .u64 0, .int .i64 1, .slice av 1 cv]) := Blk.below HU17.out hb18 LU17.out
  have LU18 : Hid (k7.heap.size < k18.heap.size) := Nat.lt_of_lt_of_le LU17.out hb18.size
  have XV18 := Lib.hid (OW.below XV17.out hb18)
  have W18 : Hid (Below w.heap.size w k18) := Below.trans W17.out (hb18.mono W17.out.size)
  clear hb18 HW17 LW17 HG17 LG17 HT17 LT17 HU17 LU17 XV17 W17 cT0 cT1 cT2 cT3 cT4 cT5
  obtain ⟨av1, cv1, ev1, _⟩ := ho1.is.is
  subst ev1
  clear ho1
  have cT0 := HT18.out.cell 0 _ rfl
  have cT1 := HT18.out.cell 1 _ rfl
  have cT2 := HT18.out.cell 2 _ rfl
  have cT3 := HT18.out.cell 3 _ rfl
  have cT4 := HT18.out.cell 4 _ rfl
  have cT5 := HT18.out.cell 5 _ rfl
  go_wp2_with fail
  refine (CO2.out _ _ (IsWs.one HG18.out LG18.out)).mono ?_; rintro e k19 ⟨v2, rfl, ho2, hb19⟩
  have HW19 : Hid (Blk k19 (w.heap.size) [Value.string ⟨#[98]⟩, .string ⟨#[107]⟩, .string ⟨#[118]⟩, .bool false]) := Blk.below HW18.out hb19 LW18.out
  have LW19 : Hid (w.heap.size < k19.heap.size) := Nat.lt_of_lt_of_le LW18.out hb19.size
  have HG19 : Hid (Blk k19 (k2.heap.size) (wc ((⟨#[98]⟩, ⟨#[107]⟩, ⟨#[118]⟩, false) : I.Wt))) := Blk.below HG18.out hb19 LG18.out
  have LG19 : Hid (k2.heap.size < k19.heap.size) := Nat.lt_of_lt_of_le LG18.out hb19.size
  have HT19 : Hid (Blk k19 (k3.heap.size) [Value.int .u64 1, .int .u64 0, .int .u64 0, .int .u64 0, .int .i64 1, .slice (some ⟨k2.heap.size, 0, none⟩) 1 1]) := Blk.below HT18.out hb19 LT18.out
  have LT19 : Hid (k3.heap.size < k19.heap.size) := Nat.lt_of_lt_of_le LT18.out hb19.size
  have HU19 : Hid (Blk k19 (k7.heap.size) [Value.int .u64 1, .int .u64 0, .int .u64 0, .int .u64 0, .int .i64 1, .slice av 1 cv]) := Blk.below HU18.out hb19 LU18.out
  have LU19 : Hid (k7.heap.size < k19.heap.size) := Nat.lt_of_lt_of_le LU18.out hb19.size
  have XV19 := Lib.hid (OW.below XV18.out hb19)
  have W19 : Hid (Below w.heap.size w k19) := Below.trans W18.out (hb19.mono W18.out.size)
  clear hb19 HW18 LW18 HG18 LG18 HT18 LT18 HU18 LU18 XV18 W18 cT0 cT1 cT2 cT3 cT4 cT5
  obtain ⟨av2, cv2, ev2, _⟩ := ho2.is.is
  subst ev2
  clear ho2
  go_wp2_with fail
  go_ret
  exact ⟨rfl, W19.out⟩
end Go.Proofs.Ytkfcbihofipcbaa.It
