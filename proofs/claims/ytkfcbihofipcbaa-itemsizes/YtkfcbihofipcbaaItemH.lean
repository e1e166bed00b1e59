/- The program's item: Read. -/
import Derived.Test.YtkfcbihofipcbaaItemG

namespace Go.Proofs.Ytkfcbihofipcbaa.It

open Go.RowKit Go.Proofs.Ytkfcbihofipcbaa.Vc Go.Proofs.Ytkfcbihofipcbaa.Sp

set_option linter.unusedVariables false

set_option linter.unusedSimpArgs false

set_option maxRecDepth 100000

theorem empty_size (r : ByteArray) : r.toList.isEmpty = decide (r.size = 0) := by
  by_cases h : r.size = 0
  · rw [decide_eq_true h, ByteArray.toList_eq, List.isEmpty_iff]
    exact List.eq_nil_of_length_eq_zero (by rw [P.len_list]; exact h)
  · rw [decide_eq_false h, V.empty_not r h]
set_option maxHeartbeats 16000000 in
theorem read_any (s : ByteArray) (A : List Nat) (E : Int) (LR : List I.Wt) (ok : Bool) (w : World) (hs : s.size ≤ maxLen) (h : I.read s = (A, E, LR, ok)) :
    Calls Try.prog 31 #[.string s] w fun e w' => ∃ v, e = .returned (.tuple #[TV A E v, .bool ok]) ∧ OW 23 w' w.heap.size v LR ∧ Below w.heap.size w w' := by
  rw [← I.readP_read] at h
  rcases hT : I.getT s with ⟨A0, D, L, r, c⟩
  have hA0 : V.Ok A0 := by have := T.gets_ok s false; unfold I.getT at hT; simp only [Prod.mk.injEq] at hT; rw [hT.1] at this; exact this
  have CT := Lib.hid (fun w => gett_any s A0 D L r c w hs hT)
  unfold I.readP at h
  simp only [hT] at h
  obtain ⟨dn, HDN⟩ : ∃ q, Hid ((!c && r.toList.isEmpty) = q) := ⟨_, rfl⟩
  have CD := Lib.hid (fun w => Pk.done_any r c w)
  rw [HDN.out] at CD
  rw [show (decide (r.size = 0) && !c) = dn by rw [← HDN.out, empty_size, Bool.and_comm]] at h
  obtain ⟨wh, HWH⟩ : ∃ q, Hid (I.whole A0 D L = q) := ⟨_, rfl⟩
  rw [HWH.out] at h
  have HR := Lib.hid h
  have CW := Lib.hid (fun w v hL => whole_any A0 D v L w hA0.len hL)
  rw [HWH.out] at CW
  obtain ⟨a0, a1, a2, a3, rfl⟩ := V.four hA0.len
  clear h hs hT hA0 HDN HWH
  go_enter Try.func31, Try.ntmps31
  have W0 : Hid (Below w.heap.size w w) := Below.refl _ _
  go_wp2_with (first | refine blk_alloc rfl 43 (ks .u64 [0, 0, 0, 0] ++ [Value.int .i64 0, .slice none 0 0]) rfl Try.info_itx ?_)
  intro k1 A1 B1 Z1
  have hb1 : Below w.heap.size w k1 := B1
  have HO1_ : Hid (Blk k1 (w.heap.size) (ks .u64 [0, 0, 0, 0] ++ [Value.int .i64 0, .slice none 0 0])) := A1
  have LO1_ : Hid (w.heap.size < k1.heap.size) := by show _ < _; omega
  have W1 : Hid (Below w.heap.size w k1) := Below.trans W0.out (hb1.mono W0.out.size)
  have HO1 := HO1_
  have LO1 := LO1_
  clear hb1 A1 B1 Z1 W0 HO1_ LO1_
  have hbase : w.heap.size < k1.heap.size := LO1.out
  go_wp2_with fail
  refine (CT.out _).mono ?_; rintro e k2 ⟨v, rfl, ho, hb2⟩
  have HO2 : Hid (Blk k2 (w.heap.size) (ks .u64 [0, 0, 0, 0] ++ [Value.int .i64 0, .slice none 0 0])) := Blk.below HO1.out hb2 LO1.out
  have LO2 : Hid (w.heap.size < k2.heap.size) := Nat.lt_of_lt_of_le LO1.out hb2.size
  have W2 : Hid (Below w.heap.size w k2) := Below.trans W1.out (hb2.mono W1.out.size)
  have hbs := hb2.size
  clear hb2 HO1 LO1 W1 
  obtain ⟨av, cv, ev, _⟩ := ho.is.is
  subst ev
  obtain ⟨nn, HNN⟩ : ∃ q, Hid (L.length = q) := ⟨_, rfl⟩
  have XV2 := Lib.hid ho
  rw [HNN.out] at XV2
  rw [HNN.out]
  have HLT : Hid (∀ g o n c, Value.slice av nn cv = .slice (some ⟨g, o, none⟩) n c → g < k2.heap.size) := OW.lt XV2.out
  have hq : k1.heap.size ≤ k2.heap.size := by have := W2.out.size; have := LO2.out; exact hbs
  clear ho
  go_wp2_with (first | refine blk_alloc rfl 43 (ks .u64 [0, 0, 0, 0] ++ [Value.int .i64 0, .slice none 0 0]) rfl Try.info_itx ?_)
  intro k3 A3 B3 Z3
  go_wp2_with (first | refine blk_alloc rfl 94 [.string ⟨#[]⟩, .bool false] rfl Try.info_rd ?_)
  intro k4 A4 B4 Z4
  have hb4 : Below k2.heap.size k2 k4 := (B3).trans (B4.mono (by omega))
  have HT4_ : Hid (Blk k4 (k2.heap.size) (ks .u64 [0, 0, 0, 0] ++ [Value.int .i64 0, .slice none 0 0])) := (A3).below B4 (by omega)
  have LT4_ : Hid (k2.heap.size < k4.heap.size) := by show _ < _; omega
  have HR4_ : Hid (Blk k4 (k2.heap.size + 1) [.string ⟨#[]⟩, .bool false]) := A4
  have LR4_ : Hid (k2.heap.size + 1 < k4.heap.size) := by show _ < _; omega
  have HO4 : Hid (Blk k4 (w.heap.size) (ks .u64 [0, 0, 0, 0] ++ [Value.int .i64 0, .slice none 0 0])) := Blk.below HO2.out hb4 LO2.out
  have LO4 : Hid (w.heap.size < k4.heap.size) := Nat.lt_of_lt_of_le LO2.out hb4.size
  have XV4 := Lib.hid (OW.below XV2.out hb4)
  have W4 : Hid (Below w.heap.size w k4) := Below.trans W2.out (hb4.mono W2.out.size)
  have HT4 := HT4_
  have LT4 := LT4_
  have HR4 := HR4_
  have LR4 := LR4_
  clear hb4 A3 B3 Z3 A4 B4 Z4 HO2 LO2 XV2 W2 HT4_ LT4_ HR4_ LR4_
  go_wp2_with (first | refine blk_store rfl 43 _ _ rfl (k2.heap.size) rfl (ks .u64 [a0, a1, a2, a3] ++ [Value.int .i64 D, .slice av nn cv]) rfl _ HT4.out rfl Try.size_itx rfl ?_)
  intro k5 A5 U5
  have HO5 : Hid (Blk k5 (w.heap.size) (ks .u64 [0, 0, 0, 0] ++ [Value.int .i64 0, .slice none 0 0])) := Blk.upd HO4.out U5 (by omega)
  have LO5 : Hid (w.heap.size < k5.heap.size) := by show _ < _; rw [U5.size]; exact LO4.out
  have HT5 : Hid (Blk k5 (k2.heap.size) (ks .u64 [a0, a1, a2, a3] ++ [Value.int .i64 D, .slice av nn cv])) := A5
  have LT5 : Hid (k2.heap.size < k5.heap.size) := by show _ < _; rw [U5.size]; exact LT4.out
  have HR5 : Hid (Blk k5 (k2.heap.size + 1) [.string ⟨#[]⟩, .bool false]) := Blk.upd HR4.out U5 (by omega)
  have LR5 : Hid (k2.heap.size + 1 < k5.heap.size) := by show _ < _; rw [U5.size]; exact LR4.out
  have XV5 := Lib.hid (OW.far XV4.out U5 (fun g o n c e => by have := HLT.out g o n c e; omega))
  have W5 : Hid (Below w.heap.size w k5) := Below.trans W4.out (U5.below (by omega))
  clear A5 U5 HO4 LO4 HT4 LT4 HR4 LR4 XV4 W4
  go_wp2_with (first | refine blk_store rfl 94 _ _ rfl (k2.heap.size + 1) rfl [.string r, .bool c] rfl _ HR5.out rfl Try.size_rd rfl ?_)
  intro k6 A6 U6
  have HO6 : Hid (Blk k6 (w.heap.size) (ks .u64 [0, 0, 0, 0] ++ [Value.int .i64 0, .slice none 0 0])) := Blk.upd HO5.out U6 (by omega)
  have LO6 : Hid (w.heap.size < k6.heap.size) := by show _ < _; rw [U6.size]; exact LO5.out
  have HT6 : Hid (Blk k6 (k2.heap.size) (ks .u64 [a0, a1, a2, a3] ++ [Value.int .i64 D, .slice av nn cv])) := Blk.upd HT5.out U6 (by omega)
  have LT6 : Hid (k2.heap.size < k6.heap.size) := by show _ < _; rw [U6.size]; exact LT5.out
  have HR6 : Hid (Blk k6 (k2.heap.size + 1) [.string r, .bool c]) := A6
  have LR6 : Hid (k2.heap.size + 1 < k6.heap.size) := by show _ < _; rw [U6.size]; exact LR5.out
  have XV6 := Lib.hid (OW.far XV5.out U6 (fun g o n c e => by have := HLT.out g o n c e; omega))
  have W6 : Hid (Below w.heap.size w k6) := Below.trans W5.out (U6.below (by omega))
  clear A6 U6 HO5 LO5 HT5 LT5 HR5 LR5 XV5 W5
  go_wp2_with (first | refine blk_load rfl 94 _ rfl (k2.heap.size + 1) rfl [.string r, .bool c] HR6.out _ Try.underlying94 rfl Try.size_rd ?_)
  refine (CD.out _).mono ?_; rintro e k7 ⟨rfl, hb7⟩
  have HO7 : Hid (Blk k7 (w.heap.size) (ks .u64 [0, 0, 0, 0] ++ [Value.int .i64 0, .slice none 0 0])) := Blk.below HO6.out hb7 LO6.out
  have LO7 : Hid (w.heap.size < k7.heap.size) := Nat.lt_of_lt_of_le LO6.out hb7.size
  have HT7 : Hid (Blk k7 (k2.heap.size) (ks .u64 [a0, a1, a2, a3] ++ [Value.int .i64 D, .slice av nn cv])) := Blk.below HT6.out hb7 LT6.out
  have LT7 : Hid (k2.heap.size < k7.heap.size) := Nat.lt_of_lt_of_le LT6.out hb7.size
  have HR7 : Hid (Blk k7 (k2.heap.size + 1) [.string r, .bool c]) := Blk.below HR6.out hb7 LR6.out
  have LR7 : Hid (k2.heap.size + 1 < k7.heap.size) := Nat.lt_of_lt_of_le LR6.out hb7.size
  have XV7 := Lib.hid (OW.below XV6.out hb7)
  have W7 : Hid (Below w.heap.size w k7) := Below.trans W6.out (hb7.mono W6.out.size)
  clear hb7 HO6 LO6 HT6 LT6 HR6 LR6 XV6 W6 
  have hr := HR.out
  cases dn with
  | false =>
    rw [if_neg (by simp)] at hr
    simp only [Prod.mk.injEq] at hr
    obtain ⟨rfl, rfl, rfl, rfl⟩ := hr
    go_wp2_with (first | refine blk_store rfl 43 _ _ rfl (w.heap.size) rfl (ks .u64 [0, 0, 0, 0] ++ [Value.int .i64 0, .slice none 0 0]) rfl _ HO7.out rfl Try.size_itx rfl ?_)
    intro k8 A8 U8
    have HO8 : Hid (Blk k8 (w.heap.size) (ks .u64 [0, 0, 0, 0] ++ [Value.int .i64 0, .slice none 0 0])) := A8
    have LO8 : Hid (w.heap.size < k8.heap.size) := by show _ < _; rw [U8.size]; exact LO7.out
    have HT8 : Hid (Blk k8 (k2.heap.size) (ks .u64 [a0, a1, a2, a3] ++ [Value.int .i64 D, .slice av nn cv])) := Blk.upd HT7.out U8 (by omega)
    have LT8 : Hid (k2.heap.size < k8.heap.size) := by show _ < _; rw [U8.size]; exact LT7.out
    have HR8 : Hid (Blk k8 (k2.heap.size + 1) [.string r, .bool c]) := Blk.upd HR7.out U8 (by omega)
    have LR8 : Hid (k2.heap.size + 1 < k8.heap.size) := by show _ < _; rw [U8.size]; exact LR7.out
    have W8 : Hid (Below w.heap.size w k8) := Below.trans W7.out (U8.below (by omega))
    clear A8 U8 HO7 LO7 HT7 LT7 HR7 LR7 W7
    go_wp2_with fail
    refine bodyPost_ret (v := .tuple #[TV V.zeros 0 (.slice none 0 0), .bool false]) ?_ rfl ⟨_, rfl, OW.nil _ _ _, W8.out⟩
    exact res_blk2 (t := 43) Try.results31 _ w.heap.size rfl _ HO8.out _ Try.underlying43 rfl Try.size_itx
  | true =>
    go_wp2_with (first | refine blk_loadg rfl 43 _ rfl (k2.heap.size) rfl (ks .u64 [a0, a1, a2, a3] ++ [Value.int .i64 D, .slice av nn cv]) HT7.out _ Try.underlying43 rfl Try.size_itx ?_)
    refine (CW.out _ _ XV7.out.is).mono ?_; rintro e k8 ⟨rfl, hb8⟩
    have HO8 : Hid (Blk k8 (w.heap.size) (ks .u64 [0, 0, 0, 0] ++ [Value.int .i64 0, .slice none 0 0])) := Blk.below HO7.out hb8 LO7.out
    have LO8 : Hid (w.heap.size < k8.heap.size) := Nat.lt_of_lt_of_le LO7.out hb8.size
    have HT8 : Hid (Blk k8 (k2.heap.size) (ks .u64 [a0, a1, a2, a3] ++ [Value.int .i64 D, .slice av nn cv])) := Blk.below HT7.out hb8 LT7.out
    have LT8 : Hid (k2.heap.size < k8.heap.size) := Nat.lt_of_lt_of_le LT7.out hb8.size
    have HR8 : Hid (Blk k8 (k2.heap.size + 1) [.string r, .bool c]) := Blk.below HR7.out hb8 LR7.out
    have LR8 : Hid (k2.heap.size + 1 < k8.heap.size) := Nat.lt_of_lt_of_le LR7.out hb8.size
    have XV8 := Lib.hid (OW.below XV7.out hb8)
    have W8 : Hid (Below w.heap.size w k8) := Below.trans W7.out (hb8.mono W7.out.size)
    clear hb8 HO7 LO7 HT7 LT7 HR7 LR7 XV7 W7 
    cases wh with
    | false =>
      rw [if_neg (by simp)] at hr
      simp only [Prod.mk.injEq] at hr
      obtain ⟨rfl, rfl, rfl, rfl⟩ := hr
      go_wp2_with (first | refine blk_store rfl 43 _ _ rfl (w.heap.size) rfl (ks .u64 [0, 0, 0, 0] ++ [Value.int .i64 0, .slice none 0 0]) rfl _ HO8.out rfl Try.size_itx rfl ?_)
      intro k9 A9 U9
      have HO9 : Hid (Blk k9 (w.heap.size) (ks .u64 [0, 0, 0, 0] ++ [Value.int .i64 0, .slice none 0 0])) := A9
      have LO9 : Hid (w.heap.size < k9.heap.size) := by show _ < _; rw [U9.size]; exact LO8.out
      have HT9 : Hid (Blk k9 (k2.heap.size) (ks .u64 [a0, a1, a2, a3] ++ [Value.int .i64 D, .slice av nn cv])) := Blk.upd HT8.out U9 (by omega)
      have LT9 : Hid (k2.heap.size < k9.heap.size) := by show _ < _; rw [U9.size]; exact LT8.out
      have HR9 : Hid (Blk k9 (k2.heap.size + 1) [.string r, .bool c]) := Blk.upd HR8.out U9 (by omega)
      have LR9 : Hid (k2.heap.size + 1 < k9.heap.size) := by show _ < _; rw [U9.size]; exact LR8.out
      have W9 : Hid (Below w.heap.size w k9) := Below.trans W8.out (U9.below (by omega))
      clear A9 U9 HO8 LO8 HT8 LT8 HR8 LR8 W8
      go_wp2_with fail
      refine bodyPost_ret (v := .tuple #[TV V.zeros 0 (.slice none 0 0), .bool false]) ?_ rfl ⟨_, rfl, OW.nil _ _ _, W9.out⟩
      exact res_blk2 (t := 43) Try.results31 _ w.heap.size rfl _ HO9.out _ Try.underlying43 rfl Try.size_itx
    | true =>
      rw [if_pos (by simp)] at hr
      simp only [Prod.mk.injEq] at hr
      obtain ⟨rfl, rfl, rfl, rfl⟩ := hr
      go_wp2_with (first | refine blk_load rfl 43 _ rfl (k2.heap.size) rfl (ks .u64 [a0, a1, a2, a3] ++ [Value.int .i64 D, .slice av nn cv]) HT8.out _ Try.underlying43 rfl Try.size_itx ?_ | refine blk_store rfl 43 _ _ rfl (w.heap.size) rfl (ks .u64 [a0, a1, a2, a3] ++ [Value.int .i64 D, .slice av nn cv]) rfl _ HO8.out rfl Try.size_itx rfl ?_)
      intro k9 A9 U9
      have HO9 : Hid (Blk k9 (w.heap.size) (ks .u64 [a0, a1, a2, a3] ++ [Value.int .i64 D, .slice av nn cv])) := A9
      have LO9 : Hid (w.heap.size < k9.heap.size) := by show _ < _; rw [U9.size]; exact LO8.out
      have HT9 : Hid (Blk k9 (k2.heap.size) (ks .u64 [a0, a1, a2, a3] ++ [Value.int .i64 D, .slice av nn cv])) := Blk.upd HT8.out U9 (by omega)
      have LT9 : Hid (k2.heap.size < k9.heap.size) := by show _ < _; rw [U9.size]; exact LT8.out
      have HR9 : Hid (Blk k9 (k2.heap.size + 1) [.string r, .bool c]) := Blk.upd HR8.out U9 (by omega)
      have LR9 : Hid (k2.heap.size + 1 < k9.heap.size) := by show _ < _; rw [U9.size]; exact LR8.out
      have XV9 := Lib.hid (OW.far2 XV8.out U9 (by omega))
      have W9 : Hid (Below w.heap.size w k9) := Below.trans W8.out (U9.below (by omega))
      clear A9 U9 HO8 LO8 HT8 LT8 HR8 LR8 XV8 W8
      go_wp2_with fail
      refine bodyPost_ret (v := .tuple #[TV [a0, a1, a2, a3] D (.slice av nn cv), .bool true]) ?_ rfl ⟨_, rfl, OW.mono XV9.out (by omega), W9.out⟩
      exact res_blk2 (t := 43) Try.results31 _ w.heap.size rfl _ HO9.out _ Try.underlying43 rfl Try.size_itx
end Go.Proofs.Ytkfcbihofipcbaa.It
