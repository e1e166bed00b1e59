/- The program's item: getTxn. -/
import Derived.Test.YtkfcbihofipcbaaItemF

import Derived.Test.YtkfcbihofipcbaaItemTx

namespace Go.Proofs.Ytkfcbihofipcbaa.It

open Go.RowKit Go.Proofs.Ytkfcbihofipcbaa.Vc Go.Proofs.Ytkfcbihofipcbaa.Sp

set_option linter.unusedVariables false

set_option linter.unusedSimpArgs false

set_option maxRecDepth 100000

theorem Try.info_itx : (Try.prog.info? 43).map (fun i => (i.zero, i.size)) = some (some (.agg (ks .u64 [0, 0, 0, 0] ++ [Value.int .i64 0, .slice none 0 0]).toArray), (ks .u64 [0, 0, 0, 0] ++ [Value.int .i64 0, .slice none 0 0]).length) := by kernel_rfl
section

variable {P : Program} {ops : Array Oper} {rest : List Oper} {o : Oper} {a : Act} {w : World} {Q : Exit → Act → World → Prop}

/-- a stamp is stored into the first field of a transaction -/
theorem stamp_store (hgd : o.guard = none) (t : TypeId) (x y : Operand) (ho : o.op = .store t x y) (b : Nat) (hx : a.eval x = .pointer (some ⟨b, 0, none⟩)) (y0 y1 y2 y3 : Nat) (D : Int) (hy : a.eval y = SV [y0, y1, y2, y3] D)
    (x0 x1 x2 x3 : Nat) (E : Int) (v : Value) (hb : Blk w b (ks .u64 [x0, x1, x2, x3] ++ [Value.int .i64 E, v])) (hi : (P.info? t).map (·.size) = some 5)
    (h : ∀ w', Blk w' b (ks .u64 [y0, y1, y2, y3] ++ [Value.int .i64 D, v]) → Upd b w w' → wpList P ops Q rest (a.put o.dst undef) w') : wpList P ops Q (o :: rest) a w := by
  have hth : w.there b 0 5 := fun j hj => hb.2 j (by simp [ks]; omega)
  refine wpList_store_mid hgd t x y ho b 0 (ks .u64 [y0, y1, y2, y3] ++ [Value.int .i64 D]).toArray hx hy (by exact hth) (by exact hi) (all_oneCell_toArray (fun v hv => by simp [ks] at hv; rcases hv with rfl | rfl | rfl | rfl | rfl <;> rfl)) (h _ ?_ (Upd.setCells b _ 0 w))
  have s0 := Blk.setc hb 0 (by simp [ks]) (.int .u64 (y0 : Int))
  have s1 := Blk.setc s0 1 (by simp [ks]) (.int .u64 (y1 : Int))
  have s2 := Blk.setc s1 2 (by simp [ks]) (.int .u64 (y2 : Int))
  have s3 := Blk.setc s2 3 (by simp [ks]) (.int .u64 (y3 : Int))
  have s4 := Blk.setc s3 4 (by simp [ks]) (.int .i64 D)
  exact s4
end

theorem getW_size (s : ByteArray) (b : Bool) : (I.getW s b).2.1.size ≤ s.size := by
  have h1 := RT_size' s b 16
  have h2 := RT_size' (P.RT s b 16).2.1 (P.RT s b 16).2.2 16
  have h3 := Pk.RN_size (P.RT (P.RT s b 16).2.1 (P.RT s b 16).2.2 16).2.1 (P.RT (P.RT s b 16).2.1 (P.RT s b 16).2.2 16).2.2 1
  have h4 := RT_size' (P.RN (P.RT (P.RT s b 16).2.1 (P.RT s b 16).2.2 16).2.1 (P.RT (P.RT s b 16).2.1 (P.RT s b 16).2.2 16).2.2 1).2.1 (P.RN (P.RT (P.RT s b 16).2.1 (P.RT s b 16).2.2 16).2.1 (P.RT (P.RT s b 16).2.1 (P.RT s b 16).2.2 16).2.2 1).2.2 32
  unfold I.getW
  split
  · show (P.RT _ _ _).2.1.size ≤ _; omega
  · split
    · show (P.RN _ _ _).2.1.size ≤ _; omega
    · exact Nat.zero_le _
set_option maxHeartbeats 16000000 in
theorem gett_any (s : ByteArray) (A : List Nat) (D1 : Int) (LR : List I.Wt) (r : ByteArray) (c : Bool) (w : World) (hs : s.size ≤ maxLen) (h : I.getT s = (A, D1, LR, r, c)) :
    Calls Try.prog 52 #[.agg #[.string s, .bool false]] w fun e w' => ∃ v, e = .returned (.tuple #[TV A D1 v, .agg #[.string r, .bool c]]) ∧ OW 23 w' w.heap.size v LR ∧ Below w.heap.size w w' := by
  rcases hg0 : T.gets s false with ⟨A0, D, r0, c0⟩
  have hA0 : V.Ok A0 := by have := T.gets_ok s false; rw [hg0] at this; exact this
  have hr0 : r0.size ≤ maxLen := by have := gets_size s false; rw [hg0] at this; exact Nat.le_trans this hs
  rcases hn0 : P.RN r0 c0 1 with ⟨m, r1, c1⟩
  have hm := T.RN_lt r0 c0 m r1 c1 hn0
  have hr1 : r1.size ≤ maxLen := by have := Pk.RN_size r0 c0 1; rw [hn0] at this; exact Nat.le_trans this hr0
  have HG : Hid (A0 = A ∧ D = D1 ∧ I.getWs m r1 c1 = (LR, r, c)) := by
    unfold I.getT at h
    simp only [hg0, hn0, Prod.mk.injEq] at h
    exact ⟨h.1, h.2.1, h.2.2⟩
  obtain ⟨rfl, rfl, hws⟩ := HG.out
  have HWS := Lib.hid hws
  obtain ⟨a0, a1, a2, a3, rfl⟩ := V.four hA0.len
  have CG := Lib.hid (fun w => sget_any s false [a0, a1, a2, a3] D r0 c0 w hs hg0)
  have CN := Lib.hid (fun w => Pk.rnumber_any r0 c0 1 m r1 c1 w hr0 hn0)
  clear h hg0 hn0 hs hr0 HG hws hA0
  go_enter Try.func52, Try.ntmps52
  have W0 : Hid (Below w.heap.size w w) := Below.refl _ _
  go_wp2_with (first | refine blk_box rfl 94 _ rfl [.string s, .bool false] rfl ?_)
  intro k1 A1 B1 Z1
  go_wp2_with (first | refine blk_alloc rfl 43 (ks .u64 [0, 0, 0, 0] ++ [Value.int .i64 0, .slice none 0 0]) rfl Try.info_itx ?_)
  intro k2 A2 B2 Z2
  go_wp2_with (first | refine blk_alloc rfl 94 [.string ⟨#[]⟩, .bool false] rfl Try.info_rd ?_)
  intro k3 A3 B3 Z3
  go_wp2_with (first | refine blk_alloc rfl 43 (ks .u64 [0, 0, 0, 0] ++ [Value.int .i64 0, .slice none 0 0]) rfl Try.info_itx ?_)
  intro k4 A4 B4 Z4
  have hb4 : Below w.heap.size w k4 := (((B1).trans (B2.mono (by omega))).trans (B3.mono (by omega))).trans (B4.mono (by omega))
  have HR4_ : Hid (Blk k4 (w.heap.size) [.string s, .bool false]) := (((A1).below B2 (by omega)).below B3 (by omega)).below B4 (by omega)
  have LR4_ : Hid (w.heap.size < k4.heap.size) := by show _ < _; omega
  have HO4_ : Hid (Blk k4 (w.heap.size + 1) (ks .u64 [0, 0, 0, 0] ++ [Value.int .i64 0, .slice none 0 0])) := ((A2).below B3 (by omega)).below B4 (by omega)
  have LO4_ : Hid (w.heap.size + 1 < k4.heap.size) := by show _ < _; omega
  have HQ4_ : Hid (Blk k4 (w.heap.size + 2) [.string ⟨#[]⟩, .bool false]) := (A3).below B4 (by omega)
  have LQ4_ : Hid (w.heap.size + 2 < k4.heap.size) := by show _ < _; omega
  have HT4_ : Hid (Blk k4 (w.heap.size + 3) (ks .u64 [0, 0, 0, 0] ++ [Value.int .i64 0, .slice none 0 0])) := A4
  have LT4_ : Hid (w.heap.size + 3 < k4.heap.size) := by show _ < _; omega
  have W4 : Hid (Below w.heap.size w k4) := Below.trans W0.out (hb4.mono W0.out.size)
  have HR4 := HR4_
  have LR4 := LR4_
  have HO4 := HO4_
  have LO4 := LO4_
  have HQ4 := HQ4_
  have LQ4 := LQ4_
  have HT4 := HT4_
  have LT4 := LT4_
  clear hb4 A1 B1 Z1 A2 B2 Z2 A3 B3 Z3 A4 B4 Z4 W0 HR4_ LR4_ HO4_ LO4_ HQ4_ LQ4_ HT4_ LT4_
  go_wp2_with (first | refine blk_load rfl 94 _ rfl (w.heap.size) rfl [.string s, .bool false] HR4.out _ Try.underlying94 rfl Try.size_rd ?_)
  refine (CG.out _).mono ?_; rintro e k5 ⟨rfl, hb5⟩
  have HR5 : Hid (Blk k5 (w.heap.size) [.string s, .bool false]) := Blk.below HR4.out hb5 LR4.out
  have LR5 : Hid (w.heap.size < k5.heap.size) := Nat.lt_of_lt_of_le LR4.out hb5.size
  have HO5 : Hid (Blk k5 (w.heap.size + 1) (ks .u64 [0, 0, 0, 0] ++ [Value.int .i64 0, .slice none 0 0])) := Blk.below HO4.out hb5 LO4.out
  have LO5 : Hid (w.heap.size + 1 < k5.heap.size) := Nat.lt_of_lt_of_le LO4.out hb5.size
  have HQ5 : Hid (Blk k5 (w.heap.size + 2) [.string ⟨#[]⟩, .bool false]) := Blk.below HQ4.out hb5 LQ4.out
  have LQ5 : Hid (w.heap.size + 2 < k5.heap.size) := Nat.lt_of_lt_of_le LQ4.out hb5.size
  have HT5 : Hid (Blk k5 (w.heap.size + 3) (ks .u64 [0, 0, 0, 0] ++ [Value.int .i64 0, .slice none 0 0])) := Blk.below HT4.out hb5 LT4.out
  have LT5 : Hid (w.heap.size + 3 < k5.heap.size) := Nat.lt_of_lt_of_le LT4.out hb5.size
  have W5 : Hid (Below w.heap.size w k5) := Below.trans W4.out (hb5.mono W4.out.size)
  clear hb5 HR4 LR4 HO4 LO4 HQ4 LQ4 HT4 LT4 W4 
  go_wp2_with (first | refine stamp_store rfl 30 _ _ rfl (w.heap.size + 3) rfl a0 a1 a2 a3 D rfl 0 0 0 0 0 _ HT5.out Try.size_s ?_)
  intro k6 A6 U6
  have HR6 : Hid (Blk k6 (w.heap.size) [.string s, .bool false]) := Blk.upd HR5.out U6 (by omega)
  have LR6 : Hid (w.heap.size < k6.heap.size) := by show _ < _; rw [U6.size]; exact LR5.out
  have HO6 : Hid (Blk k6 (w.heap.size + 1) (ks .u64 [0, 0, 0, 0] ++ [Value.int .i64 0, .slice none 0 0])) := Blk.upd HO5.out U6 (by omega)
  have LO6 : Hid (w.heap.size + 1 < k6.heap.size) := by show _ < _; rw [U6.size]; exact LO5.out
  have HQ6 : Hid (Blk k6 (w.heap.size + 2) [.string ⟨#[]⟩, .bool false]) := Blk.upd HQ5.out U6 (by omega)
  have LQ6 : Hid (w.heap.size + 2 < k6.heap.size) := by show _ < _; rw [U6.size]; exact LQ5.out
  have HT6 : Hid (Blk k6 (w.heap.size + 3) (ks .u64 [a0, a1, a2, a3] ++ [Value.int .i64 D, .slice none 0 0])) := A6
  have LT6 : Hid (w.heap.size + 3 < k6.heap.size) := by show _ < _; rw [U6.size]; exact LT5.out
  have W6 : Hid (Below w.heap.size w k6) := Below.trans W5.out (U6.below (by omega))
  clear A6 U6 HR5 LR5 HO5 LO5 HQ5 LQ5 HT5 LT5 W5
  go_wp2_with (first | refine blk_store rfl 94 _ _ rfl (w.heap.size) rfl [.string r0, .bool c0] rfl _ HR6.out rfl Try.size_rd rfl ?_)
  intro k7 A7 U7
  have HR7 : Hid (Blk k7 (w.heap.size) [.string r0, .bool c0]) := A7
  have LR7 : Hid (w.heap.size < k7.heap.size) := by show _ < _; rw [U7.size]; exact LR6.out
  have HO7 : Hid (Blk k7 (w.heap.size + 1) (ks .u64 [0, 0, 0, 0] ++ [Value.int .i64 0, .slice none 0 0])) := Blk.upd HO6.out U7 (by omega)
  have LO7 : Hid (w.heap.size + 1 < k7.heap.size) := by show _ < _; rw [U7.size]; exact LO6.out
  have HQ7 : Hid (Blk k7 (w.heap.size + 2) [.string ⟨#[]⟩, .bool false]) := Blk.upd HQ6.out U7 (by omega)
  have LQ7 : Hid (w.heap.size + 2 < k7.heap.size) := by show _ < _; rw [U7.size]; exact LQ6.out
  have HT7 : Hid (Blk k7 (w.heap.size + 3) (ks .u64 [a0, a1, a2, a3] ++ [Value.int .i64 D, .slice none 0 0])) := Blk.upd HT6.out U7 (by omega)
  have LT7 : Hid (w.heap.size + 3 < k7.heap.size) := by show _ < _; rw [U7.size]; exact LT6.out
  have W7 : Hid (Below w.heap.size w k7) := Below.trans W6.out (U7.below (by omega))
  clear A7 U7 HR6 LR6 HO6 LO6 HQ6 LQ6 HT6 LT6 W6
  go_wp2_with (first | refine blk_load rfl 94 _ rfl (w.heap.size) rfl [.string r0, .bool c0] HR7.out _ Try.underlying94 rfl Try.size_rd ?_)
  refine (CN.out _).mono ?_; rintro e k8 ⟨rfl, hb8⟩
  have HR8 : Hid (Blk k8 (w.heap.size) [.string r0, .bool c0]) := Blk.below HR7.out hb8 LR7.out
  have LR8 : Hid (w.heap.size < k8.heap.size) := Nat.lt_of_lt_of_le LR7.out hb8.size
  have HO8 : Hid (Blk k8 (w.heap.size + 1) (ks .u64 [0, 0, 0, 0] ++ [Value.int .i64 0, .slice none 0 0])) := Blk.below HO7.out hb8 LO7.out
  have LO8 : Hid (w.heap.size + 1 < k8.heap.size) := Nat.lt_of_lt_of_le LO7.out hb8.size
  have HQ8 : Hid (Blk k8 (w.heap.size + 2) [.string ⟨#[]⟩, .bool false]) := Blk.below HQ7.out hb8 LQ7.out
  have LQ8 : Hid (w.heap.size + 2 < k8.heap.size) := Nat.lt_of_lt_of_le LQ7.out hb8.size
  have HT8 : Hid (Blk k8 (w.heap.size + 3) (ks .u64 [a0, a1, a2, a3] ++ [Value.int .i64 D, .slice none 0 0])) := Blk.below HT7.out hb8 LT7.out
  have LT8 : Hid (w.heap.size + 3 < k8.heap.size) := Nat.lt_of_lt_of_le LT7.out hb8.size
  have W8 : Hid (Below w.heap.size w k8) := Below.trans W7.out (hb8.mono W7.out.size)
  clear hb8 HR7 LR7 HO7 LO7 HQ7 LQ7 HT7 LT7 W7 
  go_wp2_with (first | refine blk_store rfl 94 _ _ rfl (w.heap.size) rfl [.string r1, .bool c1] rfl _ HR8.out rfl Try.size_rd rfl ?_)
  intro k9 A9 U9
  have HR9 : Hid (Blk k9 (w.heap.size) [.string r1, .bool c1]) := A9
  have LR9 : Hid (w.heap.size < k9.heap.size) := by show _ < _; rw [U9.size]; exact LR8.out
  have HO9 : Hid (Blk k9 (w.heap.size + 1) (ks .u64 [0, 0, 0, 0] ++ [Value.int .i64 0, .slice none 0 0])) := Blk.upd HO8.out U9 (by omega)
  have LO9 : Hid (w.heap.size + 1 < k9.heap.size) := by show _ < _; rw [U9.size]; exact LO8.out
  have HQ9 : Hid (Blk k9 (w.heap.size + 2) [.string ⟨#[]⟩, .bool false]) := Blk.upd HQ8.out U9 (by omega)
  have LQ9 : Hid (w.heap.size + 2 < k9.heap.size) := by show _ < _; rw [U9.size]; exact LQ8.out
  have HT9 : Hid (Blk k9 (w.heap.size + 3) (ks .u64 [a0, a1, a2, a3] ++ [Value.int .i64 D, .slice none 0 0])) := Blk.upd HT8.out U9 (by omega)
  have LT9 : Hid (w.heap.size + 3 < k9.heap.size) := by show _ < _; rw [U9.size]; exact LT8.out
  have W9 : Hid (Below w.heap.size w k9) := Below.trans W8.out (U9.below (by omega))
  clear A9 U9 HR8 LR8 HO8 LO8 HQ8 LQ8 HT8 LT8 W8
  have hq : w.heap.size + 3 < k9.heap.size := LT9.out
  have HO0 : Hid (OW 23 k9 (k9.heap.size) (.slice none 0 0) []) := OW.nil _ _ _
  go_wp2_with fail
  go_loopw [19] (fun i wr => ∃ (j : Nat) (L : List I.Wt) (s1 : ByteArray) (c1 : Bool) (v : Value), j ≤ m ∧ i = .int .u64 j ∧ Hid ((L ++ (I.getWs (m - j) s1 c1).1, (I.getWs (m - j) s1 c1).2) = (LR, r, c)) ∧ Hid (s1.size ≤ maxLen ∧ L.length = j) ∧ Hid (OW 23 wr (k9.heap.size) v L) ∧ Hid (Blk wr (w.heap.size) [.string s1, .bool c1]) ∧ Hid (Blk wr (w.heap.size + 1) (ks .u64 [0, 0, 0, 0] ++ [Value.int .i64 0, .slice none 0 0])) ∧ Hid (Blk wr (w.heap.size + 2) [.string ⟨#[]⟩, .bool false]) ∧ Hid (Blk wr (w.heap.size + 3) (ks .u64 [a0, a1, a2, a3] ++ [Value.int .i64 D, v])) ∧ Hid (Below w.heap.size w wr) ∧ Hid (k9.heap.size ≤ wr.heap.size)) (fun i _ => m - (intOf i).toNat)
  case atStart => exact ⟨0, [], r1, c1, _, by omega, rfl, (by show _ = _; rw [← HWS.out]; rfl), ⟨hr1, rfl⟩, HO0, HR9, HO9, HQ9, HT9, W9, Nat.le_refl _⟩
  case round =>
    obtain ⟨j, L, s1, c1, v, hj, rfl, HPj, HSj, XV50, HR50, HO50, HQ50, HT50, W50, HSr⟩ := hrel
    clear HR9 LR9 HO9 LO9 HQ9 LQ9 HT9 LT9 W9 HO0
    have hsr := HSr.out
    have LR50 : Hid (w.heap.size < wr.heap.size) := by show _ < _; omega
    have LO50 : Hid (w.heap.size + 1 < wr.heap.size) := by show _ < _; omega
    have LQ50 : Hid (w.heap.size + 2 < wr.heap.size) := by show _ < _; omega
    have LT50 : Hid (w.heap.size + 3 < wr.heap.size) := by show _ < _; omega
    by_cases hlt : j < m
    · have ilt : (j : Int) < (m : Int) := by omega
      obtain ⟨hs1, hlj⟩ := HSj.out
      have hlen : L.length < 1000000 := by omega
      rcases h1 : I.getW s1 c1 with ⟨x, s2, c2⟩
      have hs2 : s2.size ≤ maxLen := by have := getW_size s1 c1; rw [h1] at this; exact Nat.le_trans this hs1
      have CW := Lib.hid (fun w => getw_any s1 c1 x s2 c2 w hs1 h1)
      have HPn : Hid (((L ++ [x]) ++ (I.getWs (m - (j + 1)) s2 c2).1, (I.getWs (m - (j + 1)) s2 c2).2) = (LR, r, c)) := by
        show _ = _
        rw [← HPj.out, show m - j = (m - (j + 1)) + 1 by omega, I.getWs_step, h1]
        simp
      have HGW : Hid (∀ g o n c, v = .slice (some ⟨g, o, none⟩) n c → g ≠ wr.heap.size) := fun g o n c e => Nat.ne_of_lt (OW.lt XV50.out g o n c e)
      have HSn : Hid (s2.size ≤ maxLen ∧ (L ++ [x]).length = j + 1) := ⟨hs2, by rw [List.length_append]; simp [hlj]⟩
      clear h1 HPj HSj hs1 hlj hs2
      go_wp2_with (first | refine blk_alloc rfl 23 (wc I.none_) rfl Try.info_iw2 ?_)
      intro k51 A51 B51 Z51
      have hb51 : Below wr.heap.size wr k51 := B51
      have HD51_ : Hid (Blk k51 (wr.heap.size) (wc I.none_)) := A51
      have LD51_ : Hid (wr.heap.size < k51.heap.size) := by show _ < _; omega
      have HR51 : Hid (Blk k51 (w.heap.size) [.string s1, .bool c1]) := Blk.below HR50.out hb51 LR50.out
      have LR51 : Hid (w.heap.size < k51.heap.size) := Nat.lt_of_lt_of_le LR50.out hb51.size
      have HO51 : Hid (Blk k51 (w.heap.size + 1) (ks .u64 [0, 0, 0, 0] ++ [Value.int .i64 0, .slice none 0 0])) := Blk.below HO50.out hb51 LO50.out
      have LO51 : Hid (w.heap.size + 1 < k51.heap.size) := Nat.lt_of_lt_of_le LO50.out hb51.size
      have HQ51 : Hid (Blk k51 (w.heap.size + 2) [.string ⟨#[]⟩, .bool false]) := Blk.below HQ50.out hb51 LQ50.out
      have LQ51 : Hid (w.heap.size + 2 < k51.heap.size) := Nat.lt_of_lt_of_le LQ50.out hb51.size
      have HT51 : Hid (Blk k51 (w.heap.size + 3) (ks .u64 [a0, a1, a2, a3] ++ [Value.int .i64 D, v])) := Blk.below HT50.out hb51 LT50.out
      have LT51 : Hid (w.heap.size + 3 < k51.heap.size) := Nat.lt_of_lt_of_le LT50.out hb51.size
      have XV51 := Lib.hid (OW.below XV50.out hb51)
      have W51 : Hid (Below w.heap.size w k51) := Below.trans W50.out (hb51.mono W50.out.size)
      have HD51 := HD51_
      have LD51 := LD51_
      clear hb51 A51 B51 Z51 HR50 LR50 HO50 LO50 HQ50 LQ50 HT50 LT50 XV50 W50 HD51_ LD51_
      go_wp2_with (first | refine blk_load rfl 94 _ rfl (w.heap.size) rfl [.string s1, .bool c1] HR51.out _ Try.underlying94 rfl Try.size_rd ?_)
      refine (CW.out _).mono ?_; rintro e k52 ⟨rfl, hb52⟩
      have HR52 : Hid (Blk k52 (w.heap.size) [.string s1, .bool c1]) := Blk.below HR51.out hb52 LR51.out
      have LR52 : Hid (w.heap.size < k52.heap.size) := Nat.lt_of_lt_of_le LR51.out hb52.size
      have HO52 : Hid (Blk k52 (w.heap.size + 1) (ks .u64 [0, 0, 0, 0] ++ [Value.int .i64 0, .slice none 0 0])) := Blk.below HO51.out hb52 LO51.out
      have LO52 : Hid (w.heap.size + 1 < k52.heap.size) := Nat.lt_of_lt_of_le LO51.out hb52.size
      have HQ52 : Hid (Blk k52 (w.heap.size + 2) [.string ⟨#[]⟩, .bool false]) := Blk.below HQ51.out hb52 LQ51.out
      have LQ52 : Hid (w.heap.size + 2 < k52.heap.size) := Nat.lt_of_lt_of_le LQ51.out hb52.size
      have HT52 : Hid (Blk k52 (w.heap.size + 3) (ks .u64 [a0, a1, a2, a3] ++ [Value.int .i64 D, v])) := Blk.below HT51.out hb52 LT51.out
      have LT52 : Hid (w.heap.size + 3 < k52.heap.size) := Nat.lt_of_lt_of_le LT51.out hb52.size
      have HD52 : Hid (Blk k52 (wr.heap.size) (wc I.none_)) := Blk.below HD51.out hb52 LD51.out
      have LD52 : Hid (wr.heap.size < k52.heap.size) := Nat.lt_of_lt_of_le LD51.out hb52.size
      have XV52 := Lib.hid (OW.below XV51.out hb52)
      have W52 : Hid (Below w.heap.size w k52) := Below.trans W51.out (hb52.mono W51.out.size)
      clear hb52 HR51 LR51 HO51 LO51 HQ51 LQ51 HT51 LT51 HD51 LD51 XV51 W51 
      go_wp2_with (first | refine blk_store rfl 23 _ _ rfl (wr.heap.size) rfl (wc x) rfl _ HD52.out rfl Try.size_w rfl ?_)
      intro k53 A53 U53
      have HR53 : Hid (Blk k53 (w.heap.size) [.string s1, .bool c1]) := Blk.upd HR52.out U53 (by omega)
      have LR53 : Hid (w.heap.size < k53.heap.size) := by show _ < _; rw [U53.size]; exact LR52.out
      have HO53 : Hid (Blk k53 (w.heap.size + 1) (ks .u64 [0, 0, 0, 0] ++ [Value.int .i64 0, .slice none 0 0])) := Blk.upd HO52.out U53 (by omega)
      have LO53 : Hid (w.heap.size + 1 < k53.heap.size) := by show _ < _; rw [U53.size]; exact LO52.out
      have HQ53 : Hid (Blk k53 (w.heap.size + 2) [.string ⟨#[]⟩, .bool false]) := Blk.upd HQ52.out U53 (by omega)
      have LQ53 : Hid (w.heap.size + 2 < k53.heap.size) := by show _ < _; rw [U53.size]; exact LQ52.out
      have HT53 : Hid (Blk k53 (w.heap.size + 3) (ks .u64 [a0, a1, a2, a3] ++ [Value.int .i64 D, v])) := Blk.upd HT52.out U53 (by omega)
      have LT53 : Hid (w.heap.size + 3 < k53.heap.size) := by show _ < _; rw [U53.size]; exact LT52.out
      have HD53 : Hid (Blk k53 (wr.heap.size) (wc x)) := A53
      have LD53 : Hid (wr.heap.size < k53.heap.size) := by show _ < _; rw [U53.size]; exact LD52.out
      have XV53 := Lib.hid (OW.far XV52.out U53 HGW.out)
      have W53 : Hid (Below w.heap.size w k53) := Below.trans W52.out (U53.below (by omega))
      clear A53 U53 HR52 LR52 HO52 LO52 HQ52 LQ52 HT52 LT52 HD52 LD52 XV52 W52
      go_wp2_with (first | refine blk_store rfl 94 _ _ rfl (w.heap.size) rfl [.string s2, .bool c2] rfl _ HR53.out rfl Try.size_rd rfl ?_)
      intro k54 A54 U54
      have HR54 : Hid (Blk k54 (w.heap.size) [.string s2, .bool c2]) := A54
      have LR54 : Hid (w.heap.size < k54.heap.size) := by show _ < _; rw [U54.size]; exact LR53.out
      have HO54 : Hid (Blk k54 (w.heap.size + 1) (ks .u64 [0, 0, 0, 0] ++ [Value.int .i64 0, .slice none 0 0])) := Blk.upd HO53.out U54 (by omega)
      have LO54 : Hid (w.heap.size + 1 < k54.heap.size) := by show _ < _; rw [U54.size]; exact LO53.out
      have HQ54 : Hid (Blk k54 (w.heap.size + 2) [.string ⟨#[]⟩, .bool false]) := Blk.upd HQ53.out U54 (by omega)
      have LQ54 : Hid (w.heap.size + 2 < k54.heap.size) := by show _ < _; rw [U54.size]; exact LQ53.out
      have HT54 : Hid (Blk k54 (w.heap.size + 3) (ks .u64 [a0, a1, a2, a3] ++ [Value.int .i64 D, v])) := Blk.upd HT53.out U54 (by omega)
      have LT54 : Hid (w.heap.size + 3 < k54.heap.size) := by show _ < _; rw [U54.size]; exact LT53.out
      have HD54 : Hid (Blk k54 (wr.heap.size) (wc x)) := Blk.upd HD53.out U54 (by omega)
      have LD54 : Hid (wr.heap.size < k54.heap.size) := by show _ < _; rw [U54.size]; exact LD53.out
      have XV54 := Lib.hid (OW.far2 XV53.out U54 (by omega))
      have W54 : Hid (Below w.heap.size w k54) := Below.trans W53.out (U54.below (by omega))
      clear A54 U54 HR53 LR53 HO53 LO53 HQ53 LQ53 HT53 LT53 HD53 LD53 XV53 W53
      have ct5 := HT54.out.cell 5 _ rfl
      go_wp2_with (first | refine blk_load rfl 23 _ rfl (wr.heap.size) rfl (wc x) HD54.out _ Try.underlying23 rfl Try.size_w ?_ | refine build_iw rfl _ rfl x rfl ?_)
      intro k55 A55 B55 Z55
      have HR55 : Hid (Blk k55 (w.heap.size) [.string s2, .bool c2]) := Blk.below HR54.out B55 LR54.out
      have LR55 : Hid (w.heap.size < k55.heap.size) := Nat.lt_of_lt_of_le LR54.out B55.size
      have HO55 : Hid (Blk k55 (w.heap.size + 1) (ks .u64 [0, 0, 0, 0] ++ [Value.int .i64 0, .slice none 0 0])) := Blk.below HO54.out B55 LO54.out
      have LO55 : Hid (w.heap.size + 1 < k55.heap.size) := Nat.lt_of_lt_of_le LO54.out B55.size
      have HQ55 : Hid (Blk k55 (w.heap.size + 2) [.string ⟨#[]⟩, .bool false]) := Blk.below HQ54.out B55 LQ54.out
      have LQ55 : Hid (w.heap.size + 2 < k55.heap.size) := Nat.lt_of_lt_of_le LQ54.out B55.size
      have HT55 : Hid (Blk k55 (w.heap.size + 3) (ks .u64 [a0, a1, a2, a3] ++ [Value.int .i64 D, v])) := Blk.below HT54.out B55 LT54.out
      have LT55 : Hid (w.heap.size + 3 < k55.heap.size) := Nat.lt_of_lt_of_le LT54.out B55.size
      have HD55 : Hid (Blk k55 (wr.heap.size) (wc x)) := Blk.below HD54.out B55 LD54.out
      have LD55 : Hid (wr.heap.size < k55.heap.size) := Nat.lt_of_lt_of_le LD54.out B55.size
      have XV55 := Lib.hid (OW.below XV54.out B55)
      have W55 : Hid (Below w.heap.size w k55) := Below.trans W54.out (B55.mono W54.out.size)
      have hz5 : k9.heap.size ≤ k55.heap.size := by have := LD55.out; omega
      clear B55 Z55 ct5 HR54 LR54 HO54 LO54 HQ54 LQ54 HT54 LT54 HD54 LD54 XV54 W54
      have ct5 := HT55.out.cell 5 _ rfl
      go_wp2_with (at_builtin; refine append_gen (t := 23) Try.underlying41 Try.info_iw _ rfl _ _ rfl (k9.heap.size) _ _ rfl XV55.out k54.heap.size rfl x A55 ?c2 ?c3 ?_)
      case c2 => exact hlen
      case c3 => omega
      intro v' k56 ho hb hbs
      have HR56 : Hid (Blk k56 (w.heap.size) [.string s2, .bool c2]) := Blk.below HR55.out hb (by omega)
      have LR56 : Hid (w.heap.size < k56.heap.size) := by show _ < _; omega
      have HO56 : Hid (Blk k56 (w.heap.size + 1) (ks .u64 [0, 0, 0, 0] ++ [Value.int .i64 0, .slice none 0 0])) := Blk.below HO55.out hb (by omega)
      have LO56 : Hid (w.heap.size + 1 < k56.heap.size) := by show _ < _; omega
      have HQ56 : Hid (Blk k56 (w.heap.size + 2) [.string ⟨#[]⟩, .bool false]) := Blk.below HQ55.out hb (by omega)
      have LQ56 : Hid (w.heap.size + 2 < k56.heap.size) := by show _ < _; omega
      have HT56 : Hid (Blk k56 (w.heap.size + 3) (ks .u64 [a0, a1, a2, a3] ++ [Value.int .i64 D, v])) := Blk.below HT55.out hb (by omega)
      have LT56 : Hid (w.heap.size + 3 < k56.heap.size) := by show _ < _; omega
      have W56 : Hid (Below w.heap.size w k56) := Below.trans W55.out (hb.mono (by omega))
      obtain ⟨av, cv, ev, _⟩ := ho.is.is
      subst ev
      have XV56 := Lib.hid ho
      have HSz : Hid (k9.heap.size ≤ k56.heap.size) := hbs
      obtain ⟨nn, HNN⟩ : ∃ q, Hid ((L ++ [x]).length = q) := ⟨_, rfl⟩
      rw [HNN.out] at XV56
      rw [HNN.out]
      clear ho hb A55 ct5 HR55 LR55 HO55 LO55 HQ55 LQ55 HT55 LT55 HD55 LD55 W55 XV55 hz5 hbs
      have cf57 := HT56.out.cell 5 _ rfl
      have ff57 := HT56.out.free 5 (by simp [ks])
      have U57 : Upd (w.heap.size + 3) k56 (k56.setCell ⟨w.heap.size + 3, 5, none⟩ (.slice av nn cv)) := Upd.setCell _ _ _ _
      have A57 : Blk (k56.setCell ⟨w.heap.size + 3, 5, none⟩ (.slice av nn cv)) (w.heap.size + 3) (ks .u64 [a0, a1, a2, a3] ++ [Value.int .i64 D, .slice av nn cv]) := Blk.setc HT56.out 5 (by simp [ks]) (.slice av nn cv)
      have HR57 : Hid (Blk (k56.setCell ⟨w.heap.size + 3, 5, none⟩ (.slice av nn cv)) (w.heap.size) [.string s2, .bool c2]) := Blk.upd HR56.out U57 (by omega)
      have LR57 : Hid (w.heap.size < (k56.setCell ⟨w.heap.size + 3, 5, none⟩ (.slice av nn cv)).heap.size) := by show _ < _; rw [U57.size]; exact LR56.out
      have HO57 : Hid (Blk (k56.setCell ⟨w.heap.size + 3, 5, none⟩ (.slice av nn cv)) (w.heap.size + 1) (ks .u64 [0, 0, 0, 0] ++ [Value.int .i64 0, .slice none 0 0])) := Blk.upd HO56.out U57 (by omega)
      have LO57 : Hid (w.heap.size + 1 < (k56.setCell ⟨w.heap.size + 3, 5, none⟩ (.slice av nn cv)).heap.size) := by show _ < _; rw [U57.size]; exact LO56.out
      have HQ57 : Hid (Blk (k56.setCell ⟨w.heap.size + 3, 5, none⟩ (.slice av nn cv)) (w.heap.size + 2) [.string ⟨#[]⟩, .bool false]) := Blk.upd HQ56.out U57 (by omega)
      have LQ57 : Hid (w.heap.size + 2 < (k56.setCell ⟨w.heap.size + 3, 5, none⟩ (.slice av nn cv)).heap.size) := by show _ < _; rw [U57.size]; exact LQ56.out
      have HT57 : Hid (Blk (k56.setCell ⟨w.heap.size + 3, 5, none⟩ (.slice av nn cv)) (w.heap.size + 3) (ks .u64 [a0, a1, a2, a3] ++ [Value.int .i64 D, .slice av nn cv])) := A57
      have LT57 : Hid (w.heap.size + 3 < (k56.setCell ⟨w.heap.size + 3, 5, none⟩ (.slice av nn cv)).heap.size) := by show _ < _; rw [U57.size]; exact LT56.out
      have XV57 := Lib.hid (OW.far2 XV56.out U57 (by omega))
      have W57 : Hid (Below w.heap.size w (k56.setCell ⟨w.heap.size + 3, 5, none⟩ (.slice av nn cv))) := Below.trans W56.out (U57.below (by omega))
      clear A57 U57 HR56 LR56 HO56 LO56 HQ56 LQ56 HT56 LT56 XV56 W56
      have HSy : Hid (k9.heap.size ≤ (k56.setCell ⟨w.heap.size + 3, 5, none⟩ (.slice av nn cv)).heap.size) := by show _ ≤ _; rw [(Upd.setCell k56 (w.heap.size + 3) 5 (.slice av nn cv)).size]; exact HSz.out
      go_wp2_with fail
      go_roundw
      case rel => exact ⟨j + 1, L ++ [x], s2, c2, _, by omega, by go_num, HPn, HSn, XV57, HR57, HO57, HQ57, HT57, W57, HSy⟩
      case measure => simp [intOf]; omega
    · obtain rfl : j = m := by omega
      have hfin := HPj.out
      rw [Nat.sub_self] at hfin
      simp only [I.getWs, List.append_nil, Prod.mk.injEq] at hfin
      obtain ⟨rfl, rfl, rfl⟩ := hfin
      clear HPj
      obtain ⟨av, cv, ev, _⟩ := XV50.out.is.is
      subst ev
      obtain ⟨nn, HNN⟩ : ∃ q, Hid (L.length = q) := ⟨_, rfl⟩
      rw [HNN.out] at XV50 HT50
      try rw [HNN.out]
      go_wp2_with fail
      have a_0 := HT50.out.cell 0 _ rfl
      have a_1 := HT50.out.cell 1 _ rfl
      have a_2 := HT50.out.cell 2 _ rfl
      have a_3 := HT50.out.cell 3 _ rfl
      have a_4 := HT50.out.cell 4 _ rfl
      have a_5 := HT50.out.cell 5 _ rfl
      have r_0 := HR50.out.cell 0 _ rfl
      have r_1 := HR50.out.cell 1 _ rfl
      have o_0 := HO50.out.cell 0 _ rfl
      have p_0 := HO50.out.free 0 (by simp [ks])
      have o_1 := HO50.out.cell 1 _ rfl
      have p_1 := HO50.out.free 1 (by simp [ks])
      have o_2 := HO50.out.cell 2 _ rfl
      have p_2 := HO50.out.free 2 (by simp [ks])
      have o_3 := HO50.out.cell 3 _ rfl
      have p_3 := HO50.out.free 3 (by simp [ks])
      have o_4 := HO50.out.cell 4 _ rfl
      have p_4 := HO50.out.free 4 (by simp [ks])
      have o_5 := HO50.out.cell 5 _ rfl
      have p_5 := HO50.out.free 5 (by simp [ks])
      have q_0 := HQ50.out.cell 0 _ rfl
      have v_0 := HQ50.out.free 0 (by simp)
      have q_1 := HQ50.out.cell 1 _ rfl
      have v_1 := HQ50.out.free 1 (by simp)
      go_region
      all_goals
        have U8 : Upd (w.heap.size + 1) wr (wr.setCells (w.heap.size + 1) 0 [Value.int .u64 (a0 : Int), .int .u64 (a1 : Int), .int .u64 (a2 : Int), .int .u64 (a3 : Int), .int .i64 D, .slice av nn cv]) := Upd.setCells _ _ _ _
        have A8 : Blk (wr.setCells (w.heap.size + 1) 0 [Value.int .u64 (a0 : Int), .int .u64 (a1 : Int), .int .u64 (a2 : Int), .int .u64 (a3 : Int), .int .i64 D, .slice av nn cv]) (w.heap.size + 1) [Value.int .u64 (a0 : Int), .int .u64 (a1 : Int), .int .u64 (a2 : Int), .int .u64 (a3 : Int), .int .i64 D, .slice av nn cv] := Blk.store HO50.out _ rfl
        have Q8 : Blk (wr.setCells (w.heap.size + 1) 0 [Value.int .u64 (a0 : Int), .int .u64 (a1 : Int), .int .u64 (a2 : Int), .int .u64 (a3 : Int), .int .i64 D, .slice av nn cv]) (w.heap.size + 2) [.string ⟨#[]⟩, .bool false] := Blk.upd HQ50.out U8 (by omega)
        have U9 : Upd (w.heap.size + 2) _ ((wr.setCells (w.heap.size + 1) 0 [Value.int .u64 (a0 : Int), .int .u64 (a1 : Int), .int .u64 (a2 : Int), .int .u64 (a3 : Int), .int .i64 D, .slice av nn cv]).setCells (w.heap.size + 2) 0 [Value.string s1, .bool c1]) := Upd.setCells _ _ _ _
        have HB9 : Hid (Blk ((wr.setCells (w.heap.size + 1) 0 [Value.int .u64 (a0 : Int), .int .u64 (a1 : Int), .int .u64 (a2 : Int), .int .u64 (a3 : Int), .int .i64 D, .slice av nn cv]).setCells (w.heap.size + 2) 0 [Value.string s1, .bool c1]).drew (w.heap.size + 2) [Value.string s1, .bool c1]) := (Q8.store [Value.string s1, .bool c1] rfl).drew
        have HA9 : Hid (Blk ((wr.setCells (w.heap.size + 1) 0 [Value.int .u64 (a0 : Int), .int .u64 (a1 : Int), .int .u64 (a2 : Int), .int .u64 (a3 : Int), .int .i64 D, .slice av nn cv]).setCells (w.heap.size + 2) 0 [Value.string s1, .bool c1]).drew (w.heap.size + 1) [Value.int .u64 (a0 : Int), .int .u64 (a1 : Int), .int .u64 (a2 : Int), .int .u64 (a3 : Int), .int .i64 D, .slice av nn cv]) := (Blk.upd A8 U9 (by omega)).drew
        have HW9 : Hid (Below w.heap.size w ((wr.setCells (w.heap.size + 1) 0 [Value.int .u64 (a0 : Int), .int .u64 (a1 : Int), .int .u64 (a2 : Int), .int .u64 (a3 : Int), .int .i64 D, .slice av nn cv]).setCells (w.heap.size + 2) 0 [Value.string s1, .bool c1]).drew) := ((Below.trans W50.out (U8.below (by omega))).trans (U9.below (by omega))).drew
        have HO9 := Lib.hid (OW.drew (OW.far2 (OW.far2 XV50.out U8 (by omega)) U9 (by omega)))
        clear U8 A8 Q8 U9 a_0 o_0 p_0 a_1 o_1 p_1 a_2 o_2 p_2 a_3 o_3 p_3 a_4 o_4 p_4 a_5 o_5 p_5 r_0 q_0 v_0 r_1 q_1 v_1
        go_wp2_with fail
        refine bodyPost_ret (v := .tuple #[.agg [Value.int .u64 (a0 : Int), .int .u64 (a1 : Int), .int .u64 (a2 : Int), .int .u64 (a3 : Int), .int .i64 D, .slice av nn cv].toArray, .agg [Value.string s1, .bool c1].toArray]) ?_ rfl ⟨_, rfl, OW.mono HO9.out (by omega), HW9.out⟩
        exact res_two Try.results52 _ (w.heap.size + 1) (w.heap.size + 2) rfl rfl _ HA9.out _ Try.underlying43 rfl Try.size_itx _ HB9.out _ Try.underlying94 rfl Try.size_rd
end Go.Proofs.Ytkfcbihofipcbaa.It
