/- The document's own answer to chapter 8: Read. -/
import Derived.Test.YtkfcbihofipcbaaItemRD

import Derived.Test.YtkfcbihofipcbaaStampRC

import Derived.Test.YtkfcbihofipcbaaPackRefText

namespace Go.Proofs.Ytkfcbihofipcbaa.It

open Go.RowKit Go.Proofs.Ytkfcbihofipcbaa.Vc Go.Proofs.Ytkfcbihofipcbaa.Sp

set_option linter.unusedVariables false

set_option linter.unusedSimpArgs false

set_option maxRecDepth 100000

theorem Try.info_tx : (Try.prog.info? 52).map (fun i => (i.zero, i.size)) = some (some (.agg (ks .u64 (List.replicate 4 0) ++ [Value.int .i64 0, .slice none 0 0]).toArray), (ks .u64 (List.replicate 4 0) ++ [Value.int .i64 0, .slice none 0 0]).length) := by kernel_rfl
theorem OW.far {t : TypeId} {w w' : World} {base b : Nat} {v : Value} {L : List I.Wt} (h : OW t w base v L) (hu : Upd b w w') (hg : ∀ g o n c, v = .slice (some ⟨g, o, none⟩) n c → g ≠ b) : OW t w' base v L := by
  obtain ⟨⟨hl, h0 | ⟨g, cap, cur, hv, hB, hh, r⟩⟩⟩ := h
  · exact ⟨⟨hl, .inl h0⟩⟩
  · exact ⟨⟨hl, .inr ⟨g, cap, cur, hv, hB, by rw [hu.far g (hg _ _ _ _ hv)]; exact hh, r⟩⟩⟩
theorem OW.far2 {t : TypeId} {w w' : World} {base b : Nat} {v : Value} {L : List I.Wt} (h : OW t w base v L) (hu : Upd b w w') (hb : b < base) : OW t w' base v L := by
  obtain ⟨⟨hl, h0 | ⟨g, cap, cur, hv, hB, hh, r⟩⟩⟩ := h
  · exact ⟨⟨hl, .inl h0⟩⟩
  · exact ⟨⟨hl, .inr ⟨g, cap, cur, hv, hB, by rw [hu.far g (by omega)]; exact hh, r⟩⟩⟩
theorem OW.lt {t : TypeId} {w : World} {base : Nat} {v : Value} {L : List I.Wt} (h : OW t w base v L) : ∀ g o n c, v = .slice (some ⟨g, o, none⟩) n c → g < w.heap.size := by
  intro g o n c e
  obtain ⟨hl, h0 | ⟨g', cap, cur, hv, hB, hh, r⟩⟩ := h.own
  · rw [h0.1] at e; cases e
  · rw [hv] at e
    simp only [Value.slice.injEq, Option.some.injEq, Addr.mk.injEq, and_true] at e
    obtain ⟨⟨rfl, _⟩, _⟩ := e
    rcases Nat.lt_or_ge g' w.heap.size with h1 | h1
    · exact h1
    · rw [Array.getElem?_eq_none h1] at hh; cases hh
theorem kept3 {w0 w : World} {a b c : Nat} {xs ys zs : List Value} (hU : Below w0.heap.size w0 w) (ha : Blk w a xs) (hb : Blk w b ys) (hc : Blk w c zs) (la : a < w.heap.size) (lb : b < w.heap.size) (lc : c < w.heap.size) : Kept w0 w [(a, xs), (b, ys), (c, zs)] := by
  refine ⟨hU, fun p hp => ?_⟩
  simp only [List.mem_cons, List.not_mem_nil, or_false] at hp
  rcases hp with rfl | rfl | rfl
  · exact ⟨ha, la⟩
  · exact ⟨hb, lb⟩
  · exact ⟨hc, lc⟩
theorem one_tx {t : TypeId} {w : World} {base : Nat} {v : Value} {L : List I.Wt} {a0 a1 a2 a3 : Nat} {D : Int} (h : OW t w base v L) : (ks .u64 [a0, a1, a2, a3] ++ [Value.int .i64 D, v]).all (fun v => v.oneCell') = true := by
  obtain ⟨a, cap, rfl, _⟩ := h.is.is
  rfl
theorem gets_size (s : ByteArray) (b : Bool) : (T.gets s b).2.2.1.size ≤ s.size := by
  unfold T.gets
  split
  · exact Nat.zero_le _
  · exact Nat.le_trans (V.gets_ok _ _).2 (Pk.RN_size s b 1)
theorem RT_size' (s : ByteArray) (b : Bool) (most : Int) : (P.RT s b most).2.1.size ≤ s.size := Pk.RT_size s b most
set_option maxHeartbeats 16000000 in
theorem ref_read (s : ByteArray) (w : World) (hs : s.size ≤ maxLen) (A : List Nat) (E : Int) (LR : List I.Wt) (ok : Bool) (h : I.read s = (A, E, LR, ok)) :
    Calls Try.prog 32 #[.string s] w fun e w' => ∃ v, e = .returned (.tuple #[TV A E v, .bool ok]) ∧ OW 38 w' w.heap.size v LR ∧ Below w.heap.size w w' := by
  rcases hg0 : T.gets s false with ⟨A0, D, r0, c0⟩
  have hA0 : V.Ok A0 := by have := T.gets_ok s false; rw [hg0] at this; exact this
  have CG := Lib.hid (fun w => ref_sget s false A0 D r0 c0 w hs hg0)
  have hr0 : r0.size ≤ maxLen := by have := gets_size s false; rw [hg0] at this; exact Nat.le_trans this hs
  rcases hn0 : P.RN r0 c0 1 with ⟨m, r1, c1⟩
  have hm := T.RN_lt r0 c0 m r1 c1 hn0
  have hr1 : r1.size ≤ maxLen := by have := Pk.RN_size r0 c0 1; rw [hn0] at this; exact Nat.le_trans this hr0
  have CN := Lib.hid (fun w => Pk.ref_rnumber_any r0 c0 1 m r1 c1 w hr0 hn0)
  have HP : Hid (I.parse s = (A0, D, I.rdWs (min m 9) r1 c1)) := by
    show _ = _
    unfold I.parse
    rw [hg0]
    simp only [hn0]
  have HRD : Hid ((if I.whole A0 D (I.rdWs (min m 9) r1 c1) = true ∧ I.bytesS A0 D (I.rdWs (min m 9) r1 c1) = s then (A0, D, I.rdWs (min m 9) r1 c1, true) else (V.zeros, 0, [], false)) = (A, E, LR, ok)) := by
    rw [← h]
    show _ = I.read s
    unfold I.read
    rw [HP.out]
  have COK := Lib.hid hA0
  clear h hg0 hn0 hs hr0
  obtain ⟨a0, a1, a2, a3, rfl⟩ := V.four hA0.len
  have HA : Hid ([a0, a1, a2, a3].length = 4) := rfl
  clear hA0 HP
  obtain ⟨K, HK⟩ : ∃ K, Hid (min m 9 = K) := ⟨_, rfl⟩
  rw [HK.out] at HRD
  have hKm : K ≤ m := by rw [← HK.out]; exact Nat.min_le_left _ _
  have hK9 : K ≤ 9 := by rw [← HK.out]; exact Nat.min_le_right _ _
  have hKe : K = m ∨ K = 9 := by rw [← HK.out]; omega
  clear HK
  go_enter Try.func32, Try.ntmps32
  have M0 : Hid (Kept w w []) := Kept.start w
  go_wp2_with (first | refine blk_alloc rfl 52 (ks .u64 (List.replicate 4 0) ++ [Value.int .i64 0, .slice none 0 0]) rfl Try.info_tx ?_)
  intro k1 A1 B1 Z1
  have M2 : Hid (Kept w k1 [(w.heap.size, (ks .u64 (List.replicate 4 0) ++ [Value.int .i64 0, .slice none 0 0]))]) := Kept.new M0.out B1 Z1 A1
  have LH : Hid (w.heap.size < k1.heap.size) := by show _ < _; omega
  clear A1 B1 Z1 M0
  go_wp2_with fail
  refine (CG.out _).mono ?_; rintro e k3 ⟨rfl, hb3⟩
  have M4 : Hid (Kept w k3 [(w.heap.size, (ks .u64 (List.replicate 4 0) ++ [Value.int .i64 0, .slice none 0 0]))]) := Kept.below M2.out hb3
  clear hb3 M2
  go_wp2_with (first | refine blk_alloc rfl 50 (ks .u64 (List.replicate 4 0) ++ [Value.int .i64 0]) rfl Try.info_rs ?_)
  intro k5 A5 B5 Z5
  go_wp2_with (first | refine blk_alloc rfl 97 [.string ⟨#[]⟩, .bool false] rfl Try.info_rr ?_)
  intro k6 A6 B6 Z6
  go_wp2_with (first | refine blk_store rfl 50 _ _ rfl (k3.heap.size) rfl (ks .u64 [a0, a1, a2, a3] ++ [Value.int .i64 D]) rfl _ (A5.below B6 (by omega)) (sv_len HA.out) (size_rs HA.out) (one_sv _ _) ?_)
  intro k7 A7 U7
  go_wp2_with (first | refine blk_store rfl 97 _ _ rfl (k3.heap.size + 1) rfl [.string r0, .bool c0] rfl _ (A6.upd U7 (by omega)) rfl Try.size_rr rfl ?_)
  intro k8 A8 U8
  have M9 : Hid (Kept w k8 [(k3.heap.size + 1, [.string r0, .bool c0]), (k3.heap.size, ks .u64 [a0, a1, a2, a3] ++ [Value.int .i64 D]), (w.heap.size, (ks .u64 (List.replicate 4 0) ++ [Value.int .i64 0, .slice none 0 0]))]) := Kept.pair M4.out (B5.trans (B6.mono (by omega))) (by omega) U7 U8 (A7.upd U8 (by omega)) A8
  clear A5 B5 Z5 A6 B6 Z6 A7 U7 A8 U8 M4
  go_wp2_with (first | refine blk_load rfl 97 _ rfl (k3.heap.size + 1) rfl ([.string r0, .bool c0]) (Kept.get M9.out 0 rfl) _ Try.underlying97 rfl Try.size_rr ?_)
  refine (CN.out _).mono ?_; rintro e k10 ⟨rfl, hb10⟩
  have M11 : Hid (Kept w k10 [(k3.heap.size + 1, [.string r0, .bool c0]), (k3.heap.size, ks .u64 [a0, a1, a2, a3] ++ [Value.int .i64 D]), (w.heap.size, (ks .u64 (List.replicate 4 0) ++ [Value.int .i64 0, .slice none 0 0]))]) := Kept.below M9.out hb10
  clear hb10 M9
  have LX : Hid (w.heap.size < k10.heap.size) := (M11.out.mem _ (List.mem_of_getElem? (i := 2) rfl)).2
  go_wp2_with (first | refine blk_alloc rfl 97 [.string ⟨#[]⟩, .bool false] rfl Try.info_rr ?_)
  intro k12 A12 B12 Z12
  go_wp2_with (first | refine blk_store rfl 97 _ _ rfl k10.heap.size rfl [.string r1, .bool c1] rfl _ A12 rfl Try.size_rr rfl ?_)
  intro k13 A13 U13
  have M14 : Hid (Kept w k13 [(k10.heap.size, [.string r1, .bool c1]), (k3.heap.size + 1, [.string r0, .bool c0]), (k3.heap.size, ks .u64 [a0, a1, a2, a3] ++ [Value.int .i64 D]), (w.heap.size, (ks .u64 (List.replicate 4 0) ++ [Value.int .i64 0, .slice none 0 0]))]) := Kept.fresh M11.out B12 Z12 U13 A13
  clear A12 B12 Z12 A13 U13 M11
  have LT : Hid (k10.heap.size < k13.heap.size) := (M14.out.mem _ (List.mem_of_getElem? (i := 0) rfl)).2
  go_wp2_with (first | refine blk_load rfl 50 _ rfl (k3.heap.size) rfl [.int .u64 (a0 : Int), .int .u64 (a1 : Int), .int .u64 (a2 : Int), .int .u64 (a3 : Int), .int .i64 D] (Kept.get M14.out 2 rfl) _ Try.underlying50 rfl Try.size_rs ?_ | refine blk_alloc rfl 52 (ks .u64 (List.replicate 4 0) ++ [Value.int .i64 0, .slice none 0 0]) rfl Try.info_tx ?_)
  intro k15 A15 B15 Z15
  go_wp2_with (first | refine blk_store rfl 52 _ _ rfl k13.heap.size rfl (ks .u64 [a0, a1, a2, a3] ++ [Value.int .i64 D, .slice none 0 0]) rfl _ A15 rfl Try.size_tx rfl ?_)
  intro k16 A16 U16
  have M17 : Hid (Kept w k16 [(k13.heap.size, (ks .u64 [a0, a1, a2, a3] ++ [Value.int .i64 D, .slice none 0 0])), (k10.heap.size, [.string r1, .bool c1]), (k3.heap.size + 1, [.string r0, .bool c0]), (k3.heap.size, ks .u64 [a0, a1, a2, a3] ++ [Value.int .i64 D]), (w.heap.size, (ks .u64 (List.replicate 4 0) ++ [Value.int .i64 0, .slice none 0 0]))]) := Kept.fresh M14.out B15 Z15 U16 A16
  have LB : Hid (k13.heap.size < k16.heap.size) := by show _ < _; rw [U16.size]; omega
  clear A15 B15 Z15 A16 U16 M14
  have HO0 : Hid (OW 38 k16 (k16.heap.size) (.slice none 0 0) []) := OW.nil _ _ _
  have MS : Hid (Kept w k16 [(k13.heap.size, (ks .u64 [a0, a1, a2, a3] ++ [Value.int .i64 D, .slice none 0 0])), (k10.heap.size, [.string r1, .bool c1]), (w.heap.size, (ks .u64 (List.replicate 4 0) ++ [Value.int .i64 0, .slice none 0 0]))]) := kept3 M17.out.under (Kept.get M17.out 0 rfl) (Kept.get M17.out 1 rfl) (Kept.get M17.out 4 rfl) LB.out (by have := LB.out; have := LT.out; omega) (by have := LB.out; have := LT.out; have := LX.out; omega)
  go_wp2_with fail
  go_loopw [9] (fun i wr => ∃ (j : Nat) (L : List I.Wt) (s1 : ByteArray) (c : Bool) (v : Value), j ≤ K ∧ i = .int .u64 j ∧ Hid (I.rdWs K r1 c1 = L ++ I.rdWs (K - j) s1 c) ∧ Hid (s1.size ≤ maxLen ∧ L.length ≤ j) ∧ Hid (OW 38 wr (k16.heap.size) v L) ∧ Hid (Kept w wr [(k13.heap.size, (ks .u64 [a0, a1, a2, a3] ++ [Value.int .i64 D, v])), (k10.heap.size, [.string s1, .bool c]), (w.heap.size, (ks .u64 (List.replicate 4 0) ++ [Value.int .i64 0, .slice none 0 0]))]) ∧ Hid (k16.heap.size ≤ wr.heap.size)) (fun i _ => K - (intOf i).toNat)
  case atStart => exact ⟨0, [], r1, c1, _, by omega, rfl, rfl, ⟨hr1, Nat.le_refl _⟩, HO0, MS, Nat.le_refl _⟩
  case round =>
    obtain ⟨j, L, s1, c, v, hj, rfl, HPj, HSj, HOr, MR, HSr⟩ := hrel
    clear MS HO0 M17
    have cb := (Kept.get MR.out 1 rfl).cell 1 (.bool c) rfl
    by_cases hgo : j < K ∧ c = false
    · obtain ⟨hlt, rfl⟩ := hgo
      have im : (j : Int) < (m : Int) := by omega
      have i9 : (j : Int) < 9 := by omega
      obtain ⟨hs1, hlj⟩ := HSj.out
      have hlen : L.length < 1000000 := by omega
      rcases h1 : P.RT s1 false 16 with ⟨xb, s2, c2⟩
      have hs2 : s2.size ≤ maxLen := by have := RT_size' s1 false 16; rw [h1] at this; exact Nat.le_trans this hs1
      rcases h2 : P.RT s2 c2 16 with ⟨xk, s3, c3⟩
      have hs3 : s3.size ≤ maxLen := by have := RT_size' s2 c2 16; rw [h2] at this; exact Nat.le_trans this hs2
      rcases h3 : P.RN s3 c3 1 with ⟨gone, s4, c4⟩
      have hs4 : s4.size ≤ maxLen := by have := Pk.RN_size s3 c3 1; rw [h3] at this; exact Nat.le_trans this hs3
      rcases h4 : P.RT s4 c4 32 with ⟨xv, s5, c5⟩
      have hs5 : s5.size ≤ maxLen := by have := RT_size' s4 c4 32; rw [h4] at this; exact Nat.le_trans this hs4
      have CB := Lib.hid (fun w => Pk.ref_rtext_any s1 false 16 xb s2 c2 w hs1 (by omega) h1)
      have CK := Lib.hid (fun w => Pk.ref_rtext_any s2 c2 16 xk s3 c3 w hs2 (by omega) h2)
      have CO := Lib.hid (fun w => Pk.ref_rnumber_any s3 c3 1 gone s4 c4 w hs3 h3)
      have CV := Lib.hid (fun w => Pk.ref_rtext_any s4 c4 32 xv s5 c5 w hs4 (by omega) h4)
      have HW1 : Hid (I.rdW s1 false = if gone = 1 then ((xb, xk, ⟨#[]⟩, true), s4, c4) else ((xb, xk, xv, false), s5, c5)) := by
        show _ = _
        unfold I.rdW
        simp only [h1, h2, h3, h4]
      have HST : Hid (I.rdWs K r1 c1 = (L ++ [(I.rdW s1 false).1]) ++ I.rdWs (K - (j + 1)) (I.rdW s1 false).2.1 (I.rdW s1 false).2.2) := by
        show _ = _
        rw [HPj.out, show K - j = (K - (j + 1)) + 1 by omega, I.rdWs_step]
        simp
      have HGW : Hid (∀ g o n c, v = .slice (some ⟨g, o, none⟩) n c → g ≠ wr.heap.size) := fun g o n c e => Nat.ne_of_lt (OW.lt HOr.out g o n c e)
      clear h1 h2 h3 h4 HPj HSj hs1 hs2 hs3
      rw [HW1.out] at HST
      clear HW1
      go_wp2_with (first | refine blk_alloc rfl 38 (wc I.none_) rfl Try.info_rw2 ?_)
      intro k51 A51 B51 Z51
      go_wp2_with (first | refine blk_store rfl 38 _ _ rfl wr.heap.size rfl (wc I.none_) rfl _ A51 rfl Try.size_rw rfl ?_)
      intro k52 A52 U52
      have HOW52 := Lib.hid (OW.below HOr.out (B51.trans (U52.below (Nat.le_refl _))))
      have M53 : Hid (Kept w k52 [(wr.heap.size, (wc I.none_)), (k13.heap.size, (ks .u64 [a0, a1, a2, a3] ++ [Value.int .i64 D, v])), (k10.heap.size, [.string s1, .bool false]), (w.heap.size, (ks .u64 (List.replicate 4 0) ++ [Value.int .i64 0, .slice none 0 0]))]) := Kept.fresh MR.out B51 Z51 U52 A52
      have HS52 : Hid (k16.heap.size ≤ k52.heap.size) := by have := HSr.out; show _ ≤ _; rw [U52.size]; omega
      clear A51 B51 Z51 A52 U52 MR
      have lh := LH.out
      have lx := LX.out
      have lt := LT.out
      have lb := LB.out
      have hsr := HSr.out
      go_wp2_with (first | refine blk_load rfl 97 _ rfl (k10.heap.size) rfl ([.string s1, .bool false]) (Kept.get M53.out 2 rfl) _ Try.underlying97 rfl Try.size_rr ?_)
      refine (CB.out _).mono ?_; rintro e k54 ⟨rfl, hb54⟩
      have HOW54 := Lib.hid (OW.below HOW52.out hb54)
      have HS54 : Hid (k16.heap.size ≤ k54.heap.size) := Nat.le_trans HS52.out hb54.size
      have M55 : Hid (Kept w k54 [(wr.heap.size, (wc I.none_)), (k13.heap.size, (ks .u64 [a0, a1, a2, a3] ++ [Value.int .i64 D, v])), (k10.heap.size, [.string s1, .bool false]), (w.heap.size, (ks .u64 (List.replicate 4 0) ++ [Value.int .i64 0, .slice none 0 0]))]) := Kept.below M53.out hb54
      clear hb54 M53 HOW52 HS52
      have cf56 := (Kept.get M55.out 0 rfl).cell 0 _ rfl
      have ff56 := (Kept.get M55.out 0 rfl).free 0 (by simp [wc])
      have HOW56 := Lib.hid (OW.far HOW54.out (Upd.setCell k54 (wr.heap.size) 0 (.string xb)) HGW.out)
      have HS56 : Hid (k16.heap.size ≤ (k54.setCell ⟨wr.heap.size, 0, none⟩ (.string xb)).heap.size) := by show _ ≤ _; rw [(Upd.setCell k54 (wr.heap.size) 0 (.string xb)).size]; exact HS54.out
      have M57 : Hid (Kept w (k54.setCell ⟨wr.heap.size, 0, none⟩ (.string xb)) [(wr.heap.size, [.string xb, .string ⟨#[]⟩, .string ⟨#[]⟩, .bool false]), (k13.heap.size, (ks .u64 [a0, a1, a2, a3] ++ [Value.int .i64 D, v])), (k10.heap.size, [.string s1, .bool false]), (w.heap.size, (ks .u64 (List.replicate 4 0) ++ [Value.int .i64 0, .slice none 0 0]))]) := Kept.updAt M55.out 0 rfl (by omega) (by simp; omega) (Upd.setCell _ _ _ _) (Blk.setc (Kept.get M55.out 0 rfl) 0 (by simp [wc]) (.string xb))
      clear M55
      go_wp2_with (first | refine blk_store rfl 97 _ _ rfl (k10.heap.size) rfl [.string s2, .bool c2] rfl _ (Kept.get M57.out 2 rfl) rfl Try.size_rr rfl ?_)
      intro k58 A58 U58
      have HOW58 := Lib.hid (OW.far2 HOW56.out U58 (by omega))
      have HS58 : Hid (k16.heap.size ≤ k58.heap.size) := by show _ ≤ _; rw [U58.size]; exact HS56.out
      have M59 : Hid (Kept w k58 [(wr.heap.size, [.string xb, .string ⟨#[]⟩, .string ⟨#[]⟩, .bool false]), (k13.heap.size, (ks .u64 [a0, a1, a2, a3] ++ [Value.int .i64 D, v])), (k10.heap.size, [.string s2, .bool c2]), (w.heap.size, (ks .u64 (List.replicate 4 0) ++ [Value.int .i64 0, .slice none 0 0]))]) := Kept.updAt M57.out 2 rfl (by omega) (by simp; omega) U58 A58
      clear A58 U58 M57 HOW56 HS56 cf56 ff56
      go_wp2_with (first | refine blk_load rfl 97 _ rfl (k10.heap.size) rfl ([.string s2, .bool c2]) (Kept.get M59.out 2 rfl) _ Try.underlying97 rfl Try.size_rr ?_)
      refine (CK.out _).mono ?_; rintro e k60 ⟨rfl, hb60⟩
      have HOW60 := Lib.hid (OW.below HOW58.out hb60)
      have HS60 : Hid (k16.heap.size ≤ k60.heap.size) := Nat.le_trans HS58.out hb60.size
      have M61 : Hid (Kept w k60 [(wr.heap.size, [.string xb, .string ⟨#[]⟩, .string ⟨#[]⟩, .bool false]), (k13.heap.size, (ks .u64 [a0, a1, a2, a3] ++ [Value.int .i64 D, v])), (k10.heap.size, [.string s2, .bool c2]), (w.heap.size, (ks .u64 (List.replicate 4 0) ++ [Value.int .i64 0, .slice none 0 0]))]) := Kept.below M59.out hb60
      clear hb60 M59 HOW58 HS58
      have cf62 := (Kept.get M61.out 0 rfl).cell 1 _ rfl
      have ff62 := (Kept.get M61.out 0 rfl).free 1 (by simp [wc])
      have HOW62 := Lib.hid (OW.far HOW60.out (Upd.setCell k60 (wr.heap.size) 1 (.string xk)) HGW.out)
      have HS62 : Hid (k16.heap.size ≤ (k60.setCell ⟨wr.heap.size, 1, none⟩ (.string xk)).heap.size) := by show _ ≤ _; rw [(Upd.setCell k60 (wr.heap.size) 1 (.string xk)).size]; exact HS60.out
      have M63 : Hid (Kept w (k60.setCell ⟨wr.heap.size, 1, none⟩ (.string xk)) [(wr.heap.size, [.string xb, .string xk, .string ⟨#[]⟩, .bool false]), (k13.heap.size, (ks .u64 [a0, a1, a2, a3] ++ [Value.int .i64 D, v])), (k10.heap.size, [.string s2, .bool c2]), (w.heap.size, (ks .u64 (List.replicate 4 0) ++ [Value.int .i64 0, .slice none 0 0]))]) := Kept.updAt M61.out 0 rfl (by omega) (by simp; omega) (Upd.setCell _ _ _ _) (Blk.setc (Kept.get M61.out 0 rfl) 1 (by simp [wc]) (.string xk))
      clear M61
      go_wp2_with (first | refine blk_store rfl 97 _ _ rfl (k10.heap.size) rfl [.string s3, .bool c3] rfl _ (Kept.get M63.out 2 rfl) rfl Try.size_rr rfl ?_)
      intro k64 A64 U64
      have HOW64 := Lib.hid (OW.far2 HOW62.out U64 (by omega))
      have HS64 : Hid (k16.heap.size ≤ k64.heap.size) := by show _ ≤ _; rw [U64.size]; exact HS62.out
      have M65 : Hid (Kept w k64 [(wr.heap.size, [.string xb, .string xk, .string ⟨#[]⟩, .bool false]), (k13.heap.size, (ks .u64 [a0, a1, a2, a3] ++ [Value.int .i64 D, v])), (k10.heap.size, [.string s3, .bool c3]), (w.heap.size, (ks .u64 (List.replicate 4 0) ++ [Value.int .i64 0, .slice none 0 0]))]) := Kept.updAt M63.out 2 rfl (by omega) (by simp; omega) U64 A64
      clear A64 U64 M63 HOW62 HS62 cf62 ff62
      go_wp2_with (first | refine blk_load rfl 97 _ rfl (k10.heap.size) rfl ([.string s3, .bool c3]) (Kept.get M65.out 2 rfl) _ Try.underlying97 rfl Try.size_rr ?_)
      refine (CO.out _).mono ?_; rintro e k66 ⟨rfl, hb66⟩
      have HOW66 := Lib.hid (OW.below HOW64.out hb66)
      have HS66 : Hid (k16.heap.size ≤ k66.heap.size) := Nat.le_trans HS64.out hb66.size
      have M67 : Hid (Kept w k66 [(wr.heap.size, [.string xb, .string xk, .string ⟨#[]⟩, .bool false]), (k13.heap.size, (ks .u64 [a0, a1, a2, a3] ++ [Value.int .i64 D, v])), (k10.heap.size, [.string s3, .bool c3]), (w.heap.size, (ks .u64 (List.replicate 4 0) ++ [Value.int .i64 0, .slice none 0 0]))]) := Kept.below M65.out hb66
      clear hb66 M65 HOW64 HS64
      go_wp2_with (first | refine blk_store rfl 97 _ _ rfl (k10.heap.size) rfl [.string s4, .bool c4] rfl _ (Kept.get M67.out 2 rfl) rfl Try.size_rr rfl ?_)
      intro k68 A68 U68
      have HOW68 := Lib.hid (OW.far2 HOW66.out U68 (by omega))
      have HS68 : Hid (k16.heap.size ≤ k68.heap.size) := by show _ ≤ _; rw [U68.size]; exact HS66.out
      have M69 : Hid (Kept w k68 [(wr.heap.size, [.string xb, .string xk, .string ⟨#[]⟩, .bool false]), (k13.heap.size, (ks .u64 [a0, a1, a2, a3] ++ [Value.int .i64 D, v])), (k10.heap.size, [.string s4, .bool c4]), (w.heap.size, (ks .u64 (List.replicate 4 0) ++ [Value.int .i64 0, .slice none 0 0]))]) := Kept.updAt M67.out 2 rfl (by omega) (by simp; omega) U68 A68
      clear A68 U68 M67 HOW66 HS66 
      by_cases hone : gone = 1
      · have ione : ((gone : Int) == 1) = true := by rw [hone]; rfl
        rw [if_pos hone] at HST
        have HPAR : Hid (I.rdWs K r1 c1 = (L ++ [(xb, xk, ⟨#[]⟩, true)]) ++ I.rdWs (K - (j + 1)) s4 c4) := HST
        have hszn : Hid (s4.size ≤ maxLen ∧ (L ++ [((xb, xk, ⟨#[]⟩, true) : I.Wt)]).length ≤ j + 1) := ⟨hs4, by rw [List.length_append]; show L.length + 1 ≤ _; omega⟩
        have cf70 := (Kept.get M69.out 0 rfl).cell 3 _ rfl
        have ff70 := (Kept.get M69.out 0 rfl).free 3 (by simp [wc])
        have HOW70 := Lib.hid (OW.far HOW68.out (Upd.setCell k68 (wr.heap.size) 3 (.bool true)) HGW.out)
        have HS70 : Hid (k16.heap.size ≤ (k68.setCell ⟨wr.heap.size, 3, none⟩ (.bool true)).heap.size) := by show _ ≤ _; rw [(Upd.setCell k68 (wr.heap.size) 3 (.bool true)).size]; exact HS68.out
        have M71 : Hid (Kept w (k68.setCell ⟨wr.heap.size, 3, none⟩ (.bool true)) [(wr.heap.size, [.string xb, .string xk, .string ⟨#[]⟩, .bool true]), (k13.heap.size, (ks .u64 [a0, a1, a2, a3] ++ [Value.int .i64 D, v])), (k10.heap.size, [.string s4, .bool c4]), (w.heap.size, (ks .u64 (List.replicate 4 0) ++ [Value.int .i64 0, .slice none 0 0]))]) := Kept.updAt M69.out 0 rfl (by omega) (by simp; omega) (Upd.setCell _ _ _ _) (Blk.setc (Kept.get M69.out 0 rfl) 3 (by simp [wc]) (.bool true))
        clear M69
        have ct5 := tx_cell (Kept.get M71.out 1 rfl) HA.out
        go_wp2_with (first | refine blk_load rfl 38 _ rfl (wr.heap.size) rfl ([.string xb, .string xk, .string ⟨#[]⟩, .bool true]) (Kept.get M71.out 0 rfl) _ Try.underlying38 rfl Try.size_rw ?_ | refine build_rw rfl _ rfl (xb, xk, ⟨#[]⟩, true) rfl ?_)
        intro k72 A72 B72 Z72
        have HOW72 := Lib.hid (OW.below HOW70.out (B72.mono (Nat.le_of_eq (Upd.setCell k68 (wr.heap.size) 3 (.bool true)).size)))
        have HS72 : Hid (k16.heap.size ≤ k72.heap.size) := by have := HS70.out; rw [(Upd.setCell k68 (wr.heap.size) 3 (.bool true)).size] at this; show _ ≤ _; omega
        have M73 : Hid (Kept w k72 [(wr.heap.size, [.string xb, .string xk, .string ⟨#[]⟩, .bool true]), (k13.heap.size, (ks .u64 [a0, a1, a2, a3] ++ [Value.int .i64 D, v])), (k10.heap.size, [.string s4, .bool c4]), (w.heap.size, (ks .u64 (List.replicate 4 0) ++ [Value.int .i64 0, .slice none 0 0]))]) := Kept.below M71.out (B72.mono (Nat.le_of_eq (Upd.setCell k68 (wr.heap.size) 3 (.bool true)).size))
        have hs72 := HS72.out
        clear B72 Z72 M71 ct5
        go_wp2_with (at_builtin; refine append_gen (t := 38) Try.underlying39 Try.info_rw _ rfl _ _ rfl (k16.heap.size) _ _ rfl HOW72.out k68.heap.size rfl (xb, xk, ⟨#[]⟩, true) A72 ?c2 ?c3 ?_)
        case c2 => exact hlen
        case c3 => omega
        intro v' k74 ho hb hbs
        obtain ⟨av, cv, ev, _⟩ := ho.is.is
        obtain ⟨ln, hln⟩ : ∃ ln, ln = (L ++ [((xb, xk, ⟨#[]⟩, true) : I.Wt)]).length := ⟨_, rfl⟩
        rw [← hln] at ev
        subst ev
        clear hln
        have hT := Blk.below (Kept.get M73.out 1 rfl) hb (by omega)
        have hX := Blk.below (Kept.get M73.out 2 rfl) hb (by omega)
        have hH := Blk.below (Kept.get M73.out 3 rfl) hb (by omega)
        have hU := Below.trans M73.out.under (hb.mono (by omega))
        have c6 := tx_cell hT HA.out
        have f6 := hT.free 5 (by simp [ks])
        have UT : Upd (k13.heap.size) k74 (k74.setCell ⟨k13.heap.size, 5, none⟩ (.slice av ln cv)) := Upd.setCell _ _ _ _
        have HT' : Hid (Blk (k74.setCell ⟨k13.heap.size, 5, none⟩ (.slice av ln cv)) (k13.heap.size) (ks .u64 [a0, a1, a2, a3] ++ [Value.int .i64 D, .slice av ln cv])) := Blk.setc hT 5 (by simp [ks]) (.slice av ln cv)
        have HX' : Hid (Blk (k74.setCell ⟨k13.heap.size, 5, none⟩ (.slice av ln cv)) (k10.heap.size) [.string s4, .bool c4]) := Blk.upd hX UT (by omega)
        have HH' : Hid (Blk (k74.setCell ⟨k13.heap.size, 5, none⟩ (.slice av ln cv)) w.heap.size (ks .u64 (List.replicate 4 0) ++ [Value.int .i64 0, .slice none 0 0])) := Blk.upd hH UT (by omega)
        have HU' : Hid (Below w.heap.size w (k74.setCell ⟨k13.heap.size, 5, none⟩ (.slice av ln cv))) := hU.trans (UT.below (by omega))
        have HS' : Hid (k16.heap.size ≤ (k74.setCell ⟨k13.heap.size, 5, none⟩ (.slice av ln cv)).heap.size) := by show _ ≤ _; rw [UT.size]; exact hbs
        have HO' := Lib.hid (OW.far2 ho UT (by omega))
        have MK : Hid (Kept w (k74.setCell ⟨k13.heap.size, 5, none⟩ (.slice av ln cv)) [(k13.heap.size, (ks .u64 [a0, a1, a2, a3] ++ [Value.int .i64 D, .slice av ln cv])), (k10.heap.size, [.string s4, .bool c4]), (w.heap.size, (ks .u64 (List.replicate 4 0) ++ [Value.int .i64 0, .slice none 0 0]))]) := kept3 HU'.out HT'.out HX'.out HH'.out (by have := HS'.out; omega) (by have := HS'.out; omega) (by have := HS'.out; omega)
        clear ho hb hbs hT hX hH hU UT M73 HOW72 HS72 HT' HX' HH' HU'
        go_wp2_with fail
        go_roundw
        case rel => exact ⟨j + 1, L ++ [(xb, xk, ⟨#[]⟩, true)], s4, c4, _, by omega, by go_num, HPAR, hszn, HO', MK, HS'⟩
        case measure => simp [intOf]; omega
      · have ione : ((gone : Int) == 1) = false := by rw [beq_eq_false_iff_ne]; omega
        rw [if_neg hone] at HST
        have HPAR : Hid (I.rdWs K r1 c1 = (L ++ [(xb, xk, xv, false)]) ++ I.rdWs (K - (j + 1)) s5 c5) := HST
        have hszn : Hid (s5.size ≤ maxLen ∧ (L ++ [((xb, xk, xv, false) : I.Wt)]).length ≤ j + 1) := ⟨hs5, by rw [List.length_append]; show L.length + 1 ≤ _; omega⟩
        have cf70 := (Kept.get M69.out 0 rfl).cell 3 _ rfl
        have ff70 := (Kept.get M69.out 0 rfl).free 3 (by simp [wc])
        have HOW70 := Lib.hid (OW.far HOW68.out (Upd.setCell k68 (wr.heap.size) 3 (.bool false)) HGW.out)
        have HS70 : Hid (k16.heap.size ≤ (k68.setCell ⟨wr.heap.size, 3, none⟩ (.bool false)).heap.size) := by show _ ≤ _; rw [(Upd.setCell k68 (wr.heap.size) 3 (.bool false)).size]; exact HS68.out
        have M71 : Hid (Kept w (k68.setCell ⟨wr.heap.size, 3, none⟩ (.bool false)) [(wr.heap.size, [.string xb, .string xk, .string ⟨#[]⟩, .bool false]), (k13.heap.size, (ks .u64 [a0, a1, a2, a3] ++ [Value.int .i64 D, v])), (k10.heap.size, [.string s4, .bool c4]), (w.heap.size, (ks .u64 (List.replicate 4 0) ++ [Value.int .i64 0, .slice none 0 0]))]) := Kept.updAt M69.out 0 rfl (by omega) (by simp; omega) (Upd.setCell _ _ _ _) (Blk.setc (Kept.get M69.out 0 rfl) 3 (by simp [wc]) (.bool false))
        clear M69
        have c3f := (Kept.get M71.out 0 rfl).cell 3 _ rfl
        go_wp2_with (first | refine blk_load rfl 97 _ rfl (k10.heap.size) rfl ([.string s4, .bool c4]) (Kept.get M71.out 2 rfl) _ Try.underlying97 rfl Try.size_rr ?_)
        clear cf70 ff70 c3f
        refine (CV.out _).mono ?_; rintro e k72 ⟨rfl, hb72⟩
        have HOW72 := Lib.hid (OW.below HOW70.out hb72)
        have HS72 : Hid (k16.heap.size ≤ k72.heap.size) := Nat.le_trans HS70.out hb72.size
        have M73 : Hid (Kept w k72 [(wr.heap.size, [.string xb, .string xk, .string ⟨#[]⟩, .bool false]), (k13.heap.size, (ks .u64 [a0, a1, a2, a3] ++ [Value.int .i64 D, v])), (k10.heap.size, [.string s4, .bool c4]), (w.heap.size, (ks .u64 (List.replicate 4 0) ++ [Value.int .i64 0, .slice none 0 0]))]) := Kept.below M71.out hb72
        clear hb72 M71 HOW70 HS70
        have cf74 := (Kept.get M73.out 0 rfl).cell 2 _ rfl
        have ff74 := (Kept.get M73.out 0 rfl).free 2 (by simp [wc])
        have HOW74 := Lib.hid (OW.far HOW72.out (Upd.setCell k72 (wr.heap.size) 2 (.string xv)) HGW.out)
        have HS74 : Hid (k16.heap.size ≤ (k72.setCell ⟨wr.heap.size, 2, none⟩ (.string xv)).heap.size) := by show _ ≤ _; rw [(Upd.setCell k72 (wr.heap.size) 2 (.string xv)).size]; exact HS72.out
        have M75 : Hid (Kept w (k72.setCell ⟨wr.heap.size, 2, none⟩ (.string xv)) [(wr.heap.size, [.string xb, .string xk, .string xv, .bool false]), (k13.heap.size, (ks .u64 [a0, a1, a2, a3] ++ [Value.int .i64 D, v])), (k10.heap.size, [.string s4, .bool c4]), (w.heap.size, (ks .u64 (List.replicate 4 0) ++ [Value.int .i64 0, .slice none 0 0]))]) := Kept.updAt M73.out 0 rfl (by omega) (by simp; omega) (Upd.setCell _ _ _ _) (Blk.setc (Kept.get M73.out 0 rfl) 2 (by simp [wc]) (.string xv))
        clear M73
        go_wp2_with (first | refine blk_store rfl 97 _ _ rfl (k10.heap.size) rfl [.string s5, .bool c5] rfl _ (Kept.get M75.out 2 rfl) rfl Try.size_rr rfl ?_)
        intro k76 A76 U76
        have HOW76 := Lib.hid (OW.far2 HOW74.out U76 (by omega))
        have HS76 : Hid (k16.heap.size ≤ k76.heap.size) := by show _ ≤ _; rw [U76.size]; exact HS74.out
        have M77 : Hid (Kept w k76 [(wr.heap.size, [.string xb, .string xk, .string xv, .bool false]), (k13.heap.size, (ks .u64 [a0, a1, a2, a3] ++ [Value.int .i64 D, v])), (k10.heap.size, [.string s5, .bool c5]), (w.heap.size, (ks .u64 (List.replicate 4 0) ++ [Value.int .i64 0, .slice none 0 0]))]) := Kept.updAt M75.out 2 rfl (by omega) (by simp; omega) U76 A76
        clear A76 U76 M75 HOW74 HS74 cf74 ff74
        have ct5 := tx_cell (Kept.get M77.out 1 rfl) HA.out
        go_wp2_with (first | refine blk_load rfl 38 _ rfl (wr.heap.size) rfl ([.string xb, .string xk, .string xv, .bool false]) (Kept.get M77.out 0 rfl) _ Try.underlying38 rfl Try.size_rw ?_ | refine build_rw rfl _ rfl (xb, xk, xv, false) rfl ?_)
        intro k78 A78 B78 Z78
        have HOW78 := Lib.hid (OW.below HOW76.out B78)
        have HS78 : Hid (k16.heap.size ≤ k78.heap.size) := by have := HS76.out; show _ ≤ _; omega
        have M79 : Hid (Kept w k78 [(wr.heap.size, [.string xb, .string xk, .string xv, .bool false]), (k13.heap.size, (ks .u64 [a0, a1, a2, a3] ++ [Value.int .i64 D, v])), (k10.heap.size, [.string s5, .bool c5]), (w.heap.size, (ks .u64 (List.replicate 4 0) ++ [Value.int .i64 0, .slice none 0 0]))]) := Kept.below M77.out B78
        have hs78 := HS78.out
        clear B78 Z78 M77 ct5
        go_wp2_with (at_builtin; refine append_gen (t := 38) Try.underlying39 Try.info_rw _ rfl _ _ rfl (k16.heap.size) _ _ rfl HOW78.out k76.heap.size rfl (xb, xk, xv, false) A78 ?c2 ?c3 ?_)
        case c2 => exact hlen
        case c3 => omega
        intro v' k80 ho hb hbs
        obtain ⟨av, cv, ev, _⟩ := ho.is.is
        obtain ⟨ln, hln⟩ : ∃ ln, ln = (L ++ [((xb, xk, xv, false) : I.Wt)]).length := ⟨_, rfl⟩
        rw [← hln] at ev
        subst ev
        clear hln
        have hT := Blk.below (Kept.get M79.out 1 rfl) hb (by omega)
        have hX := Blk.below (Kept.get M79.out 2 rfl) hb (by omega)
        have hH := Blk.below (Kept.get M79.out 3 rfl) hb (by omega)
        have hU := Below.trans M79.out.under (hb.mono (by omega))
        have c6 := tx_cell hT HA.out
        have f6 := hT.free 5 (by simp [ks])
        have UT : Upd (k13.heap.size) k80 (k80.setCell ⟨k13.heap.size, 5, none⟩ (.slice av ln cv)) := Upd.setCell _ _ _ _
        have HT' : Hid (Blk (k80.setCell ⟨k13.heap.size, 5, none⟩ (.slice av ln cv)) (k13.heap.size) (ks .u64 [a0, a1, a2, a3] ++ [Value.int .i64 D, .slice av ln cv])) := Blk.setc hT 5 (by simp [ks]) (.slice av ln cv)
        have HX' : Hid (Blk (k80.setCell ⟨k13.heap.size, 5, none⟩ (.slice av ln cv)) (k10.heap.size) [.string s5, .bool c5]) := Blk.upd hX UT (by omega)
        have HH' : Hid (Blk (k80.setCell ⟨k13.heap.size, 5, none⟩ (.slice av ln cv)) w.heap.size (ks .u64 (List.replicate 4 0) ++ [Value.int .i64 0, .slice none 0 0])) := Blk.upd hH UT (by omega)
        have HU' : Hid (Below w.heap.size w (k80.setCell ⟨k13.heap.size, 5, none⟩ (.slice av ln cv))) := hU.trans (UT.below (by omega))
        have HS' : Hid (k16.heap.size ≤ (k80.setCell ⟨k13.heap.size, 5, none⟩ (.slice av ln cv)).heap.size) := by show _ ≤ _; rw [UT.size]; exact hbs
        have HO' := Lib.hid (OW.far2 ho UT (by omega))
        have MK : Hid (Kept w (k80.setCell ⟨k13.heap.size, 5, none⟩ (.slice av ln cv)) [(k13.heap.size, (ks .u64 [a0, a1, a2, a3] ++ [Value.int .i64 D, .slice av ln cv])), (k10.heap.size, [.string s5, .bool c5]), (w.heap.size, (ks .u64 (List.replicate 4 0) ++ [Value.int .i64 0, .slice none 0 0]))]) := kept3 HU'.out HT'.out HX'.out HH'.out (by have := HS'.out; omega) (by have := HS'.out; omega) (by have := HS'.out; omega)
        clear ho hb hbs hT hX hH hU UT M79 HOW78 HS78 HT' HX' HH' HU'
        go_wp2_with fail
        go_roundw
        case rel => exact ⟨j + 1, L ++ [(xb, xk, xv, false)], s5, c5, _, by omega, by go_num, HPAR, hszn, HO', MK, HS'⟩
        case measure => simp [intOf]; omega
    · by_cases hjm : j < m
      · have im : (j : Int) < (m : Int) := by omega
        by_cases hj9 : j < 9
        · have i9 : (j : Int) < 9 := by omega
          obtain rfl : c = true := by
            cases c with
            | true => rfl
            | false => exact absurd ⟨by omega, rfl⟩ hgo
          have hrest : I.rdWs (K - j) s1 true = [] := I.rdWs_bad _ _
          have HL0 : Hid (I.rdWs K r1 c1 = L) := by show _ = _; rw [HPj.out]; exact (congrArg (L ++ ·) hrest).trans (List.append_nil L)
          rw [HL0.out] at HRD
          have HIW := Lib.hid (OW.is HOr.out)
          have CBY := Lib.hid (fun w hL => ref_bytes [a0, a1, a2, a3] D v L w COK.out hL)
          go_wp2_with (first | refine blk_load rfl 52 _ rfl (k13.heap.size) rfl (ks .u64 [a0, a1, a2, a3] ++ [Value.int .i64 D, v]) (Kept.get MR.out 0 rfl) _ Try.underlying52 rfl (size_tx HA.out) ?_)
          refine (CBY.out _ HIW.out).mono ?_; rintro e w9 ⟨rfl, hb9⟩
          have M9 : Hid (Kept w w9 [(k13.heap.size, (ks .u64 [a0, a1, a2, a3] ++ [Value.int .i64 D, v])), (k10.heap.size, [.string s1, .bool true]), (w.heap.size, (ks .u64 (List.replicate 4 0) ++ [Value.int .i64 0, .slice none 0 0]))]) := Kept.below MR.out hb9
          have HO9 := Lib.hid (OW.below HOr.out hb9)
          have lh := LH.out
          have lx := LX.out
          have lt := LT.out
          have lb := LB.out
          clear hb9 MR HOr HIW CBY
          have hrd := HRD.out
          cases hw : I.whole [a0, a1, a2, a3] D L with
          | false =>
            rw [hw] at hrd
            simp only [Bool.false_eq_true, false_and, if_false, Prod.mk.injEq] at hrd
            obtain ⟨rfl, rfl, rfl, rfl⟩ := hrd
            clear hw HRD
            go_wp2_with (first | refine blk_store rfl 52 _ _ rfl w.heap.size rfl (ks .u64 (List.replicate 4 0) ++ [Value.int .i64 0, .slice none 0 0]) rfl _ (Kept.get M9.out 2 rfl) rfl Try.size_tx rfl ?_)
            intro u A0' U
            have HR9 : Hid (Blk u w.heap.size (ks .u64 (List.replicate 4 0) ++ [Value.int .i64 0, .slice none 0 0])) := A0'
            have HU9 : Hid (Below w.heap.size w u) := Below.trans M9.out.under (U.below (Nat.le_refl _))
            clear A0' U
            go_wp2_with fail
            refine bodyPost_ret (v := .tuple #[TV V.zeros 0 (.slice none 0 0), .bool false]) ?_ rfl ⟨_, rfl, OW.nil _ _ _, HU9.out⟩
            exact res_blk2 Try.results32 _ w.heap.size rfl _ HR9.out _ Try.underlying52 rfl Try.size_tx
          | true =>
            rw [hw] at hrd
            obtain ⟨bs, HBS⟩ : ∃ r, Hid (I.bytesS [a0, a1, a2, a3] D L = r) := ⟨_, rfl⟩
            rw [HBS.out] at hrd ⊢
            by_cases he : bs = s
            · subst he
              simp only [true_and, if_true, and_self, Prod.mk.injEq] at hrd
              obtain ⟨rfl, rfl, rfl, rfl⟩ := hrd
              clear hw HRD HBS
              go_wp2_with (first | refine blk_load rfl 52 _ rfl (k13.heap.size) rfl (ks .u64 [a0, a1, a2, a3] ++ [Value.int .i64 D, v]) (Kept.get M9.out 0 rfl) _ Try.underlying52 rfl (size_tx HA.out) ?_ | refine blk_store rfl 52 _ _ rfl w.heap.size rfl (ks .u64 [a0, a1, a2, a3] ++ [Value.int .i64 D, v]) rfl _ (Kept.get M9.out 2 rfl) rfl (size_tx HA.out) (one_tx HO9.out) ?_)
              intro u A0' U
              have HR9 : Hid (Blk u w.heap.size (ks .u64 [a0, a1, a2, a3] ++ [Value.int .i64 D, v])) := A0'
              have HO10 := Lib.hid (OW.mono (OW.far2 HO9.out U (by omega)) (show w.heap.size ≤ k16.heap.size by omega))
              have HU9 : Hid (Below w.heap.size w u) := Below.trans M9.out.under (U.below (Nat.le_refl _))
              clear A0' U
              go_wp2_with fail
              refine bodyPost_ret (v := .tuple #[TV [a0, a1, a2, a3] D v, .bool true]) ?_ rfl ⟨v, rfl, HO10.out, HU9.out⟩
              exact res_blk2 Try.results32 _ w.heap.size rfl _ HR9.out _ Try.underlying52 rfl (size_tx HA.out)
            · simp only [he, and_false, if_false, Prod.mk.injEq] at hrd
              obtain ⟨rfl, rfl, rfl, rfl⟩ := hrd
              have hse : (bs.toList == s.toList) = false := by rw [V.tol_eq, decide_eq_false he]
              clear hw HRD HBS
              go_wp2_with (first | refine blk_store rfl 52 _ _ rfl w.heap.size rfl (ks .u64 (List.replicate 4 0) ++ [Value.int .i64 0, .slice none 0 0]) rfl _ (Kept.get M9.out 2 rfl) rfl Try.size_tx rfl ?_)
              intro u A0' U
              have HR9 : Hid (Blk u w.heap.size (ks .u64 (List.replicate 4 0) ++ [Value.int .i64 0, .slice none 0 0])) := A0'
              have HU9 : Hid (Below w.heap.size w u) := Below.trans M9.out.under (U.below (Nat.le_refl _))
              clear A0' U
              go_wp2_with fail
              refine bodyPost_ret (v := .tuple #[TV V.zeros 0 (.slice none 0 0), .bool false]) ?_ rfl ⟨_, rfl, OW.nil _ _ _, HU9.out⟩
              exact res_blk2 Try.results32 _ w.heap.size rfl _ HR9.out _ Try.underlying52 rfl Try.size_tx
        · have i9 : ¬ (j : Int) < 9 := by omega
          have i9' : decide ((j : Int) < 9) = false := by simp; omega
          have hrest : I.rdWs (K - j) s1 c = [] := by rw [show K - j = 0 by omega]; rfl
          have HL0 : Hid (I.rdWs K r1 c1 = L) := by show _ = _; rw [HPj.out]; exact (congrArg (L ++ ·) hrest).trans (List.append_nil L)
          rw [HL0.out] at HRD
          have HIW := Lib.hid (OW.is HOr.out)
          have CBY := Lib.hid (fun w hL => ref_bytes [a0, a1, a2, a3] D v L w COK.out hL)
          go_wp2_with (first | refine blk_load rfl 52 _ rfl (k13.heap.size) rfl (ks .u64 [a0, a1, a2, a3] ++ [Value.int .i64 D, v]) (Kept.get MR.out 0 rfl) _ Try.underlying52 rfl (size_tx HA.out) ?_)
          refine (CBY.out _ HIW.out).mono ?_; rintro e w9 ⟨rfl, hb9⟩
          have M9 : Hid (Kept w w9 [(k13.heap.size, (ks .u64 [a0, a1, a2, a3] ++ [Value.int .i64 D, v])), (k10.heap.size, [.string s1, .bool c]), (w.heap.size, (ks .u64 (List.replicate 4 0) ++ [Value.int .i64 0, .slice none 0 0]))]) := Kept.below MR.out hb9
          have HO9 := Lib.hid (OW.below HOr.out hb9)
          have lh := LH.out
          have lx := LX.out
          have lt := LT.out
          have lb := LB.out
          clear hb9 MR HOr HIW CBY
          have hrd := HRD.out
          cases hw : I.whole [a0, a1, a2, a3] D L with
          | false =>
            rw [hw] at hrd
            simp only [Bool.false_eq_true, false_and, if_false, Prod.mk.injEq] at hrd
            obtain ⟨rfl, rfl, rfl, rfl⟩ := hrd
            clear hw HRD
            go_wp2_with (first | refine blk_store rfl 52 _ _ rfl w.heap.size rfl (ks .u64 (List.replicate 4 0) ++ [Value.int .i64 0, .slice none 0 0]) rfl _ (Kept.get M9.out 2 rfl) rfl Try.size_tx rfl ?_)
            intro u A0' U
            have HR9 : Hid (Blk u w.heap.size (ks .u64 (List.replicate 4 0) ++ [Value.int .i64 0, .slice none 0 0])) := A0'
            have HU9 : Hid (Below w.heap.size w u) := Below.trans M9.out.under (U.below (Nat.le_refl _))
            clear A0' U
            go_wp2_with fail
            refine bodyPost_ret (v := .tuple #[TV V.zeros 0 (.slice none 0 0), .bool false]) ?_ rfl ⟨_, rfl, OW.nil _ _ _, HU9.out⟩
            exact res_blk2 Try.results32 _ w.heap.size rfl _ HR9.out _ Try.underlying52 rfl Try.size_tx
          | true =>
            rw [hw] at hrd
            obtain ⟨bs, HBS⟩ : ∃ r, Hid (I.bytesS [a0, a1, a2, a3] D L = r) := ⟨_, rfl⟩
            rw [HBS.out] at hrd ⊢
            by_cases he : bs = s
            · subst he
              simp only [true_and, if_true, and_self, Prod.mk.injEq] at hrd
              obtain ⟨rfl, rfl, rfl, rfl⟩ := hrd
              clear hw HRD HBS
              go_wp2_with (first | refine blk_load rfl 52 _ rfl (k13.heap.size) rfl (ks .u64 [a0, a1, a2, a3] ++ [Value.int .i64 D, v]) (Kept.get M9.out 0 rfl) _ Try.underlying52 rfl (size_tx HA.out) ?_ | refine blk_store rfl 52 _ _ rfl w.heap.size rfl (ks .u64 [a0, a1, a2, a3] ++ [Value.int .i64 D, v]) rfl _ (Kept.get M9.out 2 rfl) rfl (size_tx HA.out) (one_tx HO9.out) ?_)
              intro u A0' U
              have HR9 : Hid (Blk u w.heap.size (ks .u64 [a0, a1, a2, a3] ++ [Value.int .i64 D, v])) := A0'
              have HO10 := Lib.hid (OW.mono (OW.far2 HO9.out U (by omega)) (show w.heap.size ≤ k16.heap.size by omega))
              have HU9 : Hid (Below w.heap.size w u) := Below.trans M9.out.under (U.below (Nat.le_refl _))
              clear A0' U
              go_wp2_with fail
              refine bodyPost_ret (v := .tuple #[TV [a0, a1, a2, a3] D v, .bool true]) ?_ rfl ⟨v, rfl, HO10.out, HU9.out⟩
              exact res_blk2 Try.results32 _ w.heap.size rfl _ HR9.out _ Try.underlying52 rfl (size_tx HA.out)
            · simp only [he, and_false, if_false, Prod.mk.injEq] at hrd
              obtain ⟨rfl, rfl, rfl, rfl⟩ := hrd
              have hse : (bs.toList == s.toList) = false := by rw [V.tol_eq, decide_eq_false he]
              clear hw HRD HBS
              go_wp2_with (first | refine blk_store rfl 52 _ _ rfl w.heap.size rfl (ks .u64 (List.replicate 4 0) ++ [Value.int .i64 0, .slice none 0 0]) rfl _ (Kept.get M9.out 2 rfl) rfl Try.size_tx rfl ?_)
              intro u A0' U
              have HR9 : Hid (Blk u w.heap.size (ks .u64 (List.replicate 4 0) ++ [Value.int .i64 0, .slice none 0 0])) := A0'
              have HU9 : Hid (Below w.heap.size w u) := Below.trans M9.out.under (U.below (Nat.le_refl _))
              clear A0' U
              go_wp2_with fail
              refine bodyPost_ret (v := .tuple #[TV V.zeros 0 (.slice none 0 0), .bool false]) ?_ rfl ⟨_, rfl, OW.nil _ _ _, HU9.out⟩
              exact res_blk2 Try.results32 _ w.heap.size rfl _ HR9.out _ Try.underlying52 rfl Try.size_tx
      · have im : ¬ (j : Int) < (m : Int) := by omega
        have im' : decide ((j : Int) < (m : Int)) = false := by simp; omega
        have hrest : I.rdWs (K - j) s1 c = [] := by rw [show K - j = 0 by omega]; rfl
        have HL0 : Hid (I.rdWs K r1 c1 = L) := by show _ = _; rw [HPj.out]; exact (congrArg (L ++ ·) hrest).trans (List.append_nil L)
        rw [HL0.out] at HRD
        have HIW := Lib.hid (OW.is HOr.out)
        have CBY := Lib.hid (fun w hL => ref_bytes [a0, a1, a2, a3] D v L w COK.out hL)
        go_wp2_with (first | refine blk_load rfl 52 _ rfl (k13.heap.size) rfl (ks .u64 [a0, a1, a2, a3] ++ [Value.int .i64 D, v]) (Kept.get MR.out 0 rfl) _ Try.underlying52 rfl (size_tx HA.out) ?_)
        refine (CBY.out _ HIW.out).mono ?_; rintro e w9 ⟨rfl, hb9⟩
        have M9 : Hid (Kept w w9 [(k13.heap.size, (ks .u64 [a0, a1, a2, a3] ++ [Value.int .i64 D, v])), (k10.heap.size, [.string s1, .bool c]), (w.heap.size, (ks .u64 (List.replicate 4 0) ++ [Value.int .i64 0, .slice none 0 0]))]) := Kept.below MR.out hb9
        have HO9 := Lib.hid (OW.below HOr.out hb9)
        have lh := LH.out
        have lx := LX.out
        have lt := LT.out
        have lb := LB.out
        clear hb9 MR HOr HIW CBY
        have hrd := HRD.out
        cases hw : I.whole [a0, a1, a2, a3] D L with
        | false =>
          rw [hw] at hrd
          simp only [Bool.false_eq_true, false_and, if_false, Prod.mk.injEq] at hrd
          obtain ⟨rfl, rfl, rfl, rfl⟩ := hrd
          clear hw HRD
          go_wp2_with (first | refine blk_store rfl 52 _ _ rfl w.heap.size rfl (ks .u64 (List.replicate 4 0) ++ [Value.int .i64 0, .slice none 0 0]) rfl _ (Kept.get M9.out 2 rfl) rfl Try.size_tx rfl ?_)
          intro u A0' U
          have HR9 : Hid (Blk u w.heap.size (ks .u64 (List.replicate 4 0) ++ [Value.int .i64 0, .slice none 0 0])) := A0'
          have HU9 : Hid (Below w.heap.size w u) := Below.trans M9.out.under (U.below (Nat.le_refl _))
          clear A0' U
          go_wp2_with fail
          refine bodyPost_ret (v := .tuple #[TV V.zeros 0 (.slice none 0 0), .bool false]) ?_ rfl ⟨_, rfl, OW.nil _ _ _, HU9.out⟩
          exact res_blk2 Try.results32 _ w.heap.size rfl _ HR9.out _ Try.underlying52 rfl Try.size_tx
        | true =>
          rw [hw] at hrd
          obtain ⟨bs, HBS⟩ : ∃ r, Hid (I.bytesS [a0, a1, a2, a3] D L = r) := ⟨_, rfl⟩
          rw [HBS.out] at hrd ⊢
          by_cases he : bs = s
          · subst he
            simp only [true_and, if_true, and_self, Prod.mk.injEq] at hrd
            obtain ⟨rfl, rfl, rfl, rfl⟩ := hrd
            clear hw HRD HBS
            go_wp2_with (first | refine blk_load rfl 52 _ rfl (k13.heap.size) rfl (ks .u64 [a0, a1, a2, a3] ++ [Value.int .i64 D, v]) (Kept.get M9.out 0 rfl) _ Try.underlying52 rfl (size_tx HA.out) ?_ | refine blk_store rfl 52 _ _ rfl w.heap.size rfl (ks .u64 [a0, a1, a2, a3] ++ [Value.int .i64 D, v]) rfl _ (Kept.get M9.out 2 rfl) rfl (size_tx HA.out) (one_tx HO9.out) ?_)
            intro u A0' U
            have HR9 : Hid (Blk u w.heap.size (ks .u64 [a0, a1, a2, a3] ++ [Value.int .i64 D, v])) := A0'
            have HO10 := Lib.hid (OW.mono (OW.far2 HO9.out U (by omega)) (show w.heap.size ≤ k16.heap.size by omega))
            have HU9 : Hid (Below w.heap.size w u) := Below.trans M9.out.under (U.below (Nat.le_refl _))
            clear A0' U
            go_wp2_with fail
            refine bodyPost_ret (v := .tuple #[TV [a0, a1, a2, a3] D v, .bool true]) ?_ rfl ⟨v, rfl, HO10.out, HU9.out⟩
            exact res_blk2 Try.results32 _ w.heap.size rfl _ HR9.out _ Try.underlying52 rfl (size_tx HA.out)
          · simp only [he, and_false, if_false, Prod.mk.injEq] at hrd
            obtain ⟨rfl, rfl, rfl, rfl⟩ := hrd
            have hse : (bs.toList == s.toList) = false := by rw [V.tol_eq, decide_eq_false he]
            clear hw HRD HBS
            go_wp2_with (first | refine blk_store rfl 52 _ _ rfl w.heap.size rfl (ks .u64 (List.replicate 4 0) ++ [Value.int .i64 0, .slice none 0 0]) rfl _ (Kept.get M9.out 2 rfl) rfl Try.size_tx rfl ?_)
            intro u A0' U
            have HR9 : Hid (Blk u w.heap.size (ks .u64 (List.replicate 4 0) ++ [Value.int .i64 0, .slice none 0 0])) := A0'
            have HU9 : Hid (Below w.heap.size w u) := Below.trans M9.out.under (U.below (Nat.le_refl _))
            clear A0' U
            go_wp2_with fail
            refine bodyPost_ret (v := .tuple #[TV V.zeros 0 (.slice none 0 0), .bool false]) ?_ rfl ⟨_, rfl, OW.nil _ _ _, HU9.out⟩
            exact res_blk2 Try.results32 _ w.heap.size rfl _ HR9.out _ Try.underlying52 rfl Try.size_tx
end Go.Proofs.Ytkfcbihofipcbaa.It
