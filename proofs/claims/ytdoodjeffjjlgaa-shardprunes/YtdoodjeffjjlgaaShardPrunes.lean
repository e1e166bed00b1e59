/-
  Pruned, whatever is read at the horizon, or beyond it, is as it was; what waits is not touched (the law ShardPrunes). No conditions.
-/
import Derived.Test.YtdoodjeffjjlgaaFrame

import Derived.Test.YtdoodjeffjjlgaaShardMath

import Derived.Test.YtdoodjeffjjlgaaShardDeal

import Derived.Test.YtdoodjeffjjlgaaFramePutT

import Derived.Test.YtdoodjeffjjlgaaFrameVecN

import Derived.Test.YtdoodjeffjjlgaaVecOfN

namespace Go.Proofs.Ytdoodjeffjjlgaa.shardPrunes

open Go.ChangeShapes Go.WideShapes Go.ChangeAt Go.RowKit

open Go.ChangeMaps (open_string shut_string)

open Go.Proofs.Ytdoodjeffjjlgaa.Vc Go.Proofs.Ytdoodjeffjjlgaa.Sp Go.Proofs.Ytdoodjeffjjlgaa.Rw Go.Proofs.Ytdoodjeffjjlgaa.Ch Go.Proofs.Ytdoodjeffjjlgaa.Se Go.Proofs.Ytdoodjeffjjlgaa.It Go.Proofs.Ytdoodjeffjjlgaa.Mk Go.Proofs.Ytdoodjeffjjlgaa.Sd

set_option linter.unusedVariables false

set_option linter.unusedSimpArgs false

set_option maxHeartbeats 64000000 in
set_option maxRecDepth 100000 in
theorem walk (dv0 : Value) (DL0 : List Dl) (px1 : I.Wt) (po1 : Bool) (pk1 : Nat) (a2 : List Nat) (o2 : Bool) (a3 : List Nat) (o3 : Bool) (kq1 : I.POk (px1, po1, pk1)) (w2 : V.Ok a2) (w3 : V.Ok a3) (w : World) (w0 : IsDs w dv0 DL0) (m0 : ∀ x ∈ DL0, DlOk w x) :
    Calls Try.prog 6 #[dv0, PV px1 po1 pk1, VV a2 o2, VV a3 o3] w fun e w' => e = .returned (.bool true) ∧ Below w.heap.size w w' := by
  have HDS : Hid (IsDs w dv0 DL0) := w0
  have HMO : Hid (∀ x ∈ DL0, DlOk w x) := m0
  obtain ⟨sa, cap, rfl, _, _, _⟩ := w0
  obtain ⟨n, HN⟩ : ∃ n, Hid (DL0.length = n) := ⟨_, rfl⟩
  rw [HN.out] at HDS ⊢
  clear m0
  obtain ⟨hh, h4, hvh⟩ := vec_any a2 o2 w2
  obtain ⟨g2, g4, hvg⟩ := vec_any a3 o3 w3
  obtain ⟨ff, HFJ⟩ : ∃ f, Hid (V.join hh g2 = f) := ⟨_, rfl⟩
  have hf4 : ff.length = 4 := by rw [← HFJ.out]; exact V.join_length h4 g4
  have HHF : Hid (∀ s : C.St, s.1.length = 4 → C.seen s hh = true → C.seen s ff = true) := fun s hs h9 => by
    show V.leq _ _ = true
    rw [← HFJ.out]
    exact seen_join hs h4 g4 h9
  have hj := fun u => join_any hh g2 u h4 g4
  rw [HFJ.out] at hj
  have hl2 := w2.len
  have hl3 := w3.len
  clear HFJ w2 w3
  obtain ⟨h0, h1, h2, h3, rfl⟩ := V.four h4
  obtain ⟨g0, g1, g2_, g3, rfl⟩ := V.four g4
  obtain ⟨f0, f1, f2, f3, rfl⟩ := V.four hf4
  obtain ⟨u0, u1, u2, u3, rfl⟩ := V.four hl2
  obtain ⟨m0, m1, m2, m3, rfl⟩ := V.four hl3
  have CVh : Hid (∀ u, Calls Try.prog 12 #[.agg [Value.int .u64 (u0 : Int), .int .u64 (u1 : Int), .int .u64 (u2 : Int), .int .u64 (u3 : Int), .bool o2].toArray] u fun e w' => e = .returned (.agg [Value.int .u64 (h0 : Int), .int .u64 (h1 : Int), .int .u64 (h2 : Int), .int .u64 (h3 : Int)].toArray) ∧ Below u.heap.size u w') := fun u => hvh u
  have CVg : Hid (∀ u, Calls Try.prog 12 #[.agg [Value.int .u64 (m0 : Int), .int .u64 (m1 : Int), .int .u64 (m2 : Int), .int .u64 (m3 : Int), .bool o3].toArray] u fun e w' => e = .returned (AV .u64 [g0, g1, g2_, g3]) ∧ Below u.heap.size u w') := fun u => hvg u
  have CJ : Hid (∀ u, Calls Try.prog 34 #[.agg [Value.int .u64 (h0 : Int), .int .u64 (h1 : Int), .int .u64 (h2 : Int), .int .u64 (h3 : Int)].toArray, AV .u64 [g0, g1, g2_, g3]] u fun e w' => e = .returned (.agg [Value.int .u64 (f0 : Int), .int .u64 (f1 : Int), .int .u64 (f2 : Int), .int .u64 (f3 : Int)].toArray) ∧ Below u.heap.size u w') := fun u => hj u
  clear hvh hvg hj h4 g4 hf4 hl2 hl3
  have CW0 := fun u => write_any px1 true pk1 u kq1.k (by have h9 : px1.2.2.1.size ≤ 140737488355328 := kq1.w.v; unfold maxLen; omega)
  obtain ⟨⟨kb, ke, kv, kg⟩, HKW⟩ : ∃ z : I.Wt, Hid (I.putW px1 true pk1 = z) := ⟨_, rfl⟩
  rw [HKW.out] at CW0
  clear HKW kq1
  obtain ⟨pb, pe, pv, pg⟩ := px1
  have CW : Hid (∀ u, Calls Try.prog 13 #[.agg [Value.string pb, .string pe, .string pv, .bool pg, .bool true, .int .u8 (pk1 : Int)].toArray] u fun e w' => e = .returned (.agg [Value.string kb, .string ke, .string kv, .bool kg].toArray) ∧ Below u.heap.size u w') := fun u => CW0 u
  clear CW0
  have CN : Hid (∀ u, Calls Try.prog 9 #[.int .i64 16] u fun e w' => ∃ s lb ch mb, e = .returned (.tuple #[.pointer (some ⟨s, 0, none⟩), .int .i64 0]) ∧ Sh w' s (ga lb ch mb [] [] V.zeros) ∧ Below u.heap.size u w' ∧ ∀ k ∈ (ga lb ch mb [] [] V.zeros).bl s, u.heap.size ≤ k ∧ k < w'.heap.size) := fun u => new_ok 16 (by decide) (by decide) u
  go_enter Try.func6, Try.ntmps6
  go_wp2_with (first | refine blk_box rfl 44 _ rfl [Value.string pb, .string pe, .string pv, .bool pg, .bool po1, .int .u8 (pk1 : Int)] rfl ?_)
  intro w1 A B Z
  have T1 : Hid (Sep w w1 [rB w.heap.size [Value.string pb, .string pe, .string pv, .bool pg, .bool po1, .int .u8 (pk1 : Int)]]) := (Sep.start w).box B Z A
  clear A B Z
  go_wp2_with (first | refine blk_box rfl 46 _ rfl [Value.int .u64 (u0 : Int), .int .u64 (u1 : Int), .int .u64 (u2 : Int), .int .u64 (u3 : Int), .bool o2] rfl ?_)
  intro w2 A B Z
  obtain ⟨bv, HBV⟩ : ∃ b, Hid (w1.heap.size = b) := ⟨_, rfl⟩
  have T2 : Hid (Sep w w2 [rB bv [Value.int .u64 (u0 : Int), .int .u64 (u1 : Int), .int .u64 (u2 : Int), .int .u64 (u3 : Int), .bool o2], rB w.heap.size [Value.string pb, .string pe, .string pv, .bool pg, .bool po1, .int .u8 (pk1 : Int)]]) := by
    show Sep _ _ _
    rw [← HBV.out]
    exact T1.out.box B Z A
  rw [HBV.out]
  clear A B Z T1 HBV
  go_wp2_with (first | refine blk_box rfl 46 _ rfl [Value.int .u64 (m0 : Int), .int .u64 (m1 : Int), .int .u64 (m2 : Int), .int .u64 (m3 : Int), .bool o3] rfl ?_)
  intro w3 A B Z
  obtain ⟨bm, HBM⟩ : ∃ b, Hid (w2.heap.size = b) := ⟨_, rfl⟩
  have T3 : Hid (Sep w w3 [rB bm [Value.int .u64 (m0 : Int), .int .u64 (m1 : Int), .int .u64 (m2 : Int), .int .u64 (m3 : Int), .bool o3], rB bv [Value.int .u64 (u0 : Int), .int .u64 (u1 : Int), .int .u64 (u2 : Int), .int .u64 (u3 : Int), .bool o2], rB w.heap.size [Value.string pb, .string pe, .string pv, .bool pg, .bool po1, .int .u8 (pk1 : Int)]]) := by
    show Sep _ _ _
    rw [← HBM.out]
    exact T2.out.box B Z A
  rw [HBM.out]
  clear A B Z T2 HBM
  go_wp2_with fail
  refine (examples_any _).mono ?_; rintro e w4 ⟨rfl, hb⟩
  have T4 := Lib.hid (T3.out.below hb)
  clear hb T3
  go_wp2_with fail
  refine (CN.out _).mono ?_; rintro e w5 ⟨s, lb, ch, mb, rfl, hs, hb, hn⟩
  have S5 : Hid (Sep w w5 [rS s (ga lb ch mb [] [] V.zeros), rB bm [Value.int .u64 (m0 : Int), .int .u64 (m1 : Int), .int .u64 (m2 : Int), .int .u64 (m3 : Int), .bool o3], rB bv [Value.int .u64 (u0 : Int), .int .u64 (u1 : Int), .int .u64 (u2 : Int), .int .u64 (u3 : Int), .bool o2], rB w.heap.size [Value.string pb, .string pe, .string pv, .bool pg, .bool po1, .int .u8 (pk1 : Int)]]) := shard_new T4.out hb hs hn
  clear hs hb hn T4 CN
  go_wp2_with fail
  go_loopw [12] (fun i wr => ∃ (j : Nat) (W : List Bt) (E : List En) (A : List Nat), j ≤ n ∧ j ≤ 10 ∧ i = .int .i64 (j : Int) ∧ Hid (W.length ≤ j) ∧ Hid (∀ b ∈ W, b.L.length ≤ 8) ∧ Hid (lim (vis E) (8 * j)) ∧ Hid ((vis E).length ≤ 8 * j) ∧ Hid (Sep w wr [rS s (ga lb ch mb W E A), rB bm [Value.int .u64 (m0 : Int), .int .u64 (m1 : Int), .int .u64 (m2 : Int), .int .u64 (m3 : Int), .bool o3], rB bv [Value.int .u64 (u0 : Int), .int .u64 (u1 : Int), .int .u64 (u2 : Int), .int .u64 (u3 : Int), .bool o2], rB w.heap.size [Value.string pb, .string pe, .string pv, .bool pg, .bool po1, .int .u8 (pk1 : Int)]])) (fun i _ => 10 - (intOf i).toNat)
  case atStart => exact ⟨0, [], [], V.zeros, by omega, by omega, rfl, Nat.le_refl _, (fun x hx => by cases hx), (fun x hx => by cases hx), Nat.le_refl _, S5⟩
  case round =>
    obtain ⟨j, W, E, A, hjn, hj10, rfl, HWL, HWB, HLM, HVL, Sr⟩ := hrel
    clear S5
    by_cases hlt : j < n
    · have i1 : (j : Int) < (n : Int) := by omega
      by_cases hl2 : j < 10
      · have i2 : (j : Int) < 10 := by omega
        obtain ⟨g, off, cap', hv, hg0, x, hx, hrow⟩ := IsDs.at HDS.out j (by rw [HN.out]; exact hlt)
        obtain rfl : sa = some ⟨g, off, none⟩ := by injection hv
        have hok := HMO.out x (List.mem_of_getElem? hx)
        have CD := Lib.hid (fun u (hu : Below w.heap.size w u) => deal_whole hok u hu)
        have HR := Lib.hid (dlS_right hok)
        have HA := Lib.hid (dlW_all hok)
        have HL := Lib.hid (dlW_len hok)
        have hs4 := (dlS_ok hok).len
        have hl4 := hok.v.len
        obtain ⟨pa, pc, ev⟩ := hok.puts.nilOrSome
        obtain ⟨⟨a, d⟩, HS⟩ : ∃ z : C.St, Hid (dlS x = z) := ⟨_, rfl⟩
        obtain ⟨MM, HM⟩ : ∃ z, Hid (dlW x = z) := ⟨_, rfl⟩
        rw [HS.out, HM.out] at CD
        rw [HS.out] at HR hs4
        rw [HM.out] at HA HL
        clear HS HM hok hx hv
        obtain ⟨xl, dd, mo, sv, PL, ow⟩ := x
        dsimp only at hl4 hs4 CD HR ev
        subst ev
        obtain ⟨pm, HPL⟩ : ∃ z, Hid (PL.length = z) := ⟨_, rfl⟩
        rw [HPL.out] at hrow CD
        obtain ⟨l0, l1, l2, l3, rfl⟩ := V.four hl4
        obtain ⟨a0, a1, a2, a3, rfl⟩ := V.four hs4
        clear hl4 hs4
        have HROW : Hid (wr.rangeAt g (off + 8 * j) [Value.int .u64 (l0 : Int), .int .u64 (l1 : Int), .int .u64 (l2 : Int), .int .u64 (l3 : Int), .int .i64 dd, .bool mo, .slice pa pm pc, .bool ow]) := fun k u hu => by rw [Sr.out.under.cell (p := ⟨g, off + 8 * j + k, none⟩) hg0]; exact hrow k u hu
        have hix : ∀ w, (Instr.indexAt 85 (.slice (some ⟨g, off, none⟩) n cap) (.int .i64 (j : Int))).run Try.prog w = .ok (.pointer (some ⟨g, off + 8 * j, none⟩)) w := fun w => index_dl g off n cap j hlt w
        clear hrow hg0
        go_wp2_with (first | refine wpList_load_mid rfl 40 _ rfl g (off + 8 * j) rfl [Value.int .u64 (l0 : Int), .int .u64 (l1 : Int), .int .u64 (l2 : Int), .int .u64 (l3 : Int), .int .i64 dd, .bool mo, .slice pa pm pc, .bool ow] _ HROW.out Try.underlying40 rfl Try.size_dl ?_ | refine blk_alloc rfl 40 [Value.int .u64 0, .int .u64 0, .int .u64 0, .int .u64 0, .int .i64 0, .bool false, .slice none 0 0, .bool false] rfl Try.info_dl ?_)
        intro w3 A9 B Z
        obtain ⟨bx, HBX⟩ : ∃ b, Hid (wr.heap.size = b) := ⟨_, rfl⟩
        go_wp2_with (first | refine blk_store rfl 40 _ _ rfl wr.heap.size rfl [Value.int .u64 (l0 : Int), .int .u64 (l1 : Int), .int .u64 (l2 : Int), .int .u64 (l3 : Int), .int .i64 dd, .bool mo, .slice pa pm pc, .bool ow] rfl _ A9 rfl Try.size_dl rfl ?_)
        intro w4 A8 U9
        have S4 : Hid (Sep w w4 [rB bx [Value.int .u64 (l0 : Int), .int .u64 (l1 : Int), .int .u64 (l2 : Int), .int .u64 (l3 : Int), .int .i64 dd, .bool mo, .slice pa pm pc, .bool ow], rS s (ga lb ch mb W E A), rB bm [Value.int .u64 (m0 : Int), .int .u64 (m1 : Int), .int .u64 (m2 : Int), .int .u64 (m3 : Int), .bool o3], rB bv [Value.int .u64 (u0 : Int), .int .u64 (u1 : Int), .int .u64 (u2 : Int), .int .u64 (u3 : Int), .bool o2], rB w.heap.size [Value.string pb, .string pe, .string pv, .bool pg, .bool po1, .int .u8 (pk1 : Int)]]) := by
          show Sep _ _ _
          rw [← HBX.out]
          exact Sep.fresh Sr.out B Z U9 A8
        rw [HBX.out]
        clear A9 B Z A8 U9 HBX Sr HROW hix
        have q7 := (S4.out.blk 0 rfl).cell 7 (.bool ow) rfl
        have f7 := (S4.out.blk 0 rfl).free 7 (by simp)
        have S5 : Hid (Sep w (w4.setCell ⟨bx, 7, none⟩ (.bool true)) [rB bx [Value.int .u64 (l0 : Int), .int .u64 (l1 : Int), .int .u64 (l2 : Int), .int .u64 (l3 : Int), .int .i64 dd, .bool mo, .slice pa pm pc, .bool true], rS s (ga lb ch mb W E A), rB bm [Value.int .u64 (m0 : Int), .int .u64 (m1 : Int), .int .u64 (m2 : Int), .int .u64 (m3 : Int), .bool o3], rB bv [Value.int .u64 (u0 : Int), .int .u64 (u1 : Int), .int .u64 (u2 : Int), .int .u64 (u3 : Int), .bool o2], rB w.heap.size [Value.string pb, .string pe, .string pv, .bool pg, .bool po1, .int .u8 (pk1 : Int)]]) := S4.out.upd 0 rfl (Upd.setCell _ _ _ _) (Blk.setc (S4.out.blk 0 rfl) 7 (by simp) (.bool true))
        go_wp2_with (first | refine blk_load rfl 40 _ rfl bx rfl [Value.int .u64 (l0 : Int), .int .u64 (l1 : Int), .int .u64 (l2 : Int), .int .u64 (l3 : Int), .int .i64 dd, .bool mo, .slice pa pm pc, .bool true] (S5.out.blk 0 rfl) _ Try.underlying40 rfl Try.size_dl ?_)
        generalize (w4.setCell ⟨bx, 7, none⟩ (.bool true)) = w5 at *
        clear S4 q7 f7
        refine (CD.out _ S5.out.under).mono ?_; rintro e w6 ⟨ta, tc, rfl, hw, hb⟩
        have S6 := Lib.hid (S5.out.below hb)
        obtain ⟨tm, HTM⟩ : ∃ m, Hid (MM.length = m) := ⟨_, rfl⟩
        rw [HTM.out] at hw HL ⊢
        have HW6 := Lib.hid hw
        clear hw hb S5 CD
        go_wp2_with (first | refine blk_alloc rfl 51 [Value.int .u64 0, .int .u64 0, .int .u64 0, .int .u64 0, .int .i64 0, .slice none 0 0] rfl Try.info_tz ?_)
        intro w7 A9 B Z
        obtain ⟨bt, HBT⟩ : ∃ b, Hid (w6.heap.size = b) := ⟨_, rfl⟩
        go_wp2_with (first | refine blk_store rfl 51 _ _ rfl w6.heap.size rfl [Value.int .u64 (a0 : Int), .int .u64 (a1 : Int), .int .u64 (a2 : Int), .int .u64 (a3 : Int), .int .i64 d, .slice ta tm tc] rfl _ A9 rfl It.Try.size_itx rfl ?_)
        intro w8 A8 U9
        have HW8 : Hid (IsWs w8 (.slice ta tm tc) MM) := HW6.out.below (B.trans (U9.below (Nat.le_refl _)))
        have S8 : Hid (Sep w w8 [rB bt [Value.int .u64 (a0 : Int), .int .u64 (a1 : Int), .int .u64 (a2 : Int), .int .u64 (a3 : Int), .int .i64 d, .slice ta tm tc], rB bx [Value.int .u64 (l0 : Int), .int .u64 (l1 : Int), .int .u64 (l2 : Int), .int .u64 (l3 : Int), .int .i64 dd, .bool mo, .slice pa pm pc, .bool true], rS s (ga lb ch mb W E A), rB bm [Value.int .u64 (m0 : Int), .int .u64 (m1 : Int), .int .u64 (m2 : Int), .int .u64 (m3 : Int), .bool o3], rB bv [Value.int .u64 (u0 : Int), .int .u64 (u1 : Int), .int .u64 (u2 : Int), .int .u64 (u3 : Int), .bool o2], rB w.heap.size [Value.string pb, .string pe, .string pv, .bool pg, .bool po1, .int .u8 (pk1 : Int)]]) := by
          show Sep _ _ _
          rw [← HBT.out]
          exact Sep.fresh S6.out B Z U9 A8
        rw [HBT.out]
        clear A9 B Z A8 U9 HBT S6 HW6
        have c5 := (S8.out.blk 0 rfl).cell 5 _ rfl
        go_wp2_with (first | refine wpList_load_mid rfl 35 _ rfl bt 0 rfl [Value.int .u64 (a0 : Int), .int .u64 (a1 : Int), .int .u64 (a2 : Int), .int .u64 (a3 : Int), .int .i64 d] _ (preb (vs := [.slice ta tm tc]) (S8.out.blk 0 rfl)) Try.underlying35 rfl Try.size_s ?_)
        refine (push_ok s (ga lb ch mb W E A) ([a0, a1, a2, a3], d) (.slice ta tm tc) MM _ (shard_sh S8.out 2 rfl) (shard_lt S8.out 2 rfl) rfl HW8.out HR.out HA.out (by have := HL.out; have := HTM.out; omega) (by show W.length < 16; have := HWL.out; omega)).mono ?_; rintro e k1 ⟨rfl, tv, hs, ht, hb⟩
        have Sq1 : Hid (Sep w k1 [rS s (ga lb ch mb (W ++ [(⟨([a0, a1, a2, a3], d), tv, MM⟩ : Bt)]) E A), rB bm [Value.int .u64 (m0 : Int), .int .u64 (m1 : Int), .int .u64 (m2 : Int), .int .u64 (m3 : Int), .bool o3], rB bv [Value.int .u64 (u0 : Int), .int .u64 (u1 : Int), .int .u64 (u2 : Int), .int .u64 (u3 : Int), .bool o2], rB w.heap.size [Value.string pb, .string pe, .string pv, .bool pg, .bool po1, .int .u8 (pk1 : Int)]]) := (shard_turn S8.out 2 rfl hs ht hb).tail.tail
        clear hs ht hb S8 HW8 c5 HR HA
        have HWB2 : Hid (∀ b ∈ (W ++ [(⟨([a0, a1, a2, a3], d), tv, MM⟩ : Bt)]), b.L.length ≤ 8) := fun b hb => by
          rcases List.mem_append.1 hb with h9 | h9
          · exact HWB.out b h9
          · rw [List.mem_singleton.1 h9]; show MM.length ≤ 8; have := HL.out; have := HTM.out; omega
        have HWL2 : Hid ((W ++ [(⟨([a0, a1, a2, a3], d), tv, MM⟩ : Bt)]).length ≤ j + 1) := by show _ ≤ _; rw [List.length_append]; have := HWL.out; show W.length + 1 ≤ _; omega
        have hne : (W ++ [(⟨([a0, a1, a2, a3], d), tv, MM⟩ : Bt)]) ≠ [] := by simp
        clear HWB HWL HL HTM
        obtain ⟨W1, HW1⟩ : ∃ z, Hid ((W ++ [(⟨([a0, a1, a2, a3], d), tv, MM⟩ : Bt)]) = z) := ⟨_, rfl⟩
        rw [HW1.out] at Sq1 HWB2 HWL2 hne
        clear HW1
        have HNE := Lib.hid hne
        clear hne
        obtain ⟨r, hr⟩ : ∃ r : Nat, j % 3 = r := ⟨_, rfl⟩
        have T0 : (j : Int).tmod 3 = (r : Int) := by rw [Int.tmod_eq_emod_of_nonneg (by omega)]; omega
        have T9 : (j : Int) % 3 = (r : Int) := by omega
        have HR3 : Hid (r < 3) := by show _ < _; omega
        clear hr
        have hr3 := HR3.out
        have hw3 : IntKind.i64.wrap (r : Int) = (r : Int) := by rw [IntKind.wrap_i64]; omega
        clear hr3
        by_cases hr2 : r < 2
        · have i3 : (r : Int) < 2 := by omega
          obtain ⟨b, W2, HWE⟩ : ∃ b W2, Hid (W1 = b :: W2) := by
            cases W1 with
            | nil => exact absurd rfl HNE.out
            | cons b W2 => exact ⟨b, W2, rfl⟩
          have hb8 : b.L.length ≤ 8 := HWB2.out b (by rw [HWE.out]; simp)
          go_wp2_with fail
          refine (step_ga b W2 (shard_sh Sq1.out 0 rfl) (shard_lt Sq1.out 0 rfl) HWE.out (8 * j) HLM.out (by omega)).mono ?_; rintro e k3 ⟨rfl, E2, A2, hs, -, hv, ht, hb⟩
          have Sq3 : Hid (Sep w k3 [rS s (ga lb ch mb W2 E2 A2), rB bm [Value.int .u64 (m0 : Int), .int .u64 (m1 : Int), .int .u64 (m2 : Int), .int .u64 (m3 : Int), .bool o3], rB bv [Value.int .u64 (u0 : Int), .int .u64 (u1 : Int), .int .u64 (u2 : Int), .int .u64 (u3 : Int), .bool o2], rB w.heap.size [Value.string pb, .string pe, .string pv, .bool pg, .bool po1, .int .u8 (pk1 : Int)]]) := shard_turn Sq1.out 0 rfl hs ht hb
          have HLM2 : Hid (lim (vis E2) (8 * (j + 1))) := by
            show lim _ _
            rw [hv]
            exact lim_after HLM.out _ _ (by omega)
          have HVL2 : Hid ((vis E2).length ≤ 8 * (j + 1)) := by
            show _ ≤ _
            rw [hv]
            have h8 := upsL_len b.s b.L (vis E)
            have h9 := HVL.out
            omega
          have HWB3 : Hid (∀ b ∈ W2, b.L.length ≤ 8) := fun x hx => HWB2.out x (by rw [HWE.out]; exact List.mem_cons_of_mem _ hx)
          have HWL3 : Hid (W2.length ≤ j + 1) := by show _ ≤ _; have h9 := HWL2.out; rw [HWE.out, List.length_cons] at h9; omega
          clear hs hv ht hb HLM HVL HWB2 HWL2 HWE Sq1 HNE
          go_wp2_with fail
          go_roundw
          case rel => exact ⟨j + 1, W2, E2, A2, by omega, by omega, by go_num, HWL3, HWB3, HLM2, HVL2, Sq3⟩
          case measure => simp [intOf]; omega
        · have i3 : ¬ (r : Int) < 2 := by omega
          have HLM2 : Hid (lim (vis E) (8 * (j + 1))) := fun x hx => by have := HLM.out x hx; omega
          have HVL2 : Hid ((vis E).length ≤ 8 * (j + 1)) := by show _ ≤ _; have := HVL.out; omega
          go_wp2_with fail
          go_roundw
          case rel => exact ⟨j + 1, W1, E, A, by omega, by omega, by go_num, HWL2, HWB2, HLM2, HVL2, Sq1⟩
          case measure => simp [intOf]; omega
      · have i2 : ¬ (j : Int) < 10 := by omega
        have HUP := Lib.hid (up_get (shard_sh Sr.out 0 rfl) (kb, ke))
        have HUA := Lib.hid (up_all (shard_sh Sr.out 0 rfl))
        obtain ⟨x0, x1, x2, x3, xd, X, HX⟩ : ∃ x0 x1 x2 x3 xd, ∃ y : I.Wt, Hid (rdV (getV (vis E) (kb, ke)) [h0, h1, h2, h3] = (([x0, x1, x2, x3], xd), y)) := rd_parts HUP.out _
        obtain ⟨y0, y1, y2, y3, yd, Y, HY⟩ : ∃ x0 x1 x2 x3 xd, ∃ y : I.Wt, Hid (rdV (getV (vis E) (kb, ke)) [f0, f1, f2, f3] = (([x0, x1, x2, x3], xd), y)) := rd_parts HUP.out _
        obtain ⟨xo, HXO⟩ : ∃ b, Hid (((C.read (getV (vis E) (kb, ke)) [h0, h1, h2, h3]).isSome && !X.2.2.2) = b) := ⟨_, rfl⟩
        obtain ⟨yo, HYO⟩ : ∃ b, Hid (((C.read (getV (vis E) (kb, ke)) [f0, f1, f2, f3]).isSome && !Y.2.2.2) = b) := ⟨_, rfl⟩
        obtain ⟨xv, HXV⟩ : ∃ b, Hid (X.2.2.1 = b) := ⟨_, rfl⟩
        obtain ⟨yv, HYV⟩ : ∃ b, Hid (Y.2.2.1 = b) := ⟨_, rfl⟩
        have HLT : Hid (∀ x ∈ vis E, x.2.length < 1000) := fun x hx => by have := HLM.out x hx; omega
        have HT1 : Hid (tot (vis E) ≤ 1000000) := tot_small HLM.out HVL.out (by omega) (by omega)
        obtain ⟨tt, HTT⟩ : ∃ t, Hid (tot (vis E) = t) := ⟨_, rfl⟩
        obtain ⟨gn, HGN⟩ : ∃ t, Hid (goneA (vis E) [h0, h1, h2, h3] = t) := ⟨_, rfl⟩
        obtain ⟨tp, HTP⟩ : ∃ t, Hid (tot (prA (vis E) [h0, h1, h2, h3]) = t) := ⟨_, rfl⟩
        have HSUM : Hid (gn + tp = tt) := by show _ = _; rw [← HTT.out, ← HGN.out, ← HTP.out]; exact gone_tot _ _
        have HTM : Hid (tt ≤ 1000000) := by show _ ≤ _; rw [← HTT.out]; exact HT1.out
        have CRx : Hid (∀ u, Sh u s (ga lb ch mb W E A) → (∀ k ∈ (ga lb ch mb W E A).bl s, k < u.heap.size) → Calls Try.prog 22 #[.pointer (some ⟨s, 0, none⟩), .string kb, .string ke, .agg [Value.int .u64 (h0 : Int), .int .u64 (h1 : Int), .int .u64 (h2 : Int), .int .u64 (h3 : Int)].toArray] u fun e w' => e = .returned (.tuple #[.string xv, .agg [Value.int .u64 (x0 : Int), .int .u64 (x1 : Int), .int .u64 (x2 : Int), .int .u64 (x3 : Int), .int .i64 xd].toArray, .bool xo]) ∧ Below u.heap.size u w') := fun u hS hl => by
          have h9 := read_ga kb ke [h0, h1, h2, h3] hS hl rfl HLT.out
          rw [HX.out] at h9
          dsimp only at h9
          rw [HXO.out, HXV.out] at h9
          exact h9
        have CRy : Hid (∀ u, Sh u s (ga lb ch mb W E A) → (∀ k ∈ (ga lb ch mb W E A).bl s, k < u.heap.size) → Calls Try.prog 22 #[.pointer (some ⟨s, 0, none⟩), .string kb, .string ke, .agg [Value.int .u64 (f0 : Int), .int .u64 (f1 : Int), .int .u64 (f2 : Int), .int .u64 (f3 : Int)].toArray] u fun e w' => e = .returned (.tuple #[.string yv, .agg [Value.int .u64 (y0 : Int), .int .u64 (y1 : Int), .int .u64 (y2 : Int), .int .u64 (y3 : Int), .int .i64 yd].toArray, .bool yo]) ∧ Below u.heap.size u w') := fun u hS hl => by
          have h9 := read_ga kb ke [f0, f1, f2, f3] hS hl rfl HLT.out
          rw [HY.out] at h9
          dsimp only at h9
          rw [HYO.out, HYV.out] at h9
          exact h9
        have CVe : Hid (∀ u, Sh u s (ga lb ch mb W E A) → (∀ k ∈ (ga lb ch mb W E A).bl s, k < u.heap.size) → Calls Try.prog 29 #[.pointer (some ⟨s, 0, none⟩)] u fun e w' => e = .returned (.int .i64 (tt : Int)) ∧ Below u.heap.size u w') := fun u hS hl => by
          have h9 := versions_ga hS hl HT1.out
          rw [HTT.out] at h9
          exact h9
        go_wp2_with (first | refine blk_load rfl 46 _ rfl bv rfl [Value.int .u64 (u0 : Int), .int .u64 (u1 : Int), .int .u64 (u2 : Int), .int .u64 (u3 : Int), .bool o2] (Sr.out.blk 2 rfl) _ Try.underlying46 rfl Vc.Try.size_vv ?_)
        refine (CVh.out _).mono ?_; rintro e k1 ⟨rfl, hb⟩
        have S1 := Lib.hid (Sr.out.below hb)
        clear hb Sr
        go_wp2_with (first | refine blk_alloc rfl 33 [Value.int .u64 0, .int .u64 0, .int .u64 0, .int .u64 0] rfl Try.info_vz ?_)
        intro n1 A9 B Z
        obtain ⟨bh, HBB⟩ : ∃ b, Hid (k1.heap.size = b) := ⟨_, rfl⟩
        go_wp2_with (first | refine blk_store rfl 33 _ _ rfl k1.heap.size rfl [Value.int .u64 (h0 : Int), .int .u64 (h1 : Int), .int .u64 (h2 : Int), .int .u64 (h3 : Int)] rfl _ A9 rfl Try.size_v rfl ?_)
        intro k2 A8 U9
        have S2 : Hid (Sep w k2 [rB bh [Value.int .u64 (h0 : Int), .int .u64 (h1 : Int), .int .u64 (h2 : Int), .int .u64 (h3 : Int)], rS s (ga lb ch mb W E A), rB bm [Value.int .u64 (m0 : Int), .int .u64 (m1 : Int), .int .u64 (m2 : Int), .int .u64 (m3 : Int), .bool o3], rB bv [Value.int .u64 (u0 : Int), .int .u64 (u1 : Int), .int .u64 (u2 : Int), .int .u64 (u3 : Int), .bool o2], rB w.heap.size [Value.string pb, .string pe, .string pv, .bool pg, .bool po1, .int .u8 (pk1 : Int)]]) := by
          show Sep _ _ _
          rw [← HBB.out]
          exact Sep.fresh S1.out B Z U9 A8
        rw [HBB.out]
        clear A9 B Z A8 U9 HBB S1
        have HRh : Hid (∀ u, Below k2.heap.size k2 u → u.rangeAt bh 0 [Value.int .u64 (h0 : Int), .int .u64 (h1 : Int), .int .u64 (h2 : Int), .int .u64 (h3 : Int)]) := fun u hu => ((S2.out.below hu).blk 0 rfl).1
        have HR2 : Hid (∀ u, Below k2.heap.size k2 u → u.rangeAt bm 0 [Value.int .u64 (m0 : Int), .int .u64 (m1 : Int), .int .u64 (m2 : Int), .int .u64 (m3 : Int), .bool o3]) := fun u hu => ((S2.out.below hu).blk 2 rfl).1
        go_wp2_with fail
        refine region_relt 5 [Spc.eq (.agg [Value.int .u64 (h0 : Int), .int .u64 (h1 : Int), .int .u64 (h2 : Int), .int .u64 (h3 : Int)].toArray), Spc.eq (.agg [Value.int .u64 (m0 : Int), .int .u64 (m1 : Int), .int .u64 (m2 : Int), .int .u64 (m3 : Int), .bool o3].toArray), Spc.eq (AV .u64 [g0, g1, g2_, g3]), Spc.eq (.agg [Value.int .u64 (f0 : Int), .int .u64 (f1 : Int), .int .u64 (f2 : Int), .int .u64 (f3 : Int)].toArray), Spc.blk k2.heap.size [Value.int .u64 0, .int .u64 0, .int .u64 0, .int .u64 0]] Try.mixed (by kernel_rfl) ?_
        refine r_blk_load rfl 33 _ rfl bh 0 rfl (by intro u hu hn; exact HRh.out u hu) _ Try.underlying33 rfl Try.size_v (fun K hK => ?_)
        go_simp
        refine hK _ ?_
        clear hK K
        refine r_blk_load rfl 46 _ rfl bm 0 rfl (by intro u hu hn; exact HR2.out u hu) _ Try.underlying46 rfl Vc.Try.size_vv (fun K hK => ?_)
        go_simp
        refine hK _ ?_
        clear hK K
        refine r_callv rfl 12 Try.f12 Try.func12 rfl rfl _ _ rfl [.agg [Value.int .u64 (m0 : Int), .int .u64 (m1 : Int), .int .u64 (m2 : Int), .int .u64 (m3 : Int), .bool o3].toArray] rfl (by intro u hu hn; exact CVg.out u) (fun K hK => ?_)
        go_simp
        refine hK _ ?_
        clear hK K
        refine r_callv rfl 34 Try.f34 Try.func34 rfl rfl _ _ rfl [.agg [Value.int .u64 (h0 : Int), .int .u64 (h1 : Int), .int .u64 (h2 : Int), .int .u64 (h3 : Int)].toArray, AV .u64 [g0, g1, g2_, g3]] rfl (by intro u hu hn; exact CJ.out u) (fun K hK => ?_)
        go_simp
        refine hK _ ?_
        clear hK K
        refine r_new rfl 33 rfl Try.info_vz (fun u hu => hu.size) (fun v hv K hK => ?_)
        obtain ⟨bf, rfl⟩ := hv
        go_simp
        refine hK _ ?_
        clear hK K
        refine r_nil ?_
        intro n2 hu hF
        obtain ⟨b, eb, hB, hlt9, hblk⟩ := hF 0 _ rfl
        obtain rfl : bf = b := by injection eb with h; injection h with h; injection h
        have hbel := hu
        clear eb hF HRh HR2
        refine blk_store rfl 33 _ _ rfl bf rfl [Value.int .u64 (f0 : Int), .int .u64 (f1 : Int), .int .u64 (f2 : Int), .int .u64 (f3 : Int)] rfl _ hblk rfl Try.size_v rfl ?_
        intro k3 A9 U9
        have S3 : Hid (Sep w k3 [rB bf [Value.int .u64 (f0 : Int), .int .u64 (f1 : Int), .int .u64 (f2 : Int), .int .u64 (f3 : Int)], rB bh [Value.int .u64 (h0 : Int), .int .u64 (h1 : Int), .int .u64 (h2 : Int), .int .u64 (h3 : Int)], rS s (ga lb ch mb W E A), rB bm [Value.int .u64 (m0 : Int), .int .u64 (m1 : Int), .int .u64 (m2 : Int), .int .u64 (m3 : Int), .bool o3], rB bv [Value.int .u64 (u0 : Int), .int .u64 (u1 : Int), .int .u64 (u2 : Int), .int .u64 (u3 : Int), .bool o2], rB w.heap.size [Value.string pb, .string pe, .string pv, .bool pg, .bool po1, .int .u8 (pk1 : Int)]]) := by
          refine Sep.push S2.out (hbel.trans (U9.below hB)) (rB bf [Value.int .u64 (f0 : Int), .int .u64 (f1 : Int), .int .u64 (f2 : Int), .int .u64 (f3 : Int)]) A9 (fun k hk => ?_)
          simp only [rB, List.mem_singleton] at hk
          subst hk
          exact ⟨hB, by rw [U9.size]; exact hlt9⟩
        clear A9 U9 hblk hbel hu hB hlt9 S2
        have q7 := (S3.out.blk 5 rfl).cell 4 (.bool po1) rfl
        have f7 := (S3.out.blk 5 rfl).free 4 (by simp)
        have S4 : Hid (Sep w (k3.setCell ⟨w.heap.size, 4, none⟩ (.bool true)) [rB bf [Value.int .u64 (f0 : Int), .int .u64 (f1 : Int), .int .u64 (f2 : Int), .int .u64 (f3 : Int)], rB bh [Value.int .u64 (h0 : Int), .int .u64 (h1 : Int), .int .u64 (h2 : Int), .int .u64 (h3 : Int)], rS s (ga lb ch mb W E A), rB bm [Value.int .u64 (m0 : Int), .int .u64 (m1 : Int), .int .u64 (m2 : Int), .int .u64 (m3 : Int), .bool o3], rB bv [Value.int .u64 (u0 : Int), .int .u64 (u1 : Int), .int .u64 (u2 : Int), .int .u64 (u3 : Int), .bool o2], rB w.heap.size [Value.string pb, .string pe, .string pv, .bool pg, .bool true, .int .u8 (pk1 : Int)]]) := S3.out.upd 5 rfl (Upd.setCell _ _ _ _) (Blk.setc (S3.out.blk 5 rfl) 4 (by simp) (.bool true))
        go_wp2_with (first | refine blk_load rfl 44 _ rfl w.heap.size rfl [Value.string pb, .string pe, .string pv, .bool pg, .bool true, .int .u8 (pk1 : Int)] (S4.out.blk 5 rfl) _ Try.underlying44 rfl Try.size_p ?_)
        generalize (k3.setCell ⟨w.heap.size, 4, none⟩ (.bool true)) = k4 at *
        clear S3 q7 f7
        refine (CW.out _).mono ?_; rintro e k5 ⟨rfl, hb⟩
        have S5 := Lib.hid (S4.out.below hb)
        clear hb S4
        go_wp2_with (first | refine blk_alloc rfl 42 [Value.string ⟨#[]⟩, .string ⟨#[]⟩, .string ⟨#[]⟩, .bool false] rfl Try.info_wz ?_)
        intro n5 A9 B Z
        obtain ⟨bk, HBB⟩ : ∃ b, Hid (k5.heap.size = b) := ⟨_, rfl⟩
        go_wp2_with (first | refine blk_store rfl 42 _ _ rfl k5.heap.size rfl [Value.string kb, .string ke, .string kv, .bool kg] rfl _ A9 rfl It.Try.size_w rfl ?_)
        intro k6 A8 U9
        have S6 : Hid (Sep w k6 [rB bk [Value.string kb, .string ke, .string kv, .bool kg], rB bf [Value.int .u64 (f0 : Int), .int .u64 (f1 : Int), .int .u64 (f2 : Int), .int .u64 (f3 : Int)], rB bh [Value.int .u64 (h0 : Int), .int .u64 (h1 : Int), .int .u64 (h2 : Int), .int .u64 (h3 : Int)], rS s (ga lb ch mb W E A), rB bm [Value.int .u64 (m0 : Int), .int .u64 (m1 : Int), .int .u64 (m2 : Int), .int .u64 (m3 : Int), .bool o3], rB bv [Value.int .u64 (u0 : Int), .int .u64 (u1 : Int), .int .u64 (u2 : Int), .int .u64 (u3 : Int), .bool o2], rB w.heap.size [Value.string pb, .string pe, .string pv, .bool pg, .bool true, .int .u8 (pk1 : Int)]]) := by
          show Sep _ _ _
          rw [← HBB.out]
          exact Sep.fresh S5.out B Z U9 A8
        rw [HBB.out]
        clear A9 B Z A8 U9 HBB S5
        have c0 := (S6.out.blk 0 rfl).cell 0 _ rfl
        have c1 := (S6.out.blk 0 rfl).cell 1 _ rfl
        go_wp2_with (first | refine blk_load rfl 33 _ rfl bh rfl [Value.int .u64 (h0 : Int), .int .u64 (h1 : Int), .int .u64 (h2 : Int), .int .u64 (h3 : Int)] (S6.out.blk 2 rfl) _ Try.underlying33 rfl Try.size_v ?_)
        clear c0 c1
        refine (CRx.out _ (shard_sh S6.out 3 rfl) (shard_lt S6.out 3 rfl)).mono ?_; rintro e k7 ⟨rfl, hb⟩
        have S7 := Lib.hid (S6.out.below hb)
        clear hb S6
        go_wp2_with (first | refine blk_alloc rfl 35 [Value.int .u64 0, .int .u64 0, .int .u64 0, .int .u64 0, .int .i64 0] rfl Try.info_st ?_)
        intro n7 A9 B Z
        obtain ⟨b1, HBB⟩ : ∃ b, Hid (k7.heap.size = b) := ⟨_, rfl⟩
        go_wp2_with (first | refine blk_store rfl 35 _ _ rfl k7.heap.size rfl [Value.int .u64 (x0 : Int), .int .u64 (x1 : Int), .int .u64 (x2 : Int), .int .u64 (x3 : Int), .int .i64 xd] rfl _ A9 rfl Try.size_s rfl ?_)
        intro k8 A8 U9
        have S8 : Hid (Sep w k8 [rB b1 [Value.int .u64 (x0 : Int), .int .u64 (x1 : Int), .int .u64 (x2 : Int), .int .u64 (x3 : Int), .int .i64 xd], rB bk [Value.string kb, .string ke, .string kv, .bool kg], rB bf [Value.int .u64 (f0 : Int), .int .u64 (f1 : Int), .int .u64 (f2 : Int), .int .u64 (f3 : Int)], rB bh [Value.int .u64 (h0 : Int), .int .u64 (h1 : Int), .int .u64 (h2 : Int), .int .u64 (h3 : Int)], rS s (ga lb ch mb W E A), rB bm [Value.int .u64 (m0 : Int), .int .u64 (m1 : Int), .int .u64 (m2 : Int), .int .u64 (m3 : Int), .bool o3], rB bv [Value.int .u64 (u0 : Int), .int .u64 (u1 : Int), .int .u64 (u2 : Int), .int .u64 (u3 : Int), .bool o2], rB w.heap.size [Value.string pb, .string pe, .string pv, .bool pg, .bool true, .int .u8 (pk1 : Int)]]) := by
          show Sep _ _ _
          rw [← HBB.out]
          exact Sep.fresh S7.out B Z U9 A8
        rw [HBB.out]
        clear A9 B Z A8 U9 HBB S7
        have c0 := (S8.out.blk 1 rfl).cell 0 _ rfl
        have c1 := (S8.out.blk 1 rfl).cell 1 _ rfl
        go_wp2_with (first | refine blk_load rfl 33 _ rfl bf rfl [Value.int .u64 (f0 : Int), .int .u64 (f1 : Int), .int .u64 (f2 : Int), .int .u64 (f3 : Int)] (S8.out.blk 2 rfl) _ Try.underlying33 rfl Try.size_v ?_)
        clear c0 c1
        refine (CRy.out _ (shard_sh S8.out 4 rfl) (shard_lt S8.out 4 rfl)).mono ?_; rintro e k9 ⟨rfl, hb⟩
        have S9 := Lib.hid (S8.out.below hb)
        clear hb S8
        go_wp2_with (first | refine blk_alloc rfl 35 [Value.int .u64 0, .int .u64 0, .int .u64 0, .int .u64 0, .int .i64 0] rfl Try.info_st ?_)
        intro n9 A9 B Z
        obtain ⟨b2, HBB⟩ : ∃ b, Hid (k9.heap.size = b) := ⟨_, rfl⟩
        go_wp2_with (first | refine blk_store rfl 35 _ _ rfl k9.heap.size rfl [Value.int .u64 (y0 : Int), .int .u64 (y1 : Int), .int .u64 (y2 : Int), .int .u64 (y3 : Int), .int .i64 yd] rfl _ A9 rfl Try.size_s rfl ?_)
        intro k10 A8 U9
        have S10 : Hid (Sep w k10 [rB b2 [Value.int .u64 (y0 : Int), .int .u64 (y1 : Int), .int .u64 (y2 : Int), .int .u64 (y3 : Int), .int .i64 yd], rB b1 [Value.int .u64 (x0 : Int), .int .u64 (x1 : Int), .int .u64 (x2 : Int), .int .u64 (x3 : Int), .int .i64 xd], rB bk [Value.string kb, .string ke, .string kv, .bool kg], rB bf [Value.int .u64 (f0 : Int), .int .u64 (f1 : Int), .int .u64 (f2 : Int), .int .u64 (f3 : Int)], rB bh [Value.int .u64 (h0 : Int), .int .u64 (h1 : Int), .int .u64 (h2 : Int), .int .u64 (h3 : Int)], rS s (ga lb ch mb W E A), rB bm [Value.int .u64 (m0 : Int), .int .u64 (m1 : Int), .int .u64 (m2 : Int), .int .u64 (m3 : Int), .bool o3], rB bv [Value.int .u64 (u0 : Int), .int .u64 (u1 : Int), .int .u64 (u2 : Int), .int .u64 (u3 : Int), .bool o2], rB w.heap.size [Value.string pb, .string pe, .string pv, .bool pg, .bool true, .int .u8 (pk1 : Int)]]) := by
          show Sep _ _ _
          rw [← HBB.out]
          exact Sep.fresh S9.out B Z U9 A8
        rw [HBB.out]
        clear A9 B Z A8 U9 HBB S9
        go_wp2_with fail
        refine (CVe.out _ (shard_sh S10.out 5 rfl) (shard_lt S10.out 5 rfl)).mono ?_; rintro e k11 ⟨rfl, hb⟩
        have S11 := Lib.hid (S10.out.below hb)
        clear hb S10
        go_wp2_with fail
        obtain ⟨wl, HWLN⟩ : ∃ z, Hid (W.length = z) := ⟨_, rfl⟩
        have hwc := waiting_ga (shard_sh S11.out 5 rfl)
        rw [HWLN.out] at hwc
        refine hwc.mono ?_; rintro e kw ⟨rfl, ek⟩
        subst ek
        clear hwc
        go_wp2_with (first | refine blk_load rfl 33 _ rfl bh rfl [Value.int .u64 (h0 : Int), .int .u64 (h1 : Int), .int .u64 (h2 : Int), .int .u64 (h3 : Int)] (S11.out.blk 4 rfl) _ Try.underlying33 rfl Try.size_v ?_)
        have hpc := prune_ga [h0, h1, h2, h3] (shard_sh S11.out 5 rfl) (shard_lt S11.out 5 rfl) rfl HLT.out (by have h8 := HSUM.out; have h9 := HTM.out; have h7 := HGN.out; omega)
        rw [HGN.out] at hpc
        refine hpc.mono ?_; rintro e k12 ⟨rfl, E2, hs, hv, ht, hb⟩
        clear hpc
        have S12 : Hid (Sep w k12 [rB b2 [Value.int .u64 (y0 : Int), .int .u64 (y1 : Int), .int .u64 (y2 : Int), .int .u64 (y3 : Int), .int .i64 yd], rB b1 [Value.int .u64 (x0 : Int), .int .u64 (x1 : Int), .int .u64 (x2 : Int), .int .u64 (x3 : Int), .int .i64 xd], rB bk [Value.string kb, .string ke, .string kv, .bool kg], rB bf [Value.int .u64 (f0 : Int), .int .u64 (f1 : Int), .int .u64 (f2 : Int), .int .u64 (f3 : Int)], rB bh [Value.int .u64 (h0 : Int), .int .u64 (h1 : Int), .int .u64 (h2 : Int), .int .u64 (h3 : Int)], rS s (ga lb ch mb W E2 A), rB bm [Value.int .u64 (m0 : Int), .int .u64 (m1 : Int), .int .u64 (m2 : Int), .int .u64 (m3 : Int), .bool o3], rB bv [Value.int .u64 (u0 : Int), .int .u64 (u1 : Int), .int .u64 (u2 : Int), .int .u64 (u3 : Int), .bool o2], rB w.heap.size [Value.string pb, .string pe, .string pv, .bool pg, .bool true, .int .u8 (pk1 : Int)]]) := shard_turn S11.out 5 rfl hs ht hb
        have HVE : Hid (vis E2 = prA (vis E) [h0, h1, h2, h3]) := hv
        clear hs hv ht hb S11
        have HLT2 : Hid (∀ x ∈ vis E2, x.2.length < 1000) := fun x hx => by rw [HVE.out] at hx; have := lim_prA HLM.out _ x hx; omega
        have CRx2 : Hid (∀ u, Sh u s (ga lb ch mb W E2 A) → (∀ k ∈ (ga lb ch mb W E2 A).bl s, k < u.heap.size) → Calls Try.prog 22 #[.pointer (some ⟨s, 0, none⟩), .string kb, .string ke, .agg [Value.int .u64 (h0 : Int), .int .u64 (h1 : Int), .int .u64 (h2 : Int), .int .u64 (h3 : Int)].toArray] u fun e w' => e = .returned (.tuple #[.string xv, .agg [Value.int .u64 (x0 : Int), .int .u64 (x1 : Int), .int .u64 (x2 : Int), .int .u64 (x3 : Int), .int .i64 xd].toArray, .bool xo]) ∧ Below u.heap.size u w') := fun u hS hl => by
          have h9 := read_ga kb ke [h0, h1, h2, h3] hS hl rfl HLT2.out
          rw [HVE.out, read_prA HUP.out (fun s _ h => h), show rdV (getV (prA (vis E) [h0, h1, h2, h3]) (kb, ke)) [h0, h1, h2, h3] = rdV (getV (vis E) (kb, ke)) [h0, h1, h2, h3] by unfold rdV; rw [read_prA HUP.out (fun s _ h => h)]] at h9
          rw [HX.out] at h9
          dsimp only at h9
          rw [HXO.out, HXV.out] at h9
          exact h9
        have CRy2 : Hid (∀ u, Sh u s (ga lb ch mb W E2 A) → (∀ k ∈ (ga lb ch mb W E2 A).bl s, k < u.heap.size) → Calls Try.prog 22 #[.pointer (some ⟨s, 0, none⟩), .string kb, .string ke, .agg [Value.int .u64 (f0 : Int), .int .u64 (f1 : Int), .int .u64 (f2 : Int), .int .u64 (f3 : Int)].toArray] u fun e w' => e = .returned (.tuple #[.string yv, .agg [Value.int .u64 (y0 : Int), .int .u64 (y1 : Int), .int .u64 (y2 : Int), .int .u64 (y3 : Int), .int .i64 yd].toArray, .bool yo]) ∧ Below u.heap.size u w') := fun u hS hl => by
          have h9 := read_ga kb ke [f0, f1, f2, f3] hS hl rfl HLT2.out
          rw [HVE.out, read_prA HUP.out HHF.out, show rdV (getV (prA (vis E) [h0, h1, h2, h3]) (kb, ke)) [f0, f1, f2, f3] = rdV (getV (vis E) (kb, ke)) [f0, f1, f2, f3] by unfold rdV; rw [read_prA HUP.out HHF.out]] at h9
          rw [HY.out] at h9
          dsimp only at h9
          rw [HYO.out, HYV.out] at h9
          exact h9
        have CVe2 : Hid (∀ u, Sh u s (ga lb ch mb W E2 A) → (∀ k ∈ (ga lb ch mb W E2 A).bl s, k < u.heap.size) → Calls Try.prog 29 #[.pointer (some ⟨s, 0, none⟩)] u fun e w' => e = .returned (.int .i64 (tp : Int)) ∧ Below u.heap.size u w') := fun u hS hl => by
          have h9 := versions_ga hS hl (by rw [HVE.out, HTP.out]; have h8 := HSUM.out; have h7 := HTM.out; omega)
          rw [HVE.out, HTP.out] at h9
          exact h9
        have CP2 : Hid (∀ u, Sh u s (ga lb ch mb W E2 A) → (∀ k ∈ (ga lb ch mb W E2 A).bl s, k < u.heap.size) → Calls Try.prog 16 #[.pointer (some ⟨s, 0, none⟩), .agg [Value.int .u64 (h0 : Int), .int .u64 (h1 : Int), .int .u64 (h2 : Int), .int .u64 (h3 : Int)].toArray] u fun e w' => e = .returned (.int .i64 0) ∧ ∃ E3, Sh w' s (ga lb ch mb W E3 A) ∧ Turn ((ga lb ch mb W E2 A).bl s) u w' ∧ ∀ k ∈ (ga lb ch mb W E3 A).bl s, (k ∈ (ga lb ch mb W E2 A).bl s ∨ u.heap.size ≤ k) ∧ k < w'.heap.size) := fun u hS hl => by
          have hg9 : goneA (vis E2) [h0, h1, h2, h3] = 0 := by rw [HVE.out]; exact gone_twice _ _ HUA.out
          have h9 := prune_ga [h0, h1, h2, h3] hS hl rfl HLT2.out (by omega)
          rw [hg9] at h9
          refine h9.mono ?_
          rintro e w' ⟨rfl, E3, q1, q2, q3, q4⟩
          exact ⟨rfl, E3, q1, q3, q4⟩
        clear HUP HUA HX HY HXO HYO HXV HYV HLT HLT2 HT1 HTT HGN HTP HLM HVL HWL HWB CRx CRy CVe
        have c0 := (S12.out.blk 2 rfl).cell 0 _ rfl
        have c1 := (S12.out.blk 2 rfl).cell 1 _ rfl
        go_wp2_with (first | refine blk_load rfl 33 _ rfl bh rfl [Value.int .u64 (h0 : Int), .int .u64 (h1 : Int), .int .u64 (h2 : Int), .int .u64 (h3 : Int)] (S12.out.blk 4 rfl) _ Try.underlying33 rfl Try.size_v ?_)
        clear c0 c1
        refine (CRx2.out _ (shard_sh S12.out 5 rfl) (shard_lt S12.out 5 rfl)).mono ?_; rintro e k13 ⟨rfl, hb⟩
        have S13 := Lib.hid (S12.out.below hb)
        clear hb S12
        go_wp2_with (first | refine blk_alloc rfl 35 [Value.int .u64 0, .int .u64 0, .int .u64 0, .int .u64 0, .int .i64 0] rfl Try.info_st ?_)
        intro n13 A9 B Z
        obtain ⟨b3, HBB⟩ : ∃ b, Hid (k13.heap.size = b) := ⟨_, rfl⟩
        go_wp2_with (first | refine blk_store rfl 35 _ _ rfl k13.heap.size rfl [Value.int .u64 (x0 : Int), .int .u64 (x1 : Int), .int .u64 (x2 : Int), .int .u64 (x3 : Int), .int .i64 xd] rfl _ A9 rfl Try.size_s rfl ?_)
        intro k14 A8 U9
        have S14 : Hid (Sep w k14 [rB b3 [Value.int .u64 (x0 : Int), .int .u64 (x1 : Int), .int .u64 (x2 : Int), .int .u64 (x3 : Int), .int .i64 xd], rB b2 [Value.int .u64 (y0 : Int), .int .u64 (y1 : Int), .int .u64 (y2 : Int), .int .u64 (y3 : Int), .int .i64 yd], rB b1 [Value.int .u64 (x0 : Int), .int .u64 (x1 : Int), .int .u64 (x2 : Int), .int .u64 (x3 : Int), .int .i64 xd], rB bk [Value.string kb, .string ke, .string kv, .bool kg], rB bf [Value.int .u64 (f0 : Int), .int .u64 (f1 : Int), .int .u64 (f2 : Int), .int .u64 (f3 : Int)], rB bh [Value.int .u64 (h0 : Int), .int .u64 (h1 : Int), .int .u64 (h2 : Int), .int .u64 (h3 : Int)], rS s (ga lb ch mb W E2 A), rB bm [Value.int .u64 (m0 : Int), .int .u64 (m1 : Int), .int .u64 (m2 : Int), .int .u64 (m3 : Int), .bool o3], rB bv [Value.int .u64 (u0 : Int), .int .u64 (u1 : Int), .int .u64 (u2 : Int), .int .u64 (u3 : Int), .bool o2], rB w.heap.size [Value.string pb, .string pe, .string pv, .bool pg, .bool true, .int .u8 (pk1 : Int)]]) := by
          show Sep _ _ _
          rw [← HBB.out]
          exact Sep.fresh S13.out B Z U9 A8
        rw [HBB.out]
        clear A9 B Z A8 U9 HBB S13
        have c0 := (S14.out.blk 3 rfl).cell 0 _ rfl
        have c1 := (S14.out.blk 3 rfl).cell 1 _ rfl
        go_wp2_with (first | refine blk_load rfl 33 _ rfl bf rfl [Value.int .u64 (f0 : Int), .int .u64 (f1 : Int), .int .u64 (f2 : Int), .int .u64 (f3 : Int)] (S14.out.blk 4 rfl) _ Try.underlying33 rfl Try.size_v ?_)
        clear c0 c1
        refine (CRy2.out _ (shard_sh S14.out 6 rfl) (shard_lt S14.out 6 rfl)).mono ?_; rintro e k15 ⟨rfl, hb⟩
        have S15 := Lib.hid (S14.out.below hb)
        clear hb S14
        go_wp2_with (first | refine blk_alloc rfl 35 [Value.int .u64 0, .int .u64 0, .int .u64 0, .int .u64 0, .int .i64 0] rfl Try.info_st ?_)
        intro n15 A9 B Z
        obtain ⟨b4, HBB⟩ : ∃ b, Hid (k15.heap.size = b) := ⟨_, rfl⟩
        go_wp2_with (first | refine blk_store rfl 35 _ _ rfl k15.heap.size rfl [Value.int .u64 (y0 : Int), .int .u64 (y1 : Int), .int .u64 (y2 : Int), .int .u64 (y3 : Int), .int .i64 yd] rfl _ A9 rfl Try.size_s rfl ?_)
        intro k16 A8 U9
        have S16 : Hid (Sep w k16 [rB b4 [Value.int .u64 (y0 : Int), .int .u64 (y1 : Int), .int .u64 (y2 : Int), .int .u64 (y3 : Int), .int .i64 yd], rB b3 [Value.int .u64 (x0 : Int), .int .u64 (x1 : Int), .int .u64 (x2 : Int), .int .u64 (x3 : Int), .int .i64 xd], rB b2 [Value.int .u64 (y0 : Int), .int .u64 (y1 : Int), .int .u64 (y2 : Int), .int .u64 (y3 : Int), .int .i64 yd], rB b1 [Value.int .u64 (x0 : Int), .int .u64 (x1 : Int), .int .u64 (x2 : Int), .int .u64 (x3 : Int), .int .i64 xd], rB bk [Value.string kb, .string ke, .string kv, .bool kg], rB bf [Value.int .u64 (f0 : Int), .int .u64 (f1 : Int), .int .u64 (f2 : Int), .int .u64 (f3 : Int)], rB bh [Value.int .u64 (h0 : Int), .int .u64 (h1 : Int), .int .u64 (h2 : Int), .int .u64 (h3 : Int)], rS s (ga lb ch mb W E2 A), rB bm [Value.int .u64 (m0 : Int), .int .u64 (m1 : Int), .int .u64 (m2 : Int), .int .u64 (m3 : Int), .bool o3], rB bv [Value.int .u64 (u0 : Int), .int .u64 (u1 : Int), .int .u64 (u2 : Int), .int .u64 (u3 : Int), .bool o2], rB w.heap.size [Value.string pb, .string pe, .string pv, .bool pg, .bool true, .int .u8 (pk1 : Int)]]) := by
          show Sep _ _ _
          rw [← HBB.out]
          exact Sep.fresh S15.out B Z U9 A8
        rw [HBB.out]
        clear A9 B Z A8 U9 HBB S15
        have hsm := HSUM.out
        have htm := HTM.out
        have hd : (tt : Int) - (tp : Int) = (gn : Int) := by omega
        have hwd : IntKind.i64.wrap (gn : Int) = (gn : Int) := by rw [IntKind.wrap_i64]; omega
        clear hsm htm
        go_wp2_with fail
        refine (CVe2.out _ (shard_sh S16.out 7 rfl) (shard_lt S16.out 7 rfl)).mono ?_; rintro e k17 ⟨rfl, hb⟩
        have S17 := Lib.hid (S16.out.below hb)
        clear hb S16
        go_wp2_with (first | refine blk_loadg (by rfl) 33 _ rfl bh rfl [Value.int .u64 (h0 : Int), .int .u64 (h1 : Int), .int .u64 (h2 : Int), .int .u64 (h3 : Int)] (S17.out.blk 6 rfl) _ Try.underlying33 rfl Try.size_v ?_)
        refine (CP2.out _ (shard_sh S17.out 7 rfl) (shard_lt S17.out 7 rfl)).mono ?_; rintro e k18 ⟨rfl, E3, hs, ht, hb⟩
        have S18 : Hid (Sep w k18 [rB b4 [Value.int .u64 (y0 : Int), .int .u64 (y1 : Int), .int .u64 (y2 : Int), .int .u64 (y3 : Int), .int .i64 yd], rB b3 [Value.int .u64 (x0 : Int), .int .u64 (x1 : Int), .int .u64 (x2 : Int), .int .u64 (x3 : Int), .int .i64 xd], rB b2 [Value.int .u64 (y0 : Int), .int .u64 (y1 : Int), .int .u64 (y2 : Int), .int .u64 (y3 : Int), .int .i64 yd], rB b1 [Value.int .u64 (x0 : Int), .int .u64 (x1 : Int), .int .u64 (x2 : Int), .int .u64 (x3 : Int), .int .i64 xd], rB bk [Value.string kb, .string ke, .string kv, .bool kg], rB bf [Value.int .u64 (f0 : Int), .int .u64 (f1 : Int), .int .u64 (f2 : Int), .int .u64 (f3 : Int)], rB bh [Value.int .u64 (h0 : Int), .int .u64 (h1 : Int), .int .u64 (h2 : Int), .int .u64 (h3 : Int)], rS s (ga lb ch mb W E3 A), rB bm [Value.int .u64 (m0 : Int), .int .u64 (m1 : Int), .int .u64 (m2 : Int), .int .u64 (m3 : Int), .bool o3], rB bv [Value.int .u64 (u0 : Int), .int .u64 (u1 : Int), .int .u64 (u2 : Int), .int .u64 (u3 : Int), .bool o2], rB w.heap.size [Value.string pb, .string pe, .string pv, .bool pg, .bool true, .int .u8 (pk1 : Int)]]) := shard_turn S17.out 7 rfl hs ht hb
        clear hs ht hb S17
        go_wp2_with fail
        have hwc := waiting_ga (shard_sh S18.out 7 rfl)
        rw [HWLN.out] at hwc
        refine hwc.mono ?_; rintro e kw2 ⟨rfl, ek⟩
        subst ek
        clear hwc
        have HU := Lib.hid S18.out.under
        go_wp2_with fail
        go_ret
        exact ⟨rfl, HU.out⟩
    · have i1 : ¬ (j : Int) < (n : Int) := by omega
      have HUP := Lib.hid (up_get (shard_sh Sr.out 0 rfl) (kb, ke))
      have HUA := Lib.hid (up_all (shard_sh Sr.out 0 rfl))
      obtain ⟨x0, x1, x2, x3, xd, X, HX⟩ : ∃ x0 x1 x2 x3 xd, ∃ y : I.Wt, Hid (rdV (getV (vis E) (kb, ke)) [h0, h1, h2, h3] = (([x0, x1, x2, x3], xd), y)) := rd_parts HUP.out _
      obtain ⟨y0, y1, y2, y3, yd, Y, HY⟩ : ∃ x0 x1 x2 x3 xd, ∃ y : I.Wt, Hid (rdV (getV (vis E) (kb, ke)) [f0, f1, f2, f3] = (([x0, x1, x2, x3], xd), y)) := rd_parts HUP.out _
      obtain ⟨xo, HXO⟩ : ∃ b, Hid (((C.read (getV (vis E) (kb, ke)) [h0, h1, h2, h3]).isSome && !X.2.2.2) = b) := ⟨_, rfl⟩
      obtain ⟨yo, HYO⟩ : ∃ b, Hid (((C.read (getV (vis E) (kb, ke)) [f0, f1, f2, f3]).isSome && !Y.2.2.2) = b) := ⟨_, rfl⟩
      obtain ⟨xv, HXV⟩ : ∃ b, Hid (X.2.2.1 = b) := ⟨_, rfl⟩
      obtain ⟨yv, HYV⟩ : ∃ b, Hid (Y.2.2.1 = b) := ⟨_, rfl⟩
      have HLT : Hid (∀ x ∈ vis E, x.2.length < 1000) := fun x hx => by have := HLM.out x hx; omega
      have HT1 : Hid (tot (vis E) ≤ 1000000) := tot_small HLM.out HVL.out (by omega) (by omega)
      obtain ⟨tt, HTT⟩ : ∃ t, Hid (tot (vis E) = t) := ⟨_, rfl⟩
      obtain ⟨gn, HGN⟩ : ∃ t, Hid (goneA (vis E) [h0, h1, h2, h3] = t) := ⟨_, rfl⟩
      obtain ⟨tp, HTP⟩ : ∃ t, Hid (tot (prA (vis E) [h0, h1, h2, h3]) = t) := ⟨_, rfl⟩
      have HSUM : Hid (gn + tp = tt) := by show _ = _; rw [← HTT.out, ← HGN.out, ← HTP.out]; exact gone_tot _ _
      have HTM : Hid (tt ≤ 1000000) := by show _ ≤ _; rw [← HTT.out]; exact HT1.out
      have CRx : Hid (∀ u, Sh u s (ga lb ch mb W E A) → (∀ k ∈ (ga lb ch mb W E A).bl s, k < u.heap.size) → Calls Try.prog 22 #[.pointer (some ⟨s, 0, none⟩), .string kb, .string ke, .agg [Value.int .u64 (h0 : Int), .int .u64 (h1 : Int), .int .u64 (h2 : Int), .int .u64 (h3 : Int)].toArray] u fun e w' => e = .returned (.tuple #[.string xv, .agg [Value.int .u64 (x0 : Int), .int .u64 (x1 : Int), .int .u64 (x2 : Int), .int .u64 (x3 : Int), .int .i64 xd].toArray, .bool xo]) ∧ Below u.heap.size u w') := fun u hS hl => by
        have h9 := read_ga kb ke [h0, h1, h2, h3] hS hl rfl HLT.out
        rw [HX.out] at h9
        dsimp only at h9
        rw [HXO.out, HXV.out] at h9
        exact h9
      have CRy : Hid (∀ u, Sh u s (ga lb ch mb W E A) → (∀ k ∈ (ga lb ch mb W E A).bl s, k < u.heap.size) → Calls Try.prog 22 #[.pointer (some ⟨s, 0, none⟩), .string kb, .string ke, .agg [Value.int .u64 (f0 : Int), .int .u64 (f1 : Int), .int .u64 (f2 : Int), .int .u64 (f3 : Int)].toArray] u fun e w' => e = .returned (.tuple #[.string yv, .agg [Value.int .u64 (y0 : Int), .int .u64 (y1 : Int), .int .u64 (y2 : Int), .int .u64 (y3 : Int), .int .i64 yd].toArray, .bool yo]) ∧ Below u.heap.size u w') := fun u hS hl => by
        have h9 := read_ga kb ke [f0, f1, f2, f3] hS hl rfl HLT.out
        rw [HY.out] at h9
        dsimp only at h9
        rw [HYO.out, HYV.out] at h9
        exact h9
      have CVe : Hid (∀ u, Sh u s (ga lb ch mb W E A) → (∀ k ∈ (ga lb ch mb W E A).bl s, k < u.heap.size) → Calls Try.prog 29 #[.pointer (some ⟨s, 0, none⟩)] u fun e w' => e = .returned (.int .i64 (tt : Int)) ∧ Below u.heap.size u w') := fun u hS hl => by
        have h9 := versions_ga hS hl HT1.out
        rw [HTT.out] at h9
        exact h9
      go_wp2_with (first | refine blk_load rfl 46 _ rfl bv rfl [Value.int .u64 (u0 : Int), .int .u64 (u1 : Int), .int .u64 (u2 : Int), .int .u64 (u3 : Int), .bool o2] (Sr.out.blk 2 rfl) _ Try.underlying46 rfl Vc.Try.size_vv ?_)
      refine (CVh.out _).mono ?_; rintro e k1 ⟨rfl, hb⟩
      have S1 := Lib.hid (Sr.out.below hb)
      clear hb Sr
      go_wp2_with (first | refine blk_alloc rfl 33 [Value.int .u64 0, .int .u64 0, .int .u64 0, .int .u64 0] rfl Try.info_vz ?_)
      intro n1 A9 B Z
      obtain ⟨bh, HBB⟩ : ∃ b, Hid (k1.heap.size = b) := ⟨_, rfl⟩
      go_wp2_with (first | refine blk_store rfl 33 _ _ rfl k1.heap.size rfl [Value.int .u64 (h0 : Int), .int .u64 (h1 : Int), .int .u64 (h2 : Int), .int .u64 (h3 : Int)] rfl _ A9 rfl Try.size_v rfl ?_)
      intro k2 A8 U9
      have S2 : Hid (Sep w k2 [rB bh [Value.int .u64 (h0 : Int), .int .u64 (h1 : Int), .int .u64 (h2 : Int), .int .u64 (h3 : Int)], rS s (ga lb ch mb W E A), rB bm [Value.int .u64 (m0 : Int), .int .u64 (m1 : Int), .int .u64 (m2 : Int), .int .u64 (m3 : Int), .bool o3], rB bv [Value.int .u64 (u0 : Int), .int .u64 (u1 : Int), .int .u64 (u2 : Int), .int .u64 (u3 : Int), .bool o2], rB w.heap.size [Value.string pb, .string pe, .string pv, .bool pg, .bool po1, .int .u8 (pk1 : Int)]]) := by
        show Sep _ _ _
        rw [← HBB.out]
        exact Sep.fresh S1.out B Z U9 A8
      rw [HBB.out]
      clear A9 B Z A8 U9 HBB S1
      have HRh : Hid (∀ u, Below k2.heap.size k2 u → u.rangeAt bh 0 [Value.int .u64 (h0 : Int), .int .u64 (h1 : Int), .int .u64 (h2 : Int), .int .u64 (h3 : Int)]) := fun u hu => ((S2.out.below hu).blk 0 rfl).1
      have HR2 : Hid (∀ u, Below k2.heap.size k2 u → u.rangeAt bm 0 [Value.int .u64 (m0 : Int), .int .u64 (m1 : Int), .int .u64 (m2 : Int), .int .u64 (m3 : Int), .bool o3]) := fun u hu => ((S2.out.below hu).blk 2 rfl).1
      go_wp2_with fail
      refine region_relt 5 [Spc.eq (.agg [Value.int .u64 (h0 : Int), .int .u64 (h1 : Int), .int .u64 (h2 : Int), .int .u64 (h3 : Int)].toArray), Spc.eq (.agg [Value.int .u64 (m0 : Int), .int .u64 (m1 : Int), .int .u64 (m2 : Int), .int .u64 (m3 : Int), .bool o3].toArray), Spc.eq (AV .u64 [g0, g1, g2_, g3]), Spc.eq (.agg [Value.int .u64 (f0 : Int), .int .u64 (f1 : Int), .int .u64 (f2 : Int), .int .u64 (f3 : Int)].toArray), Spc.blk k2.heap.size [Value.int .u64 0, .int .u64 0, .int .u64 0, .int .u64 0]] Try.mixed (by kernel_rfl) ?_
      refine r_blk_load rfl 33 _ rfl bh 0 rfl (by intro u hu hn; exact HRh.out u hu) _ Try.underlying33 rfl Try.size_v (fun K hK => ?_)
      go_simp
      refine hK _ ?_
      clear hK K
      refine r_blk_load rfl 46 _ rfl bm 0 rfl (by intro u hu hn; exact HR2.out u hu) _ Try.underlying46 rfl Vc.Try.size_vv (fun K hK => ?_)
      go_simp
      refine hK _ ?_
      clear hK K
      refine r_callv rfl 12 Try.f12 Try.func12 rfl rfl _ _ rfl [.agg [Value.int .u64 (m0 : Int), .int .u64 (m1 : Int), .int .u64 (m2 : Int), .int .u64 (m3 : Int), .bool o3].toArray] rfl (by intro u hu hn; exact CVg.out u) (fun K hK => ?_)
      go_simp
      refine hK _ ?_
      clear hK K
      refine r_callv rfl 34 Try.f34 Try.func34 rfl rfl _ _ rfl [.agg [Value.int .u64 (h0 : Int), .int .u64 (h1 : Int), .int .u64 (h2 : Int), .int .u64 (h3 : Int)].toArray, AV .u64 [g0, g1, g2_, g3]] rfl (by intro u hu hn; exact CJ.out u) (fun K hK => ?_)
      go_simp
      refine hK _ ?_
      clear hK K
      refine r_new rfl 33 rfl Try.info_vz (fun u hu => hu.size) (fun v hv K hK => ?_)
      obtain ⟨bf, rfl⟩ := hv
      go_simp
      refine hK _ ?_
      clear hK K
      refine r_nil ?_
      intro n2 hu hF
      obtain ⟨b, eb, hB, hlt9, hblk⟩ := hF 0 _ rfl
      obtain rfl : bf = b := by injection eb with h; injection h with h; injection h
      have hbel := hu
      clear eb hF HRh HR2
      refine blk_store rfl 33 _ _ rfl bf rfl [Value.int .u64 (f0 : Int), .int .u64 (f1 : Int), .int .u64 (f2 : Int), .int .u64 (f3 : Int)] rfl _ hblk rfl Try.size_v rfl ?_
      intro k3 A9 U9
      have S3 : Hid (Sep w k3 [rB bf [Value.int .u64 (f0 : Int), .int .u64 (f1 : Int), .int .u64 (f2 : Int), .int .u64 (f3 : Int)], rB bh [Value.int .u64 (h0 : Int), .int .u64 (h1 : Int), .int .u64 (h2 : Int), .int .u64 (h3 : Int)], rS s (ga lb ch mb W E A), rB bm [Value.int .u64 (m0 : Int), .int .u64 (m1 : Int), .int .u64 (m2 : Int), .int .u64 (m3 : Int), .bool o3], rB bv [Value.int .u64 (u0 : Int), .int .u64 (u1 : Int), .int .u64 (u2 : Int), .int .u64 (u3 : Int), .bool o2], rB w.heap.size [Value.string pb, .string pe, .string pv, .bool pg, .bool po1, .int .u8 (pk1 : Int)]]) := by
        refine Sep.push S2.out (hbel.trans (U9.below hB)) (rB bf [Value.int .u64 (f0 : Int), .int .u64 (f1 : Int), .int .u64 (f2 : Int), .int .u64 (f3 : Int)]) A9 (fun k hk => ?_)
        simp only [rB, List.mem_singleton] at hk
        subst hk
        exact ⟨hB, by rw [U9.size]; exact hlt9⟩
      clear A9 U9 hblk hbel hu hB hlt9 S2
      have q7 := (S3.out.blk 5 rfl).cell 4 (.bool po1) rfl
      have f7 := (S3.out.blk 5 rfl).free 4 (by simp)
      have S4 : Hid (Sep w (k3.setCell ⟨w.heap.size, 4, none⟩ (.bool true)) [rB bf [Value.int .u64 (f0 : Int), .int .u64 (f1 : Int), .int .u64 (f2 : Int), .int .u64 (f3 : Int)], rB bh [Value.int .u64 (h0 : Int), .int .u64 (h1 : Int), .int .u64 (h2 : Int), .int .u64 (h3 : Int)], rS s (ga lb ch mb W E A), rB bm [Value.int .u64 (m0 : Int), .int .u64 (m1 : Int), .int .u64 (m2 : Int), .int .u64 (m3 : Int), .bool o3], rB bv [Value.int .u64 (u0 : Int), .int .u64 (u1 : Int), .int .u64 (u2 : Int), .int .u64 (u3 : Int), .bool o2], rB w.heap.size [Value.string pb, .string pe, .string pv, .bool pg, .bool true, .int .u8 (pk1 : Int)]]) := S3.out.upd 5 rfl (Upd.setCell _ _ _ _) (Blk.setc (S3.out.blk 5 rfl) 4 (by simp) (.bool true))
      go_wp2_with (first | refine blk_load rfl 44 _ rfl w.heap.size rfl [Value.string pb, .string pe, .string pv, .bool pg, .bool true, .int .u8 (pk1 : Int)] (S4.out.blk 5 rfl) _ Try.underlying44 rfl Try.size_p ?_)
      generalize (k3.setCell ⟨w.heap.size, 4, none⟩ (.bool true)) = k4 at *
      clear S3 q7 f7
      refine (CW.out _).mono ?_; rintro e k5 ⟨rfl, hb⟩
      have S5 := Lib.hid (S4.out.below hb)
      clear hb S4
      go_wp2_with (first | refine blk_alloc rfl 42 [Value.string ⟨#[]⟩, .string ⟨#[]⟩, .string ⟨#[]⟩, .bool false] rfl Try.info_wz ?_)
      intro n5 A9 B Z
      obtain ⟨bk, HBB⟩ : ∃ b, Hid (k5.heap.size = b) := ⟨_, rfl⟩
      go_wp2_with (first | refine blk_store rfl 42 _ _ rfl k5.heap.size rfl [Value.string kb, .string ke, .string kv, .bool kg] rfl _ A9 rfl It.Try.size_w rfl ?_)
      intro k6 A8 U9
      have S6 : Hid (Sep w k6 [rB bk [Value.string kb, .string ke, .string kv, .bool kg], rB bf [Value.int .u64 (f0 : Int), .int .u64 (f1 : Int), .int .u64 (f2 : Int), .int .u64 (f3 : Int)], rB bh [Value.int .u64 (h0 : Int), .int .u64 (h1 : Int), .int .u64 (h2 : Int), .int .u64 (h3 : Int)], rS s (ga lb ch mb W E A), rB bm [Value.int .u64 (m0 : Int), .int .u64 (m1 : Int), .int .u64 (m2 : Int), .int .u64 (m3 : Int), .bool o3], rB bv [Value.int .u64 (u0 : Int), .int .u64 (u1 : Int), .int .u64 (u2 : Int), .int .u64 (u3 : Int), .bool o2], rB w.heap.size [Value.string pb, .string pe, .string pv, .bool pg, .bool true, .int .u8 (pk1 : Int)]]) := by
        show Sep _ _ _
        rw [← HBB.out]
        exact Sep.fresh S5.out B Z U9 A8
      rw [HBB.out]
      clear A9 B Z A8 U9 HBB S5
      have c0 := (S6.out.blk 0 rfl).cell 0 _ rfl
      have c1 := (S6.out.blk 0 rfl).cell 1 _ rfl
      go_wp2_with (first | refine blk_load rfl 33 _ rfl bh rfl [Value.int .u64 (h0 : Int), .int .u64 (h1 : Int), .int .u64 (h2 : Int), .int .u64 (h3 : Int)] (S6.out.blk 2 rfl) _ Try.underlying33 rfl Try.size_v ?_)
      clear c0 c1
      refine (CRx.out _ (shard_sh S6.out 3 rfl) (shard_lt S6.out 3 rfl)).mono ?_; rintro e k7 ⟨rfl, hb⟩
      have S7 := Lib.hid (S6.out.below hb)
      clear hb S6
      go_wp2_with (first | refine blk_alloc rfl 35 [Value.int .u64 0, .int .u64 0, .int .u64 0, .int .u64 0, .int .i64 0] rfl Try.info_st ?_)
      intro n7 A9 B Z
      obtain ⟨b1, HBB⟩ : ∃ b, Hid (k7.heap.size = b) := ⟨_, rfl⟩
      go_wp2_with (first | refine blk_store rfl 35 _ _ rfl k7.heap.size rfl [Value.int .u64 (x0 : Int), .int .u64 (x1 : Int), .int .u64 (x2 : Int), .int .u64 (x3 : Int), .int .i64 xd] rfl _ A9 rfl Try.size_s rfl ?_)
      intro k8 A8 U9
      have S8 : Hid (Sep w k8 [rB b1 [Value.int .u64 (x0 : Int), .int .u64 (x1 : Int), .int .u64 (x2 : Int), .int .u64 (x3 : Int), .int .i64 xd], rB bk [Value.string kb, .string ke, .string kv, .bool kg], rB bf [Value.int .u64 (f0 : Int), .int .u64 (f1 : Int), .int .u64 (f2 : Int), .int .u64 (f3 : Int)], rB bh [Value.int .u64 (h0 : Int), .int .u64 (h1 : Int), .int .u64 (h2 : Int), .int .u64 (h3 : Int)], rS s (ga lb ch mb W E A), rB bm [Value.int .u64 (m0 : Int), .int .u64 (m1 : Int), .int .u64 (m2 : Int), .int .u64 (m3 : Int), .bool o3], rB bv [Value.int .u64 (u0 : Int), .int .u64 (u1 : Int), .int .u64 (u2 : Int), .int .u64 (u3 : Int), .bool o2], rB w.heap.size [Value.string pb, .string pe, .string pv, .bool pg, .bool true, .int .u8 (pk1 : Int)]]) := by
        show Sep _ _ _
        rw [← HBB.out]
        exact Sep.fresh S7.out B Z U9 A8
      rw [HBB.out]
      clear A9 B Z A8 U9 HBB S7
      have c0 := (S8.out.blk 1 rfl).cell 0 _ rfl
      have c1 := (S8.out.blk 1 rfl).cell 1 _ rfl
      go_wp2_with (first | refine blk_load rfl 33 _ rfl bf rfl [Value.int .u64 (f0 : Int), .int .u64 (f1 : Int), .int .u64 (f2 : Int), .int .u64 (f3 : Int)] (S8.out.blk 2 rfl) _ Try.underlying33 rfl Try.size_v ?_)
      clear c0 c1
      refine (CRy.out _ (shard_sh S8.out 4 rfl) (shard_lt S8.out 4 rfl)).mono ?_; rintro e k9 ⟨rfl, hb⟩
      have S9 := Lib.hid (S8.out.below hb)
      clear hb S8
      go_wp2_with (first | refine blk_alloc rfl 35 [Value.int .u64 0, .int .u64 0, .int .u64 0, .int .u64 0, .int .i64 0] rfl Try.info_st ?_)
      intro n9 A9 B Z
      obtain ⟨b2, HBB⟩ : ∃ b, Hid (k9.heap.size = b) := ⟨_, rfl⟩
      go_wp2_with (first | refine blk_store rfl 35 _ _ rfl k9.heap.size rfl [Value.int .u64 (y0 : Int), .int .u64 (y1 : Int), .int .u64 (y2 : Int), .int .u64 (y3 : Int), .int .i64 yd] rfl _ A9 rfl Try.size_s rfl ?_)
      intro k10 A8 U9
      have S10 : Hid (Sep w k10 [rB b2 [Value.int .u64 (y0 : Int), .int .u64 (y1 : Int), .int .u64 (y2 : Int), .int .u64 (y3 : Int), .int .i64 yd], rB b1 [Value.int .u64 (x0 : Int), .int .u64 (x1 : Int), .int .u64 (x2 : Int), .int .u64 (x3 : Int), .int .i64 xd], rB bk [Value.string kb, .string ke, .string kv, .bool kg], rB bf [Value.int .u64 (f0 : Int), .int .u64 (f1 : Int), .int .u64 (f2 : Int), .int .u64 (f3 : Int)], rB bh [Value.int .u64 (h0 : Int), .int .u64 (h1 : Int), .int .u64 (h2 : Int), .int .u64 (h3 : Int)], rS s (ga lb ch mb W E A), rB bm [Value.int .u64 (m0 : Int), .int .u64 (m1 : Int), .int .u64 (m2 : Int), .int .u64 (m3 : Int), .bool o3], rB bv [Value.int .u64 (u0 : Int), .int .u64 (u1 : Int), .int .u64 (u2 : Int), .int .u64 (u3 : Int), .bool o2], rB w.heap.size [Value.string pb, .string pe, .string pv, .bool pg, .bool true, .int .u8 (pk1 : Int)]]) := by
        show Sep _ _ _
        rw [← HBB.out]
        exact Sep.fresh S9.out B Z U9 A8
      rw [HBB.out]
      clear A9 B Z A8 U9 HBB S9
      go_wp2_with fail
      refine (CVe.out _ (shard_sh S10.out 5 rfl) (shard_lt S10.out 5 rfl)).mono ?_; rintro e k11 ⟨rfl, hb⟩
      have S11 := Lib.hid (S10.out.below hb)
      clear hb S10
      go_wp2_with fail
      obtain ⟨wl, HWLN⟩ : ∃ z, Hid (W.length = z) := ⟨_, rfl⟩
      have hwc := waiting_ga (shard_sh S11.out 5 rfl)
      rw [HWLN.out] at hwc
      refine hwc.mono ?_; rintro e kw ⟨rfl, ek⟩
      subst ek
      clear hwc
      go_wp2_with (first | refine blk_load rfl 33 _ rfl bh rfl [Value.int .u64 (h0 : Int), .int .u64 (h1 : Int), .int .u64 (h2 : Int), .int .u64 (h3 : Int)] (S11.out.blk 4 rfl) _ Try.underlying33 rfl Try.size_v ?_)
      have hpc := prune_ga [h0, h1, h2, h3] (shard_sh S11.out 5 rfl) (shard_lt S11.out 5 rfl) rfl HLT.out (by have h8 := HSUM.out; have h9 := HTM.out; have h7 := HGN.out; omega)
      rw [HGN.out] at hpc
      refine hpc.mono ?_; rintro e k12 ⟨rfl, E2, hs, hv, ht, hb⟩
      clear hpc
      have S12 : Hid (Sep w k12 [rB b2 [Value.int .u64 (y0 : Int), .int .u64 (y1 : Int), .int .u64 (y2 : Int), .int .u64 (y3 : Int), .int .i64 yd], rB b1 [Value.int .u64 (x0 : Int), .int .u64 (x1 : Int), .int .u64 (x2 : Int), .int .u64 (x3 : Int), .int .i64 xd], rB bk [Value.string kb, .string ke, .string kv, .bool kg], rB bf [Value.int .u64 (f0 : Int), .int .u64 (f1 : Int), .int .u64 (f2 : Int), .int .u64 (f3 : Int)], rB bh [Value.int .u64 (h0 : Int), .int .u64 (h1 : Int), .int .u64 (h2 : Int), .int .u64 (h3 : Int)], rS s (ga lb ch mb W E2 A), rB bm [Value.int .u64 (m0 : Int), .int .u64 (m1 : Int), .int .u64 (m2 : Int), .int .u64 (m3 : Int), .bool o3], rB bv [Value.int .u64 (u0 : Int), .int .u64 (u1 : Int), .int .u64 (u2 : Int), .int .u64 (u3 : Int), .bool o2], rB w.heap.size [Value.string pb, .string pe, .string pv, .bool pg, .bool true, .int .u8 (pk1 : Int)]]) := shard_turn S11.out 5 rfl hs ht hb
      have HVE : Hid (vis E2 = prA (vis E) [h0, h1, h2, h3]) := hv
      clear hs hv ht hb S11
      have HLT2 : Hid (∀ x ∈ vis E2, x.2.length < 1000) := fun x hx => by rw [HVE.out] at hx; have := lim_prA HLM.out _ x hx; omega
      have CRx2 : Hid (∀ u, Sh u s (ga lb ch mb W E2 A) → (∀ k ∈ (ga lb ch mb W E2 A).bl s, k < u.heap.size) → Calls Try.prog 22 #[.pointer (some ⟨s, 0, none⟩), .string kb, .string ke, .agg [Value.int .u64 (h0 : Int), .int .u64 (h1 : Int), .int .u64 (h2 : Int), .int .u64 (h3 : Int)].toArray] u fun e w' => e = .returned (.tuple #[.string xv, .agg [Value.int .u64 (x0 : Int), .int .u64 (x1 : Int), .int .u64 (x2 : Int), .int .u64 (x3 : Int), .int .i64 xd].toArray, .bool xo]) ∧ Below u.heap.size u w') := fun u hS hl => by
        have h9 := read_ga kb ke [h0, h1, h2, h3] hS hl rfl HLT2.out
        rw [HVE.out, read_prA HUP.out (fun s _ h => h), show rdV (getV (prA (vis E) [h0, h1, h2, h3]) (kb, ke)) [h0, h1, h2, h3] = rdV (getV (vis E) (kb, ke)) [h0, h1, h2, h3] by unfold rdV; rw [read_prA HUP.out (fun s _ h => h)]] at h9
        rw [HX.out] at h9
        dsimp only at h9
        rw [HXO.out, HXV.out] at h9
        exact h9
      have CRy2 : Hid (∀ u, Sh u s (ga lb ch mb W E2 A) → (∀ k ∈ (ga lb ch mb W E2 A).bl s, k < u.heap.size) → Calls Try.prog 22 #[.pointer (some ⟨s, 0, none⟩), .string kb, .string ke, .agg [Value.int .u64 (f0 : Int), .int .u64 (f1 : Int), .int .u64 (f2 : Int), .int .u64 (f3 : Int)].toArray] u fun e w' => e = .returned (.tuple #[.string yv, .agg [Value.int .u64 (y0 : Int), .int .u64 (y1 : Int), .int .u64 (y2 : Int), .int .u64 (y3 : Int), .int .i64 yd].toArray, .bool yo]) ∧ Below u.heap.size u w') := fun u hS hl => by
        have h9 := read_ga kb ke [f0, f1, f2, f3] hS hl rfl HLT2.out
        rw [HVE.out, read_prA HUP.out HHF.out, show rdV (getV (prA (vis E) [h0, h1, h2, h3]) (kb, ke)) [f0, f1, f2, f3] = rdV (getV (vis E) (kb, ke)) [f0, f1, f2, f3] by unfold rdV; rw [read_prA HUP.out HHF.out]] at h9
        rw [HY.out] at h9
        dsimp only at h9
        rw [HYO.out, HYV.out] at h9
        exact h9
      have CVe2 : Hid (∀ u, Sh u s (ga lb ch mb W E2 A) → (∀ k ∈ (ga lb ch mb W E2 A).bl s, k < u.heap.size) → Calls Try.prog 29 #[.pointer (some ⟨s, 0, none⟩)] u fun e w' => e = .returned (.int .i64 (tp : Int)) ∧ Below u.heap.size u w') := fun u hS hl => by
        have h9 := versions_ga hS hl (by rw [HVE.out, HTP.out]; have h8 := HSUM.out; have h7 := HTM.out; omega)
        rw [HVE.out, HTP.out] at h9
        exact h9
      have CP2 : Hid (∀ u, Sh u s (ga lb ch mb W E2 A) → (∀ k ∈ (ga lb ch mb W E2 A).bl s, k < u.heap.size) → Calls Try.prog 16 #[.pointer (some ⟨s, 0, none⟩), .agg [Value.int .u64 (h0 : Int), .int .u64 (h1 : Int), .int .u64 (h2 : Int), .int .u64 (h3 : Int)].toArray] u fun e w' => e = .returned (.int .i64 0) ∧ ∃ E3, Sh w' s (ga lb ch mb W E3 A) ∧ Turn ((ga lb ch mb W E2 A).bl s) u w' ∧ ∀ k ∈ (ga lb ch mb W E3 A).bl s, (k ∈ (ga lb ch mb W E2 A).bl s ∨ u.heap.size ≤ k) ∧ k < w'.heap.size) := fun u hS hl => by
        have hg9 : goneA (vis E2) [h0, h1, h2, h3] = 0 := by rw [HVE.out]; exact gone_twice _ _ HUA.out
        have h9 := prune_ga [h0, h1, h2, h3] hS hl rfl HLT2.out (by omega)
        rw [hg9] at h9
        refine h9.mono ?_
        rintro e w' ⟨rfl, E3, q1, q2, q3, q4⟩
        exact ⟨rfl, E3, q1, q3, q4⟩
      clear HUP HUA HX HY HXO HYO HXV HYV HLT HLT2 HT1 HTT HGN HTP HLM HVL HWL HWB CRx CRy CVe
      have c0 := (S12.out.blk 2 rfl).cell 0 _ rfl
      have c1 := (S12.out.blk 2 rfl).cell 1 _ rfl
      go_wp2_with (first | refine blk_load rfl 33 _ rfl bh rfl [Value.int .u64 (h0 : Int), .int .u64 (h1 : Int), .int .u64 (h2 : Int), .int .u64 (h3 : Int)] (S12.out.blk 4 rfl) _ Try.underlying33 rfl Try.size_v ?_)
      clear c0 c1
      refine (CRx2.out _ (shard_sh S12.out 5 rfl) (shard_lt S12.out 5 rfl)).mono ?_; rintro e k13 ⟨rfl, hb⟩
      have S13 := Lib.hid (S12.out.below hb)
      clear hb S12
      go_wp2_with (first | refine blk_alloc rfl 35 [Value.int .u64 0, .int .u64 0, .int .u64 0, .int .u64 0, .int .i64 0] rfl Try.info_st ?_)
      intro n13 A9 B Z
      obtain ⟨b3, HBB⟩ : ∃ b, Hid (k13.heap.size = b) := ⟨_, rfl⟩
      go_wp2_with (first | refine blk_store rfl 35 _ _ rfl k13.heap.size rfl [Value.int .u64 (x0 : Int), .int .u64 (x1 : Int), .int .u64 (x2 : Int), .int .u64 (x3 : Int), .int .i64 xd] rfl _ A9 rfl Try.size_s rfl ?_)
      intro k14 A8 U9
      have S14 : Hid (Sep w k14 [rB b3 [Value.int .u64 (x0 : Int), .int .u64 (x1 : Int), .int .u64 (x2 : Int), .int .u64 (x3 : Int), .int .i64 xd], rB b2 [Value.int .u64 (y0 : Int), .int .u64 (y1 : Int), .int .u64 (y2 : Int), .int .u64 (y3 : Int), .int .i64 yd], rB b1 [Value.int .u64 (x0 : Int), .int .u64 (x1 : Int), .int .u64 (x2 : Int), .int .u64 (x3 : Int), .int .i64 xd], rB bk [Value.string kb, .string ke, .string kv, .bool kg], rB bf [Value.int .u64 (f0 : Int), .int .u64 (f1 : Int), .int .u64 (f2 : Int), .int .u64 (f3 : Int)], rB bh [Value.int .u64 (h0 : Int), .int .u64 (h1 : Int), .int .u64 (h2 : Int), .int .u64 (h3 : Int)], rS s (ga lb ch mb W E2 A), rB bm [Value.int .u64 (m0 : Int), .int .u64 (m1 : Int), .int .u64 (m2 : Int), .int .u64 (m3 : Int), .bool o3], rB bv [Value.int .u64 (u0 : Int), .int .u64 (u1 : Int), .int .u64 (u2 : Int), .int .u64 (u3 : Int), .bool o2], rB w.heap.size [Value.string pb, .string pe, .string pv, .bool pg, .bool true, .int .u8 (pk1 : Int)]]) := by
        show Sep _ _ _
        rw [← HBB.out]
        exact Sep.fresh S13.out B Z U9 A8
      rw [HBB.out]
      clear A9 B Z A8 U9 HBB S13
      have c0 := (S14.out.blk 3 rfl).cell 0 _ rfl
      have c1 := (S14.out.blk 3 rfl).cell 1 _ rfl
      go_wp2_with (first | refine blk_load rfl 33 _ rfl bf rfl [Value.int .u64 (f0 : Int), .int .u64 (f1 : Int), .int .u64 (f2 : Int), .int .u64 (f3 : Int)] (S14.out.blk 4 rfl) _ Try.underlying33 rfl Try.size_v ?_)
      clear c0 c1
      refine (CRy2.out _ (shard_sh S14.out 6 rfl) (shard_lt S14.out 6 rfl)).mono ?_; rintro e k15 ⟨rfl, hb⟩
      have S15 := Lib.hid (S14.out.below hb)
      clear hb S14
      go_wp2_with (first | refine blk_alloc rfl 35 [Value.int .u64 0, .int .u64 0, .int .u64 0, .int .u64 0, .int .i64 0] rfl Try.info_st ?_)
      intro n15 A9 B Z
      obtain ⟨b4, HBB⟩ : ∃ b, Hid (k15.heap.size = b) := ⟨_, rfl⟩
      go_wp2_with (first | refine blk_store rfl 35 _ _ rfl k15.heap.size rfl [Value.int .u64 (y0 : Int), .int .u64 (y1 : Int), .int .u64 (y2 : Int), .int .u64 (y3 : Int), .int .i64 yd] rfl _ A9 rfl Try.size_s rfl ?_)
      intro k16 A8 U9
      have S16 : Hid (Sep w k16 [rB b4 [Value.int .u64 (y0 : Int), .int .u64 (y1 : Int), .int .u64 (y2 : Int), .int .u64 (y3 : Int), .int .i64 yd], rB b3 [Value.int .u64 (x0 : Int), .int .u64 (x1 : Int), .int .u64 (x2 : Int), .int .u64 (x3 : Int), .int .i64 xd], rB b2 [Value.int .u64 (y0 : Int), .int .u64 (y1 : Int), .int .u64 (y2 : Int), .int .u64 (y3 : Int), .int .i64 yd], rB b1 [Value.int .u64 (x0 : Int), .int .u64 (x1 : Int), .int .u64 (x2 : Int), .int .u64 (x3 : Int), .int .i64 xd], rB bk [Value.string kb, .string ke, .string kv, .bool kg], rB bf [Value.int .u64 (f0 : Int), .int .u64 (f1 : Int), .int .u64 (f2 : Int), .int .u64 (f3 : Int)], rB bh [Value.int .u64 (h0 : Int), .int .u64 (h1 : Int), .int .u64 (h2 : Int), .int .u64 (h3 : Int)], rS s (ga lb ch mb W E2 A), rB bm [Value.int .u64 (m0 : Int), .int .u64 (m1 : Int), .int .u64 (m2 : Int), .int .u64 (m3 : Int), .bool o3], rB bv [Value.int .u64 (u0 : Int), .int .u64 (u1 : Int), .int .u64 (u2 : Int), .int .u64 (u3 : Int), .bool o2], rB w.heap.size [Value.string pb, .string pe, .string pv, .bool pg, .bool true, .int .u8 (pk1 : Int)]]) := by
        show Sep _ _ _
        rw [← HBB.out]
        exact Sep.fresh S15.out B Z U9 A8
      rw [HBB.out]
      clear A9 B Z A8 U9 HBB S15
      have hsm := HSUM.out
      have htm := HTM.out
      have hd : (tt : Int) - (tp : Int) = (gn : Int) := by omega
      have hwd : IntKind.i64.wrap (gn : Int) = (gn : Int) := by rw [IntKind.wrap_i64]; omega
      clear hsm htm
      go_wp2_with fail
      refine (CVe2.out _ (shard_sh S16.out 7 rfl) (shard_lt S16.out 7 rfl)).mono ?_; rintro e k17 ⟨rfl, hb⟩
      have S17 := Lib.hid (S16.out.below hb)
      clear hb S16
      go_wp2_with (first | refine blk_loadg (by rfl) 33 _ rfl bh rfl [Value.int .u64 (h0 : Int), .int .u64 (h1 : Int), .int .u64 (h2 : Int), .int .u64 (h3 : Int)] (S17.out.blk 6 rfl) _ Try.underlying33 rfl Try.size_v ?_)
      refine (CP2.out _ (shard_sh S17.out 7 rfl) (shard_lt S17.out 7 rfl)).mono ?_; rintro e k18 ⟨rfl, E3, hs, ht, hb⟩
      have S18 : Hid (Sep w k18 [rB b4 [Value.int .u64 (y0 : Int), .int .u64 (y1 : Int), .int .u64 (y2 : Int), .int .u64 (y3 : Int), .int .i64 yd], rB b3 [Value.int .u64 (x0 : Int), .int .u64 (x1 : Int), .int .u64 (x2 : Int), .int .u64 (x3 : Int), .int .i64 xd], rB b2 [Value.int .u64 (y0 : Int), .int .u64 (y1 : Int), .int .u64 (y2 : Int), .int .u64 (y3 : Int), .int .i64 yd], rB b1 [Value.int .u64 (x0 : Int), .int .u64 (x1 : Int), .int .u64 (x2 : Int), .int .u64 (x3 : Int), .int .i64 xd], rB bk [Value.string kb, .string ke, .string kv, .bool kg], rB bf [Value.int .u64 (f0 : Int), .int .u64 (f1 : Int), .int .u64 (f2 : Int), .int .u64 (f3 : Int)], rB bh [Value.int .u64 (h0 : Int), .int .u64 (h1 : Int), .int .u64 (h2 : Int), .int .u64 (h3 : Int)], rS s (ga lb ch mb W E3 A), rB bm [Value.int .u64 (m0 : Int), .int .u64 (m1 : Int), .int .u64 (m2 : Int), .int .u64 (m3 : Int), .bool o3], rB bv [Value.int .u64 (u0 : Int), .int .u64 (u1 : Int), .int .u64 (u2 : Int), .int .u64 (u3 : Int), .bool o2], rB w.heap.size [Value.string pb, .string pe, .string pv, .bool pg, .bool true, .int .u8 (pk1 : Int)]]) := shard_turn S17.out 7 rfl hs ht hb
      clear hs ht hb S17
      go_wp2_with fail
      have hwc := waiting_ga (shard_sh S18.out 7 rfl)
      rw [HWLN.out] at hwc
      refine hwc.mono ?_; rintro e kw2 ⟨rfl, ek⟩
      subst ek
      clear hwc
      have HU := Lib.hid S18.out.under
      go_wp2_with fail
      go_ret
      exact ⟨rfl, HU.out⟩

set_option maxRecDepth 100000 in
theorem lifted (os : Os) (started : os.Started) (H : Type) (enc : TypeId × Value → H) :
    ReturnsInHanded {} Try.checked os 6 .any (Rows.shardPrunesSpec.pre6 enc Try.prog Try.f6 Rows.shardPrunesRow.domain false) (Rows.shardPrunesSpec.post enc Try.prog Try.f6 false true false false) := by
  refine returnsInHanded_of_change_sized (C := Try.checked) own started (by kernel_rfl) Try.func6
    (ChangeSpec.witness6 (enc := enc) (C := Try.checked) false ⟨#[], #[.slice none 0 0, .agg #[.string ByteArray.empty, .string ByteArray.empty, .string ByteArray.empty, .bool false, .bool false, .int .u8 0], .agg #[.int .u64 0, .int .u64 0, .int .u64 0, .int .u64 0, .bool false], .agg #[.int .u64 0, .int .u64 0, .int .u64 0, .int .u64 0, .bool false]], []⟩ 8 (by kernel_rfl) (by kernel_rfl) (by kernel_rfl) (by kernel_rfl)) ?_
  intro W base args ds gs before hval0 hW hcnd hsz0 _
  have hval : ∀ (j : Nat) t v, Try.f6.params[j]? = some t → args[j]? = some v → Value.okWide Try.prog W .any base t v := hval0
  have hW' := hW
  obtain ⟨p, q, hA0, hV, rfl, hfz, hnd⟩ := hW
  have hA : DataW.TrodAll enc Try.prog W 0 (fun _ => true) true Try.f6.params.toList args.toList ds p := hA0
  have hsz : (DataW.weightsEach Try.prog (Try.f6.params.toList ++ Rows.shardPrunesSpec.plain.varTypes Try.prog) (ds ++ gs)).all (· ≤ reachBytes) = true := hsz0
  rw [Try.params6] at hA hval hsz
  obtain ⟨rfl, rfl⟩ := trodVars_none hV
  have hAk := hA
  have hlt : ∀ x ∈ p, x.block < W.heap.size := fun x hx => by simpa using hW'.lt x (List.mem_append.2 (.inl hx))
  obtain ⟨v0, vs0, d0, ds0, p0, q0, hargs, rfl, rfl, h0, r0⟩ := trodAll_cons hA
  obtain ⟨v1, vs1, d1, ds1, p1, q1, rfl, rfl, rfl, h1, r1⟩ := trodAll_cons r0
  obtain ⟨v2, vs2, d2, ds2, p2, q2, rfl, rfl, rfl, h2, r2⟩ := trodAll_cons r1
  obtain ⟨v3, vs3, d3, ds3, p3, q3, rfl, rfl, rfl, h3, r3⟩ := trodAll_cons r2
  obtain ⟨rfl, rfl, rfl⟩ := trodAll_nil r3
  obtain rfl : args = #[v0, v1, v2, v3] := by cases args; simp_all
  obtain ⟨a0, len0, cap0, rfl⟩ := okWide_slice Try.underlying85 (hval 0 85 v0 rfl rfl)
  obtain ⟨DL0, w0, m0⟩ := open_deals h0 (Sz.arg hsz (j := 0) rfl rfl)
  obtain ⟨px1, po1, pk1, rfl, kq1⟩ := open_put (hval 1 44 v1 rfl rfl) h1 (Sz.arg hsz (j := 1) rfl rfl)
  obtain ⟨a2, o2, rfl, w2⟩ := open_vector (hval 2 46 v2 rfl rfl) h2
  obtain ⟨a3, o3, rfl, w3⟩ := open_vector (hval 3 46 v3 rfl rfl) h3
  clear hA0 hval0 hsz0
  refine (walk (.slice a0 len0 cap0) DL0 px1 po1 pk1 a2 o2 a3 o3 kq1 w2 w3 W w0 m0).mono fun e W' ⟨he, hg⟩ => ?_
  subst he
  exact ⟨_, rfl, _, _, _, [], _, [], hW', (trodAll_cons_mk (shut_bool Try.underlying4 _) trodAll_mk0), trodAll_below laidOut hg _ _ _ _ (by kernel_rfl) hAk hlt, rfl, hg.frame _, fun h => by cases h⟩

theorem over : Rows.shardPrunesRow.holds Try.pinned (OpenSpec.ofChange Rows.shardPrunesSpec) :=
  OpenClaim.holds_of_wide 6 Try.f6 rfl rfl rfl rfl rfl rfl rfl ⟨rfl, rfl, rfl, rfl, rfl⟩ rfl rfl rfl rfl rfl (by kernel_rfl) Try.func6 (by kernel_rfl)
    (of_decide_eq_true (by kernel_rfl)) (by unfold Func.isWrapper; first | (rw [if_pos (by decide +kernel)]; kernel_rfl) | (rw [if_neg (by decide +kernel)]; exact ⟨rfl, rfl⟩))
    (fun os started H enc _ => lifted os started H enc)

/-- the statement -/
theorem proved : Rows.ShardPrunesSaid :=
  over
#print axioms proved

end Go.Proofs.Ytdoodjeffjjlgaa.shardPrunes
