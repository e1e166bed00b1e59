/-
  Applied in whatever order, transactions are read alike, of whatever key, at whatever snapshot (the law ShardAlike). No conditions.
-/
import Derived.Test.YtohcdonmdnjgoaaFrame

import Derived.Test.YtohcdonmdnjgoaaShardAl

import Derived.Deep.DeepCutAuto

import Derived.Deep.CutBlock

import Derived.Test.YtohcdonmdnjgoaaShardDeal

import Derived.Test.YtohcdonmdnjgoaaFramePutT

import Derived.Test.YtohcdonmdnjgoaaFrameVecN

import Derived.Test.YtohcdonmdnjgoaaShardMath

namespace Go.Proofs.Ytohcdonmdnjgoaa.shardAlike

open Go.ChangeShapes Go.WideShapes Go.ChangeAt Go.RowKit

open Go.ChangeMaps (open_string shut_string)

open Go.Proofs.Ytohcdonmdnjgoaa.Vc Go.Proofs.Ytohcdonmdnjgoaa.Sp Go.Proofs.Ytohcdonmdnjgoaa.Rw Go.Proofs.Ytohcdonmdnjgoaa.Ch Go.Proofs.Ytohcdonmdnjgoaa.Se Go.Proofs.Ytohcdonmdnjgoaa.It Go.Proofs.Ytohcdonmdnjgoaa.Mk Go.Proofs.Ytohcdonmdnjgoaa.Sd

set_option linter.unusedVariables false

set_option linter.unusedSimpArgs false

set_option maxHeartbeats 64000000 in
set_option maxRecDepth 100000 in
theorem walk (dv0 : Value) (DL0 : List Dl) (px1 : I.Wt) (po1 : Bool) (pk1 : Nat) (a2 : List Nat) (o2 : Bool) (kq1 : I.POk (px1, po1, pk1)) (w2 : V.Ok a2) (w : World) (w0 : IsDs w dv0 DL0) (m0 : ∀ x ∈ DL0, DlOk w x) :
    Calls Try.prog 5 #[dv0, PV px1 po1 pk1, VV a2 o2] w fun e w' => e = .returned (.bool true) ∧ Below w.heap.size w w' := by
  have HDS : Hid (IsDs w dv0 DL0) := w0
  have HMO : Hid (∀ x ∈ DL0, DlOk w x) := m0
  obtain ⟨sx, cap, rfl, _, _, _⟩ := w0
  obtain ⟨n, HN⟩ : ∃ n, Hid (DL0.length = n) := ⟨_, rfl⟩
  rw [HN.out] at HDS ⊢
  clear m0
  obtain ⟨hh, h4, hvh⟩ := vec_any a2 o2 w2
  have hl2 := w2.len
  clear w2
  obtain ⟨h0, h1, h2, h3, rfl⟩ := V.four h4
  obtain ⟨u0, u1, u2, u3, rfl⟩ := V.four hl2
  have CVh : Hid (∀ u, Calls Try.prog 12 #[.agg [Value.int .u64 (u0 : Int), .int .u64 (u1 : Int), .int .u64 (u2 : Int), .int .u64 (u3 : Int), .bool o2].toArray] u fun e w' => e = .returned (.agg [Value.int .u64 (h0 : Int), .int .u64 (h1 : Int), .int .u64 (h2 : Int), .int .u64 (h3 : Int)].toArray) ∧ Below u.heap.size u w') := fun u => hvh u
  clear hvh h4 hl2
  have CW0 := fun u => write_any px1 true pk1 u kq1.k (by have h9 : px1.2.2.1.size ≤ 140737488355328 := kq1.w.v; unfold maxLen; omega)
  obtain ⟨⟨kb, ke, kv, kg⟩, HKW⟩ : ∃ z : I.Wt, Hid (I.putW px1 true pk1 = z) := ⟨_, rfl⟩
  rw [HKW.out] at CW0
  clear HKW kq1
  obtain ⟨pb, pe, pv, pg⟩ := px1
  have CW : Hid (∀ u, Calls Try.prog 13 #[.agg [Value.string pb, .string pe, .string pv, .bool pg, .bool true, .int .u8 (pk1 : Int)].toArray] u fun e w' => e = .returned (.agg [Value.string kb, .string ke, .string kv, .bool kg].toArray) ∧ Below u.heap.size u w') := fun u => CW0 u
  clear CW0
  have CN : Hid (∀ u, Calls Try.prog 9 #[.int .i64 16] u fun e w' => ∃ s lb ch mb, e = .returned (.tuple #[.pointer (some ⟨s, 0, none⟩), .int .i64 0]) ∧ Sh w' s (ga lb ch mb [] [] V.zeros) ∧ Below u.heap.size u w' ∧ ∀ k ∈ (ga lb ch mb [] [] V.zeros).bl s, u.heap.size ≤ k ∧ k < w'.heap.size) := fun u => new_ok 16 (by decide) (by decide) u
  go_enter Try.func5, Try.ntmps5
  go_wp2_with (first | refine blk_box rfl 44 _ rfl [Value.string pb, .string pe, .string pv, .bool pg, .bool po1, .int .u8 (pk1 : Int)] rfl ?_)
  intro w1 A B Z
  have T1 : Hid (Sep w w1 [rB w.heap.size [Value.string pb, .string pe, .string pv, .bool pg, .bool po1, .int .u8 (pk1 : Int)]]) := (Sep.start w).box B Z A
  clear A B Z
  go_wp2_with (first | refine blk_box rfl 46 _ rfl [Value.int .u64 (u0 : Int), .int .u64 (u1 : Int), .int .u64 (u2 : Int), .int .u64 (u3 : Int), .bool o2] rfl ?_)
  intro w2 A B Z
  obtain ⟨bv, HBV⟩ : ∃ b, Hid (w1.heap.size = b) := ⟨_, rfl⟩
  have T2 : Hid (Sep w w2 [rB bv [Value.int .u64 (u0 : Int), .int .u64 (u1 : Int), .int .u64 (u2 : Int), .int .u64 (u3 : Int), .bool o2], rB w.heap.size [Value.string pb, .string pe, .string pv, .bool pg, .bool po1, .int .u8 (pk1 : Int)]]) := by
    show Sep _ _ _
    rw [← HBV.out]
    exact T1.out.box B Z A
  rw [HBV.out]
  clear A B Z T1 HBV
  go_wp2_with fail
  refine (examples_any _).mono ?_; rintro e w4 ⟨rfl, hb⟩
  have T4 := Lib.hid (T2.out.below hb)
  clear hb T2
  go_wp2_with fail
  refine (CN.out _).mono ?_; rintro e w5 ⟨sa, la, ca, ma, rfl, hs, hb, hn⟩
  have T5 : Hid (Sep w w5 [rS sa (ga la ca ma [] [] V.zeros), rB bv [Value.int .u64 (u0 : Int), .int .u64 (u1 : Int), .int .u64 (u2 : Int), .int .u64 (u3 : Int), .bool o2], rB w.heap.size [Value.string pb, .string pe, .string pv, .bool pg, .bool po1, .int .u8 (pk1 : Int)]]) := shard_new T4.out hb hs hn
  clear hs hb hn T4
  go_wp2_with fail
  refine (CN.out _).mono ?_; rintro e w6 ⟨sb, lb, cb, mb, rfl, hs, hb, hn⟩
  have T6 : Hid (Sep w w6 [rS sb (ga lb cb mb [] [] V.zeros), rS sa (ga la ca ma [] [] V.zeros), rB bv [Value.int .u64 (u0 : Int), .int .u64 (u1 : Int), .int .u64 (u2 : Int), .int .u64 (u3 : Int), .bool o2], rB w.heap.size [Value.string pb, .string pe, .string pv, .bool pg, .bool po1, .int .u8 (pk1 : Int)]]) := shard_new T5.out hb hs hn
  clear hs hb hn T5 CN
  have T7 : Hid (Sep w w6 [rX w.heap.size (.slice none 0 0) [] [], rS sb (ga lb cb mb [] [] V.zeros), rS sa (ga la ca ma [] [] V.zeros), rB bv [Value.int .u64 (u0 : Int), .int .u64 (u1 : Int), .int .u64 (u2 : Int), .int .u64 (u3 : Int), .bool o2], rB w.heap.size [Value.string pb, .string pe, .string pv, .bool pg, .bool po1, .int .u8 (pk1 : Int)]]) := xw_none T6.out
  clear T6
  go_upto_block 0 with fail
  go_cut [12] (fun vv wx => ∃ (sv : Option Addr) (k cv : Nat) (Q : List Tq), vv = .slice sv k cv ∧ k ≤ 10 ∧ Hid (Q.length = k) ∧ Hid (Qok Q) ∧ Hid (Sep w wx [rX w.heap.size (.slice sv k cv) Q Q, rS sb (ga lb cb mb [] [] V.zeros), rS sa (ga la ca ma [] [] V.zeros), rB bv [Value.int .u64 (u0 : Int), .int .u64 (u1 : Int), .int .u64 (u2 : Int), .int .u64 (u3 : Int), .bool o2], rB w.heap.size [Value.string pb, .string pe, .string pv, .bool pg, .bool po1, .int .u8 (pk1 : Int)]]))
  case first =>
    go_wp2_with fail
    go_loopw [12, 13] (fun vs i wr => ∃ (j : Nat) (Q : List Tq) (va : Value), j ≤ n ∧ j ≤ 10 ∧ va = vs ∧ i = .int .i64 (j : Int) ∧ Hid (Q.length = j) ∧ Hid (Qok Q) ∧ Hid (Sep w wr [rX w.heap.size va Q Q, rS sb (ga lb cb mb [] [] V.zeros), rS sa (ga la ca ma [] [] V.zeros), rB bv [Value.int .u64 (u0 : Int), .int .u64 (u1 : Int), .int .u64 (u2 : Int), .int .u64 (u3 : Int), .bool o2], rB w.heap.size [Value.string pb, .string pe, .string pv, .bool pg, .bool po1, .int .u8 (pk1 : Int)]])) (fun _ i _ => 10 - (intOf i).toNat)
    case atStart => exact ⟨0, [], _, by omega, by omega, rfl, rfl, rfl, Qok.nil, T7⟩
    case round =>
      obtain ⟨j, Q, va, hjn, hj10, rfl, rfl, HQL, HQ, Sr⟩ := hrel
      clear T7
      by_cases hlt : j < n
      · have i1 : (j : Int) < (n : Int) := by omega
        by_cases hl2 : j < 10
        · have i2 : (j : Int) < 10 := by omega
          obtain ⟨g, off, cap', hv, hg0, x, hx, hrow⟩ := IsDs.at HDS.out j (by rw [HN.out]; exact hlt)
          obtain rfl : sx = some ⟨g, off, none⟩ := by injection hv
          have hok := HMO.out x (List.mem_of_getElem? hx)
          have CD := Lib.hid (fun u (hu : Below w.heap.size w u) => deal_fresh hok u hu)
          have HR := Lib.hid (dlS_right hok)
          have HA := Lib.hid (dlW_all hok)
          have HL := Lib.hid (dlW_len hok)
          have HK := Lib.hid (I.whole_some (dl_whole hok)).2.2.2
          have hs4 := (dlS_ok hok).len
          have hl4 := hok.v.len
          obtain ⟨pa, pc, ev⟩ := hok.puts.nilOrSome
          obtain ⟨⟨a, d⟩, HS⟩ : ∃ z : C.St, Hid (dlS x = z) := ⟨_, rfl⟩
          obtain ⟨MM, HM⟩ : ∃ z, Hid (dlW x = z) := ⟨_, rfl⟩
          rw [HS.out, HM.out] at CD
          rw [HS.out] at HR hs4
          rw [HM.out] at HA HL HK
          clear HS HM hok hx hv
          obtain ⟨xl, dd, mo, sv_, PL, ow⟩ := x
          dsimp only at hl4 hs4 CD HR ev
          subst ev
          obtain ⟨pm, HPL⟩ : ∃ z, Hid (PL.length = z) := ⟨_, rfl⟩
          rw [HPL.out] at hrow CD
          obtain ⟨l0, l1, l2, l3, rfl⟩ := V.four hl4
          obtain ⟨a0, a1, a2, a3, rfl⟩ := V.four hs4
          clear hl4 hs4
          have HROW : Hid (wr.rangeAt g (off + 8 * j) [Value.int .u64 (l0 : Int), .int .u64 (l1 : Int), .int .u64 (l2 : Int), .int .u64 (l3 : Int), .int .i64 dd, .bool mo, .slice pa pm pc, .bool ow]) := fun k u hu => by rw [Sr.out.under.cell (p := ⟨g, off + 8 * j + k, none⟩) hg0]; exact hrow k u hu
          have hix : ∀ w, (Instr.indexAt 85 (.slice (some ⟨g, off, none⟩) n cap) (.int .i64 (j : Int))).run Try.prog w = .ok (.pointer (some ⟨g, off + 8 * j, none⟩)) w := fun w => index_dl g off n cap j hlt w
          clear hrow hg0
          go_wp2_with (first | refine wpList_load_mid rfl 40 _ rfl g (off + 8 * j) rfl [Value.int .u64 (l0 : Int), .int .u64 (l1 : Int), .int .u64 (l2 : Int), .int .u64 (l3 : Int), .int .i64 dd, .bool mo, .slice pa pm pc, .bool ow] _ HROW.out Try.underlying40 rfl Try.size_dl ?_ | refine blk_alloc rfl 40 [Value.int .u64 0, .int .u64 0, .int .u64 0, .int .u64 0, .int .i64 0, .bool false, .slice none 0 0, .bool false] rfl Try.info_dl ?_)
          intro w3 A9 B Z
          obtain ⟨bx, HBX⟩ : ∃ b, Hid (wr.heap.size = b) := ⟨_, rfl⟩
          go_wp2_with (first | refine blk_store rfl 40 _ _ rfl wr.heap.size rfl [Value.int .u64 (l0 : Int), .int .u64 (l1 : Int), .int .u64 (l2 : Int), .int .u64 (l3 : Int), .int .i64 dd, .bool mo, .slice pa pm pc, .bool ow] rfl _ A9 rfl Try.size_dl rfl ?_)
          intro w4 A8 U9
          have S4 : Hid (Sep w w4 [rB bx [Value.int .u64 (l0 : Int), .int .u64 (l1 : Int), .int .u64 (l2 : Int), .int .u64 (l3 : Int), .int .i64 dd, .bool mo, .slice pa pm pc, .bool ow], rX w.heap.size va Q Q, rS sb (ga lb cb mb [] [] V.zeros), rS sa (ga la ca ma [] [] V.zeros), rB bv [Value.int .u64 (u0 : Int), .int .u64 (u1 : Int), .int .u64 (u2 : Int), .int .u64 (u3 : Int), .bool o2], rB w.heap.size [Value.string pb, .string pe, .string pv, .bool pg, .bool po1, .int .u8 (pk1 : Int)]]) := by
            show Sep _ _ _
            rw [← HBX.out]
            exact Sep.fresh Sr.out B Z U9 A8
          rw [HBX.out]
          clear A9 B Z A8 U9 HBX Sr HROW hix
          have q7 := (S4.out.blk 0 rfl).cell 7 (.bool ow) rfl
          have f7 := (S4.out.blk 0 rfl).free 7 (by simp)
          have S5 : Hid (Sep w (w4.setCell ⟨bx, 7, none⟩ (.bool true)) [rB bx [Value.int .u64 (l0 : Int), .int .u64 (l1 : Int), .int .u64 (l2 : Int), .int .u64 (l3 : Int), .int .i64 dd, .bool mo, .slice pa pm pc, .bool true], rX w.heap.size va Q Q, rS sb (ga lb cb mb [] [] V.zeros), rS sa (ga la ca ma [] [] V.zeros), rB bv [Value.int .u64 (u0 : Int), .int .u64 (u1 : Int), .int .u64 (u2 : Int), .int .u64 (u3 : Int), .bool o2], rB w.heap.size [Value.string pb, .string pe, .string pv, .bool pg, .bool po1, .int .u8 (pk1 : Int)]]) := S4.out.upd 0 rfl (Upd.setCell _ _ _ _) (Blk.setc (S4.out.blk 0 rfl) 7 (by simp) (.bool true))
          go_wp2_with (first | refine blk_load rfl 40 _ rfl bx rfl [Value.int .u64 (l0 : Int), .int .u64 (l1 : Int), .int .u64 (l2 : Int), .int .u64 (l3 : Int), .int .i64 dd, .bool mo, .slice pa pm pc, .bool true] (S5.out.blk 0 rfl) _ Try.underlying40 rfl Try.size_dl ?_)
          generalize (w4.setCell ⟨bx, 7, none⟩ (.bool true)) = w5 at *
          clear S4 q7 f7
          refine (CD.out _ S5.out.under).mono ?_; rintro e w6 ⟨ta, tc, rfl, hw, hb, hnew⟩
          obtain ⟨tm, HTM⟩ : ∃ m, Hid (MM.length = m) := ⟨_, rfl⟩
          rw [HTM.out] at hw HL HK hnew ⊢
          have S6 : Hid (Sep w w6 [rW (.slice ta tm tc) MM, rX w.heap.size va Q Q, rS sb (ga lb cb mb [] [] V.zeros), rS sa (ga la ca ma [] [] V.zeros), rB bv [Value.int .u64 (u0 : Int), .int .u64 (u1 : Int), .int .u64 (u2 : Int), .int .u64 (u3 : Int), .bool o2], rB w.heap.size [Value.string pb, .string pe, .string pv, .bool pg, .bool po1, .int .u8 (pk1 : Int)]]) := S5.out.tail.push hb (rW (.slice ta tm tc) MM) hw hnew
          clear hw hb hnew S5 CD
          go_wp2_with (first | refine blk_alloc rfl 51 [Value.int .u64 0, .int .u64 0, .int .u64 0, .int .u64 0, .int .i64 0, .slice none 0 0] rfl Try.info_tz ?_)
          intro w7 A9 B Z
          obtain ⟨bt, HBT⟩ : ∃ b, Hid (w6.heap.size = b) := ⟨_, rfl⟩
          go_wp2_with (first | refine blk_store rfl 51 _ _ rfl w6.heap.size rfl [Value.int .u64 (a0 : Int), .int .u64 (a1 : Int), .int .u64 (a2 : Int), .int .u64 (a3 : Int), .int .i64 d, .slice ta tm tc] rfl _ A9 rfl It.Try.size_itx rfl ?_)
          intro w8 A8 U9
          have S8 : Hid (Sep w w8 [rB bt [Value.int .u64 (a0 : Int), .int .u64 (a1 : Int), .int .u64 (a2 : Int), .int .u64 (a3 : Int), .int .i64 d, .slice ta tm tc], rW (.slice ta tm tc) MM, rX w.heap.size va Q Q, rS sb (ga lb cb mb [] [] V.zeros), rS sa (ga la ca ma [] [] V.zeros), rB bv [Value.int .u64 (u0 : Int), .int .u64 (u1 : Int), .int .u64 (u2 : Int), .int .u64 (u3 : Int), .bool o2], rB w.heap.size [Value.string pb, .string pe, .string pv, .bool pg, .bool po1, .int .u8 (pk1 : Int)]]) := by
            show Sep _ _ _
            rw [← HBT.out]
            exact Sep.fresh S6.out B Z U9 A8
          rw [HBT.out]
          clear A9 B Z A8 U9 HBT S6
          have CT0 := fun u => with_any [a0, a1, a2, a3] d (j + 1) u rfl
          obtain ⟨y0, y1, y2, y3, hy⟩ := V.four (with_len [a0, a1, a2, a3] d (j + 1) rfl)
          have HY := Lib.hid hy
          rw [hy] at CT0
          clear hy
          have CWT : Hid (∀ u, Calls Try.prog 30 #[.agg [Value.int .u64 (a0 : Int), .int .u64 (a1 : Int), .int .u64 (a2 : Int), .int .u64 (a3 : Int)].toArray, .int .i64 d, .int .u64 ((j : Int) + 1)] u fun e w' => e = .returned (.agg [Value.int .u64 (y0 : Int), .int .u64 (y1 : Int), .int .u64 (y2 : Int), .int .u64 (y3 : Int)].toArray) ∧ Below u.heap.size u w') := fun u => CT0 u
          clear CT0
          have c4 := (S8.out.blk 0 rfl).cell 4 _ rfl
          go_wp2_with (first | refine wpList_load_mid rfl 33 _ rfl bt 0 rfl [Value.int .u64 (a0 : Int), .int .u64 (a1 : Int), .int .u64 (a2 : Int), .int .u64 (a3 : Int)] _ (preb (us := [Value.int .u64 (a0 : Int), .int .u64 (a1 : Int), .int .u64 (a2 : Int), .int .u64 (a3 : Int)]) (vs := [Value.int .i64 d, .slice ta tm tc]) (S8.out.blk 0 rfl)) Try.underlying33 rfl Try.size_v ?_)
          refine (CWT.out _).mono ?_; rintro e w9 ⟨rfl, hb⟩
          have S9 := Lib.hid (S8.out.below hb)
          clear hb S8 c4 CWT
          go_wp2_with (first | refine row_store rfl 33 _ _ rfl bt rfl [y0, y1, y2, y3] rfl [a0, a1, a2, a3] [Value.int .i64 d, .slice ta tm tc] (S9.out.blk 0 rfl) rfl rfl Try.size_v ?_)
          intro w10 A8 U9
          have S10 : Hid (Sep w w10 [rB bt [Value.int .u64 (y0 : Int), .int .u64 (y1 : Int), .int .u64 (y2 : Int), .int .u64 (y3 : Int), .int .i64 d, .slice ta tm tc], rW (.slice ta tm tc) MM, rX w.heap.size va Q Q, rS sb (ga lb cb mb [] [] V.zeros), rS sa (ga la ca ma [] [] V.zeros), rB bv [Value.int .u64 (u0 : Int), .int .u64 (u1 : Int), .int .u64 (u2 : Int), .int .u64 (u3 : Int), .bool o2], rB w.heap.size [Value.string pb, .string pe, .string pv, .bool pg, .bool po1, .int .u8 (pk1 : Int)]]) := S9.out.upd 0 rfl U9 A8
          clear A8 U9 S9
          have HBT := Lib.hid (S10.out.blk 0 rfl)
          obtain ⟨q, HQE⟩ : ∃ q : Tq, Hid (q = ⟨([y0, y1, y2, y3], d), ta, tc, MM⟩) := ⟨_, rfl⟩
          have HQV : Hid (q.v = .slice ta tm tc) := by show _ = _; rw [HQE.out]; show Value.slice ta MM.length tc = _; rw [HTM.out]
          have HQL2 : Hid (q.L = MM) := by show _ = _; rw [HQE.out]
          have HQC : Hid (txk.cf q = [Value.int .u64 (y0 : Int), .int .u64 (y1 : Int), .int .u64 (y2 : Int), .int .u64 (y3 : Int), .int .i64 d, .slice ta tm tc]) := by show _ = _; rw [HQE.out]; show [Value.int .u64 (y0 : Int), .int .u64 (y1 : Int), .int .u64 (y2 : Int), .int .u64 (y3 : Int), .int .i64 d, .slice ta MM.length tc] = _; rw [HTM.out]
          have HQ2 : Hid (Qok (Q ++ [q])) := by
            refine HQ.out.snoc (s := ([a0, a1, a2, a3], d)) rfl HR.out ?_ ?_ ?_ ?_ ?_
            · rw [HQE.out, HQL.out]; show (([y0, y1, y2, y3], d) : C.St) = (V.with_ [a0, a1, a2, a3] d (j + 1), d); rw [HY.out]
            · rw [HQL2.out, HTM.out]; exact HK.out
            · rw [HQL2.out]; exact HA.out
            · rw [HQL2.out, HTM.out]; exact HL.out.2
            · rw [HQL.out]; exact hl2
          have S11 : Hid (Sep w w10 [rX w.heap.size va Q (Q ++ [q]), rS sb (ga lb cb mb [] [] V.zeros), rS sa (ga la ca ma [] [] V.zeros), rB bv [Value.int .u64 (u0 : Int), .int .u64 (u1 : Int), .int .u64 (u2 : Int), .int .u64 (u3 : Int), .bool o2], rB w.heap.size [Value.string pb, .string pe, .string pv, .bool pg, .bool po1, .int .u8 (pk1 : Int)]]) := by
            refine xw_take (q := q) ?_
            rw [HQV.out, HQL2.out]
            exact S10.out.tail
          clear S10 HA HL HK HR HY HQ
          have hB9 : Below w10.heap.size w10 (w10.alloc (.cells [Value.int .u64 (y0 : Int), .int .u64 (y1 : Int), .int .u64 (y2 : Int), .int .u64 (y3 : Int), .int .i64 d, .slice ta tm tc].toArray 51)) := (Below.refl _ _).alloc (Nat.le_refl _) _
          have S12 := S11.out.below hB9
          have hX9 : (w10.alloc (.cells [Value.int .u64 (y0 : Int), .int .u64 (y1 : Int), .int .u64 (y2 : Int), .int .u64 (y3 : Int), .int .i64 d, .slice ta tm tc].toArray 51)).heap[w10.heap.size]? = some (.cells (txk.cf q).toArray 51 (0, 0)) := by rw [HQC.out]; exact heap_alloc_last w10 _
          obtain ⟨v9, w11, hr, ho, hg, hnw⟩ := run_append_one (K := txk) 86 Try.underlying86 inf_tq zc_tq _ w.heap.size _ Q (xw S12 0 rfl).row w10.heap.size 0 1 1 [q] (IsR.one (Blk.of_row hX9) (Array.getElem?_eq_some_iff.1 hX9).1) (by simp) (by rw [HQL.out]; simp; omega) (by omega) S12.size
          have HRn := Lib.hid hr
          have S13 : Hid (Sep w w11 [rX w.heap.size v9 (Q ++ [q]) (Q ++ [q]), rS sb (ga lb cb mb [] [] V.zeros), rS sa (ga la ca ma [] [] V.zeros), rB bv [Value.int .u64 (u0 : Int), .int .u64 (u1 : Int), .int .u64 (u2 : Int), .int .u64 (u3 : Int), .bool o2], rB w.heap.size [Value.string pb, .string pe, .string pv, .bool pg, .bool po1, .int .u8 (pk1 : Int)]]) := xw_row S12 0 rfl ho hg hnw
          have HQL3 : Hid ((Q ++ [q]).length = j + 1) := by show _ = _; rw [List.length_append, HQL.out]; rfl
          clear hr ho hg hnw hX9 S12 hB9 S11
          go_wp2_with (first | refine blk_load rfl 51 _ rfl bt rfl [Value.int .u64 (y0 : Int), .int .u64 (y1 : Int), .int .u64 (y2 : Int), .int .u64 (y3 : Int), .int .i64 d, .slice ta tm tc] HBT.out _ Try.underlying51 rfl It.Try.size_itx ?_ | (at_builtin; refine append_step rfl _ _ _ _ rfl rfl rfl HRn.out ?_))
          go_roundw
          case rel => exact ⟨j + 1, _, _, by omega, by omega, rfl, by go_num, HQL3, HQ2, S13⟩
          case measure => simp [intOf]; omega
        · have i2 : ¬ (j : Int) < 10 := by omega
          obtain ⟨sv, cv, rfl, _, _, _⟩ := ((xw Sr.out 0 rfl).row.is).is
          rw [HQL.out] at Sr ⊢
          go_wp2_with fail
          go_meet
          exact ⟨sv, j, cv, Q, rfl, hj10, HQL, HQ, Sr⟩
      · have i1 : ¬ (j : Int) < (n : Int) := by omega
        obtain ⟨sv, cv, rfl, _, _, _⟩ := ((xw Sr.out 0 rfl).row.is).is
        rw [HQL.out] at Sr ⊢
        go_wp2_with fail
        go_meet
        exact ⟨sv, j, cv, Q, rfl, hj10, HQL, HQ, Sr⟩
  case rest =>
  obtain ⟨sv, k, cv, Q, rfl, hk10, HQL, HQ, S0⟩ := hcut
  clear T7 HDS HMO
  obtain ⟨QR, HQR⟩ : ∃ R, Hid (Q.reverse = R) := ⟨_, rfl⟩
  have HRL : Hid (QR.length = k) := by show _ = _; rw [← HQR.out, List.length_reverse]; exact HQL.out
  have HRM : Hid (∀ q ∈ QR, q ∈ Q) := fun q hq => by rw [← HQR.out] at hq; exact List.mem_reverse.1 hq
  go_wp2_with fail
  go_loopw [16] (fun iv wr => ∃ (i : Nat) (Wa Wb : List Bt), i ≤ k ∧ iv = .int .i64 (i : Int) ∧ Hid (Wa.map btb = (Q.map Tq.b).take i) ∧ Hid (Wb.map btb = (QR.map Tq.b).take i) ∧ Hid (Sep w wr [rX w.heap.size (.slice sv k cv) Q Q, rS sb (ga lb cb mb Wb [] V.zeros), rS sa (ga la ca ma Wa [] V.zeros), rB bv [Value.int .u64 (u0 : Int), .int .u64 (u1 : Int), .int .u64 (u2 : Int), .int .u64 (u3 : Int), .bool o2], rB w.heap.size [Value.string pb, .string pe, .string pv, .bool pg, .bool po1, .int .u8 (pk1 : Int)]])) (fun iv _ => k - (intOf iv).toNat)
  case atStart => exact ⟨0, [], [], by omega, rfl, rfl, rfl, S0⟩
  case round =>
    obtain ⟨i, Wa, Wb, hik, rfl, HWA, HWB, Sr⟩ := hrel
    clear S0
    by_cases hlt : i < k
    · have i1 : (i : Int) < (k : Int) := by omega
      have hqi : i < Q.length := by rw [HQL.out]; exact hlt
      have hri : i < QR.length := by rw [HRL.out]; exact hlt
      obtain ⟨q, hq⟩ : ∃ q, Q[i]? = some q := ⟨_, List.getElem?_eq_getElem hqi⟩
      obtain ⟨p, hp⟩ : ∃ p, QR[i]? = some p := ⟨_, List.getElem?_eq_getElem hri⟩
      obtain ⟨k1, HK1⟩ : ∃ k1, Hid (k1 + 1 = k) := ⟨k - 1, by show _ = _; omega⟩
      obtain ⟨m, HMI⟩ : ∃ m, Hid (m + i + 1 = k) := ⟨k - 1 - i, by show _ = _; omega⟩
      have hpm : Q[m]? = some p := by
        have h9 := tq_rev Q i hqi
        rw [HQR.out, hp, HQL.out] at h9
        rw [h9, show k - 1 - i = m by have := HMI.out; omega]
      have hmk : m < k := by have := HMI.out; omega
      have HTA := Lib.hid (tq_last Q i q hq Tq.b)
      have HTB := Lib.hid (tq_last QR i p hp Tq.b)
      have hqQ := List.mem_of_getElem? hq
      have hpQ := List.mem_of_getElem? hpm
      have hqr := HQ.out.right hqQ
      have hpr := HQ.out.right hpQ
      have HQA := Lib.hid (HQ.out.all q hqQ)
      have HPA := Lib.hid (HQ.out.all p hpQ)
      have HQ8 := Lib.hid (HQ.out.len q hqQ)
      have HP8 := Lib.hid (HQ.out.len p hpQ)
      have HWAL : Hid (Wa.length = i) := by
        have h9 := congrArg List.length HWA.out
        rw [List.length_map, List.length_take, List.length_map, HQL.out] at h9
        show _ = _
        omega
      have HWBL : Hid (Wb.length = i) := by
        have h9 := congrArg List.length HWB.out
        rw [List.length_map, List.length_take, List.length_map, HRL.out] at h9
        show _ = _
        omega
      obtain ⟨g, og, cap2, hv, _, _⟩ := IsR.at (xw Sr.out 0 rfl).row.is i hqi
      obtain rfl : sv = some ⟨g, og, none⟩ := by injection hv
      clear hv
      have HXW := Lib.hid (xw Sr.out 0 rfl)
      obtain ⟨⟨lq, d⟩, qa, qc, qL⟩ := q
      obtain ⟨⟨lp, f⟩, pa2, pc2, pL⟩ := p
      dsimp only at hqr hpr HQA HPA HQ8 HP8
      obtain ⟨a0, a1, a2, a3, rfl⟩ := V.four hqr.2
      obtain ⟨y0, y1, y2, y3, rfl⟩ := V.four hpr.2
      obtain ⟨qm, HQM⟩ : ∃ z, Hid (qL.length = z) := ⟨_, rfl⟩
      obtain ⟨pm2, HPM⟩ : ∃ z, Hid (pL.length = z) := ⟨_, rfl⟩
      have HRQ := Lib.hid hqr.1
      have HRP := Lib.hid hpr.1
      have HRG : Hid (∀ (u : World) (R : List Rg), Sep w u (rX w.heap.size (.slice (some ⟨g, og, none⟩) k cv) Q Q :: R) → u.rangeAt g (og + 6 * i) [Value.int .u64 (a0 : Int), .int .u64 (a1 : Int), .int .u64 (a2 : Int), .int .u64 (a3 : Int), .int .i64 d, .slice qa qm qc] ∧ u.rangeAt g (og + 6 * m) [Value.int .u64 (y0 : Int), .int .u64 (y1 : Int), .int .u64 (y2 : Int), .int .u64 (y3 : Int), .int .i64 f, .slice pa2 pm2 pc2]) := fun u R hu => by
        obtain ⟨g3, og3, cap4, hv4, hg4, hr4⟩ := IsR.at (xw hu 0 rfl).row.is i hqi
        have hg5 : (some ⟨g, og, none⟩ : Option Addr) = some ⟨g3, og3, none⟩ := by injection hv4
        simp only [Option.some.injEq, Addr.mk.injEq, and_true] at hg5
        obtain ⟨rfl, rfl⟩ := hg5
        obtain ⟨g3, og3, cap5, hv5, hg5, hr5⟩ := IsR.at (xw hu 0 rfl).row.is m (by rw [HQL.out]; exact hmk)
        have hg6 : (some ⟨g, og, none⟩ : Option Addr) = some ⟨g3, og3, none⟩ := by injection hv5
        simp only [Option.some.injEq, Addr.mk.injEq, and_true] at hg6
        obtain ⟨rfl, rfl⟩ := hg6
        rw [List.getD_eq_getElem?_getD, hq] at hr4
        rw [List.getD_eq_getElem?_getD, hpm] at hr5
        simp only [Option.getD_some] at hr4 hr5
        have h8 : txk.cf ⟨([a0, a1, a2, a3], d), qa, qc, qL⟩ = [Value.int .u64 (a0 : Int), .int .u64 (a1 : Int), .int .u64 (a2 : Int), .int .u64 (a3 : Int), .int .i64 d, .slice qa qm qc] := by rw [← HQM.out]; rfl
        have h9 : txk.cf ⟨([y0, y1, y2, y3], f), pa2, pc2, pL⟩ = [Value.int .u64 (y0 : Int), .int .u64 (y1 : Int), .int .u64 (y2 : Int), .int .u64 (y3 : Int), .int .i64 f, .slice pa2 pm2 pc2] := by rw [← HPM.out]; rfl
        rw [h8] at hr4
        rw [h9] at hr5
        exact ⟨hr4, hr5⟩
      have HIX : Hid (∀ j, j < k → ∀ w, (Instr.indexAt 86 (.slice (some ⟨g, og, none⟩) k cv) (.int .i64 (j : Int))).run Try.prog w = .ok (.pointer (some ⟨g, og + 6 * j, none⟩)) w) := fun j hj w => index_tq g og k cv j hj w
      have hqQ2 := Lib.hid hqQ
      have hpQ2 := Lib.hid hpQ
      have Sd := Lib.hid (Sr.out.below ((Below.refl wr.heap.size wr).drew))
      clear hq hp hqi hri hqQ hpQ hqr hpr hpm Sr
      go_wp2_with fail
      refine region_pickC (fun u => u.rangeAt g (og + 6 * i) [Value.int .u64 (a0 : Int), .int .u64 (a1 : Int), .int .u64 (a2 : Int), .int .u64 (a3 : Int), .int .i64 d, .slice qa qm qc]) 12 [0, 1, 2, 3, 4, 5, 6, 7, 8, 9, 10] [11] Try.mixed (by kernel_rfl) rfl (by kernel_rfl) (HRG.out _ _ Sd.out).1 ?_
      refine p_readC rfl ?_
      refine c_move rfl _ rfl (.pointer (some ⟨sa, 0, none⟩)) rfl (fun _ _ _ h => h) (fun K hK => ?_)
      go_simp
      refine hK _ ?_
      clear hK K
      refine c_nil ?_
      refine p_readC rfl ?_
      refine c_move rfl _ rfl (.slice (some ⟨g, og, none⟩) k cv) rfl (fun _ _ _ h => h) (fun K hK => ?_)
      go_simp
      refine hK _ ?_
      clear hK K
      refine c_nil ?_
      refine p_readC rfl ?_
      refine c_move rfl _ rfl (.int .i64 (i : Int)) rfl (fun _ _ _ h => h) (fun K hK => ?_)
      go_simp
      refine hK _ ?_
      clear hK K
      refine c_nil ?_
      refine p_readC rfl ?_
      refine c_value rfl (.pointer (some ⟨g, og + 6 * i, none⟩)) (fun u hu => by have h9 := HIX.out i hlt u; go_simp) (fun _ _ _ h => h) (fun K hK => ?_)
      go_simp
      refine hK _ ?_
      clear hK K
      refine c_nil ?_
      refine p_readC rfl ?_
      refine c_value rfl (.pointer (some ⟨g, og + 6 * i, none⟩)) (fun u hu => by go_simp) (fun _ _ _ h => h) (fun K hK => ?_)
      go_simp
      refine hK _ ?_
      clear hK K
      refine c_nil ?_
      refine p_readC rfl ?_
      refine c_mid_load rfl 35 _ rfl g (og + 6 * i) rfl [Value.int .u64 (a0 : Int), .int .u64 (a1 : Int), .int .u64 (a2 : Int), .int .u64 (a3 : Int), .int .i64 d] (fun u hu => rng_pre (vs := [Value.slice qa qm qc]) hu) _ Try.underlying35 rfl Try.size_s (fun _ _ _ h => h) (fun K hK => ?_)
      go_simp
      refine hK _ ?_
      clear hK K
      refine c_nil ?_
      refine p_readC rfl ?_
      refine c_move rfl _ rfl (.slice (some ⟨g, og, none⟩) k cv) rfl (fun _ _ _ h => h) (fun K hK => ?_)
      go_simp
      refine hK _ ?_
      clear hK K
      refine c_nil ?_
      refine p_readC rfl ?_
      refine c_move rfl _ rfl (.int .i64 (i : Int)) rfl (fun _ _ _ h => h) (fun K hK => ?_)
      go_simp
      refine hK _ ?_
      clear hK K
      refine c_nil ?_
      refine p_readC rfl ?_
      refine c_value rfl (.pointer (some ⟨g, og + 6 * i, none⟩)) (fun u hu => by have h9 := HIX.out i hlt u; go_simp) (fun _ _ _ h => h) (fun K hK => ?_)
      go_simp
      refine hK _ ?_
      clear hK K
      refine c_nil ?_
      refine p_readC rfl ?_
      refine c_value rfl (.pointer (some ⟨g, og + 6 * i + 5, none⟩)) (fun u hu => by go_simp) (fun _ _ _ h => h) (fun K hK => ?_)
      go_simp
      refine hK _ ?_
      clear hK K
      refine c_nil ?_
      refine p_readC rfl ?_
      refine c_value rfl (.slice qa qm qc) (fun u hu => by have h9 := hu 5 _ rfl; go_simp) (fun _ _ _ h => h) (fun K hK => ?_)
      go_simp
      refine hK _ ?_
      clear hK K
      refine c_nil ?_
      refine p_nilC ?_
      refine p_stepC rfl ?_
      have KP := push_ok sa (ga la ca ma Wa [] V.zeros) ([a0, a1, a2, a3], d) (.slice qa qm qc) qL _ (shard_sh Sd.out 2 rfl) (shard_lt Sd.out 2 rfl) rfl (by have h9 := (xw Sd.out 0 rfl).ws _ hqQ2.out; unfold Tq.v at h9; dsimp only at h9; rw [HQM.out] at h9; exact h9) HRQ.out HQA.out (by have := HQ8.out; omega) (by show Wa.length < 16; have := HWAL.out; omega)
      go_wp2_with (first | (go_at_call 18; refine Calls.mono KP ?_; rintro e k2 ⟨rfl, tv, hs, ht, hb⟩))
      clear KP
      have S2 : Hid (Sep w k2 [rX w.heap.size (.slice (some ⟨g, og, none⟩) k cv) Q Q, rS sb (ga lb cb mb Wb [] V.zeros), rS sa (ga la ca ma (Wa ++ [(⟨([a0, a1, a2, a3], d), tv, qL⟩ : Bt)]) [] V.zeros), rB bv [Value.int .u64 (u0 : Int), .int .u64 (u1 : Int), .int .u64 (u2 : Int), .int .u64 (u3 : Int), .bool o2], rB w.heap.size [Value.string pb, .string pe, .string pv, .bool pg, .bool po1, .int .u8 (pk1 : Int)]]) := shard_turn Sd.out 2 rfl hs ht hb
      have HWA2 : Hid ((Wa ++ [(⟨([a0, a1, a2, a3], d), tv, qL⟩ : Bt)]).map btb = (Q.map Tq.b).take (i + 1)) := by
        show _ = _
        rw [HTA.out, List.map_append, HWA.out]; rfl
      have HB2 : Hid (wr.heap.size ≤ k2.heap.size) := ht.size
      clear hs ht hb Sd HTA HWA
      refine And.intro (fun _ => (HRG.out _ _ S2.out).1) ?_
      refine p_endC ?_
      have Sd2 := Lib.hid (S2.out.below ((Below.refl k2.heap.size k2).drew))
      clear S2
      have hw1 : IntKind.i64.wrap ((k : Int) - 1) = (k1 : Int) := by have := HK1.out; rw [IntWalk.i64_in _ (by omega)]; omega
      have hw2 : IntKind.i64.wrap ((k1 : Int) - (i : Int)) = (m : Int) := by have := HK1.out; have := HMI.out; rw [IntWalk.i64_in _ (by omega)]; omega
      have hk1s : (k : Int) - 1 = (k1 : Int) := by have := HK1.out; omega
      have hms : (k1 : Int) - (i : Int) = (m : Int) := by have := HK1.out; have := HMI.out; omega
      have hmm : IntKind.i64.wrap (m : Int) = (m : Int) := IntWalk.i64_in _ (by omega)
      have hkk : IntKind.i64.wrap (k1 : Int) = (k1 : Int) := IntWalk.i64_in _ (by have := HK1.out; omega)
      go_wp2_with fail
      refine region_pickC (fun u => u.rangeAt g (og + 6 * m) [Value.int .u64 (y0 : Int), .int .u64 (y1 : Int), .int .u64 (y2 : Int), .int .u64 (y3 : Int), .int .i64 f, .slice pa2 pm2 pc2]) 20 [0, 1, 2, 3, 4, 5, 6, 7, 8, 9, 10, 11, 12, 13, 14, 15, 16, 17, 18] [19] Try.mixed (by kernel_rfl) rfl (by kernel_rfl) (HRG.out _ _ Sd2.out).2 ?_
      refine p_readC rfl ?_
      refine c_move rfl _ rfl (.pointer (some ⟨sb, 0, none⟩)) rfl (fun _ _ _ h => h) (fun K hK => ?_)
      go_simp
      refine hK _ ?_
      clear hK K
      refine c_nil ?_
      refine p_readC rfl ?_
      refine c_move rfl _ rfl (.slice (some ⟨g, og, none⟩) k cv) rfl (fun _ _ _ h => h) (fun K hK => ?_)
      go_simp
      refine hK _ ?_
      clear hK K
      refine c_nil ?_
      refine p_readC rfl ?_
      refine c_move rfl _ rfl (.slice (some ⟨g, og, none⟩) k cv) rfl (fun _ _ _ h => h) (fun K hK => ?_)
      go_simp
      refine hK _ ?_
      clear hK K
      refine c_nil ?_
      refine p_readC rfl ?_
      refine c_value rfl (.int .i64 (k : Int)) (fun u hu => by go_simp) (fun _ _ _ h => h) (fun K hK => ?_)
      go_simp
      refine hK _ ?_
      clear hK K
      refine c_nil ?_
      refine p_readC rfl ?_
      refine c_value rfl (.int .i64 (k1 : Int)) (fun u hu => by go_simp) (fun _ _ _ h => h) (fun K hK => ?_)
      go_simp
      refine hK _ ?_
      clear hK K
      refine c_nil ?_
      refine p_readC rfl ?_
      refine c_move rfl _ rfl (.int .i64 (i : Int)) rfl (fun _ _ _ h => h) (fun K hK => ?_)
      go_simp
      refine hK _ ?_
      clear hK K
      refine c_nil ?_
      refine p_readC rfl ?_
      refine c_value rfl (.int .i64 (m : Int)) (fun u hu => by go_simp) (fun _ _ _ h => h) (fun K hK => ?_)
      go_simp
      refine hK _ ?_
      clear hK K
      refine c_nil ?_
      refine p_readC rfl ?_
      refine c_value rfl (.pointer (some ⟨g, og + 6 * m, none⟩)) (fun u hu => by have h9 := HIX.out m hmk u; go_simp) (fun _ _ _ h => h) (fun K hK => ?_)
      go_simp
      refine hK _ ?_
      clear hK K
      refine c_nil ?_
      refine p_readC rfl ?_
      refine c_value rfl (.pointer (some ⟨g, og + 6 * m, none⟩)) (fun u hu => by go_simp) (fun _ _ _ h => h) (fun K hK => ?_)
      go_simp
      refine hK _ ?_
      clear hK K
      refine c_nil ?_
      refine p_readC rfl ?_
      refine c_mid_load rfl 35 _ rfl g (og + 6 * m) rfl [Value.int .u64 (y0 : Int), .int .u64 (y1 : Int), .int .u64 (y2 : Int), .int .u64 (y3 : Int), .int .i64 f] (fun u hu => rng_pre (vs := [Value.slice pa2 pm2 pc2]) hu) _ Try.underlying35 rfl Try.size_s (fun _ _ _ h => h) (fun K hK => ?_)
      go_simp
      refine hK _ ?_
      clear hK K
      refine c_nil ?_
      refine p_readC rfl ?_
      refine c_move rfl _ rfl (.slice (some ⟨g, og, none⟩) k cv) rfl (fun _ _ _ h => h) (fun K hK => ?_)
      go_simp
      refine hK _ ?_
      clear hK K
      refine c_nil ?_
      refine p_readC rfl ?_
      refine c_move rfl _ rfl (.slice (some ⟨g, og, none⟩) k cv) rfl (fun _ _ _ h => h) (fun K hK => ?_)
      go_simp
      refine hK _ ?_
      clear hK K
      refine c_nil ?_
      refine p_readC rfl ?_
      refine c_value rfl (.int .i64 (k : Int)) (fun u hu => by go_simp) (fun _ _ _ h => h) (fun K hK => ?_)
      go_simp
      refine hK _ ?_
      clear hK K
      refine c_nil ?_
      refine p_readC rfl ?_
      refine c_value rfl (.int .i64 (k1 : Int)) (fun u hu => by go_simp) (fun _ _ _ h => h) (fun K hK => ?_)
      go_simp
      refine hK _ ?_
      clear hK K
      refine c_nil ?_
      refine p_readC rfl ?_
      refine c_move rfl _ rfl (.int .i64 (i : Int)) rfl (fun _ _ _ h => h) (fun K hK => ?_)
      go_simp
      refine hK _ ?_
      clear hK K
      refine c_nil ?_
      refine p_readC rfl ?_
      refine c_value rfl (.int .i64 (m : Int)) (fun u hu => by go_simp) (fun _ _ _ h => h) (fun K hK => ?_)
      go_simp
      refine hK _ ?_
      clear hK K
      refine c_nil ?_
      refine p_readC rfl ?_
      refine c_value rfl (.pointer (some ⟨g, og + 6 * m, none⟩)) (fun u hu => by have h9 := HIX.out m hmk u; go_simp) (fun _ _ _ h => h) (fun K hK => ?_)
      go_simp
      refine hK _ ?_
      clear hK K
      refine c_nil ?_
      refine p_readC rfl ?_
      refine c_value rfl (.pointer (some ⟨g, og + 6 * m + 5, none⟩)) (fun u hu => by go_simp) (fun _ _ _ h => h) (fun K hK => ?_)
      go_simp
      refine hK _ ?_
      clear hK K
      refine c_nil ?_
      refine p_readC rfl ?_
      refine c_value rfl (.slice pa2 pm2 pc2) (fun u hu => by have h9 := hu 5 _ rfl; go_simp) (fun _ _ _ h => h) (fun K hK => ?_)
      go_simp
      refine hK _ ?_
      clear hK K
      refine c_nil ?_
      refine p_nilC ?_
      refine p_stepC rfl ?_
      have KP := push_ok sb (ga lb cb mb Wb [] V.zeros) ([y0, y1, y2, y3], f) (.slice pa2 pm2 pc2) pL _ (shard_sh Sd2.out 1 rfl) (shard_lt Sd2.out 1 rfl) rfl (by have h9 := (xw Sd2.out 0 rfl).ws _ hpQ2.out; unfold Tq.v at h9; dsimp only at h9; rw [HPM.out] at h9; exact h9) HRP.out HPA.out (by have := HP8.out; omega) (by show Wb.length < 16; have := HWBL.out; omega)
      go_wp2_with (first | (go_at_call 18; refine Calls.mono KP ?_; rintro e k3 ⟨rfl, tp, hs, ht, hb⟩))
      clear KP
      have S3 : Hid (Sep w k3 [rX w.heap.size (.slice (some ⟨g, og, none⟩) k cv) Q Q, rS sb (ga lb cb mb (Wb ++ [(⟨([y0, y1, y2, y3], f), tp, pL⟩ : Bt)]) [] V.zeros), rS sa (ga la ca ma (Wa ++ [(⟨([a0, a1, a2, a3], d), tv, qL⟩ : Bt)]) [] V.zeros), rB bv [Value.int .u64 (u0 : Int), .int .u64 (u1 : Int), .int .u64 (u2 : Int), .int .u64 (u3 : Int), .bool o2], rB w.heap.size [Value.string pb, .string pe, .string pv, .bool pg, .bool po1, .int .u8 (pk1 : Int)]]) := shard_turn Sd2.out 1 rfl hs ht hb
      have HWB2 : Hid ((Wb ++ [(⟨([y0, y1, y2, y3], f), tp, pL⟩ : Bt)]).map btb = (QR.map Tq.b).take (i + 1)) := by
        show _ = _
        rw [HTB.out, List.map_append, HWB.out]; rfl
      clear hs ht hb Sd2 HTB HWB
      refine And.intro (fun _ => (HRG.out _ _ S3.out).2) ?_
      refine p_endC ?_
      go_wp2_with fail
      go_roundw
      case rel => exact ⟨i + 1, _, _, by omega, by go_num, HWA2, HWB2, S3⟩
      case measure => simp [intOf]; omega
    · obtain rfl : i = k := by omega
      have i1 : ¬ (i : Int) < (i : Int) := by omega
      have hd0 : (Q.map Tq.b).take i = Q.map Tq.b := List.take_of_length_le (by rw [List.length_map, HQL.out]; exact Nat.le_refl _)
      have hd1 : (QR.map Tq.b).take i = QR.map Tq.b := List.take_of_length_le (by rw [List.length_map, HRL.out]; exact Nat.le_refl _)
      rw [hd0] at HWA
      rw [hd1] at HWB
      clear hd0 hd1
      obtain ⟨k, hkj⟩ : ∃ k, k = i := ⟨_, rfl⟩
      obtain rfl := hkj
      go_wp2_with fail
      go_loopw [17] (fun iv wr => ∃ (i : Nat) (Wa Wb : List Bt) (Ea Eb : List En) (Aa Ab : List Nat), i ≤ k ∧ iv = .int .i64 (i : Int) ∧ Hid (Wa.map btb = (Q.map Tq.b).drop i) ∧ Hid (Wb.map btb = (QR.map Tq.b).drop i) ∧ Hid (vis Ea = allL [] ((Q.map Tq.b).take i)) ∧ Hid (vis Eb = allL [] ((QR.map Tq.b).take i)) ∧ Hid (Aa = allA V.zeros ((Q.map (·.s)).take i)) ∧ Hid (Ab = allA V.zeros ((QR.map (·.s)).take i)) ∧ Hid (lim (vis Ea) (8 * i)) ∧ Hid (lim (vis Eb) (8 * i)) ∧ Hid ((vis Ea).length ≤ 8 * i) ∧ Hid ((vis Eb).length ≤ 8 * i) ∧ Hid (Sep w wr [rX w.heap.size (.slice sv k cv) Q Q, rS sb (ga lb cb mb Wb Eb Ab), rS sa (ga la ca ma Wa Ea Aa), rB bv [Value.int .u64 (u0 : Int), .int .u64 (u1 : Int), .int .u64 (u2 : Int), .int .u64 (u3 : Int), .bool o2], rB w.heap.size [Value.string pb, .string pe, .string pv, .bool pg, .bool po1, .int .u8 (pk1 : Int)]])) (fun iv _ => k - (intOf iv).toNat)
      case atStart => exact ⟨0, Wa, Wb, [], [], V.zeros, V.zeros, by omega, rfl, HWA, HWB, rfl, rfl, rfl, rfl, (fun x hx => by cases hx), (fun x hx => by cases hx), Nat.le_refl _, Nat.le_refl _, Sr⟩
      case round =>
        clear Sr HWA HWB
        obtain ⟨i, Wa, Wb, Ea, Eb, Aa, Ab, hik, rfl, HWA, HWB, HVA, HVB, HAA, HAB, HLA, HLB, HNA, HNB, Sr⟩ := hrel
        by_cases hlt : i < k
        · have i1 : (i : Int) < (k : Int) := by omega
          obtain ⟨ba, W2, q, hW, hq, hb, hW2⟩ := tq_head Q Wa i (by rw [HQL.out]; exact hlt) HWA.out
          obtain ⟨bb, W3, p, hW_, hp, hb_, hW3⟩ := tq_head QR Wb i (by rw [HRL.out]; exact hlt) HWB.out
          have h8q := HQ.out.len q (List.mem_of_getElem? hq)
          have h8p := HQ.out.len p (HRM.out p (List.mem_of_getElem? hp))
          have hLa : ba.L.length ≤ 8 := by have h9 : ba.L = q.L := congrArg Prod.snd hb; rw [h9]; exact h8q
          have hLb : bb.L.length ≤ 8 := by have h9 : bb.L = p.L := congrArg Prod.snd hb_; rw [h9]; exact h8p
          have HWE := Lib.hid hW
          have HWF := Lib.hid hW_
          have HX2 := Lib.hid hW2
          have HX3 := Lib.hid hW3
          have NXA := Lib.hid (fun (E2 : List En) (A2 : List Nat) => st_next (E2 := E2) (A2 := A2) hq hb HVA.out HAA.out)
          have NXB := Lib.hid (fun (E2 : List En) (A2 : List Nat) => st_next (E2 := E2) (A2 := A2) hp hb_ HVB.out HAB.out)
          clear hW hW_ hW2 hW3 hq hp hb hb_
          go_wp2_with fail
          refine (step_ga ba W2 (shard_sh Sr.out 2 rfl) (shard_lt Sr.out 2 rfl) HWE.out (8 * i) HLA.out (by omega)).mono ?_; rintro e r1 ⟨rfl, E2, A2, hs, hA, hv, ht, hbl⟩
          obtain ⟨n1, n2, n3, n4⟩ := NXA.out E2 A2 hv hA HLA.out HNA.out h8q
          have M1 := Lib.hid n1
          have M2 := Lib.hid n2
          have M3 := Lib.hid n3
          have M4 := Lib.hid n4
          have Sa : Hid (Sep w r1 [rX w.heap.size (.slice sv k cv) Q Q, rS sb (ga lb cb mb Wb Eb Ab), rS sa (ga la ca ma W2 E2 A2), rB bv [Value.int .u64 (u0 : Int), .int .u64 (u1 : Int), .int .u64 (u2 : Int), .int .u64 (u3 : Int), .bool o2], rB w.heap.size [Value.string pb, .string pe, .string pv, .bool pg, .bool po1, .int .u8 (pk1 : Int)]]) := shard_turn Sr.out 2 rfl hs ht hbl
          clear n1 n2 n3 n4 hs hA hv ht hbl Sr NXA HVA HAA HLA HNA HWA HWE
          go_wp2_with fail
          refine (step_ga bb W3 (shard_sh Sa.out 1 rfl) (shard_lt Sa.out 1 rfl) HWF.out (8 * i) HLB.out (by omega)).mono ?_; rintro e r2 ⟨rfl, E3, A3, hs, hA, hv, ht, hbl⟩
          obtain ⟨n1, n2, n3, n4⟩ := NXB.out E3 A3 hv hA HLB.out HNB.out h8p
          have M5 := Lib.hid n1
          have M6 := Lib.hid n2
          have M7 := Lib.hid n3
          have M8 := Lib.hid n4
          have Sb : Hid (Sep w r2 [rX w.heap.size (.slice sv k cv) Q Q, rS sb (ga lb cb mb W3 E3 A3), rS sa (ga la ca ma W2 E2 A2), rB bv [Value.int .u64 (u0 : Int), .int .u64 (u1 : Int), .int .u64 (u2 : Int), .int .u64 (u3 : Int), .bool o2], rB w.heap.size [Value.string pb, .string pe, .string pv, .bool pg, .bool po1, .int .u8 (pk1 : Int)]]) := shard_turn Sa.out 1 rfl hs ht hbl
          clear n1 n2 n3 n4 hs hA hv ht hbl Sa NXB HVB HAB HLB HNB HWB HWF
          go_wp2_with fail
          go_roundw
          case rel => exact ⟨i + 1, _, _, _, _, _, _, by omega, by go_num, HX2, HX3, M1, M5, M2, M6, M3, M7, M4, M8, Sb⟩
          case measure => simp [intOf]; omega
        · have hik2 : i = k := by omega
          have i1 : ¬ (i : Int) < (k : Int) := by omega
          have hd0 : (Q.map Tq.b).take i = Q.map Tq.b := List.take_of_length_le (by rw [List.length_map, HQL.out]; omega)
          have hd1 : (QR.map Tq.b).take i = QR.map Tq.b := List.take_of_length_le (by rw [List.length_map, HRL.out]; omega)
          have hd2 : (Q.map (·.s)).take i = Q.map (·.s) := List.take_of_length_le (by rw [List.length_map, HQL.out]; omega)
          have hd3 : (QR.map (·.s)).take i = QR.map (·.s) := List.take_of_length_le (by rw [List.length_map, HRL.out]; omega)
          have hr0 : QR.map Tq.b = (Q.map Tq.b).reverse := by rw [← HQR.out, List.map_reverse]
          have hr1 : QR.map (·.s) = (Q.map (·.s)).reverse := by rw [← HQR.out, List.map_reverse]
          rw [hd0] at HVA
          rw [hd1, hr0] at HVB
          rw [hd2] at HAA
          rw [hd3, hr1] at HAB
          have HAE : Hid (Ab = Aa) := by show _ = _; rw [HAA.out, HAB.out]; exact (allA_alike _ _).symm
          obtain ⟨hgv, htv⟩ := alike HQ.out (shard_sh Sr.out 2 rfl) (shard_sh Sr.out 1 rfl) HVA.out HVB.out
          have HGV : Hid (∀ n, getV (vis Ea) n = getV (vis Eb) n) := hgv
          have HTV : Hid (tot (vis Ea) = tot (vis Eb)) := htv
          have HUP := Lib.hid (up_get (shard_sh Sr.out 2 rfl) (kb, ke))
          obtain ⟨x0, x1, x2, x3, xd, X, HX⟩ : ∃ x0 x1 x2 x3 xd, ∃ y : I.Wt, Hid (rdV (getV (vis Ea) (kb, ke)) [h0, h1, h2, h3] = (([x0, x1, x2, x3], xd), y)) := rd_parts HUP.out _
          obtain ⟨z0, z1, z2, z3, zd, Z, HZ⟩ : ∃ x0 x1 x2 x3 xd, ∃ y : I.Wt, Hid (lsV (getV (vis Ea) (kb, ke)) = (([x0, x1, x2, x3], xd), y)) := ls_parts HUP.out
          obtain ⟨xo, HXO⟩ : ∃ b, Hid (((C.read (getV (vis Ea) (kb, ke)) [h0, h1, h2, h3]).isSome && !X.2.2.2) = b) := ⟨_, rfl⟩
          obtain ⟨xv, HXV⟩ : ∃ b, Hid (X.2.2.1 = b) := ⟨_, rfl⟩
          obtain ⟨zo, HZO⟩ : ∃ b, Hid (decide (0 < (getV (vis Ea) (kb, ke)).length) = b) := ⟨_, rfl⟩
          obtain ⟨zb, zk, zv, zg⟩ := Z
          obtain ⟨g0, g1, g2, g3, hg⟩ := V.four (allA_len V.zeros (Q.map (·.s)) rfl)
          have HAG : Hid (Aa = [g0, g1, g2, g3]) := by show _ = _; rw [HAA.out]; exact hg
          clear hg
          have HLTA : Hid (∀ x ∈ vis Ea, x.2.length < 1000) := fun x hx => by have := HLA.out x hx; omega
          have HLTB : Hid (∀ x ∈ vis Eb, x.2.length < 1000) := fun x hx => by have := HLB.out x hx; omega
          have HT1 : Hid (tot (vis Ea) ≤ 1000000) := tot_small HLA.out HNA.out (by omega) (by omega)
          obtain ⟨tt, HTT⟩ : ∃ t, Hid (tot (vis Ea) = t) := ⟨_, rfl⟩
          have CRA : Hid (∀ u, Sh u sa (ga la ca ma Wa Ea Aa) → (∀ k ∈ (ga la ca ma Wa Ea Aa).bl sa, k < u.heap.size) → Calls Try.prog 22 #[.pointer (some ⟨sa, 0, none⟩), .string kb, .string ke, .agg [Value.int .u64 (h0 : Int), .int .u64 (h1 : Int), .int .u64 (h2 : Int), .int .u64 (h3 : Int)].toArray] u fun e w' => e = .returned (.tuple #[.string xv, .agg [Value.int .u64 (x0 : Int), .int .u64 (x1 : Int), .int .u64 (x2 : Int), .int .u64 (x3 : Int), .int .i64 xd].toArray, .bool xo]) ∧ Below u.heap.size u w') := fun u hS hl => by
            have h9 := read_ga kb ke [h0, h1, h2, h3] hS hl rfl HLTA.out
            rw [HX.out] at h9
            dsimp only at h9
            rw [HXO.out, HXV.out] at h9
            exact h9
          have CRB : Hid (∀ u, Sh u sb (ga lb cb mb Wb Eb Ab) → (∀ k ∈ (ga lb cb mb Wb Eb Ab).bl sb, k < u.heap.size) → Calls Try.prog 22 #[.pointer (some ⟨sb, 0, none⟩), .string kb, .string ke, .agg [Value.int .u64 (h0 : Int), .int .u64 (h1 : Int), .int .u64 (h2 : Int), .int .u64 (h3 : Int)].toArray] u fun e w' => e = .returned (.tuple #[.string xv, .agg [Value.int .u64 (x0 : Int), .int .u64 (x1 : Int), .int .u64 (x2 : Int), .int .u64 (x3 : Int), .int .i64 xd].toArray, .bool xo]) ∧ Below u.heap.size u w') := fun u hS hl => by
            have h9 := read_ga kb ke [h0, h1, h2, h3] hS hl rfl HLTB.out
            rw [← HGV.out (kb, ke)] at h9
            rw [HX.out] at h9
            dsimp only at h9
            rw [HXO.out, HXV.out] at h9
            exact h9
          have CLA : Hid (∀ u, Sh u sa (ga la ca ma Wa Ea Aa) → (∀ k ∈ (ga la ca ma Wa Ea Aa).bl sa, k < u.heap.size) → Calls Try.prog 24 #[.pointer (some ⟨sa, 0, none⟩), .string kb, .string ke] u fun e w' => e = .returned (.tuple #[.agg [Value.string zb, .string zk, .string zv, .bool zg].toArray, .agg [Value.int .u64 (z0 : Int), .int .u64 (z1 : Int), .int .u64 (z2 : Int), .int .u64 (z3 : Int), .int .i64 zd].toArray, .bool zo]) ∧ Below u.heap.size u w') := fun u hS hl => by
            have h9 := last_ga kb ke hS hl HLTA.out
            rw [HZ.out] at h9
            dsimp only at h9
            rw [HZO.out] at h9
            exact h9
          have CLB : Hid (∀ u, Sh u sb (ga lb cb mb Wb Eb Ab) → (∀ k ∈ (ga lb cb mb Wb Eb Ab).bl sb, k < u.heap.size) → Calls Try.prog 24 #[.pointer (some ⟨sb, 0, none⟩), .string kb, .string ke] u fun e w' => e = .returned (.tuple #[.agg [Value.string zb, .string zk, .string zv, .bool zg].toArray, .agg [Value.int .u64 (z0 : Int), .int .u64 (z1 : Int), .int .u64 (z2 : Int), .int .u64 (z3 : Int), .int .i64 zd].toArray, .bool zo]) ∧ Below u.heap.size u w') := fun u hS hl => by
            have h9 := last_ga kb ke hS hl HLTB.out
            rw [← HGV.out (kb, ke)] at h9
            rw [HZ.out] at h9
            dsimp only at h9
            rw [HZO.out] at h9
            exact h9
          have CAA : Hid (∀ u, Sh u sa (ga la ca ma Wa Ea Aa) → (∀ k ∈ (ga la ca ma Wa Ea Aa).bl sa, k < u.heap.size) → Calls Try.prog 28 #[.pointer (some ⟨sa, 0, none⟩)] u fun e w' => e = .returned (AV .u64 [g0, g1, g2, g3]) ∧ Below u.heap.size u w') := fun u hS hl => by
            have h9 := applied_ga hS hl
            rw [HAG.out] at h9
            exact h9
          have CAB : Hid (∀ u, Sh u sb (ga lb cb mb Wb Eb Ab) → (∀ k ∈ (ga lb cb mb Wb Eb Ab).bl sb, k < u.heap.size) → Calls Try.prog 28 #[.pointer (some ⟨sb, 0, none⟩)] u fun e w' => e = .returned (AV .u64 [g0, g1, g2, g3]) ∧ Below u.heap.size u w') := fun u hS hl => by
            have h9 := applied_ga hS hl
            rw [HAE.out, HAG.out] at h9
            exact h9
          have CVA : Hid (∀ u, Sh u sa (ga la ca ma Wa Ea Aa) → (∀ k ∈ (ga la ca ma Wa Ea Aa).bl sa, k < u.heap.size) → Calls Try.prog 29 #[.pointer (some ⟨sa, 0, none⟩)] u fun e w' => e = .returned (.int .i64 (tt : Int)) ∧ Below u.heap.size u w') := fun u hS hl => by
            have h9 := versions_ga hS hl HT1.out
            rw [HTT.out] at h9
            exact h9
          have CVB : Hid (∀ u, Sh u sb (ga lb cb mb Wb Eb Ab) → (∀ k ∈ (ga lb cb mb Wb Eb Ab).bl sb, k < u.heap.size) → Calls Try.prog 29 #[.pointer (some ⟨sb, 0, none⟩)] u fun e w' => e = .returned (.int .i64 (tt : Int)) ∧ Below u.heap.size u w') := fun u hS hl => by
            have h9 := versions_ga hS hl (by rw [← HTV.out]; exact HT1.out)
            rw [← HTV.out, HTT.out] at h9
            exact h9
          clear hgv htv HX HXO HXV HZ HZO HLTA HLTB HT1 HTT HUP HGV HTV HAE HAG HVA HVB HAA HAB HLA HLB HNA HNB HWA HWB hd0 hd1 hd2 hd3 hr0 hr1
          have S0 := Lib.hid Sr.out.tail
          clear Sr
          have q7 := (S0.out.blk 3 rfl).cell 4 (.bool po1) rfl
          have f7 := (S0.out.blk 3 rfl).free 4 (by simp)
          have S1 : Hid (Sep w (wr.setCell ⟨w.heap.size, 4, none⟩ (.bool true)) [rS sb (ga lb cb mb Wb Eb Ab), rS sa (ga la ca ma Wa Ea Aa), rB bv [Value.int .u64 (u0 : Int), .int .u64 (u1 : Int), .int .u64 (u2 : Int), .int .u64 (u3 : Int), .bool o2], rB w.heap.size [Value.string pb, .string pe, .string pv, .bool pg, .bool true, .int .u8 (pk1 : Int)]]) := S0.out.upd 3 rfl (Upd.setCell _ _ _ _) (Blk.setc (S0.out.blk 3 rfl) 4 (by simp) (.bool true))
          go_wp2_with (first | refine blk_load rfl 44 _ rfl w.heap.size rfl [Value.string pb, .string pe, .string pv, .bool pg, .bool true, .int .u8 (pk1 : Int)] (S1.out.blk 3 rfl) _ Try.underlying44 rfl Try.size_p ?_)
          generalize (wr.setCell ⟨w.heap.size, 4, none⟩ (.bool true)) = e1 at *
          clear S0 q7 f7
          refine (CW.out _).mono ?_; rintro e e2 ⟨rfl, hb⟩
          have S2 := Lib.hid (S1.out.below hb)
          clear hb S1
          go_wp2_with (first | refine blk_alloc rfl 42 [Value.string ⟨#[]⟩, .string ⟨#[]⟩, .string ⟨#[]⟩, .bool false] rfl Try.info_wz ?_)
          intro n3 A9 B Z
          obtain ⟨bk, HBB⟩ : ∃ b, Hid (e2.heap.size = b) := ⟨_, rfl⟩
          go_wp2_with (first | refine blk_store rfl 42 _ _ rfl e2.heap.size rfl [Value.string kb, .string ke, .string kv, .bool kg] rfl _ A9 rfl It.Try.size_w rfl ?_)
          intro e3 A8 U9
          have S3 : Hid (Sep w e3 [rB bk [Value.string kb, .string ke, .string kv, .bool kg], rS sb (ga lb cb mb Wb Eb Ab), rS sa (ga la ca ma Wa Ea Aa), rB bv [Value.int .u64 (u0 : Int), .int .u64 (u1 : Int), .int .u64 (u2 : Int), .int .u64 (u3 : Int), .bool o2], rB w.heap.size [Value.string pb, .string pe, .string pv, .bool pg, .bool true, .int .u8 (pk1 : Int)]]) := by
            show Sep _ _ _
            rw [← HBB.out]
            exact Sep.fresh S2.out B Z U9 A8
          rw [HBB.out]
          clear A9 B Z A8 U9 HBB S2
          go_wp2_with (first | refine blk_load rfl 46 _ rfl bv rfl [Value.int .u64 (u0 : Int), .int .u64 (u1 : Int), .int .u64 (u2 : Int), .int .u64 (u3 : Int), .bool o2] (S3.out.blk 3 rfl) _ Try.underlying46 rfl Vc.Try.size_vv ?_)
          refine (CVh.out _).mono ?_; rintro e e4 ⟨rfl, hb⟩
          have S4 := Lib.hid (S3.out.below hb)
          clear hb S3
          go_wp2_with (first | refine blk_alloc rfl 33 [Value.int .u64 0, .int .u64 0, .int .u64 0, .int .u64 0] rfl Try.info_vz ?_)
          intro n5 A9 B Z
          obtain ⟨bh, HBB⟩ : ∃ b, Hid (e4.heap.size = b) := ⟨_, rfl⟩
          go_wp2_with (first | refine blk_store rfl 33 _ _ rfl e4.heap.size rfl [Value.int .u64 (h0 : Int), .int .u64 (h1 : Int), .int .u64 (h2 : Int), .int .u64 (h3 : Int)] rfl _ A9 rfl Try.size_v rfl ?_)
          intro e5 A8 U9
          have S5 : Hid (Sep w e5 [rB bh [Value.int .u64 (h0 : Int), .int .u64 (h1 : Int), .int .u64 (h2 : Int), .int .u64 (h3 : Int)], rB bk [Value.string kb, .string ke, .string kv, .bool kg], rS sb (ga lb cb mb Wb Eb Ab), rS sa (ga la ca ma Wa Ea Aa), rB bv [Value.int .u64 (u0 : Int), .int .u64 (u1 : Int), .int .u64 (u2 : Int), .int .u64 (u3 : Int), .bool o2], rB w.heap.size [Value.string pb, .string pe, .string pv, .bool pg, .bool true, .int .u8 (pk1 : Int)]]) := by
            show Sep _ _ _
            rw [← HBB.out]
            exact Sep.fresh S4.out B Z U9 A8
          rw [HBB.out]
          clear A9 B Z A8 U9 HBB S4
          have c0 := (S5.out.blk 1 rfl).cell 0 _ rfl
          have c1 := (S5.out.blk 1 rfl).cell 1 _ rfl
          go_wp2_with (first | refine blk_load rfl 33 _ rfl bh rfl [Value.int .u64 (h0 : Int), .int .u64 (h1 : Int), .int .u64 (h2 : Int), .int .u64 (h3 : Int)] (S5.out.blk 0 rfl) _ Try.underlying33 rfl Try.size_v ?_)
          clear c0 c1
          refine (CRA.out _ (shard_sh S5.out 3 rfl) (shard_lt S5.out 3 rfl)).mono ?_; rintro e e6 ⟨rfl, hb⟩
          have S6 := Lib.hid (S5.out.below hb)
          clear hb S5
          go_wp2_with (first | refine blk_alloc rfl 35 [Value.int .u64 0, .int .u64 0, .int .u64 0, .int .u64 0, .int .i64 0] rfl Try.info_st ?_)
          intro n7 A9 B Z
          obtain ⟨b1, HBB⟩ : ∃ b, Hid (e6.heap.size = b) := ⟨_, rfl⟩
          go_wp2_with (first | refine blk_store rfl 35 _ _ rfl e6.heap.size rfl [Value.int .u64 (x0 : Int), .int .u64 (x1 : Int), .int .u64 (x2 : Int), .int .u64 (x3 : Int), .int .i64 xd] rfl _ A9 rfl Try.size_s rfl ?_)
          intro e7 A8 U9
          have S7 : Hid (Sep w e7 [rB b1 [Value.int .u64 (x0 : Int), .int .u64 (x1 : Int), .int .u64 (x2 : Int), .int .u64 (x3 : Int), .int .i64 xd], rB bh [Value.int .u64 (h0 : Int), .int .u64 (h1 : Int), .int .u64 (h2 : Int), .int .u64 (h3 : Int)], rB bk [Value.string kb, .string ke, .string kv, .bool kg], rS sb (ga lb cb mb Wb Eb Ab), rS sa (ga la ca ma Wa Ea Aa), rB bv [Value.int .u64 (u0 : Int), .int .u64 (u1 : Int), .int .u64 (u2 : Int), .int .u64 (u3 : Int), .bool o2], rB w.heap.size [Value.string pb, .string pe, .string pv, .bool pg, .bool true, .int .u8 (pk1 : Int)]]) := by
            show Sep _ _ _
            rw [← HBB.out]
            exact Sep.fresh S6.out B Z U9 A8
          rw [HBB.out]
          clear A9 B Z A8 U9 HBB S6
          have c0 := (S7.out.blk 2 rfl).cell 0 _ rfl
          have c1 := (S7.out.blk 2 rfl).cell 1 _ rfl
          go_wp2_with (first | refine blk_load rfl 33 _ rfl bh rfl [Value.int .u64 (h0 : Int), .int .u64 (h1 : Int), .int .u64 (h2 : Int), .int .u64 (h3 : Int)] (S7.out.blk 1 rfl) _ Try.underlying33 rfl Try.size_v ?_)
          clear c0 c1
          refine (CRB.out _ (shard_sh S7.out 3 rfl) (shard_lt S7.out 3 rfl)).mono ?_; rintro e e8 ⟨rfl, hb⟩
          have S8 := Lib.hid (S7.out.below hb)
          clear hb S7
          go_wp2_with (first | refine blk_alloc rfl 35 [Value.int .u64 0, .int .u64 0, .int .u64 0, .int .u64 0, .int .i64 0] rfl Try.info_st ?_)
          intro n9 A9 B Z
          obtain ⟨b2, HBB⟩ : ∃ b, Hid (e8.heap.size = b) := ⟨_, rfl⟩
          go_wp2_with (first | refine blk_store rfl 35 _ _ rfl e8.heap.size rfl [Value.int .u64 (x0 : Int), .int .u64 (x1 : Int), .int .u64 (x2 : Int), .int .u64 (x3 : Int), .int .i64 xd] rfl _ A9 rfl Try.size_s rfl ?_)
          intro e9 A8 U9
          have S9 : Hid (Sep w e9 [rB b2 [Value.int .u64 (x0 : Int), .int .u64 (x1 : Int), .int .u64 (x2 : Int), .int .u64 (x3 : Int), .int .i64 xd], rB b1 [Value.int .u64 (x0 : Int), .int .u64 (x1 : Int), .int .u64 (x2 : Int), .int .u64 (x3 : Int), .int .i64 xd], rB bh [Value.int .u64 (h0 : Int), .int .u64 (h1 : Int), .int .u64 (h2 : Int), .int .u64 (h3 : Int)], rB bk [Value.string kb, .string ke, .string kv, .bool kg], rS sb (ga lb cb mb Wb Eb Ab), rS sa (ga la ca ma Wa Ea Aa), rB bv [Value.int .u64 (u0 : Int), .int .u64 (u1 : Int), .int .u64 (u2 : Int), .int .u64 (u3 : Int), .bool o2], rB w.heap.size [Value.string pb, .string pe, .string pv, .bool pg, .bool true, .int .u8 (pk1 : Int)]]) := by
            show Sep _ _ _
            rw [← HBB.out]
            exact Sep.fresh S8.out B Z U9 A8
          rw [HBB.out]
          clear A9 B Z A8 U9 HBB S8
          have c0 := (S9.out.blk 3 rfl).cell 0 _ rfl
          have c1 := (S9.out.blk 3 rfl).cell 1 _ rfl
          go_wp2_with fail
          clear c0 c1
          refine (CLA.out _ (shard_sh S9.out 5 rfl) (shard_lt S9.out 5 rfl)).mono ?_; rintro e e10 ⟨rfl, hb⟩
          have S10 := Lib.hid (S9.out.below hb)
          clear hb S9
          go_wp2_with (first | refine blk_alloc rfl 42 [Value.string ⟨#[]⟩, .string ⟨#[]⟩, .string ⟨#[]⟩, .bool false] rfl Try.info_wz ?_)
          intro m11 A1 B1 Z1
          go_wp2_with (first | refine blk_alloc rfl 35 [Value.int .u64 0, .int .u64 0, .int .u64 0, .int .u64 0, .int .i64 0] rfl Try.info_st ?_)
          intro n11 A2 B2 Z2
          obtain ⟨b3, HB1⟩ : ∃ b, Hid (e10.heap.size = b) := ⟨_, rfl⟩
          obtain ⟨b4, HB2⟩ : ∃ b, Hid (e10.heap.size + 1 = b) := ⟨_, rfl⟩
          have Sx : Hid (Sep w m11 [rB b3 [Value.string ⟨#[]⟩, .string ⟨#[]⟩, .string ⟨#[]⟩, .bool false], rB b2 [Value.int .u64 (x0 : Int), .int .u64 (x1 : Int), .int .u64 (x2 : Int), .int .u64 (x3 : Int), .int .i64 xd], rB b1 [Value.int .u64 (x0 : Int), .int .u64 (x1 : Int), .int .u64 (x2 : Int), .int .u64 (x3 : Int), .int .i64 xd], rB bh [Value.int .u64 (h0 : Int), .int .u64 (h1 : Int), .int .u64 (h2 : Int), .int .u64 (h3 : Int)], rB bk [Value.string kb, .string ke, .string kv, .bool kg], rS sb (ga lb cb mb Wb Eb Ab), rS sa (ga la ca ma Wa Ea Aa), rB bv [Value.int .u64 (u0 : Int), .int .u64 (u1 : Int), .int .u64 (u2 : Int), .int .u64 (u3 : Int), .bool o2], rB w.heap.size [Value.string pb, .string pe, .string pv, .bool pg, .bool true, .int .u8 (pk1 : Int)]]) := by
            show Sep _ _ _
            rw [← HB1.out]
            exact S10.out.box B1 Z1 A1
          have Sy : Hid (Sep w n11 [rB b4 [Value.int .u64 0, .int .u64 0, .int .u64 0, .int .u64 0, .int .i64 0], rB b3 [Value.string ⟨#[]⟩, .string ⟨#[]⟩, .string ⟨#[]⟩, .bool false], rB b2 [Value.int .u64 (x0 : Int), .int .u64 (x1 : Int), .int .u64 (x2 : Int), .int .u64 (x3 : Int), .int .i64 xd], rB b1 [Value.int .u64 (x0 : Int), .int .u64 (x1 : Int), .int .u64 (x2 : Int), .int .u64 (x3 : Int), .int .i64 xd], rB bh [Value.int .u64 (h0 : Int), .int .u64 (h1 : Int), .int .u64 (h2 : Int), .int .u64 (h3 : Int)], rB bk [Value.string kb, .string ke, .string kv, .bool kg], rS sb (ga lb cb mb Wb Eb Ab), rS sa (ga la ca ma Wa Ea Aa), rB bv [Value.int .u64 (u0 : Int), .int .u64 (u1 : Int), .int .u64 (u2 : Int), .int .u64 (u3 : Int), .bool o2], rB w.heap.size [Value.string pb, .string pe, .string pv, .bool pg, .bool true, .int .u8 (pk1 : Int)]]) := by
            show Sep _ _ _
            rw [← HB2.out, ← Z1]
            exact Sx.out.box (by rw [Z1]; exact B2) (by rw [Z1]; exact Z2) (by rw [Z1]; exact A2)
          rw [HB2.out, HB1.out]
          clear A1 B1 Z1 A2 B2 Z2 HB1 HB2 Sx S10
          go_wp2_with (first | refine blk_store rfl 42 _ _ rfl b3 rfl [Value.string zb, .string zk, .string zv, .bool zg] rfl _ (Sy.out.blk 1 rfl) rfl It.Try.size_w rfl ?_)
          intro o11 A8 U8
          have Sz : Hid (Sep w o11 [rB b4 [Value.int .u64 0, .int .u64 0, .int .u64 0, .int .u64 0, .int .i64 0], rB b3 [Value.string zb, .string zk, .string zv, .bool zg], rB b2 [Value.int .u64 (x0 : Int), .int .u64 (x1 : Int), .int .u64 (x2 : Int), .int .u64 (x3 : Int), .int .i64 xd], rB b1 [Value.int .u64 (x0 : Int), .int .u64 (x1 : Int), .int .u64 (x2 : Int), .int .u64 (x3 : Int), .int .i64 xd], rB bh [Value.int .u64 (h0 : Int), .int .u64 (h1 : Int), .int .u64 (h2 : Int), .int .u64 (h3 : Int)], rB bk [Value.string kb, .string ke, .string kv, .bool kg], rS sb (ga lb cb mb Wb Eb Ab), rS sa (ga la ca ma Wa Ea Aa), rB bv [Value.int .u64 (u0 : Int), .int .u64 (u1 : Int), .int .u64 (u2 : Int), .int .u64 (u3 : Int), .bool o2], rB w.heap.size [Value.string pb, .string pe, .string pv, .bool pg, .bool true, .int .u8 (pk1 : Int)]]) := Sy.out.upd 1 rfl U8 A8
          clear A8 U8 Sy
          go_wp2_with (first | refine blk_store rfl 35 _ _ rfl b4 rfl [Value.int .u64 (z0 : Int), .int .u64 (z1 : Int), .int .u64 (z2 : Int), .int .u64 (z3 : Int), .int .i64 zd] rfl _ (Sz.out.blk 0 rfl) rfl Try.size_s rfl ?_)
          intro e11 A8 U8
          have S11 : Hid (Sep w e11 [rB b4 [Value.int .u64 (z0 : Int), .int .u64 (z1 : Int), .int .u64 (z2 : Int), .int .u64 (z3 : Int), .int .i64 zd], rB b3 [Value.string zb, .string zk, .string zv, .bool zg], rB b2 [Value.int .u64 (x0 : Int), .int .u64 (x1 : Int), .int .u64 (x2 : Int), .int .u64 (x3 : Int), .int .i64 xd], rB b1 [Value.int .u64 (x0 : Int), .int .u64 (x1 : Int), .int .u64 (x2 : Int), .int .u64 (x3 : Int), .int .i64 xd], rB bh [Value.int .u64 (h0 : Int), .int .u64 (h1 : Int), .int .u64 (h2 : Int), .int .u64 (h3 : Int)], rB bk [Value.string kb, .string ke, .string kv, .bool kg], rS sb (ga lb cb mb Wb Eb Ab), rS sa (ga la ca ma Wa Ea Aa), rB bv [Value.int .u64 (u0 : Int), .int .u64 (u1 : Int), .int .u64 (u2 : Int), .int .u64 (u3 : Int), .bool o2], rB w.heap.size [Value.string pb, .string pe, .string pv, .bool pg, .bool true, .int .u8 (pk1 : Int)]]) := Sz.out.upd 0 rfl U8 A8
          clear A8 U8 Sz
          have c0 := (S11.out.blk 5 rfl).cell 0 _ rfl
          have c1 := (S11.out.blk 5 rfl).cell 1 _ rfl
          go_wp2_with fail
          clear c0 c1
          refine (CLB.out _ (shard_sh S11.out 6 rfl) (shard_lt S11.out 6 rfl)).mono ?_; rintro e e12 ⟨rfl, hb⟩
          have S12 := Lib.hid (S11.out.below hb)
          clear hb S11
          go_wp2_with (first | refine blk_alloc rfl 42 [Value.string ⟨#[]⟩, .string ⟨#[]⟩, .string ⟨#[]⟩, .bool false] rfl Try.info_wz ?_)
          intro m13 A1 B1 Z1
          go_wp2_with (first | refine blk_alloc rfl 35 [Value.int .u64 0, .int .u64 0, .int .u64 0, .int .u64 0, .int .i64 0] rfl Try.info_st ?_)
          intro n13 A2 B2 Z2
          obtain ⟨b5, HB1⟩ : ∃ b, Hid (e12.heap.size = b) := ⟨_, rfl⟩
          obtain ⟨b6, HB2⟩ : ∃ b, Hid (e12.heap.size + 1 = b) := ⟨_, rfl⟩
          have Sx : Hid (Sep w m13 [rB b5 [Value.string ⟨#[]⟩, .string ⟨#[]⟩, .string ⟨#[]⟩, .bool false], rB b4 [Value.int .u64 (z0 : Int), .int .u64 (z1 : Int), .int .u64 (z2 : Int), .int .u64 (z3 : Int), .int .i64 zd], rB b3 [Value.string zb, .string zk, .string zv, .bool zg], rB b2 [Value.int .u64 (x0 : Int), .int .u64 (x1 : Int), .int .u64 (x2 : Int), .int .u64 (x3 : Int), .int .i64 xd], rB b1 [Value.int .u64 (x0 : Int), .int .u64 (x1 : Int), .int .u64 (x2 : Int), .int .u64 (x3 : Int), .int .i64 xd], rB bh [Value.int .u64 (h0 : Int), .int .u64 (h1 : Int), .int .u64 (h2 : Int), .int .u64 (h3 : Int)], rB bk [Value.string kb, .string ke, .string kv, .bool kg], rS sb (ga lb cb mb Wb Eb Ab), rS sa (ga la ca ma Wa Ea Aa), rB bv [Value.int .u64 (u0 : Int), .int .u64 (u1 : Int), .int .u64 (u2 : Int), .int .u64 (u3 : Int), .bool o2], rB w.heap.size [Value.string pb, .string pe, .string pv, .bool pg, .bool true, .int .u8 (pk1 : Int)]]) := by
            show Sep _ _ _
            rw [← HB1.out]
            exact S12.out.box B1 Z1 A1
          have Sy : Hid (Sep w n13 [rB b6 [Value.int .u64 0, .int .u64 0, .int .u64 0, .int .u64 0, .int .i64 0], rB b5 [Value.string ⟨#[]⟩, .string ⟨#[]⟩, .string ⟨#[]⟩, .bool false], rB b4 [Value.int .u64 (z0 : Int), .int .u64 (z1 : Int), .int .u64 (z2 : Int), .int .u64 (z3 : Int), .int .i64 zd], rB b3 [Value.string zb, .string zk, .string zv, .bool zg], rB b2 [Value.int .u64 (x0 : Int), .int .u64 (x1 : Int), .int .u64 (x2 : Int), .int .u64 (x3 : Int), .int .i64 xd], rB b1 [Value.int .u64 (x0 : Int), .int .u64 (x1 : Int), .int .u64 (x2 : Int), .int .u64 (x3 : Int), .int .i64 xd], rB bh [Value.int .u64 (h0 : Int), .int .u64 (h1 : Int), .int .u64 (h2 : Int), .int .u64 (h3 : Int)], rB bk [Value.string kb, .string ke, .string kv, .bool kg], rS sb (ga lb cb mb Wb Eb Ab), rS sa (ga la ca ma Wa Ea Aa), rB bv [Value.int .u64 (u0 : Int), .int .u64 (u1 : Int), .int .u64 (u2 : Int), .int .u64 (u3 : Int), .bool o2], rB w.heap.size [Value.string pb, .string pe, .string pv, .bool pg, .bool true, .int .u8 (pk1 : Int)]]) := by
            show Sep _ _ _
            rw [← HB2.out, ← Z1]
            exact Sx.out.box (by rw [Z1]; exact B2) (by rw [Z1]; exact Z2) (by rw [Z1]; exact A2)
          rw [HB2.out, HB1.out]
          clear A1 B1 Z1 A2 B2 Z2 HB1 HB2 Sx S12
          go_wp2_with (first | refine blk_store rfl 42 _ _ rfl b5 rfl [Value.string zb, .string zk, .string zv, .bool zg] rfl _ (Sy.out.blk 1 rfl) rfl It.Try.size_w rfl ?_)
          intro o13 A8 U8
          have Sz : Hid (Sep w o13 [rB b6 [Value.int .u64 0, .int .u64 0, .int .u64 0, .int .u64 0, .int .i64 0], rB b5 [Value.string zb, .string zk, .string zv, .bool zg], rB b4 [Value.int .u64 (z0 : Int), .int .u64 (z1 : Int), .int .u64 (z2 : Int), .int .u64 (z3 : Int), .int .i64 zd], rB b3 [Value.string zb, .string zk, .string zv, .bool zg], rB b2 [Value.int .u64 (x0 : Int), .int .u64 (x1 : Int), .int .u64 (x2 : Int), .int .u64 (x3 : Int), .int .i64 xd], rB b1 [Value.int .u64 (x0 : Int), .int .u64 (x1 : Int), .int .u64 (x2 : Int), .int .u64 (x3 : Int), .int .i64 xd], rB bh [Value.int .u64 (h0 : Int), .int .u64 (h1 : Int), .int .u64 (h2 : Int), .int .u64 (h3 : Int)], rB bk [Value.string kb, .string ke, .string kv, .bool kg], rS sb (ga lb cb mb Wb Eb Ab), rS sa (ga la ca ma Wa Ea Aa), rB bv [Value.int .u64 (u0 : Int), .int .u64 (u1 : Int), .int .u64 (u2 : Int), .int .u64 (u3 : Int), .bool o2], rB w.heap.size [Value.string pb, .string pe, .string pv, .bool pg, .bool true, .int .u8 (pk1 : Int)]]) := Sy.out.upd 1 rfl U8 A8
          clear A8 U8 Sy
          go_wp2_with (first | refine blk_store rfl 35 _ _ rfl b6 rfl [Value.int .u64 (z0 : Int), .int .u64 (z1 : Int), .int .u64 (z2 : Int), .int .u64 (z3 : Int), .int .i64 zd] rfl _ (Sz.out.blk 0 rfl) rfl Try.size_s rfl ?_)
          intro e13 A8 U8
          have S13 : Hid (Sep w e13 [rB b6 [Value.int .u64 (z0 : Int), .int .u64 (z1 : Int), .int .u64 (z2 : Int), .int .u64 (z3 : Int), .int .i64 zd], rB b5 [Value.string zb, .string zk, .string zv, .bool zg], rB b4 [Value.int .u64 (z0 : Int), .int .u64 (z1 : Int), .int .u64 (z2 : Int), .int .u64 (z3 : Int), .int .i64 zd], rB b3 [Value.string zb, .string zk, .string zv, .bool zg], rB b2 [Value.int .u64 (x0 : Int), .int .u64 (x1 : Int), .int .u64 (x2 : Int), .int .u64 (x3 : Int), .int .i64 xd], rB b1 [Value.int .u64 (x0 : Int), .int .u64 (x1 : Int), .int .u64 (x2 : Int), .int .u64 (x3 : Int), .int .i64 xd], rB bh [Value.int .u64 (h0 : Int), .int .u64 (h1 : Int), .int .u64 (h2 : Int), .int .u64 (h3 : Int)], rB bk [Value.string kb, .string ke, .string kv, .bool kg], rS sb (ga lb cb mb Wb Eb Ab), rS sa (ga la ca ma Wa Ea Aa), rB bv [Value.int .u64 (u0 : Int), .int .u64 (u1 : Int), .int .u64 (u2 : Int), .int .u64 (u3 : Int), .bool o2], rB w.heap.size [Value.string pb, .string pe, .string pv, .bool pg, .bool true, .int .u8 (pk1 : Int)]]) := Sz.out.upd 0 rfl U8 A8
          clear A8 U8 Sz
          have hsx : T.same [x0, x1, x2, x3] xd [x0, x1, x2, x3] xd = true := by unfold T.same; simp
          go_wp2_with (first | refine blk_loadg (by rfl) 35 _ rfl b1 rfl [Value.int .u64 (x0 : Int), .int .u64 (x1 : Int), .int .u64 (x2 : Int), .int .u64 (x3 : Int), .int .i64 xd] (S13.out.blk 5 rfl) _ Try.underlying35 rfl Try.size_s ?_ | refine blk_loadg (by rfl) 35 _ rfl b2 rfl [Value.int .u64 (x0 : Int), .int .u64 (x1 : Int), .int .u64 (x2 : Int), .int .u64 (x3 : Int), .int .i64 xd] (S13.out.blk 4 rfl) _ Try.underlying35 rfl Try.size_s ?_ | refine blk_loadg (by rfl) 42 _ rfl b3 rfl [Value.string zb, .string zk, .string zv, .bool zg] (S13.out.blk 3 rfl) _ Try.underlying42 rfl It.Try.size_w ?_ | refine blk_loadg (by rfl) 42 _ rfl b5 rfl [Value.string zb, .string zk, .string zv, .bool zg] (S13.out.blk 1 rfl) _ Try.underlying42 rfl It.Try.size_w ?_ | refine val_stepg (by rfl) (.bool true) (run_eql _ .eql 35 35 _ _ (SV [x0, x1, x2, x3] xd) (SV [x0, x1, x2, x3] xd) _ rfl rfl rfl (guard_s _ _ _ _ _ _ _) (by rw [eql_s _ _ _ _ rfl rfl, hsx])) ?_ | refine val_stepg (by rfl) (.bool true) (run_eql _ .eql 42 42 _ _ (WV (zb, zk, zv, zg)) (WV (zb, zk, zv, zg)) _ rfl rfl rfl (guard_iw _ _ _ _ _ _) (by rw [eql_iw]; simp)) ?_)
          refine (CAA.out _ (shard_sh S13.out 9 rfl) (shard_lt S13.out 9 rfl)).mono ?_; rintro e e14 ⟨rfl, hb⟩
          have S14 := Lib.hid (S13.out.below hb)
          clear hb S13
          go_wp2_with fail
          refine (CAB.out _ (shard_sh S14.out 8 rfl) (shard_lt S14.out 8 rfl)).mono ?_; rintro e e15 ⟨rfl, hb⟩
          have S15 := Lib.hid (S14.out.below hb)
          clear hb S14
          go_wp2_with (first | refine val_stepg (by rfl) (.bool true) (run_eql _ .eql 33 33 _ _ (AV .u64 [g0, g1, g2, g3]) (AV .u64 [g0, g1, g2, g3]) _ rfl rfl rfl (guard_v _ _ _ _ _) (by rw [eql_v _ _ rfl rfl, decide_eq_true rfl])) ?_)
          refine (CVA.out _ (shard_sh S15.out 9 rfl) (shard_lt S15.out 9 rfl)).mono ?_; rintro e e16 ⟨rfl, hb⟩
          have S16 := Lib.hid (S15.out.below hb)
          clear hb S15
          go_wp2_with fail
          refine (CVB.out _ (shard_sh S16.out 8 rfl) (shard_lt S16.out 8 rfl)).mono ?_; rintro e e17 ⟨rfl, hb⟩
          have S17 := Lib.hid (S16.out.below hb)
          clear hb S16
          have HU := Lib.hid S17.out.under
          go_wp2_with fail
          go_ret
          exact ⟨rfl, HU.out⟩

set_option maxRecDepth 100000 in
theorem lifted (os : Os) (started : os.Started) (H : Type) (enc : TypeId × Value → H) :
    ReturnsInHanded {} Try.checked os 5 .any (Rows.shardAlikeSpec.pre6 enc Try.prog Try.f5 Rows.shardAlikeRow.domain false) (Rows.shardAlikeSpec.post enc Try.prog Try.f5 false true false false) := by
  refine returnsInHanded_of_change_sized (C := Try.checked) own started (by kernel_rfl) Try.func5
    (ChangeSpec.witness6 (enc := enc) (C := Try.checked) false ⟨#[], #[.slice none 0 0, .agg #[.string ByteArray.empty, .string ByteArray.empty, .string ByteArray.empty, .bool false, .bool false, .int .u8 0], .agg #[.int .u64 0, .int .u64 0, .int .u64 0, .int .u64 0, .bool false]], []⟩ 8 (by kernel_rfl) (by kernel_rfl) (by kernel_rfl) (by kernel_rfl)) ?_
  intro W base args ds gs before hval0 hW hcnd hsz0 _
  have hval : ∀ (j : Nat) t v, Try.f5.params[j]? = some t → args[j]? = some v → Value.okWide Try.prog W .any base t v := hval0
  have hW' := hW
  obtain ⟨p, q, hA0, hV, rfl, hfz, hnd⟩ := hW
  have hA : DataW.TrodAll enc Try.prog W 0 (fun _ => true) true Try.f5.params.toList args.toList ds p := hA0
  have hsz : (DataW.weightsEach Try.prog (Try.f5.params.toList ++ Rows.shardAlikeSpec.plain.varTypes Try.prog) (ds ++ gs)).all (· ≤ reachBytes) = true := hsz0
  rw [Try.params5] at hA hval hsz
  obtain ⟨rfl, rfl⟩ := trodVars_none hV
  have hAk := hA
  have hlt : ∀ x ∈ p, x.block < W.heap.size := fun x hx => by simpa using hW'.lt x (List.mem_append.2 (.inl hx))
  obtain ⟨v0, vs0, d0, ds0, p0, q0, hargs, rfl, rfl, h0, r0⟩ := trodAll_cons hA
  obtain ⟨v1, vs1, d1, ds1, p1, q1, rfl, rfl, rfl, h1, r1⟩ := trodAll_cons r0
  obtain ⟨v2, vs2, d2, ds2, p2, q2, rfl, rfl, rfl, h2, r2⟩ := trodAll_cons r1
  obtain ⟨rfl, rfl, rfl⟩ := trodAll_nil r2
  obtain rfl : args = #[v0, v1, v2] := by cases args; simp_all
  obtain ⟨a0, len0, cap0, rfl⟩ := okWide_slice Try.underlying85 (hval 0 85 v0 rfl rfl)
  obtain ⟨DL0, w0, m0⟩ := open_deals h0 (Sz.arg hsz (j := 0) rfl rfl)
  obtain ⟨px1, po1, pk1, rfl, kq1⟩ := open_put (hval 1 44 v1 rfl rfl) h1 (Sz.arg hsz (j := 1) rfl rfl)
  obtain ⟨a2, o2, rfl, w2⟩ := open_vector (hval 2 46 v2 rfl rfl) h2
  clear hA0 hval0 hsz0
  refine (walk (.slice a0 len0 cap0) DL0 px1 po1 pk1 a2 o2 kq1 w2 W w0 m0).mono fun e W' ⟨he, hg⟩ => ?_
  subst he
  exact ⟨_, rfl, _, _, _, [], _, [], hW', (trodAll_cons_mk (shut_bool Try.underlying4 _) trodAll_mk0), trodAll_below laidOut hg _ _ _ _ (by kernel_rfl) hAk hlt, rfl, hg.frame _, fun h => by cases h⟩

theorem over : Rows.shardAlikeRow.holds Try.pinned (OpenSpec.ofChange Rows.shardAlikeSpec) :=
  OpenClaim.holds_of_wide 5 Try.f5 rfl rfl rfl rfl rfl rfl rfl ⟨rfl, rfl, rfl, rfl, rfl⟩ rfl rfl rfl rfl rfl (by kernel_rfl) Try.func5 (by kernel_rfl)
    (of_decide_eq_true (by kernel_rfl)) (by unfold Func.isWrapper; first | (rw [if_pos (by decide +kernel)]; kernel_rfl) | (rw [if_neg (by decide +kernel)]; exact ⟨rfl, rfl⟩))
    (fun os started H enc _ => lifted os started H enc)

/-- the statement -/
theorem proved : Rows.ShardAlikeSaid :=
  over
#print axioms proved

end Go.Proofs.Ytohcdonmdnjgoaa.shardAlike
