/-
  What waits is not read; applied, it is read from its stamp on, and not below; there is room for just so many (the law ShardWaits). No conditions.
-/
import Derived.Test.YtdoodjeffjjlgaaFrame

import Derived.Test.YtdoodjeffjjlgaaShardMath

import Derived.Deep.DeepCutAuto

import Derived.Test.YtdoodjeffjjlgaaFramePutT

namespace Go.Proofs.Ytdoodjeffjjlgaa.shardWaits

open Go.ChangeShapes Go.WideShapes Go.ChangeAt Go.RowKit

open Go.ChangeMaps (open_string shut_string)

open Go.Proofs.Ytdoodjeffjjlgaa.Vc Go.Proofs.Ytdoodjeffjjlgaa.Sp Go.Proofs.Ytdoodjeffjjlgaa.Rw Go.Proofs.Ytdoodjeffjjlgaa.Ch Go.Proofs.Ytdoodjeffjjlgaa.Se Go.Proofs.Ytdoodjeffjjlgaa.It Go.Proofs.Ytdoodjeffjjlgaa.Mk Go.Proofs.Ytdoodjeffjjlgaa.Sd

set_option linter.unusedVariables false

set_option linter.unusedSimpArgs false

set_option maxHeartbeats 64000000 in
set_option maxRecDepth 100000 in
theorem walk (a0 : Int) (al1 : List Nat) (dd1 : Int) (mo1 : Bool) (sv1 : Value) (PL1 : List I.Pt) (ow1 : Bool) (a2 : Int) (w0 : (Lit.int .u8 a0).wf = true) (k1 : V.Ok al1) (kd1 : (Lit.int .i64 dd1).wf = true) (kp1 : ∀ p ∈ PL1, I.POk p) (w2 : (Lit.int .u8 a2).wf = true) (w : World) (ki1 : IsPs w sv1 PL1) :
    Calls Try.prog 4 #[.int .u8 a0, DV al1 dd1 mo1 sv1 ow1, .int .u8 a2] w fun e w' => e = .returned (.bool true) ∧ Below w.heap.size w w' := by
  have h0 : 0 ≤ a0 ∧ a0 ≤ 255 := by simpa [Lit.wf, IntKind.min, IntKind.max, IntKind.signed, IntKind.bits] using w0
  obtain ⟨r, rfl, hr⟩ : ∃ r : Nat, a0 = (r : Int) ∧ r < 256 := ⟨a0.toNat, by omega, by omega⟩
  clear w0 h0
  have h0 : 0 ≤ a2 ∧ a2 ≤ 255 := by simpa [Lit.wf, IntKind.min, IntKind.max, IntKind.signed, IntKind.bits] using w2
  obtain ⟨qn, rfl, hqn⟩ : ∃ r : Nat, a2 = (r : Int) ∧ r < 256 := ⟨a2.toNat, by omega, by omega⟩
  clear w2 h0
  obtain ⟨x, hx⟩ : ∃ x : Dl, x = ⟨al1, dd1, mo1, sv1, PL1, ow1⟩ := ⟨_, rfl⟩
  have hok : DlOk w x := by subst hx; exact ⟨k1, kd1, ki1, kp1⟩
  obtain ⟨rfl, rfl, rfl, rfl, rfl, rfl⟩ : al1 = x.l ∧ dd1 = x.d ∧ mo1 = x.mo ∧ sv1 = x.v ∧ PL1 = x.L ∧ ow1 = x.own := by subst hx; exact ⟨rfl, rfl, rfl, rfl, rfl, rfl⟩
  clear hx k1 kd1 ki1 kp1
  have CD := Lib.hid (fun u (hu : Below w.heap.size w u) => deal_fresh hok u hu)
  have HR := Lib.hid (dlS_right hok)
  have HA := Lib.hid (dlW_all hok)
  have HL := Lib.hid (dlW_len hok)
  have HOK := Lib.hid (I.whole_some (dl_whole hok)).2.2.2
  have hs4 := (dlS_ok hok).len
  have hl4 := hok.v.len
  obtain ⟨pa, pc, ev⟩ := hok.puts.nilOrSome
  obtain ⟨⟨a, d⟩, HS⟩ : ∃ z : C.St, Hid (dlS x = z) := ⟨_, rfl⟩
  obtain ⟨MM, HM⟩ : ∃ z, Hid (dlW x = z) := ⟨_, rfl⟩
  rw [HS.out, HM.out] at CD
  rw [HS.out] at HR hs4
  rw [HM.out] at HA HL HOK
  clear HS HM hok
  obtain ⟨xl, dd, mo, sv, PL, ow⟩ := x
  dsimp only at hl4 hs4 CD HR ev ⊢
  subst ev
  obtain ⟨pm, HPL⟩ : ∃ z, Hid (PL.length = z) := ⟨_, rfl⟩
  rw [HPL.out] at CD ⊢
  obtain ⟨l0, l1, l2, l3, rfl⟩ := V.four hl4
  obtain ⟨a0, a1, a2, a3, rfl⟩ := V.four hs4
  clear hl4 hs4
  obtain ⟨m0, MR, HMC⟩ : ∃ m0 MR, Hid (MM = m0 :: MR) := by
    cases MM with
    | nil => have := HL.out.1; simp at this
    | cons m MR => exact ⟨m, MR, rfl⟩
  go_enter Try.func4, Try.ntmps4
  go_wp2_with (first | refine blk_box rfl 40 _ rfl [Value.int .u64 (l0 : Int), .int .u64 (l1 : Int), .int .u64 (l2 : Int), .int .u64 (l3 : Int), .int .i64 dd, .bool mo, .slice pa pm pc, .bool ow] rfl ?_)
  intro w1 A B Z
  have T1 : Hid (Sep w w1 [rB w.heap.size [Value.int .u64 (l0 : Int), .int .u64 (l1 : Int), .int .u64 (l2 : Int), .int .u64 (l3 : Int), .int .i64 dd, .bool mo, .slice pa pm pc, .bool ow]]) := (Sep.start w).box B Z A
  clear A B Z
  go_wp2_with fail
  refine (examples_any _).mono ?_; rintro e w4 ⟨rfl, hb⟩
  have T4 := Lib.hid (T1.out.below hb)
  clear hb T1
  go_wp2_with fail
  rw [show (1 + (r : Int) % 16) = ((1 + r % 16 : Nat) : Int) by omega]
  obtain ⟨k, hk, hk1, hk2⟩ : ∃ k, k = 1 + r % 16 ∧ 1 ≤ k ∧ k ≤ 16 := ⟨_, rfl, by omega, by omega⟩
  rw [← hk]
  clear hk hr
  refine (new_ok k hk1 hk2 _).mono ?_; rintro e w5 ⟨s, lb, ch, mb, rfl, hs, hb, hn⟩
  have S5 : Hid (Sep w w5 [rS s (gr k lb ch mb [] [] V.zeros), rB w.heap.size [Value.int .u64 (l0 : Int), .int .u64 (l1 : Int), .int .u64 (l2 : Int), .int .u64 (l3 : Int), .int .i64 dd, .bool mo, .slice pa pm pc, .bool ow]]) := shard_new T4.out hb hs hn
  clear hs hb hn T4
  have q7 := (S5.out.blk 1 rfl).cell 7 (.bool ow) rfl
  have f7 := (S5.out.blk 1 rfl).free 7 (by simp)
  have S6 : Hid (Sep w (w5.setCell ⟨w.heap.size, 7, none⟩ (.bool true)) [rS s (gr k lb ch mb [] [] V.zeros), rB w.heap.size [Value.int .u64 (l0 : Int), .int .u64 (l1 : Int), .int .u64 (l2 : Int), .int .u64 (l3 : Int), .int .i64 dd, .bool mo, .slice pa pm pc, .bool true]]) := S5.out.upd 1 rfl (Upd.setCell _ _ _ _) (Blk.setc (S5.out.blk 1 rfl) 7 (by simp) (.bool true))
  go_wp2_with (first | refine blk_load rfl 40 _ rfl w.heap.size rfl [Value.int .u64 (l0 : Int), .int .u64 (l1 : Int), .int .u64 (l2 : Int), .int .u64 (l3 : Int), .int .i64 dd, .bool mo, .slice pa pm pc, .bool true] (S6.out.blk 1 rfl) _ Try.underlying40 rfl Try.size_dl ?_)
  generalize (w5.setCell ⟨w.heap.size, 7, none⟩ (.bool true)) = w6 at *
  clear S5 q7 f7
  refine (CD.out _ S6.out.under).mono ?_; rintro e w7 ⟨ta, tc, rfl, hw, hb, hf⟩
  obtain ⟨tm, HTM⟩ : ∃ m, Hid (MM.length = m) := ⟨_, rfl⟩
  rw [HTM.out] at hw hf HL ⊢
  have S7 : Hid (Sep w w7 [rW (.slice ta tm tc) MM, rS s (gr k lb ch mb [] [] V.zeros), rB w.heap.size [Value.int .u64 (l0 : Int), .int .u64 (l1 : Int), .int .u64 (l2 : Int), .int .u64 (l3 : Int), .int .i64 dd, .bool mo, .slice pa pm pc, .bool true]]) := S6.out.push hb (rW (.slice ta tm tc) MM) hw hf
  clear hw hb hf S6 CD
  go_wp2_with (first | refine blk_alloc rfl 51 [Value.int .u64 0, .int .u64 0, .int .u64 0, .int .u64 0, .int .i64 0, .slice none 0 0] rfl Try.info_tz ?_)
  intro w8 A B Z
  obtain ⟨bt, HBT⟩ : ∃ b, Hid (w7.heap.size = b) := ⟨_, rfl⟩
  go_wp2_with (first | refine blk_store rfl 51 _ _ rfl w7.heap.size rfl [Value.int .u64 (a0 : Int), .int .u64 (a1 : Int), .int .u64 (a2 : Int), .int .u64 (a3 : Int), .int .i64 d, .slice ta tm tc] rfl _ A rfl It.Try.size_itx rfl ?_)
  intro w9 A9 U9
  have S9 : Hid (Sep w w9 [rB bt [Value.int .u64 (a0 : Int), .int .u64 (a1 : Int), .int .u64 (a2 : Int), .int .u64 (a3 : Int), .int .i64 d, .slice ta tm tc], rW (.slice ta tm tc) MM, rS s (gr k lb ch mb [] [] V.zeros), rB w.heap.size [Value.int .u64 (l0 : Int), .int .u64 (l1 : Int), .int .u64 (l2 : Int), .int .u64 (l3 : Int), .int .i64 dd, .bool mo, .slice pa pm pc, .bool true]]) := by
    show Sep _ _ _
    rw [← HBT.out]
    exact Sep.fresh S7.out B Z U9 A9
  rw [HBT.out]
  clear A B Z A9 U9 HBT S7
  go_wp2_with fail
  rw [show ((qn : Int) % 20) = ((qn % 20 : Nat) : Int) by omega]
  obtain ⟨n, hn, hn20⟩ : ∃ n, n = qn % 20 ∧ n < 20 := ⟨_, rfl, by omega⟩
  rw [← hn]
  clear hn hqn
  go_loopw [13] (fun i wr => ∃ (j : Nat) (W : List Bt), j ≤ n ∧ i = .int .i64 (j : Int) ∧ Hid (W.length = min j k) ∧ Hid (∀ b ∈ W, b.s = (([a0, a1, a2, a3], d) : C.St) ∧ b.L = MM) ∧ Hid (Sep w wr [rB bt [Value.int .u64 (a0 : Int), .int .u64 (a1 : Int), .int .u64 (a2 : Int), .int .u64 (a3 : Int), .int .i64 d, .slice ta tm tc], rW (.slice ta tm tc) MM, rS s (gr k lb ch mb W [] V.zeros), rB w.heap.size [Value.int .u64 (l0 : Int), .int .u64 (l1 : Int), .int .u64 (l2 : Int), .int .u64 (l3 : Int), .int .i64 dd, .bool mo, .slice pa pm pc, .bool true]])) (fun i _ => n - (intOf i).toNat)
  case atStart => exact ⟨0, [], by omega, rfl, by show 0 = min 0 k; omega, (fun x hx => by cases hx), S9⟩
  case round =>
    obtain ⟨j, W, hjn, rfl, HWL, HWB, Sr⟩ := hrel
    clear S9
    by_cases hlt : j < n
    · have i1 : (j : Int) < (n : Int) := by omega
      have c5 := (Sr.out.blk 0 rfl).cell 5 _ rfl
      have HWS : Hid (IsWs wr (.slice ta tm tc) MM) := Sr.out.get 1 rfl
      go_wp2_with (first | refine wpList_load_mid rfl 35 _ rfl bt 0 rfl [Value.int .u64 (a0 : Int), .int .u64 (a1 : Int), .int .u64 (a2 : Int), .int .u64 (a3 : Int), .int .i64 d] _ (preb (vs := [.slice ta tm tc]) (Sr.out.blk 0 rfl)) Try.underlying35 rfl Try.size_s ?_)
      by_cases hjk : j < k
      · have i3 : (j : Int) < (k : Int) := by omega
        refine (push_ok s (gr k lb ch mb W [] V.zeros) ([a0, a1, a2, a3], d) (.slice ta tm tc) MM _ (shard_sh Sr.out 2 rfl) (shard_lt Sr.out 2 rfl) rfl HWS.out HR.out HA.out (by have := HL.out; have := HTM.out; omega) (by show W.length < k; have := HWL.out; omega)).mono ?_; rintro e k1 ⟨rfl, tv, hs, ht, hb⟩
        have Sq1 : Hid (Sep w k1 [rB bt [Value.int .u64 (a0 : Int), .int .u64 (a1 : Int), .int .u64 (a2 : Int), .int .u64 (a3 : Int), .int .i64 d, .slice ta tm tc], rW (.slice ta tm tc) MM, rS s (gr k lb ch mb (W ++ [(⟨([a0, a1, a2, a3], d), tv, MM⟩ : Bt)]) [] V.zeros), rB w.heap.size [Value.int .u64 (l0 : Int), .int .u64 (l1 : Int), .int .u64 (l2 : Int), .int .u64 (l3 : Int), .int .i64 dd, .bool mo, .slice pa pm pc, .bool true]]) := shard_turn Sr.out 2 rfl hs ht hb
        clear hs ht hb Sr HWS c5
        have HWB2 : Hid (∀ b ∈ (W ++ [(⟨([a0, a1, a2, a3], d), tv, MM⟩ : Bt)]), b.s = (([a0, a1, a2, a3], d) : C.St) ∧ b.L = MM) := fun b hb => by
          rcases List.mem_append.1 hb with h9 | h9
          · exact HWB.out b h9
          · rw [List.mem_singleton.1 h9]; exact ⟨rfl, rfl⟩
        have HWL2 : Hid ((W ++ [(⟨([a0, a1, a2, a3], d), tv, MM⟩ : Bt)]).length = min (j + 1) k) := by show _ = _; rw [List.length_append]; have := HWL.out; show W.length + 1 = _; omega
        go_wp2_with fail
        go_roundw
        case rel => exact ⟨j + 1, (W ++ [(⟨([a0, a1, a2, a3], d), tv, MM⟩ : Bt)]), by omega, by go_num, HWL2, HWB2, Sq1⟩
        case measure => simp [intOf]; omega
      · have i3 : ¬ (j : Int) < (k : Int) := by omega
        refine (push_no s (gr k lb ch mb W [] V.zeros) ([a0, a1, a2, a3], d) (.slice ta tm tc) MM _ (shard_sh Sr.out 2 rfl) (shard_lt Sr.out 2 rfl) rfl HWS.out (by have := HL.out; have := HTM.out; omega) (by show ¬ W.length < k; have := HWL.out; omega)).mono ?_; rintro e k1 ⟨rfl, hs, ht, hb⟩
        have Sq1 : Hid (Sep w k1 [rB bt [Value.int .u64 (a0 : Int), .int .u64 (a1 : Int), .int .u64 (a2 : Int), .int .u64 (a3 : Int), .int .i64 d, .slice ta tm tc], rW (.slice ta tm tc) MM, rS s (gr k lb ch mb W [] V.zeros), rB w.heap.size [Value.int .u64 (l0 : Int), .int .u64 (l1 : Int), .int .u64 (l2 : Int), .int .u64 (l3 : Int), .int .i64 dd, .bool mo, .slice pa pm pc, .bool true]]) := shard_turn Sr.out 2 rfl hs ht hb
        clear hs ht hb Sr HWS c5
        have HWL2 : Hid (W.length = min (j + 1) k) := by show _ = _; have := HWL.out; omega
        go_wp2_with fail
        go_roundw
        case rel => exact ⟨j + 1, W, by omega, by go_num, HWL2, HWB, Sq1⟩
        case measure => simp [intOf]; omega
    · have i1 : ¬ (j : Int) < (n : Int) := by omega
      obtain rfl : j = n := by omega
      obtain ⟨g, off, cap9, hv, hg0, hrow⟩ := IsWs.at (show IsWs wr (.slice ta tm tc) MM from Sr.out.get 1 rfl) 0 (by have := HL.out; have := HTM.out; omega)
      obtain ⟨hta, htc⟩ : ta = some ⟨g, off, none⟩ ∧ tc = cap9 := by injection hv with e1 e2 e3; exact ⟨e1, e3⟩
      subst hta
      clear hv htc
      obtain ⟨⟨wb, wk, wv, wg⟩, HM0⟩ : ∃ z : I.Wt, Hid (m0 = z) := ⟨_, rfl⟩
      rw [HM0.out] at HMC
      rw [show MM.getD 0 I.none_ = (wb, wk, wv, wg) by rw [HMC.out]; rfl] at hrow
      have HROW : Hid (wr.rangeAt g off [Value.string wb, .string wk, .string wv, .bool wg]) := hrow
      clear hrow HM0
      have hix : ∀ w, (Instr.indexAt 49 (.slice (some ⟨g, off, none⟩) tm tc) (.int .i64 0)).run Try.prog w = .ok (.pointer (some ⟨g, off, none⟩)) w := fun w => index_iw g off tm tc 0 (by have := HL.out; omega) w
      have c5 := (Sr.out.blk 0 rfl).cell 5 _ rfl
      go_wp2_with (first | refine wpList_load_mid rfl 42 _ rfl g off rfl [Value.string wb, .string wk, .string wv, .bool wg] _ HROW.out Try.underlying42 rfl It.Try.size_w ?_ | refine blk_alloc rfl 42 [Value.string ⟨#[]⟩, .string ⟨#[]⟩, .string ⟨#[]⟩, .bool false] rfl Try.info_wz ?_)
      intro n1 A9 B Z
      obtain ⟨bk, HBB⟩ : ∃ b, Hid (wr.heap.size = b) := ⟨_, rfl⟩
      go_wp2_with (first | refine blk_store rfl 42 _ _ rfl wr.heap.size rfl [Value.string wb, .string wk, .string wv, .bool wg] rfl _ A9 rfl It.Try.size_w rfl ?_)
      intro k1 A8 U9
      have S1 : Hid (Sep w k1 [rB bk [Value.string wb, .string wk, .string wv, .bool wg], rB bt [Value.int .u64 (a0 : Int), .int .u64 (a1 : Int), .int .u64 (a2 : Int), .int .u64 (a3 : Int), .int .i64 d, .slice (some ⟨g, off, none⟩) tm tc], rW (.slice (some ⟨g, off, none⟩) tm tc) MM, rS s (gr k lb ch mb W [] V.zeros), rB w.heap.size [Value.int .u64 (l0 : Int), .int .u64 (l1 : Int), .int .u64 (l2 : Int), .int .u64 (l3 : Int), .int .i64 dd, .bool mo, .slice pa pm pc, .bool true]]) := by
        show Sep _ _ _
        rw [← HBB.out]
        exact Sep.fresh Sr.out B Z U9 A8
      rw [HBB.out]
      clear A9 B Z A8 U9 HBB Sr c5 HROW hix
      have CR0 : Hid (∀ u, Sh u s (gr k lb ch mb W [] V.zeros) → (∀ k_ ∈ (gr k lb ch mb W [] V.zeros).bl s, k_ < u.heap.size) → Calls Try.prog 22 #[.pointer (some ⟨s, 0, none⟩), .string wb, .string wk, .agg [Value.int .u64 (a0 : Int), .int .u64 (a1 : Int), .int .u64 (a2 : Int), .int .u64 (a3 : Int)].toArray] u fun e w' => e = .returned (.tuple #[.string ⟨#[]⟩, .agg [Value.int .u64 0, .int .u64 0, .int .u64 0, .int .u64 0, .int .i64 0].toArray, .bool false]) ∧ Below u.heap.size u w') := fun u hS hl => by
        exact read_ga wb wk [a0, a1, a2, a3] hS hl rfl (fun x hx => by cases hx)
      obtain ⟨y0, y1, y2, y3, HY⟩ : ∃ q0 q1 q2 q3, Hid (V.with_ [a0, a1, a2, a3] d (V.at_ [a0, a1, a2, a3] d - 1) = [q0, q1, q2, q3]) := V.four (with_len _ _ _ rfl)
      obtain ⟨pN, HPN⟩ : ∃ z, Hid (V.at_ [a0, a1, a2, a3] d = z) := ⟨_, rfl⟩
      have hN := HPN.out ▸ right_d HR.out
      have hNu := HPN.out ▸ right_u rfl HR.out
      have CSN : Hid (∀ u, Calls Try.prog 31 #[.agg [Value.int .u64 (a0 : Int), .int .u64 (a1 : Int), .int .u64 (a2 : Int), .int .u64 (a3 : Int), .int .i64 d].toArray] u fun e w' => e = .returned (.int .u64 (pN : Int)) ∧ Below u.heap.size u w') := fun u => by
        have h9 := sn_any [a0, a1, a2, a3] d u rfl
        rw [HPN.out] at h9
        exact h9
      have CWT : Hid (∀ u, Calls Try.prog 30 #[.agg [Value.int .u64 (a0 : Int), .int .u64 (a1 : Int), .int .u64 (a2 : Int), .int .u64 (a3 : Int)].toArray, .int .i64 d, .int .u64 ((pN - 1 : Nat) : Int)] u fun e w' => e = .returned (.agg [Value.int .u64 (y0 : Int), .int .u64 (y1 : Int), .int .u64 (y2 : Int), .int .u64 (y3 : Int)].toArray) ∧ Below u.heap.size u w') := fun u => by
        have h9 := with_any [a0, a1, a2, a3] d (pN - 1) u rfl
        rw [← HPN.out, HY.out, HPN.out] at h9
        exact h9
      have CY0 : Hid (∀ u, Sh u s (gr k lb ch mb W [] V.zeros) → (∀ k_ ∈ (gr k lb ch mb W [] V.zeros).bl s, k_ < u.heap.size) → Calls Try.prog 22 #[.pointer (some ⟨s, 0, none⟩), .string wb, .string wk, .agg [Value.int .u64 (y0 : Int), .int .u64 (y1 : Int), .int .u64 (y2 : Int), .int .u64 (y3 : Int)].toArray] u fun e w' => e = .returned (.tuple #[.string ⟨#[]⟩, .agg [Value.int .u64 0, .int .u64 0, .int .u64 0, .int .u64 0, .int .i64 0].toArray, .bool false]) ∧ Below u.heap.size u w') := fun u hS hl => by
        exact read_ga wb wk [y0, y1, y2, y3] hS hl rfl (fun x hx => by cases hx)
      have c0 := (S1.out.blk 0 rfl).cell 0 _ rfl
      have c1 := (S1.out.blk 0 rfl).cell 1 _ rfl
      go_wp2_with (first | refine wpList_load_mid rfl 33 _ rfl bt 0 rfl [Value.int .u64 (a0 : Int), .int .u64 (a1 : Int), .int .u64 (a2 : Int), .int .u64 (a3 : Int)] _ (preb (vs := [.int .i64 d, .slice (some ⟨g, off, none⟩) tm tc]) (S1.out.blk 1 rfl)) Try.underlying33 rfl Try.size_v ?_)
      clear c0 c1
      refine (CR0.out _ (shard_sh S1.out 3 rfl) (shard_lt S1.out 3 rfl)).mono ?_; rintro e k2 ⟨rfl, hb⟩
      have S2 := Lib.hid (S1.out.below hb)
      clear hb S1
      go_wp2_with (first | refine blk_alloc rfl 35 [Value.int .u64 0, .int .u64 0, .int .u64 0, .int .u64 0, .int .i64 0] rfl Try.info_st ?_)
      intro n3 A9 B Z
      obtain ⟨b16, HBB⟩ : ∃ b, Hid (k2.heap.size = b) := ⟨_, rfl⟩
      go_wp2_with (first | refine blk_store rfl 35 _ _ rfl k2.heap.size rfl [Value.int .u64 0, .int .u64 0, .int .u64 0, .int .u64 0, .int .i64 0] rfl _ A9 rfl Try.size_s rfl ?_)
      intro k3 A8 U9
      have S3 : Hid (Sep w k3 [rB b16 [Value.int .u64 0, .int .u64 0, .int .u64 0, .int .u64 0, .int .i64 0], rB bk [Value.string wb, .string wk, .string wv, .bool wg], rB bt [Value.int .u64 (a0 : Int), .int .u64 (a1 : Int), .int .u64 (a2 : Int), .int .u64 (a3 : Int), .int .i64 d, .slice (some ⟨g, off, none⟩) tm tc], rW (.slice (some ⟨g, off, none⟩) tm tc) MM, rS s (gr k lb ch mb W [] V.zeros), rB w.heap.size [Value.int .u64 (l0 : Int), .int .u64 (l1 : Int), .int .u64 (l2 : Int), .int .u64 (l3 : Int), .int .i64 dd, .bool mo, .slice pa pm pc, .bool true]]) := by
        show Sep _ _ _
        rw [← HBB.out]
        exact Sep.fresh S2.out B Z U9 A8
      rw [HBB.out]
      clear A9 B Z A8 U9 HBB S2
      go_wp2_with fail
      refine (applied_any s (gr k lb ch mb W [] V.zeros) _ (shard_sh S3.out 4 rfl) (shard_lt S3.out 4 rfl)).mono ?_; rintro e k4 ⟨rfl, hb⟩
      have S4 := Lib.hid (S3.out.below hb)
      clear hb S3
      go_wp2_with (first | refine blk_alloc rfl 33 [Value.int .u64 0, .int .u64 0, .int .u64 0, .int .u64 0] rfl Try.info_vz ?_)
      intro n5 A9 B Z
      obtain ⟨b18, HBB⟩ : ∃ b, Hid (k4.heap.size = b) := ⟨_, rfl⟩
      go_wp2_with (first | refine blk_store rfl 33 _ _ rfl k4.heap.size rfl [Value.int .u64 0, .int .u64 0, .int .u64 0, .int .u64 0] rfl _ A9 rfl Try.size_v rfl ?_)
      intro k5 A8 U9
      have S5 : Hid (Sep w k5 [rB b18 [Value.int .u64 0, .int .u64 0, .int .u64 0, .int .u64 0], rB b16 [Value.int .u64 0, .int .u64 0, .int .u64 0, .int .u64 0, .int .i64 0], rB bk [Value.string wb, .string wk, .string wv, .bool wg], rB bt [Value.int .u64 (a0 : Int), .int .u64 (a1 : Int), .int .u64 (a2 : Int), .int .u64 (a3 : Int), .int .i64 d, .slice (some ⟨g, off, none⟩) tm tc], rW (.slice (some ⟨g, off, none⟩) tm tc) MM, rS s (gr k lb ch mb W [] V.zeros), rB w.heap.size [Value.int .u64 (l0 : Int), .int .u64 (l1 : Int), .int .u64 (l2 : Int), .int .u64 (l3 : Int), .int .i64 dd, .bool mo, .slice pa pm pc, .bool true]]) := by
        show Sep _ _ _
        rw [← HBB.out]
        exact Sep.fresh S4.out B Z U9 A8
      rw [HBB.out]
      clear A9 B Z A8 U9 HBB S4
      go_wp2_with fail
      have hCS : Calls Try.prog 14 #[.pointer (some ⟨s, 0, none⟩)] k5 fun e w' => ∃ (dd0 : Bool) (W2 : List Bt) (E2 : List En) (A2 : List Nat), e = .returned (.bool dd0) ∧ Sh w' s (gr k lb ch mb W2 E2 A2) ∧ A2.length = 4 ∧ ((j = 0 ∧ dd0 = false ∧ vis E2 = []) ∨ (1 ≤ j ∧ dd0 = true ∧ W2.length + 1 = min j k ∧ vis E2 = one1 ([a0, a1, a2, a3], d) MM ∧ V.at_ A2 d = pN)) ∧ Turn ((gr k lb ch mb W [] V.zeros).bl s) k5 w' ∧ ∀ k_ ∈ (gr k lb ch mb W2 E2 A2).bl s, (k_ ∈ (gr k lb ch mb W [] V.zeros).bl s ∨ k5.heap.size ≤ k_) ∧ k_ < w'.heap.size := by
        by_cases hn0 : j = 0
        · have hW0 : W = [] := by have := HWL.out; exact List.eq_nil_of_length_eq_zero (by omega)
          refine (step_none s (gr k lb ch mb W [] V.zeros) _ (shard_sh S5.out 5 rfl) (shard_lt S5.out 5 rfl) hW0).mono ?_
          rintro e w' ⟨rfl, hb⟩
          exact ⟨false, W, [], V.zeros, rfl, Sh.below (shard_sh S5.out 5 rfl) (shard_lt S5.out 5 rfl) hb, rfl, .inl ⟨hn0, rfl, rfl⟩, Turn.of_below hb, fun k_ hk => ⟨.inl hk, Nat.lt_of_lt_of_le (shard_lt S5.out 5 rfl k_ hk) hb.size⟩⟩
        · obtain ⟨b, W2, HWE⟩ : ∃ b W2, Hid (W = b :: W2) := by
            cases W with
            | nil => have h9 := HWL.out; exact absurd h9 (by show ¬ 0 = min j k; omega)
            | cons b W2 => exact ⟨b, W2, rfl⟩
          have hbs := HWB.out b (by rw [HWE.out]; simp)
          have hlen : W2.length + 1 = min j k := by rw [← HWL.out, HWE.out]; rfl
          refine (step_ga b W2 (shard_sh S5.out 5 rfl) (shard_lt S5.out 5 rfl) HWE.out 0 (fun x hx => by cases hx) (by rw [hbs.2]; have := HL.out; have := HTM.out; omega)).mono ?_
          rintro e w' ⟨rfl, E2, A2, hs, hA2, hv, ht, hb⟩
          rw [hbs.1] at hA2
          rw [hbs.1, hbs.2] at hv
          exact ⟨true, W2, E2, A2, rfl, hs, by rw [hA2]; exact with_len _ _ _ rfl, .inr ⟨by omega, rfl, hlen, hv.trans (upsL_is HR.out HOK.out), by rw [hA2, ← HPN.out]; exact at_applied (a := [a0, a1, a2, a3]) rfl HR.out⟩, ht, hb⟩
      refine hCS.mono ?_; rintro e k6 ⟨dd0, W2, E2, A2, rfl, hs, hA4, hfct, ht, hb⟩
      have S6 : Hid (Sep w k6 [rB b18 [Value.int .u64 0, .int .u64 0, .int .u64 0, .int .u64 0], rB b16 [Value.int .u64 0, .int .u64 0, .int .u64 0, .int .u64 0, .int .i64 0], rB bk [Value.string wb, .string wk, .string wv, .bool wg], rB bt [Value.int .u64 (a0 : Int), .int .u64 (a1 : Int), .int .u64 (a2 : Int), .int .u64 (a3 : Int), .int .i64 d, .slice (some ⟨g, off, none⟩) tm tc], rW (.slice (some ⟨g, off, none⟩) tm tc) MM, rS s (gr k lb ch mb W2 E2 A2), rB w.heap.size [Value.int .u64 (l0 : Int), .int .u64 (l1 : Int), .int .u64 (l2 : Int), .int .u64 (l3 : Int), .int .i64 dd, .bool mo, .slice pa pm pc, .bool true]]) := shard_turn S5.out 5 rfl hs ht hb
      clear hs ht hb S5 hCS
      have HF := Lib.hid hfct
      clear hfct
      obtain ⟨z0, z1, z2, z3, rfl⟩ := V.four hA4
      clear hA4
      have HUP := Lib.hid (up_get (shard_sh S6.out 5 rfl) (wb, wk))
      have HLT : Hid (∀ x ∈ vis E2, x.2.length < 1000) := by
        rcases HF.out with ⟨_, _, hv⟩ | ⟨_, _, _, hv, _⟩
        · rw [hv]; exact fun x hx => by cases hx
        · rw [hv]; exact lim_one _ _
      obtain ⟨x0, x1, x2, x3, xd, X, HX⟩ : ∃ x0 x1 x2 x3 xd, ∃ y : I.Wt, Hid (rdV (getV (vis E2) (wb, wk)) [a0, a1, a2, a3] = (([x0, x1, x2, x3], xd), y)) := rd_parts HUP.out _
      obtain ⟨ng, HRO⟩ : ∃ b, Hid (((C.read (getV (vis E2) (wb, wk)) [a0, a1, a2, a3]).isSome && !X.2.2.2) = b) := ⟨_, rfl⟩
      obtain ⟨rv, HRV⟩ : ∃ b, Hid (X.2.2.1 = b) := ⟨_, rfl⟩
      have CR1 : Hid (∀ u, Sh u s (gr k lb ch mb W2 E2 [z0, z1, z2, z3]) → (∀ k_ ∈ (gr k lb ch mb W2 E2 [z0, z1, z2, z3]).bl s, k_ < u.heap.size) → Calls Try.prog 22 #[.pointer (some ⟨s, 0, none⟩), .string wb, .string wk, .agg [Value.int .u64 (a0 : Int), .int .u64 (a1 : Int), .int .u64 (a2 : Int), .int .u64 (a3 : Int)].toArray] u fun e w' => e = .returned (.tuple #[.string rv, .agg [Value.int .u64 (x0 : Int), .int .u64 (x1 : Int), .int .u64 (x2 : Int), .int .u64 (x3 : Int), .int .i64 xd].toArray, .bool ng]) ∧ Below u.heap.size u w') := fun u hS hl => by
        have h9 := read_ga wb wk [a0, a1, a2, a3] hS hl rfl HLT.out
        rw [HX.out] at h9
        dsimp only at h9
        rw [HRO.out, HRV.out] at h9
        exact h9
      have CY1 : Hid (∀ u, Sh u s (gr k lb ch mb W2 E2 [z0, z1, z2, z3]) → (∀ k_ ∈ (gr k lb ch mb W2 E2 [z0, z1, z2, z3]).bl s, k_ < u.heap.size) → Calls Try.prog 22 #[.pointer (some ⟨s, 0, none⟩), .string wb, .string wk, .agg [Value.int .u64 (y0 : Int), .int .u64 (y1 : Int), .int .u64 (y2 : Int), .int .u64 (y3 : Int)].toArray] u fun e w' => e = .returned (.tuple #[.string ⟨#[]⟩, .agg [Value.int .u64 0, .int .u64 0, .int .u64 0, .int .u64 0, .int .i64 0].toArray, .bool false]) ∧ Below u.heap.size u w') := fun u hS hl => by
        have h9 := read_ga wb wk [y0, y1, y2, y3] hS hl rfl HLT.out
        have e1 : C.read (getV (vis E2) (wb, wk)) [y0, y1, y2, y3] = none := by
          rcases HF.out with ⟨_, _, hv⟩ | ⟨_, _, _, hv, _⟩
          · rw [hv]; rfl
          · rw [hv, HMC.out, show getV (one1 ([a0, a1, a2, a3], d) ((wb, wk, wv, wg) :: MR)) (wb, wk) = [(([a0, a1, a2, a3], d), (wb, wk, wv, wg))] from getV_one ([a0, a1, a2, a3], d) (wb, wk, wv, wg) MR, ← HY.out]; exact read_under _ rfl HR.out
        have e2 : rdV (getV (vis E2) (wb, wk)) [y0, y1, y2, y3] = (vk wrt).none_ := by unfold rdV; rw [e1]; rfl
        rw [e1, e2] at h9
        exact h9
      have c0 := (S6.out.blk 2 rfl).cell 0 _ rfl
      have c1 := (S6.out.blk 2 rfl).cell 1 _ rfl
      go_wp2_with (first | refine wpList_load_mid rfl 33 _ rfl bt 0 rfl [Value.int .u64 (a0 : Int), .int .u64 (a1 : Int), .int .u64 (a2 : Int), .int .u64 (a3 : Int)] _ (preb (vs := [.int .i64 d, .slice (some ⟨g, off, none⟩) tm tc]) (S6.out.blk 3 rfl)) Try.underlying33 rfl Try.size_v ?_)
      clear c0 c1
      refine (CR1.out _ (shard_sh S6.out 5 rfl) (shard_lt S6.out 5 rfl)).mono ?_; rintro e k7 ⟨rfl, hb⟩
      have S7 := Lib.hid (S6.out.below hb)
      clear hb S6
      go_wp2_with (first | refine blk_alloc rfl 35 [Value.int .u64 0, .int .u64 0, .int .u64 0, .int .u64 0, .int .i64 0] rfl Try.info_st ?_)
      intro n8 A9 B Z
      obtain ⟨b21, HBB⟩ : ∃ b, Hid (k7.heap.size = b) := ⟨_, rfl⟩
      go_wp2_with (first | refine blk_store rfl 35 _ _ rfl k7.heap.size rfl [Value.int .u64 (x0 : Int), .int .u64 (x1 : Int), .int .u64 (x2 : Int), .int .u64 (x3 : Int), .int .i64 xd] rfl _ A9 rfl Try.size_s rfl ?_)
      intro k8 A8 U9
      have S8 : Hid (Sep w k8 [rB b21 [Value.int .u64 (x0 : Int), .int .u64 (x1 : Int), .int .u64 (x2 : Int), .int .u64 (x3 : Int), .int .i64 xd], rB b18 [Value.int .u64 0, .int .u64 0, .int .u64 0, .int .u64 0], rB b16 [Value.int .u64 0, .int .u64 0, .int .u64 0, .int .u64 0, .int .i64 0], rB bk [Value.string wb, .string wk, .string wv, .bool wg], rB bt [Value.int .u64 (a0 : Int), .int .u64 (a1 : Int), .int .u64 (a2 : Int), .int .u64 (a3 : Int), .int .i64 d, .slice (some ⟨g, off, none⟩) tm tc], rW (.slice (some ⟨g, off, none⟩) tm tc) MM, rS s (gr k lb ch mb W2 E2 [z0, z1, z2, z3]), rB w.heap.size [Value.int .u64 (l0 : Int), .int .u64 (l1 : Int), .int .u64 (l2 : Int), .int .u64 (l3 : Int), .int .i64 dd, .bool mo, .slice pa pm pc, .bool true]]) := by
        show Sep _ _ _
        rw [← HBB.out]
        exact Sep.fresh S7.out B Z U9 A8
      rw [HBB.out]
      clear A9 B Z A8 U9 HBB S7
      go_upto_region 21 with fail
      go_cut [25] (fun b wx => b = .bool false ∧ ∃ b24, Hid (Sep w wx [rB b24 [Value.int .u64 0, .int .u64 0, .int .u64 0, .int .u64 0, .int .i64 0], rB b21 [Value.int .u64 (x0 : Int), .int .u64 (x1 : Int), .int .u64 (x2 : Int), .int .u64 (x3 : Int), .int .i64 xd], rB b18 [Value.int .u64 0, .int .u64 0, .int .u64 0, .int .u64 0], rB b16 [Value.int .u64 0, .int .u64 0, .int .u64 0, .int .u64 0, .int .i64 0], rB bk [Value.string wb, .string wk, .string wv, .bool wg], rB bt [Value.int .u64 (a0 : Int), .int .u64 (a1 : Int), .int .u64 (a2 : Int), .int .u64 (a3 : Int), .int .i64 d, .slice (some ⟨g, off, none⟩) tm tc], rW (.slice (some ⟨g, off, none⟩) tm tc) MM, rS s (gr k lb ch mb W2 E2 [z0, z1, z2, z3]), rB w.heap.size [Value.int .u64 (l0 : Int), .int .u64 (l1 : Int), .int .u64 (l2 : Int), .int .u64 (l3 : Int), .int .i64 dd, .bool mo, .slice pa pm pc, .bool true]]))
      case first =>
        have hsub : (pN : Int) - 1 = ((pN - 1 : Nat) : Int) := by omega
        have hwr : IntKind.u64.wrap ((pN - 1 : Nat) : Int) = ((pN - 1 : Nat) : Int) := by rw [IntKind.wrap_u64]; omega
        go_wp2_with fail
        have Sd := Lib.hid (S8.out.below (Below.drew (Below.refl _ _)))
        refine region_tree (fun u => Blk u bk [Value.string wb, .string wk, .string wv, .bool wg] ∧ Blk u bt [Value.int .u64 (a0 : Int), .int .u64 (a1 : Int), .int .u64 (a2 : Int), .int .u64 (a3 : Int), .int .i64 d, .slice (some ⟨g, off, none⟩) tm tc]) 25 Try.mixed ?_
        refine tr_read 0 rfl (by kernel_rfl) ⟨Sd.out.blk 3 rfl, Sd.out.blk 4 rfl⟩ ?_
        refine c_value rfl (.pointer (some ⟨s, 0, none⟩)) (fun u hu => by go_simp) (fun _ _ _ h => h) (fun K hK => ?_)
        go_simp
        refine hK _ ?_
        clear hK K
        refine c_nil ?_
        refine tr_read 1 rfl (by kernel_rfl) ⟨Sd.out.blk 3 rfl, Sd.out.blk 4 rfl⟩ ?_
        refine c_value rfl (.pointer (some ⟨bk, 0, none⟩)) (fun u hu => by go_simp) (fun _ _ _ h => h) (fun K hK => ?_)
        go_simp
        refine hK _ ?_
        clear hK K
        refine c_nil ?_
        refine tr_read 2 rfl (by kernel_rfl) ⟨Sd.out.blk 3 rfl, Sd.out.blk 4 rfl⟩ ?_
        refine c_value rfl (.string wb) (fun u hu => by have hc := (hu.1).cell 0 _ rfl; go_simp) (fun _ _ _ h => h) (fun K hK => ?_)
        go_simp
        refine hK _ ?_
        clear hK K
        refine c_nil ?_
        refine tr_read 3 rfl (by kernel_rfl) ⟨Sd.out.blk 3 rfl, Sd.out.blk 4 rfl⟩ ?_
        refine c_value rfl (.pointer (some ⟨bk, 1, none⟩)) (fun u hu => by go_simp) (fun _ _ _ h => h) (fun K hK => ?_)
        go_simp
        refine hK _ ?_
        clear hK K
        refine c_nil ?_
        refine tr_read 4 rfl (by kernel_rfl) ⟨Sd.out.blk 3 rfl, Sd.out.blk 4 rfl⟩ ?_
        refine c_value rfl (.string wk) (fun u hu => by have hc := (hu.1).cell 1 _ rfl; go_simp) (fun _ _ _ h => h) (fun K hK => ?_)
        go_simp
        refine hK _ ?_
        clear hK K
        refine c_nil ?_
        refine tr_read 5 rfl (by kernel_rfl) ⟨Sd.out.blk 3 rfl, Sd.out.blk 4 rfl⟩ ?_
        refine c_value rfl (.pointer (some ⟨bt, 0, none⟩)) (fun u hu => by go_simp) (fun _ _ _ h => h) (fun K hK => ?_)
        go_simp
        refine hK _ ?_
        clear hK K
        refine c_nil ?_
        refine tr_read 6 rfl (by kernel_rfl) ⟨Sd.out.blk 3 rfl, Sd.out.blk 4 rfl⟩ ?_
        refine c_value rfl (.pointer (some ⟨bt, 0, none⟩)) (fun u hu => by go_simp) (fun _ _ _ h => h) (fun K hK => ?_)
        go_simp
        refine hK _ ?_
        clear hK K
        refine c_nil ?_
        refine tr_read 7 rfl (by kernel_rfl) ⟨Sd.out.blk 3 rfl, Sd.out.blk 4 rfl⟩ ?_
        refine ct_mid_load rfl 33 _ rfl bt 0 rfl [Value.int .u64 (a0 : Int), .int .u64 (a1 : Int), .int .u64 (a2 : Int), .int .u64 (a3 : Int)] (fun u hu => preb (vs := [.int .i64 d, .slice (some ⟨g, off, none⟩) tm tc]) hu.2) _ Try.underlying33 rfl Try.size_v (fun _ _ _ h => h) (fun K hK => ?_)
        go_simp
        refine hK _ ?_
        clear hK K
        refine c_nil ?_
        refine tr_read 8 rfl (by kernel_rfl) ⟨Sd.out.blk 3 rfl, Sd.out.blk 4 rfl⟩ ?_
        refine c_value rfl (.pointer (some ⟨bt, 0, none⟩)) (fun u hu => by go_simp) (fun _ _ _ h => h) (fun K hK => ?_)
        go_simp
        refine hK _ ?_
        clear hK K
        refine c_nil ?_
        refine tr_read 9 rfl (by kernel_rfl) ⟨Sd.out.blk 3 rfl, Sd.out.blk 4 rfl⟩ ?_
        refine c_value rfl (.pointer (some ⟨bt, 4, none⟩)) (fun u hu => by go_simp) (fun _ _ _ h => h) (fun K hK => ?_)
        go_simp
        refine hK _ ?_
        clear hK K
        refine c_nil ?_
        refine tr_read 10 rfl (by kernel_rfl) ⟨Sd.out.blk 3 rfl, Sd.out.blk 4 rfl⟩ ?_
        refine c_value rfl (.int .i64 d) (fun u hu => by have hc := (hu.2).cell 4 _ rfl; go_simp) (fun _ _ _ h => h) (fun K hK => ?_)
        go_simp
        refine hK _ ?_
        clear hK K
        refine c_nil ?_
        refine tr_read 11 rfl (by kernel_rfl) ⟨Sd.out.blk 3 rfl, Sd.out.blk 4 rfl⟩ ?_
        refine c_value rfl (.pointer (some ⟨bt, 0, none⟩)) (fun u hu => by go_simp) (fun _ _ _ h => h) (fun K hK => ?_)
        go_simp
        refine hK _ ?_
        clear hK K
        refine c_nil ?_
        refine tr_read 12 rfl (by kernel_rfl) ⟨Sd.out.blk 3 rfl, Sd.out.blk 4 rfl⟩ ?_
        refine ct_mid_load rfl 35 _ rfl bt 0 rfl [Value.int .u64 (a0 : Int), .int .u64 (a1 : Int), .int .u64 (a2 : Int), .int .u64 (a3 : Int), .int .i64 d] (fun u hu => preb (vs := [.slice (some ⟨g, off, none⟩) tm tc]) hu.2) _ Try.underlying35 rfl Try.size_s (fun _ _ _ h => h) (fun K hK => ?_)
        go_simp
        refine hK _ ?_
        clear hK K
        refine c_nil ?_
        refine tr_two 13 21 rfl rfl (by kernel_rfl) ?_ ?_
        ·
          go_wp2_with (first | (go_at_call 31; refine Calls.mono (CSN.out _) ?_; rintro e r1 ⟨rfl, hb⟩))
          have R1 := Lib.hid (Sd.out.below hb)
          clear hb Sd
          refine And.intro (fun _ => ⟨R1.out.blk 3 rfl, R1.out.blk 4 rfl⟩) ?_
          refine tr_read 14 rfl (by kernel_rfl) ⟨R1.out.blk 3 rfl, R1.out.blk 4 rfl⟩ ?_
          refine c_value rfl (.int .u64 ((pN - 1 : Nat) : Int)) (fun u hu => by go_simp) (fun _ _ _ h => h) (fun K hK => ?_)
          go_simp
          refine hK _ ?_
          clear hK K
          refine c_nil ?_
          refine tr_two 15 21 rfl rfl (by kernel_rfl) ?_ ?_
          ·
            go_wp2_with (first | (go_at_call 30; refine Calls.mono (CWT.out _) ?_; rintro e r2 ⟨rfl, hb⟩))
            have R2 := Lib.hid (R1.out.below hb)
            clear hb R1
            refine And.intro (fun _ => ⟨R2.out.blk 3 rfl, R2.out.blk 4 rfl⟩) ?_
            refine tr_two 16 21 rfl rfl (by kernel_rfl) ?_ ?_
            ·
              go_wp2_with (first | (go_at_call 22; refine Calls.mono (CY1.out _ (shard_sh R2.out 6 rfl) (shard_lt R2.out 6 rfl)) ?_; rintro e r3 ⟨rfl, hb⟩))
              have R3 := Lib.hid (R2.out.below hb)
              clear hb R2
              refine And.intro (fun _ => ⟨R3.out.blk 3 rfl, R3.out.blk 4 rfl⟩) ?_
              refine tr_read 17 rfl (by kernel_rfl) ⟨R3.out.blk 3 rfl, R3.out.blk 4 rfl⟩ ?_
              refine c_value rfl (.tuple #[.string ⟨#[]⟩, .agg [Value.int .u64 0, .int .u64 0, .int .u64 0, .int .u64 0, .int .i64 0].toArray, .bool false]) (fun u hu => by go_simp) (fun _ _ _ h => h) (fun K hK => ?_)
              go_simp
              refine hK _ ?_
              clear hK K
              refine c_nil ?_
              refine tr_read 18 rfl (by kernel_rfl) ⟨R3.out.blk 3 rfl, R3.out.blk 4 rfl⟩ ?_
              refine c_value rfl (.string ⟨#[]⟩) (fun u hu => by go_simp) (fun _ _ _ h => h) (fun K hK => ?_)
              go_simp
              refine hK _ ?_
              clear hK K
              refine c_nil ?_
              refine tr_read 19 rfl (by kernel_rfl) ⟨R3.out.blk 3 rfl, R3.out.blk 4 rfl⟩ ?_
              refine c_value rfl (.agg [Value.int .u64 0, .int .u64 0, .int .u64 0, .int .u64 0, .int .i64 0].toArray) (fun u hu => by go_simp) (fun _ _ _ h => h) (fun K hK => ?_)
              go_simp
              refine hK _ ?_
              clear hK K
              refine c_nil ?_
              refine tr_read 20 rfl (by kernel_rfl) ⟨R3.out.blk 3 rfl, R3.out.blk 4 rfl⟩ ?_
              refine c_value rfl (.bool false) (fun u hu => by go_simp) (fun _ _ _ h => h) (fun K hK => ?_)
              go_simp
              refine hK _ ?_
              clear hK K
              refine c_nil ?_
              refine tr_one 21 rfl (by kernel_rfl) ?_
              go_wp2_with (first | refine blk_alloc rfl 35 [Value.int .u64 0, .int .u64 0, .int .u64 0, .int .u64 0, .int .i64 0] rfl Try.info_st ?_)
              intro r4 A9 B Z
              obtain ⟨b24, HBB⟩ : ∃ b, Hid (r3.heap.size = b) := ⟨_, rfl⟩
              have R4 : Hid (Sep w r4 [rB b24 [Value.int .u64 0, .int .u64 0, .int .u64 0, .int .u64 0, .int .i64 0], rB b21 [Value.int .u64 (x0 : Int), .int .u64 (x1 : Int), .int .u64 (x2 : Int), .int .u64 (x3 : Int), .int .i64 xd], rB b18 [Value.int .u64 0, .int .u64 0, .int .u64 0, .int .u64 0], rB b16 [Value.int .u64 0, .int .u64 0, .int .u64 0, .int .u64 0, .int .i64 0], rB bk [Value.string wb, .string wk, .string wv, .bool wg], rB bt [Value.int .u64 (a0 : Int), .int .u64 (a1 : Int), .int .u64 (a2 : Int), .int .u64 (a3 : Int), .int .i64 d, .slice (some ⟨g, off, none⟩) tm tc], rW (.slice (some ⟨g, off, none⟩) tm tc) MM, rS s (gr k lb ch mb W2 E2 [z0, z1, z2, z3]), rB w.heap.size [Value.int .u64 (l0 : Int), .int .u64 (l1 : Int), .int .u64 (l2 : Int), .int .u64 (l3 : Int), .int .i64 dd, .bool mo, .slice pa pm pc, .bool true]]) := by
                show Sep _ _ _
                rw [← HBB.out]
                exact R3.out.box B Z A9
              rw [HBB.out]
              clear A9 B Z HBB R3
              refine And.intro (fun _ => ⟨R4.out.blk 4 rfl, R4.out.blk 5 rfl⟩) ?_
              refine tr_one 22 rfl (by kernel_rfl) ?_
              go_wp2_with fail
              refine And.intro (fun _ => ⟨R4.out.blk 4 rfl, R4.out.blk 5 rfl⟩) ?_
              refine tr_one 23 rfl (by kernel_rfl) ?_
              go_wp2_with (first | refine blk_store rfl 35 _ _ rfl b24 rfl [Value.int .u64 0, .int .u64 0, .int .u64 0, .int .u64 0, .int .i64 0] rfl _ (R4.out.blk 0 rfl) rfl Try.size_s rfl ?_)
              intro r6 A9 U9
              have R6 : Hid (Sep w r6 [rB b24 [Value.int .u64 0, .int .u64 0, .int .u64 0, .int .u64 0, .int .i64 0], rB b21 [Value.int .u64 (x0 : Int), .int .u64 (x1 : Int), .int .u64 (x2 : Int), .int .u64 (x3 : Int), .int .i64 xd], rB b18 [Value.int .u64 0, .int .u64 0, .int .u64 0, .int .u64 0], rB b16 [Value.int .u64 0, .int .u64 0, .int .u64 0, .int .u64 0, .int .i64 0], rB bk [Value.string wb, .string wk, .string wv, .bool wg], rB bt [Value.int .u64 (a0 : Int), .int .u64 (a1 : Int), .int .u64 (a2 : Int), .int .u64 (a3 : Int), .int .i64 d, .slice (some ⟨g, off, none⟩) tm tc], rW (.slice (some ⟨g, off, none⟩) tm tc) MM, rS s (gr k lb ch mb W2 E2 [z0, z1, z2, z3]), rB w.heap.size [Value.int .u64 (l0 : Int), .int .u64 (l1 : Int), .int .u64 (l2 : Int), .int .u64 (l3 : Int), .int .i64 dd, .bool mo, .slice pa pm pc, .bool true]]) := R4.out.upd 0 rfl U9 A9
              clear A9 U9 R4
              refine And.intro (fun _ => ⟨R6.out.blk 4 rfl, R6.out.blk 5 rfl⟩) ?_
              refine tr_one 24 rfl (by kernel_rfl) ?_
              go_wp2_with fail
              refine And.intro (fun _ => ⟨R6.out.blk 4 rfl, R6.out.blk 5 rfl⟩) ?_
              refine tr_end (by kernel_rfl) ?_
              go_wp2_with fail
              go_meet
              exact ⟨rfl, b24, R6⟩
            ·
              go_wp2_with (first | refine blk_alloc rfl 35 [Value.int .u64 0, .int .u64 0, .int .u64 0, .int .u64 0, .int .i64 0] rfl Try.info_st ?_)
              intro r8 A9 B Z
              obtain ⟨b24, HBB⟩ : ∃ b, Hid (r2.heap.size = b) := ⟨_, rfl⟩
              have R8 : Hid (Sep w r8 [rB b24 [Value.int .u64 0, .int .u64 0, .int .u64 0, .int .u64 0, .int .i64 0], rB b21 [Value.int .u64 (x0 : Int), .int .u64 (x1 : Int), .int .u64 (x2 : Int), .int .u64 (x3 : Int), .int .i64 xd], rB b18 [Value.int .u64 0, .int .u64 0, .int .u64 0, .int .u64 0], rB b16 [Value.int .u64 0, .int .u64 0, .int .u64 0, .int .u64 0, .int .i64 0], rB bk [Value.string wb, .string wk, .string wv, .bool wg], rB bt [Value.int .u64 (a0 : Int), .int .u64 (a1 : Int), .int .u64 (a2 : Int), .int .u64 (a3 : Int), .int .i64 d, .slice (some ⟨g, off, none⟩) tm tc], rW (.slice (some ⟨g, off, none⟩) tm tc) MM, rS s (gr k lb ch mb W2 E2 [z0, z1, z2, z3]), rB w.heap.size [Value.int .u64 (l0 : Int), .int .u64 (l1 : Int), .int .u64 (l2 : Int), .int .u64 (l3 : Int), .int .i64 dd, .bool mo, .slice pa pm pc, .bool true]]) := by
                show Sep _ _ _
                rw [← HBB.out]
                exact R2.out.box B Z A9
              rw [HBB.out]
              clear A9 B Z HBB R2
              refine And.intro (fun _ => ⟨R8.out.blk 4 rfl, R8.out.blk 5 rfl⟩) ?_
              refine tr_one 16 rfl (by kernel_rfl) ?_
              go_wp2_with (first | (go_at_call 22; refine Calls.mono (CY1.out _ (shard_sh R8.out 7 rfl) (shard_lt R8.out 7 rfl)) ?_; rintro e r9 ⟨rfl, hb⟩))
              have R9 := Lib.hid (R8.out.below hb)
              clear hb R8
              refine And.intro (fun _ => ⟨R9.out.blk 4 rfl, R9.out.blk 5 rfl⟩) ?_
              refine tr_read 17 rfl (by kernel_rfl) ⟨R9.out.blk 4 rfl, R9.out.blk 5 rfl⟩ ?_
              refine c_value rfl (.tuple #[.string ⟨#[]⟩, .agg [Value.int .u64 0, .int .u64 0, .int .u64 0, .int .u64 0, .int .i64 0].toArray, .bool false]) (fun u hu => by go_simp) (fun _ _ _ h => h) (fun K hK => ?_)
              go_simp
              refine hK _ ?_
              clear hK K
              refine c_nil ?_
              refine tr_read 18 rfl (by kernel_rfl) ⟨R9.out.blk 4 rfl, R9.out.blk 5 rfl⟩ ?_
              refine c_value rfl (.string ⟨#[]⟩) (fun u hu => by go_simp) (fun _ _ _ h => h) (fun K hK => ?_)
              go_simp
              refine hK _ ?_
              clear hK K
              refine c_nil ?_
              refine tr_read 19 rfl (by kernel_rfl) ⟨R9.out.blk 4 rfl, R9.out.blk 5 rfl⟩ ?_
              refine c_value rfl (.agg [Value.int .u64 0, .int .u64 0, .int .u64 0, .int .u64 0, .int .i64 0].toArray) (fun u hu => by go_simp) (fun _ _ _ h => h) (fun K hK => ?_)
              go_simp
              refine hK _ ?_
              clear hK K
              refine c_nil ?_
              refine tr_read 20 rfl (by kernel_rfl) ⟨R9.out.blk 4 rfl, R9.out.blk 5 rfl⟩ ?_
              refine c_value rfl (.bool false) (fun u hu => by go_simp) (fun _ _ _ h => h) (fun K hK => ?_)
              go_simp
              refine hK _ ?_
              clear hK K
              refine c_nil ?_
              refine tr_one 22 rfl (by kernel_rfl) ?_
              go_wp2_with fail
              refine And.intro (fun _ => ⟨R9.out.blk 4 rfl, R9.out.blk 5 rfl⟩) ?_
              refine tr_one 23 rfl (by kernel_rfl) ?_
              go_wp2_with (first | refine blk_store rfl 35 _ _ rfl b24 rfl [Value.int .u64 0, .int .u64 0, .int .u64 0, .int .u64 0, .int .i64 0] rfl _ (R9.out.blk 0 rfl) rfl Try.size_s rfl ?_)
              intro r11 A9 U9
              have R11 : Hid (Sep w r11 [rB b24 [Value.int .u64 0, .int .u64 0, .int .u64 0, .int .u64 0, .int .i64 0], rB b21 [Value.int .u64 (x0 : Int), .int .u64 (x1 : Int), .int .u64 (x2 : Int), .int .u64 (x3 : Int), .int .i64 xd], rB b18 [Value.int .u64 0, .int .u64 0, .int .u64 0, .int .u64 0], rB b16 [Value.int .u64 0, .int .u64 0, .int .u64 0, .int .u64 0, .int .i64 0], rB bk [Value.string wb, .string wk, .string wv, .bool wg], rB bt [Value.int .u64 (a0 : Int), .int .u64 (a1 : Int), .int .u64 (a2 : Int), .int .u64 (a3 : Int), .int .i64 d, .slice (some ⟨g, off, none⟩) tm tc], rW (.slice (some ⟨g, off, none⟩) tm tc) MM, rS s (gr k lb ch mb W2 E2 [z0, z1, z2, z3]), rB w.heap.size [Value.int .u64 (l0 : Int), .int .u64 (l1 : Int), .int .u64 (l2 : Int), .int .u64 (l3 : Int), .int .i64 dd, .bool mo, .slice pa pm pc, .bool true]]) := R9.out.upd 0 rfl U9 A9
              clear A9 U9 R9
              refine And.intro (fun _ => ⟨R11.out.blk 4 rfl, R11.out.blk 5 rfl⟩) ?_
              refine tr_one 24 rfl (by kernel_rfl) ?_
              go_wp2_with fail
              refine And.intro (fun _ => ⟨R11.out.blk 4 rfl, R11.out.blk 5 rfl⟩) ?_
              refine tr_end (by kernel_rfl) ?_
              go_wp2_with fail
              go_meet
              exact ⟨rfl, b24, R11⟩
          ·
            go_wp2_with (first | refine blk_alloc rfl 35 [Value.int .u64 0, .int .u64 0, .int .u64 0, .int .u64 0, .int .i64 0] rfl Try.info_st ?_)
            intro r13 A9 B Z
            obtain ⟨b24, HBB⟩ : ∃ b, Hid (r1.heap.size = b) := ⟨_, rfl⟩
            have R13 : Hid (Sep w r13 [rB b24 [Value.int .u64 0, .int .u64 0, .int .u64 0, .int .u64 0, .int .i64 0], rB b21 [Value.int .u64 (x0 : Int), .int .u64 (x1 : Int), .int .u64 (x2 : Int), .int .u64 (x3 : Int), .int .i64 xd], rB b18 [Value.int .u64 0, .int .u64 0, .int .u64 0, .int .u64 0], rB b16 [Value.int .u64 0, .int .u64 0, .int .u64 0, .int .u64 0, .int .i64 0], rB bk [Value.string wb, .string wk, .string wv, .bool wg], rB bt [Value.int .u64 (a0 : Int), .int .u64 (a1 : Int), .int .u64 (a2 : Int), .int .u64 (a3 : Int), .int .i64 d, .slice (some ⟨g, off, none⟩) tm tc], rW (.slice (some ⟨g, off, none⟩) tm tc) MM, rS s (gr k lb ch mb W2 E2 [z0, z1, z2, z3]), rB w.heap.size [Value.int .u64 (l0 : Int), .int .u64 (l1 : Int), .int .u64 (l2 : Int), .int .u64 (l3 : Int), .int .i64 dd, .bool mo, .slice pa pm pc, .bool true]]) := by
              show Sep _ _ _
              rw [← HBB.out]
              exact R1.out.box B Z A9
            rw [HBB.out]
            clear A9 B Z HBB R1
            refine And.intro (fun _ => ⟨R13.out.blk 4 rfl, R13.out.blk 5 rfl⟩) ?_
            refine tr_one 15 rfl (by kernel_rfl) ?_
            go_wp2_with (first | (go_at_call 30; refine Calls.mono (CWT.out _) ?_; rintro e r14 ⟨rfl, hb⟩))
            have R14 := Lib.hid (R13.out.below hb)
            clear hb R13
            refine And.intro (fun _ => ⟨R14.out.blk 4 rfl, R14.out.blk 5 rfl⟩) ?_
            refine tr_one 16 rfl (by kernel_rfl) ?_
            go_wp2_with (first | (go_at_call 22; refine Calls.mono (CY1.out _ (shard_sh R14.out 7 rfl) (shard_lt R14.out 7 rfl)) ?_; rintro e r15 ⟨rfl, hb⟩))
            have R15 := Lib.hid (R14.out.below hb)
            clear hb R14
            refine And.intro (fun _ => ⟨R15.out.blk 4 rfl, R15.out.blk 5 rfl⟩) ?_
            refine tr_read 17 rfl (by kernel_rfl) ⟨R15.out.blk 4 rfl, R15.out.blk 5 rfl⟩ ?_
            refine c_value rfl (.tuple #[.string ⟨#[]⟩, .agg [Value.int .u64 0, .int .u64 0, .int .u64 0, .int .u64 0, .int .i64 0].toArray, .bool false]) (fun u hu => by go_simp) (fun _ _ _ h => h) (fun K hK => ?_)
            go_simp
            refine hK _ ?_
            clear hK K
            refine c_nil ?_
            refine tr_read 18 rfl (by kernel_rfl) ⟨R15.out.blk 4 rfl, R15.out.blk 5 rfl⟩ ?_
            refine c_value rfl (.string ⟨#[]⟩) (fun u hu => by go_simp) (fun _ _ _ h => h) (fun K hK => ?_)
            go_simp
            refine hK _ ?_
            clear hK K
            refine c_nil ?_
            refine tr_read 19 rfl (by kernel_rfl) ⟨R15.out.blk 4 rfl, R15.out.blk 5 rfl⟩ ?_
            refine c_value rfl (.agg [Value.int .u64 0, .int .u64 0, .int .u64 0, .int .u64 0, .int .i64 0].toArray) (fun u hu => by go_simp) (fun _ _ _ h => h) (fun K hK => ?_)
            go_simp
            refine hK _ ?_
            clear hK K
            refine c_nil ?_
            refine tr_read 20 rfl (by kernel_rfl) ⟨R15.out.blk 4 rfl, R15.out.blk 5 rfl⟩ ?_
            refine c_value rfl (.bool false) (fun u hu => by go_simp) (fun _ _ _ h => h) (fun K hK => ?_)
            go_simp
            refine hK _ ?_
            clear hK K
            refine c_nil ?_
            refine tr_one 22 rfl (by kernel_rfl) ?_
            go_wp2_with fail
            refine And.intro (fun _ => ⟨R15.out.blk 4 rfl, R15.out.blk 5 rfl⟩) ?_
            refine tr_one 23 rfl (by kernel_rfl) ?_
            go_wp2_with (first | refine blk_store rfl 35 _ _ rfl b24 rfl [Value.int .u64 0, .int .u64 0, .int .u64 0, .int .u64 0, .int .i64 0] rfl _ (R15.out.blk 0 rfl) rfl Try.size_s rfl ?_)
            intro r17 A9 U9
            have R17 : Hid (Sep w r17 [rB b24 [Value.int .u64 0, .int .u64 0, .int .u64 0, .int .u64 0, .int .i64 0], rB b21 [Value.int .u64 (x0 : Int), .int .u64 (x1 : Int), .int .u64 (x2 : Int), .int .u64 (x3 : Int), .int .i64 xd], rB b18 [Value.int .u64 0, .int .u64 0, .int .u64 0, .int .u64 0], rB b16 [Value.int .u64 0, .int .u64 0, .int .u64 0, .int .u64 0, .int .i64 0], rB bk [Value.string wb, .string wk, .string wv, .bool wg], rB bt [Value.int .u64 (a0 : Int), .int .u64 (a1 : Int), .int .u64 (a2 : Int), .int .u64 (a3 : Int), .int .i64 d, .slice (some ⟨g, off, none⟩) tm tc], rW (.slice (some ⟨g, off, none⟩) tm tc) MM, rS s (gr k lb ch mb W2 E2 [z0, z1, z2, z3]), rB w.heap.size [Value.int .u64 (l0 : Int), .int .u64 (l1 : Int), .int .u64 (l2 : Int), .int .u64 (l3 : Int), .int .i64 dd, .bool mo, .slice pa pm pc, .bool true]]) := R15.out.upd 0 rfl U9 A9
            clear A9 U9 R15
            refine And.intro (fun _ => ⟨R17.out.blk 4 rfl, R17.out.blk 5 rfl⟩) ?_
            refine tr_one 24 rfl (by kernel_rfl) ?_
            go_wp2_with fail
            refine And.intro (fun _ => ⟨R17.out.blk 4 rfl, R17.out.blk 5 rfl⟩) ?_
            refine tr_end (by kernel_rfl) ?_
            go_wp2_with fail
            go_meet
            exact ⟨rfl, b24, R17⟩
        ·
          go_wp2_with (first | refine blk_alloc rfl 35 [Value.int .u64 0, .int .u64 0, .int .u64 0, .int .u64 0, .int .i64 0] rfl Try.info_st ?_)
          intro r19 A9 B Z
          obtain ⟨b24, HBB⟩ : ∃ b, Hid (k8.drew.heap.size = b) := ⟨_, rfl⟩
          have R19 : Hid (Sep w r19 [rB b24 [Value.int .u64 0, .int .u64 0, .int .u64 0, .int .u64 0, .int .i64 0], rB b21 [Value.int .u64 (x0 : Int), .int .u64 (x1 : Int), .int .u64 (x2 : Int), .int .u64 (x3 : Int), .int .i64 xd], rB b18 [Value.int .u64 0, .int .u64 0, .int .u64 0, .int .u64 0], rB b16 [Value.int .u64 0, .int .u64 0, .int .u64 0, .int .u64 0, .int .i64 0], rB bk [Value.string wb, .string wk, .string wv, .bool wg], rB bt [Value.int .u64 (a0 : Int), .int .u64 (a1 : Int), .int .u64 (a2 : Int), .int .u64 (a3 : Int), .int .i64 d, .slice (some ⟨g, off, none⟩) tm tc], rW (.slice (some ⟨g, off, none⟩) tm tc) MM, rS s (gr k lb ch mb W2 E2 [z0, z1, z2, z3]), rB w.heap.size [Value.int .u64 (l0 : Int), .int .u64 (l1 : Int), .int .u64 (l2 : Int), .int .u64 (l3 : Int), .int .i64 dd, .bool mo, .slice pa pm pc, .bool true]]) := by
            show Sep _ _ _
            rw [← HBB.out]
            exact Sd.out.box B Z A9
          rw [HBB.out]
          clear A9 B Z HBB Sd
          refine And.intro (fun _ => ⟨R19.out.blk 4 rfl, R19.out.blk 5 rfl⟩) ?_
          refine tr_one 13 rfl (by kernel_rfl) ?_
          go_wp2_with (first | (go_at_call 31; refine Calls.mono (CSN.out _) ?_; rintro e r20 ⟨rfl, hb⟩))
          have R20 := Lib.hid (R19.out.below hb)
          clear hb R19
          refine And.intro (fun _ => ⟨R20.out.blk 4 rfl, R20.out.blk 5 rfl⟩) ?_
          refine tr_read 14 rfl (by kernel_rfl) ⟨R20.out.blk 4 rfl, R20.out.blk 5 rfl⟩ ?_
          refine c_value rfl (.int .u64 ((pN - 1 : Nat) : Int)) (fun u hu => by go_simp) (fun _ _ _ h => h) (fun K hK => ?_)
          go_simp
          refine hK _ ?_
          clear hK K
          refine c_nil ?_
          refine tr_one 15 rfl (by kernel_rfl) ?_
          go_wp2_with (first | (go_at_call 30; refine Calls.mono (CWT.out _) ?_; rintro e r21 ⟨rfl, hb⟩))
          have R21 := Lib.hid (R20.out.below hb)
          clear hb R20
          refine And.intro (fun _ => ⟨R21.out.blk 4 rfl, R21.out.blk 5 rfl⟩) ?_
          refine tr_one 16 rfl (by kernel_rfl) ?_
          go_wp2_with (first | (go_at_call 22; refine Calls.mono (CY1.out _ (shard_sh R21.out 7 rfl) (shard_lt R21.out 7 rfl)) ?_; rintro e r22 ⟨rfl, hb⟩))
          have R22 := Lib.hid (R21.out.below hb)
          clear hb R21
          refine And.intro (fun _ => ⟨R22.out.blk 4 rfl, R22.out.blk 5 rfl⟩) ?_
          refine tr_read 17 rfl (by kernel_rfl) ⟨R22.out.blk 4 rfl, R22.out.blk 5 rfl⟩ ?_
          refine c_value rfl (.tuple #[.string ⟨#[]⟩, .agg [Value.int .u64 0, .int .u64 0, .int .u64 0, .int .u64 0, .int .i64 0].toArray, .bool false]) (fun u hu => by go_simp) (fun _ _ _ h => h) (fun K hK => ?_)
          go_simp
          refine hK _ ?_
          clear hK K
          refine c_nil ?_
          refine tr_read 18 rfl (by kernel_rfl) ⟨R22.out.blk 4 rfl, R22.out.blk 5 rfl⟩ ?_
          refine c_value rfl (.string ⟨#[]⟩) (fun u hu => by go_simp) (fun _ _ _ h => h) (fun K hK => ?_)
          go_simp
          refine hK _ ?_
          clear hK K
          refine c_nil ?_
          refine tr_read 19 rfl (by kernel_rfl) ⟨R22.out.blk 4 rfl, R22.out.blk 5 rfl⟩ ?_
          refine c_value rfl (.agg [Value.int .u64 0, .int .u64 0, .int .u64 0, .int .u64 0, .int .i64 0].toArray) (fun u hu => by go_simp) (fun _ _ _ h => h) (fun K hK => ?_)
          go_simp
          refine hK _ ?_
          clear hK K
          refine c_nil ?_
          refine tr_read 20 rfl (by kernel_rfl) ⟨R22.out.blk 4 rfl, R22.out.blk 5 rfl⟩ ?_
          refine c_value rfl (.bool false) (fun u hu => by go_simp) (fun _ _ _ h => h) (fun K hK => ?_)
          go_simp
          refine hK _ ?_
          clear hK K
          refine c_nil ?_
          refine tr_one 22 rfl (by kernel_rfl) ?_
          go_wp2_with fail
          refine And.intro (fun _ => ⟨R22.out.blk 4 rfl, R22.out.blk 5 rfl⟩) ?_
          refine tr_one 23 rfl (by kernel_rfl) ?_
          go_wp2_with (first | refine blk_store rfl 35 _ _ rfl b24 rfl [Value.int .u64 0, .int .u64 0, .int .u64 0, .int .u64 0, .int .i64 0] rfl _ (R22.out.blk 0 rfl) rfl Try.size_s rfl ?_)
          intro r24 A9 U9
          have R24 : Hid (Sep w r24 [rB b24 [Value.int .u64 0, .int .u64 0, .int .u64 0, .int .u64 0, .int .i64 0], rB b21 [Value.int .u64 (x0 : Int), .int .u64 (x1 : Int), .int .u64 (x2 : Int), .int .u64 (x3 : Int), .int .i64 xd], rB b18 [Value.int .u64 0, .int .u64 0, .int .u64 0, .int .u64 0], rB b16 [Value.int .u64 0, .int .u64 0, .int .u64 0, .int .u64 0, .int .i64 0], rB bk [Value.string wb, .string wk, .string wv, .bool wg], rB bt [Value.int .u64 (a0 : Int), .int .u64 (a1 : Int), .int .u64 (a2 : Int), .int .u64 (a3 : Int), .int .i64 d, .slice (some ⟨g, off, none⟩) tm tc], rW (.slice (some ⟨g, off, none⟩) tm tc) MM, rS s (gr k lb ch mb W2 E2 [z0, z1, z2, z3]), rB w.heap.size [Value.int .u64 (l0 : Int), .int .u64 (l1 : Int), .int .u64 (l2 : Int), .int .u64 (l3 : Int), .int .i64 dd, .bool mo, .slice pa pm pc, .bool true]]) := R22.out.upd 0 rfl U9 A9
          clear A9 U9 R22
          refine And.intro (fun _ => ⟨R24.out.blk 4 rfl, R24.out.blk 5 rfl⟩) ?_
          refine tr_one 24 rfl (by kernel_rfl) ?_
          go_wp2_with fail
          refine And.intro (fun _ => ⟨R24.out.blk 4 rfl, R24.out.blk 5 rfl⟩) ?_
          refine tr_end (by kernel_rfl) ?_
          go_wp2_with fail
          go_meet
          exact ⟨rfl, b24, R24⟩
      case rest =>
      obtain ⟨rfl, b24, S9⟩ := hcut
      clear S8
      rename_i wcut
      by_cases hn0 : j = 0
      · have ij : (j : Int) = 0 := by omega
        rcases HF.out with ⟨_, hdd, hv⟩ | ⟨h9, _⟩
        case inr => exact absurd h9 (by omega)
        subst hdd
        obtain rfl : ng = false := by rw [← HRO.out, hv]; rfl
        clear hv
        have HU := Lib.hid S9.out.under
        go_wp2_with fail
        go_ret
        exact ⟨rfl, HU.out⟩
      · have ij : ¬ (j : Int) = 0 := by omega
        rcases HF.out with ⟨h9, _⟩ | ⟨_, hdd, hw2, hv, hat⟩
        case inl => exact absurd h9 hn0
        subst hdd
        have HW2 : Hid (W2.length + 1 = min j k) := hw2
        have HAT : Hid (V.at_ [z0, z1, z2, z3] d = pN) := hat
        have hg : getV (vis E2) (wb, wk) = [(([a0, a1, a2, a3], d), (wb, wk, wv, wg))] := by rw [hv, HMC.out]; exact getV_one ([a0, a1, a2, a3], d) (wb, wk, wv, wg) MR
        have e1 : C.read (getV (vis E2) (wb, wk)) [a0, a1, a2, a3] = some (([a0, a1, a2, a3], d), (wb, wk, wv, wg)) := by rw [hg]; exact read_one d _ rfl
        have e2 : ((([a0, a1, a2, a3], d), (wb, wk, wv, wg)) : C.Vr I.Wt) = (([x0, x1, x2, x3], xd), X) := by rw [← HX.out]; unfold rdV; rw [e1]; rfl
        have HTT : Hid (tot (vis E2) = tm) := by show _ = _; rw [hv, tot_one, HTM.out]
        have HRO2 : Hid ((!X.2.2.2) = ng) := by show _ = _; rw [← HRO.out, e1]; rfl
        clear HX HRO hg e1 hv hat hw2 HF
        injection e2 with e3 e4
        injection e3 with e5 e6
        injection e5 with f0 e5
        injection e5 with f1 e5
        injection e5 with f2 e5
        injection e5 with f3 e5
        subst f0 f1 f2 f3 e6 e4
        clear e5
        obtain rfl : wv = rv := HRV.out
        have HNG : Hid ((!wg) = ng) := HRO2.out
        clear HRV HRO2
        obtain ⟨wl, HWLN⟩ : ∃ z, Hid (W2.length = z) := ⟨_, rfl⟩
        rw [HWLN.out] at HW2
        have CSUM : Hid (∀ u, Calls Try.prog 32 #[.agg [Value.int .u64 0, .int .u64 0, .int .u64 0, .int .u64 0].toArray] u fun e w' => e = .returned (.int .u64 0) ∧ Below u.heap.size u w') := fun u => sum_any V.zeros u rfl
        have CAT : Hid (∀ u, Calls Try.prog 33 #[.agg [Value.int .u64 (z0 : Int), .int .u64 (z1 : Int), .int .u64 (z2 : Int), .int .u64 (z3 : Int)].toArray, .int .i64 d] u fun e w' => e = .returned (.int .u64 (pN : Int)) ∧ Below u.heap.size u w') := fun u => by
          have h9 := at_any [z0, z1, z2, z3] d u rfl
          rw [HAT.out] at h9
          exact h9
        have CVE : Hid (∀ u, Sh u s (gr k lb ch mb W2 E2 [z0, z1, z2, z3]) → (∀ k_ ∈ (gr k lb ch mb W2 E2 [z0, z1, z2, z3]).bl s, k_ < u.heap.size) → Calls Try.prog 29 #[.pointer (some ⟨s, 0, none⟩)] u fun e w' => e = .returned (.int .i64 (tm : Int)) ∧ Below u.heap.size u w') := fun u hS hl => by
          have h9 := versions_ga hS hl (by rw [HTT.out]; have := HL.out; omega)
          rw [HTT.out] at h9
          exact h9
        have CWA : Hid (∀ u, Sh u s (gr k lb ch mb W2 E2 [z0, z1, z2, z3]) → Calls Try.prog 26 #[.pointer (some ⟨s, 0, none⟩)] u fun e w' => e = .returned (.int .i64 (wl : Int)) ∧ Below u.heap.size u w') := fun u hS => by
          have h9 := waiting_ga hS
          rw [HWLN.out] at h9
          refine h9.mono ?_
          rintro e w' ⟨rfl, rfl⟩
          exact ⟨rfl, Below.refl _ _⟩
        go_wp2_with fail
        have Sd := Lib.hid (S9.out.below (Below.drew (Below.refl _ _)))
        clear S9
        have hmn : (if k < j then (k : Int) else (j : Int)) = ((wl + 1 : Nat) : Int) := by have h9 := HW2.out; split <;> omega
        have HMN := Lib.hid hmn
        clear hmn
        have hw1 : IntKind.i64.wrap (wl : Int) = (wl : Int) := by rw [IntKind.wrap_i64]; have h9 := HW2.out; omega
        refine region_tree (fun u => Blk u bt [Value.int .u64 (a0 : Int), .int .u64 (a1 : Int), .int .u64 (a2 : Int), .int .u64 (a3 : Int), .int .i64 d, .slice (some ⟨g, off, none⟩) tm tc] ∧ Blk u bk [Value.string wb, .string wk, .string wv, .bool wg] ∧ Blk u b21 [Value.int .u64 (a0 : Int), .int .u64 (a1 : Int), .int .u64 (a2 : Int), .int .u64 (a3 : Int), .int .i64 d] ∧ Blk u b18 [Value.int .u64 0, .int .u64 0, .int .u64 0, .int .u64 0]) 66 Try.mixed ?_
        refine tr_read 0 rfl (by kernel_rfl) ⟨Sd.out.blk 5 rfl, Sd.out.blk 4 rfl, Sd.out.blk 1 rfl, Sd.out.blk 2 rfl⟩ ?_
        refine c_value rfl (.bool true) (fun u hu => by go_simp) (fun _ _ _ h => h) (fun K hK => ?_)
        go_simp
        refine hK _ ?_
        clear hK K
        refine c_nil ?_
        refine tr_read 1 rfl (by kernel_rfl) ⟨Sd.out.blk 5 rfl, Sd.out.blk 4 rfl, Sd.out.blk 1 rfl, Sd.out.blk 2 rfl⟩ ?_
        refine c_value rfl (.bool true) (fun u hu => by go_simp) (fun _ _ _ h => h) (fun K hK => ?_)
        go_simp
        refine hK _ ?_
        clear hK K
        refine c_nil ?_
        refine tr_read 2 rfl (by kernel_rfl) ⟨Sd.out.blk 5 rfl, Sd.out.blk 4 rfl, Sd.out.blk 1 rfl, Sd.out.blk 2 rfl⟩ ?_
        refine cg_value (by rfl) (.bool false) (fun u hu => by go_simp) (fun _ _ _ h => h) (fun K hK => ?_)
        go_simp
        refine hK _ ?_
        clear hK K
        refine c_nil ?_
        refine tr_read 3 rfl (by kernel_rfl) ⟨Sd.out.blk 5 rfl, Sd.out.blk 4 rfl, Sd.out.blk 1 rfl, Sd.out.blk 2 rfl⟩ ?_
        refine cg_value (by rfl) (.bool true) (fun u hu => by go_simp) (fun _ _ _ h => h) (fun K hK => ?_)
        go_simp
        refine hK _ ?_
        clear hK K
        refine c_nil ?_
        refine tr_read 4 rfl (by kernel_rfl) ⟨Sd.out.blk 5 rfl, Sd.out.blk 4 rfl, Sd.out.blk 1 rfl, Sd.out.blk 2 rfl⟩ ?_
        refine c_value rfl (.bool true) (fun u hu => by go_simp) (fun _ _ _ h => h) (fun K hK => ?_)
        go_simp
        refine hK _ ?_
        clear hK K
        refine c_nil ?_
        refine tr_read 5 rfl (by kernel_rfl) ⟨Sd.out.blk 5 rfl, Sd.out.blk 4 rfl, Sd.out.blk 1 rfl, Sd.out.blk 2 rfl⟩ ?_
        refine c_value rfl (.bool true) (fun u hu => by go_simp) (fun _ _ _ h => h) (fun K hK => ?_)
        go_simp
        refine hK _ ?_
        clear hK K
        refine c_nil ?_
        refine tr_read 6 rfl (by kernel_rfl) ⟨Sd.out.blk 5 rfl, Sd.out.blk 4 rfl, Sd.out.blk 1 rfl, Sd.out.blk 2 rfl⟩ ?_
        refine cg_mid_load (by rfl) 33 _ rfl b18 0 rfl [Value.int .u64 0, .int .u64 0, .int .u64 0, .int .u64 0] (fun u hu => preb (vs := []) hu.2.2.2) _ Try.underlying33 rfl Try.size_v (fun _ _ _ h => h) (fun K hK => ?_)
        go_simp
        refine hK _ ?_
        clear hK K
        refine c_nil ?_
        refine tr_one 7 rfl (by kernel_rfl) ?_
        go_wp2_with (first | (go_at_call 32; refine Calls.mono (CSUM.out _) ?_; rintro e k10 ⟨rfl, hb⟩))
        have S10 := Lib.hid (Sd.out.below hb)
        clear hb Sd
        refine And.intro (fun _ => ⟨S10.out.blk 5 rfl, S10.out.blk 4 rfl, S10.out.blk 1 rfl, S10.out.blk 2 rfl⟩) ?_
        refine tr_read 8 rfl (by kernel_rfl) ⟨S10.out.blk 5 rfl, S10.out.blk 4 rfl, S10.out.blk 1 rfl, S10.out.blk 2 rfl⟩ ?_
        refine cg_value (by rfl) (.bool true) (fun u hu => by go_simp) (fun _ _ _ h => h) (fun K hK => ?_)
        go_simp
        refine hK _ ?_
        clear hK K
        refine c_nil ?_
        refine tr_read 9 rfl (by kernel_rfl) ⟨S10.out.blk 5 rfl, S10.out.blk 4 rfl, S10.out.blk 1 rfl, S10.out.blk 2 rfl⟩ ?_
        refine c_value rfl (.bool true) (fun u hu => by go_simp) (fun _ _ _ h => h) (fun K hK => ?_)
        go_simp
        refine hK _ ?_
        clear hK K
        refine c_nil ?_
        refine tr_read 10 rfl (by kernel_rfl) ⟨S10.out.blk 5 rfl, S10.out.blk 4 rfl, S10.out.blk 1 rfl, S10.out.blk 2 rfl⟩ ?_
        refine c_value rfl (.bool true) (fun u hu => by go_simp) (fun _ _ _ h => h) (fun K hK => ?_)
        go_simp
        refine hK _ ?_
        clear hK K
        refine c_nil ?_
        refine tr_read 11 rfl (by kernel_rfl) ⟨S10.out.blk 5 rfl, S10.out.blk 4 rfl, S10.out.blk 1 rfl, S10.out.blk 2 rfl⟩ ?_
        refine cg_value (by rfl) (.bool true) (fun u hu => by go_simp) (fun _ _ _ h => h) (fun K hK => ?_)
        go_simp
        refine hK _ ?_
        clear hK K
        refine c_nil ?_
        refine tr_read 12 rfl (by kernel_rfl) ⟨S10.out.blk 5 rfl, S10.out.blk 4 rfl, S10.out.blk 1 rfl, S10.out.blk 2 rfl⟩ ?_
        refine c_value rfl (.bool true) (fun u hu => by go_simp) (fun _ _ _ h => h) (fun K hK => ?_)
        go_simp
        refine hK _ ?_
        clear hK K
        refine c_nil ?_
        refine tr_read 13 rfl (by kernel_rfl) ⟨S10.out.blk 5 rfl, S10.out.blk 4 rfl, S10.out.blk 1 rfl, S10.out.blk 2 rfl⟩ ?_
        refine c_value rfl (.bool true) (fun u hu => by go_simp) (fun _ _ _ h => h) (fun K hK => ?_)
        go_simp
        refine hK _ ?_
        clear hK K
        refine c_nil ?_
        refine tr_read 14 rfl (by kernel_rfl) ⟨S10.out.blk 5 rfl, S10.out.blk 4 rfl, S10.out.blk 1 rfl, S10.out.blk 2 rfl⟩ ?_
        refine cg_value (by rfl) (.string wv) (fun u hu => by go_simp) (fun _ _ _ h => h) (fun K hK => ?_)
        go_simp
        refine hK _ ?_
        clear hK K
        refine c_nil ?_
        refine tr_read 15 rfl (by kernel_rfl) ⟨S10.out.blk 5 rfl, S10.out.blk 4 rfl, S10.out.blk 1 rfl, S10.out.blk 2 rfl⟩ ?_
        refine cg_value (by rfl) (.pointer (some ⟨bk, 2, none⟩)) (fun u hu => by go_simp) (fun _ _ _ h => h) (fun K hK => ?_)
        go_simp
        refine hK _ ?_
        clear hK K
        refine c_nil ?_
        refine tr_read 16 rfl (by kernel_rfl) ⟨S10.out.blk 5 rfl, S10.out.blk 4 rfl, S10.out.blk 1 rfl, S10.out.blk 2 rfl⟩ ?_
        refine cg_value (by rfl) (.string wv) (fun u hu => by have hc := (hu.2.1).cell 2 _ rfl; go_simp) (fun _ _ _ h => h) (fun K hK => ?_)
        go_simp
        refine hK _ ?_
        clear hK K
        refine c_nil ?_
        refine tr_read 17 rfl (by kernel_rfl) ⟨S10.out.blk 5 rfl, S10.out.blk 4 rfl, S10.out.blk 1 rfl, S10.out.blk 2 rfl⟩ ?_
        refine cg_value (by rfl) (.bool true) (fun u hu => by go_simp) (fun _ _ _ h => h) (fun K hK => ?_)
        go_simp
        refine hK _ ?_
        clear hK K
        refine c_nil ?_
        refine tr_read 18 rfl (by kernel_rfl) ⟨S10.out.blk 5 rfl, S10.out.blk 4 rfl, S10.out.blk 1 rfl, S10.out.blk 2 rfl⟩ ?_
        refine c_value rfl (.bool true) (fun u hu => by go_simp) (fun _ _ _ h => h) (fun K hK => ?_)
        go_simp
        refine hK _ ?_
        clear hK K
        refine c_nil ?_
        refine tr_read 19 rfl (by kernel_rfl) ⟨S10.out.blk 5 rfl, S10.out.blk 4 rfl, S10.out.blk 1 rfl, S10.out.blk 2 rfl⟩ ?_
        refine c_value rfl (.bool true) (fun u hu => by go_simp) (fun _ _ _ h => h) (fun K hK => ?_)
        go_simp
        refine hK _ ?_
        clear hK K
        refine c_nil ?_
        refine tr_read 20 rfl (by kernel_rfl) ⟨S10.out.blk 5 rfl, S10.out.blk 4 rfl, S10.out.blk 1 rfl, S10.out.blk 2 rfl⟩ ?_
        refine cg_mid_load (by rfl) 35 _ rfl b21 0 rfl [Value.int .u64 (a0 : Int), .int .u64 (a1 : Int), .int .u64 (a2 : Int), .int .u64 (a3 : Int), .int .i64 d] (fun u hu => preb (vs := []) hu.2.2.1) _ Try.underlying35 rfl Try.size_s (fun _ _ _ h => h) (fun K hK => ?_)
        go_simp
        refine hK _ ?_
        clear hK K
        refine c_nil ?_
        refine tr_read 21 rfl (by kernel_rfl) ⟨S10.out.blk 5 rfl, S10.out.blk 4 rfl, S10.out.blk 1 rfl, S10.out.blk 2 rfl⟩ ?_
        refine cg_value (by rfl) (.pointer (some ⟨bt, 0, none⟩)) (fun u hu => by go_simp) (fun _ _ _ h => h) (fun K hK => ?_)
        go_simp
        refine hK _ ?_
        clear hK K
        refine c_nil ?_
        refine tr_read 22 rfl (by kernel_rfl) ⟨S10.out.blk 5 rfl, S10.out.blk 4 rfl, S10.out.blk 1 rfl, S10.out.blk 2 rfl⟩ ?_
        refine cg_mid_load (by rfl) 35 _ rfl bt 0 rfl [Value.int .u64 (a0 : Int), .int .u64 (a1 : Int), .int .u64 (a2 : Int), .int .u64 (a3 : Int), .int .i64 d] (fun u hu => preb (vs := [.slice (some ⟨g, off, none⟩) tm tc]) hu.1) _ Try.underlying35 rfl Try.size_s (fun _ _ _ h => h) (fun K hK => ?_)
        go_simp
        refine hK _ ?_
        clear hK K
        refine c_nil ?_
        refine tr_read 23 rfl (by kernel_rfl) ⟨S10.out.blk 5 rfl, S10.out.blk 4 rfl, S10.out.blk 1 rfl, S10.out.blk 2 rfl⟩ ?_
        refine cg_value (by rfl) (.bool true) (fun u hu => run_eql u .eql 35 35 _ _ (SV [a0, a1, a2, a3] d) (SV [a0, a1, a2, a3] d) _ rfl rfl rfl (guard_s _ _ _ _ _ _ u) (by have h := eql_s [a0, a1, a2, a3] [a0, a1, a2, a3] d d rfl rfl u; rw [show T.same [a0, a1, a2, a3] d [a0, a1, a2, a3] d = true by unfold T.same; simp] at h; exact h)) (fun _ _ _ h => h) (fun K hK => ?_)
        go_simp
        refine hK _ ?_
        clear hK K
        refine c_nil ?_
        refine tr_read 24 rfl (by kernel_rfl) ⟨S10.out.blk 5 rfl, S10.out.blk 4 rfl, S10.out.blk 1 rfl, S10.out.blk 2 rfl⟩ ?_
        refine c_value rfl (.bool true) (fun u hu => by go_simp) (fun _ _ _ h => h) (fun K hK => ?_)
        go_simp
        refine hK _ ?_
        clear hK K
        refine c_nil ?_
        refine tr_read 25 rfl (by kernel_rfl) ⟨S10.out.blk 5 rfl, S10.out.blk 4 rfl, S10.out.blk 1 rfl, S10.out.blk 2 rfl⟩ ?_
        refine c_value rfl (.bool true) (fun u hu => by go_simp) (fun _ _ _ h => h) (fun K hK => ?_)
        go_simp
        refine hK _ ?_
        clear hK K
        refine c_nil ?_
        refine tr_read 26 rfl (by kernel_rfl) ⟨S10.out.blk 5 rfl, S10.out.blk 4 rfl, S10.out.blk 1 rfl, S10.out.blk 2 rfl⟩ ?_
        refine cg_value (by rfl) (.bool ng) (fun u hu => by go_simp) (fun _ _ _ h => h) (fun K hK => ?_)
        go_simp
        refine hK _ ?_
        clear hK K
        refine c_nil ?_
        refine tr_read 27 rfl (by kernel_rfl) ⟨S10.out.blk 5 rfl, S10.out.blk 4 rfl, S10.out.blk 1 rfl, S10.out.blk 2 rfl⟩ ?_
        refine cg_value (by rfl) (.pointer (some ⟨bk, 3, none⟩)) (fun u hu => by go_simp) (fun _ _ _ h => h) (fun K hK => ?_)
        go_simp
        refine hK _ ?_
        clear hK K
        refine c_nil ?_
        refine tr_read 28 rfl (by kernel_rfl) ⟨S10.out.blk 5 rfl, S10.out.blk 4 rfl, S10.out.blk 1 rfl, S10.out.blk 2 rfl⟩ ?_
        refine cg_value (by rfl) (.bool wg) (fun u hu => by have hc := (hu.2.1).cell 3 _ rfl; go_simp) (fun _ _ _ h => h) (fun K hK => ?_)
        go_simp
        refine hK _ ?_
        clear hK K
        refine c_nil ?_
        refine tr_read 29 rfl (by kernel_rfl) ⟨S10.out.blk 5 rfl, S10.out.blk 4 rfl, S10.out.blk 1 rfl, S10.out.blk 2 rfl⟩ ?_
        refine cg_value (by rfl) (.bool ng) (fun u hu => by have hg := HNG.out; go_simp) (fun _ _ _ h => h) (fun K hK => ?_)
        go_simp
        refine hK _ ?_
        clear hK K
        refine c_nil ?_
        refine tr_read 30 rfl (by kernel_rfl) ⟨S10.out.blk 5 rfl, S10.out.blk 4 rfl, S10.out.blk 1 rfl, S10.out.blk 2 rfl⟩ ?_
        refine cg_value (by rfl) (.bool true) (fun u hu => by go_simp) (fun _ _ _ h => h) (fun K hK => ?_)
        go_simp
        refine hK _ ?_
        clear hK K
        refine c_nil ?_
        refine tr_read 31 rfl (by kernel_rfl) ⟨S10.out.blk 5 rfl, S10.out.blk 4 rfl, S10.out.blk 1 rfl, S10.out.blk 2 rfl⟩ ?_
        refine c_value rfl (.bool true) (fun u hu => by go_simp) (fun _ _ _ h => h) (fun K hK => ?_)
        go_simp
        refine hK _ ?_
        clear hK K
        refine c_nil ?_
        refine tr_read 32 rfl (by kernel_rfl) ⟨S10.out.blk 5 rfl, S10.out.blk 4 rfl, S10.out.blk 1 rfl, S10.out.blk 2 rfl⟩ ?_
        refine c_value rfl (.bool true) (fun u hu => by go_simp) (fun _ _ _ h => h) (fun K hK => ?_)
        go_simp
        refine hK _ ?_
        clear hK K
        refine c_nil ?_
        refine tr_read 33 rfl (by kernel_rfl) ⟨S10.out.blk 5 rfl, S10.out.blk 4 rfl, S10.out.blk 1 rfl, S10.out.blk 2 rfl⟩ ?_
        refine cg_value (by rfl) (.bool false) (fun u hu => by go_simp) (fun _ _ _ h => h) (fun K hK => ?_)
        go_simp
        refine hK _ ?_
        clear hK K
        refine c_nil ?_
        refine tr_read 34 rfl (by kernel_rfl) ⟨S10.out.blk 5 rfl, S10.out.blk 4 rfl, S10.out.blk 1 rfl, S10.out.blk 2 rfl⟩ ?_
        refine cg_value (by rfl) (.bool true) (fun u hu => by go_simp) (fun _ _ _ h => h) (fun K hK => ?_)
        go_simp
        refine hK _ ?_
        clear hK K
        refine c_nil ?_
        refine tr_read 35 rfl (by kernel_rfl) ⟨S10.out.blk 5 rfl, S10.out.blk 4 rfl, S10.out.blk 1 rfl, S10.out.blk 2 rfl⟩ ?_
        refine c_value rfl (.bool true) (fun u hu => by go_simp) (fun _ _ _ h => h) (fun K hK => ?_)
        go_simp
        refine hK _ ?_
        clear hK K
        refine c_nil ?_
        refine tr_read 36 rfl (by kernel_rfl) ⟨S10.out.blk 5 rfl, S10.out.blk 4 rfl, S10.out.blk 1 rfl, S10.out.blk 2 rfl⟩ ?_
        refine c_value rfl (.bool true) (fun u hu => by go_simp) (fun _ _ _ h => h) (fun K hK => ?_)
        go_simp
        refine hK _ ?_
        clear hK K
        refine c_nil ?_
        refine tr_read 37 rfl (by kernel_rfl) ⟨S10.out.blk 5 rfl, S10.out.blk 4 rfl, S10.out.blk 1 rfl, S10.out.blk 2 rfl⟩ ?_
        refine cg_value (by rfl) (.pointer (some ⟨s, 0, none⟩)) (fun u hu => by go_simp) (fun _ _ _ h => h) (fun K hK => ?_)
        go_simp
        refine hK _ ?_
        clear hK K
        refine c_nil ?_
        refine tr_read 39 rfl (by kernel_rfl) ⟨S10.out.blk 5 rfl, S10.out.blk 4 rfl, S10.out.blk 1 rfl, S10.out.blk 2 rfl⟩ ?_
        refine cg_value (by rfl) (.pointer (some ⟨bt, 0, none⟩)) (fun u hu => by go_simp) (fun _ _ _ h => h) (fun K hK => ?_)
        go_simp
        refine hK _ ?_
        clear hK K
        refine c_nil ?_
        refine tr_read 40 rfl (by kernel_rfl) ⟨S10.out.blk 5 rfl, S10.out.blk 4 rfl, S10.out.blk 1 rfl, S10.out.blk 2 rfl⟩ ?_
        refine cg_value (by rfl) (.pointer (some ⟨bt, 4, none⟩)) (fun u hu => by go_simp) (fun _ _ _ h => h) (fun K hK => ?_)
        go_simp
        refine hK _ ?_
        clear hK K
        refine c_nil ?_
        refine tr_read 41 rfl (by kernel_rfl) ⟨S10.out.blk 5 rfl, S10.out.blk 4 rfl, S10.out.blk 1 rfl, S10.out.blk 2 rfl⟩ ?_
        refine cg_value (by rfl) (.int .i64 d) (fun u hu => by have hc := (hu.1).cell 4 _ rfl; go_simp) (fun _ _ _ h => h) (fun K hK => ?_)
        go_simp
        refine hK _ ?_
        clear hK K
        refine c_nil ?_
        refine tr_read 43 rfl (by kernel_rfl) ⟨S10.out.blk 5 rfl, S10.out.blk 4 rfl, S10.out.blk 1 rfl, S10.out.blk 2 rfl⟩ ?_
        refine cg_value (by rfl) (.pointer (some ⟨bt, 0, none⟩)) (fun u hu => by go_simp) (fun _ _ _ h => h) (fun K hK => ?_)
        go_simp
        refine hK _ ?_
        clear hK K
        refine c_nil ?_
        refine tr_read 44 rfl (by kernel_rfl) ⟨S10.out.blk 5 rfl, S10.out.blk 4 rfl, S10.out.blk 1 rfl, S10.out.blk 2 rfl⟩ ?_
        refine cg_mid_load (by rfl) 35 _ rfl bt 0 rfl [Value.int .u64 (a0 : Int), .int .u64 (a1 : Int), .int .u64 (a2 : Int), .int .u64 (a3 : Int), .int .i64 d] (fun u hu => preb (vs := [.slice (some ⟨g, off, none⟩) tm tc]) hu.1) _ Try.underlying35 rfl Try.size_s (fun _ _ _ h => h) (fun K hK => ?_)
        go_simp
        refine hK _ ?_
        clear hK K
        refine c_nil ?_
        refine tr_one 38 rfl (by kernel_rfl) ?_
        go_wp2_with (first | (go_at_call 28; refine Calls.mono (applied_any s (gr k lb ch mb W2 E2 [z0, z1, z2, z3]) _ (shard_sh S10.out 7 rfl) (shard_lt S10.out 7 rfl)) ?_; rintro e k11 ⟨rfl, hb⟩))
        have S11 := Lib.hid (S10.out.below hb)
        clear hb S10
        refine And.intro (fun _ => ⟨S11.out.blk 5 rfl, S11.out.blk 4 rfl, S11.out.blk 1 rfl, S11.out.blk 2 rfl⟩) ?_
        refine tr_one 42 rfl (by kernel_rfl) ?_
        go_wp2_with (first | (go_at_call 33; refine Calls.mono (CAT.out _) ?_; rintro e k12 ⟨rfl, hb⟩))
        have S12 := Lib.hid (S11.out.below hb)
        clear hb S11
        refine And.intro (fun _ => ⟨S12.out.blk 5 rfl, S12.out.blk 4 rfl, S12.out.blk 1 rfl, S12.out.blk 2 rfl⟩) ?_
        refine tr_one 45 rfl (by kernel_rfl) ?_
        go_wp2_with (first | (go_at_call 31; refine Calls.mono (CSN.out _) ?_; rintro e k13 ⟨rfl, hb⟩))
        have S13 := Lib.hid (S12.out.below hb)
        clear hb S12
        refine And.intro (fun _ => ⟨S13.out.blk 5 rfl, S13.out.blk 4 rfl, S13.out.blk 1 rfl, S13.out.blk 2 rfl⟩) ?_
        refine tr_read 46 rfl (by kernel_rfl) ⟨S13.out.blk 5 rfl, S13.out.blk 4 rfl, S13.out.blk 1 rfl, S13.out.blk 2 rfl⟩ ?_
        refine cg_value (by rfl) (.bool true) (fun u hu => by go_simp) (fun _ _ _ h => h) (fun K hK => ?_)
        go_simp
        refine hK _ ?_
        clear hK K
        refine c_nil ?_
        refine tr_read 47 rfl (by kernel_rfl) ⟨S13.out.blk 5 rfl, S13.out.blk 4 rfl, S13.out.blk 1 rfl, S13.out.blk 2 rfl⟩ ?_
        refine c_value rfl (.bool true) (fun u hu => by go_simp) (fun _ _ _ h => h) (fun K hK => ?_)
        go_simp
        refine hK _ ?_
        clear hK K
        refine c_nil ?_
        refine tr_read 48 rfl (by kernel_rfl) ⟨S13.out.blk 5 rfl, S13.out.blk 4 rfl, S13.out.blk 1 rfl, S13.out.blk 2 rfl⟩ ?_
        refine c_value rfl (.bool true) (fun u hu => by go_simp) (fun _ _ _ h => h) (fun K hK => ?_)
        go_simp
        refine hK _ ?_
        clear hK K
        refine c_nil ?_
        refine tr_read 49 rfl (by kernel_rfl) ⟨S13.out.blk 5 rfl, S13.out.blk 4 rfl, S13.out.blk 1 rfl, S13.out.blk 2 rfl⟩ ?_
        refine cg_value (by rfl) (.pointer (some ⟨s, 0, none⟩)) (fun u hu => by go_simp) (fun _ _ _ h => h) (fun K hK => ?_)
        go_simp
        refine hK _ ?_
        clear hK K
        refine c_nil ?_
        refine tr_read 51 rfl (by kernel_rfl) ⟨S13.out.blk 5 rfl, S13.out.blk 4 rfl, S13.out.blk 1 rfl, S13.out.blk 2 rfl⟩ ?_
        refine cg_value (by rfl) (.int .i64 (j : Int)) (fun u hu => by go_simp) (fun _ _ _ h => h) (fun K hK => ?_)
        go_simp
        refine hK _ ?_
        clear hK K
        refine c_nil ?_
        refine tr_read 52 rfl (by kernel_rfl) ⟨S13.out.blk 5 rfl, S13.out.blk 4 rfl, S13.out.blk 1 rfl, S13.out.blk 2 rfl⟩ ?_
        refine cg_value (by rfl) (.int .i64 (k : Int)) (fun u hu => by go_simp) (fun _ _ _ h => h) (fun K hK => ?_)
        go_simp
        refine hK _ ?_
        clear hK K
        refine c_nil ?_
        refine tr_read 53 rfl (by kernel_rfl) ⟨S13.out.blk 5 rfl, S13.out.blk 4 rfl, S13.out.blk 1 rfl, S13.out.blk 2 rfl⟩ ?_
        refine cg_value (by rfl) (.int .i64 ((wl + 1 : Nat) : Int)) (fun u hu => by go_simp; exact HMN.out) (fun _ _ _ h => h) (fun K hK => ?_)
        go_simp
        refine hK _ ?_
        clear hK K
        refine c_nil ?_
        refine tr_read 54 rfl (by kernel_rfl) ⟨S13.out.blk 5 rfl, S13.out.blk 4 rfl, S13.out.blk 1 rfl, S13.out.blk 2 rfl⟩ ?_
        refine cg_value (by rfl) (.int .i64 (wl : Int)) (fun u hu => by go_simp) (fun _ _ _ h => h) (fun K hK => ?_)
        go_simp
        refine hK _ ?_
        clear hK K
        refine c_nil ?_
        refine tr_one 50 rfl (by kernel_rfl) ?_
        go_wp2_with (first | (go_at_call 26; refine Calls.mono (CWA.out _ (shard_sh S13.out 7 rfl)) ?_; rintro e k14 ⟨rfl, hb⟩))
        have S14 := Lib.hid (S13.out.below hb)
        clear hb S13
        refine And.intro (fun _ => ⟨S14.out.blk 5 rfl, S14.out.blk 4 rfl, S14.out.blk 1 rfl, S14.out.blk 2 rfl⟩) ?_
        refine tr_read 55 rfl (by kernel_rfl) ⟨S14.out.blk 5 rfl, S14.out.blk 4 rfl, S14.out.blk 1 rfl, S14.out.blk 2 rfl⟩ ?_
        refine cg_value (by rfl) (.bool true) (fun u hu => by go_simp) (fun _ _ _ h => h) (fun K hK => ?_)
        go_simp
        refine hK _ ?_
        clear hK K
        refine c_nil ?_
        refine tr_read 56 rfl (by kernel_rfl) ⟨S14.out.blk 5 rfl, S14.out.blk 4 rfl, S14.out.blk 1 rfl, S14.out.blk 2 rfl⟩ ?_
        refine c_value rfl (.bool true) (fun u hu => by go_simp) (fun _ _ _ h => h) (fun K hK => ?_)
        go_simp
        refine hK _ ?_
        clear hK K
        refine c_nil ?_
        refine tr_read 57 rfl (by kernel_rfl) ⟨S14.out.blk 5 rfl, S14.out.blk 4 rfl, S14.out.blk 1 rfl, S14.out.blk 2 rfl⟩ ?_
        refine c_value rfl (.bool true) (fun u hu => by go_simp) (fun _ _ _ h => h) (fun K hK => ?_)
        go_simp
        refine hK _ ?_
        clear hK K
        refine c_nil ?_
        refine tr_read 58 rfl (by kernel_rfl) ⟨S14.out.blk 5 rfl, S14.out.blk 4 rfl, S14.out.blk 1 rfl, S14.out.blk 2 rfl⟩ ?_
        refine cg_value (by rfl) (.pointer (some ⟨s, 0, none⟩)) (fun u hu => by go_simp) (fun _ _ _ h => h) (fun K hK => ?_)
        go_simp
        refine hK _ ?_
        clear hK K
        refine c_nil ?_
        refine tr_read 60 rfl (by kernel_rfl) ⟨S14.out.blk 5 rfl, S14.out.blk 4 rfl, S14.out.blk 1 rfl, S14.out.blk 2 rfl⟩ ?_
        refine cg_value (by rfl) (.pointer (some ⟨bt, 5, none⟩)) (fun u hu => by go_simp) (fun _ _ _ h => h) (fun K hK => ?_)
        go_simp
        refine hK _ ?_
        clear hK K
        refine c_nil ?_
        refine tr_read 61 rfl (by kernel_rfl) ⟨S14.out.blk 5 rfl, S14.out.blk 4 rfl, S14.out.blk 1 rfl, S14.out.blk 2 rfl⟩ ?_
        refine cg_value (by rfl) (.slice (some ⟨g, off, none⟩) tm tc) (fun u hu => by have hc := (hu.1).cell 5 _ rfl; go_simp) (fun _ _ _ h => h) (fun K hK => ?_)
        go_simp
        refine hK _ ?_
        clear hK K
        refine c_nil ?_
        refine tr_read 62 rfl (by kernel_rfl) ⟨S14.out.blk 5 rfl, S14.out.blk 4 rfl, S14.out.blk 1 rfl, S14.out.blk 2 rfl⟩ ?_
        refine cg_value (by rfl) (.int .i64 (tm : Int)) (fun u hu => by go_simp) (fun _ _ _ h => h) (fun K hK => ?_)
        go_simp
        refine hK _ ?_
        clear hK K
        refine c_nil ?_
        refine tr_one 59 rfl (by kernel_rfl) ?_
        go_wp2_with (first | (go_at_call 29; refine Calls.mono (CVE.out _ (shard_sh S14.out 7 rfl) (shard_lt S14.out 7 rfl)) ?_; rintro e k15 ⟨rfl, hb⟩))
        have S15 := Lib.hid (S14.out.below hb)
        clear hb S14
        refine And.intro (fun _ => ⟨S15.out.blk 5 rfl, S15.out.blk 4 rfl, S15.out.blk 1 rfl, S15.out.blk 2 rfl⟩) ?_
        refine tr_read 63 rfl (by kernel_rfl) ⟨S15.out.blk 5 rfl, S15.out.blk 4 rfl, S15.out.blk 1 rfl, S15.out.blk 2 rfl⟩ ?_
        refine cg_value (by rfl) (.bool true) (fun u hu => by go_simp) (fun _ _ _ h => h) (fun K hK => ?_)
        go_simp
        refine hK _ ?_
        clear hK K
        refine c_nil ?_
        refine tr_read 64 rfl (by kernel_rfl) ⟨S15.out.blk 5 rfl, S15.out.blk 4 rfl, S15.out.blk 1 rfl, S15.out.blk 2 rfl⟩ ?_
        refine c_value rfl (.bool true) (fun u hu => by go_simp) (fun _ _ _ h => h) (fun K hK => ?_)
        go_simp
        refine hK _ ?_
        clear hK K
        refine c_nil ?_
        refine tr_one 65 rfl (by kernel_rfl) ?_
        go_wp2_with fail
        refine And.intro (fun _ => ⟨S15.out.blk 5 rfl, S15.out.blk 4 rfl, S15.out.blk 1 rfl, S15.out.blk 2 rfl⟩) ?_
        refine tr_end (by kernel_rfl) ?_
        have HU := Lib.hid S15.out.under
        go_wp2_with fail
        go_ret
        exact ⟨rfl, HU.out⟩

set_option maxRecDepth 100000 in
theorem lifted (os : Os) (started : os.Started) (H : Type) (enc : TypeId × Value → H) :
    ReturnsInHanded {} Try.checked os 4 .any (Rows.shardWaitsSpec.pre6 enc Try.prog Try.f4 Rows.shardWaitsRow.domain false) (Rows.shardWaitsSpec.post enc Try.prog Try.f4 false true false false) := by
  refine returnsInHanded_of_change_sized (C := Try.checked) own started (by kernel_rfl) Try.func4
    (ChangeSpec.witness6 (enc := enc) (C := Try.checked) false ⟨#[], #[.int .u8 0, .agg #[.int .u64 0, .int .u64 0, .int .u64 0, .int .u64 0, .int .i64 0, .bool false, .slice none 0 0, .bool false], .int .u8 0], []⟩ 8 (by kernel_rfl) (by kernel_rfl) (by kernel_rfl) (by kernel_rfl)) ?_
  intro W base args ds gs before hval0 hW hcnd hsz0 _
  have hval : ∀ (j : Nat) t v, Try.f4.params[j]? = some t → args[j]? = some v → Value.okWide Try.prog W .any base t v := hval0
  have hW' := hW
  obtain ⟨p, q, hA0, hV, rfl, hfz, hnd⟩ := hW
  have hA : DataW.TrodAll enc Try.prog W 0 (fun _ => true) true Try.f4.params.toList args.toList ds p := hA0
  have hsz : (DataW.weightsEach Try.prog (Try.f4.params.toList ++ Rows.shardWaitsSpec.plain.varTypes Try.prog) (ds ++ gs)).all (· ≤ reachBytes) = true := hsz0
  rw [Try.params4] at hA hval hsz
  obtain ⟨rfl, rfl⟩ := trodVars_none hV
  have hAk := hA
  have hlt : ∀ x ∈ p, x.block < W.heap.size := fun x hx => by simpa using hW'.lt x (List.mem_append.2 (.inl hx))
  obtain ⟨v0, vs0, d0, ds0, p0, q0, hargs, rfl, rfl, h0, r0⟩ := trodAll_cons hA
  obtain ⟨v1, vs1, d1, ds1, p1, q1, rfl, rfl, rfl, h1, r1⟩ := trodAll_cons r0
  obtain ⟨v2, vs2, d2, ds2, p2, q2, rfl, rfl, rfl, h2, r2⟩ := trodAll_cons r1
  obtain ⟨rfl, rfl, rfl⟩ := trodAll_nil r2
  obtain rfl : args = #[v0, v1, v2] := by cases args; simp_all
  obtain ⟨a0, rfl, rfl, rfl, w0⟩ := open_int Try.underlying5 (hval 0 5 v0 rfl rfl) h0
  obtain ⟨al1, dd1, mo1, sv1, PL1, ow1, rfl, k1, kd1, ki1, kp1⟩ := open_deal (hval 1 40 v1 rfl rfl) h1 (Sz.arg hsz (j := 1) rfl rfl)
  obtain ⟨a2, rfl, rfl, rfl, w2⟩ := open_int Try.underlying5 (hval 2 5 v2 rfl rfl) h2
  clear hA0 hval0 hsz0
  refine (walk a0 al1 dd1 mo1 sv1 PL1 ow1 a2 w0 k1 kd1 kp1 w2 W ki1).mono fun e W' ⟨he, hg⟩ => ?_
  subst he
  exact ⟨_, rfl, _, _, _, [], _, [], hW', (trodAll_cons_mk (shut_bool Try.underlying4 _) trodAll_mk0), trodAll_below laidOut hg _ _ _ _ (by kernel_rfl) hAk hlt, rfl, hg.frame _, fun h => by cases h⟩

theorem over : Rows.shardWaitsRow.holds Try.pinned (OpenSpec.ofChange Rows.shardWaitsSpec) :=
  OpenClaim.holds_of_wide 4 Try.f4 rfl rfl rfl rfl rfl rfl rfl ⟨rfl, rfl, rfl, rfl, rfl⟩ rfl rfl rfl rfl rfl (by kernel_rfl) Try.func4 (by kernel_rfl)
    (of_decide_eq_true (by kernel_rfl)) (by unfold Func.isWrapper; first | (rw [if_pos (by decide +kernel)]; kernel_rfl) | (rw [if_neg (by decide +kernel)]; exact ⟨rfl, rfl⟩))
    (fun os started H enc _ => lifted os started H enc)

/-- the statement -/
theorem proved : Rows.ShardWaitsSaid :=
  over
#print axioms proved

end Go.Proofs.Ytdoodjeffjjlgaa.shardWaits
