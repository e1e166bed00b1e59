/-
  How far all was applied only rises, of each datacenter to the greatest number that was applied (the law ShardApplied). No conditions.
-/
import Derived.Test.YtdoodjeffjjlgaaFrame

import Derived.Test.YtdoodjeffjjlgaaShardDeal

import Derived.Test.YtdoodjeffjjlgaaRegionPick

namespace Go.Proofs.Ytdoodjeffjjlgaa.shardApplied

open Go.ChangeShapes Go.WideShapes Go.ChangeAt Go.RowKit

open Go.ChangeMaps (open_string shut_string)

open Go.Proofs.Ytdoodjeffjjlgaa.Vc Go.Proofs.Ytdoodjeffjjlgaa.Sp Go.Proofs.Ytdoodjeffjjlgaa.Rw Go.Proofs.Ytdoodjeffjjlgaa.Ch Go.Proofs.Ytdoodjeffjjlgaa.Se Go.Proofs.Ytdoodjeffjjlgaa.It Go.Proofs.Ytdoodjeffjjlgaa.Mk Go.Proofs.Ytdoodjeffjjlgaa.Sd

set_option linter.unusedVariables false

set_option linter.unusedSimpArgs false

abbrev ga (lb ch mb : Nat) (W : List Bt) (E : List En) (A : List Nat) : Gm := ⟨lb, ch, mb, 16, W, E, A⟩
set_option maxHeartbeats 32000000 in
set_option maxRecDepth 100000 in
theorem walk (dv0 : Value) (DL0 : List Dl) (w : World) (w0 : IsDs w dv0 DL0) (m0 : ∀ x ∈ DL0, DlOk w x) :
    Calls Try.prog 7 #[dv0] w fun e w' => e = .returned (.bool true) ∧ Below w.heap.size w w' := by
  have HDS : Hid (IsDs w dv0 DL0) := w0
  have HMO : Hid (∀ x ∈ DL0, DlOk w x) := m0
  obtain ⟨sa, cap, rfl, _, _, _⟩ := w0
  obtain ⟨n, HN⟩ : ∃ n, Hid (DL0.length = n) := ⟨_, rfl⟩
  rw [HN.out] at HDS ⊢
  clear m0
  have CN : Hid (∀ u, Calls Try.prog 9 #[.int .i64 16] u fun e w' => ∃ s lb ch mb, e = .returned (.tuple #[.pointer (some ⟨s, 0, none⟩), .int .i64 0]) ∧ Sh w' s (ga lb ch mb [] [] V.zeros) ∧ Below u.heap.size u w' ∧ ∀ k ∈ (ga lb ch mb [] [] V.zeros).bl s, u.heap.size ≤ k ∧ k < w'.heap.size) := fun u => new_ok 16 (by decide) (by decide) u
  go_enter Try.func7, Try.ntmps7
  go_wp2_with fail
  refine (examples_any _).mono ?_; rintro e w1 ⟨rfl, hb1⟩
  have HB1 : Hid (Below w.heap.size w w1) := hb1
  clear hb1
  go_wp2_with fail
  refine (CN.out _).mono ?_; rintro e w2 ⟨s, lb, ch, mb, rfl, hs, hb, hn⟩
  have S2 : Hid (Sep w w2 [rS s (ga lb ch mb [] [] V.zeros)]) := (shard_new (Sep.start w1) hb hs hn).elder HB1.out
  clear hs hb hn HB1 CN
  go_wp2_with (first | refine blk_alloc rfl 33 [Value.int .u64 0, .int .u64 0, .int .u64 0, .int .u64 0] rfl Try.info_vz ?_)
  intro w3 A B Z
  obtain ⟨bw, HBW⟩ : ∃ b, Hid (w2.heap.size = b) := ⟨_, rfl⟩
  go_wp2_with (first | refine blk_store rfl 33 _ _ rfl w2.heap.size rfl [Value.int .u64 0, .int .u64 0, .int .u64 0, .int .u64 0] rfl _ A rfl Try.size_v rfl ?_)
  intro w4 A9 U9
  have S4 : Hid (Sep w w4 [rB bw [Value.int .u64 0, .int .u64 0, .int .u64 0, .int .u64 0], rS s (ga lb ch mb [] [] [0, 0, 0, 0])]) := by
    show Sep _ _ _
    rw [← HBW.out]
    exact Sep.fresh S2.out B Z U9 A9
  rw [HBW.out]
  clear A B Z A9 U9 HBW S2
  go_wp2_with fail
  go_loopw [7] (fun i wr => ∃ (j : Nat) (E : List En) (q0 q1 q2 q3 : Nat), j ≤ n ∧ j ≤ 12 ∧ i = .int .i64 (j : Int) ∧ Hid (lim (vis E) (8 * j)) ∧ Hid (Sep w wr [rB bw [Value.int .u64 (q0 : Int), .int .u64 (q1 : Int), .int .u64 (q2 : Int), .int .u64 (q3 : Int)], rS s (ga lb ch mb [] E [q0, q1, q2, q3])])) (fun i _ => 12 - (intOf i).toNat)
  case atStart => exact ⟨0, [], 0, 0, 0, 0, by omega, by omega, rfl, (fun x hx => by cases hx), S4⟩
  case round =>
    obtain ⟨j, E, q0, q1, q2, q3, hjn, hj12, rfl, HLM, Sr⟩ := hrel
    clear S4
    by_cases hlt : j < n
    · have i1 : (j : Int) < (n : Int) := by omega
      by_cases hl2 : j < 12
      · have i2 : (j : Int) < 12 := by omega
        obtain ⟨g, off, cap', hv, hg0, x, hx, hrow⟩ := IsDs.at HDS.out j (by rw [HN.out]; exact hlt)
        obtain rfl : sa = some ⟨g, off, none⟩ := by injection hv
        have hok := HMO.out x (List.mem_of_getElem? hx)
        have CD := Lib.hid (fun u (hu : Below w.heap.size w u) => deal_whole hok u hu)
        have HR := Lib.hid (dlS_right hok)
        have HA := Lib.hid (dlW_all hok)
        have HL := Lib.hid (dlW_len hok)
        have hs4 := (dlS_ok hok).len
        have hl4 := hok.v.len
        obtain ⟨pa, pc, ev⟩ := hok.puts.nilOrSome
        obtain ⟨⟨a, d⟩, HS⟩ : ∃ z : C.St, Hid (dlS x = z) := ⟨_, rfl⟩
        obtain ⟨MM, HM⟩ : ∃ z, Hid (dlW x = z) := ⟨_, rfl⟩
        rw [HS.out, HM.out] at CD
        rw [HS.out] at HR hs4
        rw [HM.out] at HA HL
        clear HS HM hok hx hv
        obtain ⟨xl, dd, mo, sv, PL, ow⟩ := x
        dsimp only at hl4 hs4 CD HR ev
        subst ev
        obtain ⟨pm, HPL⟩ : ∃ z, Hid (PL.length = z) := ⟨_, rfl⟩
        rw [HPL.out] at hrow CD
        obtain ⟨l0, l1, l2, l3, rfl⟩ := V.four hl4
        obtain ⟨a0, a1, a2, a3, rfl⟩ := V.four hs4
        clear hl4 hs4
        have HROW : Hid (wr.rangeAt g (off + 8 * j) [Value.int .u64 (l0 : Int), .int .u64 (l1 : Int), .int .u64 (l2 : Int), .int .u64 (l3 : Int), .int .i64 dd, .bool mo, .slice pa pm pc, .bool ow]) := fun k u hu => by rw [Sr.out.under.cell (p := ⟨g, off + 8 * j + k, none⟩) hg0]; exact hrow k u hu
        have hix : ∀ w, (Instr.indexAt 85 (.slice (some ⟨g, off, none⟩) n cap) (.int .i64 (j : Int))).run Try.prog w = .ok (.pointer (some ⟨g, off + 8 * j, none⟩)) w := fun w => index_dl g off n cap j hlt w
        clear hrow hg0
        go_wp2_with (first | refine wpList_load_mid rfl 40 _ rfl g (off + 8 * j) rfl [Value.int .u64 (l0 : Int), .int .u64 (l1 : Int), .int .u64 (l2 : Int), .int .u64 (l3 : Int), .int .i64 dd, .bool mo, .slice pa pm pc, .bool ow] _ HROW.out Try.underlying40 rfl Try.size_dl ?_ | refine blk_alloc rfl 40 [Value.int .u64 0, .int .u64 0, .int .u64 0, .int .u64 0, .int .i64 0, .bool false, .slice none 0 0, .bool false] rfl Try.info_dl ?_)
        intro w3 A B Z
        obtain ⟨bx, HBX⟩ : ∃ b, Hid (wr.heap.size = b) := ⟨_, rfl⟩
        go_wp2_with (first | refine blk_store rfl 40 _ _ rfl wr.heap.size rfl [Value.int .u64 (l0 : Int), .int .u64 (l1 : Int), .int .u64 (l2 : Int), .int .u64 (l3 : Int), .int .i64 dd, .bool mo, .slice pa pm pc, .bool ow] rfl _ A rfl Try.size_dl rfl ?_)
        intro w4 A9 U9
        have S4 : Hid (Sep w w4 [rB bx [Value.int .u64 (l0 : Int), .int .u64 (l1 : Int), .int .u64 (l2 : Int), .int .u64 (l3 : Int), .int .i64 dd, .bool mo, .slice pa pm pc, .bool ow], rB bw [Value.int .u64 (q0 : Int), .int .u64 (q1 : Int), .int .u64 (q2 : Int), .int .u64 (q3 : Int)], rS s (ga lb ch mb [] E [q0, q1, q2, q3])]) := by
          show Sep _ _ _
          rw [← HBX.out]
          exact Sep.fresh Sr.out B Z U9 A9
        rw [HBX.out]
        clear A B Z A9 U9 HBX Sr HROW hix
        have q7 := (S4.out.blk 0 rfl).cell 7 (.bool ow) rfl
        have f7 := (S4.out.blk 0 rfl).free 7 (by simp)
        have S5 : Hid (Sep w (w4.setCell ⟨bx, 7, none⟩ (.bool true)) [rB bx [Value.int .u64 (l0 : Int), .int .u64 (l1 : Int), .int .u64 (l2 : Int), .int .u64 (l3 : Int), .int .i64 dd, .bool mo, .slice pa pm pc, .bool true], rB bw [Value.int .u64 (q0 : Int), .int .u64 (q1 : Int), .int .u64 (q2 : Int), .int .u64 (q3 : Int)], rS s (ga lb ch mb [] E [q0, q1, q2, q3])]) := S4.out.upd 0 rfl (Upd.setCell _ _ _ _) (Blk.setc (S4.out.blk 0 rfl) 7 (by simp) (.bool true))
        go_wp2_with (first | refine blk_load rfl 40 _ rfl bx rfl [Value.int .u64 (l0 : Int), .int .u64 (l1 : Int), .int .u64 (l2 : Int), .int .u64 (l3 : Int), .int .i64 dd, .bool mo, .slice pa pm pc, .bool true] (S5.out.blk 0 rfl) _ Try.underlying40 rfl Try.size_dl ?_)
        generalize (w4.setCell ⟨bx, 7, none⟩ (.bool true)) = w5 at *
        clear S4 q7 f7
        refine (CD.out _ S5.out.under).mono ?_; rintro e w6 ⟨ta, tc, rfl, hw, hb⟩
        have S6 := Lib.hid (S5.out.below hb)
        obtain ⟨tm, HTM⟩ : ∃ m, Hid (MM.length = m) := ⟨_, rfl⟩
        rw [HTM.out] at hw HL ⊢
        have HW6 := Lib.hid hw
        clear hw hb S5 CD
        go_wp2_with (first | refine blk_alloc rfl 51 [Value.int .u64 0, .int .u64 0, .int .u64 0, .int .u64 0, .int .i64 0, .slice none 0 0] rfl Try.info_tz ?_)
        intro w7 A B Z
        obtain ⟨bt, HBT⟩ : ∃ b, Hid (w6.heap.size = b) := ⟨_, rfl⟩
        go_wp2_with (first | refine blk_store rfl 51 _ _ rfl w6.heap.size rfl [Value.int .u64 (a0 : Int), .int .u64 (a1 : Int), .int .u64 (a2 : Int), .int .u64 (a3 : Int), .int .i64 d, .slice ta tm tc] rfl _ A rfl It.Try.size_itx rfl ?_)
        intro w8 A9 U9
        have HW8 : Hid (IsWs w8 (.slice ta tm tc) MM) := HW6.out.below (B.trans (U9.below (Nat.le_refl _)))
        have S8 : Hid (Sep w w8 [rB bt [Value.int .u64 (a0 : Int), .int .u64 (a1 : Int), .int .u64 (a2 : Int), .int .u64 (a3 : Int), .int .i64 d, .slice ta tm tc], rB bx [Value.int .u64 (l0 : Int), .int .u64 (l1 : Int), .int .u64 (l2 : Int), .int .u64 (l3 : Int), .int .i64 dd, .bool mo, .slice pa pm pc, .bool true], rB bw [Value.int .u64 (q0 : Int), .int .u64 (q1 : Int), .int .u64 (q2 : Int), .int .u64 (q3 : Int)], rS s (ga lb ch mb [] E [q0, q1, q2, q3])]) := by
          show Sep _ _ _
          rw [← HBT.out]
          exact Sep.fresh S6.out B Z U9 A9
        rw [HBT.out]
        clear A B Z A9 U9 HBT S6 HW6
        go_wp2_with fail
        have Sd := Lib.hid (S8.out.below (Below.drew (Below.refl _ _)))
        have HWd := Lib.hid (HW8.out.below (Below.drew (Below.refl _ _)))
        clear S8 HW8
        refine region_tree (fun u => Blk u bt [Value.int .u64 (a0 : Int), .int .u64 (a1 : Int), .int .u64 (a2 : Int), .int .u64 (a3 : Int), .int .i64 d, .slice ta tm tc] ∧ Blk u bw [Value.int .u64 (q0 : Int), .int .u64 (q1 : Int), .int .u64 (q2 : Int), .int .u64 (q3 : Int)]) 18 Try.mixed ?_
        refine tr_read 0 rfl (by kernel_rfl) ⟨Sd.out.blk 0 rfl, Sd.out.blk 2 rfl⟩ ?_
        refine c_value rfl (.pointer (some ⟨s, 0, none⟩)) (fun u hu => by go_simp) (fun _ _ _ h => h) (fun K hK => ?_)
        go_simp
        refine hK _ ?_
        clear hK K
        refine c_nil ?_
        refine tr_read 1 rfl (by kernel_rfl) ⟨Sd.out.blk 0 rfl, Sd.out.blk 2 rfl⟩ ?_
        refine c_value rfl (.pointer (some ⟨bt, 0, none⟩)) (fun u hu => by go_simp) (fun _ _ _ h => h) (fun K hK => ?_)
        go_simp
        refine hK _ ?_
        clear hK K
        refine c_nil ?_
        refine tr_read 2 rfl (by kernel_rfl) ⟨Sd.out.blk 0 rfl, Sd.out.blk 2 rfl⟩ ?_
        refine ct_mid_load rfl 35 _ rfl bt 0 rfl [Value.int .u64 (a0 : Int), .int .u64 (a1 : Int), .int .u64 (a2 : Int), .int .u64 (a3 : Int), .int .i64 d] (fun u hu => preb (vs := [.slice ta tm tc]) hu.1) _ Try.underlying35 rfl Try.size_s (fun _ _ _ h => h) (fun K hK => ?_)
        go_simp
        refine hK _ ?_
        clear hK K
        refine c_nil ?_
        refine tr_read 3 rfl (by kernel_rfl) ⟨Sd.out.blk 0 rfl, Sd.out.blk 2 rfl⟩ ?_
        refine c_value rfl (.pointer (some ⟨bt, 5, none⟩)) (fun u hu => by go_simp) (fun _ _ _ h => h) (fun K hK => ?_)
        go_simp
        refine hK _ ?_
        clear hK K
        refine c_nil ?_
        refine tr_read 4 rfl (by kernel_rfl) ⟨Sd.out.blk 0 rfl, Sd.out.blk 2 rfl⟩ ?_
        refine c_value rfl (.slice ta tm tc) (fun u hu => by have hc := hu.1.cell 5 _ rfl; go_simp) (fun _ _ _ h => h) (fun K hK => ?_)
        go_simp
        refine hK _ ?_
        clear hK K
        refine c_nil ?_
        refine tr_one 5 rfl (by kernel_rfl) ?_
        go_wp2_with (first | (go_at_call 18; refine Calls.mono (push_ok s (ga lb ch mb [] E [q0, q1, q2, q3]) ([a0, a1, a2, a3], d) (.slice ta tm tc) MM _ (shard_sh Sd.out 3 rfl) (shard_lt Sd.out 3 rfl) rfl HWd.out HR.out HA.out (by have := HL.out; have := HTM.out; omega) (by show 0 < 16; decide)) ?_; rintro e k1 ⟨rfl, tv, hs, ht, hb⟩))
        have Sq1 : Hid (Sep w k1 [rB bt [Value.int .u64 (a0 : Int), .int .u64 (a1 : Int), .int .u64 (a2 : Int), .int .u64 (a3 : Int), .int .i64 d, .slice ta tm tc], rB bx [Value.int .u64 (l0 : Int), .int .u64 (l1 : Int), .int .u64 (l2 : Int), .int .u64 (l3 : Int), .int .i64 dd, .bool mo, .slice pa pm pc, .bool true], rB bw [Value.int .u64 (q0 : Int), .int .u64 (q1 : Int), .int .u64 (q2 : Int), .int .u64 (q3 : Int)], rS s (ga lb ch mb [⟨([a0, a1, a2, a3], d), tv, MM⟩] E [q0, q1, q2, q3])]) := shard_turn Sd.out 3 rfl hs ht hb
        clear hs ht hb Sd HWd
        refine And.intro (fun _ => ⟨Sq1.out.blk 0 rfl, Sq1.out.blk 2 rfl⟩) ?_
        refine tr_read 6 rfl (by kernel_rfl) ⟨Sq1.out.blk 0 rfl, Sq1.out.blk 2 rfl⟩ ?_
        refine c_value rfl (.bool false) (fun u hu => by go_simp) (fun _ _ _ h => h) (fun K hK => ?_)
        go_simp
        refine hK _ ?_
        clear hK K
        refine c_nil ?_
        refine tr_read 7 rfl (by kernel_rfl) ⟨Sq1.out.blk 0 rfl, Sq1.out.blk 2 rfl⟩ ?_
        refine c_value rfl (.bool false) (fun u hu => by go_simp) (fun _ _ _ h => h) (fun K hK => ?_)
        go_simp
        refine hK _ ?_
        clear hK K
        refine c_nil ?_
        refine tr_read 8 rfl (by kernel_rfl) ⟨Sq1.out.blk 0 rfl, Sq1.out.blk 2 rfl⟩ ?_
        refine cg_value (by rfl) (.pointer (some ⟨s, 0, none⟩)) (fun u hu => by go_simp) (fun _ _ _ h => h) (fun K hK => ?_)
        go_simp
        refine hK _ ?_
        clear hK K
        refine c_nil ?_
        refine tr_read 10 rfl (by kernel_rfl) ⟨Sq1.out.blk 0 rfl, Sq1.out.blk 2 rfl⟩ ?_
        refine cg_mid_load (by rfl) 33 _ rfl bw 0 rfl [Value.int .u64 (q0 : Int), .int .u64 (q1 : Int), .int .u64 (q2 : Int), .int .u64 (q3 : Int)] (fun u hu => preb (vs := []) hu.2) _ Try.underlying33 rfl Try.size_v (fun _ _ _ h => h) (fun K hK => ?_)
        go_simp
        refine hK _ ?_
        clear hK K
        refine c_nil ?_
        refine tr_one 9 rfl (by kernel_rfl) ?_
        go_wp2_with (first | (go_at_call 28; refine Calls.mono (applied_any s (ga lb ch mb [⟨([a0, a1, a2, a3], d), tv, MM⟩] E [q0, q1, q2, q3]) _ (shard_sh Sq1.out 3 rfl) (shard_lt Sq1.out 3 rfl)) ?_; rintro e k2 ⟨rfl, hb⟩))
        have Sq2 := Lib.hid (Sq1.out.below hb)
        clear hb Sq1
        refine And.intro (fun _ => ⟨Sq2.out.blk 0 rfl, Sq2.out.blk 2 rfl⟩) ?_
        refine tr_read 11 rfl (by kernel_rfl) ⟨Sq2.out.blk 0 rfl, Sq2.out.blk 2 rfl⟩ ?_
        refine cg_value (by rfl) (.bool false) (fun u hu => run_eql u .neq 33 33 _ _ (AV .u64 [q0, q1, q2, q3]) (AV .u64 [q0, q1, q2, q3]) _ rfl rfl rfl (guard_nv _ _ _ _ u) (by have h := neq_v [q0, q1, q2, q3] [q0, q1, q2, q3] rfl rfl u; rw [decide_eq_true rfl] at h; exact h)) (fun _ _ _ h => h) (fun K hK => ?_)
        go_simp
        refine hK _ ?_
        clear hK K
        refine c_nil ?_
        refine tr_read 12 rfl (by kernel_rfl) ⟨Sq2.out.blk 0 rfl, Sq2.out.blk 2 rfl⟩ ?_
        refine c_value rfl (.bool false) (fun u hu => by go_simp) (fun _ _ _ h => h) (fun K hK => ?_)
        go_simp
        refine hK _ ?_
        clear hK K
        refine c_nil ?_
        refine tr_read 13 rfl (by kernel_rfl) ⟨Sq2.out.blk 0 rfl, Sq2.out.blk 2 rfl⟩ ?_
        refine c_value rfl (.bool false) (fun u hu => by go_simp) (fun _ _ _ h => h) (fun K hK => ?_)
        go_simp
        refine hK _ ?_
        clear hK K
        refine c_nil ?_
        refine tr_read 14 rfl (by kernel_rfl) ⟨Sq2.out.blk 0 rfl, Sq2.out.blk 2 rfl⟩ ?_
        refine cg_value (by rfl) (.pointer (some ⟨s, 0, none⟩)) (fun u hu => by go_simp) (fun _ _ _ h => h) (fun K hK => ?_)
        go_simp
        refine hK _ ?_
        clear hK K
        refine c_nil ?_
        have HCT := Lib.hid (step_one s (ga lb ch mb [⟨([a0, a1, a2, a3], d), tv, MM⟩] E [q0, q1, q2, q3]) ⟨([a0, a1, a2, a3], d), tv, MM⟩ [] _ (shard_sh Sq2.out 3 rfl) (shard_lt Sq2.out 3 rfl) rfl (8 * j) HLM.out (by have := HL.out; have := HTM.out; show 8 * j + MM.length < 1000; omega))
        obtain ⟨z0, z1, z2, z3, HZ⟩ : ∃ z0 z1 z2 z3, Hid ((V.with_ [q0, q1, q2, q3] d (max (V.at_ [q0, q1, q2, q3] d) (V.at_ [a0, a1, a2, a3] d))) = [z0, z1, z2, z3]) := V.four (with_len _ _ _ rfl)
        rw [HZ.out] at HCT
        refine tr_one 15 rfl (by kernel_rfl) ?_
        go_wp2_with (first | (go_at_call 14; refine Calls.mono HCT.out ?_; rintro e k3 ⟨rfl, E2, hs, hv, ht, hb⟩))
        have Sq3 : Hid (Sep w k3 [rB bt [Value.int .u64 (a0 : Int), .int .u64 (a1 : Int), .int .u64 (a2 : Int), .int .u64 (a3 : Int), .int .i64 d, .slice ta tm tc], rB bx [Value.int .u64 (l0 : Int), .int .u64 (l1 : Int), .int .u64 (l2 : Int), .int .u64 (l3 : Int), .int .i64 dd, .bool mo, .slice pa pm pc, .bool true], rB bw [Value.int .u64 (q0 : Int), .int .u64 (q1 : Int), .int .u64 (q2 : Int), .int .u64 (q3 : Int)], rS s (ga lb ch mb [] E2 [z0, z1, z2, z3])]) := shard_turn Sq2.out 3 rfl hs ht hb
        have HLM2 : Hid (lim (vis E2) (8 * (j + 1))) := by
          show lim _ _
          rw [show vis E2 = upsL (vis E) ([a0, a1, a2, a3], d) MM from hv]
          exact lim_after HLM.out _ _ (by have := HL.out; have := HTM.out; omega)
        clear hs hv ht hb Sq2 HCT HLM HR HA HL
        refine And.intro (fun _ => ⟨Sq3.out.blk 0 rfl, Sq3.out.blk 2 rfl⟩) ?_
        refine tr_read 16 rfl (by kernel_rfl) ⟨Sq3.out.blk 0 rfl, Sq3.out.blk 2 rfl⟩ ?_
        refine cg_value (by rfl) (.bool false) (fun u hu => by go_simp) (fun _ _ _ h => h) (fun K hK => ?_)
        go_simp
        refine hK _ ?_
        clear hK K
        refine c_nil ?_
        refine tr_read 17 rfl (by kernel_rfl) ⟨Sq3.out.blk 0 rfl, Sq3.out.blk 2 rfl⟩ ?_
        refine c_value rfl (.bool false) (fun u hu => by go_simp) (fun _ _ _ h => h) (fun K hK => ?_)
        go_simp
        refine hK _ ?_
        clear hK K
        refine c_nil ?_
        refine tr_end (by kernel_rfl) ?_
        go_wp2_with fail
        have Sd := Lib.hid (Sq3.out.below (Below.drew (Below.refl _ _)))
        clear Sq3
        have HAT := Lib.hid (fun u => at_any [q0, q1, q2, q3] d u rfl)
        have HSN := Lib.hid (fun u => sn_any [a0, a1, a2, a3] d u rfl)
        obtain ⟨pA, HPA⟩ : ∃ z, Hid (V.at_ [q0, q1, q2, q3] d = z) := ⟨_, rfl⟩
        obtain ⟨pN, HPN⟩ : ∃ z, Hid (V.at_ [a0, a1, a2, a3] d = z) := ⟨_, rfl⟩
        obtain ⟨pM, HPM⟩ : ∃ z, Hid (max pA pN = z) := ⟨_, rfl⟩
        rw [HPA.out, HPN.out, HPM.out] at HZ
        rw [HPA.out] at HAT
        rw [HPN.out] at HSN
        have HWT := Lib.hid (fun u => with_any [q0, q1, q2, q3] d pM u rfl)
        rw [HZ.out] at HWT
        have HMX : Hid ((if pA < pN then (pN : Int) else (pA : Int)) = (pM : Int)) := by show _ = _; rw [← HPM.out]; split <;> omega
        clear HZ HPA HPN HPM
        refine region_tree (fun u => Blk u bt [Value.int .u64 (a0 : Int), .int .u64 (a1 : Int), .int .u64 (a2 : Int), .int .u64 (a3 : Int), .int .i64 d, .slice ta tm tc] ∧ Blk u bw [Value.int .u64 (q0 : Int), .int .u64 (q1 : Int), .int .u64 (q2 : Int), .int .u64 (q3 : Int)]) 14 Try.mixed ?_
        refine tr_read 0 rfl (by kernel_rfl) ⟨Sd.out.blk 0 rfl, Sd.out.blk 2 rfl⟩ ?_
        refine ct_mid_load rfl 33 _ rfl bw 0 rfl [Value.int .u64 (q0 : Int), .int .u64 (q1 : Int), .int .u64 (q2 : Int), .int .u64 (q3 : Int)] (fun u hu => preb (vs := []) hu.2) _ Try.underlying33 rfl Try.size_v (fun _ _ _ h => h) (fun K hK => ?_)
        go_simp
        refine hK _ ?_
        clear hK K
        refine c_nil ?_
        refine tr_read 1 rfl (by kernel_rfl) ⟨Sd.out.blk 0 rfl, Sd.out.blk 2 rfl⟩ ?_
        refine c_value rfl (.pointer (some ⟨bt, 0, none⟩)) (fun u hu => by go_simp) (fun _ _ _ h => h) (fun K hK => ?_)
        go_simp
        refine hK _ ?_
        clear hK K
        refine c_nil ?_
        refine tr_read 2 rfl (by kernel_rfl) ⟨Sd.out.blk 0 rfl, Sd.out.blk 2 rfl⟩ ?_
        refine c_value rfl (.pointer (some ⟨bt, 4, none⟩)) (fun u hu => by go_simp) (fun _ _ _ h => h) (fun K hK => ?_)
        go_simp
        refine hK _ ?_
        clear hK K
        refine c_nil ?_
        refine tr_read 3 rfl (by kernel_rfl) ⟨Sd.out.blk 0 rfl, Sd.out.blk 2 rfl⟩ ?_
        refine c_value rfl (.int .i64 d) (fun u hu => by have hc := hu.1.cell 4 _ rfl; go_simp) (fun _ _ _ h => h) (fun K hK => ?_)
        go_simp
        refine hK _ ?_
        clear hK K
        refine c_nil ?_
        refine tr_read 4 rfl (by kernel_rfl) ⟨Sd.out.blk 0 rfl, Sd.out.blk 2 rfl⟩ ?_
        refine ct_mid_load rfl 33 _ rfl bw 0 rfl [Value.int .u64 (q0 : Int), .int .u64 (q1 : Int), .int .u64 (q2 : Int), .int .u64 (q3 : Int)] (fun u hu => preb (vs := []) hu.2) _ Try.underlying33 rfl Try.size_v (fun _ _ _ h => h) (fun K hK => ?_)
        go_simp
        refine hK _ ?_
        clear hK K
        refine c_nil ?_
        refine tr_read 5 rfl (by kernel_rfl) ⟨Sd.out.blk 0 rfl, Sd.out.blk 2 rfl⟩ ?_
        refine c_value rfl (.pointer (some ⟨bt, 0, none⟩)) (fun u hu => by go_simp) (fun _ _ _ h => h) (fun K hK => ?_)
        go_simp
        refine hK _ ?_
        clear hK K
        refine c_nil ?_
        refine tr_read 6 rfl (by kernel_rfl) ⟨Sd.out.blk 0 rfl, Sd.out.blk 2 rfl⟩ ?_
        refine c_value rfl (.pointer (some ⟨bt, 4, none⟩)) (fun u hu => by go_simp) (fun _ _ _ h => h) (fun K hK => ?_)
        go_simp
        refine hK _ ?_
        clear hK K
        refine c_nil ?_
        refine tr_read 7 rfl (by kernel_rfl) ⟨Sd.out.blk 0 rfl, Sd.out.blk 2 rfl⟩ ?_
        refine c_value rfl (.int .i64 d) (fun u hu => by have hc := hu.1.cell 4 _ rfl; go_simp) (fun _ _ _ h => h) (fun K hK => ?_)
        go_simp
        refine hK _ ?_
        clear hK K
        refine c_nil ?_
        refine tr_read 9 rfl (by kernel_rfl) ⟨Sd.out.blk 0 rfl, Sd.out.blk 2 rfl⟩ ?_
        refine c_value rfl (.pointer (some ⟨bt, 0, none⟩)) (fun u hu => by go_simp) (fun _ _ _ h => h) (fun K hK => ?_)
        go_simp
        refine hK _ ?_
        clear hK K
        refine c_nil ?_
        refine tr_read 10 rfl (by kernel_rfl) ⟨Sd.out.blk 0 rfl, Sd.out.blk 2 rfl⟩ ?_
        refine ct_mid_load rfl 35 _ rfl bt 0 rfl [Value.int .u64 (a0 : Int), .int .u64 (a1 : Int), .int .u64 (a2 : Int), .int .u64 (a3 : Int), .int .i64 d] (fun u hu => preb (vs := [.slice ta tm tc]) hu.1) _ Try.underlying35 rfl Try.size_s (fun _ _ _ h => h) (fun K hK => ?_)
        go_simp
        refine hK _ ?_
        clear hK K
        refine c_nil ?_
        refine tr_one 8 rfl (by kernel_rfl) ?_
        go_wp2_with (first | (go_at_call 33; refine Calls.mono (HAT.out _) ?_; rintro e k4 ⟨rfl, hb⟩))
        have Sq4 := Lib.hid (Sd.out.below hb)
        clear hb Sd
        refine And.intro (fun _ => ⟨Sq4.out.blk 0 rfl, Sq4.out.blk 2 rfl⟩) ?_
        refine tr_one 11 rfl (by kernel_rfl) ?_
        go_wp2_with (first | (go_at_call 31; refine Calls.mono (HSN.out _) ?_; rintro e k5 ⟨rfl, hb⟩))
        have Sq5 := Lib.hid (Sq4.out.below hb)
        clear hb Sq4
        refine And.intro (fun _ => ⟨Sq5.out.blk 0 rfl, Sq5.out.blk 2 rfl⟩) ?_
        refine tr_read 12 rfl (by kernel_rfl) ⟨Sq5.out.blk 0 rfl, Sq5.out.blk 2 rfl⟩ ?_
        refine c_value rfl (.int .u64 (pM : Int)) (fun u hu => by go_simp; exact HMX.out) (fun _ _ _ h => h) (fun K hK => ?_)
        go_simp
        refine hK _ ?_
        clear hK K
        refine c_nil ?_
        refine tr_one 13 rfl (by kernel_rfl) ?_
        go_wp2_with (first | (go_at_call 30; refine Calls.mono (HWT.out _) ?_; rintro e k6 ⟨rfl, hb⟩))
        have Sq6 := Lib.hid (Sq5.out.below hb)
        clear hb Sq5
        refine And.intro (fun _ => ⟨Sq6.out.blk 0 rfl, Sq6.out.blk 2 rfl⟩) ?_
        refine tr_one 14 rfl (by kernel_rfl) ?_
        go_wp2_with (first | refine blk_store rfl 33 _ _ rfl bw rfl [Value.int .u64 (z0 : Int), .int .u64 (z1 : Int), .int .u64 (z2 : Int), .int .u64 (z3 : Int)] rfl _ (Sq6.out.blk 2 rfl) rfl Try.size_v rfl ?_)
        intro k7 A U
        have Sq7 : Hid (Sep w k7 [rB bt [Value.int .u64 (a0 : Int), .int .u64 (a1 : Int), .int .u64 (a2 : Int), .int .u64 (a3 : Int), .int .i64 d, .slice ta tm tc], rB bx [Value.int .u64 (l0 : Int), .int .u64 (l1 : Int), .int .u64 (l2 : Int), .int .u64 (l3 : Int), .int .i64 dd, .bool mo, .slice pa pm pc, .bool true], rB bw [Value.int .u64 (z0 : Int), .int .u64 (z1 : Int), .int .u64 (z2 : Int), .int .u64 (z3 : Int)], rS s (ga lb ch mb [] E2 [z0, z1, z2, z3])]) := Sq6.out.upd 2 rfl U A
        clear A U Sq6 HAT HSN HWT HMX
        refine And.intro (fun h9 => absurd h9 (by decide)) ?_
        refine tr_end (by kernel_rfl) ?_
        go_wp2_with fail
        have Sd := Lib.hid (Sq7.out.below (Below.drew (Below.refl _ _)))
        clear Sq7
        refine region_tree (fun u => Blk u bt [Value.int .u64 (a0 : Int), .int .u64 (a1 : Int), .int .u64 (a2 : Int), .int .u64 (a3 : Int), .int .i64 d, .slice ta tm tc] ∧ Blk u bw [Value.int .u64 (z0 : Int), .int .u64 (z1 : Int), .int .u64 (z2 : Int), .int .u64 (z3 : Int)]) 9 Try.mixed ?_
        refine tr_read 0 rfl (by kernel_rfl) ⟨Sd.out.blk 0 rfl, Sd.out.blk 2 rfl⟩ ?_
        refine c_value rfl (.pointer (some ⟨s, 0, none⟩)) (fun u hu => by go_simp) (fun _ _ _ h => h) (fun K hK => ?_)
        go_simp
        refine hK _ ?_
        clear hK K
        refine c_nil ?_
        refine tr_read 2 rfl (by kernel_rfl) ⟨Sd.out.blk 0 rfl, Sd.out.blk 2 rfl⟩ ?_
        refine ct_mid_load rfl 33 _ rfl bw 0 rfl [Value.int .u64 (z0 : Int), .int .u64 (z1 : Int), .int .u64 (z2 : Int), .int .u64 (z3 : Int)] (fun u hu => preb (vs := []) hu.2) _ Try.underlying33 rfl Try.size_v (fun _ _ _ h => h) (fun K hK => ?_)
        go_simp
        refine hK _ ?_
        clear hK K
        refine c_nil ?_
        refine tr_one 1 rfl (by kernel_rfl) ?_
        go_wp2_with (first | (go_at_call 28; refine Calls.mono (applied_any s (ga lb ch mb [] E2 [z0, z1, z2, z3]) _ (shard_sh Sd.out 3 rfl) (shard_lt Sd.out 3 rfl)) ?_; rintro e k8 ⟨rfl, hb⟩))
        have Sq8 := Lib.hid (Sd.out.below hb)
        clear hb Sd
        refine And.intro (fun _ => ⟨Sq8.out.blk 0 rfl, Sq8.out.blk 2 rfl⟩) ?_
        refine tr_read 3 rfl (by kernel_rfl) ⟨Sq8.out.blk 0 rfl, Sq8.out.blk 2 rfl⟩ ?_
        refine c_value rfl (.bool false) (fun u hu => run_eql u .neq 33 33 _ _ (AV .u64 [z0, z1, z2, z3]) (AV .u64 [z0, z1, z2, z3]) _ rfl rfl rfl (guard_nv _ _ _ _ u) (by have h := neq_v [z0, z1, z2, z3] [z0, z1, z2, z3] rfl rfl u; rw [decide_eq_true rfl] at h; exact h)) (fun _ _ _ h => h) (fun K hK => ?_)
        go_simp
        refine hK _ ?_
        clear hK K
        refine c_nil ?_
        refine tr_read 4 rfl (by kernel_rfl) ⟨Sq8.out.blk 0 rfl, Sq8.out.blk 2 rfl⟩ ?_
        refine c_value rfl (.bool false) (fun u hu => by go_simp) (fun _ _ _ h => h) (fun K hK => ?_)
        go_simp
        refine hK _ ?_
        clear hK K
        refine c_nil ?_
        refine tr_read 5 rfl (by kernel_rfl) ⟨Sq8.out.blk 0 rfl, Sq8.out.blk 2 rfl⟩ ?_
        refine cg_value (by rfl) (.pointer (some ⟨s, 0, none⟩)) (fun u hu => by go_simp) (fun _ _ _ h => h) (fun K hK => ?_)
        go_simp
        refine hK _ ?_
        clear hK K
        refine c_nil ?_
        refine tr_one 6 rfl (by kernel_rfl) ?_
        go_wp2_with (first | (go_at_call 26; refine Calls.mono (waiting_any s (ga lb ch mb [] E2 [z0, z1, z2, z3]) _ (shard_sh Sq8.out 3 rfl)) ?_; rintro e k9 ⟨rfl, ek⟩; subst ek))
        refine And.intro (fun _ => ⟨Sq8.out.blk 0 rfl, Sq8.out.blk 2 rfl⟩) ?_
        refine tr_read 7 rfl (by kernel_rfl) ⟨Sq8.out.blk 0 rfl, Sq8.out.blk 2 rfl⟩ ?_
        refine cg_value (by rfl) (.bool false) (fun u hu => by go_simp) (fun _ _ _ h => h) (fun K hK => ?_)
        go_simp
        refine hK _ ?_
        clear hK K
        refine c_nil ?_
        refine tr_read 8 rfl (by kernel_rfl) ⟨Sq8.out.blk 0 rfl, Sq8.out.blk 2 rfl⟩ ?_
        refine c_value rfl (.bool false) (fun u hu => by go_simp) (fun _ _ _ h => h) (fun K hK => ?_)
        go_simp
        refine hK _ ?_
        clear hK K
        refine c_nil ?_
        refine tr_end (by kernel_rfl) ?_
        have S9 : Hid (Sep w _ [rB bw [Value.int .u64 (z0 : Int), .int .u64 (z1 : Int), .int .u64 (z2 : Int), .int .u64 (z3 : Int)], rS s (ga lb ch mb [] E2 [z0, z1, z2, z3])]) := Sq8.out.tail.tail
        clear Sq8
        go_wp2_with fail
        go_roundw
        case rel => exact ⟨j + 1, E2, z0, z1, z2, z3, by omega, by omega, by go_num, HLM2, S9⟩
        case measure => simp [intOf]; omega
      · have i2 : ¬ (j : Int) < 12 := by omega
        have HX := Lib.hid (step_none s (ga lb ch mb [] E [q0, q1, q2, q3]) wr (shard_sh Sr.out 1 rfl) (shard_lt Sr.out 1 rfl) rfl)
        have HU := Lib.hid Sr.out.under
        go_wp2_with fail
        refine HX.out.mono ?_; rintro e k9 ⟨rfl, hb⟩
        have HU9 := Lib.hid (HU.out.trans (hb.mono HU.out.size))
        clear hb
        go_wp2_with fail
        go_ret
        exact ⟨rfl, HU9.out⟩
    · have i1 : ¬ (j : Int) < (n : Int) := by omega
      have HX := Lib.hid (step_none s (ga lb ch mb [] E [q0, q1, q2, q3]) wr (shard_sh Sr.out 1 rfl) (shard_lt Sr.out 1 rfl) rfl)
      have HU := Lib.hid Sr.out.under
      go_wp2_with fail
      refine HX.out.mono ?_; rintro e k9 ⟨rfl, hb⟩
      have HU9 := Lib.hid (HU.out.trans (hb.mono HU.out.size))
      clear hb
      go_wp2_with fail
      go_ret
      exact ⟨rfl, HU9.out⟩

set_option maxRecDepth 100000 in
theorem lifted (os : Os) (started : os.Started) (H : Type) (enc : TypeId × Value → H) :
    ReturnsInHanded {} Try.checked os 7 .any (Rows.shardAppliedSpec.pre6 enc Try.prog Try.f7 Rows.shardAppliedRow.domain false) (Rows.shardAppliedSpec.post enc Try.prog Try.f7 false true false false) := by
  refine returnsInHanded_of_change_sized (C := Try.checked) own started (by kernel_rfl) Try.func7
    (ChangeSpec.witness6 (enc := enc) (C := Try.checked) false ⟨#[], #[.slice none 0 0], []⟩ 8 (by kernel_rfl) (by kernel_rfl) (by kernel_rfl) (by kernel_rfl)) ?_
  intro W base args ds gs before hval0 hW hcnd hsz0 _
  have hval : ∀ (j : Nat) t v, Try.f7.params[j]? = some t → args[j]? = some v → Value.okWide Try.prog W .any base t v := hval0
  have hW' := hW
  obtain ⟨p, q, hA0, hV, rfl, hfz, hnd⟩ := hW
  have hA : DataW.TrodAll enc Try.prog W 0 (fun _ => true) true Try.f7.params.toList args.toList ds p := hA0
  have hsz : (DataW.weightsEach Try.prog (Try.f7.params.toList ++ Rows.shardAppliedSpec.plain.varTypes Try.prog) (ds ++ gs)).all (· ≤ reachBytes) = true := hsz0
  rw [Try.params7] at hA hval hsz
  obtain ⟨rfl, rfl⟩ := trodVars_none hV
  have hAk := hA
  have hlt : ∀ x ∈ p, x.block < W.heap.size := fun x hx => by simpa using hW'.lt x (List.mem_append.2 (.inl hx))
  obtain ⟨v0, vs0, d0, ds0, p0, q0, hargs, rfl, rfl, h0, r0⟩ := trodAll_cons hA
  obtain ⟨rfl, rfl, rfl⟩ := trodAll_nil r0
  obtain rfl : args = #[v0] := by cases args; simp_all
  obtain ⟨a0, len0, cap0, rfl⟩ := okWide_slice Try.underlying85 (hval 0 85 v0 rfl rfl)
  obtain ⟨DL0, w0, m0⟩ := open_deals h0 (Sz.arg hsz (j := 0) rfl rfl)
  clear hA0 hval0 hsz0
  refine (walk (.slice a0 len0 cap0) DL0 W w0 m0).mono fun e W' ⟨he, hg⟩ => ?_
  subst he
  exact ⟨_, rfl, _, _, _, [], _, [], hW', (trodAll_cons_mk (shut_bool Try.underlying4 _) trodAll_mk0), trodAll_below laidOut hg _ _ _ _ (by kernel_rfl) hAk hlt, rfl, hg.frame _, fun h => by cases h⟩

theorem over : Rows.shardAppliedRow.holds Try.pinned (OpenSpec.ofChange Rows.shardAppliedSpec) :=
  OpenClaim.holds_of_wide 7 Try.f7 rfl rfl rfl rfl rfl rfl rfl ⟨rfl, rfl, rfl, rfl, rfl⟩ rfl rfl rfl rfl rfl (by kernel_rfl) Try.func7 (by kernel_rfl)
    (of_decide_eq_true (by kernel_rfl)) (by unfold Func.isWrapper; first | (rw [if_pos (by decide +kernel)]; kernel_rfl) | (rw [if_neg (by decide +kernel)]; exact ⟨rfl, rfl⟩))
    (fun os started H enc _ => lifted os started H enc)

/-- the statement -/
theorem proved : Rows.ShardAppliedSaid :=
  over
#print axioms proved

end Go.Proofs.Ytdoodjeffjjlgaa.shardApplied
