/- chain, writes: where a stamp is found. -/
import Derived.Test.YtohcdonmdnjgoaaChainSeek

import Derived.Test.YtohcdonmdnjgoaaStampA

import Derived.Test.YtohcdonmdnjgoaaStampB

import Derived.Test.YtohcdonmdnjgoaaQuietF

import Derived.Test.YtohcdonmdnjgoaaChainStep

import Derived.Test.YtohcdonmdnjgoaaChainObj

import Derived.Test.YtohcdonmdnjgoaaRegionCut

import Derived.Test.YtohcdonmdnjgoaaInLaws

import Derived.Test.YtohcdonmdnjgoaaRowSet

namespace Go.Proofs.Ytohcdonmdnjgoaa.Ch

open Go.RowKit Go.Proofs.Ytohcdonmdnjgoaa.Vc Go.Proofs.Ytohcdonmdnjgoaa.Sp Go.Proofs.Ytohcdonmdnjgoaa.Rw

set_option linter.unusedVariables false

set_option linter.unusedSimpArgs false

set_option maxRecDepth 100000

theorem size_vW : (Try.prog.info? 123).map (·.size) = some 9 := by kernel_rfl
theorem elem_vW : Try.prog.elem 135 = 123 := by kernel_rfl
theorem cell_ltW {w : World} {b o : Nat} {v : Value} (h : w.cell? ⟨b, o, none⟩ = some v) : b < w.heap.size := World.block_lt_of_cell? w _ h
theorem index_vW (b o n cap j : Nat) (hj : j < n) (w : World) : (Instr.indexAt 135 (.slice (some ⟨b, o, none⟩) n cap) (.int .i64 (j : Int))).run Try.prog w = .ok (.pointer (some ⟨b, o + 9 * j, none⟩)) w :=
  run_index elem_vW Try.underlying135 Try.sizeOf123 b o n cap j hj w
theorem val_W (x : C.Vr I.Wt) (hx : x.1.1.length = 4) : (vk wrt).val x = .agg (ks .u64 x.1.1 ++ (Value.int .i64 x.1.2 :: wrt.cs x.2)).toArray := by unfold Kd.val; rw [vk_ks wrt x hx]
set_option maxHeartbeats 2000000 in
theorem find1W (x : C.Vr I.Wt) (s : C.St) (w : World) (hx : x.1.1.length = 4) (hs : s.1.length = 4) :
    Calls Try.prog 87 #[(vk wrt).val x, SV s.1 s.2] w fun e w' => e = .returned (.int .i64 (C.ord x.1 s)) ∧ Below w.heap.size w w' := by
  obtain ⟨⟨a, d⟩, y⟩ := x
  obtain ⟨b, e0⟩ := s
  have hv := val_W ((a, d), y) hx
  rw [hv]
  dsimp only at hx hs ⊢
  have C := Lib.hid (fun w => order_any a b d e0 w hx hs)
  have HSa := Lib.hid (size_s (d := d) hx)
  have HSb := Lib.hid (size_s (d := e0) hs)
  show Calls _ _ _ _ fun e w' => e = .returned (.int .i64 (T.order a d b e0)) ∧ _
  generalize T.order a d b e0 = q at *
  obtain ⟨u1, u2, u3, u4, HU⟩ : ∃ u1 u2 u3 u4, Hid (wrt.cs y = [u1, u2, u3, u4]) := ⟨_, _, _, _, rfl⟩
  rw [HU.out]
  clear hv hx hs
  go_enter Try.func87, Try.ntmps87
  go_wp2_with (first | refine blk_box rfl 123 _ rfl (ks .u64 a ++ [Value.int .i64 d, u1, u2, u3, u4]) rfl ?_)
  intro w1 A1 B1 Z1
  go_wp2_with (first | refine blk_box rfl 35 _ rfl (ks .u64 b ++ [Value.int .i64 e0]) rfl ?_)
  intro w2 A2 B2 Z2
  have HA2 : Hid (Blk w2 w.heap.size ((ks .u64 a ++ [Value.int .i64 d]) ++ [u1, u2, u3, u4])) := by
    show Blk _ _ _
    rw [List.append_assoc]
    exact Blk.below A1 B2 (by omega)
  have HB2 : Hid (Blk w2 (w.heap.size + 1) (ks .u64 b ++ [Value.int .i64 e0])) := A2
  have HW2 : Hid (Below w.heap.size w w2) := B1.trans (B2.mono (by omega))
  clear A1 B1 Z1 A2 B2 Z2
  go_wp2_with (first | refine sub_load rfl 35 _ rfl w.heap.size rfl (ks .u64 a ++ [Value.int .i64 d]) [u1, u2, u3, u4] HA2.out _ Try.underlying35 rfl HSa.out ?_ | refine blk_load rfl 35 _ rfl (w.heap.size + 1) rfl (ks .u64 b ++ [Value.int .i64 e0]) HB2.out _ Try.underlying35 rfl HSb.out ?_)
  refine (C.out _).mono ?_; rintro e w3 ⟨rfl, hb3⟩
  have HW3 : Hid (Below w.heap.size w w3) := Below.trans HW2.out (hb3.mono HW2.out.size)
  clear hb3
  go_wp2_with fail
  go_ret
  exact ⟨rfl, HW3.out⟩
set_option maxHeartbeats 4000000 in
theorem bsearchW (v : Value) (L : List (C.Vr I.Wt)) (s : C.St) (w : World) (hL : IsR (vk wrt) w v L) (hn : L.length < 1000000) (hu : C.Up L) (hs : s.1.length = 4) :
    Calls Try.prog 86 #[v, SV s.1 s.2, .func (.func 87) #[] #[]] w fun e w' => e = .returned (.tuple #[.int .i64 ((C.pos L s : Nat) : Int), .bool (C.has L s)]) ∧ Below w.heap.size w w' := by
  obtain ⟨sa, cap, rfl, hca, hma, _⟩ := hL.is
  obtain ⟨n, HN⟩ : ∃ n, Hid (L.length = n) := ⟨_, rfl⟩
  have HP : Hid (C.pos L s ≤ n) := by show _ ≤ _; rw [← HN.out]; exact C.pos_le L s
  have HPI := Lib.hid (fun h x hx => C.pos_iff hu s hs h x hx)
  have HE := Lib.hid (C.has_end hu s hs)
  have HH := Lib.hid (fun x hx => C.has_at hu s hs x hx)
  have C1 := Lib.hid (fun x w hx => find1W x s w hx hs)
  have HF := Lib.hid hu.four
  have HSs := Lib.hid (size_s (d := s.2) hs)
  obtain ⟨p, HPP⟩ : ∃ p, Hid (C.pos L s = p) := ⟨_, rfl⟩
  obtain ⟨q, HQ⟩ : ∃ q, Hid (C.has L s = q) := ⟨_, rfl⟩
  rw [HPP.out] at HP HPI HE HH ⊢
  rw [HQ.out] at HE HH ⊢
  have HL := Lib.hid hL
  rw [HN.out] at HL hn HE ⊢
  have hp := HP.out
  have HM : Hid _ := hma
  obtain ⟨b, e0⟩ := s
  dsimp only at HSs C1 ⊢
  clear hL hca hma hu hs HP
  go_enter Try.func86, Try.ntmps86
  go_wp2_with (first | refine blk_box rfl 35 _ rfl (ks .u64 b ++ [Value.int .i64 e0]) rfl ?_)
  intro w1 A1 B1 Z1
  have HA1 : Hid (Blk w1 w.heap.size (ks .u64 b ++ [Value.int .i64 e0])) := A1
  have HW1 : Hid (Below w.heap.size w w1) := B1
  have HZ1 : Hid (w.heap.size < w1.heap.size) := by show _ < _; omega
  clear A1 B1 Z1
  go_wp2_with fail
  go_loopw [9, 10] (fun i j wr => ∃ i0 j0 : Nat, i0 ≤ p ∧ p ≤ j0 ∧ j0 ≤ n ∧ i = .int .i64 i0 ∧ j = .int .i64 j0 ∧ Hid (Blk wr w.heap.size (ks .u64 b ++ [Value.int .i64 e0])) ∧ Hid (Below w.heap.size w wr) ∧ Hid (w.heap.size < wr.heap.size)) (fun i j _ => (intOf j).toNat - (intOf i).toNat)
  case atStart => exact ⟨0, n, by omega, hp, by omega, rfl, rfl, HA1, HW1, HZ1⟩
  case round =>
    obtain ⟨i0, j0, hi, hj, hjn, rfl, rfl, HAr, HWr, HZr⟩ := hrel
    clear HA1 HW1 HZ1
    by_cases hlt : i0 < j0
    · have ilt : (i0 : Int) < (j0 : Int) := by omega
      obtain ⟨h, HMI⟩ : ∃ h : Nat, Hid ((i0 + j0) / 2 = h) := ⟨_, rfl⟩
      have hm := HMI.out
      have hh1 : i0 ≤ h := by omega
      have hh2 : h < j0 := by omega
      have hh3 : h < n := by omega
      have k1 : IntKind.i64.wrap ((i0 : Int) + (j0 : Int)) = (i0 : Int) + (j0 : Int) := by rw [IntKind.wrap_i64]; omega
      have k2 : IntKind.u64.wrap ((i0 : Int) + (j0 : Int)) = (i0 : Int) + (j0 : Int) := wrapu (by omega) (by omega)
      have k3 : ((i0 : Int) + (j0 : Int)) / (2 : Int) = (h : Int) := by omega
      obtain ⟨g, off, cap', hv, hg0, hrow⟩ := IsR.at HL.out h (by rw [HN.out]; exact hh3)
      obtain rfl : sa = some ⟨g, off, none⟩ := by injection hv
      have hx := C.getD_some (show h < L.length by rw [HN.out]; exact hh3) (vk wrt).none_
      obtain ⟨x, HX⟩ : ∃ x, Hid (L.getD h (vk wrt).none_ = x) := ⟨_, rfl⟩
      rw [HX.out] at hx hrow
      have hlt2 := HPI.out h x hx
      have hx4 := HF.out x (List.mem_of_getElem? hx)
      obtain ⟨c, HC⟩ : ∃ c, Hid (C.ord x.1 (b, e0) = c) := ⟨_, rfl⟩
      rw [HC.out] at hlt2
      obtain ⟨r, HR⟩ : ∃ r, Hid (decide (h < p) = r) := ⟨_, rfl⟩
      rw [HR.out] at hlt2
      have hcs := (vk wrt).len x
      have X1 : Hid (∀ u, Below wr.heap.size wr u → Calls Try.prog 87 [(vk wrt).val x, SV b e0].toArray u fun e u' => e = .returned (.int .i64 c) ∧ Below wr.heap.size wr u') := fun u hu => Calls.more hu (by have := C1.out x u hx4; rw [HC.out] at this; exact this)
      have hix : ∀ w, (Instr.indexAt 135 (.slice (some ⟨g, off, none⟩) n cap) (.int .i64 (h : Int))).run Try.prog w = .ok (.pointer (some ⟨g, off + 9 * h, none⟩)) w := fun w => index_vW g off n cap h hh3 w
      have HRW : Hid (∀ u, Below wr.heap.size wr u → u.rangeAt g (off + 9 * h) ((vk wrt).cf x)) := fun u hu k v hv => by
        have hg1 := Nat.lt_of_lt_of_le hg0 HWr.out.size
        rw [hu.cell (p := ⟨g, off + 9 * h + k, none⟩) hg1, HWr.out.cell (p := ⟨g, off + 9 * h + k, none⟩) hg0]
        exact hrow k v hv
      have HBK : Hid (∀ u, Below wr.heap.size wr u → Blk u w.heap.size (ks .u64 b ++ [Value.int .i64 e0])) := fun u hu => Blk.below HAr.out hu HZr.out
      clear hv hm hrow hx hg0
      go_wp2_with fail
      clear k1 k2 k3
      refine region_w Try.mixed (by kernel_rfl) ?_
      refine w_move rfl _ rfl (.func (.func 87) #[] #[]) rfl (fun K hK => ?_)
      go_simp
      refine hK _ ?_
      clear hK K
      refine w_move rfl _ rfl (.slice (some ⟨g, off, none⟩) n cap) rfl (fun K hK => ?_)
      go_simp
      refine hK _ ?_
      clear hK K
      refine w_move rfl _ rfl (.int .i64 (h : Int)) rfl (fun K hK => ?_)
      go_simp
      refine hK _ ?_
      clear hK K
      refine w_value rfl (.pointer (some ⟨g, off + 9 * h, none⟩)) (fun u hu => by have hs := hix u; go_simp) (fun K hK => ?_)
      go_simp
      refine hK _ ?_
      clear hK K
      refine w_mid_load rfl 123 _ rfl g (off + 9 * h) rfl ((vk wrt).cf x) (by exact HRW.out) _ Try.underlying123 rfl size_vW (fun K hK => ?_)
      go_simp
      refine hK _ ?_
      clear hK K
      refine w_blk_load rfl 35 _ rfl w.heap.size rfl (ks .u64 b ++ [Value.int .i64 e0]) (by exact HBK.out) _ Try.underlying35 rfl HSs.out (fun K hK => ?_)
      go_simp
      refine hK _ ?_
      clear hK K
      refine w_callf rfl 87 Try.f87 Try.func87 rfl rfl _ _ _ rfl #[] rfl [(vk wrt).val x, SV b e0] rfl (.int .i64 c) (by exact X1.out) (fun K hK => ?_)
      go_simp
      refine hK _ ?_
      clear hK K
      refine w_value rfl (.bool r) (fun u hu => by go_simp) (fun K hK => ?_)
      go_simp
      refine hK _ ?_
      clear hK K
      refine w_nil ?_
      intro u hu
      have HW3 : Hid (Below w.heap.size w u) := Below.trans HWr.out (hu.mono HWr.out.size)
      have HA3 : Hid (Blk u w.heap.size (ks .u64 b ++ [Value.int .i64 e0])) := Blk.below HAr.out hu HZr.out
      have HZ3 : Hid (w.heap.size < u.heap.size) := Nat.lt_of_lt_of_le HZr.out hu.size
      clear hu X1 HRW HBK HAr HWr HZr hix hx4
      cases r with
      | true =>
        have hhp := of_decide_eq_true HR.out
        go_wp2_with fail
        go_roundw
        case rel => exact ⟨h + 1, j0, by omega, hj, hjn, by go_num, rfl, HA3, HW3, HZ3⟩
        case measure => simp [intOf]; omega
      | false =>
        have hhp := of_decide_eq_false HR.out
        go_wp2_with fail
        go_roundw
        case rel => exact ⟨i0, h, hi, by omega, by omega, rfl, rfl, HA3, HW3, HZ3⟩
        case measure => simp [intOf]; omega
    · obtain rfl : i0 = p := by omega
      obtain rfl : j0 = i0 := by omega
      have hpn := hj
      clear hlt
      by_cases hlt : j0 < n
      · have ilt2 : (j0 : Int) < (n : Int) := by omega
        obtain ⟨g, off, cap', hv, hg0, hrow⟩ := IsR.at HL.out j0 (by rw [HN.out]; exact hlt)
        obtain rfl : sa = some ⟨g, off, none⟩ := by injection hv
        have hx := C.getD_some (show j0 < L.length by rw [HN.out]; exact hlt) (vk wrt).none_
        obtain ⟨x, HX⟩ : ∃ x, Hid (L.getD j0 (vk wrt).none_ = x) := ⟨_, rfl⟩
        rw [HX.out] at hx hrow
        have hq := HH.out x hx
        have hx4 := HF.out x (List.mem_of_getElem? hx)
        obtain ⟨c, HC⟩ : ∃ c, Hid (C.ord x.1 (b, e0) = c) := ⟨_, rfl⟩
        rw [HC.out] at hq
        have hq2 : (c == 0) = q := by rw [hq]; exact (by simp [beq_iff_eq, Bool.beq_eq_decide_eq])
        have X1 : Hid (∀ u, Below wr.heap.size wr u → Calls Try.prog 87 [(vk wrt).val x, SV b e0].toArray u fun e u' => e = .returned (.int .i64 c) ∧ Below wr.heap.size wr u') := fun u hu => Calls.more hu (by have := C1.out x u hx4; rw [HC.out] at this; exact this)
        have hix : ∀ w, (Instr.indexAt 135 (.slice (some ⟨g, off, none⟩) n cap) (.int .i64 (j0 : Int))).run Try.prog w = .ok (.pointer (some ⟨g, off + 9 * j0, none⟩)) w := fun w => index_vW g off n cap j0 hlt w
        have HRW : Hid (∀ u, Below wr.heap.size wr u → u.rangeAt g (off + 9 * j0) ((vk wrt).cf x)) := fun u hu k v hv => by
          have hg1 := Nat.lt_of_lt_of_le hg0 HWr.out.size
          rw [hu.cell (p := ⟨g, off + 9 * j0 + k, none⟩) hg1, HWr.out.cell (p := ⟨g, off + 9 * j0 + k, none⟩) hg0]
          exact hrow k v hv
        have HBK : Hid (∀ u, Below wr.heap.size wr u → Blk u w.heap.size (ks .u64 b ++ [Value.int .i64 e0])) := fun u hu => Blk.below HAr.out hu HZr.out
        have hqd := hq.symm
        clear hv hrow hx hg0 hq hpn
        go_wp2_with fail
        refine region_w Try.mixed (by kernel_rfl) ?_
        refine w_move rfl _ rfl (.int .i64 (j0 : Int)) rfl (fun K hK => ?_)
        go_simp
        refine hK _ ?_
        clear hK K
        refine w_move rfl _ rfl (.int .i64 (j0 : Int)) rfl (fun K hK => ?_)
        go_simp
        refine hK _ ?_
        clear hK K
        refine w_move rfl _ rfl (.int .i64 (n : Int)) rfl (fun K hK => ?_)
        go_simp
        refine hK _ ?_
        clear hK K
        refine w_value rfl (.bool true) (fun u hu => by go_simp) (fun K hK => ?_)
        go_simp
        refine hK _ ?_
        clear hK K
        refine w_move rfl _ rfl (.bool true) rfl (fun K hK => ?_)
        go_simp
        refine hK _ ?_
        clear hK K
        refine wg_value (by rfl) (.func (.func 87) #[] #[]) (fun u hu => by go_simp) (fun K hK => ?_)
        go_simp
        refine hK _ ?_
        clear hK K
        refine wg_value (by rfl) (.slice (some ⟨g, off, none⟩) n cap) (fun u hu => by go_simp) (fun K hK => ?_)
        go_simp
        refine hK _ ?_
        clear hK K
        refine wg_value (by rfl) (.int .i64 (j0 : Int)) (fun u hu => by go_simp) (fun K hK => ?_)
        go_simp
        refine hK _ ?_
        clear hK K
        refine wg_value (by rfl) (.pointer (some ⟨g, off + 9 * j0, none⟩)) (fun u hu => by have hs := hix u; go_simp) (fun K hK => ?_)
        go_simp
        refine hK _ ?_
        clear hK K
        refine wg_mid_load (by rfl) 123 _ rfl g (off + 9 * j0) rfl ((vk wrt).cf x) (by exact HRW.out) _ Try.underlying123 rfl size_vW (fun K hK => ?_)
        go_simp
        refine hK _ ?_
        clear hK K
        refine wg_blk_load (by rfl) 35 _ rfl w.heap.size rfl (ks .u64 b ++ [Value.int .i64 e0]) (by exact HBK.out) _ Try.underlying35 rfl HSs.out (fun K hK => ?_)
        go_simp
        refine hK _ ?_
        clear hK K
        refine wg_callf (by rfl) 87 Try.f87 Try.func87 rfl rfl _ _ _ rfl #[] rfl [(vk wrt).val x, SV b e0] rfl (.int .i64 c) (by exact X1.out) (fun K hK => ?_)
        go_simp
        refine hK _ ?_
        clear hK K
        refine wg_value (by rfl) (.bool q) (fun u hu => by go_simp) (fun K hK => ?_)
        go_simp
        refine hK _ ?_
        clear hK K
        refine w_value rfl (.bool q) (fun u hu => by go_simp) (fun K hK => ?_)
        go_simp
        refine hK _ ?_
        clear hK K
        refine w_assign rfl _ rfl (.int .i64 (j0 : Int)) rfl (fun K hK => ?_)
        go_simp
        refine hK _ ?_
        clear hK K
        refine w_assign rfl _ rfl (.bool q) rfl (fun K hK => ?_)
        go_simp
        refine hK _ ?_
        clear hK K
        refine w_nil ?_
        intro u hu
        have HW3 : Hid (Below w.heap.size w u) := Below.trans HWr.out (hu.mono HWr.out.size)
        clear hu
        go_wp2_with fail
        exact bodyPost_ret (results_tmp2 rfl _ _ _) rfl ⟨rfl, HW3.out⟩
      · have ilt2 : ¬ (j0 : Int) < (n : Int) := by omega
        obtain rfl : q = false := HE.out hlt
        clear hpn
        go_wp2_with fail
        refine region_w Try.mixed (by kernel_rfl) ?_
        refine w_move rfl _ rfl (.int .i64 (j0 : Int)) rfl (fun K hK => ?_)
        go_simp
        refine hK _ ?_
        clear hK K
        refine w_move rfl _ rfl (.int .i64 (j0 : Int)) rfl (fun K hK => ?_)
        go_simp
        refine hK _ ?_
        clear hK K
        refine w_move rfl _ rfl (.int .i64 (n : Int)) rfl (fun K hK => ?_)
        go_simp
        refine hK _ ?_
        clear hK K
        refine w_value rfl (.bool false) (fun u hu => by go_simp) (fun K hK => ?_)
        go_simp
        refine hK _ ?_
        clear hK K
        refine w_move rfl _ rfl (.bool false) rfl (fun K hK => ?_)
        go_simp
        refine hK _ ?_
        clear hK K
        refine w_skip 4 true (some false) rfl (by rfl) rfl (fun K hK => ?_)
        go_simp
        refine hK _ ?_
        clear hK K
        refine w_skip 4 true (some false) rfl (by rfl) rfl (fun K hK => ?_)
        go_simp
        refine hK _ ?_
        clear hK K
        refine w_skip 4 true (some false) rfl (by rfl) rfl (fun K hK => ?_)
        go_simp
        refine hK _ ?_
        clear hK K
        refine w_skip 4 true (some false) rfl (by rfl) rfl (fun K hK => ?_)
        go_simp
        refine hK _ ?_
        clear hK K
        refine w_skip 4 true (some false) rfl (by rfl) rfl (fun K hK => ?_)
        go_simp
        refine hK _ ?_
        clear hK K
        refine w_skip 4 true (some false) rfl (by rfl) rfl (fun K hK => ?_)
        go_simp
        refine hK _ ?_
        clear hK K
        refine w_skip 4 true (some false) rfl (by rfl) rfl (fun K hK => ?_)
        go_simp
        refine hK _ ?_
        clear hK K
        refine w_skip 4 true (some false) rfl (by rfl) rfl (fun K hK => ?_)
        go_simp
        refine hK _ ?_
        clear hK K
        refine w_value rfl (.bool false) (fun u hu => by go_simp) (fun K hK => ?_)
        go_simp
        refine hK _ ?_
        clear hK K
        refine w_assign rfl _ rfl (.int .i64 (j0 : Int)) rfl (fun K hK => ?_)
        go_simp
        refine hK _ ?_
        clear hK K
        refine w_assign rfl _ rfl (.bool false) rfl (fun K hK => ?_)
        go_simp
        refine hK _ ?_
        clear hK K
        refine w_nil ?_
        intro u hu
        have HW3 : Hid (Below w.heap.size w u) := Below.trans HWr.out (hu.mono HWr.out.size)
        clear hu
        go_wp2_with fail
        exact bodyPost_ret (results_tmp2 rfl _ _ _) rfl ⟨rfl, HW3.out⟩
set_option maxHeartbeats 2000000 in
theorem findW (c : Nat) (v : Value) (L : List (C.Vr I.Wt)) (s : C.St) (w : World) (hc : w.cell? ⟨c, 0, none⟩ = some v) (hL : IsR (vk wrt) w v L) (hn : L.length < 1000000) (hu : C.Up L) (hs : s.1.length = 4) :
    Calls Try.prog 78 #[.pointer (some ⟨c, 0, none⟩), SV s.1 s.2] w fun e w' => e = .returned (.tuple #[.int .i64 ((C.pos L s : Nat) : Int), .bool (C.has L s)]) ∧ Below w.heap.size w w' := by
  have HSs := Lib.hid (size_s (d := s.2) hs)
  have HCC := Lib.hid (fun u (hu' : Below w.heap.size w u) => bsearchW v L s u (hL.below hu') hn hu hs)
  generalize C.pos L s = p at *
  generalize C.has L s = q at *
  have HC := Lib.hid hc
  have HLT := Lib.hid (cell_ltW hc)
  obtain ⟨b, e0⟩ := s
  dsimp only at HSs HCC ⊢
  clear hL hn hu hs hc
  go_enter Try.func78, Try.ntmps78
  go_wp2_with (first | refine blk_box rfl 35 _ rfl (ks .u64 b ++ [Value.int .i64 e0]) rfl ?_)
  intro w1 A1 B1 Z1
  have HCW : Hid (∀ u, Below w1.heap.size w1 u → u.cell? ⟨c, 0, none⟩ = some v) := fun u hu => by
    have hl := HLT.out
    rw [hu.cell (p := ⟨c, 0, none⟩) (by show c < _; omega), B1.cell (p := ⟨c, 0, none⟩) hl]; exact HC.out
  have HBK : Hid (∀ u, Below w1.heap.size w1 u → Blk u w.heap.size (ks .u64 b ++ [Value.int .i64 e0])) := fun u hu => Blk.below A1 hu (by omega)
  have X1 : Hid (∀ u, Below w1.heap.size w1 u → Calls Try.prog 86 [v, SV b e0, .func (.func 87) #[] #[]].toArray u fun e u' => e = .returned (.tuple #[.int .i64 (p : Int), .bool q]) ∧ Below w1.heap.size w1 u') := fun u hu => Calls.more hu (HCC.out u (B1.trans (hu.mono (by omega))))
  have HW1 : Hid (Below w.heap.size w w1) := B1
  clear A1 B1 Z1 HCC HC HLT
  go_wp2_with fail
  refine region_w Try.mixed (by kernel_rfl) ?_
  refine w_move rfl _ rfl (.pointer (some ⟨c, 0, none⟩)) rfl (fun K hK => ?_)
  go_simp
  refine hK _ ?_
  clear hK K
  refine w_value rfl (.pointer (some ⟨c, 0, none⟩)) (fun u hu => by go_simp) (fun K hK => ?_)
  go_simp
  refine hK _ ?_
  clear hK K
  refine w_value rfl (.pointer (some ⟨c, 0, none⟩)) (fun u hu => by go_simp) (fun K hK => ?_)
  go_simp
  refine hK _ ?_
  clear hK K
  refine w_value rfl v (fun u hu => by have hs := HCW.out u hu; go_simp) (fun K hK => ?_)
  go_simp
  refine hK _ ?_
  clear hK K
  refine w_blk_load rfl 35 _ rfl w.heap.size rfl (ks .u64 b ++ [Value.int .i64 e0]) (by exact HBK.out) _ Try.underlying35 rfl HSs.out (fun K hK => ?_)
  go_simp
  refine hK _ ?_
  clear hK K
  refine w_call rfl 86 Try.f86 Try.func86 rfl rfl _ _ rfl _ rfl (.tuple #[.int .i64 (p : Int), .bool q]) (by exact X1.out) (fun K hK => ?_)
  go_simp
  refine hK _ ?_
  clear hK K
  refine w_value rfl (.int .i64 (p : Int)) (fun u hu => by go_simp) (fun K hK => ?_)
  go_simp
  refine hK _ ?_
  clear hK K
  refine w_value rfl (.bool q) (fun u hu => by go_simp) (fun K hK => ?_)
  go_simp
  refine hK _ ?_
  clear hK K
  refine w_assign rfl _ rfl (.int .i64 (p : Int)) rfl (fun K hK => ?_)
  go_simp
  refine hK _ ?_
  clear hK K
  refine w_assign rfl _ rfl (.bool q) rfl (fun K hK => ?_)
  go_simp
  refine hK _ ?_
  clear hK K
  refine w_nil ?_
  intro u hu
  have HW3 : Hid (Below w.heap.size w u) := Below.trans HW1.out (hu.mono HW1.out.size)
  clear hu
  go_wp2_with fail
  exact bodyPost_ret (results_tmp2 rfl _ _ _) rfl ⟨rfl, HW3.out⟩
end Go.Proofs.Ytohcdonmdnjgoaa.Ch

namespace Go.Proofs.Ytohcdonmdnjgoaa.Ch

open Go.RowKit Go.Proofs.Ytohcdonmdnjgoaa.Vc Go.Proofs.Ytohcdonmdnjgoaa.Sp Go.Proofs.Ytohcdonmdnjgoaa.Rw

set_option linter.unusedVariables false

set_option linter.unusedSimpArgs false

set_option maxRecDepth 100000

theorem zero_W : (vk wrt).val (vk wrt).none_ = .agg #[.int .u64 0, .int .u64 0, .int .u64 0, .int .u64 0, .int .i64 0, .string ⟨#[]⟩, .string ⟨#[]⟩, .string ⟨#[]⟩, .bool false] := rfl
theorem inf_W : (Try.prog.info? 123).map (fun i => (i.zero, i.size, i.bytes)) = some (some ((vk wrt).val (vk wrt).none_), (vk wrt).k, 96) := by rw [zero_W]; kernel_rfl
theorem zc_W : ((vk wrt).val (vk wrt).none_).cells.size = (vk wrt).k := rfl
set_option maxHeartbeats 4000000 in
theorem insert_endW (base : Nat) (v : Value) (L : List (C.Vr I.Wt)) (x : C.Vr I.Wt) (b : Nat) (w : World) (hown : OR (vk wrt) 123 w base v L) (hn : L.length < 100000) (hb : base ≤ w.heap.size) (hx : w.heap[b]? = some (.cells ((vk wrt).cf x).toArray 123 (0, 0))) :
    Calls Try.prog 79 #[v, .int .i64 (L.length : Int), .slice (some ⟨b, 0, none⟩) 1 1] w fun e w' => ∃ v', e = .returned v' ∧ OR (vk wrt) 123 w' base v' (L ++ [x]) ∧ w.grownBy w' v.ownBlock ∧ Nw w v v' := by
  have hbl : b < w.heap.size := (Array.getElem?_eq_some_iff.1 hx).1
  have hM : IsR (vk wrt) w (.slice (some ⟨b, 0, none⟩) 1 1) [x] := IsR.one (Blk.of_row hx) hbl
  obtain ⟨v', w', hr, ho, hg, hw⟩ := run_append_one (K := vk wrt) 135 Try.underlying135 inf_W zc_W w base v L hown b 0 1 1 [x] hM (by simp) (by simp; omega) (by omega) hb
  have HO := Lib.hid ho
  have HG := Lib.hid hg
  have HW := Lib.hid hw
  obtain ⟨sa, cap, rfl, hca, hma, _⟩ := hown.is.is
  obtain ⟨z, hz⟩ := run_slice_lo' elem_vW Try.underlying135 Try.sizeOf123 sa L.length cap L.length (Nat.le_refl _)
  generalize L.length = n at *
  have HR := Lib.hid hr
  clear hr ho hg hw hM hown hx hma
  go_enter Try.func79, Try.ntmps79
  go_wp2_with (at_builtin; refine append_step rfl _ _ _ _ rfl rfl rfl HR.out ?_)
  go_ret
  exact ⟨_, rfl, HO.out, HG.out, HW.out⟩
set_option maxHeartbeats 4000000 in
theorem insert_roomW (base g cap : Nat) (cur : Array Value) (L : List (C.Vr I.Wt)) (x : C.Vr I.Wt) (i b : Nat) (w : World) (hB : base ≤ g) (hg : w.heap[g]? = some (.cells cur 123 (0, 0))) (hcm : cap ≤ maxLen) (hcs : cur.size = cap * (vk wrt).k) (htk : cur.toList.take (L.length * (vk wrt).k) = (vk wrt).cells L)
    (hi : i < L.length) (hroom : L.length + 1 ≤ cap) (hn : L.length < 100000) (hx : w.heap[b]? = some (.cells ((vk wrt).cf x).toArray 123 (0, 0))) (hne : b ≠ g) :
    Calls Try.prog 79 #[.slice (some ⟨g, 0, none⟩) L.length cap, .int .i64 (i : Int), .slice (some ⟨b, 0, none⟩) 1 1] w fun e w' => ∃ v', e = .returned v' ∧ OR (vk wrt) 123 w' base v' (L.take i ++ x :: L.drop i) ∧ w.grownBy w' (some g) ∧ v'.ownBlock = some g := by
  have hlA : ((vk wrt).cells (L.take i)).length = 9 * i := by rw [cells_len, List.length_take, Nat.min_eq_left (by omega)]; show i * 9 = _; omega
  have hlB : ((vk wrt).cells (L.drop i)).length = 9 * (L.length - i) := by rw [cells_len, List.length_drop]; show _ * 9 = _; omega
  have hk : (vk wrt).k = 9 := rfl
  have hszL : cur.toList.length = cap * 9 := by rw [Array.length_toList, hcs]; rfl
  have hcell : ∀ j u, ((vk wrt).cells (L.drop i))[j]? = some u → w.drew.cell? ((⟨g, 9 * i, none⟩ : Addr).add j) = some u := fun j u hu => by
    have hj := (List.getElem?_eq_some_iff.1 hu).1
    rw [World.cell?_drew, Addr.add_mid, cell_of_row w g _ cur _ (0, 0) hg]
    have e : cur.toList.take (L.length * (vk wrt).k) = (vk wrt).cells (L.take i) ++ (vk wrt).cells (L.drop i) := by rw [htk, cells_take_drop]
    have h2 : (cur.toList.take (L.length * (vk wrt).k))[9 * i + j]? = some u := by
      rw [e, List.getElem?_append_right (by rw [hlA]; omega), hlA, Nat.add_sub_cancel_left]; exact hu
    rw [List.getElem?_take] at h2
    split at h2
    · simpa using h2
    · cases h2
  have hcp1 := fun ty => run_copy_gen w.drew 135 135 ty 123 g (9 * (i + 1)) (L.length - i) (cap - (i + 1)) ⟨g, 9 * i, none⟩ (L.length + 1 - i) (cap - i) cur 123 ((vk wrt).cells (L.drop i)) 9 (L.length - i) Try.underlying135 size_vW hg (Nat.min_eq_right (by omega)) (by rw [hlB]; omega) hcell (by rw [hlB, hcs, hk]; omega) (cells_one _)
  obtain ⟨cur1, HC1⟩ : ∃ c, Hid ((cur.toList.take (9 * (i + 1)) ++ (vk wrt).cells (L.drop i) ++ cur.toList.drop (9 * (i + 1) + ((vk wrt).cells (L.drop i)).length)).toArray = c) := ⟨_, rfl⟩
  rw [HC1.out] at hcp1
  have hs1 : cur1.size = cur.size := by
    rw [← HC1.out]
    simp only [List.size_toArray, List.length_append, List.length_take, List.length_drop, hszL, hlB]
    rw [← Array.length_toList, hszL]
    omega
  have hg1 : (w.drew.setRow g cur1).heap[g]? = some (.cells cur1 123 (0, 0)) := setRow_heap w.drew g cur cur1 _ _ hg
  have hxc : ∀ j u, ((vk wrt).cf x)[j]? = some u → (w.drew.setRow g cur1).cell? ((⟨b, 0, none⟩ : Addr).add j) = some u := fun j u hu => by
    have hxb : (w.drew.setRow g cur1).heap[b]? = some (.cells ((vk wrt).cf x).toArray 123 (0, 0)) := by rw [setRow_other _ _ _ _ hne]; exact hx
    rw [Addr.add_mid, cell_of_row _ b _ _ _ (0, 0) hxb, Nat.zero_add]
    simpa using hu
  have hcp2 := fun ty => run_copy_gen (w.drew.setRow g cur1) 135 135 ty 123 g (9 * i) (L.length + 1 - i) (cap - i) ⟨b, 0, none⟩ 1 1 cur1 123 ((vk wrt).cf x) 9 1 Try.underlying135 size_vW hg1 (Nat.min_eq_left (by omega)) ((vk wrt).len x) hxc (by rw [(vk wrt).len, hs1, hcs, hk]; omega) ((vk wrt).one x)
  obtain ⟨cur2, HC2⟩ : ∃ c, Hid ((cur1.toList.take (9 * i) ++ (vk wrt).cf x ++ cur1.toList.drop (9 * i + ((vk wrt).cf x).length)).toArray = c) := ⟨_, rfl⟩
  rw [HC2.out] at hcp2
  have hc2 : cur2.toList = (vk wrt).cells (L.take i) ++ (vk wrt).cf x ++ (vk wrt).cells (L.drop i) ++ cur.toList.drop (9 * i + 9 + ((vk wrt).cells (L.drop i)).length) := by
    rw [← HC2.out, ← HC1.out, List.toList_toArray, List.toList_toArray, (vk wrt).len, hk]
    exact ins_room cur.toList _ _ _ (9 * i) 9 hlA ((vk wrt).len x) (by
      rw [hlB, ← cells_append, List.take_append_drop, ← htk]
      congr 1
      rw [hk]; omega) (by rw [hszL, hlB]; omega)
  have HOR : Hid (OR (vk wrt) 123 ((w.drew.setRow g cur1).setRow g cur2) base (.slice (some ⟨g, 0, none⟩) (L.length + 1) cap) (L.take i ++ x :: L.drop i)) := by
    have e : L.length + 1 = (L.take i ++ x :: L.drop i).length := by rw [List.length_append, List.length_cons, List.length_take, List.length_drop]; omega
    have e2 : (vk wrt).cells (L.take i ++ x :: L.drop i) = (vk wrt).cells (L.take i) ++ (vk wrt).cf x ++ (vk wrt).cells (L.drop i) := by
      rw [cells_append, show x :: L.drop i = [x] ++ L.drop i from rfl, cells_append, cells_one1, List.append_assoc]
    show OR _ _ _ _ _ _
    rw [e]
    refine OR.of hB (setRow_heap _ g cur1 cur2 _ _ hg1) (by rw [← e]; exact hroom) hcm ?_ ?_
    · rw [← Array.length_toList, hc2]
      simp only [List.length_append, List.length_drop, hlA, hlB, hszL, (vk wrt).len, hk]
      omega
    · rw [hc2, e2, List.take_append_of_le_length (by simp only [List.length_append, List.length_cons, List.length_take, List.length_drop, hlA, hlB, (vk wrt).len, hk]; omega), List.take_of_length_le (by simp only [List.length_append, List.length_cons, List.length_take, List.length_drop, hlA, hlB, (vk wrt).len, hk]; omega)]
  have HGB : Hid (w.grownBy ((w.drew.setRow g cur1).setRow g cur2) (some g)) := grownBy_trans (grownBy_trans (grownBy_drew w _) (grownBy_setRow _ g _)) (grownBy_setRow _ g _)
  have hov : ∀ lb cb, (callFunc 89 #[.slice (some ⟨b, 0, none⟩) 1 1, .slice (some ⟨g, 9 * (i + 1), none⟩) lb cb]).run Try.prog w = .ok (.value (.bool false)) w := fun lb cb => by
    rw [run_callFunc_extern Try.func89 (by kernel_rfl) (by kernel_rfl) (by kernel_rfl) (e := Extern.SlicesOverlaps.overlaps #[135, 135] #[4]) (by kernel_rfl),
      Lib.run_overlaps_apart w 135 4 123 Try.underlying135 9 (fun w => Try.sizeOf123 w) ⟨b, 0, none⟩ ⟨g, 9 * (i + 1), none⟩ 1 1 lb cb hne 123 123 _ _ (shape_row hx) (shape_row hg) (by rw [hcs, hk]; omega) (frozen_of_row _ _ _ _ _ hx) (frozen_of_row _ _ _ _ _ hx)]
    rfl
  obtain ⟨z, hz⟩ := run_slice_lo' elem_vW Try.underlying135 Try.sizeOf123 (some ⟨g, 0, none⟩) L.length cap i (by omega)
  have hz2 : ∀ w, (Instr.sliceAt 135 (.slice (some ⟨g, 0, none⟩) L.length cap) none (some (.int .i64 ((L.length : Int) + 1))) none).run Try.prog w = .ok (.slice (some ⟨g, 0, none⟩) (L.length + 1) cap) w := fun w => run_slice_hi elem_vW Try.underlying135 Try.sizeOf123 g 0 L.length cap (L.length + 1) hroom w
  have hz3 : ∀ w, (Instr.sliceAt 135 (.slice (some ⟨g, 0, none⟩) (L.length + 1) cap) (some (.int .i64 ((i : Int) + 1))) none none).run Try.prog w = .ok (.slice (some ⟨g, 9 * (i + 1), none⟩) (L.length - i) (cap - (i + 1))) w := fun w => by
    have := run_slice_lo elem_vW Try.underlying135 Try.sizeOf123 g 0 (L.length + 1) cap (i + 1) (by omega) (by omega) w
    rw [Nat.zero_add, show L.length + 1 - (i + 1) = L.length - i by omega] at this
    exact this
  have hz4 : ∀ w, (Instr.sliceAt 135 (.slice (some ⟨g, 0, none⟩) (L.length + 1) cap) (some (.int .i64 (i : Int))) none none).run Try.prog w = .ok (.slice (some ⟨g, 9 * i, none⟩) (L.length + 1 - i) (cap - i)) w := fun w => by
    have := run_slice_lo elem_vW Try.underlying135 Try.sizeOf123 g 0 (L.length + 1) cap i (by omega) (by omega) w
    rw [Nat.zero_add] at this
    exact this
  generalize L.length = n at *
  obtain ⟨n1, HN1⟩ : ∃ z, Hid (n - i = z) := ⟨_, rfl⟩
  obtain ⟨n2, HN2⟩ : ∃ z, Hid (n + 1 - i = z) := ⟨_, rfl⟩
  obtain ⟨c1, HCC1⟩ : ∃ z, Hid (cap - (i + 1) = z) := ⟨_, rfl⟩
  obtain ⟨c2, HCC2⟩ : ∃ z, Hid (cap - i = z) := ⟨_, rfl⟩
  obtain ⟨o1, HO1⟩ : ∃ z, Hid (9 * (i + 1) = z) := ⟨_, rfl⟩
  obtain ⟨o2, HO2⟩ : ∃ z, Hid (9 * i = z) := ⟨_, rfl⟩
  obtain ⟨N1, HNN1⟩ : ∃ z, Hid (n + 1 = z) := ⟨_, rfl⟩
  rw [HO1.out] at hcp1 hov hz3
  rw [HO2.out] at hcp1 hcp2 hz4
  rw [HN1.out] at hcp1 hz3
  rw [HN2.out] at hcp1 hcp2 hz4
  rw [HCC1.out] at hcp1 hz3
  rw [HCC2.out] at hcp1 hcp2 hz4
  rw [HNN1.out] at hz2 hz3 hz4 HOR
  have HP1 := Lib.hid hcp1
  have HP2 := Lib.hid hcp2
  have k1 : IntKind.i64.wrap ((n : Int) + 1) = (n : Int) + 1 := by rw [IntKind.wrap_i64]; omega
  have k2 : IntKind.i64.wrap ((i : Int) + 1) = (i : Int) + 1 := by rw [IntKind.wrap_i64]; omega
  have k3 : ¬ ((i : Int) = (n : Int)) := by omega
  have k4 : ¬ ((cap : Int) < (n : Int) + 1) := by omega
  clear hc2 hs1 hcell hcp1 hcp2 hxc hg1 hlA hlB hk hszL hx hg hcs htk hcm hB hne hroom
  go_enter Try.func79, Try.ntmps79
  go_wp2_with (simp only [hov])
  refine region_tail 8 Try.mixed (by kernel_rfl) ?_
  simp only [List.take_succ_cons, List.take_zero, List.drop_succ_cons, List.drop_zero]
  repeat still_step
  refine wpStill_nil ?_
  refine copy_step rfl _ _ _ _ rfl rfl rfl HP1.out ?_
  go_wp2_with (first | refine copy_step rfl _ _ _ _ rfl rfl rfl HP2.out ?_)
  go_ret
  exact ⟨_, rfl, HOR.out, HGB.out, rfl⟩
set_option maxHeartbeats 4000000 in
theorem insert_growW (base g cap : Nat) (cur : Array Value) (L : List (C.Vr I.Wt)) (x : C.Vr I.Wt) (i b : Nat) (w : World) (hB : base ≤ w.heap.size) (hg : w.heap[g]? = some (.cells cur 123 (0, 0))) (hcs : cur.size = cap * (vk wrt).k) (htk : cur.toList.take (L.length * (vk wrt).k) = (vk wrt).cells L)
    (hi : i < L.length) (hle : L.length ≤ cap) (hroom : cap < L.length + 1) (hn : L.length < 100000) (hx : w.heap[b]? = some (.cells ((vk wrt).cf x).toArray 123 (0, 0))) :
    Calls Try.prog 79 #[.slice (some ⟨g, 0, none⟩) L.length cap, .int .i64 (i : Int), .slice (some ⟨b, 0, none⟩) 1 1] w fun e w' => ∃ v', e = .returned v' ∧ OR (vk wrt) 123 w' base v' (L.take i ++ x :: L.drop i) ∧ Below w.heap.size w w' ∧ v'.ownBlock = some w.heap.size := by
  have hgl : g < w.heap.size := (Array.getElem?_eq_some_iff.1 hg).1
  have hbl : b < w.heap.size := (Array.getElem?_eq_some_iff.1 hx).1
  have hlA : ((vk wrt).cells (L.take i)).length = 9 * i := by rw [cells_len, List.length_take, Nat.min_eq_left (by omega)]; show i * 9 = _; omega
  have hlB : ((vk wrt).cells (L.drop i)).length = 9 * (L.length - i) := by rw [cells_len, List.length_drop]; show _ * 9 = _; omega
  have hk : (vk wrt).k = 9 := rfl
  have hszL : cur.toList.length = cap * 9 := by rw [Array.length_toList, hcs]; rfl
  have hspl : cur.toList.take (L.length * (vk wrt).k) = (vk wrt).cells (L.take i) ++ (vk wrt).cells (L.drop i) := by rw [htk, cells_take_drop]
  have hcellw : ∀ k v, (cur.toList.take (L.length * (vk wrt).k))[k]? = some v → w.cell? ⟨g, k, none⟩ = some v := fun k v h2 => by
    rw [cell_of_row w g _ cur _ (0, 0) hg]
    rw [List.getElem?_take] at h2
    split at h2
    · simpa using h2
    · cases h2
  obtain ⟨i0, hi0, hq0, hq1, hq2⟩ : ∃ i0, Try.prog.info? 123 = some i0 ∧ i0.zero = some ((vk wrt).val (vk wrt).none_) ∧ i0.size = 9 ∧ i0.bytes = 96 := by
    have hinf := inf_W
    cases hi : Try.prog.info? 123 with
    | none => rw [hi] at hinf; cases hinf
    | some i0 =>
      rw [hi] at hinf
      simp only [Option.map_some, Option.some.injEq, Prod.mk.injEq] at hinf
      exact ⟨i0, rfl, hinf.1, hinf.2.1, hinf.2.2⟩
  have hold : (Builtin.firstCells i0.size i (.slice (some ⟨g, 0, none⟩) i cap)).run Try.prog w.drew = .ok ((vk wrt).cells (L.take i)).toArray w.drew :=
    run_firstCells_some (P := Try.prog) w.drew i0.size i ⟨g, 0, none⟩ i cap _ (by rw [hlA, hq1]; omega) (fun j u hu => by
      have hj := (List.getElem?_eq_some_iff.1 hu).1
      rw [World.cell?_drew, Addr.add_mid, Nat.zero_add]
      exact hcellw j u (by rw [hspl, List.getElem?_append_left hj]; exact hu))
  have hrz : ∀ ty, (Builtin.append_ #[135, 3] ty #[.slice (some ⟨g, 0, none⟩) i cap, .int .i64 ((L.length : Int) + 1 - (i : Int))]).run Try.prog w =
      .ok (.slice (some ⟨w.heap.size, 0, none⟩) (L.length + 1) (grownCap w (L.length + 1) cap 123)) (w.drew.alloc (.cells (((vk wrt).cells (L.take i)).toArray ++ Builtin.zeroCells ((vk wrt).val (vk wrt).none_).cells (L.length + 1 - i) ++ Builtin.zeroCells ((vk wrt).val (vk wrt).none_).cells (grownCap w (L.length + 1) cap 123 - (L.length + 1))) 123)) := fun ty => by
    have h := Lib.run_append_grow_zeros w 135 3 ty 123 i0 _ .i64 .i64 Try.underlying135 Try.underlying3 hi0 hq0 (some ⟨g, 0, none⟩) i cap _ hold (L.length + 1 - i) (by omega) (by omega) (by omega) (by omega) (by rw [hq2]; omega) (by rw [hq2]; exact growslice_fits (by omega) (by omega))
    rw [show i + (L.length + 1 - i) = L.length + 1 by omega, show ((L.length + 1 - i : Nat) : Int) = (L.length : Int) + 1 - (i : Int) by omega] at h
    exact h
  have hge := grownCap_ge w (L.length + 1) cap 123
  have hcm := grownCap_le_maxLen w (L.length + 1) cap 123 (by unfold maxLen; omega)
  obtain ⟨G, HG⟩ : ∃ z, Hid (grownCap w (L.length + 1) cap 123 = z) := ⟨_, rfl⟩
  rw [HG.out] at hrz hge hcm
  obtain ⟨cur0, HC0⟩ : ∃ z, Hid (((vk wrt).cells (L.take i)).toArray ++ Builtin.zeroCells ((vk wrt).val (vk wrt).none_).cells (L.length + 1 - i) ++ Builtin.zeroCells ((vk wrt).val (vk wrt).none_).cells (G - (L.length + 1)) = z) := ⟨_, rfl⟩
  rw [HC0.out] at hrz
  have hs0 : cur0.size = G * 9 := by
    rw [← HC0.out, Array.size_append, Array.size_append, size_zeroCells, size_zeroCells, zc_W, List.size_toArray, hlA, hk]
    omega
  have ht0 : cur0.toList.take (9 * i) = (vk wrt).cells (L.take i) := by
    rw [← HC0.out, Array.toList_append, Array.toList_append, List.toList_toArray, List.append_assoc, List.take_append_of_le_length (by rw [hlA]; omega), List.take_of_length_le (by rw [hlA]; omega)]
  obtain ⟨w1, HW1⟩ : ∃ z, Hid (w.drew.alloc (.cells cur0 123) = z) := ⟨_, rfl⟩
  rw [HW1.out] at hrz
  have hg0 : w1.heap[w.heap.size]? = some (.cells cur0 123 (0, 0)) := by rw [← HW1.out]; exact heap_alloc_new w.drew _
  have hB1 : Below w.heap.size w w1 := by rw [← HW1.out]; exact (Below.drew (Below.refl _ w)).alloc (Nat.le_refl _) _
  have hxc : ∀ j u, ((vk wrt).cf x)[j]? = some u → w1.cell? ((⟨b, 0, none⟩ : Addr).add j) = some u := fun j u hu => by
    rw [Addr.add_mid, hB1.cell (p := ⟨b, 0 + j, none⟩) hbl, cell_of_row _ b _ _ _ (0, 0) hx, Nat.zero_add]
    simpa using hu
  have hcp1 := fun ty => run_copy_gen w1 135 135 ty 123 w.heap.size (9 * i) (L.length + 1 - i) (G - i) ⟨b, 0, none⟩ 1 1 cur0 123 ((vk wrt).cf x) 9 1 Try.underlying135 size_vW hg0 (Nat.min_eq_left (by omega)) ((vk wrt).len x) hxc (by rw [(vk wrt).len, hs0, hk]; omega) ((vk wrt).one x)
  obtain ⟨cur1, HC1⟩ : ∃ c, Hid ((cur0.toList.take (9 * i) ++ (vk wrt).cf x ++ cur0.toList.drop (9 * i + ((vk wrt).cf x).length)).toArray = c) := ⟨_, rfl⟩
  rw [HC1.out] at hcp1
  have hs1 : cur1.size = cur0.size := by
    rw [← HC1.out]
    simp only [List.size_toArray, List.length_append, List.length_take, List.length_drop, Array.length_toList, (vk wrt).len, hs0, hk]
    omega
  have hg1 : (w1.setRow w.heap.size cur1).drew.heap[w.heap.size]? = some (.cells cur1 123 (0, 0)) := setRow_heap w1 w.heap.size cur0 cur1 _ _ hg0
  have hcell : ∀ j u, ((vk wrt).cells (L.drop i))[j]? = some u → (w1.setRow w.heap.size cur1).drew.cell? ((⟨g, 9 * i, none⟩ : Addr).add j) = some u := fun j u hu => by
    rw [World.cell?_drew, Addr.add_mid, World.cell?_of_block (w := w1) (setRow_other _ _ _ _ (by show g ≠ _; omega)), hB1.cell (p := ⟨g, 9 * i + j, none⟩) hgl]
    refine hcellw _ u ?_
    rw [hspl, List.getElem?_append_right (by rw [hlA]; omega), hlA, Nat.add_sub_cancel_left]; exact hu
  have hcp2 := fun ty => run_copy_gen (w1.setRow w.heap.size cur1).drew 135 135 ty 123 w.heap.size (9 * (i + 1)) (L.length - i) (G - (i + 1)) ⟨g, 9 * i, none⟩ (L.length - i) (cap - i) cur1 123 ((vk wrt).cells (L.drop i)) 9 (L.length - i) Try.underlying135 size_vW hg1 (Nat.min_self _) (by rw [hlB]; omega) hcell (by rw [hlB, hs1, hs0]; omega) (cells_one _)
  obtain ⟨cur2, HC2⟩ : ∃ c, Hid ((cur1.toList.take (9 * (i + 1)) ++ (vk wrt).cells (L.drop i) ++ cur1.toList.drop (9 * (i + 1) + ((vk wrt).cells (L.drop i)).length)).toArray = c) := ⟨_, rfl⟩
  rw [HC2.out] at hcp2
  have hc2 : cur2.toList = (vk wrt).cells (L.take i) ++ (vk wrt).cf x ++ (vk wrt).cells (L.drop i) ++ cur0.toList.drop (9 * i + 9 + ((vk wrt).cells (L.drop i)).length) := by
    rw [← HC2.out, ← HC1.out, List.toList_toArray, List.toList_toArray, (vk wrt).len, hk]
    exact ins_grow cur0.toList _ _ _ (9 * i) 9 ht0 hlA ((vk wrt).len x) (by rw [hlB, Array.length_toList (xs := cur0), hs0]; omega)
  have HOR : Hid (OR (vk wrt) 123 ((w1.setRow w.heap.size cur1).drew.setRow w.heap.size cur2) base (.slice (some ⟨w.heap.size, 0, none⟩) (L.length + 1) G) (L.take i ++ x :: L.drop i)) := by
    have e : L.length + 1 = (L.take i ++ x :: L.drop i).length := by rw [List.length_append, List.length_cons, List.length_take, List.length_drop]; omega
    have e2 : (vk wrt).cells (L.take i ++ x :: L.drop i) = (vk wrt).cells (L.take i) ++ (vk wrt).cf x ++ (vk wrt).cells (L.drop i) := by
      rw [cells_append, show x :: L.drop i = [x] ++ L.drop i from rfl, cells_append, cells_one1, List.append_assoc]
    show OR _ _ _ _ _ _
    rw [e]
    refine OR.of hB (setRow_heap _ w.heap.size cur1 cur2 _ _ hg1) (by rw [← e]; exact hge) hcm ?_ ?_
    · rw [← Array.length_toList, hc2]
      simp only [List.length_append, List.length_drop, Array.length_toList, hlA, hlB, hs0, (vk wrt).len, hk]
      omega
    · rw [hc2, e2, List.take_append_of_le_length (by simp only [List.length_append, List.length_cons, List.length_take, List.length_drop, hlA, hlB, (vk wrt).len, hk]; omega), List.take_of_length_le (by simp only [List.length_append, List.length_cons, List.length_take, List.length_drop, hlA, hlB, (vk wrt).len, hk]; omega)]
  have hbr : ∀ (u u' : World) (c : Array Value), Below w.heap.size u u' → Below w.heap.size u (u'.setRow w.heap.size c) := fun u u' c h => ⟨h.os, h.tape, h.output, by simpa using h.size, fun k hk => by rw [setRow_other _ _ _ _ (by omega)]; exact h.block k hk⟩
  have HGB : Hid (Below w.heap.size w ((w1.setRow w.heap.size cur1).drew.setRow w.heap.size cur2)) := hbr _ _ _ (Below.drew (hbr _ _ _ hB1))
  obtain ⟨z, hz⟩ := run_slice_lo' elem_vW Try.underlying135 Try.sizeOf123 (some ⟨g, 0, none⟩) L.length cap i (by omega)
  have hz2 : ∀ w, (Instr.sliceAt 135 (.slice (some ⟨g, 0, none⟩) L.length cap) none (some (.int .i64 (i : Int))) none).run Try.prog w = .ok (.slice (some ⟨g, 0, none⟩) i cap) w := fun w => run_slice_hi elem_vW Try.underlying135 Try.sizeOf123 g 0 L.length cap i (by omega) w
  have hz3 : ∀ u, (Instr.sliceAt 135 (.slice (some ⟨w.heap.size, 0, none⟩) (L.length + 1) G) (some (.int .i64 ((i : Int) + 1))) none none).run Try.prog u = .ok (.slice (some ⟨w.heap.size, 9 * (i + 1), none⟩) (L.length - i) (G - (i + 1))) u := fun u => by
    have := run_slice_lo elem_vW Try.underlying135 Try.sizeOf123 w.heap.size 0 (L.length + 1) G (i + 1) (by omega) (by omega) u
    rw [Nat.zero_add, show L.length + 1 - (i + 1) = L.length - i by omega] at this
    exact this
  have hz4 : ∀ u, (Instr.sliceAt 135 (.slice (some ⟨w.heap.size, 0, none⟩) (L.length + 1) G) (some (.int .i64 (i : Int))) none none).run Try.prog u = .ok (.slice (some ⟨w.heap.size, 9 * i, none⟩) (L.length + 1 - i) (G - i)) u := fun u => by
    have := run_slice_lo elem_vW Try.underlying135 Try.sizeOf123 w.heap.size 0 (L.length + 1) G i (by omega) (by omega) u
    rw [Nat.zero_add] at this
    exact this
  have hz5 : ∀ u, (Instr.sliceAt 135 (.slice (some ⟨g, 0, none⟩) L.length cap) (some (.int .i64 (i : Int))) none none).run Try.prog u = .ok (.slice (some ⟨g, 9 * i, none⟩) (L.length - i) (cap - i)) u := fun u => by
    have := run_slice_lo elem_vW Try.underlying135 Try.sizeOf123 g 0 L.length cap i (by omega) (by omega) u
    rw [Nat.zero_add] at this
    exact this
  clear hz
  generalize L.length = n at *
  obtain ⟨n1, HN1⟩ : ∃ z, Hid (n - i = z) := ⟨_, rfl⟩
  obtain ⟨n2, HN2⟩ : ∃ z, Hid (n + 1 - i = z) := ⟨_, rfl⟩
  obtain ⟨c1, HCC1⟩ : ∃ z, Hid (G - (i + 1) = z) := ⟨_, rfl⟩
  obtain ⟨c2, HCC2⟩ : ∃ z, Hid (G - i = z) := ⟨_, rfl⟩
  obtain ⟨c3, HCC3⟩ : ∃ z, Hid (cap - i = z) := ⟨_, rfl⟩
  obtain ⟨o1, HO1⟩ : ∃ z, Hid (9 * (i + 1) = z) := ⟨_, rfl⟩
  obtain ⟨o2, HO2⟩ : ∃ z, Hid (9 * i = z) := ⟨_, rfl⟩
  obtain ⟨N1, HNN1⟩ : ∃ z, Hid (n + 1 = z) := ⟨_, rfl⟩
  rw [HO1.out] at hcp2 hz3
  rw [HO2.out] at hcp1 hcp2 hz4 hz5
  rw [HN1.out] at hcp2 hz3 hz5
  rw [HN2.out] at hcp1 hz4
  rw [HCC1.out] at hcp2 hz3
  rw [HCC2.out] at hcp1 hz4
  rw [HCC3.out] at hcp2 hz5
  rw [HNN1.out] at hz3 hz4 HOR hrz
  have HP1 := Lib.hid hcp1
  have HP2 := Lib.hid hcp2
  have HRZ := Lib.hid hrz
  have k1 : IntKind.i64.wrap ((n : Int) + 1) = (n : Int) + 1 := by rw [IntKind.wrap_i64]; omega
  have k2 : IntKind.i64.wrap ((i : Int) + 1) = (i : Int) + 1 := by rw [IntKind.wrap_i64]; omega
  have k5 : IntKind.i64.wrap ((n : Int) + 1 - (i : Int)) = (n : Int) + 1 - (i : Int) := by rw [IntKind.wrap_i64]; omega
  have k3 : ¬ ((i : Int) = (n : Int)) := by omega
  have k4 : (cap : Int) < (n : Int) + 1 := by omega
  clear hc2 hs1 hcell hcp1 hcp2 hxc hg1 hg0 hlA hlB hk hszL hx hg hcs htk hcm hB hroom hspl hcellw hold hi0 hq0 hq1 hq2 hrz hge hs0 ht0 hbr hle
  go_enter Try.func79, Try.ntmps79
  go_wp2_with (first | (at_builtin; refine append_step rfl _ _ _ _ rfl rfl rfl (HRZ.out _) ?_) | refine copy_step rfl _ _ _ _ rfl rfl rfl HP1.out ?_)
  refine region_tail 8 Try.mixed (by kernel_rfl) ?_
  simp only [List.take_succ_cons, List.take_zero, List.drop_succ_cons, List.drop_zero]
  repeat still_step
  refine wpStill_nil ?_
  refine copy_step rfl _ _ _ _ rfl rfl rfl HP2.out ?_
  go_wp2_with fail
  go_ret
  exact ⟨_, rfl, HOR.out, HGB.out, rfl⟩
end Go.Proofs.Ytohcdonmdnjgoaa.Ch

namespace Go.Proofs.Ytohcdonmdnjgoaa.Ch

open Go.RowKit Go.Proofs.Ytohcdonmdnjgoaa.Vc Go.Proofs.Ytohcdonmdnjgoaa.Sp Go.Proofs.Ytohcdonmdnjgoaa.Rw

set_option linter.unusedVariables false

set_option linter.unusedSimpArgs false

set_option maxRecDepth 100000

theorem insert_anyW (base : Nat) (v : Value) (L : List (C.Vr I.Wt)) (x : C.Vr I.Wt) (i b : Nat) (w : World) (hown : OR (vk wrt) 123 w base v L) (hi : i ≤ L.length) (hn : L.length < 100000) (hb : base ≤ w.heap.size) (hx : w.heap[b]? = some (.cells ((vk wrt).cf x).toArray 123 (0, 0))) (hne : v.ownBlock ≠ some b) :
    Calls Try.prog 79 #[v, .int .i64 (i : Int), .slice (some ⟨b, 0, none⟩) 1 1] w fun e w' => ∃ v', e = .returned v' ∧ OR (vk wrt) 123 w' base v' (L.take i ++ x :: L.drop i) ∧ w.grownBy w' v.ownBlock ∧ Nw w v v' := by
  rcases Nat.lt_or_eq_of_le hi with h | h
  · rcases hown.row with ⟨rfl, rfl⟩ | ⟨g, cap, cur, rfl, hB, hgl, hh, hnc, hcm, hcs, htake⟩
    · simp at h
    · by_cases hroom : L.length + 1 ≤ cap
      · refine (insert_roomW base g cap cur L x i b w hB hh hcm hcs htake h hroom hn hx (fun e => hne (by rw [e]; rfl))).mono ?_
        rintro e w' ⟨v', rfl, h1, h2, h3⟩
        exact ⟨v', rfl, h1, h2, .inl h3⟩
      · refine (insert_growW base g cap cur L x i b w hb hh hcs htake h hnc (by omega) hn hx).mono ?_
        rintro e w' ⟨v', rfl, h1, h2, h3⟩
        refine ⟨v', rfl, h1, grownBy_below h2 _, .inr fun k hk => ?_⟩
        rw [h3] at hk
        rw [← Option.some.inj hk]
        exact Nat.le_refl _
  · subst h
    rw [List.take_length, List.drop_length]
    exact insert_endW base v L x b w hown hn hb hx
theorem box_set {w : World} {b c : Nat} {b0 b1 b2 b3 : Nat} {e0 : Int} (hb : c ≠ b) (z : Value) (h : Blk w b (ks .u64 [b0, b1, b2, b3] ++ [Value.int .i64 e0])) :
    (w.setCell ⟨c, 0, none⟩ z).cell? ⟨b, 0, none⟩ = some (.int .u64 (b0 : Int)) ∧ (w.setCell ⟨c, 0, none⟩ z).cell? ⟨b, 1, none⟩ = some (.int .u64 (b1 : Int)) ∧ (w.setCell ⟨c, 0, none⟩ z).cell? ⟨b, 2, none⟩ = some (.int .u64 (b2 : Int)) ∧ (w.setCell ⟨c, 0, none⟩ z).cell? ⟨b, 3, none⟩ = some (.int .u64 (b3 : Int)) ∧ (w.setCell ⟨c, 0, none⟩ z).cell? ⟨b, 4, none⟩ = some (.int .i64 e0) := by
  have h' := Blk.upd h (Upd.setCell w c 0 z) (Ne.symm hb)
  exact ⟨h'.cell 0 _ rfl, h'.cell 1 _ rfl, h'.cell 2 _ rfl, h'.cell 3 _ rfl, h'.cell 4 _ rfl⟩
set_option maxHeartbeats 8000000 in
theorem addW (c : Nat) (v : Value) (L : List (C.Vr I.Wt)) (s : C.St) (y : I.Wt) (w : World) (hch : Ch wrt 123 w c v L) (hs : s.1.length = 4) (hn : L.length < 1000) :
    Calls Try.prog 64 #[.pointer (some ⟨c, 0, none⟩), SV s.1 s.2, wrt.f y] w fun e w' => ∃ v', e = .returned (.bool (C.add L s y).2) ∧ Ch wrt 123 w' c v' (C.add L s y).1 ∧ Tw c v.ownBlock w w' ∧ Nw w v v' := by
  have HCH := Lib.hid hch
  have CR := Lib.hid (fun u => sright_any s.1 s.2 u hs)
  have CF := Lib.hid (fun u (hu : Ch wrt 123 u c v L) => findW c v L s u hu.cell hu.own.is (by omega) hu.up hs)
  have HSs := Lib.hid (size_s (d := s.2) hs)
  have HPL := Lib.hid (C.pos_le L s)
  have HUI := Lib.hid (fun (h0 : C.has L s = false) => hch.up.ins s y hs h0)
  have HNL := Lib.hid hn
  clear hch hn
  unfold C.add
  show Calls _ _ _ _ fun e w' => ∃ v', e = .returned (.bool (if C.right s = true ∧ C.has L s = false then (C.ins L s y, true) else (L, false)).2) ∧ _
  change Hid (∀ u, Calls Try.prog 49 #[SV s.1 s.2] u fun e w' => e = .returned (.bool (C.right s)) ∧ Below u.heap.size u w') at CR
  cases hr : C.right s with
  | false =>
    rw [hr] at CR
    rw [if_neg (fun h => by cases h.1)]
    obtain ⟨b, e0⟩ := s
    dsimp only at HSs CR ⊢
    clear hs CF HPL hr HUI HNL
    go_enter Try.func64, Try.ntmps64
    go_wp2_with (first | refine blk_box rfl 35 _ rfl (ks .u64 b ++ [Value.int .i64 e0]) rfl ?_)
    intro w0 A0 B0 Z0
    go_wp2_with (first | refine blk_box rfl 42 _ rfl (It.wc y) rfl ?_)
    intro w1 AY BY ZY
    have A1 : Blk w1 w.heap.size (ks .u64 b ++ [Value.int .i64 e0]) := Blk.below A0 BY (by omega)
    have B1 : Below w.heap.size w w1 := B0.trans (BY.mono (by omega))
    have Z1 : w1.heap.size = w.heap.size + 2 := by omega
    have HA1 : Hid (Blk w1 w.heap.size (ks .u64 b ++ [Value.int .i64 e0])) := A1
    have HB1 : Hid (Below w.heap.size w w1) := B1
    clear A1 B1 Z1 A0 B0 Z0 AY BY ZY
    go_wp2_with (first | refine blk_load rfl 35 _ rfl w.heap.size rfl (ks .u64 b ++ [Value.int .i64 e0]) HA1.out _ Try.underlying35 rfl HSs.out ?_)
    refine (CR.out _).mono ?_; rintro e w2 ⟨rfl, hb2⟩
    have HB2 : Hid (Below w.heap.size w w2) := Below.trans HB1.out (hb2.mono HB1.out.size)
    clear hb2
    go_wp2_with fail
    go_ret
    exact ⟨v, rfl, HCH.out.below HB2.out, Tw.of_below HB2.out, Nw.refl _ _⟩
  | true =>
    rw [hr] at CR
    cases hh : C.has L s with
    | true =>
      rw [hh] at CF
      rw [if_neg (fun h => by cases h.2)]
      generalize C.pos L s = p at *
      obtain ⟨b, e0⟩ := s
      dsimp only at HSs CR CF ⊢
      clear hs HPL hr hh HUI HNL
      go_enter Try.func64, Try.ntmps64
      go_wp2_with (first | refine blk_box rfl 35 _ rfl (ks .u64 b ++ [Value.int .i64 e0]) rfl ?_)
      intro w0 A0 B0 Z0
      go_wp2_with (first | refine blk_box rfl 42 _ rfl (It.wc y) rfl ?_)
      intro w1 AY BY ZY
      have A1 : Blk w1 w.heap.size (ks .u64 b ++ [Value.int .i64 e0]) := Blk.below A0 BY (by omega)
      have B1 : Below w.heap.size w w1 := B0.trans (BY.mono (by omega))
      have Z1 : w1.heap.size = w.heap.size + 2 := by omega
      have HA1 : Hid (Blk w1 w.heap.size (ks .u64 b ++ [Value.int .i64 e0])) := A1
      have HB1 : Hid (Below w.heap.size w w1) := B1
      have HZ1 : Hid (w.heap.size < w1.heap.size) := by show _ < _; omega
      clear A1 B1 Z1 A0 B0 Z0 AY BY ZY
      go_wp2_with (first | refine blk_load rfl 35 _ rfl w.heap.size rfl (ks .u64 b ++ [Value.int .i64 e0]) HA1.out _ Try.underlying35 rfl HSs.out ?_)
      refine (CR.out _).mono ?_; rintro e w2 ⟨rfl, hb2⟩
      have HB2 : Hid (Below w.heap.size w w2) := Below.trans HB1.out (hb2.mono HB1.out.size)
      have HA2 : Hid (Blk w2 w.heap.size (ks .u64 b ++ [Value.int .i64 e0])) := Blk.below HA1.out hb2 HZ1.out
      clear hb2
      go_wp2_with (first | refine blk_load rfl 35 _ rfl w.heap.size rfl (ks .u64 b ++ [Value.int .i64 e0]) HA2.out _ Try.underlying35 rfl HSs.out ?_)
      refine (CF.out _ (HCH.out.below HB2.out)).mono ?_; rintro e w3 ⟨rfl, hb3⟩
      have HB3 : Hid (Below w.heap.size w w3) := Below.trans HB2.out (hb3.mono HB2.out.size)
      clear hb3
      go_wp2_with fail
      go_ret
      exact ⟨v, rfl, HCH.out.below HB3.out, Tw.of_below HB3.out, Nw.refl _ _⟩
    | false =>
      rw [hh] at CF
      rw [if_pos ⟨rfl, rfl⟩]
      have HI : Hid (C.ins L s y = L.take (C.pos L s) ++ (s, y) :: L.drop (C.pos L s)) := rfl
      have HUP := Lib.hid (HUI.out hh)
      rw [HI.out] at HUP ⊢
      generalize C.pos L s = p at *
      obtain ⟨b, e0⟩ := s
      dsimp only at HSs CR CF hs ⊢
      obtain ⟨b0, b1, b2, b3, rfl⟩ := V.four hs
      clear hs hr hh HUI HI
      obtain ⟨p1, p2, p3, p4⟩ := y
      change Calls _ _ #[_, _, .agg #[.string p1, .string p2, .string p3, .bool p4]] _ _
      go_enter Try.func64, Try.ntmps64
      go_wp2_with (first | refine blk_box rfl 35 _ rfl (ks .u64 [b0, b1, b2, b3] ++ [Value.int .i64 e0]) rfl ?_)
      intro w0 A0 B0 Z0
      go_wp2_with (first | refine blk_box rfl 42 _ rfl [Value.string p1, Value.string p2, Value.string p3, Value.bool p4] rfl ?_)
      intro w1 AY BY ZY
      have A1 : Blk w1 w.heap.size (ks .u64 [b0, b1, b2, b3] ++ [Value.int .i64 e0]) := Blk.below A0 BY (by omega)
      have B1 : Below w.heap.size w w1 := B0.trans (BY.mono (by omega))
      have Z1 : w1.heap.size = w.heap.size + 2 := by omega
      have HA1 : Hid (Blk w1 w.heap.size (ks .u64 [b0, b1, b2, b3] ++ [Value.int .i64 e0])) := A1
      have HB1 : Hid (Below w.heap.size w w1) := B1
      have HZ1 : Hid (w.heap.size + 1 < w1.heap.size) := by show _ < _; omega
      have HY1 : Hid (Blk w1 (w.heap.size + 1) [Value.string p1, Value.string p2, Value.string p3, Value.bool p4]) := by first | exact AY | (have h := AY; rw [Z0] at h; exact h)
      clear A1 B1 Z1 A0 B0 Z0 AY BY ZY
      go_wp2_with (first | refine blk_load rfl 35 _ rfl w.heap.size rfl (ks .u64 [b0, b1, b2, b3] ++ [Value.int .i64 e0]) HA1.out _ Try.underlying35 rfl HSs.out ?_)
      refine (CR.out _).mono ?_; rintro e w2 ⟨rfl, hb2⟩
      have HB2 : Hid (Below w.heap.size w w2) := Below.trans HB1.out (hb2.mono HB1.out.size)
      have HA2 : Hid (Blk w2 w.heap.size (ks .u64 [b0, b1, b2, b3] ++ [Value.int .i64 e0])) := Blk.below HA1.out hb2 (by have := HZ1.out; omega)
      have HZ2 : Hid (w.heap.size + 1 < w2.heap.size) := Nat.lt_of_lt_of_le HZ1.out hb2.size
      have HY2 : Hid (Blk w2 (w.heap.size + 1) [Value.string p1, Value.string p2, Value.string p3, Value.bool p4]) := Blk.below HY1.out hb2 HZ1.out
      clear hb2
      go_wp2_with (first | refine blk_load rfl 35 _ rfl w.heap.size rfl (ks .u64 [b0, b1, b2, b3] ++ [Value.int .i64 e0]) HA2.out _ Try.underlying35 rfl HSs.out ?_)
      refine (CF.out _ (HCH.out.below HB2.out)).mono ?_; rintro e w3 ⟨rfl, hb3⟩
      have HB3 : Hid (Below w.heap.size w w3) := Below.trans HB2.out (hb3.mono HB2.out.size)
      have HA3 : Hid (Blk w3 w.heap.size (ks .u64 [b0, b1, b2, b3] ++ [Value.int .i64 e0])) := Blk.below HA2.out hb3 (by have := HZ2.out; omega)
      have HY3 : Hid (Blk w3 (w.heap.size + 1) [Value.string p1, Value.string p2, Value.string p3, Value.bool p4]) := Blk.below HY2.out hb3 HZ2.out
      have HZ3 : Hid (w.heap.size + 1 < w3.heap.size) := Nat.lt_of_lt_of_le HZ2.out hb3.size
      have HC3 : Hid (Ch wrt 123 w3 c v L) := HCH.out.below HB3.out
      clear hb3 HA1 HA2 HB1 HB2 HZ1 HZ2 HY1 HY2 CR CF
      go_wp2_with fail
      have HC3d : Hid (Ch wrt 123 w3.drew c v L) := HC3.out.below (Below.drew (Below.refl _ _))
      have HA3d : Hid (Blk w3.drew w.heap.size [Value.int .u64 (b0 : Int), Value.int .u64 (b1 : Int), Value.int .u64 (b2 : Int), Value.int .u64 (b3 : Int), Value.int .i64 e0]) := HA3.out.drew
      have HY3d : Hid (Blk w3.drew (w.heap.size + 1) [Value.string p1, Value.string p2, Value.string p3, Value.bool p4]) := HY3.out.drew
      have HNE : Hid (w.heap.size ≠ c ∧ v.ownBlock ≠ some w.heap.size ∧ v.ownBlock ≠ some (w.heap.size + 1)) := ⟨by have := HCH.out.lt; omega, fun e => by have := (HCH.out.own.lt e).2; omega, fun e => by have := (HCH.out.own.lt e).2; omega⟩
      obtain ⟨wa, HWA⟩ : ∃ z, Hid ((w3.alloc (.cells #[.int .u64 (b0 : Int), .int .u64 (b1 : Int), .int .u64 (b2 : Int), .int .u64 (b3 : Int), .int .i64 e0, .string p1, .string p2, .string p3, .bool p4] 123)).drew = z) := ⟨_, rfl⟩
      have HBa : Hid (Below w3.heap.size w3 wa) := by
        show Below _ _ _
        rw [← HWA.out]
        exact Below.drew ((Below.refl _ _).alloc (Nat.le_refl _) _)
      have HXa : Hid (wa.heap[w3.heap.size]? = some (.cells ((vk wrt).cf (([b0, b1, b2, b3], e0), (p1, p2, p3, p4))).toArray 123 (0, 0))) := by
        show _ = _
        rw [← HWA.out]
        exact heap_alloc_new w3 _
      have HCa : Hid (Ch wrt 123 wa c v L) := HC3.out.below HBa.out
      have HAa : Hid (Blk wa w.heap.size [Value.int .u64 (b0 : Int), Value.int .u64 (b1 : Int), Value.int .u64 (b2 : Int), Value.int .u64 (b3 : Int), Value.int .i64 e0]) := Blk.below HA3.out HBa.out (by have := HZ3.out; omega)
      have HZa : Hid (w.heap.size + 1 < wa.heap.size) := Nat.lt_of_lt_of_le HZ3.out HBa.out.size
      have HYa : Hid (Blk wa (w.heap.size + 1) [Value.string p1, Value.string p2, Value.string p3, Value.bool p4]) := Blk.below HY3.out HBa.out HZ3.out
      have CI : Hid (Calls Try.prog 79 #[v, .int .i64 (p : Int), .slice (some ⟨w3.heap.size, 0, none⟩) 1 1] wa fun e w' => ∃ v', e = .returned v' ∧ OR (vk wrt) 123 w' (c + 1) v' (L.take p ++ (([b0, b1, b2, b3], e0), (p1, p2, p3, p4)) :: L.drop p) ∧ wa.grownBy w' v.ownBlock ∧ Nw wa v v') := by
        refine insert_anyW (c + 1) v L _ p w3.heap.size wa HCa.out.own HPL.out (by have := HNL.out; omega) HCa.out.lt HXa.out (fun e => ?_)
        have := (HC3.out.own.lt e).2
        omega
      refine region_cut (fun u => Blk u c [v] ∧ Blk u w.heap.size [Value.int .u64 (b0 : Int), Value.int .u64 (b1 : Int), Value.int .u64 (b2 : Int), Value.int .u64 (b3 : Int), Value.int .i64 e0] ∧ Blk u (w.heap.size + 1) [Value.string p1, Value.string p2, Value.string p3, Value.bool p4]) 9 11 Try.mixed (by kernel_rfl) (by decide) (by kernel_rfl) ⟨HC3d.out.blk, HA3d.out, HY3d.out⟩ ?_
      simp only [List.take_succ_cons, List.take_zero, List.drop_succ_cons, List.drop_zero]
      refine c_move rfl _ rfl (.pointer (some ⟨c, 0, none⟩)) rfl (fun _ _ _ h => h) (fun K hK => ?_)
      go_simp
      refine hK _ ?_
      clear hK K
      refine c_move rfl _ rfl (.pointer (some ⟨c, 0, none⟩)) rfl (fun _ _ _ h => h) (fun K hK => ?_)
      go_simp
      refine hK _ ?_
      clear hK K
      refine c_value rfl (.pointer (some ⟨c, 0, none⟩)) (fun u hu => by go_simp) (fun _ _ _ h => h) (fun K hK => ?_)
      go_simp
      refine hK _ ?_
      clear hK K
      refine c_value rfl (.pointer (some ⟨c, 0, none⟩)) (fun u hu => by go_simp) (fun _ _ _ h => h) (fun K hK => ?_)
      go_simp
      refine hK _ ?_
      clear hK K
      refine c_value rfl v (fun u hu => by have hs := hu.1.cell 0 v rfl; go_simp) (fun _ _ _ h => h) (fun K hK => ?_)
      go_simp
      refine hK _ ?_
      clear hK K
      refine c_move rfl _ rfl (.int .i64 (p : Int)) rfl (fun _ _ _ h => h) (fun K hK => ?_)
      go_simp
      refine hK _ ?_
      clear hK K
      refine c_blk_load rfl 35 _ rfl w.heap.size rfl [Value.int .u64 (b0 : Int), Value.int .u64 (b1 : Int), Value.int .u64 (b2 : Int), Value.int .u64 (b3 : Int), Value.int .i64 e0] (fun u hu => hu.2.1) _ Try.underlying35 rfl HSs.out (fun _ _ _ h => h) (fun K hK => ?_)
      go_simp
      refine hK _ ?_
      clear hK K
      refine c_blk_load rfl 42 _ rfl (w.heap.size + 1) rfl [Value.string p1, Value.string p2, Value.string p3, Value.bool p4] (fun u hu => hu.2.2) _ Try.underlying42 rfl It.Try.size_w (fun _ _ _ h => h) (fun K hK => ?_)
      go_simp
      refine hK _ ?_
      clear hK K
      refine c_value rfl (.agg #[.int .u64 (b0 : Int), .int .u64 (b1 : Int), .int .u64 (b2 : Int), .int .u64 (b3 : Int), .int .i64 e0, .string p1, .string p2, .string p3, .bool p4]) (fun u hu => by go_simp) (fun _ _ _ h => h) (fun K hK => ?_)
      go_simp
      refine hK _ ?_
      clear hK K
      refine c_nil ?_
      refine t_step ?_
      go_wp2_with fail
      rw [HWA.out]
      refine And.intro (fun _ => And.intro HCa.out.blk (And.intro HAa.out HYa.out)) ?_
      refine t_step ?_
      go_wp2_with (first | (go_at_call 79; refine Calls.mono CI.out ?_; rintro e w4 ⟨v', rfl, ho, hg, hn⟩))
      have HC4 : Hid (Blk w4 c [v]) := blk_grown hg HCa.out.blk HCa.out.lt HCa.out.ne
      have HA4 : Hid (Blk w4 w.heap.size [Value.int .u64 (b0 : Int), Value.int .u64 (b1 : Int), Value.int .u64 (b2 : Int), Value.int .u64 (b3 : Int), Value.int .i64 e0]) := blk_grown hg HAa.out (by have := HZa.out; omega) HNE.out.2.1
      have HY4 : Hid (Blk w4 (w.heap.size + 1) [Value.string p1, Value.string p2, Value.string p3, Value.bool p4]) := blk_grown hg HYa.out HZa.out HNE.out.2.2
      have HO4 := Lib.hid ho
      have HT4 : Hid (Tw c v.ownBlock w w4) := (Tw.of_below (HB3.out.trans (HBa.out.mono HB3.out.size))).trans (Tw.of_grown hg)
      have HN4 : Hid (Nw w v v') := hn.mono (Nat.le_trans HB3.out.size HBa.out.size)
      obtain ⟨av, cv, ev, _⟩ := ho.is.is
      obtain ⟨nv, HNV⟩ : ∃ nv, Hid ((L.take p ++ (([b0, b1, b2, b3], e0), (p1, p2, p3, p4)) :: L.drop p).length = nv) := ⟨_, rfl⟩
      rw [HNV.out] at ev
      subst ev
      clear ho hg hn
      refine And.intro (fun _ => And.intro HC4.out (And.intro HA4.out HY4.out)) ?_
      refine t_rest (by omega) ?_
      have hc4 := HC4.out.cell 0 v rfl
      have hf4 := HC4.out.free 0 (by simp)
      go_wp2_with fail
      go_ret
      have hup := HUP.out
      have hu9 := Upd.setCell w4 c 0 (.slice av nv cv)
      refine ⟨_, rfl, ⟨Blk.setc HC4.out 0 (by simp) _, ?_, hup⟩, HT4.out.trans (Tw.of_upd hu9), HN4.out⟩
      refine HO4.out.grown (grownBy_upd hu9) (fun g hg e => ?_)
      have h1 := (HO4.out.lt hg).1
      have h2 := Option.some.inj e
      omega
end Go.Proofs.Ytohcdonmdnjgoaa.Ch

namespace Go.Proofs.Ytohcdonmdnjgoaa.Ch

open Go.RowKit Go.Shelf Go.Proofs.Ytohcdonmdnjgoaa.Vc Go.Proofs.Ytohcdonmdnjgoaa.Sp Go.Proofs.Ytohcdonmdnjgoaa.Rw Go.Proofs.Ytohcdonmdnjgoaa.Fn

set_option linter.unusedVariables false

set_option linter.unusedSimpArgs false

set_option maxRecDepth 100000
attribute [local go_sem] Oper.semAt_some
/-- the four numbers that lie in the cells -/
def n4W (l : List Nat) : List Nat := [l.getD 0 0, l.getD 1 0, l.getD 2 0, l.getD 3 0]
theorem n4_eqW {l : List Nat} (h : l.length = 4) : n4W l = l := by obtain ⟨x, y, z, t, rfl⟩ := V.four h; rfl
theorem cf_n4W (x : C.Vr I.Wt) : (vk wrt).cf x = (ks .u64 (n4W x.1.1) ++ [.int .i64 x.1.2]) ++ wrt.cs x.2 := rfl
/-- from the last one back -/
def dnW (L : List (C.Vr I.Wt)) (k : Nat) : List (Nat × C.Vr I.Wt) := (List.range k).map fun j => (L.length - 1 - j, L.getD (L.length - 1 - j) (vk wrt).none_)
theorem dn_succW (L : List (C.Vr I.Wt)) (k : Nat) : dnW L (k + 1) = dnW L k ++ [(L.length - 1 - k, L.getD (L.length - 1 - k) (vk wrt).none_)] := by simp [dnW, List.range_succ]
theorem dn_lenW (L : List (C.Vr I.Wt)) (k : Nat) : (dnW L k).length = k := by simp [dnW]
/-- one version, as yield's two arguments -/
def encW (x : Nat × C.Vr I.Wt) : Array Value := #[.int .i64 (x.1 : Int), (vk wrt).val x.2]
set_option maxHeartbeats 2000000 in
theorem back_inW (F : Fence) (n : Nat) (hf : F.fn 85) (hro : F.round = none) (hn : 1 ≤ n) (l Bs n₀ : Nat) (v : Value) (L : List (C.Vr I.Wt)) (hB : Bs < n₀) (J Jx : List (Nat × C.Vr I.Wt) → World → Prop)
    (hY : ∀ pre x W, J pre W → pre.length < L.length → YieldAt F (n - 1) Try.prog l (encW x) W fun e W' =>
      (e = .returned (.bool true) ∧ J (pre ++ [x]) W' ∧ Below n₀ W W') ∨ (e = .returned (.bool false) ∧ Jx (pre ++ [x]) W'))
    (W : World) (hBs : W.cell? ⟨Bs, 0, none⟩ = some v) (hL : IsR (vk wrt) W v L) (hb : ∀ g, v.ownBlock = some g → g < n₀) (hl : L.length < 1000000) (h0 : J [] W) :
    CallsIn F n Try.prog 85 #[.func (.yield l) #[] #[], .pointer (some ⟨Bs, 0, none⟩)] W fun e W' => (∃ v, e = .returned v) ∧
      ((∃ ys, ys = dnW L L.length ∧ J ys W') ∨ (∃ pre, (∃ k, k ≤ L.length ∧ pre = dnW L k) ∧ Jx pre W')) := by
  obtain ⟨sa, cap, rfl, hca, hma, _⟩ := hL.is
  have HL := Lib.hid hL
  have k0 : IntKind.i64.wrap ((L.length : Int) - 1) = (L.length : Int) - 1 := by rw [IntKind.wrap_i64]; omega
  obtain ⟨m, HN⟩ : ∃ m, Hid (L.length = m) := ⟨_, rfl⟩
  rw [HN.out] at HL hl hY k0 ⊢
  have HDS : Hid (∀ k, dnW L (k + 1) = dnW L k ++ [(m - 1 - k, L.getD (m - 1 - k) (vk wrt).none_)]) := fun k => by rw [← HN.out]; exact dn_succW L k
  rw [HN.out] at hBs
  clear hL
  refine callsIn_of_wp Try.func85 rfl hf ?_ hro
  simp only [Try.ntmps85, List.size_toArray, List.length_cons, List.length_nil, Nat.reduceAdd, Nat.reduceSub, Array.replicate_succ, Array.replicate_zero, List.push_toArray, List.append_toArray, List.nil_append, List.cons_append]
  gi_wp2
  gi_loopw [3] (fun i wr => ∃ k : Nat, k ≤ m ∧ i = .int .i64 ((m : Int) - 1 - k) ∧ J (dnW L k) wr ∧ Below n₀ W wr) (fun i _ => (intOf i + 1).toNat)
  case atStart => exact ⟨0, Nat.zero_le _, by simp, h0, Below.refl _ _⟩
  case round =>
    obtain ⟨k, hk, rfl, hJs, hnx⟩ := hrel
    have cB : wr.cell? ⟨Bs, 0, none⟩ = some (.slice sa m cap) := (hnx.cell (p := ⟨Bs, 0, none⟩) hB).trans hBs
    by_cases hlt : k < m
    · have ilt : (0 : Int) ≤ (m : Int) - 1 - k := by omega
      have e1 : (m : Int) - 1 - k = ((m - 1 - k : Nat) : Int) := by omega
      obtain ⟨g, off, cap', hv, hg0, hrow⟩ := IsR.at HL.out (m - 1 - k) (by rw [HN.out]; omega)
      obtain rfl : sa = some ⟨g, off, none⟩ := by injection hv
      have hgn := hb g rfl
      have hj : m - 1 - k < m := by omega
      have HDk := HDS.out k
      obtain ⟨j, HJ⟩ : ∃ j, Hid (m - 1 - k = j) := ⟨_, rfl⟩
      rw [HJ.out] at hrow hj e1 HDk
      obtain ⟨x, HX⟩ : ∃ x, Hid (L.getD j (vk wrt).none_ = x) := ⟨_, rfl⟩
      rw [HX.out] at hrow HDk
      have hrow2 : Hid (wr.rangeAt g (off + 9 * j) ((vk wrt).cf x)) := fun i u hu => by rw [hnx.cell (p := ⟨g, off + 9 * j + i, none⟩) hgn]; exact hrow i u hu
      have hix : ∀ w, (Instr.indexAt 135 (.slice (some ⟨g, off, none⟩) m cap) (.int .i64 (j : Int))).run Try.prog w = .ok (.pointer (some ⟨g, off + 9 * j, none⟩)) w := fun w => index_vW g off m cap j hj w
      obtain ⟨fn, tmps, assign, body, hy, hR⟩ := hY _ (j, x) wr hJs (by rw [dn_lenW]; exact hlt)
      dsimp only [encW, Kd.val] at hy
      clear hv hrow hg0
      rw [e1]
      have ilt : (0 : Int) ≤ (j : Int) := by omega
      gi_wp2_with (first | refine in_mid_load rfl 123 _ rfl g (off + 9 * j) rfl ((vk wrt).cf x) hrow2.out _ Try.underlying123 rfl size_vW ?_)
      refine hR.mono ?_
      rintro e W3 (⟨rfl, hJ3, hk3⟩ | ⟨rfl, hJx3⟩)
      · have hn3 := hnx.trans hk3
        rw [← HDk] at hJ3
        have k5 : IntKind.i64.wrap ((j : Int) - 1) = (j : Int) - 1 := by rw [IntKind.wrap_i64]; omega
        gi_wp2
        go_roundw
        case rel => exact ⟨k + 1, by omega, by congr 1 <;> omega, hJ3, hn3⟩
        case measure => simp [intOf] <;> omega
      · rw [← HDk] at hJx3
        gi_wp2
        refine bodyPost_ret (results_none rfl _ _ _) rfl ?_
        exact ⟨⟨_, rfl⟩, .inr ⟨_, ⟨k + 1, by omega, rfl⟩, hJx3⟩⟩
    · obtain rfl : k = m := by omega
      have ilt : ¬ (0 : Int) ≤ (k : Int) - 1 - k := by omega
      gi_wp2
      go_end0
      first | exact ⟨⟨_, rfl⟩, .inl ⟨_, rfl, hJs⟩⟩ | exact ⟨⟨_, rfl⟩, .inl hJs⟩ | exact ⟨⟨_, rfl⟩, hJs⟩ | exact .inl hJs
/-- slices.Backward(s) -/
theorem back_ofW (F : Fence) (n : Nat) (h : F.fn 77) (hro : F.round = none) (sa : Option Addr) (m cap : Nat) (w : World) :
    CallsIn F n Try.prog 77 #[.slice sa m cap] w fun e w' => e = .returned (.func (.func 85) #[] #[.pointer (some ⟨w.heap.size, 0, none⟩)]) ∧ w' = w.alloc (.cells #[.slice sa m cap] 135) := by
  refine callsIn_of_wp Try.func77 rfl h ?_ hro
  simp only [Try.ntmps77, List.size_toArray, List.length_cons, List.length_nil, Nat.reduceAdd, Nat.reduceSub, Array.replicate_succ, Array.replicate_zero, List.push_toArray, List.append_toArray, List.nil_append, List.cons_append]
  gi_wp2
  go_ret
  exact ⟨rfl, rfl⟩
theorem back_stopsW (F : Fence) (n : Nat) (hf : F.fn 85) (hro : F.round = none) (hn : 1 ≤ n) (Bs n₀ : Nat) (v : Value) (L : List (C.Vr I.Wt)) (w : World) (hB : Bs < n₀) (hn₀ : n₀ ≤ w.heap.size)
    (hc : w.cell? ⟨Bs, 0, none⟩ = some v) (hL : IsR (vk wrt) w v L) (hb : ∀ g, v.ownBlock = some g → g < n₀) (hl : L.length < 1000000) :
    SeqStopsK F n Try.prog 85 #[.pointer (some ⟨Bs, 0, none⟩)] encW (Below n₀) (fun ys => ys = dnW L L.length) (fun pre => ∃ k, k ≤ L.length ∧ pre = dnW L k) L.length w := fun l J Jx W hW _ _ hY h0 => by
  have hc' := (hW.cell (p := ⟨Bs, 0, none⟩) (by show Bs < _; omega)).trans hc
  exact back_inW F n hf hro hn l Bs n₀ v L hB J Jx hY W hc' (hL.below hW) hb hl h0
theorem info_vW : (Try.prog.info? 123).map (fun i => (i.zero, i.size)) = some (some (.agg [Value.int .u64 0, .int .u64 0, .int .u64 0, .int .u64 0, .int .i64 0, .string ⟨#[]⟩, .string ⟨#[]⟩, .string ⟨#[]⟩, .bool false].toArray), 9) := by kernel_rfl
theorem cf_zeroW : (vk wrt).cf (vk wrt).none_ = [Value.int .u64 0, .int .u64 0, .int .u64 0, .int .u64 0, .int .i64 0, .string ⟨#[]⟩, .string ⟨#[]⟩, .string ⟨#[]⟩, .bool false] := rfl
/-- what is seen when the first k from the end are looked at -/
theorem dn_noneW {L : List (C.Vr I.Wt)} {h : List Nat} (hu : C.Up L) (hn : ∀ p ∈ dnW L L.length, V.leq (n4W p.2.1.1) h = false) : C.read L h = none := by
  rw [C.read_none]
  intro x hx
  have h4 := hu.four x hx
  obtain ⟨i, hi, e⟩ := List.getElem_of_mem hx
  have := hn (i, x) (by
    unfold dnW
    rw [List.mem_map]
    refine ⟨L.length - 1 - i, by rw [List.mem_range]; omega, ?_⟩
    rw [show L.length - 1 - (L.length - 1 - i) = i by omega, List.getD_eq_getElem?_getD, List.getElem?_eq_getElem hi, e]
    rfl)
  rw [show ((i, x) : Nat × C.Vr I.Wt).2 = x from rfl, n4_eqW h4] at this
  exact this
theorem dn_someW {L : List (C.Vr I.Wt)} {h : List Nat} {k : Nat} (hu : C.Up L) (hk : k < L.length) (hn : ∀ p ∈ dnW L k, V.leq (n4W p.2.1.1) h = false) (hs : V.leq (n4W (L.getD (L.length - 1 - k) (vk wrt).none_).1.1) h = true) : C.read L h = some (L.getD (L.length - 1 - k) (vk wrt).none_) := by
  have hx := C.getD_some (show L.length - 1 - k < L.length by omega) (vk wrt).none_
  have h4 := hu.four _ (List.mem_of_getElem? hx)
  rw [n4_eqW h4] at hs
  refine C.read_at L h (L.length - 1 - k) _ hx hs fun j y hj hy => ?_
  have hjl := (List.getElem?_eq_some_iff.1 hy).1
  have hy4 := hu.four y (List.mem_of_getElem? hy)
  have := hn (j, y) (by
    unfold dnW
    rw [List.mem_map]
    refine ⟨L.length - 1 - j, by rw [List.mem_range]; omega, ?_⟩
    rw [show L.length - 1 - (L.length - 1 - j) = j by omega, List.getD_eq_getElem?_getD, hy]
    rfl)
  rw [show ((j, y) : Nat × C.Vr I.Wt).2 = y from rfl, n4_eqW hy4] at this
  exact this
set_option maxHeartbeats 4000000 in
theorem readW (c : Nat) (v : Value) (L : List (C.Vr I.Wt)) (at_ : List Nat) (w : World) (hch : Ch wrt 123 w c v L) (ha : at_.length = 4) (hn : L.length < 1000) :
    Calls Try.prog 56 #[.pointer (some ⟨c, 0, none⟩), AV .u64 at_] w fun e w' => e = .returned (.tuple #[(vk wrt).val ((C.read L at_).getD (vk wrt).none_), .bool (C.read L at_).isSome]) ∧ Below w.heap.size w w' := by
  obtain ⟨a0, a1, a2, a3, rfl⟩ := V.four ha
  have CS := Lib.hid (fun (x : C.Vr I.Wt) (u : World) => sseen_any (n4W x.1.1) [a0, a1, a2, a3] x.1.2 u rfl rfl)
  have HCH := Lib.hid hch
  obtain ⟨sa, cap, ev, _⟩ := hch.own.is.is
  subst ev
  have cc := hch.cell
  refine (callsIn_wide (n := 3)).1 ?_
  refine callsIn_of_wp_marks Try.func56 rfl trivial ?_ rfl
  simp only [Try.ntmps56, List.size_toArray, List.length_cons, List.length_nil, Nat.reduceAdd, Nat.reduceSub, Array.replicate_succ, Array.replicate_zero, List.push_toArray, List.append_toArray, List.nil_append, List.cons_append]
  gi_wp2_with (first | refine in_blk_box rfl 33 _ rfl (ks .u64 [a0, a1, a2, a3]) rfl ?_)
  intro w1 A1 B1 Z1
  gi_wp2_with (first | refine in_blk_alloc rfl 123 ((vk wrt).cf (vk wrt).none_) rfl info_vW ?_)
  intro w2 A2 B2 Z2
  have bx := Boxed.new w2 4 (.bool false)
  have HA2 : Hid (Blk w2 w.heap.size (ks .u64 [a0, a1, a2, a3])) := Blk.below A1 B2 (by omega)
  have HR2 : Hid (Blk w2 (w.heap.size + 1) ((vk wrt).cf (vk wrt).none_)) := by first | exact A2 | (have h := A2; rw [Z1] at h; exact h)
  have HB2 : Hid (Below w.heap.size w w2) := B1.trans (B2.mono (by omega))
  have hz2 : w2.heap.size = w.heap.size + 2 := by omega
  clear A1 B1 Z1 A2 B2 Z2
  have cc2 : (w2.alloc (.cells #[.bool false] 4)).cell? ⟨c, 0, none⟩ = some (.slice sa L.length cap) := ((HB2.out.alloc (by omega) _).cell (p := ⟨c, 0, none⟩) HCH.out.lt).trans cc
  have HBk := Lib.hid bx
  clear bx
  gi_wp2_with (refine ⟨trivial, ?_⟩; gi_at_call 77; refine (back_ofW Fence.wide _ trivial rfl _ _ _ _).mono ?_; rintro e w' ⟨rfl, rfl⟩)
  obtain ⟨W0, hW0⟩ : ∃ z, Hid ((w2.alloc (.cells #[.bool false] 4)).alloc (.cells #[.slice sa L.length cap] 135) = z) := ⟨_, rfl⟩
  rw [hW0.out]
  have hs0 : W0.heap.size = w.heap.size + 4 := by rw [← hW0.out]; simp; omega
  have hBW : Below w2.heap.size w2 W0 := by rw [← hW0.out]; exact ((Below.refl _ _).alloc (Nat.le_refl _) _).alloc (by simp) _
  have HB0 : Hid (Below w.heap.size w W0) := HB2.out.trans (hBW.mono HB2.out.size)
  have HA0 : Hid (Blk W0 w.heap.size (ks .u64 [a0, a1, a2, a3])) := Blk.below HA2.out hBW (by omega)
  have HR0 : Hid (Blk W0 (w.heap.size + 1) ((vk wrt).cf (vk wrt).none_)) := Blk.below HR2.out hBW (by omega)
  have HK0 : Hid (Blk W0 (w.heap.size + 2) [.bool false]) := by
    show Blk _ _ _
    rw [← hz2, ← hW0.out]
    exact Blk.alloc (Blk.of_row (heap_alloc_last w2 _)) _
  have hc0 : W0.cell? ⟨w.heap.size + 3, 0, none⟩ = some (.slice sa L.length cap) := by
    have h9 := heap_alloc_last (w2.alloc (.cells #[.bool false] 4)) (.cells #[.slice sa L.length cap] 135)
    rw [World.size_alloc, hz2, hW0.out] at h9
    rw [cell_of_row _ _ _ _ _ (0, 0) h9]
    rfl
  have hz3 : (w2.alloc (.cells #[.bool false] 4)).heap.size = w.heap.size + 3 := by simp; omega
  have HI0 := Lib.hid (HCH.out.own.is.below HB0.out)
  have hown : ∀ g, (Value.slice sa L.length cap).ownBlock = some g → g < W0.heap.size := fun g hg => by have := (HCH.out.own.lt hg).2; omega
  have HF := Lib.hid HCH.out.up.four
  clear hW0 hBW cc2 HBk HA2 HR2 HB2 cc
  try simp only [hz3]
  refine wpIn_rangeFunc_ownH rfl (by decide) (gf := 85) (lb := #[.pointer (some ⟨w.heap.size + 3, 0, none⟩)]) rfl trivial (enters_of Try.func85 (by kernel_rfl) rfl)
    (back_stopsW Fence.wide (3 - 1) trivial rfl (by decide) (w.heap.size + 3) W0.heap.size (.slice sa L.length cap) L W0 (by omega) (Nat.le_refl _) hc0 HI0.out hown (by omega)) belowK_t (belowK_b (Nat.le_refl _)) (Below.refl _ _) (fun _ => rfl)
    (fun pre W => (∀ p ∈ pre, V.leq (n4W p.2.1.1) [a0, a1, a2, a3] = false) ∧ Below W0.heap.size W0 W)
    (fun c pre W => (((c = .ret ∧ ∃ ini last, pre = ini ++ [last] ∧ (∀ p ∈ ini, V.leq (n4W p.2.1.1) [a0, a1, a2, a3] = false) ∧ V.leq (n4W last.2.1.1) [a0, a1, a2, a3] = true ∧ Blk W (w.heap.size + 1) ((vk wrt).cf last.2)) ∧ Blk W (w.heap.size + 2) [.bool true])) ∧ Below w.heap.size w W)
    (OwnFrom.and (ownFrom_pure _ _) (ownFrom_below (Nat.le_refl _) (Nat.le_refl _)))
    (fun c => OwnFrom.and (OwnFrom.and (Own.from (fun s A B row hs hg hr => by obtain ⟨h1, ini, last, e1, e2, e3, e4⟩ := hs; exact ⟨h1, ini, last, e1, e2, e3, blk_own e4 hg hr⟩) _) (Own.from (fun s A B row hs hg hr => blk_own hs hg hr) _)) (ownFrom_below (Nat.le_refl _) (by omega)))
    ⟨by simp, Below.refl _ _⟩
    (fun x a' W => ∃ b, W0.heap.size ≤ b ∧ Blk W b ((vk wrt).cf x.2) ∧ a' = { tmps := #[.pointer (some ⟨c, 0, none⟩), AV .u64 [a0, a1, a2, a3], undef, .pointer (some ⟨w.heap.size, 0, none⟩), .pointer (some ⟨w.heap.size + 1, 0, none⟩), .pointer (some ⟨w.heap.size + 2, 0, none⟩), undef, .pointer (some ⟨b, 0, none⟩), .pointer (some ⟨c, 0, none⟩), .pointer (some ⟨c, 0, none⟩), .pointer (some ⟨c, 0, none⟩), .slice sa L.length cap, .func (.func 85) #[] #[.pointer (some ⟨w.heap.size + 3, 0, none⟩)], .int .i64 (x.1 : Int), (vk wrt).val x.2, undef, undef, undef, undef, undef, undef], defers := [] })
    (fun x a' _ X Y row hs hg hr => by obtain ⟨b, e1, e2, e3⟩ := hs; exact ⟨b, e1, blk_own e2 hg (fun r e => (hr r e).2), e3⟩)
    ?assign ?body ?done ?stop
  case assign =>
    rintro l pre x W K ⟨hp, hb⟩ hK
    unfold encW Kd.val
    gi_wp2_with (first | refine in_blk_alloc rfl 123 ((vk wrt).cf (vk wrt).none_) rfl info_vW ?_)
    intro u1 A1 B1 Z1
    gi_wp2_with (first | refine in_blk_store rfl 123 _ _ rfl W.heap.size rfl ((vk wrt).cf x.2) rfl _ A1 rfl size_vW rfl ?_)
    intro u2 A2 U2
    gi_wp2
    have hB2 : Below W.heap.size W u2 := B1.trans (U2.below (Nat.le_refl _))
    exact hK _ _ (keeps_below _ hB2) (hB2.mono hb.size) ⟨hp, hb.trans (hB2.mono hb.size)⟩ ⟨W.heap.size, hb.size, A2, rfl⟩
  case body =>
    rintro l pre x a' W hl _ ⟨hp, hb⟩ ⟨b, hbb, hA, rfl⟩ hlt
    have HAW : Hid (Blk W w.heap.size (ks .u64 [a0, a1, a2, a3])) := Blk.below HA0.out hb (by omega)
    have hRW : Blk W (w.heap.size + 1) ((vk wrt).cf (vk wrt).none_) := Blk.below HR0.out hb (by omega)
    have hKW : Blk W (w.heap.size + 2) [.bool false] := Blk.below HK0.out hb (by omega)
    have hWs := hb.size
    have hAr : W.rangeAt b 0 (ks .u64 (n4W x.2.1.1) ++ [Value.int .i64 x.2.1.2]) := preb (vs := wrt.cs x.2.2) hA
    have hsz : (Try.prog.info? 35).map (·.size) = some (ks .u64 (n4W x.2.1.1) ++ [Value.int .i64 x.2.1.2]).length := Try.size_s
    have hszH := Lib.hid hsz
    clear hsz
    gi_wp2_with (first | refine in_mid_load rfl 35 _ rfl b 0 rfl (ks .u64 (n4W x.2.1.1) ++ [Value.int .i64 x.2.1.2]) hAr _ Try.underlying35 rfl hszH.out ?_ | refine in_mid_load rfl 33 _ rfl w.heap.size 0 rfl (ks .u64 [a0, a1, a2, a3]) HAW.out.1 _ Try.underlying33 rfl Try.size_v ?_)
    refine ⟨trivial, ?_⟩
    refine (CallsIn.inRound l (callsIn_wide.2 (CS.out x.2 _))).mono ?_
    rintro e w5 ⟨rfl, hb5⟩
    have hA5 : Blk w5 b ((vk wrt).cf x.2) := Blk.below hA hb5 (blk_lt hA)
    have hR5 := Blk.below hRW hb5 (by omega)
    have hK5 := Blk.below hKW hb5 (by omega)
    cases hq : V.leq (n4W x.2.1.1) [a0, a1, a2, a3] with
    | false =>
      clear hAr
      gi_wp2
      exact ⟨keeps_below _ hb5, hb5.mono hWs, fun p hp' => (List.mem_append.1 hp').elim (hp p) (fun e => by simp at e; subst e; exact hq), hb.trans (hb5.mono hWs)⟩
    | true =>
      clear hAr
      gi_wp2_with (first | refine in_mid_load rfl 123 _ rfl b 0 rfl ((vk wrt).cf x.2) hA5.1 _ Try.underlying123 rfl size_vW ?_ | refine in_blk_store rfl 123 _ _ rfl (w.heap.size + 1) rfl ((vk wrt).cf x.2) rfl _ hR5 rfl size_vW rfl ?_)
      intro u A U
      have hK6 := Blk.upd hK5 U (by omega)
      have c6 := hK6.cell 0 _ rfl
      have f6 := hK6.free 0 (by simp)
      gi_wp2
      have U9 := Upd.setCell u (w.heap.size + 2) 0 (.bool true)
      have hB9 : Below w.heap.size W (u.setCell ⟨w.heap.size + 2, 0, none⟩ (.bool true)) := ((hb5.mono (by omega)).trans (U.below (by omega))).trans (U9.below (by omega))
      refine ⟨((keeps_below _ hb5).trans (keeps_upd (by omega) U)).trans (keeps_upd (by omega) U9), ⟨⟨rfl, pre, x, rfl, hp, hq, Blk.upd A U9 (by omega)⟩, Blk.setc hK6 0 (by simp) _⟩, (HB0.out.trans (hb.mono (by omega))).trans hB9⟩
  case done =>
    rintro D ys W hD rfl ⟨hp, hb⟩ hK
    have hWs := hb.size
    have hRW : Blk W (w.heap.size + 1) ((vk wrt).cf (vk wrt).none_) := Blk.below HR0.out hb (by omega)
    have hKW : Blk W (w.heap.size + 2) [.bool false] := Blk.below HK0.out hb (by omega)
    have HRD := Lib.hid (dn_noneW HCH.out.up hp)
    gi_wp2_with (first | refine in_value rfl rfl (by intro c hc; cases hc) (v := .agg ((vk wrt).cf (vk wrt).none_).toArray) (by go_simp) ?_ | refine in_blk_store rfl 123 _ _ rfl (w.heap.size + 1) rfl ((vk wrt).cf (vk wrt).none_) rfl _ hRW rfl size_vW rfl ?_)
    intro u A U
    have hK6 := Blk.upd hKW U (by omega)
    have c6 := hK6.cell 0 _ rfl
    have f6 := hK6.free 0 (by simp)
    gi_wp2
    have U9 := Upd.setCell u (w.heap.size + 2) 0 (.bool false)
    have hD0 : W.heap[D]? = some (.deferred (some [])) := hK
    have hne1 : D ≠ w.heap.size + 1 := by omega
    have hne2 : D ≠ w.heap.size + 2 := by omega
    have hK' : (u.setCell ⟨w.heap.size + 2, 0, none⟩ (.bool false)).heap[D]? = some (.deferred (some [])) := by rw [U9.far D hne2, U.far D hne1]; exact hD0
    have hA9 := blk_put (o' := .deferred none) (Blk.upd A U9 (by omega)) hK' rfl
    have hT9 := blk_put (o' := .deferred none) (Blk.setc hK6 0 (by simp) (.bool false)) hK' rfl
    have hB9 : Below w.heap.size W (u.setCell ⟨w.heap.size + 2, 0, none⟩ (.bool false)) := (U.below (by omega)).trans (U9.below (by omega))
    have hBB : Below w.heap.size w (u.setCell ⟨w.heap.size + 2, 0, none⟩ (.bool false)) := (HB0.out.trans (hb.mono (by omega))).trans hB9
    refine ⟨by simp, .inl ⟨_, _, rfl, run_takeDeferred hK', ?_⟩⟩
    refine ⟨.tuple #[(vk wrt).val (vk wrt).none_, .bool false], ?_, by rw [HRD.out]; rfl, hBB.trans (belowK_b (w := w) (Nat.le_refl _) _ D _ _ (by omega) hK' rfl rfl)⟩
    have ct := hT9.cell 0 _ rfl
    exact res_sb Try.results56 _ (w.heap.size + 1) (w.heap.size + 2) rfl rfl _ hA9 _ Try.underlying123 rfl size_vW _ (by simp [go_sem, ct])
  case stop =>
    rintro D c1 pre W hD ⟨k, hk, rfl⟩ ⟨⟨⟨rfl, ini, last, e1, e2, e3, hA⟩, hT⟩, hb⟩ hK
    obtain ⟨k', rfl⟩ : ∃ k', k = k' + 1 := by
      cases k with
      | zero => simp [dnW] at e1
      | succ k' => exact ⟨k', rfl⟩
    rw [dn_succW] at e1
    obtain ⟨rfl, e5⟩ := List.append_inj' e1 rfl
    obtain rfl : (L.length - 1 - k', L.getD (L.length - 1 - k') (vk wrt).none_) = last := by simpa using e5
    have HRD := Lib.hid (dn_someW HCH.out.up (by omega) e2 e3)
    clear e2 e3
    gi_wp2
    have hA9 := blk_put (o' := .deferred none) hA hK rfl
    have hT9 := blk_put (o' := .deferred none) hT hK rfl
    refine ⟨by simp, .inl ⟨_, _, rfl, run_takeDeferred hK, ?_⟩⟩
    refine ⟨.tuple #[(vk wrt).val (L.getD (L.length - 1 - k') (vk wrt).none_), .bool true], ?_, by rw [HRD.out]; rfl, hb.trans (belowK_b (w := w) (Nat.le_refl _) W D _ _ (by omega) hK rfl rfl)⟩
    have ct := hT9.cell 0 _ rfl
    exact res_sb Try.results56 _ (w.heap.size + 1) (w.heap.size + 2) rfl rfl _ hA9 _ Try.underlying123 rfl size_vW _ (by simp [go_sem, ct])
end Go.Proofs.Ytohcdonmdnjgoaa.Ch

namespace Go.Proofs.Ytohcdonmdnjgoaa.Ch

open Go.RowKit Go.Proofs.Ytohcdonmdnjgoaa.Vc Go.Proofs.Ytohcdonmdnjgoaa.Sp Go.Proofs.Ytohcdonmdnjgoaa.Rw

set_option linter.unusedVariables false

set_option linter.unusedSimpArgs false

set_option maxRecDepth 100000

section

variable {P : Program} {ops : Array Oper} {rest : List Oper} {o : Oper} {a : Act} {w : World} {Q : Exit → Act → World → Prop}

theorem mid_loadgW (hw : Region.wanted o (yielded ops a.tmps) = true) (t : TypeId) (x : Operand) (ho : o.op = .load t x) (b p : Nat) (hx : a.eval x = .pointer (some ⟨b, p, none⟩)) (vs : List Value) (hb : w.rangeAt b p vs)
    (d : TypeDesc) (hu : P.underlying t = some d) (hd : d.isRow = true) (hi : (P.info? t).map (·.size) = some vs.length)
    (h : wpList P ops Q rest (a.put o.dst (.agg vs.toArray)) w) : wpList P ops Q (o :: rest) a w :=
  wpList_step fun _ hK => by rw [if_pos hw]; exact wp_load_mid t x ho b p hx vs d hb hu hd hi (hK _ _ h)
end

theorem neq_sW (a b : List Nat) (d e : Int) (ha : a.length = 4) (hb : b.length = 4) (w : World) : (binOp .neq 35 (SV a d) (SV b e)).run Try.prog w = .ok (.bool (!T.same a d b e)) w := by
  have h := eq_gen under_s held_s fields_s Try.underlying33 (fun w => Try.sizeOf33 w) a b d e ha hb w
  have e : binOp .neq 35 (SV a d) (SV b e) = (do pure (.bool (!(← Op.equalIn 10000 35 (SV a d) (SV b e))))) := rfl
  rw [e]
  simp only [Sem.run_bind, h, Result.andThen_ok, Sem.run_pure]
theorem guardn_sW (x y : Operand) (l m : List Nat) (d e : Int) (w : World) : (eqGuard .neq 35 x y (SV l d) (SV m e)).run Try.prog w = .ok () w := by
  unfold SV
  simp [eqGuard, guardType_s]
set_option maxHeartbeats 4000000 in
theorem prune1W (x : C.Vr I.Wt) (h : List Nat) (s : C.St) (z : List Value) (bh bs : Nat) (w : World) (hx : x.1.1.length = 4) (hh : h.length = 4) (hs : s.1.length = 4) (hA : Arr .u64 w bh h) (hB : Blk w bs ((ks .u64 s.1 ++ [.int .i64 s.2]) ++ z)) (hbh : bh < w.heap.size) (hbs : bs < w.heap.size) :
    Calls Try.prog 66 #[(vk wrt).val x, .pointer (some ⟨bh, 0, none⟩), .pointer (some ⟨bs, 0, none⟩)] w fun e w' => e = .returned (.bool (C.seen x.1 h && !decide (x.1 = s))) ∧ Below w.heap.size w w' := by
  obtain ⟨⟨a, d⟩, y⟩ := x
  obtain ⟨b, e0⟩ := s
  have hv := val_W ((a, d), y) hx
  rw [hv]
  dsimp only at hx hs hB ⊢
  have CQ := Lib.hid (fun w => sseen_any a h d w hx hh)
  have HSa := Lib.hid (size_s (d := d) hx)
  have HSb := Lib.hid (size_s (d := e0) hs)
  have HSh := Lib.hid (size_v hh)
  have hsame : T.same a d b e0 = decide (((a, d) : C.St) = (b, e0)) := by
    unfold T.same
    rw [← Bool.decide_and]
    exact decide_eq_decide.2 (by simp)
  have hneq : ∀ w, (binOp .neq 35 (SV a d) (SV b e0)).run Try.prog w = .ok (.bool (!decide (((a, d) : C.St) = (b, e0)))) w := fun w => by rw [← hsame]; exact neq_sW a b d e0 hx hs w
  have hgrd : ∀ x y w, (eqGuard .neq 35 x y (SV a d) (SV b e0)).run Try.prog w = .ok () w := fun x y w => guardn_sW x y a b d e0 w
  show Calls _ _ _ _ fun e w' => e = .returned (.bool (V.leq a h && !decide (((a, d) : C.St) = (b, e0)))) ∧ _
  generalize decide (((a, d) : C.St) = (b, e0)) = r at *
  obtain ⟨u1, u2, u3, u4, HU⟩ : ∃ u1 u2 u3 u4, Hid (wrt.cs y = [u1, u2, u3, u4]) := ⟨_, _, _, _, rfl⟩
  rw [HU.out]
  have HA := Lib.hid hA
  have HB := Lib.hid hB
  unfold SV at hneq hgrd
  cases hq : V.leq a h with
  | false =>
    rw [hq] at CQ
    clear hv hx hh hs hsame hA hB hq hneq hgrd
    show Calls _ _ _ _ fun e w' => e = .returned (.bool false) ∧ _
    go_enter Try.func66, Try.ntmps66
    go_wp2_with (first | refine blk_box rfl 123 _ rfl (ks .u64 a ++ [Value.int .i64 d, u1, u2, u3, u4]) rfl ?_)
    intro w1 A1 B1 Z1
    have HA1 : Hid (Blk w1 w.heap.size ((ks .u64 a ++ [Value.int .i64 d]) ++ [u1, u2, u3, u4])) := by
      show Blk _ _ _
      rw [List.append_assoc]
      exact A1
    have HH1 : Hid (Arr .u64 w1 bh h) := Arr.below HA.out B1 hbh
    have HW1 : Hid (Below w.heap.size w w1) := B1
    clear A1 B1 Z1
    go_wp2_with (first | refine sub_load rfl 35 _ rfl w.heap.size rfl (ks .u64 a ++ [Value.int .i64 d]) [u1, u2, u3, u4] HA1.out _ Try.underlying35 rfl HSa.out ?_ | refine arr_load rfl .u64 33 _ rfl bh rfl h HH1.out 4 31 Try.underlying33 HSh.out ?_)
    refine (CQ.out _).mono ?_; rintro e w3 ⟨rfl, hb3⟩
    have HW3 : Hid (Below w.heap.size w w3) := Below.trans HW1.out (hb3.mono HW1.out.size)
    clear hb3
    go_wp2_with fail
    go_ret
    exact ⟨rfl, HW3.out⟩
  | true =>
    rw [hq] at CQ
    clear hv hx hh hs hsame hA hB hq
    show Calls _ _ _ _ fun e w' => e = .returned (.bool (!r)) ∧ _
    go_enter Try.func66, Try.ntmps66
    go_wp2_with (first | refine blk_box rfl 123 _ rfl (ks .u64 a ++ [Value.int .i64 d, u1, u2, u3, u4]) rfl ?_)
    intro w1 A1 B1 Z1
    have HA1 : Hid (Blk w1 w.heap.size ((ks .u64 a ++ [Value.int .i64 d]) ++ [u1, u2, u3, u4])) := by
      show Blk _ _ _
      rw [List.append_assoc]
      exact A1
    have HZ1 : Hid (w.heap.size < w1.heap.size) := by show _ < _; omega
    have HH1 : Hid (Arr .u64 w1 bh h) := Arr.below HA.out B1 hbh
    have HG1 : Hid (Blk w1 bs ((ks .u64 b ++ [.int .i64 e0]) ++ z)) := Blk.below HB.out B1 hbs
    have HL1 : Hid (bs < w1.heap.size) := Nat.lt_of_lt_of_le hbs B1.size
    have HW1 : Hid (Below w.heap.size w w1) := B1
    clear A1 B1 Z1
    go_wp2_with (first | refine sub_load rfl 35 _ rfl w.heap.size rfl (ks .u64 a ++ [Value.int .i64 d]) [u1, u2, u3, u4] HA1.out _ Try.underlying35 rfl HSa.out ?_ | refine arr_load rfl .u64 33 _ rfl bh rfl h HH1.out 4 31 Try.underlying33 HSh.out ?_)
    refine (CQ.out _).mono ?_; rintro e w3 ⟨rfl, hb3⟩
    have HW3 : Hid (Below w.heap.size w w3) := Below.trans HW1.out (hb3.mono HW1.out.size)
    have HA3 : Hid (w3.rangeAt w.heap.size 0 (ks .u64 a ++ [Value.int .i64 d])) := preb (Blk.below HA1.out hb3 HZ1.out)
    have HG3 : Hid (w3.rangeAt bs 0 (ks .u64 b ++ [Value.int .i64 e0])) := preb (Blk.below HG1.out hb3 HL1.out)
    clear hb3 hbh hbs
    go_wp2_with (first | refine mid_loadgW rfl 35 _ rfl w.heap.size 0 rfl (ks .u64 a ++ [Value.int .i64 d]) HA3.out _ Try.underlying35 rfl HSa.out ?_ | refine mid_loadgW rfl 35 _ rfl bs 0 rfl (ks .u64 b ++ [Value.int .i64 e0]) HG3.out _ Try.underlying35 rfl HSb.out ?_)
    go_ret
    exact ⟨rfl, HW3.out⟩
/-- the first place at which p is -/
def IxW (p : C.Vr I.Wt → Bool) (L : List (C.Vr I.Wt)) (r : Int) : Prop :=
  (r = -1 ∧ ∀ x ∈ L, p x = false) ∨ ∃ i : Nat, r = (i : Int) ∧ i < L.length ∧ p (L.getD i (vk wrt).none_) = true ∧ ∀ j, j < i → p (L.getD j (vk wrt).none_) = false
set_option maxHeartbeats 4000000 in
theorem indexW (c1 c2 : Value) (p : C.Vr I.Wt → Bool) (v : Value) (L : List (C.Vr I.Wt)) (w : World) (hL : IsR (vk wrt) w v L) (hn : L.length < 1000000)
    (hf : ∀ x ∈ L, ∀ u, Below w.heap.size w u → Calls Try.prog 66 #[(vk wrt).val x, c1, c2] u fun e u' => e = .returned (.bool (p x)) ∧ Below u.heap.size u u') :
    Calls Try.prog 80 #[v, .func (.func 66) #[] #[c1, c2]] w fun e w' => ∃ r, e = .returned (.int .i64 r) ∧ IxW p L r ∧ Below w.heap.size w w' := by
  obtain ⟨sa, cap, rfl, hca, hma, _⟩ := hL.is
  obtain ⟨n, HN⟩ : ∃ n, Hid (L.length = n) := ⟨_, rfl⟩
  have HL := Lib.hid hL
  have HFN := Lib.hid hf
  rw [HN.out] at HL hn
  rw [HN.out]
  have HB1 : Hid (Below w.heap.size w w) := Below.refl _ _
  have HE0 : Hid (∀ j, j < 0 → p (L.getD j (vk wrt).none_) = false) := fun j hj => absurd hj (by omega)
  clear hL hca hma hf
  go_enter Try.func80, Try.ntmps80
  go_wp2_with fail
  go_loopw [8] (fun i wr => ∃ j : Nat, j ≤ n ∧ i = .int .i64 j ∧ Hid (∀ k, k < j → p (L.getD k (vk wrt).none_) = false) ∧ Hid (Below w.heap.size w wr)) (fun i _ => n - (intOf i).toNat)
  case atStart => exact ⟨0, by omega, rfl, HE0, HB1⟩
  case round =>
    obtain ⟨j, hj, rfl, HEr, HBr⟩ := hrel
    clear HB1 HE0
    by_cases hlt : j < n
    · have ilt : (j : Int) < (n : Int) := by omega
      obtain ⟨g, off, cap', hv, hg0, hrow⟩ := IsR.at HL.out j (by rw [HN.out]; exact hlt)
      obtain rfl : sa = some ⟨g, off, none⟩ := by injection hv
      clear hv
      have hrow : wr.rangeAt g (off + 9 * j) ((vk wrt).cf (L.getD j (vk wrt).none_)) := fun k v hv => by rw [HBr.out.cell (p := ⟨g, off + 9 * j + k, none⟩) hg0]; exact hrow k v hv
      have hmem : L.getD j (vk wrt).none_ ∈ L := List.mem_of_getElem? (C.getD_some (by rw [HN.out]; exact hlt) _)
      have CF := Lib.hid (HFN.out _ hmem)
      obtain ⟨x, HX⟩ : ∃ x, Hid (L.getD j (vk wrt).none_ = x) := ⟨_, rfl⟩
      rw [HX.out] at hrow CF
      obtain ⟨q, HQ⟩ : ∃ q, Hid (p x = q) := ⟨_, rfl⟩
      rw [HQ.out] at CF
      have HRr := Lib.hid hrow
      have hix : ∀ w, (Instr.indexAt 135 (.slice (some ⟨g, off, none⟩) n cap) (.int .i64 (j : Int))).run Try.prog w = .ok (.pointer (some ⟨g, off + 9 * j, none⟩)) w := fun w => index_vW g off n cap j hlt w
      clear hrow hmem
      go_wp2_with (first | refine wpList_load_mid rfl 123 _ rfl g (off + 9 * j) rfl ((vk wrt).cf x) _ HRr.out Try.underlying123 rfl size_vW ?_)
      refine (CF.out _ HBr.out).mono ?_; rintro e w4 ⟨rfl, hb4⟩
      have HW4 : Hid (Below w.heap.size w w4) := Below.trans HBr.out (hb4.mono HBr.out.size)
      clear hb4 hix CF HRr
      cases q with
      | false =>
        have HE' : Hid (∀ k, k < j + 1 → p (L.getD k (vk wrt).none_) = false) := fun k hk => by
          rcases Nat.lt_or_eq_of_le (Nat.le_of_lt_succ hk) with h | h
          · exact HEr.out k h
          · rw [h, HX.out]; exact HQ.out
        go_wp2_with fail
        go_roundw
        case rel => exact ⟨j + 1, by omega, by go_num, HE', HW4⟩
        case measure => simp [intOf]; omega
      | true =>
        go_wp2_with fail
        go_ret
        exact ⟨_, rfl, .inr ⟨j, rfl, by rw [HN.out]; exact hlt, by rw [HX.out]; exact HQ.out, HEr.out⟩, HW4.out⟩
    · obtain rfl : j = n := by omega
      go_wp2_with fail
      go_ret
      refine ⟨_, rfl, .inl ⟨rfl, fun x hx => ?_⟩, HBr.out⟩
      obtain ⟨i, hi, e⟩ := List.getElem_of_mem hx
      have := HEr.out i (by rw [← HN.out]; exact hi)
      rw [List.getD_eq_getElem?_getD, List.getElem?_eq_getElem hi, e] at this
      exact this
theorem fil_stepW (p : C.Vr I.Wt → Bool) (L : List (C.Vr I.Wt)) (j : Nat) (hj : j < L.length) : (L.take (j + 1)).filter (fun x => !p x) = (L.take j).filter (fun x => !p x) ++ if p (L.getD j (vk wrt).none_) = true then [] else [L.getD j (vk wrt).none_] := by
  rw [C.filter_take L (fun x => !p x) j _ (C.getD_some hj _)]
  cases p (L.getD j (vk wrt).none_) <;> rfl
theorem fil_startW (p : C.Vr I.Wt → Bool) (L : List (C.Vr I.Wt)) (i : Nat) (hi : i ≤ L.length) (h : ∀ j, j < i → p (L.getD j (vk wrt).none_) = false) : (L.take i).filter (fun x => !p x) = L.take i := by
  rw [List.filter_eq_self]
  intro x hx
  obtain ⟨j, hj, e⟩ := List.getElem_of_mem hx
  have hj' : j < i := by rw [List.length_take] at hj; omega
  have := h j hj'
  rw [List.getElem_take] at e
  rw [List.getD_eq_getElem?_getD, List.getElem?_eq_getElem (by omega), e] at this
  rw [show p x = false from this]; rfl
set_option maxHeartbeats 8000000 in
theorem deleteW (c1 c2 : Value) (p : C.Vr I.Wt → Bool) (base : Nat) (v : Value) (L : List (C.Vr I.Wt)) (w : World) (hown : OR (vk wrt) 123 w base v L) (hn : L.length < 100000)
    (hf : ∀ x ∈ L, ∀ u, w.grownBy u v.ownBlock → Calls Try.prog 66 #[(vk wrt).val x, c1, c2] u fun e u' => e = .returned (.bool (p x)) ∧ Below u.heap.size u u') :
    Calls Try.prog 65 #[v, .func (.func 66) #[] #[c1, c2]] w fun e w' => ∃ v', e = .returned v' ∧ OR (vk wrt) 123 w' base v' (L.filter fun x => !p x) ∧ w.grownBy w' v.ownBlock ∧ v'.ownBlock = v.ownBlock := by
  have CI := Lib.hid (indexW c1 c2 p v L w hown.is (by omega) (fun x hx u hu => hf x hx u (grownBy_below hu _)))
  have HFN := Lib.hid hf
  have HOW := Lib.hid hown
  obtain ⟨sa, cap, ev, hca, hma, _⟩ := hown.is.is
  subst ev
  obtain ⟨n, HN⟩ : ∃ n, Hid (L.length = n) := ⟨_, rfl⟩
  rw [HN.out] at CI HOW hca hn
  rw [HN.out]
  rw [HN.out] at HFN
  clear hf hown hma
  go_enter Try.func65, Try.ntmps65
  go_wp2_with fail
  refine CI.out.mono ?_; rintro e w1 ⟨r, rfl, hix, hb1⟩
  rcases hix with ⟨rfl, hall⟩ | ⟨i, rfl, hi, hpi, hbef⟩
  · have HFA : Hid (L.filter (fun x => !p x) = L) := by
      show _ = _
      rw [List.filter_eq_self]
      intro x hx
      rw [hall x hx]; rfl
    have HO1 := Lib.hid (HOW.out.below hb1)
    have HB1 := Lib.hid hb1
    clear hall hb1
    go_wp2_with fail
    go_ret
    rw [HFA.out]
    exact ⟨_, rfl, HO1.out, grownBy_below HB1.out _, rfl⟩
  · rw [HN.out] at hi
    obtain ⟨g, hsa, hg⟩ : ∃ g, sa = some ⟨g, 0, none⟩ ∧ base ≤ g := by
      rcases HOW.out.row with ⟨h0, h1⟩ | ⟨g, cap', cur, hv, hB, _⟩
      · rw [h1] at HN; have := HN.out; simp at this; omega
      · injection hv with h1 _ _
        exact ⟨g, h1, hB⟩
    subst hsa
    have HO1 : Hid (OR (vk wrt) 123 w1 base (.slice (some ⟨g, 0, none⟩) n cap) L) := HOW.out.below hb1
    have HG1 : Hid (w.grownBy w1 (some g)) := grownBy_below hb1 _
    have HT1 : Hid (L.take i = (L.take (i + 1)).filter (fun x => !p x)) := by
      show _ = _
      rw [fil_stepW p L i (by rw [HN.out]; exact hi), if_pos hpi, List.append_nil, fil_startW p L i (by rw [HN.out]; omega) hbef]
    have HD1 : Hid (L.drop (i + 1) = L.drop (i + 1)) := rfl
    have hne1 : ((i : Int) == -1) = false := beq_eq_false_iff_ne.2 (by omega)
    clear hpi hbef hb1
    go_wp2_with fail
    go_loopw [5, 6] (fun a b wr => ∃ (i0 j0 : Nat) (M : List (C.Vr I.Wt)), i0 < j0 ∧ j0 ≤ n ∧ a = .int .i64 i0 ∧ b = .int .i64 j0 ∧ Hid (M.length = n) ∧ Hid (M.take i0 = (L.take j0).filter (fun x => !p x)) ∧ Hid (M.drop j0 = L.drop j0) ∧ Hid (OR (vk wrt) 123 wr base (.slice (some ⟨g, 0, none⟩) n cap) M) ∧ Hid (w.grownBy wr (some g))) (fun _ b _ => n - (intOf b).toNat)
    case atStart => exact ⟨i, i + 1, L, by omega, by omega, rfl, by go_num, HN, HT1, (show Hid (_ = _) from rfl), HO1, HG1⟩
    case round =>
      obtain ⟨i0, j0, M, hij, hjn, rfl, rfl, HMN, HMT, HMD, HOr, HGr⟩ := hrel
      clear HO1 HG1 HT1 HD1 hne1
      by_cases hlt : j0 < n
      · have ilt : (j0 : Int) < (n : Int) := by omega
        have hjM : j0 < M.length := by rw [HMN.out]; exact hlt
        have hjL : j0 < L.length := by rw [HN.out]; exact hlt
        have hsame : M.getD j0 (vk wrt).none_ = L.getD j0 (vk wrt).none_ := by
          have := congrArg (fun l => l[0]?) HMD.out
          simp only [List.getElem?_drop, Nat.add_zero] at this
          rw [List.getD_eq_getElem?_getD, List.getD_eq_getElem?_getD, this]
        obtain ⟨g', off, cap', hv, hg0, hrow⟩ := IsR.at HOr.out.is j0 hjM
        rw [hsame] at hrow
        have hmem : L.getD j0 (vk wrt).none_ ∈ L := List.mem_of_getElem? (C.getD_some hjL _)
        have hfs := fil_stepW p L j0 hjL
        have CF := Lib.hid (HFN.out _ hmem)
        obtain ⟨x, HX⟩ : ∃ x, Hid (L.getD j0 (vk wrt).none_ = x) := ⟨_, rfl⟩
        rw [HX.out] at hrow CF hfs
        obtain ⟨q, HQ⟩ : ∃ q, Hid (p x = q) := ⟨_, rfl⟩
        rw [HQ.out] at CF hfs
        simp only [Value.slice.injEq, Option.some.injEq, Addr.mk.injEq] at hv
        obtain ⟨⟨rfl, rfl, _⟩, hx9, rfl⟩ := hv
        clear hx9
        have hrow : wr.rangeAt g (9 * j0) ((vk wrt).cf x) := fun k u hu => by have := hrow k u hu; rw [Nat.zero_add] at this; exact this
        have HRr := Lib.hid hrow
        have hix : ∀ w, (Instr.indexAt 135 (.slice (some ⟨g, 0, none⟩) n cap) (.int .i64 (j0 : Int))).run Try.prog w = .ok (.pointer (some ⟨g, 9 * j0, none⟩)) w := fun w => by have := index_vW g 0 n cap j0 hlt w; rw [Nat.zero_add] at this; exact this
        have HFS := Lib.hid hfs
        have HGL := Lib.hid hg0
        clear hrow hmem hfs hsame hg0
        go_wp2_with (first | refine wpList_load_mid rfl 123 _ rfl g (9 * j0) rfl ((vk wrt).cf x) _ HRr.out Try.underlying123 rfl size_vW ?_ | refine blk_alloc rfl 123 ((vk wrt).cf (vk wrt).none_) rfl info_vW ?_)
        intro w2 A2 B2 Z2
        go_wp2_with (first | refine blk_store rfl 123 _ _ rfl wr.heap.size rfl ((vk wrt).cf x) rfl _ A2 rfl size_vW rfl ?_)
        intro w3 A3 U3
        have HA3 : Hid (Blk w3 wr.heap.size ((vk wrt).cf x)) := A3
        have HB3 : Hid (Below wr.heap.size wr w3) := B2.trans (U3.below (Nat.le_refl _))
        have HZ3 : Hid (wr.heap.size < w3.heap.size) := by show _ < _; rw [U3.size]; omega
        have HG3 : Hid (w.grownBy w3 (some g)) := grownBy_trans HGr.out (grownBy_below HB3.out _)
        clear A2 B2 Z2 A3 U3 hix
        go_wp2_with (first | refine blk_load rfl 123 _ rfl wr.heap.size rfl ((vk wrt).cf x) HA3.out _ Try.underlying123 rfl size_vW ?_)
        refine (CF.out _ HG3.out).mono ?_; rintro e w4 ⟨rfl, hb4⟩
        have HA4 : Hid (Blk w4 wr.heap.size ((vk wrt).cf x)) := Blk.below HA3.out hb4 HZ3.out
        have HB4 : Hid (Below wr.heap.size wr w4) := Below.trans HB3.out (hb4.mono HB3.out.size)
        have HO4 := Lib.hid (HOr.out.below HB4.out)
        have HG4 : Hid (w.grownBy w4 (some g)) := grownBy_trans HGr.out (grownBy_below HB4.out _)
        have HDn : Hid (M.drop (j0 + 1) = L.drop (j0 + 1)) := by
          show _ = _
          rw [← List.drop_drop, ← List.drop_drop, HMD.out]
        clear hb4 HA3 HB3 HOr HZ3 CF HRr HGr HG3 HMD
        cases q with
        | false =>
          have hi0 : i0 < M.length := by rw [HMN.out]; omega
          have i0n : i0 < n := by omega
          have hix : ∀ w, (Instr.indexAt 135 (.slice (some ⟨g, 0, none⟩) n cap) (.int .i64 (i0 : Int))).run Try.prog w = .ok (.pointer (some ⟨g, 9 * i0, none⟩)) w := fun w => by have := index_vW g 0 n cap i0 i0n w; rw [Nat.zero_add] at this; exact this
          have HMN' : Hid ((M.set i0 x).length = n) := by show _ = _; rw [List.length_set]; exact HMN.out
          have HMT' : Hid ((M.set i0 x).take (i0 + 1) = (L.take (j0 + 1)).filter (fun x => !p x)) := by
            show _ = _
            rw [HFS.out, ← HMT.out, if_neg (by simp), List.take_add_one, List.getElem?_set_self hi0, List.take_set_of_le (Nat.le_refl _)]
            rfl
          have HDn' : Hid ((M.set i0 x).drop (j0 + 1) = L.drop (j0 + 1)) := by show _ = _; rw [List.drop_set_of_lt (by omega)]; exact HDn.out
          go_wp2_with (first | refine blk_load rfl 123 _ rfl wr.heap.size rfl ((vk wrt).cf x) HA4.out _ Try.underlying123 rfl size_vW ?_ | refine or_store (K := vk wrt) rfl 123 _ _ rfl g (9 * i0) rfl x rfl base n cap M HO4.out i0 hi0 rfl size_vW ?_)
          intro w5 ho5 hg5
          have HOs := Lib.hid ho5
          have HGs : Hid (w.grownBy w5 (some g)) := grownBy_trans HG4.out hg5
          clear ho5 hg5 HA4 HO4 HG4
          go_wp2_with fail
          go_roundw
          case rel => exact ⟨i0 + 1, j0 + 1, M.set i0 x, by omega, by omega, by go_num, by go_num, HMN', HMT', HDn', HOs, HGs⟩
          case measure => simp [intOf]; omega
        | true =>
          have HMT' : Hid (M.take i0 = (L.take (j0 + 1)).filter (fun x => !p x)) := by
            show _ = _
            have h9 := HFS.out
            rw [if_pos rfl, List.append_nil] at h9
            rw [h9]; exact HMT.out
          go_wp2_with fail
          go_roundw
          case rel => exact ⟨i0, j0 + 1, M, by omega, by omega, rfl, by go_num, HMN, HMT', HDn, HO4, HG4⟩
          case measure => simp [intOf]; omega
      · obtain rfl : j0 = n := by omega
        have HM0 : Hid (M.take i0 = L.filter (fun x => !p x)) := by
          show _ = _
          rw [HMT.out, List.take_of_length_le (by rw [HN.out]; exact Nat.le_refl _)]
        have hl0 : (M.take i0).length = i0 := by rw [List.length_take, HMN.out]; omega
        rcases HOr.out.row with ⟨h0, h1⟩ | ⟨g', cap', cur, hv, hB, hgl, hh, hnc, hcm, hcs, htake⟩
        · cases h0
        · simp only [Value.slice.injEq, Option.some.injEq, Addr.mk.injEq] at hv
          obtain ⟨⟨rfl, _⟩, hx9, rfl⟩ := hv
          have hk : (vk wrt).k = 9 := rfl
          rw [hk] at hcs htake
          rw [HMN.out] at hnc htake
          obtain ⟨cur', hr, hsz, htk⟩ := run_clear_gen wr 135 123 0 _ 9 Try.underlying135 (zero_of_info info_vW).1 rfl (fun v hv => (vk wrt).one (vk wrt).none_ v hv) g (9 * i0) (j0 - i0) (cap - i0) cur 123 hh (by omega) (by rw [hcs]; omega)
          have HCL : Hid (∀ ty, (Builtin.clear_ #[135] ty #[.slice (some ⟨g, 9 * i0, none⟩) (j0 - i0) (cap - i0)]).run Try.prog wr = .ok (.tuple #[]) (wr.setRow g cur')) := fun ty => hr
          have HO9 : Hid (OR (vk wrt) 123 (wr.setRow g cur') base (.slice (some ⟨g, 0, none⟩) i0 cap) (M.take i0)) := by
            have h9 : OR (vk wrt) 123 (wr.setRow g cur') base (.slice (some ⟨g, 0, none⟩) (M.take i0).length cap) (M.take i0) := by
              refine OR.of hB (setRow_heap wr g cur cur' _ _ hh) (by omega) hcm (by rw [hsz, hcs, hk]) ?_
              rw [hl0, hk, Nat.mul_comm, htk]
              have h8 := congrArg (List.take (9 * i0)) htake
              rw [List.take_take, Nat.min_eq_left (by omega)] at h8
              rw [h8, ← cells_take_drop M i0, List.take_append_of_le_length (by rw [cells_len, hl0, hk]; omega), List.take_of_length_le (by rw [cells_len, hl0, hk]; omega)]
            rw [hl0] at h9
            exact h9
          have HG9 : Hid (w.grownBy (wr.setRow g cur') (some g)) := grownBy_trans HGr.out (grownBy_setRow wr g cur')
          have hz1 : ∀ w, (Instr.sliceAt 135 (.slice (some ⟨g, 0, none⟩) j0 cap) (some (.int .i64 (i0 : Int))) none none).run Try.prog w = .ok (.slice (some ⟨g, 9 * i0, none⟩) (j0 - i0) (cap - i0)) w := fun w => by
            have := run_slice_lo elem_vW Try.underlying135 Try.sizeOf123 g 0 j0 cap i0 (by omega) (by omega) w
            rw [Nat.zero_add] at this
            exact this
          have hz2 : ∀ w, (Instr.sliceAt 135 (.slice (some ⟨g, 0, none⟩) j0 cap) none (some (.int .i64 (i0 : Int))) none).run Try.prog w = .ok (.slice (some ⟨g, 0, none⟩) i0 cap) w := fun w => run_slice_hi elem_vW Try.underlying135 Try.sizeOf123 g 0 j0 cap i0 (by omega) w
          obtain ⟨n1, HN1⟩ : ∃ z, Hid (j0 - i0 = z) := ⟨_, rfl⟩
          obtain ⟨c9, HC9⟩ : ∃ z, Hid (cap - i0 = z) := ⟨_, rfl⟩
          obtain ⟨o9, HO99⟩ : ∃ z, Hid (9 * i0 = z) := ⟨_, rfl⟩
          rw [HN1.out, HC9.out, HO99.out] at hz1 HCL
          rw [HM0.out] at HO9
          clear hr hsz htk hh hcs htake hcm hnc hB hgl hx9 hk hl0
          go_wp2_with (first | refine clear_step rfl _ _ rfl rfl (HCL.out _) ?_)
          go_ret
          exact ⟨_, rfl, HO9.out, HG9.out, rfl⟩
set_option maxHeartbeats 2000000 in
theorem newW (w : World) : Calls Try.prog 76 #[] w fun e w' => e = .returned (.pointer (some ⟨w.heap.size, 0, none⟩)) ∧ Ch wrt 123 w' w.heap.size (.slice none 0 0) [] ∧ Below w.heap.size w w' := by
  go_enter Try.func76, Try.ntmps76
  go_wp2_with (first | refine blk_box rfl 137 _ rfl [Value.slice none 0 0] rfl ?_)
  intro w1 A1 B1 Z1
  have HA := Lib.hid A1
  have HB := Lib.hid B1
  clear A1 B1 Z1
  go_wp2_with fail
  go_ret
  exact ⟨rfl, ⟨HA.out, OR.nil _ _ _, C.Up.nil⟩, HB.out⟩
set_option maxHeartbeats 2000000 in
theorem lenW (c : Nat) (v : Value) (L : List (C.Vr I.Wt)) (w : World) (hch : Ch wrt 123 w c v L) :
    Calls Try.prog 60 #[.pointer (some ⟨c, 0, none⟩)] w fun e w' => e = .returned (.int .i64 (L.length : Int)) ∧ w' = w := by
  have cc := hch.cell
  obtain ⟨sa, cap, ev, _⟩ := hch.own.is.is
  subst ev
  clear hch
  generalize L.length = n at *
  go_enter Try.func60, Try.ntmps60
  go_wp2_with fail
  go_ret
  exact ⟨rfl, rfl⟩
theorem still_midW {P : Program} {ops : Array Oper} {rest : List Oper} {o : Oper} {a : Act} {w : World} {Q : Act → Prop} (hgd : o.guard = none) (t : TypeId) (x : Operand) (ho : o.op = .load t x) (b p : Nat) (hx : a.eval x = .pointer (some ⟨b, p, none⟩)) (vs : List Value) (hb : w.rangeAt b p vs)
    (d : TypeDesc) (hu : P.underlying t = some d) (hd : d.isRow = true) (hi : (P.info? t).map (·.size) = some vs.length)
    (h : wpStill P ops w Q rest (a.put o.dst (.agg vs.toArray))) : wpStill P ops w Q (o :: rest) a := by
  refine still_value hgd (.agg vs.toArray) ?_ h
  have hl := run_loadAt_mid w b p t vs d hb hu hd hi
  unfold execOp
  simp only [ho, hx, Sem.run_bind, hl, Result.andThen_ok, Sem.run_pure]
theorem last_ofW (L : List (C.Vr I.Wt)) (h : 0 < L.length) : L.getLast?.getD (vk wrt).none_ = L.getD (L.length - 1) (vk wrt).none_ := by
  rw [List.getLast?_eq_getElem?, List.getD_eq_getElem?_getD]
set_option maxHeartbeats 4000000 in
theorem lastW (c : Nat) (v : Value) (L : List (C.Vr I.Wt)) (w : World) (hch : Ch wrt 123 w c v L) (hn : L.length < 100000) :
    Calls Try.prog 57 #[.pointer (some ⟨c, 0, none⟩)] w fun e w' => e = .returned (.tuple #[(vk wrt).val (L.getLast?.getD (vk wrt).none_), .bool (decide (0 < L.length))]) ∧ Below w.heap.size w w' := by
  have HCH := Lib.hid hch
  obtain ⟨sa, cap, ev, _⟩ := hch.own.is.is
  subst ev
  by_cases hp : 0 < L.length
  · rw [last_ofW L hp, decide_eq_true hp]
    obtain ⟨g, off, cap', hv, hg0, hrow⟩ := IsR.at hch.own.is (L.length - 1) (by omega)
    obtain rfl : sa = some ⟨g, off, none⟩ := by injection hv
    have hj : L.length - 1 < L.length := by omega
    have hix : ∀ w, (Instr.indexAt 135 (.slice (some ⟨g, off, none⟩) L.length cap) (.int .i64 ((L.length : Int) - 1))).run Try.prog w = .ok (.pointer (some ⟨g, off + 9 * (L.length - 1), none⟩)) w := fun w => by
      have := index_vW g off L.length cap (L.length - 1) hj w
      rw [show ((L.length - 1 : Nat) : Int) = (L.length : Int) - 1 by omega] at this
      exact this
    obtain ⟨x, HX⟩ : ∃ x, Hid (L.getD (L.length - 1) (vk wrt).none_ = x) := ⟨_, rfl⟩
    rw [HX.out] at hrow ⊢
    have cc := hch.cell
    have hne : ((L.length : Int) == 0) = false := beq_eq_false_iff_ne.2 (by omega)
    have k1 : IntKind.i64.wrap ((L.length : Int) - 1) = (L.length : Int) - 1 := by rw [IntKind.wrap_i64]; omega
    have HLT := Lib.hid HCH.out.lt
    clear hv hch hj HX HCH
    generalize L.length = n at *
    obtain ⟨j, HJ⟩ : ∃ j, Hid (n - 1 = j) := ⟨_, rfl⟩
    rw [HJ.out] at hix hrow
    have HRW : Hid (w.rangeAt g (off + 9 * j) ((vk wrt).cf x)) := hrow
    clear hrow
    go_enter Try.func57, Try.ntmps57
    go_wp2_with (first | refine blk_alloc rfl 123 ((vk wrt).cf (vk wrt).none_) rfl info_vW ?_)
    intro w1 A1 B1 Z1
    have cc1 := (B1.cell (p := ⟨c, 0, none⟩) HLT.out).trans cc
    have HR1 : Hid (w1.drew.rangeAt g (off + 9 * j) ((vk wrt).cf x)) := fun k u hu => by rw [World.cell?_drew, B1.cell (p := ⟨g, off + 9 * j + k, none⟩) hg0]; exact HRW.out k u hu
    have HA1 : Hid (Blk w1.drew w.heap.size ((vk wrt).cf (vk wrt).none_)) := A1.drew
    have HB1 : Hid (Below w.heap.size w w1.drew) := B1.drew
    clear A1 B1 Z1 cc
    go_wp2_with fail
    refine region_tail 12 Try.mixed (by kernel_rfl) ?_
    simp only [List.take_succ_cons, List.take_zero, List.drop_succ_cons, List.drop_zero]
    repeat still_step
    refine still_midW rfl 123 _ rfl g (off + 9 * j) rfl ((vk wrt).cf x) HR1.out _ Try.underlying123 rfl size_vW ?_
    refine wpStill_nil ?_
    refine blk_store rfl 123 _ _ rfl w.heap.size rfl ((vk wrt).cf x) rfl _ HA1.out rfl size_vW rfl ?_
    intro u A U
    have HA9 : Hid (Blk u w.heap.size ((vk wrt).cf x)) := A
    have HW9 : Hid (Below w.heap.size w u) := Below.trans HB1.out (U.below (Nat.le_refl _))
    clear A U
    go_wp2_with fail
    refine bodyPost_ret (v := .tuple #[(vk wrt).val x, .bool true]) ?_ rfl ⟨rfl, HW9.out⟩
    exact res_blk2 (t := 123) Try.results57 _ w.heap.size rfl _ HA9.out _ Try.underlying123 rfl size_vW
  · have hl0 : L = [] := List.length_eq_zero_iff.1 (by omega)
    have cc := hch.cell
    rw [decide_eq_false hp, hl0]
    rw [hl0] at cc
    have HLT := Lib.hid HCH.out.lt
    clear hch HCH hp
    show Calls _ _ _ _ fun e w' => e = .returned (.tuple #[(vk wrt).val (vk wrt).none_, .bool false]) ∧ _
    go_enter Try.func57, Try.ntmps57
    go_wp2_with (first | refine blk_alloc rfl 123 ((vk wrt).cf (vk wrt).none_) rfl info_vW ?_)
    intro w1 A1 B1 Z1
    have cc1 := (B1.cell (p := ⟨c, 0, none⟩) HLT.out).trans cc
    have HA1 : Hid (Blk w1 w.heap.size ((vk wrt).cf (vk wrt).none_)) := A1
    have HB1 : Hid (Below w.heap.size w w1) := B1
    clear A1 B1 Z1 cc
    go_wp2_with (first | refine blk_store rfl 123 _ _ rfl w.heap.size rfl ((vk wrt).cf (vk wrt).none_) rfl _ HA1.out rfl size_vW rfl ?_)
    intro u A U
    have HA9 : Hid (Blk u w.heap.size ((vk wrt).cf (vk wrt).none_)) := A
    have HW9 : Hid (Below w.heap.size w u) := Below.trans HB1.out (U.below (Nat.le_refl _))
    clear A U
    go_wp2_with fail
    refine bodyPost_ret (v := .tuple #[(vk wrt).val (vk wrt).none_, .bool false]) ?_ rfl ⟨rfl, HW9.out⟩
    exact res_blk2 (t := 123) Try.results57 _ w.heap.size rfl _ HA9.out _ Try.underlying123 rfl size_vW
theorem keep_isW (L : List (C.Vr I.Wt)) (h : List Nat) : L.filter (fun x => !(C.seen x.1 h && !decide (x.1 = ((C.read L h).getD (vk wrt).none_).1))) = C.keep L h := by
  cases e : C.read L h with
  | none =>
    rw [C.keep_none e, List.filter_eq_self]
    intro x hx
    rw [C.read_none.1 e x hx]
    rfl
  | some b =>
    rw [C.keep_some e]
    congr 1
    funext x
    simp [Bool.not_and, Bool.not_not]
theorem best_fourW {L : List (C.Vr I.Wt)} (hu : C.Up L) (h : List Nat) : ((C.read L h).getD (vk wrt).none_).1.1.length = 4 := by
  cases e : C.read L h with
  | none => rfl
  | some b => exact hu.four b (hu.read e).1
set_option maxHeartbeats 8000000 in
theorem pruneW (c : Nat) (v : Value) (L : List (C.Vr I.Wt)) (h : List Nat) (w : World) (hch : Ch wrt 123 w c v L) (hh : h.length = 4) (hn : L.length < 1000) :
    Calls Try.prog 44 #[.pointer (some ⟨c, 0, none⟩), AV .u64 h] w fun e w' => ∃ v', e = .returned (.int .i64 ((L.length : Int) - ((C.keep L h).length : Int))) ∧ Ch wrt 123 w' c v' (C.keep L h) ∧ Tw c v.ownBlock w w' ∧ Nw w v v' := by
  have HCH := Lib.hid hch
  have HSh := Lib.hid (size_v hh)
  have CRd := Lib.hid (fun u (hu : Ch wrt 123 u c v L) => readW c v L h u hu hh hn)
  have HK := Lib.hid (keep_isW L h)
  have HB4 := Lib.hid (best_fourW hch.up h)
  have HUP := Lib.hid (hch.up.keep h)
  have HKL : Hid ((C.keep L h).length ≤ L.length) := by show _ ≤ _; rw [← HK.out]; exact List.length_filter_le ..
  obtain ⟨best, HBE⟩ : ∃ b, Hid ((C.read L h).getD (vk wrt).none_ = b) := ⟨_, rfl⟩
  rw [HBE.out] at HK HB4
  obtain ⟨q, HQ⟩ : ∃ b, Hid ((C.read L h).isSome = b) := ⟨_, rfl⟩
  have CRd : Hid (∀ u, Ch wrt 123 u c v L → Calls Try.prog 56 #[.pointer (some ⟨c, 0, none⟩), AV .u64 h] u fun e w' => e = .returned (.tuple #[.agg ((vk wrt).cf best).toArray, .bool q]) ∧ Below u.heap.size u w') := fun u hu => by
    have := CRd.out u hu
    rw [HBE.out, HQ.out] at this
    exact this
  obtain ⟨M, HM⟩ : ∃ M, Hid (C.keep L h = M) := ⟨_, rfl⟩
  rw [HM.out] at HK HUP HKL ⊢
  obtain ⟨nv, HNV⟩ : ∃ nv, Hid (M.length = nv) := ⟨_, rfl⟩
  rw [HNV.out] at HKL ⊢
  have HF := Lib.hid hch.up.four
  have HHH := Lib.hid hh
  obtain ⟨sa, cap, ev, _⟩ := hch.own.is.is
  obtain ⟨n, HN⟩ : ∃ n, Hid (L.length = n) := ⟨_, rfl⟩
  rw [HN.out] at ev HKL hn ⊢
  clear hch hh
  go_enter Try.func44, Try.ntmps44
  go_wp2_with (first | refine arr_box rfl .u64 33 _ rfl h rfl ?_)
  intro w1 A1 B1 Z1
  have HA1 : Hid (Arr .u64 w1 w.heap.size h) := A1
  have HB1 : Hid (Below w.heap.size w w1) := B1
  have HZ1 : Hid (w.heap.size < w1.heap.size) := by show _ < _; omega
  clear A1 B1 Z1
  go_wp2_with (first | refine arr_load rfl .u64 33 _ rfl w.heap.size rfl h HA1.out 4 31 Try.underlying33 HSh.out ?_)
  refine (CRd.out _ (HCH.out.below HB1.out)).mono ?_; rintro e w2 ⟨rfl, hb2⟩
  have HB2 : Hid (Below w.heap.size w w2) := Below.trans HB1.out (hb2.mono HB1.out.size)
  have HA2 : Hid (Arr .u64 w2 w.heap.size h) := Arr.below HA1.out hb2 HZ1.out
  have HZ2 : Hid (w.heap.size < w2.heap.size) := Nat.lt_of_lt_of_le HZ1.out hb2.size
  clear hb2 HA1 HB1 HZ1
  go_wp2_with (first | refine blk_alloc rfl 123 ((vk wrt).cf (vk wrt).none_) rfl info_vW ?_)
  intro w3 A3 B3 Z3
  go_wp2_with (first | refine blk_store rfl 123 _ _ rfl w2.heap.size rfl ((vk wrt).cf best) rfl _ A3 rfl size_vW rfl ?_)
  intro w4 A4 U4
  have HS4 : Hid (Blk w4 w2.heap.size ((vk wrt).cf best)) := A4
  have hB24 : Below w2.heap.size w2 w4 := B3.trans (U4.below (Nat.le_refl _))
  have HA4 : Hid (Arr .u64 w4 w.heap.size h) := Arr.below HA2.out hB24 HZ2.out
  have HB4' : Hid (Below w.heap.size w w4) := Below.trans HB2.out (hB24.mono HB2.out.size)
  have HZ4 : Hid (w2.heap.size < w4.heap.size ∧ w.heap.size < w2.heap.size) := ⟨by rw [U4.size]; omega, HZ2.out⟩
  have HC4 : Hid (Ch wrt 123 w4 c v L) := HCH.out.below HB4'.out
  clear A3 B3 Z3 A4 U4 hB24 HA2 HB2 HZ2
  have HNO : Hid (v.ownBlock ≠ some w.heap.size ∧ v.ownBlock ≠ some w2.heap.size) := by
    have hz := HZ4.out
    exact ⟨fun e => by have := (HCH.out.own.lt e).2; omega, fun e => by have := (HCH.out.own.lt e).2; omega⟩
  have CD := Lib.hid (deleteW (.pointer (some ⟨w.heap.size, 0, none⟩)) (.pointer (some ⟨w2.heap.size, 0, none⟩)) (fun x => C.seen x.1 h && !decide (x.1 = best.1)) (c + 1) v L w4 HC4.out.own (by rw [HN.out]; omega) (fun x hx u hu => by
    have hz := HZ4.out
    have hA : Arr .u64 u w.heap.size h := Blk.arr (blk_grown hu (b := w.heap.size) (vs := ks .u64 h) ⟨HA4.out.1, by rw [ks_length]; exact HA4.out.2⟩ (by omega) HNO.out.1)
    have hB : Blk u w2.heap.size ((ks .u64 best.1.1 ++ [.int .i64 best.1.2]) ++ wrt.cs best.2) := by
      have := blk_grown hu HS4.out hz.1 HNO.out.2
      rw [vk_stamp wrt best HB4.out] at this
      exact this
    exact prune1W x h best.1 (wrt.cs best.2) w.heap.size w2.heap.size u (HF.out x hx) HHH.out HB4.out hA hB (Nat.lt_of_lt_of_le (by omega) hu.size) (Nat.lt_of_lt_of_le hz.1 hu.size)))
  rw [HK.out] at CD
  have cc4 := HC4.out.cell
  subst ev
  go_wp2_with fail
  refine CD.out.mono ?_; rintro e w5 ⟨v', rfl, ho, hg, hv'⟩
  have HC5 : Hid (Blk w5 c [.slice sa n cap]) := blk_grown hg HC4.out.blk HC4.out.lt HC4.out.ne
  have HO5 := Lib.hid ho
  have HT5 : Hid (Tw c (Value.slice sa n cap).ownBlock w w5) := (Tw.of_below HB4'.out).trans (Tw.of_grown hg)
  have HN5 : Hid (Nw w (.slice sa n cap) v') := .inl hv'
  obtain ⟨av, cv, ev, _⟩ := ho.is.is
  rw [HNV.out] at ev
  subst ev
  clear ho hg hv' cc4
  have hc5 := HC5.out.cell 0 _ rfl
  have hf5 := HC5.out.free 0 (by simp)
  have hkl := HKL.out
  have k1 : IntKind.i64.wrap ((n : Int) - (nv : Int)) = (n : Int) - (nv : Int) := by rw [IntKind.wrap_i64]; omega
  go_wp2_with fail
  go_ret
  have hu9 := Upd.setCell w5 c 0 (.slice av nv cv)
  refine ⟨_, rfl, ⟨Blk.setc HC5.out 0 (by simp) _, ?_, HUP.out⟩, HT5.out.trans (Tw.of_upd hu9), HN5.out⟩
  refine HO5.out.grown (grownBy_upd hu9) (fun g hg e => ?_)
  have h1 := (HO5.out.lt hg).1
  have h2 := Option.some.inj e
  omega
end Go.Proofs.Ytohcdonmdnjgoaa.Ch
