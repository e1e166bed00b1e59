/- chain, int: where a stamp is found. -/
import Derived.Test.YtmajkapapbhabaaChainSeek

import Derived.Test.YtmajkapapbhabaaStampA

import Derived.Test.YtmajkapapbhabaaStampB

import Derived.Test.YtmajkapapbhabaaQuietF

namespace Go.Proofs.Ytmajkapapbhabaa.Ch

open Go.RowKit Go.Proofs.Ytmajkapapbhabaa.Vc Go.Proofs.Ytmajkapapbhabaa.Sp Go.Proofs.Ytmajkapapbhabaa.Rw

set_option linter.unusedVariables false

set_option linter.unusedSimpArgs false

set_option maxRecDepth 100000

theorem size_vI : (Try.prog.info? 72).map (·.size) = some 6 := by kernel_rfl
theorem elem_vI : Try.prog.elem 80 = 72 := by kernel_rfl
theorem cell_ltI {w : World} {b o : Nat} {v : Value} (h : w.cell? ⟨b, o, none⟩ = some v) : b < w.heap.size := World.block_lt_of_cell? w _ h
theorem index_vI (b o n cap j : Nat) (hj : j < n) (w : World) : (Instr.indexAt 80 (.slice (some ⟨b, o, none⟩) n cap) (.int .i64 (j : Int))).run Try.prog w = .ok (.pointer (some ⟨b, o + 6 * j, none⟩)) w :=
  run_index elem_vI Try.underlying80 Try.sizeOf72 b o n cap j hj w
theorem val_I (x : C.Vr Nat) (hx : x.1.1.length = 4) : (vk num).val x = .agg (ks .u64 x.1.1 ++ [.int .i64 x.1.2, num.f x.2]).toArray := by unfold Kd.val; rw [vk_ks num x hx]
set_option maxHeartbeats 2000000 in
theorem find1I (x : C.Vr Nat) (s : C.St) (w : World) (hx : x.1.1.length = 4) (hs : s.1.length = 4) :
    Calls Try.prog 67 #[(vk num).val x, SV s.1 s.2] w fun e w' => e = .returned (.int .i64 (C.ord x.1 s)) ∧ Below w.heap.size w w' := by
  obtain ⟨⟨a, d⟩, y⟩ := x
  obtain ⟨b, e0⟩ := s
  have hv := val_I ((a, d), y) hx
  rw [hv]
  dsimp only at hx hs ⊢
  have C := Lib.hid (fun w => order_any a b d e0 w hx hs)
  have HSa := Lib.hid (size_s (d := d) hx)
  have HSb := Lib.hid (size_s (d := e0) hs)
  show Calls _ _ _ _ fun e w' => e = .returned (.int .i64 (T.order a d b e0)) ∧ _
  generalize T.order a d b e0 = q at *
  obtain ⟨u, HU⟩ : ∃ u, Hid (num.f y = u) := ⟨_, rfl⟩
  rw [HU.out]
  clear hv hx hs
  go_enter Try.func67, Try.ntmps67
  go_wp2_with (first | refine blk_box rfl 72 _ rfl (ks .u64 a ++ [Value.int .i64 d, u]) rfl ?_)
  intro w1 A1 B1 Z1
  go_wp2_with (first | refine blk_box rfl 34 _ rfl (ks .u64 b ++ [Value.int .i64 e0]) rfl ?_)
  intro w2 A2 B2 Z2
  have HA2 : Hid (Blk w2 w.heap.size ((ks .u64 a ++ [Value.int .i64 d]) ++ [u])) := by
    show Blk _ _ _
    rw [List.append_assoc]
    exact Blk.below A1 B2 (by omega)
  have HB2 : Hid (Blk w2 (w.heap.size + 1) (ks .u64 b ++ [Value.int .i64 e0])) := A2
  have HW2 : Hid (Below w.heap.size w w2) := B1.trans (B2.mono (by omega))
  clear A1 B1 Z1 A2 B2 Z2
  go_wp2_with (first | refine sub_load rfl 34 _ rfl w.heap.size rfl (ks .u64 a ++ [Value.int .i64 d]) [u] HA2.out _ Try.underlying34 rfl HSa.out ?_ | refine blk_load rfl 34 _ rfl (w.heap.size + 1) rfl (ks .u64 b ++ [Value.int .i64 e0]) HB2.out _ Try.underlying34 rfl HSb.out ?_)
  refine (C.out _).mono ?_; rintro e w3 ⟨rfl, hb3⟩
  have HW3 : Hid (Below w.heap.size w w3) := Below.trans HW2.out (hb3.mono HW2.out.size)
  clear hb3
  go_wp2_with fail
  go_ret
  exact ⟨rfl, HW3.out⟩
set_option maxHeartbeats 4000000 in
theorem bsearchI (v : Value) (L : List (C.Vr Nat)) (s : C.St) (w : World) (hL : IsR (vk num) w v L) (hn : L.length < 1000000) (hu : C.Up L) (hs : s.1.length = 4) :
    Calls Try.prog 66 #[v, SV s.1 s.2, .func (.func 67) #[] #[]] w fun e w' => e = .returned (.tuple #[.int .i64 ((C.pos L s : Nat) : Int), .bool (C.has L s)]) ∧ Below w.heap.size w w' := by
  obtain ⟨sa, cap, rfl, hca, hma, _⟩ := hL.is
  obtain ⟨n, HN⟩ : ∃ n, Hid (L.length = n) := ⟨_, rfl⟩
  have HP : Hid (C.pos L s ≤ n) := by show _ ≤ _; rw [← HN.out]; exact C.pos_le L s
  have HPI := Lib.hid (fun h x hx => C.pos_iff hu s hs h x hx)
  have HE := Lib.hid (C.has_end hu s hs)
  have HH := Lib.hid (fun x hx => C.has_at hu s hs x hx)
  have C1 := Lib.hid (fun x w hx => find1I x s w hx hs)
  have HF := Lib.hid hu.four
  have HSs := Lib.hid (size_s (d := s.2) hs)
  obtain ⟨p, HPP⟩ : ∃ p, Hid (C.pos L s = p) := ⟨_, rfl⟩
  obtain ⟨q, HQ⟩ : ∃ q, Hid (C.has L s = q) := ⟨_, rfl⟩
  rw [HPP.out] at HP HPI HE HH ⊢
  rw [HQ.out] at HE HH ⊢
  have HL := Lib.hid hL
  rw [HN.out] at HL hn HE ⊢
  have hp := HP.out
  have HM : Hid _ := hma
  obtain ⟨b, e0⟩ := s
  dsimp only at HSs C1 ⊢
  clear hL hca hma hu hs HP
  go_enter Try.func66, Try.ntmps66
  go_wp2_with (first | refine blk_box rfl 34 _ rfl (ks .u64 b ++ [Value.int .i64 e0]) rfl ?_)
  intro w1 A1 B1 Z1
  have HA1 : Hid (Blk w1 w.heap.size (ks .u64 b ++ [Value.int .i64 e0])) := A1
  have HW1 : Hid (Below w.heap.size w w1) := B1
  have HZ1 : Hid (w.heap.size < w1.heap.size) := by show _ < _; omega
  clear A1 B1 Z1
  go_wp2_with fail
  go_loopw [9, 10] (fun i j wr => ∃ i0 j0 : Nat, i0 ≤ p ∧ p ≤ j0 ∧ j0 ≤ n ∧ i = .int .i64 i0 ∧ j = .int .i64 j0 ∧ Hid (Blk wr w.heap.size (ks .u64 b ++ [Value.int .i64 e0])) ∧ Hid (Below w.heap.size w wr) ∧ Hid (w.heap.size < wr.heap.size)) (fun i j _ => (intOf j).toNat - (intOf i).toNat)
  case atStart => exact ⟨0, n, by omega, hp, by omega, rfl, rfl, HA1, HW1, HZ1⟩
  case round =>
    obtain ⟨i0, j0, hi, hj, hjn, rfl, rfl, HAr, HWr, HZr⟩ := hrel
    clear HA1 HW1 HZ1
    by_cases hlt : i0 < j0
    · have ilt : (i0 : Int) < (j0 : Int) := by omega
      obtain ⟨h, HMI⟩ : ∃ h : Nat, Hid ((i0 + j0) / 2 = h) := ⟨_, rfl⟩
      have hm := HMI.out
      have hh1 : i0 ≤ h := by omega
      have hh2 : h < j0 := by omega
      have hh3 : h < n := by omega
      have k1 : IntKind.i64.wrap ((i0 : Int) + (j0 : Int)) = (i0 : Int) + (j0 : Int) := by rw [IntKind.wrap_i64]; omega
      have k2 : IntKind.u64.wrap ((i0 : Int) + (j0 : Int)) = (i0 : Int) + (j0 : Int) := wrapu (by omega) (by omega)
      have k3 : ((i0 : Int) + (j0 : Int)) / (2 : Int) = (h : Int) := by omega
      obtain ⟨g, off, cap', hv, hg0, hrow⟩ := IsR.at HL.out h (by rw [HN.out]; exact hh3)
      obtain rfl : sa = some ⟨g, off, none⟩ := by injection hv
      have hx := C.getD_some (show h < L.length by rw [HN.out]; exact hh3) (vk num).none_
      obtain ⟨x, HX⟩ : ∃ x, Hid (L.getD h (vk num).none_ = x) := ⟨_, rfl⟩
      rw [HX.out] at hx hrow
      have hlt2 := HPI.out h x hx
      have hx4 := HF.out x (List.mem_of_getElem? hx)
      obtain ⟨c, HC⟩ : ∃ c, Hid (C.ord x.1 (b, e0) = c) := ⟨_, rfl⟩
      rw [HC.out] at hlt2
      obtain ⟨r, HR⟩ : ∃ r, Hid (decide (h < p) = r) := ⟨_, rfl⟩
      rw [HR.out] at hlt2
      have hcs := (vk num).len x
      have X1 : Hid (∀ u, Below wr.heap.size wr u → Calls Try.prog 67 [(vk num).val x, SV b e0].toArray u fun e u' => e = .returned (.int .i64 c) ∧ Below wr.heap.size wr u') := fun u hu => Calls.more hu (by have := C1.out x u hx4; rw [HC.out] at this; exact this)
      have hix : ∀ w, (Instr.indexAt 80 (.slice (some ⟨g, off, none⟩) n cap) (.int .i64 (h : Int))).run Try.prog w = .ok (.pointer (some ⟨g, off + 6 * h, none⟩)) w := fun w => index_vI g off n cap h hh3 w
      have HRW : Hid (∀ u, Below wr.heap.size wr u → u.rangeAt g (off + 6 * h) ((vk num).cf x)) := fun u hu k v hv => by
        have hg1 := Nat.lt_of_lt_of_le hg0 HWr.out.size
        rw [hu.cell (p := ⟨g, off + 6 * h + k, none⟩) hg1, HWr.out.cell (p := ⟨g, off + 6 * h + k, none⟩) hg0]
        exact hrow k v hv
      have HBK : Hid (∀ u, Below wr.heap.size wr u → Blk u w.heap.size (ks .u64 b ++ [Value.int .i64 e0])) := fun u hu => Blk.below HAr.out hu HZr.out
      clear hv hm hrow hx hg0
      go_wp2_with fail
      clear k1 k2 k3
      refine region_w Try.mixed (by kernel_rfl) ?_
      refine w_move rfl _ rfl (.func (.func 67) #[] #[]) rfl (fun K hK => ?_)
      go_simp
      refine hK _ ?_
      clear hK K
      refine w_move rfl _ rfl (.slice (some ⟨g, off, none⟩) n cap) rfl (fun K hK => ?_)
      go_simp
      refine hK _ ?_
      clear hK K
      refine w_move rfl _ rfl (.int .i64 (h : Int)) rfl (fun K hK => ?_)
      go_simp
      refine hK _ ?_
      clear hK K
      refine w_value rfl (.pointer (some ⟨g, off + 6 * h, none⟩)) (fun u hu => by have hs := hix u; go_simp) (fun K hK => ?_)
      go_simp
      refine hK _ ?_
      clear hK K
      refine w_mid_load rfl 72 _ rfl g (off + 6 * h) rfl ((vk num).cf x) (by exact HRW.out) _ Try.underlying72 rfl size_vI (fun K hK => ?_)
      go_simp
      refine hK _ ?_
      clear hK K
      refine w_blk_load rfl 34 _ rfl w.heap.size rfl (ks .u64 b ++ [Value.int .i64 e0]) (by exact HBK.out) _ Try.underlying34 rfl HSs.out (fun K hK => ?_)
      go_simp
      refine hK _ ?_
      clear hK K
      refine w_callf rfl 67 Try.f67 Try.func67 rfl rfl _ _ _ rfl #[] rfl [(vk num).val x, SV b e0] rfl (.int .i64 c) (by exact X1.out) (fun K hK => ?_)
      go_simp
      refine hK _ ?_
      clear hK K
      refine w_value rfl (.bool r) (fun u hu => by go_simp) (fun K hK => ?_)
      go_simp
      refine hK _ ?_
      clear hK K
      refine w_nil ?_
      intro u hu
      have HW3 : Hid (Below w.heap.size w u) := Below.trans HWr.out (hu.mono HWr.out.size)
      have HA3 : Hid (Blk u w.heap.size (ks .u64 b ++ [Value.int .i64 e0])) := Blk.below HAr.out hu HZr.out
      have HZ3 : Hid (w.heap.size < u.heap.size) := Nat.lt_of_lt_of_le HZr.out hu.size
      clear hu X1 HRW HBK HAr HWr HZr hix hx4
      cases r with
      | true =>
        have hhp := of_decide_eq_true HR.out
        go_wp2_with fail
        go_roundw
        case rel => exact ⟨h + 1, j0, by omega, hj, hjn, by go_num, rfl, HA3, HW3, HZ3⟩
        case measure => simp [intOf]; omega
      | false =>
        have hhp := of_decide_eq_false HR.out
        go_wp2_with fail
        go_roundw
        case rel => exact ⟨i0, h, hi, by omega, by omega, rfl, rfl, HA3, HW3, HZ3⟩
        case measure => simp [intOf]; omega
    · obtain rfl : i0 = p := by omega
      obtain rfl : j0 = i0 := by omega
      have hpn := hj
      clear hlt
      by_cases hlt : j0 < n
      · have ilt2 : (j0 : Int) < (n : Int) := by omega
        obtain ⟨g, off, cap', hv, hg0, hrow⟩ := IsR.at HL.out j0 (by rw [HN.out]; exact hlt)
        obtain rfl : sa = some ⟨g, off, none⟩ := by injection hv
        have hx := C.getD_some (show j0 < L.length by rw [HN.out]; exact hlt) (vk num).none_
        obtain ⟨x, HX⟩ : ∃ x, Hid (L.getD j0 (vk num).none_ = x) := ⟨_, rfl⟩
        rw [HX.out] at hx hrow
        have hq := HH.out x hx
        have hx4 := HF.out x (List.mem_of_getElem? hx)
        obtain ⟨c, HC⟩ : ∃ c, Hid (C.ord x.1 (b, e0) = c) := ⟨_, rfl⟩
        rw [HC.out] at hq
        have hq2 : (c == 0) = q := by rw [hq]; exact (by simp [beq_iff_eq, Bool.beq_eq_decide_eq])
        have X1 : Hid (∀ u, Below wr.heap.size wr u → Calls Try.prog 67 [(vk num).val x, SV b e0].toArray u fun e u' => e = .returned (.int .i64 c) ∧ Below wr.heap.size wr u') := fun u hu => Calls.more hu (by have := C1.out x u hx4; rw [HC.out] at this; exact this)
        have hix : ∀ w, (Instr.indexAt 80 (.slice (some ⟨g, off, none⟩) n cap) (.int .i64 (j0 : Int))).run Try.prog w = .ok (.pointer (some ⟨g, off + 6 * j0, none⟩)) w := fun w => index_vI g off n cap j0 hlt w
        have HRW : Hid (∀ u, Below wr.heap.size wr u → u.rangeAt g (off + 6 * j0) ((vk num).cf x)) := fun u hu k v hv => by
          have hg1 := Nat.lt_of_lt_of_le hg0 HWr.out.size
          rw [hu.cell (p := ⟨g, off + 6 * j0 + k, none⟩) hg1, HWr.out.cell (p := ⟨g, off + 6 * j0 + k, none⟩) hg0]
          exact hrow k v hv
        have HBK : Hid (∀ u, Below wr.heap.size wr u → Blk u w.heap.size (ks .u64 b ++ [Value.int .i64 e0])) := fun u hu => Blk.below HAr.out hu HZr.out
        have hqd := hq.symm
        clear hv hrow hx hg0 hq hpn
        go_wp2_with fail
        refine region_w Try.mixed (by kernel_rfl) ?_
        refine w_move rfl _ rfl (.int .i64 (j0 : Int)) rfl (fun K hK => ?_)
        go_simp
        refine hK _ ?_
        clear hK K
        refine w_move rfl _ rfl (.int .i64 (j0 : Int)) rfl (fun K hK => ?_)
        go_simp
        refine hK _ ?_
        clear hK K
        refine w_move rfl _ rfl (.int .i64 (n : Int)) rfl (fun K hK => ?_)
        go_simp
        refine hK _ ?_
        clear hK K
        refine w_value rfl (.bool true) (fun u hu => by go_simp) (fun K hK => ?_)
        go_simp
        refine hK _ ?_
        clear hK K
        refine w_move rfl _ rfl (.bool true) rfl (fun K hK => ?_)
        go_simp
        refine hK _ ?_
        clear hK K
        refine wg_value (by rfl) (.func (.func 67) #[] #[]) (fun u hu => by go_simp) (fun K hK => ?_)
        go_simp
        refine hK _ ?_
        clear hK K
        refine wg_value (by rfl) (.slice (some ⟨g, off, none⟩) n cap) (fun u hu => by go_simp) (fun K hK => ?_)
        go_simp
        refine hK _ ?_
        clear hK K
        refine wg_value (by rfl) (.int .i64 (j0 : Int)) (fun u hu => by go_simp) (fun K hK => ?_)
        go_simp
        refine hK _ ?_
        clear hK K
        refine wg_value (by rfl) (.pointer (some ⟨g, off + 6 * j0, none⟩)) (fun u hu => by have hs := hix u; go_simp) (fun K hK => ?_)
        go_simp
        refine hK _ ?_
        clear hK K
        refine wg_mid_load (by rfl) 72 _ rfl g (off + 6 * j0) rfl ((vk num).cf x) (by exact HRW.out) _ Try.underlying72 rfl size_vI (fun K hK => ?_)
        go_simp
        refine hK _ ?_
        clear hK K
        refine wg_blk_load (by rfl) 34 _ rfl w.heap.size rfl (ks .u64 b ++ [Value.int .i64 e0]) (by exact HBK.out) _ Try.underlying34 rfl HSs.out (fun K hK => ?_)
        go_simp
        refine hK _ ?_
        clear hK K
        refine wg_callf (by rfl) 67 Try.f67 Try.func67 rfl rfl _ _ _ rfl #[] rfl [(vk num).val x, SV b e0] rfl (.int .i64 c) (by exact X1.out) (fun K hK => ?_)
        go_simp
        refine hK _ ?_
        clear hK K
        refine wg_value (by rfl) (.bool q) (fun u hu => by go_simp) (fun K hK => ?_)
        go_simp
        refine hK _ ?_
        clear hK K
        refine w_value rfl (.bool q) (fun u hu => by go_simp) (fun K hK => ?_)
        go_simp
        refine hK _ ?_
        clear hK K
        refine w_assign rfl _ rfl (.int .i64 (j0 : Int)) rfl (fun K hK => ?_)
        go_simp
        refine hK _ ?_
        clear hK K
        refine w_assign rfl _ rfl (.bool q) rfl (fun K hK => ?_)
        go_simp
        refine hK _ ?_
        clear hK K
        refine w_nil ?_
        intro u hu
        have HW3 : Hid (Below w.heap.size w u) := Below.trans HWr.out (hu.mono HWr.out.size)
        clear hu
        go_wp2_with fail
        exact bodyPost_ret (results_tmp2 rfl _ _ _) rfl ⟨rfl, HW3.out⟩
      · have ilt2 : ¬ (j0 : Int) < (n : Int) := by omega
        obtain rfl : q = false := HE.out hlt
        clear hpn
        go_wp2_with fail
        refine region_w Try.mixed (by kernel_rfl) ?_
        refine w_move rfl _ rfl (.int .i64 (j0 : Int)) rfl (fun K hK => ?_)
        go_simp
        refine hK _ ?_
        clear hK K
        refine w_move rfl _ rfl (.int .i64 (j0 : Int)) rfl (fun K hK => ?_)
        go_simp
        refine hK _ ?_
        clear hK K
        refine w_move rfl _ rfl (.int .i64 (n : Int)) rfl (fun K hK => ?_)
        go_simp
        refine hK _ ?_
        clear hK K
        refine w_value rfl (.bool false) (fun u hu => by go_simp) (fun K hK => ?_)
        go_simp
        refine hK _ ?_
        clear hK K
        refine w_move rfl _ rfl (.bool false) rfl (fun K hK => ?_)
        go_simp
        refine hK _ ?_
        clear hK K
        refine w_skip 4 true (some false) rfl (by rfl) rfl (fun K hK => ?_)
        go_simp
        refine hK _ ?_
        clear hK K
        refine w_skip 4 true (some false) rfl (by rfl) rfl (fun K hK => ?_)
        go_simp
        refine hK _ ?_
        clear hK K
        refine w_skip 4 true (some false) rfl (by rfl) rfl (fun K hK => ?_)
        go_simp
        refine hK _ ?_
        clear hK K
        refine w_skip 4 true (some false) rfl (by rfl) rfl (fun K hK => ?_)
        go_simp
        refine hK _ ?_
        clear hK K
        refine w_skip 4 true (some false) rfl (by rfl) rfl (fun K hK => ?_)
        go_simp
        refine hK _ ?_
        clear hK K
        refine w_skip 4 true (some false) rfl (by rfl) rfl (fun K hK => ?_)
        go_simp
        refine hK _ ?_
        clear hK K
        refine w_skip 4 true (some false) rfl (by rfl) rfl (fun K hK => ?_)
        go_simp
        refine hK _ ?_
        clear hK K
        refine w_skip 4 true (some false) rfl (by rfl) rfl (fun K hK => ?_)
        go_simp
        refine hK _ ?_
        clear hK K
        refine w_value rfl (.bool false) (fun u hu => by go_simp) (fun K hK => ?_)
        go_simp
        refine hK _ ?_
        clear hK K
        refine w_assign rfl _ rfl (.int .i64 (j0 : Int)) rfl (fun K hK => ?_)
        go_simp
        refine hK _ ?_
        clear hK K
        refine w_assign rfl _ rfl (.bool false) rfl (fun K hK => ?_)
        go_simp
        refine hK _ ?_
        clear hK K
        refine w_nil ?_
        intro u hu
        have HW3 : Hid (Below w.heap.size w u) := Below.trans HWr.out (hu.mono HWr.out.size)
        clear hu
        go_wp2_with fail
        exact bodyPost_ret (results_tmp2 rfl _ _ _) rfl ⟨rfl, HW3.out⟩
set_option maxHeartbeats 2000000 in
theorem findI (c : Nat) (v : Value) (L : List (C.Vr Nat)) (s : C.St) (w : World) (hc : w.cell? ⟨c, 0, none⟩ = some v) (hL : IsR (vk num) w v L) (hn : L.length < 1000000) (hu : C.Up L) (hs : s.1.length = 4) :
    Calls Try.prog 43 #[.pointer (some ⟨c, 0, none⟩), SV s.1 s.2] w fun e w' => e = .returned (.tuple #[.int .i64 ((C.pos L s : Nat) : Int), .bool (C.has L s)]) ∧ Below w.heap.size w w' := by
  have HSs := Lib.hid (size_s (d := s.2) hs)
  have HCC := Lib.hid (fun u (hu' : Below w.heap.size w u) => bsearchI v L s u (hL.below hu') hn hu hs)
  generalize C.pos L s = p at *
  generalize C.has L s = q at *
  have HC := Lib.hid hc
  have HLT := Lib.hid (cell_ltI hc)
  obtain ⟨b, e0⟩ := s
  dsimp only at HSs HCC ⊢
  clear hL hn hu hs hc
  go_enter Try.func43, Try.ntmps43
  go_wp2_with (first | refine blk_box rfl 34 _ rfl (ks .u64 b ++ [Value.int .i64 e0]) rfl ?_)
  intro w1 A1 B1 Z1
  have HCW : Hid (∀ u, Below w1.heap.size w1 u → u.cell? ⟨c, 0, none⟩ = some v) := fun u hu => by
    have hl := HLT.out
    rw [hu.cell (p := ⟨c, 0, none⟩) (by show c < _; omega), B1.cell (p := ⟨c, 0, none⟩) hl]; exact HC.out
  have HBK : Hid (∀ u, Below w1.heap.size w1 u → Blk u w.heap.size (ks .u64 b ++ [Value.int .i64 e0])) := fun u hu => Blk.below A1 hu (by omega)
  have X1 : Hid (∀ u, Below w1.heap.size w1 u → Calls Try.prog 66 [v, SV b e0, .func (.func 67) #[] #[]].toArray u fun e u' => e = .returned (.tuple #[.int .i64 (p : Int), .bool q]) ∧ Below w1.heap.size w1 u') := fun u hu => Calls.more hu (HCC.out u (B1.trans (hu.mono (by omega))))
  have HW1 : Hid (Below w.heap.size w w1) := B1
  clear A1 B1 Z1 HCC HC HLT
  go_wp2_with fail
  refine region_w Try.mixed (by kernel_rfl) ?_
  refine w_move rfl _ rfl (.pointer (some ⟨c, 0, none⟩)) rfl (fun K hK => ?_)
  go_simp
  refine hK _ ?_
  clear hK K
  refine w_value rfl (.pointer (some ⟨c, 0, none⟩)) (fun u hu => by go_simp) (fun K hK => ?_)
  go_simp
  refine hK _ ?_
  clear hK K
  refine w_value rfl (.pointer (some ⟨c, 0, none⟩)) (fun u hu => by go_simp) (fun K hK => ?_)
  go_simp
  refine hK _ ?_
  clear hK K
  refine w_value rfl v (fun u hu => by have hs := HCW.out u hu; go_simp) (fun K hK => ?_)
  go_simp
  refine hK _ ?_
  clear hK K
  refine w_blk_load rfl 34 _ rfl w.heap.size rfl (ks .u64 b ++ [Value.int .i64 e0]) (by exact HBK.out) _ Try.underlying34 rfl HSs.out (fun K hK => ?_)
  go_simp
  refine hK _ ?_
  clear hK K
  refine w_call rfl 66 Try.f66 Try.func66 rfl rfl _ _ rfl _ rfl (.tuple #[.int .i64 (p : Int), .bool q]) (by exact X1.out) (fun K hK => ?_)
  go_simp
  refine hK _ ?_
  clear hK K
  refine w_value rfl (.int .i64 (p : Int)) (fun u hu => by go_simp) (fun K hK => ?_)
  go_simp
  refine hK _ ?_
  clear hK K
  refine w_value rfl (.bool q) (fun u hu => by go_simp) (fun K hK => ?_)
  go_simp
  refine hK _ ?_
  clear hK K
  refine w_assign rfl _ rfl (.int .i64 (p : Int)) rfl (fun K hK => ?_)
  go_simp
  refine hK _ ?_
  clear hK K
  refine w_assign rfl _ rfl (.bool q) rfl (fun K hK => ?_)
  go_simp
  refine hK _ ?_
  clear hK K
  refine w_nil ?_
  intro u hu
  have HW3 : Hid (Below w.heap.size w u) := Below.trans HW1.out (hu.mono HW1.out.size)
  clear hu
  go_wp2_with fail
  exact bodyPost_ret (results_tmp2 rfl _ _ _) rfl ⟨rfl, HW3.out⟩
end Go.Proofs.Ytmajkapapbhabaa.Ch
