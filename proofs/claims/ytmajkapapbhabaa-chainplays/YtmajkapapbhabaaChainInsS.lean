/- chain, string: one more in the middle of a slice. -/
import Derived.Test.YtmajkapapbhabaaChainStep

import Derived.Test.YtmajkapapbhabaaChainFindS

namespace Go.Proofs.Ytmajkapapbhabaa.Ch

open Go.RowKit Go.Proofs.Ytmajkapapbhabaa.Vc Go.Proofs.Ytmajkapapbhabaa.Sp Go.Proofs.Ytmajkapapbhabaa.Rw

set_option linter.unusedVariables false

set_option linter.unusedSimpArgs false

set_option maxRecDepth 100000

theorem zero_S : (vk txt).val (vk txt).none_ = .agg #[.int .u64 0, .int .u64 0, .int .u64 0, .int .u64 0, .int .i64 0, txt.f txt.zero] := rfl
theorem inf_S : (Try.prog.info? 52).map (fun i => (i.zero, i.size, i.bytes)) = some (some ((vk txt).val (vk txt).none_), (vk txt).k, 56) := by rw [zero_S]; kernel_rfl
theorem zc_S : ((vk txt).val (vk txt).none_).cells.size = (vk txt).k := rfl
set_option maxHeartbeats 4000000 in
theorem insert_endS (base : Nat) (v : Value) (L : List (C.Vr ByteArray)) (x : C.Vr ByteArray) (b : Nat) (w : World) (hown : OR (vk txt) 52 w base v L) (hn : L.length < 100000) (hb : base ≤ w.heap.size) (hx : w.heap[b]? = some (.cells ((vk txt).cf x).toArray 52 (0, 0))) :
    Calls Try.prog 38 #[v, .int .i64 (L.length : Int), .slice (some ⟨b, 0, none⟩) 1 1] w fun e w' => ∃ v', e = .returned v' ∧ OR (vk txt) 52 w' base v' (L ++ [x]) ∧ w.grownBy w' v.ownBlock ∧ Nw w v v' := by
  have hbl : b < w.heap.size := (Array.getElem?_eq_some_iff.1 hx).1
  have hM : IsR (vk txt) w (.slice (some ⟨b, 0, none⟩) 1 1) [x] := IsR.one (Blk.of_row hx) hbl
  obtain ⟨v', w', hr, ho, hg, hw⟩ := run_append_one (K := vk txt) 61 Try.underlying61 inf_S zc_S w base v L hown b 0 1 1 [x] hM (by simp) (by simp; omega) (by omega) hb
  have HO := Lib.hid ho
  have HG := Lib.hid hg
  have HW := Lib.hid hw
  obtain ⟨sa, cap, rfl, hca, hma, _⟩ := hown.is.is
  obtain ⟨z, hz⟩ := run_slice_lo' elem_vS Try.underlying61 Try.sizeOf52 sa L.length cap L.length (Nat.le_refl _)
  generalize L.length = n at *
  have HR := Lib.hid hr
  clear hr ho hg hw hM hown hx hma
  go_enter Try.func38, Try.ntmps38
  go_wp2_with (at_builtin; refine append_step rfl _ _ _ _ rfl rfl rfl HR.out ?_)
  go_ret
  exact ⟨_, rfl, HO.out, HG.out, HW.out⟩
set_option maxHeartbeats 4000000 in
theorem insert_roomS (base g cap : Nat) (cur : Array Value) (L : List (C.Vr ByteArray)) (x : C.Vr ByteArray) (i b : Nat) (w : World) (hB : base ≤ g) (hg : w.heap[g]? = some (.cells cur 52 (0, 0))) (hcm : cap ≤ maxLen) (hcs : cur.size = cap * (vk txt).k) (htk : cur.toList.take (L.length * (vk txt).k) = (vk txt).cells L)
    (hi : i < L.length) (hroom : L.length + 1 ≤ cap) (hn : L.length < 100000) (hx : w.heap[b]? = some (.cells ((vk txt).cf x).toArray 52 (0, 0))) (hne : b ≠ g) :
    Calls Try.prog 38 #[.slice (some ⟨g, 0, none⟩) L.length cap, .int .i64 (i : Int), .slice (some ⟨b, 0, none⟩) 1 1] w fun e w' => ∃ v', e = .returned v' ∧ OR (vk txt) 52 w' base v' (L.take i ++ x :: L.drop i) ∧ w.grownBy w' (some g) ∧ v'.ownBlock = some g := by
  have hlA : ((vk txt).cells (L.take i)).length = 6 * i := by rw [cells_len, List.length_take, Nat.min_eq_left (by omega)]; show i * 6 = _; omega
  have hlB : ((vk txt).cells (L.drop i)).length = 6 * (L.length - i) := by rw [cells_len, List.length_drop]; show _ * 6 = _; omega
  have hk : (vk txt).k = 6 := rfl
  have hszL : cur.toList.length = cap * 6 := by rw [Array.length_toList, hcs]; rfl
  have hcell : ∀ j u, ((vk txt).cells (L.drop i))[j]? = some u → w.drew.cell? ((⟨g, 6 * i, none⟩ : Addr).add j) = some u := fun j u hu => by
    have hj := (List.getElem?_eq_some_iff.1 hu).1
    rw [World.cell?_drew, Addr.add_mid, cell_of_row w g _ cur _ (0, 0) hg]
    have e : cur.toList.take (L.length * (vk txt).k) = (vk txt).cells (L.take i) ++ (vk txt).cells (L.drop i) := by rw [htk, cells_take_drop]
    have h2 : (cur.toList.take (L.length * (vk txt).k))[6 * i + j]? = some u := by
      rw [e, List.getElem?_append_right (by rw [hlA]; omega), hlA, Nat.add_sub_cancel_left]; exact hu
    rw [List.getElem?_take] at h2
    split at h2
    · simpa using h2
    · cases h2
  have hcp1 := fun ty => run_copy_gen w.drew 61 61 ty 52 g (6 * (i + 1)) (L.length - i) (cap - (i + 1)) ⟨g, 6 * i, none⟩ (L.length + 1 - i) (cap - i) cur 52 ((vk txt).cells (L.drop i)) 6 (L.length - i) Try.underlying61 size_vS hg (Nat.min_eq_right (by omega)) (by rw [hlB]; omega) hcell (by rw [hlB, hcs, hk]; omega) (cells_one _)
  obtain ⟨cur1, HC1⟩ : ∃ c, Hid ((cur.toList.take (6 * (i + 1)) ++ (vk txt).cells (L.drop i) ++ cur.toList.drop (6 * (i + 1) + ((vk txt).cells (L.drop i)).length)).toArray = c) := ⟨_, rfl⟩
  rw [HC1.out] at hcp1
  have hs1 : cur1.size = cur.size := by
    rw [← HC1.out]
    simp only [List.size_toArray, List.length_append, List.length_take, List.length_drop, hszL, hlB]
    rw [← Array.length_toList, hszL]
    omega
  have hg1 : (w.drew.setRow g cur1).heap[g]? = some (.cells cur1 52 (0, 0)) := setRow_heap w.drew g cur cur1 _ _ hg
  have hxc : ∀ j u, ((vk txt).cf x)[j]? = some u → (w.drew.setRow g cur1).cell? ((⟨b, 0, none⟩ : Addr).add j) = some u := fun j u hu => by
    have hxb : (w.drew.setRow g cur1).heap[b]? = some (.cells ((vk txt).cf x).toArray 52 (0, 0)) := by rw [setRow_other _ _ _ _ hne]; exact hx
    rw [Addr.add_mid, cell_of_row _ b _ _ _ (0, 0) hxb, Nat.zero_add]
    simpa using hu
  have hcp2 := fun ty => run_copy_gen (w.drew.setRow g cur1) 61 61 ty 52 g (6 * i) (L.length + 1 - i) (cap - i) ⟨b, 0, none⟩ 1 1 cur1 52 ((vk txt).cf x) 6 1 Try.underlying61 size_vS hg1 (Nat.min_eq_left (by omega)) ((vk txt).len x) hxc (by rw [(vk txt).len, hs1, hcs, hk]; omega) ((vk txt).one x)
  obtain ⟨cur2, HC2⟩ : ∃ c, Hid ((cur1.toList.take (6 * i) ++ (vk txt).cf x ++ cur1.toList.drop (6 * i + ((vk txt).cf x).length)).toArray = c) := ⟨_, rfl⟩
  rw [HC2.out] at hcp2
  have hc2 : cur2.toList = (vk txt).cells (L.take i) ++ (vk txt).cf x ++ (vk txt).cells (L.drop i) ++ cur.toList.drop (6 * i + 6 + ((vk txt).cells (L.drop i)).length) := by
    rw [← HC2.out, ← HC1.out, List.toList_toArray, List.toList_toArray, (vk txt).len, hk]
    exact ins_room cur.toList _ _ _ (6 * i) 6 hlA ((vk txt).len x) (by
      rw [hlB, ← cells_append, List.take_append_drop, ← htk]
      congr 1
      rw [hk]; omega) (by rw [hszL, hlB]; omega)
  have HOR : Hid (OR (vk txt) 52 ((w.drew.setRow g cur1).setRow g cur2) base (.slice (some ⟨g, 0, none⟩) (L.length + 1) cap) (L.take i ++ x :: L.drop i)) := by
    have e : L.length + 1 = (L.take i ++ x :: L.drop i).length := by rw [List.length_append, List.length_cons, List.length_take, List.length_drop]; omega
    have e2 : (vk txt).cells (L.take i ++ x :: L.drop i) = (vk txt).cells (L.take i) ++ (vk txt).cf x ++ (vk txt).cells (L.drop i) := by
      rw [cells_append, show x :: L.drop i = [x] ++ L.drop i from rfl, cells_append, cells_one1, List.append_assoc]
    show OR _ _ _ _ _ _
    rw [e]
    refine OR.of hB (setRow_heap _ g cur1 cur2 _ _ hg1) (by rw [← e]; exact hroom) hcm ?_ ?_
    · rw [← Array.length_toList, hc2]
      simp only [List.length_append, List.length_drop, hlA, hlB, hszL, (vk txt).len, hk]
      omega
    · rw [hc2, e2, List.take_append_of_le_length (by simp only [List.length_append, List.length_cons, List.length_take, List.length_drop, hlA, hlB, (vk txt).len, hk]; omega), List.take_of_length_le (by simp only [List.length_append, List.length_cons, List.length_take, List.length_drop, hlA, hlB, (vk txt).len, hk]; omega)]
  have HGB : Hid (w.grownBy ((w.drew.setRow g cur1).setRow g cur2) (some g)) := grownBy_trans (grownBy_trans (grownBy_drew w _) (grownBy_setRow _ g _)) (grownBy_setRow _ g _)
  have hov : ∀ lb cb, (callFunc 59 #[.slice (some ⟨b, 0, none⟩) 1 1, .slice (some ⟨g, 6 * (i + 1), none⟩) lb cb]).run Try.prog w = .ok (.value (.bool false)) w := fun lb cb => by
    rw [run_callFunc_extern Try.func59 (by kernel_rfl) (by kernel_rfl) (by kernel_rfl) (e := Extern.SlicesOverlaps.overlaps #[61, 61] #[4]) (by kernel_rfl),
      Lib.run_overlaps_apart w 61 4 52 Try.underlying61 6 (fun w => Try.sizeOf52 w) ⟨b, 0, none⟩ ⟨g, 6 * (i + 1), none⟩ 1 1 lb cb hne 52 52 _ _ (shape_row hx) (shape_row hg) (by rw [hcs, hk]; omega) (frozen_of_row _ _ _ _ _ hx) (frozen_of_row _ _ _ _ _ hx)]
    rfl
  obtain ⟨z, hz⟩ := run_slice_lo' elem_vS Try.underlying61 Try.sizeOf52 (some ⟨g, 0, none⟩) L.length cap i (by omega)
  have hz2 : ∀ w, (Instr.sliceAt 61 (.slice (some ⟨g, 0, none⟩) L.length cap) none (some (.int .i64 ((L.length : Int) + 1))) none).run Try.prog w = .ok (.slice (some ⟨g, 0, none⟩) (L.length + 1) cap) w := fun w => run_slice_hi elem_vS Try.underlying61 Try.sizeOf52 g 0 L.length cap (L.length + 1) hroom w
  have hz3 : ∀ w, (Instr.sliceAt 61 (.slice (some ⟨g, 0, none⟩) (L.length + 1) cap) (some (.int .i64 ((i : Int) + 1))) none none).run Try.prog w = .ok (.slice (some ⟨g, 6 * (i + 1), none⟩) (L.length - i) (cap - (i + 1))) w := fun w => by
    have := run_slice_lo elem_vS Try.underlying61 Try.sizeOf52 g 0 (L.length + 1) cap (i + 1) (by omega) (by omega) w
    rw [Nat.zero_add, show L.length + 1 - (i + 1) = L.length - i by omega] at this
    exact this
  have hz4 : ∀ w, (Instr.sliceAt 61 (.slice (some ⟨g, 0, none⟩) (L.length + 1) cap) (some (.int .i64 (i : Int))) none none).run Try.prog w = .ok (.slice (some ⟨g, 6 * i, none⟩) (L.length + 1 - i) (cap - i)) w := fun w => by
    have := run_slice_lo elem_vS Try.underlying61 Try.sizeOf52 g 0 (L.length + 1) cap i (by omega) (by omega) w
    rw [Nat.zero_add] at this
    exact this
  generalize L.length = n at *
  obtain ⟨n1, HN1⟩ : ∃ z, Hid (n - i = z) := ⟨_, rfl⟩
  obtain ⟨n2, HN2⟩ : ∃ z, Hid (n + 1 - i = z) := ⟨_, rfl⟩
  obtain ⟨c1, HCC1⟩ : ∃ z, Hid (cap - (i + 1) = z) := ⟨_, rfl⟩
  obtain ⟨c2, HCC2⟩ : ∃ z, Hid (cap - i = z) := ⟨_, rfl⟩
  obtain ⟨o1, HO1⟩ : ∃ z, Hid (6 * (i + 1) = z) := ⟨_, rfl⟩
  obtain ⟨o2, HO2⟩ : ∃ z, Hid (6 * i = z) := ⟨_, rfl⟩
  obtain ⟨N1, HNN1⟩ : ∃ z, Hid (n + 1 = z) := ⟨_, rfl⟩
  rw [HO1.out] at hcp1 hov hz3
  rw [HO2.out] at hcp1 hcp2 hz4
  rw [HN1.out] at hcp1 hz3
  rw [HN2.out] at hcp1 hcp2 hz4
  rw [HCC1.out] at hcp1 hz3
  rw [HCC2.out] at hcp1 hcp2 hz4
  rw [HNN1.out] at hz2 hz3 hz4 HOR
  have HP1 := Lib.hid hcp1
  have HP2 := Lib.hid hcp2
  have k1 : IntKind.i64.wrap ((n : Int) + 1) = (n : Int) + 1 := by rw [IntKind.wrap_i64]; omega
  have k2 : IntKind.i64.wrap ((i : Int) + 1) = (i : Int) + 1 := by rw [IntKind.wrap_i64]; omega
  have k3 : ¬ ((i : Int) = (n : Int)) := by omega
  have k4 : ¬ ((cap : Int) < (n : Int) + 1) := by omega
  clear hc2 hs1 hcell hcp1 hcp2 hxc hg1 hlA hlB hk hszL hx hg hcs htk hcm hB hne hroom
  go_enter Try.func38, Try.ntmps38
  go_wp2_with (simp only [hov])
  refine region_tail 8 Try.mixed (by kernel_rfl) ?_
  simp only [List.take_succ_cons, List.take_zero, List.drop_succ_cons, List.drop_zero]
  repeat still_step
  refine wpStill_nil ?_
  refine copy_step rfl _ _ _ _ rfl rfl rfl HP1.out ?_
  go_wp2_with (first | refine copy_step rfl _ _ _ _ rfl rfl rfl HP2.out ?_)
  go_ret
  exact ⟨_, rfl, HOR.out, HGB.out, rfl⟩
set_option maxHeartbeats 4000000 in
theorem insert_growS (base g cap : Nat) (cur : Array Value) (L : List (C.Vr ByteArray)) (x : C.Vr ByteArray) (i b : Nat) (w : World) (hB : base ≤ w.heap.size) (hg : w.heap[g]? = some (.cells cur 52 (0, 0))) (hcs : cur.size = cap * (vk txt).k) (htk : cur.toList.take (L.length * (vk txt).k) = (vk txt).cells L)
    (hi : i < L.length) (hle : L.length ≤ cap) (hroom : cap < L.length + 1) (hn : L.length < 100000) (hx : w.heap[b]? = some (.cells ((vk txt).cf x).toArray 52 (0, 0))) :
    Calls Try.prog 38 #[.slice (some ⟨g, 0, none⟩) L.length cap, .int .i64 (i : Int), .slice (some ⟨b, 0, none⟩) 1 1] w fun e w' => ∃ v', e = .returned v' ∧ OR (vk txt) 52 w' base v' (L.take i ++ x :: L.drop i) ∧ Below w.heap.size w w' ∧ v'.ownBlock = some w.heap.size := by
  have hgl : g < w.heap.size := (Array.getElem?_eq_some_iff.1 hg).1
  have hbl : b < w.heap.size := (Array.getElem?_eq_some_iff.1 hx).1
  have hlA : ((vk txt).cells (L.take i)).length = 6 * i := by rw [cells_len, List.length_take, Nat.min_eq_left (by omega)]; show i * 6 = _; omega
  have hlB : ((vk txt).cells (L.drop i)).length = 6 * (L.length - i) := by rw [cells_len, List.length_drop]; show _ * 6 = _; omega
  have hk : (vk txt).k = 6 := rfl
  have hszL : cur.toList.length = cap * 6 := by rw [Array.length_toList, hcs]; rfl
  have hspl : cur.toList.take (L.length * (vk txt).k) = (vk txt).cells (L.take i) ++ (vk txt).cells (L.drop i) := by rw [htk, cells_take_drop]
  have hcellw : ∀ k v, (cur.toList.take (L.length * (vk txt).k))[k]? = some v → w.cell? ⟨g, k, none⟩ = some v := fun k v h2 => by
    rw [cell_of_row w g _ cur _ (0, 0) hg]
    rw [List.getElem?_take] at h2
    split at h2
    · simpa using h2
    · cases h2
  obtain ⟨i0, hi0, hq0, hq1, hq2⟩ : ∃ i0, Try.prog.info? 52 = some i0 ∧ i0.zero = some ((vk txt).val (vk txt).none_) ∧ i0.size = 6 ∧ i0.bytes = 56 := by
    have hinf := inf_S
    cases hi : Try.prog.info? 52 with
    | none => rw [hi] at hinf; cases hinf
    | some i0 =>
      rw [hi] at hinf
      simp only [Option.map_some, Option.some.injEq, Prod.mk.injEq] at hinf
      exact ⟨i0, rfl, hinf.1, hinf.2.1, hinf.2.2⟩
  have hold : (Builtin.firstCells i0.size i (.slice (some ⟨g, 0, none⟩) i cap)).run Try.prog w.drew = .ok ((vk txt).cells (L.take i)).toArray w.drew :=
    run_firstCells_some (P := Try.prog) w.drew i0.size i ⟨g, 0, none⟩ i cap _ (by rw [hlA, hq1]; omega) (fun j u hu => by
      have hj := (List.getElem?_eq_some_iff.1 hu).1
      rw [World.cell?_drew, Addr.add_mid, Nat.zero_add]
      exact hcellw j u (by rw [hspl, List.getElem?_append_left hj]; exact hu))
  have hrz : ∀ ty, (Builtin.append_ #[61, 3] ty #[.slice (some ⟨g, 0, none⟩) i cap, .int .i64 ((L.length : Int) + 1 - (i : Int))]).run Try.prog w =
      .ok (.slice (some ⟨w.heap.size, 0, none⟩) (L.length + 1) (grownCap w (L.length + 1) cap 52)) (w.drew.alloc (.cells (((vk txt).cells (L.take i)).toArray ++ Builtin.zeroCells ((vk txt).val (vk txt).none_).cells (L.length + 1 - i) ++ Builtin.zeroCells ((vk txt).val (vk txt).none_).cells (grownCap w (L.length + 1) cap 52 - (L.length + 1))) 52)) := fun ty => by
    have h := Lib.run_append_grow_zeros w 61 3 ty 52 i0 _ .i64 .i64 Try.underlying61 Try.underlying3 hi0 hq0 (some ⟨g, 0, none⟩) i cap _ hold (L.length + 1 - i) (by omega) (by omega) (by omega) (by omega) (by rw [hq2]; omega) (by rw [hq2]; exact growslice_fits (by omega) (by omega))
    rw [show i + (L.length + 1 - i) = L.length + 1 by omega, show ((L.length + 1 - i : Nat) : Int) = (L.length : Int) + 1 - (i : Int) by omega] at h
    exact h
  have hge := grownCap_ge w (L.length + 1) cap 52
  have hcm := grownCap_le_maxLen w (L.length + 1) cap 52 (by unfold maxLen; omega)
  obtain ⟨G, HG⟩ : ∃ z, Hid (grownCap w (L.length + 1) cap 52 = z) := ⟨_, rfl⟩
  rw [HG.out] at hrz hge hcm
  obtain ⟨cur0, HC0⟩ : ∃ z, Hid (((vk txt).cells (L.take i)).toArray ++ Builtin.zeroCells ((vk txt).val (vk txt).none_).cells (L.length + 1 - i) ++ Builtin.zeroCells ((vk txt).val (vk txt).none_).cells (G - (L.length + 1)) = z) := ⟨_, rfl⟩
  rw [HC0.out] at hrz
  have hs0 : cur0.size = G * 6 := by
    rw [← HC0.out, Array.size_append, Array.size_append, size_zeroCells, size_zeroCells, zc_S, List.size_toArray, hlA, hk]
    omega
  have ht0 : cur0.toList.take (6 * i) = (vk txt).cells (L.take i) := by
    rw [← HC0.out, Array.toList_append, Array.toList_append, List.toList_toArray, List.append_assoc, List.take_append_of_le_length (by rw [hlA]; omega), List.take_of_length_le (by rw [hlA]; omega)]
  obtain ⟨w1, HW1⟩ : ∃ z, Hid (w.drew.alloc (.cells cur0 52) = z) := ⟨_, rfl⟩
  rw [HW1.out] at hrz
  have hg0 : w1.heap[w.heap.size]? = some (.cells cur0 52 (0, 0)) := by rw [← HW1.out]; exact heap_alloc_new w.drew _
  have hB1 : Below w.heap.size w w1 := by rw [← HW1.out]; exact (Below.drew (Below.refl _ w)).alloc (Nat.le_refl _) _
  have hxc : ∀ j u, ((vk txt).cf x)[j]? = some u → w1.cell? ((⟨b, 0, none⟩ : Addr).add j) = some u := fun j u hu => by
    rw [Addr.add_mid, hB1.cell (p := ⟨b, 0 + j, none⟩) hbl, cell_of_row _ b _ _ _ (0, 0) hx, Nat.zero_add]
    simpa using hu
  have hcp1 := fun ty => run_copy_gen w1 61 61 ty 52 w.heap.size (6 * i) (L.length + 1 - i) (G - i) ⟨b, 0, none⟩ 1 1 cur0 52 ((vk txt).cf x) 6 1 Try.underlying61 size_vS hg0 (Nat.min_eq_left (by omega)) ((vk txt).len x) hxc (by rw [(vk txt).len, hs0, hk]; omega) ((vk txt).one x)
  obtain ⟨cur1, HC1⟩ : ∃ c, Hid ((cur0.toList.take (6 * i) ++ (vk txt).cf x ++ cur0.toList.drop (6 * i + ((vk txt).cf x).length)).toArray = c) := ⟨_, rfl⟩
  rw [HC1.out] at hcp1
  have hs1 : cur1.size = cur0.size := by
    rw [← HC1.out]
    simp only [List.size_toArray, List.length_append, List.length_take, List.length_drop, Array.length_toList, (vk txt).len, hs0, hk]
    omega
  have hg1 : (w1.setRow w.heap.size cur1).drew.heap[w.heap.size]? = some (.cells cur1 52 (0, 0)) := setRow_heap w1 w.heap.size cur0 cur1 _ _ hg0
  have hcell : ∀ j u, ((vk txt).cells (L.drop i))[j]? = some u → (w1.setRow w.heap.size cur1).drew.cell? ((⟨g, 6 * i, none⟩ : Addr).add j) = some u := fun j u hu => by
    rw [World.cell?_drew, Addr.add_mid, World.cell?_of_block (w := w1) (setRow_other _ _ _ _ (by show g ≠ _; omega)), hB1.cell (p := ⟨g, 6 * i + j, none⟩) hgl]
    refine hcellw _ u ?_
    rw [hspl, List.getElem?_append_right (by rw [hlA]; omega), hlA, Nat.add_sub_cancel_left]; exact hu
  have hcp2 := fun ty => run_copy_gen (w1.setRow w.heap.size cur1).drew 61 61 ty 52 w.heap.size (6 * (i + 1)) (L.length - i) (G - (i + 1)) ⟨g, 6 * i, none⟩ (L.length - i) (cap - i) cur1 52 ((vk txt).cells (L.drop i)) 6 (L.length - i) Try.underlying61 size_vS hg1 (Nat.min_self _) (by rw [hlB]; omega) hcell (by rw [hlB, hs1, hs0]; omega) (cells_one _)
  obtain ⟨cur2, HC2⟩ : ∃ c, Hid ((cur1.toList.take (6 * (i + 1)) ++ (vk txt).cells (L.drop i) ++ cur1.toList.drop (6 * (i + 1) + ((vk txt).cells (L.drop i)).length)).toArray = c) := ⟨_, rfl⟩
  rw [HC2.out] at hcp2
  have hc2 : cur2.toList = (vk txt).cells (L.take i) ++ (vk txt).cf x ++ (vk txt).cells (L.drop i) ++ cur0.toList.drop (6 * i + 6 + ((vk txt).cells (L.drop i)).length) := by
    rw [← HC2.out, ← HC1.out, List.toList_toArray, List.toList_toArray, (vk txt).len, hk]
    exact ins_grow cur0.toList _ _ _ (6 * i) 6 ht0 hlA ((vk txt).len x) (by rw [hlB, Array.length_toList (xs := cur0), hs0]; omega)
  have HOR : Hid (OR (vk txt) 52 ((w1.setRow w.heap.size cur1).drew.setRow w.heap.size cur2) base (.slice (some ⟨w.heap.size, 0, none⟩) (L.length + 1) G) (L.take i ++ x :: L.drop i)) := by
    have e : L.length + 1 = (L.take i ++ x :: L.drop i).length := by rw [List.length_append, List.length_cons, List.length_take, List.length_drop]; omega
    have e2 : (vk txt).cells (L.take i ++ x :: L.drop i) = (vk txt).cells (L.take i) ++ (vk txt).cf x ++ (vk txt).cells (L.drop i) := by
      rw [cells_append, show x :: L.drop i = [x] ++ L.drop i from rfl, cells_append, cells_one1, List.append_assoc]
    show OR _ _ _ _ _ _
    rw [e]
    refine OR.of hB (setRow_heap _ w.heap.size cur1 cur2 _ _ hg1) (by rw [← e]; exact hge) hcm ?_ ?_
    · rw [← Array.length_toList, hc2]
      simp only [List.length_append, List.length_drop, Array.length_toList, hlA, hlB, hs0, (vk txt).len, hk]
      omega
    · rw [hc2, e2, List.take_append_of_le_length (by simp only [List.length_append, List.length_cons, List.length_take, List.length_drop, hlA, hlB, (vk txt).len, hk]; omega), List.take_of_length_le (by simp only [List.length_append, List.length_cons, List.length_take, List.length_drop, hlA, hlB, (vk txt).len, hk]; omega)]
  have hbr : ∀ (u u' : World) (c : Array Value), Below w.heap.size u u' → Below w.heap.size u (u'.setRow w.heap.size c) := fun u u' c h => ⟨h.os, h.tape, h.output, by simpa using h.size, fun k hk => by rw [setRow_other _ _ _ _ (by omega)]; exact h.block k hk⟩
  have HGB : Hid (Below w.heap.size w ((w1.setRow w.heap.size cur1).drew.setRow w.heap.size cur2)) := hbr _ _ _ (Below.drew (hbr _ _ _ hB1))
  obtain ⟨z, hz⟩ := run_slice_lo' elem_vS Try.underlying61 Try.sizeOf52 (some ⟨g, 0, none⟩) L.length cap i (by omega)
  have hz2 : ∀ w, (Instr.sliceAt 61 (.slice (some ⟨g, 0, none⟩) L.length cap) none (some (.int .i64 (i : Int))) none).run Try.prog w = .ok (.slice (some ⟨g, 0, none⟩) i cap) w := fun w => run_slice_hi elem_vS Try.underlying61 Try.sizeOf52 g 0 L.length cap i (by omega) w
  have hz3 : ∀ u, (Instr.sliceAt 61 (.slice (some ⟨w.heap.size, 0, none⟩) (L.length + 1) G) (some (.int .i64 ((i : Int) + 1))) none none).run Try.prog u = .ok (.slice (some ⟨w.heap.size, 6 * (i + 1), none⟩) (L.length - i) (G - (i + 1))) u := fun u => by
    have := run_slice_lo elem_vS Try.underlying61 Try.sizeOf52 w.heap.size 0 (L.length + 1) G (i + 1) (by omega) (by omega) u
    rw [Nat.zero_add, show L.length + 1 - (i + 1) = L.length - i by omega] at this
    exact this
  have hz4 : ∀ u, (Instr.sliceAt 61 (.slice (some ⟨w.heap.size, 0, none⟩) (L.length + 1) G) (some (.int .i64 (i : Int))) none none).run Try.prog u = .ok (.slice (some ⟨w.heap.size, 6 * i, none⟩) (L.length + 1 - i) (G - i)) u := fun u => by
    have := run_slice_lo elem_vS Try.underlying61 Try.sizeOf52 w.heap.size 0 (L.length + 1) G i (by omega) (by omega) u
    rw [Nat.zero_add] at this
    exact this
  have hz5 : ∀ u, (Instr.sliceAt 61 (.slice (some ⟨g, 0, none⟩) L.length cap) (some (.int .i64 (i : Int))) none none).run Try.prog u = .ok (.slice (some ⟨g, 6 * i, none⟩) (L.length - i) (cap - i)) u := fun u => by
    have := run_slice_lo elem_vS Try.underlying61 Try.sizeOf52 g 0 L.length cap i (by omega) (by omega) u
    rw [Nat.zero_add] at this
    exact this
  clear hz
  generalize L.length = n at *
  obtain ⟨n1, HN1⟩ : ∃ z, Hid (n - i = z) := ⟨_, rfl⟩
  obtain ⟨n2, HN2⟩ : ∃ z, Hid (n + 1 - i = z) := ⟨_, rfl⟩
  obtain ⟨c1, HCC1⟩ : ∃ z, Hid (G - (i + 1) = z) := ⟨_, rfl⟩
  obtain ⟨c2, HCC2⟩ : ∃ z, Hid (G - i = z) := ⟨_, rfl⟩
  obtain ⟨c3, HCC3⟩ : ∃ z, Hid (cap - i = z) := ⟨_, rfl⟩
  obtain ⟨o1, HO1⟩ : ∃ z, Hid (6 * (i + 1) = z) := ⟨_, rfl⟩
  obtain ⟨o2, HO2⟩ : ∃ z, Hid (6 * i = z) := ⟨_, rfl⟩
  obtain ⟨N1, HNN1⟩ : ∃ z, Hid (n + 1 = z) := ⟨_, rfl⟩
  rw [HO1.out] at hcp2 hz3
  rw [HO2.out] at hcp1 hcp2 hz4 hz5
  rw [HN1.out] at hcp2 hz3 hz5
  rw [HN2.out] at hcp1 hz4
  rw [HCC1.out] at hcp2 hz3
  rw [HCC2.out] at hcp1 hz4
  rw [HCC3.out] at hcp2 hz5
  rw [HNN1.out] at hz3 hz4 HOR hrz
  have HP1 := Lib.hid hcp1
  have HP2 := Lib.hid hcp2
  have HRZ := Lib.hid hrz
  have k1 : IntKind.i64.wrap ((n : Int) + 1) = (n : Int) + 1 := by rw [IntKind.wrap_i64]; omega
  have k2 : IntKind.i64.wrap ((i : Int) + 1) = (i : Int) + 1 := by rw [IntKind.wrap_i64]; omega
  have k5 : IntKind.i64.wrap ((n : Int) + 1 - (i : Int)) = (n : Int) + 1 - (i : Int) := by rw [IntKind.wrap_i64]; omega
  have k3 : ¬ ((i : Int) = (n : Int)) := by omega
  have k4 : (cap : Int) < (n : Int) + 1 := by omega
  clear hc2 hs1 hcell hcp1 hcp2 hxc hg1 hg0 hlA hlB hk hszL hx hg hcs htk hcm hB hroom hspl hcellw hold hi0 hq0 hq1 hq2 hrz hge hs0 ht0 hbr hle
  go_enter Try.func38, Try.ntmps38
  go_wp2_with (first | (at_builtin; refine append_step rfl _ _ _ _ rfl rfl rfl (HRZ.out _) ?_) | refine copy_step rfl _ _ _ _ rfl rfl rfl HP1.out ?_)
  refine region_tail 8 Try.mixed (by kernel_rfl) ?_
  simp only [List.take_succ_cons, List.take_zero, List.drop_succ_cons, List.drop_zero]
  repeat still_step
  refine wpStill_nil ?_
  refine copy_step rfl _ _ _ _ rfl rfl rfl HP2.out ?_
  go_wp2_with fail
  go_ret
  exact ⟨_, rfl, HOR.out, HGB.out, rfl⟩
end Go.Proofs.Ytmajkapapbhabaa.Ch
