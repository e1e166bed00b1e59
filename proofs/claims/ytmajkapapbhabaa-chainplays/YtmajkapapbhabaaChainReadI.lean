/- chain, int: what is read at a snapshot. -/
import Derived.Test.YtmajkapapbhabaaInLaws

import Derived.Test.YtmajkapapbhabaaChainFindI

namespace Go.Proofs.Ytmajkapapbhabaa.Ch

open Go.RowKit Go.Shelf Go.Proofs.Ytmajkapapbhabaa.Vc Go.Proofs.Ytmajkapapbhabaa.Sp Go.Proofs.Ytmajkapapbhabaa.Rw Go.Proofs.Ytmajkapapbhabaa.Fn

set_option linter.unusedVariables false

set_option linter.unusedSimpArgs false

set_option maxRecDepth 100000
attribute [local go_sem] Oper.semAt_some
/-- the four numbers that lie in the cells -/
def n4I (l : List Nat) : List Nat := [l.getD 0 0, l.getD 1 0, l.getD 2 0, l.getD 3 0]
theorem n4_eqI {l : List Nat} (h : l.length = 4) : n4I l = l := by obtain ⟨x, y, z, t, rfl⟩ := V.four h; rfl
theorem cf_n4I (x : C.Vr Nat) : (vk num).cf x = (ks .u64 (n4I x.1.1) ++ [.int .i64 x.1.2]) ++ [num.f x.2] := rfl
/-- from the last one back -/
def dnI (L : List (C.Vr Nat)) (k : Nat) : List (Nat × C.Vr Nat) := (List.range k).map fun j => (L.length - 1 - j, L.getD (L.length - 1 - j) (vk num).none_)
theorem dn_succI (L : List (C.Vr Nat)) (k : Nat) : dnI L (k + 1) = dnI L k ++ [(L.length - 1 - k, L.getD (L.length - 1 - k) (vk num).none_)] := by simp [dnI, List.range_succ]
theorem dn_lenI (L : List (C.Vr Nat)) (k : Nat) : (dnI L k).length = k := by simp [dnI]
/-- one version, as yield's two arguments -/
def encI (x : Nat × C.Vr Nat) : Array Value := #[.int .i64 (x.1 : Int), (vk num).val x.2]
set_option maxHeartbeats 2000000 in
theorem back_inI (F : Fence) (n : Nat) (hf : F.fn 71) (hro : F.round = none) (hn : 1 ≤ n) (l Bs n₀ : Nat) (v : Value) (L : List (C.Vr Nat)) (hB : Bs < n₀) (J Jx : List (Nat × C.Vr Nat) → World → Prop)
    (hY : ∀ pre x W, J pre W → pre.length < L.length → YieldAt F (n - 1) Try.prog l (encI x) W fun e W' =>
      (e = .returned (.bool true) ∧ J (pre ++ [x]) W' ∧ Below n₀ W W') ∨ (e = .returned (.bool false) ∧ Jx (pre ++ [x]) W'))
    (W : World) (hBs : W.cell? ⟨Bs, 0, none⟩ = some v) (hL : IsR (vk num) W v L) (hb : ∀ g, v.ownBlock = some g → g < n₀) (hl : L.length < 1000000) (h0 : J [] W) :
    CallsIn F n Try.prog 71 #[.func (.yield l) #[] #[], .pointer (some ⟨Bs, 0, none⟩)] W fun e W' => (∃ v, e = .returned v) ∧
      ((∃ ys, ys = dnI L L.length ∧ J ys W') ∨ (∃ pre, (∃ k, k ≤ L.length ∧ pre = dnI L k) ∧ Jx pre W')) := by
  obtain ⟨sa, cap, rfl, hca, hma, _⟩ := hL.is
  have HL := Lib.hid hL
  have k0 : IntKind.i64.wrap ((L.length : Int) - 1) = (L.length : Int) - 1 := by rw [IntKind.wrap_i64]; omega
  obtain ⟨m, HN⟩ : ∃ m, Hid (L.length = m) := ⟨_, rfl⟩
  rw [HN.out] at HL hl hY k0 ⊢
  have HDS : Hid (∀ k, dnI L (k + 1) = dnI L k ++ [(m - 1 - k, L.getD (m - 1 - k) (vk num).none_)]) := fun k => by rw [← HN.out]; exact dn_succI L k
  rw [HN.out] at hBs
  clear hL
  refine callsIn_of_wp Try.func71 rfl hf ?_ hro
  simp only [Try.ntmps71, List.size_toArray, List.length_cons, List.length_nil, Nat.reduceAdd, Nat.reduceSub, Array.replicate_succ, Array.replicate_zero, List.push_toArray, List.append_toArray, List.nil_append, List.cons_append]
  gi_wp2
  gi_loopw [3] (fun i wr => ∃ k : Nat, k ≤ m ∧ i = .int .i64 ((m : Int) - 1 - k) ∧ J (dnI L k) wr ∧ Below n₀ W wr) (fun i _ => (intOf i + 1).toNat)
  case atStart => exact ⟨0, Nat.zero_le _, by simp, h0, Below.refl _ _⟩
  case round =>
    obtain ⟨k, hk, rfl, hJs, hnx⟩ := hrel
    have cB : wr.cell? ⟨Bs, 0, none⟩ = some (.slice sa m cap) := (hnx.cell (p := ⟨Bs, 0, none⟩) hB).trans hBs
    by_cases hlt : k < m
    · have ilt : (0 : Int) ≤ (m : Int) - 1 - k := by omega
      have e1 : (m : Int) - 1 - k = ((m - 1 - k : Nat) : Int) := by omega
      obtain ⟨g, off, cap', hv, hg0, hrow⟩ := IsR.at HL.out (m - 1 - k) (by rw [HN.out]; omega)
      obtain rfl : sa = some ⟨g, off, none⟩ := by injection hv
      have hgn := hb g rfl
      have hj : m - 1 - k < m := by omega
      have HDk := HDS.out k
      obtain ⟨j, HJ⟩ : ∃ j, Hid (m - 1 - k = j) := ⟨_, rfl⟩
      rw [HJ.out] at hrow hj e1 HDk
      obtain ⟨x, HX⟩ : ∃ x, Hid (L.getD j (vk num).none_ = x) := ⟨_, rfl⟩
      rw [HX.out] at hrow HDk
      have hrow2 : Hid (wr.rangeAt g (off + 6 * j) ((vk num).cf x)) := fun i u hu => by rw [hnx.cell (p := ⟨g, off + 6 * j + i, none⟩) hgn]; exact hrow i u hu
      have hix : ∀ w, (Instr.indexAt 80 (.slice (some ⟨g, off, none⟩) m cap) (.int .i64 (j : Int))).run Try.prog w = .ok (.pointer (some ⟨g, off + 6 * j, none⟩)) w := fun w => index_vI g off m cap j hj w
      obtain ⟨fn, tmps, assign, body, hy, hR⟩ := hY _ (j, x) wr hJs (by rw [dn_lenI]; exact hlt)
      dsimp only [encI, Kd.val] at hy
      clear hv hrow hg0
      rw [e1]
      have ilt : (0 : Int) ≤ (j : Int) := by omega
      gi_wp2_with (first | refine in_mid_load rfl 72 _ rfl g (off + 6 * j) rfl ((vk num).cf x) hrow2.out _ Try.underlying72 rfl size_vI ?_)
      refine hR.mono ?_
      rintro e W3 (⟨rfl, hJ3, hk3⟩ | ⟨rfl, hJx3⟩)
      · have hn3 := hnx.trans hk3
        rw [← HDk] at hJ3
        have k5 : IntKind.i64.wrap ((j : Int) - 1) = (j : Int) - 1 := by rw [IntKind.wrap_i64]; omega
        gi_wp2
        go_roundw
        case rel => exact ⟨k + 1, by omega, by congr 1 <;> omega, hJ3, hn3⟩
        case measure => simp [intOf] <;> omega
      · rw [← HDk] at hJx3
        gi_wp2
        refine bodyPost_ret (results_none rfl _ _ _) rfl ?_
        exact ⟨⟨_, rfl⟩, .inr ⟨_, ⟨k + 1, by omega, rfl⟩, hJx3⟩⟩
    · obtain rfl : k = m := by omega
      have ilt : ¬ (0 : Int) ≤ (k : Int) - 1 - k := by omega
      gi_wp2
      go_end0
      first | exact ⟨⟨_, rfl⟩, .inl ⟨_, rfl, hJs⟩⟩ | exact ⟨⟨_, rfl⟩, .inl hJs⟩ | exact ⟨⟨_, rfl⟩, hJs⟩ | exact .inl hJs
/-- slices.Backward(s) -/
theorem back_ofI (F : Fence) (n : Nat) (h : F.fn 46) (hro : F.round = none) (sa : Option Addr) (m cap : Nat) (w : World) :
    CallsIn F n Try.prog 46 #[.slice sa m cap] w fun e w' => e = .returned (.func (.func 71) #[] #[.pointer (some ⟨w.heap.size, 0, none⟩)]) ∧ w' = w.alloc (.cells #[.slice sa m cap] 80) := by
  refine callsIn_of_wp Try.func46 rfl h ?_ hro
  simp only [Try.ntmps46, List.size_toArray, List.length_cons, List.length_nil, Nat.reduceAdd, Nat.reduceSub, Array.replicate_succ, Array.replicate_zero, List.push_toArray, List.append_toArray, List.nil_append, List.cons_append]
  gi_wp2
  go_ret
  exact ⟨rfl, rfl⟩
theorem back_stopsI (F : Fence) (n : Nat) (hf : F.fn 71) (hro : F.round = none) (hn : 1 ≤ n) (Bs n₀ : Nat) (v : Value) (L : List (C.Vr Nat)) (w : World) (hB : Bs < n₀) (hn₀ : n₀ ≤ w.heap.size)
    (hc : w.cell? ⟨Bs, 0, none⟩ = some v) (hL : IsR (vk num) w v L) (hb : ∀ g, v.ownBlock = some g → g < n₀) (hl : L.length < 1000000) :
    SeqStopsK F n Try.prog 71 #[.pointer (some ⟨Bs, 0, none⟩)] encI (Below n₀) (fun ys => ys = dnI L L.length) (fun pre => ∃ k, k ≤ L.length ∧ pre = dnI L k) L.length w := fun l J Jx W hW _ _ hY h0 => by
  have hc' := (hW.cell (p := ⟨Bs, 0, none⟩) (by show Bs < _; omega)).trans hc
  exact back_inI F n hf hro hn l Bs n₀ v L hB J Jx hY W hc' (hL.below hW) hb hl h0
theorem info_vI : (Try.prog.info? 72).map (fun i => (i.zero, i.size)) = some (some (.agg [Value.int .u64 0, .int .u64 0, .int .u64 0, .int .u64 0, .int .i64 0, num.f num.zero].toArray), 6) := by kernel_rfl
theorem cf_zeroI : (vk num).cf (vk num).none_ = [Value.int .u64 0, .int .u64 0, .int .u64 0, .int .u64 0, .int .i64 0, num.f num.zero] := rfl
/-- what is seen when the first k from the end are looked at -/
theorem dn_noneI {L : List (C.Vr Nat)} {h : List Nat} (hu : C.Up L) (hn : ∀ p ∈ dnI L L.length, V.leq (n4I p.2.1.1) h = false) : C.read L h = none := by
  rw [C.read_none]
  intro x hx
  have h4 := hu.four x hx
  obtain ⟨i, hi, e⟩ := List.getElem_of_mem hx
  have := hn (i, x) (by
    unfold dnI
    rw [List.mem_map]
    refine ⟨L.length - 1 - i, by rw [List.mem_range]; omega, ?_⟩
    rw [show L.length - 1 - (L.length - 1 - i) = i by omega, List.getD_eq_getElem?_getD, List.getElem?_eq_getElem hi, e]
    rfl)
  rw [show ((i, x) : Nat × C.Vr Nat).2 = x from rfl, n4_eqI h4] at this
  exact this
theorem dn_someI {L : List (C.Vr Nat)} {h : List Nat} {k : Nat} (hu : C.Up L) (hk : k < L.length) (hn : ∀ p ∈ dnI L k, V.leq (n4I p.2.1.1) h = false) (hs : V.leq (n4I (L.getD (L.length - 1 - k) (vk num).none_).1.1) h = true) : C.read L h = some (L.getD (L.length - 1 - k) (vk num).none_) := by
  have hx := C.getD_some (show L.length - 1 - k < L.length by omega) (vk num).none_
  have h4 := hu.four _ (List.mem_of_getElem? hx)
  rw [n4_eqI h4] at hs
  refine C.read_at L h (L.length - 1 - k) _ hx hs fun j y hj hy => ?_
  have hjl := (List.getElem?_eq_some_iff.1 hy).1
  have hy4 := hu.four y (List.mem_of_getElem? hy)
  have := hn (j, y) (by
    unfold dnI
    rw [List.mem_map]
    refine ⟨L.length - 1 - j, by rw [List.mem_range]; omega, ?_⟩
    rw [show L.length - 1 - (L.length - 1 - j) = j by omega, List.getD_eq_getElem?_getD, hy]
    rfl)
  rw [show ((j, y) : Nat × C.Vr Nat).2 = y from rfl, n4_eqI hy4] at this
  exact this
set_option maxHeartbeats 4000000 in
theorem readI (c : Nat) (v : Value) (L : List (C.Vr Nat)) (at_ : List Nat) (w : World) (hch : Ch num 72 w c v L) (ha : at_.length = 4) (hn : L.length < 1000) :
    Calls Try.prog 25 #[.pointer (some ⟨c, 0, none⟩), AV .u64 at_] w fun e w' => e = .returned (.tuple #[(vk num).val ((C.read L at_).getD (vk num).none_), .bool (C.read L at_).isSome]) ∧ Below w.heap.size w w' := by
  obtain ⟨a0, a1, a2, a3, rfl⟩ := V.four ha
  have CS := Lib.hid (fun (x : C.Vr Nat) (u : World) => sseen_any (n4I x.1.1) [a0, a1, a2, a3] x.1.2 u rfl rfl)
  have HCH := Lib.hid hch
  obtain ⟨sa, cap, ev, _⟩ := hch.own.is.is
  subst ev
  have cc := hch.cell
  refine (callsIn_wide (n := 3)).1 ?_
  refine callsIn_of_wp_marks Try.func25 rfl trivial ?_ rfl
  simp only [Try.ntmps25, List.size_toArray, List.length_cons, List.length_nil, Nat.reduceAdd, Nat.reduceSub, Array.replicate_succ, Array.replicate_zero, List.push_toArray, List.append_toArray, List.nil_append, List.cons_append]
  gi_wp2_with (first | refine in_blk_box rfl 32 _ rfl (ks .u64 [a0, a1, a2, a3]) rfl ?_)
  intro w1 A1 B1 Z1
  gi_wp2_with (first | refine in_blk_alloc rfl 72 ((vk num).cf (vk num).none_) rfl info_vI ?_)
  intro w2 A2 B2 Z2
  have bx := Boxed.new w2 4 (.bool false)
  have HA2 : Hid (Blk w2 w.heap.size (ks .u64 [a0, a1, a2, a3])) := Blk.below A1 B2 (by omega)
  have HR2 : Hid (Blk w2 (w.heap.size + 1) ((vk num).cf (vk num).none_)) := by first | exact A2 | (have h := A2; rw [Z1] at h; exact h)
  have HB2 : Hid (Below w.heap.size w w2) := B1.trans (B2.mono (by omega))
  have hz2 : w2.heap.size = w.heap.size + 2 := by omega
  clear A1 B1 Z1 A2 B2 Z2
  have cc2 : (w2.alloc (.cells #[.bool false] 4)).cell? ⟨c, 0, none⟩ = some (.slice sa L.length cap) := ((HB2.out.alloc (by omega) _).cell (p := ⟨c, 0, none⟩) HCH.out.lt).trans cc
  have HBk := Lib.hid bx
  clear bx
  gi_wp2_with (refine ⟨trivial, ?_⟩; gi_at_call 46; refine (back_ofI Fence.wide _ trivial rfl _ _ _ _).mono ?_; rintro e w' ⟨rfl, rfl⟩)
  obtain ⟨W0, hW0⟩ : ∃ z, Hid ((w2.alloc (.cells #[.bool false] 4)).alloc (.cells #[.slice sa L.length cap] 80) = z) := ⟨_, rfl⟩
  rw [hW0.out]
  have hs0 : W0.heap.size = w.heap.size + 4 := by rw [← hW0.out]; simp; omega
  have hBW : Below w2.heap.size w2 W0 := by rw [← hW0.out]; exact ((Below.refl _ _).alloc (Nat.le_refl _) _).alloc (by simp) _
  have HB0 : Hid (Below w.heap.size w W0) := HB2.out.trans (hBW.mono HB2.out.size)
  have HA0 : Hid (Blk W0 w.heap.size (ks .u64 [a0, a1, a2, a3])) := Blk.below HA2.out hBW (by omega)
  have HR0 : Hid (Blk W0 (w.heap.size + 1) ((vk num).cf (vk num).none_)) := Blk.below HR2.out hBW (by omega)
  have HK0 : Hid (Blk W0 (w.heap.size + 2) [.bool false]) := by
    show Blk _ _ _
    rw [← hz2, ← hW0.out]
    exact Blk.alloc (Blk.of_row (heap_alloc_last w2 _)) _
  have hc0 : W0.cell? ⟨w.heap.size + 3, 0, none⟩ = some (.slice sa L.length cap) := by
    have h9 := heap_alloc_last (w2.alloc (.cells #[.bool false] 4)) (.cells #[.slice sa L.length cap] 80)
    rw [World.size_alloc, hz2, hW0.out] at h9
    rw [cell_of_row _ _ _ _ _ (0, 0) h9]
    rfl
  have hz3 : (w2.alloc (.cells #[.bool false] 4)).heap.size = w.heap.size + 3 := by simp; omega
  have HI0 := Lib.hid (HCH.out.own.is.below HB0.out)
  have hown : ∀ g, (Value.slice sa L.length cap).ownBlock = some g → g < W0.heap.size := fun g hg => by have := (HCH.out.own.lt hg).2; omega
  have HF := Lib.hid HCH.out.up.four
  clear hW0 hBW cc2 HBk HA2 HR2 HB2 cc
  try simp only [hz3]
  refine wpIn_rangeFunc_ownH rfl (by decide) (gf := 71) (lb := #[.pointer (some ⟨w.heap.size + 3, 0, none⟩)]) rfl trivial (enters_of Try.func71 (by kernel_rfl) rfl)
    (back_stopsI Fence.wide (3 - 1) trivial rfl (by decide) (w.heap.size + 3) W0.heap.size (.slice sa L.length cap) L W0 (by omega) (Nat.le_refl _) hc0 HI0.out hown (by omega)) belowK_t (belowK_b (Nat.le_refl _)) (Below.refl _ _) (fun _ => rfl)
    (fun pre W => (∀ p ∈ pre, V.leq (n4I p.2.1.1) [a0, a1, a2, a3] = false) ∧ Below W0.heap.size W0 W)
    (fun c pre W => (((c = .ret ∧ ∃ ini last, pre = ini ++ [last] ∧ (∀ p ∈ ini, V.leq (n4I p.2.1.1) [a0, a1, a2, a3] = false) ∧ V.leq (n4I last.2.1.1) [a0, a1, a2, a3] = true ∧ Blk W (w.heap.size + 1) ((vk num).cf last.2)) ∧ Blk W (w.heap.size + 2) [.bool true])) ∧ Below w.heap.size w W)
    (OwnFrom.and (ownFrom_pure _ _) (ownFrom_below (Nat.le_refl _) (Nat.le_refl _)))
    (fun c => OwnFrom.and (OwnFrom.and (Own.from (fun s A B row hs hg hr => by obtain ⟨h1, ini, last, e1, e2, e3, e4⟩ := hs; exact ⟨h1, ini, last, e1, e2, e3, blk_own e4 hg hr⟩) _) (Own.from (fun s A B row hs hg hr => blk_own hs hg hr) _)) (ownFrom_below (Nat.le_refl _) (by omega)))
    ⟨by simp, Below.refl _ _⟩
    (fun x a' W => ∃ b, W0.heap.size ≤ b ∧ Blk W b ((vk num).cf x.2) ∧ a' = { tmps := #[.pointer (some ⟨c, 0, none⟩), AV .u64 [a0, a1, a2, a3], undef, .pointer (some ⟨w.heap.size, 0, none⟩), .pointer (some ⟨w.heap.size + 1, 0, none⟩), .pointer (some ⟨w.heap.size + 2, 0, none⟩), undef, .pointer (some ⟨b, 0, none⟩), .pointer (some ⟨c, 0, none⟩), .pointer (some ⟨c, 0, none⟩), .pointer (some ⟨c, 0, none⟩), .slice sa L.length cap, .func (.func 71) #[] #[.pointer (some ⟨w.heap.size + 3, 0, none⟩)], .int .i64 (x.1 : Int), (vk num).val x.2, undef, undef, undef, undef, undef, undef], defers := [] })
    (fun x a' _ X Y row hs hg hr => by obtain ⟨b, e1, e2, e3⟩ := hs; exact ⟨b, e1, blk_own e2 hg (fun r e => (hr r e).2), e3⟩)
    ?assign ?body ?done ?stop
  case assign =>
    rintro l pre x W K ⟨hp, hb⟩ hK
    unfold encI Kd.val
    gi_wp2_with (first | refine in_blk_alloc rfl 72 ((vk num).cf (vk num).none_) rfl info_vI ?_)
    intro u1 A1 B1 Z1
    gi_wp2_with (first | refine in_blk_store rfl 72 _ _ rfl W.heap.size rfl ((vk num).cf x.2) rfl _ A1 rfl size_vI rfl ?_)
    intro u2 A2 U2
    gi_wp2
    have hB2 : Below W.heap.size W u2 := B1.trans (U2.below (Nat.le_refl _))
    exact hK _ _ (keeps_below _ hB2) (hB2.mono hb.size) ⟨hp, hb.trans (hB2.mono hb.size)⟩ ⟨W.heap.size, hb.size, A2, rfl⟩
  case body =>
    rintro l pre x a' W hl _ ⟨hp, hb⟩ ⟨b, hbb, hA, rfl⟩ hlt
    have HAW : Hid (Blk W w.heap.size (ks .u64 [a0, a1, a2, a3])) := Blk.below HA0.out hb (by omega)
    have hRW : Blk W (w.heap.size + 1) ((vk num).cf (vk num).none_) := Blk.below HR0.out hb (by omega)
    have hKW : Blk W (w.heap.size + 2) [.bool false] := Blk.below HK0.out hb (by omega)
    have hWs := hb.size
    have hAr : W.rangeAt b 0 (ks .u64 (n4I x.2.1.1) ++ [Value.int .i64 x.2.1.2]) := preb (vs := [num.f x.2.2]) hA
    have hsz : (Try.prog.info? 34).map (·.size) = some (ks .u64 (n4I x.2.1.1) ++ [Value.int .i64 x.2.1.2]).length := Try.size_s
    have hszH := Lib.hid hsz
    clear hsz
    gi_wp2_with (first | refine in_mid_load rfl 34 _ rfl b 0 rfl (ks .u64 (n4I x.2.1.1) ++ [Value.int .i64 x.2.1.2]) hAr _ Try.underlying34 rfl hszH.out ?_ | refine in_mid_load rfl 32 _ rfl w.heap.size 0 rfl (ks .u64 [a0, a1, a2, a3]) HAW.out.1 _ Try.underlying32 rfl Try.size_v ?_)
    refine ⟨trivial, ?_⟩
    refine (CallsIn.inRound l (callsIn_wide.2 (CS.out x.2 _))).mono ?_
    rintro e w5 ⟨rfl, hb5⟩
    have hA5 : Blk w5 b ((vk num).cf x.2) := Blk.below hA hb5 (blk_lt hA)
    have hR5 := Blk.below hRW hb5 (by omega)
    have hK5 := Blk.below hKW hb5 (by omega)
    cases hq : V.leq (n4I x.2.1.1) [a0, a1, a2, a3] with
    | false =>
      clear hAr
      gi_wp2
      exact ⟨keeps_below _ hb5, hb5.mono hWs, fun p hp' => (List.mem_append.1 hp').elim (hp p) (fun e => by simp at e; subst e; exact hq), hb.trans (hb5.mono hWs)⟩
    | true =>
      clear hAr
      gi_wp2_with (first | refine in_mid_load rfl 72 _ rfl b 0 rfl ((vk num).cf x.2) hA5.1 _ Try.underlying72 rfl size_vI ?_ | refine in_blk_store rfl 72 _ _ rfl (w.heap.size + 1) rfl ((vk num).cf x.2) rfl _ hR5 rfl size_vI rfl ?_)
      intro u A U
      have hK6 := Blk.upd hK5 U (by omega)
      have c6 := hK6.cell 0 _ rfl
      have f6 := hK6.free 0 (by simp)
      gi_wp2
      have U9 := Upd.setCell u (w.heap.size + 2) 0 (.bool true)
      have hB9 : Below w.heap.size W (u.setCell ⟨w.heap.size + 2, 0, none⟩ (.bool true)) := ((hb5.mono (by omega)).trans (U.below (by omega))).trans (U9.below (by omega))
      refine ⟨((keeps_below _ hb5).trans (keeps_upd (by omega) U)).trans (keeps_upd (by omega) U9), ⟨⟨rfl, pre, x, rfl, hp, hq, Blk.upd A U9 (by omega)⟩, Blk.setc hK6 0 (by simp) _⟩, (HB0.out.trans (hb.mono (by omega))).trans hB9⟩
  case done =>
    rintro D ys W hD rfl ⟨hp, hb⟩ hK
    have hWs := hb.size
    have hRW : Blk W (w.heap.size + 1) ((vk num).cf (vk num).none_) := Blk.below HR0.out hb (by omega)
    have hKW : Blk W (w.heap.size + 2) [.bool false] := Blk.below HK0.out hb (by omega)
    have HRD := Lib.hid (dn_noneI HCH.out.up hp)
    gi_wp2_with (first | refine in_value rfl rfl (by intro c hc; cases hc) (v := .agg ((vk num).cf (vk num).none_).toArray) (by go_simp) ?_ | refine in_blk_store rfl 72 _ _ rfl (w.heap.size + 1) rfl ((vk num).cf (vk num).none_) rfl _ hRW rfl size_vI rfl ?_)
    intro u A U
    have hK6 := Blk.upd hKW U (by omega)
    have c6 := hK6.cell 0 _ rfl
    have f6 := hK6.free 0 (by simp)
    gi_wp2
    have U9 := Upd.setCell u (w.heap.size + 2) 0 (.bool false)
    have hD0 : W.heap[D]? = some (.deferred (some [])) := hK
    have hne1 : D ≠ w.heap.size + 1 := by omega
    have hne2 : D ≠ w.heap.size + 2 := by omega
    have hK' : (u.setCell ⟨w.heap.size + 2, 0, none⟩ (.bool false)).heap[D]? = some (.deferred (some [])) := by rw [U9.far D hne2, U.far D hne1]; exact hD0
    have hA9 := blk_put (o' := .deferred none) (Blk.upd A U9 (by omega)) hK' rfl
    have hT9 := blk_put (o' := .deferred none) (Blk.setc hK6 0 (by simp) (.bool false)) hK' rfl
    have hB9 : Below w.heap.size W (u.setCell ⟨w.heap.size + 2, 0, none⟩ (.bool false)) := (U.below (by omega)).trans (U9.below (by omega))
    have hBB : Below w.heap.size w (u.setCell ⟨w.heap.size + 2, 0, none⟩ (.bool false)) := (HB0.out.trans (hb.mono (by omega))).trans hB9
    refine ⟨by simp, .inl ⟨_, _, rfl, run_takeDeferred hK', ?_⟩⟩
    refine ⟨.tuple #[(vk num).val (vk num).none_, .bool false], ?_, by rw [HRD.out]; rfl, hBB.trans (belowK_b (w := w) (Nat.le_refl _) _ D _ _ (by omega) hK' rfl rfl)⟩
    have ct := hT9.cell 0 _ rfl
    exact res_sb Try.results25 _ (w.heap.size + 1) (w.heap.size + 2) rfl rfl _ hA9 _ Try.underlying72 rfl size_vI _ (by simp [go_sem, ct])
  case stop =>
    rintro D c1 pre W hD ⟨k, hk, rfl⟩ ⟨⟨⟨rfl, ini, last, e1, e2, e3, hA⟩, hT⟩, hb⟩ hK
    obtain ⟨k', rfl⟩ : ∃ k', k = k' + 1 := by
      cases k with
      | zero => simp [dnI] at e1
      | succ k' => exact ⟨k', rfl⟩
    rw [dn_succI] at e1
    obtain ⟨rfl, e5⟩ := List.append_inj' e1 rfl
    obtain rfl : (L.length - 1 - k', L.getD (L.length - 1 - k') (vk num).none_) = last := by simpa using e5
    have HRD := Lib.hid (dn_someI HCH.out.up (by omega) e2 e3)
    clear e2 e3
    gi_wp2
    have hA9 := blk_put (o' := .deferred none) hA hK rfl
    have hT9 := blk_put (o' := .deferred none) hT hK rfl
    refine ⟨by simp, .inl ⟨_, _, rfl, run_takeDeferred hK, ?_⟩⟩
    refine ⟨.tuple #[(vk num).val (L.getD (L.length - 1 - k') (vk num).none_), .bool true], ?_, by rw [HRD.out]; rfl, hb.trans (belowK_b (w := w) (Nat.le_refl _) W D _ _ (by omega) hK rfl rfl)⟩
    have ct := hT9.cell 0 _ rfl
    exact res_sb Try.results25 _ (w.heap.size + 1) (w.heap.size + 2) rfl rfl _ hA9 _ Try.underlying72 rfl size_vI _ (by simp [go_sem, ct])
end Go.Proofs.Ytmajkapapbhabaa.Ch
