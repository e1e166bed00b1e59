/- shard: writes in memory of their own. -/
import Derived.Test.YtohcdonmdnjgoaaShardObj

import Derived.Test.YtohcdonmdnjgoaaStrClone

import Derived.Lib.SliceRun

import Derived.Test.YtohcdonmdnjgoaaRegionPick

import Derived.Test.YtohcdonmdnjgoaaWt

namespace Go.Proofs.Ytohcdonmdnjgoaa.Sd

open Go.RowKit Go.Proofs.Ytohcdonmdnjgoaa.Vc Go.Proofs.Ytohcdonmdnjgoaa.Sp Go.Proofs.Ytohcdonmdnjgoaa.Rw Go.Proofs.Ytohcdonmdnjgoaa.Ch Go.Proofs.Ytohcdonmdnjgoaa.Se Go.Proofs.Ytohcdonmdnjgoaa.It Go.Proofs.Ytohcdonmdnjgoaa.Mk

set_option linter.unusedVariables false

set_option linter.unusedSimpArgs false

set_option maxRecDepth 100000

/-- writes as rows of structs -/
def wk : Kd I.Wt := ⟨wc, 4, by decide, fun _ => rfl, fun x u hu => List.all_eq_true.1 (one_wc x) u hu, I.none_⟩
theorem isR_of {w : World} {v : Value} {L : List I.Wt} (h : IsWs w v L) : IsR wk w v L := ⟨h.is⟩
theorem isWs_of {w : World} {v : Value} {L : List I.Wt} (h : IsR wk w v L) : IsWs w v L := ⟨h.is⟩
theorem inf_iw : (Try.prog.info? 42).map (fun i => (i.zero, i.size, i.bytes)) = some (some (wk.val wk.none_), 4, 56) := by kernel_rfl
theorem setCell_same (w : World) (b p : Nat) (v : Value) (h : w.cell? ⟨b, p, none⟩ = some v) : w.setCell ⟨b, p, none⟩ v = w := by
  have hb := World.block_lt_of_cell? w _ h
  have e : (w.heap.modify b fun o => match o with | .cells c elem frozen => .cells (if (none : Option Nat).isSome then c else c.setIfInBounds p v) elem frozen | o => o) = w.heap := by
    apply Array.ext
    · simp
    · intro i h1 h2
      rw [Array.getElem_modify]
      split
      · rename_i hi
        subst hi
        have hh : w.heap[b]? = some w.heap[b] := Array.getElem?_eq_getElem h2
        unfold World.cell? at h
        simp only [hh] at h
        cases ho : w.heap[b] with
        | cells c el fr =>
          rw [ho] at h
          simp at h
          simp only [Option.isSome_none, Bool.false_eq_true, if_false]
          congr 1
          apply Array.ext
          · simp
          · intro k k1 k2
            rw [Array.getElem_setIfInBounds]
            split
            · rename_i hk
              subst hk
              rw [Array.getElem?_eq_getElem k2] at h
              exact (Option.some.inj h).symm
            · rfl

        | _ => rfl
      · rfl
  unfold World.setCell
  cases w
  simp only at e ⊢
  congr 1
set_option maxHeartbeats 4000000 in
theorem cloneWt (v : Value) (L : List (I.Wt)) (w : World) (hL : IsR wk w v L) (hn0 : v.ownBlock = none → L = []) (hn : L.length < 100000) :
    Calls Try.prog 73 #[v] w fun e w' => ∃ v', e = .returned v' ∧ OR wk 42 w' w.heap.size v' L ∧ Below w.heap.size w w' := by
  obtain ⟨sa, cap, rfl, hca, hma, hrow⟩ := hL.is
  cases sa with
  | none =>
    have h0 : L = [] := hn0 rfl
    subst h0
    have HO : Hid (OR wk 42 w w.heap.size (.slice none 0 0) []) := OR.nil _ _ _
    have hnil : ∀ w, (binOp .eql 49 (.slice none 0 cap) (.slice none 0 0)).run Try.prog w = .ok (.bool true) w := fun w => Lib.run_eql_slice_nil w 49 42 none 0 cap 0 0 Try.underlying49
    clear hL hrow hn0
    go_enter Try.func73, Try.ntmps73
    go_wp2_with fail
    go_ret
    exact ⟨_, rfl, HO.out, Below.refl _ _⟩
  | some ad =>
    obtain ⟨i0, hi0, hq0, hq1, hq2⟩ : ∃ i0, Try.prog.info? 42 = some i0 ∧ i0.zero = some (wk.val wk.none_) ∧ i0.size = 4 ∧ i0.bytes = 56 := by
      have hinf := inf_iw
      cases hi : Try.prog.info? 42 with
      | none => rw [hi] at hinf; cases hinf
      | some i0 =>
        rw [hi] at hinf
        simp only [Option.map_some, Option.some.injEq, Prod.mk.injEq] at hinf
        exact ⟨i0, rfl, hinf.1, hinf.2.1, hinf.2.2⟩
    have HW : Hid (Below w.heap.size w (w.alloc (.cells #[] 42))) := (Below.refl _ w).alloc (Nat.le_refl _) _
    have hcells : ∀ j u, (wk.cells L)[j]? = some u → (w.alloc (.cells #[] 42)).cell? (ad.add j) = some u := by
      by_cases hne : L = []
      · subst hne; intro j u hu; simp [Kd.cells] at hu
      · obtain ⟨b, off, ha, hlt, hW⟩ := hrow hne
        obtain rfl := Option.some.inj ha
        exact cells_row (hW.below HW.out hlt)
    have hown : (w.alloc (.cells #[] 42)).ownsRow w.heap.size 42 4 (.slice (some ⟨w.heap.size, 0, none⟩) 0 0) 0 [] := World.ownsRow_made w #[] 0 (Nat.le_refl _) (Nat.zero_le _) rfl
    obtain ⟨v', w', hr, ho, hg, _⟩ := run_append_own (P := Try.prog) (w.alloc (.cells #[] 42)) w.heap.size 49 49 42 i0 _ 4 56 Try.underlying49 hi0 hq0 hq1 hq2 rfl (by decide) _ 0 [] hown ad L.length cap (wk.cells L) (cells_len L) hcells (cells_one L) (by unfold maxLen; omega) (by omega) (by simp)
    rw [Nat.zero_add, List.nil_append] at ho
    have HO : Hid (OR wk 42 w' w.heap.size v' L) := ⟨ho⟩
    have HG : Hid (Below w.heap.size w w') := HW.out.grown hg (by simp) (fun k hk => (World.ownsRow.lt hown k hk).1)
    have HR := Lib.hid hr
    clear hr ho hg hcells hown hrow hL hi0 hq0 hq1 hq2 hn0
    generalize L.length = n at *
    have hnil : ∀ w, (binOp .eql 49 (.slice (some ad) n cap) (.slice none 0 0)).run Try.prog w = .ok (.bool false) w := fun w => Lib.run_eql_slice_nil w 49 42 (some ad) n cap 0 0 Try.underlying49
    go_enter Try.func73, Try.ntmps73
    go_wp2_with (at_builtin; refine append_step rfl _ _ _ _ rfl rfl rfl HR.out ?_)
    go_ret
    exact ⟨_, rfl, HO.out, HG.out⟩
set_option maxHeartbeats 4000000 in
theorem own_any (v : Value) (L : List I.Wt) (w : World) (hL : IsWs w v L) (hn0 : v.ownBlock = none → L = []) (hn : L.length < 100000) (hr : ∀ x ∈ L, I.right x = true) :
    Calls Try.prog 52 #[v] w fun e w' => ∃ v', e = .returned v' ∧ OR wk 42 w' w.heap.size v' L ∧ Below w.heap.size w w' := by
  have CC := Lib.hid (cloneWt v L w (isR_of hL) hn0 hn)
  have HRT := Lib.hid hr
  obtain ⟨n, HN⟩ : ∃ n, Hid (L.length = n) := ⟨_, rfl⟩
  rw [HN.out] at hn
  clear hL hn0 hr
  go_enter Try.func52, Try.ntmps52
  go_wp2_with fail
  refine CC.out.mono ?_; rintro e w1 ⟨v', rfl, ho, hb⟩
  have HO1 := Lib.hid ho
  have HB1 := Lib.hid hb
  obtain ⟨sa, cap, ev, hca, hma, _⟩ := ho.is.is
  rw [HN.out] at ev hca
  subst ev
  clear ho hb CC
  go_wp2_with fail
  go_loopw [10] (fun i wr => ∃ j : Nat, j ≤ n ∧ i = .int .i64 j ∧ Hid (OR wk 42 wr w.heap.size (.slice sa n cap) L) ∧ Hid (Below w.heap.size w wr)) (fun i _ => n - (intOf i).toNat)
  case atStart => exact ⟨0, by omega, rfl, HO1, HB1⟩
  case round =>
    obtain ⟨j, hj, rfl, HOr, HBr⟩ := hrel
    clear HO1 HB1
    by_cases hlt : j < n
    · have ilt : (j : Int) < (n : Int) := by omega
      have hjL : j < L.length := by rw [HN.out]; exact hlt
      rcases HOr.out.row with ⟨h0, h1⟩ | ⟨g, cap', cur, hv, hB, hgl, hh, hnc, hcm, hcs, htake⟩
      · rw [h1] at hjL; simp at hjL
      · simp only [Value.slice.injEq] at hv
        obtain ⟨rfl, hx9, rfl⟩ := hv
        clear hx9
        obtain ⟨g', off, cap', hv, hg0, hrow⟩ := IsR.at HOr.out.is j hjL
        simp only [Value.slice.injEq, Option.some.injEq, Addr.mk.injEq] at hv
        obtain ⟨⟨rfl, rfl, _⟩, hx9, rfl⟩ := hv
        clear hx9
        have hrow : wr.rangeAt g (4 * j) (wc (L.getD j I.none_)) := fun k u hu => by have := hrow k u hu; rw [Nat.zero_add] at this; exact this
        have hmem : L.getD j I.none_ ∈ L := List.mem_of_getElem? (C.getD_some hjL _)
        have hrt := I.right_some (HRT.out _ hmem)
        obtain ⟨x, HX⟩ : ∃ x, Hid (L.getD j I.none_ = x) := ⟨_, rfl⟩
        rw [HX.out] at hrow hrt
        have CL1 := Lib.hid (fun u => Mc.clone_any x.1 u (by omega))
        have CL2 := Lib.hid (fun u => Mc.clone_any x.2.1 u (by omega))
        have CL3 := Lib.hid (fun u => Mc.clone_any x.2.2.1 u (by omega))
        have HRW := Lib.hid hrow
        have HG0 := Lib.hid hg0
        have HTH : Hid (wr.there g (4 * j) 4) := HOr.out.there j hjL
        have hix : ∀ w, (Instr.indexAt 49 (.slice (some ⟨g, 0, none⟩) n cap) (.int .i64 (j : Int))).run Try.prog w = .ok (.pointer (some ⟨g, 4 * j, none⟩)) w := fun w => by have := index_iw g 0 n cap j hlt w; rw [Nat.zero_add] at this; exact this
        clear hrow hmem hrt hh hcs htake hcm hnc hB hgl hg0
        go_wp2_with (first | refine wpList_load_mid rfl 42 _ rfl g (4 * j) rfl (wc x) _ HRW.out Try.underlying42 rfl It.Try.size_w ?_ | refine blk_alloc rfl 42 (wc I.none_) rfl It.Try.info_iw2 ?_)
        intro w4 A4 B4 Z4
        go_wp2_with (first | refine blk_store rfl 42 _ _ rfl wr.heap.size rfl (wc x) rfl _ A4 rfl It.Try.size_w (one_wc x) ?_)
        intro w5 A5 U5
        have HA5 : Hid (Blk w5 wr.heap.size (wc x)) := A5
        have HB5 : Hid (Below wr.heap.size wr w5) := B4.trans (U5.below (Nat.le_refl _))
        have HZ5 : Hid (wr.heap.size < w5.heap.size) := by show _ < _; rw [U5.size]; omega
        have d0 := A5.cell 0 _ rfl
        clear A4 B4 Z4 A5 U5
        go_wp2_with fail
        refine (CL1.out _).mono ?_; rintro e w6 ⟨rfl, hb⟩
        have HBw6 : Hid (Below wr.heap.size wr w6) := Below.trans HB5.out (hb.mono HB5.out.size)
        have HAw6 : Hid (Blk w6 wr.heap.size (wc x)) := Blk.below HA5.out hb HZ5.out
        have HZw6 : Hid (wr.heap.size < w6.heap.size) := Nat.lt_of_lt_of_le HZ5.out hb.size
        have hc : w6.cell? ⟨g, 4 * j, none⟩ = some (.string x.1) := (HBw6.out.cell (p := ⟨g, 4 * j, none⟩) HG0.out).trans (HRW.out 0 _ rfl)
        have hf : w6.frozen? ⟨g, 4 * j, none⟩ = false := (HBw6.out.frozen (p := ⟨g, 4 * j, none⟩) HG0.out).trans (HTH.out 0 (by omega)).2
        have hsm := setCell_same w6 g (4 * j) _ hc
        have d1 := HAw6.out.cell 1 _ rfl
        clear hb d0
        go_wp2_with fail
        clear hc hf hsm
        refine (CL2.out _).mono ?_; rintro e w7 ⟨rfl, hb⟩
        have HBw7 : Hid (Below wr.heap.size wr w7) := Below.trans HBw6.out (hb.mono HBw6.out.size)
        have HAw7 : Hid (Blk w7 wr.heap.size (wc x)) := Blk.below HAw6.out hb HZw6.out
        have HZw7 : Hid (wr.heap.size < w7.heap.size) := Nat.lt_of_lt_of_le HZw6.out hb.size
        have hc : w7.cell? ⟨g, 4 * j + 1, none⟩ = some (.string x.2.1) := (HBw7.out.cell (p := ⟨g, 4 * j + 1, none⟩) HG0.out).trans (HRW.out 1 _ rfl)
        have hf : w7.frozen? ⟨g, 4 * j + 1, none⟩ = false := (HBw7.out.frozen (p := ⟨g, 4 * j + 1, none⟩) HG0.out).trans (HTH.out 1 (by omega)).2
        have hsm := setCell_same w7 g (4 * j + 1) _ hc
        have d2 := HAw7.out.cell 2 _ rfl
        clear hb d1
        go_wp2_with fail
        clear hc hf hsm
        refine (CL3.out _).mono ?_; rintro e w8 ⟨rfl, hb⟩
        have HBw8 : Hid (Below wr.heap.size wr w8) := Below.trans HBw7.out (hb.mono HBw7.out.size)
        have HAw8 : Hid (Blk w8 wr.heap.size (wc x)) := Blk.below HAw7.out hb HZw7.out
        have HZw8 : Hid (wr.heap.size < w8.heap.size) := Nat.lt_of_lt_of_le HZw7.out hb.size
        have hc : w8.cell? ⟨g, 4 * j + 2, none⟩ = some (.string x.2.2.1) := (HBw8.out.cell (p := ⟨g, 4 * j + 2, none⟩) HG0.out).trans (HRW.out 2 _ rfl)
        have hf : w8.frozen? ⟨g, 4 * j + 2, none⟩ = false := (HBw8.out.frozen (p := ⟨g, 4 * j + 2, none⟩) HG0.out).trans (HTH.out 2 (by omega)).2
        have hsm := setCell_same w8 g (4 * j + 2) _ hc
        skip
        clear hb d2
        go_wp2_with fail
        clear hc hf hsm
        have HO8 : Hid (OR wk 42 w8 w.heap.size (.slice (some ⟨g, 0, none⟩) n cap) L) := HOr.out.below HBw8.out
        have HB8 : Hid (Below w.heap.size w w8) := Below.trans HBr.out (HBw8.out.mono HBr.out.size)
        go_roundw
        case rel => exact ⟨j + 1, by omega, by go_num, HO8, HB8⟩
        case measure => simp [intOf]; omega
    · obtain rfl : j = n := by omega
      go_wp2_with fail
      go_ret
      exact ⟨_, rfl, HOr.out, HBr.out⟩
end Go.Proofs.Ytohcdonmdnjgoaa.Sd

namespace Go.Proofs.Ytohcdonmdnjgoaa.Sd

open Go.RowKit Go.Proofs.Ytohcdonmdnjgoaa.Vc Go.Proofs.Ytohcdonmdnjgoaa.Sp Go.Proofs.Ytohcdonmdnjgoaa.Rw Go.Proofs.Ytohcdonmdnjgoaa.Ch Go.Proofs.Ytohcdonmdnjgoaa.Se Go.Proofs.Ytohcdonmdnjgoaa.It Go.Proofs.Ytohcdonmdnjgoaa.Mk

set_option linter.unusedVariables false

set_option linter.unusedSimpArgs false

set_option maxRecDepth 100000

set_option maxHeartbeats 1000000 in
theorem wrong_any (x : I.Wt) (w : World) : Calls Try.prog 47 #[WV x] w fun e w' => e = .returned (.bool (!I.right x)) ∧ Below w.heap.size w w' := by
  have CR := Lib.hid (fun u => wright_any x u)
  obtain ⟨q, HQ⟩ : ∃ q, Hid (I.right x = q) := ⟨_, rfl⟩
  rw [HQ.out] at CR ⊢
  go_enter Try.func47, Try.ntmps47
  go_wp2_with (first | refine blk_box rfl 42 _ rfl (wc x) rfl ?_)
  intro w1 A1 B1 Z1
  have HA := Lib.hid A1
  have HB := Lib.hid B1
  clear A1 B1 Z1
  go_wp2_with (first | refine blk_load rfl 42 _ rfl w.heap.size rfl (wc x) HA.out _ Try.underlying42 rfl It.Try.size_w ?_)
  refine (CR.out _).mono ?_; rintro e w2 ⟨rfl, hb⟩
  have HB2 : Hid (Below w.heap.size w w2) := Below.trans HB.out (hb.mono HB.out.size)
  clear hb
  go_wp2_with fail
  go_ret
  exact ⟨rfl, HB2.out⟩
/-- the first place at which p is -/
def IxW (p : I.Wt → Bool) (L : List (I.Wt)) (r : Int) : Prop :=
  (r = -1 ∧ ∀ x ∈ L, p x = false) ∨ ∃ i : Nat, r = (i : Int) ∧ i < L.length ∧ p (L.getD i wk.none_) = true ∧ ∀ j, j < i → p (L.getD j wk.none_) = false
set_option maxHeartbeats 4000000 in
theorem indexW (p : I.Wt → Bool) (v : Value) (L : List (I.Wt)) (w : World) (hL : IsR wk w v L) (hn : L.length < 1000000)
    (hf : ∀ x ∈ L, ∀ u, Below w.heap.size w u → Calls Try.prog 47 #[wk.val x] u fun e u' => e = .returned (.bool (p x)) ∧ Below u.heap.size u u') :
    Calls Try.prog 72 #[v, .func (.func 47) #[] #[]] w fun e w' => ∃ r, e = .returned (.int .i64 r) ∧ IxW p L r ∧ Below w.heap.size w w' := by
  obtain ⟨sa, cap, rfl, hca, hma, _⟩ := hL.is
  obtain ⟨n, HN⟩ : ∃ n, Hid (L.length = n) := ⟨_, rfl⟩
  have HL := Lib.hid hL
  have HFN := Lib.hid hf
  rw [HN.out] at HL hn
  rw [HN.out]
  have HB1 : Hid (Below w.heap.size w w) := Below.refl _ _
  have HE0 : Hid (∀ j, j < 0 → p (L.getD j wk.none_) = false) := fun j hj => absurd hj (by omega)
  clear hL hca hma hf
  go_enter Try.func72, Try.ntmps72
  go_wp2_with fail
  go_loopw [8] (fun i wr => ∃ j : Nat, j ≤ n ∧ i = .int .i64 j ∧ Hid (∀ k, k < j → p (L.getD k wk.none_) = false) ∧ Hid (Below w.heap.size w wr)) (fun i _ => n - (intOf i).toNat)
  case atStart => exact ⟨0, by omega, rfl, HE0, HB1⟩
  case round =>
    obtain ⟨j, hj, rfl, HEr, HBr⟩ := hrel
    clear HB1 HE0
    by_cases hlt : j < n
    · have ilt : (j : Int) < (n : Int) := by omega
      obtain ⟨g, off, cap', hv, hg0, hrow⟩ := IsR.at HL.out j (by rw [HN.out]; exact hlt)
      obtain rfl : sa = some ⟨g, off, none⟩ := by injection hv
      clear hv
      have hrow : wr.rangeAt g (off + 4 * j) (wk.cf (L.getD j wk.none_)) := fun k v hv => by rw [HBr.out.cell (p := ⟨g, off + 4 * j + k, none⟩) hg0]; exact hrow k v hv
      have hmem : L.getD j wk.none_ ∈ L := List.mem_of_getElem? (C.getD_some (by rw [HN.out]; exact hlt) _)
      have CF := Lib.hid (HFN.out _ hmem)
      obtain ⟨x, HX⟩ : ∃ x, Hid (L.getD j wk.none_ = x) := ⟨_, rfl⟩
      rw [HX.out] at hrow CF
      obtain ⟨q, HQ⟩ : ∃ q, Hid (p x = q) := ⟨_, rfl⟩
      rw [HQ.out] at CF
      have HRr := Lib.hid hrow
      have hix : ∀ w, (Instr.indexAt 49 (.slice (some ⟨g, off, none⟩) n cap) (.int .i64 (j : Int))).run Try.prog w = .ok (.pointer (some ⟨g, off + 4 * j, none⟩)) w := fun w => index_iw g off n cap j hlt w
      clear hrow hmem
      go_wp2_with (first | refine wpList_load_mid rfl 42 _ rfl g (off + 4 * j) rfl (wk.cf x) _ HRr.out Try.underlying42 rfl It.Try.size_w ?_)
      refine (CF.out _ HBr.out).mono ?_; rintro e w4 ⟨rfl, hb4⟩
      have HW4 : Hid (Below w.heap.size w w4) := Below.trans HBr.out (hb4.mono HBr.out.size)
      clear hb4 hix CF HRr
      cases q with
      | false =>
        have HE' : Hid (∀ k, k < j + 1 → p (L.getD k wk.none_) = false) := fun k hk => by
          rcases Nat.lt_or_eq_of_le (Nat.le_of_lt_succ hk) with h | h
          · exact HEr.out k h
          · rw [h, HX.out]; exact HQ.out
        go_wp2_with fail
        go_roundw
        case rel => exact ⟨j + 1, by omega, by go_num, HE', HW4⟩
        case measure => simp [intOf]; omega
      | true =>
        go_wp2_with fail
        go_ret
        exact ⟨_, rfl, .inr ⟨j, rfl, by rw [HN.out]; exact hlt, by rw [HX.out]; exact HQ.out, HEr.out⟩, HW4.out⟩
    · obtain rfl : j = n := by omega
      go_wp2_with fail
      go_ret
      refine ⟨_, rfl, .inl ⟨rfl, fun x hx => ?_⟩, HBr.out⟩
      obtain ⟨i, hi, e⟩ := List.getElem_of_mem hx
      have := HEr.out i (by rw [← HN.out]; exact hi)
      rw [List.getD_eq_getElem?_getD, List.getElem?_eq_getElem hi, e] at this
      exact this
set_option maxHeartbeats 1000000 in
theorem contains_any (v : Value) (L : List I.Wt) (w : World) (hL : IsWs w v L) (hn : L.length < 1000000) :
    Calls Try.prog 50 #[v, .func (.func 47) #[] #[]] w fun e w' => e = .returned (.bool (!L.all I.right)) ∧ Below w.heap.size w w' := by
  obtain ⟨q, HQ⟩ : ∃ q, Hid (L.all I.right = q) := ⟨_, rfl⟩
  rw [HQ.out]
  have CI := Lib.hid (indexW (fun x => !I.right x) v L w (isR_of hL) hn (fun x hx u hu => wrong_any x u))
  go_enter Try.func50, Try.ntmps50
  go_wp2_with fail
  refine CI.out.mono ?_; rintro e w1 ⟨r, rfl, hix, hb⟩
  have HB := Lib.hid hb
  clear hb CI
  rcases hix with ⟨rfl, h1⟩ | ⟨i, rfl, hi, h1, _⟩
  · have HA : Hid (L.all I.right = true) := by
      show _ = _
      rw [List.all_eq_true]
      intro x hx
      have := h1 x hx
      simpa using this
    obtain rfl : q = true := by rw [← HQ.out]; exact HA.out
    clear h1
    go_wp2_with fail
    go_ret
    exact ⟨rfl, HB.out⟩
  · have HA : Hid (L.all I.right = false) := by
      show _ = _
      rw [List.all_eq_false]
      refine ⟨_, List.mem_of_getElem? (C.getD_some hi wk.none_), ?_⟩
      simpa using h1
    obtain rfl : q = false := by rw [← HQ.out]; exact HA.out
    have h0 : (0 : Int) ≤ (i : Int) := by omega
    clear h1 hi
    go_wp2_with fail
    go_ret
    exact ⟨rfl, HB.out⟩
/-- what waits behind a Push -/
def pushW (ok : Bool) (W : List Bt) (st : C.St) (v : Value) (L : List I.Wt) : List Bt := if ok = true then W ++ [⟨st, v, L⟩] else W
theorem Sh.sch {w : World} {s : Nat} {G : Gm} (h : Sh w s G) : s ≠ G.ch := by
  have := h.nd
  unfold Gm.bl at this
  rw [List.nodup_append] at this
  have := this.1
  simp only [List.nodup_cons, List.mem_cons, List.not_mem_nil, or_false, not_or] at this
  exact this.1.2.1
theorem Sh.laned {u w' : World} {s : Nat} {G : Gm} {W : List Bt} (h : Sh u s G) (hl : ∀ k ∈ G.bl s, k < u.heap.size) (hB : But G.ch u w') (hL : Ln w' G.lb G.ch G.room (W.map fun b => TV b.s.1 b.s.2 b.v)) (hr : ∀ b ∈ W, BtOk w' b) (hnd : (({ G with W := W } : Gm).bl s).Nodup) : Sh w' s { G with W := W } := by
  have hch : ∀ k, k ∈ G.bl s → k ≠ G.ch → w'.heap[k]? = u.heap[k]? := fun k hk hn => hB.far k (hl k hk) hn
  have hn0 := h.nd
  unfold Gm.bl at hn0
  rw [List.nodup_append] at hn0
  have h4 : s ≠ G.ch ∧ G.mb ≠ G.ch := by
    have := hn0.1
    simp only [List.nodup_cons, List.mem_cons, List.not_mem_nil, or_false, not_or] at this
    exact ⟨this.1.2.1, fun e => this.2.2.1 e.symm⟩
  exact ⟨blk_st (hch s (mem_s G s) h4.1) h.blk, hL, h.map.st (hch _ (mem_mb G s) h4.2), fun e he => ch_st (fun k hk => hch k (mem_E (G := G) (s := s) he hk) (fun e9 => hn0.2.2 G.ch (by simp) k (List.mem_append_left _ (List.mem_flatMap.2 ⟨e, he, hk⟩)) e9.symm)) (h.chains e he), hr, h.four, hnd⟩
set_option maxHeartbeats 8000000 in
theorem push_any (s : Nat) (G : Gm) (st : C.St) (v : Value) (L : List I.Wt) (w : World) (h : Sh w s G) (hl : ∀ k ∈ G.bl s, k < w.heap.size) (hs : st.1.length = 4) (hL : IsWs w v L) (hn0 : v.ownBlock = none → L = []) (hn : L.length < 100000) :
    Calls Try.prog 18 #[.pointer (some ⟨s, 0, none⟩), SV st.1 st.2, v] w fun e w' => e = .returned (.bool (C.right st && L.all I.right && decide (G.W.length < G.room))) ∧ ∃ v',
      Sh w' s { G with W := pushW (C.right st && L.all I.right && decide (G.W.length < G.room)) G.W st v' L } ∧ Turn (G.bl s) w w' ∧
      ∀ k ∈ ({ G with W := pushW (C.right st && L.all I.right && decide (G.W.length < G.room)) G.W st v' L } : Gm).bl s, (k ∈ G.bl s ∨ w.heap.size ≤ k) ∧ k < w'.heap.size := by
  have HSH := Lib.hid h
  have HL := Lib.hid hl
  have CR := Lib.hid (fun u => sright_any st.1 st.2 u hs)
  have CW := Lib.hid (fun u (hu : Below w.heap.size w u) => contains_any v L u (hL.below hu) (by omega))
  have HSs := Lib.hid (size_s (d := st.2) hs)
  have H4 := Lib.hid hs
  have HLN := Lib.hid hn
  change Hid (∀ u, Calls Try.prog 49 #[SV st.1 st.2] u fun e w' => e = .returned (.bool (C.right st)) ∧ Below u.heap.size u w') at CR
  obtain ⟨q, HQ⟩ : ∃ q, Hid (C.right st = q) := ⟨_, rfl⟩
  obtain ⟨p, HP⟩ : ∃ q, Hid (L.all I.right = q) := ⟨_, rfl⟩
  rw [HQ.out, HP.out]
  rw [HQ.out] at CR
  rw [HP.out] at CW
  cases q with
  | false =>
    simp only [Bool.false_and]
    simp only [pushW, Bool.false_eq_true, if_false]
    refine Calls.mono (R := fun e w' => e = .returned (.bool false) ∧ Sh w' s G ∧ Turn (G.bl s) w w' ∧ ∀ k ∈ G.bl s, (k ∈ G.bl s ∨ w.heap.size ≤ k) ∧ k < w'.heap.size) ?_ (fun e w' h9 => ⟨h9.1, undef, h9.2⟩)
    obtain ⟨a, d⟩ := st
    dsimp only at HSs CR
    clear h hl hs hL hn0 hn HQ HP
    go_enter Try.func18, Try.ntmps18
    go_wp2_with (first | refine blk_box rfl 35 _ rfl (ks .u64 a ++ [Value.int .i64 d]) rfl ?_)
    intro w1 A1 B1 Z1
    have HA1 : Hid (Blk w1 w.heap.size (ks .u64 a ++ [Value.int .i64 d])) := A1
    have HB1 : Hid (Below w.heap.size w w1) := B1
    have HZ1 : Hid (w.heap.size < w1.heap.size) := by show _ < _; omega
    clear A1 B1 Z1
    go_wp2_with (first | refine blk_load rfl 35 _ rfl w.heap.size rfl (ks .u64 a ++ [Value.int .i64 d]) HA1.out _ Try.underlying35 rfl HSs.out ?_)
    refine (CR.out _).mono ?_; rintro e w2 ⟨rfl, hb⟩
    have HB2 : Hid (Below w.heap.size w w2) := Below.trans HB1.out (hb.mono HB1.out.size)
    have HA2 : Hid (Blk w2 w.heap.size (ks .u64 a ++ [Value.int .i64 d])) := Blk.below HA1.out hb HZ1.out
    have HZ2 : Hid (w.heap.size < w2.heap.size) := Nat.lt_of_lt_of_le HZ1.out hb.size
    clear hb
    go_wp2_with fail
    have HBE := Lib.hid HB2.out
    go_ret
    exact ⟨rfl, HSH.out.below HL.out HBE.out, Turn.of_below HBE.out, fun k hk => ⟨.inl hk, Nat.lt_of_lt_of_le (HL.out k hk) HBE.out.size⟩⟩
  | true =>
    cases p with
    | false =>
      simp only [Bool.true_and, Bool.false_and]
      simp only [pushW, Bool.false_eq_true, if_false]
      refine Calls.mono (R := fun e w' => e = .returned (.bool false) ∧ Sh w' s G ∧ Turn (G.bl s) w w' ∧ ∀ k ∈ G.bl s, (k ∈ G.bl s ∨ w.heap.size ≤ k) ∧ k < w'.heap.size) ?_ (fun e w' h9 => ⟨h9.1, undef, h9.2⟩)
      obtain ⟨a, d⟩ := st
      dsimp only at HSs CR
      clear h hl hs hL hn0 hn HQ HP
      go_enter Try.func18, Try.ntmps18
      go_wp2_with (first | refine blk_box rfl 35 _ rfl (ks .u64 a ++ [Value.int .i64 d]) rfl ?_)
      intro w1 A1 B1 Z1
      have HA1 : Hid (Blk w1 w.heap.size (ks .u64 a ++ [Value.int .i64 d])) := A1
      have HB1 : Hid (Below w.heap.size w w1) := B1
      have HZ1 : Hid (w.heap.size < w1.heap.size) := by show _ < _; omega
      clear A1 B1 Z1
      go_wp2_with (first | refine blk_load rfl 35 _ rfl w.heap.size rfl (ks .u64 a ++ [Value.int .i64 d]) HA1.out _ Try.underlying35 rfl HSs.out ?_)
      refine (CR.out _).mono ?_; rintro e w2 ⟨rfl, hb⟩
      have HB2 : Hid (Below w.heap.size w w2) := Below.trans HB1.out (hb.mono HB1.out.size)
      have HA2 : Hid (Blk w2 w.heap.size (ks .u64 a ++ [Value.int .i64 d])) := Blk.below HA1.out hb HZ1.out
      have HZ2 : Hid (w.heap.size < w2.heap.size) := Nat.lt_of_lt_of_le HZ1.out hb.size
      clear hb
      go_wp2_with fail
      refine (CW.out _ HB2.out).mono ?_; rintro e w3 ⟨rfl, hb⟩
      have HB3 : Hid (Below w.heap.size w w3) := Below.trans HB2.out (hb.mono HB2.out.size)
      have HA3 : Hid (Blk w3 w.heap.size (ks .u64 a ++ [Value.int .i64 d])) := Blk.below HA2.out hb HZ2.out
      have HZ3 : Hid (w.heap.size < w3.heap.size) := Nat.lt_of_lt_of_le HZ2.out hb.size
      clear hb
      go_wp2_with fail
      have HBE := Lib.hid HB3.out
      go_ret
      exact ⟨rfl, HSH.out.below HL.out HBE.out, Turn.of_below HBE.out, fun k hk => ⟨.inl hk, Nat.lt_of_lt_of_le (HL.out k hk) HBE.out.size⟩⟩
    | true =>
      simp only [Bool.true_and]
      have HALL : Hid (∀ x ∈ L, I.right x = true) := fun x hx => List.all_eq_true.1 HP.out x hx
      have HRS := Lib.hid HQ.out
      have CO := Lib.hid (fun u (hu : Below w.heap.size w u) => own_any v L u (hL.below hu) hn0 hn HALL.out)
      obtain ⟨n, HN⟩ : ∃ n, Hid (L.length = n) := ⟨_, rfl⟩
      obtain ⟨a, d⟩ := st
      dsimp only at HSs CR H4 HRS
      obtain ⟨a0, a1, a2, a3, rfl⟩ := V.four hs
      obtain ⟨rm, HRM⟩ : ∃ q, Hid (decide (G.W.length < G.room) = q) := ⟨_, rfl⟩
      rw [HRM.out]
      clear h hl hs hL hn0 hn HQ HP
      go_enter Try.func18, Try.ntmps18
      go_wp2_with (first | refine blk_box rfl 35 _ rfl [Value.int .u64 (a0 : Int), Value.int .u64 (a1 : Int), Value.int .u64 (a2 : Int), Value.int .u64 (a3 : Int), Value.int .i64 d] rfl ?_)
      intro w1 A1 B1 Z1
      have HA1 : Hid (Blk w1 w.heap.size [Value.int .u64 (a0 : Int), Value.int .u64 (a1 : Int), Value.int .u64 (a2 : Int), Value.int .u64 (a3 : Int), Value.int .i64 d]) := A1
      have HB1 : Hid (Below w.heap.size w w1) := B1
      have HZ1 : Hid (w.heap.size < w1.heap.size) := by show _ < _; omega
      clear A1 B1 Z1
      go_wp2_with (first | refine blk_load rfl 35 _ rfl w.heap.size rfl [Value.int .u64 (a0 : Int), Value.int .u64 (a1 : Int), Value.int .u64 (a2 : Int), Value.int .u64 (a3 : Int), Value.int .i64 d] HA1.out _ Try.underlying35 rfl HSs.out ?_)
      refine (CR.out _).mono ?_; rintro e w2 ⟨rfl, hb⟩
      have HB2 : Hid (Below w.heap.size w w2) := Below.trans HB1.out (hb.mono HB1.out.size)
      have HA2 : Hid (Blk w2 w.heap.size [Value.int .u64 (a0 : Int), Value.int .u64 (a1 : Int), Value.int .u64 (a2 : Int), Value.int .u64 (a3 : Int), Value.int .i64 d]) := Blk.below HA1.out hb HZ1.out
      have HZ2 : Hid (w.heap.size < w2.heap.size) := Nat.lt_of_lt_of_le HZ1.out hb.size
      clear hb
      go_wp2_with fail
      refine (CW.out _ HB2.out).mono ?_; rintro e w3 ⟨rfl, hb⟩
      have HB3 : Hid (Below w.heap.size w w3) := Below.trans HB2.out (hb.mono HB2.out.size)
      have HA3 : Hid (Blk w3 w.heap.size [Value.int .u64 (a0 : Int), Value.int .u64 (a1 : Int), Value.int .u64 (a2 : Int), Value.int .u64 (a3 : Int), Value.int .i64 d]) := Blk.below HA2.out hb HZ2.out
      have HZ3 : Hid (w.heap.size < w3.heap.size) := Nat.lt_of_lt_of_le HZ2.out hb.size
      clear hb
      go_wp2_with fail
      have HC3 : Hid (w3.drew.cell? ⟨s, 0, none⟩ = some (.pointer (some ⟨G.lb, 0, none⟩))) := by
        show _ = _
        rw [World.cell?_drew]
        exact (HB3.out.cell (p := ⟨s, 0, none⟩) (HL.out _ (mem_s G s))).trans HSH.out.c0
      have HA3d : Hid (Blk w3.drew w.heap.size [Value.int .u64 (a0 : Int), Value.int .u64 (a1 : Int), Value.int .u64 (a2 : Int), Value.int .u64 (a3 : Int), Value.int .i64 d]) := HA3.out.drew
      have HB3d : Hid (Below w.heap.size w w3.drew) := HB3.out.drew
      have HSLT : Hid (s < w3.drew.heap.size ∧ w.heap.size < w3.drew.heap.size) := ⟨Nat.lt_of_lt_of_le (HL.out _ (mem_s G s)) HB3.out.size, HZ3.out⟩
      refine region_pick (fun u => u.cell? ⟨s, 0, none⟩ = some (.pointer (some ⟨G.lb, 0, none⟩)) ∧ Blk u w.heap.size [Value.int .u64 (a0 : Int), Value.int .u64 (a1 : Int), Value.int .u64 (a2 : Int), Value.int .u64 (a3 : Int), Value.int .i64 d]) [0, 1, 2, 3, 4, 5] [6, 7, 8, 9] Try.mixed (by kernel_rfl) rfl (by kernel_rfl) ⟨HC3.out, HA3d.out⟩ ?_
      refine p_read rfl ?_
      refine c_move rfl _ rfl (.pointer (some ⟨s, 0, none⟩)) rfl (fun _ _ _ h => h) (fun K hK => ?_)
      go_simp
      refine hK _ ?_
      clear hK K
      refine c_nil ?_
      refine p_read rfl ?_
      refine c_value rfl (.pointer (some ⟨s, 0, none⟩)) (fun u hu => by go_simp) (fun _ _ _ h => h) (fun K hK => ?_)
      go_simp
      refine hK _ ?_
      clear hK K
      refine c_nil ?_
      refine p_read rfl ?_
      refine c_value rfl (.pointer (some ⟨s, 0, none⟩)) (fun u hu => by go_simp) (fun _ _ _ h => h) (fun K hK => ?_)
      go_simp
      refine hK _ ?_
      clear hK K
      refine c_nil ?_
      refine p_read rfl ?_
      refine c_value rfl (.pointer (some ⟨G.lb, 0, none⟩)) (fun u hu => by have hs := hu.1; go_simp) (fun _ _ _ h => h) (fun K hK => ?_)
      go_simp
      refine hK _ ?_
      clear hK K
      refine c_nil ?_
      refine p_read rfl ?_
      refine c_blk_load rfl 35 _ rfl w.heap.size rfl [Value.int .u64 (a0 : Int), Value.int .u64 (a1 : Int), Value.int .u64 (a2 : Int), Value.int .u64 (a3 : Int), Value.int .i64 d] (fun u hu => hu.2) _ Try.underlying35 rfl HSs.out (fun _ _ _ h => h) (fun K hK => ?_)
      go_simp
      refine hK _ ?_
      clear hK K
      refine c_nil ?_
      refine p_read rfl ?_
      refine c_move rfl _ rfl v rfl (fun _ _ _ h => h) (fun K hK => ?_)
      go_simp
      refine hK _ ?_
      clear hK K
      refine c_nil ?_
      refine p_nil ?_
      refine p_step rfl ?_
      go_wp2_with (first | (go_at_call 52; refine Calls.mono (CO.out _ HB3d.out) ?_; rintro e wa ⟨v', rfl, ho, hb⟩))
      have HBa : Hid (Below w3.drew.heap.size w3.drew wa) := hb
      have HOa := Lib.hid ho
      obtain ⟨sa, cap, ev, _⟩ := ho.is.is
      rw [HN.out] at ev
      subst ev
      clear ho hb
      have HSa : Hid (wa.cell? ⟨s, 0, none⟩ = some (.pointer (some ⟨G.lb, 0, none⟩)) ∧ Blk wa w.heap.size [Value.int .u64 (a0 : Int), Value.int .u64 (a1 : Int), Value.int .u64 (a2 : Int), Value.int .u64 (a3 : Int), Value.int .i64 d]) := ⟨(HBa.out.cell (p := ⟨s, 0, none⟩) HSLT.out.1).trans HC3.out, Blk.below HA3d.out HBa.out HSLT.out.2⟩
      refine And.intro HSa.out ?_
      refine p_step rfl ?_
      go_wp2_with fail
      refine And.intro HSa.out ?_
      have HBwa : Hid (Below w.heap.size w wa) := HB3d.out.trans (HBa.out.mono HB3d.out.size)
      have HSHa := Lib.hid (HSH.out.below HL.out HBwa.out)
      have CPa : Hid (Calls Try.prog 51 #[.pointer (some ⟨G.lb, 0, none⟩), TV [a0, a1, a2, a3] d (.slice sa n cap)] wa fun e w' => e = .returned (.bool rm) ∧ Ln w' G.lb G.ch G.room (if rm = true then (G.W.map fun b => TV b.s.1 b.s.2 b.v) ++ [TV [a0, a1, a2, a3] d (.slice sa n cap)] else G.W.map fun b => TV b.s.1 b.s.2 b.v) ∧ But G.ch wa w') := by
        have h9 := Tx.put_any [a0, a1, a2, a3] d (.slice sa n cap) H4.out HSHa.out.lane
        rw [List.length_map] at h9
        have e9 := HRM.out
        refine Calls.mono h9 ?_
        rintro e w' ⟨rfl, h8, h7⟩
        refine ⟨by rw [e9], ?_, h7⟩
        by_cases hp : G.W.length < G.room
        · rw [if_pos hp] at h8
          rw [if_pos (by rw [← e9]; exact decide_eq_true hp)]
          exact h8
        · rw [if_neg hp] at h8
          rw [if_neg (by rw [← e9, decide_eq_false hp]; decide)]
          exact h8
      have HSZ : Hid (w.heap.size < wa.heap.size) := Nat.lt_of_lt_of_le HSLT.out.2 HBa.out.size
      refine p_step rfl ?_
      go_wp2_with (first | (go_at_call 51; refine Calls.mono CPa.out ?_; rintro e wb ⟨rfl, hln, hbt⟩))
      have HLNb := Lib.hid hln
      have HBTb := Lib.hid hbt
      have hws : w.heap.size ≠ G.ch := fun e => by have := HL.out _ (mem_ch G s); omega
      have HSb : Hid (wb.cell? ⟨s, 0, none⟩ = some (.pointer (some ⟨G.lb, 0, none⟩)) ∧ Blk wb w.heap.size [Value.int .u64 (a0 : Int), Value.int .u64 (a1 : Int), Value.int .u64 (a2 : Int), Value.int .u64 (a3 : Int), Value.int .i64 d]) := ⟨(HBTb.out.cell (Nat.lt_of_lt_of_le HSLT.out.1 HBa.out.size) (HSH.out.sch)).trans HSa.out.1, blk_st (HBTb.out.far _ HSZ.out hws) HSa.out.2⟩
      clear hln hbt hws
      refine And.intro HSb.out ?_
      refine p_step rfl ?_
      go_wp2_with fail
      refine And.intro HSb.out ?_
      refine p_end ?_
      go_wp2_with fail
      go_ret
      have hTT : Turn (G.bl s) w wb := (Turn.of_below (B := G.bl s) HBwa.out).trans ((Turn.of_but HBTb.out).sub (fun x hx => by simp at hx; rw [hx]; exact mem_ch G s)) (fun x hx => .inl hx)
      have hla : ∀ k ∈ G.bl s, k < wa.heap.size := fun k hk => Nat.lt_of_lt_of_le (HL.out k hk) HBwa.out.size
      have hob : ∀ k ∈ ob (.slice sa n cap), w.heap.size ≤ k ∧ k < wa.heap.size := fun k hk => by
        have := HOa.out.lt (mem_ob.1 hk)
        exact ⟨by have := HB3d.out.size; omega, this.2⟩
      cases rm with
      | true =>
        rw [if_pos rfl] at HLNb
        simp only [pushW, if_true]
        have hbl : ∀ k, k ∈ ({ G with W := G.W ++ [⟨([a0, a1, a2, a3], d), .slice sa n cap, L⟩] } : Gm).bl s ↔ k ∈ G.bl s ∨ k ∈ ob (.slice sa n cap) := fun k => by unfold Gm.bl; simp [Bt.bl, or_assoc]
        refine ⟨rfl, _, Sh.laned HSHa.out hla HBTb.out (by simpa using HLNb.out) (fun b hb => ?_) ?_, hTT, fun k hk => ?_⟩
        · rcases List.mem_append.1 hb with h1 | h1
          · refine bt_st (fun k hk => HBTb.out.far k (hla k (mem_W h1 hk)) (fun e9 => ?_)) (HSHa.out.rows b h1)
            have := HSH.out.nd
            unfold Gm.bl at this
            rw [List.nodup_append] at this
            exact this.2.2 G.ch (by simp) k (List.mem_append_right _ (List.mem_flatMap.2 ⟨b, h1, hk⟩)) e9.symm
          · simp at h1
            subst h1
            refine ⟨ws_st (fun k hk => HBTb.out.far k (hob k hk).2 (fun e9 => by have := hob k hk; have := HL.out _ (mem_ch G s); omega)) (isWs_of HOa.out.is), H4.out, HRS.out, HALL.out, HLN.out⟩
        · have e : ({ G with W := G.W ++ [⟨([a0, a1, a2, a3], d), .slice sa n cap, L⟩] } : Gm).bl s = G.bl s ++ ob (.slice sa n cap) := by unfold Gm.bl; simp [Bt.bl]
          rw [e, List.nodup_append]
          exact ⟨HSH.out.nd, ob_nodup _, fun k hk k' hk' e9 => by have := HL.out k hk; have := hob k' hk'; omega⟩
        · rcases (hbl k).1 hk with h1 | h1
          · exact ⟨.inl h1, Nat.lt_of_lt_of_le (hla k h1) HBTb.out.size⟩
          · exact ⟨.inr (hob k h1).1, Nat.lt_of_lt_of_le (hob k h1).2 HBTb.out.size⟩
      | false =>
        rw [if_neg (by decide)] at HLNb
        simp only [pushW, Bool.false_eq_true, if_false]
        refine ⟨rfl, .slice sa n cap, Sh.laned (W := G.W) HSHa.out hla HBTb.out HLNb.out (fun b h1 => bt_st (fun k hk => HBTb.out.far k (hla k (mem_W h1 hk)) (fun e9 => ?_)) (HSHa.out.rows b h1)) HSH.out.nd, hTT, fun k hk => ⟨.inl hk, Nat.lt_of_lt_of_le (hla k hk) HBTb.out.size⟩⟩
        have := HSH.out.nd
        unfold Gm.bl at this
        rw [List.nodup_append] at this
        exact this.2.2 G.ch (by simp) k (List.mem_append_right _ (List.mem_flatMap.2 ⟨b, h1, hk⟩)) e9.symm
end Go.Proofs.Ytohcdonmdnjgoaa.Sd
