/- chain, int: Prune. -/
import Derived.Test.YtmajkapapbhabaaChainReadI

import Derived.Test.YtmajkapapbhabaaRowSet

import Derived.Test.YtmajkapapbhabaaChainAddI

import Derived.Lib.SliceRun

namespace Go.Proofs.Ytmajkapapbhabaa.Ch

open Go.RowKit Go.Proofs.Ytmajkapapbhabaa.Vc Go.Proofs.Ytmajkapapbhabaa.Sp Go.Proofs.Ytmajkapapbhabaa.Rw

set_option linter.unusedVariables false

set_option linter.unusedSimpArgs false

set_option maxRecDepth 100000

section

variable {P : Program} {ops : Array Oper} {rest : List Oper} {o : Oper} {a : Act} {w : World} {Q : Exit → Act → World → Prop}

theorem mid_loadgI (hw : Region.wanted o (yielded ops a.tmps) = true) (t : TypeId) (x : Operand) (ho : o.op = .load t x) (b p : Nat) (hx : a.eval x = .pointer (some ⟨b, p, none⟩)) (vs : List Value) (hb : w.rangeAt b p vs)
    (d : TypeDesc) (hu : P.underlying t = some d) (hd : d.isRow = true) (hi : (P.info? t).map (·.size) = some vs.length)
    (h : wpList P ops Q rest (a.put o.dst (.agg vs.toArray)) w) : wpList P ops Q (o :: rest) a w :=
  wpList_step fun _ hK => by rw [if_pos hw]; exact wp_load_mid t x ho b p hx vs d hb hu hd hi (hK _ _ h)
end

theorem neq_sI (a b : List Nat) (d e : Int) (ha : a.length = 4) (hb : b.length = 4) (w : World) : (binOp .neq 34 (SV a d) (SV b e)).run Try.prog w = .ok (.bool (!T.same a d b e)) w := by
  have h := eq_gen under_s held_s fields_s Try.underlying32 (fun w => Try.sizeOf32 w) a b d e ha hb w
  have e : binOp .neq 34 (SV a d) (SV b e) = (do pure (.bool (!(← Op.equalIn 10000 34 (SV a d) (SV b e))))) := rfl
  rw [e]
  simp only [Sem.run_bind, h, Result.andThen_ok, Sem.run_pure]
theorem guardn_sI (x y : Operand) (l m : List Nat) (d e : Int) (w : World) : (eqGuard .neq 34 x y (SV l d) (SV m e)).run Try.prog w = .ok () w := by
  unfold SV
  simp [eqGuard, guardType_s]
set_option maxHeartbeats 4000000 in
theorem prune1I (x : C.Vr Nat) (h : List Nat) (s : C.St) (z : Value) (bh bs : Nat) (w : World) (hx : x.1.1.length = 4) (hh : h.length = 4) (hs : s.1.length = 4) (hA : Arr .u64 w bh h) (hB : Blk w bs ((ks .u64 s.1 ++ [.int .i64 s.2]) ++ [z])) (hbh : bh < w.heap.size) (hbs : bs < w.heap.size) :
    Calls Try.prog 52 #[(vk num).val x, .pointer (some ⟨bh, 0, none⟩), .pointer (some ⟨bs, 0, none⟩)] w fun e w' => e = .returned (.bool (C.seen x.1 h && !decide (x.1 = s))) ∧ Below w.heap.size w w' := by
  obtain ⟨⟨a, d⟩, y⟩ := x
  obtain ⟨b, e0⟩ := s
  have hv := val_I ((a, d), y) hx
  rw [hv]
  dsimp only at hx hs hB ⊢
  have CQ := Lib.hid (fun w => sseen_any a h d w hx hh)
  have HSa := Lib.hid (size_s (d := d) hx)
  have HSb := Lib.hid (size_s (d := e0) hs)
  have HSh := Lib.hid (size_v hh)
  have hsame : T.same a d b e0 = decide (((a, d) : C.St) = (b, e0)) := by
    unfold T.same
    rw [← Bool.decide_and]
    exact decide_eq_decide.2 (by simp)
  have hneq : ∀ w, (binOp .neq 34 (SV a d) (SV b e0)).run Try.prog w = .ok (.bool (!decide (((a, d) : C.St) = (b, e0)))) w := fun w => by rw [← hsame]; exact neq_sI a b d e0 hx hs w
  have hgrd : ∀ x y w, (eqGuard .neq 34 x y (SV a d) (SV b e0)).run Try.prog w = .ok () w := fun x y w => guardn_sI x y a b d e0 w
  show Calls _ _ _ _ fun e w' => e = .returned (.bool (V.leq a h && !decide (((a, d) : C.St) = (b, e0)))) ∧ _
  generalize decide (((a, d) : C.St) = (b, e0)) = r at *
  obtain ⟨u, HU⟩ : ∃ u, Hid (num.f y = u) := ⟨_, rfl⟩
  rw [HU.out]
  have HA := Lib.hid hA
  have HB := Lib.hid hB
  unfold SV at hneq hgrd
  cases hq : V.leq a h with
  | false =>
    rw [hq] at CQ
    clear hv hx hh hs hsame hA hB hq hneq hgrd
    show Calls _ _ _ _ fun e w' => e = .returned (.bool false) ∧ _
    go_enter Try.func52, Try.ntmps52
    go_wp2_with (first | refine blk_box rfl 72 _ rfl (ks .u64 a ++ [Value.int .i64 d, u]) rfl ?_)
    intro w1 A1 B1 Z1
    have HA1 : Hid (Blk w1 w.heap.size ((ks .u64 a ++ [Value.int .i64 d]) ++ [u])) := by
      show Blk _ _ _
      rw [List.append_assoc]
      exact A1
    have HH1 : Hid (Arr .u64 w1 bh h) := Arr.below HA.out B1 hbh
    have HW1 : Hid (Below w.heap.size w w1) := B1
    clear A1 B1 Z1
    go_wp2_with (first | refine sub_load rfl 34 _ rfl w.heap.size rfl (ks .u64 a ++ [Value.int .i64 d]) [u] HA1.out _ Try.underlying34 rfl HSa.out ?_ | refine arr_load rfl .u64 32 _ rfl bh rfl h HH1.out 4 30 Try.underlying32 HSh.out ?_)
    refine (CQ.out _).mono ?_; rintro e w3 ⟨rfl, hb3⟩
    have HW3 : Hid (Below w.heap.size w w3) := Below.trans HW1.out (hb3.mono HW1.out.size)
    clear hb3
    go_wp2_with fail
    go_ret
    exact ⟨rfl, HW3.out⟩
  | true =>
    rw [hq] at CQ
    clear hv hx hh hs hsame hA hB hq
    show Calls _ _ _ _ fun e w' => e = .returned (.bool (!r)) ∧ _
    go_enter Try.func52, Try.ntmps52
    go_wp2_with (first | refine blk_box rfl 72 _ rfl (ks .u64 a ++ [Value.int .i64 d, u]) rfl ?_)
    intro w1 A1 B1 Z1
    have HA1 : Hid (Blk w1 w.heap.size ((ks .u64 a ++ [Value.int .i64 d]) ++ [u])) := by
      show Blk _ _ _
      rw [List.append_assoc]
      exact A1
    have HZ1 : Hid (w.heap.size < w1.heap.size) := by show _ < _; omega
    have HH1 : Hid (Arr .u64 w1 bh h) := Arr.below HA.out B1 hbh
    have HG1 : Hid (Blk w1 bs ((ks .u64 b ++ [.int .i64 e0]) ++ [z])) := Blk.below HB.out B1 hbs
    have HL1 : Hid (bs < w1.heap.size) := Nat.lt_of_lt_of_le hbs B1.size
    have HW1 : Hid (Below w.heap.size w w1) := B1
    clear A1 B1 Z1
    go_wp2_with (first | refine sub_load rfl 34 _ rfl w.heap.size rfl (ks .u64 a ++ [Value.int .i64 d]) [u] HA1.out _ Try.underlying34 rfl HSa.out ?_ | refine arr_load rfl .u64 32 _ rfl bh rfl h HH1.out 4 30 Try.underlying32 HSh.out ?_)
    refine (CQ.out _).mono ?_; rintro e w3 ⟨rfl, hb3⟩
    have HW3 : Hid (Below w.heap.size w w3) := Below.trans HW1.out (hb3.mono HW1.out.size)
    have HA3 : Hid (w3.rangeAt w.heap.size 0 (ks .u64 a ++ [Value.int .i64 d])) := preb (Blk.below HA1.out hb3 HZ1.out)
    have HG3 : Hid (w3.rangeAt bs 0 (ks .u64 b ++ [Value.int .i64 e0])) := preb (Blk.below HG1.out hb3 HL1.out)
    clear hb3 hbh hbs
    go_wp2_with (first | refine mid_loadgI rfl 34 _ rfl w.heap.size 0 rfl (ks .u64 a ++ [Value.int .i64 d]) HA3.out _ Try.underlying34 rfl HSa.out ?_ | refine mid_loadgI rfl 34 _ rfl bs 0 rfl (ks .u64 b ++ [Value.int .i64 e0]) HG3.out _ Try.underlying34 rfl HSb.out ?_)
    go_ret
    exact ⟨rfl, HW3.out⟩
/-- the first place at which p is -/
def IxI (p : C.Vr Nat → Bool) (L : List (C.Vr Nat)) (r : Int) : Prop :=
  (r = -1 ∧ ∀ x ∈ L, p x = false) ∨ ∃ i : Nat, r = (i : Int) ∧ i < L.length ∧ p (L.getD i (vk num).none_) = true ∧ ∀ j, j < i → p (L.getD j (vk num).none_) = false
set_option maxHeartbeats 4000000 in
theorem indexI (c1 c2 : Value) (p : C.Vr Nat → Bool) (v : Value) (L : List (C.Vr Nat)) (w : World) (hL : IsR (vk num) w v L) (hn : L.length < 1000000)
    (hf : ∀ x ∈ L, ∀ u, Below w.heap.size w u → Calls Try.prog 52 #[(vk num).val x, c1, c2] u fun e u' => e = .returned (.bool (p x)) ∧ Below u.heap.size u u') :
    Calls Try.prog 74 #[v, .func (.func 52) #[] #[c1, c2]] w fun e w' => ∃ r, e = .returned (.int .i64 r) ∧ IxI p L r ∧ Below w.heap.size w w' := by
  obtain ⟨sa, cap, rfl, hca, hma, _⟩ := hL.is
  obtain ⟨n, HN⟩ : ∃ n, Hid (L.length = n) := ⟨_, rfl⟩
  have HL := Lib.hid hL
  have HFN := Lib.hid hf
  rw [HN.out] at HL hn
  rw [HN.out]
  have HB1 : Hid (Below w.heap.size w w) := Below.refl _ _
  have HE0 : Hid (∀ j, j < 0 → p (L.getD j (vk num).none_) = false) := fun j hj => absurd hj (by omega)
  clear hL hca hma hf
  go_enter Try.func74, Try.ntmps74
  go_wp2_with fail
  go_loopw [8] (fun i wr => ∃ j : Nat, j ≤ n ∧ i = .int .i64 j ∧ Hid (∀ k, k < j → p (L.getD k (vk num).none_) = false) ∧ Hid (Below w.heap.size w wr)) (fun i _ => n - (intOf i).toNat)
  case atStart => exact ⟨0, by omega, rfl, HE0, HB1⟩
  case round =>
    obtain ⟨j, hj, rfl, HEr, HBr⟩ := hrel
    clear HB1 HE0
    by_cases hlt : j < n
    · have ilt : (j : Int) < (n : Int) := by omega
      obtain ⟨g, off, cap', hv, hg0, hrow⟩ := IsR.at HL.out j (by rw [HN.out]; exact hlt)
      obtain rfl : sa = some ⟨g, off, none⟩ := by injection hv
      clear hv
      have hrow : wr.rangeAt g (off + 6 * j) ((vk num).cf (L.getD j (vk num).none_)) := fun k v hv => by rw [HBr.out.cell (p := ⟨g, off + 6 * j + k, none⟩) hg0]; exact hrow k v hv
      have hmem : L.getD j (vk num).none_ ∈ L := List.mem_of_getElem? (C.getD_some (by rw [HN.out]; exact hlt) _)
      have CF := Lib.hid (HFN.out _ hmem)
      obtain ⟨x, HX⟩ : ∃ x, Hid (L.getD j (vk num).none_ = x) := ⟨_, rfl⟩
      rw [HX.out] at hrow CF
      obtain ⟨q, HQ⟩ : ∃ q, Hid (p x = q) := ⟨_, rfl⟩
      rw [HQ.out] at CF
      have HRr := Lib.hid hrow
      have hix : ∀ w, (Instr.indexAt 80 (.slice (some ⟨g, off, none⟩) n cap) (.int .i64 (j : Int))).run Try.prog w = .ok (.pointer (some ⟨g, off + 6 * j, none⟩)) w := fun w => index_vI g off n cap j hlt w
      clear hrow hmem
      go_wp2_with (first | refine wpList_load_mid rfl 72 _ rfl g (off + 6 * j) rfl ((vk num).cf x) _ HRr.out Try.underlying72 rfl size_vI ?_)
      refine (CF.out _ HBr.out).mono ?_; rintro e w4 ⟨rfl, hb4⟩
      have HW4 : Hid (Below w.heap.size w w4) := Below.trans HBr.out (hb4.mono HBr.out.size)
      clear hb4 hix CF HRr
      cases q with
      | false =>
        have HE' : Hid (∀ k, k < j + 1 → p (L.getD k (vk num).none_) = false) := fun k hk => by
          rcases Nat.lt_or_eq_of_le (Nat.le_of_lt_succ hk) with h | h
          · exact HEr.out k h
          · rw [h, HX.out]; exact HQ.out
        go_wp2_with fail
        go_roundw
        case rel => exact ⟨j + 1, by omega, by go_num, HE', HW4⟩
        case measure => simp [intOf]; omega
      | true =>
        go_wp2_with fail
        go_ret
        exact ⟨_, rfl, .inr ⟨j, rfl, by rw [HN.out]; exact hlt, by rw [HX.out]; exact HQ.out, HEr.out⟩, HW4.out⟩
    · obtain rfl : j = n := by omega
      go_wp2_with fail
      go_ret
      refine ⟨_, rfl, .inl ⟨rfl, fun x hx => ?_⟩, HBr.out⟩
      obtain ⟨i, hi, e⟩ := List.getElem_of_mem hx
      have := HEr.out i (by rw [← HN.out]; exact hi)
      rw [List.getD_eq_getElem?_getD, List.getElem?_eq_getElem hi, e] at this
      exact this
end Go.Proofs.Ytmajkapapbhabaa.Ch

namespace Go.Proofs.Ytmajkapapbhabaa.Ch

open Go.RowKit Go.Proofs.Ytmajkapapbhabaa.Vc Go.Proofs.Ytmajkapapbhabaa.Sp Go.Proofs.Ytmajkapapbhabaa.Rw

set_option linter.unusedVariables false

set_option linter.unusedSimpArgs false

set_option maxRecDepth 100000

theorem fil_stepI (p : C.Vr Nat → Bool) (L : List (C.Vr Nat)) (j : Nat) (hj : j < L.length) : (L.take (j + 1)).filter (fun x => !p x) = (L.take j).filter (fun x => !p x) ++ if p (L.getD j (vk num).none_) = true then [] else [L.getD j (vk num).none_] := by
  rw [C.filter_take L (fun x => !p x) j _ (C.getD_some hj _)]
  cases p (L.getD j (vk num).none_) <;> rfl
theorem fil_startI (p : C.Vr Nat → Bool) (L : List (C.Vr Nat)) (i : Nat) (hi : i ≤ L.length) (h : ∀ j, j < i → p (L.getD j (vk num).none_) = false) : (L.take i).filter (fun x => !p x) = L.take i := by
  rw [List.filter_eq_self]
  intro x hx
  obtain ⟨j, hj, e⟩ := List.getElem_of_mem hx
  have hj' : j < i := by rw [List.length_take] at hj; omega
  have := h j hj'
  rw [List.getElem_take] at e
  rw [List.getD_eq_getElem?_getD, List.getElem?_eq_getElem (by omega), e] at this
  rw [show p x = false from this]; rfl
set_option maxHeartbeats 8000000 in
theorem deleteI (c1 c2 : Value) (p : C.Vr Nat → Bool) (base : Nat) (v : Value) (L : List (C.Vr Nat)) (w : World) (hown : OR (vk num) 72 w base v L) (hn : L.length < 100000)
    (hf : ∀ x ∈ L, ∀ u, w.grownBy u v.ownBlock → Calls Try.prog 52 #[(vk num).val x, c1, c2] u fun e u' => e = .returned (.bool (p x)) ∧ Below u.heap.size u u') :
    Calls Try.prog 51 #[v, .func (.func 52) #[] #[c1, c2]] w fun e w' => ∃ v', e = .returned v' ∧ OR (vk num) 72 w' base v' (L.filter fun x => !p x) ∧ w.grownBy w' v.ownBlock ∧ v'.ownBlock = v.ownBlock := by
  have CI := Lib.hid (indexI c1 c2 p v L w hown.is (by omega) (fun x hx u hu => hf x hx u (grownBy_below hu _)))
  have HFN := Lib.hid hf
  have HOW := Lib.hid hown
  obtain ⟨sa, cap, ev, hca, hma, _⟩ := hown.is.is
  subst ev
  obtain ⟨n, HN⟩ : ∃ n, Hid (L.length = n) := ⟨_, rfl⟩
  rw [HN.out] at CI HOW hca hn
  rw [HN.out]
  rw [HN.out] at HFN
  clear hf hown hma
  go_enter Try.func51, Try.ntmps51
  go_wp2_with fail
  refine CI.out.mono ?_; rintro e w1 ⟨r, rfl, hix, hb1⟩
  rcases hix with ⟨rfl, hall⟩ | ⟨i, rfl, hi, hpi, hbef⟩
  · have HFA : Hid (L.filter (fun x => !p x) = L) := by
      show _ = _
      rw [List.filter_eq_self]
      intro x hx
      rw [hall x hx]; rfl
    have HO1 := Lib.hid (HOW.out.below hb1)
    have HB1 := Lib.hid hb1
    clear hall hb1
    go_wp2_with fail
    go_ret
    rw [HFA.out]
    exact ⟨_, rfl, HO1.out, grownBy_below HB1.out _, rfl⟩
  · rw [HN.out] at hi
    obtain ⟨g, hsa, hg⟩ : ∃ g, sa = some ⟨g, 0, none⟩ ∧ base ≤ g := by
      rcases HOW.out.row with ⟨h0, h1⟩ | ⟨g, cap', cur, hv, hB, _⟩
      · rw [h1] at HN; have := HN.out; simp at this; omega
      · injection hv with h1 _ _
        exact ⟨g, h1, hB⟩
    subst hsa
    have HO1 : Hid (OR (vk num) 72 w1 base (.slice (some ⟨g, 0, none⟩) n cap) L) := HOW.out.below hb1
    have HG1 : Hid (w.grownBy w1 (some g)) := grownBy_below hb1 _
    have HT1 : Hid (L.take i = (L.take (i + 1)).filter (fun x => !p x)) := by
      show _ = _
      rw [fil_stepI p L i (by rw [HN.out]; exact hi), if_pos hpi, List.append_nil, fil_startI p L i (by rw [HN.out]; omega) hbef]
    have HD1 : Hid (L.drop (i + 1) = L.drop (i + 1)) := rfl
    have hne1 : ((i : Int) == -1) = false := beq_eq_false_iff_ne.2 (by omega)
    clear hpi hbef hb1
    go_wp2_with fail
    go_loopw [5, 6] (fun a b wr => ∃ (i0 j0 : Nat) (M : List (C.Vr Nat)), i0 < j0 ∧ j0 ≤ n ∧ a = .int .i64 i0 ∧ b = .int .i64 j0 ∧ Hid (M.length = n) ∧ Hid (M.take i0 = (L.take j0).filter (fun x => !p x)) ∧ Hid (M.drop j0 = L.drop j0) ∧ Hid (OR (vk num) 72 wr base (.slice (some ⟨g, 0, none⟩) n cap) M) ∧ Hid (w.grownBy wr (some g))) (fun _ b _ => n - (intOf b).toNat)
    case atStart => exact ⟨i, i + 1, L, by omega, by omega, rfl, by go_num, HN, HT1, (show Hid (_ = _) from rfl), HO1, HG1⟩
    case round =>
      obtain ⟨i0, j0, M, hij, hjn, rfl, rfl, HMN, HMT, HMD, HOr, HGr⟩ := hrel
      clear HO1 HG1 HT1 HD1 hne1
      by_cases hlt : j0 < n
      · have ilt : (j0 : Int) < (n : Int) := by omega
        have hjM : j0 < M.length := by rw [HMN.out]; exact hlt
        have hjL : j0 < L.length := by rw [HN.out]; exact hlt
        have hsame : M.getD j0 (vk num).none_ = L.getD j0 (vk num).none_ := by
          have := congrArg (fun l => l[0]?) HMD.out
          simp only [List.getElem?_drop, Nat.add_zero] at this
          rw [List.getD_eq_getElem?_getD, List.getD_eq_getElem?_getD, this]
        obtain ⟨g', off, cap', hv, hg0, hrow⟩ := IsR.at HOr.out.is j0 hjM
        rw [hsame] at hrow
        have hmem : L.getD j0 (vk num).none_ ∈ L := List.mem_of_getElem? (C.getD_some hjL _)
        have hfs := fil_stepI p L j0 hjL
        have CF := Lib.hid (HFN.out _ hmem)
        obtain ⟨x, HX⟩ : ∃ x, Hid (L.getD j0 (vk num).none_ = x) := ⟨_, rfl⟩
        rw [HX.out] at hrow CF hfs
        obtain ⟨q, HQ⟩ : ∃ q, Hid (p x = q) := ⟨_, rfl⟩
        rw [HQ.out] at CF hfs
        simp only [Value.slice.injEq, Option.some.injEq, Addr.mk.injEq] at hv
        obtain ⟨⟨rfl, rfl, _⟩, hx9, rfl⟩ := hv
        clear hx9
        have hrow : wr.rangeAt g (6 * j0) ((vk num).cf x) := fun k u hu => by have := hrow k u hu; rw [Nat.zero_add] at this; exact this
        have HRr := Lib.hid hrow
        have hix : ∀ w, (Instr.indexAt 80 (.slice (some ⟨g, 0, none⟩) n cap) (.int .i64 (j0 : Int))).run Try.prog w = .ok (.pointer (some ⟨g, 6 * j0, none⟩)) w := fun w => by have := index_vI g 0 n cap j0 hlt w; rw [Nat.zero_add] at this; exact this
        have HFS := Lib.hid hfs
        have HGL := Lib.hid hg0
        clear hrow hmem hfs hsame hg0
        go_wp2_with (first | refine wpList_load_mid rfl 72 _ rfl g (6 * j0) rfl ((vk num).cf x) _ HRr.out Try.underlying72 rfl size_vI ?_ | refine blk_alloc rfl 72 ((vk num).cf (vk num).none_) rfl info_vI ?_)
        intro w2 A2 B2 Z2
        go_wp2_with (first | refine blk_store rfl 72 _ _ rfl wr.heap.size rfl ((vk num).cf x) rfl _ A2 rfl size_vI rfl ?_)
        intro w3 A3 U3
        have HA3 : Hid (Blk w3 wr.heap.size ((vk num).cf x)) := A3
        have HB3 : Hid (Below wr.heap.size wr w3) := B2.trans (U3.below (Nat.le_refl _))
        have HZ3 : Hid (wr.heap.size < w3.heap.size) := by show _ < _; rw [U3.size]; omega
        have HG3 : Hid (w.grownBy w3 (some g)) := grownBy_trans HGr.out (grownBy_below HB3.out _)
        clear A2 B2 Z2 A3 U3 hix
        go_wp2_with (first | refine blk_load rfl 72 _ rfl wr.heap.size rfl ((vk num).cf x) HA3.out _ Try.underlying72 rfl size_vI ?_)
        refine (CF.out _ HG3.out).mono ?_; rintro e w4 ⟨rfl, hb4⟩
        have HA4 : Hid (Blk w4 wr.heap.size ((vk num).cf x)) := Blk.below HA3.out hb4 HZ3.out
        have HB4 : Hid (Below wr.heap.size wr w4) := Below.trans HB3.out (hb4.mono HB3.out.size)
        have HO4 := Lib.hid (HOr.out.below HB4.out)
        have HG4 : Hid (w.grownBy w4 (some g)) := grownBy_trans HGr.out (grownBy_below HB4.out _)
        have HDn : Hid (M.drop (j0 + 1) = L.drop (j0 + 1)) := by
          show _ = _
          rw [← List.drop_drop, ← List.drop_drop, HMD.out]
        clear hb4 HA3 HB3 HOr HZ3 CF HRr HGr HG3 HMD
        cases q with
        | false =>
          have hi0 : i0 < M.length := by rw [HMN.out]; omega
          have i0n : i0 < n := by omega
          have hix : ∀ w, (Instr.indexAt 80 (.slice (some ⟨g, 0, none⟩) n cap) (.int .i64 (i0 : Int))).run Try.prog w = .ok (.pointer (some ⟨g, 6 * i0, none⟩)) w := fun w => by have := index_vI g 0 n cap i0 i0n w; rw [Nat.zero_add] at this; exact this
          have HMN' : Hid ((M.set i0 x).length = n) := by show _ = _; rw [List.length_set]; exact HMN.out
          have HMT' : Hid ((M.set i0 x).take (i0 + 1) = (L.take (j0 + 1)).filter (fun x => !p x)) := by
            show _ = _
            rw [HFS.out, ← HMT.out, if_neg (by simp), List.take_add_one, List.getElem?_set_self hi0, List.take_set_of_le (Nat.le_refl _)]
            rfl
          have HDn' : Hid ((M.set i0 x).drop (j0 + 1) = L.drop (j0 + 1)) := by show _ = _; rw [List.drop_set_of_lt (by omega)]; exact HDn.out
          go_wp2_with (first | refine blk_load rfl 72 _ rfl wr.heap.size rfl ((vk num).cf x) HA4.out _ Try.underlying72 rfl size_vI ?_ | refine or_store (K := vk num) rfl 72 _ _ rfl g (6 * i0) rfl x rfl base n cap M HO4.out i0 hi0 rfl size_vI ?_)
          intro w5 ho5 hg5
          have HOs := Lib.hid ho5
          have HGs : Hid (w.grownBy w5 (some g)) := grownBy_trans HG4.out hg5
          clear ho5 hg5 HA4 HO4 HG4
          go_wp2_with fail
          go_roundw
          case rel => exact ⟨i0 + 1, j0 + 1, M.set i0 x, by omega, by omega, by go_num, by go_num, HMN', HMT', HDn', HOs, HGs⟩
          case measure => simp [intOf]; omega
        | true =>
          have HMT' : Hid (M.take i0 = (L.take (j0 + 1)).filter (fun x => !p x)) := by
            show _ = _
            have h9 := HFS.out
            rw [if_pos rfl, List.append_nil] at h9
            rw [h9]; exact HMT.out
          go_wp2_with fail
          go_roundw
          case rel => exact ⟨i0, j0 + 1, M, by omega, by omega, rfl, by go_num, HMN, HMT', HDn, HO4, HG4⟩
          case measure => simp [intOf]; omega
      · obtain rfl : j0 = n := by omega
        have HM0 : Hid (M.take i0 = L.filter (fun x => !p x)) := by
          show _ = _
          rw [HMT.out, List.take_of_length_le (by rw [HN.out]; exact Nat.le_refl _)]
        have hl0 : (M.take i0).length = i0 := by rw [List.length_take, HMN.out]; omega
        rcases HOr.out.row with ⟨h0, h1⟩ | ⟨g', cap', cur, hv, hB, hgl, hh, hnc, hcm, hcs, htake⟩
        · cases h0
        · simp only [Value.slice.injEq, Option.some.injEq, Addr.mk.injEq] at hv
          obtain ⟨⟨rfl, _⟩, hx9, rfl⟩ := hv
          have hk : (vk num).k = 6 := rfl
          rw [hk] at hcs htake
          rw [HMN.out] at hnc htake
          obtain ⟨cur', hr, hsz, htk⟩ := run_clear_gen wr 80 72 0 _ 6 Try.underlying80 (zero_of_info info_vI).1 rfl (fun v hv => (vk num).one (vk num).none_ v hv) g (6 * i0) (j0 - i0) (cap - i0) cur 72 hh (by omega) (by rw [hcs]; omega)
          have HCL : Hid (∀ ty, (Builtin.clear_ #[80] ty #[.slice (some ⟨g, 6 * i0, none⟩) (j0 - i0) (cap - i0)]).run Try.prog wr = .ok (.tuple #[]) (wr.setRow g cur')) := fun ty => hr
          have HO9 : Hid (OR (vk num) 72 (wr.setRow g cur') base (.slice (some ⟨g, 0, none⟩) i0 cap) (M.take i0)) := by
            have h9 : OR (vk num) 72 (wr.setRow g cur') base (.slice (some ⟨g, 0, none⟩) (M.take i0).length cap) (M.take i0) := by
              refine OR.of hB (setRow_heap wr g cur cur' _ _ hh) (by omega) hcm (by rw [hsz, hcs, hk]) ?_
              rw [hl0, hk, Nat.mul_comm, htk]
              have h8 := congrArg (List.take (6 * i0)) htake
              rw [List.take_take, Nat.min_eq_left (by omega)] at h8
              rw [h8, ← cells_take_drop M i0, List.take_append_of_le_length (by rw [cells_len, hl0, hk]; omega), List.take_of_length_le (by rw [cells_len, hl0, hk]; omega)]
            rw [hl0] at h9
            exact h9
          have HG9 : Hid (w.grownBy (wr.setRow g cur') (some g)) := grownBy_trans HGr.out (grownBy_setRow wr g cur')
          have hz1 : ∀ w, (Instr.sliceAt 80 (.slice (some ⟨g, 0, none⟩) j0 cap) (some (.int .i64 (i0 : Int))) none none).run Try.prog w = .ok (.slice (some ⟨g, 6 * i0, none⟩) (j0 - i0) (cap - i0)) w := fun w => by
            have := run_slice_lo elem_vI Try.underlying80 Try.sizeOf72 g 0 j0 cap i0 (by omega) (by omega) w
            rw [Nat.zero_add] at this
            exact this
          have hz2 : ∀ w, (Instr.sliceAt 80 (.slice (some ⟨g, 0, none⟩) j0 cap) none (some (.int .i64 (i0 : Int))) none).run Try.prog w = .ok (.slice (some ⟨g, 0, none⟩) i0 cap) w := fun w => run_slice_hi elem_vI Try.underlying80 Try.sizeOf72 g 0 j0 cap i0 (by omega) w
          obtain ⟨n1, HN1⟩ : ∃ z, Hid (j0 - i0 = z) := ⟨_, rfl⟩
          obtain ⟨c9, HC9⟩ : ∃ z, Hid (cap - i0 = z) := ⟨_, rfl⟩
          obtain ⟨o9, HO99⟩ : ∃ z, Hid (6 * i0 = z) := ⟨_, rfl⟩
          rw [HN1.out, HC9.out, HO99.out] at hz1 HCL
          rw [HM0.out] at HO9
          clear hr hsz htk hh hcs htake hcm hnc hB hgl hx9 hk hl0
          go_wp2_with (first | refine clear_step rfl _ _ rfl rfl (HCL.out _) ?_)
          go_ret
          exact ⟨_, rfl, HO9.out, HG9.out, rfl⟩
end Go.Proofs.Ytmajkapapbhabaa.Ch

namespace Go.Proofs.Ytmajkapapbhabaa.Ch

open Go.RowKit Go.Proofs.Ytmajkapapbhabaa.Vc Go.Proofs.Ytmajkapapbhabaa.Sp Go.Proofs.Ytmajkapapbhabaa.Rw

set_option linter.unusedVariables false

set_option linter.unusedSimpArgs false

set_option maxRecDepth 100000

set_option maxHeartbeats 2000000 in
theorem newI (w : World) : Calls Try.prog 22 #[] w fun e w' => e = .returned (.pointer (some ⟨w.heap.size, 0, none⟩)) ∧ Ch num 72 w' w.heap.size (.slice none 0 0) [] ∧ Below w.heap.size w w' := by
  go_enter Try.func22, Try.ntmps22
  go_wp2_with (first | refine blk_box rfl 101 _ rfl [Value.slice none 0 0] rfl ?_)
  intro w1 A1 B1 Z1
  have HA := Lib.hid A1
  have HB := Lib.hid B1
  clear A1 B1 Z1
  go_wp2_with fail
  go_ret
  exact ⟨rfl, ⟨HA.out, OR.nil _ _ _, C.Up.nil⟩, HB.out⟩
set_option maxHeartbeats 2000000 in
theorem lenI (c : Nat) (v : Value) (L : List (C.Vr Nat)) (w : World) (hch : Ch num 72 w c v L) :
    Calls Try.prog 27 #[.pointer (some ⟨c, 0, none⟩)] w fun e w' => e = .returned (.int .i64 (L.length : Int)) ∧ w' = w := by
  have cc := hch.cell
  obtain ⟨sa, cap, ev, _⟩ := hch.own.is.is
  subst ev
  clear hch
  generalize L.length = n at *
  go_enter Try.func27, Try.ntmps27
  go_wp2_with fail
  go_ret
  exact ⟨rfl, rfl⟩
set_option maxHeartbeats 4000000 in
theorem cloneI (v : Value) (L : List (C.Vr Nat)) (w : World) (hL : IsR (vk num) w v L) (hn0 : v.ownBlock = none → L = []) (hn : L.length < 100000) :
    Calls Try.prog 53 #[v] w fun e w' => ∃ v', e = .returned v' ∧ OR (vk num) 72 w' w.heap.size v' L ∧ Below w.heap.size w w' := by
  obtain ⟨sa, cap, rfl, hca, hma, hrow⟩ := hL.is
  cases sa with
  | none =>
    have h0 : L = [] := hn0 rfl
    subst h0
    have HO : Hid (OR (vk num) 72 w w.heap.size (.slice none 0 0) []) := OR.nil _ _ _
    have hnil : ∀ w, (binOp .eql 80 (.slice none 0 cap) (.slice none 0 0)).run Try.prog w = .ok (.bool true) w := fun w => Lib.run_eql_slice_nil w 80 72 none 0 cap 0 0 Try.underlying80
    clear hL hrow hn0
    go_enter Try.func53, Try.ntmps53
    go_wp2_with fail
    go_ret
    exact ⟨_, rfl, HO.out, Below.refl _ _⟩
  | some ad =>
    obtain ⟨i0, hi0, hq0, hq1, hq2⟩ : ∃ i0, Try.prog.info? 72 = some i0 ∧ i0.zero = some ((vk num).val (vk num).none_) ∧ i0.size = 6 ∧ i0.bytes = 48 := by
      have hinf := inf_I
      cases hi : Try.prog.info? 72 with
      | none => rw [hi] at hinf; cases hinf
      | some i0 =>
        rw [hi] at hinf
        simp only [Option.map_some, Option.some.injEq, Prod.mk.injEq] at hinf
        exact ⟨i0, rfl, hinf.1, hinf.2.1, hinf.2.2⟩
    have HW : Hid (Below w.heap.size w (w.alloc (.cells #[] 72))) := (Below.refl _ w).alloc (Nat.le_refl _) _
    have hcells : ∀ j u, ((vk num).cells L)[j]? = some u → (w.alloc (.cells #[] 72)).cell? (ad.add j) = some u := by
      by_cases hne : L = []
      · subst hne; intro j u hu; simp [Kd.cells] at hu
      · obtain ⟨b, off, ha, hlt, hW⟩ := hrow hne
        obtain rfl := Option.some.inj ha
        exact cells_row (hW.below HW.out hlt)
    have hown : (w.alloc (.cells #[] 72)).ownsRow w.heap.size 72 6 (.slice (some ⟨w.heap.size, 0, none⟩) 0 0) 0 [] := World.ownsRow_made w #[] 0 (Nat.le_refl _) (Nat.zero_le _) rfl
    obtain ⟨v', w', hr, ho, hg, _⟩ := run_append_own (P := Try.prog) (w.alloc (.cells #[] 72)) w.heap.size 80 80 72 i0 _ 6 48 Try.underlying80 hi0 hq0 hq1 hq2 rfl (by decide) _ 0 [] hown ad L.length cap ((vk num).cells L) (cells_len L) hcells (cells_one L) (by unfold maxLen; omega) (by omega) (by simp)
    rw [Nat.zero_add, List.nil_append] at ho
    have HO : Hid (OR (vk num) 72 w' w.heap.size v' L) := ⟨ho⟩
    have HG : Hid (Below w.heap.size w w') := HW.out.grown hg (by simp) (fun k hk => (World.ownsRow.lt hown k hk).1)
    have HR := Lib.hid hr
    clear hr ho hg hcells hown hrow hL hi0 hq0 hq1 hq2 hn0
    generalize L.length = n at *
    have hnil : ∀ w, (binOp .eql 80 (.slice (some ad) n cap) (.slice none 0 0)).run Try.prog w = .ok (.bool false) w := fun w => Lib.run_eql_slice_nil w 80 72 (some ad) n cap 0 0 Try.underlying80
    go_enter Try.func53, Try.ntmps53
    go_wp2_with (at_builtin; refine append_step rfl _ _ _ _ rfl rfl rfl HR.out ?_)
    go_ret
    exact ⟨_, rfl, HO.out, HG.out⟩
set_option maxHeartbeats 2000000 in
theorem allI (c : Nat) (v : Value) (L : List (C.Vr Nat)) (w : World) (hch : Ch num 72 w c v L) (hn : L.length < 100000) :
    Calls Try.prog 32 #[.pointer (some ⟨c, 0, none⟩)] w fun e w' => ∃ v', e = .returned v' ∧ OR (vk num) 72 w' w.heap.size v' L ∧ Below w.heap.size w w' := by
  have cc := hch.cell
  have CC := Lib.hid (cloneI v L w hch.own.is (fun h => by
    rcases hch.own.row with ⟨_, h1⟩ | ⟨g, cap, cur, rfl, _⟩
    · exact h1
    · cases h) hn)
  clear hch
  go_enter Try.func32, Try.ntmps32
  go_wp2_with fail
  refine CC.out.mono ?_; rintro e w1 ⟨v', rfl, ho, hb⟩
  have HO := Lib.hid ho
  have HB := Lib.hid hb
  clear ho hb
  go_wp2_with fail
  go_ret
  exact ⟨_, rfl, HO.out, HB.out⟩
theorem still_midI {P : Program} {ops : Array Oper} {rest : List Oper} {o : Oper} {a : Act} {w : World} {Q : Act → Prop} (hgd : o.guard = none) (t : TypeId) (x : Operand) (ho : o.op = .load t x) (b p : Nat) (hx : a.eval x = .pointer (some ⟨b, p, none⟩)) (vs : List Value) (hb : w.rangeAt b p vs)
    (d : TypeDesc) (hu : P.underlying t = some d) (hd : d.isRow = true) (hi : (P.info? t).map (·.size) = some vs.length)
    (h : wpStill P ops w Q rest (a.put o.dst (.agg vs.toArray))) : wpStill P ops w Q (o :: rest) a := by
  refine still_value hgd (.agg vs.toArray) ?_ h
  have hl := run_loadAt_mid w b p t vs d hb hu hd hi
  unfold execOp
  simp only [ho, hx, Sem.run_bind, hl, Result.andThen_ok, Sem.run_pure]
theorem last_ofI (L : List (C.Vr Nat)) (h : 0 < L.length) : L.getLast?.getD (vk num).none_ = L.getD (L.length - 1) (vk num).none_ := by
  rw [List.getLast?_eq_getElem?, List.getD_eq_getElem?_getD]
set_option maxHeartbeats 4000000 in
theorem lastI (c : Nat) (v : Value) (L : List (C.Vr Nat)) (w : World) (hch : Ch num 72 w c v L) (hn : L.length < 100000) :
    Calls Try.prog 26 #[.pointer (some ⟨c, 0, none⟩)] w fun e w' => e = .returned (.tuple #[(vk num).val (L.getLast?.getD (vk num).none_), .bool (decide (0 < L.length))]) ∧ Below w.heap.size w w' := by
  have HCH := Lib.hid hch
  obtain ⟨sa, cap, ev, _⟩ := hch.own.is.is
  subst ev
  by_cases hp : 0 < L.length
  · rw [last_ofI L hp, decide_eq_true hp]
    obtain ⟨g, off, cap', hv, hg0, hrow⟩ := IsR.at hch.own.is (L.length - 1) (by omega)
    obtain rfl : sa = some ⟨g, off, none⟩ := by injection hv
    have hj : L.length - 1 < L.length := by omega
    have hix : ∀ w, (Instr.indexAt 80 (.slice (some ⟨g, off, none⟩) L.length cap) (.int .i64 ((L.length : Int) - 1))).run Try.prog w = .ok (.pointer (some ⟨g, off + 6 * (L.length - 1), none⟩)) w := fun w => by
      have := index_vI g off L.length cap (L.length - 1) hj w
      rw [show ((L.length - 1 : Nat) : Int) = (L.length : Int) - 1 by omega] at this
      exact this
    obtain ⟨x, HX⟩ : ∃ x, Hid (L.getD (L.length - 1) (vk num).none_ = x) := ⟨_, rfl⟩
    rw [HX.out] at hrow ⊢
    have cc := hch.cell
    have hne : ((L.length : Int) == 0) = false := beq_eq_false_iff_ne.2 (by omega)
    have k1 : IntKind.i64.wrap ((L.length : Int) - 1) = (L.length : Int) - 1 := by rw [IntKind.wrap_i64]; omega
    have HLT := Lib.hid HCH.out.lt
    clear hv hch hj HX HCH
    generalize L.length = n at *
    obtain ⟨j, HJ⟩ : ∃ j, Hid (n - 1 = j) := ⟨_, rfl⟩
    rw [HJ.out] at hix hrow
    have HRW : Hid (w.rangeAt g (off + 6 * j) ((vk num).cf x)) := hrow
    clear hrow
    go_enter Try.func26, Try.ntmps26
    go_wp2_with (first | refine blk_alloc rfl 72 ((vk num).cf (vk num).none_) rfl info_vI ?_)
    intro w1 A1 B1 Z1
    have cc1 := (B1.cell (p := ⟨c, 0, none⟩) HLT.out).trans cc
    have HR1 : Hid (w1.drew.rangeAt g (off + 6 * j) ((vk num).cf x)) := fun k u hu => by rw [World.cell?_drew, B1.cell (p := ⟨g, off + 6 * j + k, none⟩) hg0]; exact HRW.out k u hu
    have HA1 : Hid (Blk w1.drew w.heap.size ((vk num).cf (vk num).none_)) := A1.drew
    have HB1 : Hid (Below w.heap.size w w1.drew) := B1.drew
    clear A1 B1 Z1 cc
    go_wp2_with fail
    refine region_tail 12 Try.mixed (by kernel_rfl) ?_
    simp only [List.take_succ_cons, List.take_zero, List.drop_succ_cons, List.drop_zero]
    repeat still_step
    refine still_midI rfl 72 _ rfl g (off + 6 * j) rfl ((vk num).cf x) HR1.out _ Try.underlying72 rfl size_vI ?_
    refine wpStill_nil ?_
    refine blk_store rfl 72 _ _ rfl w.heap.size rfl ((vk num).cf x) rfl _ HA1.out rfl size_vI rfl ?_
    intro u A U
    have HA9 : Hid (Blk u w.heap.size ((vk num).cf x)) := A
    have HW9 : Hid (Below w.heap.size w u) := Below.trans HB1.out (U.below (Nat.le_refl _))
    clear A U
    go_wp2_with fail
    refine bodyPost_ret (v := .tuple #[(vk num).val x, .bool true]) ?_ rfl ⟨rfl, HW9.out⟩
    exact res_blk2 (t := 72) Try.results26 _ w.heap.size rfl _ HA9.out _ Try.underlying72 rfl size_vI
  · have hl0 : L = [] := List.length_eq_zero_iff.1 (by omega)
    have cc := hch.cell
    rw [decide_eq_false hp, hl0]
    rw [hl0] at cc
    have HLT := Lib.hid HCH.out.lt
    clear hch HCH hp
    show Calls _ _ _ _ fun e w' => e = .returned (.tuple #[(vk num).val (vk num).none_, .bool false]) ∧ _
    go_enter Try.func26, Try.ntmps26
    go_wp2_with (first | refine blk_alloc rfl 72 ((vk num).cf (vk num).none_) rfl info_vI ?_)
    intro w1 A1 B1 Z1
    have cc1 := (B1.cell (p := ⟨c, 0, none⟩) HLT.out).trans cc
    have HA1 : Hid (Blk w1 w.heap.size ((vk num).cf (vk num).none_)) := A1
    have HB1 : Hid (Below w.heap.size w w1) := B1
    clear A1 B1 Z1 cc
    go_wp2_with (first | refine blk_store rfl 72 _ _ rfl w.heap.size rfl ((vk num).cf (vk num).none_) rfl _ HA1.out rfl size_vI rfl ?_)
    intro u A U
    have HA9 : Hid (Blk u w.heap.size ((vk num).cf (vk num).none_)) := A
    have HW9 : Hid (Below w.heap.size w u) := Below.trans HB1.out (U.below (Nat.le_refl _))
    clear A U
    go_wp2_with fail
    refine bodyPost_ret (v := .tuple #[(vk num).val (vk num).none_, .bool false]) ?_ rfl ⟨rfl, HW9.out⟩
    exact res_blk2 (t := 72) Try.results26 _ w.heap.size rfl _ HA9.out _ Try.underlying72 rfl size_vI
theorem keep_isI (L : List (C.Vr Nat)) (h : List Nat) : L.filter (fun x => !(C.seen x.1 h && !decide (x.1 = ((C.read L h).getD (vk num).none_).1))) = C.keep L h := by
  cases e : C.read L h with
  | none =>
    rw [C.keep_none e, List.filter_eq_self]
    intro x hx
    rw [C.read_none.1 e x hx]
    rfl
  | some b =>
    rw [C.keep_some e]
    congr 1
    funext x
    simp [Bool.not_and, Bool.not_not]
theorem best_fourI {L : List (C.Vr Nat)} (hu : C.Up L) (h : List Nat) : ((C.read L h).getD (vk num).none_).1.1.length = 4 := by
  cases e : C.read L h with
  | none => rfl
  | some b => exact hu.four b (hu.read e).1
set_option maxHeartbeats 8000000 in
theorem pruneI (c : Nat) (v : Value) (L : List (C.Vr Nat)) (h : List Nat) (w : World) (hch : Ch num 72 w c v L) (hh : h.length = 4) (hn : L.length < 1000) :
    Calls Try.prog 31 #[.pointer (some ⟨c, 0, none⟩), AV .u64 h] w fun e w' => ∃ v', e = .returned (.int .i64 ((L.length : Int) - ((C.keep L h).length : Int))) ∧ Ch num 72 w' c v' (C.keep L h) ∧ Tw c v.ownBlock w w' ∧ Nw w v v' := by
  have HCH := Lib.hid hch
  have HSh := Lib.hid (size_v hh)
  have CRd := Lib.hid (fun u (hu : Ch num 72 u c v L) => readI c v L h u hu hh hn)
  have HK := Lib.hid (keep_isI L h)
  have HB4 := Lib.hid (best_fourI hch.up h)
  have HUP := Lib.hid (hch.up.keep h)
  have HKL : Hid ((C.keep L h).length ≤ L.length) := by show _ ≤ _; rw [← HK.out]; exact List.length_filter_le ..
  obtain ⟨best, HBE⟩ : ∃ b, Hid ((C.read L h).getD (vk num).none_ = b) := ⟨_, rfl⟩
  rw [HBE.out] at HK HB4
  obtain ⟨q, HQ⟩ : ∃ b, Hid ((C.read L h).isSome = b) := ⟨_, rfl⟩
  have CRd : Hid (∀ u, Ch num 72 u c v L → Calls Try.prog 25 #[.pointer (some ⟨c, 0, none⟩), AV .u64 h] u fun e w' => e = .returned (.tuple #[.agg ((vk num).cf best).toArray, .bool q]) ∧ Below u.heap.size u w') := fun u hu => by
    have := CRd.out u hu
    rw [HBE.out, HQ.out] at this
    exact this
  obtain ⟨M, HM⟩ : ∃ M, Hid (C.keep L h = M) := ⟨_, rfl⟩
  rw [HM.out] at HK HUP HKL ⊢
  obtain ⟨nv, HNV⟩ : ∃ nv, Hid (M.length = nv) := ⟨_, rfl⟩
  rw [HNV.out] at HKL ⊢
  have HF := Lib.hid hch.up.four
  have HHH := Lib.hid hh
  obtain ⟨sa, cap, ev, _⟩ := hch.own.is.is
  obtain ⟨n, HN⟩ : ∃ n, Hid (L.length = n) := ⟨_, rfl⟩
  rw [HN.out] at ev HKL hn ⊢
  clear hch hh
  go_enter Try.func31, Try.ntmps31
  go_wp2_with (first | refine arr_box rfl .u64 32 _ rfl h rfl ?_)
  intro w1 A1 B1 Z1
  have HA1 : Hid (Arr .u64 w1 w.heap.size h) := A1
  have HB1 : Hid (Below w.heap.size w w1) := B1
  have HZ1 : Hid (w.heap.size < w1.heap.size) := by show _ < _; omega
  clear A1 B1 Z1
  go_wp2_with (first | refine arr_load rfl .u64 32 _ rfl w.heap.size rfl h HA1.out 4 30 Try.underlying32 HSh.out ?_)
  refine (CRd.out _ (HCH.out.below HB1.out)).mono ?_; rintro e w2 ⟨rfl, hb2⟩
  have HB2 : Hid (Below w.heap.size w w2) := Below.trans HB1.out (hb2.mono HB1.out.size)
  have HA2 : Hid (Arr .u64 w2 w.heap.size h) := Arr.below HA1.out hb2 HZ1.out
  have HZ2 : Hid (w.heap.size < w2.heap.size) := Nat.lt_of_lt_of_le HZ1.out hb2.size
  clear hb2 HA1 HB1 HZ1
  go_wp2_with (first | refine blk_alloc rfl 72 ((vk num).cf (vk num).none_) rfl info_vI ?_)
  intro w3 A3 B3 Z3
  go_wp2_with (first | refine blk_store rfl 72 _ _ rfl w2.heap.size rfl ((vk num).cf best) rfl _ A3 rfl size_vI rfl ?_)
  intro w4 A4 U4
  have HS4 : Hid (Blk w4 w2.heap.size ((vk num).cf best)) := A4
  have hB24 : Below w2.heap.size w2 w4 := B3.trans (U4.below (Nat.le_refl _))
  have HA4 : Hid (Arr .u64 w4 w.heap.size h) := Arr.below HA2.out hB24 HZ2.out
  have HB4' : Hid (Below w.heap.size w w4) := Below.trans HB2.out (hB24.mono HB2.out.size)
  have HZ4 : Hid (w2.heap.size < w4.heap.size ∧ w.heap.size < w2.heap.size) := ⟨by rw [U4.size]; omega, HZ2.out⟩
  have HC4 : Hid (Ch num 72 w4 c v L) := HCH.out.below HB4'.out
  clear A3 B3 Z3 A4 U4 hB24 HA2 HB2 HZ2
  have HNO : Hid (v.ownBlock ≠ some w.heap.size ∧ v.ownBlock ≠ some w2.heap.size) := by
    have hz := HZ4.out
    exact ⟨fun e => by have := (HCH.out.own.lt e).2; omega, fun e => by have := (HCH.out.own.lt e).2; omega⟩
  have CD := Lib.hid (deleteI (.pointer (some ⟨w.heap.size, 0, none⟩)) (.pointer (some ⟨w2.heap.size, 0, none⟩)) (fun x => C.seen x.1 h && !decide (x.1 = best.1)) (c + 1) v L w4 HC4.out.own (by rw [HN.out]; omega) (fun x hx u hu => by
    have hz := HZ4.out
    have hA : Arr .u64 u w.heap.size h := Blk.arr (blk_grown hu (b := w.heap.size) (vs := ks .u64 h) ⟨HA4.out.1, by rw [ks_length]; exact HA4.out.2⟩ (by omega) HNO.out.1)
    have hB : Blk u w2.heap.size ((ks .u64 best.1.1 ++ [.int .i64 best.1.2]) ++ [num.f best.2]) := by
      have := blk_grown hu HS4.out hz.1 HNO.out.2
      rw [vk_stamp num best HB4.out] at this
      exact this
    exact prune1I x h best.1 (num.f best.2) w.heap.size w2.heap.size u (HF.out x hx) HHH.out HB4.out hA hB (Nat.lt_of_lt_of_le (by omega) hu.size) (Nat.lt_of_lt_of_le hz.1 hu.size)))
  rw [HK.out] at CD
  have cc4 := HC4.out.cell
  subst ev
  go_wp2_with fail
  refine CD.out.mono ?_; rintro e w5 ⟨v', rfl, ho, hg, hv'⟩
  have HC5 : Hid (Blk w5 c [.slice sa n cap]) := blk_grown hg HC4.out.blk HC4.out.lt HC4.out.ne
  have HO5 := Lib.hid ho
  have HT5 : Hid (Tw c (Value.slice sa n cap).ownBlock w w5) := (Tw.of_below HB4'.out).trans (Tw.of_grown hg)
  have HN5 : Hid (Nw w (.slice sa n cap) v') := .inl hv'
  obtain ⟨av, cv, ev, _⟩ := ho.is.is
  rw [HNV.out] at ev
  subst ev
  clear ho hg hv' cc4
  have hc5 := HC5.out.cell 0 _ rfl
  have hf5 := HC5.out.free 0 (by simp)
  have hkl := HKL.out
  have k1 : IntKind.i64.wrap ((n : Int) - (nv : Int)) = (n : Int) - (nv : Int) := by rw [IntKind.wrap_i64]; omega
  go_wp2_with fail
  go_ret
  have hu9 := Upd.setCell w5 c 0 (.slice av nv cv)
  refine ⟨_, rfl, ⟨Blk.setc HC5.out 0 (by simp) _, ?_, HUP.out⟩, HT5.out.trans (Tw.of_upd hu9), HN5.out⟩
  refine HO5.out.grown (grownBy_upd hu9) (fun g hg e => ?_)
  have h1 := (HO5.out.lt hg).1
  have h2 := Option.some.inj e
  omega
end Go.Proofs.Ytmajkapapbhabaa.Ch
