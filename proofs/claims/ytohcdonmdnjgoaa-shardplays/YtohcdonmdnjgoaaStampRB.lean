/- The document's own answer to chapter 7: less, Order, Later. -/
import Derived.Test.YtohcdonmdnjgoaaStampB

import Derived.Test.YtohcdonmdnjgoaaVecRef

namespace Go.Proofs.Ytohcdonmdnjgoaa.T

set_option linter.unusedVariables false

theorem cmp_self (a : List Nat) : cmp a a = 0 := by
  induction a with
  | nil => rfl
  | cons x a ih => simp [cmp, ih]
theorem cmp_zero (a b : List Nat) (h : a.length = b.length) (hc : cmp a b = 0) : a = b := by
  induction a generalizing b with
  | nil =>
    cases b with
    | nil => rfl
    | cons y b => simp at h
  | cons x a ih =>
    cases b with
    | nil => simp at h
    | cons y b =>
      simp only [List.length_cons, Nat.add_right_cancel_iff] at h
      simp only [cmp] at hc
      split at hc
      · omega
      · split at hc
        · omega
        · rw [ih b h hc, show x = y by omega]
theorem cmp_cases (a b : List Nat) : cmp a b = -1 ∨ cmp a b = 0 ∨ cmp a b = 1 := by
  induction a generalizing b with
  | nil => cases b <;> simp [cmp]
  | cons x a ih =>
    cases b with
    | nil => simp [cmp]
    | cons y b =>
      simp only [cmp]
      split
      · simp
      · split
        · simp
        · exact ih b
/-- is the first below? -/
def below (a : List Nat) (d : Int) (b : List Nat) (e : Int) : Bool :=
  if V.sum a = V.sum b then (if d = e then decide (cmp a b < 0) else decide (d < e)) else decide (V.sum a < V.sum b)
def rorder (a : List Nat) (d : Int) (b : List Nat) (e : Int) : Int := if same a d b e = true then 0 else if below a d b e = true then -1 else 1
theorem rorder_eq (a : List Nat) (d : Int) (b : List Nat) (e : Int) (h : a.length = b.length) : rorder a d b e = order a d b e := by
  unfold rorder order
  by_cases hs : same a d b e = true
  · rw [if_pos hs, if_pos hs]
  · rw [if_neg hs, if_neg hs]
    have hk : over a d b e = !below a d b e := by
      unfold over below
      by_cases h1 : V.sum a = V.sum b
      · rw [if_pos h1, if_pos h1]
        by_cases h2 : d = e
        · rw [if_pos h2, if_pos h2]
          have hn : cmp a b ≠ 0 := fun hc => hs (by
            have := cmp_zero a b h hc
            simp [same, this, h2])
          rcases cmp_cases a b with hc | hc | hc
          · rw [hc]; rfl
          · exact absurd hc hn
          · rw [hc]; rfl
        · rw [if_neg h2, if_neg h2]
          by_cases h3 : d < e
          · simp [h3]; omega
          · simp [h3]; omega
      · rw [if_neg h1, if_neg h1]
        by_cases h3 : V.sum a < V.sum b
        · simp [h3]; omega
        · simp [h3]; omega
    rw [hk]
    cases below a d b e <;> rfl
end Go.Proofs.Ytohcdonmdnjgoaa.T

namespace Go.Proofs.Ytohcdonmdnjgoaa.Sp

open Go.RowKit Go.Proofs.Ytohcdonmdnjgoaa.Vc

set_option linter.unusedVariables false

set_option linter.unusedSimpArgs false

set_option maxRecDepth 100000

section

variable {P : Program} {ops : Array Oper} {rest : List Oper} {o : Oper} {a : Act} {w : World} {Q : Exit → Act → World → Prop}

theorem row_loadg (hw : Region.wanted o (yielded ops a.tmps) = true) (k : IntKind) (t : TypeId) (x : Operand) (ho : o.op = .load t x) (b p : Nat) (hx : a.eval x = .pointer (some ⟨b, p, none⟩)) (l : List Nat) (ha : w.rangeAt b p (ks k l))
    (n : Nat) (e : TypeId) (hu : P.underlying t = some (.array n e)) (hi : (P.info? t).map (·.size) = some l.length)
    (h : wpList P ops Q rest (a.put o.dst (AV k l)) w) : wpList P ops Q (o :: rest) a w :=
  wpList_step fun _ hK => by rw [if_pos hw]; exact wp_load_mid t x ho b p hx (ks k l) _ ha hu rfl (by rw [ks_length]; exact hi) (hK _ _ h)
end

set_option maxHeartbeats 4000000 in
theorem ref_less (a b : List Nat) (w : World) (ha : a.length = 4) (hb : b.length = 4) :
    Calls Try.prog 83 #[AV .u64 a, AV .u64 b] w fun e w' => e = .returned (.bool (decide (T.cmp a b < 0))) ∧ Below w.heap.size w w' := by
  have HA := Lib.hid ha
  have HB := Lib.hid hb
  have HS := Lib.hid (fun j (hj : j < 4) => T.cmp_step a b j (by rw [ha]; exact hj) (by rw [hb]; exact hj))
  have HE : Hid (T.cmp (a.drop 4) (b.drop 4) = 0) := by
    show _ = _
    rw [List.drop_eq_nil_of_le (by omega), List.drop_eq_nil_of_le (by omega)]
    rfl
  obtain ⟨r, HR⟩ : ∃ r, Hid (T.cmp a b = r) := ⟨_, rfl⟩
  rw [HR.out]
  obtain ⟨q, HQ⟩ : ∃ t, Hid (decide (r < 0) = t) := ⟨_, rfl⟩
  rw [HQ.out]
  clear ha hb
  go_enter Try.func83, Try.ntmps83
  go_wp2_with (first | refine arr_box rfl .u64 57 _ rfl a rfl ?_)
  intro w1 A1 B1 Z1
  go_wp2_with (first | refine arr_box rfl .u64 57 _ rfl b rfl ?_)
  intro w2 A2 B2 Z2
  have HA2 : Hid (Arr .u64 w2 w.heap.size a) := A1.below B2 (by omega)
  have HB2 : Hid (Arr .u64 w2 (w.heap.size + 1) b) := A2
  have HW2 : Hid (Below w.heap.size w w2) := B1.trans (B2.mono (by omega))
  clear A1 B1 A2 B2 Z1 Z2
  go_wp2_with fail
  go_loopw [5] (fun i wr => ∃ j : Nat, j ≤ 4 ∧ i = .int .i64 j ∧ Hid (T.cmp (a.drop j) (b.drop j) = r) ∧ Hid (Arr .u64 wr w.heap.size a) ∧ Hid (Arr .u64 wr (w.heap.size + 1) b) ∧ Hid (Below w.heap.size w wr)) (fun i _ => 4 - (intOf i).toNat)
  case atStart => exact ⟨0, by omega, rfl, HR, HA2, HB2, HW2⟩
  case round =>
    obtain ⟨j, hj, rfl, HC, HAr, HBr, HWr⟩ := hrel
    clear HA2 HB2 HW2 HR
    by_cases hlt : j < 4
    · have ilt : (j : Int) < 4 := by omega
      have c := HAr.out.cell j (by rw [HA.out]; exact hlt)
      have d := HBr.out.cell j (by rw [HB.out]; exact hlt)
      have HAd : Hid (Arr .u64 wr.drew w.heap.size a) := Arr.drew HAr.out
      have HBd : Hid (Arr .u64 wr.drew (w.heap.size + 1) b) := Arr.drew HBr.out
      have HWd : Hid (Below w.heap.size w wr.drew) := Below.drew HWr.out
      have HWe : Hid (Below w.heap.size w wr.drew.drew) := Below.drew HWd.out
      have hst := HS.out j hlt
      rw [HC.out] at hst
      generalize a.getD j 0 = x at *
      generalize b.getD j 0 = y at *
      by_cases h1 : x = y
      · rw [if_neg (by omega), if_neg (by omega)] at hst
        have HC' : Hid (T.cmp (a.drop (j + 1)) (b.drop (j + 1)) = r) := hst.symm
        have hg : (x : Int) = (y : Int) := by omega
        clear hst HC HAr HBr HWr h1
        go_wp2_with fail
        go_region
        all_goals
          go_wp2_with fail
          go_roundw
          case rel => exact ⟨j + 1, by omega, by go_num, HC', HAd, HBd, HWd⟩
          case measure => simp [intOf]; omega
      · have hg : ¬ (x : Int) = (y : Int) := by omega
        have HF : Hid (decide (x < y) = q) := by
          show _ = _
          rw [← HQ.out]
          by_cases h2 : x < y
          · rw [if_pos h2] at hst; rw [hst, decide_eq_true h2]; rfl
          · rw [if_neg h2, if_pos (by omega)] at hst; rw [hst, decide_eq_false h2]; rfl
        have HFi : Hid (decide ((x : Int) < (y : Int)) = q) := by
          show _ = _
          rw [← HF.out]; exact decide_eq_decide.2 (by omega)
        clear hst HC HAr HBr HWr h1
        go_wp2_with fail
        go_region
        all_goals
          go_wp2_with fail
          go_region
          all_goals
            go_wp2_with fail
            go_ret
            first
            | exact ⟨by rw [← HF.out]; rfl, HWe.out⟩
            | exact ⟨by rw [← HFi.out]; rfl, HWe.out⟩
    · obtain rfl : j = 4 := by omega
      obtain rfl : false = q := by rw [← HQ.out, ← HC.out, HE.out]; rfl
      go_wp2_with fail
      go_ret
      exact ⟨rfl, HWr.out⟩
set_option maxHeartbeats 4000000 in
theorem ref_order (a b : List Nat) (d e : Int) (w : World) (ha : a.length = 4) (hb : b.length = 4) :
    Calls Try.prog 68 #[SV a d, SV b e] w fun ee w' => ee = .returned (.int .i64 (T.order a d b e)) ∧ Below w.heap.size w w' := by
  have HSa := Lib.hid (size_rs (d := d) ha)
  have HSb := Lib.hid (size_rs (d := e) hb)
  have HIa := Lib.hid (size_r ha)
  have HIb := Lib.hid (size_r hb)
  have HLa := Lib.hid ha
  have HLb := Lib.hid hb
  have HE := Lib.hid (fun w => eql_rs a b d e ha hb w)
  have CA := Lib.hid (fun w => ref_sum a w ha)
  have CB := Lib.hid (fun w => ref_sum b w hb)
  have CL := Lib.hid (fun w => ref_less a b w ha hb)
  rw [← T.rorder_eq a d b e (by rw [ha, hb])]
  unfold T.rorder
  clear ha hb
  cases hs : T.same a d b e with
  | true =>
    rw [hs] at HE
    clear hs CA CB CL
    show Calls _ _ _ _ fun ee w' => ee = .returned (.int .i64 0) ∧ _
    go_enter Try.func68, Try.ntmps68
    go_wp2_with (first | refine blk_box rfl 61 _ rfl (ks .u64 a ++ [Value.int .i64 d]) rfl ?_)
    intro w1 A1 B1 Z1
    go_wp2_with (first | refine blk_box rfl 61 _ rfl (ks .u64 b ++ [Value.int .i64 e]) rfl ?_)
    intro w2 A2 B2 Z2
    have HA2 : Hid (Blk w2 w.heap.size (ks .u64 a ++ [Value.int .i64 d])) := Blk.below A1 B2 (by omega)
    have HB2 : Hid (Blk w2 (w.heap.size + 1) (ks .u64 b ++ [Value.int .i64 e])) := A2
    have HW2 : Hid (Below w.heap.size w w2) := B1.trans (B2.mono (by omega))
    have HZ2 : Hid (w.heap.size + 1 < w2.heap.size) := by show _ < _; omega
    clear A1 B1 A2 B2 Z1 Z2
    go_wp2_with (first | refine blk_load rfl 61 _ rfl w.heap.size rfl (ks .u64 a ++ [Value.int .i64 d]) HA2.out _ Try.underlying61 rfl HSa.out ?_ | refine blk_load rfl 61 _ rfl (w.heap.size + 1) rfl (ks .u64 b ++ [Value.int .i64 e]) HB2.out _ Try.underlying61 rfl HSb.out ?_ | refine val_step rfl (.bool true) (run_eql _ .eql 61 61 _ _ (SV a d) (SV b e) _ rfl rfl rfl (guard_rs _ _ _ _ _ _ _) (HE.out _)) ?_)
    go_ret
    exact ⟨rfl, HW2.out⟩
  | false =>
    rw [hs] at HE
    clear hs
    unfold T.below
    obtain ⟨x, HX⟩ : ∃ r, Hid (V.sum a = r) := ⟨_, rfl⟩
    obtain ⟨y, HY⟩ : ∃ r, Hid (V.sum b = r) := ⟨_, rfl⟩
    rw [HX.out] at CA
    rw [HY.out] at CB
    rw [HX.out, HY.out]
    obtain ⟨q, HQ⟩ : ∃ r, Hid (decide (T.cmp a b < 0) = r) := ⟨_, rfl⟩
    rw [HQ.out] at CL ⊢
    obtain ⟨z, HZ⟩ : ∃ r : Int, Hid ((if (if x = y then (if d = e then q else decide (d < e)) else decide (x < y)) = true then (-1 : Int) else 1) = r) := ⟨_, rfl⟩
    show Calls _ _ _ _ fun ee w' => ee = .returned (.int .i64 (if (if x = y then (if d = e then q else decide (d < e)) else decide (x < y)) = true then (-1 : Int) else 1)) ∧ _
    rw [HZ.out]
    go_enter Try.func68, Try.ntmps68
    go_wp2_with (first | refine blk_box rfl 61 _ rfl (ks .u64 a ++ [Value.int .i64 d]) rfl ?_)
    intro w1 A1 B1 Z1
    go_wp2_with (first | refine blk_box rfl 61 _ rfl (ks .u64 b ++ [Value.int .i64 e]) rfl ?_)
    intro w2 A2 B2 Z2
    have HA2 : Hid (Blk w2 w.heap.size (ks .u64 a ++ [Value.int .i64 d])) := Blk.below A1 B2 (by omega)
    have HB2 : Hid (Blk w2 (w.heap.size + 1) (ks .u64 b ++ [Value.int .i64 e])) := A2
    have HW2 : Hid (Below w.heap.size w w2) := B1.trans (B2.mono (by omega))
    have HZ2 : Hid (w.heap.size + 1 < w2.heap.size) := by show _ < _; omega
    clear A1 B1 A2 B2 Z1 Z2
    go_wp2_with (first | refine blk_load rfl 61 _ rfl w.heap.size rfl (ks .u64 a ++ [Value.int .i64 d]) HA2.out _ Try.underlying61 rfl HSa.out ?_ | refine blk_load rfl 61 _ rfl (w.heap.size + 1) rfl (ks .u64 b ++ [Value.int .i64 e]) HB2.out _ Try.underlying61 rfl HSb.out ?_ | refine val_step rfl (.bool false) (run_eql _ .eql 61 61 _ _ (SV a d) (SV b e) _ rfl rfl rfl (guard_rs _ _ _ _ _ _ _) (HE.out _)) ?_ | refine row_load rfl .u64 57 _ rfl w.heap.size 0 rfl a (rowp HA2.out) 4 31 Try.underlying57 HIa.out ?_)
    refine (CA.out _).mono ?_; rintro ee w3 ⟨rfl, hb3⟩
    have hz2 := HZ2.out
    have HW3 : Hid (Below w.heap.size w w3) := Below.trans HW2.out (hb3.mono HW2.out.size)
    have HA3 : Hid (Blk w3 w.heap.size (ks .u64 a ++ [Value.int .i64 d])) := Blk.below HA2.out hb3 (by omega)
    have HB3 : Hid (Blk w3 (w.heap.size + 1) (ks .u64 b ++ [Value.int .i64 e])) := Blk.below HB2.out hb3 (by omega)
    have HZ3 : Hid (w.heap.size + 1 < w3.heap.size) := Nat.lt_of_lt_of_le hz2 hb3.size
    clear hb3 hz2 HA2 HB2 HW2 HZ2 CA
    go_wp2_with (first | refine row_load rfl .u64 57 _ rfl (w.heap.size + 1) 0 rfl b (rowp HB3.out) 4 31 Try.underlying57 HIb.out ?_)
    refine (CB.out _).mono ?_; rintro ee w4 ⟨rfl, hb4⟩
    have hz3 := HZ3.out
    have HW4 : Hid (Below w.heap.size w w4) := Below.trans HW3.out (hb4.mono HW3.out.size)
    have HA4 : Hid (Blk w4 w.heap.size (ks .u64 a ++ [Value.int .i64 d])) := Blk.below HA3.out hb4 (by omega)
    have HB4 : Hid (Blk w4 (w.heap.size + 1) (ks .u64 b ++ [Value.int .i64 e])) := Blk.below HB3.out hb4 (by omega)
    have c1 := dc_cell HA4.out HLa.out
    have c2 := dc_cell HB4.out HLb.out
    clear hb4 hz3 HA3 HB3 HW3 HZ3 CB
    by_cases h1 : x < y
    · obtain rfl : -1 = z := by rw [← HZ.out]; simp [show ¬ x = y by omega, h1]
      have i1 : (x : Int) < (y : Int) := by omega
      clear HA4 HB4 h1
      go_wp2_with fail
      go_ret
      exact ⟨rfl, HW4.out⟩
    · have i1 : ¬ (x : Int) < (y : Int) := by omega
      by_cases h2 : x = y
      · subst h2
        by_cases h3 : d < e
        · obtain rfl : -1 = z := by rw [← HZ.out]; simp [show ¬ d = e by omega, h3]
          clear HA4 HB4 h1
          go_wp2_with fail
          go_ret
          exact ⟨rfl, HW4.out⟩
        · by_cases h4 : d = e
          · subst h4
            have hz : (if q = true then (-1 : Int) else 1) = z := by rw [← HZ.out]; simp
            clear HZ h1
            go_wp2_with (first | refine row_loadg rfl .u64 57 _ rfl w.heap.size 0 rfl a (rowp HA4.out) 4 31 Try.underlying57 HIa.out ?_ | refine row_loadg rfl .u64 57 _ rfl (w.heap.size + 1) 0 rfl b (rowp HB4.out) 4 31 Try.underlying57 HIb.out ?_)
            refine (CL.out _).mono ?_; rintro ee w5 ⟨rfl, hb5⟩
            have HW5 : Hid (Below w.heap.size w w5) := Below.trans HW4.out (hb5.mono HW4.out.size)
            clear hb5 HA4 HB4 c1 c2
            cases q with
            | true =>
              obtain rfl : -1 = z := hz
              go_wp2_with fail
              go_ret
              exact ⟨rfl, HW5.out⟩
            | false =>
              obtain rfl : 1 = z := hz
              go_wp2_with fail
              go_ret
              exact ⟨rfl, HW5.out⟩
          · obtain rfl : 1 = z := by rw [← HZ.out]; simp [h4, h3]
            clear HA4 HB4 h1
            go_wp2_with fail
            go_ret
            exact ⟨rfl, HW4.out⟩
      · obtain rfl : 1 = z := by rw [← HZ.out]; simp [h2, h1]
        have i2 : ¬ (x : Int) = (y : Int) := by omega
        clear HA4 HB4 h1 h2
        go_wp2_with fail
        go_ret
        exact ⟨rfl, HW4.out⟩
end Go.Proofs.Ytohcdonmdnjgoaa.Sp
