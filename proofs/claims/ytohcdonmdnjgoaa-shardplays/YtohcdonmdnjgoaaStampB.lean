/- stamp: numbers held against one another, over, Order, Later. -/
import Derived.Test.YtohcdonmdnjgoaaStampMem

namespace Go.Proofs.Ytohcdonmdnjgoaa.Sp

open Go.RowKit Go.Proofs.Ytohcdonmdnjgoaa.Vc

set_option linter.unusedVariables false

set_option linter.unusedSimpArgs false

set_option maxRecDepth 100000

theorem nan_any (x : Nat) (w : World) :
    Calls Try.prog 96 #[.int .u64 (x : Int)] w fun e w' => e = .returned (.bool false) ∧ w' = w := by
  go_enter Try.func96, Try.ntmps96
  go_wp2_with fail
  go_ret
  exact ⟨rfl, rfl⟩
def cmp1 (x y : Nat) : Int := if x < y then -1 else if y < x then 1 else 0
theorem cmp_any (x y : Nat) (w : World) :
    Calls Try.prog 95 #[.int .u64 (x : Int), .int .u64 (y : Int)] w fun e w' => e = .returned (.int .i64 (cmp1 x y)) ∧ w' = w := by
  have CX := Lib.hid (fun w => nan_any x w)
  have CY := Lib.hid (fun w => nan_any y w)
  unfold cmp1
  by_cases h1 : x < y
  · rw [if_pos h1]
    have i1 : (x : Int) < (y : Int) := by omega
    clear h1
    go_enter Try.func95, Try.ntmps95
    go_wp2_with fail
    refine (CX.out _).mono ?_; rintro e w1 ⟨rfl, rfl⟩
    go_wp2_with fail
    refine (CY.out _).mono ?_; rintro e w2 ⟨rfl, rfl⟩
    go_wp2_with fail
    go_ret
    exact ⟨rfl, rfl⟩
  · rw [if_neg h1]
    have i1 : ¬ (x : Int) < (y : Int) := by omega
    by_cases h2 : y < x
    · rw [if_pos h2]
      have i2 : (y : Int) < (x : Int) := by omega
      clear h1 h2
      go_enter Try.func95, Try.ntmps95
      go_wp2_with fail
      refine (CX.out _).mono ?_; rintro e w1 ⟨rfl, rfl⟩
      go_wp2_with fail
      refine (CY.out _).mono ?_; rintro e w2 ⟨rfl, rfl⟩
      go_wp2_with fail
      go_ret
      exact ⟨rfl, rfl⟩
    · rw [if_neg h2]
      have i2 : ¬ (y : Int) < (x : Int) := by omega
      clear h1 h2
      go_enter Try.func95, Try.ntmps95
      go_wp2_with fail
      refine (CX.out _).mono ?_; rintro e w1 ⟨rfl, rfl⟩
      go_wp2_with fail
      refine (CY.out _).mono ?_; rintro e w2 ⟨rfl, rfl⟩
      go_wp2_with fail
      go_ret
      exact ⟨rfl, rfl⟩
theorem range_cell {w : World} {b : Nat} {l : List Nat} (h : w.rangeAt b 0 (ks .u64 l)) (j : Nat) (hj : j < l.length) : w.cell? ⟨b, j, none⟩ = some (.int .u64 ((l.getD j 0 : Nat) : Int)) := by
  have := h j (.int .u64 (l.getD j 0 : Nat)) (by simp [ks, hj])
  rwa [Nat.zero_add] at this
set_option maxHeartbeats 2000000 in
theorem compare_any (p q : Nat) (a b : List Nat) (w : World) (ha : a.length = 4) (hb : b.length = 4) (A : w.rangeAt p 0 (ks .u64 a)) (B : w.rangeAt q 0 (ks .u64 b)) :
    Calls Try.prog 93 #[.slice (some ⟨p, 0, none⟩) 4 4, .slice (some ⟨q, 0, none⟩) 4 4] w fun e w' => e = .returned (.int .i64 (T.cmp a b)) ∧ w' = w := by
  have HA := Lib.hid (fun j hj => range_cell A j (by rw [ha]; exact hj))
  have HB := Lib.hid (fun j hj => range_cell B j (by rw [hb]; exact hj))
  have HS := Lib.hid (fun j (hj : j < 4) => T.cmp_step a b j (by rw [ha]; exact hj) (by rw [hb]; exact hj))
  have HE : Hid (T.cmp (a.drop 4) (b.drop 4) = 0) := by
    show _ = _
    rw [List.drop_eq_nil_of_le (by omega), List.drop_eq_nil_of_le (by omega)]
    rfl
  obtain ⟨r, HR⟩ : ∃ r, Hid (T.cmp a b = r) := ⟨_, rfl⟩
  rw [HR.out]
  clear ha hb A B
  go_enter Try.func93, Try.ntmps93
  go_wp2_with fail
  go_loop [11] (fun i => ∃ j : Nat, j ≤ 4 ∧ i = .int .i64 j ∧ Hid (T.cmp (a.drop j) (b.drop j) = r)) (fun i => 4 - (intOf i).toNat)
  case atStart => exact ⟨0, by omega, rfl, HR⟩
  case round =>
    obtain ⟨j, hj, rfl, HC⟩ := hrel
    clear HR
    by_cases hlt : j < 4
    · have ilt : (j : Int) < 4 := by omega
      have ile : ¬ ((4 : Int) ≤ (j : Int)) := by omega
      have c1 := HA.out j hlt
      have c2 := HB.out j hlt
      have hst := HS.out j hlt
      rw [HC.out] at hst
      generalize a.getD j 0 = x at *
      generalize b.getD j 0 = y at *
      have C := Lib.hid (fun w => cmp_any x y w)
      unfold cmp1 at C
      by_cases h1 : x < y
      · rw [if_pos h1] at hst C
        clear h1
        subst hst
        go_wp2_with fail
        refine (C.out _).mono ?_; rintro e w1 ⟨rfl, rfl⟩
        go_wp2_with fail
        go_ret
        exact ⟨rfl, rfl⟩
      · rw [if_neg h1] at hst C
        by_cases h2 : y < x
        · rw [if_pos h2] at hst C
          clear h1 h2
          subst hst
          go_wp2_with fail
          refine (C.out _).mono ?_; rintro e w1 ⟨rfl, rfl⟩
          go_wp2_with fail
          go_ret
          exact ⟨rfl, rfl⟩
        · rw [if_neg h2] at hst C
          have HC' : Hid (T.cmp (a.drop (j + 1)) (b.drop (j + 1)) = r) := hst.symm
          clear h1 h2 hst HC
          go_wp2_with fail
          refine (C.out _).mono ?_; rintro e w1 ⟨rfl, rfl⟩
          go_wp2_with fail
          go_round
          case rel => exact ⟨j + 1, by omega, by go_num, HC'⟩
          case measure => simp [intOf]; omega
    · obtain rfl : j = 4 := by omega
      obtain rfl : 0 = r := by rw [← HC.out, HE.out]
      go_wp2_with fail
      go_ret
      exact ⟨rfl, rfl⟩
theorem slice_v (b : Nat) (w : World) : (Instr.sliceAt 33 (.pointer (some ⟨b, 0, none⟩)) none none none).run Try.prog w = .ok (.slice (some ⟨b, 0, none⟩) 4 4) w := by
  have hal : Try.prog.arrayLen 33 = 4 := by simp [Program.arrayLen, Try.underlying33]
  rw [run_sliceAt_array_all w 33 ⟨b, 0, none⟩ (by simp [Program.arrayLen, Program.elem, Try.underlying33]), hal, show Try.prog.elem 33 = 31 from rfl, Try.sizeOf31]
  rfl
set_option maxHeartbeats 4000000 in
theorem over_any (a b : List Nat) (d e : Int) (w : World) (ha : a.length = 4) (hb : b.length = 4) :
    Calls Try.prog 91 #[SV a d, SV b e] w fun ee w' => ee = .returned (.bool (T.over a d b e)) ∧ Below w.heap.size w w' := by
  have HIa := Lib.hid (size_v ha)
  have HIb := Lib.hid (size_v hb)
  have HLa := Lib.hid ha
  have HLb := Lib.hid hb
  have CA := Lib.hid (fun w => sum_any a w ha)
  have CB := Lib.hid (fun w => sum_any b w hb)
  unfold T.over
  obtain ⟨x, HX⟩ : ∃ r, Hid (V.sum a = r) := ⟨_, rfl⟩
  obtain ⟨y, HY⟩ : ∃ r, Hid (V.sum b = r) := ⟨_, rfl⟩
  rw [HX.out] at CA
  rw [HY.out] at CB
  rw [HX.out, HY.out]
  clear ha hb
  by_cases hs : x = y
  · rw [if_pos hs]
    subst hs
    by_cases hd : d = e
    · rw [if_pos hd]
      subst hd
      have CC := Lib.hid (fun (w : Nat × World) A B => compare_any w.1 (w.1 + 1) a b w.2 HLa.out HLb.out A B)
      generalize T.cmp a b = c at *
      obtain ⟨q, HQ⟩ : ∃ r, Hid (decide (0 < c) = r) := ⟨_, rfl⟩
      have hq := HQ.out
      rw [HQ.out]
      go_enter Try.func91, Try.ntmps91
      go_wp2_with (first | refine blk_box rfl 35 _ rfl (ks .u64 a ++ [Value.int .i64 d]) rfl ?_)
      intro w1 A1 B1 Z1
      go_wp2_with (first | refine blk_box rfl 35 _ rfl (ks .u64 b ++ [Value.int .i64 d]) rfl ?_)
      intro w2 A2 B2 Z2
      have HA2 : Hid (Blk w2 w.heap.size (ks .u64 a ++ [Value.int .i64 d])) := Blk.below A1 B2 (by omega)
      have HB2 : Hid (Blk w2 (w.heap.size + 1) (ks .u64 b ++ [Value.int .i64 d])) := A2
      have HW2 : Hid (Below w.heap.size w w2) := B1.trans (B2.mono (by omega))
      have HZ2 : Hid (w.heap.size + 1 < w2.heap.size) := by show _ < _; omega
      clear A1 B1 A2 B2 Z1 Z2
      have KA : Hid (∀ u, Below w2.heap.size w2 u → u.rangeAt w.heap.size 0 (ks .u64 a)) := fun u hu => rowp (Blk.below HA2.out hu (Nat.lt_of_succ_lt HZ2.out))
      have KB : Hid (∀ u, Below w2.heap.size w2 u → u.rangeAt (w.heap.size + 1) 0 (ks .u64 b)) := fun u hu => rowp (Blk.below HB2.out hu HZ2.out)
      have XA : Hid (∀ u, Below w2.heap.size w2 u → Calls Try.prog 32 [AV .u64 a].toArray u fun e u' => e = .returned (.int .u64 (x : Int)) ∧ Below w2.heap.size w2 u') := fun u hu => Calls.more hu (CA.out u)
      have XB : Hid (∀ u, Below w2.heap.size w2 u → Calls Try.prog 32 [AV .u64 b].toArray u fun e u' => e = .returned (.int .u64 (x : Int)) ∧ Below w2.heap.size w2 u') := fun u hu => Calls.more hu (CB.out u)
      go_wp2_with fail
      refine region_w Try.mixed (by kernel_rfl) ?_
      refine w_value rfl (.pointer (some ⟨w.heap.size, 0, none⟩)) (fun u hu => by go_simp) (fun K hK => ?_)
      go_simp
      refine hK _ ?_
      clear hK K
      refine w_row_load rfl .u64 33 _ rfl w.heap.size 0 rfl a (by exact KA.out) 4 31 Try.underlying33 HIa.out (fun K hK => ?_)
      go_simp
      refine hK _ ?_
      clear hK K
      refine w_call rfl 32 Try.f32 Try.func32 rfl rfl _ _ rfl _ rfl (.int .u64 (x : Int)) (by exact XA.out) (fun K hK => ?_)
      go_simp
      refine hK _ ?_
      clear hK K
      refine w_value rfl (.pointer (some ⟨w.heap.size + 1, 0, none⟩)) (fun u hu => by go_simp) (fun K hK => ?_)
      go_simp
      refine hK _ ?_
      clear hK K
      refine w_row_load rfl .u64 33 _ rfl (w.heap.size + 1) 0 rfl b (by exact KB.out) 4 31 Try.underlying33 HIb.out (fun K hK => ?_)
      go_simp
      refine hK _ ?_
      clear hK K
      refine w_call rfl 32 Try.f32 Try.func32 rfl rfl _ _ rfl _ rfl (.int .u64 (x : Int)) (by exact XB.out) (fun K hK => ?_)
      go_simp
      refine hK _ ?_
      clear hK K
      refine w_assign rfl _ rfl (.int .u64 (x : Int)) rfl (fun K hK => ?_)
      go_simp
      refine hK _ ?_
      clear hK K
      refine w_assign rfl _ rfl (.int .u64 (x : Int)) rfl (fun K hK => ?_)
      go_simp
      refine hK _ ?_
      clear hK K
      refine w_nil ?_
      intro u hu
      have HW3 : Hid (Below w.heap.size w u) := Below.trans HW2.out (hu.mono HW2.out.size)
      have HA3 : Hid (Blk u w.heap.size (ks .u64 a ++ [Value.int .i64 d])) := Blk.below HA2.out hu (Nat.lt_of_succ_lt HZ2.out)
      have HB3 : Hid (Blk u (w.heap.size + 1) (ks .u64 b ++ [Value.int .i64 d])) := Blk.below HB2.out hu HZ2.out
      have HZ3 : Hid (w.heap.size + 1 < u.heap.size) := Nat.lt_of_lt_of_le HZ2.out hu.size
      clear hu KA KB XA XB CA CB HA2 HB2 HW2 HZ2
      have c1 := dc_cell HA3.out HLa.out
      have c2 := dc_cell HB3.out HLb.out
      have XC : Hid (∀ v, Below u.heap.size u v → Calls Try.prog 93 [.slice (some ⟨w.heap.size, 0, none⟩) 4 4, .slice (some ⟨w.heap.size + 1, 0, none⟩) 4 4].toArray v fun e v' => e = .returned (.int .i64 c) ∧ Below u.heap.size u v') := fun v hv =>
        (CC.out (w.heap.size, v) (rowp (Blk.below HA3.out hv (Nat.lt_of_succ_lt HZ3.out))) (rowp (Blk.below HB3.out hv HZ3.out))).mono fun e v' ⟨h1, h2⟩ => ⟨h1, by rw [h2]; exact hv⟩
      clear CC HA3 HB3 HZ3 HIa HIb HLa HLb
      go_wp2_with fail
      refine region_w Try.mixed (by kernel_rfl) ?_
      refine w_value rfl (.pointer (some ⟨w.heap.size, 0, none⟩)) (fun u hu => by go_simp) (fun K hK => ?_)
      go_simp
      refine hK _ ?_
      clear hK K
      refine w_value rfl (.slice (some ⟨w.heap.size, 0, none⟩) 4 4) (fun u hu => by have hs := slice_v w.heap.size u; go_simp) (fun K hK => ?_)
      go_simp
      refine hK _ ?_
      clear hK K
      refine w_value rfl (.pointer (some ⟨w.heap.size + 1, 0, none⟩)) (fun u hu => by go_simp) (fun K hK => ?_)
      go_simp
      refine hK _ ?_
      clear hK K
      refine w_value rfl (.slice (some ⟨w.heap.size + 1, 0, none⟩) 4 4) (fun u hu => by have hs := slice_v (w.heap.size + 1) u; go_simp) (fun K hK => ?_)
      go_simp
      refine hK _ ?_
      clear hK K
      refine w_call rfl 93 Try.f93 Try.func93 rfl rfl _ _ rfl _ rfl (.int .i64 c) (by exact XC.out) (fun K hK => ?_)
      go_simp
      refine hK _ ?_
      clear hK K
      refine w_value rfl (.bool q) (fun u hu => by go_simp) (fun K hK => ?_)
      go_simp
      refine hK _ ?_
      clear hK K
      refine w_assign rfl _ rfl (.bool q) rfl (fun K hK => ?_)
      go_simp
      refine hK _ ?_
      clear hK K
      refine w_nil ?_
      intro v hv
      have HW9 : Hid (Below w.heap.size w v) := Below.trans HW3.out (hv.mono HW3.out.size)
      clear hv
      go_wp2_with fail
      go_ret
      exact ⟨rfl, HW9.out⟩
    · rw [if_neg hd]
      obtain ⟨q, HQ⟩ : ∃ r, Hid (decide (e < d) = r) := ⟨_, rfl⟩
      have hq := HQ.out
      rw [HQ.out]
      go_enter Try.func91, Try.ntmps91
      go_wp2_with (first | refine blk_box rfl 35 _ rfl (ks .u64 a ++ [Value.int .i64 d]) rfl ?_)
      intro w1 A1 B1 Z1
      go_wp2_with (first | refine blk_box rfl 35 _ rfl (ks .u64 b ++ [Value.int .i64 e]) rfl ?_)
      intro w2 A2 B2 Z2
      have HA2 : Hid (Blk w2 w.heap.size (ks .u64 a ++ [Value.int .i64 d])) := Blk.below A1 B2 (by omega)
      have HB2 : Hid (Blk w2 (w.heap.size + 1) (ks .u64 b ++ [Value.int .i64 e])) := A2
      have HW2 : Hid (Below w.heap.size w w2) := B1.trans (B2.mono (by omega))
      have HZ2 : Hid (w.heap.size + 1 < w2.heap.size) := by show _ < _; omega
      clear A1 B1 A2 B2 Z1 Z2
      have KA : Hid (∀ u, Below w2.heap.size w2 u → u.rangeAt w.heap.size 0 (ks .u64 a)) := fun u hu => rowp (Blk.below HA2.out hu (Nat.lt_of_succ_lt HZ2.out))
      have KB : Hid (∀ u, Below w2.heap.size w2 u → u.rangeAt (w.heap.size + 1) 0 (ks .u64 b)) := fun u hu => rowp (Blk.below HB2.out hu HZ2.out)
      have XA : Hid (∀ u, Below w2.heap.size w2 u → Calls Try.prog 32 [AV .u64 a].toArray u fun e u' => e = .returned (.int .u64 (x : Int)) ∧ Below w2.heap.size w2 u') := fun u hu => Calls.more hu (CA.out u)
      have XB : Hid (∀ u, Below w2.heap.size w2 u → Calls Try.prog 32 [AV .u64 b].toArray u fun e u' => e = .returned (.int .u64 (x : Int)) ∧ Below w2.heap.size w2 u') := fun u hu => Calls.more hu (CB.out u)
      go_wp2_with fail
      refine region_w Try.mixed (by kernel_rfl) ?_
      refine w_value rfl (.pointer (some ⟨w.heap.size, 0, none⟩)) (fun u hu => by go_simp) (fun K hK => ?_)
      go_simp
      refine hK _ ?_
      clear hK K
      refine w_row_load rfl .u64 33 _ rfl w.heap.size 0 rfl a (by exact KA.out) 4 31 Try.underlying33 HIa.out (fun K hK => ?_)
      go_simp
      refine hK _ ?_
      clear hK K
      refine w_call rfl 32 Try.f32 Try.func32 rfl rfl _ _ rfl _ rfl (.int .u64 (x : Int)) (by exact XA.out) (fun K hK => ?_)
      go_simp
      refine hK _ ?_
      clear hK K
      refine w_value rfl (.pointer (some ⟨w.heap.size + 1, 0, none⟩)) (fun u hu => by go_simp) (fun K hK => ?_)
      go_simp
      refine hK _ ?_
      clear hK K
      refine w_row_load rfl .u64 33 _ rfl (w.heap.size + 1) 0 rfl b (by exact KB.out) 4 31 Try.underlying33 HIb.out (fun K hK => ?_)
      go_simp
      refine hK _ ?_
      clear hK K
      refine w_call rfl 32 Try.f32 Try.func32 rfl rfl _ _ rfl _ rfl (.int .u64 (x : Int)) (by exact XB.out) (fun K hK => ?_)
      go_simp
      refine hK _ ?_
      clear hK K
      refine w_assign rfl _ rfl (.int .u64 (x : Int)) rfl (fun K hK => ?_)
      go_simp
      refine hK _ ?_
      clear hK K
      refine w_assign rfl _ rfl (.int .u64 (x : Int)) rfl (fun K hK => ?_)
      go_simp
      refine hK _ ?_
      clear hK K
      refine w_nil ?_
      intro u hu
      have HW3 : Hid (Below w.heap.size w u) := Below.trans HW2.out (hu.mono HW2.out.size)
      have HA3 : Hid (Blk u w.heap.size (ks .u64 a ++ [Value.int .i64 d])) := Blk.below HA2.out hu (Nat.lt_of_succ_lt HZ2.out)
      have HB3 : Hid (Blk u (w.heap.size + 1) (ks .u64 b ++ [Value.int .i64 e])) := Blk.below HB2.out hu HZ2.out
      have HZ3 : Hid (w.heap.size + 1 < u.heap.size) := Nat.lt_of_lt_of_le HZ2.out hu.size
      clear hu KA KB XA XB CA CB HA2 HB2 HW2 HZ2
      have c1 := dc_cell HA3.out HLa.out
      have c2 := dc_cell HB3.out HLb.out
      clear HA3 HB3 HZ3 HIa HIb HLa HLb
      go_wp2_with fail
      go_ret
      exact ⟨rfl, HW3.out⟩
  · rw [if_neg hs]
    have is : ¬ (x : Int) = (y : Int) := by omega
    go_enter Try.func91, Try.ntmps91
    go_wp2_with (first | refine blk_box rfl 35 _ rfl (ks .u64 a ++ [Value.int .i64 d]) rfl ?_)
    intro w1 A1 B1 Z1
    go_wp2_with (first | refine blk_box rfl 35 _ rfl (ks .u64 b ++ [Value.int .i64 e]) rfl ?_)
    intro w2 A2 B2 Z2
    have HA2 : Hid (Blk w2 w.heap.size (ks .u64 a ++ [Value.int .i64 d])) := Blk.below A1 B2 (by omega)
    have HB2 : Hid (Blk w2 (w.heap.size + 1) (ks .u64 b ++ [Value.int .i64 e])) := A2
    have HW2 : Hid (Below w.heap.size w w2) := B1.trans (B2.mono (by omega))
    have HZ2 : Hid (w.heap.size + 1 < w2.heap.size) := by show _ < _; omega
    clear A1 B1 A2 B2 Z1 Z2
    have KA : Hid (∀ u, Below w2.heap.size w2 u → u.rangeAt w.heap.size 0 (ks .u64 a)) := fun u hu => rowp (Blk.below HA2.out hu (Nat.lt_of_succ_lt HZ2.out))
    have KB : Hid (∀ u, Below w2.heap.size w2 u → u.rangeAt (w.heap.size + 1) 0 (ks .u64 b)) := fun u hu => rowp (Blk.below HB2.out hu HZ2.out)
    have XA : Hid (∀ u, Below w2.heap.size w2 u → Calls Try.prog 32 [AV .u64 a].toArray u fun e u' => e = .returned (.int .u64 (x : Int)) ∧ Below w2.heap.size w2 u') := fun u hu => Calls.more hu (CA.out u)
    have XB : Hid (∀ u, Below w2.heap.size w2 u → Calls Try.prog 32 [AV .u64 b].toArray u fun e u' => e = .returned (.int .u64 (y : Int)) ∧ Below w2.heap.size w2 u') := fun u hu => Calls.more hu (CB.out u)
    go_wp2_with fail
    refine region_w Try.mixed (by kernel_rfl) ?_
    refine w_value rfl (.pointer (some ⟨w.heap.size, 0, none⟩)) (fun u hu => by go_simp) (fun K hK => ?_)
    go_simp
    refine hK _ ?_
    clear hK K
    refine w_row_load rfl .u64 33 _ rfl w.heap.size 0 rfl a (by exact KA.out) 4 31 Try.underlying33 HIa.out (fun K hK => ?_)
    go_simp
    refine hK _ ?_
    clear hK K
    refine w_call rfl 32 Try.f32 Try.func32 rfl rfl _ _ rfl _ rfl (.int .u64 (x : Int)) (by exact XA.out) (fun K hK => ?_)
    go_simp
    refine hK _ ?_
    clear hK K
    refine w_value rfl (.pointer (some ⟨w.heap.size + 1, 0, none⟩)) (fun u hu => by go_simp) (fun K hK => ?_)
    go_simp
    refine hK _ ?_
    clear hK K
    refine w_row_load rfl .u64 33 _ rfl (w.heap.size + 1) 0 rfl b (by exact KB.out) 4 31 Try.underlying33 HIb.out (fun K hK => ?_)
    go_simp
    refine hK _ ?_
    clear hK K
    refine w_call rfl 32 Try.f32 Try.func32 rfl rfl _ _ rfl _ rfl (.int .u64 (y : Int)) (by exact XB.out) (fun K hK => ?_)
    go_simp
    refine hK _ ?_
    clear hK K
    refine w_assign rfl _ rfl (.int .u64 (x : Int)) rfl (fun K hK => ?_)
    go_simp
    refine hK _ ?_
    clear hK K
    refine w_assign rfl _ rfl (.int .u64 (y : Int)) rfl (fun K hK => ?_)
    go_simp
    refine hK _ ?_
    clear hK K
    refine w_nil ?_
    intro u hu
    have HW3 : Hid (Below w.heap.size w u) := Below.trans HW2.out (hu.mono HW2.out.size)
    have HA3 : Hid (Blk u w.heap.size (ks .u64 a ++ [Value.int .i64 d])) := Blk.below HA2.out hu (Nat.lt_of_succ_lt HZ2.out)
    have HB3 : Hid (Blk u (w.heap.size + 1) (ks .u64 b ++ [Value.int .i64 e])) := Blk.below HB2.out hu HZ2.out
    have HZ3 : Hid (w.heap.size + 1 < u.heap.size) := Nat.lt_of_lt_of_le HZ2.out hu.size
    clear hu KA KB XA XB CA CB HA2 HB2 HW2 HZ2
    clear HA3 HB3 HZ3 HIa HIb HLa HLb
    go_wp2_with fail
    go_ret
    exact ⟨rfl, HW3.out⟩
set_option maxHeartbeats 4000000 in
theorem order_any (a b : List Nat) (d e : Int) (w : World) (ha : a.length = 4) (hb : b.length = 4) :
    Calls Try.prog 88 #[SV a d, SV b e] w fun ee w' => ee = .returned (.int .i64 (T.order a d b e)) ∧ Below w.heap.size w w' := by
  have HSa := Lib.hid (size_s (d := d) ha)
  have HSb := Lib.hid (size_s (d := e) hb)
  have HE := Lib.hid (fun w => eql_s a b d e ha hb w)
  have C := Lib.hid (fun w => over_any a b d e w ha hb)
  unfold T.order
  clear ha hb
  cases hs : T.same a d b e with
  | true =>
    rw [hs] at HE
    clear hs C
    show Calls _ _ _ _ fun ee w' => ee = .returned (.int .i64 0) ∧ _
    go_enter Try.func88, Try.ntmps88
    go_wp2_with (first | refine blk_box rfl 35 _ rfl (ks .u64 a ++ [Value.int .i64 d]) rfl ?_)
    intro w1 A1 B1 Z1
    go_wp2_with (first | refine blk_box rfl 35 _ rfl (ks .u64 b ++ [Value.int .i64 e]) rfl ?_)
    intro w2 A2 B2 Z2
    have HA2 : Hid (Blk w2 w.heap.size (ks .u64 a ++ [Value.int .i64 d])) := Blk.below A1 B2 (by omega)
    have HB2 : Hid (Blk w2 (w.heap.size + 1) (ks .u64 b ++ [Value.int .i64 e])) := A2
    have HW2 : Hid (Below w.heap.size w w2) := B1.trans (B2.mono (by omega))
    have HZ2 : Hid (w.heap.size + 1 < w2.heap.size) := by show _ < _; omega
    clear A1 B1 A2 B2 Z1 Z2
    go_wp2_with (first | refine blk_load rfl 35 _ rfl w.heap.size rfl (ks .u64 a ++ [Value.int .i64 d]) HA2.out _ Try.underlying35 rfl HSa.out ?_ | refine blk_load rfl 35 _ rfl (w.heap.size + 1) rfl (ks .u64 b ++ [Value.int .i64 e]) HB2.out _ Try.underlying35 rfl HSb.out ?_ | refine val_step rfl (.bool true) (run_eql _ .eql 35 35 _ _ (SV a d) (SV b e) _ rfl rfl rfl (guard_s _ _ _ _ _ _ _) (HE.out _)) ?_)
    go_ret
    exact ⟨rfl, HW2.out⟩
  | false =>
    rw [hs] at HE
    clear hs
    cases ho : T.over a d b e with
    | true =>
      rw [ho] at C
      clear ho
      show Calls _ _ _ _ fun ee w' => ee = .returned (.int .i64 1) ∧ _
      go_enter Try.func88, Try.ntmps88
      go_wp2_with (first | refine blk_box rfl 35 _ rfl (ks .u64 a ++ [Value.int .i64 d]) rfl ?_)
      intro w1 A1 B1 Z1
      go_wp2_with (first | refine blk_box rfl 35 _ rfl (ks .u64 b ++ [Value.int .i64 e]) rfl ?_)
      intro w2 A2 B2 Z2
      have HA2 : Hid (Blk w2 w.heap.size (ks .u64 a ++ [Value.int .i64 d])) := Blk.below A1 B2 (by omega)
      have HB2 : Hid (Blk w2 (w.heap.size + 1) (ks .u64 b ++ [Value.int .i64 e])) := A2
      have HW2 : Hid (Below w.heap.size w w2) := B1.trans (B2.mono (by omega))
      have HZ2 : Hid (w.heap.size + 1 < w2.heap.size) := by show _ < _; omega
      clear A1 B1 A2 B2 Z1 Z2
      go_wp2_with (first | refine blk_load rfl 35 _ rfl w.heap.size rfl (ks .u64 a ++ [Value.int .i64 d]) HA2.out _ Try.underlying35 rfl HSa.out ?_ | refine blk_load rfl 35 _ rfl (w.heap.size + 1) rfl (ks .u64 b ++ [Value.int .i64 e]) HB2.out _ Try.underlying35 rfl HSb.out ?_ | refine val_step rfl (.bool false) (run_eql _ .eql 35 35 _ _ (SV a d) (SV b e) _ rfl rfl rfl (guard_s _ _ _ _ _ _ _) (HE.out _)) ?_)
      refine (C.out _).mono ?_; rintro ee w3 ⟨rfl, hb3⟩
      have HW3 : Hid (Below w.heap.size w w3) := Below.trans HW2.out (hb3.mono HW2.out.size)
      clear hb3
      go_wp2_with fail
      go_ret
      exact ⟨rfl, HW3.out⟩
    | false =>
      rw [ho] at C
      clear ho
      show Calls _ _ _ _ fun ee w' => ee = .returned (.int .i64 (-1)) ∧ _
      go_enter Try.func88, Try.ntmps88
      go_wp2_with (first | refine blk_box rfl 35 _ rfl (ks .u64 a ++ [Value.int .i64 d]) rfl ?_)
      intro w1 A1 B1 Z1
      go_wp2_with (first | refine blk_box rfl 35 _ rfl (ks .u64 b ++ [Value.int .i64 e]) rfl ?_)
      intro w2 A2 B2 Z2
      have HA2 : Hid (Blk w2 w.heap.size (ks .u64 a ++ [Value.int .i64 d])) := Blk.below A1 B2 (by omega)
      have HB2 : Hid (Blk w2 (w.heap.size + 1) (ks .u64 b ++ [Value.int .i64 e])) := A2
      have HW2 : Hid (Below w.heap.size w w2) := B1.trans (B2.mono (by omega))
      have HZ2 : Hid (w.heap.size + 1 < w2.heap.size) := by show _ < _; omega
      clear A1 B1 A2 B2 Z1 Z2
      go_wp2_with (first | refine blk_load rfl 35 _ rfl w.heap.size rfl (ks .u64 a ++ [Value.int .i64 d]) HA2.out _ Try.underlying35 rfl HSa.out ?_ | refine blk_load rfl 35 _ rfl (w.heap.size + 1) rfl (ks .u64 b ++ [Value.int .i64 e]) HB2.out _ Try.underlying35 rfl HSb.out ?_ | refine val_step rfl (.bool false) (run_eql _ .eql 35 35 _ _ (SV a d) (SV b e) _ rfl rfl rfl (guard_s _ _ _ _ _ _ _) (HE.out _)) ?_)
      refine (C.out _).mono ?_; rintro ee w3 ⟨rfl, hb3⟩
      have HW3 : Hid (Below w.heap.size w w3) := Below.trans HW2.out (hb3.mono HW2.out.size)
      clear hb3
      go_wp2_with fail
      go_ret
      exact ⟨rfl, HW3.out⟩
end Go.Proofs.Ytohcdonmdnjgoaa.Sp
