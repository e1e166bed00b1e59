/- Chapter 8's examples, as each law asks them first. -/
import Derived.Test.YtkfcbihofipcbaaItemH

namespace Go.Proofs.Ytkfcbihofipcbaa.It

open Go.RowKit Go.Proofs.Ytkfcbihofipcbaa.Vc Go.Proofs.Ytkfcbihofipcbaa.Sp

set_option linter.unusedVariables false

set_option linter.unusedSimpArgs false

set_option maxRecDepth 100000

theorem IsWs.one {w : World} {b : Nat} {x : I.Wt} (h : Blk w b (wc x)) (hb : b < w.heap.size) : IsWs w (.slice (some ⟨b, 0, none⟩) 1 1) [x] := by
  refine ⟨_, 1, rfl, Nat.le_refl _, by unfold maxLen; omega, fun _ => ⟨b, 0, rfl, hb, fun i y hy => ?_⟩⟩
  cases i with
  | zero =>
    simp only [List.getElem?_cons_zero, Option.some.injEq] at hy
    subst hy
    exact h.1
  | succ i => simp at hy
theorem exI_ok : V.Ok [1, 0, 0, 0] := ⟨rfl, by decide +kernel⟩
theorem exI_bytes : I.bytesS [1, 0, 0, 0] 1 [((⟨#[98]⟩, ⟨#[107]⟩, ⟨#[118]⟩, false) : I.Wt)] = ⟨#[1, 1, 0, 0, 0, 1, 1, 98, 1, 107, 0, 1, 118]⟩ := by decide +kernel
theorem exI_whole : I.whole [1, 0, 0, 0] 1 [((⟨#[98]⟩, ⟨#[107]⟩, ⟨#[118]⟩, false) : I.Wt)] = true := by decide +kernel
theorem exI_wholez : I.whole [0, 0, 0, 0] 0 [] = false := by decide +kernel
theorem exI_right : I.right ((⟨#[98]⟩, ⟨#[107]⟩, ⟨#[118]⟩, false) : I.Wt) = true := by decide +kernel
theorem exI_rightz : I.right I.none_ = false := by decide +kernel
theorem exI_read : I.read ⟨#[1, 1, 0, 0, 0, 1, 1, 98, 1, 107, 0, 1, 118]⟩ = ([1, 0, 0, 0], 1, [((⟨#[98]⟩, ⟨#[107]⟩, ⟨#[118]⟩, false) : I.Wt)], true) := by
  rw [← exI_bytes]; exact I.read_bytes exI_ok exI_whole
theorem exI_same : I.same [1, 0, 0, 0] 1 [((⟨#[98]⟩, ⟨#[107]⟩, ⟨#[118]⟩, false) : I.Wt)] [1, 0, 0, 0] 1 [((⟨#[98]⟩, ⟨#[107]⟩, ⟨#[118]⟩, false) : I.Wt)] = true := by decide +kernel
theorem shard_one (b k : ByteArray) : I.shard b k 1 = 1 := by
  unfold I.shard
  rw [if_neg (by omega), Int.emod_one]
  rfl
theorem exI_of1 : I.of [((⟨#[98]⟩, ⟨#[107]⟩, ⟨#[118]⟩, false) : I.Wt)] 1 1 = [((⟨#[98]⟩, ⟨#[107]⟩, ⟨#[118]⟩, false) : I.Wt)] := by unfold I.of; simp [shard_one]
theorem exI_of2 : I.of [((⟨#[98]⟩, ⟨#[107]⟩, ⟨#[118]⟩, false) : I.Wt)] 2 1 = [] := by unfold I.of; simp [shard_one]
set_option maxHeartbeats 16000000 in
theorem examples_any (w : World) :
    Calls Try.prog 11 #[] w fun e w' => e = .returned (.bool true) ∧ Below w.heap.size w w' := by
  have CB : Hid (∀ u v, IsWs u v [((⟨#[98]⟩, ⟨#[107]⟩, ⟨#[118]⟩, false) : I.Wt)] → Calls Try.prog 15 #[.agg [Value.int .u64 1, .int .u64 0, .int .u64 0, .int .u64 0, .int .i64 1, v].toArray] u fun e w' => e = .returned (.tuple #[.string ⟨#[1, 1, 0, 0, 0, 1, 1, 98, 1, 107, 0, 1, 118]⟩, .bool true]) ∧ Below u.heap.size u w') := fun u v hv => by
    have := bytes_any [1, 0, 0, 0] 1 v [((⟨#[98]⟩, ⟨#[107]⟩, ⟨#[118]⟩, false) : I.Wt)] u exI_ok hv
    rw [exI_bytes, exI_whole] at this
    exact this
  have CD : Hid (∀ u, Calls Try.prog 31 #[.string ⟨#[1, 1, 0, 0, 0, 1, 1, 98, 1, 107, 0, 1, 118]⟩] u fun e w' => ∃ v, e = .returned (.tuple #[.agg [Value.int .u64 1, .int .u64 0, .int .u64 0, .int .u64 0, .int .i64 1, v].toArray, .bool true]) ∧ OW 23 w' u.heap.size v [((⟨#[98]⟩, ⟨#[107]⟩, ⟨#[118]⟩, false) : I.Wt)] ∧ Below u.heap.size u w') := fun u =>
    read_any ⟨#[1, 1, 0, 0, 0, 1, 1, 98, 1, 107, 0, 1, 118]⟩ [1, 0, 0, 0] 1 [((⟨#[98]⟩, ⟨#[107]⟩, ⟨#[118]⟩, false) : I.Wt)] true u (by decide +kernel) exI_read
  have CR : Hid (∀ u, Calls Try.prog 18 #[.agg [Value.string ⟨#[98]⟩, .string ⟨#[107]⟩, .string ⟨#[118]⟩, .bool false].toArray] u fun e w' => e = .returned (.bool true) ∧ Below u.heap.size u w') := fun u => by
    have := wright_any ((⟨#[98]⟩, ⟨#[107]⟩, ⟨#[118]⟩, false) : I.Wt) u
    rw [exI_right] at this
    exact this
  have CRz : Hid (∀ u, Calls Try.prog 18 #[.agg #[.string ⟨#[]⟩, .string ⟨#[]⟩, .string ⟨#[]⟩, .bool false]] u fun e w' => e = .returned (.bool false) ∧ Below u.heap.size u w') := fun u => by
    have := wright_any I.none_ u
    rw [exI_rightz] at this
    exact this
  have CW : Hid (∀ u v, IsWs u v [((⟨#[98]⟩, ⟨#[107]⟩, ⟨#[118]⟩, false) : I.Wt)] → Calls Try.prog 22 #[.agg [Value.int .u64 1, .int .u64 0, .int .u64 0, .int .u64 0, .int .i64 1, v].toArray] u fun e w' => e = .returned (.bool true) ∧ Below u.heap.size u w') := fun u v hv => by
    have := whole_any [1, 0, 0, 0] 1 v [((⟨#[98]⟩, ⟨#[107]⟩, ⟨#[118]⟩, false) : I.Wt)] u rfl hv
    rw [exI_whole] at this
    exact this
  have CWz : Hid (∀ u, Calls Try.prog 22 #[.agg [Value.int .u64 0, .int .u64 0, .int .u64 0, .int .u64 0, .int .i64 0, .slice none 0 0].toArray] u fun e w' => e = .returned (.bool false) ∧ Below u.heap.size u w') := fun u => by
    have := whole_any [0, 0, 0, 0] 0 (.slice none 0 0) [] u rfl (IsWs.nil u)
    rw [exI_wholez] at this
    exact this
  have CS : Hid (∀ u, Calls Try.prog 20 #[.agg [Value.string ⟨#[98]⟩, .string ⟨#[107]⟩, .string ⟨#[118]⟩, .bool false].toArray] u fun e w' => e = .returned (.int .i64 3) ∧ Below u.heap.size u w') := fun u => wsize_any ((⟨#[98]⟩, ⟨#[107]⟩, ⟨#[118]⟩, false) : I.Wt) u ⟨by decide +kernel, by decide +kernel, by decide +kernel⟩
  have CSg : Hid (∀ u, Calls Try.prog 20 #[.agg #[.string ⟨#[98]⟩, .string ⟨#[107]⟩, .string ⟨#[]⟩, .bool true]] u fun e w' => e = .returned (.int .i64 0) ∧ Below u.heap.size u w') := fun u => wsize_any (⟨#[98]⟩, ⟨#[107]⟩, ⟨#[]⟩, true) u ⟨by decide +kernel, by decide +kernel, by decide +kernel⟩
  have CE : Hid (∀ u v v', IsWs u v [((⟨#[98]⟩, ⟨#[107]⟩, ⟨#[118]⟩, false) : I.Wt)] → IsWs u v' [((⟨#[98]⟩, ⟨#[107]⟩, ⟨#[118]⟩, false) : I.Wt)] → Calls Try.prog 24 #[.agg [Value.int .u64 1, .int .u64 0, .int .u64 0, .int .u64 0, .int .i64 1, v].toArray, .agg [Value.int .u64 1, .int .u64 0, .int .u64 0, .int .u64 0, .int .i64 1, v'].toArray] u fun e w' => e = .returned (.bool true) ∧ Below u.heap.size u w') := fun u v v' hv hv' => by
    have := same_any [1, 0, 0, 0] 1 v [((⟨#[98]⟩, ⟨#[107]⟩, ⟨#[118]⟩, false) : I.Wt)] [1, 0, 0, 0] 1 v' [((⟨#[98]⟩, ⟨#[107]⟩, ⟨#[118]⟩, false) : I.Wt)] u rfl rfl hv hv'
    rw [exI_same] at this
    exact this
  have CH : Hid (∀ u, Calls Try.prog 28 #[.string ⟨#[98]⟩, .string ⟨#[107]⟩, .int .i64 1] u fun e w' => e = .returned (.int .i64 1) ∧ Below u.heap.size u w') := fun u => by
    have := shard_any ⟨#[98]⟩ ⟨#[107]⟩ 1 u (by decide +kernel) (by decide +kernel) (by decide) (by decide)
    rw [shard_one] at this
    exact this
  have hO : ∀ x ∈ [((⟨#[98]⟩, ⟨#[107]⟩, ⟨#[118]⟩, false) : I.Wt)], x.1.size ≤ 140737488355328 ∧ x.2.1.size ≤ 140737488355328 := by decide +kernel
  have CO1 : Hid (∀ u v, IsWs u v [((⟨#[98]⟩, ⟨#[107]⟩, ⟨#[118]⟩, false) : I.Wt)] → Calls Try.prog 26 #[.agg [Value.int .u64 1, .int .u64 0, .int .u64 0, .int .u64 0, .int .i64 1, v].toArray, .int .i64 1, .int .i64 1] u fun e w' => ∃ v', e = .returned v' ∧ OW 23 w' u.heap.size v' [((⟨#[98]⟩, ⟨#[107]⟩, ⟨#[118]⟩, false) : I.Wt)] ∧ Below u.heap.size u w') := fun u v hv => by
    have := of_any [1, 0, 0, 0] 1 v [((⟨#[98]⟩, ⟨#[107]⟩, ⟨#[118]⟩, false) : I.Wt)] 1 1 u rfl hv (by decide) hO (by decide) (by decide)
    rw [exI_of1] at this
    exact this
  have CO2 : Hid (∀ u v, IsWs u v [((⟨#[98]⟩, ⟨#[107]⟩, ⟨#[118]⟩, false) : I.Wt)] → Calls Try.prog 26 #[.agg [Value.int .u64 1, .int .u64 0, .int .u64 0, .int .u64 0, .int .i64 1, v].toArray, .int .i64 2, .int .i64 1] u fun e w' => ∃ v', e = .returned v' ∧ OW 23 w' u.heap.size v' [] ∧ Below u.heap.size u w') := fun u v hv => by
    have := of_any [1, 0, 0, 0] 1 v [((⟨#[98]⟩, ⟨#[107]⟩, ⟨#[118]⟩, false) : I.Wt)] 2 1 u rfl hv (by decide) hO (by decide) (by decide)
    rw [exI_of2] at this
    exact this
  clear hO
  go_enter Try.func11, Try.ntmps11
  have W0 : Hid (Below w.heap.size w w) := Below.refl _ _
  go_wp2_with (first | refine blk_alloc rfl 23 (wc I.none_) rfl Try.info_iw2 ?_)
  intro k1 A1 B1 Z1
  go_wp2_with (first | refine blk_store rfl 23 _ _ rfl (w.heap.size) rfl [Value.string ⟨#[98]⟩, .string ⟨#[107]⟩, .string ⟨#[118]⟩, .bool false] rfl _ A1 rfl Try.size_w rfl ?_)
  intro k2 A2 U2
  have hb2 : Below w.heap.size w k2 := B1.trans (U2.below (Nat.le_refl _))
  have HW2_ : Hid (Blk k2 (w.heap.size) [Value.string ⟨#[98]⟩, .string ⟨#[107]⟩, .string ⟨#[118]⟩, .bool false]) := A2
  have LW2_ : Hid (w.heap.size < k2.heap.size) := by show _ < _; rw [U2.size]; omega
  have W2 : Hid (Below w.heap.size w k2) := Below.trans W0.out (hb2.mono W0.out.size)
  have HW2 := HW2_
  have LW2 := LW2_
  clear hb2 A1 B1 Z1 A2 U2 HW2_ LW2_ W0
  go_wp2_with (first | refine blk_load rfl 23 _ rfl (w.heap.size) rfl [Value.string ⟨#[98]⟩, .string ⟨#[107]⟩, .string ⟨#[118]⟩, .bool false] HW2.out _ Try.underlying23 rfl Try.size_w ?_ | refine build_iw rfl _ rfl ((⟨#[98]⟩, ⟨#[107]⟩, ⟨#[118]⟩, false) : I.Wt) rfl ?_)
  intro k3 A3 B3 Z3
  have hb3 : Below k2.heap.size k2 k3 := B3
  have HG3_ : Hid (Blk k3 (k2.heap.size) (wc ((⟨#[98]⟩, ⟨#[107]⟩, ⟨#[118]⟩, false) : I.Wt))) := A3
  have LG3_ : Hid (k2.heap.size < k3.heap.size) := by show _ < _; omega
  have HW3 : Hid (Blk k3 (w.heap.size) [Value.string ⟨#[98]⟩, .string ⟨#[107]⟩, .string ⟨#[118]⟩, .bool false]) := Blk.below HW2.out hb3 LW2.out
  have LW3 : Hid (w.heap.size < k3.heap.size) := Nat.lt_of_lt_of_le LW2.out hb3.size
  have W3 : Hid (Below w.heap.size w k3) := Below.trans W2.out (hb3.mono W2.out.size)
  have HG3 := HG3_
  have LG3 := LG3_
  clear hb3 A3 B3 Z3 HW2 LW2 W2 HG3_ LG3_
  go_wp2_with (first | refine blk_alloc rfl 43 (ks .u64 [0, 0, 0, 0] ++ [Value.int .i64 0, .slice none 0 0]) rfl Try.info_itx ?_)
  intro k4 A4 B4 Z4
  go_wp2_with (first | refine blk_store rfl 43 _ _ rfl (k3.heap.size) rfl [Value.int .u64 1, .int .u64 0, .int .u64 0, .int .u64 0, .int .i64 1, .slice (some ⟨k2.heap.size, 0, none⟩) 1 1] rfl _ A4 rfl Try.size_itx rfl ?_)
  intro k5 A5 U5
  have hb5 : Below k3.heap.size k3 k5 := B4.trans (U5.below (Nat.le_refl _))
  have HT5_ : Hid (Blk k5 (k3.heap.size) [Value.int .u64 1, .int .u64 0, .int .u64 0, .int .u64 0, .int .i64 1, .slice (some ⟨k2.heap.size, 0, none⟩) 1 1]) := A5
  have LT5_ : Hid (k3.heap.size < k5.heap.size) := by show _ < _; rw [U5.size]; omega
  have HW5 : Hid (Blk k5 (w.heap.size) [Value.string ⟨#[98]⟩, .string ⟨#[107]⟩, .string ⟨#[118]⟩, .bool false]) := Blk.below HW3.out hb5 LW3.out
  have LW5 : Hid (w.heap.size < k5.heap.size) := Nat.lt_of_lt_of_le LW3.out hb5.size
  have HG5 : Hid (Blk k5 (k2.heap.size) (wc ((⟨#[98]⟩, ⟨#[107]⟩, ⟨#[118]⟩, false) : I.Wt))) := Blk.below HG3.out hb5 LG3.out
  have LG5 : Hid (k2.heap.size < k5.heap.size) := Nat.lt_of_lt_of_le LG3.out hb5.size
  have W5 : Hid (Below w.heap.size w k5) := Below.trans W3.out (hb5.mono W3.out.size)
  have HT5 := HT5_
  have LT5 := LT5_
  clear hb5 A4 B4 Z4 A5 U5 HT5_ LT5_ HW3 LW3 HG3 LG3 W3
  go_wp2_with (first | refine blk_load rfl 43 _ rfl (k3.heap.size) rfl [Value.int .u64 1, .int .u64 0, .int .u64 0, .int .u64 0, .int .i64 1, .slice (some ⟨k2.heap.size, 0, none⟩) 1 1] HT5.out _ Try.underlying43 rfl Try.size_itx ?_)
  refine (CB.out _ _ (IsWs.one HG5.out LG5.out)).mono ?_; rintro e k6 ⟨rfl, hb6⟩
  have HW6 : Hid (Blk k6 (w.heap.size) [Value.string ⟨#[98]⟩, .string ⟨#[107]⟩, .string ⟨#[118]⟩, .bool false]) := Blk.below HW5.out hb6 LW5.out
  have LW6 : Hid (w.heap.size < k6.heap.size) := Nat.lt_of_lt_of_le LW5.out hb6.size
  have HG6 : Hid (Blk k6 (k2.heap.size) (wc ((⟨#[98]⟩, ⟨#[107]⟩, ⟨#[118]⟩, false) : I.Wt))) := Blk.below HG5.out hb6 LG5.out
  have LG6 : Hid (k2.heap.size < k6.heap.size) := Nat.lt_of_lt_of_le LG5.out hb6.size
  have HT6 : Hid (Blk k6 (k3.heap.size) [Value.int .u64 1, .int .u64 0, .int .u64 0, .int .u64 0, .int .i64 1, .slice (some ⟨k2.heap.size, 0, none⟩) 1 1]) := Blk.below HT5.out hb6 LT5.out
  have LT6 : Hid (k3.heap.size < k6.heap.size) := Nat.lt_of_lt_of_le LT5.out hb6.size
  have W6 : Hid (Below w.heap.size w k6) := Below.trans W5.out (hb6.mono W5.out.size)
  clear hb6 HW5 LW5 HG5 LG5 HT5 LT5 W5 
  go_wp2_with fail
  refine (CD.out _).mono ?_; rintro e k7 ⟨v, rfl, ho, hb7⟩
  have HW7 : Hid (Blk k7 (w.heap.size) [Value.string ⟨#[98]⟩, .string ⟨#[107]⟩, .string ⟨#[118]⟩, .bool false]) := Blk.below HW6.out hb7 LW6.out
  have LW7 : Hid (w.heap.size < k7.heap.size) := Nat.lt_of_lt_of_le LW6.out hb7.size
  have HG7 : Hid (Blk k7 (k2.heap.size) (wc ((⟨#[98]⟩, ⟨#[107]⟩, ⟨#[118]⟩, false) : I.Wt))) := Blk.below HG6.out hb7 LG6.out
  have LG7 : Hid (k2.heap.size < k7.heap.size) := Nat.lt_of_lt_of_le LG6.out hb7.size
  have HT7 : Hid (Blk k7 (k3.heap.size) [Value.int .u64 1, .int .u64 0, .int .u64 0, .int .u64 0, .int .i64 1, .slice (some ⟨k2.heap.size, 0, none⟩) 1 1]) := Blk.below HT6.out hb7 LT6.out
  have LT7 : Hid (k3.heap.size < k7.heap.size) := Nat.lt_of_lt_of_le LT6.out hb7.size
  have W7 : Hid (Below w.heap.size w k7) := Below.trans W6.out (hb7.mono W6.out.size)
  clear hb7 HW6 LW6 HG6 LG6 HT6 LT6 W6 
  obtain ⟨av, cv, ev, _⟩ := ho.is.is
  subst ev
  have XV7 := Lib.hid ho
  have HLT : Hid (∀ g o n c, Value.slice av 1 cv = .slice (some ⟨g, o, none⟩) n c → g < k7.heap.size) := OW.lt ho
  clear ho
  go_wp2_with (first | refine blk_alloc rfl 43 (ks .u64 [0, 0, 0, 0] ++ [Value.int .i64 0, .slice none 0 0]) rfl Try.info_itx ?_)
  intro k8 A8 B8 Z8
  go_wp2_with (first | refine blk_store rfl 43 _ _ rfl (k7.heap.size) rfl [Value.int .u64 1, .int .u64 0, .int .u64 0, .int .u64 0, .int .i64 1, .slice av 1 cv] rfl _ A8 rfl Try.size_itx rfl ?_)
  intro k9 A9 U9
  have hb9 : Below k7.heap.size k7 k9 := B8.trans (U9.below (Nat.le_refl _))
  have HU9_ : Hid (Blk k9 (k7.heap.size) [Value.int .u64 1, .int .u64 0, .int .u64 0, .int .u64 0, .int .i64 1, .slice av 1 cv]) := A9
  have LU9_ : Hid (k7.heap.size < k9.heap.size) := by show _ < _; rw [U9.size]; omega
  have HW9 : Hid (Blk k9 (w.heap.size) [Value.string ⟨#[98]⟩, .string ⟨#[107]⟩, .string ⟨#[118]⟩, .bool false]) := Blk.below HW7.out hb9 LW7.out
  have LW9 : Hid (w.heap.size < k9.heap.size) := Nat.lt_of_lt_of_le LW7.out hb9.size
  have HG9 : Hid (Blk k9 (k2.heap.size) (wc ((⟨#[98]⟩, ⟨#[107]⟩, ⟨#[118]⟩, false) : I.Wt))) := Blk.below HG7.out hb9 LG7.out
  have LG9 : Hid (k2.heap.size < k9.heap.size) := Nat.lt_of_lt_of_le LG7.out hb9.size
  have HT9 : Hid (Blk k9 (k3.heap.size) [Value.int .u64 1, .int .u64 0, .int .u64 0, .int .u64 0, .int .i64 1, .slice (some ⟨k2.heap.size, 0, none⟩) 1 1]) := Blk.below HT7.out hb9 LT7.out
  have LT9 : Hid (k3.heap.size < k9.heap.size) := Nat.lt_of_lt_of_le LT7.out hb9.size
  have XV9 := Lib.hid (OW.below XV7.out hb9)
  have W9 : Hid (Below w.heap.size w k9) := Below.trans W7.out (hb9.mono W7.out.size)
  have HU9 := HU9_
  have LU9 := LU9_
  clear hb9 A8 B8 Z8 A9 U9 HU9_ LU9_ HW7 LW7 HG7 LG7 HT7 LT7 XV7 W7
  have cW0 := HW9.out.cell 0 _ rfl
  have cW1 := HW9.out.cell 1 _ rfl
  have cW2 := HW9.out.cell 2 _ rfl
  have cW3 := HW9.out.cell 3 _ rfl
  go_wp2_with fail
  refine (CR.out _).mono ?_; rintro e k10 ⟨rfl, hb10⟩
  have HW10 : Hid (Blk k10 (w.heap.size) [Value.string ⟨#[98]⟩, .string ⟨#[107]⟩, .string ⟨#[118]⟩, .bool false]) := Blk.below HW9.out hb10 LW9.out
  have LW10 : Hid (w.heap.size < k10.heap.size) := Nat.lt_of_lt_of_le LW9.out hb10.size
  have HG10 : Hid (Blk k10 (k2.heap.size) (wc ((⟨#[98]⟩, ⟨#[107]⟩, ⟨#[118]⟩, false) : I.Wt))) := Blk.below HG9.out hb10 LG9.out
  have LG10 : Hid (k2.heap.size < k10.heap.size) := Nat.lt_of_lt_of_le LG9.out hb10.size
  have HT10 : Hid (Blk k10 (k3.heap.size) [Value.int .u64 1, .int .u64 0, .int .u64 0, .int .u64 0, .int .i64 1, .slice (some ⟨k2.heap.size, 0, none⟩) 1 1]) := Blk.below HT9.out hb10 LT9.out
  have LT10 : Hid (k3.heap.size < k10.heap.size) := Nat.lt_of_lt_of_le LT9.out hb10.size
  have HU10 : Hid (Blk k10 (k7.heap.size) [Value.int .u64 1, .int .u64 0, .int .u64 0, .int .u64 0, .int .i64 1, .slice av 1 cv]) := Blk.below HU9.out hb10 LU9.out
  have LU10 : Hid (k7.heap.size < k10.heap.size) := Nat.lt_of_lt_of_le LU9.out hb10.size
  have XV10 := Lib.hid (OW.below XV9.out hb10)
  have W10 : Hid (Below w.heap.size w k10) := Below.trans W9.out (hb10.mono W9.out.size)
  clear hb10 HW9 LW9 HG9 LG9 HT9 LT9 HU9 LU9 XV9 W9 cW0 cW1 cW2 cW3
  go_wp2_with fail
  refine (CRz.out _).mono ?_; rintro e k11 ⟨rfl, hb11⟩
  have HW11 : Hid (Blk k11 (w.heap.size) [Value.string ⟨#[98]⟩, .string ⟨#[107]⟩, .string ⟨#[118]⟩, .bool false]) := Blk.below HW10.out hb11 LW10.out
  have LW11 : Hid (w.heap.size < k11.heap.size) := Nat.lt_of_lt_of_le LW10.out hb11.size
  have HG11 : Hid (Blk k11 (k2.heap.size) (wc ((⟨#[98]⟩, ⟨#[107]⟩, ⟨#[118]⟩, false) : I.Wt))) := Blk.below HG10.out hb11 LG10.out
  have LG11 : Hid (k2.heap.size < k11.heap.size) := Nat.lt_of_lt_of_le LG10.out hb11.size
  have HT11 : Hid (Blk k11 (k3.heap.size) [Value.int .u64 1, .int .u64 0, .int .u64 0, .int .u64 0, .int .i64 1, .slice (some ⟨k2.heap.size, 0, none⟩) 1 1]) := Blk.below HT10.out hb11 LT10.out
  have LT11 : Hid (k3.heap.size < k11.heap.size) := Nat.lt_of_lt_of_le LT10.out hb11.size
  have HU11 : Hid (Blk k11 (k7.heap.size) [Value.int .u64 1, .int .u64 0, .int .u64 0, .int .u64 0, .int .i64 1, .slice av 1 cv]) := Blk.below HU10.out hb11 LU10.out
  have LU11 : Hid (k7.heap.size < k11.heap.size) := Nat.lt_of_lt_of_le LU10.out hb11.size
  have XV11 := Lib.hid (OW.below XV10.out hb11)
  have W11 : Hid (Below w.heap.size w k11) := Below.trans W10.out (hb11.mono W10.out.size)
  clear hb11 HW10 LW10 HG10 LG10 HT10 LT10 HU10 LU10 XV10 W10 
  have cT0 := HT11.out.cell 0 _ rfl
  have cT1 := HT11.out.cell 1 _ rfl
  have cT2 := HT11.out.cell 2 _ rfl
  have cT3 := HT11.out.cell 3 _ rfl
  have cT4 := HT11.out.cell 4 _ rfl
  have cT5 := HT11.out.cell 5 _ rfl
  go_wp2_with fail
  refine (CW.out _ _ (IsWs.one HG11.out LG11.out)).mono ?_; rintro e k12 ⟨rfl, hb12⟩
  have HW12 : Hid (Blk k12 (w.heap.size) [Value.string ⟨#[98]⟩, .string ⟨#[107]⟩, .string ⟨#[118]⟩, .bool false]) := Blk.below HW11.out hb12 LW11.out
  have LW12 : Hid (w.heap.size < k12.heap.size) := Nat.lt_of_lt_of_le LW11.out hb12.size
  have HG12 : Hid (Blk k12 (k2.heap.size) (wc ((⟨#[98]⟩, ⟨#[107]⟩, ⟨#[118]⟩, false) : I.Wt))) := Blk.below HG11.out hb12 LG11.out
  have LG12 : Hid (k2.heap.size < k12.heap.size) := Nat.lt_of_lt_of_le LG11.out hb12.size
  have HT12 : Hid (Blk k12 (k3.heap.size) [Value.int .u64 1, .int .u64 0, .int .u64 0, .int .u64 0, .int .i64 1, .slice (some ⟨k2.heap.size, 0, none⟩) 1 1]) := Blk.below HT11.out hb12 LT11.out
  have LT12 : Hid (k3.heap.size < k12.heap.size) := Nat.lt_of_lt_of_le LT11.out hb12.size
  have HU12 : Hid (Blk k12 (k7.heap.size) [Value.int .u64 1, .int .u64 0, .int .u64 0, .int .u64 0, .int .i64 1, .slice av 1 cv]) := Blk.below HU11.out hb12 LU11.out
  have LU12 : Hid (k7.heap.size < k12.heap.size) := Nat.lt_of_lt_of_le LU11.out hb12.size
  have XV12 := Lib.hid (OW.below XV11.out hb12)
  have W12 : Hid (Below w.heap.size w k12) := Below.trans W11.out (hb12.mono W11.out.size)
  clear hb12 HW11 LW11 HG11 LG11 HT11 LT11 HU11 LU11 XV11 W11 cT0 cT1 cT2 cT3 cT4 cT5
  go_wp2_with fail
  refine (CWz.out _).mono ?_; rintro e k13 ⟨rfl, hb13⟩
  have HW13 : Hid (Blk k13 (w.heap.size) [Value.string ⟨#[98]⟩, .string ⟨#[107]⟩, .string ⟨#[118]⟩, .bool false]) := Blk.below HW12.out hb13 LW12.out
  have LW13 : Hid (w.heap.size < k13.heap.size) := Nat.lt_of_lt_of_le LW12.out hb13.size
  have HG13 : Hid (Blk k13 (k2.heap.size) (wc ((⟨#[98]⟩, ⟨#[107]⟩, ⟨#[118]⟩, false) : I.Wt))) := Blk.below HG12.out hb13 LG12.out
  have LG13 : Hid (k2.heap.size < k13.heap.size) := Nat.lt_of_lt_of_le LG12.out hb13.size
  have HT13 : Hid (Blk k13 (k3.heap.size) [Value.int .u64 1, .int .u64 0, .int .u64 0, .int .u64 0, .int .i64 1, .slice (some ⟨k2.heap.size, 0, none⟩) 1 1]) := Blk.below HT12.out hb13 LT12.out
  have LT13 : Hid (k3.heap.size < k13.heap.size) := Nat.lt_of_lt_of_le LT12.out hb13.size
  have HU13 : Hid (Blk k13 (k7.heap.size) [Value.int .u64 1, .int .u64 0, .int .u64 0, .int .u64 0, .int .i64 1, .slice av 1 cv]) := Blk.below HU12.out hb13 LU12.out
  have LU13 : Hid (k7.heap.size < k13.heap.size) := Nat.lt_of_lt_of_le LU12.out hb13.size
  have XV13 := Lib.hid (OW.below XV12.out hb13)
  have W13 : Hid (Below w.heap.size w k13) := Below.trans W12.out (hb13.mono W12.out.size)
  clear hb13 HW12 LW12 HG12 LG12 HT12 LT12 HU12 LU12 XV12 W12 
  have cW0 := HW13.out.cell 0 _ rfl
  have cW1 := HW13.out.cell 1 _ rfl
  have cW2 := HW13.out.cell 2 _ rfl
  have cW3 := HW13.out.cell 3 _ rfl
  go_wp2_with fail
  refine (CS.out _).mono ?_; rintro e k14 ⟨rfl, hb14⟩
  have HW14 : Hid (Blk k14 (w.heap.size) [Value.string ⟨#[98]⟩, .string ⟨#[107]⟩, .string ⟨#[118]⟩, .bool false]) := Blk.below HW13.out hb14 LW13.out
  have LW14 : Hid (w.heap.size < k14.heap.size) := Nat.lt_of_lt_of_le LW13.out hb14.size
  have HG14 : Hid (Blk k14 (k2.heap.size) (wc ((⟨#[98]⟩, ⟨#[107]⟩, ⟨#[118]⟩, false) : I.Wt))) := Blk.below HG13.out hb14 LG13.out
  have LG14 : Hid (k2.heap.size < k14.heap.size) := Nat.lt_of_lt_of_le LG13.out hb14.size
  have HT14 : Hid (Blk k14 (k3.heap.size) [Value.int .u64 1, .int .u64 0, .int .u64 0, .int .u64 0, .int .i64 1, .slice (some ⟨k2.heap.size, 0, none⟩) 1 1]) := Blk.below HT13.out hb14 LT13.out
  have LT14 : Hid (k3.heap.size < k14.heap.size) := Nat.lt_of_lt_of_le LT13.out hb14.size
  have HU14 : Hid (Blk k14 (k7.heap.size) [Value.int .u64 1, .int .u64 0, .int .u64 0, .int .u64 0, .int .i64 1, .slice av 1 cv]) := Blk.below HU13.out hb14 LU13.out
  have LU14 : Hid (k7.heap.size < k14.heap.size) := Nat.lt_of_lt_of_le LU13.out hb14.size
  have XV14 := Lib.hid (OW.below XV13.out hb14)
  have W14 : Hid (Below w.heap.size w k14) := Below.trans W13.out (hb14.mono W13.out.size)
  clear hb14 HW13 LW13 HG13 LG13 HT13 LT13 HU13 LU13 XV13 W13 cW0 cW1 cW2 cW3
  go_wp2_with fail
  refine (CSg.out _).mono ?_; rintro e k15 ⟨rfl, hb15⟩
  have HW15 : Hid (Blk k15 (w.heap.size) [Value.string ⟨#[98]⟩, .string ⟨#[107]⟩, .string ⟨#[118]⟩, .bool false]) := Blk.below HW14.out hb15 LW14.out
  have LW15 : Hid (w.heap.size < k15.heap.size) := Nat.lt_of_lt_of_le LW14.out hb15.size
  have HG15 : Hid (Blk k15 (k2.heap.size) (wc ((⟨#[98]⟩, ⟨#[107]⟩, ⟨#[118]⟩, false) : I.Wt))) := Blk.below HG14.out hb15 LG14.out
  have LG15 : Hid (k2.heap.size < k15.heap.size) := Nat.lt_of_lt_of_le LG14.out hb15.size
  have HT15 : Hid (Blk k15 (k3.heap.size) [Value.int .u64 1, .int .u64 0, .int .u64 0, .int .u64 0, .int .i64 1, .slice (some ⟨k2.heap.size, 0, none⟩) 1 1]) := Blk.below HT14.out hb15 LT14.out
  have LT15 : Hid (k3.heap.size < k15.heap.size) := Nat.lt_of_lt_of_le LT14.out hb15.size
  have HU15 : Hid (Blk k15 (k7.heap.size) [Value.int .u64 1, .int .u64 0, .int .u64 0, .int .u64 0, .int .i64 1, .slice av 1 cv]) := Blk.below HU14.out hb15 LU14.out
  have LU15 : Hid (k7.heap.size < k15.heap.size) := Nat.lt_of_lt_of_le LU14.out hb15.size
  have XV15 := Lib.hid (OW.below XV14.out hb15)
  have W15 : Hid (Below w.heap.size w k15) := Below.trans W14.out (hb15.mono W14.out.size)
  clear hb15 HW14 LW14 HG14 LG14 HT14 LT14 HU14 LU14 XV14 W14 
  have cT0 := HT15.out.cell 0 _ rfl
  have cT1 := HT15.out.cell 1 _ rfl
  have cT2 := HT15.out.cell 2 _ rfl
  have cT3 := HT15.out.cell 3 _ rfl
  have cT4 := HT15.out.cell 4 _ rfl
  have cT5 := HT15.out.cell 5 _ rfl
  have cU0 := HU15.out.cell 0 _ rfl
  have cU1 := HU15.out.cell 1 _ rfl
  have cU2 := HU15.out.cell 2 _ rfl
  have cU3 := HU15.out.cell 3 _ rfl
  have cU4 := HU15.out.cell 4 _ rfl
  have cU5 := HU15.out.cell 5 _ rfl
  go_wp2_with fail
  refine (CE.out _ _ _ (IsWs.one HG15.out LG15.out) XV15.out.is).mono ?_; rintro e k16 ⟨rfl, hb16⟩
  have HW16 : Hid (Blk k16 (w.heap.size) [Value.string ⟨#[98]⟩, .string ⟨#[107]⟩, .string ⟨#[118]⟩, .bool false]) := Blk.below HW15.out hb16 LW15.out
  have LW16 : Hid (w.heap.size < k16.heap.size) := Nat.lt_of_lt_of_le LW15.out hb16.size
  have HG16 : Hid (Blk k16 (k2.heap.size) (wc ((⟨#[98]⟩, ⟨#[107]⟩, ⟨#[118]⟩, false) : I.Wt))) := Blk.below HG15.out hb16 LG15.out
  have LG16 : Hid (k2.heap.size < k16.heap.size) := Nat.lt_of_lt_of_le LG15.out hb16.size
  have HT16 : Hid (Blk k16 (k3.heap.size) [Value.int .u64 1, .int .u64 0, .int .u64 0, .int .u64 0, .int .i64 1, .slice (some ⟨k2.heap.size, 0, none⟩) 1 1]) := Blk.below HT15.out hb16 LT15.out
  have LT16 : Hid (k3.heap.size < k16.heap.size) := Nat.lt_of_lt_of_le LT15.out hb16.size
  have HU16 : Hid (Blk k16 (k7.heap.size) [Value.int .u64 1, .int .u64 0, .int .u64 0, .int .u64 0, .int .i64 1, .slice av 1 cv]) := Blk.below HU15.out hb16 LU15.out
  have LU16 : Hid (k7.heap.size < k16.heap.size) := Nat.lt_of_lt_of_le LU15.out hb16.size
  have XV16 := Lib.hid (OW.below XV15.out hb16)
  have W16 : Hid (Below w.heap.size w k16) := Below.trans W15.out (hb16.mono W15.out.size)
  clear hb16 HW15 LW15 HG15 LG15 HT15 LT15 HU15 LU15 XV15 W15 cT0 cT1 cT2 cT3 cT4 cT5 cU0 cU1 cU2 cU3 cU4 cU5
  go_wp2_with fail
  refine (CH.out _).mono ?_; rintro e k17 ⟨rfl, hb17⟩
  have HW17 : Hid (Blk k17 (w.heap.size) [Value.string ⟨#[98]⟩, .string ⟨#[107]⟩, .string ⟨#[118]⟩, .bool false]) := Blk.below HW16.out hb17 LW16.out
  have LW17 : Hid (w.heap.size < k17.heap.size) := Nat.lt_of_lt_of_le LW16.out hb17.size
  have HG17 : Hid (Blk k17 (k2.heap.size) (wc ((⟨#[98]⟩, ⟨#[107]⟩, ⟨#[118]⟩, false) : I.Wt))) := Blk.below HG16.out hb17 LG16.out
  have LG17 : Hid (k2.heap.size < k17.heap.size) := Nat.lt_of_lt_of_le LG16.out hb17.size
  have HT17 : Hid (Blk k17 (k3.heap.size) [Value.int .u64 1, .int .u64 0, .int .u64 0, .int .u64 0, .int .i64 1, .slice (some ⟨k2.heap.size, 0, none⟩) 1 1]) := Blk.below HT16.out hb17 LT16.out
  have LT17 : Hid (k3.heap.size < k17.heap.size) := Nat.lt_of_lt_of_le LT16.out hb17.size
  have HU17 : Hid (Blk k17 (k7.heap.size) [Value.int .u64 1, .int .u64 0, .int .u64 0, .int .u64 0, .int .i64 1, .slice av 1 cv]) := Blk.below HU16.out hb17 LU16.out
  have LU17 : Hid (k7.heap.size < k17.heap.size) := Nat.lt_of_lt_of_le LU16.out hb17.size
  have XV17 := Lib.hid (OW.below XV16.out hb17)
  have W17 : Hid (Below w.heap.size w k17) := Below.trans W16.out (hb17.mono W16.out.size)
  clear hb17 HW16 LW16 HG16 LG16 HT16 LT16 HU16 LU16 XV16 W16 
  have cT0 := HT17.out.cell 0 _ rfl
  have cT1 := HT17.out.cell 1 _ rfl
  have cT2 := HT17.out.cell 2 _ rfl
  have cT3 := HT17.out.cell 3 _ rfl
  have cT4 := HT17.out.cell 4 _ rfl
  have cT5 := HT17.out.cell 5 _ rfl
  go_wp2_with fail
  refine (CO1.out _ _ (IsWs.one HG17.out LG17.out)).mono ?_; rintro e k18 ⟨v1, rfl, ho1, hb18⟩
  have HW18 : Hid (Blk k18 (w.heap.size) [Value.string ⟨#[98]⟩, .string ⟨#[107]⟩, .string ⟨#[118]⟩, .bool false]) := Blk.below HW17.out hb18 LW17.out
  have LW18 : Hid (w.heap.size < k18.heap.size) := Nat.lt_of_lt_of_le LW17.out hb18.size
  have HG18 : Hid (Blk k18 (k2.heap.size) (wc ((⟨#[98]⟩, ⟨#[107]⟩, ⟨#[118]⟩, false) : I.Wt))) := Blk.below HG17.out hb18 LG17.out
  have LG18 : Hid (k2.heap.size < k18.heap.size) := Nat.lt_of_lt_of_le LG17.out hb18.size
  have HT18 : Hid (Blk k18 (k3.heap.size) [Value.int .u64 1, .int .u64 0, .int .u64 0, .int .u64 0, .int .i64 1, .slice (some ⟨k2.heap.size, 0, none⟩) 1 1]) := Blk.below HT17.out hb18 LT17.out
  have LT18 : Hid (k3.heap.size < k18.heap.size) := Nat.lt_of_lt_of_le LT17.out hb18.size
  have HU18 : Hid (Blk k18 (k7.heap.size) [Value.int .u64 1, .int .u64 0, .int .u64 0, .int .u64 0, .int .i64 1, .slice av 1 cv]) := Blk.below HU17.out hb18 LU17.out
  have LU18 : Hid (k7.heap.size < k18.heap.size) := Nat.lt_of_lt_of_le LU17.out hb18.size
  have XV18 := Lib.hid (OW.below XV17.out hb18)
  have W18 : Hid (Below w.heap.size w k18) := Below.trans W17.out (hb18.mono W17.out.size)
  clear hb18 HW17 LW17 HG17 LG17 HT17 LT17 HU17 LU17 XV17 W17 cT0 cT1 cT2 cT3 cT4 cT5
  obtain ⟨av1, cv1, ev1, _⟩ := ho1.is.is
  subst ev1
  clear ho1
  have cT0 := HT18.out.cell 0 _ rfl
  have cT1 := HT18.out.cell 1 _ rfl
  have cT2 := HT18.out.cell 2 _ rfl
  have cT3 := HT18.out.cell 3 _ rfl
  have cT4 := HT18.out.cell 4 _ rfl
  have cT5 := HT18.out.cell 5 _ rfl
  go_wp2_with fail
  refine (CO2.out _ _ (IsWs.one HG18.out LG18.out)).mono ?_; rintro e k19 ⟨v2, rfl, ho2, hb19⟩
  have HW19 : Hid (Blk k19 (w.heap.size) [Value.string ⟨#[98]⟩, .string ⟨#[107]⟩, .string ⟨#[118]⟩, .bool false]) := Blk.below HW18.out hb19 LW18.out
  have LW19 : Hid (w.heap.size < k19.heap.size) := Nat.lt_of_lt_of_le LW18.out hb19.size
  have HG19 : Hid (Blk k19 (k2.heap.size) (wc ((⟨#[98]⟩, ⟨#[107]⟩, ⟨#[118]⟩, false) : I.Wt))) := Blk.below HG18.out hb19 LG18.out
  have LG19 : Hid (k2.heap.size < k19.heap.size) := Nat.lt_of_lt_of_le LG18.out hb19.size
  have HT19 : Hid (Blk k19 (k3.heap.size) [Value.int .u64 1, .int .u64 0, .int .u64 0, .int .u64 0, .int .i64 1, .slice (some ⟨k2.heap.size, 0, none⟩) 1 1]) := Blk.below HT18.out hb19 LT18.out
  have LT19 : Hid (k3.heap.size < k19.heap.size) := Nat.lt_of_lt_of_le LT18.out hb19.size
  have HU19 : Hid (Blk k19 (k7.heap.size) [Value.int .u64 1, .int .u64 0, .int .u64 0, .int .u64 0, .int .i64 1, .slice av 1 cv]) := Blk.below HU18.out hb19 LU18.out
  have LU19 : Hid (k7.heap.size < k19.heap.size) := Nat.lt_of_lt_of_le LU18.out hb19.size
  have XV19 := Lib.hid (OW.below XV18.out hb19)
  have W19 : Hid (Below w.heap.size w k19) := Below.trans W18.out (hb19.mono W18.out.size)
  clear hb19 HW18 LW18 HG18 LG18 HT18 LT18 HU18 LU18 XV18 W18 cT0 cT1 cT2 cT3 cT4 cT5
  obtain ⟨av2, cv2, ev2, _⟩ := ho2.is.is
  subst ev2
  clear ho2
  go_wp2_with fail
  go_ret
  exact ⟨rfl, W19.out⟩
end Go.Proofs.Ytkfcbihofipcbaa.It
