/-
  For every input the law PackPlays returns true and leaves its arguments as they were. No condition.
-/
import Derived.Test.YtnhglgmjmicaoaaFrame
import Derived.Test.YtnhglgmjmicaoaaPackExamples
import Derived.Test.YtnhglgmjmicaoaaPackRefText
import Derived.Deep.DeepCutAuto
import Derived.Deep.RegionHeld
import Derived.Test.YtnhglgmjmicaoaaFramePairs
namespace Go.Proofs.Ytnhglgmjmicaoaa.packPlays
open Go.ChangeShapes Go.WideShapes Go.ChangeAt Go.RowKit
open Go.ChangeMaps (open_string shut_string)
set_option linter.unusedVariables false
set_option linter.unusedSimpArgs false

/-- block b is a reader's box: a text and a flag, both free to be written -/
def Box (w : World) (b : Nat) (t : ByteArray) (f : Bool) : Prop :=
  b < w.heap.size ∧ w.cell? ⟨b, 0, none⟩ = some (.string t) ∧ w.cell? ⟨b, 1, none⟩ = some (.bool f) ∧ w.frozen? ⟨b, 0, none⟩ = false ∧ w.frozen? ⟨b, 1, none⟩ = false
theorem Box.below {w w' : World} {B b : Nat} {t : ByteArray} {f : Bool} (h : Box w b t f) (hb : Below B w w') (hB : b < B) : Box w' b t f :=
  ⟨Nat.lt_of_lt_of_le h.1 hb.size, (hb.cell (p := ⟨b, 0, none⟩) hB).trans h.2.1, (hb.cell (p := ⟨b, 1, none⟩) hB).trans h.2.2.1, (hb.frozen (p := ⟨b, 0, none⟩) hB).trans h.2.2.2.1, (hb.frozen (p := ⟨b, 1, none⟩) hB).trans h.2.2.2.2⟩
theorem Box.alloc {w : World} {b : Nat} {t : ByteArray} {f : Bool} (h : Box w b t f) (o : Obj) : Box (w.alloc o) b t f :=
  h.below (((Below.refl w.heap.size w).alloc (Nat.le_refl _) o)) h.1
theorem Box.drew {w : World} {b : Nat} {t : ByteArray} {f : Bool} (h : Box w b t f) : Box w.drew b t f := h
theorem Box.new (w : World) (t : ByteArray) (f : Bool) (T : TypeId) : Box (w.alloc (.cells #[.string t, .bool f] T)) w.heap.size t f :=
  ⟨by simp, by simp [go_sem], by simp [go_sem], by simp [go_sem], by simp [go_sem]⟩
theorem Box.set {w : World} {b : Nat} {t : ByteArray} {f : Bool} (h : Box w b t f) (t' : ByteArray) (f' : Bool) : Box ((w.setCell ⟨b, 0, none⟩ (.string t')).setCell ⟨b, 1, none⟩ (.bool f')) b t' f' := by
  obtain ⟨h0, h1, h2, h3, h4⟩ := h
  refine ⟨by simp [World.setCell]; exact h0, ?_, ?_, ?_, ?_⟩
  · rw [World.cell?_setCell_other _ _ _ _ (by simp)]; exact World.cell?_setCell_same _ _ _ h1
  · exact World.cell?_setCell_same _ _ _ ((World.cell?_setCell_other _ _ _ _ (by simp)).trans h2)
  · rw [World.frozen?_setCell, World.frozen?_setCell]; exact h3
  · rw [World.frozen?_setCell, World.frozen?_setCell]; exact h4
theorem Box.other {w : World} {b c : Nat} {t : ByteArray} {f : Bool} (h : Box w b t f) (hc : c ≠ b) (v v' : Value) : Box ((w.setCell ⟨c, 0, none⟩ v).setCell ⟨c, 1, none⟩ v') b t f := by
  obtain ⟨h0, h1, h2, h3, h4⟩ := h
  refine ⟨by simp [World.setCell]; exact h0, ?_, ?_, ?_, ?_⟩
  · rw [World.cell?_setCell_other _ _ _ _ (by simp [hc]), World.cell?_setCell_other _ _ _ _ (by simp [hc])]; exact h1
  · rw [World.cell?_setCell_other _ _ _ _ (by simp [hc]), World.cell?_setCell_other _ _ _ _ (by simp [hc])]; exact h2
  · rw [World.frozen?_setCell, World.frozen?_setCell]; exact h3
  · rw [World.frozen?_setCell, World.frozen?_setCell]; exact h4
theorem RN_size (s : ByteArray) (b : Bool) (k : Int) : (P.RN s b k).2.1.size ≤ s.size := by
  unfold P.RN P.outN
  split
  · exact Nat.zero_le _
  · rename_i n r h
    show (P.S r).size ≤ _
    rw [P.S_size, ← P.len_list]
    cases b with
    | true => simp at h
    | false =>
      simp only [Bool.false_eq_true, if_false] at h
      unfold P.rnum at h
      split at h
      · cases h
      · simp at h
        rw [← h.2, List.length_drop]; omega
theorem RV_size (s : ByteArray) (b : Bool) : (P.RV s b).2.1.size ≤ s.size := by
  obtain ⟨n, u, c, hv⟩ : ∃ n u c, P.RV s b = (n, u, c) := ⟨_, _, _, rfl⟩
  rw [hv]
  cases c with
  | true => rw [(P.RV_none _ _ _ _ hv).2.1]; exact Nat.zero_le _
  | false => exact Nat.le_of_lt (P.RV_some _ _ _ _ hv).2.2.2
theorem RT_size (s : ByteArray) (b : Bool) (m : Int) : (P.RT s b m).2.1.size ≤ s.size := by
  obtain ⟨n, u, c, hv⟩ : ∃ n u c, P.RV s b = (n, u, c) := ⟨_, _, _, rfl⟩
  cases c with
  | true => rw [P.RT_bad _ _ _ _ _ hv]; exact Nat.zero_le _
  | false =>
    by_cases hm : m < (n : Int) ∨ u.size < n
    · rw [P.RT_no _ _ _ _ _ hv hm]; exact Nat.zero_le _
    · rw [P.RT_yes _ _ _ _ _ hv hm]
      have := (P.RV_some _ _ _ _ hv).2.2.2
      show (u.extract n u.size).size ≤ _
      rw [P.ext_rest, P.S_size, List.length_drop, P.len_list]; omega

set_option maxHeartbeats 4000000 in
set_option maxRecDepth 100000 in
theorem walk_any (s0 : ByteArray) (b0 : Bool) (a1 : Option Addr) (len cap : Nat) (X Y : Nat → Int) (n : Nat) (size : Int) (s4 : ByteArray) (hs0 : s0.size ≤ maxLen) (hlc : len ≤ maxLen) (HN : Hid (n < 2 ^ 64)) (hs1 : -9223372036854775808 ≤ size) (hs2 : size ≤ 9223372036854775807) (hs4 : s4.size ≤ 140737488351232)
    (w : World) (HC : Hid (∀ i, i < len → ∃ b off, a1 = some ⟨b, off, none⟩ ∧ b < w.heap.size ∧ w.cell? ⟨b, off + i * 2, none⟩ = some (.int .u8 (X i)) ∧ w.cell? ⟨b, off + i * 2 + 1, none⟩ = some (.int .i64 (Y i)) ∧ 0 ≤ X i ∧ X i ≤ 255 ∧ -9223372036854775808 ≤ Y i ∧ Y i ≤ 9223372036854775807)) :
    Calls Try.prog 3 #[.agg #[.string s0, .bool b0], .slice a1 len cap, .int .u64 n, .int .i64 size, .string s4] w fun e w' => e = .returned (.bool true) ∧ Below w.heap.size w w' := by
  have hlc' := hlc
  unfold maxLen at hlc'
  go_enter Try.func3, Try.ntmps3
  go_wp2_with fail
  refine (examples_any _).mono ?_; rintro e w1 ⟨rfl, hb1⟩
  have hB01 : w.heap.size < w1.heap.size := by have := hb1.size; simp at this; omega
  have hR1 := Box.below (Box.new w s0 b0 23) hb1 (by simp)
  have HB1 : Hid (Below w.heap.size w w1) := ((Below.refl _ _).alloc (Nat.le_refl _) _).trans (hb1.mono (by simp))
  have HR1 : Hid _ := hR1
  obtain ⟨_, r0, r1, _, _⟩ := HR1.out
  clear hb1 hR1
  go_wp2_with fail
  go_loopw [13] (fun i wr => ∃ (j : Nat) (t : ByteArray) (bb : Bool), j ≤ len ∧ j ≤ 20 ∧ i = .int .i64 j ∧ t.size ≤ maxLen ∧ Hid (Box wr w.heap.size t bb) ∧ Hid (Box wr w1.heap.size t bb) ∧ Hid (Below w.heap.size w wr)) (fun i _ => 20 - (intOf i).toNat)
  case atStart => exact ⟨0, s0, b0, by omega, by omega, rfl, hs0, Box.alloc HR1.out _, Box.new _ _ _ _, HB1.out.alloc (by omega) _⟩
  case round =>
    obtain ⟨j, t, bb, hjl, hj20, rfl, ht, HR, HX, HB⟩ := hrel
    clear r0 r1 HR1 HB1
    by_cases hlt : j < len ∧ j < 20
    · obtain ⟨hlt1, hlt2⟩ := hlt
      obtain ⟨b, off, rfl, hbw, c0, c1, q0, q1, q2, q3⟩ := HC.out j hlt1
      have d0 : wr.cell? ⟨b, off + j * 2, none⟩ = some (.int .u8 (X j)) := (HB.out.cell (p := ⟨b, off + j * 2, none⟩) hbw).trans c0
      have d1 : wr.cell? ⟨b, off + j * 2 + 1, none⟩ = some (.int .i64 (Y j)) := (HB.out.cell (p := ⟨b, off + j * 2 + 1, none⟩) hbw).trans c1
      clear c0 c1
      generalize X j = x at *
      generalize Y j = y at *
      go_upto_if 53 with fail
      go_cut [14] (fun x wx => ∃ kk : Int, x = .int .i64 kk ∧ kk ≤ 9223372036854775807 ∧ wr = wx)
      case first =>
        by_cases hy3 : 0 < y.tmod 3
        · go_wp2_with fail
          go_meet
          exact ⟨y.tmod 12, rfl, by have := Int.tmod_lt_of_pos y (show (0 : Int) < 12 by decide); omega, rfl⟩
        · go_wp2_with fail
          go_meet
          exact ⟨y, rfl, q3, rfl⟩
      case rest =>
      obtain ⟨kk, rfl, hk2, rfl⟩ := hcut
      clear d1 q2 q3
      have hx3 : x % 3 = 0 ∨ x % 3 = 1 ∨ x % 3 = 2 := by omega
      rcases hx3 with hx3 | hx3 | hx3
      · obtain ⟨n1, t1, b1, hrn⟩ : ∃ n1 t1 b1, P.RN t bb kk = (n1, t1, b1) := ⟨_, _, _, rfl⟩
        have ht1 : t1.size ≤ maxLen := by have := RN_size t bb kk; rw [hrn] at this; exact Nat.le_trans this ht
        have HRN : Hid _ := hrn
        clear hrn
        obtain ⟨_, r0, r1, _, _⟩ := HR.out
        go_wp2_with fail
        refine (rnumber_any t bb kk n1 t1 b1 _ ht HRN.out).mono ?_; rintro e w2 ⟨rfl, hb2⟩
        have R2 : Hid _ := Box.below HR.out hb2 HR.out.1
        have X2 : Hid _ := Box.below HX.out hb2 HX.out.1
        have z2 := hb2.size
        have HB2 : Hid _ := HB.out.trans (hb2.mono HB.out.size)
        clear hb2 r0 r1 HR HX
        obtain ⟨_, x0, x1, _, _⟩ := Box.alloc X2.out (Obj.cells #[.string t1, .bool b1] 23)
        go_wp2_with fail
        refine (ref_rnumber_any t bb kk n1 t1 b1 _ ht HRN.out).mono ?_; rintro e w3 ⟨rfl, hb3⟩
        have z3 := hb3.size
        simp at z3
        have R3 : Hid _ := Box.below (Box.alloc R2.out _) hb3 (by first | exact (Box.alloc R2.out _).1)
        have X3 : Hid _ := Box.below (Box.alloc X2.out _) hb3 (by first | exact (Box.alloc X2.out _).1)
        have P3 : Hid _ := Box.below (Box.new w2 t1 b1 23) hb3 (by simp)
        have HB3 : Hid _ := (HB2.out.alloc HB2.out.size _).trans (hb3.mono (by have := HB2.out.size; simp; omega))
        clear hb3 x0 x1 R2 X2 HB2
        obtain ⟨_, r0, r1, r2, r3⟩ := Box.alloc R3.out (Obj.cells #[.string t1, .bool b1] 27)
        obtain ⟨_, p0, p1, _, _⟩ := Box.alloc P3.out (Obj.cells #[.string t1, .bool b1] 27)
        have tt : (t1.toList == t1.toList) = true := by simp
        go_upto_region 18 with fail
        have R4 := Box.set (Box.alloc R3.out (Obj.cells #[.string t1, .bool b1] 27)) t1 b1
        have X4 := Box.other (Box.alloc X3.out (Obj.cells #[.string t1, .bool b1] 27)) (Nat.ne_of_lt hB01) (.string t1) (.bool b1)
        have Q4 := Box.other (Box.new w3 t1 b1 27) (Nat.ne_of_lt R3.out.1) (.string t1) (.bool b1)
        have B4 := ((HB3.out.alloc HB3.out.size (Obj.cells #[.string t1, .bool b1] 27)).setCell (p := ⟨w.heap.size, 0, none⟩) (Nat.le_refl _) (.string t1)).setCell (p := ⟨w.heap.size, 1, none⟩) (Nat.le_refl _) (.bool b1)
        generalize ((w3.alloc (Obj.cells #[.string t1, .bool b1] 27)).setCell ⟨w.heap.size, 0, none⟩ (.string t1)).setCell ⟨w.heap.size, 1, none⟩ (.bool b1) = w4 at *
        have HR4 : Hid _ := R4
        have HX4 : Hid _ := X4
        have HB4 : Hid _ := B4
        obtain ⟨_, x0, x1, x2, x3⟩ := X4
        obtain ⟨_, y0, y1, _, _⟩ := Q4
        clear r0 r1 r2 r3 p0 p1 R4 B4 R3 X3 P3 HB3 z2 z3
        go_upto_region 31 with fail
        have R5 := Box.other HR4.out (Nat.ne_of_gt hB01) (.string t1) (.bool b1)
        have X5 := Box.set HX4.out t1 b1
        have B5 := (HB4.out.setCell (p := ⟨w1.heap.size, 0, none⟩) (Nat.le_of_lt hB01) (.string t1)).setCell (p := ⟨w1.heap.size, 1, none⟩) (Nat.le_of_lt hB01) (.bool b1)
        generalize (w4.setCell ⟨w1.heap.size, 0, none⟩ (.string t1)).setCell ⟨w1.heap.size, 1, none⟩ (.bool b1) = w5 at *
        clear x0 x1 x2 x3 y0 y1 HR4 HX4 HB4
        have HR5 : Hid _ := R5
        have HX5 : Hid _ := X5
        have HB5 : Hid _ := B5
        obtain ⟨_, r0, r1, _, _⟩ := R5
        obtain ⟨_, x0, x1, _, _⟩ := X5
        clear B5
        have bbn : (b1 != b1) = false := by simp
        go_region_held (fun u => u.cell? ⟨w.heap.size, 0, none⟩ = some (.string t1) ∧ u.cell? ⟨w.heap.size, 1, none⟩ = some (.bool b1) ∧ u.cell? ⟨w1.heap.size, 0, none⟩ = some (.string t1) ∧ u.cell? ⟨w1.heap.size, 1, none⟩ = some (.bool b1) ∧ Hid (Box u w.heap.size t1 b1) ∧ Hid (Box u w1.heap.size t1 b1) ∧ Hid (Below w.heap.size w u)) (first | exact ⟨r70, r71, x70, x71, HR7, HX7, HB7⟩ | exact ⟨r60, r61, x60, x61, HR6, HX6, HB6⟩ | exact ⟨r0, r1, x0, x1, HR5, HX5, Below.drew HB5.out⟩) (first | (go_at_call 16; refine (done_any _ _ _).mono ?_; rintro e w6 ⟨rfl, hb6⟩; have R6 := Box.below (Box.drew HR5.out) hb6 HR5.out.1; have X6 := Box.below (Box.drew HX5.out) hb6 HX5.out.1; have HR6 : Hid _ := R6; have HX6 : Hid _ := X6; have HB6 : Hid (Below w.heap.size w w6) := (Below.drew HB5.out).trans (hb6.mono HB5.out.size); obtain ⟨_, r60, r61, _, _⟩ := R6; obtain ⟨_, x60, x61, _, _⟩ := X6) | (go_at_call 17; refine (ref_done_any _ _ _).mono ?_; rintro e w7 ⟨rfl, hb7⟩; have R7 := Box.below HR6.out hb7 HR6.out.1; have X7 := Box.below HX6.out hb7 HX6.out.1; have HR7 : Hid _ := R7; have HX7 : Hid _ := X7; have HB7 : Hid (Below w.heap.size w w7) := HB6.out.trans (hb7.mono HB6.out.size); obtain ⟨_, r70, r71, _, _⟩ := R7; obtain ⟨_, x70, x71, _, _⟩ := X7))
        all_goals
          clear HR5 HX5 HB5 r0 r1 x0 x1
          go_wp2_with fail
          go_roundw
          case rel => first | exact ⟨j + 1, t1, b1, by omega, by omega, by go_num, ht1, HR7, HX7, HB7⟩ | ((repeat apply Exists.intro); exact ⟨⟨j + 1, t1, b1, by omega, by omega, by go_num, ht1, HR7, HX7, HB7⟩, rfl⟩)
          case measure => simp [intOf]; omega
      · obtain ⟨n1, t1, b1, hrn⟩ : ∃ n1 t1 b1, P.RV t bb = (n1, t1, b1) := ⟨_, _, _, rfl⟩
        have ht1 : t1.size ≤ maxLen := by have := RV_size t bb; rw [hrn] at this; exact Nat.le_trans this ht
        have HRN : Hid _ := hrn
        clear hrn
        obtain ⟨_, r0, r1, _, _⟩ := HR.out
        go_wp2_with fail
        refine (rvary_any t bb n1 t1 b1 _ ht HRN.out).mono ?_; rintro e w2 ⟨rfl, hb2⟩
        have R2 : Hid _ := Box.below HR.out hb2 HR.out.1
        have X2 : Hid _ := Box.below HX.out hb2 HX.out.1
        have z2 := hb2.size
        have HB2 : Hid _ := HB.out.trans (hb2.mono HB.out.size)
        clear hb2 r0 r1 HR HX
        obtain ⟨_, x0, x1, _, _⟩ := Box.alloc X2.out (Obj.cells #[.string t1, .bool b1] 23)
        go_wp2_with fail
        refine (ref_rvary_any t bb n1 t1 b1 _ ht HRN.out).mono ?_; rintro e w3 ⟨rfl, hb3⟩
        have z3 := hb3.size
        simp at z3
        have R3 : Hid _ := Box.below (Box.alloc R2.out _) hb3 (by first | exact (Box.alloc R2.out _).1)
        have X3 : Hid _ := Box.below (Box.alloc X2.out _) hb3 (by first | exact (Box.alloc X2.out _).1)
        have P3 : Hid _ := Box.below (Box.new w2 t1 b1 23) hb3 (by simp)
        have HB3 : Hid _ := (HB2.out.alloc HB2.out.size _).trans (hb3.mono (by have := HB2.out.size; simp; omega))
        clear hb3 x0 x1 R2 X2 HB2
        obtain ⟨_, r0, r1, r2, r3⟩ := Box.alloc R3.out (Obj.cells #[.string t1, .bool b1] 27)
        obtain ⟨_, p0, p1, _, _⟩ := Box.alloc P3.out (Obj.cells #[.string t1, .bool b1] 27)
        have tt : (t1.toList == t1.toList) = true := by simp
        go_upto_region 24 with fail
        have R4 := Box.set (Box.alloc R3.out (Obj.cells #[.string t1, .bool b1] 27)) t1 b1
        have X4 := Box.other (Box.alloc X3.out (Obj.cells #[.string t1, .bool b1] 27)) (Nat.ne_of_lt hB01) (.string t1) (.bool b1)
        have Q4 := Box.other (Box.new w3 t1 b1 27) (Nat.ne_of_lt R3.out.1) (.string t1) (.bool b1)
        have B4 := ((HB3.out.alloc HB3.out.size (Obj.cells #[.string t1, .bool b1] 27)).setCell (p := ⟨w.heap.size, 0, none⟩) (Nat.le_refl _) (.string t1)).setCell (p := ⟨w.heap.size, 1, none⟩) (Nat.le_refl _) (.bool b1)
        generalize ((w3.alloc (Obj.cells #[.string t1, .bool b1] 27)).setCell ⟨w.heap.size, 0, none⟩ (.string t1)).setCell ⟨w.heap.size, 1, none⟩ (.bool b1) = w4 at *
        have HR4 : Hid _ := R4
        have HX4 : Hid _ := X4
        have HB4 : Hid _ := B4
        obtain ⟨_, x0, x1, x2, x3⟩ := X4
        obtain ⟨_, y0, y1, _, _⟩ := Q4
        clear r0 r1 r2 r3 p0 p1 R4 B4 R3 X3 P3 HB3 z2 z3
        go_upto_region 31 with fail
        have R5 := Box.other HR4.out (Nat.ne_of_gt hB01) (.string t1) (.bool b1)
        have X5 := Box.set HX4.out t1 b1
        have B5 := (HB4.out.setCell (p := ⟨w1.heap.size, 0, none⟩) (Nat.le_of_lt hB01) (.string t1)).setCell (p := ⟨w1.heap.size, 1, none⟩) (Nat.le_of_lt hB01) (.bool b1)
        generalize (w4.setCell ⟨w1.heap.size, 0, none⟩ (.string t1)).setCell ⟨w1.heap.size, 1, none⟩ (.bool b1) = w5 at *
        clear x0 x1 x2 x3 y0 y1 HR4 HX4 HB4
        have HR5 : Hid _ := R5
        have HX5 : Hid _ := X5
        have HB5 : Hid _ := B5
        obtain ⟨_, r0, r1, _, _⟩ := R5
        obtain ⟨_, x0, x1, _, _⟩ := X5
        clear B5
        have bbn : (b1 != b1) = false := by simp
        go_region_held (fun u => u.cell? ⟨w.heap.size, 0, none⟩ = some (.string t1) ∧ u.cell? ⟨w.heap.size, 1, none⟩ = some (.bool b1) ∧ u.cell? ⟨w1.heap.size, 0, none⟩ = some (.string t1) ∧ u.cell? ⟨w1.heap.size, 1, none⟩ = some (.bool b1) ∧ Hid (Box u w.heap.size t1 b1) ∧ Hid (Box u w1.heap.size t1 b1) ∧ Hid (Below w.heap.size w u)) (first | exact ⟨r70, r71, x70, x71, HR7, HX7, HB7⟩ | exact ⟨r60, r61, x60, x61, HR6, HX6, HB6⟩ | exact ⟨r0, r1, x0, x1, HR5, HX5, Below.drew HB5.out⟩) (first | (go_at_call 16; refine (done_any _ _ _).mono ?_; rintro e w6 ⟨rfl, hb6⟩; have R6 := Box.below (Box.drew HR5.out) hb6 HR5.out.1; have X6 := Box.below (Box.drew HX5.out) hb6 HX5.out.1; have HR6 : Hid _ := R6; have HX6 : Hid _ := X6; have HB6 : Hid (Below w.heap.size w w6) := (Below.drew HB5.out).trans (hb6.mono HB5.out.size); obtain ⟨_, r60, r61, _, _⟩ := R6; obtain ⟨_, x60, x61, _, _⟩ := X6) | (go_at_call 17; refine (ref_done_any _ _ _).mono ?_; rintro e w7 ⟨rfl, hb7⟩; have R7 := Box.below HR6.out hb7 HR6.out.1; have X7 := Box.below HX6.out hb7 HX6.out.1; have HR7 : Hid _ := R7; have HX7 : Hid _ := X7; have HB7 : Hid (Below w.heap.size w w7) := HB6.out.trans (hb7.mono HB6.out.size); obtain ⟨_, r70, r71, _, _⟩ := R7; obtain ⟨_, x70, x71, _, _⟩ := X7))
        all_goals
          clear HR5 HX5 HB5 r0 r1 x0 x1
          go_wp2_with fail
          go_roundw
          case rel => first | exact ⟨j + 1, t1, b1, by omega, by omega, by go_num, ht1, HR7, HX7, HB7⟩ | ((repeat apply Exists.intro); exact ⟨⟨j + 1, t1, b1, by omega, by omega, by go_num, ht1, HR7, HX7, HB7⟩, rfl⟩)
          case measure => simp [intOf]; omega
      · obtain ⟨n1, t1, b1, hrn⟩ : ∃ n1 t1 b1, P.RT t bb kk = (n1, t1, b1) := ⟨_, _, _, rfl⟩
        have ht1 : t1.size ≤ maxLen := by have := RT_size t bb kk; rw [hrn] at this; exact Nat.le_trans this ht
        have HRN : Hid _ := hrn
        clear hrn
        obtain ⟨_, r0, r1, _, _⟩ := HR.out
        go_wp2_with fail
        refine (rtext_any t bb kk n1 t1 b1 _ ht hk2 HRN.out).mono ?_; rintro e w2 ⟨rfl, hb2⟩
        have R2 : Hid _ := Box.below HR.out hb2 HR.out.1
        have X2 : Hid _ := Box.below HX.out hb2 HX.out.1
        have z2 := hb2.size
        have HB2 : Hid _ := HB.out.trans (hb2.mono HB.out.size)
        clear hb2 r0 r1 HR HX
        obtain ⟨_, x0, x1, _, _⟩ := Box.alloc X2.out (Obj.cells #[.string t1, .bool b1] 23)
        go_wp2_with fail
        refine (ref_rtext_any t bb kk n1 t1 b1 _ ht hk2 HRN.out).mono ?_; rintro e w3 ⟨rfl, hb3⟩
        have z3 := hb3.size
        simp at z3
        have R3 : Hid _ := Box.below (Box.alloc R2.out _) hb3 (by first | exact (Box.alloc R2.out _).1)
        have X3 : Hid _ := Box.below (Box.alloc X2.out _) hb3 (by first | exact (Box.alloc X2.out _).1)
        have P3 : Hid _ := Box.below (Box.new w2 t1 b1 23) hb3 (by simp)
        have HB3 : Hid _ := (HB2.out.alloc HB2.out.size _).trans (hb3.mono (by have := HB2.out.size; simp; omega))
        clear hb3 x0 x1 R2 X2 HB2
        obtain ⟨_, r0, r1, r2, r3⟩ := Box.alloc R3.out (Obj.cells #[.string t1, .bool b1] 27)
        obtain ⟨_, p0, p1, _, _⟩ := Box.alloc P3.out (Obj.cells #[.string t1, .bool b1] 27)
        have tt : (t1.toList == t1.toList) = true := by simp
        go_upto_region 30 with fail
        have R4 := Box.set (Box.alloc R3.out (Obj.cells #[.string t1, .bool b1] 27)) t1 b1
        have X4 := Box.other (Box.alloc X3.out (Obj.cells #[.string t1, .bool b1] 27)) (Nat.ne_of_lt hB01) (.string t1) (.bool b1)
        have Q4 := Box.other (Box.new w3 t1 b1 27) (Nat.ne_of_lt R3.out.1) (.string t1) (.bool b1)
        have B4 := ((HB3.out.alloc HB3.out.size (Obj.cells #[.string t1, .bool b1] 27)).setCell (p := ⟨w.heap.size, 0, none⟩) (Nat.le_refl _) (.string t1)).setCell (p := ⟨w.heap.size, 1, none⟩) (Nat.le_refl _) (.bool b1)
        generalize ((w3.alloc (Obj.cells #[.string t1, .bool b1] 27)).setCell ⟨w.heap.size, 0, none⟩ (.string t1)).setCell ⟨w.heap.size, 1, none⟩ (.bool b1) = w4 at *
        have HR4 : Hid _ := R4
        have HX4 : Hid _ := X4
        have HB4 : Hid _ := B4
        obtain ⟨_, x0, x1, x2, x3⟩ := X4
        obtain ⟨_, y0, y1, _, _⟩ := Q4
        clear r0 r1 r2 r3 p0 p1 R4 B4 R3 X3 P3 HB3 z2 z3
        go_upto_region 31 with fail
        have R5 := Box.other HR4.out (Nat.ne_of_gt hB01) (.string t1) (.bool b1)
        have X5 := Box.set HX4.out t1 b1
        have B5 := (HB4.out.setCell (p := ⟨w1.heap.size, 0, none⟩) (Nat.le_of_lt hB01) (.string t1)).setCell (p := ⟨w1.heap.size, 1, none⟩) (Nat.le_of_lt hB01) (.bool b1)
        generalize (w4.setCell ⟨w1.heap.size, 0, none⟩ (.string t1)).setCell ⟨w1.heap.size, 1, none⟩ (.bool b1) = w5 at *
        clear x0 x1 x2 x3 y0 y1 HR4 HX4 HB4
        have HR5 : Hid _ := R5
        have HX5 : Hid _ := X5
        have HB5 : Hid _ := B5
        obtain ⟨_, r0, r1, _, _⟩ := R5
        obtain ⟨_, x0, x1, _, _⟩ := X5
        clear B5
        have bbn : (b1 != b1) = false := by simp
        go_region_held (fun u => u.cell? ⟨w.heap.size, 0, none⟩ = some (.string t1) ∧ u.cell? ⟨w.heap.size, 1, none⟩ = some (.bool b1) ∧ u.cell? ⟨w1.heap.size, 0, none⟩ = some (.string t1) ∧ u.cell? ⟨w1.heap.size, 1, none⟩ = some (.bool b1) ∧ Hid (Box u w.heap.size t1 b1) ∧ Hid (Box u w1.heap.size t1 b1) ∧ Hid (Below w.heap.size w u)) (first | exact ⟨r70, r71, x70, x71, HR7, HX7, HB7⟩ | exact ⟨r60, r61, x60, x61, HR6, HX6, HB6⟩ | exact ⟨r0, r1, x0, x1, HR5, HX5, Below.drew HB5.out⟩) (first | (go_at_call 16; refine (done_any _ _ _).mono ?_; rintro e w6 ⟨rfl, hb6⟩; have R6 := Box.below (Box.drew HR5.out) hb6 HR5.out.1; have X6 := Box.below (Box.drew HX5.out) hb6 HX5.out.1; have HR6 : Hid _ := R6; have HX6 : Hid _ := X6; have HB6 : Hid (Below w.heap.size w w6) := (Below.drew HB5.out).trans (hb6.mono HB5.out.size); obtain ⟨_, r60, r61, _, _⟩ := R6; obtain ⟨_, x60, x61, _, _⟩ := X6) | (go_at_call 17; refine (ref_done_any _ _ _).mono ?_; rintro e w7 ⟨rfl, hb7⟩; have R7 := Box.below HR6.out hb7 HR6.out.1; have X7 := Box.below HX6.out hb7 HX6.out.1; have HR7 : Hid _ := R7; have HX7 : Hid _ := X7; have HB7 : Hid (Below w.heap.size w w7) := HB6.out.trans (hb7.mono HB6.out.size); obtain ⟨_, r70, r71, _, _⟩ := R7; obtain ⟨_, x70, x71, _, _⟩ := X7))
        all_goals
          clear HR5 HX5 HB5 r0 r1 x0 x1
          go_wp2_with fail
          go_roundw
          case rel => first | exact ⟨j + 1, t1, b1, by omega, by omega, by go_num, ht1, HR7, HX7, HB7⟩ | ((repeat apply Exists.intro); exact ⟨⟨j + 1, t1, b1, by omega, by omega, by go_num, ht1, HR7, HX7, HB7⟩, rfl⟩)
          case measure => simp [intOf]; omega
    · have hd : (decide ((j : Int) < (len : Int)) = false ∧ (len : Int) ≤ (j : Int)) ∨ (j = 20 ∧ decide ((20 : Int) < (len : Int)) = true ∧ (20 : Int) < (len : Int)) := by
        by_cases h : j < len
        · right; exact ⟨by omega, decide_eq_true (by omega), by omega⟩
        · left; exact ⟨decide_eq_false (by omega), by omega⟩
      have C1 : Hid _ := fun k w => number_any n k w HN.out
      have C2 : Hid _ := fun k w => ref_number_any n k w HN.out
      have C3 : Hid _ := fun w => vary_any n w HN.out
      have C4 : Hid _ := fun w => ref_vary_any n w HN.out
      have C5 : Hid _ := fun w => text_any s4 w (by omega)
      have C6 : Hid _ := fun w => ref_text_any s4 w (by omega)
      generalize numS n = S1 at *
      generalize P.S (P.vary n) = S2 at *
      generalize textS s4 = S3 at *
      clear HR HX HC hlt
      rcases hd with ⟨hd, hd'⟩ | ⟨rfl, hd1, hd2⟩
      all_goals
        go_wp2_with fail
        refine (C1.out _ _).mono ?_; rintro e v1 ⟨rfl, k1⟩
        go_wp2_with fail
        refine (C2.out _ _).mono ?_; rintro e v2 ⟨rfl, k2⟩
        go_wp2_with fail
        refine (C1.out _ _).mono ?_; rintro e v3 ⟨rfl, k3⟩
        go_wp2_with fail
        refine (C2.out _ _).mono ?_; rintro e v4 ⟨rfl, k4⟩
        go_wp2_with fail
        refine (C3.out _).mono ?_; rintro e v5 ⟨rfl, k5⟩
        go_wp2_with fail
        refine (C4.out _).mono ?_; rintro e v6 ⟨rfl, k6⟩
        go_wp2_with fail
        refine (C5.out _).mono ?_; rintro e v7 ⟨rfl, k7⟩
        go_wp2_with fail
        refine (C6.out _).mono ?_; rintro e v8 ⟨rfl, k8⟩
        have H1 := HB.out.trans (k1.mono HB.out.size)
        have H2 := H1.trans (k2.mono H1.size)
        have H3 := H2.trans (k3.mono H2.size)
        have H4 := H3.trans (k4.mono H3.size)
        have H5 := H4.trans (k5.mono H4.size)
        have H6 := H5.trans (k6.mono H5.size)
        have H7 := H6.trans (k7.mono H6.size)
        have H8 := H7.trans (k8.mono H7.size)
        have HH8 : Hid _ := H8
        clear k1 k2 k3 k4 k5 k6 k7 k8 H1 H2 H3 H4 H5 H6 H7 H8
        go_wp2_with fail
        go_ret
        exact ⟨rfl, HH8.out⟩

theorem u64_of (a : Int) (h : (Lit.int .u64 a).wf = true) : ∃ x : Nat, a = (x : Int) ∧ x < 2 ^ 64 := by
  have hx : 0 ≤ a ∧ a ≤ 18446744073709551615 := by simpa [Lit.wf, IntKind.min, IntKind.max, IntKind.signed, IntKind.bits] using h
  exact ⟨a.toNat, by omega, by omega⟩
theorem i64_of (a : Int) (h : (Lit.int .i64 a).wf = true) : -9223372036854775808 ≤ a ∧ a ≤ 9223372036854775807 := by
  simpa [Lit.wf, IntKind.min, IntKind.max, IntKind.signed, IntKind.bits] using h
theorem u8_of (a : Int) (h : (Lit.int .u8 a).wf = true) : 0 ≤ a ∧ a ≤ 255 := by
  simpa [Lit.wf, IntKind.min, IntKind.max, IntKind.signed, IntKind.bits] using h

theorem walk (s0 : ByteArray) (b0 : Bool) (a1 : Option Addr) (len1 cap1 : Nat) (X1 Y1 : Nat → Int) (a2 : Int) (a3 : Int) (a4 : ByteArray) (w0 : s0.size ≤ maxLen) (l1 : len1 ≤ cap1) (m1 : cap1 ≤ maxLen) (w2 : (Lit.int .u64 a2).wf = true) (w3 : (Lit.int .i64 a3).wf = true) (z4 : a4.size ≤ 140737488351232) (w : World) (w1 : IsPairs .u8 .i64 w a1 len1 X1 Y1) :
    Calls Try.prog 3 #[.agg #[.string s0, .bool b0], .slice a1 len1 cap1, .int .u64 a2, .int .i64 a3, .string a4] w fun e w' => e = .returned (.bool true) ∧ Below w.heap.size w w' := by
  obtain ⟨n, rfl, hn⟩ := u64_of a2 w2
  obtain ⟨h1, h2⟩ := i64_of a3 w3
  refine walk_any s0 b0 a1 len1 cap1 X1 Y1 n a3 a4 w0 (Nat.le_trans l1 m1) hn h1 h2 z4 w ?_
  intro i hi
  rcases w1 with h0 | ⟨b, off, rfl, hb, hc⟩
  · omega
  · obtain ⟨c0, c1, g0, g1⟩ := hc i hi
    exact ⟨b, off, rfl, hb, c0, c1, (u8_of _ g0).1, (u8_of _ g0).2, (i64_of _ g1).1, (i64_of _ g1).2⟩

set_option maxRecDepth 100000 in
theorem lifted (os : Os) (started : os.Started) (H : Type) (enc : TypeId × Value → H) :
    ReturnsInHanded {} Try.checked os 3 .any (Rows.packPlaysSpec.pre6 enc Try.prog Try.f3 Rows.packPlaysRow.domain false) (Rows.packPlaysSpec.post enc Try.prog Try.f3 false true false false) := by
  refine returnsInHanded_of_change_sized (C := Try.checked) own started (by kernel_rfl) Try.func3
    (ChangeSpec.witness6 (enc := enc) (C := Try.checked) false ⟨#[], #[.agg #[.string ByteArray.empty, .bool false], .slice none 0 0, .int .u64 0, .int .i64 0, .string ByteArray.empty], []⟩ 8 (by kernel_rfl) (by kernel_rfl) (by kernel_rfl) (by kernel_rfl)) ?_
  intro W base args ds gs before hval0 hW hcnd hsz0 _
  have hval : ∀ (j : Nat) t v, Try.f3.params[j]? = some t → args[j]? = some v → Value.okWide Try.prog W .any base t v := hval0
  have hW' := hW
  obtain ⟨p, q, hA0, hV, rfl, hfz, hnd⟩ := hW
  have hA : DataW.TrodAll enc Try.prog W 0 (fun _ => true) true Try.f3.params.toList args.toList ds p := hA0
  have hsz : (DataW.weightsEach Try.prog (Try.f3.params.toList ++ Rows.packPlaysSpec.plain.varTypes Try.prog) (ds ++ gs)).all (· ≤ reachBytes) = true := hsz0
  rw [Try.params3] at hA hval hsz
  obtain ⟨rfl, rfl⟩ := trodVars_none hV
  have hAk := hA
  have hlt : ∀ x ∈ p, x.block < W.heap.size := fun x hx => by simpa using hW'.lt x (List.mem_append.2 (.inl hx))
  obtain ⟨v0, vs0, d0, ds0, p0, q0, hargs, rfl, rfl, h0, r0⟩ := trodAll_cons hA
  obtain ⟨v1, vs1, d1, ds1, p1, q1, rfl, rfl, rfl, h1, r1⟩ := trodAll_cons r0
  obtain ⟨v2, vs2, d2, ds2, p2, q2, rfl, rfl, rfl, h2, r2⟩ := trodAll_cons r1
  obtain ⟨v3, vs3, d3, ds3, p3, q3, rfl, rfl, rfl, h3, r3⟩ := trodAll_cons r2
  obtain ⟨v4, vs4, d4, ds4, p4, q4, rfl, rfl, rfl, h4, r4⟩ := trodAll_cons r3
  obtain ⟨rfl, rfl, rfl⟩ := trodAll_nil r4
  obtain rfl : args = #[v0, v1, v2, v3, v4] := by cases args; simp_all
  obtain ⟨s0, b0, rfl, w0⟩ := open_text_flag Try.underlying23 (by kernel_rfl) rfl rfl rfl rfl Try.underlying9 Try.underlying4 (by kernel_rfl) (by kernel_rfl) (hval 0 23 v0 rfl rfl) h0
  obtain ⟨a1, len1, cap1, rfl⟩ := okWide_slice Try.underlying24 (hval 1 24 v1 rfl rfl)
  obtain ⟨X1, Y1, w1, l1, m1, u1⟩ := open_pairs Try.underlying24 Try.underlying29 (by kernel_rfl) rfl rfl (by kernel_rfl) (by kernel_rfl) Try.underlying5 Try.underlying3 h1
  obtain ⟨a2, rfl, rfl, rfl, w2⟩ := open_int Try.underlying25 (hval 2 25 v2 rfl rfl) h2
  obtain ⟨a3, rfl, rfl, rfl, w3⟩ := open_int Try.underlying3 (hval 3 3 v3 rfl rfl) h3
  obtain ⟨a4, rfl, rfl, rfl, w4⟩ := open_string Try.underlying9 (hval 4 9 v4 rfl rfl) h4
  have z4 := sized_string hsz (j := 4) (t := 9) rfl rfl
  clear hA0 hval0 hsz0
  refine (walk s0 b0 a1 len1 cap1 X1 Y1 a2 a3 a4 w0 l1 m1 w2 w3 (by rw [Array.length_toList] at z4; exact z4) W w1).mono fun e W' ⟨he, hg⟩ => ?_
  subst he
  exact ⟨_, rfl, _, _, _, [], _, [], hW', (trodAll_cons_mk (shut_bool Try.underlying4 _) trodAll_mk0), trodAll_below laidOut hg _ _ _ _ (by kernel_rfl) hAk hlt, rfl, hg.frame _, fun h => by cases h⟩

theorem over : Rows.packPlaysRow.holds Try.pinned (OpenSpec.ofChange Rows.packPlaysSpec) :=
  OpenClaim.holds_of_wide 3 Try.f3 rfl rfl rfl rfl rfl rfl rfl ⟨rfl, rfl, rfl, rfl, rfl⟩ rfl rfl rfl rfl rfl (by kernel_rfl) Try.func3 (by kernel_rfl)
    (of_decide_eq_true (by kernel_rfl)) (by unfold Func.isWrapper; first | (rw [if_pos (by decide +kernel)]; kernel_rfl) | (rw [if_neg (by decide +kernel)]; exact ⟨rfl, rfl⟩))
    (fun os started H enc _ => lifted os started H enc)

/-- the statement -/
theorem proved : Rows.PackPlaysSaid :=
  over
#print axioms proved
end Go.Proofs.Ytnhglgmjmicaoaa.packPlays
