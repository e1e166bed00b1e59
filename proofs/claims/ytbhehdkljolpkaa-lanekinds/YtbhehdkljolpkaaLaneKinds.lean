/-
  Lanes of different things do not meddle: what is put into one is taken from that alone (the law LaneKinds). No conditions.
-/
import Derived.Test.YtbhehdkljolpkaaFrame
import Derived.Test.YtbhehdkljolpkaaLaneEx
import Derived.Test.YtbhehdkljolpkaaLaneU64
import Derived.Test.YtbhehdkljolpkaaLaneBool
import Derived.Test.YtbhehdkljolpkaaFrameVals
namespace Go.Proofs.Ytbhehdkljolpkaa.laneKinds
open Go.ChangeShapes Go.WideShapes Go.ChangeAt Go.RowKit
open Go.ChangeMaps (open_string shut_string)
set_option linter.unusedVariables false
set_option linter.unusedSimpArgs false

def U (X : Nat → Int) (i : Nat) : Value := .int .u64 (X i)
def F (Y : Nat → Bool) (i : Nat) : Value := .bool (Y i)
def Ls (V : Nat → Value) (i n : Nat) : List Value := (List.range' i n).map V
theorem Ls_len (V : Nat → Value) (i n : Nat) : (Ls V i n).length = n := by simp [Ls]
theorem Ls_snoc (V : Nat → Value) (i n : Nat) : Ls V i n ++ [V (i + n)] = Ls V i (n + 1) := by
  simp [Ls, List.range'_concat]
theorem Ls_cons (V : Nat → Value) (i n : Nat) : Ls V i (n + 1) = V i :: Ls V (i + 1) n := by
  simp [Ls, List.range'_succ]
/-- two lanes beside one another -/
structure Two (w : World) (ba ca bb cb : Nat) (A B : List Value) : Prop where
  a : Ln w ba ca 16 A
  b : Ln w bb cb 16 B
  ne : ca ≠ cb
theorem Two.onA {w w' : World} {ba ca bb cb : Nat} {A B A' : List Value} (h : Two w ba ca bb cb A B) (hl : Ln w' ba ca 16 A') (hu : But ca w w') : Two w' ba ca bb cb A' B :=
  ⟨hl, h.b.but hu (h.a.far h.b.cell) (fun e => h.ne e.symm), h.ne⟩
theorem Two.onB {w w' : World} {ba ca bb cb : Nat} {A B B' : List Value} (h : Two w ba ca bb cb A B) (hl : Ln w' bb cb 16 B') (hu : But cb w w') : Two w' ba ca bb cb A B' :=
  ⟨h.a.but hu (h.b.far h.a.cell) h.ne, hl, h.ne⟩

set_option maxHeartbeats 4000000 in
set_option maxRecDepth 100000 in
theorem walk (a0 : Option Addr) (len0 cap0 : Nat) (X0 : Nat → Int) (a1 : Option Addr) (len1 cap1 : Nat) (X1 : Nat → Bool) (l0 : len0 ≤ cap0) (m0 : cap0 ≤ 9223372036854775807) (l1 : len1 ≤ cap1) (m1 : cap1 ≤ 9223372036854775807) (w : World) (w0 : IsVals (Value.int .u64) w a0 len0 X0) (w1 : IsVals Value.bool w a1 len1 X1) :
    Calls Try.prog 5 #[.slice a0 len0 cap0, .slice a1 len1 cap1] w fun e w' => e = .returned (.bool true) ∧ Below w.heap.size w w' := by
  have HW0 : Hid (IsVals (Value.int .u64) w a0 len0 X0) := w0
  have HW1 : Hid (IsVals Value.bool w a1 len1 X1) := w1
  clear w0 w1
  have C1 : Hid (∀ u, Calls Try.prog 23 #[.int .i64 16] u fun e w' => ∃ b c, e = .returned (.tuple #[.pointer (some ⟨b, 0, none⟩), .int .i64 0]) ∧ u.heap.size ≤ c ∧ u.heap.size ≤ b ∧ Ln w' b c 16 [] ∧ Below u.heap.size u w') := fun u => U64.new_ok 16 (by omega) (by omega) u
  have C2 : Hid (∀ u, Calls Try.prog 24 #[.int .i64 16] u fun e w' => ∃ b c, e = .returned (.tuple #[.pointer (some ⟨b, 0, none⟩), .int .i64 0]) ∧ u.heap.size ≤ c ∧ u.heap.size ≤ b ∧ Ln w' b c 16 [] ∧ Below u.heap.size u w') := fun u => Bool.new_ok 16 (by omega) (by omega) u
  go_enter Try.func5, Try.ntmps5
  go_wp2_with fail
  refine (examples_any _).mono ?_; rintro e w1 ⟨rfl, hb1⟩
  go_wp2_with fail
  refine (C1.out w1).mono ?_
  rintro e w2 ⟨ba, ca, rfl, hc, hb, hL, hb2⟩
  have HB2 : Hid (Below w.heap.size w w2) := hb1.trans (hb2.mono hb1.size)
  have HC : Hid (w.heap.size ≤ ca) := Nat.le_trans hb1.size hc
  have HL : Hid (Ln w2 ba ca 16 []) := hL
  clear hb1 hc hb hL hb2 C1
  go_wp2_with fail
  refine (C2.out w2).mono ?_
  rintro e w3 ⟨bb, cb, rfl, hc, hb, hL, hb3⟩
  have HB3 : Hid (Below w.heap.size w w3) := HB2.out.trans (hb3.mono HB2.out.size)
  have HD : Hid (w.heap.size ≤ cb) := Nat.le_trans HB2.out.size hc
  have HT : Hid (Two w3 ba ca bb cb [] []) := ⟨HL.out.below hb3 HL.out.blt HL.out.lt, hL, by have := HL.out.lt; omega⟩
  clear hc hb hL hb3 C2 HL HB2
  go_wp2_with fail
  go_loopw [10] (fun iv wr => ∃ j : Nat, j ≤ 16 ∧ iv = .int .i64 j ∧ Hid (Two wr ba ca bb cb (Ls (U X0) 0 (min j len0)) (Ls (F X1) 0 (min j len1))) ∧ Hid (Below w.heap.size w wr)) (fun iv _ => 17 - (intOf iv).toNat)
  case atStart => exact ⟨0, Nat.zero_le _, rfl, by rw [Nat.zero_min, Nat.zero_min]; exact HT, HB3⟩
  case round =>
    obtain ⟨j, hj, rfl, hT, hB⟩ := hrel
    by_cases hj16 : j < 16
    · by_cases hja : j < len0
      · obtain ⟨b0, off0, rfl, hcell⟩ := (HW0.out.below hB.out).at j hja
        have ka : decide ((j : Int) < (len0 : Int)) = true := decide_eq_true (by omega)
        go_wp2_with fail
        refine (U64.put_ok _ hT.out.a (by rw [Ls_len]; omega)).mono ?_
        rintro e w4 ⟨rfl, hL4, hB4⟩
        have hT4 : Hid (Two w4 ba ca bb cb (Ls (U X0) 0 (min (j + 1) len0)) (Ls (F X1) 0 (min j len1))) := by
          refine hT.out.onA ?_ hB4
          rw [show min (j + 1) len0 = j + 1 by omega, ← Ls_snoc, Nat.zero_add]
          rw [show min j len0 = j by omega] at hL4
          exact hL4
        have hB5 : Hid (Below w.heap.size w w4) := hB.out.trans (hB4.below HC.out hB.out.size)
        clear hL4 hB4 hcell hT hB ka
        by_cases hjb : j < len1
        · obtain ⟨b1, off1, rfl, hcell⟩ := (HW1.out.below hB5.out).at j hjb
          have kb : decide ((j : Int) < (len1 : Int)) = true := decide_eq_true (by omega)
          go_wp2_with fail
          refine (Bool.put_ok _ hT4.out.b (by rw [Ls_len]; omega)).mono ?_
          rintro e w6 ⟨rfl, hL6, hB6⟩
          have hT6 : Hid (Two w6 ba ca bb cb (Ls (U X0) 0 (min (j + 1) len0)) (Ls (F X1) 0 (min (j + 1) len1))) := by
            refine hT4.out.onB ?_ hB6
            rw [show min (j + 1) len1 = j + 1 by omega, ← Ls_snoc, Nat.zero_add]
            rw [show min j len1 = j by omega] at hL6
            exact hL6
          have hB7 : Hid (Below w.heap.size w w6) := hB5.out.trans (hB6.below HD.out hB5.out.size)
          clear hL6 hB6 hcell hT4 hB5 kb
          go_wp2_with fail
          go_roundw
          case rel => exact ⟨j + 1, by omega, by go_num, hT6, hB7⟩
          case measure => simp [intOf]; omega
        · have kb : decide ((j : Int) < (len1 : Int)) = false := decide_eq_false (by omega)
          have hT6 : Hid (Two w4 ba ca bb cb (Ls (U X0) 0 (min (j + 1) len0)) (Ls (F X1) 0 (min (j + 1) len1))) := by
            rw [show min (j + 1) len1 = min j len1 by omega]; exact hT4
          clear hT4
          go_wp2_with fail
          go_roundw
          case rel => exact ⟨j + 1, by omega, by go_num, hT6, hB5⟩
          case measure => simp [intOf]; omega
      · have ka : decide ((j : Int) < (len0 : Int)) = false := decide_eq_false (by omega)
        obtain ⟨w4, rfl⟩ : ∃ u, u = wr := ⟨_, rfl⟩
        have hT4 : Hid (Two w4 ba ca bb cb (Ls (U X0) 0 (min (j + 1) len0)) (Ls (F X1) 0 (min j len1))) := by
          rw [show min (j + 1) len0 = min j len0 by omega]; exact hT
        have hB5 : Hid (Below w.heap.size w w4) := hB
        clear hT hB
        by_cases hjb : j < len1
        · obtain ⟨b1, off1, rfl, hcell⟩ := (HW1.out.below hB5.out).at j hjb
          have kb : decide ((j : Int) < (len1 : Int)) = true := decide_eq_true (by omega)
          go_wp2_with fail
          refine (Bool.put_ok _ hT4.out.b (by rw [Ls_len]; omega)).mono ?_
          rintro e w6 ⟨rfl, hL6, hB6⟩
          have hT6 : Hid (Two w6 ba ca bb cb (Ls (U X0) 0 (min (j + 1) len0)) (Ls (F X1) 0 (min (j + 1) len1))) := by
            refine hT4.out.onB ?_ hB6
            rw [show min (j + 1) len1 = j + 1 by omega, ← Ls_snoc, Nat.zero_add]
            rw [show min j len1 = j by omega] at hL6
            exact hL6
          have hB7 : Hid (Below w.heap.size w w6) := hB5.out.trans (hB6.below HD.out hB5.out.size)
          clear hL6 hB6 hcell hT4 hB5 kb
          go_wp2_with fail
          go_roundw
          case rel => exact ⟨j + 1, by omega, by go_num, hT6, hB7⟩
          case measure => simp [intOf]; omega
        · have kb : decide ((j : Int) < (len1 : Int)) = false := decide_eq_false (by omega)
          have hT6 : Hid (Two w4 ba ca bb cb (Ls (U X0) 0 (min (j + 1) len0)) (Ls (F X1) 0 (min (j + 1) len1))) := by
            rw [show min (j + 1) len1 = min j len1 by omega]; exact hT4
          clear hT4
          go_wp2_with fail
          go_roundw
          case rel => exact ⟨j + 1, by omega, by go_num, hT6, hB5⟩
          case measure => simp [intOf]; omega
    · obtain ⟨j0, hj0⟩ : ∃ j0, j0 = j := ⟨_, rfl⟩
      have e16 : j = 16 := by omega
      rw [e16] at hT
      rw [← hj0] at e16 ⊢
      have HJ : Hid (j0 = 16) := e16
      have k16 : decide ((j0 : Int) < 16) = false := decide_eq_false (by omega)
      clear hj0 e16 hj hj16
      obtain ⟨NA, hNA⟩ : ∃ n, n = min 16 len0 := ⟨_, rfl⟩
      obtain ⟨NB, hNB⟩ : ∃ n, n = min 16 len1 := ⟨_, rfl⟩
      rw [← hNA, ← hNB] at hT
      have HNA : Hid (NA = min 16 len0) := hNA
      have HNB : Hid (NB = min 16 len1) := hNB
      clear hNA hNB
      go_wp2_with fail
      clear k16
      go_loopw [11] (fun iv wr => ∃ j : Nat, j ≤ 17 ∧ iv = .int .i64 j ∧ Hid (Two wr ba ca bb cb (Ls (U X0) j (NA - j)) (Ls (F X1) j (NB - j))) ∧ Hid (Below w.heap.size w wr)) (fun iv _ => 18 - (intOf iv).toNat)
      case atStart => exact ⟨0, Nat.zero_le _, rfl, hT, hB⟩
      case round =>
        clear hT hB
        obtain ⟨j, hj, rfl, hT, hB⟩ := hrel
        by_cases hj17 : j < 17
        · rcases Nat.lt_or_ge j 16 with hj16 | hj16
          · by_cases hja : j < NA
            · obtain ⟨b0, off0, rfl, hcell0⟩ := (HW0.out.below hB.out).at j (by have := HNA.out; omega)
              have HCE0 : Hid (wr.cell? ⟨b0, off0 + j, none⟩ = some (.int .u64 (X0 j))) := hcell0
              clear hcell0
              have hA : Hid (Ln wr ba ca 16 (U X0 j :: Ls (U X0) (j + 1) (NA - (j + 1)))) := by
                have := hT.out.a
                rw [show NA - j = (NA - (j + 1)) + 1 by omega, Ls_cons] at this
                exact this
              go_wp2_with fail
              refine (U64.take_ok hA.out).mono ?_
              rintro e w4 ⟨rfl, hL4, hB4⟩
              have hT4 : Hid (Two w4 ba ca bb cb (Ls (U X0) (j + 1) (NA - (j + 1))) (Ls (F X1) j (NB - j))) := hT.out.onA hL4 hB4
              have HCE1 : Hid (w4.cell? ⟨b0, off0 + j, none⟩ = some (.int .u64 (X0 j))) := hB4.keep hA.out HCE0.out
              have hB5 : Hid (Below w.heap.size w w4) := hB.out.trans (hB4.below HC.out hB.out.size)
              clear hL4 hB4 hA hT hB HCE0
              simp only [U]
              by_cases hjb : j < NB
              · obtain ⟨b1, off1, rfl, hcell1⟩ := (HW1.out.below hB5.out).at j (by have := HNB.out; omega)
                have HCE2 : Hid (w4.cell? ⟨b1, off1 + j, none⟩ = some (.bool (X1 j))) := hcell1
                clear hcell1
                have hA : Hid (Ln w4 bb cb 16 (F X1 j :: Ls (F X1) (j + 1) (NB - (j + 1)))) := by
                  have := hT4.out.b
                  rw [show NB - j = (NB - (j + 1)) + 1 by omega, Ls_cons] at this
                  exact this
                go_wp2_with fail
                refine (Bool.take_ok hA.out).mono ?_
                rintro e w6 ⟨rfl, hL6, hB6⟩
                have hT6 : Hid (Two w6 ba ca bb cb (Ls (U X0) (j + 1) (NA - (j + 1))) (Ls (F X1) (j + 1) (NB - (j + 1)))) := hT4.out.onB hL6 hB6
                have hcb := hB6.keep hA.out HCE2.out
                have hB7 : Hid (Below w.heap.size w w6) := hB5.out.trans (hB6.below HD.out hB5.out.size)
                have hca := hB6.keep hA.out HCE1.out
                clear HCE1
                clear hL6 hB6 hA hT4 hB5 HCE2
                simp only [F]
                have ka : j < len0 := by have := HNA.out; omega
                have kb : j < len1 := by have := HNB.out; omega
                go_wp2_with fail
                go_roundw
                case rel => exact ⟨j + 1, by omega, by go_num, hT6, hB7⟩
                case measure => simp [intOf]; omega
              · have hA : Hid (Ln w4 bb cb 16 []) := by
                  have := hT4.out.b
                  rw [show NB - j = 0 by omega] at this
                  exact this
                go_wp2_with fail
                refine (Bool.take_no hA.out).mono ?_
                rintro e w6 ⟨rfl, rfl⟩
                have hT6 : Hid (Two w6 ba ca bb cb (Ls (U X0) (j + 1) (NA - (j + 1))) (Ls (F X1) (j + 1) (NB - (j + 1)))) := by
                  have := hT4.out
                  rw [show NB - j = 0 by omega] at this
                  rw [show NB - (j + 1) = 0 by omega]
                  exact this
                have hB7 : Hid (Below w.heap.size w w6) := hB5
                have hca := HCE1.out
                clear HCE1
                clear hA hT4 hB5
                have ka : j < len0 := by have := HNA.out; omega
                have kb : len1 ≤ j := by have := HNB.out; omega
                go_wp2_with fail
                go_roundw
                case rel => exact ⟨j + 1, by omega, by go_num, hT6, hB7⟩
                case measure => simp [intOf]; omega
            · have hA : Hid (Ln wr ba ca 16 []) := by
                have := hT.out.a
                rw [show NA - j = 0 by omega] at this
                exact this
              go_wp2_with fail
              refine (U64.take_no hA.out).mono ?_
              rintro e w4 ⟨rfl, rfl⟩
              have hT4 : Hid (Two w4 ba ca bb cb (Ls (U X0) (j + 1) (NA - (j + 1))) (Ls (F X1) j (NB - j))) := by
                have := hT.out
                rw [show NA - j = 0 by omega] at this
                rw [show NA - (j + 1) = 0 by omega]
                exact this
              have hB5 : Hid (Below w.heap.size w w4) := hB
              clear hA hT hB
              by_cases hjb : j < NB
              · obtain ⟨b1, off1, rfl, hcell1⟩ := (HW1.out.below hB5.out).at j (by have := HNB.out; omega)
                have HCE2 : Hid (w4.cell? ⟨b1, off1 + j, none⟩ = some (.bool (X1 j))) := hcell1
                clear hcell1
                have hA : Hid (Ln w4 bb cb 16 (F X1 j :: Ls (F X1) (j + 1) (NB - (j + 1)))) := by
                  have := hT4.out.b
                  rw [show NB - j = (NB - (j + 1)) + 1 by omega, Ls_cons] at this
                  exact this
                go_wp2_with fail
                refine (Bool.take_ok hA.out).mono ?_
                rintro e w6 ⟨rfl, hL6, hB6⟩
                have hT6 : Hid (Two w6 ba ca bb cb (Ls (U X0) (j + 1) (NA - (j + 1))) (Ls (F X1) (j + 1) (NB - (j + 1)))) := hT4.out.onB hL6 hB6
                have hcb := hB6.keep hA.out HCE2.out
                have hB7 : Hid (Below w.heap.size w w6) := hB5.out.trans (hB6.below HD.out hB5.out.size)
                clear hL6 hB6 hA hT4 hB5 HCE2
                simp only [F]
                have ka : len0 ≤ j := by have := HNA.out; omega
                have kb : j < len1 := by have := HNB.out; omega
                go_wp2_with fail
                go_roundw
                case rel => exact ⟨j + 1, by omega, by go_num, hT6, hB7⟩
                case measure => simp [intOf]; omega
              · have hA : Hid (Ln w4 bb cb 16 []) := by
                  have := hT4.out.b
                  rw [show NB - j = 0 by omega] at this
                  exact this
                go_wp2_with fail
                refine (Bool.take_no hA.out).mono ?_
                rintro e w6 ⟨rfl, rfl⟩
                have hT6 : Hid (Two w6 ba ca bb cb (Ls (U X0) (j + 1) (NA - (j + 1))) (Ls (F X1) (j + 1) (NB - (j + 1)))) := by
                  have := hT4.out
                  rw [show NB - j = 0 by omega] at this
                  rw [show NB - (j + 1) = 0 by omega]
                  exact this
                have hB7 : Hid (Below w.heap.size w w6) := hB5
                clear hA hT4 hB5
                have ka : len0 ≤ j := by have := HNA.out; omega
                have kb : len1 ≤ j := by have := HNB.out; omega
                go_wp2_with fail
                go_roundw
                case rel => exact ⟨j + 1, by omega, by go_num, hT6, hB7⟩
                case measure => simp [intOf]; omega
          · obtain rfl : j = 16 := by omega
            have hja : ¬ 16 < NA := by have := HNA.out; omega
            have hjb : ¬ 16 < NB := by have := HNB.out; omega
            have hA : Hid (Ln wr ba ca 16 []) := by
              have := hT.out.a
              rw [show NA - 16 = 0 by omega] at this
              exact this
            go_wp2_with fail
            refine (U64.take_no hA.out).mono ?_
            rintro e w4 ⟨rfl, rfl⟩
            have hT4 : Hid (Two w4 ba ca bb cb (Ls (U X0) (16 + 1) (NA - (16 + 1))) (Ls (F X1) 16 (NB - 16))) := by
              have := hT.out
              rw [show NA - 16 = 0 by omega] at this
              rw [show NA - (16 + 1) = 0 by omega]
              exact this
            have hB5 : Hid (Below w.heap.size w w4) := hB
            clear hA hT hB
            have hA : Hid (Ln w4 bb cb 16 []) := by
              have := hT4.out.b
              rw [show NB - 16 = 0 by omega] at this
              exact this
            go_wp2_with fail
            refine (Bool.take_no hA.out).mono ?_
            rintro e w6 ⟨rfl, rfl⟩
            have hT6 : Hid (Two w6 ba ca bb cb (Ls (U X0) (16 + 1) (NA - (16 + 1))) (Ls (F X1) (16 + 1) (NB - (16 + 1)))) := by
              have := hT4.out
              rw [show NB - 16 = 0 by omega] at this
              rw [show NB - (16 + 1) = 0 by omega]
              exact this
            have hB7 : Hid (Below w.heap.size w w6) := hB5
            clear hA hT4 hB5
            go_wp2_with fail
            all_goals
              go_roundw
              case rel => exact ⟨17, by omega, rfl, hT6, hB7⟩
              case measure => simp [intOf]
        · go_wp2_with fail
          go_ret
          exact ⟨rfl, hB.out⟩

set_option maxRecDepth 100000 in
theorem lifted (os : Os) (started : os.Started) (H : Type) (enc : TypeId × Value → H) :
    ReturnsInHanded {} Try.checked os 5 .any (Rows.laneKindsSpec.pre6 enc Try.prog Try.f5 Rows.laneKindsRow.domain false) (Rows.laneKindsSpec.post enc Try.prog Try.f5 false true false false) := by
  refine returnsInHanded_of_change_sized (C := Try.checked) own started (by kernel_rfl) Try.func5
    (ChangeSpec.witness6 (enc := enc) (C := Try.checked) false ⟨#[], #[.slice none 0 0, .slice none 0 0], []⟩ 8 (by kernel_rfl) (by kernel_rfl) (by kernel_rfl) (by kernel_rfl)) ?_
  intro W base args ds gs before hval0 hW hcnd hsz0 _
  have hval : ∀ (j : Nat) t v, Try.f5.params[j]? = some t → args[j]? = some v → Value.okWide Try.prog W .any base t v := hval0
  have hW' := hW
  obtain ⟨p, q, hA0, hV, rfl, hfz, hnd⟩ := hW
  have hA : DataW.TrodAll enc Try.prog W 0 (fun _ => true) true Try.f5.params.toList args.toList ds p := hA0
  have hsz : (DataW.weightsEach Try.prog (Try.f5.params.toList ++ Rows.laneKindsSpec.plain.varTypes Try.prog) (ds ++ gs)).all (· ≤ reachBytes) = true := hsz0
  rw [Try.params5] at hA hval hsz
  obtain ⟨rfl, rfl⟩ := trodVars_none hV
  have hAk := hA
  have hlt : ∀ x ∈ p, x.block < W.heap.size := fun x hx => by simpa using hW'.lt x (List.mem_append.2 (.inl hx))
  obtain ⟨v0, vs0, d0, ds0, p0, q0, hargs, rfl, rfl, h0, r0⟩ := trodAll_cons hA
  obtain ⟨v1, vs1, d1, ds1, p1, q1, rfl, rfl, rfl, h1, r1⟩ := trodAll_cons r0
  obtain ⟨rfl, rfl, rfl⟩ := trodAll_nil r1
  obtain rfl : args = #[v0, v1] := by cases args; simp_all
  obtain ⟨a0, len0, cap0, rfl⟩ := okWide_slice Try.underlying51 (hval 0 51 v0 rfl rfl)
  obtain ⟨X0, w0, l0, m0⟩ := open_ints1 Try.underlying51 Try.underlying56 (by kernel_rfl) h0
  obtain ⟨a1, len1, cap1, rfl⟩ := okWide_slice Try.underlying52 (hval 1 52 v1 rfl rfl)
  obtain ⟨X1, w1, l1, m1⟩ := open_bools1 Try.underlying52 Try.underlying4 (by kernel_rfl) h1
  clear hA0 hval0 hsz0
  refine (walk a0 len0 cap0 X0 a1 len1 cap1 X1 l0 m0 l1 m1 W w0 w1).mono fun e W' ⟨he, hg⟩ => ?_
  subst he
  exact ⟨_, rfl, _, _, _, [], _, [], hW', (trodAll_cons_mk (shut_bool Try.underlying4 _) trodAll_mk0), trodAll_below laidOut hg _ _ _ _ (by kernel_rfl) hAk hlt, rfl, hg.frame _, fun h => by cases h⟩

theorem over : Rows.laneKindsRow.holds Try.pinned (OpenSpec.ofChange Rows.laneKindsSpec) :=
  OpenClaim.holds_of_wide 5 Try.f5 rfl rfl rfl rfl rfl rfl rfl ⟨rfl, rfl, rfl, rfl, rfl⟩ rfl rfl rfl rfl rfl (by kernel_rfl) Try.func5 (by kernel_rfl)
    (of_decide_eq_true (by kernel_rfl)) (by unfold Func.isWrapper; first | (rw [if_pos (by decide +kernel)]; kernel_rfl) | (rw [if_neg (by decide +kernel)]; exact ⟨rfl, rfl⟩))
    (fun os started H enc _ => lifted os started H enc)

/-- the statement -/
theorem proved : Rows.LaneKindsSaid :=
  over
#print axioms proved
end Go.Proofs.Ytbhehdkljolpkaa.laneKinds
