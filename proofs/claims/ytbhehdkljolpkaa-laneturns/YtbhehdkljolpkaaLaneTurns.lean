/-
  Taken and put again as often as there are things, a lane is as it was; a lane that is full lets one in behind each that goes (the law LaneTurns). No conditions.
-/
import Derived.Test.YtbhehdkljolpkaaFrame
import Derived.Test.YtbhehdkljolpkaaLaneEx
import Derived.Test.YtbhehdkljolpkaaLaneU16
import Derived.Test.YtbhehdkljolpkaaFrameVals
namespace Go.Proofs.Ytbhehdkljolpkaa.laneTurns
open Go.ChangeShapes Go.WideShapes Go.ChangeAt Go.RowKit
open Go.ChangeMaps (open_string shut_string)
set_option linter.unusedVariables false
set_option linter.unusedSimpArgs false

def V (X : Nat → Int) (i : Nat) : Value := .int .u16 (X i)
def Vs (X : Nat → Int) (i n : Nat) : List Value := (List.range' i n).map (V X)
theorem Vs_len (X : Nat → Int) (i n : Nat) : (Vs X i n).length = n := by simp [Vs]
theorem Vs_snoc (X : Nat → Int) (i n : Nat) : Vs X i n ++ [V X (i + n)] = Vs X i (n + 1) := by
  simp [Vs, List.range'_concat]
theorem Vs_cons (X : Nat → Int) (i n : Nat) : Vs X i (n + 1) = V X i :: Vs X (i + 1) n := by
  simp [Vs, List.range'_succ]

set_option maxHeartbeats 4000000 in
set_option maxRecDepth 100000 in
theorem walk (a0 : Int) (a1 : Option Addr) (len1 cap1 : Nat) (X1 : Nat → Int) (w0 : (Lit.int .u8 a0).wf = true) (l1 : len1 ≤ cap1) (m1 : cap1 ≤ 9223372036854775807) (w : World) (w1 : IsVals (Value.int .u16) w a1 len1 X1) :
    Calls Try.prog 6 #[.int .u8 a0, .slice a1 len1 cap1] w fun e w' => e = .returned (.bool true) ∧ Below w.heap.size w w' := by
  have h0 : 0 ≤ a0 ∧ a0 ≤ 255 := by simpa [Lit.wf, IntKind.min, IntKind.max, IntKind.signed, IntKind.bits] using w0
  obtain ⟨r, rfl, hr⟩ : ∃ r : Nat, a0 = (r : Int) ∧ r < 256 := ⟨a0.toNat, by omega, by omega⟩
  clear w0 h0
  have HW : Hid (IsVals (Value.int .u16) w a1 len1 X1) := w1
  clear w1
  go_enter Try.func6, Try.ntmps6
  go_wp2_with fail
  refine (examples_any _).mono ?_; rintro e w1 ⟨rfl, hb1⟩
  go_wp2_with fail
  rw [show (1 + (r : Int) % 16) = ((1 + r % 16 : Nat) : Int) by omega]
  obtain ⟨k, hk, k1, k2⟩ : ∃ k, k = 1 + r % 16 ∧ 1 ≤ k ∧ k ≤ 16 := ⟨_, rfl, by omega, by omega⟩
  rw [← hk]
  clear hk hr
  refine (U16.new_ok k k1 k2 w1).mono ?_
  rintro e w2 ⟨b, c, rfl, hc, hb, hL, hb2⟩
  have HB2 : Hid (Below w.heap.size w w2) := hb1.trans (hb2.mono hb1.size)
  have HC : Hid (w.heap.size ≤ c) := Nat.le_trans hb1.size hc
  have HL : Hid (Ln w2 b c k []) := hL
  clear hb1 hc hb hL hb2
  go_wp2_with fail
  obtain ⟨N, hN⟩ : ∃ N, N = min len1 k := ⟨_, rfl⟩
  have hN1 : N ≤ len1 := by omega
  have hN2 : N ≤ k := by omega
  have HN : Hid (N = min len1 k) := hN
  clear hN
  go_loopw [9, 10] (fun nv iv wr => ∃ j : Nat, j ≤ N ∧ nv = .int .i64 j ∧ iv = .int .i64 j ∧ Hid (Ln wr b c k (Vs X1 0 j)) ∧ Hid (Below w.heap.size w wr)) (fun _ iv _ => N + 1 - (intOf iv).toNat)
  case atStart => exact ⟨0, Nat.zero_le _, rfl, rfl, HL, HB2⟩
  case round =>
    obtain ⟨j, hj, rfl, rfl, hL, hB⟩ := hrel
    by_cases hjN : j < N
    · obtain ⟨b0, off, rfl, hcell⟩ := (HW.out.below hB.out).at j (by omega)
      have k3 : decide ((j : Int) < (len1 : Int)) = true := by simp; omega
      have k4 : decide ((j : Int) < (k : Int)) = true := by simp; omega
      go_wp2_with fail
      refine (U16.put_ok _ hL.out (by rw [Vs_len]; omega)).mono ?_
      rintro e w3 ⟨rfl, hL3, hB3⟩
      have hL4 : Hid (Ln w3 b c k (Vs X1 0 (j + 1))) := by rw [← Vs_snoc, Nat.zero_add]; exact hL3
      have hB4 : Hid (Below w.heap.size w w3) := hB.out.trans (hB3.below HC.out hB.out.size)
      clear hL3 hB3 hcell k3 k4 hL hB
      go_wp2_with fail
      go_roundw
      case rel => exact ⟨j + 1, by omega, by go_num, by go_num, hL4, hB4⟩
      case measure => simp [intOf]; omega
    · obtain rfl : N = j := by omega
      by_cases hd : N < len1
      · obtain rfl : N = k := by have := HN.out; omega
        have k3 : decide ((N : Int) < (len1 : Int)) = true := decide_eq_true (by omega)
        go_wp2_with fail
        clear k3
        go_loopw [11] (fun iv wr => ∃ j : Nat, j ≤ N ∧ iv = .int .i64 j ∧ Hid (Ln wr b c N (Vs X1 j (N - j) ++ Vs X1 0 j)) ∧ Hid (Below w.heap.size w wr)) (fun iv _ => N + 1 - (intOf iv).toNat)
        case atStart => exact ⟨0, Nat.zero_le _, rfl, by rw [Nat.sub_zero]; simpa [Vs] using hL, hB⟩
        case round =>
          clear hL hB
          obtain ⟨j, hj, rfl, hL, hB⟩ := hrel
          by_cases hjN : j < N
          · obtain ⟨b0, off, rfl, hcell⟩ := (HW.out.below hB.out).at j (by omega)
            have hL0 : Hid (Ln wr b c N (V X1 j :: (Vs X1 (j + 1) (N - (j + 1)) ++ Vs X1 0 j))) := by
              have := hL.out
              rw [show N - j = (N - (j + 1)) + 1 by omega, Vs_cons] at this
              exact this
            have HCE : Hid (wr.cell? ⟨b0, off + j, none⟩ = some (.int .u16 (X1 j))) := hcell
            clear hL hcell
            go_wp2_with fail
            refine (U16.take_ok hL0.out).mono ?_
            rintro e w3 ⟨rfl, hL3, hB3⟩
            have hcell := hB3.keep hL0.out HCE.out
            have hB4 : Hid (Below w.heap.size w w3) := hB.out.trans (hB3.below HC.out hB.out.size)
            have hL4 : Hid _ := hL3
            clear hL3 hB3 hL0 hB HCE
            simp only [V]
            have k5 : decide ((j : Int) < (len1 : Int)) = true := decide_eq_true (by omega)
            go_wp2_with fail
            refine (U16.put_ok _ hL4.out (by simp [Vs_len]; omega)).mono ?_
            rintro e w5 ⟨rfl, hL5, hB5⟩
            have hL6 : Hid (Ln w5 b c N (Vs X1 (j + 1) (N - (j + 1)) ++ Vs X1 0 (j + 1))) := by
              rw [← Vs_snoc, Nat.zero_add, ← List.append_assoc]; exact hL5
            have hB6 : Hid (Below w.heap.size w w5) := hB4.out.trans (hB5.below HC.out hB4.out.size)
            clear hL5 hB5 hL4 hB4 hcell
            go_wp2_with fail
            refine (U16.len_ok hL6.out).mono ?_
            rintro e w7 ⟨rfl, rfl⟩
            have el : (Vs X1 (j + 1) (N - (j + 1)) ++ Vs X1 0 (j + 1)).length = N := by simp [Vs_len]; omega
            rw [el]
            clear el
            go_wp2_with fail
            go_roundw
            case rel => refine ⟨j + 1, by omega, ?_⟩; exact ⟨by go_num, hL6, hB6⟩
            case measure => simp [intOf]; omega
          · obtain rfl : j = N := by omega
            rw [Nat.sub_self] at hL
            have hL0 : Hid (Ln wr b c j (Vs X1 0 j)) := by simpa [Vs] using hL
            clear hL
            skip
            go_wp2_with fail
            refine (U16.put_no _ hL0.out (by rw [Vs_len]; omega)).mono ?_
            rintro e w3 ⟨rfl, rfl⟩
            go_wp2_with fail
            obtain ⟨m, rfl⟩ : ∃ m, j = m + 1 := ⟨j - 1, by omega⟩
            have hL1 : Hid (Ln w3 b c (m + 1) (V X1 0 :: Vs X1 1 m)) := by rw [← Vs_cons]; exact hL0.out
            obtain ⟨b0, off, rfl, hcell⟩ := (HW.out.below hB.out).at 0 (by omega)
            have HCE : Hid (w3.cell? ⟨b0, off + 0, none⟩ = some (.int .u16 (X1 0))) := hcell
            clear hcell hL0
            refine (U16.take_ok hL1.out).mono ?_
            rintro e w4 ⟨rfl, hL4, hB4⟩
            have hcell := hB4.keep hL1.out HCE.out
            rw [Nat.add_zero] at hcell
            have hB5 : Hid (Below w.heap.size w w4) := hB.out.trans (hB4.below HC.out hB.out.size)
            have hL5 : Hid _ := hL4
            clear hL4 hB4 HCE hB hL1
            simp only [V]
            have k6 : decide ((0 : Int) < (len1 : Int)) = true := decide_eq_true (by omega)
            go_wp2_with fail
            refine (U16.room_ok hL5.out).mono ?_
            rintro e w5 ⟨rfl, rfl⟩
            go_wp2_with fail
            go_ret
            exact ⟨by simp, hB5.out⟩
      · have k3 : decide ((N : Int) < (len1 : Int)) = false := by simp; omega
        go_wp2_with fail
        clear k3
        go_loopw [11] (fun iv wr => ∃ j : Nat, j ≤ N ∧ iv = .int .i64 j ∧ Hid (Ln wr b c k (Vs X1 j (N - j) ++ Vs X1 0 j)) ∧ Hid (Below w.heap.size w wr)) (fun iv _ => N + 1 - (intOf iv).toNat)
        case atStart => exact ⟨0, Nat.zero_le _, rfl, by rw [Nat.sub_zero]; simpa [Vs] using hL, hB⟩
        case round =>
          clear hL hB
          obtain ⟨j, hj, rfl, hL, hB⟩ := hrel
          by_cases hjN : j < N
          · obtain ⟨b0, off, rfl, hcell⟩ := (HW.out.below hB.out).at j (by omega)
            have hL0 : Hid (Ln wr b c k (V X1 j :: (Vs X1 (j + 1) (N - (j + 1)) ++ Vs X1 0 j))) := by
              have := hL.out
              rw [show N - j = (N - (j + 1)) + 1 by omega, Vs_cons] at this
              exact this
            have HCE : Hid (wr.cell? ⟨b0, off + j, none⟩ = some (.int .u16 (X1 j))) := hcell
            clear hL hcell
            go_wp2_with fail
            refine (U16.take_ok hL0.out).mono ?_
            rintro e w3 ⟨rfl, hL3, hB3⟩
            have hcell := hB3.keep hL0.out HCE.out
            have hB4 : Hid (Below w.heap.size w w3) := hB.out.trans (hB3.below HC.out hB.out.size)
            have hL4 : Hid _ := hL3
            clear hL3 hB3 hL0 hB HCE
            simp only [V]
            have k5 : decide ((j : Int) < (len1 : Int)) = true := decide_eq_true (by omega)
            go_wp2_with fail
            refine (U16.put_ok _ hL4.out (by simp [Vs_len]; omega)).mono ?_
            rintro e w5 ⟨rfl, hL5, hB5⟩
            have hL6 : Hid (Ln w5 b c k (Vs X1 (j + 1) (N - (j + 1)) ++ Vs X1 0 (j + 1))) := by
              rw [← Vs_snoc, Nat.zero_add, ← List.append_assoc]; exact hL5
            have hB6 : Hid (Below w.heap.size w w5) := hB4.out.trans (hB5.below HC.out hB4.out.size)
            clear hL5 hB5 hL4 hB4 hcell
            go_wp2_with fail
            refine (U16.len_ok hL6.out).mono ?_
            rintro e w7 ⟨rfl, rfl⟩
            have el : (Vs X1 (j + 1) (N - (j + 1)) ++ Vs X1 0 (j + 1)).length = N := by simp [Vs_len]; omega
            rw [el]
            clear el
            go_wp2_with fail
            go_roundw
            case rel => refine ⟨j + 1, by omega, ?_⟩; exact ⟨by go_num, hL6, hB6⟩
            case measure => simp [intOf]; omega
          · obtain rfl : j = N := by omega
            rw [Nat.sub_self] at hL
            have hL0 : Hid (Ln wr b c k (Vs X1 0 j)) := by simpa [Vs] using hL
            clear hL
            have hx1 : j < k → j = len1 := fun h => by have := HN.out; omega
            have HX1 : Hid _ := hx1
            clear hx1
            by_cases hf : j = k
            · subst hf
              go_wp2_with fail
              refine (U16.put_no _ hL0.out (by rw [Vs_len]; omega)).mono ?_
              rintro e w3 ⟨rfl, rfl⟩
              go_wp2_with fail
              obtain ⟨m, rfl⟩ : ∃ m, j = m + 1 := ⟨j - 1, by omega⟩
              have hL1 : Hid (Ln w3 b c (m + 1) (V X1 0 :: Vs X1 1 m)) := by rw [← Vs_cons]; exact hL0.out
              obtain ⟨b0, off, rfl, hcell⟩ := (HW.out.below hB.out).at 0 (by omega)
              have HCE : Hid (w3.cell? ⟨b0, off + 0, none⟩ = some (.int .u16 (X1 0))) := hcell
              clear hcell hL0
              refine (U16.take_ok hL1.out).mono ?_
              rintro e w4 ⟨rfl, hL4, hB4⟩
              have hcell := hB4.keep hL1.out HCE.out
              rw [Nat.add_zero] at hcell
              have hB5 : Hid (Below w.heap.size w w4) := hB.out.trans (hB4.below HC.out hB.out.size)
              have hL5 : Hid _ := hL4
              clear hL4 hB4 HCE hB hL1
              simp only [V]
              have k6 : decide ((0 : Int) < (len1 : Int)) = true := decide_eq_true (by omega)
              go_wp2_with fail
              refine (U16.room_ok hL5.out).mono ?_
              rintro e w5 ⟨rfl, rfl⟩
              go_wp2_with fail
              go_ret
              exact ⟨by simp, hB5.out⟩
            · have hf1 : ((j : Int) == (k : Int)) = false := by rw [beq_eq_false_iff_ne]; omega
              go_wp2_with fail
              refine (U16.put_ok _ hL0.out (by rw [Vs_len]; omega)).mono ?_
              rintro e w3 ⟨rfl, hL3, hB3⟩
              have hB4 : Hid (Below w.heap.size w w3) := hB.out.trans (hB3.below HC.out hB.out.size)
              have hL4 : Hid _ := hL3
              clear hL3 hB3 hL0 hB
              by_cases hz : j = 0
              · subst hz
                have hL5 : Hid (Ln w3 b c k [.int .u16 7]) := hL4
                clear hL4
                go_wp2_with fail
                refine (U16.take_ok hL5.out).mono ?_
                rintro e w4 ⟨rfl, hL6, hB6⟩
                have hB7 : Hid (Below w.heap.size w w4) := hB4.out.trans (hB6.below HC.out hB4.out.size)
                have hL7 : Hid _ := hL6
                clear hL6 hB6 hL5 hB4
                go_wp2_with fail
                refine (U16.room_ok hL7.out).mono ?_
                rintro e w5 ⟨rfl, rfl⟩
                go_wp2_with fail
                go_ret
                exact ⟨by simp, hB7.out⟩
              · obtain ⟨m, rfl⟩ : ∃ m, j = m + 1 := ⟨j - 1, by omega⟩
                have hL1 : Hid (Ln w3 b c k (V X1 0 :: (Vs X1 1 m ++ [.int .u16 7]))) := by
                  have := hL4.out
                  rw [Vs_cons] at this
                  exact this
                obtain ⟨b0, off, rfl, hcell⟩ := (HW.out.below hB4.out).at 0 (by have := HX1.out (by omega); omega)
                have HCE : Hid (w3.cell? ⟨b0, off + 0, none⟩ = some (.int .u16 (X1 0))) := hcell
                clear hcell hL4
                go_wp2_with fail
                refine (U16.take_ok hL1.out).mono ?_
                rintro e w4 ⟨rfl, hL6, hB6⟩
                have hcell := hB6.keep hL1.out HCE.out
                rw [Nat.add_zero] at hcell
                have hB7 : Hid (Below w.heap.size w w4) := hB4.out.trans (hB6.below HC.out hB4.out.size)
                have hL7 : Hid _ := hL6
                clear hL6 hB6 HCE hB4 hL1
                simp only [V]
                have k6 : decide ((0 : Int) < (len1 : Int)) = true := decide_eq_true (by have := HX1.out (by omega); omega)
                go_wp2_with fail
                refine (U16.room_ok hL7.out).mono ?_
                rintro e w5 ⟨rfl, rfl⟩
                go_wp2_with fail
                go_ret
                exact ⟨by simp, hB7.out⟩

set_option maxRecDepth 100000 in
theorem lifted (os : Os) (started : os.Started) (H : Type) (enc : TypeId × Value → H) :
    ReturnsInHanded {} Try.checked os 6 .any (Rows.laneTurnsSpec.pre6 enc Try.prog Try.f6 Rows.laneTurnsRow.domain false) (Rows.laneTurnsSpec.post enc Try.prog Try.f6 false true false false) := by
  refine returnsInHanded_of_change_sized (C := Try.checked) own started (by kernel_rfl) Try.func6
    (ChangeSpec.witness6 (enc := enc) (C := Try.checked) false ⟨#[], #[.int .u8 0, .slice none 0 0], []⟩ 8 (by kernel_rfl) (by kernel_rfl) (by kernel_rfl) (by kernel_rfl)) ?_
  intro W base args ds gs before hval0 hW hcnd hsz0 _
  have hval : ∀ (j : Nat) t v, Try.f6.params[j]? = some t → args[j]? = some v → Value.okWide Try.prog W .any base t v := hval0
  have hW' := hW
  obtain ⟨p, q, hA0, hV, rfl, hfz, hnd⟩ := hW
  have hA : DataW.TrodAll enc Try.prog W 0 (fun _ => true) true Try.f6.params.toList args.toList ds p := hA0
  have hsz : (DataW.weightsEach Try.prog (Try.f6.params.toList ++ Rows.laneTurnsSpec.plain.varTypes Try.prog) (ds ++ gs)).all (· ≤ reachBytes) = true := hsz0
  rw [Try.params6] at hA hval hsz
  obtain ⟨rfl, rfl⟩ := trodVars_none hV
  have hAk := hA
  have hlt : ∀ x ∈ p, x.block < W.heap.size := fun x hx => by simpa using hW'.lt x (List.mem_append.2 (.inl hx))
  obtain ⟨v0, vs0, d0, ds0, p0, q0, hargs, rfl, rfl, h0, r0⟩ := trodAll_cons hA
  obtain ⟨v1, vs1, d1, ds1, p1, q1, rfl, rfl, rfl, h1, r1⟩ := trodAll_cons r0
  obtain ⟨rfl, rfl, rfl⟩ := trodAll_nil r1
  obtain rfl : args = #[v0, v1] := by cases args; simp_all
  obtain ⟨a0, rfl, rfl, rfl, w0⟩ := open_int Try.underlying5 (hval 0 5 v0 rfl rfl) h0
  obtain ⟨a1, len1, cap1, rfl⟩ := okWide_slice Try.underlying67 (hval 1 67 v1 rfl rfl)
  obtain ⟨X1, w1, l1, m1⟩ := open_ints1 Try.underlying67 Try.underlying71 (by kernel_rfl) h1
  clear hA0 hval0 hsz0
  refine (walk a0 a1 len1 cap1 X1 w0 l1 m1 W w1).mono fun e W' ⟨he, hg⟩ => ?_
  subst he
  exact ⟨_, rfl, _, _, _, [], _, [], hW', (trodAll_cons_mk (shut_bool Try.underlying4 _) trodAll_mk0), trodAll_below laidOut hg _ _ _ _ (by kernel_rfl) hAk hlt, rfl, hg.frame _, fun h => by cases h⟩

theorem over : Rows.laneTurnsRow.holds Try.pinned (OpenSpec.ofChange Rows.laneTurnsSpec) :=
  OpenClaim.holds_of_wide 6 Try.f6 rfl rfl rfl rfl rfl rfl rfl ⟨rfl, rfl, rfl, rfl, rfl⟩ rfl rfl rfl rfl rfl (by kernel_rfl) Try.func6 (by kernel_rfl)
    (of_decide_eq_true (by kernel_rfl)) (by unfold Func.isWrapper; first | (rw [if_pos (by decide +kernel)]; kernel_rfl) | (rw [if_neg (by decide +kernel)]; exact ⟨rfl, rfl⟩))
    (fun os started H enc _ => lifted os started H enc)

/-- the statement -/
theorem proved : Rows.LaneTurnsSaid :=
  over
#print axioms proved
end Go.Proofs.Ytbhehdkljolpkaa.laneTurns
