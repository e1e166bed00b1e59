/-
  What was put is taken in the order in which it was put, each once; what there is no room for is not there (the law LaneOrder). No conditions.
-/
import Derived.Test.YtbhehdkljolpkaaFrame
import Derived.Test.YtbhehdkljolpkaaLaneEx
import Derived.Test.YtbhehdkljolpkaaLaneStr
import Derived.Test.YtbhehdkljolpkaaLaneMore
import Derived.Deep.DeepCutAuto
import Derived.Test.YtbhehdkljolpkaaFrameVals
namespace Go.Proofs.Ytbhehdkljolpkaa.laneOrder
open Go.ChangeShapes Go.WideShapes Go.ChangeAt Go.RowKit
open Go.ChangeMaps (open_string shut_string)
set_option linter.unusedVariables false
set_option linter.unusedSimpArgs false

def S (X : Nat → ByteArray) (i : Nat) : Value := .string (X i)

set_option maxHeartbeats 4000000 in
set_option maxRecDepth 100000 in
theorem walk (a0 : Int) (a1 : Option Addr) (len1 cap1 : Nat) (X1 : Nat → ByteArray) (w0 : (Lit.int .u8 a0).wf = true) (l1 : len1 ≤ cap1) (m1 : cap1 ≤ 9223372036854775807) (w : World) (w1 : IsVals Value.string w a1 len1 X1) :
    Calls Try.prog 4 #[.int .u8 a0, .slice a1 len1 cap1] w fun e w' => e = .returned (.bool true) ∧ Below w.heap.size w w' := by
  have h0 : 0 ≤ a0 ∧ a0 ≤ 255 := by simpa [Lit.wf, IntKind.min, IntKind.max, IntKind.signed, IntKind.bits] using w0
  obtain ⟨r, rfl, hr⟩ : ∃ r : Nat, a0 = (r : Int) ∧ r < 256 := ⟨a0.toNat, by omega, by omega⟩
  clear w0 h0
  have HW : Hid (IsVals Value.string w a1 len1 X1) := w1
  clear w1
  go_enter Try.func4, Try.ntmps4
  go_wp2_with fail
  refine (examples_any _).mono ?_; rintro e w1 ⟨rfl, hb1⟩
  go_wp2_with fail
  rw [show (1 + (r : Int) % 16) = ((1 + r % 16 : Nat) : Int) by omega]
  obtain ⟨k, hk, k1, k2⟩ : ∃ k, k = 1 + r % 16 ∧ 1 ≤ k ∧ k ≤ 16 := ⟨_, rfl, by omega, by omega⟩
  rw [← hk]
  clear hk hr
  refine (Str.new_ok k k1 k2 w1).mono ?_
  rintro e w2 ⟨b, c, rfl, hc, hb, hL, hb2⟩
  have HB2 : Hid (Below w.heap.size w w2) := hb1.trans (hb2.mono hb1.size)
  have HC : Hid (w.heap.size ≤ c) := Nat.le_trans hb1.size hc
  have HL : Hid (Ln w2 b c k []) := hL
  clear hb1 hc hb hL hb2
  obtain ⟨M, hM⟩ : ∃ M, M = min len1 40 := ⟨_, rfl⟩
  have HM : Hid (M = min len1 40) := hM
  have hM1 : M ≤ len1 := by omega
  have hM2 : M ≤ 40 := by omega
  clear hM
  go_upto_region 8 with fail
  go_cut [1] (fun x wx => x = .slice a1 M cap1 ∧ w2 = wx)
  case first =>
    by_cases h40 : 40 < len1
    · have hm : M = 40 := by have := HM.out; omega
      subst hm
      go_wp2_with fail
      go_meet
      exact ⟨rfl, rfl⟩
    · have hm : M = len1 := by have := HM.out; omega
      subst hm
      go_wp2_with fail
      go_meet
      exact ⟨rfl, rfl⟩
  case rest =>
  obtain ⟨rfl, rfl⟩ := hcut
  go_wp2_with fail
  go_loopw [9] (fun iv wr => ∃ j : Nat, j ≤ M ∧ iv = .int .i64 j ∧ Hid (Ln wr b c k (Ls (S X1) 0 (min j k))) ∧ Hid (Below w.heap.size w wr)) (fun iv _ => M + 1 - (intOf iv).toNat)
  case atStart => exact ⟨0, Nat.zero_le _, rfl, by rw [Nat.zero_min]; exact HL, HB2⟩
  case round =>
    obtain ⟨j, hj, rfl, hL, hB⟩ := hrel
    by_cases hjM : j < M
    · obtain ⟨b0, off, rfl, hcell⟩ := (HW.out.below hB.out).at j (by omega)
      by_cases hjk : j < k
      · go_wp2_with fail
        refine (Str.put_ok _ hL.out (by rw [Ls_len]; omega)).mono ?_
        rintro e w3 ⟨rfl, hL3, hB3⟩
        have hL4 : Hid (Ln w3 b c k (Ls (S X1) 0 (min (j + 1) k))) := by
          rw [show min (j + 1) k = j + 1 by omega, ← Ls_snoc, Nat.zero_add]
          rw [show min j k = j by omega] at hL3
          exact hL3
        have hB4 : Hid (Below w.heap.size w w3) := hB.out.trans (hB3.below HC.out hB.out.size)
        clear hL3 hB3 hcell hL hB
        go_wp2_with fail
        go_roundw
        case rel => exact ⟨j + 1, by omega, by go_num, hL4, hB4⟩
        case measure => simp [intOf]; omega
      · have hkj : k ≤ j := by omega
        go_wp2_with fail
        refine (Str.put_no _ hL.out (by rw [Ls_len]; omega)).mono ?_
        rintro e w3 ⟨rfl, rfl⟩
        have hL4 : Hid (Ln w3 b c k (Ls (S X1) 0 (min (j + 1) k))) := by
          rw [show min (j + 1) k = min j k by omega]
          exact hL
        clear hcell hL
        go_wp2_with fail
        go_roundw
        case rel => exact ⟨j + 1, by omega, by go_num, hL4, hB⟩
        case measure => simp [intOf]; omega
    · obtain rfl : M = j := by omega
      by_cases hMk : M ≤ k
      · rw [show min M k = M by omega] at hL
        by_cases hM0 : M = 0
        · have hL0 : Hid (Ln wr b c k []) := by rw [hM0] at hL; exact hL
          have hm0 : M ≤ 0 := by omega
          clear hL hM0
          go_wp2_with fail
          refine (Str.len_ok hL0.out).mono ?_
          rintro e w3 ⟨rfl, rfl⟩
          go_wp2_with fail
          refine (Str.take_no hL0.out).mono ?_
          rintro e w4 ⟨rfl, rfl⟩
          go_wp2_with fail
          refine (Str.drain_ok hL0.out (by simp) (by intro v hv; simp at hv)).mono ?_
          rintro e w5 ⟨rfl, hO5, hL5, hB5⟩
          have HL5 : Hid (Ln w5 b c k []) := hL5
          have HB5 : Hid (Below w.heap.size w w5) := hB.out.trans (hB5.below HC.out hB.out.size)
          clear hO5 hL5 hB5 hL0 hB
          have t0 : ((M : Int)) = 0 := by omega
          go_wp2_with fail
          refine wp_loop_rounds 1 ?_
          rw [rounds_succ]
          go_wp2_with fail
          refine (Str.take_no HL5.out).mono ?_
          rintro e w8 ⟨rfl, rfl⟩
          go_wp2_with fail
          refine (Str.len_ok HL5.out).mono ?_
          rintro e w9 ⟨rfl, rfl⟩
          go_wp2_with fail
          refine (Str.put_ok _ HL5.out (by simp; omega)).mono ?_
          rintro e w10 ⟨rfl, hL10, hB10⟩
          have HBX : Hid (Below w.heap.size w w10) := HB5.out.trans (hB10.below HC.out HB5.out.size)
          clear hL10 hB10
          go_wp2_with fail
          go_ret
          exact ⟨rfl, HBX.out⟩
        · have hL1 : Hid (Ln wr b c k (Ls (S X1) 0 M)) := hL
          clear hL
          have hm0 : 0 < M := by omega
          clear hM0
          go_wp2_with fail
          refine (Str.len_ok hL1.out).mono ?_
          rintro e w3 ⟨rfl, rfl⟩
          rw [Ls_len]
          have hL : Hid _ := hL1.out
          clear hL1
          obtain ⟨R, hR⟩ : ∃ R, R = M - 1 := ⟨_, rfl⟩
          have hL0 : Hid (Ln w3 b c k (S X1 0 :: Ls (S X1) 1 R)) := by
            have := hL.out
            rw [show Ls (S X1) 0 M = S X1 0 :: Ls (S X1) 1 R by rw [show M = R + 1 by omega, Ls_cons]] at this
            exact this
          have r1 : R < M := by omega
          have r2 : M ≤ R + 1 := by omega
          clear hR hL
          obtain ⟨b0, off, rfl, hcell⟩ := (HW.out.below hB.out).at 0 (by omega)
          have HCE : Hid (w3.cell? ⟨b0, off + 0, none⟩ = some (.string (X1 0))) := hcell
          clear hcell
          go_wp2_with fail
          refine (Str.take_ok hL0.out).mono ?_
          rintro e w4 ⟨rfl, hL4, hB4⟩
          have HL4 : Hid (Ln w4 b c k (Ls (S X1) 1 R)) := hL4
          have HB4 : Hid (Below w.heap.size w w4) := hB.out.trans (hB4.below HC.out hB.out.size)
          have HCE4 : Hid (w4.cell? ⟨b0, off + 0, none⟩ = some (.string (X1 0))) := hB4.keep hL0.out HCE.out
          clear hL4 hB4 hL0 HCE hB
          simp only [S]
          go_wp2_with fail
          refine (Str.drain_ok HL4.out (by rw [Ls_len]; omega) (by intro v hv; simp [Ls, S] at hv; obtain ⟨q, _, rfl⟩ := hv; exact ⟨_, rfl⟩)).mono ?_
          rw [Ls_len]
          rintro e w5 ⟨rfl, hO5, hL5, hB5⟩
          have hcell := hB5.keep HL4.out HCE4.out
          rw [Nat.add_zero] at hcell
          have HO5 : Hid (Own w5 w4.heap.size 9 R R (Ls (S X1) 1 R)) := hO5
          have HL5 : Hid (Ln w5 b c k []) := hL5
          have HB5 : Hid (Below w.heap.size w w5) := HB4.out.trans (hB5.below HC.out HB4.out.size)
          clear hO5 hL5 hB5 HCE4 HL4 HB4
          generalize w4.heap.size = g at HO5 ⊢
          have tx : ((X1 0).toList == (X1 0).toList) = true := by simp
          have t2 : ((R : Int) != (M : Int) - 1) = false := by rw [bne_eq_false_iff_eq]; omega
          go_wp2_with fail
          clear tx t2 hcell
          go_loopw [14] (fun iv wr => ∃ j : Nat, j ≤ R ∧ iv = .int .i64 j ∧ Hid (Own wr g 9 R R (Ls (S X1) 1 R)) ∧ Hid (Ln wr b c k []) ∧ Hid (Below w.heap.size w wr)) (fun iv _ => R + 1 - (intOf iv).toNat)
          case atStart => exact ⟨0, Nat.zero_le _, rfl, HO5, HL5, HB5⟩
          case round =>
            clear HO5 HL5 HB5
            obtain ⟨j, hj, rfl, HO5, HL5, HB5⟩ := hrel
            by_cases hjR : j < R
            · have hc1 := HO5.out.cell j hjR
              rw [Ls_at _ _ _ _ hjR, Nat.add_comm] at hc1
              obtain ⟨b1, off1, e1, hc2⟩ := (HW.out.below HB5.out).at (j + 1) (by omega)
              cases e1
              have tx : ((X1 (j + 1)).toList == (X1 (j + 1)).toList) = true := by simp
              simp only [S] at hc1
              have q1 : j + 1 < M := by omega
              go_wp2_with fail
              go_region
              all_goals
                go_wp2_with fail
                go_roundw
                case rel => exact ⟨j + 1, by omega, by go_num, Own.drew HO5.out, Ln.drew HL5.out, Below.drew HB5.out⟩
                case measure => simp [intOf]; omega
            · go_wp2_with fail
              refine (Str.take_no HL5.out).mono ?_
              rintro e w8 ⟨rfl, rfl⟩
              go_wp2_with fail
              refine (Str.len_ok HL5.out).mono ?_
              rintro e w9 ⟨rfl, rfl⟩
              go_wp2_with fail
              refine (Str.put_ok _ HL5.out (by simp; omega)).mono ?_
              rintro e w10 ⟨rfl, hL10, hB10⟩
              have HBX : Hid (Below w.heap.size w w10) := HB5.out.trans (hB10.below HC.out HB5.out.size)
              clear hL10 hB10
              go_wp2_with fail
              go_ret
              exact ⟨rfl, HBX.out⟩
      · rw [show min M k = k by omega] at hL
        have hkm : k < M := by omega
        clear hMk
        go_wp2_with fail
        refine (Str.len_ok hL.out).mono ?_
        rintro e w3 ⟨rfl, rfl⟩
        rw [Ls_len]
        obtain ⟨R, hR⟩ : ∃ R, R = k - 1 := ⟨_, rfl⟩
        have hL0 : Hid (Ln w3 b c k (S X1 0 :: Ls (S X1) 1 R)) := by
          have := hL.out
          rw [show Ls (S X1) 0 k = S X1 0 :: Ls (S X1) 1 R by rw [show k = R + 1 by omega, Ls_cons]] at this
          exact this
        have r1 : R < k := by omega
        have r2 : k ≤ R + 1 := by omega
        clear hR hL
        obtain ⟨b0, off, rfl, hcell⟩ := (HW.out.below hB.out).at 0 (by omega)
        have HCE : Hid (w3.cell? ⟨b0, off + 0, none⟩ = some (.string (X1 0))) := hcell
        clear hcell
        go_wp2_with fail
        refine (Str.take_ok hL0.out).mono ?_
        rintro e w4 ⟨rfl, hL4, hB4⟩
        have HL4 : Hid (Ln w4 b c k (Ls (S X1) 1 R)) := hL4
        have HB4 : Hid (Below w.heap.size w w4) := hB.out.trans (hB4.below HC.out hB.out.size)
        have HCE4 : Hid (w4.cell? ⟨b0, off + 0, none⟩ = some (.string (X1 0))) := hB4.keep hL0.out HCE.out
        clear hL4 hB4 hL0 HCE hB
        simp only [S]
        go_wp2_with fail
        refine (Str.drain_ok HL4.out (by rw [Ls_len]; omega) (by intro v hv; simp [Ls, S] at hv; obtain ⟨q, _, rfl⟩ := hv; exact ⟨_, rfl⟩)).mono ?_
        rw [Ls_len]
        rintro e w5 ⟨rfl, hO5, hL5, hB5⟩
        have hcell := hB5.keep HL4.out HCE4.out
        rw [Nat.add_zero] at hcell
        have HO5 : Hid (Own w5 w4.heap.size 9 R R (Ls (S X1) 1 R)) := hO5
        have HL5 : Hid (Ln w5 b c k []) := hL5
        have HB5 : Hid (Below w.heap.size w w5) := HB4.out.trans (hB5.below HC.out HB4.out.size)
        clear hO5 hL5 hB5 HCE4 HL4 HB4
        generalize w4.heap.size = g at HO5 ⊢
        have tx : ((X1 0).toList == (X1 0).toList) = true := by simp
        have t2 : ((R : Int) != (k : Int) - 1) = false := by rw [bne_eq_false_iff_eq]; omega
        go_wp2_with fail
        clear tx t2 hcell
        go_loopw [14] (fun iv wr => ∃ j : Nat, j ≤ R ∧ iv = .int .i64 j ∧ Hid (Own wr g 9 R R (Ls (S X1) 1 R)) ∧ Hid (Ln wr b c k []) ∧ Hid (Below w.heap.size w wr)) (fun iv _ => R + 1 - (intOf iv).toNat)
        case atStart => exact ⟨0, Nat.zero_le _, rfl, HO5, HL5, HB5⟩
        case round =>
          clear HO5 HL5 HB5
          obtain ⟨j, hj, rfl, HO5, HL5, HB5⟩ := hrel
          by_cases hjR : j < R
          · have hc1 := HO5.out.cell j hjR
            rw [Ls_at _ _ _ _ hjR, Nat.add_comm] at hc1
            obtain ⟨b1, off1, e1, hc2⟩ := (HW.out.below HB5.out).at (j + 1) (by omega)
            cases e1
            have tx : ((X1 (j + 1)).toList == (X1 (j + 1)).toList) = true := by simp
            simp only [S] at hc1
            have q1 : j + 1 < M := by omega
            go_wp2_with fail
            go_region
            all_goals
              go_wp2_with fail
              go_roundw
              case rel => exact ⟨j + 1, by omega, by go_num, Own.drew HO5.out, Ln.drew HL5.out, Below.drew HB5.out⟩
              case measure => simp [intOf]; omega
          · go_wp2_with fail
            refine (Str.take_no HL5.out).mono ?_
            rintro e w8 ⟨rfl, rfl⟩
            go_wp2_with fail
            refine (Str.len_ok HL5.out).mono ?_
            rintro e w9 ⟨rfl, rfl⟩
            go_wp2_with fail
            refine (Str.put_ok _ HL5.out (by simp; omega)).mono ?_
            rintro e w10 ⟨rfl, hL10, hB10⟩
            have HBX : Hid (Below w.heap.size w w10) := HB5.out.trans (hB10.below HC.out HB5.out.size)
            clear hL10 hB10
            go_wp2_with fail
            go_ret
            exact ⟨rfl, HBX.out⟩

set_option maxRecDepth 100000 in
theorem lifted (os : Os) (started : os.Started) (H : Type) (enc : TypeId × Value → H) :
    ReturnsInHanded {} Try.checked os 4 .any (Rows.laneOrderSpec.pre6 enc Try.prog Try.f4 Rows.laneOrderRow.domain false) (Rows.laneOrderSpec.post enc Try.prog Try.f4 false true false false) := by
  refine returnsInHanded_of_change_sized (C := Try.checked) own started (by kernel_rfl) Try.func4
    (ChangeSpec.witness6 (enc := enc) (C := Try.checked) false ⟨#[], #[.int .u8 0, .slice none 0 0], []⟩ 8 (by kernel_rfl) (by kernel_rfl) (by kernel_rfl) (by kernel_rfl)) ?_
  intro W base args ds gs before hval0 hW hcnd hsz0 _
  have hval : ∀ (j : Nat) t v, Try.f4.params[j]? = some t → args[j]? = some v → Value.okWide Try.prog W .any base t v := hval0
  have hW' := hW
  obtain ⟨p, q, hA0, hV, rfl, hfz, hnd⟩ := hW
  have hA : DataW.TrodAll enc Try.prog W 0 (fun _ => true) true Try.f4.params.toList args.toList ds p := hA0
  have hsz : (DataW.weightsEach Try.prog (Try.f4.params.toList ++ Rows.laneOrderSpec.plain.varTypes Try.prog) (ds ++ gs)).all (· ≤ reachBytes) = true := hsz0
  rw [Try.params4] at hA hval hsz
  obtain ⟨rfl, rfl⟩ := trodVars_none hV
  have hAk := hA
  have hlt : ∀ x ∈ p, x.block < W.heap.size := fun x hx => by simpa using hW'.lt x (List.mem_append.2 (.inl hx))
  obtain ⟨v0, vs0, d0, ds0, p0, q0, hargs, rfl, rfl, h0, r0⟩ := trodAll_cons hA
  obtain ⟨v1, vs1, d1, ds1, p1, q1, rfl, rfl, rfl, h1, r1⟩ := trodAll_cons r0
  obtain ⟨rfl, rfl, rfl⟩ := trodAll_nil r1
  obtain rfl : args = #[v0, v1] := by cases args; simp_all
  obtain ⟨a0, rfl, rfl, rfl, w0⟩ := open_int Try.underlying5 (hval 0 5 v0 rfl rfl) h0
  obtain ⟨a1, len1, cap1, rfl⟩ := okWide_slice Try.underlying42 (hval 1 42 v1 rfl rfl)
  obtain ⟨X1, w1, l1, m1⟩ := open_strings1 Try.underlying42 Try.underlying9 (by kernel_rfl) h1
  clear hA0 hval0 hsz0
  refine (walk a0 a1 len1 cap1 X1 w0 l1 m1 W w1).mono fun e W' ⟨he, hg⟩ => ?_
  subst he
  exact ⟨_, rfl, _, _, _, [], _, [], hW', (trodAll_cons_mk (shut_bool Try.underlying4 _) trodAll_mk0), trodAll_below laidOut hg _ _ _ _ (by kernel_rfl) hAk hlt, rfl, hg.frame _, fun h => by cases h⟩

theorem over : Rows.laneOrderRow.holds Try.pinned (OpenSpec.ofChange Rows.laneOrderSpec) :=
  OpenClaim.holds_of_wide 4 Try.f4 rfl rfl rfl rfl rfl rfl rfl ⟨rfl, rfl, rfl, rfl, rfl⟩ rfl rfl rfl rfl rfl (by kernel_rfl) Try.func4 (by kernel_rfl)
    (of_decide_eq_true (by kernel_rfl)) (by unfold Func.isWrapper; first | (rw [if_pos (by decide +kernel)]; kernel_rfl) | (rw [if_neg (by decide +kernel)]; exact ⟨rfl, rfl⟩))
    (fun os started H enc _ => lifted os started H enc)

/-- the statement -/
theorem proved : Rows.LaneOrderSaid :=
  over
#print axioms proved
end Go.Proofs.Ytbhehdkljolpkaa.laneOrder
