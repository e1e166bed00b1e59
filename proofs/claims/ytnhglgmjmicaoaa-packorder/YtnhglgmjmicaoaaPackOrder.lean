/-
  For every input the law PackOrder returns true and leaves its arguments as they were. No condition.
-/
import Derived.Test.YtnhglgmjmicaoaaFrame
import Derived.Test.YtnhglgmjmicaoaaPackExamples
namespace Go.Proofs.Ytnhglgmjmicaoaa.packOrder
open Go.ChangeShapes Go.WideShapes Go.ChangeAt Go.RowKit
open Go.ChangeMaps (open_string shut_string)
set_option linter.unusedVariables false
set_option linter.unusedSimpArgs false

theorem less_vals (a b : List UInt8) (hl : a.length = b.length) : Op.bytesLess a b = decide (P.val a < P.val b) := by
  induction a generalizing b with
  | nil => cases b with
    | nil => rfl
    | cons y b => simp at hl
  | cons x a ih => cases b with
    | nil => simp at hl
    | cons y b =>
      have hl' : a.length = b.length := by simpa using hl
      rw [Op.bytesLess, ih b hl', P.val_cons, P.val_cons, hl']
      have h1 := P.val_lt a
      have h2 := P.val_lt b
      rw [hl'] at h1
      generalize 256 ^ b.length = q at *
      generalize P.val a = u at *
      generalize P.val b = v at *
      by_cases hxy : x = y
      · subst hxy
        simp
      · by_cases hlt : x < y
        · have hn : x.toNat + 1 ≤ y.toNat := UInt8.lt_iff_toNat_lt.1 hlt
          have : (x.toNat + 1) * q ≤ y.toNat * q := Nat.mul_le_mul_right _ hn
          rw [Nat.add_mul] at this
          have hd : x.toNat * q + u < y.toNat * q + v := by omega
          simp [hlt, hd]
        · have hn : y.toNat + 1 ≤ x.toNat := by
            have h3 : ¬ x.toNat < y.toNat := fun h => hlt (UInt8.lt_iff_toNat_lt.2 h)
            have h4 : x.toNat ≠ y.toNat := fun h => hxy (UInt8.toNat_inj.1 h)
            omega
          have : (y.toNat + 1) * q ≤ x.toNat * q := Nat.mul_le_mul_right _ hn
          rw [Nat.add_mul] at this
          have hd : ¬ x.toNat * q + u < y.toNat * q + v := by omega
          simp [hlt, hxy, hd]

theorem order (a b k : Nat) (ha : a < 256 ^ k) (hb : b < 256 ^ k) :
    Op.bytesLess (P.S (P.numB a k)).toList (P.S (P.numB b k)).toList = decide (a < b) ∧ ((P.S (P.numB a k)).toList == (P.S (P.numB b k)).toList) = decide (a = b) := by
  rw [ByteArray.toList_eq, ByteArray.toList_eq, P.S_list, P.S_list, less_vals _ _ (by rw [P.numB_length, P.numB_length]), P.val_numB, P.val_numB, Nat.mod_eq_of_lt ha, Nat.mod_eq_of_lt hb]
  refine ⟨rfl, ?_⟩
  rw [Bool.eq_iff_iff]
  simp [P.numB_eq a b k ha hb]

set_option maxHeartbeats 800000 in
theorem walk_lt (a0 b0 a b k size p : Nat) (hsz : size < 256) (h1 : 1 ≤ k) (h7 : k < 8) (hk : (1 : Int) + (size : Int) % 8 = (k : Int)) (hp : IntKind.u64.wrap (2 ^ (8 * k)) = (p : Int)) (hp0 : 0 < p)
    (hma : (a0 : Int) % (p : Int) = (a : Int)) (hmb : (b0 : Int) % (p : Int) = (b : Int)) (HA : Hid (a < 2 ^ 64)) (HB : Hid (b < 2 ^ 64)) (HL : Hid (a < 256 ^ k ∧ b < 256 ^ k)) (w : World) :
    Calls Try.prog 7 #[.int .u64 a0, .int .u64 b0, .int .u8 size] w fun e w' => e = .returned (.bool true) ∧ Below w.heap.size w w' := by
  have h8 : k ≤ 8 := by omega
  have d0 : decide ((k : Int) < 8) = true := by simp; omega
  have dp : ((p : Int) == 0) = false := by rw [beq_eq_false_iff_ne]; omega
  have O1 := order a b k HL.out.1 HL.out.2
  have hs : (P.S (P.numB a k)).size = k := by rw [P.S_size, P.numB_length]
  rcases Nat.lt_trichotomy a b with hlt | heq | hgt
  · have d1 : decide ((a : Int) < (b : Int)) = true := by simp; omega
    have d2 : ((a : Int) == (b : Int)) = false := by rw [beq_eq_false_iff_ne]; omega
    have o1 := O1.1
    have o2 := O1.2
    rw [decide_eq_true hlt] at o1
    rw [decide_eq_false (by omega : ¬ a = b)] at o2
    have d3 : decide (a < b) = true := by simp; omega
    have d4 : (a == b) = false := by rw [beq_eq_false_iff_ne]; omega
    clear O1
    go_enter Try.func7, Try.ntmps7
    go_wp2_with fail
    refine (examples_any _).mono ?_; rintro e w1 ⟨rfl, hb1⟩
    go_wp2_with fail
    refine (number_ok a k _ HA.out h1 h8).mono ?_; rintro e w2 ⟨rfl, hb2⟩
    go_wp2_with fail
    refine (number_ok b k _ HB.out h1 h8).mono ?_; rintro e w3 ⟨rfl, hb3⟩
    have B3 := (hb1.trans (hb2.mono hb1.size)).trans (hb3.mono (Nat.le_trans hb1.size hb2.size))
    clear hb1 hb2 hb3
    generalize P.S (P.numB a k) = s at *
    generalize P.S (P.numB b k) = t at *
    go_wp2_with fail
    refine (number_no a 0 _ (Or.inl (by omega))).mono ?_; rintro e w4 ⟨rfl, rfl⟩
    go_wp2_with fail
    refine (number_no a 9 _ (Or.inr (by omega))).mono ?_; rintro e w4 ⟨rfl, rfl⟩
    go_wp2_with fail
    refine (number_no a _ _ (Or.inl (by omega))).mono ?_; rintro e w4 ⟨rfl, rfl⟩
    go_wp2_with fail
    go_ret
    exact ⟨rfl, B3⟩
  · subst heq
    have d1 : decide ((a : Int) < (a : Int)) = false := by simp
    have d2 : ((a : Int) == (a : Int)) = true := by simp
    have o1 := O1.1
    have o2 := O1.2
    rw [decide_eq_false (by omega : ¬ a < a)] at o1
    rw [decide_eq_true rfl] at o2
    clear O1
    go_enter Try.func7, Try.ntmps7
    go_wp2_with fail
    refine (examples_any _).mono ?_; rintro e w1 ⟨rfl, hb1⟩
    go_wp2_with fail
    refine (number_ok a k _ HA.out h1 h8).mono ?_; rintro e w2 ⟨rfl, hb2⟩
    go_wp2_with fail
    refine (number_ok a k _ HB.out h1 h8).mono ?_; rintro e w3 ⟨rfl, hb3⟩
    have B3 := (hb1.trans (hb2.mono hb1.size)).trans (hb3.mono (Nat.le_trans hb1.size hb2.size))
    clear hb1 hb2 hb3
    generalize P.S (P.numB a k) = s at *
    go_wp2_with fail
    refine (number_no a 0 _ (Or.inl (by omega))).mono ?_; rintro e w4 ⟨rfl, rfl⟩
    go_wp2_with fail
    refine (number_no a 9 _ (Or.inr (by omega))).mono ?_; rintro e w4 ⟨rfl, rfl⟩
    go_wp2_with fail
    refine (number_no a _ _ (Or.inl (by omega))).mono ?_; rintro e w4 ⟨rfl, rfl⟩
    go_wp2_with fail
    go_ret
    exact ⟨rfl, B3⟩
  · have d1 : decide ((a : Int) < (b : Int)) = false := by simp; omega
    have d2 : ((a : Int) == (b : Int)) = false := by rw [beq_eq_false_iff_ne]; omega
    have o1 := O1.1
    have o2 := O1.2
    rw [decide_eq_false (by omega : ¬ a < b)] at o1
    rw [decide_eq_false (by omega : ¬ a = b)] at o2
    have d3 : decide (a < b) = false := by simp; omega
    have d4 : (a == b) = false := by rw [beq_eq_false_iff_ne]; omega
    clear O1
    go_enter Try.func7, Try.ntmps7
    go_wp2_with fail
    refine (examples_any _).mono ?_; rintro e w1 ⟨rfl, hb1⟩
    go_wp2_with fail
    refine (number_ok a k _ HA.out h1 h8).mono ?_; rintro e w2 ⟨rfl, hb2⟩
    go_wp2_with fail
    refine (number_ok b k _ HB.out h1 h8).mono ?_; rintro e w3 ⟨rfl, hb3⟩
    have B3 := (hb1.trans (hb2.mono hb1.size)).trans (hb3.mono (Nat.le_trans hb1.size hb2.size))
    clear hb1 hb2 hb3
    generalize P.S (P.numB a k) = s at *
    generalize P.S (P.numB b k) = t at *
    go_wp2_with fail
    refine (number_no a 0 _ (Or.inl (by omega))).mono ?_; rintro e w4 ⟨rfl, rfl⟩
    go_wp2_with fail
    refine (number_no a 9 _ (Or.inr (by omega))).mono ?_; rintro e w4 ⟨rfl, rfl⟩
    go_wp2_with fail
    refine (number_no a _ _ (Or.inl (by omega))).mono ?_; rintro e w4 ⟨rfl, rfl⟩
    go_wp2_with fail
    go_ret
    exact ⟨rfl, B3⟩

set_option maxHeartbeats 800000 in
theorem walk_8 (a b k size : Nat) (hsz : size < 256) (h1 : 1 ≤ k) (h8 : k ≤ 8) (hk : (1 : Int) + (size : Int) % 8 = (k : Int)) (d0 : decide ((k : Int) < 8) = false)
    (HA : Hid (a < 2 ^ 64)) (HB : Hid (b < 2 ^ 64)) (HL : Hid (a < 256 ^ k ∧ b < 256 ^ k)) (w : World) :
    Calls Try.prog 7 #[.int .u64 a, .int .u64 b, .int .u8 size] w fun e w' => e = .returned (.bool true) ∧ Below w.heap.size w w' := by
  have O1 := order a b k HL.out.1 HL.out.2
  have hs : (P.S (P.numB a k)).size = k := by rw [P.S_size, P.numB_length]
  rcases Nat.lt_trichotomy a b with hlt | heq | hgt
  · have d1 : decide ((a : Int) < (b : Int)) = true := by simp; omega
    have d2 : ((a : Int) == (b : Int)) = false := by rw [beq_eq_false_iff_ne]; omega
    have o1 := O1.1
    have o2 := O1.2
    rw [decide_eq_true hlt] at o1
    rw [decide_eq_false (by omega : ¬ a = b)] at o2
    have d3 : decide (a < b) = true := by simp; omega
    have d4 : (a == b) = false := by rw [beq_eq_false_iff_ne]; omega
    clear O1
    go_enter Try.func7, Try.ntmps7
    go_wp2_with fail
    refine (examples_any _).mono ?_; rintro e w1 ⟨rfl, hb1⟩
    go_wp2_with fail
    refine (number_ok a k _ HA.out h1 h8).mono ?_; rintro e w2 ⟨rfl, hb2⟩
    go_wp2_with fail
    refine (number_ok b k _ HB.out h1 h8).mono ?_; rintro e w3 ⟨rfl, hb3⟩
    have B3 := (hb1.trans (hb2.mono hb1.size)).trans (hb3.mono (Nat.le_trans hb1.size hb2.size))
    clear hb1 hb2 hb3
    generalize P.S (P.numB a k) = s at *
    generalize P.S (P.numB b k) = t at *
    go_wp2_with fail
    refine (number_no a 0 _ (Or.inl (by omega))).mono ?_; rintro e w4 ⟨rfl, rfl⟩
    go_wp2_with fail
    refine (number_no a 9 _ (Or.inr (by omega))).mono ?_; rintro e w4 ⟨rfl, rfl⟩
    go_wp2_with fail
    refine (number_no a _ _ (Or.inl (by omega))).mono ?_; rintro e w4 ⟨rfl, rfl⟩
    go_wp2_with fail
    go_ret
    exact ⟨rfl, B3⟩
  · subst heq
    have d1 : decide ((a : Int) < (a : Int)) = false := by simp
    have d2 : ((a : Int) == (a : Int)) = true := by simp
    have o1 := O1.1
    have o2 := O1.2
    rw [decide_eq_false (by omega : ¬ a < a)] at o1
    rw [decide_eq_true rfl] at o2
    clear O1
    go_enter Try.func7, Try.ntmps7
    go_wp2_with fail
    refine (examples_any _).mono ?_; rintro e w1 ⟨rfl, hb1⟩
    go_wp2_with fail
    refine (number_ok a k _ HA.out h1 h8).mono ?_; rintro e w2 ⟨rfl, hb2⟩
    go_wp2_with fail
    refine (number_ok a k _ HB.out h1 h8).mono ?_; rintro e w3 ⟨rfl, hb3⟩
    have B3 := (hb1.trans (hb2.mono hb1.size)).trans (hb3.mono (Nat.le_trans hb1.size hb2.size))
    clear hb1 hb2 hb3
    generalize P.S (P.numB a k) = s at *
    go_wp2_with fail
    refine (number_no a 0 _ (Or.inl (by omega))).mono ?_; rintro e w4 ⟨rfl, rfl⟩
    go_wp2_with fail
    refine (number_no a 9 _ (Or.inr (by omega))).mono ?_; rintro e w4 ⟨rfl, rfl⟩
    go_wp2_with fail
    refine (number_no a _ _ (Or.inl (by omega))).mono ?_; rintro e w4 ⟨rfl, rfl⟩
    go_wp2_with fail
    go_ret
    exact ⟨rfl, B3⟩
  · have d1 : decide ((a : Int) < (b : Int)) = false := by simp; omega
    have d2 : ((a : Int) == (b : Int)) = false := by rw [beq_eq_false_iff_ne]; omega
    have o1 := O1.1
    have o2 := O1.2
    rw [decide_eq_false (by omega : ¬ a < b)] at o1
    rw [decide_eq_false (by omega : ¬ a = b)] at o2
    have d3 : decide (a < b) = false := by simp; omega
    have d4 : (a == b) = false := by rw [beq_eq_false_iff_ne]; omega
    clear O1
    go_enter Try.func7, Try.ntmps7
    go_wp2_with fail
    refine (examples_any _).mono ?_; rintro e w1 ⟨rfl, hb1⟩
    go_wp2_with fail
    refine (number_ok a k _ HA.out h1 h8).mono ?_; rintro e w2 ⟨rfl, hb2⟩
    go_wp2_with fail
    refine (number_ok b k _ HB.out h1 h8).mono ?_; rintro e w3 ⟨rfl, hb3⟩
    have B3 := (hb1.trans (hb2.mono hb1.size)).trans (hb3.mono (Nat.le_trans hb1.size hb2.size))
    clear hb1 hb2 hb3
    generalize P.S (P.numB a k) = s at *
    generalize P.S (P.numB b k) = t at *
    go_wp2_with fail
    refine (number_no a 0 _ (Or.inl (by omega))).mono ?_; rintro e w4 ⟨rfl, rfl⟩
    go_wp2_with fail
    refine (number_no a 9 _ (Or.inr (by omega))).mono ?_; rintro e w4 ⟨rfl, rfl⟩
    go_wp2_with fail
    refine (number_no a _ _ (Or.inl (by omega))).mono ?_; rintro e w4 ⟨rfl, rfl⟩
    go_wp2_with fail
    go_ret
    exact ⟨rfl, B3⟩

theorem u64_of (a : Int) (h : (Lit.int .u64 a).wf = true) : ∃ x : Nat, a = (x : Int) ∧ x < 2 ^ 64 := by
  have hx : 0 ≤ a ∧ a ≤ 18446744073709551615 := by simpa [Lit.wf, IntKind.min, IntKind.max, IntKind.signed, IntKind.bits] using h
  exact ⟨a.toNat, by omega, by omega⟩
theorem pow_lt (k : Nat) (h : k < 8) : 256 ^ k < 2 ^ 64 ∧ (2 : Nat) ^ (8 * k) = 256 ^ k ∧ 0 < 256 ^ k := by
  refine ⟨?_, by rw [Nat.pow_mul], Nat.pow_pos (by omega)⟩
  have h1 : 256 ^ k ≤ 256 ^ 7 := Nat.pow_le_pow_right (by omega) (by omega)
  have h2 : (256 : Nat) ^ 7 < 2 ^ 64 := by decide
  omega
theorem wrap_pow (k : Nat) (h : k < 8) : IntKind.u64.wrap (2 ^ (8 * k)) = ((256 ^ k : Nat) : Int) := by
  obtain ⟨h1, h2, _⟩ := pow_lt k h
  have e : (2 : Int) ^ (8 * k) = ((256 ^ k : Nat) : Int) := by rw [← h2]; simp
  rw [e, IntKind.wrap_u64]
  omega

theorem walk (a0 : Int) (a1 : Int) (a2 : Int) (w0 : (Lit.int .u64 a0).wf = true) (w1 : (Lit.int .u64 a1).wf = true) (w2 : (Lit.int .u8 a2).wf = true) (w : World) :
    Calls Try.prog 7 #[.int .u64 a0, .int .u64 a1, .int .u8 a2] w fun e w' => e = .returned (.bool true) ∧ Below w.heap.size w w' := by
  obtain ⟨a, rfl, ha⟩ := u64_of a0 w0
  obtain ⟨b, rfl, hb⟩ := u64_of a1 w1
  have hx : 0 ≤ a2 ∧ a2 ≤ 255 := by simpa [Lit.wf, IntKind.min, IntKind.max, IntKind.signed, IntKind.bits] using w2
  obtain ⟨size, rfl⟩ := Int.eq_ofNat_of_zero_le hx.1
  by_cases h7 : 1 + size % 8 < 8
  · obtain ⟨p1, p2, p3⟩ := pow_lt (1 + size % 8) h7
    refine walk_lt a b (a % 256 ^ (1 + size % 8)) (b % 256 ^ (1 + size % 8)) (1 + size % 8) size (256 ^ (1 + size % 8)) (by omega) (by omega) h7 (by omega) (wrap_pow _ h7) p3 (Int.natCast_emod _ _).symm (Int.natCast_emod _ _).symm ?_ ?_ ?_ w
    · exact Nat.lt_of_lt_of_le (Nat.mod_lt _ p3) (Nat.le_of_lt p1)
    · exact Nat.lt_of_lt_of_le (Nat.mod_lt _ p3) (Nat.le_of_lt p1)
    · exact ⟨Nat.mod_lt _ p3, Nat.mod_lt _ p3⟩
  · have e : 1 + size % 8 = 8 := by omega
    have h256 : (256 : Nat) ^ (1 + size % 8) = 2 ^ 64 := by rw [e]
    exact walk_8 a b (1 + size % 8) size (by omega) (by omega) (by omega) (by omega) (by simp; omega) ha hb (by show _ ∧ _; rw [h256]; exact ⟨ha, hb⟩) w

set_option maxRecDepth 100000 in
theorem lifted (os : Os) (started : os.Started) (H : Type) (enc : TypeId × Value → H) :
    ReturnsInHanded {} Try.checked os 7 .any (Rows.packOrderSpec.pre6 enc Try.prog Try.f7 Rows.packOrderRow.domain false) (Rows.packOrderSpec.post enc Try.prog Try.f7 false true false false) := by
  refine returnsInHanded_of_change_sized (C := Try.checked) own started (by kernel_rfl) Try.func7
    (ChangeSpec.witness6 (enc := enc) (C := Try.checked) false ⟨#[], #[.int .u64 0, .int .u64 0, .int .u8 0], []⟩ 8 (by kernel_rfl) (by kernel_rfl) (by kernel_rfl) (by kernel_rfl)) ?_
  intro W base args ds gs before hval0 hW hcnd hsz0 _
  have hval : ∀ (j : Nat) t v, Try.f7.params[j]? = some t → args[j]? = some v → Value.okWide Try.prog W .any base t v := hval0
  have hW' := hW
  obtain ⟨p, q, hA0, hV, rfl, hfz, hnd⟩ := hW
  have hA : DataW.TrodAll enc Try.prog W 0 (fun _ => true) true Try.f7.params.toList args.toList ds p := hA0
  have hsz : (DataW.weightsEach Try.prog (Try.f7.params.toList ++ Rows.packOrderSpec.plain.varTypes Try.prog) (ds ++ gs)).all (· ≤ reachBytes) = true := hsz0
  rw [Try.params7] at hA hval hsz
  obtain ⟨rfl, rfl⟩ := trodVars_none hV
  have hAk := hA
  have hlt : ∀ x ∈ p, x.block < W.heap.size := fun x hx => by simpa using hW'.lt x (List.mem_append.2 (.inl hx))
  obtain ⟨v0, vs0, d0, ds0, p0, q0, hargs, rfl, rfl, h0, r0⟩ := trodAll_cons hA
  obtain ⟨v1, vs1, d1, ds1, p1, q1, rfl, rfl, rfl, h1, r1⟩ := trodAll_cons r0
  obtain ⟨v2, vs2, d2, ds2, p2, q2, rfl, rfl, rfl, h2, r2⟩ := trodAll_cons r1
  obtain ⟨rfl, rfl, rfl⟩ := trodAll_nil r2
  obtain rfl : args = #[v0, v1, v2] := by cases args; simp_all
  obtain ⟨a0, rfl, rfl, rfl, w0⟩ := open_int Try.underlying25 (hval 0 25 v0 rfl rfl) h0
  obtain ⟨a1, rfl, rfl, rfl, w1⟩ := open_int Try.underlying25 (hval 1 25 v1 rfl rfl) h1
  obtain ⟨a2, rfl, rfl, rfl, w2⟩ := open_int Try.underlying5 (hval 2 5 v2 rfl rfl) h2
  clear hA0 hval0 hsz0
  refine (walk a0 a1 a2 w0 w1 w2 W).mono fun e W' ⟨he, hg⟩ => ?_
  subst he
  exact ⟨_, rfl, _, _, _, [], _, [], hW', (trodAll_cons_mk (shut_bool Try.underlying4 _) trodAll_mk0), trodAll_below laidOut hg _ _ _ _ (by kernel_rfl) hAk hlt, rfl, hg.frame _, fun h => by cases h⟩

theorem over : Rows.packOrderRow.holds Try.pinned (OpenSpec.ofChange Rows.packOrderSpec) :=
  OpenClaim.holds_of_wide 7 Try.f7 rfl rfl rfl rfl rfl rfl rfl ⟨rfl, rfl, rfl, rfl, rfl⟩ rfl rfl rfl rfl rfl (by kernel_rfl) Try.func7 (by kernel_rfl)
    (of_decide_eq_true (by kernel_rfl)) (by unfold Func.isWrapper; first | (rw [if_pos (by decide +kernel)]; kernel_rfl) | (rw [if_neg (by decide +kernel)]; exact ⟨rfl, rfl⟩))
    (fun os started H enc _ => lifted os started H enc)

/-- the statement -/
theorem proved : Rows.PackOrderSaid :=
  over
#print axioms proved
end Go.Proofs.Ytnhglgmjmicaoaa.packOrder
