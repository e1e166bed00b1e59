/-
  For every input the law PackVary returns true and leaves its arguments as they were. No condition.
-/
import Derived.Test.YtnhglgmjmicaoaaFrame
import Derived.Test.YtnhglgmjmicaoaaPackExamples
import Derived.Deep.DeepCutAuto
namespace Go.Proofs.Ytnhglgmjmicaoaa.packVary
open Go.ChangeShapes Go.WideShapes Go.ChangeAt Go.RowKit
open Go.ChangeMaps (open_string shut_string)
set_option linter.unusedVariables false
set_option linter.unusedSimpArgs false

theorem conv2 (c : UInt8) (g : Nat) (u : World) (h0 : u.cell? ⟨g, 0, none⟩ = some (.int .u8 (c.toNat : Int))) (h1 : u.cell? ⟨g, 1, none⟩ = some (.int .u8 0)) :
    (convert 46 9 (.slice (some ⟨g, 0, none⟩) 2 2)).run Try.prog u = .ok (.string ⟨#[c, 0]⟩) u := by
  refine run_convert_bytes_back u 46 9 5 ⟨g, 0, none⟩ 2 [c, 0] Try.underlying46 Try.underlying5 Try.underlying9 ?_
  intro j hj
  have e : (⟨g, 0, none⟩ : Addr).add j = ⟨g, j, none⟩ := by unfold Addr.add; split <;> simp_all
  rw [e]
  match j, hj with
  | 0, _ => exact h0
  | 1, _ => exact h1

set_option maxHeartbeats 2000000 in
set_option maxRecDepth 100000 in
theorem walk_any (a b b0 : Nat) (sm : Bool) (hsm1 : sm = true → b = a) (hsm0 : sm = false → b = b0) (s t : ByteArray) (K : Nat) (c : UInt8) (hL : s.size = K + 1) (same : Bool) (hst : (s.toList == t.toList) = same) (hab : ((a : Int) == (b : Int)) = same) (hab' : (a == b) = same)
    (C1 : Hid (∀ w, Calls Try.prog 12 #[.agg #[.string (s.extract 0 K ++ ⟨#[c, 0]⟩), .bool false]] w fun e w' => e = .returned (.tuple #[.int .u64 0, .agg #[.string ⟨#[]⟩, .bool true]]) ∧ Below w.heap.size w w'))
    (HOR : Hid (bits .or .u8 ((s[K]'(by omega)).toNat : Int) 128 = (c.toNat : Int)))
    (h10 : K ≤ 9) (HP : Hid (K < 9 → ∃ p : Int, IntKind.u64.wrap (2 ^ (7 * (K + 1))) = p ∧ (a : Int) < p)) (HQ : Hid (0 < K → ∃ q : Int, IntKind.u64.wrap (2 ^ (7 * K)) = q ∧ q ≤ (a : Int)))
    (VA : Hid (∀ w, Calls Try.prog 20 #[.int .u64 a] w fun e w' => e = .returned (.string s) ∧ Below w.heap.size w w'))
    (VB : Hid (∀ w, Calls Try.prog 20 #[.int .u64 b] w fun e w' => e = .returned (.string t) ∧ Below w.heap.size w w'))
    (RA : Hid (∀ w, Calls Try.prog 12 #[.agg #[.string s, .bool false]] w fun e w' => e = .returned (.tuple #[.int .u64 a, .agg #[.string ⟨#[]⟩, .bool false]]) ∧ Below w.heap.size w w'))
    (w : World) :
    Calls Try.prog 5 #[.int .u64 a, .int .u64 b0, .bool sm] w fun e w' => e = .returned (.bool true) ∧ Below w.heap.size w w' := by
  have e0 : s.toList.isEmpty = false := by
    rw [ByteArray.toList_eq]
    have := P.len_list s
    cases h : s.data.toList with
    | nil => rw [h] at this; simp at this; omega
    | cons x l => rfl
  have HS1 : Hid _ := hsm1
  have HS0 : Hid _ := hsm0
  clear hsm1 hsm0
  go_enter Try.func5, Try.ntmps5
  go_wp2_with fail
  refine (examples_any _).mono ?_; rintro e w1 ⟨rfl, hb1⟩
  go_upto_if 18 with fail
  go_cut [1] (fun x wx => x = .int .u64 (b : Int) ∧ wx = w1)
  case first =>
    cases sm with
    | true =>
      have hba : Hid (b = a) := HS1.out rfl
      clear HS1 HS0
      go_wp2_with fail
      go_meet
      rw [hba.out]
      exact ⟨rfl, rfl⟩
    | false =>
      have hba : Hid (b = b0) := HS0.out rfl
      clear HS1 HS0
      go_wp2_with fail
      go_meet
      rw [hba.out]
      exact ⟨rfl, rfl⟩
  case rest =>
  obtain ⟨rfl, rfl⟩ := hcut
  clear HS1 HS0
  go_wp2_with fail
  refine (VA.out _).mono ?_; rintro e w2 ⟨rfl, hb2⟩
  go_upto_region 9 with fail
  go_cut [9] (fun m wx => m = .bool true ∧ wx = w2)
  case first =>
    by_cases h9 : K < 9
    · obtain ⟨p, hp, hap⟩ := HP.out h9
      have d10 : ((K : Int) + 1 == 10) = false := by rw [beq_eq_false_iff_ne]; omega
      go_wp2_with fail
      go_meet
      exact ⟨rfl, rfl⟩
    · obtain rfl : K = 9 := by omega
      go_wp2_with fail
      go_meet
      exact ⟨rfl, rfl⟩
  case rest =>
  obtain ⟨rfl, rfl⟩ := hcut
  clear HP
  go_upto_region 10 with fail
  go_cut [10] (fun m wx => m = .bool true ∧ wx = wc)
  case first =>
    by_cases h0 : 0 < K
    · obtain ⟨q, hq, hqa⟩ := HQ.out h0
      have d1 : ((K : Int) + 1 == 1) = false := by rw [beq_eq_false_iff_ne]; omega
      go_wp2_with fail
      go_meet
      exact ⟨rfl, rfl⟩
    · obtain rfl : K = 0 := by omega
      go_wp2_with fail
      go_meet
      exact ⟨rfl, rfl⟩
  case rest =>
  obtain ⟨rfl, rfl⟩ := hcut
  clear HQ
  go_wp2_with fail
  refine (RA.out _).mono ?_; rintro e w3 ⟨rfl, hb3⟩
  have B3 := (hb1.trans (hb2.mono hb1.size)).trans (hb3.mono (Nat.le_trans hb1.size hb2.size))
  have HB3 : Hid _ := B3
  have z3 := B3.size
  clear hb1 hb2 hb3 B3
  go_upto_region 12 with fail
  go_cut [14] (fun ptr wx => ∃ g, ptr = .pointer (some ⟨g, 0, none⟩) ∧ wx.cell? ⟨g, 1, none⟩ = some (.bool true) ∧ g < wx.heap.size ∧ wx.cell? ⟨w3.heap.size, 0, none⟩ = some (.string ⟨#[]⟩) ∧ wx.cell? ⟨w3.heap.size, 1, none⟩ = some (.bool false) ∧ w3.heap.size < wx.heap.size ∧ Below w.heap.size w wx)
  case first =>
    have k0 : (0 : Int) ≤ (K : Int) := by omega
    have k1 : (K : Int) ≤ (K : Int) + 1 := by omega
    have k2 : K < K + 1 := by omega
    have r2 : IntKind.i64.wrap (K : Int) = (K : Int) := IntWalk.i64_in _ (by omega)
    have r3 : wrap64 (K : Int) = (K : Int) := IntWalk.wrap64_in _ (by omega)
    have k3 : K ≤ K + 1 := by omega
    have hor := HOR.out
    have hcv := conv2 c
    clear e0
    go_region_with (go_at_call 12; refine (C1.out _).mono ?_; rintro e w4 ⟨rfl, hb4⟩; have hcl := (bcell hb4).1; have hfr := (bcell hb4).2; have z4 := hb4.size; have B4 : Below w.heap.size w w4 := Below.trans (by repeat (first | exact HB3.out | refine Below.drew ?_ | refine Below.alloc ?_ (by first | omega | (simp <;> omega)) _)) (hb4.mono (by first | omega | (simp <;> omega))); have q0 := bcells hb4 (b := w3.heap.size) (o := 0) (v := .string ⟨#[]⟩) (by simp <;> omega) (by simp [go_sem]); have q1 := bcells hb4 (b := w3.heap.size) (o := 1) (v := .bool false) (by simp <;> omega) (by simp [go_sem]))
    all_goals
      simp at z4
      go_wp2_with fail
      go_meet
      have HB4 : Hid _ := B4
      have y4 := B4.size
      clear B4 hb4 hcv hor C1 VA VB RA HOR
      first
        | exact ⟨w4.heap.size, rfl, by simp [go_sem], by simp, by rw [World.cell?_alloc_past _ _ _ (by omega)]; exact q0, by rw [World.cell?_alloc_past _ _ _ (by omega)]; exact q1, by simp; omega, HB4.out.alloc y4 _⟩
        | exact ⟨w3.heap.size + 1 + 1, rfl, by simp [go_sem, hcl], by simp; omega, by simp [go_sem, q0], by simp [go_sem, q1], by simp; omega, (HB4.out.setCell (by simp; omega) _).setCell (by simp; omega) _⟩
        | exact ⟨w3.heap.size + 1, rfl, by simp [go_sem, hcl], by simp; omega, by simp [go_sem, q0], by simp [go_sem, q1], by simp; omega, (HB4.out.setCell (by simp; omega) _).setCell (by simp; omega) _⟩
  case rest =>
    obtain ⟨g, rfl, qg, zg, q0, q1, z5, B5⟩ := hcut
    have HB5 : Hid _ := B5
    have y5 := B5.size
    clear B5 C1 RA HOR HB3 VA e0
    go_wp2_with fail
    refine (VB.out _).mono ?_; rintro e w6 ⟨rfl, hb6⟩
    have z6 := hb6.size
    have f0 := bcells hb6 (b := w3.heap.size) (o := 0) (v := .string ⟨#[]⟩) (by omega) q0
    have f1 := bcells hb6 (b := w3.heap.size) (o := 1) (v := .bool false) (by omega) q1
    have fg := bcells hb6 (b := g) (o := 1) (v := .bool true) (by omega) qg
    have HB6 : Hid _ := HB5.out.trans (hb6.mono y5)
    clear hb6 q0 q1 qg
    cases same with
    | true =>
      go_wp2_with fail
      refine (done_any _ _ _).mono ?_; rintro e w7 ⟨rfl, hb7⟩
      have gg := bcells hb7 (b := g) (o := 1) (v := .bool true) (by omega) fg
      have HB7 : Hid _ := HB6.out.trans (hb7.mono (by omega))
      clear hb7 fg f0 f1
      go_wp2_with fail
      go_ret
      exact ⟨rfl, HB7.out⟩
    | false =>
      go_wp2_with fail
      refine (done_any _ _ _).mono ?_; rintro e w7 ⟨rfl, hb7⟩
      have gg := bcells hb7 (b := g) (o := 1) (v := .bool true) (by omega) fg
      have HB7 : Hid _ := HB6.out.trans (hb7.mono (by omega))
      clear hb7 fg f0 f1
      go_wp2_with fail
      go_ret
      exact ⟨rfl, HB7.out⟩

theorem u64_of (a : Int) (h : (Lit.int .u64 a).wf = true) : ∃ x : Nat, a = (x : Int) ∧ x < 2 ^ 64 := by
  have hx : 0 ≤ a ∧ a ≤ 18446744073709551615 := by simpa [Lit.wf, IntKind.min, IntKind.max, IntKind.signed, IntKind.bits] using h
  exact ⟨a.toNat, by omega, by omega⟩
theorem or_128 (b : UInt8) : bits .or .u8 (b.toNat : Int) 128 = ((b ||| 128).toNat : Int) := by
  have := u8_or_nat b.toNat 128 b.toNat_lt (by omega)
  rw [show ((128 : Nat) : Int) = 128 from rfl] at this
  rw [this, UInt8.toNat_or]
  rfl
theorem or_ge (b : UInt8) : 128 ≤ (b ||| 128).toNat := by
  rw [UInt8.toNat_or]
  exact Nat.right_le_or
theorem wrap_pow (k : Nat) (h : k < 64) : IntKind.u64.wrap (2 ^ k) = ((2 ^ k : Nat) : Int) := by
  have h1 : 2 ^ k < 2 ^ 64 := Nat.pow_lt_pow_right (by omega) h
  have e : (2 : Int) ^ k = ((2 ^ k : Nat) : Int) := by simp
  rw [e, IntKind.wrap_u64]
  generalize 2 ^ k = q at h1
  omega
theorem drop_last (l : List UInt8) (K : Nat) (h : l.length = K + 1) : l.take K = l.dropLast := by
  rw [List.dropLast_eq_take, h]; rfl

theorem walk (a0 : Int) (a1 : Int) (a2 : Bool) (w0 : (Lit.int .u64 a0).wf = true) (w1 : (Lit.int .u64 a1).wf = true) (w : World) :
    Calls Try.prog 5 #[.int .u64 a0, .int .u64 a1, .bool a2] w fun e w' => e = .returned (.bool true) ∧ Below w.heap.size w w' := by
  obtain ⟨a, rfl, ha⟩ := u64_of a0 w0
  obtain ⟨b0, rfl, hb0⟩ := u64_of a1 w1
  obtain ⟨b, hb, hs1, hs0⟩ : ∃ b : Nat, b < 2 ^ 64 ∧ (a2 = true → b = a) ∧ (a2 = false → b = b0) := by
    cases a2 with
    | true => exact ⟨a, ha, fun _ => rfl, fun h => (by cases h)⟩
    | false => exact ⟨b0, hb0, fun h => (by cases h), fun _ => rfl⟩
  have hl : (P.S (P.vary a)).size = ((P.vary a).length - 1) + 1 := by rw [P.S_size]; have := P.vary_pos a; omega
  have hle := P.vary_le a
  have hpos := P.vary_pos a
  have hvl : (P.vary a).length = ((P.vary a).length - 1) + 1 := by omega
  refine walk_any a b b0 a2 hs1 hs0 (P.S (P.vary a)) (P.S (P.vary b)) ((P.vary a).length - 1) ((P.S (P.vary a))[(P.vary a).length - 1]'(by omega) ||| 128) hl (decide (a = b)) ?_ ?_ ?_ ?_ ?_ (by omega) ?_ ?_ ?_ ?_ ?_ w
  · rw [ByteArray.toList_eq, ByteArray.toList_eq, P.S_list, P.S_list, Bool.eq_iff_iff]
    simp only [beq_iff_eq, decide_eq_true_eq]
    exact ⟨fun h => P.vary_inj a b ha hb h, fun h => by rw [h]⟩
  · rw [Bool.eq_iff_iff]
    simp only [beq_iff_eq, decide_eq_true_eq]
    omega
  · rw [Bool.eq_iff_iff]
    simp only [beq_iff_eq, decide_eq_true_eq]
  · intro u
    refine rvary_any _ false 0 _ true u ?_ ?_
    · have e : ((P.S (P.vary a)).extract 0 ((P.vary a).length - 1)).size ≤ 10 := by rw [P.ext_head, P.S_size, List.length_take, P.S_list]; omega
      rw [ByteArray.size_append]
      unfold maxLen
      show _ + 2 ≤ _
      omega
    · unfold P.RV
      rw [if_neg (by decide), ByteArray.data_append, Array.toList_append, P.ext_head, P.S_list, P.S_list, drop_last _ _ hvl]
      rw [show ({ data := #[(P.S (P.vary a))[(P.vary a).length - 1]'(by omega) ||| 128, 0] } : ByteArray).data.toList = [(P.S (P.vary a))[(P.vary a).length - 1]'(by omega) ||| 128, 0] from rfl]
      rw [P.vary_long a _ (or_ge _)]
      rfl
  · exact or_128 _
  · intro h9
    refine ⟨_, wrap_pow _ (by omega), ?_⟩
    rw [← hvl]
    have h1 := P.varyF_most 9 a (by show (P.vary a).length < 10; omega)
    rw [show (128 : Nat) = 2 ^ 7 from rfl, ← Nat.pow_mul] at h1
    exact Int.ofNat_lt.2 h1
  · intro h0
    refine ⟨_, wrap_pow _ (by omega), ?_⟩
    have h1 := P.varyF_least 9 a (by show 1 < (P.vary a).length; omega)
    rw [show (128 : Nat) = 2 ^ 7 from rfl, ← Nat.pow_mul] at h1
    exact Int.ofNat_le.2 h1
  · exact fun u => vary_any a u ha
  · exact fun u => vary_any b u hb
  · intro u
    refine rvary_any _ false a _ false u ?_ ?_
    · unfold maxLen; omega
    · unfold P.RV
      have := P.rvary_vary a [] ha
      rw [List.append_nil] at this
      rw [if_neg (by decide), P.S_list, this]
      rfl

set_option maxRecDepth 100000 in
theorem lifted (os : Os) (started : os.Started) (H : Type) (enc : TypeId × Value → H) :
    ReturnsInHanded {} Try.checked os 5 .any (Rows.packVarySpec.pre6 enc Try.prog Try.f5 Rows.packVaryRow.domain false) (Rows.packVarySpec.post enc Try.prog Try.f5 false true false false) := by
  refine returnsInHanded_of_change_sized (C := Try.checked) own started (by kernel_rfl) Try.func5
    (ChangeSpec.witness6 (enc := enc) (C := Try.checked) false ⟨#[], #[.int .u64 0, .int .u64 0, .bool false], []⟩ 8 (by kernel_rfl) (by kernel_rfl) (by kernel_rfl) (by kernel_rfl)) ?_
  intro W base args ds gs before hval0 hW hcnd hsz0 _
  have hval : ∀ (j : Nat) t v, Try.f5.params[j]? = some t → args[j]? = some v → Value.okWide Try.prog W .any base t v := hval0
  have hW' := hW
  obtain ⟨p, q, hA0, hV, rfl, hfz, hnd⟩ := hW
  have hA : DataW.TrodAll enc Try.prog W 0 (fun _ => true) true Try.f5.params.toList args.toList ds p := hA0
  have hsz : (DataW.weightsEach Try.prog (Try.f5.params.toList ++ Rows.packVarySpec.plain.varTypes Try.prog) (ds ++ gs)).all (· ≤ reachBytes) = true := hsz0
  rw [Try.params5] at hA hval hsz
  obtain ⟨rfl, rfl⟩ := trodVars_none hV
  have hAk := hA
  have hlt : ∀ x ∈ p, x.block < W.heap.size := fun x hx => by simpa using hW'.lt x (List.mem_append.2 (.inl hx))
  obtain ⟨v0, vs0, d0, ds0, p0, q0, hargs, rfl, rfl, h0, r0⟩ := trodAll_cons hA
  obtain ⟨v1, vs1, d1, ds1, p1, q1, rfl, rfl, rfl, h1, r1⟩ := trodAll_cons r0
  obtain ⟨v2, vs2, d2, ds2, p2, q2, rfl, rfl, rfl, h2, r2⟩ := trodAll_cons r1
  obtain ⟨rfl, rfl, rfl⟩ := trodAll_nil r2
  obtain rfl : args = #[v0, v1, v2] := by cases args; simp_all
  obtain ⟨a0, rfl, rfl, rfl, w0⟩ := open_int Try.underlying25 (hval 0 25 v0 rfl rfl) h0
  obtain ⟨a1, rfl, rfl, rfl, w1⟩ := open_int Try.underlying25 (hval 1 25 v1 rfl rfl) h1
  obtain ⟨a2, rfl, rfl, rfl⟩ := open_bool Try.underlying4 (hval 2 4 v2 rfl rfl) h2
  clear hA0 hval0 hsz0
  refine (walk a0 a1 a2 w0 w1 W).mono fun e W' ⟨he, hg⟩ => ?_
  subst he
  exact ⟨_, rfl, _, _, _, [], _, [], hW', (trodAll_cons_mk (shut_bool Try.underlying4 _) trodAll_mk0), trodAll_below laidOut hg _ _ _ _ (by kernel_rfl) hAk hlt, rfl, hg.frame _, fun h => by cases h⟩

theorem over : Rows.packVaryRow.holds Try.pinned (OpenSpec.ofChange Rows.packVarySpec) :=
  OpenClaim.holds_of_wide 5 Try.f5 rfl rfl rfl rfl rfl rfl rfl ⟨rfl, rfl, rfl, rfl, rfl⟩ rfl rfl rfl rfl rfl (by kernel_rfl) Try.func5 (by kernel_rfl)
    (of_decide_eq_true (by kernel_rfl)) (by unfold Func.isWrapper; first | (rw [if_pos (by decide +kernel)]; kernel_rfl) | (rw [if_neg (by decide +kernel)]; exact ⟨rfl, rfl⟩))
    (fun os started H enc _ => lifted os started H enc)

/-- the statement -/
theorem proved : Rows.PackVarySaid :=
  over
#print axioms proved
end Go.Proofs.Ytnhglgmjmicaoaa.packVary
