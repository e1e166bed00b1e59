/-
  For every input the law PackMost returns true and leaves its arguments as they were. No condition.
-/
import Derived.Test.YtnhglgmjmicaoaaFrame
import Derived.Test.YtnhglgmjmicaoaaPackExamples
namespace Go.Proofs.Ytnhglgmjmicaoaa.packMost
open Go.ChangeShapes Go.WideShapes Go.ChangeAt Go.RowKit
open Go.ChangeMaps (open_string shut_string)
set_option linter.unusedVariables false
set_option linter.unusedSimpArgs false

theorem app_list (a b : ByteArray) : (a ++ b).data.toList = a.data.toList ++ b.data.toList := by
  rw [ByteArray.data_append, Array.toList_append]
theorem app_S (s x : ByteArray) : P.S (s.data.toList ++ x.data.toList) = s ++ x := by
  rw [← P.S_append, P.S_of, P.S_of]
theorem rv_text (s x : ByteArray) (hs : s.size < 2 ^ 64) : P.RV (textS s ++ x) false = (s.size, s ++ x, false) := by
  unfold P.RV
  rw [app_list, textS_list, P.S_list, List.append_assoc, if_neg (by decide), P.rvary_vary _ _ hs]
  show (s.size, P.S (s.data.toList ++ x.data.toList), false) = _
  rw [app_S]
theorem size_app (s x : ByteArray) : (s ++ x).size = s.size + x.size := by simp
theorem ext_left (s x : ByteArray) : (s ++ x).extract 0 s.size = s := by
  rw [P.ext_head, app_list, ← P.len_list s, List.take_left, P.S_of]
theorem ext_right (s x : ByteArray) : (s ++ x).extract s.size (s ++ x).size = x := by
  rw [P.ext_rest, app_list, ← P.len_list s, List.drop_left, P.S_of]
theorem rt_yes (s x : ByteArray) (m : Int) (hs : s.size < 2 ^ 64) (h : (s.size : Int) ≤ m) : P.RT (textS s ++ x) false m = (s, x, false) := by
  rw [P.RT_yes _ _ _ _ m (rv_text s x hs) (by rw [size_app]; omega), ext_left, ext_right]
theorem rt_no (s x : ByteArray) (m : Int) (hs : s.size < 2 ^ 64) (h : m < (s.size : Int)) : P.RT (textS s ++ x) false m = (⟨#[]⟩, ⟨#[]⟩, true) :=
  P.RT_no _ _ _ _ m (rv_text s x hs) (Or.inl h)

set_option maxHeartbeats 400000 in
theorem walk_yes (s : ByteArray) (most m : Int) (near : Bool) (hs : s.size ≤ 140737488351232) (hm1 : -9223372036854775808 ≤ most) (hm2 : most ≤ 9223372036854775807) (hn : near = true → most.tmod 40 = m) (hn' : near = false → most = m) (hm3 : m ≤ 9223372036854775807) (h : (s.size : Int) ≤ m) (w : World) :
    Calls Try.prog 8 #[.string s, .int .i64 most, .bool near] w fun e w' => e = .returned (.bool true) ∧ Below w.heap.size w w' := by
  have ht := textS_size s
  have hx : (textS s ++ { data := #[120] }).size = (textS s).size + 1 := size_app _ _
  have hts : (textS s).size ≤ 140737488351300 := by omega
  have C : Hid _ := fun w => rtext_any (textS s ++ { data := #[120] }) false m s { data := #[120] } false w (by rw [hx]; unfold maxLen; omega) hm3 (rt_yes s _ m (by omega) h)
  have T : Hid _ := fun w => text_any s w (by omega)
  generalize textS s = t at *
  clear ht hx
  cases near with
  | true =>
    have hm := hn rfl
    clear hn hn'
    go_enter Try.func8, Try.ntmps8
    go_wp2_with fail
    refine (examples_any _).mono ?_; rintro e w1 ⟨rfl, hb1⟩
    go_wp2_with fail
    refine (T.out _).mono ?_; rintro e w2 ⟨rfl, hb2⟩
    go_wp2_with fail
    refine (C.out _).mono ?_; rintro e w3 ⟨rfl, hb3⟩
    have B3 := (hb1.trans (hb2.mono hb1.size)).trans (hb3.mono (Nat.le_trans hb1.size hb2.size))
    clear hb1 hb2 hb3
    have z := B3.size
    go_wp2_with fail
    go_ret
    exact ⟨rfl, B3.alloc z _⟩
  | false =>
    have hm := hn' rfl
    subst hm
    clear hn hn'
    go_enter Try.func8, Try.ntmps8
    go_wp2_with fail
    refine (examples_any _).mono ?_; rintro e w1 ⟨rfl, hb1⟩
    go_wp2_with fail
    refine (T.out _).mono ?_; rintro e w2 ⟨rfl, hb2⟩
    go_wp2_with fail
    refine (C.out _).mono ?_; rintro e w3 ⟨rfl, hb3⟩
    have B3 := (hb1.trans (hb2.mono hb1.size)).trans (hb3.mono (Nat.le_trans hb1.size hb2.size))
    clear hb1 hb2 hb3
    have z := B3.size
    go_wp2_with fail
    go_ret
    exact ⟨rfl, B3.alloc z _⟩

set_option maxHeartbeats 400000 in
theorem walk_no (s : ByteArray) (most m : Int) (near : Bool) (hs : s.size ≤ 140737488351232) (hm1 : -9223372036854775808 ≤ most) (hm2 : most ≤ 9223372036854775807) (hn : near = true → most.tmod 40 = m) (hn' : near = false → most = m) (hm3 : m ≤ 9223372036854775807) (h : m < (s.size : Int)) (w : World) :
    Calls Try.prog 8 #[.string s, .int .i64 most, .bool near] w fun e w' => e = .returned (.bool true) ∧ Below w.heap.size w w' := by
  have ht := textS_size s
  have hx : (textS s ++ { data := #[120] }).size = (textS s).size + 1 := size_app _ _
  have hts : (textS s).size ≤ 140737488351300 := by omega
  have C : Hid _ := fun w => rtext_any (textS s ++ { data := #[120] }) false m { data := #[] } { data := #[] } true w (by rw [hx]; unfold maxLen; omega) hm3 (rt_no s _ m (by omega) h)
  have T : Hid _ := fun w => text_any s w (by omega)
  have d : decide ((s.size : Int) ≤ m) = false := by simp; omega
  generalize textS s = t at *
  clear ht hx
  cases near with
  | true =>
    have hm := hn rfl
    clear hn hn'
    go_enter Try.func8, Try.ntmps8
    go_wp2_with fail
    refine (examples_any _).mono ?_; rintro e w1 ⟨rfl, hb1⟩
    go_wp2_with fail
    refine (T.out _).mono ?_; rintro e w2 ⟨rfl, hb2⟩
    go_wp2_with fail
    refine (C.out _).mono ?_; rintro e w3 ⟨rfl, hb3⟩
    have B3 := (hb1.trans (hb2.mono hb1.size)).trans (hb3.mono (Nat.le_trans hb1.size hb2.size))
    clear hb1 hb2 hb3
    have z := B3.size
    go_wp2_with fail
    go_ret
    exact ⟨rfl, B3.alloc z _⟩
  | false =>
    have hm := hn' rfl
    subst hm
    clear hn hn'
    go_enter Try.func8, Try.ntmps8
    go_wp2_with fail
    refine (examples_any _).mono ?_; rintro e w1 ⟨rfl, hb1⟩
    go_wp2_with fail
    refine (T.out _).mono ?_; rintro e w2 ⟨rfl, hb2⟩
    go_wp2_with fail
    refine (C.out _).mono ?_; rintro e w3 ⟨rfl, hb3⟩
    have B3 := (hb1.trans (hb2.mono hb1.size)).trans (hb3.mono (Nat.le_trans hb1.size hb2.size))
    clear hb1 hb2 hb3
    have z := B3.size
    go_wp2_with fail
    go_ret
    exact ⟨rfl, B3.alloc z _⟩

theorem i64_of (a : Int) (h : (Lit.int .i64 a).wf = true) : -9223372036854775808 ≤ a ∧ a ≤ 9223372036854775807 := by
  simpa [Lit.wf, IntKind.min, IntKind.max, IntKind.signed, IntKind.bits] using h
theorem tmod_40 (a : Int) : a.tmod 40 ≤ 9223372036854775807 := by
  have := Int.tmod_lt_of_pos a (show (0 : Int) < 40 by decide)
  omega

theorem walk (a0 : ByteArray) (a1 : Int) (a2 : Bool) (z0 : a0.size ≤ 140737488351232) (w1 : (Lit.int .i64 a1).wf = true) (w : World) :
    Calls Try.prog 8 #[.string a0, .int .i64 a1, .bool a2] w fun e w' => e = .returned (.bool true) ∧ Below w.heap.size w w' := by
  obtain ⟨h1, h2⟩ := i64_of a1 w1
  obtain ⟨m, hn, hn', hm⟩ : ∃ m, (a2 = true → a1.tmod 40 = m) ∧ (a2 = false → a1 = m) ∧ m ≤ 9223372036854775807 := by
    cases a2 with
    | true => exact ⟨a1.tmod 40, fun _ => rfl, fun h => (by cases h), tmod_40 a1⟩
    | false => exact ⟨a1, fun h => (by cases h), fun _ => rfl, h2⟩
  by_cases h : (a0.size : Int) ≤ m
  · exact walk_yes a0 a1 m a2 z0 h1 h2 hn hn' hm h w
  · exact walk_no a0 a1 m a2 z0 h1 h2 hn hn' hm (by omega) w

set_option maxRecDepth 100000 in
theorem lifted (os : Os) (started : os.Started) (H : Type) (enc : TypeId × Value → H) :
    ReturnsInHanded {} Try.checked os 8 .any (Rows.packMostSpec.pre6 enc Try.prog Try.f8 Rows.packMostRow.domain false) (Rows.packMostSpec.post enc Try.prog Try.f8 false true false false) := by
  refine returnsInHanded_of_change_sized (C := Try.checked) own started (by kernel_rfl) Try.func8
    (ChangeSpec.witness6 (enc := enc) (C := Try.checked) false ⟨#[], #[.string ByteArray.empty, .int .i64 0, .bool false], []⟩ 8 (by kernel_rfl) (by kernel_rfl) (by kernel_rfl) (by kernel_rfl)) ?_
  intro W base args ds gs before hval0 hW hcnd hsz0 _
  have hval : ∀ (j : Nat) t v, Try.f8.params[j]? = some t → args[j]? = some v → Value.okWide Try.prog W .any base t v := hval0
  have hW' := hW
  obtain ⟨p, q, hA0, hV, rfl, hfz, hnd⟩ := hW
  have hA : DataW.TrodAll enc Try.prog W 0 (fun _ => true) true Try.f8.params.toList args.toList ds p := hA0
  have hsz : (DataW.weightsEach Try.prog (Try.f8.params.toList ++ Rows.packMostSpec.plain.varTypes Try.prog) (ds ++ gs)).all (· ≤ reachBytes) = true := hsz0
  rw [Try.params8] at hA hval hsz
  obtain ⟨rfl, rfl⟩ := trodVars_none hV
  have hAk := hA
  have hlt : ∀ x ∈ p, x.block < W.heap.size := fun x hx => by simpa using hW'.lt x (List.mem_append.2 (.inl hx))
  obtain ⟨v0, vs0, d0, ds0, p0, q0, hargs, rfl, rfl, h0, r0⟩ := trodAll_cons hA
  obtain ⟨v1, vs1, d1, ds1, p1, q1, rfl, rfl, rfl, h1, r1⟩ := trodAll_cons r0
  obtain ⟨v2, vs2, d2, ds2, p2, q2, rfl, rfl, rfl, h2, r2⟩ := trodAll_cons r1
  obtain ⟨rfl, rfl, rfl⟩ := trodAll_nil r2
  obtain rfl : args = #[v0, v1, v2] := by cases args; simp_all
  obtain ⟨a0, rfl, rfl, rfl, w0⟩ := open_string Try.underlying9 (hval 0 9 v0 rfl rfl) h0
  have z0 := sized_string hsz (j := 0) (t := 9) rfl rfl
  obtain ⟨a1, rfl, rfl, rfl, w1⟩ := open_int Try.underlying3 (hval 1 3 v1 rfl rfl) h1
  obtain ⟨a2, rfl, rfl, rfl⟩ := open_bool Try.underlying4 (hval 2 4 v2 rfl rfl) h2
  clear hA0 hval0 hsz0
  refine (walk a0 a1 a2 (by rw [Array.length_toList] at z0; exact z0) w1 W).mono fun e W' ⟨he, hg⟩ => ?_
  subst he
  exact ⟨_, rfl, _, _, _, [], _, [], hW', (trodAll_cons_mk (shut_bool Try.underlying4 _) trodAll_mk0), trodAll_below laidOut hg _ _ _ _ (by kernel_rfl) hAk hlt, rfl, hg.frame _, fun h => by cases h⟩

theorem over : Rows.packMostRow.holds Try.pinned (OpenSpec.ofChange Rows.packMostSpec) :=
  OpenClaim.holds_of_wide 8 Try.f8 rfl rfl rfl rfl rfl rfl rfl ⟨rfl, rfl, rfl, rfl, rfl⟩ rfl rfl rfl rfl rfl (by kernel_rfl) Try.func8 (by kernel_rfl)
    (of_decide_eq_true (by kernel_rfl)) (by unfold Func.isWrapper; first | (rw [if_pos (by decide +kernel)]; kernel_rfl) | (rw [if_neg (by decide +kernel)]; exact ⟨rfl, rfl⟩))
    (fun os started H enc _ => lifted os started H enc)

/-- the statement -/
theorem proved : Rows.PackMostSaid :=
  over
#print axioms proved
end Go.Proofs.Ytnhglgmjmicaoaa.packMost
