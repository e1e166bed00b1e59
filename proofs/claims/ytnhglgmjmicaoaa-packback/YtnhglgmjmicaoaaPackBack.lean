/-
  For every input the law PackBack returns true and leaves its arguments as they were. No condition.
-/
import Derived.Test.YtnhglgmjmicaoaaFrame
import Derived.Test.YtnhglgmjmicaoaaPackExamples
import Derived.Deep.DeepCutAuto
namespace Go.Proofs.Ytnhglgmjmicaoaa.packBack
open Go.ChangeShapes Go.WideShapes Go.ChangeAt Go.RowKit
open Go.ChangeMaps (open_string shut_string)
set_option linter.unusedVariables false
set_option linter.unusedSimpArgs false

set_option maxHeartbeats 2000000 in
set_option maxRecDepth 100000 in
theorem walk_any (a a0 b size k cut : Nat) (s s' rest N V T u1 u2 d1 d2 d3 t3 : ByteArray) (n1 n2 : Nat) (e1 e2 : Bool) (j : Nat)
    (hsz : size < 256) (hk : (1 : Int) + (size : Int) % 8 = (k : Int)) (h8 : k ≤ 8) (h1 : 1 ≤ k) (hcut : cut < 65536)
    (HA8 : Hid (k = 8 → a = a0)) (HA7 : Hid (k < 8 → ∃ p : Nat, IntKind.u64.wrap (2 ^ (8 * k)) = (p : Int) ∧ 0 < p ∧ (a0 : Int) % (p : Int) = (a : Int)))
    (hs : s.size ≤ 140737488351232) (hr : rest.size ≤ 140737488351232) (HS1 : Hid (s.size ≤ 300 → s.extract 0 s.size = s')) (HS2 : Hid (300 < s.size → s.extract 0 300 = s'))
    (hN : N.size ≤ 8) (hV : V.size ≤ 10) (hT : T.size ≤ 400) (hne : Hid ((N ++ V ++ T).toList.isEmpty = false)) (hj : Hid ((cut : Int) % ((N ++ V ++ T).size : Int) = (j : Int))) (hj2 : Hid (j < (N ++ V ++ T).size))
    (CN : Hid (∀ w, Calls Try.prog 18 #[.int .u64 a, .int .i64 k] w fun e w' => e = .returned (.string N) ∧ Below w.heap.size w w'))
    (CV : Hid (∀ w, Calls Try.prog 20 #[.int .u64 b] w fun e w' => e = .returned (.string V) ∧ Below w.heap.size w w'))
    (CT : Hid (∀ w, Calls Try.prog 22 #[.string s'] w fun e w' => e = .returned (.string T) ∧ Below w.heap.size w w'))
    (R1 : Hid (∀ w, Calls Try.prog 10 #[.agg #[.string (N ++ V ++ T ++ rest), .bool false], .int .i64 k] w fun e w' => e = .returned (.tuple #[.int .u64 a, .agg #[.string u1, .bool false]]) ∧ Below w.heap.size w w'))
    (R2 : Hid (∀ w, Calls Try.prog 12 #[.agg #[.string u1, .bool false]] w fun e w' => e = .returned (.tuple #[.int .u64 b, .agg #[.string u2, .bool false]]) ∧ Below w.heap.size w w'))
    (R3 : Hid (∀ w, Calls Try.prog 14 #[.agg #[.string u2, .bool false], .int .i64 300] w fun e w' => e = .returned (.tuple #[.string s', .agg #[.string rest, .bool false]]) ∧ Below w.heap.size w w'))
    (D1 : Hid (∀ w, Calls Try.prog 10 #[.agg #[.string ((N ++ V ++ T).extract 0 j), .bool false], .int .i64 k] w fun e w' => e = .returned (.tuple #[.int .u64 n1, .agg #[.string d1, .bool e1]]) ∧ Below w.heap.size w w'))
    (D2 : Hid (∀ w, Calls Try.prog 12 #[.agg #[.string d1, .bool e1]] w fun e w' => e = .returned (.tuple #[.int .u64 n2, .agg #[.string d2, .bool e2]]) ∧ Below w.heap.size w w'))
    (D3 : Hid (∀ w, Calls Try.prog 14 #[.agg #[.string d2, .bool e2], .int .i64 300] w fun e w' => e = .returned (.tuple #[.string t3, .agg #[.string d3, .bool true]]) ∧ Below w.heap.size w w'))
    (D4 : Hid (∀ w, Calls Try.prog 12 #[.agg #[.string d3, .bool true]] w fun e w' => e = .returned (.tuple #[.int .u64 0, .agg #[.string ⟨#[]⟩, .bool true]]) ∧ Below w.heap.size w w'))
    (w : World) :
    Calls Try.prog 4 #[.int .u64 a0, .int .u64 b, .int .u8 size, .string s, .string rest, .int .u16 cut] w fun e w' => e = .returned (.bool true) ∧ Below w.heap.size w w' := by
  go_enter Try.func4, Try.ntmps4
  go_wp2_with fail
  refine (examples_any _).mono ?_; rintro e w1 ⟨rfl, hb1⟩
  go_upto_if 38 with fail
  go_cut [0] (fun x wx => x = .int .u64 (a : Int) ∧ wx = w1)
  case first =>
    by_cases h7 : k < 8
    · obtain ⟨p, hp, hp0, hpa⟩ := HA7.out h7
      have HPA : Hid _ := hpa
      clear hpa
      have dp : ((p : Int) == 0) = false := by rw [beq_eq_false_iff_ne]; omega
      go_wp2_with fail
      go_meet
      rw [HPA.out]
      exact ⟨rfl, rfl⟩
    · have ha : Hid (a = a0) := HA8.out (by omega)
      go_wp2_with fail
      go_meet
      rw [ha.out]
      exact ⟨rfl, rfl⟩
  case rest =>
  obtain ⟨rfl, rfl⟩ := hcut
  clear HA7 HA8
  go_upto_region 7 with fail
  go_cut [3] (fun x wx => x = .string s' ∧ wx = wc)
  case first =>
    by_cases h3 : s.size ≤ 300
    · have he := HS1.out h3
      go_wp2_with fail
      all_goals
        go_meet
        exact ⟨rfl, rfl⟩
    · have he := HS2.out (by omega)
      go_wp2_with fail
      all_goals
        go_meet
        exact ⟨rfl, rfl⟩
  case rest =>
  obtain ⟨rfl, rfl⟩ := hcut
  clear HS1 HS2
  have B1 := hb1
  have y1 := hb1.size
  clear hb1
  go_wp2_with fail
  refine (CN.out _).mono ?_; rintro e w2 ⟨rfl, hb2⟩
  have z2 := hb2.size
  have B2 : Below w.heap.size w w2 := B1.trans (hb2.mono (by omega))
  clear hb2 B1
  go_wp2_with fail
  refine (CV.out _).mono ?_; rintro e w3 ⟨rfl, hb3⟩
  have z3 := hb3.size
  have B3 : Below w.heap.size w w3 := B2.trans (hb3.mono (by omega))
  clear hb3 B2
  go_wp2_with fail
  refine (CT.out _).mono ?_; rintro e w4 ⟨rfl, hb4⟩
  have z4 := hb4.size
  have B4 : Below w.heap.size w w4 := B3.trans (hb4.mono (by omega))
  clear hb4 B3
  go_upto_region 9 with fail
  have hszA : (N ++ V ++ T).size ≤ 1000 := by simp; omega
  clear CN CV CT
  generalize N ++ V ++ T = A at *
  have hne' := hne.out
  have hjj := hj.out
  have hjl := hj2.out
  have hA0 : 0 < A.size := by omega
  have dA : ((A.size : Int) == 0) = false := by rw [beq_eq_false_iff_ne]; omega
  go_wp2_with fail
  refine (R1.out _).mono ?_; rintro e w5 ⟨rfl, hb5⟩
  have z5 := hb5.size
  have B5 : Below w.heap.size w w5 := B4.trans (hb5.mono (by omega))
  clear hb5 B4
  go_wp2_with fail
  refine (R2.out _).mono ?_; rintro e w6 ⟨rfl, hb6⟩
  have z6 := hb6.size
  simp at z6
  have B6 : Below w.heap.size w w6 := (B5.alloc (by omega) _).trans (hb6.mono (by first | omega | (simp <;> omega)))
  clear hb6 B5
  go_wp2_with fail
  refine (R3.out _).mono ?_; rintro e w7 ⟨rfl, hb7⟩
  have z7 := hb7.size
  simp at z7
  have B7 : Below w.heap.size w w7 := (B6.alloc (by omega) _).trans (hb7.mono (by first | omega | (simp <;> omega)))
  clear hb7 B6
  go_wp2_with fail
  refine (D1.out _).mono ?_; rintro e w8 ⟨rfl, hb8⟩
  have z8 := hb8.size
  simp at z8
  have B8 : Below w.heap.size w w8 := (B7.alloc (by omega) _).trans (hb8.mono (by first | omega | (simp <;> omega)))
  have r0_8 := bcells hb8 (b := w7.heap.size) (o := 0) (v := .string rest) (by first | omega | (simp <;> omega)) (by simp [go_sem])
  have r1_8 := bcells hb8 (b := w7.heap.size) (o := 1) (v := .bool false) (by first | omega | (simp <;> omega)) (by simp [go_sem])
  clear hb8 B7
  go_wp2_with fail
  refine (D2.out _).mono ?_; rintro e w9 ⟨rfl, hb9⟩
  have z9 := hb9.size
  simp at z9
  have B9 : Below w.heap.size w w9 := (B8.alloc (by omega) _).trans (hb9.mono (by first | omega | (simp <;> omega)))
  have r0_9 := bcells hb9 (b := w7.heap.size) (o := 0) (v := .string rest) (by first | omega | (simp <;> omega)) (by rw [World.cell?_alloc_past _ _ _ (by omega)]; exact r0_8)
  have r1_9 := bcells hb9 (b := w7.heap.size) (o := 1) (v := .bool false) (by first | omega | (simp <;> omega)) (by rw [World.cell?_alloc_past _ _ _ (by omega)]; exact r1_8)
  clear hb9 B8 r0_8 r1_8
  go_wp2_with fail
  refine (D3.out _).mono ?_; rintro e w10 ⟨rfl, hb10⟩
  have z10 := hb10.size
  simp at z10
  have B10 : Below w.heap.size w w10 := (B9.alloc (by omega) _).trans (hb10.mono (by first | omega | (simp <;> omega)))
  have r0_10 := bcells hb10 (b := w7.heap.size) (o := 0) (v := .string rest) (by first | omega | (simp <;> omega)) (by rw [World.cell?_alloc_past _ _ _ (by omega)]; exact r0_9)
  have r1_10 := bcells hb10 (b := w7.heap.size) (o := 1) (v := .bool false) (by first | omega | (simp <;> omega)) (by rw [World.cell?_alloc_past _ _ _ (by omega)]; exact r1_9)
  clear hb10 B9 r0_9 r1_9
  go_wp2_with fail
  refine (D4.out _).mono ?_; rintro e w11 ⟨rfl, hb11⟩
  have z11 := hb11.size
  simp at z11
  have B11 : Below w.heap.size w w11 := (B10.alloc (by omega) _).trans (hb11.mono (by first | omega | (simp <;> omega)))
  have r0_11 := bcells hb11 (b := w7.heap.size) (o := 0) (v := .string rest) (by first | omega | (simp <;> omega)) (by rw [World.cell?_alloc_past _ _ _ (by omega)]; exact r0_10)
  have r1_11 := bcells hb11 (b := w7.heap.size) (o := 1) (v := .bool false) (by first | omega | (simp <;> omega)) (by rw [World.cell?_alloc_past _ _ _ (by omega)]; exact r1_10)
  have c3_11 := bcells hb11 (b := w10.heap.size) (o := 1) (v := .bool true) (by first | omega | (simp <;> omega)) (by simp [go_sem])
  clear hb11 B10 r0_10 r1_10
  have hrr : (rest.toList == rest.toList) = true := by simp
  have hss : (s'.toList == s'.toList) = true := by simp
  have x0 : (w11.alloc (Obj.cells #[.string ⟨#[]⟩, .bool true] 23)).cell? ⟨w7.heap.size, 0, none⟩ = some (.string rest) := by rw [World.cell?_alloc_past _ _ _ (by omega)]; exact r0_11
  have x1 : (w11.alloc (Obj.cells #[.string ⟨#[]⟩, .bool true] 23)).cell? ⟨w7.heap.size, 1, none⟩ = some (.bool false) := by rw [World.cell?_alloc_past _ _ _ (by omega)]; exact r1_11
  go_wp2_with fail
  refine (done_any _ _ _).mono ?_; rintro e w12 ⟨rfl, hb12⟩
  have z12 := hb12.size
  simp at z12
  have B12 : Below w.heap.size w w12 := (B11.alloc (by omega) _).trans (hb12.mono (by first | omega | (simp <;> omega)))
  have c3_12 := bcells hb12 (b := w10.heap.size) (o := 1) (v := .bool true) (by first | omega | (simp <;> omega)) (by rw [World.cell?_alloc_past _ _ _ (by omega)]; exact c3_11)
  have c40_12 := bcells hb12 (b := w11.heap.size) (o := 0) (v := .string ⟨#[]⟩) (by first | omega | (simp <;> omega)) (by simp [go_sem])
  have c41_12 := bcells hb12 (b := w11.heap.size) (o := 1) (v := .bool true) (by first | omega | (simp <;> omega)) (by simp [go_sem])
  clear hb12 B11 c3_11
  go_wp2_with fail
  refine (done_any _ _ _).mono ?_; rintro e w13 ⟨rfl, hb13⟩
  have z13 := hb13.size
  have B13 : Below w.heap.size w w13 := B12.trans (hb13.mono (by omega))
  have c40_13 := bcells hb13 (b := w11.heap.size) (o := 0) (v := .string ⟨#[]⟩) (by first | omega | (simp <;> omega)) c40_12
  have c41_13 := bcells hb13 (b := w11.heap.size) (o := 1) (v := .bool true) (by first | omega | (simp <;> omega)) c41_12
  clear hb13 B12 c40_12 c41_12
  go_wp2_with fail
  go_ret
  exact ⟨rfl, B13⟩

theorem app_list (a b : ByteArray) : (a ++ b).data.toList = a.data.toList ++ b.data.toList := by
  rw [ByteArray.data_append, Array.toList_append]
theorem rn_yes (a k : Nat) (t : List UInt8) (h0 : 1 ≤ k) (h8 : k ≤ 8) (hn : a < 256 ^ k) : P.RN (P.S (P.numB a k ++ t)) false k = (a, P.S t, false) := by
  unfold P.RN
  rw [if_neg (by decide), P.S_list, P.rnum_numB a k t h0 h8 hn]; rfl
theorem rv_yes (b : Nat) (t : List UInt8) (hb : b < 2 ^ 64) : P.RV (P.S (P.vary b ++ t)) false = (b, P.S t, false) := by
  unfold P.RV
  rw [if_neg (by decide), P.S_list, P.rvary_vary b t hb]; rfl
theorem rv_none (l : List UInt8) (h : P.rvary l = none) : P.RV (P.S l) false = (0, ⟨#[]⟩, true) := by
  unfold P.RV
  rw [if_neg (by decide), P.S_list, h]; rfl
theorem rt_yes (l t : List UInt8) (m : Int) (h64 : l.length < 2 ^ 64) (h : (l.length : Int) ≤ m) : P.RT (P.S (P.vary l.length ++ (l ++ t))) false m = (P.S l, P.S t, false) := by
  rw [P.RT_yes _ _ _ _ m (rv_yes l.length (l ++ t) h64) (by rw [P.S_size, List.length_append]; omega), P.ext_head, P.ext_rest, P.S_list, List.take_left, List.drop_left]
theorem rt_no (l t : List UInt8) (n : Nat) (m : Int) (hn : n < 2 ^ 64) (h : t.length < n) : P.RT (P.S (P.vary n ++ t)) false m = (⟨#[]⟩, ⟨#[]⟩, true) :=
  P.RT_no _ _ _ _ m (rv_yes n t hn) (Or.inr (by rw [P.S_size]; exact h))

theorem cut_bad (a b k j : Nat) (l : List UInt8) (h0 : 1 ≤ k) (h8 : k ≤ 8) (hn : a < 256 ^ k) (hb : b < 2 ^ 64) (hl : l.length ≤ 300) (hj : j < (P.numB a k ++ (P.vary b ++ (P.vary l.length ++ l))).length) :
    ∃ n1 d1 e1 n2 d2 e2, P.RN (P.S ((P.numB a k ++ (P.vary b ++ (P.vary l.length ++ l))).take j)) false k = (n1, d1, e1) ∧ P.RV d1 e1 = (n2, d2, e2) ∧ P.RT d2 e2 300 = (⟨#[]⟩, ⟨#[]⟩, true) ∧ d1.size ≤ 1000 ∧ d2.size ≤ 1000 := by
  have hkl := P.numB_length a k
  have hvl := P.vary_le b
  have hml := P.vary_le l.length
  simp only [List.length_append] at hj
  by_cases c1 : j < k
  · refine ⟨0, ⟨#[]⟩, true, 0, ⟨#[]⟩, true, ?_, rfl, rfl, by decide, by decide⟩
    unfold P.RN P.rnum
    rw [if_neg (by decide), P.S_list, if_pos (by rw [List.length_take]; omega)]; rfl
  · have e1 : (P.numB a k ++ (P.vary b ++ (P.vary l.length ++ l))).take j = P.numB a k ++ (P.vary b ++ (P.vary l.length ++ l)).take (j - k) := by
      rw [List.take_append, hkl, List.take_of_length_le (by omega)]
    rw [e1, rn_yes a k _ h0 h8 hn]
    by_cases c2 : j - k < (P.vary b).length
    · have e2 : (P.vary b ++ (P.vary l.length ++ l)).take (j - k) = (P.vary b).take (j - k) := by
        rw [List.take_append_of_le_length (by omega)]
      refine ⟨_, _, _, 0, ⟨#[]⟩, true, rfl, ?_, rfl, ?_, by decide⟩
      · rw [e2]; exact rv_none _ (P.vary_cut b _ c2)
      · rw [P.S_size, e2, List.length_take]; omega
    · have e2 : (P.vary b ++ (P.vary l.length ++ l)).take (j - k) = P.vary b ++ (P.vary l.length ++ l).take (j - k - (P.vary b).length) := by
        rw [List.take_append, List.take_of_length_le (by omega)]
      refine ⟨_, _, _, b, P.S ((P.vary l.length ++ l).take (j - k - (P.vary b).length)), false, rfl, ?_, ?_, ?_, ?_⟩
      · rw [e2]; exact rv_yes b _ hb
      · by_cases c3 : j - k - (P.vary b).length < (P.vary l.length).length
        · rw [List.take_append_of_le_length (by omega)]
          exact P.RT_bad _ _ _ _ _ (rv_none _ (P.vary_cut _ _ c3))
        · rw [List.take_append, List.take_of_length_le (by omega)]
          refine rt_no l _ _ _ (by omega) ?_
          rw [List.length_take]; omega
      · rw [P.S_size, e2]; simp only [List.length_append, List.length_take]; omega
      · rw [P.S_size]; simp only [List.length_take, List.length_append]; omega

theorem u64_of (a : Int) (h : (Lit.int .u64 a).wf = true) : ∃ x : Nat, a = (x : Int) ∧ x < 2 ^ 64 := by
  have hx : 0 ≤ a ∧ a ≤ 18446744073709551615 := by simpa [Lit.wf, IntKind.min, IntKind.max, IntKind.signed, IntKind.bits] using h
  exact ⟨a.toNat, by omega, by omega⟩
theorem wrap_pow (k : Nat) (h : k < 8) : IntKind.u64.wrap (2 ^ (8 * k)) = ((256 ^ k : Nat) : Int) ∧ 256 ^ k < 2 ^ 64 := by
  have h1 : 256 ^ k ≤ 256 ^ 7 := Nat.pow_le_pow_right (by omega) (by omega)
  have h2 : (256 : Nat) ^ 7 < 2 ^ 64 := by decide
  have h3 : (2 : Nat) ^ (8 * k) = 256 ^ k := by rw [Nat.pow_mul]
  have e : (2 : Int) ^ (8 * k) = ((256 ^ k : Nat) : Int) := by rw [← h3]; simp
  rw [e, IntKind.wrap_u64]
  generalize 256 ^ k = q at *
  omega

theorem walk_k (a a0 b size k cut : Nat) (s s' rest : ByteArray) (hsz : size < 256) (hk : (1 : Int) + (size : Int) % 8 = (k : Int)) (h8 : k ≤ 8) (h1 : 1 ≤ k) (hcut : cut < 65536)
    (HA8 : k = 8 → a = a0) (HA7 : k < 8 → ∃ p : Nat, IntKind.u64.wrap (2 ^ (8 * k)) = (p : Int) ∧ 0 < p ∧ (a0 : Int) % (p : Int) = (a : Int)) (ha : a < 256 ^ k) (ha64 : a < 2 ^ 64) (hb : b < 2 ^ 64)
    (hs : s.size ≤ 140737488351232) (hr : rest.size ≤ 140737488351232) (HS1 : s.size ≤ 300 → s.extract 0 s.size = s') (HS2 : 300 < s.size → s.extract 0 300 = s') (hs' : s'.size ≤ 300) (w : World) :
    Calls Try.prog 4 #[.int .u64 a0, .int .u64 b, .int .u8 size, .string s, .string rest, .int .u16 cut] w fun e w' => e = .returned (.bool true) ∧ Below w.heap.size w w' := by
  obtain ⟨l, rfl⟩ : ∃ l, s' = P.S l := ⟨_, (P.S_of s').symm⟩
  obtain ⟨r, rfl⟩ : ∃ r, rest = P.S r := ⟨_, (P.S_of rest).symm⟩
  rw [P.S_size] at hs' hr
  have hkl := P.numB_length a k
  have hvl := P.vary_le b
  have hml := P.vary_le l.length
  have eT : textS (P.S l) = P.S (P.vary l.length ++ l) := by rw [textS_list, P.S_size, P.S_list]
  have eA : P.S (P.numB a k) ++ P.S (P.vary b) ++ textS (P.S l) = P.S (P.numB a k ++ (P.vary b ++ (P.vary l.length ++ l))) := by
    rw [eT, P.S_append, P.S_append, List.append_assoc]
  have hlen : (P.numB a k ++ (P.vary b ++ (P.vary l.length ++ l))).length = k + ((P.vary b).length + ((P.vary l.length).length + l.length)) := by
    simp only [List.length_append, hkl]
  have hA0 : (P.S (P.numB a k ++ (P.vary b ++ (P.vary l.length ++ l)))).size = k + ((P.vary b).length + ((P.vary l.length).length + l.length)) := by rw [P.S_size, hlen]
  obtain ⟨j, hj1, hj2⟩ : ∃ j : Nat, (cut : Int) % ((P.S (P.numB a k ++ (P.vary b ++ (P.vary l.length ++ l)))).size : Int) = (j : Int) ∧ j < (P.S (P.numB a k ++ (P.vary b ++ (P.vary l.length ++ l)))).size := by
    refine ⟨cut % (P.S (P.numB a k ++ (P.vary b ++ (P.vary l.length ++ l)))).size, (Int.natCast_emod _ _).symm, Nat.mod_lt _ (by omega)⟩
  obtain ⟨n1, d1, e1, n2, d2, e2, q1, q2, q3, z1, z2⟩ := cut_bad a b k j l h1 h8 ha hb hs' (by rw [hlen]; omega)
  refine walk_any a a0 b size k cut s (P.S l) (P.S r) (P.S (P.numB a k)) (P.S (P.vary b)) (textS (P.S l)) (P.S ((P.vary b ++ (P.vary l.length ++ l)) ++ r)) (P.S (P.vary l.length ++ (l ++ r))) d1 d2 ⟨#[]⟩ ⟨#[]⟩ n1 n2 e1 e2 j hsz hk h8 h1 hcut HA8 HA7 hs (by rw [P.S_size]; exact hr) HS1 HS2
    (by rw [P.S_size, hkl]; exact h8) (by rw [P.S_size]; exact hvl) (by rw [eT, P.S_size, List.length_append]; omega) ?_ (by rw [eA]; exact hj1) (by rw [eA]; exact hj2) ?_ ?_ ?_ ?_ ?_ ?_ ?_ ?_ ?_ ?_ w
  · rw [eA, ByteArray.toList_eq, P.S_list]
    have : (P.numB a k ++ (P.vary b ++ (P.vary l.length ++ l))) ≠ [] := by
      intro h; rw [h] at hlen; simp only [List.length_nil] at hlen; omega
    show List.isEmpty _ = false
    cases h : (P.numB a k ++ (P.vary b ++ (P.vary l.length ++ l))) with
    | nil => exact absurd h this
    | cons x y => rfl
  · exact fun u => number_ok a k u ha64 h1 h8
  · exact fun u => vary_any b u hb
  · exact fun u => text_any (P.S l) u (by rw [P.S_size]; omega)
  · intro u
    rw [eA, P.S_append, List.append_assoc]
    refine rnumber_any _ false k a _ false u ?_ (rn_yes a k _ h1 h8 ha)
    rw [P.S_size]; simp only [List.length_append, hkl]; unfold maxLen; omega
  · intro u
    refine rvary_any _ false b _ false u ?_ ?_
    · rw [P.S_size]; simp only [List.length_append]; unfold maxLen; omega
    · rw [List.append_assoc, List.append_assoc]; exact rv_yes b _ hb
  · intro u
    refine rtext_any _ false 300 _ _ false u ?_ (by omega) (rt_yes l r 300 (by omega) (by omega))
    rw [P.S_size]; simp only [List.length_append]; unfold maxLen; omega
  · intro u
    rw [eA, P.ext_head, P.S_list]
    refine rnumber_any _ false k _ _ _ u ?_ q1
    rw [P.S_size, List.length_take]; unfold maxLen; omega
  · exact fun u => rvary_any d1 e1 n2 d2 e2 u (by unfold maxLen; omega) q2
  · exact fun u => rtext_any d2 e2 300 _ _ true u (by unfold maxLen; omega) (by omega) q3
  · exact fun u => rvary_any _ true 0 _ true u (by decide) rfl

theorem walk (a0 : Int) (a1 : Int) (a2 : Int) (a3 : ByteArray) (a4 : ByteArray) (a5 : Int) (w0 : (Lit.int .u64 a0).wf = true) (w1 : (Lit.int .u64 a1).wf = true) (w2 : (Lit.int .u8 a2).wf = true) (z3 : a3.size ≤ 140737488351232) (z4 : a4.size ≤ 140737488351232) (w5 : (Lit.int .u16 a5).wf = true) (w : World) :
    Calls Try.prog 4 #[.int .u64 a0, .int .u64 a1, .int .u8 a2, .string a3, .string a4, .int .u16 a5] w fun e w' => e = .returned (.bool true) ∧ Below w.heap.size w w' := by
  obtain ⟨a, rfl, ha⟩ := u64_of a0 w0
  obtain ⟨b, rfl, hb⟩ := u64_of a1 w1
  have hx : 0 ≤ a2 ∧ a2 ≤ 255 := by simpa [Lit.wf, IntKind.min, IntKind.max, IntKind.signed, IntKind.bits] using w2
  obtain ⟨size, rfl⟩ := Int.eq_ofNat_of_zero_le hx.1
  have hy : 0 ≤ a5 ∧ a5 ≤ 65535 := by simpa [Lit.wf, IntKind.min, IntKind.max, IntKind.signed, IntKind.bits] using w5
  obtain ⟨cut, rfl⟩ := Int.eq_ofNat_of_zero_le hy.1
  obtain ⟨s', HS1, HS2, hs'⟩ : ∃ s', (a3.size ≤ 300 → a3.extract 0 a3.size = s') ∧ (300 < a3.size → a3.extract 0 300 = s') ∧ s'.size ≤ 300 := by
    by_cases h : a3.size ≤ 300
    · refine ⟨_, fun _ => rfl, fun h2 => absurd h2 (by omega), ?_⟩
      rw [P.ext_head, P.S_size, List.length_take]; omega
    · refine ⟨_, fun h2 => absurd h2 h, fun _ => rfl, ?_⟩
      rw [P.ext_head, P.S_size, List.length_take]; omega
  by_cases h7 : 1 + size % 8 < 8
  · obtain ⟨p1, p2⟩ := wrap_pow (1 + size % 8) h7
    have p3 : 0 < 256 ^ (1 + size % 8) := Nat.pow_pos (by omega)
    refine walk_k (a % 256 ^ (1 + size % 8)) a b size (1 + size % 8) cut a3 s' a4 (by omega) (by omega) (by omega) (by omega) (by omega) (fun h => absurd h (by omega)) (fun _ => ⟨_, p1, p3, (Int.natCast_emod _ _).symm⟩) (Nat.mod_lt _ p3) (Nat.lt_trans (Nat.mod_lt _ p3) p2) hb z3 z4 HS1 HS2 hs' w
  · have e : 1 + size % 8 = 8 := by omega
    have h256 : (256 : Nat) ^ (1 + size % 8) = 2 ^ 64 := by rw [e]
    exact walk_k a a b size (1 + size % 8) cut a3 s' a4 (by omega) (by omega) (by omega) (by omega) (by omega) (fun _ => rfl) (fun h => absurd h (by omega)) (by rw [h256]; exact ha) ha hb z3 z4 HS1 HS2 hs' w

set_option maxRecDepth 100000 in
theorem lifted (os : Os) (started : os.Started) (H : Type) (enc : TypeId × Value → H) :
    ReturnsInHanded {} Try.checked os 4 .any (Rows.packBackSpec.pre6 enc Try.prog Try.f4 Rows.packBackRow.domain false) (Rows.packBackSpec.post enc Try.prog Try.f4 false true false false) := by
  refine returnsInHanded_of_change_sized (C := Try.checked) own started (by kernel_rfl) Try.func4
    (ChangeSpec.witness6 (enc := enc) (C := Try.checked) false ⟨#[], #[.int .u64 0, .int .u64 0, .int .u8 0, .string ByteArray.empty, .string ByteArray.empty, .int .u16 0], []⟩ 8 (by kernel_rfl) (by kernel_rfl) (by kernel_rfl) (by kernel_rfl)) ?_
  intro W base args ds gs before hval0 hW hcnd hsz0 _
  have hval : ∀ (j : Nat) t v, Try.f4.params[j]? = some t → args[j]? = some v → Value.okWide Try.prog W .any base t v := hval0
  have hW' := hW
  obtain ⟨p, q, hA0, hV, rfl, hfz, hnd⟩ := hW
  have hA : DataW.TrodAll enc Try.prog W 0 (fun _ => true) true Try.f4.params.toList args.toList ds p := hA0
  have hsz : (DataW.weightsEach Try.prog (Try.f4.params.toList ++ Rows.packBackSpec.plain.varTypes Try.prog) (ds ++ gs)).all (· ≤ reachBytes) = true := hsz0
  rw [Try.params4] at hA hval hsz
  obtain ⟨rfl, rfl⟩ := trodVars_none hV
  have hAk := hA
  have hlt : ∀ x ∈ p, x.block < W.heap.size := fun x hx => by simpa using hW'.lt x (List.mem_append.2 (.inl hx))
  obtain ⟨v0, vs0, d0, ds0, p0, q0, hargs, rfl, rfl, h0, r0⟩ := trodAll_cons hA
  obtain ⟨v1, vs1, d1, ds1, p1, q1, rfl, rfl, rfl, h1, r1⟩ := trodAll_cons r0
  obtain ⟨v2, vs2, d2, ds2, p2, q2, rfl, rfl, rfl, h2, r2⟩ := trodAll_cons r1
  obtain ⟨v3, vs3, d3, ds3, p3, q3, rfl, rfl, rfl, h3, r3⟩ := trodAll_cons r2
  obtain ⟨v4, vs4, d4, ds4, p4, q4, rfl, rfl, rfl, h4, r4⟩ := trodAll_cons r3
  obtain ⟨v5, vs5, d5, ds5, p5, q5, rfl, rfl, rfl, h5, r5⟩ := trodAll_cons r4
  obtain ⟨rfl, rfl, rfl⟩ := trodAll_nil r5
  obtain rfl : args = #[v0, v1, v2, v3, v4, v5] := by cases args; simp_all
  obtain ⟨a0, rfl, rfl, rfl, w0⟩ := open_int Try.underlying25 (hval 0 25 v0 rfl rfl) h0
  obtain ⟨a1, rfl, rfl, rfl, w1⟩ := open_int Try.underlying25 (hval 1 25 v1 rfl rfl) h1
  obtain ⟨a2, rfl, rfl, rfl, w2⟩ := open_int Try.underlying5 (hval 2 5 v2 rfl rfl) h2
  obtain ⟨a3, rfl, rfl, rfl, w3⟩ := open_string Try.underlying9 (hval 3 9 v3 rfl rfl) h3
  have z3 := sized_string hsz (j := 3) (t := 9) rfl rfl
  obtain ⟨a4, rfl, rfl, rfl, w4⟩ := open_string Try.underlying9 (hval 4 9 v4 rfl rfl) h4
  have z4 := sized_string hsz (j := 4) (t := 9) rfl rfl
  obtain ⟨a5, rfl, rfl, rfl, w5⟩ := open_int Try.underlying44 (hval 5 44 v5 rfl rfl) h5
  clear hA0 hval0 hsz0
  refine (walk a0 a1 a2 a3 a4 a5 w0 w1 w2 (by rw [Array.length_toList] at z3; exact z3) (by rw [Array.length_toList] at z4; exact z4) w5 W).mono fun e W' ⟨he, hg⟩ => ?_
  subst he
  exact ⟨_, rfl, _, _, _, [], _, [], hW', (trodAll_cons_mk (shut_bool Try.underlying4 _) trodAll_mk0), trodAll_below laidOut hg _ _ _ _ (by kernel_rfl) hAk hlt, rfl, hg.frame _, fun h => by cases h⟩

theorem over : Rows.packBackRow.holds Try.pinned (OpenSpec.ofChange Rows.packBackSpec) :=
  OpenClaim.holds_of_wide 4 Try.f4 rfl rfl rfl rfl rfl rfl rfl ⟨rfl, rfl, rfl, rfl, rfl⟩ rfl rfl rfl rfl rfl (by kernel_rfl) Try.func4 (by kernel_rfl)
    (of_decide_eq_true (by kernel_rfl)) (by unfold Func.isWrapper; first | (rw [if_pos (by decide +kernel)]; kernel_rfl) | (rw [if_neg (by decide +kernel)]; exact ⟨rfl, rfl⟩))
    (fun os started H enc _ => lifted os started H enc)

/-- the statement -/
theorem proved : Rows.PackBackSaid :=
  over
#print axioms proved
end Go.Proofs.Ytnhglgmjmicaoaa.packBack
