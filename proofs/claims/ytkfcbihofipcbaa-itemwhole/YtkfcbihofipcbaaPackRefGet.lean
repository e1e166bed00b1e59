/- The contracts of the document's own reader. -/
import Derived.Test.YtkfcbihofipcbaaPackText

import Derived.Test.YtkfcbihofipcbaaPackRefPut

import Derived.BigRegion

import Derived.Deep.RegionWith

namespace Go.Proofs.Ytkfcbihofipcbaa.Pk

open Go.RowKit

set_option linter.unusedVariables false

set_option linter.unusedSimpArgs false

set_option maxHeartbeats 400000 in
theorem ref_rnumber_no (s : ByteArray) (b : Bool) (k : Int) (w : World) (hs : s.size ≤ maxLen) (h : b = true ∨ k < 1 ∨ 8 < k ∨ (s.size : Int) < k) :
    Calls Try.prog 55 #[.agg #[.string s, .bool b], .int .i64 k] w fun e w' => e = .returned (.tuple #[.int .u64 0, .agg #[.string ⟨#[]⟩, .bool true]]) ∧ Below w.heap.size w w' := by
  unfold maxLen at hs
  cases b with
  | true =>
    clear h
    go_enter Try.func55, Try.ntmps55
    go_wp2_with fail
    exact bodyPost_ret (v := .tuple #[.int .u64 0, .agg #[.string ⟨#[]⟩, .bool true]]) (by simp [results, Try.results55, go_sem]) rfl ⟨rfl, ((Below.refl _ _).alloc (Nat.le_refl _) _).alloc (by simp) _⟩
  | false =>
    by_cases h1 : k < 1
    · have d1 : decide (k < 1) = true := by simp; omega
      clear h
      go_enter Try.func55, Try.ntmps55
      go_wp2_with fail
      exact bodyPost_ret (v := .tuple #[.int .u64 0, .agg #[.string ⟨#[]⟩, .bool true]]) (by simp [results, Try.results55, go_sem]) rfl ⟨rfl, ((Below.refl _ _).alloc (Nat.le_refl _) _).alloc (by simp) _⟩
    · have d1 : decide (k < 1) = false := by simp; omega
      by_cases h2 : 8 < k
      · have d2 : decide (8 < k) = true := by simp; omega
        clear h h1
        go_enter Try.func55, Try.ntmps55
        go_wp2_with fail
        exact bodyPost_ret (v := .tuple #[.int .u64 0, .agg #[.string ⟨#[]⟩, .bool true]]) (by simp [results, Try.results55, go_sem]) rfl ⟨rfl, ((Below.refl _ _).alloc (Nat.le_refl _) _).alloc (by simp) _⟩
      · have d2 : decide (8 < k) = false := by simp; omega
        have h3 : (s.size : Int) < k := by simp at h; omega
        clear h h1 h2
        go_enter Try.func55, Try.ntmps55
        go_wp2_with fail
        exact bodyPost_ret (v := .tuple #[.int .u64 0, .agg #[.string ⟨#[]⟩, .bool true]]) (by simp [results, Try.results55, go_sem]) rfl ⟨rfl, ((Below.refl _ _).alloc (Nat.le_refl _) _).alloc (by simp) _⟩

set_option maxHeartbeats 400000 in
theorem ref_rnumber_ok (s : ByteArray) (k : Nat) (w : World) (hs : s.size ≤ maxLen) (h1 : 1 ≤ k) (h8 : k ≤ 8) (hk : k ≤ s.size) :
    Calls Try.prog 55 #[.agg #[.string s, .bool false], .int .i64 k] w fun e w' => e = .returned (.tuple #[.int .u64 (P.val (s.data.toList.take k)), .agg #[.string (s.extract k s.size), .bool false]]) ∧ Below w.heap.size w w' := by
  have hs' := hs
  unfold maxLen at hs'
  have d1 : decide ((k : Int) < 1) = false := by simp; omega
  have d2 : decide (8 < (k : Int)) = false := by simp; omega
  have d3 : decide ((s.size : Int) < (k : Int)) = false := by simp; omega
  go_enter Try.func55, Try.ntmps55
  go_wp2_with fail
  go_loop [6, 7] (fun t i => ∃ j : Nat, j ≤ k ∧ i = .int .i64 j ∧ t = .int .u64 (P.val (s.data.toList.take j))) (fun _ i => k - (intOf i).toNat)
  case atStart => exact ⟨0, Nat.zero_le _, rfl, rfl⟩
  case round =>
    obtain ⟨j, hj, rfl, rfl⟩ := hrel
    by_cases hlt : j < k
    · have hjs : j < s.size := by omega
      have HN : Hid (P.val (s.data.toList.take (j + 1)) = P.val (s.data.toList.take j) * 256 + s[j].toNat) := by
        show _ = _
        rw [take_snoc s j hjs, P.val_snoc]
      have HX : Hid (P.val (s.data.toList.take j) < 2 ^ 56) := by
        have h1 := P.val_lt (s.data.toList.take j)
        have h2 : (s.data.toList.take j).length ≤ 7 := Nat.le_trans (List.length_take_le _ _) (by omega)
        have h3 : 256 ^ (s.data.toList.take j).length ≤ 256 ^ 7 := Nat.pow_le_pow_right (by omega) h2
        have h4 : (256 : Nat) ^ 7 = 2 ^ 56 := by decide
        show _ < _
        omega
      generalize P.val (s.data.toList.take j) = x at *
      go_wp2_with fail
      go_round
      case rel => exact ⟨j + 1, by omega, by go_num, by rw [HN.out, or_byte x _ HX.out s[j].toNat_lt]⟩
      case measure => simp [intOf]; omega
    · obtain rfl : j = k := by omega
      clear d1 d2 d3
      go_wp2_with fail
      go_region
      all_goals
        go_wp2_with fail
        exact bodyPost_ret (v := .tuple #[.int .u64 (P.val (s.data.toList.take j)), .agg #[.string (s.extract j s.size), .bool false]]) (by simp [results, Try.results55, go_sem]) rfl ⟨rfl, (((Below.refl _ _).alloc (Nat.le_refl _) _).alloc (by simp) _).drew⟩
theorem ref_rnumber_any (s : ByteArray) (b : Bool) (k : Int) (n : Nat) (t : ByteArray) (b' : Bool) (w : World) (hs : s.size ≤ maxLen) (h : P.RN s b k = (n, t, b')) :
    Calls Try.prog 55 #[.agg #[.string s, .bool b], .int .i64 k] w fun e w' => e = .returned (.tuple #[.int .u64 n, .agg #[.string t, .bool b']]) ∧ Below w.heap.size w w' := by
  cases b with
  | true =>
    simp [P.RN, P.outN] at h
    obtain ⟨rfl, rfl, rfl⟩ := h
    exact ref_rnumber_no s true k w hs (Or.inl rfl)
  | false =>
    by_cases hk : k < 1 ∨ 8 < k ∨ (s.size : Int) < k
    · have e : P.rnum s.data.toList k = none := by unfold P.rnum; rw [if_pos (by rw [P.len_list]; exact hk)]
      simp [P.RN, P.outN, e] at h
      obtain ⟨rfl, rfl, rfl⟩ := h
      exact ref_rnumber_no s false k w hs (Or.inr hk)
    · obtain ⟨j, rfl⟩ := Int.eq_ofNat_of_zero_le (show 0 ≤ k by omega)
      have e : P.rnum s.data.toList j = some (P.val (s.data.toList.take j), s.data.toList.drop j) := by
        unfold P.rnum; rw [if_neg (by rw [P.len_list]; exact hk), Int.toNat_natCast]
      have := ref_rnumber_ok s j w hs (by omega) (by omega) (by omega)
      rw [P.ext_rest] at this
      simp [P.RN, P.outN, e] at h
      obtain ⟨rfl, rfl, rfl⟩ := h
      exact this

set_option maxHeartbeats 400000 in
theorem ref_rvary_bad (s : ByteArray) (w : World) (hs : s.size ≤ maxLen) :
    Calls Try.prog 72 #[.agg #[.string s, .bool true]] w fun e w' => e = .returned (.tuple #[.int .u64 0, .agg #[.string ⟨#[]⟩, .bool true]]) ∧ Below w.heap.size w w' := by
  unfold maxLen at hs
  by_cases h0 : 0 < s.size
  · go_enter Try.func72, Try.ntmps72
    go_wp2_with fail
    refine wp_loop_rounds 1 ?_
    rw [rounds_succ]
    go_wp2_with fail
    exact bodyPost_ret (v := .tuple #[.int .u64 0, .agg #[.string ⟨#[]⟩, .bool true]]) (by simp [results, Try.results72, go_sem]) rfl ⟨rfl, ((Below.refl _ _).alloc (Nat.le_refl _) _).alloc (by simp) _⟩
  · have d : decide ((0 : Int) < (s.size : Int)) = false := decide_eq_false (by omega)
    have hz : s.size = 0 := by omega
    go_enter Try.func72, Try.ntmps72
    go_wp2_with fail
    refine wp_loop_rounds 1 ?_
    rw [rounds_succ]
    go_wp2_with fail
    exact bodyPost_ret (v := .tuple #[.int .u64 0, .agg #[.string ⟨#[]⟩, .bool true]]) (by simp [results, Try.results72, go_sem]) rfl ⟨rfl, ((Below.refl _ _).alloc (Nat.le_refl _) _).alloc (by simp) _⟩

set_option maxHeartbeats 1000000 in
set_option maxRecDepth 100000 in
theorem ref_rvary_ok (s : ByteArray) (w : World) (hs : s.size ≤ maxLen) (n : Nat) (t : ByteArray) (b' : Bool) (h : P.outN (P.rvary s.data.toList) = (n, t, b')) :
    Calls Try.prog 72 #[.agg #[.string s, .bool false]] w fun e w' => e = .returned (.tuple #[.int .u64 n, .agg #[.string t, .bool b']]) ∧ Below w.heap.size w w' := by
  have HH : Hid _ := h
  clear h
  have hs' := hs
  unfold maxLen at hs'
  have HL : Hid _ := P.len_list s
  go_enter Try.func72, Try.ntmps72
  go_wp2_with fail
  go_loop [4, 5] (fun t i => ∃ j x : Nat, j ≤ 10 ∧ j ≤ s.size ∧ i = .int .i64 j ∧ t = .int .u64 x ∧ Hid (P.Inv s.data.toList j x)) (fun _ i => 10 - (intOf i).toNat)
  case atStart => exact ⟨0, 0, by omega, by omega, rfl, rfl, P.Inv.start _⟩
  case round =>
    obtain ⟨j, x, hj10, hjs, rfl, rfl, HI⟩ := hrel
    by_cases hlt : j < s.size ∧ j < 10
    · obtain ⟨hlt1, hlt2⟩ := hlt
      have hb2 := s[j].toNat_lt
      have HO : Hid (bits .or .u64 (x : Int) (IntKind.u64.wrap ((s[j].toNat : Int) % 128 * 2 ^ (7 * j))) = (((x + (s[j].toNat % 128) * 128 ^ j) % 2 ^ 64 : Nat) : Int)) :=
        or_grp x j s[j].toNat (HI.out.2.1 (by omega)).1 HI.out.1
      by_cases hb : 128 ≤ s[j].toNat
      · have HS : Hid (P.Inv s.data.toList (j + 1) ((x + (s[j].toNat % 128) * 128 ^ j) % 2 ^ 64)) :=
          HI.out.step (by rw [HL.out]; exact hlt1) (by omega) hb
        go_wp2_with fail
        go_round
        case rel => exact ⟨j + 1, _, by omega, by omega, by go_num, by rw [HO.out], HS⟩
        case measure => simp [intOf]; omega
      · have HV : (P.vary ((x + (s[j].toNat % 128) * 128 ^ j) % 2 ^ 64) = s.data.toList.take (j + 1)) ↔ P.endsB s[j].toNat j = true := HI.out.vary (by rw [HL.out]; exact hlt1) (by omega) (Nat.lt_of_not_le hb)
        have ho := HO.out
        have h64 : (x + (s[j].toNat % 128) * 128 ^ j) % 2 ^ 64 < 2 ^ 64 := Nat.mod_lt _ (by decide)
        have HE : Hid (P.endsB s[j].toNat j = true → P.rvary s.data.toList = some ((x + (s[j].toNat % 128) * 128 ^ j) % 2 ^ 64, s.data.toList.drop (j + 1))) :=
          fun he => HI.out.ends (by rw [HL.out]; exact hlt1) (by omega) (Nat.lt_of_not_le hb) he
        have HF : Hid (P.endsB s[j].toNat j = false → P.rvary s.data.toList = none) :=
          fun he => HI.out.ends_not (by rw [HL.out]; exact hlt1) (by omega) (Nat.lt_of_not_le hb) he
        generalize (x + (s[j].toNat % 128) * 128 ^ j) % 2 ^ 64 = y at *
        have CV : Hid _ := fun w => ref_vary_any y w h64
        have hcmp : ((P.S (P.vary y)).toList == (s.extract 0 (j + 1)).toList) = P.endsB s[j].toNat j := by
          rw [ByteArray.toList_eq, ByteArray.toList_eq, P.ext_head, P.S_list, P.S_list, Bool.eq_iff_iff, beq_iff_eq]
          exact HV
        generalize P.S (P.vary y) = V at *
        have k1 : (j : Int) + 1 ≤ (s.size : Int) := by omega
        have k2 : j + 1 ≤ s.size := by omega
        have r1 : IntKind.i64.wrap ((j : Int) + 1) = (j : Int) + 1 := IntWalk.i64_in _ (by omega)
        have r2 : wrap64 ((j : Int) + 1) = (j : Int) + 1 := IntWalk.wrap64_in _ (by omega)
        have hb' : s[j].toNat < 128 := by omega
        clear h64 HV HO HI hb
        cases he : P.endsB s[j].toNat j with
        | true =>
          have h := HH.out
          rw [HE.out he] at h
          simp only [P.outN, Prod.mk.injEq] at h
          obtain ⟨rfl, h2, rfl⟩ := h
          have HT : Hid _ := h2
          rw [he] at hcmp
          clear h2 HE HF he HH
          go_wp2_with fail
          go_region_with (go_at_call 60; refine (CV.out _).mono ?_; rintro e w2 ⟨rfl, hb2⟩; have g0 := bcells hb2 (b := w.heap.size) (o := 0) (v := .string s) (by simp <;> omega) (by simp [go_sem]); have g1 := bcells hb2 (b := w.heap.size) (o := 1) (v := .bool false) (by simp <;> omega) (by simp [go_sem]); have g2 := bcells hb2 (b := w.heap.size + 1) (o := 0) (v := .string ⟨#[]⟩) (by simp <;> omega) (by simp [go_sem]); have g3 := bcells hb2 (b := w.heap.size + 1) (o := 1) (v := .bool false) (by simp <;> omega) (by simp [go_sem]); have q2 := bfree hb2 (b := w.heap.size + 1) (o := 0) (by simp <;> omega) (by simp [go_sem]); have q3 := bfree hb2 (b := w.heap.size + 1) (o := 1) (by simp <;> omega) (by simp [go_sem]))
          all_goals
            have B2 : Below w.heap.size w w2 := (((Below.refl _ _).alloc (Nat.le_refl _) _).alloc (by simp) _).drew.trans (hb2.mono (by simp; omega))
            have HB2 : Hid _ := B2
            clear hb2 CV B2
            go_wp2_with fail
            go_region
            all_goals
              go_wp2_with fail
              rw [P.ext_rest, HT.out]
              exact bodyPost_ret (v := .tuple #[.int .u64 y, .agg #[.string t, .bool false]]) (by simp [results, Try.results72, go_sem, g2, g3]) rfl ⟨rfl, by repeat (first | exact HB2.out | refine Below.drew ?_ | refine Below.setCell ?_ (by simp) _)⟩
        | false =>
          have h := HH.out
          rw [HF.out he] at h
          simp only [P.outN, Prod.mk.injEq] at h
          obtain ⟨rfl, rfl, rfl⟩ := h
          rw [he] at hcmp
          clear HE HF he HH
          go_wp2_with fail
          go_region_with (go_at_call 60; refine (CV.out _).mono ?_; rintro e w2 ⟨rfl, hb2⟩; have g0 := bcells hb2 (b := w.heap.size) (o := 0) (v := .string s) (by simp <;> omega) (by simp [go_sem]); have g1 := bcells hb2 (b := w.heap.size) (o := 1) (v := .bool false) (by simp <;> omega) (by simp [go_sem]); have g2 := bcells hb2 (b := w.heap.size + 1) (o := 0) (v := .string ⟨#[]⟩) (by simp <;> omega) (by simp [go_sem]); have g3 := bcells hb2 (b := w.heap.size + 1) (o := 1) (v := .bool false) (by simp <;> omega) (by simp [go_sem]); have q2 := bfree hb2 (b := w.heap.size + 1) (o := 0) (by simp <;> omega) (by simp [go_sem]); have q3 := bfree hb2 (b := w.heap.size + 1) (o := 1) (by simp <;> omega) (by simp [go_sem]))
          all_goals
            have B2 : Below w.heap.size w w2 := (((Below.refl _ _).alloc (Nat.le_refl _) _).alloc (by simp) _).drew.trans (hb2.mono (by simp; omega))
            have HB2 : Hid _ := B2
            clear hb2 CV B2
            go_wp2_with fail
            exact bodyPost_ret (v := .tuple #[.int .u64 0, .agg #[.string ⟨#[]⟩, .bool true]]) (by simp [results, Try.results72, go_sem, g2, g3]) rfl ⟨rfl, by repeat (first | exact HB2.out | refine Below.drew ?_ | refine Below.setCell ?_ (by simp) _)⟩
    · have h := HH.out
      rw [HI.out.over hj10 (by rw [HL.out]; omega)] at h
      simp only [P.outN, Prod.mk.injEq] at h
      obtain ⟨rfl, rfl, rfl⟩ := h
      by_cases h1 : j < s.size
      · have d1 : decide ((j : Int) < 10) = false := by simp; omega
        go_wp2_with fail
        exact bodyPost_ret (v := .tuple #[.int .u64 0, .agg #[.string ⟨#[]⟩, .bool true]]) (by simp [results, Try.results72, go_sem]) rfl ⟨rfl, ((Below.refl _ _).alloc (Nat.le_refl _) _).alloc (by simp) _⟩
      · have d1 : decide ((j : Int) < (s.size : Int)) = false := by simp; omega
        go_wp2_with fail
        exact bodyPost_ret (v := .tuple #[.int .u64 0, .agg #[.string ⟨#[]⟩, .bool true]]) (by simp [results, Try.results72, go_sem]) rfl ⟨rfl, ((Below.refl _ _).alloc (Nat.le_refl _) _).alloc (by simp) _⟩
theorem ref_rvary_any (s : ByteArray) (b : Bool) (n : Nat) (t : ByteArray) (b' : Bool) (w : World) (hs : s.size ≤ maxLen) (h : P.RV s b = (n, t, b')) :
    Calls Try.prog 72 #[.agg #[.string s, .bool b]] w fun e w' => e = .returned (.tuple #[.int .u64 n, .agg #[.string t, .bool b']]) ∧ Below w.heap.size w w' := by
  cases b with
  | true =>
    simp [P.RV, P.outN] at h
    obtain ⟨rfl, rfl, rfl⟩ := h
    exact ref_rvary_bad s w hs
  | false => exact ref_rvary_ok s w hs n t b' h
end Go.Proofs.Ytkfcbihofipcbaa.Pk
