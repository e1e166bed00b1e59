/- The contracts of the document's own reader. -/
import Derived.Test.YtpdomhddjpfibaaDoorPackText

import Derived.Test.YtpdomhddjpfibaaDoorPackRefPut

import Derived.BigRegion

import Derived.Deep.RegionWith

namespace Go.Proofs.YtpdomhddjpfibaaDoor.Pk

open Go.RowKit

set_option linter.unusedVariables false

set_option linter.unusedSimpArgs false

set_option maxHeartbeats 400000 in
theorem ref_rvary_bad (s : ByteArray) (w : World) (hs : s.size ≤ maxLen) :
    Calls Tryd.prog 45 #[.agg #[.string s, .bool true]] w fun e w' => e = .returned (.tuple #[.int .u64 0, .agg #[.string ⟨#[]⟩, .bool true]]) ∧ Below w.heap.size w w' := by
  unfold maxLen at hs
  by_cases h0 : 0 < s.size
  · go_enter Tryd.func45, Tryd.ntmps45
    go_wp2_with fail
    refine wp_loop_rounds 1 ?_
    rw [rounds_succ]
    go_wp2_with fail
    exact bodyPost_ret (v := .tuple #[.int .u64 0, .agg #[.string ⟨#[]⟩, .bool true]]) (by simp [results, Tryd.results45, go_sem]) rfl ⟨rfl, ((Below.refl _ _).alloc (Nat.le_refl _) _).alloc (by simp) _⟩
  · have d : decide ((0 : Int) < (s.size : Int)) = false := decide_eq_false (by omega)
    have hz : s.size = 0 := by omega
    go_enter Tryd.func45, Tryd.ntmps45
    go_wp2_with fail
    refine wp_loop_rounds 1 ?_
    rw [rounds_succ]
    go_wp2_with fail
    exact bodyPost_ret (v := .tuple #[.int .u64 0, .agg #[.string ⟨#[]⟩, .bool true]]) (by simp [results, Tryd.results45, go_sem]) rfl ⟨rfl, ((Below.refl _ _).alloc (Nat.le_refl _) _).alloc (by simp) _⟩

set_option maxHeartbeats 1000000 in
set_option maxRecDepth 100000 in
theorem ref_rvary_ok (s : ByteArray) (w : World) (hs : s.size ≤ maxLen) (n : Nat) (t : ByteArray) (b' : Bool) (h : P.outN (P.rvary s.data.toList) = (n, t, b')) :
    Calls Tryd.prog 45 #[.agg #[.string s, .bool false]] w fun e w' => e = .returned (.tuple #[.int .u64 n, .agg #[.string t, .bool b']]) ∧ Below w.heap.size w w' := by
  have HH : Hid _ := h
  clear h
  have hs' := hs
  unfold maxLen at hs'
  have HL : Hid _ := P.len_list s
  go_enter Tryd.func45, Tryd.ntmps45
  go_wp2_with fail
  go_loop [4, 5] (fun t i => ∃ j x : Nat, j ≤ 10 ∧ j ≤ s.size ∧ i = .int .i64 j ∧ t = .int .u64 x ∧ Hid (P.Inv s.data.toList j x)) (fun _ i => 10 - (intOf i).toNat)
  case atStart => exact ⟨0, 0, by omega, by omega, rfl, rfl, P.Inv.start _⟩
  case round =>
    obtain ⟨j, x, hj10, hjs, rfl, rfl, HI⟩ := hrel
    by_cases hlt : j < s.size ∧ j < 10
    · obtain ⟨hlt1, hlt2⟩ := hlt
      have hb2 := s[j].toNat_lt
      have HO : Hid (bits .or .u64 (x : Int) (IntKind.u64.wrap ((s[j].toNat : Int) % 128 * 2 ^ (7 * j))) = (((x + (s[j].toNat % 128) * 128 ^ j) % 2 ^ 64 : Nat) : Int)) :=
        or_grp x j s[j].toNat (HI.out.2.1 (by omega)).1 HI.out.1
      by_cases hb : 128 ≤ s[j].toNat
      · have HS : Hid (P.Inv s.data.toList (j + 1) ((x + (s[j].toNat % 128) * 128 ^ j) % 2 ^ 64)) :=
          HI.out.step (by rw [HL.out]; exact hlt1) (by omega) hb
        go_wp2_with fail
        go_round
        case rel => exact ⟨j + 1, _, by omega, by omega, by go_num, by rw [HO.out], HS⟩
        case measure => simp [intOf]; omega
      · have HV : (P.vary ((x + (s[j].toNat % 128) * 128 ^ j) % 2 ^ 64) = s.data.toList.take (j + 1)) ↔ P.endsB s[j].toNat j = true := HI.out.vary (by rw [HL.out]; exact hlt1) (by omega) (Nat.lt_of_not_le hb)
        have ho := HO.out
        have h64 : (x + (s[j].toNat % 128) * 128 ^ j) % 2 ^ 64 < 2 ^ 64 := Nat.mod_lt _ (by decide)
        have HE : Hid (P.endsB s[j].toNat j = true → P.rvary s.data.toList = some ((x + (s[j].toNat % 128) * 128 ^ j) % 2 ^ 64, s.data.toList.drop (j + 1))) :=
          fun he => HI.out.ends (by rw [HL.out]; exact hlt1) (by omega) (Nat.lt_of_not_le hb) he
        have HF : Hid (P.endsB s[j].toNat j = false → P.rvary s.data.toList = none) :=
          fun he => HI.out.ends_not (by rw [HL.out]; exact hlt1) (by omega) (Nat.lt_of_not_le hb) he
        generalize (x + (s[j].toNat % 128) * 128 ^ j) % 2 ^ 64 = y at *
        have CV : Hid _ := fun w => ref_vary_any y w h64
        have hcmp : ((P.S (P.vary y)).toList == (s.extract 0 (j + 1)).toList) = P.endsB s[j].toNat j := by
          rw [ByteArray.toList_eq, ByteArray.toList_eq, P.ext_head, P.S_list, P.S_list, Bool.eq_iff_iff, beq_iff_eq]
          exact HV
        generalize P.S (P.vary y) = V at *
        have k1 : (j : Int) + 1 ≤ (s.size : Int) := by omega
        have k2 : j + 1 ≤ s.size := by omega
        have r1 : IntKind.i64.wrap ((j : Int) + 1) = (j : Int) + 1 := IntWalk.i64_in _ (by omega)
        have r2 : wrap64 ((j : Int) + 1) = (j : Int) + 1 := IntWalk.wrap64_in _ (by omega)
        have hb' : s[j].toNat < 128 := by omega
        clear h64 HV HO HI hb
        cases he : P.endsB s[j].toNat j with
        | true =>
          have h := HH.out
          rw [HE.out he] at h
          simp only [P.outN, Prod.mk.injEq] at h
          obtain ⟨rfl, h2, rfl⟩ := h
          have HT : Hid _ := h2
          rw [he] at hcmp
          clear h2 HE HF he HH
          go_wp2_with fail
          go_region_with (go_at_call 40; refine (CV.out _).mono ?_; rintro e w2 ⟨rfl, hb2⟩; have g0 := bcells hb2 (b := w.heap.size) (o := 0) (v := .string s) (by simp <;> omega) (by simp [go_sem]); have g1 := bcells hb2 (b := w.heap.size) (o := 1) (v := .bool false) (by simp <;> omega) (by simp [go_sem]); have g2 := bcells hb2 (b := w.heap.size + 1) (o := 0) (v := .string ⟨#[]⟩) (by simp <;> omega) (by simp [go_sem]); have g3 := bcells hb2 (b := w.heap.size + 1) (o := 1) (v := .bool false) (by simp <;> omega) (by simp [go_sem]); have q2 := bfree hb2 (b := w.heap.size + 1) (o := 0) (by simp <;> omega) (by simp [go_sem]); have q3 := bfree hb2 (b := w.heap.size + 1) (o := 1) (by simp <;> omega) (by simp [go_sem]))
          all_goals
            have B2 : Below w.heap.size w w2 := (((Below.refl _ _).alloc (Nat.le_refl _) _).alloc (by simp) _).drew.trans (hb2.mono (by simp; omega))
            have HB2 : Hid _ := B2
            clear hb2 CV B2
            go_wp2_with fail
            go_region
            all_goals
              go_wp2_with fail
              rw [P.ext_rest, HT.out]
              exact bodyPost_ret (v := .tuple #[.int .u64 y, .agg #[.string t, .bool false]]) (by simp [results, Tryd.results45, go_sem, g2, g3]) rfl ⟨rfl, by repeat (first | exact HB2.out | refine Below.drew ?_ | refine Below.setCell ?_ (by simp) _)⟩
        | false =>
          have h := HH.out
          rw [HF.out he] at h
          simp only [P.outN, Prod.mk.injEq] at h
          obtain ⟨rfl, rfl, rfl⟩ := h
          rw [he] at hcmp
          clear HE HF he HH
          go_wp2_with fail
          go_region_with (go_at_call 40; refine (CV.out _).mono ?_; rintro e w2 ⟨rfl, hb2⟩; have g0 := bcells hb2 (b := w.heap.size) (o := 0) (v := .string s) (by simp <;> omega) (by simp [go_sem]); have g1 := bcells hb2 (b := w.heap.size) (o := 1) (v := .bool false) (by simp <;> omega) (by simp [go_sem]); have g2 := bcells hb2 (b := w.heap.size + 1) (o := 0) (v := .string ⟨#[]⟩) (by simp <;> omega) (by simp [go_sem]); have g3 := bcells hb2 (b := w.heap.size + 1) (o := 1) (v := .bool false) (by simp <;> omega) (by simp [go_sem]); have q2 := bfree hb2 (b := w.heap.size + 1) (o := 0) (by simp <;> omega) (by simp [go_sem]); have q3 := bfree hb2 (b := w.heap.size + 1) (o := 1) (by simp <;> omega) (by simp [go_sem]))
          all_goals
            have B2 : Below w.heap.size w w2 := (((Below.refl _ _).alloc (Nat.le_refl _) _).alloc (by simp) _).drew.trans (hb2.mono (by simp; omega))
            have HB2 : Hid _ := B2
            clear hb2 CV B2
            go_wp2_with fail
            exact bodyPost_ret (v := .tuple #[.int .u64 0, .agg #[.string ⟨#[]⟩, .bool true]]) (by simp [results, Tryd.results45, go_sem, g2, g3]) rfl ⟨rfl, by repeat (first | exact HB2.out | refine Below.drew ?_ | refine Below.setCell ?_ (by simp) _)⟩
    · have h := HH.out
      rw [HI.out.over hj10 (by rw [HL.out]; omega)] at h
      simp only [P.outN, Prod.mk.injEq] at h
      obtain ⟨rfl, rfl, rfl⟩ := h
      by_cases h1 : j < s.size
      · have d1 : decide ((j : Int) < 10) = false := by simp; omega
        go_wp2_with fail
        exact bodyPost_ret (v := .tuple #[.int .u64 0, .agg #[.string ⟨#[]⟩, .bool true]]) (by simp [results, Tryd.results45, go_sem]) rfl ⟨rfl, ((Below.refl _ _).alloc (Nat.le_refl _) _).alloc (by simp) _⟩
      · have d1 : decide ((j : Int) < (s.size : Int)) = false := by simp; omega
        go_wp2_with fail
        exact bodyPost_ret (v := .tuple #[.int .u64 0, .agg #[.string ⟨#[]⟩, .bool true]]) (by simp [results, Tryd.results45, go_sem]) rfl ⟨rfl, ((Below.refl _ _).alloc (Nat.le_refl _) _).alloc (by simp) _⟩
theorem ref_rvary_any (s : ByteArray) (b : Bool) (n : Nat) (t : ByteArray) (b' : Bool) (w : World) (hs : s.size ≤ maxLen) (h : P.RV s b = (n, t, b')) :
    Calls Tryd.prog 45 #[.agg #[.string s, .bool b]] w fun e w' => e = .returned (.tuple #[.int .u64 n, .agg #[.string t, .bool b']]) ∧ Below w.heap.size w w' := by
  cases b with
  | true =>
    simp [P.RV, P.outN] at h
    obtain ⟨rfl, rfl, rfl⟩ := h
    exact ref_rvary_bad s w hs
  | false => exact ref_rvary_ok s w hs n t b' h
end Go.Proofs.YtpdomhddjpfibaaDoor.Pk
