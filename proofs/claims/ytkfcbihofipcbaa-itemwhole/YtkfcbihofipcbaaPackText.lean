/- The contract of pack's reader of texts. -/
import Derived.Test.YtkfcbihofipcbaaPackGet

import Derived.RegionTactic

import Derived.Deep.RegionWith

import Derived.Test.YtkfcbihofipcbaaPackMath

namespace Go.Proofs.Ytkfcbihofipcbaa.Pk

open Go.RowKit

set_option linter.unusedVariables false

set_option linter.unusedSimpArgs false

/-- behind a call that leaves what was there: the boxes read as they did -/
theorem bcells {W w1 : World} (hb : Below W.heap.size W w1) {b o : Nat} {v : Value} (h : b < W.heap.size) (hv : W.cell? ⟨b, o, none⟩ = some v) : w1.cell? ⟨b, o, none⟩ = some v := by
  rw [hb.cell (p := ⟨b, o, none⟩) h]; exact hv
theorem bfree {W w1 : World} (hb : Below W.heap.size W w1) {b o : Nat} (h : b < W.heap.size) (hv : W.frozen? ⟨b, o, none⟩ = false) : w1.frozen? ⟨b, o, none⟩ = false := by
  rw [hb.frozen (p := ⟨b, o, none⟩) h]; exact hv

set_option maxHeartbeats 400000 in
theorem rtext_bad (s : ByteArray) (b : Bool) (most : Int) (n : Nat) (u : ByteArray) (w : World) (hs : s.size ≤ maxLen) (h : P.RV s b = (n, u, true)) :
    Calls Try.prog 78 #[.agg #[.string s, .bool b], .int .i64 most] w fun e w' => e = .returned (.tuple #[.string ⟨#[]⟩, .agg #[.string ⟨#[]⟩, .bool true]]) ∧ Below w.heap.size w w' := by
  have C : Hid _ := fun w => rvary_any s b n u true w hs h
  clear h
  go_enter Try.func78, Try.ntmps78
  go_wp2_with fail
  refine (C.out _).mono ?_; rintro e w1 ⟨rfl, hb⟩
  have hz : w.heap.size + 1 < w1.heap.size := by have := hb.size; simp at this; omega
  have f0 := bcells hb (b := w.heap.size) (o := 0) (v := .string s) (by simp; omega) (by simp [go_sem])
  have f1 := bcells hb (b := w.heap.size) (o := 1) (v := .bool b) (by simp; omega) (by simp [go_sem])
  have f2 := bcells hb (b := w.heap.size + 1) (o := 0) (v := .string ⟨#[]⟩) (by simp) (by simp [go_sem])
  have f3 := bcells hb (b := w.heap.size + 1) (o := 1) (v := .bool false) (by simp) (by simp [go_sem])
  have hf := (bcell hb).2
  go_wp2_with fail
  refine (bad_any _).mono ?_; rintro e w2 ⟨rfl, hb2⟩
  have g2 := bcells hb2 (b := w.heap.size + 1) (o := 0) (v := .string ⟨#[]⟩) (by simp; omega) (by simp [go_sem, f2])
  have g3 := bcells hb2 (b := w.heap.size + 1) (o := 1) (v := .bool false) (by simp; omega) (by simp [go_sem, f3])
  have k2 := bfree hb2 (b := w.heap.size + 1) (o := 0) (by simp; omega) (by simp [go_sem, hf])
  have k3 := bfree hb2 (b := w.heap.size + 1) (o := 1) (by simp; omega) (by simp [go_sem, hf])
  have B1 : Below w.heap.size w w1 := (((Below.refl _ _).alloc (Nat.le_refl _) _).alloc (by simp) _).trans (hb.mono (by simp; omega))
  have B2 : Below w.heap.size w w2 := ((B1.setCell (by simp) _).setCell (by simp) _).trans (hb2.mono (by simp; omega))
  clear hb hb2 f0 f1 f2 f3 hf B1
  go_wp2_with fail
  exact bodyPost_ret (v := .tuple #[.string ⟨#[]⟩, .agg #[.string ⟨#[]⟩, .bool true]]) (by simp [results, Try.results78, go_sem, g2, g3]) rfl ⟨rfl, (B2.setCell (by simp) _).setCell (by simp) _⟩

set_option maxHeartbeats 400000 in
theorem rtext_no (s : ByteArray) (b : Bool) (most : Int) (n : Nat) (u : ByteArray) (w : World) (hs : s.size ≤ maxLen) (hm2 : most ≤ 9223372036854775807) (h : P.RV s b = (n, u, false)) (hm : most < (n : Int) ∨ u.size < n) :
    Calls Try.prog 78 #[.agg #[.string s, .bool b], .int .i64 most] w fun e w' => e = .returned (.tuple #[.string ⟨#[]⟩, .agg #[.string ⟨#[]⟩, .bool true]]) ∧ Below w.heap.size w w' := by
  have C : Hid _ := fun w => rvary_any s b n u false w hs h
  have HN : Hid _ := (P.RV_some _ _ _ _ h).2.2.1
  have hu := (P.RV_some _ _ _ _ h).2.2.2
  have hs' := hs
  unfold maxLen at hs'
  clear h
  go_enter Try.func78, Try.ntmps78
  go_wp2_with fail
  refine (C.out _).mono ?_; rintro e w1 ⟨rfl, hb⟩
  have hz : w.heap.size + 1 < w1.heap.size := by have := hb.size; simp at this; omega
  have f0 := bcells hb (b := w.heap.size) (o := 0) (v := .string s) (by simp; omega) (by simp [go_sem])
  have f1 := bcells hb (b := w.heap.size) (o := 1) (v := .bool b) (by simp; omega) (by simp [go_sem])
  have f2 := bcells hb (b := w.heap.size + 1) (o := 0) (v := .string ⟨#[]⟩) (by simp) (by simp [go_sem])
  have f3 := bcells hb (b := w.heap.size + 1) (o := 1) (v := .bool false) (by simp) (by simp [go_sem])
  have hf := (bcell hb).2
  by_cases h0 : most < 0
  · have d0 : decide (most < 0) = true := by simp; omega
    clear hm
    · skip
      go_wp2_with fail
      refine (bad_any _).mono ?_; rintro e w2 ⟨rfl, hb2⟩
      have g2 := bcells hb2 (b := w.heap.size + 1) (o := 0) (v := .string ⟨#[]⟩) (by simp; omega) (by simp [go_sem, f2])
      have g3 := bcells hb2 (b := w.heap.size + 1) (o := 1) (v := .bool false) (by simp; omega) (by simp [go_sem, f3])
      have k2 := bfree hb2 (b := w.heap.size + 1) (o := 0) (by simp; omega) (by simp [go_sem, hf])
      have k3 := bfree hb2 (b := w.heap.size + 1) (o := 1) (by simp; omega) (by simp [go_sem, hf])
      have B1 : Below w.heap.size w w1 := (((Below.refl _ _).alloc (Nat.le_refl _) _).alloc (by simp) _).trans (hb.mono (by simp; omega))
      have B2 : Below w.heap.size w w2 := ((B1.setCell (by simp) _).setCell (by simp) _).trans (hb2.mono (by simp; omega))
      clear hb hb2 f0 f1 f2 f3 hf B1
      go_wp2_with fail
      exact bodyPost_ret (v := .tuple #[.string ⟨#[]⟩, .agg #[.string ⟨#[]⟩, .bool true]]) (by simp [results, Try.results78, go_sem, g2, g3]) rfl ⟨rfl, (B2.setCell (by simp) _).setCell (by simp) _⟩
  · have d0 : decide (most < 0) = false := by simp; omega
    by_cases h1 : most < (n : Int)
    · have h0' : 0 ≤ most := by omega
      clear hm
      go_wp2_with fail
      refine (bad_any _).mono ?_; rintro e w2 ⟨rfl, hb2⟩
      have g2 := bcells hb2 (b := w.heap.size + 1) (o := 0) (v := .string ⟨#[]⟩) (by simp; omega) (by simp [go_sem, f2])
      have g3 := bcells hb2 (b := w.heap.size + 1) (o := 1) (v := .bool false) (by simp; omega) (by simp [go_sem, f3])
      have k2 := bfree hb2 (b := w.heap.size + 1) (o := 0) (by simp; omega) (by simp [go_sem, hf])
      have k3 := bfree hb2 (b := w.heap.size + 1) (o := 1) (by simp; omega) (by simp [go_sem, hf])
      have B1 : Below w.heap.size w w1 := (((Below.refl _ _).alloc (Nat.le_refl _) _).alloc (by simp) _).trans (hb.mono (by simp; omega))
      have B2 : Below w.heap.size w w2 := ((B1.setCell (by simp) _).setCell (by simp) _).trans (hb2.mono (by simp; omega))
      clear hb hb2 f0 f1 f2 f3 hf B1
      go_wp2_with fail
      exact bodyPost_ret (v := .tuple #[.string ⟨#[]⟩, .agg #[.string ⟨#[]⟩, .bool true]]) (by simp [results, Try.results78, go_sem, g2, g3]) rfl ⟨rfl, (B2.setCell (by simp) _).setCell (by simp) _⟩
    · have h0' : 0 ≤ most := by omega
      have h1' : (n : Int) ≤ most := by omega
      have h2 : (u.size : Int) < (n : Int) := by omega
      have d1 : decide (most < (n : Int)) = false := by simp; omega
      clear hm h0 h1
      go_wp2_with fail
      refine (bad_any _).mono ?_; rintro e w2 ⟨rfl, hb2⟩
      have g2 := bcells hb2 (b := w.heap.size + 1) (o := 0) (v := .string ⟨#[]⟩) (by simp; omega) (by simp [go_sem, f2])
      have g3 := bcells hb2 (b := w.heap.size + 1) (o := 1) (v := .bool false) (by simp; omega) (by simp [go_sem, f3])
      have k2 := bfree hb2 (b := w.heap.size + 1) (o := 0) (by simp; omega) (by simp [go_sem, hf])
      have k3 := bfree hb2 (b := w.heap.size + 1) (o := 1) (by simp; omega) (by simp [go_sem, hf])
      have B1 : Below w.heap.size w w1 := (((Below.refl _ _).alloc (Nat.le_refl _) _).alloc (by simp) _).trans (hb.mono (by simp; omega))
      have B2 : Below w.heap.size w w2 := ((B1.setCell (by simp) _).setCell (by simp) _).trans (hb2.mono (by simp; omega))
      clear hb hb2 f0 f1 f2 f3 hf B1
      go_wp2_with fail
      exact bodyPost_ret (v := .tuple #[.string ⟨#[]⟩, .agg #[.string ⟨#[]⟩, .bool true]]) (by simp [results, Try.results78, go_sem, g2, g3]) rfl ⟨rfl, (B2.setCell (by simp) _).setCell (by simp) _⟩

set_option maxHeartbeats 1000000 in
theorem rtext_yes (s : ByteArray) (b : Bool) (most : Int) (n : Nat) (u : ByteArray) (w : World) (hs : s.size ≤ maxLen) (hm2 : most ≤ 9223372036854775807) (h : P.RV s b = (n, u, false)) (hm : ¬ (most < (n : Int) ∨ u.size < n)) :
    Calls Try.prog 78 #[.agg #[.string s, .bool b], .int .i64 most] w fun e w' => e = .returned (.tuple #[.string (u.extract 0 n), .agg #[.string (u.extract n u.size), .bool false]]) ∧ Below w.heap.size w w' := by
  have C : Hid _ := fun w => rvary_any s b n u false w hs h
  have hu := (P.RV_some _ _ _ _ h).2.2.2
  have hs' := hs
  unfold maxLen at hs'
  have hus : u.size ≤ maxLen := by omega
  have h1 : (n : Int) ≤ most := by omega
  have h2 : n ≤ u.size := by omega
  have h0' : 0 ≤ most := by omega
  have d0 : decide (most < 0) = false := by simp; omega
  have d1 : decide (most < (n : Int)) = false := by simp; omega
  have d2 : decide ((u.size : Int) < (n : Int)) = false := by simp; omega
  have hwr : IntKind.i64.wrap (n : Int) = (n : Int) := IntWalk.i64_in _ (by omega)
  have R := fun w => behind_any u false (n : Int) w hus (by omega) (by omega)
  rw [Int.toNat_natCast] at R
  have HR : Hid _ := R
  clear h hm R
  go_enter Try.func78, Try.ntmps78
  go_wp2_with fail
  refine (C.out _).mono ?_; rintro e w1 ⟨rfl, hb⟩
  have hz : w.heap.size + 1 < w1.heap.size := by have := hb.size; simp at this; omega
  have f0 := bcells hb (b := w.heap.size) (o := 0) (v := .string s) (by simp; omega) (by simp [go_sem])
  have f1 := bcells hb (b := w.heap.size) (o := 1) (v := .bool b) (by simp; omega) (by simp [go_sem])
  have f2 := bcells hb (b := w.heap.size + 1) (o := 0) (v := .string ⟨#[]⟩) (by simp) (by simp [go_sem])
  have f3 := bcells hb (b := w.heap.size + 1) (o := 1) (v := .bool false) (by simp) (by simp [go_sem])
  have hf := (bcell hb).2
  have k0 := hf (w.heap.size) 0 (by simp; omega)
  have k1 := hf (w.heap.size) 1 (by simp; omega)
  have k2 := hf (w.heap.size + 1) 0 (by simp)
  have k3 := hf (w.heap.size + 1) 1 (by simp)
  simp [go_sem] at k0 k1 k2 k3
  have B1 : Below w.heap.size w w1 := (((Below.refl _ _).alloc (Nat.le_refl _) _).alloc (by simp) _).trans (hb.mono (by simp; omega))
  clear hf hb
  go_wp2_with fail
  go_region_with (go_at_call 77; refine (HR.out _).mono ?_; rintro e w2 ⟨rfl, hb2⟩; have g0 := bcells hb2 (b := w.heap.size) (o := 0) (v := .string u) (by simp; omega) (by simp [go_sem, f0]); have g1 := bcells hb2 (b := w.heap.size) (o := 1) (v := .bool false) (by simp; omega) (by simp [go_sem, f1]); have g2 := bcells hb2 (b := w.heap.size + 1) (o := 0) (v := .string ⟨#[]⟩) (by simp; omega) (by simp [go_sem, f2]); have g3 := bcells hb2 (b := w.heap.size + 1) (o := 1) (v := .bool false) (by simp; omega) (by simp [go_sem, f3]); have q2 := bfree hb2 (b := w.heap.size + 1) (o := 0) (by simp; omega) (by simp [go_sem, k2]); have q3 := bfree hb2 (b := w.heap.size + 1) (o := 1) (by simp; omega) (by simp [go_sem, k3]))
  all_goals
    have B2 : Below w.heap.size w w2 := ((B1.setCell (by simp) _).setCell (by simp) _).drew.trans (hb2.mono (by simp; omega))
    clear hb2
    go_wp2_with fail
    exact bodyPost_ret (v := .tuple #[.string (u.extract 0 n), .agg #[.string (u.extract n u.size), .bool false]]) (by simp [results, Try.results78, go_sem, g2, g3]) rfl ⟨rfl, (B2.setCell (by simp) _).setCell (by simp) _⟩
/-- Text, of any reader -/
theorem rtext_any (s : ByteArray) (b : Bool) (most : Int) (t r : ByteArray) (b' : Bool) (w : World) (hs : s.size ≤ maxLen) (hm2 : most ≤ 9223372036854775807) (h : P.RT s b most = (t, r, b')) :
    Calls Try.prog 78 #[.agg #[.string s, .bool b], .int .i64 most] w fun e w' => e = .returned (.tuple #[.string t, .agg #[.string r, .bool b']]) ∧ Below w.heap.size w w' := by
  obtain ⟨n, u, c, hv⟩ : ∃ n u c, P.RV s b = (n, u, c) := ⟨_, _, _, rfl⟩
  cases c with
  | true =>
    rw [P.RT_bad s b n u most hv] at h
    simp only [Prod.mk.injEq] at h
    obtain ⟨rfl, rfl, rfl⟩ := h
    exact rtext_bad s b most n u w hs hv
  | false =>
    by_cases hm : most < (n : Int) ∨ u.size < n
    · rw [P.RT_no s b n u most hv hm] at h
      simp only [Prod.mk.injEq] at h
      obtain ⟨rfl, rfl, rfl⟩ := h
      exact rtext_no s b most n u w hs hm2 hv hm
    · rw [P.RT_yes s b n u most hv hm] at h
      simp only [Prod.mk.injEq] at h
      obtain ⟨rfl, rfl, rfl⟩ := h
      exact rtext_yes s b most n u w hs hm2 hv hm
end Go.Proofs.Ytkfcbihofipcbaa.Pk

namespace Go.Proofs.Ytkfcbihofipcbaa.Pk

set_option linter.unusedVariables false

set_option linter.unusedSimpArgs false

theorem RN_size (s : ByteArray) (b : Bool) (k : Int) : (P.RN s b k).2.1.size ≤ s.size := by
  unfold P.RN P.outN
  split
  · exact Nat.zero_le _
  · rename_i n r h
    show (P.S r).size ≤ _
    rw [P.S_size, ← P.len_list]
    cases b with
    | true => simp at h
    | false =>
      simp only [Bool.false_eq_true, if_false] at h
      unfold P.rnum at h
      split at h
      · cases h
      · simp at h
        rw [← h.2, List.length_drop]; omega
theorem RV_size (s : ByteArray) (b : Bool) : (P.RV s b).2.1.size ≤ s.size := by
  obtain ⟨n, u, c, hv⟩ : ∃ n u c, P.RV s b = (n, u, c) := ⟨_, _, _, rfl⟩
  rw [hv]
  cases c with
  | true => rw [(P.RV_none _ _ _ _ hv).2.1]; exact Nat.zero_le _
  | false => exact Nat.le_of_lt (P.RV_some _ _ _ _ hv).2.2.2
theorem RT_size (s : ByteArray) (b : Bool) (m : Int) : (P.RT s b m).2.1.size ≤ s.size := by
  obtain ⟨n, u, c, hv⟩ : ∃ n u c, P.RV s b = (n, u, c) := ⟨_, _, _, rfl⟩
  cases c with
  | true => rw [P.RT_bad _ _ _ _ _ hv]; exact Nat.zero_le _
  | false =>
    by_cases hm : m < (n : Int) ∨ u.size < n
    · rw [P.RT_no _ _ _ _ _ hv hm]; exact Nat.zero_le _
    · rw [P.RT_yes _ _ _ _ _ hv hm]
      have := (P.RV_some _ _ _ _ hv).2.2.2
      show (u.extract n u.size).size ≤ _
      rw [P.ext_rest, P.S_size, List.length_drop, P.len_list]; omega

end Go.Proofs.Ytkfcbihofipcbaa.Pk
