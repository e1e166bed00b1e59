/- The contract of the document's own reader of texts. -/
import Derived.Test.YtkfcbihofipcbaaPackRefGet

namespace Go.Proofs.Ytkfcbihofipcbaa.Pk

open Go.RowKit

set_option linter.unusedVariables false

set_option linter.unusedSimpArgs false

theorem two_set {w1 : World} {b : Nat} {o0 o1 : Value} (v0 v1 : Value) (O : Obj) (hb : b < w1.heap.size) (h0 : w1.cell? ⟨b, 0, none⟩ = some o0) (h1 : w1.cell? ⟨b, 1, none⟩ = some o1) :
    (((w1.setCell ⟨b, 0, none⟩ v0).setCell ⟨b, 1, none⟩ v1).alloc O).cell? ⟨b, 0, none⟩ = some v0 ∧ (((w1.setCell ⟨b, 0, none⟩ v0).setCell ⟨b, 1, none⟩ v1).alloc O).cell? ⟨b, 1, none⟩ = some v1 := by
  rw [World.cell?_alloc_past _ _ _ (by simp [World.setCell]; exact hb), World.cell?_alloc_past _ _ _ (by simp [World.setCell]; exact hb)]
  constructor
  · rw [World.cell?_setCell_other _ _ _ _ (by simp)]
    exact World.cell?_setCell_same _ _ _ h0
  · exact World.cell?_setCell_same _ _ _ ((World.cell?_setCell_other _ _ _ _ (by simp)).trans h1)

set_option maxHeartbeats 400000 in
theorem ref_rtext_bad (s : ByteArray) (b : Bool) (most : Int) (n : Nat) (u : ByteArray) (w : World) (hs : s.size ≤ maxLen) (h : P.RV s b = (n, u, true)) :
    Calls Try.prog 56 #[.agg #[.string s, .bool b], .int .i64 most] w fun e w' => e = .returned (.tuple #[.string ⟨#[]⟩, .agg #[.string ⟨#[]⟩, .bool true]]) ∧ Below w.heap.size w w' := by
  have C : Hid _ := fun w => ref_rvary_any s b n u true w hs h
  clear h
  go_enter Try.func56, Try.ntmps56
  go_wp2_with fail
  refine (C.out _).mono ?_; rintro e w1 ⟨rfl, hb⟩
  have hz : w.heap.size + 1 < w1.heap.size := by have := hb.size; simp at this; omega
  have f2 := bcells hb (b := w.heap.size + 1) (o := 0) (v := .string ⟨#[]⟩) (by simp) (by simp [go_sem])
  have f3 := bcells hb (b := w.heap.size + 1) (o := 1) (v := .bool false) (by simp) (by simp [go_sem])
  have k2 := bfree hb (b := w.heap.size + 1) (o := 0) (by simp) (by simp [go_sem])
  have k3 := bfree hb (b := w.heap.size + 1) (o := 1) (by simp) (by simp [go_sem])
  have B1 : Below w.heap.size w w1 := (((Below.refl _ _).alloc (Nat.le_refl _) _).alloc (by simp) _).trans (hb.mono (by simp; omega))
  have HB1 : Hid _ := B1
  clear hb B1
  have x2 : (w1.alloc (Obj.cells #[.string u, .bool true] 97)).cell? ⟨w.heap.size + 1, 0, none⟩ = some (.string ⟨#[]⟩) := by rw [World.cell?_alloc_past _ _ _ (by omega)]; exact f2
  have x3 : (w1.alloc (Obj.cells #[.string u, .bool true] 97)).cell? ⟨w.heap.size + 1, 1, none⟩ = some (.bool false) := by rw [World.cell?_alloc_past _ _ _ (by omega)]; exact f3
  have y2 : (w1.alloc (Obj.cells #[.string u, .bool true] 97)).frozen? ⟨w.heap.size + 1, 0, none⟩ = false := by rw [World.frozen?_alloc_old _ _ _ (by simp; omega)]; exact k2
  have y3 : (w1.alloc (Obj.cells #[.string u, .bool true] 97)).frozen? ⟨w.heap.size + 1, 1, none⟩ = false := by rw [World.frozen?_alloc_old _ _ _ (by simp; omega)]; exact k3
  go_wp2_with fail
  have tw := two_set (.string ⟨#[]⟩) (.bool true) (Obj.cells #[.string u, .bool true] 97) hz f2 f3
  have t0 := tw.1
  have t1 := tw.2
  exact bodyPost_ret (v := .tuple #[.string ⟨#[]⟩, .agg #[.string ⟨#[]⟩, .bool true]]) (by simp [results, Try.results56, go_sem, t0, t1]) rfl ⟨rfl, ((HB1.out.setCell (by simp) _).setCell (by simp) _).alloc (by simp [World.setCell]; omega) _⟩

set_option maxHeartbeats 400000 in
theorem ref_rtext_no (s : ByteArray) (b : Bool) (most : Int) (n : Nat) (u : ByteArray) (w : World) (hs : s.size ≤ maxLen) (hm2 : most ≤ 9223372036854775807) (h : P.RV s b = (n, u, false)) (hm : most < (n : Int) ∨ u.size < n) :
    Calls Try.prog 56 #[.agg #[.string s, .bool b], .int .i64 most] w fun e w' => e = .returned (.tuple #[.string ⟨#[]⟩, .agg #[.string ⟨#[]⟩, .bool true]]) ∧ Below w.heap.size w w' := by
  have C : Hid _ := fun w => ref_rvary_any s b n u false w hs h
  have hu := (P.RV_some _ _ _ _ h).2.2.2
  have hs' := hs
  unfold maxLen at hs'
  clear h
  go_enter Try.func56, Try.ntmps56
  go_wp2_with fail
  refine (C.out _).mono ?_; rintro e w1 ⟨rfl, hb⟩
  have hz : w.heap.size + 1 < w1.heap.size := by have := hb.size; simp at this; omega
  have f2 := bcells hb (b := w.heap.size + 1) (o := 0) (v := .string ⟨#[]⟩) (by simp) (by simp [go_sem])
  have f3 := bcells hb (b := w.heap.size + 1) (o := 1) (v := .bool false) (by simp) (by simp [go_sem])
  have k2 := bfree hb (b := w.heap.size + 1) (o := 0) (by simp) (by simp [go_sem])
  have k3 := bfree hb (b := w.heap.size + 1) (o := 1) (by simp) (by simp [go_sem])
  have B1 : Below w.heap.size w w1 := (((Below.refl _ _).alloc (Nat.le_refl _) _).alloc (by simp) _).trans (hb.mono (by simp; omega))
  have HB1 : Hid _ := B1
  clear hb B1
  have x2 : (w1.alloc (Obj.cells #[.string u, .bool false] 97)).cell? ⟨w.heap.size + 1, 0, none⟩ = some (.string ⟨#[]⟩) := by rw [World.cell?_alloc_past _ _ _ (by omega)]; exact f2
  have x3 : (w1.alloc (Obj.cells #[.string u, .bool false] 97)).cell? ⟨w.heap.size + 1, 1, none⟩ = some (.bool false) := by rw [World.cell?_alloc_past _ _ _ (by omega)]; exact f3
  have y2 : (w1.alloc (Obj.cells #[.string u, .bool false] 97)).frozen? ⟨w.heap.size + 1, 0, none⟩ = false := by rw [World.frozen?_alloc_old _ _ _ (by simp; omega)]; exact k2
  have y3 : (w1.alloc (Obj.cells #[.string u, .bool false] 97)).frozen? ⟨w.heap.size + 1, 1, none⟩ = false := by rw [World.frozen?_alloc_old _ _ _ (by simp; omega)]; exact k3
  by_cases h0 : most < 0
  · have d0 : decide (most < 0) = true := by simp; omega
    clear hm
    go_wp2_with fail
    have tw := two_set (.string ⟨#[]⟩) (.bool true) (Obj.cells #[.string u, .bool false] 97) hz f2 f3
    have t0 := tw.1
    have t1 := tw.2
    exact bodyPost_ret (v := .tuple #[.string ⟨#[]⟩, .agg #[.string ⟨#[]⟩, .bool true]]) (by simp [results, Try.results56, go_sem, t0, t1]) rfl ⟨rfl, ((HB1.out.setCell (by simp) _).setCell (by simp) _).alloc (by simp [World.setCell]; omega) _⟩
  · have d0 : decide (most < 0) = false := by simp; omega
    by_cases h1 : most < (n : Int)
    · have h0' : 0 ≤ most := by omega
      clear hm
      go_wp2_with fail
      have tw := two_set (.string ⟨#[]⟩) (.bool true) (Obj.cells #[.string u, .bool false] 97) hz f2 f3
      have t0 := tw.1
      have t1 := tw.2
      exact bodyPost_ret (v := .tuple #[.string ⟨#[]⟩, .agg #[.string ⟨#[]⟩, .bool true]]) (by simp [results, Try.results56, go_sem, t0, t1]) rfl ⟨rfl, ((HB1.out.setCell (by simp) _).setCell (by simp) _).alloc (by simp [World.setCell]; omega) _⟩
    · have h0' : 0 ≤ most := by omega
      have h1' : (n : Int) ≤ most := by omega
      have h2 : (u.size : Int) < (n : Int) := by omega
      have d1 : decide (most < (n : Int)) = false := by simp; omega
      clear hm h0 h1
      go_wp2_with fail
      have tw := two_set (.string ⟨#[]⟩) (.bool true) (Obj.cells #[.string u, .bool false] 97) hz f2 f3
      have t0 := tw.1
      have t1 := tw.2
      exact bodyPost_ret (v := .tuple #[.string ⟨#[]⟩, .agg #[.string ⟨#[]⟩, .bool true]]) (by simp [results, Try.results56, go_sem, t0, t1]) rfl ⟨rfl, ((HB1.out.setCell (by simp) _).setCell (by simp) _).alloc (by simp [World.setCell]; omega) _⟩

set_option maxHeartbeats 1000000 in
theorem ref_rtext_yes (s : ByteArray) (b : Bool) (most : Int) (n : Nat) (u : ByteArray) (w : World) (hs : s.size ≤ maxLen) (hm2 : most ≤ 9223372036854775807) (h : P.RV s b = (n, u, false)) (hm : ¬ (most < (n : Int) ∨ u.size < n)) :
    Calls Try.prog 56 #[.agg #[.string s, .bool b], .int .i64 most] w fun e w' => e = .returned (.tuple #[.string (u.extract 0 n), .agg #[.string (u.extract n u.size), .bool false]]) ∧ Below w.heap.size w w' := by
  have C : Hid _ := fun w => ref_rvary_any s b n u false w hs h
  have hu := (P.RV_some _ _ _ _ h).2.2.2
  have hs' := hs
  unfold maxLen at hs'
  have h1 : (n : Int) ≤ most := by omega
  have h2 : n ≤ u.size := by omega
  have h0' : 0 ≤ most := by omega
  have d0 : decide (most < 0) = false := by simp; omega
  have d1 : decide (most < (n : Int)) = false := by simp; omega
  have d2 : decide ((u.size : Int) < (n : Int)) = false := by simp; omega
  clear h hm
  go_enter Try.func56, Try.ntmps56
  go_wp2_with fail
  refine (C.out _).mono ?_; rintro e w1 ⟨rfl, hb⟩
  have hz : w.heap.size + 1 < w1.heap.size := by have := hb.size; simp at this; omega
  have f2 := bcells hb (b := w.heap.size + 1) (o := 0) (v := .string ⟨#[]⟩) (by simp) (by simp [go_sem])
  have f3 := bcells hb (b := w.heap.size + 1) (o := 1) (v := .bool false) (by simp) (by simp [go_sem])
  have k2 := bfree hb (b := w.heap.size + 1) (o := 0) (by simp) (by simp [go_sem])
  have k3 := bfree hb (b := w.heap.size + 1) (o := 1) (by simp) (by simp [go_sem])
  have B1 : Below w.heap.size w w1 := (((Below.refl _ _).alloc (Nat.le_refl _) _).alloc (by simp) _).trans (hb.mono (by simp; omega))
  have HB1 : Hid _ := B1
  clear hb B1
  have x2 : (w1.alloc (Obj.cells #[.string u, .bool false] 97)).cell? ⟨w.heap.size + 1, 0, none⟩ = some (.string ⟨#[]⟩) := by rw [World.cell?_alloc_past _ _ _ (by omega)]; exact f2
  have x3 : (w1.alloc (Obj.cells #[.string u, .bool false] 97)).cell? ⟨w.heap.size + 1, 1, none⟩ = some (.bool false) := by rw [World.cell?_alloc_past _ _ _ (by omega)]; exact f3
  have y2 : (w1.alloc (Obj.cells #[.string u, .bool false] 97)).frozen? ⟨w.heap.size + 1, 0, none⟩ = false := by rw [World.frozen?_alloc_old _ _ _ (by simp; omega)]; exact k2
  have y3 : (w1.alloc (Obj.cells #[.string u, .bool false] 97)).frozen? ⟨w.heap.size + 1, 1, none⟩ = false := by rw [World.frozen?_alloc_old _ _ _ (by simp; omega)]; exact k3
  go_wp2_with fail
  go_region
  all_goals
    go_wp2_with fail
    have tw := two_set (.string (u.extract n u.size)) (.bool false) (Obj.cells #[.string u, .bool false] 97) hz f2 f3
    have t0 := tw.1
    have t1 := tw.2
    exact bodyPost_ret (v := .tuple #[.string (u.extract 0 n), .agg #[.string (u.extract n u.size), .bool false]]) (by simp [results, Try.results56, go_sem, t0, t1]) rfl ⟨rfl, (((HB1.out.setCell (by simp) _).setCell (by simp) _).alloc (by simp [World.setCell]; omega) _).drew⟩
theorem ref_rtext_any (s : ByteArray) (b : Bool) (most : Int) (t r : ByteArray) (b' : Bool) (w : World) (hs : s.size ≤ maxLen) (hm2 : most ≤ 9223372036854775807) (h : P.RT s b most = (t, r, b')) :
    Calls Try.prog 56 #[.agg #[.string s, .bool b], .int .i64 most] w fun e w' => e = .returned (.tuple #[.string t, .agg #[.string r, .bool b']]) ∧ Below w.heap.size w w' := by
  obtain ⟨n, u, c, hv⟩ : ∃ n u c, P.RV s b = (n, u, c) := ⟨_, _, _, rfl⟩
  cases c with
  | true =>
    rw [P.RT_bad s b n u most hv] at h
    simp only [Prod.mk.injEq] at h
    obtain ⟨rfl, rfl, rfl⟩ := h
    exact ref_rtext_bad s b most n u w hs hv
  | false =>
    by_cases hm : most < (n : Int) ∨ u.size < n
    · rw [P.RT_no s b n u most hv hm] at h
      simp only [Prod.mk.injEq] at h
      obtain ⟨rfl, rfl, rfl⟩ := h
      exact ref_rtext_no s b most n u w hs hm2 hv hm
    · rw [P.RT_yes s b n u most hv hm] at h
      simp only [Prod.mk.injEq] at h
      obtain ⟨rfl, rfl, rfl⟩ := h
      exact ref_rtext_yes s b most n u w hs hm2 hv hm
end Go.Proofs.Ytkfcbihofipcbaa.Pk
