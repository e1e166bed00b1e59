/- The contract of the examples that stand ahead of each law. -/
import Derived.Test.YtnhglgmjmicaoaaPackText
import Derived.Test.YtnhglgmjmicaoaaPackPut
import Derived.Test.YtnhglgmjmicaoaaPackFresh
namespace Go.Proofs.Ytnhglgmjmicaoaa
open Go.RowKit
set_option linter.unusedVariables false
set_option linter.unusedSimpArgs false

theorem exn (w : World) : Calls Try.prog 10 #[.agg #[.string ⟨#[1, 2, 120]⟩, .bool false], .int .i64 2] w fun e w' => e = .returned (.tuple #[.int .u64 258, .agg #[.string ⟨#[120]⟩, .bool false]]) ∧ Below w.heap.size w w' :=
  rnumber_any _ _ _ 258 _ _ w (by decide) (by decide +kernel)
theorem exm (w : World) : Calls Try.prog 12 #[.agg #[.string ⟨#[172, 2, 121]⟩, .bool false]] w fun e w' => e = .returned (.tuple #[.int .u64 300, .agg #[.string ⟨#[121]⟩, .bool false]]) ∧ Below w.heap.size w w' :=
  rvary_any _ _ 300 _ _ w (by decide) (by decide +kernel)
theorem exs (w : World) : Calls Try.prog 14 #[.agg #[.string ⟨#[2, 97, 98, 99]⟩, .bool false], .int .i64 2] w fun e w' => e = .returned (.tuple #[.string ⟨#[97, 98]⟩, .agg #[.string ⟨#[99]⟩, .bool false]]) ∧ Below w.heap.size w w' :=
  rtext_any _ _ _ _ _ _ w (by decide) (by decide) (by decide +kernel)
theorem exlong (w : World) : Calls Try.prog 14 #[.agg #[.string ⟨#[2, 97, 98]⟩, .bool false], .int .i64 1] w fun e w' => e = .returned (.tuple #[.string ⟨#[]⟩, .agg #[.string ⟨#[]⟩, .bool true]]) ∧ Below w.heap.size w w' :=
  rtext_any _ _ _ _ _ _ w (by decide) (by decide) (by decide +kernel)
theorem extwice (w : World) : Calls Try.prog 12 #[.agg #[.string ⟨#[128, 0]⟩, .bool false]] w fun e w' => e = .returned (.tuple #[.int .u64 0, .agg #[.string ⟨#[]⟩, .bool true]]) ∧ Below w.heap.size w w' :=
  rvary_any _ _ 0 _ _ w (by decide) (by decide +kernel)
theorem exnum (w : World) : Calls Try.prog 18 #[.int .u64 258, .int .i64 2] w fun e w' => e = .returned (.string ⟨#[1, 2]⟩) ∧ Below w.heap.size w w' := by
  have := number_any 258 2 w (by decide)
  rw [show numS 258 2 = ⟨#[1, 2]⟩ by decide +kernel] at this
  exact this
theorem exvary (w : World) : Calls Try.prog 20 #[.int .u64 300] w fun e w' => e = .returned (.string ⟨#[172, 2]⟩) ∧ Below w.heap.size w w' := by
  have := vary_any 300 w (by decide)
  rw [show P.S (P.vary 300) = ⟨#[172, 2]⟩ by decide +kernel] at this
  exact this
theorem extext (w : World) : Calls Try.prog 22 #[.string ⟨#[97, 98]⟩] w fun e w' => e = .returned (.string ⟨#[2, 97, 98]⟩) ∧ Below w.heap.size w w' := by
  have := text_any ⟨#[97, 98]⟩ w (by decide)
  rw [show textS ⟨#[97, 98]⟩ = ⟨#[2, 97, 98]⟩ by decide +kernel] at this
  exact this
theorem exhalves (w : World) (g : Nat) (hg : g = w.heap.size) : Calls Try.prog 26 #[.slice (some ⟨g, 0, none⟩) 3 3] (w.alloc (.cells #[.int .i64 1, .int .i64 2, .int .i64 3] 3)) fun e w' => ∃ g1 g2, e = .returned (.tuple #[.slice (some ⟨g1, 0, none⟩) 2 2, .slice (some ⟨g2, 0, none⟩) 1 1]) ∧ w'.cell? ⟨g2, 0, none⟩ = some (.int .i64 3) ∧ g2 < w'.heap.size ∧ Below (w.alloc (.cells #[.int .i64 1, .int .i64 2, .int .i64 3] 3)).heap.size (w.alloc (.cells #[.int .i64 1, .int .i64 2, .int .i64 3] 3)) w' := by
  subst hg
  refine (halves_i64 w.heap.size 0 3 3 [.int .i64 1, .int .i64 2, .int .i64 3] _ rfl (by omega) (by omega) (by unfold maxLen; omega) (by intro v hv; simp at hv; rcases hv with rfl | rfl | rfl <;> rfl) (by simp) ?_).mono ?_
  · intro j v hj
    match j, hj with
    | 0, hj => simp at hj; subst hj; simp [go_sem]
    | 1, hj => simp at hj; subst hj; simp [go_sem]
    | 2, hj => simp at hj; subst hj; simp [go_sem]
  · rintro e w' ⟨g1, g2, rfl, h1, h2, r1, r2, hb⟩
    refine ⟨g1, g2, rfl, ?_, r2.lt, hb⟩
    rw [r2.cell]; rfl

set_option maxHeartbeats 1000000 in
set_option maxRecDepth 100000 in
theorem examples_any (w : World) :
    Calls Try.prog 9 #[] w fun e w' => e = .returned (.bool true) ∧ Below w.heap.size w w' := by
  go_enter Try.func9, Try.ntmps9
  go_wp2_with fail
  refine (exn _).mono ?_; rintro e w1 ⟨rfl, hb1⟩
  have z1 := hb1.size
  have B1 := hb1
  clear hb1
  go_wp2_with fail
  refine (exm _).mono ?_; rintro e w2 ⟨rfl, hb2⟩
  have z2 := hb2.size
  simp at z2
  have B2 : Below w.heap.size w w2 := (B1.alloc (by omega) _).trans (hb2.mono (by simp; omega))
  have c0_2 := bcells hb2 (b := w1.heap.size) (o := 0) (v := .string ⟨#[120]⟩) (by first | omega | (simp <;> omega)) (by simp [go_sem])
  clear hb2 B1
  go_wp2_with fail
  refine (exs _).mono ?_; rintro e w3 ⟨rfl, hb3⟩
  have z3 := hb3.size
  simp at z3
  have B3 : Below w.heap.size w w3 := (B2.alloc (by omega) _).trans (hb3.mono (by simp; omega))
  have c0_3 := bcells hb3 (b := w1.heap.size) (o := 0) (v := .string ⟨#[120]⟩) (by first | omega | (simp <;> omega)) (by rw [World.cell?_alloc_past _ _ _ (by omega)]; exact c0_2)
  have c1_3 := bcells hb3 (b := w2.heap.size) (o := 0) (v := .string ⟨#[121]⟩) (by first | omega | (simp <;> omega)) (by simp [go_sem])
  clear hb3 c0_2 B2
  go_wp2_with fail
  refine (exlong _).mono ?_; rintro e w4 ⟨rfl, hb4⟩
  have z4 := hb4.size
  simp at z4
  have B4 : Below w.heap.size w w4 := (B3.alloc (by omega) _).trans (hb4.mono (by simp; omega))
  have c0_4 := bcells hb4 (b := w1.heap.size) (o := 0) (v := .string ⟨#[120]⟩) (by first | omega | (simp <;> omega)) (by rw [World.cell?_alloc_past _ _ _ (by omega)]; exact c0_3)
  have c1_4 := bcells hb4 (b := w2.heap.size) (o := 0) (v := .string ⟨#[121]⟩) (by first | omega | (simp <;> omega)) (by rw [World.cell?_alloc_past _ _ _ (by omega)]; exact c1_3)
  have c2_4 := bcells hb4 (b := w3.heap.size) (o := 0) (v := .string ⟨#[99]⟩) (by first | omega | (simp <;> omega)) (by simp [go_sem])
  clear hb4 c0_3 c1_3 B3
  go_wp2_with fail
  refine (extwice _).mono ?_; rintro e w5 ⟨rfl, hb5⟩
  have z5 := hb5.size
  simp at z5
  have B5 : Below w.heap.size w w5 := (B4.alloc (by omega) _).trans (hb5.mono (by simp; omega))
  have c0_5 := bcells hb5 (b := w1.heap.size) (o := 0) (v := .string ⟨#[120]⟩) (by first | omega | (simp <;> omega)) (by rw [World.cell?_alloc_past _ _ _ (by omega)]; exact c0_4)
  have c1_5 := bcells hb5 (b := w2.heap.size) (o := 0) (v := .string ⟨#[121]⟩) (by first | omega | (simp <;> omega)) (by rw [World.cell?_alloc_past _ _ _ (by omega)]; exact c1_4)
  have c2_5 := bcells hb5 (b := w3.heap.size) (o := 0) (v := .string ⟨#[99]⟩) (by first | omega | (simp <;> omega)) (by rw [World.cell?_alloc_past _ _ _ (by omega)]; exact c2_4)
  have c3_5 := bcells hb5 (b := w4.heap.size) (o := 1) (v := .bool true) (by first | omega | (simp <;> omega)) (by simp [go_sem])
  clear hb5 c0_4 c1_4 c2_4 B4
  go_wp2_with fail
  refine (exhalves _ _ (by simp)).mono ?_; rintro e w6 ⟨g1, g2, rfl, hg, hglt, hb6⟩
  have z6 := hb6.size
  simp at z6
  have B6 : Below w.heap.size w w6 := ((B5.alloc (by omega) _).alloc (by simp; omega) _).trans (hb6.mono (by simp; omega))
  have c0_6 := bcells hb6 (b := w1.heap.size) (o := 0) (v := .string ⟨#[120]⟩) (by first | omega | (simp <;> omega)) (by rw [World.cell?_alloc_past _ _ _ (by simp <;> omega), World.cell?_alloc_past _ _ _ (by omega)]; exact c0_5)
  have c1_6 := bcells hb6 (b := w2.heap.size) (o := 0) (v := .string ⟨#[121]⟩) (by first | omega | (simp <;> omega)) (by rw [World.cell?_alloc_past _ _ _ (by simp <;> omega), World.cell?_alloc_past _ _ _ (by omega)]; exact c1_5)
  have c2_6 := bcells hb6 (b := w3.heap.size) (o := 0) (v := .string ⟨#[99]⟩) (by first | omega | (simp <;> omega)) (by rw [World.cell?_alloc_past _ _ _ (by simp <;> omega), World.cell?_alloc_past _ _ _ (by omega)]; exact c2_5)
  have c3_6 := bcells hb6 (b := w4.heap.size) (o := 1) (v := .bool true) (by first | omega | (simp <;> omega)) (by rw [World.cell?_alloc_past _ _ _ (by simp <;> omega), World.cell?_alloc_past _ _ _ (by omega)]; exact c3_5)
  have c4_6 := bcells hb6 (b := w5.heap.size) (o := 1) (v := .bool true) (by first | omega | (simp <;> omega)) (by rw [World.cell?_alloc_past _ _ _ (by simp <;> omega)]; simp [go_sem])
  have c9_6 := hg
  clear hg
  clear hb6 c0_5 c1_5 c2_5 c3_5 B5
  go_wp2_with fail
  refine (exnum _).mono ?_; rintro e w7 ⟨rfl, hb7⟩
  have z7 := hb7.size
  have B7 : Below w.heap.size w w7 := B6.trans (hb7.mono (by omega))
  have c0_7 := bcells hb7 (b := w1.heap.size) (o := 0) (v := .string ⟨#[120]⟩) (by first | omega | (simp <;> omega)) c0_6
  have c1_7 := bcells hb7 (b := w2.heap.size) (o := 0) (v := .string ⟨#[121]⟩) (by first | omega | (simp <;> omega)) c1_6
  have c2_7 := bcells hb7 (b := w3.heap.size) (o := 0) (v := .string ⟨#[99]⟩) (by first | omega | (simp <;> omega)) c2_6
  have c3_7 := bcells hb7 (b := w4.heap.size) (o := 1) (v := .bool true) (by first | omega | (simp <;> omega)) c3_6
  have c4_7 := bcells hb7 (b := w5.heap.size) (o := 1) (v := .bool true) (by first | omega | (simp <;> omega)) c4_6
  have c9_7 := bcells hb7 (b := g2) (o := 0) (v := .int .i64 3) (by first | omega | (simp <;> omega)) c9_6
  clear hb7 c0_6 c1_6 c2_6 c3_6 c4_6 c9_6 B6
  go_wp2_with fail
  refine (exvary _).mono ?_; rintro e w8 ⟨rfl, hb8⟩
  have z8 := hb8.size
  have B8 : Below w.heap.size w w8 := B7.trans (hb8.mono (by omega))
  have c0_8 := bcells hb8 (b := w1.heap.size) (o := 0) (v := .string ⟨#[120]⟩) (by first | omega | (simp <;> omega)) c0_7
  have c1_8 := bcells hb8 (b := w2.heap.size) (o := 0) (v := .string ⟨#[121]⟩) (by first | omega | (simp <;> omega)) c1_7
  have c2_8 := bcells hb8 (b := w3.heap.size) (o := 0) (v := .string ⟨#[99]⟩) (by first | omega | (simp <;> omega)) c2_7
  have c3_8 := bcells hb8 (b := w4.heap.size) (o := 1) (v := .bool true) (by first | omega | (simp <;> omega)) c3_7
  have c4_8 := bcells hb8 (b := w5.heap.size) (o := 1) (v := .bool true) (by first | omega | (simp <;> omega)) c4_7
  have c9_8 := bcells hb8 (b := g2) (o := 0) (v := .int .i64 3) (by first | omega | (simp <;> omega)) c9_7
  clear hb8 c0_7 c1_7 c2_7 c3_7 c4_7 c9_7 B7
  go_wp2_with fail
  refine (extext _).mono ?_; rintro e w9 ⟨rfl, hb9⟩
  have z9 := hb9.size
  have B9 : Below w.heap.size w w9 := B8.trans (hb9.mono (by omega))
  have c0_9 := bcells hb9 (b := w1.heap.size) (o := 0) (v := .string ⟨#[120]⟩) (by first | omega | (simp <;> omega)) c0_8
  have c1_9 := bcells hb9 (b := w2.heap.size) (o := 0) (v := .string ⟨#[121]⟩) (by first | omega | (simp <;> omega)) c1_8
  have c2_9 := bcells hb9 (b := w3.heap.size) (o := 0) (v := .string ⟨#[99]⟩) (by first | omega | (simp <;> omega)) c2_8
  have c3_9 := bcells hb9 (b := w4.heap.size) (o := 1) (v := .bool true) (by first | omega | (simp <;> omega)) c3_8
  have c4_9 := bcells hb9 (b := w5.heap.size) (o := 1) (v := .bool true) (by first | omega | (simp <;> omega)) c4_8
  have c9_9 := bcells hb9 (b := g2) (o := 0) (v := .int .i64 3) (by first | omega | (simp <;> omega)) c9_8
  clear hb9 c0_8 c1_8 c2_8 c3_8 c4_8 c9_8 B8
  go_wp2_with fail
  go_ret
  exact ⟨rfl, B9⟩
end Go.Proofs.Ytnhglgmjmicaoaa
