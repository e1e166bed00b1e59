/- More plain mathematics of writes: two of one key, by how many there are. -/
import Derived.Test.YtkfcbihofipcbaaItemMath

namespace Go.Proofs.Ytkfcbihofipcbaa.I

set_option linter.unusedVariables false

theorem two_filter {α : Type} (q : α → Bool) (z : α) (L : List α) : 1 < (L.filter q).length ↔ ∃ i k, i < k ∧ k < L.length ∧ q (L.getD i z) = true ∧ q (L.getD k z) = true := by
  induction L with
  | nil => simp
  | cons a L ih =>
    rw [List.filter_cons]
    constructor
    · intro h
      by_cases hq : q a = true
      · rw [if_pos hq, List.length_cons] at h
        have hpos : 0 < (L.filter q).length := by omega
        obtain ⟨y, hy⟩ := List.exists_mem_of_length_pos hpos
        obtain ⟨hy1, hy2⟩ := List.mem_filter.1 hy
        obtain ⟨k, hk, rfl⟩ := List.getElem_of_mem hy1
        refine ⟨0, k + 1, by omega, by simp; omega, by simpa using hq, ?_⟩
        rw [List.getD_eq_getElem?_getD, List.getElem?_cons_succ, List.getElem?_eq_getElem hk]
        exact hy2
      · rw [if_neg hq] at h
        obtain ⟨i, k, h1, h2, h3, h4⟩ := ih.1 h
        exact ⟨i + 1, k + 1, by omega, by simp; omega, by simpa using h3, by simpa using h4⟩
    · rintro ⟨i, k, h1, h2, h3, h4⟩
      obtain ⟨k, rfl⟩ : ∃ m, k = m + 1 := ⟨k - 1, by omega⟩
      have hk : k < L.length := by simpa using h2
      have hm : q (L.getD k z) = true := by simpa using h4
      have hmem : L.getD k z ∈ L.filter q := List.mem_filter.2 ⟨by rw [List.getD_eq_getElem?_getD, List.getElem?_eq_getElem hk]; exact List.getElem_mem hk, hm⟩
      have hpos : 0 < (L.filter q).length := List.length_pos_of_mem hmem
      cases i with
      | zero =>
        have : q a = true := by simpa using h3
        rw [if_pos this, List.length_cons]; omega
      | succ i =>
        have := ih.2 ⟨i, k, by omega, hk, by simpa using h3, hm⟩
        split
        · rw [List.length_cons]; omega
        · exact this
/-- those of the key of the j-th -/
def alike (L : List Wt) (x : Wt) : List Wt := L.filter fun y => decide (key y = key x)
def good (L : List Wt) (j : Nat) : Bool := right (L.getD j none_) && !decide (1 < (alike L (L.getD j none_)).length)
def ok2 (L : List Wt) (n : Nat) : Bool := (List.range n).all (good L)
theorem ok2_step (L : List Wt) (n : Nat) : ok2 L (n + 1) = (ok2 L n && good L n) := by simp [ok2, List.range_succ]
theorem ok2_not (L : List Wt) (i n : Nat) (hi : i < n) (h : good L i = false) : ok2 L n = false := by
  rw [ok2, List.all_eq_false]
  exact ⟨i, List.mem_range.2 hi, by simp only [h]; decide⟩
theorem ok2_okTo (L : List Wt) : ok2 L L.length = okTo L L.length := by
  rw [Bool.eq_iff_iff, ok2, okTo, List.all_eq_true, List.all_eq_true]
  constructor
  · intro h i hi
    have hr := h i hi
    unfold good at hr
    rw [Bool.and_eq_true, Bool.not_eq_true', decide_eq_false_iff_not] at hr
    rw [Bool.and_eq_true]
    refine ⟨hr.1, ?_⟩
    unfold apart
    rw [List.all_eq_true]
    intro k hk
    rw [Bool.not_eq_true', decide_eq_false_iff_not]
    intro he
    refine hr.2 ((two_filter _ none_ L).2 ⟨k, i, List.mem_range.1 hk, List.mem_range.1 hi, decide_eq_true he, decide_eq_true rfl⟩)
  · intro h j hj
    have hr := h j hj
    rw [Bool.and_eq_true] at hr
    unfold good
    rw [Bool.and_eq_true, Bool.not_eq_true', decide_eq_false_iff_not]
    refine ⟨hr.1, fun hl => ?_⟩
    obtain ⟨i, k, h1, h2, h3, h4⟩ := (two_filter _ none_ L).1 hl
    have hk := h k (List.mem_range.2 h2)
    rw [Bool.and_eq_true] at hk
    have := apart_not L k i k h1 ((of_decide_eq_true h3).trans (of_decide_eq_true h4).symm)
    rw [hk.2] at this
    cases this
end Go.Proofs.Ytkfcbihofipcbaa.I
