/- What is dealt to be whole is whole; what is dealt at all is of a machine's size: plain mathematics. -/
import Derived.Test.YtkfcbihofipcbaaItemDl

namespace Go.Proofs.Ytkfcbihofipcbaa.I

set_option linter.unusedVariables false

set_option linter.unusedSimpArgs false

theorem putW_right (x : Wt) (K : Nat) : right (putW x true K) = true := by
  unfold putW
  rw [if_pos rfl]
  unfold right
  by_cases h : 224 ≤ K
  · simp only [if_pos h, decide_eq_true h, Bool.not_true, Bool.false_or, Bool.and_eq_true, decide_eq_true_eq]
    refine ⟨⟨?_, ?_, ?_, ?_, ?_⟩, rfl⟩
    · show 1 ≤ 2; omega
    · show 2 ≤ 16; omega
    · show 1 ≤ 1; omega
    · show 1 ≤ 16; omega
    · show 0 ≤ 32; omega
  · simp only [if_neg h, decide_eq_false h, Bool.not_false, Bool.true_or, Bool.and_true, decide_eq_true_eq]
    refine ⟨?_, ?_, ?_, ?_, ?_⟩
    · show 1 ≤ 2; omega
    · show 2 ≤ 16; omega
    · show 1 ≤ 1; omega
    · show 1 ≤ 16; omega
    · rw [ByteArray.size_extract]; omega
theorem putW_ok (x : Wt) (own : Bool) (K : Nat) (hx : Ok x) : Ok (putW x own K) := by
  cases own with
  | false => exact hx
  | true =>
    obtain ⟨h1, h2, h3, h4, h5, _⟩ := right_some (putW_right x K)
    exact ⟨by omega, by omega, by omega⟩
theorem okTo_snoc (out : List Wt) (y : Wt) (h : okTo out out.length = true) (hr : right y = true) (ht : tw out y out.length = false) : okTo (out ++ [y]) (out ++ [y]).length = true := by
  have hg : ∀ i, i < out.length → (out ++ [y]).getD i none_ = out.getD i none_ := fun i hi => by
    rw [List.getD_eq_getElem?_getD, List.getElem?_append_left hi, List.getD_eq_getElem?_getD]
  have hy : (out ++ [y]).getD out.length none_ = y := by
    rw [List.getD_eq_getElem?_getD, List.getElem?_append_right (Nat.le_refl _), Nat.sub_self]; rfl
  rw [List.length_append, show out.length + [y].length = out.length + 1 from rfl, okTo_step, hy, hr, Bool.true_and, Bool.and_eq_true]
  constructor
  · rw [okTo, List.all_eq_true] at h ⊢
    intro i hi
    have hi' := List.mem_range.1 hi
    have := h i hi
    rw [Bool.and_eq_true] at this ⊢
    rw [hg i hi']
    refine ⟨this.1, ?_⟩
    have h2 := this.2
    unfold apart at h2 ⊢
    rw [List.all_eq_true] at h2 ⊢
    intro k hk
    rw [hg i hi', hg k (by have := List.mem_range.1 hk; omega)]
    exact h2 k hk
  · unfold apart
    rw [List.all_eq_true]
    intro k hk
    have hk' := List.mem_range.1 hk
    rw [hy, hg k hk', Bool.not_eq_true', decide_eq_false_iff_not]
    intro he
    unfold tw at ht
    rw [List.take_length, List.any_eq_false] at ht
    refine ht (out.getD k none_) ?_ (decide_eq_true he)
    rw [List.getD_eq_getElem?_getD, List.getElem?_eq_getElem hk']
    exact List.getElem_mem _
theorem wrs_whole : ∀ (L : List Pt) (out : List Wt), okTo out out.length = true → out.length ≤ 8 → okTo (wrs 8 true L out) (wrs 8 true L out).length = true ∧ (wrs 8 true L out).length ≤ 8
  | [], out, h, hl => ⟨h, hl⟩
  | p :: L, out, h, hl => by
    unfold wrs
    split
    · rename_i hlt
      unfold wstep
      cases ht : tw out (pw true p) out.length with
      | true => exact wrs_whole L out h hl
      | false => exact wrs_whole L (out ++ [pw true p]) (okTo_snoc out _ h (putW_right _ _) ht) (by rw [List.length_append]; show out.length + 1 ≤ 8; omega)
    · exact ⟨h, hl⟩
theorem wrs_each (most : Nat) (wh : Bool) : ∀ (L : List Pt) (out : List Wt), (∀ p ∈ L, POk p) → (∀ x ∈ out, Ok x) → ∀ x ∈ wrs most wh L out, Ok x
  | [], out, _, h => h
  | p :: L, out, hP, h => by
    unfold wrs
    split
    · refine wrs_each most wh L _ (fun q hq => hP q (List.mem_cons_of_mem _ hq)) ?_
      unfold wstep
      split
      · intro x hx
        rcases List.mem_append.1 hx with hx | hx
        · exact h x hx
        · rw [List.mem_singleton.1 hx]
          exact putW_ok _ _ _ (hP p (List.mem_cons_self ..)).w
      · exact h
    · exact h
theorem wrs_len (most : Nat) (wh : Bool) : ∀ (L : List Pt) (out : List Wt), out.length ≤ most → (wrs most wh L out).length ≤ most
  | [], out, h => h
  | p :: L, out, h => by
    unfold wrs
    split
    · refine wrs_len most wh L _ ?_
      unfold wstep
      split
      · rw [List.length_append]; show _ + 1 ≤ _; omega
      · omega
    · exact h
theorem dealW_whole {l : List Nat} (hl : l.length = 4) (d : Int) (mo : Bool) (L : List Pt) : whole (T.mark l d (true || mo)).1 (T.mark l d (true || mo)).2 (dealW true L) = true := by
  have hr : T.right (T.mark l d (true || mo)).1 (T.mark l d (true || mo)).2 = true := T.mark_right hl d
  obtain ⟨h1, h2⟩ := wrs_whole L [] rfl (Nat.zero_le _)
  unfold whole
  rw [hr, Bool.true_and]
  unfold dealW
  rw [if_pos rfl]
  by_cases hz : (wrs 8 true L []).length = 0
  · rw [if_pos hz]; decide +kernel
  · rw [if_neg hz, h1, Bool.and_true, decide_eq_true_eq]
    omega
theorem dealW_ok (own : Bool) (L : List Pt) (hP : ∀ p ∈ L, POk p) : ∀ x ∈ dealW own L, Ok x := by
  cases own with
  | false => exact wrs_each 10 false L [] hP (fun x hx => by cases hx)
  | true =>
    unfold dealW
    rw [if_pos rfl]
    split
    · intro x hx
      rw [List.mem_singleton.1 hx]
      exact ⟨by decide +kernel, by decide +kernel, by decide +kernel⟩
    · exact wrs_each 8 true L [] hP (fun x hx => by cases hx)
theorem dealW_len (own : Bool) (L : List Pt) : (dealW own L).length ≤ 10 := by
  cases own with
  | false => exact wrs_len 10 false L [] (Nat.zero_le _)
  | true =>
    unfold dealW
    rw [if_pos rfl]
    split
    · show 1 ≤ 10; omega
    · have := wrs_len 8 true L [] (Nat.zero_le _); omega
theorem dealW_pos (L : List Pt) : 1 ≤ (dealW true L).length := by
  unfold dealW
  rw [if_pos rfl]
  split
  · exact Nat.le_refl _
  · omega
end Go.Proofs.Ytkfcbihofipcbaa.I
