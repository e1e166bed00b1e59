/- Plain: where a stamp is found, by halves. -/
import Derived.Test.YtohcdonmdnjgoaaChainRow

namespace Go.Proofs.Ytohcdonmdnjgoaa.C

set_option linter.unusedVariables false

section

variable {α : Type}

theorem pos_iff {l : List (Vr α)} (hl : Up l) (s : St) (hs : s.1.length = 4) (h : Nat) (x : Vr α) (hx : l[h]? = some x) : decide (ord x.1 s < 0) = decide (h < pos l s) := by
  apply decide_eq_decide.2
  constructor
  · intro hlt
    rcases Nat.lt_or_ge h (pos l s) with h1 | h1
    · exact h1
    · exfalso
      have hh := (List.getElem?_eq_some_iff.1 hx).1
      obtain ⟨y, hy⟩ : ∃ y, l[pos l s]? = some y := ⟨_, List.getElem?_eq_getElem (by omega)⟩
      have hn := pos_at l s y hy
      rcases Nat.lt_or_eq_of_le h1 with h2 | h2
      · have hp : ord y.1 x.1 < 0 := by
          have := List.pairwise_iff_getElem.1 hl.up (pos l s) h (by omega) hh h2
          rw [List.getElem?_eq_getElem (by omega)] at hy hx
          rw [Option.some.inj hy, Option.some.inj hx] at this
          exact this
        exact hn (ord_lt (by rw [hl.four y (List.mem_of_getElem? hy), hl.four x (List.mem_of_getElem? hx)]) (by rw [hl.four x (List.mem_of_getElem? hx), hs]) hp (by omega))
      · rw [h2, hx] at hy
        rw [Option.some.inj hy] at hlt
        exact hn hlt
  · intro h1
    exact pos_under l s h x h1 hx
theorem has_end {l : List (Vr α)} (hl : Up l) (s : St) (hs : s.1.length = 4) (h : ¬ pos l s < l.length) : has l s = false := by
  rw [← Bool.not_eq_true, has_pos hl s hs]
  rintro ⟨x, hx, _⟩
  exact h (List.getElem?_eq_some_iff.1 hx).1
theorem has_at {l : List (Vr α)} (hl : Up l) (s : St) (hs : s.1.length = 4) (x : Vr α) (hx : l[pos l s]? = some x) : has l s = decide (ord x.1 s = 0) := by
  cases hh : has l s with
  | true =>
    obtain ⟨y, hy, e⟩ := (has_pos hl s hs).1 hh
    rw [hx] at hy
    rw [Option.some.inj hy, decide_eq_true (ord_zero.2 e)]
  | false =>
    symm
    rw [decide_eq_false_iff_not]
    intro h0
    have := (has_pos hl s hs).2 ⟨x, hx, ord_zero.1 h0⟩
    rw [hh] at this
    cases this
theorem getD_some {β : Type} {l : List β} {i : Nat} (h : i < l.length) (d : β) : l[i]? = some (l.getD i d) := by
  rw [List.getD_eq_getElem?_getD, List.getElem?_eq_getElem h]; rfl
end

end Go.Proofs.Ytohcdonmdnjgoaa.C
