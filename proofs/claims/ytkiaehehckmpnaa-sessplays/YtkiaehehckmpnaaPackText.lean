/- The contract of pack's reader of texts. -/
import Derived.Test.YtkiaehehckmpnaaPackGet

import Derived.RegionTactic

import Derived.Deep.RegionWith

import Derived.Test.YtkiaehehckmpnaaPackMath

namespace Go.Proofs.Ytkiaehehckmpnaa.Pk

open Go.RowKit

set_option linter.unusedVariables false

set_option linter.unusedSimpArgs false

/-- behind a call that leaves what was there: the boxes read as they did -/
theorem bcells {W w1 : World} (hb : Below W.heap.size W w1) {b o : Nat} {v : Value} (h : b < W.heap.size) (hv : W.cell? ⟨b, o, none⟩ = some v) : w1.cell? ⟨b, o, none⟩ = some v := by
  rw [hb.cell (p := ⟨b, o, none⟩) h]; exact hv
theorem bfree {W w1 : World} (hb : Below W.heap.size W w1) {b o : Nat} (h : b < W.heap.size) (hv : W.frozen? ⟨b, o, none⟩ = false) : w1.frozen? ⟨b, o, none⟩ = false := by
  rw [hb.frozen (p := ⟨b, o, none⟩) h]; exact hv

end Go.Proofs.Ytkiaehehckmpnaa.Pk

namespace Go.Proofs.Ytkiaehehckmpnaa.Pk

set_option linter.unusedVariables false

set_option linter.unusedSimpArgs false

theorem RN_size (s : ByteArray) (b : Bool) (k : Int) : (P.RN s b k).2.1.size ≤ s.size := by
  unfold P.RN P.outN
  split
  · exact Nat.zero_le _
  · rename_i n r h
    show (P.S r).size ≤ _
    rw [P.S_size, ← P.len_list]
    cases b with
    | true => simp at h
    | false =>
      simp only [Bool.false_eq_true, if_false] at h
      unfold P.rnum at h
      split at h
      · cases h
      · simp at h
        rw [← h.2, List.length_drop]; omega
theorem RV_size (s : ByteArray) (b : Bool) : (P.RV s b).2.1.size ≤ s.size := by
  obtain ⟨n, u, c, hv⟩ : ∃ n u c, P.RV s b = (n, u, c) := ⟨_, _, _, rfl⟩
  rw [hv]
  cases c with
  | true => rw [(P.RV_none _ _ _ _ hv).2.1]; exact Nat.zero_le _
  | false => exact Nat.le_of_lt (P.RV_some _ _ _ _ hv).2.2.2
theorem RT_size (s : ByteArray) (b : Bool) (m : Int) : (P.RT s b m).2.1.size ≤ s.size := by
  obtain ⟨n, u, c, hv⟩ : ∃ n u c, P.RV s b = (n, u, c) := ⟨_, _, _, rfl⟩
  cases c with
  | true => rw [P.RT_bad _ _ _ _ _ hv]; exact Nat.zero_le _
  | false =>
    by_cases hm : m < (n : Int) ∨ u.size < n
    · rw [P.RT_no _ _ _ _ _ hv hm]; exact Nat.zero_le _
    · rw [P.RT_yes _ _ _ _ _ hv hm]
      have := (P.RV_some _ _ _ _ hv).2.2.2
      show (u.extract n u.size).size ≤ _
      rw [P.ext_rest, P.S_size, List.length_drop, P.len_list]; omega

end Go.Proofs.Ytkiaehehckmpnaa.Pk
