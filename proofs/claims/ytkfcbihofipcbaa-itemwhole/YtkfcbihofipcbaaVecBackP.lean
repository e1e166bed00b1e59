/- What was put is read; cut it is none: plain mathematics of vectors. -/
import Derived.Test.YtkfcbihofipcbaaVecMath

import Derived.Laws.StructEq

namespace Go.Proofs.Ytkfcbihofipcbaa.V

set_option linter.unusedVariables false

theorem RV_put (n : Nat) (t : List UInt8) (h : n < 2 ^ 64) : P.RV (P.S (P.vary n ++ t)) false = (n, P.S t, false) := by
  unfold P.RV
  rw [P.S_list]
  simp only [Bool.false_eq_true, if_false]
  rw [P.rvary_vary n t h]
  rfl
theorem rd_bad (k : Nat) (s : ByteArray) : (rd k s true).2.2 = true := by
  induction k generalizing s with
  | zero => rfl
  | succ k ih =>
    have e : P.RV s true = (0, ⟨#[]⟩, true) := rfl
    simp only [rd, e]
    exact ih _
theorem put_cons (x : Nat) (l : List Nat) : put (x :: l) = P.vary x ++ put l := by simp [put]
theorem rd_put (l : List Nat) (t : List UInt8) (h : ∀ x ∈ l, x < 2 ^ 64) : rd l.length (P.S (put l ++ t)) false = (l, P.S t, false) := by
  induction l with
  | nil => rfl
  | cons x l ih =>
    have e := RV_put x (put l ++ t) (h x (by simp))
    rw [put_cons, List.append_assoc, List.length_cons, rd, e, ih (fun y hy => h y (by simp [hy]))]
theorem RV_cut (n j : Nat) (h : j < (P.vary n).length) : (P.RV (P.S ((P.vary n).take j)) false).2.2 = true := by
  unfold P.RV
  rw [P.S_list]
  simp only [Bool.false_eq_true, if_false]
  rw [P.vary_cut n j h]
  rfl
theorem rd_cut (l : List Nat) (m : Nat) (h : ∀ x ∈ l, x < 2 ^ 64) (hm : m < (put l).length) : (rd l.length (P.S ((put l).take m)) false).2.2 = true := by
  induction l generalizing m with
  | nil => simp [put] at hm
  | cons x l ih =>
    rw [put_cons] at hm ⊢
    rw [List.length_cons, rd]
    by_cases hj : m < (P.vary x).length
    · rw [List.take_append_of_le_length (by omega), RV_cut x m hj]
      exact rd_bad _ _
    · have e1 : (P.vary x ++ put l).take m = P.vary x ++ (put l).take (m - (P.vary x).length) := by
        rw [List.take_append, List.take_of_length_le (by omega)]
      rw [e1, RV_put x _ (h x (by simp))]
      rw [List.length_append] at hm
      exact ih _ (fun y hy => h y (by simp [hy])) (by omega)
theorem gets_put {a : List Nat} (h : Ok a) (t : ByteArray) : gets (P.S (put a) ++ t) false = if right a then (a, t, false) else (zeros, ⟨#[]⟩, true) := by
  have e : P.S (put a) ++ t = P.S (put a ++ t.data.toList) := by rw [← P.S_append, P.S_of]
  have hr := rd_put a t.data.toList h.lt
  rw [h.len, P.S_of] at hr
  unfold gets
  rw [e, hr]
  cases right a <;> simp
theorem gets_cut {a : List Nat} (h : Ok a) (m : Nat) (hm : m < (put a).length) : gets ((P.S (put a)).extract 0 m) false = (zeros, ⟨#[]⟩, true) := by
  have hc := rd_cut a m h.lt hm
  rw [h.len] at hc
  unfold gets
  rw [P.ext_head, P.S_list, if_pos (Or.inl hc)]
theorem put_inj {a b : List Nat} (ha : Ok a) (hb : Ok b) : decide (P.S (put a) = P.S (put b)) = decide (a = b) := by
  apply decide_eq_decide.2
  refine ⟨fun h => ?_, fun h => by rw [h]⟩
  have h' := (P.S_inj _ _).1 h
  have h1 := rd_put a [] ha.lt
  have h2 := rd_put b [] hb.lt
  rw [ha.len] at h1
  rw [hb.len] at h2
  rw [h', h2] at h1
  exact (Prod.mk.inj h1).1.symm
theorem put_pos {a : List Nat} (h : a.length = 4) : 0 < (put a).length ∧ (put a).length ≤ 40 := by
  obtain ⟨x, y, z, t, rfl⟩ := four h
  have h1 := P.vary_pos x
  have h2 := P.vary_le x
  have h3 := P.vary_le y
  have h4 := P.vary_le z
  have h5 := P.vary_le t
  simp only [put, List.map_cons, List.map_nil, List.flatten_cons, List.flatten_nil, List.length_append, List.length_nil]
  omega
theorem tol_eq (a b : ByteArray) : (a.toList == b.toList) = decide (a = b) := by
  rw [ByteArray.toList_eq, ByteArray.toList_eq, Bool.eq_iff_iff]
  rw [decide_eq_true_iff, beq_iff_eq, ← P.S_inj, P.S_of, P.S_of]
theorem empty_not (s : ByteArray) (h : s.size ≠ 0) : s.toList.isEmpty = false := by
  rw [ByteArray.toList_eq, List.isEmpty_eq_false_iff]
  intro e
  apply h
  have : s.data.toList.length = s.size := by rw [Array.length_toList]; rfl
  rw [← this, e]; rfl
end Go.Proofs.Ytkfcbihofipcbaa.V
