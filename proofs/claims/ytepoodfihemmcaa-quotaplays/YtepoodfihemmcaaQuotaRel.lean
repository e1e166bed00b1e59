/- What counts is the last of each key: plain mathematics. -/
import Derived.Test.YtepoodfihemmcaaQuotaLaw

namespace Go.Proofs.Ytepoodfihemmcaa.Q

set_option linter.unusedVariables false

/-- what counts behind a write: as a list of writes -/
def withD (D : List I.Wt) (x : I.Wt) : List I.Wt := if I.right x = true then (D.filter fun y => !decide (I.key y = I.key x)) ++ [x] else D
def allD (D L : List I.Wt) : List I.Wt := L.foldl withD D
def cnt (D : List I.Wt) : Nat := (D.filter fun y => decide (0 < sz y)).length
theorem sumS_nil : sumS [] = 0 := rfl
theorem sumS_cons (x : I.Wt) (D : List I.Wt) : sumS (x :: D) = sz x + sumS D := by simp [sumS]
theorem sumS_app (D E : List I.Wt) : sumS (D ++ E) = sumS D + sumS E := by simp [sumS, List.sum_append]
theorem cnt_cons (x : I.Wt) (D : List I.Wt) : cnt (x :: D) = (if 0 < sz x then 1 else 0) + cnt D := by
  unfold cnt
  rw [List.filter_cons]
  split
  · rename_i h
    rw [if_pos (of_decide_eq_true h), List.length_cons]; omega
  · rename_i h
    rw [if_neg (fun e => h (decide_eq_true e))]; omega
theorem cnt_app (D E : List I.Wt) : cnt (D ++ E) = cnt D + cnt E := by unfold cnt; rw [List.filter_append, List.length_append]
theorem sumS_split (p : I.Wt → Bool) (D : List I.Wt) : sumS D = sumS (D.filter p) + sumS (D.filter fun y => !p y) := by
  induction D with
  | nil => rfl
  | cons x D ih =>
    rw [List.filter_cons, List.filter_cons]
    cases hp : p x
    · simp only [Bool.not_false, if_true, Bool.false_eq_true, if_false, sumS_cons]; omega
    · simp only [Bool.not_true, if_true, Bool.false_eq_true, if_false, sumS_cons]; omega
theorem cnt_split (p : I.Wt → Bool) (D : List I.Wt) : cnt D = cnt (D.filter p) + cnt (D.filter fun y => !p y) := by
  induction D with
  | nil => rfl
  | cons x D ih =>
    rw [List.filter_cons, List.filter_cons]
    cases hp : p x
    · simp only [Bool.not_false, if_true, Bool.false_eq_true, if_false, cnt_cons]; omega
    · simp only [Bool.not_true, if_true, Bool.false_eq_true, if_false, cnt_cons]; omega
/-- the table and the list tell the same -/
structure R (M : Tb) (D : List I.Wt) : Prop where
  tot : tot M = sumS D
  look : ∀ k, look M k = sumS (D.filter fun y => decide (I.key y = k))
  one : ∀ k, cnt (D.filter fun y => decide (I.key y = k)) = if Q.look M k = 0 then 0 else 1
  len : M.length = cnt D
theorem R.nil : R [] [] := ⟨rfl, fun _ => rfl, fun _ => rfl, rfl⟩
theorem filt_self (D : List I.Wt) (x : I.Wt) : ((D.filter fun y => !decide (I.key y = I.key x)) ++ [x]).filter (fun y => decide (I.key y = I.key x)) = [x] := by
  rw [List.filter_append, List.filter_filter]
  have : D.filter (fun y => decide (I.key y = I.key x) && !decide (I.key y = I.key x)) = [] := by
    rw [List.filter_eq_nil_iff]
    intro y _
    simp
  rw [this]
  simp
theorem filt_other (D : List I.Wt) (x : I.Wt) (k : Nm) (h : I.key x ≠ k) : ((D.filter fun y => !decide (I.key y = I.key x)) ++ [x]).filter (fun y => decide (I.key y = k)) = D.filter (fun y => decide (I.key y = k)) := by
  rw [List.filter_append, List.filter_filter]
  have e1 : [x].filter (fun y => decide (I.key y = k)) = [] := by simp [h]
  rw [e1, List.append_nil]
  refine List.filter_congr fun y _ => ?_
  by_cases hy : I.key y = k
  · have : ¬ I.key y = I.key x := fun e => h (e.symm.trans hy)
    rw [decide_eq_true hy, decide_eq_false this]; rfl
  · rw [decide_eq_false hy]; rfl
theorem lay_len {M : Tb} (x : I.Wt) (hM : Good M) (hx : I.right x = true) : (lay M x).length + (if look M (I.key x) = 0 then 0 else 1) = M.length + if 0 < sz x then 1 else 0 := by
  have hz := look_zero (I.key x) hM
  have hs := sz_right hx
  unfold lay
  by_cases h0 : sz x = 0
  · have e1 : (if 0 < sz x then 1 else 0 : Nat) = 0 := if_neg (by omega)
    rw [if_pos h0, e1]
    have := len_del M (I.key x)
    by_cases hk : I.key x ∈ M.map (·.1)
    · rw [if_pos hk] at this
      have e2 : (if look M (I.key x) = 0 then 0 else 1 : Nat) = 1 := if_neg (fun e => hz.1 e hk)
      rw [e2]; omega
    · rw [if_neg hk] at this
      have e2 : (if look M (I.key x) = 0 then 0 else 1 : Nat) = 0 := if_pos (hz.2 hk)
      rw [e2]; omega
  · have e1 : (if 0 < sz x then 1 else 0 : Nat) = 1 := if_pos (by omega)
    rw [if_neg h0, e1, len_set]
    by_cases hk : I.key x ∈ M.map (·.1)
    · have e2 : (if look M (I.key x) = 0 then 0 else 1 : Nat) = 1 := if_neg (fun e => hz.1 e hk)
      rw [if_pos hk, e2]
    · have e2 : (if look M (I.key x) = 0 then 0 else 1 : Nat) = 0 := if_pos (hz.2 hk)
      rw [if_neg hk, e2]
theorem R.step {M : Tb} {D : List I.Wt} (h : R M D) (hM : Good M) (x : I.Wt) : R (layR M x) (withD D x) := by
  unfold layR withD
  by_cases hx : I.right x = true
  · rw [if_pos hx, if_pos hx]
    have hs := sz_right hx
    have h1 := sumS_split (fun y => decide (I.key y = I.key x)) D
    have h2 := cnt_split (fun y => decide (I.key y = I.key x)) D
    have h3 := lay_len x hM hx
    have h4 := h.look (I.key x)
    have h5 := h.one (I.key x)
    refine ⟨?_, fun k => ?_, fun k => ?_, ?_⟩
    · rw [tot_lay, sumS_app, sumS_cons, sumS_nil, h.tot]; omega
    · rw [look_lay x k hM]
      by_cases hk : I.key x = k
      · subst hk
        rw [if_pos rfl, filt_self, sumS_cons, sumS_nil]; omega
      · rw [if_neg hk, filt_other D x k hk]; exact h.look k
    · rw [look_lay x k hM]
      by_cases hk : I.key x = k
      · subst hk
        rw [if_pos rfl, filt_self, cnt_cons]
        show _ + 0 = _
        by_cases h0 : sz x = 0
        · rw [if_pos h0, if_neg (by omega)]
        · rw [if_neg h0, if_pos (by omega)]
      · rw [if_neg hk, filt_other D x k hk]; exact h.one k
    · rw [cnt_app, cnt_cons]
      show _ = _ + (_ + 0)
      have h6 := h.len
      omega
  · rw [if_neg hx, if_neg hx]; exact h
theorem R.all {L : List I.Wt} : ∀ {M : Tb} {D : List I.Wt}, R M D → Good M → R (layAll M L) (allD D L) := by
  induction L with
  | nil => intro M D h _; exact h
  | cons x L ih => intro M D h hM; exact ih (h.step hM x) (layR_good x hM)
/-- is there a later one of the key of x? -/
def later (x : I.Wt) (L : List I.Wt) : Bool := L.any fun y => decide (I.key y = I.key x) && I.right y
/-- the last ones -/
def lastsC : List I.Wt → List I.Wt
  | [] => []
  | x :: L => (if (I.right x && !later x L) = true then [x] else []) ++ lastsC L
theorem allD_is : ∀ (L D : List I.Wt), allD D L = (D.filter fun y => !later y L) ++ lastsC L
  | [], D => by
    show D = _
    rw [lastsC, List.append_nil]
    symm
    rw [List.filter_eq_self]
    intro y _; rfl
  | x :: L, D => by
    show allD (withD D x) L = _
    rw [allD_is L]
    rw [show lastsC (x :: L) = (if (I.right x && !later x L) = true then [x] else []) ++ lastsC L from rfl]
    unfold withD
    by_cases hx : I.right x = true
    · rw [if_pos hx, List.filter_append, List.filter_filter, List.append_assoc]
      congr 1
      · refine List.filter_congr fun y _ => ?_
        unfold later
        rw [List.any_cons, hx, Bool.and_true, Bool.not_or, Bool.and_comm]
        congr 2
        exact decide_eq_decide.2 ⟨fun e => e.symm, fun e => e.symm⟩
      · congr 1
        rw [hx, Bool.true_and, List.filter_cons]
        rfl
    · rw [if_neg hx]
      have hf : I.right x = false := by simpa using hx
      rw [hf, Bool.false_and, if_neg (by decide), List.nil_append]
      congr 1
      refine List.filter_congr fun y _ => ?_
      unfold later
      rw [List.any_cons, hf, Bool.and_false, Bool.false_or]
theorem lasts_all (L : List I.Wt) : R (layAll [] L) (lastsC L) := by
  have := R.all (L := L) R.nil Good.nil
  rw [allD_is] at this
  exact this
theorem later_step (x y : I.Wt) (L : List I.Wt) (b : Bool) : (b && !later x (y :: L)) = ((b && !(decide (I.key y = I.key x) && I.right y)) && !later x L) := by
  unfold later
  rw [List.any_cons, Bool.not_or, Bool.and_assoc]
theorem drop_cons (L : List I.Wt) (j : Nat) (h : j < L.length) : L.drop j = L.getD j I.none_ :: L.drop (j + 1) := by
  rw [List.drop_eq_getElem_cons h, List.getD_eq_getElem?_getD, List.getElem?_eq_getElem h]
  rfl
end Go.Proofs.Ytepoodfihemmcaa.Q
