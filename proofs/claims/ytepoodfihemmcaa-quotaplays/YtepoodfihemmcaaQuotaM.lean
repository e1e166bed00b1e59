/- Tables of numbers by keys: plain mathematics. What counts of each key, and the sum of all. -/
import Derived.Test.YtepoodfihemmcaaWt

namespace Go.Proofs.Ytepoodfihemmcaa.Q

set_option linter.unusedVariables false

set_option linter.unusedSimpArgs false

section

variable {κ : Type} [DecidableEq κ]

def look : List (κ × Int) → κ → Int
  | [], _ => 0
  | x :: M, n => if x.1 = n then x.2 else look M n
def setM : List (κ × Int) → κ → Int → List (κ × Int)
  | [], n, v => [(n, v)]
  | x :: M, n, v => if x.1 = n then (n, v) :: M else x :: setM M n v
def delM : List (κ × Int) → κ → List (κ × Int)
  | [], _ => []
  | x :: M, n => if x.1 = n then M else x :: delM M n
def tot (M : List (κ × Int)) : Int := (M.map (·.2)).sum
omit [DecidableEq κ] in
theorem tot_cons (x : κ × Int) (M : List (κ × Int)) : tot (x :: M) = x.2 + tot M := by simp [tot]
omit [DecidableEq κ] in
theorem tot_app (M N : List (κ × Int)) : tot (M ++ N) = tot M + tot N := by simp [tot, List.sum_append]
theorem tot_set (M : List (κ × Int)) (n : κ) (v : Int) : tot (setM M n v) = tot M - look M n + v := by
  induction M with
  | nil => simp [setM, look, tot]
  | cons x M ih =>
    unfold setM look
    split
    · rw [tot_cons, tot_cons]; show v + _ = _; omega
    · rw [tot_cons, tot_cons, ih]; omega
theorem tot_del (M : List (κ × Int)) (n : κ) : tot (delM M n) = tot M - look M n := by
  induction M with
  | nil => simp [delM, look, tot]
  | cons x M ih =>
    unfold delM look
    split
    · rw [tot_cons]; omega
    · rw [tot_cons, tot_cons, ih]; omega
theorem look_not {M : List (κ × Int)} {n : κ} (h : n ∉ M.map (·.1)) : look M n = 0 := by
  induction M with
  | nil => rfl
  | cons x M ih =>
    simp only [List.map_cons, List.mem_cons, not_or] at h
    unfold look
    rw [if_neg (fun e => h.1 e.symm), ih h.2]
theorem look_at (M1 M2 : List (κ × Int)) (n : κ) (c : Int) (h : n ∉ M1.map (·.1)) : look (M1 ++ (n, c) :: M2) n = c := by
  induction M1 with
  | nil => simp [look]
  | cons x M ih =>
    simp only [List.map_cons, List.mem_cons, not_or] at h
    rw [List.cons_append]
    unfold look
    rw [if_neg (fun e => h.1 e.symm), ih h.2]
theorem set_not {M : List (κ × Int)} {n : κ} (v : Int) (h : n ∉ M.map (·.1)) : setM M n v = M ++ [(n, v)] := by
  induction M with
  | nil => rfl
  | cons x M ih =>
    simp only [List.map_cons, List.mem_cons, not_or] at h
    unfold setM
    rw [if_neg (fun e => h.1 e.symm), ih h.2]
    rfl
theorem set_at (M1 M2 : List (κ × Int)) (n : κ) (c v : Int) (h : n ∉ M1.map (·.1)) : setM (M1 ++ (n, c) :: M2) n v = M1 ++ (n, v) :: M2 := by
  induction M1 with
  | nil => simp [setM]
  | cons x M ih =>
    simp only [List.map_cons, List.mem_cons, not_or] at h
    rw [List.cons_append]
    unfold setM
    rw [if_neg (fun e => h.1 e.symm), ih h.2]
    rfl
theorem del_not {M : List (κ × Int)} {n : κ} (h : n ∉ M.map (·.1)) : delM M n = M := by
  induction M with
  | nil => rfl
  | cons x M ih =>
    simp only [List.map_cons, List.mem_cons, not_or] at h
    unfold delM
    rw [if_neg (fun e => h.1 e.symm), ih h.2]
theorem del_at (M1 M2 : List (κ × Int)) (n : κ) (c : Int) (h : n ∉ M1.map (·.1)) : delM (M1 ++ (n, c) :: M2) n = M1 ++ M2 := by
  induction M1 with
  | nil => simp [delM]
  | cons x M ih =>
    simp only [List.map_cons, List.mem_cons, not_or] at h
    rw [List.cons_append]
    unfold delM
    rw [if_neg (fun e => h.1 e.symm), ih h.2]
    rfl
/-- a key that is there: what stands ahead of it, and behind -/
theorem split {M : List (κ × Int)} {n : κ} (h : n ∈ M.map (·.1)) : ∃ M1 c M2, M = M1 ++ (n, c) :: M2 ∧ n ∉ M1.map (·.1) := by
  induction M with
  | nil => cases h
  | cons x M ih =>
    by_cases hx : x.1 = n
    · exact ⟨[], x.2, M, by rw [← hx]; rfl, by simp⟩
    · simp only [List.map_cons, List.mem_cons] at h
      obtain ⟨M1, c, M2, e, hn⟩ := ih (h.resolve_left fun e => hx e.symm)
      exact ⟨x :: M1, c, M2, by rw [e]; rfl, by simp only [List.map_cons, List.mem_cons, not_or]; exact ⟨fun e => hx e.symm, hn⟩⟩
theorem nodup_set {M : List (κ × Int)} (n : κ) (v : Int) (h : (M.map (·.1)).Nodup) : ((setM M n v).map (·.1)).Nodup := by
  by_cases hn : n ∈ M.map (·.1)
  · obtain ⟨M1, c, M2, rfl, h1⟩ := split hn
    rw [set_at _ _ _ _ _ h1]
    simpa using h
  · rw [set_not v hn, List.map_append, List.nodup_append]
    exact ⟨h, by simp, fun a ha b hb => by simp at hb; subst hb; rintro rfl; exact hn ha⟩
theorem del_sub (M : List (κ × Int)) (n : κ) : (delM M n).Sublist M := by
  induction M with
  | nil => exact .slnil
  | cons x M ih =>
    unfold delM
    split
    · exact List.sublist_cons_self _ _
    · exact ih.cons_cons _
theorem nodup_del {M : List (κ × Int)} (n : κ) (h : (M.map (·.1)).Nodup) : ((delM M n).map (·.1)).Nodup := h.sublist ((del_sub M n).map _)
theorem look_set (M : List (κ × Int)) (n m : κ) (v : Int) : look (setM M n v) m = if n = m then v else look M m := by
  induction M with
  | nil => rfl
  | cons x M ih =>
    unfold setM
    by_cases hx : x.1 = n
    · rw [if_pos hx]
      simp only [look]
      split
      · rfl
      · rename_i h
        rw [if_neg (fun e => h (hx.symm.trans e))]
    · rw [if_neg hx]
      simp only [look]
      split
      · rename_i h
        rw [if_neg (fun e => hx (h.trans e.symm))]
      · exact ih
theorem look_del {M : List (κ × Int)} (n m : κ) (h : (M.map (·.1)).Nodup) : look (delM M n) m = if n = m then 0 else look M m := by
  induction M with
  | nil => simp [delM, look]
  | cons x M ih =>
    simp only [List.map_cons, List.nodup_cons] at h
    unfold delM
    by_cases hx : x.1 = n
    · rw [if_pos hx]
      by_cases hm : n = m
      · rw [if_pos hm]; exact look_not (by rw [← hm, ← hx]; exact h.1)
      · rw [if_neg hm]; simp only [look]; rw [if_neg (fun e => hm (hx.symm.trans e))]
    · rw [if_neg hx]
      simp only [look]
      split
      · rename_i h2
        rw [if_neg (fun e => hx (h2.trans e.symm))]
      · exact ih h.2
theorem mem_set {M : List (κ × Int)} {n : κ} {v : Int} {x : κ × Int} (h : x ∈ setM M n v) : x = (n, v) ∨ x ∈ M := by
  induction M with
  | nil => exact .inl (by simpa [setM] using h)
  | cons y M ih =>
    unfold setM at h
    split at h
    · rcases List.mem_cons.1 h with h | h
      · exact .inl h
      · exact .inr (List.mem_cons_of_mem _ h)
    · rcases List.mem_cons.1 h with h | h
      · exact .inr (h ▸ List.mem_cons_self ..)
      · exact (ih h).imp id (List.mem_cons_of_mem _)
theorem look_mem {M : List (κ × Int)} {n : κ} (h : n ∈ M.map (·.1)) : (n, look M n) ∈ M := by
  obtain ⟨M1, c, M2, rfl, h1⟩ := split h
  rw [look_at _ _ _ _ h1]
  simp
theorem len_set (M : List (κ × Int)) (n : κ) (v : Int) : (setM M n v).length = M.length + if n ∈ M.map (·.1) then 0 else 1 := by
  by_cases hn : n ∈ M.map (·.1)
  · obtain ⟨M1, c, M2, rfl, h1⟩ := split hn
    rw [set_at _ _ _ _ _ h1, if_pos hn]; simp
  · rw [set_not v hn, if_neg hn]; simp
theorem len_del (M : List (κ × Int)) (n : κ) : (delM M n).length + (if n ∈ M.map (·.1) then 1 else 0) = M.length := by
  by_cases hn : n ∈ M.map (·.1)
  · obtain ⟨M1, c, M2, rfl, h1⟩ := split hn
    rw [del_at _ _ _ _ h1, if_pos hn]; simp; omega
  · rw [del_not hn, if_neg hn]; rfl
end

abbrev Nm := ByteArray × ByteArray
abbrev Tb := List (Nm × Int)
/-- a table of sizes: no key twice, each takes something, and no more than a write may -/
structure Good (M : Tb) : Prop where
  nodup : (M.map (·.1)).Nodup
  pos : ∀ x ∈ M, 1 ≤ x.2 ∧ x.2 ≤ 64
theorem Good.nil : Good [] := ⟨.nil, fun x hx => by cases hx⟩
def sz (x : I.Wt) : Int := (I.size x : Nat)
def lay (M : Tb) (x : I.Wt) : Tb := if sz x = 0 then delM M (I.key x) else setM M (I.key x) (sz x)
def layR (M : Tb) (x : I.Wt) : Tb := if I.right x = true then lay M x else M
def layAll (M : Tb) (L : List I.Wt) : Tb := L.foldl layR M
def turnR (M T : Tb) (x : I.Wt) : Tb := if I.right x = true then setM T (I.key x) (sz x - look M (I.key x)) else T
def turns (M : Tb) (L : List I.Wt) : Tb := L.foldl (turnR M) []
theorem sz_right {x : I.Wt} (h : I.right x = true) : 0 ≤ sz x ∧ sz x ≤ 64 := by
  obtain ⟨h1, h2, h3, h4, h5, h6⟩ := I.right_some h
  unfold sz I.size
  split
  · omega
  · omega
theorem sz_gone {x : I.Wt} (h : I.right x = true) : sz x = 0 ↔ x.2.2.2 = true := by
  obtain ⟨h1, h2, h3, h4, h5, h6⟩ := I.right_some h
  unfold sz I.size
  constructor
  · intro h
    by_cases hg : x.2.2.2 = true
    · exact hg
    · rw [if_neg hg] at h; omega
  · intro hg; rw [if_pos hg]; rfl
theorem lay_good {M : Tb} {x : I.Wt} (h : Good M) (hx : I.right x = true) : Good (lay M x) := by
  unfold lay
  split
  · exact ⟨nodup_del _ h.nodup, fun y hy => h.pos y ((del_sub M _).subset hy)⟩
  · rename_i h0
    refine ⟨nodup_set _ _ h.nodup, fun y hy => ?_⟩
    rcases mem_set hy with rfl | hy
    · have := sz_right hx; exact ⟨by show 1 ≤ sz x; omega, this.2⟩
    · exact h.pos y hy
theorem layR_good {M : Tb} (x : I.Wt) (h : Good M) : Good (layR M x) := by
  unfold layR
  split
  · rename_i hx; exact lay_good h hx
  · exact h
theorem layAll_good {M : Tb} (L : List I.Wt) (h : Good M) : Good (layAll M L) := by
  unfold layAll
  induction L generalizing M with
  | nil => exact h
  | cons x L ih => exact ih (layR_good x h)
theorem tot_lay (M : Tb) (x : I.Wt) : tot (lay M x) = tot M - look M (I.key x) + sz x := by
  unfold lay
  split
  · rename_i h; rw [tot_del, h]; omega
  · exact tot_set _ _ _
theorem look_lay {M : Tb} (x : I.Wt) (m : Nm) (h : Good M) : look (lay M x) m = if I.key x = m then sz x else look M m := by
  unfold lay
  split
  · rename_i h0; rw [look_del _ _ h.nodup, h0]
  · exact look_set _ _ _ _
theorem look_pos {M : Tb} (n : Nm) (h : Good M) : 0 ≤ look M n ∧ look M n ≤ 64 := by
  by_cases hn : n ∈ M.map (·.1)
  · have := h.pos _ (look_mem hn)
    simp only at this
    omega
  · rw [look_not hn]; omega
theorem look_zero {M : Tb} (n : Nm) (h : Good M) : look M n = 0 ↔ n ∉ M.map (·.1) := by
  constructor
  · intro h0 hn
    have := h.pos _ (look_mem hn)
    simp only at this
    omega
  · exact look_not
theorem tot_pos {M : Tb} (h : Good M) : 0 ≤ tot M := by
  have hp := h.pos
  clear h
  induction M with
  | nil => exact Int.le_refl _
  | cons x M ih =>
    rw [tot_cons]
    have h1 := hp x (List.mem_cons_self ..)
    have h2 := ih fun y hy => hp y (List.mem_cons_of_mem _ hy)
    omega
theorem tot_layR {M : Tb} (x : I.Wt) (h : Good M) : tot (layR M x) ≤ tot M + 64 := by
  unfold layR
  split
  · rename_i hx
    rw [tot_lay]
    have := sz_right hx
    have := look_pos (I.key x) h
    omega
  · omega
theorem tot_layAll {M : Tb} (L : List I.Wt) (h : Good M) : tot (layAll M L) ≤ tot M + 64 * L.length := by
  unfold layAll
  induction L generalizing M with
  | nil => simp
  | cons x L ih =>
    have h1 := ih (layR_good x h)
    have h2 := tot_layR x h
    rw [List.foldl_cons, List.length_cons]
    omega
theorem layAll_step (M : Tb) (L : List I.Wt) (j : Nat) (h : j < L.length) : layAll M (L.take (j + 1)) = layR (layAll M (L.take j)) (L.getD j I.none_) := by
  unfold layAll
  rw [List.take_succ_eq_append_getElem h, List.foldl_append, List.getD_eq_getElem?_getD, List.getElem?_eq_getElem h, Option.getD_some]
  rfl
theorem turns_step (M : Tb) (L : List I.Wt) (j : Nat) (h : j < L.length) : turns M (L.take (j + 1)) = turnR M (turns M (L.take j)) (L.getD j I.none_) := by
  unfold turns
  rw [List.take_succ_eq_append_getElem h, List.foldl_append, List.getD_eq_getElem?_getD, List.getElem?_eq_getElem h, Option.getD_some]
  rfl
theorem turns_inv {M : Tb} (L : List I.Wt) (hM : Good M) : ∀ (T M' : Tb), Good M' → (T.map (·.1)).Nodup → tot T = tot M' - tot M → (∀ n, look T n = look M' n - look M n) →
    tot (L.foldl (turnR M) T) = tot (L.foldl layR M') - tot M ∧ ((L.foldl (turnR M) T).map (·.1)).Nodup := by
  induction L with
  | nil => intro T M' _ hn h _; exact ⟨h, hn⟩
  | cons x L ih =>
    intro T M' hg hn ht hl
    rw [List.foldl_cons, List.foldl_cons]
    by_cases hx : I.right x = true
    · have e1 : turnR M T x = setM T (I.key x) (sz x - look M (I.key x)) := by unfold turnR; rw [if_pos hx]
      have e2 : layR M' x = lay M' x := by unfold layR; rw [if_pos hx]
      rw [e1, e2]
      refine ih _ _ (lay_good hg hx) (nodup_set _ _ hn) ?_ fun n => ?_
      · rw [tot_set, tot_lay, ht, hl]; omega
      · rw [look_set, look_lay x n hg]
        split
        · rename_i h; rw [h]
        · exact hl n
    · have e1 : turnR M T x = T := by unfold turnR; rw [if_neg hx]
      have e2 : layR M' x = M' := by unfold layR; rw [if_neg hx]
      rw [e1, e2]
      exact ih _ _ hg hn ht hl
theorem turns_tot {M : Tb} (L : List I.Wt) (hM : Good M) : tot M + tot (turns M L) = tot (layAll M L) := by
  have := (turns_inv L hM [] M hM .nil (by simp [tot]) (fun n => by simp [look])).1
  unfold turns layAll
  omega
theorem turns_nodup {M : Tb} (L : List I.Wt) (hM : Good M) : ((turns M L).map (·.1)).Nodup := (turns_inv L hM [] M hM .nil (by simp [tot]) (fun n => by simp [look])).2
end Go.Proofs.Ytepoodfihemmcaa.Q
