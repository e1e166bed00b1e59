/- Sessions: meets, horizons, how many are open: the mathematics. -/
import Derived.Test.YtkiaehehckmpnaaSessEx

namespace Go.Proofs.Ytkiaehehckmpnaa.Zm

open Go.RowKit Go.Proofs.Ytkiaehehckmpnaa.Vc Go.Proofs.Ytkiaehehckmpnaa.Sp Go.Proofs.Ytkiaehehckmpnaa.Rw Go.Proofs.Ytkiaehehckmpnaa.Se Go.Proofs.Ytkiaehehckmpnaa.It Go.Proofs.Ytkiaehehckmpnaa.Z

set_option linter.unusedVariables false

set_option linter.unusedSimpArgs false

set_option maxRecDepth 100000

theorem fold_le : ∀ (L : List (List Nat)) (a : List Nat), a.length = 4 → (∀ x ∈ L, x.length = 4) → (L.foldl V.meet a).length = 4 ∧ ∀ n j, j < 4 → (n ≤ (L.foldl V.meet a).getD j 0 ↔ n ≤ a.getD j 0 ∧ ∀ x ∈ L, n ≤ x.getD j 0)
  | [], a, ha, _ => ⟨ha, fun n j _ => by simp⟩
  | b :: L, a, ha, hL => by
    have hb := hL b (List.mem_cons_self ..)
    obtain ⟨h1, h2⟩ := fold_le L (V.meet a b) (V.meet_length ha hb) (fun x hx => hL x (List.mem_cons_of_mem _ hx))
    refine ⟨h1, fun n j hj => ?_⟩
    rw [List.foldl_cons, h2 n j hj, V.meet_at ha hb j hj, Nat.le_min]
    constructor
    · rintro ⟨⟨h3, h4⟩, h5⟩
      refine ⟨h3, fun x hx => ?_⟩
      rcases List.mem_cons.1 hx with rfl | hx
      · exact h4
      · exact h5 x hx
    · rintro ⟨h3, h4⟩
      exact ⟨⟨h3, h4 b (List.mem_cons_self ..)⟩, fun x hx => h4 x (List.mem_cons_of_mem _ hx)⟩
theorem all_le {L : List (List Nat)} (hn : L ≠ []) (hL : ∀ x ∈ L, x.length = 4) : (V.all L).length = 4 ∧ ∀ n j, j < 4 → (n ≤ (V.all L).getD j 0 ↔ ∀ x ∈ L, n ≤ x.getD j 0) := by
  cases L with
  | nil => exact absurd rfl hn
  | cons a L =>
    obtain ⟨h1, h2⟩ := fold_le L a (hL a (List.mem_cons_self ..)) (fun x hx => hL x (List.mem_cons_of_mem _ hx))
    refine ⟨h1, fun n j hj => (h2 n j hj).trans ?_⟩
    simp
theorem four_ext {a b : List Nat} (ha : a.length = 4) (hb : b.length = 4) (h : ∀ j, j < 4 → a.getD j 0 = b.getD j 0) : a = b := by
  apply List.ext_getElem (by rw [ha, hb])
  intro i h1 h2
  have := h i (by omega)
  rw [List.getD_eq_getElem?_getD, List.getD_eq_getElem?_getD, List.getElem?_eq_getElem h1, List.getElem?_eq_getElem h2] at this
  exact this
section

variable {S : List Ss} {s : List Nat}

theorem hz_mem (hS : Z.Good S) (hs : V.Ok s) : ∀ x ∈ snaps S ++ [s], x.length = 4 := fun x hx => by
  rcases List.mem_append.1 hx with h | h
  · exact (snaps_len hS x h).1
  · rw [List.mem_singleton] at h; rw [h]; exact hs.1
theorem hz_len (hS : Z.Good S) (hs : V.Ok s) : (horizon S s).length = 4 := (all_le (by simp) (hz_mem hS hs)).1
theorem hz_leq (hS : Z.Good S) (hs : V.Ok s) {x : List Nat} (hx : x ∈ snaps S ++ [s]) : V.leq (horizon S s) x = true :=
  V.leq_all (hz_len hS hs) (hz_mem hS hs x hx) (fun k hk => ((all_le (by simp) (hz_mem hS hs)).2 _ k hk).1 (Nat.le_refl _) x hx)
theorem hz_fold (hS : Z.Good S) (hs : V.Ok s) : (snaps S).foldl V.meet s = horizon S s := by
  obtain ⟨f1, f2⟩ := fold_le (snaps S) s hs.1 (fun x hx => (snaps_len hS x hx).1)
  obtain ⟨a1, a2⟩ := all_le (L := snaps S ++ [s]) (by simp) (hz_mem hS hs)
  refine four_ext f1 a1 (fun j hj => Nat.le_antisymm ?_ ?_)
  · refine (a2 _ j hj).2 (fun x hx => ?_)
    have h := (f2 _ j hj).1 (Nat.le_refl _)
    rcases List.mem_append.1 hx with h9 | h9
    · exact h.2 x h9
    · rw [List.mem_singleton] at h9; rw [h9]; exact h.1
  · have h := (a2 _ j hj).1 (Nat.le_refl _)
    exact (f2 _ j hj).2 ⟨h s (by simp), fun x hx => h x (List.mem_append_left _ hx)⟩
theorem hz_more (hS : Z.Good S) (hs : V.Ok s) {S' : List Ss} (hS' : Z.Good S') (hsub : ∀ x ∈ snaps S', x ∈ snaps S) : V.leq (horizon S s) (horizon S' s) = true := by
  refine V.leq_all (hz_len hS hs) (hz_len hS' hs) (fun k hk => ?_)
  refine ((all_le (by simp) (hz_mem hS' hs)).2 _ k hk).2 (fun x hx => ?_)
  refine ((all_le (by simp) (hz_mem hS hs)).2 _ k hk).1 (Nat.le_refl _) x ?_
  rcases List.mem_append.1 hx with h | h
  · exact List.mem_append_left _ (hsub x h)
  · exact List.mem_append_right _ h
theorem hz_none (h : many S = 0) : horizon S s = s := by
  have : snaps S = [] := by
    unfold snaps
    have h2 : S.filter (·.opn) = [] := List.length_eq_zero_iff.1 h
    rw [h2]; rfl
  unfold horizon
  rw [this]; rfl
theorem many_set (hS : Z.Good S) {id : Int} (hk : known id = true) (x : Ss) : many (st S id x) + (if (gt S id).opn = true then 1 else 0) = many S + (if x.opn = true then 1 else 0) := by
  have hg := gt_known hS.len hk
  obtain ⟨hi, e⟩ := List.getElem?_eq_some_iff.1 hg
  have e1 : many S = S.countP (·.opn) := (List.countP_eq_length_filter ..).symm
  have e2 : many (st S id x) = (S.set (id - 1).toNat x).countP (·.opn) := (List.countP_eq_length_filter ..).symm
  rw [e1, e2, List.countP_set hi, e]
  have h1 : (gt S id).opn = true → 0 < S.countP (·.opn) := fun h => List.countP_pos_iff.2 ⟨_, List.mem_of_getElem? hg, h⟩
  by_cases h2 : (gt S id).opn = true
  · have := h1 h2
    rw [if_pos h2]
    split <;> omega
  · rw [if_neg h2]
    split <;> omega
theorem errBeg_cases (id : Int) (v : List Nat) : (errBeg S id v = 0 ∧ (gt S id).opn = false ∧ known id = true) ∨ ((errBeg S id v = 1 ∨ errBeg S id v = 6) ∧ aftBeg S id v = S) := by
  by_cases h : okSee id v = true
  · have hk : known id = true := by unfold okSee at h; simp only [Bool.and_eq_true] at h; exact h.1
    by_cases ho : (gt S id).opn = true
    · have e : errBeg S id v = 6 := by unfold errBeg; rw [if_pos h, if_pos ho]
      exact .inr ⟨.inr e, by unfold aftBeg; rw [e]; rfl⟩
    · have e : errBeg S id v = 0 := by unfold errBeg; rw [if_pos h, if_neg ho]
      exact .inl ⟨e, by simpa using ho, hk⟩
  · have e : errBeg S id v = 1 := by unfold errBeg; rw [if_neg h]
    exact .inr ⟨.inl e, by unfold aftBeg; rw [e]; rfl⟩
theorem many_beg (hS : Z.Good S) {id : Int} {v : List Nat} (h : errBeg S id v = 0) (ho : (gt S id).opn = false) (hk : known id = true) : many (aftBeg S id v) = many S + 1 := by
  unfold aftBeg
  rw [if_pos h]
  have := many_set hS hk (begS (gt S id) v)
  rw [ho] at this
  simpa [begS] using this
theorem end_cases (hS : Z.Good S) (id : Int) : (∀ x ∈ snaps (aftEnd S id), x ∈ snaps S) ∧ ((errEnd S id = 0 ∧ many (aftEnd S id) + 1 = many S) ∨ (errEnd S id = 5 ∧ aftEnd S id = S)) := by
  by_cases ho : (gt S id).opn = true
  · have hk := opn_known ho
    have e : aftEnd S id = st S id (endS (gt S id)) := by unfold aftEnd; rw [if_pos ho]
    refine ⟨fun x hx => ?_, .inl ⟨by unfold errEnd; rw [if_pos ho], ?_⟩⟩
    · rw [e] at hx
      obtain ⟨y, hy, rfl⟩ := List.mem_map.1 hx
      obtain ⟨h1, h2⟩ := List.mem_filter.1 hy
      refine List.mem_map.2 ⟨y, List.mem_filter.2 ⟨?_, h2⟩, rfl⟩
      rcases List.mem_or_eq_of_mem_set h1 with h3 | h3
      · exact h3
      · rw [h3] at h2; cases h2
    · rw [e]
      have := many_set hS hk (endS (gt S id))
      rw [if_pos ho] at this
      simpa [endS] using this
  · have e : aftEnd S id = S := by unfold aftEnd; rw [if_neg ho]
    exact ⟨fun x hx => by rw [e] at hx; exact hx, .inr ⟨by unfold errEnd; rw [if_neg ho], e⟩⟩
/-- what is met up to the j-th session -/
def mt (S : List Ss) (s : List Nat) (j : Nat) : List Nat := (snaps (S.take j)).foldl V.meet s
theorem mt_step (hS : Z.Good S) (j : Nat) (hj : j < 8) : mt S s (j + 1) = if (gt S ((j : Int) + 1)).opn = true then V.meet (mt S s j) (gt S ((j : Int) + 1)).snap else mt S s j := by
  have hg := gt_known hS.len ((known_iff ((j : Int) + 1)).2 (by omega))
  rw [show ((j : Int) + 1 - 1).toNat = j by omega] at hg
  unfold mt
  rw [snaps_step S j _ hg, List.foldl_append]
  split <;> rfl
theorem mt_len (hS : Z.Good S) (hs : V.Ok s) (j : Nat) : (mt S s j).length = 4 := (fold_le _ s hs.1 (fun x hx => by
  obtain ⟨y, hy, rfl⟩ := List.mem_map.1 hx
  exact (hS.ok y (List.mem_of_mem_take (List.mem_filter.1 hy).1)).snap.1)).1
theorem mt_end (hS : Z.Good S) (hs : V.Ok s) : mt S s 8 = horizon S s := by
  unfold mt
  rw [List.take_of_length_le (by rw [hS.len]; exact Nat.le_refl _), hz_fold hS hs]
theorem snap_in (hS : Z.Good S) {id : Int} (ho : (gt S id).opn = true) : (gt S id).snap ∈ snaps S := by
  have hg := gt_known hS.len (opn_known ho)
  exact List.mem_map.2 ⟨_, List.mem_filter.2 ⟨List.mem_of_getElem? hg, ho⟩, rfl⟩
end

end Go.Proofs.Ytkiaehehckmpnaa.Zm
