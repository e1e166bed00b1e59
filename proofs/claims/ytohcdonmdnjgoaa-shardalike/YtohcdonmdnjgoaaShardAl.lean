/- Transactions applied in whatever order leave the same: plain mathematics. -/
import Derived.Test.YtohcdonmdnjgoaaShardMath

namespace Go.Proofs.Ytohcdonmdnjgoaa.Sd

open Go.RowKit Go.Proofs.Ytohcdonmdnjgoaa.Vc Go.Proofs.Ytohcdonmdnjgoaa.Sp Go.Proofs.Ytohcdonmdnjgoaa.Rw Go.Proofs.Ytohcdonmdnjgoaa.Ch Go.Proofs.Ytohcdonmdnjgoaa.Se Go.Proofs.Ytohcdonmdnjgoaa.It Go.Proofs.Ytohcdonmdnjgoaa.Mk

set_option linter.unusedVariables false

set_option linter.unusedSimpArgs false

set_option maxRecDepth 100000

theorem getV_nil (n : Nm) : getV [] n = [] := rfl
theorem getV_cons (x : Nm × List (C.Vr I.Wt)) (V : Vs) (n : Nm) : getV (x :: V) n = if x.1 = n then x.2 else getV V n := by
  unfold getV
  rw [List.find?_cons]
  by_cases e : x.1 = n
  · simp [e]
  · simp [e]
theorem getV_app (V : Vs) (n m : Nm) (L : List (C.Vr I.Wt)) (h : hasN V m = false) : getV (V ++ [(m, L)]) n = if m = n then L else getV V n := by
  induction V with
  | nil => rw [List.nil_append, getV_cons]
  | cons x V ih =>
    have hx : x.1 ≠ m := fun e => by simp [hasN, e] at h
    have hV : hasN V m = false := by simp [hasN] at h ⊢; exact h.2
    rw [List.cons_append, getV_cons, ih hV, getV_cons]
    by_cases e : x.1 = n
    · rw [if_pos e, if_neg (fun e2 => hx (e.trans e2.symm)), if_pos e]
    · rw [if_neg e, if_neg e]
theorem getV_map (V : Vs) (n m : Nm) (f : List (C.Vr I.Wt) → List (C.Vr I.Wt)) (h : hasN V m = true) : getV (V.map fun x => if x.1 = m then (x.1, f x.2) else x) n = if m = n then f (getV V n) else getV V n := by
  induction V with
  | nil => simp [hasN] at h
  | cons x V ih =>
    rw [List.map_cons, getV_cons, getV_cons]
    by_cases em : x.1 = m
    · rw [if_pos em]
      by_cases en : x.1 = n
      · rw [if_pos en, if_pos (em.symm.trans en), if_pos en]
      · rw [if_neg en, if_neg (fun e => en (em.trans e)), if_neg en]
        by_cases hV : hasN V m = true
        · rw [ih hV, if_neg (fun e => en (em.trans e))]
        · rw [map_none V m _ (by rw [← hasN_iff]; exact hV)]
    · rw [if_neg em]
      have hV : hasN V m = true := by simp [hasN, em] at h ⊢; exact h
      rw [ih hV]
      by_cases en : x.1 = n
      · rw [if_pos en, if_pos en, if_neg (fun e => em (en.trans e.symm))]
      · rw [if_neg en, if_neg en]
theorem getV_ups (V : Vs) (m n : Nm) (st : C.St) (y : I.Wt) : getV (ups V m st y) n = if m = n then (C.add (getV V n) st y).1 else getV V n := by
  unfold ups
  by_cases h : hasN V m = true
  · rw [if_pos h]
    exact getV_map V n m (fun l => (C.add l st y).1) h
  · rw [if_neg h, getV_app V n m _ (by simpa using h)]
    by_cases e : m = n
    · subst e
      rw [if_pos rfl, if_pos rfl, getV_not V m (by rw [← hasN_iff]; exact h)]
    · rw [if_neg e, if_neg e]
/-- the write of a key -/
def keyed (L : List I.Wt) (n : Nm) : Option I.Wt := L.find? fun y => decide (I.key y = n)
theorem getV_upsL_not (st : C.St) (n : Nm) : ∀ (L : List I.Wt) (V : Vs), (∀ y ∈ L, I.key y ≠ n) → getV (upsL V st L) n = getV V n
  | [], V, _ => rfl
  | y :: L, V, h => by
    show getV (upsL (ups V (I.key y) st y) st L) n = _
    rw [getV_upsL_not st n L _ (fun z hz => h z (List.mem_cons_of_mem _ hz)), getV_ups, if_neg (h y (List.mem_cons_self ..))]
theorem getV_upsL (st : C.St) (n : Nm) : ∀ (L : List I.Wt) (V : Vs), (L.Pairwise fun x y => I.key x ≠ I.key y) → getV (upsL V st L) n = match keyed L n with | some y => (C.add (getV V n) st y).1 | none => getV V n
  | [], V, _ => rfl
  | y :: L, V, h => by
    obtain ⟨h1, h2⟩ := List.pairwise_cons.1 h
    show getV (upsL (ups V (I.key y) st y) st L) n = _
    unfold keyed
    rw [List.find?_cons]
    by_cases e : I.key y = n
    · rw [getV_upsL_not st n L _ (fun z hz e2 => h1 z hz (e.trans e2.symm)), getV_ups, if_pos e]
      simp [e]
    · rw [getV_upsL st n L _ h2, getV_ups, if_neg e]
      simp [e, keyed]
/-- batches, one behind the other -/
def allL (V : Vs) (B : List (C.St × List I.Wt)) : Vs := B.foldl (fun V b => upsL V b.1 b.2) V
def versOf (B : List (C.St × List I.Wt)) (n : Nm) : List (C.Vr I.Wt) := B.filterMap fun b => (keyed b.2 n).map fun y => (b.1, y)
theorem getV_allL (n : Nm) : ∀ (B : List (C.St × List I.Wt)) (V : Vs), (∀ b ∈ B, b.2.Pairwise fun x y => I.key x ≠ I.key y) → getV (allL V B) n = (versOf B n).foldl (fun l x => (C.add l x.1 x.2).1) (getV V n)
  | [], V, _ => rfl
  | b :: B, V, h => by
    show getV (allL (upsL V b.1 b.2) B) n = _
    rw [getV_allL n B _ (fun c hc => h c (List.mem_cons_of_mem _ hc)), getV_upsL b.1 n b.2 V (h b (List.mem_cons_self ..))]
    unfold versOf
    rw [List.filterMap_cons]
    cases keyed b.2 n with
    | none => rfl
    | some y => rfl
theorem getV_all0 (B : List (C.St × List I.Wt)) (n : Nm) (h : ∀ b ∈ B, b.2.Pairwise fun x y => I.key x ≠ I.key y) : getV (allL [] B) n = C.adds (versOf B n) := getV_allL n B [] h
/-- what a stamp wrote to a key -/
def wrote (B : List (C.St × List I.Wt)) (n : Nm) (s : C.St) : I.Wt := (((B.find? fun b => decide (b.1 = s)).bind fun b => keyed b.2 n)).getD I.none_
theorem wrote_is {B : List (C.St × List I.Wt)} (hB : (B.map (·.1)).Nodup) (n : Nm) {b : C.St × List I.Wt} (hb : b ∈ B) {y : I.Wt} (hy : keyed b.2 n = some y) : wrote B n b.1 = y := by
  have h : (B.find? fun c => decide (c.1 = b.1)) = some b := by
    induction B with
    | nil => cases hb
    | cons c B ih =>
      rw [List.map_cons, List.nodup_cons] at hB
      rw [List.find?_cons]
      rcases List.mem_cons.1 hb with rfl | hb'
      · simp
      · have hne : c.1 ≠ b.1 := fun e => hB.1 (by rw [e]; exact List.mem_map_of_mem hb')
        simp only [decide_eq_false hne]
        exact ih hB.2 hb'
  unfold wrote
  rw [h]
  show (keyed b.2 n).getD _ = y
  rw [hy]
  rfl
theorem versOf_map {B D : List (C.St × List I.Wt)} (hB : (B.map (·.1)).Nodup) (n : Nm) (hD : ∀ b ∈ D, b ∈ B) : versOf D n = ((D.filterMap fun b => (keyed b.2 n).map fun _ => b.1)).map fun s => (s, wrote B n s) := by
  unfold versOf
  induction D with
  | nil => rfl
  | cons b D ih =>
    rw [List.filterMap_cons, List.filterMap_cons]
    have hb := hD b (List.mem_cons_self ..)
    have ih' := ih (fun c hc => hD c (List.mem_cons_of_mem _ hc))
    cases e : keyed b.2 n with
    | none => exact ih'
    | some y =>
      show (b.1, y) :: _ = (b.1, wrote B n b.1) :: _
      rw [wrote_is hB n hb e, ih']
/-- of whatever key: the same versions, in whatever order the batches came -/
theorem getV_alike {B : List (C.St × List I.Wt)} (hB : (B.map (·.1)).Nodup) (hr : ∀ b ∈ B, C.right b.1 = true ∧ b.1.1.length = 4) (hk : ∀ b ∈ B, b.2.Pairwise fun x y => I.key x ≠ I.key y) (n : Nm) : getV (allL [] B) n = getV (allL [] B.reverse) n := by
  rw [getV_all0 B n hk, getV_all0 B.reverse n (fun b hb => hk b (List.mem_reverse.1 hb)), versOf_map hB n (fun b hb => hb), versOf_map hB n (fun b hb => List.mem_reverse.1 hb)]
  refine C.adds_alike (wrote B n) _ _ (fun s hs => ?_) (fun s => ?_)
  · obtain ⟨b, hb, e⟩ := List.mem_filterMap.1 hs
    cases e2 : keyed b.2 n with
    | none => rw [e2] at e; cases e
    | some y => rw [e2] at e; obtain rfl := Option.some.inj e; exact hr b hb
  · rw [List.mem_filterMap, List.mem_filterMap]
    constructor
    · rintro ⟨b, hb, e⟩; exact ⟨b, List.mem_reverse.2 hb, e⟩
    · rintro ⟨b, hb, e⟩; exact ⟨b, List.mem_reverse.1 hb, e⟩
theorem names_ups (V : Vs) (m : Nm) (st : C.St) (y : I.Wt) (n : Nm) : n ∈ (ups V m st y).map (·.1) ↔ n ∈ V.map (·.1) ∨ n = m := by
  unfold ups
  by_cases h : hasN V m = true
  · rw [if_pos h, List.map_map]
    have e : (V.map ((fun x : Nm × List (C.Vr I.Wt) => x.1) ∘ fun x => if x.1 = m then (x.1, (C.add x.2 st y).1) else x)) = V.map (·.1) := by
      refine List.map_congr_left fun x _ => ?_
      show (if x.1 = m then (x.1, (C.add x.2 st y).1) else x).1 = x.1
      split <;> rfl
    rw [e]
    exact ⟨fun h1 => .inl h1, fun h1 => h1.elim id (fun e => by rw [e]; exact (hasN_iff V m).1 h)⟩
  · rw [if_neg h, List.map_append, List.mem_append]
    simp
theorem names_upsL (st : C.St) (n : Nm) : ∀ (L : List I.Wt) (V : Vs), n ∈ (upsL V st L).map (·.1) ↔ n ∈ V.map (·.1) ∨ ∃ y ∈ L, I.key y = n
  | [], V => by show n ∈ V.map (·.1) ↔ _; simp
  | y :: L, V => by
    show n ∈ (upsL (ups V (I.key y) st y) st L).map (·.1) ↔ _
    rw [names_upsL st n L _, names_ups]
    constructor
    · rintro ((h | h) | ⟨z, hz, e⟩)
      · exact .inl h
      · exact .inr ⟨y, List.mem_cons_self .., h.symm⟩
      · exact .inr ⟨z, List.mem_cons_of_mem _ hz, e⟩
    · rintro (h | ⟨z, hz, e⟩)
      · exact .inl (.inl h)
      · rcases List.mem_cons.1 hz with rfl | hz
        · exact .inl (.inr e.symm)
        · exact .inr ⟨z, hz, e⟩
theorem names_allL (n : Nm) : ∀ (B : List (C.St × List I.Wt)) (V : Vs), n ∈ (allL V B).map (·.1) ↔ n ∈ V.map (·.1) ∨ ∃ b ∈ B, ∃ y ∈ b.2, I.key y = n
  | [], V => by show n ∈ V.map (·.1) ↔ _; simp
  | b :: B, V => by
    show n ∈ (allL (upsL V b.1 b.2) B).map (·.1) ↔ _
    rw [names_allL n B _, names_upsL]
    constructor
    · rintro ((h | h) | ⟨z, hz, e⟩)
      · exact .inl h
      · exact .inr ⟨b, List.mem_cons_self .., h⟩
      · exact .inr ⟨z, List.mem_cons_of_mem _ hz, e⟩
    · rintro (h | ⟨z, hz, e⟩)
      · exact .inl (.inl h)
      · rcases List.mem_cons.1 hz with rfl | hz
        · exact .inl (.inr e)
        · exact .inr ⟨z, hz, e⟩
theorem names_alike (B : List (C.St × List I.Wt)) (n : Nm) : n ∈ (allL [] B).map (·.1) ↔ n ∈ (allL [] B.reverse).map (·.1) := by
  rw [names_allL, names_allL]
  simp only [List.mem_reverse]
theorem tot_by {V : Vs} (hV : (V.map (·.1)).Nodup) : tot V = ((V.map (·.1)).map fun n => (getV V n).length).sum := by
  unfold tot
  rw [List.map_map]
  congr 1
  refine List.map_congr_left fun x hx => ?_
  show x.2.length = (getV V x.1).length
  rw [getV_mem hV hx]
theorem tot_alike {V W : Vs} (hV : (V.map (·.1)).Nodup) (hW : (W.map (·.1)).Nodup) (hm : ∀ n, n ∈ V.map (·.1) ↔ n ∈ W.map (·.1)) (hg : ∀ n, getV V n = getV W n) : tot V = tot W := by
  rw [tot_by hV, tot_by hW]
  have hp : (V.map (·.1)).Perm (W.map (·.1)) := (List.perm_ext_iff_of_nodup hV hW).2 hm
  have e : (fun n => (getV V n).length) = fun n => (getV W n).length := funext fun n => by rw [hg n]
  rw [e]
  exact (hp.map _).sum_nat
def setm (z : List Nat) (i k : Nat) : List Nat := z.set i (max (z.getD i 0) k)
theorem setm_comm (z : List Nat) (i k j l : Nat) : setm (setm z i k) j l = setm (setm z j l) i k := by
  unfold setm
  by_cases e : i = j
  · subst e
    by_cases h : i < z.length
    · rw [List.set_set, List.set_set]
      congr 1
      simp only [List.getD_eq_getElem?_getD, List.getElem?_set_self h, Option.getD_some]
      omega
    · have e0 : ∀ m, z.set i m = z := fun m => List.set_eq_of_length_le (by omega)
      simp only [e0]
  · rw [List.set_comm _ _ e]
    simp only [List.getD_eq_getElem?_getD, List.getElem?_set_ne e, List.getElem?_set_ne (Ne.symm e)]
def stepA (A : List Nat) (s : C.St) : List Nat := V.with_ A s.2 (max (V.at_ A s.2) (V.at_ s.1 s.2))
theorem stepA_is (A : List Nat) (s : C.St) : stepA A s = if V.known s.2 = true then setm A (s.2 - 1).toNat (V.at_ s.1 s.2) else A := by
  unfold stepA V.with_
  by_cases h : V.known s.2 = true
  · rw [if_pos h, if_pos h]
    unfold setm
    have e : V.at_ A s.2 = A.getD (s.2 - 1).toNat 0 := by unfold V.at_; rw [if_pos h]
    rw [e]
  · rw [if_neg h, if_neg h]
theorem stepA_comm (z : List Nat) (s t : C.St) : stepA (stepA z s) t = stepA (stepA z t) s := by
  rw [stepA_is _ t, stepA_is z s, stepA_is _ s, stepA_is z t]
  by_cases hs : V.known s.2 = true
  · by_cases ht : V.known t.2 = true
    · rw [if_pos hs, if_pos ht, if_pos ht, if_pos hs]; exact setm_comm _ _ _ _ _
    · simp [hs, ht]
  · by_cases ht : V.known t.2 = true
    · simp [hs, ht]
    · simp [hs, ht]
def allA (A : List Nat) (B : List C.St) : List Nat := B.foldl stepA A
theorem allA_alike (A : List Nat) (B : List C.St) : allA A B = allA A B.reverse :=
  List.Perm.foldl_eq' (List.reverse_perm B).symm (fun x _ y _ z => stepA_comm z x y) A
theorem pw_keys {L : List I.Wt} (h : I.okTo L L.length = true) : L.Pairwise fun x y => I.key x ≠ I.key y := by
  rw [List.pairwise_iff_getElem]
  intro i j hi hj hij
  have h1 := fresh_n h j hj (L[i]) (List.mem_iff_getElem.2 ⟨i, by rw [List.length_take]; omega, by rw [List.getElem_take]⟩)
  rwa [List.getD_eq_getElem?_getD, List.getElem?_eq_getElem hj] at h1
/-- the i-th stamp of the law: its own number is its place -/
def numbered (s : C.St) (i : Nat) : C.St := (V.with_ s.1 s.2 (i + 1), s.2)
theorem numbered_at {s : C.St} (i : Nat) (h4 : s.1.length = 4) (hd : 1 ≤ s.2 ∧ s.2 ≤ 4) : V.at_ (numbered s i).1 s.2 = i + 1 := by
  obtain ⟨a, d⟩ := s
  dsimp only at h4 hd
  obtain ⟨a0, a1, a2, a3, rfl⟩ := V.four h4
  obtain rfl | rfl | rfl | rfl : d = 1 ∨ d = 2 ∨ d = 3 ∨ d = 4 := by omega
  · rfl
  · rfl
  · rfl
  · rfl
theorem numbered_ne {s t : C.St} {i j : Nat} (hs : s.1.length = 4) (ht : t.1.length = 4) (ds : 1 ≤ s.2 ∧ s.2 ≤ 4) (dt : 1 ≤ t.2 ∧ t.2 ≤ 4) (h : numbered s i = numbered t j) : i = j := by
  have e9 : (numbered s i).2 = (numbered t j).2 := by rw [h]
  have e : s.2 = t.2 := e9
  have h1 := numbered_at i hs ds
  have h2 := numbered_at j ht dt
  rw [h, e] at h1
  omega
theorem numbered_right {s : C.St} {i : Nat} (h4 : s.1.length = 4) (h : C.right s = true) (hi : i < 1000) : C.right (numbered s i) = true ∧ (numbered s i).1.length = 4 := by
  obtain ⟨a, d⟩ := s
  dsimp only at h4
  have hd := (right_d h).1
  have h' : T.right a d = true := h
  unfold T.right V.right at h'
  rw [Bool.and_eq_true, List.all_eq_true] at h'
  have h1 := h'.1
  clear h h'
  obtain ⟨a0, a1, a2, a3, rfl⟩ := V.four h4
  have e0 := of_decide_eq_true (h1 a0 (by simp))
  have e1 := of_decide_eq_true (h1 a1 (by simp))
  have e2 := of_decide_eq_true (h1 a2 (by simp))
  have e3 := of_decide_eq_true (h1 a3 (by simp))
  refine ⟨?_, with_len _ _ _ rfl⟩
  obtain rfl | rfl | rfl | rfl : d = 1 ∨ d = 2 ∨ d = 3 ∨ d = 4 := by omega
  · show (V.right [i + 1, a1, a2, a3] && decide (1 ≤ i + 1)) = true
    simp only [V.right, List.all_cons, List.all_nil, Bool.and_true, Bool.and_eq_true, decide_eq_true_eq]
    omega
  · show (V.right [a0, i + 1, a2, a3] && decide (1 ≤ i + 1)) = true
    simp only [V.right, List.all_cons, List.all_nil, Bool.and_true, Bool.and_eq_true, decide_eq_true_eq]
    omega
  · show (V.right [a0, a1, i + 1, a3] && decide (1 ≤ i + 1)) = true
    simp only [V.right, List.all_cons, List.all_nil, Bool.and_true, Bool.and_eq_true, decide_eq_true_eq]
    omega
  · show (V.right [a0, a1, a2, i + 1] && decide (1 ≤ i + 1)) = true
    simp only [V.right, List.all_cons, List.all_nil, Bool.and_true, Bool.and_eq_true, decide_eq_true_eq]
    omega
end Go.Proofs.Ytohcdonmdnjgoaa.Sd

namespace Go.Proofs.Ytohcdonmdnjgoaa.Se

open Go.RowKit Go.Proofs.Ytohcdonmdnjgoaa.Rw Go.Proofs.Ytohcdonmdnjgoaa.Ch

set_option linter.unusedVariables false

/-- the parts in another order -/
theorem Sep.perm {w0 w : World} {R R' : List Rg} (h : Sep w0 w R) (p : R.Perm R') : Sep w0 w R' :=
  ⟨h.under, fun r hr => h.each r (p.mem_iff.2 hr), (p.pairwise_iff (fun {r s} hrs k hk hk' => hrs k hk' hk)).1 h.disj⟩
/-- two parts as one -/
theorem Sep.merge {w0 w : World} {r s t : Rg} {R : List Rg} (h : Sep w0 w (r :: s :: R)) (hb : ∀ k ∈ t.bl, k ∈ r.bl ∨ k ∈ s.bl) (hP : r.P w → s.P w → (∀ k ∈ r.bl, k ∉ s.bl) → t.P w) : Sep w0 w (t :: R) := by
  have hr := h.each r (List.mem_cons_self ..)
  have hs := h.each s (List.mem_cons_of_mem _ (List.mem_cons_self ..))
  obtain ⟨d1, d2⟩ := List.pairwise_cons.1 h.disj
  obtain ⟨d3, d4⟩ := List.pairwise_cons.1 d2
  refine ⟨h.under, fun x hx => ?_, List.pairwise_cons.2 ⟨fun x hx k hk hkx => ?_, d4⟩⟩
  · rcases List.mem_cons.1 hx with rfl | hx
    · exact ⟨hP hr.1 hs.1 (d1 s (List.mem_cons_self ..)), fun k hk => (hb k hk).elim (hr.2 k) (hs.2 k)⟩
    · exact h.each x (List.mem_cons_of_mem _ (List.mem_cons_of_mem _ hx))
  · rcases hb k hk with h1 | h1
    · exact d1 x (List.mem_cons_of_mem _ hx) k h1 hkx
    · exact d3 x hx k h1 hkx
end Go.Proofs.Ytohcdonmdnjgoaa.Se

namespace Go.Proofs.Ytohcdonmdnjgoaa.Sd

open Go.RowKit Go.Proofs.Ytohcdonmdnjgoaa.Vc Go.Proofs.Ytohcdonmdnjgoaa.Sp Go.Proofs.Ytohcdonmdnjgoaa.Rw Go.Proofs.Ytohcdonmdnjgoaa.Ch Go.Proofs.Ytohcdonmdnjgoaa.Se Go.Proofs.Ytohcdonmdnjgoaa.It Go.Proofs.Ytohcdonmdnjgoaa.Mk

set_option linter.unusedVariables false

set_option linter.unusedSimpArgs false

set_option maxRecDepth 100000

/-- a transaction: its stamp, where its writes lie, they -/
structure Tq where
  s : C.St
  a : Option Addr
  c : Nat
  L : List I.Wt
def Tq.v (q : Tq) : Value := .slice q.a q.L.length q.c
def tcell (q : Tq) : List Value := [.int .u64 ((q.s.1.getD 0 0 : Nat) : Int), .int .u64 ((q.s.1.getD 1 0 : Nat) : Int), .int .u64 ((q.s.1.getD 2 0 : Nat) : Int), .int .u64 ((q.s.1.getD 3 0 : Nat) : Int), .int .i64 q.s.2, q.v]
def txk : Kd Tq where
  cf := tcell
  k := 6
  pos := by decide
  len x := rfl
  one x u hu := by
    simp only [tcell, List.mem_cons, List.not_mem_nil, or_false] at hu
    rcases hu with rfl | rfl | rfl | rfl | rfl | rfl <;> rfl
  none_ := ⟨(V.zeros, 0), none, 0, []⟩
theorem txk_cf {q : Tq} (h : q.s.1.length = 4) : txk.cf q = ks .u64 q.s.1 ++ [Value.int .i64 q.s.2, q.v] := by
  obtain ⟨⟨l, d⟩, a, c, L⟩ := q
  obtain ⟨x, y, z, t, rfl⟩ := V.four h
  rfl
theorem inf_tq : (Try.prog.info? 51).map (fun i => (i.zero, i.size, i.bytes)) = some (some (txk.val txk.none_), txk.k, 64) := by
  show _ = some (some (Value.agg #[.int .u64 0, .int .u64 0, .int .u64 0, .int .u64 0, .int .i64 0, .slice none 0 0]), 6, 64)
  kernel_rfl
theorem zc_tq : (txk.val txk.none_).cells.size = txk.k := rfl
theorem elem_tq : Try.prog.elem 86 = 51 := by kernel_rfl
theorem size_tq (w : World) : (sizeOf 51).run Try.prog w = .ok 6 w := by
  have h : (Try.prog.info? 51).map (·.size) = some 6 := by kernel_rfl
  obtain ⟨i, hi, hb⟩ := Option.map_eq_some_iff.1 h
  simp [sizeOf, typeInfo, hi, hb]
theorem index_tq (b o n cap j : Nat) (hj : j < n) (w : World) : (Instr.indexAt 86 (.slice (some ⟨b, o, none⟩) n cap) (.int .i64 (j : Int))).run Try.prog w = .ok (.pointer (some ⟨b, o + 6 * j, none⟩)) w :=
  run_index elem_tq Try.underlying86 size_tq b o n cap j hj w
/-- the row v holds Q; the writes of each of Q2 lie where it says -/
structure Xw (w : World) (base : Nat) (v : Value) (Q Q2 : List Tq) : Prop where
  row : OR txk 51 w base v Q
  ws : ∀ q ∈ Q2, IsWs w q.v q.L
  far : ∀ q ∈ Q2, ∀ k ∈ ob q.v, v.ownBlock ≠ some k
def rX (base : Nat) (v : Value) (Q Q2 : List Tq) : Rg := ⟨ob v ++ Q2.flatMap (fun q => ob q.v), fun w => Xw w base v Q Q2, fun w w' hk h =>
  ⟨row_st (fun k hk' => hk k (List.mem_append_left _ hk')) h.row, fun q hq => ws_st (fun k hk' => hk k (List.mem_append_right _ (List.mem_flatMap.2 ⟨q, hq, hk'⟩))) (h.ws q hq), h.far⟩⟩
section

variable {w0 w w' : World} {R : List Rg} {base : Nat} {v v' : Value} {Q Q2 : List Tq}

theorem xw (h : Sep w0 w R) (i : Nat) (hi : R[i]? = some (rX base v Q Q2)) : Xw w base v Q Q2 := h.get i hi
theorem xw_none (h : Sep w0 w R) : Sep w0 w (rX base (.slice none 0 0) [] [] :: R) :=
  h.push (Below.refl _ _) (rX base (.slice none 0 0) [] []) ⟨OR.nil _ _ _, fun q hq => (by cases hq), fun q hq => (by cases hq)⟩ (fun k hk => by
    have h9 : k ∈ ob (.slice none 0 0) := by simpa [rX] using hk
    have h8 := mem_ob.1 h9
    cases h8)
/-- one more transaction's writes -/
theorem xw_take {q : Tq} (h : Sep w0 w (rW q.v q.L :: rX base v Q Q :: R)) : Sep w0 w (rX base v Q (Q ++ [q]) :: R) := by
  refine h.merge (fun k hk => ?_) (fun h1 h2 hd => ⟨h2.row, fun x hx => ?_, fun x hx k hk e => ?_⟩)
  · simp only [rX, List.mem_append, List.flatMap_append, List.flatMap_cons, List.flatMap_nil, List.append_nil] at hk
    simp only [rX, rW, List.mem_append]
    rcases hk with hk | hk | hk
    · exact .inr (.inl hk)
    · exact .inr (.inr hk)
    · exact .inl hk
  · rcases List.mem_append.1 hx with hx | hx
    · exact h2.ws x hx
    · rw [List.mem_singleton.1 hx]; exact h1
  · rcases List.mem_append.1 hx with hx | hx
    · exact h2.far x hx k hk e
    · rw [List.mem_singleton.1 hx] at hk
      exact hd k hk (List.mem_append_left _ (mem_ob.2 e))
/-- the row is another one -/
theorem xw_row {Q' : List Tq} (h : Sep w0 w R) (i : Nat) (hi : R[i]? = some (rX base v Q Q2)) (hc : OR txk 51 w' base v' Q') (hg : w.grownBy w' v.ownBlock) (hn : Nw w v v') : Sep w0 w' (R.set i (rX base v' Q' Q2)) := by
  have hx := xw h i hi
  have hlt := h.lt i hi
  have hq : ∀ q ∈ Q2, ∀ k ∈ ob q.v, k < w.heap.size := fun q hq k hk => (hlt k (List.mem_append_right _ (List.mem_flatMap.2 ⟨q, hq, hk⟩))).2
  refine h.step i hi hg.os hg.tape hg.output hg.size (fun k hk hm => hg.block k hk (fun e => hm (List.mem_append_left _ (mem_ob.2 e.symm)))) (rX base v' Q' Q2) ⟨hc, fun q hq' => ?_, fun q hq' k hk e => ?_⟩ (fun k hk => ?_)
  · exact ws_st (fun k hk => hg.block k (hq q hq' k hk) (fun e => hx.far q hq' k hk e.symm)) (hx.ws q hq')
  · rcases hn with hn | hn
    · exact hx.far q hq' k hk (by rw [← hn]; exact e)
    · have := hn k e
      have := hq q hq' k hk
      omega
  · rcases List.mem_append.1 hk with hk | hk
    · have hk' := mem_ob.1 hk
      refine ⟨?_, (hc.lt hk').2⟩
      rcases hn with hn | hn
      · exact .inl (List.mem_append_left _ (mem_ob.2 (by rw [← hn]; exact hk')))
      · exact .inr (hn k hk')
    · obtain ⟨q, hq', hk'⟩ := List.mem_flatMap.1 hk
      exact ⟨.inl (List.mem_append_right _ hk), Nat.lt_of_lt_of_le (hq q hq' k hk') hg.size⟩
end

/-- what a transaction is to a shard -/
def Tq.b (q : Tq) : C.St × List I.Wt := (q.s, q.L)
def btb (b : Bt) : C.St × List I.Wt := (b.s, b.L)
/-- the law's transactions: each of its own stamp, whole -/
structure Qok (Q : List Tq) : Prop where
  num : ∀ i q, Q[i]? = some q → ∃ s : C.St, s.1.length = 4 ∧ C.right s = true ∧ q.s = numbered s i
  ok : ∀ q ∈ Q, I.okTo q.L q.L.length = true
  all : ∀ q ∈ Q, q.L.all I.right = true
  len : ∀ q ∈ Q, q.L.length ≤ 8
  few : Q.length ≤ 10
theorem Qok.nil : Qok [] := ⟨fun i q h => (by simp at h), fun q h => (by cases h), fun q h => (by cases h), fun q h => (by cases h), by simp⟩
theorem Qok.snoc {Q : List Tq} (h : Qok Q) {q : Tq} {s : C.St} (h4 : s.1.length = 4) (hr : C.right s = true) (hs : q.s = numbered s Q.length) (ho : I.okTo q.L q.L.length = true) (ha : q.L.all I.right = true) (hl : q.L.length ≤ 8) (hf : Q.length < 10) : Qok (Q ++ [q]) := by
  refine ⟨fun i x hx => ?_, fun x hx => ?_, fun x hx => ?_, fun x hx => ?_, by rw [List.length_append]; show Q.length + 1 ≤ 10; omega⟩
  · rcases Nat.lt_trichotomy i Q.length with h1 | h1 | h1
    · rw [List.getElem?_append_left h1] at hx
      exact h.num i x hx
    · subst h1
      rw [List.getElem?_append_right (Nat.le_refl _), Nat.sub_self] at hx
      obtain rfl := Option.some.inj hx
      exact ⟨s, h4, hr, hs⟩
    · rw [List.getElem?_eq_none (by rw [List.length_append]; show Q.length + 1 ≤ i; omega)] at hx
      cases hx
  all_goals
    rcases List.mem_append.1 hx with hx | hx
    · first | exact h.ok x hx | exact h.all x hx | exact h.len x hx
    · rw [List.mem_singleton.1 hx]; assumption
theorem Qok.right {Q : List Tq} (h : Qok Q) {q : Tq} (hq : q ∈ Q) : C.right q.s = true ∧ q.s.1.length = 4 := by
  obtain ⟨i, hi⟩ := List.mem_iff_getElem?.1 hq
  obtain ⟨s, h4, hr, e⟩ := h.num i q hi
  have hil := (List.getElem?_eq_some_iff.1 hi).1
  have hf := h.few
  rw [e]
  exact numbered_right h4 hr (by omega)
theorem Qok.nodup {Q : List Tq} (h : Qok Q) : ((Q.map Tq.b).map (·.1)).Nodup := by
  rw [List.map_map, List.nodup_iff_pairwise_ne, List.pairwise_iff_getElem]
  intro i j hi hj hij e
  rw [List.length_map] at hi hj
  rw [List.getElem_map, List.getElem_map] at e
  obtain ⟨s, h4, hr, e1⟩ := h.num i Q[i] (List.getElem?_eq_getElem hi)
  obtain ⟨t, h4', hr', e2⟩ := h.num j Q[j] (List.getElem?_eq_getElem hj)
  have e3 : numbered s i = numbered t j := by rw [← e1, ← e2]; exact e
  have := numbered_ne h4 h4' (right_d (a := s.1) (d := s.2) hr).1 (right_d (a := t.1) (d := t.2) hr').1 e3
  omega
theorem Qok.rights {Q : List Tq} (h : Qok Q) : ∀ b ∈ Q.map Tq.b, C.right b.1 = true ∧ b.1.1.length = 4 := fun b hb => by
  obtain ⟨q, hq, rfl⟩ := List.mem_map.1 hb
  exact h.right hq
theorem Qok.keys {Q : List Tq} (h : Qok Q) : ∀ b ∈ Q.map Tq.b, b.2.Pairwise fun x y => I.key x ≠ I.key y := fun b hb => by
  obtain ⟨q, hq, rfl⟩ := List.mem_map.1 hb
  exact pw_keys (h.ok q hq)
theorem allL_snoc (V : Vs) (B : List (C.St × List I.Wt)) (b : C.St × List I.Wt) : allL V (B ++ [b]) = upsL (allL V B) b.1 b.2 := by
  unfold allL
  rw [List.foldl_append]; rfl
theorem allA_snoc (A : List Nat) (B : List C.St) (s : C.St) : allA A (B ++ [s]) = stepA (allA A B) s := by
  unfold allA
  rw [List.foldl_append]; rfl
/-- two shards that had the same transactions -/
theorem alike {Q : List Tq} (h : Qok Q) {wa wb : World} {sa sb : Nat} {Ga Gb : Gm} (ha : Sh wa sa Ga) (hb : Sh wb sb Gb) (ea : vis Ga.E = allL [] (Q.map Tq.b)) (eb : vis Gb.E = allL [] (Q.map Tq.b).reverse) :
    (∀ n, getV (vis Ga.E) n = getV (vis Gb.E) n) ∧ tot (vis Ga.E) = tot (vis Gb.E) := by
  have hg : ∀ n, getV (vis Ga.E) n = getV (vis Gb.E) n := fun n => by
    rw [ea, eb]
    exact getV_alike h.nodup h.rights h.keys n
  have na : ((vis Ga.E).map (·.1)).Nodup := by rw [vis_n]; exact ha.names
  have nb : ((vis Gb.E).map (·.1)).Nodup := by rw [vis_n]; exact hb.names
  exact ⟨hg, tot_alike na nb (fun n => by rw [ea, eb]; exact names_alike _ n) hg⟩
theorem tq_last (Q : List Tq) (i : Nat) (q : Tq) (h : Q[i]? = some q) (f : Tq → C.St × List I.Wt) : (Q.map f).take (i + 1) = (Q.map f).take i ++ [f q] := by
  have hi := (List.getElem?_eq_some_iff.1 h).1
  have e : Q[i] = q := (List.getElem?_eq_some_iff.1 h).2
  rw [List.take_succ_eq_append_getElem (by rw [List.length_map]; exact hi), List.getElem_map, e]
theorem tq_rev (Q : List Tq) (i : Nat) (hi : i < Q.length) : (Q.reverse)[i]? = Q[Q.length - 1 - i]? := List.getElem?_reverse hi
theorem tq_head (Q : List Tq) (W : List Bt) (i : Nat) (hi : i < Q.length) (h : W.map btb = (Q.map Tq.b).drop i) : ∃ b W2 q, W = b :: W2 ∧ Q[i]? = some q ∧ btb b = q.b ∧ W2.map btb = (Q.map Tq.b).drop (i + 1) := by
  have hl : i < (Q.map Tq.b).length := by rw [List.length_map]; exact hi
  rw [List.drop_eq_getElem_cons hl] at h
  cases W with
  | nil => simp at h
  | cons b W2 =>
    rw [List.map_cons] at h
    obtain ⟨h1, h2⟩ := List.cons.inj h
    refine ⟨b, W2, Q[i], rfl, List.getElem?_eq_getElem hi, ?_, h2⟩
    rw [h1, List.getElem_map]
theorem st_next {Q : List Tq} {i : Nat} {E E2 : List En} {A A2 : List Nat} {b : Bt} {q : Tq} (hi : Q[i]? = some q) (hb : btb b = q.b) (hv : vis E = allL [] ((Q.map Tq.b).take i)) (hA : A = allA V.zeros ((Q.map (·.s)).take i))
    (h2 : vis E2 = upsL (vis E) b.s b.L) (h3 : A2 = V.with_ A b.s.2 (max (V.at_ A b.s.2) (V.at_ b.s.1 b.s.2))) (hl : lim (vis E) (8 * i)) (hn : (vis E).length ≤ 8 * i) (h8 : q.L.length ≤ 8) :
    vis E2 = allL [] ((Q.map Tq.b).take (i + 1)) ∧ A2 = allA V.zeros ((Q.map (·.s)).take (i + 1)) ∧ lim (vis E2) (8 * (i + 1)) ∧ (vis E2).length ≤ 8 * (i + 1) := by
  have e1 : b.s = q.s := congrArg Prod.fst hb
  have e2 : b.L = q.L := congrArg Prod.snd hb
  have hil := (List.getElem?_eq_some_iff.1 hi).1
  have eq := (List.getElem?_eq_some_iff.1 hi).2
  refine ⟨?_, ?_, ?_, ?_⟩
  · rw [h2, hv, tq_last Q i q hi, allL_snoc, e1, e2]; rfl
  · rw [h3, List.take_succ_eq_append_getElem (by rw [List.length_map]; exact hil), allA_snoc, ← hA, List.getElem_map, eq, e1]; rfl
  · rw [h2]; exact lim_after hl _ _ (by rw [e2]; omega)
  · rw [h2]
    have := upsL_len b.s b.L (vis E)
    rw [e2] at this ⊢
    omega
theorem rng_pre {u : World} {b p : Nat} {us vs : List Value} (h : u.rangeAt b p (us ++ vs)) : u.rangeAt b p us := fun j v hv => h j v (by
  rw [List.getElem?_append_left]
  · exact hv
  · exact (List.getElem?_eq_some_iff.1 hv).1)
theorem last_ga {rm lb ch mb : Nat} {W : List Bt} {E : List En} {A : List Nat} {u : World} {s : Nat} (k1 k2 : ByteArray) (h : Sh u s (gr rm lb ch mb W E A)) (hl : ∀ k ∈ (gr rm lb ch mb W E A).bl s, k < u.heap.size) (hlim : ∀ x ∈ vis E, x.2.length < 1000) :
    Calls Try.prog 24 #[.pointer (some ⟨s, 0, none⟩), .string k1, .string k2] u fun e w' => e = .returned (.tuple #[WV (lsV (getV (vis E) (k1, k2))).2, SV (lsV (getV (vis E) (k1, k2))).1.1 (lsV (getV (vis E) (k1, k2))).1.2, .bool (decide (0 < (getV (vis E) (k1, k2)).length))]) ∧ Below u.heap.size u w' :=
  last_any s (gr rm lb ch mb W E A) k1 k2 u h hl hlim
theorem applied_ga {rm lb ch mb : Nat} {W : List Bt} {E : List En} {A : List Nat} {u : World} {s : Nat} (h : Sh u s (gr rm lb ch mb W E A)) (hl : ∀ k ∈ (gr rm lb ch mb W E A).bl s, k < u.heap.size) :
    Calls Try.prog 28 #[.pointer (some ⟨s, 0, none⟩)] u fun e w' => e = .returned (AV .u64 A) ∧ Below u.heap.size u w' :=
  applied_any s (gr rm lb ch mb W E A) u h hl
/-- what the last one is, by letters -/
theorem ls_parts {L : List (C.Vr I.Wt)} (hu : C.Up L) : ∃ x0 x1 x2 x3 d, ∃ y : I.Wt, lsV L = (([x0, x1, x2, x3], d), y) := by
  obtain ⟨x0, x1, x2, x3, e⟩ := V.four (lsV_four hu)
  exact ⟨x0, x1, x2, x3, (lsV L).1.2, (lsV L).2, by rw [← e]⟩
theorem allA_len (A : List Nat) (B : List C.St) (h : A.length = 4) : (allA A B).length = 4 := by
  induction B generalizing A with
  | nil => exact h
  | cons s B ih => exact ih (stepA A s) (with_len A s.2 _ h)
end Go.Proofs.Ytohcdonmdnjgoaa.Sd
