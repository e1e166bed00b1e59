/- The document's shard, and the program's beside it. -/
import Derived.Test.YtohcdonmdnjgoaaShardMath

import Derived.Test.YtohcdonmdnjgoaaStampA

import Derived.Test.YtohcdonmdnjgoaaStampRB

import Derived.Test.YtohcdonmdnjgoaaVecRefP

import Derived.Maps.AppendAt

import Derived.Test.YtohcdonmdnjgoaaFramePutT

import Derived.Test.YtohcdonmdnjgoaaFrameVecN

namespace Go.Proofs.Ytohcdonmdnjgoaa.Sd

open Go.RowKit Go.Proofs.Ytohcdonmdnjgoaa.Vc Go.Proofs.Ytohcdonmdnjgoaa.Sp Go.Proofs.Ytohcdonmdnjgoaa.Rw Go.Proofs.Ytohcdonmdnjgoaa.Ch Go.Proofs.Ytohcdonmdnjgoaa.Se Go.Proofs.Ytohcdonmdnjgoaa.It Go.Proofs.Ytohcdonmdnjgoaa.Mk

set_option linter.unusedVariables false

set_option linter.unusedSimpArgs false

set_option maxRecDepth 100000

theorem getV_nil (n : Nm) : getV [] n = [] := rfl
theorem getV_cons (x : Nm × List (C.Vr I.Wt)) (V : Vs) (n : Nm) : getV (x :: V) n = if x.1 = n then x.2 else getV V n := by
  unfold getV
  rw [List.find?_cons]
  by_cases e : x.1 = n
  · simp [e]
  · simp [e]
theorem getV_app (V : Vs) (n m : Nm) (L : List (C.Vr I.Wt)) (h : hasN V m = false) : getV (V ++ [(m, L)]) n = if m = n then L else getV V n := by
  induction V with
  | nil => rw [List.nil_append, getV_cons]
  | cons x V ih =>
    have hx : x.1 ≠ m := fun e => by simp [hasN, e] at h
    have hV : hasN V m = false := by simp [hasN] at h ⊢; exact h.2
    rw [List.cons_append, getV_cons, ih hV, getV_cons]
    by_cases e : x.1 = n
    · rw [if_pos e, if_neg (fun e2 => hx (e.trans e2.symm)), if_pos e]
    · rw [if_neg e, if_neg e]
theorem getV_map (V : Vs) (n m : Nm) (f : List (C.Vr I.Wt) → List (C.Vr I.Wt)) (h : hasN V m = true) : getV (V.map fun x => if x.1 = m then (x.1, f x.2) else x) n = if m = n then f (getV V n) else getV V n := by
  induction V with
  | nil => simp [hasN] at h
  | cons x V ih =>
    rw [List.map_cons, getV_cons, getV_cons]
    by_cases em : x.1 = m
    · rw [if_pos em]
      by_cases en : x.1 = n
      · rw [if_pos en, if_pos (em.symm.trans en), if_pos en]
      · rw [if_neg en, if_neg (fun e => en (em.trans e)), if_neg en]
        by_cases hV : hasN V m = true
        · rw [ih hV, if_neg (fun e => en (em.trans e))]
        · rw [map_none V m _ (by rw [← hasN_iff]; exact hV)]
    · rw [if_neg em]
      have hV : hasN V m = true := by simp [hasN, em] at h ⊢; exact h
      rw [ih hV]
      by_cases en : x.1 = n
      · rw [if_pos en, if_pos en, if_neg (fun e => em (en.trans e.symm))]
      · rw [if_neg en, if_neg en]
theorem getV_ups (V : Vs) (m n : Nm) (st : C.St) (y : I.Wt) : getV (ups V m st y) n = if m = n then (C.add (getV V n) st y).1 else getV V n := by
  unfold ups
  by_cases h : hasN V m = true
  · rw [if_pos h]
    exact getV_map V n m (fun l => (C.add l st y).1) h
  · rw [if_neg h, getV_app V n m _ (by simpa using h)]
    by_cases e : m = n
    · subst e
      rw [if_pos rfl, if_pos rfl, getV_not V m (by rw [← hasN_iff]; exact h)]
    · rw [if_neg e, if_neg e]
/-- the write of a key -/
def keyed (L : List I.Wt) (n : Nm) : Option I.Wt := L.find? fun y => decide (I.key y = n)
theorem getV_upsL_not (st : C.St) (n : Nm) : ∀ (L : List I.Wt) (V : Vs), (∀ y ∈ L, I.key y ≠ n) → getV (upsL V st L) n = getV V n
  | [], V, _ => rfl
  | y :: L, V, h => by
    show getV (upsL (ups V (I.key y) st y) st L) n = _
    rw [getV_upsL_not st n L _ (fun z hz => h z (List.mem_cons_of_mem _ hz)), getV_ups, if_neg (h y (List.mem_cons_self ..))]
theorem getV_upsL (st : C.St) (n : Nm) : ∀ (L : List I.Wt) (V : Vs), (L.Pairwise fun x y => I.key x ≠ I.key y) → getV (upsL V st L) n = match keyed L n with | some y => (C.add (getV V n) st y).1 | none => getV V n
  | [], V, _ => rfl
  | y :: L, V, h => by
    obtain ⟨h1, h2⟩ := List.pairwise_cons.1 h
    show getV (upsL (ups V (I.key y) st y) st L) n = _
    unfold keyed
    rw [List.find?_cons]
    by_cases e : I.key y = n
    · rw [getV_upsL_not st n L _ (fun z hz e2 => h1 z hz (e.trans e2.symm)), getV_ups, if_pos e]
      simp [e]
    · rw [getV_upsL st n L _ h2, getV_ups, if_neg e]
      simp [e, keyed]
/-- batches, one behind the other -/
def allL (V : Vs) (B : List (C.St × List I.Wt)) : Vs := B.foldl (fun V b => upsL V b.1 b.2) V
def versOf (B : List (C.St × List I.Wt)) (n : Nm) : List (C.Vr I.Wt) := B.filterMap fun b => (keyed b.2 n).map fun y => (b.1, y)
theorem getV_allL (n : Nm) : ∀ (B : List (C.St × List I.Wt)) (V : Vs), (∀ b ∈ B, b.2.Pairwise fun x y => I.key x ≠ I.key y) → getV (allL V B) n = (versOf B n).foldl (fun l x => (C.add l x.1 x.2).1) (getV V n)
  | [], V, _ => rfl
  | b :: B, V, h => by
    show getV (allL (upsL V b.1 b.2) B) n = _
    rw [getV_allL n B _ (fun c hc => h c (List.mem_cons_of_mem _ hc)), getV_upsL b.1 n b.2 V (h b (List.mem_cons_self ..))]
    unfold versOf
    rw [List.filterMap_cons]
    cases keyed b.2 n with
    | none => rfl
    | some y => rfl
theorem getV_all0 (B : List (C.St × List I.Wt)) (n : Nm) (h : ∀ b ∈ B, b.2.Pairwise fun x y => I.key x ≠ I.key y) : getV (allL [] B) n = C.adds (versOf B n) := getV_allL n B [] h
/-- what a stamp wrote to a key -/
def wrote (B : List (C.St × List I.Wt)) (n : Nm) (s : C.St) : I.Wt := (((B.find? fun b => decide (b.1 = s)).bind fun b => keyed b.2 n)).getD I.none_
theorem wrote_is {B : List (C.St × List I.Wt)} (hB : (B.map (·.1)).Nodup) (n : Nm) {b : C.St × List I.Wt} (hb : b ∈ B) {y : I.Wt} (hy : keyed b.2 n = some y) : wrote B n b.1 = y := by
  have h : (B.find? fun c => decide (c.1 = b.1)) = some b := by
    induction B with
    | nil => cases hb
    | cons c B ih =>
      rw [List.map_cons, List.nodup_cons] at hB
      rw [List.find?_cons]
      rcases List.mem_cons.1 hb with rfl | hb'
      · simp
      · have hne : c.1 ≠ b.1 := fun e => hB.1 (by rw [e]; exact List.mem_map_of_mem hb')
        simp only [decide_eq_false hne]
        exact ih hB.2 hb'
  unfold wrote
  rw [h]
  show (keyed b.2 n).getD _ = y
  rw [hy]
  rfl
theorem versOf_map {B D : List (C.St × List I.Wt)} (hB : (B.map (·.1)).Nodup) (n : Nm) (hD : ∀ b ∈ D, b ∈ B) : versOf D n = ((D.filterMap fun b => (keyed b.2 n).map fun _ => b.1)).map fun s => (s, wrote B n s) := by
  unfold versOf
  induction D with
  | nil => rfl
  | cons b D ih =>
    rw [List.filterMap_cons, List.filterMap_cons]
    have hb := hD b (List.mem_cons_self ..)
    have ih' := ih (fun c hc => hD c (List.mem_cons_of_mem _ hc))
    cases e : keyed b.2 n with
    | none => exact ih'
    | some y =>
      show (b.1, y) :: _ = (b.1, wrote B n b.1) :: _
      rw [wrote_is hB n hb e, ih']
/-- of whatever key: the same versions, in whatever order the batches came -/
theorem getV_alike {B : List (C.St × List I.Wt)} (hB : (B.map (·.1)).Nodup) (hr : ∀ b ∈ B, C.right b.1 = true ∧ b.1.1.length = 4) (hk : ∀ b ∈ B, b.2.Pairwise fun x y => I.key x ≠ I.key y) (n : Nm) : getV (allL [] B) n = getV (allL [] B.reverse) n := by
  rw [getV_all0 B n hk, getV_all0 B.reverse n (fun b hb => hk b (List.mem_reverse.1 hb)), versOf_map hB n (fun b hb => hb), versOf_map hB n (fun b hb => List.mem_reverse.1 hb)]
  refine C.adds_alike (wrote B n) _ _ (fun s hs => ?_) (fun s => ?_)
  · obtain ⟨b, hb, e⟩ := List.mem_filterMap.1 hs
    cases e2 : keyed b.2 n with
    | none => rw [e2] at e; cases e
    | some y => rw [e2] at e; obtain rfl := Option.some.inj e; exact hr b hb
  · rw [List.mem_filterMap, List.mem_filterMap]
    constructor
    · rintro ⟨b, hb, e⟩; exact ⟨b, List.mem_reverse.2 hb, e⟩
    · rintro ⟨b, hb, e⟩; exact ⟨b, List.mem_reverse.1 hb, e⟩
theorem names_ups (V : Vs) (m : Nm) (st : C.St) (y : I.Wt) (n : Nm) : n ∈ (ups V m st y).map (·.1) ↔ n ∈ V.map (·.1) ∨ n = m := by
  unfold ups
  by_cases h : hasN V m = true
  · rw [if_pos h, List.map_map]
    have e : (V.map ((fun x : Nm × List (C.Vr I.Wt) => x.1) ∘ fun x => if x.1 = m then (x.1, (C.add x.2 st y).1) else x)) = V.map (·.1) := by
      refine List.map_congr_left fun x _ => ?_
      show (if x.1 = m then (x.1, (C.add x.2 st y).1) else x).1 = x.1
      split <;> rfl
    rw [e]
    exact ⟨fun h1 => .inl h1, fun h1 => h1.elim id (fun e => by rw [e]; exact (hasN_iff V m).1 h)⟩
  · rw [if_neg h, List.map_append, List.mem_append]
    simp
theorem names_upsL (st : C.St) (n : Nm) : ∀ (L : List I.Wt) (V : Vs), n ∈ (upsL V st L).map (·.1) ↔ n ∈ V.map (·.1) ∨ ∃ y ∈ L, I.key y = n
  | [], V => by show n ∈ V.map (·.1) ↔ _; simp
  | y :: L, V => by
    show n ∈ (upsL (ups V (I.key y) st y) st L).map (·.1) ↔ _
    rw [names_upsL st n L _, names_ups]
    constructor
    · rintro ((h | h) | ⟨z, hz, e⟩)
      · exact .inl h
      · exact .inr ⟨y, List.mem_cons_self .., h.symm⟩
      · exact .inr ⟨z, List.mem_cons_of_mem _ hz, e⟩
    · rintro (h | ⟨z, hz, e⟩)
      · exact .inl (.inl h)
      · rcases List.mem_cons.1 hz with rfl | hz
        · exact .inl (.inr e.symm)
        · exact .inr ⟨z, hz, e⟩
theorem names_allL (n : Nm) : ∀ (B : List (C.St × List I.Wt)) (V : Vs), n ∈ (allL V B).map (·.1) ↔ n ∈ V.map (·.1) ∨ ∃ b ∈ B, ∃ y ∈ b.2, I.key y = n
  | [], V => by show n ∈ V.map (·.1) ↔ _; simp
  | b :: B, V => by
    show n ∈ (allL (upsL V b.1 b.2) B).map (·.1) ↔ _
    rw [names_allL n B _, names_upsL]
    constructor
    · rintro ((h | h) | ⟨z, hz, e⟩)
      · exact .inl h
      · exact .inr ⟨b, List.mem_cons_self .., h⟩
      · exact .inr ⟨z, List.mem_cons_of_mem _ hz, e⟩
    · rintro (h | ⟨z, hz, e⟩)
      · exact .inl (.inl h)
      · rcases List.mem_cons.1 hz with rfl | hz
        · exact .inl (.inr e)
        · exact .inr ⟨z, hz, e⟩
theorem names_alike (B : List (C.St × List I.Wt)) (n : Nm) : n ∈ (allL [] B).map (·.1) ↔ n ∈ (allL [] B.reverse).map (·.1) := by
  rw [names_allL, names_allL]
  simp only [List.mem_reverse]
theorem tot_by {V : Vs} (hV : (V.map (·.1)).Nodup) : tot V = ((V.map (·.1)).map fun n => (getV V n).length).sum := by
  unfold tot
  rw [List.map_map]
  congr 1
  refine List.map_congr_left fun x hx => ?_
  show x.2.length = (getV V x.1).length
  rw [getV_mem hV hx]
theorem tot_alike {V W : Vs} (hV : (V.map (·.1)).Nodup) (hW : (W.map (·.1)).Nodup) (hm : ∀ n, n ∈ V.map (·.1) ↔ n ∈ W.map (·.1)) (hg : ∀ n, getV V n = getV W n) : tot V = tot W := by
  rw [tot_by hV, tot_by hW]
  have hp : (V.map (·.1)).Perm (W.map (·.1)) := (List.perm_ext_iff_of_nodup hV hW).2 hm
  have e : (fun n => (getV V n).length) = fun n => (getV W n).length := funext fun n => by rw [hg n]
  rw [e]
  exact (hp.map _).sum_nat
def setm (z : List Nat) (i k : Nat) : List Nat := z.set i (max (z.getD i 0) k)
theorem setm_comm (z : List Nat) (i k j l : Nat) : setm (setm z i k) j l = setm (setm z j l) i k := by
  unfold setm
  by_cases e : i = j
  · subst e
    by_cases h : i < z.length
    · rw [List.set_set, List.set_set]
      congr 1
      simp only [List.getD_eq_getElem?_getD, List.getElem?_set_self h, Option.getD_some]
      omega
    · have e0 : ∀ m, z.set i m = z := fun m => List.set_eq_of_length_le (by omega)
      simp only [e0]
  · rw [List.set_comm _ _ e]
    simp only [List.getD_eq_getElem?_getD, List.getElem?_set_ne e, List.getElem?_set_ne (Ne.symm e)]
def stepA (A : List Nat) (s : C.St) : List Nat := V.with_ A s.2 (max (V.at_ A s.2) (V.at_ s.1 s.2))
theorem stepA_is (A : List Nat) (s : C.St) : stepA A s = if V.known s.2 = true then setm A (s.2 - 1).toNat (V.at_ s.1 s.2) else A := by
  unfold stepA V.with_
  by_cases h : V.known s.2 = true
  · rw [if_pos h, if_pos h]
    unfold setm
    have e : V.at_ A s.2 = A.getD (s.2 - 1).toNat 0 := by unfold V.at_; rw [if_pos h]
    rw [e]
  · rw [if_neg h, if_neg h]
theorem stepA_comm (z : List Nat) (s t : C.St) : stepA (stepA z s) t = stepA (stepA z t) s := by
  rw [stepA_is _ t, stepA_is z s, stepA_is _ s, stepA_is z t]
  by_cases hs : V.known s.2 = true
  · by_cases ht : V.known t.2 = true
    · rw [if_pos hs, if_pos ht, if_pos ht, if_pos hs]; exact setm_comm _ _ _ _ _
    · simp [hs, ht]
  · by_cases ht : V.known t.2 = true
    · simp [hs, ht]
    · simp [hs, ht]
def allA (A : List Nat) (B : List C.St) : List Nat := B.foldl stepA A
theorem allA_alike (A : List Nat) (B : List C.St) : allA A B = allA A B.reverse :=
  List.Perm.foldl_eq' (List.reverse_perm B).symm (fun x _ y _ z => stepA_comm z x y) A
theorem pw_keys {L : List I.Wt} (h : I.okTo L L.length = true) : L.Pairwise fun x y => I.key x ≠ I.key y := by
  rw [List.pairwise_iff_getElem]
  intro i j hi hj hij
  have h1 := fresh_n h j hj (L[i]) (List.mem_iff_getElem.2 ⟨i, by rw [List.length_take]; omega, by rw [List.getElem_take]⟩)
  rwa [List.getD_eq_getElem?_getD, List.getElem?_eq_getElem hj] at h1
/-- the i-th stamp of the law: its own number is its place -/
def numbered (s : C.St) (i : Nat) : C.St := (V.with_ s.1 s.2 (i + 1), s.2)
theorem numbered_at {s : C.St} (i : Nat) (h4 : s.1.length = 4) (hd : 1 ≤ s.2 ∧ s.2 ≤ 4) : V.at_ (numbered s i).1 s.2 = i + 1 := by
  obtain ⟨a, d⟩ := s
  dsimp only at h4 hd
  obtain ⟨a0, a1, a2, a3, rfl⟩ := V.four h4
  obtain rfl | rfl | rfl | rfl : d = 1 ∨ d = 2 ∨ d = 3 ∨ d = 4 := by omega
  · rfl
  · rfl
  · rfl
  · rfl
theorem numbered_ne {s t : C.St} {i j : Nat} (hs : s.1.length = 4) (ht : t.1.length = 4) (ds : 1 ≤ s.2 ∧ s.2 ≤ 4) (dt : 1 ≤ t.2 ∧ t.2 ≤ 4) (h : numbered s i = numbered t j) : i = j := by
  have e9 : (numbered s i).2 = (numbered t j).2 := by rw [h]
  have e : s.2 = t.2 := e9
  have h1 := numbered_at i hs ds
  have h2 := numbered_at j ht dt
  rw [h, e] at h1
  omega
theorem numbered_right {s : C.St} {i : Nat} (h4 : s.1.length = 4) (h : C.right s = true) (hi : i < 1000) : C.right (numbered s i) = true ∧ (numbered s i).1.length = 4 := by
  obtain ⟨a, d⟩ := s
  dsimp only at h4
  have hd := (right_d h).1
  have h' : T.right a d = true := h
  unfold T.right V.right at h'
  rw [Bool.and_eq_true, List.all_eq_true] at h'
  have h1 := h'.1
  clear h h'
  obtain ⟨a0, a1, a2, a3, rfl⟩ := V.four h4
  have e0 := of_decide_eq_true (h1 a0 (by simp))
  have e1 := of_decide_eq_true (h1 a1 (by simp))
  have e2 := of_decide_eq_true (h1 a2 (by simp))
  have e3 := of_decide_eq_true (h1 a3 (by simp))
  refine ⟨?_, with_len _ _ _ rfl⟩
  obtain rfl | rfl | rfl | rfl : d = 1 ∨ d = 2 ∨ d = 3 ∨ d = 4 := by omega
  · show (V.right [i + 1, a1, a2, a3] && decide (1 ≤ i + 1)) = true
    simp only [V.right, List.all_cons, List.all_nil, Bool.and_true, Bool.and_eq_true, decide_eq_true_eq]
    omega
  · show (V.right [a0, i + 1, a2, a3] && decide (1 ≤ i + 1)) = true
    simp only [V.right, List.all_cons, List.all_nil, Bool.and_true, Bool.and_eq_true, decide_eq_true_eq]
    omega
  · show (V.right [a0, a1, i + 1, a3] && decide (1 ≤ i + 1)) = true
    simp only [V.right, List.all_cons, List.all_nil, Bool.and_true, Bool.and_eq_true, decide_eq_true_eq]
    omega
  · show (V.right [a0, a1, a2, i + 1] && decide (1 ≤ i + 1)) = true
    simp only [V.right, List.all_cons, List.all_nil, Bool.and_true, Bool.and_eq_true, decide_eq_true_eq]
    omega
end Go.Proofs.Ytohcdonmdnjgoaa.Sd

namespace Go.Proofs.Ytohcdonmdnjgoaa.Se

open Go.RowKit Go.Proofs.Ytohcdonmdnjgoaa.Rw Go.Proofs.Ytohcdonmdnjgoaa.Ch

set_option linter.unusedVariables false

/-- the parts in another order -/
theorem Sep.perm {w0 w : World} {R R' : List Rg} (h : Sep w0 w R) (p : R.Perm R') : Sep w0 w R' :=
  ⟨h.under, fun r hr => h.each r (p.mem_iff.2 hr), (p.pairwise_iff (fun {r s} hrs k hk hk' => hrs k hk' hk)).1 h.disj⟩
/-- two parts as one -/
theorem Sep.merge {w0 w : World} {r s t : Rg} {R : List Rg} (h : Sep w0 w (r :: s :: R)) (hb : ∀ k ∈ t.bl, k ∈ r.bl ∨ k ∈ s.bl) (hP : r.P w → s.P w → (∀ k ∈ r.bl, k ∉ s.bl) → t.P w) : Sep w0 w (t :: R) := by
  have hr := h.each r (List.mem_cons_self ..)
  have hs := h.each s (List.mem_cons_of_mem _ (List.mem_cons_self ..))
  obtain ⟨d1, d2⟩ := List.pairwise_cons.1 h.disj
  obtain ⟨d3, d4⟩ := List.pairwise_cons.1 d2
  refine ⟨h.under, fun x hx => ?_, List.pairwise_cons.2 ⟨fun x hx k hk hkx => ?_, d4⟩⟩
  · rcases List.mem_cons.1 hx with rfl | hx
    · exact ⟨hP hr.1 hs.1 (d1 s (List.mem_cons_self ..)), fun k hk => (hb k hk).elim (hr.2 k) (hs.2 k)⟩
    · exact h.each x (List.mem_cons_of_mem _ (List.mem_cons_of_mem _ hx))
  · rcases hb k hk with h1 | h1
    · exact d1 x (List.mem_cons_of_mem _ hx) k h1 hkx
    · exact d3 x hx k h1 hkx
end Go.Proofs.Ytohcdonmdnjgoaa.Se

namespace Go.Proofs.Ytohcdonmdnjgoaa.Sd

open Go.RowKit Go.Proofs.Ytohcdonmdnjgoaa.Vc Go.Proofs.Ytohcdonmdnjgoaa.Sp Go.Proofs.Ytohcdonmdnjgoaa.Rw Go.Proofs.Ytohcdonmdnjgoaa.Ch Go.Proofs.Ytohcdonmdnjgoaa.Se Go.Proofs.Ytohcdonmdnjgoaa.It Go.Proofs.Ytohcdonmdnjgoaa.Mk

set_option linter.unusedVariables false

set_option linter.unusedSimpArgs false

set_option maxRecDepth 100000

/-- a transaction: its stamp, where its writes lie, they -/
structure Tq where
  s : C.St
  a : Option Addr
  c : Nat
  L : List I.Wt
def Tq.v (q : Tq) : Value := .slice q.a q.L.length q.c
def tcell (q : Tq) : List Value := [.int .u64 ((q.s.1.getD 0 0 : Nat) : Int), .int .u64 ((q.s.1.getD 1 0 : Nat) : Int), .int .u64 ((q.s.1.getD 2 0 : Nat) : Int), .int .u64 ((q.s.1.getD 3 0 : Nat) : Int), .int .i64 q.s.2, q.v]
def txk : Kd Tq where
  cf := tcell
  k := 6
  pos := by decide
  len x := rfl
  one x u hu := by
    simp only [tcell, List.mem_cons, List.not_mem_nil, or_false] at hu
    rcases hu with rfl | rfl | rfl | rfl | rfl | rfl <;> rfl
  none_ := ⟨(V.zeros, 0), none, 0, []⟩
theorem txk_cf {q : Tq} (h : q.s.1.length = 4) : txk.cf q = ks .u64 q.s.1 ++ [Value.int .i64 q.s.2, q.v] := by
  obtain ⟨⟨l, d⟩, a, c, L⟩ := q
  obtain ⟨x, y, z, t, rfl⟩ := V.four h
  rfl
theorem inf_tq : (Try.prog.info? 51).map (fun i => (i.zero, i.size, i.bytes)) = some (some (txk.val txk.none_), txk.k, 64) := by
  show _ = some (some (Value.agg #[.int .u64 0, .int .u64 0, .int .u64 0, .int .u64 0, .int .i64 0, .slice none 0 0]), 6, 64)
  kernel_rfl
theorem zc_tq : (txk.val txk.none_).cells.size = txk.k := rfl
theorem elem_tq : Try.prog.elem 86 = 51 := by kernel_rfl
theorem size_tq (w : World) : (sizeOf 51).run Try.prog w = .ok 6 w := by
  have h : (Try.prog.info? 51).map (·.size) = some 6 := by kernel_rfl
  obtain ⟨i, hi, hb⟩ := Option.map_eq_some_iff.1 h
  simp [sizeOf, typeInfo, hi, hb]
theorem index_tq (b o n cap j : Nat) (hj : j < n) (w : World) : (Instr.indexAt 86 (.slice (some ⟨b, o, none⟩) n cap) (.int .i64 (j : Int))).run Try.prog w = .ok (.pointer (some ⟨b, o + 6 * j, none⟩)) w :=
  run_index elem_tq Try.underlying86 size_tq b o n cap j hj w
/-- the row v holds Q; the writes of each of Q2 lie where it says -/
structure Xw (w : World) (base : Nat) (v : Value) (Q Q2 : List Tq) : Prop where
  row : OR txk 51 w base v Q
  ws : ∀ q ∈ Q2, IsWs w q.v q.L
  far : ∀ q ∈ Q2, ∀ k ∈ ob q.v, v.ownBlock ≠ some k
def rX (base : Nat) (v : Value) (Q Q2 : List Tq) : Rg := ⟨ob v ++ Q2.flatMap (fun q => ob q.v), fun w => Xw w base v Q Q2, fun w w' hk h =>
  ⟨row_st (fun k hk' => hk k (List.mem_append_left _ hk')) h.row, fun q hq => ws_st (fun k hk' => hk k (List.mem_append_right _ (List.mem_flatMap.2 ⟨q, hq, hk'⟩))) (h.ws q hq), h.far⟩⟩
section

variable {w0 w w' : World} {R : List Rg} {base : Nat} {v v' : Value} {Q Q2 : List Tq}

theorem xw (h : Sep w0 w R) (i : Nat) (hi : R[i]? = some (rX base v Q Q2)) : Xw w base v Q Q2 := h.get i hi
theorem xw_none (h : Sep w0 w R) : Sep w0 w (rX base (.slice none 0 0) [] [] :: R) :=
  h.push (Below.refl _ _) (rX base (.slice none 0 0) [] []) ⟨OR.nil _ _ _, fun q hq => (by cases hq), fun q hq => (by cases hq)⟩ (fun k hk => by
    have h9 : k ∈ ob (.slice none 0 0) := by simpa [rX] using hk
    have h8 := mem_ob.1 h9
    cases h8)
/-- one more transaction's writes -/
theorem xw_take {q : Tq} (h : Sep w0 w (rW q.v q.L :: rX base v Q Q :: R)) : Sep w0 w (rX base v Q (Q ++ [q]) :: R) := by
  refine h.merge (fun k hk => ?_) (fun h1 h2 hd => ⟨h2.row, fun x hx => ?_, fun x hx k hk e => ?_⟩)
  · simp only [rX, List.mem_append, List.flatMap_append, List.flatMap_cons, List.flatMap_nil, List.append_nil] at hk
    simp only [rX, rW, List.mem_append]
    rcases hk with hk | hk | hk
    · exact .inr (.inl hk)
    · exact .inr (.inr hk)
    · exact .inl hk
  · rcases List.mem_append.1 hx with hx | hx
    · exact h2.ws x hx
    · rw [List.mem_singleton.1 hx]; exact h1
  · rcases List.mem_append.1 hx with hx | hx
    · exact h2.far x hx k hk e
    · rw [List.mem_singleton.1 hx] at hk
      exact hd k hk (List.mem_append_left _ (mem_ob.2 e))
/-- the row is another one -/
theorem xw_row {Q' : List Tq} (h : Sep w0 w R) (i : Nat) (hi : R[i]? = some (rX base v Q Q2)) (hc : OR txk 51 w' base v' Q') (hg : w.grownBy w' v.ownBlock) (hn : Nw w v v') : Sep w0 w' (R.set i (rX base v' Q' Q2)) := by
  have hx := xw h i hi
  have hlt := h.lt i hi
  have hq : ∀ q ∈ Q2, ∀ k ∈ ob q.v, k < w.heap.size := fun q hq k hk => (hlt k (List.mem_append_right _ (List.mem_flatMap.2 ⟨q, hq, hk⟩))).2
  refine h.step i hi hg.os hg.tape hg.output hg.size (fun k hk hm => hg.block k hk (fun e => hm (List.mem_append_left _ (mem_ob.2 e.symm)))) (rX base v' Q' Q2) ⟨hc, fun q hq' => ?_, fun q hq' k hk e => ?_⟩ (fun k hk => ?_)
  · exact ws_st (fun k hk => hg.block k (hq q hq' k hk) (fun e => hx.far q hq' k hk e.symm)) (hx.ws q hq')
  · rcases hn with hn | hn
    · exact hx.far q hq' k hk (by rw [← hn]; exact e)
    · have := hn k e
      have := hq q hq' k hk
      omega
  · rcases List.mem_append.1 hk with hk | hk
    · have hk' := mem_ob.1 hk
      refine ⟨?_, (hc.lt hk').2⟩
      rcases hn with hn | hn
      · exact .inl (List.mem_append_left _ (mem_ob.2 (by rw [← hn]; exact hk')))
      · exact .inr (hn k hk')
    · obtain ⟨q, hq', hk'⟩ := List.mem_flatMap.1 hk
      exact ⟨.inl (List.mem_append_right _ hk), Nat.lt_of_lt_of_le (hq q hq' k hk') hg.size⟩
end

/-- what a transaction is to a shard -/
def Tq.b (q : Tq) : C.St × List I.Wt := (q.s, q.L)
def btb (b : Bt) : C.St × List I.Wt := (b.s, b.L)
/-- the law's transactions: each of its own stamp, whole -/
structure Qok (Q : List Tq) : Prop where
  num : ∀ i q, Q[i]? = some q → ∃ s : C.St, s.1.length = 4 ∧ C.right s = true ∧ q.s = numbered s i
  ok : ∀ q ∈ Q, I.okTo q.L q.L.length = true
  all : ∀ q ∈ Q, q.L.all I.right = true
  len : ∀ q ∈ Q, q.L.length ≤ 8
  few : Q.length ≤ 10
theorem Qok.nil : Qok [] := ⟨fun i q h => (by simp at h), fun q h => (by cases h), fun q h => (by cases h), fun q h => (by cases h), by simp⟩
theorem Qok.snoc {Q : List Tq} (h : Qok Q) {q : Tq} {s : C.St} (h4 : s.1.length = 4) (hr : C.right s = true) (hs : q.s = numbered s Q.length) (ho : I.okTo q.L q.L.length = true) (ha : q.L.all I.right = true) (hl : q.L.length ≤ 8) (hf : Q.length < 10) : Qok (Q ++ [q]) := by
  refine ⟨fun i x hx => ?_, fun x hx => ?_, fun x hx => ?_, fun x hx => ?_, by rw [List.length_append]; show Q.length + 1 ≤ 10; omega⟩
  · rcases Nat.lt_trichotomy i Q.length with h1 | h1 | h1
    · rw [List.getElem?_append_left h1] at hx
      exact h.num i x hx
    · subst h1
      rw [List.getElem?_append_right (Nat.le_refl _), Nat.sub_self] at hx
      obtain rfl := Option.some.inj hx
      exact ⟨s, h4, hr, hs⟩
    · rw [List.getElem?_eq_none (by rw [List.length_append]; show Q.length + 1 ≤ i; omega)] at hx
      cases hx
  all_goals
    rcases List.mem_append.1 hx with hx | hx
    · first | exact h.ok x hx | exact h.all x hx | exact h.len x hx
    · rw [List.mem_singleton.1 hx]; assumption
theorem Qok.right {Q : List Tq} (h : Qok Q) {q : Tq} (hq : q ∈ Q) : C.right q.s = true ∧ q.s.1.length = 4 := by
  obtain ⟨i, hi⟩ := List.mem_iff_getElem?.1 hq
  obtain ⟨s, h4, hr, e⟩ := h.num i q hi
  have hil := (List.getElem?_eq_some_iff.1 hi).1
  have hf := h.few
  rw [e]
  exact numbered_right h4 hr (by omega)
theorem Qok.nodup {Q : List Tq} (h : Qok Q) : ((Q.map Tq.b).map (·.1)).Nodup := by
  rw [List.map_map, List.nodup_iff_pairwise_ne, List.pairwise_iff_getElem]
  intro i j hi hj hij e
  rw [List.length_map] at hi hj
  rw [List.getElem_map, List.getElem_map] at e
  obtain ⟨s, h4, hr, e1⟩ := h.num i Q[i] (List.getElem?_eq_getElem hi)
  obtain ⟨t, h4', hr', e2⟩ := h.num j Q[j] (List.getElem?_eq_getElem hj)
  have e3 : numbered s i = numbered t j := by rw [← e1, ← e2]; exact e
  have := numbered_ne h4 h4' (right_d (a := s.1) (d := s.2) hr).1 (right_d (a := t.1) (d := t.2) hr').1 e3
  omega
theorem Qok.rights {Q : List Tq} (h : Qok Q) : ∀ b ∈ Q.map Tq.b, C.right b.1 = true ∧ b.1.1.length = 4 := fun b hb => by
  obtain ⟨q, hq, rfl⟩ := List.mem_map.1 hb
  exact h.right hq
theorem Qok.keys {Q : List Tq} (h : Qok Q) : ∀ b ∈ Q.map Tq.b, b.2.Pairwise fun x y => I.key x ≠ I.key y := fun b hb => by
  obtain ⟨q, hq, rfl⟩ := List.mem_map.1 hb
  exact pw_keys (h.ok q hq)
theorem allL_snoc (V : Vs) (B : List (C.St × List I.Wt)) (b : C.St × List I.Wt) : allL V (B ++ [b]) = upsL (allL V B) b.1 b.2 := by
  unfold allL
  rw [List.foldl_append]; rfl
theorem allA_snoc (A : List Nat) (B : List C.St) (s : C.St) : allA A (B ++ [s]) = stepA (allA A B) s := by
  unfold allA
  rw [List.foldl_append]; rfl
/-- two shards that had the same transactions -/
theorem alike {Q : List Tq} (h : Qok Q) {wa wb : World} {sa sb : Nat} {Ga Gb : Gm} (ha : Sh wa sa Ga) (hb : Sh wb sb Gb) (ea : vis Ga.E = allL [] (Q.map Tq.b)) (eb : vis Gb.E = allL [] (Q.map Tq.b).reverse) :
    (∀ n, getV (vis Ga.E) n = getV (vis Gb.E) n) ∧ tot (vis Ga.E) = tot (vis Gb.E) := by
  have hg : ∀ n, getV (vis Ga.E) n = getV (vis Gb.E) n := fun n => by
    rw [ea, eb]
    exact getV_alike h.nodup h.rights h.keys n
  have na : ((vis Ga.E).map (·.1)).Nodup := by rw [vis_n]; exact ha.names
  have nb : ((vis Gb.E).map (·.1)).Nodup := by rw [vis_n]; exact hb.names
  exact ⟨hg, tot_alike na nb (fun n => by rw [ea, eb]; exact names_alike _ n) hg⟩
theorem tq_last (Q : List Tq) (i : Nat) (q : Tq) (h : Q[i]? = some q) (f : Tq → C.St × List I.Wt) : (Q.map f).take (i + 1) = (Q.map f).take i ++ [f q] := by
  have hi := (List.getElem?_eq_some_iff.1 h).1
  have e : Q[i] = q := (List.getElem?_eq_some_iff.1 h).2
  rw [List.take_succ_eq_append_getElem (by rw [List.length_map]; exact hi), List.getElem_map, e]
theorem tq_rev (Q : List Tq) (i : Nat) (hi : i < Q.length) : (Q.reverse)[i]? = Q[Q.length - 1 - i]? := List.getElem?_reverse hi
theorem tq_head (Q : List Tq) (W : List Bt) (i : Nat) (hi : i < Q.length) (h : W.map btb = (Q.map Tq.b).drop i) : ∃ b W2 q, W = b :: W2 ∧ Q[i]? = some q ∧ btb b = q.b ∧ W2.map btb = (Q.map Tq.b).drop (i + 1) := by
  have hl : i < (Q.map Tq.b).length := by rw [List.length_map]; exact hi
  rw [List.drop_eq_getElem_cons hl] at h
  cases W with
  | nil => simp at h
  | cons b W2 =>
    rw [List.map_cons] at h
    obtain ⟨h1, h2⟩ := List.cons.inj h
    refine ⟨b, W2, Q[i], rfl, List.getElem?_eq_getElem hi, ?_, h2⟩
    rw [h1, List.getElem_map]
theorem st_next {Q : List Tq} {i : Nat} {E E2 : List En} {A A2 : List Nat} {b : Bt} {q : Tq} (hi : Q[i]? = some q) (hb : btb b = q.b) (hv : vis E = allL [] ((Q.map Tq.b).take i)) (hA : A = allA V.zeros ((Q.map (·.s)).take i))
    (h2 : vis E2 = upsL (vis E) b.s b.L) (h3 : A2 = V.with_ A b.s.2 (max (V.at_ A b.s.2) (V.at_ b.s.1 b.s.2))) (hl : lim (vis E) (8 * i)) (hn : (vis E).length ≤ 8 * i) (h8 : q.L.length ≤ 8) :
    vis E2 = allL [] ((Q.map Tq.b).take (i + 1)) ∧ A2 = allA V.zeros ((Q.map (·.s)).take (i + 1)) ∧ lim (vis E2) (8 * (i + 1)) ∧ (vis E2).length ≤ 8 * (i + 1) := by
  have e1 : b.s = q.s := congrArg Prod.fst hb
  have e2 : b.L = q.L := congrArg Prod.snd hb
  have hil := (List.getElem?_eq_some_iff.1 hi).1
  have eq := (List.getElem?_eq_some_iff.1 hi).2
  refine ⟨?_, ?_, ?_, ?_⟩
  · rw [h2, hv, tq_last Q i q hi, allL_snoc, e1, e2]; rfl
  · rw [h3, List.take_succ_eq_append_getElem (by rw [List.length_map]; exact hil), allA_snoc, ← hA, List.getElem_map, eq, e1]; rfl
  · rw [h2]; exact lim_after hl _ _ (by rw [e2]; omega)
  · rw [h2]
    have := upsL_len b.s b.L (vis E)
    rw [e2] at this ⊢
    omega
theorem rng_pre {u : World} {b p : Nat} {us vs : List Value} (h : u.rangeAt b p (us ++ vs)) : u.rangeAt b p us := fun j v hv => h j v (by
  rw [List.getElem?_append_left]
  · exact hv
  · exact (List.getElem?_eq_some_iff.1 hv).1)
theorem last_ga {rm lb ch mb : Nat} {W : List Bt} {E : List En} {A : List Nat} {u : World} {s : Nat} (k1 k2 : ByteArray) (h : Sh u s (gr rm lb ch mb W E A)) (hl : ∀ k ∈ (gr rm lb ch mb W E A).bl s, k < u.heap.size) (hlim : ∀ x ∈ vis E, x.2.length < 1000) :
    Calls Try.prog 24 #[.pointer (some ⟨s, 0, none⟩), .string k1, .string k2] u fun e w' => e = .returned (.tuple #[WV (lsV (getV (vis E) (k1, k2))).2, SV (lsV (getV (vis E) (k1, k2))).1.1 (lsV (getV (vis E) (k1, k2))).1.2, .bool (decide (0 < (getV (vis E) (k1, k2)).length))]) ∧ Below u.heap.size u w' :=
  last_any s (gr rm lb ch mb W E A) k1 k2 u h hl hlim
theorem applied_ga {rm lb ch mb : Nat} {W : List Bt} {E : List En} {A : List Nat} {u : World} {s : Nat} (h : Sh u s (gr rm lb ch mb W E A)) (hl : ∀ k ∈ (gr rm lb ch mb W E A).bl s, k < u.heap.size) :
    Calls Try.prog 28 #[.pointer (some ⟨s, 0, none⟩)] u fun e w' => e = .returned (AV .u64 A) ∧ Below u.heap.size u w' :=
  applied_any s (gr rm lb ch mb W E A) u h hl
/-- what the last one is, by letters -/
theorem ls_parts {L : List (C.Vr I.Wt)} (hu : C.Up L) : ∃ x0 x1 x2 x3 d, ∃ y : I.Wt, lsV L = (([x0, x1, x2, x3], d), y) := by
  obtain ⟨x0, x1, x2, x3, e⟩ := V.four (lsV_four hu)
  exact ⟨x0, x1, x2, x3, (lsV L).1.2, (lsV L).2, by rw [← e]⟩
theorem allA_len (A : List Nat) (B : List C.St) (h : A.length = 4) : (allA A B).length = 4 := by
  induction B generalizing A with
  | nil => exact h
  | cons s B ih => exact ih (stepA A s) (with_len A s.2 _ h)
end Go.Proofs.Ytohcdonmdnjgoaa.Sd

namespace Go.Proofs.Ytohcdonmdnjgoaa.Sd

open Go.RowKit Go.Proofs.Ytohcdonmdnjgoaa.Vc Go.Proofs.Ytohcdonmdnjgoaa.Sp Go.Proofs.Ytohcdonmdnjgoaa.Rw Go.Proofs.Ytohcdonmdnjgoaa.Ch Go.Proofs.Ytohcdonmdnjgoaa.Se Go.Proofs.Ytohcdonmdnjgoaa.It Go.Proofs.Ytohcdonmdnjgoaa.Mk

set_option linter.unusedVariables false

set_option linter.unusedSimpArgs false

set_option maxRecDepth 100000

abbrev Ver := C.Vr I.Wt
def dkey (x : Ver) : Nm := I.key x.2
structure Same (V : Vs) (D : List Ver) : Prop where
  mem : ∀ n x, x ∈ getV V n ↔ x ∈ D ∧ dkey x = n
  uniq : D.Pairwise fun x y => ¬ (x.1 = y.1 ∧ dkey x = dkey y)
  ok : ∀ x ∈ D, C.right x.1 = true ∧ x.1.1.length = 4
theorem Same.nil : Same [] [] := ⟨fun n x => by simp [getV_nil], .nil, fun x hx => (by cases hx)⟩
def hasD (D : List Ver) (s : C.St) (n : Nm) : Bool := D.any fun x => decide (x.1 = s) && decide (dkey x = n)
def addD (D : List Ver) (s : C.St) (y : I.Wt) : List Ver := if hasD D s (I.key y) = true then D else D ++ [(s, y)]
theorem hasD_iff (D : List Ver) (s : C.St) (n : Nm) : hasD D s n = true ↔ ∃ x ∈ D, x.1 = s ∧ dkey x = n := by
  unfold hasD
  rw [List.any_eq_true]
  simp
theorem Same.has {V : Vs} {D : List Ver} (h : Same V D) (s : C.St) (n : Nm) : C.has (getV V n) s = hasD D s n := by
  rw [Bool.eq_iff_iff, C.has_iff, hasD_iff]
  constructor
  · rintro ⟨x, hx, e⟩
    exact ⟨x, ((h.mem n x).1 hx).1, e, ((h.mem n x).1 hx).2⟩
  · rintro ⟨x, hx, e, e2⟩
    exact ⟨x, (h.mem n x).2 ⟨hx, e2⟩, e⟩
theorem Same.add {V : Vs} {D : List Ver} (h : Same V D) {s : C.St} (hr : C.right s = true) (h4 : s.1.length = 4) (y : I.Wt) : Same (ups V (I.key y) s y) (addD D s y) := by
  unfold addD
  by_cases hh : hasD D s (I.key y) = true
  · rw [if_pos hh]
    refine ⟨fun n x => ?_, h.uniq, h.ok⟩
    rw [getV_ups]
    by_cases e : I.key y = n
    · subst e
      rw [if_pos rfl, C.mem_add, h.has, hh, h.mem]
      simp
    · rw [if_neg e, h.mem]
  · rw [if_neg hh]
    have hf : hasD D s (I.key y) = false := by simpa using hh
    refine ⟨fun n x => ?_, ?_, fun x hx => ?_⟩
    · rw [getV_ups, List.mem_append, List.mem_singleton]
      by_cases e : I.key y = n
      · subst e
        rw [if_pos rfl, C.mem_add, h.has, hf, h.mem]
        constructor
        · rintro (⟨h1, h2⟩ | ⟨rfl, _, _⟩)
          · exact ⟨.inl h1, h2⟩
          · exact ⟨.inr rfl, rfl⟩
        · rintro ⟨h1 | rfl, h2⟩
          · exact .inl ⟨h1, h2⟩
          · exact .inr ⟨rfl, hr, rfl⟩
      · rw [if_neg e, h.mem]
        constructor
        · rintro ⟨h1, h2⟩
          exact ⟨.inl h1, h2⟩
        · rintro ⟨h1 | rfl, h2⟩
          · exact ⟨h1, h2⟩
          · exact absurd h2 e
    · refine List.pairwise_append.2 ⟨h.uniq, List.pairwise_singleton _ _, fun a ha b hb e => ?_⟩
      rw [List.mem_singleton.1 hb] at e
      have : hasD D s (I.key y) = true := (hasD_iff _ _ _).2 ⟨a, ha, e.1, e.2⟩
      rw [hf] at this
      cases this
    · rcases List.mem_append.1 hx with hx | hx
      · exact h.ok x hx
      · rw [List.mem_singleton.1 hx]; exact ⟨hr, h4⟩
def addsD (D : List Ver) (s : C.St) (L : List I.Wt) : List Ver := L.foldl (fun D y => addD D s y) D
theorem addsD_step (D : List Ver) (s : C.St) (L : List I.Wt) (j : Nat) (h : j < L.length) : addsD D s (L.take (j + 1)) = addD (addsD D s (L.take j)) s (L.getD j I.none_) := by
  unfold addsD
  rw [List.take_succ_eq_append_getElem h, List.foldl_append, List.getD_eq_getElem?_getD, List.getElem?_eq_getElem h]
  rfl
theorem Same.adds {s : C.St} (hr : C.right s = true) (h4 : s.1.length = 4) : ∀ (L : List I.Wt) {V : Vs} {D : List Ver}, Same V D → Same (upsL V s L) (addsD D s L)
  | [], V, D, h => h
  | y :: L, V, D, h => Same.adds hr h4 L (h.add hr h4 y)
theorem addD_len (D : List Ver) (s : C.St) (y : I.Wt) : (addD D s y).length ≤ D.length + 1 := by
  unfold addD
  split <;> simp
theorem addsD_len (s : C.St) : ∀ (L : List I.Wt) (D : List Ver), (addsD D s L).length ≤ D.length + L.length
  | [], D => Nat.le_refl _
  | y :: L, D => by
    have h1 := addsD_len s L (addD D s y)
    have h2 := addD_len D s y
    show (addsD (addD D s y) s L).length ≤ _
    rw [List.length_cons]
    omega
def vz : Ver := (vk wrt).none_
/-- the place of the one that is over all others, of those of a kind, among the first so many -/
def bst (D : List Ver) (p : Ver → Bool) : Nat → Option Nat
  | 0 => none
  | i + 1 => match bst D p i with
    | none => if p (D.getD i vz) = true then some i else none
    | some b => if p (D.getD i vz) = true ∧ 0 < C.ord (D.getD i vz).1 (D.getD b vz).1 then some i else some b
theorem bst_none (D : List Ver) (p : Ver → Bool) : ∀ n, bst D p n = none → ∀ i, i < n → p (D.getD i vz) = false
  | 0, _, i, hi => by omega
  | n + 1, h, i, hi => by
    unfold bst at h
    cases e : bst D p n with
    | none =>
      rw [e] at h
      dsimp only at h
      by_cases hp : p (D.getD n vz) = true
      · rw [if_pos hp] at h; cases h
      · rcases Nat.lt_or_ge i n with h1 | h1
        · exact bst_none D p n e i h1
        · obtain rfl : i = n := by omega
          simpa using hp
    | some b =>
      rw [e] at h
      dsimp only at h
      split at h <;> cases h
theorem bst_some (D : List Ver) (p : Ver → Bool) (h4 : ∀ x ∈ D, x.1.1.length = 4) : ∀ n b, n ≤ D.length → bst D p n = some b → b < n ∧ p (D.getD b vz) = true ∧ ∀ i, i < n → p (D.getD i vz) = true → C.ord (D.getD i vz).1 (D.getD b vz).1 ≤ 0
  | 0, b, _, h => by cases h
  | n + 1, b, hn, h => by
    have hl : ∀ i, i < D.length → (D.getD i vz).1.1.length = 4 := fun i hi => by
      rw [List.getD_eq_getElem?_getD, List.getElem?_eq_getElem hi]
      exact h4 _ (List.getElem_mem _)
    unfold bst at h
    cases e : bst D p n with
    | none =>
      rw [e] at h
      dsimp only at h
      have hnone := bst_none D p n e
      by_cases hp : p (D.getD n vz) = true
      · rw [if_pos hp] at h
        obtain rfl := Option.some.inj h
        refine ⟨by omega, hp, fun i hi hpi => ?_⟩
        rcases Nat.lt_or_ge i n with h1 | h1
        · rw [hnone i h1] at hpi; cases hpi
        · obtain rfl : i = n := by omega
          rw [C.ord_self]; omega
      · rw [if_neg hp] at h; cases h
    | some c =>
      rw [e] at h
      dsimp only at h
      obtain ⟨h1, h2, h3⟩ := bst_some D p h4 n c (by omega) e
      by_cases hp : p (D.getD n vz) = true ∧ 0 < C.ord (D.getD n vz).1 (D.getD c vz).1
      · rw [if_pos hp] at h
        obtain rfl := Option.some.inj h
        refine ⟨by omega, hp.1, fun i hi hpi => ?_⟩
        rcases Nat.lt_or_ge i n with h5 | h5
        · have h6 := h3 i h5 hpi
          have h7 : C.ord (D.getD c vz).1 (D.getD n vz).1 ≤ 0 := by
            rw [C.ord_anti (by rw [hl n (by omega), hl c (by omega)])]; omega
          exact C.ord_tr (by rw [hl i (by omega), hl c (by omega)]) (by rw [hl c (by omega), hl n (by omega)]) h6 h7
        · obtain rfl : i = n := by omega
          rw [C.ord_self]; omega
      · rw [if_neg hp] at h
        obtain rfl := Option.some.inj h
        refine ⟨by omega, h2, fun i hi hpi => ?_⟩
        rcases Nat.lt_or_ge i n with h5 | h5
        · exact h3 i h5 hpi
        · obtain rfl : i = n := by omega
          rcases Int.lt_or_le 0 (C.ord (D.getD i vz).1 (D.getD c vz).1) with h6 | h6
          · exact absurd ⟨hpi, h6⟩ hp
          · exact h6
/-- which of the list counts -/
def elig (n : Nm) (at_ : List Nat) (all : Bool) (x : Ver) : Bool := decide (dkey x = n) && (all || C.seen x.1 at_)
def lastD (D : List Ver) (n : Nm) (at_ : List Nat) (all : Bool) : Option Nat := bst D (elig n at_ all) D.length
theorem getD_mem (D : List Ver) (i : Nat) (h : i < D.length) : D.getD i vz ∈ D := by
  rw [List.getD_eq_getElem?_getD, List.getElem?_eq_getElem h]
  exact List.getElem_mem _
theorem mem_getD {D : List Ver} {x : Ver} (h : x ∈ D) : ∃ i, i < D.length ∧ D.getD i vz = x := by
  obtain ⟨i, hi, e⟩ := List.mem_iff_getElem.1 h
  exact ⟨i, hi, by rw [List.getD_eq_getElem?_getD, List.getElem?_eq_getElem hi]; exact e⟩
theorem Same.read {V : Vs} {D : List Ver} (h : Same V D) {n : Nm} (hu : C.Up (getV V n)) (at_ : List Nat) : C.read (getV V n) at_ = (lastD D n at_ false).map fun i => D.getD i vz := by
  cases e : lastD D n at_ false with
  | none =>
    show _ = none
    rw [C.read_none]
    intro x hx
    obtain ⟨h1, h2⟩ := (h.mem n x).1 hx
    obtain ⟨i, hi, rfl⟩ := mem_getD h1
    have := bst_none D _ _ e i hi
    unfold elig at this
    rw [decide_eq_true h2, Bool.true_and, Bool.false_or] at this
    exact this
  | some b =>
    obtain ⟨h1, h2, h3⟩ := bst_some D _ (fun x hx => (h.ok x hx).2) _ b (Nat.le_refl _) e
    unfold elig at h2
    rw [Bool.and_eq_true, decide_eq_true_eq, Bool.false_or] at h2
    refine hu.read_is ((h.mem n _).2 ⟨getD_mem D b h1, h2.1⟩) h2.2 (fun y hy hs => ?_)
    obtain ⟨h4, h5⟩ := (h.mem n y).1 hy
    obtain ⟨i, hi, rfl⟩ := mem_getD h4
    exact h3 i hi (by unfold elig; rw [decide_eq_true h5, Bool.true_and, Bool.false_or]; exact hs)
theorem Same.last {V : Vs} {D : List Ver} (h : Same V D) {n : Nm} (hu : C.Up (getV V n)) (at_ : List Nat) : (getV V n).getLast? = (lastD D n at_ true).map fun i => D.getD i vz := by
  cases e : lastD D n at_ true with
  | none =>
    show _ = none
    rw [List.getLast?_eq_none_iff]
    refine List.eq_nil_iff_forall_not_mem.2 fun x hx => ?_
    obtain ⟨h1, h2⟩ := (h.mem n x).1 hx
    obtain ⟨i, hi, rfl⟩ := mem_getD h1
    have := bst_none D _ _ e i hi
    unfold elig at this
    rw [decide_eq_true h2] at this
    cases this
  | some b =>
    obtain ⟨h1, h2, h3⟩ := bst_some D _ (fun x hx => (h.ok x hx).2) _ b (Nat.le_refl _) e
    unfold elig at h2
    rw [Bool.and_eq_true, decide_eq_true_eq] at h2
    have hm : D.getD b vz ∈ getV V n := (h.mem n _).2 ⟨getD_mem D b h1, h2.1⟩
    have hmax : ∀ y ∈ getV V n, C.ord y.1 (D.getD b vz).1 ≤ 0 := fun y hy => by
      obtain ⟨h4, h5⟩ := (h.mem n y).1 hy
      obtain ⟨i, hi, rfl⟩ := mem_getD h4
      exact h3 i hi (by unfold elig; rw [decide_eq_true h5]; rfl)
    cases e2 : (getV V n).getLast? with
    | none => rw [List.getLast?_eq_none_iff] at e2; rw [e2] at hm; cases hm
    | some z =>
      obtain ⟨hz, hz2⟩ := hu.last e2
      have a1 := hmax z hz
      have a2 := hz2 _ hm
      have a3 : C.ord z.1 (D.getD b vz).1 = 0 := by
        have := C.ord_anti (s := z.1) (t := (D.getD b vz).1) (by rw [hu.four z hz, hu.four _ hm])
        omega
      exact congrArg some (hu.one hz hm (C.ord_zero.1 a3))
/-- what a pruning leaves of the first so many -/
def keepI (D : List Ver) (h : List Nat) (i : Nat) : Bool := !C.seen (D.getD i vz).1 h || decide (lastD D (dkey (D.getD i vz)) h false = some i)
def prD (D : List Ver) (h : List Nat) : Nat → List Ver
  | 0 => []
  | i + 1 => prD D h i ++ if keepI D h i = true then [D.getD i vz] else []
theorem mem_prD (D : List Ver) (h : List Nat) (x : Ver) : ∀ n, x ∈ prD D h n ↔ ∃ i, i < n ∧ keepI D h i = true ∧ D.getD i vz = x
  | 0 => by
    show x ∈ [] ↔ _
    simp
  | n + 1 => by
    show x ∈ prD D h n ++ _ ↔ _
    rw [List.mem_append, mem_prD D h x n]
    constructor
    · rintro (⟨i, hi, a, b⟩ | hx)
      · exact ⟨i, by omega, a, b⟩
      · split at hx
        · exact ⟨n, by omega, by assumption, (List.mem_singleton.1 hx).symm⟩
        · cases hx
    · rintro ⟨i, hi, a, b⟩
      rcases Nat.lt_or_ge i n with h1 | h1
      · exact .inl ⟨i, h1, a, b⟩
      · obtain rfl : i = n := by omega
        rw [if_pos a]
        exact .inr (by rw [b]; exact List.mem_singleton.2 rfl)
theorem prD_sub (D : List Ver) (h : List Nat) : ∀ n, n ≤ D.length → (prD D h n).Sublist (D.take n)
  | 0, _ => .slnil
  | n + 1, hn => by
    rw [List.take_succ_eq_append_getElem (by omega)]
    refine (prD_sub D h n (by omega)).append ?_
    have e : D.getD n vz = D[n] := by rw [List.getD_eq_getElem?_getD, List.getElem?_eq_getElem (by omega)]; rfl
    rw [e]
    split
    · exact List.Sublist.refl _
    · exact List.nil_sublist _
theorem Same.prune {V : Vs} {D : List Ver} (hs : Same V D) (hu : ∀ n, C.Up (getV V n)) (h : List Nat) : Same (prA V h) (prD D h D.length) := by
  have hsub : (prD D h D.length).Sublist D := by
    have := prD_sub D h D.length (Nat.le_refl _)
    rwa [List.take_length] at this
  refine ⟨fun n x => ?_, hs.uniq.sublist hsub, fun x hx => hs.ok x (hsub.subset hx)⟩
  rw [getV_prA, mem_prD]
  have hrd := hs.read (hu n) h
  constructor
  · intro hx
    have hxm : x ∈ getV V n := by
      cases e : C.read (getV V n) h with
      | none => rw [C.keep_none e] at hx; exact hx
      | some b => exact ((C.mem_keep e x).1 hx).1
    obtain ⟨h1, h2⟩ := (hs.mem n x).1 hxm
    obtain ⟨i, hi, rfl⟩ := mem_getD h1
    refine ⟨⟨i, hi, ?_, rfl⟩, h2⟩
    unfold keepI
    rw [h2]
    cases e : C.read (getV V n) h with
    | none =>
      rw [C.read_none] at e
      rw [e _ hxm]; rfl
    | some b =>
      rcases ((C.mem_keep e _).1 hx).2 with h3 | h3
      · rw [h3]; rfl
      · rw [e] at hrd
        cases e2 : lastD D n h false with
        | none => rw [e2] at hrd; cases hrd
        | some j =>
          rw [e2] at hrd
          have hb : b = D.getD j vz := Option.some.inj hrd
          obtain ⟨g1, g2, g3⟩ := bst_some D _ (fun x hx => (hs.ok x hx).2) _ j (Nat.le_refl _) e2
          unfold elig at g2
          rw [Bool.and_eq_true, decide_eq_true_eq] at g2
          have hij : i = j := by
            rcases Nat.lt_trichotomy i j with h4 | h4 | h4
            · have := List.pairwise_iff_getElem.1 hs.uniq i j hi g1 h4
              refine absurd ⟨?_, ?_⟩ this
              · rw [hb] at h3
                rw [List.getD_eq_getElem?_getD, List.getElem?_eq_getElem hi, List.getD_eq_getElem?_getD, List.getElem?_eq_getElem g1] at h3
                exact h3
              · rw [List.getD_eq_getElem?_getD, List.getElem?_eq_getElem hi] at h2
                have g4 := g2.1
                rw [List.getD_eq_getElem?_getD, List.getElem?_eq_getElem g1] at g4
                exact h2.trans g4.symm
            · exact h4
            · have := List.pairwise_iff_getElem.1 hs.uniq j i g1 hi h4
              refine absurd ⟨?_, ?_⟩ this
              · rw [hb] at h3
                rw [List.getD_eq_getElem?_getD, List.getElem?_eq_getElem hi, List.getD_eq_getElem?_getD, List.getElem?_eq_getElem g1] at h3
                exact h3.symm
              · rw [List.getD_eq_getElem?_getD, List.getElem?_eq_getElem hi] at h2
                have g4 := g2.1
                rw [List.getD_eq_getElem?_getD, List.getElem?_eq_getElem g1] at g4
                exact g4.trans h2.symm
          rw [hij]
          simp
  · rintro ⟨⟨i, hi, hk, rfl⟩, h2⟩
    have hxm : D.getD i vz ∈ getV V n := (hs.mem n _).2 ⟨getD_mem D i hi, h2⟩
    cases e : C.read (getV V n) h with
    | none => rw [C.keep_none e]; exact hxm
    | some b =>
      refine (C.mem_keep e _).2 ⟨hxm, ?_⟩
      unfold keepI at hk
      rw [Bool.or_eq_true, decide_eq_true_eq, h2] at hk
      rcases hk with hk | hk
      · exact .inl (by simpa using hk)
      · rw [hk, e] at hrd
        exact .inr (by rw [Option.some.inj hrd])
theorem part_sum {N : List Nm} (hN : N.Nodup) : ∀ (D : List Ver), (∀ x ∈ D, dkey x ∈ N) → D.length = (N.map fun n => (D.filter fun x => decide (dkey x = n)).length).sum
  | [], _ => by
    have : ∀ N : List Nm, (N.map fun _ => (0 : Nat)).sum = 0 := fun N => by induction N with | nil => rfl | cons a N ih => simpa using ih
    simp [this]
  | x :: D, h => by
    classical
    have ih := part_sum hN D (fun y hy => h y (List.mem_cons_of_mem _ hy))
    have hx := h x (List.mem_cons_self ..)
    have key : ∀ (N : List Nm), N.Nodup → (N.map fun n => ((x :: D).filter fun y => decide (dkey y = n)).length).sum = (N.map fun n => (D.filter fun y => decide (dkey y = n)).length).sum + if dkey x ∈ N then 1 else 0 := by
      intro N
      induction N with
      | nil => intro _; simp
      | cons a N ihN =>
        intro hnd
        obtain ⟨ha, hnd'⟩ := List.nodup_cons.1 hnd
        rw [List.map_cons, List.map_cons, List.sum_cons, List.sum_cons, ihN hnd', List.filter_cons]
        by_cases e : dkey x = a
        · subst e
          rw [if_pos (by simp), List.length_cons, if_pos (List.mem_cons_self ..), if_neg ha]
          omega
        · rw [if_neg (by simpa using e)]
          have : (dkey x ∈ a :: N) ↔ dkey x ∈ N := by simp [e]
          by_cases e2 : dkey x ∈ N
          · rw [if_pos e2, if_pos (this.2 e2)]; omega
          · rw [if_neg e2, if_neg (fun h => e2 (this.1 h))]; omega
    rw [key N hN, if_pos hx, ← ih]
    rfl
theorem Same.tot {V : Vs} {D : List Ver} (h : Same V D) (hn : (V.map (·.1)).Nodup) (hu : ∀ n, C.Up (getV V n)) : tot V = D.length := by
  rw [tot_by hn, part_sum hn D (fun x hx => ?_)]
  · congr 1
    refine List.map_congr_left fun n _ => ?_
    refine List.Perm.length_eq ((List.perm_ext_iff_of_nodup ?_ ?_).2 fun x => ?_)
    · exact (hu n).up.imp fun {a b} hab e => by rw [e, C.ord_self] at hab; omega
    · exact List.Pairwise.filter _ (h.uniq.imp fun {a b} hab e => hab ⟨by rw [e], by rw [e]⟩)
    · rw [h.mem, List.mem_filter, decide_eq_true_eq]
  · have hm := (h.mem (dkey x) x).2 ⟨hx, rfl⟩
    by_cases e : dkey x ∈ V.map (·.1)
    · exact e
    · rw [getV_not V _ e] at hm; cases hm
end Go.Proofs.Ytohcdonmdnjgoaa.Sd

namespace Go.Proofs.Ytohcdonmdnjgoaa.Sp

open Go.RowKit Go.Proofs.Ytohcdonmdnjgoaa.Vc

set_option linter.unusedVariables false

set_option linter.unusedSimpArgs false

set_option maxRecDepth 100000

set_option maxHeartbeats 4000000 in
theorem ref_sn (a : List Nat) (d : Int) (w : World) (ha : a.length = 4) :
    Calls Try.prog 41 #[SV a d] w fun e w' => e = .returned (.int .u64 (V.at_ a d : Nat)) ∧ Below w.heap.size w w' := by
  have HI := Lib.hid (size_r ha)
  have HA := Lib.hid ha
  have C := Lib.hid (fun w => ref_at a d w ha)
  obtain ⟨x, HX⟩ : ∃ r, Hid (V.at_ a d = r) := ⟨_, rfl⟩
  rw [HX.out] at C ⊢
  clear ha
  go_enter Try.func41, Try.ntmps41
  go_wp2_with (first | refine blk_box rfl 61 _ rfl (ks .u64 a ++ [Value.int .i64 d]) rfl ?_)
  intro w1 A1 B1 Z1
  have HR := Lib.hid (rowp A1)
  have c := dc_cell A1 HA.out
  have HB1 : Hid (Below w.heap.size w w1) := B1
  clear A1 B1 Z1
  go_wp2_with (first | refine row_load rfl .u64 57 _ rfl w.heap.size 0 rfl a HR.out 4 31 Try.underlying57 HI.out ?_)
  refine (C.out _).mono ?_; rintro e w2 ⟨rfl, hb2⟩
  have HB2 : Hid (Below w.heap.size w w2) := Below.trans HB1.out (hb2.mono HB1.out.size)
  clear hb2 c
  go_wp2_with fail
  go_ret
  exact ⟨rfl, HB2.out⟩
set_option maxHeartbeats 1000000 in
theorem ref_sright (a : List Nat) (d : Int) (w : World) (ha : a.length = 4) :
    Calls Try.prog 53 #[SV a d] w fun e w' => e = .returned (.bool (T.right a d)) ∧ Below w.heap.size w w' := by
  have HI := Lib.hid (size_r ha)
  have HS := Lib.hid (size_rs (d := d) ha)
  have C := Lib.hid (fun w => ref_right a w ha)
  have CN := Lib.hid (fun w => ref_sn a d w ha)
  unfold T.right
  clear ha
  cases hr : V.right a with
  | false =>
    rw [hr] at C
    clear hr CN
    show Calls _ _ _ _ fun e w' => e = .returned (.bool false) ∧ _
    go_enter Try.func53, Try.ntmps53
    go_wp2_with (first | refine blk_box rfl 61 _ rfl (ks .u64 a ++ [Value.int .i64 d]) rfl ?_)
    intro w1 A1 B1 Z1
    have HR := Lib.hid (rowp A1)
    have HB1 : Hid (Below w.heap.size w w1) := B1
    clear A1 B1 Z1
    go_wp2_with (first | refine row_load rfl .u64 57 _ rfl w.heap.size 0 rfl a HR.out 4 31 Try.underlying57 HI.out ?_)
    refine (C.out _).mono ?_; rintro e w2 ⟨rfl, hb2⟩
    have HB2 : Hid (Below w.heap.size w w2) := Below.trans HB1.out (hb2.mono HB1.out.size)
    clear hb2
    go_wp2_with fail
    go_ret
    exact ⟨rfl, HB2.out⟩
  | true =>
    rw [hr] at C
    clear hr
    obtain ⟨x, HX⟩ : ∃ r, Hid (V.at_ a d = r) := ⟨_, rfl⟩
    rw [HX.out] at CN ⊢
    obtain ⟨q, HQ⟩ : ∃ r, Hid (decide (1 ≤ x) = r) := ⟨_, rfl⟩
    have hq : decide ((1 : Int) ≤ (x : Int)) = q := by rw [← HQ.out]; exact decide_eq_decide.2 (by omega)
    show Calls _ _ _ _ fun e w' => e = .returned (.bool (decide (1 ≤ x))) ∧ _
    rw [HQ.out]
    go_enter Try.func53, Try.ntmps53
    go_wp2_with (first | refine blk_box rfl 61 _ rfl (ks .u64 a ++ [Value.int .i64 d]) rfl ?_)
    intro w1 A1 B1 Z1
    have HR := Lib.hid (rowp A1)
    have HA1 : Hid (Blk w1 w.heap.size (ks .u64 a ++ [Value.int .i64 d])) := A1
    have HZ1 : Hid (w.heap.size < w1.heap.size) := by show _ < _; omega
    have HB1 : Hid (Below w.heap.size w w1) := B1
    clear A1 B1 Z1
    go_wp2_with (first | refine row_load rfl .u64 57 _ rfl w.heap.size 0 rfl a HR.out 4 31 Try.underlying57 HI.out ?_)
    refine (C.out _).mono ?_; rintro e w2 ⟨rfl, hb2⟩
    have HB2 : Hid (Below w.heap.size w w2) := Below.trans HB1.out (hb2.mono HB1.out.size)
    have HA2 : Hid (Blk w2 w.heap.size (ks .u64 a ++ [Value.int .i64 d])) := Blk.below HA1.out hb2 HZ1.out
    clear hb2 HR HA1
    go_wp2_with (first | refine blk_loadg rfl 61 _ rfl w.heap.size rfl (ks .u64 a ++ [Value.int .i64 d]) HA2.out _ Try.underlying61 rfl HS.out ?_)
    refine (CN.out _).mono ?_; rintro e w3 ⟨rfl, hb3⟩
    have HB3 : Hid (Below w.heap.size w w3) := Below.trans HB2.out (hb3.mono HB2.out.size)
    clear hb3
    go_wp2_with fail
    go_ret
    exact ⟨rfl, HB3.out⟩
set_option maxHeartbeats 1000000 in
theorem ref_sseen (a b : List Nat) (d : Int) (w : World) (ha : a.length = 4) (hb : b.length = 4) :
    Calls Try.prog 46 #[SV a d, AV .u64 b] w fun e w' => e = .returned (.bool (V.leq a b)) ∧ Below w.heap.size w w' := by
  have HI := Lib.hid (size_r ha)
  have HIb := Lib.hid (size_r hb)
  have C := Lib.hid (fun w => ref_leq a b w ha hb)
  generalize V.leq a b = q at *
  clear ha hb
  go_enter Try.func46, Try.ntmps46
  go_wp2_with (first | refine blk_box rfl 61 _ rfl (ks .u64 a ++ [Value.int .i64 d]) rfl ?_)
  intro w1 A1 B1 Z1
  go_wp2_with (first | refine arr_box rfl .u64 57 _ rfl b rfl ?_)
  intro w2 A2 B2 Z2
  have HR := Lib.hid (rowp (Blk.below A1 B2 (by omega)))
  have HA2 : Hid (Arr .u64 w2 (w.heap.size + 1) b) := A2
  have HB2 : Hid (Below w.heap.size w w2) := B1.trans (B2.mono (by omega))
  clear A1 B1 Z1 A2 B2 Z2
  go_wp2_with (first | refine row_load rfl .u64 57 _ rfl w.heap.size 0 rfl a HR.out 4 31 Try.underlying57 HI.out ?_ | refine arr_load rfl .u64 57 _ rfl (w.heap.size + 1) rfl b HA2.out 4 31 Try.underlying57 HIb.out ?_)
  refine (C.out _).mono ?_; rintro e w3 ⟨rfl, hb3⟩
  have HB3 : Hid (Below w.heap.size w w3) := Below.trans HB2.out (hb3.mono HB2.out.size)
  clear hb3
  go_wp2_with fail
  go_ret
  exact ⟨rfl, HB3.out⟩
end Go.Proofs.Ytohcdonmdnjgoaa.Sp

namespace Go.Proofs.Ytohcdonmdnjgoaa.Sd

open Go.RowKit Go.Proofs.Ytohcdonmdnjgoaa.Vc Go.Proofs.Ytohcdonmdnjgoaa.Sp Go.Proofs.Ytohcdonmdnjgoaa.Rw Go.Proofs.Ytohcdonmdnjgoaa.Ch Go.Proofs.Ytohcdonmdnjgoaa.Se Go.Proofs.Ytohcdonmdnjgoaa.It Go.Proofs.Ytohcdonmdnjgoaa.Mk

set_option linter.unusedVariables false

set_option linter.unusedSimpArgs false

set_option maxRecDepth 100000

theorem elem_rv : Try.prog.elem 76 = 107 := by kernel_rfl
theorem size_rv (w : World) : (sizeOf 107).run Try.prog w = .ok 9 w := by
  have h : (Try.prog.info? 107).map (·.size) = some 9 := by kernel_rfl
  obtain ⟨i, hi, hb⟩ := Option.map_eq_some_iff.1 h
  simp [sizeOf, typeInfo, hi, hb]
theorem index_rv (b o n cap j : Nat) (hj : j < n) (w : World) : (Instr.indexAt 76 (.slice (some ⟨b, o, none⟩) n cap) (.int .i64 (j : Int))).run Try.prog w = .ok (.pointer (some ⟨b, o + 9 * j, none⟩)) w :=
  run_index elem_rv Try.underlying76 size_rv b o n cap j hj w
theorem toList_ne {a b : ByteArray} (h : ¬ a = b) : ¬ a.toList = b.toList := fun e => h (by
  rw [ByteArray.toList_eq, ByteArray.toList_eq] at e
  exact ByteArray.ext (Array.toList_inj.1 e))
/-- its fields -/
def rfv (room : Nat) (wv lv : Value) (A : List Nat) : List Value := [Value.int .i64 (room : Int), wv, lv] ++ ks .u64 A
def vrow (D : List Ver) (w : World) (base : Nat) (lv : Value) : Prop := OR (vk wrt) 107 w base lv D
def bi : Option Nat → Int
  | none => -1
  | some i => (i : Int)
theorem ver_cf (a0 a1 a2 a3 : Nat) (d : Int) (xb xk xv : ByteArray) (xg : Bool) : (vk wrt).cf ((([a0, a1, a2, a3], d), (xb, xk, xv, xg)) : Ver) = [Value.int .u64 (a0 : Int), .int .u64 (a1 : Int), .int .u64 (a2 : Int), .int .u64 (a3 : Int), .int .i64 d, .string xb, .string xk, .string xv, .bool xg] := rfl
theorem bst_step (D : List Ver) (p : Ver → Bool) (i : Nat) : bst D p (i + 1) = match bst D p i with
    | none => if p (D.getD i vz) = true then some i else none
    | some b => if p (D.getD i vz) = true ∧ 0 < C.ord (D.getD i vz).1 (D.getD b vz).1 then some i else some b := rfl
set_option maxHeartbeats 16000000 in
theorem rlast (b room : Nat) (wv lv : Value) (A : List Nat) (D : List Ver) (base : Nat) (k1 k2 : ByteArray) (at_ : List Nat) (all : Bool) (w : World) (hB : Blk w b (rfv room wv lv A)) (hL : OR (vk wrt) 107 w base lv D) (hD : ∀ x ∈ D, x.1.1.length = 4) (hn : D.length < 1000) (ha : at_.length = 4) :
    Calls Try.prog 45 #[.pointer (some ⟨b, 0, none⟩), .string k1, .string k2, AV .u64 at_, .bool all] w fun e w' => e = .returned (.int .i64 (bi (lastD D (k1, k2) at_ all))) ∧ Below w.heap.size w w' := by
  have HBB := Lib.hid hB
  have HLL := Lib.hid hL
  have HD4 := Lib.hid hD
  obtain ⟨sl, cl, ev, _⟩ := hL.is.is
  obtain ⟨n, HN⟩ : ∃ n, Hid (D.length = n) := ⟨_, rfl⟩
  rw [HN.out] at ev hn
  subst ev
  have hbl : b < w.heap.size := blk_lt hB
  have HCC : Hid (∀ u, Below w.heap.size w u → u.cell? ⟨b, 2, none⟩ = some (.slice sl n cl)) := fun u hu => (HBB.out.below hu hbl).cell 2 _ rfl
  obtain ⟨h0, h1, h2, h3, rfl⟩ := V.four ha
  obtain ⟨R, HRR⟩ : ∃ R, Hid (lastD D (k1, k2) [h0, h1, h2, h3] all = R) := ⟨_, rfl⟩
  rw [HRR.out]
  have HLD : Hid (bst D (elig (k1, k2) [h0, h1, h2, h3] all) n = R) := by show _ = _; rw [← HRR.out, ← HN.out]; rfl
  clear hB hL hD ha hbl
  go_enter Try.func45, Try.ntmps45
  go_wp2_with (first | refine blk_box rfl 57 _ rfl (ks .u64 [h0, h1, h2, h3]) rfl ?_)
  intro w1 A1 B1 Z1
  obtain ⟨bh, HBH⟩ : ∃ b, Hid (w.heap.size = b) := ⟨_, rfl⟩
  have S1 : Hid (Sep w w1 [rB bh (ks .u64 [h0, h1, h2, h3])]) := by show Sep _ _ _; rw [← HBH.out]; exact (Sep.start w).box B1 Z1 A1
  rw [HBH.out]
  clear A1 B1 Z1 HBH
  go_wp2_with fail
  go_loopw [12, 11] (fun iv zv wr => ∃ (i : Nat) (z : Int), i ≤ n ∧ iv = .int .i64 (i : Int) ∧ zv = .int .i64 z ∧ Hid (z = bi (bst D (elig (k1, k2) [h0, h1, h2, h3] all) i)) ∧ Hid (Sep w wr [rB bh (ks .u64 [h0, h1, h2, h3])])) (fun iv _ _ => n - (intOf iv).toNat)
  case atStart => exact ⟨0, -1, by omega, rfl, rfl, rfl, S1⟩
  case round =>
    obtain ⟨i, z, hin, rfl, rfl, HZI, Sr⟩ := hrel
    clear S1
    have cc := HCC.out _ Sr.out.under
    by_cases hlt : i < n
    · have i1 : (i : Int) < (n : Int) := by omega
      have hxi := C.getD_some (show i < D.length by rw [HN.out]; exact hlt) vz
      have hx4 := HD4.out _ (List.mem_of_getElem? hxi)
      obtain ⟨g, og, c9, hv, hg, _⟩ := IsR.at (HLL.out.below Sr.out.under).is i (by rw [HN.out]; exact hlt)
      obtain rfl : sl = some ⟨g, og, none⟩ := by injection hv
      have HRW : Hid (∀ u, Below w.heap.size w u → ∀ j, j < n → u.rangeAt g (og + 9 * j) ((vk wrt).cf (D.getD j vz))) := fun u hu j hj => by
        obtain ⟨g2, o2, c2, hv2, _, hr2⟩ := IsR.at (HLL.out.below hu).is j (by rw [HN.out]; exact hj)
        have hg6 : (some ⟨g, og, none⟩ : Option Addr) = some ⟨g2, o2, none⟩ := by injection hv2
        simp only [Option.some.injEq, Addr.mk.injEq, and_true] at hg6
        obtain ⟨rfl, rfl⟩ := hg6
        exact hr2
      have HIX : Hid (∀ j, j < n → ∀ w, (Instr.indexAt 76 (.slice (some ⟨g, og, none⟩) n cl) (.int .i64 (j : Int))).run Try.prog w = .ok (.pointer (some ⟨g, og + 9 * j, none⟩)) w) := fun j hj w => index_rv g og n cl j hj w
      have HST := Lib.hid (bst_step D (elig (k1, k2) [h0, h1, h2, h3] all) i)
      obtain ⟨x, HX⟩ : ∃ x, Hid (D.getD i vz = x) := ⟨_, rfl⟩
      have hrx := fun u hu => HRW.out u hu i hlt
      rw [HX.out] at hrx hx4 HST
      clear hxi hv hg
      obtain ⟨⟨lx, d⟩, xb, xk, xv, xg⟩ := x
      dsimp only at hx4
      obtain ⟨a0, a1, a2, a3, rfl⟩ := V.four hx4
      have HRX : Hid (∀ u, Below wr.heap.size wr u → u.rangeAt g (og + 9 * i) [Value.int .u64 (a0 : Int), .int .u64 (a1 : Int), .int .u64 (a2 : Int), .int .u64 (a3 : Int), .int .i64 d, .string xb, .string xk, .string xv, .bool xg]) := fun u hu => hrx u (Below.trans Sr.out.under (hu.mono Sr.out.size))
      have HC2 : Hid (∀ u, Below wr.heap.size wr u → u.cell? ⟨b, 2, none⟩ = some (.slice (some ⟨g, og, none⟩) n cl)) := fun u hu => HCC.out u (Below.trans Sr.out.under (hu.mono Sr.out.size))
      have HEL : Hid (elig (k1, k2) [h0, h1, h2, h3] all (((([a0, a1, a2, a3], d) : C.St), (xb, xk, xv, xg)) : Ver) = (decide (((xb, xk) : Nm) = (k1, k2)) && (all || V.leq [a0, a1, a2, a3] [h0, h1, h2, h3]))) := rfl
      clear hrx
      by_cases hb : xb = k1
      · by_cases hk : xk = k2
        · subst hb
          subst hk
          have hdec : decide (((xb, xk) : Nm) = (xb, xk)) = true := by simp
          cases all with
          | true =>
            go_wp2_with fail
            refine region_w Try.mixed (by kernel_rfl) ?_
            refine w_value rfl (.pointer (some ⟨b, 0, none⟩)) (fun u hu => by go_simp) (fun K hK => ?_)
            go_simp
            refine hK _ ?_
            clear hK K
            refine w_value rfl (.pointer (some ⟨b, 0, none⟩)) (fun u hu => by go_simp) (fun K hK => ?_)
            go_simp
            refine hK _ ?_
            clear hK K
            refine w_value rfl (.pointer (some ⟨b, 2, none⟩)) (fun u hu => by go_simp) (fun K hK => ?_)
            go_simp
            refine hK _ ?_
            clear hK K
            refine w_value rfl (.slice (some ⟨g, og, none⟩) n cl) (fun u hu => by have hc := HC2.out u hu; go_simp) (fun K hK => ?_)
            go_simp
            refine hK _ ?_
            clear hK K
            refine w_value rfl (.int .i64 (i : Int)) (fun u hu => by go_simp) (fun K hK => ?_)
            go_simp
            refine hK _ ?_
            clear hK K
            refine w_value rfl (.pointer (some ⟨g, og + 9 * i, none⟩)) (fun u hu => by have h9 := HIX.out i hlt u; go_simp) (fun K hK => ?_)
            go_simp
            refine hK _ ?_
            clear hK K
            refine w_value rfl (.pointer (some ⟨g, og + 9 * i + 5, none⟩)) (fun u hu => by go_simp) (fun K hK => ?_)
            go_simp
            refine hK _ ?_
            clear hK K
            refine w_value rfl (.pointer (some ⟨g, og + 9 * i + 5, none⟩)) (fun u hu => by go_simp) (fun K hK => ?_)
            go_simp
            refine hK _ ?_
            clear hK K
            refine w_value rfl (.string xb) (fun u hu => by have hc := HRX.out u hu 5 _ rfl; go_simp) (fun K hK => ?_)
            go_simp
            refine hK _ ?_
            clear hK K
            refine w_value rfl (.string xb) (fun u hu => by go_simp) (fun K hK => ?_)
            go_simp
            refine hK _ ?_
            clear hK K
            refine w_value rfl (.bool false) (fun u hu => by go_simp) (fun K hK => ?_)
            go_simp
            refine hK _ ?_
            clear hK K
            refine w_value rfl (.bool false) (fun u hu => by go_simp) (fun K hK => ?_)
            go_simp
            refine hK _ ?_
            clear hK K
            refine wg_value rfl (.pointer (some ⟨b, 0, none⟩)) (fun u hu => by go_simp) (fun K hK => ?_)
            go_simp
            refine hK _ ?_
            clear hK K
            refine wg_value rfl (.pointer (some ⟨b, 0, none⟩)) (fun u hu => by go_simp) (fun K hK => ?_)
            go_simp
            refine hK _ ?_
            clear hK K
            refine wg_value rfl (.pointer (some ⟨b, 2, none⟩)) (fun u hu => by go_simp) (fun K hK => ?_)
            go_simp
            refine hK _ ?_
            clear hK K
            refine wg_value rfl (.slice (some ⟨g, og, none⟩) n cl) (fun u hu => by have hc := HC2.out u hu; go_simp) (fun K hK => ?_)
            go_simp
            refine hK _ ?_
            clear hK K
            refine wg_value rfl (.int .i64 (i : Int)) (fun u hu => by go_simp) (fun K hK => ?_)
            go_simp
            refine hK _ ?_
            clear hK K
            refine wg_value rfl (.pointer (some ⟨g, og + 9 * i, none⟩)) (fun u hu => by have h9 := HIX.out i hlt u; go_simp) (fun K hK => ?_)
            go_simp
            refine hK _ ?_
            clear hK K
            refine wg_value rfl (.pointer (some ⟨g, og + 9 * i + 5, none⟩)) (fun u hu => by go_simp) (fun K hK => ?_)
            go_simp
            refine hK _ ?_
            clear hK K
            refine wg_value rfl (.pointer (some ⟨g, og + 9 * i + 6, none⟩)) (fun u hu => by go_simp) (fun K hK => ?_)
            go_simp
            refine hK _ ?_
            clear hK K
            refine wg_value rfl (.string xk) (fun u hu => by have hc := HRX.out u hu 6 _ rfl; go_simp) (fun K hK => ?_)
            go_simp
            refine hK _ ?_
            clear hK K
            refine wg_value rfl (.string xk) (fun u hu => by go_simp) (fun K hK => ?_)
            go_simp
            refine hK _ ?_
            clear hK K
            refine wg_value rfl (.bool false) (fun u hu => by go_simp) (fun K hK => ?_)
            go_simp
            refine hK _ ?_
            clear hK K
            refine w_value rfl (.bool false) (fun u hu => by go_simp) (fun K hK => ?_)
            go_simp
            refine hK _ ?_
            clear hK K
            refine w_value rfl (.bool false) (fun u hu => by go_simp) (fun K hK => ?_)
            go_simp
            refine hK _ ?_
            clear hK K
            refine wg_value rfl (.bool true) (fun u hu => by go_simp) (fun K hK => ?_)
            go_simp
            refine hK _ ?_
            clear hK K
            refine wg_value rfl (.bool false) (fun u hu => by go_simp) (fun K hK => ?_)
            go_simp
            refine hK _ ?_
            clear hK K
            refine wg_value rfl (.bool false) (fun u hu => by go_simp) (fun K hK => ?_)
            go_simp
            refine hK _ ?_
            clear hK K
            refine w_skip 27 true (some false) rfl rfl rfl (fun K hK => ?_)
            go_simp
            refine hK _ ?_
            clear hK K
            refine w_skip 27 true (some false) rfl rfl rfl (fun K hK => ?_)
            go_simp
            refine hK _ ?_
            clear hK K
            refine w_skip 27 true (some false) rfl rfl rfl (fun K hK => ?_)
            go_simp
            refine hK _ ?_
            clear hK K
            refine w_skip 27 true (some false) rfl rfl rfl (fun K hK => ?_)
            go_simp
            refine hK _ ?_
            clear hK K
            refine w_skip 27 true (some false) rfl rfl rfl (fun K hK => ?_)
            go_simp
            refine hK _ ?_
            clear hK K
            refine w_skip 27 true (some false) rfl rfl rfl (fun K hK => ?_)
            go_simp
            refine hK _ ?_
            clear hK K
            refine w_skip 27 true (some false) rfl rfl rfl (fun K hK => ?_)
            go_simp
            refine hK _ ?_
            clear hK K
            refine w_skip 27 true (some false) rfl rfl rfl (fun K hK => ?_)
            go_simp
            refine hK _ ?_
            clear hK K
            refine w_skip 27 true (some false) rfl rfl rfl (fun K hK => ?_)
            go_simp
            refine hK _ ?_
            clear hK K
            refine w_skip 27 true (some false) rfl rfl rfl (fun K hK => ?_)
            go_simp
            refine hK _ ?_
            clear hK K
            refine w_skip 27 true (some false) rfl rfl rfl (fun K hK => ?_)
            go_simp
            refine hK _ ?_
            clear hK K
            refine wg_value rfl (.bool false) (fun u hu => by go_simp) (fun K hK => ?_)
            go_simp
            refine hK _ ?_
            clear hK K
            refine w_value rfl (.bool false) (fun u hu => by go_simp) (fun K hK => ?_)
            go_simp
            refine hK _ ?_
            clear hK K
            refine w_nil ?_
            intro u hu
            have S2 := Lib.hid (Sr.out.below hu)
            obtain ⟨r, HR⟩ : ∃ r, Hid (bst D (elig (xb, xk) [h0, h1, h2, h3] true) i = r) := ⟨_, rfl⟩
            rw [HR.out] at HZI HST
            cases r with
            | none =>
              have hz : z = -1 := HZI.out
              subst hz
              have HZ2 : Hid ((i : Int) = bi (bst D (elig (xb, xk) [h0, h1, h2, h3] true) (i + 1))) := by
                show _ = _
                rw [HST.out]
                dsimp only
                rw [HEL.out, if_pos (by simp)]
                rfl
              have cc2 := HCC.out _ S2.out.under
              go_wp2_with fail
              refine region_w Try.mixed (by kernel_rfl) ?_
              refine w_value rfl (.int .i64 (-1)) (fun u hu => by go_simp) (fun K hK => ?_)
              go_simp
              refine hK _ ?_
              clear hK K
              refine w_value rfl (.bool true) (fun u hu => by go_simp) (fun K hK => ?_)
              go_simp
              refine hK _ ?_
              clear hK K
              refine w_value rfl (.bool true) (fun u hu => by go_simp) (fun K hK => ?_)
              go_simp
              refine hK _ ?_
              clear hK K
              refine w_skip 2 false (some true) rfl rfl rfl (fun K hK => ?_)
              go_simp
              refine hK _ ?_
              clear hK K
              refine w_skip 2 false (some true) rfl rfl rfl (fun K hK => ?_)
              go_simp
              refine hK _ ?_
              clear hK K
              refine w_skip 2 false (some true) rfl rfl rfl (fun K hK => ?_)
              go_simp
              refine hK _ ?_
              clear hK K
              refine w_skip 2 false (some true) rfl rfl rfl (fun K hK => ?_)
              go_simp
              refine hK _ ?_
              clear hK K
              refine w_skip 2 false (some true) rfl rfl rfl (fun K hK => ?_)
              go_simp
              refine hK _ ?_
              clear hK K
              refine w_skip 2 false (some true) rfl rfl rfl (fun K hK => ?_)
              go_simp
              refine hK _ ?_
              clear hK K
              refine w_skip 2 false (some true) rfl rfl rfl (fun K hK => ?_)
              go_simp
              refine hK _ ?_
              clear hK K
              refine w_skip 2 false (some true) rfl rfl rfl (fun K hK => ?_)
              go_simp
              refine hK _ ?_
              clear hK K
              refine w_skip 2 false (some true) rfl rfl rfl (fun K hK => ?_)
              go_simp
              refine hK _ ?_
              clear hK K
              refine w_skip 2 false (some true) rfl rfl rfl (fun K hK => ?_)
              go_simp
              refine hK _ ?_
              clear hK K
              refine w_skip 2 false (some true) rfl rfl rfl (fun K hK => ?_)
              go_simp
              refine hK _ ?_
              clear hK K
              refine w_skip 2 false (some true) rfl rfl rfl (fun K hK => ?_)
              go_simp
              refine hK _ ?_
              clear hK K
              refine w_skip 2 false (some true) rfl rfl rfl (fun K hK => ?_)
              go_simp
              refine hK _ ?_
              clear hK K
              refine w_skip 2 false (some true) rfl rfl rfl (fun K hK => ?_)
              go_simp
              refine hK _ ?_
              clear hK K
              refine w_skip 2 false (some true) rfl rfl rfl (fun K hK => ?_)
              go_simp
              refine hK _ ?_
              clear hK K
              refine w_skip 2 false (some true) rfl rfl rfl (fun K hK => ?_)
              go_simp
              refine hK _ ?_
              clear hK K
              refine w_skip 2 false (some true) rfl rfl rfl (fun K hK => ?_)
              go_simp
              refine hK _ ?_
              clear hK K
              refine w_skip 2 false (some true) rfl rfl rfl (fun K hK => ?_)
              go_simp
              refine hK _ ?_
              clear hK K
              refine w_value rfl (.bool true) (fun u hu => by go_simp) (fun K hK => ?_)
              go_simp
              refine hK _ ?_
              clear hK K
              refine w_nil ?_
              intro u2 hu2
              have S3 := Lib.hid (S2.out.below hu2)
              go_wp2_with fail
              go_roundw
              case rel => exact ⟨i + 1, _, by omega, by go_num, rfl, HZ2, S3⟩
              case measure => simp [intOf]; omega
            | some c =>
              have hz : z = (c : Int) := HZI.out
              subst hz
              obtain ⟨hc1, _, _⟩ := bst_some D _ HD4.out i c (by rw [HN.out]; omega) HR.out
              have hcn : c < n := by omega
              have hcl := HD4.out _ (getD_mem D c (by rw [HN.out]; exact hcn))
              have hcr := fun u hu => HRW.out u hu c hcn
              obtain ⟨y, HY⟩ : ∃ y, Hid (D.getD c vz = y) := ⟨_, rfl⟩
              rw [HY.out] at hcl hcr
              dsimp only at HST
              rw [HY.out] at HST
              obtain ⟨⟨ly, f⟩, yb, yk, yv, yg⟩ := y
              dsimp only at hcl
              obtain ⟨y0, y1, y2, y3, rfl⟩ := V.four hcl
              have HRY : Hid (∀ u2, Below u.heap.size u u2 → u2.rangeAt g (og + 9 * c) [Value.int .u64 (y0 : Int), .int .u64 (y1 : Int), .int .u64 (y2 : Int), .int .u64 (y3 : Int), .int .i64 f, .string yb, .string yk, .string yv, .bool yg]) := fun u2 hu2 => hcr u2 (Below.trans S2.out.under (hu2.mono S2.out.size))
              have HRX2 : Hid (∀ u2, Below u.heap.size u u2 → u2.rangeAt g (og + 9 * i) [Value.int .u64 (a0 : Int), .int .u64 (a1 : Int), .int .u64 (a2 : Int), .int .u64 (a3 : Int), .int .i64 d, .string xb, .string xk, .string xv, .bool xg]) := fun u2 hu2 => HRX.out u2 (Below.trans hu (hu2.mono hu.size))
              have HC3 : Hid (∀ u2, Below u.heap.size u u2 → u2.cell? ⟨b, 2, none⟩ = some (.slice (some ⟨g, og, none⟩) n cl)) := fun u2 hu2 => HCC.out u2 (Below.trans S2.out.under (hu2.mono S2.out.size))
              obtain ⟨od, HOD⟩ : ∃ z, Hid (C.ord (([a0, a1, a2, a3], d) : C.St) ([y0, y1, y2, y3], f) = z) := ⟨_, rfl⟩
              have KOR : Hid (∀ u2, Below u.heap.size u u2 → Calls Try.prog 68 [.agg [Value.int .u64 (a0 : Int), .int .u64 (a1 : Int), .int .u64 (a2 : Int), .int .u64 (a3 : Int), .int .i64 d].toArray, .agg [Value.int .u64 (y0 : Int), .int .u64 (y1 : Int), .int .u64 (y2 : Int), .int .u64 (y3 : Int), .int .i64 f].toArray].toArray u2 fun e u' => e = .returned (.int .i64 od) ∧ Below u.heap.size u u') := fun u2 hu2 => by
                have h9 := ref_order [a0, a1, a2, a3] [y0, y1, y2, y3] d f u2 rfl rfl
                have h8 : T.order [a0, a1, a2, a3] d [y0, y1, y2, y3] f = od := HOD.out
                rw [h8] at h9
                exact Calls.more hu2 h9
              have hc0 : ¬ (c : Int) < 0 := by omega
              clear hcr hcl
              go_wp2_with fail
              refine region_w Try.mixed (by kernel_rfl) ?_
              refine w_value rfl (.int .i64 (c : Int)) (fun u hu => by go_simp) (fun K hK => ?_)
              go_simp
              refine hK _ ?_
              clear hK K
              refine w_value rfl (.bool false) (fun u hu => by go_simp) (fun K hK => ?_)
              go_simp
              refine hK _ ?_
              clear hK K
              refine w_value rfl (.bool false) (fun u hu => by go_simp) (fun K hK => ?_)
              go_simp
              refine hK _ ?_
              clear hK K
              refine wg_value rfl (.pointer (some ⟨b, 0, none⟩)) (fun u hu => by go_simp) (fun K hK => ?_)
              go_simp
              refine hK _ ?_
              clear hK K
              refine wg_value rfl (.pointer (some ⟨b, 0, none⟩)) (fun u hu => by go_simp) (fun K hK => ?_)
              go_simp
              refine hK _ ?_
              clear hK K
              refine wg_value rfl (.pointer (some ⟨b, 2, none⟩)) (fun u hu => by go_simp) (fun K hK => ?_)
              go_simp
              refine hK _ ?_
              clear hK K
              refine wg_value rfl (.slice (some ⟨g, og, none⟩) n cl) (fun u hu => by have hc := HC3.out u hu; go_simp) (fun K hK => ?_)
              go_simp
              refine hK _ ?_
              clear hK K
              refine wg_value rfl (.int .i64 (i : Int)) (fun u hu => by go_simp) (fun K hK => ?_)
              go_simp
              refine hK _ ?_
              clear hK K
              refine wg_value rfl (.pointer (some ⟨g, og + 9 * i, none⟩)) (fun u hu => by have h9 := HIX.out i hlt u; go_simp) (fun K hK => ?_)
              go_simp
              refine hK _ ?_
              clear hK K
              refine wg_value rfl (.pointer (some ⟨g, og + 9 * i, none⟩)) (fun u hu => by go_simp) (fun K hK => ?_)
              go_simp
              refine hK _ ?_
              clear hK K
              refine wg_mid_load rfl 61 _ rfl g (og + 9 * i) rfl [Value.int .u64 (a0 : Int), .int .u64 (a1 : Int), .int .u64 (a2 : Int), .int .u64 (a3 : Int), .int .i64 d] (fun u hu => rng_pre (vs := [Value.string xb, .string xk, .string xv, .bool xg]) (HRX2.out u hu)) _ Try.underlying61 rfl Try.size_rs (fun K hK => ?_)
              go_simp
              refine hK _ ?_
              clear hK K
              refine wg_value rfl (.pointer (some ⟨b, 0, none⟩)) (fun u hu => by go_simp) (fun K hK => ?_)
              go_simp
              refine hK _ ?_
              clear hK K
              refine wg_value rfl (.pointer (some ⟨b, 0, none⟩)) (fun u hu => by go_simp) (fun K hK => ?_)
              go_simp
              refine hK _ ?_
              clear hK K
              refine wg_value rfl (.pointer (some ⟨b, 2, none⟩)) (fun u hu => by go_simp) (fun K hK => ?_)
              go_simp
              refine hK _ ?_
              clear hK K
              refine wg_value rfl (.slice (some ⟨g, og, none⟩) n cl) (fun u hu => by have hc := HC3.out u hu; go_simp) (fun K hK => ?_)
              go_simp
              refine hK _ ?_
              clear hK K
              refine wg_value rfl (.int .i64 (c : Int)) (fun u hu => by go_simp) (fun K hK => ?_)
              go_simp
              refine hK _ ?_
              clear hK K
              refine wg_value rfl (.pointer (some ⟨g, og + 9 * c, none⟩)) (fun u hu => by have h9 := HIX.out c hcn u; go_simp) (fun K hK => ?_)
              go_simp
              refine hK _ ?_
              clear hK K
              refine wg_value rfl (.pointer (some ⟨g, og + 9 * c, none⟩)) (fun u hu => by go_simp) (fun K hK => ?_)
              go_simp
              refine hK _ ?_
              clear hK K
              refine wg_mid_load rfl 61 _ rfl g (og + 9 * c) rfl [Value.int .u64 (y0 : Int), .int .u64 (y1 : Int), .int .u64 (y2 : Int), .int .u64 (y3 : Int), .int .i64 f] (fun u hu => rng_pre (vs := [Value.string yb, .string yk, .string yv, .bool yg]) (HRY.out u hu)) _ Try.underlying61 rfl Try.size_rs (fun K hK => ?_)
              go_simp
              refine hK _ ?_
              clear hK K
              refine wg_call rfl 68 Try.f68 Try.func68 rfl rfl _ _ rfl _ rfl (.int .i64 od) (by exact KOR.out) (fun K hK => ?_)
              go_simp
              refine hK _ ?_
              clear hK K
              refine wg_value rfl (.bool (decide (0 < od))) (fun u hu => by go_simp) (fun K hK => ?_)
              go_simp
              refine hK _ ?_
              clear hK K
              refine w_value rfl (.bool (decide (0 < od))) (fun u hu => by go_simp) (fun K hK => ?_)
              go_simp
              refine hK _ ?_
              clear hK K
              refine w_nil ?_
              intro u2 hu2
              have S3 := Lib.hid (S2.out.below hu2)
              by_cases hod : 0 < od
              · have HZ2 : Hid ((i : Int) = bi (bst D (elig (xb, xk) [h0, h1, h2, h3] true) (i + 1))) := by
                  show _ = _
                  rw [HST.out, HEL.out, if_pos ⟨by simp, by rw [HOD.out]; exact hod⟩]
                  rfl
                go_wp2_with fail
                go_roundw
                case rel => exact ⟨i + 1, _, by omega, by go_num, rfl, HZ2, S3⟩
                case measure => simp [intOf]; omega
              · have HZ2 : Hid ((c : Int) = bi (bst D (elig (xb, xk) [h0, h1, h2, h3] true) (i + 1))) := by
                  show _ = _
                  rw [HST.out, if_neg (fun h9 => hod (by rw [← HOD.out]; exact h9.2))]
                  rfl
                go_wp2_with fail
                go_roundw
                case rel => exact ⟨i + 1, _, by omega, by go_num, rfl, HZ2, S3⟩
                case measure => simp [intOf]; omega
          | false =>
            obtain ⟨sn, HSN⟩ : ∃ s, Hid (V.leq [a0, a1, a2, a3] [h0, h1, h2, h3] = s) := ⟨_, rfl⟩
            have KSN : Hid (∀ u, Below wr.heap.size wr u → Calls Try.prog 46 [.agg [Value.int .u64 (a0 : Int), .int .u64 (a1 : Int), .int .u64 (a2 : Int), .int .u64 (a3 : Int), .int .i64 d].toArray, .agg (ks .u64 [h0, h1, h2, h3]).toArray].toArray u fun e u' => e = .returned (.bool sn) ∧ Below wr.heap.size wr u') := fun u hu => by
              have h9 := ref_sseen [a0, a1, a2, a3] [h0, h1, h2, h3] d u rfl rfl
              rw [HSN.out] at h9
              exact Calls.more hu h9
            rw [HSN.out] at HEL
            go_wp2_with fail
            refine region_w Try.mixed (by kernel_rfl) ?_
            refine w_value rfl (.pointer (some ⟨b, 0, none⟩)) (fun u hu => by go_simp) (fun K hK => ?_)
            go_simp
            refine hK _ ?_
            clear hK K
            refine w_value rfl (.pointer (some ⟨b, 0, none⟩)) (fun u hu => by go_simp) (fun K hK => ?_)
            go_simp
            refine hK _ ?_
            clear hK K
            refine w_value rfl (.pointer (some ⟨b, 2, none⟩)) (fun u hu => by go_simp) (fun K hK => ?_)
            go_simp
            refine hK _ ?_
            clear hK K
            refine w_value rfl (.slice (some ⟨g, og, none⟩) n cl) (fun u hu => by have hc := HC2.out u hu; go_simp) (fun K hK => ?_)
            go_simp
            refine hK _ ?_
            clear hK K
            refine w_value rfl (.int .i64 (i : Int)) (fun u hu => by go_simp) (fun K hK => ?_)
            go_simp
            refine hK _ ?_
            clear hK K
            refine w_value rfl (.pointer (some ⟨g, og + 9 * i, none⟩)) (fun u hu => by have h9 := HIX.out i hlt u; go_simp) (fun K hK => ?_)
            go_simp
            refine hK _ ?_
            clear hK K
            refine w_value rfl (.pointer (some ⟨g, og + 9 * i + 5, none⟩)) (fun u hu => by go_simp) (fun K hK => ?_)
            go_simp
            refine hK _ ?_
            clear hK K
            refine w_value rfl (.pointer (some ⟨g, og + 9 * i + 5, none⟩)) (fun u hu => by go_simp) (fun K hK => ?_)
            go_simp
            refine hK _ ?_
            clear hK K
            refine w_value rfl (.string xb) (fun u hu => by have hc := HRX.out u hu 5 _ rfl; go_simp) (fun K hK => ?_)
            go_simp
            refine hK _ ?_
            clear hK K
            refine w_value rfl (.string xb) (fun u hu => by go_simp) (fun K hK => ?_)
            go_simp
            refine hK _ ?_
            clear hK K
            refine w_value rfl (.bool false) (fun u hu => by go_simp) (fun K hK => ?_)
            go_simp
            refine hK _ ?_
            clear hK K
            refine w_value rfl (.bool false) (fun u hu => by go_simp) (fun K hK => ?_)
            go_simp
            refine hK _ ?_
            clear hK K
            refine wg_value rfl (.pointer (some ⟨b, 0, none⟩)) (fun u hu => by go_simp) (fun K hK => ?_)
            go_simp
            refine hK _ ?_
            clear hK K
            refine wg_value rfl (.pointer (some ⟨b, 0, none⟩)) (fun u hu => by go_simp) (fun K hK => ?_)
            go_simp
            refine hK _ ?_
            clear hK K
            refine wg_value rfl (.pointer (some ⟨b, 2, none⟩)) (fun u hu => by go_simp) (fun K hK => ?_)
            go_simp
            refine hK _ ?_
            clear hK K
            refine wg_value rfl (.slice (some ⟨g, og, none⟩) n cl) (fun u hu => by have hc := HC2.out u hu; go_simp) (fun K hK => ?_)
            go_simp
            refine hK _ ?_
            clear hK K
            refine wg_value rfl (.int .i64 (i : Int)) (fun u hu => by go_simp) (fun K hK => ?_)
            go_simp
            refine hK _ ?_
            clear hK K
            refine wg_value rfl (.pointer (some ⟨g, og + 9 * i, none⟩)) (fun u hu => by have h9 := HIX.out i hlt u; go_simp) (fun K hK => ?_)
            go_simp
            refine hK _ ?_
            clear hK K
            refine wg_value rfl (.pointer (some ⟨g, og + 9 * i + 5, none⟩)) (fun u hu => by go_simp) (fun K hK => ?_)
            go_simp
            refine hK _ ?_
            clear hK K
            refine wg_value rfl (.pointer (some ⟨g, og + 9 * i + 6, none⟩)) (fun u hu => by go_simp) (fun K hK => ?_)
            go_simp
            refine hK _ ?_
            clear hK K
            refine wg_value rfl (.string xk) (fun u hu => by have hc := HRX.out u hu 6 _ rfl; go_simp) (fun K hK => ?_)
            go_simp
            refine hK _ ?_
            clear hK K
            refine wg_value rfl (.string xk) (fun u hu => by go_simp) (fun K hK => ?_)
            go_simp
            refine hK _ ?_
            clear hK K
            refine wg_value rfl (.bool false) (fun u hu => by go_simp) (fun K hK => ?_)
            go_simp
            refine hK _ ?_
            clear hK K
            refine w_value rfl (.bool false) (fun u hu => by go_simp) (fun K hK => ?_)
            go_simp
            refine hK _ ?_
            clear hK K
            refine w_value rfl (.bool false) (fun u hu => by go_simp) (fun K hK => ?_)
            go_simp
            refine hK _ ?_
            clear hK K
            refine wg_value rfl (.bool false) (fun u hu => by go_simp) (fun K hK => ?_)
            go_simp
            refine hK _ ?_
            clear hK K
            refine wg_value rfl (.bool true) (fun u hu => by go_simp) (fun K hK => ?_)
            go_simp
            refine hK _ ?_
            clear hK K
            refine wg_value rfl (.bool true) (fun u hu => by go_simp) (fun K hK => ?_)
            go_simp
            refine hK _ ?_
            clear hK K
            refine wg_value rfl (.pointer (some ⟨b, 0, none⟩)) (fun u hu => by go_simp) (fun K hK => ?_)
            go_simp
            refine hK _ ?_
            clear hK K
            refine wg_value rfl (.pointer (some ⟨b, 0, none⟩)) (fun u hu => by go_simp) (fun K hK => ?_)
            go_simp
            refine hK _ ?_
            clear hK K
            refine wg_value rfl (.pointer (some ⟨b, 2, none⟩)) (fun u hu => by go_simp) (fun K hK => ?_)
            go_simp
            refine hK _ ?_
            clear hK K
            refine wg_value rfl (.slice (some ⟨g, og, none⟩) n cl) (fun u hu => by have hc := HC2.out u hu; go_simp) (fun K hK => ?_)
            go_simp
            refine hK _ ?_
            clear hK K
            refine wg_value rfl (.int .i64 (i : Int)) (fun u hu => by go_simp) (fun K hK => ?_)
            go_simp
            refine hK _ ?_
            clear hK K
            refine wg_value rfl (.pointer (some ⟨g, og + 9 * i, none⟩)) (fun u hu => by have h9 := HIX.out i hlt u; go_simp) (fun K hK => ?_)
            go_simp
            refine hK _ ?_
            clear hK K
            refine wg_value rfl (.pointer (some ⟨g, og + 9 * i, none⟩)) (fun u hu => by go_simp) (fun K hK => ?_)
            go_simp
            refine hK _ ?_
            clear hK K
            refine wg_mid_load rfl 61 _ rfl g (og + 9 * i) rfl [Value.int .u64 (a0 : Int), .int .u64 (a1 : Int), .int .u64 (a2 : Int), .int .u64 (a3 : Int), .int .i64 d] (fun u hu => rng_pre (vs := [Value.string xb, .string xk, .string xv, .bool xg]) (HRX.out u hu)) _ Try.underlying61 rfl Try.size_rs (fun K hK => ?_)
            go_simp
            refine hK _ ?_
            clear hK K
            refine wg_blk_load rfl 57 _ rfl bh rfl (ks .u64 [h0, h1, h2, h3]) (fun u hu => (Sr.out.below hu).blk 0 rfl) _ Try.underlying57 rfl Try.size_r (fun K hK => ?_)
            go_simp
            refine hK _ ?_
            clear hK K
            refine wg_call rfl 46 Try.f46 Try.func46 rfl rfl _ _ rfl _ rfl (.bool sn) (by exact KSN.out) (fun K hK => ?_)
            go_simp
            refine hK _ ?_
            clear hK K
            refine wg_value rfl (.bool (!sn)) (fun u hu => by go_simp) (fun K hK => ?_)
            go_simp
            refine hK _ ?_
            clear hK K
            refine wg_value rfl (.bool (!sn)) (fun u hu => by go_simp) (fun K hK => ?_)
            go_simp
            refine hK _ ?_
            clear hK K
            refine w_value rfl (.bool (!sn)) (fun u hu => by go_simp) (fun K hK => ?_)
            go_simp
            refine hK _ ?_
            clear hK K
            cases sn with
            | false =>
              refine w_nil ?_
              intro u hu
              have S2 := Lib.hid (Sr.out.below hu)
              have HZ2 : Hid (z = bi (bst D (elig (xb, xk) [h0, h1, h2, h3] false) (i + 1))) := by
                show _ = _
                rw [HST.out, HEL.out, HZI.out]
                cases bst D (elig (xb, xk) [h0, h1, h2, h3] false) i with
                | none => simp [bi]
                | some c => simp
              go_wp2_with fail
              go_roundw
              case rel => exact ⟨i + 1, z, by omega, by go_num, rfl, HZ2, S2⟩
              case measure => simp [intOf]; omega
            | true =>
              refine w_nil ?_
              intro u hu
              have S2 := Lib.hid (Sr.out.below hu)
              obtain ⟨r, HR⟩ : ∃ r, Hid (bst D (elig (xb, xk) [h0, h1, h2, h3] false) i = r) := ⟨_, rfl⟩
              rw [HR.out] at HZI HST
              cases r with
              | none =>
                have hz : z = -1 := HZI.out
                subst hz
                have HZ2 : Hid ((i : Int) = bi (bst D (elig (xb, xk) [h0, h1, h2, h3] false) (i + 1))) := by
                  show _ = _
                  rw [HST.out]
                  dsimp only
                  rw [HEL.out, if_pos (by simp)]
                  rfl
                have cc2 := HCC.out _ S2.out.under
                go_wp2_with fail
                refine region_w Try.mixed (by kernel_rfl) ?_
                refine w_value rfl (.int .i64 (-1)) (fun u hu => by go_simp) (fun K hK => ?_)
                go_simp
                refine hK _ ?_
                clear hK K
                refine w_value rfl (.bool true) (fun u hu => by go_simp) (fun K hK => ?_)
                go_simp
                refine hK _ ?_
                clear hK K
                refine w_value rfl (.bool true) (fun u hu => by go_simp) (fun K hK => ?_)
                go_simp
                refine hK _ ?_
                clear hK K
                refine w_skip 2 false (some true) rfl rfl rfl (fun K hK => ?_)
                go_simp
                refine hK _ ?_
                clear hK K
                refine w_skip 2 false (some true) rfl rfl rfl (fun K hK => ?_)
                go_simp
                refine hK _ ?_
                clear hK K
                refine w_skip 2 false (some true) rfl rfl rfl (fun K hK => ?_)
                go_simp
                refine hK _ ?_
                clear hK K
                refine w_skip 2 false (some true) rfl rfl rfl (fun K hK => ?_)
                go_simp
                refine hK _ ?_
                clear hK K
                refine w_skip 2 false (some true) rfl rfl rfl (fun K hK => ?_)
                go_simp
                refine hK _ ?_
                clear hK K
                refine w_skip 2 false (some true) rfl rfl rfl (fun K hK => ?_)
                go_simp
                refine hK _ ?_
                clear hK K
                refine w_skip 2 false (some true) rfl rfl rfl (fun K hK => ?_)
                go_simp
                refine hK _ ?_
                clear hK K
                refine w_skip 2 false (some true) rfl rfl rfl (fun K hK => ?_)
                go_simp
                refine hK _ ?_
                clear hK K
                refine w_skip 2 false (some true) rfl rfl rfl (fun K hK => ?_)
                go_simp
                refine hK _ ?_
                clear hK K
                refine w_skip 2 false (some true) rfl rfl rfl (fun K hK => ?_)
                go_simp
                refine hK _ ?_
                clear hK K
                refine w_skip 2 false (some true) rfl rfl rfl (fun K hK => ?_)
                go_simp
                refine hK _ ?_
                clear hK K
                refine w_skip 2 false (some true) rfl rfl rfl (fun K hK => ?_)
                go_simp
                refine hK _ ?_
                clear hK K
                refine w_skip 2 false (some true) rfl rfl rfl (fun K hK => ?_)
                go_simp
                refine hK _ ?_
                clear hK K
                refine w_skip 2 false (some true) rfl rfl rfl (fun K hK => ?_)
                go_simp
                refine hK _ ?_
                clear hK K
                refine w_skip 2 false (some true) rfl rfl rfl (fun K hK => ?_)
                go_simp
                refine hK _ ?_
                clear hK K
                refine w_skip 2 false (some true) rfl rfl rfl (fun K hK => ?_)
                go_simp
                refine hK _ ?_
                clear hK K
                refine w_skip 2 false (some true) rfl rfl rfl (fun K hK => ?_)
                go_simp
                refine hK _ ?_
                clear hK K
                refine w_skip 2 false (some true) rfl rfl rfl (fun K hK => ?_)
                go_simp
                refine hK _ ?_
                clear hK K
                refine w_value rfl (.bool true) (fun u hu => by go_simp) (fun K hK => ?_)
                go_simp
                refine hK _ ?_
                clear hK K
                refine w_nil ?_
                intro u2 hu2
                have S3 := Lib.hid (S2.out.below hu2)
                go_wp2_with fail
                go_roundw
                case rel => exact ⟨i + 1, _, by omega, by go_num, rfl, HZ2, S3⟩
                case measure => simp [intOf]; omega
              | some c =>
                have hz : z = (c : Int) := HZI.out
                subst hz
                obtain ⟨hc1, _, _⟩ := bst_some D _ HD4.out i c (by rw [HN.out]; omega) HR.out
                have hcn : c < n := by omega
                have hcl := HD4.out _ (getD_mem D c (by rw [HN.out]; exact hcn))
                have hcr := fun u hu => HRW.out u hu c hcn
                obtain ⟨y, HY⟩ : ∃ y, Hid (D.getD c vz = y) := ⟨_, rfl⟩
                rw [HY.out] at hcl hcr
                dsimp only at HST
                rw [HY.out] at HST
                obtain ⟨⟨ly, f⟩, yb, yk, yv, yg⟩ := y
                dsimp only at hcl
                obtain ⟨y0, y1, y2, y3, rfl⟩ := V.four hcl
                have HRY : Hid (∀ u2, Below u.heap.size u u2 → u2.rangeAt g (og + 9 * c) [Value.int .u64 (y0 : Int), .int .u64 (y1 : Int), .int .u64 (y2 : Int), .int .u64 (y3 : Int), .int .i64 f, .string yb, .string yk, .string yv, .bool yg]) := fun u2 hu2 => hcr u2 (Below.trans S2.out.under (hu2.mono S2.out.size))
                have HRX2 : Hid (∀ u2, Below u.heap.size u u2 → u2.rangeAt g (og + 9 * i) [Value.int .u64 (a0 : Int), .int .u64 (a1 : Int), .int .u64 (a2 : Int), .int .u64 (a3 : Int), .int .i64 d, .string xb, .string xk, .string xv, .bool xg]) := fun u2 hu2 => HRX.out u2 (Below.trans hu (hu2.mono hu.size))
                have HC3 : Hid (∀ u2, Below u.heap.size u u2 → u2.cell? ⟨b, 2, none⟩ = some (.slice (some ⟨g, og, none⟩) n cl)) := fun u2 hu2 => HCC.out u2 (Below.trans S2.out.under (hu2.mono S2.out.size))
                obtain ⟨od, HOD⟩ : ∃ z, Hid (C.ord (([a0, a1, a2, a3], d) : C.St) ([y0, y1, y2, y3], f) = z) := ⟨_, rfl⟩
                have KOR : Hid (∀ u2, Below u.heap.size u u2 → Calls Try.prog 68 [.agg [Value.int .u64 (a0 : Int), .int .u64 (a1 : Int), .int .u64 (a2 : Int), .int .u64 (a3 : Int), .int .i64 d].toArray, .agg [Value.int .u64 (y0 : Int), .int .u64 (y1 : Int), .int .u64 (y2 : Int), .int .u64 (y3 : Int), .int .i64 f].toArray].toArray u2 fun e u' => e = .returned (.int .i64 od) ∧ Below u.heap.size u u') := fun u2 hu2 => by
                  have h9 := ref_order [a0, a1, a2, a3] [y0, y1, y2, y3] d f u2 rfl rfl
                  have h8 : T.order [a0, a1, a2, a3] d [y0, y1, y2, y3] f = od := HOD.out
                  rw [h8] at h9
                  exact Calls.more hu2 h9
                have hc0 : ¬ (c : Int) < 0 := by omega
                clear hcr hcl
                go_wp2_with fail
                refine region_w Try.mixed (by kernel_rfl) ?_
                refine w_value rfl (.int .i64 (c : Int)) (fun u hu => by go_simp) (fun K hK => ?_)
                go_simp
                refine hK _ ?_
                clear hK K
                refine w_value rfl (.bool false) (fun u hu => by go_simp) (fun K hK => ?_)
                go_simp
                refine hK _ ?_
                clear hK K
                refine w_value rfl (.bool false) (fun u hu => by go_simp) (fun K hK => ?_)
                go_simp
                refine hK _ ?_
                clear hK K
                refine wg_value rfl (.pointer (some ⟨b, 0, none⟩)) (fun u hu => by go_simp) (fun K hK => ?_)
                go_simp
                refine hK _ ?_
                clear hK K
                refine wg_value rfl (.pointer (some ⟨b, 0, none⟩)) (fun u hu => by go_simp) (fun K hK => ?_)
                go_simp
                refine hK _ ?_
                clear hK K
                refine wg_value rfl (.pointer (some ⟨b, 2, none⟩)) (fun u hu => by go_simp) (fun K hK => ?_)
                go_simp
                refine hK _ ?_
                clear hK K
                refine wg_value rfl (.slice (some ⟨g, og, none⟩) n cl) (fun u hu => by have hc := HC3.out u hu; go_simp) (fun K hK => ?_)
                go_simp
                refine hK _ ?_
                clear hK K
                refine wg_value rfl (.int .i64 (i : Int)) (fun u hu => by go_simp) (fun K hK => ?_)
                go_simp
                refine hK _ ?_
                clear hK K
                refine wg_value rfl (.pointer (some ⟨g, og + 9 * i, none⟩)) (fun u hu => by have h9 := HIX.out i hlt u; go_simp) (fun K hK => ?_)
                go_simp
                refine hK _ ?_
                clear hK K
                refine wg_value rfl (.pointer (some ⟨g, og + 9 * i, none⟩)) (fun u hu => by go_simp) (fun K hK => ?_)
                go_simp
                refine hK _ ?_
                clear hK K
                refine wg_mid_load rfl 61 _ rfl g (og + 9 * i) rfl [Value.int .u64 (a0 : Int), .int .u64 (a1 : Int), .int .u64 (a2 : Int), .int .u64 (a3 : Int), .int .i64 d] (fun u hu => rng_pre (vs := [Value.string xb, .string xk, .string xv, .bool xg]) (HRX2.out u hu)) _ Try.underlying61 rfl Try.size_rs (fun K hK => ?_)
                go_simp
                refine hK _ ?_
                clear hK K
                refine wg_value rfl (.pointer (some ⟨b, 0, none⟩)) (fun u hu => by go_simp) (fun K hK => ?_)
                go_simp
                refine hK _ ?_
                clear hK K
                refine wg_value rfl (.pointer (some ⟨b, 0, none⟩)) (fun u hu => by go_simp) (fun K hK => ?_)
                go_simp
                refine hK _ ?_
                clear hK K
                refine wg_value rfl (.pointer (some ⟨b, 2, none⟩)) (fun u hu => by go_simp) (fun K hK => ?_)
                go_simp
                refine hK _ ?_
                clear hK K
                refine wg_value rfl (.slice (some ⟨g, og, none⟩) n cl) (fun u hu => by have hc := HC3.out u hu; go_simp) (fun K hK => ?_)
                go_simp
                refine hK _ ?_
                clear hK K
                refine wg_value rfl (.int .i64 (c : Int)) (fun u hu => by go_simp) (fun K hK => ?_)
                go_simp
                refine hK _ ?_
                clear hK K
                refine wg_value rfl (.pointer (some ⟨g, og + 9 * c, none⟩)) (fun u hu => by have h9 := HIX.out c hcn u; go_simp) (fun K hK => ?_)
                go_simp
                refine hK _ ?_
                clear hK K
                refine wg_value rfl (.pointer (some ⟨g, og + 9 * c, none⟩)) (fun u hu => by go_simp) (fun K hK => ?_)
                go_simp
                refine hK _ ?_
                clear hK K
                refine wg_mid_load rfl 61 _ rfl g (og + 9 * c) rfl [Value.int .u64 (y0 : Int), .int .u64 (y1 : Int), .int .u64 (y2 : Int), .int .u64 (y3 : Int), .int .i64 f] (fun u hu => rng_pre (vs := [Value.string yb, .string yk, .string yv, .bool yg]) (HRY.out u hu)) _ Try.underlying61 rfl Try.size_rs (fun K hK => ?_)
                go_simp
                refine hK _ ?_
                clear hK K
                refine wg_call rfl 68 Try.f68 Try.func68 rfl rfl _ _ rfl _ rfl (.int .i64 od) (by exact KOR.out) (fun K hK => ?_)
                go_simp
                refine hK _ ?_
                clear hK K
                refine wg_value rfl (.bool (decide (0 < od))) (fun u hu => by go_simp) (fun K hK => ?_)
                go_simp
                refine hK _ ?_
                clear hK K
                refine w_value rfl (.bool (decide (0 < od))) (fun u hu => by go_simp) (fun K hK => ?_)
                go_simp
                refine hK _ ?_
                clear hK K
                refine w_nil ?_
                intro u2 hu2
                have S3 := Lib.hid (S2.out.below hu2)
                by_cases hod : 0 < od
                · have HZ2 : Hid ((i : Int) = bi (bst D (elig (xb, xk) [h0, h1, h2, h3] false) (i + 1))) := by
                    show _ = _
                    rw [HST.out, HEL.out, if_pos ⟨by simp, by rw [HOD.out]; exact hod⟩]
                    rfl
                  go_wp2_with fail
                  go_roundw
                  case rel => exact ⟨i + 1, _, by omega, by go_num, rfl, HZ2, S3⟩
                  case measure => simp [intOf]; omega
                · have HZ2 : Hid ((c : Int) = bi (bst D (elig (xb, xk) [h0, h1, h2, h3] false) (i + 1))) := by
                    show _ = _
                    rw [HST.out, if_neg (fun h9 => hod (by rw [← HOD.out]; exact h9.2))]
                    rfl
                  go_wp2_with fail
                  go_roundw
                  case rel => exact ⟨i + 1, _, by omega, by go_num, rfl, HZ2, S3⟩
                  case measure => simp [intOf]; omega
        · have hdec : decide (((xb, xk) : Nm) = (k1, k2)) = false := decide_eq_false (fun h9 => hk (by injection h9))
          subst hb
          have hkm := toList_ne hk
          go_wp2_with fail
          refine region_w Try.mixed (by kernel_rfl) ?_
          refine w_value rfl (.pointer (some ⟨b, 0, none⟩)) (fun u hu => by go_simp) (fun K hK => ?_)
          go_simp
          refine hK _ ?_
          clear hK K
          refine w_value rfl (.pointer (some ⟨b, 0, none⟩)) (fun u hu => by go_simp) (fun K hK => ?_)
          go_simp
          refine hK _ ?_
          clear hK K
          refine w_value rfl (.pointer (some ⟨b, 2, none⟩)) (fun u hu => by go_simp) (fun K hK => ?_)
          go_simp
          refine hK _ ?_
          clear hK K
          refine w_value rfl (.slice (some ⟨g, og, none⟩) n cl) (fun u hu => by have hc := HC2.out u hu; go_simp) (fun K hK => ?_)
          go_simp
          refine hK _ ?_
          clear hK K
          refine w_value rfl (.int .i64 (i : Int)) (fun u hu => by go_simp) (fun K hK => ?_)
          go_simp
          refine hK _ ?_
          clear hK K
          refine w_value rfl (.pointer (some ⟨g, og + 9 * i, none⟩)) (fun u hu => by have h9 := HIX.out i hlt u; go_simp) (fun K hK => ?_)
          go_simp
          refine hK _ ?_
          clear hK K
          refine w_value rfl (.pointer (some ⟨g, og + 9 * i + 5, none⟩)) (fun u hu => by go_simp) (fun K hK => ?_)
          go_simp
          refine hK _ ?_
          clear hK K
          refine w_value rfl (.pointer (some ⟨g, og + 9 * i + 5, none⟩)) (fun u hu => by go_simp) (fun K hK => ?_)
          go_simp
          refine hK _ ?_
          clear hK K
          refine w_value rfl (.string xb) (fun u hu => by have hc := HRX.out u hu 5 _ rfl; go_simp) (fun K hK => ?_)
          go_simp
          refine hK _ ?_
          clear hK K
          refine w_value rfl (.string xb) (fun u hu => by go_simp) (fun K hK => ?_)
          go_simp
          refine hK _ ?_
          clear hK K
          refine w_value rfl (.bool false) (fun u hu => by go_simp) (fun K hK => ?_)
          go_simp
          refine hK _ ?_
          clear hK K
          refine w_value rfl (.bool false) (fun u hu => by go_simp) (fun K hK => ?_)
          go_simp
          refine hK _ ?_
          clear hK K
          refine wg_value rfl (.pointer (some ⟨b, 0, none⟩)) (fun u hu => by go_simp) (fun K hK => ?_)
          go_simp
          refine hK _ ?_
          clear hK K
          refine wg_value rfl (.pointer (some ⟨b, 0, none⟩)) (fun u hu => by go_simp) (fun K hK => ?_)
          go_simp
          refine hK _ ?_
          clear hK K
          refine wg_value rfl (.pointer (some ⟨b, 2, none⟩)) (fun u hu => by go_simp) (fun K hK => ?_)
          go_simp
          refine hK _ ?_
          clear hK K
          refine wg_value rfl (.slice (some ⟨g, og, none⟩) n cl) (fun u hu => by have hc := HC2.out u hu; go_simp) (fun K hK => ?_)
          go_simp
          refine hK _ ?_
          clear hK K
          refine wg_value rfl (.int .i64 (i : Int)) (fun u hu => by go_simp) (fun K hK => ?_)
          go_simp
          refine hK _ ?_
          clear hK K
          refine wg_value rfl (.pointer (some ⟨g, og + 9 * i, none⟩)) (fun u hu => by have h9 := HIX.out i hlt u; go_simp) (fun K hK => ?_)
          go_simp
          refine hK _ ?_
          clear hK K
          refine wg_value rfl (.pointer (some ⟨g, og + 9 * i + 5, none⟩)) (fun u hu => by go_simp) (fun K hK => ?_)
          go_simp
          refine hK _ ?_
          clear hK K
          refine wg_value rfl (.pointer (some ⟨g, og + 9 * i + 6, none⟩)) (fun u hu => by go_simp) (fun K hK => ?_)
          go_simp
          refine hK _ ?_
          clear hK K
          refine wg_value rfl (.string xk) (fun u hu => by have hc := HRX.out u hu 6 _ rfl; go_simp) (fun K hK => ?_)
          go_simp
          refine hK _ ?_
          clear hK K
          refine wg_value rfl (.string k2) (fun u hu => by go_simp) (fun K hK => ?_)
          go_simp
          refine hK _ ?_
          clear hK K
          refine wg_value rfl (.bool true) (fun u hu => by go_simp) (fun K hK => ?_)
          go_simp
          refine hK _ ?_
          clear hK K
          refine w_value rfl (.bool true) (fun u hu => by go_simp) (fun K hK => ?_)
          go_simp
          refine hK _ ?_
          clear hK K
          refine w_value rfl (.bool true) (fun u hu => by go_simp) (fun K hK => ?_)
          go_simp
          refine hK _ ?_
          clear hK K
          refine w_skip 24 false (some true) rfl rfl rfl (fun K hK => ?_)
          go_simp
          refine hK _ ?_
          clear hK K
          refine w_skip 24 false (some true) rfl rfl rfl (fun K hK => ?_)
          go_simp
          refine hK _ ?_
          clear hK K
          refine w_skip 24 false (some true) rfl rfl rfl (fun K hK => ?_)
          go_simp
          refine hK _ ?_
          clear hK K
          refine w_skip 27 true none rfl rfl rfl (fun K hK => ?_)
          go_simp
          refine hK _ ?_
          clear hK K
          refine w_skip 27 true none rfl rfl rfl (fun K hK => ?_)
          go_simp
          refine hK _ ?_
          clear hK K
          refine w_skip 27 true none rfl rfl rfl (fun K hK => ?_)
          go_simp
          refine hK _ ?_
          clear hK K
          refine w_skip 27 true none rfl rfl rfl (fun K hK => ?_)
          go_simp
          refine hK _ ?_
          clear hK K
          refine w_skip 27 true none rfl rfl rfl (fun K hK => ?_)
          go_simp
          refine hK _ ?_
          clear hK K
          refine w_skip 27 true none rfl rfl rfl (fun K hK => ?_)
          go_simp
          refine hK _ ?_
          clear hK K
          refine w_skip 27 true none rfl rfl rfl (fun K hK => ?_)
          go_simp
          refine hK _ ?_
          clear hK K
          refine w_skip 27 true none rfl rfl rfl (fun K hK => ?_)
          go_simp
          refine hK _ ?_
          clear hK K
          refine w_skip 27 true none rfl rfl rfl (fun K hK => ?_)
          go_simp
          refine hK _ ?_
          clear hK K
          refine w_skip 27 true none rfl rfl rfl (fun K hK => ?_)
          go_simp
          refine hK _ ?_
          clear hK K
          refine w_skip 27 true none rfl rfl rfl (fun K hK => ?_)
          go_simp
          refine hK _ ?_
          clear hK K
          refine w_skip 24 false (some true) rfl rfl rfl (fun K hK => ?_)
          go_simp
          refine hK _ ?_
          clear hK K
          refine w_value rfl (.bool true) (fun u hu => by go_simp) (fun K hK => ?_)
          go_simp
          refine hK _ ?_
          clear hK K
          refine w_nil ?_
          intro u hu
          have S2 := Lib.hid (Sr.out.below hu)
          have HZ2 : Hid (z = bi (bst D (elig (xb, k2) [h0, h1, h2, h3] all) (i + 1))) := by
            show _ = _
            rw [HST.out, HEL.out, hdec, Bool.false_and]
            rw [HZI.out]
            cases bst D (elig (xb, k2) [h0, h1, h2, h3] all) i with
            | none => rfl
            | some c => simp
          go_wp2_with fail
          go_roundw
          case rel => exact ⟨i + 1, z, by omega, by go_num, rfl, HZ2, S2⟩
          case measure => simp [intOf]; omega
      · have hdec : decide (((xb, xk) : Nm) = (k1, k2)) = false := decide_eq_false (fun h9 => hb (by injection h9))
        have hkm := toList_ne hb
        go_wp2_with fail
        refine region_w Try.mixed (by kernel_rfl) ?_
        refine w_value rfl (.pointer (some ⟨b, 0, none⟩)) (fun u hu => by go_simp) (fun K hK => ?_)
        go_simp
        refine hK _ ?_
        clear hK K
        refine w_value rfl (.pointer (some ⟨b, 0, none⟩)) (fun u hu => by go_simp) (fun K hK => ?_)
        go_simp
        refine hK _ ?_
        clear hK K
        refine w_value rfl (.pointer (some ⟨b, 2, none⟩)) (fun u hu => by go_simp) (fun K hK => ?_)
        go_simp
        refine hK _ ?_
        clear hK K
        refine w_value rfl (.slice (some ⟨g, og, none⟩) n cl) (fun u hu => by have hc := HC2.out u hu; go_simp) (fun K hK => ?_)
        go_simp
        refine hK _ ?_
        clear hK K
        refine w_value rfl (.int .i64 (i : Int)) (fun u hu => by go_simp) (fun K hK => ?_)
        go_simp
        refine hK _ ?_
        clear hK K
        refine w_value rfl (.pointer (some ⟨g, og + 9 * i, none⟩)) (fun u hu => by have h9 := HIX.out i hlt u; go_simp) (fun K hK => ?_)
        go_simp
        refine hK _ ?_
        clear hK K
        refine w_value rfl (.pointer (some ⟨g, og + 9 * i + 5, none⟩)) (fun u hu => by go_simp) (fun K hK => ?_)
        go_simp
        refine hK _ ?_
        clear hK K
        refine w_value rfl (.pointer (some ⟨g, og + 9 * i + 5, none⟩)) (fun u hu => by go_simp) (fun K hK => ?_)
        go_simp
        refine hK _ ?_
        clear hK K
        refine w_value rfl (.string xb) (fun u hu => by have hc := HRX.out u hu 5 _ rfl; go_simp) (fun K hK => ?_)
        go_simp
        refine hK _ ?_
        clear hK K
        refine w_value rfl (.string k1) (fun u hu => by go_simp) (fun K hK => ?_)
        go_simp
        refine hK _ ?_
        clear hK K
        refine w_value rfl (.bool true) (fun u hu => by go_simp) (fun K hK => ?_)
        go_simp
        refine hK _ ?_
        clear hK K
        refine w_value rfl (.bool true) (fun u hu => by go_simp) (fun K hK => ?_)
        go_simp
        refine hK _ ?_
        clear hK K
        refine w_skip 11 false (some true) rfl rfl rfl (fun K hK => ?_)
        go_simp
        refine hK _ ?_
        clear hK K
        refine w_skip 11 false (some true) rfl rfl rfl (fun K hK => ?_)
        go_simp
        refine hK _ ?_
        clear hK K
        refine w_skip 11 false (some true) rfl rfl rfl (fun K hK => ?_)
        go_simp
        refine hK _ ?_
        clear hK K
        refine w_skip 11 false (some true) rfl rfl rfl (fun K hK => ?_)
        go_simp
        refine hK _ ?_
        clear hK K
        refine w_skip 11 false (some true) rfl rfl rfl (fun K hK => ?_)
        go_simp
        refine hK _ ?_
        clear hK K
        refine w_skip 11 false (some true) rfl rfl rfl (fun K hK => ?_)
        go_simp
        refine hK _ ?_
        clear hK K
        refine w_skip 11 false (some true) rfl rfl rfl (fun K hK => ?_)
        go_simp
        refine hK _ ?_
        clear hK K
        refine w_skip 11 false (some true) rfl rfl rfl (fun K hK => ?_)
        go_simp
        refine hK _ ?_
        clear hK K
        refine w_skip 11 false (some true) rfl rfl rfl (fun K hK => ?_)
        go_simp
        refine hK _ ?_
        clear hK K
        refine w_skip 11 false (some true) rfl rfl rfl (fun K hK => ?_)
        go_simp
        refine hK _ ?_
        clear hK K
        refine w_skip 11 false (some true) rfl rfl rfl (fun K hK => ?_)
        go_simp
        refine hK _ ?_
        clear hK K
        refine w_value rfl (.bool true) (fun u hu => by go_simp) (fun K hK => ?_)
        go_simp
        refine hK _ ?_
        clear hK K
        refine w_value rfl (.bool true) (fun u hu => by go_simp) (fun K hK => ?_)
        go_simp
        refine hK _ ?_
        clear hK K
        refine w_skip 24 false (some true) rfl rfl rfl (fun K hK => ?_)
        go_simp
        refine hK _ ?_
        clear hK K
        refine w_skip 24 false (some true) rfl rfl rfl (fun K hK => ?_)
        go_simp
        refine hK _ ?_
        clear hK K
        refine w_skip 24 false (some true) rfl rfl rfl (fun K hK => ?_)
        go_simp
        refine hK _ ?_
        clear hK K
        refine w_skip 27 true none rfl rfl rfl (fun K hK => ?_)
        go_simp
        refine hK _ ?_
        clear hK K
        refine w_skip 27 true none rfl rfl rfl (fun K hK => ?_)
        go_simp
        refine hK _ ?_
        clear hK K
        refine w_skip 27 true none rfl rfl rfl (fun K hK => ?_)
        go_simp
        refine hK _ ?_
        clear hK K
        refine w_skip 27 true none rfl rfl rfl (fun K hK => ?_)
        go_simp
        refine hK _ ?_
        clear hK K
        refine w_skip 27 true none rfl rfl rfl (fun K hK => ?_)
        go_simp
        refine hK _ ?_
        clear hK K
        refine w_skip 27 true none rfl rfl rfl (fun K hK => ?_)
        go_simp
        refine hK _ ?_
        clear hK K
        refine w_skip 27 true none rfl rfl rfl (fun K hK => ?_)
        go_simp
        refine hK _ ?_
        clear hK K
        refine w_skip 27 true none rfl rfl rfl (fun K hK => ?_)
        go_simp
        refine hK _ ?_
        clear hK K
        refine w_skip 27 true none rfl rfl rfl (fun K hK => ?_)
        go_simp
        refine hK _ ?_
        clear hK K
        refine w_skip 27 true none rfl rfl rfl (fun K hK => ?_)
        go_simp
        refine hK _ ?_
        clear hK K
        refine w_skip 27 true none rfl rfl rfl (fun K hK => ?_)
        go_simp
        refine hK _ ?_
        clear hK K
        refine w_skip 24 false (some true) rfl rfl rfl (fun K hK => ?_)
        go_simp
        refine hK _ ?_
        clear hK K
        refine w_value rfl (.bool true) (fun u hu => by go_simp) (fun K hK => ?_)
        go_simp
        refine hK _ ?_
        clear hK K
        refine w_nil ?_
        intro u hu
        have S2 := Lib.hid (Sr.out.below hu)
        have HZ2 : Hid (z = bi (bst D (elig (k1, k2) [h0, h1, h2, h3] all) (i + 1))) := by
          show _ = _
          rw [HST.out, HEL.out, hdec, Bool.false_and]
          rw [HZI.out]
          cases bst D (elig (k1, k2) [h0, h1, h2, h3] all) i with
          | none => rfl
          | some c => simp
        go_wp2_with fail
        go_roundw
        case rel => exact ⟨i + 1, z, by omega, by go_num, rfl, HZ2, S2⟩
        case measure => simp [intOf]; omega
    · obtain rfl : i = n := by omega
      have i1 : ¬ (i : Int) < (i : Int) := by omega
      have hz : z = bi R := by rw [HZI.out, HLD.out]
      subst hz
      have HU := Lib.hid Sr.out.under
      go_wp2_with fail
      go_ret
      exact ⟨rfl, HU.out⟩
theorem size_rw4 : (Try.prog.info? 71).map (·.size) = some 4 := by kernel_rfl
theorem info_rw4 : (Try.prog.info? 71).map (fun i => (i.zero, i.size)) = some (some (.agg [Value.string ⟨#[]⟩, .string ⟨#[]⟩, .string ⟨#[]⟩, .bool false].toArray), 4) := by kernel_rfl
theorem info_rs5 : (Try.prog.info? 61).map (fun i => (i.zero, i.size)) = some (some (.agg [Value.int .u64 0, .int .u64 0, .int .u64 0, .int .u64 0, .int .i64 0].toArray), 5) := by kernel_rfl
theorem rng_post {u : World} {b p : Nat} {us vs : List Value} (h : u.rangeAt b p (us ++ vs)) : u.rangeAt b (p + us.length) vs := fun j v hv => by
  have := h (us.length + j) v (by rw [List.getElem?_append_right (by omega), Nat.add_sub_cancel_left]; exact hv)
  rwa [← Nat.add_assoc] at this
set_option maxHeartbeats 16000000 in
theorem rread (b room : Nat) (wv lv : Value) (A : List Nat) (D : List Ver) (base : Nat) (k1 k2 : ByteArray) (at_ : List Nat) (w : World) (hB : Blk w b (rfv room wv lv A)) (hL : OR (vk wrt) 107 w base lv D) (hD : ∀ x ∈ D, x.1.1.length = 4) (hn : D.length < 1000) (ha : at_.length = 4) :
    Calls Try.prog 23 #[.pointer (some ⟨b, 0, none⟩), .string k1, .string k2, AV .u64 at_] w fun e w' => e = .returned (.tuple #[.string (((lastD D (k1, k2) at_ false).map fun i => D.getD i vz).getD vz).2.2.2.1, SV (((lastD D (k1, k2) at_ false).map fun i => D.getD i vz).getD vz).1.1 (((lastD D (k1, k2) at_ false).map fun i => D.getD i vz).getD vz).1.2, .bool ((lastD D (k1, k2) at_ false).isSome && !(((lastD D (k1, k2) at_ false).map fun i => D.getD i vz).getD vz).2.2.2.2)]) ∧ Below w.heap.size w w' := by
  have HBB := Lib.hid hB
  have HLL := Lib.hid hL
  have HD4 := Lib.hid hD
  obtain ⟨sl, cl, ev, _⟩ := hL.is.is
  obtain ⟨n, HN⟩ : ∃ n, Hid (D.length = n) := ⟨_, rfl⟩
  have hn0 := Lib.hid hn
  rw [HN.out] at ev hn
  subst ev
  have HBL : Hid (b < w.heap.size) := blk_lt hB
  have HCC : Hid (∀ u, Below w.heap.size w u → u.cell? ⟨b, 2, none⟩ = some (.slice sl n cl)) := fun u hu => (HBB.out.below hu HBL.out).cell 2 _ rfl
  obtain ⟨h0, h1, h2, h3, rfl⟩ := V.four ha
  have HLC : Hid (∀ u, Below w.heap.size w u → Calls Try.prog 45 #[.pointer (some ⟨b, 0, none⟩), .string k1, .string k2, .agg (ks .u64 [h0, h1, h2, h3]).toArray, .bool false] u fun e w' => e = .returned (.int .i64 (bi (lastD D (k1, k2) [h0, h1, h2, h3] false))) ∧ Below u.heap.size u w') := fun u hu => rlast b room wv _ A D base k1 k2 [h0, h1, h2, h3] false u (HBB.out.below hu HBL.out) (HLL.out.below hu) HD4.out hn0.out rfl
  obtain ⟨R, HRR⟩ : ∃ R, Hid (lastD D (k1, k2) [h0, h1, h2, h3] false = R) := ⟨_, rfl⟩
  rw [HRR.out] at HLC ⊢
  clear hB hL hD ha
  go_enter Try.func23, Try.ntmps23
  go_wp2_with (first | refine blk_box rfl 57 _ rfl (ks .u64 [h0, h1, h2, h3]) rfl ?_)
  intro w1 A1 B1 Z1
  obtain ⟨bh, HBH⟩ : ∃ b, Hid (w.heap.size = b) := ⟨_, rfl⟩
  have S1 : Hid (Sep w w1 [rB bh (ks .u64 [h0, h1, h2, h3])]) := by show Sep _ _ _; rw [← HBH.out]; exact (Sep.start w).box B1 Z1 A1
  rw [HBH.out]
  clear A1 B1 Z1 HBH
  go_wp2_with (first | refine blk_alloc rfl 61 [Value.int .u64 0, .int .u64 0, .int .u64 0, .int .u64 0, .int .i64 0] rfl info_rs5 ?_)
  intro w2 A2 B2 Z2
  obtain ⟨bt, HBT⟩ : ∃ b, Hid (w1.heap.size = b) := ⟨_, rfl⟩
  have S2 : Hid (Sep w w2 [rB bt [Value.int .u64 0, .int .u64 0, .int .u64 0, .int .u64 0, .int .i64 0], rB bh (ks .u64 [h0, h1, h2, h3])]) := by show Sep _ _ _; rw [← HBT.out]; exact S1.out.box B2 Z2 A2
  rw [HBT.out]
  clear A2 B2 Z2 HBT S1
  go_wp2_with (first | refine blk_load rfl 57 _ rfl bh rfl (ks .u64 [h0, h1, h2, h3]) (S2.out.blk 1 rfl) _ Try.underlying57 rfl Try.size_r ?_)
  refine (HLC.out _ S2.out.under).mono ?_; rintro e w3 ⟨rfl, hb⟩
  have S3 := Lib.hid (S2.out.below hb)
  have HU3 := Lib.hid S3.out.under
  clear hb S2 HLC
  cases R with
  | none =>
    have hz : bi none = -1 := rfl
    rw [hz]
    go_wp2_with (first | refine blk_store rfl 61 _ _ rfl bt rfl [Value.int .u64 0, .int .u64 0, .int .u64 0, .int .u64 0, .int .i64 0] rfl _ (S3.out.blk 0 rfl) rfl Try.size_rs rfl ?_)
    intro w4 A4 U4
    have S4 : Hid (Sep w w4 [rB bt [Value.int .u64 0, .int .u64 0, .int .u64 0, .int .u64 0, .int .i64 0], rB bh (ks .u64 [h0, h1, h2, h3])]) := S3.out.upd 0 rfl U4 A4
    have HU4 := Lib.hid S4.out.under
    have HA4 := Lib.hid (S4.out.blk 0 rfl)
    clear A4 U4 S3
    go_wp2_with fail
    refine bodyPost_ret (v := .tuple #[.string ⟨#[]⟩, .agg [Value.int .u64 0, .int .u64 0, .int .u64 0, .int .u64 0, .int .i64 0].toArray, .bool false]) ?_ rfl ⟨rfl, HU4.out⟩
    exact res_tct (t := 61) Try.results23 _ bt rfl [Value.int .u64 0, .int .u64 0, .int .u64 0, .int .u64 0, .int .i64 0] HA4.out _ Try.underlying61 rfl Try.size_rs
  | some c =>
    have hz : bi (some c) = (c : Int) := rfl
    rw [hz]
    obtain ⟨hcn0, _, _⟩ := bst_some D _ HD4.out _ c (Nat.le_refl _) HRR.out
    have hcn : c < n := by rw [← HN.out]; exact hcn0
    have hx4 := HD4.out _ (getD_mem D c hcn0)
    obtain ⟨g, og, c9, hv, hg, _⟩ := IsR.at HLL.out.is c hcn0
    obtain rfl : sl = some ⟨g, og, none⟩ := by injection hv
    have HRW : Hid (∀ u, Below w.heap.size w u → u.rangeAt g (og + 9 * c) ((vk wrt).cf (D.getD c vz))) := fun u hu => by
      obtain ⟨g2, o2, c2, hv2, _, hr2⟩ := IsR.at (HLL.out.below hu).is c hcn0
      have hg6 : (some ⟨g, og, none⟩ : Option Addr) = some ⟨g2, o2, none⟩ := by injection hv2
      simp only [Option.some.injEq, Addr.mk.injEq, and_true] at hg6
      obtain ⟨rfl, rfl⟩ := hg6
      exact hr2
    have HIX : Hid (∀ w, (Instr.indexAt 76 (.slice (some ⟨g, og, none⟩) n cl) (.int .i64 (c : Int))).run Try.prog w = .ok (.pointer (some ⟨g, og + 9 * c, none⟩)) w) := fun w => index_rv g og n cl c hcn w
    obtain ⟨x, HX⟩ : ∃ x, Hid (D.getD c vz = x) := ⟨_, rfl⟩
    rw [HX.out] at HRW hx4
    skip
    obtain ⟨⟨lx, d⟩, xb, xk, xv, xg⟩ := x
    dsimp only at hx4
    obtain ⟨a0, a1, a2, a3, rfl⟩ := V.four hx4
    have c0 : ¬ (c : Int) < 0 := by omega
    clear hv hg hx4
    go_wp2_with fail
    refine region_pickC (fun u => Below w.heap.size w u) 30 [0, 1, 2, 3, 4, 5, 6, 7, 8, 9, 10, 11, 12, 13, 14, 15, 16, 17, 18, 19, 20, 21, 22, 23, 24, 25, 26, 27] [28, 29] Try.mixed (by kernel_rfl) rfl (by kernel_rfl) HU3.out.drew ?_
    refine p_readC rfl ?_
    refine c_value rfl (.pointer (some ⟨b, 0, none⟩)) (fun u hu => by go_simp) (fun _ _ _ h => h) (fun K hK => ?_)
    go_simp
    refine hK _ ?_
    clear hK K
    refine c_nil ?_
    refine p_readC rfl ?_
    refine c_value rfl (.pointer (some ⟨b, 0, none⟩)) (fun u hu => by go_simp) (fun _ _ _ h => h) (fun K hK => ?_)
    go_simp
    refine hK _ ?_
    clear hK K
    refine c_nil ?_
    refine p_readC rfl ?_
    refine c_value rfl (.pointer (some ⟨b, 2, none⟩)) (fun u hu => by go_simp) (fun _ _ _ h => h) (fun K hK => ?_)
    go_simp
    refine hK _ ?_
    clear hK K
    refine c_nil ?_
    refine p_readC rfl ?_
    refine c_value rfl (.slice (some ⟨g, og, none⟩) n cl) (fun u hu => by have hc := HCC.out u hu; go_simp) (fun _ _ _ h => h) (fun K hK => ?_)
    go_simp
    refine hK _ ?_
    clear hK K
    refine c_nil ?_
    refine p_readC rfl ?_
    refine c_value rfl (.int .i64 (c : Int)) (fun u hu => by go_simp) (fun _ _ _ h => h) (fun K hK => ?_)
    go_simp
    refine hK _ ?_
    clear hK K
    refine c_nil ?_
    refine p_readC rfl ?_
    refine c_value rfl (.pointer (some ⟨g, og + 9 * c, none⟩)) (fun u hu => by have h9 := HIX.out u; go_simp) (fun _ _ _ h => h) (fun K hK => ?_)
    go_simp
    refine hK _ ?_
    clear hK K
    refine c_nil ?_
    refine p_readC rfl ?_
    refine c_value rfl (.pointer (some ⟨g, og + 9 * c + 5, none⟩)) (fun u hu => by go_simp) (fun _ _ _ h => h) (fun K hK => ?_)
    go_simp
    refine hK _ ?_
    clear hK K
    refine c_nil ?_
    refine p_readC rfl ?_
    refine c_value rfl (.pointer (some ⟨g, og + 9 * c + 7, none⟩)) (fun u hu => by go_simp) (fun _ _ _ h => h) (fun K hK => ?_)
    go_simp
    refine hK _ ?_
    clear hK K
    refine c_nil ?_
    refine p_readC rfl ?_
    refine c_value rfl (.string xv) (fun u hu => by have hc := HRW.out u hu 7 _ rfl; go_simp) (fun _ _ _ h => h) (fun K hK => ?_)
    go_simp
    refine hK _ ?_
    clear hK K
    refine c_nil ?_
    refine p_readC rfl ?_
    refine c_value rfl (.pointer (some ⟨b, 0, none⟩)) (fun u hu => by go_simp) (fun _ _ _ h => h) (fun K hK => ?_)
    go_simp
    refine hK _ ?_
    clear hK K
    refine c_nil ?_
    refine p_readC rfl ?_
    refine c_value rfl (.pointer (some ⟨b, 0, none⟩)) (fun u hu => by go_simp) (fun _ _ _ h => h) (fun K hK => ?_)
    go_simp
    refine hK _ ?_
    clear hK K
    refine c_nil ?_
    refine p_readC rfl ?_
    refine c_value rfl (.pointer (some ⟨b, 2, none⟩)) (fun u hu => by go_simp) (fun _ _ _ h => h) (fun K hK => ?_)
    go_simp
    refine hK _ ?_
    clear hK K
    refine c_nil ?_
    refine p_readC rfl ?_
    refine c_value rfl (.slice (some ⟨g, og, none⟩) n cl) (fun u hu => by have hc := HCC.out u hu; go_simp) (fun _ _ _ h => h) (fun K hK => ?_)
    go_simp
    refine hK _ ?_
    clear hK K
    refine c_nil ?_
    refine p_readC rfl ?_
    refine c_value rfl (.int .i64 (c : Int)) (fun u hu => by go_simp) (fun _ _ _ h => h) (fun K hK => ?_)
    go_simp
    refine hK _ ?_
    clear hK K
    refine c_nil ?_
    refine p_readC rfl ?_
    refine c_value rfl (.pointer (some ⟨g, og + 9 * c, none⟩)) (fun u hu => by have h9 := HIX.out u; go_simp) (fun _ _ _ h => h) (fun K hK => ?_)
    go_simp
    refine hK _ ?_
    clear hK K
    refine c_nil ?_
    refine p_readC rfl ?_
    refine c_value rfl (.pointer (some ⟨g, og + 9 * c, none⟩)) (fun u hu => by go_simp) (fun _ _ _ h => h) (fun K hK => ?_)
    go_simp
    refine hK _ ?_
    clear hK K
    refine c_nil ?_
    refine p_readC rfl ?_
    refine c_mid_load rfl 61 _ rfl g (og + 9 * c) rfl [Value.int .u64 (a0 : Int), .int .u64 (a1 : Int), .int .u64 (a2 : Int), .int .u64 (a3 : Int), .int .i64 d] (fun u hu => rng_pre (vs := [Value.string xb, .string xk, .string xv, .bool xg]) (HRW.out u hu)) _ Try.underlying61 rfl Try.size_rs (fun _ _ _ h => h) (fun K hK => ?_)
    go_simp
    refine hK _ ?_
    clear hK K
    refine c_nil ?_
    refine p_readC rfl ?_
    refine c_value rfl (.pointer (some ⟨b, 0, none⟩)) (fun u hu => by go_simp) (fun _ _ _ h => h) (fun K hK => ?_)
    go_simp
    refine hK _ ?_
    clear hK K
    refine c_nil ?_
    refine p_readC rfl ?_
    refine c_value rfl (.pointer (some ⟨b, 0, none⟩)) (fun u hu => by go_simp) (fun _ _ _ h => h) (fun K hK => ?_)
    go_simp
    refine hK _ ?_
    clear hK K
    refine c_nil ?_
    refine p_readC rfl ?_
    refine c_value rfl (.pointer (some ⟨b, 2, none⟩)) (fun u hu => by go_simp) (fun _ _ _ h => h) (fun K hK => ?_)
    go_simp
    refine hK _ ?_
    clear hK K
    refine c_nil ?_
    refine p_readC rfl ?_
    refine c_value rfl (.slice (some ⟨g, og, none⟩) n cl) (fun u hu => by have hc := HCC.out u hu; go_simp) (fun _ _ _ h => h) (fun K hK => ?_)
    go_simp
    refine hK _ ?_
    clear hK K
    refine c_nil ?_
    refine p_readC rfl ?_
    refine c_value rfl (.int .i64 (c : Int)) (fun u hu => by go_simp) (fun _ _ _ h => h) (fun K hK => ?_)
    go_simp
    refine hK _ ?_
    clear hK K
    refine c_nil ?_
    refine p_readC rfl ?_
    refine c_value rfl (.pointer (some ⟨g, og + 9 * c, none⟩)) (fun u hu => by have h9 := HIX.out u; go_simp) (fun _ _ _ h => h) (fun K hK => ?_)
    go_simp
    refine hK _ ?_
    clear hK K
    refine c_nil ?_
    refine p_readC rfl ?_
    refine c_value rfl (.pointer (some ⟨g, og + 9 * c + 5, none⟩)) (fun u hu => by go_simp) (fun _ _ _ h => h) (fun K hK => ?_)
    go_simp
    refine hK _ ?_
    clear hK K
    refine c_nil ?_
    refine p_readC rfl ?_
    refine c_value rfl (.pointer (some ⟨g, og + 9 * c + 8, none⟩)) (fun u hu => by go_simp) (fun _ _ _ h => h) (fun K hK => ?_)
    go_simp
    refine hK _ ?_
    clear hK K
    refine c_nil ?_
    refine p_readC rfl ?_
    refine c_value rfl (.bool xg) (fun u hu => by have hc := HRW.out u hu 8 _ rfl; go_simp) (fun _ _ _ h => h) (fun K hK => ?_)
    go_simp
    refine hK _ ?_
    clear hK K
    refine c_nil ?_
    refine p_readC rfl ?_
    refine c_value rfl (.bool (!xg)) (fun u hu => by go_simp) (fun _ _ _ h => h) (fun K hK => ?_)
    go_simp
    refine hK _ ?_
    clear hK K
    refine c_nil ?_
    refine p_readC rfl ?_
    refine c_value rfl (.string xv) (fun u hu => by go_simp) (fun _ _ _ h => h) (fun K hK => ?_)
    go_simp
    refine hK _ ?_
    clear hK K
    refine c_nil ?_
    refine p_nilC ?_
    refine p_stepC rfl ?_
    have S3d := Lib.hid (S3.out.below ((Below.refl w3.heap.size w3).drew))
    refine blk_store rfl 61 _ _ rfl bt rfl [Value.int .u64 (a0 : Int), .int .u64 (a1 : Int), .int .u64 (a2 : Int), .int .u64 (a3 : Int), .int .i64 d] rfl _ (S3d.out.blk 0 rfl) rfl Try.size_rs rfl ?_
    intro w4 A4 U4
    have S4 : Hid (Sep w w4 [rB bt [Value.int .u64 (a0 : Int), .int .u64 (a1 : Int), .int .u64 (a2 : Int), .int .u64 (a3 : Int), .int .i64 d], rB bh (ks .u64 [h0, h1, h2, h3])]) := S3d.out.upd 0 rfl U4 A4
    have HU4 := Lib.hid S4.out.under
    have HA4 := Lib.hid (S4.out.blk 0 rfl)
    clear A4 U4 S3 S3d
    go_wp2_with fail
    refine And.intro (fun _ => HU4.out) ?_
    refine p_stepC rfl ?_
    go_wp2_with fail
    refine And.intro (fun _ => HU4.out) ?_
    refine p_endC ?_
    go_wp2_with fail
    refine bodyPost_ret (v := .tuple #[.string xv, .agg [Value.int .u64 (a0 : Int), .int .u64 (a1 : Int), .int .u64 (a2 : Int), .int .u64 (a3 : Int), .int .i64 d].toArray, .bool (!xg)]) ?_ rfl ⟨by rw [Option.map_some, Option.getD_some, HX.out]; rfl, HU4.out⟩
    exact res_tct (t := 61) Try.results23 _ bt rfl [Value.int .u64 (a0 : Int), .int .u64 (a1 : Int), .int .u64 (a2 : Int), .int .u64 (a3 : Int), .int .i64 d] HA4.out _ Try.underlying61 rfl Try.size_rs
set_option maxHeartbeats 16000000 in
theorem rlastv (b room : Nat) (wv lv : Value) (A : List Nat) (D : List Ver) (base : Nat) (k1 k2 : ByteArray) (w : World) (hB : Blk w b (rfv room wv lv A)) (hL : OR (vk wrt) 107 w base lv D) (hD : ∀ x ∈ D, x.1.1.length = 4) (hn : D.length < 1000) :
    Calls Try.prog 25 #[.pointer (some ⟨b, 0, none⟩), .string k1, .string k2] w fun e w' => e = .returned (.tuple #[WV (((lastD D (k1, k2) V.zeros true).map fun i => D.getD i vz).getD vz).2, SV (((lastD D (k1, k2) V.zeros true).map fun i => D.getD i vz).getD vz).1.1 (((lastD D (k1, k2) V.zeros true).map fun i => D.getD i vz).getD vz).1.2, .bool (lastD D (k1, k2) V.zeros true).isSome]) ∧ Below w.heap.size w w' := by
  have HBB := Lib.hid hB
  have HLL := Lib.hid hL
  have HD4 := Lib.hid hD
  obtain ⟨sl, cl, ev, _⟩ := hL.is.is
  obtain ⟨n, HN⟩ : ∃ n, Hid (D.length = n) := ⟨_, rfl⟩
  have hn0 := Lib.hid hn
  rw [HN.out] at ev hn
  subst ev
  have HBL : Hid (b < w.heap.size) := blk_lt hB
  have HCC : Hid (∀ u, Below w.heap.size w u → u.cell? ⟨b, 2, none⟩ = some (.slice sl n cl)) := fun u hu => (HBB.out.below hu HBL.out).cell 2 _ rfl
  have HLC : Hid (∀ u, Below w.heap.size w u → Calls Try.prog 45 #[.pointer (some ⟨b, 0, none⟩), .string k1, .string k2, .agg [Value.int .u64 0, .int .u64 0, .int .u64 0, .int .u64 0].toArray, .bool true] u fun e w' => e = .returned (.int .i64 (bi (lastD D (k1, k2) V.zeros true))) ∧ Below u.heap.size u w') := fun u hu => rlast b room wv _ A D base k1 k2 V.zeros true u (HBB.out.below hu HBL.out) (HLL.out.below hu) HD4.out hn0.out rfl
  obtain ⟨R, HRR⟩ : ∃ R, Hid (lastD D (k1, k2) V.zeros true = R) := ⟨_, rfl⟩
  rw [HRR.out] at HLC ⊢
  clear hB hL hD
  go_enter Try.func25, Try.ntmps25
  go_wp2_with (first | refine blk_alloc rfl 71 [Value.string ⟨#[]⟩, .string ⟨#[]⟩, .string ⟨#[]⟩, .bool false] rfl info_rw4 ?_)
  intro w1 A1 B1 Z1
  obtain ⟨bw, HBW⟩ : ∃ b, Hid (w.heap.size = b) := ⟨_, rfl⟩
  have S1 : Hid (Sep w w1 [rB bw [Value.string ⟨#[]⟩, .string ⟨#[]⟩, .string ⟨#[]⟩, .bool false]]) := by show Sep _ _ _; rw [← HBW.out]; exact (Sep.start w).box B1 Z1 A1
  rw [HBW.out]
  clear A1 B1 Z1 HBW
  go_wp2_with (first | refine blk_alloc rfl 61 [Value.int .u64 0, .int .u64 0, .int .u64 0, .int .u64 0, .int .i64 0] rfl info_rs5 ?_)
  intro w2 A2 B2 Z2
  obtain ⟨bt, HBT⟩ : ∃ b, Hid (w1.heap.size = b) := ⟨_, rfl⟩
  have S2 : Hid (Sep w w2 [rB bt [Value.int .u64 0, .int .u64 0, .int .u64 0, .int .u64 0, .int .i64 0], rB bw [Value.string ⟨#[]⟩, .string ⟨#[]⟩, .string ⟨#[]⟩, .bool false]]) := by show Sep _ _ _; rw [← HBT.out]; exact S1.out.box B2 Z2 A2
  rw [HBT.out]
  clear A2 B2 Z2 HBT S1
  go_wp2_with fail
  refine (HLC.out _ S2.out.under).mono ?_; rintro e w3 ⟨rfl, hb⟩
  have S3 := Lib.hid (S2.out.below hb)
  have HU3 := Lib.hid S3.out.under
  clear hb S2 HLC
  cases R with
  | none =>
    have hz : bi none = -1 := rfl
    rw [hz]
    go_wp2_with (first | refine blk_store rfl 71 _ _ rfl bw rfl [Value.string ⟨#[]⟩, .string ⟨#[]⟩, .string ⟨#[]⟩, .bool false] rfl _ (S3.out.blk 1 rfl) rfl size_rw4 rfl ?_)
    intro w4 A4 U4
    have S4 : Hid (Sep w w4 [rB bt [Value.int .u64 0, .int .u64 0, .int .u64 0, .int .u64 0, .int .i64 0], rB bw [Value.string ⟨#[]⟩, .string ⟨#[]⟩, .string ⟨#[]⟩, .bool false]]) := S3.out.upd 1 rfl U4 A4
    clear A4 U4 S3
    go_wp2_with (first | refine blk_store rfl 61 _ _ rfl bt rfl [Value.int .u64 0, .int .u64 0, .int .u64 0, .int .u64 0, .int .i64 0] rfl _ (S4.out.blk 0 rfl) rfl Try.size_rs rfl ?_)
    intro w5 A4 U4
    have S5_ : Hid (Sep w w5 [rB bt [Value.int .u64 0, .int .u64 0, .int .u64 0, .int .u64 0, .int .i64 0], rB bw [Value.string ⟨#[]⟩, .string ⟨#[]⟩, .string ⟨#[]⟩, .bool false]]) := S4.out.upd 0 rfl U4 A4
    have HU4 := Lib.hid S5_.out.under
    have HA4 := Lib.hid (S5_.out.blk 0 rfl)
    have HA5 := Lib.hid (S5_.out.blk 1 rfl)
    clear A4 U4 S4
    go_wp2_with fail
    refine bodyPost_ret (v := .tuple #[.agg [Value.string ⟨#[]⟩, .string ⟨#[]⟩, .string ⟨#[]⟩, .bool false].toArray, .agg [Value.int .u64 0, .int .u64 0, .int .u64 0, .int .u64 0, .int .i64 0].toArray, .bool false]) ?_ rfl ⟨rfl, HU4.out⟩
    exact res_cct (t := 71) (t' := 61) Try.results25 _ bw bt rfl rfl [Value.string ⟨#[]⟩, .string ⟨#[]⟩, .string ⟨#[]⟩, .bool false] [Value.int .u64 0, .int .u64 0, .int .u64 0, .int .u64 0, .int .i64 0] HA5.out HA4.out _ _ Try.underlying71 rfl size_rw4 Try.underlying61 rfl Try.size_rs
  | some c =>
    have hz : bi (some c) = (c : Int) := rfl
    rw [hz]
    obtain ⟨hcn0, _, _⟩ := bst_some D _ HD4.out _ c (Nat.le_refl _) HRR.out
    have hcn : c < n := by rw [← HN.out]; exact hcn0
    have hx4 := HD4.out _ (getD_mem D c hcn0)
    obtain ⟨g, og, c9, hv, hg, _⟩ := IsR.at HLL.out.is c hcn0
    obtain rfl : sl = some ⟨g, og, none⟩ := by injection hv
    have HRW : Hid (∀ u, Below w.heap.size w u → u.rangeAt g (og + 9 * c) ((vk wrt).cf (D.getD c vz))) := fun u hu => by
      obtain ⟨g2, o2, c2, hv2, _, hr2⟩ := IsR.at (HLL.out.below hu).is c hcn0
      have hg6 : (some ⟨g, og, none⟩ : Option Addr) = some ⟨g2, o2, none⟩ := by injection hv2
      simp only [Option.some.injEq, Addr.mk.injEq, and_true] at hg6
      obtain ⟨rfl, rfl⟩ := hg6
      exact hr2
    have HIX : Hid (∀ w, (Instr.indexAt 76 (.slice (some ⟨g, og, none⟩) n cl) (.int .i64 (c : Int))).run Try.prog w = .ok (.pointer (some ⟨g, og + 9 * c, none⟩)) w) := fun w => index_rv g og n cl c hcn w
    obtain ⟨x, HX⟩ : ∃ x, Hid (D.getD c vz = x) := ⟨_, rfl⟩
    rw [HX.out] at HRW hx4
    skip
    obtain ⟨⟨lx, d⟩, xb, xk, xv, xg⟩ := x
    dsimp only at hx4
    obtain ⟨a0, a1, a2, a3, rfl⟩ := V.four hx4
    have c0 : ¬ (c : Int) < 0 := by omega
    clear hv hg hx4
    go_wp2_with fail
    refine region_pickC (fun u => Below w.heap.size w u) 19 [0, 1, 2, 3, 4, 5, 6, 7, 8, 9, 10, 11, 12, 13, 14, 15] [16, 17, 18] Try.mixed (by kernel_rfl) rfl (by kernel_rfl) HU3.out.drew ?_
    refine p_readC rfl ?_
    refine c_value rfl (.pointer (some ⟨b, 0, none⟩)) (fun u hu => by go_simp) (fun _ _ _ h => h) (fun K hK => ?_)
    go_simp
    refine hK _ ?_
    clear hK K
    refine c_nil ?_
    refine p_readC rfl ?_
    refine c_value rfl (.pointer (some ⟨b, 0, none⟩)) (fun u hu => by go_simp) (fun _ _ _ h => h) (fun K hK => ?_)
    go_simp
    refine hK _ ?_
    clear hK K
    refine c_nil ?_
    refine p_readC rfl ?_
    refine c_value rfl (.pointer (some ⟨b, 2, none⟩)) (fun u hu => by go_simp) (fun _ _ _ h => h) (fun K hK => ?_)
    go_simp
    refine hK _ ?_
    clear hK K
    refine c_nil ?_
    refine p_readC rfl ?_
    refine c_value rfl (.slice (some ⟨g, og, none⟩) n cl) (fun u hu => by have hc := HCC.out u hu; go_simp) (fun _ _ _ h => h) (fun K hK => ?_)
    go_simp
    refine hK _ ?_
    clear hK K
    refine c_nil ?_
    refine p_readC rfl ?_
    refine c_value rfl (.int .i64 (c : Int)) (fun u hu => by go_simp) (fun _ _ _ h => h) (fun K hK => ?_)
    go_simp
    refine hK _ ?_
    clear hK K
    refine c_nil ?_
    refine p_readC rfl ?_
    refine c_value rfl (.pointer (some ⟨g, og + 9 * c, none⟩)) (fun u hu => by have h9 := HIX.out u; go_simp) (fun _ _ _ h => h) (fun K hK => ?_)
    go_simp
    refine hK _ ?_
    clear hK K
    refine c_nil ?_
    refine p_readC rfl ?_
    refine c_value rfl (.pointer (some ⟨g, og + 9 * c + 5, none⟩)) (fun u hu => by go_simp) (fun _ _ _ h => h) (fun K hK => ?_)
    go_simp
    refine hK _ ?_
    clear hK K
    refine c_nil ?_
    refine p_readC rfl ?_
    refine c_mid_load rfl 71 _ rfl g (og + 9 * c + 5) rfl [Value.string xb, .string xk, .string xv, .bool xg] (fun u hu => rng_post (us := [Value.int .u64 (a0 : Int), .int .u64 (a1 : Int), .int .u64 (a2 : Int), .int .u64 (a3 : Int), .int .i64 d]) (HRW.out u hu)) _ Try.underlying71 rfl size_rw4 (fun _ _ _ h => h) (fun K hK => ?_)
    go_simp
    refine hK _ ?_
    clear hK K
    refine c_nil ?_
    refine p_readC rfl ?_
    refine c_value rfl (.pointer (some ⟨b, 0, none⟩)) (fun u hu => by go_simp) (fun _ _ _ h => h) (fun K hK => ?_)
    go_simp
    refine hK _ ?_
    clear hK K
    refine c_nil ?_
    refine p_readC rfl ?_
    refine c_value rfl (.pointer (some ⟨b, 0, none⟩)) (fun u hu => by go_simp) (fun _ _ _ h => h) (fun K hK => ?_)
    go_simp
    refine hK _ ?_
    clear hK K
    refine c_nil ?_
    refine p_readC rfl ?_
    refine c_value rfl (.pointer (some ⟨b, 2, none⟩)) (fun u hu => by go_simp) (fun _ _ _ h => h) (fun K hK => ?_)
    go_simp
    refine hK _ ?_
    clear hK K
    refine c_nil ?_
    refine p_readC rfl ?_
    refine c_value rfl (.slice (some ⟨g, og, none⟩) n cl) (fun u hu => by have hc := HCC.out u hu; go_simp) (fun _ _ _ h => h) (fun K hK => ?_)
    go_simp
    refine hK _ ?_
    clear hK K
    refine c_nil ?_
    refine p_readC rfl ?_
    refine c_value rfl (.int .i64 (c : Int)) (fun u hu => by go_simp) (fun _ _ _ h => h) (fun K hK => ?_)
    go_simp
    refine hK _ ?_
    clear hK K
    refine c_nil ?_
    refine p_readC rfl ?_
    refine c_value rfl (.pointer (some ⟨g, og + 9 * c, none⟩)) (fun u hu => by have h9 := HIX.out u; go_simp) (fun _ _ _ h => h) (fun K hK => ?_)
    go_simp
    refine hK _ ?_
    clear hK K
    refine c_nil ?_
    refine p_readC rfl ?_
    refine c_value rfl (.pointer (some ⟨g, og + 9 * c, none⟩)) (fun u hu => by go_simp) (fun _ _ _ h => h) (fun K hK => ?_)
    go_simp
    refine hK _ ?_
    clear hK K
    refine c_nil ?_
    refine p_readC rfl ?_
    refine c_mid_load rfl 61 _ rfl g (og + 9 * c) rfl [Value.int .u64 (a0 : Int), .int .u64 (a1 : Int), .int .u64 (a2 : Int), .int .u64 (a3 : Int), .int .i64 d] (fun u hu => rng_pre (vs := [Value.string xb, .string xk, .string xv, .bool xg]) (HRW.out u hu)) _ Try.underlying61 rfl Try.size_rs (fun _ _ _ h => h) (fun K hK => ?_)
    go_simp
    refine hK _ ?_
    clear hK K
    refine c_nil ?_
    refine p_nilC ?_
    refine p_stepC rfl ?_
    have S3d := Lib.hid (S3.out.below ((Below.refl w3.heap.size w3).drew))
    refine blk_store rfl 71 _ _ rfl bw rfl [Value.string xb, .string xk, .string xv, .bool xg] rfl _ (S3d.out.blk 1 rfl) rfl size_rw4 rfl ?_
    intro w4 A4 U4
    have S4 : Hid (Sep w w4 [rB bt [Value.int .u64 0, .int .u64 0, .int .u64 0, .int .u64 0, .int .i64 0], rB bw [Value.string xb, .string xk, .string xv, .bool xg]]) := S3d.out.upd 1 rfl U4 A4
    have HU4 := Lib.hid S4.out.under
    clear A4 U4 S3 S3d
    go_wp2_with fail
    refine And.intro (fun _ => HU4.out) ?_
    refine p_stepC rfl ?_
    refine blk_store rfl 61 _ _ rfl bt rfl [Value.int .u64 (a0 : Int), .int .u64 (a1 : Int), .int .u64 (a2 : Int), .int .u64 (a3 : Int), .int .i64 d] rfl _ (S4.out.blk 0 rfl) rfl Try.size_rs rfl ?_
    intro w5 A4 U4
    have S5_ : Hid (Sep w w5 [rB bt [Value.int .u64 (a0 : Int), .int .u64 (a1 : Int), .int .u64 (a2 : Int), .int .u64 (a3 : Int), .int .i64 d], rB bw [Value.string xb, .string xk, .string xv, .bool xg]]) := S4.out.upd 0 rfl U4 A4
    have HU5 := Lib.hid S5_.out.under
    have HA4 := Lib.hid (S5_.out.blk 0 rfl)
    have HA5 := Lib.hid (S5_.out.blk 1 rfl)
    clear A4 U4 S4
    go_wp2_with fail
    refine And.intro (fun _ => HU5.out) ?_
    refine p_stepC rfl ?_
    go_wp2_with fail
    refine And.intro (fun _ => HU5.out) ?_
    refine p_endC ?_
    go_wp2_with fail
    refine bodyPost_ret (v := .tuple #[.agg [Value.string xb, .string xk, .string xv, .bool xg].toArray, .agg [Value.int .u64 (a0 : Int), .int .u64 (a1 : Int), .int .u64 (a2 : Int), .int .u64 (a3 : Int), .int .i64 d].toArray, .bool true]) ?_ rfl ⟨by rw [Option.map_some, Option.getD_some, HX.out]; rfl, HU5.out⟩
    exact res_cct (t := 71) (t' := 61) Try.results25 _ bw bt rfl rfl [Value.string xb, .string xk, .string xv, .bool xg] [Value.int .u64 (a0 : Int), .int .u64 (a1 : Int), .int .u64 (a2 : Int), .int .u64 (a3 : Int), .int .i64 d] HA5.out HA4.out _ _ Try.underlying71 rfl size_rw4 Try.underlying61 rfl Try.size_rs
end Go.Proofs.Ytohcdonmdnjgoaa.Sd

namespace Go.Proofs.Ytohcdonmdnjgoaa.Sd

open Go.RowKit Go.Proofs.Ytohcdonmdnjgoaa.Vc Go.Proofs.Ytohcdonmdnjgoaa.Sp Go.Proofs.Ytohcdonmdnjgoaa.Rw Go.Proofs.Ytohcdonmdnjgoaa.Ch Go.Proofs.Ytohcdonmdnjgoaa.Se Go.Proofs.Ytohcdonmdnjgoaa.It Go.Proofs.Ytohcdonmdnjgoaa.Mk

set_option linter.unusedVariables false

set_option linter.unusedSimpArgs false

set_option maxRecDepth 100000

theorem rnew_yes (r : Nat) (w : World) (h1 : 1 ≤ r) (h2 : r ≤ 16) :
    Calls Try.prog 10 #[.int .i64 (r : Int)] w fun e w' => e = .returned (.pointer (some ⟨w.heap.size, 0, none⟩)) ∧ Blk w' w.heap.size (rfv r (.slice none 0 0) (.slice none 0 0) V.zeros) ∧ Below w.heap.size w w' ∧ w'.heap.size = w.heap.size + 1 := by
  go_enter Try.func10, Try.ntmps10
  go_wp2_with (first | refine blk_box rfl 78 _ rfl [.int .i64 (r : Int), .slice none 0 0, .slice none 0 0, .int .u64 0, .int .u64 0, .int .u64 0, .int .u64 0] rfl ?_)
  intro w1 hB hb hz
  have HB := Lib.hid hB
  have HW := Lib.hid hb
  have HZ := Lib.hid hz
  clear hB hb hz
  go_wp2_with fail
  go_ret
  exact ⟨rfl, HB.out, HW.out, HZ.out⟩
theorem rnew_no (r : Int) (w : World) (h : r < 1 ∨ 16 < r) :
    Calls Try.prog 10 #[.int .i64 r] w fun e w' => e = .returned (.pointer none) ∧ w' = w := by
  go_enter Try.func10, Try.ntmps10
  by_cases h0 : r < 1
  · go_wp2_with fail
    go_ret
    exact ⟨rfl, rfl⟩
  · have h1 : (16 : Int) < r := by omega
    go_wp2_with fail
    go_ret
    exact ⟨rfl, rfl⟩
theorem inf_rv : (Try.prog.info? 107).map (fun i => (i.zero, i.size, i.bytes)) = some (some ((vk wrt).val (vk wrt).none_), (vk wrt).k, 96) := by
  show _ = some (some (Value.agg #[.int .u64 0, .int .u64 0, .int .u64 0, .int .u64 0, .int .i64 0, .string ⟨#[]⟩, .string ⟨#[]⟩, .string ⟨#[]⟩, .bool false]), 9, 96)
  kernel_rfl
theorem zc_rv : ((vk wrt).val (vk wrt).none_).cells.size = (vk wrt).k := rfl
theorem size_rv9 : (Try.prog.info? 107).map (·.size) = some 9 := by kernel_rfl
theorem same_st (a b : C.St) : T.same a.1 a.2 b.1 b.2 = decide (a = b) := by
  unfold T.same
  obtain ⟨x, y⟩ := a
  obtain ⟨z, t⟩ := b
  simp [Prod.ext_iff]
theorem hasD_take (D : List Ver) (s : C.St) (n : Nm) (i : Nat) (hi : i < D.length) : hasD (D.take (i + 1)) s n = (hasD (D.take i) s n || (decide ((D.getD i vz).1 = s) && decide (dkey (D.getD i vz) = n))) := by
  unfold hasD
  rw [List.take_succ_eq_append_getElem hi, List.any_append, List.getD_eq_getElem?_getD, List.getElem?_eq_getElem hi]
  simp
set_option maxHeartbeats 16000000 in
theorem radd {w0 w : World} {b room : Nat} {wv lv : Value} {A : List Nat} {D : List Ver} {R : List Rg} (st : C.St) (y : I.Wt) (hS : Sep w0 w (rB b (rfv room wv lv A) :: rO (vk wrt) 107 w0.heap.size lv D :: R)) (hD : ∀ x ∈ D, x.1.1.length = 4) (hn : D.length < 1000) (hs : st.1.length = 4) :
    Calls Try.prog 40 #[.pointer (some ⟨b, 0, none⟩), .agg ((vk wrt).cf (st, y)).toArray] w fun e w' => e = .returned (.tuple #[]) ∧ ∃ lv', Sep w0 w' (rB b (rfv room wv lv' A) :: rO (vk wrt) 107 w0.heap.size lv' (addD D st y) :: R) := by
  obtain ⟨ls, e⟩ := st
  obtain ⟨yb, yk, yv, yg⟩ := y
  dsimp only at hs
  obtain ⟨s0, s1, s2, s3, rfl⟩ := V.four hs
  have HS := Lib.hid hS
  have HD4 := Lib.hid hD
  have hL : OR (vk wrt) 107 w w0.heap.size lv D := hS.or 1 rfl
  obtain ⟨sl, cl, ev, _⟩ := hL.is.is
  obtain ⟨n, HN⟩ : ∃ n, Hid (D.length = n) := ⟨_, rfl⟩
  rw [HN.out] at ev hn
  subst ev
  have HLL := Lib.hid hL
  have HBB := Lib.hid (hS.blk 0 rfl)
  have HBL : Hid (b < w.heap.size) := (hS.lt 0 rfl b (by simp [rB])).2
  have HCC : Hid (∀ u, Below w.heap.size w u → u.cell? ⟨b, 2, none⟩ = some (.slice sl n cl)) := fun u hu => (HBB.out.below hu HBL.out).cell 2 _ rfl
  clear hL hS hD hs
  go_enter Try.func40, Try.ntmps40
  go_wp2_with (first | refine blk_box rfl 107 _ rfl [Value.int .u64 (s0 : Int), .int .u64 (s1 : Int), .int .u64 (s2 : Int), .int .u64 (s3 : Int), .int .i64 e, .string yb, .string yk, .string yv, .bool yg] rfl ?_)
  intro w1 A1 B1 Z1
  obtain ⟨bx, HBX⟩ : ∃ b, Hid (w.heap.size = b) := ⟨_, rfl⟩
  have S1 : Hid (Sep w w1 [rB bx [Value.int .u64 (s0 : Int), .int .u64 (s1 : Int), .int .u64 (s2 : Int), .int .u64 (s3 : Int), .int .i64 e, .string yb, .string yk, .string yv, .bool yg]]) := by show Sep _ _ _; rw [← HBX.out]; exact (Sep.start w).box B1 Z1 A1
  have HBXE : Hid (w.heap.size ≤ bx) := Nat.le_of_eq HBX.out
  rw [HBX.out]
  clear A1 B1 Z1 HBX
  go_wp2_with fail
  go_loopw [4] (fun iv wr => ∃ (i : Nat), i ≤ n ∧ iv = .int .i64 (i : Int) ∧ Hid (hasD (D.take i) ([s0, s1, s2, s3], e) (yb, yk) = false) ∧ Hid (Sep w wr [rB bx [Value.int .u64 (s0 : Int), .int .u64 (s1 : Int), .int .u64 (s2 : Int), .int .u64 (s3 : Int), .int .i64 e, .string yb, .string yk, .string yv, .bool yg]])) (fun iv _ => n - (intOf iv).toNat)
  case atStart => exact ⟨0, by omega, rfl, rfl, S1⟩
  case round =>
    obtain ⟨i, hin, rfl, HH, Sr⟩ := hrel
    clear S1
    have cc := HCC.out _ Sr.out.under
    by_cases hlt : i < n
    · have i1 : (i : Int) < (n : Int) := by omega
      have hx4 := HD4.out _ (getD_mem D i (by rw [HN.out]; exact hlt))
      obtain ⟨g, og, c9, hv, hg, _⟩ := IsR.at (HLL.out.below Sr.out.under).is i (by rw [HN.out]; exact hlt)
      obtain rfl : sl = some ⟨g, og, none⟩ := by injection hv
      have hrx : ∀ u, Below w.heap.size w u → u.rangeAt g (og + 9 * i) ((vk wrt).cf (D.getD i vz)) := fun u hu => by
        obtain ⟨g2, o2, c2, hv2, _, hr2⟩ := IsR.at (HLL.out.below hu).is i (by rw [HN.out]; exact hlt)
        have hg6 : (some ⟨g, og, none⟩ : Option Addr) = some ⟨g2, o2, none⟩ := by injection hv2
        simp only [Option.some.injEq, Addr.mk.injEq, and_true] at hg6
        obtain ⟨rfl, rfl⟩ := hg6
        exact hr2
      have HIX : Hid (∀ j, j < n → ∀ w, (Instr.indexAt 76 (.slice (some ⟨g, og, none⟩) n cl) (.int .i64 (j : Int))).run Try.prog w = .ok (.pointer (some ⟨g, og + 9 * j, none⟩)) w) := fun j hj w => index_rv g og n cl j hj w
      have HTK := Lib.hid (hasD_take D ([s0, s1, s2, s3], e) (yb, yk) i (by rw [HN.out]; exact hlt))
      rw [HH.out, Bool.false_or] at HTK
      obtain ⟨x, HX⟩ : ∃ x, Hid (D.getD i vz = x) := ⟨_, rfl⟩
      rw [HX.out] at hrx hx4 HTK
      clear hv hg
      obtain ⟨⟨lx, d⟩, xb, xk, xv, xg⟩ := x
      dsimp only at hx4
      obtain ⟨a0, a1, a2, a3, rfl⟩ := V.four hx4
      have HRX : Hid (∀ u, Below wr.heap.size wr u → u.rangeAt g (og + 9 * i) [Value.int .u64 (a0 : Int), .int .u64 (a1 : Int), .int .u64 (a2 : Int), .int .u64 (a3 : Int), .int .i64 d, .string xb, .string xk, .string xv, .bool xg]) := fun u hu => hrx u (Below.trans Sr.out.under (hu.mono Sr.out.size))
      have HC2 : Hid (∀ u, Below wr.heap.size wr u → u.cell? ⟨b, 2, none⟩ = some (.slice (some ⟨g, og, none⟩) n cl)) := fun u hu => HCC.out u (Below.trans Sr.out.under (hu.mono Sr.out.size))
      have HRY : Hid (∀ u, Below wr.heap.size wr u → u.rangeAt bx 0 [Value.int .u64 (s0 : Int), .int .u64 (s1 : Int), .int .u64 (s2 : Int), .int .u64 (s3 : Int), .int .i64 e, .string yb, .string yk, .string yv, .bool yg]) := fun u hu => ((Sr.out.below hu).blk 0 rfl).1
      obtain ⟨q, HQ⟩ : ∃ q, Hid (T.same [a0, a1, a2, a3] d [s0, s1, s2, s3] e = q) := ⟨_, rfl⟩
      have hqd := HQ.out
      rw [show T.same [a0, a1, a2, a3] d [s0, s1, s2, s3] e = decide ((([a0, a1, a2, a3], d) : C.St) = ([s0, s1, s2, s3], e)) from same_st (([a0, a1, a2, a3], d) : C.St) ([s0, s1, s2, s3], e)] at hqd
      rw [hqd] at HTK
      have HKY : Hid (decide (dkey (((([a0, a1, a2, a3], d) : C.St), (xb, xk, xv, xg)) : Ver) = (yb, yk)) = decide (((xb, xk) : Nm) = (yb, yk))) := rfl
      rw [HKY.out] at HTK
      clear hrx hqd
      cases q with
      | false =>
        go_wp2_with fail
        refine region_w Try.mixed (by kernel_rfl) ?_
        refine w_value rfl (.pointer (some ⟨b, 0, none⟩)) (fun u hu => by go_simp) (fun K hK => ?_)
        go_simp
        refine hK _ ?_
        clear hK K
        refine w_value rfl (.pointer (some ⟨b, 0, none⟩)) (fun u hu => by go_simp) (fun K hK => ?_)
        go_simp
        refine hK _ ?_
        clear hK K
        refine w_value rfl (.pointer (some ⟨b, 2, none⟩)) (fun u hu => by go_simp) (fun K hK => ?_)
        go_simp
        refine hK _ ?_
        clear hK K
        refine w_value rfl (.slice (some ⟨g, og, none⟩) n cl) (fun u hu => by have hc := HC2.out u hu; go_simp) (fun K hK => ?_)
        go_simp
        refine hK _ ?_
        clear hK K
        refine w_value rfl (.int .i64 (i : Int)) (fun u hu => by go_simp) (fun K hK => ?_)
        go_simp
        refine hK _ ?_
        clear hK K
        refine w_value rfl (.pointer (some ⟨g, og + 9 * i, none⟩)) (fun u hu => by have h9 := HIX.out i hlt u; go_simp) (fun K hK => ?_)
        go_simp
        refine hK _ ?_
        clear hK K
        refine w_value rfl (.pointer (some ⟨g, og + 9 * i, none⟩)) (fun u hu => by go_simp) (fun K hK => ?_)
        go_simp
        refine hK _ ?_
        clear hK K
        refine w_mid_load rfl 61 _ rfl g (og + 9 * i) rfl [Value.int .u64 (a0 : Int), .int .u64 (a1 : Int), .int .u64 (a2 : Int), .int .u64 (a3 : Int), .int .i64 d] (fun u hu => rng_pre (vs := [Value.string xb, .string xk, .string xv, .bool xg]) (HRX.out u hu)) _ Try.underlying61 rfl Try.size_rs (fun K hK => ?_)
        go_simp
        refine hK _ ?_
        clear hK K
        refine w_value rfl (.pointer (some ⟨bx, 0, none⟩)) (fun u hu => by go_simp) (fun K hK => ?_)
        go_simp
        refine hK _ ?_
        clear hK K
        refine w_mid_load rfl 61 _ rfl bx 0 rfl [Value.int .u64 (s0 : Int), .int .u64 (s1 : Int), .int .u64 (s2 : Int), .int .u64 (s3 : Int), .int .i64 e] (fun u hu => rng_pre (vs := [Value.string yb, .string yk, .string yv, .bool yg]) (HRY.out u hu)) _ Try.underlying61 rfl Try.size_rs (fun K hK => ?_)
        go_simp
        refine hK _ ?_
        clear hK K
        refine w_value rfl (.bool false) (fun u _ => run_eql u .eql 61 61 _ _ (SV [a0, a1, a2, a3] d) (SV [s0, s1, s2, s3] e) _ rfl rfl rfl (guard_rs _ _ _ _ _ _ _) (by rw [eql_rs _ _ _ _ rfl rfl, HQ.out])) (fun K hK => ?_)
        go_simp
        refine hK _ ?_
        clear hK K
        refine w_value rfl (.bool false) (fun u hu => by go_simp) (fun K hK => ?_)
        go_simp
        refine hK _ ?_
        clear hK K
        refine w_skip 11 true (some false) rfl rfl rfl (fun K hK => ?_)
        go_simp
        refine hK _ ?_
        clear hK K
        refine w_skip 11 true (some false) rfl rfl rfl (fun K hK => ?_)
        go_simp
        refine hK _ ?_
        clear hK K
        refine w_skip 11 true (some false) rfl rfl rfl (fun K hK => ?_)
        go_simp
        refine hK _ ?_
        clear hK K
        refine w_skip 11 true (some false) rfl rfl rfl (fun K hK => ?_)
        go_simp
        refine hK _ ?_
        clear hK K
        refine w_skip 11 true (some false) rfl rfl rfl (fun K hK => ?_)
        go_simp
        refine hK _ ?_
        clear hK K
        refine w_skip 11 true (some false) rfl rfl rfl (fun K hK => ?_)
        go_simp
        refine hK _ ?_
        clear hK K
        refine w_skip 11 true (some false) rfl rfl rfl (fun K hK => ?_)
        go_simp
        refine hK _ ?_
        clear hK K
        refine w_skip 11 true (some false) rfl rfl rfl (fun K hK => ?_)
        go_simp
        refine hK _ ?_
        clear hK K
        refine w_skip 11 true (some false) rfl rfl rfl (fun K hK => ?_)
        go_simp
        refine hK _ ?_
        clear hK K
        refine w_skip 11 true (some false) rfl rfl rfl (fun K hK => ?_)
        go_simp
        refine hK _ ?_
        clear hK K
        refine w_skip 11 true (some false) rfl rfl rfl (fun K hK => ?_)
        go_simp
        refine hK _ ?_
        clear hK K
        refine w_skip 11 true (some false) rfl rfl rfl (fun K hK => ?_)
        go_simp
        refine hK _ ?_
        clear hK K
        refine w_skip 11 true (some false) rfl rfl rfl (fun K hK => ?_)
        go_simp
        refine hK _ ?_
        clear hK K
        refine w_value rfl (.bool false) (fun u hu => by go_simp) (fun K hK => ?_)
        go_simp
        refine hK _ ?_
        clear hK K
        refine w_value rfl (.bool false) (fun u hu => by go_simp) (fun K hK => ?_)
        go_simp
        refine hK _ ?_
        clear hK K
        refine w_skip 26 true (some false) rfl rfl rfl (fun K hK => ?_)
        go_simp
        refine hK _ ?_
        clear hK K
        refine w_skip 26 true (some false) rfl rfl rfl (fun K hK => ?_)
        go_simp
        refine hK _ ?_
        clear hK K
        refine w_skip 26 true (some false) rfl rfl rfl (fun K hK => ?_)
        go_simp
        refine hK _ ?_
        clear hK K
        refine w_skip 26 true (some false) rfl rfl rfl (fun K hK => ?_)
        go_simp
        refine hK _ ?_
        clear hK K
        refine w_skip 26 true (some false) rfl rfl rfl (fun K hK => ?_)
        go_simp
        refine hK _ ?_
        clear hK K
        refine w_skip 26 true (some false) rfl rfl rfl (fun K hK => ?_)
        go_simp
        refine hK _ ?_
        clear hK K
        refine w_skip 26 true (some false) rfl rfl rfl (fun K hK => ?_)
        go_simp
        refine hK _ ?_
        clear hK K
        refine w_skip 26 true (some false) rfl rfl rfl (fun K hK => ?_)
        go_simp
        refine hK _ ?_
        clear hK K
        refine w_skip 26 true (some false) rfl rfl rfl (fun K hK => ?_)
        go_simp
        refine hK _ ?_
        clear hK K
        refine w_skip 26 true (some false) rfl rfl rfl (fun K hK => ?_)
        go_simp
        refine hK _ ?_
        clear hK K
        refine w_skip 26 true (some false) rfl rfl rfl (fun K hK => ?_)
        go_simp
        refine hK _ ?_
        clear hK K
        refine w_skip 26 true (some false) rfl rfl rfl (fun K hK => ?_)
        go_simp
        refine hK _ ?_
        clear hK K
        refine w_skip 26 true (some false) rfl rfl rfl (fun K hK => ?_)
        go_simp
        refine hK _ ?_
        clear hK K
        refine w_value rfl (.bool false) (fun u hu => by go_simp) (fun K hK => ?_)
        go_simp
        refine hK _ ?_
        clear hK K
        refine w_nil ?_
        intro u hu
        have S2 := Lib.hid (Sr.out.below hu)
        have HH2 : Hid (hasD (D.take (i + 1)) ([s0, s1, s2, s3], e) (yb, yk) = false) := by
          show _ = _
          rw [HTK.out, Bool.false_and]
        go_wp2_with fail
        go_roundw
        case rel => exact ⟨i + 1, by omega, by go_num, HH2, S2⟩
        case measure => simp [intOf]; omega
      | true =>
        by_cases hb : xb = yb
        · by_cases hk : xk = yk
          · subst hb
            subst hk
            go_wp2_with fail
            refine region_w Try.mixed (by kernel_rfl) ?_
            refine w_value rfl (.pointer (some ⟨b, 0, none⟩)) (fun u hu => by go_simp) (fun K hK => ?_)
            go_simp
            refine hK _ ?_
            clear hK K
            refine w_value rfl (.pointer (some ⟨b, 0, none⟩)) (fun u hu => by go_simp) (fun K hK => ?_)
            go_simp
            refine hK _ ?_
            clear hK K
            refine w_value rfl (.pointer (some ⟨b, 2, none⟩)) (fun u hu => by go_simp) (fun K hK => ?_)
            go_simp
            refine hK _ ?_
            clear hK K
            refine w_value rfl (.slice (some ⟨g, og, none⟩) n cl) (fun u hu => by have hc := HC2.out u hu; go_simp) (fun K hK => ?_)
            go_simp
            refine hK _ ?_
            clear hK K
            refine w_value rfl (.int .i64 (i : Int)) (fun u hu => by go_simp) (fun K hK => ?_)
            go_simp
            refine hK _ ?_
            clear hK K
            refine w_value rfl (.pointer (some ⟨g, og + 9 * i, none⟩)) (fun u hu => by have h9 := HIX.out i hlt u; go_simp) (fun K hK => ?_)
            go_simp
            refine hK _ ?_
            clear hK K
            refine w_value rfl (.pointer (some ⟨g, og + 9 * i, none⟩)) (fun u hu => by go_simp) (fun K hK => ?_)
            go_simp
            refine hK _ ?_
            clear hK K
            refine w_mid_load rfl 61 _ rfl g (og + 9 * i) rfl [Value.int .u64 (a0 : Int), .int .u64 (a1 : Int), .int .u64 (a2 : Int), .int .u64 (a3 : Int), .int .i64 d] (fun u hu => rng_pre (vs := [Value.string xb, .string xk, .string xv, .bool xg]) (HRX.out u hu)) _ Try.underlying61 rfl Try.size_rs (fun K hK => ?_)
            go_simp
            refine hK _ ?_
            clear hK K
            refine w_value rfl (.pointer (some ⟨bx, 0, none⟩)) (fun u hu => by go_simp) (fun K hK => ?_)
            go_simp
            refine hK _ ?_
            clear hK K
            refine w_mid_load rfl 61 _ rfl bx 0 rfl [Value.int .u64 (s0 : Int), .int .u64 (s1 : Int), .int .u64 (s2 : Int), .int .u64 (s3 : Int), .int .i64 e] (fun u hu => rng_pre (vs := [Value.string xb, .string xk, .string yv, .bool yg]) (HRY.out u hu)) _ Try.underlying61 rfl Try.size_rs (fun K hK => ?_)
            go_simp
            refine hK _ ?_
            clear hK K
            refine w_value rfl (.bool true) (fun u _ => run_eql u .eql 61 61 _ _ (SV [a0, a1, a2, a3] d) (SV [s0, s1, s2, s3] e) _ rfl rfl rfl (guard_rs _ _ _ _ _ _ _) (by rw [eql_rs _ _ _ _ rfl rfl, HQ.out])) (fun K hK => ?_)
            go_simp
            refine hK _ ?_
            clear hK K
            refine w_value rfl (.bool true) (fun u hu => by go_simp) (fun K hK => ?_)
            go_simp
            refine hK _ ?_
            clear hK K
            refine wg_value rfl (.pointer (some ⟨b, 0, none⟩)) (fun u hu => by go_simp) (fun K hK => ?_)
            go_simp
            refine hK _ ?_
            clear hK K
            refine wg_value rfl (.pointer (some ⟨b, 0, none⟩)) (fun u hu => by go_simp) (fun K hK => ?_)
            go_simp
            refine hK _ ?_
            clear hK K
            refine wg_value rfl (.pointer (some ⟨b, 2, none⟩)) (fun u hu => by go_simp) (fun K hK => ?_)
            go_simp
            refine hK _ ?_
            clear hK K
            refine wg_value rfl (.slice (some ⟨g, og, none⟩) n cl) (fun u hu => by have hc := HC2.out u hu; go_simp) (fun K hK => ?_)
            go_simp
            refine hK _ ?_
            clear hK K
            refine wg_value rfl (.int .i64 (i : Int)) (fun u hu => by go_simp) (fun K hK => ?_)
            go_simp
            refine hK _ ?_
            clear hK K
            refine wg_value rfl (.pointer (some ⟨g, og + 9 * i, none⟩)) (fun u hu => by have h9 := HIX.out i hlt u; go_simp) (fun K hK => ?_)
            go_simp
            refine hK _ ?_
            clear hK K
            refine wg_value rfl (.pointer (some ⟨g, og + 9 * i + 5, none⟩)) (fun u hu => by go_simp) (fun K hK => ?_)
            go_simp
            refine hK _ ?_
            clear hK K
            refine wg_value rfl (.pointer (some ⟨g, og + 9 * i + 5, none⟩)) (fun u hu => by go_simp) (fun K hK => ?_)
            go_simp
            refine hK _ ?_
            clear hK K
            refine wg_value rfl (.string xb) (fun u hu => by have hc := HRX.out u hu 5 _ rfl; go_simp) (fun K hK => ?_)
            go_simp
            refine hK _ ?_
            clear hK K
            refine wg_value rfl (.pointer (some ⟨bx, 5, none⟩)) (fun u hu => by go_simp) (fun K hK => ?_)
            go_simp
            refine hK _ ?_
            clear hK K
            refine wg_value rfl (.pointer (some ⟨bx, 5, none⟩)) (fun u hu => by go_simp) (fun K hK => ?_)
            go_simp
            refine hK _ ?_
            clear hK K
            refine wg_value rfl (.string xb) (fun u hu => by have hc := HRY.out u hu 5 _ rfl; go_simp) (fun K hK => ?_)
            go_simp
            refine hK _ ?_
            clear hK K
            refine wg_value rfl (.bool true) (fun u hu => by go_simp) (fun K hK => ?_)
            go_simp
            refine hK _ ?_
            clear hK K
            refine w_value rfl (.bool true) (fun u hu => by go_simp) (fun K hK => ?_)
            go_simp
            refine hK _ ?_
            clear hK K
            refine w_value rfl (.bool true) (fun u hu => by go_simp) (fun K hK => ?_)
            go_simp
            refine hK _ ?_
            clear hK K
            refine wg_value rfl (.pointer (some ⟨b, 0, none⟩)) (fun u hu => by go_simp) (fun K hK => ?_)
            go_simp
            refine hK _ ?_
            clear hK K
            refine wg_value rfl (.pointer (some ⟨b, 0, none⟩)) (fun u hu => by go_simp) (fun K hK => ?_)
            go_simp
            refine hK _ ?_
            clear hK K
            refine wg_value rfl (.pointer (some ⟨b, 2, none⟩)) (fun u hu => by go_simp) (fun K hK => ?_)
            go_simp
            refine hK _ ?_
            clear hK K
            refine wg_value rfl (.slice (some ⟨g, og, none⟩) n cl) (fun u hu => by have hc := HC2.out u hu; go_simp) (fun K hK => ?_)
            go_simp
            refine hK _ ?_
            clear hK K
            refine wg_value rfl (.int .i64 (i : Int)) (fun u hu => by go_simp) (fun K hK => ?_)
            go_simp
            refine hK _ ?_
            clear hK K
            refine wg_value rfl (.pointer (some ⟨g, og + 9 * i, none⟩)) (fun u hu => by have h9 := HIX.out i hlt u; go_simp) (fun K hK => ?_)
            go_simp
            refine hK _ ?_
            clear hK K
            refine wg_value rfl (.pointer (some ⟨g, og + 9 * i + 5, none⟩)) (fun u hu => by go_simp) (fun K hK => ?_)
            go_simp
            refine hK _ ?_
            clear hK K
            refine wg_value rfl (.pointer (some ⟨g, og + 9 * i + 6, none⟩)) (fun u hu => by go_simp) (fun K hK => ?_)
            go_simp
            refine hK _ ?_
            clear hK K
            refine wg_value rfl (.string xk) (fun u hu => by have hc := HRX.out u hu 6 _ rfl; go_simp) (fun K hK => ?_)
            go_simp
            refine hK _ ?_
            clear hK K
            refine wg_value rfl (.pointer (some ⟨bx, 5, none⟩)) (fun u hu => by go_simp) (fun K hK => ?_)
            go_simp
            refine hK _ ?_
            clear hK K
            refine wg_value rfl (.pointer (some ⟨bx, 6, none⟩)) (fun u hu => by go_simp) (fun K hK => ?_)
            go_simp
            refine hK _ ?_
            clear hK K
            refine wg_value rfl (.string xk) (fun u hu => by have hc := HRY.out u hu 6 _ rfl; go_simp) (fun K hK => ?_)
            go_simp
            refine hK _ ?_
            clear hK K
            refine wg_value rfl (.bool true) (fun u hu => by go_simp) (fun K hK => ?_)
            go_simp
            refine hK _ ?_
            clear hK K
            refine w_value rfl (.bool true) (fun u hu => by go_simp) (fun K hK => ?_)
            go_simp
            refine hK _ ?_
            clear hK K
            refine w_nil ?_
            intro u hu
            have S2 := Lib.hid (Sr.out.below hu)
            have hh : hasD D ([s0, s1, s2, s3], e) (xb, xk) = true := by
              rw [hasD_iff]
              have h9 : hasD (D.take (i + 1)) ([s0, s1, s2, s3], e) (xb, xk) = true := by rw [HTK.out]; simp
              obtain ⟨z, hz, h1, h2⟩ := (hasD_iff _ _ _).1 h9
              exact ⟨z, List.mem_of_mem_take hz, h1, h2⟩
            have HAD : Hid (addD D ([s0, s1, s2, s3], e) (xb, xk, yv, yg) = D) := by
              show _ = _
              unfold addD
              exact if_pos hh
            clear hh
            have HSU := Lib.hid (HS.out.below S2.out.under)
            go_wp2_with fail
            (try simp only [Exit.inBlock, Exit.then])
            refine bodyPost_ret (results_none rfl _ _ _) rfl ?_
            exact ⟨rfl, _, by rw [HAD.out]; exact HSU.out⟩
          · subst hb
            have hkm := toList_ne hk
            go_wp2_with fail
            refine region_w Try.mixed (by kernel_rfl) ?_
            refine w_value rfl (.pointer (some ⟨b, 0, none⟩)) (fun u hu => by go_simp) (fun K hK => ?_)
            go_simp
            refine hK _ ?_
            clear hK K
            refine w_value rfl (.pointer (some ⟨b, 0, none⟩)) (fun u hu => by go_simp) (fun K hK => ?_)
            go_simp
            refine hK _ ?_
            clear hK K
            refine w_value rfl (.pointer (some ⟨b, 2, none⟩)) (fun u hu => by go_simp) (fun K hK => ?_)
            go_simp
            refine hK _ ?_
            clear hK K
            refine w_value rfl (.slice (some ⟨g, og, none⟩) n cl) (fun u hu => by have hc := HC2.out u hu; go_simp) (fun K hK => ?_)
            go_simp
            refine hK _ ?_
            clear hK K
            refine w_value rfl (.int .i64 (i : Int)) (fun u hu => by go_simp) (fun K hK => ?_)
            go_simp
            refine hK _ ?_
            clear hK K
            refine w_value rfl (.pointer (some ⟨g, og + 9 * i, none⟩)) (fun u hu => by have h9 := HIX.out i hlt u; go_simp) (fun K hK => ?_)
            go_simp
            refine hK _ ?_
            clear hK K
            refine w_value rfl (.pointer (some ⟨g, og + 9 * i, none⟩)) (fun u hu => by go_simp) (fun K hK => ?_)
            go_simp
            refine hK _ ?_
            clear hK K
            refine w_mid_load rfl 61 _ rfl g (og + 9 * i) rfl [Value.int .u64 (a0 : Int), .int .u64 (a1 : Int), .int .u64 (a2 : Int), .int .u64 (a3 : Int), .int .i64 d] (fun u hu => rng_pre (vs := [Value.string xb, .string xk, .string xv, .bool xg]) (HRX.out u hu)) _ Try.underlying61 rfl Try.size_rs (fun K hK => ?_)
            go_simp
            refine hK _ ?_
            clear hK K
            refine w_value rfl (.pointer (some ⟨bx, 0, none⟩)) (fun u hu => by go_simp) (fun K hK => ?_)
            go_simp
            refine hK _ ?_
            clear hK K
            refine w_mid_load rfl 61 _ rfl bx 0 rfl [Value.int .u64 (s0 : Int), .int .u64 (s1 : Int), .int .u64 (s2 : Int), .int .u64 (s3 : Int), .int .i64 e] (fun u hu => rng_pre (vs := [Value.string xb, .string yk, .string yv, .bool yg]) (HRY.out u hu)) _ Try.underlying61 rfl Try.size_rs (fun K hK => ?_)
            go_simp
            refine hK _ ?_
            clear hK K
            refine w_value rfl (.bool true) (fun u _ => run_eql u .eql 61 61 _ _ (SV [a0, a1, a2, a3] d) (SV [s0, s1, s2, s3] e) _ rfl rfl rfl (guard_rs _ _ _ _ _ _ _) (by rw [eql_rs _ _ _ _ rfl rfl, HQ.out])) (fun K hK => ?_)
            go_simp
            refine hK _ ?_
            clear hK K
            refine w_value rfl (.bool true) (fun u hu => by go_simp) (fun K hK => ?_)
            go_simp
            refine hK _ ?_
            clear hK K
            refine wg_value rfl (.pointer (some ⟨b, 0, none⟩)) (fun u hu => by go_simp) (fun K hK => ?_)
            go_simp
            refine hK _ ?_
            clear hK K
            refine wg_value rfl (.pointer (some ⟨b, 0, none⟩)) (fun u hu => by go_simp) (fun K hK => ?_)
            go_simp
            refine hK _ ?_
            clear hK K
            refine wg_value rfl (.pointer (some ⟨b, 2, none⟩)) (fun u hu => by go_simp) (fun K hK => ?_)
            go_simp
            refine hK _ ?_
            clear hK K
            refine wg_value rfl (.slice (some ⟨g, og, none⟩) n cl) (fun u hu => by have hc := HC2.out u hu; go_simp) (fun K hK => ?_)
            go_simp
            refine hK _ ?_
            clear hK K
            refine wg_value rfl (.int .i64 (i : Int)) (fun u hu => by go_simp) (fun K hK => ?_)
            go_simp
            refine hK _ ?_
            clear hK K
            refine wg_value rfl (.pointer (some ⟨g, og + 9 * i, none⟩)) (fun u hu => by have h9 := HIX.out i hlt u; go_simp) (fun K hK => ?_)
            go_simp
            refine hK _ ?_
            clear hK K
            refine wg_value rfl (.pointer (some ⟨g, og + 9 * i + 5, none⟩)) (fun u hu => by go_simp) (fun K hK => ?_)
            go_simp
            refine hK _ ?_
            clear hK K
            refine wg_value rfl (.pointer (some ⟨g, og + 9 * i + 5, none⟩)) (fun u hu => by go_simp) (fun K hK => ?_)
            go_simp
            refine hK _ ?_
            clear hK K
            refine wg_value rfl (.string xb) (fun u hu => by have hc := HRX.out u hu 5 _ rfl; go_simp) (fun K hK => ?_)
            go_simp
            refine hK _ ?_
            clear hK K
            refine wg_value rfl (.pointer (some ⟨bx, 5, none⟩)) (fun u hu => by go_simp) (fun K hK => ?_)
            go_simp
            refine hK _ ?_
            clear hK K
            refine wg_value rfl (.pointer (some ⟨bx, 5, none⟩)) (fun u hu => by go_simp) (fun K hK => ?_)
            go_simp
            refine hK _ ?_
            clear hK K
            refine wg_value rfl (.string xb) (fun u hu => by have hc := HRY.out u hu 5 _ rfl; go_simp) (fun K hK => ?_)
            go_simp
            refine hK _ ?_
            clear hK K
            refine wg_value rfl (.bool true) (fun u hu => by go_simp) (fun K hK => ?_)
            go_simp
            refine hK _ ?_
            clear hK K
            refine w_value rfl (.bool true) (fun u hu => by go_simp) (fun K hK => ?_)
            go_simp
            refine hK _ ?_
            clear hK K
            refine w_value rfl (.bool true) (fun u hu => by go_simp) (fun K hK => ?_)
            go_simp
            refine hK _ ?_
            clear hK K
            refine wg_value rfl (.pointer (some ⟨b, 0, none⟩)) (fun u hu => by go_simp) (fun K hK => ?_)
            go_simp
            refine hK _ ?_
            clear hK K
            refine wg_value rfl (.pointer (some ⟨b, 0, none⟩)) (fun u hu => by go_simp) (fun K hK => ?_)
            go_simp
            refine hK _ ?_
            clear hK K
            refine wg_value rfl (.pointer (some ⟨b, 2, none⟩)) (fun u hu => by go_simp) (fun K hK => ?_)
            go_simp
            refine hK _ ?_
            clear hK K
            refine wg_value rfl (.slice (some ⟨g, og, none⟩) n cl) (fun u hu => by have hc := HC2.out u hu; go_simp) (fun K hK => ?_)
            go_simp
            refine hK _ ?_
            clear hK K
            refine wg_value rfl (.int .i64 (i : Int)) (fun u hu => by go_simp) (fun K hK => ?_)
            go_simp
            refine hK _ ?_
            clear hK K
            refine wg_value rfl (.pointer (some ⟨g, og + 9 * i, none⟩)) (fun u hu => by have h9 := HIX.out i hlt u; go_simp) (fun K hK => ?_)
            go_simp
            refine hK _ ?_
            clear hK K
            refine wg_value rfl (.pointer (some ⟨g, og + 9 * i + 5, none⟩)) (fun u hu => by go_simp) (fun K hK => ?_)
            go_simp
            refine hK _ ?_
            clear hK K
            refine wg_value rfl (.pointer (some ⟨g, og + 9 * i + 6, none⟩)) (fun u hu => by go_simp) (fun K hK => ?_)
            go_simp
            refine hK _ ?_
            clear hK K
            refine wg_value rfl (.string xk) (fun u hu => by have hc := HRX.out u hu 6 _ rfl; go_simp) (fun K hK => ?_)
            go_simp
            refine hK _ ?_
            clear hK K
            refine wg_value rfl (.pointer (some ⟨bx, 5, none⟩)) (fun u hu => by go_simp) (fun K hK => ?_)
            go_simp
            refine hK _ ?_
            clear hK K
            refine wg_value rfl (.pointer (some ⟨bx, 6, none⟩)) (fun u hu => by go_simp) (fun K hK => ?_)
            go_simp
            refine hK _ ?_
            clear hK K
            refine wg_value rfl (.string yk) (fun u hu => by have hc := HRY.out u hu 6 _ rfl; go_simp) (fun K hK => ?_)
            go_simp
            refine hK _ ?_
            clear hK K
            refine wg_value rfl (.bool false) (fun u hu => by go_simp) (fun K hK => ?_)
            go_simp
            refine hK _ ?_
            clear hK K
            refine w_value rfl (.bool false) (fun u hu => by go_simp) (fun K hK => ?_)
            go_simp
            refine hK _ ?_
            clear hK K
            refine w_nil ?_
            intro u hu
            have S2 := Lib.hid (Sr.out.below hu)
            have HH2 : Hid (hasD (D.take (i + 1)) ([s0, s1, s2, s3], e) (xb, yk) = false) := by
              show _ = _
              rw [HTK.out, decide_eq_false (fun h9 => hk (by injection h9)), Bool.and_false]
            go_wp2_with fail
            go_roundw
            case rel => exact ⟨i + 1, by omega, by go_num, HH2, S2⟩
            case measure => simp [intOf]; omega
        · have hkm := toList_ne hb
          go_wp2_with fail
          refine region_w Try.mixed (by kernel_rfl) ?_
          refine w_value rfl (.pointer (some ⟨b, 0, none⟩)) (fun u hu => by go_simp) (fun K hK => ?_)
          go_simp
          refine hK _ ?_
          clear hK K
          refine w_value rfl (.pointer (some ⟨b, 0, none⟩)) (fun u hu => by go_simp) (fun K hK => ?_)
          go_simp
          refine hK _ ?_
          clear hK K
          refine w_value rfl (.pointer (some ⟨b, 2, none⟩)) (fun u hu => by go_simp) (fun K hK => ?_)
          go_simp
          refine hK _ ?_
          clear hK K
          refine w_value rfl (.slice (some ⟨g, og, none⟩) n cl) (fun u hu => by have hc := HC2.out u hu; go_simp) (fun K hK => ?_)
          go_simp
          refine hK _ ?_
          clear hK K
          refine w_value rfl (.int .i64 (i : Int)) (fun u hu => by go_simp) (fun K hK => ?_)
          go_simp
          refine hK _ ?_
          clear hK K
          refine w_value rfl (.pointer (some ⟨g, og + 9 * i, none⟩)) (fun u hu => by have h9 := HIX.out i hlt u; go_simp) (fun K hK => ?_)
          go_simp
          refine hK _ ?_
          clear hK K
          refine w_value rfl (.pointer (some ⟨g, og + 9 * i, none⟩)) (fun u hu => by go_simp) (fun K hK => ?_)
          go_simp
          refine hK _ ?_
          clear hK K
          refine w_mid_load rfl 61 _ rfl g (og + 9 * i) rfl [Value.int .u64 (a0 : Int), .int .u64 (a1 : Int), .int .u64 (a2 : Int), .int .u64 (a3 : Int), .int .i64 d] (fun u hu => rng_pre (vs := [Value.string xb, .string xk, .string xv, .bool xg]) (HRX.out u hu)) _ Try.underlying61 rfl Try.size_rs (fun K hK => ?_)
          go_simp
          refine hK _ ?_
          clear hK K
          refine w_value rfl (.pointer (some ⟨bx, 0, none⟩)) (fun u hu => by go_simp) (fun K hK => ?_)
          go_simp
          refine hK _ ?_
          clear hK K
          refine w_mid_load rfl 61 _ rfl bx 0 rfl [Value.int .u64 (s0 : Int), .int .u64 (s1 : Int), .int .u64 (s2 : Int), .int .u64 (s3 : Int), .int .i64 e] (fun u hu => rng_pre (vs := [Value.string yb, .string yk, .string yv, .bool yg]) (HRY.out u hu)) _ Try.underlying61 rfl Try.size_rs (fun K hK => ?_)
          go_simp
          refine hK _ ?_
          clear hK K
          refine w_value rfl (.bool true) (fun u _ => run_eql u .eql 61 61 _ _ (SV [a0, a1, a2, a3] d) (SV [s0, s1, s2, s3] e) _ rfl rfl rfl (guard_rs _ _ _ _ _ _ _) (by rw [eql_rs _ _ _ _ rfl rfl, HQ.out])) (fun K hK => ?_)
          go_simp
          refine hK _ ?_
          clear hK K
          refine w_value rfl (.bool true) (fun u hu => by go_simp) (fun K hK => ?_)
          go_simp
          refine hK _ ?_
          clear hK K
          refine wg_value rfl (.pointer (some ⟨b, 0, none⟩)) (fun u hu => by go_simp) (fun K hK => ?_)
          go_simp
          refine hK _ ?_
          clear hK K
          refine wg_value rfl (.pointer (some ⟨b, 0, none⟩)) (fun u hu => by go_simp) (fun K hK => ?_)
          go_simp
          refine hK _ ?_
          clear hK K
          refine wg_value rfl (.pointer (some ⟨b, 2, none⟩)) (fun u hu => by go_simp) (fun K hK => ?_)
          go_simp
          refine hK _ ?_
          clear hK K
          refine wg_value rfl (.slice (some ⟨g, og, none⟩) n cl) (fun u hu => by have hc := HC2.out u hu; go_simp) (fun K hK => ?_)
          go_simp
          refine hK _ ?_
          clear hK K
          refine wg_value rfl (.int .i64 (i : Int)) (fun u hu => by go_simp) (fun K hK => ?_)
          go_simp
          refine hK _ ?_
          clear hK K
          refine wg_value rfl (.pointer (some ⟨g, og + 9 * i, none⟩)) (fun u hu => by have h9 := HIX.out i hlt u; go_simp) (fun K hK => ?_)
          go_simp
          refine hK _ ?_
          clear hK K
          refine wg_value rfl (.pointer (some ⟨g, og + 9 * i + 5, none⟩)) (fun u hu => by go_simp) (fun K hK => ?_)
          go_simp
          refine hK _ ?_
          clear hK K
          refine wg_value rfl (.pointer (some ⟨g, og + 9 * i + 5, none⟩)) (fun u hu => by go_simp) (fun K hK => ?_)
          go_simp
          refine hK _ ?_
          clear hK K
          refine wg_value rfl (.string xb) (fun u hu => by have hc := HRX.out u hu 5 _ rfl; go_simp) (fun K hK => ?_)
          go_simp
          refine hK _ ?_
          clear hK K
          refine wg_value rfl (.pointer (some ⟨bx, 5, none⟩)) (fun u hu => by go_simp) (fun K hK => ?_)
          go_simp
          refine hK _ ?_
          clear hK K
          refine wg_value rfl (.pointer (some ⟨bx, 5, none⟩)) (fun u hu => by go_simp) (fun K hK => ?_)
          go_simp
          refine hK _ ?_
          clear hK K
          refine wg_value rfl (.string yb) (fun u hu => by have hc := HRY.out u hu 5 _ rfl; go_simp) (fun K hK => ?_)
          go_simp
          refine hK _ ?_
          clear hK K
          refine wg_value rfl (.bool false) (fun u hu => by go_simp) (fun K hK => ?_)
          go_simp
          refine hK _ ?_
          clear hK K
          refine w_value rfl (.bool false) (fun u hu => by go_simp) (fun K hK => ?_)
          go_simp
          refine hK _ ?_
          clear hK K
          refine w_value rfl (.bool false) (fun u hu => by go_simp) (fun K hK => ?_)
          go_simp
          refine hK _ ?_
          clear hK K
          refine w_skip 26 true (some false) rfl rfl rfl (fun K hK => ?_)
          go_simp
          refine hK _ ?_
          clear hK K
          refine w_skip 26 true (some false) rfl rfl rfl (fun K hK => ?_)
          go_simp
          refine hK _ ?_
          clear hK K
          refine w_skip 26 true (some false) rfl rfl rfl (fun K hK => ?_)
          go_simp
          refine hK _ ?_
          clear hK K
          refine w_skip 26 true (some false) rfl rfl rfl (fun K hK => ?_)
          go_simp
          refine hK _ ?_
          clear hK K
          refine w_skip 26 true (some false) rfl rfl rfl (fun K hK => ?_)
          go_simp
          refine hK _ ?_
          clear hK K
          refine w_skip 26 true (some false) rfl rfl rfl (fun K hK => ?_)
          go_simp
          refine hK _ ?_
          clear hK K
          refine w_skip 26 true (some false) rfl rfl rfl (fun K hK => ?_)
          go_simp
          refine hK _ ?_
          clear hK K
          refine w_skip 26 true (some false) rfl rfl rfl (fun K hK => ?_)
          go_simp
          refine hK _ ?_
          clear hK K
          refine w_skip 26 true (some false) rfl rfl rfl (fun K hK => ?_)
          go_simp
          refine hK _ ?_
          clear hK K
          refine w_skip 26 true (some false) rfl rfl rfl (fun K hK => ?_)
          go_simp
          refine hK _ ?_
          clear hK K
          refine w_skip 26 true (some false) rfl rfl rfl (fun K hK => ?_)
          go_simp
          refine hK _ ?_
          clear hK K
          refine w_skip 26 true (some false) rfl rfl rfl (fun K hK => ?_)
          go_simp
          refine hK _ ?_
          clear hK K
          refine w_skip 26 true (some false) rfl rfl rfl (fun K hK => ?_)
          go_simp
          refine hK _ ?_
          clear hK K
          refine w_value rfl (.bool false) (fun u hu => by go_simp) (fun K hK => ?_)
          go_simp
          refine hK _ ?_
          clear hK K
          refine w_nil ?_
          intro u hu
          have S2 := Lib.hid (Sr.out.below hu)
          have HH2 : Hid (hasD (D.take (i + 1)) ([s0, s1, s2, s3], e) (yb, yk) = false) := by
            show _ = _
            rw [HTK.out, decide_eq_false (fun h9 => hb (by injection h9)), Bool.and_false]
          go_wp2_with fail
          go_roundw
          case rel => exact ⟨i + 1, by omega, by go_num, HH2, S2⟩
          case measure => simp [intOf]; omega
    · obtain rfl : i = n := by omega
      have i1 : ¬ (i : Int) < (i : Int) := by omega
      have hh : hasD D ([s0, s1, s2, s3], e) (yb, yk) = false := by have h9 := HH.out; rwa [List.take_of_length_le (by rw [HN.out]; exact Nat.le_refl _)] at h9
      have HAD : Hid (addD D ([s0, s1, s2, s3], e) (yb, yk, yv, yg) = D ++ [(([s0, s1, s2, s3], e), (yb, yk, yv, yg))]) := by
        show _ = _
        unfold addD
        exact if_neg (by show ¬ hasD D ([s0, s1, s2, s3], e) (yb, yk) = true; rw [hh]; simp)
      clear hh
      have SS : Hid (Sep w0 wr (rB b (rfv room wv (.slice sl i cl) A) :: rO (vk wrt) 107 w0.heap.size (.slice sl i cl) D :: R)) := HS.out.below Sr.out.under
      have SX : Hid (Blk wr bx [Value.int .u64 (s0 : Int), .int .u64 (s1 : Int), .int .u64 (s2 : Int), .int .u64 (s3 : Int), .int .i64 e, .string yb, .string yk, .string yv, .bool yg]) := Sr.out.blk 0 rfl
      have HBXL : Hid (bx < wr.heap.size) := (Sr.out.lt 0 rfl bx (by simp [rB])).2
      have SD := Lib.hid (SS.out.below ((Below.refl wr.heap.size wr).drew))
      go_wp2_with fail
      refine region_pickC (fun u => u.cell? ⟨b, 2, none⟩ = some (.slice sl i cl) ∧ u.rangeAt bx 0 [Value.int .u64 (s0 : Int), .int .u64 (s1 : Int), .int .u64 (s2 : Int), .int .u64 (s3 : Int), .int .i64 e, .string yb, .string yk, .string yv, .bool yg]) 10 [0, 1, 2, 3, 4, 5] [6, 7, 8, 9, 10] Try.mixed (by kernel_rfl) rfl (by kernel_rfl) ⟨(SD.out.blk 0 rfl).cell 2 _ rfl, SX.out.drew.1⟩ ?_
      refine p_readC rfl ?_
      refine c_value rfl (.pointer (some ⟨b, 0, none⟩)) (fun u hu => by go_simp) (fun _ _ _ h => h) (fun K hK => ?_)
      go_simp
      refine hK _ ?_
      clear hK K
      refine c_nil ?_
      refine p_readC rfl ?_
      refine c_value rfl (.pointer (some ⟨b, 0, none⟩)) (fun u hu => by go_simp) (fun _ _ _ h => h) (fun K hK => ?_)
      go_simp
      refine hK _ ?_
      clear hK K
      refine c_nil ?_
      refine p_readC rfl ?_
      refine c_value rfl (.pointer (some ⟨b, 0, none⟩)) (fun u hu => by go_simp) (fun _ _ _ h => h) (fun K hK => ?_)
      go_simp
      refine hK _ ?_
      clear hK K
      refine c_nil ?_
      refine p_readC rfl ?_
      refine c_value rfl (.pointer (some ⟨b, 2, none⟩)) (fun u hu => by go_simp) (fun _ _ _ h => h) (fun K hK => ?_)
      go_simp
      refine hK _ ?_
      clear hK K
      refine c_nil ?_
      refine p_readC rfl ?_
      refine c_value rfl (.slice sl i cl) (fun u hu => by have hc := hu.1; go_simp) (fun _ _ _ h => h) (fun K hK => ?_)
      go_simp
      refine hK _ ?_
      clear hK K
      refine c_nil ?_
      refine p_readC rfl ?_
      refine c_mid_load rfl 107 _ rfl bx 0 rfl [Value.int .u64 (s0 : Int), .int .u64 (s1 : Int), .int .u64 (s2 : Int), .int .u64 (s3 : Int), .int .i64 e, .string yb, .string yk, .string yv, .bool yg] (fun u hu => hu.2) _ Try.underlying107 rfl size_rv9 (fun _ _ _ h => h) (fun K hK => ?_)
      go_simp
      refine hK _ ?_
      clear hK K
      refine c_nil ?_
      refine p_nilC ?_
      refine p_stepC rfl ?_
      go_wp2_with fail
      have hB9 : Below wr.heap.size wr (wr.alloc (.cells [Value.int .u64 (s0 : Int), .int .u64 (s1 : Int), .int .u64 (s2 : Int), .int .u64 (s3 : Int), .int .i64 e, .string yb, .string yk, .string yv, .bool yg].toArray 107)).drew := ((Below.refl _ _).alloc (Nat.le_refl _) _).drew
      have S9 := Lib.hid (SS.out.below hB9)
      have hX9 : (wr.alloc (.cells [Value.int .u64 (s0 : Int), .int .u64 (s1 : Int), .int .u64 (s2 : Int), .int .u64 (s3 : Int), .int .i64 e, .string yb, .string yk, .string yv, .bool yg].toArray 107)).drew.heap[wr.heap.size]? = some (.cells ((vk wrt).cf ((([s0, s1, s2, s3], e), (yb, yk, yv, yg)) : Ver)).toArray 107 (0, 0)) := heap_alloc_last wr _
      obtain ⟨v9, w9, hr, ho, hg, hnw⟩ := run_append_one (K := vk wrt) 76 Try.underlying76 inf_rv zc_rv _ w0.heap.size _ D (S9.out.or 1 rfl) wr.heap.size 0 1 1 [((([s0, s1, s2, s3], e), (yb, yk, yv, yg)) : Ver)] (IsR.one (Blk.of_row hX9) (Array.getElem?_eq_some_iff.1 hX9).1) (by simp) (by rw [HN.out]; simp; omega) (by omega) S9.out.size
      have HRn := Lib.hid hr
      have S10 : Hid (Sep w0 w9 (rB b (rfv room wv (.slice sl i cl) A) :: rO (vk wrt) 107 w0.heap.size v9 (D ++ [(([s0, s1, s2, s3], e), (yb, yk, yv, yg))]) :: R)) := S9.out.row 1 rfl ho hg hnw
      have HC9 : Hid ((wr.alloc (.cells [Value.int .u64 (s0 : Int), .int .u64 (s1 : Int), .int .u64 (s2 : Int), .int .u64 (s3 : Int), .int .i64 e, .string yb, .string yk, .string yv, .bool yg].toArray 107)).drew.cell? ⟨b, 2, none⟩ = some (.slice sl i cl)) := (S9.out.blk 0 rfl).cell 2 _ rfl
      have HX9 : Hid ((wr.alloc (.cells [Value.int .u64 (s0 : Int), .int .u64 (s1 : Int), .int .u64 (s2 : Int), .int .u64 (s3 : Int), .int .i64 e, .string yb, .string yk, .string yv, .bool yg].toArray 107)).drew.rangeAt bx 0 [Value.int .u64 (s0 : Int), .int .u64 (s1 : Int), .int .u64 (s2 : Int), .int .u64 (s3 : Int), .int .i64 e, .string yb, .string yk, .string yv, .bool yg]) := (Blk.below SX.out hB9 HBXL.out).1
      have HX10 : Hid (w9.cell? ⟨b, 2, none⟩ = some (.slice sl i cl)) := (S10.out.blk 0 rfl).cell 2 _ rfl
      have HXR : Hid (w9.rangeAt bx 0 [Value.int .u64 (s0 : Int), .int .u64 (s1 : Int), .int .u64 (s2 : Int), .int .u64 (s3 : Int), .int .i64 e, .string yb, .string yk, .string yv, .bool yg]) := (blk_grown hg (Blk.below SX.out hB9 HBXL.out) (Nat.lt_of_lt_of_le HBXL.out hB9.size) (fun h9 => by have h8 := (World.ownsRow.lt HLL.out.own bx h9).2; have h7 := HBXE.out; omega)).1
      obtain ⟨sv9, cv9, e9, _⟩ := ho.is.is
      obtain ⟨n9, HN9⟩ : ∃ m, Hid ((D ++ [((([s0, s1, s2, s3], e), (yb, yk, yv, yg)) : Ver)]).length = m) := ⟨_, rfl⟩
      rw [HN9.out] at e9
      subst e9
      have g2 := HX10.out
      have q2 := (S10.out.blk 0 rfl).free 2 (by simp [rfv])
      have S11 : Hid (Sep w0 (w9.setCell ⟨b, 2, none⟩ (.slice sv9 n9 cv9)) (rB b (rfv room wv (.slice sv9 n9 cv9) A) :: rO (vk wrt) 107 w0.heap.size (.slice sv9 n9 cv9) (D ++ [(([s0, s1, s2, s3], e), (yb, yk, yv, yg))]) :: R)) := S10.out.upd 0 rfl (Upd.setCell _ _ _ _) (Blk.setc (S10.out.blk 0 rfl) 2 (by simp [rfv]) _)
      clear hr ho hg hnw hX9 S9 hB9
      refine And.intro (fun _ => ⟨HC9.out, HX9.out⟩) ?_
      refine p_stepC rfl ?_
      refine append_step rfl _ _ _ _ rfl rfl rfl HRn.out ?_
      go_wp2_with fail
      refine And.intro (fun _ => ⟨HX10.out, HXR.out⟩) ?_
      refine p_stepC rfl ?_
      go_wp2_with fail
      refine And.intro (fun _ => ⟨HX10.out, HXR.out⟩) ?_
      refine p_stepC rfl ?_
      go_wp2_with fail
      refine And.intro (fun _ => ⟨HX10.out, HXR.out⟩) ?_
      refine p_stepC rfl ?_
      go_wp2_with fail
      refine And.intro (fun h9 => absurd h9 (by decide)) ?_
      refine p_endC ?_
      go_wp2_with fail
      go_end0
      exact ⟨rfl, _, by rw [HAD.out]; exact S11.out⟩
end Go.Proofs.Ytohcdonmdnjgoaa.Sd

namespace Go.Proofs.Ytohcdonmdnjgoaa.Sd

open Go.RowKit Go.Proofs.Ytohcdonmdnjgoaa.Vc Go.Proofs.Ytohcdonmdnjgoaa.Sp Go.Proofs.Ytohcdonmdnjgoaa.Rw Go.Proofs.Ytohcdonmdnjgoaa.Ch Go.Proofs.Ytohcdonmdnjgoaa.Se Go.Proofs.Ytohcdonmdnjgoaa.It Go.Proofs.Ytohcdonmdnjgoaa.Mk

set_option linter.unusedVariables false

set_option linter.unusedSimpArgs false

set_option maxRecDepth 100000

section

variable {β : Type} {K : Kd β}

/-- append onto an own row, whatever slice comes -/
theorem append_any {t ts : TypeId} (ty : TypeId) {bytes : Nat} (hu : Try.prog.underlying ts = some (.slice t)) {z : Value} (hinf : (Try.prog.info? t).map (fun i => (i.zero, i.size, i.bytes)) = some (some z, K.k, bytes)) (hzc : z.cells.size = K.k) (w : World) (base : Nat) (v : Value) (L : List β) (hown : OR K t w base v L) (x : Value) (M : List β) (hM : IsR K w x M) (hl : L.length + M.length ≤ 1000000) (hby : bytes ≤ 100000) (hbase : base ≤ w.heap.size) :
    ∃ v' w', (Builtin.append_ #[ts, ts] ty #[v, x]).run Try.prog w = .ok v' w' ∧ OR K t w' base v' (L ++ M) ∧ w.grownBy w' v.ownBlock ∧ Nw w v v' := by
  obtain ⟨i0, hi, hz0, hz1, hz2⟩ : ∃ i0, Try.prog.info? t = some i0 ∧ i0.zero = some z ∧ i0.size = K.k ∧ i0.bytes = bytes := by
    cases hi : Try.prog.info? t with
    | none => rw [hi] at hinf; cases hinf
    | some i0 =>
      rw [hi] at hinf
      simp only [Option.map_some, Option.some.injEq, Prod.mk.injEq] at hinf
      exact ⟨i0, rfl, hinf.1, hinf.2.1, hinf.2.2⟩
  obtain ⟨a, cap, rfl, h1, h2, h3⟩ := hM.is
  cases a with
  | none =>
    have h0 : M = [] := by
      by_cases hne : M = []
      · exact hne
      · obtain ⟨b, off, ha, _⟩ := h3 hne; cases ha
    subst h0
    rw [List.append_nil]
    rcases hown.row with ⟨rfl, rfl⟩ | ⟨g, cp, cur, rfl, hB, hgl, hh, hnc, _⟩
    · refine ⟨_, w, ?_, hown, World.grownBy.refl _ _, Nw.refl _ _⟩
      simp [Builtin.append_, run_underlying hu, sizeOf, typeInfo, hi, Builtin.lenOf, run_firstCells_none]
    · refine ⟨_, w, ?_, hown, World.grownBy.refl _ _, Nw.refl _ _⟩
      simp [Builtin.append_, run_underlying hu, sizeOf, typeInfo, hi, Builtin.lenOf, run_firstCells_none, hnc, storeCells]
  | some a =>
    have hrow : ∀ j u, (K.cells M)[j]? = some u → w.cell? (a.add j) = some u := by
      by_cases hne : M = []
      · subst hne; intro j u hu; simp [Kd.cells] at hu
      · obtain ⟨b', off', ha, hlt, hW⟩ := h3 hne
        obtain rfl := Option.some.inj ha
        exact cells_row hW
    have hbm := Nat.mul_le_mul hl hby
    obtain ⟨v', w', hr, ho, hg, _, hb⟩ := run_append_own_at (P := Try.prog) w base ts ty t i0 z K.k bytes hu hi hz0 hz1 hz2 hzc K.pos v L.length (K.cells L) hown.own a M.length cap (K.cells M) (cells_len M) hrow (cells_one M) (by unfold maxLen; omega) (by omega) hbase
    refine ⟨v', w', hr, ⟨?_⟩, hg, ?_⟩
    · rw [List.length_append, cells_append]; exact ho
    · rcases hb with h | h
      · exact .inl h
      · exact .inr fun k hk => by rw [h] at hk; exact Nat.le_of_eq (Option.some.inj hk)
/-- s[i:], and what it holds -/
theorem slice_lo3 {t ts : TypeId} (he : Try.prog.elem ts = t) (hu : Try.prog.underlying ts = some (.slice t)) (hs : ∀ w, (sizeOf t).run Try.prog w = .ok K.k w) (a : Option Addr) (c i : Nat) (L : List β) (hi : i ≤ L.length) (hc : L.length ≤ c) (hm : c ≤ maxLen) :
    ∃ a' m c', (∀ w, (Instr.sliceAt ts (.slice a L.length c) (some (.int .i64 (i : Int))) none none).run Try.prog w = .ok (.slice a' m c') w) ∧ (∀ u, IsR K u (.slice a L.length c) L → IsR K u (.slice a' m c') (L.drop i)) ∧ ∀ k ∈ ob (.slice a' m c'), k ∈ ob (.slice a L.length c) := by
  refine ⟨if c = i then a else a.map (·.add (i * K.k)), L.length - i, c - i, fun w => ?_, fun u hL => ?_, fun k hk => ?_⟩
  · rw [run_sliceAt_slice w _ _ _ _ _ (by rw [he]; exact hu), run_slice_l w _ _ _ _ (by rw [he]; exact hu) _ _ (by omega) (by omega), he, hs, Result.andThen_ok, Int.toNat_natCast]
    rfl
  · rcases Nat.lt_or_ge i L.length with h | h
    · obtain ⟨b, off, cap', hv, hb, _⟩ := hL.at i h
      obtain ⟨rfl, rfl⟩ : a = some ⟨b, off, none⟩ ∧ c = cap' := by injection hv with h1 h2 h3; exact ⟨h1, h3⟩
      have := IsR.drop hL i hi
      rw [if_neg (by omega), Option.map_some, Addr.add_mid, Nat.mul_comm]
      exact this
    · have e : L.drop i = [] := List.drop_of_length_le h
      rw [e]
      refine ⟨_, _, by rw [show L.length - i = ([] : List β).length by simp; omega], Nat.zero_le _, by omega, fun h => absurd rfl h⟩
  · rw [mem_ob] at hk ⊢
    cases a with
    | none => split at hk <;> simp [Value.ownBlock] at hk
    | some a =>
      split at hk
      · exact hk
      · simp only [Option.map_some, Value.ownBlock, Option.some.injEq] at hk ⊢
        rw [← hk]
        unfold Addr.add
        split <;> rfl
end

theorem prD_len (D : List Ver) (h : List Nat) (n : Nat) (hn : n ≤ D.length) : (prD D h n).length ≤ n := by
  have := (prD_sub D h n hn).length_le
  rw [List.length_take] at this
  omega
theorem bi_eq (r : Option Nat) (i : Nat) : (bi r == (i : Int)) = decide (r = some i) := by
  cases r with
  | none => rw [decide_eq_false (by simp)]; show ((-1 : Int) == (i : Int)) = false; rw [beq_eq_false_iff_ne]; omega
  | some c =>
    show ((c : Int) == (i : Int)) = _
    by_cases h : c = i
    · subst h; simp
    · rw [decide_eq_false (by simpa using h), beq_eq_false_iff_ne]; omega
theorem info_rv9 : (Try.prog.info? 107).map (fun i => (i.zero, i.size)) = some (some (.agg [Value.int .u64 0, .int .u64 0, .int .u64 0, .int .u64 0, .int .i64 0, .string ⟨#[]⟩, .string ⟨#[]⟩, .string ⟨#[]⟩, .bool false].toArray), 9) := by kernel_rfl
set_option maxHeartbeats 16000000 in
theorem rprune {w0 w : World} {b room : Nat} {wv lv : Value} {A : List Nat} {D : List Ver} {R : List Rg} (h : List Nat) (hS : Sep w0 w (rB b (rfv room wv lv A) :: rO (vk wrt) 107 w0.heap.size lv D :: R)) (hD : ∀ x ∈ D, x.1.1.length = 4) (hn : D.length < 1000) (h4 : h.length = 4) :
    Calls Try.prog 17 #[.pointer (some ⟨b, 0, none⟩), AV .u64 h] w fun e w' => e = .returned (.int .i64 ((D.length : Int) - ((prD D h D.length).length : Int))) ∧ ∃ lv', Sep w0 w' (rB b (rfv room wv lv' A) :: rO (vk wrt) 107 w0.heap.size lv' (prD D h D.length) :: R) := by
  obtain ⟨h0, h1, h2, h3, rfl⟩ := V.four h4
  have HD4 := Lib.hid hD
  have hL : OR (vk wrt) 107 w w0.heap.size lv D := hS.or 1 rfl
  obtain ⟨sl, cl, ev, _⟩ := hL.is.is
  obtain ⟨n, HN⟩ : ∃ n, Hid (D.length = n) := ⟨_, rfl⟩
  have hn0 := Lib.hid hn
  rw [HN.out] at ev hn ⊢
  subst ev
  have HS := Lib.hid hS
  clear hL hS hD h4
  go_enter Try.func17, Try.ntmps17
  go_wp2_with (first | refine blk_box rfl 57 _ rfl (ks .u64 [h0, h1, h2, h3]) rfl ?_)
  intro w1 A1 B1 Z1
  obtain ⟨bh, HBH⟩ : ∃ b, Hid (w.heap.size = b) := ⟨_, rfl⟩
  have S1 : Hid (Sep w0 w1 (rB bh (ks .u64 [h0, h1, h2, h3]) :: rB b (rfv room wv (.slice sl n cl) A) :: rO (vk wrt) 107 w0.heap.size (.slice sl n cl) D :: R)) := by show Sep _ _ _; rw [← HBH.out]; exact HS.out.box B1 Z1 A1
  rw [HBH.out]
  clear A1 B1 Z1 HBH HS
  have S2 : Hid (Sep w0 w1 (rO (vk wrt) 107 w0.heap.size (.slice none 0 0) (prD D [h0, h1, h2, h3] 0) :: rB bh (ks .u64 [h0, h1, h2, h3]) :: rB b (rfv room wv (.slice sl n cl) A) :: rO (vk wrt) 107 w0.heap.size (.slice sl n cl) D :: R)) := S1.out.nilrow (vk wrt) 107 w0.heap.size
  clear S1
  go_wp2_with fail
  go_loopw [6, 5] (fun iv os wr => ∃ (i : Nat) (ov : Value), i ≤ n ∧ iv = .int .i64 (i : Int) ∧ ov = os ∧ Hid (Sep w0 wr (rO (vk wrt) 107 w0.heap.size ov (prD D [h0, h1, h2, h3] i) :: rB bh (ks .u64 [h0, h1, h2, h3]) :: rB b (rfv room wv (.slice sl n cl) A) :: rO (vk wrt) 107 w0.heap.size (.slice sl n cl) D :: R))) (fun iv _ _ => n - (intOf iv).toNat)
  case atStart => exact ⟨0, _, by omega, rfl, rfl, S2⟩
  case round =>
    obtain ⟨i, ov, hin, rfl, rfl, Sr⟩ := hrel
    clear S2
    have cc : wr.cell? ⟨b, 2, none⟩ = some (.slice sl n cl) := (Sr.out.blk 2 rfl).cell 2 _ rfl
    by_cases hlt : i < n
    · have i1 : (i : Int) < (n : Int) := by omega
      have hx4 := HD4.out _ (getD_mem D i (by rw [HN.out]; exact hlt))
      obtain ⟨g, og, c9, hv, hg, hrx⟩ := IsR.at (Sr.out.or 3 rfl).is i (by rw [HN.out]; exact hlt)
      have hgg : sl = some ⟨g, og, none⟩ := by injection hv
      subst hgg
      have hix : ∀ w, (Instr.indexAt 76 (.slice (some ⟨g, og, none⟩) n cl) (.int .i64 (i : Int))).run Try.prog w = .ok (.pointer (some ⟨g, og + 9 * i, none⟩)) w := fun w => index_rv g og n cl i hlt w
      have HST : Hid (prD D [h0, h1, h2, h3] (i + 1) = prD D [h0, h1, h2, h3] i ++ if keepI D [h0, h1, h2, h3] i = true then [D.getD i vz] else []) := rfl
      have HKI : Hid (keepI D [h0, h1, h2, h3] i = (!C.seen (D.getD i vz).1 [h0, h1, h2, h3] || decide (lastD D (dkey (D.getD i vz)) [h0, h1, h2, h3] false = some i))) := rfl
      obtain ⟨x, HX⟩ : ∃ x, Hid (D.getD i vz = x) := ⟨_, rfl⟩
      have hrx2 : wr.rangeAt g (og + 9 * i) ((vk wrt).cf (D.getD i vz)) := hrx
      rw [HX.out] at hrx2 hx4 HST HKI
      clear hv hg hrx
      obtain ⟨⟨lx, d⟩, xb, xk, xv, xg⟩ := x
      dsimp only at hx4
      obtain ⟨a0, a1, a2, a3, rfl⟩ := V.four hx4
      have HRX : Hid (wr.rangeAt g (og + 9 * i) [Value.int .u64 (a0 : Int), .int .u64 (a1 : Int), .int .u64 (a2 : Int), .int .u64 (a3 : Int), .int .i64 d, .string xb, .string xk, .string xv, .bool xg]) := hrx2
      clear hrx2
      go_wp2_with (first | refine wpList_load_mid rfl 107 _ rfl g (og + 9 * i) rfl [Value.int .u64 (a0 : Int), .int .u64 (a1 : Int), .int .u64 (a2 : Int), .int .u64 (a3 : Int), .int .i64 d, .string xb, .string xk, .string xv, .bool xg] _ HRX.out Try.underlying107 rfl size_rv9 ?_ | refine blk_alloc rfl 107 [Value.int .u64 0, .int .u64 0, .int .u64 0, .int .u64 0, .int .i64 0, .string ⟨#[]⟩, .string ⟨#[]⟩, .string ⟨#[]⟩, .bool false] rfl info_rv9 ?_)
      intro w2 A9 B Z
      obtain ⟨bx, HBX⟩ : ∃ b, Hid (wr.heap.size = b) := ⟨_, rfl⟩
      go_wp2_with (first | refine blk_store rfl 107 _ _ rfl wr.heap.size rfl [Value.int .u64 (a0 : Int), .int .u64 (a1 : Int), .int .u64 (a2 : Int), .int .u64 (a3 : Int), .int .i64 d, .string xb, .string xk, .string xv, .bool xg] rfl _ A9 rfl size_rv9 rfl ?_)
      intro w3 A8 U9
      have S3 : Hid (Sep w0 w3 (rB bx [Value.int .u64 (a0 : Int), .int .u64 (a1 : Int), .int .u64 (a2 : Int), .int .u64 (a3 : Int), .int .i64 d, .string xb, .string xk, .string xv, .bool xg] :: rO (vk wrt) 107 w0.heap.size ov (prD D [h0, h1, h2, h3] i) :: rB bh (ks .u64 [h0, h1, h2, h3]) :: rB b (rfv room wv (.slice (some ⟨g, og, none⟩) n cl) A) :: rO (vk wrt) 107 w0.heap.size (.slice (some ⟨g, og, none⟩) n cl) D :: R)) := by
        show Sep _ _ _
        rw [← HBX.out]
        exact Sep.fresh Sr.out B Z U9 A8
      rw [HBX.out]
      clear A9 B Z A8 U9 HBX Sr HRX hix cc
      obtain ⟨r, HR⟩ : ∃ r, Hid (lastD D (dkey (((([a0, a1, a2, a3], d) : C.St), (xb, xk, xv, xg)) : Ver)) [h0, h1, h2, h3] false = r) := ⟨_, rfl⟩
      rw [HR.out] at HKI
      have KL : Hid (Calls Try.prog 45 #[.pointer (some ⟨b, 0, none⟩), .string xb, .string xk, .agg (ks .u64 [h0, h1, h2, h3]).toArray, .bool false] w3 fun e w' => e = .returned (.int .i64 (bi r)) ∧ Below w3.heap.size w3 w') := by
        have h9 := rlast b room wv _ A D w0.heap.size xb xk [h0, h1, h2, h3] false w3 (S3.out.blk 3 rfl) (S3.out.or 4 rfl) HD4.out hn0.out rfl
        rw [show lastD D (xb, xk) [h0, h1, h2, h3] false = r from HR.out] at h9
        exact h9
      have c5 := (S3.out.blk 0 rfl).cell 5 _ rfl
      have c6 := (S3.out.blk 0 rfl).cell 6 _ rfl
      go_wp2_with (first | refine blk_load rfl 57 _ rfl bh rfl (ks .u64 [h0, h1, h2, h3]) (S3.out.blk 2 rfl) _ Try.underlying57 rfl Try.size_r ?_)
      clear c5 c6
      refine (KL.out).mono ?_; rintro e w4 ⟨rfl, hb⟩
      have S4 := Lib.hid (S3.out.below hb)
      clear hb S3 KL
      obtain ⟨sn, HSN⟩ : ∃ s, Hid (C.seen (([a0, a1, a2, a3], d) : C.St) [h0, h1, h2, h3] = s) := ⟨_, rfl⟩
      rw [HSN.out] at HKI
      have KSN : Hid (Calls Try.prog 46 #[.agg [Value.int .u64 (a0 : Int), .int .u64 (a1 : Int), .int .u64 (a2 : Int), .int .u64 (a3 : Int), .int .i64 d].toArray, .agg (ks .u64 [h0, h1, h2, h3]).toArray] w4 fun e u' => e = .returned (.bool sn) ∧ Below w4.heap.size w4 u') := by
        have h9 := ref_sseen [a0, a1, a2, a3] [h0, h1, h2, h3] d w4 rfl rfl
        rw [show V.leq [a0, a1, a2, a3] [h0, h1, h2, h3] = sn from HSN.out] at h9
        exact h9
      go_wp2_with (first | refine wpList_load_mid rfl 61 _ rfl bx 0 rfl [Value.int .u64 (a0 : Int), .int .u64 (a1 : Int), .int .u64 (a2 : Int), .int .u64 (a3 : Int), .int .i64 d] _ (preb (vs := [Value.string xb, .string xk, .string xv, .bool xg]) (S4.out.blk 0 rfl)) Try.underlying61 rfl Try.size_rs ?_ | refine blk_load rfl 57 _ rfl bh rfl (ks .u64 [h0, h1, h2, h3]) (S4.out.blk 2 rfl) _ Try.underlying57 rfl Try.size_r ?_)
      refine (KSN.out).mono ?_; rintro e w5 ⟨rfl, hb⟩
      have S5_ := Lib.hid (S4.out.below hb)
      clear hb S4 KSN
      obtain ⟨z, HZ⟩ : ∃ z, Hid (bi r = z) := ⟨_, rfl⟩
      have hzi : (z == (i : Int)) = decide (r = some i) := by rw [← HZ.out]; exact bi_eq r i
      rw [HZ.out]
      cases sn with
      | false =>
        have HST2 : Hid (prD D [h0, h1, h2, h3] (i + 1) = prD D [h0, h1, h2, h3] i ++ [(([a0, a1, a2, a3], d), (xb, xk, xv, xg))]) := by
          show _ = _
          rw [HST.out, if_pos (by rw [HKI.out]; simp [*])]
        have hB9 : Below w5.heap.size w5 (w5.alloc (.cells [Value.int .u64 (a0 : Int), .int .u64 (a1 : Int), .int .u64 (a2 : Int), .int .u64 (a3 : Int), .int .i64 d, .string xb, .string xk, .string xv, .bool xg].toArray 107)) := (Below.refl _ _).alloc (Nat.le_refl _) _
        have HBX5 := Lib.hid (S5_.out.blk 0 rfl)
        have S9 := Lib.hid (S5_.out.tail.below hB9)
        have hX9 : (w5.alloc (.cells [Value.int .u64 (a0 : Int), .int .u64 (a1 : Int), .int .u64 (a2 : Int), .int .u64 (a3 : Int), .int .i64 d, .string xb, .string xk, .string xv, .bool xg].toArray 107)).heap[w5.heap.size]? = some (.cells ((vk wrt).cf ((([a0, a1, a2, a3], d), (xb, xk, xv, xg)) : Ver)).toArray 107 (0, 0)) := heap_alloc_last w5 _
        obtain ⟨v9, w9, hr, ho, hg, hnw⟩ := run_append_one (K := vk wrt) 76 Try.underlying76 inf_rv zc_rv _ w0.heap.size _ (prD D [h0, h1, h2, h3] i) (S9.out.or 0 rfl) w5.heap.size 0 1 1 [((([a0, a1, a2, a3], d), (xb, xk, xv, xg)) : Ver)] (IsR.one (Blk.of_row hX9) (Array.getElem?_eq_some_iff.1 hX9).1) (by simp) (by have h9 := prD_len D [h0, h1, h2, h3] i (by rw [HN.out]; exact hin); simp; omega) (by omega) S9.out.size
        have HRn := Lib.hid hr
        rw [← HST2.out] at ho
        have S10 : Hid (Sep w0 w9 (rO (vk wrt) 107 w0.heap.size v9 (prD D [h0, h1, h2, h3] (i + 1)) :: rB bh (ks .u64 [h0, h1, h2, h3]) :: rB b (rfv room wv (.slice (some ⟨g, og, none⟩) n cl) A) :: rO (vk wrt) 107 w0.heap.size (.slice (some ⟨g, og, none⟩) n cl) D :: R)) := S9.out.row 0 rfl ho hg hnw
        clear hr ho hg hnw hX9 S9 hB9 S5_
        go_wp2_with (first | refine blk_load rfl 107 _ rfl bx rfl [Value.int .u64 (a0 : Int), .int .u64 (a1 : Int), .int .u64 (a2 : Int), .int .u64 (a3 : Int), .int .i64 d, .string xb, .string xk, .string xv, .bool xg] HBX5.out _ Try.underlying107 rfl size_rv9 ?_ | (at_builtin; refine append_step rfl _ _ _ _ rfl rfl rfl HRn.out ?_))
        go_roundw
        case rel => exact ⟨i + 1, _, by omega, by go_num, rfl, S10⟩
        case measure => simp [intOf]; omega
      | true =>
        by_cases hri : r = some i
        · have hzt : (z == (i : Int)) = true := by rw [hzi, decide_eq_true hri]
          clear hzi
          have HST2 : Hid (prD D [h0, h1, h2, h3] (i + 1) = prD D [h0, h1, h2, h3] i ++ [(([a0, a1, a2, a3], d), (xb, xk, xv, xg))]) := by
            show _ = _
            rw [HST.out, if_pos (by rw [HKI.out]; simp [*])]
          have hB9 : Below w5.heap.size w5 (w5.alloc (.cells [Value.int .u64 (a0 : Int), .int .u64 (a1 : Int), .int .u64 (a2 : Int), .int .u64 (a3 : Int), .int .i64 d, .string xb, .string xk, .string xv, .bool xg].toArray 107)) := (Below.refl _ _).alloc (Nat.le_refl _) _
          have HBX5 := Lib.hid (S5_.out.blk 0 rfl)
          have S9 := Lib.hid (S5_.out.tail.below hB9)
          have hX9 : (w5.alloc (.cells [Value.int .u64 (a0 : Int), .int .u64 (a1 : Int), .int .u64 (a2 : Int), .int .u64 (a3 : Int), .int .i64 d, .string xb, .string xk, .string xv, .bool xg].toArray 107)).heap[w5.heap.size]? = some (.cells ((vk wrt).cf ((([a0, a1, a2, a3], d), (xb, xk, xv, xg)) : Ver)).toArray 107 (0, 0)) := heap_alloc_last w5 _
          obtain ⟨v9, w9, hr, ho, hg, hnw⟩ := run_append_one (K := vk wrt) 76 Try.underlying76 inf_rv zc_rv _ w0.heap.size _ (prD D [h0, h1, h2, h3] i) (S9.out.or 0 rfl) w5.heap.size 0 1 1 [((([a0, a1, a2, a3], d), (xb, xk, xv, xg)) : Ver)] (IsR.one (Blk.of_row hX9) (Array.getElem?_eq_some_iff.1 hX9).1) (by simp) (by have h9 := prD_len D [h0, h1, h2, h3] i (by rw [HN.out]; exact hin); simp; omega) (by omega) S9.out.size
          have HRn := Lib.hid hr
          rw [← HST2.out] at ho
          have S10 : Hid (Sep w0 w9 (rO (vk wrt) 107 w0.heap.size v9 (prD D [h0, h1, h2, h3] (i + 1)) :: rB bh (ks .u64 [h0, h1, h2, h3]) :: rB b (rfv room wv (.slice (some ⟨g, og, none⟩) n cl) A) :: rO (vk wrt) 107 w0.heap.size (.slice (some ⟨g, og, none⟩) n cl) D :: R)) := S9.out.row 0 rfl ho hg hnw
          clear hr ho hg hnw hX9 S9 hB9 S5_
          go_wp2_with (first | refine blk_load rfl 107 _ rfl bx rfl [Value.int .u64 (a0 : Int), .int .u64 (a1 : Int), .int .u64 (a2 : Int), .int .u64 (a3 : Int), .int .i64 d, .string xb, .string xk, .string xv, .bool xg] HBX5.out _ Try.underlying107 rfl size_rv9 ?_ | (at_builtin; refine append_step rfl _ _ _ _ rfl rfl rfl HRn.out ?_))
          go_roundw
          case rel => exact ⟨i + 1, _, by omega, by go_num, rfl, S10⟩
          case measure => simp [intOf]; omega
        · have hzt : (z == (i : Int)) = false := by rw [hzi, decide_eq_false hri]
          clear hzi
          have HST2 : Hid (prD D [h0, h1, h2, h3] (i + 1) = prD D [h0, h1, h2, h3] i) := by
            show _ = _
            rw [HST.out, if_neg (by rw [HKI.out]; simp [*]), List.append_nil]
          have S10 : Hid (Sep w0 w5 (rO (vk wrt) 107 w0.heap.size ov (prD D [h0, h1, h2, h3] (i + 1)) :: rB bh (ks .u64 [h0, h1, h2, h3]) :: rB b (rfv room wv (.slice (some ⟨g, og, none⟩) n cl) A) :: rO (vk wrt) 107 w0.heap.size (.slice (some ⟨g, og, none⟩) n cl) D :: R)) := by show Sep _ _ _; rw [HST2.out]; exact S5_.out.tail
          clear S5_
          go_wp2_with fail
          go_roundw
          case rel => exact ⟨i + 1, _, by omega, by go_num, rfl, S10⟩
          case measure => simp [intOf]; omega
    · obtain rfl : i = n := by omega
      have i1 : ¬ (i : Int) < (i : Int) := by omega
      obtain ⟨so, co, eo, _⟩ := (Sr.out.or 0 rfl).is.is
      obtain ⟨m, HM⟩ : ∃ m, Hid ((prD D [h0, h1, h2, h3] i).length = m) := ⟨_, rfl⟩
      rw [HM.out] at eo
      subst eo
      have hmi : m ≤ i := by rw [← HM.out]; exact prD_len D _ i (by rw [HN.out]; exact Nat.le_refl _)
      have hw : IntKind.i64.wrap ((i : Int) - (m : Int)) = (i : Int) - (m : Int) := IntWalk.i64_in _ (by omega)
      have f2 := (Sr.out.blk 2 rfl).free 2 (by simp [rfv])
      have S9 : Hid (Sep w0 (wr.setCell ⟨b, 2, none⟩ (.slice so m co)) (rO (vk wrt) 107 w0.heap.size (.slice so m co) (prD D [h0, h1, h2, h3] i) :: rB bh (ks .u64 [h0, h1, h2, h3]) :: rB b (rfv room wv (.slice so m co) A) :: rO (vk wrt) 107 w0.heap.size (.slice sl i cl) D :: R)) := Sr.out.upd 2 rfl (Upd.setCell _ _ _ _) (Blk.setc (Sr.out.blk 2 rfl) 2 (by simp [rfv]) _)
      have S10 : Hid (Sep w0 (wr.setCell ⟨b, 2, none⟩ (.slice so m co)) (rB b (rfv room wv (.slice so m co) A) :: rO (vk wrt) 107 w0.heap.size (.slice so m co) (prD D [h0, h1, h2, h3] i) :: R)) := by
        have h9 := S9.out.sub (R' := [rO (vk wrt) 107 w0.heap.size (.slice so m co) (prD D [h0, h1, h2, h3] i), rB b (rfv room wv (.slice so m co) A)] ++ R) (by simp only [List.cons_append, List.nil_append]; exact .cons_cons _ (.cons _ (.cons_cons _ (.cons _ (List.Sublist.refl _)))))
        exact h9.perm (.swap _ _ _)
      clear S9 Sr
      go_wp2_with fail
      go_ret
      exact ⟨by rw [HM.out]; rfl, _, S10.out⟩
end Go.Proofs.Ytohcdonmdnjgoaa.Sd

namespace Go.Proofs.Ytohcdonmdnjgoaa.Sd

open Go.RowKit Go.Proofs.Ytohcdonmdnjgoaa.Vc Go.Proofs.Ytohcdonmdnjgoaa.Sp Go.Proofs.Ytohcdonmdnjgoaa.Rw Go.Proofs.Ytohcdonmdnjgoaa.Ch Go.Proofs.Ytohcdonmdnjgoaa.Se Go.Proofs.Ytohcdonmdnjgoaa.It Go.Proofs.Ytohcdonmdnjgoaa.Mk

set_option linter.unusedVariables false

set_option linter.unusedSimpArgs false

set_option maxRecDepth 100000

theorem isR_st {β : Type} {K : Kd β} {w w' : World} {v : Value} {L : List β} (hk : ∀ k ∈ ob v, w'.heap[k]? = w.heap[k]?) (h : IsR K w v L) : IsR K w' v L := by
  obtain ⟨a, cap, hv, h1, h2, h3⟩ := h.is
  refine ⟨a, cap, hv, h1, h2, fun hn => ?_⟩
  obtain ⟨b, off, ha, hlt, hW⟩ := h3 hn
  have hb := hk b (mem_ob.2 (by rw [hv, ha]; rfl))
  refine ⟨b, off, ha, ?_, fun i x hx j u hu => ?_⟩
  · have h9 : w.heap[b]? = some w.heap[b] := Array.getElem?_eq_getElem hlt
    rw [← hb] at h9
    exact (Array.getElem?_eq_some_iff.1 h9).1
  · rw [World.cell?_of_block (w := w) hb]
    exact hW i x hx j u hu
/-- what waits: the row v holds W; the writes of each of W2 lie where it says -/
structure Zw (w : World) (v : Value) (W W2 : List Tq) : Prop where
  row : IsR txk w v W
  ws : ∀ q ∈ W2, IsWs w q.v q.L
def rZ (v : Value) (W W2 : List Tq) : Rg := ⟨ob v ++ W2.flatMap (fun q => ob q.v), fun w => Zw w v W W2, fun w w' hk h =>
  ⟨isR_st (fun k hk' => hk k (List.mem_append_left _ hk')) h.row, fun q hq => ws_st (fun k hk' => hk k (List.mem_append_right _ (List.mem_flatMap.2 ⟨q, hq, hk'⟩))) (h.ws q hq)⟩⟩
theorem zw {w0 w : World} {R : List Rg} {v : Value} {W W2 : List Tq} (h : Sep w0 w R) (i : Nat) (hi : R[i]? = some (rZ v W W2)) : Zw w v W W2 := h.get i hi
theorem elem_rb : Try.prog.elem 75 = 104 := by kernel_rfl
theorem size_rb (w : World) : (sizeOf 104).run Try.prog w = .ok 6 w := by
  have h : (Try.prog.info? 104).map (·.size) = some 6 := by kernel_rfl
  obtain ⟨i, hi, hb⟩ := Option.map_eq_some_iff.1 h
  simp [sizeOf, typeInfo, hi, hb]
theorem size_rb6 : (Try.prog.info? 104).map (·.size) = some 6 := by kernel_rfl
theorem index_rb (b o n cap j : Nat) (hj : j < n) (w : World) : (Instr.indexAt 75 (.slice (some ⟨b, o, none⟩) n cap) (.int .i64 (j : Int))).run Try.prog w = .ok (.pointer (some ⟨b, o + 6 * j, none⟩)) w :=
  run_index elem_rb Try.underlying75 size_rb b o n cap j hj w
theorem elem_rw8 : Try.prog.elem 63 = 71 := by kernel_rfl
theorem size_rw8 (w : World) : (sizeOf 71).run Try.prog w = .ok 4 w := by
  have h := size_rw4
  obtain ⟨i, hi, hb⟩ := Option.map_eq_some_iff.1 h
  simp [sizeOf, typeInfo, hi, hb]
theorem index_rw8 (b o n cap j : Nat) (hj : j < n) (w : World) : (Instr.indexAt 63 (.slice (some ⟨b, o, none⟩) n cap) (.int .i64 (j : Int))).run Try.prog w = .ok (.pointer (some ⟨b, o + 4 * j, none⟩)) w :=
  run_index elem_rw8 Try.underlying63 size_rw8 b o n cap j hj w
theorem inf_rb : (Try.prog.info? 104).map (fun i => (i.zero, i.size, i.bytes)) = some (some (txk.val txk.none_), txk.k, 64) := by
  show _ = some (some (Value.agg #[.int .u64 0, .int .u64 0, .int .u64 0, .int .u64 0, .int .i64 0, .slice none 0 0]), 6, 64)
  kernel_rfl
theorem inf_rw8 : (Try.prog.info? 71).map (fun i => (i.zero, i.size, i.bytes)) = some (some (wk.val wk.none_), wk.k, 56) := by
  show _ = some (some (Value.agg #[.string ⟨#[]⟩, .string ⟨#[]⟩, .string ⟨#[]⟩, .bool false]), 4, 56)
  kernel_rfl
/-- is it let wait? -/
def okP (room : Nat) (W : List Tq) (st : C.St) (L : List I.Wt) : Bool := C.right st && decide (W.length < room) && L.all I.right
set_option maxHeartbeats 16000000 in
theorem rpush {w0 w : World} {b room : Nat} {wv lv : Value} {A : List Nat} {W : List Tq} {R : List Rg} (st : C.St) (v : Value) (M : List I.Wt) (hS : Sep w0 w (rB b (rfv room wv lv A) :: rZ wv W W :: R)) (hs : st.1.length = 4) (hM : IsWs w v M) (hn : M.length < 1000) (hW : W.length < 1000) (hroom : room ≤ 16) :
    Calls Try.prog 19 #[.pointer (some ⟨b, 0, none⟩), SV st.1 st.2, v] w fun r w' => r = .returned (.bool (okP room W st M)) ∧ ∃ wv' a c, Sep w0 w' (rB b (rfv room wv' lv A) :: rZ wv' (if okP room W st M = true then W ++ [⟨st, a, c, M⟩] else W) (if okP room W st M = true then W ++ [⟨st, a, c, M⟩] else W) :: R) := by
  obtain ⟨ls, e⟩ := st
  dsimp only at hs
  obtain ⟨s0, s1, s2, s3, rfl⟩ := V.four hs
  have HMM := Lib.hid hM
  obtain ⟨sm, cm, em, _⟩ := hM.is
  obtain ⟨m, HM⟩ : ∃ m, Hid (M.length = m) := ⟨_, rfl⟩
  rw [HM.out] at em hn
  subst em
  obtain ⟨sw, cw, ew, _⟩ := (zw hS 1 rfl).row.is
  obtain ⟨n, HN⟩ : ∃ n, Hid (W.length = n) := ⟨_, rfl⟩
  rw [HN.out] at ew hW
  subst ew
  have HS := Lib.hid hS
  clear hS hs hM
  obtain ⟨rt, HRT⟩ : ∃ r, Hid (C.right (([s0, s1, s2, s3], e) : C.St) = r) := ⟨_, rfl⟩
  have HOK : Hid (okP room W (([s0, s1, s2, s3], e) : C.St) M = (rt && decide (n < room) && M.all I.right)) := by show okP _ _ _ _ = _; unfold okP; rw [HRT.out, HN.out]
  obtain ⟨ok, HO⟩ : ∃ z, Hid (okP room W (([s0, s1, s2, s3], e) : C.St) M = z) := ⟨_, rfl⟩
  rw [HO.out] at HOK ⊢
  go_enter Try.func19, Try.ntmps19
  go_wp2_with (first | refine blk_box rfl 61 _ rfl [Value.int .u64 (s0 : Int), .int .u64 (s1 : Int), .int .u64 (s2 : Int), .int .u64 (s3 : Int), .int .i64 e] rfl ?_)
  intro w1 A1 B1 Z1
  obtain ⟨bs, HBS⟩ : ∃ b, Hid (w.heap.size = b) := ⟨_, rfl⟩
  have S1 : Hid (Sep w0 w1 (rB bs [Value.int .u64 (s0 : Int), .int .u64 (s1 : Int), .int .u64 (s2 : Int), .int .u64 (s3 : Int), .int .i64 e] :: rB b (rfv room (.slice sw n cw) lv A) :: rZ (.slice sw n cw) W W :: R)) := by show Sep _ _ _; rw [← HBS.out]; exact HS.out.box B1 Z1 A1
  have HB1 := Lib.hid B1
  rw [HBS.out]
  clear A1 B1 Z1 HBS
  have KR : Hid (∀ u, Below w1.heap.size w1 u → Calls Try.prog 53 [.agg [Value.int .u64 (s0 : Int), .int .u64 (s1 : Int), .int .u64 (s2 : Int), .int .u64 (s3 : Int), .int .i64 e].toArray].toArray u fun x u' => x = .returned (.bool rt) ∧ Below w1.heap.size w1 u') := fun u hu => by
    have h9 := ref_sright [s0, s1, s2, s3] e u rfl
    rw [show T.right [s0, s1, s2, s3] e = rt from HRT.out] at h9
    exact Calls.more hu h9
  have HC1 : Hid (∀ u, Below w1.heap.size w1 u → u.cell? ⟨b, 1, none⟩ = some (.slice sw n cw)) := fun u hu => ((S1.out.below hu).blk 1 rfl).cell 1 _ rfl
  have HC0 : Hid (∀ u, Below w1.heap.size w1 u → u.cell? ⟨b, 0, none⟩ = some (.int .i64 (room : Int))) := fun u hu => ((S1.out.below hu).blk 1 rfl).cell 0 _ rfl
  have HRS : Hid (∀ u, Below w1.heap.size w1 u → Blk u bs [Value.int .u64 (s0 : Int), .int .u64 (s1 : Int), .int .u64 (s2 : Int), .int .u64 (s3 : Int), .int .i64 e]) := fun u hu => (S1.out.below hu).blk 0 rfl
  cases rt with
  | false =>
    have hok : ok = false := by rw [HOK.out]; simp
    subst hok
    go_wp2_with fail
    refine region_w Try.mixed (by kernel_rfl) ?_
    refine w_blk_load rfl 61 _ rfl bs rfl [Value.int .u64 (s0 : Int), .int .u64 (s1 : Int), .int .u64 (s2 : Int), .int .u64 (s3 : Int), .int .i64 e] (fun u hu => HRS.out u hu) _ Try.underlying61 rfl Try.size_rs (fun K hK => ?_)
    go_simp
    refine hK _ ?_
    clear hK K
    refine w_call rfl 53 Try.f53 Try.func53 rfl rfl _ _ rfl _ rfl (.bool false) (by exact KR.out) (fun K hK => ?_)
    go_simp
    refine hK _ ?_
    clear hK K
    refine w_value rfl (.bool true) (fun u hu => by go_simp) (fun K hK => ?_)
    go_simp
    refine hK _ ?_
    clear hK K
    refine w_value rfl (.bool true) (fun u hu => by go_simp) (fun K hK => ?_)
    go_simp
    refine hK _ ?_
    clear hK K
    refine w_skip 3 false (some true) rfl rfl rfl (fun K hK => ?_)
    go_simp
    refine hK _ ?_
    clear hK K
    refine w_skip 3 false (some true) rfl rfl rfl (fun K hK => ?_)
    go_simp
    refine hK _ ?_
    clear hK K
    refine w_skip 3 false (some true) rfl rfl rfl (fun K hK => ?_)
    go_simp
    refine hK _ ?_
    clear hK K
    refine w_skip 3 false (some true) rfl rfl rfl (fun K hK => ?_)
    go_simp
    refine hK _ ?_
    clear hK K
    refine w_skip 3 false (some true) rfl rfl rfl (fun K hK => ?_)
    go_simp
    refine hK _ ?_
    clear hK K
    refine w_skip 3 false (some true) rfl rfl rfl (fun K hK => ?_)
    go_simp
    refine hK _ ?_
    clear hK K
    refine w_skip 3 false (some true) rfl rfl rfl (fun K hK => ?_)
    go_simp
    refine hK _ ?_
    clear hK K
    refine w_skip 3 false (some true) rfl rfl rfl (fun K hK => ?_)
    go_simp
    refine hK _ ?_
    clear hK K
    refine w_skip 3 false (some true) rfl rfl rfl (fun K hK => ?_)
    go_simp
    refine hK _ ?_
    clear hK K
    refine w_skip 3 false (some true) rfl rfl rfl (fun K hK => ?_)
    go_simp
    refine hK _ ?_
    clear hK K
    refine w_value rfl (.bool true) (fun u hu => by go_simp) (fun K hK => ?_)
    go_simp
    refine hK _ ?_
    clear hK K
    refine w_nil ?_
    intro u hu
    have S2 : Hid (Sep w0 u (rB b (rfv room (.slice sw n cw) lv A) :: rZ (.slice sw n cw) W W :: R)) := (S1.out.below hu).tail
    go_wp2_with fail
    go_ret
    exact ⟨rfl, _, S2.out⟩
  | true =>
    by_cases hr : n < room
    · have i9 : ¬ (room : Int) ≤ (n : Int) := by omega
      go_wp2_with fail
      refine region_w Try.mixed (by kernel_rfl) ?_
      refine w_blk_load rfl 61 _ rfl bs rfl [Value.int .u64 (s0 : Int), .int .u64 (s1 : Int), .int .u64 (s2 : Int), .int .u64 (s3 : Int), .int .i64 e] (fun u hu => HRS.out u hu) _ Try.underlying61 rfl Try.size_rs (fun K hK => ?_)
      go_simp
      refine hK _ ?_
      clear hK K
      refine w_call rfl 53 Try.f53 Try.func53 rfl rfl _ _ rfl _ rfl (.bool true) (by exact KR.out) (fun K hK => ?_)
      go_simp
      refine hK _ ?_
      clear hK K
      refine w_value rfl (.bool false) (fun u hu => by go_simp) (fun K hK => ?_)
      go_simp
      refine hK _ ?_
      clear hK K
      refine w_value rfl (.bool false) (fun u hu => by go_simp) (fun K hK => ?_)
      go_simp
      refine hK _ ?_
      clear hK K
      refine wg_value rfl (.pointer (some ⟨b, 0, none⟩)) (fun u hu => by go_simp) (fun K hK => ?_)
      go_simp
      refine hK _ ?_
      clear hK K
      refine wg_value rfl (.pointer (some ⟨b, 0, none⟩)) (fun u hu => by go_simp) (fun K hK => ?_)
      go_simp
      refine hK _ ?_
      clear hK K
      refine wg_value rfl (.pointer (some ⟨b, 1, none⟩)) (fun u hu => by go_simp) (fun K hK => ?_)
      go_simp
      refine hK _ ?_
      clear hK K
      refine wg_value rfl (.slice sw n cw) (fun u hu => by have hc := HC1.out u hu; go_simp) (fun K hK => ?_)
      go_simp
      refine hK _ ?_
      clear hK K
      refine wg_value rfl (.int .i64 (n : Int)) (fun u hu => by go_simp) (fun K hK => ?_)
      go_simp
      refine hK _ ?_
      clear hK K
      refine wg_value rfl (.pointer (some ⟨b, 0, none⟩)) (fun u hu => by go_simp) (fun K hK => ?_)
      go_simp
      refine hK _ ?_
      clear hK K
      refine wg_value rfl (.pointer (some ⟨b, 0, none⟩)) (fun u hu => by go_simp) (fun K hK => ?_)
      go_simp
      refine hK _ ?_
      clear hK K
      refine wg_value rfl (.pointer (some ⟨b, 0, none⟩)) (fun u hu => by go_simp) (fun K hK => ?_)
      go_simp
      refine hK _ ?_
      clear hK K
      refine wg_value rfl (.int .i64 (room : Int)) (fun u hu => by have hc := HC0.out u hu; go_simp) (fun K hK => ?_)
      go_simp
      refine hK _ ?_
      clear hK K
      refine wg_value rfl (.bool false) (fun u hu => by go_simp) (fun K hK => ?_)
      go_simp
      refine hK _ ?_
      clear hK K
      refine w_value rfl (.bool false) (fun u hu => by go_simp) (fun K hK => ?_)
      go_simp
      refine hK _ ?_
      clear hK K
      refine w_nil ?_
      intro u hu
      have S2 : Hid (Sep w0 u (rB bs [Value.int .u64 (s0 : Int), .int .u64 (s1 : Int), .int .u64 (s2 : Int), .int .u64 (s3 : Int), .int .i64 e] :: rB b (rfv room (.slice sw n cw) lv A) :: rZ (.slice sw n cw) W W :: R)) := S1.out.below hu
      have HBU := Lib.hid (Below.trans HB1.out (hu.mono HB1.out.size))
      clear hu i9
      go_wp2_with fail
      go_loopw [7] (fun iv wr => ∃ (i : Nat), i ≤ m ∧ iv = .int .i64 (i : Int) ∧ Hid (∀ k, k < i → I.right (M.getD k I.none_) = true) ∧ Hid (Below w.heap.size w wr) ∧ Hid (Sep w0 wr (rB bs [Value.int .u64 (s0 : Int), .int .u64 (s1 : Int), .int .u64 (s2 : Int), .int .u64 (s3 : Int), .int .i64 e] :: rB b (rfv room (.slice sw n cw) lv A) :: rZ (.slice sw n cw) W W :: R))) (fun iv _ => m - (intOf iv).toNat)
      case atStart => exact ⟨0, by omega, rfl, (fun k hk => by omega), HBU, S2⟩
      case round =>
        obtain ⟨i, him, rfl, HA, HBr, Sr⟩ := hrel
        clear S2 HBU S1
        by_cases hlt : i < m
        · have i1 : (i : Int) < (m : Int) := by omega
          obtain ⟨gm, om, cm2, hv, hgm, hrx⟩ := IsR.at (isR_of (HMM.out.below HBr.out)) i (by rw [HM.out]; exact hlt)
          have hgg : sm = some ⟨gm, om, none⟩ := by injection hv
          subst hgg
          have hix : ∀ w, (Instr.indexAt 63 (.slice (some ⟨gm, om, none⟩) m cm) (.int .i64 (i : Int))).run Try.prog w = .ok (.pointer (some ⟨gm, om + 4 * i, none⟩)) w := fun w => index_rw8 gm om m cm i hlt w
          obtain ⟨x, HX⟩ : ∃ x, Hid (M.getD i I.none_ = x) := ⟨_, rfl⟩
          have hrx2 : wr.rangeAt gm (om + 4 * i) (wc (M.getD i I.none_)) := hrx
          rw [HX.out] at hrx2
          have HRX := Lib.hid hrx2
          obtain ⟨rx, HRX2⟩ : ∃ r, Hid (I.right x = r) := ⟨_, rfl⟩
          have KW : Hid (Calls Try.prog 54 #[WV x] wr fun r u' => r = .returned (.bool rx) ∧ Below wr.heap.size wr u') := by have h9 := ref_wright x wr; rw [HRX2.out] at h9; exact h9
          obtain ⟨xb, xk, xv, xg⟩ := x
          clear hv hgm hrx hrx2
          go_wp2_with (first | refine wpList_load_mid rfl 71 _ rfl gm (om + 4 * i) rfl [Value.string xb, .string xk, .string xv, .bool xg] _ HRX.out Try.underlying71 rfl size_rw4 ?_)
          refine (KW.out).mono ?_; rintro e2 w4 ⟨rfl, hb⟩
          have S4 := Lib.hid (Sr.out.below hb)
          have HB4 := Lib.hid (Below.trans HBr.out (hb.mono HBr.out.size))
          clear hb Sr HBr KW
          cases rx with
          | false =>
            have hok : ok = false := by
              rw [HOK.out]
              have : M.all I.right = false := by
                rw [List.all_eq_false]
                refine ⟨M.getD i I.none_, ?_, by rw [HX.out, HRX2.out]; simp⟩
                rw [List.getD_eq_getElem?_getD, List.getElem?_eq_getElem (by rw [HM.out]; exact hlt)]
                exact List.getElem_mem _
              rw [this, Bool.and_false]
            subst hok
            have S5_ := Lib.hid S4.out.tail
            go_wp2_with fail
            go_ret
            exact ⟨rfl, _, S5_.out⟩
          | true =>
            have HA2 : Hid (∀ k, k < i + 1 → I.right (M.getD k I.none_) = true) := fun k hk => by
              rcases Nat.lt_or_ge k i with h9 | h9
              · exact HA.out k h9
              · obtain rfl : k = i := by omega
                rw [HX.out]; exact HRX2.out
            go_wp2_with fail
            go_roundw
            case rel => exact ⟨i + 1, by omega, by go_num, HA2, HB4, S4⟩
            case measure => simp [intOf]; omega
        · obtain rfl : i = m := by omega
          have i1 : ¬ (i : Int) < (i : Int) := by omega
          have hok : ok = true := by
            rw [HOK.out, decide_eq_true hr]
            have : M.all I.right = true := by
              rw [List.all_eq_true]
              intro x hx
              obtain ⟨k, hk, rfl⟩ := List.mem_iff_getElem.1 hx
              have h9 := HA.out k (by rw [← HM.out]; exact hk)
              rwa [List.getD_eq_getElem?_getD, List.getElem?_eq_getElem hk] at h9
            rw [this]; rfl
          subst hok
          have SD := Lib.hid (Sr.out.below ((Below.refl wr.heap.size wr).drew))
          have HBD := Lib.hid HBr.out.drew
          clear Sr HBr
          go_wp2_with fail
          have HK : Hid (∀ u, Below wr.drew.heap.size wr.drew u → (u.cell? ⟨b, 1, none⟩ = some (.slice sw n cw) ∧ u.rangeAt bs 0 [Value.int .u64 (s0 : Int), .int .u64 (s1 : Int), .int .u64 (s2 : Int), .int .u64 (s3 : Int), .int .i64 e])) := fun u hu => ⟨((SD.out.below hu).blk 1 rfl).cell 1 _ rfl, ((SD.out.below hu).blk 0 rfl).1⟩
          obtain ⟨v1, x1, hr, ho, hg, hnw⟩ := append_any (K := txk) 75 Try.underlying75 inf_rb zc_tq wr.drew wr.drew.heap.size (.slice none 0 0) [] (OR.nil _ _ _) (.slice sw n cw) W (zw SD.out 2 rfl).row (by simp; have := HN.out; omega) (by omega) (Nat.le_refl _)
          have HR1 := Lib.hid hr
          have T1 : Hid (Sep wr.drew x1 [rO txk 104 wr.drew.heap.size v1 W]) := ((Sep.start wr.drew).nilrow txk 104 wr.drew.heap.size).row 0 rfl ho hg hnw
          clear hr ho hg hnw
          obtain ⟨v2, x2, hr, ho, hg, hnw⟩ := append_any (K := wk) 63 Try.underlying63 inf_rw8 rfl x1 wr.drew.heap.size (.slice none 0 0) [] (OR.nil _ _ _) (.slice sm i cm) M (isR_of (HMM.out.below (HBD.out.trans (T1.out.under.mono HBD.out.size)))) (by simp; have := HM.out; omega) (by omega) T1.out.size
          have HR2 := Lib.hid hr
          have T2 : Hid (Sep wr.drew x2 [rO wk 71 wr.drew.heap.size v2 M, rO txk 104 wr.drew.heap.size v1 W]) := (T1.out.nilrow wk 71 wr.drew.heap.size).row 0 rfl ho hg hnw
          clear hg hnw hr
          obtain ⟨a2, c2, e2, _⟩ := ho.is.is
          clear ho
          rw [List.nil_append, HM.out] at e2
          subst e2
          obtain ⟨q, HQ⟩ : ∃ q : Tq, Hid (q = ⟨([s0, s1, s2, s3], e), a2, c2, M⟩) := ⟨_, rfl⟩
          have HQC : Hid (txk.cf q = [.int .u64 (s0 : Int), .int .u64 (s1 : Int), .int .u64 (s2 : Int), .int .u64 (s3 : Int), .int .i64 e, .slice a2 i c2]) := by show _ = _; rw [HQ.out, ← HM.out]; rfl
          have hB3 : Below x2.heap.size x2 (x2.alloc (.cells [.int .u64 (s0 : Int), .int .u64 (s1 : Int), .int .u64 (s2 : Int), .int .u64 (s3 : Int), .int .i64 e, .slice a2 i c2].toArray 104)) := (Below.refl _ _).alloc (Nat.le_refl _) _
          have T3 := Lib.hid (T2.out.below hB3)
          have hX3 : (x2.alloc (.cells [.int .u64 (s0 : Int), .int .u64 (s1 : Int), .int .u64 (s2 : Int), .int .u64 (s3 : Int), .int .i64 e, .slice a2 i c2].toArray 104)).heap[x2.heap.size]? = some (.cells (txk.cf q).toArray 104 (0, 0)) := by rw [HQC.out]; exact heap_alloc_last x2 _
          obtain ⟨v4, x4, hr, ho, hg, hnw⟩ := run_append_one (K := txk) 75 Try.underlying75 inf_rb zc_tq _ wr.drew.heap.size v1 W (T3.out.or 1 rfl) x2.heap.size 0 1 1 [q] (IsR.one (Blk.of_row hX3) (Array.getElem?_eq_some_iff.1 hX3).1) (by simp) (by rw [HN.out]; simp; omega) (by omega) T3.out.size
          have HR4 := Lib.hid hr
          have T4 : Hid (Sep wr.drew x4 [rO wk 71 wr.drew.heap.size (.slice a2 i c2) M, rO txk 104 wr.drew.heap.size v4 (W ++ [q])]) := T3.out.row 1 rfl ho hg hnw
          clear hg hnw hr hX3
          obtain ⟨a4, c4, e4, _⟩ := ho.is.is
          clear ho
          obtain ⟨n4, HN4⟩ : ∃ m, Hid ((W ++ [q]).length = m) := ⟨_, rfl⟩
          rw [HN4.out] at e4
          subst e4
          have HK1 := Lib.hid (HK.out x1 T1.out.under)
          have HK2 := Lib.hid (HK.out x2 T2.out.under)
          have HK3 := Lib.hid (HK.out _ T3.out.under)
          have HK4 := Lib.hid (HK.out x4 T4.out.under)
          clear hB3 T3
          have U4 : Hid (Sep w0 x4 (rB bs [Value.int .u64 (s0 : Int), .int .u64 (s1 : Int), .int .u64 (s2 : Int), .int .u64 (s3 : Int), .int .i64 e] :: rB b (rfv room (.slice sw n cw) lv A) :: rZ (.slice a4 n4 c4) (W ++ [q]) (W ++ [q]) :: R)) := by
            have hu := T4.out.under
            have hqv : q.v = .slice a2 i c2 := by rw [HQ.out, ← HM.out]; rfl
            refine SD.out.step 2 rfl hu.os hu.tape hu.output hu.size (fun k hk _ => hu.block k hk) (rZ (.slice a4 n4 c4) (W ++ [q]) (W ++ [q])) ⟨(T4.out.or 1 rfl).is, fun p hp => ?_⟩ (fun k hk => ?_)
            · rcases List.mem_append.1 hp with h9 | h9
              · exact (zw (SD.out.below hu) 2 rfl).ws p h9
              · obtain rfl := List.mem_singleton.1 h9
                rw [hqv, HQ.out]
                exact ⟨(T4.out.or 0 rfl).is.is⟩
            · have hold : ∀ k ∈ (rZ (.slice sw n cw) W W).bl, k < x4.heap.size := fun k hk => Nat.lt_of_lt_of_le (SD.out.lt 2 rfl k hk).2 hu.size
              rcases List.mem_append.1 hk with h9 | h9
              · have h8 := T4.out.lt 1 rfl k h9
                exact ⟨.inr h8.1, h8.2⟩
              · obtain ⟨p, hp, h8⟩ := List.mem_flatMap.1 h9
                rcases List.mem_append.1 hp with h7 | h7
                · have h6 : k ∈ (rZ (.slice sw n cw) W W).bl := List.mem_append_right _ (List.mem_flatMap.2 ⟨p, h7, h8⟩)
                  exact ⟨.inl h6, hold k h6⟩
                · obtain rfl := List.mem_singleton.1 h7
                  rw [hqv] at h8
                  have h6 := T4.out.lt 0 rfl k h8
                  exact ⟨.inr h6.1, h6.2⟩
          have g4 := (U4.out.blk 1 rfl).cell 1 _ rfl
          have q4 := (U4.out.blk 1 rfl).free 1 (by simp [rfv])
          have U5 : Hid (Sep w0 (x4.setCell ⟨b, 1, none⟩ (.slice a4 n4 c4)) (rB b (rfv room (.slice a4 n4 c4) lv A) :: rZ (.slice a4 n4 c4) (W ++ [q]) (W ++ [q]) :: R)) := (U4.out.upd 1 rfl (Upd.setCell _ _ _ _) (Blk.setc (U4.out.blk 1 rfl) 1 (by simp [rfv]) _)).tail
          rw [HQ.out] at U5
          clear HQC HQ HN4 T1 T2 T4 U4
          refine region_pickC (fun u => u.cell? ⟨b, 1, none⟩ = some (.slice sw n cw) ∧ u.rangeAt bs 0 [Value.int .u64 (s0 : Int), .int .u64 (s1 : Int), .int .u64 (s2 : Int), .int .u64 (s3 : Int), .int .i64 e]) 14 [0, 1, 2, 3, 4, 6, 7] [5, 8, 9, 10, 11, 12, 13, 14] Try.mixed (by kernel_rfl) rfl (by kernel_rfl) (HK.out _ (Below.refl _ _)) ?_
          refine p_readC rfl ?_
          refine c_value rfl (.pointer (some ⟨b, 0, none⟩)) (fun u hu => by go_simp) (fun _ _ _ h => h) (fun K hK => ?_)
          go_simp
          refine hK _ ?_
          clear hK K
          refine c_nil ?_
          refine p_readC rfl ?_
          refine c_value rfl (.pointer (some ⟨b, 0, none⟩)) (fun u hu => by go_simp) (fun _ _ _ h => h) (fun K hK => ?_)
          go_simp
          refine hK _ ?_
          clear hK K
          refine c_nil ?_
          refine p_readC rfl ?_
          refine c_value rfl (.pointer (some ⟨b, 0, none⟩)) (fun u hu => by go_simp) (fun _ _ _ h => h) (fun K hK => ?_)
          go_simp
          refine hK _ ?_
          clear hK K
          refine c_nil ?_
          refine p_readC rfl ?_
          refine c_value rfl (.pointer (some ⟨b, 1, none⟩)) (fun u hu => by go_simp) (fun _ _ _ h => h) (fun K hK => ?_)
          go_simp
          refine hK _ ?_
          clear hK K
          refine c_nil ?_
          refine p_readC rfl ?_
          refine c_value rfl (.slice sw n cw) (fun u hu => by have hc := hu.1; go_simp) (fun _ _ _ h => h) (fun K hK => ?_)
          go_simp
          refine hK _ ?_
          clear hK K
          refine c_nil ?_
          refine p_readC rfl ?_
          refine c_mid_load rfl 61 _ rfl bs 0 rfl [Value.int .u64 (s0 : Int), .int .u64 (s1 : Int), .int .u64 (s2 : Int), .int .u64 (s3 : Int), .int .i64 e] (fun u hu => hu.2) _ Try.underlying61 rfl Try.size_rs (fun _ _ _ h => h) (fun K hK => ?_)
          go_simp
          refine hK _ ?_
          clear hK K
          refine c_nil ?_
          refine p_readC rfl ?_
          refine c_value rfl (.slice sm i cm) (fun u hu => by go_simp) (fun _ _ _ h => h) (fun K hK => ?_)
          go_simp
          refine hK _ ?_
          clear hK K
          refine c_nil ?_
          refine p_nilC ?_
          refine p_stepC rfl ?_
          refine append_step rfl _ _ _ _ rfl rfl rfl HR1.out ?_
          go_wp2_with fail
          refine And.intro (fun _ => HK1.out) ?_
          refine p_stepC rfl ?_
          refine append_step rfl _ _ _ _ rfl rfl rfl HR2.out ?_
          go_wp2_with fail
          refine And.intro (fun _ => HK2.out) ?_
          refine p_stepC rfl ?_
          go_wp2_with fail
          refine And.intro (fun _ => HK2.out) ?_
          refine p_stepC rfl ?_
          go_wp2_with fail
          refine And.intro (fun _ => HK3.out) ?_
          refine p_stepC rfl ?_
          refine append_step rfl _ _ _ _ rfl rfl rfl HR4.out ?_
          go_wp2_with fail
          refine And.intro (fun _ => HK4.out) ?_
          refine p_stepC rfl ?_
          go_wp2_with fail
          refine And.intro (fun _ => HK4.out) ?_
          refine p_stepC rfl ?_
          go_wp2_with fail
          refine And.intro (fun _ => HK4.out) ?_
          refine p_stepC rfl ?_
          go_wp2_with fail
          refine And.intro (fun h9 => absurd h9 (by decide)) ?_
          refine p_endC ?_
          go_wp2_with fail
          go_ret
          exact ⟨rfl, _, _, _, U5.out⟩
    · have i9 : (room : Int) ≤ (n : Int) := by omega
      have hok : ok = false := by rw [HOK.out]; rw [decide_eq_false hr]; rfl
      subst hok
      go_wp2_with fail
      refine region_w Try.mixed (by kernel_rfl) ?_
      refine w_blk_load rfl 61 _ rfl bs rfl [Value.int .u64 (s0 : Int), .int .u64 (s1 : Int), .int .u64 (s2 : Int), .int .u64 (s3 : Int), .int .i64 e] (fun u hu => HRS.out u hu) _ Try.underlying61 rfl Try.size_rs (fun K hK => ?_)
      go_simp
      refine hK _ ?_
      clear hK K
      refine w_call rfl 53 Try.f53 Try.func53 rfl rfl _ _ rfl _ rfl (.bool true) (by exact KR.out) (fun K hK => ?_)
      go_simp
      refine hK _ ?_
      clear hK K
      refine w_value rfl (.bool false) (fun u hu => by go_simp) (fun K hK => ?_)
      go_simp
      refine hK _ ?_
      clear hK K
      refine w_value rfl (.bool false) (fun u hu => by go_simp) (fun K hK => ?_)
      go_simp
      refine hK _ ?_
      clear hK K
      refine wg_value rfl (.pointer (some ⟨b, 0, none⟩)) (fun u hu => by go_simp) (fun K hK => ?_)
      go_simp
      refine hK _ ?_
      clear hK K
      refine wg_value rfl (.pointer (some ⟨b, 0, none⟩)) (fun u hu => by go_simp) (fun K hK => ?_)
      go_simp
      refine hK _ ?_
      clear hK K
      refine wg_value rfl (.pointer (some ⟨b, 1, none⟩)) (fun u hu => by go_simp) (fun K hK => ?_)
      go_simp
      refine hK _ ?_
      clear hK K
      refine wg_value rfl (.slice sw n cw) (fun u hu => by have hc := HC1.out u hu; go_simp) (fun K hK => ?_)
      go_simp
      refine hK _ ?_
      clear hK K
      refine wg_value rfl (.int .i64 (n : Int)) (fun u hu => by go_simp) (fun K hK => ?_)
      go_simp
      refine hK _ ?_
      clear hK K
      refine wg_value rfl (.pointer (some ⟨b, 0, none⟩)) (fun u hu => by go_simp) (fun K hK => ?_)
      go_simp
      refine hK _ ?_
      clear hK K
      refine wg_value rfl (.pointer (some ⟨b, 0, none⟩)) (fun u hu => by go_simp) (fun K hK => ?_)
      go_simp
      refine hK _ ?_
      clear hK K
      refine wg_value rfl (.pointer (some ⟨b, 0, none⟩)) (fun u hu => by go_simp) (fun K hK => ?_)
      go_simp
      refine hK _ ?_
      clear hK K
      refine wg_value rfl (.int .i64 (room : Int)) (fun u hu => by have hc := HC0.out u hu; go_simp) (fun K hK => ?_)
      go_simp
      refine hK _ ?_
      clear hK K
      refine wg_value rfl (.bool true) (fun u hu => by go_simp) (fun K hK => ?_)
      go_simp
      refine hK _ ?_
      clear hK K
      refine w_value rfl (.bool true) (fun u hu => by go_simp) (fun K hK => ?_)
      go_simp
      refine hK _ ?_
      clear hK K
      refine w_nil ?_
      intro u hu
      have S2 : Hid (Sep w0 u (rB b (rfv room (.slice sw n cw) lv A) :: rZ (.slice sw n cw) W W :: R)) := (S1.out.below hu).tail
      go_wp2_with fail
      go_ret
      exact ⟨rfl, _, S2.out⟩
end Go.Proofs.Ytohcdonmdnjgoaa.Sd

namespace Go.Proofs.Ytohcdonmdnjgoaa.Sd

open Go.RowKit Go.Proofs.Ytohcdonmdnjgoaa.Vc Go.Proofs.Ytohcdonmdnjgoaa.Sp Go.Proofs.Ytohcdonmdnjgoaa.Rw Go.Proofs.Ytohcdonmdnjgoaa.Ch Go.Proofs.Ytohcdonmdnjgoaa.Se Go.Proofs.Ytohcdonmdnjgoaa.It Go.Proofs.Ytohcdonmdnjgoaa.Mk

set_option linter.unusedVariables false

set_option linter.unusedSimpArgs false

set_option maxRecDepth 100000

theorem info_rb : (Try.prog.info? 104).map (fun i => (i.zero, i.size)) = some (some (.agg [Value.int .u64 0, .int .u64 0, .int .u64 0, .int .u64 0, .int .i64 0, .slice none 0 0].toArray), 6) := by kernel_rfl
theorem rng3 {u : World} {s : Nat} {x y z : Value} {l : List Value} (h : u.rangeAt s 0 ([x, y, z] ++ l)) : u.rangeAt s 3 l := fun j v hv => by
  have := h (3 + j) v (by rw [List.getElem?_append_right (by simp)]; simpa using hv)
  simpa [Nat.zero_add] using this
section

variable {P : Program} {ops : Array Oper} {rest : List Oper} {o : Oper} {a : Act} {w : World} {Q : Exit → Act → World → Prop}

theorem vec_store3 (hgd : o.guard = none) (t : TypeId) (x y : Operand) (ho : o.op = .store t x y) (b : Nat) (hx : a.eval x = .pointer (some ⟨b, 3, none⟩)) (y0 y1 y2 y3 : Nat) (hy : a.eval y = AV .u64 [y0, y1, y2, y3])
    (x0 x1 x2 x3 : Nat) (v0 v1 v2 : Value) (hb : Blk w b ([v0, v1, v2] ++ ks .u64 [x0, x1, x2, x3])) (hi : (P.info? t).map (·.size) = some 4)
    (h : ∀ w', Blk w' b ([v0, v1, v2] ++ ks .u64 [y0, y1, y2, y3]) → Upd b w w' → wpList P ops Q rest (a.put o.dst undef) w') : wpList P ops Q (o :: rest) a w := by
  have hth : w.there b 3 4 := fun j hj => by have := hb.2 (3 + j) (by simp [ks]; omega); rw [Nat.zero_add] at this; exact this
  refine wpList_store_mid hgd t x y ho b 3 (ks .u64 [y0, y1, y2, y3]).toArray hx hy (by exact hth) (by exact hi) (all_oneCell_toArray (fun v hv => by simp [ks] at hv; rcases hv with rfl | rfl | rfl | rfl <;> rfl)) (h _ ?_ (Upd.setCells b _ 3 w))
  have s0 := Blk.setc hb 3 (by simp [ks]) (.int .u64 (y0 : Int))
  have s1 := Blk.setc s0 4 (by simp [ks]) (.int .u64 (y1 : Int))
  have s2 := Blk.setc s1 5 (by simp [ks]) (.int .u64 (y2 : Int))
  have s3 := Blk.setc s2 6 (by simp [ks]) (.int .u64 (y3 : Int))
  exact s3
end

/-- a part says less, of fewer blocks -/
theorem sep_less {w0 w : World} {R : List Rg} (h : Sep w0 w R) (i : Nat) {r : Rg} (hi : R[i]? = some r) (r' : Rg) (hP : r.P w → r'.P w) (hb : ∀ k ∈ r'.bl, k ∈ r.bl) : Sep w0 w (R.set i r') :=
  h.step i hi rfl rfl rfl (Nat.le_refl _) (fun _ _ _ => rfl) r' (hP (h.get i hi)) (fun k hk => ⟨.inl (hb k hk), (h.lt i hi k (hb k hk)).2⟩)
theorem addD_four {D : List Ver} {s : C.St} {y : I.Wt} (h4 : s.1.length = 4) (h : ∀ x ∈ D, x.1.1.length = 4) : ∀ x ∈ addD D s y, x.1.1.length = 4 := by
  intro x hx
  unfold addD at hx
  split at hx
  · exact h x hx
  · rcases List.mem_append.1 hx with h9 | h9
    · exact h x h9
    · obtain rfl := List.mem_singleton.1 h9
      exact h4
theorem addsD_four {s : C.St} (h4 : s.1.length = 4) : ∀ (L : List I.Wt) {D : List Ver}, (∀ x ∈ D, x.1.1.length = 4) → ∀ x ∈ addsD D s L, x.1.1.length = 4
  | [], D, h => h
  | y :: L, D, h => addsD_four h4 L (addD_four h4 h)
theorem perm4 {α : Type} {a b c d : α} {R : List α} : (a :: b :: c :: d :: R).Perm (b :: d :: a :: c :: R) := by
  refine (List.Perm.swap _ _ _).trans (List.Perm.cons _ ?_)
  refine (List.Perm.cons _ (List.Perm.swap _ _ _)).trans ?_
  exact List.Perm.swap _ _ _
theorem wc_four (x : I.Wt) : wc x = [.string x.1, .string x.2.1, .string x.2.2.1, .bool x.2.2.2] := rfl
theorem rstep_no {w0 w : World} {b room : Nat} {wv lv : Value} {A : List Nat} {W2 : List Tq} {R : List Rg} (hS : Sep w0 w (rB b (rfv room wv lv A) :: rZ wv [] W2 :: R)) :
    Calls Try.prog 15 #[.pointer (some ⟨b, 0, none⟩)] w fun r w' => r = .returned (.bool false) ∧ w' = w := by
  obtain ⟨sw, cw, ew, _⟩ := (zw hS 1 rfl).row.is
  subst ew
  have cc : w.cell? ⟨b, 1, none⟩ = some (.slice sw 0 cw) := (hS.blk 0 rfl).cell 1 _ rfl
  have HS := Lib.hid hS
  clear hS
  go_enter Try.func15, Try.ntmps15
  go_wp2_with fail
  go_ret
  exact ⟨rfl, rfl⟩
set_option maxHeartbeats 16000000 in
theorem rstep {w0 w : World} {b room : Nat} {wv lv : Value} {A : List Nat} {D : List Ver} {Q : List Tq} {R : List Rg} (q : Tq) (hS : Sep w0 w (rB b (rfv room wv lv A) :: rZ wv (q :: Q) (q :: Q) :: rO (vk wrt) 107 w0.heap.size lv D :: R)) (hA : A.length = 4) (hs : q.s.1.length = 4) (hD : ∀ x ∈ D, x.1.1.length = 4) (hn : D.length + q.L.length < 1000) (hW : Q.length < 1000) :
    Calls Try.prog 15 #[.pointer (some ⟨b, 0, none⟩)] w fun r w' => r = .returned (.bool true) ∧ ∃ wv' lv', Sep w0 w' (rB b (rfv room wv' lv' (stepA A q.s)) :: rZ wv' Q Q :: rO (vk wrt) 107 w0.heap.size lv' (addsD D q.s q.L) :: R) := by
  obtain ⟨⟨ls, e⟩, qa, qc, L⟩ := q
  dsimp only at hs hn ⊢
  obtain ⟨s0, s1, s2, s3, rfl⟩ := V.four hs
  obtain ⟨q0, q1, q2, q3, rfl⟩ := V.four hA
  have HAT := Lib.hid (fun u => ref_at [q0, q1, q2, q3] e u rfl)
  have HSN := Lib.hid (fun u => ref_sn [s0, s1, s2, s3] e u rfl)
  obtain ⟨pA, HPA⟩ : ∃ z, Hid (V.at_ [q0, q1, q2, q3] e = z) := ⟨_, rfl⟩
  obtain ⟨pN, HPN⟩ : ∃ z, Hid (V.at_ [s0, s1, s2, s3] e = z) := ⟨_, rfl⟩
  obtain ⟨pM, HPM⟩ : ∃ z, Hid (max pA pN = z) := ⟨_, rfl⟩
  have HWT := Lib.hid (fun u => ref_with [q0, q1, q2, q3] e pM u rfl)
  have hw4 : (V.with_ [q0, q1, q2, q3] e pM).length = 4 := by unfold V.with_; split <;> simp
  obtain ⟨z0, z1, z2, z3, HZA⟩ : ∃ a b c d, Hid (V.with_ [q0, q1, q2, q3] e pM = [a, b, c, d]) := V.four hw4
  have HZS : Hid (stepA [q0, q1, q2, q3] (([s0, s1, s2, s3], e) : C.St) = [z0, z1, z2, z3]) := by show _ = _; unfold stepA; rw [← HZA.out, ← HPM.out, ← HPA.out, ← HPN.out]
  rw [HPA.out] at HAT
  rw [HPN.out] at HSN
  rw [HZA.out] at HWT
  rw [HZS.out]
  have HMX : Hid (max (pA : Int) (pN : Int) = (pM : Int)) := by show _ = _; rw [← HPM.out]; omega
  have HDD := Lib.hid hD
  have HNN := Lib.hid hn
  obtain ⟨m, HM⟩ : ∃ m, Hid (L.length = m) := ⟨_, rfl⟩
  have hm : m < 1000 := by rw [← HM.out]; omega
  obtain ⟨sw, cw, ew, _, hcw, _⟩ := (zw hS 1 rfl).row.is
  obtain ⟨g, og, cg, hv, hg, hrx⟩ := IsR.at (zw hS 1 rfl).row 0 (by simp)
  rw [ew] at hv
  have hgg : sw = some ⟨g, og, none⟩ := by injection hv
  subst hgg
  obtain ⟨wa, n1, wc1, hsl, hI, hob⟩ := slice_lo3 (K := txk) elem_rb Try.underlying75 size_rb (some ⟨g, og, none⟩) cw 1 (⟨([s0, s1, s2, s3], e), qa, qc, L⟩ :: Q) (by simp) (by omega) hcw
  have HI := Lib.hid hI
  have HOB := Lib.hid hob
  have HEW := Lib.hid ew
  obtain ⟨n, HN⟩ : ∃ n, Hid ((⟨([s0, s1, s2, s3], e), qa, qc, L⟩ :: Q : List Tq).length = n) := ⟨_, rfl⟩
  rw [HN.out] at ew hsl
  subst ew
  have hn0 : n < 1001 ∧ 0 < n := by rw [← HN.out]; simp; omega
  obtain ⟨hn1, hn2⟩ := hn0
  have HRX : Hid (w.rangeAt g og [Value.int .u64 (s0 : Int), .int .u64 (s1 : Int), .int .u64 (s2 : Int), .int .u64 (s3 : Int), .int .i64 e, .slice qa m qc]) := by
    have h9 : w.rangeAt g og (txk.cf ⟨([s0, s1, s2, s3], e), qa, qc, L⟩) := hrx
    rw [show txk.cf ⟨([s0, s1, s2, s3], e), qa, qc, L⟩ = [Value.int .u64 (s0 : Int), .int .u64 (s1 : Int), .int .u64 (s2 : Int), .int .u64 (s3 : Int), .int .i64 e, .slice qa m qc] from by rw [← HM.out]; rfl] at h9
    exact h9
  have hsl1 : ∀ w, (Instr.sliceAt 75 (.slice (some ⟨g, og, none⟩) n cw) (some (.int .i64 1)) none none).run Try.prog w = .ok (.slice wa n1 wc1) w := hsl
  have hix : ∀ w, (Instr.indexAt 75 (.slice (some ⟨g, og, none⟩) n cw) (.int .i64 0)).run Try.prog w = .ok (.pointer (some ⟨g, og, none⟩)) w := fun w => index_rb g og n cw 0 hn2 w
  have cc : w.cell? ⟨b, 1, none⟩ = some (.slice (some ⟨g, og, none⟩) n cw) := (hS.blk 0 rfl).cell 1 _ rfl
  have HS := Lib.hid hS
  have i0 : ¬ (n : Int) = 0 := by omega
  clear hS hrx hI hob hsl hA hs hD hn hw4 hv hg
  go_enter Try.func15, Try.ntmps15
  go_wp2_with (first | refine wpList_load_mid rfl 104 _ rfl g og rfl [Value.int .u64 (s0 : Int), .int .u64 (s1 : Int), .int .u64 (s2 : Int), .int .u64 (s3 : Int), .int .i64 e, .slice qa m qc] _ HRX.out Try.underlying104 rfl size_rb6 ?_ | refine blk_alloc rfl 104 [Value.int .u64 0, .int .u64 0, .int .u64 0, .int .u64 0, .int .i64 0, .slice none 0 0] rfl info_rb ?_)
  intro w2 A9 B Z
  obtain ⟨bx, HBX⟩ : ∃ b, Hid (w.heap.size = b) := ⟨_, rfl⟩
  have hone : ∀ w3, Blk w3 w.heap.size [Value.int .u64 (s0 : Int), .int .u64 (s1 : Int), .int .u64 (s2 : Int), .int .u64 (s3 : Int), .int .i64 e, .slice qa m qc] → Upd w.heap.size w2 w3 → Sep w0 w3 (rB bx [Value.int .u64 (s0 : Int), .int .u64 (s1 : Int), .int .u64 (s2 : Int), .int .u64 (s3 : Int), .int .i64 e, .slice qa m qc] :: rB b (rfv room (.slice (some ⟨g, og, none⟩) n cw) lv [q0, q1, q2, q3]) :: rZ (.slice (some ⟨g, og, none⟩) n cw) (⟨([s0, s1, s2, s3], e), qa, qc, L⟩ :: Q) (⟨([s0, s1, s2, s3], e), qa, qc, L⟩ :: Q) :: rO (vk wrt) 107 w0.heap.size lv D :: R) := fun w3 A8 U9 => by rw [← HBX.out]; exact Sep.fresh HS.out B Z U9 A8
  have HONE := Lib.hid hone
  clear B Z hone HRX hix cc
  skip
  go_wp2_with (first | refine blk_store rfl 104 _ _ rfl w.heap.size rfl [Value.int .u64 (s0 : Int), .int .u64 (s1 : Int), .int .u64 (s2 : Int), .int .u64 (s3 : Int), .int .i64 e, .slice qa m qc] rfl _ A9 rfl size_rb6 rfl ?_)
  intro w3 A8 U9
  have S3 := Lib.hid (HONE.out w3 A8 U9)
  rw [HBX.out]
  clear A9 A8 U9 HBX HONE HS
  have c3 : w3.cell? ⟨b, 1, none⟩ = some (.slice (some ⟨g, og, none⟩) n cw) := (S3.out.blk 1 rfl).cell 1 _ rfl
  have fr3 := (S3.out.blk 1 rfl).free 1 (by simp [rfv])
  have S4 : Hid (Sep w0 (w3.setCell ⟨b, 1, none⟩ (.slice wa n1 wc1)) (rB b (rfv room (.slice wa n1 wc1) lv [q0, q1, q2, q3]) :: rO (vk wrt) 107 w0.heap.size lv (addsD D ([s0, s1, s2, s3], e) (L.take 0)) :: rB bx [Value.int .u64 (s0 : Int), .int .u64 (s1 : Int), .int .u64 (s2 : Int), .int .u64 (s3 : Int), .int .i64 e, .slice qa m qc] :: rZ (.slice wa n1 wc1) Q (⟨([s0, s1, s2, s3], e), qa, qc, L⟩ :: Q) :: R)) := by
    show Sep _ _ _
    have h1 := S3.out.upd 1 rfl (Upd.setCell w3 b 1 (.slice wa n1 wc1)) (Blk.setc (S3.out.blk 1 rfl) 1 (by simp [rfv]) (.slice wa n1 wc1))
    have h2 := sep_less h1 2 rfl (rZ (.slice wa n1 wc1) Q (⟨([s0, s1, s2, s3], e), qa, qc, L⟩ :: Q)) (fun hz => ⟨by
      have h9 := HI.out _ (by have h8 := hz.row; rw [HEW.out] at h8; exact h8)
      exact h9, hz.ws⟩) (fun k hk => ?_)
    · rw [List.take_zero]
      refine h2.perm ?_
      exact perm4
    · rcases List.mem_append.1 hk with h9 | h9
      · exact List.mem_append_left _ (by have h8 := HOB.out k h9; rw [← HEW.out] at h8; exact h8)
      · exact List.mem_append_right _ h9
  clear S3 HI HOB HEW
  go_wp2_with fail
  go_loopw [4] (fun iv wr => ∃ (i : Nat) (lv' : Value), i ≤ m ∧ iv = .int .i64 (i : Int) ∧ Hid (Sep w0 wr (rB b (rfv room (.slice wa n1 wc1) lv' [q0, q1, q2, q3]) :: rO (vk wrt) 107 w0.heap.size lv' (addsD D ([s0, s1, s2, s3], e) (L.take i)) :: rB bx [Value.int .u64 (s0 : Int), .int .u64 (s1 : Int), .int .u64 (s2 : Int), .int .u64 (s3 : Int), .int .i64 e, .slice qa m qc] :: rZ (.slice wa n1 wc1) Q (⟨([s0, s1, s2, s3], e), qa, qc, L⟩ :: Q) :: R))) (fun iv _ => m - (intOf iv).toNat)
  case atStart => exact ⟨0, lv, by omega, rfl, S4⟩
  case round =>
    obtain ⟨i, lv', him, rfl, Sr⟩ := hrel
    clear S4
    have c5 : wr.cell? ⟨bx, 5, none⟩ = some (.slice qa m qc) := (Sr.out.blk 2 rfl).cell 5 _ rfl
    by_cases hlt : i < m
    · have i1 : (i : Int) < (m : Int) := by omega
      have SD := Lib.hid (Sr.out.below ((Below.refl wr.heap.size wr).drew))
      obtain ⟨g2, o2, c9, hv2, _, _⟩ := IsR.at (isR_of ((zw SD.out 3 rfl).ws ⟨([s0, s1, s2, s3], e), qa, qc, L⟩ (List.mem_cons_self ..))) i (by rw [HM.out]; exact hlt)
      have hv3 : Value.slice qa L.length qc = .slice (some ⟨g2, o2, none⟩) L.length c9 := hv2
      have hgg : qa = some ⟨g2, o2, none⟩ := by injection hv3
      clear hv2 hv3
      subst hgg
      obtain ⟨x, HX⟩ : ∃ x, Hid (L.getD i I.none_ = x) := ⟨_, rfl⟩
      have hst := addsD_step D (([s0, s1, s2, s3], e) : C.St) L i (by rw [HM.out]; exact hlt)
      rw [HX.out] at hst
      have HST := Lib.hid hst
      clear hst
      obtain ⟨xb, xk, xv, xg⟩ := x
      have HRG : Hid (∀ u r1 r2, Sep w0 u (r1 :: r2 :: rB bx [Value.int .u64 (s0 : Int), .int .u64 (s1 : Int), .int .u64 (s2 : Int), .int .u64 (s3 : Int), .int .i64 e, .slice (some ⟨g2, o2, none⟩) m qc] :: rZ (.slice wa n1 wc1) Q (⟨([s0, s1, s2, s3], e), some ⟨g2, o2, none⟩, qc, L⟩ :: Q) :: R) → (u.rangeAt bx 0 [Value.int .u64 (s0 : Int), .int .u64 (s1 : Int), .int .u64 (s2 : Int), .int .u64 (s3 : Int), .int .i64 e, .slice (some ⟨g2, o2, none⟩) m qc] ∧ u.rangeAt g2 (o2 + 4 * i) [Value.string xb, .string xk, .string xv, .bool xg])) := fun u r1 r2 h => ⟨(h.blk 2 rfl).1, by
        obtain ⟨g3, o3, c3, hv3, _, hr3⟩ := IsR.at (isR_of ((zw h 3 rfl).ws _ (List.mem_cons_self ..))) i (by rw [HM.out]; exact hlt)
        have hv4 : Value.slice (some ⟨g2, o2, none⟩) L.length qc = .slice (some ⟨g3, o3, none⟩) L.length c3 := hv3
        have hg6 : (some ⟨g2, o2, none⟩ : Option Addr) = some ⟨g3, o3, none⟩ := by injection hv4
        simp only [Option.some.injEq, Addr.mk.injEq, and_true] at hg6
        obtain ⟨rfl, rfl⟩ := hg6
        have hr4 : u.rangeAt g2 (o2 + 4 * i) (wc (L.getD i I.none_)) := hr3
        rw [HX.out] at hr4
        exact hr4⟩
      have CAD : Hid (Calls Try.prog 40 #[.pointer (some ⟨b, 0, none⟩), .agg [Value.int .u64 (s0 : Int), .int .u64 (s1 : Int), .int .u64 (s2 : Int), .int .u64 (s3 : Int), .int .i64 e, .string xb, .string xk, .string xv, .bool xg].toArray] wr.drew fun r w' => r = .returned (.tuple #[]) ∧ ∃ lv9, Sep w0 w' (rB b (rfv room (.slice wa n1 wc1) lv9 [q0, q1, q2, q3]) :: rO (vk wrt) 107 w0.heap.size lv9 (addD (addsD D ([s0, s1, s2, s3], e) (L.take i)) ([s0, s1, s2, s3], e) (xb, xk, xv, xg)) :: rB bx [Value.int .u64 (s0 : Int), .int .u64 (s1 : Int), .int .u64 (s2 : Int), .int .u64 (s3 : Int), .int .i64 e, .slice (some ⟨g2, o2, none⟩) m qc] :: rZ (.slice wa n1 wc1) Q (⟨([s0, s1, s2, s3], e), some ⟨g2, o2, none⟩, qc, L⟩ :: Q) :: R)) := radd (([s0, s1, s2, s3], e) : C.St) (xb, xk, xv, xg) SD.out (addsD_four rfl _ HDD.out) (by have := addsD_len (([s0, s1, s2, s3], e) : C.St) (L.take i) D; rw [List.length_take] at this; have := HNN.out; omega) rfl
      have hix8 : ∀ w, (Instr.indexAt 63 (.slice (some ⟨g2, o2, none⟩) m qc) (.int .i64 (i : Int))).run Try.prog w = .ok (.pointer (some ⟨g2, o2 + 4 * i, none⟩)) w := fun w => index_rw8 g2 o2 m qc i hlt w
      go_wp2_with fail
      refine region_pickC (fun u => u.rangeAt bx 0 [Value.int .u64 (s0 : Int), .int .u64 (s1 : Int), .int .u64 (s2 : Int), .int .u64 (s3 : Int), .int .i64 e, .slice (some ⟨g2, o2, none⟩) m qc] ∧ u.rangeAt g2 (o2 + 4 * i) [Value.string xb, .string xk, .string xv, .bool xg]) 10 [0, 1, 2, 3, 4, 5, 6, 7] [8, 9] Try.mixed (by kernel_rfl) rfl (by kernel_rfl) (HRG.out _ _ _ SD.out) ?_
      refine p_readC rfl ?_
      refine c_value rfl (.pointer (some ⟨b, 0, none⟩)) (fun u hu => by go_simp) (fun _ _ _ h => h) (fun K hK => ?_)
      go_simp
      refine hK _ ?_
      clear hK K
      refine c_nil ?_
      refine p_readC rfl ?_
      refine c_value rfl (.pointer (some ⟨bx, 0, none⟩)) (fun u hu => by go_simp) (fun _ _ _ h => h) (fun K hK => ?_)
      go_simp
      refine hK _ ?_
      clear hK K
      refine c_nil ?_
      refine p_readC rfl ?_
      refine c_mid_load rfl 61 _ rfl bx 0 rfl [Value.int .u64 (s0 : Int), .int .u64 (s1 : Int), .int .u64 (s2 : Int), .int .u64 (s3 : Int), .int .i64 e] (fun u hu => rng_pre (vs := [Value.slice (some ⟨g2, o2, none⟩) m qc]) hu.1) _ Try.underlying61 rfl Try.size_rs (fun _ _ _ h => h) (fun K hK => ?_)
      go_simp
      refine hK _ ?_
      clear hK K
      refine c_nil ?_
      refine p_readC rfl ?_
      refine c_value rfl (.pointer (some ⟨bx, 5, none⟩)) (fun u hu => by go_simp) (fun _ _ _ h => h) (fun K hK => ?_)
      go_simp
      refine hK _ ?_
      clear hK K
      refine c_nil ?_
      refine p_readC rfl ?_
      refine c_value rfl (.slice (some ⟨g2, o2, none⟩) m qc) (fun u hu => by have hc := hu.1 5 _ rfl; go_simp) (fun _ _ _ h => h) (fun K hK => ?_)
      go_simp
      refine hK _ ?_
      clear hK K
      refine c_nil ?_
      refine p_readC rfl ?_
      refine c_value rfl (.int .i64 (i : Int)) (fun u hu => by go_simp) (fun _ _ _ h => h) (fun K hK => ?_)
      go_simp
      refine hK _ ?_
      clear hK K
      refine c_nil ?_
      refine p_readC rfl ?_
      refine c_value rfl (.pointer (some ⟨g2, o2 + 4 * i, none⟩)) (fun u hu => by have h9 := hix8 u; go_simp) (fun _ _ _ h => h) (fun K hK => ?_)
      go_simp
      refine hK _ ?_
      clear hK K
      refine c_nil ?_
      refine p_readC rfl ?_
      refine c_mid_load rfl 71 _ rfl g2 (o2 + 4 * i) rfl [Value.string xb, .string xk, .string xv, .bool xg] (fun u hu => hu.2) _ Try.underlying71 rfl size_rw4 (fun _ _ _ h => h) (fun K hK => ?_)
      go_simp
      refine hK _ ?_
      clear hK K
      refine c_nil ?_
      refine p_nilC ?_
      refine p_stepC rfl ?_
      go_wp2_with fail
      refine And.intro (fun _ => HRG.out _ _ _ SD.out) ?_
      refine p_stepC rfl ?_
      go_wp2_with fail
      refine (CAD.out).mono ?_; rintro r9 w9 ⟨rfl, lv9, S9⟩
      have S10 : Hid (Sep w0 w9 (rB b (rfv room (.slice wa n1 wc1) lv9 [q0, q1, q2, q3]) :: rO (vk wrt) 107 w0.heap.size lv9 (addsD D ([s0, s1, s2, s3], e) (L.take (i + 1))) :: rB bx [Value.int .u64 (s0 : Int), .int .u64 (s1 : Int), .int .u64 (s2 : Int), .int .u64 (s3 : Int), .int .i64 e, .slice (some ⟨g2, o2, none⟩) m qc] :: rZ (.slice wa n1 wc1) Q (⟨([s0, s1, s2, s3], e), some ⟨g2, o2, none⟩, qc, L⟩ :: Q) :: R)) := by show Sep _ _ _; rw [HST.out]; exact S9
      have HG9 := Lib.hid (HRG.out _ _ _ S9)
      clear S9 CAD HRG SD Sr hix8 c5
      go_wp2_with fail
      refine And.intro (fun _ => HG9.out) ?_
      refine p_endC ?_
      go_wp2_with fail
      go_roundw
      case rel => exact ⟨i + 1, lv9, by omega, by go_num, S10⟩
      case measure => simp [intOf]; omega
    · obtain rfl : i = m := by omega
      have i1 : ¬ (i : Int) < (i : Int) := by omega
      have SE : Hid (Sep w0 wr (rB b (rfv room (.slice wa n1 wc1) lv' [q0, q1, q2, q3]) :: rO (vk wrt) 107 w0.heap.size lv' (addsD D ([s0, s1, s2, s3], e) L) :: rB bx [Value.int .u64 (s0 : Int), .int .u64 (s1 : Int), .int .u64 (s2 : Int), .int .u64 (s3 : Int), .int .i64 e, .slice qa i qc] :: rZ (.slice wa n1 wc1) Q (⟨([s0, s1, s2, s3], e), qa, qc, L⟩ :: Q) :: R)) := by
        have h9 := Sr.out
        rw [List.take_of_length_le (by rw [HM.out]; exact Nat.le_refl _)] at h9
        exact h9
      have HRS : Hid (wr.rangeAt bx 0 [Value.int .u64 (s0 : Int), .int .u64 (s1 : Int), .int .u64 (s2 : Int), .int .u64 (s3 : Int), .int .i64 e]) := rng_pre (vs := [Value.slice qa i qc]) (SE.out.blk 2 rfl).1
      clear Sr
      go_wp2_with (first | refine wpList_load_mid rfl 61 _ rfl bx 0 rfl [Value.int .u64 (s0 : Int), .int .u64 (s1 : Int), .int .u64 (s2 : Int), .int .u64 (s3 : Int), .int .i64 e] _ HRS.out Try.underlying61 rfl Try.size_rs ?_)
      refine (HSN.out _).mono ?_; rintro r5 w5 ⟨rfl, hb⟩
      have SG := Lib.hid ((SE.out.below hb).below ((Below.refl w5.heap.size w5).drew))
      clear hb SE HRS
      have HK : Hid (∀ u, Below w5.drew.heap.size w5.drew u → (u.rangeAt b 0 (rfv room (.slice wa n1 wc1) lv' [q0, q1, q2, q3]) ∧ u.rangeAt bx 0 [Value.int .u64 (s0 : Int), .int .u64 (s1 : Int), .int .u64 (s2 : Int), .int .u64 (s3 : Int), .int .i64 e, .slice qa i qc])) := fun u hu => ⟨((SG.out.below hu).blk 0 rfl).1, ((SG.out.below hu).blk 2 rfl).1⟩
      go_wp2_with fail
      by_cases hpn : pN < pA
      · have ipn : (pN : Int) < (pA : Int) := by omega
        obtain rfl : pA = pM := by rw [← HPM.out]; omega
        refine region_pickC (fun u => u.rangeAt b 0 (rfv room (.slice wa n1 wc1) lv' [q0, q1, q2, q3]) ∧ u.rangeAt bx 0 [Value.int .u64 (s0 : Int), .int .u64 (s1 : Int), .int .u64 (s2 : Int), .int .u64 (s3 : Int), .int .i64 e, .slice qa i qc]) 21 [0, 1, 2, 3, 4, 5, 6, 7, 8, 9, 10, 11, 12, 13, 14, 15] [16, 17, 18, 19, 20, 21] Try.mixed (by kernel_rfl) rfl (by kernel_rfl) (HK.out _ (Below.refl _ _)) ?_
        refine p_readC rfl ?_
        refine c_value rfl (.pointer (some ⟨b, 0, none⟩)) (fun u hu => by go_simp) (fun _ _ _ h => h) (fun K hK => ?_)
        go_simp
        refine hK _ ?_
        clear hK K
        refine c_nil ?_
        refine p_readC rfl ?_
        refine c_value rfl (.pointer (some ⟨b, 0, none⟩)) (fun u hu => by go_simp) (fun _ _ _ h => h) (fun K hK => ?_)
        go_simp
        refine hK _ ?_
        clear hK K
        refine c_nil ?_
        refine p_readC rfl ?_
        refine c_value rfl (.pointer (some ⟨b, 0, none⟩)) (fun u hu => by go_simp) (fun _ _ _ h => h) (fun K hK => ?_)
        go_simp
        refine hK _ ?_
        clear hK K
        refine c_nil ?_
        refine p_readC rfl ?_
        refine c_value rfl (.pointer (some ⟨b, 3, none⟩)) (fun u hu => by go_simp) (fun _ _ _ h => h) (fun K hK => ?_)
        go_simp
        refine hK _ ?_
        clear hK K
        refine c_nil ?_
        refine p_readC rfl ?_
        refine c_mid_load rfl 57 _ rfl b 3 rfl (ks .u64 [q0, q1, q2, q3]) (fun u hu => rng3 hu.1) _ Try.underlying57 rfl Try.size_r (fun _ _ _ h => h) (fun K hK => ?_)
        go_simp
        refine hK _ ?_
        clear hK K
        refine c_nil ?_
        refine p_readC rfl ?_
        refine c_value rfl (.pointer (some ⟨bx, 0, none⟩)) (fun u hu => by go_simp) (fun _ _ _ h => h) (fun K hK => ?_)
        go_simp
        refine hK _ ?_
        clear hK K
        refine c_nil ?_
        refine p_readC rfl ?_
        refine c_value rfl (.pointer (some ⟨bx, 4, none⟩)) (fun u hu => by go_simp) (fun _ _ _ h => h) (fun K hK => ?_)
        go_simp
        refine hK _ ?_
        clear hK K
        refine c_nil ?_
        refine p_readC rfl ?_
        refine c_value rfl (.int .i64 e) (fun u hu => by have hc := hu.2 4 _ rfl; go_simp) (fun _ _ _ h => h) (fun K hK => ?_)
        go_simp
        refine hK _ ?_
        clear hK K
        refine c_nil ?_
        refine p_readC rfl ?_
        refine c_value rfl (.int .u64 (pN : Int)) (fun u hu => by go_simp) (fun _ _ _ h => h) (fun K hK => ?_)
        go_simp
        refine hK _ ?_
        clear hK K
        refine c_nil ?_
        refine p_readC rfl ?_
        refine c_value rfl (.pointer (some ⟨b, 0, none⟩)) (fun u hu => by go_simp) (fun _ _ _ h => h) (fun K hK => ?_)
        go_simp
        refine hK _ ?_
        clear hK K
        refine c_nil ?_
        refine p_readC rfl ?_
        refine c_value rfl (.pointer (some ⟨b, 0, none⟩)) (fun u hu => by go_simp) (fun _ _ _ h => h) (fun K hK => ?_)
        go_simp
        refine hK _ ?_
        clear hK K
        refine c_nil ?_
        refine p_readC rfl ?_
        refine c_value rfl (.pointer (some ⟨b, 3, none⟩)) (fun u hu => by go_simp) (fun _ _ _ h => h) (fun K hK => ?_)
        go_simp
        refine hK _ ?_
        clear hK K
        refine c_nil ?_
        refine p_readC rfl ?_
        refine c_mid_load rfl 57 _ rfl b 3 rfl (ks .u64 [q0, q1, q2, q3]) (fun u hu => rng3 hu.1) _ Try.underlying57 rfl Try.size_r (fun _ _ _ h => h) (fun K hK => ?_)
        go_simp
        refine hK _ ?_
        clear hK K
        refine c_nil ?_
        refine p_readC rfl ?_
        refine c_value rfl (.pointer (some ⟨bx, 0, none⟩)) (fun u hu => by go_simp) (fun _ _ _ h => h) (fun K hK => ?_)
        go_simp
        refine hK _ ?_
        clear hK K
        refine c_nil ?_
        refine p_readC rfl ?_
        refine c_value rfl (.pointer (some ⟨bx, 4, none⟩)) (fun u hu => by go_simp) (fun _ _ _ h => h) (fun K hK => ?_)
        go_simp
        refine hK _ ?_
        clear hK K
        refine c_nil ?_
        refine p_readC rfl ?_
        refine c_value rfl (.int .i64 e) (fun u hu => by have hc := hu.2 4 _ rfl; go_simp) (fun _ _ _ h => h) (fun K hK => ?_)
        go_simp
        refine hK _ ?_
        clear hK K
        refine c_nil ?_
        refine p_nilC ?_
        refine p_stepC rfl ?_
        go_wp2_with fail
        refine (HAT.out _).mono ?_; rintro ra wa9 ⟨rfl, hb⟩
        have Ba : Hid (Below w5.drew.heap.size w5.drew wa9) := hb
        clear hb
        go_wp2_with fail
        refine And.intro (fun _ => HK.out _ Ba.out) ?_
        refine p_stepC rfl ?_
        go_wp2_with fail
        refine And.intro (fun _ => HK.out _ Ba.out) ?_
        refine p_stepC rfl ?_
        go_wp2_with fail
        refine (HWT.out _).mono ?_; rintro rc wb9 ⟨rfl, hb⟩
        have Bb : Hid (Below w5.drew.heap.size w5.drew wb9) := Below.trans Ba.out (hb.mono Ba.out.size)
        clear hb
        go_wp2_with fail
        refine And.intro (fun _ => HK.out _ Bb.out) ?_
        refine p_stepC rfl ?_
        go_wp2_with fail
        refine And.intro (fun _ => HK.out _ Bb.out) ?_
        refine p_stepC rfl ?_
        go_wp2_with fail
        refine And.intro (fun _ => HK.out _ Bb.out) ?_
        have SH := Lib.hid (SG.out.below Bb.out)
        have HBK : Hid (Blk wb9 b ([Value.int .i64 (room : Int), .slice wa n1 wc1, lv'] ++ ks .u64 [q0, q1, q2, q3])) := SH.out.blk 0 rfl
        refine p_stepC rfl ?_
        go_wp2_with (first | refine vec_store3 rfl 57 _ _ rfl b rfl z0 z1 z2 z3 rfl q0 q1 q2 q3 _ _ _ HBK.out Try.size_r ?_)
        intro wd AD UD
        have S9 : Hid (Sep w0 wd (rB b (rfv room (.slice wa n1 wc1) lv' [z0, z1, z2, z3]) :: rZ (.slice wa n1 wc1) Q Q :: rO (vk wrt) 107 w0.heap.size lv' (addsD D ([s0, s1, s2, s3], e) L) :: R)) := by
          show Sep _ _ _
          have h1 := SH.out.upd (us := rfv room (.slice wa n1 wc1) lv' [z0, z1, z2, z3]) 0 rfl UD AD
          have h2 := sep_less h1 3 rfl (rZ (.slice wa n1 wc1) Q Q) (fun hz => ⟨hz.row, fun p hp => hz.ws p (List.mem_cons_of_mem _ hp)⟩) (fun k hk => ?_)
          · exact (h2.sub (R' := _ :: _ :: _ :: R) (((List.Sublist.refl _).cons _ |>.cons_cons _).cons_cons _)).perm (List.Perm.cons _ (List.Perm.swap _ _ _))
          · rcases List.mem_append.1 hk with h9 | h9
            · exact List.mem_append_left _ h9
            · obtain ⟨p, hp, h8⟩ := List.mem_flatMap.1 h9
              exact List.mem_append_right _ (List.mem_flatMap.2 ⟨p, List.mem_cons_of_mem _ hp, h8⟩)
        refine And.intro (fun h9 => absurd h9 (by decide)) ?_
        refine p_endC ?_
        go_wp2_with fail
        go_ret
        exact ⟨rfl, _, _, S9.out⟩
      · have ipn : ¬ (pN : Int) < (pA : Int) := by omega
        obtain rfl : pN = pM := by rw [← HPM.out]; omega
        refine region_pickC (fun u => u.rangeAt b 0 (rfv room (.slice wa n1 wc1) lv' [q0, q1, q2, q3]) ∧ u.rangeAt bx 0 [Value.int .u64 (s0 : Int), .int .u64 (s1 : Int), .int .u64 (s2 : Int), .int .u64 (s3 : Int), .int .i64 e, .slice qa i qc]) 21 [0, 1, 2, 3, 4, 5, 6, 7, 8, 9, 10, 11, 12, 13, 14, 15] [16, 17, 18, 19, 20, 21] Try.mixed (by kernel_rfl) rfl (by kernel_rfl) (HK.out _ (Below.refl _ _)) ?_
        refine p_readC rfl ?_
        refine c_value rfl (.pointer (some ⟨b, 0, none⟩)) (fun u hu => by go_simp) (fun _ _ _ h => h) (fun K hK => ?_)
        go_simp
        refine hK _ ?_
        clear hK K
        refine c_nil ?_
        refine p_readC rfl ?_
        refine c_value rfl (.pointer (some ⟨b, 0, none⟩)) (fun u hu => by go_simp) (fun _ _ _ h => h) (fun K hK => ?_)
        go_simp
        refine hK _ ?_
        clear hK K
        refine c_nil ?_
        refine p_readC rfl ?_
        refine c_value rfl (.pointer (some ⟨b, 0, none⟩)) (fun u hu => by go_simp) (fun _ _ _ h => h) (fun K hK => ?_)
        go_simp
        refine hK _ ?_
        clear hK K
        refine c_nil ?_
        refine p_readC rfl ?_
        refine c_value rfl (.pointer (some ⟨b, 3, none⟩)) (fun u hu => by go_simp) (fun _ _ _ h => h) (fun K hK => ?_)
        go_simp
        refine hK _ ?_
        clear hK K
        refine c_nil ?_
        refine p_readC rfl ?_
        refine c_mid_load rfl 57 _ rfl b 3 rfl (ks .u64 [q0, q1, q2, q3]) (fun u hu => rng3 hu.1) _ Try.underlying57 rfl Try.size_r (fun _ _ _ h => h) (fun K hK => ?_)
        go_simp
        refine hK _ ?_
        clear hK K
        refine c_nil ?_
        refine p_readC rfl ?_
        refine c_value rfl (.pointer (some ⟨bx, 0, none⟩)) (fun u hu => by go_simp) (fun _ _ _ h => h) (fun K hK => ?_)
        go_simp
        refine hK _ ?_
        clear hK K
        refine c_nil ?_
        refine p_readC rfl ?_
        refine c_value rfl (.pointer (some ⟨bx, 4, none⟩)) (fun u hu => by go_simp) (fun _ _ _ h => h) (fun K hK => ?_)
        go_simp
        refine hK _ ?_
        clear hK K
        refine c_nil ?_
        refine p_readC rfl ?_
        refine c_value rfl (.int .i64 e) (fun u hu => by have hc := hu.2 4 _ rfl; go_simp) (fun _ _ _ h => h) (fun K hK => ?_)
        go_simp
        refine hK _ ?_
        clear hK K
        refine c_nil ?_
        refine p_readC rfl ?_
        refine c_value rfl (.int .u64 (pN : Int)) (fun u hu => by go_simp) (fun _ _ _ h => h) (fun K hK => ?_)
        go_simp
        refine hK _ ?_
        clear hK K
        refine c_nil ?_
        refine p_readC rfl ?_
        refine c_value rfl (.pointer (some ⟨b, 0, none⟩)) (fun u hu => by go_simp) (fun _ _ _ h => h) (fun K hK => ?_)
        go_simp
        refine hK _ ?_
        clear hK K
        refine c_nil ?_
        refine p_readC rfl ?_
        refine c_value rfl (.pointer (some ⟨b, 0, none⟩)) (fun u hu => by go_simp) (fun _ _ _ h => h) (fun K hK => ?_)
        go_simp
        refine hK _ ?_
        clear hK K
        refine c_nil ?_
        refine p_readC rfl ?_
        refine c_value rfl (.pointer (some ⟨b, 3, none⟩)) (fun u hu => by go_simp) (fun _ _ _ h => h) (fun K hK => ?_)
        go_simp
        refine hK _ ?_
        clear hK K
        refine c_nil ?_
        refine p_readC rfl ?_
        refine c_mid_load rfl 57 _ rfl b 3 rfl (ks .u64 [q0, q1, q2, q3]) (fun u hu => rng3 hu.1) _ Try.underlying57 rfl Try.size_r (fun _ _ _ h => h) (fun K hK => ?_)
        go_simp
        refine hK _ ?_
        clear hK K
        refine c_nil ?_
        refine p_readC rfl ?_
        refine c_value rfl (.pointer (some ⟨bx, 0, none⟩)) (fun u hu => by go_simp) (fun _ _ _ h => h) (fun K hK => ?_)
        go_simp
        refine hK _ ?_
        clear hK K
        refine c_nil ?_
        refine p_readC rfl ?_
        refine c_value rfl (.pointer (some ⟨bx, 4, none⟩)) (fun u hu => by go_simp) (fun _ _ _ h => h) (fun K hK => ?_)
        go_simp
        refine hK _ ?_
        clear hK K
        refine c_nil ?_
        refine p_readC rfl ?_
        refine c_value rfl (.int .i64 e) (fun u hu => by have hc := hu.2 4 _ rfl; go_simp) (fun _ _ _ h => h) (fun K hK => ?_)
        go_simp
        refine hK _ ?_
        clear hK K
        refine c_nil ?_
        refine p_nilC ?_
        refine p_stepC rfl ?_
        go_wp2_with fail
        refine (HAT.out _).mono ?_; rintro ra wa9 ⟨rfl, hb⟩
        have Ba : Hid (Below w5.drew.heap.size w5.drew wa9) := hb
        clear hb
        go_wp2_with fail
        refine And.intro (fun _ => HK.out _ Ba.out) ?_
        refine p_stepC rfl ?_
        go_wp2_with fail
        refine And.intro (fun _ => HK.out _ Ba.out) ?_
        refine p_stepC rfl ?_
        go_wp2_with fail
        refine (HWT.out _).mono ?_; rintro rc wb9 ⟨rfl, hb⟩
        have Bb : Hid (Below w5.drew.heap.size w5.drew wb9) := Below.trans Ba.out (hb.mono Ba.out.size)
        clear hb
        go_wp2_with fail
        refine And.intro (fun _ => HK.out _ Bb.out) ?_
        refine p_stepC rfl ?_
        go_wp2_with fail
        refine And.intro (fun _ => HK.out _ Bb.out) ?_
        refine p_stepC rfl ?_
        go_wp2_with fail
        refine And.intro (fun _ => HK.out _ Bb.out) ?_
        have SH := Lib.hid (SG.out.below Bb.out)
        have HBK : Hid (Blk wb9 b ([Value.int .i64 (room : Int), .slice wa n1 wc1, lv'] ++ ks .u64 [q0, q1, q2, q3])) := SH.out.blk 0 rfl
        refine p_stepC rfl ?_
        go_wp2_with (first | refine vec_store3 rfl 57 _ _ rfl b rfl z0 z1 z2 z3 rfl q0 q1 q2 q3 _ _ _ HBK.out Try.size_r ?_)
        intro wd AD UD
        have S9 : Hid (Sep w0 wd (rB b (rfv room (.slice wa n1 wc1) lv' [z0, z1, z2, z3]) :: rZ (.slice wa n1 wc1) Q Q :: rO (vk wrt) 107 w0.heap.size lv' (addsD D ([s0, s1, s2, s3], e) L) :: R)) := by
          show Sep _ _ _
          have h1 := SH.out.upd (us := rfv room (.slice wa n1 wc1) lv' [z0, z1, z2, z3]) 0 rfl UD AD
          have h2 := sep_less h1 3 rfl (rZ (.slice wa n1 wc1) Q Q) (fun hz => ⟨hz.row, fun p hp => hz.ws p (List.mem_cons_of_mem _ hp)⟩) (fun k hk => ?_)
          · exact (h2.sub (R' := _ :: _ :: _ :: R) (((List.Sublist.refl _).cons _ |>.cons_cons _).cons_cons _)).perm (List.Perm.cons _ (List.Perm.swap _ _ _))
          · rcases List.mem_append.1 hk with h9 | h9
            · exact List.mem_append_left _ h9
            · obtain ⟨p, hp, h8⟩ := List.mem_flatMap.1 h9
              exact List.mem_append_right _ (List.mem_flatMap.2 ⟨p, List.mem_cons_of_mem _ hp, h8⟩)
        refine And.intro (fun h9 => absurd h9 (by decide)) ?_
        refine p_endC ?_
        go_wp2_with fail
        go_ret
        exact ⟨rfl, _, _, S9.out⟩
end Go.Proofs.Ytohcdonmdnjgoaa.Sd

namespace Go.Proofs.Ytohcdonmdnjgoaa.Sd

open Go.RowKit Go.Proofs.Ytohcdonmdnjgoaa.Vc Go.Proofs.Ytohcdonmdnjgoaa.Sp Go.Proofs.Ytohcdonmdnjgoaa.Rw Go.Proofs.Ytohcdonmdnjgoaa.Ch Go.Proofs.Ytohcdonmdnjgoaa.Se Go.Proofs.Ytohcdonmdnjgoaa.It Go.Proofs.Ytohcdonmdnjgoaa.Mk

set_option linter.unusedVariables false

set_option linter.unusedSimpArgs false

set_option maxRecDepth 100000

/-- the two agree, k deeds on -/
structure PlOk (rm k : Nat) (W : List Bt) (E : List En) (A : List Nat) (Q : List Tq) (D : List Ver) : Prop where
  same : Same (vis E) D
  wq : W.map btb = Q.map Tq.b
  rt : ∀ q ∈ Q, C.right q.s = true ∧ q.s.1.length = 4 ∧ q.L.length ≤ 10
  a4 : A.length = 4
  len : D.length + 10 * Q.length ≤ 10 * k
  wl : Q.length ≤ rm
theorem PlOk.nil (rm : Nat) : PlOk rm 0 [] [] V.zeros [] [] := ⟨Same.nil, rfl, fun q hq => (by cases hq), rfl, by simp, by simp⟩
theorem PlOk.more {rm k : Nat} {W : List Bt} {E : List En} {A : List Nat} {Q : List Tq} {D : List Ver} (h : PlOk rm k W E A Q D) : PlOk rm (k + 1) W E A Q D := ⟨h.same, h.wq, h.rt, h.a4, by have := h.len; omega, h.wl⟩
section

variable {rm k lb ch mb s b : Nat} {W : List Bt} {E : List En} {A : List Nat} {Q : List Tq} {D : List Ver} {w0 w : World} {R : List Rg} {r1 r2 r3 : Rg}

theorem PlOk.wlen (h : PlOk rm k W E A Q D) : W.length = Q.length := by
  have := congrArg List.length h.wq
  simpa using this
theorem tot_ge : ∀ {V : Vs} {x : Nm × List (C.Vr I.Wt)}, x ∈ V → x.2.length ≤ tot V
  | y :: V, x, h => by
    unfold tot
    rw [List.map_cons, List.sum_cons]
    rcases List.mem_cons.1 h with rfl | h
    · omega
    · have := tot_ge h
      unfold tot at this
      omega
theorem PlOk.tot (h : PlOk rm k W E A Q D) (hS : Sh w s (gr rm lb ch mb W E A)) : Sd.tot (vis E) = D.length :=
  h.same.tot (by rw [vis_n]; exact hS.names) (fun n => up_get hS n)
theorem PlOk.lim (h : PlOk rm k W E A Q D) (hS : Sh w s (gr rm lb ch mb W E A)) : Sd.lim (vis E) D.length := fun x hx => by
  have := tot_ge hx
  rw [h.tot hS] at this
  exact this
theorem tw_push1 (st : C.St) (v : Value) (L : List I.Wt) (hS : Sep w0 w (r1 :: r2 :: r3 :: rS s (gr rm lb ch mb W E A) :: R)) (hs : st.1.length = 4) (hL : IsWs w v L) (hn : L.length < 100000) :
    Calls Try.prog 18 #[.pointer (some ⟨s, 0, none⟩), SV st.1 st.2, v] w fun e w' => e = .returned (.bool (C.right st && L.all I.right && decide (W.length < rm))) ∧ ∃ W', Sep w0 w' (r1 :: r2 :: r3 :: rS s (gr rm lb ch mb W' E A) :: R) ∧
      W'.map btb = if (C.right st && L.all I.right && decide (W.length < rm)) = true then W.map btb ++ [(st, L)] else W.map btb := by
  refine Calls.mono (push_any s (gr rm lb ch mb W E A) st v L w (shard_sh hS 3 rfl) (shard_lt hS 3 rfl) hs hL (nil_of hL) hn) ?_
  rintro e w' ⟨rfl, v', h1, h2, h3⟩
  refine ⟨rfl, _, shard_turn hS 3 rfl h1 h2 h3, ?_⟩
  show (pushW _ W st v' L).map btb = _
  unfold pushW
  split
  · rw [List.map_append]; rfl
  · rfl
theorem tw_push (h : PlOk rm k W E A Q D) (st : C.St) (L : List I.Wt) (hs : st.1.length = 4) (hl : L.length ≤ 10) : ∃ z, (C.right st && L.all I.right && decide (W.length < rm)) = z ∧ okP rm Q st L = z ∧
    ∀ W' a c, W'.map btb = (if z = true then W.map btb ++ [(st, L)] else W.map btb) → PlOk rm (k + 1) W' E A (if z = true then Q ++ [⟨st, a, c, L⟩] else Q) D := by
  refine ⟨_, rfl, ?_, fun W' a c hW => ?_⟩
  · unfold okP
    rw [h.wlen]
    cases C.right st <;> cases L.all I.right <;> cases decide (Q.length < rm) <;> rfl
  · cases hz : (C.right st && L.all I.right && decide (W.length < rm)) with
    | false =>
      rw [hz, if_neg (by simp)] at hW
      rw [if_neg (by simp)]
      exact ⟨h.same, hW.trans h.wq, h.rt, h.a4, by have := h.len; omega, h.wl⟩
    | true =>
      rw [hz, if_pos rfl] at hW
      rw [if_pos rfl]
      simp only [Bool.and_eq_true, decide_eq_true_eq] at hz
      refine ⟨h.same, ?_, fun q hq => ?_, h.a4, ?_, ?_⟩
      · rw [hW, h.wq, List.map_append]; rfl
      · rcases List.mem_append.1 hq with h9 | h9
        · exact h.rt q h9
        · obtain rfl := List.mem_singleton.1 h9
          exact ⟨hz.1.1, hs, hl⟩
      · have := h.len
        simp only [List.length_append, List.length_singleton]
        omega
      · have := h.wlen
        simp only [List.length_append, List.length_singleton]
        omega
theorem tw_step0 (h : PlOk rm k W E A [] D) (hS : Sep w0 w (r1 :: r2 :: r3 :: rS s (gr rm lb ch mb W E A) :: R)) :
    Calls Try.prog 14 #[.pointer (some ⟨s, 0, none⟩)] w fun r w' => r = .returned (.bool false) ∧ Sep w0 w' (r1 :: r2 :: r3 :: rS s (gr rm lb ch mb W E A) :: R) := by
  have hW : W = [] := by
    have := h.wlen
    exact List.eq_nil_of_length_eq_zero this
  refine Calls.mono (step_none s (gr rm lb ch mb W E A) w (shard_sh hS 3 rfl) (shard_lt hS 3 rfl) hW) ?_
  rintro e w' ⟨rfl, hb⟩
  exact ⟨rfl, hS.below hb⟩
theorem tw_step1 (q : Tq) (h : PlOk rm k W E A (q :: Q) D) (hk : k ≤ 60) (hS : Sep w0 w (r1 :: r2 :: r3 :: rS s (gr rm lb ch mb W E A) :: R)) :
    Calls Try.prog 14 #[.pointer (some ⟨s, 0, none⟩)] w fun r w' => r = .returned (.bool true) ∧ ∃ W2 E', Sep w0 w' (r1 :: r2 :: r3 :: rS s (gr rm lb ch mb W2 E' (stepA A q.s)) :: R) ∧ PlOk rm (k + 1) W2 E' (stepA A q.s) Q (addsD D q.s q.L) := by
  obtain ⟨bb, W2, rfl⟩ : ∃ bb W2, W = bb :: W2 := by
    have := h.wlen
    cases W with
    | nil => simp at this
    | cons bb W2 => exact ⟨bb, W2, rfl⟩
  have hq := h.wq
  simp only [List.map_cons, List.cons.injEq] at hq
  have hbs : bb.s = q.s := congrArg Prod.fst hq.1
  have hbL : bb.L = q.L := congrArg Prod.snd hq.1
  have hr := h.rt q (List.mem_cons_self ..)
  have hlen := h.len
  have hwl := h.wl
  simp only [List.length_cons] at hlen hwl
  have hsh := shard_sh hS 3 rfl
  refine Calls.mono (step_ga bb W2 hsh (shard_lt hS 3 rfl) rfl D.length (h.lim hsh) (by rw [hbL]; omega)) ?_
  rintro e w' ⟨rfl, E', A', h1, hA, hv, h2, h3⟩
  have hA' : A' = stepA A q.s := by rw [hA, hbs]; rfl
  subst hA'
  rw [hbs, hbL] at hv
  refine ⟨rfl, W2, E', shard_turn hS 3 rfl h1 h2 h3, ⟨?_, hq.2, fun p hp => h.rt p (List.mem_cons_of_mem _ hp), ?_, ?_, by omega⟩⟩
  · rw [hv]; exact h.same.adds hr.1 hr.2.1 q.L
  · unfold stepA; exact with_len A _ _ h.a4
  · have := addsD_len q.s q.L D
    omega
theorem tw_prune1 (z : List Nat) (h : PlOk rm k W E A Q D) (hk : k ≤ 60) (h4 : z.length = 4) (hS : Sep w0 w (r1 :: r2 :: r3 :: rS s (gr rm lb ch mb W E A) :: R)) :
    Calls Try.prog 16 #[.pointer (some ⟨s, 0, none⟩), AV .u64 z] w fun e w' => e = .returned (.int .i64 ((D.length : Int) - ((prD D z D.length).length : Int))) ∧ ∃ E', Sep w0 w' (r1 :: r2 :: r3 :: rS s (gr rm lb ch mb W E' A) :: R) ∧ PlOk rm (k + 1) W E' A Q (prD D z D.length) := by
  have hsh := shard_sh hS 3 rfl
  have hlen := h.len
  have hlim := h.lim hsh
  have htot := h.tot hsh
  have hg := gone_tot (vis E) z
  refine Calls.mono (prune_ga z hsh (shard_lt hS 3 rfl) h4 (fun x hx => by have := hlim x hx; omega) (by omega)) ?_
  rintro e w' ⟨rfl, E', h1, hv, h2, h3⟩
  have hsame : Same (vis E') (prD D z D.length) := by rw [hv]; exact h.same.prune (fun n => up_get hsh n) z
  have ht2 : Sd.tot (vis E') = (prD D z D.length).length := hsame.tot (by rw [vis_n]; exact h1.names) (fun n => up_get h1 n)
  rw [hv] at ht2
  have hpl := prD_len D z D.length (Nat.le_refl _)
  refine ⟨?_, E', shard_turn hS 3 rfl h1 h2 h3, ⟨hsame, h.wq, h.rt, h.a4, by omega, h.wl⟩⟩
  have : (goneA (vis E) z : Int) = (D.length : Int) - ((prD D z D.length).length : Int) := by omega
  rw [this]
/-- what is read, of the one and of the other -/
theorem tw_read (h : PlOk rm k W E A Q D) (hS : Sh w s (gr rm lb ch mb W E A)) (n : Nm) (at_ : List Nat) : ∃ x0 x1 x2 x3 d, ∃ y : I.Wt, ∃ is : Bool, rdV (getV (vis E) n) at_ = (([x0, x1, x2, x3], d), y) ∧ (C.read (getV (vis E) n) at_).isSome = is ∧
    (((lastD D n at_ false).map fun i => D.getD i vz).getD vz) = (([x0, x1, x2, x3], d), y) ∧ (lastD D n at_ false).isSome = is := by
  have hu := up_get hS n
  obtain ⟨x0, x1, x2, x3, d, y, e⟩ := rd_parts hu at_
  have hr := h.same.read hu at_
  refine ⟨x0, x1, x2, x3, d, y, _, e, rfl, ?_, ?_⟩
  · rw [← hr]; exact e
  · rw [hr]; cases lastD D n at_ false <;> rfl
theorem tw_last (h : PlOk rm k W E A Q D) (hS : Sh w s (gr rm lb ch mb W E A)) (n : Nm) : ∃ x0 x1 x2 x3 d, ∃ y : I.Wt, ∃ is : Bool, lsV (getV (vis E) n) = (([x0, x1, x2, x3], d), y) ∧ decide (0 < (getV (vis E) n).length) = is ∧
    (((lastD D n V.zeros true).map fun i => D.getD i vz).getD vz) = (([x0, x1, x2, x3], d), y) ∧ (lastD D n V.zeros true).isSome = is := by
  have hu := up_get hS n
  obtain ⟨x0, x1, x2, x3, d, y, e⟩ := ls_parts hu
  have hr := h.same.last hu V.zeros
  refine ⟨x0, x1, x2, x3, d, y, _, e, rfl, ?_, ?_⟩
  · rw [← hr]; exact e
  · have h9 : ((getV (vis E) n).getLast?).isSome = (lastD D n V.zeros true).isSome := by rw [hr]; cases lastD D n V.zeros true <;> rfl
    rw [← h9]
    cases hL : getV (vis E) n with
    | nil => rfl
    | cons a l => simp [List.getLast?_cons]
theorem PlOk.four (h : PlOk rm k W E A Q D) : ∀ x ∈ D, x.1.1.length = 4 := fun x hx => (h.same.ok x hx).2
end

end Go.Proofs.Ytohcdonmdnjgoaa.Sd

namespace Go.Proofs.Ytohcdonmdnjgoaa.It

open Go.ChangeShapes Go.WideShapes Go.ChangeAt Go.RowKit Go.Deep Go.Proofs.Ytohcdonmdnjgoaa.Vc Go.Proofs.Ytohcdonmdnjgoaa.Sp

set_option linter.unusedVariables false

set_option maxRecDepth 100000

set_option maxHeartbeats 16000000 in
theorem deal_newf (l : List Nat) (d : Int) (mo : Bool) (v : Value) (L : List I.Pt) (w : World) (hl : V.Ok l) (hd : (Lit.int .i64 d).wf = true) (hL : IsPs w v L) (hP : ∀ p ∈ L, I.POk p) :
    Calls Try.prog 11 #[DV l d mo v false] w fun e w' => ∃ v', e = .returned (TV (T.mark l d mo).1 (T.mark l d mo).2 v') ∧ IsWs w' v' (I.dealW false L) ∧ Below w.heap.size w w' ∧ ∀ b, v'.ownBlock = some b → w.heap.size ≤ b ∧ b < w'.heap.size := by
  have hA : V.Ok (T.mark l d mo).1 := T.mark_ok hl d mo
  have CM := Lib.hid (fun w => mark_any l d mo w hl hd)
  obtain ⟨D, HD⟩ : ∃ z, Hid ((T.mark l d mo).2 = z) := ⟨_, rfl⟩
  obtain ⟨A, HAA⟩ : ∃ z, Hid ((T.mark l d mo).1 = z) := ⟨_, rfl⟩
  rw [HD.out, HAA.out] at CM
  rw [HAA.out] at hA
  rw [HD.out, HAA.out]
  obtain ⟨a0, a1, a2, a3, rfl⟩ := V.four hA.len
  obtain ⟨l0, l1, l2, l3, rfl⟩ := V.four hl.len
  obtain ⟨sa, cap, rfl⟩ := hL.nilOrSome
  obtain ⟨n, HN⟩ : ∃ n, Hid (L.length = n) := ⟨_, rfl⟩
  have HL := Lib.hid hL
  rw [HN.out] at HL
  rw [HN.out]
  have CW : Hid (∀ u, Below w.heap.size w u → Calls Try.prog 37 #[.slice sa n cap, .int .i64 10, .bool false] u fun e w' => ∃ v', e = .returned v' ∧ OW 42 w' u.heap.size v' (I.wrs 10 false L []) ∧ Below u.heap.size u w') := fun u hu => writes_false _ L 10 u (IsPs.below HL.out hu) hP (by omega)
  obtain ⟨R, HR⟩ : ∃ r, Hid (I.wrs 10 false L [] = r) := ⟨_, rfl⟩
  rw [HR.out] at CW
  obtain ⟨FR, HFR⟩ : ∃ r, Hid (I.dealW false L = r) := ⟨_, rfl⟩
  rw [HFR.out]
  clear hA hl hd hL hP
  go_enter Try.func11, Try.ntmps11
  go_wp2_with (first | refine blk_box rfl 40 _ rfl [.int .u64 (l0 : Int), .int .u64 (l1 : Int), .int .u64 (l2 : Int), .int .u64 (l3 : Int), .int .i64 d, .bool mo, .slice sa n cap, .bool false] rfl ?_)
  intro w1 A1 B1 Z1
  go_wp2_with (first | refine blk_alloc rfl 51 (ks .u64 [0, 0, 0, 0] ++ [Value.int .i64 0, .slice none 0 0]) rfl Try.info_itx ?_)
  intro w2 A2 B2 Z2
  have HA2 : Hid (Blk w2 w.heap.size [.int .u64 (l0 : Int), .int .u64 (l1 : Int), .int .u64 (l2 : Int), .int .u64 (l3 : Int), .int .i64 d, .bool mo, .slice sa n cap, .bool false]) := Blk.below A1 B2 (by omega)
  have HB2 : Hid (Blk w2 (w.heap.size + 1) (ks .u64 [0, 0, 0, 0] ++ [Value.int .i64 0, .slice none 0 0])) := A2
  have HW2 : Hid (Below w.heap.size w w2) := B1.trans (B2.mono (by omega))
  have HZ2 : Hid (w.heap.size + 1 < w2.heap.size) := by show _ < _; omega
  have q7 := HA2.out.cell 7 (.bool false) rfl
  clear A1 B1 A2 B2 Z1 Z2
  have hz2 := HZ2.out
  have KM : Hid (∀ u, Below w2.heap.size w2 u → u.rangeAt w.heap.size 0 [.int .u64 (l0 : Int), .int .u64 (l1 : Int), .int .u64 (l2 : Int), .int .u64 (l3 : Int), .int .i64 d, .bool mo]) := fun u hu j v hv => (Blk.below HA2.out hu (Nat.lt_of_succ_lt HZ2.out)).1 j v (by have : j < 6 := (List.getElem?_eq_some_iff.1 hv).1; match j, this with | 0, _ => exact hv | 1, _ => exact hv | 2, _ => exact hv | 3, _ => exact hv | 4, _ => exact hv | 5, _ => exact hv)
  have K6 : Hid (∀ u, Below w2.heap.size w2 u → u.cell? ⟨w.heap.size, 6, none⟩ = some (.slice sa n cap)) := fun u hu => (Blk.below HA2.out hu (Nat.lt_of_succ_lt HZ2.out)).cell 6 _ rfl
  have XM : Hid (∀ u, Calls Try.prog 36 [.agg [.int .u64 (l0 : Int), .int .u64 (l1 : Int), .int .u64 (l2 : Int), .int .u64 (l3 : Int), .int .i64 d, .bool mo].toArray].toArray u fun e u' => e = .returned (.agg [Value.int .u64 (a0 : Int), .int .u64 (a1 : Int), .int .u64 (a2 : Int), .int .u64 (a3 : Int), .int .i64 D].toArray) ∧ Below u.heap.size u u') := fun u => CM.out u
  have XW : Hid (∀ u, Below w2.heap.size w2 u → Calls Try.prog 37 [.slice sa n cap, .int .i64 10, .bool false].toArray u fun e u' => ∃ v, e = .returned v ∧ Below u.heap.size u u' ∧ (Spc.ow 42 w2.heap.size R).S v ∧ (Spc.ow 42 w2.heap.size R).T u' v) := fun u hu => (CW.out u (Below.trans HW2.out (hu.mono HW2.out.size))).mono fun e u' ⟨v', he, ho, hb⟩ => ⟨v', he, hb, by obtain ⟨av, cv, ev, _⟩ := ho.is.is; exact ⟨av, cv, ev⟩, OW.mono ho hu.size⟩
  go_wp2_with fail
  refine region_relt 7 [Spc.eq (.pointer (some ⟨w.heap.size, 0, none⟩)), Spc.eq (.agg [.int .u64 (l0 : Int), .int .u64 (l1 : Int), .int .u64 (l2 : Int), .int .u64 (l3 : Int), .int .i64 d, .bool mo].toArray), Spc.eq (.agg [Value.int .u64 (a0 : Int), .int .u64 (a1 : Int), .int .u64 (a2 : Int), .int .u64 (a3 : Int), .int .i64 D].toArray), Spc.eq (.pointer (some ⟨w.heap.size, 6, none⟩)), Spc.eq (.slice sa n cap), Spc.ow 42 w2.heap.size R, Spc.tx 42 w2.heap.size [a0, a1, a2, a3] D R] Try.mixed (by kernel_rfl) ?_
  refine r_value rfl (fun u hu hn => by go_simp) (fun K hK => ?_)
  go_simp
  refine hK _ ?_
  clear hK K
  refine r_blk_load rfl 37 _ rfl w.heap.size 0 rfl (by intro u hu hn; exact KM.out u hu) _ Try.underlying37 rfl Try.size_mk (fun K hK => ?_)
  go_simp
  refine hK _ ?_
  clear hK K
  refine r_callv rfl 36 Try.f36 Try.func36 rfl rfl _ _ rfl _ rfl (by intro u hu hn; exact XM.out u) (fun K hK => ?_)
  go_simp
  refine hK _ ?_
  clear hK K
  refine r_value rfl (fun u hu hn => by go_simp) (fun K hK => ?_)
  go_simp
  refine hK _ ?_
  clear hK K
  refine r_value rfl (fun u hu hn => by have hc := K6.out u hu; go_simp) (fun K hK => ?_)
  go_simp
  refine hK _ ?_
  clear hK K
  refine r_call rfl 37 Try.f37 Try.func37 rfl rfl _ _ rfl _ rfl (by intro u hu hn; exact XW.out u hu) (fun v hv K hK => ?_)
  obtain ⟨s1, c1, rfl⟩ := hv
  go_simp
  refine hK _ ?_
  clear hK K
  refine r_fact rfl (TV [a0, a1, a2, a3] D (.slice s1 R.length c1)) ⟨_, _, rfl⟩ (fun u hu hn => ⟨by unfold TV ks; go_simp, ⟨_, rfl, hn.get 5 0 rfl rfl _ rfl⟩⟩) (fun v hv K hK => ?_)
  obtain ⟨s2, c2, rfl⟩ := hv
  go_simp
  refine hK _ ?_
  clear hK K
  refine r_nil ?_
  intro u hu hF
  obtain ⟨v', ev, hO⟩ := hF 0 _ rfl
  obtain rfl := tv_inj ev
  have HBu : Hid (Blk u (w.heap.size + 1) (ks .u64 [0, 0, 0, 0] ++ [Value.int .i64 0, .slice none 0 0])) := Blk.below HB2.out hu HZ2.out
  have HWu : Hid (Below w.heap.size w u) := Below.trans HW2.out (hu.mono HW2.out.size)
  have HO := Lib.hid hO
  clear ev hF hu KM K6 XM XW hO q7
  refine blk_store rfl 51 _ _ rfl (w.heap.size + 1) rfl [Value.int .u64 (a0 : Int), .int .u64 (a1 : Int), .int .u64 (a2 : Int), .int .u64 (a3 : Int), .int .i64 D, .slice s2 R.length c2] rfl _ HBu.out rfl Try.size_itx rfl ?_
  intro k A U
  have HA9 : Hid (Blk k (w.heap.size + 1) [Value.int .u64 (a0 : Int), .int .u64 (a1 : Int), .int .u64 (a2 : Int), .int .u64 (a3 : Int), .int .i64 D, .slice s2 R.length c2]) := A
  have HW9 : Hid (Below w.heap.size w k) := Below.trans HWu.out (U.below (by omega))
  have HO9 := Lib.hid (OW.mono (OW.far2 HO.out U (by omega)) (show w.heap.size ≤ w2.heap.size by omega))
  have HF9 : Hid (FR = R) := by show _ = _; rw [← HFR.out, ← HR.out]; rfl
  clear A U
  go_wp2_with fail
  refine bodyPost_ret (v := TV [a0, a1, a2, a3] D (.slice s2 R.length c2)) ?_ rfl ⟨_, rfl, (by rw [HF9.out]; exact OW.is HO9.out), HW9.out, fun b hb => ⟨(World.ownsRow.lt (HO9.out).own b hb).1, (World.ownsRow.lt (HO9.out).own b hb).2⟩⟩
  exact res_blk1 (t := 51) Try.results11 _ (w.heap.size + 1) rfl _ HA9.out _ Try.underlying51 rfl Try.size_itx
end Go.Proofs.Ytohcdonmdnjgoaa.It

namespace Go.Proofs.Ytohcdonmdnjgoaa.Sd

open Go.RowKit Go.Proofs.Ytohcdonmdnjgoaa.Vc Go.Proofs.Ytohcdonmdnjgoaa.Sp Go.Proofs.Ytohcdonmdnjgoaa.Rw Go.Proofs.Ytohcdonmdnjgoaa.Ch Go.Proofs.Ytohcdonmdnjgoaa.Se Go.Proofs.Ytohcdonmdnjgoaa.It Go.Proofs.Ytohcdonmdnjgoaa.Mk

set_option linter.unusedVariables false

set_option maxRecDepth 100000

/-- the stamp and the writes of a deal -/
def pS (x : Dl) : C.St := T.mark x.l x.d (x.own || x.mo)
def pW (x : Dl) : List I.Wt := I.dealW x.own x.L
theorem deal_play {w0 : World} {x : Dl} (hx : DlOk w0 x) (w : World) (hb : Below w0.heap.size w0 w) :
    Calls Try.prog 11 #[DV x.l x.d x.mo x.v x.own] w fun e w' => ∃ a cap, e = .returned (TV (pS x).1 (pS x).2 (.slice a (pW x).length cap)) ∧ IsWs w' (.slice a (pW x).length cap) (pW x) ∧ Below w.heap.size w w' ∧ ∀ b ∈ ob (.slice a (pW x).length cap), w.heap.size ≤ b ∧ b < w'.heap.size := by
  obtain ⟨l, d, mo, v, L, own⟩ := x
  cases own with
  | true =>
    have h := deal_fresh hx w hb
    exact h
  | false =>
    refine Calls.mono (deal_newf l d mo v L w hx.v hx.d (hx.puts.below hb) hx.ok) ?_
    rintro e w' ⟨v', rfl, h1, h2, h3⟩
    obtain ⟨a, cap, rfl, _⟩ := h1.is
    exact ⟨a, cap, rfl, h1, h2, fun b hb => h3 b (mem_ob.1 hb)⟩
theorem pS_four {w : World} {x : Dl} (hx : DlOk w x) : (pS x).1.length = 4 := (T.mark_ok hx.v x.d _).len
theorem pW_len (x : Dl) : (pW x).length ≤ 10 := I.dealW_len _ _
end Go.Proofs.Ytohcdonmdnjgoaa.Sd

namespace Go.Proofs.Ytohcdonmdnjgoaa

open Go.ChangeShapes Go.WideShapes Go.ChangeAt Go.RowKit Go.Deep Go.Proofs.Ytohcdonmdnjgoaa.It Go.Proofs.Ytohcdonmdnjgoaa.Rw

set_option linter.unusedVariables false

set_option maxRecDepth 100000

structure Dq where
  k : Nat
  d : Dl
  p : I.Pt
  l : List Nat
  o : Bool
deriving Inhabited
def dqc (x : Dq) : List Value := (Value.int .u8 (x.k : Int)) :: (dlc x.d ++ (pc x.p ++ [.int .u64 ((x.l.getD 0 0 : Nat) : Int), .int .u64 ((x.l.getD 1 0 : Nat) : Int), .int .u64 ((x.l.getD 2 0 : Nat) : Int), .int .u64 ((x.l.getD 3 0 : Nat) : Int), .bool x.o]))
structure DqOk (w : World) (x : Dq) : Prop where
  k : x.k < 256
  d : DlOk w x.d
  p : I.POk x.p
  v : V.Ok x.l
/-- deeds in a row -/
def IsQs (w : World) (v : Value) (L : List Dq) : Prop :=
  ∃ a cap, v = .slice a L.length cap ∧ L.length ≤ cap ∧ cap ≤ maxLen ∧ (L ≠ [] → ∃ b off, a = some ⟨b, off, none⟩ ∧ b < w.heap.size ∧ ∀ i x, L[i]? = some x → ∀ j u, (dqc x)[j]? = some u → w.cell? ⟨b, off + 20 * i + j, none⟩ = some u)
theorem cells_q20 : Try.prog.cellsOf 48 = 20 := by kernel_rfl
theorem cells_qd : Try.prog.cellsOf 40 = 8 := by kernel_rfl
theorem cells_qp : Try.prog.cellsOf 44 = 6 := by kernel_rfl
theorem cells_qv : Try.prog.cellsOf 46 = 5 := by kernel_rfl
theorem cells_qu : Try.prog.cellsOf 5 = 1 := by kernel_rfl
section

variable {H : Type} {enc : TypeId × Value → H} {W : World} {m : Nat} {y : DataW H × List MemPlace}

theorem deed_cells (c0 c1 c2 c3 c4 c5 c6 c7 c8 c9 c10 c11 c12 c13 c14 c15 c16 c17 c18 c19 : Value) (h : DataW.trod enc Try.prog W 0 (fun _ => true) true m 48 [c0, c1, c2, c3, c4, c5, c6, c7, c8, c9, c10, c11, c12, c13, c14, c15, c16, c17, c18, c19] = some y) (hs : Sz 48 y.1) : ∃ x : Dq, [c0, c1, c2, c3, c4, c5, c6, c7, c8, c9, c10, c11, c12, c13, c14, c15, c16, c17, c18, c19] = dqc x ∧ DqOk W x := by
  obtain ⟨xs, n, _, hxy, hl, hlen, hf⟩ := DataW.trod_struct Try.underlying48 h
  match xs, hlen with
  | [x0, x1, x2, x3], _ =>
    subst hxy
    have t0 : DataW.trod enc Try.prog W 0 (fun _ => true) true n 5 (([c0, c1, c2, c3, c4, c5, c6, c7, c8, c9, c10, c11, c12, c13, c14, c15, c16, c17, c18, c19].drop 0).take (Try.prog.cellsOf 5)) = some x0 := hf 0 _ rfl
    have t1 : DataW.trod enc Try.prog W 0 (fun _ => true) true n 40 (([c0, c1, c2, c3, c4, c5, c6, c7, c8, c9, c10, c11, c12, c13, c14, c15, c16, c17, c18, c19].drop 1).take (Try.prog.cellsOf 40)) = some x1 := hf 1 _ rfl
    have t2 : DataW.trod enc Try.prog W 0 (fun _ => true) true n 44 (([c0, c1, c2, c3, c4, c5, c6, c7, c8, c9, c10, c11, c12, c13, c14, c15, c16, c17, c18, c19].drop 9).take (Try.prog.cellsOf 44)) = some x2 := hf 2 _ rfl
    have t3 : DataW.trod enc Try.prog W 0 (fun _ => true) true n 46 (([c0, c1, c2, c3, c4, c5, c6, c7, c8, c9, c10, c11, c12, c13, c14, c15, c16, c17, c18, c19].drop 15).take (Try.prog.cellsOf 46)) = some x3 := hf 3 _ rfl
    rw [cells_qu] at t0
    rw [cells_qd] at t1
    rw [cells_qp] at t2
    rw [cells_qv] at t3
    simp only [List.drop, List.take] at t0 t1 t2 t3
    obtain ⟨k, e0, _, wk⟩ := DataW.trod_int Try.underlying5 t0
    obtain ⟨d, e1, hd⟩ := deal_cells c1 c2 c3 c4 c5 c6 c7 c8 t1 (Sz.part Try.underlying48 hs (j := 1) rfl rfl)
    obtain ⟨p, e2, hp⟩ := put_cells c9 c10 c11 c12 c13 c14 t2 (Sz.part Try.underlying48 hs (j := 2) rfl rfl)
    cases n with
    | zero => simp [DataW.trod] at t3
    | succ n =>
      obtain ⟨vl, vo, e3, hv⟩ := vec_cells c15 c16 c17 c18 c19 t3
      simp only [List.cons.injEq, and_true] at e0
      have hk : 0 ≤ k ∧ k ≤ 255 := by simpa [Lit.wf, IntKind.min, IntKind.max, IntKind.signed, IntKind.bits] using wk
      obtain ⟨K, rfl⟩ : ∃ K : Nat, k = (K : Int) := ⟨k.toNat, by omega⟩
      subst e0
      refine ⟨⟨K, d, p, vl, vo⟩, ?_, by show K < 256; omega, hd, hp, hv⟩
      obtain ⟨v0, v1, v2, v3, rfl⟩ := V.four hv.len
      unfold dqc
      rw [← e1, ← e2]
      simp only [ks, List.map_cons, List.map_nil, List.cons_append, List.nil_append, List.cons.injEq, and_true] at e3
      obtain ⟨rfl, rfl, rfl, rfl, rfl⟩ := e3
      rfl
theorem deeds_cells {c : Value} (h : DataW.trod enc Try.prog W 0 (fun _ => true) true m 22 [c] = some y) (hs : Sz 22 y.1) : ∃ L, IsQs W c L ∧ ∀ x ∈ L, DqOk W x := by
  rcases open_slice Try.underlying22 h with ⟨hcs, _⟩ | ⟨x, len, cap, mm, n, D, Pl, hcs, hb, hl, hm, hmm, rfl, hall⟩
  · simp only [List.cons.injEq, and_true] at hcs
    subst hcs
    exact ⟨[], ⟨none, 0, rfl, Nat.le_refl _, by unfold maxLen; omega, fun h => absurd rfl h⟩, fun p hp => by cases hp⟩
  · simp only [List.cons.injEq, and_true] at hcs
    subst hcs
    simp only [if_true] at hmm
    subst hmm
    have each : ∀ i, i < len → ∃ p : Dq, DqOk W p ∧ ∀ j v, (dqc p)[j]? = some v → W.cell? (x.add (i * 20 + j)) = some v := by
      intro i hi
      obtain ⟨cs', h1, h2⟩ := hall i (by omega)
      rw [cells_q20] at h1
      obtain ⟨_, hlen, hcell⟩ := World.cells?_some h1
      match cs', hlen with
      | [c0, c1, c2, c3, c4, c5, c6, c7, c8, c9, c10, c11, c12, c13, c14, c15, c16, c17, c18, c19], _ =>
        obtain ⟨p, e, hok⟩ := deed_cells c0 c1 c2 c3 c4 c5 c6 c7 c8 c9 c10 c11 c12 c13 c14 c15 c16 c17 c18 c19 h2 (Sz.elem Try.underlying22 hs (i := i) (by simp [hi]))
        refine ⟨p, hok, fun j v hv => ?_⟩
        rw [← e] at hv
        obtain ⟨hj, he⟩ := List.getElem?_eq_some_iff.1 hv
        have := hcell j hj
        rw [add_add] at this
        rw [this]
        exact hv
    obtain ⟨q, hq⟩ := choose_lt each
    obtain ⟨b, off, spot⟩ := x
    refine ⟨(List.range len).map q, ⟨some ⟨b, off, spot⟩, mm, by simp, by simpa using hl, hm, fun hn => ?_⟩, fun p hp => ?_⟩
    · have h0 : 0 < len := by
        rcases Nat.eq_zero_or_pos len with h | h
        · subst h; exact absurd rfl hn
        · exact h
      have h00 := (hq 0 h0).2 0 _ rfl
      have hspot : spot = none := by simpa [Addr.add] using World.cell?_spot h00
      subst hspot
      have hbl : b < W.heap.size := World.block_lt_of_cell? W _ h00
      refine ⟨b, off, rfl, hbl, fun i z hz j v hv => ?_⟩
      have hi : i < len := by have := (List.getElem?_eq_some_iff.1 hz).1; simpa using this
      have hz' : q i = z := by
        rw [List.getElem?_map, List.getElem?_range hi] at hz
        simpa using hz
      rw [← hz'] at hv
      have := (hq i hi).2 j v hv
      rw [addr_add] at this
      rw [← this]
      congr 2
      omega
    · obtain ⟨i, hi, rfl⟩ := List.mem_map.1 hp
      exact (hq i (List.mem_range.1 hi)).1
end

theorem open_deeds {H : Type} {enc : TypeId × Value → H} {W : World} {a : Option Addr} {len cap : Nat} {d : DataW H} {p : List MemPlace}
    (h : DataW.Trod enc Try.prog W 0 (fun _ => true) true 22 (.slice a len cap) d p) (hs : Sz 22 d) : ∃ L, IsQs W (.slice a len cap) L ∧ ∀ x ∈ L, DqOk W x := by
  obtain ⟨fuel, hf⟩ := h
  exact deeds_cells hf hs
theorem IsQs.at {w : World} {v : Value} {L : List Dq} (h : IsQs w v L) (i : Nat) (hi : i < L.length) : ∃ b off cap, v = .slice (some ⟨b, off, none⟩) L.length cap ∧ b < w.heap.size ∧ ∃ x, L[i]? = some x ∧ w.rangeAt b (off + 20 * i) (dqc x) := by
  obtain ⟨a, cap, hv, h1, h2, h3⟩ := h
  obtain ⟨b, off, ha, hlt, hW⟩ := h3 (by intro e; subst e; simp at hi)
  exact ⟨b, off, cap, by rw [hv, ha], hlt, L[i], List.getElem?_eq_getElem hi, fun j u hu => hW i _ (List.getElem?_eq_getElem hi) j u hu⟩
end Go.Proofs.Ytohcdonmdnjgoaa
