/- A region that draws its order, whose first operations only read what its last ones write: reads first, then the others in one order. -/
import Derived.Test.YtkiaehehckmpnaaMem

import Derived.OrdersHeld

import Derived.StillTail

namespace Go.Proofs.Ytkiaehehckmpnaa

open Go.RowKit

set_option linter.unusedVariables false

section

variable {P : Program} {ops : Array Oper} {Q : Exit → Act → World → Prop} {md : Region.Mode} {S : World → Prop} {cut : Nat}

/-- whatever order is picked, S holds behind the operations ahead of cut -/
def wpAnyC (P : Program) (md : Region.Mode) (ops : Array Oper) (Q : Exit → Act → World → Prop) (S : World → Prop) (cut : Nat) : Nat → Array Bool → Act → World → Prop
  | 0, listed, a, w => Region.ready md ops listed = [] ∧ Q .normal a w
  | fuel + 1, listed, a, w =>
    (Region.ready md ops listed = [] → Q .normal a w) ∧
    ∀ i ∈ Region.ready md ops listed, wpOp P ops Q i (fun a' w' => (i < cut → S w') ∧ wpAnyC P md ops Q S cut fuel (listed.setIfInBounds i true) a' w') a w
theorem wpAny_of_C : ∀ (fuel : Nat) (listed : Array Bool) (a : Act) (w : World), wpAnyC P md ops Q S cut fuel listed a w → wpAny P md ops Q fuel listed a w
  | 0, _, _, _, h => h
  | fuel + 1, _, _, _, h => ⟨h.1, fun i hi => wpOp_mono (fun a' w' h' => wpAny_of_C fuel _ a' w' h'.2) (h.2 i hi)⟩
/-- the operations from cut on wait for this one -/
def waitB (md : Region.Mode) (ops : Array Oper) (cut i : Nat) : Bool := decide (i < cut) && (List.range ops.size).all fun j => decide (j < cut) || (match ops[j]? with | some oj => oj.after.any (fun e => Region.binds md e && e.on == i) | none => true)
theorem waitB_spec {i j : Nat} {listed : Array Bool} (h : waitB md ops cut i = true) (hun : listed.getD i true = false) (hj : j ∈ Region.ready md ops listed) : j < cut := by
  obtain ⟨_, oj, hoj, hall⟩ := mem_ready.1 hj
  simp only [waitB, Bool.and_eq_true, List.all_eq_true, List.mem_range] at h
  have h1 := h.2 j (Array.getElem?_eq_some_iff.1 hoj).1
  simp only [hoj, Bool.or_eq_true, decide_eq_true_eq] at h1
  rcases h1 with h1 | h1
  · exact h1
  · obtain ⟨k, hk, he⟩ := Array.any_eq_true.1 h1
    simp only [Bool.and_eq_true, beq_iff_eq] at he
    have := hall _ (Array.getElem_mem hk) he.1
    rw [he.2, getD_both hun] at this
    cases this
theorem wpAnyC_first {i : Nat} {oi : Oper} {v : Value} (hi : ops[i]? = some oi) (hsel : ∀ (j : Nat) (o : Oper) cs b, ops[j]? = some o → o.op ≠ .select cs b) (hwait : waitB md ops cut i = true)
    (hQ : ∀ c a w, Q (.panic c) (a.put oi.dst v) w → Q (.panic c) a w) :
    ∀ (fuel : Nat) (listed : Array Bool) (a : Act) (w : World),
      (∀ j oj, ops[j]? = some oj → j ≠ i → listed.getD j true = false → (∀ e ∈ oj.after, Region.binds md e = true → e.on ≠ i) → oi.apart ops oj = true) →
      i ∈ Region.ready md ops listed → YieldsIf P ops S oi v a → S w →
      wpAnyC P md ops Q S cut fuel (listed.setIfInBounds i true) (a.put oi.dst v) w → wpAnyC P md ops Q S cut (fuel + 1) listed a w := by
  have hic : i < cut := by simp only [waitB, Bool.and_eq_true, decide_eq_true_eq] at hwait; exact hwait.1
  intro fuel
  induction fuel with
  | zero =>
    intro listed a w _ hr hy hS H
    refine ⟨fun h => (by rw [h] at hr; cases hr), fun j hj => ?_⟩
    by_cases hji : j = i
    · subst hji; exact hy.wpOp hi hS ⟨fun _ => hS, H⟩
    · have := ready_mono hj hji
      rw [H.1] at this
      cases this
  | succ fuel ih =>
    intro listed a w hfree hr hy hS H
    refine ⟨fun h => (by rw [h] at hr; cases hr), fun j hj => ?_⟩
    by_cases hji : j = i
    · subst hji; exact hy.wpOp hi hS ⟨fun _ => hS, H⟩
    · have hun := (mem_ready.1 hr).1
      have hjc := waitB_spec hwait hun hj
      have h1 := H.2 j (ready_mono hj hji)
      obtain ⟨hjun, oj, hoj, hall⟩ := mem_ready.1 hj
      have hnot : ∀ e ∈ oj.after, Region.binds md e = true → e.on ≠ i := fun e he hb heq => by
        have h1 := hall e he hb
        rw [heq, getD_both hun] at h1
        cases h1
      have h2 := wpOp_putIf hoj (hfree j oj hoj hji hjun hnot) (fun cs b => hsel i oi cs b hi) (fun cs b => hsel j oj cs b hoj) hQ hy h1
      have hfree' : ∀ k ok, ops[k]? = some ok → k ≠ i → (listed.setIfInBounds j true).getD k true = false →
          (∀ e ∈ ok.after, Region.binds md e = true → e.on ≠ i) → oi.apart ops ok = true := fun k ok hk hki hun hno => by
        refine hfree k ok hk hki ?_ hno
        by_cases hjk : j = k
        · subst hjk; exact hjun
        · rw [getD_set_ne true hjk] at hun; exact hun
      refine wpOp_mono (fun a' w' h3 => ⟨fun _ => h3.2.1 hjc, ih (listed.setIfInBounds j true) a' w' hfree' (ready_mono hr (Ne.symm hji)) h3.1 (h3.2.1 hjc) ?_⟩) h2
      rw [Array.setIfInBounds_comm _ _ hji]
      exact h3.2.2
/-- the reads, one behind the other -/
def stillC (P : Program) (ops : Array Oper) (S : World → Prop) (Q : Exit → Act → World → Prop) (Lq : Act → Prop) : List Oper → Act → Prop
  | [], a => Lq a
  | o :: rest, a => ∃ v, YieldsIf P ops S o v a ∧ (∀ c a w, Q (.panic c) (a.put o.dst v) w → Q (.panic c) a w) ∧ stillC P ops S Q Lq rest (a.put o.dst v)
/-- the others, in one order -/
def tailC (P : Program) (ops : Array Oper) (S : World → Prop) (cut : Nat) (Q : Exit → Act → World → Prop) : List Oper → Nat → Act → World → Prop
  | [], _, a, w => Q .normal a w
  | o :: rest, k, a, w => if Region.wanted o (yielded ops a.tmps) then o.wp P a w (fun a' w' => (k < cut → S w') ∧ tailC P ops S cut Q rest (k + 1) a' w') Q ∨ (o.asks P a w ∧ LetsOut Q) else (k < cut → S w) ∧ tailC P ops S cut Q rest (k + 1) (a.put o.dst undef) w
/-- reads free to be taken first, the others in one order alone -/
def cutHead (md : Region.Mode) (ops : Array Oper) (cut g : Nat) : Nat → Nat → Array Bool → Bool
  | 0, k, listed => Region.seqB md ops g k listed
  | f + 1, k, listed => (Region.ready md ops listed).contains k && Region.free md ops listed k && waitB md ops cut k && cutHead md ops cut g f (k + 1) (listed.setIfInBounds k true)
theorem wpAnyC_tail : ∀ (l : List Oper) (k : Nat) (listed : Array Bool) (a : Act) (w : World), (∀ j, l[j]? = ops[k + j]?) →
    Region.seqB md ops l.length k listed = true → tailC P ops S cut Q l k a w → wpAnyC P md ops Q S cut l.length listed a w
  | [], k, listed, a, w, hl, hB, h => ⟨by simpa [Region.seqB] using hB, h⟩
  | o :: l, k, listed, a, w, hl, hB, h => by
    have h0 : ops[k]? = some o := by simpa using (hl 0).symm
    simp only [List.length_cons, Region.seqB, Bool.and_eq_true, decide_eq_true_eq] at hB
    refine ⟨fun h1 => (by rw [hB.1] at h1; cases h1), fun i hi => ?_⟩
    rw [hB.1] at hi
    obtain rfl : i = k := by simpa using hi
    have ih := fun a' w' => wpAnyC_tail l (i + 1) (listed.setIfInBounds i true) a' w' (fun j => by have := hl (j + 1); simpa [Nat.add_assoc, Nat.add_comm 1 j] using this) hB.2
    unfold wpOp
    simp only [h0]
    unfold tailC at h
    split
    · rename_i hw
      rw [if_pos hw] at h
      exact h.imp (Oper.wp_mono fun a' w' h' => ⟨h'.1, ih a' w' h'.2⟩) id
    · rename_i hw
      rw [if_neg hw] at h
      exact ⟨h.1, ih _ _ h.2⟩
theorem wpAnyC_lex (hsel : Region.noSelect ops = true) (tl : List Oper) : ∀ (l : List Oper) (k : Nat) (listed : Array Bool) (a : Act) (w : World), (∀ j, j < l.length → l[j]? = ops[k + j]?) → (∀ j, tl[j]? = ops[k + l.length + j]?) →
    cutHead md ops cut tl.length l.length k listed = true → S w → stillC P ops S Q (fun a' => tailC P ops S cut Q tl (k + l.length) a' w) l a → wpAnyC P md ops Q S cut (l.length + tl.length) listed a w
  | [], k, listed, a, w, hl, ht, hB, hS, h => by
    rw [List.length_nil, Nat.zero_add]
    exact wpAnyC_tail tl k listed a w (by simpa using ht) hB h
  | o :: l, k, listed, a, w, hl, ht, hB, hS, h => by
    have h0 : ops[k]? = some o := by simpa using (hl 0 (by simp)).symm
    simp only [List.length_cons, cutHead, Bool.and_eq_true] at hB
    obtain ⟨v, hy, hQ, hn⟩ := h
    rw [List.length_cons, show l.length + 1 + tl.length = (l.length + tl.length) + 1 by omega]
    have ih := wpAnyC_lex hsel tl l (k + 1) (listed.setIfInBounds k true) (a.put o.dst v) w (fun j hj => by have := hl (j + 1) (by simp; omega); simpa [Nat.add_assoc, Nat.add_comm 1 j] using this) (fun j => by rw [ht j]; congr 1; simp only [List.length_cons]; omega) hB.2 hS (by
      have e : k + 1 + l.length = k + (o :: l).length := by simp only [List.length_cons]; omega
      rw [e]; exact hn)
    exact wpAnyC_first h0 (Region.noSelect_spec hsel) hB.1.2 hQ (l.length + tl.length) listed a w (Region.free_spec h0 hB.1.1.2) (by simpa using hB.1.1.1) hy hS ih
/-- a walk behind a name that no reckoning opens -/
structure SC (P : Program) (ops : Array Oper) (S : World → Prop) (Q : Exit → Act → World → Prop) (Lq : Act → Prop) (l : List Oper) (a : Act) : Prop where
  out : stillC P ops S Q Lq l a
structure TC (P : Program) (ops : Array Oper) (S : World → Prop) (cut : Nat) (Q : Exit → Act → World → Prop) (l : List Oper) (k : Nat) (a : Act) (w : World) : Prop where
  out : tailC P ops S cut Q l k a w
theorem region_cut {id : Nat} {a : Act} {w : World} {l : List Oper} (S : World → Prop) (n cut : Nat) (hm : P.follows .mixedOrders = true) (hsel : Region.noSelect l.toArray = true) (hn : n ≤ l.length) (hB : cutHead .any l.toArray cut (l.length - n) n 0 (Array.replicate l.length false) = true) (hS : S w.drew)
    (h : SC P l.toArray S Q (fun a' => TC P l.toArray S cut Q (l.drop n) n a' w.drew) (l.take n) a) : (Code.region id l.toArray true).wp P Q a w := by
  have hdl : (l.drop n).length = l.length - n := by simp
  have htl : (l.take n).length = n := by simp; omega
  refine wp_region_any hm (wpAny_of_C (S := S) (cut := cut) _ _ _ _ ?_)
  have key : ∀ (l0 : List Oper) (Lq : Act → Prop) (Lq' : Act → Prop), (∀ a, Lq a → Lq' a) → ∀ a, stillC P l.toArray S Q Lq l0 a → stillC P l.toArray S Q Lq' l0 a := by
    intro l0 Lq Lq' hh
    induction l0 with
    | nil => exact hh
    | cons o r ih => rintro a ⟨v, h1, h2, h3⟩; exact ⟨v, h1, h2, ih _ h3⟩
  have := wpAnyC_lex (md := .any) (P := P) (Q := Q) (S := S) (cut := cut) (ops := l.toArray) hsel (l.drop n) (l.take n) 0 (Array.replicate l.length false) a w.drew (fun j hj => by
    rw [htl] at hj
    simp [hj]) (fun j => by rw [htl]; simp [List.getElem?_drop]) (by rw [hdl, htl]; exact hB) hS (key _ _ _ (fun a' h' => by rw [htl, Nat.zero_add]; exact h'.out) _ h.out)
  rw [hdl, htl, show n + (l.length - n) = l.toArray.size by simp; omega] at this
  simpa using this
section

variable {rest : List Oper} {o : Oper} {a : Act} {w : World} {Lq : Act → Prop}

theorem c_nil (h : Lq a) : SC P ops S Q Lq [] a := ⟨h⟩
theorem c_value (hgd : o.guard = none) (v : Value) (hr : ∀ u, S u → (execOp a.eval o).run P u = .ok (.value v) u) (hQ : ∀ c a w, Q (.panic c) (a.put o.dst v) w → Q (.panic c) a w) (h : ∀ K : Act → Prop, (∀ a, SC P ops S Q Lq rest a → K a) → K (a.put o.dst v)) : SC P ops S Q Lq (o :: rest) a :=
  ⟨⟨v, .inl ⟨by simp [Region.wanted, hgd], hr⟩, hQ, h _ fun a hA => hA.out⟩⟩
theorem c_move (hgd : o.guard = none) (x : Operand) (ho : o.op = .move x) (v : Value) (hx : a.eval x = v) (hQ : ∀ c a w, Q (.panic c) (a.put o.dst v) w → Q (.panic c) a w) (h : ∀ K : Act → Prop, (∀ a, SC P ops S Q Lq rest a → K a) → K (a.put o.dst v)) : SC P ops S Q Lq (o :: rest) a :=
  c_value hgd v (fun u _ => by unfold execOp; simp only [ho, hx]; rfl) hQ h
theorem c_blk_load (hgd : o.guard = none) (t : TypeId) (x : Operand) (ho : o.op = .load t x) (b : Nat) (hx : a.eval x = .pointer (some ⟨b, 0, none⟩)) (vs : List Value) (hb : ∀ u, S u → Blk u b vs)
    (d : TypeDesc) (hu : P.underlying t = some d) (hd : d.isRow = true) (hi : (P.info? t).map (·.size) = some vs.length) (hQ : ∀ c a w, Q (.panic c) (a.put o.dst (.agg vs.toArray)) w → Q (.panic c) a w)
    (h : ∀ K : Act → Prop, (∀ a, SC P ops S Q Lq rest a → K a) → K (a.put o.dst (.agg vs.toArray))) : SC P ops S Q Lq (o :: rest) a := by
  refine c_value hgd (.agg vs.toArray) (fun u hc => ?_) hQ h
  have hl := run_loadAt_mid u b 0 t vs d (hb u hc).1 hu hd hi
  unfold execOp
  simp only [ho, hx, Sem.run_bind, hl, Result.andThen_ok, Sem.run_pure]
/-- what follows one operation -/
def thenC (Q : Exit → Act → World → Prop) (N : Act → World → Prop) : Exit → Act → World → Prop
  | .normal => N
  | x => Q x
theorem t_step {k : Nat} (h : wpList P ops (thenC Q fun a' w' => (k < cut → S w') ∧ TC P ops S cut Q rest (k + 1) a' w') [o] a w) : TC P ops S cut Q (o :: rest) k a w := by
  refine ⟨?_⟩
  unfold tailC
  unfold wpList at h
  split
  · rename_i hw
    rw [if_pos hw] at h
    exact h.imp (Oper.wp_mono fun a' w' h' => ⟨h'.1, h'.2.out⟩) id
  · rename_i hw
    rw [if_neg hw] at h
    exact ⟨h.1, h.2.out⟩
/-- from cut on nothing is asked -/
theorem t_rest {l : List Oper} {k : Nat} (hk : cut ≤ k) (h : wpList P ops Q l a w) : TC P ops S cut Q l k a w := by
  refine ⟨?_⟩
  induction l generalizing k a w with
  | nil => exact h
  | cons o l ih =>
    unfold tailC
    unfold wpList at h
    split
    · rename_i hw
      rw [if_pos hw] at h
      exact h.imp (Oper.wp_mono fun a' w' h' => ⟨fun h9 => absurd h9 (by omega), ih (by omega) h'⟩) id
    · rename_i hw
      rw [if_neg hw] at h
      exact ⟨fun h9 => absurd h9 (by omega), ih (by omega) h⟩
end

end

end Go.Proofs.Ytkiaehehckmpnaa
