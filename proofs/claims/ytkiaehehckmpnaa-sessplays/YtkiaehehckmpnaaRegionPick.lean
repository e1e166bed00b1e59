/- A region that draws its order: chosen operations only read and may be taken first (in a chosen order, wherever they stand in the text); the others come in one order; S holds all along. -/
import Derived.Test.YtkiaehehckmpnaaRegionCut

namespace Go.Proofs.Ytkiaehehckmpnaa

open Go.RowKit

set_option linter.unusedVariables false

section

variable {P : Program} {ops : Array Oper} {Q : Exit → Act → World → Prop} {md : Region.Mode} {S : World → Prop} {cut : Nat}

def seqL (md : Region.Mode) (ops : Array Oper) : List Nat → Array Bool → Bool
  | [], listed => (Region.ready md ops listed).isEmpty
  | k :: ks, listed => (Region.ready md ops listed == [k]) && seqL md ops ks (listed.setIfInBounds k true)
def pickB (md : Region.Mode) (ops : Array Oper) (cut : Nat) (tl : List Nat) : List Nat → Array Bool → Bool
  | [], listed => seqL md ops tl listed
  | k :: ks, listed => (Region.ready md ops listed).contains k && Region.free md ops listed k && waitB md ops cut k && pickB md ops cut tl ks (listed.setIfInBounds k true)
def tailN (P : Program) (ops : Array Oper) (S : World → Prop) (Q : Exit → Act → World → Prop) : List Nat → Act → World → Prop
  | [], a, w => Q .normal a w
  | k :: ks, a, w => ∃ o, ops[k]? = some o ∧ (if Region.wanted o (yielded ops a.tmps) then o.wp P a w (fun a' w' => S w' ∧ tailN P ops S Q ks a' w') Q ∨ (o.asks P a w ∧ LetsOut Q) else S w ∧ tailN P ops S Q ks (a.put o.dst undef) w)
def stillN (P : Program) (ops : Array Oper) (S : World → Prop) (Q : Exit → Act → World → Prop) (Lq : Act → Prop) : List Nat → Act → Prop
  | [], a => Lq a
  | k :: ks, a => ∃ o, ops[k]? = some o ∧ ∃ v, YieldsIf P ops S o v a ∧ (∀ c a w, Q (.panic c) (a.put o.dst v) w → Q (.panic c) a w) ∧ stillN P ops S Q Lq ks (a.put o.dst v)
theorem pick_tail : ∀ (ks : List Nat) (listed : Array Bool) (a : Act) (w : World), seqL md ops ks listed = true → tailN P ops S Q ks a w → wpAnyC P md ops Q S cut ks.length listed a w
  | [], listed, a, w, hB, h => ⟨by simpa [seqL] using hB, h⟩
  | k :: ks, listed, a, w, hB, h => by
    obtain ⟨o, h0, h⟩ := h
    simp only [seqL, Bool.and_eq_true, beq_iff_eq] at hB
    refine ⟨fun h1 => (by rw [hB.1] at h1; cases h1), fun i hi => ?_⟩
    rw [hB.1] at hi
    obtain rfl : i = k := by simpa using hi
    have ih := fun a' w' => pick_tail ks (listed.setIfInBounds i true) a' w' hB.2
    unfold wpOp
    simp only [h0]
    split
    · rename_i hw
      rw [if_pos hw] at h
      exact h.imp (Oper.wp_mono fun a' w' h' => ⟨fun _ => h'.1, ih a' w' h'.2⟩) id
    · rename_i hw
      rw [if_neg hw] at h
      exact ⟨fun _ => h.1, ih _ _ h.2⟩
theorem pick_lex (hsel : Region.noSelect ops = true) (tl : List Nat) : ∀ (ks : List Nat) (listed : Array Bool) (a : Act) (w : World),
    pickB md ops cut tl ks listed = true → S w → stillN P ops S Q (fun a' => tailN P ops S Q tl a' w) ks a → wpAnyC P md ops Q S cut (ks.length + tl.length) listed a w
  | [], listed, a, w, hB, hS, h => by
    rw [List.length_nil, Nat.zero_add]
    exact pick_tail tl listed a w hB h
  | k :: ks, listed, a, w, hB, hS, h => by
    simp only [pickB, Bool.and_eq_true] at hB
    obtain ⟨o, h0, v, hy, hQ, hn⟩ := h
    rw [List.length_cons, show ks.length + 1 + tl.length = (ks.length + tl.length) + 1 by omega]
    have ih := pick_lex hsel tl ks (listed.setIfInBounds k true) (a.put o.dst v) w hB.2 hS hn
    exact wpAnyC_first h0 (Region.noSelect_spec hsel) hB.1.2 hQ (ks.length + tl.length) listed a w (Region.free_spec h0 hB.1.1.2) (by simpa using hB.1.1.1) hy hS ih
structure SN (P : Program) (ops : Array Oper) (S : World → Prop) (Q : Exit → Act → World → Prop) (Lq : Act → Prop) (ks : List Nat) (a : Act) : Prop where
  out : stillN P ops S Q Lq ks a
structure TN (P : Program) (ops : Array Oper) (S : World → Prop) (Q : Exit → Act → World → Prop) (ks : List Nat) (a : Act) (w : World) : Prop where
  out : tailN P ops S Q ks a w
theorem stillN_mono {Lq Lq' : Act → Prop} (hh : ∀ a, Lq a → Lq' a) : ∀ (ks : List Nat) (a : Act), stillN P ops S Q Lq ks a → stillN P ops S Q Lq' ks a
  | [], a, h => hh a h
  | k :: ks, a, ⟨o, h0, v, h1, h2, h3⟩ => ⟨o, h0, v, h1, h2, stillN_mono hh ks _ h3⟩
theorem region_pick {id : Nat} {a : Act} {w : World} {l : List Oper} (S : World → Prop) (rs tl : List Nat) (hm : P.follows .mixedOrders = true) (hsel : Region.noSelect l.toArray = true) (hn : rs.length + tl.length = l.length) (hB : pickB .any l.toArray l.length tl rs (Array.replicate l.length false) = true) (hS : S w.drew)
    (h : SN P l.toArray S Q (fun a' => TN P l.toArray S Q tl a' w.drew) rs a) : (Code.region id l.toArray true).wp P Q a w := by
  refine wp_region_any hm (wpAny_of_C (S := S) (cut := l.length) _ _ _ _ ?_)
  have := pick_lex (md := .any) (P := P) (Q := Q) (S := S) (cut := l.length) (ops := l.toArray) hsel tl rs (Array.replicate l.length false) a w.drew hB hS (stillN_mono (fun a' h' => h'.out) rs a h.out)
  rw [hn] at this
  simpa using this
section

variable {o : Oper} {a : Act} {w : World} {Lq : Act → Prop} {k : Nat} {ks : List Nat}

/-- one read: shown by a word of SC -/
theorem p_read (h0 : ops[k]? = some o) (h : SC P ops S Q (fun a' => SN P ops S Q Lq ks a') [o] a) : SN P ops S Q Lq (k :: ks) a := by
  obtain ⟨v, h1, h2, h3⟩ := h.out
  exact ⟨⟨o, h0, v, h1, h2, SN.out h3⟩⟩
theorem p_nil (h : Lq a) : SN P ops S Q Lq [] a := ⟨h⟩
theorem p_step (h0 : ops[k]? = some o) (h : wpList P ops (thenC Q fun a' w' => S w' ∧ TN P ops S Q ks a' w') [o] a w) : TN P ops S Q (k :: ks) a w := by
  refine ⟨⟨o, h0, ?_⟩⟩
  unfold wpList at h
  split
  · rename_i hw
    rw [if_pos hw] at h
    exact h.imp (Oper.wp_mono fun a' w' h' => ⟨h'.1, h'.2.out⟩) id
  · rename_i hw
    rw [if_neg hw] at h
    exact ⟨h.1, h.2.out⟩
theorem p_end (h : Q .normal a w) : TN P ops S Q [] a w := ⟨h⟩
end

end

end Go.Proofs.Ytkiaehehckmpnaa

namespace Go.Proofs.Ytkiaehehckmpnaa

open Go.RowKit

set_option linter.unusedVariables false

section

variable {P : Program} {ops : Array Oper} {Q : Exit → Act → World → Prop} {md : Region.Mode} {S : World → Prop} {cut : Nat}

def seqLC (md : Region.Mode) (ops : Array Oper) : List Nat → Array Bool → Bool
  | [], listed => (Region.ready md ops listed).isEmpty
  | k :: ks, listed => (Region.ready md ops listed == [k]) && seqLC md ops ks (listed.setIfInBounds k true)
def pickBC (md : Region.Mode) (ops : Array Oper) (cut : Nat) (tl : List Nat) : List Nat → Array Bool → Bool
  | [], listed => seqLC md ops tl listed
  | k :: ks, listed => (Region.ready md ops listed).contains k && Region.free md ops listed k && waitB md ops cut k && pickBC md ops cut tl ks (listed.setIfInBounds k true)
def tailNC (P : Program) (ops : Array Oper) (S : World → Prop) (cut : Nat) (Q : Exit → Act → World → Prop) : List Nat → Act → World → Prop
  | [], a, w => Q .normal a w
  | k :: ks, a, w => ∃ o, ops[k]? = some o ∧ (if Region.wanted o (yielded ops a.tmps) then o.wp P a w (fun a' w' => (k < cut → S w') ∧ tailNC P ops S cut Q ks a' w') Q ∨ (o.asks P a w ∧ LetsOut Q) else (k < cut → S w) ∧ tailNC P ops S cut Q ks (a.put o.dst undef) w)
def stillNC (P : Program) (ops : Array Oper) (S : World → Prop) (Q : Exit → Act → World → Prop) (Lq : Act → Prop) : List Nat → Act → Prop
  | [], a => Lq a
  | k :: ks, a => ∃ o, ops[k]? = some o ∧ ∃ v, YieldsIf P ops S o v a ∧ (∀ c a w, Q (.panic c) (a.put o.dst v) w → Q (.panic c) a w) ∧ stillNC P ops S Q Lq ks (a.put o.dst v)
theorem pick_tailC : ∀ (ks : List Nat) (listed : Array Bool) (a : Act) (w : World), seqLC md ops ks listed = true → tailNC P ops S cut Q ks a w → wpAnyC P md ops Q S cut ks.length listed a w
  | [], listed, a, w, hB, h => ⟨by simpa [seqLC] using hB, h⟩
  | k :: ks, listed, a, w, hB, h => by
    obtain ⟨o, h0, h⟩ := h
    simp only [seqLC, Bool.and_eq_true, beq_iff_eq] at hB
    refine ⟨fun h1 => (by rw [hB.1] at h1; cases h1), fun i hi => ?_⟩
    rw [hB.1] at hi
    obtain rfl : i = k := by simpa using hi
    have ih := fun a' w' => pick_tailC ks (listed.setIfInBounds i true) a' w' hB.2
    unfold wpOp
    simp only [h0]
    split
    · rename_i hw
      rw [if_pos hw] at h
      exact h.imp (Oper.wp_mono fun a' w' h' => ⟨h'.1, ih a' w' h'.2⟩) id
    · rename_i hw
      rw [if_neg hw] at h
      exact ⟨h.1, ih _ _ h.2⟩
theorem pick_lexC (hsel : Region.noSelect ops = true) (tl : List Nat) : ∀ (ks : List Nat) (listed : Array Bool) (a : Act) (w : World),
    pickBC md ops cut tl ks listed = true → S w → stillNC P ops S Q (fun a' => tailNC P ops S cut Q tl a' w) ks a → wpAnyC P md ops Q S cut (ks.length + tl.length) listed a w
  | [], listed, a, w, hB, hS, h => by
    rw [List.length_nil, Nat.zero_add]
    exact pick_tailC tl listed a w hB h
  | k :: ks, listed, a, w, hB, hS, h => by
    simp only [pickBC, Bool.and_eq_true] at hB
    obtain ⟨o, h0, v, hy, hQ, hn⟩ := h
    rw [List.length_cons, show ks.length + 1 + tl.length = (ks.length + tl.length) + 1 by omega]
    have ih := pick_lexC hsel tl ks (listed.setIfInBounds k true) (a.put o.dst v) w hB.2 hS hn
    exact wpAnyC_first h0 (Region.noSelect_spec hsel) hB.1.2 hQ (ks.length + tl.length) listed a w (Region.free_spec h0 hB.1.1.2) (by simpa using hB.1.1.1) hy hS ih
structure SNC (P : Program) (ops : Array Oper) (S : World → Prop) (Q : Exit → Act → World → Prop) (Lq : Act → Prop) (ks : List Nat) (a : Act) : Prop where
  out : stillNC P ops S Q Lq ks a
structure TNC (P : Program) (ops : Array Oper) (S : World → Prop) (cut : Nat) (Q : Exit → Act → World → Prop) (ks : List Nat) (a : Act) (w : World) : Prop where
  out : tailNC P ops S cut Q ks a w
theorem stillN_monoC {Lq Lq' : Act → Prop} (hh : ∀ a, Lq a → Lq' a) : ∀ (ks : List Nat) (a : Act), stillNC P ops S Q Lq ks a → stillNC P ops S Q Lq' ks a
  | [], a, h => hh a h
  | k :: ks, a, ⟨o, h0, v, h1, h2, h3⟩ => ⟨o, h0, v, h1, h2, stillN_monoC hh ks _ h3⟩
theorem region_pickC {id : Nat} {a : Act} {w : World} {l : List Oper} (S : World → Prop) (cut : Nat) (rs tl : List Nat) (hm : P.follows .mixedOrders = true) (hsel : Region.noSelect l.toArray = true) (hn : rs.length + tl.length = l.length) (hB : pickBC .any l.toArray cut tl rs (Array.replicate l.length false) = true) (hS : S w.drew)
    (h : SNC P l.toArray S Q (fun a' => TNC P l.toArray S cut Q tl a' w.drew) rs a) : (Code.region id l.toArray true).wp P Q a w := by
  refine wp_region_any hm (wpAny_of_C (S := S) (cut := cut) _ _ _ _ ?_)
  have := pick_lexC (md := .any) (P := P) (Q := Q) (S := S) (cut := cut) (ops := l.toArray) hsel tl rs (Array.replicate l.length false) a w.drew hB hS (stillN_monoC (fun a' h' => h'.out) rs a h.out)
  rw [hn] at this
  simpa using this
section

variable {o : Oper} {a : Act} {w : World} {Lq : Act → Prop} {k : Nat} {ks : List Nat}

/-- one read: shown by a word of SC -/
theorem p_readC (h0 : ops[k]? = some o) (h : SC P ops S Q (fun a' => SNC P ops S Q Lq ks a') [o] a) : SNC P ops S Q Lq (k :: ks) a := by
  obtain ⟨v, h1, h2, h3⟩ := h.out
  exact ⟨⟨o, h0, v, h1, h2, SNC.out h3⟩⟩
theorem p_nilC (h : Lq a) : SNC P ops S Q Lq [] a := ⟨h⟩
theorem p_stepC (h0 : ops[k]? = some o) (h : wpList P ops (thenC Q fun a' w' => (k < cut → S w') ∧ TNC P ops S cut Q ks a' w') [o] a w) : TNC P ops S cut Q (k :: ks) a w := by
  refine ⟨⟨o, h0, ?_⟩⟩
  unfold wpList at h
  split
  · rename_i hw
    rw [if_pos hw] at h
    exact h.imp (Oper.wp_mono fun a' w' h' => ⟨h'.1, h'.2.out⟩) id
  · rename_i hw
    rw [if_neg hw] at h
    exact ⟨h.1, h.2.out⟩
theorem p_endC (h : Q .normal a w) : TNC P ops S cut Q [] a w := ⟨h⟩
end

end

end Go.Proofs.Ytkiaehehckmpnaa

namespace Go.Proofs.Ytkiaehehckmpnaa

open Go.RowKit

set_option linter.unusedVariables false

section

variable {P : Program} {ops : Array Oper} {Q : Exit → Act → World → Prop} {S : World → Prop} {cut : Nat}

structure TR (P : Program) (ops : Array Oper) (S : World → Prop) (Q : Exit → Act → World → Prop) (cut n : Nat) (listed : Array Bool) (a : Act) (w : World) : Prop where
  out : wpAnyC P .any ops Q S cut n listed a w
theorem region_tree {id : Nat} {a : Act} {w : World} {l : List Oper} (S : World → Prop) (cut : Nat) (hm : P.follows .mixedOrders = true) (h : TR P l.toArray S Q cut l.length (Array.replicate l.length false) a w.drew) : (Code.region id l.toArray true).wp P Q a w := by
  refine wp_region_any hm (wpAny_of_C (S := S) (cut := cut) _ _ _ _ ?_)
  simpa using h.out
section

variable {o : Oper} {a : Act} {w : World} {n : Nat} {listed : Array Bool}

variable {Lq : Act → Prop} {rest : List Oper}

theorem cg_value (hw : Region.wanted o (yielded ops a.tmps) = true) (v : Value) (hr : ∀ u, S u → (execOp a.eval o).run P u = .ok (.value v) u) (hQ : ∀ c a w, Q (.panic c) (a.put o.dst v) w → Q (.panic c) a w) (h : ∀ K : Act → Prop, (∀ a, SC P ops S Q Lq rest a → K a) → K (a.put o.dst v)) : SC P ops S Q Lq (o :: rest) a :=
  ⟨⟨v, .inl ⟨hw, hr⟩, hQ, h _ fun a hA => hA.out⟩⟩
theorem c_skip (hw : Region.wanted o (yielded ops a.tmps) = false) (hQ : ∀ c a w, Q (.panic c) (a.put o.dst undef) w → Q (.panic c) a w) (h : ∀ K : Act → Prop, (∀ a, SC P ops S Q Lq rest a → K a) → K (a.put o.dst undef)) : SC P ops S Q Lq (o :: rest) a :=
  ⟨⟨undef, .inr ⟨hw, rfl⟩, hQ, h _ fun a hA => hA.out⟩⟩
theorem ct_mid_load (hgd : o.guard = none) (t : TypeId) (x : Operand) (ho : o.op = .load t x) (b p : Nat) (hx : a.eval x = .pointer (some ⟨b, p, none⟩)) (vs : List Value) (hb : ∀ u, S u → u.rangeAt b p vs)
    (d : TypeDesc) (hu : P.underlying t = some d) (hd : d.isRow = true) (hi : (P.info? t).map (·.size) = some vs.length) (hQ : ∀ c a w, Q (.panic c) (a.put o.dst (.agg vs.toArray)) w → Q (.panic c) a w)
    (h : ∀ K : Act → Prop, (∀ a, SC P ops S Q Lq rest a → K a) → K (a.put o.dst (.agg vs.toArray))) : SC P ops S Q Lq (o :: rest) a := by
  refine c_value hgd (.agg vs.toArray) (fun u hc => ?_) hQ h
  have hl := run_loadAt_mid u b p t vs d (hb u hc) hu hd hi
  unfold execOp
  simp only [ho, hx, Sem.run_bind, hl, Result.andThen_ok, Sem.run_pure]
theorem cg_mid_load (hw : Region.wanted o (yielded ops a.tmps) = true) (t : TypeId) (x : Operand) (ho : o.op = .load t x) (b p : Nat) (hx : a.eval x = .pointer (some ⟨b, p, none⟩)) (vs : List Value) (hb : ∀ u, S u → u.rangeAt b p vs)
    (d : TypeDesc) (hu : P.underlying t = some d) (hd : d.isRow = true) (hi : (P.info? t).map (·.size) = some vs.length) (hQ : ∀ c a w, Q (.panic c) (a.put o.dst (.agg vs.toArray)) w → Q (.panic c) a w)
    (h : ∀ K : Act → Prop, (∀ a, SC P ops S Q Lq rest a → K a) → K (a.put o.dst (.agg vs.toArray))) : SC P ops S Q Lq (o :: rest) a := by
  refine cg_value hw (.agg vs.toArray) (fun u hc => ?_) hQ h
  have hl := run_loadAt_mid u b p t vs d (hb u hc) hu hd hi
  unfold execOp
  simp only [ho, hx, Sem.run_bind, hl, Result.andThen_ok, Sem.run_pure]
theorem tr_read (k : Nat) (h0 : ops[k]? = some o) (hB : (Region.noSelect ops && ((Region.ready .any ops listed).contains k && Region.free .any ops listed k && waitB .any ops cut k)) = true) (hS : S w)
    (h : SC P ops S Q (fun a' => TR P ops S Q cut n (listed.setIfInBounds k true) a' w) [o] a) : TR P ops S Q cut (n + 1) listed a w := by
  simp only [Bool.and_eq_true] at hB
  obtain ⟨v, h1, h2, h3⟩ := h.out
  exact ⟨wpAnyC_first h0 (Region.noSelect_spec hB.1) hB.2.2 h2 n listed a w (Region.free_spec h0 hB.2.1.2) (by simpa using hB.2.1.1) h1 hS (TR.out h3)⟩
theorem tr_op {k : Nat} (h0 : ops[k]? = some o) (h : wpList P ops (thenC Q fun a' w' => (k < cut → S w') ∧ TR P ops S Q cut n (listed.setIfInBounds k true) a' w') [o] a w) : wpOp P ops Q k (fun a' w' => (k < cut → S w') ∧ wpAnyC P .any ops Q S cut n (listed.setIfInBounds k true) a' w') a w := by
  unfold wpOp
  simp only [h0]
  unfold wpList at h
  split
  · rename_i hw
    rw [if_pos hw] at h
    exact h.imp (Oper.wp_mono fun a' w' h' => ⟨h'.1, h'.2.out⟩) (fun h => h)
  · rename_i hw
    rw [if_neg hw] at h
    exact ⟨h.1, h.2.out⟩
theorem tr_one (k : Nat) (h0 : ops[k]? = some o) (hr : (Region.ready .any ops listed == [k]) = true) (h : wpList P ops (thenC Q fun a' w' => (k < cut → S w') ∧ TR P ops S Q cut n (listed.setIfInBounds k true) a' w') [o] a w) : TR P ops S Q cut (n + 1) listed a w := by
  rw [beq_iff_eq] at hr
  refine ⟨⟨fun h1 => (by rw [hr] at h1; cases h1), fun i hi => ?_⟩⟩
  rw [hr] at hi
  obtain rfl : i = k := by simpa using hi
  exact tr_op h0 h
theorem tr_two {o' : Oper} (k m : Nat) (h0 : ops[k]? = some o) (h0' : ops[m]? = some o') (hr : (Region.ready .any ops listed == [k, m]) = true) (h : wpList P ops (thenC Q fun a' w' => (k < cut → S w') ∧ TR P ops S Q cut n (listed.setIfInBounds k true) a' w') [o] a w)
    (h' : wpList P ops (thenC Q fun a' w' => (m < cut → S w') ∧ TR P ops S Q cut n (listed.setIfInBounds m true) a' w') [o'] a w) : TR P ops S Q cut (n + 1) listed a w := by
  rw [beq_iff_eq] at hr
  refine ⟨⟨fun h1 => (by rw [hr] at h1; cases h1), fun i hi => ?_⟩⟩
  rw [hr] at hi
  simp only [List.mem_cons, List.not_mem_nil, or_false] at hi
  rcases hi with rfl | rfl
  · exact tr_op h0 h
  · exact tr_op h0' h'
theorem tr_end (hr : (Region.ready .any ops listed).isEmpty = true) (h : Q .normal a w) : TR P ops S Q cut n listed a w := by
  have hr := List.isEmpty_iff.1 hr
  cases n with
  | zero => exact ⟨⟨hr, h⟩⟩
  | succ n => exact ⟨⟨fun _ => h, fun i hi => by rw [hr] at hi; cases hi⟩⟩
end

end

end Go.Proofs.Ytkiaehehckmpnaa
