/- What lies in memory, part by part: each part has blocks of its own; what turns one part leaves the others. -/
import Derived.Test.YtohcdonmdnjgoaaChainObj

namespace Go.Proofs.Ytohcdonmdnjgoaa.Se

open Go.RowKit Go.Proofs.Ytohcdonmdnjgoaa.Rw Go.Proofs.Ytohcdonmdnjgoaa.Ch

set_option linter.unusedVariables false

/-- a part: its blocks, what it says; it hangs on these blocks alone -/
structure Rg where
  bl : List Nat
  P : World → Prop
  st : ∀ w w', (∀ k ∈ bl, w'.heap[k]? = w.heap[k]?) → P w → P w'
structure Sep (w0 w : World) (R : List Rg) : Prop where
  under : Below w0.heap.size w0 w
  each : ∀ r ∈ R, r.P w ∧ ∀ k ∈ r.bl, w0.heap.size ≤ k ∧ k < w.heap.size
  disj : R.Pairwise fun r s => ∀ k ∈ r.bl, k ∉ s.bl
theorem Sep.start (w : World) : Sep w w [] := ⟨Below.refl _ _, fun r hr => (by cases hr), .nil⟩
theorem Sep.size {w0 w : World} {R : List Rg} (h : Sep w0 w R) : w0.heap.size ≤ w.heap.size := h.under.size
theorem Sep.get {w0 w : World} {R : List Rg} (h : Sep w0 w R) (i : Nat) {r : Rg} (hi : R[i]? = some r) : r.P w := (h.each r (List.mem_of_getElem? hi)).1
theorem Sep.lt {w0 w : World} {R : List Rg} (h : Sep w0 w R) (i : Nat) {r : Rg} (hi : R[i]? = some r) : ∀ k ∈ r.bl, w0.heap.size ≤ k ∧ k < w.heap.size := (h.each r (List.mem_of_getElem? hi)).2
theorem Sep.below {w0 w w' : World} {R : List Rg} (h : Sep w0 w R) (hb : Below w.heap.size w w') : Sep w0 w' R :=
  ⟨h.under.trans (hb.mono h.size), fun r hr => ⟨r.st w w' (fun k hk => hb.block k ((h.each r hr).2 k hk).2) (h.each r hr).1, fun k hk => ⟨((h.each r hr).2 k hk).1, Nat.lt_of_lt_of_le ((h.each r hr).2 k hk).2 hb.size⟩⟩, h.disj⟩
/-- one part more, of new blocks -/
theorem Sep.push {w0 w w' : World} {R : List Rg} (h : Sep w0 w R) (hb : Below w.heap.size w w') (r : Rg) (hr : r.P w') (hn : ∀ k ∈ r.bl, w.heap.size ≤ k ∧ k < w'.heap.size) : Sep w0 w' (r :: R) := by
  have h' := h.below hb
  refine ⟨h'.under, fun s hs => ?_, List.pairwise_cons.2 ⟨fun s hs k hk hks => ?_, h.disj⟩⟩
  · rcases List.mem_cons.1 hs with rfl | hs
    · exact ⟨hr, fun k hk => ⟨Nat.le_trans h.size (hn k hk).1, (hn k hk).2⟩⟩
    · exact h'.each s hs
  · have h1 := (hn k hk).1
    have h2 := ((h.each s hs).2 k hks).2
    omega
/-- fewer parts -/
theorem Sep.sub {w0 w : World} {R R' : List Rg} (h : Sep w0 w R) (hs : R'.Sublist R) : Sep w0 w R' := ⟨h.under, fun r hr => h.each r (hs.subset hr), h.disj.sublist hs⟩
theorem Sep.tail {w0 w : World} {r : Rg} {R : List Rg} (h : Sep w0 w (r :: R)) : Sep w0 w R := h.sub (List.sublist_cons_self _ _)
/-- what was the start may be an elder world -/
theorem Sep.elder {u w0 w : World} {R : List Rg} (h : Sep w0 w R) (hu : Below u.heap.size u w0) : Sep u w R :=
  ⟨hu.trans (h.under.mono hu.size), fun r hr => ⟨(h.each r hr).1, fun k hk => ⟨Nat.le_trans hu.size ((h.each r hr).2 k hk).1, ((h.each r hr).2 k hk).2⟩⟩, h.disj⟩
/-- one part turns -/
theorem Sep.step {w0 w w' : World} {R : List Rg} (h : Sep w0 w R) (i : Nat) {r : Rg} (hi : R[i]? = some r) (hos : w'.os = w.os) (htp : w'.tape = w.tape) (hou : w'.output = w.output) (hsz : w.heap.size ≤ w'.heap.size)
    (hfar : ∀ k, k < w.heap.size → k ∉ r.bl → w'.heap[k]? = w.heap[k]?) (r' : Rg) (hr' : r'.P w') (hb : ∀ k ∈ r'.bl, (k ∈ r.bl ∨ w.heap.size ≤ k) ∧ k < w'.heap.size) : Sep w0 w' (R.set i r') := by
  have hlt := h.lt i hi
  have hil := (List.getElem?_eq_some_iff.1 hi).1
  have hri : R[i] = r := (List.getElem?_eq_some_iff.1 hi).2
  refine ⟨h.under.trans ⟨hos, htp, hou, hsz, fun k hk => hfar k (Nat.lt_of_lt_of_le hk h.size) (fun hm => by have := (hlt k hm).1; omega)⟩, fun s hs => ?_, ?_⟩
  · obtain ⟨j, hj⟩ := List.mem_iff_getElem?.1 hs
    by_cases e : i = j
    · subst e
      rw [List.getElem?_set_self hil] at hj
      obtain rfl := Option.some.inj hj
      refine ⟨hr', fun k hk => ⟨?_, (hb k hk).2⟩⟩
      rcases (hb k hk).1 with h1 | h1
      · exact (hlt k h1).1
      · exact Nat.le_trans h.size h1
    · rw [List.getElem?_set_ne e] at hj
      have hjl := (List.getElem?_eq_some_iff.1 hj).1
      have hsj : R[j] = s := (List.getElem?_eq_some_iff.1 hj).2
      have hm := h.each s (List.mem_of_getElem? hj)
      have hdis : ∀ k ∈ s.bl, k ∉ r.bl := fun k hk hkr => by
        rcases Nat.lt_trichotomy i j with h1 | h1 | h1
        · have := List.pairwise_iff_getElem.1 h.disj i j hil hjl h1
          rw [hri, hsj] at this
          exact this k hkr hk
        · exact e h1
        · have := List.pairwise_iff_getElem.1 h.disj j i hjl hil h1
          rw [hri, hsj] at this
          exact this k hk hkr
      exact ⟨s.st w w' (fun k hk => hfar k (hm.2 k hk).2 (hdis k hk)) hm.1, fun k hk => ⟨(hm.2 k hk).1, Nat.lt_of_lt_of_le (hm.2 k hk).2 hsz⟩⟩
  · rw [List.pairwise_iff_getElem]
    intro a b ha hb' hab
    rw [List.length_set] at ha hb'
    have hp := List.pairwise_iff_getElem.1 h.disj a b ha hb' hab
    have new : ∀ s ∈ R, s ≠ r ∨ True → ∀ k, w.heap.size ≤ k → k ∉ s.bl := fun s hs _ k hk hm => by have := ((h.each s hs).2 k hm).2; omega
    by_cases e1 : i = a
    · subst e1
      have e2 : i ≠ b := by omega
      rw [List.getElem_set_self, List.getElem_set_ne e2]
      intro k hk hm
      rcases (hb k hk).1 with h1 | h1
      · rw [hri] at hp; exact hp k h1 hm
      · exact new R[b] (List.getElem_mem _) (.inr trivial) k h1 hm
    · rw [List.getElem_set_ne e1]
      by_cases e2 : i = b
      · subst e2
        rw [List.getElem_set_self]
        intro k hk hm
        rcases (hb k hm).1 with h1 | h1
        · rw [hri] at hp; exact hp k hk h1
        · exact new R[a] (List.getElem_mem _) (.inr trivial) k h1 hk
      · rw [List.getElem_set_ne e2]
        exact hp
/-- a struct in a block -/
def rB (b : Nat) (vs : List Value) : Rg := ⟨[b], fun w => Blk w b vs, fun w w' hk h => by
  have hb := hk b (by simp)
  exact ⟨fun j v hv => by rw [World.cell?_of_block (w := w) hb]; exact h.1 j v hv, fun j hj => by rw [World.cell?_of_block (w := w) hb, World.frozen?_of_block (w := w) hb]; exact h.2 j hj⟩⟩
def ob (v : Value) : List Nat := match v.ownBlock with | some g => [g] | none => []
theorem mem_ob {v : Value} {k : Nat} : k ∈ ob v ↔ v.ownBlock = some k := by
  unfold ob
  cases v.ownBlock with
  | none => simp
  | some g => simp [eq_comm]
theorem row_st {β : Type} {K : Kd β} {t : TypeId} {base : Nat} {v : Value} {L : List β} {w w' : World} (hk : ∀ k ∈ ob v, w'.heap[k]? = w.heap[k]?) (h : OR K t w base v L) : OR K t w' base v L := by
  obtain ⟨⟨hl, h0 | ⟨g, cap, cur, hv, hB, hh, r⟩⟩⟩ := h
  · exact ⟨⟨hl, .inl h0⟩⟩
  · refine ⟨⟨hl, .inr ⟨g, cap, cur, hv, hB, ?_, r⟩⟩⟩
    rw [hk g (mem_ob.2 (by rw [hv]; rfl))]
    exact hh
/-- an own row -/
def rO {β : Type} (K : Kd β) (t : TypeId) (base : Nat) (v : Value) (L : List β) : Rg := ⟨ob v, fun w => OR K t w base v L, fun w w' hk h => row_st hk h⟩
/-- a chain -/
def rC {α : Type} (F : Vl α) (T : TypeId) (c : Nat) (v : Value) (L : List (C.Vr α)) : Rg := ⟨c :: ob v, fun w => Ch F T w c v L, fun w w' hk h =>
  ⟨(rB c [v]).st w w' (fun k hk' => hk k (by simp only [rB, List.mem_singleton] at hk'; rw [hk']; exact List.mem_cons_self ..)) h.blk, row_st (fun k hk' => hk k (List.mem_cons_of_mem _ hk')) h.own, h.up⟩⟩
section

variable {w0 w w' : World} {R : List Rg}

/-- a new struct -/
theorem Sep.box (h : Sep w0 w R) (hb : Below w.heap.size w w') (hz : w'.heap.size = w.heap.size + 1) {vs : List Value} (hB : Blk w' w.heap.size vs) : Sep w0 w' (rB w.heap.size vs :: R) :=
  h.push hb (rB _ vs) hB (fun k hk => by simp only [rB, List.mem_singleton] at hk; omega)
/-- a struct is written -/
theorem Sep.upd (h : Sep w0 w R) (i : Nat) {b : Nat} {vs us : List Value} (hi : R[i]? = some (rB b vs)) (hu : Upd b w w') (hB : Blk w' b us) : Sep w0 w' (R.set i (rB b us)) := by
  have hl := h.lt i hi b (by simp [rB])
  refine h.step i hi hu.os hu.tape hu.output (Nat.le_of_eq hu.size.symm) (fun k _ hk => hu.far k (fun e => hk (by simp [rB, e]))) (rB b us) hB (fun k hk => ?_)
  simp only [rB, List.mem_singleton] at hk
  subst hk
  exact ⟨.inl (by simp [rB]), by rw [hu.size]; exact hl.2⟩
/-- a new struct, written at once -/
theorem Sep.fresh {w1 w2 : World} (h : Sep w0 w R) (hb : Below w.heap.size w w1) (hz : w1.heap.size = w.heap.size + 1) (hu : Upd w.heap.size w1 w2) {vs : List Value} (hB : Blk w2 w.heap.size vs) : Sep w0 w2 (rB w.heap.size vs :: R) :=
  h.box (hb.trans (hu.below (Nat.le_refl _))) (by rw [hu.size, hz]) hB
/-- a chain turns -/
theorem Sep.chain {α : Type} {F : Vl α} {T : TypeId} {c : Nat} {v v' : Value} {L L' : List (C.Vr α)} (h : Sep w0 w R) (i : Nat) (hi : R[i]? = some (rC F T c v L)) (hc : Ch F T w' c v' L') (ht : Tw c v.ownBlock w w') (hn : Nw w v v') : Sep w0 w' (R.set i (rC F T c v' L')) := by
  have hl := h.lt i hi c (by simp [rC])
  refine h.step i hi ht.os ht.tape ht.output ht.size (fun k hk hm => ht.far k hk (fun e => hm (by simp [rC, e])) (fun e => hm (List.mem_cons_of_mem _ (mem_ob.2 e)))) (rC F T c v' L') hc (fun k hk => ?_)
  simp only [rC, List.mem_cons] at hk
  rcases hk with rfl | hk
  · exact ⟨.inl (by simp [rC]), Nat.lt_of_lt_of_le hl.2 ht.size⟩
  · have hkl := (hc.own.lt (mem_ob.1 hk)).2
    refine ⟨?_, hkl⟩
    rcases hn with hn | hn
    · exact .inl (List.mem_cons_of_mem _ (mem_ob.2 (by rw [← hn]; exact mem_ob.1 hk)))
    · exact .inr (hn k (mem_ob.1 hk))
/-- a new chain -/
theorem Sep.newchain {α : Type} {F : Vl α} {T : TypeId} {v : Value} {L : List (C.Vr α)} (h : Sep w0 w R) (hb : Below w.heap.size w w') (hc : Ch F T w' w.heap.size v L) : Sep w0 w' (rC F T w.heap.size v L :: R) := by
  refine h.push hb _ hc (fun k hk => ?_)
  simp only [rC, List.mem_cons] at hk
  rcases hk with rfl | hk
  · exact ⟨Nat.le_refl _, hc.lt⟩
  · have := hc.own.lt (mem_ob.1 hk)
    omega
/-- a new row -/
theorem Sep.newrow {β : Type} {K : Kd β} {t : TypeId} {v : Value} {L : List β} (h : Sep w0 w R) (hb : Below w.heap.size w w') (hc : OR K t w' w.heap.size v L) : Sep w0 w' (rO K t w.heap.size v L :: R) :=
  h.push hb _ hc (fun k hk => hc.lt (mem_ob.1 hk))
/-- a row with nothing -/
theorem Sep.nilrow {β : Type} (K : Kd β) (t : TypeId) (base : Nat) (h : Sep w0 w R) : Sep w0 w (rO K t base (.slice none 0 0) [] :: R) :=
  h.push (Below.refl _ _) (rO K t base (.slice none 0 0) []) (OR.nil _ _ _) (fun k hk => by
    have h9 : Value.ownBlock (.slice none 0 0) = some k := mem_ob.1 hk
    cases h9)
/-- a row turns -/
theorem Sep.row {β : Type} {K : Kd β} {t : TypeId} {base : Nat} {v v' : Value} {L L' : List β} (h : Sep w0 w R) (i : Nat) (hi : R[i]? = some (rO K t base v L)) (hc : OR K t w' base v' L') (hg : w.grownBy w' v.ownBlock) (hn : Nw w v v') : Sep w0 w' (R.set i (rO K t base v' L')) := by
  refine h.step i hi hg.os hg.tape hg.output hg.size (fun k hk hm => hg.block k hk (fun e => hm (mem_ob.2 e.symm))) (rO K t base v' L') hc (fun k hk => ?_)
  have hk' := mem_ob.1 hk
  refine ⟨?_, (hc.lt hk').2⟩
  rcases hn with hn | hn
  · exact .inl (mem_ob.2 (by rw [← hn]; exact hk'))
  · exact .inr (hn k hk')
theorem Sep.blk (h : Sep w0 w R) (i : Nat) {b : Nat} {vs : List Value} (hi : R[i]? = some (rB b vs)) : Blk w b vs := h.get i hi
theorem Sep.ch {α : Type} {F : Vl α} {T : TypeId} {c : Nat} {v : Value} {L : List (C.Vr α)} (h : Sep w0 w R) (i : Nat) (hi : R[i]? = some (rC F T c v L)) : Ch F T w c v L := h.get i hi
theorem Sep.or {β : Type} {K : Kd β} {t : TypeId} {base : Nat} {v : Value} {L : List β} (h : Sep w0 w R) (i : Nat) (hi : R[i]? = some (rO K t base v L)) : OR K t w base v L := h.get i hi
end

end Go.Proofs.Ytohcdonmdnjgoaa.Se
