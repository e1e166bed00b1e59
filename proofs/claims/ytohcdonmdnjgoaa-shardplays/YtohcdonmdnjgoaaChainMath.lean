/- The plain mathematics of chains: versions by their stamps, rising; nothing of the program. -/
import Derived.Test.YtohcdonmdnjgoaaStampOrd

namespace Go.Proofs.Ytohcdonmdnjgoaa.C

open Go.Proofs.Ytohcdonmdnjgoaa

set_option linter.unusedVariables false

set_option linter.unusedSectionVars false

/-- a stamp: numbers, and whose -/
abbrev St := List Nat × Int
abbrev Vr (α : Type) := St × α
def ord (s t : St) : Int := T.order s.1 s.2 t.1 t.2
def right (s : St) : Bool := T.right s.1 s.2
def seen (s : St) (h : List Nat) : Bool := V.leq s.1 h
theorem ord_zero {s t : St} : ord s t = 0 ↔ s = t := by
  have h := Sp.order_zero s.1 t.1 s.2 t.2
  unfold ord
  constructor
  · intro e
    rw [e] at h
    have h2 : T.same s.1 s.2 t.1 t.2 = true := by rw [← h]; rfl
    unfold T.same at h2
    simp only [Bool.and_eq_true, decide_eq_true_eq] at h2
    exact Prod.ext h2.1 h2.2
  · rintro rfl
    have h2 : T.same s.1 s.2 s.1 s.2 = true := by unfold T.same; simp
    rw [h2] at h
    exact eq_of_beq h
theorem ord_self (s : St) : ord s s = 0 := ord_zero.2 rfl
theorem ord_anti {s t : St} (h : s.1.length = t.1.length) : ord t s = -ord s t := Sp.order_anti s.1 t.1 s.2 t.2 h
theorem ord_tr {s t u : St} (h : s.1.length = t.1.length) (k : t.1.length = u.1.length) (h1 : ord s t ≤ 0) (h2 : ord t u ≤ 0) : ord s u ≤ 0 := Sp.order_tr _ _ _ _ _ _ h k h1 h2
theorem ord_lt {s t u : St} (h : s.1.length = t.1.length) (k : t.1.length = u.1.length) (h1 : ord s t < 0) (h2 : ord t u ≤ 0) : ord s u < 0 := by
  have h3 := ord_tr h k (by omega) h2
  rcases Int.lt_or_eq_of_le h3 with h4 | h4
  · exact h4
  · have e := ord_zero.1 h4
    subst e
    have := ord_anti h
    omega
theorem ord_lt2 {s t u : St} (h : s.1.length = t.1.length) (k : t.1.length = u.1.length) (h1 : ord s t ≤ 0) (h2 : ord t u < 0) : ord s u < 0 := by
  have h3 := ord_tr h k h1 (by omega)
  rcases Int.lt_or_eq_of_le h3 with h4 | h4
  · exact h4
  · have e := ord_zero.1 h4
    subst e
    have := ord_anti h
    omega
section

variable {α : Type}

/-- rising, each a vector of four -/
structure Up (l : List (Vr α)) : Prop where
  four : ∀ x ∈ l, x.1.1.length = 4
  up : l.Pairwise fun x y => ord x.1 y.1 < 0
theorem Up.nil : Up ([] : List (Vr α)) := ⟨fun _ h => (by cases h), .nil⟩
theorem Up.tail {x : Vr α} {l : List (Vr α)} (h : Up (x :: l)) : Up l := ⟨fun y hy => h.four y (List.mem_cons_of_mem _ hy), (List.pairwise_cons.1 h.up).2⟩
theorem Up.filter {l : List (Vr α)} (h : Up l) (p : Vr α → Bool) : Up (l.filter p) := ⟨fun y hy => h.four y (List.mem_filter.1 hy).1, h.up.filter p⟩
theorem Up.one {l : List (Vr α)} (h : Up l) {x y : Vr α} (hx : x ∈ l) (hy : y ∈ l) (e : x.1 = y.1) : x = y := by
  induction l with
  | nil => cases hx
  | cons z l ih =>
    have hp := (List.pairwise_cons.1 h.up).1
    rcases List.mem_cons.1 hx with rfl | hx' <;> rcases List.mem_cons.1 hy with rfl | hy'
    · rfl
    · have := hp y hy'; rw [e, ord_self] at this; omega
    · have := hp x hx'; rw [e, ord_self] at this; omega
    · exact ih h.tail hx' hy'
/-- where a stamp stands, or would -/
def pos (l : List (Vr α)) (s : St) : Nat := (l.takeWhile fun x => decide (ord x.1 s < 0)).length
def has (l : List (Vr α)) (s : St) : Bool := l.any fun x => decide (x.1 = s)
def ins (l : List (Vr α)) (s : St) (v : α) : List (Vr α) := l.take (pos l s) ++ (s, v) :: l.drop (pos l s)
def add (l : List (Vr α)) (s : St) (v : α) : List (Vr α) × Bool := if right s = true ∧ has l s = false then (ins l s v, true) else (l, false)
def read (l : List (Vr α)) (h : List Nat) : Option (Vr α) := (l.filter fun x => seen x.1 h).getLast?
/-- what is left by a pruning -/
def keep (l : List (Vr α)) (h : List Nat) : List (Vr α) :=
  match read l h with
  | none => l
  | some b => l.filter fun x => !seen x.1 h || decide (x.1 = b.1)
theorem pos_nil (s : St) : pos ([] : List (Vr α)) s = 0 := rfl
theorem pos_lt (x : Vr α) (l : List (Vr α)) (s : St) (h : ord x.1 s < 0) : pos (x :: l) s = pos l s + 1 := by
  unfold pos; rw [List.takeWhile_cons_of_pos (by simpa using h)]; rfl
theorem pos_ge (x : Vr α) (l : List (Vr α)) (s : St) (h : ¬ ord x.1 s < 0) : pos (x :: l) s = 0 := by
  unfold pos; rw [List.takeWhile_cons_of_neg (by simpa using h)]; rfl
theorem pos_le (l : List (Vr α)) (s : St) : pos l s ≤ l.length := by
  induction l with
  | nil => exact Nat.le_refl _
  | cons x l ih =>
    by_cases h : ord x.1 s < 0
    · rw [pos_lt x l s h]; exact Nat.succ_le_succ ih
    · rw [pos_ge x l s h]; omega
theorem pos_under (l : List (Vr α)) (s : St) : ∀ i x, i < pos l s → l[i]? = some x → ord x.1 s < 0 := by
  induction l with
  | nil => intro i x h _; cases h
  | cons y l ih =>
    intro i x hi hx
    by_cases h : ord y.1 s < 0
    · match i, hx with
      | 0, hx => simp at hx; subst hx; exact h
      | i + 1, hx => exact ih i x (by rw [pos_lt y l s h] at hi; omega) (by simpa using hx)
    · rw [pos_ge y l s h] at hi; omega
theorem pos_at (l : List (Vr α)) (s : St) : ∀ x, l[pos l s]? = some x → ¬ ord x.1 s < 0 := by
  induction l with
  | nil => intro x h; cases h
  | cons y l ih =>
    intro x hx
    by_cases h : ord y.1 s < 0
    · rw [pos_lt y l s h] at hx; exact ih x (by simpa using hx)
    · rw [pos_ge y l s h] at hx; simp at hx; subst hx; exact h
/-- the first place whose stamp is not under s is pos -/
theorem pos_is (l : List (Vr α)) (s : St) (n : Nat) (hn : n ≤ l.length) (h1 : ∀ i x, i < n → l[i]? = some x → ord x.1 s < 0) (h2 : ∀ x, l[n]? = some x → ¬ ord x.1 s < 0) : pos l s = n := by
  rcases Nat.lt_trichotomy (pos l s) n with h | h | h
  · obtain ⟨x, hx⟩ : ∃ x, l[pos l s]? = some x := ⟨_, List.getElem?_eq_getElem (by omega)⟩
    exact absurd (h1 _ x h hx) (pos_at l s x hx)
  · exact h
  · have := pos_le l s
    obtain ⟨x, hx⟩ : ∃ x, l[n]? = some x := ⟨_, List.getElem?_eq_getElem (by omega)⟩
    exact absurd (pos_under l s n x h hx) (h2 x hx)
theorem ins_lt (x : Vr α) (l : List (Vr α)) (s : St) (v : α) (h : ord x.1 s < 0) : ins (x :: l) s v = x :: ins l s v := by
  unfold ins; rw [pos_lt x l s h]; rfl
theorem ins_ge (x : Vr α) (l : List (Vr α)) (s : St) (v : α) (h : ¬ ord x.1 s < 0) : ins (x :: l) s v = (s, v) :: x :: l := by
  unfold ins; rw [pos_ge x l s h]; rfl
theorem mem_ins (l : List (Vr α)) (s : St) (v : α) (x : Vr α) : x ∈ ins l s v ↔ x = (s, v) ∨ x ∈ l := by
  unfold ins
  rw [List.mem_append, List.mem_cons]
  have h : x ∈ l ↔ x ∈ l.take (pos l s) ∨ x ∈ l.drop (pos l s) := by rw [← List.mem_append, List.take_append_drop]
  rw [h]
  constructor
  · rintro (h | h | h)
    · exact .inr (.inl h)
    · exact .inl h
    · exact .inr (.inr h)
  · rintro (h | h | h)
    · exact .inr (.inl h)
    · exact .inl h
    · exact .inr (.inr h)
theorem ins_len (l : List (Vr α)) (s : St) (v : α) : (ins l s v).length = l.length + 1 := by
  unfold ins
  have := pos_le l s
  rw [List.length_append, List.length_cons, List.length_take, List.length_drop]
  omega
theorem has_iff (l : List (Vr α)) (s : St) : has l s = true ↔ ∃ x ∈ l, x.1 = s := by unfold has; simp
theorem has_not (l : List (Vr α)) (s : St) : has l s = false ↔ ∀ x ∈ l, x.1 ≠ s := by
  rw [← Bool.not_eq_true, has_iff]
  exact ⟨fun h x hx e => h ⟨x, hx, e⟩, fun h ⟨x, hx, e⟩ => h x hx e⟩
/-- a stamp is there if it stands at its place -/
theorem has_pos {l : List (Vr α)} (hl : Up l) (s : St) (hs : s.1.length = 4) : has l s = true ↔ ∃ x, l[pos l s]? = some x ∧ x.1 = s := by
  induction l with
  | nil => simp [has]
  | cons y l ih =>
    have hy := hl.four y (List.mem_cons_self ..)
    by_cases h : ord y.1 s < 0
    · rw [pos_lt y l s h]
      have e : has (y :: l) s = has l s := by
        unfold has
        rw [List.any_cons, decide_eq_false (fun e => by rw [e, ord_self] at h; omega), Bool.false_or]
      rw [e, ih hl.tail]
      simp
    · rw [pos_ge y l s h]
      constructor
      · intro hh
        obtain ⟨x, hx, e⟩ := (has_iff _ _).1 hh
        rcases List.mem_cons.1 hx with rfl | hx
        · exact ⟨x, rfl, e⟩
        · have := (List.pairwise_cons.1 hl.up).1 x hx
          rw [e] at this
          exact absurd this h
      · rintro ⟨x, hx, e⟩
        simp at hx
        subst hx
        exact (has_iff _ _).2 ⟨_, List.mem_cons_self .., e⟩
theorem Up.ins {l : List (Vr α)} (h : Up l) (s : St) (v : α) (hs : s.1.length = 4) (hn : has l s = false) : Up (ins l s v) := by
  induction l with
  | nil => exact ⟨fun x hx => (by rcases (mem_ins _ _ _ _).1 hx with rfl | h9; exact hs; cases h9), List.pairwise_singleton _ _⟩
  | cons y l ih =>
    have hy := h.four y (List.mem_cons_self ..)
    have hn' := (has_not _ _).1 hn
    refine ⟨fun x hx => (by rcases (mem_ins _ _ _ _).1 hx with rfl | h9; exact hs; exact h.four x h9), ?_⟩
    by_cases hlt : ord y.1 s < 0
    · rw [ins_lt y l s v hlt, List.pairwise_cons]
      refine ⟨fun x hx => ?_, (ih h.tail ((has_not _ _).2 fun x hx => hn' x (List.mem_cons_of_mem _ hx))).up⟩
      rcases (mem_ins _ _ _ _).1 hx with rfl | h9
      · exact hlt
      · exact (List.pairwise_cons.1 h.up).1 x h9
    · rw [ins_ge y l s v hlt, List.pairwise_cons]
      have hsy : ord s y.1 < 0 := by
        have h0 : ord y.1 s ≠ 0 := fun e => hn' y (List.mem_cons_self ..) (ord_zero.1 e)
        have := ord_anti (s := y.1) (t := s) (by rw [hy, hs])
        omega
      refine ⟨fun x hx => ?_, h.up⟩
      rcases List.mem_cons.1 hx with rfl | hx
      · exact hsy
      · have h1 := (List.pairwise_cons.1 h.up).1 x hx
        exact ord_lt (by rw [hs, hy]) (by rw [hy, h.four x (List.mem_cons_of_mem _ hx)]) hsy (by omega)
theorem Up.add {l : List (Vr α)} (h : Up l) (s : St) (v : α) (hs : s.1.length = 4) : Up (add l s v).1 := by
  unfold C.add
  split
  · exact h.ins s v hs (by rename_i e; exact e.2)
  · exact h
/-- rising lists of the same versions are the same -/
theorem Up.ext {l m : List (Vr α)} (hl : Up l) (hm : Up m) (h : ∀ x, x ∈ l ↔ x ∈ m) : l = m := by
  induction l generalizing m with
  | nil =>
    cases m with
    | nil => rfl
    | cons y m => exact absurd ((h y).2 (List.mem_cons_self ..)) (by simp)
  | cons x l ih =>
    cases m with
    | nil => exact absurd ((h x).1 (List.mem_cons_self ..)) (by simp)
    | cons y m =>
      have hx := hl.four x (List.mem_cons_self ..)
      have hy := hm.four y (List.mem_cons_self ..)
      have pl := (List.pairwise_cons.1 hl.up).1
      have pm := (List.pairwise_cons.1 hm.up).1
      have exy : x = y := by
        rcases List.mem_cons.1 ((h x).1 (List.mem_cons_self ..)) with e | h1
        · exact e
        · rcases List.mem_cons.1 ((h y).2 (List.mem_cons_self ..)) with e | h2
          · exact e.symm
          · have a1 := pm x h1
            have a2 := pl y h2
            have := ord_anti (s := x.1) (t := y.1) (by rw [hx, hy])
            omega
      subst exy
      congr 1
      refine ih hl.tail hm.tail fun z => ?_
      constructor
      · intro hz
        rcases List.mem_cons.1 ((h z).1 (List.mem_cons_of_mem _ hz)) with e | h1
        · have := pl z hz; rw [e, ord_self] at this; omega
        · exact h1
      · intro hz
        rcases List.mem_cons.1 ((h z).2 (List.mem_cons_of_mem _ hz)) with e | h1
        · have := pm z hz; rw [e, ord_self] at this; omega
        · exact h1
theorem Up.last {l : List (Vr α)} (hl : Up l) {x : Vr α} (h : l.getLast? = some x) : x ∈ l ∧ ∀ y ∈ l, ord y.1 x.1 ≤ 0 := by
  refine ⟨List.mem_of_getLast? h, ?_⟩
  induction l with
  | nil => cases h
  | cons z l ih =>
    intro y hy
    cases l with
    | nil =>
      simp at h hy
      subst h; subst hy
      rw [ord_self]; exact Int.le_refl _
    | cons z' l =>
      rw [List.getLast?_cons_cons] at h
      rcases List.mem_cons.1 hy with rfl | hy
      · have := (List.pairwise_cons.1 hl.up).1 x (List.mem_of_getLast? h); omega
      · exact ih hl.tail h y hy
theorem read_none {l : List (Vr α)} {h : List Nat} : read l h = none ↔ ∀ x ∈ l, seen x.1 h = false := by
  unfold read
  rw [List.getLast?_eq_none_iff, List.filter_eq_nil_iff]
  simp
theorem Up.read {l : List (Vr α)} (hl : Up l) {h : List Nat} {x : Vr α} (e : read l h = some x) : x ∈ l ∧ seen x.1 h = true ∧ ∀ y ∈ l, seen y.1 h = true → ord y.1 x.1 ≤ 0 := by
  obtain ⟨h1, h2⟩ := (hl.filter _).last e
  have h3 := List.mem_filter.1 h1
  exact ⟨h3.1, h3.2, fun y hy hs => h2 y (List.mem_filter.2 ⟨hy, hs⟩)⟩
/-- it is the one that is over all others -/
theorem Up.read_is {l : List (Vr α)} (hl : Up l) {h : List Nat} {x : Vr α} (h1 : x ∈ l) (h2 : seen x.1 h = true) (h3 : ∀ y ∈ l, seen y.1 h = true → ord y.1 x.1 ≤ 0) : C.read l h = some x := by
  cases e : C.read l h with
  | none => rw [read_none.1 e x h1] at h2; cases h2
  | some y =>
    obtain ⟨a1, a2, a3⟩ := hl.read e
    have b1 := a3 x h1 h2
    have b2 := h3 y a1 a2
    have := ord_anti (s := x.1) (t := y.1) (by rw [hl.four x h1, hl.four y a1])
    rw [hl.one a1 h1 (ord_zero.1 (by omega))]
theorem keep_none {l : List (Vr α)} {h : List Nat} (e : read l h = none) : keep l h = l := by unfold keep; rw [e]
theorem keep_some {l : List (Vr α)} {h : List Nat} {b : Vr α} (e : read l h = some b) : keep l h = l.filter fun x => !seen x.1 h || decide (x.1 = b.1) := by unfold keep; rw [e]
theorem Up.keep {l : List (Vr α)} (hl : Up l) (h : List Nat) : Up (keep l h) := by
  cases e : C.read l h with
  | none => rw [keep_none e]; exact hl
  | some b => rw [keep_some e]; exact hl.filter _
theorem mem_keep {l : List (Vr α)} {h : List Nat} {b : Vr α} (e : read l h = some b) (x : Vr α) : x ∈ keep l h ↔ x ∈ l ∧ (seen x.1 h = false ∨ x.1 = b.1) := by
  rw [keep_some e, List.mem_filter]; simp
/-- what is read at the horizon, or beyond it, is as it was -/
theorem Up.read_keep {l : List (Vr α)} (hl : Up l) {h f : List Nat} (hf : ∀ s : St, s.1.length = 4 → seen s h = true → seen s f = true) : C.read (C.keep l h) f = C.read l f := by
  cases e : C.read l h with
  | none => rw [keep_none e]
  | some b =>
    obtain ⟨a1, a2, a3⟩ := hl.read e
    cases e2 : C.read l f with
    | none => have := read_none.1 e2 b a1; rw [hf _ (hl.four b a1) a2] at this; cases this
    | some y =>
      obtain ⟨c1, c2, c3⟩ := hl.read e2
      have hb := hf _ (hl.four b a1) a2
      refine (hl.keep h).read_is ((mem_keep e y).2 ⟨c1, ?_⟩) c2 fun z hz hs => c3 z ((mem_keep e z).1 hz).1 hs
      cases hy : seen y.1 h with
      | false => exact .inl rfl
      | true =>
        have b1 := a3 y c1 hy
        have b2 := c3 b a1 hb
        have := ord_anti (s := y.1) (t := b.1) (by rw [hl.four y c1, hl.four b a1])
        exact .inr (ord_zero.1 (by omega))
/-- pruned again, nothing goes -/
theorem Up.keep_keep {l : List (Vr α)} (hl : Up l) (h : List Nat) : C.keep (C.keep l h) h = C.keep l h := by
  cases e : C.read l h with
  | none => rw [keep_none e, keep_none e]
  | some b =>
    have e2 : C.read (C.keep l h) h = some b := by rw [hl.read_keep fun s _ hs => hs, e]
    refine ((hl.keep h).keep h).ext (hl.keep h) fun x => ?_
    rw [mem_keep e2, mem_keep e]
    exact ⟨fun h9 => h9.1, fun h9 => ⟨h9, h9.2⟩⟩
/-- of what is seen at the horizon one is left at most -/
theorem Up.keep_seen {l : List (Vr α)} (hl : Up l) (h : List Nat) : (C.keep l h).filter (fun x => seen x.1 h) = (C.read l h).toList := by
  cases e : C.read l h with
  | none =>
    rw [keep_none e]
    unfold C.read at e
    rw [List.getLast?_eq_none_iff] at e
    rw [e]; rfl
  | some b =>
    obtain ⟨a1, a2, a3⟩ := hl.read e
    refine ((hl.keep h).filter _).ext ⟨fun x hx => ?_, List.pairwise_singleton _ _⟩ fun x => ?_
    · simp at hx; subst hx; exact hl.four _ a1
    · rw [List.mem_filter, mem_keep e]
      simp only [Option.toList_some, List.mem_singleton]
      constructor
      · rintro ⟨⟨h1, h2⟩, h3⟩
        rcases h2 with h2 | h2
        · rw [h2] at h3; cases h3
        · exact hl.one h1 a1 h2
      · rintro rfl
        exact ⟨⟨a1, .inr rfl⟩, a2⟩
/-- versions added one by one -/
def adds (L : List (Vr α)) : List (Vr α) := L.foldl (fun l x => (add l x.1 x.2).1) []
theorem adds_snoc (L : List (Vr α)) (x : Vr α) : adds (L ++ [x]) = (add (adds L) x.1 x.2).1 := by unfold adds; rw [List.foldl_append]; rfl
theorem snoc_ind {β : Type} {P : List β → Prop} (h0 : P []) (h1 : ∀ L x, P L → P (L ++ [x])) (L : List β) : P L := by
  have h : ∀ M : List β, P M.reverse := by
    intro M
    induction M with
    | nil => exact h0
    | cons x M ih => rw [List.reverse_cons]; exact h1 _ _ ih
  have := h L.reverse
  rwa [List.reverse_reverse] at this
theorem Up.adds (L : List (Vr α)) (h : ∀ x ∈ L, x.1.1.length = 4) : Up (C.adds L) := by
  induction L using snoc_ind with
  | h0 => exact Up.nil
  | h1 L x ih => rw [adds_snoc]; exact (ih fun y hy => h y (List.mem_append_left _ hy)).add _ _ (h x (by simp))
theorem mem_add (l : List (Vr α)) (s : St) (v : α) (x : Vr α) : x ∈ (add l s v).1 ↔ x ∈ l ∨ (x = (s, v) ∧ right s = true ∧ has l s = false) := by
  unfold add
  by_cases h : right s = true ∧ has l s = false
  · rw [if_pos h, mem_ins]
    exact ⟨fun h9 => h9.elim (fun e => .inr ⟨e, h⟩) .inl, fun h9 => h9.elim .inr fun e => .inl e.1⟩
  · rw [if_neg h]
    exact ⟨.inl, fun h9 => h9.elim id fun e => absurd e.2 h⟩
/-- versions whose values go by their stamps: all that were added are there -/
theorem mem_adds (f : St → α) (L : List St) (h : ∀ s ∈ L, right s = true) (x : Vr α) : x ∈ C.adds (L.map fun s => (s, f s)) ↔ ∃ s ∈ L, x = (s, f s) := by
  induction L using snoc_ind generalizing x with
  | h0 => simp [C.adds]
  | h1 L s ih =>
    have ih := ih fun t ht => h t (List.mem_append_left _ ht)
    have hs := h s (by simp)
    rw [List.map_append, List.map_cons, List.map_nil, adds_snoc, mem_add, ih]
    constructor
    · rintro (⟨t, ht, e⟩ | ⟨e, _⟩)
      · exact ⟨t, List.mem_append_left _ ht, e⟩
      · exact ⟨s, by simp, e⟩
    · rintro ⟨t, ht, e⟩
      rcases List.mem_append.1 ht with ht | ht
      · exact .inl ⟨t, ht, e⟩
      · simp only [List.mem_singleton] at ht
        subst ht
        cases hh : has (C.adds (L.map fun s => (s, f s))) t with
        | false => exact .inr ⟨e, hs, rfl⟩
        | true =>
          obtain ⟨y, hy, e2⟩ := (has_iff _ _).1 hh
          obtain ⟨u, hu, e3⟩ := (ih y).1 hy
          refine .inl ⟨t, ?_, e⟩
          rw [e3] at e2
          rw [← e2]
          exact hu
/-- in whatever order -/
theorem adds_alike (f : St → α) (L M : List St) (hL : ∀ s ∈ L, right s = true ∧ s.1.length = 4) (h : ∀ s, s ∈ L ↔ s ∈ M) : C.adds (L.map fun s => (s, f s)) = C.adds (M.map fun s => (s, f s)) := by
  have hM : ∀ s ∈ M, right s = true ∧ s.1.length = 4 := fun s hs => hL s ((h s).2 hs)
  have u1 : ∀ x ∈ L.map (fun s => (s, f s)), x.1.1.length = 4 := fun x hx => by
    obtain ⟨s, hs, rfl⟩ := List.mem_map.1 hx
    exact (hL s hs).2
  have u2 : ∀ x ∈ M.map (fun s => (s, f s)), x.1.1.length = 4 := fun x hx => by
    obtain ⟨s, hs, rfl⟩ := List.mem_map.1 hx
    exact (hM s hs).2
  refine (Up.adds _ u1).ext (Up.adds _ u2) fun x => ?_
  rw [mem_adds f L (fun s hs => (hL s hs).1), mem_adds f M (fun s hs => (hM s hs).1)]
  exact ⟨fun ⟨s, hs, e⟩ => ⟨s, (h s).1 hs, e⟩, fun ⟨s, hs, e⟩ => ⟨s, (h s).2 hs, e⟩⟩
/-- found from the end -/
theorem read_at (l : List (Vr α)) (h : List Nat) (i : Nat) (x : Vr α) (hx : l[i]? = some x) (hs : seen x.1 h = true) (hn : ∀ j y, i < j → l[j]? = some y → seen y.1 h = false) : read l h = some x := by
  have hi : i < l.length := by
    rcases Nat.lt_or_ge i l.length with h9 | h9
    · exact h9
    · rw [List.getElem?_eq_none h9] at hx; cases hx
  have e : l = l.take i ++ x :: l.drop (i + 1) := by
    rw [List.getElem?_eq_getElem hi] at hx
    have e9 : l[i] = x := Option.some.inj hx
    rw [← e9, ← List.drop_eq_getElem_cons hi, List.take_append_drop]
  have hd : (l.drop (i + 1)).filter (fun x => seen x.1 h) = [] := by
    rw [List.filter_eq_nil_iff]
    intro y hy
    obtain ⟨k, hk⟩ := List.mem_iff_getElem?.1 hy
    rw [List.getElem?_drop] at hk
    rw [hn (i + 1 + k) y (by omega) hk]
    simp
  unfold read
  rw [e, List.filter_append, List.filter_cons_of_pos (p := fun x : Vr α => seen x.1 h) hs, hd]
  simp
/-- a pruning, version by version -/
theorem filter_take {β : Type} (l : List β) (p : β → Bool) (i : Nat) (x : β) (hx : l[i]? = some x) : (l.take (i + 1)).filter p = (l.take i).filter p ++ if p x then [x] else [] := by
  rw [List.take_add_one, hx, List.filter_append]
  cases h : p x <;> simp [h]
end

/-- each stamp has one version, the first that was added -/
structure Held (l : List (Vr Nat)) (ms : List St) : Prop where
  up : Up l
  idx : ∀ x ∈ l, ms[x.2]? = some x.1
  all : ∀ s, has l s = true ↔ s ∈ ms ∧ right s = true
theorem Held.nil : Held [] [] := ⟨Up.nil, fun _ h => (by cases h), fun s => by simp [has]⟩
theorem Held.want {l : List (Vr Nat)} {ms : List St} (h : Held l ms) (s : St) (v : Nat) : (add l s v).2 = (right s && !decide (s ∈ ms)) := by
  unfold add
  cases hr : right s with
  | false => rw [if_neg (fun h9 => by cases h9.1)]; rfl
  | true =>
    by_cases hm : s ∈ ms
    · rw [if_neg (fun h9 => by rw [(h.all s).2 ⟨hm, hr⟩] at h9; cases h9.2), decide_eq_true hm]; rfl
    · have : has l s = false := by rw [← Bool.not_eq_true]; exact fun e => hm ((h.all s).1 e).1
      rw [if_pos ⟨rfl, this⟩, decide_eq_false hm]; rfl
theorem add_len {α : Type} (l : List (Vr α)) (s : St) (v : α) : (add l s v).1.length = l.length + if (add l s v).2 = true then 1 else 0 := by
  unfold add
  split
  · rw [ins_len]; rfl
  · rfl
theorem Held.step {l : List (Vr Nat)} {ms : List St} (h : Held l ms) (s : St) (hs : s.1.length = 4) : Held (add l s ms.length).1 (ms ++ [s]) := by
  refine ⟨h.up.add _ _ hs, fun x hx => ?_, fun t => ?_⟩
  · rcases (mem_add _ _ _ _).1 hx with h1 | ⟨rfl, _⟩
    · have h2 := h.idx x h1
      have h3 : x.2 < ms.length := by
        rcases Nat.lt_or_ge x.2 ms.length with h9 | h9
        · exact h9
        · rw [List.getElem?_eq_none h9] at h2; cases h2
      rw [List.getElem?_append_left h3]; exact h2
    · rw [List.getElem?_append_right (Nat.le_refl _)]; simp
  · rw [has_iff]
    constructor
    · rintro ⟨x, hx, rfl⟩
      rcases (mem_add _ _ _ _).1 hx with h1 | ⟨rfl, h2, _⟩
      · have := (h.all x.1).1 ((has_iff _ _).2 ⟨x, h1, rfl⟩)
        exact ⟨List.mem_append_left _ this.1, this.2⟩
      · exact ⟨by simp, h2⟩
    · rintro ⟨hm, hr⟩
      rcases List.mem_append.1 hm with hm | hm
      · obtain ⟨x, hx, e⟩ := (has_iff _ _).1 ((h.all t).2 ⟨hm, hr⟩)
        exact ⟨x, (mem_add _ _ _ _).2 (.inl hx), e⟩
      · simp only [List.mem_singleton] at hm
        subst hm
        cases hh : has l t with
        | true =>
          obtain ⟨x, hx, e⟩ := (has_iff _ _).1 hh
          exact ⟨x, (mem_add _ _ _ _).2 (.inl hx), e⟩
        | false => exact ⟨(t, ms.length), (mem_add _ _ _ _).2 (.inr ⟨rfl, hr, hh⟩), rfl⟩
end Go.Proofs.Ytohcdonmdnjgoaa.C
