/- The plain mathematics of vectors: lists of four numbers; nothing of the program. -/
import Derived.Test.YtkiaehehckmpnaaPackMath

namespace Go.Proofs.Ytkiaehehckmpnaa.V

set_option linter.unusedVariables false

/-- four numbers, each of 64 bits -/
structure Ok (l : List Nat) : Prop where
  len : l.length = 4
  lt : ∀ x ∈ l, x < 2 ^ 64
def join (a b : List Nat) : List Nat := List.zipWith max a b
def meet (a b : List Nat) : List Nat := List.zipWith min a b
def leq (a b : List Nat) : Bool := decide (join a b = b)
def right (a : List Nat) : Bool := a.all fun x => decide (x ≤ 1152921504606846976)
def zeros : List Nat := [0, 0, 0, 0]
def known (dc : Int) : Bool := decide (1 ≤ dc ∧ dc ≤ 4)
def with_ (a : List Nat) (dc : Int) (n : Nat) : List Nat := if known dc then a.set (dc - 1).toNat n else a
def at_ (a : List Nat) (dc : Int) : Nat := if known dc then a.getD (dc - 1).toNat 0 else 0
def sum (a : List Nat) : Nat := a.foldl (fun t x => (t + x) % 2 ^ 64) 0
def all : List (List Nat) → List Nat
  | [] => zeros
  | a :: l => l.foldl meet a
def few (a : List Nat) (own : Bool) : List Nat := if own then a.map (· % 4) else a
theorem four {l : List Nat} (h : l.length = 4) : ∃ a b c d, l = [a, b, c, d] := by
  match l, h with
  | [a, b, c, d], _ => exact ⟨a, b, c, d, rfl⟩
theorem fill_step (r : List Nat) (j : Nat) (h : r.length = 4) (hj : j < 4) : (r.take j ++ List.replicate (4 - j) 0).set j (r.getD j 0) = r.take (j + 1) ++ List.replicate (4 - (j + 1)) 0 := by
  obtain ⟨a, b, c, d, rfl⟩ := four h
  match j, hj with
  | 0, _ => rfl
  | 1, _ => rfl
  | 2, _ => rfl
  | 3, _ => rfl
theorem zeros_ok : Ok zeros := ⟨rfl, by decide⟩
theorem join_length {a b : List Nat} (ha : a.length = 4) (hb : b.length = 4) : (join a b).length = 4 := by simp [join, ha, hb]
theorem meet_length {a b : List Nat} (ha : a.length = 4) (hb : b.length = 4) : (meet a b).length = 4 := by simp [meet, ha, hb]
theorem join_ok {a b : List Nat} (ha : Ok a) (hb : Ok b) : Ok (join a b) := by
  refine ⟨join_length ha.len hb.len, fun x hx => ?_⟩
  obtain ⟨a0, a1, a2, a3, rfl⟩ := four ha.len
  obtain ⟨b0, b1, b2, b3, rfl⟩ := four hb.len
  have h1 := ha.lt
  have h2 := hb.lt
  simp only [List.mem_cons, List.not_mem_nil, or_false, forall_eq_or_imp, forall_eq] at h1 h2
  simp only [join, List.zipWith_cons_cons, List.zipWith_nil_right, List.mem_cons, List.not_mem_nil, or_false] at hx
  rcases hx with rfl | rfl | rfl | rfl <;> omega
theorem meet_ok {a b : List Nat} (ha : Ok a) (hb : Ok b) : Ok (meet a b) := by
  refine ⟨meet_length ha.len hb.len, fun x hx => ?_⟩
  obtain ⟨a0, a1, a2, a3, rfl⟩ := four ha.len
  obtain ⟨b0, b1, b2, b3, rfl⟩ := four hb.len
  have h1 := ha.lt
  have h2 := hb.lt
  simp only [List.mem_cons, List.not_mem_nil, or_false, forall_eq_or_imp, forall_eq] at h1 h2
  simp only [meet, List.zipWith_cons_cons, List.zipWith_nil_right, List.mem_cons, List.not_mem_nil, or_false] at hx
  rcases hx with rfl | rfl | rfl | rfl <;> omega
theorem few_ok {a : List Nat} (h : Ok a) (own : Bool) : Ok (few a own) := by
  unfold few
  split
  · refine ⟨by rw [List.length_map]; exact h.len, fun x hx => ?_⟩
    obtain ⟨y, hy, rfl⟩ := List.mem_map.1 hx
    have := h.lt y hy
    omega
  · exact h
theorem known_iff (dc : Int) : known dc = true ↔ 1 ≤ dc ∧ dc ≤ 4 := by simp [known]
theorem with_ok {a : List Nat} (h : Ok a) (dc : Int) (n : Nat) (hn : n < 2 ^ 64) : Ok (with_ a dc n) := by
  unfold with_
  split
  · refine ⟨by rw [List.length_set]; exact h.len, fun x hx => ?_⟩
    rcases List.mem_or_eq_of_mem_set hx with hx | rfl
    · exact h.lt x hx
    · exact hn
  · exact h
theorem at_lt {a : List Nat} (h : Ok a) (dc : Int) : at_ a dc < 2 ^ 64 := by
  unfold at_
  split
  · by_cases hi : (dc - 1).toNat < a.length
    · rw [List.getD_eq_getElem?_getD, List.getElem?_eq_getElem hi]
      exact h.lt _ (List.getElem_mem hi)
    · rw [List.getD_eq_getElem?_getD, List.getElem?_eq_none (by omega)]; decide
  · decide
theorem all_ok (l : List (List Nat)) (h : ∀ a ∈ l, Ok a) : Ok (all l) := by
  cases l with
  | nil => exact zeros_ok
  | cons a l =>
    have key : ∀ (l : List (List Nat)) (a : List Nat), Ok a → (∀ x ∈ l, Ok x) → Ok (l.foldl meet a) := by
      intro l
      induction l with
      | nil => intro a ha _; exact ha
      | cons x l ih => intro a ha hl; exact ih _ (meet_ok ha (hl x (by simp))) (fun y hy => hl y (by simp [hy]))
    exact key l a (h a (by simp)) (fun x hx => h x (by simp [hx]))
theorem leq_iff (a0 a1 a2 a3 b0 b1 b2 b3 : Nat) : leq [a0, a1, a2, a3] [b0, b1, b2, b3] = true ↔ a0 ≤ b0 ∧ a1 ≤ b1 ∧ a2 ≤ b2 ∧ a3 ≤ b3 := by
  simp only [leq, join, List.zipWith_cons_cons, List.zipWith_nil_right, decide_eq_true_eq, List.cons.injEq, and_true]
  omega
theorem right_iff (a0 a1 a2 a3 : Nat) : right [a0, a1, a2, a3] = true ↔ a0 ≤ 1152921504606846976 ∧ a1 ≤ 1152921504606846976 ∧ a2 ≤ 1152921504606846976 ∧ a3 ≤ 1152921504606846976 := by
  simp [right]
theorem sum_lt (a : List Nat) (h : a ≠ []) : sum a < 2 ^ 64 := by
  have key : ∀ (l : List Nat) (t : Nat), t < 2 ^ 64 → l.foldl (fun t x => (t + x) % 2 ^ 64) t < 2 ^ 64 := by
    intro l
    induction l with
    | nil => intro t ht; exact ht
    | cons x l ih => intro t _; exact ih _ (Nat.mod_lt _ (by decide))
  exact key a 0 (by decide)
theorem right_not (a : List Nat) (j : Nat) (hj : j < a.length) (h : 1152921504606846976 < a.getD j 0) : right a = false := by
  rw [List.getD_eq_getElem?_getD, List.getElem?_eq_getElem hj] at h
  rw [right, List.all_eq_false]
  exact ⟨a[j], List.getElem_mem hj, by simpa using h⟩
theorem right_all (a : List Nat) (ha : a.length = 4) (h : ∀ k, k < 4 → a.getD k 0 ≤ 1152921504606846976) : right a = true := by
  obtain ⟨x, y, z, t, rfl⟩ := four ha
  exact (right_iff x y z t).2 ⟨h 0 (by decide), h 1 (by decide), h 2 (by decide), h 3 (by decide)⟩
theorem getD_lt {a : List Nat} (h : Ok a) (j : Nat) : a.getD j 0 < 2 ^ 64 := by
  by_cases hi : j < a.length
  · rw [List.getD_eq_getElem?_getD, List.getElem?_eq_getElem hi]
    exact h.lt _ (List.getElem_mem hi)
  · rw [List.getD_eq_getElem?_getD, List.getElem?_eq_none (by omega)]; decide
theorem take_step (a : List Nat) (j : Nat) (h : j < a.length) : a.take (j + 1) = a.take j ++ [a.getD j 0] := by
  rw [List.take_succ_eq_append_getElem h, List.getD_eq_getElem?_getD, List.getElem?_eq_getElem h]; rfl
theorem sum_step (a : List Nat) (j : Nat) (h : j < a.length) : sum (a.take (j + 1)) = (sum (a.take j) + a.getD j 0) % 2 ^ 64 := by
  rw [take_step a j h, sum, List.foldl_append]; rfl
def put (a : List Nat) : List UInt8 := (a.map P.vary).flatten
theorem put_step (a : List Nat) (j : Nat) (h : j < a.length) : put (a.take (j + 1)) = put (a.take j) ++ P.vary (a.getD j 0) := by
  rw [take_step a j h, put, List.map_append, List.flatten_append]; simp [put]
/-- so many numbers are read, one behind the other -/
def rd : Nat → ByteArray → Bool → List Nat × ByteArray × Bool
  | 0, s, b => ([], s, b)
  | k + 1, s, b => ((P.RV s b).1 :: (rd k (P.RV s b).2.1 (P.RV s b).2.2).1, (rd k (P.RV s b).2.1 (P.RV s b).2.2).2)
/-- what Get tells, and the reader behind it -/
def gets (s : ByteArray) (b : Bool) : List Nat × ByteArray × Bool :=
  if (rd 4 s b).2.2 = true ∨ right (rd 4 s b).1 = false then (zeros, ⟨#[]⟩, true) else rd 4 s b
theorem RV_size (s : ByteArray) (b : Bool) (n : Nat) (t : ByteArray) (b' : Bool) (h : P.RV s b = (n, t, b')) : t.size ≤ s.size ∧ n < 2 ^ 64 := by
  cases b' with
  | true => obtain ⟨rfl, rfl, _⟩ := P.RV_none s b n t h; exact ⟨Nat.zero_le _, by decide⟩
  | false => obtain ⟨_, _, h1, h2⟩ := P.RV_some s b n t h; exact ⟨by omega, h1⟩
theorem rd_ok (k : Nat) (s : ByteArray) (b : Bool) : (rd k s b).1.length = k ∧ (∀ x ∈ (rd k s b).1, x < 2 ^ 64) ∧ (rd k s b).2.1.size ≤ s.size := by
  induction k generalizing s b with
  | zero => exact ⟨rfl, fun x hx => absurd hx (List.not_mem_nil), Nat.le_refl _⟩
  | succ k ih =>
    rcases hv : P.RV s b with ⟨n, t, b'⟩
    have h1 := RV_size s b n t b' hv
    have h2 := ih t b'
    simp only [rd, hv, List.length_cons, List.mem_cons, forall_eq_or_imp]
    exact ⟨by rw [h2.1], ⟨h1.2, h2.2.1⟩, by omega⟩
theorem gets_ok (s : ByteArray) (b : Bool) : Ok (gets s b).1 ∧ (gets s b).2.1.size ≤ s.size := by
  unfold gets
  split
  · exact ⟨zeros_ok, Nat.zero_le _⟩
  · have := rd_ok 4 s b
    exact ⟨⟨this.1, this.2.1⟩, this.2.2⟩
theorem right_join {a b : List Nat} (ha : a.length = 4) (hb : b.length = 4) (h1 : right a = true) (h2 : right b = true) : right (join a b) = true := by
  obtain ⟨a0, a1, a2, a3, rfl⟩ := four ha
  obtain ⟨b0, b1, b2, b3, rfl⟩ := four hb
  rw [right_iff] at h1 h2
  simp only [join, List.zipWith_cons_cons, List.zipWith_nil_right]
  rw [right_iff]
  omega
theorem leq_trans {a b c : List Nat} (ha : a.length = 4) (hb : b.length = 4) (hc : c.length = 4) (h1 : leq a b = true) (h2 : leq b c = true) : leq a c = true := by
  obtain ⟨a0, a1, a2, a3, rfl⟩ := four ha
  obtain ⟨b0, b1, b2, b3, rfl⟩ := four hb
  obtain ⟨c0, c1, c2, c3, rfl⟩ := four hc
  rw [leq_iff] at h1 h2 ⊢
  omega
theorem leq_both {a b : List Nat} (ha : a.length = 4) (hb : b.length = 4) : (leq a b && leq b a) = decide (a = b) := by
  obtain ⟨a0, a1, a2, a3, rfl⟩ := four ha
  obtain ⟨b0, b1, b2, b3, rfl⟩ := four hb
  rw [Bool.eq_iff_iff, Bool.and_eq_true, leq_iff, leq_iff, decide_eq_true_iff]
  simp only [List.cons.injEq, and_true]
  omega
theorem leq_zeros {a : List Nat} (ha : a.length = 4) : leq zeros a = true := by
  obtain ⟨a0, a1, a2, a3, rfl⟩ := four ha
  unfold zeros
  rw [leq_iff]
  omega
theorem leq_refl {a : List Nat} (ha : a.length = 4) : leq a a = true := by
  obtain ⟨a0, a1, a2, a3, rfl⟩ := four ha
  rw [leq_iff]
  omega
theorem sum_four (a b c d : Nat) : sum [a, b, c, d] = (a + b + c + d) % 2 ^ 64 := by
  simp only [sum, List.foldl_cons, List.foldl_nil]
  omega
theorem sum_less {a b : List Nat} (ha : a.length = 4) (hb : b.length = 4) (r1 : right a = true) (r2 : right b = true) (hn : decide (a = b) = false) (hl : leq a b = true) : sum a < sum b := by
  obtain ⟨a0, a1, a2, a3, rfl⟩ := four ha
  obtain ⟨b0, b1, b2, b3, rfl⟩ := four hb
  rw [right_iff] at r1 r2
  rw [leq_iff] at hl
  rw [decide_eq_false_iff_not] at hn
  simp only [List.cons.injEq, and_true] at hn
  rw [sum_four, sum_four]
  omega
theorem with_length {a : List Nat} (h : a.length = 4) (dc : Int) (n : Nat) : (with_ a dc n).length = 4 := by
  unfold with_
  split
  · rw [List.length_set]; exact h
  · exact h
theorem at_with {a : List Nat} (h : a.length = 4) (dc : Int) (n k : Nat) (h1 : 1 ≤ k) (h4 : k ≤ 4) : at_ (with_ a dc n) k = if (k : Int) = dc then n else at_ a k := by
  have hk : known (k : Int) = true := (known_iff _).2 ⟨by omega, by omega⟩
  have ek : ((k : Int) - 1).toNat = k - 1 := by omega
  unfold at_ with_
  simp only [hk, if_true, ek]
  by_cases e : (k : Int) = dc
  · rw [if_pos e, ← e, hk, if_pos rfl, ek, List.getD_eq_getElem?_getD, List.getElem?_set_self (by omega)]
    rfl
  · rw [if_neg e]
    by_cases hd : known dc = true
    · rw [hd, if_pos rfl, List.getD_eq_getElem?_getD, List.getElem?_set_ne (by have := (known_iff dc).1 hd; omega), ← List.getD_eq_getElem?_getD]
    · rw [if_neg hd]
theorem with_none (a : List Nat) (dc : Int) (n : Nat) (h : known dc = false) : with_ a dc n = a := by
  unfold with_; rw [h]; rfl
theorem at_none (a : List Nat) (dc : Int) (h : known dc = false) : at_ a dc = 0 := by
  unfold at_; rw [h]; rfl
theorem with_back {a : List Nat} (h : a.length = 4) (dc : Int) (n : Nat) (hk : known dc = true) : with_ (with_ a dc n) dc (at_ a dc) = a := by
  have := (known_iff dc).1 hk
  have hi : (dc - 1).toNat < a.length := by omega
  unfold with_ at_
  simp only [hk, if_true]
  rw [List.set_set, List.getD_eq_getElem?_getD, List.getElem?_eq_getElem hi]
  simp
/-- the first j of one list, then what the other has behind them -/
def mid (r a : List Nat) (j : Nat) : List Nat := r.take j ++ a.drop j
theorem mid_len {r a : List Nat} (hr : r.length = 4) (ha : a.length = 4) (j : Nat) : (mid r a j).length = 4 := by simp [mid, hr, ha]; omega
theorem mid_zero (r a : List Nat) : mid r a 0 = a := by simp [mid]
theorem mid_four {r a : List Nat} (hr : r.length = 4) (ha : a.length = 4) : mid r a 4 = r := by
  obtain ⟨a0, a1, a2, a3, rfl⟩ := four ha
  obtain ⟨b0, b1, b2, b3, rfl⟩ := four hr
  rfl
theorem mid_at {r a : List Nat} (hr : r.length = 4) (ha : a.length = 4) (j : Nat) (hj : j < 4) : (mid r a j).getD j 0 = a.getD j 0 := by
  obtain ⟨a0, a1, a2, a3, rfl⟩ := four ha
  obtain ⟨b0, b1, b2, b3, rfl⟩ := four hr
  match j, hj with
  | 0, _ => rfl
  | 1, _ => rfl
  | 2, _ => rfl
  | 3, _ => rfl
theorem mid_step {r a : List Nat} (hr : r.length = 4) (ha : a.length = 4) (j : Nat) (hj : j < 4) : (mid r a j).set j (r.getD j 0) = mid r a (j + 1) := by
  obtain ⟨a0, a1, a2, a3, rfl⟩ := four ha
  obtain ⟨b0, b1, b2, b3, rfl⟩ := four hr
  match j, hj with
  | 0, _ => rfl
  | 1, _ => rfl
  | 2, _ => rfl
  | 3, _ => rfl
theorem join_at {a b : List Nat} (ha : a.length = 4) (hb : b.length = 4) (j : Nat) (hj : j < 4) : (join a b).getD j 0 = max (a.getD j 0) (b.getD j 0) := by
  obtain ⟨a0, a1, a2, a3, rfl⟩ := four ha
  obtain ⟨b0, b1, b2, b3, rfl⟩ := four hb
  match j, hj with
  | 0, _ => rfl
  | 1, _ => rfl
  | 2, _ => rfl
  | 3, _ => rfl
theorem meet_at {a b : List Nat} (ha : a.length = 4) (hb : b.length = 4) (j : Nat) (hj : j < 4) : (meet a b).getD j 0 = min (a.getD j 0) (b.getD j 0) := by
  obtain ⟨a0, a1, a2, a3, rfl⟩ := four ha
  obtain ⟨b0, b1, b2, b3, rfl⟩ := four hb
  match j, hj with
  | 0, _ => rfl
  | 1, _ => rfl
  | 2, _ => rfl
  | 3, _ => rfl
theorem leq_all {a b : List Nat} (ha : a.length = 4) (hb : b.length = 4) (h : ∀ k, k < 4 → a.getD k 0 ≤ b.getD k 0) : leq a b = true := by
  obtain ⟨a0, a1, a2, a3, rfl⟩ := four ha
  obtain ⟨b0, b1, b2, b3, rfl⟩ := four hb
  exact (leq_iff ..).2 ⟨h 0 (by decide), h 1 (by decide), h 2 (by decide), h 3 (by decide)⟩
theorem leq_not {a b : List Nat} (ha : a.length = 4) (hb : b.length = 4) (j : Nat) (hj : j < 4) (h : b.getD j 0 < a.getD j 0) : leq a b = false := by
  rw [Bool.eq_false_iff]
  intro hl
  have hw := join_at ha hb j hj
  rw [leq, decide_eq_true_eq] at hl
  rw [hl] at hw
  omega
end Go.Proofs.Ytkiaehehckmpnaa.V
