/- The order of stamps: it is one, and goes by the numbers. -/
import Derived.Test.YtohcdonmdnjgoaaStampRB

namespace Go.Proofs.Ytohcdonmdnjgoaa.Sp

open Go.Proofs.Ytohcdonmdnjgoaa

set_option linter.unusedVariables false

/-- lists of numbers held against one another, from the first on -/
def lexI : List Int → List Int → Int
  | x :: a, y :: b => if x < y then -1 else if y < x then 1 else lexI a b
  | _, _ => 0
theorem lexI_anti (a b : List Int) : lexI b a = -lexI a b := by
  induction a generalizing b with
  | nil => cases b <;> rfl
  | cons x a ih =>
    cases b with
    | nil => rfl
    | cons y b =>
      simp only [lexI]
      by_cases h1 : x < y
      · rw [if_pos h1, if_neg (by omega), if_pos h1]; rfl
      · by_cases h2 : y < x
        · rw [if_pos h2, if_neg h1, if_pos h2]
        · rw [if_neg h2, if_neg h1, if_neg h1, if_neg h2]; exact ih b
theorem lexI_trans (a b c : List Int) (hab : a.length = b.length) (hbc : b.length = c.length) (h1 : lexI a b ≤ 0) (h2 : lexI b c ≤ 0) : lexI a c ≤ 0 := by
  induction a generalizing b c with
  | nil => simp [lexI]
  | cons x a ih =>
    cases b with
    | nil => simp at hab
    | cons y b =>
      cases c with
      | nil => simp at hbc
      | cons z c =>
        simp only [List.length_cons, Nat.add_right_cancel_iff] at hab hbc
        simp only [lexI] at h1 h2 ⊢
        have := ih b c hab hbc
        split at h1
        · split at h2
          · rw [if_pos (by omega)]; omega
          · split at h2
            · omega
            · rw [if_pos (by omega)]; omega
        · split at h1
          · omega
          · split at h2
            · rw [if_pos (by omega)]; omega
            · split at h2
              · omega
              · rw [if_neg (by omega), if_neg (by omega)]
                exact this h1 h2
def key (a : List Nat) (d : Int) : List Int := (V.sum a : Int) :: d :: a.map (fun (x : Nat) => (x : Int))
theorem cmp_lex (a b : List Nat) (h : a.length = b.length) : T.cmp a b = lexI (a.map fun (x : Nat) => (x : Int)) (b.map fun (x : Nat) => (x : Int)) := by
  induction a generalizing b with
  | nil =>
    cases b with
    | nil => rfl
    | cons y b => simp at h
  | cons x a ih =>
    cases b with
    | nil => simp at h
    | cons y b =>
      simp only [List.length_cons, Nat.add_right_cancel_iff] at h
      simp only [T.cmp, List.map_cons, lexI]
      rw [ih b h]
      by_cases h1 : x < y
      · rw [if_pos h1, if_pos (show (x : Int) < (y : Int) by omega)]
      · rw [if_neg h1, if_neg (show ¬ (x : Int) < (y : Int) by omega)]
        by_cases h2 : y < x
        · rw [if_pos h2, if_pos (show (y : Int) < (x : Int) by omega)]
        · rw [if_neg h2, if_neg (show ¬ (y : Int) < (x : Int) by omega)]
theorem order_key (a b : List Nat) (d e : Int) (h : a.length = b.length) : T.order a d b e = lexI (key a d) (key b e) := by
  unfold T.order T.over key
  simp only [lexI]
  rw [← cmp_lex a b h]
  by_cases hs : T.same a d b e = true
  · rw [if_pos hs]
    simp only [T.same, Bool.and_eq_true, decide_eq_true_eq] at hs
    obtain ⟨rfl, rfl⟩ := hs
    rw [if_neg (Int.lt_irrefl _), if_neg (Int.lt_irrefl _), if_neg (Int.lt_irrefl _), if_neg (Int.lt_irrefl _), T.cmp_self]
  · rw [if_neg hs]
    by_cases h1 : V.sum a = V.sum b
    · rw [if_pos h1, if_neg (show ¬ (V.sum a : Int) < (V.sum b : Int) by omega), if_neg (show ¬ (V.sum b : Int) < (V.sum a : Int) by omega)]
      by_cases h2 : d = e
      · rw [if_pos h2, if_neg (show ¬ d < e by omega), if_neg (show ¬ e < d by omega)]
        rcases T.cmp_cases a b with hc | hc | hc
        · rw [hc]; rfl
        · exact absurd (by simp [T.same, T.cmp_zero a b h hc, h2]) hs
        · rw [hc]; rfl
      · rw [if_neg h2]
        by_cases h3 : d < e
        · rw [if_pos h3, decide_eq_false (show ¬ e < d by omega)]; rfl
        · rw [if_neg h3, if_pos (show e < d by omega), decide_eq_true (show e < d by omega)]; rfl
    · rw [if_neg h1]
      by_cases h3 : V.sum a < V.sum b
      · rw [if_pos (show (V.sum a : Int) < (V.sum b : Int) by omega), decide_eq_false (show ¬ V.sum b < V.sum a by omega)]; rfl
      · rw [if_neg (show ¬ (V.sum a : Int) < (V.sum b : Int) by omega), if_pos (show (V.sum b : Int) < (V.sum a : Int) by omega), decide_eq_true (show V.sum b < V.sum a by omega)]; rfl
theorem order_zero (a b : List Nat) (d e : Int) : (T.order a d b e == 0) = T.same a d b e := by
  unfold T.order
  cases T.same a d b e
  · cases T.over a d b e <;> rfl
  · rfl
theorem key_len (a b : List Nat) (d e : Int) (h : a.length = b.length) : (key a d).length = (key b e).length := by simp [key, h]
theorem order_anti (a b : List Nat) (d e : Int) (h : a.length = b.length) : T.order b e a d = -T.order a d b e := by
  rw [order_key a b d e h, order_key b a e d h.symm]; exact lexI_anti _ _
theorem order_tr (a b c : List Nat) (d e f : Int) (h : a.length = b.length) (k : b.length = c.length) (h1 : T.order a d b e ≤ 0) (h2 : T.order b e c f ≤ 0) : T.order a d c f ≤ 0 := by
  rw [order_key a b d e h] at h1
  rw [order_key b c e f k] at h2
  rw [order_key a c d f (h.trans k)]
  exact lexI_trans _ _ _ (key_len a b d e h) (key_len b c e f k) h1 h2
theorem order_le (a b : List Nat) (d e : Int) : -1 ≤ T.order a d b e ∧ T.order a d b e ≤ 1 := by
  unfold T.order
  split
  · omega
  · split <;> omega
theorem later3 {α : Type} (o : α → α → Int) (x y z : α) (xy : o y x = -o x y) (yz : o z y = -o y z) (zx : o x z = -o z x) (e1 : o x y = 0 → x = y) (e2 : o y z = 0 → y = z) (e3 : o z x = 0 → z = x)
    (t1 : o x y ≤ 0 → o y z ≤ 0 → o x z ≤ 0) (t2 : o y z ≤ 0 → o z x ≤ 0 → o y x ≤ 0) (t3 : o z y ≤ 0 → o y x ≤ 0 → o z x ≤ 0) :
    (if 0 < o x (if 0 < o y z then y else z) then x else (if 0 < o y z then y else z)) = (if 0 < o (if 0 < o z x then z else x) y then (if 0 < o z x then z else x) else y) := by
  by_cases q : 0 < o y z
  · by_cases r : 0 < o z x
    · simp only [if_pos q, if_pos r]
      rw [if_neg (show ¬ 0 < o z y by omega)]
      by_cases p : 0 < o x y
      · exact absurd (t3 (by omega) (by omega)) (by omega)
      · rw [if_neg p]
    · simp only [if_pos q, if_neg r]
  · by_cases r : 0 < o z x
    · simp only [if_neg q, if_pos r]
      rw [if_neg (show ¬ 0 < o x z by omega)]
      by_cases p : 0 < o z y
      · rw [if_pos p]
      · rw [if_neg p]; exact (e2 (by omega)).symm
    · simp only [if_neg q, if_neg r]
      by_cases p : 0 < o x y
      · rw [if_pos p]
        by_cases k : 0 < o x z
        · rw [if_pos k]
        · rw [if_neg k]; exact e3 (by omega)
      · have h1 := t1 (by omega) (by omega)
        have h2 := t2 (by omega) (by omega)
        have ex := e1 (by omega)
        have ez := e3 (by omega)
        rw [if_neg p, if_neg (show ¬ 0 < o x z by omega), ez, ex]
theorem same_eq {a b : List Nat} {d e : Int} (h : T.same a d b e = true) : (a, d) = (b, e) := by
  simp only [T.same, Bool.and_eq_true, decide_eq_true_eq] at h
  rw [h.1, h.2]
theorem later_three (a b c : List Nat) (d e f : Int) (ha : a.length = 4) (hb : b.length = 4) (hc : c.length = 4) :
    T.later a d (T.later b e c f).1 (T.later b e c f).2 = T.later (T.later c f a d).1 (T.later c f a d).2 b e := by
  have k := later3 (fun (p q : List Nat × Int) => T.order p.1 p.2 q.1 q.2) (a, d) (b, e) (c, f) (order_anti a b d e (by rw [ha, hb])) (order_anti b c e f (by rw [hb, hc])) (order_anti c a f d (by rw [hc, ha]))
    (fun h => same_eq (by rw [← order_zero]; exact beq_iff_eq.2 h)) (fun h => same_eq (by rw [← order_zero]; exact beq_iff_eq.2 h)) (fun h => same_eq (by rw [← order_zero]; exact beq_iff_eq.2 h))
    (order_tr a b c d e f (by rw [ha, hb]) (by rw [hb, hc])) (order_tr b c a e f d (by rw [hb, hc]) (by rw [hc, ha])) (order_tr c b a f e d (by rw [hc, hb]) (by rw [hb, ha]))
  have key : ∀ (a b : List Nat) (d e : Int), T.later a d b e = if 0 < T.order a d b e then (a, d) else (b, e) := fun _ _ _ _ => rfl
  rw [key a _ d _, key _ b _ e, key b c e f, key c a f d]
  exact k
theorem later_len {a b : List Nat} {d e : Int} (ha : a.length = 4) (hb : b.length = 4) : (T.later a d b e).1.length = 4 := by
  unfold T.later
  split
  · exact ha
  · exact hb
theorem order_seen {a b : List Nat} {d e : Int} (ha : a.length = 4) (hb : b.length = 4) (r1 : T.right a d = true) (r2 : T.right b e = true) (hl : V.leq a b = true) (hn : a ≠ b) : T.order a d b e < 0 := by
  have hs := V.sum_less ha hb (T.right_known r1).1 (T.right_known r2).1 (by simpa using hn) hl
  unfold T.order T.over
  rw [if_neg (by simp [T.same, hn]), if_neg (show ¬ V.sum a = V.sum b by omega), decide_eq_false (show ¬ V.sum b < V.sum a by omega)]
  decide
end Go.Proofs.Ytohcdonmdnjgoaa.Sp
