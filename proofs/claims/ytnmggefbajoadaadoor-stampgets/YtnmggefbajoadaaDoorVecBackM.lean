/- What was put is read; cut it is none; numbers and texts of vectors are each of one vector alone: plain mathematics. -/
import Derived.Test.YtnmggefbajoadaaDoorVecText

namespace Go.Proofs.YtnmggefbajoadaaDoor.V

set_option linter.unusedVariables false

theorem RV_put (n : Nat) (t : List UInt8) (h : n < 2 ^ 64) : P.RV (P.S (P.vary n ++ t)) false = (n, P.S t, false) := by
  unfold P.RV
  rw [P.S_list]
  simp only [Bool.false_eq_true, if_false]
  rw [P.rvary_vary n t h]
  rfl
theorem rd_bad (k : Nat) (s : ByteArray) : (rd k s true).2.2 = true := by
  induction k generalizing s with
  | zero => rfl
  | succ k ih =>
    have e : P.RV s true = (0, ⟨#[]⟩, true) := rfl
    simp only [rd, e]
    exact ih _
theorem put_cons (x : Nat) (l : List Nat) : put (x :: l) = P.vary x ++ put l := by simp [put]
theorem rd_put (l : List Nat) (t : List UInt8) (h : ∀ x ∈ l, x < 2 ^ 64) : rd l.length (P.S (put l ++ t)) false = (l, P.S t, false) := by
  induction l with
  | nil => rfl
  | cons x l ih =>
    have e := RV_put x (put l ++ t) (h x (by simp))
    rw [put_cons, List.append_assoc, List.length_cons, rd, e, ih (fun y hy => h y (by simp [hy]))]
theorem RV_cut (n j : Nat) (h : j < (P.vary n).length) : (P.RV (P.S ((P.vary n).take j)) false).2.2 = true := by
  unfold P.RV
  rw [P.S_list]
  simp only [Bool.false_eq_true, if_false]
  rw [P.vary_cut n j h]
  rfl
theorem rd_cut (l : List Nat) (m : Nat) (h : ∀ x ∈ l, x < 2 ^ 64) (hm : m < (put l).length) : (rd l.length (P.S ((put l).take m)) false).2.2 = true := by
  induction l generalizing m with
  | nil => simp [put] at hm
  | cons x l ih =>
    rw [put_cons] at hm ⊢
    rw [List.length_cons, rd]
    by_cases hj : m < (P.vary x).length
    · rw [List.take_append_of_le_length (by omega), RV_cut x m hj]
      exact rd_bad _ _
    · have e1 : (P.vary x ++ put l).take m = P.vary x ++ (put l).take (m - (P.vary x).length) := by
        rw [List.take_append, List.take_of_length_le (by omega)]
      rw [e1, RV_put x _ (h x (by simp))]
      rw [List.length_append] at hm
      exact ih _ (fun y hy => h y (by simp [hy])) (by omega)
theorem gets_put {a : List Nat} (h : Ok a) (t : ByteArray) : gets (P.S (put a) ++ t) false = if right a then (a, t, false) else (zeros, ⟨#[]⟩, true) := by
  have e : P.S (put a) ++ t = P.S (put a ++ t.data.toList) := by rw [← P.S_append, P.S_of]
  have hr := rd_put a t.data.toList h.lt
  rw [h.len, P.S_of] at hr
  unfold gets
  rw [e, hr]
  cases right a <;> simp
theorem gets_cut {a : List Nat} (h : Ok a) (m : Nat) (hm : m < (put a).length) : gets ((P.S (put a)).extract 0 m) false = (zeros, ⟨#[]⟩, true) := by
  have hc := rd_cut a m h.lt hm
  rw [h.len] at hc
  unfold gets
  rw [P.ext_head, P.S_list, if_pos (Or.inl hc)]
theorem put_inj {a b : List Nat} (ha : Ok a) (hb : Ok b) : decide (P.S (put a) = P.S (put b)) = decide (a = b) := by
  apply decide_eq_decide.2
  refine ⟨fun h => ?_, fun h => by rw [h]⟩
  have h' := (P.S_inj _ _).1 h
  have h1 := rd_put a [] ha.lt
  have h2 := rd_put b [] hb.lt
  rw [ha.len] at h1
  rw [hb.len] at h2
  rw [h', h2] at h1
  exact (Prod.mk.inj h1).1.symm
theorem put_pos {a : List Nat} (h : a.length = 4) : 0 < (put a).length ∧ (put a).length ≤ 40 := by
  obtain ⟨x, y, z, t, rfl⟩ := four h
  have h1 := P.vary_pos x
  have h2 := P.vary_le x
  have h3 := P.vary_le y
  have h4 := P.vary_le z
  have h5 := P.vary_le t
  simp only [put, List.map_cons, List.map_nil, List.flatten_cons, List.flatten_nil, List.length_append, List.length_nil]
  omega
/-- what digits tell -/
def val10 (l : List UInt8) : Nat := l.foldl (fun a b => 10 * a + (b.toNat - 48)) 0
theorem val10_snoc (l : List UInt8) (b : UInt8) : val10 (l ++ [b]) = 10 * val10 l + (b.toNat - 48) := by simp [val10, List.foldl_append]
theorem digs_val (u : Nat) : val10 (Fm.digs u) = u := by
  unfold Fm.digs
  induction u using Nat.strongRecOn with
  | _ u ih =>
    rw [Lib.decDigits]
    split
    · rename_i h
      simp [val10, UInt8.toNat_ofNat']
      omega
    · rename_i h
      rw [val10_snoc, ih (u / 10) (by omega), UInt8.toNat_ofNat']
      omega
theorem digs_byte (u : Nat) : ∀ b ∈ Fm.digs u, b ≠ 44 := by
  unfold Fm.digs
  induction u using Nat.strongRecOn with
  | _ u ih =>
    rw [Lib.decDigits]
    have key : ∀ n : Nat, n < 10 → UInt8.ofNat (48 + n) ≠ 44 := by decide
    split
    · rename_i h
      intro b hb
      simp only [List.mem_cons, List.not_mem_nil, or_false] at hb
      rw [hb]
      exact key u h
    · rename_i h
      intro b hb
      rcases List.mem_append.1 hb with hb | hb
      · exact ih (u / 10) (by omega) b hb
      · simp only [List.mem_cons, List.not_mem_nil, or_false] at hb
        rw [hb]
        exact key (u % 10) (by omega)
theorem digs_inj {a b : Nat} (h : Fm.digs a = Fm.digs b) : a = b := by rw [← digs_val a, ← digs_val b, h]
theorem comma {a b r s : List UInt8} (ha : ∀ x ∈ a, x ≠ 44) (hb : ∀ x ∈ b, x ≠ 44) (h : a ++ 44 :: r = b ++ 44 :: s) : a = b ∧ r = s := by
  induction a generalizing b with
  | nil =>
    cases b with
    | nil => simpa using h
    | cons y b => simp at h; exact absurd h.1.symm (hb y (by simp))
  | cons x a ih =>
    cases b with
    | nil => simp at h; exact absurd h.1 (ha x (by simp))
    | cons y b =>
      simp only [List.cons_append, List.cons.injEq] at h
      have := ih (b := b) (fun z hz => ha z (by simp [hz])) (fun z hz => hb z (by simp [hz])) h.2
      exact ⟨by rw [h.1, this.1], this.2⟩
theorem text_four (a b c d : Nat) : Vc.text [a, b, c, d] = Fm.digs a ++ 44 :: (Fm.digs b ++ 44 :: (Fm.digs c ++ 44 :: Fm.digs d)) := by
  simp [Vc.text, Lib.join, List.intercalate]
theorem text_inj {a b : List Nat} (ha : a.length = 4) (hb : b.length = 4) : decide (P.S (Vc.text a) = P.S (Vc.text b)) = decide (a = b) := by
  apply decide_eq_decide.2
  refine ⟨fun h => ?_, fun h => by rw [h]⟩
  have h' := (P.S_inj _ _).1 h
  obtain ⟨a0, a1, a2, a3, rfl⟩ := four ha
  obtain ⟨b0, b1, b2, b3, rfl⟩ := four hb
  rw [text_four, text_four] at h'
  obtain ⟨e0, h1⟩ := comma (digs_byte _) (digs_byte _) h'
  obtain ⟨e1, h2⟩ := comma (digs_byte _) (digs_byte _) h1
  obtain ⟨e2, e3⟩ := comma (digs_byte _) (digs_byte _) h2
  rw [digs_inj e0, digs_inj e1, digs_inj e2, digs_inj e3]
theorem tol_eq (a b : ByteArray) : (a.toList == b.toList) = decide (a = b) := by
  rw [ByteArray.toList_eq, ByteArray.toList_eq, Bool.eq_iff_iff]
  rw [decide_eq_true_iff, beq_iff_eq, ← P.S_inj, P.S_of, P.S_of]
theorem empty_not (s : ByteArray) (h : s.size ≠ 0) : s.toList.isEmpty = false := by
  rw [ByteArray.toList_eq, List.isEmpty_eq_false_iff]
  intro e
  apply h
  have : s.data.toList.length = s.size := by rw [Array.length_toList]; rfl
  rw [← this, e]; rfl
end Go.Proofs.YtnmggefbajoadaaDoor.V
