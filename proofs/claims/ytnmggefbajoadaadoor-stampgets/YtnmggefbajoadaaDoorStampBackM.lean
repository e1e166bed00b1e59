/- What was put of a stamp is read; cut it is none; bytes and texts of stamps are each of one alone: plain mathematics. -/
import Derived.Test.YtnmggefbajoadaaDoorStampC

import Derived.Test.YtnmggefbajoadaaDoorVecBackM

namespace Go.Proofs.YtnmggefbajoadaaDoor.T

set_option linter.unusedVariables false

theorem RN_put (n : Nat) (t : List UInt8) (h : n < 256) : P.RN (P.S (P.numB n 1 ++ t)) false 1 = (n, P.S t, false) := by
  unfold P.RN
  rw [P.S_list]
  simp only [Bool.false_eq_true, if_false]
  have := P.rnum_numB n 1 t (by omega) (by omega) (by omega)
  rw [show (1 : Int) = ((1 : Nat) : Int) from rfl, this]
  rfl
theorem puts_right {a : List Nat} {d : Int} (h : right a d = true) : puts a d = P.S (P.numB d.toNat 1 ++ V.put a) := by
  unfold puts
  rw [if_pos h]
  rfl
theorem puts_size {a : List Nat} {d : Int} (ha : a.length = 4) (h : right a d = true) : (puts a d).size = 1 + (V.put a).length := by
  rw [puts_right h, P.S_size, List.length_append, P.numB_length]
theorem gets_put {a : List Nat} {d : Int} (ha : V.Ok a) (h : right a d = true) (t : ByteArray) : gets (puts a d ++ t) false = (a, d, t, false) := by
  obtain ⟨h0, h1, h4, _⟩ := right_known h
  have e : puts a d ++ t = P.S (P.numB d.toNat 1 ++ (V.put a ++ t.data.toList)) := by
    rw [puts_right h, ← List.append_assoc]
    have k := P.S_append (P.numB d.toNat 1 ++ V.put a) t.data.toList
    rw [P.S_of] at k
    exact k
  have hr := RN_put d.toNat (V.put a ++ t.data.toList) (by omega)
  have hg : V.gets (P.S (V.put a ++ t.data.toList)) false = (a, t, false) := by
    have := V.gets_put ha t
    rw [h0] at this
    rw [← P.S_append, P.S_of]
    exact this
  have hd : ((d.toNat : Nat) : Int) = d := by omega
  unfold gets
  rw [e, hr]
  simp only [hg, hd, h]
  simp
theorem gets_cut {a : List Nat} {d : Int} (ha : V.Ok a) (h : right a d = true) (m : Nat) (hm : m < (puts a d).size) : gets ((puts a d).extract 0 m) false = (V.zeros, 0, ⟨#[]⟩, true) := by
  obtain ⟨h0, h1, h4, _⟩ := right_known h
  have hs := puts_size ha.len h
  rw [puts_right h, P.S_extract]
  simp only [List.drop_zero]
  cases m with
  | zero =>
    have e1 : P.RN (P.S ((P.numB d.toNat 1 ++ V.put a).take 0)) false 1 = (0, ⟨#[]⟩, true) := rfl
    unfold gets
    rw [e1]
    have hb : (V.gets ⟨#[]⟩ true).2.2 = true := by
      unfold V.gets
      rw [if_pos (Or.inl (V.rd_bad 4 _))]
    rw [if_pos (Or.inl hb)]
  | succ k =>
    have e1 : (P.numB d.toNat 1 ++ V.put a).take (k + 1) = P.numB d.toNat 1 ++ (V.put a).take k := by
      rw [List.take_append, P.numB_length, List.take_of_length_le (by rw [P.numB_length]; omega)]
      rfl
    have hc := V.gets_cut ha k (by omega)
    rw [P.ext_head, P.S_list] at hc
    unfold gets
    rw [e1, RN_put d.toNat _ (by omega)]
    simp only [hc]
    simp
theorem puts_inj {a b : List Nat} {d e : Int} (ha : V.Ok a) (hb : V.Ok b) (r1 : right a d = true) (r2 : right b e = true) : decide (puts a d = puts b e) = same a d b e := by
  unfold same
  rw [← Bool.decide_and]
  apply decide_eq_decide.2
  refine ⟨fun h => ?_, fun h => by rw [h.1, h.2]⟩
  have h1 := gets_put ha r1 ⟨#[]⟩
  have h2 := gets_put hb r2 ⟨#[]⟩
  rw [h, h2] at h1
  simp only [Prod.mk.injEq] at h1
  exact ⟨h1.1.symm, h1.2.1.symm⟩
theorem digs_at (u : Nat) : ∀ b ∈ Fm.digs u, b ≠ 64 := by
  unfold Fm.digs
  induction u using Nat.strongRecOn with
  | _ u ih =>
    rw [Lib.decDigits]
    have key : ∀ n : Nat, n < 10 → UInt8.ofNat (48 + n) ≠ 64 := by decide
    split
    · rename_i h
      intro b hb
      simp only [List.mem_cons, List.not_mem_nil, or_false] at hb
      rw [hb]
      exact key u h
    · rename_i h
      intro b hb
      rcases List.mem_append.1 hb with hb | hb
      · exact ih (u / 10) (by omega) b hb
      · simp only [List.mem_cons, List.not_mem_nil, or_false] at hb
        rw [hb]
        exact key (u % 10) (by omega)
theorem split_at {a b r s : List UInt8} (ha : ∀ x ∈ a, x ≠ 64) (hb : ∀ x ∈ b, x ≠ 64) (h : a ++ 64 :: r = b ++ 64 :: s) : a = b ∧ r = s := by
  induction a generalizing b with
  | nil =>
    cases b with
    | nil => simpa using h
    | cons y b => simp at h; exact absurd h.1.symm (hb y (by simp))
  | cons x a ih =>
    cases b with
    | nil => simp at h; exact absurd h.1 (ha x (by simp))
    | cons y b =>
      simp only [List.cons_append, List.cons.injEq] at h
      have := ih (b := b) (fun z hz => ha z (by simp [hz])) (fun z hz => hb z (by simp [hz])) h.2
      exact ⟨by rw [h.1, this.1], this.2⟩
theorem text_inj {a b : List Nat} {d e : Nat} (ha : a.length = 4) (hb : b.length = 4) : decide (P.S (text a (d : Int)) = P.S (text b (e : Int))) = same a (d : Int) b (e : Int) := by
  unfold same
  rw [← Bool.decide_and]
  apply decide_eq_decide.2
  refine ⟨fun h => ?_, fun h => by rw [h.1, h.2]⟩
  have h' := (P.S_inj _ _).1 h
  unfold text at h'
  rw [Lib.itoa_nonneg, Lib.itoa_nonneg, List.append_assoc, List.append_assoc] at h'
  obtain ⟨h1, h2⟩ := split_at (digs_at d) (digs_at e) h'
  have h3 := V.text_inj ha hb
  rw [show Vc.text a = Vc.text b from h2, decide_eq_true rfl] at h3
  exact ⟨of_decide_eq_true h3.symm, by rw [V.digs_inj h1]⟩
end Go.Proofs.YtnmggefbajoadaaDoor.T
