/- What was put of a stamp is read; cut it is none; bytes of stamps are each of one alone: plain mathematics. -/
import Derived.Test.YtkfcbihofipcbaaStampC

import Derived.Test.YtkfcbihofipcbaaVecBackP

namespace Go.Proofs.Ytkfcbihofipcbaa.T

set_option linter.unusedVariables false

theorem RN_put (n : Nat) (t : List UInt8) (h : n < 256) : P.RN (P.S (P.numB n 1 ++ t)) false 1 = (n, P.S t, false) := by
  unfold P.RN
  rw [P.S_list]
  simp only [Bool.false_eq_true, if_false]
  have := P.rnum_numB n 1 t (by omega) (by omega) (by omega)
  rw [show (1 : Int) = ((1 : Nat) : Int) from rfl, this]
  rfl
theorem puts_right {a : List Nat} {d : Int} (h : right a d = true) : puts a d = P.S (P.numB d.toNat 1 ++ V.put a) := by
  unfold puts
  rw [if_pos h]
  rfl
theorem puts_size {a : List Nat} {d : Int} (ha : a.length = 4) (h : right a d = true) : (puts a d).size = 1 + (V.put a).length := by
  rw [puts_right h, P.S_size, List.length_append, P.numB_length]
theorem gets_put {a : List Nat} {d : Int} (ha : V.Ok a) (h : right a d = true) (t : ByteArray) : gets (puts a d ++ t) false = (a, d, t, false) := by
  obtain ⟨h0, h1, h4, _⟩ := right_known h
  have e : puts a d ++ t = P.S (P.numB d.toNat 1 ++ (V.put a ++ t.data.toList)) := by
    rw [puts_right h, ← List.append_assoc]
    have k := P.S_append (P.numB d.toNat 1 ++ V.put a) t.data.toList
    rw [P.S_of] at k
    exact k
  have hr := RN_put d.toNat (V.put a ++ t.data.toList) (by omega)
  have hg : V.gets (P.S (V.put a ++ t.data.toList)) false = (a, t, false) := by
    have := V.gets_put ha t
    rw [h0] at this
    rw [← P.S_append, P.S_of]
    exact this
  have hd : ((d.toNat : Nat) : Int) = d := by omega
  unfold gets
  rw [e, hr]
  simp only [hg, hd, h]
  simp
theorem gets_cut {a : List Nat} {d : Int} (ha : V.Ok a) (h : right a d = true) (m : Nat) (hm : m < (puts a d).size) : gets ((puts a d).extract 0 m) false = (V.zeros, 0, ⟨#[]⟩, true) := by
  obtain ⟨h0, h1, h4, _⟩ := right_known h
  have hs := puts_size ha.len h
  rw [puts_right h, P.S_extract]
  simp only [List.drop_zero]
  cases m with
  | zero =>
    have e1 : P.RN (P.S ((P.numB d.toNat 1 ++ V.put a).take 0)) false 1 = (0, ⟨#[]⟩, true) := rfl
    unfold gets
    rw [e1]
    have hb : (V.gets ⟨#[]⟩ true).2.2 = true := by
      unfold V.gets
      rw [if_pos (Or.inl (V.rd_bad 4 _))]
    rw [if_pos (Or.inl hb)]
  | succ k =>
    have e1 : (P.numB d.toNat 1 ++ V.put a).take (k + 1) = P.numB d.toNat 1 ++ (V.put a).take k := by
      rw [List.take_append, P.numB_length, List.take_of_length_le (by rw [P.numB_length]; omega)]
      rfl
    have hc := V.gets_cut ha k (by omega)
    rw [P.ext_head, P.S_list] at hc
    unfold gets
    rw [e1, RN_put d.toNat _ (by omega)]
    simp only [hc]
    simp
theorem puts_inj {a b : List Nat} {d e : Int} (ha : V.Ok a) (hb : V.Ok b) (r1 : right a d = true) (r2 : right b e = true) : decide (puts a d = puts b e) = same a d b e := by
  unfold same
  rw [← Bool.decide_and]
  apply decide_eq_decide.2
  refine ⟨fun h => ?_, fun h => by rw [h.1, h.2]⟩
  have h1 := gets_put ha r1 ⟨#[]⟩
  have h2 := gets_put hb r2 ⟨#[]⟩
  rw [h, h2] at h1
  simp only [Prod.mk.injEq] at h1
  exact ⟨h1.1.symm, h1.2.1.symm⟩
end Go.Proofs.Ytkfcbihofipcbaa.T
