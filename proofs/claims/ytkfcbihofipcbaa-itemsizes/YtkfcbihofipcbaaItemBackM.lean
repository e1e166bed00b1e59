/- What was put of a transaction is read; with something behind, or cut, it is none; another one has other bytes: plain mathematics. -/
import Derived.Test.YtkfcbihofipcbaaItemMath

import Derived.Test.YtkfcbihofipcbaaStampBackP

namespace Go.Proofs.Ytkfcbihofipcbaa.I

set_option linter.unusedVariables false

theorem RT_text (s : ByteArray) (t : List UInt8) (most : Int) (h : (s.size : Int) ≤ most) (h64 : s.size < 2 ^ 64) : P.RT (P.S (text s ++ t)) false most = (s, P.S t, false) := by
  unfold P.RT
  rw [P.S_list]
  simp only [Bool.false_eq_true, if_false]
  unfold text P.rtext
  rw [List.append_assoc, P.rvary_vary s.size _ h64]
  simp only
  rw [if_neg (by rw [List.length_append, P.len_list]; omega)]
  unfold P.outT
  simp only
  have e1 : (s.data.toList ++ t).take s.size = s.data.toList := by
    have := List.take_left (l₁ := s.data.toList) (l₂ := t); rwa [P.len_list] at this
  have e2 : (s.data.toList ++ t).drop s.size = t := by
    have := List.drop_left (l₁ := s.data.toList) (l₂ := t); rwa [P.len_list] at this
  rw [e1, e2, P.S_of]
theorem numB_one : P.numB 1 1 = [1] := by decide
theorem numB_zero : P.numB 0 1 = [0] := by decide
theorem rdW_enc (x : Wt) (t : List UInt8) (h : right x = true) : rdW (P.S (enc x ++ t)) false = (x, P.S t, false) := by
  obtain ⟨h1, h2, h3, h4, h5, h6⟩ := right_some h
  obtain ⟨b, k, v, g⟩ := x
  simp only at h1 h2 h3 h4 h5 h6
  cases g with
  | true =>
    have hv : v = ⟨#[]⟩ := by
      have := h6 rfl
      apply ByteArray.ext
      exact Array.eq_empty_of_size_eq_zero this
    have e : enc (b, k, v, true) ++ t = text b ++ (text k ++ (P.numB 1 1 ++ t)) := by
      rw [numB_one]
      simp [enc]
    unfold rdW
    rw [e, RT_text b _ 16 (by omega) (by omega)]
    simp only
    rw [RT_text k _ 16 (by omega) (by omega)]
    simp only
    rw [T.RN_put 1 t (by omega)]
    simp [hv]
  | false =>
    have e : enc (b, k, v, false) ++ t = text b ++ (text k ++ (P.numB 0 1 ++ (text v ++ t))) := by
      rw [numB_zero]
      simp [enc]
    unfold rdW
    rw [e, RT_text b _ 16 (by omega) (by omega)]
    simp only
    rw [RT_text k _ 16 (by omega) (by omega)]
    simp only
    rw [T.RN_put 0 _ (by omega)]
    simp only
    rw [RT_text v _ 32 (by omega) (by omega)]
    simp
theorem rdWs_enc (L : List Wt) (t : List UInt8) (h : ∀ x ∈ L, right x = true) : rdWs L.length (P.S ((L.map enc).flatten ++ t)) false = L := by
  induction L with
  | nil => rfl
  | cons x L ih =>
    have e : ((x :: L).map enc).flatten ++ t = enc x ++ ((L.map enc).flatten ++ t) := by simp
    rw [List.length_cons, rdWs_step, e, rdW_enc x _ (h x (by simp))]
    simp only
    rw [ih (fun y hy => h y (by simp [hy]))]
theorem whole_each {a : List Nat} {d : Int} {L : List Wt} (h : whole a d L = true) : ∀ x ∈ L, right x = true := by
  obtain ⟨_, _, _, hok⟩ := whole_some h
  intro x hx
  obtain ⟨i, hi, rfl⟩ := List.mem_iff_getElem.1 hx
  have := okTo_right hok i hi
  rwa [List.getD_eq_getElem?_getD, List.getElem?_eq_getElem hi] at this
theorem parse_bytes {a : List Nat} {d : Int} {L : List Wt} (ha : V.Ok a) (h : whole a d L = true) (u : ByteArray) : parse (bytesS a d L ++ u) = (a, d, L) := by
  obtain ⟨hr, h1, h8, _⟩ := whole_some h
  have e : bytesS a d L ++ u = T.puts a d ++ P.S (P.numB L.length 1 ++ ((L.map enc).flatten ++ u.data.toList)) := by
    unfold bytesS
    rw [if_pos h, bytes, show T.puts a d = P.S (T.put a d) by unfold T.puts; rw [hr]; rfl, P.S_append, ← P.S_of u, P.S_append, P.S_list]
    congr 1
    simp
  have hg := T.gets_put ha hr (P.S (P.numB L.length 1 ++ ((L.map enc).flatten ++ u.data.toList)))
  unfold parse
  rw [e, hg]
  simp only
  rw [T.RN_put L.length _ (by omega)]
  simp only
  rw [show min L.length 9 = L.length by omega, rdWs_enc L _ (whole_each h)]
theorem read_bytes {a : List Nat} {d : Int} {L : List Wt} (ha : V.Ok a) (h : whole a d L = true) : read (bytesS a d L) = (a, d, L, true) := by
  have hp := parse_bytes ha h ⟨#[]⟩
  rw [show bytesS a d L ++ ⟨#[]⟩ = bytesS a d L by apply ByteArray.ext; simp [ByteArray.data_append]] at hp
  unfold read
  rw [hp]
  simp [h]
theorem read_long {a : List Nat} {d : Int} {L : List Wt} (ha : V.Ok a) (h : whole a d L = true) (u : ByteArray) (hu : u.size ≠ 0) : read (bytesS a d L ++ u) = (V.zeros, 0, [], false) := by
  unfold read
  rw [parse_bytes ha h u]
  simp only
  rw [if_neg]
  rintro ⟨_, e⟩
  have := congrArg ByteArray.size e
  rw [ByteArray.size_append] at this
  omega
theorem read_some {s : ByteArray} {a : List Nat} {d : Int} {L : List Wt} (h : read s = (a, d, L, true)) : whole a d L = true ∧ bytesS a d L = s ∧ V.Ok a := by
  unfold read at h
  split at h
  · rename_i hc
    simp only [Prod.mk.injEq, and_true] at h
    obtain ⟨rfl, rfl, rfl⟩ := h
    exact ⟨hc.1, hc.2, by unfold parse; exact T.gets_ok s false⟩
  · simp at h
theorem read_cases (s : ByteArray) : (∃ a d L, read s = (a, d, L, true)) ∨ read s = (V.zeros, 0, [], false) := by
  unfold read
  split
  · exact Or.inl ⟨_, _, _, rfl⟩
  · exact Or.inr rfl
theorem read_cut {a : List Nat} {d : Int} {L : List Wt} (ha : V.Ok a) (h : whole a d L = true) (m : Nat) (hm : m < (bytesS a d L).size) : read ((bytesS a d L).extract 0 m) = (V.zeros, 0, [], false) := by
  rcases read_cases ((bytesS a d L).extract 0 m) with ⟨a', d', L', hr⟩ | hr
  · obtain ⟨hw, he, hok⟩ := read_some hr
    have hcat : bytesS a' d' L' ++ (bytesS a d L).extract m (bytesS a d L).size = bytesS a d L := by
      rw [he, P.ext_head, P.ext_rest, P.S_append, List.take_append_drop, P.S_of]
    have h1 := parse_bytes hok hw ((bytesS a d L).extract m (bytesS a d L).size)
    rw [hcat] at h1
    have h2 := parse_bytes ha h ⟨#[]⟩
    rw [show bytesS a d L ++ ⟨#[]⟩ = bytesS a d L by apply ByteArray.ext; simp [ByteArray.data_append], h1] at h2
    simp only [Prod.mk.injEq] at h2
    obtain ⟨rfl, rfl, rfl⟩ := h2
    have := congrArg ByteArray.size he
    rw [P.ext_head, P.S_size, List.length_take, P.len_list] at this
    omega
  · exact hr
theorem bytes_inj {a b : List Nat} {d e : Int} {L M : List Wt} (ha : V.Ok a) (hb : V.Ok b) (h1 : whole a d L = true) (h2 : whole b e M = true) : decide (bytesS a d L = bytesS b e M) = same a d L b e M := by
  unfold same T.same
  rw [← Bool.decide_and, ← Bool.decide_and]
  apply decide_eq_decide.2
  constructor
  · intro h
    have r1 := read_bytes ha h1
    rw [h, read_bytes hb h2] at r1
    simp only [Prod.mk.injEq, and_true] at r1
    exact ⟨⟨r1.1.symm, r1.2.1.symm⟩, r1.2.2.symm⟩
  · rintro ⟨⟨rfl, rfl⟩, rfl⟩
    rfl
end Go.Proofs.Ytkfcbihofipcbaa.I
