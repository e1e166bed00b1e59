/- What was put of a transaction is read; with something behind, or cut, it is none; another one has other bytes: plain mathematics. -/
import Derived.Test.YtkfcbihofipcbaaItemMath

import Derived.Test.YtkfcbihofipcbaaStampBackP

namespace Go.Proofs.Ytkfcbihofipcbaa.I

set_option linter.unusedVariables false

theorem RT_text (s : ByteArray) (t : List UInt8) (most : Int) (h : (s.size : Int) ≤ most) (h64 : s.size < 2 ^ 64) : P.RT (P.S (text s ++ t)) false most = (s, P.S t, false) := by
  unfold P.RT
  rw [P.S_list]
  simp only [Bool.false_eq_true, if_false]
  unfold text P.rtext
  rw [List.append_assoc, P.rvary_vary s.size _ h64]
  simp only
  rw [if_neg (by rw [List.length_append, P.len_list]; omega)]
  unfold P.outT
  simp only
  have e1 : (s.data.toList ++ t).take s.size = s.data.toList := by
    have := List.take_left (l₁ := s.data.toList) (l₂ := t); rwa [P.len_list] at this
  have e2 : (s.data.toList ++ t).drop s.size = t := by
    have := List.drop_left (l₁ := s.data.toList) (l₂ := t); rwa [P.len_list] at this
  rw [e1, e2, P.S_of]
theorem numB_one : P.numB 1 1 = [1] := by decide
theorem numB_zero : P.numB 0 1 = [0] := by decide
theorem rdW_enc (x : Wt) (t : List UInt8) (h : right x = true) : rdW (P.S (enc x ++ t)) false = (x, P.S t, false) := by
  obtain ⟨h1, h2, h3, h4, h5, h6⟩ := right_some h
  obtain ⟨b, k, v, g⟩ := x
  simp only at h1 h2 h3 h4 h5 h6
  cases g with
  | true =>
    have hv : v = ⟨#[]⟩ := by
      have := h6 rfl
      apply ByteArray.ext
      exact Array.eq_empty_of_size_eq_zero this
    have e : enc (b, k, v, true) ++ t = text b ++ (text k ++ (P.numB 1 1 ++ t)) := by
      rw [numB_one]
      simp [enc]
    unfold rdW
    rw [e, RT_text b _ 16 (by omega) (by omega)]
    simp only
    rw [RT_text k _ 16 (by omega) (by omega)]
    simp only
    rw [T.RN_put 1 t (by omega)]
    simp [hv]
  | false =>
    have e : enc (b, k, v, false) ++ t = text b ++ (text k ++ (P.numB 0 1 ++ (text v ++ t))) := by
      rw [numB_zero]
      simp [enc]
    unfold rdW
    rw [e, RT_text b _ 16 (by omega) (by omega)]
    simp only
    rw [RT_text k _ 16 (by omega) (by omega)]
    simp only
    rw [T.RN_put 0 _ (by omega)]
    simp only
    rw [RT_text v _ 32 (by omega) (by omega)]
    simp
theorem rdWs_enc (L : List Wt) (t : List UInt8) (h : ∀ x ∈ L, right x = true) : rdWs L.length (P.S ((L.map enc).flatten ++ t)) false = L := by
  induction L with
  | nil => rfl
  | cons x L ih =>
    have e : ((x :: L).map enc).flatten ++ t = enc x ++ ((L.map enc).flatten ++ t) := by simp
    rw [List.length_cons, rdWs_step, e, rdW_enc x _ (h x (by simp))]
    simp only
    rw [ih (fun y hy => h y (by simp [hy]))]
theorem whole_each {a : List Nat} {d : Int} {L : List Wt} (h : whole a d L = true) : ∀ x ∈ L, right x = true := by
  obtain ⟨_, _, _, hok⟩ := whole_some h
  intro x hx
  obtain ⟨i, hi, rfl⟩ := List.mem_iff_getElem.1 hx
  have := okTo_right hok i hi
  rwa [List.getD_eq_getElem?_getD, List.getElem?_eq_getElem hi] at this
theorem parse_bytes {a : List Nat} {d : Int} {L : List Wt} (ha : V.Ok a) (h : whole a d L = true) (u : ByteArray) : parse (bytesS a d L ++ u) = (a, d, L) := by
  obtain ⟨hr, h1, h8, _⟩ := whole_some h
  have e : bytesS a d L ++ u = T.puts a d ++ P.S (P.numB L.length 1 ++ ((L.map enc).flatten ++ u.data.toList)) := by
    unfold bytesS
    rw [if_pos h, bytes, show T.puts a d = P.S (T.put a d) by unfold T.puts; rw [hr]; rfl, P.S_append, ← P.S_of u, P.S_append, P.S_list]
    congr 1
    simp
  have hg := T.gets_put ha hr (P.S (P.numB L.length 1 ++ ((L.map enc).flatten ++ u.data.toList)))
  unfold parse
  rw [e, hg]
  simp only
  rw [T.RN_put L.length _ (by omega)]
  simp only
  rw [show min L.length 9 = L.length by omega, rdWs_enc L _ (whole_each h)]
theorem read_bytes {a : List Nat} {d : Int} {L : List Wt} (ha : V.Ok a) (h : whole a d L = true) : read (bytesS a d L) = (a, d, L, true) := by
  have hp := parse_bytes ha h ⟨#[]⟩
  rw [show bytesS a d L ++ ⟨#[]⟩ = bytesS a d L by apply ByteArray.ext; simp [ByteArray.data_append]] at hp
  unfold read
  rw [hp]
  simp [h]
theorem read_long {a : List Nat} {d : Int} {L : List Wt} (ha : V.Ok a) (h : whole a d L = true) (u : ByteArray) (hu : u.size ≠ 0) : read (bytesS a d L ++ u) = (V.zeros, 0, [], false) := by
  unfold read
  rw [parse_bytes ha h u]
  simp only
  rw [if_neg]
  rintro ⟨_, e⟩
  have := congrArg ByteArray.size e
  rw [ByteArray.size_append] at this
  omega
theorem read_some {s : ByteArray} {a : List Nat} {d : Int} {L : List Wt} (h : read s = (a, d, L, true)) : whole a d L = true ∧ bytesS a d L = s ∧ V.Ok a := by
  unfold read at h
  split at h
  · rename_i hc
    simp only [Prod.mk.injEq, and_true] at h
    obtain ⟨rfl, rfl, rfl⟩ := h
    exact ⟨hc.1, hc.2, by unfold parse; exact T.gets_ok s false⟩
  · simp at h
theorem read_cases (s : ByteArray) : (∃ a d L, read s = (a, d, L, true)) ∨ read s = (V.zeros, 0, [], false) := by
  unfold read
  split
  · exact Or.inl ⟨_, _, _, rfl⟩
  · exact Or.inr rfl
theorem read_cut {a : List Nat} {d : Int} {L : List Wt} (ha : V.Ok a) (h : whole a d L = true) (m : Nat) (hm : m < (bytesS a d L).size) : read ((bytesS a d L).extract 0 m) = (V.zeros, 0, [], false) := by
  rcases read_cases ((bytesS a d L).extract 0 m) with ⟨a', d', L', hr⟩ | hr
  · obtain ⟨hw, he, hok⟩ := read_some hr
    have hcat : bytesS a' d' L' ++ (bytesS a d L).extract m (bytesS a d L).size = bytesS a d L := by
      rw [he, P.ext_head, P.ext_rest, P.S_append, List.take_append_drop, P.S_of]
    have h1 := parse_bytes hok hw ((bytesS a d L).extract m (bytesS a d L).size)
    rw [hcat] at h1
    have h2 := parse_bytes ha h ⟨#[]⟩
    rw [show bytesS a d L ++ ⟨#[]⟩ = bytesS a d L by apply ByteArray.ext; simp [ByteArray.data_append], h1] at h2
    simp only [Prod.mk.injEq] at h2
    obtain ⟨rfl, rfl, rfl⟩ := h2
    have := congrArg ByteArray.size he
    rw [P.ext_head, P.S_size, List.length_take, P.len_list] at this
    omega
  · exact hr
theorem bytes_inj {a b : List Nat} {d e : Int} {L M : List Wt} (ha : V.Ok a) (hb : V.Ok b) (h1 : whole a d L = true) (h2 : whole b e M = true) : decide (bytesS a d L = bytesS b e M) = same a d L b e M := by
  unfold same T.same
  rw [← Bool.decide_and, ← Bool.decide_and]
  apply decide_eq_decide.2
  constructor
  · intro h
    have r1 := read_bytes ha h1
    rw [h, read_bytes hb h2] at r1
    simp only [Prod.mk.injEq, and_true] at r1
    exact ⟨⟨r1.1.symm, r1.2.1.symm⟩, r1.2.2.symm⟩
  · rintro ⟨⟨rfl, rfl⟩, rfl⟩
    rfl
end Go.Proofs.Ytkfcbihofipcbaa.I

namespace Go.Proofs.Ytkfcbihofipcbaa.Cn

set_option linter.unusedVariables false

set_option linter.unusedSimpArgs false

theorem rnum_canon (l : List UInt8) (k : Nat) (n : Nat) (r : List UInt8) (h1 : 1 ≤ k) (h8 : k ≤ 8) (h : P.rnum l (k : Int) = some (n, r)) : l = P.numB n k ++ r ∧ n < 256 ^ k := by
  unfold P.rnum at h
  split at h
  · cases h
  · rename_i hc
    simp only [Int.toNat_natCast, Option.some.injEq, Prod.mk.injEq] at h
    obtain ⟨rfl, rfl⟩ := h
    have hl : (l.take k).length = k := by rw [List.length_take]; omega
    have hv := P.val_lt (l.take k)
    rw [hl] at hv
    refine ⟨?_, hv⟩
    have e : P.numB (P.val (l.take k)) k = l.take k := P.val_inj _ _ (by rw [P.numB_length, hl]) (by rw [P.val_numB, Nat.mod_eq_of_lt hv])
    rw [e, List.take_append_drop]
theorem rvF_canon (f : Nat) : ∀ (i acc : Nat) (l : List UInt8) (n : Nat) (r : List UInt8), f + i = 10 → acc < 128 ^ i → P.rvF f i acc l = some (n, r) → P.hi i acc ++ l = P.vary n ++ r := by
  induction f with
  | zero => intro i acc l n r _ _ h; simp [P.rvF] at h
  | succ f ih =>
    intro i acc l n r hf ha h
    cases l with
    | nil => simp [P.rvF] at h
    | cons b l =>
      rw [P.rvF] at h
      split at h
      · rename_i hb
        split at h
        · rename_i he
          simp only [Option.some.injEq, Prod.mk.injEq] at h
          obtain ⟨rfl, rfl⟩ := h
          have h0 : b.toNat ≠ 0 ∨ i = 0 := by
            unfold P.endsB at he
            by_cases hi : i = 0
            · exact .inr hi
            · rw [if_neg hi] at he
              simp at he
              exact .inl (by simpa using he.1)
          have := P.varyF_hi 9 i acc b.toNat (by omega) ha hb h0
          rw [P.vary, this, UInt8.ofNat_toNat, List.append_assoc]
          rfl
        · cases h
      · rename_i hb
        have hb2 : b.toNat < 256 := b.toNat_lt
        have hs := P.hi_snoc i acc (b.toNat - 128) ha (by omega)
        rw [show b.toNat - 128 + 128 = b.toNat by omega, UInt8.ofNat_toNat] at hs
        have hlt : acc + (b.toNat - 128) * 128 ^ i < 128 ^ (i + 1) := by
          rw [Nat.pow_succ]
          have : (b.toNat - 128) * 128 ^ i ≤ 127 * 128 ^ i := Nat.mul_le_mul (by omega) (Nat.le_refl _)
          omega
        have := ih (i + 1) _ l n r (by omega) hlt h
        rw [hs, List.append_assoc] at this
        exact this
theorem rvary_canon (l : List UInt8) (n : Nat) (r : List UInt8) (h : P.rvary l = some (n, r)) : l = P.vary n ++ r := by
  have := rvF_canon 10 0 0 l n r rfl (by decide) h
  simpa [P.hi] using this
theorem rtext_canon (l : List UInt8) (most : Int) (t r : List UInt8) (h : P.rtext l most = some (t, r)) : l = P.vary t.length ++ t ++ r ∧ (t.length : Int) ≤ most := by
  unfold P.rtext at h
  split at h
  · cases h
  · rename_i n q hq
    split at h
    · cases h
    · rename_i hc
      simp only [Option.some.injEq, Prod.mk.injEq] at h
      obtain ⟨rfl, rfl⟩ := h
      have hl : (q.take n).length = n := by rw [List.length_take]; omega
      rw [hl, List.append_assoc, List.take_append_drop]
      exact ⟨rvary_canon l n q hq, by omega⟩
theorem RN_some (s : ByteArray) (b : Bool) (k : Int) (n : Nat) (t : ByteArray) (h : P.RN s b k = (n, t, false)) : b = false ∧ P.rnum s.data.toList k = some (n, t.data.toList) := by
  cases b with
  | true => simp [P.RN, P.outN] at h
  | false =>
    simp only [P.RN, Bool.false_eq_true, if_false] at h
    cases e : P.rnum s.data.toList k with
    | none => simp [e, P.outN] at h
    | some x =>
      obtain ⟨m, r⟩ := x
      simp only [e, P.outN, Prod.mk.injEq] at h
      obtain ⟨rfl, rfl, _⟩ := h
      exact ⟨rfl, by rw [P.S_list]⟩
theorem RT_some (s : ByteArray) (b : Bool) (k : Int) (n : ByteArray) (t : ByteArray) (h : P.RT s b k = (n, t, false)) : b = false ∧ P.rtext s.data.toList k = some (n.data.toList, t.data.toList) := by
  cases b with
  | true => simp [P.RT, P.outT] at h
  | false =>
    simp only [P.RT, Bool.false_eq_true, if_false] at h
    cases e : P.rtext s.data.toList k with
    | none => simp [e, P.outT] at h
    | some x =>
      obtain ⟨m, r⟩ := x
      simp only [e, P.outT, Prod.mk.injEq] at h
      obtain ⟨rfl, rfl, _⟩ := h
      exact ⟨rfl, by rw [P.S_list, P.S_list]⟩
theorem RN_put (s : ByteArray) (b : Bool) (n : Nat) (t : ByteArray) (h : P.RN s b 1 = (n, t, false)) : b = false ∧ s.data.toList = P.numB n 1 ++ t.data.toList ∧ n < 256 := by
  obtain ⟨hb, h1⟩ := RN_some s b 1 n t h
  have := rnum_canon s.data.toList 1 n _ (by omega) (by omega) h1
  exact ⟨hb, this.1, by simpa using this.2⟩
theorem RT_put (s : ByteArray) (b : Bool) (k : Int) (x t : ByteArray) (h : P.RT s b k = (x, t, false)) : b = false ∧ s.data.toList = I.text x ++ t.data.toList := by
  obtain ⟨hb, h1⟩ := RT_some s b k x t h
  have := (rtext_canon s.data.toList k _ _ h1).1
  refine ⟨hb, ?_⟩
  rw [this, P.len_list]
  rfl
theorem rd_canon (k : Nat) : ∀ (s : ByteArray) (b : Bool) (l : List Nat) (t : ByteArray), V.rd k s b = (l, t, false) → b = false ∧ s.data.toList = V.put l ++ t.data.toList := by
  induction k with
  | zero =>
    intro s b l t h
    simp only [V.rd, Prod.mk.injEq] at h
    obtain ⟨rfl, rfl, rfl⟩ := h
    exact ⟨rfl, rfl⟩
  | succ k ih =>
    intro s b l t h
    rcases hv : P.RV s b with ⟨n, u, c⟩
    simp only [V.rd, hv] at h
    rcases hr : V.rd k u c with ⟨l', t', c'⟩
    simp only [hr, Prod.mk.injEq] at h
    obtain ⟨rfl, rfl, rfl⟩ := h
    obtain ⟨hc, e⟩ := ih u c l' t' hr
    subst hc
    obtain ⟨hb, h1, _⟩ := P.RV_some s b n u hv
    refine ⟨hb, ?_⟩
    rw [rvary_canon _ _ _ h1, e, V.put_cons, List.append_assoc]
theorem gets_canon (s : ByteArray) (b : Bool) (a : List Nat) (d : Int) (t : ByteArray) (h : T.gets s b = (a, d, t, false)) : b = false ∧ s.data.toList = T.put a d ++ t.data.toList ∧ T.right a d = true := by
  unfold T.gets at h
  split at h
  · simp at h
  · rename_i hc
    rcases hn : P.RN s b 1 with ⟨n, u, c⟩
    simp only [hn] at h hc
    rcases hg : V.gets u c with ⟨l, t', c'⟩
    simp only [hg, Prod.mk.injEq] at h hc
    obtain ⟨rfl, rfl, rfl, rfl⟩ := h
    have hg' := hg
    unfold V.gets at hg'
    split at hg'
    · simp at hg'
    · obtain ⟨hc0, e⟩ := rd_canon 4 u c l t' hg'
      subst hc0
      obtain ⟨hb, e1, _⟩ := RN_put s b n u hn
      refine ⟨hb, ?_, ?_⟩
      · rw [e1, e, T.put, Int.toNat_natCast, List.append_assoc]
      · by_cases hr : T.right l (n : Int) = true
        · exact hr
        · exact absurd (.inr (by simpa using hr)) hc
end Go.Proofs.Ytkfcbihofipcbaa.Cn

namespace Go.Proofs.Ytkfcbihofipcbaa.I

set_option linter.unusedVariables false

set_option linter.unusedSimpArgs false

/-- one write, as the program reads it -/
def getW (s : ByteArray) (b : Bool) : Wt × ByteArray × Bool :=
  if (P.RN (P.RT (P.RT s b 16).2.1 (P.RT s b 16).2.2 16).2.1 (P.RT (P.RT s b 16).2.1 (P.RT s b 16).2.2 16).2.2 1).1 = 0 then
    (((P.RT s b 16).1, (P.RT (P.RT s b 16).2.1 (P.RT s b 16).2.2 16).1, (P.RT (P.RN (P.RT (P.RT s b 16).2.1 (P.RT s b 16).2.2 16).2.1 (P.RT (P.RT s b 16).2.1 (P.RT s b 16).2.2 16).2.2 1).2.1 (P.RN (P.RT (P.RT s b 16).2.1 (P.RT s b 16).2.2 16).2.1 (P.RT (P.RT s b 16).2.1 (P.RT s b 16).2.2 16).2.2 1).2.2 32).1, false),
    (P.RT (P.RN (P.RT (P.RT s b 16).2.1 (P.RT s b 16).2.2 16).2.1 (P.RT (P.RT s b 16).2.1 (P.RT s b 16).2.2 16).2.2 1).2.1 (P.RN (P.RT (P.RT s b 16).2.1 (P.RT s b 16).2.2 16).2.1 (P.RT (P.RT s b 16).2.1 (P.RT s b 16).2.2 16).2.2 1).2.2 32).2)
  else if (P.RN (P.RT (P.RT s b 16).2.1 (P.RT s b 16).2.2 16).2.1 (P.RT (P.RT s b 16).2.1 (P.RT s b 16).2.2 16).2.2 1).1 = 1 then
    (((P.RT s b 16).1, (P.RT (P.RT s b 16).2.1 (P.RT s b 16).2.2 16).1, ⟨#[]⟩, true), (P.RN (P.RT (P.RT s b 16).2.1 (P.RT s b 16).2.2 16).2.1 (P.RT (P.RT s b 16).2.1 (P.RT s b 16).2.2 16).2.2 1).2)
  else (none_, ⟨#[]⟩, true)
/-- so many of them -/
def getWs : Nat → ByteArray → Bool → List Wt × ByteArray × Bool
  | 0, s, b => ([], s, b)
  | k + 1, s, b => ((getW s b).1 :: (getWs k (getW s b).2.1 (getW s b).2.2).1, (getWs k (getW s b).2.1 (getW s b).2.2).2)
theorem getW_canon (s : ByteArray) (b : Bool) (x : Wt) (t : ByteArray) (h : getW s b = (x, t, false)) : b = false ∧ s.data.toList = enc x ++ t.data.toList ∧ rdW s b = (x, t, false) := by
  rcases h1 : P.RT s b 16 with ⟨xb, s2, c2⟩
  rcases h2 : P.RT s2 c2 16 with ⟨xk, s3, c3⟩
  rcases h3 : P.RN s3 c3 1 with ⟨m, s4, c4⟩
  rcases h4 : P.RT s4 c4 32 with ⟨xv, s5, c5⟩
  unfold getW at h
  unfold rdW
  simp only [h1, h2, h3, h4] at h ⊢
  by_cases m0 : m = 0
  · subst m0
    simp only [if_true, Prod.mk.injEq] at h
    obtain ⟨rfl, rfl, rfl⟩ := h
    obtain ⟨rfl, e4⟩ := Cn.RT_put _ _ _ _ _ h4
    obtain ⟨rfl, e3, _⟩ := Cn.RN_put _ _ _ _ h3
    obtain ⟨rfl, e2⟩ := Cn.RT_put _ _ _ _ _ h2
    obtain ⟨rfl, e1⟩ := Cn.RT_put _ _ _ _ _ h1
    refine ⟨rfl, ?_, by simp⟩
    rw [e1, e2, e3, e4, numB_zero]
    simp [enc]
  · rw [if_neg m0] at h
    by_cases m1 : m = 1
    · subst m1
      simp only [if_true, Prod.mk.injEq] at h
      obtain ⟨rfl, rfl, rfl⟩ := h
      obtain ⟨rfl, e3, _⟩ := Cn.RN_put _ _ _ _ h3
      obtain ⟨rfl, e2⟩ := Cn.RT_put _ _ _ _ _ h2
      obtain ⟨rfl, e1⟩ := Cn.RT_put _ _ _ _ _ h1
      refine ⟨rfl, ?_, by simp⟩
      rw [e1, e2, e3, numB_one]
      simp [enc]
    · rw [if_neg m1] at h
      simp at h
theorem getW_enc (x : Wt) (t : List UInt8) (h : right x = true) : getW (P.S (enc x ++ t)) false = (x, P.S t, false) := by
  obtain ⟨b, k, v, g⟩ := x
  obtain ⟨_, hb, _, hk, hv, hg⟩ := right_some h
  simp only at hb hk hv hg
  have h1 : P.RT (P.S (enc (b, k, v, g) ++ t)) false 16 = (b, P.S (text k ++ ((if g = true then [1] else 0 :: text v) ++ t)), false) := by
    rw [← RT_text b _ 16 (by omega) (by omega)]
    congr 2
    simp [enc]
  have h2 := RT_text k ((if g = true then [1] else 0 :: text v) ++ t) 16 (by omega) (by omega)
  unfold getW
  simp only [h1, h2]
  cases g with
  | true =>
    have h3 : P.RN (P.S (1 :: t)) false 1 = (1, P.S t, false) := T.RN_put 1 t (by omega)
    obtain rfl : v = ⟨#[]⟩ := by
      apply ByteArray.ext
      exact Array.eq_empty_of_size_eq_zero (hg rfl)
    simp [h3]
  | false =>
    have h3 : P.RN (P.S ((if false = true then [1] else 0 :: text v) ++ t)) false 1 = (0, P.S (text v ++ t), false) := T.RN_put 0 (text v ++ t) (by omega)
    have h4 := RT_text v t 32 (by omega) (by omega)
    simp only [h3, h4]
    simp
theorem getWs_canon (k : Nat) : ∀ (s : ByteArray) (b : Bool) (L : List Wt) (t : ByteArray), getWs k s b = (L, t, false) → b = false ∧ s.data.toList = (L.map enc).flatten ++ t.data.toList ∧ rdWs k s b = L := by
  induction k with
  | zero =>
    intro s b l t h
    simp only [getWs, Prod.mk.injEq] at h
    obtain ⟨rfl, rfl, rfl⟩ := h
    exact ⟨rfl, rfl, rfl⟩
  | succ k ih =>
    intro s b l t h
    rcases hv : getW s b with ⟨x, u, c⟩
    simp only [getWs, hv] at h
    rcases hr : getWs k u c with ⟨l', t', c'⟩
    simp only [hr, Prod.mk.injEq] at h
    obtain ⟨rfl, rfl, rfl⟩ := h
    obtain ⟨hc, e, hw⟩ := ih u c l' t' hr
    subst hc
    obtain ⟨hb, h1, h2⟩ := getW_canon s b x u hv
    subst hb
    refine ⟨rfl, ?_, ?_⟩
    · rw [h1, e]
      simp
    · rw [rdWs_step, h2, hw]
theorem getWs_enc (L : List Wt) (t : List UInt8) (h : ∀ x ∈ L, right x = true) : getWs L.length (P.S ((L.map enc).flatten ++ t)) false = (L, P.S t, false) := by
  induction L with
  | nil => rfl
  | cons x L ih =>
    have hx := getW_enc x ((L.map enc).flatten ++ t) (h x (List.mem_cons_self ..))
    rw [show ((x :: L).map enc).flatten ++ t = enc x ++ ((L.map enc).flatten ++ t) by simp, List.length_cons]
    simp only [getWs, hx, ih (fun y hy => h y (List.mem_cons_of_mem _ hy))]
theorem getWs_len (k : Nat) : ∀ (s : ByteArray) (b : Bool), (getWs k s b).1.length = k := by
  induction k with
  | zero => intro s b; rfl
  | succ k ih => intro s b; simp only [getWs, List.length_cons, ih]
theorem getWs_step (k : Nat) (s : ByteArray) (b : Bool) : getWs (k + 1) s b = ((getW s b).1 :: (getWs k (getW s b).2.1 (getW s b).2.2).1, (getWs k (getW s b).2.1 (getW s b).2.2).2) := rfl
/-- what the program reads, ahead of the look if it is whole -/
def getT (s : ByteArray) : List Nat × Int × List Wt × ByteArray × Bool :=
  ((T.gets s false).1, (T.gets s false).2.1, getWs (P.RN (T.gets s false).2.2.1 (T.gets s false).2.2.2 1).1 (P.RN (T.gets s false).2.2.1 (T.gets s false).2.2.2 1).2.1 (P.RN (T.gets s false).2.2.1 (T.gets s false).2.2.2 1).2.2)
def readP (s : ByteArray) : List Nat × Int × List Wt × Bool :=
  if (decide ((getT s).2.2.2.1.size = 0) && !(getT s).2.2.2.2) = true ∧ whole (getT s).1 (getT s).2.1 (getT s).2.2.1 = true then ((getT s).1, (getT s).2.1, (getT s).2.2.1, true) else (V.zeros, 0, [], false)
theorem readP_read (s : ByteArray) : readP s = read s := by
  rcases hg : T.gets s false with ⟨A, D, r0, c0⟩
  rcases hn : P.RN r0 c0 1 with ⟨m, r1, c1⟩
  rcases hw : getWs m r1 c1 with ⟨L, r, c⟩
  have hT : getT s = (A, D, L, r, c) := by unfold getT; simp only [hg, hn, hw]
  have hP : parse s = (A, D, rdWs (min m 9) r1 c1) := by unfold parse; simp only [hg, hn]
  unfold readP read
  simp only [hT, hP]
  by_cases hok : (decide (r.size = 0) && !c) = true ∧ whole A D L = true
  · rw [if_pos hok]
    obtain ⟨h1, h2⟩ := hok
    simp only [Bool.and_eq_true, decide_eq_true_eq, Bool.not_eq_true'] at h1
    obtain ⟨hr, rfl⟩ := h1
    obtain ⟨rfl, e3, hL⟩ := getWs_canon m r1 c1 L r hw
    obtain ⟨rfl, e2, _⟩ := Cn.RN_put r0 c0 m r1 hn
    obtain ⟨_, e1, hR⟩ := Cn.gets_canon s false A D r0 hg
    obtain ⟨_, _, h8, _⟩ := whole_some h2
    have hlen := getWs_len m r1 false
    rw [hw] at hlen
    simp only at hlen
    rw [Nat.min_eq_left (by omega), hL]
    have hr' : r.data.toList = [] := List.eq_nil_of_length_eq_zero (by rw [P.len_list]; exact hr)
    have hb : bytesS A D L = s := by
      unfold bytesS
      rw [if_pos h2, ← P.S_of s, e1, e2, e3, hr']
      congr 1
      unfold bytes
      rw [hlen]
      simp
    rw [if_pos ⟨h2, hb⟩]
  · rw [if_neg hok]
    split
    · rename_i h
      obtain ⟨h2, hb⟩ := h
      exfalso
      apply hok
      have hA : V.Ok A := by have := T.gets_ok s false; rw [hg] at this; exact this
      obtain ⟨_, h1', h8, _⟩ := whole_some h2
      have hR := (whole_some h2).1
      have key : getT s = (A, D, rdWs (min m 9) r1 c1, ⟨#[]⟩, false) := by
        rw [← hb]
        unfold bytesS
        rw [if_pos h2]
        generalize rdWs (min m 9) r1 c1 = M at h2 h8 h1'
        have hp := T.gets_put hA hR (P.S (P.numB M.length 1 ++ (M.map enc).flatten))
        have hq : T.puts A D ++ P.S (P.numB M.length 1 ++ (M.map enc).flatten) = P.S (bytes A D M) := by
          rw [T.puts_right hR, P.S_append]
          congr 1
          unfold bytes T.put
          simp
        rw [hq] at hp
        have hN := T.RN_put M.length ((M.map enc).flatten) (by omega)
        have hE := getWs_enc M [] (whole_each h2)
        rw [List.append_nil] at hE
        unfold getT
        simp only [hp, hN, hE]
        rfl
      rw [hT] at key
      simp only [Prod.mk.injEq] at key
      obtain ⟨_, _, rfl, rfl, rfl⟩ := key
      exact ⟨rfl, h2⟩
    · rfl
end Go.Proofs.Ytkfcbihofipcbaa.I
