/- mac: what is read is what was put; both Opens tell the same. -/
import Derived.Test.YtlodahlinncpcaaDoorMacBackM
import Derived.Test.YtlodahlinncpcaaDoorMacRefOpen
namespace Go.Proofs.YtlodahlinncpcaaDoor.Mc
open Go.RowKit
set_option linter.unusedVariables false
set_option linter.unusedSimpArgs false
theorem rnum_canon (l : List UInt8) (k : Nat) (n : Nat) (r : List UInt8) (h1 : 1 ≤ k) (h8 : k ≤ 8) (h : P.rnum l (k : Int) = some (n, r)) : l = P.numB n k ++ r ∧ n < 256 ^ k := by
  unfold P.rnum at h
  split at h
  · cases h
  · rename_i hc
    simp only [Int.toNat_natCast, Option.some.injEq, Prod.mk.injEq] at h
    obtain ⟨rfl, rfl⟩ := h
    have hl : (l.take k).length = k := by rw [List.length_take]; omega
    have hv := P.val_lt (l.take k)
    rw [hl] at hv
    refine ⟨?_, hv⟩
    have e : P.numB (P.val (l.take k)) k = l.take k := P.val_inj _ _ (by rw [P.numB_length, hl]) (by rw [P.val_numB, Nat.mod_eq_of_lt hv])
    rw [e, List.take_append_drop]
theorem rvF_canon (f : Nat) : ∀ (i acc : Nat) (l : List UInt8) (n : Nat) (r : List UInt8), f + i = 10 → acc < 128 ^ i → P.rvF f i acc l = some (n, r) → P.hi i acc ++ l = P.vary n ++ r := by
  induction f with
  | zero => intro i acc l n r _ _ h; simp [P.rvF] at h
  | succ f ih =>
    intro i acc l n r hf ha h
    cases l with
    | nil => simp [P.rvF] at h
    | cons b l =>
      rw [P.rvF] at h
      split at h
      · rename_i hb
        split at h
        · rename_i he
          simp only [Option.some.injEq, Prod.mk.injEq] at h
          obtain ⟨rfl, rfl⟩ := h
          have h0 : b.toNat ≠ 0 ∨ i = 0 := by
            unfold P.endsB at he
            by_cases hi : i = 0
            · exact .inr hi
            · rw [if_neg hi] at he
              simp at he
              exact .inl (by simpa using he.1)
          have := P.varyF_hi 9 i acc b.toNat (by omega) ha hb h0
          rw [P.vary, this, UInt8.ofNat_toNat, List.append_assoc]
          rfl
        · cases h
      · rename_i hb
        have hb2 : b.toNat < 256 := b.toNat_lt
        have hs := P.hi_snoc i acc (b.toNat - 128) ha (by omega)
        rw [show b.toNat - 128 + 128 = b.toNat by omega, UInt8.ofNat_toNat] at hs
        have hlt : acc + (b.toNat - 128) * 128 ^ i < 128 ^ (i + 1) := by
          rw [Nat.pow_succ]
          have : (b.toNat - 128) * 128 ^ i ≤ 127 * 128 ^ i := Nat.mul_le_mul (by omega) (Nat.le_refl _)
          omega
        have := ih (i + 1) _ l n r (by omega) hlt h
        rw [hs, List.append_assoc] at this
        exact this
theorem rvary_canon (l : List UInt8) (n : Nat) (r : List UInt8) (h : P.rvary l = some (n, r)) : l = P.vary n ++ r := by
  have := rvF_canon 10 0 0 l n r rfl (by decide) h
  simpa [P.hi] using this
theorem rtext_canon (l : List UInt8) (t r : List UInt8) (h : P.rtext l 16 = some (t, r)) : l = P.vary t.length ++ t ++ r ∧ t.length ≤ 16 := by
  unfold P.rtext at h
  split at h
  · cases h
  · rename_i n q hq
    split at h
    · cases h
    · rename_i hc
      simp only [Option.some.injEq, Prod.mk.injEq] at h
      obtain ⟨rfl, rfl⟩ := h
      have hl : (q.take n).length = n := by rw [List.length_take]; omega
      rw [hl, List.append_assoc, List.take_append_drop]
      exact ⟨rvary_canon l n q hq, by omega⟩
theorem RN_some (s : ByteArray) (b : Bool) (k : Int) (n : Nat) (t : ByteArray) (h : P.RN s b k = (n, t, false)) : b = false ∧ P.rnum s.data.toList k = some (n, t.data.toList) := by
  cases b with
  | true => simp [P.RN, P.outN] at h
  | false =>
    simp only [P.RN, Bool.false_eq_true, if_false] at h
    cases e : P.rnum s.data.toList k with
    | none => simp [e, P.outN] at h
    | some x =>
      obtain ⟨m, r⟩ := x
      simp only [e, P.outN, Prod.mk.injEq] at h
      obtain ⟨rfl, rfl, _⟩ := h
      exact ⟨rfl, by rw [P.S_list]⟩
theorem RT_some (s : ByteArray) (b : Bool) (k : Int) (n : ByteArray) (t : ByteArray) (h : P.RT s b k = (n, t, false)) : b = false ∧ P.rtext s.data.toList k = some (n.data.toList, t.data.toList) := by
  cases b with
  | true => simp [P.RT, P.outT] at h
  | false =>
    simp only [P.RT, Bool.false_eq_true, if_false] at h
    cases e : P.rtext s.data.toList k with
    | none => simp [e, P.outT] at h
    | some x =>
      obtain ⟨m, r⟩ := x
      simp only [e, P.outT, Prod.mk.injEq] at h
      obtain ⟨rfl, rfl, _⟩ := h
      exact ⟨rfl, by rw [P.S_list, P.S_list]⟩
theorem RN_lt (s : ByteArray) (b : Bool) (k : Nat) (n : Nat) (t : ByteArray) (b' : Bool) (h1 : 1 ≤ k) (h8 : k ≤ 8) (h : P.RN s b (k : Int) = (n, t, b')) : n < 256 ^ k := by
  cases b' with
  | false => exact (rnum_canon _ k _ _ h1 h8 (RN_some _ _ _ _ _ h).2).2
  | true =>
    have : n = 0 := by
      unfold P.RN P.outN at h
      split at h
      · simp at h; exact h.1.symm
      · simp at h
    rw [this]; exact Nat.pow_pos (by omega)
theorem RT_lt (s : ByteArray) (b : Bool) (n : ByteArray) (t : ByteArray) (b' : Bool) (h : P.RT s b 16 = (n, t, b')) : n.size ≤ 16 := by
  cases b' with
  | false =>
    have := (rtext_canon _ _ _ (RT_some _ _ _ _ _ h).2).2
    rwa [len_list] at this
  | true =>
    have : n = ⟨#[]⟩ := by
      unfold P.RT P.outT at h
      split at h
      · simp at h; exact h.1.symm
      · simp at h
    rw [this]; exact Nat.zero_le _
/-- both tell the same -/
def Same (k s : ByteArray) (now : Nat) (T : Int) (B : ByteArray) (R U : Int) (c : Int) : Prop :=
  (∀ w, Tab w → Calls Tryd.prog 34 #[.string k, .string s, .int .u64 (now : Int)] w fun e w' => e = .returned (.tuple #[.agg #[.int .i64 T, .string B, .int .i64 R, .int .u64 U], .int .i64 c]) ∧ Below w.heap.size w w') ∧
  (∀ w, Calls Tryd.prog 35 #[.string k, .string s, .int .u64 (now : Int)] w fun e w' => e = .returned (.tuple #[.agg #[.int .i64 T, .string B, .int .i64 R, .int .u64 U], .int .i64 c]) ∧ Below w.heap.size w w')
theorem both_open (k s : ByteArray) (now : Nat) (hk : k.size ≤ 140737488355000) (hs : s.size ≤ 140737488355000) : ∃ T B R U c, Same k s now T B R U c := by
  obtain ⟨n1, r1, b1, h1⟩ : ∃ n r b, P.RN s false 1 = (n, r, b) := ⟨_, _, _, rfl⟩
  obtain ⟨t, r2, b2, h2⟩ : ∃ n r b, P.RT r1 b1 16 = (n, r, b) := ⟨_, _, _, rfl⟩
  obtain ⟨n3, r3, b3, h3⟩ : ∃ n r b, P.RN r2 b2 1 = (n, r, b) := ⟨_, _, _, rfl⟩
  obtain ⟨n4, r4, b4, h4⟩ : ∃ n r b, P.RN r3 b3 8 = (n, r, b) := ⟨_, _, _, rfl⟩
  have l1 : n1 < 256 := by simpa using RN_lt s false 1 n1 r1 b1 (by omega) (by omega) h1
  have l3 : n3 < 256 := by simpa using RN_lt r2 b2 1 n3 r3 b3 (by omega) (by omega) h3
  have l4 : n4 < 2 ^ 64 := by simpa using RN_lt r3 b3 8 n4 r4 b4 (by omega) (by omega) h4
  have lt := RT_lt r1 b1 t r2 b2 h2
  have deny : (∀ w, Tab w → Calls Tryd.prog 34 #[.string k, .string s, .int .u64 (now : Int)] w fun e w' => e = .returned (.tuple #[.agg zeroTok.toArray, .int .i64 8]) ∧ Below w.heap.size w w') →
      (s.size ≤ 100 → ∀ w, Calls Tryd.prog 35 #[.string k, .string s, .int .u64 (now : Int)] w fun e w' => e = .returned (.tuple #[.agg zeroTok.toArray, .int .i64 8]) ∧ Below w.heap.size w w') → ∃ T B R U c, Same k s now T B R U c := fun ha hb => by
    refine ⟨0, ⟨#[]⟩, 0, 0, 8, ha, fun w => ?_⟩
    by_cases hl : s.size ≤ 100
    · exact hb hl w
    · exact ref_open_long k s now w (by omega) (by omega)
  cases b4 with
  | true => exact deny (fun w hT => open_bad k s now n1 n3 n4 t r1 r2 r3 r4 b1 b2 b3 w hk hs hT h1 h2 h3 h4 l1 l3 (by omega)) (fun hl w => ref_open_bad k s now n1 n3 n4 t r1 r2 r3 r4 b1 b2 b3 w hk hl h1 h2 h3 h4 l1 l3 l4 (by omega))
  | false =>
    cases hR : M.right (n1 : Int) t.size (n3 : Int) with
    | false =>
      by_cases hL : now < n4
      · exact deny (fun w hT => open_wrong k s now n1 n3 n4 t r1 r2 r3 r4 b1 b2 b3 w hk hs hT h1 h2 h3 h4 l1 l3 (by omega) hR) (fun hl w => ref_open_wrong k s now n1 n3 n4 t r1 r2 r3 r4 b1 b2 b3 w hk hl h1 h2 h3 h4 l1 l3 l4 (by omega) hR hL)
      · exact deny (fun w hT => open_wrong k s now n1 n3 n4 t r1 r2 r3 r4 b1 b2 b3 w hk hs hT h1 h2 h3 h4 l1 l3 (by omega) hR) (fun hl w => ref_open_late k s now n1 n3 n4 t r1 r2 r3 r4 b1 b2 b3 w hk hl h1 h2 h3 h4 l1 l3 l4 (by omega) (by omega))
    | true =>
      by_cases hL : now < n4
      · obtain ⟨rfl, c4⟩ := RN_some _ _ _ _ _ h4
        obtain ⟨rfl, c3⟩ := RN_some _ _ _ _ _ h3
        obtain ⟨rfl, c2⟩ := RT_some _ _ _ _ _ h2
        have c1 := (RN_some _ _ _ _ _ h1).2
        have g1 := (rnum_canon _ 1 _ _ (by omega) (by omega) c1).1
        have g2 := (rtext_canon _ _ _ c2).1
        have g3 := (rnum_canon _ 1 _ _ (by omega) (by omega) c3).1
        have g4 := (rnum_canon _ 8 _ _ (by omega) (by omega) c4).1
        have hs' : s = S (M.plain n1 t.data.toList n3 n4 ++ r4.data.toList) := by
          rw [plain_app, ← g4, ← g3, ← g2, ← g1, S_of]
        have hhead : (s.extract 0 (s.size - r4.size)).data.toList = M.plain n1 t.data.toList n3 n4 := by
          have := head_of (M.plain n1 t.data.toList n3 n4) r4.data.toList
          rw [← hs', S_of] at this
          exact this
        have hiff : S (M.plain n1 t.data.toList n3 n4 ++ M.hmac k.data.toList (M.plain n1 t.data.toList n3 n4)) = s ↔ r4 = S (M.hmac k.data.toList (M.plain n1 t.data.toList n3 n4)) := by
          constructor
          · intro h
            rw [hs', S_inj] at h
            rw [← S_of r4, List.append_cancel_left h]
          · intro h
            rw [hs', h, S_list]
        by_cases hZ : r4 = S (M.hmac k.data.toList (M.plain n1 t.data.toList n3 n4))
        · refine ⟨(n1 : Int), t, (n3 : Int), (n4 : Int), 0, fun w hT => open_yes k s now n1 n3 n4 t r1 r2 r3 r4 _ _ _ w hk hs hT h1 h2 h3 h4 l1 l3 (by omega) hR hL (by rw [hhead, decide_eq_true_iff]; exact hZ), fun w => ref_open_yes k s now n1 n3 n4 t r1 r2 r3 r4 _ _ _ w hk ?_ h1 h2 h3 h4 l1 l3 l4 (by omega) hR hL (hiff.2 hZ)⟩
          rw [← hiff.2 hZ, S_size, List.length_append, M.hmac_length, plain_len, len_list]
          have := P.vary_le t.size
          omega
        · exact deny (fun w hT => open_other k s now n1 n3 n4 t r1 r2 r3 r4 _ _ _ w hk hs hT h1 h2 h3 h4 l1 l3 (by omega) hR hL (by rw [hhead, decide_eq_false_iff_not]; exact hZ)) (fun hl w => ref_open_other k s now n1 n3 n4 t r1 r2 r3 r4 _ _ _ w hk hl h1 h2 h3 h4 l1 l3 l4 (by omega) hR hL (fun h => hZ (hiff.1 h)))
      · exact deny (fun w hT => open_late k s now n1 n3 n4 t r1 r2 r3 r4 b1 b2 b3 w hk hs hT h1 h2 h3 h4 l1 l3 (by omega) hR (by omega)) (fun hl w => ref_open_late k s now n1 n3 n4 t r1 r2 r3 r4 b1 b2 b3 w hk hl h1 h2 h3 h4 l1 l3 l4 (by omega) (by omega))
end Go.Proofs.YtlodahlinncpcaaDoor.Mc
