/- The contracts of the document's own writers. -/
import Derived.Test.YtkfcbihofipcbaaPackPut

namespace Go.Proofs.Ytkfcbihofipcbaa.Pk

open Go.RowKit

set_option linter.unusedVariables false

set_option linter.unusedSimpArgs false

theorem OB.nil (w : World) (base : Nat) : OB w base (.slice none 0 0) [] := World.ownsRow_nil w base 5 1

set_option maxHeartbeats 400000 in
theorem ref_number_ok (n k : Nat) (w : World) (hn : n < 2 ^ 64) (h1 : 1 ≤ k) (h8 : k ≤ 8) :
    Calls Try.prog 39 #[.int .u64 n, .int .i64 k] w fun e w' => e = .returned (.string (P.S (P.numB n k))) ∧ Below w.heap.size w w' := by
  have HN : Hid _ := hn
  clear hn
  go_enter Try.func39, Try.ntmps39
  go_wp2_with fail
  go_loopw [5, 6] (fun v i wr => ∃ (j : Nat) (l : List UInt8), j ≤ k ∧ i = .int .i64 ((j : Int) - 1) ∧ Hid (OB wr w.heap.size v l) ∧ Hid (l ++ P.numB n j = P.numB n k) ∧ Hid (l.length + j = k) ∧ Below w.heap.size w wr) (fun _ i _ => (intOf i + 1).toNat)
  case atStart => exact ⟨k, [], by omega, by go_num, OB.nil _ _, rfl, by simp [Hid], Below.refl _ _⟩
  case round =>
    obtain ⟨j, l, hj, rfl, HR, HV, HF, hbr⟩ := hrel
    have hz := hbr.size
    have HB : Hid _ := hbr
    clear hbr
    have hl : l.length < 140737488355328 := by have := HF.out; omega
    by_cases hlt : 1 ≤ j
    · obtain ⟨i, rfl⟩ : ∃ i, j = i + 1 := ⟨j - 1, by omega⟩
      have HD : Hid ((l ++ [UInt8.ofNat (n / 256 ^ i)]) ++ P.numB n i = P.numB n k) := by
        rw [← HV.out]; simp [Hid, P.numB]
      have HQ : Hid _ := byte_of n i
      generalize UInt8.ofNat (n / 256 ^ i) = c at HD HQ
      go_wp2_with (at_builtin; refine append_byte _ rfl _ _ rfl w.heap.size _ l rfl (HR.out.alloc _) wr.heap.size rfl _ c ?c1 HQ.out ?c2 ?c3 ?_)
      case c1 => simp [go_sem]
      case c2 => exact hl
      case c3 => simp; omega
      intro v' w1 ho hb
      have HB1 : Hid _ := (HB.out.alloc (by omega) _).trans hb
      have HO1 : Hid _ := ho
      clear ho hb
      go_wp2_with fail
      go_roundw
      case rel => exact ⟨i, l ++ [c], by omega, by go_num, HO1, HD, by have := HF.out; simp [Hid]; omega, HB1.out⟩
      case measure => simp [intOf]
    · obtain rfl : j = 0 := by omega
      have HD : Hid (l = P.numB n k) := by have := HV.out; simpa [P.numB, Hid] using this
      have hs := HR.out.str (by intro e; have := HF.out; rw [e] at this; simp at this; omega)
      rw [HD.out] at hs
      go_wp2_with fail
      go_ret
      exact ⟨rfl, HB.out⟩

set_option maxHeartbeats 400000 in
theorem ref_number_no (n k : Int) (w : World) (h : k < 1 ∨ 8 < k) :
    Calls Try.prog 39 #[.int .u64 n, .int .i64 k] w fun e w' => e = .returned (.string ⟨#[]⟩) ∧ w' = w := by
  rcases h with h | h
  · go_enter Try.func39, Try.ntmps39
    go_wp2_with fail
    go_ret
    exact ⟨rfl, rfl⟩
  · have h' : decide (k < 1) = false := by simp; omega
    go_enter Try.func39, Try.ntmps39
    go_wp2_with fail
    go_ret
    exact ⟨rfl, rfl⟩
theorem ref_number_any (n : Nat) (k : Int) (w : World) (hn : n < 2 ^ 64) :
    Calls Try.prog 39 #[.int .u64 n, .int .i64 k] w fun e w' => e = .returned (.string (numS n k)) ∧ Below w.heap.size w w' := by
  unfold numS
  by_cases h : k < 1 ∨ 8 < k
  · rw [if_pos h]
    refine (ref_number_no n k w h).mono ?_
    rintro e w' ⟨rfl, rfl⟩
    exact ⟨rfl, Below.refl _ _⟩
  · rw [if_neg h]
    obtain ⟨j, rfl⟩ := Int.eq_ofNat_of_zero_le (show 0 ≤ k by omega)
    rw [Int.toNat_natCast]
    exact ref_number_ok n j w hn (by omega) (by omega)

set_option maxHeartbeats 400000 in
set_option maxRecDepth 100000 in
theorem ref_vary_any (n : Nat) (w : World) (hn : n < 2 ^ 64) :
    Calls Try.prog 60 #[.int .u64 n] w fun e w' => e = .returned (.string (P.S (P.vary n))) ∧ Below w.heap.size w w' := by
  have HN : Hid _ := hn
  clear hn
  have HO : Hid _ := OB.nil w w.heap.size
  have hB : Below w.heap.size w w := Below.refl _ _
  go_enter Try.func60, Try.ntmps60
  go_wp2_with fail
  go_loopw [3, 0] (fun v t wr => ∃ (f m : Nat) (l : List UInt8), t = .int .u64 m ∧ Hid (OB wr w.heap.size v l) ∧ Hid (l ++ P.varyF f m = P.vary n) ∧ Hid (m < 2 ^ (7 * f + 1)) ∧ Hid (l.length + f = 9) ∧ Below w.heap.size w wr) (fun _ t _ => (intOf t).toNat)
  case atStart => exact ⟨9, n, [], rfl, HO, rfl, HN, rfl, hB⟩
  case round =>
    obtain ⟨f, m, l, rfl, HR, HV, HM, HF, hbr⟩ := hrel
    have hz := hbr.size
    have HB : Hid _ := hbr
    clear hB hbr
    have hl : l.length < 140737488355328 := by have := HF.out; omega
    have hm64 : (m : Int) ≤ 18446744073709551615 := by
      have h1 := HM.out
      have h2 : 2 ^ (7 * f + 1) ≤ 2 ^ 64 := Nat.pow_le_pow_right (by omega) (by have := HF.out; omega)
      omega
    by_cases hlt : m < 128
    · have HD : Hid (l ++ [UInt8.ofNat m] = P.vary n) := by rw [← HV.out, P.varyF_lt _ _ hlt]; rfl
      have HQ : Hid _ := byte_lo m hlt
      generalize UInt8.ofNat m = c at HD HQ
      go_wp2_with (at_builtin; refine append_byte _ rfl _ _ rfl w.heap.size _ l rfl (HR.out.alloc _) wr.heap.size rfl _ c ?c1 HQ.out ?c2 ?c3 ?_)
      case c1 => simp [go_sem]
      case c2 => exact hl
      case c3 => simp; omega
      intro v' w1 ho hb
      have hs := ho.str (by simp)
      rw [HD.out] at hs
      have HB1 : Hid _ := (HB.out.alloc (by omega) _).trans hb
      clear ho hb
      go_wp2_with fail
      go_ret
      exact ⟨rfl, HB1.out⟩
    · obtain ⟨f, rfl⟩ : ∃ g, f = g + 1 := by
        cases f with
        | zero => have := HM.out; simp at this; omega
        | succ g => exact ⟨g, rfl⟩
      have HD : Hid ((l ++ [UInt8.ofNat (m % 128 + 128)]) ++ P.varyF f (m / 128) = P.vary n) := by
        rw [← HV.out, P.varyF_ge _ _ hlt]; simp [Hid]
      have HE : Hid (m / 128 < 2 ^ (7 * f + 1)) := by
        have := HM.out
        show _ < _
        rw [Nat.div_lt_iff_lt_mul (by omega)]
        have e : 2 ^ (7 * (f + 1) + 1) = 2 ^ (7 * f + 1) * 128 := by
          rw [show 7 * (f + 1) + 1 = (7 * f + 1) + 7 by omega, Nat.pow_add]
        omega
      have HQ : Hid _ := byte_hi m
      generalize UInt8.ofNat (m % 128 + 128) = c at HD HQ
      go_wp2_with (at_builtin; refine append_byte _ rfl _ _ rfl w.heap.size _ l rfl (HR.out.alloc _) wr.heap.size rfl _ c ?c1 HQ.out ?c2 ?c3 ?_)
      case c1 => simp [go_sem]
      case c2 => exact hl
      case c3 => simp; omega
      intro v' w1 ho hb
      have HB1 : Hid _ := (HB.out.alloc (by omega) _).trans hb
      have HO1 : Hid _ := ho
      clear ho hb
      go_wp2_with fail
      go_roundw
      case rel => exact ⟨f, m / 128, l ++ [c], by go_num, HO1, HD, HE, by have := HF.out; simp [Hid]; omega, HB1.out⟩
      case measure => simp [intOf]; omega

set_option maxHeartbeats 400000 in
theorem ref_text_any (s : ByteArray) (w : World) (hs : s.size ≤ 4611686018427387904) :
    Calls Try.prog 40 #[.string s] w fun e w' => e = .returned (.string (textS s)) ∧ Below w.heap.size w w' := by
  have C : Hid _ := fun w => ref_vary_any s.size w (by omega)
  have hsz : (P.S (P.vary s.size)).size ≤ 10 := by rw [P.S_size]; exact P.vary_le _
  have HT : Hid (P.S (P.vary s.size) ++ s = textS s) := rfl
  generalize P.S (P.vary s.size) = v at *
  go_enter Try.func40, Try.ntmps40
  go_wp2_with fail
  refine (C.out _).mono ?_; rintro e w1 ⟨rfl, hb⟩
  go_wp2_with fail
  go_ret
  rw [HT.out]
  exact ⟨rfl, hb⟩
end Go.Proofs.Ytkfcbihofipcbaa.Pk
