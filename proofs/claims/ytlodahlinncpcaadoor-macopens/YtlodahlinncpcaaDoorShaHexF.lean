/- Hex. -/
import Derived.Test.YtlodahlinncpcaaDoorShaPad
namespace Go.Proofs.YtlodahlinncpcaaDoor
open Go.RowKit
set_option linter.unusedVariables false
set_option linter.unusedSimpArgs false
def digits : ByteArray := ⟨#[48, 49, 50, 51, 52, 53, 54, 55, 56, 57, 97, 98, 99, 100, 101, 102]⟩
theorem digit_at (n : Nat) (h : n < digits.size) : digits[n] = Q.digit n := by
  have h' : n < 16 := h
  match n, h' with
  | 0, _ | 1, _ | 2, _ | 3, _ | 4, _ | 5, _ | 6, _ | 7, _ | 8, _ | 9, _ | 10, _ | 11, _ | 12, _ | 13, _ | 14, _ | 15, _ => rfl
  | n + 16, h => omega
theorem OB.some {w : World} {base : Nat} {v : Value} {l : List UInt8} (h : OB w base v l) (hl : l ≠ []) : ∃ g n c, v = .slice (some ⟨g, 0, none⟩) n c := by
  obtain ⟨h1, h2⟩ := h
  rcases h2 with ⟨rfl, h0⟩ | ⟨g, cap, cur, rfl, hb, hg, hn, hm, hs, ht⟩
  · exact absurd (List.length_eq_zero_iff.1 h0) hl
  · exact ⟨g, _, cap, rfl⟩
theorem two_digits (q r : Nat) (hq : q < digits.size) (hr : r < digits.size) : [Value.int .u8 (digits[q].toNat : Int), .int .u8 (digits[r].toNat : Int)] = u8s [Q.digit q, Q.digit r] := by
  rw [digit_at q hq, digit_at r hr]; rfl
theorem hex_take (l : List UInt8) (t : Nat) (b : UInt8) (h : l[t]? = some b) : Q.hex (l.take (t + 1)) = Q.hex (l.take t) ++ [Q.digit (b.toNat / 16), Q.digit (b.toNat % 16)] := by
  rw [List.take_add_one, Q.hex_append, h]
  simp [Q.hex]
set_option maxHeartbeats 1000000 in
set_option maxRecDepth 100000 in
theorem hex_any (s : ByteArray) (w : World) (hs : s.size ≤ 70368744177000) :
    Calls Tryd.prog 15 #[.string s] w fun e w' => e = .returned (.string (S (Q.hex s.data.toList))) ∧ Below w.heap.size w w' := by
  obtain ⟨w1, hmk, HO, HB, Z1⟩ := make_bytes w .i64 .i64 0 (2 * s.size) (by omega) (by omega)
  have hmk' : (Instr.makeSlice 28 (.int .i64 0) (.int .i64 (2 * (s.size : Int)))).run Tryd.prog w = .ok (.slice (some ⟨w.heap.size, 0, none⟩) 0 (2 * s.size)) w1 := by
    have h := hmk
    rw [Int.natCast_mul] at h
    exact h
  have HO2 : Hid (OB w1 w.heap.size (.slice (some ⟨w.heap.size, 0, none⟩) 0 (2 * s.size)) (Q.hex (s.data.toList.take 0))) := HO
  have HB1 : Hid _ := HB
  clear hmk HO HB
  go_enter Tryd.func15, Tryd.ntmps15
  go_wp2_with fail
  clear hmk'
  go_loopw [11, 3] (fun i v wr => ∃ (t g n c : Nat), t ≤ s.size ∧ i = .int .i64 t ∧ v = .slice (some ⟨g, 0, none⟩) n c ∧ Hid (OB wr w.heap.size (.slice (some ⟨g, 0, none⟩) n c) (Q.hex (s.data.toList.take t))) ∧ Hid (Below w.heap.size w wr) ∧ w.heap.size + 1 ≤ wr.heap.size) (fun i _ _ => s.size - (intOf i).toNat)
  case atStart => exact ⟨0, _, _, _, by omega, rfl, rfl, HO2, HB1, by omega⟩
  case round =>
    clear HO2 HB1
    obtain ⟨t, g, n, c, ht, rfl, rfl, HO, HB, hzr⟩ := hrel
    by_cases hlt : t < s.size
    · have hb : s.data.toList[t]? = some s[t] := by
        rw [Array.getElem?_toList]
        exact Array.getElem?_eq_getElem (xs := s.data) hlt
      have HX : Hid _ := hex_take s.data.toList t s[t] hb
      have HLn : Hid ((Q.hex (s.data.toList.take t)).length ≤ 2 * t) := by
        show _ ≤ _
        rw [Q.hex_length, List.length_take]; omega
      obtain ⟨L, HL⟩ : ∃ r, Hid (Q.hex (s.data.toList.take t) = r) := ⟨_, rfl⟩
      rw [HL.out] at HO HX HLn
      clear HL hb
      have it : (t : Int) < s.size := by omega
      obtain ⟨q, hq⟩ : ∃ q, q = s[t].toNat / 16 := ⟨_, rfl⟩
      obtain ⟨r, hr⟩ : ∃ r, r = s[t].toNat % 16 := ⟨_, rfl⟩
      have hd : s[t].toNat < 256 := UInt8.toNat_lt _
      have eq : (s[t].toNat : Int) / 16 = (q : Int) := by omega
      have er : bits .and .u8 (s[t].toNat : Int) 15 = (r : Int) := by
        rw [show (15 : Int) = ((15 : Nat) : Int) from rfl, u8_and_nat _ _ hd (by omega), nat_mask4, hr]
      have iq : (q : Int) < 16 := by omega
      have ir : (r : Int) < 16 := by omega
      have iq' : q < 16 := by omega
      have ir' : r < 16 := by omega
      rw [← hq, ← hr] at HX
      have HC : Hid _ := two_digits q r iq' ir'
      have HL2 : Hid (L.length + 2 ≤ 140737488355328) := by have := HLn.out; show _ ≤ _; omega
      clear hq hr hd
      go_wp2_with fail
      go_region_law (refine step_append_bytes _ rfl _ _ rfl w.heap.size _ L rfl (OB.drew (OB.alloc HO.out _)) wr.heap.size 2 [Q.digit q, Q.digit r] rfl rfl ((World.rangeAt_drew _ _ _ _).2 (range_new wr _ _ _ HC.out)) HL2.out (by simp; omega) ?_; intro v' w5 ho hb; have HO5 : Hid _ := ho; have HB5 : Hid (Below w.heap.size w w5) := Below.trans (Below.drew (Below.alloc HB.out (by omega) _)) (hb.mono (by omega)); have hz5 : wr.heap.size + 1 ≤ w5.heap.size := (by have := hb.size; simpa using this); obtain ⟨g', n', c', rfl⟩ := OB.some ho (by simp); clear ho hb)
      all_goals
        go_wp2_with fail
        go_roundw
        case rel => exact ⟨t + 1, g', n', c', by omega, by go_num, rfl, by rw [HX.out]; exact HO5.out, HB5.out, by omega⟩
        case measure => simp [intOf]; omega
    · obtain rfl : t = s.size := by omega
      have e : s.data.toList.take s.size = s.data.toList := List.take_of_length_le (by rw [len_list]; exact Nat.le_refl _)
      have HO' := HO.out
      rw [e] at HO'
      have hs := HO'.strAt
      clear e HO HO'
      go_wp2_with fail
      go_ret
      exact ⟨rfl, HB.out⟩
end Go.Proofs.YtlodahlinncpcaaDoor
