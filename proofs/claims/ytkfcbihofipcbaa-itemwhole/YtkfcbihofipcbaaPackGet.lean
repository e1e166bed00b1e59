/- The contracts of pack's reader. -/
import Derived.Test.YtkfcbihofipcbaaPackSmall

namespace Go.Proofs.Ytkfcbihofipcbaa.Pk

open Go.RowKit

set_option linter.unusedVariables false

set_option linter.unusedSimpArgs false

theorem bcell {W w1 : World} (hb : Below W.heap.size W w1) : (∀ b o, b < W.heap.size → w1.cell? ⟨b, o, none⟩ = W.cell? ⟨b, o, none⟩) ∧ (∀ b o, b < W.heap.size → w1.frozen? ⟨b, o, none⟩ = W.frozen? ⟨b, o, none⟩) :=
  ⟨fun b o h => hb.cell (p := ⟨b, o, none⟩) h, fun b o h => hb.frozen (p := ⟨b, o, none⟩) h⟩

set_option maxHeartbeats 400000 in
theorem rnumber_bad (s : ByteArray) (k : Int) (w : World) :
    Calls Try.prog 69 #[.agg #[.string s, .bool true], .int .i64 k] w fun e w' => e = .returned (.tuple #[.int .u64 0, .agg #[.string ⟨#[]⟩, .bool true]]) ∧ Below w.heap.size w w' := by
  go_enter Try.func69, Try.ntmps69
  go_wp2_with fail
  refine (bad_any _).mono ?_; rintro e w1 ⟨rfl, hb⟩
  obtain ⟨hc, hf⟩ := bcell hb
  have hz : w.heap.size + 1 < w1.heap.size := by have := hb.size; simp at this; omega
  go_wp2_with fail
  exact bodyPost_ret (v := .tuple #[.int .u64 0, .agg #[.string ⟨#[]⟩, .bool true]]) (by simp [results, Try.results69, go_sem, hc, hz]) rfl ⟨rfl, (((((Below.refl _ _).alloc (Nat.le_refl _) _).alloc (by simp) _).trans (hb.mono (by simp; omega))).setCell (by simp) _).setCell (by simp) _⟩

theorem or_byte (x c : Nat) (hx : x < 2 ^ 56) (hc : c < 256) : bits .or .u64 (IntKind.u64.wrap ((x : Int) * 256)) (IntKind.u64.wrap (c : Int)) = ((x * 256 + c : Nat) : Int) := by
  have h1 : IntKind.u64.wrap ((x : Int) * 256) = ((x * 256 : Nat) : Int) := by rw [IntKind.wrap_u64]; omega
  have h2 : IntKind.u64.wrap (c : Int) = (c : Int) := by rw [IntKind.wrap_u64]; omega
  rw [h1, h2, u64_or_nat _ _ (by omega) (by omega)]
  congr 1
  have := Nat.two_pow_add_eq_or_of_lt (i := 8) (b := c) (by omega) x
  rw [Nat.mul_comm] at this
  exact this.symm
theorem take_snoc (s : ByteArray) (k : Nat) (h : k < s.size) : s.data.toList.take (k + 1) = s.data.toList.take k ++ [s[k]] := by
  rw [List.take_succ_eq_append_getElem (by simpa using h)]; rfl

set_option maxHeartbeats 400000 in
theorem rnumber_ok (s : ByteArray) (k : Nat) (w : World) (hs : s.size ≤ maxLen) (h1 : 1 ≤ k) (h8 : k ≤ 8) (hk : k ≤ s.size) :
    Calls Try.prog 69 #[.agg #[.string s, .bool false], .int .i64 k] w fun e w' => e = .returned (.tuple #[.int .u64 (P.val (s.data.toList.take k)), .agg #[.string (s.extract k s.size), .bool false]]) ∧ Below w.heap.size w w' := by
  have hs' := hs
  unfold maxLen at hs'
  go_enter Try.func69, Try.ntmps69
  go_wp2_with fail
  refine (sized_yes _ _ (by omega) (by omega)).mono ?_; rintro e w1 ⟨rfl, rfl⟩
  go_wp2_with fail
  go_loop [4, 23] (fun t i => ∃ j : Nat, j ≤ k ∧ i = .int .i64 j ∧ t = .int .u64 (P.val (s.data.toList.take j))) (fun _ i => k - (intOf i).toNat)
  case atStart => exact ⟨0, Nat.zero_le _, rfl, rfl⟩
  case round =>
    obtain ⟨j, hj, rfl, rfl⟩ := hrel
    by_cases hlt : j < k
    · have hjs : j < s.size := by omega
      have HN : Hid (P.val (s.data.toList.take (j + 1)) = P.val (s.data.toList.take j) * 256 + s[j].toNat) := by
        show _ = _
        rw [take_snoc s j hjs, P.val_snoc]
      have HX : Hid (P.val (s.data.toList.take j) < 2 ^ 56) := by
        have h1 := P.val_lt (s.data.toList.take j)
        have h2 : (s.data.toList.take j).length ≤ 7 := Nat.le_trans (List.length_take_le _ _) (by omega)
        have h3 : 256 ^ (s.data.toList.take j).length ≤ 256 ^ 7 := Nat.pow_le_pow_right (by omega) h2
        have h4 : (256 : Nat) ^ 7 = 2 ^ 56 := by decide
        show _ < _
        omega
      generalize P.val (s.data.toList.take j) = x at *
      go_wp2_with fail
      go_round
      case rel => exact ⟨j + 1, by omega, by go_num, by rw [HN.out, or_byte x _ HX.out s[j].toNat_lt]⟩
      case measure => simp [intOf]; omega
    · obtain rfl : j = k := by omega
      go_wp2_with fail
      refine (behind_any s false j _ hs (by omega) (by omega)).mono ?_; rintro e w1 ⟨rfl, hb⟩
      rw [Int.toNat_natCast]
      obtain ⟨hc, hf⟩ := bcell hb
      have hz : w.heap.size + 1 < w1.heap.size := by have := hb.size; simp at this; omega
      go_wp2_with fail
      exact bodyPost_ret (v := .tuple #[.int .u64 (P.val (s.data.toList.take j)), .agg #[.string (s.extract j s.size), .bool false]]) (by simp [results, Try.results69, go_sem, hc, hz]) rfl ⟨rfl, (((((Below.refl _ _).alloc (Nat.le_refl _) _).alloc (by simp) _).trans (hb.mono (by simp; omega))).setCell (by simp) _).setCell (by simp) _⟩

set_option maxHeartbeats 400000 in
theorem rnumber_no (s : ByteArray) (k : Int) (w : World) (hs : s.size ≤ maxLen) (h : k < 1 ∨ 8 < k ∨ (s.size : Int) < k) :
    Calls Try.prog 69 #[.agg #[.string s, .bool false], .int .i64 k] w fun e w' => e = .returned (.tuple #[.int .u64 0, .agg #[.string ⟨#[]⟩, .bool true]]) ∧ Below w.heap.size w w' := by
  unfold maxLen at hs
  by_cases hk : k < 1 ∨ 8 < k
  · go_enter Try.func69, Try.ntmps69
    go_wp2_with fail
    refine (sized_no _ _ hk).mono ?_; rintro e w1 ⟨rfl, rfl⟩
    go_wp2_with fail
    refine (bad_any _).mono ?_; rintro e w1 ⟨rfl, hb⟩
    obtain ⟨hc, hf⟩ := bcell hb
    have hz : w.heap.size + 1 < w1.heap.size := by have := hb.size; simp at this; omega
    go_wp2_with fail
    exact bodyPost_ret (v := .tuple #[.int .u64 0, .agg #[.string ⟨#[]⟩, .bool true]]) (by simp [results, Try.results69, go_sem, hc, hz]) rfl ⟨rfl, (((((Below.refl _ _).alloc (Nat.le_refl _) _).alloc (by simp) _).trans (hb.mono (by simp; omega))).setCell (by simp) _).setCell (by simp) _⟩
  · have hk' : (s.size : Int) < k := by omega
    have h1 : 1 ≤ k := by omega
    have h8 : k ≤ 8 := by omega
    clear h hk
    go_enter Try.func69, Try.ntmps69
    go_wp2_with fail
    refine (sized_yes _ _ h1 h8).mono ?_; rintro e w1 ⟨rfl, rfl⟩
    go_wp2_with fail
    refine (bad_any _).mono ?_; rintro e w1 ⟨rfl, hb⟩
    obtain ⟨hc, hf⟩ := bcell hb
    have hz : w.heap.size + 1 < w1.heap.size := by have := hb.size; simp at this; omega
    go_wp2_with fail
    exact bodyPost_ret (v := .tuple #[.int .u64 0, .agg #[.string ⟨#[]⟩, .bool true]]) (by simp [results, Try.results69, go_sem, hc, hz]) rfl ⟨rfl, (((((Below.refl _ _).alloc (Nat.le_refl _) _).alloc (by simp) _).trans (hb.mono (by simp; omega))).setCell (by simp) _).setCell (by simp) _⟩

/-- Number, of any reader -/
theorem rnumber_any (s : ByteArray) (b : Bool) (k : Int) (n : Nat) (t : ByteArray) (b' : Bool) (w : World) (hs : s.size ≤ maxLen) (h : P.RN s b k = (n, t, b')) :
    Calls Try.prog 69 #[.agg #[.string s, .bool b], .int .i64 k] w fun e w' => e = .returned (.tuple #[.int .u64 n, .agg #[.string t, .bool b']]) ∧ Below w.heap.size w w' := by
  cases b with
  | true =>
    simp [P.RN, P.outN] at h
    obtain ⟨rfl, rfl, rfl⟩ := h
    exact rnumber_bad s k w
  | false =>
    by_cases hk : k < 1 ∨ 8 < k ∨ (s.size : Int) < k
    · have e : P.rnum s.data.toList k = none := by unfold P.rnum; rw [if_pos (by rw [P.len_list]; exact hk)]
      simp [P.RN, P.outN, e] at h
      obtain ⟨rfl, rfl, rfl⟩ := h
      exact rnumber_no s k w hs hk
    · obtain ⟨j, rfl⟩ := Int.eq_ofNat_of_zero_le (show 0 ≤ k by omega)
      have e : P.rnum s.data.toList j = some (P.val (s.data.toList.take j), s.data.toList.drop j) := by
        unfold P.rnum; rw [if_neg (by rw [P.len_list]; exact hk), Int.toNat_natCast]
      have := rnumber_ok s j w hs (by omega) (by omega) (by omega)
      rw [P.ext_rest] at this
      simp [P.RN, P.outN, e] at h
      obtain ⟨rfl, rfl, rfl⟩ := h
      exact this

theorem rvary_bad (s : ByteArray) (w : World) :
    Calls Try.prog 81 #[.agg #[.string s, .bool true]] w fun e w' => e = .returned (.tuple #[.int .u64 0, .agg #[.string ⟨#[]⟩, .bool true]]) ∧ Below w.heap.size w w' := by
  go_enter Try.func81, Try.ntmps81
  go_wp2_with fail
  refine (bad_any _).mono ?_; rintro e w1 ⟨rfl, hb⟩
  obtain ⟨hc, hf⟩ := bcell hb
  have hz : w.heap.size + 1 < w1.heap.size := by have := hb.size; simp at this; omega
  go_wp2_with fail
  exact bodyPost_ret (v := .tuple #[.int .u64 0, .agg #[.string ⟨#[]⟩, .bool true]]) (by simp [results, Try.results81, go_sem, hc, hz]) rfl ⟨rfl, (((((Below.refl _ _).alloc (Nat.le_refl _) _).alloc (by simp) _).trans (hb.mono (by simp; omega))).setCell (by simp) _).setCell (by simp) _⟩

theorem or_grp (x j c : Nat) (hx : x < 128 ^ j) (h64 : x < 2 ^ 64) :
    bits .or .u64 (x : Int) (IntKind.u64.wrap ((c : Int) % 128 * 2 ^ (7 * j))) = (((x + (c % 128) * 128 ^ j) % 2 ^ 64 : Nat) : Int) := by
  have h1 : IntKind.u64.wrap ((c : Int) % 128 * 2 ^ (7 * j)) = (((c % 128 * 2 ^ (7 * j)) % 2 ^ 64 : Nat) : Int) := by
    rw [IntKind.wrap_u64]; simp
  rw [h1, u64_or_nat _ _ (by omega) (by omega), P.or_group x (c % 128) j hx h64]
theorem byte_at (s : ByteArray) (j : Nat) (h : j < s.size) (h' : j < s.data.toList.length) : s.data.toList[j] = s[j] := rfl

set_option maxHeartbeats 400000 in
set_option maxRecDepth 100000 in
theorem rvary_ok (s : ByteArray) (w : World) (hs : s.size ≤ maxLen) (n : Nat) (t : ByteArray) (b' : Bool) (h : P.outN (P.rvary s.data.toList) = (n, t, b')) :
    Calls Try.prog 81 #[.agg #[.string s, .bool false]] w fun e w' => e = .returned (.tuple #[.int .u64 n, .agg #[.string t, .bool b']]) ∧ Below w.heap.size w w' := by
  have HH : Hid _ := h
  clear h
  have hs' := hs
  unfold maxLen at hs'
  have hl := P.len_list s
  have HL : Hid _ := hl
  clear hl
  go_enter Try.func81, Try.ntmps81
  go_wp2_with fail
  all_goals
    go_loop [4, 14] (fun t i => ∃ j x : Nat, j ≤ 10 ∧ j ≤ s.size ∧ i = .int .i64 j ∧ t = .int .u64 x ∧ Hid (P.Inv s.data.toList j x)) (fun _ i => 10 - (intOf i).toNat)
    case atStart => exact ⟨0, 0, by omega, by omega, rfl, rfl, P.Inv.start _⟩
    case round =>
      obtain ⟨j, x, hj10, hjs, rfl, rfl, HI⟩ := hrel
      by_cases hlt : j < s.size ∧ j < 10
      · obtain ⟨hlt1, hlt2⟩ := hlt
        have hb2 := s[j].toNat_lt
        have HO : Hid (bits .or .u64 (x : Int) (IntKind.u64.wrap ((s[j].toNat : Int) % 128 * 2 ^ (7 * j))) = (((x + (s[j].toNat % 128) * 128 ^ j) % 2 ^ 64 : Nat) : Int)) :=
          or_grp x j s[j].toNat (HI.out.2.1 (by omega)).1 HI.out.1
        by_cases hb : 128 ≤ s[j].toNat
        · have HS : Hid (P.Inv s.data.toList (j + 1) ((x + (s[j].toNat % 128) * 128 ^ j) % 2 ^ 64)) :=
            HI.out.step (by rw [HL.out]; exact hlt1) (by omega) hb
          go_wp2_with fail
          go_round
          case rel => exact ⟨j + 1, _, by omega, by omega, by go_num, by rw [HO.out], HS⟩
          case measure => simp [intOf]; omega
        · cases he : P.endsB s[j].toNat j with
          | true =>
            have HE : Hid (P.endsB s[j].toNat j = true) := he
            clear he
            have HR : Hid (P.rvary s.data.toList = some ((x + (s[j].toNat % 128) * 128 ^ j) % 2 ^ 64, s.data.toList.drop (j + 1))) :=
              HI.out.ends (by rw [HL.out]; exact hlt1) (by omega) (Nat.lt_of_not_le hb) HE.out
            go_wp2_with fail
            refine (ends_any _ _ _ hb2 hlt2).mono ?_; rintro e w1 ⟨rfl, rfl⟩
            rw [HE.out]
            go_wp2_with fail
            refine (behind_any s false _ _ hs (by omega) (by omega)).mono ?_; rintro e w1 ⟨rfl, hb⟩
            have h := HH.out
            rw [HR.out] at h
            simp only [P.outN, Prod.mk.injEq] at h
            obtain ⟨h1, h2, rfl⟩ := h
            rw [show ((j : Int) + 1).toNat = j + 1 by omega, P.ext_rest, HO.out, h1, h2]
            clear h1 h2
            obtain ⟨hc, hf⟩ := bcell hb
            have hz : w.heap.size + 1 < w1.heap.size := by have := hb.size; simp at this; omega
            go_wp2_with fail
            exact bodyPost_ret (v := .tuple #[.int .u64 n, .agg #[.string t, .bool false]]) (by simp [results, Try.results81, go_sem, hc, hz]) rfl ⟨rfl, (((((Below.refl _ _).alloc (Nat.le_refl _) _).alloc (by simp) _).trans (hb.mono (by simp; omega))).setCell (by simp) _).setCell (by simp) _⟩
          | false =>
            have HE : Hid (P.endsB s[j].toNat j = false) := he
            clear he
            have h := HH.out
            rw [HI.out.ends_not (by rw [HL.out]; exact hlt1) (by omega) (Nat.lt_of_not_le hb) HE.out] at h
            simp only [P.outN, Prod.mk.injEq] at h
            obtain ⟨rfl, rfl, rfl⟩ := h
            go_wp2_with fail
            refine (ends_any _ _ _ hb2 hlt2).mono ?_; rintro e w1 ⟨rfl, rfl⟩
            rw [HE.out]
            go_wp2_with fail
            refine (bad_any _).mono ?_; rintro e w1 ⟨rfl, hb⟩
            obtain ⟨hc, hf⟩ := bcell hb
            have hz : w.heap.size + 1 < w1.heap.size := by have := hb.size; simp at this; omega
            go_wp2_with fail
            exact bodyPost_ret (v := .tuple #[.int .u64 0, .agg #[.string ⟨#[]⟩, .bool true]]) (by simp [results, Try.results81, go_sem, hc, hz]) rfl ⟨rfl, (((((Below.refl _ _).alloc (Nat.le_refl _) _).alloc (by simp) _).trans (hb.mono (by simp; omega))).setCell (by simp) _).setCell (by simp) _⟩
      · have h := HH.out
        rw [HI.out.over hj10 (by rw [HL.out]; omega)] at h
        simp only [P.outN, Prod.mk.injEq] at h
        obtain ⟨rfl, rfl, rfl⟩ := h
        go_wp2_with fail
        refine (bad_any _).mono ?_; rintro e w1 ⟨rfl, hb⟩
        obtain ⟨hc, hf⟩ := bcell hb
        have hz : w.heap.size + 1 < w1.heap.size := by have := hb.size; simp at this; omega
        go_wp2_with fail
        exact bodyPost_ret (v := .tuple #[.int .u64 0, .agg #[.string ⟨#[]⟩, .bool true]]) (by simp [results, Try.results81, go_sem, hc, hz]) rfl ⟨rfl, (((((Below.refl _ _).alloc (Nat.le_refl _) _).alloc (by simp) _).trans (hb.mono (by simp; omega))).setCell (by simp) _).setCell (by simp) _⟩
/-- Vary, of any reader -/
theorem rvary_any (s : ByteArray) (b : Bool) (n : Nat) (t : ByteArray) (b' : Bool) (w : World) (hs : s.size ≤ maxLen) (h : P.RV s b = (n, t, b')) :
    Calls Try.prog 81 #[.agg #[.string s, .bool b]] w fun e w' => e = .returned (.tuple #[.int .u64 n, .agg #[.string t, .bool b']]) ∧ Below w.heap.size w w' := by
  cases b with
  | true =>
    simp [P.RV, P.outN] at h
    obtain ⟨rfl, rfl, rfl⟩ := h
    exact rvary_bad s w
  | false => exact rvary_ok s w hs n t b' h
end Go.Proofs.Ytkfcbihofipcbaa.Pk
