/- The program's item: named, Right, Size, Shard. -/
import Derived.Test.YtkfcbihofipcbaaItemRB

namespace Go.Proofs.Ytkfcbihofipcbaa.It

open Go.RowKit Go.Proofs.Ytkfcbihofipcbaa.Vc Go.Proofs.Ytkfcbihofipcbaa.Sp

set_option linter.unusedVariables false

set_option linter.unusedSimpArgs false

set_option maxRecDepth 100000

set_option maxHeartbeats 1000000 in
theorem named_any (s : ByteArray) (w : World) :
    Calls Try.prog 42 #[.string s] w fun e w' => e = .returned (.bool (decide (1 ≤ s.size ∧ s.size ≤ 16))) ∧ w' = w := by
  by_cases h1 : 1 ≤ s.size
  · have i1 : (1 : Int) ≤ (s.size : Int) := by omega
    by_cases h2 : s.size ≤ 16
    · have i2 : (s.size : Int) ≤ 16 := by omega
      rw [decide_eq_true (show 1 ≤ s.size ∧ s.size ≤ 16 from ⟨h1, h2⟩)]
      go_enter Try.func42, Try.ntmps42
      go_wp2_with fail
      go_ret
      exact ⟨rfl, rfl⟩
    · have i2 : decide ((s.size : Int) ≤ 16) = false := by simp; omega
      rw [decide_eq_false (show ¬ (1 ≤ s.size ∧ s.size ≤ 16) from fun h => h2 h.2)]
      go_enter Try.func42, Try.ntmps42
      go_wp2_with fail
      go_ret
      exact ⟨rfl, rfl⟩
  · have i1 : decide ((1 : Int) ≤ (s.size : Int)) = false := by simp; omega
    rw [decide_eq_false (show ¬ (1 ≤ s.size ∧ s.size ≤ 16) from fun h => h1 h.1)]
    go_enter Try.func42, Try.ntmps42
    go_wp2_with fail
    go_ret
    exact ⟨rfl, rfl⟩
set_option maxHeartbeats 4000000 in
theorem wright_any (x : I.Wt) (w : World) :
    Calls Try.prog 18 #[WV x] w fun e w' => e = .returned (.bool (I.right x)) ∧ Below w.heap.size w w' := by
  obtain ⟨b, k, v, g⟩ := x
  obtain ⟨r, HR⟩ : ∃ r, Hid (I.right (b, k, v, g) = r) := ⟨_, rfl⟩
  rw [HR.out]
  have hR := HR.out
  unfold I.right at hR
  simp only at hR
  clear HR
  have CB := Lib.hid (fun w => named_any b w)
  have CK := Lib.hid (fun w => named_any k w)
  go_enter Try.func18, Try.ntmps18
  go_wp2_with (first | refine blk_box rfl 23 _ rfl [.string b, .string k, .string v, .bool g] rfl ?_)
  intro w1 A1 B1 Z1
  have HB1 : Hid (Below w.heap.size w w1) := B1
  have c0 := A1.cell 0 _ rfl
  have c1 := A1.cell 1 _ rfl
  have c2 := A1.cell 2 _ rfl
  have c3 := A1.cell 3 _ rfl
  clear A1 B1 Z1
  by_cases h12 : 1 ≤ b.size ∧ b.size ≤ 16
  · rw [decide_eq_true h12] at CB
    by_cases h34 : 1 ≤ k.size ∧ k.size ≤ 16
    · rw [decide_eq_true h34] at CK
      by_cases h5 : v.size ≤ 32
      · have i5 : (v.size : Int) ≤ 32 := by omega
        cases g with
        | false =>
          obtain rfl : true = r := by rw [← hR]; simp [h12, h34, h5]
          clear hR h12 h34
          go_wp2_with fail
          refine (CB.out _).mono ?_; rintro e w2 ⟨rfl, rfl⟩
          go_wp2_with fail
          refine (CK.out _).mono ?_; rintro e w3 ⟨rfl, rfl⟩
          go_wp2_with fail
          go_ret
          exact ⟨rfl, HB1.out⟩
        | true =>
          by_cases h6 : v.size = 0
          · obtain rfl : true = r := by rw [← hR]; simp [h12, h34, h6]
            have hE : v.toList.isEmpty = true := by
              rw [ByteArray.toList_eq, List.isEmpty_iff]
              exact List.eq_nil_of_length_eq_zero (by rw [P.len_list]; exact h6)
            clear hR h12 h34
            go_wp2_with fail
            refine (CB.out _).mono ?_; rintro e w2 ⟨rfl, rfl⟩
            go_wp2_with fail
            refine (CK.out _).mono ?_; rintro e w3 ⟨rfl, rfl⟩
            go_wp2_with fail
            go_ret
            exact ⟨rfl, HB1.out⟩
          · obtain rfl : false = r := by rw [← hR]; simp [h6]
            have hE := V.empty_not v h6
            clear hR h12 h34
            go_wp2_with fail
            go_ret
            exact ⟨rfl, HB1.out⟩
      · obtain rfl : false = r := by rw [← hR]; simp [h5]
        have i : decide ((v.size : Int) ≤ 32) = false := by simp; omega
        have h6 : v.size ≠ 0 := by omega
        have hE := V.empty_not v h6
        clear hR h12 h34 h5 h6
        cases g with
        | false =>
          go_wp2_with fail
          refine (CB.out _).mono ?_; rintro e w2 ⟨rfl, rfl⟩
          go_wp2_with fail
          refine (CK.out _).mono ?_; rintro e w3 ⟨rfl, rfl⟩
          go_wp2_with fail
          go_ret
          exact ⟨rfl, HB1.out⟩
        | true =>
          go_wp2_with fail
          go_ret
          exact ⟨rfl, HB1.out⟩
    · rw [decide_eq_false h34] at CK
      obtain rfl : false = r := by rw [← hR, decide_eq_false (show ¬ (1 ≤ b.size ∧ b.size ≤ 16 ∧ 1 ≤ k.size ∧ k.size ≤ 16 ∧ v.size ≤ 32) by omega)]; rfl
      clear hR h12 h34
      cases g with
      | false =>
        go_wp2_with fail
        refine (CB.out _).mono ?_; rintro e w2 ⟨rfl, rfl⟩
        go_wp2_with fail
        refine (CK.out _).mono ?_; rintro e w3 ⟨rfl, rfl⟩
        go_wp2_with fail
        go_ret
        exact ⟨rfl, HB1.out⟩
      | true =>
        cases hE : v.toList.isEmpty with
        | true =>
          go_wp2_with fail
          refine (CB.out _).mono ?_; rintro e w2 ⟨rfl, rfl⟩
          go_wp2_with fail
          refine (CK.out _).mono ?_; rintro e w3 ⟨rfl, rfl⟩
          go_wp2_with fail
          go_ret
          exact ⟨rfl, HB1.out⟩
        | false =>
          go_wp2_with fail
          go_ret
          exact ⟨rfl, HB1.out⟩
  · rw [decide_eq_false h12] at CB
    obtain rfl : false = r := by rw [← hR, decide_eq_false (show ¬ (1 ≤ b.size ∧ b.size ≤ 16 ∧ 1 ≤ k.size ∧ k.size ≤ 16 ∧ v.size ≤ 32) by omega)]; rfl
    clear hR h12
    cases g with
    | false =>
      go_wp2_with fail
      refine (CB.out _).mono ?_; rintro e w2 ⟨rfl, rfl⟩
      go_wp2_with fail
      go_ret
      exact ⟨rfl, HB1.out⟩
    | true =>
      cases hE : v.toList.isEmpty with
      | true =>
        go_wp2_with fail
        refine (CB.out _).mono ?_; rintro e w2 ⟨rfl, rfl⟩
        go_wp2_with fail
        go_ret
        exact ⟨rfl, HB1.out⟩
      | false =>
        go_wp2_with fail
        go_ret
        exact ⟨rfl, HB1.out⟩
set_option maxHeartbeats 1000000 in
theorem wsize_any (x : I.Wt) (w : World) (hx : I.Ok x) :
    Calls Try.prog 20 #[WV x] w fun e w' => e = .returned (.int .i64 (I.size x : Nat)) ∧ Below w.heap.size w w' := by
  obtain ⟨b, k, v, g⟩ := x
  have hb := hx.b
  have hk := hx.k
  have hv := hx.v
  simp only at hb hk hv
  unfold I.size
  simp only
  clear hx
  go_enter Try.func20, Try.ntmps20
  go_wp2_with (first | refine blk_box rfl 23 _ rfl [.string b, .string k, .string v, .bool g] rfl ?_)
  intro w1 A1 B1 Z1
  have HB1 : Hid (Below w.heap.size w w1) := B1
  have c0 := A1.cell 0 _ rfl
  have c1 := A1.cell 1 _ rfl
  have c2 := A1.cell 2 _ rfl
  have c3 := A1.cell 3 _ rfl
  clear A1 B1 Z1
  cases g with
  | true =>
    go_wp2_with fail
    go_ret
    exact ⟨rfl, HB1.out⟩
  | false =>
    have e1 : IntKind.i64.wrap ((b.size : Int) + (k.size : Int)) = (b.size : Int) + (k.size : Int) := wrapi (by omega) (by omega)
    have e2 : IntKind.i64.wrap ((b.size : Int) + (k.size : Int) + (v.size : Int)) = (b.size : Int) + (k.size : Int) + (v.size : Int) := wrapi (by omega) (by omega)
    go_wp2_with fail
    go_ret
    refine ⟨?_, HB1.out⟩
    show Ending.returned (.int .i64 _) = .returned (.int .i64 _)
    congr 2
    try simp
    try omega
end Go.Proofs.Ytkfcbihofipcbaa.It
