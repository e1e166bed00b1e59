/- The document's own answer to chapter 8: Right, Size. -/
import Derived.Test.YtkfcbihofipcbaaItemMem

import Derived.Test.YtkfcbihofipcbaaStampC

namespace Go.Proofs.Ytkfcbihofipcbaa.It

open Go.RowKit Go.Proofs.Ytkfcbihofipcbaa.Vc Go.Proofs.Ytkfcbihofipcbaa.Sp

set_option linter.unusedVariables false

set_option linter.unusedSimpArgs false

set_option maxRecDepth 100000

set_option maxHeartbeats 4000000 in
theorem ref_wright (x : I.Wt) (w : World) :
    Calls Try.prog 19 #[WV x] w fun e w' => e = .returned (.bool (I.right x)) ∧ Below w.heap.size w w' := by
  obtain ⟨b, k, v, g⟩ := x
  obtain ⟨r, HR⟩ : ∃ r, Hid (I.right (b, k, v, g) = r) := ⟨_, rfl⟩
  rw [HR.out]
  have hR := HR.out
  unfold I.right at hR
  simp only at hR
  clear HR
  go_enter Try.func19, Try.ntmps19
  go_wp2_with (first | refine blk_box rfl 38 _ rfl [.string b, .string k, .string v, .bool g] rfl ?_)
  intro w1 A1 B1 Z1
  have HB1 : Hid (Below w.heap.size w w1) := B1
  have c0 := A1.cell 0 _ rfl
  have c1 := A1.cell 1 _ rfl
  have c2 := A1.cell 2 _ rfl
  have c3 := A1.cell 3 _ rfl
  clear A1 B1 Z1
  by_cases h1 : 1 ≤ b.size
  · have i1 : (1 : Int) ≤ (b.size : Int) := by omega
    by_cases h2 : b.size ≤ 16
    · have i2 : (b.size : Int) ≤ 16 := by omega
      by_cases h3 : 1 ≤ k.size
      · have i3 : (1 : Int) ≤ (k.size : Int) := by omega
        by_cases h4 : k.size ≤ 16
        · have i4 : (k.size : Int) ≤ 16 := by omega
          by_cases h5 : v.size ≤ 32
          · have i5 : (v.size : Int) ≤ 32 := by omega
            cases g with
            | false =>
              obtain rfl : true = r := by rw [← hR]; simp [h1, h2, h3, h4, h5]
              clear hR
              go_wp2_with fail
              go_ret
              exact ⟨rfl, HB1.out⟩
            | true =>
              by_cases h6 : v.size = 0
              · obtain rfl : true = r := by rw [← hR]; simp [h1, h2, h3, h4, h6]
                have hE : v.toList.isEmpty = true := by
                  rw [ByteArray.toList_eq, List.isEmpty_iff]
                  exact List.eq_nil_of_length_eq_zero (by rw [P.len_list]; exact h6)
                clear hR
                go_wp2_with fail
                go_ret
                exact ⟨rfl, HB1.out⟩
              · obtain rfl : false = r := by rw [← hR]; simp [h6]
                have hE := V.empty_not v h6
                clear hR
                go_wp2_with fail
                go_ret
                exact ⟨rfl, HB1.out⟩
          · obtain rfl : false = r := by rw [← hR]; simp [h5]
            have i : decide ((v.size : Int) ≤ 32) = false := by simp; omega
            clear hR
            go_wp2_with fail
            go_ret
            exact ⟨rfl, HB1.out⟩
        · obtain rfl : false = r := by rw [← hR]; simp [h4]
          have i : decide ((k.size : Int) ≤ 16) = false := by simp; omega
          clear hR
          go_wp2_with fail
          go_ret
          exact ⟨rfl, HB1.out⟩
      · obtain rfl : false = r := by rw [← hR]; simp [h3]
        have i : decide ((1 : Int) ≤ (k.size : Int)) = false := by simp; omega
        clear hR
        go_wp2_with fail
        go_ret
        exact ⟨rfl, HB1.out⟩
    · obtain rfl : false = r := by rw [← hR]; simp [h2]
      have i : decide ((b.size : Int) ≤ 16) = false := by simp; omega
      clear hR
      go_wp2_with fail
      go_ret
      exact ⟨rfl, HB1.out⟩
  · obtain rfl : false = r := by rw [← hR]; simp [h1]
    have i : decide ((1 : Int) ≤ (b.size : Int)) = false := by simp; omega
    clear hR
    go_wp2_with fail
    go_ret
    exact ⟨rfl, HB1.out⟩
set_option maxHeartbeats 1000000 in
theorem ref_wsize (x : I.Wt) (w : World) (hx : I.Ok x) :
    Calls Try.prog 21 #[WV x] w fun e w' => e = .returned (.int .i64 (I.size x : Nat)) ∧ Below w.heap.size w w' := by
  obtain ⟨b, k, v, g⟩ := x
  have hb := hx.b
  have hk := hx.k
  have hv := hx.v
  simp only at hb hk hv
  unfold I.size
  simp only
  clear hx
  go_enter Try.func21, Try.ntmps21
  go_wp2_with (first | refine blk_box rfl 38 _ rfl [.string b, .string k, .string v, .bool g] rfl ?_)
  intro w1 A1 B1 Z1
  have HB1 : Hid (Below w.heap.size w w1) := B1
  have c0 := A1.cell 0 _ rfl
  have c1 := A1.cell 1 _ rfl
  have c2 := A1.cell 2 _ rfl
  have c3 := A1.cell 3 _ rfl
  clear A1 B1 Z1
  cases g with
  | true =>
    go_wp2_with fail
    go_ret
    exact ⟨rfl, HB1.out⟩
  | false =>
    have e1 : IntKind.i64.wrap ((b.size : Int) + (k.size : Int)) = (b.size : Int) + (k.size : Int) := wrapi (by omega) (by omega)
    have e2 : IntKind.i64.wrap ((b.size : Int) + (k.size : Int) + (v.size : Int)) = (b.size : Int) + (k.size : Int) + (v.size : Int) := wrapi (by omega) (by omega)
    go_wp2_with fail
    go_ret
    refine ⟨?_, HB1.out⟩
    show Ending.returned (.int .i64 _) = .returned (.int .i64 _)
    congr 2
    try simp
    try omega
end Go.Proofs.Ytkfcbihofipcbaa.It
