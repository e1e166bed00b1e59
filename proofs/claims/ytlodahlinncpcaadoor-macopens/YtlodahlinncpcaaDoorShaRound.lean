/- round. -/
import Derived.Test.YtlodahlinncpcaaDoorShaArr
import Derived.Deep.RegionHeld
namespace Go.Proofs.YtlodahlinncpcaaDoor
open Go.RowKit
set_option linter.unusedVariables false
set_option linter.unusedSimpArgs false
theorem ch_int (e f g : Nat) (he : e < 4294967296) (hf : f < 4294967296) (hg : g < 4294967296) :
    bits .xor .u32 (bits .and .u32 (e : Int) (f : Int)) (bits .and .u32 (bits .xor .u32 IntKind.u32.max (e : Int)) (g : Int)) = ((Q.ch e f g : Nat) : Int) := by
  have h1 : bits .xor .u32 IntKind.u32.max (e : Int) = ((4294967295 - e : Nat) : Int) := by
    rw [show IntKind.u32.max = ((4294967295 : Nat) : Int) by rfl, u32_xor_nat _ _ (by omega) he]
    rw [Nat.xor_comm]
    congr 1
    apply Nat.eq_of_testBit_eq
    intro i
    rw [Nat.testBit_xor, show 4294967295 - e = 2 ^ 32 - (e + 1) by omega, Nat.testBit_two_pow_sub_succ he, show 4294967295 = 2 ^ 32 - 1 by rfl, Nat.testBit_two_pow_sub_one]
    by_cases hi : i < 32
    · simp [hi]
    · have : e.testBit i = false := Nat.testBit_lt_two_pow (Nat.lt_of_lt_of_le he (Nat.pow_le_pow_right (n := 2) (by omega) (show 32 ≤ i by omega)))
      simp [hi, this]
  rw [h1, u32_and_nat _ _ he hf, u32_and_nat _ _ (by omega) hg, u32_xor_nat _ _ (Q.and_lt _ _ hf) (Q.and_lt _ _ hg)]
  rfl
theorem maj_int (a b c : Nat) (ha : a < 4294967296) (hb : b < 4294967296) (hc : c < 4294967296) :
    bits .xor .u32 (bits .xor .u32 (bits .and .u32 (a : Int) (b : Int)) (bits .and .u32 (a : Int) (c : Int))) (bits .and .u32 (b : Int) (c : Int)) = ((Q.maj a b c : Nat) : Int) := by
  rw [u32_and_nat _ _ ha hb, u32_and_nat _ _ ha hc, u32_and_nat _ _ hb hc, u32_xor_nat _ _ (Q.and_lt _ _ hb) (Q.and_lt _ _ hc), u32_xor_nat _ _ (xor_lt _ _ (Q.and_lt _ _ hb) (Q.and_lt _ _ hc)) (Q.and_lt _ _ hc)]
  rfl
set_option maxHeartbeats 1000000 in
theorem round_eight (x0 x1 x2 x3 x4 x5 x6 x7 k : Nat) (w : World) (h0 : x0 < 4294967296) (h1 : x1 < 4294967296) (h2 : x2 < 4294967296) (h3 : x3 < 4294967296) (h4 : x4 < 4294967296) (h5 : x5 < 4294967296) (h6 : x6 < 4294967296) (h7 : x7 < 4294967296) :
    Calls Tryd.prog 42 #[AV .u32 [x0, x1, x2, x3, x4, x5, x6, x7], .int .u32 k] w fun e w' => e = .returned (AV .u32 (Q.rnd [x0, x1, x2, x3, x4, x5, x6, x7] k)) ∧ Below w.heap.size w w' := by
  have C0 : Hid _ := fun w => bigS0_any x0 w h0
  have C1 : Hid _ := fun w => bigS1_any x4 w h4
  unfold AV ks
  simp only [List.map_cons, List.map_nil]
  have HC : Hid _ := ch_int x4 x5 x6 h4 h5 h6
  have HM : Hid _ := maj_int x0 x1 x2 h0 h1 h2
  clear h0 h1 h2 h3 h4 h5 h6 h7
  go_enter Tryd.func42, Tryd.ntmps42
  go_wp2_with fail
  go_region
  go_wp2_with fail
  go_region
  go_wp2_with fail
  refine (C1.out _).mono ?_; rintro e w1 ⟨rfl, rfl⟩
  go_wp2_with fail
  refine (C0.out _).mono ?_; rintro e w1 ⟨rfl, rfl⟩
  go_wp2_with fail
  rw [HC.out, HM.out]
  generalize HCC : Q.ch x4 x5 x6 = cc at *
  refine bodyPost_ret (v := AV .u32 (Q.rnd [x0, x1, x2, x3, x4, x5, x6, x7] k)) ?_ rfl ⟨rfl, ?_⟩
  · simp [results, Tryd.results42, go_sem]
    have e1 : ((x7 : Int) + (Q.b1 x4 : Nat) + (cc : Nat) + k + ((Q.b0 x0 : Nat) + (Q.maj x0 x1 x2 : Nat))) % 4294967296 = (((x7 + Q.b1 x4 + cc + k + Q.b0 x0 + Q.maj x0 x1 x2) % 4294967296 : Nat) : Int) := by omega
    have e2 : ((x3 : Int) + (x7 + (Q.b1 x4 : Nat) + (cc : Nat) + k)) % 4294967296 = (((x3 + (x7 + Q.b1 x4 + cc + k)) % 4294967296 : Nat) : Int) := by omega
    rw [e1, e2, ← HCC]
    rfl
  · repeat (first | exact Below.refl _ _ | apply Below.drew | refine Below.alloc ?_ (by first | omega | (simp <;> omega)) _ | refine Below.setCell ?_ (by first | omega | (simp <;> omega)) _)
theorem round_any (l : List Nat) (k : Nat) (w : World) (h : Q.Ok8 l) :
    Calls Tryd.prog 42 #[AV .u32 l, .int .u32 k] w fun e w' => e = .returned (AV .u32 (Q.rnd l k)) ∧ Below w.heap.size w w' := by
  obtain ⟨h8, h⟩ := h
  obtain ⟨x0, x1, x2, x3, x4, x5, x6, x7, rfl⟩ := Q.eight l h8
  exact round_eight _ _ _ _ _ _ _ _ k w (h _ (by simp)) (h _ (by simp)) (h _ (by simp)) (h _ (by simp)) (h _ (by simp)) (h _ (by simp)) (h _ (by simp)) (h _ (by simp))
end Go.Proofs.YtlodahlinncpcaaDoor
