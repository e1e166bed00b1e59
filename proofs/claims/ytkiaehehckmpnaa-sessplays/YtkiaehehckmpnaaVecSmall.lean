/- vec's smallest functions, and the one that goes through two vectors. -/
import Derived.Test.YtkiaehehckmpnaaMem

import Derived.Test.YtkiaehehckmpnaaVecMath

import Derived.Deep.RegionWith

namespace Go.Proofs.Ytkiaehehckmpnaa.Vc

open Go.RowKit

set_option linter.unusedVariables false

set_option linter.unusedSimpArgs false

theorem Try.info_v : (Try.prog.info? 25).map (fun i => (i.zero, i.size)) = some (some (AV .u64 (List.replicate 4 0)), 4) := by kernel_rfl
theorem Try.info_a : (Try.prog.info? 24).map (fun i => (i.zero, i.size)) = some (some (AV .u64 (List.replicate 4 0)), 4) := by kernel_rfl
theorem Try.size_v : (Try.prog.info? 25).map (·.size) = some 4 := by kernel_rfl
theorem Try.size_a : (Try.prog.info? 24).map (·.size) = some 4 := by kernel_rfl
theorem size_v {l : List Nat} (h : l.length = 4) : (Try.prog.info? 25).map (·.size) = some l.length := by rw [h]; exact Try.size_v
theorem size_a {l : List Nat} (h : l.length = 4) : (Try.prog.info? 24).map (·.size) = some l.length := by rw [h]; exact Try.size_a
theorem greater_any (a b : Nat) (w : World) :
    Calls Try.prog 61 #[.int .u64 (a : Int), .int .u64 (b : Int)] w fun e w' => e = .returned (.int .u64 ((max a b : Nat) : Int)) ∧ w' = w := by
  obtain ⟨m, HM⟩ : ∃ m, Hid (max a b = m) := ⟨_, rfl⟩
  rw [HM.out]
  go_enter Try.func61, Try.ntmps61
  go_wp2
  · obtain rfl : m = b := by have h1 := HM.out; omega
    go_ret
    exact ⟨rfl, rfl⟩
  · obtain rfl : m = a := by have h1 := HM.out; omega
    go_ret
    exact ⟨rfl, rfl⟩
theorem lesser_any (a b : Nat) (w : World) :
    Calls Try.prog 60 #[.int .u64 (a : Int), .int .u64 (b : Int)] w fun e w' => e = .returned (.int .u64 ((min a b : Nat) : Int)) ∧ w' = w := by
  obtain ⟨m, HM⟩ : ∃ m, Hid (min a b = m) := ⟨_, rfl⟩
  rw [HM.out]
  go_enter Try.func60, Try.ntmps60
  go_wp2
  · obtain rfl : m = b := by have h1 := HM.out; omega
    go_ret
    exact ⟨rfl, rfl⟩
  · obtain rfl : m = a := by have h1 := HM.out; omega
    go_ret
    exact ⟨rfl, rfl⟩
theorem known_any (dc : Int) (w : World) :
    Calls Try.prog 62 #[.int .i64 dc] w fun e w' => e = .returned (.bool (V.known dc)) ∧ w' = w := by
  by_cases h1 : 1 ≤ dc
  · by_cases h2 : dc ≤ 4
    · have HK : Hid (V.known dc = true) := (V.known_iff dc).2 ⟨h1, h2⟩
      go_enter Try.func62, Try.ntmps62
      go_wp2
      go_ret
      rw [HK.out]
      exact ⟨rfl, rfl⟩
    · have HK : Hid (V.known dc = false) := by show _ = _; simp [V.known]; omega
      have h' : decide (dc ≤ 4) = false := by simp; omega
      go_enter Try.func62, Try.ntmps62
      go_wp2
      go_ret
      rw [HK.out]
      exact ⟨rfl, rfl⟩
  · have HK : Hid (V.known dc = false) := by show _ = _; simp [V.known]; omega
    have h' : decide (1 ≤ dc) = false := by simp; omega
    go_enter Try.func62, Try.ntmps62
    go_wp2
    go_ret
    rw [HK.out]
    exact ⟨rfl, rfl⟩
end Go.Proofs.Ytkiaehehckmpnaa.Vc
