/- vec's smallest functions, and the one that goes through two vectors. -/
import Derived.Test.YtkfcbihofipcbaaMem

import Derived.Test.YtkfcbihofipcbaaVecMath

import Derived.Deep.RegionWith

namespace Go.Proofs.Ytkfcbihofipcbaa.Vc

open Go.RowKit

set_option linter.unusedVariables false

set_option linter.unusedSimpArgs false

theorem Try.info_v : (Try.prog.info? 28).map (fun i => (i.zero, i.size)) = some (some (AV .u64 (List.replicate 4 0)), 4) := by kernel_rfl
theorem Try.info_a : (Try.prog.info? 27).map (fun i => (i.zero, i.size)) = some (some (AV .u64 (List.replicate 4 0)), 4) := by kernel_rfl
theorem Try.size_v : (Try.prog.info? 28).map (·.size) = some 4 := by kernel_rfl
theorem Try.size_a : (Try.prog.info? 27).map (·.size) = some 4 := by kernel_rfl
theorem size_v {l : List Nat} (h : l.length = 4) : (Try.prog.info? 28).map (·.size) = some l.length := by rw [h]; exact Try.size_v
theorem size_a {l : List Nat} (h : l.length = 4) : (Try.prog.info? 27).map (·.size) = some l.length := by rw [h]; exact Try.size_a
theorem known_any (dc : Int) (w : World) :
    Calls Try.prog 80 #[.int .i64 dc] w fun e w' => e = .returned (.bool (V.known dc)) ∧ w' = w := by
  by_cases h1 : 1 ≤ dc
  · by_cases h2 : dc ≤ 4
    · have HK : Hid (V.known dc = true) := (V.known_iff dc).2 ⟨h1, h2⟩
      go_enter Try.func80, Try.ntmps80
      go_wp2
      go_ret
      rw [HK.out]
      exact ⟨rfl, rfl⟩
    · have HK : Hid (V.known dc = false) := by show _ = _; simp [V.known]; omega
      have h' : decide (dc ≤ 4) = false := by simp; omega
      go_enter Try.func80, Try.ntmps80
      go_wp2
      go_ret
      rw [HK.out]
      exact ⟨rfl, rfl⟩
  · have HK : Hid (V.known dc = false) := by show _ = _; simp [V.known]; omega
    have h' : decide (1 ≤ dc) = false := by simp; omega
    go_enter Try.func80, Try.ntmps80
    go_wp2
    go_ret
    rw [HK.out]
    exact ⟨rfl, rfl⟩
end Go.Proofs.Ytkfcbihofipcbaa.Vc
