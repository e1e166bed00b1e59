/- The quota's laws: lists that came in are gone through. -/
import Derived.Test.YtepoodfihemmcaaQuotaEx

import Derived.Test.YtepoodfihemmcaaFramePuts

namespace Go.Proofs.Ytepoodfihemmcaa.Qm

open Go.RowKit Go.Instr Go.ChangeMaps Go.Proofs.Ytepoodfihemmcaa.It Go.Proofs.Ytepoodfihemmcaa.Q

set_option linter.unusedVariables false

set_option linter.unusedSimpArgs false

set_option maxRecDepth 100000

theorem elem_pl : Try.prog.elem 22 = 33 := by kernel_rfl
theorem index_pl (b o n cap j : Nat) (hj : j < n) (w : World) : (Instr.indexAt 22 (.slice (some ⟨b, o, none⟩) n cap) (.int .i64 (j : Int))).run Try.prog w = .ok (.pointer (some ⟨b, o + j, none⟩)) w := by
  rw [run_indexAt_slice w _ _ _ _ _ _ (by rw [elem_pl]; exact Try.underlying22), elem_pl]
  rw [if_pos ⟨by omega, by omega⟩, Try.sizeOf33]
  have e : (⟨b, o, none⟩ : Addr).add ((j : Int).toNat * 1) = ⟨b, o + j, none⟩ := by
    rw [Int.toNat_natCast, Nat.mul_one]
    unfold Addr.add
    split <;> simp_all
  simp
  rw [Int.toNat_natCast] at e
  simpa using e
theorem IsPs.slice {w : World} {v : Value} {L : List I.Pt} (h : IsPs w v L) : ∃ a c, v = .slice a L.length c := by
  obtain ⟨a, c, hv, _⟩ := h.is
  exact ⟨a, c, hv⟩
theorem IsWs.slice {w : World} {v : Value} {L : List I.Wt} (h : IsWs w v L) : ∃ a c, v = .slice a L.length c := by
  obtain ⟨a, c, hv, _⟩ := h.is
  exact ⟨a, c, hv⟩
/-- what a law's list comes to: the bounds -/
theorem bounds {M : Tb} (L : List I.Wt) (hg : Q.Good M) (h : tot M ≤ 1073741824) (hl : L.length ≤ 1000000) : 0 ≤ tot (layAll M L) ∧ tot (layAll M L) ≤ 4611686018427387904 := by
  have h1 := tot_pos (layAll_good L hg)
  have h2 := tot_layAll L hg
  exact ⟨h1, by omega⟩
end Go.Proofs.Ytepoodfihemmcaa.Qm
