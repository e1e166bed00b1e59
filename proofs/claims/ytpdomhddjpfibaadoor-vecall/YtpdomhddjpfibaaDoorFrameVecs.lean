/- A slice of vectors by their parts that came in. -/
import Derived.Test.YtpdomhddjpfibaaDoorFrameVec

import Derived.Deep.Slices

namespace Go.Proofs.YtpdomhddjpfibaaDoor

open Go.ChangeShapes Go.WideShapes Go.ChangeAt Go.RowKit Go.Deep

set_option linter.unusedVariables false

set_option maxRecDepth 100000

/-- such a slice, member by member -/
def IsVecs (w : World) (a : Option Addr) (len : Nat) (X : Nat → List Nat) (O : Nat → Bool) : Prop :=
  len = 0 ∨ ∃ b off, a = some ⟨b, off, none⟩ ∧ b < w.heap.size ∧ ∀ i, i < len → V.Ok (X i) ∧ w.rangeAt b (off + 5 * i) (ks .u64 (X i) ++ [Value.bool (O i)])
theorem cells_vv : Tryd.prog.cellsOf 26 = 5 := by kernel_rfl
theorem open_vecs {H : Type} {enc : TypeId × Value → H} {W : World} {a : Option Addr} {len cap : Nat} {d : DataW H} {p : List MemPlace}
    (h : DataW.Trod enc Tryd.prog W 0 (fun _ => true) true 61 (.slice a len cap) d p) :
    ∃ X O, IsVecs W a len X O ∧ len ≤ cap ∧ cap ≤ maxLen := by
  obtain ⟨fuel, hf⟩ := h
  rcases open_slice Tryd.underlying61 hf with ⟨hcs, _⟩ | ⟨x, l, c, m, n, D, Pl, hcs, hb, hl, hm, hmm, hx, hall⟩
  · simp [Value.cells] at hcs
    obtain ⟨rfl, rfl, rfl⟩ := hcs
    exact ⟨fun _ => [], fun _ => false, .inl rfl, by omega, by unfold maxLen; omega⟩
  · simp [Value.cells] at hcs
    obtain ⟨rfl, rfl, rfl⟩ := hcs
    simp only [if_true] at hmm
    subst hmm
    by_cases h0 : len = 0
    · exact ⟨fun _ => [], fun _ => false, .inl h0, hl, hm⟩
    · have each : ∀ i, i < m → ∃ q : List Nat × Bool, V.Ok q.1 ∧ ∀ j v, (ks .u64 q.1 ++ [Value.bool q.2])[j]? = some v → W.cell? (x.add (i * 5 + j)) = some v := by
        intro i hi
        obtain ⟨cs', h1, h2⟩ := hall i hi
        rw [cells_vv] at h1
        obtain ⟨_, hlen, hcell⟩ := World.cells?_some h1
        cases n with
        | zero => simp [DataW.trod] at h2
        | succ n =>
          match cs', hlen with
          | [c0, c1, c2, c3, c4], _ =>
            obtain ⟨l, own, e, hok⟩ := vec_cells c0 c1 c2 c3 c4 h2
            refine ⟨(l, own), hok, fun j v hv => ?_⟩
            have hv' : (ks .u64 l ++ [Value.bool own])[j]? = some v := hv
            rw [← e] at hv'
            obtain ⟨hj, he⟩ := List.getElem?_eq_some_iff.1 hv'
            have := hcell j hj
            rw [add_add] at this
            rw [this]
            exact hv'
      obtain ⟨q, hq⟩ := choose_lt each
      obtain ⟨b, off, spot⟩ := x
      have h00 := (hq 0 (by omega)).2 0 _ (by rw [List.getElem?_append_left (by rw [ks_length, (hq 0 (by omega)).1.len]; decide), List.getElem?_eq_getElem (by rw [ks_length, (hq 0 (by omega)).1.len]; decide)])
      have hspot : spot = none := by simpa [Addr.add] using World.cell?_spot h00
      subst hspot
      have hbl : b < W.heap.size := World.block_lt_of_cell? W _ h00
      refine ⟨fun i => (q i).1, fun i => (q i).2, .inr ⟨b, off, rfl, hbl, fun i hi => ⟨(hq i (by omega)).1, fun j v hv => ?_⟩⟩, hl, hm⟩
      have := (hq i (by omega)).2 j v hv
      rw [addr_add] at this
      rw [← this]
      congr 2
      omega
end Go.Proofs.YtpdomhddjpfibaaDoor
