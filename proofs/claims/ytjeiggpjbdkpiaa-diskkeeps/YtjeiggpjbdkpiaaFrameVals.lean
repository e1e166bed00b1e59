/- To open a slice of one-cell things (integers, flags, texts) that came in: cell by cell. -/
import Derived.Test.YtjeiggpjbdkpiaaFrame

import Derived.Deep.Slices

namespace Go.Proofs.Ytjeiggpjbdkpiaa

open Go.ChangeShapes Go.WideShapes Go.ChangeAt Go.RowKit Go.Deep

set_option linter.unusedVariables false

/-- a slice that came in: its things are X 0, X 1 .. -/
def IsVals {α : Type} (mk : α → Value) (w : World) (a : Option Addr) (len : Nat) (X : Nat → α) : Prop :=
  len = 0 ∨ ∃ b off, a = some ⟨b, off, none⟩ ∧ b < w.heap.size ∧ ∀ i, i < len → w.cell? ⟨b, off + i, none⟩ = some (mk (X i))
theorem open_vals {α : Type} (z : α) (mk : α → Value) {H : Type} {enc : TypeId × Value → H} {P : Program} {W : World} {T E : TypeId} {a : Option Addr} {len cap : Nat} {d : DataW H} {p : List MemPlace} (hu : P.underlying T = some (.slice E)) (hc : P.cellsOf E = 1)
    (hT : ∀ n v d p, DataW.trod enc P W 0 (fun _ => true) true n E [v] = some (d, p) → ∃ q, v = mk q)
    (h : DataW.Trod enc P W 0 (fun _ => true) true T (.slice a len cap) d p) :
    ∃ X, IsVals mk W a len X ∧ len ≤ cap ∧ cap ≤ maxLen := by
  obtain ⟨fuel, hf⟩ := h
  rcases open_slice1 hu hc hf with ⟨hcs, _⟩ | ⟨x, l, c, m, n, V, D, Pl, hcs, _, hl, hm, hmm, hx, hall⟩
  · simp [Value.cells] at hcs
    obtain ⟨rfl, rfl, rfl⟩ := hcs
    exact ⟨fun _ => z, .inl rfl, by omega, by unfold maxLen; omega⟩
  · simp [Value.cells] at hcs
    obtain ⟨rfl, rfl, rfl⟩ := hcs
    simp only [if_true] at hmm
    subst hmm
    by_cases h0 : len = 0
    · exact ⟨fun _ => z, .inl h0, hl, hm⟩
    · obtain ⟨b, off, spot⟩ := x
      have hspot : spot = none := by simpa [Addr.add] using World.cell?_spot (hall 0 (by omega)).1
      subst hspot
      have hb : b < W.heap.size := World.block_lt_of_cell? W _ (hall 0 (by omega)).1
      have hq : ∀ i, i < len → ∃ q, V i = mk q := fun i hi => hT _ _ _ _ (hall i (by omega)).2
      refine ⟨fun i => if hi : i < len then (hq i hi).choose else z, .inr ⟨b, off, rfl, hb, fun i hi => ?_⟩, hl, hm⟩
      have h1 := (hall i (by omega)).1
      rw [addr_add] at h1
      rw [h1]
      simp only [hi, dite_true]
      rw [← (hq i hi).choose_spec]
theorem open_ints1 {H : Type} {enc : TypeId × Value → H} {P : Program} {W : World} {T E : TypeId} {k : IntKind} {a : Option Addr} {len cap : Nat} {d : DataW H} {p : List MemPlace} (hu : P.underlying T = some (.slice E)) (he : P.underlying E = some (.int k)) (hc : P.cellsOf E = 1)
    (h : DataW.Trod enc P W 0 (fun _ => true) true T (.slice a len cap) d p) : ∃ X : Nat → Int, IsVals (Value.int k) W a len X ∧ len ≤ cap ∧ cap ≤ maxLen :=
  open_vals 0 (Value.int k) hu hc (fun n v d p ht => by
    obtain ⟨q, h1, _⟩ := DataW.trod_int he ht
    simp only [List.cons.injEq, and_true] at h1
    exact ⟨q, h1⟩) h
theorem open_bools1 {H : Type} {enc : TypeId × Value → H} {P : Program} {W : World} {T E : TypeId} {a : Option Addr} {len cap : Nat} {d : DataW H} {p : List MemPlace} (hu : P.underlying T = some (.slice E)) (he : P.underlying E = some .bool) (hc : P.cellsOf E = 1)
    (h : DataW.Trod enc P W 0 (fun _ => true) true T (.slice a len cap) d p) : ∃ X : Nat → Bool, IsVals Value.bool W a len X ∧ len ≤ cap ∧ cap ≤ maxLen :=
  open_vals false Value.bool hu hc (fun n v d p ht => by
    obtain ⟨q, h1, _⟩ := DataW.trod_bool he ht
    simp only [List.cons.injEq, and_true] at h1
    exact ⟨q, h1⟩) h
theorem open_strings1 {H : Type} {enc : TypeId × Value → H} {P : Program} {W : World} {T E : TypeId} {a : Option Addr} {len cap : Nat} {d : DataW H} {p : List MemPlace} (hu : P.underlying T = some (.slice E)) (he : P.underlying E = some .string) (hc : P.cellsOf E = 1)
    (h : DataW.Trod enc P W 0 (fun _ => true) true T (.slice a len cap) d p) : ∃ X : Nat → ByteArray, IsVals Value.string W a len X ∧ len ≤ cap ∧ cap ≤ maxLen :=
  open_vals ByteArray.empty Value.string hu hc (fun n v d p ht => by
    obtain ⟨q, h1, _⟩ := DataW.trod_string he ht
    simp only [List.cons.injEq, and_true] at h1
    exact ⟨q, h1⟩) h
theorem IsVals.below {α : Type} {mk : α → Value} {w w' : World} {a : Option Addr} {len : Nat} {X : Nat → α} (h : IsVals mk w a len X) (hb : Below w.heap.size w w') : IsVals mk w' a len X := by
  rcases h with h | ⟨b, off, ha, hlt, hc⟩
  · exact .inl h
  · exact .inr ⟨b, off, ha, Nat.lt_of_lt_of_le hlt hb.size, fun i hi => by rw [hb.cell (p := ⟨b, off + i, none⟩) hlt]; exact hc i hi⟩
theorem IsVals.at {α : Type} {mk : α → Value} {w : World} {a : Option Addr} {len : Nat} {X : Nat → α} (h : IsVals mk w a len X) (i : Nat) (hi : i < len) : ∃ b off, a = some ⟨b, off, none⟩ ∧ w.cell? ⟨b, off + i, none⟩ = some (mk (X i)) := by
  rcases h with h | ⟨b, off, ha, hlt, hc⟩
  · omega
  · exact ⟨b, off, ha, hc i hi⟩
end Go.Proofs.Ytjeiggpjbdkpiaa
