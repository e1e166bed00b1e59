/- A slice of texts that came in: cell by cell, each in reach. -/
import Derived.Test.YtjeiggpjbdkpiaaFrameVals

import Derived.SizedLaws

namespace Go.Proofs.Ytjeiggpjbdkpiaa

open Go.ChangeShapes Go.WideShapes Go.ChangeAt Go.RowKit Go.Deep

set_option linter.unusedVariables false

set_option maxRecDepth 100000

/-- each weight of a datum is in reach -/
def Sz {H : Type} (t : TypeId) (d : DataW H) : Prop := ∀ n ∈ d.weights Try.prog t, n ≤ 140737488351232
theorem Sz.arg {H : Type} {ts : List TypeId} {ds : List (DataW H)} (h : (DataW.weightsEach Try.prog ts ds).all (· ≤ reachBytes) = true) {j : Nat} {t : TypeId} {d : DataW H} (ht : ts[j]? = some t) (hd : ds[j]? = some d) : Sz t d := fun n hn => by
  have := List.all_eq_true.1 h n (DataW.weights_mem_each ht hd n hn)
  exact of_decide_eq_true this
theorem weightsAll_mem {H : Type} {e : TypeId} : ∀ {ds : List (DataW H)} {i : Nat} {d : DataW H}, ds[i]? = some d → ∀ n ∈ d.weights Try.prog e, n ∈ DataW.weightsAll Try.prog e ds
  | d0 :: ds, 0, d, hd, n, hn => by
    simp only [List.getElem?_cons_zero, Option.some.injEq] at hd
    subst hd
    simp only [DataW.weightsAll, List.mem_append]
    exact Or.inl hn
  | d0 :: ds, i + 1, d, hd, n, hn => by
    simp only [List.getElem?_cons_succ] at hd
    simp only [DataW.weightsAll, List.mem_append]
    exact Or.inr (weightsAll_mem hd n hn)
  | [], _, _, hd, _, _ => by simp at hd
theorem Sz.elem {H : Type} {t e : TypeId} (hu : Try.prog.underlying t = some (.slice e)) {elems spare : List (DataW H)} (h : Sz t (.slice elems spare)) {i : Nat} {d : DataW H} (hd : elems[i]? = some d) : Sz e d := fun n hn => h n (by
  have e : DataW.weights Try.prog t (.slice elems spare) = (elems.length + spare.length) * Try.prog.bytesOf e :: (DataW.weightsAll Try.prog e elems ++ DataW.weightsAll Try.prog e spare) := by simp [DataW.weights, hu]
  rw [e]
  exact List.mem_cons_of_mem _ (List.mem_append.2 (Or.inl (weightsAll_mem hd n hn))))
theorem Sz.str {H : Type} {t : TypeId} {bytes : List UInt8} (h : Sz (H := H) t (.lit (.string bytes))) : bytes.length ≤ 140737488351232 := h _ (by simp [DataW.weights])
theorem cells_s1 : Try.prog.cellsOf 9 = 1 := by kernel_rfl
section

variable {H : Type} {enc : TypeId × Value → H} {W : World} {m : Nat} {sp : Nat → Bool} {held : Bool} {y : DataW H × List MemPlace}

theorem str_cell {t : TypeId} (ht : Try.prog.underlying t = some .string) {c : Value} (h : DataW.trod enc Try.prog W 0 sp held m t [c] = some y) (hs : Sz t y.1) : ∃ s : ByteArray, c = .string s ∧ s.size ≤ 140737488355328 := by
  obtain ⟨s, e, rfl, _⟩ := DataW.trod_string ht h
  simp only [List.cons.injEq, and_true] at e
  have := Sz.str hs
  have e2 : s.data.toList.length = s.size := Array.length_toList
  rw [e2] at this
  exact ⟨s, e, by omega⟩
theorem texts_cells {a : Option Addr} {len cap : Nat} (h : DataW.trod enc Try.prog W 0 (fun _ => true) true m 22 [.slice a len cap] = some y) (hs : Sz 22 y.1) : ∃ X : Nat → ByteArray, IsVals Value.string W a len X ∧ len ≤ cap ∧ cap ≤ maxLen ∧ ∀ i, i < len → (X i).size ≤ 140737488355328 := by
  rcases open_slice Try.underlying22 h with ⟨hcs, _⟩ | ⟨x, l, c, mm, n, D, Pl, hcs, hb, hl, hm, hmm, rfl, hall⟩
  · simp only [List.cons.injEq, and_true, Value.slice.injEq] at hcs
    obtain ⟨rfl, rfl, rfl⟩ := hcs
    exact ⟨fun _ => ⟨#[]⟩, .inl rfl, Nat.le_refl _, by unfold maxLen; omega, fun i hi => by omega⟩
  · simp only [List.cons.injEq, and_true, Value.slice.injEq] at hcs
    obtain ⟨rfl, rfl, rfl⟩ := hcs
    simp only [if_true] at hmm
    subst hmm
    have each : ∀ i, i < len → ∃ s : ByteArray, s.size ≤ 140737488355328 ∧ W.cell? (x.add i) = some (.string s) := by
      intro i hi
      obtain ⟨cs', h1, h2⟩ := hall i (by omega)
      rw [cells_s1] at h1
      obtain ⟨_, hlen, hcell⟩ := World.cells?_some h1
      match cs', hlen with
      | [c0], _ =>
        obtain ⟨s, e, hok⟩ := str_cell Try.underlying9 h2 (Sz.elem Try.underlying22 hs (i := i) (by simp [hi]))
        refine ⟨s, hok, ?_⟩
        have := hcell 0 (by simp)
        rw [add_add, Nat.mul_one, Nat.add_zero] at this
        rw [this, e]
        rfl
    obtain ⟨q, hq⟩ := choose_lt each
    refine ⟨q, ?_, by simpa using hl, hm, fun i hi => (hq i hi).1⟩
    by_cases h0 : len = 0
    · exact .inl h0
    · obtain ⟨b, off, spot⟩ := x
      have h00 := (hq 0 (by omega)).2
      have hspot : spot = none := by simpa [Addr.add] using World.cell?_spot h00
      subst hspot
      refine .inr ⟨b, off, rfl, World.block_lt_of_cell? W _ h00, fun i hi => ?_⟩
      have := (hq i hi).2
      rwa [addr_add] at this
end

theorem open_texts {H : Type} {enc : TypeId × Value → H} {W : World} {a : Option Addr} {len cap : Nat} {d : DataW H} {p : List MemPlace}
    (h : DataW.Trod enc Try.prog W 0 (fun _ => true) true 22 (.slice a len cap) d p) (hs : Sz 22 d) : ∃ X : Nat → ByteArray, IsVals Value.string W a len X ∧ len ≤ cap ∧ cap ≤ maxLen ∧ ∀ i, i < len → (X i).size ≤ 140737488355328 := by
  obtain ⟨fuel, hf⟩ := h
  exact texts_cells hf hs
end Go.Proofs.Ytjeiggpjbdkpiaa
