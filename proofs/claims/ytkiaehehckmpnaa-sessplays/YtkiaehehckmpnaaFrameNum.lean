/- Numbers in arrays that came in. -/
import Derived.Test.YtkiaehehckmpnaaFrame

import Derived.Test.YtkiaehehckmpnaaMem

import Derived.Test.YtkiaehehckmpnaaVecMath

import Derived.Deep.DeepHandedRow

import Derived.Lib.LaidTab

namespace Go.Proofs.Ytkiaehehckmpnaa

open Go.ChangeShapes Go.WideShapes Go.ChangeAt Go.RowKit

set_option linter.unusedVariables false

set_option maxRecDepth 100000

theorem cells_w : Try.prog.cellsOf 23 = 1 := by kernel_rfl
theorem arr_ints {H : Type} {enc : TypeId × Value → H} {P : Program} {W : World} {k e : TypeId} {n m : Nat} {q : IntKind} {sp : Nat → Bool} {held : Bool} (hu : P.underlying k = some (.array n e)) (he : P.underlying e = some (.int q)) (hone : P.cellsOf e = 1) (hsize : P.cellsOf k = n)
    {cs : List Value} (hn : cs.length = n) {y : DataW H × List MemPlace} (hf : DataW.trod enc P W 0 sp held m k cs = some y) :
    ∀ x ∈ cs, ∃ a, x = .int q a ∧ (Lit.int q a).wf = true := by
  cases m with
  | zero => simp [DataW.trod] at hf
  | succ m =>
    rw [DataW.trod_step] at hf
    unfold DataW.trodStep at hf
    simp only [hu] at hf
    rw [if_pos (by rw [hsize]; exact hn)] at hf
    simp only [Option.map_eq_some_iff] at hf
    obtain ⟨ys, hy, _⟩ := hf
    intro x hx
    obtain ⟨i, hi⟩ := List.mem_iff_getElem?.1 hx
    have hil : i < n := by
      rw [← hn]
      exact (List.getElem?_eq_some_iff.1 hi).1
    obtain ⟨b, _, hb⟩ := Lib.mapM_at hy i i (by simp [hil])
    obtain ⟨a, ea, _, wa⟩ := DataW.trod_int he hb
    rw [hone, Nat.mul_one] at ea
    refine ⟨a, ?_, wa⟩
    have h1 : (cs.drop i)[0]? = some x := by rw [List.getElem?_drop]; simpa using hi
    have h2 : ((cs.drop i).take 1)[0]? = some x := by rw [List.getElem?_take]; simpa using h1
    rw [ea] at h2
    simpa using h2.symm
theorem nums64 (cs : List Value) (h : ∀ x ∈ cs, ∃ a, x = Value.int .u64 a ∧ (Lit.int .u64 a).wf = true) : ∃ l : List Nat, cs = ks .u64 l ∧ ∀ x ∈ l, x < 2 ^ 64 := by
  induction cs with
  | nil => exact ⟨[], rfl, fun x hx => by cases hx⟩
  | cons c cs ih =>
    obtain ⟨l, rfl, hl⟩ := ih (fun x hx => h x (List.mem_cons_of_mem _ hx))
    obtain ⟨a, rfl, wa⟩ := h c (List.mem_cons_self ..)
    have hx : 0 ≤ a ∧ a ≤ 18446744073709551615 := by simpa [Lit.wf, IntKind.min, IntKind.max, IntKind.signed, IntKind.bits] using wa
    obtain ⟨m, rfl⟩ := Int.eq_ofNat_of_zero_le hx.1
    refine ⟨m :: l, rfl, fun x hx' => ?_⟩
    rcases List.mem_cons.1 hx' with rfl | h'
    · omega
    · exact hl x h'
theorem cells_a4 : Try.prog.cellsOf 25 = 4 := by kernel_rfl
end Go.Proofs.Ytkiaehehckmpnaa
