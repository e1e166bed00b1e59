/- A vector by its parts (four numbers, and a flag), by value, that came in. -/
import Derived.Test.YtkiaehehckmpnaaFrameNum

import Derived.Test.YtkiaehehckmpnaaVecMath

namespace Go.Proofs.Ytkiaehehckmpnaa

open Go.ChangeShapes Go.WideShapes Go.ChangeAt Go.RowKit

set_option linter.unusedVariables false

set_option maxRecDepth 100000

/-- such a value -/
def VV (l : List Nat) (own : Bool) : Value := .agg (ks .u64 l ++ [Value.bool own]).toArray
theorem vec_cells {H : Type} {enc : TypeId × Value → H} {W : World} {m : Nat} {sp : Nat → Bool} {held : Bool} {y : DataW H × List MemPlace} (c0 c1 c2 c3 c4 : Value)
    (h : DataW.trod enc Try.prog W 0 sp held (m + 1) 27 [c0, c1, c2, c3, c4] = some y) : ∃ l own, [c0, c1, c2, c3, c4] = ks .u64 l ++ [Value.bool own] ∧ V.Ok l := by
  obtain ⟨y0, y1, n, _, _, t0, t1⟩ := trod_struct2 Try.underlying27 h
  have t0' : DataW.trod enc Try.prog W 0 sp held n 25 (([c0, c1, c2, c3, c4].drop 0).take (Try.prog.cellsOf 25)) = some y0 := t0
  have t1' : DataW.trod enc Try.prog W 0 sp held n 4 (([c0, c1, c2, c3, c4].drop 4).take (Try.prog.cellsOf 4)) = some y1 := t1
  have k4 : Try.prog.cellsOf 4 = 1 := by kernel_rfl
  rw [cells_a4] at t0'
  rw [k4] at t1'
  simp only [List.drop, List.take] at t0' t1'
  obtain ⟨own, e4, _⟩ := DataW.trod_bool Try.underlying4 t1'
  obtain ⟨l, e, hl⟩ := nums64 _ (arr_ints Try.underlying25 Try.underlying23 cells_w cells_a4 rfl t0')
  simp only [List.cons.injEq, and_true] at e4
  subst e4
  refine ⟨l, own, ?_, ?_, hl⟩
  · rw [← e]; rfl
  · rw [← ks_length .u64, ← e]; rfl
theorem open_vector {H : Type} {enc : TypeId × Value → H} {W : World} {base : Nat} {v : Value} {d : DataW H} {p : List MemPlace}
    (hval : Value.okWide Try.prog W .any base 27 v) (h : DataW.Trod enc Try.prog W 0 (fun _ => true) true 27 v d p) :
    ∃ l own, v = VV l own ∧ V.Ok l := by
  obtain ⟨xs, rfl, hxs⟩ := okWide_struct Try.underlying27 hval
  obtain ⟨fuel, hf⟩ := h
  rw [show Try.prog.cellsOf 27 = 5 by kernel_rfl] at hxs
  obtain ⟨l⟩ := xs
  cases fuel with
  | zero => simp [DataW.trod] at hf
  | succ m =>
    match l, hxs with
    | [c0, c1, c2, c3, c4], _ =>
      obtain ⟨l, own, e, hl⟩ := vec_cells c0 c1 c2 c3 c4 hf
      exact ⟨l, own, by rw [VV, ← e], hl⟩
end Go.Proofs.Ytkiaehehckmpnaa
