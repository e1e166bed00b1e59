/- A stamp by its parts (a stamp, and a flag), by value, that came in. -/
import Derived.Test.YtohcdonmdnjgoaaFrameNum

import Derived.Test.YtohcdonmdnjgoaaStampMem

namespace Go.Proofs.Ytohcdonmdnjgoaa

open Go.ChangeShapes Go.WideShapes Go.ChangeAt Go.RowKit Go.Proofs.Ytohcdonmdnjgoaa.Sp

set_option linter.unusedVariables false

set_option maxRecDepth 100000

theorem cells_st : Try.prog.cellsOf 35 = 5 := by kernel_rfl
theorem cells_i1 : Try.prog.cellsOf 3 = 1 := by kernel_rfl
theorem cells_b1 : Try.prog.cellsOf 4 = 1 := by kernel_rfl
theorem stamp_cells {H : Type} {enc : TypeId × Value → H} {W : World} {m : Nat} {sp : Nat → Bool} {held : Bool} {y : DataW H × List MemPlace} (c0 c1 c2 c3 c4 : Value)
    (h : DataW.trod enc Try.prog W 0 sp held m 35 [c0, c1, c2, c3, c4] = some y) : ∃ l d, [c0, c1, c2, c3, c4] = ks .u64 l ++ [Value.int .i64 d] ∧ V.Ok l ∧ (Lit.int .i64 d).wf = true := by
  cases m with
  | zero => simp [DataW.trod] at h
  | succ m =>
    obtain ⟨y0, y1, n, _, _, t0, t1⟩ := trod_struct2 Try.underlying35 h
    have t0' : DataW.trod enc Try.prog W 0 sp held n 33 (([c0, c1, c2, c3, c4].drop 0).take (Try.prog.cellsOf 33)) = some y0 := t0
    have t1' : DataW.trod enc Try.prog W 0 sp held n 3 (([c0, c1, c2, c3, c4].drop 4).take (Try.prog.cellsOf 3)) = some y1 := t1
    rw [cells_a4] at t0'
    rw [cells_i1] at t1'
    simp only [List.drop, List.take] at t0' t1'
    obtain ⟨d, e4, _, wd⟩ := DataW.trod_int Try.underlying3 t1'
    obtain ⟨l, e, hl⟩ := nums64 _ (arr_ints Try.underlying33 Try.underlying31 cells_w cells_a4 rfl t0')
    simp only [List.cons.injEq, and_true] at e4
    subst e4
    refine ⟨l, d, ?_, ⟨?_, hl⟩, wd⟩
    · rw [← e]; rfl
    · rw [← ks_length .u64, ← e]; rfl
theorem mark_cells {H : Type} {enc : TypeId × Value → H} {W : World} {m : Nat} {sp : Nat → Bool} {held : Bool} {y : DataW H × List MemPlace} (c0 c1 c2 c3 c4 c5 : Value)
    (h : DataW.trod enc Try.prog W 0 sp held (m + 1) 37 [c0, c1, c2, c3, c4, c5] = some y) : ∃ l d own, [c0, c1, c2, c3, c4, c5] = (ks .u64 l ++ [Value.int .i64 d]) ++ [Value.bool own] ∧ V.Ok l ∧ (Lit.int .i64 d).wf = true := by
  obtain ⟨y0, y1, n, _, _, t0, t1⟩ := trod_struct2 Try.underlying37 h
  have t0' : DataW.trod enc Try.prog W 0 sp held n 35 (([c0, c1, c2, c3, c4, c5].drop 0).take (Try.prog.cellsOf 35)) = some y0 := t0
  have t1' : DataW.trod enc Try.prog W 0 sp held n 4 (([c0, c1, c2, c3, c4, c5].drop 5).take (Try.prog.cellsOf 4)) = some y1 := t1
  rw [cells_st] at t0'
  rw [cells_b1] at t1'
  simp only [List.drop, List.take] at t0' t1'
  obtain ⟨own, e5, _⟩ := DataW.trod_bool Try.underlying4 t1'
  obtain ⟨l, d, e, hl, hd⟩ := stamp_cells c0 c1 c2 c3 c4 t0'
  simp only [List.cons.injEq, and_true] at e5
  subst e5
  refine ⟨l, d, own, ?_, hl, hd⟩
  rw [← e]; rfl
theorem open_mark {H : Type} {enc : TypeId × Value → H} {W : World} {base : Nat} {v : Value} {d : DataW H} {p : List MemPlace}
    (hval : Value.okWide Try.prog W .any base 37 v) (h : DataW.Trod enc Try.prog W 0 (fun _ => true) true 37 v d p) :
    ∃ l d own, v = MV l d own ∧ V.Ok l ∧ (Lit.int .i64 d).wf = true := by
  obtain ⟨xs, rfl, hxs⟩ := okWide_struct Try.underlying37 hval
  obtain ⟨fuel, hf⟩ := h
  rw [show Try.prog.cellsOf 37 = 6 by kernel_rfl] at hxs
  obtain ⟨l⟩ := xs
  cases fuel with
  | zero => simp [DataW.trod] at hf
  | succ m =>
    match l, hxs with
    | [c0, c1, c2, c3, c4, c5], _ =>
      obtain ⟨l, d, own, e, hl, hd⟩ := mark_cells c0 c1 c2 c3 c4 c5 hf
      exact ⟨l, d, own, by rw [List.append_assoc] at e; rw [MV, e]; rfl, hl, hd⟩
end Go.Proofs.Ytohcdonmdnjgoaa
