/- A vector by its parts (four numbers, and a flag), by value, that came in. -/
import Derived.Test.YtnmggefbajoadaaDoorFrameTab

import Derived.Test.YtnmggefbajoadaaDoorVecMath

namespace Go.Proofs.YtnmggefbajoadaaDoor

open Go.ChangeShapes Go.WideShapes Go.ChangeAt Go.RowKit

set_option linter.unusedVariables false

set_option maxRecDepth 100000

/-- such a value -/
def VV (l : List Nat) (own : Bool) : Value := .agg (ks .u64 l ++ [Value.bool own]).toArray
theorem arr_ints {H : Type} {enc : TypeId × Value → H} {P : Program} {W : World} {k e : TypeId} {n m : Nat} {q : IntKind} {sp : Nat → Bool} {held : Bool} (hu : P.underlying k = some (.array n e)) (he : P.underlying e = some (.int q)) (hone : P.cellsOf e = 1) (hsize : P.cellsOf k = n)
    {cs : List Value} (hn : cs.length = n) {y : DataW H × List MemPlace} (hf : DataW.trod enc P W 0 sp held m k cs = some y) :
    ∀ x ∈ cs, ∃ a, x = .int q a ∧ (Lit.int q a).wf = true := by
  cases m with
  | zero => simp [DataW.trod] at hf
  | succ m =>
    rw [DataW.trod_step] at hf
    unfold DataW.trodStep at hf
    simp only [hu] at hf
    rw [if_pos (by rw [hsize]; exact hn)] at hf
    simp only [Option.map_eq_some_iff] at hf
    obtain ⟨ys, hy, _⟩ := hf
    intro x hx
    obtain ⟨i, hi⟩ := List.mem_iff_getElem?.1 hx
    have hil : i < n := by
      rw [← hn]
      exact (List.getElem?_eq_some_iff.1 hi).1
    obtain ⟨b, _, hb⟩ := Lib.mapM_at hy i i (by simp [hil])
    obtain ⟨a, ea, _, wa⟩ := DataW.trod_int he hb
    rw [hone, Nat.mul_one] at ea
    refine ⟨a, ?_, wa⟩
    have h1 : (cs.drop i)[0]? = some x := by rw [List.getElem?_drop]; simpa using hi
    have h2 : ((cs.drop i).take 1)[0]? = some x := by rw [List.getElem?_take]; simpa using h1
    rw [ea] at h2
    simpa using h2.symm
theorem nums64 (cs : List Value) (h : ∀ x ∈ cs, ∃ a, x = Value.int .u64 a ∧ (Lit.int .u64 a).wf = true) : ∃ l : List Nat, cs = ks .u64 l ∧ ∀ x ∈ l, x < 2 ^ 64 := by
  induction cs with
  | nil => exact ⟨[], rfl, fun x hx => by cases hx⟩
  | cons c cs ih =>
    obtain ⟨l, rfl, hl⟩ := ih (fun x hx => h x (List.mem_cons_of_mem _ hx))
    obtain ⟨a, rfl, wa⟩ := h c (List.mem_cons_self ..)
    have hx : 0 ≤ a ∧ a ≤ 18446744073709551615 := by simpa [Lit.wf, IntKind.min, IntKind.max, IntKind.signed, IntKind.bits] using wa
    obtain ⟨m, rfl⟩ := Int.eq_ofNat_of_zero_le hx.1
    refine ⟨m :: l, rfl, fun x hx' => ?_⟩
    rcases List.mem_cons.1 hx' with rfl | h'
    · omega
    · exact hl x h'
theorem cells_a4 : Tryd.prog.cellsOf 24 = 4 := by kernel_rfl
theorem vec_cells {H : Type} {enc : TypeId × Value → H} {W : World} {m : Nat} {sp : Nat → Bool} {held : Bool} {y : DataW H × List MemPlace} (c0 c1 c2 c3 c4 : Value)
    (h : DataW.trod enc Tryd.prog W 0 sp held (m + 1) 30 [c0, c1, c2, c3, c4] = some y) : ∃ l own, [c0, c1, c2, c3, c4] = ks .u64 l ++ [Value.bool own] ∧ V.Ok l := by
  obtain ⟨y0, y1, n, _, _, t0, t1⟩ := trod_struct2 Tryd.underlying30 h
  have t0' : DataW.trod enc Tryd.prog W 0 sp held n 24 (([c0, c1, c2, c3, c4].drop 0).take (Tryd.prog.cellsOf 24)) = some y0 := t0
  have t1' : DataW.trod enc Tryd.prog W 0 sp held n 4 (([c0, c1, c2, c3, c4].drop 4).take (Tryd.prog.cellsOf 4)) = some y1 := t1
  have k4 : Tryd.prog.cellsOf 4 = 1 := by kernel_rfl
  rw [cells_a4] at t0'
  rw [k4] at t1'
  simp only [List.drop, List.take] at t0' t1'
  obtain ⟨own, e4, _⟩ := DataW.trod_bool Tryd.underlying4 t1'
  obtain ⟨l, e, hl⟩ := nums64 _ (arr_ints Tryd.underlying24 Tryd.underlying22 cells_w cells_a4 rfl t0')
  simp only [List.cons.injEq, and_true] at e4
  subst e4
  refine ⟨l, own, ?_, ?_, hl⟩
  · rw [← e]; rfl
  · rw [← ks_length .u64, ← e]; rfl
theorem open_vector {H : Type} {enc : TypeId × Value → H} {W : World} {base : Nat} {v : Value} {d : DataW H} {p : List MemPlace}
    (hval : Value.okWide Tryd.prog W .any base 30 v) (h : DataW.Trod enc Tryd.prog W 0 (fun _ => true) true 30 v d p) :
    ∃ l own, v = VV l own ∧ V.Ok l := by
  obtain ⟨xs, rfl, hxs⟩ := okWide_struct Tryd.underlying30 hval
  obtain ⟨fuel, hf⟩ := h
  rw [show Tryd.prog.cellsOf 30 = 5 by kernel_rfl] at hxs
  obtain ⟨l⟩ := xs
  cases fuel with
  | zero => simp [DataW.trod] at hf
  | succ m =>
    match l, hxs with
    | [c0, c1, c2, c3, c4], _ =>
      obtain ⟨l, own, e, hl⟩ := vec_cells c0 c1 c2 c3 c4 hf
      exact ⟨l, own, by rw [VV, ← e], hl⟩
end Go.Proofs.YtnmggefbajoadaaDoor
