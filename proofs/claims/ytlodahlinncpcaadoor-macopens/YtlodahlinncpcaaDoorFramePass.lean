/- A pass (a token by its parts, and a flag), by value, that came in. -/
import Derived.Test.YtlodahlinncpcaaDoorFrameLaid
import Derived.Lib.SmallJoins
namespace Go.Proofs.YtlodahlinncpcaaDoor
open Go.ChangeShapes Go.WideShapes Go.ChangeAt Go.RowKit
set_option linter.unusedVariables false
set_option maxRecDepth 100000 in
theorem open_pass {H : Type} {enc : TypeId × Value → H} {W : World} {base : Nat} {v : Value} {d : DataW H} {p : List MemPlace}
    (hval : Value.okWide Tryd.prog W .any base 39 v) (h : DataW.Trod enc Tryd.prog W 0 (fun _ => true) true 39 v d p) :
    ∃ T B R U own, v = .agg #[.int .i64 T, .string B, .int .i64 R, .int .u64 U, .bool own] ∧ (Lit.int .i64 T).wf = true ∧ B.size ≤ maxLen ∧ (Lit.int .i64 R).wf = true ∧ (Lit.int .u64 U).wf = true := by
  obtain ⟨xs, rfl, hxs⟩ := okWide_struct Tryd.underlying39 hval
  obtain ⟨fuel, hf⟩ := h
  obtain ⟨y0, y1, n, _, _, t0, t1⟩ := trod_struct2 Tryd.underlying39 hf
  rw [show Tryd.prog.cellsOf 39 = 5 by kernel_rfl] at hxs
  obtain ⟨l⟩ := xs
  match l, hxs with
  | [c0, c1, c2, c3, c4], _ =>
    have k37 : Tryd.prog.cellsOf 37 = 4 := by kernel_rfl
    have k4 : Tryd.prog.cellsOf 4 = 1 := by kernel_rfl
    have k3 : Tryd.prog.cellsOf 3 = 1 := by kernel_rfl
    have k9 : Tryd.prog.cellsOf 9 = 1 := by kernel_rfl
    have k27 : Tryd.prog.cellsOf 27 = 1 := by kernel_rfl
    have t0' : DataW.trod enc Tryd.prog W 0 (fun _ => true) true n 37 (([c0, c1, c2, c3, c4].drop 0).take (Tryd.prog.cellsOf 37)) = some y0 := t0
    have t1' : DataW.trod enc Tryd.prog W 0 (fun _ => true) true n 4 (([c0, c1, c2, c3, c4].drop 4).take (Tryd.prog.cellsOf 4)) = some y1 := t1
    rw [k37] at t0'
    rw [k4] at t1'
    obtain ⟨z0, z1, z2, z3, m, _, _, s0, s1, s2, s3⟩ := Go.Joins.trod_struct4 Tryd.underlying37 t0'
    have s0' : DataW.trod enc Tryd.prog W 0 (fun _ => true) true m 3 (([c0, c1, c2, c3].drop 0).take (Tryd.prog.cellsOf 3)) = some z0 := s0
    have s1' : DataW.trod enc Tryd.prog W 0 (fun _ => true) true m 9 (([c0, c1, c2, c3].drop 1).take (Tryd.prog.cellsOf 9)) = some z1 := s1
    have s2' : DataW.trod enc Tryd.prog W 0 (fun _ => true) true m 3 (([c0, c1, c2, c3].drop 2).take (Tryd.prog.cellsOf 3)) = some z2 := s2
    have s3' : DataW.trod enc Tryd.prog W 0 (fun _ => true) true m 27 (([c0, c1, c2, c3].drop 3).take (Tryd.prog.cellsOf 27)) = some z3 := s3
    rw [k3] at s0' s2'
    rw [k9] at s1'
    rw [k27] at s3'
    simp only [List.drop, List.take] at s0' s1' s2' s3' t1'
    obtain ⟨T, e0, _, w0⟩ := DataW.trod_int Tryd.underlying3 s0'
    obtain ⟨B, e1, _, w1⟩ := DataW.trod_string Tryd.underlying9 s1'
    obtain ⟨R, e2, _, w2⟩ := DataW.trod_int Tryd.underlying3 s2'
    obtain ⟨U, e3, _, w3⟩ := DataW.trod_int Tryd.underlying27 s3'
    obtain ⟨own, e4, _⟩ := DataW.trod_bool Tryd.underlying4 t1'
    simp only [List.cons.injEq, and_true] at e0 e1 e2 e3 e4
    subst e0 e1 e2 e3 e4
    exact ⟨T, B, R, U, own, rfl, w0, w1, w2, w3⟩
end Go.Proofs.YtlodahlinncpcaaDoor
