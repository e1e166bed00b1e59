/- vec: two vectors compared; Join, Meet, Leq. -/
import Derived.Test.YtkfcbihofipcbaaVecBoth

namespace Go.Proofs.Ytkfcbihofipcbaa.Vc

open Go.RowKit

set_option linter.unusedVariables false

set_option linter.unusedSimpArgs false

set_option maxRecDepth 100000

theorem cells_u64 : Try.prog.cellsOf 26 = 1 := by kernel_rfl
theorem plain_u64 : Try.prog.plainKey 26 = true := by kernel_rfl
theorem Try.size_u64 : (Try.prog.info? 26).map (·.size) = some 1 := by kernel_rfl
theorem some_u64 : ∃ i, Try.prog.info? 26 = some i := by
  have := Try.size_u64
  cases h : Try.prog.info? 26 with
  | none => rw [h] at this; cases this
  | some i => exact ⟨i, rfl⟩
theorem eq_v (a b : List Nat) (ha : a.length = 4) (hb : b.length = 4) (w : World) :
    (Op.equalIn 10000 28 (AV .u64 a) (AV .u64 b)).run Try.prog w = .ok (decide (a = b)) w := by
  obtain ⟨i, hi⟩ := some_u64
  have h := run_equalIn_array (P := Try.prog) w 9999 (ks .u64 a).toArray (ks .u64 b).toArray Try.underlying28 hi
  rw [cells_u64] at h
  have h2 := eqItems_ints (P := Try.prog) w 9998 .u64 plain_u64 Try.underlying26 a b (List.range 4) (fun i hi => by rw [ha, hb]; simpa using hi)
  rw [h2] at h
  show (Op.equalIn (9999 + 1) _ _ _).run _ _ = _
  rw [show AV .u64 a = .agg (ks .u64 a).toArray from rfl, show AV .u64 b = .agg (ks .u64 b).toArray from rfl, h]
  congr 1
  apply decide_eq_decide.2
  refine ⟨fun h => ?_, fun h i _ => by rw [h]⟩
  apply List.ext_getElem (by rw [ha, hb])
  intro j h1 h2
  have := h j (by rw [ha] at h1; simpa using h1)
  simpa [List.getD_eq_getElem?_getD, h1, h2] using this
theorem guardType_v : Try.prog.eqGuardType Try.prog.depth 28 = false := by kernel_rfl
theorem guard_v (x y : Operand) (l m : List Nat) (w : World) : (eqGuard .eql 28 x y (AV .u64 l) (AV .u64 m)).run Try.prog w = .ok () w := by
  unfold AV
  simp [eqGuard, guardType_v]
theorem eql_v (a b : List Nat) (ha : a.length = 4) (hb : b.length = 4) (w : World) :
    (binOp .eql 28 (AV .u64 a) (AV .u64 b)).run Try.prog w = .ok (.bool (decide (a = b))) w := by
  have h := eq_v a b ha hb w
  have e : binOp .eql 28 (AV .u64 a) (AV .u64 b) = (do pure (.bool (← Op.equalIn 10000 28 (AV .u64 a) (AV .u64 b)))) := rfl
  rw [e]
  simp only [Sem.run_bind, h, Result.andThen_ok, Sem.run_pure]
theorem eq_r (a b : List Nat) (ha : a.length = 4) (hb : b.length = 4) (w : World) :
    (Op.equalIn 10000 48 (AV .u64 a) (AV .u64 b)).run Try.prog w = .ok (decide (a = b)) w := by
  obtain ⟨i, hi⟩ := some_u64
  have h := run_equalIn_array (P := Try.prog) w 9999 (ks .u64 a).toArray (ks .u64 b).toArray Try.underlying48 hi
  rw [cells_u64] at h
  have h2 := eqItems_ints (P := Try.prog) w 9998 .u64 plain_u64 Try.underlying26 a b (List.range 4) (fun i hi => by rw [ha, hb]; simpa using hi)
  rw [h2] at h
  show (Op.equalIn (9999 + 1) _ _ _).run _ _ = _
  rw [show AV .u64 a = .agg (ks .u64 a).toArray from rfl, show AV .u64 b = .agg (ks .u64 b).toArray from rfl, h]
  congr 1
  apply decide_eq_decide.2
  refine ⟨fun h => ?_, fun h i _ => by rw [h]⟩
  apply List.ext_getElem (by rw [ha, hb])
  intro j h1 h2
  have := h j (by rw [ha] at h1; simpa using h1)
  simpa [List.getD_eq_getElem?_getD, h1, h2] using this
theorem guardType_r : Try.prog.eqGuardType Try.prog.depth 48 = false := by kernel_rfl
theorem guard_r (x y : Operand) (l m : List Nat) (w : World) : (eqGuard .eql 48 x y (AV .u64 l) (AV .u64 m)).run Try.prog w = .ok () w := by
  unfold AV
  simp [eqGuard, guardType_r]
theorem eql_r (a b : List Nat) (ha : a.length = 4) (hb : b.length = 4) (w : World) :
    (binOp .eql 48 (AV .u64 a) (AV .u64 b)).run Try.prog w = .ok (.bool (decide (a = b))) w := by
  have h := eq_r a b ha hb w
  have e : binOp .eql 48 (AV .u64 a) (AV .u64 b) = (do pure (.bool (← Op.equalIn 10000 48 (AV .u64 a) (AV .u64 b)))) := rfl
  rw [e]
  simp only [Sem.run_bind, h, Result.andThen_ok, Sem.run_pure]
end Go.Proofs.Ytkfcbihofipcbaa.Vc
