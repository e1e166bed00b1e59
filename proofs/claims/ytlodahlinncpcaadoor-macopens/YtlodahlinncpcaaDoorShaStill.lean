/- Regions that draw their order: reads first, then a tail that is forced. -/
import Derived.Test.YtlodahlinncpcaaDoorShaArr
import Derived.StillTailTactics
import Derived.Laws.Concat
namespace Go.Proofs.YtlodahlinncpcaaDoor
open Go.RowKit
set_option linter.unusedVariables false
set_option linter.unusedSimpArgs false
section
variable {P : Program} {ops : Array Oper} {rest : List Oper} {o : Oper} {a : Act} {w : World} {Q : Act → Prop}
/-- an operation that yields a value and leaves the world -/
theorem still_value (hgd : o.guard = none) (v : Value) (hr : (execOp a.eval o).run P w = .ok (.value v) w) (h : wpStill P ops w Q rest (a.put o.dst v)) : wpStill P ops w Q (o :: rest) a := by
  refine wpStill_step fun K hK => ?_
  rw [if_pos (by simp [Region.wanted, hgd])]
  unfold Oper.still
  rw [hr]
  exact ⟨rfl, hK _ h⟩
theorem still_arr_load (hgd : o.guard = none) (k : IntKind) (t : TypeId) (x : Operand) (ho : o.op = .load t x) (b : Nat) (hx : a.eval x = .pointer (some ⟨b, 0, none⟩)) (l : List Nat) (ha : Arr k w b l)
    (n : Nat) (e : TypeId) (hu : P.underlying t = some (.array n e)) (hi : (P.info? t).map (·.size) = some l.length)
    (h : wpStill P ops w Q rest (a.put o.dst (AV k l))) : wpStill P ops w Q (o :: rest) a := by
  refine still_value hgd (AV k l) ?_ h
  have hl := run_loadAt_mid w b 0 t (ks k l) _ ha.1 hu rfl (by rw [ks_length]; exact hi)
  unfold execOp
  simp only [ho, hx, Sem.run_bind, hl, Result.andThen_ok, Sem.run_pure]
  rfl
/-- two texts, one behind the other -/
theorem still_concat (hgd : o.guard = none) (t t' : TypeId) (x y : Operand) (ho : o.op = .binOp .add t x y t') (b c : ByteArray) (hx : a.eval x = .string b) (hy : a.eval y = .string c) (hn : b.size + c.size ≤ 9223372036854775807)
    (h : wpStill P ops w Q rest (a.put o.dst (.string (b ++ c)))) : wpStill P ops w Q (o :: rest) a := by
  refine still_value hgd (.string (b ++ c)) ?_ h
  have e : binOp .add t (.string b) (.string c) = Op.stringOp .add b c := rfl
  unfold execOp
  simp only [ho, hx, hy, Sem.run_bind, e]
  simp [eqGuard]
  rw [run_string_add_sum w b c hn]
  rfl
end
end Go.Proofs.YtlodahlinncpcaaDoor
