/- Regions that draw their order: reads first, then a tail that is forced. -/
import Derived.Test.YtlodahlinncpcaaDoorShaArr
import Derived.StillTailTactics
import Derived.Laws.Concat
import Derived.Deep.QuietTactic
import Derived.BigQuiet
namespace Go.Proofs.YtlodahlinncpcaaDoor
open Go.RowKit
set_option linter.unusedVariables false
set_option linter.unusedSimpArgs false
section
variable {P : Program} {ops : Array Oper} {rest : List Oper} {o : Oper} {a : Act} {w : World} {Q : Act → Prop}
/-- an operation that yields a value and leaves the world -/
theorem still_value (hgd : o.guard = none) (v : Value) (hr : (execOp a.eval o).run P w = .ok (.value v) w) (h : wpStill P ops w Q rest (a.put o.dst v)) : wpStill P ops w Q (o :: rest) a := by
  refine wpStill_step fun K hK => ?_
  rw [if_pos (by simp [Region.wanted, hgd])]
  unfold Oper.still
  rw [hr]
  exact ⟨rfl, hK _ h⟩
theorem still_arr_load (hgd : o.guard = none) (k : IntKind) (t : TypeId) (x : Operand) (ho : o.op = .load t x) (b : Nat) (hx : a.eval x = .pointer (some ⟨b, 0, none⟩)) (l : List Nat) (ha : Arr k w b l)
    (n : Nat) (e : TypeId) (hu : P.underlying t = some (.array n e)) (hi : (P.info? t).map (·.size) = some l.length)
    (h : wpStill P ops w Q rest (a.put o.dst (AV k l))) : wpStill P ops w Q (o :: rest) a := by
  refine still_value hgd (AV k l) ?_ h
  have hl := run_loadAt_mid w b 0 t (ks k l) _ ha.1 hu rfl (by rw [ks_length]; exact hi)
  unfold execOp
  simp only [ho, hx, Sem.run_bind, hl, Result.andThen_ok, Sem.run_pure]
  rfl
/-- two texts, one behind the other -/
theorem still_concat (hgd : o.guard = none) (t t' : TypeId) (x y : Operand) (ho : o.op = .binOp .add t x y t') (b c : ByteArray) (hx : a.eval x = .string b) (hy : a.eval y = .string c) (hn : b.size + c.size ≤ 9223372036854775807)
    (h : wpStill P ops w Q rest (a.put o.dst (.string (b ++ c)))) : wpStill P ops w Q (o :: rest) a := by
  refine still_value hgd (.string (b ++ c)) ?_ h
  have e : binOp .add t (.string b) (.string c) = Op.stringOp .add b c := rfl
  unfold execOp
  simp only [ho, hx, hy, Sem.run_bind, e]
  simp [eqGuard]
  rw [run_string_add_sum w b c hn]
  rfl
end
end Go.Proofs.YtlodahlinncpcaaDoor
namespace Go.Proofs.YtlodahlinncpcaaDoor
open Go.RowKit
set_option linter.unusedVariables false
set_option linter.unusedSimpArgs false
section
variable {P : Program} {ops : Array Oper} {rest : List Oper} {o : Oper} {a : Act} {C : World → Prop} {Q : Act → Prop}
/-- an operation that yields one value in every world of the class, and leaves the world -/
theorem q_value (hgd : o.guard = none) (v : Value) (hr : ∀ u, C u → (execOp a.eval o).run P u = .ok (.value v) u) (h : ∀ K : Act → Prop, (∀ a, wpQuiet P ops C Q rest a → K a) → K (a.put o.dst v)) : wpQuiet P ops C Q (o :: rest) a := by
  refine wpQuiet_step fun K hK => ?_
  rw [if_pos (by simp [Region.wanted, hgd])]
  refine ⟨v, fun u hu => ?_, h K hK⟩
  unfold Oper.quietAt
  rw [hr u hu]
  exact ⟨rfl, rfl⟩
theorem q_move (hgd : o.guard = none) (x : Operand) (ho : o.op = .move x) (v : Value) (hx : a.eval x = v) (h : ∀ K : Act → Prop, (∀ a, wpQuiet P ops C Q rest a → K a) → K (a.put o.dst v)) : wpQuiet P ops C Q (o :: rest) a :=
  q_value hgd v (fun u _ => by unfold execOp; simp only [ho, hx]; rfl) h
theorem q_assign (hgd : o.guard = none) (x : Operand) (ho : o.op = .assign x) (v : Value) (hx : a.eval x = v) (h : ∀ K : Act → Prop, (∀ a, wpQuiet P ops C Q rest a → K a) → K (a.put o.dst v)) : wpQuiet P ops C Q (o :: rest) a :=
  q_value hgd v (fun u _ => by unfold execOp; simp only [ho, hx]; rfl) h
theorem run_enter {f : FuncId} {fn : Func} (hf : P.funcs[f]? = some fn) (hn : (fn.name == "runtime.NumGoroutine") = false) (hb : fn.body.isNone = false) (args : Array Value) (w : World) : (callFunc f args).run P w = .ok (.enter f args) w := by
  have h1 : fn.name ≠ "runtime.NumGoroutine" := by simpa using hn
  have h2 : ¬ fn.body = none := fun e => by rw [e] at hb; cases hb
  simp [callFunc, go_sem, hf, h1, h2]
/-- a call that hands back one value, and leaves a world of the class -/
theorem q_call (hgd : o.guard = none) (f : FuncId) (fn : Func) (hf : P.funcs[f]? = some fn) (hnm : (fn.name == "runtime.NumGoroutine") = false) (hbd : fn.body.isNone = false) (xs : Array Operand) (ts : Array TypeId) (ho : o.op = .call { callee := .value (.func f), args := xs, argTypes := ts }) (args : List Value) (hargs : xs.toList.map a.eval = args) (v : Value)
    (hc : ∀ u, C u → Calls P f args.toArray u fun e u' => e = .returned v ∧ C u') (h : ∀ K : Act → Prop, (∀ a, wpQuiet P ops C Q rest a → K a) → K (a.put o.dst v)) : wpQuiet P ops C Q (o :: rest) a := by
  refine wpQuiet_step fun K hK => ?_
  rw [if_pos (by simp [Region.wanted, hgd])]
  refine ⟨v, fun u hu => ?_, h K hK⟩
  unfold Oper.quietAt
  have hargs' : xs.map a.eval = args.toArray := by rw [← hargs]; apply Array.toList_inj.1; simp
  have hr : (execOp a.eval o).run P u = .ok (.enter f args.toArray) u := by
    unfold execOp
    simp only [ho]
    simp [resolve, Deferred.ofValue, invoke, hargs', Act.eval]
    exact run_enter hf hnm hbd _ u
  rw [hr]
  exact ⟨rfl, hc u hu⟩
theorem q_concat (hgd : o.guard = none) (t t' : TypeId) (x y : Operand) (ho : o.op = .binOp .add t x y t') (b c : ByteArray) (hx : a.eval x = .string b) (hy : a.eval y = .string c) (hn : b.size + c.size ≤ 9223372036854775807)
    (h : ∀ K : Act → Prop, (∀ a, wpQuiet P ops C Q rest a → K a) → K (a.put o.dst (.string (b ++ c)))) : wpQuiet P ops C Q (o :: rest) a := by
  refine q_value hgd (.string (b ++ c)) (fun u _ => ?_) h
  have e : binOp .add t (.string b) (.string c) = Op.stringOp .add b c := rfl
  unfold execOp
  simp only [ho, hx, hy, Sem.run_bind, e]
  simp [eqGuard]
  rw [run_string_add_sum u b c hn]
  rfl
/-- a region that draws, in the class of the worlds that only have more memory -/
theorem region_more {id : Nat} {Q : Exit → Act → World → Prop} {a : Act} {w : World} {l : List Oper} (hm : P.follows .mixedOrders = true) (hB : Region.lexB .any l.toArray = true)
    (h : wpQuiet P l.toArray (fun u => Below w.heap.size w u) (fun a' => ∀ u, Below w.heap.size w u → Q .normal a' u) l a) : (Code.region id l.toArray true).wp P Q a w :=
  wp_region_quiet (C := fun u => Below w.heap.size w u) hm hB (Below.drew (Below.refl _ _)) (by simpa using h)
end
theorem keepcell {W w1 : World} (hb : Below W.heap.size W w1) {b o : Nat} {v : Value} (h : b < W.heap.size) (hv : W.cell? ⟨b, o, none⟩ = some v) : w1.cell? ⟨b, o, none⟩ = some v := by
  rw [hb.cell (p := ⟨b, o, none⟩) h]; exact hv
/-- a contract that ends in more memory, met in a world that has more memory -/
theorem Calls.more {P : Program} {f : FuncId} {args : Array Value} {w u : World} {v : Value} (hu : Below w.heap.size w u) (h : Calls P f args u fun e u' => e = .returned v ∧ Below u.heap.size u u') :
    Calls P f args u fun e u' => e = .returned v ∧ Below w.heap.size w u' :=
  h.mono fun _ _ ⟨he, hb⟩ => ⟨he, hu.trans (hb.mono hu.size)⟩
end Go.Proofs.YtlodahlinncpcaaDoor
