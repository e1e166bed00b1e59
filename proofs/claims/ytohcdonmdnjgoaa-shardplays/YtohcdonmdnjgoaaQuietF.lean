/- Words of a quiet walk: a call of a function value; a struct that lies in a row is loaded. -/
import Derived.Test.YtohcdonmdnjgoaaMem

namespace Go.Proofs.Ytohcdonmdnjgoaa

open Go.RowKit

set_option linter.unusedVariables false

set_option linter.unusedSimpArgs false

section

variable {P : Program} {ops : Array Oper} {rest : List Oper} {o : Oper} {a : Act} {C : World → Prop} {Q : Act → Prop}

theorem wg_callf (hw : Region.wanted o (yielded ops a.tmps) = true) (f : FuncId) (fn : Func) (hf : P.funcs[f]? = some fn) (hnm : (fn.name == "runtime.NumGoroutine") = false) (hbd : fn.body.isNone = false) (c : Operand) (xs : Array Operand) (ts : Array TypeId) (ho : o.op = .call { callee := .value c, args := xs, argTypes := ts }) (lb : Array Value) (hcv : a.eval c = .func (.func f) #[] lb) (args : List Value) (hargs : xs.toList.map a.eval ++ lb.toList = args) (v : Value)
    (hc : ∀ u, C u → Calls P f args.toArray u fun e u' => e = .returned v ∧ C u') (h : ∀ K : Act → Prop, (∀ a, WQ P ops C Q rest a → K a) → K (a.put o.dst v)) : WQ P ops C Q (o :: rest) a := by
  refine ⟨wpQuiet_step fun K hK => ?_⟩
  rw [if_pos hw]
  refine ⟨v, fun u hu => ?_, h K (fun a ha => hK a ha.out)⟩
  unfold Oper.quietAt
  have hargs' : xs.map a.eval ++ lb = args.toArray := by rw [← hargs]; apply Array.toList_inj.1; simp
  have hr : (execOp a.eval o).run P u = .ok (.enter f args.toArray) u := by
    unfold execOp
    simp only [ho]
    simp [resolve, Deferred.ofValue, invoke, hcv, hargs']
    exact run_enter hf hnm hbd _ u
  rw [hr]
  exact ⟨rfl, hc u hu⟩
theorem w_callf (hgd : o.guard = none) (f : FuncId) (fn : Func) (hf : P.funcs[f]? = some fn) (hnm : (fn.name == "runtime.NumGoroutine") = false) (hbd : fn.body.isNone = false) (c : Operand) (xs : Array Operand) (ts : Array TypeId) (ho : o.op = .call { callee := .value c, args := xs, argTypes := ts }) (lb : Array Value) (hcv : a.eval c = .func (.func f) #[] lb) (args : List Value) (hargs : xs.toList.map a.eval ++ lb.toList = args) (v : Value)
    (hc : ∀ u, C u → Calls P f args.toArray u fun e u' => e = .returned v ∧ C u') (h : ∀ K : Act → Prop, (∀ a, WQ P ops C Q rest a → K a) → K (a.put o.dst v)) : WQ P ops C Q (o :: rest) a :=
  wg_callf (by simp [Region.wanted, hgd]) f fn hf hnm hbd c xs ts ho lb hcv args hargs v hc h
theorem wg_mid_load (hw : Region.wanted o (yielded ops a.tmps) = true) (t : TypeId) (x : Operand) (ho : o.op = .load t x) (b p : Nat) (hx : a.eval x = .pointer (some ⟨b, p, none⟩)) (vs : List Value) (hb : ∀ u, C u → u.rangeAt b p vs)
    (d : TypeDesc) (hu : P.underlying t = some d) (hd : d.isRow = true) (hi : (P.info? t).map (·.size) = some vs.length)
    (h : ∀ K : Act → Prop, (∀ a, WQ P ops C Q rest a → K a) → K (a.put o.dst (.agg vs.toArray))) : WQ P ops C Q (o :: rest) a := by
  refine wg_value hw (.agg vs.toArray) (fun u hc => ?_) h
  have hl := run_loadAt_mid u b p t vs d (hb u hc) hu hd hi
  unfold execOp
  simp only [ho, hx, Sem.run_bind, hl, Result.andThen_ok, Sem.run_pure]
theorem w_mid_load (hgd : o.guard = none) (t : TypeId) (x : Operand) (ho : o.op = .load t x) (b p : Nat) (hx : a.eval x = .pointer (some ⟨b, p, none⟩)) (vs : List Value) (hb : ∀ u, C u → u.rangeAt b p vs)
    (d : TypeDesc) (hu : P.underlying t = some d) (hd : d.isRow = true) (hi : (P.info? t).map (·.size) = some vs.length)
    (h : ∀ K : Act → Prop, (∀ a, WQ P ops C Q rest a → K a) → K (a.put o.dst (.agg vs.toArray))) : WQ P ops C Q (o :: rest) a :=
  wg_mid_load (by simp [Region.wanted, hgd]) t x ho b p hx vs hb d hu hd hi h
end

end Go.Proofs.Ytohcdonmdnjgoaa
