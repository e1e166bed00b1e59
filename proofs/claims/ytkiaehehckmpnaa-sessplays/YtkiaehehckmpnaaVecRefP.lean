/- The document's own answer to chapter 6: All, Put; concatenations in a quiet walk. -/
import Derived.Test.YtkiaehehckmpnaaVecRef

import Derived.Test.YtkiaehehckmpnaaVecAllF

import Derived.Test.YtkiaehehckmpnaaPackRefPut

import Derived.Lib.Hide

namespace Go.Proofs.Ytkiaehehckmpnaa.Vc

open Go.RowKit

set_option linter.unusedVariables false

set_option linter.unusedSimpArgs false

set_option maxRecDepth 100000

section

variable {P : Program} {ops : Array Oper} {rest : List Oper} {o : Oper} {a : Act} {w : World}

theorem still_row_load {Q : Act → Prop} (hgd : o.guard = none) (k : IntKind) (t : TypeId) (x : Operand) (ho : o.op = .load t x) (b p : Nat) (hx : a.eval x = .pointer (some ⟨b, p, none⟩)) (l : List Nat) (ha : w.rangeAt b p (ks k l))
    (n : Nat) (e : TypeId) (hu : P.underlying t = some (.array n e)) (hi : (P.info? t).map (·.size) = some l.length)
    (h : wpStill P ops w Q rest (a.put o.dst (AV k l))) : wpStill P ops w Q (o :: rest) a := by
  refine still_value hgd (AV k l) ?_ h
  have hl := run_loadAt_mid w b p t (ks k l) _ ha hu rfl (by rw [ks_length]; exact hi)
  unfold execOp
  simp only [ho, hx, Sem.run_bind, hl, Result.andThen_ok, Sem.run_pure]
  rfl
theorem w_cat {C : World → Prop} {Q : Act → Prop} (hgd : o.guard = none) (t t' : TypeId) (x y : Operand) (ho : o.op = .binOp .add t x y t') (b c r : ByteArray) (hx : a.eval x = .string b) (hy : a.eval y = .string c) (hn : b.size + c.size ≤ 9223372036854775807) (hr : b ++ c = r)
    (h : ∀ K : Act → Prop, (∀ a, WQ P ops C Q rest a → K a) → K (a.put o.dst (.string r))) : WQ P ops C Q (o :: rest) a := by
  subst hr
  exact w_concat hgd t t' x y ho b c hx hy hn h
end

end Go.Proofs.Ytkiaehehckmpnaa.Vc
