/- vec: All. -/
import Derived.Test.YtepoodfihemmcaaVecOps

namespace Go.Proofs.Ytepoodfihemmcaa.Vc

open Go.RowKit

set_option linter.unusedVariables false

set_option linter.unusedSimpArgs false

set_option maxRecDepth 100000

/-- vectors that lie one behind the other, from o on in block b -/
def Vecs (w : World) (b o : Nat) (L : List (List Nat)) : Prop := ∀ i l, L[i]? = some l → w.rangeAt b (o + 4 * i) (ks .u64 l)
theorem Vecs.below {w w' : World} {b o B : Nat} {L : List (List Nat)} (h : Vecs w b o L) (hb : Below B w w') (hB : b < B) : Vecs w' b o L :=
  fun i l hl j v hv => by rw [hb.cell (p := ⟨b, o + 4 * i + j, none⟩) hB]; exact h i l hl j v hv
theorem Vecs.drew {w : World} {b o : Nat} {L : List (List Nat)} (h : Vecs w b o L) : Vecs w.drew b o L := fun i l hl => by simpa using h i l hl
section

variable {P : Program} {ops : Array Oper} {rest : List Oper} {o : Oper} {a : Act} {w : World} {Q : Exit → Act → World → Prop}

theorem row_load (hgd : o.guard = none) (k : IntKind) (t : TypeId) (x : Operand) (ho : o.op = .load t x) (b p : Nat) (hx : a.eval x = .pointer (some ⟨b, p, none⟩)) (l : List Nat) (ha : w.rangeAt b p (ks k l))
    (n : Nat) (e : TypeId) (hu : P.underlying t = some (.array n e)) (hi : (P.info? t).map (·.size) = some l.length)
    (h : wpList P ops Q rest (a.put o.dst (AV k l)) w) : wpList P ops Q (o :: rest) a w :=
  wpList_load_mid hgd t x ho b p hx (ks k l) _ ha hu rfl (by rw [ks_length]; exact hi) h
end

end Go.Proofs.Ytepoodfihemmcaa.Vc
