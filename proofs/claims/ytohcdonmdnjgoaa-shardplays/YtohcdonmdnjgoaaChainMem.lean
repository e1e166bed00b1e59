/- Versions in memory: four numbers, whose, a value of some cells. -/
import Derived.Test.YtohcdonmdnjgoaaChainMath

import Derived.Test.YtohcdonmdnjgoaaRowGen

import Derived.Test.YtohcdonmdnjgoaaWt

namespace Go.Proofs.Ytohcdonmdnjgoaa.Ch

open Go.RowKit Go.Proofs.Ytohcdonmdnjgoaa.Vc Go.Proofs.Ytohcdonmdnjgoaa.Sp Go.Proofs.Ytohcdonmdnjgoaa.Rw

set_option linter.unusedVariables false

/-- how a value lies in its cells -/
structure Vl (α : Type) where
  f : α → Value
  cs : α → List Value
  k : Nat
  len : ∀ x, (cs x).length = k
  one : ∀ x, ∀ u ∈ cs x, u.oneCell' = true
  zero : α
def wrt : Vl I.Wt := ⟨It.WV, It.wc, 4, fun _ => rfl, fun x u hu => List.all_eq_true.1 (It.one_wc x) u hu, I.none_⟩
section

variable {α : Type}

def vk (F : Vl α) : Kd (C.Vr α) where
  cf x := Value.int .u64 ((x.1.1.getD 0 0 : Nat) : Int) :: .int .u64 ((x.1.1.getD 1 0 : Nat) : Int) :: .int .u64 ((x.1.1.getD 2 0 : Nat) : Int) :: .int .u64 ((x.1.1.getD 3 0 : Nat) : Int) :: .int .i64 x.1.2 :: F.cs x.2
  k := 5 + F.k
  pos := by omega
  len x := by simp only [List.length_cons, F.len]; omega
  one x u hu := by
    simp only [List.mem_cons] at hu
    rcases hu with rfl | rfl | rfl | rfl | rfl | hu
    · rfl
    · rfl
    · rfl
    · rfl
    · rfl
    · exact F.one _ u hu
  none_ := ((V.zeros, 0), F.zero)
theorem vk_ks (F : Vl α) (x : C.Vr α) (h : x.1.1.length = 4) : (vk F).cf x = ks .u64 x.1.1 ++ (Value.int .i64 x.1.2 :: F.cs x.2) := by
  obtain ⟨⟨l, d⟩, v⟩ := x
  match l, h with
  | [p, q, r, s], _ => rfl
/-- the stamp stands ahead in a version -/
theorem vk_stamp (F : Vl α) (x : C.Vr α) (h : x.1.1.length = 4) : (vk F).cf x = (ks .u64 x.1.1 ++ [.int .i64 x.1.2]) ++ F.cs x.2 := by rw [vk_ks F x h, List.append_assoc]; rfl
end

end Go.Proofs.Ytohcdonmdnjgoaa.Ch
