/- Versions in memory: four numbers, whose, a value of one cell. -/
import Derived.Test.YtmajkapapbhabaaChainMath

import Derived.Test.YtmajkapapbhabaaRowGen

namespace Go.Proofs.Ytmajkapapbhabaa.Ch

open Go.RowKit Go.Proofs.Ytmajkapapbhabaa.Vc Go.Proofs.Ytmajkapapbhabaa.Sp Go.Proofs.Ytmajkapapbhabaa.Rw

set_option linter.unusedVariables false

/-- how a value lies in its cell -/
structure Vl (α : Type) where
  f : α → Value
  one : ∀ x, (f x).oneCell' = true
  zero : α
def txt : Vl ByteArray := ⟨fun s => .string s, fun _ => rfl, ⟨#[]⟩⟩
def num : Vl Nat := ⟨fun n => .int .i64 n, fun _ => rfl, 0⟩
section

variable {α : Type}

def vk (F : Vl α) : Kd (C.Vr α) where
  cf x := [.int .u64 ((x.1.1.getD 0 0 : Nat) : Int), .int .u64 ((x.1.1.getD 1 0 : Nat) : Int), .int .u64 ((x.1.1.getD 2 0 : Nat) : Int), .int .u64 ((x.1.1.getD 3 0 : Nat) : Int), .int .i64 x.1.2, F.f x.2]
  k := 6
  pos := by decide
  len x := rfl
  one x u hu := by
    simp only [List.mem_cons, List.not_mem_nil, or_false] at hu
    rcases hu with rfl | rfl | rfl | rfl | rfl | rfl
    · rfl
    · rfl
    · rfl
    · rfl
    · rfl
    · exact F.one _
  none_ := ((V.zeros, 0), F.zero)
theorem vk_ks (F : Vl α) (x : C.Vr α) (h : x.1.1.length = 4) : (vk F).cf x = ks .u64 x.1.1 ++ [.int .i64 x.1.2, F.f x.2] := by
  obtain ⟨⟨l, d⟩, v⟩ := x
  match l, h with
  | [p, q, r, s], _ => rfl
/-- the stamp stands ahead in a version -/
theorem vk_stamp (F : Vl α) (x : C.Vr α) (h : x.1.1.length = 4) : (vk F).cf x = (ks .u64 x.1.1 ++ [.int .i64 x.1.2]) ++ [F.f x.2] := by rw [vk_ks F x h, List.append_assoc]; rfl
end

end Go.Proofs.Ytmajkapapbhabaa.Ch
