/- The contracts of pack's reader. -/
import Derived.Test.YtkiaehehckmpnaaPackSmall

namespace Go.Proofs.Ytkiaehehckmpnaa.Pk

open Go.RowKit

set_option linter.unusedVariables false

set_option linter.unusedSimpArgs false

theorem bcell {W w1 : World} (hb : Below W.heap.size W w1) : (∀ b o, b < W.heap.size → w1.cell? ⟨b, o, none⟩ = W.cell? ⟨b, o, none⟩) ∧ (∀ b o, b < W.heap.size → w1.frozen? ⟨b, o, none⟩ = W.frozen? ⟨b, o, none⟩) :=
  ⟨fun b o h => hb.cell (p := ⟨b, o, none⟩) h, fun b o h => hb.frozen (p := ⟨b, o, none⟩) h⟩

theorem or_byte (x c : Nat) (hx : x < 2 ^ 56) (hc : c < 256) : bits .or .u64 (IntKind.u64.wrap ((x : Int) * 256)) (IntKind.u64.wrap (c : Int)) = ((x * 256 + c : Nat) : Int) := by
  have h1 : IntKind.u64.wrap ((x : Int) * 256) = ((x * 256 : Nat) : Int) := by rw [IntKind.wrap_u64]; omega
  have h2 : IntKind.u64.wrap (c : Int) = (c : Int) := by rw [IntKind.wrap_u64]; omega
  rw [h1, h2, u64_or_nat _ _ (by omega) (by omega)]
  congr 1
  have := Nat.two_pow_add_eq_or_of_lt (i := 8) (b := c) (by omega) x
  rw [Nat.mul_comm] at this
  exact this.symm
theorem take_snoc (s : ByteArray) (k : Nat) (h : k < s.size) : s.data.toList.take (k + 1) = s.data.toList.take k ++ [s[k]] := by
  rw [List.take_succ_eq_append_getElem (by simpa using h)]; rfl

theorem or_grp (x j c : Nat) (hx : x < 128 ^ j) (h64 : x < 2 ^ 64) :
    bits .or .u64 (x : Int) (IntKind.u64.wrap ((c : Int) % 128 * 2 ^ (7 * j))) = (((x + (c % 128) * 128 ^ j) % 2 ^ 64 : Nat) : Int) := by
  have h1 : IntKind.u64.wrap ((c : Int) % 128 * 2 ^ (7 * j)) = (((c % 128 * 2 ^ (7 * j)) % 2 ^ 64 : Nat) : Int) := by
    rw [IntKind.wrap_u64]; simp
  rw [h1, u64_or_nat _ _ (by omega) (by omega), P.or_group x (c % 128) j hx h64]
theorem byte_at (s : ByteArray) (j : Nat) (h : j < s.size) (h' : j < s.data.toList.length) : s.data.toList[j] = s[j] := rfl

end Go.Proofs.Ytkiaehehckmpnaa.Pk
