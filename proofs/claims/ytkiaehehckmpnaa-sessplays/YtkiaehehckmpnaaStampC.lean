/- stamp: Get. -/
import Derived.Test.YtkiaehehckmpnaaStampA

import Derived.Test.YtkiaehehckmpnaaVecGet

import Derived.Test.YtkiaehehckmpnaaPackGet

import Derived.Test.YtkiaehehckmpnaaPackText

namespace Go.Proofs.Ytkiaehehckmpnaa.T

set_option linter.unusedVariables false

/-- what Get tells, and the reader behind it -/
def gets (s : ByteArray) (b : Bool) : List Nat × Int × ByteArray × Bool :=
  if (V.gets (P.RN s b 1).2.1 (P.RN s b 1).2.2).2.2 = true ∨ right (V.gets (P.RN s b 1).2.1 (P.RN s b 1).2.2).1 ((P.RN s b 1).1 : Int) = false then (V.zeros, 0, ⟨#[]⟩, true)
  else ((V.gets (P.RN s b 1).2.1 (P.RN s b 1).2.2).1, ((P.RN s b 1).1 : Int), (V.gets (P.RN s b 1).2.1 (P.RN s b 1).2.2).2)
theorem RN_lt (s : ByteArray) (b : Bool) (n : Nat) (t : ByteArray) (c : Bool) (h : P.RN s b 1 = (n, t, c)) : n < 256 := by
  unfold P.RN P.outN at h
  split at h
  · simp only [Prod.mk.injEq] at h; omega
  · rename_i m r hm
    simp only [Prod.mk.injEq] at h
    obtain ⟨rfl, _⟩ := h
    cases b with
    | true => simp at hm
    | false =>
      simp only [Bool.false_eq_true, if_false] at hm
      unfold P.rnum at hm
      split at hm
      · cases hm
      · simp at hm
        rw [← hm.1]
        have := P.val_lt (s.data.toList.take 1)
        have hl : (s.data.toList.take 1).length ≤ 1 := by rw [List.length_take]; omega
        have h2 : 256 ^ (s.data.toList.take 1).length ≤ 256 ^ 1 := Nat.pow_le_pow_right (by omega) hl
        omega
theorem gets_ok (s : ByteArray) (b : Bool) : V.Ok (gets s b).1 := by
  unfold gets
  split
  · exact V.zeros_ok
  · exact (V.gets_ok _ _).1
end Go.Proofs.Ytkiaehehckmpnaa.T

namespace Go.Proofs.Ytkiaehehckmpnaa.Sp

open Go.RowKit Go.Proofs.Ytkiaehehckmpnaa.Vc

set_option linter.unusedVariables false

set_option linter.unusedSimpArgs false

set_option maxRecDepth 100000

theorem wrapi {x : Int} (h0 : -9223372036854775808 ≤ x) (h1 : x ≤ 9223372036854775807) : IntKind.i64.wrap x = x := by
  have h2 : (if 9223372036854775808 ≤ x % 18446744073709551616 then x % 18446744073709551616 - 18446744073709551616 else x % 18446744073709551616) = x := by
    split <;> omega
  simpa [IntKind.wrap, IntKind.bits, IntKind.signed] using h2
section

variable {P : Program} {ops : Array Oper} {rest : List Oper} {o : Oper} {a : Act} {w : World} {Q : Exit → Act → World → Prop}

/-- a vector is stored into the first field of a struct -/
theorem row_store (hgd : o.guard = none) (t : TypeId) (x y : Operand) (ho : o.op = .store t x y) (b : Nat) (hx : a.eval x = .pointer (some ⟨b, 0, none⟩)) (l' : List Nat) (hy : a.eval y = AV .u64 l')
    (l : List Nat) (ext : List Value) (hb : Blk w b (ks .u64 l ++ ext)) (h4 : l.length = 4) (hl : l'.length = 4) (hi : (P.info? t).map (·.size) = some l'.length)
    (h : ∀ w', Blk w' b (ks .u64 l' ++ ext) → Upd b w w' → wpList P ops Q rest (a.put o.dst undef) w') : wpList P ops Q (o :: rest) a w := by
  have hth : w.there b 0 l'.length := fun j hj => hb.2 j (by rw [List.length_append, ks_length]; omega)
  refine wpList_store_mid hgd t x y ho b 0 _ hx hy (by rw [List.size_toArray, ks_length]; exact hth) (by rw [List.size_toArray, ks_length]; exact hi) (ks_one .u64 l') (h _ ?_ (Upd.setCells b _ 0 w))
  obtain ⟨x0, x1, x2, x3, rfl⟩ := V.four h4
  obtain ⟨y0, y1, y2, y3, rfl⟩ := V.four hl
  have s0 := Blk.setc hb 0 (by simp [ks]) (.int .u64 (y0 : Int))
  have s1 := Blk.setc s0 1 (by simp [ks]) (.int .u64 (y1 : Int))
  have s2 := Blk.setc s1 2 (by simp [ks]) (.int .u64 (y2 : Int))
  have s3 := Blk.setc s2 3 (by simp [ks]) (.int .u64 (y3 : Int))
  exact s3
end

end Go.Proofs.Ytkiaehehckmpnaa.Sp
