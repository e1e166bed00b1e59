/- A stamp by its parts, and as the document's: the law's own helpers. -/
import Derived.Test.YtkiaehehckmpnaaStampC

import Derived.Test.YtkiaehehckmpnaaVecAllF

namespace Go.Proofs.Ytkiaehehckmpnaa.Sp

open Go.RowKit Go.Proofs.Ytkiaehehckmpnaa.Vc

set_option linter.unusedVariables false

set_option linter.unusedSimpArgs false

set_option maxRecDepth 100000

theorem mark_cell {w : World} {b : Nat} {l : List Nat} {d : Int} {own : Bool} (h : Blk w b ((ks .u64 l ++ [Value.int .i64 d]) ++ [Value.bool own])) (hl : l.length = 4) :
    w.cell? ⟨b, 4, none⟩ = some (.int .i64 d) ∧ w.cell? ⟨b, 5, none⟩ = some (.bool own) ∧ ∀ j, j < 4 → w.cell? ⟨b, j, none⟩ = some (.int .u64 ((l.getD j 0 : Nat) : Int)) := by
  rw [List.append_assoc] at h
  exact ⟨ext_cell h hl 0 _ rfl, ext_cell h hl 1 _ rfl, fun j hj => vec_cell h j (by omega)⟩
theorem base_at {a : List Nat} (h : a.length = 4) (j : Nat) (hj : j < 3) : (T.base a).getD j 0 = a.getD j 0 % 4 := by
  obtain ⟨x, y, z, t, rfl⟩ := V.four h
  match j, hj with
  | 0, _ => rfl
  | 1, _ => rfl
  | 2, _ => rfl
theorem base_three {a : List Nat} (h : a.length = 4) : (T.base a).take 3 ++ List.replicate (4 - 3) 0 = T.base a := by
  obtain ⟨x, y, z, t, rfl⟩ := V.four h
  rfl
theorem own_at {w : World} {b : Nat} {l : List Nat} {d : Int} {own : Bool} (h : Blk w b (ks .u64 l ++ [Value.int .i64 d, Value.bool own])) (hl : l.length = 4) : w.cell? ⟨b, 5, none⟩ = some (.bool own) ∧ w.frozen? ⟨b, 5, none⟩ = false :=
  ⟨ext_cell h hl 1 _ rfl, h.free 5 (by rw [List.length_append, ks_length, hl]; simp)⟩
theorem own_set {w : World} {b : Nat} {l : List Nat} {d : Int} {own : Bool} (h : Blk w b (ks .u64 l ++ [Value.int .i64 d, Value.bool own])) (hl : l.length = 4) (v : Bool) : Blk (w.setCell ⟨b, 5, none⟩ (.bool v)) b (ks .u64 l ++ [Value.int .i64 d, Value.bool v]) := by
  have := Blk.setc h 5 (by rw [List.length_append, ks_length, hl]; simp) (.bool v)
  rwa [List.set_append_right _ _ (by rw [ks_length, hl]; decide), ks_length, hl] at this
end Go.Proofs.Ytkiaehehckmpnaa.Sp
