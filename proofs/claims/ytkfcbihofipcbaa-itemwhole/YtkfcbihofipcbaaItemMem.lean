/- Writes in memory: a block of four cells; rows of them. -/
import Derived.Test.YtkfcbihofipcbaaItemMath

import Derived.Test.YtkfcbihofipcbaaStampMem

import Derived.Test.YtkfcbihofipcbaaVecBackP

namespace Go.Proofs.Ytkfcbihofipcbaa.It

open Go.RowKit Go.Proofs.Ytkfcbihofipcbaa.Vc Go.Proofs.Ytkfcbihofipcbaa.Sp

set_option linter.unusedVariables false

set_option linter.unusedSimpArgs false

set_option maxRecDepth 100000

/-- a write's cells -/
def wc (x : I.Wt) : List Value := [.string x.1, .string x.2.1, .string x.2.2.1, .bool x.2.2.2]
def WV (x : I.Wt) : Value := .agg (wc x).toArray
theorem one_wc (x : I.Wt) : (wc x).all (fun v => v.oneCell') = true := rfl
/-- the cells of writes, one behind the other -/
def cellsW (L : List I.Wt) : List Value := (L.map wc).flatten
theorem cellsW_len (L : List I.Wt) : (cellsW L).length = L.length * 4 := by
  induction L with
  | nil => rfl
  | cons a L ih =>
    unfold cellsW at ih ⊢
    rw [List.map_cons, List.flatten_cons, List.length_append, ih, List.length_cons]
    show 4 + _ = _
    omega
theorem cellsW_add (L : List I.Wt) (a : I.Wt) : cellsW (L ++ [a]) = cellsW L ++ wc a := by simp [cellsW]
theorem cellsW_at (L : List I.Wt) (i : Nat) (x : I.Wt) (hl : L[i]? = some x) (j : Nat) (v : Value) (hv : (wc x)[j]? = some v) : (cellsW L)[4 * i + j]? = some v := by
  induction L generalizing i with
  | nil => simp at hl
  | cons a L ih =>
    have ha : (wc a).length = 4 := rfl
    cases i with
    | zero =>
      simp only [List.getElem?_cons_zero, Option.some.injEq] at hl
      subst hl
      unfold cellsW
      rw [List.map_cons, List.flatten_cons, Nat.mul_zero, Nat.zero_add, List.getElem?_append_left (List.getElem?_eq_some_iff.1 hv).1]
      exact hv
    | succ i =>
      rw [List.getElem?_cons_succ] at hl
      unfold cellsW
      rw [List.map_cons, List.flatten_cons, List.getElem?_append_right (by omega), ha, show 4 * (i + 1) + j - 4 = 4 * i + j by omega]
      exact ih i hl
/-- from cell off on block b holds these writes, one behind the other -/
def Ws (w : World) (b off : Nat) (L : List I.Wt) : Prop := ∀ i x, L[i]? = some x → w.rangeAt b (off + 4 * i) (wc x)
/-- v is a slice that holds these writes -/
structure IsWs (w : World) (v : Value) (L : List I.Wt) : Prop where
  is : ∃ a cap, v = .slice a L.length cap ∧ L.length ≤ cap ∧ cap ≤ maxLen ∧ (L ≠ [] → ∃ b off, a = some ⟨b, off, none⟩ ∧ b < w.heap.size ∧ Ws w b off L)
theorem Ws.below {w w' : World} {b off B : Nat} {L : List I.Wt} (h : Ws w b off L) (hb : Below B w w') (hB : b < B) : Ws w' b off L := fun i x hx j v hv => by
  rw [hb.cell (p := ⟨b, off + 4 * i + j, none⟩) hB]
  exact h i x hx j v hv
theorem IsWs.below {w w' : World} {v : Value} {L : List I.Wt} (h : IsWs w v L) (hb : Below w.heap.size w w') : IsWs w' v L := by
  obtain ⟨a, cap, hv, h1, h2, h3⟩ := h.is
  refine ⟨a, cap, hv, h1, h2, fun hn => ?_⟩
  obtain ⟨b, off, ha, hlt, hW⟩ := h3 hn
  exact ⟨b, off, ha, Nat.lt_of_lt_of_le hlt hb.size, hW.below hb hlt⟩
theorem IsWs.nil (w : World) : IsWs w (.slice none 0 0) [] := ⟨none, 0, rfl, Nat.le_refl _, by unfold maxLen; omega, fun h => absurd rfl h⟩
/-- one of the writes -/
theorem IsWs.at {w : World} {v : Value} {L : List I.Wt} (h : IsWs w v L) (i : Nat) (hi : i < L.length) : ∃ b off cap, v = .slice (some ⟨b, off, none⟩) L.length cap ∧ b < w.heap.size ∧ w.rangeAt b (off + 4 * i) (wc (L.getD i I.none_)) := by
  obtain ⟨a, cap, hv, h1, h2, h3⟩ := h.is
  obtain ⟨b, off, rfl, hlt, hW⟩ := h3 (fun e => by rw [e] at hi; exact absurd hi (by simp))
  refine ⟨b, off, cap, hv, hlt, hW i _ ?_⟩
  rw [List.getD_eq_getElem?_getD, List.getElem?_eq_getElem hi]; rfl
section

variable {P : Program} {ops : Array Oper} {rest : List Oper} {o : Oper} {a : Act} {w : World} {Q : Exit → Act → World → Prop}

/-- a struct in the midst of a block is loaded -/
theorem mid_load (hgd : o.guard = none) (t : TypeId) (x : Operand) (ho : o.op = .load t x) (b p : Nat) (hx : a.eval x = .pointer (some ⟨b, p, none⟩)) (vs : List Value) (hb : w.rangeAt b p vs)
    (d : TypeDesc) (hu : P.underlying t = some d) (hd : d.isRow = true) (hi : (P.info? t).map (·.size) = some vs.length)
    (h : wpList P ops Q rest (a.put o.dst (.agg vs.toArray)) w) : wpList P ops Q (o :: rest) a w :=
  wpList_load_mid hgd t x ho b p hx vs d hb hu hd hi h
end

theorem range_at {w : World} {b p : Nat} {vs : List Value} (h : w.rangeAt b p vs) (j : Nat) (v : Value) (hv : vs[j]? = some v) : w.cell? ⟨b, p + j, none⟩ = some v := h j v hv
/-- a transaction's value -/
def TV (a : List Nat) (d : Int) (v : Value) : Value := .agg (ks .u64 a ++ [Value.int .i64 d, v]).toArray
theorem tx_cell {w : World} {b : Nat} {a : List Nat} {d : Int} {v : Value} (h : Blk w b (ks .u64 a ++ [Value.int .i64 d, v])) (ha : a.length = 4) : w.cell? ⟨b, 5, none⟩ = some v := ext_cell h ha 1 _ rfl
theorem tx_stamp {w : World} {b : Nat} {a : List Nat} {d : Int} {v : Value} (h : Blk w b (ks .u64 a ++ [Value.int .i64 d, v])) : Blk w b ((ks .u64 a ++ [Value.int .i64 d]) ++ [v]) := by
  rw [List.append_assoc]; exact h
theorem Try.elem_rw : Try.prog.elem 39 = 38 := by kernel_rfl
theorem index_rw (b o n cap j : Nat) (hj : j < n) (w : World) : (Instr.indexAt 39 (.slice (some ⟨b, o, none⟩) n cap) (.int .i64 (j : Int))).run Try.prog w = .ok (.pointer (some ⟨b, o + 4 * j, none⟩)) w := by
  rw [run_indexAt_slice w _ _ _ _ _ _ (by rw [Try.elem_rw]; exact Try.underlying39), Try.elem_rw]
  rw [if_pos ⟨by omega, by omega⟩, Try.sizeOf38]
  have e : (⟨b, o, none⟩ : Addr).add ((j : Int).toNat * 4) = ⟨b, o + 4 * j, none⟩ := by
    rw [Int.toNat_natCast, Nat.mul_comm]
    unfold Addr.add
    split <;> simp_all
  simp
  rw [Int.toNat_natCast] at e
  exact e
theorem Try.elem_iw : Try.prog.elem 41 = 23 := by kernel_rfl
theorem index_iw (b o n cap j : Nat) (hj : j < n) (w : World) : (Instr.indexAt 41 (.slice (some ⟨b, o, none⟩) n cap) (.int .i64 (j : Int))).run Try.prog w = .ok (.pointer (some ⟨b, o + 4 * j, none⟩)) w := by
  rw [run_indexAt_slice w _ _ _ _ _ _ (by rw [Try.elem_iw]; exact Try.underlying41), Try.elem_iw]
  rw [if_pos ⟨by omega, by omega⟩, Try.sizeOf23]
  have e : (⟨b, o, none⟩ : Addr).add ((j : Int).toNat * 4) = ⟨b, o + 4 * j, none⟩ := by
    rw [Int.toNat_natCast, Nat.mul_comm]
    unfold Addr.add
    split <;> simp_all
  simp
  rw [Int.toNat_natCast] at e
  exact e
theorem Try.size_tx : (Try.prog.info? 52).map (·.size) = some 6 := by kernel_rfl
theorem size_tx {a : List Nat} {d : Int} {v : Value} (ha : a.length = 4) : (Try.prog.info? 52).map (·.size) = some (ks .u64 a ++ [Value.int .i64 d, v]).length := by
  rw [List.length_append, ks_length, ha]; exact Try.size_tx
theorem Try.size_itx : (Try.prog.info? 43).map (·.size) = some 6 := by kernel_rfl
theorem size_itx {a : List Nat} {d : Int} {v : Value} (ha : a.length = 4) : (Try.prog.info? 43).map (·.size) = some (ks .u64 a ++ [Value.int .i64 d, v]).length := by
  rw [List.length_append, ks_length, ha]; exact Try.size_itx
theorem Try.size_w : (Try.prog.info? 23).map (·.size) = some 4 := by kernel_rfl
theorem Try.size_rw : (Try.prog.info? 38).map (·.size) = some 4 := by kernel_rfl
end Go.Proofs.Ytkfcbihofipcbaa.It
