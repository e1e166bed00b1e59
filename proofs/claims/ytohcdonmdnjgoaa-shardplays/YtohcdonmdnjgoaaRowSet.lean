/- One struct of an own row is another one. -/
import Derived.Test.YtohcdonmdnjgoaaChainObj

import Derived.Laws.IdiomCopy

namespace Go.Proofs.Ytohcdonmdnjgoaa.Rw

open Go.RowKit

set_option linter.unusedVariables false

theorem setCells_row (w : World) (g o : Nat) (t : TypeId) (cur : Array Value) (vs : List Value) (hg : w.heap[g]? = some (.cells cur t (0, 0))) (hfit : o + vs.length ≤ cur.size) (h1 : ∀ v ∈ vs, v.oneCell' = true) :
    w.setCells g o vs = w.setRow g (cur.toList.take o ++ vs ++ cur.toList.drop (o + vs.length)).toArray := by
  have a := run_storeCells_at Try.prog g o t vs 0 cur w hg (by simpa using hfit) h1
  have b := run_storeCells_cells (P := Try.prog) g o vs 0 w (fun j hj => by
    rw [Nat.add_zero, cell_of_row w g (o + j) cur t (0, 0) hg, Array.getElem?_eq_getElem (by omega)]; rfl) (fun j hj => frozen_of_row _ _ _ _ _ hg) h1
  rw [a] at b
  simp only [Nat.add_zero] at b
  injection b with _ h
  exact h.symm
section

variable {β : Type} {K : Kd β}

theorem OR.there {t : TypeId} {w : World} {base g n cap : Nat} {L : List β} (h : OR K t w base (.slice (Option.some ⟨g, 0, Option.none⟩) n cap) L) (i : Nat) (hi : i < L.length) : w.there g (K.k * i) K.k := by
  rcases h.row with ⟨h0, _⟩ | ⟨g', cap', cur, hv, hB, hgl, hh, hnc, hcm, hcs, htake⟩
  · cases h0
  · simp only [Value.slice.injEq, Option.some.injEq, Addr.mk.injEq] at hv
    obtain ⟨⟨rfl, _⟩, rfl, rfl⟩ := hv
    intro j hj
    have hk := K.pos
    have h2 : K.k * i + K.k ≤ cap * K.k := by
      have := Nat.mul_le_mul_right K.k (show i + 1 ≤ cap by omega)
      rw [Nat.add_mul, Nat.one_mul, Nat.mul_comm i] at this
      exact this
    refine ⟨?_, frozen_of_row _ _ _ _ _ hh⟩
    rw [cell_of_row w g _ cur t (0, 0) hh, Array.getElem?_eq_getElem (by omega)]; rfl
theorem cells_set (L : List β) (i : Nat) (hi : i < L.length) (x : β) : K.cells (L.set i x) = K.cells (L.take i) ++ K.cf x ++ K.cells (L.drop (i + 1)) := by
  rw [List.set_eq_take_append_cons_drop, if_pos hi, cells_append, show x :: L.drop (i + 1) = [x] ++ L.drop (i + 1) from rfl, cells_append, cells_one1, List.append_assoc]
theorem OR.set {t : TypeId} {w : World} {base g n cap : Nat} {L : List β} (h : OR K t w base (.slice (Option.some ⟨g, 0, Option.none⟩) n cap) L) (i : Nat) (hi : i < L.length) (x : β) : OR K t (w.setCells g (K.k * i) (K.cf x)) base (.slice (Option.some ⟨g, 0, Option.none⟩) n cap) (L.set i x) ∧ w.grownBy (w.setCells g (K.k * i) (K.cf x)) (Option.some g) := by
  rcases h.row with ⟨h0, _⟩ | ⟨g', cap', cur, hv, hB, hgl, hh, hnc, hcm, hcs, htake⟩
  · cases h0
  · simp only [Value.slice.injEq, Option.some.injEq, Addr.mk.injEq] at hv
    obtain ⟨⟨rfl, _⟩, rfl, rfl⟩ := hv
    have hl := cells_len (K := K) L
    have hA : (K.cells (L.take i)).length = K.k * i := by rw [cells_len, List.length_take, Nat.min_eq_left (by omega), Nat.mul_comm]
    have hBl : (K.cells (L.drop (i + 1))).length = L.length * K.k - (K.k * i + K.k) := by
      rw [cells_len, List.length_drop, Nat.sub_mul, Nat.add_mul, Nat.one_mul, Nat.mul_comm i]
    have h2 : K.k * i + K.k ≤ L.length * K.k := by
      have := Nat.mul_le_mul_right K.k (show i + 1 ≤ L.length by omega)
      rw [Nat.add_mul, Nat.one_mul, Nat.mul_comm i] at this
      exact this
    have h3 : L.length * K.k ≤ cap * K.k := Nat.mul_le_mul_right _ hnc
    have hx := K.len x
    have hcl : cur.toList.length = cap * K.k := by rw [Array.length_toList, hcs]
    have hfit : K.k * i + (K.cf x).length ≤ cur.size := by omega
    rw [setCells_row w g (K.k * i) t cur (K.cf x) hh hfit (K.one x)]
    refine ⟨?_, grownBy_setRow w g _⟩
    have e : L.length = (L.set i x).length := (List.length_set ..).symm
    rw [e]
    have hold : cur.toList.take (L.length * K.k) = K.cells (L.take i) ++ K.cells (L.drop i) := by rw [htake, cells_take_drop]
    have hdr : K.cells (L.drop i) = K.cf L[i] ++ K.cells (L.drop (i + 1)) := by
      rw [List.drop_eq_getElem_cons hi, show L[i] :: L.drop (i + 1) = [L[i]] ++ L.drop (i + 1) from rfl, cells_append, cells_one1]
    have e1 : cur.toList.take (K.k * i) = K.cells (L.take i) := by
      have := congrArg (List.take (K.k * i)) hold
      rw [List.take_take, Nat.min_eq_left (by omega), List.take_append_of_le_length (by omega)] at this
      rw [this]
      exact List.take_of_length_le (by omega)
    have e2 : (cur.toList.drop (K.k * i + K.k)).take (L.length * K.k - (K.k * i + K.k)) = K.cells (L.drop (i + 1)) := by
      rw [← List.drop_take, hold, hdr, ← List.append_assoc, List.drop_append_of_le_length (by rw [List.length_append, hA, K.len]; exact Nat.le_refl _), List.drop_of_length_le (by rw [List.length_append, hA, K.len]; exact Nat.le_refl _), List.nil_append]
    refine OR.of hB (setRow_heap w g cur _ t _ hh) (by rw [← e]; exact hnc) hcm ?_ ?_
    · simp only [List.size_toArray, List.length_append, List.length_take, List.length_drop, hcl, hx]
      omega
    · rw [← e, cells_set L i hi x, List.toList_toArray, e1, hx]
      have hAX : (K.cells (L.take i) ++ K.cf x).length = K.k * i + K.k := by rw [List.length_append, hA, hx]
      rw [List.take_append, List.take_of_length_le (l := K.cells (L.take i) ++ K.cf x) (by omega), hAX, e2]
variable {ops : Array Oper} {rest : List Oper} {o : Oper} {a : Act} {w : World} {Q : Exit → Act → World → Prop}

/-- one place of an own row is written -/
theorem or_store (hgd : o.guard = none) (t : TypeId) (x y : Operand) (ho : o.op = .store t x y) (g off : Nat) (hx : a.eval x = .pointer (Option.some ⟨g, off, Option.none⟩)) (z : β) (hy : a.eval y = .agg (K.cf z).toArray)
    (base n cap : Nat) (M : List β) (hM : OR K t w base (.slice (Option.some ⟨g, 0, Option.none⟩) n cap) M) (i : Nat) (hi : i < M.length) (hoff : off = K.k * i) (hsz : (Try.prog.info? t).map (·.size) = Option.some K.k)
    (h : ∀ w', OR K t w' base (.slice (Option.some ⟨g, 0, Option.none⟩) n cap) (M.set i z) → w.grownBy w' (Option.some g) → wpList Try.prog ops Q rest (a.put o.dst undef) w') : wpList Try.prog ops Q (o :: rest) a w := by
  subst hoff
  have hs := hM.set i hi z
  refine wpList_store_mid hgd t x y ho g (K.k * i) _ hx hy (by rw [List.size_toArray, K.len]; exact hM.there i hi) (by rw [List.size_toArray, K.len]; exact hsz) (all_oneCell_toArray (K.one z)) ?_
  rw [List.toList_toArray]
  exact h _ hs.1 hs.2
end

end Go.Proofs.Ytohcdonmdnjgoaa.Rw
