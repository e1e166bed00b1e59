/- append of writes; a write in a row turned; a row read where another block has turned. -/
import Derived.Test.YtkfcbihofipcbaaItemDl

namespace Go.Proofs.Ytkfcbihofipcbaa.It

open Go.RowKit Go.Proofs.Ytkfcbihofipcbaa.Vc Go.Proofs.Ytkfcbihofipcbaa.Sp

set_option linter.unusedVariables false

set_option linter.unusedSimpArgs false

set_option maxRecDepth 100000

theorem cellsW_append (L M : List I.Wt) : cellsW (L ++ M) = cellsW L ++ cellsW M := by simp [cellsW]
theorem cellsW_one (L : List I.Wt) : ∀ u ∈ cellsW L, u.oneCell' = true := by
  intro u hu
  obtain ⟨l, hl, hu⟩ := List.mem_flatten.1 hu
  obtain ⟨x, _, rfl⟩ := List.mem_map.1 hl
  simp only [wc, List.mem_cons, List.not_mem_nil, or_false] at hu
  rcases hu with rfl | rfl | rfl | rfl <;> rfl
theorem cellsW_row {w : World} {b off : Nat} {L : List I.Wt} (h : Ws w b off L) : ∀ j u, (cellsW L)[j]? = some u → w.cell? ((⟨b, off, none⟩ : Addr).add j) = some u := by
  intro j u hu
  have hj : j < (cellsW L).length := (List.getElem?_eq_some_iff.1 hu).1
  rw [cellsW_len] at hj
  have hi : j / 4 < L.length := by omega
  have hx : L[j / 4]? = some L[j / 4] := List.getElem?_eq_getElem hi
  obtain ⟨v, hv⟩ : ∃ v, (wc L[j / 4])[j % 4]? = some v := ⟨_, List.getElem?_eq_getElem (show j % 4 < 4 by omega)⟩
  have hc := cellsW_at L (j / 4) _ hx (j % 4) v hv
  rw [show 4 * (j / 4) + j % 4 = j by omega, hu] at hc
  obtain rfl := Option.some.inj hc
  have := h (j / 4) _ hx (j % 4) _ hv
  rw [Addr.add_mid]
  rw [show off + j = off + 4 * (j / 4) + j % 4 by omega]
  exact this
theorem run_append_ws (w : World) (ty : TypeId) (base : Nat) (v : Value) (L : List I.Wt) (hown : OW 23 w base v L) (s : Option Addr) (m c : Nat) (M : List I.Wt) (hM : IsWs w (.slice s m c) M) (hne : 1 ≤ M.length) (hl : L.length + M.length ≤ 1000) (hbase : base ≤ w.heap.size) :
    ∃ v' w', (Builtin.append_ #[41, 41] ty #[v, .slice s m c]).run Try.prog w = .ok v' w' ∧ OW 23 w' base v' (L ++ M) ∧ w.grownBy w' v.ownBlock := by
  obtain ⟨i0, hi, hz0, hz1, hz2⟩ := info_parts Try.info_iw
  obtain ⟨a, cap, hv, h1, h2, h3⟩ := hM.is
  obtain ⟨b, off, rfl, hlt, hW⟩ := h3 (by intro e; rw [e] at hne; exact absurd hne (by simp))
  simp only [Value.slice.injEq] at hv
  obtain ⟨rfl, rfl, rfl⟩ := hv
  obtain ⟨v', w', hr, ho, hg, _⟩ := run_append_own (P := Try.prog) w base 41 ty 23 i0 (.agg (wc I.none_).toArray) 4 56 Try.underlying41 hi hz0 hz1 hz2 rfl (by decide) v L.length (cellsW L) hown.own ⟨b, off, none⟩ M.length c (cellsW M) (cellsW_len M) (cellsW_row hW) (cellsW_one M) (by unfold maxLen; omega) (by omega) hbase
  refine ⟨v', w', hr, ⟨?_⟩, hg⟩
  rw [List.length_append, cellsW_append]
  exact ho
section

variable {ops : Array Oper} {rest : List Oper} {o : Oper} {a : Act} {C : World → Prop} {Lq : Act → List (World → Prop) → Prop} {ts : List Spc} {Fs : List (World → Prop)}

/-- append([]Write(nil), l...) -/
theorem r_append0 (hgd : o.guard = none) (s x : Operand) (ho : o.op = .call { callee := .builtin .append, args := #[s, x], argTypes := #[41, 41] }) (hs : a.eval s = .slice none 0 0) (sa : Option Addr) (m c : Nat) (hx : a.eval x = .slice sa m c) {base : Nat} {M : List I.Wt} (hM : ∀ u, C u → IsWs u (.slice sa m c) M) (hne : 1 ≤ M.length) (hl : M.length ≤ 1000) (hbase : ∀ u, C u → base ≤ u.heap.size)
    (h : ∀ v, (Spc.ow 23 base M).S v → ∀ K : Act → Prop, (∀ a, RW Try.prog ops C Lq rest ts ((fun u => (Spc.ow 23 base M).T u v) :: Fs) a → K a) → K (a.put o.dst v)) : RW Try.prog ops C Lq (o :: rest) (Spc.ow 23 base M :: ts) Fs a := by
  refine r_any (wanted_none hgd) (fun u hu hn => ?_) h
  obtain ⟨v', w', hr, ho', hg⟩ := run_append_ws u o.type base (.slice none 0 0) [] (OW.nil _ _ _) sa m c M (hM u hu) hne (by simpa using hl) (hbase u hu)
  have e : (execOp a.eval o).run Try.prog u = .ok (.value v') w' := by
    unfold execOp
    simp only [ho, resolve, invoke, builtin, Sem.run_bind, Sem.run_pure, Result.andThen_ok, List.map_toArray, List.map_cons, List.map_nil, hs, hx, hr]
  rw [e]
  rw [List.nil_append] at ho'
  refine ⟨(Below.refl _ _).grown hg (Nat.le_refl _) (fun k hk => by cases hk), ?_, ho'⟩
  obtain ⟨av, cv, ev, _⟩ := ho'.is.is
  exact ⟨av, cv, ev⟩
end

section

variable {ops : Array Oper} {rest : List Oper} {o : Oper} {a : Act} {w : World} {Q : Exit → Act → World → Prop}

/-- the same, where nothing is drawn -/
theorem append_many (hgd : o.guard = none) (s x : Operand) (ho : o.op = .call { callee := .builtin .append, args := #[s, x], argTypes := #[41, 41] }) (hs : a.eval s = .slice none 0 0) (sa : Option Addr) (m c : Nat) (hx : a.eval x = .slice sa m c) (M : List I.Wt) (hM : IsWs w (.slice sa m c) M) (hne : 1 ≤ M.length) (hl : M.length ≤ 1000)
    (h : ∀ v' w', OW 23 w' w.heap.size v' M → Below w.heap.size w w' → wpList Try.prog ops Q rest (a.put o.dst v') w') : wpList Try.prog ops Q (o :: rest) a w := by
  obtain ⟨v', w', hr, ho', hg⟩ := run_append_ws w o.type w.heap.size (.slice none 0 0) [] (OW.nil _ _ _) sa m c M hM hne (by simpa using hl) (Nat.le_refl _)
  refine wpList_plain hgd fun K hK => ?_
  unfold Oper.wp execOp
  simp only [ho, resolve, invoke, builtin, Sem.run_bind, Sem.run_pure, Result.andThen_ok, List.map_toArray, List.map_cons, List.map_nil, hs, hx, hr]
  exact hK _ _ (h v' w' (by simpa using ho') ((Below.refl _ _).grown hg (Nat.le_refl _) (fun k hk => by cases hk)))
end

theorem OW.some {t : TypeId} {w : World} {base : Nat} {v : Value} {L : List I.Wt} (h : OW t w base v L) (hn : 1 ≤ L.length) : ∃ g cap cur, v = .slice (some ⟨g, 0, none⟩) L.length cap ∧ base ≤ g ∧ w.heap[g]? = some (.cells cur t (0, 0)) := by
  obtain ⟨hl, h0 | ⟨g, cap, cur, hv, hB, hh, r⟩⟩ := h.own
  · omega
  · exact ⟨g, cap, cur, hv, hB, hh⟩
theorem IsWs.upd {w w' : World} {v : Value} {L : List I.Wt} {g : Nat} (h : IsWs w v L) (hu : Upd g w w') (hg : ∀ b o n c, v = .slice (some ⟨b, o, none⟩) n c → b ≠ g) : IsWs w' v L := by
  obtain ⟨a, cap, hv, h1, h2, h3⟩ := h.is
  refine ⟨a, cap, hv, h1, h2, fun hn => ?_⟩
  obtain ⟨b, off, ha, hlt, hW⟩ := h3 hn
  refine ⟨b, off, ha, by rw [hu.size]; exact hlt, fun i x hx j v hv' => ?_⟩
  rw [World.cell?_of_block (w := w) (hu.far b (hg b off _ _ (by rw [hv, ha])))]
  exact hW i x hx j v hv'
theorem IsWs.setc {w : World} {g off c : Nat} {L : List I.Wt} (h : IsWs w (.slice (some ⟨g, off, none⟩) L.length c) L) (i : Nat) (hi : i < L.length) (j : Nat) (hj : j < 4) (y : I.Wt) (val : Value) (hy : wc y = (wc (L.getD i I.none_)).set j val) :
    IsWs (w.setCell ⟨g, off + 4 * i + j, none⟩ val) (.slice (some ⟨g, off, none⟩) L.length c) (L.set i y) := by
  obtain ⟨a, cap, hv, h1, h2, h3⟩ := h.is
  obtain ⟨b, off', ha, hlt, hW⟩ := h3 (fun e => by rw [e] at hi; exact absurd hi (by simp))
  simp only [Value.slice.injEq, true_and] at hv
  obtain ⟨rfl, rfl⟩ := hv
  simp only [Option.some.injEq, Addr.mk.injEq, and_true] at ha
  obtain ⟨rfl, rfl⟩ := ha
  have hg : L.getD i I.none_ = L[i] := by rw [List.getD_eq_getElem?_getD, List.getElem?_eq_getElem hi]; rfl
  rw [hg] at hy
  have hold := hW i L[i] (List.getElem?_eq_getElem hi)
  refine ⟨_, c, by rw [List.length_set], by rw [List.length_set]; exact h1, h2, fun _ => ⟨g, off, rfl, by simp [World.setCell]; exact hlt, fun i' x hx r v hv => ?_⟩⟩
  by_cases e : i = i'
  · subst e
    rw [List.getElem?_set_self hi] at hx
    obtain rfl := Option.some.inj hx
    rw [hy] at hv
    by_cases er : j = r
    · subst er
      rw [List.getElem?_set_self (show j < (wc L[i]).length from hj)] at hv
      obtain rfl := Option.some.inj hv
      obtain ⟨u, hu⟩ : ∃ u, (wc L[i])[j]? = some u := ⟨_, List.getElem?_eq_getElem (show j < (wc L[i]).length from hj)⟩
      exact World.cell?_setCell_same _ _ _ (hold j u hu)
    · rw [List.getElem?_set_ne er] at hv
      rw [World.cell?_setCell_other _ _ _ _ (by simp <;> omega)]
      exact hold r v hv
  · rw [List.getElem?_set_ne e] at hx
    have hr : r < 4 := by have := (List.getElem?_eq_some_iff.1 hv).1; exact this
    rw [World.cell?_setCell_other _ _ _ _ (by simp <;> omega)]
    exact hW i' x hx r v hv
theorem IsWs.take {w : World} {s : Option Addr} {m c : Nat} {L : List I.Wt} (h : IsWs w (.slice s m c) L) (k : Nat) (hk : k ≤ L.length) : IsWs w (.slice s k c) (L.take k) := by
  obtain ⟨a, cap, hv, h1, h2, h3⟩ := h.is
  simp only [Value.slice.injEq] at hv
  obtain ⟨rfl, rfl, rfl⟩ := hv
  have hl : (L.take k).length = k := by rw [List.length_take]; omega
  refine ⟨s, c, by rw [hl], by rw [hl]; omega, h2, fun hn => ?_⟩
  obtain ⟨b, off, ha, hlt, hW⟩ := h3 (fun e => hn (by rw [e]; simp))
  refine ⟨b, off, ha, hlt, fun i x hx => hW i x ?_⟩
  rw [List.getElem?_take] at hx
  split at hx
  · exact hx
  · cases hx
end Go.Proofs.Ytkfcbihofipcbaa.It
