/- Writes as the document's: the law's own helper. -/
import Derived.Test.YtkfcbihofipcbaaItemEq

import Derived.Deep.RegionHeld3

namespace Go.Proofs.Ytkfcbihofipcbaa.It

open Go.RowKit Go.Proofs.Ytkfcbihofipcbaa.Vc Go.Proofs.Ytkfcbihofipcbaa.Sp

set_option linter.unusedVariables false

set_option linter.unusedSimpArgs false

set_option maxRecDepth 100000

section

variable {ops : Array Oper} {rest : List Oper} {o : Oper} {a : Act} {Q : Exit → Act → World → Prop} {K : Act → World → Prop} {E : Prop}

/-- append(writes, w) at an operation of a region -/
theorem step_append {t ts : TypeId} (hu : Try.prog.underlying ts = some (.slice t)) (hinf : (Try.prog.info? t).map (fun i => (i.zero, i.size, i.bytes)) = some (some (.agg (wc I.none_).toArray), 4, 56)) (w : World) (hgd : o.guard = none) (s x : Operand)
    (ho : o.op = .call { callee := .builtin .append, args := #[s, x], argTypes := #[ts, ts] })
    (base : Nat) (v : Value) (L : List I.Wt) (hs : a.eval s = v) (hown : OW t w base v L) (g : Nat) (hx : a.eval x = .slice (some ⟨g, 0, none⟩) 1 1) (b : I.Wt)
    (hcell : w.rangeAt g 0 (wc b)) (hl : L.length < 1000000) (hbase : base ≤ w.heap.size)
    (h : ∀ v' w', OW t w' base v' (L ++ [b]) → Below base w w' → K (a.put o.dst v') w') : if Region.wanted o (yielded ops a.tmps) = true then o.wp Try.prog a w K Q else E := by
  have hw : Region.wanted o (yielded ops a.tmps) = true := by simp [Region.wanted, hgd]
  rw [if_pos hw]
  obtain ⟨i0, hi, hz0, hz1, hz2⟩ := info_parts hinf
  refine wp_append_own w s x ts ho base t i0 (.agg (wc I.none_).toArray) 4 56 hu hi hz0 hz1 hz2 rfl (by decide) v L.length (cellsW L) hs hown.own ⟨g, 0, none⟩ 1 1 (wc b) hx rfl ?_ ?_ (by unfold maxLen; omega) (by omega) hbase ?_
  · intro j u hj
    rw [Addr.add_mid]
    exact hcell j u hj
  · intro u hu
    simp only [wc, List.mem_cons, List.not_mem_nil, or_false] at hu
    rcases hu with rfl | rfl | rfl | rfl <;> rfl
  · intro v' w' h1 h2 _
    refine h v' w' ⟨?_⟩ ((Below.refl _ _).grown h2 hbase (fun k hk => (World.ownsRow.lt hown.own k hk).1))
    rw [List.length_append, cellsW_add]
    exact h1
end

theorem OW.alloc {t : TypeId} {w : World} {base : Nat} {v : Value} {L : List I.Wt} (h : OW t w base v L) (o : Obj) : OW t (w.alloc o) base v L := ⟨World.ownsRow.alloc h.own o⟩
theorem OW.drew {t : TypeId} {w : World} {base : Nat} {v : Value} {L : List I.Wt} (h : OW t w base v L) : OW t w.drew base v L := ⟨h.own⟩
theorem range_newW (w : World) (x : I.Wt) (cs : List Value) (t : TypeId) (h : cs = wc x) : (w.alloc (.cells cs.toArray t)).rangeAt w.heap.size 0 (wc x) := by
  subst h
  intro j v hv
  rw [cell_of_row _ _ (0 + j) _ t (0, 0) (heap_alloc_last w _), Nat.zero_add]
  simpa using hv
set_option maxHeartbeats 16000000 in
theorem refwrites_any (v : Value) (L : List I.Wt) (w : World) (hL : IsWs w v L) (hn : L.length < 1000000) :
    Calls Try.prog 13 #[v] w fun e w' => ∃ v', e = .returned v' ∧ OW 38 w' w.heap.size v' L ∧ Below w.heap.size w w' := by
  obtain ⟨sa, cap, rfl, hca, hma, _⟩ := hL.is
  obtain ⟨n, HN⟩ : ∃ n, Hid (L.length = n) := ⟨_, rfl⟩
  have HL := Lib.hid hL
  rw [HN.out] at HL hn
  rw [HN.out]
  have HO1 : Hid (OW 38 w w.heap.size (.slice none 0 0) (L.take 0)) := OW.nil _ _ _
  have HB1 : Hid (Below w.heap.size w w) := Below.refl _ _
  clear hL hca hma
  go_enter Try.func13, Try.ntmps13
  go_wp2_with fail
  go_loopw [3, 4] (fun t i wr => ∃ j : Nat, j ≤ n ∧ i = .int .i64 j ∧ Hid (OW 38 wr w.heap.size t (L.take j)) ∧ Hid (Below w.heap.size w wr)) (fun _ i _ => n - (intOf i).toNat)
  case atStart => exact ⟨0, by omega, rfl, HO1, HB1⟩
  case round =>
    obtain ⟨j, hj, rfl, HOr, HBr⟩ := hrel
    clear HB1 HO1
    by_cases hlt : j < n
    · have ilt : (j : Int) < (n : Int) := by omega
      obtain ⟨g, off, cap', hv, hg0, hrow⟩ := IsWs.at HL.out j (by rw [HN.out]; exact hlt)
      obtain rfl : sa = some ⟨g, off, none⟩ := by injection hv
      clear hv
      have hts : L.take (j + 1) = L.take j ++ [L.getD j I.none_] := by
        rw [List.take_succ_eq_append_getElem (by rw [HN.out]; exact hlt), List.getD_eq_getElem?_getD, List.getElem?_eq_getElem (by rw [HN.out]; exact hlt)]; rfl
      obtain ⟨x, HX⟩ : ∃ x, Hid (L.getD j I.none_ = x) := ⟨_, rfl⟩
      rw [HX.out] at hrow hts
      obtain ⟨xb, xk, xv, xg⟩ := x
      have HTS := Lib.hid hts
      have hlen : (L.take j).length < 1000000 := by rw [List.length_take]; omega
      have hix : ∀ w, (Instr.indexAt 41 (.slice (some ⟨g, off, none⟩) n cap) (.int .i64 (j : Int))).run Try.prog w = .ok (.pointer (some ⟨g, off + 4 * j, none⟩)) w := fun w => index_iw g off n cap j hlt w
      have HC : Hid (∀ u, Below w.heap.size w u → u.cell? ⟨g, off + 4 * j, none⟩ = some (.string xb) ∧ u.cell? ⟨g, off + 4 * j + 1, none⟩ = some (.string xk) ∧ u.cell? ⟨g, off + 4 * j + 2, none⟩ = some (.string xv) ∧ u.cell? ⟨g, off + 4 * j + 3, none⟩ = some (.bool xg)) := fun u hu => ⟨by rw [hu.cell (p := ⟨g, off + 4 * j, none⟩) hg0]; exact hrow 0 _ rfl, by rw [hu.cell (p := ⟨g, off + 4 * j + 1, none⟩) hg0]; exact hrow 1 _ rfl, by rw [hu.cell (p := ⟨g, off + 4 * j + 2, none⟩) hg0]; exact hrow 2 _ rfl, by rw [hu.cell (p := ⟨g, off + 4 * j + 3, none⟩) hg0]; exact hrow 3 _ rfl⟩
      have hbs := HBr.out.size
      have HD : Hid (wr.drew.cell? ⟨g, off + 4 * j, none⟩ = some (.string xb) ∧ wr.drew.cell? ⟨g, off + 4 * j + 1, none⟩ = some (.string xk) ∧ wr.drew.cell? ⟨g, off + 4 * j + 2, none⟩ = some (.string xv) ∧ wr.drew.cell? ⟨g, off + 4 * j + 3, none⟩ = some (.bool xg)) := HC.out _ (Below.drew HBr.out)
      have HDA : Hid (∀ X, (wr.alloc X).drew.cell? ⟨g, off + 4 * j, none⟩ = some (.string xb) ∧ (wr.alloc X).drew.cell? ⟨g, off + 4 * j + 1, none⟩ = some (.string xk) ∧ (wr.alloc X).drew.cell? ⟨g, off + 4 * j + 2, none⟩ = some (.string xv) ∧ (wr.alloc X).drew.cell? ⟨g, off + 4 * j + 3, none⟩ = some (.bool xg)) := fun X => HC.out _ (Below.drew (Below.alloc HBr.out hbs X))
      clear hrow hts hg0
      go_wp2_with fail
      go_region_held3 (fun u => u.cell? ⟨g, off + 4 * j, none⟩ = some (.string xb) ∧ u.cell? ⟨g, off + 4 * j + 1, none⟩ = some (.string xk) ∧ u.cell? ⟨g, off + 4 * j + 2, none⟩ = some (.string xv) ∧ u.cell? ⟨g, off + 4 * j + 3, none⟩ = some (.bool xg)) (first | exact HD.out | exact HDA.out _ | exact H5c.out) ((refine step_append (t := 38) Try.underlying39 Try.info_rw _ rfl _ _ rfl w.heap.size _ (L.take j) rfl (OW.drew (OW.alloc HOr.out _)) wr.heap.size rfl (xb, xk, xv, xg) ((World.rangeAt_drew _ _ _ _).2 (range_newW wr (xb, xk, xv, xg) _ _ rfl)) hlen (by simp; omega) ?_; intro v' w5 ho hb; have HO5 : Hid (OW 38 w5 w.heap.size v' (L.take (j + 1))) := (by show OW _ _ _ _ _; rw [HTS.out]; exact ho); have HB5 : Hid (Below w.heap.size w w5) := Below.trans (Below.drew (Below.alloc HBr.out hbs _)) hb; have H5c := HC.out w5 HB5.out; have H5c := Lib.hid H5c; clear ho hb))
      all_goals
        go_wp2_with fail
        go_roundw
        case rel => exact ⟨j + 1, by omega, by go_num, HO5, HB5⟩
        case measure => simp [intOf]; omega
    · obtain rfl : j = n := by omega
      have HF : Hid (L.take j = L) := List.take_of_length_le (by rw [HN.out]; exact Nat.le_refl _)
      rw [HF.out] at HOr
      go_wp2_with fail
      go_ret
      exact ⟨_, rfl, HOr.out, HBr.out⟩
end Go.Proofs.Ytkfcbihofipcbaa.It
