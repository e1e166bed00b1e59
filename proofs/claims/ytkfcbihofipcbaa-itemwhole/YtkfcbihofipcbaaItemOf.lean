/- Writes as the document's: the law's own helper. -/
import Derived.Test.YtkfcbihofipcbaaItemEq

import Derived.Deep.RegionHeld3

import Derived.Test.YtkfcbihofipcbaaItemRE

import Derived.Test.YtkfcbihofipcbaaStampOf

namespace Go.Proofs.Ytkfcbihofipcbaa.It

open Go.RowKit Go.Proofs.Ytkfcbihofipcbaa.Vc Go.Proofs.Ytkfcbihofipcbaa.Sp

set_option linter.unusedVariables false

set_option linter.unusedSimpArgs false

set_option maxRecDepth 100000

section

variable {ops : Array Oper} {rest : List Oper} {o : Oper} {a : Act} {Q : Exit → Act → World → Prop} {K : Act → World → Prop} {E : Prop}

/-- append(writes, w) at an operation of a region -/
theorem step_append {t ts : TypeId} (hu : Try.prog.underlying ts = some (.slice t)) (hinf : (Try.prog.info? t).map (fun i => (i.zero, i.size, i.bytes)) = some (some (.agg (wc I.none_).toArray), 4, 56)) (w : World) (hgd : o.guard = none) (s x : Operand)
    (ho : o.op = .call { callee := .builtin .append, args := #[s, x], argTypes := #[ts, ts] })
    (base : Nat) (v : Value) (L : List I.Wt) (hs : a.eval s = v) (hown : OW t w base v L) (g : Nat) (hx : a.eval x = .slice (some ⟨g, 0, none⟩) 1 1) (b : I.Wt)
    (hcell : w.rangeAt g 0 (wc b)) (hl : L.length < 1000000) (hbase : base ≤ w.heap.size)
    (h : ∀ v' w', OW t w' base v' (L ++ [b]) → Below base w w' → K (a.put o.dst v') w') : if Region.wanted o (yielded ops a.tmps) = true then o.wp Try.prog a w K Q else E := by
  have hw : Region.wanted o (yielded ops a.tmps) = true := by simp [Region.wanted, hgd]
  rw [if_pos hw]
  obtain ⟨i0, hi, hz0, hz1, hz2⟩ := info_parts hinf
  refine wp_append_own w s x ts ho base t i0 (.agg (wc I.none_).toArray) 4 56 hu hi hz0 hz1 hz2 rfl (by decide) v L.length (cellsW L) hs hown.own ⟨g, 0, none⟩ 1 1 (wc b) hx rfl ?_ ?_ (by unfold maxLen; omega) (by omega) hbase ?_
  · intro j u hj
    rw [Addr.add_mid]
    exact hcell j u hj
  · intro u hu
    simp only [wc, List.mem_cons, List.not_mem_nil, or_false] at hu
    rcases hu with rfl | rfl | rfl | rfl <;> rfl
  · intro v' w' h1 h2 _
    refine h v' w' ⟨?_⟩ ((Below.refl _ _).grown h2 hbase (fun k hk => (World.ownsRow.lt hown.own k hk).1))
    rw [List.length_append, cellsW_add]
    exact h1
end

theorem OW.alloc {t : TypeId} {w : World} {base : Nat} {v : Value} {L : List I.Wt} (h : OW t w base v L) (o : Obj) : OW t (w.alloc o) base v L := ⟨World.ownsRow.alloc h.own o⟩
theorem OW.drew {t : TypeId} {w : World} {base : Nat} {v : Value} {L : List I.Wt} (h : OW t w base v L) : OW t w.drew base v L := ⟨h.own⟩
theorem range_newW (w : World) (x : I.Wt) (cs : List Value) (t : TypeId) (h : cs = wc x) : (w.alloc (.cells cs.toArray t)).rangeAt w.heap.size 0 (wc x) := by
  subst h
  intro j v hv
  rw [cell_of_row _ _ (0 + j) _ t (0, 0) (heap_alloc_last w _), Nat.zero_add]
  simpa using hv
set_option maxHeartbeats 16000000 in
theorem refwrites_any (v : Value) (L : List I.Wt) (w : World) (hL : IsWs w v L) (hn : L.length < 1000000) :
    Calls Try.prog 13 #[v] w fun e w' => ∃ v', e = .returned v' ∧ OW 38 w' w.heap.size v' L ∧ Below w.heap.size w w' := by
  obtain ⟨sa, cap, rfl, hca, hma, _⟩ := hL.is
  obtain ⟨n, HN⟩ : ∃ n, Hid (L.length = n) := ⟨_, rfl⟩
  have HL := Lib.hid hL
  rw [HN.out] at HL hn
  rw [HN.out]
  have HO1 : Hid (OW 38 w w.heap.size (.slice none 0 0) (L.take 0)) := OW.nil _ _ _
  have HB1 : Hid (Below w.heap.size w w) := Below.refl _ _
  clear hL hca hma
  go_enter Try.func13, Try.ntmps13
  go_wp2_with fail
  go_loopw [3, 4] (fun t i wr => ∃ j : Nat, j ≤ n ∧ i = .int .i64 j ∧ Hid (OW 38 wr w.heap.size t (L.take j)) ∧ Hid (Below w.heap.size w wr)) (fun _ i _ => n - (intOf i).toNat)
  case atStart => exact ⟨0, by omega, rfl, HO1, HB1⟩
  case round =>
    obtain ⟨j, hj, rfl, HOr, HBr⟩ := hrel
    clear HB1 HO1
    by_cases hlt : j < n
    · have ilt : (j : Int) < (n : Int) := by omega
      obtain ⟨g, off, cap', hv, hg0, hrow⟩ := IsWs.at HL.out j (by rw [HN.out]; exact hlt)
      obtain rfl : sa = some ⟨g, off, none⟩ := by injection hv
      clear hv
      have hts : L.take (j + 1) = L.take j ++ [L.getD j I.none_] := by
        rw [List.take_succ_eq_append_getElem (by rw [HN.out]; exact hlt), List.getD_eq_getElem?_getD, List.getElem?_eq_getElem (by rw [HN.out]; exact hlt)]; rfl
      obtain ⟨x, HX⟩ : ∃ x, Hid (L.getD j I.none_ = x) := ⟨_, rfl⟩
      rw [HX.out] at hrow hts
      obtain ⟨xb, xk, xv, xg⟩ := x
      have HTS := Lib.hid hts
      have hlen : (L.take j).length < 1000000 := by rw [List.length_take]; omega
      have hix : ∀ w, (Instr.indexAt 41 (.slice (some ⟨g, off, none⟩) n cap) (.int .i64 (j : Int))).run Try.prog w = .ok (.pointer (some ⟨g, off + 4 * j, none⟩)) w := fun w => index_iw g off n cap j hlt w
      have HC : Hid (∀ u, Below w.heap.size w u → u.cell? ⟨g, off + 4 * j, none⟩ = some (.string xb) ∧ u.cell? ⟨g, off + 4 * j + 1, none⟩ = some (.string xk) ∧ u.cell? ⟨g, off + 4 * j + 2, none⟩ = some (.string xv) ∧ u.cell? ⟨g, off + 4 * j + 3, none⟩ = some (.bool xg)) := fun u hu => ⟨by rw [hu.cell (p := ⟨g, off + 4 * j, none⟩) hg0]; exact hrow 0 _ rfl, by rw [hu.cell (p := ⟨g, off + 4 * j + 1, none⟩) hg0]; exact hrow 1 _ rfl, by rw [hu.cell (p := ⟨g, off + 4 * j + 2, none⟩) hg0]; exact hrow 2 _ rfl, by rw [hu.cell (p := ⟨g, off + 4 * j + 3, none⟩) hg0]; exact hrow 3 _ rfl⟩
      have hbs := HBr.out.size
      have HD : Hid (wr.drew.cell? ⟨g, off + 4 * j, none⟩ = some (.string xb) ∧ wr.drew.cell? ⟨g, off + 4 * j + 1, none⟩ = some (.string xk) ∧ wr.drew.cell? ⟨g, off + 4 * j + 2, none⟩ = some (.string xv) ∧ wr.drew.cell? ⟨g, off + 4 * j + 3, none⟩ = some (.bool xg)) := HC.out _ (Below.drew HBr.out)
      have HDA : Hid (∀ X, (wr.alloc X).drew.cell? ⟨g, off + 4 * j, none⟩ = some (.string xb) ∧ (wr.alloc X).drew.cell? ⟨g, off + 4 * j + 1, none⟩ = some (.string xk) ∧ (wr.alloc X).drew.cell? ⟨g, off + 4 * j + 2, none⟩ = some (.string xv) ∧ (wr.alloc X).drew.cell? ⟨g, off + 4 * j + 3, none⟩ = some (.bool xg)) := fun X => HC.out _ (Below.drew (Below.alloc HBr.out hbs X))
      clear hrow hts hg0
      go_wp2_with fail
      go_region_held3 (fun u => u.cell? ⟨g, off + 4 * j, none⟩ = some (.string xb) ∧ u.cell? ⟨g, off + 4 * j + 1, none⟩ = some (.string xk) ∧ u.cell? ⟨g, off + 4 * j + 2, none⟩ = some (.string xv) ∧ u.cell? ⟨g, off + 4 * j + 3, none⟩ = some (.bool xg)) (first | exact HD.out | exact HDA.out _ | exact H5c.out) ((refine step_append (t := 38) Try.underlying39 Try.info_rw _ rfl _ _ rfl w.heap.size _ (L.take j) rfl (OW.drew (OW.alloc HOr.out _)) wr.heap.size rfl (xb, xk, xv, xg) ((World.rangeAt_drew _ _ _ _).2 (range_newW wr (xb, xk, xv, xg) _ _ rfl)) hlen (by simp; omega) ?_; intro v' w5 ho hb; have HO5 : Hid (OW 38 w5 w.heap.size v' (L.take (j + 1))) := (by show OW _ _ _ _ _; rw [HTS.out]; exact ho); have HB5 : Hid (Below w.heap.size w w5) := Below.trans (Below.drew (Below.alloc HBr.out hbs _)) hb; have H5c := HC.out w5 HB5.out; have H5c := Lib.hid H5c; clear ho hb))
      all_goals
        go_wp2_with fail
        go_roundw
        case rel => exact ⟨j + 1, by omega, by go_num, HO5, HB5⟩
        case measure => simp [intOf]; omega
    · obtain rfl : j = n := by omega
      have HF : Hid (L.take j = L) := List.take_of_length_le (by rw [HN.out]; exact Nat.le_refl _)
      rw [HF.out] at HOr
      go_wp2_with fail
      go_ret
      exact ⟨_, rfl, HOr.out, HBr.out⟩
end Go.Proofs.Ytkfcbihofipcbaa.It

namespace Go.Proofs.Ytkfcbihofipcbaa.It

open Go.RowKit Go.Proofs.Ytkfcbihofipcbaa.Vc Go.Proofs.Ytkfcbihofipcbaa.Sp

set_option linter.unusedVariables false

set_option linter.unusedSimpArgs false

set_option maxRecDepth 100000

theorem six {w : World} {b : Nat} {x0 x1 x2 x3 x4 x5 : Value} (h : Blk w b [x0, x1, x2, x3, x4, x5]) : w.cell? ⟨b, 0, none⟩ = some x0 ∧ w.cell? ⟨b, 1, none⟩ = some x1 ∧ w.cell? ⟨b, 2, none⟩ = some x2 ∧ w.cell? ⟨b, 3, none⟩ = some x3 ∧ w.cell? ⟨b, 4, none⟩ = some x4 ∧ w.cell? ⟨b, 5, none⟩ = some x5 :=
  ⟨h.cell 0 _ rfl, h.cell 1 _ rfl, h.cell 2 _ rfl, h.cell 3 _ rfl, h.cell 4 _ rfl, h.cell 5 _ rfl⟩
theorem six_free {w : World} {b : Nat} {x0 x1 x2 x3 x4 x5 : Value} (h : Blk w b [x0, x1, x2, x3, x4, x5]) : w.frozen? ⟨b, 0, none⟩ = false ∧ w.frozen? ⟨b, 1, none⟩ = false ∧ w.frozen? ⟨b, 2, none⟩ = false ∧ w.frozen? ⟨b, 3, none⟩ = false ∧ w.frozen? ⟨b, 4, none⟩ = false ∧ w.frozen? ⟨b, 5, none⟩ = false :=
  ⟨h.free 0 (by simp), h.free 1 (by simp), h.free 2 (by simp), h.free 3 (by simp), h.free 4 (by simp), h.free 5 (by simp)⟩
set_option maxHeartbeats 16000000 in
theorem reftxn_any (a : List Nat) (d : Int) (v : Value) (L : List I.Wt) (w : World) (ha : a.length = 4) (hL : IsWs w v L) (hn : L.length < 1000000) :
    Calls Try.prog 17 #[TV a d v] w fun e w' => ∃ v', e = .returned (TV a d v') ∧ OW 38 w' w.heap.size v' L ∧ Below w.heap.size w w' := by
  obtain ⟨a0, a1, a2, a3, rfl⟩ := V.four ha
  obtain ⟨sa, cap, rfl, _⟩ := hL.is
  obtain ⟨n, HN⟩ : ∃ n, Hid (L.length = n) := ⟨_, rfl⟩
  have HL := Lib.hid hL
  have HNL := Lib.hid hn
  rw [HN.out] at HL
  rw [HN.out]
  clear hL ha hn
  go_enter Try.func17, Try.ntmps17
  go_wp2_with (first | refine blk_box rfl 43 _ rfl (ks .u64 [a0, a1, a2, a3] ++ [Value.int .i64 d, .slice sa n cap]) rfl ?_)
  intro w1 A1 B1 Z1
  go_wp2_with (first | refine blk_alloc rfl 52 (ks .u64 (List.replicate 4 0) ++ [Value.int .i64 0, .slice none 0 0]) rfl Try.info_tx ?_)
  intro w2 A2 B2 Z2
  have HA2 : Hid (Blk w2 w.heap.size (ks .u64 [a0, a1, a2, a3] ++ [Value.int .i64 d, .slice sa n cap])) := Blk.below A1 B2 (by omega)
  have HD2 : Hid (Blk w2 (w.heap.size + 1) (ks .u64 (List.replicate 4 0) ++ [Value.int .i64 0, .slice none 0 0])) := A2
  have HB2 : Hid (Below w.heap.size w w2) := B1.trans (B2.mono (by omega))
  have HZ2 : Hid (w.heap.size + 1 < w2.heap.size) := by show _ < _; omega
  clear A1 B1 A2 B2 Z1 Z2
  have HK : Hid (∀ u, Below w2.heap.size w2 u → u.cell? ⟨w.heap.size, 0, none⟩ = some (.int .u64 (a0 : Int)) ∧ u.cell? ⟨w.heap.size, 1, none⟩ = some (.int .u64 (a1 : Int)) ∧ u.cell? ⟨w.heap.size, 2, none⟩ = some (.int .u64 (a2 : Int)) ∧ u.cell? ⟨w.heap.size, 3, none⟩ = some (.int .u64 (a3 : Int)) ∧ u.cell? ⟨w.heap.size, 4, none⟩ = some (.int .i64 d) ∧ u.cell? ⟨w.heap.size, 5, none⟩ = some (.slice sa n cap)) := fun u hu => six (Blk.below HA2.out hu (Nat.lt_of_succ_lt HZ2.out))
  have HDD : Hid (w2.drew.cell? ⟨w.heap.size, 0, none⟩ = some (.int .u64 (a0 : Int)) ∧ w2.drew.cell? ⟨w.heap.size, 1, none⟩ = some (.int .u64 (a1 : Int)) ∧ w2.drew.cell? ⟨w.heap.size, 2, none⟩ = some (.int .u64 (a2 : Int)) ∧ w2.drew.cell? ⟨w.heap.size, 3, none⟩ = some (.int .u64 (a3 : Int)) ∧ w2.drew.cell? ⟨w.heap.size, 4, none⟩ = some (.int .i64 d) ∧ w2.drew.cell? ⟨w.heap.size, 5, none⟩ = some (.slice sa n cap)) := HK.out _ (Below.drew (Below.refl _ _))
  have CF : Hid (∀ u, Calls Try.prog 41 #[.agg #[.int .u64 (a0 : Int), .int .u64 (a1 : Int), .int .u64 (a2 : Int), .int .u64 (a3 : Int), .int .i64 d]] u fun e u' => e = .returned (.agg #[.int .u64 (a0 : Int), .int .u64 (a1 : Int), .int .u64 (a2 : Int), .int .u64 (a3 : Int), .int .i64 d]) ∧ Below u.heap.size u u') := fun u => refstamp_any [a0, a1, a2, a3] d u rfl
  have CW : Hid (∀ u, IsWs u (.slice sa n cap) L → Calls Try.prog 13 #[.slice sa n cap] u fun e u' => ∃ v', e = .returned v' ∧ OW 38 u' u.heap.size v' L ∧ Below u.heap.size u u') := fun u hu => refwrites_any _ L u hu HNL.out
  go_wp2_with fail
  go_region_held3 (fun u => u.cell? ⟨w.heap.size, 0, none⟩ = some (.int .u64 (a0 : Int)) ∧ u.cell? ⟨w.heap.size, 1, none⟩ = some (.int .u64 (a1 : Int)) ∧ u.cell? ⟨w.heap.size, 2, none⟩ = some (.int .u64 (a2 : Int)) ∧ u.cell? ⟨w.heap.size, 3, none⟩ = some (.int .u64 (a3 : Int)) ∧ u.cell? ⟨w.heap.size, 4, none⟩ = some (.int .i64 d) ∧ u.cell? ⟨w.heap.size, 5, none⟩ = some (.slice sa n cap)) (first | with_reducible exact HDD.out | with_reducible exact H3c.out | with_reducible exact H4c.out | go_keep) (first | (go_at_call 41; refine Calls.mono (CF.out _) ?_; rintro e w3 ⟨rfl, hb3⟩; have HB3 : Hid (Below w2.heap.size w2 w3) := Below.trans (Below.drew (Below.refl _ _)) hb3; have H3c := Lib.hid (HK.out w3 HB3.out); clear hb3) | (go_at_call 13; refine Calls.mono (CW.out _ ?hw) ?_; (case hw => exact IsWs.below HL.out (Below.trans HB2.out (HB3.out.mono HB2.out.size))); rintro e w4 ⟨v', rfl, ho, hb4⟩; have HB4 : Hid (Below w2.heap.size w2 w4) := Below.trans HB3.out (hb4.mono HB3.out.size); have H4c := Lib.hid (HK.out w4 HB4.out); have HO4 := Lib.hid ho; have HZ3 : Hid (w.heap.size + 1 < w3.heap.size) := Nat.lt_of_lt_of_le HZ2.out HB3.out.size; have HD4 := Lib.hid (Blk.below HD2.out HB4.out HZ2.out); obtain ⟨av, cv, ev, _⟩ := ho.is.is; obtain ⟨p0, p1, p2, p3, p4, p5⟩ := six HD4.out; obtain ⟨q0, q1, q2, q3, q4, q5⟩ := six_free HD4.out; rw [HN.out] at ev; subst ev; obtain ⟨z0, z1, z2, z3, z4, z5⟩ := H4c.out; clear ho hb4))
  all_goals
    have U9 : Upd (w.heap.size + 1) w4 (w4.setCells (w.heap.size + 1) 0 (ks .u64 [a0, a1, a2, a3] ++ [Value.int .i64 d, .slice av n cv])) := Upd.setCells _ _ _ _
    have HR9 : Hid (Blk (w4.setCells (w.heap.size + 1) 0 (ks .u64 [a0, a1, a2, a3] ++ [Value.int .i64 d, .slice av n cv])) (w.heap.size + 1) (ks .u64 [a0, a1, a2, a3] ++ [Value.int .i64 d, .slice av n cv])) := Blk.store HD4.out _ rfl
    have hz3 := HZ3.out
    have HO9 := Lib.hid (OW.mono (OW.far2 HO4.out U9 (by omega)) (show w.heap.size ≤ w3.heap.size by omega))
    have HU9 : Hid (Below w.heap.size w (w4.setCells (w.heap.size + 1) 0 (ks .u64 [a0, a1, a2, a3] ++ [Value.int .i64 d, .slice av n cv]))) := (Below.trans HB2.out (HB4.out.mono HB2.out.size)).trans (U9.below (by omega))
    clear U9 p0 p1 p2 p3 p4 p5 q0 q1 q2 q3 q4 q5 z0 z1 z2 z3 z4 z5 H3c H4c hz3
    go_wp2_with fail
    refine bodyPost_ret (v := TV [a0, a1, a2, a3] d (.slice av n cv)) ?_ rfl ⟨_, rfl, HO9.out, HU9.out⟩
    exact res_blk1 (t := 52) Try.results17 _ (w.heap.size + 1) rfl _ HR9.out _ Try.underlying52 rfl Try.size_tx
end Go.Proofs.Ytkfcbihofipcbaa.It
