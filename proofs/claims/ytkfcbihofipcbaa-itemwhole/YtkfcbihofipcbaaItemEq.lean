/- Writes compared; rows of writes that are the call's own. -/
import Derived.Test.YtkfcbihofipcbaaItemMem

import Derived.Test.YtkfcbihofipcbaaPackPut

namespace Go.Proofs.Ytkfcbihofipcbaa.It

open Go.RowKit Go.Proofs.Ytkfcbihofipcbaa.Vc Go.Proofs.Ytkfcbihofipcbaa.Sp

set_option linter.unusedVariables false

set_option linter.unusedSimpArgs false

set_option maxRecDepth 100000

theorem plain_str : Try.prog.plainKey 9 = true := by kernel_rfl
theorem plain_bool : Try.prog.plainKey 4 = true := by kernel_rfl
theorem four_of {α β : Type} (g : α → β) (L : List α) (p q r s : β) (h : L.map g = [p, q, r, s]) : ∃ f1 f2 f3 f4, L = [f1, f2, f3, f4] ∧ g f1 = p ∧ g f2 = q ∧ g f3 = r ∧ g f4 = s := by
  rcases L with _ | ⟨f1, _ | ⟨f2, _ | ⟨f3, _ | ⟨f4, _ | ⟨f5, L⟩⟩⟩⟩⟩
  · simp at h
  · simp at h
  · simp at h
  · simp at h
  · simp at h; exact ⟨f1, f2, f3, f4, rfl, h.1, h.2.1, h.2.2.1, h.2.2.2⟩
  · simp at h
theorem eqw_gen {t : TypeId} (hu : Try.prog.underlying t = some (.struct (Try.prog.fieldsOf t))) (hh : Try.prog.stoodInHeld t = false)
    (hf : (Try.prog.fieldsOf t).toList.map (fun f => (f.name, f.type, f.offset)) = [("Bucket", 9, 0), ("Key", 9, 1), ("Value", 9, 2), ("Gone", 4, 3)]) (x y : I.Wt) (w : World) :
    (Op.equalIn 10000 t (WV x) (WV y)).run Try.prog w = .ok (decide (x = y)) w := by
  obtain ⟨b, k, v, g⟩ := x
  obtain ⟨b', k', v', g'⟩ := y
  rw [show (10000 : Nat) = 9999 + 1 from rfl, WV, WV, run_equalIn_struct w 9999 t _ _ hu hh]
  have p0 : ∀ (b k v : ByteArray) (g : Bool), (part 9 (wc (b, k, v, g)).toArray 0).run Try.prog w = .ok (.string b) w := fun b k v g => run_part_plain w plain_str rfl
  have p1 : ∀ (b k v : ByteArray) (g : Bool), (part 9 (wc (b, k, v, g)).toArray 1).run Try.prog w = .ok (.string k) w := fun b k v g => run_part_plain w plain_str rfl
  have p2 : ∀ (b k v : ByteArray) (g : Bool), (part 9 (wc (b, k, v, g)).toArray 2).run Try.prog w = .ok (.string v) w := fun b k v g => run_part_plain w plain_str rfl
  have p3 : ∀ (b k v : ByteArray) (g : Bool), (part 4 (wc (b, k, v, g)).toArray 3).run Try.prog w = .ok (.bool g) w := fun b k v g => run_part_plain w plain_bool rfl
  have qs : ∀ a b : ByteArray, (Op.equalIn 9999 9 (.string a) (.string b)).run Try.prog w = .ok (decide (a = b)) w := fun a b => by
    rw [← V.tol_eq]; exact run_equalIn_string w 9998 9 a b Try.underlying9
  have qb : ∀ a b : Bool, (Op.equalIn 9999 4 (.bool a) (.bool b)).run Try.prog w = .ok (decide (a = b)) w := fun a b => by
    have := run_equalIn_bool' (P := Try.prog) w 9998 4 a b Try.underlying4
    rw [this]
    cases a <;> cases b <;> rfl
  obtain ⟨f1, f2, f3, f4, hL, g1, g2, g3, g4⟩ := four_of _ _ _ _ _ _ hf
  simp only [Prod.mk.injEq] at g1 g2 g3 g4
  obtain ⟨n1, t1, o1⟩ := g1
  obtain ⟨n2, t2, o2⟩ := g2
  obtain ⟨n3, t3, o3⟩ := g3
  obtain ⟨n4, t4, o4⟩ := g4
  rw [hL]
  have k1 : f1.name ≠ "_" := by rw [n1]; decide
  have k2 : f2.name ≠ "_" := by rw [n2]; decide
  have k3 : f3.name ≠ "_" := by rw [n3]; decide
  have k4 : f4.name ≠ "_" := by rw [n4]; decide
  simp only [Op.eqFields, if_pos k1, if_pos k2, if_pos k3, if_pos k4, t1, o1, t2, o2, t3, o3, t4, o4, Sem.run_bind, p0, p1, p2, p3, qs, qb, Result.andThen_ok]
  by_cases h1 : b = b'
  · by_cases h2 : k = k'
    · by_cases h3 : v = v'
      · by_cases h4 : g = g'
        · simp [h1, h2, h3, h4, Sem.run_bind, p0, p1, p2, p3, qs, qb, Result.andThen_ok]
        · simp [h1, h2, h3, h4, Sem.run_bind, p0, p1, p2, p3, qs, qb, Result.andThen_ok]
      · simp [h1, h2, h3, Sem.run_bind, p0, p1, p2, p3, qs, qb, Result.andThen_ok]
    · simp [h1, h2, Sem.run_bind, p0, p1, p2, p3, qs, qb, Result.andThen_ok]
  · simp [h1]
theorem fields_rw : (Try.prog.fieldsOf 38).toList.map (fun f => (f.name, f.type, f.offset)) = [("Bucket", 9, 0), ("Key", 9, 1), ("Value", 9, 2), ("Gone", 4, 3)] := by kernel_rfl
theorem under_rw : Try.prog.underlying 38 = some (.struct (Try.prog.fieldsOf 38)) := by kernel_rfl
theorem held_rw : Try.prog.stoodInHeld 38 = false := by kernel_rfl
theorem guardType_rw : Try.prog.eqGuardType Try.prog.depth 38 = false := by kernel_rfl
theorem guard_rw (r : BinOp) (x y : Operand) (a b : I.Wt) (w : World) : (eqGuard r 38 x y (WV a) (WV b)).run Try.prog w = .ok () w := by
  unfold WV
  cases r <;> simp [eqGuard, guardType_rw]
theorem neq_rw (a b : I.Wt) (w : World) : (binOp .neq 38 (WV a) (WV b)).run Try.prog w = .ok (.bool (!decide (a = b))) w := by
  have h := eqw_gen under_rw held_rw fields_rw a b w
  have e : binOp .neq 38 (WV a) (WV b) = (do pure (.bool (!(← Op.equalIn 10000 38 (WV a) (WV b))))) := rfl
  rw [e]
  simp only [Sem.run_bind, h, Result.andThen_ok, Sem.run_pure]
theorem fields_iw : (Try.prog.fieldsOf 23).toList.map (fun f => (f.name, f.type, f.offset)) = [("Bucket", 9, 0), ("Key", 9, 1), ("Value", 9, 2), ("Gone", 4, 3)] := by kernel_rfl
theorem under_iw : Try.prog.underlying 23 = some (.struct (Try.prog.fieldsOf 23)) := by kernel_rfl
theorem held_iw : Try.prog.stoodInHeld 23 = false := by kernel_rfl
theorem guardType_iw : Try.prog.eqGuardType Try.prog.depth 23 = false := by kernel_rfl
theorem guard_iw (r : BinOp) (x y : Operand) (a b : I.Wt) (w : World) : (eqGuard r 23 x y (WV a) (WV b)).run Try.prog w = .ok () w := by
  unfold WV
  cases r <;> simp [eqGuard, guardType_iw]
theorem neq_iw (a b : I.Wt) (w : World) : (binOp .neq 23 (WV a) (WV b)).run Try.prog w = .ok (.bool (!decide (a = b))) w := by
  have h := eqw_gen under_iw held_iw fields_iw a b w
  have e : binOp .neq 23 (WV a) (WV b) = (do pure (.bool (!(← Op.equalIn 10000 23 (WV a) (WV b))))) := rfl
  rw [e]
  simp only [Sem.run_bind, h, Result.andThen_ok, Sem.run_pure]
theorem eql_iw (a b : I.Wt) (w : World) : (binOp .eql 23 (WV a) (WV b)).run Try.prog w = .ok (.bool (decide (a = b))) w := by
  have h := eqw_gen under_iw held_iw fields_iw a b w
  have e : binOp .eql 23 (WV a) (WV b) = (do pure (.bool (← Op.equalIn 10000 23 (WV a) (WV b)))) := rfl
  rw [e]
  simp only [Sem.run_bind, h, Result.andThen_ok, Sem.run_pure]
/-- two stamps of the document's, not the same -/
theorem guard_nrs (x y : Operand) (l m : List Nat) (d e : Int) (w : World) : (eqGuard .neq 50 x y (SV l d) (SV m e)).run Try.prog w = .ok () w := by
  unfold SV
  simp [eqGuard, guardType_rs]
theorem neq_rs (a b : List Nat) (d e : Int) (ha : a.length = 4) (hb : b.length = 4) (w : World) : (binOp .neq 50 (SV a d) (SV b e)).run Try.prog w = .ok (.bool (!T.same a d b e)) w := by
  have h := eq_gen under_r held_r fields_r Try.underlying48 (fun w => Try.sizeOf48 w) a b d e ha hb w
  have e : binOp .neq 50 (SV a d) (SV b e) = (do pure (.bool (!(← Op.equalIn 10000 50 (SV a d) (SV b e))))) := rfl
  rw [e]
  simp only [Sem.run_bind, h, Result.andThen_ok, Sem.run_pure]
theorem guard_ns (x y : Operand) (l m : List Nat) (d e : Int) (w : World) : (eqGuard .neq 30 x y (SV l d) (SV m e)).run Try.prog w = .ok () w := by
  unfold SV
  simp [eqGuard, guardType_s]
theorem neq_s (a b : List Nat) (d e : Int) (ha : a.length = 4) (hb : b.length = 4) (w : World) : (binOp .neq 30 (SV a d) (SV b e)).run Try.prog w = .ok (.bool (!T.same a d b e)) w := by
  have h := eq_gen under_s held_s fields_s Try.underlying28 (fun w => Try.sizeOf28 w) a b d e ha hb w
  have e : binOp .neq 30 (SV a d) (SV b e) = (do pure (.bool (!(← Op.equalIn 10000 30 (SV a d) (SV b e))))) := rfl
  rw [e]
  simp only [Sem.run_bind, h, Result.andThen_ok, Sem.run_pure]
section

variable {P : Program} {ops : Array Oper} {rest : List Oper} {o : Oper} {a : Act} {C : World → Prop} {Q : Act → Prop}

/-- a write is loaded out of the midst of a block -/
theorem w_wv_load (hgd : o.guard = none) (t : TypeId) (x : Operand) (ho : o.op = .load t x) (b p : Nat) (hx : a.eval x = .pointer (some ⟨b, p, none⟩)) (y : I.Wt) (hb : ∀ u, C u → u.rangeAt b p (wc y))
    (d : TypeDesc) (hu : P.underlying t = some d) (hd : d.isRow = true) (hi : (P.info? t).map (·.size) = some 4)
    (h : ∀ K : Act → Prop, (∀ a, WQ P ops C Q rest a → K a) → K (a.put o.dst (WV y))) : WQ P ops C Q (o :: rest) a := by
  refine w_value hgd (WV y) (fun u hc => ?_) h
  have hl := run_loadAt_mid u b p t (wc y) d (hb u hc) hu hd hi
  unfold execOp
  simp only [ho, hx, Sem.run_bind, hl, Result.andThen_ok, Sem.run_pure]
  rfl
theorem wg_wv_load (hw : Region.wanted o (yielded ops a.tmps) = true) (t : TypeId) (x : Operand) (ho : o.op = .load t x) (b p : Nat) (hx : a.eval x = .pointer (some ⟨b, p, none⟩)) (y : I.Wt) (hb : ∀ u, C u → u.rangeAt b p (wc y))
    (d : TypeDesc) (hu : P.underlying t = some d) (hd : d.isRow = true) (hi : (P.info? t).map (·.size) = some 4)
    (h : ∀ K : Act → Prop, (∀ a, WQ P ops C Q rest a → K a) → K (a.put o.dst (WV y))) : WQ P ops C Q (o :: rest) a := by
  refine wg_value hw (WV y) (fun u hc => ?_) h
  have hl := run_loadAt_mid u b p t (wc y) d (hb u hc) hu hd hi
  unfold execOp
  simp only [ho, hx, Sem.run_bind, hl, Result.andThen_ok, Sem.run_pure]
  rfl
end

/-- the slice v is the call's own and holds these writes (of type t) -/
structure OW (t : TypeId) (w : World) (base : Nat) (v : Value) (L : List I.Wt) : Prop where
  own : w.ownsRow base t 4 v L.length (cellsW L)
theorem OW.nil (t : TypeId) (w : World) (base : Nat) : OW t w base (.slice none 0 0) [] := ⟨World.ownsRow_nil _ _ _ _⟩
theorem OW.below {t : TypeId} {w w' : World} {base : Nat} {v : Value} {L : List I.Wt} (h : OW t w base v L) (hb : Below w.heap.size w w') : OW t w' base v L := by
  obtain ⟨⟨hl, h0 | ⟨g, cap, cur, hv, hB, hh, r⟩⟩⟩ := h
  · exact ⟨⟨hl, .inl h0⟩⟩
  · have hg : g < w.heap.size := by
      rcases Nat.lt_or_ge g w.heap.size with h1 | h1
      · exact h1
      · rw [Array.getElem?_eq_none h1] at hh; cases hh
    exact ⟨⟨hl, .inr ⟨g, cap, cur, hv, hB, by rw [hb.block g hg]; exact hh, r⟩⟩⟩
theorem OW.mono {t : TypeId} {w : World} {base base' : Nat} {v : Value} {L : List I.Wt} (h : OW t w base v L) (hb : base' ≤ base) : OW t w base' v L := by
  obtain ⟨⟨hl, h0 | ⟨g, cap, cur, hv, hB, r⟩⟩⟩ := h
  · exact ⟨⟨hl, .inl h0⟩⟩
  · exact ⟨⟨hl, .inr ⟨g, cap, cur, hv, Nat.le_trans hb hB, r⟩⟩⟩
theorem OW.is {t : TypeId} {w : World} {base : Nat} {v : Value} {L : List I.Wt} (h : OW t w base v L) : IsWs w v L := by
  obtain ⟨hl, h2⟩ := h.own
  have h' := h.own
  rcases h2 with ⟨rfl, h0⟩ | ⟨g, cap, cur, rfl, hb, hg, hn, hm, hs, ht⟩
  · exact ⟨none, 0, by rw [h0], by omega, by unfold maxLen; omega, fun hne => absurd (List.length_eq_zero_iff.1 h0) hne⟩
  · refine ⟨_, cap, rfl, hn, hm, fun _ => ⟨g, 0, rfl, ?_, fun i x hx j v hv => ?_⟩⟩
    · rcases Nat.lt_or_ge g w.heap.size with h1 | h1
      · exact h1
      · rw [Array.getElem?_eq_none h1] at hg; cases hg
    · have hcell := World.ownsRow.cells h' (g := g) rfl (4 * i + j) v (cellsW_at L i x hx j v hv)
      rw [show (⟨g, 0, none⟩ : Addr).add (4 * i + j) = ⟨g, 4 * i + j, none⟩ by unfold Addr.add; split <;> simp_all] at hcell
      rw [Nat.zero_add]
      exact hcell
theorem append_gen {t ts : TypeId} (hu : Try.prog.underlying ts = some (.slice t)) (hinf : (Try.prog.info? t).map (fun i => (i.zero, i.size, i.bytes)) = some (some (.agg (wc I.none_).toArray), 4, 56)) (w : World) {ops : Array Oper} {rest : List Oper} {o : Oper} {a : Act} {Q : Exit → Act → World → Prop} (hgd : o.guard = none) (s x : Operand)
    (ho : o.op = .call { callee := .builtin .append, args := #[s, x], argTypes := #[ts, ts] })
    (base : Nat) (v : Value) (L : List I.Wt) (hs : a.eval s = v) (hown : OW t w base v L) (g : Nat) (hx : a.eval x = .slice (some ⟨g, 0, none⟩) 1 1) (b : I.Wt)
    (hcell : Blk w g (wc b)) (hl : L.length < 1000000) (hbase : base ≤ w.heap.size)
    (h : ∀ v' w', OW t w' base v' (L ++ [b]) → Below base w w' → base ≤ w'.heap.size → wpList Try.prog ops Q rest (a.put o.dst v') w') : wpList Try.prog ops Q (o :: rest) a w := by
  obtain ⟨i0, hi, hz0, hz1, hz2⟩ := info_parts hinf
  refine wpList_append_own w hgd s x ts ho base t i0 (.agg (wc I.none_).toArray) 4 56 hu hi hz0 hz1 hz2 rfl (by decide) v L.length (cellsW L) hs hown.own ⟨g, 0, none⟩ 1 1 (wc b) hx rfl ?_ ?_ (by unfold maxLen; omega) (by omega) hbase ?_
  · intro j u hj
    have := hcell.1 j u hj
    rw [Nat.zero_add] at this
    rwa [show (⟨g, 0, none⟩ : Addr).add j = ⟨g, j, none⟩ by unfold Addr.add; split <;> simp_all]
  · intro u hu
    simp only [wc, List.mem_cons, List.not_mem_nil, or_false] at hu
    rcases hu with rfl | rfl | rfl | rfl <;> rfl
  · intro v' w' h1 h2 _
    have hB : Below base w w' := (Below.refl _ _).grown h2 hbase (fun k hk => (World.ownsRow.lt hown.own k hk).1)
    refine h v' w' ⟨?_⟩ hB (Nat.le_trans hbase hB.size)
    rw [List.length_append, cellsW_add]
    exact h1
theorem Try.info_rw : (Try.prog.info? 38).map (fun i => (i.zero, i.size, i.bytes)) = some (some (.agg (wc I.none_).toArray), 4, 56) := by kernel_rfl
theorem Try.info_iw : (Try.prog.info? 23).map (fun i => (i.zero, i.size, i.bytes)) = some (some (.agg (wc I.none_).toArray), 4, 56) := by kernel_rfl
theorem Try.info_rw2 : (Try.prog.info? 38).map (fun i => (i.zero, i.size)) = some (some (.agg (wc I.none_).toArray), (wc I.none_).length) := by kernel_rfl
theorem Try.info_iw2 : (Try.prog.info? 23).map (fun i => (i.zero, i.size)) = some (some (.agg (wc I.none_).toArray), (wc I.none_).length) := by kernel_rfl
/-- []Write{w} -/
theorem build_rw {w : World} {ops : Array Oper} {rest : List Oper} {o : Oper} {a : Act} {Q : Exit → Act → World → Prop} (hgd : o.guard = none) (x : Operand) (ho : o.op = .buildSlice 39 1 #[(0, x)]) (y : I.Wt) (hx : a.eval x = WV y)
    (h : ∀ w', Blk w' w.heap.size (wc y) → Below w.heap.size w w' → w'.heap.size = w.heap.size + 1 → wpList Try.prog ops Q rest (a.put o.dst (.slice (some ⟨w.heap.size, 0, none⟩) 1 1)) w') : wpList Try.prog ops Q (o :: rest) a w := by
  obtain ⟨b, k, v, g⟩ := y
  refine wpList_plain hgd fun K hK => ?_
  have e : (Instr.buildSlice 39 1 #[(0, WV (b, k, v, g))]).run Try.prog w = .ok (.slice (some ⟨w.heap.size, 0, none⟩) 1 1) (w.alloc (.cells #[.string b, .string k, .string v, .bool g] 38)) := by
    unfold WV wc
    go_simp
  unfold Oper.wp execOp
  simp only [ho, Sem.run_bind, List.map_toArray, List.map_cons, List.map_nil, hx, e, Result.andThen_ok, Sem.run_pure]
  exact hK _ _ (h _ (Blk.of_row (heap_alloc_last w _)) ((Below.refl _ _).alloc (Nat.le_refl _) _) (by show (w.heap.push _).size = _; simp))
theorem build_iw {w : World} {ops : Array Oper} {rest : List Oper} {o : Oper} {a : Act} {Q : Exit → Act → World → Prop} (hgd : o.guard = none) (x : Operand) (ho : o.op = .buildSlice 41 1 #[(0, x)]) (y : I.Wt) (hx : a.eval x = WV y)
    (h : ∀ w', Blk w' w.heap.size (wc y) → Below w.heap.size w w' → w'.heap.size = w.heap.size + 1 → wpList Try.prog ops Q rest (a.put o.dst (.slice (some ⟨w.heap.size, 0, none⟩) 1 1)) w') : wpList Try.prog ops Q (o :: rest) a w := by
  obtain ⟨b, k, v, g⟩ := y
  refine wpList_plain hgd fun K hK => ?_
  have e : (Instr.buildSlice 41 1 #[(0, WV (b, k, v, g))]).run Try.prog w = .ok (.slice (some ⟨w.heap.size, 0, none⟩) 1 1) (w.alloc (.cells #[.string b, .string k, .string v, .bool g] 23)) := by
    unfold WV wc
    go_simp
  unfold Oper.wp execOp
  simp only [ho, Sem.run_bind, List.map_toArray, List.map_cons, List.map_nil, hx, e, Result.andThen_ok, Sem.run_pure]
  exact hK _ _ (h _ (Blk.of_row (heap_alloc_last w _)) ((Below.refl _ _).alloc (Nat.le_refl _) _) (by show (w.heap.push _).size = _; simp))
end Go.Proofs.Ytkfcbihofipcbaa.It
