/- Structs in memory: a block that holds just these values. -/
import Derived.Test.YtlodahlinncpcaaDoorShaStill
namespace Go.Proofs.YtlodahlinncpcaaDoor
open Go.RowKit
set_option linter.unusedVariables false
set_option linter.unusedSimpArgs false
/-- block b holds just these values, and may be written -/
def Blk (w : World) (b : Nat) (vs : List Value) : Prop := w.rangeAt b 0 vs ∧ w.there b 0 vs.length
theorem Blk.cell {w : World} {b : Nat} {vs : List Value} (h : Blk w b vs) (i : Nat) (v : Value) (hv : vs[i]? = some v) : w.cell? ⟨b, i, none⟩ = some v := by
  have := h.1 i v hv
  rwa [Nat.zero_add] at this
theorem Blk.free {w : World} {b : Nat} {vs : List Value} (h : Blk w b vs) (i : Nat) (hi : i < vs.length) : w.frozen? ⟨b, i, none⟩ = false := by
  have := (h.2 i hi).2
  rwa [Nat.zero_add] at this
theorem Blk.below {w w' : World} {b B : Nat} {vs : List Value} (h : Blk w b vs) (hb : Below B w w') (hB : b < B) : Blk w' b vs :=
  ⟨fun j v hv => by rw [hb.cell (p := ⟨b, 0 + j, none⟩) hB]; exact h.1 j v hv, fun j hj => by
    rw [hb.cell (p := ⟨b, 0 + j, none⟩) hB, hb.frozen (p := ⟨b, 0 + j, none⟩) hB]; exact h.2 j hj⟩
theorem Blk.drew {w : World} {b : Nat} {vs : List Value} (h : Blk w b vs) : Blk w.drew b vs := ⟨by simpa using h.1, by simpa using h.2⟩
theorem Blk.alloc {w : World} {b : Nat} {vs : List Value} (h : Blk w b vs) (o : Obj) : Blk (w.alloc o) b vs := ⟨World.rangeAt_alloc h.1 o, World.there_alloc h.2 o⟩
theorem Blk.upd {w w' : World} {b c : Nat} {vs : List Value} (h : Blk w c vs) (hu : Upd b w w') (hc : c ≠ b) : Blk w' c vs :=
  ⟨fun j v hv => by rw [World.cell?_of_block (w := w) (hu.far c hc)]; exact h.1 j v hv, fun j hj => by
    rw [World.cell?_of_block (w := w) (hu.far c hc), World.frozen?_of_block (w := w) (hu.far c hc)]; exact h.2 j hj⟩
theorem Blk.of_row {w : World} {b : Nat} {vs : List Value} {t : TypeId} (h : w.heap[b]? = some (.cells vs.toArray t (0, 0))) : Blk w b vs := by
  have hc : ∀ j v, vs[j]? = some v → w.cell? ⟨b, 0 + j, none⟩ = some v := fun j v hv => by
    rw [cell_of_row _ _ (0 + j) _ t (0, 0) h, Nat.zero_add]
    simpa using hv
  refine ⟨hc, fun j hj => ⟨?_, frozen_of_row _ _ _ _ _ h⟩⟩
  obtain ⟨v, hv⟩ : ∃ v, vs[j]? = some v := ⟨_, List.getElem?_eq_getElem hj⟩
  rw [hc j v hv]; rfl
theorem Blk.store {w : World} {b : Nat} {vs : List Value} (h : Blk w b vs) (us : List Value) (hl : us.length = vs.length) : Blk (w.setCells b 0 us) b us :=
  ⟨World.rangeAt_setCells_same w b 0 _ (by rw [hl]; exact h.2), by rw [hl]; exact World.there_setCells h.2 b 0 _⟩
section
variable {P : Program} {ops : Array Oper} {rest : List Oper} {o : Oper} {a : Act} {w : World} {Q : Exit → Act → World → Prop}
theorem blk_alloc (hgd : o.guard = none) (t : TypeId) (vs : List Value) (ho : o.op = .alloc t) (hz : (P.info? t).map (fun i => (i.zero, i.size)) = some (some (.agg vs.toArray), vs.length))
    (h : ∀ w', Blk w' w.heap.size vs → Below w.heap.size w w' → w'.heap.size = w.heap.size + 1 → wpList P ops Q rest (a.put o.dst (.pointer (some ⟨w.heap.size, 0, none⟩))) w') : wpList P ops Q (o :: rest) a w := by
  refine wpList_plain hgd fun K hK => ?_
  unfold Oper.wp execOp
  simp only [ho, Sem.run_bind, Instr.alloc, (zero_of_info hz).1, newVar, newRow, run_newObj_alloc, Sem.run_pure, Result.andThen_ok]
  exact hK _ _ (h _ (Blk.of_row (heap_alloc_last w _)) ((Below.refl _ _).alloc (Nat.le_refl _) _) (by show (w.heap.push _).size = _; simp))
theorem blk_box (hgd : o.guard = none) (t : TypeId) (x : Operand) (ho : o.op = .box t x) (vs : List Value) (hx : a.eval x = .agg vs.toArray)
    (h : ∀ w', Blk w' w.heap.size vs → Below w.heap.size w w' → w'.heap.size = w.heap.size + 1 → wpList P ops Q rest (a.put o.dst (.pointer (some ⟨w.heap.size, 0, none⟩))) w') : wpList P ops Q (o :: rest) a w := by
  refine wpList_plain hgd fun K hK => ?_
  unfold Oper.wp execOp
  simp only [ho, hx, Sem.run_bind, Instr.box, newVar, newRow, run_newObj_alloc, Sem.run_pure, Result.andThen_ok]
  exact hK _ _ (h _ (Blk.of_row (heap_alloc_last w _)) ((Below.refl _ _).alloc (Nat.le_refl _) _) (by show (w.heap.push _).size = _; simp))
theorem blk_load (hgd : o.guard = none) (t : TypeId) (x : Operand) (ho : o.op = .load t x) (b : Nat) (hx : a.eval x = .pointer (some ⟨b, 0, none⟩)) (vs : List Value) (hb : Blk w b vs)
    (d : TypeDesc) (hu : P.underlying t = some d) (hd : d.isRow = true) (hi : (P.info? t).map (·.size) = some vs.length)
    (h : wpList P ops Q rest (a.put o.dst (.agg vs.toArray)) w) : wpList P ops Q (o :: rest) a w :=
  wpList_load_mid hgd t x ho b 0 hx vs d hb.1 hu hd hi h
theorem blk_loadg (hw : Region.wanted o (yielded ops a.tmps) = true) (t : TypeId) (x : Operand) (ho : o.op = .load t x) (b : Nat) (hx : a.eval x = .pointer (some ⟨b, 0, none⟩)) (vs : List Value) (hb : Blk w b vs)
    (d : TypeDesc) (hu : P.underlying t = some d) (hd : d.isRow = true) (hi : (P.info? t).map (·.size) = some vs.length)
    (h : wpList P ops Q rest (a.put o.dst (.agg vs.toArray)) w) : wpList P ops Q (o :: rest) a w :=
  wpList_step fun _ hK => by rw [if_pos hw]; exact wp_load_mid t x ho b 0 hx vs d hb.1 hu hd hi (hK _ _ h)
theorem blk_store (hgd : o.guard = none) (t : TypeId) (x y : Operand) (ho : o.op = .store t x y) (b : Nat) (hx : a.eval x = .pointer (some ⟨b, 0, none⟩)) (us : List Value) (hy : a.eval y = .agg us.toArray)
    (vs : List Value) (hb : Blk w b vs) (hl : us.length = vs.length) (hi : (P.info? t).map (·.size) = some us.length) (h1 : us.all (fun v => v.oneCell') = true)
    (h : ∀ w', Blk w' b us → Upd b w w' → wpList P ops Q rest (a.put o.dst undef) w') : wpList P ops Q (o :: rest) a w :=
  wpList_store_mid hgd t x y ho b 0 _ hx hy (by rw [List.size_toArray, hl]; exact hb.2) (by rw [List.size_toArray]; exact hi) (all_oneCell_toArray (fun v hv => List.all_eq_true.1 h1 v hv)) (h _ (hb.store us hl) (Upd.setCells b _ 0 w))
theorem still_blk_load {Q : Act → Prop} (hgd : o.guard = none) (t : TypeId) (x : Operand) (ho : o.op = .load t x) (b : Nat) (hx : a.eval x = .pointer (some ⟨b, 0, none⟩)) (vs : List Value) (hb : Blk w b vs)
    (d : TypeDesc) (hu : P.underlying t = some d) (hd : d.isRow = true) (hi : (P.info? t).map (·.size) = some vs.length)
    (h : wpStill P ops w Q rest (a.put o.dst (.agg vs.toArray))) : wpStill P ops w Q (o :: rest) a := by
  refine still_value hgd (.agg vs.toArray) ?_ h
  have hl := run_loadAt_mid w b 0 t vs d hb.1 hu hd hi
  unfold execOp
  simp only [ho, hx, Sem.run_bind, hl, Result.andThen_ok, Sem.run_pure]
theorem q_blk_load {C : World → Prop} {Q : Act → Prop} (hgd : o.guard = none) (t : TypeId) (x : Operand) (ho : o.op = .load t x) (b : Nat) (hx : a.eval x = .pointer (some ⟨b, 0, none⟩)) (vs : List Value) (hb : ∀ u, C u → Blk u b vs)
    (d : TypeDesc) (hu : P.underlying t = some d) (hd : d.isRow = true) (hi : (P.info? t).map (·.size) = some vs.length)
    (h : ∀ K : Act → Prop, (∀ a, wpQuiet P ops C Q rest a → K a) → K (a.put o.dst (.agg vs.toArray))) : wpQuiet P ops C Q (o :: rest) a := by
  refine q_value hgd (.agg vs.toArray) (fun u hc => ?_) h
  have hl := run_loadAt_mid u b 0 t vs d (hb u hc).1 hu hd hi
  unfold execOp
  simp only [ho, hx, Sem.run_bind, hl, Result.andThen_ok, Sem.run_pure]
/-- guarded operations of a quiet walk -/
theorem qg_value {C : World → Prop} {Q : Act → Prop} (hw : Region.wanted o (yielded ops a.tmps) = true) (v : Value) (hr : ∀ u, C u → (execOp a.eval o).run P u = .ok (.value v) u) (h : ∀ K : Act → Prop, (∀ a, wpQuiet P ops C Q rest a → K a) → K (a.put o.dst v)) : wpQuiet P ops C Q (o :: rest) a := by
  refine wpQuiet_step fun K hK => ?_
  rw [if_pos hw]
  refine ⟨v, fun u hu => ?_, h K hK⟩
  unfold Oper.quietAt
  rw [hr u hu]
  exact ⟨rfl, rfl⟩
theorem qg_call {C : World → Prop} {Q : Act → Prop} (hw : Region.wanted o (yielded ops a.tmps) = true) (f : FuncId) (fn : Func) (hf : P.funcs[f]? = some fn) (hnm : (fn.name == "runtime.NumGoroutine") = false) (hbd : fn.body.isNone = false) (xs : Array Operand) (ts : Array TypeId) (ho : o.op = .call { callee := .value (.func f), args := xs, argTypes := ts }) (args : List Value) (hargs : xs.toList.map a.eval = args) (v : Value)
    (hc : ∀ u, C u → Calls P f args.toArray u fun e u' => e = .returned v ∧ C u') (h : ∀ K : Act → Prop, (∀ a, wpQuiet P ops C Q rest a → K a) → K (a.put o.dst v)) : wpQuiet P ops C Q (o :: rest) a := by
  refine wpQuiet_step fun K hK => ?_
  rw [if_pos hw]
  refine ⟨v, fun u hu => ?_, h K hK⟩
  unfold Oper.quietAt
  have hargs' : xs.map a.eval = args.toArray := by rw [← hargs]; apply Array.toList_inj.1; simp
  have hr : (execOp a.eval o).run P u = .ok (.enter f args.toArray) u := by
    unfold execOp
    simp only [ho]
    simp [resolve, Deferred.ofValue, invoke, hargs', Act.eval]
    exact run_enter hf hnm hbd _ u
  rw [hr]
  exact ⟨rfl, hc u hu⟩
theorem qg_blk_load {C : World → Prop} {Q : Act → Prop} (hw : Region.wanted o (yielded ops a.tmps) = true) (t : TypeId) (x : Operand) (ho : o.op = .load t x) (b : Nat) (hx : a.eval x = .pointer (some ⟨b, 0, none⟩)) (vs : List Value) (hb : ∀ u, C u → Blk u b vs)
    (d : TypeDesc) (hu : P.underlying t = some d) (hd : d.isRow = true) (hi : (P.info? t).map (·.size) = some vs.length)
    (h : ∀ K : Act → Prop, (∀ a, wpQuiet P ops C Q rest a → K a) → K (a.put o.dst (.agg vs.toArray))) : wpQuiet P ops C Q (o :: rest) a := by
  refine qg_value hw (.agg vs.toArray) (fun u hc => ?_) h
  have hl := run_loadAt_mid u b 0 t vs d (hb u hc).1 hu hd hi
  unfold execOp
  simp only [ho, hx, Sem.run_bind, hl, Result.andThen_ok, Sem.run_pure]
/-- results, the first of them a struct in memory -/
theorem res_blk1 {fn : Func} {p : Tmp} {t : TypeId} (h : fn.results = #[.cell p t]) (tmps : Array Value) (b : Nat) (hp : tmps.getD p undef = .pointer (some ⟨b, 0, none⟩)) (vs : List Value) (hb : Blk w b vs)
    (d : TypeDesc) (hu : P.underlying t = some d) (hd : d.isRow = true) (hi : (P.info? t).map (·.size) = some vs.length) : (results fn tmps).run P w = .ok (.agg vs.toArray) w := by
  have hl := run_loadVar_mid w b 0 t vs d hb.1 hu hd hi
  simp only [results, h]
  simp [Sem.run_bind, Result.andThen, asAddr, hl] at hp ⊢
  simp [hp, asAddr, hl]
theorem res_blk2 {fn : Func} {p x : Tmp} {t : TypeId} (h : fn.results = #[.cell p t, .tmp x]) (tmps : Array Value) (b : Nat) (hp : tmps.getD p undef = .pointer (some ⟨b, 0, none⟩)) (vs : List Value) (hb : Blk w b vs)
    (d : TypeDesc) (hu : P.underlying t = some d) (hd : d.isRow = true) (hi : (P.info? t).map (·.size) = some vs.length) : (results fn tmps).run P w = .ok (.tuple #[.agg vs.toArray, tmps.getD x undef]) w := by
  have hl := run_loadVar_mid w b 0 t vs d hb.1 hu hd hi
  simp only [results, h]
  simp [Sem.run_bind, Result.andThen, asAddr, hl] at hp ⊢
  simp [hp, asAddr, hl]
theorem res_blk3 {fn : Func} {p x y : Tmp} {t : TypeId} (h : fn.results = #[.cell p t, .tmp x, .tmp y]) (tmps : Array Value) (b : Nat) (hp : tmps.getD p undef = .pointer (some ⟨b, 0, none⟩)) (vs : List Value) (hb : Blk w b vs)
    (d : TypeDesc) (hu : P.underlying t = some d) (hd : d.isRow = true) (hi : (P.info? t).map (·.size) = some vs.length) : (results fn tmps).run P w = .ok (.tuple #[.agg vs.toArray, tmps.getD x undef, tmps.getD y undef]) w := by
  have hl := run_loadVar_mid w b 0 t vs d hb.1 hu hd hi
  simp only [results, h]
  simp [Sem.run_bind, Result.andThen, asAddr, hl] at hp ⊢
  simp [hp, asAddr, hl]
end
end Go.Proofs.YtlodahlinncpcaaDoor
