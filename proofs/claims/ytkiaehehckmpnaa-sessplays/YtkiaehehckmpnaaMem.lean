/- Memory: arrays of numbers and structs in blocks of their own; regions that draw: the laws that the walks use. -/
import Derived.Test.YtkiaehehckmpnaaRows

import Derived.WalkKit

import Derived.WalkLawsBesides

import Derived.WalkSpells

import Derived.Outline

import Derived.Below

import Derived.Laws.BitsAllLaws

import Derived.Deep.MidRow

import Derived.Deep.WholeRow

import Derived.Deep.RegionHeld

import Derived.Deep.DeepCutAuto

import Derived.Laws.ResultCell

import Derived.StillTailTactics

import Derived.Laws.Concat

import Derived.Deep.QuietTactic

import Derived.BigQuiet

import Derived.ChangeKeysEq

namespace Go.Proofs.Ytkiaehehckmpnaa

open Go.RowKit

set_option linter.unusedVariables false

set_option linter.unusedSimpArgs false

/-- a list of numbers as cells -/
def ks (k : IntKind) (l : List Nat) : List Value := l.map fun (x : Nat) => Value.int k (x : Int)
theorem ks_length (k : IntKind) (l : List Nat) : (ks k l).length = l.length := by simp [ks]
theorem ks_set (k : IntKind) (l : List Nat) (j x : Nat) : ks k (l.set j x) = (ks k l).set j (.int k (x : Int)) := by simp [ks, List.map_set]
theorem ks_one (k : IntKind) (l : List Nat) : (ks k l).toArray.all (·.oneCell') = true :=
  all_oneCell_toArray (fun v hv => by obtain ⟨x, _, rfl⟩ := List.mem_map.1 hv; rfl)
/-- an array's value -/
def AV (k : IntKind) (l : List Nat) : Value := .agg (ks k l).toArray
/-- block b holds just these numbers, and may be written -/
def Arr (k : IntKind) (w : World) (b : Nat) (l : List Nat) : Prop := w.rangeAt b 0 (ks k l) ∧ w.there b 0 l.length
theorem Arr.cell {k : IntKind} {w : World} {b : Nat} {l : List Nat} (h : Arr k w b l) (i : Nat) (hi : i < l.length) : w.cell? ⟨b, i, none⟩ = some (.int k ((l.getD i 0 : Nat) : Int)) := by
  have := h.1 i (.int k (l.getD i 0 : Nat)) (by simp [ks, hi])
  rwa [Nat.zero_add] at this
theorem Arr.free {k : IntKind} {w : World} {b : Nat} {l : List Nat} (h : Arr k w b l) (i : Nat) (hi : i < l.length) : w.frozen? ⟨b, i, none⟩ = false := by
  have := (h.2 i hi).2
  rwa [Nat.zero_add] at this
theorem Arr.below {k : IntKind} {w w' : World} {b B : Nat} {l : List Nat} (h : Arr k w b l) (hb : Below B w w') (hB : b < B) : Arr k w' b l :=
  ⟨fun j v hv => by rw [hb.cell (p := ⟨b, 0 + j, none⟩) hB]; exact h.1 j v hv, fun j hj => by
    rw [hb.cell (p := ⟨b, 0 + j, none⟩) hB, hb.frozen (p := ⟨b, 0 + j, none⟩) hB]; exact h.2 j hj⟩
theorem Arr.drew {k : IntKind} {w : World} {b : Nat} {l : List Nat} (h : Arr k w b l) : Arr k w.drew b l := ⟨by simpa using h.1, by simpa using h.2⟩
theorem Arr.alloc {k : IntKind} {w : World} {b : Nat} {l : List Nat} (h : Arr k w b l) (o : Obj) : Arr k (w.alloc o) b l := ⟨World.rangeAt_alloc h.1 o, World.there_alloc h.2 o⟩
theorem Arr.set {k : IntKind} {w : World} {b : Nat} {l : List Nat} (h : Arr k w b l) (i x : Nat) (hi : i < l.length) : Arr k (w.setCell ⟨b, i, none⟩ (.int k (x : Int))) b (l.set i x) := by
  have c := h.cell i hi
  refine ⟨fun j v hv => ?_, fun j hj => ?_⟩
  · rw [ks_set] at hv
    rw [Nat.zero_add]
    by_cases e : i = j
    · subst e
      rw [List.getElem?_set_self (by rw [ks_length]; exact hi)] at hv
      rw [← Option.some.inj hv]
      exact World.cell?_setCell_same _ _ _ c
    · rw [List.getElem?_set_ne e] at hv
      rw [World.cell?_setCell_other _ _ _ _ (by simp [e])]
      simpa using h.1 j v hv
  · rw [List.length_set] at hj
    obtain ⟨h1, h2⟩ := h.2 j hj
    exact ⟨World.isSome_setCells b [.int k (x : Int)] i w _ h1, by simpa using h2⟩
theorem Arr.new (k : IntKind) (w : World) (l : List Nat) (t : TypeId) : Arr k (w.alloc (.cells (ks k l).toArray t)) w.heap.size l := by
  have hb : (w.alloc (.cells (ks k l).toArray t)).heap[w.heap.size]? = some (.cells (ks k l).toArray t) := heap_alloc_last w _
  have hc : ∀ j v, (ks k l)[j]? = some v → (w.alloc (.cells (ks k l).toArray t)).cell? ⟨w.heap.size, 0 + j, none⟩ = some v := fun j v hv => by
    rw [cell_of_row _ _ (0 + j) _ t (0, 0) hb, Nat.zero_add]
    simpa using hv
  refine ⟨hc, fun j hj => ⟨?_, ?_⟩⟩
  · obtain ⟨v, hv⟩ : ∃ v, (ks k l)[j]? = some v := ⟨_, List.getElem?_eq_getElem (by rw [ks_length]; exact hj)⟩
    rw [hc j v hv]; rfl
  · simp [go_sem]
/-- only block b has turned -/
structure Upd (b : Nat) (w w' : World) : Prop where
  os : w'.os = w.os
  tape : w'.tape = w.tape
  output : w'.output = w.output
  size : w'.heap.size = w.heap.size
  far : ∀ k, k ≠ b → w'.heap[k]? = w.heap[k]?
theorem Upd.refl (b : Nat) (w : World) : Upd b w w := ⟨rfl, rfl, rfl, rfl, fun _ _ => rfl⟩
theorem Upd.trans {b : Nat} {u v w : World} (h : Upd b u v) (k : Upd b v w) : Upd b u w := ⟨k.os.trans h.os, k.tape.trans h.tape, k.output.trans h.output, k.size.trans h.size, fun i hi => (k.far i hi).trans (h.far i hi)⟩
theorem Upd.setCell (w : World) (b i : Nat) (v : Value) : Upd b w (w.setCell ⟨b, i, none⟩ v) :=
  ⟨rfl, rfl, rfl, by simp [World.setCell], fun k hk => Below.heap_setCell w ⟨b, i, none⟩ v k hk⟩
theorem Upd.setCells (b : Nat) : ∀ (vs : List Value) (o : Nat) (w : World), Upd b w (w.setCells b o vs)
  | [], _, w => Upd.refl b w
  | v :: r, o, w => (Upd.setCell w b o v).trans (Upd.setCells b r (o + 1) _)
theorem Upd.below {b B : Nat} {w w' : World} (h : Upd b w w') (hB : B ≤ b) : Below B w w' :=
  ⟨h.os, h.tape, h.output, Nat.le_of_eq h.size.symm, fun k hk => h.far k (by omega)⟩
theorem Arr.upd {k : IntKind} {w w' : World} {b c : Nat} {l : List Nat} (h : Arr k w c l) (hu : Upd b w w') (hc : c ≠ b) : Arr k w' c l :=
  ⟨fun j v hv => by rw [World.cell?_of_block (w := w) (hu.far c hc)]; exact h.1 j v hv, fun j hj => by
    rw [World.cell?_of_block (w := w) (hu.far c hc), World.frozen?_of_block (w := w) (hu.far c hc)]; exact h.2 j hj⟩
theorem Arr.store {k : IntKind} {w : World} {b : Nat} {l : List Nat} (h : Arr k w b l) (l' : List Nat) (hl : l'.length = l.length) : Arr k (w.setCells b 0 (ks k l')) b l' :=
  ⟨World.rangeAt_setCells_same w b 0 _ (by rw [ks_length, hl]; exact h.2), by rw [hl]; exact World.there_setCells h.2 b 0 _⟩

section

variable {P : Program} {ops : Array Oper} {rest : List Oper} {o : Oper} {a : Act} {w : World} {Q : Exit → Act → World → Prop}

theorem arr_alloc (hgd : o.guard = none) (k : IntKind) (t : TypeId) (n : Nat) (ho : o.op = .alloc t) (hz : (P.info? t).map (fun i => (i.zero, i.size)) = some (some (AV k (List.replicate n 0)), n))
    (h : ∀ w', Arr k w' w.heap.size (List.replicate n 0) → Below w.heap.size w w' → w'.heap.size = w.heap.size + 1 → wpList P ops Q rest (a.put o.dst (.pointer (some ⟨w.heap.size, 0, none⟩))) w') : wpList P ops Q (o :: rest) a w := by
  refine wpList_plain hgd fun K hK => ?_
  unfold Oper.wp execOp
  simp only [ho, Sem.run_bind, Instr.alloc, (zero_of_info hz).1, newVar, newRow, run_newObj_alloc, Sem.run_pure, Result.andThen_ok]
  exact hK _ _ (h _ (Arr.new k w _ t) ((Below.refl _ _).alloc (Nat.le_refl _) _) (by show (w.heap.push _).size = _; simp))
theorem arr_box (hgd : o.guard = none) (k : IntKind) (t : TypeId) (x : Operand) (ho : o.op = .box t x) (l : List Nat) (hx : a.eval x = AV k l)
    (h : ∀ w', Arr k w' w.heap.size l → Below w.heap.size w w' → w'.heap.size = w.heap.size + 1 → wpList P ops Q rest (a.put o.dst (.pointer (some ⟨w.heap.size, 0, none⟩))) w') : wpList P ops Q (o :: rest) a w := by
  refine wpList_plain hgd fun K hK => ?_
  unfold Oper.wp execOp
  simp only [ho, hx, Sem.run_bind, Instr.box, newVar, newRow, run_newObj_alloc, Sem.run_pure, Result.andThen_ok]
  exact hK _ _ (h _ (Arr.new k w _ t) ((Below.refl _ _).alloc (Nat.le_refl _) _) (by show (w.heap.push _).size = _; simp))
theorem arr_load (hgd : o.guard = none) (k : IntKind) (t : TypeId) (x : Operand) (ho : o.op = .load t x) (b : Nat) (hx : a.eval x = .pointer (some ⟨b, 0, none⟩)) (l : List Nat) (ha : Arr k w b l)
    (n : Nat) (e : TypeId) (hu : P.underlying t = some (.array n e)) (hi : (P.info? t).map (·.size) = some l.length)
    (h : wpList P ops Q rest (a.put o.dst (AV k l)) w) : wpList P ops Q (o :: rest) a w :=
  wpList_load_mid hgd t x ho b 0 hx (ks k l) _ ha.1 hu rfl (by rw [ks_length]; exact hi) h
theorem arr_store (hgd : o.guard = none) (k : IntKind) (t : TypeId) (x y : Operand) (ho : o.op = .store t x y) (b : Nat) (hx : a.eval x = .pointer (some ⟨b, 0, none⟩)) (l' : List Nat) (hy : a.eval y = AV k l')
    (l : List Nat) (ha : Arr k w b l) (hl : l'.length = l.length) (hi : (P.info? t).map (·.size) = some l'.length)
    (h : ∀ w', Arr k w' b l' → Upd b w w' → wpList P ops Q rest (a.put o.dst undef) w') : wpList P ops Q (o :: rest) a w :=
  wpList_store_mid hgd t x y ho b 0 _ hx hy (by rw [List.size_toArray, ks_length, hl]; exact ha.2) (by rw [List.size_toArray, ks_length]; exact hi) (ks_one k l') (h _ (ha.store l' hl) (Upd.setCells b _ 0 w))
theorem res_arr {fn : Func} {p : Tmp} {t : TypeId} (h : fn.results = #[.cell p t]) (tmps : Array Value) (k : IntKind) (b : Nat) (hp : tmps.getD p undef = .pointer (some ⟨b, 0, none⟩)) (l : List Nat) (ha : Arr k w b l)
    (n : Nat) (e : TypeId) (hu : P.underlying t = some (.array n e)) (hi : (P.info? t).map (·.size) = some l.length) : (results fn tmps).run P w = .ok (AV k l) w := by
  have hl := run_loadVar_mid w b 0 t (ks k l) _ ha.1 hu rfl (by rw [ks_length]; exact hi)
  simp only [results, h]
  simp [Sem.run_bind, Result.andThen, asAddr, hl] at hp ⊢
  simp [hp, asAddr, hl]
  rfl
theorem res_arr2 {fn : Func} {p u : Tmp} {t : TypeId} (h : fn.results = #[.cell p t, .tmp u]) (tmps : Array Value) (k : IntKind) (b : Nat) (hp : tmps.getD p undef = .pointer (some ⟨b, 0, none⟩)) (l : List Nat) (ha : Arr k w b l)
    (n : Nat) (e : TypeId) (hu : P.underlying t = some (.array n e)) (hi : (P.info? t).map (·.size) = some l.length) : (results fn tmps).run P w = .ok (.tuple #[AV k l, tmps.getD u undef]) w := by
  have hl := run_loadVar_mid w b 0 t (ks k l) _ ha.1 hu rfl (by rw [ks_length]; exact hi)
  rw [results_cell_tmp h, hp]
  simp [asAddr, hl]
  rfl
end

end Go.Proofs.Ytkiaehehckmpnaa

namespace Go.Proofs.Ytkiaehehckmpnaa

open Go.RowKit

set_option linter.unusedVariables false

set_option linter.unusedSimpArgs false

section

variable {P : Program} {ops : Array Oper} {rest : List Oper} {o : Oper} {a : Act} {w : World} {Q : Act → Prop}

/-- an operation that yields a value and leaves the world -/
theorem still_value (hgd : o.guard = none) (v : Value) (hr : (execOp a.eval o).run P w = .ok (.value v) w) (h : wpStill P ops w Q rest (a.put o.dst v)) : wpStill P ops w Q (o :: rest) a := by
  refine wpStill_step fun K hK => ?_
  rw [if_pos (by simp [Region.wanted, hgd])]
  unfold Oper.still
  rw [hr]
  exact ⟨rfl, hK _ h⟩
theorem still_arr_load (hgd : o.guard = none) (k : IntKind) (t : TypeId) (x : Operand) (ho : o.op = .load t x) (b : Nat) (hx : a.eval x = .pointer (some ⟨b, 0, none⟩)) (l : List Nat) (ha : Arr k w b l)
    (n : Nat) (e : TypeId) (hu : P.underlying t = some (.array n e)) (hi : (P.info? t).map (·.size) = some l.length)
    (h : wpStill P ops w Q rest (a.put o.dst (AV k l))) : wpStill P ops w Q (o :: rest) a := by
  refine still_value hgd (AV k l) ?_ h
  have hl := run_loadAt_mid w b 0 t (ks k l) _ ha.1 hu rfl (by rw [ks_length]; exact hi)
  unfold execOp
  simp only [ho, hx, Sem.run_bind, hl, Result.andThen_ok, Sem.run_pure]
  rfl
/-- two texts, one behind the other -/
theorem still_concat (hgd : o.guard = none) (t t' : TypeId) (x y : Operand) (ho : o.op = .binOp .add t x y t') (b c : ByteArray) (hx : a.eval x = .string b) (hy : a.eval y = .string c) (hn : b.size + c.size ≤ 9223372036854775807)
    (h : wpStill P ops w Q rest (a.put o.dst (.string (b ++ c)))) : wpStill P ops w Q (o :: rest) a := by
  refine still_value hgd (.string (b ++ c)) ?_ h
  have e : binOp .add t (.string b) (.string c) = Op.stringOp .add b c := rfl
  unfold execOp
  simp only [ho, hx, hy, Sem.run_bind, e]
  simp [eqGuard]
  rw [run_string_add_sum w b c hn]
  rfl
end

end Go.Proofs.Ytkiaehehckmpnaa

namespace Go.Proofs.Ytkiaehehckmpnaa

open Go.RowKit

set_option linter.unusedVariables false

set_option linter.unusedSimpArgs false

section

variable {P : Program} {ops : Array Oper} {rest : List Oper} {o : Oper} {a : Act} {C : World → Prop} {Q : Act → Prop}

/-- an operation that yields one value in every world of the class, and leaves the world -/
theorem q_value (hgd : o.guard = none) (v : Value) (hr : ∀ u, C u → (execOp a.eval o).run P u = .ok (.value v) u) (h : ∀ K : Act → Prop, (∀ a, wpQuiet P ops C Q rest a → K a) → K (a.put o.dst v)) : wpQuiet P ops C Q (o :: rest) a := by
  refine wpQuiet_step fun K hK => ?_
  rw [if_pos (by simp [Region.wanted, hgd])]
  refine ⟨v, fun u hu => ?_, h K hK⟩
  unfold Oper.quietAt
  rw [hr u hu]
  exact ⟨rfl, rfl⟩
theorem q_move (hgd : o.guard = none) (x : Operand) (ho : o.op = .move x) (v : Value) (hx : a.eval x = v) (h : ∀ K : Act → Prop, (∀ a, wpQuiet P ops C Q rest a → K a) → K (a.put o.dst v)) : wpQuiet P ops C Q (o :: rest) a :=
  q_value hgd v (fun u _ => by unfold execOp; simp only [ho, hx]; rfl) h
theorem q_assign (hgd : o.guard = none) (x : Operand) (ho : o.op = .assign x) (v : Value) (hx : a.eval x = v) (h : ∀ K : Act → Prop, (∀ a, wpQuiet P ops C Q rest a → K a) → K (a.put o.dst v)) : wpQuiet P ops C Q (o :: rest) a :=
  q_value hgd v (fun u _ => by unfold execOp; simp only [ho, hx]; rfl) h
theorem run_enter {f : FuncId} {fn : Func} (hf : P.funcs[f]? = some fn) (hn : (fn.name == "runtime.NumGoroutine") = false) (hb : fn.body.isNone = false) (args : Array Value) (w : World) : (callFunc f args).run P w = .ok (.enter f args) w := by
  have h1 : fn.name ≠ "runtime.NumGoroutine" := by simpa using hn
  have h2 : ¬ fn.body = none := fun e => by rw [e] at hb; cases hb
  simp [callFunc, go_sem, hf, h1, h2]
/-- a call that hands back one value, and leaves a world of the class -/
theorem q_call (hgd : o.guard = none) (f : FuncId) (fn : Func) (hf : P.funcs[f]? = some fn) (hnm : (fn.name == "runtime.NumGoroutine") = false) (hbd : fn.body.isNone = false) (xs : Array Operand) (ts : Array TypeId) (ho : o.op = .call { callee := .value (.func f), args := xs, argTypes := ts }) (args : List Value) (hargs : xs.toList.map a.eval = args) (v : Value)
    (hc : ∀ u, C u → Calls P f args.toArray u fun e u' => e = .returned v ∧ C u') (h : ∀ K : Act → Prop, (∀ a, wpQuiet P ops C Q rest a → K a) → K (a.put o.dst v)) : wpQuiet P ops C Q (o :: rest) a := by
  refine wpQuiet_step fun K hK => ?_
  rw [if_pos (by simp [Region.wanted, hgd])]
  refine ⟨v, fun u hu => ?_, h K hK⟩
  unfold Oper.quietAt
  have hargs' : xs.map a.eval = args.toArray := by rw [← hargs]; apply Array.toList_inj.1; simp
  have hr : (execOp a.eval o).run P u = .ok (.enter f args.toArray) u := by
    unfold execOp
    simp only [ho]
    simp [resolve, Deferred.ofValue, invoke, hargs', Act.eval]
    exact run_enter hf hnm hbd _ u
  rw [hr]
  exact ⟨rfl, hc u hu⟩
theorem q_concat (hgd : o.guard = none) (t t' : TypeId) (x y : Operand) (ho : o.op = .binOp .add t x y t') (b c : ByteArray) (hx : a.eval x = .string b) (hy : a.eval y = .string c) (hn : b.size + c.size ≤ 9223372036854775807)
    (h : ∀ K : Act → Prop, (∀ a, wpQuiet P ops C Q rest a → K a) → K (a.put o.dst (.string (b ++ c)))) : wpQuiet P ops C Q (o :: rest) a := by
  refine q_value hgd (.string (b ++ c)) (fun u _ => ?_) h
  have e : binOp .add t (.string b) (.string c) = Op.stringOp .add b c := rfl
  unfold execOp
  simp only [ho, hx, hy, Sem.run_bind, e]
  simp [eqGuard]
  rw [run_string_add_sum u b c hn]
  rfl
/-- a region that draws, in the class of the worlds that only have more memory -/
theorem region_more {id : Nat} {Q : Exit → Act → World → Prop} {a : Act} {w : World} {l : List Oper} (hm : P.follows .mixedOrders = true) (hB : Region.lexB .any l.toArray = true)
    (h : wpQuiet P l.toArray (fun u => Below w.heap.size w u) (fun a' => ∀ u, Below w.heap.size w u → Q .normal a' u) l a) : (Code.region id l.toArray true).wp P Q a w :=
  wp_region_quiet (C := fun u => Below w.heap.size w u) hm hB (Below.drew (Below.refl _ _)) (by simpa using h)
end

theorem keepcell {W w1 : World} (hb : Below W.heap.size W w1) {b o : Nat} {v : Value} (h : b < W.heap.size) (hv : W.cell? ⟨b, o, none⟩ = some v) : w1.cell? ⟨b, o, none⟩ = some v := by
  rw [hb.cell (p := ⟨b, o, none⟩) h]; exact hv
/-- a contract that ends in more memory, met in a world that has more memory -/
theorem Calls.more {P : Program} {f : FuncId} {args : Array Value} {w u : World} {v : Value} (hu : Below w.heap.size w u) (h : Calls P f args u fun e u' => e = .returned v ∧ Below u.heap.size u u') :
    Calls P f args u fun e u' => e = .returned v ∧ Below w.heap.size w u' :=
  h.mono fun _ _ ⟨he, hb⟩ => ⟨he, hu.trans (hb.mono hu.size)⟩
end Go.Proofs.Ytkiaehehckmpnaa

namespace Go.Proofs.Ytkiaehehckmpnaa

open Go.RowKit

set_option linter.unusedVariables false

set_option linter.unusedSimpArgs false

/-- block b holds just these values, and may be written -/
def Blk (w : World) (b : Nat) (vs : List Value) : Prop := w.rangeAt b 0 vs ∧ w.there b 0 vs.length
theorem Blk.cell {w : World} {b : Nat} {vs : List Value} (h : Blk w b vs) (i : Nat) (v : Value) (hv : vs[i]? = some v) : w.cell? ⟨b, i, none⟩ = some v := by
  have := h.1 i v hv
  rwa [Nat.zero_add] at this
theorem Blk.free {w : World} {b : Nat} {vs : List Value} (h : Blk w b vs) (i : Nat) (hi : i < vs.length) : w.frozen? ⟨b, i, none⟩ = false := by
  have := (h.2 i hi).2
  rwa [Nat.zero_add] at this
theorem Blk.below {w w' : World} {b B : Nat} {vs : List Value} (h : Blk w b vs) (hb : Below B w w') (hB : b < B) : Blk w' b vs :=
  ⟨fun j v hv => by rw [hb.cell (p := ⟨b, 0 + j, none⟩) hB]; exact h.1 j v hv, fun j hj => by
    rw [hb.cell (p := ⟨b, 0 + j, none⟩) hB, hb.frozen (p := ⟨b, 0 + j, none⟩) hB]; exact h.2 j hj⟩
theorem Blk.drew {w : World} {b : Nat} {vs : List Value} (h : Blk w b vs) : Blk w.drew b vs := ⟨by simpa using h.1, by simpa using h.2⟩
theorem Blk.alloc {w : World} {b : Nat} {vs : List Value} (h : Blk w b vs) (o : Obj) : Blk (w.alloc o) b vs := ⟨World.rangeAt_alloc h.1 o, World.there_alloc h.2 o⟩
theorem Blk.upd {w w' : World} {b c : Nat} {vs : List Value} (h : Blk w c vs) (hu : Upd b w w') (hc : c ≠ b) : Blk w' c vs :=
  ⟨fun j v hv => by rw [World.cell?_of_block (w := w) (hu.far c hc)]; exact h.1 j v hv, fun j hj => by
    rw [World.cell?_of_block (w := w) (hu.far c hc), World.frozen?_of_block (w := w) (hu.far c hc)]; exact h.2 j hj⟩
theorem Blk.of_row {w : World} {b : Nat} {vs : List Value} {t : TypeId} (h : w.heap[b]? = some (.cells vs.toArray t (0, 0))) : Blk w b vs := by
  have hc : ∀ j v, vs[j]? = some v → w.cell? ⟨b, 0 + j, none⟩ = some v := fun j v hv => by
    rw [cell_of_row _ _ (0 + j) _ t (0, 0) h, Nat.zero_add]
    simpa using hv
  refine ⟨hc, fun j hj => ⟨?_, frozen_of_row _ _ _ _ _ h⟩⟩
  obtain ⟨v, hv⟩ : ∃ v, vs[j]? = some v := ⟨_, List.getElem?_eq_getElem hj⟩
  rw [hc j v hv]; rfl
theorem Blk.store {w : World} {b : Nat} {vs : List Value} (h : Blk w b vs) (us : List Value) (hl : us.length = vs.length) : Blk (w.setCells b 0 us) b us :=
  ⟨World.rangeAt_setCells_same w b 0 _ (by rw [hl]; exact h.2), by rw [hl]; exact World.there_setCells h.2 b 0 _⟩
section

variable {P : Program} {ops : Array Oper} {rest : List Oper} {o : Oper} {a : Act} {w : World} {Q : Exit → Act → World → Prop}

theorem blk_alloc (hgd : o.guard = none) (t : TypeId) (vs : List Value) (ho : o.op = .alloc t) (hz : (P.info? t).map (fun i => (i.zero, i.size)) = some (some (.agg vs.toArray), vs.length))
    (h : ∀ w', Blk w' w.heap.size vs → Below w.heap.size w w' → w'.heap.size = w.heap.size + 1 → wpList P ops Q rest (a.put o.dst (.pointer (some ⟨w.heap.size, 0, none⟩))) w') : wpList P ops Q (o :: rest) a w := by
  refine wpList_plain hgd fun K hK => ?_
  unfold Oper.wp execOp
  simp only [ho, Sem.run_bind, Instr.alloc, (zero_of_info hz).1, newVar, newRow, run_newObj_alloc, Sem.run_pure, Result.andThen_ok]
  exact hK _ _ (h _ (Blk.of_row (heap_alloc_last w _)) ((Below.refl _ _).alloc (Nat.le_refl _) _) (by show (w.heap.push _).size = _; simp))
theorem blk_box (hgd : o.guard = none) (t : TypeId) (x : Operand) (ho : o.op = .box t x) (vs : List Value) (hx : a.eval x = .agg vs.toArray)
    (h : ∀ w', Blk w' w.heap.size vs → Below w.heap.size w w' → w'.heap.size = w.heap.size + 1 → wpList P ops Q rest (a.put o.dst (.pointer (some ⟨w.heap.size, 0, none⟩))) w') : wpList P ops Q (o :: rest) a w := by
  refine wpList_plain hgd fun K hK => ?_
  unfold Oper.wp execOp
  simp only [ho, hx, Sem.run_bind, Instr.box, newVar, newRow, run_newObj_alloc, Sem.run_pure, Result.andThen_ok]
  exact hK _ _ (h _ (Blk.of_row (heap_alloc_last w _)) ((Below.refl _ _).alloc (Nat.le_refl _) _) (by show (w.heap.push _).size = _; simp))
theorem blk_load (hgd : o.guard = none) (t : TypeId) (x : Operand) (ho : o.op = .load t x) (b : Nat) (hx : a.eval x = .pointer (some ⟨b, 0, none⟩)) (vs : List Value) (hb : Blk w b vs)
    (d : TypeDesc) (hu : P.underlying t = some d) (hd : d.isRow = true) (hi : (P.info? t).map (·.size) = some vs.length)
    (h : wpList P ops Q rest (a.put o.dst (.agg vs.toArray)) w) : wpList P ops Q (o :: rest) a w :=
  wpList_load_mid hgd t x ho b 0 hx vs d hb.1 hu hd hi h
theorem blk_loadg (hw : Region.wanted o (yielded ops a.tmps) = true) (t : TypeId) (x : Operand) (ho : o.op = .load t x) (b : Nat) (hx : a.eval x = .pointer (some ⟨b, 0, none⟩)) (vs : List Value) (hb : Blk w b vs)
    (d : TypeDesc) (hu : P.underlying t = some d) (hd : d.isRow = true) (hi : (P.info? t).map (·.size) = some vs.length)
    (h : wpList P ops Q rest (a.put o.dst (.agg vs.toArray)) w) : wpList P ops Q (o :: rest) a w :=
  wpList_step fun _ hK => by rw [if_pos hw]; exact wp_load_mid t x ho b 0 hx vs d hb.1 hu hd hi (hK _ _ h)
theorem blk_store (hgd : o.guard = none) (t : TypeId) (x y : Operand) (ho : o.op = .store t x y) (b : Nat) (hx : a.eval x = .pointer (some ⟨b, 0, none⟩)) (us : List Value) (hy : a.eval y = .agg us.toArray)
    (vs : List Value) (hb : Blk w b vs) (hl : us.length = vs.length) (hi : (P.info? t).map (·.size) = some us.length) (h1 : us.all (fun v => v.oneCell') = true)
    (h : ∀ w', Blk w' b us → Upd b w w' → wpList P ops Q rest (a.put o.dst undef) w') : wpList P ops Q (o :: rest) a w :=
  wpList_store_mid hgd t x y ho b 0 _ hx hy (by rw [List.size_toArray, hl]; exact hb.2) (by rw [List.size_toArray]; exact hi) (all_oneCell_toArray (fun v hv => List.all_eq_true.1 h1 v hv)) (h _ (hb.store us hl) (Upd.setCells b _ 0 w))
theorem still_blk_load {Q : Act → Prop} (hgd : o.guard = none) (t : TypeId) (x : Operand) (ho : o.op = .load t x) (b : Nat) (hx : a.eval x = .pointer (some ⟨b, 0, none⟩)) (vs : List Value) (hb : Blk w b vs)
    (d : TypeDesc) (hu : P.underlying t = some d) (hd : d.isRow = true) (hi : (P.info? t).map (·.size) = some vs.length)
    (h : wpStill P ops w Q rest (a.put o.dst (.agg vs.toArray))) : wpStill P ops w Q (o :: rest) a := by
  refine still_value hgd (.agg vs.toArray) ?_ h
  have hl := run_loadAt_mid w b 0 t vs d hb.1 hu hd hi
  unfold execOp
  simp only [ho, hx, Sem.run_bind, hl, Result.andThen_ok, Sem.run_pure]
theorem q_blk_load {C : World → Prop} {Q : Act → Prop} (hgd : o.guard = none) (t : TypeId) (x : Operand) (ho : o.op = .load t x) (b : Nat) (hx : a.eval x = .pointer (some ⟨b, 0, none⟩)) (vs : List Value) (hb : ∀ u, C u → Blk u b vs)
    (d : TypeDesc) (hu : P.underlying t = some d) (hd : d.isRow = true) (hi : (P.info? t).map (·.size) = some vs.length)
    (h : ∀ K : Act → Prop, (∀ a, wpQuiet P ops C Q rest a → K a) → K (a.put o.dst (.agg vs.toArray))) : wpQuiet P ops C Q (o :: rest) a := by
  refine q_value hgd (.agg vs.toArray) (fun u hc => ?_) h
  have hl := run_loadAt_mid u b 0 t vs d (hb u hc).1 hu hd hi
  unfold execOp
  simp only [ho, hx, Sem.run_bind, hl, Result.andThen_ok, Sem.run_pure]
/-- guarded operations of a quiet walk -/
theorem qg_value {C : World → Prop} {Q : Act → Prop} (hw : Region.wanted o (yielded ops a.tmps) = true) (v : Value) (hr : ∀ u, C u → (execOp a.eval o).run P u = .ok (.value v) u) (h : ∀ K : Act → Prop, (∀ a, wpQuiet P ops C Q rest a → K a) → K (a.put o.dst v)) : wpQuiet P ops C Q (o :: rest) a := by
  refine wpQuiet_step fun K hK => ?_
  rw [if_pos hw]
  refine ⟨v, fun u hu => ?_, h K hK⟩
  unfold Oper.quietAt
  rw [hr u hu]
  exact ⟨rfl, rfl⟩
theorem qg_call {C : World → Prop} {Q : Act → Prop} (hw : Region.wanted o (yielded ops a.tmps) = true) (f : FuncId) (fn : Func) (hf : P.funcs[f]? = some fn) (hnm : (fn.name == "runtime.NumGoroutine") = false) (hbd : fn.body.isNone = false) (xs : Array Operand) (ts : Array TypeId) (ho : o.op = .call { callee := .value (.func f), args := xs, argTypes := ts }) (args : List Value) (hargs : xs.toList.map a.eval = args) (v : Value)
    (hc : ∀ u, C u → Calls P f args.toArray u fun e u' => e = .returned v ∧ C u') (h : ∀ K : Act → Prop, (∀ a, wpQuiet P ops C Q rest a → K a) → K (a.put o.dst v)) : wpQuiet P ops C Q (o :: rest) a := by
  refine wpQuiet_step fun K hK => ?_
  rw [if_pos hw]
  refine ⟨v, fun u hu => ?_, h K hK⟩
  unfold Oper.quietAt
  have hargs' : xs.map a.eval = args.toArray := by rw [← hargs]; apply Array.toList_inj.1; simp
  have hr : (execOp a.eval o).run P u = .ok (.enter f args.toArray) u := by
    unfold execOp
    simp only [ho]
    simp [resolve, Deferred.ofValue, invoke, hargs', Act.eval]
    exact run_enter hf hnm hbd _ u
  rw [hr]
  exact ⟨rfl, hc u hu⟩
theorem qg_blk_load {C : World → Prop} {Q : Act → Prop} (hw : Region.wanted o (yielded ops a.tmps) = true) (t : TypeId) (x : Operand) (ho : o.op = .load t x) (b : Nat) (hx : a.eval x = .pointer (some ⟨b, 0, none⟩)) (vs : List Value) (hb : ∀ u, C u → Blk u b vs)
    (d : TypeDesc) (hu : P.underlying t = some d) (hd : d.isRow = true) (hi : (P.info? t).map (·.size) = some vs.length)
    (h : ∀ K : Act → Prop, (∀ a, wpQuiet P ops C Q rest a → K a) → K (a.put o.dst (.agg vs.toArray))) : wpQuiet P ops C Q (o :: rest) a := by
  refine qg_value hw (.agg vs.toArray) (fun u hc => ?_) h
  have hl := run_loadAt_mid u b 0 t vs d (hb u hc).1 hu hd hi
  unfold execOp
  simp only [ho, hx, Sem.run_bind, hl, Result.andThen_ok, Sem.run_pure]
/-- results, the first of them a struct in memory -/
theorem res_blk1 {fn : Func} {p : Tmp} {t : TypeId} (h : fn.results = #[.cell p t]) (tmps : Array Value) (b : Nat) (hp : tmps.getD p undef = .pointer (some ⟨b, 0, none⟩)) (vs : List Value) (hb : Blk w b vs)
    (d : TypeDesc) (hu : P.underlying t = some d) (hd : d.isRow = true) (hi : (P.info? t).map (·.size) = some vs.length) : (results fn tmps).run P w = .ok (.agg vs.toArray) w := by
  have hl := run_loadVar_mid w b 0 t vs d hb.1 hu hd hi
  simp only [results, h]
  simp [Sem.run_bind, Result.andThen, asAddr, hl] at hp ⊢
  simp [hp, asAddr, hl]
theorem res_blk2 {fn : Func} {p x : Tmp} {t : TypeId} (h : fn.results = #[.cell p t, .tmp x]) (tmps : Array Value) (b : Nat) (hp : tmps.getD p undef = .pointer (some ⟨b, 0, none⟩)) (vs : List Value) (hb : Blk w b vs)
    (d : TypeDesc) (hu : P.underlying t = some d) (hd : d.isRow = true) (hi : (P.info? t).map (·.size) = some vs.length) : (results fn tmps).run P w = .ok (.tuple #[.agg vs.toArray, tmps.getD x undef]) w := by
  have hl := run_loadVar_mid w b 0 t vs d hb.1 hu hd hi
  simp only [results, h]
  simp [Sem.run_bind, Result.andThen, asAddr, hl] at hp ⊢
  simp [hp, asAddr, hl]
theorem res_blk3 {fn : Func} {p x y : Tmp} {t : TypeId} (h : fn.results = #[.cell p t, .tmp x, .tmp y]) (tmps : Array Value) (b : Nat) (hp : tmps.getD p undef = .pointer (some ⟨b, 0, none⟩)) (vs : List Value) (hb : Blk w b vs)
    (d : TypeDesc) (hu : P.underlying t = some d) (hd : d.isRow = true) (hi : (P.info? t).map (·.size) = some vs.length) : (results fn tmps).run P w = .ok (.tuple #[.agg vs.toArray, tmps.getD x undef, tmps.getD y undef]) w := by
  have hl := run_loadVar_mid w b 0 t vs d hb.1 hu hd hi
  simp only [results, h]
  simp [Sem.run_bind, Result.andThen, asAddr, hl] at hp ⊢
  simp [hp, asAddr, hl]
end

end Go.Proofs.Ytkiaehehckmpnaa

namespace Go.Proofs.Ytkiaehehckmpnaa

open Go.RowKit

set_option linter.unusedVariables false

set_option linter.unusedSimpArgs false

/-- a drawn region: what only reads first, the tail in its order; the world behind the draw a letter -/
theorem region_tail {P : Program} {id : Nat} {Q : Exit → Act → World → Prop} {a : Act} {w : World} {l : List Oper} (n : Nat) (hm : P.follows .mixedOrders = true) (hB : Region.lexTailB .any l.toArray n = true)
    (h : wpStill P l.toArray w.drew (fun a' => wpList P l.toArray Q (l.drop n) a' w.drew) (l.take n) a) : (Code.region id l.toArray true).wp P Q a w :=
  wp_region_still_tail n hm hB h
theorem Try.mixed : Try.prog.follows .mixedOrders = true := by kernel_rfl
section

variable {P : Program} {ops : Array Oper} {rest : List Oper} {o : Oper} {a : Act} {C : World → Prop} {Q : Act → Prop}

theorem q_arr_load (hgd : o.guard = none) (k : IntKind) (t : TypeId) (x : Operand) (ho : o.op = .load t x) (b : Nat) (hx : a.eval x = .pointer (some ⟨b, 0, none⟩)) (l : List Nat) (ha : ∀ u, C u → Arr k u b l)
    (n : Nat) (e : TypeId) (hu : P.underlying t = some (.array n e)) (hi : (P.info? t).map (·.size) = some l.length)
    (h : ∀ K : Act → Prop, (∀ a, wpQuiet P ops C Q rest a → K a) → K (a.put o.dst (AV k l))) : wpQuiet P ops C Q (o :: rest) a := by
  refine q_value hgd (AV k l) (fun u hc => ?_) h
  have hl := run_loadAt_mid u b 0 t (ks k l) _ (ha u hc).1 hu rfl (by rw [ks_length]; exact hi)
  unfold execOp
  simp only [ho, hx, Sem.run_bind, hl, Result.andThen_ok, Sem.run_pure]
  rfl
theorem qg_arr_load (hw : Region.wanted o (yielded ops a.tmps) = true) (k : IntKind) (t : TypeId) (x : Operand) (ho : o.op = .load t x) (b : Nat) (hx : a.eval x = .pointer (some ⟨b, 0, none⟩)) (l : List Nat) (ha : ∀ u, C u → Arr k u b l)
    (n : Nat) (e : TypeId) (hu : P.underlying t = some (.array n e)) (hi : (P.info? t).map (·.size) = some l.length)
    (h : ∀ K : Act → Prop, (∀ a, wpQuiet P ops C Q rest a → K a) → K (a.put o.dst (AV k l))) : wpQuiet P ops C Q (o :: rest) a := by
  refine qg_value hw (AV k l) (fun u hc => ?_) h
  have hl := run_loadAt_mid u b 0 t (ks k l) _ (ha u hc).1 hu rfl (by rw [ks_length]; exact hi)
  unfold execOp
  simp only [ho, hx, Sem.run_bind, hl, Result.andThen_ok, Sem.run_pure]
  rfl
/-- two values are compared -/
theorem run_eql (u : World) (r : BinOp) (T t' : TypeId) (x y : Operand) (v1 v2 : Value) (b : Value) (ho : o.op = .binOp r T x y t') (hx : a.eval x = v1) (hy : a.eval y = v2)
    (hg : (eqGuard r T x y v1 v2).run P u = .ok () u) (he : (binOp r T v1 v2).run P u = .ok b u) : (execOp a.eval o).run P u = .ok (.value b) u := by
  unfold execOp
  simp only [ho, hx, hy, Sem.run_bind, hg, he, Result.andThen_ok, Sem.run_pure]
end

section

variable {P : Program} {ops : Array Oper} {rest : List Oper} {o : Oper} {a : Act} {w : World} {Q : Exit → Act → World → Prop}

theorem arr_loadg (hw : Region.wanted o (yielded ops a.tmps) = true) (k : IntKind) (t : TypeId) (x : Operand) (ho : o.op = .load t x) (b : Nat) (hx : a.eval x = .pointer (some ⟨b, 0, none⟩)) (l : List Nat) (ha : Arr k w b l)
    (n : Nat) (e : TypeId) (hu : P.underlying t = some (.array n e)) (hi : (P.info? t).map (·.size) = some l.length)
    (h : wpList P ops Q rest (a.put o.dst (AV k l)) w) : wpList P ops Q (o :: rest) a w :=
  wpList_step fun _ hK => by rw [if_pos hw]; exact wp_load_mid t x ho b 0 hx (ks k l) _ ha.1 hu rfl (by rw [ks_length]; exact hi) (hK _ _ h)
/-- two results: an array and a struct, both in memory -/
theorem res_arr_blk {fn : Func} {p q : Tmp} {t t' : TypeId} (h : fn.results = #[.cell p t, .cell q t']) (tmps : Array Value) (k : IntKind) (b c : Nat) (hp : tmps.getD p undef = .pointer (some ⟨b, 0, none⟩)) (hq : tmps.getD q undef = .pointer (some ⟨c, 0, none⟩))
    (l : List Nat) (ha : Arr k w b l) (n : Nat) (e : TypeId) (hu : P.underlying t = some (.array n e)) (hi : (P.info? t).map (·.size) = some l.length)
    (vs : List Value) (hb : Blk w c vs) (d : TypeDesc) (hu' : P.underlying t' = some d) (hd : d.isRow = true) (hi' : (P.info? t').map (·.size) = some vs.length) : (results fn tmps).run P w = .ok (.tuple #[AV k l, .agg vs.toArray]) w := by
  have h1 := run_loadVar_mid w b 0 t (ks k l) _ ha.1 hu rfl (by rw [ks_length]; exact hi)
  have h2 := run_loadVar_mid w c 0 t' vs d hb.1 hu' hd hi'
  simp only [results, h]
  simp [Sem.run_bind, Result.andThen, asAddr, h1, h2] at hp hq ⊢
  simp [hp, hq, asAddr, h1, h2]
  rfl
end

section

variable {P : Program} {ops : Array Oper} {rest : List Oper} {o : Oper} {a : Act} {w : World} {Q : Exit → Act → World → Prop}

/-- an operation that yields a value and leaves the world -/
theorem val_step (hgd : o.guard = none) (v : Value) (hr : (execOp a.eval o).run P w = .ok (.value v) w) (h : wpList P ops Q rest (a.put o.dst v) w) : wpList P ops Q (o :: rest) a w :=
  wpList_plain hgd fun K hK => by unfold Oper.wp; rw [hr]; exact hK _ _ h
theorem val_stepg (hw : Region.wanted o (yielded ops a.tmps) = true) (v : Value) (hr : (execOp a.eval o).run P w = .ok (.value v) w) (h : wpList P ops Q rest (a.put o.dst v) w) : wpList P ops Q (o :: rest) a w :=
  wpList_step fun K hK => by rw [if_pos hw]; unfold Oper.wp; rw [hr]; exact hK _ _ h
end

theorem q_skip {P : Program} {ops : Array Oper} {rest : List Oper} {o : Oper} {a : Act} {C : World → Prop} {Q : Act → Prop} (j : Nat) (b : Bool) (y : Option Bool) (hg : o.guard = some (j, b)) (hy : yielded ops a.tmps j = y) (hn : (y == some b) = false)
    (h : ∀ K : Act → Prop, (∀ a, wpQuiet P ops C Q rest a → K a) → K (a.put o.dst undef)) : wpQuiet P ops C Q (o :: rest) a :=
  wpQuiet_step fun K hK => by
    have hw : Region.wanted o (yielded ops a.tmps) = false := by
      unfold Region.wanted
      rw [hg]
      show (yielded ops a.tmps j == some b) = false
      rw [hy]
      exact hn
    rw [if_neg (by rw [hw]; decide)]
    exact h K hK
/-- a quiet walk, behind a name that no reckoning opens -/
structure WQ (P : Program) (ops : Array Oper) (C : World → Prop) (Q : Act → Prop) (l : List Oper) (a : Act) : Prop where
  out : wpQuiet P ops C Q l a
section

variable {P : Program} {ops : Array Oper} {rest : List Oper} {o : Oper} {a : Act} {C : World → Prop} {Q : Act → Prop}

theorem WQ.of {X : Act} (L : (∀ K : Act → Prop, (∀ a, wpQuiet P ops C Q rest a → K a) → K X) → wpQuiet P ops C Q (o :: rest) a) (h : ∀ K : Act → Prop, (∀ a, WQ P ops C Q rest a → K a) → K X) : WQ P ops C Q (o :: rest) a :=
  ⟨L fun K hK => h K fun a hw => hK a hw.out⟩
theorem w_nil (h : Q a) : WQ P ops C Q [] a := ⟨wpQuiet_nil h⟩
theorem w_value (hgd : o.guard = none) (v : Value) (hr : ∀ u, C u → (execOp a.eval o).run P u = .ok (.value v) u) (h : ∀ K : Act → Prop, (∀ a, WQ P ops C Q rest a → K a) → K (a.put o.dst v)) : WQ P ops C Q (o :: rest) a := WQ.of (q_value hgd v hr) h
theorem wg_value (hw : Region.wanted o (yielded ops a.tmps) = true) (v : Value) (hr : ∀ u, C u → (execOp a.eval o).run P u = .ok (.value v) u) (h : ∀ K : Act → Prop, (∀ a, WQ P ops C Q rest a → K a) → K (a.put o.dst v)) : WQ P ops C Q (o :: rest) a := WQ.of (qg_value hw v hr) h
theorem w_move (hgd : o.guard = none) (x : Operand) (ho : o.op = .move x) (v : Value) (hx : a.eval x = v) (h : ∀ K : Act → Prop, (∀ a, WQ P ops C Q rest a → K a) → K (a.put o.dst v)) : WQ P ops C Q (o :: rest) a := WQ.of (q_move hgd x ho v hx) h
theorem w_assign (hgd : o.guard = none) (x : Operand) (ho : o.op = .assign x) (v : Value) (hx : a.eval x = v) (h : ∀ K : Act → Prop, (∀ a, WQ P ops C Q rest a → K a) → K (a.put o.dst v)) : WQ P ops C Q (o :: rest) a := WQ.of (q_assign hgd x ho v hx) h
theorem w_call (hgd : o.guard = none) (f : FuncId) (fn : Func) (hf : P.funcs[f]? = some fn) (hnm : (fn.name == "runtime.NumGoroutine") = false) (hbd : fn.body.isNone = false) (xs : Array Operand) (ts : Array TypeId) (ho : o.op = .call { callee := .value (.func f), args := xs, argTypes := ts }) (args : List Value) (hargs : xs.toList.map a.eval = args) (v : Value)
    (hc : ∀ u, C u → Calls P f args.toArray u fun e u' => e = .returned v ∧ C u') (h : ∀ K : Act → Prop, (∀ a, WQ P ops C Q rest a → K a) → K (a.put o.dst v)) : WQ P ops C Q (o :: rest) a := WQ.of (q_call hgd f fn hf hnm hbd xs ts ho args hargs v hc) h
theorem wg_call (hw : Region.wanted o (yielded ops a.tmps) = true) (f : FuncId) (fn : Func) (hf : P.funcs[f]? = some fn) (hnm : (fn.name == "runtime.NumGoroutine") = false) (hbd : fn.body.isNone = false) (xs : Array Operand) (ts : Array TypeId) (ho : o.op = .call { callee := .value (.func f), args := xs, argTypes := ts }) (args : List Value) (hargs : xs.toList.map a.eval = args) (v : Value)
    (hc : ∀ u, C u → Calls P f args.toArray u fun e u' => e = .returned v ∧ C u') (h : ∀ K : Act → Prop, (∀ a, WQ P ops C Q rest a → K a) → K (a.put o.dst v)) : WQ P ops C Q (o :: rest) a := WQ.of (qg_call hw f fn hf hnm hbd xs ts ho args hargs v hc) h
theorem w_arr_load (hgd : o.guard = none) (k : IntKind) (t : TypeId) (x : Operand) (ho : o.op = .load t x) (b : Nat) (hx : a.eval x = .pointer (some ⟨b, 0, none⟩)) (l : List Nat) (ha : ∀ u, C u → Arr k u b l)
    (n : Nat) (e : TypeId) (hu : P.underlying t = some (.array n e)) (hi : (P.info? t).map (·.size) = some l.length)
    (h : ∀ K : Act → Prop, (∀ a, WQ P ops C Q rest a → K a) → K (a.put o.dst (AV k l))) : WQ P ops C Q (o :: rest) a := WQ.of (q_arr_load hgd k t x ho b hx l ha n e hu hi) h
theorem wg_arr_load (hw : Region.wanted o (yielded ops a.tmps) = true) (k : IntKind) (t : TypeId) (x : Operand) (ho : o.op = .load t x) (b : Nat) (hx : a.eval x = .pointer (some ⟨b, 0, none⟩)) (l : List Nat) (ha : ∀ u, C u → Arr k u b l)
    (n : Nat) (e : TypeId) (hu : P.underlying t = some (.array n e)) (hi : (P.info? t).map (·.size) = some l.length)
    (h : ∀ K : Act → Prop, (∀ a, WQ P ops C Q rest a → K a) → K (a.put o.dst (AV k l))) : WQ P ops C Q (o :: rest) a := WQ.of (qg_arr_load hw k t x ho b hx l ha n e hu hi) h
theorem w_blk_load (hgd : o.guard = none) (t : TypeId) (x : Operand) (ho : o.op = .load t x) (b : Nat) (hx : a.eval x = .pointer (some ⟨b, 0, none⟩)) (vs : List Value) (hb : ∀ u, C u → Blk u b vs)
    (d : TypeDesc) (hu : P.underlying t = some d) (hd : d.isRow = true) (hi : (P.info? t).map (·.size) = some vs.length)
    (h : ∀ K : Act → Prop, (∀ a, WQ P ops C Q rest a → K a) → K (a.put o.dst (.agg vs.toArray))) : WQ P ops C Q (o :: rest) a := WQ.of (q_blk_load hgd t x ho b hx vs hb d hu hd hi) h
theorem wg_blk_load (hw : Region.wanted o (yielded ops a.tmps) = true) (t : TypeId) (x : Operand) (ho : o.op = .load t x) (b : Nat) (hx : a.eval x = .pointer (some ⟨b, 0, none⟩)) (vs : List Value) (hb : ∀ u, C u → Blk u b vs)
    (d : TypeDesc) (hu : P.underlying t = some d) (hd : d.isRow = true) (hi : (P.info? t).map (·.size) = some vs.length)
    (h : ∀ K : Act → Prop, (∀ a, WQ P ops C Q rest a → K a) → K (a.put o.dst (.agg vs.toArray))) : WQ P ops C Q (o :: rest) a := WQ.of (qg_blk_load hw t x ho b hx vs hb d hu hd hi) h
theorem w_skip (j : Nat) (b : Bool) (y : Option Bool) (hg : o.guard = some (j, b)) (hy : yielded ops a.tmps j = y) (hn : (y == some b) = false)
    (h : ∀ K : Act → Prop, (∀ a, WQ P ops C Q rest a → K a) → K (a.put o.dst undef)) : WQ P ops C Q (o :: rest) a := WQ.of (q_skip j b y hg hy hn) h
theorem w_concat (hgd : o.guard = none) (t t' : TypeId) (x y : Operand) (ho : o.op = .binOp .add t x y t') (b c : ByteArray) (hx : a.eval x = .string b) (hy : a.eval y = .string c) (hn : b.size + c.size ≤ 9223372036854775807)
    (h : ∀ K : Act → Prop, (∀ a, WQ P ops C Q rest a → K a) → K (a.put o.dst (.string (b ++ c)))) : WQ P ops C Q (o :: rest) a := WQ.of (q_concat hgd t t' x y ho b c hx hy hn) h
/-- a region that draws, in the class of the worlds that only have more memory -/
theorem region_w {id : Nat} {Q : Exit → Act → World → Prop} {a : Act} {w : World} {l : List Oper} (hm : P.follows .mixedOrders = true) (hB : Region.lexB .any l.toArray = true)
    (h : WQ P l.toArray (fun u => Below w.heap.size w u) (fun a' => ∀ u, Below w.heap.size w u → Q .normal a' u) l a) : (Code.region id l.toArray true).wp P Q a w := region_more hm hB h.out
end

theorem Blk.arr {k : IntKind} {w : World} {b : Nat} {l : List Nat} (h : Blk w b (ks k l)) : Arr k w b l := ⟨h.1, by have := h.2; rwa [ks_length] at this⟩
theorem Arr.blk {k : IntKind} {w : World} {b : Nat} {l : List Nat} (h : Arr k w b l) : Blk w b (ks k l) := ⟨h.1, by rw [ks_length]; exact h.2⟩
/-- since w0 only new blocks were made, and of these each listed one holds just what is listed -/
structure Kept (w0 w : World) (L : List (Nat × List Value)) : Prop where
  under : Below w0.heap.size w0 w
  mem : ∀ p ∈ L, Blk w p.1 p.2 ∧ p.1 < w.heap.size
theorem Kept.start (w0 : World) : Kept w0 w0 [] := ⟨Below.refl _ _, fun p hp => by cases hp⟩
theorem Kept.below {w0 w w' : World} {L : List (Nat × List Value)} (h : Kept w0 w L) (hb : Below w.heap.size w w') : Kept w0 w' L :=
  ⟨h.under.trans (hb.mono h.under.size), fun p hp => ⟨(h.mem p hp).1.below hb (h.mem p hp).2, Nat.lt_of_lt_of_le (h.mem p hp).2 hb.size⟩⟩
theorem Kept.get {w0 w : World} {L : List (Nat × List Value)} (h : Kept w0 w L) (i : Nat) {b : Nat} {vs : List Value} (hi : L[i]? = some (b, vs)) : Blk w b vs := (h.mem (b, vs) (List.mem_of_getElem? hi)).1
theorem Kept.arr {w0 w : World} {L : List (Nat × List Value)} (h : Kept w0 w L) (i : Nat) {k : IntKind} {b : Nat} {l : List Nat} (hi : L[i]? = some (b, ks k l)) : Arr k w b l := (h.get i hi).arr
/-- a new block -/
theorem Kept.new {w0 w w' : World} {L : List (Nat × List Value)} {vs : List Value} (h : Kept w0 w L) (hb : Below w.heap.size w w') (hz : w'.heap.size = w.heap.size + 1) (hn : Blk w' w.heap.size vs) : Kept w0 w' ((w.heap.size, vs) :: L) := by
  have h' := h.below hb
  refine ⟨h'.under, fun p hp => ?_⟩
  rcases List.mem_cons.1 hp with rfl | hp
  · exact ⟨hn, by omega⟩
  · exact h'.mem p hp
/-- a new block, and what is stored there at once -/
theorem Kept.fresh {w0 w w1 w2 : World} {L : List (Nat × List Value)} {vs : List Value} (h : Kept w0 w L) (hb : Below w.heap.size w w1) (hz : w1.heap.size = w.heap.size + 1) (hu : Upd w.heap.size w1 w2) (hn : Blk w2 w.heap.size vs) : Kept w0 w2 ((w.heap.size, vs) :: L) :=
  h.new (hb.trans (hu.below (Nat.le_refl _))) (by rw [hu.size, hz]) hn
/-- two new blocks, and what is stored there at once -/
theorem Kept.pair {w0 w w1 w2 w3 : World} {L : List (Nat × List Value)} {us vs : List Value} (h : Kept w0 w L) (hb : Below w.heap.size w w1) (hz : w1.heap.size = w.heap.size + 1 + 1) (hu : Upd w.heap.size w1 w2) (hv : Upd (w.heap.size + 1) w2 w3)
    (h1 : Blk w3 w.heap.size us) (h2 : Blk w3 (w.heap.size + 1) vs) : Kept w0 w3 ((w.heap.size + 1, vs) :: (w.heap.size, us) :: L) := by
  have hB : Below w.heap.size w w3 := (hb.trans (hu.below (Nat.le_refl _))).trans (hv.below (by omega))
  have h' := h.below hB
  have hs : w3.heap.size = w.heap.size + 2 := by rw [hv.size, hu.size, hz]
  refine ⟨h'.under, fun p hp => ?_⟩
  rcases List.mem_cons.1 hp with rfl | hp
  · exact ⟨h2, by show _ < _; omega⟩
  · rcases List.mem_cons.1 hp with rfl | hp
    · exact ⟨h1, by show _ < _; omega⟩
    · exact h'.mem p hp
/-- a store into the block that was made last -/
theorem Kept.upd {w0 w w' : World} {b : Nat} {vs us : List Value} {L : List (Nat × List Value)} (h : Kept w0 w ((b, vs) :: L)) (hB : w0.heap.size ≤ b) (hd : ∀ p ∈ L, p.1 ≠ b) (hu : Upd b w w') (hn : Blk w' b us) : Kept w0 w' ((b, us) :: L) := by
  refine ⟨h.under.trans (hu.below hB), fun p hp => ?_⟩
  rcases List.mem_cons.1 hp with rfl | hp
  · exact ⟨hn, by rw [hu.size]; exact (h.mem (b, vs) (List.mem_cons_self ..)).2⟩
  · have := h.mem p (List.mem_cons_of_mem _ hp)
    exact ⟨this.1.upd hu (hd p hp), by rw [hu.size]; exact this.2⟩
theorem eqItems_ints {P : Program} (w : World) (d : Nat) (k : IntKind) {e : TypeId} (he : P.plainKey e = true) (hu : P.underlying e = some (.int k)) (l1 l2 : List Nat) : ∀ is : List Nat, (∀ i ∈ is, i < l1.length ∧ i < l2.length) →
    (Op.eqItems (d + 1) e 1 (ks k l1).toArray (ks k l2).toArray is).run P w = .ok (decide (∀ i ∈ is, l1.getD i 0 = l2.getD i 0)) w
  | [], _ => by simp [Op.eqItems]
  | i :: is, h => by
    have hi := h i (by simp)
    have c1 : (ks k l1).toArray[i * 1]? = some (.int k ((l1.getD i 0 : Nat) : Int)) := by simp [ks, hi.1]
    have c2 : (ks k l2).toArray[i * 1]? = some (.int k ((l2.getD i 0 : Nat) : Int)) := by simp [ks, hi.2]
    have ih := eqItems_ints w d k he hu l1 l2 is (fun j hj => h j (by simp [hj]))
    have e3 : (Op.equalIn (d + 1) e (.int k ((l1.getD i 0 : Nat) : Int)) (.int k ((l2.getD i 0 : Nat) : Int))).run P w = .ok (((l1.getD i 0 : Nat) : Int) == ((l2.getD i 0 : Nat) : Int)) w := by
      simp [Op.equalIn, run_underlying hu]
    simp only [Op.eqItems, Sem.run_bind, run_part_plain w he c1, run_part_plain w he c2, e3, Result.andThen_ok]
    by_cases hq : l1.getD i 0 = l2.getD i 0
    · have hb : (((l1.getD i 0 : Nat) : Int) == ((l2.getD i 0 : Nat) : Int)) = true := by rw [beq_iff_eq, hq]
      rw [hb]
      simp only [Bool.not_true, Bool.false_eq_true, if_false]
      rw [ih]
      congr 1
      apply decide_eq_decide.2
      simp only [List.mem_cons, forall_eq_or_imp]
      exact ⟨fun h => ⟨hq, h⟩, fun h => h.2⟩
    · have hb : (((l1.getD i 0 : Nat) : Int) == ((l2.getD i 0 : Nat) : Int)) = false := by rw [beq_eq_false_iff_ne]; omega
      rw [hb]
      simp only [Bool.not_false, if_true, Sem.run_pure]
      congr 1
      symm
      rw [decide_eq_false_iff_not]
      exact fun h => hq (h i (by simp))
end Go.Proofs.Ytkiaehehckmpnaa
