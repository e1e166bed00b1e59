/- Arrays of numbers, boxed: the laws that the walks use. -/
import Derived.Test.YtlodahlinncpcaaDoorShaWord
import Derived.Deep.MidRow
import Derived.Deep.WholeRow
import Derived.Laws.ResultCell
namespace Go.Proofs.YtlodahlinncpcaaDoor
open Go.RowKit
set_option linter.unusedVariables false
set_option linter.unusedSimpArgs false

/-- a list of numbers as cells -/
def ks (k : IntKind) (l : List Nat) : List Value := l.map fun (x : Nat) => Value.int k (x : Int)
theorem ks_length (k : IntKind) (l : List Nat) : (ks k l).length = l.length := by simp [ks]
theorem ks_set (k : IntKind) (l : List Nat) (j x : Nat) : ks k (l.set j x) = (ks k l).set j (.int k (x : Int)) := by simp [ks, List.map_set]
theorem ks_one (k : IntKind) (l : List Nat) : (ks k l).toArray.all (·.oneCell') = true :=
  all_oneCell_toArray (fun v hv => by obtain ⟨x, _, rfl⟩ := List.mem_map.1 hv; rfl)
/-- an array's value -/
def AV (k : IntKind) (l : List Nat) : Value := .agg (ks k l).toArray
/-- block b holds just these numbers, and may be written -/
def Arr (k : IntKind) (w : World) (b : Nat) (l : List Nat) : Prop := w.rangeAt b 0 (ks k l) ∧ w.there b 0 l.length
theorem Arr.cell {k : IntKind} {w : World} {b : Nat} {l : List Nat} (h : Arr k w b l) (i : Nat) (hi : i < l.length) : w.cell? ⟨b, i, none⟩ = some (.int k ((l.getD i 0 : Nat) : Int)) := by
  have := h.1 i (.int k (l.getD i 0 : Nat)) (by simp [ks, hi])
  rwa [Nat.zero_add] at this
theorem Arr.free {k : IntKind} {w : World} {b : Nat} {l : List Nat} (h : Arr k w b l) (i : Nat) (hi : i < l.length) : w.frozen? ⟨b, i, none⟩ = false := by
  have := (h.2 i hi).2
  rwa [Nat.zero_add] at this
theorem Arr.below {k : IntKind} {w w' : World} {b B : Nat} {l : List Nat} (h : Arr k w b l) (hb : Below B w w') (hB : b < B) : Arr k w' b l :=
  ⟨fun j v hv => by rw [hb.cell (p := ⟨b, 0 + j, none⟩) hB]; exact h.1 j v hv, fun j hj => by
    rw [hb.cell (p := ⟨b, 0 + j, none⟩) hB, hb.frozen (p := ⟨b, 0 + j, none⟩) hB]; exact h.2 j hj⟩
theorem Arr.drew {k : IntKind} {w : World} {b : Nat} {l : List Nat} (h : Arr k w b l) : Arr k w.drew b l := ⟨by simpa using h.1, by simpa using h.2⟩
theorem Arr.alloc {k : IntKind} {w : World} {b : Nat} {l : List Nat} (h : Arr k w b l) (o : Obj) : Arr k (w.alloc o) b l := ⟨World.rangeAt_alloc h.1 o, World.there_alloc h.2 o⟩
theorem Arr.set {k : IntKind} {w : World} {b : Nat} {l : List Nat} (h : Arr k w b l) (i x : Nat) (hi : i < l.length) : Arr k (w.setCell ⟨b, i, none⟩ (.int k (x : Int))) b (l.set i x) := by
  have c := h.cell i hi
  refine ⟨fun j v hv => ?_, fun j hj => ?_⟩
  · rw [ks_set] at hv
    rw [Nat.zero_add]
    by_cases e : i = j
    · subst e
      rw [List.getElem?_set_self (by rw [ks_length]; exact hi)] at hv
      rw [← Option.some.inj hv]
      exact World.cell?_setCell_same _ _ _ c
    · rw [List.getElem?_set_ne e] at hv
      rw [World.cell?_setCell_other _ _ _ _ (by simp [e])]
      simpa using h.1 j v hv
  · rw [List.length_set] at hj
    obtain ⟨h1, h2⟩ := h.2 j hj
    exact ⟨World.isSome_setCells b [.int k (x : Int)] i w _ h1, by simpa using h2⟩
theorem Arr.new (k : IntKind) (w : World) (l : List Nat) (t : TypeId) : Arr k (w.alloc (.cells (ks k l).toArray t)) w.heap.size l := by
  have hb : (w.alloc (.cells (ks k l).toArray t)).heap[w.heap.size]? = some (.cells (ks k l).toArray t) := heap_alloc_last w _
  have hc : ∀ j v, (ks k l)[j]? = some v → (w.alloc (.cells (ks k l).toArray t)).cell? ⟨w.heap.size, 0 + j, none⟩ = some v := fun j v hv => by
    rw [cell_of_row _ _ (0 + j) _ t (0, 0) hb, Nat.zero_add]
    simpa using hv
  refine ⟨hc, fun j hj => ⟨?_, ?_⟩⟩
  · obtain ⟨v, hv⟩ : ∃ v, (ks k l)[j]? = some v := ⟨_, List.getElem?_eq_getElem (by rw [ks_length]; exact hj)⟩
    rw [hc j v hv]; rfl
  · simp [go_sem]
/-- only block b has turned -/
structure Upd (b : Nat) (w w' : World) : Prop where
  os : w'.os = w.os
  tape : w'.tape = w.tape
  output : w'.output = w.output
  size : w'.heap.size = w.heap.size
  far : ∀ k, k ≠ b → w'.heap[k]? = w.heap[k]?
theorem Upd.refl (b : Nat) (w : World) : Upd b w w := ⟨rfl, rfl, rfl, rfl, fun _ _ => rfl⟩
theorem Upd.trans {b : Nat} {u v w : World} (h : Upd b u v) (k : Upd b v w) : Upd b u w := ⟨k.os.trans h.os, k.tape.trans h.tape, k.output.trans h.output, k.size.trans h.size, fun i hi => (k.far i hi).trans (h.far i hi)⟩
theorem Upd.setCell (w : World) (b i : Nat) (v : Value) : Upd b w (w.setCell ⟨b, i, none⟩ v) :=
  ⟨rfl, rfl, rfl, by simp [World.setCell], fun k hk => Below.heap_setCell w ⟨b, i, none⟩ v k hk⟩
theorem Upd.setCells (b : Nat) : ∀ (vs : List Value) (o : Nat) (w : World), Upd b w (w.setCells b o vs)
  | [], _, w => Upd.refl b w
  | v :: r, o, w => (Upd.setCell w b o v).trans (Upd.setCells b r (o + 1) _)
theorem Upd.below {b B : Nat} {w w' : World} (h : Upd b w w') (hB : B ≤ b) : Below B w w' :=
  ⟨h.os, h.tape, h.output, Nat.le_of_eq h.size.symm, fun k hk => h.far k (by omega)⟩
theorem Arr.upd {k : IntKind} {w w' : World} {b c : Nat} {l : List Nat} (h : Arr k w c l) (hu : Upd b w w') (hc : c ≠ b) : Arr k w' c l :=
  ⟨fun j v hv => by rw [World.cell?_of_block (w := w) (hu.far c hc)]; exact h.1 j v hv, fun j hj => by
    rw [World.cell?_of_block (w := w) (hu.far c hc), World.frozen?_of_block (w := w) (hu.far c hc)]; exact h.2 j hj⟩
theorem Arr.store {k : IntKind} {w : World} {b : Nat} {l : List Nat} (h : Arr k w b l) (l' : List Nat) (hl : l'.length = l.length) : Arr k (w.setCells b 0 (ks k l')) b l' :=
  ⟨World.rangeAt_setCells_same w b 0 _ (by rw [ks_length, hl]; exact h.2), by rw [hl]; exact World.there_setCells h.2 b 0 _⟩

section
variable {P : Program} {ops : Array Oper} {rest : List Oper} {o : Oper} {a : Act} {w : World} {Q : Exit → Act → World → Prop}
theorem arr_alloc (hgd : o.guard = none) (k : IntKind) (t : TypeId) (n : Nat) (ho : o.op = .alloc t) (hz : (P.info? t).map (fun i => (i.zero, i.size)) = some (some (AV k (List.replicate n 0)), n))
    (h : ∀ w', Arr k w' w.heap.size (List.replicate n 0) → Below w.heap.size w w' → w'.heap.size = w.heap.size + 1 → wpList P ops Q rest (a.put o.dst (.pointer (some ⟨w.heap.size, 0, none⟩))) w') : wpList P ops Q (o :: rest) a w := by
  refine wpList_plain hgd fun K hK => ?_
  unfold Oper.wp execOp
  simp only [ho, Sem.run_bind, Instr.alloc, (zero_of_info hz).1, newVar, newRow, run_newObj_alloc, Sem.run_pure, Result.andThen_ok]
  exact hK _ _ (h _ (Arr.new k w _ t) ((Below.refl _ _).alloc (Nat.le_refl _) _) (by show (w.heap.push _).size = _; simp))
theorem arr_box (hgd : o.guard = none) (k : IntKind) (t : TypeId) (x : Operand) (ho : o.op = .box t x) (l : List Nat) (hx : a.eval x = AV k l)
    (h : ∀ w', Arr k w' w.heap.size l → Below w.heap.size w w' → w'.heap.size = w.heap.size + 1 → wpList P ops Q rest (a.put o.dst (.pointer (some ⟨w.heap.size, 0, none⟩))) w') : wpList P ops Q (o :: rest) a w := by
  refine wpList_plain hgd fun K hK => ?_
  unfold Oper.wp execOp
  simp only [ho, hx, Sem.run_bind, Instr.box, newVar, newRow, run_newObj_alloc, Sem.run_pure, Result.andThen_ok]
  exact hK _ _ (h _ (Arr.new k w _ t) ((Below.refl _ _).alloc (Nat.le_refl _) _) (by show (w.heap.push _).size = _; simp))
theorem arr_load (hgd : o.guard = none) (k : IntKind) (t : TypeId) (x : Operand) (ho : o.op = .load t x) (b : Nat) (hx : a.eval x = .pointer (some ⟨b, 0, none⟩)) (l : List Nat) (ha : Arr k w b l)
    (n : Nat) (e : TypeId) (hu : P.underlying t = some (.array n e)) (hi : (P.info? t).map (·.size) = some l.length)
    (h : wpList P ops Q rest (a.put o.dst (AV k l)) w) : wpList P ops Q (o :: rest) a w :=
  wpList_load_mid hgd t x ho b 0 hx (ks k l) _ ha.1 hu rfl (by rw [ks_length]; exact hi) h
theorem arr_store (hgd : o.guard = none) (k : IntKind) (t : TypeId) (x y : Operand) (ho : o.op = .store t x y) (b : Nat) (hx : a.eval x = .pointer (some ⟨b, 0, none⟩)) (l' : List Nat) (hy : a.eval y = AV k l')
    (l : List Nat) (ha : Arr k w b l) (hl : l'.length = l.length) (hi : (P.info? t).map (·.size) = some l'.length)
    (h : ∀ w', Arr k w' b l' → Upd b w w' → wpList P ops Q rest (a.put o.dst undef) w') : wpList P ops Q (o :: rest) a w :=
  wpList_store_mid hgd t x y ho b 0 _ hx hy (by rw [List.size_toArray, ks_length, hl]; exact ha.2) (by rw [List.size_toArray, ks_length]; exact hi) (ks_one k l') (h _ (ha.store l' hl) (Upd.setCells b _ 0 w))
theorem res_arr {fn : Func} {p : Tmp} {t : TypeId} (h : fn.results = #[.cell p t]) (tmps : Array Value) (k : IntKind) (b : Nat) (hp : tmps.getD p undef = .pointer (some ⟨b, 0, none⟩)) (l : List Nat) (ha : Arr k w b l)
    (n : Nat) (e : TypeId) (hu : P.underlying t = some (.array n e)) (hi : (P.info? t).map (·.size) = some l.length) : (results fn tmps).run P w = .ok (AV k l) w := by
  have hl := run_loadVar_mid w b 0 t (ks k l) _ ha.1 hu rfl (by rw [ks_length]; exact hi)
  simp only [results, h]
  simp [Sem.run_bind, Result.andThen, asAddr, hl] at hp ⊢
  simp [hp, asAddr, hl]
  rfl
theorem res_arr2 {fn : Func} {p u : Tmp} {t : TypeId} (h : fn.results = #[.cell p t, .tmp u]) (tmps : Array Value) (k : IntKind) (b : Nat) (hp : tmps.getD p undef = .pointer (some ⟨b, 0, none⟩)) (l : List Nat) (ha : Arr k w b l)
    (n : Nat) (e : TypeId) (hu : P.underlying t = some (.array n e)) (hi : (P.info? t).map (·.size) = some l.length) : (results fn tmps).run P w = .ok (.tuple #[AV k l, tmps.getD u undef]) w := by
  have hl := run_loadVar_mid w b 0 t (ks k l) _ ha.1 hu rfl (by rw [ks_length]; exact hi)
  rw [results_cell_tmp h, hp]
  simp [asAddr, hl]
  rfl
end
end Go.Proofs.YtlodahlinncpcaaDoor
