/- Within a fence (a range over a function): structs in memory. -/
import Derived.Test.YtohcdonmdnjgoaaChainObj

import Derived.RangeFuncNested

import Derived.RangeFuncBound

import Derived.RangeFuncCalls

import Derived.RangeFuncLeaves

import Derived.Shelf.Abstract

import Derived.Shelf.RegionOpen

import Derived.WalkKit

import Derived.OwnWalkIn

import Derived.TacticsInMore

import Derived.LoopNIn

import Derived.LoopIn

namespace Go.Proofs.Ytohcdonmdnjgoaa.Fn

open Go.RowKit Go.Proofs.Ytohcdonmdnjgoaa.Vc Go.Proofs.Ytohcdonmdnjgoaa.Sp Go.Proofs.Ytohcdonmdnjgoaa.Rw Go.Proofs.Ytohcdonmdnjgoaa.Ch

set_option linter.unusedVariables false

set_option linter.unusedSimpArgs false

section

variable {F : Fence} {n : Nat} {P : Program} {ops : Array Oper} {rest : List Oper} {o : Oper} {a : Act} {w : World} {Q : Exit → Act → World → Prop}

theorem in_value (hgd : o.guard = none) (hab : o.about P w a.eval = none) (hnd : ∀ c, o.op ≠ .defer c) {v : Value} {w' : World} (hr : (execOp a.eval o).run P w = .ok (.value v) w') (h : wpListIn F n P ops Q rest (a.put o.dst v) w') : wpListIn F n P ops Q (o :: rest) a w := by
  refine wpListIn_plain hgd fun K hK => ?_
  unfold Oper.wpIn
  refine ⟨fun f hf => (by rw [hab] at hf; cases hf), ?_⟩
  rw [Oper.semAt_plain F _ _ hnd, hr]
  exact hK _ _ h
theorem in_skip (hgd : o.guard = none) (hab : o.about P w a.eval = none) (hnd : ∀ c, o.op ≠ .defer c) {w' : World} (hr : (execOp a.eval o).run P w = .ok .skip w') (h : wpListIn F n P ops Q rest (a.put o.dst undef) w') : wpListIn F n P ops Q (o :: rest) a w := by
  refine wpListIn_plain hgd fun K hK => ?_
  unfold Oper.wpIn
  refine ⟨fun f hf => (by rw [hab] at hf; cases hf), ?_⟩
  rw [Oper.semAt_plain F _ _ hnd, hr]
  exact hK _ _ h
theorem in_mid_load (hgd : o.guard = none) (t : TypeId) (x : Operand) (ho : o.op = .load t x) (b p : Nat) (hx : a.eval x = .pointer (some ⟨b, p, none⟩)) (vs : List Value) (hb : w.rangeAt b p vs)
    (d : TypeDesc) (hu : P.underlying t = some d) (hd : d.isRow = true) (hi : (P.info? t).map (·.size) = some vs.length)
    (h : wpListIn F n P ops Q rest (a.put o.dst (.agg vs.toArray)) w) : wpListIn F n P ops Q (o :: rest) a w := by
  refine in_value hgd (by simp [Oper.about, ho]) (by rw [ho]; intro c hc; cases hc) ?_ h
  have hl := run_loadAt_mid w b p t vs d hb hu hd hi
  unfold execOp
  simp only [ho, hx, Sem.run_bind, hl, Result.andThen_ok, Sem.run_pure]
theorem in_blk_store (hgd : o.guard = none) (t : TypeId) (x y : Operand) (ho : o.op = .store t x y) (b : Nat) (hx : a.eval x = .pointer (some ⟨b, 0, none⟩)) (us : List Value) (hy : a.eval y = .agg us.toArray)
    (vs : List Value) (hb : Blk w b vs) (hl : us.length = vs.length) (hi : (P.info? t).map (·.size) = some us.length) (h1 : us.all (fun v => v.oneCell') = true)
    (h : ∀ w', Blk w' b us → Upd b w w' → wpListIn F n P ops Q rest (a.put o.dst undef) w') : wpListIn F n P ops Q (o :: rest) a w := by
  refine in_skip hgd (by simp [Oper.about, ho]) (by rw [ho]; intro c hc; cases hc) ?_ (h _ (hb.store us hl) (Upd.setCells b _ 0 w))
  have hst := run_storeVar_mid w b 0 t us.toArray (by rw [List.size_toArray, hl]; exact hb.2) (by rw [List.size_toArray]; exact hi) (all_oneCell_toArray (fun v hv => List.all_eq_true.1 h1 v hv))
  unfold execOp
  simp only [ho, hx, hy, Instr.storeAt, Instr.sureAddr, Sem.run_bind, Sem.run_pure, Result.andThen_ok, hst]
theorem in_blk_alloc (hgd : o.guard = none) (t : TypeId) (vs : List Value) (ho : o.op = .alloc t) (hz : (P.info? t).map (fun i => (i.zero, i.size)) = some (some (.agg vs.toArray), vs.length))
    (h : ∀ w', Blk w' w.heap.size vs → Below w.heap.size w w' → w'.heap.size = w.heap.size + 1 → wpListIn F n P ops Q rest (a.put o.dst (.pointer (some ⟨w.heap.size, 0, none⟩))) w') : wpListIn F n P ops Q (o :: rest) a w := by
  refine in_value (w' := w.alloc (.cells vs.toArray t)) hgd (by simp [Oper.about, ho]) (by rw [ho]; intro c hc; cases hc) ?_ (h _ (Blk.of_row (heap_alloc_last w _)) ((Below.refl _ _).alloc (Nat.le_refl _) _) (by show (w.heap.push _).size = _; simp))
  unfold execOp
  simp only [ho, Sem.run_bind, Instr.alloc, (zero_of_info hz).1, newVar, newRow, run_newObj_alloc, Sem.run_pure, Result.andThen_ok]
  rfl
theorem in_blk_box (hgd : o.guard = none) (t : TypeId) (x : Operand) (ho : o.op = .box t x) (vs : List Value) (hx : a.eval x = .agg vs.toArray)
    (h : ∀ w', Blk w' w.heap.size vs → Below w.heap.size w w' → w'.heap.size = w.heap.size + 1 → wpListIn F n P ops Q rest (a.put o.dst (.pointer (some ⟨w.heap.size, 0, none⟩))) w') : wpListIn F n P ops Q (o :: rest) a w := by
  refine in_value (w' := w.alloc (.cells vs.toArray t)) hgd (by simp [Oper.about, ho]) (by rw [ho]; intro c hc; cases hc) ?_ (h _ (Blk.of_row (heap_alloc_last w _)) ((Below.refl _ _).alloc (Nat.le_refl _) _) (by show (w.heap.push _).size = _; simp))
  unfold execOp
  simp only [ho, hx, Sem.run_bind, Instr.box, newVar, newRow, run_newObj_alloc, Sem.run_pure, Result.andThen_ok]
  rfl
end

/-- a block of cells is the caller's own -/
theorem blk_own {W W' : World} {row : Option Nat} {b : Nat} {v : Value} {vs : List Value} (h : Blk W b (v :: vs)) (hg : W.grownBy W' row) (hr : ∀ r, row = some r → ∃ o : Obj, W.heap[r]? = some o ∧ o.isCells = false) : Blk W' b (v :: vs) := by
  have hlt : b < W.heap.size := blk_lt h
  have hne : some b ≠ row := fun e => by
    obtain ⟨o, ho, hc⟩ := hr b e.symm
    obtain ⟨o', ho', hc'⟩ := cells_of_cell (h.cell 0 v rfl)
    rw [show (⟨b, 0, none⟩ : Addr).block = b from rfl, ho] at ho'
    rw [Option.some.inj ho', hc'] at hc
    cases hc
  have hb := hg.block b hlt hne
  exact ⟨fun j x hx => by rw [World.cell?_of_block (w := W) hb]; exact h.1 j x hx, fun j hj => by
    rw [World.cell?_of_block (w := W) hb, World.frozen?_of_block (w := W) hb]; exact h.2 j hj⟩
theorem keeps_below {W W' : World} (B : Nat) (h : Below W.heap.size W W') : KeepsFrom B W W' := ⟨h.size, fun k o _ hk ho => by rw [h.block k (Array.getElem?_eq_some_iff.1 hk).1]; exact hk⟩
theorem keeps_upd {W W' : World} {B b : Nat} (hb : b < B) (h : Upd b W W') : KeepsFrom B W W' := ⟨Nat.le_of_eq h.size.symm, fun k o hB hk ho => by rw [h.far k (by omega)]; exact hk⟩
theorem blk_put {W : World} {D b : Nat} {vs : List Value} {o o' : Obj} {v : Value} (h : Blk W b (v :: vs)) (hD : W.heap[D]? = some o) (hc : o.isCells = false) : Blk (W.putObj D o') b (v :: vs) :=
  blk_own h (grownBy_putObj' W D o') (fun r e => by cases e; exact ⟨_, hD, hc⟩)
/-- results: a struct and a truth, both in memory -/
theorem res_sb {P : Program} {w : World} {fn : Func} {p q : Tmp} {t t' : TypeId} (h : fn.results = #[.cell p t, .cell q t']) (tmps : Array Value) (b c : Nat) (hp : tmps.getD p undef = .pointer (some ⟨b, 0, none⟩)) (hq : tmps.getD q undef = .pointer (some ⟨c, 0, none⟩))
    (us : List Value) (ha : Blk w b us) (d1 : TypeDesc) (hu : P.underlying t = some d1) (hd1 : d1.isRow = true) (hi : (P.info? t).map (·.size) = some us.length)
    (v : Value) (hv : (loadVar t' ⟨c, 0, none⟩).run P w = .ok v w) : (results fn tmps).run P w = .ok (.tuple #[.agg us.toArray, v]) w := by
  have h1 := run_loadVar_mid w b 0 t us d1 ha.1 hu hd1 hi
  simp only [results, h]
  simp [Sem.run_bind, Result.andThen, asAddr, h1, hv] at hp hq ⊢
  simp [hp, hq, asAddr, h1, hv]
end Go.Proofs.Ytohcdonmdnjgoaa.Fn
