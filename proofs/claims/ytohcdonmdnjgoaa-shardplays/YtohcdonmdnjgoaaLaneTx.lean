/- A lane of transactions: what each call tells, and what is in the lane behind it. -/
import Derived.Test.YtohcdonmdnjgoaaLaneBase

import Derived.Test.YtohcdonmdnjgoaaWtOf

import Derived.Laws.IdiomRangeMap

import Derived.Maps.RangeRun

namespace Go.Proofs.Ytohcdonmdnjgoaa.Tx

open Go.Conc Go.RowKit Go.Proofs.Ytohcdonmdnjgoaa.It

set_option linter.unusedVariables false

set_option linter.unusedSimpArgs false

theorem bytesE : ∃ i, Try.prog.info? 51 = some i ∧ i.bytes = 64 := by
  have h : (Try.prog.info? 51).map (·.bytes) = some 64 := by kernel_rfl
  obtain ⟨i, hi, hb⟩ := Option.map_eq_some_iff.1 h
  exact ⟨i, hi, hb⟩
theorem mk (w : World) (n : Nat) (hn : n ≤ 16) : (Instr.makeChan 131 (.int .i64 (n : Int))).run Try.prog w = .ok (.chan (some w.heap.size)) (w.alloc (.chan n #[] false 0 0 false)) := by
  obtain ⟨i, hi, hb⟩ := bytesE
  simpa using run_makeChan (P := Try.prog) (w := w) Try.underlying131 hi .i64 n (by omega) (by rw [hb]; omega)
theorem zero_tx (w : World) : (zeroValue 51).run Try.prog w = .ok (.agg #[.int .u64 0, .int .u64 0, .int .u64 0, .int .u64 0, .int .i64 0, .slice none 0 0]) w := (zero_of_info Try.info_itx).1 w
section

variable {P : Program} {o : Oper} {a : Act} {w : World} {K : Act → World → Prop} 

theorem wp_blk_box (t : TypeId) (x : Operand) (ho : o.op = .box t x) (vs : List Value) (hx : a.eval x = .agg vs.toArray)
    (h : ∀ w', Blk w' w.heap.size vs → Below w.heap.size w w' → w'.heap.size = w.heap.size + 1 → K (a.put o.dst (.pointer (some ⟨w.heap.size, 0, none⟩))) w') : uponK o a K ((execOp a.eval o).run P w) := by
  unfold execOp
  simp only [ho, hx, Sem.run_bind, Instr.box, newVar, newRow, run_newObj_alloc, Sem.run_pure, Result.andThen_ok]
  exact h _ (Blk.of_row (heap_alloc_last w _)) ((Below.refl _ _).alloc (Nat.le_refl _) _) (by show (w.heap.push _).size = _; simp)
theorem wp_blk_alloc (t : TypeId) (vs : List Value) (ho : o.op = .alloc t) (hz : (P.info? t).map (fun i => (i.zero, i.size)) = some (some (.agg vs.toArray), vs.length))
    (h : ∀ w', Blk w' w.heap.size vs → Below w.heap.size w w' → w'.heap.size = w.heap.size + 1 → K (a.put o.dst (.pointer (some ⟨w.heap.size, 0, none⟩))) w') : uponK o a K ((execOp a.eval o).run P w) := by
  unfold execOp
  simp only [ho, Sem.run_bind, Instr.alloc, (zero_of_info hz).1, newVar, newRow, run_newObj_alloc, Sem.run_pure, Result.andThen_ok]
  exact h _ (Blk.of_row (heap_alloc_last w _)) ((Below.refl _ _).alloc (Nat.le_refl _) _) (by show (w.heap.push _).size = _; simp)
theorem wp_blk_store (t : TypeId) (x y : Operand) (ho : o.op = .store t x y) (b : Nat) (hx : a.eval x = .pointer (some ⟨b, 0, none⟩)) (us : List Value) (hy : a.eval y = .agg us.toArray)
    (vs : List Value) (hb : Blk w b vs) (hl : us.length = vs.length) (hi : (P.info? t).map (·.size) = some us.length) (h1 : us.all (fun v => v.oneCell') = true)
    (h : ∀ w', Blk w' b us → Upd b w w' → K (a.put o.dst undef) w') : uponK o a K ((execOp a.eval o).run P w) := by
  unfold execOp
  simp only [ho, hx, hy, Instr.storeAt, Instr.sureAddr, Sem.run_bind, Sem.run_pure, Result.andThen_ok, run_storeVar_mid w b 0 t us.toArray (by rw [List.size_toArray, hl]; exact hb.2) (by rw [List.size_toArray]; exact hi) (all_oneCell_toArray (fun v hv => List.all_eq_true.1 h1 v hv))]
  exact h _ (hb.store us hl) (Upd.setCells b _ 0 w)
theorem wp_blk_load (t : TypeId) (x : Operand) (ho : o.op = .load t x) (b : Nat) (hx : a.eval x = .pointer (some ⟨b, 0, none⟩)) (vs : List Value) (hb : Blk w b vs)
    (d : TypeDesc) (hu : P.underlying t = some d) (hd : d.isRow = true) (hi : (P.info? t).map (·.size) = some vs.length)
    (h : K (a.put o.dst (.agg vs.toArray)) w) : uponK o a K ((execOp a.eval o).run P w) := by
  have hl := run_loadAt_mid w b 0 t vs d hb.1 hu hd hi
  unfold execOp
  simp only [ho, hx, Sem.run_bind, hl, Result.andThen_ok, Sem.run_pure]
  exact h
end

set_option maxRecDepth 100000 in
theorem put_room (b c cap s r : Nat) (q : Array Value) (x0 x1 x2 x3 x4 x5 : Value) (w : World) (h1 : w.cell? ⟨b, 0, none⟩ = some (.chan (some c))) (h2 : w.heap[c]? = some (.chan cap q false s r false)) (hr : q.size < cap) :
    Calls Try.prog 51 #[.pointer (some ⟨b, 0, none⟩), .agg #[x0, x1, x2, x3, x4, x5]] w fun e w' => e = .returned (.bool true) ∧ ∃ u, Below w.heap.size w u ∧ w' = u.setChan c cap (q.push (.agg #[x0, x1, x2, x3, x4, x5])) false (s + 1) r false := by
  refine calls_of_loneTo (fun cs => ?_) (by rintro _ ⟨h, _⟩; cases h)
  have e : Frame.enter Try.prog 51 #[.pointer (some ⟨b, 0, none⟩), .agg #[x0, x1, x2, x3, x4, x5]] .normal = (base 51).at ⟨#[.pointer (some ⟨b, 0, none⟩), .agg #[x0, x1, x2, x3, x4, x5], undef, undef, undef, undef, undef, undef, undef, undef, undef, undef, undef], []⟩ [.code (Try.f51.body.getD .skip)] := by
    simp [Frame.enter, Frame.at, Try.func51, base, Try.f51]
  rw [e]
  refine LoneTo.goes (n := 18) ?_
  simp only [Try.f51, Option.getD_some]
  s_c stepG_seq
  s_reg
  s_in
  refine goes_oper_k rfl rfl (by decide) (fun K hK => ?_)
  refine wp_blk_box 51 _ rfl [x0, x1, x2, x3, x4, x5] rfl ?_
  intro w1 A1 B1 Z1
  go_simp
  refine hK _ _ ⟨trivial, ?_⟩
  clear hK K
  have h1 : w1.cell? ⟨b, 0, none⟩ = some (.chan (some c)) := (B1.cell (p := ⟨b, 0, none⟩) (cell_lt h1)).trans h1
  have h2 : w1.heap[c]? = some (.chan cap q false s r false) := (B1.block c (lt_of_heap h2)).trans h2
  s_op
  s_c stepG_region_end
  s_c stepG_seq
  s_c stepG_seq
  s_reg
  s_op
  s_op
  s_op
  s_op
  s_c stepG_region_end
  s_reg
  s_in
  refine goes_oper_k rfl rfl (by decide) (fun K hK => ?_)
  refine wp_blk_load 51 _ rfl w.heap.size rfl [x0, x1, x2, x3, x4, x5] A1 _ Try.underlying51 rfl Try.size_itx ?_
  go_simp
  refine hK _ _ ⟨trivial, ?_⟩
  clear hK K
  s_c stepG_region_end
  s_c stepG_seq
  s_reg
  s_stop
  refine LoneTo.step (step_lone_select_send_room (c := c) (cap := cap) (buf := q) (s := s) (r := r) (tm := false) (stepG_comm (cases := #[scase c (.agg #[x0, x1, x2, x3, x4, x5]) (.agg #[.int .u64 0, .int .u64 0, .int .u64 0, .int .u64 0, .int .i64 0, .slice none 0 0])]) (blocking := false) (shape := .select) (w' := w1) rfl rfl (by decide) (by simp [go_sem, execOp, scase, Act.eval, zero_tx])) h2 hr) ?_
  rw [Frame.finish_at]
  walk_nrm
  refine LoneTo.goes (n := 10) ?_
  s_op
  s_op
  s_c stepG_region_end
  s_c stepG_block
  s_cond true
  s_c stepG_seq
  s_reg
  s_op
  s_c stepG_region_end
  s_c stepG_ret'
  s_stop
  refine LoneTo.done ⟨.returned (.bool true), _, rfl, ⟨rfl, w1, B1, rfl⟩, rfl, rfl, rfl, rfl, _, Try.func51, by simp [results, Try.f51, Frame.at]⟩

set_option maxRecDepth 100000 in
theorem put_full (b c cap s r : Nat) (q : Array Value) (x0 x1 x2 x3 x4 x5 : Value) (w : World) (h1 : w.cell? ⟨b, 0, none⟩ = some (.chan (some c))) (h2 : w.heap[c]? = some (.chan cap q false s r false)) (hr : cap ≤ q.size) :
    Calls Try.prog 51 #[.pointer (some ⟨b, 0, none⟩), .agg #[x0, x1, x2, x3, x4, x5]] w fun e w' => e = .returned (.bool false) ∧ ∃ u, Below w.heap.size w u ∧ w' = u := by
  refine calls_of_loneTo (fun cs => ?_) (by rintro _ ⟨h, _⟩; cases h)
  have e : Frame.enter Try.prog 51 #[.pointer (some ⟨b, 0, none⟩), .agg #[x0, x1, x2, x3, x4, x5]] .normal = (base 51).at ⟨#[.pointer (some ⟨b, 0, none⟩), .agg #[x0, x1, x2, x3, x4, x5], undef, undef, undef, undef, undef, undef, undef, undef, undef, undef, undef], []⟩ [.code (Try.f51.body.getD .skip)] := by
    simp [Frame.enter, Frame.at, Try.func51, base, Try.f51]
  rw [e]
  refine LoneTo.goes (n := 18) ?_
  simp only [Try.f51, Option.getD_some]
  s_c stepG_seq
  s_reg
  s_in
  refine goes_oper_k rfl rfl (by decide) (fun K hK => ?_)
  refine wp_blk_box 51 _ rfl [x0, x1, x2, x3, x4, x5] rfl ?_
  intro w1 A1 B1 Z1
  go_simp
  refine hK _ _ ⟨trivial, ?_⟩
  clear hK K
  have h1 : w1.cell? ⟨b, 0, none⟩ = some (.chan (some c)) := (B1.cell (p := ⟨b, 0, none⟩) (cell_lt h1)).trans h1
  have h2 : w1.heap[c]? = some (.chan cap q false s r false) := (B1.block c (lt_of_heap h2)).trans h2
  s_op
  s_c stepG_region_end
  s_c stepG_seq
  s_c stepG_seq
  s_reg
  s_op
  s_op
  s_op
  s_op
  s_c stepG_region_end
  s_reg
  s_in
  refine goes_oper_k rfl rfl (by decide) (fun K hK => ?_)
  refine wp_blk_load 51 _ rfl w.heap.size rfl [x0, x1, x2, x3, x4, x5] A1 _ Try.underlying51 rfl Try.size_itx ?_
  go_simp
  refine hK _ _ ⟨trivial, ?_⟩
  clear hK K
  s_c stepG_region_end
  s_c stepG_seq
  s_reg
  s_stop
  refine LoneTo.step (step_lone_select_send_full (c := c) (cap := cap) (buf := q) (s := s) (r := r) (tm := false) (stepG_comm (cases := #[scase c (.agg #[x0, x1, x2, x3, x4, x5]) (.agg #[.int .u64 0, .int .u64 0, .int .u64 0, .int .u64 0, .int .i64 0, .slice none 0 0])]) (blocking := false) (shape := .select) (w' := w1) rfl rfl (by decide) (by simp [go_sem, execOp, scase, Act.eval, zero_tx])) h2 hr) ?_
  rw [Frame.finish_at]
  walk_nrm
  refine LoneTo.goes (n := 10) ?_
  s_op
  s_op
  s_c stepG_region_end
  s_c stepG_block
  s_cond false
  s_c stepG_seq
  s_reg
  s_op
  s_c stepG_region_end
  s_c stepG_ret'
  s_stop
  refine LoneTo.done ⟨.returned (.bool false), _, rfl, ⟨rfl, w1, B1, rfl⟩, rfl, rfl, rfl, rfl, _, Try.func51, by simp [results, Try.f51, Frame.at]⟩

set_option maxRecDepth 100000 in
theorem take_one (b c cap s r : Nat) (x0 x1 x2 x3 x4 x5 : Value) (q : Array Value) (w : World) (hx : [x0, x1, x2, x3, x4, x5].all (fun v => v.oneCell') = true) (h1 : w.cell? ⟨b, 0, none⟩ = some (.chan (some c))) (h2 : w.heap[c]? = some (.chan cap q false s r false)) (hr : 0 < q.size) (hq : q.getD 0 undef = .agg #[x0, x1, x2, x3, x4, x5]) :
    Calls Try.prog 38 #[.pointer (some ⟨b, 0, none⟩)] w fun e w' => e = .returned (.tuple #[.agg #[x0, x1, x2, x3, x4, x5], .bool true]) ∧ But c w w' ∧ w'.heap[c]? = some (.chan cap (q.extract 1 q.size) false s (r + 1) false) := by
  have hclt := lt_of_heap h2
  refine calls_of_loneTo (fun cs => ?_) (by rintro _ ⟨h, _⟩; cases h)
  have e : Frame.enter Try.prog 38 #[.pointer (some ⟨b, 0, none⟩)] .normal = (base 38).at ⟨#[.pointer (some ⟨b, 0, none⟩), undef, undef, undef, undef, undef, undef, undef, undef, undef, undef, undef, undef, undef, undef], []⟩ [.code (Try.f38.body.getD .skip)] := by
    simp [Frame.enter, Frame.at, Try.func38, base, Try.f38]
  rw [e]
  refine LoneTo.goes (n := 14) ?_
  simp only [Try.f38, Option.getD_some]
  s_c stepG_seq
  s_reg
  s_in
  refine goes_oper_k rfl rfl (by decide) (fun K hK => ?_)
  refine wp_blk_alloc 51 [.int .u64 0, .int .u64 0, .int .u64 0, .int .u64 0, .int .i64 0, .slice none 0 0] rfl Try.info_itx ?_
  intro w1 A1 B1 Z1
  go_simp
  refine hK _ _ ⟨trivial, ?_⟩
  clear hK K
  have h1 : w1.cell? ⟨b, 0, none⟩ = some (.chan (some c)) := (B1.cell (p := ⟨b, 0, none⟩) (cell_lt h1)).trans h1
  have h2 := (B1.block c (lt_of_heap h2)).trans h2
  s_op
  s_c stepG_region_end
  s_c stepG_seq
  s_reg
  s_op
  s_op
  s_op
  s_op
  s_c stepG_region_end
  s_c stepG_seq
  s_reg
  s_stop
  refine LoneTo.step (step_lone_select_recv_buf (c := c) (cap := cap) (buf := q) (closed := false) (s := s) (r := r) (tm := false) (stepG_comm (cases := #[rcase c (.agg #[.int .u64 0, .int .u64 0, .int .u64 0, .int .u64 0, .int .i64 0, .slice none 0 0])]) (blocking := false) (shape := .select) (w' := w1) rfl rfl (by decide) (by simp [go_sem, execOp, rcase, Act.eval, zero_tx])) h2 hr) ?_
  rw [Frame.finish_at]
  rw [hq]
  have hcn : w.heap.size ≠ c := fun e => by have := A1.1 0 _ rfl; rw [e] at this; simp [World.cell?, h2] at this
  obtain ⟨w2, hw2⟩ : ∃ z, w1.setChan c cap (q.extract 1 q.size) false s (r + 1) false = z := ⟨_, rfl⟩
  have A2 : Blk w2 w.heap.size [.int .u64 0, .int .u64 0, .int .u64 0, .int .u64 0, .int .i64 0, .slice none 0 0] := by
    rw [← hw2]
    have hb := (But.setChan w1 c cap (q.extract 1 q.size) s (r + 1)).far w.heap.size (by omega) hcn
    exact ⟨fun j v hv => by rw [World.cell?_of_block (w := w1) hb]; exact A1.1 j v hv, fun j hj => by rw [World.cell?_of_block (w := w1) hb, World.frozen?_of_block (w := w1) hb]; exact A1.2 j hj⟩
  have Z2 : w2.heap.size = w1.heap.size := by rw [← hw2]; exact size_setChan ..
  rw [hw2]
  walk_nrm
  refine LoneTo.goes (n := 18) ?_
  s_op
  s_op
  s_c stepG_region_end
  s_c stepG_block
  s_cond true
  s_c stepG_seq
  s_reg
  s_op
  s_in
  refine goes_oper_k rfl rfl (by decide) (fun K hK => ?_)
  refine wp_blk_alloc 51 [.int .u64 0, .int .u64 0, .int .u64 0, .int .u64 0, .int .i64 0, .slice none 0 0] rfl Try.info_itx ?_
  intro w3 A3 B3 Z3
  go_simp
  refine hK _ _ ⟨trivial, ?_⟩
  clear hK K
  have A3 : Blk w3 (w.heap.size + 1) [.int .u64 0, .int .u64 0, .int .u64 0, .int .u64 0, .int .i64 0, .slice none 0 0] := by rw [Z2, Z1] at A3; exact A3
  s_in
  refine goes_oper_k rfl rfl (by decide) (fun K hK => ?_)
  refine wp_blk_store 51 _ _ rfl (w.heap.size + 1) rfl [x0, x1, x2, x3, x4, x5] rfl _ A3 rfl Try.size_itx hx ?_
  intro w4 A4 U4
  go_simp
  refine hK _ _ ⟨trivial, ?_⟩
  clear hK K
  have A24 : Blk w4 w.heap.size [.int .u64 0, .int .u64 0, .int .u64 0, .int .u64 0, .int .i64 0, .slice none 0 0] := Blk.upd (Blk.below A2 B3 (by omega)) U4 (by omega)
  s_c stepG_region_end
  s_c stepG_seq
  s_reg
  s_in
  refine goes_oper_k rfl rfl (by decide) (fun K hK => ?_)
  refine wp_blk_load 51 _ rfl (w.heap.size + 1) rfl [x0, x1, x2, x3, x4, x5] A4 _ Try.underlying51 rfl Try.size_itx ?_
  go_simp
  refine hK _ _ ⟨trivial, ?_⟩
  clear hK K
  s_in
  refine goes_oper_k rfl rfl (by decide) (fun K hK => ?_)
  refine wp_blk_store 51 _ _ rfl w.heap.size rfl [x0, x1, x2, x3, x4, x5] rfl _ A24 rfl Try.size_itx hx ?_
  intro w5 A5 U5
  go_simp
  refine hK _ _ ⟨trivial, ?_⟩
  clear hK K
  s_op
  s_c stepG_region_end
  s_c stepG_ret'
  s_stop
  refine LoneTo.done ⟨.returned (.tuple #[.agg #[x0, x1, x2, x3, x4, x5], .bool true]), _, rfl, ⟨rfl, ?_⟩, rfl, rfl, rfl, rfl, _, Try.func38, ?_⟩
  · have hc0 := lt_of_heap h2
    have hcw : c < w.heap.size := hclt
    have hs := But.setChan w1 c cap (q.extract 1 q.size) s (r + 1)
    rw [hw2] at hs
    refine ⟨⟨?_, ?_, ?_, ?_, fun k hk hn => ?_⟩, ?_⟩
    · rw [U5.os, U4.os, B3.os, hs.os, B1.os]
    · rw [U5.tape, U4.tape, B3.tape, hs.tape, B1.tape]
    · rw [U5.output, U4.output, B3.output, hs.output, B1.output]
    · rw [U5.size, U4.size]; omega
    · rw [U5.far k (by omega), U4.far k (by omega), B3.block k (by omega), hs.far k (by omega) hn, B1.block k hk]
    · rw [U5.far c (by omega), U4.far c (by omega), B3.block c (by omega), ← hw2]
      exact heap_setChan w1 c cap _ false s (r + 1) false hc0
  · exact res_blk2 (t := 51) Try.results38 _ w.heap.size rfl [x0, x1, x2, x3, x4, x5] A5 _ Try.underlying51 rfl Try.size_itx

set_option maxRecDepth 100000 in
theorem take_none (b c cap s r : Nat) (w : World) (h1 : w.cell? ⟨b, 0, none⟩ = some (.chan (some c))) (h2 : w.heap[c]? = some (.chan cap #[] false s r false)) :
    Calls Try.prog 38 #[.pointer (some ⟨b, 0, none⟩)] w fun e w' => e = .returned (.tuple #[.agg #[.int .u64 0, .int .u64 0, .int .u64 0, .int .u64 0, .int .i64 0, .slice none 0 0], .bool false]) ∧ Below w.heap.size w w' := by
  have hclt := lt_of_heap h2
  refine calls_of_loneTo (fun cs => ?_) (by rintro _ ⟨h, _⟩; cases h)
  have e : Frame.enter Try.prog 38 #[.pointer (some ⟨b, 0, none⟩)] .normal = (base 38).at ⟨#[.pointer (some ⟨b, 0, none⟩), undef, undef, undef, undef, undef, undef, undef, undef, undef, undef, undef, undef, undef, undef], []⟩ [.code (Try.f38.body.getD .skip)] := by
    simp [Frame.enter, Frame.at, Try.func38, base, Try.f38]
  rw [e]
  refine LoneTo.goes (n := 14) ?_
  simp only [Try.f38, Option.getD_some]
  s_c stepG_seq
  s_reg
  s_in
  refine goes_oper_k rfl rfl (by decide) (fun K hK => ?_)
  refine wp_blk_alloc 51 [.int .u64 0, .int .u64 0, .int .u64 0, .int .u64 0, .int .i64 0, .slice none 0 0] rfl Try.info_itx ?_
  intro w1 A1 B1 Z1
  go_simp
  refine hK _ _ ⟨trivial, ?_⟩
  clear hK K
  have h1 : w1.cell? ⟨b, 0, none⟩ = some (.chan (some c)) := (B1.cell (p := ⟨b, 0, none⟩) (cell_lt h1)).trans h1
  have h2 := (B1.block c (lt_of_heap h2)).trans h2
  s_op
  s_c stepG_region_end
  s_c stepG_seq
  s_reg
  s_op
  s_op
  s_op
  s_op
  s_c stepG_region_end
  s_c stepG_seq
  s_reg
  s_stop
  refine LoneTo.step (step_lone_select_default (c := c) (z := .agg #[.int .u64 0, .int .u64 0, .int .u64 0, .int .u64 0, .int .i64 0, .slice none 0 0]) (cap := cap) (s := s) (r := r) (tm := false) (stepG_comm (cases := #[rcase c (.agg #[.int .u64 0, .int .u64 0, .int .u64 0, .int .u64 0, .int .i64 0, .slice none 0 0])]) (blocking := false) (shape := .select) (w' := w1) rfl rfl (by decide) (by simp [go_sem, execOp, rcase, Act.eval, zero_tx])) h2) ?_
  rw [Frame.finish_at]
  walk_nrm
  refine LoneTo.goes (n := 12) ?_
  s_op
  s_op
  s_c stepG_region_end
  s_c stepG_block
  s_cond false
  s_c stepG_seq
  s_reg
  s_in
  refine goes_oper_k rfl rfl (by decide) (fun K hK => ?_)
  refine wp_blk_load 51 _ rfl w.heap.size rfl [.int .u64 0, .int .u64 0, .int .u64 0, .int .u64 0, .int .i64 0, .slice none 0 0] A1 _ Try.underlying51 rfl Try.size_itx ?_
  go_simp
  refine hK _ _ ⟨trivial, ?_⟩
  clear hK K
  s_in
  refine goes_oper_k rfl rfl (by decide) (fun K hK => ?_)
  refine wp_blk_store 51 _ _ rfl w.heap.size rfl [.int .u64 0, .int .u64 0, .int .u64 0, .int .u64 0, .int .i64 0, .slice none 0 0] rfl _ A1 rfl Try.size_itx rfl ?_
  intro w5 A5 U5
  go_simp
  refine hK _ _ ⟨trivial, ?_⟩
  clear hK K
  s_op
  s_c stepG_region_end
  s_c stepG_ret'
  s_stop
  refine LoneTo.done ⟨.returned (.tuple #[.agg #[.int .u64 0, .int .u64 0, .int .u64 0, .int .u64 0, .int .i64 0, .slice none 0 0], .bool false]), _, rfl, ⟨rfl, B1.trans (U5.below (Nat.le_refl _))⟩, rfl, rfl, rfl, rfl, _, Try.func38, ?_⟩
  exact res_blk2 (t := 51) Try.results38 _ w.heap.size rfl [.int .u64 0, .int .u64 0, .int .u64 0, .int .u64 0, .int .i64 0, .slice none 0 0] A5 _ Try.underlying51 rfl Try.size_itx
/-- a transaction's value: a stamp, a slice -/
def TV' (s : List Nat × Int) (v : Value) : Value := TV s.1 s.2 v
theorem tv_six {a : List Nat} (ha : a.length = 4) (d : Int) (v : Value) : ∃ x0 x1 x2 x3 x4 x5, TV a d v = .agg #[x0, x1, x2, x3, x4, x5] ∧ (v.oneCell' = true → [x0, x1, x2, x3, x4, x5].all (fun v => v.oneCell') = true) := by
  obtain ⟨a0, a1, a2, a3, rfl⟩ := V.four ha
  exact ⟨_, _, _, _, _, _, rfl, fun h => by simp [h]; exact ⟨rfl, rfl, rfl, rfl, rfl⟩⟩
/-- Put: what there is room for is the last one; what there is none for is not there -/
theorem put_any {b c cap : Nat} {l : List Value} {w : World} (a : List Nat) (d : Int) (v : Value) (ha : a.length = 4) (h : Ln w b c cap l) :
    Calls Try.prog 51 #[.pointer (some ⟨b, 0, none⟩), TV a d v] w fun e w' => e = .returned (.bool (decide (l.length < cap))) ∧ Ln w' b c cap (if l.length < cap then l ++ [TV a d v] else l) ∧ But c w w' := by
  obtain ⟨x0, x1, x2, x3, x4, x5, e, _⟩ := tv_six ha d v
  rw [e]
  have hk := h
  obtain ⟨h1, s, r, h2⟩ := h
  by_cases hr : l.length < cap
  · rw [if_pos hr, decide_eq_true hr]
    refine (put_room b c cap s r _ x0 x1 x2 x3 x4 x5 w h1 h2 (by simpa using hr)).mono ?_
    rintro e w' ⟨rfl, u, hb, rfl⟩
    have hu := hk.below hb hk.blt hk.lt
    exact ⟨rfl, hu.set _ _ (by simp) _ _, (But.of_below hb).trans (But.setChan _ _ _ _ _ _)⟩
  · rw [if_neg hr, decide_eq_false hr]
    refine (put_full b c cap s r _ x0 x1 x2 x3 x4 x5 w h1 h2 (by simpa using hr)).mono ?_
    rintro e w' ⟨rfl, u, hb, rfl⟩
    exact ⟨rfl, hk.below hb hk.blt hk.lt, But.of_below hb⟩
theorem take_ok {b c cap : Nat} {l : List Value} {w : World} (a : List Nat) (d : Int) (v : Value) (ha : a.length = 4) (hv : v.oneCell' = true) (h : Ln w b c cap (TV a d v :: l)) :
    Calls Try.prog 38 #[.pointer (some ⟨b, 0, none⟩)] w fun e w' => e = .returned (.tuple #[TV a d v, .bool true]) ∧ Ln w' b c cap l ∧ But c w w' := by
  obtain ⟨x0, x1, x2, x3, x4, x5, e, hx⟩ := tv_six ha d v
  rw [e] at h ⊢
  have hk := h
  obtain ⟨h1, s, r, h2⟩ := h
  refine (take_one b c cap s r x0 x1 x2 x3 x4 x5 _ w (hx hv) h1 h2 (by simp) (by simp)).mono ?_
  rintro e w' ⟨rfl, hb, hc⟩
  exact ⟨rfl, ⟨by rw [hb.cell hk.blt hk.ne]; exact h1, s, r + 1, by rw [hc]; simp⟩, hb⟩
theorem take_no {b c cap : Nat} {w : World} (h : Ln w b c cap []) :
    Calls Try.prog 38 #[.pointer (some ⟨b, 0, none⟩)] w fun e w' => e = .returned (.tuple #[TV V.zeros 0 (.slice none 0 0), .bool false]) ∧ Below w.heap.size w w' := by
  obtain ⟨h1, s, r, h2⟩ := h
  exact take_none b c cap s r w h1 h2
/-- New -/
theorem new_ok (n : Nat) (h1 : 1 ≤ n) (hn : n ≤ 16) (w : World) :
    Calls Try.prog 35 #[.int .i64 (n : Int)] w fun e w' => ∃ b c, e = .returned (.tuple #[.pointer (some ⟨b, 0, none⟩), .int .i64 0]) ∧ w.heap.size ≤ c ∧ w.heap.size ≤ b ∧ Ln w' b c n [] ∧ Below w.heap.size w w' := by
  have hm := mk w n hn
  have k1 : decide ((n : Int) < 1) = false := by simp; omega
  have k2 : decide ((16 : Int) < (n : Int)) = false := by simp; omega
  go_enter Try.func35, Try.ntmps35
  go_wp2_with fail
  go_ret2
  refine ⟨w.heap.size + 1, w.heap.size, rfl, Nat.le_refl _, by omega, ⟨?_, 0, 0, ?_⟩, ?_⟩
  · simp [go_sem]
  · rw [Below.heap_alloc _ _ _ (by simp)]
    exact heap_alloc_new w _
  · exact ((Below.refl _ _).alloc (Nat.le_refl _) _).alloc (by simp) _
theorem new_no (n : Int) (hn : n < 1 ∨ 16 < n) (w : World) :
    Calls Try.prog 35 #[.int .i64 n] w fun e w' => e = .returned (.tuple #[.pointer none, .int .i64 1]) ∧ w' = w := by
  rcases hn with hn | hn
  · have k1 : decide (n < 1) = true := by simp; omega
    go_enter Try.func35, Try.ntmps35
    go_wp2_with fail
    go_ret2
    exact ⟨rfl, rfl⟩
  · have k1 : decide (n < 1) = false := by simp; omega
    have k2 : decide (16 < n) = true := by simp; omega
    go_enter Try.func35, Try.ntmps35
    go_wp2_with fail
    go_ret2
    exact ⟨rfl, rfl⟩
theorem len_ok {b c cap : Nat} {l : List Value} {w : World} (h : Ln w b c cap l) :
    Calls Try.prog 58 #[.pointer (some ⟨b, 0, none⟩)] w fun e w' => e = .returned (.int .i64 (l.length : Int)) ∧ w' = w := by
  obtain ⟨h1, s, r, h2⟩ := h
  have hlen := fun ty => run_len_chan (P := Try.prog) 131 ty Try.underlying131 h2
  simp only [goInt, List.size_toArray] at hlen
  go_enter Try.func58, Try.ntmps58
  go_wp2_with fail
  go_ret
  exact ⟨rfl, rfl⟩
theorem room_ok {b c cap : Nat} {l : List Value} {w : World} (h : Ln w b c cap l) :
    Calls Try.prog 59 #[.pointer (some ⟨b, 0, none⟩)] w fun e w' => e = .returned (.int .i64 (cap : Int)) ∧ w' = w := by
  obtain ⟨h1, s, r, h2⟩ := h
  have hcap := fun ty => run_cap_chan (P := Try.prog) 131 ty Try.underlying131 h2
  simp only [goInt] at hcap
  go_enter Try.func59, Try.ntmps59
  go_wp2_with fail
  go_ret
  exact ⟨rfl, rfl⟩
end Go.Proofs.Ytohcdonmdnjgoaa.Tx

namespace Go.Proofs.Ytohcdonmdnjgoaa.Mk

open Go.RowKit Go.Instr Go.ChangeMaps Go.Proofs.Ytohcdonmdnjgoaa.It

set_option linter.unusedVariables false

set_option linter.unusedSimpArgs false

set_option maxRecDepth 100000

abbrev Nm := ByteArray × ByteArray
def ky (n : Nm) : Value := .agg #[.string n.1, .string n.2]
theorem Try.plain_s : Try.prog.plainKey 9 = true := by kernel_rfl
theorem part0 (n : Nm) (w : World) : (part 9 #[.string n.1, .string n.2] 0).run Try.prog w = .ok (.string n.1) w := run_part_plain w Try.plain_s rfl
theorem part1 (n : Nm) (w : World) : (part 9 #[.string n.1, .string n.2] 1).run Try.prog w = .ok (.string n.2) w := run_part_plain w Try.plain_s rfl
theorem ck_str (e : Bool) (n : Nat) (s : ByteArray) (w : World) : (checkKey e (n + 1) 9 (.string s)).run Try.prog w = .ok () w := by
  simp [checkKey, run_underlying Try.underlying9]
theorem two_of {α β : Type} (g : α → β) (L : Array α) (p q : β) (h : L.toList.map g = [p, q]) : ∃ f1 f2, L = #[f1, f2] ∧ g f1 = p ∧ g f2 = q := by
  obtain ⟨L⟩ := L
  rcases L with _ | ⟨f1, _ | ⟨f2, _ | ⟨f3, L⟩⟩⟩
  · simp at h
  · simp at h
  · simp at h; exact ⟨f1, f2, rfl, h.1, h.2⟩
  · simp at h
theorem fields_n : (Try.prog.fieldsOf 111).toList.map (fun f => (f.name, f.type, f.offset)) = [("bucket", 9, 0), ("key", 9, 1)] := by kernel_rfl
theorem under_n : Try.prog.underlying 111 = some (.struct (Try.prog.fieldsOf 111)) := by kernel_rfl
theorem held_n : Try.prog.stoodInHeld 111 = false := by kernel_rfl
theorem fields2 : ∃ f1 f2, Try.prog.fieldsOf 111 = #[f1, f2] ∧ f1.name ≠ "_" ∧ f1.type = 9 ∧ f1.offset = 0 ∧ f2.name ≠ "_" ∧ f2.type = 9 ∧ f2.offset = 1 := by
  obtain ⟨f1, f2, h, g1, g2⟩ := two_of _ _ _ _ fields_n
  simp only [Prod.mk.injEq] at g1 g2
  exact ⟨f1, f2, h, by rw [g1.1]; decide, g1.2.1, g1.2.2, by rw [g2.1]; decide, g2.2.1, g2.2.2⟩
theorem ck (e : Bool) (n : Nm) (w : World) : (checkKey e 10000 111 (ky n)).run Try.prog w = .ok () w := by
  obtain ⟨f1, f2, hL, n1, t1, o1, n2, t2, o2⟩ := fields2
  rw [show (10000 : Nat) = 9998 + 1 + 1 from rfl, checkKey, ky]
  simp only [Sem.run_bind, run_underlying under_n, Result.andThen_ok, hL]
  simp [n1, n2, t1, t2, o1, o2, part0, part1, ck_str, Sem.run_bind, Result.andThen_ok]
theorem eqk (a b : Nm) (w : World) : (Op.equal 111 (ky a) (ky b)).run Try.prog w = .ok (decide (a = b)) w := by
  obtain ⟨f1, f2, hL, n1, t1, o1, n2, t2, o2⟩ := fields2
  unfold Op.equal
  show (Op.equalIn 10000 _ _ _).run _ _ = _
  rw [show (10000 : Nat) = 9999 + 1 from rfl, ky, ky, run_equalIn_struct w 9999 _ _ _ under_n held_n, hL]
  have qs : ∀ a b : ByteArray, (Op.equalIn 9999 9 (.string a) (.string b)).run Try.prog w = .ok (decide (a = b)) w := fun a b => by
    rw [← V.tol_eq]; exact run_equalIn_string w 9998 9 a b Try.underlying9
  obtain ⟨a1, a2⟩ := a
  obtain ⟨b1, b2⟩ := b
  have p0 : ∀ a b : ByteArray, (part 9 #[.string a, .string b] 0).run Try.prog w = .ok (.string a) w := fun a b => part0 (a, b) w
  have p1 : ∀ a b : ByteArray, (part 9 #[.string a, .string b] 1).run Try.prog w = .ok (.string b) w := fun a b => part1 (a, b) w
  simp only [Op.eqFields, if_pos n1, if_pos n2, t1, t2, o1, o2, Sem.run_bind, p0, p1, qs, Result.andThen_ok]
  by_cases h1 : a1 = b1
  · by_cases h2 : a2 = b2
    · simp [h1, h2, Op.eqFields, Sem.run_bind, p0, p1, qs, Result.andThen_ok, n2, t2, o2]
    · simp [h1, h2, Op.eqFields, Sem.run_bind, p0, p1, qs, Result.andThen_ok, n2, t2, o2]
  · simp [h1]
/-- the entries' keys -/
theorem asking_none (n : Nm) (l : List MapEntry) (i : Nat) (w : World) (h : ∀ e ∈ l, ∃ m, e.key = ky m ∧ m ≠ n) : (findAsking 111 (ky n) l i).run Try.prog w = .ok none w := by
  induction l generalizing i with
  | nil => rfl
  | cons e l ih =>
    obtain ⟨m, hm, hne⟩ := h e (List.mem_cons_self ..)
    rw [findAsking, Sem.run_bind, hm, eqk, Result.andThen_ok, decide_eq_false (fun e => hne e.symm), if_neg (by decide)]
    exact ih (i + 1) (fun e he => h e (List.mem_cons_of_mem _ he))
theorem asking_some (n : Nm) (l1 l2 : List MapEntry) (e : MapEntry) (i : Nat) (w : World) (h : ∀ e ∈ l1, ∃ m, e.key = ky m ∧ m ≠ n) (he : e.key = ky n) : (findAsking 111 (ky n) (l1 ++ e :: l2) i).run Try.prog w = .ok (some (i + l1.length, e.val)) w := by
  induction l1 generalizing i with
  | nil =>
    rw [List.nil_append, findAsking, Sem.run_bind, he, eqk, Result.andThen_ok, decide_eq_true rfl, if_pos rfl]
    rfl
  | cons x l ih =>
    obtain ⟨m, hm, hne⟩ := h x (List.mem_cons_self ..)
    rw [List.cons_append, findAsking, Sem.run_bind, hm, eqk, Result.andThen_ok, decide_eq_false (fun e => hne e.symm), if_neg (by decide), ih (i + 1) (fun e he => h e (List.mem_cons_of_mem _ he))]
    simp only [List.length_cons]
    congr 3
    omega
theorem now_none (n : Nm) (e : MapEntry) (l : List MapEntry) (i : Nat) (fs : Array Field) : findNow (.struct fs) (ky n) (e :: l) i = none := by
  unfold findNow sameNow ky
  rfl
theorem find_run (n : Nm) (l : List MapEntry) (w : World) (r : Option (Nat × Value)) (h : (findAsking 111 (ky n) l 0).run Try.prog w = .ok r w) : (findKey 111 (ky n) l).run Try.prog w = .ok r w := by
  unfold findKey
  rw [Sem.run_bind, run_underlying under_n, Result.andThen_ok]
  cases l with
  | nil => exact h
  | cons e l => rw [now_none]; exact h
/-- the map at block mb: its names, each with the block that its element points to -/
structure Mp (w : World) (mb : Nat) (M : List (Nm × Nat)) : Prop where
  is : ∃ (es : Array MapEntry) (clock : Nat), w.heap[mb]? = some (.map es clock) ∧ es.toList.map (fun e => (e.key, e.val)) = M.map (fun x => (ky x.1, Value.pointer (some ⟨x.2, 0, none⟩))) ∧ (∀ e ∈ es.toList, e.born < clock) ∧ (es.toList.map (·.born)).Nodup
  nodup : (M.map (·.1)).Nodup
theorem Mp.lt {w : World} {mb : Nat} {M : List (Nm × Nat)} (h : Mp w mb M) : mb < w.heap.size := by
  obtain ⟨es, clock, h1, _⟩ := h.is
  exact (Array.getElem?_eq_some_iff.1 h1).1
theorem Mp.st {w w' : World} {mb : Nat} {M : List (Nm × Nat)} (h : Mp w mb M) (hk : w'.heap[mb]? = w.heap[mb]?) : Mp w' mb M := by
  obtain ⟨es, clock, h1, h2⟩ := h.is
  exact ⟨⟨es, clock, by rw [hk]; exact h1, h2⟩, h.nodup⟩
theorem Mp.none {w : World} {mb : Nat} (h : w.heap[mb]? = some (.map #[] 0)) : Mp w mb [] := ⟨⟨#[], 0, h, rfl, fun e he => by simp at he, .nil⟩, .nil⟩
theorem zero_c (w : World) : (zeroValue 112).run Try.prog w = .ok (.pointer none) w :=
  (zero_of_info (show (Try.prog.info? 112).map (fun i => (i.zero, i.size)) = some (some (.pointer none), 1) from by kernel_rfl)).1 w
theorem keys_of {es : List MapEntry} {M : List (Nm × Nat)} (h : es.map (fun e => (e.key, e.val)) = M.map (fun x => (ky x.1, Value.pointer (some ⟨x.2, 0, none⟩)))) (e : MapEntry) (he : e ∈ es) : ∃ x ∈ M, e.key = ky x.1 ∧ e.val = .pointer (some ⟨x.2, 0, none⟩) := by
  have h1 : (e.key, e.val) ∈ es.map (fun e => (e.key, e.val)) := List.mem_map.2 ⟨e, he, rfl⟩
  rw [h] at h1
  obtain ⟨x, hx, e1⟩ := List.mem_map.1 h1
  simp only [Prod.mk.injEq] at e1
  exact ⟨x, hx, e1.1.symm, e1.2.symm⟩
theorem look_none {w : World} {mb : Nat} {M : List (Nm × Nat)} (h : Mp w mb M) (n : Nm) (hn : n ∉ M.map (·.1)) :
    (Instr.lookup 94 (.map (some mb)) (ky n) true).run Try.prog w = .ok (.tuple #[.pointer none, .bool false]) w := by
  obtain ⟨es, clock, h1, h2, _⟩ := h.is
  have hf := find_run n es.toList w none (asking_none n es.toList 0 w fun e he => by
    obtain ⟨x, hx, e1, _⟩ := keys_of h2 e he
    exact ⟨x.1, e1, fun e => hn (List.mem_map.2 ⟨x, hx, e⟩)⟩)
  simp [Instr.lookup, Sem.run_bind, run_underlying Try.underlying94, MapKept.run_getObj_map h1, ck, hf, zero_c, Result.andThen]
theorem split_at {w : World} {mb : Nat} {M1 M2 : List (Nm × Nat)} {n : Nm} {c : Nat} {es : Array MapEntry} (hnd : ((M1 ++ (n, c) :: M2).map (·.1)).Nodup) (h2 : es.toList.map (fun e => (e.key, e.val)) = (M1 ++ (n, c) :: M2).map (fun x => (ky x.1, Value.pointer (some ⟨x.2, 0, none⟩)))) :
    ∃ l1 e l2, es.toList = l1 ++ e :: l2 ∧ l1.length = M1.length ∧ e.key = ky n ∧ e.val = .pointer (some ⟨c, 0, none⟩) ∧ (∀ x ∈ l1, ∃ m, x.key = ky m ∧ m ≠ n) := by
  rw [List.map_append, List.map_cons] at h2
  obtain ⟨l1, l2', e1, e2, e3⟩ := List.map_eq_append_iff.1 h2
  obtain ⟨e, l2, e4, e5, e6⟩ := List.map_eq_cons_iff.1 e3
  simp only [Prod.mk.injEq] at e5
  refine ⟨l1, e, l2, by rw [e1, e4], ?_, e5.1, e5.2, fun x hx => ?_⟩
  · have := congrArg List.length e2
    simpa using this
  · obtain ⟨y, hy, e7, _⟩ := keys_of e2 x hx
    refine ⟨y.1, e7, fun e8 => ?_⟩
    rw [List.map_append, List.map_cons, List.nodup_append] at hnd
    exact hnd.2.2 y.1 (List.mem_map.2 ⟨y, hy, rfl⟩) n (List.mem_cons_self ..) e8
theorem look_some {w : World} {mb : Nat} {M1 M2 : List (Nm × Nat)} {n : Nm} {c : Nat} (h : Mp w mb (M1 ++ (n, c) :: M2)) :
    (Instr.lookup 94 (.map (some mb)) (ky n) true).run Try.prog w = .ok (.tuple #[.pointer (some ⟨c, 0, none⟩), .bool true]) w := by
  obtain ⟨es, clock, h1, h2, _⟩ := h.is
  obtain ⟨l1, e, l2, e1, e2, e3, e4, e5⟩ := split_at (w := w) (mb := mb) h.nodup h2
  have hf := find_run n es.toList w _ (by rw [e1]; exact asking_some n l1 l2 e 0 w e5 e3)
  simp [Instr.lookup, Sem.run_bind, run_underlying Try.underlying94, MapKept.run_getObj_map h1, ck, hf, e4, Result.andThen]
theorem bits_self (n : Nm) : Instr.sameBits 10000 (ky n) (ky n) = true := by
  rw [show (10000 : Nat) = 9998 + 1 + 1 from rfl]
  have h : ∀ s : ByteArray, (s == s) = true := fun s => by simp [MapKept.bytes_beq]
  simp [Instr.sameBits, ky, h]
/-- laid where it is not: the last one -/
theorem upd_none {w : World} {mb : Nat} {M : List (Nm × Nat)} (h : Mp w mb M) (n : Nm) (c : Nat) (hn : n ∉ M.map (·.1)) :
    ∃ w', (Instr.mapUpdate 94 (.map (some mb)) (ky n) (.pointer (some ⟨c, 0, none⟩))).run Try.prog w = .ok () w' ∧ Mp w' mb (M ++ [(n, c)]) ∧ Upd mb w w' := by
  obtain ⟨es, clock, h1, h2, h3, h4⟩ := h.is
  have hf := find_run n es.toList w none (asking_none n es.toList 0 w fun e he => by
    obtain ⟨x, hx, e1, _⟩ := keys_of h2 e he
    exact ⟨x.1, e1, fun e => hn (List.mem_map.2 ⟨x, hx, e⟩)⟩)
  refine ⟨{ w with heap := w.heap.setIfInBounds mb (.map (es.push { key := ky n, val := .pointer (some ⟨c, 0, none⟩), born := clock }) (clock + 1)) }, ?_, ⟨⟨_, _, (MapKept.heap_set h1).1, ?_, ?_, ?_⟩, ?_⟩, ?_⟩
  · simp [Instr.mapUpdate, Sem.run_bind, run_underlying Try.underlying94, MapKept.run_getObj_map h1, ck, hf, MapKept.run_setObj_map _ h1, Result.andThen]
  · simp [h2]
  · intro e he
    simp only [Array.toList_push, List.mem_append, List.mem_singleton] at he
    rcases he with he | rfl
    · have := h3 e he; omega
    · show clock < clock + 1; omega
  · simp only [Array.toList_push, List.map_append, List.map_cons, List.map_nil]
    rw [List.nodup_append]
    refine ⟨h4, by simp, fun a ha b hb => ?_⟩
    obtain ⟨e, he, rfl⟩ := List.mem_map.1 ha
    simp at hb
    have := h3 e he
    omega
  · rw [List.map_append, List.map_cons, List.map_nil, List.nodup_append]
    exact ⟨h.nodup, by simp, fun a ha b hb => by simp at hb; subst hb; rintro rfl; exact hn ha⟩
  · exact ⟨rfl, rfl, rfl, by simp, fun k hk => (MapKept.heap_set h1).2 k hk⟩
theorem modify_split {α : Type} (l1 l2 : List α) (e : α) (f : α → α) : (l1 ++ e :: l2).modify l1.length f = l1 ++ f e :: l2 := by
  induction l1 with
  | nil => rfl
  | cons x l ih => simp [ih]
/-- laid where it is, as it is -/
theorem upd_some {w : World} {mb : Nat} {M1 M2 : List (Nm × Nat)} {n : Nm} {c : Nat} (h : Mp w mb (M1 ++ (n, c) :: M2)) :
    ∃ w', (Instr.mapUpdate 94 (.map (some mb)) (ky n) (.pointer (some ⟨c, 0, none⟩))).run Try.prog w = .ok () w' ∧ Mp w' mb (M1 ++ (n, c) :: M2) ∧ Upd mb w w' := by
  obtain ⟨es, clock, h1, h2, h3, h4⟩ := h.is
  obtain ⟨l1, e, l2, e1, e2, e3, e4, e5⟩ := split_at (w := w) (mb := mb) h.nodup h2
  have hf := find_run n es.toList w _ (by rw [e1]; exact asking_some n l1 l2 e 0 w e5 e3)
  have hes : es = (l1 ++ e :: l2).toArray := by rw [← e1]
  have hj : es[l1.length]? = some e := by rw [hes]; simp
  have hm : (es.modify l1.length fun e => { e with key := ky n, val := .pointer (some ⟨c, 0, none⟩) }).toList = es.toList := by
    rw [Array.toList_modify, e1, modify_split, ← e3, ← e4]
  refine ⟨{ w with heap := w.heap.setIfInBounds mb (.map (es.modify l1.length fun e => { e with key := ky n, val := .pointer (some ⟨c, 0, none⟩) }) clock) }, ?_, ⟨⟨_, _, (MapKept.heap_set h1).1, ?_, ?_, ?_⟩, h.nodup⟩, ?_⟩
  · simp [Instr.mapUpdate, Sem.run_bind, run_underlying Try.underlying94, MapKept.run_getObj_map h1, ck, hf, hj, e3, Instr.keyThatStays, bits_self, MapKept.run_setObj_map _ h1, Result.andThen]
  · rw [hm]; exact h2
  · rw [hm]; exact h3
  · rw [hm]; exact h4
  · exact ⟨rfl, rfl, rfl, by simp, fun k hk => (MapKept.heap_set h1).2 k hk⟩
/-- an iterator at block r over the map at mb; S: what is still to come -/
structure Itr (w : World) (r mb : Nat) (M S : List (Nm × Nat)) : Prop where
  is : ∃ (es : Array MapEntry) (clock : Nat) (seen : Array Nat), w.heap[mb]? = some (.map es clock) ∧ es.toList.map (fun e => (e.key, e.val)) = M.map (fun x => (ky x.1, Value.pointer (some ⟨x.2, 0, none⟩))) ∧ (∀ e ∈ es.toList, e.born < clock) ∧ (es.toList.map (·.born)).Nodup ∧
    w.heap[r]? = some (.mapIter (some mb) clock seen clock) ∧ (leftOf es seen).toList.map (fun e => (e.key, e.val)) = S.map (fun x => (ky x.1, Value.pointer (some ⟨x.2, 0, none⟩)))
  nodup : (M.map (·.1)).Nodup
  ne : r ≠ mb
theorem Itr.map {w : World} {r mb : Nat} {M S : List (Nm × Nat)} (h : Itr w r mb M S) : Mp w mb M := by
  obtain ⟨es, clock, seen, h1, h2, h3, h4, _⟩ := h.is
  exact ⟨⟨es, clock, h1, h2, h3, h4⟩, h.nodup⟩
theorem Itr.st {w w' : World} {r mb : Nat} {M S : List (Nm × Nat)} (h : Itr w r mb M S) (hk : w'.heap[mb]? = w.heap[mb]?) (hr : w'.heap[r]? = w.heap[r]?) : Itr w' r mb M S := by
  obtain ⟨es, clock, seen, h1, h2, h3, h4, h5, h6⟩ := h.is
  exact ⟨⟨es, clock, seen, by rw [hk]; exact h1, h2, h3, h4, by rw [hr]; exact h5, h6⟩, h.nodup, h.ne⟩
theorem run_range {w : World} {mb : Nat} {M : List (Nm × Nat)} (h : Mp w mb M) :
    ∃ w', (Instr.range 94 (.map (some mb))).run Try.prog w = .ok (.pointer (some ⟨w.heap.size, 0, none⟩)) w' ∧ Itr w' w.heap.size mb M M ∧ Below w.heap.size w w' ∧ w'.heap.size = w.heap.size + 1 := by
  obtain ⟨es, clock, h1, h2, h3, h4⟩ := h.is
  refine ⟨_, run_range_map w _ _ _ mb es clock Try.underlying94 h1, ⟨⟨es, clock, #[], ?_, h2, h3, h4, heap_alloc_new w _, ?_⟩, h.nodup, by have := h.lt; omega⟩, (Below.refl _ _).alloc (Nat.le_refl _) _, by simp⟩
  · rw [((Below.refl _ _).alloc (Nat.le_refl _) _).block mb h.lt]; exact h1
  · have : leftOf es #[] = es := by unfold leftOf; simp
    rw [this]; exact h2
theorem filter_born (l1 l2 : List MapEntry) (e : MapEntry) (h : ((l1 ++ e :: l2).map (·.born)).Nodup) : (l1 ++ e :: l2).filter (fun x => !(x.born == e.born)) = l1 ++ l2 := by
  rw [List.map_append, List.map_cons, List.nodup_append, List.nodup_cons] at h
  obtain ⟨_, ⟨h2, _⟩, h3⟩ := h
  rw [List.filter_append, List.filter_cons_of_neg (by simp), List.filter_eq_self.2 (fun x hx => ?_), List.filter_eq_self.2 (fun x hx => ?_)]
  · have : x.born ≠ e.born := fun e9 => h2 (List.mem_map.2 ⟨x, hx, e9⟩)
    simpa using this
  · have : x.born ≠ e.born := h3 _ (List.mem_map.2 ⟨x, hx, rfl⟩) _ (List.mem_cons_self ..)
    simpa using this
theorem left_push (es : Array MapEntry) (seen : Array Nat) (b : Nat) : (leftOf es (seen.push b)).toList = (leftOf es seen).toList.filter (fun x => !(x.born == b)) := by
  unfold leftOf
  rw [Array.toList_filter, Array.toList_filter, List.filter_filter]
  congr 1
  funext x
  rw [contains_push, Bool.not_or, Bool.and_comm]
theorem run_next {w : World} {r mb : Nat} {M S : List (Nm × Nat)} (h : Itr w r mb M S) (ty : TypeId) :
    (S = [] ∧ (Instr.next (.pointer (some ⟨r, 0, none⟩)) false ty).run Try.prog w = .ok (.tuple #[.bool false]) w) ∨
    ∃ S1 n c S2 w', S = S1 ++ (n, c) :: S2 ∧ (Instr.next (.pointer (some ⟨r, 0, none⟩)) false ty).run Try.prog w = .ok (.tuple #[.bool true, ky n, .pointer (some ⟨c, 0, none⟩)]) w' ∧
      (Instr.entry (.pointer (some ⟨r, 0, none⟩))).run Try.prog w' = .ok (.tuple #[ky n, .pointer (some ⟨c, 0, none⟩)]) w' ∧ Itr w' r mb M (S1 ++ S2) ∧ Upd r w w' := by
  obtain ⟨es, clock, seen, h1, h2, h3, h4, h5, h6⟩ := h.is
  rcases run_next_at (P := Try.prog) w ty r mb clock clock seen es clock h5 h1 h3 (Nat.le_refl _) with ⟨h0, hr⟩ | ⟨e, he, w1, hw, hr⟩
  · refine .inl ⟨?_, hr⟩
    have h7 : (leftOf es seen).toList = [] := by rw [← List.length_eq_zero_iff, Array.length_toList]; exact h0
    rw [h7] at h6
    exact List.map_eq_nil_iff.1 h6.symm
  · obtain ⟨l1, l2, hl⟩ := List.append_of_mem he
    rw [hl, List.map_append, List.map_cons] at h6
    obtain ⟨S1, S2', e1, e2, e3⟩ := List.map_eq_append_iff.1 h6.symm
    obtain ⟨⟨n, c⟩, S2, e4, e5, e6⟩ := List.map_eq_cons_iff.1 e3
    simp only [Prod.mk.injEq] at e5
    have hw' : w1.heap = w.heap := by rcases hw with rfl | rfl <;> rfl
    have hb' : (setBlock w1 r (.mapIter (some mb) clock (seen.push e.born) clock)).heap[r]? = some (.mapIter (some mb) clock (seen.push e.born) clock) := by
      unfold setBlock
      have hlt : r < w1.heap.size := by rw [hw']; exact (Array.getElem?_eq_some_iff.1 h5).1
      simp [hlt]
    have hm' : (setBlock w1 r (.mapIter (some mb) clock (seen.push e.born) clock)).heap[mb]? = some (.map es clock) := by
      unfold setBlock
      rw [Array.getElem?_setIfInBounds_ne h.ne, hw']; exact h1
    have hes := mem_left he
    refine .inr ⟨S1, n, c, S2, _, by rw [e1, e4], by rw [← e5.1, ← e5.2] at hr; exact hr, ?_, ⟨⟨es, clock, seen.push e.born, hm', h2, h3, h4, hb', ?_⟩, h.nodup, h.ne⟩, ?_⟩
    · have := run_entry_at (P := Try.prog) _ r mb clock seen es clock e hb' hm' hes.1 h4
      rw [← e5.1, ← e5.2] at this
      exact this
    · rw [left_push, hl, filter_born]
      · rw [List.map_append, List.map_append, e2, e6]
      · have hnd : ((leftOf es seen).toList.map (·.born)).Nodup := by
          unfold leftOf
          rw [Array.toList_filter]
          exact h4.sublist (List.Sublist.map _ List.filter_sublist)
        rw [hl] at hnd
        exact hnd
    · refine ⟨?_, ?_, ?_, ?_, fun k hk => ?_⟩
      · rcases hw with rfl | rfl <;> rfl
      · rcases hw with rfl | rfl <;> rfl
      · rcases hw with rfl | rfl <;> rfl
      · unfold setBlock; simp [hw']
      · unfold setBlock
        rw [Array.getElem?_setIfInBounds_ne (Ne.symm hk), hw']
end Go.Proofs.Ytohcdonmdnjgoaa.Mk
