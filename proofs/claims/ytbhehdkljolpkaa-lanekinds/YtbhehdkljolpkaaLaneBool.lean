/- A lane of bool: what each call tells, and what is in the lane behind it. -/
import Derived.Test.YtbhehdkljolpkaaLaneBase
namespace Go.Proofs.Ytbhehdkljolpkaa.Bool
open Go.Conc Go.RowKit
set_option linter.unusedVariables false
set_option linter.unusedSimpArgs false
theorem bytesE : ∃ i, Try.prog.info? 4 = some i ∧ i.bytes = 1 := by
  have h : (Try.prog.info? 4).map (·.bytes) = some 1 := by kernel_rfl
  obtain ⟨i, hi, hb⟩ := Option.map_eq_some_iff.1 h
  exact ⟨i, hi, hb⟩
theorem mk (w : World) (n : Nat) (hn : n ≤ 16) : (Instr.makeChan 85 (.int .i64 (n : Int))).run Try.prog w = .ok (.chan (some w.heap.size)) (w.alloc (.chan n #[] false 0 0 false)) := by
  obtain ⟨i, hi, hb⟩ := bytesE
  simpa using run_makeChan (P := Try.prog) (w := w) Try.underlying85 hi .i64 n (by omega) (by rw [hb]; omega)

set_option maxRecDepth 100000 in
theorem put_room (b c cap s r : Nat) (q : Array Value) (v : Value) (w : World) (h1 : w.cell? ⟨b, 0, none⟩ = some (.chan (some c))) (h2 : w.heap[c]? = some (.chan cap q false s r false)) (hr : q.size < cap) :
    Calls Try.prog 26 #[.pointer (some ⟨b, 0, none⟩), v] w fun e w' => e = .returned (.bool true) ∧ w' = w.setChan c cap (q.push v) false (s + 1) r false := by
  refine calls_of_loneTo fun cs => ?_
  have e : Frame.enter Try.prog 26 #[.pointer (some ⟨b, 0, none⟩), v] .normal = (base 26).at ⟨#[.pointer (some ⟨b, 0, none⟩), v, undef, undef, undef, undef, undef, undef, undef, undef, undef, undef, undef], []⟩ [.code (Try.f26.body.getD .skip)] := by
    simp [Frame.enter, Frame.at, Try.func26, base, Try.f26]
  rw [e]
  refine LoneTo.goes (n := 17) ?_
  simp only [Try.f26, Option.getD_some]
  s_c stepG_seq
  s_reg
  s_op
  s_c stepG_region_end
  s_c stepG_seq
  s_c stepG_seq
  s_reg
  s_op
  s_op
  s_op
  s_op
  s_c stepG_region_end
  s_reg
  s_op
  s_c stepG_region_end
  s_c stepG_seq
  s_reg
  s_stop
  refine LoneTo.step (step_lone_select_send_room (c := c) (cap := cap) (buf := q) (s := s) (r := r) (tm := false) (stepG_comm (cases := #[scase c v (.bool false)]) (blocking := false) (shape := .select) (w' := w) rfl rfl (by decide) (by simp [go_sem, execOp, scase, Act.eval])) h2 hr) ?_
  rw [Frame.finish_at]
  walk_nrm
  refine LoneTo.goes (n := 10) ?_
  s_op
  s_op
  s_c stepG_region_end
  s_c stepG_block
  s_cond true
  s_c stepG_seq
  s_reg
  s_op
  s_c stepG_region_end
  s_c stepG_ret'
  s_stop
  refine LoneTo.done ⟨.returned (.bool true), _, rfl, ⟨rfl, rfl⟩, rfl, rfl, rfl, rfl, _, Try.func26, by simp [results, Try.f26, Frame.at]⟩

set_option maxRecDepth 100000 in
theorem put_full (b c cap s r : Nat) (q : Array Value) (v : Value) (w : World) (h1 : w.cell? ⟨b, 0, none⟩ = some (.chan (some c))) (h2 : w.heap[c]? = some (.chan cap q false s r false)) (hr : cap ≤ q.size) :
    Calls Try.prog 26 #[.pointer (some ⟨b, 0, none⟩), v] w fun e w' => e = .returned (.bool false) ∧ w' = w := by
  refine calls_of_loneTo fun cs => ?_
  have e : Frame.enter Try.prog 26 #[.pointer (some ⟨b, 0, none⟩), v] .normal = (base 26).at ⟨#[.pointer (some ⟨b, 0, none⟩), v, undef, undef, undef, undef, undef, undef, undef, undef, undef, undef, undef], []⟩ [.code (Try.f26.body.getD .skip)] := by
    simp [Frame.enter, Frame.at, Try.func26, base, Try.f26]
  rw [e]
  refine LoneTo.goes (n := 17) ?_
  simp only [Try.f26, Option.getD_some]
  s_c stepG_seq
  s_reg
  s_op
  s_c stepG_region_end
  s_c stepG_seq
  s_c stepG_seq
  s_reg
  s_op
  s_op
  s_op
  s_op
  s_c stepG_region_end
  s_reg
  s_op
  s_c stepG_region_end
  s_c stepG_seq
  s_reg
  s_stop
  refine LoneTo.step (step_lone_select_send_full (c := c) (cap := cap) (buf := q) (s := s) (r := r) (tm := false) (stepG_comm (cases := #[scase c v (.bool false)]) (blocking := false) (shape := .select) (w' := w) rfl rfl (by decide) (by simp [go_sem, execOp, scase, Act.eval])) h2 hr) ?_
  rw [Frame.finish_at]
  walk_nrm
  refine LoneTo.goes (n := 10) ?_
  s_op
  s_op
  s_c stepG_region_end
  s_c stepG_block
  s_cond false
  s_c stepG_seq
  s_reg
  s_op
  s_c stepG_region_end
  s_c stepG_ret'
  s_stop
  refine LoneTo.done ⟨.returned (.bool false), _, rfl, ⟨rfl, rfl⟩, rfl, rfl, rfl, rfl, _, Try.func26, by simp [results, Try.f26, Frame.at]⟩

set_option maxRecDepth 100000 in
theorem take_one (b c cap s r : Nat) (q : Array Value) (w : World) (h1 : w.cell? ⟨b, 0, none⟩ = some (.chan (some c))) (h2 : w.heap[c]? = some (.chan cap q false s r false)) (hr : 0 < q.size) :
    Calls Try.prog 28 #[.pointer (some ⟨b, 0, none⟩)] w fun e w' => e = .returned (.tuple #[q.getD 0 undef, .bool true]) ∧ w' = w.setChan c cap (q.extract 1 q.size) false s (r + 1) false := by
  refine calls_of_loneTo fun cs => ?_
  have e : Frame.enter Try.prog 28 #[.pointer (some ⟨b, 0, none⟩)] .normal = (base 28).at ⟨#[.pointer (some ⟨b, 0, none⟩), undef, undef, undef, undef, undef, undef, undef, undef, undef, undef, undef, undef, undef, undef], []⟩ [.code (Try.f28.body.getD .skip)] := by
    simp [Frame.enter, Frame.at, Try.func28, base, Try.f28]
  rw [e]
  refine LoneTo.goes (n := 14) ?_
  simp only [Try.f28, Option.getD_some]
  s_c stepG_seq
  s_reg
  s_op
  s_op
  s_c stepG_region_end
  s_c stepG_seq
  s_reg
  s_op
  s_op
  s_op
  s_op
  s_c stepG_region_end
  s_c stepG_seq
  s_reg
  s_stop
  refine LoneTo.step (step_lone_select_recv_buf (c := c) (cap := cap) (buf := q) (closed := false) (s := s) (r := r) (tm := false) (stepG_comm (cases := #[rcase c (.bool false)]) (blocking := false) (shape := .select) (w' := w) rfl rfl (by decide) (by simp [go_sem, execOp, rcase, Act.eval])) h2 hr) ?_
  rw [Frame.finish_at]
  generalize q.getD 0 undef = x0
  walk_nrm
  refine LoneTo.goes (n := 17) ?_
  s_op
  s_op
  s_c stepG_region_end
  s_c stepG_block
  s_cond true
  s_c stepG_seq
  s_reg
  s_op
  s_op
  s_c stepG_region_end
  s_c stepG_seq
  s_reg
  s_op
  s_op
  s_op
  s_c stepG_region_end
  s_c stepG_ret'
  s_stop
  refine LoneTo.done ⟨.returned (.tuple #[x0, .bool true]), _, rfl, ⟨rfl, rfl⟩, rfl, rfl, rfl, rfl, _, Try.func28, by simp [results, Try.f28, Frame.at]⟩

set_option maxRecDepth 100000 in
theorem take_none (b c cap s r : Nat) (w : World) (h1 : w.cell? ⟨b, 0, none⟩ = some (.chan (some c))) (h2 : w.heap[c]? = some (.chan cap #[] false s r false)) :
    Calls Try.prog 28 #[.pointer (some ⟨b, 0, none⟩)] w fun e w' => e = .returned (.tuple #[.bool false, .bool false]) ∧ w' = w := by
  refine calls_of_loneTo fun cs => ?_
  have e : Frame.enter Try.prog 28 #[.pointer (some ⟨b, 0, none⟩)] .normal = (base 28).at ⟨#[.pointer (some ⟨b, 0, none⟩), undef, undef, undef, undef, undef, undef, undef, undef, undef, undef, undef, undef, undef, undef], []⟩ [.code (Try.f28.body.getD .skip)] := by
    simp [Frame.enter, Frame.at, Try.func28, base, Try.f28]
  rw [e]
  refine LoneTo.goes (n := 14) ?_
  simp only [Try.f28, Option.getD_some]
  s_c stepG_seq
  s_reg
  s_op
  s_op
  s_c stepG_region_end
  s_c stepG_seq
  s_reg
  s_op
  s_op
  s_op
  s_op
  s_c stepG_region_end
  s_c stepG_seq
  s_reg
  s_stop
  refine LoneTo.step (step_lone_select_default (c := c) (z := .bool false) (cap := cap) (s := s) (r := r) (tm := false) (stepG_comm (cases := #[rcase c (.bool false)]) (blocking := false) (shape := .select) (w' := w) rfl rfl (by decide) (by simp [go_sem, execOp, rcase, Act.eval])) h2) ?_
  rw [Frame.finish_at]
  walk_nrm
  refine LoneTo.goes (n := 12) ?_
  s_op
  s_op
  s_c stepG_region_end
  s_c stepG_block
  s_cond false
  s_c stepG_seq
  s_reg
  s_op
  s_op
  s_op
  s_c stepG_region_end
  s_c stepG_ret'
  s_stop
  refine LoneTo.done ⟨.returned (.tuple #[.bool false, .bool false]), _, rfl, ⟨rfl, rfl⟩, rfl, rfl, rfl, rfl, _, Try.func28, by simp [results, Try.f28, Frame.at]⟩

/-- Put: what there is room for is the last one; what there is none for is not there -/
theorem put_ok {b c cap : Nat} {l : List Value} {w : World} (v : Value) (h : Ln w b c cap l) (hr : l.length < cap) :
    Calls Try.prog 26 #[.pointer (some ⟨b, 0, none⟩), v] w fun e w' => e = .returned (.bool true) ∧ Ln w' b c cap (l ++ [v]) ∧ But c w w' := by
  have hk := h
  obtain ⟨h1, s, r, h2⟩ := h
  refine (put_room b c cap s r _ v w h1 h2 (by simpa using hr)).mono ?_
  rintro e w' ⟨rfl, rfl⟩
  exact ⟨rfl, hk.set _ _ (by simp) _ _, But.setChan _ _ _ _ _ _⟩
theorem put_no {b c cap : Nat} {l : List Value} {w : World} (v : Value) (h : Ln w b c cap l) (hr : cap ≤ l.length) :
    Calls Try.prog 26 #[.pointer (some ⟨b, 0, none⟩), v] w fun e w' => e = .returned (.bool false) ∧ w' = w := by
  obtain ⟨h1, s, r, h2⟩ := h
  exact put_full b c cap s r _ v w h1 h2 (by simpa using hr)
theorem take_ok {b c cap : Nat} {x : Value} {l : List Value} {w : World} (h : Ln w b c cap (x :: l)) :
    Calls Try.prog 28 #[.pointer (some ⟨b, 0, none⟩)] w fun e w' => e = .returned (.tuple #[x, .bool true]) ∧ Ln w' b c cap l ∧ But c w w' := by
  have hk := h
  obtain ⟨h1, s, r, h2⟩ := h
  refine (take_one b c cap s r _ w h1 h2 (by simp)).mono ?_
  rintro e w' ⟨rfl, rfl⟩
  exact ⟨by simp, hk.set _ _ (by simp) _ _, But.setChan _ _ _ _ _ _⟩
theorem take_no {b c cap : Nat} {w : World} (h : Ln w b c cap []) :
    Calls Try.prog 28 #[.pointer (some ⟨b, 0, none⟩)] w fun e w' => e = .returned (.tuple #[.bool false, .bool false]) ∧ w' = w := by
  obtain ⟨h1, s, r, h2⟩ := h
  exact take_none b c cap s r w h1 h2

theorem take_any {b c cap : Nat} {l : List Value} {w : World} (h : Ln w b c cap l) :
    Calls Try.prog 28 #[.pointer (some ⟨b, 0, none⟩)] w fun e w' => e = .returned (.tuple #[l.headD (.bool false), .bool (!l.isEmpty)]) ∧ Ln w' b c cap l.tail ∧ But c w w' := by
  cases l with
  | nil =>
    refine (take_no h).mono ?_
    rintro e w' ⟨rfl, rfl⟩
    exact ⟨rfl, h, But.refl _ _⟩
  | cons x l => exact take_ok h

/-- New -/
theorem new_ok (n : Nat) (h1 : 1 ≤ n) (hn : n ≤ 16) (w : World) :
    Calls Try.prog 24 #[.int .i64 (n : Int)] w fun e w' => ∃ b c, e = .returned (.tuple #[.pointer (some ⟨b, 0, none⟩), .int .i64 0]) ∧ w.heap.size ≤ c ∧ w.heap.size ≤ b ∧ Ln w' b c n [] ∧ Below w.heap.size w w' := by
  have hm := mk w n hn
  have k1 : decide ((n : Int) < 1) = false := by simp; omega
  have k2 : decide ((16 : Int) < (n : Int)) = false := by simp; omega
  go_enter Try.func24, Try.ntmps24
  go_wp2_with fail
  go_ret2
  refine ⟨w.heap.size + 1, w.heap.size, rfl, Nat.le_refl _, by omega, ⟨?_, 0, 0, ?_⟩, ?_⟩
  · simp [go_sem]
  · rw [Below.heap_alloc _ _ _ (by simp)]
    exact heap_alloc_new w _
  · exact ((Below.refl _ _).alloc (Nat.le_refl _) _).alloc (by simp) _
theorem new_no (n : Int) (hn : n < 1 ∨ 16 < n) (w : World) :
    Calls Try.prog 24 #[.int .i64 n] w fun e w' => e = .returned (.tuple #[.pointer none, .int .i64 1]) ∧ w' = w := by
  rcases hn with hn | hn
  · have k1 : decide (n < 1) = true := by simp; omega
    go_enter Try.func24, Try.ntmps24
    go_wp2_with fail
    go_ret2
    exact ⟨rfl, rfl⟩
  · have k1 : decide (n < 1) = false := by simp; omega
    have k2 : decide (16 < n) = true := by simp; omega
    go_enter Try.func24, Try.ntmps24
    go_wp2_with fail
    go_ret2
    exact ⟨rfl, rfl⟩
end Go.Proofs.Ytbhehdkljolpkaa.Bool
