/- A lane of int: what each call tells, and what is in the lane behind it. -/
import Derived.Test.YtbhehdkljolpkaaLaneBase
namespace Go.Proofs.Ytbhehdkljolpkaa.Int
open Go.Conc Go.RowKit
set_option linter.unusedVariables false
set_option linter.unusedSimpArgs false
theorem bytesE : ∃ i, Try.prog.info? 3 = some i ∧ i.bytes = 8 := by
  have h : (Try.prog.info? 3).map (·.bytes) = some 8 := by kernel_rfl
  obtain ⟨i, hi, hb⟩ := Option.map_eq_some_iff.1 h
  exact ⟨i, hi, hb⟩
theorem mk (w : World) (n : Nat) (hn : n ≤ 16) : (Instr.makeChan 76 (.int .i64 (n : Int))).run Try.prog w = .ok (.chan (some w.heap.size)) (w.alloc (.chan n #[] false 0 0 false)) := by
  obtain ⟨i, hi, hb⟩ := bytesE
  simpa using run_makeChan (P := Try.prog) (w := w) Try.underlying76 hi .i64 n (by omega) (by rw [hb]; omega)

set_option maxRecDepth 100000 in
theorem put_room (b c cap s r : Nat) (q : Array Value) (v : Value) (w : World) (h1 : w.cell? ⟨b, 0, none⟩ = some (.chan (some c))) (h2 : w.heap[c]? = some (.chan cap q false s r false)) (hr : q.size < cap) :
    Calls Try.prog 14 #[.pointer (some ⟨b, 0, none⟩), v] w fun e w' => e = .returned (.bool true) ∧ w' = w.setChan c cap (q.push v) false (s + 1) r false := by
  refine calls_of_loneTo fun cs => ?_
  have e : Frame.enter Try.prog 14 #[.pointer (some ⟨b, 0, none⟩), v] .normal = (base 14).at ⟨#[.pointer (some ⟨b, 0, none⟩), v, undef, undef, undef, undef, undef, undef, undef, undef, undef, undef, undef], []⟩ [.code (Try.f14.body.getD .skip)] := by
    simp [Frame.enter, Frame.at, Try.func14, base, Try.f14]
  rw [e]
  refine LoneTo.goes (n := 17) ?_
  simp only [Try.f14, Option.getD_some]
  s_c stepG_seq
  s_reg
  s_op
  s_c stepG_region_end
  s_c stepG_seq
  s_c stepG_seq
  s_reg
  s_op
  s_op
  s_op
  s_op
  s_c stepG_region_end
  s_reg
  s_op
  s_c stepG_region_end
  s_c stepG_seq
  s_reg
  s_stop
  refine LoneTo.step (step_lone_select_send_room (c := c) (cap := cap) (buf := q) (s := s) (r := r) (tm := false) (stepG_comm (cases := #[scase c v (.int .i64 0)]) (blocking := false) (shape := .select) (w' := w) rfl rfl (by decide) (by simp [go_sem, execOp, scase, Act.eval])) h2 hr) ?_
  rw [Frame.finish_at]
  walk_nrm
  refine LoneTo.goes (n := 10) ?_
  s_op
  s_op
  s_c stepG_region_end
  s_c stepG_block
  s_cond true
  s_c stepG_seq
  s_reg
  s_op
  s_c stepG_region_end
  s_c stepG_ret'
  s_stop
  refine LoneTo.done ⟨.returned (.bool true), _, rfl, ⟨rfl, rfl⟩, rfl, rfl, rfl, rfl, _, Try.func14, by simp [results, Try.f14, Frame.at]⟩

set_option maxRecDepth 100000 in
theorem put_full (b c cap s r : Nat) (q : Array Value) (v : Value) (w : World) (h1 : w.cell? ⟨b, 0, none⟩ = some (.chan (some c))) (h2 : w.heap[c]? = some (.chan cap q false s r false)) (hr : cap ≤ q.size) :
    Calls Try.prog 14 #[.pointer (some ⟨b, 0, none⟩), v] w fun e w' => e = .returned (.bool false) ∧ w' = w := by
  refine calls_of_loneTo fun cs => ?_
  have e : Frame.enter Try.prog 14 #[.pointer (some ⟨b, 0, none⟩), v] .normal = (base 14).at ⟨#[.pointer (some ⟨b, 0, none⟩), v, undef, undef, undef, undef, undef, undef, undef, undef, undef, undef, undef], []⟩ [.code (Try.f14.body.getD .skip)] := by
    simp [Frame.enter, Frame.at, Try.func14, base, Try.f14]
  rw [e]
  refine LoneTo.goes (n := 17) ?_
  simp only [Try.f14, Option.getD_some]
  s_c stepG_seq
  s_reg
  s_op
  s_c stepG_region_end
  s_c stepG_seq
  s_c stepG_seq
  s_reg
  s_op
  s_op
  s_op
  s_op
  s_c stepG_region_end
  s_reg
  s_op
  s_c stepG_region_end
  s_c stepG_seq
  s_reg
  s_stop
  refine LoneTo.step (step_lone_select_send_full (c := c) (cap := cap) (buf := q) (s := s) (r := r) (tm := false) (stepG_comm (cases := #[scase c v (.int .i64 0)]) (blocking := false) (shape := .select) (w' := w) rfl rfl (by decide) (by simp [go_sem, execOp, scase, Act.eval])) h2 hr) ?_
  rw [Frame.finish_at]
  walk_nrm
  refine LoneTo.goes (n := 10) ?_
  s_op
  s_op
  s_c stepG_region_end
  s_c stepG_block
  s_cond false
  s_c stepG_seq
  s_reg
  s_op
  s_c stepG_region_end
  s_c stepG_ret'
  s_stop
  refine LoneTo.done ⟨.returned (.bool false), _, rfl, ⟨rfl, rfl⟩, rfl, rfl, rfl, rfl, _, Try.func14, by simp [results, Try.f14, Frame.at]⟩

set_option maxRecDepth 100000 in
theorem take_one (b c cap s r : Nat) (q : Array Value) (w : World) (h1 : w.cell? ⟨b, 0, none⟩ = some (.chan (some c))) (h2 : w.heap[c]? = some (.chan cap q false s r false)) (hr : 0 < q.size) :
    Calls Try.prog 12 #[.pointer (some ⟨b, 0, none⟩)] w fun e w' => e = .returned (.tuple #[q.getD 0 undef, .bool true]) ∧ w' = w.setChan c cap (q.extract 1 q.size) false s (r + 1) false := by
  refine calls_of_loneTo fun cs => ?_
  have e : Frame.enter Try.prog 12 #[.pointer (some ⟨b, 0, none⟩)] .normal = (base 12).at ⟨#[.pointer (some ⟨b, 0, none⟩), undef, undef, undef, undef, undef, undef, undef, undef, undef, undef, undef, undef, undef, undef], []⟩ [.code (Try.f12.body.getD .skip)] := by
    simp [Frame.enter, Frame.at, Try.func12, base, Try.f12]
  rw [e]
  refine LoneTo.goes (n := 14) ?_
  simp only [Try.f12, Option.getD_some]
  s_c stepG_seq
  s_reg
  s_op
  s_op
  s_c stepG_region_end
  s_c stepG_seq
  s_reg
  s_op
  s_op
  s_op
  s_op
  s_c stepG_region_end
  s_c stepG_seq
  s_reg
  s_stop
  refine LoneTo.step (step_lone_select_recv_buf (c := c) (cap := cap) (buf := q) (closed := false) (s := s) (r := r) (tm := false) (stepG_comm (cases := #[rcase c (.int .i64 0)]) (blocking := false) (shape := .select) (w' := w) rfl rfl (by decide) (by simp [go_sem, execOp, rcase, Act.eval])) h2 hr) ?_
  rw [Frame.finish_at]
  generalize q.getD 0 undef = x0
  walk_nrm
  refine LoneTo.goes (n := 17) ?_
  s_op
  s_op
  s_c stepG_region_end
  s_c stepG_block
  s_cond true
  s_c stepG_seq
  s_reg
  s_op
  s_op
  s_c stepG_region_end
  s_c stepG_seq
  s_reg
  s_op
  s_op
  s_op
  s_c stepG_region_end
  s_c stepG_ret'
  s_stop
  refine LoneTo.done ⟨.returned (.tuple #[x0, .bool true]), _, rfl, ⟨rfl, rfl⟩, rfl, rfl, rfl, rfl, _, Try.func12, by simp [results, Try.f12, Frame.at]⟩

set_option maxRecDepth 100000 in
theorem take_none (b c cap s r : Nat) (w : World) (h1 : w.cell? ⟨b, 0, none⟩ = some (.chan (some c))) (h2 : w.heap[c]? = some (.chan cap #[] false s r false)) :
    Calls Try.prog 12 #[.pointer (some ⟨b, 0, none⟩)] w fun e w' => e = .returned (.tuple #[.int .i64 0, .bool false]) ∧ w' = w := by
  refine calls_of_loneTo fun cs => ?_
  have e : Frame.enter Try.prog 12 #[.pointer (some ⟨b, 0, none⟩)] .normal = (base 12).at ⟨#[.pointer (some ⟨b, 0, none⟩), undef, undef, undef, undef, undef, undef, undef, undef, undef, undef, undef, undef, undef, undef], []⟩ [.code (Try.f12.body.getD .skip)] := by
    simp [Frame.enter, Frame.at, Try.func12, base, Try.f12]
  rw [e]
  refine LoneTo.goes (n := 14) ?_
  simp only [Try.f12, Option.getD_some]
  s_c stepG_seq
  s_reg
  s_op
  s_op
  s_c stepG_region_end
  s_c stepG_seq
  s_reg
  s_op
  s_op
  s_op
  s_op
  s_c stepG_region_end
  s_c stepG_seq
  s_reg
  s_stop
  refine LoneTo.step (step_lone_select_default (c := c) (z := .int .i64 0) (cap := cap) (s := s) (r := r) (tm := false) (stepG_comm (cases := #[rcase c (.int .i64 0)]) (blocking := false) (shape := .select) (w' := w) rfl rfl (by decide) (by simp [go_sem, execOp, rcase, Act.eval])) h2) ?_
  rw [Frame.finish_at]
  walk_nrm
  refine LoneTo.goes (n := 12) ?_
  s_op
  s_op
  s_c stepG_region_end
  s_c stepG_block
  s_cond false
  s_c stepG_seq
  s_reg
  s_op
  s_op
  s_op
  s_c stepG_region_end
  s_c stepG_ret'
  s_stop
  refine LoneTo.done ⟨.returned (.tuple #[.int .i64 0, .bool false]), _, rfl, ⟨rfl, rfl⟩, rfl, rfl, rfl, rfl, _, Try.func12, by simp [results, Try.f12, Frame.at]⟩

/-- Put: what there is room for is the last one; what there is none for is not there -/
theorem put_ok {b c cap : Nat} {l : List Value} {w : World} (v : Value) (h : Ln w b c cap l) (hr : l.length < cap) :
    Calls Try.prog 14 #[.pointer (some ⟨b, 0, none⟩), v] w fun e w' => e = .returned (.bool true) ∧ Ln w' b c cap (l ++ [v]) ∧ But c w w' := by
  have hk := h
  obtain ⟨h1, s, r, h2⟩ := h
  refine (put_room b c cap s r _ v w h1 h2 (by simpa using hr)).mono ?_
  rintro e w' ⟨rfl, rfl⟩
  exact ⟨rfl, hk.set _ _ (by simp) _ _, But.setChan _ _ _ _ _ _⟩
theorem put_no {b c cap : Nat} {l : List Value} {w : World} (v : Value) (h : Ln w b c cap l) (hr : cap ≤ l.length) :
    Calls Try.prog 14 #[.pointer (some ⟨b, 0, none⟩), v] w fun e w' => e = .returned (.bool false) ∧ w' = w := by
  obtain ⟨h1, s, r, h2⟩ := h
  exact put_full b c cap s r _ v w h1 h2 (by simpa using hr)
theorem take_ok {b c cap : Nat} {x : Value} {l : List Value} {w : World} (h : Ln w b c cap (x :: l)) :
    Calls Try.prog 12 #[.pointer (some ⟨b, 0, none⟩)] w fun e w' => e = .returned (.tuple #[x, .bool true]) ∧ Ln w' b c cap l ∧ But c w w' := by
  have hk := h
  obtain ⟨h1, s, r, h2⟩ := h
  refine (take_one b c cap s r _ w h1 h2 (by simp)).mono ?_
  rintro e w' ⟨rfl, rfl⟩
  exact ⟨by simp, hk.set _ _ (by simp) _ _, But.setChan _ _ _ _ _ _⟩
theorem take_no {b c cap : Nat} {w : World} (h : Ln w b c cap []) :
    Calls Try.prog 12 #[.pointer (some ⟨b, 0, none⟩)] w fun e w' => e = .returned (.tuple #[.int .i64 0, .bool false]) ∧ w' = w := by
  obtain ⟨h1, s, r, h2⟩ := h
  exact take_none b c cap s r w h1 h2

theorem take_any {b c cap : Nat} {l : List Value} {w : World} (h : Ln w b c cap l) :
    Calls Try.prog 12 #[.pointer (some ⟨b, 0, none⟩)] w fun e w' => e = .returned (.tuple #[l.headD (.int .i64 0), .bool (!l.isEmpty)]) ∧ Ln w' b c cap l.tail ∧ But c w w' := by
  cases l with
  | nil =>
    refine (take_no h).mono ?_
    rintro e w' ⟨rfl, rfl⟩
    exact ⟨rfl, h, But.refl _ _⟩
  | cons x l => exact take_ok h

/-- New -/
theorem new_ok (n : Nat) (h1 : 1 ≤ n) (hn : n ≤ 16) (w : World) :
    Calls Try.prog 8 #[.int .i64 (n : Int)] w fun e w' => ∃ b c, e = .returned (.tuple #[.pointer (some ⟨b, 0, none⟩), .int .i64 0]) ∧ w.heap.size ≤ c ∧ w.heap.size ≤ b ∧ Ln w' b c n [] ∧ Below w.heap.size w w' := by
  have hm := mk w n hn
  have k1 : decide ((n : Int) < 1) = false := by simp; omega
  have k2 : decide ((16 : Int) < (n : Int)) = false := by simp; omega
  go_enter Try.func8, Try.ntmps8
  go_wp2_with fail
  go_ret2
  refine ⟨w.heap.size + 1, w.heap.size, rfl, Nat.le_refl _, by omega, ⟨?_, 0, 0, ?_⟩, ?_⟩
  · simp [go_sem]
  · rw [Below.heap_alloc _ _ _ (by simp)]
    exact heap_alloc_new w _
  · exact ((Below.refl _ _).alloc (Nat.le_refl _) _).alloc (by simp) _
theorem new_no (n : Int) (hn : n < 1 ∨ 16 < n) (w : World) :
    Calls Try.prog 8 #[.int .i64 n] w fun e w' => e = .returned (.tuple #[.pointer none, .int .i64 1]) ∧ w' = w := by
  rcases hn with hn | hn
  · have k1 : decide (n < 1) = true := by simp; omega
    go_enter Try.func8, Try.ntmps8
    go_wp2_with fail
    go_ret2
    exact ⟨rfl, rfl⟩
  · have k1 : decide (n < 1) = false := by simp; omega
    have k2 : decide (16 < n) = true := by simp; omega
    go_enter Try.func8, Try.ntmps8
    go_wp2_with fail
    go_ret2
    exact ⟨rfl, rfl⟩

theorem len_ok {b c cap : Nat} {l : List Value} {w : World} (h : Ln w b c cap l) :
    Calls Try.prog 16 #[.pointer (some ⟨b, 0, none⟩)] w fun e w' => e = .returned (.int .i64 (l.length : Int)) ∧ w' = w := by
  obtain ⟨h1, s, r, h2⟩ := h
  have hlen := fun ty => run_len_chan (P := Try.prog) 76 ty Try.underlying76 h2
  simp only [goInt, List.size_toArray] at hlen
  go_enter Try.func16, Try.ntmps16
  go_wp2_with fail
  go_ret
  exact ⟨rfl, rfl⟩

theorem room_ok {b c cap : Nat} {l : List Value} {w : World} (h : Ln w b c cap l) :
    Calls Try.prog 17 #[.pointer (some ⟨b, 0, none⟩)] w fun e w' => e = .returned (.int .i64 (cap : Int)) ∧ w' = w := by
  obtain ⟨h1, s, r, h2⟩ := h
  have hcap := fun ty => run_cap_chan (P := Try.prog) 76 ty Try.underlying76 h2
  simp only [goInt] at hcap
  go_enter Try.func17, Try.ntmps17
  go_wp2_with fail
  go_ret
  exact ⟨rfl, rfl⟩

theorem info : (Try.prog.info? 3).map (fun i => (i.zero, i.size, i.bytes)) = some (some (.int .i64 0), 1, 8) := by kernel_rfl
set_option maxHeartbeats 1000000 in
set_option maxRecDepth 100000 in
theorem drain_ok {b c cap : Nat} {l : List Value} {w : World} (h : Ln w b c cap l) (hl : l.length ≤ 16) (h1 : ∀ v ∈ l, ∃ x : Int, v = .int .i64 x) :
    Calls Try.prog 10 #[.pointer (some ⟨b, 0, none⟩)] w fun e w' => e = .returned (.slice (some ⟨w.heap.size, 0, none⟩) l.length l.length) ∧
      Own w' w.heap.size 3 l.length l.length l ∧ Ln w' b c cap [] ∧ But c w w' := by
  obtain ⟨i0, hi, hz0, hz1, hz2⟩ := info_parts info
  have H : Hid _ := h
  have H1 : Hid _ := h1
  have hbw := h.blt
  have hcw := h.lt
  clear h h1
  obtain ⟨n, hn⟩ : ∃ n, n = l.length := ⟨_, rfl⟩
  rw [← hn] at hl ⊢
  go_enter Try.func10, Try.ntmps10
  go_wp2_with fail
  refine (len_ok H.out).mono ?_
  rintro e w1 ⟨rfl, rfl⟩
  rw [← hn]
  have HN : Hid (n = l.length) := hn
  clear hn
  go_wp2_with (at_make; refine wpList_make_own _ rfl _ _ 33 rfl w1.heap.size 3 i0 (.int .i64 0) 1 Try.underlying33 hi hz0 hz1 _ _ _ n rfl rfl (by omega) (by rw [hz2]; omega) (by unfold maxLen; omega) (Nat.le_refl _) ?_; intro w2 hown2 hgrow2)
  have O2 : Hid (Own w2 w1.heap.size 3 0 n []) := ⟨hown2⟩
  have L2 : Hid _ := H.out.grown hgrow2 (by simp) (by simp)
  have B2 : Hid _ := (But.refl c w1).grown hgrow2 (by intro k hk; cases hk)
  clear hown2 hgrow2
  refine (take_any L2.out).mono ?_
  rintro e w3 ⟨rfl, hL3, hB3⟩
  have O3 := O2.out.but L2.out hB3
  have B3 := B2.out.trans hB3
  clear O2 L2 B2 hB3
  obtain ⟨x, hx⟩ : ∃ x, x = l.headD (.int .i64 0) := ⟨_, rfl⟩
  obtain ⟨k, hk⟩ : ∃ k, k = !l.isEmpty := ⟨_, rfl⟩
  rw [← hx, ← hk]
  have HX : Hid _ := hx
  have HK : Hid _ := hk
  have HO : Hid _ := O3
  have HL : Hid _ := hL3
  have HB : Hid _ := B3
  clear hx hk O3 hL3 B3
  go_wp2_with fail
  go_loopw [3, 4, 5] (fun sv xv okv wr => ∃ acc rest : List Value, l = acc ++ rest ∧ sv = .slice (some ⟨w1.heap.size, 0, none⟩) acc.length n ∧ xv = rest.headD (.int .i64 0) ∧ okv = .bool (!rest.isEmpty) ∧
      Hid (Own wr w1.heap.size 3 acc.length n acc) ∧ Hid (Ln wr b c cap rest.tail) ∧ Hid (But c w1 wr)) (fun sv _ _ _ => n + 1 - slen sv)
  case atStart => exact ⟨[], l, rfl, rfl, HX.out, by rw [HK.out], HO, HL, HB⟩
  case round =>
    obtain ⟨acc, rest, hl0, rfl, rfl, rfl, hO, hL, hB⟩ := hrel
    have hnl : n = acc.length + rest.length := by rw [HN.out, hl0, List.length_append]
    cases rest with
    | nil =>
      simp only [List.headD_nil, List.isEmpty_nil, Bool.not_true]
      have e1 : acc.length = n := by rw [hnl]; rfl
      go_wp2_with fail
      go_ret
      rw [List.append_nil] at hl0
      refine ⟨by rw [← e1]; rfl, ?_, hL.out, hB.out⟩
      have := hO.out
      rw [e1] at this
      rw [hl0]
      exact this
    | cons v rest =>
      simp only [List.headD_cons, List.isEmpty_cons, Bool.not_false, List.tail_cons] at hL ⊢
      obtain ⟨q, rfl⟩ := H1.out v (by rw [hl0]; simp)
      have HR : Hid _ := hl0
      rw [List.length_cons] at hnl
      obtain ⟨m, hm⟩ : ∃ m, m = acc.length := ⟨_, rfl⟩
      rw [← hm] at hO hnl ⊢
      have HM : Hid _ := hm
      have hml : m + 1 ≤ n := by omega
      have HNL : Hid _ := hnl
      clear hl0 hm hnl
      go_wp2_with (at_builtin; refine wpList_append_fits _ rfl (.tmp 20) (.tmp 22) 33 rfl w1.heap.size 3 i0 1 Try.underlying33 hi hz1 w1.heap.size m n _ rfl (hO.out.own.alloc _) ⟨wr.heap.size, 0, none⟩ 1 1 [Value.int .i64 q] rfl rfl (by intro t u ht; match t, ht with | 0, ht => simp at ht; subst ht; simp [Addr.add]) (by intro u hu; simp at hu; subst hu; rfl) (by omega) ?_; intro w4 hown4 hgrow4)
      have hL4 : Ln w4 b c cap rest := Ln.grown (Ln.grown hL.out (World.grownBy_alloc wr _ none) (by simp) (by simp)) hgrow4 (by intro h; cases h; omega) (by intro h; cases h; omega)
      have hB4 : But c w1 w4 := (hB.out.grown (World.grownBy_alloc wr _ none) (by intro k hk; cases hk)).grown hgrow4 (by intro k hk; cases hk; exact Nat.le_refl _)
      refine (take_any hL4).mono ?_
      rintro e w5 ⟨rfl, hL5, hB5⟩
      have hO5 := Own.but ⟨hown4⟩ hL4 hB5
      have hB6 := hB4.trans hB5
      clear hown4 hgrow4 hL4 hB4 hB5 hO hL hB
      have K1 : Hid _ := hL5
      have K2 : Hid _ := hO5
      have K3 : Hid _ := hB6
      clear hL5 hO5 hB6
      obtain ⟨x, hx⟩ : ∃ x, x = rest.headD (.int .i64 0) := ⟨_, rfl⟩
      obtain ⟨k, hk⟩ : ∃ k, k = !rest.isEmpty := ⟨_, rfl⟩
      rw [← hx, ← hk]
      have HX : Hid _ := hx
      have HK : Hid _ := hk
      clear hx hk
      go_wp2_with fail
      go_roundw
      case rel =>
        have em : (acc ++ [Value.int .i64 q]).length = m + 1 := by rw [HM.out]; simp
        refine ⟨acc ++ [Value.int .i64 q], rest, by rw [HR.out]; simp, by rw [em], HX.out, by rw [HK.out], ?_, K1, K3⟩
        rw [em]; exact K2.out
      case measure => simp [slen]; omega
end Go.Proofs.Ytbhehdkljolpkaa.Int
