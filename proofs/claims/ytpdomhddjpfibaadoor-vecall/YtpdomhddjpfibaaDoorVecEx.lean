/- The chapter's examples, as each law asks them first. -/
import Derived.Test.YtpdomhddjpfibaaDoorVecGet

import Derived.Test.YtpdomhddjpfibaaDoorVecAllF

import Derived.Test.YtpdomhddjpfibaaDoorVecText

namespace Go.Proofs.YtpdomhddjpfibaaDoor.Vc

open Go.RowKit

set_option linter.unusedVariables false

set_option linter.unusedSimpArgs false

set_option maxRecDepth 100000

section

variable {ops : Array Oper} {rest : List Oper} {o : Oper} {a : Act} {w : World} {Q : Exit → Act → World → Prop}

theorem eq_step (hgd : o.guard = none) (x y : Operand) (t' : TypeId) (ho : o.op = .binOp .eql 24 x y t') (l m : List Nat) (hx : a.eval x = AV .u64 l) (hy : a.eval y = AV .u64 m) (hl : l.length = 4) (hm : m.length = 4)
    (h : wpList Tryd.prog ops Q rest (a.put o.dst (.bool (decide (l = m)))) w) : wpList Tryd.prog ops Q (o :: rest) a w :=
  val_step hgd _ (run_eql w .eql _ t' x y _ _ _ ho hx hy (guard_v _ _ _ _ w) (eql_v l m hl hm w)) h
theorem eq_stepg (hw : Region.wanted o (yielded ops a.tmps) = true) (x y : Operand) (t' : TypeId) (ho : o.op = .binOp .eql 24 x y t') (l m : List Nat) (hx : a.eval x = AV .u64 l) (hy : a.eval y = AV .u64 m) (hl : l.length = 4) (hm : m.length = 4)
    (h : wpList Tryd.prog ops Q rest (a.put o.dst (.bool (decide (l = m)))) w) : wpList Tryd.prog ops Q (o :: rest) a w :=
  val_stepg hw _ (run_eql w .eql _ t' x y _ _ _ ho hx hy (guard_v _ _ _ _ w) (eql_v l m hl hm w)) h
end

/-- what the examples hold on to -/
structure Ex (w : World) (X Y : Nat) (w' : World) : Prop where
  a : Arr .u64 w' w.heap.size [1, 2, 0, 0]
  b : Arr .u64 w' (w.heap.size + 1) [2, 1, 0, 7]
  c : Arr .u64 w' X [2, 1, 0, 7]
  r : Blk w' Y [.string ⟨#[120]⟩, .bool false]
  under : Below w.heap.size w w'
  lt : w.heap.size + 1 < w'.heap.size ∧ X < w'.heap.size ∧ Y < w'.heap.size
theorem Ex.below {w w' w'' : World} {X Y : Nat} (h : Ex w X Y w') (hb : Below w'.heap.size w' w'') : Ex w X Y w'' := by
  have hz := hb.size
  have h1 := h.lt
  exact ⟨h.a.below hb (by omega), h.b.below hb (by omega), h.c.below hb (by omega), h.r.below hb (by omega), h.under.trans (hb.mono h.under.size), by omega⟩
theorem ex_put : P.S (V.put [2, 1, 0, 7]) = ⟨#[2, 1, 0, 7]⟩ := by decide +kernel
def exS : ByteArray := ⟨#[2, 1, 0, 7]⟩ ++ ⟨#[120]⟩
theorem ex_get : V.gets exS false = ([2, 1, 0, 7], ⟨#[120]⟩, false) := by decide +kernel
theorem ex_join : V.join [1, 2, 0, 0] [2, 1, 0, 7] = [2, 2, 0, 7] := by decide +kernel
theorem ex_meet : V.meet [1, 2, 0, 0] [2, 1, 0, 7] = [1, 1, 0, 0] := by decide +kernel
theorem ex_leq : V.leq [1, 2, 0, 0] [2, 1, 0, 7] = false := by decide +kernel
theorem ex_leq2 : V.leq [1, 2, 0, 0] [2, 2, 0, 7] = true := by decide +kernel
theorem ex_at4 : V.at_ [2, 1, 0, 7] 4 = 7 := by decide +kernel
theorem ex_at5 : V.at_ [2, 1, 0, 7] 5 = 0 := by decide +kernel
theorem ex_with : V.with_ [1, 2, 0, 0] 2 9 = [1, 9, 0, 0] := by decide +kernel
theorem ex_sum : V.sum [2, 1, 0, 7] = 10 := by decide +kernel
theorem ex_right : V.right [1, 2, 0, 0] = true := by decide +kernel
theorem ex_size : exS.size ≤ maxLen := by decide +kernel
theorem ex_oka : V.Ok [1, 2, 0, 0] := ⟨rfl, by decide +kernel⟩
theorem ex_okb : V.Ok [2, 1, 0, 7] := ⟨rfl, by decide +kernel⟩
theorem ex_small : ∀ j, j < 4 → [1, 2, 0, 0].getD j 0 < 100 := by decide +kernel
theorem ex_text : P.S (text [1, 2, 0, 0]) = ⟨#[49, 44, 50, 44, 48, 44, 48]⟩ := by
  simp [text, Fm.digs, Lib.decDigits, Lib.join, List.intercalate, P.S]
theorem ex_index (u : World) : (Instr.index 24 (AV .u64 [1, 9, 0, 0]) (.int .i64 1)).run Tryd.prog u = .ok (.int .u64 9) u := index_v [1, 9, 0, 0] 1 rfl (by decide) u
theorem ex_getC (w : World) : Calls Tryd.prog 33 #[.agg #[.string exS, .bool false]] w fun e w' => e = .returned (.tuple #[AV .u64 [2, 1, 0, 7], .agg #[.string ⟨#[120]⟩, .bool false]]) ∧ Below w.heap.size w w' :=
  get_any exS false [2, 1, 0, 7] ⟨#[120]⟩ false w ex_size ex_get
set_option maxHeartbeats 4000000 in
theorem examples_any (w : World) :
    Calls Tryd.prog 10 #[] w fun e w' => e = .returned (.bool true) ∧ Below w.heap.size w w' := by
  have CP := Lib.hid (fun w => put_any [2, 1, 0, 7] w ex_okb)
  rw [ex_put] at CP
  have CG := Lib.hid ex_getC
  unfold exS at CG
  have CJ := Lib.hid (fun w => join_any [1, 2, 0, 0] [2, 1, 0, 7] w rfl rfl)
  rw [ex_join] at CJ
  have CM := Lib.hid (fun w => meet_any [1, 2, 0, 0] [2, 1, 0, 7] w rfl rfl)
  rw [ex_meet] at CM
  have CL := Lib.hid (fun w => leq_any [1, 2, 0, 0] [2, 1, 0, 7] w rfl rfl)
  rw [ex_leq] at CL
  have CL2 := Lib.hid (fun w => leq_any [1, 2, 0, 0] [2, 2, 0, 7] w rfl rfl)
  rw [ex_leq2] at CL2
  have CT4 := Lib.hid (fun w => at_any [2, 1, 0, 7] 4 w rfl)
  rw [ex_at4] at CT4
  have CT5 := Lib.hid (fun w => at_any [2, 1, 0, 7] 5 w rfl)
  rw [ex_at5] at CT5
  have CW := Lib.hid (fun w => with_any [1, 2, 0, 0] 2 9 w rfl)
  rw [ex_with] at CW
  have CS := Lib.hid (fun w => sum_any [2, 1, 0, 7] w rfl)
  rw [ex_sum] at CS
  have CX := Lib.hid (fun w => text_small [1, 2, 0, 0] w ex_oka ex_small)
  rw [ex_text] at CX
  have CN := Lib.hid (fun w => all_none none 0 w)
  have CR := Lib.hid (fun w => right_any [1, 2, 0, 0] w rfl)
  rw [ex_right] at CR
  go_enter Tryd.func10, Tryd.ntmps10
  go_wp2_with (first | refine arr_alloc rfl .u64 24 4 rfl Tryd.info_v ?_)
  intro w1 A1 B1 Z1
  go_wp2_with (first | refine arr_store rfl .u64 24 _ _ rfl w.heap.size rfl [1, 2, 0, 0] rfl _ A1 rfl Tryd.size_v ?_)
  intro w2 A2 U2
  have B2 : Below w.heap.size w w2 := B1.trans (U2.below (Nat.le_refl _))
  have Z2 : w2.heap.size = w.heap.size + 1 := by rw [U2.size, Z1]
  clear A1 B1 Z1 U2
  go_wp2_with (first | refine arr_alloc rfl .u64 24 4 rfl Tryd.info_v ?_)
  intro w3 A3 B3 Z3
  have A23 : Arr .u64 w3 w.heap.size [1, 2, 0, 0] := A2.below B3 (by omega)
  have B33 : Below w.heap.size w w3 := B2.trans (B3.mono (by omega))
  clear A2 B2 B3
  go_wp2_with (first | refine arr_store rfl .u64 24 _ _ rfl (w.heap.size + 1) rfl [2, 1, 0, 7] rfl _ A3 rfl Tryd.size_v ?_)
  intro w4 A4 U4
  have HA : Hid (Arr .u64 w4 w.heap.size [1, 2, 0, 0]) := A23.upd U4 (by omega)
  have HB : Hid (Arr .u64 w4 (w.heap.size + 1) [2, 1, 0, 7]) := A4
  have HW : Hid (Below w.heap.size w w4) := B33.trans (U4.below (by omega))
  have HZ : Hid (w4.heap.size = w.heap.size + 2) := by show _ = _; rw [U4.size, Z3]
  clear A23 B33 A3 A4 U4 Z2 Z3
  go_wp2_with (first | refine arr_load rfl .u64 24 _ rfl (w.heap.size + 1) rfl [2, 1, 0, 7] HB.out 4 22 Tryd.underlying24 Tryd.size_v ?_)
  refine (CP.out _).mono ?_; rintro e w5 ⟨rfl, hb5⟩
  have hz4 := HZ.out
  have HA5 : Hid (Arr .u64 w5 w.heap.size [1, 2, 0, 0]) := Arr.below HA.out hb5 (by omega)
  have HB5 : Hid (Arr .u64 w5 (w.heap.size + 1) [2, 1, 0, 7]) := Arr.below HB.out hb5 (by omega)
  have HW5 : Hid (Below w.heap.size w w5) := Below.trans HW.out (hb5.mono HW.out.size)
  have hz5 : w.heap.size + 2 ≤ w5.heap.size := by have := hb5.size; omega
  clear HA HB HW HZ hz4 hb5
  go_wp2_with fail
  refine (CG.out _).mono ?_; rintro e w6 ⟨rfl, hb6⟩
  have HA6 : Hid (Arr .u64 w6 w.heap.size [1, 2, 0, 0]) := Arr.below HA5.out hb6 (by omega)
  have HB6 : Hid (Arr .u64 w6 (w.heap.size + 1) [2, 1, 0, 7]) := Arr.below HB5.out hb6 (by omega)
  have HW6 : Hid (Below w.heap.size w w6) := Below.trans HW5.out (hb6.mono HW5.out.size)
  have hz6 : w.heap.size + 2 ≤ w6.heap.size := by have := hb6.size; omega
  clear HA5 HB5 HW5 hz5 hb6
  go_wp2_with (first | refine arr_alloc rfl .u64 24 4 rfl Tryd.info_v ?_)
  intro w7 A7 B7 Z7
  go_wp2_with (first | refine blk_alloc rfl 51 [.string ⟨#[]⟩, .bool false] rfl Tryd.info_rd ?_)
  intro w8 A8 B8 Z8
  go_wp2_with (first | refine arr_store rfl .u64 24 _ _ rfl w6.heap.size rfl [2, 1, 0, 7] rfl _ (A7.below B8 (by omega)) rfl Tryd.size_v ?_)
  intro w9 A9 U9
  have A8' : Blk w9 (w6.heap.size + 1) [.string ⟨#[]⟩, .bool false] := A8.upd U9 (by omega)
  go_wp2_with (first | refine blk_store rfl 51 _ _ rfl (w6.heap.size + 1) rfl [.string ⟨#[120]⟩, .bool false] rfl _ A8' rfl Tryd.size_rd rfl ?_)
  intro w10 A10 U10
  have K7 : Below w6.heap.size w6 w8 := B7.trans (B8.mono (by omega))
  have K8 : Below w6.heap.size w6 w10 := (K7.trans (U9.below (Nat.le_refl _))).trans (U10.below (by omega))
  have hs9 := U9.size
  have hs10 := U10.size
  have E0 : Hid (Ex w w6.heap.size (w6.heap.size + 1) w10) := ⟨Arr.below HA6.out K8 (by omega), Arr.below HB6.out K8 (by omega), A9.upd U10 (by omega), A10, Below.trans HW6.out (K8.mono HW6.out.size), by omega⟩
  clear A7 B7 Z7 A8 B8 Z8 A9 U9 A8' A10 U10 K7 K8 hs9 hs10 HA6 HB6 HW6 hz6
  go_wp2_with fail
  have KA : Hid (∀ u, Below w10.heap.size w10 u → Arr .u64 u w.heap.size [1, 2, 0, 0]) := fun u hu => (Ex.below E0.out hu).a
  have KB : Hid (∀ u, Below w10.heap.size w10 u → Arr .u64 u (w.heap.size + 1) [2, 1, 0, 7]) := fun u hu => (Ex.below E0.out hu).b
  have KC : Hid (∀ u, Below w10.heap.size w10 u → Arr .u64 u w6.heap.size [2, 1, 0, 7]) := fun u hu => (Ex.below E0.out hu).c
  have KR0 : Hid (∀ u, Below w10.heap.size w10 u → u.cell? ⟨w6.heap.size + 1, 0, none⟩ = some (.string ⟨#[120]⟩)) := fun u hu => (Ex.below E0.out hu).r.cell 0 _ rfl
  have KCJ : Hid (∀ u, Below w10.heap.size w10 u → Calls Tryd.prog 12 [AV .u64 [1, 2, 0, 0], AV .u64 [2, 1, 0, 7]].toArray u fun e u' => e = .returned (AV .u64 [2, 2, 0, 7]) ∧ Below w10.heap.size w10 u') := fun u hu => Calls.more hu (CJ.out u)
  have KCM : Hid (∀ u, Below w10.heap.size w10 u → Calls Tryd.prog 14 [AV .u64 [1, 2, 0, 0], AV .u64 [2, 1, 0, 7]].toArray u fun e u' => e = .returned (AV .u64 [1, 1, 0, 0]) ∧ Below w10.heap.size w10 u') := fun u hu => Calls.more hu (CM.out u)
  have KCL : Hid (∀ u, Below w10.heap.size w10 u → Calls Tryd.prog 22 [AV .u64 [1, 2, 0, 0], AV .u64 [2, 1, 0, 7]].toArray u fun e u' => e = .returned (.bool false) ∧ Below w10.heap.size w10 u') := fun u hu => Calls.more hu (CL.out u)
  have KCL2 : Hid (∀ u, Below w10.heap.size w10 u → Calls Tryd.prog 22 [AV .u64 [1, 2, 0, 0], AV .u64 [2, 2, 0, 7]].toArray u fun e u' => e = .returned (.bool true) ∧ Below w10.heap.size w10 u') := fun u hu => Calls.more hu (CL2.out u)
  have KCT4 : Hid (∀ u, Below w10.heap.size w10 u → Calls Tryd.prog 24 [AV .u64 [2, 1, 0, 7], .int .i64 4].toArray u fun e u' => e = .returned (.int .u64 7) ∧ Below w10.heap.size w10 u') := fun u hu => Calls.more hu (CT4.out u)
  have KCT5 : Hid (∀ u, Below w10.heap.size w10 u → Calls Tryd.prog 24 [AV .u64 [2, 1, 0, 7], .int .i64 5].toArray u fun e u' => e = .returned (.int .u64 0) ∧ Below w10.heap.size w10 u') := fun u hu => Calls.more hu (CT5.out u)
  have KCW : Hid (∀ u, Below w10.heap.size w10 u → Calls Tryd.prog 16 [AV .u64 [1, 2, 0, 0], .int .i64 2, .int .u64 9].toArray u fun e u' => e = .returned (AV .u64 [1, 9, 0, 0]) ∧ Below w10.heap.size w10 u') := fun u hu => Calls.more hu (CW.out u)
  have KCS : Hid (∀ u, Below w10.heap.size w10 u → Calls Tryd.prog 26 [AV .u64 [2, 1, 0, 7]].toArray u fun e u' => e = .returned (.int .u64 10) ∧ Below w10.heap.size w10 u') := fun u hu => Calls.more hu (CS.out u)
  have KCX : Hid (∀ u, Below w10.heap.size w10 u → Calls Tryd.prog 30 [AV .u64 [1, 2, 0, 0]].toArray u fun e u' => e = .returned (.string ⟨#[49, 44, 50, 44, 48, 44, 48]⟩) ∧ Below w10.heap.size w10 u') := fun u hu => Calls.more hu (CX.out u)
  have KCN : Hid (∀ u, Below w10.heap.size w10 u → Calls Tryd.prog 18 [.slice none 0 0].toArray u fun e u' => e = .returned (AV .u64 V.zeros) ∧ Below w10.heap.size w10 u') := fun u hu => Calls.more hu (CN.out u)
  have KCR : Hid (∀ u, Below w10.heap.size w10 u → Calls Tryd.prog 20 [AV .u64 [1, 2, 0, 0]].toArray u fun e u' => e = .returned (.bool true) ∧ Below w10.heap.size w10 u') := fun u hu => Calls.more hu (CR.out u)
  clear CP CG CJ CM CL CL2 CT4 CT5 CW CS CX CN CR
  refine region_w Tryd.mixed (by kernel_rfl) ?_
  refine w_arr_load rfl .u64 24 _ rfl (w.heap.size) rfl [1, 2, 0, 0] KA.out 4 22 Tryd.underlying24 Tryd.size_v (fun K hK => ?_)
  go_simp
  refine hK _ ?_
  clear hK K
  refine w_arr_load rfl .u64 24 _ rfl (w.heap.size + 1) rfl [2, 1, 0, 7] KB.out 4 22 Tryd.underlying24 Tryd.size_v (fun K hK => ?_)
  go_simp
  refine hK _ ?_
  clear hK K
  refine w_call rfl 12 Tryd.f12 Tryd.func12 rfl rfl _ _ rfl _ rfl (AV .u64 [2, 2, 0, 7]) (by exact KCJ.out) (fun K hK => ?_)
  go_simp
  refine hK _ ?_
  clear hK K
  refine w_value rfl (.agg #[.int .u64 2, .int .u64 2, .int .u64 0, .int .u64 7]) (fun u hu => by go_simp) (fun K hK => ?_)
  go_simp
  refine hK _ ?_
  clear hK K
  refine w_value rfl (.bool true) (fun u _ => run_eql u .eql 24 24 _ _ (AV .u64 [2, 2, 0, 7]) (AV .u64 [2, 2, 0, 7]) _ rfl rfl rfl (guard_v _ _ _ _ u) (eql_v [2, 2, 0, 7] [2, 2, 0, 7] rfl rfl u)) (fun K hK => ?_)
  go_simp
  refine hK _ ?_
  clear hK K
  refine w_move rfl _ rfl (.bool true) rfl (fun K hK => ?_)
  go_simp
  refine hK _ ?_
  clear hK K
  refine wg_arr_load (by rfl) .u64 24 _ rfl (w.heap.size) rfl [1, 2, 0, 0] KA.out 4 22 Tryd.underlying24 Tryd.size_v (fun K hK => ?_)
  go_simp
  refine hK _ ?_
  clear hK K
  refine wg_arr_load (by rfl) .u64 24 _ rfl (w.heap.size + 1) rfl [2, 1, 0, 7] KB.out 4 22 Tryd.underlying24 Tryd.size_v (fun K hK => ?_)
  go_simp
  refine hK _ ?_
  clear hK K
  refine wg_call (by rfl) 14 Tryd.f14 Tryd.func14 rfl rfl _ _ rfl _ rfl (AV .u64 [1, 1, 0, 0]) (by exact KCM.out) (fun K hK => ?_)
  go_simp
  refine hK _ ?_
  clear hK K
  refine wg_value (by rfl) (.agg #[.int .u64 1, .int .u64 1, .int .u64 0, .int .u64 0]) (fun u hu => by go_simp) (fun K hK => ?_)
  go_simp
  refine hK _ ?_
  clear hK K
  refine wg_value (by rfl) (.bool true) (fun u _ => run_eql u .eql 24 24 _ _ (AV .u64 [1, 1, 0, 0]) (AV .u64 [1, 1, 0, 0]) _ rfl rfl rfl (guard_v _ _ _ _ u) (eql_v [1, 1, 0, 0] [1, 1, 0, 0] rfl rfl u)) (fun K hK => ?_)
  go_simp
  refine hK _ ?_
  clear hK K
  refine w_value rfl (.bool true) (fun u hu => by go_simp) (fun K hK => ?_)
  go_simp
  refine hK _ ?_
  clear hK K
  refine w_move rfl _ rfl (.bool true) rfl (fun K hK => ?_)
  go_simp
  refine hK _ ?_
  clear hK K
  refine wg_arr_load (by rfl) .u64 24 _ rfl (w.heap.size) rfl [1, 2, 0, 0] KA.out 4 22 Tryd.underlying24 Tryd.size_v (fun K hK => ?_)
  go_simp
  refine hK _ ?_
  clear hK K
  refine wg_arr_load (by rfl) .u64 24 _ rfl (w.heap.size + 1) rfl [2, 1, 0, 7] KB.out 4 22 Tryd.underlying24 Tryd.size_v (fun K hK => ?_)
  go_simp
  refine hK _ ?_
  clear hK K
  refine wg_call (by rfl) 22 Tryd.f22 Tryd.func22 rfl rfl _ _ rfl _ rfl (.bool false) (by exact KCL.out) (fun K hK => ?_)
  go_simp
  refine hK _ ?_
  clear hK K
  refine wg_value (by rfl) (.bool true) (fun u hu => by go_simp) (fun K hK => ?_)
  go_simp
  refine hK _ ?_
  clear hK K
  refine w_value rfl (.bool true) (fun u hu => by go_simp) (fun K hK => ?_)
  go_simp
  refine hK _ ?_
  clear hK K
  refine w_move rfl _ rfl (.bool true) rfl (fun K hK => ?_)
  go_simp
  refine hK _ ?_
  clear hK K
  refine wg_arr_load (by rfl) .u64 24 _ rfl (w.heap.size) rfl [1, 2, 0, 0] KA.out 4 22 Tryd.underlying24 Tryd.size_v (fun K hK => ?_)
  go_simp
  refine hK _ ?_
  clear hK K
  refine wg_arr_load (by rfl) .u64 24 _ rfl (w.heap.size) rfl [1, 2, 0, 0] KA.out 4 22 Tryd.underlying24 Tryd.size_v (fun K hK => ?_)
  go_simp
  refine hK _ ?_
  clear hK K
  refine wg_arr_load (by rfl) .u64 24 _ rfl (w.heap.size + 1) rfl [2, 1, 0, 7] KB.out 4 22 Tryd.underlying24 Tryd.size_v (fun K hK => ?_)
  go_simp
  refine hK _ ?_
  clear hK K
  refine wg_call (by rfl) 12 Tryd.f12 Tryd.func12 rfl rfl _ _ rfl _ rfl (AV .u64 [2, 2, 0, 7]) (by exact KCJ.out) (fun K hK => ?_)
  go_simp
  refine hK _ ?_
  clear hK K
  refine wg_call (by rfl) 22 Tryd.f22 Tryd.func22 rfl rfl _ _ rfl _ rfl (.bool true) (by exact KCL2.out) (fun K hK => ?_)
  go_simp
  refine hK _ ?_
  clear hK K
  refine w_value rfl (.bool true) (fun u hu => by go_simp) (fun K hK => ?_)
  go_simp
  refine hK _ ?_
  clear hK K
  refine w_move rfl _ rfl (.bool true) rfl (fun K hK => ?_)
  go_simp
  refine hK _ ?_
  clear hK K
  refine wg_arr_load (by rfl) .u64 24 _ rfl (w.heap.size + 1) rfl [2, 1, 0, 7] KB.out 4 22 Tryd.underlying24 Tryd.size_v (fun K hK => ?_)
  go_simp
  refine hK _ ?_
  clear hK K
  refine wg_call (by rfl) 24 Tryd.f24 Tryd.func24 rfl rfl _ _ rfl _ rfl (.int .u64 7) (by exact KCT4.out) (fun K hK => ?_)
  go_simp
  refine hK _ ?_
  clear hK K
  refine wg_value (by rfl) (.bool true) (fun u hu => by go_simp) (fun K hK => ?_)
  go_simp
  refine hK _ ?_
  clear hK K
  refine w_value rfl (.bool true) (fun u hu => by go_simp) (fun K hK => ?_)
  go_simp
  refine hK _ ?_
  clear hK K
  refine w_move rfl _ rfl (.bool true) rfl (fun K hK => ?_)
  go_simp
  refine hK _ ?_
  clear hK K
  refine wg_arr_load (by rfl) .u64 24 _ rfl (w.heap.size + 1) rfl [2, 1, 0, 7] KB.out 4 22 Tryd.underlying24 Tryd.size_v (fun K hK => ?_)
  go_simp
  refine hK _ ?_
  clear hK K
  refine wg_call (by rfl) 24 Tryd.f24 Tryd.func24 rfl rfl _ _ rfl _ rfl (.int .u64 0) (by exact KCT5.out) (fun K hK => ?_)
  go_simp
  refine hK _ ?_
  clear hK K
  refine wg_value (by rfl) (.bool true) (fun u hu => by go_simp) (fun K hK => ?_)
  go_simp
  refine hK _ ?_
  clear hK K
  refine w_value rfl (.bool true) (fun u hu => by go_simp) (fun K hK => ?_)
  go_simp
  refine hK _ ?_
  clear hK K
  refine w_move rfl _ rfl (.bool true) rfl (fun K hK => ?_)
  go_simp
  refine hK _ ?_
  clear hK K
  refine wg_arr_load (by rfl) .u64 24 _ rfl (w.heap.size) rfl [1, 2, 0, 0] KA.out 4 22 Tryd.underlying24 Tryd.size_v (fun K hK => ?_)
  go_simp
  refine hK _ ?_
  clear hK K
  refine wg_call (by rfl) 16 Tryd.f16 Tryd.func16 rfl rfl _ _ rfl _ rfl (AV .u64 [1, 9, 0, 0]) (by exact KCW.out) (fun K hK => ?_)
  go_simp
  refine hK _ ?_
  clear hK K
  refine wg_value (by rfl) (.int .u64 9) (fun u hu => by have hi := ex_index u; go_simp) (fun K hK => ?_)
  go_simp
  refine hK _ ?_
  clear hK K
  refine wg_value (by rfl) (.bool true) (fun u hu => by go_simp) (fun K hK => ?_)
  go_simp
  refine hK _ ?_
  clear hK K
  refine w_value rfl (.bool true) (fun u hu => by go_simp) (fun K hK => ?_)
  go_simp
  refine hK _ ?_
  clear hK K
  refine w_move rfl _ rfl (.bool true) rfl (fun K hK => ?_)
  go_simp
  refine hK _ ?_
  clear hK K
  refine wg_arr_load (by rfl) .u64 24 _ rfl (w.heap.size + 1) rfl [2, 1, 0, 7] KB.out 4 22 Tryd.underlying24 Tryd.size_v (fun K hK => ?_)
  go_simp
  refine hK _ ?_
  clear hK K
  refine wg_call (by rfl) 26 Tryd.f26 Tryd.func26 rfl rfl _ _ rfl _ rfl (.int .u64 10) (by exact KCS.out) (fun K hK => ?_)
  go_simp
  refine hK _ ?_
  clear hK K
  refine wg_value (by rfl) (.bool true) (fun u hu => by go_simp) (fun K hK => ?_)
  go_simp
  refine hK _ ?_
  clear hK K
  refine w_value rfl (.bool true) (fun u hu => by go_simp) (fun K hK => ?_)
  go_simp
  refine hK _ ?_
  clear hK K
  refine w_move rfl _ rfl (.bool true) rfl (fun K hK => ?_)
  go_simp
  refine hK _ ?_
  clear hK K
  refine wg_arr_load (by rfl) .u64 24 _ rfl (w6.heap.size) rfl [2, 1, 0, 7] KC.out 4 22 Tryd.underlying24 Tryd.size_v (fun K hK => ?_)
  go_simp
  refine hK _ ?_
  clear hK K
  refine wg_arr_load (by rfl) .u64 24 _ rfl (w.heap.size + 1) rfl [2, 1, 0, 7] KB.out 4 22 Tryd.underlying24 Tryd.size_v (fun K hK => ?_)
  go_simp
  refine hK _ ?_
  clear hK K
  refine wg_value (by rfl) (.bool true) (fun u _ => run_eql u .eql 24 24 _ _ (AV .u64 [2, 1, 0, 7]) (AV .u64 [2, 1, 0, 7]) _ rfl rfl rfl (guard_v _ _ _ _ u) (eql_v [2, 1, 0, 7] [2, 1, 0, 7] rfl rfl u)) (fun K hK => ?_)
  go_simp
  refine hK _ ?_
  clear hK K
  refine w_value rfl (.bool true) (fun u hu => by go_simp) (fun K hK => ?_)
  go_simp
  refine hK _ ?_
  clear hK K
  refine w_move rfl _ rfl (.bool true) rfl (fun K hK => ?_)
  go_simp
  refine hK _ ?_
  clear hK K
  refine wg_value (by rfl) (.pointer (some ⟨w6.heap.size + 1, 0, none⟩)) (fun u hu => by go_simp) (fun K hK => ?_)
  go_simp
  refine hK _ ?_
  clear hK K
  refine wg_value (by rfl) (.string ⟨#[120]⟩) (fun u hu => by have hc := KR0.out u hu; go_simp) (fun K hK => ?_)
  go_simp
  refine hK _ ?_
  clear hK K
  refine wg_value (by rfl) (.bool true) (fun u hu => by go_simp) (fun K hK => ?_)
  go_simp
  refine hK _ ?_
  clear hK K
  refine w_value rfl (.bool true) (fun u hu => by go_simp) (fun K hK => ?_)
  go_simp
  refine hK _ ?_
  clear hK K
  refine w_move rfl _ rfl (.bool true) rfl (fun K hK => ?_)
  go_simp
  refine hK _ ?_
  clear hK K
  refine wg_arr_load (by rfl) .u64 24 _ rfl (w.heap.size) rfl [1, 2, 0, 0] KA.out 4 22 Tryd.underlying24 Tryd.size_v (fun K hK => ?_)
  go_simp
  refine hK _ ?_
  clear hK K
  refine wg_call (by rfl) 30 Tryd.f30 Tryd.func30 rfl rfl _ _ rfl _ rfl (.string ⟨#[49, 44, 50, 44, 48, 44, 48]⟩) (by exact KCX.out) (fun K hK => ?_)
  go_simp
  refine hK _ ?_
  clear hK K
  refine wg_value (by rfl) (.bool true) (fun u hu => by go_simp) (fun K hK => ?_)
  go_simp
  refine hK _ ?_
  clear hK K
  refine w_value rfl (.bool true) (fun u hu => by go_simp) (fun K hK => ?_)
  go_simp
  refine hK _ ?_
  clear hK K
  refine w_move rfl _ rfl (.bool true) rfl (fun K hK => ?_)
  go_simp
  refine hK _ ?_
  clear hK K
  refine wg_call (by rfl) 18 Tryd.f18 Tryd.func18 rfl rfl _ _ rfl _ rfl (AV .u64 V.zeros) (by exact KCN.out) (fun K hK => ?_)
  go_simp
  refine hK _ ?_
  clear hK K
  refine wg_value (by rfl) (.agg #[.int .u64 0, .int .u64 0, .int .u64 0, .int .u64 0]) (fun u hu => by go_simp) (fun K hK => ?_)
  go_simp
  refine hK _ ?_
  clear hK K
  refine wg_value (by rfl) (.bool true) (fun u _ => run_eql u .eql 24 24 _ _ (AV .u64 V.zeros) (AV .u64 [0, 0, 0, 0]) _ rfl rfl rfl (guard_v _ _ _ _ u) (eql_v V.zeros [0, 0, 0, 0] rfl rfl u)) (fun K hK => ?_)
  go_simp
  refine hK _ ?_
  clear hK K
  refine w_value rfl (.bool true) (fun u hu => by go_simp) (fun K hK => ?_)
  go_simp
  refine hK _ ?_
  clear hK K
  refine w_move rfl _ rfl (.bool true) rfl (fun K hK => ?_)
  go_simp
  refine hK _ ?_
  clear hK K
  refine wg_arr_load (by rfl) .u64 24 _ rfl (w.heap.size) rfl [1, 2, 0, 0] KA.out 4 22 Tryd.underlying24 Tryd.size_v (fun K hK => ?_)
  go_simp
  refine hK _ ?_
  clear hK K
  refine wg_call (by rfl) 20 Tryd.f20 Tryd.func20 rfl rfl _ _ rfl _ rfl (.bool true) (by exact KCR.out) (fun K hK => ?_)
  go_simp
  refine hK _ ?_
  clear hK K
  refine w_value rfl (.bool true) (fun u hu => by go_simp) (fun K hK => ?_)
  go_simp
  refine hK _ ?_
  clear hK K
  refine w_assign rfl _ rfl (.bool true) rfl (fun K hK => ?_)
  go_simp
  refine hK _ ?_
  clear hK K
  refine w_nil ?_
  intro u hu
  have HW9 : Hid (Below w.heap.size w u) := (Ex.below E0.out hu).under
  clear hu
  go_wp2_with fail
  go_ret
  exact ⟨rfl, HW9.out⟩
end Go.Proofs.YtpdomhddjpfibaaDoor.Vc
