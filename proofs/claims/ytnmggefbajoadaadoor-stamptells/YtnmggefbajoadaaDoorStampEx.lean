/- Chapter 7's examples, as each law asks them first. -/
import Derived.Test.YtnmggefbajoadaaDoorStampB

import Derived.Test.YtnmggefbajoadaaDoorStampC

namespace Go.Proofs.YtnmggefbajoadaaDoor.Sp

open Go.RowKit Go.Proofs.YtnmggefbajoadaaDoor.Vc

set_option linter.unusedVariables false

set_option linter.unusedSimpArgs false

set_option maxRecDepth 100000

/-- what the examples hold on to -/
structure Ex (w : World) (X Y : Nat) (w' : World) : Prop where
  a : Blk w' w.heap.size (ks .u64 [1, 0, 0, 0] ++ [Value.int .i64 1])
  b : Blk w' (w.heap.size + 1) (ks .u64 [0, 1, 0, 0] ++ [Value.int .i64 2])
  c : Blk w' X (ks .u64 [0, 1, 0, 0] ++ [Value.int .i64 2])
  r : Blk w' Y [.string ⟨#[120]⟩, .bool false]
  under : Below w.heap.size w w'
  lt : w.heap.size + 1 < w'.heap.size ∧ X < w'.heap.size ∧ Y < w'.heap.size
theorem Ex.below {w w' w'' : World} {X Y : Nat} (h : Ex w X Y w') (hb : Below w'.heap.size w' w'') : Ex w X Y w'' := by
  have hz := hb.size
  have h1 := h.lt
  exact ⟨h.a.below hb (by omega), h.b.below hb (by omega), h.c.below hb (by omega), h.r.below hb (by omega), h.under.trans (hb.mono h.under.size), by omega⟩
section

variable {P : Program} {ops : Array Oper} {rest : List Oper} {o : Oper} {a : Act} {C : World → Prop} {Q : Act → Prop}

/-- a stamp is loaded -/
theorem w_sv_load (hgd : o.guard = none) (t : TypeId) (x : Operand) (ho : o.op = .load t x) (b : Nat) (hx : a.eval x = .pointer (some ⟨b, 0, none⟩)) (l : List Nat) (d : Int) (hb : ∀ u, C u → Blk u b (ks .u64 l ++ [Value.int .i64 d]))
    (dd : TypeDesc) (hu : P.underlying t = some dd) (hd : dd.isRow = true) (hi : (P.info? t).map (·.size) = some (ks .u64 l ++ [Value.int .i64 d]).length)
    (h : ∀ K : Act → Prop, (∀ a, WQ P ops C Q rest a → K a) → K (a.put o.dst (SV l d))) : WQ P ops C Q (o :: rest) a := w_blk_load hgd t x ho b hx _ hb dd hu hd hi h
theorem wg_sv_load (hw : Region.wanted o (yielded ops a.tmps) = true) (t : TypeId) (x : Operand) (ho : o.op = .load t x) (b : Nat) (hx : a.eval x = .pointer (some ⟨b, 0, none⟩)) (l : List Nat) (d : Int) (hb : ∀ u, C u → Blk u b (ks .u64 l ++ [Value.int .i64 d]))
    (dd : TypeDesc) (hu : P.underlying t = some dd) (hd : dd.isRow = true) (hi : (P.info? t).map (·.size) = some (ks .u64 l ++ [Value.int .i64 d]).length)
    (h : ∀ K : Act → Prop, (∀ a, WQ P ops C Q rest a → K a) → K (a.put o.dst (SV l d))) : WQ P ops C Q (o :: rest) a := wg_blk_load hw t x ho b hx _ hb dd hu hd hi h
end

theorem exp_okb : V.Ok [0, 1, 0, 0] := ⟨rfl, by decide +kernel⟩
theorem exp_small : ∀ j, j < 4 → [0, 1, 0, 0].getD j 0 < 100 := by decide +kernel
theorem exp_right : T.right [1, 0, 0, 0] 1 = true := by decide +kernel
theorem exp_rightz : T.right [0, 0, 0, 0] 0 = false := by decide +kernel
theorem exp_rightb : T.right [0, 1, 0, 0] 2 = true := by decide +kernel
theorem exp_n : V.at_ [1, 0, 0, 0] 1 = 1 := by decide +kernel
theorem exp_order : T.order [1, 0, 0, 0] 1 [0, 1, 0, 0] 2 = -1 := by decide +kernel
theorem exp_later : T.later [1, 0, 0, 0] 1 [0, 1, 0, 0] 2 = ([0, 1, 0, 0], 2) := by decide +kernel
theorem exp_seen : V.leq [1, 0, 0, 0] [1, 1, 0, 0] = true := by decide +kernel
theorem exp_seen2 : V.leq [1, 0, 0, 0] [0, 1, 0, 0] = false := by decide +kernel
theorem exp_seenz : V.leq [0, 0, 0, 0] [0, 0, 0, 0] = true := by decide +kernel
theorem exp_puts : T.puts [0, 1, 0, 0] 2 = ⟨#[2, 0, 1, 0, 0]⟩ := by decide +kernel
theorem exp_text : P.S (T.text [0, 1, 0, 0] ((2 : Nat) : Int)) = ⟨#[50, 64, 48, 44, 49, 44, 48, 44, 48]⟩ := by
  simp [T.text, Lib.itoa, text, Fm.digs, Lib.decDigits, Lib.join, List.intercalate, P.S]
def exS : ByteArray := ⟨#[2, 0, 1, 0, 0]⟩ ++ ⟨#[120]⟩
theorem exp_size : exS.size ≤ maxLen := by decide +kernel
theorem exp_get : T.gets exS false = ([0, 1, 0, 0], 2, ⟨#[120]⟩, false) := by decide +kernel
theorem exp_getC (w : World) : Calls Tryd.prog 28 #[.agg #[.string exS, .bool false]] w fun e w' => e = .returned (.tuple #[SV [0, 1, 0, 0] 2, .agg #[.string ⟨#[120]⟩, .bool false]]) ∧ Below w.heap.size w w' :=
  sget_any exS false [0, 1, 0, 0] 2 ⟨#[120]⟩ false w exp_size exp_get
theorem exp_eq (u : World) : (binOp .eql 26 (SV [0, 1, 0, 0] 2) (SV [0, 1, 0, 0] 2)).run Tryd.prog u = .ok (.bool true) u := eql_s [0, 1, 0, 0] [0, 1, 0, 0] 2 2 rfl rfl u
set_option maxHeartbeats 4000000 in
theorem examples_any (w : World) :
    Calls Tryd.prog 9 #[] w fun e w' => e = .returned (.bool true) ∧ Below w.heap.size w w' := by
  have CP := Lib.hid (fun w => sput_any [0, 1, 0, 0] 2 w exp_okb)
  rw [exp_puts, exp_rightb] at CP
  have CG := Lib.hid exp_getC
  unfold exS at CG
  have CR := Lib.hid (fun w => sright_any [1, 0, 0, 0] 1 w rfl)
  rw [exp_right] at CR
  have CRz := Lib.hid (fun w => sright_any [0, 0, 0, 0] 0 w rfl)
  rw [exp_rightz] at CRz
  have CN := Lib.hid (fun w => sn_any [1, 0, 0, 0] 1 w rfl)
  rw [exp_n] at CN
  have CO := Lib.hid (fun w => order_any [1, 0, 0, 0] [0, 1, 0, 0] 1 2 w rfl rfl)
  rw [exp_order] at CO
  have CL := Lib.hid (fun w => later_any [1, 0, 0, 0] [0, 1, 0, 0] 1 2 w rfl rfl)
  rw [exp_later] at CL
  have CS := Lib.hid (fun w => sseen_any [1, 0, 0, 0] [1, 1, 0, 0] 1 w rfl rfl)
  rw [exp_seen] at CS
  have CS2 := Lib.hid (fun w => sseen_any [1, 0, 0, 0] [0, 1, 0, 0] 1 w rfl rfl)
  rw [exp_seen2] at CS2
  have CSz := Lib.hid (fun w => sseen_any [0, 0, 0, 0] [0, 0, 0, 0] 0 w rfl rfl)
  rw [exp_seenz] at CSz
  have CX := Lib.hid (fun w => stext_small [0, 1, 0, 0] 2 w exp_okb (by decide) exp_small)
  rw [exp_text] at CX
  go_enter Tryd.func9, Tryd.ntmps9
  go_wp2_with (first | refine blk_alloc rfl 26 (ks .u64 (List.replicate 4 0) ++ [Value.int .i64 0]) rfl Tryd.info_s ?_)
  intro w1 A1 B1 Z1
  go_wp2_with (first | refine blk_store rfl 26 _ _ rfl w.heap.size rfl (ks .u64 [1, 0, 0, 0] ++ [Value.int .i64 1]) rfl _ A1 rfl Tryd.size_s rfl ?_)
  intro w2 A2 U2
  have B2 : Below w.heap.size w w2 := B1.trans (U2.below (Nat.le_refl _))
  have Z2 : w2.heap.size = w.heap.size + 1 := by rw [U2.size, Z1]
  clear A1 B1 Z1 U2
  go_wp2_with (first | refine blk_alloc rfl 26 (ks .u64 (List.replicate 4 0) ++ [Value.int .i64 0]) rfl Tryd.info_s ?_)
  intro w3 A3 B3 Z3
  have A23 : Blk w3 w.heap.size (ks .u64 [1, 0, 0, 0] ++ [Value.int .i64 1]) := A2.below B3 (by omega)
  have B33 : Below w.heap.size w w3 := B2.trans (B3.mono (by omega))
  clear A2 B2 B3
  go_wp2_with (first | refine blk_store rfl 26 _ _ rfl (w.heap.size + 1) rfl (ks .u64 [0, 1, 0, 0] ++ [Value.int .i64 2]) rfl _ A3 rfl Tryd.size_s rfl ?_)
  intro w4 A4 U4
  have HA : Hid (Blk w4 w.heap.size (ks .u64 [1, 0, 0, 0] ++ [Value.int .i64 1])) := A23.upd U4 (by omega)
  have HB : Hid (Blk w4 (w.heap.size + 1) (ks .u64 [0, 1, 0, 0] ++ [Value.int .i64 2])) := A4
  have HW : Hid (Below w.heap.size w w4) := B33.trans (U4.below (by omega))
  have HZ : Hid (w4.heap.size = w.heap.size + 2) := by show _ = _; rw [U4.size, Z3]
  clear A23 B33 A3 A4 U4 Z2 Z3
  go_wp2_with (first | refine blk_load rfl 26 _ rfl (w.heap.size + 1) rfl (ks .u64 [0, 1, 0, 0] ++ [Value.int .i64 2]) HB.out _ Tryd.underlying26 rfl Tryd.size_s ?_)
  refine (CP.out _).mono ?_; rintro e w5 ⟨rfl, hb5⟩
  have hz4 := HZ.out
  have HA5 : Hid (Blk w5 w.heap.size (ks .u64 [1, 0, 0, 0] ++ [Value.int .i64 1])) := Blk.below HA.out hb5 (by omega)
  have HB5 : Hid (Blk w5 (w.heap.size + 1) (ks .u64 [0, 1, 0, 0] ++ [Value.int .i64 2])) := Blk.below HB.out hb5 (by omega)
  have HW5 : Hid (Below w.heap.size w w5) := Below.trans HW.out (hb5.mono HW.out.size)
  have hz5 : w.heap.size + 2 ≤ w5.heap.size := by have := hb5.size; omega
  clear HA HB HW HZ hz4 hb5
  go_wp2_with fail
  refine (CG.out _).mono ?_; rintro e w6 ⟨rfl, hb6⟩
  have HA6 : Hid (Blk w6 w.heap.size (ks .u64 [1, 0, 0, 0] ++ [Value.int .i64 1])) := Blk.below HA5.out hb6 (by omega)
  have HB6 : Hid (Blk w6 (w.heap.size + 1) (ks .u64 [0, 1, 0, 0] ++ [Value.int .i64 2])) := Blk.below HB5.out hb6 (by omega)
  have HW6 : Hid (Below w.heap.size w w6) := Below.trans HW5.out (hb6.mono HW5.out.size)
  have hz6 : w.heap.size + 2 ≤ w6.heap.size := by have := hb6.size; omega
  clear HA5 HB5 HW5 hz5 hb6
  go_wp2_with (first | refine blk_alloc rfl 26 (ks .u64 (List.replicate 4 0) ++ [Value.int .i64 0]) rfl Tryd.info_s ?_)
  intro w7 A7 B7 Z7
  go_wp2_with (first | refine blk_alloc rfl 55 [.string ⟨#[]⟩, .bool false] rfl Tryd.info_rd ?_)
  intro w8 A8 B8 Z8
  go_wp2_with (first | refine blk_store rfl 26 _ _ rfl w6.heap.size rfl (ks .u64 [0, 1, 0, 0] ++ [Value.int .i64 2]) rfl _ (A7.below B8 (by omega)) rfl Tryd.size_s rfl ?_)
  intro w9 A9 U9
  have A8' : Blk w9 (w6.heap.size + 1) [.string ⟨#[]⟩, .bool false] := A8.upd U9 (by omega)
  go_wp2_with (first | refine blk_store rfl 55 _ _ rfl (w6.heap.size + 1) rfl [.string ⟨#[120]⟩, .bool false] rfl _ A8' rfl Tryd.size_rd rfl ?_)
  intro w10 A10 U10
  have K7 : Below w6.heap.size w6 w8 := B7.trans (B8.mono (by omega))
  have K8 : Below w6.heap.size w6 w10 := (K7.trans (U9.below (Nat.le_refl _))).trans (U10.below (by omega))
  have hs9 := U9.size
  have hs10 := U10.size
  have E0 : Hid (Ex w w6.heap.size (w6.heap.size + 1) w10) := ⟨Blk.below HA6.out K8 (by omega), Blk.below HB6.out K8 (by omega), A9.upd U10 (by omega), A10, Below.trans HW6.out (K8.mono HW6.out.size), by omega⟩
  clear A7 B7 Z7 A8 B8 Z8 A9 U9 A8' A10 U10 K7 K8 hs9 hs10 HA6 HB6 HW6 hz6
  go_wp2_with fail
  have KA : Hid (∀ u, Below w10.heap.size w10 u → Blk u w.heap.size (ks .u64 [1, 0, 0, 0] ++ [Value.int .i64 1])) := fun u hu => (Ex.below E0.out hu).a
  have KB : Hid (∀ u, Below w10.heap.size w10 u → Blk u (w.heap.size + 1) (ks .u64 [0, 1, 0, 0] ++ [Value.int .i64 2])) := fun u hu => (Ex.below E0.out hu).b
  have KC : Hid (∀ u, Below w10.heap.size w10 u → Blk u w6.heap.size (ks .u64 [0, 1, 0, 0] ++ [Value.int .i64 2])) := fun u hu => (Ex.below E0.out hu).c
  have KR0 : Hid (∀ u, Below w10.heap.size w10 u → u.cell? ⟨w6.heap.size + 1, 0, none⟩ = some (.string ⟨#[120]⟩)) := fun u hu => (Ex.below E0.out hu).r.cell 0 _ rfl
  have KCR : Hid (∀ u, Below w10.heap.size w10 u → Calls Tryd.prog 17 [SV [1, 0, 0, 0] 1].toArray u fun e u' => e = .returned (.bool true) ∧ Below w10.heap.size w10 u') := fun u hu => Calls.more hu (CR.out u)
  have KCRz : Hid (∀ u, Below w10.heap.size w10 u → Calls Tryd.prog 17 [.agg #[.int .u64 0, .int .u64 0, .int .u64 0, .int .u64 0, .int .i64 0]].toArray u fun e u' => e = .returned (.bool false) ∧ Below w10.heap.size w10 u') := fun u hu => Calls.more hu (CRz.out u)
  have KCN : Hid (∀ u, Below w10.heap.size w10 u → Calls Tryd.prog 19 [SV [1, 0, 0, 0] 1].toArray u fun e u' => e = .returned (.int .u64 1) ∧ Below w10.heap.size w10 u') := fun u hu => Calls.more hu (CN.out u)
  have KCO : Hid (∀ u, Below w10.heap.size w10 u → Calls Tryd.prog 21 [SV [1, 0, 0, 0] 1, SV [0, 1, 0, 0] 2].toArray u fun e u' => e = .returned (.int .i64 (-1)) ∧ Below w10.heap.size w10 u') := fun u hu => Calls.more hu (CO.out u)
  have KCL : Hid (∀ u, Below w10.heap.size w10 u → Calls Tryd.prog 15 [SV [1, 0, 0, 0] 1, SV [0, 1, 0, 0] 2].toArray u fun e u' => e = .returned (SV [0, 1, 0, 0] 2) ∧ Below w10.heap.size w10 u') := fun u hu => Calls.more hu (CL.out u)
  have KCS : Hid (∀ u, Below w10.heap.size w10 u → Calls Tryd.prog 23 [SV [1, 0, 0, 0] 1, .agg #[.int .u64 1, .int .u64 1, .int .u64 0, .int .u64 0]].toArray u fun e u' => e = .returned (.bool true) ∧ Below w10.heap.size w10 u') := fun u hu => Calls.more hu (CS.out u)
  have KCS2 : Hid (∀ u, Below w10.heap.size w10 u → Calls Tryd.prog 23 [SV [1, 0, 0, 0] 1, .agg #[.int .u64 0, .int .u64 1, .int .u64 0, .int .u64 0]].toArray u fun e u' => e = .returned (.bool false) ∧ Below w10.heap.size w10 u') := fun u hu => Calls.more hu (CS2.out u)
  have KCSz : Hid (∀ u, Below w10.heap.size w10 u → Calls Tryd.prog 23 [.agg #[.int .u64 0, .int .u64 0, .int .u64 0, .int .u64 0, .int .i64 0], .agg #[.int .u64 0, .int .u64 0, .int .u64 0, .int .u64 0]].toArray u fun e u' => e = .returned (.bool true) ∧ Below w10.heap.size w10 u') := fun u hu => Calls.more hu (CSz.out u)
  have KCX : Hid (∀ u, Below w10.heap.size w10 u → Calls Tryd.prog 25 [SV [0, 1, 0, 0] 2].toArray u fun e u' => e = .returned (.string ⟨#[50, 64, 48, 44, 49, 44, 48, 44, 48]⟩) ∧ Below w10.heap.size w10 u') := fun u hu => Calls.more hu (CX.out u)
  clear CP CG CR CRz CN CO CL CS CS2 CSz CX
  refine region_w Tryd.mixed (by kernel_rfl) ?_
  refine w_sv_load rfl 26 _ rfl (w.heap.size) rfl [1, 0, 0, 0] 1 KA.out _ Tryd.underlying26 rfl Tryd.size_s (fun K hK => ?_)
  go_simp
  refine hK _ ?_
  clear hK K
  refine w_call rfl 17 Tryd.f17 Tryd.func17 rfl rfl _ _ rfl _ rfl (.bool true) (by exact KCR.out) (fun K hK => ?_)
  go_simp
  refine hK _ ?_
  clear hK K
  refine w_move rfl _ rfl (.bool true) rfl (fun K hK => ?_)
  go_simp
  refine hK _ ?_
  clear hK K
  refine wg_value (by rfl) (.agg #[.int .u64 0, .int .u64 0, .int .u64 0, .int .u64 0, .int .i64 0]) (fun u hu => by go_simp) (fun K hK => ?_)
  go_simp
  refine hK _ ?_
  clear hK K
  refine wg_call (by rfl) 17 Tryd.f17 Tryd.func17 rfl rfl _ _ rfl _ rfl (.bool false) (by exact KCRz.out) (fun K hK => ?_)
  go_simp
  refine hK _ ?_
  clear hK K
  refine wg_value (by rfl) (.bool true) (fun u hu => by go_simp) (fun K hK => ?_)
  go_simp
  refine hK _ ?_
  clear hK K
  refine w_value rfl (.bool true) (fun u hu => by go_simp) (fun K hK => ?_)
  go_simp
  refine hK _ ?_
  clear hK K
  refine w_move rfl _ rfl (.bool true) rfl (fun K hK => ?_)
  go_simp
  refine hK _ ?_
  clear hK K
  refine wg_sv_load (by rfl) 26 _ rfl (w.heap.size) rfl [1, 0, 0, 0] 1 KA.out _ Tryd.underlying26 rfl Tryd.size_s (fun K hK => ?_)
  go_simp
  refine hK _ ?_
  clear hK K
  refine wg_call (by rfl) 19 Tryd.f19 Tryd.func19 rfl rfl _ _ rfl _ rfl (.int .u64 1) (by exact KCN.out) (fun K hK => ?_)
  go_simp
  refine hK _ ?_
  clear hK K
  refine wg_value (by rfl) (.bool true) (fun u hu => by go_simp) (fun K hK => ?_)
  go_simp
  refine hK _ ?_
  clear hK K
  refine w_value rfl (.bool true) (fun u hu => by go_simp) (fun K hK => ?_)
  go_simp
  refine hK _ ?_
  clear hK K
  refine w_move rfl _ rfl (.bool true) rfl (fun K hK => ?_)
  go_simp
  refine hK _ ?_
  clear hK K
  refine wg_sv_load (by rfl) 26 _ rfl (w.heap.size) rfl [1, 0, 0, 0] 1 KA.out _ Tryd.underlying26 rfl Tryd.size_s (fun K hK => ?_)
  go_simp
  refine hK _ ?_
  clear hK K
  refine wg_sv_load (by rfl) 26 _ rfl (w.heap.size + 1) rfl [0, 1, 0, 0] 2 KB.out _ Tryd.underlying26 rfl Tryd.size_s (fun K hK => ?_)
  go_simp
  refine hK _ ?_
  clear hK K
  refine wg_call (by rfl) 21 Tryd.f21 Tryd.func21 rfl rfl _ _ rfl _ rfl (.int .i64 (-1)) (by exact KCO.out) (fun K hK => ?_)
  go_simp
  refine hK _ ?_
  clear hK K
  refine wg_value (by rfl) (.bool true) (fun u hu => by go_simp) (fun K hK => ?_)
  go_simp
  refine hK _ ?_
  clear hK K
  refine w_value rfl (.bool true) (fun u hu => by go_simp) (fun K hK => ?_)
  go_simp
  refine hK _ ?_
  clear hK K
  refine w_move rfl _ rfl (.bool true) rfl (fun K hK => ?_)
  go_simp
  refine hK _ ?_
  clear hK K
  refine wg_sv_load (by rfl) 26 _ rfl (w.heap.size) rfl [1, 0, 0, 0] 1 KA.out _ Tryd.underlying26 rfl Tryd.size_s (fun K hK => ?_)
  go_simp
  refine hK _ ?_
  clear hK K
  refine wg_sv_load (by rfl) 26 _ rfl (w.heap.size + 1) rfl [0, 1, 0, 0] 2 KB.out _ Tryd.underlying26 rfl Tryd.size_s (fun K hK => ?_)
  go_simp
  refine hK _ ?_
  clear hK K
  refine wg_call (by rfl) 15 Tryd.f15 Tryd.func15 rfl rfl _ _ rfl _ rfl (SV [0, 1, 0, 0] 2) (by exact KCL.out) (fun K hK => ?_)
  go_simp
  refine hK _ ?_
  clear hK K
  refine wg_sv_load (by rfl) 26 _ rfl (w.heap.size + 1) rfl [0, 1, 0, 0] 2 KB.out _ Tryd.underlying26 rfl Tryd.size_s (fun K hK => ?_)
  go_simp
  refine hK _ ?_
  clear hK K
  refine wg_value (by rfl) (.bool true) (fun u _ => run_eql u .eql 26 26 _ _ (SV [0, 1, 0, 0] 2) (SV [0, 1, 0, 0] 2) _ rfl rfl rfl (guard_s _ _ _ _ _ _ u) (exp_eq u)) (fun K hK => ?_)
  go_simp
  refine hK _ ?_
  clear hK K
  refine w_value rfl (.bool true) (fun u hu => by go_simp) (fun K hK => ?_)
  go_simp
  refine hK _ ?_
  clear hK K
  refine w_move rfl _ rfl (.bool true) rfl (fun K hK => ?_)
  go_simp
  refine hK _ ?_
  clear hK K
  refine wg_sv_load (by rfl) 26 _ rfl (w.heap.size) rfl [1, 0, 0, 0] 1 KA.out _ Tryd.underlying26 rfl Tryd.size_s (fun K hK => ?_)
  go_simp
  refine hK _ ?_
  clear hK K
  refine wg_value (by rfl) (.agg #[.int .u64 1, .int .u64 1, .int .u64 0, .int .u64 0]) (fun u hu => by go_simp) (fun K hK => ?_)
  go_simp
  refine hK _ ?_
  clear hK K
  refine wg_call (by rfl) 23 Tryd.f23 Tryd.func23 rfl rfl _ _ rfl _ rfl (.bool true) (by exact KCS.out) (fun K hK => ?_)
  go_simp
  refine hK _ ?_
  clear hK K
  refine w_value rfl (.bool true) (fun u hu => by go_simp) (fun K hK => ?_)
  go_simp
  refine hK _ ?_
  clear hK K
  refine w_move rfl _ rfl (.bool true) rfl (fun K hK => ?_)
  go_simp
  refine hK _ ?_
  clear hK K
  refine wg_sv_load (by rfl) 26 _ rfl (w.heap.size) rfl [1, 0, 0, 0] 1 KA.out _ Tryd.underlying26 rfl Tryd.size_s (fun K hK => ?_)
  go_simp
  refine hK _ ?_
  clear hK K
  refine wg_value (by rfl) (.agg #[.int .u64 0, .int .u64 1, .int .u64 0, .int .u64 0]) (fun u hu => by go_simp) (fun K hK => ?_)
  go_simp
  refine hK _ ?_
  clear hK K
  refine wg_call (by rfl) 23 Tryd.f23 Tryd.func23 rfl rfl _ _ rfl _ rfl (.bool false) (by exact KCS2.out) (fun K hK => ?_)
  go_simp
  refine hK _ ?_
  clear hK K
  refine wg_value (by rfl) (.bool true) (fun u hu => by go_simp) (fun K hK => ?_)
  go_simp
  refine hK _ ?_
  clear hK K
  refine w_value rfl (.bool true) (fun u hu => by go_simp) (fun K hK => ?_)
  go_simp
  refine hK _ ?_
  clear hK K
  refine w_move rfl _ rfl (.bool true) rfl (fun K hK => ?_)
  go_simp
  refine hK _ ?_
  clear hK K
  refine wg_value (by rfl) (.bool true) (fun u hu => by go_simp) (fun K hK => ?_)
  go_simp
  refine hK _ ?_
  clear hK K
  refine w_value rfl (.bool true) (fun u hu => by go_simp) (fun K hK => ?_)
  go_simp
  refine hK _ ?_
  clear hK K
  refine w_move rfl _ rfl (.bool true) rfl (fun K hK => ?_)
  go_simp
  refine hK _ ?_
  clear hK K
  refine wg_value (by rfl) (.string ⟨#[2, 0, 1, 0, 0]⟩) (fun u hu => by go_simp) (fun K hK => ?_)
  go_simp
  refine hK _ ?_
  clear hK K
  refine wg_value (by rfl) (.int .i64 5) (fun u hu => by go_simp) (fun K hK => ?_)
  go_simp
  refine hK _ ?_
  clear hK K
  refine wg_value (by rfl) (.bool true) (fun u hu => by go_simp) (fun K hK => ?_)
  go_simp
  refine hK _ ?_
  clear hK K
  refine w_value rfl (.bool true) (fun u hu => by go_simp) (fun K hK => ?_)
  go_simp
  refine hK _ ?_
  clear hK K
  refine w_move rfl _ rfl (.bool true) rfl (fun K hK => ?_)
  go_simp
  refine hK _ ?_
  clear hK K
  refine wg_sv_load (by rfl) 26 _ rfl (w6.heap.size) rfl [0, 1, 0, 0] 2 KC.out _ Tryd.underlying26 rfl Tryd.size_s (fun K hK => ?_)
  go_simp
  refine hK _ ?_
  clear hK K
  refine wg_sv_load (by rfl) 26 _ rfl (w.heap.size + 1) rfl [0, 1, 0, 0] 2 KB.out _ Tryd.underlying26 rfl Tryd.size_s (fun K hK => ?_)
  go_simp
  refine hK _ ?_
  clear hK K
  refine wg_value (by rfl) (.bool true) (fun u _ => run_eql u .eql 26 26 _ _ (SV [0, 1, 0, 0] 2) (SV [0, 1, 0, 0] 2) _ rfl rfl rfl (guard_s _ _ _ _ _ _ u) (exp_eq u)) (fun K hK => ?_)
  go_simp
  refine hK _ ?_
  clear hK K
  refine w_value rfl (.bool true) (fun u hu => by go_simp) (fun K hK => ?_)
  go_simp
  refine hK _ ?_
  clear hK K
  refine w_move rfl _ rfl (.bool true) rfl (fun K hK => ?_)
  go_simp
  refine hK _ ?_
  clear hK K
  refine wg_value (by rfl) (.pointer (some ⟨w6.heap.size + 1, 0, none⟩)) (fun u hu => by go_simp) (fun K hK => ?_)
  go_simp
  refine hK _ ?_
  clear hK K
  refine wg_value (by rfl) (.string ⟨#[120]⟩) (fun u hu => by have hc := KR0.out u hu; go_simp) (fun K hK => ?_)
  go_simp
  refine hK _ ?_
  clear hK K
  refine wg_value (by rfl) (.bool true) (fun u hu => by go_simp) (fun K hK => ?_)
  go_simp
  refine hK _ ?_
  clear hK K
  refine w_value rfl (.bool true) (fun u hu => by go_simp) (fun K hK => ?_)
  go_simp
  refine hK _ ?_
  clear hK K
  refine w_move rfl _ rfl (.bool true) rfl (fun K hK => ?_)
  go_simp
  refine hK _ ?_
  clear hK K
  refine wg_sv_load (by rfl) 26 _ rfl (w.heap.size + 1) rfl [0, 1, 0, 0] 2 KB.out _ Tryd.underlying26 rfl Tryd.size_s (fun K hK => ?_)
  go_simp
  refine hK _ ?_
  clear hK K
  refine wg_call (by rfl) 25 Tryd.f25 Tryd.func25 rfl rfl _ _ rfl _ rfl (.string ⟨#[50, 64, 48, 44, 49, 44, 48, 44, 48]⟩) (by exact KCX.out) (fun K hK => ?_)
  go_simp
  refine hK _ ?_
  clear hK K
  refine wg_value (by rfl) (.bool true) (fun u hu => by go_simp) (fun K hK => ?_)
  go_simp
  refine hK _ ?_
  clear hK K
  refine w_value rfl (.bool true) (fun u hu => by go_simp) (fun K hK => ?_)
  go_simp
  refine hK _ ?_
  clear hK K
  refine w_move rfl _ rfl (.bool true) rfl (fun K hK => ?_)
  go_simp
  refine hK _ ?_
  clear hK K
  refine wg_value (by rfl) (.agg #[.int .u64 0, .int .u64 0, .int .u64 0, .int .u64 0, .int .i64 0]) (fun u hu => by go_simp) (fun K hK => ?_)
  go_simp
  refine hK _ ?_
  clear hK K
  refine wg_value (by rfl) (.agg #[.int .u64 0, .int .u64 0, .int .u64 0, .int .u64 0]) (fun u hu => by go_simp) (fun K hK => ?_)
  go_simp
  refine hK _ ?_
  clear hK K
  refine wg_call (by rfl) 23 Tryd.f23 Tryd.func23 rfl rfl _ _ rfl _ rfl (.bool true) (by exact KCSz.out) (fun K hK => ?_)
  go_simp
  refine hK _ ?_
  clear hK K
  refine w_value rfl (.bool true) (fun u hu => by go_simp) (fun K hK => ?_)
  go_simp
  refine hK _ ?_
  clear hK K
  refine w_assign rfl _ rfl (.bool true) rfl (fun K hK => ?_)
  go_simp
  refine hK _ ?_
  clear hK K
  refine w_nil ?_
  intro u hu
  have HW9 : Hid (Below w.heap.size w u) := (Ex.below E0.out hu).under
  clear hu
  go_wp2_with fail
  go_ret
  exact ⟨rfl, HW9.out⟩
end Go.Proofs.YtnmggefbajoadaaDoor.Sp
