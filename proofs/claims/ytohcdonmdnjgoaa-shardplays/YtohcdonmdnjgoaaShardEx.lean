/- The chapter's examples. -/
import Derived.Test.YtohcdonmdnjgoaaShardRead

import Derived.Test.YtohcdonmdnjgoaaShardOwn

import Derived.Test.YtohcdonmdnjgoaaShardObj

namespace Go.Proofs.Ytohcdonmdnjgoaa.Sd

open Go.RowKit Go.Proofs.Ytohcdonmdnjgoaa.Vc Go.Proofs.Ytohcdonmdnjgoaa.Sp Go.Proofs.Ytohcdonmdnjgoaa.Rw Go.Proofs.Ytohcdonmdnjgoaa.Ch Go.Proofs.Ytohcdonmdnjgoaa.Se Go.Proofs.Ytohcdonmdnjgoaa.It Go.Proofs.Ytohcdonmdnjgoaa.Mk

set_option linter.unusedVariables false

set_option linter.unusedSimpArgs false

set_option maxRecDepth 100000

section

variable {w0 w w' : World} {R : List Rg}

/-- a shard turns -/
theorem shard_turn (h : Sep w0 w R) (i : Nat) {s : Nat} {G G' : Gm} (hi : R[i]? = some (rS s G)) (hS : Sh w' s G') (hT : Turn (G.bl s) w w') (hb : ∀ k ∈ G'.bl s, (k ∈ G.bl s ∨ w.heap.size ≤ k) ∧ k < w'.heap.size) : Sep w0 w' (R.set i (rS s G')) :=
  h.step i hi hT.os hT.tape hT.output hT.size hT.far (rS s G') hS hb
theorem shard_sh (h : Sep w0 w R) (i : Nat) {s : Nat} {G : Gm} (hi : R[i]? = some (rS s G)) : Sh w s G := h.get i hi
theorem shard_lt (h : Sep w0 w R) (i : Nat) {s : Nat} {G : Gm} (hi : R[i]? = some (rS s G)) : ∀ k ∈ G.bl s, k < w.heap.size := fun k hk => (h.lt i hi k hk).2
theorem shard_new (h : Sep w0 w R) (hb : Below w.heap.size w w') {s : Nat} {G : Gm} (hS : Sh w' s G) (hn : ∀ k ∈ G.bl s, w.heap.size ≤ k ∧ k < w'.heap.size) : Sep w0 w' (rS s G :: R) := h.push hb (rS s G) hS hn
end

def sA : C.St := ([1, 0, 0, 0], 1)
def xW : I.Wt := (⟨#[98]⟩, ⟨#[107]⟩, ⟨#[118]⟩, false)
def kB : Nm := (⟨#[98]⟩, ⟨#[107]⟩)
def V1 : List (Nm × List (C.Vr I.Wt)) := [(kB, [(sA, xW)])]
abbrev g0 (lb ch mb : Nat) : Gm := ⟨lb, ch, mb, 2, [], [], V.zeros⟩
abbrev g1 (lb ch mb : Nat) (v : Value) : Gm := ⟨lb, ch, mb, 2, [⟨sA, v, [xW]⟩], [], V.zeros⟩
abbrev g2 (lb ch mb : Nat) (E : List En) : Gm := ⟨lb, ch, mb, 2, [], E, [1, 0, 0, 0]⟩
theorem e_cond : (C.right sA && [xW].all I.right && decide ((([] : List Bt)).length < 2)) = true := by decide +kernel
theorem e_add : (C.add ([] : List (C.Vr I.Wt)) sA xW).1 = [(sA, xW)] := by decide +kernel
theorem e_ups : upsL [] sA [xW] = V1 := by
  show [] ++ [(I.key xW, (C.add ([] : List (C.Vr I.Wt)) sA xW).1)] = V1
  rw [e_add]; rfl
theorem e_app : V.with_ V.zeros 1 (max (V.at_ V.zeros 1) (V.at_ [1, 0, 0, 0] 1)) = [1, 0, 0, 0] := by decide +kernel
theorem e_rd0 : rdV (getV [] kB) [1, 0, 0, 0] = ((V.zeros, 0), I.none_) ∧ (C.read (getV [] kB) [1, 0, 0, 0]).isSome = false := by decide +kernel
theorem e_rd1 : rdV (getV V1 kB) [1, 0, 0, 0] = (sA, xW) ∧ (C.read (getV V1 kB) [1, 0, 0, 0]).isSome = true := by decide +kernel
theorem e_rd2 : rdV (getV V1 kB) [0, 0, 0, 0] = ((V.zeros, 0), I.none_) ∧ (C.read (getV V1 kB) [0, 0, 0, 0]).isSome = false := by decide +kernel
theorem e_ls : lsV (getV V1 kB) = (sA, xW) ∧ (getV V1 kB).length = 1 := by decide +kernel
theorem e_tot : tot V1 = 1 ∧ goneA V1 [1, 0, 0, 0] = 0 := by decide +kernel
theorem e_lim : ∀ x ∈ V1, x.2.length < 1000 := by decide +kernel
theorem ex_push (u : World) (s lb ch mb b : Nat) (h : Sh u s (g0 lb ch mb)) (hl : ∀ k ∈ (g0 lb ch mb).bl s, k < u.heap.size) (hB : Blk u b [Value.string ⟨#[98]⟩, .string ⟨#[107]⟩, .string ⟨#[118]⟩, .bool false]) (hb : b < u.heap.size) :
    Calls Try.prog 18 #[.pointer (some ⟨s, 0, none⟩), .agg [Value.int .u64 1, .int .u64 0, .int .u64 0, .int .u64 0, .int .i64 1].toArray, .slice (some ⟨b, 0, none⟩) 1 1] u fun e w' => e = .returned (.bool true) ∧ ∃ v', Sh w' s (g1 lb ch mb v') ∧ Turn ((g0 lb ch mb).bl s) u w' ∧ ∀ k ∈ (g1 lb ch mb v').bl s, (k ∈ (g0 lb ch mb).bl s ∨ u.heap.size ≤ k) ∧ k < w'.heap.size := by
  have := push_any s (g0 lb ch mb) sA (.slice (some ⟨b, 0, none⟩) 1 1) [xW] u h hl rfl (IsWs.one (x := xW) hB hb) (fun e => by cases e) (by decide)
  refine Calls.mono this ?_
  rintro e w' ⟨rfl, v', h1, h2, h3⟩
  have hc : (C.right sA && [xW].all I.right && decide ((g0 lb ch mb).W.length < (g0 lb ch mb).room)) = true := e_cond
  rw [hc] at h1 h3
  exact ⟨by rw [hc], v', h1, h2, h3⟩
theorem ex_read0 (u : World) (s lb ch mb : Nat) (v : Value) (h : Sh u s (g1 lb ch mb v)) (hl : ∀ k ∈ (g1 lb ch mb v).bl s, k < u.heap.size) :
    Calls Try.prog 22 #[.pointer (some ⟨s, 0, none⟩), .string ⟨#[98]⟩, .string ⟨#[107]⟩, .agg [Value.int .u64 1, .int .u64 0, .int .u64 0, .int .u64 0].toArray] u fun e w' => e = .returned (.tuple #[.string ⟨#[]⟩, .agg [Value.int .u64 0, .int .u64 0, .int .u64 0, .int .u64 0, .int .i64 0].toArray, .bool false]) ∧ Below u.heap.size u w' := by
  have := read_any s (g1 lb ch mb v) ⟨#[98]⟩ ⟨#[107]⟩ [1, 0, 0, 0] u h hl rfl (fun x hx => by cases hx)
  change Calls _ _ _ _ (fun e w' => e = .returned (.tuple #[.string (rdV (getV [] kB) [1, 0, 0, 0]).2.2.2.1, SV (rdV (getV [] kB) [1, 0, 0, 0]).1.1 (rdV (getV [] kB) [1, 0, 0, 0]).1.2, .bool ((C.read (getV [] kB) [1, 0, 0, 0]).isSome && !(rdV (getV [] kB) [1, 0, 0, 0]).2.2.2.2)]) ∧ Below u.heap.size u w') at this
  rw [e_rd0.1, e_rd0.2] at this
  exact this
theorem ex_step1 (u : World) (s lb ch mb : Nat) (v : Value) (h : Sh u s (g1 lb ch mb v)) (hl : ∀ k ∈ (g1 lb ch mb v).bl s, k < u.heap.size) :
    Calls Try.prog 14 #[.pointer (some ⟨s, 0, none⟩)] u fun e w' => e = .returned (.bool true) ∧ ∃ E', Sh w' s (g2 lb ch mb E') ∧ vis E' = V1 ∧ Turn ((g1 lb ch mb v).bl s) u w' ∧ ∀ k ∈ (g2 lb ch mb E').bl s, (k ∈ (g1 lb ch mb v).bl s ∨ u.heap.size ≤ k) ∧ k < w'.heap.size := by
  have := step_one s (g1 lb ch mb v) ⟨sA, v, [xW]⟩ [] u h hl rfl 0 (fun x hx => by cases hx) (by show 0 + 1 < 1000; decide)
  refine Calls.mono this ?_
  rintro e w' ⟨rfl, E', h1, h2, h3, h4⟩
  have ea : V.with_ (g1 lb ch mb v).A sA.2 (max (V.at_ (g1 lb ch mb v).A sA.2) (V.at_ sA.1 sA.2)) = [1, 0, 0, 0] := e_app
  dsimp only at h1 h4
  rw [ea] at h1 h4
  exact ⟨rfl, E', h1, h2.trans e_ups, h3, h4⟩
theorem ex_step2 (u : World) (s lb ch mb : Nat) (E : List En) (h : Sh u s (g2 lb ch mb E)) (hl : ∀ k ∈ (g2 lb ch mb E).bl s, k < u.heap.size) :
    Calls Try.prog 14 #[.pointer (some ⟨s, 0, none⟩)] u fun e w' => e = .returned (.bool false) ∧ Below u.heap.size u w' := step_none s (g2 lb ch mb E) u h hl rfl
theorem ex_read1 (u : World) (s lb ch mb : Nat) (E : List En) (h : Sh u s (g2 lb ch mb E)) (hl : ∀ k ∈ (g2 lb ch mb E).bl s, k < u.heap.size) (hv : vis E = V1) :
    Calls Try.prog 22 #[.pointer (some ⟨s, 0, none⟩), .string ⟨#[98]⟩, .string ⟨#[107]⟩, .agg [Value.int .u64 1, .int .u64 0, .int .u64 0, .int .u64 0].toArray] u fun e w' => e = .returned (.tuple #[.string ⟨#[118]⟩, .agg [Value.int .u64 1, .int .u64 0, .int .u64 0, .int .u64 0, .int .i64 1].toArray, .bool true]) ∧ Below u.heap.size u w' := by
  have := read_any s (g2 lb ch mb E) ⟨#[98]⟩ ⟨#[107]⟩ [1, 0, 0, 0] u h hl rfl (by dsimp only; rw [hv]; exact e_lim)
  dsimp only at this
  rw [hv] at this
  change Calls _ _ _ _ (fun e w' => e = .returned (.tuple #[.string (rdV (getV V1 kB) [1, 0, 0, 0]).2.2.2.1, SV (rdV (getV V1 kB) [1, 0, 0, 0]).1.1 (rdV (getV V1 kB) [1, 0, 0, 0]).1.2, .bool ((C.read (getV V1 kB) [1, 0, 0, 0]).isSome && !(rdV (getV V1 kB) [1, 0, 0, 0]).2.2.2.2)]) ∧ Below u.heap.size u w') at this
  rw [e_rd1.1, e_rd1.2] at this
  exact this
theorem ex_read2 (u : World) (s lb ch mb : Nat) (E : List En) (h : Sh u s (g2 lb ch mb E)) (hl : ∀ k ∈ (g2 lb ch mb E).bl s, k < u.heap.size) (hv : vis E = V1) :
    Calls Try.prog 22 #[.pointer (some ⟨s, 0, none⟩), .string ⟨#[98]⟩, .string ⟨#[107]⟩, .agg [Value.int .u64 0, .int .u64 0, .int .u64 0, .int .u64 0].toArray] u fun e w' => e = .returned (.tuple #[.string ⟨#[]⟩, .agg [Value.int .u64 0, .int .u64 0, .int .u64 0, .int .u64 0, .int .i64 0].toArray, .bool false]) ∧ Below u.heap.size u w' := by
  have := read_any s (g2 lb ch mb E) ⟨#[98]⟩ ⟨#[107]⟩ [0, 0, 0, 0] u h hl rfl (by dsimp only; rw [hv]; exact e_lim)
  dsimp only at this
  rw [hv] at this
  change Calls _ _ _ _ (fun e w' => e = .returned (.tuple #[.string (rdV (getV V1 kB) [0, 0, 0, 0]).2.2.2.1, SV (rdV (getV V1 kB) [0, 0, 0, 0]).1.1 (rdV (getV V1 kB) [0, 0, 0, 0]).1.2, .bool ((C.read (getV V1 kB) [0, 0, 0, 0]).isSome && !(rdV (getV V1 kB) [0, 0, 0, 0]).2.2.2.2)]) ∧ Below u.heap.size u w') at this
  rw [e_rd2.1, e_rd2.2] at this
  exact this
theorem ex_last (u : World) (s lb ch mb : Nat) (E : List En) (h : Sh u s (g2 lb ch mb E)) (hl : ∀ k ∈ (g2 lb ch mb E).bl s, k < u.heap.size) (hv : vis E = V1) :
    Calls Try.prog 24 #[.pointer (some ⟨s, 0, none⟩), .string ⟨#[98]⟩, .string ⟨#[107]⟩] u fun e w' => e = .returned (.tuple #[.agg [Value.string ⟨#[98]⟩, .string ⟨#[107]⟩, .string ⟨#[118]⟩, .bool false].toArray, .agg [Value.int .u64 1, .int .u64 0, .int .u64 0, .int .u64 0, .int .i64 1].toArray, .bool true]) ∧ Below u.heap.size u w' := by
  have := last_any s (g2 lb ch mb E) ⟨#[98]⟩ ⟨#[107]⟩ u h hl (by dsimp only; rw [hv]; exact e_lim)
  dsimp only at this
  rw [hv] at this
  change Calls _ _ _ _ (fun e w' => e = .returned (.tuple #[WV (lsV (getV V1 kB)).2, SV (lsV (getV V1 kB)).1.1 (lsV (getV V1 kB)).1.2, .bool (decide (0 < (getV V1 kB).length))]) ∧ Below u.heap.size u w') at this
  rw [e_ls.1, e_ls.2] at this
  exact this
theorem ex_room (u : World) (s lb ch mb : Nat) (E : List En) (h : Sh u s (g2 lb ch mb E)) (hl : ∀ k ∈ (g2 lb ch mb E).bl s, k < u.heap.size) :
    Calls Try.prog 27 #[.pointer (some ⟨s, 0, none⟩)] u fun e w' => e = .returned (.int .i64 2) ∧ Below u.heap.size u w' := room_any s (g2 lb ch mb E) u h hl (by show 2 ≤ 16; decide) (by show 0 ≤ 16; decide)
theorem ex_applied (u : World) (s lb ch mb : Nat) (E : List En) (h : Sh u s (g2 lb ch mb E)) (hl : ∀ k ∈ (g2 lb ch mb E).bl s, k < u.heap.size) :
    Calls Try.prog 28 #[.pointer (some ⟨s, 0, none⟩)] u fun e w' => e = .returned (.agg [Value.int .u64 1, .int .u64 0, .int .u64 0, .int .u64 0].toArray) ∧ Below u.heap.size u w' := applied_any s (g2 lb ch mb E) u h hl
theorem ex_versions (u : World) (s lb ch mb : Nat) (E : List En) (h : Sh u s (g2 lb ch mb E)) (hl : ∀ k ∈ (g2 lb ch mb E).bl s, k < u.heap.size) (hv : vis E = V1) :
    Calls Try.prog 29 #[.pointer (some ⟨s, 0, none⟩)] u fun e w' => e = .returned (.int .i64 1) ∧ Below u.heap.size u w' := by
  have := versions_any s (g2 lb ch mb E) u h hl (by dsimp only; rw [hv, e_tot.1]; decide)
  dsimp only at this
  rw [hv, e_tot.1] at this
  exact this
theorem ex_prune (u : World) (s lb ch mb : Nat) (E : List En) (h : Sh u s (g2 lb ch mb E)) (hl : ∀ k ∈ (g2 lb ch mb E).bl s, k < u.heap.size) (hv : vis E = V1) :
    Calls Try.prog 16 #[.pointer (some ⟨s, 0, none⟩), .agg [Value.int .u64 1, .int .u64 0, .int .u64 0, .int .u64 0].toArray] u fun e w' => e = .returned (.int .i64 0) ∧ ∃ E', Sh w' s (g2 lb ch mb E') ∧ Turn ((g2 lb ch mb E).bl s) u w' ∧ ∀ k ∈ (g2 lb ch mb E').bl s, (k ∈ (g2 lb ch mb E).bl s ∨ u.heap.size ≤ k) ∧ k < w'.heap.size := by
  have := prune_any s (g2 lb ch mb E) [1, 0, 0, 0] u h hl rfl (by dsimp only; rw [hv]; exact e_lim) (by dsimp only; rw [hv, e_tot.2]; decide)
  dsimp only at this
  rw [hv, e_tot.2] at this
  refine Calls.mono this ?_
  rintro e w' ⟨rfl, E', h1, _, h2, h3⟩
  exact ⟨rfl, E', h1, h2, h3⟩
set_option maxHeartbeats 16000000 in
theorem examples_any (w : World) : Calls Try.prog 8 #[] w fun e w' => e = .returned (.bool true) ∧ Below w.heap.size w w' := by
  have CN0 := Lib.hid (fun u => new_no 0 (.inl (by decide)) u)
  have CN : Hid (∀ u, Calls Try.prog 9 #[.int .i64 2] u fun e w' => ∃ s lb ch mb, e = .returned (.tuple #[.pointer (some ⟨s, 0, none⟩), .int .i64 0]) ∧ Sh w' s (g0 lb ch mb) ∧ Below u.heap.size u w' ∧ ∀ k ∈ (g0 lb ch mb).bl s, u.heap.size ≤ k ∧ k < w'.heap.size) := fun u => new_ok 2 (by decide) (by decide) u
  have heqs : ∀ w, (binOp .eql 35 (.agg [Value.int .u64 1, .int .u64 0, .int .u64 0, .int .u64 0, .int .i64 1].toArray) (.agg [Value.int .u64 1, .int .u64 0, .int .u64 0, .int .u64 0, .int .i64 1].toArray)).run Try.prog w = .ok (.bool true) w := fun w => eql_s [1, 0, 0, 0] [1, 0, 0, 0] 1 1 rfl rfl w
  have hgds : ∀ x y w, (eqGuard .eql 35 x y (.agg [Value.int .u64 1, .int .u64 0, .int .u64 0, .int .u64 0, .int .i64 1].toArray) (.agg [Value.int .u64 1, .int .u64 0, .int .u64 0, .int .u64 0, .int .i64 1].toArray)).run Try.prog w = .ok () w := fun x y w => guard_s x y [1, 0, 0, 0] [1, 0, 0, 0] 1 1 w
  have heqw : ∀ w, (binOp .eql 42 (.agg [Value.string ⟨#[98]⟩, .string ⟨#[107]⟩, .string ⟨#[118]⟩, .bool false].toArray) (.agg [Value.string ⟨#[98]⟩, .string ⟨#[107]⟩, .string ⟨#[118]⟩, .bool false].toArray)).run Try.prog w = .ok (.bool true) w := fun w => by have := eql_iw xW xW w; rw [decide_eq_true rfl] at this; exact this
  have hgdw : ∀ x y w, (eqGuard .eql 42 x y (.agg [Value.string ⟨#[98]⟩, .string ⟨#[107]⟩, .string ⟨#[118]⟩, .bool false].toArray) (.agg [Value.string ⟨#[98]⟩, .string ⟨#[107]⟩, .string ⟨#[118]⟩, .bool false].toArray)).run Try.prog w = .ok () w := fun x y w => guard_iw .eql x y xW xW w
  have heqv : ∀ w, (binOp .eql 33 (.agg [Value.int .u64 1, .int .u64 0, .int .u64 0, .int .u64 0].toArray) (.agg [Value.int .u64 1, .int .u64 0, .int .u64 0, .int .u64 0].toArray)).run Try.prog w = .ok (.bool true) w := fun w => eql_v [1, 0, 0, 0] [1, 0, 0, 0] rfl rfl w
  have hgdv : ∀ x y w, (eqGuard .eql 33 x y (.agg [Value.int .u64 1, .int .u64 0, .int .u64 0, .int .u64 0].toArray) (.agg [Value.int .u64 1, .int .u64 0, .int .u64 0, .int .u64 0].toArray)).run Try.prog w = .ok () w := fun x y w => guard_v x y [1, 0, 0, 0] [1, 0, 0, 0] w
  go_enter Try.func8, Try.ntmps8
  go_wp2_with fail
  refine (CN0.out _).mono ?_; rintro e x0 ⟨rfl, rfl⟩
  go_wp2_with fail
  refine (CN.out _).mono ?_; rintro e k0 ⟨s, lb, ch, mb, rfl, hs, hb, hn⟩
  have S0 : Hid (Sep x0 k0 [rS s (g0 lb ch mb)]) := shard_new (Sep.start x0) hb hs hn
  clear hs hb hn
  go_wp2_with (first | refine blk_alloc rfl 35 ([Value.int .u64 0, .int .u64 0, .int .u64 0, .int .u64 0, .int .i64 0]) rfl Try.info_st ?_)
  intro k1a A B Z
  obtain ⟨bka, HB_a⟩ : ∃ b, Hid (k0.heap.size = b) := ⟨_, rfl⟩
  go_wp2_with (first | refine blk_store rfl 35 _ _ rfl k0.heap.size rfl ([Value.int .u64 1, .int .u64 0, .int .u64 0, .int .u64 0, .int .i64 1]) rfl _ A rfl Try.size_s rfl ?_)
  intro k1 A9 U9
  have Sq1 : Hid (Sep x0 k1 [rB bka ([Value.int .u64 1, .int .u64 0, .int .u64 0, .int .u64 0, .int .i64 1]), rS s (g0 lb ch mb)]) := by
    show Sep _ _ _
    rw [← HB_a.out]
    exact Sep.fresh S0.out B Z U9 A9
  rw [HB_a.out]
  clear A B Z A9 U9 HB_a S0
  go_wp2_with (first | refine blk_alloc rfl 42 (wc I.none_) rfl It.Try.info_iw2 ?_)
  intro k2a A B Z
  obtain ⟨bkx, HB_x⟩ : ∃ b, Hid (k1.heap.size = b) := ⟨_, rfl⟩
  go_wp2_with (first | refine blk_store rfl 42 _ _ rfl k1.heap.size rfl ([Value.string ⟨#[98]⟩, .string ⟨#[107]⟩, .string ⟨#[118]⟩, .bool false]) rfl _ A rfl It.Try.size_w rfl ?_)
  intro k2 A9 U9
  have Sq2 : Hid (Sep x0 k2 [rB bkx ([Value.string ⟨#[98]⟩, .string ⟨#[107]⟩, .string ⟨#[118]⟩, .bool false]), rB bka ([Value.int .u64 1, .int .u64 0, .int .u64 0, .int .u64 0, .int .i64 1]), rS s (g0 lb ch mb)]) := by
    show Sep _ _ _
    rw [← HB_x.out]
    exact Sep.fresh Sq1.out B Z U9 A9
  rw [HB_x.out]
  clear A B Z A9 U9 HB_x Sq1
  go_wp2_with (first | refine blk_load rfl 35 _ rfl bka rfl ([Value.int .u64 1, .int .u64 0, .int .u64 0, .int .u64 0, .int .i64 1]) (Sq2.out.blk 1 rfl) _ Try.underlying35 rfl Try.size_s ?_ | refine blk_load rfl 42 _ rfl bkx rfl ([Value.string ⟨#[98]⟩, .string ⟨#[107]⟩, .string ⟨#[118]⟩, .bool false]) (Sq2.out.blk 0 rfl) _ Try.underlying42 rfl It.Try.size_w ?_ | fail)
  have Sq3 : Hid (Sep x0 (k2.alloc (.cells #[.string ⟨#[98]⟩, .string ⟨#[107]⟩, .string ⟨#[118]⟩, .bool false] 42)) [rB bkx ([Value.string ⟨#[98]⟩, .string ⟨#[107]⟩, .string ⟨#[118]⟩, .bool false]), rB bka ([Value.int .u64 1, .int .u64 0, .int .u64 0, .int .u64 0, .int .i64 1]), rS s (g0 lb ch mb)]) := Sq2.out.below ((Below.refl _ _).alloc (Nat.le_refl _) _)
  have HBS : Hid (Blk (k2.alloc (.cells #[.string ⟨#[98]⟩, .string ⟨#[107]⟩, .string ⟨#[118]⟩, .bool false] 42)) k2.heap.size [Value.string ⟨#[98]⟩, .string ⟨#[107]⟩, .string ⟨#[118]⟩, .bool false]) := Blk.of_row (heap_alloc_last _ _)
  refine (ex_push _ s lb ch mb k2.heap.size (shard_sh Sq3.out 2 rfl) (shard_lt Sq3.out 2 rfl) HBS.out (by simp)).mono ?_; rintro e k4 ⟨rfl, v1, hs, ht, hb⟩
  have Sq4 : Hid (Sep x0 k4 [rB bkx ([Value.string ⟨#[98]⟩, .string ⟨#[107]⟩, .string ⟨#[118]⟩, .bool false]), rB bka ([Value.int .u64 1, .int .u64 0, .int .u64 0, .int .u64 0, .int .i64 1]), rS s (g1 lb ch mb v1)]) := shard_turn Sq3.out 2 rfl hs ht hb
  clear hs ht hb Sq3 HBS
  go_wp2_with fail
  refine (waiting_any s (g1 lb ch mb v1) _ (shard_sh Sq4.out 2 rfl)).mono ?_; rintro e z0 ⟨rfl, ez⟩
  subst ez
  go_wp2_with (first | refine wpList_load_mid rfl 33 _ rfl bka 0 rfl [Value.int .u64 1, .int .u64 0, .int .u64 0, .int .u64 0] _ (preb (vs := [.int .i64 1]) (Sq4.out.blk 1 rfl)) Try.underlying33 rfl Try.size_v ?_ | fail)
  refine (ex_read0 _ s lb ch mb v1 (shard_sh Sq4.out 2 rfl) (shard_lt Sq4.out 2 rfl)).mono ?_; rintro e k5 ⟨rfl, hb⟩
  have Sq5 : Hid (Sep x0 k5 [rB bkx ([Value.string ⟨#[98]⟩, .string ⟨#[107]⟩, .string ⟨#[118]⟩, .bool false]), rB bka ([Value.int .u64 1, .int .u64 0, .int .u64 0, .int .u64 0, .int .i64 1]), rS s (g1 lb ch mb v1)]) := Sq4.out.below hb
  clear hb Sq4
  go_wp2_with (first | refine blk_alloc rfl 35 ([Value.int .u64 0, .int .u64 0, .int .u64 0, .int .u64 0, .int .i64 0]) rfl Try.info_st ?_)
  intro k6a A B Z
  obtain ⟨bkr0, HB_r0⟩ : ∃ b, Hid (k5.heap.size = b) := ⟨_, rfl⟩
  go_wp2_with (first | refine blk_store rfl 35 _ _ rfl k5.heap.size rfl ([Value.int .u64 0, .int .u64 0, .int .u64 0, .int .u64 0, .int .i64 0]) rfl _ A rfl Try.size_s rfl ?_)
  intro k6 A9 U9
  have Sq6 : Hid (Sep x0 k6 [rB bkr0 ([Value.int .u64 0, .int .u64 0, .int .u64 0, .int .u64 0, .int .i64 0]), rB bkx ([Value.string ⟨#[98]⟩, .string ⟨#[107]⟩, .string ⟨#[118]⟩, .bool false]), rB bka ([Value.int .u64 1, .int .u64 0, .int .u64 0, .int .u64 0, .int .i64 1]), rS s (g1 lb ch mb v1)]) := by
    show Sep _ _ _
    rw [← HB_r0.out]
    exact Sep.fresh Sq5.out B Z U9 A9
  rw [HB_r0.out]
  clear A B Z A9 U9 HB_r0 Sq5
  go_wp2_with (first | fail)
  refine (ex_step1 _ s lb ch mb v1 (shard_sh Sq6.out 3 rfl) (shard_lt Sq6.out 3 rfl)).mono ?_; rintro e k7 ⟨rfl, E1, hs, hv, ht, hb⟩
  have Sq7 : Hid (Sep x0 k7 [rB bkr0 ([Value.int .u64 0, .int .u64 0, .int .u64 0, .int .u64 0, .int .i64 0]), rB bkx ([Value.string ⟨#[98]⟩, .string ⟨#[107]⟩, .string ⟨#[118]⟩, .bool false]), rB bka ([Value.int .u64 1, .int .u64 0, .int .u64 0, .int .u64 0, .int .i64 1]), rS s (g2 lb ch mb E1)]) := shard_turn Sq6.out 3 rfl hs ht hb
  clear hs ht hb Sq6
  have HV := Lib.hid hv
  clear hv
  go_wp2_with (first | fail)
  refine (ex_step2 _ s lb ch mb E1 (shard_sh Sq7.out 3 rfl) (shard_lt Sq7.out 3 rfl)).mono ?_; rintro e k8 ⟨rfl, hb⟩
  have Sq8 : Hid (Sep x0 k8 [rB bkr0 ([Value.int .u64 0, .int .u64 0, .int .u64 0, .int .u64 0, .int .i64 0]), rB bkx ([Value.string ⟨#[98]⟩, .string ⟨#[107]⟩, .string ⟨#[118]⟩, .bool false]), rB bka ([Value.int .u64 1, .int .u64 0, .int .u64 0, .int .u64 0, .int .i64 1]), rS s (g2 lb ch mb E1)]) := Sq7.out.below hb
  clear hb Sq7
  go_wp2_with (first | refine wpList_load_mid rfl 33 _ rfl bka 0 rfl [Value.int .u64 1, .int .u64 0, .int .u64 0, .int .u64 0] _ (preb (vs := [.int .i64 1]) (Sq8.out.blk 2 rfl)) Try.underlying33 rfl Try.size_v ?_ | fail)
  refine (ex_read1 _ s lb ch mb E1 (shard_sh Sq8.out 3 rfl) (shard_lt Sq8.out 3 rfl) HV.out).mono ?_; rintro e k9 ⟨rfl, hb⟩
  have Sq9 : Hid (Sep x0 k9 [rB bkr0 ([Value.int .u64 0, .int .u64 0, .int .u64 0, .int .u64 0, .int .i64 0]), rB bkx ([Value.string ⟨#[98]⟩, .string ⟨#[107]⟩, .string ⟨#[118]⟩, .bool false]), rB bka ([Value.int .u64 1, .int .u64 0, .int .u64 0, .int .u64 0, .int .i64 1]), rS s (g2 lb ch mb E1)]) := Sq8.out.below hb
  clear hb Sq8
  go_wp2_with (first | refine blk_alloc rfl 35 ([Value.int .u64 0, .int .u64 0, .int .u64 0, .int .u64 0, .int .i64 0]) rfl Try.info_st ?_)
  intro k10a A B Z
  obtain ⟨bkr1, HB_r1⟩ : ∃ b, Hid (k9.heap.size = b) := ⟨_, rfl⟩
  go_wp2_with (first | refine blk_store rfl 35 _ _ rfl k9.heap.size rfl ([Value.int .u64 1, .int .u64 0, .int .u64 0, .int .u64 0, .int .i64 1]) rfl _ A rfl Try.size_s rfl ?_)
  intro k10 A9 U9
  have Sq10 : Hid (Sep x0 k10 [rB bkr1 ([Value.int .u64 1, .int .u64 0, .int .u64 0, .int .u64 0, .int .i64 1]), rB bkr0 ([Value.int .u64 0, .int .u64 0, .int .u64 0, .int .u64 0, .int .i64 0]), rB bkx ([Value.string ⟨#[98]⟩, .string ⟨#[107]⟩, .string ⟨#[118]⟩, .bool false]), rB bka ([Value.int .u64 1, .int .u64 0, .int .u64 0, .int .u64 0, .int .i64 1]), rS s (g2 lb ch mb E1)]) := by
    show Sep _ _ _
    rw [← HB_r1.out]
    exact Sep.fresh Sq9.out B Z U9 A9
  rw [HB_r1.out]
  clear A B Z A9 U9 HB_r1 Sq9
  go_wp2_with (first | fail)
  refine (ex_read2 _ s lb ch mb E1 (shard_sh Sq10.out 4 rfl) (shard_lt Sq10.out 4 rfl) HV.out).mono ?_; rintro e k11 ⟨rfl, hb⟩
  have Sq11 : Hid (Sep x0 k11 [rB bkr1 ([Value.int .u64 1, .int .u64 0, .int .u64 0, .int .u64 0, .int .i64 1]), rB bkr0 ([Value.int .u64 0, .int .u64 0, .int .u64 0, .int .u64 0, .int .i64 0]), rB bkx ([Value.string ⟨#[98]⟩, .string ⟨#[107]⟩, .string ⟨#[118]⟩, .bool false]), rB bka ([Value.int .u64 1, .int .u64 0, .int .u64 0, .int .u64 0, .int .i64 1]), rS s (g2 lb ch mb E1)]) := Sq10.out.below hb
  clear hb Sq10
  go_wp2_with (first | refine blk_alloc rfl 35 ([Value.int .u64 0, .int .u64 0, .int .u64 0, .int .u64 0, .int .i64 0]) rfl Try.info_st ?_)
  intro k12a A B Z
  obtain ⟨bkr2, HB_r2⟩ : ∃ b, Hid (k11.heap.size = b) := ⟨_, rfl⟩
  go_wp2_with (first | refine blk_store rfl 35 _ _ rfl k11.heap.size rfl ([Value.int .u64 0, .int .u64 0, .int .u64 0, .int .u64 0, .int .i64 0]) rfl _ A rfl Try.size_s rfl ?_)
  intro k12 A9 U9
  have Sq12 : Hid (Sep x0 k12 [rB bkr2 ([Value.int .u64 0, .int .u64 0, .int .u64 0, .int .u64 0, .int .i64 0]), rB bkr1 ([Value.int .u64 1, .int .u64 0, .int .u64 0, .int .u64 0, .int .i64 1]), rB bkr0 ([Value.int .u64 0, .int .u64 0, .int .u64 0, .int .u64 0, .int .i64 0]), rB bkx ([Value.string ⟨#[98]⟩, .string ⟨#[107]⟩, .string ⟨#[118]⟩, .bool false]), rB bka ([Value.int .u64 1, .int .u64 0, .int .u64 0, .int .u64 0, .int .i64 1]), rS s (g2 lb ch mb E1)]) := by
    show Sep _ _ _
    rw [← HB_r2.out]
    exact Sep.fresh Sq11.out B Z U9 A9
  rw [HB_r2.out]
  clear A B Z A9 U9 HB_r2 Sq11
  go_wp2_with (first | fail)
  refine (ex_last _ s lb ch mb E1 (shard_sh Sq12.out 5 rfl) (shard_lt Sq12.out 5 rfl) HV.out).mono ?_; rintro e k13 ⟨rfl, hb⟩
  have Sq13 : Hid (Sep x0 k13 [rB bkr2 ([Value.int .u64 0, .int .u64 0, .int .u64 0, .int .u64 0, .int .i64 0]), rB bkr1 ([Value.int .u64 1, .int .u64 0, .int .u64 0, .int .u64 0, .int .i64 1]), rB bkr0 ([Value.int .u64 0, .int .u64 0, .int .u64 0, .int .u64 0, .int .i64 0]), rB bkx ([Value.string ⟨#[98]⟩, .string ⟨#[107]⟩, .string ⟨#[118]⟩, .bool false]), rB bka ([Value.int .u64 1, .int .u64 0, .int .u64 0, .int .u64 0, .int .i64 1]), rS s (g2 lb ch mb E1)]) := Sq12.out.below hb
  clear hb Sq12
  go_wp2_with (first | refine blk_alloc rfl 42 (wc I.none_) rfl It.Try.info_iw2 ?_)
  intro y1 A B Z
  obtain ⟨b20, HB20⟩ : ∃ b, Hid (k13.heap.size = b) := ⟨_, rfl⟩
  have T1 : Hid (Sep x0 y1 [rB k13.heap.size (wc I.none_), rB bkr2 ([Value.int .u64 0, .int .u64 0, .int .u64 0, .int .u64 0, .int .i64 0]), rB bkr1 ([Value.int .u64 1, .int .u64 0, .int .u64 0, .int .u64 0, .int .i64 1]), rB bkr0 ([Value.int .u64 0, .int .u64 0, .int .u64 0, .int .u64 0, .int .i64 0]), rB bkx ([Value.string ⟨#[98]⟩, .string ⟨#[107]⟩, .string ⟨#[118]⟩, .bool false]), rB bka ([Value.int .u64 1, .int .u64 0, .int .u64 0, .int .u64 0, .int .i64 1]), rS s (g2 lb ch mb E1)]) := Sq13.out.box B Z A
  clear A B Z
  go_wp2_with (first | refine blk_alloc rfl 35 [Value.int .u64 0, .int .u64 0, .int .u64 0, .int .u64 0, .int .i64 0] rfl Try.info_st ?_)
  intro y2 A B Z
  have T2 : Hid (Sep x0 y2 [rB y1.heap.size [Value.int .u64 0, .int .u64 0, .int .u64 0, .int .u64 0, .int .i64 0], rB k13.heap.size (wc I.none_), rB bkr2 ([Value.int .u64 0, .int .u64 0, .int .u64 0, .int .u64 0, .int .i64 0]), rB bkr1 ([Value.int .u64 1, .int .u64 0, .int .u64 0, .int .u64 0, .int .i64 1]), rB bkr0 ([Value.int .u64 0, .int .u64 0, .int .u64 0, .int .u64 0, .int .i64 0]), rB bkx ([Value.string ⟨#[98]⟩, .string ⟨#[107]⟩, .string ⟨#[118]⟩, .bool false]), rB bka ([Value.int .u64 1, .int .u64 0, .int .u64 0, .int .u64 0, .int .i64 1]), rS s (g2 lb ch mb E1)]) := T1.out.box B Z A
  clear A B Z T1
  go_wp2_with (first | refine blk_store rfl 42 _ _ rfl k13.heap.size rfl [Value.string ⟨#[98]⟩, .string ⟨#[107]⟩, .string ⟨#[118]⟩, .bool false] rfl _ (T2.out.blk 1 rfl) rfl It.Try.size_w rfl ?_)
  intro y3 A U
  have T3 : Hid (Sep x0 y3 [rB y1.heap.size [Value.int .u64 0, .int .u64 0, .int .u64 0, .int .u64 0, .int .i64 0], rB k13.heap.size [Value.string ⟨#[98]⟩, .string ⟨#[107]⟩, .string ⟨#[118]⟩, .bool false], rB bkr2 ([Value.int .u64 0, .int .u64 0, .int .u64 0, .int .u64 0, .int .i64 0]), rB bkr1 ([Value.int .u64 1, .int .u64 0, .int .u64 0, .int .u64 0, .int .i64 1]), rB bkr0 ([Value.int .u64 0, .int .u64 0, .int .u64 0, .int .u64 0, .int .i64 0]), rB bkx ([Value.string ⟨#[98]⟩, .string ⟨#[107]⟩, .string ⟨#[118]⟩, .bool false]), rB bka ([Value.int .u64 1, .int .u64 0, .int .u64 0, .int .u64 0, .int .i64 1]), rS s (g2 lb ch mb E1)]) := T2.out.upd 1 rfl U A
  clear A U T2
  go_wp2_with (first | refine blk_store rfl 35 _ _ rfl y1.heap.size rfl [Value.int .u64 1, .int .u64 0, .int .u64 0, .int .u64 0, .int .i64 1] rfl _ (T3.out.blk 0 rfl) rfl Try.size_s rfl ?_)
  intro y4 A U
  have T4 : Hid (Sep x0 y4 [rB y1.heap.size [Value.int .u64 1, .int .u64 0, .int .u64 0, .int .u64 0, .int .i64 1], rB k13.heap.size [Value.string ⟨#[98]⟩, .string ⟨#[107]⟩, .string ⟨#[118]⟩, .bool false], rB bkr2 ([Value.int .u64 0, .int .u64 0, .int .u64 0, .int .u64 0, .int .i64 0]), rB bkr1 ([Value.int .u64 1, .int .u64 0, .int .u64 0, .int .u64 0, .int .i64 1]), rB bkr0 ([Value.int .u64 0, .int .u64 0, .int .u64 0, .int .u64 0, .int .i64 0]), rB bkx ([Value.string ⟨#[98]⟩, .string ⟨#[107]⟩, .string ⟨#[118]⟩, .bool false]), rB bka ([Value.int .u64 1, .int .u64 0, .int .u64 0, .int .u64 0, .int .i64 1]), rS s (g2 lb ch mb E1)]) := T3.out.upd 0 rfl U A
  clear A U T3 Sq13 HB20
  go_wp2_with fail
  have Sq15 : Hid (Sep x0 y4.drew [rB y1.heap.size [Value.int .u64 1, .int .u64 0, .int .u64 0, .int .u64 0, .int .i64 1], rB k13.heap.size [Value.string ⟨#[98]⟩, .string ⟨#[107]⟩, .string ⟨#[118]⟩, .bool false], rB bkr2 ([Value.int .u64 0, .int .u64 0, .int .u64 0, .int .u64 0, .int .i64 0]), rB bkr1 ([Value.int .u64 1, .int .u64 0, .int .u64 0, .int .u64 0, .int .i64 1]), rB bkr0 ([Value.int .u64 0, .int .u64 0, .int .u64 0, .int .u64 0, .int .i64 0]), rB bkx ([Value.string ⟨#[98]⟩, .string ⟨#[107]⟩, .string ⟨#[118]⟩, .bool false]), rB bka ([Value.int .u64 1, .int .u64 0, .int .u64 0, .int .u64 0, .int .i64 1]), rS s (g2 lb ch mb E1)]) := T4.out.below (Below.drew (Below.refl _ _))
  clear T4
  refine region_tree (fun u => Blk u (bkr1) [Value.int .u64 1, .int .u64 0, .int .u64 0, .int .u64 0, .int .i64 1] ∧ Blk u (bka) [Value.int .u64 1, .int .u64 0, .int .u64 0, .int .u64 0, .int .i64 1] ∧ Blk u (k13.heap.size) [Value.string ⟨#[98]⟩, .string ⟨#[107]⟩, .string ⟨#[118]⟩, .bool false] ∧ Blk u (bkx) [Value.string ⟨#[98]⟩, .string ⟨#[107]⟩, .string ⟨#[118]⟩, .bool false]) 73 Try.mixed ?_
  refine tr_read 0 rfl (by kernel_rfl) ⟨Sq15.out.blk 3 rfl, Sq15.out.blk 6 rfl, Sq15.out.blk 1 rfl, Sq15.out.blk 5 rfl⟩ ?_
  refine c_value rfl (.int .i64 1) (fun u hu => by go_simp) (fun _ _ _ h => h) (fun K hK => ?_)
  go_simp
  refine hK _ ?_
  clear hK K
  refine c_nil ?_
  refine tr_read 1 rfl (by kernel_rfl) ⟨Sq15.out.blk 3 rfl, Sq15.out.blk 6 rfl, Sq15.out.blk 1 rfl, Sq15.out.blk 5 rfl⟩ ?_
  refine c_value rfl (.bool true) (fun u hu => by go_simp) (fun _ _ _ h => h) (fun K hK => ?_)
  go_simp
  refine hK _ ?_
  clear hK K
  refine c_nil ?_
  refine tr_read 2 rfl (by kernel_rfl) ⟨Sq15.out.blk 3 rfl, Sq15.out.blk 6 rfl, Sq15.out.blk 1 rfl, Sq15.out.blk 5 rfl⟩ ?_
  refine c_value rfl (.bool true) (fun u hu => by go_simp) (fun _ _ _ h => h) (fun K hK => ?_)
  go_simp
  refine hK _ ?_
  clear hK K
  refine c_nil ?_
  refine tr_read 3 rfl (by kernel_rfl) ⟨Sq15.out.blk 3 rfl, Sq15.out.blk 6 rfl, Sq15.out.blk 1 rfl, Sq15.out.blk 5 rfl⟩ ?_
  refine cg_value (by rfl) (.int .i64 0) (fun u hu => by go_simp) (fun _ _ _ h => h) (fun K hK => ?_)
  go_simp
  refine hK _ ?_
  clear hK K
  refine c_nil ?_
  refine tr_read 4 rfl (by kernel_rfl) ⟨Sq15.out.blk 3 rfl, Sq15.out.blk 6 rfl, Sq15.out.blk 1 rfl, Sq15.out.blk 5 rfl⟩ ?_
  refine cg_value (by rfl) (.bool true) (fun u hu => by go_simp) (fun _ _ _ h => h) (fun K hK => ?_)
  go_simp
  refine hK _ ?_
  clear hK K
  refine c_nil ?_
  refine tr_read 5 rfl (by kernel_rfl) ⟨Sq15.out.blk 3 rfl, Sq15.out.blk 6 rfl, Sq15.out.blk 1 rfl, Sq15.out.blk 5 rfl⟩ ?_
  refine c_value rfl (.bool true) (fun u hu => by go_simp) (fun _ _ _ h => h) (fun K hK => ?_)
  go_simp
  refine hK _ ?_
  clear hK K
  refine c_nil ?_
  refine tr_read 6 rfl (by kernel_rfl) ⟨Sq15.out.blk 3 rfl, Sq15.out.blk 6 rfl, Sq15.out.blk 1 rfl, Sq15.out.blk 5 rfl⟩ ?_
  refine c_value rfl (.bool true) (fun u hu => by go_simp) (fun _ _ _ h => h) (fun K hK => ?_)
  go_simp
  refine hK _ ?_
  clear hK K
  refine c_nil ?_
  refine tr_read 7 rfl (by kernel_rfl) ⟨Sq15.out.blk 3 rfl, Sq15.out.blk 6 rfl, Sq15.out.blk 1 rfl, Sq15.out.blk 5 rfl⟩ ?_
  refine cg_value (by rfl) (.bool true) (fun u hu => by go_simp) (fun _ _ _ h => h) (fun K hK => ?_)
  go_simp
  refine hK _ ?_
  clear hK K
  refine c_nil ?_
  refine tr_read 8 rfl (by kernel_rfl) ⟨Sq15.out.blk 3 rfl, Sq15.out.blk 6 rfl, Sq15.out.blk 1 rfl, Sq15.out.blk 5 rfl⟩ ?_
  refine c_value rfl (.bool true) (fun u hu => by go_simp) (fun _ _ _ h => h) (fun K hK => ?_)
  go_simp
  refine hK _ ?_
  clear hK K
  refine c_nil ?_
  refine tr_read 9 rfl (by kernel_rfl) ⟨Sq15.out.blk 3 rfl, Sq15.out.blk 6 rfl, Sq15.out.blk 1 rfl, Sq15.out.blk 5 rfl⟩ ?_
  refine c_value rfl (.bool true) (fun u hu => by go_simp) (fun _ _ _ h => h) (fun K hK => ?_)
  go_simp
  refine hK _ ?_
  clear hK K
  refine c_nil ?_
  refine tr_read 10 rfl (by kernel_rfl) ⟨Sq15.out.blk 3 rfl, Sq15.out.blk 6 rfl, Sq15.out.blk 1 rfl, Sq15.out.blk 5 rfl⟩ ?_
  refine cg_value (by rfl) (.int .i64 1) (fun u hu => by go_simp) (fun _ _ _ h => h) (fun K hK => ?_)
  go_simp
  refine hK _ ?_
  clear hK K
  refine c_nil ?_
  refine tr_read 11 rfl (by kernel_rfl) ⟨Sq15.out.blk 3 rfl, Sq15.out.blk 6 rfl, Sq15.out.blk 1 rfl, Sq15.out.blk 5 rfl⟩ ?_
  refine cg_value (by rfl) (.bool true) (fun u hu => by go_simp) (fun _ _ _ h => h) (fun K hK => ?_)
  go_simp
  refine hK _ ?_
  clear hK K
  refine c_nil ?_
  refine tr_read 12 rfl (by kernel_rfl) ⟨Sq15.out.blk 3 rfl, Sq15.out.blk 6 rfl, Sq15.out.blk 1 rfl, Sq15.out.blk 5 rfl⟩ ?_
  refine c_value rfl (.bool true) (fun u hu => by go_simp) (fun _ _ _ h => h) (fun K hK => ?_)
  go_simp
  refine hK _ ?_
  clear hK K
  refine c_nil ?_
  refine tr_read 13 rfl (by kernel_rfl) ⟨Sq15.out.blk 3 rfl, Sq15.out.blk 6 rfl, Sq15.out.blk 1 rfl, Sq15.out.blk 5 rfl⟩ ?_
  refine c_value rfl (.bool true) (fun u hu => by go_simp) (fun _ _ _ h => h) (fun K hK => ?_)
  go_simp
  refine hK _ ?_
  clear hK K
  refine c_nil ?_
  refine tr_read 14 rfl (by kernel_rfl) ⟨Sq15.out.blk 3 rfl, Sq15.out.blk 6 rfl, Sq15.out.blk 1 rfl, Sq15.out.blk 5 rfl⟩ ?_
  refine cg_value (by rfl) (.bool false) (fun u hu => by go_simp) (fun _ _ _ h => h) (fun K hK => ?_)
  go_simp
  refine hK _ ?_
  clear hK K
  refine c_nil ?_
  refine tr_read 15 rfl (by kernel_rfl) ⟨Sq15.out.blk 3 rfl, Sq15.out.blk 6 rfl, Sq15.out.blk 1 rfl, Sq15.out.blk 5 rfl⟩ ?_
  refine cg_value (by rfl) (.bool true) (fun u hu => by go_simp) (fun _ _ _ h => h) (fun K hK => ?_)
  go_simp
  refine hK _ ?_
  clear hK K
  refine c_nil ?_
  refine tr_read 16 rfl (by kernel_rfl) ⟨Sq15.out.blk 3 rfl, Sq15.out.blk 6 rfl, Sq15.out.blk 1 rfl, Sq15.out.blk 5 rfl⟩ ?_
  refine c_value rfl (.bool true) (fun u hu => by go_simp) (fun _ _ _ h => h) (fun K hK => ?_)
  go_simp
  refine hK _ ?_
  clear hK K
  refine c_nil ?_
  refine tr_read 17 rfl (by kernel_rfl) ⟨Sq15.out.blk 3 rfl, Sq15.out.blk 6 rfl, Sq15.out.blk 1 rfl, Sq15.out.blk 5 rfl⟩ ?_
  refine c_value rfl (.bool true) (fun u hu => by go_simp) (fun _ _ _ h => h) (fun K hK => ?_)
  go_simp
  refine hK _ ?_
  clear hK K
  refine c_nil ?_
  refine tr_read 18 rfl (by kernel_rfl) ⟨Sq15.out.blk 3 rfl, Sq15.out.blk 6 rfl, Sq15.out.blk 1 rfl, Sq15.out.blk 5 rfl⟩ ?_
  refine cg_value (by rfl) (.bool true) (fun u hu => by go_simp) (fun _ _ _ h => h) (fun K hK => ?_)
  go_simp
  refine hK _ ?_
  clear hK K
  refine c_nil ?_
  refine tr_read 19 rfl (by kernel_rfl) ⟨Sq15.out.blk 3 rfl, Sq15.out.blk 6 rfl, Sq15.out.blk 1 rfl, Sq15.out.blk 5 rfl⟩ ?_
  refine c_value rfl (.bool true) (fun u hu => by go_simp) (fun _ _ _ h => h) (fun K hK => ?_)
  go_simp
  refine hK _ ?_
  clear hK K
  refine c_nil ?_
  refine tr_read 20 rfl (by kernel_rfl) ⟨Sq15.out.blk 3 rfl, Sq15.out.blk 6 rfl, Sq15.out.blk 1 rfl, Sq15.out.blk 5 rfl⟩ ?_
  refine c_value rfl (.bool true) (fun u hu => by go_simp) (fun _ _ _ h => h) (fun K hK => ?_)
  go_simp
  refine hK _ ?_
  clear hK K
  refine c_nil ?_
  refine tr_read 21 rfl (by kernel_rfl) ⟨Sq15.out.blk 3 rfl, Sq15.out.blk 6 rfl, Sq15.out.blk 1 rfl, Sq15.out.blk 5 rfl⟩ ?_
  refine cg_value (by rfl) (.bool false) (fun u hu => by go_simp) (fun _ _ _ h => h) (fun K hK => ?_)
  go_simp
  refine hK _ ?_
  clear hK K
  refine c_nil ?_
  refine tr_read 22 rfl (by kernel_rfl) ⟨Sq15.out.blk 3 rfl, Sq15.out.blk 6 rfl, Sq15.out.blk 1 rfl, Sq15.out.blk 5 rfl⟩ ?_
  refine cg_value (by rfl) (.bool true) (fun u hu => by go_simp) (fun _ _ _ h => h) (fun K hK => ?_)
  go_simp
  refine hK _ ?_
  clear hK K
  refine c_nil ?_
  refine tr_read 23 rfl (by kernel_rfl) ⟨Sq15.out.blk 3 rfl, Sq15.out.blk 6 rfl, Sq15.out.blk 1 rfl, Sq15.out.blk 5 rfl⟩ ?_
  refine c_value rfl (.bool true) (fun u hu => by go_simp) (fun _ _ _ h => h) (fun K hK => ?_)
  go_simp
  refine hK _ ?_
  clear hK K
  refine c_nil ?_
  refine tr_read 24 rfl (by kernel_rfl) ⟨Sq15.out.blk 3 rfl, Sq15.out.blk 6 rfl, Sq15.out.blk 1 rfl, Sq15.out.blk 5 rfl⟩ ?_
  refine c_value rfl (.bool true) (fun u hu => by go_simp) (fun _ _ _ h => h) (fun K hK => ?_)
  go_simp
  refine hK _ ?_
  clear hK K
  refine c_nil ?_
  refine tr_read 25 rfl (by kernel_rfl) ⟨Sq15.out.blk 3 rfl, Sq15.out.blk 6 rfl, Sq15.out.blk 1 rfl, Sq15.out.blk 5 rfl⟩ ?_
  refine cg_value (by rfl) (.string ⟨#[118]⟩) (fun u hu => by go_simp) (fun _ _ _ h => h) (fun K hK => ?_)
  go_simp
  refine hK _ ?_
  clear hK K
  refine c_nil ?_
  refine tr_read 26 rfl (by kernel_rfl) ⟨Sq15.out.blk 3 rfl, Sq15.out.blk 6 rfl, Sq15.out.blk 1 rfl, Sq15.out.blk 5 rfl⟩ ?_
  refine cg_value (by rfl) (.bool true) (fun u hu => by go_simp) (fun _ _ _ h => h) (fun K hK => ?_)
  go_simp
  refine hK _ ?_
  clear hK K
  refine c_nil ?_
  refine tr_read 27 rfl (by kernel_rfl) ⟨Sq15.out.blk 3 rfl, Sq15.out.blk 6 rfl, Sq15.out.blk 1 rfl, Sq15.out.blk 5 rfl⟩ ?_
  refine c_value rfl (.bool true) (fun u hu => by go_simp) (fun _ _ _ h => h) (fun K hK => ?_)
  go_simp
  refine hK _ ?_
  clear hK K
  refine c_nil ?_
  refine tr_read 28 rfl (by kernel_rfl) ⟨Sq15.out.blk 3 rfl, Sq15.out.blk 6 rfl, Sq15.out.blk 1 rfl, Sq15.out.blk 5 rfl⟩ ?_
  refine c_value rfl (.bool true) (fun u hu => by go_simp) (fun _ _ _ h => h) (fun K hK => ?_)
  go_simp
  refine hK _ ?_
  clear hK K
  refine c_nil ?_
  refine tr_read 29 rfl (by kernel_rfl) ⟨Sq15.out.blk 3 rfl, Sq15.out.blk 6 rfl, Sq15.out.blk 1 rfl, Sq15.out.blk 5 rfl⟩ ?_
  refine cg_mid_load (by rfl) 35 _ rfl (bkr1) 0 rfl [Value.int .u64 1, .int .u64 0, .int .u64 0, .int .u64 0, .int .i64 1] (fun u hu => (hu.1).1) _ Try.underlying35 rfl Try.size_s (fun _ _ _ h => h) (fun K hK => ?_)
  go_simp
  refine hK _ ?_
  clear hK K
  refine c_nil ?_
  refine tr_read 30 rfl (by kernel_rfl) ⟨Sq15.out.blk 3 rfl, Sq15.out.blk 6 rfl, Sq15.out.blk 1 rfl, Sq15.out.blk 5 rfl⟩ ?_
  refine cg_mid_load (by rfl) 35 _ rfl (bka) 0 rfl [Value.int .u64 1, .int .u64 0, .int .u64 0, .int .u64 0, .int .i64 1] (fun u hu => (hu.2.1).1) _ Try.underlying35 rfl Try.size_s (fun _ _ _ h => h) (fun K hK => ?_)
  go_simp
  refine hK _ ?_
  clear hK K
  refine c_nil ?_
  refine tr_read 31 rfl (by kernel_rfl) ⟨Sq15.out.blk 3 rfl, Sq15.out.blk 6 rfl, Sq15.out.blk 1 rfl, Sq15.out.blk 5 rfl⟩ ?_
  refine cg_value (by rfl) (.bool true) (fun u hu => by go_simp) (fun _ _ _ h => h) (fun K hK => ?_)
  go_simp
  refine hK _ ?_
  clear hK K
  refine c_nil ?_
  refine tr_read 32 rfl (by kernel_rfl) ⟨Sq15.out.blk 3 rfl, Sq15.out.blk 6 rfl, Sq15.out.blk 1 rfl, Sq15.out.blk 5 rfl⟩ ?_
  refine c_value rfl (.bool true) (fun u hu => by go_simp) (fun _ _ _ h => h) (fun K hK => ?_)
  go_simp
  refine hK _ ?_
  clear hK K
  refine c_nil ?_
  refine tr_read 33 rfl (by kernel_rfl) ⟨Sq15.out.blk 3 rfl, Sq15.out.blk 6 rfl, Sq15.out.blk 1 rfl, Sq15.out.blk 5 rfl⟩ ?_
  refine c_value rfl (.bool true) (fun u hu => by go_simp) (fun _ _ _ h => h) (fun K hK => ?_)
  go_simp
  refine hK _ ?_
  clear hK K
  refine c_nil ?_
  refine tr_read 34 rfl (by kernel_rfl) ⟨Sq15.out.blk 3 rfl, Sq15.out.blk 6 rfl, Sq15.out.blk 1 rfl, Sq15.out.blk 5 rfl⟩ ?_
  refine cg_value (by rfl) (.bool true) (fun u hu => by go_simp) (fun _ _ _ h => h) (fun K hK => ?_)
  go_simp
  refine hK _ ?_
  clear hK K
  refine c_nil ?_
  refine tr_read 35 rfl (by kernel_rfl) ⟨Sq15.out.blk 3 rfl, Sq15.out.blk 6 rfl, Sq15.out.blk 1 rfl, Sq15.out.blk 5 rfl⟩ ?_
  refine c_value rfl (.bool true) (fun u hu => by go_simp) (fun _ _ _ h => h) (fun K hK => ?_)
  go_simp
  refine hK _ ?_
  clear hK K
  refine c_nil ?_
  refine tr_read 36 rfl (by kernel_rfl) ⟨Sq15.out.blk 3 rfl, Sq15.out.blk 6 rfl, Sq15.out.blk 1 rfl, Sq15.out.blk 5 rfl⟩ ?_
  refine c_value rfl (.bool true) (fun u hu => by go_simp) (fun _ _ _ h => h) (fun K hK => ?_)
  go_simp
  refine hK _ ?_
  clear hK K
  refine c_nil ?_
  refine tr_read 37 rfl (by kernel_rfl) ⟨Sq15.out.blk 3 rfl, Sq15.out.blk 6 rfl, Sq15.out.blk 1 rfl, Sq15.out.blk 5 rfl⟩ ?_
  refine cg_value (by rfl) (.bool false) (fun u hu => by go_simp) (fun _ _ _ h => h) (fun K hK => ?_)
  go_simp
  refine hK _ ?_
  clear hK K
  refine c_nil ?_
  refine tr_read 38 rfl (by kernel_rfl) ⟨Sq15.out.blk 3 rfl, Sq15.out.blk 6 rfl, Sq15.out.blk 1 rfl, Sq15.out.blk 5 rfl⟩ ?_
  refine cg_value (by rfl) (.bool true) (fun u hu => by go_simp) (fun _ _ _ h => h) (fun K hK => ?_)
  go_simp
  refine hK _ ?_
  clear hK K
  refine c_nil ?_
  refine tr_read 39 rfl (by kernel_rfl) ⟨Sq15.out.blk 3 rfl, Sq15.out.blk 6 rfl, Sq15.out.blk 1 rfl, Sq15.out.blk 5 rfl⟩ ?_
  refine c_value rfl (.bool true) (fun u hu => by go_simp) (fun _ _ _ h => h) (fun K hK => ?_)
  go_simp
  refine hK _ ?_
  clear hK K
  refine c_nil ?_
  refine tr_read 40 rfl (by kernel_rfl) ⟨Sq15.out.blk 3 rfl, Sq15.out.blk 6 rfl, Sq15.out.blk 1 rfl, Sq15.out.blk 5 rfl⟩ ?_
  refine c_value rfl (.bool true) (fun u hu => by go_simp) (fun _ _ _ h => h) (fun K hK => ?_)
  go_simp
  refine hK _ ?_
  clear hK K
  refine c_nil ?_
  refine tr_read 41 rfl (by kernel_rfl) ⟨Sq15.out.blk 3 rfl, Sq15.out.blk 6 rfl, Sq15.out.blk 1 rfl, Sq15.out.blk 5 rfl⟩ ?_
  refine cg_mid_load (by rfl) 42 _ rfl (k13.heap.size) 0 rfl [Value.string ⟨#[98]⟩, .string ⟨#[107]⟩, .string ⟨#[118]⟩, .bool false] (fun u hu => (hu.2.2.1).1) _ Try.underlying42 rfl It.Try.size_w (fun _ _ _ h => h) (fun K hK => ?_)
  go_simp
  refine hK _ ?_
  clear hK K
  refine c_nil ?_
  refine tr_read 42 rfl (by kernel_rfl) ⟨Sq15.out.blk 3 rfl, Sq15.out.blk 6 rfl, Sq15.out.blk 1 rfl, Sq15.out.blk 5 rfl⟩ ?_
  refine cg_mid_load (by rfl) 42 _ rfl (bkx) 0 rfl [Value.string ⟨#[98]⟩, .string ⟨#[107]⟩, .string ⟨#[118]⟩, .bool false] (fun u hu => (hu.2.2.2).1) _ Try.underlying42 rfl It.Try.size_w (fun _ _ _ h => h) (fun K hK => ?_)
  go_simp
  refine hK _ ?_
  clear hK K
  refine c_nil ?_
  refine tr_read 43 rfl (by kernel_rfl) ⟨Sq15.out.blk 3 rfl, Sq15.out.blk 6 rfl, Sq15.out.blk 1 rfl, Sq15.out.blk 5 rfl⟩ ?_
  refine cg_value (by rfl) (.bool true) (fun u hu => by go_simp) (fun _ _ _ h => h) (fun K hK => ?_)
  go_simp
  refine hK _ ?_
  clear hK K
  refine c_nil ?_
  refine tr_read 44 rfl (by kernel_rfl) ⟨Sq15.out.blk 3 rfl, Sq15.out.blk 6 rfl, Sq15.out.blk 1 rfl, Sq15.out.blk 5 rfl⟩ ?_
  refine c_value rfl (.bool true) (fun u hu => by go_simp) (fun _ _ _ h => h) (fun K hK => ?_)
  go_simp
  refine hK _ ?_
  clear hK K
  refine c_nil ?_
  refine tr_read 45 rfl (by kernel_rfl) ⟨Sq15.out.blk 3 rfl, Sq15.out.blk 6 rfl, Sq15.out.blk 1 rfl, Sq15.out.blk 5 rfl⟩ ?_
  refine c_value rfl (.bool true) (fun u hu => by go_simp) (fun _ _ _ h => h) (fun K hK => ?_)
  go_simp
  refine hK _ ?_
  clear hK K
  refine c_nil ?_
  refine tr_read 46 rfl (by kernel_rfl) ⟨Sq15.out.blk 3 rfl, Sq15.out.blk 6 rfl, Sq15.out.blk 1 rfl, Sq15.out.blk 5 rfl⟩ ?_
  refine cg_value (by rfl) (.bool true) (fun u hu => by go_simp) (fun _ _ _ h => h) (fun K hK => ?_)
  go_simp
  refine hK _ ?_
  clear hK K
  refine c_nil ?_
  refine tr_read 47 rfl (by kernel_rfl) ⟨Sq15.out.blk 3 rfl, Sq15.out.blk 6 rfl, Sq15.out.blk 1 rfl, Sq15.out.blk 5 rfl⟩ ?_
  refine c_value rfl (.bool true) (fun u hu => by go_simp) (fun _ _ _ h => h) (fun K hK => ?_)
  go_simp
  refine hK _ ?_
  clear hK K
  refine c_nil ?_
  refine tr_read 48 rfl (by kernel_rfl) ⟨Sq15.out.blk 3 rfl, Sq15.out.blk 6 rfl, Sq15.out.blk 1 rfl, Sq15.out.blk 5 rfl⟩ ?_
  refine c_value rfl (.bool true) (fun u hu => by go_simp) (fun _ _ _ h => h) (fun K hK => ?_)
  go_simp
  refine hK _ ?_
  clear hK K
  refine c_nil ?_
  refine tr_read 49 rfl (by kernel_rfl) ⟨Sq15.out.blk 3 rfl, Sq15.out.blk 6 rfl, Sq15.out.blk 1 rfl, Sq15.out.blk 5 rfl⟩ ?_
  refine cg_value (by rfl) (.pointer (some ⟨s, 0, none⟩)) (fun u hu => by go_simp) (fun _ _ _ h => h) (fun K hK => ?_)
  go_simp
  refine hK _ ?_
  clear hK K
  refine c_nil ?_
  refine tr_read 51 rfl (by kernel_rfl) ⟨Sq15.out.blk 3 rfl, Sq15.out.blk 6 rfl, Sq15.out.blk 1 rfl, Sq15.out.blk 5 rfl⟩ ?_
  refine cg_value (by rfl) (.pointer (some ⟨bka, 0, none⟩)) (fun u hu => by go_simp) (fun _ _ _ h => h) (fun K hK => ?_)
  go_simp
  refine hK _ ?_
  clear hK K
  refine c_nil ?_
  refine tr_read 52 rfl (by kernel_rfl) ⟨Sq15.out.blk 3 rfl, Sq15.out.blk 6 rfl, Sq15.out.blk 1 rfl, Sq15.out.blk 5 rfl⟩ ?_
  refine cg_mid_load (by rfl) 33 _ rfl (bka) 0 rfl [Value.int .u64 1, .int .u64 0, .int .u64 0, .int .u64 0] (fun u hu => preb (vs := [.int .i64 1]) (hu.2.1)) _ Try.underlying33 rfl Try.size_v (fun _ _ _ h => h) (fun K hK => ?_)
  go_simp
  refine hK _ ?_
  clear hK K
  refine c_nil ?_
  refine tr_one 50 rfl (by kernel_rfl) ?_
  go_wp2_with (first | (go_at_call 28; refine Calls.mono (ex_applied _ s lb ch mb E1 (shard_sh Sq15.out 7 rfl) (shard_lt Sq15.out 7 rfl)) ?_; rintro e k16 ⟨rfl, hb⟩))
  have Sq16 : Hid (Sep x0 k16 [rB y1.heap.size [Value.int .u64 1, .int .u64 0, .int .u64 0, .int .u64 0, .int .i64 1], rB k13.heap.size [Value.string ⟨#[98]⟩, .string ⟨#[107]⟩, .string ⟨#[118]⟩, .bool false], rB bkr2 ([Value.int .u64 0, .int .u64 0, .int .u64 0, .int .u64 0, .int .i64 0]), rB bkr1 ([Value.int .u64 1, .int .u64 0, .int .u64 0, .int .u64 0, .int .i64 1]), rB bkr0 ([Value.int .u64 0, .int .u64 0, .int .u64 0, .int .u64 0, .int .i64 0]), rB bkx ([Value.string ⟨#[98]⟩, .string ⟨#[107]⟩, .string ⟨#[118]⟩, .bool false]), rB bka ([Value.int .u64 1, .int .u64 0, .int .u64 0, .int .u64 0, .int .i64 1]), rS s (g2 lb ch mb E1)]) := Sq15.out.below hb
  clear hb Sq15
  refine And.intro (fun _ => ⟨Sq16.out.blk 3 rfl, Sq16.out.blk 6 rfl, Sq16.out.blk 1 rfl, Sq16.out.blk 5 rfl⟩) ?_
  refine tr_read 53 rfl (by kernel_rfl) ⟨Sq16.out.blk 3 rfl, Sq16.out.blk 6 rfl, Sq16.out.blk 1 rfl, Sq16.out.blk 5 rfl⟩ ?_
  refine cg_value (by rfl) (.bool true) (fun u hu => by go_simp) (fun _ _ _ h => h) (fun K hK => ?_)
  go_simp
  refine hK _ ?_
  clear hK K
  refine c_nil ?_
  refine tr_read 54 rfl (by kernel_rfl) ⟨Sq16.out.blk 3 rfl, Sq16.out.blk 6 rfl, Sq16.out.blk 1 rfl, Sq16.out.blk 5 rfl⟩ ?_
  refine c_value rfl (.bool true) (fun u hu => by go_simp) (fun _ _ _ h => h) (fun K hK => ?_)
  go_simp
  refine hK _ ?_
  clear hK K
  refine c_nil ?_
  refine tr_read 55 rfl (by kernel_rfl) ⟨Sq16.out.blk 3 rfl, Sq16.out.blk 6 rfl, Sq16.out.blk 1 rfl, Sq16.out.blk 5 rfl⟩ ?_
  refine c_value rfl (.bool true) (fun u hu => by go_simp) (fun _ _ _ h => h) (fun K hK => ?_)
  go_simp
  refine hK _ ?_
  clear hK K
  refine c_nil ?_
  refine tr_read 56 rfl (by kernel_rfl) ⟨Sq16.out.blk 3 rfl, Sq16.out.blk 6 rfl, Sq16.out.blk 1 rfl, Sq16.out.blk 5 rfl⟩ ?_
  refine cg_value (by rfl) (.pointer (some ⟨s, 0, none⟩)) (fun u hu => by go_simp) (fun _ _ _ h => h) (fun K hK => ?_)
  go_simp
  refine hK _ ?_
  clear hK K
  refine c_nil ?_
  refine tr_one 57 rfl (by kernel_rfl) ?_
  go_wp2_with (first | (go_at_call 27; refine Calls.mono (ex_room _ s lb ch mb E1 (shard_sh Sq16.out 7 rfl) (shard_lt Sq16.out 7 rfl)) ?_; rintro e k17 ⟨rfl, hb⟩))
  have Sq17 : Hid (Sep x0 k17 [rB y1.heap.size [Value.int .u64 1, .int .u64 0, .int .u64 0, .int .u64 0, .int .i64 1], rB k13.heap.size [Value.string ⟨#[98]⟩, .string ⟨#[107]⟩, .string ⟨#[118]⟩, .bool false], rB bkr2 ([Value.int .u64 0, .int .u64 0, .int .u64 0, .int .u64 0, .int .i64 0]), rB bkr1 ([Value.int .u64 1, .int .u64 0, .int .u64 0, .int .u64 0, .int .i64 1]), rB bkr0 ([Value.int .u64 0, .int .u64 0, .int .u64 0, .int .u64 0, .int .i64 0]), rB bkx ([Value.string ⟨#[98]⟩, .string ⟨#[107]⟩, .string ⟨#[118]⟩, .bool false]), rB bka ([Value.int .u64 1, .int .u64 0, .int .u64 0, .int .u64 0, .int .i64 1]), rS s (g2 lb ch mb E1)]) := Sq16.out.below hb
  clear hb Sq16
  refine And.intro (fun _ => ⟨Sq17.out.blk 3 rfl, Sq17.out.blk 6 rfl, Sq17.out.blk 1 rfl, Sq17.out.blk 5 rfl⟩) ?_
  refine tr_read 58 rfl (by kernel_rfl) ⟨Sq17.out.blk 3 rfl, Sq17.out.blk 6 rfl, Sq17.out.blk 1 rfl, Sq17.out.blk 5 rfl⟩ ?_
  refine cg_value (by rfl) (.bool true) (fun u hu => by go_simp) (fun _ _ _ h => h) (fun K hK => ?_)
  go_simp
  refine hK _ ?_
  clear hK K
  refine c_nil ?_
  refine tr_read 59 rfl (by kernel_rfl) ⟨Sq17.out.blk 3 rfl, Sq17.out.blk 6 rfl, Sq17.out.blk 1 rfl, Sq17.out.blk 5 rfl⟩ ?_
  refine c_value rfl (.bool true) (fun u hu => by go_simp) (fun _ _ _ h => h) (fun K hK => ?_)
  go_simp
  refine hK _ ?_
  clear hK K
  refine c_nil ?_
  refine tr_read 60 rfl (by kernel_rfl) ⟨Sq17.out.blk 3 rfl, Sq17.out.blk 6 rfl, Sq17.out.blk 1 rfl, Sq17.out.blk 5 rfl⟩ ?_
  refine c_value rfl (.bool true) (fun u hu => by go_simp) (fun _ _ _ h => h) (fun K hK => ?_)
  go_simp
  refine hK _ ?_
  clear hK K
  refine c_nil ?_
  refine tr_read 61 rfl (by kernel_rfl) ⟨Sq17.out.blk 3 rfl, Sq17.out.blk 6 rfl, Sq17.out.blk 1 rfl, Sq17.out.blk 5 rfl⟩ ?_
  refine cg_value (by rfl) (.pointer (some ⟨s, 0, none⟩)) (fun u hu => by go_simp) (fun _ _ _ h => h) (fun K hK => ?_)
  go_simp
  refine hK _ ?_
  clear hK K
  refine c_nil ?_
  refine tr_one 62 rfl (by kernel_rfl) ?_
  go_wp2_with (first | (go_at_call 29; refine Calls.mono (ex_versions _ s lb ch mb E1 (shard_sh Sq17.out 7 rfl) (shard_lt Sq17.out 7 rfl) HV.out) ?_; rintro e k18 ⟨rfl, hb⟩))
  have Sq18 : Hid (Sep x0 k18 [rB y1.heap.size [Value.int .u64 1, .int .u64 0, .int .u64 0, .int .u64 0, .int .i64 1], rB k13.heap.size [Value.string ⟨#[98]⟩, .string ⟨#[107]⟩, .string ⟨#[118]⟩, .bool false], rB bkr2 ([Value.int .u64 0, .int .u64 0, .int .u64 0, .int .u64 0, .int .i64 0]), rB bkr1 ([Value.int .u64 1, .int .u64 0, .int .u64 0, .int .u64 0, .int .i64 1]), rB bkr0 ([Value.int .u64 0, .int .u64 0, .int .u64 0, .int .u64 0, .int .i64 0]), rB bkx ([Value.string ⟨#[98]⟩, .string ⟨#[107]⟩, .string ⟨#[118]⟩, .bool false]), rB bka ([Value.int .u64 1, .int .u64 0, .int .u64 0, .int .u64 0, .int .i64 1]), rS s (g2 lb ch mb E1)]) := Sq17.out.below hb
  clear hb Sq17
  refine And.intro (fun _ => ⟨Sq18.out.blk 3 rfl, Sq18.out.blk 6 rfl, Sq18.out.blk 1 rfl, Sq18.out.blk 5 rfl⟩) ?_
  refine tr_read 63 rfl (by kernel_rfl) ⟨Sq18.out.blk 3 rfl, Sq18.out.blk 6 rfl, Sq18.out.blk 1 rfl, Sq18.out.blk 5 rfl⟩ ?_
  refine cg_value (by rfl) (.bool true) (fun u hu => by go_simp) (fun _ _ _ h => h) (fun K hK => ?_)
  go_simp
  refine hK _ ?_
  clear hK K
  refine c_nil ?_
  refine tr_read 64 rfl (by kernel_rfl) ⟨Sq18.out.blk 3 rfl, Sq18.out.blk 6 rfl, Sq18.out.blk 1 rfl, Sq18.out.blk 5 rfl⟩ ?_
  refine c_value rfl (.bool true) (fun u hu => by go_simp) (fun _ _ _ h => h) (fun K hK => ?_)
  go_simp
  refine hK _ ?_
  clear hK K
  refine c_nil ?_
  refine tr_read 65 rfl (by kernel_rfl) ⟨Sq18.out.blk 3 rfl, Sq18.out.blk 6 rfl, Sq18.out.blk 1 rfl, Sq18.out.blk 5 rfl⟩ ?_
  refine c_value rfl (.bool true) (fun u hu => by go_simp) (fun _ _ _ h => h) (fun K hK => ?_)
  go_simp
  refine hK _ ?_
  clear hK K
  refine c_nil ?_
  refine tr_read 66 rfl (by kernel_rfl) ⟨Sq18.out.blk 3 rfl, Sq18.out.blk 6 rfl, Sq18.out.blk 1 rfl, Sq18.out.blk 5 rfl⟩ ?_
  refine cg_value (by rfl) (.pointer (some ⟨s, 0, none⟩)) (fun u hu => by go_simp) (fun _ _ _ h => h) (fun K hK => ?_)
  go_simp
  refine hK _ ?_
  clear hK K
  refine c_nil ?_
  refine tr_read 67 rfl (by kernel_rfl) ⟨Sq18.out.blk 3 rfl, Sq18.out.blk 6 rfl, Sq18.out.blk 1 rfl, Sq18.out.blk 5 rfl⟩ ?_
  refine cg_value (by rfl) (.pointer (some ⟨bka, 0, none⟩)) (fun u hu => by go_simp) (fun _ _ _ h => h) (fun K hK => ?_)
  go_simp
  refine hK _ ?_
  clear hK K
  refine c_nil ?_
  refine tr_read 68 rfl (by kernel_rfl) ⟨Sq18.out.blk 3 rfl, Sq18.out.blk 6 rfl, Sq18.out.blk 1 rfl, Sq18.out.blk 5 rfl⟩ ?_
  refine cg_mid_load (by rfl) 33 _ rfl (bka) 0 rfl [Value.int .u64 1, .int .u64 0, .int .u64 0, .int .u64 0] (fun u hu => preb (vs := [.int .i64 1]) (hu.2.1)) _ Try.underlying33 rfl Try.size_v (fun _ _ _ h => h) (fun K hK => ?_)
  go_simp
  refine hK _ ?_
  clear hK K
  refine c_nil ?_
  refine tr_one 69 rfl (by kernel_rfl) ?_
  go_wp2_with (first | (go_at_call 16; refine Calls.mono (ex_prune _ s lb ch mb E1 (shard_sh Sq18.out 7 rfl) (shard_lt Sq18.out 7 rfl) HV.out) ?_; rintro e k19 ⟨rfl, E2, hs, ht, hb⟩))
  have Sq19 : Hid (Sep x0 k19 [rB y1.heap.size [Value.int .u64 1, .int .u64 0, .int .u64 0, .int .u64 0, .int .i64 1], rB k13.heap.size [Value.string ⟨#[98]⟩, .string ⟨#[107]⟩, .string ⟨#[118]⟩, .bool false], rB bkr2 ([Value.int .u64 0, .int .u64 0, .int .u64 0, .int .u64 0, .int .i64 0]), rB bkr1 ([Value.int .u64 1, .int .u64 0, .int .u64 0, .int .u64 0, .int .i64 1]), rB bkr0 ([Value.int .u64 0, .int .u64 0, .int .u64 0, .int .u64 0, .int .i64 0]), rB bkx ([Value.string ⟨#[98]⟩, .string ⟨#[107]⟩, .string ⟨#[118]⟩, .bool false]), rB bka ([Value.int .u64 1, .int .u64 0, .int .u64 0, .int .u64 0, .int .i64 1]), rS s (g2 lb ch mb E2)]) := shard_turn Sq18.out 7 rfl hs ht hb
  clear hs ht hb Sq18
  refine And.intro (fun _ => ⟨Sq19.out.blk 3 rfl, Sq19.out.blk 6 rfl, Sq19.out.blk 1 rfl, Sq19.out.blk 5 rfl⟩) ?_
  refine tr_read 70 rfl (by kernel_rfl) ⟨Sq19.out.blk 3 rfl, Sq19.out.blk 6 rfl, Sq19.out.blk 1 rfl, Sq19.out.blk 5 rfl⟩ ?_
  refine cg_value (by rfl) (.bool true) (fun u hu => by go_simp) (fun _ _ _ h => h) (fun K hK => ?_)
  go_simp
  refine hK _ ?_
  clear hK K
  refine c_nil ?_
  refine tr_read 71 rfl (by kernel_rfl) ⟨Sq19.out.blk 3 rfl, Sq19.out.blk 6 rfl, Sq19.out.blk 1 rfl, Sq19.out.blk 5 rfl⟩ ?_
  refine c_value rfl (.bool true) (fun u hu => by go_simp) (fun _ _ _ h => h) (fun K hK => ?_)
  go_simp
  refine hK _ ?_
  clear hK K
  refine c_nil ?_
  refine tr_one 72 rfl (by kernel_rfl) ?_
  go_wp2_with fail
  refine And.intro (fun _ => ⟨Sq19.out.blk 3 rfl, Sq19.out.blk 6 rfl, Sq19.out.blk 1 rfl, Sq19.out.blk 5 rfl⟩) ?_
  refine tr_end (by kernel_rfl) ?_
  have HB := Lib.hid Sq19.out.under
  go_wp2_with fail
  go_ret
  exact ⟨rfl, HB.out⟩
end Go.Proofs.Ytohcdonmdnjgoaa.Sd
