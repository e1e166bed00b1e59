/- A shard in memory: a block with its lane, its map and what was applied; the chains that the map leads to; the rows of what waits. -/
import Derived.Test.YtohcdonmdnjgoaaLaneTx

import Derived.Test.YtohcdonmdnjgoaaSep

import Derived.Test.YtohcdonmdnjgoaaChainFindW

import Derived.Test.YtohcdonmdnjgoaaRegionCut

import Derived.Test.YtohcdonmdnjgoaaRegionPick

namespace Go.Proofs.Ytohcdonmdnjgoaa.Sd

open Go.RowKit Go.Proofs.Ytohcdonmdnjgoaa.Vc Go.Proofs.Ytohcdonmdnjgoaa.Sp Go.Proofs.Ytohcdonmdnjgoaa.Rw Go.Proofs.Ytohcdonmdnjgoaa.Ch Go.Proofs.Ytohcdonmdnjgoaa.Se Go.Proofs.Ytohcdonmdnjgoaa.It Go.Proofs.Ytohcdonmdnjgoaa.Mk

set_option linter.unusedVariables false

set_option linter.unusedSimpArgs false

set_option maxRecDepth 100000

/-- a key's chain: its name, its block, its slice, its versions -/
structure En where
  n : Nm
  c : Nat
  v : Value
  L : List (C.Vr I.Wt)
/-- what waits: a stamp, a slice, the writes -/
structure Bt where
  s : C.St
  v : Value
  L : List I.Wt
structure Gm where
  lb : Nat
  ch : Nat
  mb : Nat
  room : Nat
  W : List Bt
  E : List En
  A : List Nat
def En.bl (e : En) : List Nat := e.c :: ob e.v
def Bt.bl (b : Bt) : List Nat := ob b.v
def Gm.bl (G : Gm) (s : Nat) : List Nat := [s, G.lb, G.ch, G.mb] ++ (G.E.flatMap En.bl ++ G.W.flatMap Bt.bl)
structure BtOk (w : World) (b : Bt) : Prop where
  rows : IsWs w b.v b.L
  four : b.s.1.length = 4
  right : C.right b.s = true
  all : ∀ x ∈ b.L, I.right x = true
  len : b.L.length < 100000
def sv (G : Gm) : List Value := [Value.pointer (some ⟨G.lb, 0, none⟩), .map (some G.mb)] ++ ks .u64 G.A
structure Sh (w : World) (s : Nat) (G : Gm) : Prop where
  blk : Blk w s (sv G)
  lane : Ln w G.lb G.ch G.room (G.W.map fun b => TV b.s.1 b.s.2 b.v)
  map : Mp w G.mb (G.E.map fun e => (e.n, e.c))
  chains : ∀ e ∈ G.E, Ch wrt 123 w e.c e.v e.L
  rows : ∀ b ∈ G.W, BtOk w b
  four : G.A.length = 4
  nd : (G.bl s).Nodup
theorem blk_st {w w' : World} {b : Nat} {vs : List Value} (hk : w'.heap[b]? = w.heap[b]?) (h : Blk w b vs) : Blk w' b vs :=
  ⟨fun j v hv => by rw [World.cell?_of_block (w := w) hk]; exact h.1 j v hv, fun j hj => by rw [World.cell?_of_block (w := w) hk, World.frozen?_of_block (w := w) hk]; exact h.2 j hj⟩
theorem ln_st {w w' : World} {b c cap : Nat} {l : List Value} (h1 : w'.heap[b]? = w.heap[b]?) (h2 : w'.heap[c]? = w.heap[c]?) (h : Ln w b c cap l) : Ln w' b c cap l := by
  obtain ⟨k1, s, r, k2⟩ := h
  exact ⟨by rw [World.cell?_of_block (w := w) h1]; exact k1, s, r, by rw [h2]; exact k2⟩
theorem ws_st {w w' : World} {v : Value} {L : List I.Wt} (hk : ∀ k ∈ ob v, w'.heap[k]? = w.heap[k]?) (h : IsWs w v L) : IsWs w' v L := by
  obtain ⟨a, cap, hv, h1, h2, h3⟩ := h.is
  refine ⟨a, cap, hv, h1, h2, fun hn => ?_⟩
  obtain ⟨b, off, ha, hlt, hW⟩ := h3 hn
  have hb := hk b (mem_ob.2 (by rw [hv, ha]; rfl))
  refine ⟨b, off, ha, ?_, fun i x hx j u hu => ?_⟩
  · have h9 : w.heap[b]? = some w.heap[b] := Array.getElem?_eq_getElem hlt
    rw [← hb] at h9
    exact (Array.getElem?_eq_some_iff.1 h9).1
  · rw [World.cell?_of_block (w := w) hb]; exact hW i x hx j u hu
theorem bt_st {w w' : World} {b : Bt} (hk : ∀ k ∈ b.bl, w'.heap[k]? = w.heap[k]?) (h : BtOk w b) : BtOk w' b := ⟨ws_st hk h.rows, h.four, h.right, h.all, h.len⟩
theorem ch_st {w w' : World} {c : Nat} {v : Value} {L : List (C.Vr I.Wt)} {T : TypeId} (hk : ∀ k ∈ c :: ob v, w'.heap[k]? = w.heap[k]?) (h : Ch wrt T w c v L) : Ch wrt T w' c v L := (rC wrt T c v L).st w w' hk h
theorem mem_E {G : Gm} {s : Nat} {e : En} (he : e ∈ G.E) {k : Nat} (hk : k ∈ e.bl) : k ∈ G.bl s := List.mem_append_right _ (List.mem_append_left _ (List.mem_flatMap.2 ⟨e, he, hk⟩))
theorem mem_W {G : Gm} {s : Nat} {b : Bt} (hb : b ∈ G.W) {k : Nat} (hk : k ∈ b.bl) : k ∈ G.bl s := List.mem_append_right _ (List.mem_append_right _ (List.mem_flatMap.2 ⟨b, hb, hk⟩))
theorem mem_s (G : Gm) (s : Nat) : s ∈ G.bl s := List.mem_append_left _ (by simp)
theorem mem_lb (G : Gm) (s : Nat) : G.lb ∈ G.bl s := List.mem_append_left _ (by simp)
theorem mem_ch (G : Gm) (s : Nat) : G.ch ∈ G.bl s := List.mem_append_left _ (by simp)
theorem mem_mb (G : Gm) (s : Nat) : G.mb ∈ G.bl s := List.mem_append_left _ (by simp)
/-- a shard hangs on its blocks alone -/
theorem Sh.st {w w' : World} {s : Nat} {G : Gm} (hk : ∀ k ∈ G.bl s, w'.heap[k]? = w.heap[k]?) (h : Sh w s G) : Sh w' s G :=
  ⟨blk_st (hk _ (mem_s G s)) h.blk, ln_st (hk _ (mem_lb G s)) (hk _ (mem_ch G s)) h.lane, h.map.st (hk _ (mem_mb G s)), fun e he => ch_st (fun k hk' => hk k (mem_E he hk')) (h.chains e he), fun b hb => bt_st (fun k hk' => hk k (mem_W hb hk')) (h.rows b hb), h.four, h.nd⟩
theorem ws_lt {w : World} {v : Value} {L : List I.Wt} (h : IsWs w v L) (hn : L ≠ []) : ∀ k ∈ ob v, k < w.heap.size := by
  obtain ⟨a, cap, hv, h1, h2, h3⟩ := h.is
  obtain ⟨b, off, ha, hlt, hW⟩ := h3 hn
  intro k hk
  have := mem_ob.1 hk
  rw [hv, ha] at this
  have e : b = k := by simpa [Value.ownBlock] using this
  omega
/-- part of a shard's blocks -/
def rS (s : Nat) (G : Gm) : Rg := ⟨G.bl s, fun w => Sh w s G, fun w w' hk h => Sh.st hk h⟩
theorem Sh.below {w w' : World} {s : Nat} {G : Gm} (h : Sh w s G) (hl : ∀ k ∈ G.bl s, k < w.heap.size) (hb : Below w.heap.size w w') : Sh w' s G := h.st fun k hk => hb.block k (hl k hk)
/-- of what was there only these blocks may have turned -/
structure Turn (B : List Nat) (w w' : World) : Prop where
  os : w'.os = w.os
  tape : w'.tape = w.tape
  output : w'.output = w.output
  size : w.heap.size ≤ w'.heap.size
  far : ∀ k, k < w.heap.size → k ∉ B → w'.heap[k]? = w.heap[k]?
theorem Turn.of_below {B : List Nat} {w w' : World} (h : Below w.heap.size w w') : Turn B w w' := ⟨h.os, h.tape, h.output, h.size, fun k hk _ => h.block k hk⟩
theorem Turn.refl (B : List Nat) (w : World) : Turn B w w := .of_below (Below.refl _ _)
theorem Turn.trans {B B' : List Nat} {u v w : World} (h : Turn B u v) (k : Turn B' v w) (hB : ∀ x ∈ B', x ∈ B ∨ u.heap.size ≤ x) : Turn B u w :=
  ⟨k.os.trans h.os, k.tape.trans h.tape, k.output.trans h.output, Nat.le_trans h.size k.size, fun i hi hn => (k.far i (Nat.lt_of_lt_of_le hi h.size) (fun hm => (hB i hm).elim hn (fun h9 => by omega))).trans (h.far i hi hn)⟩
theorem Turn.of_tw {c : Nat} {v : Value} {w w' : World} (h : Tw c v.ownBlock w w') : Turn (c :: ob v) w w' :=
  ⟨h.os, h.tape, h.output, h.size, fun k hk hn => h.far k hk (fun e => hn (by rw [e]; exact List.mem_cons_self ..)) (fun e => hn (List.mem_cons_of_mem _ (mem_ob.2 e)))⟩
theorem Turn.of_upd {b : Nat} {w w' : World} (h : Upd b w w') : Turn [b] w w' := ⟨h.os, h.tape, h.output, Nat.le_of_eq h.size.symm, fun k _ hn => h.far k (fun e => hn (by simp [e]))⟩
theorem Turn.of_but {b : Nat} {w w' : World} (h : But b w w') : Turn [b] w w' := ⟨h.os, h.tape, h.output, h.size, fun k hk hn => h.far k hk (fun e => hn (by simp [e]))⟩
theorem Turn.sub {B B' : List Nat} {w w' : World} (h : Turn B w w') (hB : ∀ x ∈ B, x ∈ B') : Turn B' w w' := ⟨h.os, h.tape, h.output, h.size, fun k hk hn => h.far k hk (fun hm => hn (hB k hm))⟩
theorem Turn.below {B : List Nat} {b : Nat} {w w' : World} (h : Turn B w w') (hB : ∀ x ∈ B, b ≤ x) (hb : b ≤ w.heap.size) : Below b w w' := ⟨h.os, h.tape, h.output, h.size, fun k hk => h.far k (by omega) (fun hm => by have := hB k hm; omega)⟩
end Go.Proofs.Ytohcdonmdnjgoaa.Sd

namespace Go.Proofs.Ytohcdonmdnjgoaa.Sd

open Go.RowKit Go.Proofs.Ytohcdonmdnjgoaa.Vc Go.Proofs.Ytohcdonmdnjgoaa.Sp Go.Proofs.Ytohcdonmdnjgoaa.Rw Go.Proofs.Ytohcdonmdnjgoaa.Ch Go.Proofs.Ytohcdonmdnjgoaa.Se Go.Proofs.Ytohcdonmdnjgoaa.It Go.Proofs.Ytohcdonmdnjgoaa.Mk

set_option linter.unusedVariables false

set_option linter.unusedSimpArgs false

set_option maxRecDepth 100000

theorem Try.size_nm : (Try.prog.info? 111).map (·.size) = some 2 := by kernel_rfl
theorem Sh.c1 {w : World} {s : Nat} {G : Gm} (h : Sh w s G) : w.cell? ⟨s, 1, none⟩ = some (.map (some G.mb)) := h.blk.cell 1 _ rfl
theorem Sh.c0 {w : World} {s : Nat} {G : Gm} (h : Sh w s G) : w.cell? ⟨s, 0, none⟩ = some (.pointer (some ⟨G.lb, 0, none⟩)) := h.blk.cell 0 _ rfl
set_option maxHeartbeats 2000000 in
theorem find_there (s : Nat) (G : Gm) (n : Nm) (c : Nat) (w : World) (h : Sh w s G) (hl : ∀ k ∈ G.bl s, k < w.heap.size) (M1 M2 : List (Nm × Nat)) (hM : G.E.map (fun e => (e.n, e.c)) = M1 ++ (n, c) :: M2) :
    Calls Try.prog 55 #[.pointer (some ⟨s, 0, none⟩), ky n] w fun e w' => e = .returned (.pointer (some ⟨c, 0, none⟩)) ∧ Below w.heap.size w w' := by
  have HSH := Lib.hid h
  have hs1 := hl _ (mem_s G s)
  have hm1 := hl _ (mem_mb G s)
  have HL := Lib.hid (fun u (hu : Below w.heap.size w u) => look_some (w := u) (mb := G.mb) (n := n) (c := c) (M1 := M1) (M2 := M2) (by rw [← hM]; exact h.map.st (hu.block _ hm1)))
  have HC := Lib.hid (fun u (hu : Below w.heap.size w u) => (hu.cell (p := ⟨s, 1, none⟩) hs1).trans h.c1)
  obtain ⟨n1, n2⟩ := n
  unfold ky at HL
  dsimp only at HL
  clear h hl hM hs1 hm1
  show Calls _ _ #[_, .agg #[.string n1, .string n2]] _ _
  go_enter Try.func55, Try.ntmps55
  go_wp2_with (first | refine blk_box rfl 111 _ rfl [Value.string n1, Value.string n2] rfl ?_)
  intro w1 A1 B1 Z1
  have HA : Hid (∀ u, Below w1.heap.size w1 u → Blk u w.heap.size [Value.string n1, Value.string n2]) := fun u hu => Blk.below A1 hu (by omega)
  have HBB : Hid (∀ u, Below w1.heap.size w1 u → Below w.heap.size w u) := fun u hu => B1.trans (hu.mono (by omega))
  clear A1 B1 Z1
  go_wp2_with fail
  refine region_w Try.mixed (by kernel_rfl) ?_
  refine w_move rfl _ rfl (.pointer (some ⟨s, 0, none⟩)) rfl (fun K hK => ?_)
  go_simp
  refine hK _ ?_
  clear hK K
  refine w_value rfl (.pointer (some ⟨s, 0, none⟩)) (fun u hu => by go_simp) (fun K hK => ?_)
  go_simp
  refine hK _ ?_
  clear hK K
  refine w_value rfl (.pointer (some ⟨s, 1, none⟩)) (fun u hu => by go_simp) (fun K hK => ?_)
  go_simp
  refine hK _ ?_
  clear hK K
  refine w_value rfl (.map (some G.mb)) (fun u hu => by have hs := HC.out u (HBB.out u hu); go_simp) (fun K hK => ?_)
  go_simp
  refine hK _ ?_
  clear hK K
  refine w_blk_load rfl 111 _ rfl w.heap.size rfl [Value.string n1, Value.string n2] (by exact HA.out) _ Try.underlying111 rfl Try.size_nm (fun K hK => ?_)
  go_simp
  refine hK _ ?_
  clear hK K
  refine w_value rfl (.tuple #[.pointer (some ⟨c, 0, none⟩), .bool true]) (fun u hu => by have hs := HL.out u (HBB.out u hu); go_simp) (fun K hK => ?_)
  go_simp
  refine hK _ ?_
  clear hK K
  refine w_move rfl _ rfl (.tuple #[.pointer (some ⟨c, 0, none⟩), .bool true]) rfl (fun K hK => ?_)
  go_simp
  refine hK _ ?_
  clear hK K
  refine w_value rfl (.pointer (some ⟨c, 0, none⟩)) (fun u hu => by go_simp) (fun K hK => ?_)
  go_simp
  refine hK _ ?_
  clear hK K
  refine w_value rfl (.bool true) (fun u hu => by go_simp) (fun K hK => ?_)
  go_simp
  refine hK _ ?_
  clear hK K
  refine w_assign rfl _ rfl (.pointer (some ⟨c, 0, none⟩)) rfl (fun K hK => ?_)
  go_simp
  refine hK _ ?_
  clear hK K
  refine w_assign rfl _ rfl (.bool true) rfl (fun K hK => ?_)
  go_simp
  refine hK _ ?_
  clear hK K
  refine w_nil ?_
  intro u hu
  have HW := Lib.hid (HBB.out u hu)
  clear hu
  go_wp2_with fail
  go_ret
  exact ⟨rfl, HW.out⟩
set_option maxHeartbeats 2000000 in
theorem find_not (s : Nat) (G : Gm) (n : Nm) (w : World) (h : Sh w s G) (hl : ∀ k ∈ G.bl s, k < w.heap.size) (hM : n ∉ G.E.map (·.n)) :
    Calls Try.prog 55 #[.pointer (some ⟨s, 0, none⟩), ky n] w fun e w' => ∃ c, e = .returned (.pointer (some ⟨c, 0, none⟩)) ∧ w.heap.size ≤ c ∧ Ch wrt 123 w' c (.slice none 0 0) [] ∧ Below w.heap.size w w' := by
  have HSH := Lib.hid h
  have hs1 := hl _ (mem_s G s)
  have hm1 := hl _ (mem_mb G s)
  have HL := Lib.hid (fun u (hu : Below w.heap.size w u) => look_none (h.map.st (hu.block _ hm1)) n (by rw [List.map_map]; exact hM))
  have HC := Lib.hid (fun u (hu : Below w.heap.size w u) => (hu.cell (p := ⟨s, 1, none⟩) hs1).trans h.c1)
  obtain ⟨n1, n2⟩ := n
  unfold ky at HL
  dsimp only at HL
  clear h hl hM hs1 hm1
  show Calls _ _ #[_, .agg #[.string n1, .string n2]] _ _
  go_enter Try.func55, Try.ntmps55
  go_wp2_with (first | refine blk_box rfl 111 _ rfl [Value.string n1, Value.string n2] rfl ?_)
  intro w1 A1 B1 Z1
  have HA : Hid (∀ u, Below w1.heap.size w1 u → Blk u w.heap.size [Value.string n1, Value.string n2]) := fun u hu => Blk.below A1 hu (by omega)
  have HBB : Hid (∀ u, Below w1.heap.size w1 u → Below w.heap.size w u) := fun u hu => B1.trans (hu.mono (by omega))
  clear A1 B1 Z1
  go_wp2_with fail
  refine region_w Try.mixed (by kernel_rfl) ?_
  refine w_move rfl _ rfl (.pointer (some ⟨s, 0, none⟩)) rfl (fun K hK => ?_)
  go_simp
  refine hK _ ?_
  clear hK K
  refine w_value rfl (.pointer (some ⟨s, 0, none⟩)) (fun u hu => by go_simp) (fun K hK => ?_)
  go_simp
  refine hK _ ?_
  clear hK K
  refine w_value rfl (.pointer (some ⟨s, 1, none⟩)) (fun u hu => by go_simp) (fun K hK => ?_)
  go_simp
  refine hK _ ?_
  clear hK K
  refine w_value rfl (.map (some G.mb)) (fun u hu => by have hs := HC.out u (HBB.out u hu); go_simp) (fun K hK => ?_)
  go_simp
  refine hK _ ?_
  clear hK K
  refine w_blk_load rfl 111 _ rfl w.heap.size rfl [Value.string n1, Value.string n2] (by exact HA.out) _ Try.underlying111 rfl Try.size_nm (fun K hK => ?_)
  go_simp
  refine hK _ ?_
  clear hK K
  refine w_value rfl (.tuple #[.pointer none, .bool false]) (fun u hu => by have hs := HL.out u (HBB.out u hu); go_simp) (fun K hK => ?_)
  go_simp
  refine hK _ ?_
  clear hK K
  refine w_move rfl _ rfl (.tuple #[.pointer none, .bool false]) rfl (fun K hK => ?_)
  go_simp
  refine hK _ ?_
  clear hK K
  refine w_value rfl (.pointer none) (fun u hu => by go_simp) (fun K hK => ?_)
  go_simp
  refine hK _ ?_
  clear hK K
  refine w_value rfl (.bool false) (fun u hu => by go_simp) (fun K hK => ?_)
  go_simp
  refine hK _ ?_
  clear hK K
  refine w_assign rfl _ rfl (.pointer none) rfl (fun K hK => ?_)
  go_simp
  refine hK _ ?_
  clear hK K
  refine w_assign rfl _ rfl (.bool false) rfl (fun K hK => ?_)
  go_simp
  refine hK _ ?_
  clear hK K
  refine w_nil ?_
  intro u hu
  have HW := Lib.hid (HBB.out u hu)
  clear hu
  go_wp2_with fail
  refine (newW u).mono ?_; rintro e w3 ⟨rfl, hc, hb⟩
  have HC3 := Lib.hid hc
  have HB3 : Hid (Below w.heap.size w w3) := Below.trans HW.out (hb.mono HW.out.size)
  clear hc hb
  go_wp2_with fail
  go_ret
  exact ⟨_, rfl, HW.out.size, HC3.out, HB3.out⟩
end Go.Proofs.Ytohcdonmdnjgoaa.Sd

namespace Go.Proofs.Ytohcdonmdnjgoaa.Sd

open Go.RowKit Go.Proofs.Ytohcdonmdnjgoaa.Vc Go.Proofs.Ytohcdonmdnjgoaa.Sp Go.Proofs.Ytohcdonmdnjgoaa.Rw Go.Proofs.Ytohcdonmdnjgoaa.Ch Go.Proofs.Ytohcdonmdnjgoaa.Se Go.Proofs.Ytohcdonmdnjgoaa.It Go.Proofs.Ytohcdonmdnjgoaa.Mk

set_option linter.unusedVariables false

set_option linter.unusedSimpArgs false

set_option maxRecDepth 100000

theorem nodup_replace {A X X' B : List Nat} (N : Nat) (h : (A ++ (X ++ B)).Nodup) (hX : X'.Nodup) (hb : ∀ k ∈ X', k ∈ X ∨ N ≤ k) (hA : ∀ k ∈ A, k < N) (hB : ∀ k ∈ B, k < N) : (A ++ (X' ++ B)).Nodup := by
  rw [List.nodup_append] at h
  obtain ⟨h1, h2, h3⟩ := h
  rw [List.nodup_append] at h2
  obtain ⟨h4, h5, h6⟩ := h2
  rw [List.nodup_append]
  refine ⟨h1, List.nodup_append.2 ⟨hX, h5, fun a ha b hb' => ?_⟩, fun a ha b hb' => ?_⟩
  · rcases hb a ha with h9 | h9
    · exact h6 a h9 b hb'
    · have := hB b hb'; omega
  · rcases List.mem_append.1 hb' with h8 | h8
    · rcases hb b h8 with h9 | h9
      · exact h3 a ha b (List.mem_append_left _ h9)
      · have := hA a ha; omega
    · exact h3 a ha b (List.mem_append_right _ h8)
theorem bl_split {G : Gm} {s : Nat} {E1 X E2 : List En} (hE : G.E = E1 ++ (X ++ E2)) : G.bl s = ([s, G.lb, G.ch, G.mb] ++ E1.flatMap En.bl) ++ (X.flatMap En.bl ++ (E2.flatMap En.bl ++ G.W.flatMap Bt.bl)) := by
  unfold Gm.bl
  rw [hE]
  simp [List.flatMap_append]
theorem Sh.turn {w w' : World} {s : Nat} {G : Gm} (h : Sh w s G) (hl : ∀ k ∈ G.bl s, k < w.heap.size) {E1 X X' E2 : List En} (hE : G.E = E1 ++ (X ++ E2))
    (hT : Turn (G.mb :: X.flatMap En.bl) w w') (hm : Mp w' G.mb ((E1 ++ (X' ++ E2)).map fun e => (e.n, e.c)))
    (hX : ∀ e ∈ X', Ch wrt 123 w' e.c e.v e.L) (hb : ∀ k ∈ X'.flatMap En.bl, (k ∈ X.flatMap En.bl ∨ w.heap.size ≤ k) ∧ k < w'.heap.size) (hnd : (X'.flatMap En.bl).Nodup) :
    Sh w' s { G with E := E1 ++ (X' ++ E2) } ∧ ∀ k ∈ ({ G with E := E1 ++ (X' ++ E2) } : Gm).bl s, (k ∈ G.bl s ∨ w.heap.size ≤ k) ∧ k < w'.heap.size := by
  have hs := bl_split (s := s) hE
  have hs' := bl_split (G := { G with E := E1 ++ (X' ++ E2) }) (s := s) (E1 := E1) (X := X') (E2 := E2) rfl
  dsimp only at hs'
  have hnd0 := h.nd
  rw [hs] at hnd0
  have hnd0' := hnd0
  rw [List.nodup_append] at hnd0
  obtain ⟨n1, n2, n3⟩ := hnd0
  rw [List.nodup_append] at n2
  obtain ⟨n4, n5, n6⟩ := n2
  have hA : ∀ k, k ∈ [s, G.lb, G.ch, G.mb] ++ E1.flatMap En.bl → k ∈ G.bl s := fun k hk => by rw [hs]; exact List.mem_append_left _ hk
  have hXb : ∀ k, k ∈ X.flatMap En.bl → k ∈ G.bl s := fun k hk => by rw [hs]; exact List.mem_append_right _ (List.mem_append_left _ hk)
  have hB : ∀ k, k ∈ E2.flatMap En.bl ++ G.W.flatMap Bt.bl → k ∈ G.bl s := fun k hk => by rw [hs]; exact List.mem_append_right _ (List.mem_append_right _ hk)
  -- what is not among the chains that turn, nor the map, stays
  have stay : ∀ k, k ∈ G.bl s → k ≠ G.mb → k ∉ X.flatMap En.bl → w'.heap[k]? = w.heap[k]? := fun k hk h1 h2 => hT.far k (hl k hk) (fun hm => (List.mem_cons.1 hm).elim h1 h2)
  have stayA : ∀ k, k ∈ [s, G.lb, G.ch, G.mb] ++ E1.flatMap En.bl → k ≠ G.mb → w'.heap[k]? = w.heap[k]? := fun k hk h1 => stay k (hA k hk) h1 (fun hm => n3 k hk k (List.mem_append_left _ hm) rfl)
  have mbA : G.mb ∈ [s, G.lb, G.ch, G.mb] ++ E1.flatMap En.bl := List.mem_append_left _ (by simp)
  have stayB : ∀ k, k ∈ E2.flatMap En.bl ++ G.W.flatMap Bt.bl → w'.heap[k]? = w.heap[k]? := fun k hk => stay k (hB k hk) (fun e => n3 _ mbA k (List.mem_append_right _ hk) e.symm) (fun hm => n6 k hm k hk rfl)
  have n7 := n1
  rw [List.nodup_append] at n7
  obtain ⟨m1, m2, m3⟩ := n7
  have hd4 : s ≠ G.mb ∧ G.lb ≠ G.mb ∧ G.ch ≠ G.mb := by
    simp only [List.nodup_cons, List.mem_cons, List.not_mem_nil, or_false, not_or] at m1
    exact ⟨m1.1.2.2, m1.2.1.2, m1.2.2.1⟩
  refine ⟨⟨?_, ?_, hm, fun e he => ?_, fun b hb' => ?_, h.four, ?_⟩, fun k hk => ?_⟩
  · exact blk_st (stayA s (List.mem_append_left _ (by simp)) hd4.1) h.blk
  · exact ln_st (stayA _ (List.mem_append_left _ (by simp)) hd4.2.1) (stayA _ (List.mem_append_left _ (by simp)) hd4.2.2) h.lane
  · have he' : e ∈ E1 ++ (X' ++ E2) := he
    rcases List.mem_append.1 he' with h1 | h1
    · refine ch_st (fun k hk => stayA k (List.mem_append_right _ (List.mem_flatMap.2 ⟨e, h1, hk⟩)) (fun e9 => ?_)) (h.chains e (by rw [hE]; exact List.mem_append_left _ h1))
      exact m3 G.mb (by simp) k (List.mem_flatMap.2 ⟨e, h1, hk⟩) e9.symm
    · rcases List.mem_append.1 h1 with h2 | h2
      · exact hX e h2
      · exact ch_st (fun k hk => stayB k (List.mem_append_left _ (List.mem_flatMap.2 ⟨e, h2, hk⟩))) (h.chains e (by rw [hE]; exact List.mem_append_right _ (List.mem_append_right _ h2)))
  · exact bt_st (fun k hk => stayB k (List.mem_append_right _ (List.mem_flatMap.2 ⟨b, hb', hk⟩))) (h.rows b hb')
  · rw [hs']
    exact nodup_replace w.heap.size hnd0' hnd (fun k hk => (hb k hk).1) (fun k hk => hl k (hA k hk)) (fun k hk => hl k (hB k hk))
  · rw [hs'] at hk
    rcases List.mem_append.1 hk with h1 | h1
    · exact ⟨.inl (hA k h1), Nat.lt_of_lt_of_le (hl k (hA k h1)) hT.size⟩
    · rcases List.mem_append.1 h1 with h2 | h2
      · refine ⟨?_, (hb k h2).2⟩
        rcases (hb k h2).1 with h3 | h3
        · exact .inl (hXb k h3)
        · exact .inr h3
      · exact ⟨.inl (hB k h2), Nat.lt_of_lt_of_le (hl k (hB k h2)) hT.size⟩
/-- the versions by their names -/
def vis (E : List En) : List (Nm × List (C.Vr I.Wt)) := E.map fun e => (e.n, e.L)
def hasN {α : Type} (V : List (Nm × α)) (n : Nm) : Bool := V.any fun x => decide (x.1 = n)
theorem hasN_iff {α : Type} (V : List (Nm × α)) (n : Nm) : hasN V n = true ↔ n ∈ V.map (·.1) := by unfold hasN; simp
/-- one more version of a name -/
def ups (V : List (Nm × List (C.Vr I.Wt))) (n : Nm) (st : C.St) (y : I.Wt) : List (Nm × List (C.Vr I.Wt)) :=
  if hasN V n = true then V.map fun x => if x.1 = n then (x.1, (C.add x.2 st y).1) else x else V ++ [(n, (C.add [] st y).1)]
theorem vis_n (E : List En) : (vis E).map (·.1) = E.map (·.n) := by unfold vis; rw [List.map_map]; rfl
theorem map_none {α : Type} (V : List (Nm × α)) (n : Nm) (f : Nm × α → Nm × α) (h : n ∉ V.map (·.1)) : (V.map fun x => if x.1 = n then f x else x) = V := by
  have : V.map (fun x => if x.1 = n then f x else x) = V.map id := List.map_congr_left fun x hx => by rw [if_neg (fun e => h (List.mem_map.2 ⟨x, hx, e⟩))]; rfl
  rw [this, List.map_id]
theorem map_at {α : Type} (V1 V2 : List (Nm × α)) (x : Nm × α) (f : Nm × α → Nm × α) (h : ((V1 ++ x :: V2).map (·.1)).Nodup) : ((V1 ++ x :: V2).map fun y => if y.1 = x.1 then f y else y) = V1 ++ f x :: V2 := by
  rw [List.map_append, List.map_cons, List.nodup_append, List.nodup_cons] at h
  obtain ⟨_, ⟨h2, _⟩, h3⟩ := h
  rw [List.map_append, List.map_cons, if_pos rfl, map_none V1 x.1 f (fun hm => h3 _ hm _ (List.mem_cons_self ..) rfl), map_none V2 x.1 f h2]
end Go.Proofs.Ytohcdonmdnjgoaa.Sd

namespace Go.Proofs.Ytohcdonmdnjgoaa.Sd

open Go.RowKit Go.Proofs.Ytohcdonmdnjgoaa.Vc Go.Proofs.Ytohcdonmdnjgoaa.Sp Go.Proofs.Ytohcdonmdnjgoaa.Rw Go.Proofs.Ytohcdonmdnjgoaa.Ch Go.Proofs.Ytohcdonmdnjgoaa.Se Go.Proofs.Ytohcdonmdnjgoaa.It Go.Proofs.Ytohcdonmdnjgoaa.Mk

set_option linter.unusedVariables false

set_option linter.unusedSimpArgs false

set_option maxRecDepth 100000

section

variable {P : Program} {ops : Array Oper} {rest : List Oper} {o : Oper} {a : Act} {w : World} {Q : Exit → Act → World → Prop}

theorem upd_step (hgd : o.guard = none) (t : TypeId) (m k x : Operand) (ho : o.op = .mapUpdate t m k x) {vm vk vx : Value} (hm : a.eval m = vm) (hk : a.eval k = vk) (hx : a.eval x = vx) {w' : World}
    (hr : (Instr.mapUpdate t vm vk vx).run P w = .ok () w') (h : wpList P ops Q rest (a.put o.dst undef) w') : wpList P ops Q (o :: rest) a w := by
  refine wpList_plain hgd fun K hK => ?_
  unfold Oper.wp execOp
  simp only [ho, hm, hk, hx, Sem.run_bind, hr, Result.andThen_ok, Sem.run_pure]
  exact hK _ _ h
end

theorem Try.info_nm : (Try.prog.info? 111).map (fun i => (i.zero, i.size)) = some (some (.agg [Value.string ⟨#[]⟩, Value.string ⟨#[]⟩].toArray), [Value.string ⟨#[]⟩, Value.string ⟨#[]⟩].length) := by kernel_rfl
theorem ob_nodup (v : Value) : (ob v).Nodup := by unfold ob; cases v.ownBlock <;> simp
theorem ch_bl {w : World} {T : TypeId} {c : Nat} {v : Value} {L : List (C.Vr I.Wt)} (h : Ch wrt T w c v L) : (c :: ob v).Nodup ∧ ∀ k ∈ c :: ob v, k < w.heap.size := by
  refine ⟨List.nodup_cons.2 ⟨fun hm => h.ne (mem_ob.1 hm), ob_nodup v⟩, fun k hk => ?_⟩
  rcases List.mem_cons.1 hk with rfl | hk
  · exact h.lt
  · exact (h.own.lt (mem_ob.1 hk)).2
set_option maxHeartbeats 4000000 in
theorem apply_there (s : Nat) (G : Gm) (st : C.St) (y : I.Wt) (w : World) (h : Sh w s G) (hl : ∀ k ∈ G.bl s, k < w.heap.size) (hs : st.1.length = 4) (e : En) (E1 E2 : List En) (hE : G.E = E1 ++ ([e] ++ E2)) (hy : e.n = I.key y) (hn : e.L.length < 1000) :
    Calls Try.prog 39 #[.pointer (some ⟨s, 0, none⟩), SV st.1 st.2, WV y] w fun r w' => ∃ v, r = .returned (.tuple #[]) ∧ Sh w' s { G with E := E1 ++ ([(⟨I.key y, e.c, v, (C.add e.L st y).1⟩ : En)] ++ E2) } ∧ Turn (G.bl s) w w' ∧
      ∀ k ∈ ({ G with E := E1 ++ ([(⟨I.key y, e.c, v, (C.add e.L st y).1⟩ : En)] ++ E2) } : Gm).bl s, (k ∈ G.bl s ∨ w.heap.size ≤ k) ∧ k < w'.heap.size := by
  have HSH := Lib.hid h
  have HL := Lib.hid hl
  have HSs := Lib.hid (size_s (d := st.2) hs)
  have CF := Lib.hid (fun u (hu : Sh u s G) (hlu : ∀ k ∈ G.bl s, k < u.heap.size) => find_there s G e.n e.c u hu hlu (E1.map fun e => (e.n, e.c)) (E2.map fun e => (e.n, e.c)) (by rw [hE]; simp))
  have CA := Lib.hid (fun u (hu : Ch wrt 123 u e.c e.v e.L) => addW e.c e.v e.L st y u hu hs hn)
  have HMM := Lib.hid (fun u (hu : Mp u G.mb (G.E.map fun e => (e.n, e.c))) => upd_some (w := u) (mb := G.mb) (M1 := E1.map fun e => (e.n, e.c)) (M2 := E2.map fun e => (e.n, e.c)) (n := e.n) (c := e.c) (by rw [hE] at hu; simpa using hu))
  have HEb : Hid (∀ k ∈ e.c :: ob e.v, k ∈ G.bl s) := fun k hk => mem_E (by rw [hE]; simp) hk
  have HCE := Lib.hid (h.chains e (by rw [hE]; simp))
  rw [hy] at CF HMM
  clear hy
  obtain ⟨p1, p2, p3, p4⟩ := y
  obtain ⟨b, e0⟩ := st
  change Hid (∀ u, _ → _ → Calls Try.prog 55 #[.pointer (some ⟨s, 0, none⟩), .agg #[.string p1, .string p2]] u _) at CF
  dsimp only at HSs CA ⊢
  clear h hl hs
  show Calls _ _ #[_, _, .agg #[.string p1, .string p2, .string p3, .bool p4]] _ _
  go_enter Try.func39, Try.ntmps39
  go_wp2_with (first | refine blk_box rfl 35 _ rfl (ks .u64 b ++ [Value.int .i64 e0]) rfl ?_)
  intro w1 A1 B1 Z1
  go_wp2_with (first | refine blk_box rfl 42 _ rfl [Value.string p1, Value.string p2, Value.string p3, Value.bool p4] rfl ?_)
  intro w2 A2 B2 Z2
  have A2 : Blk w2 (w.heap.size + 1) [Value.string p1, Value.string p2, Value.string p3, Value.bool p4] := by first | exact A2 | (have h := A2; rw [Z1] at h; exact h)
  have c0 := A2.cell 0 _ rfl
  have c1 := A2.cell 1 _ rfl
  have A12 : Blk w2 w.heap.size (ks .u64 b ++ [Value.int .i64 e0]) := Blk.below A1 B2 (by omega)
  go_wp2_with (first | refine blk_alloc rfl 111 [Value.string ⟨#[]⟩, Value.string ⟨#[]⟩] rfl Try.info_nm ?_)
  intro w3 A3 B3 Z3
  have hz2 : w2.heap.size = w.heap.size + 2 := by omega
  have A3 : Blk w3 (w.heap.size + 2) [Value.string ⟨#[]⟩, Value.string ⟨#[]⟩] := by first | exact A3 | (have h := A3; rw [hz2] at h; exact h)
  go_wp2_with (first | refine blk_store rfl 111 _ _ rfl (w.heap.size + 2) rfl [Value.string p1, Value.string p2] rfl _ A3 rfl Try.size_nm rfl ?_)
  intro w4 A4 U4
  have HS4 : Hid (Blk w4 w.heap.size (ks .u64 b ++ [Value.int .i64 e0])) := Blk.upd (Blk.below A12 B3 (by omega)) U4 (by omega)
  have HW4 : Hid (Blk w4 (w.heap.size + 1) [Value.string p1, Value.string p2, Value.string p3, Value.bool p4]) := Blk.upd (Blk.below A2 B3 (by omega)) U4 (by omega)
  have HN4 : Hid (Blk w4 (w.heap.size + 2) [Value.string p1, Value.string p2]) := A4
  have HB4 : Hid (Below w.heap.size w w4) := ((B1.trans (B2.mono (by omega))).trans (B3.mono (by omega))).trans (U4.below (by omega))
  have HZ4 : Hid (w.heap.size + 3 = w4.heap.size) := by show _ = _; rw [U4.size]; omega
  have HH4 := Lib.hid (HSH.out.below HL.out HB4.out)
  have HL4 : Hid (∀ k ∈ G.bl s, k < w4.heap.size) := fun k hk => Nat.lt_of_lt_of_le (HL.out k hk) HB4.out.size
  clear A1 B1 Z1 A2 B2 Z2 A3 B3 Z3 A4 U4 A12 c0 c1 hz2
  go_wp2_with (first | refine blk_load rfl 111 _ rfl (w.heap.size + 2) rfl [Value.string p1, Value.string p2] HN4.out _ Try.underlying111 rfl Try.size_nm ?_)
  refine (CF.out _ HH4.out HL4.out).mono ?_; rintro r w5 ⟨rfl, hb5⟩
  have HC5 : Hid (Ch wrt 123 w5 e.c e.v e.L) := HCE.out.below (HB4.out.trans (hb5.mono HB4.out.size))
  have HS5 : Hid (Blk w5 w.heap.size (ks .u64 b ++ [Value.int .i64 e0])) := Blk.below HS4.out hb5 (by have := HZ4.out; omega)
  have HW5 : Hid (Blk w5 (w.heap.size + 1) [Value.string p1, Value.string p2, Value.string p3, Value.bool p4]) := Blk.below HW4.out hb5 (by have := HZ4.out; omega)
  have HN5 : Hid (Blk w5 (w.heap.size + 2) [Value.string p1, Value.string p2]) := Blk.below HN4.out hb5 (by have := HZ4.out; omega)
  have HB5 : Hid (Below w.heap.size w w5) := HB4.out.trans (hb5.mono HB4.out.size)
  have HZ5 : Hid (w.heap.size + 3 ≤ w5.heap.size) := by show _ ≤ _; have := HZ4.out; have := hb5.size; omega
  clear hb5 HS4 HW4 HN4 HH4 HL4
  go_wp2_with (first | refine blk_load rfl 35 _ rfl w.heap.size rfl (ks .u64 b ++ [Value.int .i64 e0]) HS5.out _ Try.underlying35 rfl HSs.out ?_ | refine blk_load rfl 42 _ rfl (w.heap.size + 1) rfl [Value.string p1, Value.string p2, Value.string p3, Value.bool p4] HW5.out _ Try.underlying42 rfl It.Try.size_w ?_)
  refine (CA.out _ HC5.out).mono ?_; rintro r w6 ⟨v', rfl, hc6, ht6, hn6⟩
  have hne : ∀ k, w.heap.size ≤ k → k ∉ e.c :: ob e.v := fun k hk hm => by have := HL.out k (HEb.out k hm); omega
  have hs6 : s ∉ e.c :: ob e.v := fun hm => by
    have := HSH.out.nd
    rw [bl_split hE, List.nodup_append] at this
    exact this.2.2 s (List.mem_append_left _ (by simp)) s (List.mem_append_left _ (by simpa [En.bl] using hm)) rfl
  have hm6 : G.mb ∉ e.c :: ob e.v := fun hm => by
    have := HSH.out.nd
    rw [bl_split hE, List.nodup_append] at this
    exact this.2.2 G.mb (List.mem_append_left _ (by simp)) G.mb (List.mem_append_left _ (by simpa [En.bl] using hm)) rfl
  have HM6 : Hid (G.mb ∉ e.c :: ob v') := by
    intro hm
    rcases List.mem_cons.1 hm with h1 | h1
    · exact hm6 (by rw [h1]; exact List.mem_cons_self ..)
    · rcases hn6 with h2 | h2
      · exact hm6 (List.mem_cons_of_mem _ (mem_ob.2 (by rw [← h2]; exact mem_ob.1 h1)))
      · have := h2 _ (mem_ob.1 h1)
        have h3 := HL.out _ (mem_mb G s)
        have := HB5.out.size
        omega
  have hT6 := Turn.of_tw ht6
  have HN6 : Hid (Blk w6.drew (w.heap.size + 2) [Value.string p1, Value.string p2]) := Blk.drew (blk_st (hT6.far _ (by have := HZ5.out; omega) (hne _ (by omega))) HN5.out)
  have HC16 : Hid (w6.drew.cell? ⟨s, 1, none⟩ = some (.map (some G.mb))) := by
    show _ = _
    rw [World.cell?_drew, World.cell?_of_block (w := w5) (hT6.far s (Nat.lt_of_lt_of_le (HL.out _ (mem_s G s)) HB5.out.size) hs6)]
    exact (HB5.out.cell (p := ⟨s, 1, none⟩) (HL.out _ (mem_s G s))).trans HSH.out.c1
  have hmp6 : Mp w6.drew G.mb (G.E.map fun e => (e.n, e.c)) := HSH.out.map.st (by
    show w6.heap[G.mb]? = _
    rw [hT6.far _ (Nat.lt_of_lt_of_le (HL.out _ (mem_mb G s)) HB5.out.size) hm6, HB5.out.block _ (HL.out _ (mem_mb G s))])
  obtain ⟨w7, hr7, hmp7, hu7⟩ := HMM.out _ hmp6
  have HR7 : Hid ((Instr.mapUpdate 94 (.map (some G.mb)) (.agg #[.string p1, .string p2]) (.pointer (some ⟨e.c, 0, none⟩))).run Try.prog w6.drew = .ok () w7) := hr7
  have HP7 := Lib.hid hmp7
  have HU7 : Hid (Upd G.mb w6 w7) := ⟨hu7.os, hu7.tape, hu7.output, hu7.size, hu7.far⟩
  have HT6 := Lib.hid hT6
  have HC6 := Lib.hid hc6
  have HNN := Lib.hid hn6
  clear hc6 ht6 hn6 hne hs6 hm6 hT6 hmp6 hr7 hmp7 hu7 HS5 HW5 HN5
  go_wp2_with fail
  have hc1 := HC16.out
  refine region_tail 6 Try.mixed (by kernel_rfl) ?_
  simp only [List.take_succ_cons, List.take_zero, List.drop_succ_cons, List.drop_zero]
  still_step
  still_step
  still_step
  still_step
  refine still_blk_load rfl 111 _ rfl (w.heap.size + 2) rfl [Value.string p1, Value.string p2] HN6.out _ Try.underlying111 rfl Try.size_nm ?_
  still_step
  refine wpStill_nil ?_
  refine upd_step rfl _ _ _ _ rfl rfl rfl rfl HR7.out ?_
  go_wp2_with fail
  go_end0
  have hch7 : Ch wrt 123 w7 e.c v' _ := ch_st (fun k hk => HU7.out.far k (fun e9 => HM6.out (by rw [← e9]; exact hk))) HC6.out
  have hbl := ch_bl hch7
  have key := Sh.turn (w' := w7) HSH.out HL.out (X' := [(⟨I.key (p1, p2, p3, p4), e.c, v', (C.add e.L (b, e0) (p1, p2, p3, p4)).1⟩ : En)]) hE
    (((Turn.of_below HB5.out).trans (HT6.out.sub (B' := G.mb :: [e].flatMap En.bl) (fun x hx => List.mem_cons_of_mem _ (by simpa [En.bl] using hx))) (fun x hx => .inl hx)).trans (Turn.of_upd HU7.out) (fun x hx => .inl (by simp at hx; rw [hx]; exact List.mem_cons_self ..)))
    (by simpa using HP7.out) (fun e' he' => by simp at he'; subst he'; exact hch7)
    (fun k hk => by
      have hk' : k ∈ e.c :: ob v' := by simpa [En.bl] using hk
      refine ⟨?_, hbl.2 k hk'⟩
      rcases List.mem_cons.1 hk' with h1 | h1
      · exact .inl (by simp [En.bl, h1])
      · rcases HNN.out with h2 | h2
        · exact .inl (by
            have : k ∈ ob e.v := mem_ob.2 (by rw [← h2]; exact mem_ob.1 h1)
            simp [En.bl, this])
        · exact .inr (Nat.le_trans HB5.out.size (h2 _ (mem_ob.1 h1)))) (by simpa [En.bl] using hbl.1)
  refine ⟨rfl, _, key.1, ?_, key.2⟩
  exact ((Turn.of_below HB5.out).trans (HT6.out.sub (B' := G.bl s) (fun x hx => HEb.out x hx)) (fun x hx => .inl hx)).trans (Turn.of_upd HU7.out) (fun x hx => .inl (by simp at hx; rw [hx]; exact mem_mb G s))
set_option maxHeartbeats 4000000 in
theorem apply_not (s : Nat) (G : Gm) (st : C.St) (y : I.Wt) (w : World) (h : Sh w s G) (hl : ∀ k ∈ G.bl s, k < w.heap.size) (hs : st.1.length = 4) (hN : I.key y ∉ G.E.map (·.n)) :
    Calls Try.prog 39 #[.pointer (some ⟨s, 0, none⟩), SV st.1 st.2, WV y] w fun r w' => ∃ c v, r = .returned (.tuple #[]) ∧ Sh w' s { G with E := G.E ++ ([(⟨I.key y, c, v, (C.add [] st y).1⟩ : En)] ++ []) } ∧ Turn (G.bl s) w w' ∧
      ∀ k ∈ ({ G with E := G.E ++ ([(⟨I.key y, c, v, (C.add [] st y).1⟩ : En)] ++ []) } : Gm).bl s, (k ∈ G.bl s ∨ w.heap.size ≤ k) ∧ k < w'.heap.size := by
  have HSH := Lib.hid h
  have HL := Lib.hid hl
  have HSs := Lib.hid (size_s (d := st.2) hs)
  have CF := Lib.hid (fun u (hu : Sh u s G) (hlu : ∀ k ∈ G.bl s, k < u.heap.size) => find_not s G (I.key y) u hu hlu hN)
  have CA := Lib.hid (fun c u (hu : Ch wrt 123 u c (.slice none 0 0) []) => addW c (.slice none 0 0) [] st y u hu hs (by decide))
  have HMM := Lib.hid (fun c u (hu : Mp u G.mb (G.E.map fun e => (e.n, e.c))) => upd_none hu (I.key y) c (by rw [List.map_map]; exact hN))
  obtain ⟨p1, p2, p3, p4⟩ := y
  obtain ⟨b, e0⟩ := st
  change Hid (∀ u, _ → _ → Calls Try.prog 55 #[.pointer (some ⟨s, 0, none⟩), .agg #[.string p1, .string p2]] u _) at CF
  dsimp only at HSs CA ⊢
  clear h hl hs
  show Calls _ _ #[_, _, .agg #[.string p1, .string p2, .string p3, .bool p4]] _ _
  go_enter Try.func39, Try.ntmps39
  go_wp2_with (first | refine blk_box rfl 35 _ rfl (ks .u64 b ++ [Value.int .i64 e0]) rfl ?_)
  intro w1 A1 B1 Z1
  go_wp2_with (first | refine blk_box rfl 42 _ rfl [Value.string p1, Value.string p2, Value.string p3, Value.bool p4] rfl ?_)
  intro w2 A2 B2 Z2
  have A2 : Blk w2 (w.heap.size + 1) [Value.string p1, Value.string p2, Value.string p3, Value.bool p4] := by first | exact A2 | (have h := A2; rw [Z1] at h; exact h)
  have c0 := A2.cell 0 _ rfl
  have c1 := A2.cell 1 _ rfl
  have A12 : Blk w2 w.heap.size (ks .u64 b ++ [Value.int .i64 e0]) := Blk.below A1 B2 (by omega)
  go_wp2_with (first | refine blk_alloc rfl 111 [Value.string ⟨#[]⟩, Value.string ⟨#[]⟩] rfl Try.info_nm ?_)
  intro w3 A3 B3 Z3
  have hz2 : w2.heap.size = w.heap.size + 2 := by omega
  have A3 : Blk w3 (w.heap.size + 2) [Value.string ⟨#[]⟩, Value.string ⟨#[]⟩] := by first | exact A3 | (have h := A3; rw [hz2] at h; exact h)
  go_wp2_with (first | refine blk_store rfl 111 _ _ rfl (w.heap.size + 2) rfl [Value.string p1, Value.string p2] rfl _ A3 rfl Try.size_nm rfl ?_)
  intro w4 A4 U4
  have HS4 : Hid (Blk w4 w.heap.size (ks .u64 b ++ [Value.int .i64 e0])) := Blk.upd (Blk.below A12 B3 (by omega)) U4 (by omega)
  have HW4 : Hid (Blk w4 (w.heap.size + 1) [Value.string p1, Value.string p2, Value.string p3, Value.bool p4]) := Blk.upd (Blk.below A2 B3 (by omega)) U4 (by omega)
  have HN4 : Hid (Blk w4 (w.heap.size + 2) [Value.string p1, Value.string p2]) := A4
  have HB4 : Hid (Below w.heap.size w w4) := ((B1.trans (B2.mono (by omega))).trans (B3.mono (by omega))).trans (U4.below (by omega))
  have HZ4 : Hid (w.heap.size + 3 = w4.heap.size) := by show _ = _; rw [U4.size]; omega
  have HH4 := Lib.hid (HSH.out.below HL.out HB4.out)
  have HL4 : Hid (∀ k ∈ G.bl s, k < w4.heap.size) := fun k hk => Nat.lt_of_lt_of_le (HL.out k hk) HB4.out.size
  clear A1 B1 Z1 A2 B2 Z2 A3 B3 Z3 A4 U4 A12 c0 c1 hz2
  go_wp2_with (first | refine blk_load rfl 111 _ rfl (w.heap.size + 2) rfl [Value.string p1, Value.string p2] HN4.out _ Try.underlying111 rfl Try.size_nm ?_)
  refine (CF.out _ HH4.out HL4.out).mono ?_; rintro r w5 ⟨c, rfl, hcs, hc5, hb5⟩
  have HC5 := Lib.hid hc5
  have HCS := Lib.hid hcs
  clear hcs hc5
  have HS5 : Hid (Blk w5 w.heap.size (ks .u64 b ++ [Value.int .i64 e0])) := Blk.below HS4.out hb5 (by have := HZ4.out; omega)
  have HW5 : Hid (Blk w5 (w.heap.size + 1) [Value.string p1, Value.string p2, Value.string p3, Value.bool p4]) := Blk.below HW4.out hb5 (by have := HZ4.out; omega)
  have HN5 : Hid (Blk w5 (w.heap.size + 2) [Value.string p1, Value.string p2]) := Blk.below HN4.out hb5 (by have := HZ4.out; omega)
  have HB5 : Hid (Below w.heap.size w w5) := HB4.out.trans (hb5.mono HB4.out.size)
  have HZ5 : Hid (w.heap.size + 3 ≤ w5.heap.size) := by show _ ≤ _; have := HZ4.out; have := hb5.size; omega
  clear hb5 HS4 HW4 HN4 HH4 HL4
  go_wp2_with (first | refine blk_load rfl 35 _ rfl w.heap.size rfl (ks .u64 b ++ [Value.int .i64 e0]) HS5.out _ Try.underlying35 rfl HSs.out ?_ | refine blk_load rfl 42 _ rfl (w.heap.size + 1) rfl [Value.string p1, Value.string p2, Value.string p3, Value.bool p4] HW5.out _ Try.underlying42 rfl It.Try.size_w ?_)
  refine (CA.out c _ HC5.out).mono ?_; rintro r w6 ⟨v', rfl, hc6, ht6, hn6⟩
  have hne : ∀ k, w.heap.size ≤ k → k < w.heap.size + 3 → k ∉ c :: ob (.slice none 0 0) := fun k hk h3 hm => by
    have := HCS.out; have := HZ4.out
    simp [ob, Value.ownBlock] at hm
    omega
  have hs6 : s ∉ c :: ob (.slice none 0 0) := fun hm => by
    have := HCS.out; have := HZ4.out; have := HL.out _ (mem_s G s)
    simp [ob, Value.ownBlock] at hm
    omega
  have hm6 : G.mb ∉ c :: ob (.slice none 0 0) := fun hm => by
    have := HCS.out; have := HZ4.out; have := HL.out _ (mem_mb G s)
    simp [ob, Value.ownBlock] at hm
    omega
  have HM6 : Hid (G.mb ∉ c :: ob v') := by
    intro hm
    rcases List.mem_cons.1 hm with h1 | h1
    · exact hm6 (by rw [h1]; exact List.mem_cons_self ..)
    · rcases hn6 with h2 | h2
      · have h3 := mem_ob.1 h1
        rw [h2] at h3
        cases h3
      · have := h2 _ (mem_ob.1 h1)
        have h3 := HL.out _ (mem_mb G s)
        have := HB5.out.size
        omega
  have hT6 := Turn.of_tw ht6
  have HN6 : Hid (Blk w6.drew (w.heap.size + 2) [Value.string p1, Value.string p2]) := Blk.drew (blk_st (hT6.far _ (by have := HZ5.out; omega) (hne _ (by omega) (by omega))) HN5.out)
  have HC16 : Hid (w6.drew.cell? ⟨s, 1, none⟩ = some (.map (some G.mb))) := by
    show _ = _
    rw [World.cell?_drew, World.cell?_of_block (w := w5) (hT6.far s (Nat.lt_of_lt_of_le (HL.out _ (mem_s G s)) HB5.out.size) hs6)]
    exact (HB5.out.cell (p := ⟨s, 1, none⟩) (HL.out _ (mem_s G s))).trans HSH.out.c1
  have hmp6 : Mp w6.drew G.mb (G.E.map fun e => (e.n, e.c)) := HSH.out.map.st (by
    show w6.heap[G.mb]? = _
    rw [hT6.far _ (Nat.lt_of_lt_of_le (HL.out _ (mem_mb G s)) HB5.out.size) hm6, HB5.out.block _ (HL.out _ (mem_mb G s))])
  obtain ⟨w7, hr7, hmp7, hu7⟩ := HMM.out c _ hmp6
  have HR7 : Hid ((Instr.mapUpdate 94 (.map (some G.mb)) (.agg #[.string p1, .string p2]) (.pointer (some ⟨c, 0, none⟩))).run Try.prog w6.drew = .ok () w7) := hr7
  have HP7 := Lib.hid hmp7
  have HU7 : Hid (Upd G.mb w6 w7) := ⟨hu7.os, hu7.tape, hu7.output, hu7.size, hu7.far⟩
  have HT6 := Lib.hid hT6
  have HC6 := Lib.hid hc6
  have HNN := Lib.hid hn6
  clear hc6 ht6 hn6 hne hs6 hm6 hT6 hmp6 hr7 hmp7 hu7 HS5 HW5 HN5
  go_wp2_with fail
  have hc1 := HC16.out
  refine region_tail 6 Try.mixed (by kernel_rfl) ?_
  simp only [List.take_succ_cons, List.take_zero, List.drop_succ_cons, List.drop_zero]
  still_step
  still_step
  still_step
  still_step
  refine still_blk_load rfl 111 _ rfl (w.heap.size + 2) rfl [Value.string p1, Value.string p2] HN6.out _ Try.underlying111 rfl Try.size_nm ?_
  still_step
  refine wpStill_nil ?_
  refine upd_step rfl _ _ _ _ rfl rfl rfl rfl HR7.out ?_
  go_wp2_with fail
  go_end0
  have hch7 : Ch wrt 123 w7 c v' _ := ch_st (fun k hk => HU7.out.far k (fun e9 => HM6.out (by rw [← e9]; exact hk))) HC6.out
  have hbl := ch_bl hch7
  have hcw : w.heap.size ≤ c := by have := HCS.out; have := HZ4.out; omega
  have hfr : ∀ k ∈ c :: ob v', w.heap.size ≤ k := fun k hk => by
    rcases List.mem_cons.1 hk with h1 | h1
    · rw [h1]; exact hcw
    · rcases HNN.out with h2 | h2
      · have h3 := mem_ob.1 h1
        rw [h2] at h3
        cases h3
      · exact Nat.le_trans HB5.out.size (h2 _ (mem_ob.1 h1))
  have hob : ob (.slice none 0 0) = [] := rfl
  have hTT : ∀ B, G.mb ∈ B → Turn B w w7 := fun B hB => by
    refine ((Turn.of_below HB5.out).trans (B := B) (B' := c :: ob (.slice none 0 0)) HT6.out (fun x hx => .inr ?_)).trans (Turn.of_upd HU7.out) (fun x hx => .inl (by simp at hx; rw [hx]; exact hB))
    rw [hob] at hx
    simp at hx
    omega
  have key := Sh.turn (w' := w7) HSH.out HL.out (E1 := G.E) (X := []) (E2 := []) (X' := [(⟨I.key (p1, p2, p3, p4), c, v', (C.add [] (b, e0) (p1, p2, p3, p4)).1⟩ : En)]) (by simp) (hTT _ (List.mem_cons_self ..))
    (by simpa using HP7.out) (fun e' he' => by simp at he'; subst he'; exact hch7)
    (fun k hk => by
      have hk' : k ∈ c :: ob v' := by simpa [En.bl] using hk
      exact ⟨.inr (hfr k hk'), hbl.2 k hk'⟩) (by simpa [En.bl] using hbl.1)
  exact ⟨rfl, _, _, key.1, hTT _ (mem_mb G s), key.2⟩
end Go.Proofs.Ytohcdonmdnjgoaa.Sd

namespace Go.Proofs.Ytohcdonmdnjgoaa.Sd

open Go.RowKit Go.Proofs.Ytohcdonmdnjgoaa.Vc Go.Proofs.Ytohcdonmdnjgoaa.Sp Go.Proofs.Ytohcdonmdnjgoaa.Rw Go.Proofs.Ytohcdonmdnjgoaa.Ch Go.Proofs.Ytohcdonmdnjgoaa.Se Go.Proofs.Ytohcdonmdnjgoaa.It Go.Proofs.Ytohcdonmdnjgoaa.Mk

set_option linter.unusedVariables false

set_option linter.unusedSimpArgs false

set_option maxRecDepth 100000

theorem vis_ups_there (E1 E2 : List En) (e : En) (v' : Value) (n : Nm) (st : C.St) (y : I.Wt) (hn : e.n = n) (hnd : ((E1 ++ ([e] ++ E2)).map (·.n)).Nodup) :
    vis (E1 ++ ([(⟨n, e.c, v', (C.add e.L st y).1⟩ : En)] ++ E2)) = ups (vis (E1 ++ ([e] ++ E2))) n st y := by
  subst hn
  have h1 : hasN (vis (E1 ++ ([e] ++ E2))) e.n = true := (hasN_iff _ _).2 (by rw [vis_n]; simp)
  have hm := map_at (vis E1) (vis E2) (e.n, e.L) (fun x => (x.1, (C.add x.2 st y).1)) (by rw [← vis_n] at hnd; simpa [vis] using hnd)
  unfold ups
  rw [if_pos h1]
  have e1 : vis (E1 ++ ([e] ++ E2)) = vis E1 ++ (e.n, e.L) :: vis E2 := by simp [vis]
  rw [e1]
  dsimp only at hm
  rw [hm]
  simp [vis]
theorem vis_ups_not (E : List En) (c : Nat) (v' : Value) (n : Nm) (st : C.St) (y : I.Wt) (hn : n ∉ E.map (·.n)) :
    vis (E ++ ([(⟨n, c, v', (C.add [] st y).1⟩ : En)] ++ [])) = ups (vis E) n st y := by
  have h1 : hasN (vis E) n = false := by rw [← Bool.not_eq_true, hasN_iff, vis_n]; exact hn
  unfold ups
  rw [if_neg (by rw [h1]; decide)]
  simp [vis]
theorem Sh.names {w : World} {s : Nat} {G : Gm} (h : Sh w s G) : (G.E.map (·.n)).Nodup := by have := h.map.nodup; rw [List.map_map] at this; exact this
theorem apply_any (s : Nat) (G : Gm) (st : C.St) (y : I.Wt) (w : World) (h : Sh w s G) (hl : ∀ k ∈ G.bl s, k < w.heap.size) (hs : st.1.length = 4) (hn : ∀ x ∈ vis G.E, x.2.length < 1000) :
    Calls Try.prog 39 #[.pointer (some ⟨s, 0, none⟩), SV st.1 st.2, WV y] w fun r w' => r = .returned (.tuple #[]) ∧ ∃ E', Sh w' s { G with E := E' } ∧ vis E' = ups (vis G.E) (I.key y) st y ∧ Turn (G.bl s) w w' ∧
      ∀ k ∈ ({ G with E := E' } : Gm).bl s, (k ∈ G.bl s ∨ w.heap.size ≤ k) ∧ k < w'.heap.size := by
  by_cases hm : I.key y ∈ G.E.map (·.n)
  · obtain ⟨e, he, hy⟩ := List.mem_map.1 hm
    obtain ⟨E1, E2, hE⟩ := List.append_of_mem he
    have hE : G.E = E1 ++ ([e] ++ E2) := hE
    refine (apply_there s G st y w h hl hs e E1 E2 hE hy (hn (e.n, e.L) (List.mem_map.2 ⟨e, he, rfl⟩))).mono ?_
    rintro r w' ⟨v, rfl, h1, h2, h3⟩
    refine ⟨rfl, _, h1, ?_, h2, h3⟩
    have := h.names
    rw [hE] at this ⊢
    exact vis_ups_there E1 E2 e v _ st y hy this
  · refine (apply_not s G st y w h hl hs hm).mono ?_
    rintro r w' ⟨c, v, rfl, h1, h2, h3⟩
    exact ⟨rfl, _, h1, vis_ups_not G.E c v _ st y hm, h2, h3⟩
def upsL (V : List (Nm × List (C.Vr I.Wt))) (st : C.St) (L : List I.Wt) : List (Nm × List (C.Vr I.Wt)) := L.foldl (fun V y => ups V (I.key y) st y) V
theorem upsL_step (V : List (Nm × List (C.Vr I.Wt))) (st : C.St) (L : List I.Wt) (j : Nat) (h : j < L.length) : upsL V st (L.take (j + 1)) = ups (upsL V st (L.take j)) (I.key (L.getD j I.none_)) st (L.getD j I.none_) := by
  unfold upsL
  rw [List.take_succ_eq_append_getElem h, List.foldl_append, List.getD_eq_getElem?_getD, List.getElem?_eq_getElem h]
  rfl
theorem add_le (L : List (C.Vr I.Wt)) (st : C.St) (y : I.Wt) : (C.add L st y).1.length ≤ L.length + 1 := by
  have := C.add_len L st y
  split at this <;> omega
/-- no chain is longer than m -/
def lim (V : List (Nm × List (C.Vr I.Wt))) (m : Nat) : Prop := ∀ x ∈ V, x.2.length ≤ m
theorem lim_ups {V : List (Nm × List (C.Vr I.Wt))} {m : Nat} (h : lim V m) (n : Nm) (st : C.St) (y : I.Wt) : lim (ups V n st y) (m + 1) := by
  intro x hx
  unfold ups at hx
  split at hx
  · obtain ⟨z, hz, e⟩ := List.mem_map.1 hx
    have h1 := h z hz
    split at e
    · subst e
      have := add_le z.2 st y
      show (C.add z.2 st y).1.length ≤ _
      omega
    · subst e; omega
  · rcases List.mem_append.1 hx with h1 | h1
    · have := h x h1; omega
    · simp at h1
      subst h1
      have := add_le [] st y
      simp at this ⊢
      omega
theorem lim_upsL {V : List (Nm × List (C.Vr I.Wt))} {m : Nat} (h : lim V m) (st : C.St) (L : List I.Wt) : lim (upsL V st L) (m + L.length) := by
  unfold upsL
  induction L generalizing V m with
  | nil => exact h
  | cons y L ih =>
    have := ih (lim_ups h (I.key y) st y)
    rw [List.foldl_cons, List.length_cons]
    have e : m + (L.length + 1) = m + 1 + L.length := by omega
    rw [e]; exact this
theorem len_ups (V : List (Nm × List (C.Vr I.Wt))) (n : Nm) (st : C.St) (y : I.Wt) : (ups V n st y).length ≤ V.length + 1 := by
  unfold ups
  split <;> simp
theorem len_upsL (V : List (Nm × List (C.Vr I.Wt))) (st : C.St) (L : List I.Wt) : (upsL V st L).length ≤ V.length + L.length := by
  unfold upsL
  induction L generalizing V with
  | nil => simp
  | cons y L ih =>
    have h1 := ih (ups V (I.key y) st y)
    have h2 := len_ups V (I.key y) st y
    rw [List.foldl_cons, List.length_cons]
    omega
theorem bl_took {G : Gm} {s : Nat} {b : Bt} {W : List Bt} (hW : G.W = b :: W) : (({ G with W := W } : Gm).bl s).Sublist (G.bl s) := by
  unfold Gm.bl
  rw [hW]
  dsimp only
  rw [List.flatMap_cons]
  exact (List.Sublist.refl _).append ((List.Sublist.refl _).append (List.sublist_append_right _ _))
theorem Sh.took {w w' : World} {s : Nat} {G : Gm} {b : Bt} {W : List Bt} (h : Sh w s G) (hl : ∀ k ∈ G.bl s, k < w.heap.size) (hW : G.W = b :: W) (hB : But G.ch w w') (hL : Ln w' G.lb G.ch G.room (W.map fun b => TV b.s.1 b.s.2 b.v)) :
    Sh w' s { G with W := W } ∧ (∀ k ∈ ob b.v, k ∉ ({ G with W := W } : Gm).bl s) ∧ IsWs w' b.v b.L := by
  have hnd := h.nd
  have hsub := bl_took (s := s) hW
  have hdis : ∀ k ∈ ob b.v, k ∉ ({ G with W := W } : Gm).bl s := fun k hk hm => by
    unfold Gm.bl at hnd hm
    rw [hW] at hnd
    dsimp only at hm
    rw [List.flatMap_cons, List.nodup_append, List.nodup_append, List.nodup_append] at hnd
    obtain ⟨_, ⟨_, ⟨_, _, h3⟩, h4⟩, h5⟩ := hnd
    rcases List.mem_append.1 hm with h6 | h6
    · exact h5 k h6 k (List.mem_append_right _ (List.mem_append_left _ hk)) rfl
    · rcases List.mem_append.1 h6 with h7 | h7
      · exact h4 k h7 k (List.mem_append_left _ hk) rfl
      · exact h3 k hk k h7 rfl
  have hch : ∀ k, k ∈ G.bl s → k ≠ G.ch → w'.heap[k]? = w.heap[k]? := fun k hk hn => hB.far k (hl k hk) hn
  have hne : ∀ k, (k ∈ G.E.flatMap En.bl ++ G.W.flatMap Bt.bl) → k ≠ G.ch := fun k hk e => by
    have := h.nd
    unfold Gm.bl at this
    rw [List.nodup_append] at this
    exact this.2.2 G.ch (by simp) k hk e.symm
  have h4 : s ≠ G.ch ∧ G.mb ≠ G.ch := by
    have := h.nd
    unfold Gm.bl at this
    rw [List.nodup_append] at this
    have := this.1
    simp only [List.nodup_cons, List.mem_cons, List.not_mem_nil, or_false, not_or] at this
    exact ⟨this.1.2.1, fun e => this.2.2.1 e.symm⟩
  refine ⟨⟨blk_st (hch s (mem_s G s) h4.1) h.blk, hL, h.map.st (hch _ (mem_mb G s) h4.2), fun e he => ch_st (fun k hk => hch k (mem_E (G := G) (s := s) he hk) (hne k (List.mem_append_left _ (List.mem_flatMap.2 ⟨e, he, hk⟩)))) (h.chains e he),
    fun b' hb' => bt_st (fun k hk => hch k (mem_W (G := G) (s := s) (by rw [hW]; exact List.mem_cons_of_mem _ hb') hk) (hne k (List.mem_append_right _ (List.mem_flatMap.2 ⟨b', by rw [hW]; exact List.mem_cons_of_mem _ hb', hk⟩)))) (h.rows b' (by rw [hW]; exact List.mem_cons_of_mem _ hb')), h.four, hnd.sublist hsub⟩, hdis, ?_⟩
  exact ws_st (fun k hk => hch k (mem_W (b := b) (by rw [hW]; simp) hk) (hne k (List.mem_append_right _ (List.mem_flatMap.2 ⟨b, by rw [hW]; simp, hk⟩)))) (h.rows b (by rw [hW]; simp)).rows
theorem Sh.setA {u w' : World} {s : Nat} {G : Gm} {A : List Nat} (h : Sh u s G) (hB : Blk w' s (sv { G with A := A })) (hU : Upd s u w') (hA : A.length = 4) : Sh w' s { G with A := A } := by
  have hnd := h.nd
  unfold Gm.bl at hnd
  rw [List.nodup_append] at hnd
  have h4 : G.lb ≠ s ∧ G.ch ≠ s ∧ G.mb ≠ s := by
    have := hnd.1
    simp only [List.nodup_cons, List.mem_cons, List.not_mem_nil, or_false, not_or] at this
    exact ⟨fun e => this.1.1 e.symm, fun e => this.1.2.1 e.symm, fun e => this.1.2.2 e.symm⟩
  have hf : ∀ k, (k ∈ G.E.flatMap En.bl ++ G.W.flatMap Bt.bl) → k ≠ s := fun k hk e => hnd.2.2 s (by simp) k hk e.symm
  exact ⟨hB, ln_st (hU.far _ h4.1) (hU.far _ h4.2.1) h.lane, h.map.st (hU.far _ h4.2.2), fun e he => ch_st (fun k hk => hU.far k (hf k (List.mem_append_left _ (List.mem_flatMap.2 ⟨e, he, hk⟩)))) (h.chains e he),
    fun b hb => bt_st (fun k hk => hU.far k (hf k (List.mem_append_right _ (List.mem_flatMap.2 ⟨b, hb, hk⟩)))) (h.rows b hb), hA, h.nd⟩
theorem rng2 {u : World} {s : Nat} {x y : Value} {l : List Value} (h : Blk u s ([x, y] ++ l)) : u.rangeAt s 2 l := fun j v hv => by
  have := h.1 (2 + j) v (by rw [List.getElem?_append_right (by simp)]; simpa using hv)
  simpa [Nat.zero_add] using this
section

variable {P : Program} {ops : Array Oper} {rest : List Oper} {o : Oper} {a : Act} {w : World} {Lq : Act → Prop} {S : World → Prop} {Q : Exit → Act → World → Prop}

theorem c_mid_load (hgd : o.guard = none) (t : TypeId) (x : Operand) (ho : o.op = .load t x) (b p : Nat) (hx : a.eval x = .pointer (some ⟨b, p, none⟩)) (vs : List Value) (hb : ∀ u, S u → u.rangeAt b p vs)
    (d : TypeDesc) (hu : P.underlying t = some d) (hd : d.isRow = true) (hi : (P.info? t).map (·.size) = some vs.length) (hQ : ∀ c a w, Q (.panic c) (a.put o.dst (.agg vs.toArray)) w → Q (.panic c) a w)
    (h : ∀ K : Act → Prop, (∀ a, SC P ops S Q Lq rest a → K a) → K (a.put o.dst (.agg vs.toArray))) : SC P ops S Q Lq (o :: rest) a := by
  refine c_value hgd (.agg vs.toArray) (fun u hc => ?_) hQ h
  have hl := run_loadAt_mid u b p t vs d (hb u hc) hu hd hi
  unfold execOp
  simp only [ho, hx, Sem.run_bind, hl, Result.andThen_ok, Sem.run_pure]
/-- a vector is stored into the shard -/
theorem vec_store (hgd : o.guard = none) (t : TypeId) (x y : Operand) (ho : o.op = .store t x y) (b : Nat) (hx : a.eval x = .pointer (some ⟨b, 2, none⟩)) (y0 y1 y2 y3 : Nat) (hy : a.eval y = AV .u64 [y0, y1, y2, y3])
    (x0 x1 x2 x3 : Nat) (v0 v1 : Value) (hb : Blk w b ([v0, v1] ++ ks .u64 [x0, x1, x2, x3])) (hi : (P.info? t).map (·.size) = some 4)
    (h : ∀ w', Blk w' b ([v0, v1] ++ ks .u64 [y0, y1, y2, y3]) → Upd b w w' → wpList P ops Q rest (a.put o.dst undef) w') : wpList P ops Q (o :: rest) a w := by
  have hth : w.there b 2 4 := fun j hj => by have := hb.2 (2 + j) (by simp [ks]; omega); rw [Nat.zero_add] at this; exact this
  refine wpList_store_mid hgd t x y ho b 2 (ks .u64 [y0, y1, y2, y3]).toArray hx hy (by exact hth) (by exact hi) (all_oneCell_toArray (fun v hv => by simp [ks] at hv; rcases hv with rfl | rfl | rfl | rfl <;> rfl)) (h _ ?_ (Upd.setCells b _ 2 w))
  have s0 := Blk.setc hb 2 (by simp [ks]) (.int .u64 (y0 : Int))
  have s1 := Blk.setc s0 3 (by simp [ks]) (.int .u64 (y1 : Int))
  have s2 := Blk.setc s1 4 (by simp [ks]) (.int .u64 (y2 : Int))
  have s3 := Blk.setc s2 5 (by simp [ks]) (.int .u64 (y3 : Int))
  exact s3
end

end Go.Proofs.Ytohcdonmdnjgoaa.Sd

namespace Go.Proofs.Ytohcdonmdnjgoaa.Sd

open Go.RowKit Go.Proofs.Ytohcdonmdnjgoaa.Vc Go.Proofs.Ytohcdonmdnjgoaa.Sp Go.Proofs.Ytohcdonmdnjgoaa.Rw Go.Proofs.Ytohcdonmdnjgoaa.Ch Go.Proofs.Ytohcdonmdnjgoaa.Se Go.Proofs.Ytohcdonmdnjgoaa.It Go.Proofs.Ytohcdonmdnjgoaa.Mk

set_option linter.unusedVariables false

set_option linter.unusedSimpArgs false

set_option maxRecDepth 100000

set_option maxHeartbeats 2000000 in
theorem step_none (s : Nat) (G : Gm) (w : World) (h : Sh w s G) (hl : ∀ k ∈ G.bl s, k < w.heap.size) (hW : G.W = []) :
    Calls Try.prog 14 #[.pointer (some ⟨s, 0, none⟩)] w fun r w' => r = .returned (.bool false) ∧ Below w.heap.size w w' := by
  have c0 := h.c0
  have hlane := h.lane
  rw [hW] at hlane
  have HLN : Hid (Ln w G.lb G.ch G.room []) := hlane
  clear h hl hW hlane
  go_enter Try.func14, Try.ntmps14
  go_wp2_with fail
  refine (Tx.take_no HLN.out).mono ?_; rintro r w1 ⟨rfl, hb1⟩
  have HB1 := Lib.hid hb1
  clear hb1 c0
  go_wp2_with (first | refine blk_alloc rfl 51 (ks .u64 [0, 0, 0, 0] ++ [Value.int .i64 0, .slice none 0 0]) rfl It.Try.info_itx ?_)
  intro w2 A2 B2 Z2
  go_wp2_with (first | refine blk_store rfl 51 _ _ rfl w1.heap.size rfl (ks .u64 [0, 0, 0, 0] ++ [Value.int .i64 0, .slice none 0 0]) rfl _ A2 rfl It.Try.size_itx rfl ?_)
  intro w3 A3 U3
  have HB3 : Hid (Below w.heap.size w w3) := (HB1.out.trans (B2.mono HB1.out.size)).trans (U3.below HB1.out.size)
  clear A2 B2 Z2 A3 U3
  go_wp2_with fail
  go_ret
  exact ⟨rfl, HB3.out⟩
set_option maxHeartbeats 8000000 in
theorem step_one (s : Nat) (G : Gm) (b : Bt) (W : List Bt) (w : World) (h : Sh w s G) (hl : ∀ k ∈ G.bl s, k < w.heap.size) (hW : G.W = b :: W) (m : Nat) (hlm : lim (vis G.E) m) (hm : m + b.L.length < 1000) :
    Calls Try.prog 14 #[.pointer (some ⟨s, 0, none⟩)] w fun r w' => r = .returned (.bool true) ∧ ∃ E', Sh w' s { G with W := W, E := E', A := V.with_ G.A b.s.2 (max (V.at_ G.A b.s.2) (V.at_ b.s.1 b.s.2)) } ∧ vis E' = upsL (vis G.E) b.s b.L ∧ Turn (G.bl s) w w' ∧
      ∀ k ∈ ({ G with W := W, E := E', A := V.with_ G.A b.s.2 (max (V.at_ G.A b.s.2) (V.at_ b.s.1 b.s.2)) } : Gm).bl s, (k ∈ G.bl s ∨ w.heap.size ≤ k) ∧ k < w'.heap.size := by
  have c0 := h.c0
  have HSH := Lib.hid h
  have HL := Lib.hid hl
  have hbk := h.rows b (by rw [hW]; simp)
  have hlane := h.lane
  rw [hW, List.map_cons] at hlane
  have h4 := h.four
  obtain ⟨⟨a, d⟩, v, L⟩ := b
  dsimp only at hbk hlane hm ⊢
  have h4a : a.length = 4 := hbk.four
  have HIS : Hid (IsWs w v L) := hbk.rows
  obtain ⟨sa, cap, ev, hca, hma, _⟩ := HIS.out.is
  have hv1 : v.oneCell' = true := by rw [ev]; rfl
  have HLN : Hid (Ln w G.lb G.ch G.room (TV a d v :: W.map fun b => TV b.s.1 b.s.2 b.v)) := hlane
  have HT := Lib.hid (fun (u : World) (l : List Value) (hu : Ln u G.lb G.ch G.room (TV a d v :: l)) => Tx.take_ok a d v h4a hv1 hu)
  have HTK := Lib.hid (fun w' (hB : But G.ch w w') (hL : Ln w' G.lb G.ch G.room (W.map fun b => TV b.s.1 b.s.2 b.v)) => Sh.took (b := ⟨(a, d), v, L⟩) h hl hW hB hL)
  have HSUB := Lib.hid ((bl_took (s := s) hW).subset)
  have HOBL : Hid (∀ k ∈ ob v, k < w.heap.size ∧ k ∈ G.bl s) := fun k hk => ⟨hl k (mem_W (b := ⟨(a, d), v, L⟩) (by rw [hW]; simp) hk), mem_W (b := ⟨(a, d), v, L⟩) (by rw [hW]; simp) hk⟩
  have HLIM := Lib.hid (fun j => lim_upsL hlm (a, d) (L.take j))
  have HUS := Lib.hid (fun j (hj : j < L.length) => upsL_step (vis G.E) (a, d) L j hj)
  obtain ⟨n, HN⟩ : ∃ n, Hid (L.length = n) := ⟨_, rfl⟩
  have HLEN : Hid (∀ j, (L.take j).length ≤ n) := fun j => by rw [List.length_take, HN.out]; omega
  rw [HN.out] at hm ev HUS
  have hn6 : n < 1000000 := by omega
  obtain ⟨a0, a1, a2, a3, rfl⟩ := V.four h4a
  obtain ⟨q0, q1, q2, q3, HA⟩ : ∃ q0 q1 q2 q3, Hid (G.A = [q0, q1, q2, q3]) := V.four h4
  have HAT := Lib.hid (fun u => at_any G.A d u h4)
  have HSN := Lib.hid (fun u => sn_any [a0, a1, a2, a3] d u rfl)
  obtain ⟨pA, HPA⟩ : ∃ z, Hid (V.at_ G.A d = z) := ⟨_, rfl⟩
  obtain ⟨pN, HPN⟩ : ∃ z, Hid (V.at_ [a0, a1, a2, a3] d = z) := ⟨_, rfl⟩
  obtain ⟨pM, HPM⟩ : ∃ z, Hid (max pA pN = z) := ⟨_, rfl⟩
  have HWT := Lib.hid (fun u => with_any G.A d pM u h4)
  have hw4 : (V.with_ G.A d pM).length = 4 := by unfold V.with_; split <;> simp [h4]
  obtain ⟨z0, z1, z2, z3, HZA⟩ : ∃ q0 q1 q2 q3, Hid (V.with_ G.A d pM = [q0, q1, q2, q3]) := V.four hw4
  have HSVZ := Lib.hid (size_v (l := G.A) h4)
  rw [HPA.out, HPN.out, HPM.out, HZA.out]
  rw [HPA.out] at HAT
  rw [HPN.out] at HSN
  rw [HZA.out] at HWT
  have HMX : Hid (max (pA : Int) (pN : Int) = (pM : Int)) := by show _ = _; rw [← HPM.out]; omega
  clear h hl hW hlane hbk h4 h4a hw4 hlm hma hv1 hca
  subst ev
  go_enter Try.func14, Try.ntmps14
  go_wp2_with fail
  refine (HT.out _ _ HLN.out).mono ?_; rintro r w1 ⟨rfl, hln1, hbt1⟩
  have HTT := Lib.hid (HTK.out w1 hbt1 hln1)
  have HB1 := Lib.hid hbt1
  clear hln1 hbt1 c0 HT HTK HLN
  go_wp2_with (first | refine blk_alloc rfl 51 (ks .u64 [0, 0, 0, 0] ++ [Value.int .i64 0, .slice none 0 0]) rfl It.Try.info_itx ?_)
  intro w2 A2 B2 Z2
  go_wp2_with (first | refine blk_store rfl 51 _ _ rfl w1.heap.size rfl (ks .u64 [a0, a1, a2, a3] ++ [Value.int .i64 d, .slice sa n cap]) rfl _ A2 rfl It.Try.size_itx rfl ?_)
  intro w3 A3 U3
  have HT3 : Hid (Blk w3 w1.heap.size (ks .u64 [a0, a1, a2, a3] ++ [Value.int .i64 d, .slice sa n cap])) := A3
  have hB13 : Below w1.heap.size w1 w3 := B2.trans (U3.below (Nat.le_refl _))
  have HTB : Hid (w.heap.size ≤ w1.heap.size ∧ w1.heap.size < w3.heap.size) := ⟨HB1.out.size, by rw [U3.size]; omega⟩
  have hlW : ∀ k ∈ ({ G with W := W } : Gm).bl s, k < w1.heap.size := fun k hk => Nat.lt_of_lt_of_le (HL.out k (HSUB.out hk)) HB1.out.size
  have HS3 : Hid (Sh w3 s { G with W := W, E := G.E }) := HTT.out.1.below hlW hB13
  have HI3 : Hid (IsWs w3 (.slice sa n cap) L) := HTT.out.2.2.below hB13
  have HBL3 : Hid (∀ k ∈ ({ G with W := W, E := G.E } : Gm).bl s, (k ∈ G.bl s ∨ w.heap.size ≤ k) ∧ k < w3.heap.size) := fun k hk => ⟨.inl (HSUB.out hk), Nat.lt_of_lt_of_le (hlW k hk) hB13.size⟩
  have HTU3 : Hid (Turn (G.bl s) w w3) := ((Turn.of_but HB1.out).sub (fun x hx => by simp at hx; rw [hx]; exact mem_ch G s)).trans (Turn.of_below (B := G.bl s) hB13) (fun x hx => .inl hx)
  have HFR3 : Hid (∀ k ∈ w1.heap.size :: ob (.slice sa n cap), k ∉ ({ G with W := W, E := G.E } : Gm).bl s) := fun k hk hm => by
    rcases List.mem_cons.1 hk with h1 | h1
    · have := hlW k hm; omega
    · exact HTT.out.2.1 k h1 hm
  have c5 := A3.cell 5 _ rfl
  clear A2 B2 Z2 A3 U3 hB13 hlW HTT HB1
  go_wp2_with fail
  have HV0 : Hid (vis G.E = upsL (vis G.E) ([a0, a1, a2, a3], d) (L.take 0)) := by show _ = _; rw [List.take_zero]; rfl
  clear c5
  go_loopw [21] (fun i wr => ∃ (j : Nat) (E' : List En), j ≤ n ∧ i = .int .i64 j ∧ Hid (vis E' = upsL (vis G.E) ([a0, a1, a2, a3], d) (L.take j)) ∧ Hid (Sh wr s { G with W := W, E := E' }) ∧ Hid (∀ k ∈ ({ G with W := W, E := E' } : Gm).bl s, (k ∈ G.bl s ∨ w.heap.size ≤ k) ∧ k < wr.heap.size) ∧ Hid (Turn (G.bl s) w wr) ∧
    Hid (Blk wr w1.heap.size (ks .u64 [a0, a1, a2, a3] ++ [Value.int .i64 d, .slice sa n cap])) ∧ Hid (IsWs wr (.slice sa n cap) L) ∧ Hid (∀ k ∈ w1.heap.size :: ob (.slice sa n cap), k ∉ ({ G with W := W, E := E' } : Gm).bl s) ∧ Hid (w.heap.size ≤ w1.heap.size ∧ w1.heap.size < wr.heap.size)) (fun i _ => n - (intOf i).toNat)
  case atStart => exact ⟨0, G.E, by omega, rfl, HV0, HS3, HBL3, HTU3, HT3, HI3, HFR3, HTB⟩
  case round =>
    obtain ⟨j, E', hj, rfl, HVr, HSr, HBr, HTr, HXr, HIr, HFr, HZr⟩ := hrel
    clear HS3 HBL3 HTU3 HT3 HI3 HFR3 HTB HV0
    by_cases hlt : j < n
    · have ilt : (j : Int) < (n : Int) := by omega
      obtain ⟨g, off, cap', hv, hg0, hrow⟩ := HIr.out.at j (by rw [HN.out]; exact hlt)
      obtain rfl : sa = some ⟨g, off, none⟩ := by injection hv
      have hstep := HUS.out j hlt
      obtain ⟨x, HX⟩ : ∃ x, Hid (L.getD j I.none_ = x) := ⟨_, rfl⟩
      rw [HX.out] at hrow hstep
      have HST := Lib.hid hstep
      have HRW := Lib.hid hrow
      have hix : ∀ w, (Instr.indexAt 49 (.slice (some ⟨g, off, none⟩) n cap) (.int .i64 (j : Int))).run Try.prog w = .ok (.pointer (some ⟨g, off + 4 * j, none⟩)) w := fun w => index_iw g off n cap j hlt w
      clear hv hrow hstep
      go_wp2_with (first | refine wpList_load_mid rfl 42 _ rfl g (off + 4 * j) rfl (wc x) _ HRW.out Try.underlying42 rfl It.Try.size_w ?_ | refine blk_alloc rfl 42 (wc I.none_) rfl It.Try.info_iw2 ?_)
      intro w4 A4 B4 Z4
      go_wp2_with (first | refine blk_store rfl 42 _ _ rfl wr.heap.size rfl (wc x) rfl _ A4 rfl It.Try.size_w (one_wc x) ?_)
      intro w5 A5 U5
      have hB5 : Below wr.heap.size wr w5 := B4.trans (U5.below (Nat.le_refl _))
      have HA5 : Hid (Blk w5 wr.heap.size (wc x)) := A5
      have HS5 : Hid (Sh w5 s { G with W := W, E := E' }) := HSr.out.below (fun k hk => (HBr.out k hk).2) hB5
      have HL5 : Hid (∀ k ∈ ({ G with W := W, E := E' } : Gm).bl s, k < w5.heap.size) := fun k hk => Nat.lt_of_lt_of_le (HBr.out k hk).2 hB5.size
      have HX5 : Hid (Blk w5 w1.heap.size ((ks .u64 [a0, a1, a2, a3] ++ [Value.int .i64 d]) ++ [.slice (some ⟨g, off, none⟩) n cap])) := Blk.below HXr.out hB5 HZr.out.2
      have HB5 := Lib.hid hB5
      have CAP := Lib.hid (fun u (hu : Sh u s { G with W := W, E := E' }) (hlu : ∀ k ∈ ({ G with W := W, E := E' } : Gm).bl s, k < u.heap.size) => apply_any s { G with W := W, E := E' } ([a0, a1, a2, a3], d) x u hu hlu rfl (fun z hz => by
        dsimp only at hz
        rw [HVr.out] at hz
        have h1 := HLIM.out j z hz
        have h2 := HLEN.out j
        omega))
      clear A4 B4 Z4 A5 U5 hB5 hix
      go_wp2_with (first | refine sub_load rfl 35 _ rfl w1.heap.size rfl (ks .u64 [a0, a1, a2, a3] ++ [Value.int .i64 d]) [.slice (some ⟨g, off, none⟩) n cap] HX5.out _ Try.underlying35 rfl (size_s rfl) ?_ | refine blk_load rfl 42 _ rfl wr.heap.size rfl (wc x) HA5.out _ Try.underlying42 rfl It.Try.size_w ?_)
      refine (CAP.out _ HS5.out HL5.out).mono ?_; rintro r w6 ⟨rfl, E'', hs6, hv6, ht6, hb6⟩
      have HV6 : Hid (vis E'' = upsL (vis G.E) ([a0, a1, a2, a3], d) (L.take (j + 1))) := by show _ = _; rw [HST.out, hv6]; exact congrArg (fun V => ups V (I.key x) ([a0, a1, a2, a3], d) x) HVr.out
      have HS6 := Lib.hid hs6
      have HBB : Hid (∀ k ∈ ({ G with W := W, E := E'' } : Gm).bl s, (k ∈ G.bl s ∨ w.heap.size ≤ k) ∧ k < w6.heap.size) := fun k hk => by
        obtain ⟨h1, h2⟩ := hb6 k hk
        refine ⟨?_, h2⟩
        rcases h1 with h1 | h1
        · exact (HBr.out k h1).1
        · exact .inr (by have := HB5.out.size; have := HTr.out.size; omega)
      have HT6 : Hid (Turn (G.bl s) w w6) := (HTr.out.trans (Turn.of_below (B := G.bl s) HB5.out) (fun x hx => .inl hx)).trans ht6 (fun k hk => (HBr.out k hk).1)
      have hstay : ∀ k, k ∈ w1.heap.size :: ob (.slice (some ⟨g, off, none⟩) n cap) → k < wr.heap.size → w6.heap[k]? = wr.heap[k]? := fun k hk hk2 => by
        rw [ht6.far k (Nat.lt_of_lt_of_le hk2 HB5.out.size) (HFr.out k hk), HB5.out.block k hk2]
      have HX6 : Hid (Blk w6 w1.heap.size (ks .u64 [a0, a1, a2, a3] ++ [Value.int .i64 d, .slice (some ⟨g, off, none⟩) n cap])) := blk_st (hstay _ (List.mem_cons_self ..) HZr.out.2) HXr.out
      have hobw : ∀ k ∈ ob (.slice (some ⟨g, off, none⟩) n cap), k < wr.heap.size := fun k hk => by have := (HOBL.out k hk).1; have := HTr.out.size; omega
      have HI6 : Hid (IsWs w6 (.slice (some ⟨g, off, none⟩) n cap) L) := ws_st (fun k hk => hstay k (List.mem_cons_of_mem _ hk) (hobw k hk)) HIr.out
      have HF6 : Hid (∀ k ∈ w1.heap.size :: ob (.slice (some ⟨g, off, none⟩) n cap), k ∉ ({ G with W := W, E := E'' } : Gm).bl s) := fun k hk hm => by
        rcases (hb6 k hm).1 with h1 | h1
        · exact HFr.out k hk h1
        · have h2 := HB5.out.size
          rcases List.mem_cons.1 hk with h3 | h3
          · have := HZr.out.2; omega
          · have := hobw k h3; omega
      have HZ6 : Hid (w.heap.size ≤ w1.heap.size ∧ w1.heap.size < w6.heap.size) := ⟨HZr.out.1, by have := HZr.out.2; have := HB5.out.size; have := ht6.size; omega⟩
      clear hs6 hv6 ht6 hb6 hstay hobw HVr HSr HBr HTr HXr HIr HFr HZr HA5 HS5 HL5 HX5 HB5 CAP HRW HST
      go_wp2_with fail
      go_roundw
      case rel => exact ⟨j + 1, E'', by omega, by go_num, HV6, HS6, HBB, HT6, HX6, HI6, HF6, HZ6⟩
      case measure => simp [intOf]; omega
    · obtain rfl : j = n := by omega
      have hx4 := HXr.out.cell 4 _ rfl
      have HVE : Hid (vis E' = upsL (vis G.E) ([a0, a1, a2, a3], d) L) := by
        show _ = _
        rw [HVr.out, List.take_of_length_le (by rw [HN.out]; exact Nat.le_refl _)]
      have HSV : Hid (Blk wr.drew s ([Value.pointer (some ⟨G.lb, 0, none⟩), .map (some G.mb)] ++ ks .u64 G.A)) := HSr.out.blk.drew
      have HXd : Hid (Blk wr.drew w1.heap.size (ks .u64 [a0, a1, a2, a3] ++ [Value.int .i64 d, .slice sa j cap])) := HXr.out.drew
      have HSd : Hid (Sh wr.drew s { G with W := W, E := E' }) := HSr.out.below (fun k hk => (HBr.out k hk).2) (Below.drew (Below.refl _ _))
      have HTd : Hid (Turn (G.bl s) w wr.drew) := HTr.out.trans (Turn.of_below (B := G.bl s) (Below.drew (Below.refl _ _))) (fun x hx => .inl hx)
      have HBd : Hid (∀ k ∈ ({ G with W := W, E := E' } : Gm).bl s, (k ∈ G.bl s ∨ w.heap.size ≤ k) ∧ k < wr.drew.heap.size) := HBr.out
      have HZd : Hid (w1.heap.size < wr.drew.heap.size ∧ s < wr.drew.heap.size) := ⟨HZr.out.2, (HBr.out s (mem_s _ s)).2⟩
      go_wp2_with fail
      have HWS : Hid (w1.heap.size ≠ s) := fun e => by
        have h1 := HFr.out w1.heap.size (List.mem_cons_self ..)
        exact h1 (by rw [e]; exact mem_s _ s)
      clear hx4 HVr HSr HBr HTr HXr HIr HFr HZr
      by_cases hpn : pA < pN
      · have ipn : (pA : Int) < (pN : Int) := by omega
        obtain rfl : pN = pM := by rw [← HPM.out]; omega
        refine region_pickC (fun u => Blk u s ([Value.pointer (some ⟨G.lb, 0, none⟩), .map (some G.mb)] ++ ks .u64 G.A) ∧ Blk u w1.heap.size (ks .u64 [a0, a1, a2, a3] ++ [Value.int .i64 d, .slice sa j cap])) 19 [0, 1, 2, 3, 4, 5, 6, 7, 8, 9, 10, 12, 13] [11, 14, 15, 16, 17, 18, 19] Try.mixed (by kernel_rfl) rfl (by kernel_rfl) ⟨HSV.out, HXd.out⟩ ?_
        refine p_readC rfl ?_
        refine c_move rfl _ rfl (.pointer (some ⟨s, 0, none⟩)) rfl (fun _ _ _ h => h) (fun K hK => ?_)
        go_simp
        refine hK _ ?_
        clear hK K
        refine c_nil ?_
        refine p_readC rfl ?_
        refine c_move rfl _ rfl (.pointer (some ⟨s, 0, none⟩)) rfl (fun _ _ _ h => h) (fun K hK => ?_)
        go_simp
        refine hK _ ?_
        clear hK K
        refine c_nil ?_
        refine p_readC rfl ?_
        refine c_value rfl (.pointer (some ⟨s, 0, none⟩)) (fun u hu => by go_simp) (fun _ _ _ h => h) (fun K hK => ?_)
        go_simp
        refine hK _ ?_
        clear hK K
        refine c_nil ?_
        refine p_readC rfl ?_
        refine c_value rfl (.pointer (some ⟨s, 2, none⟩)) (fun u hu => by go_simp) (fun _ _ _ h => h) (fun K hK => ?_)
        go_simp
        refine hK _ ?_
        clear hK K
        refine c_nil ?_
        refine p_readC rfl ?_
        refine c_mid_load rfl 33 _ rfl s 2 rfl (ks .u64 G.A) (fun u hu => rng2 hu.1) _ Try.underlying33 rfl (by rw [ks_length]; exact HSVZ.out) (fun _ _ _ h => h) (fun K hK => ?_)
        go_simp
        refine hK _ ?_
        clear hK K
        refine c_nil ?_
        refine p_readC rfl ?_
        refine c_move rfl _ rfl (.int .i64 d) rfl (fun _ _ _ h => h) (fun K hK => ?_)
        go_simp
        refine hK _ ?_
        clear hK K
        refine c_nil ?_
        refine p_readC rfl ?_
        refine c_move rfl _ rfl (.pointer (some ⟨s, 0, none⟩)) rfl (fun _ _ _ h => h) (fun K hK => ?_)
        go_simp
        refine hK _ ?_
        clear hK K
        refine c_nil ?_
        refine p_readC rfl ?_
        refine c_value rfl (.pointer (some ⟨s, 0, none⟩)) (fun u hu => by go_simp) (fun _ _ _ h => h) (fun K hK => ?_)
        go_simp
        refine hK _ ?_
        clear hK K
        refine c_nil ?_
        refine p_readC rfl ?_
        refine c_value rfl (.pointer (some ⟨s, 2, none⟩)) (fun u hu => by go_simp) (fun _ _ _ h => h) (fun K hK => ?_)
        go_simp
        refine hK _ ?_
        clear hK K
        refine c_nil ?_
        refine p_readC rfl ?_
        refine c_mid_load rfl 33 _ rfl s 2 rfl (ks .u64 G.A) (fun u hu => rng2 hu.1) _ Try.underlying33 rfl (by rw [ks_length]; exact HSVZ.out) (fun _ _ _ h => h) (fun K hK => ?_)
        go_simp
        refine hK _ ?_
        clear hK K
        refine c_nil ?_
        refine p_readC rfl ?_
        refine c_move rfl _ rfl (.int .i64 d) rfl (fun _ _ _ h => h) (fun K hK => ?_)
        go_simp
        refine hK _ ?_
        clear hK K
        refine c_nil ?_
        refine p_readC rfl ?_
        refine c_value rfl (.pointer (some ⟨w1.heap.size, 0, none⟩)) (fun u hu => by go_simp) (fun _ _ _ h => h) (fun K hK => ?_)
        go_simp
        refine hK _ ?_
        clear hK K
        refine c_nil ?_
        refine p_readC rfl ?_
        refine c_mid_load rfl 35 _ rfl w1.heap.size 0 rfl (ks .u64 [a0, a1, a2, a3] ++ [Value.int .i64 d]) (fun u hu => preb (vs := [.slice sa j cap]) (tx_stamp hu.2)) _ Try.underlying35 rfl (size_s rfl) (fun _ _ _ h => h) (fun K hK => ?_)
        go_simp
        refine hK _ ?_
        clear hK K
        refine c_nil ?_
        refine p_nilC ?_
        refine p_stepC rfl ?_
        go_wp2_with (first | (go_at_call 33; refine Calls.mono (HAT.out _) ?_; rintro e wa ⟨rfl, hb⟩))
        have Swa : Hid (Below wr.drew.heap.size wr.drew wa) := hb
        clear hb
        refine And.intro (fun _ => And.intro (Blk.below HSV.out Swa.out HZd.out.2) (Blk.below HXd.out Swa.out HZd.out.1)) ?_
        refine p_stepC rfl ?_
        go_wp2_with (first | (go_at_call 31; refine Calls.mono (HSN.out _) ?_; rintro e wb ⟨rfl, hb⟩))
        have Swb : Hid (Below wr.drew.heap.size wr.drew wb) := Below.trans Swa.out (hb.mono Swa.out.size)
        clear hb
        refine And.intro (fun _ => And.intro (Blk.below HSV.out Swb.out HZd.out.2) (Blk.below HXd.out Swb.out HZd.out.1)) ?_
        refine p_stepC rfl ?_
        go_wp2_with fail
        refine And.intro (fun _ => And.intro (Blk.below HSV.out Swb.out HZd.out.2) (Blk.below HXd.out Swb.out HZd.out.1)) ?_
        refine p_stepC rfl ?_
        go_wp2_with (first | (go_at_call 30; refine Calls.mono (HWT.out _) ?_; rintro e wc ⟨rfl, hb⟩))
        have Swc : Hid (Below wr.drew.heap.size wr.drew wc) := Below.trans Swb.out (hb.mono Swb.out.size)
        clear hb
        refine And.intro (fun _ => And.intro (Blk.below HSV.out Swc.out HZd.out.2) (Blk.below HXd.out Swc.out HZd.out.1)) ?_
        refine p_stepC rfl ?_
        go_wp2_with fail
        refine And.intro (fun _ => And.intro (Blk.below HSV.out Swc.out HZd.out.2) (Blk.below HXd.out Swc.out HZd.out.1)) ?_
        refine p_stepC rfl ?_
        go_wp2_with fail
        refine And.intro (fun _ => And.intro (Blk.below HSV.out Swc.out HZd.out.2) (Blk.below HXd.out Swc.out HZd.out.1)) ?_
        have hsc := Blk.below HSV.out Swc.out HZd.out.2
        have HBc := Lib.hid hsc
        rw [HA.out] at hsc
        have HSC := Lib.hid hsc
        clear hsc
        refine p_stepC rfl ?_
        go_wp2_with (first | refine vec_store rfl 33 _ _ rfl s rfl z0 z1 z2 z3 rfl q0 q1 q2 q3 _ _ HSC.out Try.size_v ?_)
        intro wd AD UD
        have HBD : Hid (Blk wd s (sv { G with W := W, E := E', A := [z0, z1, z2, z3] })) := AD
        have HSc : Hid (Sh wc s { G with W := W, E := E' }) := HSd.out.below (fun k hk => (HBd.out k hk).2) Swc.out
        have HSD : Hid (Sh wd s { G with W := W, E := E', A := [z0, z1, z2, z3] }) := Sh.setA (G := { G with W := W, E := E' }) HSc.out HBD.out UD rfl
        have HTD : Hid (Turn (G.bl s) w wd) := (HTd.out.trans (Turn.of_below (B := G.bl s) Swc.out) (fun x hx => .inl hx)).trans (Turn.of_upd UD) (fun x hx => .inl (by simp at hx; rw [hx]; exact mem_s G s))
        have HND : Hid (∀ k ∈ ({ G with W := W, E := E', A := [z0, z1, z2, z3] } : Gm).bl s, (k ∈ G.bl s ∨ w.heap.size ≤ k) ∧ k < wd.heap.size) := fun k hk => ⟨(HBd.out k hk).1, by rw [UD.size]; exact Nat.lt_of_lt_of_le (HBd.out k hk).2 Swc.out.size⟩
        refine And.intro (fun h9 => absurd h9 (by decide)) ?_
        refine p_endC ?_
        go_wp2_with fail
        go_ret
        exact ⟨rfl, E', HSD.out, HVE.out, HTD.out, HND.out⟩
      · have ipn : ¬ (pA : Int) < (pN : Int) := by omega
        obtain rfl : pA = pM := by rw [← HPM.out]; omega
        refine region_pickC (fun u => Blk u s ([Value.pointer (some ⟨G.lb, 0, none⟩), .map (some G.mb)] ++ ks .u64 G.A) ∧ Blk u w1.heap.size (ks .u64 [a0, a1, a2, a3] ++ [Value.int .i64 d, .slice sa j cap])) 19 [0, 1, 2, 3, 4, 5, 6, 7, 8, 9, 10, 12, 13] [11, 14, 15, 16, 17, 18, 19] Try.mixed (by kernel_rfl) rfl (by kernel_rfl) ⟨HSV.out, HXd.out⟩ ?_
        refine p_readC rfl ?_
        refine c_move rfl _ rfl (.pointer (some ⟨s, 0, none⟩)) rfl (fun _ _ _ h => h) (fun K hK => ?_)
        go_simp
        refine hK _ ?_
        clear hK K
        refine c_nil ?_
        refine p_readC rfl ?_
        refine c_move rfl _ rfl (.pointer (some ⟨s, 0, none⟩)) rfl (fun _ _ _ h => h) (fun K hK => ?_)
        go_simp
        refine hK _ ?_
        clear hK K
        refine c_nil ?_
        refine p_readC rfl ?_
        refine c_value rfl (.pointer (some ⟨s, 0, none⟩)) (fun u hu => by go_simp) (fun _ _ _ h => h) (fun K hK => ?_)
        go_simp
        refine hK _ ?_
        clear hK K
        refine c_nil ?_
        refine p_readC rfl ?_
        refine c_value rfl (.pointer (some ⟨s, 2, none⟩)) (fun u hu => by go_simp) (fun _ _ _ h => h) (fun K hK => ?_)
        go_simp
        refine hK _ ?_
        clear hK K
        refine c_nil ?_
        refine p_readC rfl ?_
        refine c_mid_load rfl 33 _ rfl s 2 rfl (ks .u64 G.A) (fun u hu => rng2 hu.1) _ Try.underlying33 rfl (by rw [ks_length]; exact HSVZ.out) (fun _ _ _ h => h) (fun K hK => ?_)
        go_simp
        refine hK _ ?_
        clear hK K
        refine c_nil ?_
        refine p_readC rfl ?_
        refine c_move rfl _ rfl (.int .i64 d) rfl (fun _ _ _ h => h) (fun K hK => ?_)
        go_simp
        refine hK _ ?_
        clear hK K
        refine c_nil ?_
        refine p_readC rfl ?_
        refine c_move rfl _ rfl (.pointer (some ⟨s, 0, none⟩)) rfl (fun _ _ _ h => h) (fun K hK => ?_)
        go_simp
        refine hK _ ?_
        clear hK K
        refine c_nil ?_
        refine p_readC rfl ?_
        refine c_value rfl (.pointer (some ⟨s, 0, none⟩)) (fun u hu => by go_simp) (fun _ _ _ h => h) (fun K hK => ?_)
        go_simp
        refine hK _ ?_
        clear hK K
        refine c_nil ?_
        refine p_readC rfl ?_
        refine c_value rfl (.pointer (some ⟨s, 2, none⟩)) (fun u hu => by go_simp) (fun _ _ _ h => h) (fun K hK => ?_)
        go_simp
        refine hK _ ?_
        clear hK K
        refine c_nil ?_
        refine p_readC rfl ?_
        refine c_mid_load rfl 33 _ rfl s 2 rfl (ks .u64 G.A) (fun u hu => rng2 hu.1) _ Try.underlying33 rfl (by rw [ks_length]; exact HSVZ.out) (fun _ _ _ h => h) (fun K hK => ?_)
        go_simp
        refine hK _ ?_
        clear hK K
        refine c_nil ?_
        refine p_readC rfl ?_
        refine c_move rfl _ rfl (.int .i64 d) rfl (fun _ _ _ h => h) (fun K hK => ?_)
        go_simp
        refine hK _ ?_
        clear hK K
        refine c_nil ?_
        refine p_readC rfl ?_
        refine c_value rfl (.pointer (some ⟨w1.heap.size, 0, none⟩)) (fun u hu => by go_simp) (fun _ _ _ h => h) (fun K hK => ?_)
        go_simp
        refine hK _ ?_
        clear hK K
        refine c_nil ?_
        refine p_readC rfl ?_
        refine c_mid_load rfl 35 _ rfl w1.heap.size 0 rfl (ks .u64 [a0, a1, a2, a3] ++ [Value.int .i64 d]) (fun u hu => preb (vs := [.slice sa j cap]) (tx_stamp hu.2)) _ Try.underlying35 rfl (size_s rfl) (fun _ _ _ h => h) (fun K hK => ?_)
        go_simp
        refine hK _ ?_
        clear hK K
        refine c_nil ?_
        refine p_nilC ?_
        refine p_stepC rfl ?_
        go_wp2_with (first | (go_at_call 33; refine Calls.mono (HAT.out _) ?_; rintro e wa ⟨rfl, hb⟩))
        have Swa : Hid (Below wr.drew.heap.size wr.drew wa) := hb
        clear hb
        refine And.intro (fun _ => And.intro (Blk.below HSV.out Swa.out HZd.out.2) (Blk.below HXd.out Swa.out HZd.out.1)) ?_
        refine p_stepC rfl ?_
        go_wp2_with (first | (go_at_call 31; refine Calls.mono (HSN.out _) ?_; rintro e wb ⟨rfl, hb⟩))
        have Swb : Hid (Below wr.drew.heap.size wr.drew wb) := Below.trans Swa.out (hb.mono Swa.out.size)
        clear hb
        refine And.intro (fun _ => And.intro (Blk.below HSV.out Swb.out HZd.out.2) (Blk.below HXd.out Swb.out HZd.out.1)) ?_
        refine p_stepC rfl ?_
        go_wp2_with fail
        refine And.intro (fun _ => And.intro (Blk.below HSV.out Swb.out HZd.out.2) (Blk.below HXd.out Swb.out HZd.out.1)) ?_
        refine p_stepC rfl ?_
        go_wp2_with (first | (go_at_call 30; refine Calls.mono (HWT.out _) ?_; rintro e wc ⟨rfl, hb⟩))
        have Swc : Hid (Below wr.drew.heap.size wr.drew wc) := Below.trans Swb.out (hb.mono Swb.out.size)
        clear hb
        refine And.intro (fun _ => And.intro (Blk.below HSV.out Swc.out HZd.out.2) (Blk.below HXd.out Swc.out HZd.out.1)) ?_
        refine p_stepC rfl ?_
        go_wp2_with fail
        refine And.intro (fun _ => And.intro (Blk.below HSV.out Swc.out HZd.out.2) (Blk.below HXd.out Swc.out HZd.out.1)) ?_
        refine p_stepC rfl ?_
        go_wp2_with fail
        refine And.intro (fun _ => And.intro (Blk.below HSV.out Swc.out HZd.out.2) (Blk.below HXd.out Swc.out HZd.out.1)) ?_
        have hsc := Blk.below HSV.out Swc.out HZd.out.2
        have HBc := Lib.hid hsc
        rw [HA.out] at hsc
        have HSC := Lib.hid hsc
        clear hsc
        refine p_stepC rfl ?_
        go_wp2_with (first | refine vec_store rfl 33 _ _ rfl s rfl z0 z1 z2 z3 rfl q0 q1 q2 q3 _ _ HSC.out Try.size_v ?_)
        intro wd AD UD
        have HBD : Hid (Blk wd s (sv { G with W := W, E := E', A := [z0, z1, z2, z3] })) := AD
        have HSc : Hid (Sh wc s { G with W := W, E := E' }) := HSd.out.below (fun k hk => (HBd.out k hk).2) Swc.out
        have HSD : Hid (Sh wd s { G with W := W, E := E', A := [z0, z1, z2, z3] }) := Sh.setA (G := { G with W := W, E := E' }) HSc.out HBD.out UD rfl
        have HTD : Hid (Turn (G.bl s) w wd) := (HTd.out.trans (Turn.of_below (B := G.bl s) Swc.out) (fun x hx => .inl hx)).trans (Turn.of_upd UD) (fun x hx => .inl (by simp at hx; rw [hx]; exact mem_s G s))
        have HND : Hid (∀ k ∈ ({ G with W := W, E := E', A := [z0, z1, z2, z3] } : Gm).bl s, (k ∈ G.bl s ∨ w.heap.size ≤ k) ∧ k < wd.heap.size) := fun k hk => ⟨(HBd.out k hk).1, by rw [UD.size]; exact Nat.lt_of_lt_of_le (HBd.out k hk).2 Swc.out.size⟩
        refine And.intro (fun h9 => absurd h9 (by decide)) ?_
        refine p_endC ?_
        go_wp2_with fail
        go_ret
        exact ⟨rfl, E', HSD.out, HVE.out, HTD.out, HND.out⟩
end Go.Proofs.Ytohcdonmdnjgoaa.Sd
