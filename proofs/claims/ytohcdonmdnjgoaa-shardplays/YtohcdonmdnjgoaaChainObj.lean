/- A chain in memory: a block of one slice, whose row is the chain's own; only these two turn. -/
import Derived.Test.YtohcdonmdnjgoaaChainStep

namespace Go.Proofs.Ytohcdonmdnjgoaa.Ch

open Go.RowKit Go.Proofs.Ytohcdonmdnjgoaa.Vc Go.Proofs.Ytohcdonmdnjgoaa.Sp Go.Proofs.Ytohcdonmdnjgoaa.Rw

set_option linter.unusedVariables false

/-- of what was there only block c and block o may have turned -/
structure Tw (c : Nat) (o : Option Nat) (w w' : World) : Prop where
  os : w'.os = w.os
  tape : w'.tape = w.tape
  output : w'.output = w.output
  size : w.heap.size ≤ w'.heap.size
  far : ∀ k, k < w.heap.size → k ≠ c → o ≠ some k → w'.heap[k]? = w.heap[k]?
theorem Tw.refl (c : Nat) (o : Option Nat) (w : World) : Tw c o w w := ⟨rfl, rfl, rfl, Nat.le_refl _, fun _ _ _ _ => rfl⟩
theorem Tw.of_grown {c : Nat} {o : Option Nat} {w w' : World} (h : w.grownBy w' o) : Tw c o w w' := ⟨h.os, h.tape, h.output, h.size, fun k hk _ hn => h.block k hk (fun e => hn e.symm)⟩
theorem Tw.of_below {c : Nat} {o : Option Nat} {w w' : World} (h : Below w.heap.size w w') : Tw c o w w' := ⟨h.os, h.tape, h.output, h.size, fun k hk _ _ => h.block k hk⟩
theorem Tw.of_upd {c : Nat} {o : Option Nat} {w w' : World} (h : Upd c w w') : Tw c o w w' := ⟨h.os, h.tape, h.output, Nat.le_of_eq h.size.symm, fun k _ hn _ => h.far k hn⟩
theorem Tw.trans {c : Nat} {o : Option Nat} {u v w : World} (h : Tw c o u v) (k : Tw c o v w) : Tw c o u w :=
  ⟨k.os.trans h.os, k.tape.trans h.tape, k.output.trans h.output, Nat.le_trans h.size k.size, fun i hi hc hn => (k.far i (Nat.lt_of_lt_of_le hi h.size) hc hn).trans (h.far i hi hc hn)⟩
/-- two deeds, one behind the other: the row is the same, or a new one -/
theorem Tw.next {c : Nat} {v v' : Value} {w w' w'' : World} (h : Tw c v.ownBlock w w') (hn : Nw w v v') (k : Tw c v'.ownBlock w' w'') : Tw c v.ownBlock w w'' :=
  ⟨k.os.trans h.os, k.tape.trans h.tape, k.output.trans h.output, Nat.le_trans h.size k.size, fun i hi hc hne => (k.far i (Nat.lt_of_lt_of_le hi h.size) hc (hn.ne hi hne)).trans (h.far i hi hc hne)⟩
theorem Tw.below {c B : Nat} {o : Option Nat} {w w' : World} (h : Tw c o w w') (hc : B ≤ c) (ho : ∀ g, o = some g → B ≤ g) (hw : B ≤ w.heap.size) : Below B w w' :=
  ⟨h.os, h.tape, h.output, h.size, fun k hk => h.far k (by omega) (by omega) (fun e => by have := ho k e; omega)⟩
theorem Tw.cell {c : Nat} {o : Option Nat} {w w' : World} (h : Tw c o w w') {b p : Nat} (hb : b < w.heap.size) (hc : b ≠ c) (ho : o ≠ some b) : w'.cell? ⟨b, p, none⟩ = w.cell? ⟨b, p, none⟩ := World.cell?_of_block (w := w) (h.far b hb hc ho)
theorem Tw.frozen {c : Nat} {o : Option Nat} {w w' : World} (h : Tw c o w w') {b p : Nat} (hb : b < w.heap.size) (hc : b ≠ c) (ho : o ≠ some b) : w'.frozen? ⟨b, p, none⟩ = w.frozen? ⟨b, p, none⟩ := World.frozen?_of_block (w := w) (h.far b hb hc ho)
theorem Tw.blk {c : Nat} {o : Option Nat} {w w' : World} (h : Tw c o w w') {b : Nat} {vs : List Value} (hB : Blk w b vs) (hb : b < w.heap.size) (hc : b ≠ c) (ho : o ≠ some b) : Blk w' b vs :=
  ⟨fun j v hv => by rw [h.cell hb hc ho]; exact hB.1 j v hv, fun j hj => by rw [h.cell hb hc ho, h.frozen hb hc ho]; exact hB.2 j hj⟩
theorem blk_lt {w : World} {b : Nat} {v : Value} {vs : List Value} (h : Blk w b (v :: vs)) : b < w.heap.size := World.block_lt_of_cell? w _ (h.cell 0 v rfl)
theorem blk_grown {w w' : World} {o : Option Nat} (h : w.grownBy w' o) {b : Nat} {vs : List Value} (hB : Blk w b vs) (hb : b < w.heap.size) (ho : o ≠ some b) : Blk w' b vs := (Tw.of_grown (c := w.heap.size) h).blk hB hb (by omega) ho
section

variable {α : Type}

theorem Tw.row {β : Type} {K : Kd β} {t : TypeId} {c base : Nat} {o : Option Nat} {w w' : World} {v : Value} {L : List β} (h : Tw c o w w') (hL : OR K t w base v L) (hc : v.ownBlock ≠ some c) (ho : ∀ g, v.ownBlock = some g → o ≠ some g) : OR K t w' base v L := by
  obtain ⟨⟨hl, h0 | ⟨g, cap, cur, hv, hB, hh, r⟩⟩⟩ := hL
  · exact ⟨⟨hl, .inl h0⟩⟩
  · have hg : g < w.heap.size := (Array.getElem?_eq_some_iff.1 hh).1
    refine ⟨⟨hl, .inr ⟨g, cap, cur, hv, hB, ?_, r⟩⟩⟩
    rw [h.far g hg (fun e => hc (by rw [hv, ← e]; rfl)) (ho g (by rw [hv]; rfl))]
    exact hh
theorem Tw.isR {β : Type} {K : Kd β} {c : Nat} {o : Option Nat} {w w' : World} {v : Value} {L : List β} (h : Tw c o w w') (hL : IsR K w v L) (hc : v.ownBlock ≠ some c) (ho : ∀ g, v.ownBlock = some g → o ≠ some g) : IsR K w' v L := by
  obtain ⟨a, cap, hv, h1, h2, h3⟩ := hL.is
  refine ⟨a, cap, hv, h1, h2, fun hn => ?_⟩
  obtain ⟨b, off, ha, hlt, hW⟩ := h3 hn
  refine ⟨b, off, ha, Nat.lt_of_lt_of_le hlt h.size, fun i x hx j u hu => ?_⟩
  rw [h.cell hlt (fun e => hc (by rw [hv, ha, ← e]; rfl)) (ho b (by rw [hv, ha]; rfl))]
  exact hW i x hx j u hu
/-- the chain at block c: its slice v, its versions L -/
structure Ch (F : Vl α) (T : TypeId) (w : World) (c : Nat) (v : Value) (L : List (C.Vr α)) : Prop where
  blk : Blk w c [v]
  own : OR (vk F) T w (c + 1) v L
  up : C.Up L
variable {F : Vl α} {T : TypeId}

theorem Ch.lt {w : World} {c : Nat} {v : Value} {L : List (C.Vr α)} (h : Ch F T w c v L) : c < w.heap.size := blk_lt h.blk
theorem Ch.cell {w : World} {c : Nat} {v : Value} {L : List (C.Vr α)} (h : Ch F T w c v L) : w.cell? ⟨c, 0, none⟩ = some v := h.blk.cell 0 v rfl
theorem Ch.free {w : World} {c : Nat} {v : Value} {L : List (C.Vr α)} (h : Ch F T w c v L) : w.frozen? ⟨c, 0, none⟩ = false := h.blk.free 0 (by simp)
theorem Ch.ne {w : World} {c : Nat} {v : Value} {L : List (C.Vr α)} (h : Ch F T w c v L) : v.ownBlock ≠ some c := fun e => by have := (h.own.lt e).1; omega
theorem Ch.below {w w' : World} {c : Nat} {v : Value} {L : List (C.Vr α)} (h : Ch F T w c v L) (hb : Below w.heap.size w w') : Ch F T w' c v L := ⟨h.blk.below hb h.lt, h.own.below hb, h.up⟩
theorem Ch.base {w : World} {c : Nat} {v : Value} {L : List (C.Vr α)} (h : Ch F T w c v L) {B : Nat} (hB : B ≤ c) : ∀ g, v.ownBlock = some g → B ≤ g := fun g hg => by have := (h.own.lt hg).1; omega
/-- another chain stays -/
theorem Ch.tw {w w' : World} {c c' : Nat} {o : Option Nat} {v : Value} {L : List (C.Vr α)} (h : Ch F T w c v L) (ht : Tw c' o w w') (h1 : c ≠ c') (h2 : o ≠ some c) (h3 : v.ownBlock ≠ some c') (h4 : ∀ g, v.ownBlock = some g → o ≠ some g) : Ch F T w' c v L :=
  ⟨ht.blk h.blk h.lt h1 h2, ht.row h.own h3 h4, h.up⟩
end

end Go.Proofs.Ytohcdonmdnjgoaa.Ch
