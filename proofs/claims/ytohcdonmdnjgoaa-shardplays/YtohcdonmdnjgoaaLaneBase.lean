/- A lane in memory: a struct of one channel; what is in it; only its channel turns. -/
import Derived.Test.YtohcdonmdnjgoaaFrame

import Derived.Conc.LoneCalls

import Derived.Conc.LoneSelect

import Derived.Conc.LoneSelectN

import Derived.KernelRfl

import Derived.Laws.Rows

namespace Go.Proofs.Ytohcdonmdnjgoaa

open Go.Conc Go.RowKit

set_option linter.unusedVariables false

set_option linter.unusedSimpArgs false

/-- the lane at block b, whose channel is block c, has room for cap and holds l, the eldest first -/
structure Ln (w : World) (b c cap : Nat) (l : List Value) : Prop where
  cell : w.cell? ⟨b, 0, none⟩ = some (.chan (some c))
  chan : ∃ s r, w.heap[c]? = some (.chan cap l.toArray false s r false)
/-- of what was there only block c may have turned; there may be more behind it -/
structure But (c : Nat) (w w' : World) : Prop where
  os : w'.os = w.os
  tape : w'.tape = w.tape
  output : w'.output = w.output
  size : w.heap.size ≤ w'.heap.size
  far : ∀ k, k < w.heap.size → k ≠ c → w'.heap[k]? = w.heap[k]?
theorem But.refl (c : Nat) (w : World) : But c w w := ⟨rfl, rfl, rfl, Nat.le_refl _, fun _ _ _ => rfl⟩
theorem But.trans {c : Nat} {u v w : World} (h : But c u v) (k : But c v w) : But c u w :=
  ⟨k.os.trans h.os, k.tape.trans h.tape, k.output.trans h.output, Nat.le_trans h.size k.size, fun i hi hn => (k.far i (Nat.lt_of_lt_of_le hi h.size) hn).trans (h.far i hi hn)⟩
theorem But.below {c B : Nat} {w w' : World} (h : But c w w') (hB : B ≤ c) (hw : B ≤ w.heap.size) : Below B w w' :=
  ⟨h.os, h.tape, h.output, h.size, fun k hk => h.far k (by omega) (by omega)⟩
theorem But.of_below {c : Nat} {w w' : World} (h : Below w.heap.size w w') : But c w w' :=
  ⟨h.os, h.tape, h.output, h.size, fun k hk _ => h.block k hk⟩
theorem But.cell {c : Nat} {w w' : World} (h : But c w w') {b o : Nat} (hb : b < w.heap.size) (hc : b ≠ c) : w'.cell? ⟨b, o, none⟩ = w.cell? ⟨b, o, none⟩ :=
  World.cell?_of_block (w := w) (h.far b hb hc)
theorem lt_of_heap {w : World} {c : Nat} {o : Obj} (h : w.heap[c]? = some o) : c < w.heap.size := (Array.getElem?_eq_some_iff.1 h).1
theorem cell_lt {w : World} {b o : Nat} {v : Value} (h : w.cell? ⟨b, o, none⟩ = some v) : b < w.heap.size := World.block_lt_of_cell? w _ h
theorem cell_ne {w : World} {b o c cap s r : Nat} {v : Value} {q : Array Value} (h : w.cell? ⟨b, o, none⟩ = some v) (hc : w.heap[c]? = some (.chan cap q false s r false)) : b ≠ c := by
  rintro rfl
  simp [World.cell?, hc] at h
theorem Ln.lt {w : World} {b c cap : Nat} {l : List Value} (h : Ln w b c cap l) : c < w.heap.size := by obtain ⟨_, s, r, h2⟩ := h; exact lt_of_heap h2
theorem Ln.blt {w : World} {b c cap : Nat} {l : List Value} (h : Ln w b c cap l) : b < w.heap.size := cell_lt h.1
theorem Ln.ne {w : World} {b c cap : Nat} {l : List Value} (h : Ln w b c cap l) : b ≠ c := by obtain ⟨h1, s, r, h2⟩ := h; exact cell_ne h1 h2
theorem Ln.far {w : World} {b c cap : Nat} {l : List Value} (h : Ln w b c cap l) {b' o : Nat} {v : Value} (hv : w.cell? ⟨b', o, none⟩ = some v) : b' ≠ c := by obtain ⟨h1, s, r, h2⟩ := h; exact cell_ne hv h2
/-- what is in memory beside the lane stays -/
theorem But.keep {w w' : World} {b c cap : Nat} {l : List Value} (h : But c w w') (hl : Ln w b c cap l) {b' o : Nat} {v : Value} (hv : w.cell? ⟨b', o, none⟩ = some v) : w'.cell? ⟨b', o, none⟩ = some v := by
  rw [h.cell (cell_lt hv) (hl.far hv)]; exact hv
/-- a lane stays, where another block alone turns -/
theorem Ln.but {w w' : World} {b c cap d : Nat} {l : List Value} (h : Ln w b c cap l) (hu : But d w w') (hb : b ≠ d) (hc : c ≠ d) : Ln w' b c cap l := by
  have hlt := h.lt
  have hbl := h.blt
  obtain ⟨h1, s, r, h2⟩ := h
  exact ⟨by rw [hu.cell hbl hb]; exact h1, s, r, by rw [hu.far c hlt hc]; exact h2⟩
theorem Ln.below {w w' : World} {b c cap B : Nat} {l : List Value} (h : Ln w b c cap l) (hu : Below B w w') (hb : b < B) (hc : c < B) : Ln w' b c cap l := by
  obtain ⟨h1, s, r, h2⟩ := h
  exact ⟨by rw [hu.cell (p := ⟨b, 0, none⟩) hb]; exact h1, s, r, by rw [hu.block c hc]; exact h2⟩
theorem But.setChan (w : World) (c cap : Nat) (q : Array Value) (s r : Nat) : But c w (w.setChan c cap q false s r false) :=
  ⟨rfl, rfl, rfl, by simp [World.setChan], fun k _ hk => by simp only [World.setChan]; rw [Array.getElem?_setIfInBounds_ne (by omega)]⟩
theorem Ln.set {w : World} {b c cap : Nat} {l : List Value} (h : Ln w b c cap l) (q : Array Value) (l' : List Value) (hq : q = l'.toArray) (s r : Nat) : Ln (w.setChan c cap q false s r false) b c cap l' := by
  subst hq
  have hn := h.ne
  have hb := h.blt
  have hc := h.lt
  obtain ⟨h1, s', r', h2⟩ := h
  exact ⟨by rw [(But.setChan w c cap _ s r).cell hb hn]; exact h1, s, r, heap_setChan w c cap _ false s r false hc⟩
theorem But.trans' {c : Nat} {w u u' : World} (h : But c w u) (k : u'.os = u.os ∧ u'.tape = u.tape ∧ u'.output = u.output ∧ u.heap.size ≤ u'.heap.size) (hf : ∀ k, k < w.heap.size → k ≠ c → u'.heap[k]? = w.heap[k]?) : But c w u' :=
  ⟨k.1.trans h.os, k.2.1.trans h.tape, k.2.2.1.trans h.output, Nat.le_trans h.size k.2.2.2, hf⟩
theorem But.grown {c : Nat} {w u u' : World} {row : Option Nat} (h : But c w u) (hg : u.grownBy u' row) (hr : ∀ k, row = some k → w.heap.size ≤ k) : But c w u' :=
  h.trans' ⟨hg.os, hg.tape, hg.output, hg.size⟩ (fun k hk hn => (hg.block k (Nat.lt_of_lt_of_le hk h.size) (fun e => by have := hr k e.symm; omega)).trans (h.far k hk hn))
theorem Ln.grown {w w' : World} {b c cap : Nat} {l : List Value} {row : Option Nat} (h : Ln w b c cap l) (hg : w.grownBy w' row) (hb : some b ≠ row) (hc : some c ≠ row) : Ln w' b c cap l := by
  have hlt := h.lt
  have hbl := h.blt
  obtain ⟨h1, s, r, h2⟩ := h
  exact ⟨hg.cell h1 hb, s, r, by rw [hg.block c hlt hc]; exact h2⟩
/-- block g is a row of the call's own: a slice at its head, of n with room for cap, holds xs -/
structure Own (w : World) (g : Nat) (e : TypeId) (n cap : Nat) (xs : List Value) : Prop where
  own : w.ownsRow g e 1 (.slice (some ⟨g, 0, none⟩) n cap) n xs
theorem Own.lt {w : World} {g : Nat} {e : TypeId} {n cap : Nat} {xs : List Value} (h : Own w g e n cap xs) : g < w.heap.size := (h.own.lt g rfl).2
theorem Own.cell {w : World} {g : Nat} {e : TypeId} {n cap : Nat} {xs : List Value} (h : Own w g e n cap xs) (j : Nat) (hj : j < n) : w.cell? ⟨g, j, none⟩ = xs[j]? := h.own.cellAt j (by omega)
/-- a row of the call's own stays, where only a channel turns -/
theorem Own.but {w w' : World} {b c cap g : Nat} {l : List Value} {e : TypeId} {n cp : Nat} {xs : List Value} (h : Own w g e n cp xs) (hl : Ln w b c cap l) (hu : But c w w') : Own w' g e n cp xs := by
  obtain ⟨h1, h2⟩ := h.own
  refine ⟨h1, ?_⟩
  rcases h2 with h2 | ⟨g', cp', cur, hv, hg, hh, r⟩
  · exact .inl h2
  · refine .inr ⟨g', cp', cur, hv, hg, ?_, r⟩
    obtain ⟨_, s, r', h2⟩ := hl
    have hne : g' ≠ c := by rintro rfl; rw [hh] at h2; cases h2
    rw [hu.far g' (lt_of_heap hh) hne]; exact hh
def slen : Value → Nat
  | .slice _ n _ => n
  | _ => 0
end Go.Proofs.Ytohcdonmdnjgoaa
