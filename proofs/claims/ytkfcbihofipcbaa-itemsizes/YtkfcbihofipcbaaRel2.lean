/- What operations of a drawn region yield: rows of bytes, structs in memory, rows of writes, transactions. -/
import Derived.Test.YtkfcbihofipcbaaRel

import Derived.Test.YtkfcbihofipcbaaStrClone

import Derived.Test.YtkfcbihofipcbaaItemTx

namespace Go.Proofs.Ytkfcbihofipcbaa

open Go.RowKit

set_option linter.unusedVariables false

set_option linter.unusedSimpArgs false

set_option maxRecDepth 100000

/-- bytes in a row of their own -/
def Spc.bytes (l : List UInt8) : Spc where
  S v := ∃ b, v = .slice (some ⟨b, 0, none⟩) l.length l.length
  T u v := ∃ b, v = .slice (some ⟨b, 0, none⟩) l.length l.length ∧ b < u.heap.size ∧ Arr .u8 u b (Mc.nb l)
  st u u' v hb := fun ⟨b, hv, hlt, ha⟩ => ⟨b, hv, Nat.lt_of_lt_of_le hlt hb.size, ha.below hb hlt⟩
  w0 := .slice (some ⟨0, 0, none⟩) l.length l.length
  hw := ⟨0, rfl⟩
/-- a struct in a block of its own -/
def Spc.blk (base : Nat) (vs : List Value) : Spc where
  S v := ∃ b, v = .pointer (some ⟨b, 0, none⟩)
  T u v := ∃ b, v = .pointer (some ⟨b, 0, none⟩) ∧ base ≤ b ∧ b < u.heap.size ∧ Blk u b vs
  st u u' v hb := fun ⟨b, hv, hB, hlt, ha⟩ => ⟨b, hv, hB, Nat.lt_of_lt_of_le hlt hb.size, ha.below hb hlt⟩
  w0 := .pointer (some ⟨0, 0, none⟩)
  hw := ⟨0, rfl⟩
/-- a row of writes -/
def Spc.ow (t : TypeId) (base : Nat) (L : List I.Wt) : Spc where
  S v := ∃ a cap, v = .slice a L.length cap
  T u v := It.OW t u base v L
  st u u' v hb := fun h => h.below hb
  w0 := .slice none L.length 0
  hw := ⟨none, 0, rfl⟩
/-- a transaction, its writes in a row of their own -/
def Spc.tx (t : TypeId) (base : Nat) (a : List Nat) (d : Int) (L : List I.Wt) : Spc where
  S v := ∃ s cap, v = It.TV a d (.slice s L.length cap)
  T u v := ∃ v', v = It.TV a d v' ∧ It.OW t u base v' L
  st u u' v hb := fun ⟨v', hv, h⟩ => ⟨v', hv, h.below hb⟩
  w0 := It.TV a d (.slice none L.length 0)
  hw := ⟨none, 0, rfl⟩
section

variable {P : Program} {ops : Array Oper} {rest : List Oper} {o : Oper} {a : Act} {C : World → Prop} {Lq : Act → List (World → Prop) → Prop} {ts : List Spc} {Fs : List (World → Prop)}

theorem r_new (hgd : o.guard = none) (t : TypeId) (ho : o.op = .alloc t) {vs : List Value} {base : Nat} (hz : (P.info? t).map (fun i => (i.zero, i.size)) = some (some (.agg vs.toArray), vs.length)) (hbase : ∀ u, C u → base ≤ u.heap.size)
    (h : ∀ v, (Spc.blk base vs).S v → ∀ K : Act → Prop, (∀ a, RW P ops C Lq rest ts (Fs ++ [fun u => (Spc.blk base vs).T u v]) a → K a) → K (a.put o.dst v)) : RW P ops C Lq (o :: rest) (Spc.blk base vs :: ts) Fs a := by
  refine r_any (wanted_none hgd) (fun u hu hn => ?_) h
  unfold execOp
  simp only [ho, Sem.run_bind, Instr.alloc, (zero_of_info hz).1, newVar, newRow, run_newObj_alloc, Sem.run_pure, Result.andThen_ok]
  exact ⟨(Below.refl _ _).alloc (Nat.le_refl _) _, ⟨_, rfl⟩, ⟨_, rfl, hbase u hu, by show _ < (u.heap.push _).size; simp, Blk.of_row (heap_alloc_last u _)⟩⟩
/-- a row of bytes is made -/
theorem r_row (hgd : o.guard = none) {l : List UInt8} (t : TypeId) (hr : ∀ u, C u → (execOp a.eval o).run P u = .ok (.value (.slice (some ⟨u.heap.size, 0, none⟩) l.length l.length)) (u.alloc (.cells (ks .u8 (Mc.nb l)).toArray t)))
    (h : ∀ v, (Spc.bytes l).S v → ∀ K : Act → Prop, (∀ a, RW P ops C Lq rest ts (Fs ++ [fun u => (Spc.bytes l).T u v]) a → K a) → K (a.put o.dst v)) : RW P ops C Lq (o :: rest) (Spc.bytes l :: ts) Fs a := by
  refine r_any (wanted_none hgd) (fun u hu hn => ?_) h
  rw [hr u hu]
  exact ⟨(Below.refl _ _).alloc (Nat.le_refl _) _, ⟨_, rfl⟩, ⟨_, rfl, by show _ < (u.heap.push _).size; simp, Arr.new .u8 u _ t⟩⟩
end

section

variable {ops : Array Oper} {rest : List Oper} {o : Oper} {a : Act} {C : World → Prop} {Lq : Act → List (World → Prop) → Prop} {ts : List Spc} {Fs : List (World → Prop)}

/-- make([]byte, n) -/
theorem r_make (hgd : o.guard = none) (x y : Operand) (ho : o.op = .makeSlice 76 x y) (n : Nat) (hx : a.eval x = .int .i64 (n : Int)) (hy : a.eval y = .int .i64 (n : Int)) (hn : n ≤ 281474976710656) {l : List UInt8} (hl : List.replicate n 0 = l)
    (h : ∀ v, (Spc.bytes l).S v → ∀ K : Act → Prop, (∀ a, RW Try.prog ops C Lq rest ts (Fs ++ [fun u => (Spc.bytes l).T u v]) a → K a) → K (a.put o.dst v)) : RW Try.prog ops C Lq (o :: rest) (Spc.bytes l :: ts) Fs a := by
  subst hl
  refine r_any (wanted_none hgd) (fun u hu _ => ?_) h
  obtain ⟨wm, hr, hrow, hb, hz⟩ := Mc.make_row u n hn
  have e : (execOp a.eval o).run Try.prog u = .ok (.value (.slice (some ⟨u.heap.size, 0, none⟩) n n)) wm := by
    unfold execOp
    simp only [ho, hx, hy, Sem.run_bind, hr, Result.andThen_ok, Sem.run_pure]
  rw [e]
  refine ⟨hb, ⟨_, by rw [List.length_replicate]⟩, ⟨_, by rw [List.length_replicate], by omega, ?_⟩⟩
  rw [Mc.nb_zero]
  exact Mc.Arr.of_row hrow
/-- string(b), the row made by operation j -/
theorem r_str (hgd : o.guard = none) (x : Operand) (ho : o.op = .convert 76 9 x) (j : Nat) (hj : o.after.toList.any (fun e => Region.binds .any e && e.on == j) = true) (l : List UInt8) (v : Value) (hF : Fs[j]? = some (fun u => (Spc.bytes l).T u v)) (hx : a.eval x = v) {s : ByteArray} (hs : P.S l = s)
    (h : ∀ K : Act → Prop, (∀ a, RW Try.prog ops C Lq rest ts (Fs ++ [fun _ => True]) a → K a) → K (a.put o.dst (.string s))) : RW Try.prog ops C Lq (o :: rest) (Spc.eq (.string s) :: ts) Fs a := by
  subst hs
  refine r_value hgd (fun u hu hn => ?_) h
  obtain ⟨b, rfl, hlt, ha⟩ := hn.get j hj _ hF
  have hcv := run_convert_bytes_back (P := Try.prog) u 76 9 5 ⟨b, 0, none⟩ l.length l Try.underlying76 Try.underlying5 Try.underlying9 (fun j hj => by
    rw [Addr.add_mid]
    have c := Arr.cell ha j (by rw [Mc.nb_length]; exact hj)
    rw [Mc.nb_getD l j l[j] (by simp [hj])] at c
    rw [Nat.zero_add]
    exact c)
  unfold execOp
  simp only [ho, hx, Sem.run_bind, hcv, Result.andThen_ok, Sem.run_pure]
  rfl
end

end Go.Proofs.Ytkfcbihofipcbaa
