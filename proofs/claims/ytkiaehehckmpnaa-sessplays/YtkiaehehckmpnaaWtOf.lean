/- Writes as the document's: the law's own helper. -/
import Derived.Test.YtkiaehehckmpnaaWt

import Derived.Test.YtkiaehehckmpnaaStampOf

import Derived.Deep.RegionHeld3

import Derived.Test.YtkiaehehckmpnaaMem

import Derived.StillTail

import Derived.Test.YtkiaehehckmpnaaStrClone

import Derived.Test.YtkiaehehckmpnaaStampC

namespace Go.Proofs.Ytkiaehehckmpnaa.It

open Go.RowKit Go.Proofs.Ytkiaehehckmpnaa.Vc Go.Proofs.Ytkiaehehckmpnaa.Sp

set_option linter.unusedVariables false

set_option linter.unusedSimpArgs false

set_option maxRecDepth 100000

section

variable {ops : Array Oper} {rest : List Oper} {o : Oper} {a : Act} {Q : Exit → Act → World → Prop} {K : Act → World → Prop} {E : Prop}

/-- append(writes, w) at an operation of a region -/
theorem step_append {t ts : TypeId} (hu : Try.prog.underlying ts = some (.slice t)) (hinf : (Try.prog.info? t).map (fun i => (i.zero, i.size, i.bytes)) = some (some (.agg (wc I.none_).toArray), 4, 56)) (w : World) (hgd : o.guard = none) (s x : Operand)
    (ho : o.op = .call { callee := .builtin .append, args := #[s, x], argTypes := #[ts, ts] })
    (base : Nat) (v : Value) (L : List I.Wt) (hs : a.eval s = v) (hown : OW t w base v L) (g : Nat) (hx : a.eval x = .slice (some ⟨g, 0, none⟩) 1 1) (b : I.Wt)
    (hcell : w.rangeAt g 0 (wc b)) (hl : L.length < 1000000) (hbase : base ≤ w.heap.size)
    (h : ∀ v' w', OW t w' base v' (L ++ [b]) → Below base w w' → K (a.put o.dst v') w') : if Region.wanted o (yielded ops a.tmps) = true then o.wp Try.prog a w K Q else E := by
  have hw : Region.wanted o (yielded ops a.tmps) = true := by simp [Region.wanted, hgd]
  rw [if_pos hw]
  obtain ⟨i0, hi, hz0, hz1, hz2⟩ := info_parts hinf
  refine wp_append_own w s x ts ho base t i0 (.agg (wc I.none_).toArray) 4 56 hu hi hz0 hz1 hz2 rfl (by decide) v L.length (cellsW L) hs hown.own ⟨g, 0, none⟩ 1 1 (wc b) hx rfl ?_ ?_ (by unfold maxLen; omega) (by omega) hbase ?_
  · intro j u hj
    rw [Addr.add_mid]
    exact hcell j u hj
  · intro u hu
    simp only [wc, List.mem_cons, List.not_mem_nil, or_false] at hu
    rcases hu with rfl | rfl | rfl | rfl <;> rfl
  · intro v' w' h1 h2 _
    refine h v' w' ⟨?_⟩ ((Below.refl _ _).grown h2 hbase (fun k hk => (World.ownsRow.lt hown.own k hk).1))
    rw [List.length_append, cellsW_add]
    exact h1
end

theorem OW.alloc {t : TypeId} {w : World} {base : Nat} {v : Value} {L : List I.Wt} (h : OW t w base v L) (o : Obj) : OW t (w.alloc o) base v L := ⟨World.ownsRow.alloc h.own o⟩
theorem OW.drew {t : TypeId} {w : World} {base : Nat} {v : Value} {L : List I.Wt} (h : OW t w base v L) : OW t w.drew base v L := ⟨h.own⟩
theorem range_newW (w : World) (x : I.Wt) (cs : List Value) (t : TypeId) (h : cs = wc x) : (w.alloc (.cells cs.toArray t)).rangeAt w.heap.size 0 (wc x) := by
  subst h
  intro j v hv
  rw [cell_of_row _ _ (0 + j) _ t (0, 0) (heap_alloc_last w _), Nat.zero_add]
  simpa using hv
set_option maxHeartbeats 16000000 in
theorem refwrites_any (v : Value) (L : List I.Wt) (w : World) (hL : IsWs w v L) (hn : L.length < 1000000) :
    Calls Try.prog 21 #[v] w fun e w' => ∃ v', e = .returned v' ∧ OW 56 w' w.heap.size v' L ∧ Below w.heap.size w w' := by
  obtain ⟨sa, cap, rfl, hca, hma, _⟩ := hL.is
  obtain ⟨n, HN⟩ : ∃ n, Hid (L.length = n) := ⟨_, rfl⟩
  have HL := Lib.hid hL
  rw [HN.out] at HL hn
  rw [HN.out]
  have HO1 : Hid (OW 56 w w.heap.size (.slice none 0 0) (L.take 0)) := OW.nil _ _ _
  have HB1 : Hid (Below w.heap.size w w) := Below.refl _ _
  clear hL hca hma
  go_enter Try.func21, Try.ntmps21
  go_wp2_with fail
  go_loopw [3, 4] (fun t i wr => ∃ j : Nat, j ≤ n ∧ i = .int .i64 j ∧ Hid (OW 56 wr w.heap.size t (L.take j)) ∧ Hid (Below w.heap.size w wr)) (fun _ i _ => n - (intOf i).toNat)
  case atStart => exact ⟨0, by omega, rfl, HO1, HB1⟩
  case round =>
    obtain ⟨j, hj, rfl, HOr, HBr⟩ := hrel
    clear HB1 HO1
    by_cases hlt : j < n
    · have ilt : (j : Int) < (n : Int) := by omega
      obtain ⟨g, off, cap', hv, hg0, hrow⟩ := IsWs.at HL.out j (by rw [HN.out]; exact hlt)
      obtain rfl : sa = some ⟨g, off, none⟩ := by injection hv
      clear hv
      have hts : L.take (j + 1) = L.take j ++ [L.getD j I.none_] := by
        rw [List.take_succ_eq_append_getElem (by rw [HN.out]; exact hlt), List.getD_eq_getElem?_getD, List.getElem?_eq_getElem (by rw [HN.out]; exact hlt)]; rfl
      obtain ⟨x, HX⟩ : ∃ x, Hid (L.getD j I.none_ = x) := ⟨_, rfl⟩
      rw [HX.out] at hrow hts
      obtain ⟨xb, xk, xv, xg⟩ := x
      have HTS := Lib.hid hts
      have hlen : (L.take j).length < 1000000 := by rw [List.length_take]; omega
      have hix : ∀ w, (Instr.indexAt 58 (.slice (some ⟨g, off, none⟩) n cap) (.int .i64 (j : Int))).run Try.prog w = .ok (.pointer (some ⟨g, off + 4 * j, none⟩)) w := fun w => index_iw g off n cap j hlt w
      have HC : Hid (∀ u, Below w.heap.size w u → u.cell? ⟨g, off + 4 * j, none⟩ = some (.string xb) ∧ u.cell? ⟨g, off + 4 * j + 1, none⟩ = some (.string xk) ∧ u.cell? ⟨g, off + 4 * j + 2, none⟩ = some (.string xv) ∧ u.cell? ⟨g, off + 4 * j + 3, none⟩ = some (.bool xg)) := fun u hu => ⟨by rw [hu.cell (p := ⟨g, off + 4 * j, none⟩) hg0]; exact hrow 0 _ rfl, by rw [hu.cell (p := ⟨g, off + 4 * j + 1, none⟩) hg0]; exact hrow 1 _ rfl, by rw [hu.cell (p := ⟨g, off + 4 * j + 2, none⟩) hg0]; exact hrow 2 _ rfl, by rw [hu.cell (p := ⟨g, off + 4 * j + 3, none⟩) hg0]; exact hrow 3 _ rfl⟩
      have hbs := HBr.out.size
      have HD : Hid (wr.drew.cell? ⟨g, off + 4 * j, none⟩ = some (.string xb) ∧ wr.drew.cell? ⟨g, off + 4 * j + 1, none⟩ = some (.string xk) ∧ wr.drew.cell? ⟨g, off + 4 * j + 2, none⟩ = some (.string xv) ∧ wr.drew.cell? ⟨g, off + 4 * j + 3, none⟩ = some (.bool xg)) := HC.out _ (Below.drew HBr.out)
      have HDA : Hid (∀ X, (wr.alloc X).drew.cell? ⟨g, off + 4 * j, none⟩ = some (.string xb) ∧ (wr.alloc X).drew.cell? ⟨g, off + 4 * j + 1, none⟩ = some (.string xk) ∧ (wr.alloc X).drew.cell? ⟨g, off + 4 * j + 2, none⟩ = some (.string xv) ∧ (wr.alloc X).drew.cell? ⟨g, off + 4 * j + 3, none⟩ = some (.bool xg)) := fun X => HC.out _ (Below.drew (Below.alloc HBr.out hbs X))
      clear hrow hts hg0
      go_wp2_with fail
      go_region_held3 (fun u => u.cell? ⟨g, off + 4 * j, none⟩ = some (.string xb) ∧ u.cell? ⟨g, off + 4 * j + 1, none⟩ = some (.string xk) ∧ u.cell? ⟨g, off + 4 * j + 2, none⟩ = some (.string xv) ∧ u.cell? ⟨g, off + 4 * j + 3, none⟩ = some (.bool xg)) (first | exact HD.out | exact HDA.out _ | exact H5c.out) ((refine step_append (t := 56) Try.underlying33 Try.info_rw _ rfl _ _ rfl w.heap.size _ (L.take j) rfl (OW.drew (OW.alloc HOr.out _)) wr.heap.size rfl (xb, xk, xv, xg) ((World.rangeAt_drew _ _ _ _).2 (range_newW wr (xb, xk, xv, xg) _ _ rfl)) hlen (by simp; omega) ?_; intro v' w5 ho hb; have HO5 : Hid (OW 56 w5 w.heap.size v' (L.take (j + 1))) := (by show OW _ _ _ _ _; rw [HTS.out]; exact ho); have HB5 : Hid (Below w.heap.size w w5) := Below.trans (Below.drew (Below.alloc HBr.out hbs _)) hb; have H5c := HC.out w5 HB5.out; have H5c := Lib.hid H5c; clear ho hb))
      all_goals
        go_wp2_with fail
        go_roundw
        case rel => exact ⟨j + 1, by omega, by go_num, HO5, HB5⟩
        case measure => simp [intOf]; omega
    · obtain rfl : j = n := by omega
      have HF : Hid (L.take j = L) := List.take_of_length_le (by rw [HN.out]; exact Nat.le_refl _)
      rw [HF.out] at HOr
      go_wp2_with fail
      go_ret
      exact ⟨_, rfl, HOr.out, HBr.out⟩
end Go.Proofs.Ytkiaehehckmpnaa.It

namespace Go.Proofs.Ytkiaehehckmpnaa.It

open Go.RowKit Go.Proofs.Ytkiaehehckmpnaa.Vc Go.Proofs.Ytkiaehehckmpnaa.Sp

set_option linter.unusedVariables false

set_option linter.unusedSimpArgs false

set_option maxRecDepth 100000

theorem six {w : World} {b : Nat} {x0 x1 x2 x3 x4 x5 : Value} (h : Blk w b [x0, x1, x2, x3, x4, x5]) : w.cell? ⟨b, 0, none⟩ = some x0 ∧ w.cell? ⟨b, 1, none⟩ = some x1 ∧ w.cell? ⟨b, 2, none⟩ = some x2 ∧ w.cell? ⟨b, 3, none⟩ = some x3 ∧ w.cell? ⟨b, 4, none⟩ = some x4 ∧ w.cell? ⟨b, 5, none⟩ = some x5 :=
  ⟨h.cell 0 _ rfl, h.cell 1 _ rfl, h.cell 2 _ rfl, h.cell 3 _ rfl, h.cell 4 _ rfl, h.cell 5 _ rfl⟩
theorem six_free {w : World} {b : Nat} {x0 x1 x2 x3 x4 x5 : Value} (h : Blk w b [x0, x1, x2, x3, x4, x5]) : w.frozen? ⟨b, 0, none⟩ = false ∧ w.frozen? ⟨b, 1, none⟩ = false ∧ w.frozen? ⟨b, 2, none⟩ = false ∧ w.frozen? ⟨b, 3, none⟩ = false ∧ w.frozen? ⟨b, 4, none⟩ = false ∧ w.frozen? ⟨b, 5, none⟩ = false :=
  ⟨h.free 0 (by simp), h.free 1 (by simp), h.free 2 (by simp), h.free 3 (by simp), h.free 4 (by simp), h.free 5 (by simp)⟩
section

variable {P : Program} {ops : Array Oper} {rest : List Oper} {o : Oper} {a : Act} {w : World} {Q : Exit → Act → World → Prop}

/-- a stamp is stored into the first field of a transaction -/
theorem stamp_store (hgd : o.guard = none) (t : TypeId) (x y : Operand) (ho : o.op = .store t x y) (b : Nat) (hx : a.eval x = .pointer (some ⟨b, 0, none⟩)) (y0 y1 y2 y3 : Nat) (D : Int) (hy : a.eval y = SV [y0, y1, y2, y3] D)
    (x0 x1 x2 x3 : Nat) (E : Int) (v : Value) (hb : Blk w b (ks .u64 [x0, x1, x2, x3] ++ [Value.int .i64 E, v])) (hi : (P.info? t).map (·.size) = some 5)
    (h : ∀ w', Blk w' b (ks .u64 [y0, y1, y2, y3] ++ [Value.int .i64 D, v]) → Upd b w w' → wpList P ops Q rest (a.put o.dst undef) w') : wpList P ops Q (o :: rest) a w := by
  have hth : w.there b 0 5 := fun j hj => hb.2 j (by simp [ks]; omega)
  refine wpList_store_mid hgd t x y ho b 0 (ks .u64 [y0, y1, y2, y3] ++ [Value.int .i64 D]).toArray hx hy (by exact hth) (by exact hi) (all_oneCell_toArray (fun v hv => by simp [ks] at hv; rcases hv with rfl | rfl | rfl | rfl | rfl <;> rfl)) (h _ ?_ (Upd.setCells b _ 0 w))
  have s0 := Blk.setc hb 0 (by simp [ks]) (.int .u64 (y0 : Int))
  have s1 := Blk.setc s0 1 (by simp [ks]) (.int .u64 (y1 : Int))
  have s2 := Blk.setc s1 2 (by simp [ks]) (.int .u64 (y2 : Int))
  have s3 := Blk.setc s2 3 (by simp [ks]) (.int .u64 (y3 : Int))
  have s4 := Blk.setc s3 4 (by simp [ks]) (.int .i64 D)
  exact s4
end

theorem IsWs.one {w : World} {b : Nat} {x : I.Wt} (h : Blk w b (wc x)) (hb : b < w.heap.size) : IsWs w (.slice (some ⟨b, 0, none⟩) 1 1) [x] := by
  refine ⟨_, 1, rfl, Nat.le_refl _, by unfold maxLen; omega, fun _ => ⟨b, 0, rfl, hb, fun i y hy => ?_⟩⟩
  cases i with
  | zero =>
    simp only [List.getElem?_cons_zero, Option.some.injEq] at hy
    subst hy
    exact h.1
  | succ i => simp at hy
theorem OW.far {t : TypeId} {w w' : World} {base b : Nat} {v : Value} {L : List I.Wt} (h : OW t w base v L) (hu : Upd b w w') (hg : ∀ g o n c, v = .slice (some ⟨g, o, none⟩) n c → g ≠ b) : OW t w' base v L := by
  obtain ⟨⟨hl, h0 | ⟨g, cap, cur, hv, hB, hh, r⟩⟩⟩ := h
  · exact ⟨⟨hl, .inl h0⟩⟩
  · exact ⟨⟨hl, .inr ⟨g, cap, cur, hv, hB, by rw [hu.far g (hg _ _ _ _ hv)]; exact hh, r⟩⟩⟩
theorem OW.far2 {t : TypeId} {w w' : World} {base b : Nat} {v : Value} {L : List I.Wt} (h : OW t w base v L) (hu : Upd b w w') (hb : b < base) : OW t w' base v L := by
  obtain ⟨⟨hl, h0 | ⟨g, cap, cur, hv, hB, hh, r⟩⟩⟩ := h
  · exact ⟨⟨hl, .inl h0⟩⟩
  · exact ⟨⟨hl, .inr ⟨g, cap, cur, hv, hB, by rw [hu.far g (by omega)]; exact hh, r⟩⟩⟩
theorem OW.lt {t : TypeId} {w : World} {base : Nat} {v : Value} {L : List I.Wt} (h : OW t w base v L) : ∀ g o n c, v = .slice (some ⟨g, o, none⟩) n c → g < w.heap.size := by
  intro g o n c e
  obtain ⟨hl, h0 | ⟨g', cap, cur, hv, hB, hh, r⟩⟩ := h.own
  · rw [h0.1] at e; cases e
  · rw [hv] at e
    simp only [Value.slice.injEq, Option.some.injEq, Addr.mk.injEq, and_true] at e
    obtain ⟨⟨rfl, _⟩, _⟩ := e
    rcases Nat.lt_or_ge g' w.heap.size with h1 | h1
    · exact h1
    · rw [Array.getElem?_eq_none h1] at hh; cases hh
end Go.Proofs.Ytkiaehehckmpnaa.It

namespace Go.Proofs.Ytkiaehehckmpnaa

open Go.RowKit

set_option linter.unusedVariables false

set_option linter.unusedSimpArgs false

/-- what an operation yields: its form, what it is in memory (more memory leaves it), and that there is one -/
structure Spc where
  S : Value → Prop
  T : World → Value → Prop
  st : ∀ u u' v, Below u.heap.size u u' → T u v → T u' v
  w0 : Value
  hw : S w0
/-- just this value -/
def Spc.eq (v : Value) : Spc := ⟨fun x => x = v, fun _ _ => True, fun _ _ _ _ _ => trivial, v, rfl⟩
def Oper.relUpon (P : Program) (u : World) (s : Spc) : Result Next → Prop
  | .ok (.value v) u' => Below u.heap.size u u' ∧ s.S v ∧ s.T u' v
  | .ok .skip u' => Below u.heap.size u u' ∧ s.S undef ∧ s.T u' undef
  | .ok (.enter f args) u' => Below u.heap.size u u' ∧ Calls P f args u' (fun e u'' => ∃ v, e = .returned v ∧ Below u.heap.size u u'' ∧ s.S v ∧ s.T u'' v)
  | _ => False
abbrev Facts := Nat → World → Prop
def updF (Φ : Facts) (i : Nat) (F : World → Prop) : Facts := fun k => if k = i then F else Φ k
theorem updF_comm (Φ : Facts) {i j : Nat} (h : j ≠ i) (F G : World → Prop) : updF (updF Φ i F) j G = updF (updF Φ j G) i F := by
  funext k
  unfold updF
  by_cases h1 : k = j
  · by_cases h2 : k = i
    · exact absurd (h1.symm.trans h2) h
    · simp [h1, h2, h]
  · simp [h1]
section

variable {P : Program} {ops : Array Oper} {md : Region.Mode} {C : World → Prop}

def needF (md : Region.Mode) (o : Oper) (Φ : Facts) (u : World) : Prop := ∀ e ∈ o.after, Region.binds md e = true → Φ e.on u
def oblF (P : Program) (md : Region.Mode) (ops : Array Oper) (C : World → Prop) (s : Spc) (o : Oper) (Φ : Facts) (a : Act) : Prop :=
  (Region.wanted o (yielded ops a.tmps) = true ∧ ∀ u, C u → needF md o Φ u → Oper.relUpon P u s ((execOp a.eval o).run P u)) ∨
  (Region.wanted o (yielded ops a.tmps) = false ∧ s.S undef ∧ ∀ u, s.T u undef)
theorem oblF_put {s : Spc} {oi oj : Oper} {Φ : Facts} {a : Act} {v : Value} {i : Nat} {F : World → Prop} (h1 : ∀ d, oi.dst = some d → d ∉ oj.looksAt ops) (hsj : ∀ cs b, oj.op ≠ .select cs b) (hn : ∀ e ∈ oj.after, Region.binds md e = true → e.on ≠ i) :
    oblF P md ops C s oj (updF Φ i F) (a.put oi.dst v) ↔ oblF P md ops C s oj Φ a := by
  unfold oblF
  rw [wanted_put oj a oi.dst v h1, execOp_put oj hsj a oi.dst v h1]
  have e : ∀ u, needF md oj (updF Φ i F) u ↔ needF md oj Φ u := fun u => by
    unfold needF updF
    constructor
    · intro h e he hb
      have := h e he hb
      rwa [if_neg (hn e he hb)] at this
    · intro h e he hb
      rw [if_neg (hn e he hb)]
      exact h e he hb
  simp only [e]
def wpAnyR (P : Program) (md : Region.Mode) (ops : Array Oper) (C : World → Prop) (n : Nat) (Ts : Nat → Spc) (L : Array Bool → Act → Facts → Prop) : Nat → Array Bool → Act → Facts → Prop
  | 0, listed, a, Φ => L listed a Φ
  | f + 1, listed, a, Φ => Region.ready md ops listed ≠ [] ∧ ∀ i ∈ Region.ready md ops listed, i < n ∧ ∃ o, ops[i]? = some o ∧ oblF P md ops C (Ts i) o Φ a ∧
      ∀ v, (Ts i).S v → wpAnyR P md ops C n Ts L f (listed.setIfInBounds i true) (a.put o.dst v) (updF Φ i (fun u => (Ts i).T u v))
theorem wpAny_of_rel {n g : Nat} {Ts : Nat → Spc} {L : Array Bool → Act → Facts → Prop} {Q' : Exit → Act → World → Prop} (hC : ∀ u u', C u → Below u.heap.size u u' → C u')
    (hL : ∀ listed a Φ u, L listed a Φ → C u → (∀ k, Φ k u) → wpAny P md ops Q' g listed a u) :
    ∀ (f : Nat) (listed : Array Bool) (a : Act) (Φ : Facts) (u : World), C u → (∀ k u u', Below u.heap.size u u' → Φ k u → Φ k u') → (∀ k, Φ k u) → wpAnyR P md ops C n Ts L f listed a Φ → wpAny P md ops Q' (f + g) listed a u
  | 0, listed, a, Φ, u, hu, hs, hf, h => by rw [Nat.zero_add]; exact hL _ _ _ _ h hu hf
  | f + 1, listed, a, Φ, u, hu, hs, hf, h => by
    rw [show f + 1 + g = (f + g) + 1 by omega]
    refine ⟨fun h0 => absurd h0 h.1, fun i hi => ?_⟩
    obtain ⟨_, o, ho, hob, hnext⟩ := h.2 i hi
    have key : ∀ v u', Below u.heap.size u u' → (Ts i).S v → (Ts i).T u' v → wpAny P md ops Q' (f + g) (listed.setIfInBounds i true) (a.put o.dst v) u' := fun v u' hb hS hT => by
      refine wpAny_of_rel hC hL f _ _ _ u' (hC u u' hu hb) ?_ ?_ (hnext v hS)
      · intro k x x' hx
        unfold updF
        by_cases hk : k = i
        · simp only [hk, if_true]; exact (Ts i).st x x' v hx
        · simp only [hk, if_false]; exact hs k x x' hx
      · intro k
        unfold updF
        by_cases hk : k = i
        · simp only [hk, if_true]; exact hT
        · simp only [hk, if_false]; exact hs k u u' hb (hf k)
    unfold wpOp
    simp only [ho]
    rcases hob with ⟨hw, hr⟩ | ⟨hw, hS, hT⟩
    · rw [if_pos hw]
      left
      have h3 := hr u hu (fun e _ _ => hf e.on)
      unfold Oper.wp
      generalize (execOp a.eval o).run P u = r at *
      cases r with
      | ok nx w' =>
        cases nx <;> simp only [Oper.relUpon] at h3 <;> simp only [Oper.upon]
        case value v => exact key v w' h3.1 h3.2.1 h3.2.2
        case skip => exact key undef w' h3.1 h3.2.1 h3.2.2
        case enter f' args => exact h3.2.mono fun e w'' ⟨v, he, hb, hS, hT⟩ => by subst he; exact key v w'' hb hS hT
      | halt x w' => simp only [Oper.relUpon] at h3
    · rw [if_neg (by rw [hw]; decide)]
      exact key undef u (Below.refl _ _) hS (hT u)
theorem wpAnyR_first {n i : Nat} {oi : Oper} {Ts : Nat → Spc} {L : Array Bool → Act → Facts → Prop} (hi : ops[i]? = some oi) (hsel : ∀ (j : Nat) (o : Oper) cs b, ops[j]? = some o → o.op ≠ .select cs b)
    (htail : ∀ listed, HeadInv md ops n listed → ∀ i, i < n → listed.getD i true = false → ∀ t, n ≤ t → t ∉ Region.ready md ops listed) (hin : i < n)
    (hdone : ∀ listed a Φ, L listed a Φ → ∀ j ∈ Region.ready md ops listed, n ≤ j) :
    ∀ (f : Nat) (listed : Array Bool) (a : Act) (Φ : Facts), HeadInv md ops n listed →
      (∀ j oj, ops[j]? = some oj → j ≠ i → listed.getD j true = false → (∀ e ∈ oj.after, Region.binds md e = true → e.on ≠ i) → oi.apart ops oj = true) →
      i ∈ Region.ready md ops listed → oblF P md ops C (Ts i) oi Φ a →
      (∀ v, (Ts i).S v → wpAnyR P md ops C n Ts L f (listed.setIfInBounds i true) (a.put oi.dst v) (updF Φ i (fun u => (Ts i).T u v))) → wpAnyR P md ops C n Ts L (f + 1) listed a Φ := by
  intro f
  induction f with
  | zero =>
    intro listed a Φ inv _ hr hy H
    have hun := (mem_ready.1 hr).1
    refine ⟨fun h => (by rw [h] at hr; cases hr), fun j hj => ?_⟩
    have hjn : j < n := by
      rcases Nat.lt_or_ge j n with h | h
      · exact h
      · exact absurd hj (htail listed inv i hin hun j h)
    refine ⟨hjn, ?_⟩
    by_cases hji : j = i
    · subst hji; exact ⟨oi, hi, hy, H⟩
    · have := hdone _ _ _ (H _ (Ts i).hw) j (ready_mono hj hji)
      omega
  | succ f ih =>
    intro listed a Φ inv hfree hr hy H
    have hun := (mem_ready.1 hr).1
    refine ⟨fun h => (by rw [h] at hr; cases hr), fun j hj => ?_⟩
    have hjn : j < n := by
      rcases Nat.lt_or_ge j n with h | h
      · exact h
      · exact absurd hj (htail listed inv i hin hun j h)
    refine ⟨hjn, ?_⟩
    by_cases hji : j = i
    · subst hji; exact ⟨oi, hi, hy, H⟩
    · obtain ⟨hjun, oj, hoj, hall⟩ := mem_ready.1 hj
      obtain ⟨_, oi', hoi', halli⟩ := mem_ready.1 hr
      obtain rfl : oi' = oi := Option.some.inj (hoi'.symm.trans hi)
      have hnot : ∀ e ∈ oj.after, Region.binds md e = true → e.on ≠ i := fun e he hb heq => by
        have h1 := hall e he hb
        rw [heq, getD_both hun] at h1
        cases h1
      have hnoti : ∀ e ∈ oi'.after, Region.binds md e = true → e.on ≠ j := fun e he hb heq => by
        have h1 := halli e he hb
        rw [heq, getD_both hjun] at h1
        cases h1
      obtain ⟨p1, p2, p3⟩ := Oper.apart_spec (hfree j oj hoj hji hjun hnot)
      have hfree' : ∀ k ok, ops[k]? = some ok → k ≠ i → (listed.setIfInBounds j true).getD k true = false →
          (∀ e ∈ ok.after, Region.binds md e = true → e.on ≠ i) → oi'.apart ops ok = true := fun k ok hk hki hun hno => by
        refine hfree k ok hk hki ?_ hno
        by_cases hjk : j = k
        · subst hjk; exact hjun
        · rw [getD_set_ne true hjk] at hun; exact hun
      refine ⟨oj, hoj, ?_, fun vj hvj => ?_⟩
      · obtain ⟨_, oj', hoj', hob, _⟩ := (H _ (Ts i).hw).2 j (ready_mono hj hji)
        obtain rfl : oj' = oj := Option.some.inj (hoj'.symm.trans hoj)
        exact (oblF_put p1 (fun cs b => hsel j _ cs b hoj) hnot).1 hob
      · refine ih (listed.setIfInBounds j true) _ _ (inv.set hj hjn) hfree' (ready_mono hr (Ne.symm hji)) ((oblF_put p3 (fun cs b => hsel i _ cs b hi) hnoti).2 hy) fun v hv => ?_
        obtain ⟨_, oj', hoj', _, hnx⟩ := (H v hv).2 j (ready_mono hj hji)
        obtain rfl : oj' = oj := Option.some.inj (hoj'.symm.trans hoj)
        have := hnx vj hvj
        rw [Array.setIfInBounds_comm _ _ hji, ← Act.put_comm a v vj p2, ← updF_comm Φ hji]
        exact this
/-- facts by their places, the last one ahead -/
def ofL (Fs : List (World → Prop)) : Facts := fun k u => ∀ F, Fs.reverse[k]? = some F → F u
theorem ofL_add (Fs : List (World → Prop)) (F : World → Prop) : updF (ofL Fs) Fs.length F = ofL (F :: Fs) := by
  funext k u
  unfold updF ofL
  rw [List.reverse_cons]
  have hl : Fs.reverse.length = Fs.length := List.length_reverse
  by_cases hk : k = Fs.length
  · subst hk
    rw [if_pos rfl, List.getElem?_append_right (by omega), hl, Nat.sub_self]
    simp
  · rw [if_neg hk]
    rcases Nat.lt_or_ge k Fs.length with h | h
    · rw [List.getElem?_append_left (by omega)]
    · rw [List.getElem?_eq_none (by omega), List.getElem?_eq_none (by simp; omega)]
theorem ofL_all {Fs : List (World → Prop)} {u : World} (h : ∀ k, ofL Fs k u) : ∀ (k : Nat) (F : World → Prop), Fs[k]? = some F → F u := fun k F hF => by
  have hk : k < Fs.length := (List.getElem?_eq_some_iff.1 hF).1
  refine h (Fs.length - 1 - k) F ?_
  rw [List.getElem?_reverse (by omega), show Fs.length - 1 - (Fs.length - 1 - k) = k by omega]
  exact hF
/-- the walk in the order of the text -/
def RQ (P : Program) (md : Region.Mode) (ops : Array Oper) (C : World → Prop) (Lq : Act → List (World → Prop) → Prop) : List Oper → List Spc → List (World → Prop) → Act → Prop
  | [], _, Fs, a => Lq a Fs
  | o :: rest, s :: ts, Fs, a => oblF P md ops C s o (ofL Fs) a ∧ ∀ v, s.S v → RQ P md ops C Lq rest ts ((fun u => s.T u v) :: Fs) (a.put o.dst v)
  | _ :: _, [], _, _ => False
theorem wpAnyR_lex {n : Nat} {Lq : Act → List (World → Prop) → Prop} {B : Array Bool → Nat → Bool} {hd : Nat → Nat → Array Bool → Bool} (hsel : Region.noSelect ops = true)
    (htail : ∀ listed, HeadInv md ops n listed → ∀ i, i < n → listed.getD i true = false → ∀ t, n ≤ t → t ∉ Region.ready md ops listed)
    (hd0 : ∀ k listed, hd 0 k listed = true → B listed k = true) (hd1 : ∀ f k listed, hd (f + 1) k listed = true → k ∈ Region.ready md ops listed ∧ Region.free md ops listed k = true ∧ hd f (k + 1) (listed.setIfInBounds k true) = true)
    (hB : ∀ listed, B listed n = true → ∀ j ∈ Region.ready md ops listed, n ≤ j) (Ts : Nat → Spc) :
    ∀ (l : List Oper) (ts : List Spc) (k : Nat) (Fs : List (World → Prop)) (listed : Array Bool) (a : Act), (∀ j, j < l.length → l[j]? = ops[k + j]?) → (∀ j s, ts[j]? = some s → Ts (k + j) = s) → k + l.length = n → Fs.length = k → HeadInv md ops n listed →
    hd l.length k listed = true → RQ P md ops C Lq l ts Fs a →
    wpAnyR P md ops C n Ts (fun listed' a' Φ => B listed' n = true ∧ ∃ Fs, Φ = ofL Fs ∧ Lq a' Fs) l.length listed a (ofL Fs)
  | [], ts, k, Fs, listed, a, _, _, hk, _, _, hD, h => by
    have : k = n := by simpa using hk
    subst this
    exact ⟨hd0 _ _ (by simpa using hD), Fs, rfl, h⟩
  | o :: l, [], k, Fs, listed, a, _, _, _, _, _, _, h => h.elim
  | o :: l, s :: ts, k, Fs, listed, a, hl, hT, hk, hF, inv, hD, h => by
    have h0 : ops[k]? = some o := by simpa using (hl 0 (by simp)).symm
    obtain ⟨hr, hf, hD'⟩ := hd1 _ _ _ hD
    have hkn : k < n := by simp only [List.length_cons] at hk; omega
    have hs : Ts k = s := by simpa using hT 0 s rfl
    refine wpAnyR_first h0 (Region.noSelect_spec hsel) htail hkn (fun listed' a' Φ hL => hB _ hL.1) l.length listed a _ inv (Region.free_spec h0 hf) hr (by rw [hs]; exact h.1) fun v hv => ?_
    rw [hs] at hv
    have := wpAnyR_lex hsel htail hd0 hd1 hB Ts l ts (k + 1) ((fun u => s.T u v) :: Fs) (listed.setIfInBounds k true) (a.put o.dst v) (fun j hj => by have := hl (j + 1) (by simp; omega); simpa [Nat.add_assoc, Nat.add_comm 1 j] using this)
      (fun j s' hj => by have := hT (j + 1) s' (by simpa using hj); rw [show k + 1 + j = k + (j + 1) by omega]; exact this) (by simp only [List.length_cons] at hk; omega) (by simp [hF]) (inv.set hr hkn) hD' (h.2 v hv)
    rw [← ofL_add, hF] at this
    rw [hs]
    exact this
theorem headInv0 (md : Region.Mode) (ops : Array Oper) (n : Nat) : HeadInv md ops n (Array.replicate ops.size false) :=
  ⟨by simp, fun j oj _ hl => (by rw [getD_replicate_false] at hl; cases hl), fun t _ ht => getD_in (by simpa using ht) (getD_replicate_false _ _)⟩
/-- a walk behind a name that no reckoning opens -/
structure RW (P : Program) (ops : Array Oper) (C : World → Prop) (Lq : Act → List (World → Prop) → Prop) (l : List Oper) (ts : List Spc) (Fs : List (World → Prop)) (a : Act) : Prop where
  out : RQ P .any ops C Lq l ts Fs a
/-- all of the region by one walk -/
theorem region_rel {id : Nat} {Q : Exit → Act → World → Prop} {a : Act} {w : World} {l : List Oper} (ts : List Spc) (hm : P.follows .mixedOrders = true) (hB : Region.lexB .any l.toArray = true)
    (h : RW P l.toArray (fun u => Below w.heap.size w u) (fun a' Fs => ∀ u, Below w.heap.size w u → (∀ (k : Nat) (F : World → Prop), Fs[k]? = some F → F u) → Q .normal a' u) l ts [] a) : (Code.region id l.toArray true).wp P Q a w := by
  simp only [Region.lexB, Bool.and_eq_true] at hB
  refine wp_region_any hm ?_
  have H := wpAnyR_lex (P := P) (ops := l.toArray) (md := .any) (n := l.length) (C := fun u => Below w.heap.size w u) (B := fun listed _ => (Region.ready .any l.toArray listed).isEmpty) (hd := Region.lexFrom .any l.toArray) hB.1
    (fun listed _ i _ _ t ht hr => by
      obtain ⟨_, ot, hot, _⟩ := mem_ready.1 hr
      have := (Array.getElem?_eq_some_iff.1 hot).1
      simp at this
      omega)
    (fun k listed hh => hh) (fun f k listed hh => by
      simp only [Region.lexFrom, Bool.and_eq_true] at hh
      exact ⟨by simpa using hh.1.1, hh.1.2, hh.2⟩)
    (fun listed hh j hj => by rw [List.isEmpty_iff.1 hh] at hj; cases hj) (fun k => ts.getD k (Spc.eq undef)) l ts 0 [] (Array.replicate l.toArray.size false) a (fun j _ => by simp) (fun j s hj => by rw [Nat.zero_add]; simp [hj]) (by simp) rfl (headInv0 _ _ _) (by simpa using hB.2) h.out
  have := wpAny_of_rel (g := 0) (Q' := Q) (P := P) (fun u u' (hu : Below w.heap.size w u) (hb : Below u.heap.size u u') => hu.trans (hb.mono hu.size)) (fun listed a' Φ u hL hu hf => by
    obtain ⟨hr, Fs, rfl, hq⟩ := hL
    exact ⟨List.isEmpty_iff.1 hr, hq u hu (ofL_all hf)⟩) l.length _ a _ { w with drawn := w.drawn + 1 } (Below.drew (Below.refl _ _)) (fun k u u' _ hh F hF => by simp at hF) (fun k F hF => by simp at hF) H
  simpa using this
/-- the first n by one walk, the others come in one order alone -/
theorem region_relt {id : Nat} {Q : Exit → Act → World → Prop} {a : Act} {w : World} {l : List Oper} (n : Nat) (ts : List Spc) (hm : P.follows .mixedOrders = true) (hB : Region.lexTailB .any l.toArray n = true)
    (h : RW P l.toArray (fun u => Below w.heap.size w u) (fun a' Fs => ∀ u, Below w.heap.size w u → (∀ (k : Nat) (F : World → Prop), Fs[k]? = some F → F u) → wpList P l.toArray Q (l.drop n) a' u) (l.take n) ts [] a) : (Code.region id l.toArray true).wp P Q a w := by
  simp only [Region.lexTailB, Bool.and_eq_true, decide_eq_true_eq] at hB
  obtain ⟨⟨⟨⟨hsel, hn⟩, hs⟩, hc⟩, hlex⟩ := hB
  have hn' : n < l.length := by simpa using hn
  have htl : (l.take n).length = n := by simp; omega
  have hdl : (l.drop n).length = l.toArray.size - n := by simp
  refine wp_region_any hm ?_
  have H := wpAnyR_lex (P := P) (ops := l.toArray) (md := .any) (n := n) (C := fun u => Below w.heap.size w u) (B := fun listed k => Region.seqB .any l.toArray (l.toArray.size - n) k listed) (hd := Region.lexHead .any l.toArray (l.toArray.size - n)) hsel
    (fun listed inv i hi hun t ht => tail_waits hs hc hn inv _ i rfl hi hun t ht)
    (fun k listed hh => hh) (fun f k listed hh => by
      simp only [Region.lexHead, Bool.and_eq_true] at hh
      exact ⟨by simpa using hh.1.1, hh.1.2, hh.2⟩)
    (fun listed hh => seqB_ready hh) (fun k => ts.getD k (Spc.eq undef)) (l.take n) ts 0 [] (Array.replicate l.toArray.size false) a (fun j hj => by
      have hj' : j < n := by rw [htl] at hj; exact hj
      simp [hj']) (fun j s hj => by rw [Nat.zero_add]; simp [hj]) (by simpa using htl) rfl (headInv0 _ _ _) (by rw [htl]; exact hlex) h.out
  have := wpAny_of_rel (g := l.toArray.size - n) (Q' := Q) (P := P) (fun u u' (hu : Below w.heap.size w u) (hb : Below u.heap.size u u') => hu.trans (hb.mono hu.size)) (fun listed a' Φ u hL hu hf => by
    obtain ⟨hr, Fs, rfl, hq⟩ := hL
    have := wpAny_of_seq (md := .any) (Q' := Q) (l.drop n) n listed a' u (fun j => by simp [List.getElem?_drop]) (by rw [hdl]; exact hr) (hq u hu (ofL_all hf))
    rwa [hdl] at this) (l.take n).length _ a _ { w with drawn := w.drawn + 1 } (Below.drew (Below.refl _ _)) (fun k u u' _ hh F hF => by simp at hF) (fun k F hF => by simp at hF) H
  rw [htl, show n + (l.toArray.size - n) = l.toArray.size by omega] at this
  exact this
end
/-! ### the walk's words -/
/-- the facts of those operations that this one waits for -/
structure Need (o : Oper) (Fs : List (World → Prop)) (u : World) : Prop where
  out : needF .any o (ofL Fs) u
theorem Need.get {o : Oper} {Fs : List (World → Prop)} {u : World} (h : Need o Fs u) (j i : Nat) (hj : o.after.toList.any (fun e => Region.binds .any e && e.on == j) = true) (hi : Fs.length = i + j + 1) (F : World → Prop) (hF : Fs[i]? = some F) : F u := by
  obtain ⟨e, he, hb⟩ := List.any_eq_true.1 hj
  simp only [Bool.and_eq_true, beq_iff_eq] at hb
  exact h.out e (by simpa using he) hb.1 F (by rw [hb.2, List.getElem?_reverse (by omega), show Fs.length - 1 - j = i by omega]; exact hF)
section

variable {P : Program} {ops : Array Oper} {rest : List Oper} {o : Oper} {a : Act} {C : World → Prop} {Lq : Act → List (World → Prop) → Prop} {ts : List Spc} {Fs : List (World → Prop)}

theorem r_nil (h : Lq a Fs) : RW P ops C Lq [] ts Fs a := ⟨h⟩
/-- one operation, whatever it yields -/
theorem r_any (hw : Region.wanted o (yielded ops a.tmps) = true) {s : Spc} (hr : ∀ u, C u → Need o Fs u → Oper.relUpon P u s ((execOp a.eval o).run P u))
    (h : ∀ v, s.S v → ∀ K : Act → Prop, (∀ a, RW P ops C Lq rest ts ((fun u => s.T u v) :: Fs) a → K a) → K (a.put o.dst v)) : RW P ops C Lq (o :: rest) (s :: ts) Fs a :=
  ⟨⟨.inl ⟨hw, fun u hu hn => hr u hu ⟨hn⟩⟩, fun v hv => h v hv _ fun a hA => hA.out⟩⟩
theorem wanted_none (hgd : o.guard = none) : Region.wanted o (yielded ops a.tmps) = true := by simp [Region.wanted, hgd]
/-- one value, and the world is left -/
theorem rg_value (hw : Region.wanted o (yielded ops a.tmps) = true) {v : Value} (hr : ∀ u, C u → Need o Fs u → (execOp a.eval o).run P u = .ok (.value v) u) (h : ∀ K : Act → Prop, (∀ a, RW P ops C Lq rest ts ((fun _ => True) :: Fs) a → K a) → K (a.put o.dst v)) : RW P ops C Lq (o :: rest) (Spc.eq v :: ts) Fs a :=
  r_any hw (fun u hu hn => by rw [hr u hu hn]; exact ⟨Below.refl _ _, rfl, trivial⟩) (fun v' hv K hK => by cases hv; exact h K hK)
theorem r_value (hgd : o.guard = none) {v : Value} (hr : ∀ u, C u → Need o Fs u → (execOp a.eval o).run P u = .ok (.value v) u) (h : ∀ K : Act → Prop, (∀ a, RW P ops C Lq rest ts ((fun _ => True) :: Fs) a → K a) → K (a.put o.dst v)) : RW P ops C Lq (o :: rest) (Spc.eq v :: ts) Fs a := rg_value (wanted_none hgd) hr h
theorem r_move (hgd : o.guard = none) (x : Operand) (ho : o.op = .move x) {v : Value} (hx : a.eval x = v) (h : ∀ K : Act → Prop, (∀ a, RW P ops C Lq rest ts ((fun _ => True) :: Fs) a → K a) → K (a.put o.dst v)) : RW P ops C Lq (o :: rest) (Spc.eq v :: ts) Fs a :=
  r_value hgd (fun u _ _ => by unfold execOp; simp only [ho, hx]; rfl) h
theorem r_assign (hgd : o.guard = none) (x : Operand) (ho : o.op = .assign x) {v : Value} (hx : a.eval x = v) (h : ∀ K : Act → Prop, (∀ a, RW P ops C Lq rest ts ((fun _ => True) :: Fs) a → K a) → K (a.put o.dst v)) : RW P ops C Lq (o :: rest) (Spc.eq v :: ts) Fs a :=
  r_value hgd (fun u _ _ => by unfold execOp; simp only [ho, hx]; rfl) h
theorem r_skip (j : Nat) (b : Bool) (y : Option Bool) (hg : o.guard = some (j, b)) (hy : yielded ops a.tmps j = y) (hn : (y == some b) = false)
    (h : ∀ K : Act → Prop, (∀ a, RW P ops C Lq rest ts ((fun _ => True) :: Fs) a → K a) → K (a.put o.dst undef)) : RW P ops C Lq (o :: rest) (Spc.eq undef :: ts) Fs a := by
  have hw : Region.wanted o (yielded ops a.tmps) = false := by
    unfold Region.wanted
    rw [hg]
    show (yielded ops a.tmps j == some b) = false
    rw [hy]
    exact hn
  exact ⟨⟨.inr ⟨hw, rfl, fun _ => trivial⟩, fun v hv => by cases hv; exact h _ fun a hA => hA.out⟩⟩
/-- a call -/
theorem rg_call (hw : Region.wanted o (yielded ops a.tmps) = true) (f : FuncId) (fn : Func) (hf : P.funcs[f]? = some fn) (hnm : (fn.name == "runtime.NumGoroutine") = false) (hbd : fn.body.isNone = false) (xs : Array Operand) (tys : Array TypeId) (ho : o.op = .call { callee := .value (.func f), args := xs, argTypes := tys }) (args : List Value) (hargs : xs.toList.map a.eval = args) {s : Spc}
    (hc : ∀ u, C u → Need o Fs u → Calls P f args.toArray u fun e u' => ∃ v, e = .returned v ∧ Below u.heap.size u u' ∧ s.S v ∧ s.T u' v)
    (h : ∀ v, s.S v → ∀ K : Act → Prop, (∀ a, RW P ops C Lq rest ts ((fun u => s.T u v) :: Fs) a → K a) → K (a.put o.dst v)) : RW P ops C Lq (o :: rest) (s :: ts) Fs a := by
  refine r_any hw (fun u hu hn => ?_) h
  have hargs' : xs.map a.eval = args.toArray := by rw [← hargs]; apply Array.toList_inj.1; simp
  have hr : (execOp a.eval o).run P u = .ok (.enter f args.toArray) u := by
    unfold execOp
    simp only [ho]
    simp [resolve, Deferred.ofValue, invoke, hargs', Act.eval]
    exact run_enter hf hnm hbd _ u
  rw [hr]
  exact ⟨Below.refl _ _, hc u hu hn⟩
theorem r_call (hgd : o.guard = none) (f : FuncId) (fn : Func) (hf : P.funcs[f]? = some fn) (hnm : (fn.name == "runtime.NumGoroutine") = false) (hbd : fn.body.isNone = false) (xs : Array Operand) (tys : Array TypeId) (ho : o.op = .call { callee := .value (.func f), args := xs, argTypes := tys }) (args : List Value) (hargs : xs.toList.map a.eval = args) {s : Spc}
    (hc : ∀ u, C u → Need o Fs u → Calls P f args.toArray u fun e u' => ∃ v, e = .returned v ∧ Below u.heap.size u u' ∧ s.S v ∧ s.T u' v)
    (h : ∀ v, s.S v → ∀ K : Act → Prop, (∀ a, RW P ops C Lq rest ts ((fun u => s.T u v) :: Fs) a → K a) → K (a.put o.dst v)) : RW P ops C Lq (o :: rest) (s :: ts) Fs a :=
  rg_call (wanted_none hgd) f fn hf hnm hbd xs tys ho args hargs hc h
/-- a call that yields one value -/
theorem rg_callv (hw : Region.wanted o (yielded ops a.tmps) = true) (f : FuncId) (fn : Func) (hf : P.funcs[f]? = some fn) (hnm : (fn.name == "runtime.NumGoroutine") = false) (hbd : fn.body.isNone = false) (xs : Array Operand) (tys : Array TypeId) (ho : o.op = .call { callee := .value (.func f), args := xs, argTypes := tys }) (args : List Value) (hargs : xs.toList.map a.eval = args) {v : Value}
    (hc : ∀ u, C u → Need o Fs u → Calls P f args.toArray u fun e u' => e = .returned v ∧ Below u.heap.size u u')
    (h : ∀ K : Act → Prop, (∀ a, RW P ops C Lq rest ts ((fun _ => True) :: Fs) a → K a) → K (a.put o.dst v)) : RW P ops C Lq (o :: rest) (Spc.eq v :: ts) Fs a :=
  rg_call hw f fn hf hnm hbd xs tys ho args hargs (fun u hu hn => (hc u hu hn).mono fun e u' ⟨he, hb⟩ => ⟨v, he, hb, rfl, trivial⟩) (fun v' hv K hK => by cases hv; exact h K hK)
theorem r_callv (hgd : o.guard = none) (f : FuncId) (fn : Func) (hf : P.funcs[f]? = some fn) (hnm : (fn.name == "runtime.NumGoroutine") = false) (hbd : fn.body.isNone = false) (xs : Array Operand) (tys : Array TypeId) (ho : o.op = .call { callee := .value (.func f), args := xs, argTypes := tys }) (args : List Value) (hargs : xs.toList.map a.eval = args) {v : Value}
    (hc : ∀ u, C u → Need o Fs u → Calls P f args.toArray u fun e u' => e = .returned v ∧ Below u.heap.size u u')
    (h : ∀ K : Act → Prop, (∀ a, RW P ops C Lq rest ts ((fun _ => True) :: Fs) a → K a) → K (a.put o.dst v)) : RW P ops C Lq (o :: rest) (Spc.eq v :: ts) Fs a :=
  rg_callv (wanted_none hgd) f fn hf hnm hbd xs tys ho args hargs hc h
theorem rg_blk_load (hw : Region.wanted o (yielded ops a.tmps) = true) (t : TypeId) (x : Operand) (ho : o.op = .load t x) (b p : Nat) (hx : a.eval x = .pointer (some ⟨b, p, none⟩)) {vs : List Value} (hb : ∀ u, C u → Need o Fs u → u.rangeAt b p vs)
    (d : TypeDesc) (hu : P.underlying t = some d) (hd : d.isRow = true) (hi : (P.info? t).map (·.size) = some vs.length)
    (h : ∀ K : Act → Prop, (∀ a, RW P ops C Lq rest ts ((fun _ => True) :: Fs) a → K a) → K (a.put o.dst (.agg vs.toArray))) : RW P ops C Lq (o :: rest) (Spc.eq (.agg vs.toArray) :: ts) Fs a := by
  refine rg_value hw (fun u hc hn => ?_) h
  have hl := run_loadAt_mid u b p t vs d (hb u hc hn) hu hd hi
  unfold execOp
  simp only [ho, hx, Sem.run_bind, hl, Result.andThen_ok, Sem.run_pure]
theorem r_blk_load (hgd : o.guard = none) (t : TypeId) (x : Operand) (ho : o.op = .load t x) (b p : Nat) (hx : a.eval x = .pointer (some ⟨b, p, none⟩)) {vs : List Value} (hb : ∀ u, C u → Need o Fs u → u.rangeAt b p vs)
    (d : TypeDesc) (hu : P.underlying t = some d) (hd : d.isRow = true) (hi : (P.info? t).map (·.size) = some vs.length)
    (h : ∀ K : Act → Prop, (∀ a, RW P ops C Lq rest ts ((fun _ => True) :: Fs) a → K a) → K (a.put o.dst (.agg vs.toArray))) : RW P ops C Lq (o :: rest) (Spc.eq (.agg vs.toArray) :: ts) Fs a :=
  rg_blk_load (wanted_none hgd) t x ho b p hx hb d hu hd hi h
theorem rg_concat (hw : Region.wanted o (yielded ops a.tmps) = true) (t t' : TypeId) (x y : Operand) (ho : o.op = .binOp .add t x y t') (b c : ByteArray) (hx : a.eval x = .string b) (hy : a.eval y = .string c) (hn : b.size + c.size ≤ 9223372036854775807) {r : ByteArray} (hr : b ++ c = r)
    (h : ∀ K : Act → Prop, (∀ a, RW P ops C Lq rest ts ((fun _ => True) :: Fs) a → K a) → K (a.put o.dst (.string r))) : RW P ops C Lq (o :: rest) (Spc.eq (.string r) :: ts) Fs a := by
  subst hr
  refine rg_value hw (fun u _ _ => ?_) h
  have e : binOp .add t (.string b) (.string c) = Op.stringOp .add b c := rfl
  unfold execOp
  simp only [ho, hx, hy, Sem.run_bind, e]
  simp [eqGuard]
  rw [run_string_add_sum u b c hn]
  rfl
end

end Go.Proofs.Ytkiaehehckmpnaa

namespace Go.Proofs.Ytkiaehehckmpnaa

open Go.RowKit

set_option linter.unusedVariables false

set_option linter.unusedSimpArgs false

set_option maxRecDepth 100000

/-- bytes in a row of their own -/
def Spc.bytes (l : List UInt8) : Spc where
  S v := ∃ b, v = .slice (some ⟨b, 0, none⟩) l.length l.length
  T u v := ∃ b, v = .slice (some ⟨b, 0, none⟩) l.length l.length ∧ b < u.heap.size ∧ Arr .u8 u b (Mc.nb l)
  st u u' v hb := fun ⟨b, hv, hlt, ha⟩ => ⟨b, hv, Nat.lt_of_lt_of_le hlt hb.size, ha.below hb hlt⟩
  w0 := .slice (some ⟨0, 0, none⟩) l.length l.length
  hw := ⟨0, rfl⟩
/-- a struct in a block of its own -/
def Spc.blk (base : Nat) (vs : List Value) : Spc where
  S v := ∃ b, v = .pointer (some ⟨b, 0, none⟩)
  T u v := ∃ b, v = .pointer (some ⟨b, 0, none⟩) ∧ base ≤ b ∧ b < u.heap.size ∧ Blk u b vs
  st u u' v hb := fun ⟨b, hv, hB, hlt, ha⟩ => ⟨b, hv, hB, Nat.lt_of_lt_of_le hlt hb.size, ha.below hb hlt⟩
  w0 := .pointer (some ⟨0, 0, none⟩)
  hw := ⟨0, rfl⟩
/-- a row of writes -/
def Spc.ow (t : TypeId) (base : Nat) (L : List I.Wt) : Spc where
  S v := ∃ a cap, v = .slice a L.length cap
  T u v := It.OW t u base v L
  st u u' v hb := fun h => h.below hb
  w0 := .slice none L.length 0
  hw := ⟨none, 0, rfl⟩
/-- a transaction, its writes in a row of their own -/
def Spc.tx (t : TypeId) (base : Nat) (a : List Nat) (d : Int) (L : List I.Wt) : Spc where
  S v := ∃ s cap, v = It.TV a d (.slice s L.length cap)
  T u v := ∃ v', v = It.TV a d v' ∧ It.OW t u base v' L
  st u u' v hb := fun ⟨v', hv, h⟩ => ⟨v', hv, h.below hb⟩
  w0 := It.TV a d (.slice none L.length 0)
  hw := ⟨none, 0, rfl⟩
section

variable {P : Program} {ops : Array Oper} {rest : List Oper} {o : Oper} {a : Act} {C : World → Prop} {Lq : Act → List (World → Prop) → Prop} {ts : List Spc} {Fs : List (World → Prop)}

theorem r_new (hgd : o.guard = none) (t : TypeId) (ho : o.op = .alloc t) {vs : List Value} {base : Nat} (hz : (P.info? t).map (fun i => (i.zero, i.size)) = some (some (.agg vs.toArray), vs.length)) (hbase : ∀ u, C u → base ≤ u.heap.size)
    (h : ∀ v, (Spc.blk base vs).S v → ∀ K : Act → Prop, (∀ a, RW P ops C Lq rest ts ((fun u => (Spc.blk base vs).T u v) :: Fs) a → K a) → K (a.put o.dst v)) : RW P ops C Lq (o :: rest) (Spc.blk base vs :: ts) Fs a := by
  refine r_any (wanted_none hgd) (fun u hu hn => ?_) h
  unfold execOp
  simp only [ho, Sem.run_bind, Instr.alloc, (zero_of_info hz).1, newVar, newRow, run_newObj_alloc, Sem.run_pure, Result.andThen_ok]
  exact ⟨(Below.refl _ _).alloc (Nat.le_refl _) _, ⟨_, rfl⟩, ⟨_, rfl, hbase u hu, by show _ < (u.heap.push _).size; simp, Blk.of_row (heap_alloc_last u _)⟩⟩
/-- a row of bytes is made -/
theorem r_row (hgd : o.guard = none) {l : List UInt8} (t : TypeId) (hr : ∀ u, C u → (execOp a.eval o).run P u = .ok (.value (.slice (some ⟨u.heap.size, 0, none⟩) l.length l.length)) (u.alloc (.cells (ks .u8 (Mc.nb l)).toArray t)))
    (h : ∀ v, (Spc.bytes l).S v → ∀ K : Act → Prop, (∀ a, RW P ops C Lq rest ts ((fun u => (Spc.bytes l).T u v) :: Fs) a → K a) → K (a.put o.dst v)) : RW P ops C Lq (o :: rest) (Spc.bytes l :: ts) Fs a := by
  refine r_any (wanted_none hgd) (fun u hu hn => ?_) h
  rw [hr u hu]
  exact ⟨(Below.refl _ _).alloc (Nat.le_refl _) _, ⟨_, rfl⟩, ⟨_, rfl, by show _ < (u.heap.push _).size; simp, Arr.new .u8 u _ t⟩⟩
end

section

variable {ops : Array Oper} {rest : List Oper} {o : Oper} {a : Act} {C : World → Prop} {Lq : Act → List (World → Prop) → Prop} {ts : List Spc} {Fs : List (World → Prop)}

/-- make([]byte, n) -/
theorem r_make (hgd : o.guard = none) (x y : Operand) (ho : o.op = .makeSlice 84 x y) (n : Nat) (hx : a.eval x = .int .i64 (n : Int)) (hy : a.eval y = .int .i64 (n : Int)) (hn : n ≤ 281474976710656) {l : List UInt8} (hl : List.replicate n 0 = l)
    (h : ∀ v, (Spc.bytes l).S v → ∀ K : Act → Prop, (∀ a, RW Try.prog ops C Lq rest ts ((fun u => (Spc.bytes l).T u v) :: Fs) a → K a) → K (a.put o.dst v)) : RW Try.prog ops C Lq (o :: rest) (Spc.bytes l :: ts) Fs a := by
  subst hl
  refine r_any (wanted_none hgd) (fun u hu _ => ?_) h
  obtain ⟨wm, hr, hrow, hb, hz⟩ := Mc.make_row u n hn
  have e : (execOp a.eval o).run Try.prog u = .ok (.value (.slice (some ⟨u.heap.size, 0, none⟩) n n)) wm := by
    unfold execOp
    simp only [ho, hx, hy, Sem.run_bind, hr, Result.andThen_ok, Sem.run_pure]
  rw [e]
  refine ⟨hb, ⟨_, by rw [List.length_replicate]⟩, ⟨_, by rw [List.length_replicate], by omega, ?_⟩⟩
  rw [Mc.nb_zero]
  exact Mc.Arr.of_row hrow
/-- string(b), the row made by operation j -/
theorem r_str (hgd : o.guard = none) (x : Operand) (ho : o.op = .convert 84 9 x) (j i : Nat) (hj : o.after.toList.any (fun e => Region.binds .any e && e.on == j) = true) (hi : Fs.length = i + j + 1) (l : List UInt8) (v : Value) (hF : Fs[i]? = some (fun u => (Spc.bytes l).T u v)) (hx : a.eval x = v) {s : ByteArray} (hs : P.S l = s)
    (h : ∀ K : Act → Prop, (∀ a, RW Try.prog ops C Lq rest ts ((fun _ => True) :: Fs) a → K a) → K (a.put o.dst (.string s))) : RW Try.prog ops C Lq (o :: rest) (Spc.eq (.string s) :: ts) Fs a := by
  subst hs
  refine r_value hgd (fun u hu hn => ?_) h
  obtain ⟨b, rfl, hlt, ha⟩ := hn.get j i hj hi _ hF
  have hcv := run_convert_bytes_back (P := Try.prog) u 84 9 5 ⟨b, 0, none⟩ l.length l Try.underlying84 Try.underlying5 Try.underlying9 (fun j hj => by
    rw [Addr.add_mid]
    have c := Arr.cell ha j (by rw [Mc.nb_length]; exact hj)
    rw [Mc.nb_getD l j l[j] (by simp [hj])] at c
    rw [Nat.zero_add]
    exact c)
  unfold execOp
  simp only [ho, hx, Sem.run_bind, hcv, Result.andThen_ok, Sem.run_pure]
  rfl
end

end Go.Proofs.Ytkiaehehckmpnaa

namespace Go.Proofs.Ytkiaehehckmpnaa.It

open Go.RowKit Go.Proofs.Ytkiaehehckmpnaa.Vc Go.Proofs.Ytkiaehehckmpnaa.Sp

set_option linter.unusedVariables false

set_option linter.unusedSimpArgs false

set_option maxRecDepth 100000

/-- such a value -/
def PV (x : I.Wt) (own : Bool) (K : Nat) : Value := .agg (wc x ++ [Value.bool own, Value.int .u8 (K : Int)]).toArray
theorem write_not (x : I.Wt) (K : Nat) (w : World) :
    Calls Try.prog 12 #[PV x false K] w fun e w' => e = .returned (WV x) ∧ Below w.heap.size w w' := by
  obtain ⟨b, k, v, g⟩ := x
  go_enter Try.func12, Try.ntmps12
  go_wp2_with (first | refine blk_box rfl 43 _ rfl [.string b, .string k, .string v, .bool g, .bool false, .int .u8 (K : Int)] rfl ?_)
  intro w1 A1 B1 Z1
  go_wp2_with (first | refine blk_alloc rfl 41 (wc I.none_) rfl Try.info_iw2 ?_)
  intro w2 A2 B2 Z2
  have HA2 : Hid (Blk w2 w.heap.size (wc (b, k, v, g) ++ [Value.bool false, Value.int .u8 (K : Int)])) := Blk.below A1 B2 (by omega)
  have HB2 : Hid (Blk w2 (w.heap.size + 1) (wc I.none_)) := A2
  have HW2 : Hid (Below w.heap.size w w2) := B1.trans (B2.mono (by omega))
  have c4 := HA2.out.cell 4 (.bool false) rfl
  clear A1 B1 A2 B2 Z1 Z2
  go_wp2_with (first | refine sub_load rfl 41 _ rfl w.heap.size rfl (wc (b, k, v, g)) [.bool false, .int .u8 (K : Int)] HA2.out _ Try.underlying41 rfl Try.size_w ?_ | refine blk_store rfl 41 _ _ rfl (w.heap.size + 1) rfl (wc (b, k, v, g)) rfl _ HB2.out rfl Try.size_w rfl ?_)
  intro u A U
  have HA9 : Hid (Blk u (w.heap.size + 1) (wc (b, k, v, g))) := A
  have HW9 : Hid (Below w.heap.size w u) := Below.trans HW2.out (U.below (by omega))
  clear A U
  go_wp2_with fail
  refine bodyPost_ret (v := WV (b, k, v, g)) ?_ rfl ⟨rfl, HW9.out⟩
  exact res_blk1 (t := 41) Try.results12 _ (w.heap.size + 1) rfl _ HA9.out _ Try.underlying41 rfl Try.size_w
set_option maxHeartbeats 4000000 in
theorem write_own (x : I.Wt) (K : Nat) (w : World) (hK : K < 256) (hv : x.2.2.1.size ≤ maxLen) :
    Calls Try.prog 12 #[PV x true K] w fun e w' => e = .returned (WV (I.putW x true K)) ∧ Below w.heap.size w w' := by
  obtain ⟨b, k, v, g⟩ := x
  simp only at hv
  unfold maxLen at hv
  obtain ⟨r2, h2⟩ : ∃ r, r = K % 2 := ⟨_, rfl⟩
  obtain ⟨hf, hh⟩ : ∃ r, r = K / 2 := ⟨_, rfl⟩
  obtain ⟨r4, h4⟩ : ∃ r, r = hf % 4 := ⟨_, rfl⟩
  have t2 : Hid ((K : Int).tmod 2 = (r2 : Int) ∧ (K : Int) % 2 = (r2 : Int)) := ⟨by rw [Int.tmod_eq_emod_of_nonneg (by omega), h2]; rfl, by rw [h2]; rfl⟩
  have th : Hid ((K : Int).tdiv 2 = (hf : Int) ∧ (K : Int) / 2 = (hf : Int)) := ⟨by rw [Int.tdiv_eq_ediv_of_nonneg (by omega), hh]; rfl, by rw [hh]; rfl⟩
  have t4 : Hid ((hf : Int).tmod 4 = (r4 : Int) ∧ (hf : Int) % 4 = (r4 : Int)) := ⟨by rw [Int.tmod_eq_emod_of_nonneg (by omega), h4]; rfl, by rw [h4]; rfl⟩
  have w8 : ∀ x : Int, 0 ≤ x → x < 256 → IntKind.u8.wrap x = x := fun x h0 h1 => by
    have h2 : x % 256 = x := Int.emod_eq_of_lt h0 h1
    simpa [IntKind.wrap, IntKind.bits, IntKind.signed] using h2
  have ew2 : Hid (IntKind.u8.wrap (r2 : Int) = (r2 : Int)) := w8 _ (by omega) (by omega)
  have ew4 : Hid (IntKind.u8.wrap (r4 : Int) = (r4 : Int)) := w8 _ (by omega) (by omega)
  have e1 : Hid (IntKind.u8.wrap (48 + (r2 : Int)) = ((48 + r2 : Nat) : Int)) := by show _ = _; rw [w8 _ (by omega) (by omega)]; omega
  have e2 : Hid (IntKind.u8.wrap (97 + (r4 : Int)) = ((97 + r4 : Nat) : Int)) := by show _ = _; rw [w8 _ (by omega) (by omega)]; omega
  have e3 : Hid (IntKind.u8.wrap (hf : Int) = (hf : Int)) := w8 _ (by omega) (by omega)
  have HPW : Hid (I.putW (b, k, v, g) true K = (⟨#[98, UInt8.ofNat (48 + r2)]⟩, ⟨#[UInt8.ofNat (97 + r4)]⟩, if 224 ≤ K then ⟨#[]⟩ else v.extract 0 (min v.size 8), decide (224 ≤ K))) := by show _ = _; rw [h4, hh, h2]; rfl
  have b2 : r2 < 2 := by omega
  have b4 : r4 < 4 := by omega
  clear w8 h2 hh h4
  obtain ⟨c2, HC2⟩ : ∃ c, Hid (48 + r2 = c) := ⟨_, rfl⟩
  obtain ⟨c4, HC4⟩ : ∃ c, Hid (97 + r4 = c) := ⟨_, rfl⟩
  have hc2 : c2 < 256 := by rw [← HC2.out]; omega
  have hc4 : c4 < 256 := by rw [← HC4.out]; omega
  rw [HC2.out] at e1 HPW
  rw [HC4.out] at e2 HPW
  have u2 : Hid (((UInt8.ofNat c2).toNat : Int) = (c2 : Int)) := by show _ = _; rw [P.ofNat_toNat_lt c2 hc2]
  have u4 : Hid (((UInt8.ofNat c4).toNat : Int) = (c4 : Int)) := by show _ = _; rw [P.ofNat_toNat_lt c4 hc4]
  obtain ⟨mn, hmn⟩ : ∃ m, m = min v.size 8 := ⟨_, rfl⟩
  have imn : mn ≤ v.size := by omega
  have hmin : Hid ((if (8 : Int) < (v.size : Int) then (8 : Int) else (v.size : Int)) = (mn : Int)) := by show _ = _; split <;> omega
  rw [← hmn] at HPW
  obtain ⟨sv, HSV⟩ : ∃ z, Hid (v.extract 0 mn = z) := ⟨_, rfl⟩
  rw [HSV.out] at HPW
  obtain ⟨gb, HGB⟩ : ∃ z, Hid (decide (224 ≤ K) = z) := ⟨_, rfl⟩
  have HGE : Hid (decide ((224 : Int) ≤ (K : Int)) = gb) := by show _ = _; rw [← HGB.out]; exact decide_eq_decide.2 (by omega)
  obtain ⟨sb, HSB⟩ : ∃ z, Hid ((⟨#[98, UInt8.ofNat c2]⟩ : ByteArray) = z) := ⟨_, rfl⟩
  obtain ⟨sk, HSK⟩ : ∃ z, Hid ((⟨#[UInt8.ofNat c4]⟩ : ByteArray) = z) := ⟨_, rfl⟩
  obtain ⟨R, HR⟩ : ∃ z, Hid (I.putW (b, k, v, g) true K = z) := ⟨_, rfl⟩
  rw [HR.out]
  clear hmn b2 b4
  go_enter Try.func12, Try.ntmps12
  go_wp2_with (first | refine blk_box rfl 43 _ rfl [.string b, .string k, .string v, .bool g, .bool true, .int .u8 (K : Int)] rfl ?_)
  intro w1 A1 B1 Z1
  go_wp2_with (first | refine blk_alloc rfl 41 (wc I.none_) rfl Try.info_iw2 ?_)
  intro w2 A2 B2 Z2
  have HA2 : Hid (Blk w2 w.heap.size [.string b, .string k, .string v, .bool g, .bool true, .int .u8 (K : Int)]) := Blk.below A1 B2 (by omega)
  have HB2 : Hid (Blk w2 (w.heap.size + 1) (wc I.none_)) := A2
  have HW2 : Hid (Below w.heap.size w w2) := B1.trans (B2.mono (by omega))
  have HZ2 : Hid (w.heap.size + 1 < w2.heap.size) := by show _ < _; omega
  have q4 := HA2.out.cell 4 (.bool true) rfl
  clear A1 B1 A2 B2 Z1 Z2
  have K5 : Hid (∀ u, Below w2.heap.size w2 u → u.cell? ⟨w.heap.size, 5, none⟩ = some (.int .u8 (K : Int))) := fun u hu => (Blk.below HA2.out hu (Nat.lt_of_succ_lt HZ2.out)).cell 5 _ rfl
  have K2 : Hid (∀ u, Below w2.heap.size w2 u → u.cell? ⟨w.heap.size, 2, none⟩ = some (.string v)) := fun u hu => (Blk.below HA2.out hu (Nat.lt_of_succ_lt HZ2.out)).cell 2 _ rfl
  go_wp2_with fail
  refine region_relt 27 [Spc.eq (.pointer (some ⟨w.heap.size, 5, none⟩)), Spc.eq (.int .u8 (K : Int)), Spc.eq (.int .u8 (r2 : Int)), Spc.eq (.int .u8 (c2 : Int)), Spc.bytes [98, UInt8.ofNat c2], Spc.eq (.string sb), Spc.eq (.pointer (some ⟨w.heap.size, 5, none⟩)), Spc.eq (.int .u8 (K : Int)), Spc.eq (.int .u8 (hf : Int)), Spc.eq (.int .u8 (r4 : Int)), Spc.eq (.int .u8 (c4 : Int)), Spc.bytes [UInt8.ofNat c4], Spc.eq (.string sk), Spc.eq (.pointer (some ⟨w.heap.size, 0, none⟩)), Spc.eq (.pointer (some ⟨w.heap.size, 2, none⟩)), Spc.eq (.string v), Spc.eq (.pointer (some ⟨w.heap.size, 0, none⟩)), Spc.eq (.pointer (some ⟨w.heap.size, 2, none⟩)), Spc.eq (.string v), Spc.eq (.int .i64 (v.size : Int)), Spc.eq (.int .i64 (mn : Int)), Spc.eq (.string sv), Spc.eq (.pointer (some ⟨w.heap.size, 5, none⟩)), Spc.eq (.int .u8 (K : Int)), Spc.eq (.bool gb), Spc.eq (.agg #[.string sb, .string sk, .string sv, .bool gb]), Spc.blk w2.heap.size (wc I.none_)] Try.mixed (by kernel_rfl) ?_
  refine r_value rfl (fun u hu hn => by go_simp) (fun K hK => ?_)
  go_simp
  refine hK _ ?_
  clear hK K
  refine r_value rfl (fun u hu hn => by have hc := K5.out u hu; go_simp) (fun K hK => ?_)
  go_simp
  refine hK _ ?_
  clear hK K
  refine r_value rfl (fun u hu hn => by have e1 := t2.out.1; have e2 := t2.out.2; have e3 := ew2.out; go_simp) (fun K hK => ?_)
  go_simp
  refine hK _ ?_
  clear hK K
  refine r_value rfl (fun u hu hn => by have e4 := e1.out; go_simp) (fun K hK => ?_)
  go_simp
  refine hK _ ?_
  clear hK K
  refine r_row rfl 5 (fun u hu => by have e4 := u2.out; have e5 : ks .u8 (Mc.nb [98, UInt8.ofNat c2]) = [Value.int .u8 98, Value.int .u8 (c2 : Int)] := (by show [Value.int .u8 98, Value.int .u8 (((UInt8.ofNat c2).toNat : Nat) : Int)] = _; rw [e4]); rw [e5]; go_simp) (fun v hv K hK => ?_)
  obtain ⟨b1, rfl⟩ := hv
  go_simp
  refine hK _ ?_
  clear hK K
  refine r_str rfl _ rfl 4 0 rfl rfl [98, UInt8.ofNat c2] _ rfl rfl HSB.out (fun K hK => ?_)
  go_simp
  refine hK _ ?_
  clear hK K
  refine r_value rfl (fun u hu hn => by go_simp) (fun K hK => ?_)
  go_simp
  refine hK _ ?_
  clear hK K
  refine r_value rfl (fun u hu hn => by have hc := K5.out u hu; go_simp) (fun K hK => ?_)
  go_simp
  refine hK _ ?_
  clear hK K
  refine r_value rfl (fun u hu hn => by have e1 := th.out.1; have e2 := th.out.2; have e4 := e3.out; go_simp) (fun K hK => ?_)
  go_simp
  refine hK _ ?_
  clear hK K
  refine r_value rfl (fun u hu hn => by have e1 := t4.out.1; have e2 := t4.out.2; have e3 := ew4.out; go_simp) (fun K hK => ?_)
  go_simp
  refine hK _ ?_
  clear hK K
  refine r_value rfl (fun u hu hn => by have e4 := e2.out; go_simp) (fun K hK => ?_)
  go_simp
  refine hK _ ?_
  clear hK K
  refine r_row rfl 5 (fun u hu => by have e4 := u4.out; have e5 : ks .u8 (Mc.nb [UInt8.ofNat c4]) = [Value.int .u8 (c4 : Int)] := (by show [Value.int .u8 (((UInt8.ofNat c4).toNat : Nat) : Int)] = _; rw [e4]); rw [e5]; go_simp) (fun v hv K hK => ?_)
  obtain ⟨b2, rfl⟩ := hv
  go_simp
  refine hK _ ?_
  clear hK K
  refine r_str rfl _ rfl 11 0 rfl rfl [UInt8.ofNat c4] _ rfl rfl HSK.out (fun K hK => ?_)
  go_simp
  refine hK _ ?_
  clear hK K
  refine r_value rfl (fun u hu hn => by go_simp) (fun K hK => ?_)
  go_simp
  refine hK _ ?_
  clear hK K
  refine r_value rfl (fun u hu hn => by go_simp) (fun K hK => ?_)
  go_simp
  refine hK _ ?_
  clear hK K
  refine r_value rfl (fun u hu hn => by have hc := K2.out u hu; go_simp) (fun K hK => ?_)
  go_simp
  refine hK _ ?_
  clear hK K
  refine r_value rfl (fun u hu hn => by go_simp) (fun K hK => ?_)
  go_simp
  refine hK _ ?_
  clear hK K
  refine r_value rfl (fun u hu hn => by go_simp) (fun K hK => ?_)
  go_simp
  refine hK _ ?_
  clear hK K
  refine r_value rfl (fun u hu hn => by have hc := K2.out u hu; go_simp) (fun K hK => ?_)
  go_simp
  refine hK _ ?_
  clear hK K
  refine r_value rfl (fun u hu hn => by go_simp) (fun K hK => ?_)
  go_simp
  refine hK _ ?_
  clear hK K
  refine r_value rfl (fun u hu hn => by have e4 := hmin.out; go_simp) (fun K hK => ?_)
  go_simp
  refine hK _ ?_
  clear hK K
  refine r_value rfl (fun u hu hn => by have e4 := HSV.out; go_simp) (fun K hK => ?_)
  go_simp
  refine hK _ ?_
  clear hK K
  refine r_value rfl (fun u hu hn => by go_simp) (fun K hK => ?_)
  go_simp
  refine hK _ ?_
  clear hK K
  refine r_value rfl (fun u hu hn => by have hc := K5.out u hu; go_simp) (fun K hK => ?_)
  go_simp
  refine hK _ ?_
  clear hK K
  refine r_value rfl (fun u hu hn => by have e4 := HGE.out; go_simp) (fun K hK => ?_)
  go_simp
  refine hK _ ?_
  clear hK K
  refine r_value rfl (fun u hu hn => by go_simp) (fun K hK => ?_)
  go_simp
  refine hK _ ?_
  clear hK K
  refine r_new rfl 41 rfl Try.info_iw2 (fun u hu => hu.size) (fun v hv K hK => ?_)
  obtain ⟨b3, rfl⟩ := hv
  go_simp
  refine hK _ ?_
  clear hK K
  refine r_nil ?_
  intro u hu hF
  obtain ⟨b', eb, hB, hlt, hblk⟩ := hF 0 _ rfl
  obtain rfl : b3 = b' := by injection eb with h; injection h with h; injection h
  have HU2 : Hid (Below w.heap.size w u) := Below.trans HW2.out (hu.mono HW2.out.size)
  have HBu : Hid (Blk u (w.heap.size + 1) (wc I.none_)) := Blk.below HB2.out hu HZ2.out
  have hz2 := HZ2.out
  have hne : w.heap.size + 1 < b3 := by omega
  clear eb hF hu hlt hB HW2 HB2 HZ2 HA2 q4 K5 K2
  refine blk_store rfl 41 _ _ rfl b3 rfl [.string sb, .string sk, .string sv, .bool gb] rfl _ hblk rfl Try.size_w rfl ?_
  intro k A U
  have HA : Hid (Blk k b3 [.string sb, .string sk, .string sv, .bool gb]) := A
  have HB : Hid (Below w.heap.size w k) := Below.trans HU2.out (U.below (by omega))
  have HC : Hid (Blk k (w.heap.size + 1) (wc I.none_)) := Blk.upd HBu.out U (by omega)
  clear A U hblk HU2 HBu hz2
  have q3 := HA.out.cell 3 _ rfl
  have q2 := HA.out.cell 2 _ rfl
  have f2 := HA.out.free 2 (by simp)
  cases gb with
  | true =>
    have hge : 224 ≤ K := of_decide_eq_true HGB.out
    obtain rfl : (sb, sk, ⟨#[]⟩, true) = R := by rw [← HR.out, HPW.out, HSB.out, HSK.out, if_pos hge, HGB.out]
    have U1 : Upd b3 k (k.setCell ⟨b3, 2, none⟩ (.string ⟨#[]⟩)) := Upd.setCell _ _ _ _
    have HA1 : Hid (Blk (k.setCell ⟨b3, 2, none⟩ (.string ⟨#[]⟩)) b3 [.string sb, .string sk, .string ⟨#[]⟩, .bool true]) := Blk.setc HA.out 2 (by simp) (.string ⟨#[]⟩)
    have HC1 : Hid (Blk (k.setCell ⟨b3, 2, none⟩ (.string ⟨#[]⟩)) (w.heap.size + 1) (wc I.none_)) := Blk.upd HC.out U1 (by omega)
    have HB1 : Hid (Below w.heap.size w (k.setCell ⟨b3, 2, none⟩ (.string ⟨#[]⟩))) := Below.trans HB.out (U1.below (by omega))
    clear U1
    go_wp2_with (first | refine blk_load rfl 41 _ rfl b3 rfl [.string sb, .string sk, .string ⟨#[]⟩, .bool true] HA1.out _ Try.underlying41 rfl Try.size_w ?_ | refine blk_store rfl 41 _ _ rfl (w.heap.size + 1) rfl [.string sb, .string sk, .string ⟨#[]⟩, .bool true] rfl _ HC1.out rfl Try.size_w rfl ?_)
    intro u9 A9 U9
    have HA9 : Hid (Blk u9 (w.heap.size + 1) [.string sb, .string sk, .string ⟨#[]⟩, .bool true]) := A9
    have HW9 : Hid (Below w.heap.size w u9) := Below.trans HB1.out (U9.below (by omega))
    clear A9 U9
    go_wp2_with fail
    refine bodyPost_ret (v := WV (sb, sk, ⟨#[]⟩, true)) ?_ rfl ⟨rfl, HW9.out⟩
    exact res_blk1 (t := 41) Try.results12 _ (w.heap.size + 1) rfl _ HA9.out _ Try.underlying41 rfl Try.size_w
  | false =>
    have hge : ¬ 224 ≤ K := of_decide_eq_false HGB.out
    obtain rfl : (sb, sk, sv, false) = R := by rw [← HR.out, HPW.out, HSB.out, HSK.out, if_neg hge, HGB.out]
    go_wp2_with (first | refine blk_load rfl 41 _ rfl b3 rfl [.string sb, .string sk, .string sv, .bool false] HA.out _ Try.underlying41 rfl Try.size_w ?_ | refine blk_store rfl 41 _ _ rfl (w.heap.size + 1) rfl [.string sb, .string sk, .string sv, .bool false] rfl _ HC.out rfl Try.size_w rfl ?_)
    intro u9 A9 U9
    have HA9 : Hid (Blk u9 (w.heap.size + 1) [.string sb, .string sk, .string sv, .bool false]) := A9
    have HW9 : Hid (Below w.heap.size w u9) := Below.trans HB.out (U9.below (by omega))
    clear A9 U9
    go_wp2_with fail
    refine bodyPost_ret (v := WV (sb, sk, sv, false)) ?_ rfl ⟨rfl, HW9.out⟩
    exact res_blk1 (t := 41) Try.results12 _ (w.heap.size + 1) rfl _ HA9.out _ Try.underlying41 rfl Try.size_w
theorem write_any (x : I.Wt) (own : Bool) (K : Nat) (w : World) (hK : K < 256) (hv : x.2.2.1.size ≤ maxLen) :
    Calls Try.prog 12 #[PV x own K] w fun e w' => e = .returned (WV (I.putW x own K)) ∧ Below w.heap.size w w' := by
  cases own with
  | false => exact write_not x K w
  | true => exact write_own x K w hK hv
end Go.Proofs.Ytkiaehehckmpnaa.It

namespace Go.Proofs.Ytkiaehehckmpnaa.I

set_option linter.unusedVariables false

/-- a write by its parts: the write, a flag, a number -/
abbrev Pt := Wt × Bool × Nat
def pnone : Pt := (none_, false, 0)
structure POk (p : Pt) : Prop where
  w : Ok p.1
  k : p.2.2 < 256
def pw (whole : Bool) (p : Pt) : Wt := putW p.1 (whole || p.2.1) p.2.2
/-- is the key of y among the first n? -/
def tw (out : List Wt) (y : Wt) (n : Nat) : Bool := (out.take n).any fun z => decide (key z = key y)
def wstep (whole : Bool) (out : List Wt) (p : Pt) : List Wt := if (!whole || !tw out (pw whole p) out.length) = true then out ++ [pw whole p] else out
def wrs (most : Nat) (whole : Bool) : List Pt → List Wt → List Wt
  | [], out => out
  | p :: l, out => if out.length < most then wrs most whole l (wstep whole out p) else out
theorem tw_step (out : List Wt) (y : Wt) (n : Nat) (h : n < out.length) : tw out y (n + 1) = (tw out y n || decide (key (out.getD n none_) = key y)) := by
  unfold tw
  rw [List.take_succ_eq_append_getElem h, List.any_append, List.getD_eq_getElem?_getD, List.getElem?_eq_getElem h]
  simp
theorem drop_step (L : List Pt) (j : Nat) (h : j < L.length) : L.drop j = L.getD j pnone :: L.drop (j + 1) := by
  rw [List.drop_eq_getElem_cons h, List.getD_eq_getElem?_getD, List.getElem?_eq_getElem h]
  rfl
end Go.Proofs.Ytkiaehehckmpnaa.I

namespace Go.Proofs.Ytkiaehehckmpnaa.It

open Go.RowKit Go.Proofs.Ytkiaehehckmpnaa.Vc Go.Proofs.Ytkiaehehckmpnaa.Sp

set_option linter.unusedVariables false

set_option linter.unusedSimpArgs false

set_option maxRecDepth 100000

def pc (p : I.Pt) : List Value := wc p.1 ++ [Value.bool p.2.1, Value.int .u8 (p.2.2 : Int)]
/-- v is a slice that holds these -/
structure IsPs (w : World) (v : Value) (L : List I.Pt) : Prop where
  is : ∃ a cap, v = .slice a L.length cap ∧ L.length ≤ cap ∧ cap ≤ maxLen ∧ (L ≠ [] → ∃ b off, a = some ⟨b, off, none⟩ ∧ b < w.heap.size ∧ ∀ i x, L[i]? = some x → w.rangeAt b (off + 6 * i) (pc x))
theorem IsPs.below {w w' : World} {v : Value} {L : List I.Pt} (h : IsPs w v L) (hb : Below w.heap.size w w') : IsPs w' v L := by
  obtain ⟨a, cap, hv, h1, h2, h3⟩ := h.is
  refine ⟨a, cap, hv, h1, h2, fun hn => ?_⟩
  obtain ⟨b, off, ha, hlt, hW⟩ := h3 hn
  refine ⟨b, off, ha, Nat.lt_of_lt_of_le hlt hb.size, fun i x hx j v hv => ?_⟩
  rw [hb.cell (p := ⟨b, off + 6 * i + j, none⟩) hlt]
  exact hW i x hx j v hv
theorem IsPs.at {w : World} {v : Value} {L : List I.Pt} (h : IsPs w v L) (i : Nat) (hi : i < L.length) : ∃ b off cap, v = .slice (some ⟨b, off, none⟩) L.length cap ∧ b < w.heap.size ∧ w.rangeAt b (off + 6 * i) (pc (L.getD i I.pnone)) := by
  obtain ⟨a, cap, hv, h1, h2, h3⟩ := h.is
  obtain ⟨b, off, rfl, hlt, hW⟩ := h3 (fun e => by rw [e] at hi; exact absurd hi (by simp))
  refine ⟨b, off, cap, hv, hlt, hW i _ ?_⟩
  rw [List.getD_eq_getElem?_getD, List.getElem?_eq_getElem hi]; rfl
theorem Try.elem_p : Try.prog.elem 75 = 43 := by kernel_rfl
theorem Try.size_p : (Try.prog.info? 43).map (·.size) = some 6 := by kernel_rfl
theorem Try.info_p : (Try.prog.info? 43).map (fun i => (i.zero, i.size)) = some (some (.agg (pc I.pnone).toArray), (pc I.pnone).length) := by kernel_rfl
theorem index_p (b o n cap j : Nat) (hj : j < n) (w : World) : (Instr.indexAt 75 (.slice (some ⟨b, o, none⟩) n cap) (.int .i64 (j : Int))).run Try.prog w = .ok (.pointer (some ⟨b, o + 6 * j, none⟩)) w := by
  rw [run_indexAt_slice w _ _ _ _ _ _ (by rw [Try.elem_p]; exact Try.underlying75), Try.elem_p]
  rw [if_pos ⟨by omega, by omega⟩, Try.sizeOf43]
  have e : (⟨b, o, none⟩ : Addr).add ((j : Int).toNat * 6) = ⟨b, o + 6 * j, none⟩ := by
    rw [Int.toNat_natCast, Nat.mul_comm]
    unfold Addr.add
    split <;> simp_all
  simp
  rw [Int.toNat_natCast] at e
  exact e
set_option maxHeartbeats 16000000 in
theorem writes_false (v : Value) (L : List I.Pt) (most : Nat) (w : World) (hL : IsPs w v L) (hP : ∀ p ∈ L, I.POk p) (hm : most ≤ 20) :
    Calls Try.prog 35 #[v, .int .i64 (most : Int), .bool false] w fun e w' => ∃ v', e = .returned v' ∧ OW 41 w' w.heap.size v' (I.wrs most false L []) ∧ Below w.heap.size w w' := by
  obtain ⟨sa, cap, rfl, hca, hma, _⟩ := hL.is
  have hnb : L.length ≤ 9223372036854775807 := by unfold maxLen at hma; omega
  obtain ⟨n, HN⟩ : ∃ n, Hid (L.length = n) := ⟨_, rfl⟩
  have HL := Lib.hid hL
  have HPO := Lib.hid hP
  rw [HN.out] at HL hnb
  rw [HN.out]
  obtain ⟨R, HR⟩ : ∃ r, Hid (I.wrs most false L [] = r) := ⟨_, rfl⟩
  rw [HR.out]
  have HO1 : Hid (OW 41 w w.heap.size (.slice none 0 0) []) := OW.nil _ _ _
  have HB1 : Hid (Below w.heap.size w w) := Below.refl _ _
  have HR0 : Hid (I.wrs most false (L.drop 0) [] = R) := HR.out
  have HZ0 : Hid (([] : List I.Wt).length ≤ 20) := Nat.zero_le _
  clear hL hca hma hP HR
  go_enter Try.func35, Try.ntmps35
  go_wp2_with fail
  go_loopw [7, 8] (fun t i wr => ∃ (j : Nat) (out : List I.Wt), j ≤ n ∧ i = .int .i64 j ∧ Hid (I.wrs most false (L.drop j) out = R) ∧ Hid (out.length ≤ 20) ∧ Hid (OW 41 wr w.heap.size t out) ∧ Hid (Below w.heap.size w wr)) (fun _ i _ => n - (intOf i).toNat)
  case atStart => exact ⟨0, [], by omega, rfl, HR0, HZ0, HO1, HB1⟩
  case round =>
    obtain ⟨j, out, hj, rfl, HRj, HLj, XV50, W50⟩ := hrel
    clear HB1 HO1 HR0 HZ0
    obtain ⟨wa, rfl⟩ : ∃ x : World, x = wr := ⟨_, rfl⟩
    obtain ⟨av, cv, ev, _⟩ := XV50.out.is.is
    subst ev
    have HLT : Hid (∀ g o n c, Value.slice av out.length cv = .slice (some ⟨g, o, none⟩) n c → g < wa.heap.size) := OW.lt XV50.out
    obtain ⟨m, HM⟩ : ∃ q, Hid (out.length = q) := ⟨_, rfl⟩
    rw [HM.out] at XV50 HLT HLj
    have hm10 := HLj.out
    have hwa : w.heap.size ≤ wa.heap.size := W50.out.size
    rw [HM.out]
    by_cases hlt : j < n
    · have ilt : (j : Int) < (n : Int) := by omega
      by_cases hmm : m < most
      · have imm : (m : Int) < (most : Int) := by omega
        obtain ⟨g, off, cap', hv, hg0, hrow0⟩ := IsPs.at HL.out j (by rw [HN.out]; exact hlt)
        obtain rfl : sa = some ⟨g, off, none⟩ := by injection hv
        clear hv
        have HROW : Hid (wa.rangeAt g (off + 6 * j) (pc (L.getD j I.pnone))) := fun k v hv => by rw [W50.out.cell (p := ⟨g, off + 6 * j + k, none⟩) hg0]; exact hrow0 k v hv
        have hmem : L.getD j I.pnone ∈ L := by
          rw [List.getD_eq_getElem?_getD, List.getElem?_eq_getElem (by rw [HN.out]; exact hlt)]
          exact List.getElem_mem _
        have hpo := HPO.out _ hmem
        have hdr := I.drop_step L j (by rw [HN.out]; exact hlt)
        obtain ⟨p, HX⟩ : ∃ x, Hid (L.getD j I.pnone = x) := ⟨_, rfl⟩
        rw [HX.out] at HROW hpo hdr
        obtain ⟨x, own, K⟩ := p
        have hvl : x.2.2.1.size ≤ maxLen := by have := hpo.w.v; simp only at this; unfold maxLen; omega
        have hK : K < 256 := hpo.k
        have CW := Lib.hid (fun w => write_any x (false || own) K w hK hvl)
        obtain ⟨y, HY⟩ : ∃ y, Hid (I.pw false (x, own, K) = y) := ⟨_, rfl⟩
        rw [show I.putW x (false || own) K = y from HY.out] at CW
        have HST : Hid (I.wrs most false (L.drop (j + 1)) (I.wstep false out (x, own, K)) = R) := by
          show _ = _
          rw [← HRj.out, hdr, I.wrs, HM.out, if_pos hmm]
        unfold I.wstep at HST
        rw [HY.out, HM.out] at HST
        have hix : ∀ w, (Instr.indexAt 75 (.slice (some ⟨g, off, none⟩) n cap) (.int .i64 (j : Int))).run Try.prog w = .ok (.pointer (some ⟨g, off + 6 * j, none⟩)) w := fun w => index_p g off n cap j hlt w
        clear hrow0 hmem hpo hdr HRj hvl hK
        obtain ⟨xb, xk, xv, xg⟩ := x
        go_wp2_with (first | refine mid_load rfl 43 _ rfl g (off + 6 * j) rfl [.string xb, .string xk, .string xv, .bool xg, .bool own, .int .u8 (K : Int)] HROW.out _ Try.underlying43 rfl Try.size_p ?_ | refine blk_alloc rfl 43 (pc I.pnone) rfl Try.info_p ?_)
        intro k51 A51 B51 Z51
        go_wp2_with (first | refine blk_store rfl 43 _ _ rfl (wa.heap.size) rfl [.string xb, .string xk, .string xv, .bool xg, .bool own, .int .u8 (K : Int)] rfl _ A51 rfl Try.size_p rfl ?_)
        intro k52 A52 U52
        have hb52 : Below wa.heap.size wa k52 := B51.trans (U52.below (Nat.le_refl _))
        have HP52_ : Hid (Blk k52 (wa.heap.size) [.string xb, .string xk, .string xv, .bool xg, .bool own, .int .u8 (K : Int)]) := A52
        have LP52_ : Hid (wa.heap.size < k52.heap.size) := by show _ < _; rw [U52.size]; omega
        have XV52 := Lib.hid (OW.below XV50.out hb52)
        have W52 : Hid (Below w.heap.size w k52) := Below.trans W50.out (hb52.mono W50.out.size)
        have HP52 := HP52_
        have LP52 := LP52_
        clear hb52 A51 B51 Z51 A52 U52 HP52_ LP52_ XV50 W50
        clear hix HROW
        go_wp2_with (first | refine blk_load rfl 43 _ rfl (wa.heap.size) rfl [.string xb, .string xk, .string xv, .bool xg, .bool own, .int .u8 (K : Int)] HP52.out _ Try.underlying43 rfl Try.size_p ?_)
        refine (CW.out _).mono ?_; rintro e k53 ⟨rfl, hb53⟩
        have HP53 : Hid (Blk k53 (wa.heap.size) [.string xb, .string xk, .string xv, .bool xg, .bool own, .int .u8 (K : Int)]) := Blk.below HP52.out hb53 LP52.out
        have LP53 : Hid (wa.heap.size < k53.heap.size) := Nat.lt_of_lt_of_le LP52.out hb53.size
        have XV53 := Lib.hid (OW.below XV52.out hb53)
        have W53 : Hid (Below w.heap.size w k53) := Below.trans W52.out (hb53.mono W52.out.size)
        clear hb53 HP52 LP52 XV52 W52 
        go_wp2_with (first | refine blk_alloc rfl 41 (wc I.none_) rfl Try.info_iw2 ?_)
        intro k54 A54 B54 Z54
        go_wp2_with (first | refine blk_store rfl 41 _ _ rfl (k53.heap.size) rfl (wc y) rfl _ A54 rfl Try.size_w rfl ?_)
        intro k55 A55 U55
        have hb55 : Below k53.heap.size k53 k55 := B54.trans (U55.below (Nat.le_refl _))
        have HY55_ : Hid (Blk k55 (k53.heap.size) (wc y)) := A55
        have LY55_ : Hid (k53.heap.size < k55.heap.size) := by show _ < _; rw [U55.size]; omega
        have HP55 : Hid (Blk k55 (wa.heap.size) [.string xb, .string xk, .string xv, .bool xg, .bool own, .int .u8 (K : Int)]) := Blk.below HP53.out hb55 LP53.out
        have LP55 : Hid (wa.heap.size < k55.heap.size) := Nat.lt_of_lt_of_le LP53.out hb55.size
        have XV55 := Lib.hid (OW.below XV53.out hb55)
        have W55 : Hid (Below w.heap.size w k55) := Below.trans W53.out (hb55.mono W53.out.size)
        have HY55 := HY55_
        have LY55 := LY55_
        clear hb55 A54 B54 Z54 A55 U55 HY55_ LY55_ HP53 LP53 XV53 W53
        go_wp2_with fail
        go_loopw [11, 12] (fun t i wr => ∃ (k : Nat) (tv : Bool), k ≤ m ∧ i = .int .i64 k ∧ t = .bool tv ∧ Hid (I.tw out y k = tv) ∧ Hid (Below k55.heap.size k55 wr)) (fun _ i _ => m - (intOf i).toNat)
        case atStart => exact ⟨0, false, by omega, rfl, rfl, rfl, Below.refl _ _⟩
        case round =>
          obtain ⟨k, tv, hk, rfl, rfl, HT, HBk⟩ := hrel
          by_cases hkm : k < m
          · have ikm : (k : Int) < (m : Int) := by omega
            obtain ⟨g2, off2, cap2, hv, hg2, hrow2⟩ := IsWs.at (OW.is (OW.below XV55.out HBk.out)) k (by rw [HM.out]; exact hkm)
            have hv2 := hv
            simp only [Value.slice.injEq] at hv2
            obtain ⟨rfl, hnl, rfl⟩ := hv2
            clear hv hnl
            have hts := I.tw_step out y k (by rw [HM.out]; exact hkm)
            obtain ⟨z, HZ⟩ : ∃ z, Hid (out.getD k I.none_ = z) := ⟨_, rfl⟩
            rw [HZ.out] at hrow2 hts
            rw [HT.out] at hts
            obtain ⟨zb, zk, zv, zg⟩ := z
            obtain ⟨yb, yk, yv, yg⟩ := y
            obtain ⟨e1, HE1⟩ : ∃ r, Hid (decide (zb = yb) = r) := ⟨_, rfl⟩
            obtain ⟨e2, HE2⟩ : ∃ r, Hid (decide (zk = yk) = r) := ⟨_, rfl⟩
            have Q1 : Hid ((zb.toList == yb.toList) = e1) := by show _ = _; rw [V.tol_eq]; exact HE1.out
            have Q2 : Hid ((zk.toList == yk.toList) = e2) := by show _ = _; rw [V.tol_eq]; exact HE2.out
            have hkey : decide (I.key (zb, zk, zv, zg) = I.key (yb, yk, yv, yg)) = (e1 && e2) := by
              rw [← HE1.out, ← HE2.out, ← Bool.decide_and]
              exact decide_eq_decide.2 (by simp [I.key])
            rw [hkey] at hts
            have HTS := Lib.hid hts
            have KZ0 : Hid (∀ u, Below wr.heap.size wr u → u.cell? ⟨g2, off2 + 4 * k, none⟩ = some (.string zb)) := fun u hu => by rw [hu.cell (p := ⟨g2, off2 + 4 * k, none⟩) hg2]; exact hrow2 0 _ rfl
            have KZ1 : Hid (∀ u, Below wr.heap.size wr u → u.cell? ⟨g2, off2 + 4 * k + 1, none⟩ = some (.string zk)) := fun u hu => by rw [hu.cell (p := ⟨g2, off2 + 4 * k + 1, none⟩) hg2]; exact hrow2 1 _ rfl
            have KY0 : Hid (∀ u, Below wr.heap.size wr u → u.cell? ⟨k53.heap.size, 0, none⟩ = some (.string yb)) := fun u hu => (Blk.below (Blk.below HY55.out HBk.out LY55.out) hu (Nat.lt_of_lt_of_le LY55.out HBk.out.size)).cell 0 _ rfl
            have KY1 : Hid (∀ u, Below wr.heap.size wr u → u.cell? ⟨k53.heap.size, 1, none⟩ = some (.string yk)) := fun u hu => (Blk.below (Blk.below HY55.out HBk.out LY55.out) hu (Nat.lt_of_lt_of_le LY55.out HBk.out.size)).cell 1 _ rfl
            clear hrow2 hts hkey hg2 HE1 HE2
            go_wp2_with fail
            refine region_w Try.mixed (by kernel_rfl) ?_
            refine w_move rfl _ rfl (.bool tv) rfl (fun K hK => ?_)
            go_simp
            refine hK _ ?_
            clear hK K
            refine w_move rfl _ rfl (.bool tv) rfl (fun K hK => ?_)
            go_simp
            refine hK _ ?_
            clear hK K
            cases tv with
            | true =>
              refine w_skip 1 false (some true) rfl rfl rfl (fun K hK => ?_)
              go_simp
              refine hK _ ?_
              clear hK K
              refine w_skip 1 false (some true) rfl rfl rfl (fun K hK => ?_)
              go_simp
              refine hK _ ?_
              clear hK K
              refine w_skip 1 false (some true) rfl rfl rfl (fun K hK => ?_)
              go_simp
              refine hK _ ?_
              clear hK K
              refine w_skip 1 false (some true) rfl rfl rfl (fun K hK => ?_)
              go_simp
              refine hK _ ?_
              clear hK K
              refine w_skip 1 false (some true) rfl rfl rfl (fun K hK => ?_)
              go_simp
              refine hK _ ?_
              clear hK K
              refine w_skip 1 false (some true) rfl rfl rfl (fun K hK => ?_)
              go_simp
              refine hK _ ?_
              clear hK K
              refine w_skip 1 false (some true) rfl rfl rfl (fun K hK => ?_)
              go_simp
              refine hK _ ?_
              clear hK K
              refine w_skip 1 false (some true) rfl rfl rfl (fun K hK => ?_)
              go_simp
              refine hK _ ?_
              clear hK K
              refine w_skip 1 false (some true) rfl rfl rfl (fun K hK => ?_)
              go_simp
              refine hK _ ?_
              clear hK K
              refine w_skip 10 true none rfl rfl rfl (fun K hK => ?_)
              go_simp
              refine hK _ ?_
              clear hK K
              refine w_skip 10 true none rfl rfl rfl (fun K hK => ?_)
              go_simp
              refine hK _ ?_
              clear hK K
              refine w_skip 10 true none rfl rfl rfl (fun K hK => ?_)
              go_simp
              refine hK _ ?_
              clear hK K
              refine w_skip 10 true none rfl rfl rfl (fun K hK => ?_)
              go_simp
              refine hK _ ?_
              clear hK K
              refine w_skip 10 true none rfl rfl rfl (fun K hK => ?_)
              go_simp
              refine hK _ ?_
              clear hK K
              refine w_skip 10 true none rfl rfl rfl (fun K hK => ?_)
              go_simp
              refine hK _ ?_
              clear hK K
              refine w_skip 10 true none rfl rfl rfl (fun K hK => ?_)
              go_simp
              refine hK _ ?_
              clear hK K
              refine w_skip 10 true none rfl rfl rfl (fun K hK => ?_)
              go_simp
              refine hK _ ?_
              clear hK K
              refine w_skip 1 false (some true) rfl rfl rfl (fun K hK => ?_)
              go_simp
              refine hK _ ?_
              clear hK K
              refine w_value rfl (.bool true) (fun u hu => by go_simp) (fun K hK => ?_)
              go_simp
              refine hK _ ?_
              clear hK K
              refine w_assign rfl _ rfl (.bool true) rfl (fun K hK => ?_)
              go_simp
              refine hK _ ?_
              clear hK K
              refine w_nil ?_
              intro u hu
              have HBu : Hid (Below k55.heap.size k55 u) := Below.trans HBk.out (hu.mono HBk.out.size)
              have HTu : Hid (I.tw out (yb, yk, yv, yg) (k + 1) = true) := by show _ = _; rw [HTS.out]; rfl
              clear hu HBk KZ0 KZ1 KY0 KY1
              go_wp2_with fail
              go_roundw
              case rel => exact ⟨k + 1, true, by omega, by go_num, rfl, HTu, HBu⟩
              case measure => simp [intOf]; omega
            | false =>
              refine wg_value (by rfl) (.slice (some ⟨g2, off2, none⟩) m cv) (fun u hu => by go_simp) (fun K hK => ?_)
              go_simp
              refine hK _ ?_
              clear hK K
              refine wg_value (by rfl) (.int .i64 (k : Int)) (fun u hu => by go_simp) (fun K hK => ?_)
              go_simp
              refine hK _ ?_
              clear hK K
              refine wg_value (by rfl) (.pointer (some ⟨g2, off2 + 4 * k, none⟩)) (fun u hu => by have hc := index_iw g2 off2 m cv k hkm u; go_simp) (fun K hK => ?_)
              go_simp
              refine hK _ ?_
              clear hK K
              refine wg_value (by rfl) (.pointer (some ⟨g2, off2 + 4 * k, none⟩)) (fun u hu => by go_simp) (fun K hK => ?_)
              go_simp
              refine hK _ ?_
              clear hK K
              refine wg_value (by rfl) (.string zb) (fun u hu => by have hc := KZ0.out u hu; go_simp) (fun K hK => ?_)
              go_simp
              refine hK _ ?_
              clear hK K
              refine wg_value (by rfl) (.pointer (some ⟨k53.heap.size, 0, none⟩)) (fun u hu => by go_simp) (fun K hK => ?_)
              go_simp
              refine hK _ ?_
              clear hK K
              refine wg_value (by rfl) (.string yb) (fun u hu => by have hc := KY0.out u hu; go_simp) (fun K hK => ?_)
              go_simp
              refine hK _ ?_
              clear hK K
              refine wg_value (by rfl) (.bool e1) (fun u hu => by have hs := Q1.out; go_simp) (fun K hK => ?_)
              go_simp
              refine hK _ ?_
              clear hK K
              refine wg_value (by rfl) (.bool e1) (fun u hu => by go_simp) (fun K hK => ?_)
              go_simp
              refine hK _ ?_
              clear hK K
              cases e1 with
              | false =>
                refine w_skip 10 true (some false) rfl rfl rfl (fun K hK => ?_)
                go_simp
                refine hK _ ?_
                clear hK K
                refine w_skip 10 true (some false) rfl rfl rfl (fun K hK => ?_)
                go_simp
                refine hK _ ?_
                clear hK K
                refine w_skip 10 true (some false) rfl rfl rfl (fun K hK => ?_)
                go_simp
                refine hK _ ?_
                clear hK K
                refine w_skip 10 true (some false) rfl rfl rfl (fun K hK => ?_)
                go_simp
                refine hK _ ?_
                clear hK K
                refine w_skip 10 true (some false) rfl rfl rfl (fun K hK => ?_)
                go_simp
                refine hK _ ?_
                clear hK K
                refine w_skip 10 true (some false) rfl rfl rfl (fun K hK => ?_)
                go_simp
                refine hK _ ?_
                clear hK K
                refine w_skip 10 true (some false) rfl rfl rfl (fun K hK => ?_)
                go_simp
                refine hK _ ?_
                clear hK K
                refine w_skip 10 true (some false) rfl rfl rfl (fun K hK => ?_)
                go_simp
                refine hK _ ?_
                clear hK K
                refine wg_value (by rfl) (.bool false) (fun u hu => by go_simp) (fun K hK => ?_)
                go_simp
                refine hK _ ?_
                clear hK K
                refine w_value rfl (.bool false) (fun u hu => by go_simp) (fun K hK => ?_)
                go_simp
                refine hK _ ?_
                clear hK K
                refine w_assign rfl _ rfl (.bool false) rfl (fun K hK => ?_)
                go_simp
                refine hK _ ?_
                clear hK K
                refine w_nil ?_
                intro u hu
                have HBu : Hid (Below k55.heap.size k55 u) := Below.trans HBk.out (hu.mono HBk.out.size)
                have HTu : Hid (I.tw out (yb, yk, yv, yg) (k + 1) = false) := by show _ = _; rw [HTS.out]; rfl
                clear hu HBk KZ0 KZ1 KY0 KY1
                go_wp2_with fail
                go_roundw
                case rel => exact ⟨k + 1, false, by omega, by go_num, rfl, HTu, HBu⟩
                case measure => simp [intOf]; omega
              | true =>
                refine wg_value (by rfl) (.slice (some ⟨g2, off2, none⟩) m cv) (fun u hu => by go_simp) (fun K hK => ?_)
                go_simp
                refine hK _ ?_
                clear hK K
                refine wg_value (by rfl) (.int .i64 (k : Int)) (fun u hu => by go_simp) (fun K hK => ?_)
                go_simp
                refine hK _ ?_
                clear hK K
                refine wg_value (by rfl) (.pointer (some ⟨g2, off2 + 4 * k, none⟩)) (fun u hu => by have hc := index_iw g2 off2 m cv k hkm u; go_simp) (fun K hK => ?_)
                go_simp
                refine hK _ ?_
                clear hK K
                refine wg_value (by rfl) (.pointer (some ⟨g2, off2 + 4 * k + 1, none⟩)) (fun u hu => by go_simp) (fun K hK => ?_)
                go_simp
                refine hK _ ?_
                clear hK K
                refine wg_value (by rfl) (.string zk) (fun u hu => by have hc := KZ1.out u hu; go_simp) (fun K hK => ?_)
                go_simp
                refine hK _ ?_
                clear hK K
                refine wg_value (by rfl) (.pointer (some ⟨k53.heap.size, 1, none⟩)) (fun u hu => by go_simp) (fun K hK => ?_)
                go_simp
                refine hK _ ?_
                clear hK K
                refine wg_value (by rfl) (.string yk) (fun u hu => by have hc := KY1.out u hu; go_simp) (fun K hK => ?_)
                go_simp
                refine hK _ ?_
                clear hK K
                refine wg_value (by rfl) (.bool e2) (fun u hu => by have hs := Q2.out; go_simp) (fun K hK => ?_)
                go_simp
                refine hK _ ?_
                clear hK K
                refine wg_value (by rfl) (.bool e2) (fun u hu => by go_simp) (fun K hK => ?_)
                go_simp
                refine hK _ ?_
                clear hK K
                refine w_value rfl (.bool e2) (fun u hu => by go_simp) (fun K hK => ?_)
                go_simp
                refine hK _ ?_
                clear hK K
                refine w_assign rfl _ rfl (.bool e2) rfl (fun K hK => ?_)
                go_simp
                refine hK _ ?_
                clear hK K
                refine w_nil ?_
                intro u hu
                have HBu : Hid (Below k55.heap.size k55 u) := Below.trans HBk.out (hu.mono HBk.out.size)
                have HTu : Hid (I.tw out (yb, yk, yv, yg) (k + 1) = e2) := by show _ = _; rw [HTS.out]; rfl
                clear hu HBk KZ0 KZ1 KY0 KY1
                go_wp2_with fail
                go_roundw
                case rel => exact ⟨k + 1, e2, by omega, by go_num, rfl, HTu, HBu⟩
                case measure => simp [intOf]; omega
          · obtain rfl : k = m := by omega
            rw [HT.out] at HST
            have HY90 : Hid (Blk wr (k53.heap.size) (wc y)) := Blk.below HY55.out HBk.out LY55.out
            have LY90 : Hid (k53.heap.size < wr.heap.size) := Nat.lt_of_lt_of_le LY55.out HBk.out.size
            have XV90 := Lib.hid (OW.below XV55.out HBk.out)
            have W90 : Hid (Below w.heap.size w wr) := Below.trans W55.out (HBk.out.mono W55.out.size)
            clear HBk
            have hlen : out.length < 1000000 := by rw [HM.out]; omega
            go_wp2_with (first | refine blk_load rfl 41 _ rfl (k53.heap.size) rfl (wc y) HY90.out _ Try.underlying41 rfl Try.size_w ?_ | refine build_iw rfl _ rfl y rfl ?_)
            intro k95 A95 B95 Z95
            have XV95 := Lib.hid (OW.below XV90.out B95)
            have W95 : Hid (Below w.heap.size w k95) := Below.trans W90.out (B95.mono W90.out.size)
            have hz5 : w.heap.size ≤ k95.heap.size := W95.out.size
            clear B95 Z95 XV90 W90 HY90 LY90
            go_wp2_with (at_builtin; refine append_gen (t := 41) Try.underlying58 Try.info_iw _ rfl _ _ rfl w.heap.size _ _ rfl XV95.out wr.heap.size rfl y A95 ?c2 ?c3 ?_)
            case c2 => exact hlen
            case c3 => omega
            intro v' k96 ho hb hbs
            have XV96 : Hid (OW 41 k96 w.heap.size v' (out ++ [y])) := ho
            have W96 : Hid (Below w.heap.size w k96) := Below.trans W95.out hb
            have HL96 : Hid ((out ++ [y]).length ≤ 20) := by show _ ≤ _; rw [List.length_append, HM.out]; simp; omega
            simp only [Bool.not_false, Bool.true_or, if_true] at HST
            clear ho hb hbs A95 XV95 W95
            go_wp2_with fail
            go_roundw
            case rel => exact ⟨j + 1, out ++ [y], by omega, by go_num, HST, HL96, XV96, W96⟩
            case measure => simp [intOf]; omega
      · have imm : decide ((m : Int) < (most : Int)) = false := by simp; omega
        have jmm : ¬ (m : Int) < (most : Int) := by omega
        obtain rfl : out = R := by
          rw [← HRj.out, I.drop_step L j (by rw [HN.out]; exact hlt), I.wrs, HM.out, if_neg hmm]
        go_wp2_with fail
        go_ret
        exact ⟨_, rfl, XV50.out, W50.out⟩
    · obtain rfl : j = n := by omega
      obtain rfl : out = R := by
        rw [← HRj.out, List.drop_eq_nil_of_le (by rw [HN.out]; exact Nat.le_refl _)]
        rfl
      go_wp2_with fail
      go_ret
      exact ⟨_, rfl, XV50.out, W50.out⟩
set_option maxHeartbeats 16000000 in
theorem writes_true (v : Value) (L : List I.Pt) (most : Nat) (w : World) (hL : IsPs w v L) (hP : ∀ p ∈ L, I.POk p) (hm : most ≤ 10) :
    Calls Try.prog 35 #[v, .int .i64 (most : Int), .bool true] w fun e w' => ∃ v', e = .returned v' ∧ OW 41 w' w.heap.size v' (I.wrs most true L []) ∧ Below w.heap.size w w' := by
  obtain ⟨sa, cap, rfl, hca, hma, _⟩ := hL.is
  have hnb : L.length ≤ 9223372036854775807 := by unfold maxLen at hma; omega
  obtain ⟨n, HN⟩ : ∃ n, Hid (L.length = n) := ⟨_, rfl⟩
  have HL := Lib.hid hL
  have HPO := Lib.hid hP
  rw [HN.out] at HL hnb
  rw [HN.out]
  obtain ⟨R, HR⟩ : ∃ r, Hid (I.wrs most true L [] = r) := ⟨_, rfl⟩
  rw [HR.out]
  have HO1 : Hid (OW 41 w w.heap.size (.slice none 0 0) []) := OW.nil _ _ _
  have HB1 : Hid (Below w.heap.size w w) := Below.refl _ _
  have HR0 : Hid (I.wrs most true (L.drop 0) [] = R) := HR.out
  have HZ0 : Hid (([] : List I.Wt).length ≤ 10) := Nat.zero_le _
  clear hL hca hma hP HR
  go_enter Try.func35, Try.ntmps35
  go_wp2_with fail
  go_loopw [7, 8] (fun t i wr => ∃ (j : Nat) (out : List I.Wt), j ≤ n ∧ i = .int .i64 j ∧ Hid (I.wrs most true (L.drop j) out = R) ∧ Hid (out.length ≤ 10) ∧ Hid (OW 41 wr w.heap.size t out) ∧ Hid (Below w.heap.size w wr)) (fun _ i _ => n - (intOf i).toNat)
  case atStart => exact ⟨0, [], by omega, rfl, HR0, HZ0, HO1, HB1⟩
  case round =>
    obtain ⟨j, out, hj, rfl, HRj, HLj, XV50, W50⟩ := hrel
    clear HB1 HO1 HR0 HZ0
    obtain ⟨wa, rfl⟩ : ∃ x : World, x = wr := ⟨_, rfl⟩
    obtain ⟨av, cv, ev, _⟩ := XV50.out.is.is
    subst ev
    have HLT : Hid (∀ g o n c, Value.slice av out.length cv = .slice (some ⟨g, o, none⟩) n c → g < wa.heap.size) := OW.lt XV50.out
    obtain ⟨m, HM⟩ : ∃ q, Hid (out.length = q) := ⟨_, rfl⟩
    rw [HM.out] at XV50 HLT HLj
    have hm10 := HLj.out
    have hwa : w.heap.size ≤ wa.heap.size := W50.out.size
    rw [HM.out]
    by_cases hlt : j < n
    · have ilt : (j : Int) < (n : Int) := by omega
      by_cases hmm : m < most
      · have imm : (m : Int) < (most : Int) := by omega
        obtain ⟨g, off, cap', hv, hg0, hrow0⟩ := IsPs.at HL.out j (by rw [HN.out]; exact hlt)
        obtain rfl : sa = some ⟨g, off, none⟩ := by injection hv
        clear hv
        have HROW : Hid (wa.rangeAt g (off + 6 * j) (pc (L.getD j I.pnone))) := fun k v hv => by rw [W50.out.cell (p := ⟨g, off + 6 * j + k, none⟩) hg0]; exact hrow0 k v hv
        have hmem : L.getD j I.pnone ∈ L := by
          rw [List.getD_eq_getElem?_getD, List.getElem?_eq_getElem (by rw [HN.out]; exact hlt)]
          exact List.getElem_mem _
        have hpo := HPO.out _ hmem
        have hdr := I.drop_step L j (by rw [HN.out]; exact hlt)
        obtain ⟨p, HX⟩ : ∃ x, Hid (L.getD j I.pnone = x) := ⟨_, rfl⟩
        rw [HX.out] at HROW hpo hdr
        obtain ⟨x, own, K⟩ := p
        have hvl : x.2.2.1.size ≤ maxLen := by have := hpo.w.v; simp only at this; unfold maxLen; omega
        have hK : K < 256 := hpo.k
        have CW := Lib.hid (fun w => write_any x (true || own) K w hK hvl)
        obtain ⟨y, HY⟩ : ∃ y, Hid (I.pw true (x, own, K) = y) := ⟨_, rfl⟩
        rw [show I.putW x (true || own) K = y from HY.out] at CW
        have HST : Hid (I.wrs most true (L.drop (j + 1)) (I.wstep true out (x, own, K)) = R) := by
          show _ = _
          rw [← HRj.out, hdr, I.wrs, HM.out, if_pos hmm]
        unfold I.wstep at HST
        rw [HY.out, HM.out] at HST
        have hix : ∀ w, (Instr.indexAt 75 (.slice (some ⟨g, off, none⟩) n cap) (.int .i64 (j : Int))).run Try.prog w = .ok (.pointer (some ⟨g, off + 6 * j, none⟩)) w := fun w => index_p g off n cap j hlt w
        clear hrow0 hmem hpo hdr HRj hvl hK
        obtain ⟨xb, xk, xv, xg⟩ := x
        go_wp2_with (first | refine mid_load rfl 43 _ rfl g (off + 6 * j) rfl [.string xb, .string xk, .string xv, .bool xg, .bool own, .int .u8 (K : Int)] HROW.out _ Try.underlying43 rfl Try.size_p ?_ | refine blk_alloc rfl 43 (pc I.pnone) rfl Try.info_p ?_)
        intro k51 A51 B51 Z51
        go_wp2_with (first | refine blk_store rfl 43 _ _ rfl (wa.heap.size) rfl [.string xb, .string xk, .string xv, .bool xg, .bool own, .int .u8 (K : Int)] rfl _ A51 rfl Try.size_p rfl ?_)
        intro k52 A52 U52
        have hb52 : Below wa.heap.size wa k52 := B51.trans (U52.below (Nat.le_refl _))
        have HP52_ : Hid (Blk k52 (wa.heap.size) [.string xb, .string xk, .string xv, .bool xg, .bool own, .int .u8 (K : Int)]) := A52
        have LP52_ : Hid (wa.heap.size < k52.heap.size) := by show _ < _; rw [U52.size]; omega
        have XV52 := Lib.hid (OW.below XV50.out hb52)
        have W52 : Hid (Below w.heap.size w k52) := Below.trans W50.out (hb52.mono W50.out.size)
        have HP52 := HP52_
        have LP52 := LP52_
        clear hb52 A51 B51 Z51 A52 U52 HP52_ LP52_ XV50 W50
        clear hix HROW
        have cf53 := HP52.out.cell 4 _ rfl
        have ff53 := HP52.out.free 4 (by simp)
        have U53 : Upd (wa.heap.size) k52 (k52.setCell ⟨wa.heap.size, 4, none⟩ (.bool true)) := Upd.setCell _ _ _ _
        have A53 : Blk (k52.setCell ⟨wa.heap.size, 4, none⟩ (.bool true)) (wa.heap.size) [.string xb, .string xk, .string xv, .bool xg, .bool true, .int .u8 (K : Int)] := Blk.setc HP52.out 4 (by simp) (.bool true)
        have HP53 : Hid (Blk (k52.setCell ⟨wa.heap.size, 4, none⟩ (.bool true)) (wa.heap.size) [.string xb, .string xk, .string xv, .bool xg, .bool true, .int .u8 (K : Int)]) := A53
        have LP53 : Hid (wa.heap.size < (k52.setCell ⟨wa.heap.size, 4, none⟩ (.bool true)).heap.size) := by show _ < _; rw [U53.size]; exact LP52.out
        have XV53 := Lib.hid (OW.far XV52.out U53 (fun g o n c e => by have := HLT.out g o n c e; omega))
        have W53 : Hid (Below w.heap.size w (k52.setCell ⟨wa.heap.size, 4, none⟩ (.bool true))) := Below.trans W52.out (U53.below (by omega))
        clear A53 U53 HP52 LP52 XV52 W52
        go_wp2_with (first | refine blk_load rfl 43 _ rfl (wa.heap.size) rfl [.string xb, .string xk, .string xv, .bool xg, .bool true, .int .u8 (K : Int)] HP53.out _ Try.underlying43 rfl Try.size_p ?_)
        refine (CW.out _).mono ?_; rintro e k54 ⟨rfl, hb54⟩
        have HP54 : Hid (Blk k54 (wa.heap.size) [.string xb, .string xk, .string xv, .bool xg, .bool true, .int .u8 (K : Int)]) := Blk.below HP53.out hb54 LP53.out
        have LP54 : Hid (wa.heap.size < k54.heap.size) := Nat.lt_of_lt_of_le LP53.out hb54.size
        have XV54 := Lib.hid (OW.below XV53.out hb54)
        have W54 : Hid (Below w.heap.size w k54) := Below.trans W53.out (hb54.mono W53.out.size)
        clear hb54 HP53 LP53 XV53 W53 
        go_wp2_with (first | refine blk_alloc rfl 41 (wc I.none_) rfl Try.info_iw2 ?_)
        intro k55 A55 B55 Z55
        go_wp2_with (first | refine blk_store rfl 41 _ _ rfl (k54.heap.size) rfl (wc y) rfl _ A55 rfl Try.size_w rfl ?_)
        intro k56 A56 U56
        have hb56 : Below k54.heap.size k54 k56 := B55.trans (U56.below (Nat.le_refl _))
        have HY56_ : Hid (Blk k56 (k54.heap.size) (wc y)) := A56
        have LY56_ : Hid (k54.heap.size < k56.heap.size) := by show _ < _; rw [U56.size]; omega
        have HP56 : Hid (Blk k56 (wa.heap.size) [.string xb, .string xk, .string xv, .bool xg, .bool true, .int .u8 (K : Int)]) := Blk.below HP54.out hb56 LP54.out
        have LP56 : Hid (wa.heap.size < k56.heap.size) := Nat.lt_of_lt_of_le LP54.out hb56.size
        have XV56 := Lib.hid (OW.below XV54.out hb56)
        have W56 : Hid (Below w.heap.size w k56) := Below.trans W54.out (hb56.mono W54.out.size)
        have HY56 := HY56_
        have LY56 := LY56_
        clear hb56 A55 B55 Z55 A56 U56 HY56_ LY56_ HP54 LP54 XV54 W54
        go_wp2_with fail
        go_loopw [11, 12] (fun t i wr => ∃ (k : Nat) (tv : Bool), k ≤ m ∧ i = .int .i64 k ∧ t = .bool tv ∧ Hid (I.tw out y k = tv) ∧ Hid (Below k56.heap.size k56 wr)) (fun _ i _ => m - (intOf i).toNat)
        case atStart => exact ⟨0, false, by omega, rfl, rfl, rfl, Below.refl _ _⟩
        case round =>
          obtain ⟨k, tv, hk, rfl, rfl, HT, HBk⟩ := hrel
          by_cases hkm : k < m
          · have ikm : (k : Int) < (m : Int) := by omega
            obtain ⟨g2, off2, cap2, hv, hg2, hrow2⟩ := IsWs.at (OW.is (OW.below XV56.out HBk.out)) k (by rw [HM.out]; exact hkm)
            have hv2 := hv
            simp only [Value.slice.injEq] at hv2
            obtain ⟨rfl, hnl, rfl⟩ := hv2
            clear hv hnl
            have hts := I.tw_step out y k (by rw [HM.out]; exact hkm)
            obtain ⟨z, HZ⟩ : ∃ z, Hid (out.getD k I.none_ = z) := ⟨_, rfl⟩
            rw [HZ.out] at hrow2 hts
            rw [HT.out] at hts
            obtain ⟨zb, zk, zv, zg⟩ := z
            obtain ⟨yb, yk, yv, yg⟩ := y
            obtain ⟨e1, HE1⟩ : ∃ r, Hid (decide (zb = yb) = r) := ⟨_, rfl⟩
            obtain ⟨e2, HE2⟩ : ∃ r, Hid (decide (zk = yk) = r) := ⟨_, rfl⟩
            have Q1 : Hid ((zb.toList == yb.toList) = e1) := by show _ = _; rw [V.tol_eq]; exact HE1.out
            have Q2 : Hid ((zk.toList == yk.toList) = e2) := by show _ = _; rw [V.tol_eq]; exact HE2.out
            have hkey : decide (I.key (zb, zk, zv, zg) = I.key (yb, yk, yv, yg)) = (e1 && e2) := by
              rw [← HE1.out, ← HE2.out, ← Bool.decide_and]
              exact decide_eq_decide.2 (by simp [I.key])
            rw [hkey] at hts
            have HTS := Lib.hid hts
            have KZ0 : Hid (∀ u, Below wr.heap.size wr u → u.cell? ⟨g2, off2 + 4 * k, none⟩ = some (.string zb)) := fun u hu => by rw [hu.cell (p := ⟨g2, off2 + 4 * k, none⟩) hg2]; exact hrow2 0 _ rfl
            have KZ1 : Hid (∀ u, Below wr.heap.size wr u → u.cell? ⟨g2, off2 + 4 * k + 1, none⟩ = some (.string zk)) := fun u hu => by rw [hu.cell (p := ⟨g2, off2 + 4 * k + 1, none⟩) hg2]; exact hrow2 1 _ rfl
            have KY0 : Hid (∀ u, Below wr.heap.size wr u → u.cell? ⟨k54.heap.size, 0, none⟩ = some (.string yb)) := fun u hu => (Blk.below (Blk.below HY56.out HBk.out LY56.out) hu (Nat.lt_of_lt_of_le LY56.out HBk.out.size)).cell 0 _ rfl
            have KY1 : Hid (∀ u, Below wr.heap.size wr u → u.cell? ⟨k54.heap.size, 1, none⟩ = some (.string yk)) := fun u hu => (Blk.below (Blk.below HY56.out HBk.out LY56.out) hu (Nat.lt_of_lt_of_le LY56.out HBk.out.size)).cell 1 _ rfl
            clear hrow2 hts hkey hg2 HE1 HE2
            go_wp2_with fail
            refine region_w Try.mixed (by kernel_rfl) ?_
            refine w_move rfl _ rfl (.bool tv) rfl (fun K hK => ?_)
            go_simp
            refine hK _ ?_
            clear hK K
            refine w_move rfl _ rfl (.bool tv) rfl (fun K hK => ?_)
            go_simp
            refine hK _ ?_
            clear hK K
            cases tv with
            | true =>
              refine w_skip 1 false (some true) rfl rfl rfl (fun K hK => ?_)
              go_simp
              refine hK _ ?_
              clear hK K
              refine w_skip 1 false (some true) rfl rfl rfl (fun K hK => ?_)
              go_simp
              refine hK _ ?_
              clear hK K
              refine w_skip 1 false (some true) rfl rfl rfl (fun K hK => ?_)
              go_simp
              refine hK _ ?_
              clear hK K
              refine w_skip 1 false (some true) rfl rfl rfl (fun K hK => ?_)
              go_simp
              refine hK _ ?_
              clear hK K
              refine w_skip 1 false (some true) rfl rfl rfl (fun K hK => ?_)
              go_simp
              refine hK _ ?_
              clear hK K
              refine w_skip 1 false (some true) rfl rfl rfl (fun K hK => ?_)
              go_simp
              refine hK _ ?_
              clear hK K
              refine w_skip 1 false (some true) rfl rfl rfl (fun K hK => ?_)
              go_simp
              refine hK _ ?_
              clear hK K
              refine w_skip 1 false (some true) rfl rfl rfl (fun K hK => ?_)
              go_simp
              refine hK _ ?_
              clear hK K
              refine w_skip 1 false (some true) rfl rfl rfl (fun K hK => ?_)
              go_simp
              refine hK _ ?_
              clear hK K
              refine w_skip 10 true none rfl rfl rfl (fun K hK => ?_)
              go_simp
              refine hK _ ?_
              clear hK K
              refine w_skip 10 true none rfl rfl rfl (fun K hK => ?_)
              go_simp
              refine hK _ ?_
              clear hK K
              refine w_skip 10 true none rfl rfl rfl (fun K hK => ?_)
              go_simp
              refine hK _ ?_
              clear hK K
              refine w_skip 10 true none rfl rfl rfl (fun K hK => ?_)
              go_simp
              refine hK _ ?_
              clear hK K
              refine w_skip 10 true none rfl rfl rfl (fun K hK => ?_)
              go_simp
              refine hK _ ?_
              clear hK K
              refine w_skip 10 true none rfl rfl rfl (fun K hK => ?_)
              go_simp
              refine hK _ ?_
              clear hK K
              refine w_skip 10 true none rfl rfl rfl (fun K hK => ?_)
              go_simp
              refine hK _ ?_
              clear hK K
              refine w_skip 10 true none rfl rfl rfl (fun K hK => ?_)
              go_simp
              refine hK _ ?_
              clear hK K
              refine w_skip 1 false (some true) rfl rfl rfl (fun K hK => ?_)
              go_simp
              refine hK _ ?_
              clear hK K
              refine w_value rfl (.bool true) (fun u hu => by go_simp) (fun K hK => ?_)
              go_simp
              refine hK _ ?_
              clear hK K
              refine w_assign rfl _ rfl (.bool true) rfl (fun K hK => ?_)
              go_simp
              refine hK _ ?_
              clear hK K
              refine w_nil ?_
              intro u hu
              have HBu : Hid (Below k56.heap.size k56 u) := Below.trans HBk.out (hu.mono HBk.out.size)
              have HTu : Hid (I.tw out (yb, yk, yv, yg) (k + 1) = true) := by show _ = _; rw [HTS.out]; rfl
              clear hu HBk KZ0 KZ1 KY0 KY1
              go_wp2_with fail
              go_roundw
              case rel => exact ⟨k + 1, true, by omega, by go_num, rfl, HTu, HBu⟩
              case measure => simp [intOf]; omega
            | false =>
              refine wg_value (by rfl) (.slice (some ⟨g2, off2, none⟩) m cv) (fun u hu => by go_simp) (fun K hK => ?_)
              go_simp
              refine hK _ ?_
              clear hK K
              refine wg_value (by rfl) (.int .i64 (k : Int)) (fun u hu => by go_simp) (fun K hK => ?_)
              go_simp
              refine hK _ ?_
              clear hK K
              refine wg_value (by rfl) (.pointer (some ⟨g2, off2 + 4 * k, none⟩)) (fun u hu => by have hc := index_iw g2 off2 m cv k hkm u; go_simp) (fun K hK => ?_)
              go_simp
              refine hK _ ?_
              clear hK K
              refine wg_value (by rfl) (.pointer (some ⟨g2, off2 + 4 * k, none⟩)) (fun u hu => by go_simp) (fun K hK => ?_)
              go_simp
              refine hK _ ?_
              clear hK K
              refine wg_value (by rfl) (.string zb) (fun u hu => by have hc := KZ0.out u hu; go_simp) (fun K hK => ?_)
              go_simp
              refine hK _ ?_
              clear hK K
              refine wg_value (by rfl) (.pointer (some ⟨k54.heap.size, 0, none⟩)) (fun u hu => by go_simp) (fun K hK => ?_)
              go_simp
              refine hK _ ?_
              clear hK K
              refine wg_value (by rfl) (.string yb) (fun u hu => by have hc := KY0.out u hu; go_simp) (fun K hK => ?_)
              go_simp
              refine hK _ ?_
              clear hK K
              refine wg_value (by rfl) (.bool e1) (fun u hu => by have hs := Q1.out; go_simp) (fun K hK => ?_)
              go_simp
              refine hK _ ?_
              clear hK K
              refine wg_value (by rfl) (.bool e1) (fun u hu => by go_simp) (fun K hK => ?_)
              go_simp
              refine hK _ ?_
              clear hK K
              cases e1 with
              | false =>
                refine w_skip 10 true (some false) rfl rfl rfl (fun K hK => ?_)
                go_simp
                refine hK _ ?_
                clear hK K
                refine w_skip 10 true (some false) rfl rfl rfl (fun K hK => ?_)
                go_simp
                refine hK _ ?_
                clear hK K
                refine w_skip 10 true (some false) rfl rfl rfl (fun K hK => ?_)
                go_simp
                refine hK _ ?_
                clear hK K
                refine w_skip 10 true (some false) rfl rfl rfl (fun K hK => ?_)
                go_simp
                refine hK _ ?_
                clear hK K
                refine w_skip 10 true (some false) rfl rfl rfl (fun K hK => ?_)
                go_simp
                refine hK _ ?_
                clear hK K
                refine w_skip 10 true (some false) rfl rfl rfl (fun K hK => ?_)
                go_simp
                refine hK _ ?_
                clear hK K
                refine w_skip 10 true (some false) rfl rfl rfl (fun K hK => ?_)
                go_simp
                refine hK _ ?_
                clear hK K
                refine w_skip 10 true (some false) rfl rfl rfl (fun K hK => ?_)
                go_simp
                refine hK _ ?_
                clear hK K
                refine wg_value (by rfl) (.bool false) (fun u hu => by go_simp) (fun K hK => ?_)
                go_simp
                refine hK _ ?_
                clear hK K
                refine w_value rfl (.bool false) (fun u hu => by go_simp) (fun K hK => ?_)
                go_simp
                refine hK _ ?_
                clear hK K
                refine w_assign rfl _ rfl (.bool false) rfl (fun K hK => ?_)
                go_simp
                refine hK _ ?_
                clear hK K
                refine w_nil ?_
                intro u hu
                have HBu : Hid (Below k56.heap.size k56 u) := Below.trans HBk.out (hu.mono HBk.out.size)
                have HTu : Hid (I.tw out (yb, yk, yv, yg) (k + 1) = false) := by show _ = _; rw [HTS.out]; rfl
                clear hu HBk KZ0 KZ1 KY0 KY1
                go_wp2_with fail
                go_roundw
                case rel => exact ⟨k + 1, false, by omega, by go_num, rfl, HTu, HBu⟩
                case measure => simp [intOf]; omega
              | true =>
                refine wg_value (by rfl) (.slice (some ⟨g2, off2, none⟩) m cv) (fun u hu => by go_simp) (fun K hK => ?_)
                go_simp
                refine hK _ ?_
                clear hK K
                refine wg_value (by rfl) (.int .i64 (k : Int)) (fun u hu => by go_simp) (fun K hK => ?_)
                go_simp
                refine hK _ ?_
                clear hK K
                refine wg_value (by rfl) (.pointer (some ⟨g2, off2 + 4 * k, none⟩)) (fun u hu => by have hc := index_iw g2 off2 m cv k hkm u; go_simp) (fun K hK => ?_)
                go_simp
                refine hK _ ?_
                clear hK K
                refine wg_value (by rfl) (.pointer (some ⟨g2, off2 + 4 * k + 1, none⟩)) (fun u hu => by go_simp) (fun K hK => ?_)
                go_simp
                refine hK _ ?_
                clear hK K
                refine wg_value (by rfl) (.string zk) (fun u hu => by have hc := KZ1.out u hu; go_simp) (fun K hK => ?_)
                go_simp
                refine hK _ ?_
                clear hK K
                refine wg_value (by rfl) (.pointer (some ⟨k54.heap.size, 1, none⟩)) (fun u hu => by go_simp) (fun K hK => ?_)
                go_simp
                refine hK _ ?_
                clear hK K
                refine wg_value (by rfl) (.string yk) (fun u hu => by have hc := KY1.out u hu; go_simp) (fun K hK => ?_)
                go_simp
                refine hK _ ?_
                clear hK K
                refine wg_value (by rfl) (.bool e2) (fun u hu => by have hs := Q2.out; go_simp) (fun K hK => ?_)
                go_simp
                refine hK _ ?_
                clear hK K
                refine wg_value (by rfl) (.bool e2) (fun u hu => by go_simp) (fun K hK => ?_)
                go_simp
                refine hK _ ?_
                clear hK K
                refine w_value rfl (.bool e2) (fun u hu => by go_simp) (fun K hK => ?_)
                go_simp
                refine hK _ ?_
                clear hK K
                refine w_assign rfl _ rfl (.bool e2) rfl (fun K hK => ?_)
                go_simp
                refine hK _ ?_
                clear hK K
                refine w_nil ?_
                intro u hu
                have HBu : Hid (Below k56.heap.size k56 u) := Below.trans HBk.out (hu.mono HBk.out.size)
                have HTu : Hid (I.tw out (yb, yk, yv, yg) (k + 1) = e2) := by show _ = _; rw [HTS.out]; rfl
                clear hu HBk KZ0 KZ1 KY0 KY1
                go_wp2_with fail
                go_roundw
                case rel => exact ⟨k + 1, e2, by omega, by go_num, rfl, HTu, HBu⟩
                case measure => simp [intOf]; omega
          · obtain rfl : k = m := by omega
            rw [HT.out] at HST
            have HY90 : Hid (Blk wr (k54.heap.size) (wc y)) := Blk.below HY56.out HBk.out LY56.out
            have LY90 : Hid (k54.heap.size < wr.heap.size) := Nat.lt_of_lt_of_le LY56.out HBk.out.size
            have XV90 := Lib.hid (OW.below XV56.out HBk.out)
            have W90 : Hid (Below w.heap.size w wr) := Below.trans W56.out (HBk.out.mono W56.out.size)
            clear HBk
            cases tv with
            | false =>
              have hlen : out.length < 1000000 := by rw [HM.out]; omega
              go_wp2_with (first | refine blk_load rfl 41 _ rfl (k54.heap.size) rfl (wc y) HY90.out _ Try.underlying41 rfl Try.size_w ?_ | refine build_iw rfl _ rfl y rfl ?_)
              intro k95 A95 B95 Z95
              have XV95 := Lib.hid (OW.below XV90.out B95)
              have W95 : Hid (Below w.heap.size w k95) := Below.trans W90.out (B95.mono W90.out.size)
              have hz5 : w.heap.size ≤ k95.heap.size := W95.out.size
              clear B95 Z95 XV90 W90 HY90 LY90
              go_wp2_with (at_builtin; refine append_gen (t := 41) Try.underlying58 Try.info_iw _ rfl _ _ rfl w.heap.size _ _ rfl XV95.out wr.heap.size rfl y A95 ?c2 ?c3 ?_)
              case c2 => exact hlen
              case c3 => omega
              intro v' k96 ho hb hbs
              have XV96 : Hid (OW 41 k96 w.heap.size v' (out ++ [y])) := ho
              have W96 : Hid (Below w.heap.size w k96) := Below.trans W95.out hb
              have HL96 : Hid ((out ++ [y]).length ≤ 10) := by show _ ≤ _; rw [List.length_append, HM.out]; simp; omega
              simp only [Bool.not_true, Bool.not_false, Bool.or_true, if_true] at HST
              clear ho hb hbs A95 XV95 W95
              go_wp2_with fail
              go_roundw
              case rel => exact ⟨j + 1, out ++ [y], by omega, by go_num, HST, HL96, XV96, W96⟩
              case measure => simp [intOf]; omega
            | true =>
              simp only [Bool.not_true, Bool.or_false, Bool.false_eq_true, if_false] at HST
              have HL96 : Hid (out.length ≤ 10) := by show _ ≤ _; rw [HM.out]; exact HLj.out
              go_wp2_with fail
              go_roundw
              case rel => exact ⟨j + 1, out, by omega, by go_num, HST, HL96, XV90, W90⟩
              case measure => simp [intOf]; omega
      · have imm : decide ((m : Int) < (most : Int)) = false := by simp; omega
        have jmm : ¬ (m : Int) < (most : Int) := by omega
        obtain rfl : out = R := by
          rw [← HRj.out, I.drop_step L j (by rw [HN.out]; exact hlt), I.wrs, HM.out, if_neg hmm]
        go_wp2_with fail
        go_ret
        exact ⟨_, rfl, XV50.out, W50.out⟩
    · obtain rfl : j = n := by omega
      obtain rfl : out = R := by
        rw [← HRj.out, List.drop_eq_nil_of_le (by rw [HN.out]; exact Nat.le_refl _)]
        rfl
      go_wp2_with fail
      go_ret
      exact ⟨_, rfl, XV50.out, W50.out⟩
end Go.Proofs.Ytkiaehehckmpnaa.It

namespace Go.Proofs.Ytkiaehehckmpnaa.I

def dflt : Wt := (⟨#[98, 48]⟩, ⟨#[97]⟩, ⟨#[118]⟩, false)
/-- the writes of a transaction by its parts -/
def dealW (own : Bool) (L : List Pt) : List Wt := if own = true then (if (wrs 8 true L []).length = 0 then [dflt] else wrs 8 true L []) else wrs 10 false L []
end Go.Proofs.Ytkiaehehckmpnaa.I

namespace Go.Proofs.Ytkiaehehckmpnaa

open Go.RowKit

set_option linter.unusedVariables false

/-- a struct in a block of its own, its row known whole -/
def Spc.row (base : Nat) (t : TypeId) (vs : List Value) : Spc where
  S v := ∃ b, v = .pointer (some ⟨b, 0, none⟩)
  T u v := ∃ b, v = .pointer (some ⟨b, 0, none⟩) ∧ base ≤ b ∧ u.heap[b]? = some (.cells vs.toArray t (0, 0))
  st u u' v hb := fun ⟨b, hv, hB, ha⟩ => ⟨b, hv, hB, by
    have hlt : b < u.heap.size := by
      rcases Nat.lt_or_ge b u.heap.size with h | h
      · exact h
      · rw [Array.getElem?_eq_none h] at ha; cases ha
    rw [hb.block b hlt]; exact ha⟩
  w0 := .pointer (some ⟨0, 0, none⟩)
  hw := ⟨0, rfl⟩
theorem r_newr {P : Program} {ops : Array Oper} {rest : List Oper} {o : Oper} {a : Act} {C : World → Prop} {Lq : Act → List (World → Prop) → Prop} {ts : List Spc} {Fs : List (World → Prop)} (hgd : o.guard = none) (t : TypeId) (ho : o.op = .alloc t) {vs : List Value} {base : Nat} (hz : (P.info? t).map (fun i => (i.zero, i.size)) = some (some (.agg vs.toArray), vs.length)) (hbase : ∀ u, C u → base ≤ u.heap.size)
    (h : ∀ v, (Spc.row base t vs).S v → ∀ K : Act → Prop, (∀ a, RW P ops C Lq rest ts ((fun u => (Spc.row base t vs).T u v) :: Fs) a → K a) → K (a.put o.dst v)) : RW P ops C Lq (o :: rest) (Spc.row base t vs :: ts) Fs a := by
  refine r_any (wanted_none hgd) (fun u hu hn => ?_) h
  unfold execOp
  simp only [ho, Sem.run_bind, Instr.alloc, (zero_of_info hz).1, newVar, newRow, run_newObj_alloc, Sem.run_pure, Result.andThen_ok]
  exact ⟨(Below.refl _ _).alloc (Nat.le_refl _) _, ⟨_, rfl⟩, ⟨_, rfl, hbase u hu, heap_alloc_last u _⟩⟩
theorem r_fact {P : Program} {ops : Array Oper} {rest : List Oper} {o : Oper} {a : Act} {C : World → Prop} {Lq : Act → List (World → Prop) → Prop} {ts : List Spc} {Fs : List (World → Prop)} (hgd : o.guard = none) {s : Spc} (v : Value) (hS : s.S v) (hr : ∀ u, C u → Need o Fs u → (execOp a.eval o).run P u = .ok (.value v) u ∧ s.T u v)
    (h : ∀ v, s.S v → ∀ K : Act → Prop, (∀ a, RW P ops C Lq rest ts ((fun u => s.T u v) :: Fs) a → K a) → K (a.put o.dst v)) : RW P ops C Lq (o :: rest) (s :: ts) Fs a :=
  r_any (wanted_none hgd) (fun u hu hn => by rw [(hr u hu hn).1]; exact ⟨Below.refl _ _, hS, (hr u hu hn).2⟩) h
end Go.Proofs.Ytkiaehehckmpnaa

namespace Go.Proofs.Ytkiaehehckmpnaa.It

open Go.RowKit Go.Proofs.Ytkiaehehckmpnaa.Vc Go.Proofs.Ytkiaehehckmpnaa.Sp

set_option linter.unusedVariables false

set_option linter.unusedSimpArgs false

set_option maxRecDepth 100000

/-- such a value -/
def DV (l : List Nat) (d : Int) (mo : Bool) (v : Value) (own : Bool) : Value := .agg (ks .u64 l ++ [Value.int .i64 d, .bool mo, v, .bool own]).toArray
theorem OW.ne_row {t t' : TypeId} {w : World} {base b : Nat} {v : Value} {L : List I.Wt} {vs : Array Value} (h : OW t w base v L) (hb : w.heap[b]? = some (.cells vs t' (0, 0))) (hne : t ≠ t') : ∀ g o n c, v = .slice (some ⟨g, o, none⟩) n c → g ≠ b := by
  intro g o n c e eq
  subst eq
  obtain ⟨hl, h0 | ⟨g', cap, cur, hv, hB, hh, r⟩⟩ := h.own
  · rw [h0.1] at e; cases e
  · rw [hv] at e
    simp only [Value.slice.injEq, Option.some.injEq, Addr.mk.injEq, and_true] at e
    obtain ⟨⟨rfl, _⟩, _⟩ := e
    rw [hb] at hh
    simp only [Option.some.injEq, Obj.cells.injEq] at hh
    exact hne hh.2.1.symm
theorem IsWs.len {w : World} {s : Option Addr} {m c : Nat} {L : List I.Wt} (h : IsWs w (.slice s m c) L) (hm : L.length = m) : IsWs w (.slice s m c) L := h
theorem IsPs.nilOrSome {w : World} {v : Value} {L : List I.Pt} (h : IsPs w v L) : ∃ sa cap, v = .slice sa L.length cap := by
  obtain ⟨a, cap, hv, _⟩ := h.is
  exact ⟨a, cap, hv⟩
theorem tv_inj {a : List Nat} {d : Int} {v v' : Value} (h : TV a d v = TV a d v') : v' = v := by
  unfold TV at h
  simp only [Value.agg.injEq] at h
  have := Array.toList_inj.2 h
  simpa using this.symm
end Go.Proofs.Ytkiaehehckmpnaa.It

namespace Go.Proofs.Ytkiaehehckmpnaa.I

set_option linter.unusedVariables false

set_option linter.unusedSimpArgs false

theorem putW_right (x : Wt) (K : Nat) : right (putW x true K) = true := by
  unfold putW
  rw [if_pos rfl]
  unfold right
  by_cases h : 224 ≤ K
  · simp only [if_pos h, decide_eq_true h, Bool.not_true, Bool.false_or, Bool.and_eq_true, decide_eq_true_eq]
    refine ⟨⟨?_, ?_, ?_, ?_, ?_⟩, rfl⟩
    · show 1 ≤ 2; omega
    · show 2 ≤ 16; omega
    · show 1 ≤ 1; omega
    · show 1 ≤ 16; omega
    · show 0 ≤ 32; omega
  · simp only [if_neg h, decide_eq_false h, Bool.not_false, Bool.true_or, Bool.and_true, decide_eq_true_eq]
    refine ⟨?_, ?_, ?_, ?_, ?_⟩
    · show 1 ≤ 2; omega
    · show 2 ≤ 16; omega
    · show 1 ≤ 1; omega
    · show 1 ≤ 16; omega
    · rw [ByteArray.size_extract]; omega
theorem putW_ok (x : Wt) (own : Bool) (K : Nat) (hx : Ok x) : Ok (putW x own K) := by
  cases own with
  | false => exact hx
  | true =>
    obtain ⟨h1, h2, h3, h4, h5, _⟩ := right_some (putW_right x K)
    exact ⟨by omega, by omega, by omega⟩
theorem okTo_snoc (out : List Wt) (y : Wt) (h : okTo out out.length = true) (hr : right y = true) (ht : tw out y out.length = false) : okTo (out ++ [y]) (out ++ [y]).length = true := by
  have hg : ∀ i, i < out.length → (out ++ [y]).getD i none_ = out.getD i none_ := fun i hi => by
    rw [List.getD_eq_getElem?_getD, List.getElem?_append_left hi, List.getD_eq_getElem?_getD]
  have hy : (out ++ [y]).getD out.length none_ = y := by
    rw [List.getD_eq_getElem?_getD, List.getElem?_append_right (Nat.le_refl _), Nat.sub_self]; rfl
  rw [List.length_append, show out.length + [y].length = out.length + 1 from rfl, okTo_step, hy, hr, Bool.true_and, Bool.and_eq_true]
  constructor
  · rw [okTo, List.all_eq_true] at h ⊢
    intro i hi
    have hi' := List.mem_range.1 hi
    have := h i hi
    rw [Bool.and_eq_true] at this ⊢
    rw [hg i hi']
    refine ⟨this.1, ?_⟩
    have h2 := this.2
    unfold apart at h2 ⊢
    rw [List.all_eq_true] at h2 ⊢
    intro k hk
    rw [hg i hi', hg k (by have := List.mem_range.1 hk; omega)]
    exact h2 k hk
  · unfold apart
    rw [List.all_eq_true]
    intro k hk
    have hk' := List.mem_range.1 hk
    rw [hy, hg k hk', Bool.not_eq_true', decide_eq_false_iff_not]
    intro he
    unfold tw at ht
    rw [List.take_length, List.any_eq_false] at ht
    refine ht (out.getD k none_) ?_ (decide_eq_true he)
    rw [List.getD_eq_getElem?_getD, List.getElem?_eq_getElem hk']
    exact List.getElem_mem _
theorem wrs_whole : ∀ (L : List Pt) (out : List Wt), okTo out out.length = true → out.length ≤ 8 → okTo (wrs 8 true L out) (wrs 8 true L out).length = true ∧ (wrs 8 true L out).length ≤ 8
  | [], out, h, hl => ⟨h, hl⟩
  | p :: L, out, h, hl => by
    unfold wrs
    split
    · rename_i hlt
      unfold wstep
      cases ht : tw out (pw true p) out.length with
      | true => exact wrs_whole L out h hl
      | false => exact wrs_whole L (out ++ [pw true p]) (okTo_snoc out _ h (putW_right _ _) ht) (by rw [List.length_append]; show out.length + 1 ≤ 8; omega)
    · exact ⟨h, hl⟩
theorem wrs_each (most : Nat) (wh : Bool) : ∀ (L : List Pt) (out : List Wt), (∀ p ∈ L, POk p) → (∀ x ∈ out, Ok x) → ∀ x ∈ wrs most wh L out, Ok x
  | [], out, _, h => h
  | p :: L, out, hP, h => by
    unfold wrs
    split
    · refine wrs_each most wh L _ (fun q hq => hP q (List.mem_cons_of_mem _ hq)) ?_
      unfold wstep
      split
      · intro x hx
        rcases List.mem_append.1 hx with hx | hx
        · exact h x hx
        · rw [List.mem_singleton.1 hx]
          exact putW_ok _ _ _ (hP p (List.mem_cons_self ..)).w
      · exact h
    · exact h
theorem wrs_len (most : Nat) (wh : Bool) : ∀ (L : List Pt) (out : List Wt), out.length ≤ most → (wrs most wh L out).length ≤ most
  | [], out, h => h
  | p :: L, out, h => by
    unfold wrs
    split
    · refine wrs_len most wh L _ ?_
      unfold wstep
      split
      · rw [List.length_append]; show _ + 1 ≤ _; omega
      · omega
    · exact h
theorem dealW_whole {l : List Nat} (hl : l.length = 4) (d : Int) (mo : Bool) (L : List Pt) : whole (T.mark l d (true || mo)).1 (T.mark l d (true || mo)).2 (dealW true L) = true := by
  have hr : T.right (T.mark l d (true || mo)).1 (T.mark l d (true || mo)).2 = true := T.mark_right hl d
  obtain ⟨h1, h2⟩ := wrs_whole L [] rfl (Nat.zero_le _)
  unfold whole
  rw [hr, Bool.true_and]
  unfold dealW
  rw [if_pos rfl]
  by_cases hz : (wrs 8 true L []).length = 0
  · rw [if_pos hz]; decide +kernel
  · rw [if_neg hz, h1, Bool.and_true, decide_eq_true_eq]
    omega
theorem dealW_ok (own : Bool) (L : List Pt) (hP : ∀ p ∈ L, POk p) : ∀ x ∈ dealW own L, Ok x := by
  cases own with
  | false => exact wrs_each 10 false L [] hP (fun x hx => by cases hx)
  | true =>
    unfold dealW
    rw [if_pos rfl]
    split
    · intro x hx
      rw [List.mem_singleton.1 hx]
      exact ⟨by decide +kernel, by decide +kernel, by decide +kernel⟩
    · exact wrs_each 8 true L [] hP (fun x hx => by cases hx)
theorem dealW_len (own : Bool) (L : List Pt) : (dealW own L).length ≤ 10 := by
  cases own with
  | false => exact wrs_len 10 false L [] (Nat.zero_le _)
  | true =>
    unfold dealW
    rw [if_pos rfl]
    split
    · show 1 ≤ 10; omega
    · have := wrs_len 8 true L [] (Nat.zero_le _); omega
theorem dealW_pos (L : List Pt) : 1 ≤ (dealW true L).length := by
  unfold dealW
  rw [if_pos rfl]
  split
  · exact Nat.le_refl _
  · omega
end Go.Proofs.Ytkiaehehckmpnaa.I
