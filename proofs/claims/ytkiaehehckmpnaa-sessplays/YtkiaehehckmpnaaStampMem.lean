/- A struct of a vector and more, in a block of its own; two stamps compared. -/
import Derived.Test.YtkiaehehckmpnaaVecRefP

import Derived.Test.YtkiaehehckmpnaaVecGet

import Derived.Test.YtkiaehehckmpnaaStampMath

import Derived.Laws.StructEq

namespace Go.Proofs.Ytkiaehehckmpnaa.Sp

open Go.RowKit Go.Proofs.Ytkiaehehckmpnaa.Vc

set_option linter.unusedVariables false

set_option linter.unusedSimpArgs false

set_option maxRecDepth 100000

theorem wrapu {x : Int} (h0 : 0 ≤ x) (h1 : x < 18446744073709551616) : IntKind.u64.wrap x = x := by
  have h2 : x % 18446744073709551616 = x := Int.emod_eq_of_lt h0 h1
  simpa [IntKind.wrap, IntKind.bits, IntKind.signed] using h2
/-- a stamp's value -/
def SV (l : List Nat) (d : Int) : Value := .agg (ks .u64 l ++ [Value.int .i64 d]).toArray
/-- a law's stamp by its parts -/
def MV (l : List Nat) (d : Int) (own : Bool) : Value := .agg (ks .u64 l ++ [Value.int .i64 d, Value.bool own]).toArray
theorem rowp {w : World} {b : Nat} {l : List Nat} {ext : List Value} (h : Blk w b (ks .u64 l ++ ext)) : w.rangeAt b 0 (ks .u64 l) := fun j v hv => h.1 j v (by
  rw [List.getElem?_append_left]
  · exact hv
  · exact (List.getElem?_eq_some_iff.1 hv).1)
theorem preb {w : World} {b : Nat} {us vs : List Value} (h : Blk w b (us ++ vs)) : w.rangeAt b 0 us := fun j v hv => h.1 j v (by
  rw [List.getElem?_append_left]
  · exact hv
  · exact (List.getElem?_eq_some_iff.1 hv).1)
theorem ext_cell {w : World} {b : Nat} {l : List Nat} {ext : List Value} (h : Blk w b (ks .u64 l ++ ext)) (hl : l.length = 4) (i : Nat) (v : Value) (hv : ext[i]? = some v) : w.cell? ⟨b, 4 + i, none⟩ = some v :=
  h.cell (4 + i) v (by rw [List.getElem?_append_right (by rw [ks_length, hl]; omega), ks_length, hl, Nat.add_sub_cancel_left]; exact hv)
theorem dc_cell {w : World} {b : Nat} {l : List Nat} {d : Int} {ext : List Value} (h : Blk w b (ks .u64 l ++ (Value.int .i64 d :: ext))) (hl : l.length = 4) : w.cell? ⟨b, 4, none⟩ = some (.int .i64 d) := ext_cell h hl 0 _ rfl
theorem vec_cell {w : World} {b : Nat} {l : List Nat} {ext : List Value} (h : Blk w b (ks .u64 l ++ ext)) (j : Nat) (hj : j < l.length) : w.cell? ⟨b, j, none⟩ = some (.int .u64 ((l.getD j 0 : Nat) : Int)) :=
  h.cell j _ (by rw [List.getElem?_append_left (by rw [ks_length]; exact hj)]; simp [ks, hj])
theorem vec_free {w : World} {b : Nat} {l : List Nat} {ext : List Value} (h : Blk w b (ks .u64 l ++ ext)) (j : Nat) (hj : j < l.length) : w.frozen? ⟨b, j, none⟩ = false :=
  h.free j (by rw [List.length_append, ks_length]; omega)
/-- one cell of a block is another one -/
theorem Blk.setc {w : World} {b : Nat} {vs : List Value} (h : Blk w b vs) (j : Nat) (hj : j < vs.length) (v : Value) : Blk (w.setCell ⟨b, j, none⟩ v) b (vs.set j v) := by
  have c : ∃ u, w.cell? ⟨b, j, none⟩ = some u := ⟨_, h.cell j vs[j] (List.getElem?_eq_getElem hj)⟩
  obtain ⟨u, c⟩ := c
  refine ⟨fun i x hx => ?_, fun i hi => ?_⟩
  · rw [Nat.zero_add]
    by_cases e : j = i
    · subst e
      rw [List.getElem?_set_self hj] at hx
      rw [← Option.some.inj hx]
      exact World.cell?_setCell_same _ _ _ c
    · rw [List.getElem?_set_ne e] at hx
      rw [World.cell?_setCell_other _ _ _ _ (by simp [e])]
      simpa using h.1 i x hx
  · rw [List.length_set] at hi
    obtain ⟨h1, h2⟩ := h.2 i hi
    exact ⟨World.isSome_setCells b [v] j w _ h1, by simpa using h2⟩
theorem Blk.setv {w : World} {b : Nat} {l : List Nat} {ext : List Value} (h : Blk w b (ks .u64 l ++ ext)) (j x : Nat) (hj : j < l.length) :
    Blk (w.setCell ⟨b, j, none⟩ (.int .u64 (x : Int))) b (ks .u64 (l.set j x) ++ ext) := by
  have := Blk.setc h j (by rw [List.length_append, ks_length]; omega) (.int .u64 (x : Int))
  rwa [List.set_append_left _ _ (by rw [ks_length]; exact hj), ← ks_set] at this
section

variable {P : Program} {ops : Array Oper} {rest : List Oper} {o : Oper} {a : Act} {w : World} {C : World → Prop} {Q : Act → Prop}

theorem w_row_load (hgd : o.guard = none) (k : IntKind) (t : TypeId) (x : Operand) (ho : o.op = .load t x) (b p : Nat) (hx : a.eval x = .pointer (some ⟨b, p, none⟩)) (l : List Nat) (ha : ∀ u, C u → u.rangeAt b p (ks k l))
    (n : Nat) (e : TypeId) (hu : P.underlying t = some (.array n e)) (hi : (P.info? t).map (·.size) = some l.length)
    (h : ∀ K : Act → Prop, (∀ a, WQ P ops C Q rest a → K a) → K (a.put o.dst (AV k l))) : WQ P ops C Q (o :: rest) a := by
  refine w_value hgd (AV k l) (fun u hc => ?_) h
  have hl := run_loadAt_mid u b p t (ks k l) _ (ha u hc) hu rfl (by rw [ks_length]; exact hi)
  unfold execOp
  simp only [ho, hx, Sem.run_bind, hl, Result.andThen_ok, Sem.run_pure]
  rfl
theorem wg_row_load (hw : Region.wanted o (yielded ops a.tmps) = true) (k : IntKind) (t : TypeId) (x : Operand) (ho : o.op = .load t x) (b p : Nat) (hx : a.eval x = .pointer (some ⟨b, p, none⟩)) (l : List Nat) (ha : ∀ u, C u → u.rangeAt b p (ks k l))
    (n : Nat) (e : TypeId) (hu : P.underlying t = some (.array n e)) (hi : (P.info? t).map (·.size) = some l.length)
    (h : ∀ K : Act → Prop, (∀ a, WQ P ops C Q rest a → K a) → K (a.put o.dst (AV k l))) : WQ P ops C Q (o :: rest) a := by
  refine wg_value hw (AV k l) (fun u hc => ?_) h
  have hl := run_loadAt_mid u b p t (ks k l) _ (ha u hc) hu rfl (by rw [ks_length]; exact hi)
  unfold execOp
  simp only [ho, hx, Sem.run_bind, hl, Result.andThen_ok, Sem.run_pure]
  rfl
end

section

variable {P : Program} {ops : Array Oper} {rest : List Oper} {o : Oper} {a : Act} {w : World} {Q : Exit → Act → World → Prop}

/-- results: two structs, both in memory -/
theorem res_two {fn : Func} {p q : Tmp} {t t' : TypeId} (h : fn.results = #[.cell p t, .cell q t']) (tmps : Array Value) (b c : Nat) (hp : tmps.getD p undef = .pointer (some ⟨b, 0, none⟩)) (hq : tmps.getD q undef = .pointer (some ⟨c, 0, none⟩))
    (us : List Value) (ha : Blk w b us) (d1 : TypeDesc) (hu : P.underlying t = some d1) (hd1 : d1.isRow = true) (hi : (P.info? t).map (·.size) = some us.length)
    (vs : List Value) (hb : Blk w c vs) (d : TypeDesc) (hu' : P.underlying t' = some d) (hd : d.isRow = true) (hi' : (P.info? t').map (·.size) = some vs.length) : (results fn tmps).run P w = .ok (.tuple #[.agg us.toArray, .agg vs.toArray]) w := by
  have h1 := run_loadVar_mid w b 0 t us d1 ha.1 hu hd1 hi
  have h2 := run_loadVar_mid w c 0 t' vs d hb.1 hu' hd hi'
  simp only [results, h]
  simp [Sem.run_bind, Result.andThen, asAddr, h1, h2] at hp hq ⊢
  simp [hp, hq, asAddr, h1, h2]
end

section

variable {P : Program} {ops : Array Oper} {rest : List Oper} {o : Oper} {a : Act} {w : World} {Q : Exit → Act → World → Prop}

/-- a struct that stands ahead in another one is loaded -/
theorem sub_load (hgd : o.guard = none) (t : TypeId) (x : Operand) (ho : o.op = .load t x) (b : Nat) (hx : a.eval x = .pointer (some ⟨b, 0, none⟩)) (us vs : List Value) (hb : Blk w b (us ++ vs))
    (d : TypeDesc) (hu : P.underlying t = some d) (hd : d.isRow = true) (hi : (P.info? t).map (·.size) = some us.length)
    (h : wpList P ops Q rest (a.put o.dst (.agg us.toArray)) w) : wpList P ops Q (o :: rest) a w :=
  wpList_load_mid hgd t x ho b 0 hx us d (preb hb) hu hd hi h
end

theorem Kept.newAt {w0 w w' : World} {L : List (Nat × List Value)} {vs : List Value} {b : Nat} (h : Kept w0 w L) (h0 : w.heap.size = b) (hb : Below b w w') (hz : w'.heap.size = b + 1) (hn : Blk w' b vs) : Kept w0 w' ((b, vs) :: L) := by
  subst h0
  exact h.new hb hz hn
/-- one of the blocks that are held is another one -/
theorem Kept.updAt {w0 w w' : World} {L : List (Nat × List Value)} (h : Kept w0 w L) (i : Nat) {b : Nat} {vs us : List Value} (hi : L[i]? = some (b, vs)) (hB : w0.heap.size ≤ b) (hd : ∀ p ∈ L.eraseIdx i, p.1 ≠ b) (hu : Upd b w w') (hn : Blk w' b us) : Kept w0 w' (L.set i (b, us)) := by
  have hb := (h.mem (b, vs) (List.mem_of_getElem? hi)).2
  refine ⟨h.under.trans (hu.below hB), fun p hp => ?_⟩
  rw [hu.size]
  obtain ⟨j, hj⟩ := List.mem_iff_getElem?.1 hp
  by_cases e : i = j
  · subst e
    rw [List.getElem?_set_self (List.getElem?_eq_some_iff.1 hi).1] at hj
    rw [← Option.some.inj hj]
    exact ⟨hn, hb⟩
  · rw [List.getElem?_set_ne e] at hj
    have hm := h.mem p (List.mem_of_getElem? hj)
    refine ⟨hm.1.upd hu (hd p ?_), hm.2⟩
    rw [List.mem_eraseIdx_iff_getElem?]
    exact ⟨j, fun h => e h.symm, hj⟩
theorem sv_len {l : List Nat} {d : Int} (h : l.length = 4) : (ks .u64 l ++ [Value.int .i64 d]).length = 5 := by rw [List.length_append, ks_length, h]; rfl
theorem one_sv (l : List Nat) (d : Int) : (ks .u64 l ++ [Value.int .i64 d]).all (fun v => v.oneCell') = true := by
  rw [List.all_eq_true]
  intro v hv
  rcases List.mem_append.1 hv with h | h
  · obtain ⟨x, _, rfl⟩ := List.mem_map.1 h; rfl
  · simp at h; subst h; rfl
theorem eq_at {t : TypeId} (hu : Try.prog.underlying t = some (.array 4 23)) (dd : Nat) (a b : List Nat) (ha : a.length = 4) (hb : b.length = 4) (w : World) :
    (Op.equalIn (dd + 2) t (AV .u64 a) (AV .u64 b)).run Try.prog w = .ok (decide (a = b)) w := by
  obtain ⟨i, hi⟩ := some_u64
  have h := run_equalIn_array (P := Try.prog) w (dd + 1) (ks .u64 a).toArray (ks .u64 b).toArray hu hi
  rw [cells_u64] at h
  have h2 := eqItems_ints (P := Try.prog) w dd .u64 plain_u64 Try.underlying23 a b (List.range 4) (fun i hi => by rw [ha, hb]; simpa using hi)
  rw [h2] at h
  show (Op.equalIn (dd + 1 + 1) _ _ _).run _ _ = _
  rw [show AV .u64 a = .agg (ks .u64 a).toArray from rfl, show AV .u64 b = .agg (ks .u64 b).toArray from rfl, h]
  congr 1
  apply decide_eq_decide.2
  refine ⟨fun h => ?_, fun h i _ => by rw [h]⟩
  apply List.ext_getElem (by rw [ha, hb])
  intro j h1 h2
  have := h j (by rw [ha] at h1; simpa using h1)
  simpa [List.getD_eq_getElem?_getD, h1, h2] using this
theorem part_at {t : TypeId} (hu : Try.prog.underlying t = some (.array 4 23)) (hs : ∀ w, (sizeOf t).run Try.prog w = .ok 4 w) (l : List Nat) (ext : List Value) (h : l.length = 4) (w : World) : (part t (ks .u64 l ++ ext).toArray 0).run Try.prog w = .ok (AV .u64 l) w := by
  obtain ⟨x, y, z, t, rfl⟩ := V.four h
  simp [part, isAgg, run_underlying hu, hs, ks, AV, go_sem]
theorem two_of {α β : Type} (g : α → β) (L : List α) (p q : β) (h : L.map g = [p, q]) : ∃ f1 f2, L = [f1, f2] ∧ g f1 = p ∧ g f2 = q := by
  rcases L with _ | ⟨f1, _ | ⟨f2, _ | ⟨f3, L⟩⟩⟩
  · simp at h
  · simp at h
  · simp at h; exact ⟨f1, f2, rfl, h.1, h.2⟩
  · simp at h
theorem plain_int : Try.prog.plainKey 3 = true := by kernel_rfl
theorem eq_gen {t tv : TypeId} (hu : Try.prog.underlying t = some (.struct (Try.prog.fieldsOf t))) (hh : Try.prog.stoodInHeld t = false) (hf : (Try.prog.fieldsOf t).toList.map (fun f => (f.name, f.type, f.offset)) = [("Vec", tv, 0), ("DC", 3, 4)])
    (huv : Try.prog.underlying tv = some (.array 4 23)) (hs : ∀ w, (sizeOf tv).run Try.prog w = .ok 4 w) (a b : List Nat) (d e : Int) (ha : a.length = 4) (hb : b.length = 4) (w : World) :
    (Op.equalIn 10000 t (SV a d) (SV b e)).run Try.prog w = .ok (T.same a d b e) w := by
  rw [show (10000 : Nat) = 9999 + 1 from rfl, SV, SV, run_equalIn_struct w 9999 t _ _ hu hh]
  have p1 : (part 3 (ks .u64 a ++ [Value.int .i64 d]).toArray 4).run Try.prog w = .ok (.int .i64 d) w := run_part_plain w plain_int (by
    rw [List.getElem?_toArray, List.getElem?_append_right (by rw [ks_length, ha]; exact Nat.le_refl _), ks_length, ha]; rfl)
  have p2 : (part 3 (ks .u64 b ++ [Value.int .i64 e]).toArray 4).run Try.prog w = .ok (.int .i64 e) w := run_part_plain w plain_int (by
    rw [List.getElem?_toArray, List.getElem?_append_right (by rw [ks_length, hb]; exact Nat.le_refl _), ks_length, hb]; rfl)
  have p3 := part_at huv hs a [Value.int .i64 d] ha w
  have p4 := part_at huv hs b [Value.int .i64 e] hb w
  have q1 := eq_at huv 9997 a b ha hb w
  have q2 : (Op.equalIn 9999 3 (.int .i64 d) (.int .i64 e)).run Try.prog w = .ok (d == e) w := run_equalIn_int w 9998 3 .i64 .i64 d e Try.underlying3
  obtain ⟨f1, f2, hL, g1, g2⟩ := two_of _ _ _ _ hf
  simp only [Prod.mk.injEq] at g1 g2
  obtain ⟨n1, t1, o1⟩ := g1
  obtain ⟨n2, t2, o2⟩ := g2
  rw [hL]
  have k1 : f1.name ≠ "_" := by rw [n1]; decide
  have k2 : f2.name ≠ "_" := by rw [n2]; decide
  simp only [Op.eqFields, if_pos k1, if_pos k2, t1, o1, t2, o2, Sem.run_bind, p1, p2, p3, p4, q1, q2, Result.andThen_ok]
  by_cases h : a = b
  · rw [decide_eq_true h]
    simp only [Bool.not_true, Bool.false_eq_true, if_false, Sem.run_bind, p1, p2, q2, Result.andThen_ok, T.same, decide_eq_true h, Bool.true_and]
    by_cases h' : d = e
    · simp [h', T.same]
    · have : (d == e) = false := by simpa using h'
      simp [this, h']
  · rw [decide_eq_false h]
    simp [T.same, h]
theorem eql_gen {t : TypeId} (a b : List Nat) (d e : Int) (w : World) (h : (Op.equalIn 10000 t (SV a d) (SV b e)).run Try.prog w = .ok (T.same a d b e) w) :
    (binOp .eql t (SV a d) (SV b e)).run Try.prog w = .ok (.bool (T.same a d b e)) w := by
  have e : binOp .eql t (SV a d) (SV b e) = (do pure (.bool (← Op.equalIn 10000 t (SV a d) (SV b e)))) := rfl
  rw [e]
  simp only [Sem.run_bind, h, Result.andThen_ok, Sem.run_pure]
end Go.Proofs.Ytkiaehehckmpnaa.Sp
