/- Writes and transactions: plain mathematics; writes in memory: a block of four cells; rows of them; writes compared; rows of writes that are the call's own. -/
import Derived.Test.YtkiaehehckmpnaaStampMem

import Derived.Test.YtkiaehehckmpnaaStampA

import Derived.Test.YtkiaehehckmpnaaPackPut

import Derived.Laws.StructEq

namespace Go.Proofs.Ytkiaehehckmpnaa.V

theorem tol_eq (a b : ByteArray) : (a.toList == b.toList) = decide (a = b) := by
  rw [ByteArray.toList_eq, ByteArray.toList_eq, Bool.eq_iff_iff]
  rw [decide_eq_true_iff, beq_iff_eq, ← P.S_inj, P.S_of, P.S_of]
theorem empty_not (s : ByteArray) (h : s.size ≠ 0) : s.toList.isEmpty = false := by
  rw [ByteArray.toList_eq, List.isEmpty_eq_false_iff]
  intro e
  apply h
  have : s.data.toList.length = s.size := by rw [Array.length_toList]; rfl
  rw [← this, e]; rfl
end Go.Proofs.Ytkiaehehckmpnaa.V

namespace Go.Proofs.Ytkiaehehckmpnaa.I

set_option linter.unusedVariables false

/-- a write: bucket, key, value, and if it is gone -/
abbrev Wt := ByteArray × ByteArray × ByteArray × Bool
def none_ : Wt := (⟨#[]⟩, ⟨#[]⟩, ⟨#[]⟩, false)
/-- texts that a machine holds -/
structure Ok (x : Wt) : Prop where
  b : x.1.size ≤ 140737488355328
  k : x.2.1.size ≤ 140737488355328
  v : x.2.2.1.size ≤ 140737488355328
def right (x : Wt) : Bool := decide (1 ≤ x.1.size ∧ x.1.size ≤ 16 ∧ 1 ≤ x.2.1.size ∧ x.2.1.size ≤ 16 ∧ x.2.2.1.size ≤ 32) && (!x.2.2.2 || decide (x.2.2.1.size = 0))
def size (x : Wt) : Nat := if x.2.2.2 = true then 0 else x.1.size + x.2.1.size + x.2.2.1.size
def key (x : Wt) : ByteArray × ByteArray := (x.1, x.2.1)
/-- no key of the first n writes is that of the i-th -/
def apart (L : List Wt) (i n : Nat) : Bool := (List.range n).all fun k => !decide (key (L.getD k none_) = key (L.getD i none_))
/-- the first n writes are right, no two of one key -/
def okTo (L : List Wt) (n : Nat) : Bool := (List.range n).all fun i => right (L.getD i none_) && apart L i i
def whole (a : List Nat) (d : Int) (L : List Wt) : Bool := T.right a d && (decide (1 ≤ L.length ∧ L.length ≤ 8) && okTo L L.length)
def same (a : List Nat) (d : Int) (L : List Wt) (b : List Nat) (e : Int) (M : List Wt) : Bool := T.same a d b e && decide (L = M)
theorem whole_some {a : List Nat} {d : Int} {L : List Wt} (h : whole a d L = true) : T.right a d = true ∧ 1 ≤ L.length ∧ L.length ≤ 8 ∧ okTo L L.length = true := by
  simp only [whole, Bool.and_eq_true, decide_eq_true_eq] at h
  exact ⟨h.1, h.2.1.1, h.2.1.2, h.2.2⟩
theorem okTo_right {L : List Wt} {n : Nat} (h : okTo L n = true) (j : Nat) (hj : j < n) : right (L.getD j none_) = true := by
  rw [okTo, List.all_eq_true] at h
  have := h j (List.mem_range.2 hj)
  rw [Bool.and_eq_true] at this
  exact this.1
/-- a law's write by its parts -/
def putW (x : Wt) (own : Bool) (K : Nat) : Wt := if own = true then (⟨#[98, UInt8.ofNat (48 + K % 2)]⟩, ⟨#[UInt8.ofNat (97 + K / 2 % 4)]⟩, if 224 ≤ K then ⟨#[]⟩ else x.2.2.1.extract 0 (min x.2.2.1.size 8), decide (224 ≤ K)) else x
theorem right_some {x : Wt} (h : right x = true) : 1 ≤ x.1.size ∧ x.1.size ≤ 16 ∧ 1 ≤ x.2.1.size ∧ x.2.1.size ≤ 16 ∧ x.2.2.1.size ≤ 32 ∧ (x.2.2.2 = true → x.2.2.1.size = 0) := by
  simp only [right, Bool.and_eq_true, decide_eq_true_eq, Bool.or_eq_true, Bool.not_eq_true'] at h
  obtain ⟨⟨h1, h2, h3, h4, h5⟩, h6⟩ := h
  refine ⟨h1, h2, h3, h4, h5, fun hg => ?_⟩
  rcases h6 with h6 | h6
  · rw [hg] at h6; cases h6
  · exact h6
theorem apart_step (L : List Wt) (i n : Nat) : apart L i (n + 1) = (apart L i n && !decide (key (L.getD n none_) = key (L.getD i none_))) := by
  simp [apart, List.range_succ]
theorem okTo_step (L : List Wt) (n : Nat) : okTo L (n + 1) = (okTo L n && (right (L.getD n none_) && apart L n n)) := by
  simp [okTo, List.range_succ]
theorem apart_not (L : List Wt) (i k n : Nat) (hk : k < n) (h : key (L.getD k none_) = key (L.getD i none_)) : apart L i n = false := by
  rw [apart, List.all_eq_false]
  exact ⟨k, List.mem_range.2 hk, by rw [decide_eq_true h]; decide⟩
theorem okTo_not (L : List Wt) (i n : Nat) (hi : i < n) (h : (right (L.getD i none_) && apart L i i) = false) : okTo L n = false := by
  rw [okTo, List.all_eq_false]
  exact ⟨i, List.mem_range.2 hi, by simp only [h]; decide⟩
theorem take_same (L M : List Wt) (j : Nat) (h : L.take j = M.take j) (h1 : j < L.length) (h2 : j < M.length) (e : L.getD j none_ = M.getD j none_) : L.take (j + 1) = M.take (j + 1) := by
  rw [List.take_succ_eq_append_getElem h1, List.take_succ_eq_append_getElem h2, h]
  rw [List.getD_eq_getElem?_getD, List.getElem?_eq_getElem h1, List.getD_eq_getElem?_getD, List.getElem?_eq_getElem h2] at e
  simp only [Option.getD_some] at e
  rw [e]
theorem filter_step (L : List Wt) (p : Wt → Bool) (j : Nat) (h : j < L.length) : (L.take (j + 1)).filter p = (L.take j).filter p ++ (if p (L.getD j none_) = true then [L.getD j none_] else []) := by
  rw [List.take_succ_eq_append_getElem h, List.filter_append, List.getD_eq_getElem?_getD, List.getElem?_eq_getElem h, Option.getD_some]
  congr 1
  simp only [List.filter_cons, List.filter_nil]
end Go.Proofs.Ytkiaehehckmpnaa.I

namespace Go.Proofs.Ytkiaehehckmpnaa.It

open Go.RowKit Go.Proofs.Ytkiaehehckmpnaa.Vc Go.Proofs.Ytkiaehehckmpnaa.Sp

set_option linter.unusedVariables false

set_option linter.unusedSimpArgs false

set_option maxRecDepth 100000

/-- a write's cells -/
def wc (x : I.Wt) : List Value := [.string x.1, .string x.2.1, .string x.2.2.1, .bool x.2.2.2]
def WV (x : I.Wt) : Value := .agg (wc x).toArray
theorem one_wc (x : I.Wt) : (wc x).all (fun v => v.oneCell') = true := rfl
/-- the cells of writes, one behind the other -/
def cellsW (L : List I.Wt) : List Value := (L.map wc).flatten
theorem cellsW_len (L : List I.Wt) : (cellsW L).length = L.length * 4 := by
  induction L with
  | nil => rfl
  | cons a L ih =>
    unfold cellsW at ih ⊢
    rw [List.map_cons, List.flatten_cons, List.length_append, ih, List.length_cons]
    show 4 + _ = _
    omega
theorem cellsW_add (L : List I.Wt) (a : I.Wt) : cellsW (L ++ [a]) = cellsW L ++ wc a := by simp [cellsW]
theorem cellsW_at (L : List I.Wt) (i : Nat) (x : I.Wt) (hl : L[i]? = some x) (j : Nat) (v : Value) (hv : (wc x)[j]? = some v) : (cellsW L)[4 * i + j]? = some v := by
  induction L generalizing i with
  | nil => simp at hl
  | cons a L ih =>
    have ha : (wc a).length = 4 := rfl
    cases i with
    | zero =>
      simp only [List.getElem?_cons_zero, Option.some.injEq] at hl
      subst hl
      unfold cellsW
      rw [List.map_cons, List.flatten_cons, Nat.mul_zero, Nat.zero_add, List.getElem?_append_left (List.getElem?_eq_some_iff.1 hv).1]
      exact hv
    | succ i =>
      rw [List.getElem?_cons_succ] at hl
      unfold cellsW
      rw [List.map_cons, List.flatten_cons, List.getElem?_append_right (by omega), ha, show 4 * (i + 1) + j - 4 = 4 * i + j by omega]
      exact ih i hl
/-- from cell off on block b holds these writes, one behind the other -/
def Ws (w : World) (b off : Nat) (L : List I.Wt) : Prop := ∀ i x, L[i]? = some x → w.rangeAt b (off + 4 * i) (wc x)
/-- v is a slice that holds these writes -/
structure IsWs (w : World) (v : Value) (L : List I.Wt) : Prop where
  is : ∃ a cap, v = .slice a L.length cap ∧ L.length ≤ cap ∧ cap ≤ maxLen ∧ (L ≠ [] → ∃ b off, a = some ⟨b, off, none⟩ ∧ b < w.heap.size ∧ Ws w b off L)
theorem Ws.below {w w' : World} {b off B : Nat} {L : List I.Wt} (h : Ws w b off L) (hb : Below B w w') (hB : b < B) : Ws w' b off L := fun i x hx j v hv => by
  rw [hb.cell (p := ⟨b, off + 4 * i + j, none⟩) hB]
  exact h i x hx j v hv
theorem IsWs.below {w w' : World} {v : Value} {L : List I.Wt} (h : IsWs w v L) (hb : Below w.heap.size w w') : IsWs w' v L := by
  obtain ⟨a, cap, hv, h1, h2, h3⟩ := h.is
  refine ⟨a, cap, hv, h1, h2, fun hn => ?_⟩
  obtain ⟨b, off, ha, hlt, hW⟩ := h3 hn
  exact ⟨b, off, ha, Nat.lt_of_lt_of_le hlt hb.size, hW.below hb hlt⟩
theorem IsWs.nil (w : World) : IsWs w (.slice none 0 0) [] := ⟨none, 0, rfl, Nat.le_refl _, by unfold maxLen; omega, fun h => absurd rfl h⟩
/-- one of the writes -/
theorem IsWs.at {w : World} {v : Value} {L : List I.Wt} (h : IsWs w v L) (i : Nat) (hi : i < L.length) : ∃ b off cap, v = .slice (some ⟨b, off, none⟩) L.length cap ∧ b < w.heap.size ∧ w.rangeAt b (off + 4 * i) (wc (L.getD i I.none_)) := by
  obtain ⟨a, cap, hv, h1, h2, h3⟩ := h.is
  obtain ⟨b, off, rfl, hlt, hW⟩ := h3 (fun e => by rw [e] at hi; exact absurd hi (by simp))
  refine ⟨b, off, cap, hv, hlt, hW i _ ?_⟩
  rw [List.getD_eq_getElem?_getD, List.getElem?_eq_getElem hi]; rfl
section

variable {P : Program} {ops : Array Oper} {rest : List Oper} {o : Oper} {a : Act} {w : World} {Q : Exit → Act → World → Prop}

/-- a struct in the midst of a block is loaded -/
theorem mid_load (hgd : o.guard = none) (t : TypeId) (x : Operand) (ho : o.op = .load t x) (b p : Nat) (hx : a.eval x = .pointer (some ⟨b, p, none⟩)) (vs : List Value) (hb : w.rangeAt b p vs)
    (d : TypeDesc) (hu : P.underlying t = some d) (hd : d.isRow = true) (hi : (P.info? t).map (·.size) = some vs.length)
    (h : wpList P ops Q rest (a.put o.dst (.agg vs.toArray)) w) : wpList P ops Q (o :: rest) a w :=
  wpList_load_mid hgd t x ho b p hx vs d hb hu hd hi h
end

theorem range_at {w : World} {b p : Nat} {vs : List Value} (h : w.rangeAt b p vs) (j : Nat) (v : Value) (hv : vs[j]? = some v) : w.cell? ⟨b, p + j, none⟩ = some v := h j v hv
/-- a transaction's value -/
def TV (a : List Nat) (d : Int) (v : Value) : Value := .agg (ks .u64 a ++ [Value.int .i64 d, v]).toArray
theorem tx_cell {w : World} {b : Nat} {a : List Nat} {d : Int} {v : Value} (h : Blk w b (ks .u64 a ++ [Value.int .i64 d, v])) (ha : a.length = 4) : w.cell? ⟨b, 5, none⟩ = some v := ext_cell h ha 1 _ rfl
theorem tx_stamp {w : World} {b : Nat} {a : List Nat} {d : Int} {v : Value} (h : Blk w b (ks .u64 a ++ [Value.int .i64 d, v])) : Blk w b ((ks .u64 a ++ [Value.int .i64 d]) ++ [v]) := by
  rw [List.append_assoc]; exact h
theorem Try.elem_rw : Try.prog.elem 33 = 56 := by kernel_rfl
theorem index_rw (b o n cap j : Nat) (hj : j < n) (w : World) : (Instr.indexAt 33 (.slice (some ⟨b, o, none⟩) n cap) (.int .i64 (j : Int))).run Try.prog w = .ok (.pointer (some ⟨b, o + 4 * j, none⟩)) w := by
  rw [run_indexAt_slice w _ _ _ _ _ _ (by rw [Try.elem_rw]; exact Try.underlying33), Try.elem_rw]
  rw [if_pos ⟨by omega, by omega⟩, Try.sizeOf56]
  have e : (⟨b, o, none⟩ : Addr).add ((j : Int).toNat * 4) = ⟨b, o + 4 * j, none⟩ := by
    rw [Int.toNat_natCast, Nat.mul_comm]
    unfold Addr.add
    split <;> simp_all
  simp
  rw [Int.toNat_natCast] at e
  exact e
theorem Try.elem_iw : Try.prog.elem 58 = 41 := by kernel_rfl
theorem index_iw (b o n cap j : Nat) (hj : j < n) (w : World) : (Instr.indexAt 58 (.slice (some ⟨b, o, none⟩) n cap) (.int .i64 (j : Int))).run Try.prog w = .ok (.pointer (some ⟨b, o + 4 * j, none⟩)) w := by
  rw [run_indexAt_slice w _ _ _ _ _ _ (by rw [Try.elem_iw]; exact Try.underlying58), Try.elem_iw]
  rw [if_pos ⟨by omega, by omega⟩, Try.sizeOf41]
  have e : (⟨b, o, none⟩ : Addr).add ((j : Int).toNat * 4) = ⟨b, o + 4 * j, none⟩ := by
    rw [Int.toNat_natCast, Nat.mul_comm]
    unfold Addr.add
    split <;> simp_all
  simp
  rw [Int.toNat_natCast] at e
  exact e
theorem Try.size_w : (Try.prog.info? 41).map (·.size) = some 4 := by kernel_rfl
theorem Try.size_rw : (Try.prog.info? 56).map (·.size) = some 4 := by kernel_rfl
end Go.Proofs.Ytkiaehehckmpnaa.It

namespace Go.Proofs.Ytkiaehehckmpnaa.It

open Go.RowKit Go.Proofs.Ytkiaehehckmpnaa.Vc Go.Proofs.Ytkiaehehckmpnaa.Sp

set_option linter.unusedVariables false

set_option linter.unusedSimpArgs false

set_option maxRecDepth 100000

theorem plain_str : Try.prog.plainKey 9 = true := by kernel_rfl
theorem plain_bool : Try.prog.plainKey 4 = true := by kernel_rfl
theorem four_of {α β : Type} (g : α → β) (L : List α) (p q r s : β) (h : L.map g = [p, q, r, s]) : ∃ f1 f2 f3 f4, L = [f1, f2, f3, f4] ∧ g f1 = p ∧ g f2 = q ∧ g f3 = r ∧ g f4 = s := by
  rcases L with _ | ⟨f1, _ | ⟨f2, _ | ⟨f3, _ | ⟨f4, _ | ⟨f5, L⟩⟩⟩⟩⟩
  · simp at h
  · simp at h
  · simp at h
  · simp at h
  · simp at h; exact ⟨f1, f2, f3, f4, rfl, h.1, h.2.1, h.2.2.1, h.2.2.2⟩
  · simp at h
theorem eqw_gen {t : TypeId} (hu : Try.prog.underlying t = some (.struct (Try.prog.fieldsOf t))) (hh : Try.prog.stoodInHeld t = false)
    (hf : (Try.prog.fieldsOf t).toList.map (fun f => (f.name, f.type, f.offset)) = [("Bucket", 9, 0), ("Key", 9, 1), ("Value", 9, 2), ("Gone", 4, 3)]) (x y : I.Wt) (w : World) :
    (Op.equalIn 10000 t (WV x) (WV y)).run Try.prog w = .ok (decide (x = y)) w := by
  obtain ⟨b, k, v, g⟩ := x
  obtain ⟨b', k', v', g'⟩ := y
  rw [show (10000 : Nat) = 9999 + 1 from rfl, WV, WV, run_equalIn_struct w 9999 t _ _ hu hh]
  have p0 : ∀ (b k v : ByteArray) (g : Bool), (part 9 (wc (b, k, v, g)).toArray 0).run Try.prog w = .ok (.string b) w := fun b k v g => run_part_plain w plain_str rfl
  have p1 : ∀ (b k v : ByteArray) (g : Bool), (part 9 (wc (b, k, v, g)).toArray 1).run Try.prog w = .ok (.string k) w := fun b k v g => run_part_plain w plain_str rfl
  have p2 : ∀ (b k v : ByteArray) (g : Bool), (part 9 (wc (b, k, v, g)).toArray 2).run Try.prog w = .ok (.string v) w := fun b k v g => run_part_plain w plain_str rfl
  have p3 : ∀ (b k v : ByteArray) (g : Bool), (part 4 (wc (b, k, v, g)).toArray 3).run Try.prog w = .ok (.bool g) w := fun b k v g => run_part_plain w plain_bool rfl
  have qs : ∀ a b : ByteArray, (Op.equalIn 9999 9 (.string a) (.string b)).run Try.prog w = .ok (decide (a = b)) w := fun a b => by
    rw [← V.tol_eq]; exact run_equalIn_string w 9998 9 a b Try.underlying9
  have qb : ∀ a b : Bool, (Op.equalIn 9999 4 (.bool a) (.bool b)).run Try.prog w = .ok (decide (a = b)) w := fun a b => by
    have := run_equalIn_bool' (P := Try.prog) w 9998 4 a b Try.underlying4
    rw [this]
    cases a <;> cases b <;> rfl
  obtain ⟨f1, f2, f3, f4, hL, g1, g2, g3, g4⟩ := four_of _ _ _ _ _ _ hf
  simp only [Prod.mk.injEq] at g1 g2 g3 g4
  obtain ⟨n1, t1, o1⟩ := g1
  obtain ⟨n2, t2, o2⟩ := g2
  obtain ⟨n3, t3, o3⟩ := g3
  obtain ⟨n4, t4, o4⟩ := g4
  rw [hL]
  have k1 : f1.name ≠ "_" := by rw [n1]; decide
  have k2 : f2.name ≠ "_" := by rw [n2]; decide
  have k3 : f3.name ≠ "_" := by rw [n3]; decide
  have k4 : f4.name ≠ "_" := by rw [n4]; decide
  simp only [Op.eqFields, if_pos k1, if_pos k2, if_pos k3, if_pos k4, t1, o1, t2, o2, t3, o3, t4, o4, Sem.run_bind, p0, p1, p2, p3, qs, qb, Result.andThen_ok]
  by_cases h1 : b = b'
  · by_cases h2 : k = k'
    · by_cases h3 : v = v'
      · by_cases h4 : g = g'
        · simp [h1, h2, h3, h4, Sem.run_bind, p0, p1, p2, p3, qs, qb, Result.andThen_ok]
        · simp [h1, h2, h3, h4, Sem.run_bind, p0, p1, p2, p3, qs, qb, Result.andThen_ok]
      · simp [h1, h2, h3, Sem.run_bind, p0, p1, p2, p3, qs, qb, Result.andThen_ok]
    · simp [h1, h2, Sem.run_bind, p0, p1, p2, p3, qs, qb, Result.andThen_ok]
  · simp [h1]
theorem fields_rw : (Try.prog.fieldsOf 56).toList.map (fun f => (f.name, f.type, f.offset)) = [("Bucket", 9, 0), ("Key", 9, 1), ("Value", 9, 2), ("Gone", 4, 3)] := by kernel_rfl
theorem under_rw : Try.prog.underlying 56 = some (.struct (Try.prog.fieldsOf 56)) := by kernel_rfl
theorem held_rw : Try.prog.stoodInHeld 56 = false := by kernel_rfl
theorem guardType_rw : Try.prog.eqGuardType Try.prog.depth 56 = false := by kernel_rfl
theorem guard_rw (r : BinOp) (x y : Operand) (a b : I.Wt) (w : World) : (eqGuard r 56 x y (WV a) (WV b)).run Try.prog w = .ok () w := by
  unfold WV
  cases r <;> simp [eqGuard, guardType_rw]
theorem neq_rw (a b : I.Wt) (w : World) : (binOp .neq 56 (WV a) (WV b)).run Try.prog w = .ok (.bool (!decide (a = b))) w := by
  have h := eqw_gen under_rw held_rw fields_rw a b w
  have e : binOp .neq 56 (WV a) (WV b) = (do pure (.bool (!(← Op.equalIn 10000 56 (WV a) (WV b))))) := rfl
  rw [e]
  simp only [Sem.run_bind, h, Result.andThen_ok, Sem.run_pure]
theorem fields_iw : (Try.prog.fieldsOf 41).toList.map (fun f => (f.name, f.type, f.offset)) = [("Bucket", 9, 0), ("Key", 9, 1), ("Value", 9, 2), ("Gone", 4, 3)] := by kernel_rfl
theorem under_iw : Try.prog.underlying 41 = some (.struct (Try.prog.fieldsOf 41)) := by kernel_rfl
theorem held_iw : Try.prog.stoodInHeld 41 = false := by kernel_rfl
theorem guardType_iw : Try.prog.eqGuardType Try.prog.depth 41 = false := by kernel_rfl
theorem guard_iw (r : BinOp) (x y : Operand) (a b : I.Wt) (w : World) : (eqGuard r 41 x y (WV a) (WV b)).run Try.prog w = .ok () w := by
  unfold WV
  cases r <;> simp [eqGuard, guardType_iw]
theorem neq_iw (a b : I.Wt) (w : World) : (binOp .neq 41 (WV a) (WV b)).run Try.prog w = .ok (.bool (!decide (a = b))) w := by
  have h := eqw_gen under_iw held_iw fields_iw a b w
  have e : binOp .neq 41 (WV a) (WV b) = (do pure (.bool (!(← Op.equalIn 10000 41 (WV a) (WV b))))) := rfl
  rw [e]
  simp only [Sem.run_bind, h, Result.andThen_ok, Sem.run_pure]
theorem eql_iw (a b : I.Wt) (w : World) : (binOp .eql 41 (WV a) (WV b)).run Try.prog w = .ok (.bool (decide (a = b))) w := by
  have h := eqw_gen under_iw held_iw fields_iw a b w
  have e : binOp .eql 41 (WV a) (WV b) = (do pure (.bool (← Op.equalIn 10000 41 (WV a) (WV b)))) := rfl
  rw [e]
  simp only [Sem.run_bind, h, Result.andThen_ok, Sem.run_pure]
section

variable {P : Program} {ops : Array Oper} {rest : List Oper} {o : Oper} {a : Act} {C : World → Prop} {Q : Act → Prop}

/-- a write is loaded out of the midst of a block -/
theorem w_wv_load (hgd : o.guard = none) (t : TypeId) (x : Operand) (ho : o.op = .load t x) (b p : Nat) (hx : a.eval x = .pointer (some ⟨b, p, none⟩)) (y : I.Wt) (hb : ∀ u, C u → u.rangeAt b p (wc y))
    (d : TypeDesc) (hu : P.underlying t = some d) (hd : d.isRow = true) (hi : (P.info? t).map (·.size) = some 4)
    (h : ∀ K : Act → Prop, (∀ a, WQ P ops C Q rest a → K a) → K (a.put o.dst (WV y))) : WQ P ops C Q (o :: rest) a := by
  refine w_value hgd (WV y) (fun u hc => ?_) h
  have hl := run_loadAt_mid u b p t (wc y) d (hb u hc) hu hd hi
  unfold execOp
  simp only [ho, hx, Sem.run_bind, hl, Result.andThen_ok, Sem.run_pure]
  rfl
theorem wg_wv_load (hw : Region.wanted o (yielded ops a.tmps) = true) (t : TypeId) (x : Operand) (ho : o.op = .load t x) (b p : Nat) (hx : a.eval x = .pointer (some ⟨b, p, none⟩)) (y : I.Wt) (hb : ∀ u, C u → u.rangeAt b p (wc y))
    (d : TypeDesc) (hu : P.underlying t = some d) (hd : d.isRow = true) (hi : (P.info? t).map (·.size) = some 4)
    (h : ∀ K : Act → Prop, (∀ a, WQ P ops C Q rest a → K a) → K (a.put o.dst (WV y))) : WQ P ops C Q (o :: rest) a := by
  refine wg_value hw (WV y) (fun u hc => ?_) h
  have hl := run_loadAt_mid u b p t (wc y) d (hb u hc) hu hd hi
  unfold execOp
  simp only [ho, hx, Sem.run_bind, hl, Result.andThen_ok, Sem.run_pure]
  rfl
end

/-- the slice v is the call's own and holds these writes (of type t) -/
structure OW (t : TypeId) (w : World) (base : Nat) (v : Value) (L : List I.Wt) : Prop where
  own : w.ownsRow base t 4 v L.length (cellsW L)
theorem OW.nil (t : TypeId) (w : World) (base : Nat) : OW t w base (.slice none 0 0) [] := ⟨World.ownsRow_nil _ _ _ _⟩
theorem OW.below {t : TypeId} {w w' : World} {base : Nat} {v : Value} {L : List I.Wt} (h : OW t w base v L) (hb : Below w.heap.size w w') : OW t w' base v L := by
  obtain ⟨⟨hl, h0 | ⟨g, cap, cur, hv, hB, hh, r⟩⟩⟩ := h
  · exact ⟨⟨hl, .inl h0⟩⟩
  · have hg : g < w.heap.size := by
      rcases Nat.lt_or_ge g w.heap.size with h1 | h1
      · exact h1
      · rw [Array.getElem?_eq_none h1] at hh; cases hh
    exact ⟨⟨hl, .inr ⟨g, cap, cur, hv, hB, by rw [hb.block g hg]; exact hh, r⟩⟩⟩
theorem OW.mono {t : TypeId} {w : World} {base base' : Nat} {v : Value} {L : List I.Wt} (h : OW t w base v L) (hb : base' ≤ base) : OW t w base' v L := by
  obtain ⟨⟨hl, h0 | ⟨g, cap, cur, hv, hB, r⟩⟩⟩ := h
  · exact ⟨⟨hl, .inl h0⟩⟩
  · exact ⟨⟨hl, .inr ⟨g, cap, cur, hv, Nat.le_trans hb hB, r⟩⟩⟩
theorem OW.is {t : TypeId} {w : World} {base : Nat} {v : Value} {L : List I.Wt} (h : OW t w base v L) : IsWs w v L := by
  obtain ⟨hl, h2⟩ := h.own
  have h' := h.own
  rcases h2 with ⟨rfl, h0⟩ | ⟨g, cap, cur, rfl, hb, hg, hn, hm, hs, ht⟩
  · exact ⟨none, 0, by rw [h0], by omega, by unfold maxLen; omega, fun hne => absurd (List.length_eq_zero_iff.1 h0) hne⟩
  · refine ⟨_, cap, rfl, hn, hm, fun _ => ⟨g, 0, rfl, ?_, fun i x hx j v hv => ?_⟩⟩
    · rcases Nat.lt_or_ge g w.heap.size with h1 | h1
      · exact h1
      · rw [Array.getElem?_eq_none h1] at hg; cases hg
    · have hcell := World.ownsRow.cells h' (g := g) rfl (4 * i + j) v (cellsW_at L i x hx j v hv)
      rw [show (⟨g, 0, none⟩ : Addr).add (4 * i + j) = ⟨g, 4 * i + j, none⟩ by unfold Addr.add; split <;> simp_all] at hcell
      rw [Nat.zero_add]
      exact hcell
theorem append_gen {t ts : TypeId} (hu : Try.prog.underlying ts = some (.slice t)) (hinf : (Try.prog.info? t).map (fun i => (i.zero, i.size, i.bytes)) = some (some (.agg (wc I.none_).toArray), 4, 56)) (w : World) {ops : Array Oper} {rest : List Oper} {o : Oper} {a : Act} {Q : Exit → Act → World → Prop} (hgd : o.guard = none) (s x : Operand)
    (ho : o.op = .call { callee := .builtin .append, args := #[s, x], argTypes := #[ts, ts] })
    (base : Nat) (v : Value) (L : List I.Wt) (hs : a.eval s = v) (hown : OW t w base v L) (g : Nat) (hx : a.eval x = .slice (some ⟨g, 0, none⟩) 1 1) (b : I.Wt)
    (hcell : Blk w g (wc b)) (hl : L.length < 1000000) (hbase : base ≤ w.heap.size)
    (h : ∀ v' w', OW t w' base v' (L ++ [b]) → Below base w w' → base ≤ w'.heap.size → wpList Try.prog ops Q rest (a.put o.dst v') w') : wpList Try.prog ops Q (o :: rest) a w := by
  obtain ⟨i0, hi, hz0, hz1, hz2⟩ := info_parts hinf
  refine wpList_append_own w hgd s x ts ho base t i0 (.agg (wc I.none_).toArray) 4 56 hu hi hz0 hz1 hz2 rfl (by decide) v L.length (cellsW L) hs hown.own ⟨g, 0, none⟩ 1 1 (wc b) hx rfl ?_ ?_ (by unfold maxLen; omega) (by omega) hbase ?_
  · intro j u hj
    have := hcell.1 j u hj
    rw [Nat.zero_add] at this
    rwa [show (⟨g, 0, none⟩ : Addr).add j = ⟨g, j, none⟩ by unfold Addr.add; split <;> simp_all]
  · intro u hu
    simp only [wc, List.mem_cons, List.not_mem_nil, or_false] at hu
    rcases hu with rfl | rfl | rfl | rfl <;> rfl
  · intro v' w' h1 h2 _
    have hB : Below base w w' := (Below.refl _ _).grown h2 hbase (fun k hk => (World.ownsRow.lt hown.own k hk).1)
    refine h v' w' ⟨?_⟩ hB (Nat.le_trans hbase hB.size)
    rw [List.length_append, cellsW_add]
    exact h1
theorem Try.info_rw : (Try.prog.info? 56).map (fun i => (i.zero, i.size, i.bytes)) = some (some (.agg (wc I.none_).toArray), 4, 56) := by kernel_rfl
theorem Try.info_iw : (Try.prog.info? 41).map (fun i => (i.zero, i.size, i.bytes)) = some (some (.agg (wc I.none_).toArray), 4, 56) := by kernel_rfl
theorem Try.info_rw2 : (Try.prog.info? 56).map (fun i => (i.zero, i.size)) = some (some (.agg (wc I.none_).toArray), (wc I.none_).length) := by kernel_rfl
theorem Try.info_iw2 : (Try.prog.info? 41).map (fun i => (i.zero, i.size)) = some (some (.agg (wc I.none_).toArray), (wc I.none_).length) := by kernel_rfl
/-- []Write{w} -/
theorem build_rw {w : World} {ops : Array Oper} {rest : List Oper} {o : Oper} {a : Act} {Q : Exit → Act → World → Prop} (hgd : o.guard = none) (x : Operand) (ho : o.op = .buildSlice 33 1 #[(0, x)]) (y : I.Wt) (hx : a.eval x = WV y)
    (h : ∀ w', Blk w' w.heap.size (wc y) → Below w.heap.size w w' → w'.heap.size = w.heap.size + 1 → wpList Try.prog ops Q rest (a.put o.dst (.slice (some ⟨w.heap.size, 0, none⟩) 1 1)) w') : wpList Try.prog ops Q (o :: rest) a w := by
  obtain ⟨b, k, v, g⟩ := y
  refine wpList_plain hgd fun K hK => ?_
  have e : (Instr.buildSlice 33 1 #[(0, WV (b, k, v, g))]).run Try.prog w = .ok (.slice (some ⟨w.heap.size, 0, none⟩) 1 1) (w.alloc (.cells #[.string b, .string k, .string v, .bool g] 56)) := by
    unfold WV wc
    go_simp
  unfold Oper.wp execOp
  simp only [ho, Sem.run_bind, List.map_toArray, List.map_cons, List.map_nil, hx, e, Result.andThen_ok, Sem.run_pure]
  exact hK _ _ (h _ (Blk.of_row (heap_alloc_last w _)) ((Below.refl _ _).alloc (Nat.le_refl _) _) (by show (w.heap.push _).size = _; simp))
theorem build_iw {w : World} {ops : Array Oper} {rest : List Oper} {o : Oper} {a : Act} {Q : Exit → Act → World → Prop} (hgd : o.guard = none) (x : Operand) (ho : o.op = .buildSlice 58 1 #[(0, x)]) (y : I.Wt) (hx : a.eval x = WV y)
    (h : ∀ w', Blk w' w.heap.size (wc y) → Below w.heap.size w w' → w'.heap.size = w.heap.size + 1 → wpList Try.prog ops Q rest (a.put o.dst (.slice (some ⟨w.heap.size, 0, none⟩) 1 1)) w') : wpList Try.prog ops Q (o :: rest) a w := by
  obtain ⟨b, k, v, g⟩ := y
  refine wpList_plain hgd fun K hK => ?_
  have e : (Instr.buildSlice 58 1 #[(0, WV (b, k, v, g))]).run Try.prog w = .ok (.slice (some ⟨w.heap.size, 0, none⟩) 1 1) (w.alloc (.cells #[.string b, .string k, .string v, .bool g] 41)) := by
    unfold WV wc
    go_simp
  unfold Oper.wp execOp
  simp only [ho, Sem.run_bind, List.map_toArray, List.map_cons, List.map_nil, hx, e, Result.andThen_ok, Sem.run_pure]
  exact hK _ _ (h _ (Blk.of_row (heap_alloc_last w _)) ((Below.refl _ _).alloc (Nat.le_refl _) _) (by show (w.heap.push _).size = _; simp))
end Go.Proofs.Ytkiaehehckmpnaa.It

namespace Go.Proofs.Ytkiaehehckmpnaa.It

open Go.RowKit Go.Proofs.Ytkiaehehckmpnaa.Vc Go.Proofs.Ytkiaehehckmpnaa.Sp

set_option linter.unusedVariables false

set_option linter.unusedSimpArgs false

set_option maxRecDepth 100000

set_option maxHeartbeats 1000000 in
theorem named_any (s : ByteArray) (w : World) :
    Calls Try.prog 58 #[.string s] w fun e w' => e = .returned (.bool (decide (1 ≤ s.size ∧ s.size ≤ 16))) ∧ w' = w := by
  by_cases h1 : 1 ≤ s.size
  · have i1 : (1 : Int) ≤ (s.size : Int) := by omega
    by_cases h2 : s.size ≤ 16
    · have i2 : (s.size : Int) ≤ 16 := by omega
      rw [decide_eq_true (show 1 ≤ s.size ∧ s.size ≤ 16 from ⟨h1, h2⟩)]
      go_enter Try.func58, Try.ntmps58
      go_wp2_with fail
      go_ret
      exact ⟨rfl, rfl⟩
    · have i2 : decide ((s.size : Int) ≤ 16) = false := by simp; omega
      rw [decide_eq_false (show ¬ (1 ≤ s.size ∧ s.size ≤ 16) from fun h => h2 h.2)]
      go_enter Try.func58, Try.ntmps58
      go_wp2_with fail
      go_ret
      exact ⟨rfl, rfl⟩
  · have i1 : decide ((1 : Int) ≤ (s.size : Int)) = false := by simp; omega
    rw [decide_eq_false (show ¬ (1 ≤ s.size ∧ s.size ≤ 16) from fun h => h1 h.1)]
    go_enter Try.func58, Try.ntmps58
    go_wp2_with fail
    go_ret
    exact ⟨rfl, rfl⟩
set_option maxHeartbeats 4000000 in
theorem wright_any (x : I.Wt) (w : World) :
    Calls Try.prog 36 #[WV x] w fun e w' => e = .returned (.bool (I.right x)) ∧ Below w.heap.size w w' := by
  obtain ⟨b, k, v, g⟩ := x
  obtain ⟨r, HR⟩ : ∃ r, Hid (I.right (b, k, v, g) = r) := ⟨_, rfl⟩
  rw [HR.out]
  have hR := HR.out
  unfold I.right at hR
  simp only at hR
  clear HR
  have CB := Lib.hid (fun w => named_any b w)
  have CK := Lib.hid (fun w => named_any k w)
  go_enter Try.func36, Try.ntmps36
  go_wp2_with (first | refine blk_box rfl 41 _ rfl [.string b, .string k, .string v, .bool g] rfl ?_)
  intro w1 A1 B1 Z1
  have HB1 : Hid (Below w.heap.size w w1) := B1
  have c0 := A1.cell 0 _ rfl
  have c1 := A1.cell 1 _ rfl
  have c2 := A1.cell 2 _ rfl
  have c3 := A1.cell 3 _ rfl
  clear A1 B1 Z1
  by_cases h12 : 1 ≤ b.size ∧ b.size ≤ 16
  · rw [decide_eq_true h12] at CB
    by_cases h34 : 1 ≤ k.size ∧ k.size ≤ 16
    · rw [decide_eq_true h34] at CK
      by_cases h5 : v.size ≤ 32
      · have i5 : (v.size : Int) ≤ 32 := by omega
        cases g with
        | false =>
          obtain rfl : true = r := by rw [← hR]; simp [h12, h34, h5]
          clear hR h12 h34
          go_wp2_with fail
          refine (CB.out _).mono ?_; rintro e w2 ⟨rfl, rfl⟩
          go_wp2_with fail
          refine (CK.out _).mono ?_; rintro e w3 ⟨rfl, rfl⟩
          go_wp2_with fail
          go_ret
          exact ⟨rfl, HB1.out⟩
        | true =>
          by_cases h6 : v.size = 0
          · obtain rfl : true = r := by rw [← hR]; simp [h12, h34, h6]
            have hE : v.toList.isEmpty = true := by
              rw [ByteArray.toList_eq, List.isEmpty_iff]
              exact List.eq_nil_of_length_eq_zero (by rw [P.len_list]; exact h6)
            clear hR h12 h34
            go_wp2_with fail
            refine (CB.out _).mono ?_; rintro e w2 ⟨rfl, rfl⟩
            go_wp2_with fail
            refine (CK.out _).mono ?_; rintro e w3 ⟨rfl, rfl⟩
            go_wp2_with fail
            go_ret
            exact ⟨rfl, HB1.out⟩
          · obtain rfl : false = r := by rw [← hR]; simp [h6]
            have hE := V.empty_not v h6
            clear hR h12 h34
            go_wp2_with fail
            go_ret
            exact ⟨rfl, HB1.out⟩
      · obtain rfl : false = r := by rw [← hR]; simp [h5]
        have i : decide ((v.size : Int) ≤ 32) = false := by simp; omega
        have h6 : v.size ≠ 0 := by omega
        have hE := V.empty_not v h6
        clear hR h12 h34 h5 h6
        cases g with
        | false =>
          go_wp2_with fail
          refine (CB.out _).mono ?_; rintro e w2 ⟨rfl, rfl⟩
          go_wp2_with fail
          refine (CK.out _).mono ?_; rintro e w3 ⟨rfl, rfl⟩
          go_wp2_with fail
          go_ret
          exact ⟨rfl, HB1.out⟩
        | true =>
          go_wp2_with fail
          go_ret
          exact ⟨rfl, HB1.out⟩
    · rw [decide_eq_false h34] at CK
      obtain rfl : false = r := by rw [← hR, decide_eq_false (show ¬ (1 ≤ b.size ∧ b.size ≤ 16 ∧ 1 ≤ k.size ∧ k.size ≤ 16 ∧ v.size ≤ 32) by omega)]; rfl
      clear hR h12 h34
      cases g with
      | false =>
        go_wp2_with fail
        refine (CB.out _).mono ?_; rintro e w2 ⟨rfl, rfl⟩
        go_wp2_with fail
        refine (CK.out _).mono ?_; rintro e w3 ⟨rfl, rfl⟩
        go_wp2_with fail
        go_ret
        exact ⟨rfl, HB1.out⟩
      | true =>
        cases hE : v.toList.isEmpty with
        | true =>
          go_wp2_with fail
          refine (CB.out _).mono ?_; rintro e w2 ⟨rfl, rfl⟩
          go_wp2_with fail
          refine (CK.out _).mono ?_; rintro e w3 ⟨rfl, rfl⟩
          go_wp2_with fail
          go_ret
          exact ⟨rfl, HB1.out⟩
        | false =>
          go_wp2_with fail
          go_ret
          exact ⟨rfl, HB1.out⟩
  · rw [decide_eq_false h12] at CB
    obtain rfl : false = r := by rw [← hR, decide_eq_false (show ¬ (1 ≤ b.size ∧ b.size ≤ 16 ∧ 1 ≤ k.size ∧ k.size ≤ 16 ∧ v.size ≤ 32) by omega)]; rfl
    clear hR h12
    cases g with
    | false =>
      go_wp2_with fail
      refine (CB.out _).mono ?_; rintro e w2 ⟨rfl, rfl⟩
      go_wp2_with fail
      go_ret
      exact ⟨rfl, HB1.out⟩
    | true =>
      cases hE : v.toList.isEmpty with
      | true =>
        go_wp2_with fail
        refine (CB.out _).mono ?_; rintro e w2 ⟨rfl, rfl⟩
        go_wp2_with fail
        go_ret
        exact ⟨rfl, HB1.out⟩
      | false =>
        go_wp2_with fail
        go_ret
        exact ⟨rfl, HB1.out⟩
set_option maxHeartbeats 4000000 in
theorem ref_wright (x : I.Wt) (w : World) :
    Calls Try.prog 52 #[WV x] w fun e w' => e = .returned (.bool (I.right x)) ∧ Below w.heap.size w w' := by
  obtain ⟨b, k, v, g⟩ := x
  obtain ⟨r, HR⟩ : ∃ r, Hid (I.right (b, k, v, g) = r) := ⟨_, rfl⟩
  rw [HR.out]
  have hR := HR.out
  unfold I.right at hR
  simp only at hR
  clear HR
  go_enter Try.func52, Try.ntmps52
  go_wp2_with (first | refine blk_box rfl 56 _ rfl [.string b, .string k, .string v, .bool g] rfl ?_)
  intro w1 A1 B1 Z1
  have HB1 : Hid (Below w.heap.size w w1) := B1
  have c0 := A1.cell 0 _ rfl
  have c1 := A1.cell 1 _ rfl
  have c2 := A1.cell 2 _ rfl
  have c3 := A1.cell 3 _ rfl
  clear A1 B1 Z1
  by_cases h1 : 1 ≤ b.size
  · have i1 : (1 : Int) ≤ (b.size : Int) := by omega
    by_cases h2 : b.size ≤ 16
    · have i2 : (b.size : Int) ≤ 16 := by omega
      by_cases h3 : 1 ≤ k.size
      · have i3 : (1 : Int) ≤ (k.size : Int) := by omega
        by_cases h4 : k.size ≤ 16
        · have i4 : (k.size : Int) ≤ 16 := by omega
          by_cases h5 : v.size ≤ 32
          · have i5 : (v.size : Int) ≤ 32 := by omega
            cases g with
            | false =>
              obtain rfl : true = r := by rw [← hR]; simp [h1, h2, h3, h4, h5]
              clear hR
              go_wp2_with fail
              go_ret
              exact ⟨rfl, HB1.out⟩
            | true =>
              by_cases h6 : v.size = 0
              · obtain rfl : true = r := by rw [← hR]; simp [h1, h2, h3, h4, h6]
                have hE : v.toList.isEmpty = true := by
                  rw [ByteArray.toList_eq, List.isEmpty_iff]
                  exact List.eq_nil_of_length_eq_zero (by rw [P.len_list]; exact h6)
                clear hR
                go_wp2_with fail
                go_ret
                exact ⟨rfl, HB1.out⟩
              · obtain rfl : false = r := by rw [← hR]; simp [h6]
                have hE := V.empty_not v h6
                clear hR
                go_wp2_with fail
                go_ret
                exact ⟨rfl, HB1.out⟩
          · obtain rfl : false = r := by rw [← hR]; simp [h5]
            have i : decide ((v.size : Int) ≤ 32) = false := by simp; omega
            clear hR
            go_wp2_with fail
            go_ret
            exact ⟨rfl, HB1.out⟩
        · obtain rfl : false = r := by rw [← hR]; simp [h4]
          have i : decide ((k.size : Int) ≤ 16) = false := by simp; omega
          clear hR
          go_wp2_with fail
          go_ret
          exact ⟨rfl, HB1.out⟩
      · obtain rfl : false = r := by rw [← hR]; simp [h3]
        have i : decide ((1 : Int) ≤ (k.size : Int)) = false := by simp; omega
        clear hR
        go_wp2_with fail
        go_ret
        exact ⟨rfl, HB1.out⟩
    · obtain rfl : false = r := by rw [← hR]; simp [h2]
      have i : decide ((b.size : Int) ≤ 16) = false := by simp; omega
      clear hR
      go_wp2_with fail
      go_ret
      exact ⟨rfl, HB1.out⟩
  · obtain rfl : false = r := by rw [← hR]; simp [h1]
    have i : decide ((1 : Int) ≤ (b.size : Int)) = false := by simp; omega
    clear hR
    go_wp2_with fail
    go_ret
    exact ⟨rfl, HB1.out⟩
end Go.Proofs.Ytkiaehehckmpnaa.It
