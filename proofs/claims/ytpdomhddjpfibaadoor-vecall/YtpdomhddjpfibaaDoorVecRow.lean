/- A row of vectors that is the call's own. -/
import Derived.Test.YtpdomhddjpfibaaDoorVecOf

import Derived.Test.YtpdomhddjpfibaaDoorVecAllF

import Derived.Test.YtpdomhddjpfibaaDoorPackPut

namespace Go.Proofs.YtpdomhddjpfibaaDoor.V

set_option linter.unusedVariables false

theorem meet_l {a b : List Nat} (ha : a.length = 4) (hb : b.length = 4) : leq (meet a b) a = true := by
  obtain ⟨a0, a1, a2, a3, rfl⟩ := four ha
  obtain ⟨b0, b1, b2, b3, rfl⟩ := four hb
  simp only [meet, List.zipWith_cons_cons, List.zipWith_nil_right]
  rw [leq_iff]
  omega
theorem meet_r {a b : List Nat} (ha : a.length = 4) (hb : b.length = 4) : leq (meet a b) b = true := by
  obtain ⟨a0, a1, a2, a3, rfl⟩ := four ha
  obtain ⟨b0, b1, b2, b3, rfl⟩ := four hb
  simp only [meet, List.zipWith_cons_cons, List.zipWith_nil_right]
  rw [leq_iff]
  omega
theorem under_meet {x a b : List Nat} (hx : x.length = 4) (ha : a.length = 4) (hb : b.length = 4) (h1 : leq x a = true) (h2 : leq x b = true) : leq x (meet a b) = true := by
  obtain ⟨x0, x1, x2, x3, rfl⟩ := four hx
  obtain ⟨a0, a1, a2, a3, rfl⟩ := four ha
  obtain ⟨b0, b1, b2, b3, rfl⟩ := four hb
  rw [leq_iff] at h1 h2
  simp only [meet, List.zipWith_cons_cons, List.zipWith_nil_right]
  rw [leq_iff]
  omega
theorem fold_len (L : List (List Nat)) (a : List Nat) (ha : a.length = 4) (h : ∀ l ∈ L, l.length = 4) : (L.foldl meet a).length = 4 := by
  induction L generalizing a with
  | nil => exact ha
  | cons x L ih => exact ih _ (meet_length ha (h x (by simp))) (fun l hl => h l (by simp [hl]))
theorem fold_under (L : List (List Nat)) (a : List Nat) (ha : a.length = 4) (h : ∀ l ∈ L, l.length = 4) : leq (L.foldl meet a) a = true ∧ ∀ l ∈ L, leq (L.foldl meet a) l = true := by
  induction L generalizing a with
  | nil => exact ⟨leq_refl ha, fun l hl => by cases hl⟩
  | cons x L ih =>
    have hx := h x (by simp)
    have hL : ∀ l ∈ L, l.length = 4 := fun l hl => h l (by simp [hl])
    have hm := meet_length ha hx
    have hF := fold_len L _ hm hL
    obtain ⟨h1, h2⟩ := ih (meet a x) hm hL
    refine ⟨leq_trans hF hm ha h1 (meet_l ha hx), fun l hl => ?_⟩
    rcases List.mem_cons.1 hl with rfl | hl
    · exact leq_trans hF hm hx h1 (meet_r ha hx)
    · exact h2 l hl
theorem all_under (L : List (List Nat)) (h : ∀ l ∈ L, l.length = 4) : ∀ l ∈ L, leq (all L) l = true := by
  cases L with
  | nil => intro l hl; cases hl
  | cons a L =>
    obtain ⟨h1, h2⟩ := fold_under L a (h a (by simp)) (fun l hl => h l (by simp [hl]))
    intro l hl
    rcases List.mem_cons.1 hl with rfl | hl
    · exact h1
    · exact h2 l hl
theorem under_fold (L : List (List Nat)) (b a : List Nat) (hb : b.length = 4) (ha : a.length = 4) (h : ∀ l ∈ L, l.length = 4) (h0 : leq b a = true) (h1 : ∀ l ∈ L, leq b l = true) : leq b (L.foldl meet a) = true := by
  induction L generalizing a with
  | nil => exact h0
  | cons x L ih => exact ih _ (meet_length ha (h x (by simp))) (fun l hl => h l (by simp [hl])) (under_meet hb ha (h x (by simp)) h0 (h1 x (by simp))) (fun l hl => h1 l (by simp [hl]))
theorem under_all (L : List (List Nat)) (b : List Nat) (hn : L ≠ []) (hb : b.length = 4) (h : ∀ l ∈ L, l.length = 4) (h1 : L.all (fun l => leq b l) = true) : leq b (all L) = true := by
  rw [List.all_eq_true] at h1
  cases L with
  | nil => exact absurd rfl hn
  | cons a L => exact under_fold L b a hb (h a (by simp)) (fun l hl => h l (by simp [hl])) (h1 a (by simp)) (fun l hl => h1 l (by simp [hl]))
theorem all_length (L : List (List Nat)) (h : ∀ l ∈ L, l.length = 4) : (all L).length = 4 := by
  cases L with
  | nil => rfl
  | cons a L => exact fold_len L a (h a (by simp)) (fun l hl => h l (by simp [hl]))
end Go.Proofs.YtpdomhddjpfibaaDoor.V

namespace Go.Proofs.YtpdomhddjpfibaaDoor.Vc

open Go.RowKit

set_option linter.unusedVariables false

set_option linter.unusedSimpArgs false

set_option maxRecDepth 100000

/-- the cells of vectors, one behind the other -/
def cellsV (L : List (List Nat)) : List Value := (L.map (ks .u64)).flatten
theorem cellsV_len (L : List (List Nat)) (h : ∀ l ∈ L, l.length = 4) : (cellsV L).length = L.length * 4 := by
  induction L with
  | nil => rfl
  | cons a L ih =>
    have := ih (fun l hl => h l (by simp [hl]))
    unfold cellsV at this ⊢
    rw [List.map_cons, List.flatten_cons, List.length_append, this, ks_length, h a (by simp), List.length_cons]
    omega
theorem cellsV_add (L : List (List Nat)) (a : List Nat) : cellsV (L ++ [a]) = cellsV L ++ ks .u64 a := by simp [cellsV]
theorem cellsV_at (L : List (List Nat)) (h : ∀ l ∈ L, l.length = 4) (i : Nat) (l : List Nat) (hl : L[i]? = some l) (j : Nat) (v : Value) (hv : (ks .u64 l)[j]? = some v) : (cellsV L)[4 * i + j]? = some v := by
  induction L generalizing i with
  | nil => simp at hl
  | cons a L ih =>
    have ha : (ks .u64 a).length = 4 := by rw [ks_length]; exact h a (by simp)
    cases i with
    | zero =>
      simp only [List.getElem?_cons_zero, Option.some.injEq] at hl
      subst hl
      unfold cellsV
      rw [List.map_cons, List.flatten_cons, Nat.mul_zero, Nat.zero_add, List.getElem?_append_left (List.getElem?_eq_some_iff.1 hv).1]
      exact hv
    | succ i =>
      rw [List.getElem?_cons_succ] at hl
      unfold cellsV
      rw [List.map_cons, List.flatten_cons, List.getElem?_append_right (by omega), ha, show 4 * (i + 1) + j - 4 = 4 * i + j by omega]
      exact ih (fun l hl => h l (by simp [hl])) i hl
/-- the slice v is the call's own and holds these vectors -/
structure OV (w : World) (base : Nat) (v : Value) (L : List (List Nat)) : Prop where
  own : w.ownsRow base 24 4 v L.length (cellsV L)
  len : ∀ l ∈ L, l.length = 4
theorem OV.nil (w : World) (base : Nat) : OV w base (.slice none 0 0) [] := ⟨World.ownsRow_nil _ _ _ _, fun l hl => by cases hl⟩
theorem OV.below {w w' : World} {base : Nat} {v : Value} {L : List (List Nat)} (h : OV w base v L) (hb : Below w.heap.size w w') : OV w' base v L := by
  obtain ⟨⟨hl, h0 | ⟨g, cap, cur, hv, hB, hh, r⟩⟩, h4⟩ := h
  · exact ⟨⟨hl, .inl h0⟩, h4⟩
  · have hg : g < w.heap.size := by
      rcases Nat.lt_or_ge g w.heap.size with h1 | h1
      · exact h1
      · rw [Array.getElem?_eq_none h1] at hh; cases hh
    exact ⟨⟨hl, .inr ⟨g, cap, cur, hv, hB, by rw [hb.block g hg]; exact hh, r⟩⟩, h4⟩
theorem Tryd.info_vb : (Tryd.prog.info? 24).map (fun i => (i.zero, i.size, i.bytes)) = some (some (AV .u64 (List.replicate 4 0)), 4, 32) := by kernel_rfl
/-- append(all, v) -/
theorem append_vec (w : World) {ops : Array Oper} {rest : List Oper} {o : Oper} {a : Act} {Q : Exit → Act → World → Prop} (hgd : o.guard = none) (s x : Operand)
    (ho : o.op = .call { callee := .builtin .append, args := #[s, x], argTypes := #[35, 35] })
    (base : Nat) (v : Value) (L : List (List Nat)) (hs : a.eval s = v) (hown : OV w base v L) (g : Nat) (hx : a.eval x = .slice (some ⟨g, 0, none⟩) 1 1) (b : List Nat) (hb4 : b.length = 4)
    (hcell : Blk w g (ks .u64 b)) (hl : L.length < 1000) (hbase : base ≤ w.heap.size)
    (h : ∀ v' w', OV w' base v' (L ++ [b]) → Below base w w' → base ≤ w'.heap.size → wpList Tryd.prog ops Q rest (a.put o.dst v') w') : wpList Tryd.prog ops Q (o :: rest) a w := by
  obtain ⟨i0, hi, hz0, hz1, hz2⟩ := info_parts Tryd.info_vb
  refine wpList_append_own w hgd s x 35 ho base 24 i0 (AV .u64 (List.replicate 4 0)) 4 32 Tryd.underlying35 hi hz0 hz1 hz2 rfl (by decide) v L.length (cellsV L) hs hown.own ⟨g, 0, none⟩ 1 1 (ks .u64 b) hx (by rw [ks_length, hb4]) ?_ ?_ (by unfold maxLen; omega) (by omega) hbase ?_
  · intro j u hj
    have := hcell.1 j u hj
    rw [Nat.zero_add] at this
    rwa [show (⟨g, 0, none⟩ : Addr).add j = ⟨g, j, none⟩ by unfold Addr.add; split <;> simp_all]
  · intro u hu
    obtain ⟨x, _, rfl⟩ := List.mem_map.1 hu
    rfl
  · intro v' w' h1 h2 _
    have hB : Below base w w' := (Below.refl _ _).grown h2 hbase (fun k hk => (World.ownsRow.lt hown.own k hk).1)
    refine h v' w' ⟨?_, fun l hl => ?_⟩ hB (Nat.le_trans hbase hB.size)
    · rw [List.length_append, cellsV_add]
      exact h1
    · rcases List.mem_append.1 hl with hl | hl
      · exact hown.len l hl
      · simp at hl; subst hl; exact hb4
/-- []Vec{v} -/
theorem build_one {w : World} {ops : Array Oper} {rest : List Oper} {o : Oper} {a : Act} {Q : Exit → Act → World → Prop} (hgd : o.guard = none) (x : Operand) (ho : o.op = .buildSlice 35 1 #[(0, x)]) (l : List Nat) (hl : l.length = 4) (hx : a.eval x = AV .u64 l)
    (h : ∀ w', Blk w' w.heap.size (ks .u64 l) → Below w.heap.size w w' → w'.heap.size = w.heap.size + 1 → wpList Tryd.prog ops Q rest (a.put o.dst (.slice (some ⟨w.heap.size, 0, none⟩) 1 1)) w') : wpList Tryd.prog ops Q (o :: rest) a w := by
  obtain ⟨x0, x1, x2, x3, rfl⟩ := V.four hl
  refine wpList_plain hgd fun K hK => ?_
  have e : (Instr.buildSlice 35 1 #[(0, AV .u64 [x0, x1, x2, x3])]).run Tryd.prog w = .ok (.slice (some ⟨w.heap.size, 0, none⟩) 1 1) (w.alloc (.cells #[.int .u64 (x0 : Nat), .int .u64 (x1 : Nat), .int .u64 (x2 : Nat), .int .u64 (x3 : Nat)] 24)) := by
    unfold AV ks
    go_simp
  unfold Oper.wp execOp
  simp only [ho, Sem.run_bind, List.map_toArray, List.map_cons, List.map_nil, hx, e, Result.andThen_ok, Sem.run_pure]
  exact hK _ _ (h _ (Blk.of_row (heap_alloc_last w _)) ((Below.refl _ _).alloc (Nat.le_refl _) _) (by show (w.heap.push _).size = _; simp))
theorem OV.open {w : World} {base : Nat} {v : Value} {L : List (List Nat)} (h : OV w base v L) : ∃ a cap, v = .slice a L.length cap ∧ L.length ≤ cap ∧ cap ≤ maxLen ∧ (L ≠ [] → ∃ g, a = some ⟨g, 0, none⟩ ∧ g < w.heap.size ∧ Vecs w g 0 L) := by
  obtain ⟨hl, h2⟩ := h.own
  have h' := h.own
  rcases h2 with ⟨rfl, h0⟩ | ⟨g, cap, cur, rfl, hb, hg, hn, hm, hs, ht⟩
  · exact ⟨none, 0, by rw [h0], by omega, by unfold maxLen; omega, fun hne => absurd (List.length_eq_zero_iff.1 h0) hne⟩
  · refine ⟨_, cap, rfl, hn, hm, fun _ => ⟨g, rfl, ?_, fun i l hl j v hv => ?_⟩⟩
    · rcases Nat.lt_or_ge g w.heap.size with h1 | h1
      · exact h1
      · rw [Array.getElem?_eq_none h1] at hg; cases hg
    · have hcell := World.ownsRow.cells h' (g := g) rfl (4 * i + j) v (cellsV_at L h.len i l hl j v hv)
      rw [show (⟨g, 0, none⟩ : Addr).add (4 * i + j) = ⟨g, 4 * i + j, none⟩ by unfold Addr.add; split <;> simp_all] at hcell
      rw [Nat.zero_add]
      exact hcell
theorem all_ov {w : World} {base : Nat} {v : Value} {L : List (List Nat)} (h : OV w base v L) :
    Calls Tryd.prog 18 #[v] w fun e w' => e = .returned (AV .u64 (V.all L)) ∧ Below w.heap.size w w' := by
  obtain ⟨a, cap, rfl, hc, hm, hg⟩ := h.open
  cases L with
  | nil => exact all_none a cap w
  | cons x L =>
    obtain ⟨g, rfl, hgw, hV⟩ := hg (by simp)
    exact all_any g 0 _ cap x L w rfl hc hm h.len hgw hV
/-- s[:1] -/
theorem head_s (g n cap : Nat) (hc : 1 ≤ cap) (w : World) : (Instr.sliceAt 35 (.slice (some ⟨g, 0, none⟩) n cap) none (some (.int .i64 1)) none).run Tryd.prog w = .ok (.slice (some ⟨g, 0, none⟩) 1 cap) w := by
  rw [run_sliceAt_slice w _ _ _ _ _ (by rw [Tryd.elem_s]; exact Tryd.underlying35), run_slice_h w _ _ _ _ (by rw [Tryd.elem_s]; exact Tryd.underlying35) _ _ (by omega) (by omega), Tryd.elem_s, Tryd.sizeOf24]
  simp [sliced]
  intro _
  rfl
section

variable {P : Program} {ops : Array Oper} {rest : List Oper} {o : Oper} {a : Act} {C : World → Prop} {Q : Act → Prop}

theorem row_run {u : World} (k : IntKind) (t : TypeId) (x : Operand) (ho : o.op = .load t x) (b p : Nat) (hx : a.eval x = .pointer (some ⟨b, p, none⟩)) (l : List Nat) (ha : u.rangeAt b p (ks k l))
    (n : Nat) (e : TypeId) (hu : P.underlying t = some (.array n e)) (hi : (P.info? t).map (·.size) = some l.length) : (execOp a.eval o).run P u = .ok (.value (AV k l)) u := by
  have hl := run_loadAt_mid u b p t (ks k l) _ ha hu rfl (by rw [ks_length]; exact hi)
  unfold execOp
  simp only [ho, hx, Sem.run_bind, hl, Result.andThen_ok, Sem.run_pure]
  rfl
end

theorem Tryd.elem_vs : Tryd.prog.elem 61 = 26 := by kernel_rfl
theorem index_vv (b o n cap j : Nat) (hj : j < n) (w : World) : (Instr.indexAt 61 (.slice (some ⟨b, o, none⟩) n cap) (.int .i64 (j : Int))).run Tryd.prog w = .ok (.pointer (some ⟨b, o + 5 * j, none⟩)) w := by
  rw [run_indexAt_slice w _ _ _ _ _ _ (by rw [Tryd.elem_vs]; exact Tryd.underlying61), Tryd.elem_vs]
  rw [if_pos ⟨by omega, by omega⟩, Tryd.sizeOf26]
  have e : (⟨b, o, none⟩ : Addr).add ((j : Int).toNat * 5) = ⟨b, o + 5 * j, none⟩ := by
    rw [Int.toNat_natCast, Nat.mul_comm]
    unfold Addr.add
    split <;> simp_all
  simp
  rw [Int.toNat_natCast] at e
  exact e
theorem take_all (p : List Nat → Bool) (L : List (List Nat)) (i : Nat) (l : List Nat) (h : L[i]? = some l) : (L.take (i + 1)).all p = ((L.take i).all p && p l) := by
  rw [List.take_add_one, h, Option.toList_some, List.all_append]; simp
end Go.Proofs.YtpdomhddjpfibaaDoor.Vc
