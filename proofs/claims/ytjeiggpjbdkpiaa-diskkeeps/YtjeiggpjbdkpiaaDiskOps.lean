/- disk: appends and clears of its rows as steps of a walk. -/
import Derived.Test.YtjeiggpjbdkpiaaDiskMem

namespace Go.Proofs.Ytjeiggpjbdkpiaa.Dk

open Go.RowKit

set_option linter.unusedVariables false

set_option linter.unusedSimpArgs false

set_option maxRecDepth 100000

/-- a slice that holds these bytes -/
structure Src (w : World) (ax : Option Addr) (c : Nat) (news : List UInt8) : Prop where
  is : (ax = none ∧ c = 0 ∧ news = []) ∨ ∃ a, ax = some a ∧ ∀ j u, (u8s news)[j]? = some u → w.cell? (a.add j) = some u
theorem OB.src {w : World} {base : Nat} {a : Option Addr} {n c : Nat} {l : List UInt8} (h : OB w base (.slice a n c) l) (k : Nat) (hk : k ≤ l.length) : Src w a c (l.take k) := by
  have h0 := h.own
  rcases h.own.2 with ⟨e, h1⟩ | ⟨g, cap, cur, e, hb, hg, hn, hm, hs, ht⟩
  · obtain rfl := List.length_eq_zero_iff.1 h1
    simp only [Value.slice.injEq] at e
    obtain ⟨rfl, rfl, rfl⟩ := e
    exact ⟨.inl ⟨rfl, rfl, by simp⟩⟩
  · simp only [Value.slice.injEq] at e
    obtain ⟨rfl, rfl, rfl⟩ := e
    refine ⟨.inr ⟨_, rfl, fun j u hu => ?_⟩⟩
    refine World.ownsRow.cells h0 (g := g) rfl j u ?_
    rw [u8s_take, List.getElem?_take] at hu
    split at hu
    · exact hu
    · cases hu
theorem run_append_ob (ty : TypeId) (w : World) (base : Nat) (v : Value) (l : List UInt8) (hown : OB w base v l) (ax : Option Addr) (m c : Nat) (news : List UInt8) (hm : news.length = m) (hsrc : Src w ax c news) (hl : l.length + m ≤ 140737488355328) (hbase : base ≤ w.heap.size) :
    ∃ v' w', (Builtin.append_ #[31, 31] ty #[v, .slice ax m c]).run Try.prog w = .ok v' w' ∧ OB w' base v' (l ++ news) ∧ w.grownBy w' v.ownBlock ∧ Nw w v v' := by
  obtain ⟨i0, hi, hz0, hz1, hz2⟩ := info_parts Try.info_u8
  rcases hsrc.is with ⟨rfl, rfl, rfl⟩ | ⟨a, rfl, hc⟩
  · obtain rfl : 0 = m := hm
    refine ⟨v, w, run_append_owned_none (P := Try.prog) (w := w) base 31 ty 5 i0 1 Try.underlying31 hi v l.length (u8s l) hown.own, by rw [List.append_nil]; exact hown, ⟨rfl, rfl, rfl, Nat.le_refl _, fun _ _ _ => rfl⟩, .refl _ _⟩
  · obtain ⟨v', w', hr, ho, hg, hn⟩ := run_append_nw 31 ty 5 i0 (.int .u8 0) 1 Try.underlying31 hi hz0 hz1 hz2 rfl w base v l.length (u8s l) hown.own a m c (u8s news) (by rw [u8s_length]; exact hm) hc (u8s_one news) (by unfold maxLen; omega) (by omega) hbase
    refine ⟨v', w', hr, ⟨?_⟩, hg, hn⟩
    rw [List.length_append, u8s_append, hm]
    exact ho
theorem run_append_on (ty : TypeId) (w : World) (base : Nat) (v : Value) (l : List Nat) (hown : ON w base v l) (g c n : Nat) (hc : w.cell? ⟨g, 0, none⟩ = some (.int .i64 (n : Int))) (hl : l.length ≤ 1000) (hbase : base ≤ w.heap.size) :
    ∃ v' w', (Builtin.append_ #[39, 39] ty #[v, .slice (some ⟨g, 0, none⟩) 1 c]).run Try.prog w = .ok v' w' ∧ ON w' base v' (l ++ [n]) ∧ w.grownBy w' v.ownBlock ∧ Nw w v v' := by
  obtain ⟨i0, hi, hz0, hz1, hz2⟩ := info_parts Try.info_int
  obtain ⟨v', w', hr, ho, hg, hn⟩ := run_append_nw 39 ty 3 i0 (.int .i64 0) 8 Try.underlying39 hi hz0 hz1 hz2 rfl w base v l.length (ks .i64 l) hown.own ⟨g, 0, none⟩ 1 c [.int .i64 (n : Int)] rfl (fun j u hu => by
    match j, hu with
    | 0, hu => simp at hu; subst hu; simpa [Addr.add] using hc) (by intro u hu; simp at hu; subst hu; rfl) (by unfold maxLen; omega) (by omega) hbase
  refine ⟨v', w', hr, ⟨?_⟩, hg, hn⟩
  rw [List.length_append, ks_append]
  exact ho
/-- zeros in a part -/
def zero (T : List UInt8) (l k : Nat) : List UInt8 := T.take l ++ List.replicate (k - l) 0 ++ T.drop k
theorem zero_len (T : List UInt8) (l k : Nat) (h : l ≤ k) (hk : k ≤ T.length) : (zero T l k).length = T.length := by
  unfold zero
  simp only [List.length_append, List.length_take, List.length_replicate, List.length_drop]
  omega
theorem zero_none (T : List UInt8) (l : Nat) : zero T l l = T := by simp [zero]
theorem run_clear_part (ty : TypeId) (w : World) (base : Nat) (a : Option Addr) (n c : Nat) (T : List UInt8) (h : OB w base (.slice a n c) T) (l k : Nat) (hl : l ≤ k) (hk : k ≤ T.length) :
    ∃ w', (Builtin.clear_ #[31] ty #[sliced a l k c 1]).run Try.prog w = .ok (.tuple #[]) w' ∧ OB w' base (.slice a n c) (zero T l k) ∧ w.grownBy w' (Value.slice a n c).ownBlock := by
  by_cases he : l = k
  · subst he
    refine ⟨w, ?_, by rw [zero_none]; exact h, ⟨rfl, rfl, rfl, Nat.le_refl _, fun _ _ _ => rfl⟩⟩
    unfold sliced
    rw [Nat.sub_self]
    cases (if c = l then a else a.map fun x => x.add (l * 1)) <;> simp [Builtin.clear_, run_underlying Try.underlying31]
  · have h0 := h.own
    rcases h.own.2 with ⟨e, h1⟩ | ⟨g, cap, cur, e, hb, hg, hn, hm, hs, ht⟩
    · omega
    · simp only [Value.slice.injEq] at e
      obtain ⟨rfl, rfl, rfl⟩ := e
      rw [Nat.mul_one] at hs ht
      obtain ⟨i0, hi, hz0, hz1, hz2⟩ := info_parts Try.info_u8
      have hz : ∀ w, (zeroValue 5).run Try.prog w = .ok (.int .u8 0) w := fun w => by
        simp [zeroValue, typeInfo, hi, hz0]
      have hzc : (Builtin.zeroCells (Value.int .u8 0).cells (k - l)).toList = List.replicate (k - l) (.int .u8 0) := by
        apply List.ext_getElem?
        intro j
        by_cases hj : j < k - l
        · simp [Builtin.zeroCells, Value.cells, hj, Nat.mod_one]
        · simp [Builtin.zeroCells, Value.cells, hj]
      have hct : cur.toList.length = c := by rw [Array.length_toList, hs]
      have hst := run_storeCells_at Try.prog g l 5 (List.replicate (k - l) (.int .u8 0)) 0 cur w hg (by rw [List.length_replicate]; omega) (by intro u hu; rw [List.eq_of_mem_replicate hu]; rfl)
      simp only [Nat.add_zero] at hst
      obtain ⟨d, hd⟩ : ∃ d, k - l = d + 1 := ⟨k - l - 1, by omega⟩
      refine ⟨w.setRow g (cur.toList.take l ++ List.replicate (k - l) (Value.int .u8 0) ++ cur.toList.drop (l + (k - l))).toArray, ?_, ⟨?_⟩, grownBy_row w g _⟩
      · have ea : sliced (some ⟨g, 0, none⟩) l k c 1 = .slice (some ⟨g, l, none⟩) (k - l) (c - l) := by
          unfold sliced
          rw [if_neg (by omega), Option.map_some, Addr.add_mid, Nat.zero_add, Nat.mul_one]
        rw [ea]
        rw [List.length_replicate] at hst
        rw [hd] at hst hzc ⊢
        simp [Builtin.clear_, run_underlying Try.underlying31, hz, hzc, hst]
      · rw [zero_len T l k hl hk]
        refine own_of (by rw [u8s_length, zero_len T l k hl hk]) hb (setRow_heap w g cur _ 5 _ hg) hn hm ?_ ?_
        · simp only [List.size_toArray, List.length_append, List.length_take, List.length_drop, List.length_replicate, hct]
          omega
        · have e1 : cur.toList.take l = (u8s T).take l := by rw [← ht, List.take_take, Nat.min_eq_left (by omega)]
          have e2 : (cur.toList.drop k).take (T.length - k) = (u8s T).drop k := by rw [← List.drop_take, ht]
          unfold zero
          rw [u8s_append, u8s_append, u8s_take, u8s_drop, u8s_zero, List.toList_toArray, ← e1, ← e2, show l + (k - l) = k by omega]
          have el : (cur.toList.take l ++ List.replicate (k - l) (Value.int .u8 0)).length = k := by
            rw [List.length_append, List.length_take, List.length_replicate, hct]; omega
          rw [List.take_append, List.take_of_length_le (by omega), el]
section

variable {ops : Array Oper} {rest : List Oper} {o : Oper} {a : Act} {w : World} {Q : Exit → Act → World → Prop}

theorem append_ob (hgd : o.guard = none) (s x : Operand) (ho : o.op = .call { callee := .builtin .append, args := #[s, x], argTypes := #[31, 31] })
    (base : Nat) (v : Value) (l : List UInt8) (hs : a.eval s = v) (hown : OB w base v l) (ax : Option Addr) (m c : Nat) (hx : a.eval x = .slice ax m c) (news : List UInt8) (hm : news.length = m) (hsrc : Src w ax c news) (hl : l.length + m ≤ 140737488355328) (hbase : base ≤ w.heap.size)
    (h : ∀ v' w', OB w' base v' (l ++ news) → w.grownBy w' v.ownBlock → Nw w v v' → wpList Try.prog ops Q rest (a.put o.dst v') w') : wpList Try.prog ops Q (o :: rest) a w := by
  obtain ⟨v', w', hr, ho', hg, hn⟩ := run_append_ob o.type w base v l hown ax m c news hm hsrc hl hbase
  refine wpList_plain hgd fun K hK => ?_
  unfold Oper.wp execOp
  simp only [ho, resolve, invoke, builtin, Sem.run_bind, Sem.run_pure, Result.andThen_ok, List.map_toArray, List.map_cons, List.map_nil, hs, hx, hr]
  exact hK _ _ (h v' w' ho' hg hn)
theorem append_on (hgd : o.guard = none) (s x : Operand) (ho : o.op = .call { callee := .builtin .append, args := #[s, x], argTypes := #[39, 39] })
    (base : Nat) (v : Value) (l : List Nat) (hs : a.eval s = v) (hown : ON w base v l) (g c n : Nat) (hx : a.eval x = .slice (some ⟨g, 0, none⟩) 1 c) (hc : w.cell? ⟨g, 0, none⟩ = some (.int .i64 (n : Int))) (hl : l.length ≤ 1000) (hbase : base ≤ w.heap.size)
    (h : ∀ v' w', ON w' base v' (l ++ [n]) → w.grownBy w' v.ownBlock → Nw w v v' → wpList Try.prog ops Q rest (a.put o.dst v') w') : wpList Try.prog ops Q (o :: rest) a w := by
  obtain ⟨v', w', hr, ho', hg, hn⟩ := run_append_on o.type w base v l hown g c n hc hl hbase
  refine wpList_plain hgd fun K hK => ?_
  unfold Oper.wp execOp
  simp only [ho, resolve, invoke, builtin, Sem.run_bind, Sem.run_pure, Result.andThen_ok, List.map_toArray, List.map_cons, List.map_nil, hs, hx, hr]
  exact hK _ _ (h v' w' ho' hg hn)
theorem clear_ob (hgd : o.guard = none) (x : Operand) (ho : o.op = .call { callee := .builtin .clear, args := #[x], argTypes := #[31] })
    (base : Nat) (av : Option Addr) (n c : Nat) (T : List UInt8) (hown : OB w base (.slice av n c) T) (l k : Nat) (hx : a.eval x = sliced av l k c 1) (hl : l ≤ k) (hk : k ≤ T.length)
    (h : ∀ w', OB w' base (.slice av n c) (zero T l k) → w.grownBy w' (Value.slice av n c).ownBlock → wpList Try.prog ops Q rest (a.put o.dst (.tuple #[])) w') : wpList Try.prog ops Q (o :: rest) a w := by
  obtain ⟨w', hr, ho', hg⟩ := run_clear_part o.type w base av n c T hown l k hl hk
  refine wpList_plain hgd fun K hK => ?_
  unfold Oper.wp execOp
  simp only [ho, resolve, invoke, builtin, Sem.run_bind, Sem.run_pure, Result.andThen_ok, List.map_toArray, List.map_cons, List.map_nil, hx, hr]
  exact hK _ _ (h w' ho' hg)
theorem elem_u8 : Try.prog.elem 31 = 5 := by kernel_rfl
/-- s[:k] -/
theorem slice_hi (hgd : o.guard = none) (x y : Operand) (ho : o.op = .slice 31 x none (some y) none) (av : Option Addr) (n c k : Nat) (hx : a.eval x = .slice av n c) (hy : a.eval y = .int .i64 (k : Int)) (hk : k ≤ c) (v : Value) (hv : sliced av 0 k c 1 = v)
    (h : wpList Try.prog ops Q rest (a.put o.dst v) w) : wpList Try.prog ops Q (o :: rest) a w := by
  refine val_step hgd v ?_ h
  unfold execOp
  simp only [ho, hx, hy, Option.map_some, Option.map_none, Sem.run_bind]
  rw [run_sliceAt_slice w _ _ _ _ _ (by rw [elem_u8]; exact Try.underlying31), run_slice_h w _ _ _ _ (by rw [elem_u8]; exact Try.underlying31) _ _ (by omega) (by omega), elem_u8, size_u8, Result.andThen_ok, Int.toNat_natCast, hv]
  rfl
/-- s[l:k] -/
theorem slice_lh (hgd : o.guard = none) (x y z : Operand) (ho : o.op = .slice 31 x (some z) (some y) none) (av : Option Addr) (n c l k : Nat) (hx : a.eval x = .slice av n c) (hz : a.eval z = .int .i64 (l : Int)) (hy : a.eval y = .int .i64 (k : Int)) (hl : l ≤ k) (hk : k ≤ c) (v : Value) (hv : sliced av l k c 1 = v)
    (h : wpList Try.prog ops Q rest (a.put o.dst v) w) : wpList Try.prog ops Q (o :: rest) a w := by
  refine val_step hgd v ?_ h
  unfold execOp
  simp only [ho, hx, hy, hz, Option.map_some, Option.map_none, Sem.run_bind]
  rw [run_sliceAt_slice w _ _ _ _ _ (by rw [elem_u8]; exact Try.underlying31), run_slice_lh w _ _ _ _ (by rw [elem_u8]; exact Try.underlying31) _ _ _ _ (by omega) (by omega) (by omega), elem_u8, size_u8, Result.andThen_ok, Int.toNat_natCast, Int.toNat_natCast, hv]
  rfl
/-- s[l:] -/
theorem slice_lo (hgd : o.guard = none) (x z : Operand) (ho : o.op = .slice 31 x (some z) none none) (av : Option Addr) (n c l : Nat) (hx : a.eval x = .slice av n c) (hz : a.eval z = .int .i64 (l : Int)) (hl : l ≤ n) (v : Value) (hv : sliced av l n c 1 = v)
    (h : wpList Try.prog ops Q rest (a.put o.dst v) w) : wpList Try.prog ops Q (o :: rest) a w := by
  refine val_step hgd v ?_ h
  unfold execOp
  simp only [ho, hx, hz, Option.map_some, Option.map_none, Sem.run_bind]
  rw [run_sliceAt_slice w _ _ _ _ _ (by rw [elem_u8]; exact Try.underlying31), run_slice_l w _ _ _ _ (by rw [elem_u8]; exact Try.underlying31) _ _ (by omega) (by omega), elem_u8, size_u8, Result.andThen_ok, Int.toNat_natCast, hv]
  rfl
theorem OB.src_hi {base : Nat} {av : Option Addr} {n c : Nat} {l : List UInt8} (h : OB w base (.slice av n c) l) (k : Nat) (hk : k ≤ l.length) : ∃ ax cx, sliced av 0 k c 1 = .slice ax k cx ∧ Src w ax cx (l.take k) := by
  have hs := h.src k hk
  refine ⟨if c = 0 then av else av.map (·.add (0 * 1)), c, rfl, ?_⟩
  have e : (if c = 0 then av else av.map (·.add (0 * 1))) = av := by
    rcases h.own.2 with ⟨e, h1⟩ | ⟨g, cap, cur, e, hb, hg, hn, hm, hs, ht⟩
    · simp only [Value.slice.injEq] at e
      obtain ⟨rfl, rfl, rfl⟩ := e
      rfl
    · simp only [Value.slice.injEq] at e
      obtain ⟨rfl, rfl, rfl⟩ := e
      split
      · rfl
      · rw [Option.map_some, Addr.add_mid]
  rw [e]
  exact hs
end

end Go.Proofs.Ytjeiggpjbdkpiaa.Dk
