/- Rows of structs of any kind: the cells of each by a function. -/
import Derived.Test.YtkiaehehckmpnaaStampMem

import Derived.Test.YtkiaehehckmpnaaPackPut

namespace Go.Proofs.Ytkiaehehckmpnaa.Rw

open Go.RowKit Go.Proofs.Ytkiaehehckmpnaa.Vc Go.Proofs.Ytkiaehehckmpnaa.Sp

set_option linter.unusedVariables false

set_option linter.unusedSimpArgs false

set_option maxRecDepth 100000

/-- a kind of struct: its cells, how many -/
structure Kd (β : Type) where
  cf : β → List Value
  k : Nat
  pos : 0 < k
  len : ∀ x, (cf x).length = k
  one : ∀ x, ∀ u ∈ cf x, u.oneCell' = true
  none_ : β
section

variable {β : Type} {K : Kd β}

def Kd.cells (K : Kd β) (L : List β) : List Value := (L.map K.cf).flatten
def Kd.val (K : Kd β) (x : β) : Value := .agg (K.cf x).toArray
theorem cells_len (L : List β) : (K.cells L).length = L.length * K.k := by
  induction L with
  | nil => unfold Kd.cells; simp
  | cons a L ih =>
    unfold Kd.cells at ih ⊢
    rw [List.map_cons, List.flatten_cons, List.length_append, ih, List.length_cons, K.len, Nat.add_mul, Nat.one_mul, Nat.add_comm]
theorem cells_append (L M : List β) : K.cells (L ++ M) = K.cells L ++ K.cells M := by simp [Kd.cells]
theorem cells_one1 (x : β) : K.cells [x] = K.cf x := by simp [Kd.cells]
theorem cells_one (L : List β) : ∀ u ∈ K.cells L, u.oneCell' = true := by
  intro u hu
  obtain ⟨l, hl, hu⟩ := List.mem_flatten.1 hu
  obtain ⟨x, _, rfl⟩ := List.mem_map.1 hl
  exact K.one x u hu
theorem cells_at (L : List β) (i : Nat) (x : β) (hl : L[i]? = some x) (j : Nat) (v : Value) (hv : (K.cf x)[j]? = some v) : (K.cells L)[K.k * i + j]? = some v := by
  induction L generalizing i with
  | nil => simp at hl
  | cons a L ih =>
    have ha := K.len a
    cases i with
    | zero =>
      simp only [List.getElem?_cons_zero, Option.some.injEq] at hl
      subst hl
      unfold Kd.cells
      rw [List.map_cons, List.flatten_cons, Nat.mul_zero, Nat.zero_add, List.getElem?_append_left (List.getElem?_eq_some_iff.1 hv).1]
      exact hv
    | succ i =>
      rw [List.getElem?_cons_succ] at hl
      unfold Kd.cells
      have e : K.k * (i + 1) + j = K.k + (K.k * i + j) := by rw [Nat.mul_add, Nat.mul_one]; omega
      rw [List.map_cons, List.flatten_cons, e, List.getElem?_append_right (by omega), ha, Nat.add_sub_cancel_left]
      exact ih i hl
/-- from cell off on block b holds these, one behind the other -/
def Rs (K : Kd β) (w : World) (b off : Nat) (L : List β) : Prop := ∀ i x, L[i]? = some x → w.rangeAt b (off + K.k * i) (K.cf x)
/-- v is a slice that holds these -/
structure IsR (K : Kd β) (w : World) (v : Value) (L : List β) : Prop where
  is : ∃ a cap, v = .slice a L.length cap ∧ L.length ≤ cap ∧ cap ≤ maxLen ∧ (L ≠ [] → ∃ b off, a = some ⟨b, off, none⟩ ∧ b < w.heap.size ∧ Rs K w b off L)
theorem Rs.below {w w' : World} {b off B : Nat} {L : List β} (h : Rs K w b off L) (hb : Below B w w') (hB : b < B) : Rs K w' b off L := fun i x hx j v hv => by
  rw [hb.cell (p := ⟨b, off + K.k * i + j, none⟩) hB]
  exact h i x hx j v hv
theorem IsR.below {w w' : World} {v : Value} {L : List β} (h : IsR K w v L) (hb : Below w.heap.size w w') : IsR K w' v L := by
  obtain ⟨a, cap, hv, h1, h2, h3⟩ := h.is
  refine ⟨a, cap, hv, h1, h2, fun hn => ?_⟩
  obtain ⟨b, off, ha, hlt, hW⟩ := h3 hn
  exact ⟨b, off, ha, Nat.lt_of_lt_of_le hlt hb.size, hW.below hb hlt⟩
theorem IsR.nil (w : World) : IsR K w (.slice none 0 0) [] := ⟨none, 0, rfl, Nat.le_refl _, by unfold maxLen; omega, fun h => absurd rfl h⟩
theorem IsR.at {w : World} {v : Value} {L : List β} (h : IsR K w v L) (i : Nat) (hi : i < L.length) : ∃ b off cap, v = .slice (some ⟨b, off, none⟩) L.length cap ∧ b < w.heap.size ∧ w.rangeAt b (off + K.k * i) (K.cf (L.getD i K.none_)) := by
  obtain ⟨a, cap, hv, h1, h2, h3⟩ := h.is
  obtain ⟨b, off, rfl, hlt, hW⟩ := h3 (fun e => by rw [e] at hi; exact absurd hi (by simp))
  refine ⟨b, off, cap, hv, hlt, hW i _ ?_⟩
  rw [List.getD_eq_getElem?_getD, List.getElem?_eq_getElem hi]; rfl
theorem IsR.upd {w w' : World} {v : Value} {L : List β} {g : Nat} (h : IsR K w v L) (hu : Upd g w w') (hg : ∀ b o n c, v = .slice (some ⟨b, o, none⟩) n c → b ≠ g) : IsR K w' v L := by
  obtain ⟨a, cap, hv, h1, h2, h3⟩ := h.is
  refine ⟨a, cap, hv, h1, h2, fun hn => ?_⟩
  obtain ⟨b, off, ha, hlt, hW⟩ := h3 hn
  refine ⟨b, off, ha, by rw [hu.size]; exact hlt, fun i x hx j v hv' => ?_⟩
  rw [World.cell?_of_block (w := w) (hu.far b (hg b off _ _ (by rw [hv, ha])))]
  exact hW i x hx j v hv'
theorem IsR.take {w : World} {s : Option Addr} {m c : Nat} {L : List β} (h : IsR K w (.slice s m c) L) (k : Nat) (hk : k ≤ L.length) : IsR K w (.slice s k c) (L.take k) := by
  obtain ⟨a, cap, hv, h1, h2, h3⟩ := h.is
  simp only [Value.slice.injEq] at hv
  obtain ⟨rfl, rfl, rfl⟩ := hv
  have hl : (L.take k).length = k := by rw [List.length_take]; omega
  refine ⟨s, c, by rw [hl], by rw [hl]; omega, h2, fun hn => ?_⟩
  obtain ⟨b, off, ha, hlt, hW⟩ := h3 (fun e => hn (by rw [e]; simp))
  refine ⟨b, off, ha, hlt, fun i x hx => hW i x ?_⟩
  rw [List.getElem?_take] at hx
  split at hx
  · exact hx
  · cases hx
/-- l[n:] -/
theorem IsR.drop {w : World} {b off m c : Nat} {L : List β} (h : IsR K w (.slice (some ⟨b, off, none⟩) m c) L) (n : Nat) (hn : n ≤ L.length) : IsR K w (.slice (some ⟨b, off + K.k * n, none⟩) (m - n) (c - n)) (L.drop n) := by
  obtain ⟨a, cap, hv, h1, h2, h3⟩ := h.is
  simp only [Value.slice.injEq] at hv
  obtain ⟨rfl, rfl, rfl⟩ := hv
  refine ⟨_, c - n, by rw [List.length_drop], by rw [List.length_drop]; omega, by omega, fun hd => ?_⟩
  obtain ⟨b', off', ha, hlt, hW⟩ := h3 (fun e => hd (by rw [e]; simp))
  simp only [Option.some.injEq, Addr.mk.injEq, and_true] at ha
  obtain ⟨rfl, rfl⟩ := ha
  refine ⟨_, _, rfl, hlt, fun i x hx => ?_⟩
  rw [List.getElem?_drop] at hx
  have := hW (n + i) x hx
  rw [Nat.mul_add] at this
  rw [Nat.add_assoc]
  exact this
theorem cells_row {w : World} {b off : Nat} {L : List β} (h : Rs K w b off L) : ∀ j u, (K.cells L)[j]? = some u → w.cell? ((⟨b, off, none⟩ : Addr).add j) = some u := by
  intro j u hu
  have hj : j < (K.cells L).length := (List.getElem?_eq_some_iff.1 hu).1
  rw [cells_len] at hj
  have hi : j / K.k < L.length := Nat.div_lt_of_lt_mul (by rw [Nat.mul_comm]; exact hj)
  have hm : j % K.k < K.k := Nat.mod_lt _ K.pos
  have hd : K.k * (j / K.k) + j % K.k = j := Nat.div_add_mod j K.k
  have hx : L[j / K.k]? = some L[j / K.k] := List.getElem?_eq_getElem hi
  obtain ⟨v, hv⟩ : ∃ v, (K.cf L[j / K.k])[j % K.k]? = some v := ⟨_, List.getElem?_eq_getElem (show j % K.k < (K.cf L[j / K.k]).length by rw [K.len]; exact hm)⟩
  have hc := cells_at (K := K) L (j / K.k) _ hx (j % K.k) v hv
  rw [hd, hu] at hc
  obtain rfl := Option.some.inj hc
  have h9 := h (j / K.k) _ hx (j % K.k) _ hv
  rw [Addr.add_mid]
  rw [Nat.add_assoc, hd] at h9
  exact h9
/-- a row that is the call's own -/
structure OR (K : Kd β) (t : TypeId) (w : World) (base : Nat) (v : Value) (L : List β) : Prop where
  own : w.ownsRow base t K.k v L.length (K.cells L)
theorem OR.nil (t : TypeId) (w : World) (base : Nat) : OR K t w base (.slice none 0 0) [] := ⟨World.ownsRow_nil _ _ _ _⟩
theorem OR.below {t : TypeId} {w w' : World} {base : Nat} {v : Value} {L : List β} (h : OR K t w base v L) (hb : Below w.heap.size w w') : OR K t w' base v L := by
  obtain ⟨⟨hl, h0 | ⟨g, cap, cur, hv, hB, hh, r⟩⟩⟩ := h
  · exact ⟨⟨hl, .inl h0⟩⟩
  · have hg : g < w.heap.size := by
      rcases Nat.lt_or_ge g w.heap.size with h1 | h1
      · exact h1
      · rw [Array.getElem?_eq_none h1] at hh; cases hh
    exact ⟨⟨hl, .inr ⟨g, cap, cur, hv, hB, by rw [hb.block g hg]; exact hh, r⟩⟩⟩
theorem OR.mono {t : TypeId} {w : World} {base base' : Nat} {v : Value} {L : List β} (h : OR K t w base v L) (hb : base' ≤ base) : OR K t w base' v L := by
  obtain ⟨⟨hl, h0 | ⟨g, cap, cur, hv, hB, r⟩⟩⟩ := h
  · exact ⟨⟨hl, .inl h0⟩⟩
  · exact ⟨⟨hl, .inr ⟨g, cap, cur, hv, Nat.le_trans hb hB, r⟩⟩⟩
theorem OR.some {t : TypeId} {w : World} {base : Nat} {v : Value} {L : List β} (h : OR K t w base v L) (hn : 1 ≤ L.length) : ∃ g cap cur, v = .slice (some ⟨g, 0, none⟩) L.length cap ∧ base ≤ g ∧ w.heap[g]? = some (.cells cur t (0, 0)) := by
  obtain ⟨hl, h0 | ⟨g, cap, cur, hv, hB, hh, r⟩⟩ := h.own
  · omega
  · exact ⟨g, cap, cur, hv, hB, hh⟩
theorem OR.is {t : TypeId} {w : World} {base : Nat} {v : Value} {L : List β} (h : OR K t w base v L) : IsR K w v L := by
  obtain ⟨hl, h2⟩ := h.own
  have h' := h.own
  rcases h2 with ⟨rfl, h0⟩ | ⟨g, cap, cur, rfl, hb, hg, hn, hm, hs, ht⟩
  · exact ⟨none, 0, by rw [h0], by omega, by unfold maxLen; omega, fun hne => absurd (List.length_eq_zero_iff.1 h0) hne⟩
  · refine ⟨_, cap, rfl, hn, hm, fun _ => ⟨g, 0, rfl, ?_, fun i x hx j v hv => ?_⟩⟩
    · rcases Nat.lt_or_ge g w.heap.size with h1 | h1
      · exact h1
      · rw [Array.getElem?_eq_none h1] at hg; cases hg
    · have hcell := World.ownsRow.cells h' (g := g) rfl (K.k * i + j) v (cells_at L i x hx j v hv)
      rw [show (⟨g, 0, none⟩ : Addr).add (K.k * i + j) = ⟨g, K.k * i + j, none⟩ by rw [Addr.add_mid, Nat.zero_add]] at hcell
      rw [Nat.zero_add]
      exact hcell
/-- an own row is elsewhere than a block of another type -/
theorem OR.ne_row {t t' : TypeId} {w : World} {base b : Nat} {v : Value} {L : List β} {vs : Array Value} (h : OR K t w base v L) (hb : w.heap[b]? = Option.some (Obj.cells vs t' (0, 0))) (hne : t ≠ t') : ∀ g o n c, v = .slice (Option.some ⟨g, o, none⟩) n c → g ≠ b := by
  rintro g o n c e rfl
  obtain ⟨hl, ⟨h0, _⟩ | ⟨g', cap, cur, hv, hB, hh, r⟩⟩ := h.own
  · rw [h0] at e; cases e
  · rw [hv] at e
    simp only [Value.slice.injEq, Option.some.injEq, Addr.mk.injEq] at e
    obtain ⟨⟨rfl, _⟩, _⟩ := e
    rw [hh] at hb
    simp only [Option.some.injEq, Obj.cells.injEq] at hb
    exact hne hb.2.1
/-- append(v, l...), v the call's own -/
theorem run_append_rows {t ts : TypeId} (ty : TypeId) {bytes : Nat} (hu : Try.prog.underlying ts = some (.slice t)) {i0 : TypeInfo} {z : Value} (hi : Try.prog.info? t = some i0) (hz0 : i0.zero = some z) (hz1 : i0.size = K.k) (hz2 : i0.bytes = bytes) (hzc : z.cells.size = K.k) (w : World) (base : Nat) (v : Value) (L : List β) (hown : OR K t w base v L) (b off m c : Nat) (M : List β) (hM : IsR K w (.slice (some ⟨b, off, none⟩) m c) M) (hl : L.length + M.length ≤ 1000000) (hby : bytes ≤ 100000) (hbase : base ≤ w.heap.size) :
    ∃ v' w', (Builtin.append_ #[ts, ts] ty #[v, .slice (some ⟨b, off, none⟩) m c]).run Try.prog w = .ok v' w' ∧ OR K t w' base v' (L ++ M) ∧ w.grownBy w' v.ownBlock ∧ Below base w w' := by
  obtain ⟨a, cap, hv, h1, h2, h3⟩ := hM.is
  simp only [Value.slice.injEq] at hv
  obtain ⟨rfl, rfl, rfl⟩ := hv
  have hrow : ∀ j u, (K.cells M)[j]? = some u → w.cell? ((⟨b, off, none⟩ : Addr).add j) = some u := by
    by_cases hn : M = []
    · subst hn; intro j u hu; simp [Kd.cells] at hu
    · obtain ⟨b', off', ha, hlt, hW⟩ := h3 hn
      simp only [Option.some.injEq, Addr.mk.injEq, and_true] at ha
      obtain ⟨rfl, rfl⟩ := ha
      exact cells_row hW
  obtain ⟨v', w', hr, ho, hg, _⟩ := run_append_own (P := Try.prog) w base ts ty t i0 z K.k bytes hu hi hz0 hz1 hz2 hzc K.pos v L.length (K.cells L) hown.own ⟨b, off, none⟩ M.length c (K.cells M) (cells_len M) hrow (cells_one M) (by unfold maxLen; omega) (by
    have := Nat.mul_le_mul hl hby
    omega) hbase
  refine ⟨v', w', hr, ⟨?_⟩, hg, (Below.refl _ _).grown hg hbase (fun k hk => (World.ownsRow.lt hown.own k hk).1)⟩
  rw [List.length_append, cells_append]
  exact ho
/-- &l[j] -/
theorem run_index {t ts : TypeId} (he : Try.prog.elem ts = t) (hu : Try.prog.underlying ts = some (.slice t)) {k : Nat} (hs : ∀ w, (sizeOf t).run Try.prog w = .ok k w) (b o n cap j : Nat) (hj : j < n) (w : World) : (Instr.indexAt ts (.slice (some ⟨b, o, none⟩) n cap) (.int .i64 (j : Int))).run Try.prog w = .ok (.pointer (some ⟨b, o + k * j, none⟩)) w := by
  rw [run_indexAt_slice w _ _ _ _ _ _ (by rw [he]; exact hu), he]
  rw [if_pos ⟨by omega, by omega⟩, hs]
  have e : (⟨b, o, none⟩ : Addr).add ((j : Int).toNat * k) = ⟨b, o + k * j, none⟩ := by
    rw [Int.toNat_natCast, Nat.mul_comm, Addr.add_mid]
  rw [Result.andThen_ok, e]
/-- the same as a step of a walk -/
theorem append_rows {ops : Array Oper} {rest : List Oper} {o : Oper} {a : Act} {w : World} {Q : Exit → Act → World → Prop} {t ts : TypeId} {bytes : Nat} (hu : Try.prog.underlying ts = some (.slice t)) {z : Value} (hinf : (Try.prog.info? t).map (fun i => (i.zero, i.size, i.bytes)) = some (some z, K.k, bytes)) (hzc : z.cells.size = K.k) (hby : bytes ≤ 100000)
    (hgd : o.guard = none) (s x : Operand) (ho : o.op = .call { callee := .builtin .append, args := #[s, x], argTypes := #[ts, ts] })
    (base : Nat) (v : Value) (L : List β) (hs : a.eval s = v) (hown : OR K t w base v L) (b off m c : Nat) (hx : a.eval x = .slice (some ⟨b, off, none⟩) m c) (M : List β) (hM : IsR K w (.slice (some ⟨b, off, none⟩) m c) M) (hl : L.length + M.length ≤ 1000000) (hbase : base ≤ w.heap.size)
    (h : ∀ v' w', OR K t w' base v' (L ++ M) → Below base w w' → base ≤ w'.heap.size → wpList Try.prog ops Q rest (a.put o.dst v') w') : wpList Try.prog ops Q (o :: rest) a w := by
  obtain ⟨i0, hi, hz0, hz1, hz2⟩ : ∃ i0, Try.prog.info? t = some i0 ∧ i0.zero = some z ∧ i0.size = K.k ∧ i0.bytes = bytes := by
    cases hi : Try.prog.info? t with
    | none => rw [hi] at hinf; cases hinf
    | some i0 =>
      rw [hi] at hinf
      simp only [Option.map_some, Option.some.injEq, Prod.mk.injEq] at hinf
      exact ⟨i0, rfl, hinf.1, hinf.2.1, hinf.2.2⟩
  obtain ⟨v', w', hr, ho', hg, hB⟩ := run_append_rows (K := K) o.type hu hi hz0 hz1 hz2 hzc w base v L hown b off m c M hM hl hby hbase
  refine wpList_plain hgd fun K hK => ?_
  unfold Oper.wp execOp
  simp only [ho, resolve, invoke, builtin, Sem.run_bind, Sem.run_pure, Result.andThen_ok, List.map_toArray, List.map_cons, List.map_nil, hs, hx, hr]
  exact hK _ _ (h v' w' ho' hB (Nat.le_trans hbase hB.size))
/-- one struct alone in a block is a row of one -/
theorem IsR.one {w : World} {b : Nat} {x : β} (h : Blk w b (K.cf x)) (hb : b < w.heap.size) : IsR K w (.slice (some ⟨b, 0, none⟩) 1 1) [x] := by
  refine ⟨_, 1, rfl, Nat.le_refl _, by unfold maxLen; omega, fun _ => ⟨b, 0, rfl, hb, fun i y hy => ?_⟩⟩
  match i, hy with
  | 0, hy =>
    obtain rfl := Option.some.inj hy
    exact h.1
  | i + 1, hy => simp at hy
end

end Go.Proofs.Ytkiaehehckmpnaa.Rw
