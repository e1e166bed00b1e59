/- Rows of structs in place: what is copied, cleared, inserted; slices of a slice; whose block a slice is. -/
import Derived.Test.YtohcdonmdnjgoaaChainMem

import Derived.Laws.CopyRow

import Derived.Lib.AppendZerosOnto

import Derived.Lib.Overlaps

namespace Go.Proofs.Ytohcdonmdnjgoaa.Rw

open Go.RowKit Go.Proofs.Ytohcdonmdnjgoaa.Vc Go.Proofs.Ytohcdonmdnjgoaa.Sp

set_option linter.unusedVariables false

set_option linter.unusedSimpArgs false

set_option maxRecDepth 100000

/-- copy, elements of k cells, into a row -/
theorem run_copy_gen (w : World) (dT sT ty elem : TypeId) (g o dLen dCap : Nat) (a : Addr) (sLen sCap : Nat) (cur : Array Value) (t : TypeId) (cs : List Value) (k m : Nat)
    (hu : Try.prog.underlying dT = some (.slice elem)) (hs : (Try.prog.info? elem).map (·.size) = some k)
    (hg : w.heap[g]? = some (.cells cur t (0, 0))) (hm : Nat.min sLen dLen = m) (hn : cs.length = m * k)
    (hsrc : ∀ j v, cs[j]? = some v → w.cell? (a.add j) = some v) (hfit : o + cs.length ≤ cur.size) (h1 : ∀ v ∈ cs, v.oneCell' = true) :
    (Builtin.copy_ #[dT, sT] ty #[.slice (some ⟨g, o, none⟩) dLen dCap, .slice (some a) sLen sCap]).run Try.prog w =
      .ok (goInt m) (w.setRow g (cur.toList.take o ++ cs ++ cur.toList.drop (o + cs.length)).toArray) := by
  have hst := run_storeCells_at Try.prog g o t cs 0 cur w hg (by simpa using hfit) h1
  cases hq : Try.prog.info? elem with
  | none => rw [hq] at hs; cases hs
  | some i =>
    have hi : i.size = k := by rw [hq] at hs; simpa using hs
    have hf := run_firstCells_some (P := Try.prog) w i.size m a sLen sCap cs (by rw [hi]; exact hn) hsrc
    simp only [Nat.add_zero] at hst
    simp [Builtin.copy_, run_underlying hu, Builtin.lenOf, sizeOf, typeInfo, hq, hm, hf, hst]
/-- clear: what stands ahead in the row stays -/
theorem run_clear_gen (w : World) (ts t ty : TypeId) (z : Value) (k : Nat) (ht : Try.prog.underlying ts = some (.slice t)) (hz : ∀ w, (zeroValue t).run Try.prog w = .ok z w) (hzc : z.cells.size = k) (h1 : ∀ v ∈ z.cells.toList, v.oneCell' = true)
    (g o n c : Nat) (cur : Array Value) (e : TypeId) (hg : w.heap[g]? = some (.cells cur e (0, 0))) (hn : 0 < n) (hfit : o + n * k ≤ cur.size) :
    ∃ cur', (Builtin.clear_ #[ts] ty #[.slice (some ⟨g, o, none⟩) n c]).run Try.prog w = .ok (.tuple #[]) (w.setRow g cur') ∧ cur'.size = cur.size ∧ cur'.toList.take o = cur.toList.take o := by
  have hlen : (Builtin.zeroCells z.cells n).toList.length = n * k := by rw [Array.length_toList, size_zeroCells, hzc]
  have hone : ∀ v ∈ (Builtin.zeroCells z.cells n).toList, v.oneCell' = true := by
    intro v hv
    simp only [Builtin.zeroCells, Array.toList_map, List.mem_map, Array.toList_range, List.mem_range] at hv
    obtain ⟨i, hi, rfl⟩ := hv
    have hp : 0 < z.cells.size := by
      rcases Nat.eq_zero_or_pos z.cells.size with h | h
      · rw [h, Nat.mul_zero] at hi; exact absurd hi (Nat.not_lt_zero _)
      · exact h
    have hm := Nat.mod_lt i hp
    rw [getElem!_pos z.cells _ hm]
    exact h1 _ (by simp)
  have hst := run_storeCells_at Try.prog g o e (Builtin.zeroCells z.cells n).toList 0 cur w hg (by rw [hlen]; simpa using hfit) hone
  obtain ⟨m, rfl⟩ : ∃ m, n = m + 1 := ⟨n - 1, by omega⟩
  refine ⟨(cur.toList.take o ++ (Builtin.zeroCells z.cells (m + 1)).toList ++ cur.toList.drop (o + (Builtin.zeroCells z.cells (m + 1)).toList.length)).toArray, ?_, ?_, ?_⟩
  · simp only [Nat.add_zero] at hst
    simp [Builtin.clear_, run_underlying ht, hz, hst]
  · simp only [List.size_toArray, List.length_append, List.length_take, List.length_drop, Array.length_toList, hlen]
    have := Array.length_toList (xs := Builtin.zeroCells z.cells (m + 1))
    omega
  · simp only [List.append_assoc]
    rw [List.take_append_of_le_length (by simp; omega), List.take_take, Nat.min_self]
/-- s[i:], i below the room -/
theorem run_slice_lo {t ts : TypeId} (he : Try.prog.elem ts = t) (hu : Try.prog.underlying ts = some (.slice t)) {k : Nat} (hs : ∀ w, (sizeOf t).run Try.prog w = .ok k w) (b o n c i : Nat) (hi : i ≤ n) (hc : i < c) (w : World) :
    (Instr.sliceAt ts (.slice (some ⟨b, o, none⟩) n c) (some (.int .i64 (i : Int))) none none).run Try.prog w = .ok (.slice (some ⟨b, o + k * i, none⟩) (n - i) (c - i)) w := by
  rw [run_sliceAt_slice w _ _ _ _ _ (by rw [he]; exact hu), run_slice_l w _ _ _ _ (by rw [he]; exact hu) _ _ (by omega) (by omega), he, hs, Result.andThen_ok]
  unfold sliced
  rw [Int.toNat_natCast, if_neg (by omega), Option.map_some, Addr.add_mid, Nat.mul_comm]
/-- s[i:], whatever its place -/
theorem run_slice_lo' {t ts : TypeId} (he : Try.prog.elem ts = t) (hu : Try.prog.underlying ts = some (.slice t)) {k : Nat} (hs : ∀ w, (sizeOf t).run Try.prog w = .ok k w) (a : Option Addr) (n c i : Nat) (hi : i ≤ n) :
    ∃ v, ∀ w, (Instr.sliceAt ts (.slice a n c) (some (.int .i64 (i : Int))) none none).run Try.prog w = .ok v w := by
  refine ⟨sliced a i n c k, fun w => ?_⟩
  rw [run_sliceAt_slice w _ _ _ _ _ (by rw [he]; exact hu), run_slice_l w _ _ _ _ (by rw [he]; exact hu) _ _ (by omega) (by omega), he, hs, Result.andThen_ok, Int.toNat_natCast]
/-- s[:i] -/
theorem run_slice_hi {t ts : TypeId} (he : Try.prog.elem ts = t) (hu : Try.prog.underlying ts = some (.slice t)) {k : Nat} (hs : ∀ w, (sizeOf t).run Try.prog w = .ok k w) (b o n c i : Nat) (hi : i ≤ c) (w : World) :
    (Instr.sliceAt ts (.slice (some ⟨b, o, none⟩) n c) none (some (.int .i64 (i : Int))) none).run Try.prog w = .ok (.slice (some ⟨b, o, none⟩) i c) w := by
  rw [run_sliceAt_slice w _ _ _ _ _ (by rw [he]; exact hu), run_slice_h w _ _ _ _ (by rw [he]; exact hu) _ _ (by omega) (by omega), he, hs, Result.andThen_ok]
  unfold sliced
  rw [Int.toNat_natCast, Nat.sub_zero, Nat.sub_zero]
  have e : (⟨b, o, none⟩ : Addr).add (0 * k) = ⟨b, o, none⟩ := by rw [Addr.add_mid]; simp
  by_cases h : c = 0
  · rw [if_pos h]
  · rw [if_neg h, Option.map_some, e]
/-- a slice's block is the same one, or a new one -/
def Nw (w : World) (v v' : Value) : Prop := v'.ownBlock = v.ownBlock ∨ ∀ g, v'.ownBlock = some g → w.heap.size ≤ g
theorem Nw.refl (w : World) (v : Value) : Nw w v v := .inl rfl
theorem Nw.ne {w : World} {v v' : Value} (h : Nw w v v') {k : Nat} (hk : k < w.heap.size) (hn : v.ownBlock ≠ some k) : v'.ownBlock ≠ some k := by
  rcases h with h | h
  · rw [h]; exact hn
  · intro e
    have := h k e
    omega
theorem Nw.trans {w w' : World} {v v' v'' : Value} (h : Nw w v v') (hs : w.heap.size ≤ w'.heap.size) (k : Nw w' v' v'') : Nw w v v'' := by
  rcases k with k | k
  · rcases h with h | h
    · exact .inl (k.trans h)
    · exact .inr fun g hg => h g (k ▸ hg)
  · exact .inr fun g hg => Nat.le_trans hs (k g hg)
theorem Nw.mono {w w' : World} {v v' : Value} (h : Nw w' v v') (hs : w.heap.size ≤ w'.heap.size) : Nw w v v' := h.elim .inl fun k => .inr fun g hg => Nat.le_trans hs (k g hg)
theorem grownBy_refl (w : World) (o : Option Nat) : w.grownBy w o := ⟨rfl, rfl, rfl, Nat.le_refl _, fun _ _ _ => rfl⟩
theorem grownBy_trans {u v w : World} {o : Option Nat} (h : u.grownBy v o) (k : v.grownBy w o) : u.grownBy w o :=
  ⟨k.os.trans h.os, k.tape.trans h.tape, k.output.trans h.output, Nat.le_trans h.size k.size, fun i hi hn => (k.block i (Nat.lt_of_lt_of_le hi h.size) hn).trans (h.block i hi hn)⟩
theorem grownBy_below {w w' : World} (h : Below w.heap.size w w') (o : Option Nat) : w.grownBy w' o := ⟨h.os, h.tape, h.output, h.size, fun k hk _ => h.block k hk⟩
theorem grownBy_setRow (w : World) (g : Nat) (cur : Array Value) : w.grownBy (w.setRow g cur) (some g) := ⟨rfl, rfl, rfl, by simp, fun k _ hk => setRow_other w g k _ (fun e => hk (by rw [e]))⟩
theorem grownBy_drew (w : World) (o : Option Nat) : w.grownBy w.drew o := ⟨rfl, rfl, rfl, Nat.le_refl _, fun _ _ _ => rfl⟩
theorem grownBy_upd {w w' : World} {g : Nat} (h : Upd g w w') : w.grownBy w' (some g) := ⟨h.os, h.tape, h.output, Nat.le_of_eq h.size.symm, fun k _ hk => h.far k (fun e => hk (by rw [e]))⟩
section

variable {β : Type} {K : Kd β}

/-- an own row that has cells -/
theorem OR.row {t : TypeId} {w : World} {base : Nat} {v : Value} {L : List β} (h : OR K t w base v L) : (v = .slice none 0 0 ∧ L = []) ∨ ∃ g cap cur, v = .slice (Option.some ⟨g, 0, none⟩) L.length cap ∧ base ≤ g ∧ g < w.heap.size ∧ w.heap[g]? = Option.some (Obj.cells cur t (0, 0)) ∧ L.length ≤ cap ∧ cap ≤ maxLen ∧ cur.size = cap * K.k ∧ cur.toList.take (L.length * K.k) = K.cells L := by
  obtain ⟨hl, ⟨h0, h1⟩ | ⟨g, cap, cur, hv, hB, hh, r1, r2, r3, r4⟩⟩ := h.own
  · exact .inl ⟨h0, List.length_eq_zero_iff.1 h1⟩
  · refine .inr ⟨g, cap, cur, hv, hB, ?_, hh, r1, r2, r3, r4⟩
    rcases Nat.lt_or_ge g w.heap.size with h1 | h1
    · exact h1
    · rw [Array.getElem?_eq_none h1] at hh; cases hh
theorem OR.of {t : TypeId} {w : World} {base g cap : Nat} {cur : Array Value} {L : List β} (hB : base ≤ g) (hh : w.heap[g]? = Option.some (Obj.cells cur t (0, 0))) (h1 : L.length ≤ cap) (h2 : cap ≤ maxLen) (h3 : cur.size = cap * K.k) (h4 : cur.toList.take (L.length * K.k) = K.cells L) : OR K t w base (.slice (Option.some ⟨g, 0, none⟩) L.length cap) L :=
  ⟨⟨cells_len L, .inr ⟨g, cap, cur, rfl, hB, hh, h1, h2, h3, h4⟩⟩⟩
theorem OR.lt {t : TypeId} {w : World} {base : Nat} {v : Value} {L : List β} (h : OR K t w base v L) {g : Nat} (hg : v.ownBlock = Option.some g) : base ≤ g ∧ g < w.heap.size := World.ownsRow.lt h.own g hg
theorem OR.grown {t : TypeId} {w w' : World} {base : Nat} {v : Value} {L : List β} (h : OR K t w base v L) {o : Option Nat} (hg : w.grownBy w' o) (hne : ∀ g, v.ownBlock = Option.some g → o ≠ Option.some g) : OR K t w' base v L :=
  ⟨h.own.kept hg (by
    cases hv : v.ownBlock with
    | none => exact .inl rfl
    | some g => exact .inr (fun e => hne g hv e.symm))⟩
theorem IsR.grown {w w' : World} {v : Value} {L : List β} {o : Option Nat} (h : IsR K w v L) (hg : w.grownBy w' o) (hne : ∀ b, v.ownBlock = some b → o ≠ some b) : IsR K w' v L := by
  obtain ⟨a, cap, hv, h1, h2, h3⟩ := h.is
  refine ⟨a, cap, hv, h1, h2, fun hn => ?_⟩
  obtain ⟨b, off, ha, hlt, hW⟩ := h3 hn
  refine ⟨b, off, ha, Nat.lt_of_lt_of_le hlt hg.size, fun i x hx j u hu => ?_⟩
  exact hg.cell (hW i x hx j u hu) (fun e => hne b (by rw [hv, ha]; rfl) e.symm)
/-- an own row's block holds rows of its type -/
theorem OR.ne {t t' : TypeId} {w : World} {base b : Nat} {v : Value} {L : List β} {cur : Array Value} {fr : Nat × Nat} (h : OR K t w base v L) (hb : w.heap[b]? = Option.some (Obj.cells cur t' fr)) (hne : t ≠ t') : v.ownBlock ≠ Option.some b := by
  intro e
  rcases h.row with ⟨rfl, _⟩ | ⟨g, cap, cur', rfl, _, _, hh, _⟩
  · cases e
  · obtain rfl : g = b := by simpa [Value.ownBlock] using e
    rw [hh] at hb
    simp only [Option.some.injEq, Obj.cells.injEq] at hb
    exact hne hb.2.1
/-- what lies in a row: place i -/
theorem cells_take_drop (L : List β) (i : Nat) : K.cells (L.take i) ++ K.cells (L.drop i) = K.cells L := by rw [← cells_append, List.take_append_drop]
end

/-- two copies lay one more in the middle: there is room -/
theorem ins_room {α : Type} (cur A B X : List α) (p k : Nat) (hA : A.length = p) (hX : X.length = k) (h : cur.take (p + B.length) = A ++ B) (hs : p + k + B.length ≤ cur.length) :
    (cur.take (p + k) ++ B ++ cur.drop (p + k + B.length)).take p ++ X ++ (cur.take (p + k) ++ B ++ cur.drop (p + k + B.length)).drop (p + k) = A ++ X ++ B ++ cur.drop (p + k + B.length) := by
  have e1 : (cur.take (p + k) ++ B ++ cur.drop (p + k + B.length)).take p = A := by
    rw [List.append_assoc, List.take_append_of_le_length (by simp; omega), List.take_take, Nat.min_eq_left (by omega)]
    have := congrArg (List.take p) h
    rw [List.take_take, Nat.min_eq_left (by omega), List.take_append_of_le_length (by omega)] at this
    rw [this]
    exact List.take_of_length_le (by omega)
  have e2 : (cur.take (p + k) ++ B ++ cur.drop (p + k + B.length)).drop (p + k) = B ++ cur.drop (p + k + B.length) := by
    rw [List.append_assoc, List.drop_append_of_le_length (by simp; omega), List.drop_of_length_le (by simp; omega), List.nil_append]
  rw [e1, e2]
  simp only [List.append_assoc]
/-- in a new row -/
theorem ins_grow {α : Type} (cur A B X : List α) (p k : Nat) (hA : cur.take p = A) (hp : A.length = p) (hX : X.length = k) (hs : p + k + B.length ≤ cur.length) :
    (cur.take p ++ X ++ cur.drop (p + k)).take (p + k) ++ B ++ (cur.take p ++ X ++ cur.drop (p + k)).drop (p + k + B.length) = A ++ X ++ B ++ cur.drop (p + k + B.length) := by
  have e1 : (cur.take p ++ X ++ cur.drop (p + k)).take (p + k) = A ++ X := by
    rw [List.take_append_of_le_length (by rw [List.length_append, hA]; omega), List.take_of_length_le (by rw [List.length_append, hA]; omega), hA]
  have e2 : (cur.take p ++ X ++ cur.drop (p + k)).drop (p + k + B.length) = cur.drop (p + k + B.length) := by
    have e : (A ++ X).length = p + k := by rw [List.length_append]; omega
    rw [hA, List.drop_append, List.drop_of_length_le (l := A ++ X) (by omega), List.nil_append, e, List.drop_drop]
    congr 1
    omega
  rw [e1, e2]
section

variable {β : Type} {K : Kd β}

/-- append(v, x): whose block the new one is -/
theorem run_append_one {t ts : TypeId} (ty : TypeId) {bytes : Nat} (hu : Try.prog.underlying ts = some (.slice t)) {z : Value} (hinf : (Try.prog.info? t).map (fun i => (i.zero, i.size, i.bytes)) = some (some z, K.k, bytes)) (hzc : z.cells.size = K.k) (w : World) (base : Nat) (v : Value) (L : List β) (hown : OR K t w base v L) (b off m c : Nat) (M : List β) (hM : IsR K w (.slice (some ⟨b, off, none⟩) m c) M) (hm1 : 0 < M.length) (hl : L.length + M.length ≤ 1000000) (hby : bytes ≤ 100000) (hbase : base ≤ w.heap.size) :
    ∃ v' w', (Builtin.append_ #[ts, ts] ty #[v, .slice (some ⟨b, off, none⟩) m c]).run Try.prog w = .ok v' w' ∧ OR K t w' base v' (L ++ M) ∧ w.grownBy w' v.ownBlock ∧ Nw w v v' := by
  obtain ⟨i0, hi, hz0, hz1, hz2⟩ : ∃ i0, Try.prog.info? t = some i0 ∧ i0.zero = some z ∧ i0.size = K.k ∧ i0.bytes = bytes := by
    cases hi : Try.prog.info? t with
    | none => rw [hi] at hinf; cases hinf
    | some i0 =>
      rw [hi] at hinf
      simp only [Option.map_some, Option.some.injEq, Prod.mk.injEq] at hinf
      exact ⟨i0, rfl, hinf.1, hinf.2.1, hinf.2.2⟩
  have hsl : ∃ b' off', (some ⟨b, off, none⟩ : Option Addr) = some ⟨b', off', none⟩ ∧ m = M.length ∧ m ≤ c ∧ Rs K w b' off' M := by
    obtain ⟨a, cap, hv, h1, h2, h3⟩ := hM.is
    simp only [Value.slice.injEq] at hv
    obtain ⟨rfl, rfl, rfl⟩ := hv
    obtain ⟨b', off', ha, hlt, hW⟩ := h3 (fun e => by rw [e] at hm1; exact absurd hm1 (by simp))
    exact ⟨b', off', ha, rfl, h1, hW⟩
  obtain ⟨b', off', ha, rfl, hmc, hW⟩ := hsl
  simp only [Option.some.injEq, Addr.mk.injEq, and_true] at ha
  obtain ⟨rfl, rfl⟩ := ha
  have hrow := cells_row hW
  have hbm := Nat.mul_le_mul hl hby
  rcases hown.row with ⟨rfl, rfl⟩ | ⟨g, cap, cur, rfl, hB, hgl, hh, hnc, hcm, hcs, htake⟩
  · obtain ⟨v', w', hr, ho, hg, _⟩ := run_append_own (P := Try.prog) w w.heap.size ts ty t i0 z K.k bytes hu hi hz0 hz1 hz2 hzc K.pos (.slice none 0 0) 0 [] (World.ownsRow_nil _ _ _ _) ⟨b, off, none⟩ M.length c (K.cells M) (cells_len M) hrow (cells_one M) (by unfold maxLen; omega) (by simp only [Nat.zero_add]; simp at hbm; omega) (Nat.le_refl _)
    have ho' : OR K t w' w.heap.size v' ([] ++ M) := ⟨by rw [List.nil_append]; simpa using ho⟩
    exact ⟨v', w', hr, ho'.mono hbase, hg, .inr fun k hk => (ho'.lt hk).1⟩
  · by_cases hroom : L.length + M.length ≤ cap
    · have hfit : L.length * i0.size + (K.cells M).length ≤ cur.size := by rw [hz1, cells_len, hcs, ← Nat.add_mul]; exact Nat.mul_le_mul_right _ hroom
      have hr := run_append_room (P := Try.prog) w ts ty t i0 hu hi g L.length cap cur hh ⟨b, off, none⟩ M.length c (K.cells M) (by rw [hz1]; exact cells_len M) hrow (cells_one M) hroom hfit
      refine ⟨_, _, hr, ?_, grownBy_setRow w g _, .inl rfl⟩
      have e : L.length + M.length = (L ++ M).length := (List.length_append ..).symm
      rw [e]
      refine OR.of hB (setRow_heap w g cur _ t _ hh) (by rw [← e]; exact hroom) hcm ?_ ?_
      · rw [hz1] at hfit ⊢
        simp only [List.size_toArray, List.length_append, List.length_take, List.length_drop, Array.length_toList]
        omega
      · rw [hz1, htake, cells_append, ← e]
        have e2 : (K.cells L ++ K.cells M).length = (L.length + M.length) * K.k := by rw [List.length_append, cells_len, cells_len, Nat.add_mul]
        rw [List.toList_toArray, List.take_append_of_le_length (by rw [e2]; exact Nat.le_refl _), List.take_of_length_le (by rw [e2]; exact Nat.le_refl _)]
    · have holds : ∀ j u, (K.cells L)[j]? = some u → w.cell? ((⟨g, 0, none⟩ : Addr).add j) = some u := World.ownsRow.cells hown.own (g := g) rfl
      have hge := grownCap_ge w (L.length + M.length) cap t
      have hcm' : grownCap w (L.length + M.length) cap t ≤ maxLen := grownCap_le_maxLen w _ cap t (by unfold maxLen; omega)
      have hr := run_append_grow (P := Try.prog) w ts ty t i0 z hu hi hz0 ⟨g, 0, none⟩ L.length cap (K.cells L) (by rw [hz1]; exact cells_len L) holds ⟨b, off, none⟩ M.length c (K.cells M) (by rw [hz1]; exact cells_len M) hrow (by omega) (by omega) (growslice_fits (by omega) (by rw [hz2]; omega))
      refine ⟨_, _, hr, ?_, ⟨rfl, rfl, rfl, by simp, fun k hk _ => heap_alloc_old w.drew _ hk⟩, .inr fun k hk => ?_⟩
      · have e : L.length + M.length = (L ++ M).length := (List.length_append ..).symm
        rw [e] at hge hcm' ⊢
        refine OR.of hbase (heap_alloc_new w.drew _) hge hcm' ?_ ?_
        · rw [List.length_append] at hge ⊢
          simp only [Array.size_append, List.size_toArray, size_zeroCells, hzc, cells_len, ← Nat.add_mul]
          congr 1
          omega
        · simp only [Array.toList_append]
          have e2 : (K.cells L ++ K.cells M).length = (L ++ M).length * K.k := by rw [List.length_append, cells_len, cells_len, List.length_append, Nat.add_mul]
          rw [cells_append, List.take_append_of_le_length (by rw [e2]; exact Nat.le_refl _), List.take_of_length_le (by rw [e2]; exact Nat.le_refl _)]
      · have : k = w.heap.size := by simpa [Value.ownBlock] using hk.symm
        omega
end

end Go.Proofs.Ytohcdonmdnjgoaa.Rw
