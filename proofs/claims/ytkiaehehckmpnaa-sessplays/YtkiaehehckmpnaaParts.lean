/- Rows of structs of one kind: slices, appends, one of them another; parts of memory, each with blocks of its own. -/
import Derived.Test.YtkiaehehckmpnaaRowGen

import Derived.Test.YtkiaehehckmpnaaWtOf

import Derived.Laws.CopyRow

import Derived.Laws.IdiomCopy

import Derived.Lib.AppendZerosOnto

import Derived.Lib.Overlaps

import Derived.Lib.Hide

namespace Go.Proofs.Ytkiaehehckmpnaa.Rw

open Go.RowKit Go.Proofs.Ytkiaehehckmpnaa.Vc Go.Proofs.Ytkiaehehckmpnaa.Sp

set_option linter.unusedVariables false

set_option linter.unusedSimpArgs false

set_option maxRecDepth 100000

/-- s[i:], i below the room -/
theorem run_slice_lo {t ts : TypeId} (he : Try.prog.elem ts = t) (hu : Try.prog.underlying ts = some (.slice t)) {k : Nat} (hs : ∀ w, (sizeOf t).run Try.prog w = .ok k w) (b o n c i : Nat) (hi : i ≤ n) (hc : i < c) (w : World) :
    (Instr.sliceAt ts (.slice (some ⟨b, o, none⟩) n c) (some (.int .i64 (i : Int))) none none).run Try.prog w = .ok (.slice (some ⟨b, o + k * i, none⟩) (n - i) (c - i)) w := by
  rw [run_sliceAt_slice w _ _ _ _ _ (by rw [he]; exact hu), run_slice_l w _ _ _ _ (by rw [he]; exact hu) _ _ (by omega) (by omega), he, hs, Result.andThen_ok]
  unfold sliced
  rw [Int.toNat_natCast, if_neg (by omega), Option.map_some, Addr.add_mid, Nat.mul_comm]
/-- s[i:], whatever its place -/
theorem run_slice_lo' {t ts : TypeId} (he : Try.prog.elem ts = t) (hu : Try.prog.underlying ts = some (.slice t)) {k : Nat} (hs : ∀ w, (sizeOf t).run Try.prog w = .ok k w) (a : Option Addr) (n c i : Nat) (hi : i ≤ n) :
    ∃ v, ∀ w, (Instr.sliceAt ts (.slice a n c) (some (.int .i64 (i : Int))) none none).run Try.prog w = .ok v w := by
  refine ⟨sliced a i n c k, fun w => ?_⟩
  rw [run_sliceAt_slice w _ _ _ _ _ (by rw [he]; exact hu), run_slice_l w _ _ _ _ (by rw [he]; exact hu) _ _ (by omega) (by omega), he, hs, Result.andThen_ok, Int.toNat_natCast]
/-- s[:i] -/
theorem run_slice_hi {t ts : TypeId} (he : Try.prog.elem ts = t) (hu : Try.prog.underlying ts = some (.slice t)) {k : Nat} (hs : ∀ w, (sizeOf t).run Try.prog w = .ok k w) (b o n c i : Nat) (hi : i ≤ c) (w : World) :
    (Instr.sliceAt ts (.slice (some ⟨b, o, none⟩) n c) none (some (.int .i64 (i : Int))) none).run Try.prog w = .ok (.slice (some ⟨b, o, none⟩) i c) w := by
  rw [run_sliceAt_slice w _ _ _ _ _ (by rw [he]; exact hu), run_slice_h w _ _ _ _ (by rw [he]; exact hu) _ _ (by omega) (by omega), he, hs, Result.andThen_ok]
  unfold sliced
  rw [Int.toNat_natCast, Nat.sub_zero, Nat.sub_zero]
  have e : (⟨b, o, none⟩ : Addr).add (0 * k) = ⟨b, o, none⟩ := by rw [Addr.add_mid]; simp
  by_cases h : c = 0
  · rw [if_pos h]
  · rw [if_neg h, Option.map_some, e]
/-- a slice's block is the same one, or a new one -/
def Nw (w : World) (v v' : Value) : Prop := v'.ownBlock = v.ownBlock ∨ ∀ g, v'.ownBlock = some g → w.heap.size ≤ g
theorem Nw.refl (w : World) (v : Value) : Nw w v v := .inl rfl
theorem Nw.ne {w : World} {v v' : Value} (h : Nw w v v') {k : Nat} (hk : k < w.heap.size) (hn : v.ownBlock ≠ some k) : v'.ownBlock ≠ some k := by
  rcases h with h | h
  · rw [h]; exact hn
  · intro e
    have := h k e
    omega
theorem Nw.trans {w w' : World} {v v' v'' : Value} (h : Nw w v v') (hs : w.heap.size ≤ w'.heap.size) (k : Nw w' v' v'') : Nw w v v'' := by
  rcases k with k | k
  · rcases h with h | h
    · exact .inl (k.trans h)
    · exact .inr fun g hg => h g (k ▸ hg)
  · exact .inr fun g hg => Nat.le_trans hs (k g hg)
theorem Nw.mono {w w' : World} {v v' : Value} (h : Nw w' v v') (hs : w.heap.size ≤ w'.heap.size) : Nw w v v' := h.elim .inl fun k => .inr fun g hg => Nat.le_trans hs (k g hg)
theorem grownBy_refl (w : World) (o : Option Nat) : w.grownBy w o := ⟨rfl, rfl, rfl, Nat.le_refl _, fun _ _ _ => rfl⟩
theorem grownBy_trans {u v w : World} {o : Option Nat} (h : u.grownBy v o) (k : v.grownBy w o) : u.grownBy w o :=
  ⟨k.os.trans h.os, k.tape.trans h.tape, k.output.trans h.output, Nat.le_trans h.size k.size, fun i hi hn => (k.block i (Nat.lt_of_lt_of_le hi h.size) hn).trans (h.block i hi hn)⟩
theorem grownBy_below {w w' : World} (h : Below w.heap.size w w') (o : Option Nat) : w.grownBy w' o := ⟨h.os, h.tape, h.output, h.size, fun k hk _ => h.block k hk⟩
theorem grownBy_setRow (w : World) (g : Nat) (cur : Array Value) : w.grownBy (w.setRow g cur) (some g) := ⟨rfl, rfl, rfl, by simp, fun k _ hk => setRow_other w g k _ (fun e => hk (by rw [e]))⟩
theorem grownBy_drew (w : World) (o : Option Nat) : w.grownBy w.drew o := ⟨rfl, rfl, rfl, Nat.le_refl _, fun _ _ _ => rfl⟩
theorem grownBy_upd {w w' : World} {g : Nat} (h : Upd g w w') : w.grownBy w' (some g) := ⟨h.os, h.tape, h.output, Nat.le_of_eq h.size.symm, fun k _ hk => h.far k (fun e => hk (by rw [e]))⟩
section

variable {β : Type} {K : Kd β}

/-- an own row that has cells -/
theorem OR.row {t : TypeId} {w : World} {base : Nat} {v : Value} {L : List β} (h : OR K t w base v L) : (v = .slice none 0 0 ∧ L = []) ∨ ∃ g cap cur, v = .slice (Option.some ⟨g, 0, none⟩) L.length cap ∧ base ≤ g ∧ g < w.heap.size ∧ w.heap[g]? = Option.some (Obj.cells cur t (0, 0)) ∧ L.length ≤ cap ∧ cap ≤ maxLen ∧ cur.size = cap * K.k ∧ cur.toList.take (L.length * K.k) = K.cells L := by
  obtain ⟨hl, ⟨h0, h1⟩ | ⟨g, cap, cur, hv, hB, hh, r1, r2, r3, r4⟩⟩ := h.own
  · exact .inl ⟨h0, List.length_eq_zero_iff.1 h1⟩
  · refine .inr ⟨g, cap, cur, hv, hB, ?_, hh, r1, r2, r3, r4⟩
    rcases Nat.lt_or_ge g w.heap.size with h1 | h1
    · exact h1
    · rw [Array.getElem?_eq_none h1] at hh; cases hh
theorem OR.of {t : TypeId} {w : World} {base g cap : Nat} {cur : Array Value} {L : List β} (hB : base ≤ g) (hh : w.heap[g]? = Option.some (Obj.cells cur t (0, 0))) (h1 : L.length ≤ cap) (h2 : cap ≤ maxLen) (h3 : cur.size = cap * K.k) (h4 : cur.toList.take (L.length * K.k) = K.cells L) : OR K t w base (.slice (Option.some ⟨g, 0, none⟩) L.length cap) L :=
  ⟨⟨cells_len L, .inr ⟨g, cap, cur, rfl, hB, hh, h1, h2, h3, h4⟩⟩⟩
theorem OR.lt {t : TypeId} {w : World} {base : Nat} {v : Value} {L : List β} (h : OR K t w base v L) {g : Nat} (hg : v.ownBlock = Option.some g) : base ≤ g ∧ g < w.heap.size := World.ownsRow.lt h.own g hg
theorem OR.grown {t : TypeId} {w w' : World} {base : Nat} {v : Value} {L : List β} (h : OR K t w base v L) {o : Option Nat} (hg : w.grownBy w' o) (hne : ∀ g, v.ownBlock = Option.some g → o ≠ Option.some g) : OR K t w' base v L :=
  ⟨h.own.kept hg (by
    cases hv : v.ownBlock with
    | none => exact .inl rfl
    | some g => exact .inr (fun e => hne g hv e.symm))⟩
theorem IsR.grown {w w' : World} {v : Value} {L : List β} {o : Option Nat} (h : IsR K w v L) (hg : w.grownBy w' o) (hne : ∀ b, v.ownBlock = some b → o ≠ some b) : IsR K w' v L := by
  obtain ⟨a, cap, hv, h1, h2, h3⟩ := h.is
  refine ⟨a, cap, hv, h1, h2, fun hn => ?_⟩
  obtain ⟨b, off, ha, hlt, hW⟩ := h3 hn
  refine ⟨b, off, ha, Nat.lt_of_lt_of_le hlt hg.size, fun i x hx j u hu => ?_⟩
  exact hg.cell (hW i x hx j u hu) (fun e => hne b (by rw [hv, ha]; rfl) e.symm)
/-- an own row's block holds rows of its type -/
theorem OR.ne {t t' : TypeId} {w : World} {base b : Nat} {v : Value} {L : List β} {cur : Array Value} {fr : Nat × Nat} (h : OR K t w base v L) (hb : w.heap[b]? = Option.some (Obj.cells cur t' fr)) (hne : t ≠ t') : v.ownBlock ≠ Option.some b := by
  intro e
  rcases h.row with ⟨rfl, _⟩ | ⟨g, cap, cur', rfl, _, _, hh, _⟩
  · cases e
  · obtain rfl : g = b := by simpa [Value.ownBlock] using e
    rw [hh] at hb
    simp only [Option.some.injEq, Obj.cells.injEq] at hb
    exact hne hb.2.1
/-- what lies in a row: place i -/
theorem cells_take_drop (L : List β) (i : Nat) : K.cells (L.take i) ++ K.cells (L.drop i) = K.cells L := by rw [← cells_append, List.take_append_drop]
end

section

variable {β : Type} {K : Kd β}

/-- append(v, x): whose block the new one is -/
theorem run_append_one {t ts : TypeId} (ty : TypeId) {bytes : Nat} (hu : Try.prog.underlying ts = some (.slice t)) {z : Value} (hinf : (Try.prog.info? t).map (fun i => (i.zero, i.size, i.bytes)) = some (some z, K.k, bytes)) (hzc : z.cells.size = K.k) (w : World) (base : Nat) (v : Value) (L : List β) (hown : OR K t w base v L) (b off m c : Nat) (M : List β) (hM : IsR K w (.slice (some ⟨b, off, none⟩) m c) M) (hm1 : 0 < M.length) (hl : L.length + M.length ≤ 1000000) (hby : bytes ≤ 100000) (hbase : base ≤ w.heap.size) :
    ∃ v' w', (Builtin.append_ #[ts, ts] ty #[v, .slice (some ⟨b, off, none⟩) m c]).run Try.prog w = .ok v' w' ∧ OR K t w' base v' (L ++ M) ∧ w.grownBy w' v.ownBlock ∧ Nw w v v' := by
  obtain ⟨i0, hi, hz0, hz1, hz2⟩ : ∃ i0, Try.prog.info? t = some i0 ∧ i0.zero = some z ∧ i0.size = K.k ∧ i0.bytes = bytes := by
    cases hi : Try.prog.info? t with
    | none => rw [hi] at hinf; cases hinf
    | some i0 =>
      rw [hi] at hinf
      simp only [Option.map_some, Option.some.injEq, Prod.mk.injEq] at hinf
      exact ⟨i0, rfl, hinf.1, hinf.2.1, hinf.2.2⟩
  have hsl : ∃ b' off', (some ⟨b, off, none⟩ : Option Addr) = some ⟨b', off', none⟩ ∧ m = M.length ∧ m ≤ c ∧ Rs K w b' off' M := by
    obtain ⟨a, cap, hv, h1, h2, h3⟩ := hM.is
    simp only [Value.slice.injEq] at hv
    obtain ⟨rfl, rfl, rfl⟩ := hv
    obtain ⟨b', off', ha, hlt, hW⟩ := h3 (fun e => by rw [e] at hm1; exact absurd hm1 (by simp))
    exact ⟨b', off', ha, rfl, h1, hW⟩
  obtain ⟨b', off', ha, rfl, hmc, hW⟩ := hsl
  simp only [Option.some.injEq, Addr.mk.injEq, and_true] at ha
  obtain ⟨rfl, rfl⟩ := ha
  have hrow := cells_row hW
  have hbm := Nat.mul_le_mul hl hby
  rcases hown.row with ⟨rfl, rfl⟩ | ⟨g, cap, cur, rfl, hB, hgl, hh, hnc, hcm, hcs, htake⟩
  · obtain ⟨v', w', hr, ho, hg, _⟩ := run_append_own (P := Try.prog) w w.heap.size ts ty t i0 z K.k bytes hu hi hz0 hz1 hz2 hzc K.pos (.slice none 0 0) 0 [] (World.ownsRow_nil _ _ _ _) ⟨b, off, none⟩ M.length c (K.cells M) (cells_len M) hrow (cells_one M) (by unfold maxLen; omega) (by simp only [Nat.zero_add]; simp at hbm; omega) (Nat.le_refl _)
    have ho' : OR K t w' w.heap.size v' ([] ++ M) := ⟨by rw [List.nil_append]; simpa using ho⟩
    exact ⟨v', w', hr, ho'.mono hbase, hg, .inr fun k hk => (ho'.lt hk).1⟩
  · by_cases hroom : L.length + M.length ≤ cap
    · have hfit : L.length * i0.size + (K.cells M).length ≤ cur.size := by rw [hz1, cells_len, hcs, ← Nat.add_mul]; exact Nat.mul_le_mul_right _ hroom
      have hr := run_append_room (P := Try.prog) w ts ty t i0 hu hi g L.length cap cur hh ⟨b, off, none⟩ M.length c (K.cells M) (by rw [hz1]; exact cells_len M) hrow (cells_one M) hroom hfit
      refine ⟨_, _, hr, ?_, grownBy_setRow w g _, .inl rfl⟩
      have e : L.length + M.length = (L ++ M).length := (List.length_append ..).symm
      rw [e]
      refine OR.of hB (setRow_heap w g cur _ t _ hh) (by rw [← e]; exact hroom) hcm ?_ ?_
      · rw [hz1] at hfit ⊢
        simp only [List.size_toArray, List.length_append, List.length_take, List.length_drop, Array.length_toList]
        omega
      · rw [hz1, htake, cells_append, ← e]
        have e2 : (K.cells L ++ K.cells M).length = (L.length + M.length) * K.k := by rw [List.length_append, cells_len, cells_len, Nat.add_mul]
        rw [List.toList_toArray, List.take_append_of_le_length (by rw [e2]; exact Nat.le_refl _), List.take_of_length_le (by rw [e2]; exact Nat.le_refl _)]
    · have holds : ∀ j u, (K.cells L)[j]? = some u → w.cell? ((⟨g, 0, none⟩ : Addr).add j) = some u := World.ownsRow.cells hown.own (g := g) rfl
      have hge := grownCap_ge w (L.length + M.length) cap t
      have hcm' : grownCap w (L.length + M.length) cap t ≤ maxLen := grownCap_le_maxLen w _ cap t (by unfold maxLen; omega)
      have hr := run_append_grow (P := Try.prog) w ts ty t i0 z hu hi hz0 ⟨g, 0, none⟩ L.length cap (K.cells L) (by rw [hz1]; exact cells_len L) holds ⟨b, off, none⟩ M.length c (K.cells M) (by rw [hz1]; exact cells_len M) hrow (by omega) (by omega) (growslice_fits (by omega) (by rw [hz2]; omega))
      refine ⟨_, _, hr, ?_, ⟨rfl, rfl, rfl, by simp, fun k hk _ => heap_alloc_old w.drew _ hk⟩, .inr fun k hk => ?_⟩
      · have e : L.length + M.length = (L ++ M).length := (List.length_append ..).symm
        rw [e] at hge hcm' ⊢
        refine OR.of hbase (heap_alloc_new w.drew _) hge hcm' ?_ ?_
        · rw [List.length_append] at hge ⊢
          simp only [Array.size_append, List.size_toArray, size_zeroCells, hzc, cells_len, ← Nat.add_mul]
          congr 1
          omega
        · simp only [Array.toList_append]
          have e2 : (K.cells L ++ K.cells M).length = (L ++ M).length * K.k := by rw [List.length_append, cells_len, cells_len, List.length_append, Nat.add_mul]
          rw [cells_append, List.take_append_of_le_length (by rw [e2]; exact Nat.le_refl _), List.take_of_length_le (by rw [e2]; exact Nat.le_refl _)]
      · have : k = w.heap.size := by simpa [Value.ownBlock] using hk.symm
        omega
end

theorem setCells_row (w : World) (g o : Nat) (t : TypeId) (cur : Array Value) (vs : List Value) (hg : w.heap[g]? = some (.cells cur t (0, 0))) (hfit : o + vs.length ≤ cur.size) (h1 : ∀ v ∈ vs, v.oneCell' = true) :
    w.setCells g o vs = w.setRow g (cur.toList.take o ++ vs ++ cur.toList.drop (o + vs.length)).toArray := by
  have a := run_storeCells_at Try.prog g o t vs 0 cur w hg (by simpa using hfit) h1
  have b := run_storeCells_cells (P := Try.prog) g o vs 0 w (fun j hj => by
    rw [Nat.add_zero, cell_of_row w g (o + j) cur t (0, 0) hg, Array.getElem?_eq_getElem (by omega)]; rfl) (fun j hj => frozen_of_row _ _ _ _ _ hg) h1
  rw [a] at b
  simp only [Nat.add_zero] at b
  injection b with _ h
  exact h.symm
section

variable {β : Type} {K : Kd β}

theorem OR.there {t : TypeId} {w : World} {base g n cap : Nat} {L : List β} (h : OR K t w base (.slice (Option.some ⟨g, 0, Option.none⟩) n cap) L) (i : Nat) (hi : i < L.length) : w.there g (K.k * i) K.k := by
  rcases h.row with ⟨h0, _⟩ | ⟨g', cap', cur, hv, hB, hgl, hh, hnc, hcm, hcs, htake⟩
  · cases h0
  · simp only [Value.slice.injEq, Option.some.injEq, Addr.mk.injEq] at hv
    obtain ⟨⟨rfl, _⟩, rfl, rfl⟩ := hv
    intro j hj
    have hk := K.pos
    have h2 : K.k * i + K.k ≤ cap * K.k := by
      have := Nat.mul_le_mul_right K.k (show i + 1 ≤ cap by omega)
      rw [Nat.add_mul, Nat.one_mul, Nat.mul_comm i] at this
      exact this
    refine ⟨?_, frozen_of_row _ _ _ _ _ hh⟩
    rw [cell_of_row w g _ cur t (0, 0) hh, Array.getElem?_eq_getElem (by omega)]; rfl
theorem cells_set (L : List β) (i : Nat) (hi : i < L.length) (x : β) : K.cells (L.set i x) = K.cells (L.take i) ++ K.cf x ++ K.cells (L.drop (i + 1)) := by
  rw [List.set_eq_take_append_cons_drop, if_pos hi, cells_append, show x :: L.drop (i + 1) = [x] ++ L.drop (i + 1) from rfl, cells_append, cells_one1, List.append_assoc]
theorem OR.set {t : TypeId} {w : World} {base g n cap : Nat} {L : List β} (h : OR K t w base (.slice (Option.some ⟨g, 0, Option.none⟩) n cap) L) (i : Nat) (hi : i < L.length) (x : β) : OR K t (w.setCells g (K.k * i) (K.cf x)) base (.slice (Option.some ⟨g, 0, Option.none⟩) n cap) (L.set i x) ∧ w.grownBy (w.setCells g (K.k * i) (K.cf x)) (Option.some g) := by
  rcases h.row with ⟨h0, _⟩ | ⟨g', cap', cur, hv, hB, hgl, hh, hnc, hcm, hcs, htake⟩
  · cases h0
  · simp only [Value.slice.injEq, Option.some.injEq, Addr.mk.injEq] at hv
    obtain ⟨⟨rfl, _⟩, rfl, rfl⟩ := hv
    have hl := cells_len (K := K) L
    have hA : (K.cells (L.take i)).length = K.k * i := by rw [cells_len, List.length_take, Nat.min_eq_left (by omega), Nat.mul_comm]
    have hBl : (K.cells (L.drop (i + 1))).length = L.length * K.k - (K.k * i + K.k) := by
      rw [cells_len, List.length_drop, Nat.sub_mul, Nat.add_mul, Nat.one_mul, Nat.mul_comm i]
    have h2 : K.k * i + K.k ≤ L.length * K.k := by
      have := Nat.mul_le_mul_right K.k (show i + 1 ≤ L.length by omega)
      rw [Nat.add_mul, Nat.one_mul, Nat.mul_comm i] at this
      exact this
    have h3 : L.length * K.k ≤ cap * K.k := Nat.mul_le_mul_right _ hnc
    have hx := K.len x
    have hcl : cur.toList.length = cap * K.k := by rw [Array.length_toList, hcs]
    have hfit : K.k * i + (K.cf x).length ≤ cur.size := by omega
    rw [setCells_row w g (K.k * i) t cur (K.cf x) hh hfit (K.one x)]
    refine ⟨?_, grownBy_setRow w g _⟩
    have e : L.length = (L.set i x).length := (List.length_set ..).symm
    rw [e]
    have hold : cur.toList.take (L.length * K.k) = K.cells (L.take i) ++ K.cells (L.drop i) := by rw [htake, cells_take_drop]
    have hdr : K.cells (L.drop i) = K.cf L[i] ++ K.cells (L.drop (i + 1)) := by
      rw [List.drop_eq_getElem_cons hi, show L[i] :: L.drop (i + 1) = [L[i]] ++ L.drop (i + 1) from rfl, cells_append, cells_one1]
    have e1 : cur.toList.take (K.k * i) = K.cells (L.take i) := by
      have := congrArg (List.take (K.k * i)) hold
      rw [List.take_take, Nat.min_eq_left (by omega), List.take_append_of_le_length (by omega)] at this
      rw [this]
      exact List.take_of_length_le (by omega)
    have e2 : (cur.toList.drop (K.k * i + K.k)).take (L.length * K.k - (K.k * i + K.k)) = K.cells (L.drop (i + 1)) := by
      rw [← List.drop_take, hold, hdr, ← List.append_assoc, List.drop_append_of_le_length (by rw [List.length_append, hA, K.len]; exact Nat.le_refl _), List.drop_of_length_le (by rw [List.length_append, hA, K.len]; exact Nat.le_refl _), List.nil_append]
    refine OR.of hB (setRow_heap w g cur _ t _ hh) (by rw [← e]; exact hnc) hcm ?_ ?_
    · simp only [List.size_toArray, List.length_append, List.length_take, List.length_drop, hcl, hx]
      omega
    · rw [← e, cells_set L i hi x, List.toList_toArray, e1, hx]
      have hAX : (K.cells (L.take i) ++ K.cf x).length = K.k * i + K.k := by rw [List.length_append, hA, hx]
      rw [List.take_append, List.take_of_length_le (l := K.cells (L.take i) ++ K.cf x) (by omega), hAX, e2]
variable {ops : Array Oper} {rest : List Oper} {o : Oper} {a : Act} {w : World} {Q : Exit → Act → World → Prop}

/-- one place of an own row is written -/
theorem or_store (hgd : o.guard = none) (t : TypeId) (x y : Operand) (ho : o.op = .store t x y) (g off : Nat) (hx : a.eval x = .pointer (Option.some ⟨g, off, Option.none⟩)) (z : β) (hy : a.eval y = .agg (K.cf z).toArray)
    (base n cap : Nat) (M : List β) (hM : OR K t w base (.slice (Option.some ⟨g, 0, Option.none⟩) n cap) M) (i : Nat) (hi : i < M.length) (hoff : off = K.k * i) (hsz : (Try.prog.info? t).map (·.size) = Option.some K.k)
    (h : ∀ w', OR K t w' base (.slice (Option.some ⟨g, 0, Option.none⟩) n cap) (M.set i z) → w.grownBy w' (Option.some g) → wpList Try.prog ops Q rest (a.put o.dst undef) w') : wpList Try.prog ops Q (o :: rest) a w := by
  subst hoff
  have hs := hM.set i hi z
  refine wpList_store_mid hgd t x y ho g (K.k * i) _ hx hy (by rw [List.size_toArray, K.len]; exact hM.there i hi) (by rw [List.size_toArray, K.len]; exact hsz) (all_oneCell_toArray (K.one z)) ?_
  rw [List.toList_toArray]
  exact h _ hs.1 hs.2
end

end Go.Proofs.Ytkiaehehckmpnaa.Rw

namespace Go.Proofs.Ytkiaehehckmpnaa.Se

open Go.RowKit Go.Proofs.Ytkiaehehckmpnaa.Rw

set_option linter.unusedVariables false

/-- a part: its blocks, what it says; it hangs on these blocks alone -/
structure Rg where
  bl : List Nat
  P : World → Prop
  st : ∀ w w', (∀ k ∈ bl, w'.heap[k]? = w.heap[k]?) → P w → P w'
structure Sep (w0 w : World) (R : List Rg) : Prop where
  under : Below w0.heap.size w0 w
  each : ∀ r ∈ R, r.P w ∧ ∀ k ∈ r.bl, w0.heap.size ≤ k ∧ k < w.heap.size
  disj : R.Pairwise fun r s => ∀ k ∈ r.bl, k ∉ s.bl
theorem Sep.start (w : World) : Sep w w [] := ⟨Below.refl _ _, fun r hr => (by cases hr), .nil⟩
theorem Sep.size {w0 w : World} {R : List Rg} (h : Sep w0 w R) : w0.heap.size ≤ w.heap.size := h.under.size
theorem Sep.get {w0 w : World} {R : List Rg} (h : Sep w0 w R) (i : Nat) {r : Rg} (hi : R[i]? = some r) : r.P w := (h.each r (List.mem_of_getElem? hi)).1
theorem Sep.lt {w0 w : World} {R : List Rg} (h : Sep w0 w R) (i : Nat) {r : Rg} (hi : R[i]? = some r) : ∀ k ∈ r.bl, w0.heap.size ≤ k ∧ k < w.heap.size := (h.each r (List.mem_of_getElem? hi)).2
theorem Sep.below {w0 w w' : World} {R : List Rg} (h : Sep w0 w R) (hb : Below w.heap.size w w') : Sep w0 w' R :=
  ⟨h.under.trans (hb.mono h.size), fun r hr => ⟨r.st w w' (fun k hk => hb.block k ((h.each r hr).2 k hk).2) (h.each r hr).1, fun k hk => ⟨((h.each r hr).2 k hk).1, Nat.lt_of_lt_of_le ((h.each r hr).2 k hk).2 hb.size⟩⟩, h.disj⟩
/-- one part more, of new blocks -/
theorem Sep.push {w0 w w' : World} {R : List Rg} (h : Sep w0 w R) (hb : Below w.heap.size w w') (r : Rg) (hr : r.P w') (hn : ∀ k ∈ r.bl, w.heap.size ≤ k ∧ k < w'.heap.size) : Sep w0 w' (r :: R) := by
  have h' := h.below hb
  refine ⟨h'.under, fun s hs => ?_, List.pairwise_cons.2 ⟨fun s hs k hk hks => ?_, h.disj⟩⟩
  · rcases List.mem_cons.1 hs with rfl | hs
    · exact ⟨hr, fun k hk => ⟨Nat.le_trans h.size (hn k hk).1, (hn k hk).2⟩⟩
    · exact h'.each s hs
  · have h1 := (hn k hk).1
    have h2 := ((h.each s hs).2 k hks).2
    omega
/-- fewer parts -/
theorem Sep.sub {w0 w : World} {R R' : List Rg} (h : Sep w0 w R) (hs : R'.Sublist R) : Sep w0 w R' := ⟨h.under, fun r hr => h.each r (hs.subset hr), h.disj.sublist hs⟩
theorem Sep.tail {w0 w : World} {r : Rg} {R : List Rg} (h : Sep w0 w (r :: R)) : Sep w0 w R := h.sub (List.sublist_cons_self _ _)
/-- what was the start may be an elder world -/
theorem Sep.elder {u w0 w : World} {R : List Rg} (h : Sep w0 w R) (hu : Below u.heap.size u w0) : Sep u w R :=
  ⟨hu.trans (h.under.mono hu.size), fun r hr => ⟨(h.each r hr).1, fun k hk => ⟨Nat.le_trans hu.size ((h.each r hr).2 k hk).1, ((h.each r hr).2 k hk).2⟩⟩, h.disj⟩
/-- one part turns -/
theorem Sep.step {w0 w w' : World} {R : List Rg} (h : Sep w0 w R) (i : Nat) {r : Rg} (hi : R[i]? = some r) (hos : w'.os = w.os) (htp : w'.tape = w.tape) (hou : w'.output = w.output) (hsz : w.heap.size ≤ w'.heap.size)
    (hfar : ∀ k, k < w.heap.size → k ∉ r.bl → w'.heap[k]? = w.heap[k]?) (r' : Rg) (hr' : r'.P w') (hb : ∀ k ∈ r'.bl, (k ∈ r.bl ∨ w.heap.size ≤ k) ∧ k < w'.heap.size) : Sep w0 w' (R.set i r') := by
  have hlt := h.lt i hi
  have hil := (List.getElem?_eq_some_iff.1 hi).1
  have hri : R[i] = r := (List.getElem?_eq_some_iff.1 hi).2
  refine ⟨h.under.trans ⟨hos, htp, hou, hsz, fun k hk => hfar k (Nat.lt_of_lt_of_le hk h.size) (fun hm => by have := (hlt k hm).1; omega)⟩, fun s hs => ?_, ?_⟩
  · obtain ⟨j, hj⟩ := List.mem_iff_getElem?.1 hs
    by_cases e : i = j
    · subst e
      rw [List.getElem?_set_self hil] at hj
      obtain rfl := Option.some.inj hj
      refine ⟨hr', fun k hk => ⟨?_, (hb k hk).2⟩⟩
      rcases (hb k hk).1 with h1 | h1
      · exact (hlt k h1).1
      · exact Nat.le_trans h.size h1
    · rw [List.getElem?_set_ne e] at hj
      have hjl := (List.getElem?_eq_some_iff.1 hj).1
      have hsj : R[j] = s := (List.getElem?_eq_some_iff.1 hj).2
      have hm := h.each s (List.mem_of_getElem? hj)
      have hdis : ∀ k ∈ s.bl, k ∉ r.bl := fun k hk hkr => by
        rcases Nat.lt_trichotomy i j with h1 | h1 | h1
        · have := List.pairwise_iff_getElem.1 h.disj i j hil hjl h1
          rw [hri, hsj] at this
          exact this k hkr hk
        · exact e h1
        · have := List.pairwise_iff_getElem.1 h.disj j i hjl hil h1
          rw [hri, hsj] at this
          exact this k hk hkr
      exact ⟨s.st w w' (fun k hk => hfar k (hm.2 k hk).2 (hdis k hk)) hm.1, fun k hk => ⟨(hm.2 k hk).1, Nat.lt_of_lt_of_le (hm.2 k hk).2 hsz⟩⟩
  · rw [List.pairwise_iff_getElem]
    intro a b ha hb' hab
    rw [List.length_set] at ha hb'
    have hp := List.pairwise_iff_getElem.1 h.disj a b ha hb' hab
    have new : ∀ s ∈ R, s ≠ r ∨ True → ∀ k, w.heap.size ≤ k → k ∉ s.bl := fun s hs _ k hk hm => by have := ((h.each s hs).2 k hm).2; omega
    by_cases e1 : i = a
    · subst e1
      have e2 : i ≠ b := by omega
      rw [List.getElem_set_self, List.getElem_set_ne e2]
      intro k hk hm
      rcases (hb k hk).1 with h1 | h1
      · rw [hri] at hp; exact hp k h1 hm
      · exact new R[b] (List.getElem_mem _) (.inr trivial) k h1 hm
    · rw [List.getElem_set_ne e1]
      by_cases e2 : i = b
      · subst e2
        rw [List.getElem_set_self]
        intro k hk hm
        rcases (hb k hm).1 with h1 | h1
        · rw [hri] at hp; exact hp k hk h1
        · exact new R[a] (List.getElem_mem _) (.inr trivial) k h1 hk
      · rw [List.getElem_set_ne e2]
        exact hp
/-- a struct in a block -/
def rB (b : Nat) (vs : List Value) : Rg := ⟨[b], fun w => Blk w b vs, fun w w' hk h => by
  have hb := hk b (by simp)
  exact ⟨fun j v hv => by rw [World.cell?_of_block (w := w) hb]; exact h.1 j v hv, fun j hj => by rw [World.cell?_of_block (w := w) hb, World.frozen?_of_block (w := w) hb]; exact h.2 j hj⟩⟩
def ob (v : Value) : List Nat := match v.ownBlock with | some g => [g] | none => []
theorem mem_ob {v : Value} {k : Nat} : k ∈ ob v ↔ v.ownBlock = some k := by
  unfold ob
  cases v.ownBlock with
  | none => simp
  | some g => simp [eq_comm]
theorem row_st {β : Type} {K : Kd β} {t : TypeId} {base : Nat} {v : Value} {L : List β} {w w' : World} (hk : ∀ k ∈ ob v, w'.heap[k]? = w.heap[k]?) (h : OR K t w base v L) : OR K t w' base v L := by
  obtain ⟨⟨hl, h0 | ⟨g, cap, cur, hv, hB, hh, r⟩⟩⟩ := h
  · exact ⟨⟨hl, .inl h0⟩⟩
  · refine ⟨⟨hl, .inr ⟨g, cap, cur, hv, hB, ?_, r⟩⟩⟩
    rw [hk g (mem_ob.2 (by rw [hv]; rfl))]
    exact hh
/-- an own row -/
def rO {β : Type} (K : Kd β) (t : TypeId) (base : Nat) (v : Value) (L : List β) : Rg := ⟨ob v, fun w => OR K t w base v L, fun w w' hk h => row_st hk h⟩
section

variable {w0 w w' : World} {R : List Rg}

/-- a new struct -/
theorem Sep.box (h : Sep w0 w R) (hb : Below w.heap.size w w') (hz : w'.heap.size = w.heap.size + 1) {vs : List Value} (hB : Blk w' w.heap.size vs) : Sep w0 w' (rB w.heap.size vs :: R) :=
  h.push hb (rB _ vs) hB (fun k hk => by simp only [rB, List.mem_singleton] at hk; omega)
/-- a struct is written -/
theorem Sep.upd (h : Sep w0 w R) (i : Nat) {b : Nat} {vs us : List Value} (hi : R[i]? = some (rB b vs)) (hu : Upd b w w') (hB : Blk w' b us) : Sep w0 w' (R.set i (rB b us)) := by
  have hl := h.lt i hi b (by simp [rB])
  refine h.step i hi hu.os hu.tape hu.output (Nat.le_of_eq hu.size.symm) (fun k _ hk => hu.far k (fun e => hk (by simp [rB, e]))) (rB b us) hB (fun k hk => ?_)
  simp only [rB, List.mem_singleton] at hk
  subst hk
  exact ⟨.inl (by simp [rB]), by rw [hu.size]; exact hl.2⟩
/-- a new struct, written at once -/
theorem Sep.fresh {w1 w2 : World} (h : Sep w0 w R) (hb : Below w.heap.size w w1) (hz : w1.heap.size = w.heap.size + 1) (hu : Upd w.heap.size w1 w2) {vs : List Value} (hB : Blk w2 w.heap.size vs) : Sep w0 w2 (rB w.heap.size vs :: R) :=
  h.box (hb.trans (hu.below (Nat.le_refl _))) (by rw [hu.size, hz]) hB
/-- a new row -/
theorem Sep.newrow {β : Type} {K : Kd β} {t : TypeId} {v : Value} {L : List β} (h : Sep w0 w R) (hb : Below w.heap.size w w') (hc : OR K t w' w.heap.size v L) : Sep w0 w' (rO K t w.heap.size v L :: R) :=
  h.push hb _ hc (fun k hk => hc.lt (mem_ob.1 hk))
/-- a row with nothing -/
theorem Sep.nilrow {β : Type} (K : Kd β) (t : TypeId) (base : Nat) (h : Sep w0 w R) : Sep w0 w (rO K t base (.slice none 0 0) [] :: R) :=
  h.push (Below.refl _ _) (rO K t base (.slice none 0 0) []) (OR.nil _ _ _) (fun k hk => by
    have h9 : Value.ownBlock (.slice none 0 0) = some k := mem_ob.1 hk
    cases h9)
/-- a row turns -/
theorem Sep.row {β : Type} {K : Kd β} {t : TypeId} {base : Nat} {v v' : Value} {L L' : List β} (h : Sep w0 w R) (i : Nat) (hi : R[i]? = some (rO K t base v L)) (hc : OR K t w' base v' L') (hg : w.grownBy w' v.ownBlock) (hn : Nw w v v') : Sep w0 w' (R.set i (rO K t base v' L')) := by
  refine h.step i hi hg.os hg.tape hg.output hg.size (fun k hk hm => hg.block k hk (fun e => hm (mem_ob.2 e.symm))) (rO K t base v' L') hc (fun k hk => ?_)
  have hk' := mem_ob.1 hk
  refine ⟨?_, (hc.lt hk').2⟩
  rcases hn with hn | hn
  · exact .inl (mem_ob.2 (by rw [← hn]; exact hk'))
  · exact .inr (hn k hk')
theorem Sep.blk (h : Sep w0 w R) (i : Nat) {b : Nat} {vs : List Value} (hi : R[i]? = some (rB b vs)) : Blk w b vs := h.get i hi
theorem Sep.or {β : Type} {K : Kd β} {t : TypeId} {base : Nat} {v : Value} {L : List β} (h : Sep w0 w R) (i : Nat) (hi : R[i]? = some (rO K t base v L)) : OR K t w base v L := h.get i hi
end

theorem Sep.perm {w0 w : World} {R R' : List Rg} (h : Sep w0 w R) (p : R.Perm R') : Sep w0 w R' :=
  ⟨h.under, fun r hr => h.each r (p.mem_iff.2 hr), (p.pairwise_iff (fun {r s} hrs k hk hk' => hrs k hk' hk)).1 h.disj⟩
end Go.Proofs.Ytkiaehehckmpnaa.Se
