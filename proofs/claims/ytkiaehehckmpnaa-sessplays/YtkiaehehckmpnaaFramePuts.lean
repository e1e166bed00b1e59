/- Puts, and lists of puts, that came in. -/
import Derived.Test.YtkiaehehckmpnaaFrameNum

import Derived.Test.YtkiaehehckmpnaaWtOf

import Derived.Deep.Slices

import Derived.SizedLaws

namespace Go.Proofs.Ytkiaehehckmpnaa

open Go.ChangeShapes Go.WideShapes Go.ChangeAt Go.RowKit Go.Deep Go.Proofs.Ytkiaehehckmpnaa.It

set_option linter.unusedVariables false

set_option maxRecDepth 100000

/-- each weight of a datum is in reach -/
def Sz {H : Type} (t : TypeId) (d : DataW H) : Prop := ∀ n ∈ d.weights Try.prog t, n ≤ 140737488351232
theorem Sz.arg {H : Type} {ts : List TypeId} {ds : List (DataW H)} (h : (DataW.weightsEach Try.prog ts ds).all (· ≤ reachBytes) = true) {j : Nat} {t : TypeId} {d : DataW H} (ht : ts[j]? = some t) (hd : ds[j]? = some d) : Sz t d := fun n hn => by
  have := List.all_eq_true.1 h n (DataW.weights_mem_each ht hd n hn)
  exact of_decide_eq_true this
theorem Sz.part {H : Type} {t : TypeId} {fs : Array Field} (hu : Try.prog.underlying t = some (.struct fs)) {parts : List (DataW H)} (h : Sz t (.agg parts)) {j : Nat} {f : Field} {d : DataW H} (hf : fs[j]? = some f) (hd : parts[j]? = some d) : Sz f.type d := fun n hn => h n (by
  have e : DataW.weights Try.prog t (.agg parts) = DataW.weightsEach Try.prog (fs.toList.map (·.type)) parts := by simp [DataW.weights, hu]
  rw [e]
  exact DataW.weights_mem_each (j := j) (by simp [hf]) hd n hn)
theorem weightsAll_mem {H : Type} {e : TypeId} : ∀ {ds : List (DataW H)} {i : Nat} {d : DataW H}, ds[i]? = some d → ∀ n ∈ d.weights Try.prog e, n ∈ DataW.weightsAll Try.prog e ds
  | d0 :: ds, 0, d, hd, n, hn => by
    simp only [List.getElem?_cons_zero, Option.some.injEq] at hd
    subst hd
    simp only [DataW.weightsAll, List.mem_append]
    exact Or.inl hn
  | d0 :: ds, i + 1, d, hd, n, hn => by
    simp only [List.getElem?_cons_succ] at hd
    simp only [DataW.weightsAll, List.mem_append]
    exact Or.inr (weightsAll_mem hd n hn)
  | [], _, _, hd, _, _ => by simp at hd
theorem Sz.elem {H : Type} {t e : TypeId} (hu : Try.prog.underlying t = some (.slice e)) {elems spare : List (DataW H)} (h : Sz t (.slice elems spare)) {i : Nat} {d : DataW H} (hd : elems[i]? = some d) : Sz e d := fun n hn => h n (by
  have e : DataW.weights Try.prog t (.slice elems spare) = (elems.length + spare.length) * Try.prog.bytesOf e :: (DataW.weightsAll Try.prog e elems ++ DataW.weightsAll Try.prog e spare) := by simp [DataW.weights, hu]
  rw [e]
  exact List.mem_cons_of_mem _ (List.mem_append.2 (Or.inl (weightsAll_mem hd n hn))))
theorem Sz.str {H : Type} {t : TypeId} {bytes : List UInt8} (h : Sz (H := H) t (.lit (.string bytes))) : bytes.length ≤ 140737488351232 := h _ (by simp [DataW.weights])
theorem cells_s1 : Try.prog.cellsOf 9 = 1 := by kernel_rfl
theorem cells_u1 : Try.prog.cellsOf 5 = 1 := by kernel_rfl
theorem cells_w4 : Try.prog.cellsOf 41 = 4 := by kernel_rfl
theorem cells_b1 : Try.prog.cellsOf 4 = 1 := by kernel_rfl
theorem cells_l1 : Try.prog.cellsOf 75 = 1 := by kernel_rfl
theorem cells_p6 : Try.prog.cellsOf 43 = 6 := by kernel_rfl
section

variable {H : Type} {enc : TypeId × Value → H} {W : World} {m : Nat} {sp : Nat → Bool} {held : Bool} {y : DataW H × List MemPlace}

theorem str_cell {t : TypeId} (ht : Try.prog.underlying t = some .string) {c : Value} (h : DataW.trod enc Try.prog W 0 sp held m t [c] = some y) (hs : Sz t y.1) : ∃ s : ByteArray, c = .string s ∧ s.size ≤ 140737488355328 := by
  obtain ⟨s, e, rfl, _⟩ := DataW.trod_string ht h
  simp only [List.cons.injEq, and_true] at e
  have := Sz.str hs
  rw [P.len_list] at this
  exact ⟨s, e, by omega⟩
theorem write_cells (c0 c1 c2 c3 : Value) (h : DataW.trod enc Try.prog W 0 sp held m 41 [c0, c1, c2, c3] = some y) (hs : Sz 41 y.1) : ∃ x : I.Wt, [c0, c1, c2, c3] = wc x ∧ I.Ok x := by
  obtain ⟨xs, n, _, rfl, hl, hlen, hf⟩ := DataW.trod_struct Try.underlying41 h
  match xs, hlen with
  | [x0, x1, x2, x3], _ =>
    have t0 : DataW.trod enc Try.prog W 0 sp held n 9 (([c0, c1, c2, c3].drop 0).take (Try.prog.cellsOf 9)) = some x0 := by simpa using hf 0 _ rfl
    have t1 : DataW.trod enc Try.prog W 0 sp held n 9 (([c0, c1, c2, c3].drop 1).take (Try.prog.cellsOf 9)) = some x1 := by simpa using hf 1 _ rfl
    have t2 : DataW.trod enc Try.prog W 0 sp held n 9 (([c0, c1, c2, c3].drop 2).take (Try.prog.cellsOf 9)) = some x2 := by simpa using hf 2 _ rfl
    have t3 : DataW.trod enc Try.prog W 0 sp held n 4 (([c0, c1, c2, c3].drop 3).take (Try.prog.cellsOf 4)) = some x3 := by simpa using hf 3 _ rfl
    rw [cells_s1] at t0 t1 t2
    rw [cells_b1] at t3
    simp only [List.drop, List.take] at t0 t1 t2 t3
    obtain ⟨b, rfl, hb⟩ := str_cell Try.underlying9 t0 (Sz.part Try.underlying41 hs (j := 0) rfl rfl)
    obtain ⟨k, rfl, hk⟩ := str_cell Try.underlying9 t1 (Sz.part Try.underlying41 hs (j := 1) rfl rfl)
    obtain ⟨v, rfl, hv⟩ := str_cell Try.underlying9 t2 (Sz.part Try.underlying41 hs (j := 2) rfl rfl)
    obtain ⟨g, e3, _⟩ := DataW.trod_bool Try.underlying4 t3
    simp only [List.cons.injEq, and_true] at e3
    subst e3
    exact ⟨(b, k, v, g), rfl, ⟨hb, hk, hv⟩⟩
theorem put_cells (c0 c1 c2 c3 c4 c5 : Value) (h : DataW.trod enc Try.prog W 0 sp held m 43 [c0, c1, c2, c3, c4, c5] = some y) (hs : Sz 43 y.1) : ∃ p : I.Pt, [c0, c1, c2, c3, c4, c5] = pc p ∧ I.POk p := by
  obtain ⟨xs, n, _, rfl, hl, hlen, hf⟩ := DataW.trod_struct Try.underlying43 h
  match xs, hlen with
  | [x0, x1, x2], _ =>
    have t0 : DataW.trod enc Try.prog W 0 sp held n 41 (([c0, c1, c2, c3, c4, c5].drop 0).take (Try.prog.cellsOf 41)) = some x0 := by simpa using hf 0 _ rfl
    have t1 : DataW.trod enc Try.prog W 0 sp held n 4 (([c0, c1, c2, c3, c4, c5].drop 4).take (Try.prog.cellsOf 4)) = some x1 := by simpa using hf 1 _ rfl
    have t2 : DataW.trod enc Try.prog W 0 sp held n 5 (([c0, c1, c2, c3, c4, c5].drop 5).take (Try.prog.cellsOf 5)) = some x2 := by simpa using hf 2 _ rfl
    rw [cells_w4] at t0
    rw [cells_b1] at t1
    rw [cells_u1] at t2
    simp only [List.drop, List.take] at t0 t1 t2
    obtain ⟨x, e, hx⟩ := write_cells c0 c1 c2 c3 t0 (Sz.part Try.underlying43 hs (j := 0) rfl rfl)
    obtain ⟨g, e1, _⟩ := DataW.trod_bool Try.underlying4 t1
    obtain ⟨k, e2, _, wk⟩ := DataW.trod_int Try.underlying5 t2
    simp only [List.cons.injEq, and_true] at e1 e2
    subst e1
    subst e2
    have hk : 0 ≤ k ∧ k ≤ 255 := by simpa [Lit.wf, IntKind.min, IntKind.max, IntKind.signed, IntKind.bits] using wk
    obtain ⟨K, rfl⟩ : ∃ K : Nat, k = (K : Int) := ⟨k.toNat, by omega⟩
    refine ⟨(x, g, K), ?_, hx, by show K < 256; omega⟩
    unfold pc
    rw [← e]
    rfl
theorem puts_cells {c : Value} (h : DataW.trod enc Try.prog W 0 (fun _ => true) held m 75 [c] = some y) (hs : Sz 75 y.1) : ∃ L, IsPs W c L ∧ ∀ p ∈ L, I.POk p := by
  rcases open_slice Try.underlying75 h with ⟨hcs, _⟩ | ⟨x, len, cap, mm, n, D, Pl, hcs, hb, hl, hm, hmm, rfl, hall⟩
  · simp only [List.cons.injEq, and_true] at hcs
    subst hcs
    exact ⟨[], ⟨none, 0, rfl, Nat.le_refl _, by unfold maxLen; omega, fun h => absurd rfl h⟩, fun p hp => by cases hp⟩
  · simp only [List.cons.injEq, and_true] at hcs
    subst hcs
    simp only [if_true] at hmm
    subst hmm
    have each : ∀ i, i < len → ∃ p : I.Pt, I.POk p ∧ ∀ j v, (pc p)[j]? = some v → W.cell? (x.add (i * 6 + j)) = some v := by
      intro i hi
      obtain ⟨cs', h1, h2⟩ := hall i (by omega)
      rw [cells_p6] at h1
      obtain ⟨_, hlen, hcell⟩ := World.cells?_some h1
      match cs', hlen with
      | [c0, c1, c2, c3, c4, c5], _ =>
        obtain ⟨p, e, hok⟩ := put_cells c0 c1 c2 c3 c4 c5 h2 (Sz.elem Try.underlying75 hs (i := i) (by simp [hi]))
        refine ⟨p, hok, fun j v hv => ?_⟩
        rw [← e] at hv
        obtain ⟨hj, he⟩ := List.getElem?_eq_some_iff.1 hv
        have := hcell j hj
        rw [add_add] at this
        rw [this]
        exact hv
    obtain ⟨q, hq⟩ := choose_lt each
    obtain ⟨b, off, spot⟩ := x
    refine ⟨(List.range len).map q, ⟨some ⟨b, off, spot⟩, mm, by simp, by simpa using hl, hm, fun hn => ?_⟩, fun p hp => ?_⟩
    · have h0 : 0 < len := by
        rcases Nat.eq_zero_or_pos len with h | h
        · subst h; exact absurd rfl hn
        · exact h
      have h00 := (hq 0 h0).2 0 _ rfl
      have hspot : spot = none := by simpa [Addr.add] using World.cell?_spot h00
      subst hspot
      have hbl : b < W.heap.size := World.block_lt_of_cell? W _ h00
      refine ⟨b, off, rfl, hbl, fun i z hz j v hv => ?_⟩
      have hi : i < len := by have := (List.getElem?_eq_some_iff.1 hz).1; simpa using this
      have hz' : q i = z := by
        rw [List.getElem?_map, List.getElem?_range hi] at hz
        simpa using hz
      rw [← hz'] at hv
      have := (hq i hi).2 j v hv
      rw [addr_add] at this
      rw [← this]
      congr 2
      omega
    · obtain ⟨i, hi, rfl⟩ := List.mem_map.1 hp
      exact (hq i (List.mem_range.1 hi)).1
end

/-- one list of those that came in: where it lies, its puts -/
structure Pl where
  v : Value
  L : List I.Pt
deriving Inhabited
structure PlOk (w : World) (x : Pl) : Prop where
  is : IsPs w x.v x.L
  ok : ∀ p ∈ x.L, I.POk p
/-- lists in a row -/
def IsPls (w : World) (v : Value) (L : List Pl) : Prop :=
  ∃ a cap, v = .slice a L.length cap ∧ L.length ≤ cap ∧ cap ≤ maxLen ∧ (L ≠ [] → ∃ b off, a = some ⟨b, off, none⟩ ∧ b < w.heap.size ∧ ∀ i x, L[i]? = some x → w.cell? ⟨b, off + i, none⟩ = some x.v)
section

variable {H : Type} {enc : TypeId × Value → H} {W : World} {m : Nat} {y : DataW H × List MemPlace}

end

theorem open_puts {H : Type} {enc : TypeId × Value → H} {W : World} {a : Option Addr} {len cap : Nat} {d : DataW H} {p : List MemPlace}
    (h : DataW.Trod enc Try.prog W 0 (fun _ => true) true 75 (.slice a len cap) d p) (hs : Sz 75 d) : ∃ L, IsPs W (.slice a len cap) L ∧ ∀ x ∈ L, I.POk x := by
  obtain ⟨fuel, hf⟩ := h
  exact puts_cells hf hs
theorem IsPls.at {w : World} {v : Value} {L : List Pl} (h : IsPls w v L) (i : Nat) (hi : i < L.length) : ∃ b off cap x, v = .slice (some ⟨b, off, none⟩) L.length cap ∧ b < w.heap.size ∧ L[i]? = some x ∧ w.cell? ⟨b, off + i, none⟩ = some x.v := by
  obtain ⟨a, cap, hv, h1, h2, h3⟩ := h
  obtain ⟨b, off, ha, hlt, hW⟩ := h3 (by intro e; subst e; simp at hi)
  exact ⟨b, off, cap, L[i], by rw [hv, ha], hlt, List.getElem?_eq_getElem hi, hW i _ (List.getElem?_eq_getElem hi)⟩
end Go.Proofs.Ytkiaehehckmpnaa
