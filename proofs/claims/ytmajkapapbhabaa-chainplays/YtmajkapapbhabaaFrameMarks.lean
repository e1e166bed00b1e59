/- Stamps by their parts, many, and deeds, that came in. -/
import Derived.Test.YtmajkapapbhabaaFrameMark

import Derived.Test.YtmajkapapbhabaaFrameVecN

import Derived.Test.YtmajkapapbhabaaSep

import Derived.Deep.Slices

namespace Go.Proofs.Ytmajkapapbhabaa

open Go.ChangeShapes Go.WideShapes Go.ChangeAt Go.RowKit Go.Deep Go.Proofs.Ytmajkapapbhabaa.Sp Go.Proofs.Ytmajkapapbhabaa.Rw

set_option linter.unusedVariables false

set_option maxRecDepth 100000

/-- a stamp by its parts, in a row -/
abbrev Mk := C.St × Bool
def mcell (x : Mk) : List Value := [.int .u64 ((x.1.1.getD 0 0 : Nat) : Int), .int .u64 ((x.1.1.getD 1 0 : Nat) : Int), .int .u64 ((x.1.1.getD 2 0 : Nat) : Int), .int .u64 ((x.1.1.getD 3 0 : Nat) : Int), .int .i64 x.1.2, .bool x.2]
def mkd : Kd Mk where
  cf := mcell
  k := 6
  pos := by decide
  len x := rfl
  one x u hu := by
    simp only [mcell, List.mem_cons, List.not_mem_nil, or_false] at hu
    rcases hu with rfl | rfl | rfl | rfl | rfl | rfl <;> rfl
  none_ := ((V.zeros, 0), false)
structure MOk (x : Mk) : Prop where
  v : V.Ok x.1.1
  d : (Lit.int .i64 x.1.2).wf = true
theorem mcell_eq {l : List Nat} {d : Int} {own : Bool} (h : l.length = 4) : mcell ((l, d), own) = (ks .u64 l ++ [Value.int .i64 d]) ++ [Value.bool own] := by obtain ⟨x, y, z, t, rfl⟩ := V.four h; rfl
theorem mval {x : Mk} (h : x.1.1.length = 4) : mkd.val x = MV x.1.1 x.1.2 x.2 := by
  obtain ⟨⟨l, d⟩, own⟩ := x
  show Value.agg (mcell ((l, d), own)).toArray = _
  rw [mcell_eq h, MV, List.append_assoc]
  rfl
theorem cells_mk6 : Try.prog.cellsOf 36 = 6 := by kernel_rfl
section

variable {H : Type} {enc : TypeId × Value → H} {W : World} {m : Nat} {sp : Nat → Bool} {held : Bool} {y : DataW H × List MemPlace}

theorem marks_cells {c : Value} (h : DataW.trod enc Try.prog W 0 (fun _ => true) held m 65 [c] = some y) : ∃ L, IsR mkd W c L ∧ ∀ x ∈ L, MOk x := by
  rcases open_slice Try.underlying65 h with ⟨hcs, _⟩ | ⟨x, len, cap, mm, n, D, Pl, hcs, hb, hl, hm, hmm, rfl, hall⟩
  · simp only [List.cons.injEq, and_true] at hcs
    subst hcs
    exact ⟨[], ⟨none, 0, rfl, Nat.le_refl _, by unfold maxLen; omega, fun h => absurd rfl h⟩, fun p hp => by cases hp⟩
  · simp only [List.cons.injEq, and_true] at hcs
    subst hcs
    simp only [if_true] at hmm
    subst hmm
    have each : ∀ i, i < len → ∃ p : Mk, MOk p ∧ ∀ j v, (mcell p)[j]? = some v → W.cell? (x.add (i * 6 + j)) = some v := by
      intro i hi
      obtain ⟨cs', h1, h2⟩ := hall i (by omega)
      rw [cells_mk6] at h1
      obtain ⟨_, hlen, hcell⟩ := World.cells?_some h1
      match cs', hlen with
      | [c0, c1, c2, c3, c4, c5], _ =>
        cases n with
        | zero => simp [DataW.trod] at h2
        | succ n =>
          obtain ⟨l, d, own, e, hok, hd⟩ := mark_cells c0 c1 c2 c3 c4 c5 h2
          refine ⟨((l, d), own), ⟨hok, hd⟩, fun j v hv => ?_⟩
          rw [mcell_eq hok.len, ← e] at hv
          obtain ⟨hj, he⟩ := List.getElem?_eq_some_iff.1 hv
          have := hcell j hj
          rw [add_add] at this
          rw [this]
          exact hv
    obtain ⟨q, hq⟩ := choose_lt each
    obtain ⟨b, off, spot⟩ := x
    refine ⟨(List.range len).map q, ⟨some ⟨b, off, spot⟩, mm, by simp, by simpa using hl, hm, fun hn => ?_⟩, fun p hp => ?_⟩
    · have h0 : 0 < len := by
        rcases Nat.eq_zero_or_pos len with h | h
        · subst h; exact absurd rfl hn
        · exact h
      have h00 := (hq 0 h0).2 0 _ rfl
      have hspot : spot = none := by simpa [Addr.add] using World.cell?_spot h00
      subst hspot
      have hbl : b < W.heap.size := World.block_lt_of_cell? W _ h00
      refine ⟨b, off, rfl, hbl, fun i z hz j v hv => ?_⟩
      have hi : i < len := by have := (List.getElem?_eq_some_iff.1 hz).1; simpa using this
      have hz' : q i = z := by
        rw [List.getElem?_map, List.getElem?_range hi] at hz
        simpa using hz
      rw [← hz'] at hv
      have := (hq i hi).2 j v hv
      rw [addr_add] at this
      rw [← this]
      congr 2
      show off + 6 * i + j = _
      omega
    · obtain ⟨i, hi, rfl⟩ := List.mem_map.1 hp
      exact (hq i (List.mem_range.1 hi)).1
end

theorem open_marks {H : Type} {enc : TypeId × Value → H} {W : World} {a : Option Addr} {len cap : Nat} {d : DataW H} {p : List MemPlace}
    (h : DataW.Trod enc Try.prog W 0 (fun _ => true) true 65 (.slice a len cap) d p) : ∃ L, IsR mkd W (.slice a len cap) L ∧ ∀ x ∈ L, MOk x := by
  obtain ⟨fuel, hf⟩ := h
  exact marks_cells hf
end Go.Proofs.Ytmajkapapbhabaa
