/- Vectors by their parts and deeds, many, that came in. -/
import Derived.Test.YtkiaehehckmpnaaFramePuts

import Derived.Test.YtkiaehehckmpnaaFrameVecN

import Derived.Test.YtkiaehehckmpnaaRowGen

import Derived.Deep.Slices

namespace Go.Proofs.Ytkiaehehckmpnaa

open Go.ChangeShapes Go.WideShapes Go.ChangeAt Go.RowKit Go.Deep Go.Proofs.Ytkiaehehckmpnaa.It Go.Proofs.Ytkiaehehckmpnaa.Rw

set_option linter.unusedVariables false

set_option maxRecDepth 100000

section

variable {H : Type} {enc : TypeId × Value → H} {W : World}

/-- structs of one kind, many -/
theorem rows_cells {β : Type} {K : Kd β} {Ok : β → Prop} {T E : TypeId} (hu : Try.prog.underlying T = some (.slice E)) (hk : Try.prog.cellsOf E = K.k)
    (hE : ∀ m (y : DataW H × List MemPlace) cs, cs.length = K.k → DataW.trod enc Try.prog W 0 (fun _ => true) true m E cs = some y → Sz E y.1 → ∃ x, cs = K.cf x ∧ Ok x)
    {m : Nat} {y : DataW H × List MemPlace} {c : Value} (h : DataW.trod enc Try.prog W 0 (fun _ => true) true m T [c] = some y) (hs : Sz T y.1) : ∃ L, IsR K W c L ∧ ∀ x ∈ L, Ok x := by
  rcases open_slice hu h with ⟨hcs, _⟩ | ⟨x, len, cap, mm, n, D, Pl, hcs, hb, hl, hm, hmm, rfl, hall⟩
  · simp only [List.cons.injEq, and_true] at hcs
    subst hcs
    exact ⟨[], ⟨none, 0, rfl, Nat.le_refl _, by unfold maxLen; omega, fun h => absurd rfl h⟩, fun p hp => by cases hp⟩
  · simp only [List.cons.injEq, and_true] at hcs
    subst hcs
    simp only [if_true] at hmm
    subst hmm
    have each : ∀ i, i < len → ∃ p : β, Ok p ∧ ∀ j v, (K.cf p)[j]? = some v → W.cell? (x.add (i * K.k + j)) = some v := by
      intro i hi
      obtain ⟨cs', h1, h2⟩ := hall i (by omega)
      rw [hk] at h1
      obtain ⟨_, hlen, hcell⟩ := World.cells?_some h1
      obtain ⟨p, e, hok⟩ := hE _ _ cs' hlen h2 (Sz.elem hu hs (i := i) (by simp [hi]))
      refine ⟨p, hok, fun j v hv => ?_⟩
      rw [← e] at hv
      obtain ⟨hj, he⟩ := List.getElem?_eq_some_iff.1 hv
      have := hcell j (by rw [← hlen]; exact hj)
      rw [add_add] at this
      rw [this]
      exact hv
    haveI : Inhabited β := ⟨K.none_⟩
    obtain ⟨q, hq⟩ := choose_lt each
    obtain ⟨b, off, spot⟩ := x
    refine ⟨(List.range len).map q, ⟨some ⟨b, off, spot⟩, mm, by simp, by simpa using hl, hm, fun hn => ?_⟩, fun p hp => ?_⟩
    · have h0 : 0 < len := by
        rcases Nat.eq_zero_or_pos len with h | h
        · subst h; exact absurd rfl hn
        · exact h
      obtain ⟨v0, hv0⟩ : ∃ v, (K.cf (q 0))[0]? = some v := ⟨_, List.getElem?_eq_getElem (by rw [K.len]; exact K.pos)⟩
      have h00 := (hq 0 h0).2 0 _ hv0
      have hspot : spot = none := by simpa [Addr.add] using World.cell?_spot h00
      subst hspot
      have hbl : b < W.heap.size := by
        have := World.block_lt_of_cell? W _ h00
        simpa [Addr.add] using this
      refine ⟨b, off, rfl, hbl, fun i z hz j v hv => ?_⟩
      have hi : i < len := by have := (List.getElem?_eq_some_iff.1 hz).1; simpa using this
      have hz' : q i = z := by
        rw [List.getElem?_map, List.getElem?_range hi] at hz
        simpa using hz
      rw [← hz'] at hv
      have := (hq i hi).2 j v hv
      rw [addr_add] at this
      rw [← this]
      congr 2
      rw [Nat.mul_comm]
      omega
    · obtain ⟨i, hi, rfl⟩ := List.mem_map.1 hp
      exact (hq i (List.mem_range.1 hi)).1
end

/-- a vector by its parts, in a row -/
abbrev Vp := List Nat × Bool
def vpcell (x : Vp) : List Value := [.int .u64 ((x.1.getD 0 0 : Nat) : Int), .int .u64 ((x.1.getD 1 0 : Nat) : Int), .int .u64 ((x.1.getD 2 0 : Nat) : Int), .int .u64 ((x.1.getD 3 0 : Nat) : Int), .bool x.2]
def vpk : Kd Vp where
  cf := vpcell
  k := 5
  pos := by decide
  len x := rfl
  one x u hu := by
    simp only [vpcell, List.mem_cons, List.not_mem_nil, or_false] at hu
    rcases hu with rfl | rfl | rfl | rfl | rfl <;> rfl
  none_ := (V.zeros, false)
theorem vpcell_eq {l : List Nat} {own : Bool} (h : l.length = 4) : vpcell (l, own) = ks .u64 l ++ [Value.bool own] := by obtain ⟨x, y, z, t, rfl⟩ := V.four h; rfl
theorem cells_vp5 : Try.prog.cellsOf 27 = 5 := by kernel_rfl
theorem open_vectors {H : Type} {enc : TypeId × Value → H} {W : World} {a : Option Addr} {len cap : Nat} {d : DataW H} {p : List MemPlace}
    (h : DataW.Trod enc Try.prog W 0 (fun _ => true) true 80 (.slice a len cap) d p) (hs : Sz 80 d) : ∃ L, IsR vpk W (.slice a len cap) L ∧ ∀ x ∈ L, V.Ok x.1 := by
  obtain ⟨fuel, hf⟩ := h
  refine rows_cells (K := vpk) (Ok := fun x => V.Ok x.1) Try.underlying80 cells_vp5 (fun m y cs hl ht _ => ?_) hf hs
  match cs, hl with
  | [c0, c1, c2, c3, c4], _ =>
    cases m with
    | zero => simp [DataW.trod] at ht
    | succ m =>
      obtain ⟨l, own, e, hok⟩ := vec_cells c0 c1 c2 c3 c4 ht
      exact ⟨(l, own), e.trans (vpcell_eq hok.len).symm, hok⟩
/-- bytes, in a row -/
def u8k : Kd Nat where
  cf x := [.int .u8 (x : Int)]
  k := 1
  pos := by decide
  len x := rfl
  one x u hu := by
    simp only [List.mem_cons, List.not_mem_nil, or_false] at hu
    rcases hu with rfl; rfl
  none_ := 0
theorem open_u8s {H : Type} {enc : TypeId × Value → H} {W : World} {a : Option Addr} {len cap : Nat} {d : DataW H} {p : List MemPlace}
    (h : DataW.Trod enc Try.prog W 0 (fun _ => true) true 84 (.slice a len cap) d p) (hs : Sz 84 d) : ∃ L, IsR u8k W (.slice a len cap) L ∧ ∀ x ∈ L, x < 256 := by
  obtain ⟨fuel, hf⟩ := h
  refine rows_cells (K := u8k) (Ok := fun x => x < 256) Try.underlying84 cells_u1 (fun m y cs hl ht _ => ?_) hf hs
  match cs, hl with
  | [c0], _ =>
    obtain ⟨k, e0, _, wk⟩ := DataW.trod_int Try.underlying5 ht
    simp only [List.cons.injEq, and_true] at e0
    subst e0
    have hk : 0 ≤ k ∧ k ≤ 255 := by simpa [Lit.wf, IntKind.min, IntKind.max, IntKind.signed, IntKind.bits] using wk
    obtain ⟨K, rfl⟩ : ∃ K : Nat, k = (K : Int) := ⟨k.toNat, by omega⟩
    exact ⟨K, rfl, by omega⟩
/-- a deed -/
structure Dd where
  kind : Nat
  id : Int
  v : Vp
  p : I.Pt
  near : Bool
structure DOk (x : Dd) : Prop where
  kind : x.kind < 256
  id : (Lit.int .i64 x.id).wf = true
  v : V.Ok x.v.1
  p : I.POk x.p
def dcell (x : Dd) : List Value := [.int .u8 (x.kind : Int), .int .i64 x.id, .int .u64 ((x.v.1.getD 0 0 : Nat) : Int), .int .u64 ((x.v.1.getD 1 0 : Nat) : Int), .int .u64 ((x.v.1.getD 2 0 : Nat) : Int), .int .u64 ((x.v.1.getD 3 0 : Nat) : Int), .bool x.v.2, .string x.p.1.1, .string x.p.1.2.1, .string x.p.1.2.2.1, .bool x.p.1.2.2.2, .bool x.p.2.1, .int .u8 (x.p.2.2 : Int), .bool x.near]
def ddk : Kd Dd where
  cf := dcell
  k := 14
  pos := by decide
  len x := rfl
  one x u hu := by
    simp only [dcell, List.mem_cons, List.not_mem_nil, or_false] at hu
    rcases hu with rfl | rfl | rfl | rfl | rfl | rfl | rfl | rfl | rfl | rfl | rfl | rfl | rfl | rfl <;> rfl
  none_ := ⟨0, 0, (V.zeros, false), (I.none_, false, 0), false⟩
theorem cells_dd14 : Try.prog.cellsOf 45 = 14 := by kernel_rfl
theorem cells_i1 : Try.prog.cellsOf 3 = 1 := by kernel_rfl
theorem open_deeds {H : Type} {enc : TypeId × Value → H} {W : World} {a : Option Addr} {len cap : Nat} {d : DataW H} {p : List MemPlace}
    (h : DataW.Trod enc Try.prog W 0 (fun _ => true) true 22 (.slice a len cap) d p) (hs : Sz 22 d) : ∃ L, IsR ddk W (.slice a len cap) L ∧ ∀ x ∈ L, DOk x := by
  obtain ⟨fuel, hf⟩ := h
  refine rows_cells (K := ddk) (Ok := DOk) Try.underlying22 cells_dd14 (fun m y cs hl ht hz => ?_) hf hs
  match cs, hl with
  | [c0, c1, c2, c3, c4, c5, c6, c7, c8, c9, c10, c11, c12, c13], _ =>
    obtain ⟨xs, n, _, rfl, hl, hlen, hf⟩ := DataW.trod_struct Try.underlying45 ht
    match xs, hlen with
    | [x0, x1, x2, x3, x4], _ =>
      have t0 := hf 0 _ rfl
      have t1 := hf 1 _ rfl
      have t2 := hf 2 _ rfl
      have t3 := hf 3 _ rfl
      have t4 := hf 4 _ rfl
      have t0 : DataW.trod enc Try.prog W 0 (fun _ => true) true n 5 (([c0, c1, c2, c3, c4, c5, c6, c7, c8, c9, c10, c11, c12, c13].drop 0).take (Try.prog.cellsOf 5)) = some x0 := by simpa using t0
      have t1 : DataW.trod enc Try.prog W 0 (fun _ => true) true n 3 (([c0, c1, c2, c3, c4, c5, c6, c7, c8, c9, c10, c11, c12, c13].drop 1).take (Try.prog.cellsOf 3)) = some x1 := by simpa using t1
      have t2 : DataW.trod enc Try.prog W 0 (fun _ => true) true n 27 (([c0, c1, c2, c3, c4, c5, c6, c7, c8, c9, c10, c11, c12, c13].drop 2).take (Try.prog.cellsOf 27)) = some x2 := by simpa using t2
      have t3 : DataW.trod enc Try.prog W 0 (fun _ => true) true n 43 (([c0, c1, c2, c3, c4, c5, c6, c7, c8, c9, c10, c11, c12, c13].drop 7).take (Try.prog.cellsOf 43)) = some x3 := by simpa using t3
      have t4 : DataW.trod enc Try.prog W 0 (fun _ => true) true n 4 (([c0, c1, c2, c3, c4, c5, c6, c7, c8, c9, c10, c11, c12, c13].drop 13).take (Try.prog.cellsOf 4)) = some x4 := by simpa using t4
      rw [cells_u1] at t0
      rw [cells_i1] at t1
      rw [cells_vp5] at t2
      rw [cells_p6] at t3
      rw [cells_b1] at t4
      simp only [List.drop, List.take] at t0 t1 t2 t3 t4
      obtain ⟨k, e0, _, wk⟩ := DataW.trod_int Try.underlying5 t0
      obtain ⟨id, e1, _, wi⟩ := DataW.trod_int Try.underlying3 t1
      obtain ⟨g, e4, _⟩ := DataW.trod_bool Try.underlying4 t4
      obtain ⟨P, e3, hp⟩ := put_cells c7 c8 c9 c10 c11 c12 t3 (Sz.part Try.underlying45 hz (j := 3) rfl rfl)
      cases n with
      | zero => simp [DataW.trod] at t2
      | succ n =>
        obtain ⟨l, own, e2, hok⟩ := vec_cells c2 c3 c4 c5 c6 t2
        rw [← vpcell_eq hok.len] at e2
        simp only [List.cons.injEq, and_true] at e0 e1 e4
        subst e0
        subst e1
        subst e4
        have hk : 0 ≤ k ∧ k ≤ 255 := by simpa [Lit.wf, IntKind.min, IntKind.max, IntKind.signed, IntKind.bits] using wk
        obtain ⟨K, rfl⟩ : ∃ K : Nat, k = (K : Int) := ⟨k.toNat, by omega⟩
        refine ⟨⟨K, id, (l, own), P, g⟩, ?_, ⟨by show K < 256; omega, wi, hok, hp⟩⟩
        obtain ⟨⟨pb, pk, pv, pg⟩, po, pK⟩ := P
        simp only [vpcell, List.cons.injEq, and_true] at e2
        simp only [pc, wc, List.cons_append, List.nil_append, List.cons.injEq, and_true] at e3
        obtain ⟨rfl, rfl, rfl, rfl, rfl⟩ := e2
        obtain ⟨rfl, rfl, rfl, rfl, rfl, rfl⟩ := e3
        rfl
end Go.Proofs.Ytkiaehehckmpnaa
