/- What every law's frame leans on: arguments read behind the call as they did, where nothing that was there has turned. -/
import Derived.Test.YtkiaehehckmpnaaRows

import Derived.WalkKit

import Derived.ProofKit

import Derived.OpenShut

import Derived.ShutString

import Derived.SizedLaws

import Derived.ChangeOld

import Derived.Below

import Derived.Carry

namespace Go.Proofs.Ytkiaehehckmpnaa

open Go.ChangeShapes Go.WideShapes Go.ChangeAt Go.RowKit

set_option linter.unusedVariables false

theorem own : ownKnob Try.prog.godebug = none := by kernel_rfl
theorem laidOut : laidOutB Try.prog = true := by kernel_rfl

theorem trodAll_below {H : Type} {enc : TypeId × Value → H} {P : Program} (hl : laidOutB P = true) {W W' : World} (hb : Below W.heap.size W W') (ts : List TypeId) (vs : List Value) (ds : List (DataW H)) (ps : List MemPlace)
    (hr : (ts.all fun t => P.readableRec t && decide (t < P.types.size)) = true)
    (h : DataW.TrodAll enc P W 0 (fun _ => true) true ts vs ds ps) (hlt : ∀ x ∈ ps, x.block < W.heap.size) : DataW.TrodAll enc P W' 0 (fun b => decide (b < W.heap.size)) true ts vs ds ps := by
  induction ts generalizing vs ds ps with
  | nil =>
    obtain ⟨rfl, rfl, rfl⟩ := trodAll_nil h
    exact trodAll_mk0
  | cons t ts ih =>
    obtain ⟨v, vs', d, ds', p, q, rfl, rfl, rfl, h0, r0⟩ := trodAll_cons h
    rw [List.all_cons, Bool.and_eq_true] at hr
    have ht := hr.1
    rw [Bool.and_eq_true] at ht
    exact trodAll_cons_mk (Below.trod hl ht.1 (of_decide_eq_true ht.2) h0 hb (fun x hx => hlt x (List.mem_append.2 (.inl hx)))) (ih vs' ds' q hr.2 r0 (fun x hx => hlt x (List.mem_append.2 (.inr hx))))

/-- a slice of integers that came in: it has no room; or it leads to a row of 'cap' cells, the numbers 'zs' -/
def IsRow (k : IntKind) (w : World) (a : Option Addr) (len cap : Nat) (zs : List Int) : Prop :=
  (len = 0 ∧ cap = 0 ∧ zs = []) ∨
  ∃ b off, a = some ⟨b, off, none⟩ ∧ len ≤ cap ∧ 0 < cap ∧ zs.length = cap ∧ b < w.heap.size ∧ (∀ i, i < cap → w.cell? ⟨b, off + i, none⟩ = some (.int k (zs.getD i 0))) ∧ ∀ n ∈ zs, (Lit.int k n).wf = true
theorem addr_add (b off n : Nat) : (⟨b, off, none⟩ : Addr).add n = ⟨b, off + n, none⟩ := by
  unfold Addr.add; split <;> simp_all
theorem lits_length (k : IntKind) {H : Type} (l : List Int) : (lits (H := H) k l).length = l.length := by simp [lits]
theorem open_row_of {H : Type} {enc : TypeId × Value → H} {P : Program} {W : World} {T E : TypeId} {k : IntKind} {a : Option Addr} {len cap : Nat} {d : DataW H} {p : List MemPlace} (hu : P.underlying T = some (.slice E)) (he : P.underlying E = some (.int k)) (hc : P.cellsOf E = 1)
    (h : DataW.Trod enc P W 0 (fun _ => true) true T (.slice a len cap) d p) :
    ∃ zs, IsRow k W a len cap zs ∧ cap ≤ maxLen ∧ (cap = 0 ∨ ∃ es sp, d = .slice es sp ∧ es.length + sp.length = cap) := by
  obtain ⟨fuel, hf⟩ := h
  rcases open_ints hu he hc hf with ⟨hcs, _⟩ | ⟨x, l, c, zs, hcs, _, hl, hm, hz, hx, hcell, hwz⟩
  · simp [Value.cells] at hcs
    obtain ⟨rfl, rfl, rfl⟩ := hcs
    exact ⟨[], .inl ⟨rfl, rfl, rfl⟩, by unfold maxLen; omega, .inl rfl⟩
  · simp [Value.cells] at hcs
    obtain ⟨rfl, rfl, rfl⟩ := hcs
    have hz' : zs.length = cap := by simpa using hz
    by_cases h0 : cap = 0
    · subst h0
      obtain rfl : zs = [] := List.eq_nil_of_length_eq_zero hz'
      obtain rfl : len = 0 := by omega
      exact ⟨[], .inl ⟨rfl, rfl, rfl⟩, hm, .inl rfl⟩
    · obtain ⟨b, off, spot⟩ := x
      have hspot : spot = none := by simpa [Addr.add] using World.cell?_spot (hcell 0 (by omega))
      subst hspot
      have hb : b < W.heap.size := by
        have h1 := hcell 0 (by omega)
        exact World.block_lt_of_cell? W _ h1
      refine ⟨zs, .inr ⟨b, off, rfl, hl, by omega, hz', hb, ?_, hwz⟩, hm, .inr ⟨_, _, (Prod.mk.inj hx).1, ?_⟩⟩
      · intro i hi
        have := hcell i (by omega)
        rwa [addr_add] at this
      · rw [lits_length, lits_length, List.length_take, List.length_drop]; omega
end Go.Proofs.Ytkiaehehckmpnaa
