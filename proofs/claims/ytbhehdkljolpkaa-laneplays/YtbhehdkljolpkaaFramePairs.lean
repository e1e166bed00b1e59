/- To open a struct of two cells by value, and a slice of structs of two cells, that came in. -/
import Derived.Test.YtbhehdkljolpkaaFrame
import Derived.Deep.SlicePairs
namespace Go.Proofs.Ytbhehdkljolpkaa
open Go.ChangeShapes Go.WideShapes Go.ChangeAt Go.RowKit Go.Deep
set_option linter.unusedVariables false

/-- a struct of a text and a flag -/
theorem open_text_flag {H : Type} {enc : TypeId × Value → H} {P : Program} {W : World} {base : Nat} {T S B : TypeId} {f0 f1 : Field} {v : Value} {d : DataW H} {p : List MemPlace} (ht : P.underlying T = some (.struct #[f0, f1])) (hc : P.cellsOf T = 2)
    (e0 : f0.type = S) (e1 : f1.type = B) (o0 : f0.offset = 0) (o1 : f1.offset = 1) (hs : P.underlying S = some .string) (hb : P.underlying B = some .bool) (cs : P.cellsOf S = 1) (cb : P.cellsOf B = 1)
    (hval : Value.okWide P W .any base T v) (h : DataW.Trod enc P W 0 (fun _ => true) true T v d p) :
    ∃ s b, v = .agg #[.string s, .bool b] ∧ s.size ≤ maxLen := by
  obtain ⟨xs, rfl, hxs⟩ := okWide_struct ht hval
  obtain ⟨fuel, hf⟩ := h
  obtain ⟨y0, y1, n, _, _, t0, t1⟩ := trod_struct2 ht hf
  rw [hc] at hxs
  obtain ⟨l⟩ := xs
  match l, hxs with
  | [c0, c1], _ =>
    rw [e0, cs, o0] at t0
    rw [e1, cb, o1] at t1
    simp only [Value.cells, List.drop, List.take] at t0 t1
    obtain ⟨s, h1, _, h3⟩ := DataW.trod_string hs t0
    obtain ⟨b, h4, _⟩ := DataW.trod_bool hb t1
    simp only [List.cons.injEq, and_true] at h1 h4
    subst h1 h4
    exact ⟨s, b, rfl, h3⟩

/-- a slice of structs of two integers that came in: cell by cell -/
def IsPairs (k0 k1 : IntKind) (w : World) (a : Option Addr) (len : Nat) (X Y : Nat → Int) : Prop :=
  len = 0 ∨ ∃ b off, a = some ⟨b, off, none⟩ ∧ b < w.heap.size ∧ ∀ i, i < len → w.cell? ⟨b, off + i * 2, none⟩ = some (.int k0 (X i)) ∧ w.cell? ⟨b, off + i * 2 + 1, none⟩ = some (.int k1 (Y i)) ∧ (Lit.int k0 (X i)).wf = true ∧ (Lit.int k1 (Y i)).wf = true
theorem addr_add' (b off n : Nat) : (⟨b, off, none⟩ : Addr).add n = ⟨b, off + n, none⟩ := addr_add b off n
theorem open_pairs {H : Type} {enc : TypeId × Value → H} {P : Program} {W : World} {T E : TypeId} {f0 f1 : Field} {k0 k1 : IntKind} {a : Option Addr} {len cap : Nat} {d : DataW H} {p : List MemPlace} (hu : P.underlying T = some (.slice E)) (he : P.underlying E = some (.struct #[f0, f1])) (ce : P.cellsOf E = 2) (o0 : f0.offset = 0) (o1 : f1.offset = 1)
    (c0 : P.cellsOf f0.type = 1) (c1 : P.cellsOf f1.type = 1) (u0 : P.underlying f0.type = some (.int k0)) (u1 : P.underlying f1.type = some (.int k1))
    (h : DataW.Trod enc P W 0 (fun _ => true) true T (.slice a len cap) d p) :
    ∃ X Y, IsPairs k0 k1 W a len X Y ∧ len ≤ cap ∧ cap ≤ maxLen ∧ (cap = 0 ∨ ∃ es sp, d = .slice es sp ∧ es.length + sp.length = cap) := by
  obtain ⟨fuel, hf⟩ := h
  rcases open_slice_pairs hu he ce o0 o1 c0 c1 hf with ⟨hcs, _⟩ | ⟨x, l, c, m, n, V0, V1, D0, D1, P0, P1, hcs, _, hl, hm, hmm, hx, hall⟩
  · simp [Value.cells] at hcs
    obtain ⟨rfl, rfl, rfl⟩ := hcs
    exact ⟨fun _ => 0, fun _ => 0, .inl rfl, by omega, by unfold maxLen; omega, .inl rfl⟩
  · simp [Value.cells] at hcs
    obtain ⟨rfl, rfl, rfl⟩ := hcs
    simp only [if_true] at hmm
    subst hmm
    have hi0 : ∀ i, i < m → ∃ q, V0 i = .int k0 q ∧ (Lit.int k0 q).wf = true := fun i hi => by
      obtain ⟨q, h1, _, h3⟩ := DataW.trod_int u0 (hall i hi).2.2.1
      simp only [List.cons.injEq, and_true] at h1
      exact ⟨q, h1, h3⟩
    have hi1 : ∀ i, i < m → ∃ q, V1 i = .int k1 q ∧ (Lit.int k1 q).wf = true := fun i hi => by
      obtain ⟨q, h1, _, h3⟩ := DataW.trod_int u1 (hall i hi).2.2.2
      simp only [List.cons.injEq, and_true] at h1
      exact ⟨q, h1, h3⟩
    have hd : m = 0 ∨ ∃ es sp, d = .slice es sp ∧ es.length + sp.length = m := by
      refine .inr ⟨_, _, (Prod.mk.inj hx).1, ?_⟩
      simp; omega
    by_cases h0 : len = 0
    · exact ⟨fun _ => 0, fun _ => 0, .inl h0, hl, hm, hd⟩
    · obtain ⟨b, off, spot⟩ := x
      have hspot : spot = none := by simpa [Addr.add] using World.cell?_spot (hall 0 (by omega)).1
      subst hspot
      have hb : b < W.heap.size := World.block_lt_of_cell? W _ (hall 0 (by omega)).1
      refine ⟨fun i => match V0 i with | .int _ q => q | _ => 0, fun i => match V1 i with | .int _ q => q | _ => 0, .inr ⟨b, off, rfl, hb, fun i hi => ?_⟩, hl, hm, hd⟩
      obtain ⟨a0, a1, _, _⟩ := hall i (by omega)
      obtain ⟨q0, e0, g0⟩ := hi0 i (by omega)
      obtain ⟨q1, e1, g1⟩ := hi1 i (by omega)
      rw [addr_add] at a0 a1
      rw [e0] at a0
      rw [e1] at a1
      simp only [e0, e1]
      exact ⟨a0, by rw [← a1, Nat.add_assoc], g0, g1⟩
end Go.Proofs.Ytbhehdkljolpkaa
