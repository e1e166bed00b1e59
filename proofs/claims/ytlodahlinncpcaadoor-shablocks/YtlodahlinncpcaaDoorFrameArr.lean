/- An array of numbers, by value, that came in. -/
import Derived.Test.YtlodahlinncpcaaDoorFrameLaid
import Derived.WideKeyArr2
namespace Go.Proofs.YtlodahlinncpcaaDoor
open Go.ChangeShapes Go.WideShapes Go.ChangeAt Go.RowKit
set_option linter.unusedVariables false
def numOf : Value → Int
  | .int _ q => q
  | _ => 0
theorem open_arr_ints {H : Type} {enc : TypeId × Value → H} {P : Program} {W : World} {k e : TypeId} {n : Nat} {q : IntKind} {sp : Nat → Bool} {held : Bool} (hu : P.underlying k = some (.array n e)) (he : P.underlying e = some (.int q)) (hone : P.cellsOf e = 1) (hsize : P.cellsOf k = n)
    {xs : Array Value} (hn : xs.size = n) {d : DataW H} {ps : List MemPlace} (hd : DataW.Trod enc P W 0 sp held k (.agg xs) d ps) :
    ∀ x ∈ xs.toList, ∃ a, x = .int q a ∧ (Lit.int q a).wf = true := by
  obtain ⟨fuel, hf⟩ := hd
  cases fuel with
  | zero => simp [DataW.trod] at hf
  | succ m =>
    rw [DataW.trod_step] at hf
    unfold DataW.trodStep at hf
    simp only [hu, Value.cells] at hf
    rw [if_pos (by rw [hsize]; simpa using hn)] at hf
    simp only [Option.map_eq_some_iff] at hf
    obtain ⟨ys, hy, _⟩ := hf
    intro x hx
    obtain ⟨i, hi⟩ := List.mem_iff_getElem?.1 hx
    have hil : i < n := by
      rw [← hn, ← Array.length_toList]
      exact (List.getElem?_eq_some_iff.1 hi).1
    obtain ⟨b, _, hb⟩ := Lib.mapM_at hy i i (by simp [hil])
    obtain ⟨a, ea, _, wa⟩ := DataW.trod_int he hb
    rw [hone, Nat.mul_one] at ea
    refine ⟨a, ?_, wa⟩
    have h1 : (xs.toList.drop i)[0]? = some x := by rw [List.getElem?_drop]; simpa using hi
    have h2 : ((xs.toList.drop i).take 1)[0]? = some x := by rw [List.getElem?_take]; simpa using h1
    rw [ea] at h2
    simpa using h2.symm
theorem nums_of (cs : List Value) (h : ∀ x ∈ cs, ∃ a, x = Value.int .u32 a ∧ (Lit.int .u32 a).wf = true) : ∃ l : List Nat, cs = ks .u32 l ∧ Q.Ok l := by
  induction cs with
  | nil => exact ⟨[], rfl, fun x hx => by cases hx⟩
  | cons c cs ih =>
    obtain ⟨l, rfl, hl⟩ := ih (fun x hx => h x (List.mem_cons_of_mem _ hx))
    obtain ⟨a, rfl, wa⟩ := h c (List.mem_cons_self ..)
    have hx : 0 ≤ a ∧ a ≤ 4294967295 := by simpa [Lit.wf, IntKind.min, IntKind.max, IntKind.signed, IntKind.bits] using wa
    obtain ⟨m, rfl⟩ := Int.eq_ofNat_of_zero_le hx.1
    refine ⟨m :: l, rfl, fun x hx' => ?_⟩
    rcases List.mem_cons.1 hx' with rfl | h'
    · omega
    · exact hl x h'
theorem cells_a8 : Tryd.prog.cellsOf 26 = 8 := by kernel_rfl
theorem open_state {H : Type} {enc : TypeId × Value → H} {W : World} {base : Nat} {sp : Nat → Bool} {held : Bool} {v : Value} {d : DataW H} {ps : List MemPlace}
    (hv : Value.okWide Tryd.prog W .any base 26 v) (hd : DataW.Trod enc Tryd.prog W 0 sp held 26 v d ps) : ∃ l, v = AV .u32 l ∧ Q.Ok8 l := by
  simp only [Value.okWide, Tryd.underlying26] at hv
  obtain ⟨cs, rfl, h2, _⟩ := hv
  rw [cells_a8] at h2
  obtain ⟨l, e, hl⟩ := nums_of cs.toList (open_arr_ints Tryd.underlying26 Tryd.underlying25 cells_u32 cells_a8 h2 hd)
  refine ⟨l, ?_, ?_, hl⟩
  · rw [AV, ← e]
  · rw [← ks_length .u32, ← e, Array.length_toList, h2]
end Go.Proofs.YtlodahlinncpcaaDoor
