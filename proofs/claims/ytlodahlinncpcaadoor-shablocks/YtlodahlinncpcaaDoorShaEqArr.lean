/- Two states are compared. -/
import Derived.Test.YtlodahlinncpcaaDoorFrameArr
import Derived.DeepKeys
namespace Go.Proofs.YtlodahlinncpcaaDoor
open Go.RowKit
set_option linter.unusedVariables false
set_option linter.unusedSimpArgs false
theorem eq_state (r0 r1 r2 r3 r4 r5 r6 r7 : Nat) (w : World) (h : Q.Ok [r0, r1, r2, r3, r4, r5, r6, r7]) :
    (Op.equalIn 10000 26 (.agg #[.int .u32 (r0 : Int), .int .u32 (r1 : Int), .int .u32 (r2 : Int), .int .u32 (r3 : Int), .int .u32 (r4 : Int), .int .u32 (r5 : Int), .int .u32 (r6 : Int), .int .u32 (r7 : Int)]) (.agg #[.int .u32 (r0 : Int), .int .u32 (r1 : Int), .int .u32 (r2 : Int), .int .u32 (r3 : Int), .int .u32 (r4 : Int), .int .u32 (r5 : Int), .int .u32 (r6 : Int), .int .u32 (r7 : Int)])).run Tryd.prog w = .ok true w := by
  have E := run_equalIn_deep (P := Tryd.prog) 9998 2 26 (by kernel_rfl)
  have hw : ∀ x ∈ [r0, r1, r2, r3, r4, r5, r6, r7], (Lit.int .u32 (x : Int)).wf = true := fun x hx => by
    have := h x hx
    simp [Lit.wf, IntKind.min, IntKind.max, IntKind.signed, IntKind.bits]; omega
  have w0 := hw r0 (by simp)
  have w1 := hw r1 (by simp)
  have w2 := hw r2 (by simp)
  have w3 := hw r3 (by simp)
  have w4 := hw r4 (by simp)
  have w5 := hw r5 (by simp)
  have w6 := hw r6 (by simp)
  have w7 := hw r7 (by simp)
  have hla : Tryd.prog.keyLits 5 26 [.int .u32 (r0 : Int), .int .u32 (r1 : Int), .int .u32 (r2 : Int), .int .u32 (r3 : Int), .int .u32 (r4 : Int), .int .u32 (r5 : Int), .int .u32 (r6 : Int), .int .u32 (r7 : Int)] = some [.int .u32 (r0 : Int), .int .u32 (r1 : Int), .int .u32 (r2 : Int), .int .u32 (r3 : Int), .int .u32 (r4 : Int), .int .u32 (r5 : Int), .int .u32 (r6 : Int), .int .u32 (r7 : Int)] := by
    simp [Program.keyLits, Tryd.underlying26, Tryd.underlying25, cells_a8, cells_u32, List.range, List.range.loop, w0, w1, w2, w3, w4, w5, w6, w7]
  obtain ⟨b, hb, hi⟩ := E w 5 5 (.agg #[.int .u32 (r0 : Int), .int .u32 (r1 : Int), .int .u32 (r2 : Int), .int .u32 (r3 : Int), .int .u32 (r4 : Int), .int .u32 (r5 : Int), .int .u32 (r6 : Int), .int .u32 (r7 : Int)]) (.agg #[.int .u32 (r0 : Int), .int .u32 (r1 : Int), .int .u32 (r2 : Int), .int .u32 (r3 : Int), .int .u32 (r4 : Int), .int .u32 (r5 : Int), .int .u32 (r6 : Int), .int .u32 (r7 : Int)]) _ _ (by simp [Value.formed, Tryd.underlying26, cells_a8]) (by simp [Value.formed, Tryd.underlying26, cells_a8]) hla hla
  rw [hi.2 rfl] at hb
  exact hb
end Go.Proofs.YtlodahlinncpcaaDoor
