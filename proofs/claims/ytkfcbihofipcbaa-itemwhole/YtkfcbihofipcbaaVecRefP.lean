/- The document's own answer to chapter 6: All, Put; concatenations in a quiet walk. -/
import Derived.Test.YtkfcbihofipcbaaVecRef

import Derived.Test.YtkfcbihofipcbaaVecAllF

import Derived.Test.YtkfcbihofipcbaaPackRefPut

import Derived.Lib.Hide

namespace Go.Proofs.Ytkfcbihofipcbaa.Vc

open Go.RowKit

set_option linter.unusedVariables false

set_option linter.unusedSimpArgs false

set_option maxRecDepth 100000

section

variable {P : Program} {ops : Array Oper} {rest : List Oper} {o : Oper} {a : Act} {w : World}

theorem still_row_load {Q : Act → Prop} (hgd : o.guard = none) (k : IntKind) (t : TypeId) (x : Operand) (ho : o.op = .load t x) (b p : Nat) (hx : a.eval x = .pointer (some ⟨b, p, none⟩)) (l : List Nat) (ha : w.rangeAt b p (ks k l))
    (n : Nat) (e : TypeId) (hu : P.underlying t = some (.array n e)) (hi : (P.info? t).map (·.size) = some l.length)
    (h : wpStill P ops w Q rest (a.put o.dst (AV k l))) : wpStill P ops w Q (o :: rest) a := by
  refine still_value hgd (AV k l) ?_ h
  have hl := run_loadAt_mid w b p t (ks k l) _ ha hu rfl (by rw [ks_length]; exact hi)
  unfold execOp
  simp only [ho, hx, Sem.run_bind, hl, Result.andThen_ok, Sem.run_pure]
  rfl
theorem w_cat {C : World → Prop} {Q : Act → Prop} (hgd : o.guard = none) (t t' : TypeId) (x y : Operand) (ho : o.op = .binOp .add t x y t') (b c r : ByteArray) (hx : a.eval x = .string b) (hy : a.eval y = .string c) (hn : b.size + c.size ≤ 9223372036854775807) (hr : b ++ c = r)
    (h : ∀ K : Act → Prop, (∀ a, WQ P ops C Q rest a → K a) → K (a.put o.dst (.string r))) : WQ P ops C Q (o :: rest) a := by
  subst hr
  exact w_concat hgd t t' x y ho b c hx hy hn h
end

set_option maxHeartbeats 2000000 in
theorem ref_put (a : List Nat) (w : World) (ha : V.Ok a) :
    Calls Try.prog 59 #[AV .u64 a] w fun e w' => e = .returned (.string (P.S (V.put a))) ∧ Below w.heap.size w w' := by
  have hlt := ha.lt
  obtain ⟨x0, x1, x2, x3, rfl⟩ := V.four ha.len
  simp only [List.mem_cons, List.not_mem_nil, or_false, forall_eq_or_imp, forall_eq] at hlt
  obtain ⟨hx0, hx1, hx2, hx3⟩ := hlt
  have C0 := Lib.hid (fun w => Pk.ref_vary_any x0 w hx0)
  have s0 : (P.S (P.vary x0)).size ≤ 10 := by rw [P.S_size]; exact P.vary_le x0
  obtain ⟨d0, D0⟩ : ∃ r, Hid (P.S (P.vary x0) = r) := ⟨_, rfl⟩
  rw [D0.out] at C0 s0
  have C1 := Lib.hid (fun w => Pk.ref_vary_any x1 w hx1)
  have s1 : (P.S (P.vary x1)).size ≤ 10 := by rw [P.S_size]; exact P.vary_le x1
  obtain ⟨d1, D1⟩ : ∃ r, Hid (P.S (P.vary x1) = r) := ⟨_, rfl⟩
  rw [D1.out] at C1 s1
  have C2 := Lib.hid (fun w => Pk.ref_vary_any x2 w hx2)
  have s2 : (P.S (P.vary x2)).size ≤ 10 := by rw [P.S_size]; exact P.vary_le x2
  obtain ⟨d2, D2⟩ : ∃ r, Hid (P.S (P.vary x2) = r) := ⟨_, rfl⟩
  rw [D2.out] at C2 s2
  have C3 := Lib.hid (fun w => Pk.ref_vary_any x3 w hx3)
  have s3 : (P.S (P.vary x3)).size ≤ 10 := by rw [P.S_size]; exact P.vary_le x3
  obtain ⟨d3, D3⟩ : ∃ r, Hid (P.S (P.vary x3) = r) := ⟨_, rfl⟩
  rw [D3.out] at C3 s3
  obtain ⟨y1, Ey1⟩ : ∃ r, Hid (d0 ++ d1 = r) := ⟨_, rfl⟩
  have zy1 : y1.size = d0.size + (d1 : ByteArray).size := by rw [← Ey1.out, ByteArray.size_append]
  obtain ⟨y2, Ey2⟩ : ∃ r, Hid (y1 ++ d2 = r) := ⟨_, rfl⟩
  have zy2 : y2.size = y1.size + (d2 : ByteArray).size := by rw [← Ey2.out, ByteArray.size_append]
  obtain ⟨y3, Ey3⟩ : ∃ r, Hid (y2 ++ d3 = r) := ⟨_, rfl⟩
  have zy3 : y3.size = y2.size + (d3 : ByteArray).size := by rw [← Ey3.out, ByteArray.size_append]
  have ny1 : Hid (d0.size + (d1 : ByteArray).size ≤ 9223372036854775807) := by
    show _ ≤ _
    omega
  have ny2 : Hid (y1.size + (d2 : ByteArray).size ≤ 9223372036854775807) := by
    show _ ≤ _
    omega
  have ny3 : Hid (y2.size + (d3 : ByteArray).size ≤ 9223372036854775807) := by
    show _ ≤ _
    omega
  have HV : Hid (P.S (V.put [x0, x1, x2, x3]) = y3) := by
    show _ = _
    rw [← Ey3.out, ← Ey2.out, ← Ey1.out, ← D0.out, ← D1.out, ← D2.out, ← D3.out]
    simp only [P.S_append]
    congr 1
    simp [V.put]
  rw [HV.out]
  clear ha hx0 hx1 hx2 hx3 HV s0 s1 s2 s3 zy1 zy2 zy3
  go_enter Try.func59, Try.ntmps59
  go_wp2_with (first | refine arr_box rfl .u64 48 _ rfl [x0, x1, x2, x3] rfl ?_)
  intro w1 A1 B1 Z1
  have HB1 : Hid (Below w.heap.size w w1) := B1
  have K0 : Hid (∀ u, Below w1.heap.size w1 u → u.cell? ⟨w.heap.size, 0, none⟩ = some (.int .u64 ((x0 : Nat) : Int))) := fun u hu => by
    have h := (Arr.below A1 hu (by omega)).cell 0 (by simp)
    simpa using h
  have K1 : Hid (∀ u, Below w1.heap.size w1 u → u.cell? ⟨w.heap.size, 1, none⟩ = some (.int .u64 ((x1 : Nat) : Int))) := fun u hu => by
    have h := (Arr.below A1 hu (by omega)).cell 1 (by simp)
    simpa using h
  have K2 : Hid (∀ u, Below w1.heap.size w1 u → u.cell? ⟨w.heap.size, 2, none⟩ = some (.int .u64 ((x2 : Nat) : Int))) := fun u hu => by
    have h := (Arr.below A1 hu (by omega)).cell 2 (by simp)
    simpa using h
  have K3 : Hid (∀ u, Below w1.heap.size w1 u → u.cell? ⟨w.heap.size, 3, none⟩ = some (.int .u64 ((x3 : Nat) : Int))) := fun u hu => by
    have h := (Arr.below A1 hu (by omega)).cell 3 (by simp)
    simpa using h
  have X0 : Hid (∀ u, Below w1.heap.size w1 u → Calls Try.prog 60 [.int .u64 ((x0 : Nat) : Int)].toArray u fun e u' => e = .returned (.string d0) ∧ Below w1.heap.size w1 u') := fun u hu => Calls.more hu (C0.out u)
  have X1 : Hid (∀ u, Below w1.heap.size w1 u → Calls Try.prog 60 [.int .u64 ((x1 : Nat) : Int)].toArray u fun e u' => e = .returned (.string d1) ∧ Below w1.heap.size w1 u') := fun u hu => Calls.more hu (C1.out u)
  have X2 : Hid (∀ u, Below w1.heap.size w1 u → Calls Try.prog 60 [.int .u64 ((x2 : Nat) : Int)].toArray u fun e u' => e = .returned (.string d2) ∧ Below w1.heap.size w1 u') := fun u hu => Calls.more hu (C2.out u)
  have X3 : Hid (∀ u, Below w1.heap.size w1 u → Calls Try.prog 60 [.int .u64 ((x3 : Nat) : Int)].toArray u fun e u' => e = .returned (.string d3) ∧ Below w1.heap.size w1 u') := fun u hu => Calls.more hu (C3.out u)
  clear A1 B1 Z1 C0 C1 C2 C3
  go_wp2_with fail
  refine region_w Try.mixed (by kernel_rfl) ?_
  refine w_value rfl (.pointer (some ⟨w.heap.size, 0, none⟩)) (fun u hu => by go_simp) (fun K hK => ?_)
  go_simp
  refine hK _ ?_
  clear hK K
  refine w_value rfl (.int .u64 ((x0 : Nat) : Int)) (fun u hu => by have hc := K0.out u hu; go_simp) (fun K hK => ?_)
  go_simp
  refine hK _ ?_
  clear hK K
  refine w_call rfl 60 Try.f60 Try.func60 rfl rfl _ _ rfl _ rfl (.string d0) (by exact X0.out) (fun K hK => ?_)
  go_simp
  refine hK _ ?_
  clear hK K
  refine w_value rfl (.pointer (some ⟨w.heap.size, 1, none⟩)) (fun u hu => by go_simp) (fun K hK => ?_)
  go_simp
  refine hK _ ?_
  clear hK K
  refine w_value rfl (.int .u64 ((x1 : Nat) : Int)) (fun u hu => by have hc := K1.out u hu; go_simp) (fun K hK => ?_)
  go_simp
  refine hK _ ?_
  clear hK K
  refine w_call rfl 60 Try.f60 Try.func60 rfl rfl _ _ rfl _ rfl (.string d1) (by exact X1.out) (fun K hK => ?_)
  go_simp
  refine hK _ ?_
  clear hK K
  refine w_cat rfl _ _ _ _ rfl d0 d1 y1 rfl rfl ny1.out Ey1.out (fun K hK => ?_)
  go_simp
  refine hK _ ?_
  clear hK K
  refine w_value rfl (.pointer (some ⟨w.heap.size, 2, none⟩)) (fun u hu => by go_simp) (fun K hK => ?_)
  go_simp
  refine hK _ ?_
  clear hK K
  refine w_value rfl (.int .u64 ((x2 : Nat) : Int)) (fun u hu => by have hc := K2.out u hu; go_simp) (fun K hK => ?_)
  go_simp
  refine hK _ ?_
  clear hK K
  refine w_call rfl 60 Try.f60 Try.func60 rfl rfl _ _ rfl _ rfl (.string d2) (by exact X2.out) (fun K hK => ?_)
  go_simp
  refine hK _ ?_
  clear hK K
  refine w_cat rfl _ _ _ _ rfl y1 d2 y2 rfl rfl ny2.out Ey2.out (fun K hK => ?_)
  go_simp
  refine hK _ ?_
  clear hK K
  refine w_value rfl (.pointer (some ⟨w.heap.size, 3, none⟩)) (fun u hu => by go_simp) (fun K hK => ?_)
  go_simp
  refine hK _ ?_
  clear hK K
  refine w_value rfl (.int .u64 ((x3 : Nat) : Int)) (fun u hu => by have hc := K3.out u hu; go_simp) (fun K hK => ?_)
  go_simp
  refine hK _ ?_
  clear hK K
  refine w_call rfl 60 Try.f60 Try.func60 rfl rfl _ _ rfl _ rfl (.string d3) (by exact X3.out) (fun K hK => ?_)
  go_simp
  refine hK _ ?_
  clear hK K
  refine w_cat rfl _ _ _ _ rfl y2 d3 y3 rfl rfl ny3.out Ey3.out (fun K hK => ?_)
  go_simp
  refine hK _ ?_
  clear hK K
  refine w_assign rfl _ rfl (.string y3) rfl (fun K hK => ?_)
  go_simp
  refine hK _ ?_
  clear hK K
  refine w_nil ?_
  intro u hu
  have HW9 : Hid (Below w.heap.size w u) := Below.trans HB1.out (hu.mono HB1.out.size)
  clear hu
  go_wp2_with fail
  go_ret
  exact ⟨rfl, HW9.out⟩
end Go.Proofs.Ytkfcbihofipcbaa.Vc
