/- The document's own answer to chapter 6: All, Put, Digits, Text. -/
import Derived.Test.YtnmggefbajoadaaDoorVecRef

import Derived.Test.YtnmggefbajoadaaDoorVecAllF

import Derived.Test.YtnmggefbajoadaaDoorPackRefPut

import Derived.Test.YtnmggefbajoadaaDoorVecFmt

import Derived.Test.YtnmggefbajoadaaDoorVecText

namespace Go.Proofs.YtnmggefbajoadaaDoor.Vc

open Go.RowKit

set_option linter.unusedVariables false

set_option linter.unusedSimpArgs false

set_option maxRecDepth 100000

section

variable {P : Program} {ops : Array Oper} {rest : List Oper} {o : Oper} {a : Act} {w : World}

theorem still_row_load {Q : Act → Prop} (hgd : o.guard = none) (k : IntKind) (t : TypeId) (x : Operand) (ho : o.op = .load t x) (b p : Nat) (hx : a.eval x = .pointer (some ⟨b, p, none⟩)) (l : List Nat) (ha : w.rangeAt b p (ks k l))
    (n : Nat) (e : TypeId) (hu : P.underlying t = some (.array n e)) (hi : (P.info? t).map (·.size) = some l.length)
    (h : wpStill P ops w Q rest (a.put o.dst (AV k l))) : wpStill P ops w Q (o :: rest) a := by
  refine still_value hgd (AV k l) ?_ h
  have hl := run_loadAt_mid w b p t (ks k l) _ ha hu rfl (by rw [ks_length]; exact hi)
  unfold execOp
  simp only [ho, hx, Sem.run_bind, hl, Result.andThen_ok, Sem.run_pure]
  rfl
theorem w_cat {C : World → Prop} {Q : Act → Prop} (hgd : o.guard = none) (t t' : TypeId) (x y : Operand) (ho : o.op = .binOp .add t x y t') (b c r : ByteArray) (hx : a.eval x = .string b) (hy : a.eval y = .string c) (hn : b.size + c.size ≤ 9223372036854775807) (hr : b ++ c = r)
    (h : ∀ K : Act → Prop, (∀ a, WQ P ops C Q rest a → K a) → K (a.put o.dst (.string r))) : WQ P ops C Q (o :: rest) a := by
  subst hr
  exact w_concat hgd t t' x y ho b c hx hy hn h
end

theorem byte_str {ops : Array Oper} {rest : List Oper} {o : Oper} {a : Act} {w : World} {Q : Exit → Act → World → Prop} (hgd : o.guard = none) (x : Operand) (ho : o.op = .convert 83 9 x) (b : Nat) (hx : a.eval x = .slice (some ⟨b, 0, none⟩) 1 1) (c : UInt8) (hc : w.cell? ⟨b, 0, none⟩ = some (.int .u8 (c.toNat : Int)))
    (h : wpList Tryd.prog ops Q rest (a.put o.dst (.string (P.S [c]))) w) : wpList Tryd.prog ops Q (o :: rest) a w := by
  refine val_step hgd (.string (P.S [c])) ?_ h
  have e := run_convert_bytes_back (P := Tryd.prog) w 83 9 5 ⟨b, 0, none⟩ 1 [c] Tryd.underlying83 Tryd.underlying5 Tryd.underlying9 (fun j hj => by
    match j, hj with
    | 0, _ => rw [Addr.add_mid]; exact hc)
  unfold execOp
  simp only [ho, hx, Sem.run_bind]
  have e' : (convert 83 9 (.slice (some ⟨b, 0, none⟩) 1 1)).run Tryd.prog w = .ok (.string (P.S [c])) w := e
  rw [e']
  rfl
theorem digs_eq (n : Nat) : Fm.digs n = (if n < 10 then [] else Fm.digs (n / 10)) ++ [UInt8.ofNat (48 + n % 10)] := by
  unfold Fm.digs
  by_cases h : n < 10
  · rw [Lib.decDigits, dif_pos h, if_pos h, Nat.mod_eq_of_lt h]; rfl
  · rw [Lib.decDigits, dif_neg h, if_neg h]
theorem digit (n : Nat) : ∃ (d : Nat) (c : UInt8), (n : Int).tmod 10 = (d : Int) ∧ (48 : Int) + (d : Int) = (c.toNat : Int) ∧ IntKind.u64.wrap (c.toNat : Int) = c.toNat ∧ IntKind.u8.wrap (c.toNat : Int) = c.toNat ∧ Hid (UInt8.ofNat (48 + n % 10) = c) ∧ IntKind.u64.wrap (d : Int) = d := by
  have hc : (UInt8.ofNat (48 + n % 10)).toNat = 48 + n % 10 := UInt8.toNat_ofNat_of_lt' (by show _ < 256; omega)
  refine ⟨n % 10, UInt8.ofNat (48 + n % 10), ?_, ?_, ?_, ?_, rfl, ?_⟩
  · rw [Int.tmod_eq_emod_of_nonneg (by omega)]; rfl
  · rw [hc]; omega
  · rw [hc]; exact IntWalk.u64_in _ ⟨by omega, by omega⟩
  · rw [hc]; exact IntWalk.u8_in _ ⟨by omega, by omega⟩
  · exact IntWalk.u64_in _ ⟨by omega, by omega⟩
set_option maxHeartbeats 2000000 in
theorem ref_digits (n0 : Nat) (w : World) (h0 : n0 < 2 ^ 64) :
    Calls Tryd.prog 67 #[.int .u64 n0] w fun e w' => e = .returned (.string (P.S (Fm.digs n0))) ∧ Below w.heap.size w w' := by
  obtain ⟨r, HR⟩ : ∃ r, Hid (Fm.digs n0 = r) := ⟨_, rfl⟩
  have HL : Hid (r.length ≤ 20) := by show _ ≤ _; rw [← HR.out]; exact Fm.digs_len n0 h0
  have H0 : Hid _ := h0
  obtain ⟨d, c, ex, ec, e1, e2, HC, e3⟩ := digit n0
  have HD : Hid (r = (if n0 < 10 then [] else Fm.digs (n0 / 10)) ++ [c]) := by
    show _ = _
    rw [← HR.out, digs_eq, HC.out]
  rw [HR.out]
  clear h0 HC
  go_enter Tryd.func67, Tryd.ntmps67
  go_wp2_with (first | refine byte_str rfl _ rfl w.heap.size rfl c (by simp [go_sem]) ?_)
  go_loopw [0, 3] (fun v s wr => ∃ (n : Nat) (t : List UInt8), v = .int .u64 n ∧ s = .string (P.S t) ∧ Hid (n < 2 ^ 64) ∧ Hid (r = (if n < 10 then [] else Fm.digs (n / 10)) ++ t) ∧ Hid (Below w.heap.size w wr)) (fun v _ _ => (intOf v).toNat)
  case atStart => exact ⟨n0, [c], rfl, rfl, H0, HD, (Below.refl _ _).alloc (Nat.le_refl _) _⟩
  case round =>
    clear ex ec e1 e2 e3 HD H0
    obtain ⟨n, t, rfl, rfl, HN, HD, HB⟩ := hrel
    have hz := HB.out.size
    by_cases hlt : n < 10
    · have ilt : ¬ (9 < (n : Int)) := by omega
      have HE : Hid (t = r) := by show _ = _; rw [HD.out, if_pos hlt]; rfl
      go_wp2_with fail
      go_ret
      rw [HE.out]
      exact ⟨rfl, HB.out⟩
    · have ilt : 9 < (n : Int) := by omega
      have eq : (n : Int).tdiv 10 = ((n / 10 : Nat) : Int) := by rw [Int.tdiv_eq_ediv_of_nonneg (by omega)]; rfl
      have HN' : Hid (n / 10 < 2 ^ 64) := by have := HN.out; show _ < _; omega
      have hdec : n / 10 < n := by omega
      have HT : Hid (t.length ≤ 20) := by have h := HL.out; rw [HD.out, List.length_append] at h; show _ ≤ _; omega
      have ht : (P.S t).size ≤ 20 := by rw [P.S_size]; exact HT.out
      have HD0 : Hid (r = Fm.digs (n / 10) ++ t) := by have h := HD.out; rw [if_neg hlt] at h; exact h
      generalize n / 10 = m at *
      obtain ⟨d, c, ex, ec, e1, e2, HC, e3⟩ := digit m
      have HD' : Hid (r = (if m < 10 then [] else Fm.digs (m / 10)) ++ (c :: t)) := by
        show _ = _
        rw [HD0.out, digs_eq, HC.out, List.append_assoc]; rfl
      have hm : (m : Int) ≤ 18446744073709551615 := by have := HN'.out; omega
      have ES : Hid (P.S [c] ++ P.S t = P.S (c :: t)) := by show _ = _; rw [P.S_append]; rfl
      have hsum : (P.S [c]).size + (P.S t).size ≤ 9223372036854775807 := by rw [P.S_size [c]]; simp only [List.length_singleton]; omega
      have HBA : Hid (∀ o, Below w.heap.size w (wr.alloc o)) := fun o => HB.out.alloc HB.out.size o
      clear HD0 HC HD HN
      go_wp2_with (first | refine byte_str rfl _ rfl wr.heap.size rfl c (by simp [go_sem]) ?_)
      go_roundw
      case rel => exact ⟨m, c :: t, rfl, by rw [ES.out], HN', HD', HBA.out _⟩
      case measure => simp [intOf]; omega
set_option maxHeartbeats 2000000 in
theorem ref_put (a : List Nat) (w : World) (ha : V.Ok a) :
    Calls Tryd.prog 38 #[AV .u64 a] w fun e w' => e = .returned (.string (P.S (V.put a))) ∧ Below w.heap.size w w' := by
  have hlt := ha.lt
  obtain ⟨x0, x1, x2, x3, rfl⟩ := V.four ha.len
  simp only [List.mem_cons, List.not_mem_nil, or_false, forall_eq_or_imp, forall_eq] at hlt
  obtain ⟨hx0, hx1, hx2, hx3⟩ := hlt
  have C0 := Lib.hid (fun w => Pk.ref_vary_any x0 w hx0)
  have s0 : (P.S (P.vary x0)).size ≤ 10 := by rw [P.S_size]; exact P.vary_le x0
  obtain ⟨d0, D0⟩ : ∃ r, Hid (P.S (P.vary x0) = r) := ⟨_, rfl⟩
  rw [D0.out] at C0 s0
  have C1 := Lib.hid (fun w => Pk.ref_vary_any x1 w hx1)
  have s1 : (P.S (P.vary x1)).size ≤ 10 := by rw [P.S_size]; exact P.vary_le x1
  obtain ⟨d1, D1⟩ : ∃ r, Hid (P.S (P.vary x1) = r) := ⟨_, rfl⟩
  rw [D1.out] at C1 s1
  have C2 := Lib.hid (fun w => Pk.ref_vary_any x2 w hx2)
  have s2 : (P.S (P.vary x2)).size ≤ 10 := by rw [P.S_size]; exact P.vary_le x2
  obtain ⟨d2, D2⟩ : ∃ r, Hid (P.S (P.vary x2) = r) := ⟨_, rfl⟩
  rw [D2.out] at C2 s2
  have C3 := Lib.hid (fun w => Pk.ref_vary_any x3 w hx3)
  have s3 : (P.S (P.vary x3)).size ≤ 10 := by rw [P.S_size]; exact P.vary_le x3
  obtain ⟨d3, D3⟩ : ∃ r, Hid (P.S (P.vary x3) = r) := ⟨_, rfl⟩
  rw [D3.out] at C3 s3
  obtain ⟨y1, Ey1⟩ : ∃ r, Hid (d0 ++ d1 = r) := ⟨_, rfl⟩
  have zy1 : y1.size = d0.size + (d1 : ByteArray).size := by rw [← Ey1.out, ByteArray.size_append]
  obtain ⟨y2, Ey2⟩ : ∃ r, Hid (y1 ++ d2 = r) := ⟨_, rfl⟩
  have zy2 : y2.size = y1.size + (d2 : ByteArray).size := by rw [← Ey2.out, ByteArray.size_append]
  obtain ⟨y3, Ey3⟩ : ∃ r, Hid (y2 ++ d3 = r) := ⟨_, rfl⟩
  have zy3 : y3.size = y2.size + (d3 : ByteArray).size := by rw [← Ey3.out, ByteArray.size_append]
  have ny1 : Hid (d0.size + (d1 : ByteArray).size ≤ 9223372036854775807) := by
    show _ ≤ _
    omega
  have ny2 : Hid (y1.size + (d2 : ByteArray).size ≤ 9223372036854775807) := by
    show _ ≤ _
    omega
  have ny3 : Hid (y2.size + (d3 : ByteArray).size ≤ 9223372036854775807) := by
    show _ ≤ _
    omega
  have HV : Hid (P.S (V.put [x0, x1, x2, x3]) = y3) := by
    show _ = _
    rw [← Ey3.out, ← Ey2.out, ← Ey1.out, ← D0.out, ← D1.out, ← D2.out, ← D3.out]
    simp only [P.S_append]
    congr 1
    simp [V.put]
  rw [HV.out]
  clear ha hx0 hx1 hx2 hx3 HV s0 s1 s2 s3 zy1 zy2 zy3
  go_enter Tryd.func38, Tryd.ntmps38
  go_wp2_with (first | refine arr_box rfl .u64 37 _ rfl [x0, x1, x2, x3] rfl ?_)
  intro w1 A1 B1 Z1
  have HB1 : Hid (Below w.heap.size w w1) := B1
  have K0 : Hid (∀ u, Below w1.heap.size w1 u → u.cell? ⟨w.heap.size, 0, none⟩ = some (.int .u64 ((x0 : Nat) : Int))) := fun u hu => by
    have h := (Arr.below A1 hu (by omega)).cell 0 (by simp)
    simpa using h
  have K1 : Hid (∀ u, Below w1.heap.size w1 u → u.cell? ⟨w.heap.size, 1, none⟩ = some (.int .u64 ((x1 : Nat) : Int))) := fun u hu => by
    have h := (Arr.below A1 hu (by omega)).cell 1 (by simp)
    simpa using h
  have K2 : Hid (∀ u, Below w1.heap.size w1 u → u.cell? ⟨w.heap.size, 2, none⟩ = some (.int .u64 ((x2 : Nat) : Int))) := fun u hu => by
    have h := (Arr.below A1 hu (by omega)).cell 2 (by simp)
    simpa using h
  have K3 : Hid (∀ u, Below w1.heap.size w1 u → u.cell? ⟨w.heap.size, 3, none⟩ = some (.int .u64 ((x3 : Nat) : Int))) := fun u hu => by
    have h := (Arr.below A1 hu (by omega)).cell 3 (by simp)
    simpa using h
  have X0 : Hid (∀ u, Below w1.heap.size w1 u → Calls Tryd.prog 61 [.int .u64 ((x0 : Nat) : Int)].toArray u fun e u' => e = .returned (.string d0) ∧ Below w1.heap.size w1 u') := fun u hu => Calls.more hu (C0.out u)
  have X1 : Hid (∀ u, Below w1.heap.size w1 u → Calls Tryd.prog 61 [.int .u64 ((x1 : Nat) : Int)].toArray u fun e u' => e = .returned (.string d1) ∧ Below w1.heap.size w1 u') := fun u hu => Calls.more hu (C1.out u)
  have X2 : Hid (∀ u, Below w1.heap.size w1 u → Calls Tryd.prog 61 [.int .u64 ((x2 : Nat) : Int)].toArray u fun e u' => e = .returned (.string d2) ∧ Below w1.heap.size w1 u') := fun u hu => Calls.more hu (C2.out u)
  have X3 : Hid (∀ u, Below w1.heap.size w1 u → Calls Tryd.prog 61 [.int .u64 ((x3 : Nat) : Int)].toArray u fun e u' => e = .returned (.string d3) ∧ Below w1.heap.size w1 u') := fun u hu => Calls.more hu (C3.out u)
  clear A1 B1 Z1 C0 C1 C2 C3
  go_wp2_with fail
  refine region_w Tryd.mixed (by kernel_rfl) ?_
  refine w_value rfl (.pointer (some ⟨w.heap.size, 0, none⟩)) (fun u hu => by go_simp) (fun K hK => ?_)
  go_simp
  refine hK _ ?_
  clear hK K
  refine w_value rfl (.int .u64 ((x0 : Nat) : Int)) (fun u hu => by have hc := K0.out u hu; go_simp) (fun K hK => ?_)
  go_simp
  refine hK _ ?_
  clear hK K
  refine w_call rfl 61 Tryd.f61 Tryd.func61 rfl rfl _ _ rfl _ rfl (.string d0) (by exact X0.out) (fun K hK => ?_)
  go_simp
  refine hK _ ?_
  clear hK K
  refine w_value rfl (.pointer (some ⟨w.heap.size, 1, none⟩)) (fun u hu => by go_simp) (fun K hK => ?_)
  go_simp
  refine hK _ ?_
  clear hK K
  refine w_value rfl (.int .u64 ((x1 : Nat) : Int)) (fun u hu => by have hc := K1.out u hu; go_simp) (fun K hK => ?_)
  go_simp
  refine hK _ ?_
  clear hK K
  refine w_call rfl 61 Tryd.f61 Tryd.func61 rfl rfl _ _ rfl _ rfl (.string d1) (by exact X1.out) (fun K hK => ?_)
  go_simp
  refine hK _ ?_
  clear hK K
  refine w_cat rfl _ _ _ _ rfl d0 d1 y1 rfl rfl ny1.out Ey1.out (fun K hK => ?_)
  go_simp
  refine hK _ ?_
  clear hK K
  refine w_value rfl (.pointer (some ⟨w.heap.size, 2, none⟩)) (fun u hu => by go_simp) (fun K hK => ?_)
  go_simp
  refine hK _ ?_
  clear hK K
  refine w_value rfl (.int .u64 ((x2 : Nat) : Int)) (fun u hu => by have hc := K2.out u hu; go_simp) (fun K hK => ?_)
  go_simp
  refine hK _ ?_
  clear hK K
  refine w_call rfl 61 Tryd.f61 Tryd.func61 rfl rfl _ _ rfl _ rfl (.string d2) (by exact X2.out) (fun K hK => ?_)
  go_simp
  refine hK _ ?_
  clear hK K
  refine w_cat rfl _ _ _ _ rfl y1 d2 y2 rfl rfl ny2.out Ey2.out (fun K hK => ?_)
  go_simp
  refine hK _ ?_
  clear hK K
  refine w_value rfl (.pointer (some ⟨w.heap.size, 3, none⟩)) (fun u hu => by go_simp) (fun K hK => ?_)
  go_simp
  refine hK _ ?_
  clear hK K
  refine w_value rfl (.int .u64 ((x3 : Nat) : Int)) (fun u hu => by have hc := K3.out u hu; go_simp) (fun K hK => ?_)
  go_simp
  refine hK _ ?_
  clear hK K
  refine w_call rfl 61 Tryd.f61 Tryd.func61 rfl rfl _ _ rfl _ rfl (.string d3) (by exact X3.out) (fun K hK => ?_)
  go_simp
  refine hK _ ?_
  clear hK K
  refine w_cat rfl _ _ _ _ rfl y2 d3 y3 rfl rfl ny3.out Ey3.out (fun K hK => ?_)
  go_simp
  refine hK _ ?_
  clear hK K
  refine w_assign rfl _ rfl (.string y3) rfl (fun K hK => ?_)
  go_simp
  refine hK _ ?_
  clear hK K
  refine w_nil ?_
  intro u hu
  have HW9 : Hid (Below w.heap.size w u) := Below.trans HB1.out (hu.mono HB1.out.size)
  clear hu
  go_wp2_with fail
  go_ret
  exact ⟨rfl, HW9.out⟩
set_option maxHeartbeats 2000000 in
theorem ref_text (a : List Nat) (w : World) (ha : V.Ok a) :
    Calls Tryd.prog 50 #[AV .u64 a] w fun e w' => e = .returned (.string (P.S (text a))) ∧ Below w.heap.size w w' := by
  have hlt := ha.lt
  obtain ⟨x0, x1, x2, x3, rfl⟩ := V.four ha.len
  simp only [List.mem_cons, List.not_mem_nil, or_false, forall_eq_or_imp, forall_eq] at hlt
  obtain ⟨hx0, hx1, hx2, hx3⟩ := hlt
  have C0 := Lib.hid (fun w => ref_digits x0 w hx0)
  have s0 : (P.S (Fm.digs x0)).size ≤ 20 := by rw [P.S_size]; exact Fm.digs_len x0 hx0
  obtain ⟨d0, D0⟩ : ∃ r, Hid (P.S (Fm.digs x0) = r) := ⟨_, rfl⟩
  rw [D0.out] at C0 s0
  have C1 := Lib.hid (fun w => ref_digits x1 w hx1)
  have s1 : (P.S (Fm.digs x1)).size ≤ 20 := by rw [P.S_size]; exact Fm.digs_len x1 hx1
  obtain ⟨d1, D1⟩ : ∃ r, Hid (P.S (Fm.digs x1) = r) := ⟨_, rfl⟩
  rw [D1.out] at C1 s1
  have C2 := Lib.hid (fun w => ref_digits x2 w hx2)
  have s2 : (P.S (Fm.digs x2)).size ≤ 20 := by rw [P.S_size]; exact Fm.digs_len x2 hx2
  obtain ⟨d2, D2⟩ : ∃ r, Hid (P.S (Fm.digs x2) = r) := ⟨_, rfl⟩
  rw [D2.out] at C2 s2
  have C3 := Lib.hid (fun w => ref_digits x3 w hx3)
  have s3 : (P.S (Fm.digs x3)).size ≤ 20 := by rw [P.S_size]; exact Fm.digs_len x3 hx3
  obtain ⟨d3, D3⟩ : ∃ r, Hid (P.S (Fm.digs x3) = r) := ⟨_, rfl⟩
  rw [D3.out] at C3 s3
  obtain ⟨cm, EC⟩ : ∃ r, Hid ((⟨#[44]⟩ : ByteArray) = r) := ⟨_, rfl⟩
  have sc : cm.size = 1 := by rw [← EC.out]; rfl
  obtain ⟨y1, Ey1⟩ : ∃ r, Hid (d0 ++ ⟨#[44]⟩ = r) := ⟨_, rfl⟩
  have zy1 : y1.size = d0.size + (⟨#[44]⟩ : ByteArray).size := by rw [← Ey1.out, ByteArray.size_append]
  rw [show (⟨#[44]⟩ : ByteArray).size = 1 from rfl] at zy1
  obtain ⟨y2, Ey2⟩ : ∃ r, Hid (y1 ++ d1 = r) := ⟨_, rfl⟩
  have zy2 : y2.size = y1.size + (d1 : ByteArray).size := by rw [← Ey2.out, ByteArray.size_append]
  obtain ⟨y3, Ey3⟩ : ∃ r, Hid (y2 ++ ⟨#[44]⟩ = r) := ⟨_, rfl⟩
  have zy3 : y3.size = y2.size + (⟨#[44]⟩ : ByteArray).size := by rw [← Ey3.out, ByteArray.size_append]
  rw [show (⟨#[44]⟩ : ByteArray).size = 1 from rfl] at zy3
  obtain ⟨y4, Ey4⟩ : ∃ r, Hid (y3 ++ d2 = r) := ⟨_, rfl⟩
  have zy4 : y4.size = y3.size + (d2 : ByteArray).size := by rw [← Ey4.out, ByteArray.size_append]
  obtain ⟨y5, Ey5⟩ : ∃ r, Hid (y4 ++ ⟨#[44]⟩ = r) := ⟨_, rfl⟩
  have zy5 : y5.size = y4.size + (⟨#[44]⟩ : ByteArray).size := by rw [← Ey5.out, ByteArray.size_append]
  rw [show (⟨#[44]⟩ : ByteArray).size = 1 from rfl] at zy5
  obtain ⟨y6, Ey6⟩ : ∃ r, Hid (y5 ++ d3 = r) := ⟨_, rfl⟩
  have zy6 : y6.size = y5.size + (d3 : ByteArray).size := by rw [← Ey6.out, ByteArray.size_append]
  have ny1 : Hid (d0.size + (⟨#[44]⟩ : ByteArray).size ≤ 9223372036854775807) := by
    show _ ≤ _
    rw [show (⟨#[44]⟩ : ByteArray).size = 1 from rfl]
    omega
  have ny2 : Hid (y1.size + (d1 : ByteArray).size ≤ 9223372036854775807) := by
    show _ ≤ _
    omega
  have ny3 : Hid (y2.size + (⟨#[44]⟩ : ByteArray).size ≤ 9223372036854775807) := by
    show _ ≤ _
    rw [show (⟨#[44]⟩ : ByteArray).size = 1 from rfl]
    omega
  have ny4 : Hid (y3.size + (d2 : ByteArray).size ≤ 9223372036854775807) := by
    show _ ≤ _
    omega
  have ny5 : Hid (y4.size + (⟨#[44]⟩ : ByteArray).size ≤ 9223372036854775807) := by
    show _ ≤ _
    rw [show (⟨#[44]⟩ : ByteArray).size = 1 from rfl]
    omega
  have ny6 : Hid (y5.size + (d3 : ByteArray).size ≤ 9223372036854775807) := by
    show _ ≤ _
    omega
  have HV : Hid (P.S (text [x0, x1, x2, x3]) = y6) := by
    show _ = _
    rw [← Ey6.out, ← Ey5.out, ← Ey4.out, ← Ey3.out, ← Ey2.out, ← Ey1.out, ← D0.out, ← D1.out, ← D2.out, ← D3.out]
    rw [show (⟨#[44]⟩ : ByteArray) = P.S [44] from rfl]
    simp only [P.S_append]
    congr 1
    simp [text, Lib.join]
  rw [HV.out]
  clear ha hx0 hx1 hx2 hx3 HV s0 s1 s2 s3 zy1 zy2 zy3 zy4 zy5 zy6 sc EC
  go_enter Tryd.func50, Tryd.ntmps50
  go_wp2_with (first | refine arr_box rfl .u64 37 _ rfl [x0, x1, x2, x3] rfl ?_)
  intro w1 A1 B1 Z1
  have HB1 : Hid (Below w.heap.size w w1) := B1
  have K0 : Hid (∀ u, Below w1.heap.size w1 u → u.cell? ⟨w.heap.size, 0, none⟩ = some (.int .u64 ((x0 : Nat) : Int))) := fun u hu => by
    have h := (Arr.below A1 hu (by omega)).cell 0 (by simp)
    simpa using h
  have K1 : Hid (∀ u, Below w1.heap.size w1 u → u.cell? ⟨w.heap.size, 1, none⟩ = some (.int .u64 ((x1 : Nat) : Int))) := fun u hu => by
    have h := (Arr.below A1 hu (by omega)).cell 1 (by simp)
    simpa using h
  have K2 : Hid (∀ u, Below w1.heap.size w1 u → u.cell? ⟨w.heap.size, 2, none⟩ = some (.int .u64 ((x2 : Nat) : Int))) := fun u hu => by
    have h := (Arr.below A1 hu (by omega)).cell 2 (by simp)
    simpa using h
  have K3 : Hid (∀ u, Below w1.heap.size w1 u → u.cell? ⟨w.heap.size, 3, none⟩ = some (.int .u64 ((x3 : Nat) : Int))) := fun u hu => by
    have h := (Arr.below A1 hu (by omega)).cell 3 (by simp)
    simpa using h
  have X0 : Hid (∀ u, Below w1.heap.size w1 u → Calls Tryd.prog 67 [.int .u64 ((x0 : Nat) : Int)].toArray u fun e u' => e = .returned (.string d0) ∧ Below w1.heap.size w1 u') := fun u hu => Calls.more hu (C0.out u)
  have X1 : Hid (∀ u, Below w1.heap.size w1 u → Calls Tryd.prog 67 [.int .u64 ((x1 : Nat) : Int)].toArray u fun e u' => e = .returned (.string d1) ∧ Below w1.heap.size w1 u') := fun u hu => Calls.more hu (C1.out u)
  have X2 : Hid (∀ u, Below w1.heap.size w1 u → Calls Tryd.prog 67 [.int .u64 ((x2 : Nat) : Int)].toArray u fun e u' => e = .returned (.string d2) ∧ Below w1.heap.size w1 u') := fun u hu => Calls.more hu (C2.out u)
  have X3 : Hid (∀ u, Below w1.heap.size w1 u → Calls Tryd.prog 67 [.int .u64 ((x3 : Nat) : Int)].toArray u fun e u' => e = .returned (.string d3) ∧ Below w1.heap.size w1 u') := fun u hu => Calls.more hu (C3.out u)
  clear A1 B1 Z1 C0 C1 C2 C3
  go_wp2_with fail
  refine region_w Tryd.mixed (by kernel_rfl) ?_
  refine w_value rfl (.pointer (some ⟨w.heap.size, 0, none⟩)) (fun u hu => by go_simp) (fun K hK => ?_)
  go_simp
  refine hK _ ?_
  clear hK K
  refine w_value rfl (.int .u64 ((x0 : Nat) : Int)) (fun u hu => by have hc := K0.out u hu; go_simp) (fun K hK => ?_)
  go_simp
  refine hK _ ?_
  clear hK K
  refine w_call rfl 67 Tryd.f67 Tryd.func67 rfl rfl _ _ rfl _ rfl (.string d0) (by exact X0.out) (fun K hK => ?_)
  go_simp
  refine hK _ ?_
  clear hK K
  refine w_cat rfl _ _ _ _ rfl d0 ⟨#[44]⟩ y1 rfl rfl ny1.out Ey1.out (fun K hK => ?_)
  go_simp
  refine hK _ ?_
  clear hK K
  refine w_value rfl (.pointer (some ⟨w.heap.size, 1, none⟩)) (fun u hu => by go_simp) (fun K hK => ?_)
  go_simp
  refine hK _ ?_
  clear hK K
  refine w_value rfl (.int .u64 ((x1 : Nat) : Int)) (fun u hu => by have hc := K1.out u hu; go_simp) (fun K hK => ?_)
  go_simp
  refine hK _ ?_
  clear hK K
  refine w_call rfl 67 Tryd.f67 Tryd.func67 rfl rfl _ _ rfl _ rfl (.string d1) (by exact X1.out) (fun K hK => ?_)
  go_simp
  refine hK _ ?_
  clear hK K
  refine w_cat rfl _ _ _ _ rfl y1 d1 y2 rfl rfl ny2.out Ey2.out (fun K hK => ?_)
  go_simp
  refine hK _ ?_
  clear hK K
  refine w_cat rfl _ _ _ _ rfl y2 ⟨#[44]⟩ y3 rfl rfl ny3.out Ey3.out (fun K hK => ?_)
  go_simp
  refine hK _ ?_
  clear hK K
  refine w_value rfl (.pointer (some ⟨w.heap.size, 2, none⟩)) (fun u hu => by go_simp) (fun K hK => ?_)
  go_simp
  refine hK _ ?_
  clear hK K
  refine w_value rfl (.int .u64 ((x2 : Nat) : Int)) (fun u hu => by have hc := K2.out u hu; go_simp) (fun K hK => ?_)
  go_simp
  refine hK _ ?_
  clear hK K
  refine w_call rfl 67 Tryd.f67 Tryd.func67 rfl rfl _ _ rfl _ rfl (.string d2) (by exact X2.out) (fun K hK => ?_)
  go_simp
  refine hK _ ?_
  clear hK K
  refine w_cat rfl _ _ _ _ rfl y3 d2 y4 rfl rfl ny4.out Ey4.out (fun K hK => ?_)
  go_simp
  refine hK _ ?_
  clear hK K
  refine w_cat rfl _ _ _ _ rfl y4 ⟨#[44]⟩ y5 rfl rfl ny5.out Ey5.out (fun K hK => ?_)
  go_simp
  refine hK _ ?_
  clear hK K
  refine w_value rfl (.pointer (some ⟨w.heap.size, 3, none⟩)) (fun u hu => by go_simp) (fun K hK => ?_)
  go_simp
  refine hK _ ?_
  clear hK K
  refine w_value rfl (.int .u64 ((x3 : Nat) : Int)) (fun u hu => by have hc := K3.out u hu; go_simp) (fun K hK => ?_)
  go_simp
  refine hK _ ?_
  clear hK K
  refine w_call rfl 67 Tryd.f67 Tryd.func67 rfl rfl _ _ rfl _ rfl (.string d3) (by exact X3.out) (fun K hK => ?_)
  go_simp
  refine hK _ ?_
  clear hK K
  refine w_cat rfl _ _ _ _ rfl y5 d3 y6 rfl rfl ny6.out Ey6.out (fun K hK => ?_)
  go_simp
  refine hK _ ?_
  clear hK K
  refine w_assign rfl _ rfl (.string y6) rfl (fun K hK => ?_)
  go_simp
  refine hK _ ?_
  clear hK K
  refine w_nil ?_
  intro u hu
  have HW9 : Hid (Below w.heap.size w u) := Below.trans HB1.out (hu.mono HB1.out.size)
  clear hu
  go_wp2_with fail
  go_ret
  exact ⟨rfl, HW9.out⟩
end Go.Proofs.YtnmggefbajoadaaDoor.Vc
