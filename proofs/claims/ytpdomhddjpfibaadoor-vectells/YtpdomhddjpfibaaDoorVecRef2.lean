/- The document's own answer to chapter 6: All, Put, Digits, Text. -/
import Derived.Test.YtpdomhddjpfibaaDoorVecRef

import Derived.Test.YtpdomhddjpfibaaDoorVecAllF

import Derived.Test.YtpdomhddjpfibaaDoorPackRefPut

import Derived.Test.YtpdomhddjpfibaaDoorVecFmt

import Derived.Test.YtpdomhddjpfibaaDoorVecText

namespace Go.Proofs.YtpdomhddjpfibaaDoor.Vc

open Go.RowKit

set_option linter.unusedVariables false

set_option linter.unusedSimpArgs false

set_option maxRecDepth 100000

theorem Tryd.elem_rs : Tryd.prog.elem 37 = 29 := by kernel_rfl
theorem index_rs (b o n cap j : Nat) (hj : j < n) (w : World) : (Instr.indexAt 37 (.slice (some ⟨b, o, none⟩) n cap) (.int .i64 (j : Int))).run Tryd.prog w = .ok (.pointer (some ⟨b, o + 4 * j, none⟩)) w := by
  rw [run_indexAt_slice w _ _ _ _ _ _ (by rw [Tryd.elem_rs]; exact Tryd.underlying37), Tryd.elem_rs]
  rw [if_pos ⟨by omega, by omega⟩, Tryd.sizeOf29]
  have e : (⟨b, o, none⟩ : Addr).add ((j : Int).toNat * 4) = ⟨b, o + 4 * j, none⟩ := by
    rw [Int.toNat_natCast, Nat.mul_comm]
    unfold Addr.add
    split <;> simp_all
  simp
  rw [Int.toNat_natCast] at e
  exact e
section

variable {P : Program} {ops : Array Oper} {rest : List Oper} {o : Oper} {a : Act} {w : World}

theorem still_row_load {Q : Act → Prop} (hgd : o.guard = none) (k : IntKind) (t : TypeId) (x : Operand) (ho : o.op = .load t x) (b p : Nat) (hx : a.eval x = .pointer (some ⟨b, p, none⟩)) (l : List Nat) (ha : w.rangeAt b p (ks k l))
    (n : Nat) (e : TypeId) (hu : P.underlying t = some (.array n e)) (hi : (P.info? t).map (·.size) = some l.length)
    (h : wpStill P ops w Q rest (a.put o.dst (AV k l))) : wpStill P ops w Q (o :: rest) a := by
  refine still_value hgd (AV k l) ?_ h
  have hl := run_loadAt_mid w b p t (ks k l) _ ha hu rfl (by rw [ks_length]; exact hi)
  unfold execOp
  simp only [ho, hx, Sem.run_bind, hl, Result.andThen_ok, Sem.run_pure]
  rfl
theorem w_cat {C : World → Prop} {Q : Act → Prop} (hgd : o.guard = none) (t t' : TypeId) (x y : Operand) (ho : o.op = .binOp .add t x y t') (b c r : ByteArray) (hx : a.eval x = .string b) (hy : a.eval y = .string c) (hn : b.size + c.size ≤ 9223372036854775807) (hr : b ++ c = r)
    (h : ∀ K : Act → Prop, (∀ a, WQ P ops C Q rest a → K a) → K (a.put o.dst (.string r))) : WQ P ops C Q (o :: rest) a := by
  subst hr
  exact w_concat hgd t t' x y ho b c hx hy hn h
end

theorem byte_str {ops : Array Oper} {rest : List Oper} {o : Oper} {a : Act} {w : World} {Q : Exit → Act → World → Prop} (hgd : o.guard = none) (x : Operand) (ho : o.op = .convert 70 9 x) (b : Nat) (hx : a.eval x = .slice (some ⟨b, 0, none⟩) 1 1) (c : UInt8) (hc : w.cell? ⟨b, 0, none⟩ = some (.int .u8 (c.toNat : Int)))
    (h : wpList Tryd.prog ops Q rest (a.put o.dst (.string (P.S [c]))) w) : wpList Tryd.prog ops Q (o :: rest) a w := by
  refine val_step hgd (.string (P.S [c])) ?_ h
  have e := run_convert_bytes_back (P := Tryd.prog) w 70 9 5 ⟨b, 0, none⟩ 1 [c] Tryd.underlying70 Tryd.underlying5 Tryd.underlying9 (fun j hj => by
    match j, hj with
    | 0, _ => rw [Addr.add_mid]; exact hc)
  unfold execOp
  simp only [ho, hx, Sem.run_bind]
  have e' : (convert 70 9 (.slice (some ⟨b, 0, none⟩) 1 1)).run Tryd.prog w = .ok (.string (P.S [c])) w := e
  rw [e']
  rfl
set_option maxHeartbeats 2000000 in
theorem ref_all (b o n cap : Nat) (x : List Nat) (L : List (List Nat)) (w : World) (hn : (x :: L).length = n) (hcm : n ≤ maxLen) (hL : ∀ l ∈ x :: L, l.length = 4) (hb : b < w.heap.size) (hV : Vecs w b o (x :: L)) :
    Calls Tryd.prog 19 #[.slice (some ⟨b, o, none⟩) n cap] w fun e w' => e = .returned (AV .u64 (V.all (x :: L))) ∧ Below w.heap.size w w' := by
  unfold maxLen at hcm
  obtain ⟨r, HR⟩ : ∃ r, Hid (V.all (x :: L) = r) := ⟨_, rfl⟩
  rw [HR.out]
  have hn1 : n = L.length + 1 := by rw [← hn]; rfl
  have hi0 : ∀ w, (Instr.indexAt 37 (.slice (some ⟨b, o, none⟩) n cap) (.int .i64 0)).run Tryd.prog w = .ok (.pointer (some ⟨b, o, none⟩)) w := fun w => index_rs b o n cap 0 (by omega) w
  have hne : ((n : Int) == 0) = false := by rw [beq_eq_false_iff_ne]; omega
  have HX : Hid (x.length = 4) := hL x (by simp)
  have HIx : Hid _ := size_r HX.out
  have HL : Hid (∀ l ∈ L, l.length = 4) := fun l hl => hL l (by simp [hl])
  have HV : Hid (Vecs w b o (x :: L)) := hV
  have HBW : Hid _ := hb
  have HN : Hid _ := hn1
  clear hL hV hn hn1 hb
  go_enter Tryd.func19, Tryd.ntmps19
  go_wp2_with (first | refine arr_alloc rfl .u64 29 4 rfl Tryd.info_r ?_)
  intro w1 A1 B1 Z1
  have HX1 : Hid (w1.rangeAt b o (ks .u64 x)) := Vecs.below HV.out B1 HBW.out 0 x rfl
  have HA1 : Hid (Arr .u64 w1 w.heap.size (List.replicate 4 0)) := A1
  have HB1 : Hid (Below w.heap.size w w1) := B1
  clear A1 B1
  go_wp2_with (first | refine row_load rfl .u64 29 _ rfl b o rfl x HX1.out 4 22 Tryd.underlying29 HIx.out ?_ | refine arr_alloc rfl .u64 29 4 rfl Tryd.info_r ?_)
  intro w2 A2 B2 Z2
  have HA2 : Hid (Arr .u64 w2 w.heap.size (List.replicate 4 0)) := Arr.below HA1.out B2 (by omega)
  have HB2 : Hid (Below w.heap.size w w2) := Below.trans HB1.out (B2.mono (by omega))
  have HC2 : Hid (Arr .u64 w2 (w.heap.size + 1) (List.replicate 4 0)) := by first | exact A2 | (have h := A2; rw [Z1] at h; exact h)
  have HZ2 : Hid (w2.heap.size = w.heap.size + 2) := by show _ = _; omega
  clear A2 B2 Z2 Z1 HX1 HA1 HB1
  go_wp2_with (first | refine arr_store rfl .u64 29 _ _ rfl (w.heap.size + 1) rfl x rfl _ HC2.out (by rw [HX.out]; rfl) HIx.out ?_)
  intro w3 A3 U3
  have HA3 : Hid (Arr .u64 w3 w.heap.size (List.replicate 4 0)) := Arr.upd HA2.out U3 (by omega)
  have HX3 : Hid (Arr .u64 w3 (w.heap.size + 1) x) := A3
  have HB3 : Hid (Below w.heap.size w w3) := Below.trans HB2.out (U3.below (by omega))
  have HZ3 : Hid (w.heap.size + 1 < w3.heap.size) := by have h := HZ2.out; show _ < _; rw [U3.size]; omega
  clear A3 U3 HA2 HB2 HC2 HZ2
  go_wp2_with fail
  go_loopw [4] (fun i wr => ∃ (j : Nat) (acc : List Nat), 1 ≤ j ∧ j ≤ n ∧ i = .int .i64 j ∧ Hid (acc.length = 4) ∧ Hid ((L.take (j - 1)).foldl V.meet x = acc) ∧ Hid (Arr .u64 wr w.heap.size (List.replicate 4 0)) ∧ Hid (Arr .u64 wr (w.heap.size + 1) acc) ∧ Hid (Below w.heap.size w wr) ∧ Hid (w.heap.size + 1 < wr.heap.size)) (fun i _ => n - (intOf i).toNat)
  case atStart => exact ⟨1, x, by omega, by have := HN.out; omega, rfl, HX, rfl, HA3, HX3, HB3, HZ3⟩
  case round =>
    obtain ⟨j, acc, hj1, hj, rfl, HAL, HF, HAr, HPr, HBr, HZr⟩ := hrel
    clear HA3 HX3 HB3 HZ3 hi0
    by_cases hlt : j < n
    · have ilt : (j : Int) < (n : Int) := by omega
      have hix : ∀ w, (Instr.indexAt 37 (.slice (some ⟨b, o, none⟩) n cap) (.int .i64 (j : Int))).run Tryd.prog w = .ok (.pointer (some ⟨b, o + 4 * j, none⟩)) w := fun w => index_rs b o n cap j hlt w
      have hjL : j - 1 < L.length := by have := HN.out; omega
      obtain ⟨y, hy⟩ : ∃ y, L[j - 1]? = some y := ⟨_, List.getElem?_eq_getElem hjL⟩
      have HY : Hid (y.length = 4) := HL.out y (List.mem_of_getElem? hy)
      have HIy : Hid _ := size_r HY.out
      have HIa : Hid _ := size_r HAL.out
      have HROW : Hid (wr.drew.rangeAt b (o + 4 * j) (ks .u64 y)) := by
        have h := (Vecs.below HV.out HBr.out HBW.out).drew j y (by rw [show j = (j - 1) + 1 by omega, List.getElem?_cons_succ]; exact hy)
        exact h
      have C := Lib.hid (fun w => ref_meet acc y w HAL.out HY.out)
      have HM : Hid _ := V.meet_length HAL.out HY.out
      have HIm : Hid _ := size_r HM.out
      have HF' : Hid ((L.take (j + 1 - 1)).foldl V.meet x = V.meet acc y) := by
        show _ = _
        rw [show j + 1 - 1 = (j - 1) + 1 by omega, List.take_add_one, hy, Option.toList_some, List.foldl_append, HF.out]
        rfl
      have HPd : Hid (Arr .u64 wr.drew (w.heap.size + 1) acc) := Arr.drew HPr.out
      have HAd : Hid (Arr .u64 wr.drew w.heap.size (List.replicate 4 0)) := Arr.drew HAr.out
      have HBd : Hid (Below w.heap.size w wr.drew) := Below.drew HBr.out
      have HZd : Hid (w.heap.size + 1 < wr.drew.heap.size) := HZr.out
      clear hy
      generalize V.meet acc y = nx at *
      go_wp2_with fail
      refine region_tail 5 Tryd.mixed (by kernel_rfl) ?_
      simp only [List.take_succ_cons, List.take_zero, List.drop_succ_cons, List.drop_zero]
      refine still_arr_load rfl .u64 29 _ rfl (w.heap.size + 1) rfl acc HPd.out 4 22 Tryd.underlying29 HIa.out ?_
      still_step
      still_step
      still_step
      refine still_row_load rfl .u64 29 _ rfl b (o + 4 * j) rfl y HROW.out 4 22 Tryd.underlying29 HIy.out ?_
      refine wpStill_nil ?_
      go_wp2_with fail
      refine (C.out wr.drew).mono ?_; rintro e w5 ⟨rfl, hb5⟩
      have HP5 : Hid (Arr .u64 w5 (w.heap.size + 1) acc) := Arr.below HPd.out hb5 HZd.out
      have HA5 : Hid (Arr .u64 w5 w.heap.size (List.replicate 4 0)) := Arr.below HAd.out hb5 (Nat.lt_trans (Nat.lt_succ_self _) HZd.out)
      have HB5 : Hid (Below w.heap.size w w5) := Below.trans HBd.out (hb5.mono HBd.out.size)
      have HZ5 : Hid (w.heap.size + 1 < w5.heap.size) := Nat.lt_of_lt_of_le HZd.out hb5.size
      clear hb5 HPd HAd HBd HZd HPr HAr HBr HZr HROW
      go_wp2_with (first | refine arr_store rfl .u64 29 _ _ rfl (w.heap.size + 1) rfl nx rfl _ HP5.out (by rw [HAL.out]; exact HM.out) HIm.out ?_)
      intro w6 A6 U6
      have HP6 : Hid (Arr .u64 w6 (w.heap.size + 1) nx) := A6
      have HA6 : Hid (Arr .u64 w6 w.heap.size (List.replicate 4 0)) := Arr.upd HA5.out U6 (by omega)
      have HB6 : Hid (Below w.heap.size w w6) := Below.trans HB5.out (U6.below (by omega))
      have HZ6 : Hid (w.heap.size + 1 < w6.heap.size) := by show _ < _; rw [U6.size]; exact HZ5.out
      clear A6 U6
      go_wp2_with fail
      go_roundw
      case rel => exact ⟨j + 1, nx, by omega, by omega, by go_num, HM, HF', HA6, HP6, HB6, HZ6⟩
      case measure => simp [intOf]; omega
    · have ilt : ¬ (j : Int) < (n : Int) := by omega
      have HE : Hid (acc = r) := by
        show _ = _
        rw [← HF.out, ← HR.out, List.take_of_length_le (by have := HN.out; omega)]
        rfl
      rw [HE.out] at HAL HPr
      have HIr : Hid _ := size_r HAL.out
      go_wp2_with (first | refine arr_load rfl .u64 29 _ rfl (w.heap.size + 1) rfl r HPr.out 4 22 Tryd.underlying29 HIr.out ?_ | refine arr_store rfl .u64 29 _ _ rfl w.heap.size rfl r rfl _ HAr.out (by rw [HAL.out]; rfl) HIr.out ?_)
      intro w6 A6 U6
      have HA6 : Hid (Arr .u64 w6 w.heap.size r) := A6
      have HB6 : Hid (Below w.heap.size w w6) := Below.trans HBr.out (U6.below (by omega))
      clear A6 U6
      go_wp2_with fail
      refine bodyPost_ret (v := AV .u64 r) ?_ rfl ⟨rfl, HB6.out⟩
      exact res_arr (t := 29) Tryd.results19 _ .u64 w.heap.size rfl r HA6.out 4 22 Tryd.underlying29 HIr.out
theorem digs_eq (n : Nat) : Fm.digs n = (if n < 10 then [] else Fm.digs (n / 10)) ++ [UInt8.ofNat (48 + n % 10)] := by
  unfold Fm.digs
  by_cases h : n < 10
  · rw [Lib.decDigits, dif_pos h, if_pos h, Nat.mod_eq_of_lt h]; rfl
  · rw [Lib.decDigits, dif_neg h, if_neg h]
theorem digit (n : Nat) : ∃ (d : Nat) (c : UInt8), (n : Int).tmod 10 = (d : Int) ∧ (48 : Int) + (d : Int) = (c.toNat : Int) ∧ IntKind.u64.wrap (c.toNat : Int) = c.toNat ∧ IntKind.u8.wrap (c.toNat : Int) = c.toNat ∧ Hid (UInt8.ofNat (48 + n % 10) = c) ∧ IntKind.u64.wrap (d : Int) = d := by
  have hc : (UInt8.ofNat (48 + n % 10)).toNat = 48 + n % 10 := UInt8.toNat_ofNat_of_lt' (by show _ < 256; omega)
  refine ⟨n % 10, UInt8.ofNat (48 + n % 10), ?_, ?_, ?_, ?_, rfl, ?_⟩
  · rw [Int.tmod_eq_emod_of_nonneg (by omega)]; rfl
  · rw [hc]; omega
  · rw [hc]; exact IntWalk.u64_in _ ⟨by omega, by omega⟩
  · rw [hc]; exact IntWalk.u8_in _ ⟨by omega, by omega⟩
  · exact IntWalk.u64_in _ ⟨by omega, by omega⟩
set_option maxHeartbeats 2000000 in
theorem ref_digits (n0 : Nat) (w : World) (h0 : n0 < 2 ^ 64) :
    Calls Tryd.prog 43 #[.int .u64 n0] w fun e w' => e = .returned (.string (P.S (Fm.digs n0))) ∧ Below w.heap.size w w' := by
  obtain ⟨r, HR⟩ : ∃ r, Hid (Fm.digs n0 = r) := ⟨_, rfl⟩
  have HL : Hid (r.length ≤ 20) := by show _ ≤ _; rw [← HR.out]; exact Fm.digs_len n0 h0
  have H0 : Hid _ := h0
  obtain ⟨d, c, ex, ec, e1, e2, HC, e3⟩ := digit n0
  have HD : Hid (r = (if n0 < 10 then [] else Fm.digs (n0 / 10)) ++ [c]) := by
    show _ = _
    rw [← HR.out, digs_eq, HC.out]
  rw [HR.out]
  clear h0 HC
  go_enter Tryd.func43, Tryd.ntmps43
  go_wp2_with (first | refine byte_str rfl _ rfl w.heap.size rfl c (by simp [go_sem]) ?_)
  go_loopw [0, 3] (fun v s wr => ∃ (n : Nat) (t : List UInt8), v = .int .u64 n ∧ s = .string (P.S t) ∧ Hid (n < 2 ^ 64) ∧ Hid (r = (if n < 10 then [] else Fm.digs (n / 10)) ++ t) ∧ Hid (Below w.heap.size w wr)) (fun v _ _ => (intOf v).toNat)
  case atStart => exact ⟨n0, [c], rfl, rfl, H0, HD, (Below.refl _ _).alloc (Nat.le_refl _) _⟩
  case round =>
    clear ex ec e1 e2 e3 HD H0
    obtain ⟨n, t, rfl, rfl, HN, HD, HB⟩ := hrel
    have hz := HB.out.size
    by_cases hlt : n < 10
    · have ilt : ¬ (9 < (n : Int)) := by omega
      have HE : Hid (t = r) := by show _ = _; rw [HD.out, if_pos hlt]; rfl
      go_wp2_with fail
      go_ret
      rw [HE.out]
      exact ⟨rfl, HB.out⟩
    · have ilt : 9 < (n : Int) := by omega
      have eq : (n : Int).tdiv 10 = ((n / 10 : Nat) : Int) := by rw [Int.tdiv_eq_ediv_of_nonneg (by omega)]; rfl
      have HN' : Hid (n / 10 < 2 ^ 64) := by have := HN.out; show _ < _; omega
      have hdec : n / 10 < n := by omega
      have HT : Hid (t.length ≤ 20) := by have h := HL.out; rw [HD.out, List.length_append] at h; show _ ≤ _; omega
      have ht : (P.S t).size ≤ 20 := by rw [P.S_size]; exact HT.out
      have HD0 : Hid (r = Fm.digs (n / 10) ++ t) := by have h := HD.out; rw [if_neg hlt] at h; exact h
      generalize n / 10 = m at *
      obtain ⟨d, c, ex, ec, e1, e2, HC, e3⟩ := digit m
      have HD' : Hid (r = (if m < 10 then [] else Fm.digs (m / 10)) ++ (c :: t)) := by
        show _ = _
        rw [HD0.out, digs_eq, HC.out, List.append_assoc]; rfl
      have hm : (m : Int) ≤ 18446744073709551615 := by have := HN'.out; omega
      have ES : Hid (P.S [c] ++ P.S t = P.S (c :: t)) := by show _ = _; rw [P.S_append]; rfl
      have hsum : (P.S [c]).size + (P.S t).size ≤ 9223372036854775807 := by rw [P.S_size [c]]; simp only [List.length_singleton]; omega
      have HBA : Hid (∀ o, Below w.heap.size w (wr.alloc o)) := fun o => HB.out.alloc HB.out.size o
      clear HD0 HC HD HN
      go_wp2_with (first | refine byte_str rfl _ rfl wr.heap.size rfl c (by simp [go_sem]) ?_)
      go_roundw
      case rel => exact ⟨m, c :: t, rfl, by rw [ES.out], HN', HD', HBA.out _⟩
      case measure => simp [intOf]; omega
set_option maxHeartbeats 2000000 in
theorem ref_put (a : List Nat) (w : World) (ha : V.Ok a) :
    Calls Tryd.prog 29 #[AV .u64 a] w fun e w' => e = .returned (.string (P.S (V.put a))) ∧ Below w.heap.size w w' := by
  have hlt := ha.lt
  obtain ⟨x0, x1, x2, x3, rfl⟩ := V.four ha.len
  simp only [List.mem_cons, List.not_mem_nil, or_false, forall_eq_or_imp, forall_eq] at hlt
  obtain ⟨hx0, hx1, hx2, hx3⟩ := hlt
  have C0 := Lib.hid (fun w => Pk.ref_vary_any x0 w hx0)
  have s0 : (P.S (P.vary x0)).size ≤ 10 := by rw [P.S_size]; exact P.vary_le x0
  obtain ⟨d0, D0⟩ : ∃ r, Hid (P.S (P.vary x0) = r) := ⟨_, rfl⟩
  rw [D0.out] at C0 s0
  have C1 := Lib.hid (fun w => Pk.ref_vary_any x1 w hx1)
  have s1 : (P.S (P.vary x1)).size ≤ 10 := by rw [P.S_size]; exact P.vary_le x1
  obtain ⟨d1, D1⟩ : ∃ r, Hid (P.S (P.vary x1) = r) := ⟨_, rfl⟩
  rw [D1.out] at C1 s1
  have C2 := Lib.hid (fun w => Pk.ref_vary_any x2 w hx2)
  have s2 : (P.S (P.vary x2)).size ≤ 10 := by rw [P.S_size]; exact P.vary_le x2
  obtain ⟨d2, D2⟩ : ∃ r, Hid (P.S (P.vary x2) = r) := ⟨_, rfl⟩
  rw [D2.out] at C2 s2
  have C3 := Lib.hid (fun w => Pk.ref_vary_any x3 w hx3)
  have s3 : (P.S (P.vary x3)).size ≤ 10 := by rw [P.S_size]; exact P.vary_le x3
  obtain ⟨d3, D3⟩ : ∃ r, Hid (P.S (P.vary x3) = r) := ⟨_, rfl⟩
  rw [D3.out] at C3 s3
  obtain ⟨y1, Ey1⟩ : ∃ r, Hid (d0 ++ d1 = r) := ⟨_, rfl⟩
  have zy1 : y1.size = d0.size + (d1 : ByteArray).size := by rw [← Ey1.out, ByteArray.size_append]
  obtain ⟨y2, Ey2⟩ : ∃ r, Hid (y1 ++ d2 = r) := ⟨_, rfl⟩
  have zy2 : y2.size = y1.size + (d2 : ByteArray).size := by rw [← Ey2.out, ByteArray.size_append]
  obtain ⟨y3, Ey3⟩ : ∃ r, Hid (y2 ++ d3 = r) := ⟨_, rfl⟩
  have zy3 : y3.size = y2.size + (d3 : ByteArray).size := by rw [← Ey3.out, ByteArray.size_append]
  have ny1 : Hid (d0.size + (d1 : ByteArray).size ≤ 9223372036854775807) := by
    show _ ≤ _
    omega
  have ny2 : Hid (y1.size + (d2 : ByteArray).size ≤ 9223372036854775807) := by
    show _ ≤ _
    omega
  have ny3 : Hid (y2.size + (d3 : ByteArray).size ≤ 9223372036854775807) := by
    show _ ≤ _
    omega
  have HV : Hid (P.S (V.put [x0, x1, x2, x3]) = y3) := by
    show _ = _
    rw [← Ey3.out, ← Ey2.out, ← Ey1.out, ← D0.out, ← D1.out, ← D2.out, ← D3.out]
    simp only [P.S_append]
    congr 1
    simp [V.put]
  rw [HV.out]
  clear ha hx0 hx1 hx2 hx3 HV s0 s1 s2 s3 zy1 zy2 zy3
  go_enter Tryd.func29, Tryd.ntmps29
  go_wp2_with (first | refine arr_box rfl .u64 29 _ rfl [x0, x1, x2, x3] rfl ?_)
  intro w1 A1 B1 Z1
  have HB1 : Hid (Below w.heap.size w w1) := B1
  have K0 : Hid (∀ u, Below w1.heap.size w1 u → u.cell? ⟨w.heap.size, 0, none⟩ = some (.int .u64 ((x0 : Nat) : Int))) := fun u hu => by
    have h := (Arr.below A1 hu (by omega)).cell 0 (by simp)
    simpa using h
  have K1 : Hid (∀ u, Below w1.heap.size w1 u → u.cell? ⟨w.heap.size, 1, none⟩ = some (.int .u64 ((x1 : Nat) : Int))) := fun u hu => by
    have h := (Arr.below A1 hu (by omega)).cell 1 (by simp)
    simpa using h
  have K2 : Hid (∀ u, Below w1.heap.size w1 u → u.cell? ⟨w.heap.size, 2, none⟩ = some (.int .u64 ((x2 : Nat) : Int))) := fun u hu => by
    have h := (Arr.below A1 hu (by omega)).cell 2 (by simp)
    simpa using h
  have K3 : Hid (∀ u, Below w1.heap.size w1 u → u.cell? ⟨w.heap.size, 3, none⟩ = some (.int .u64 ((x3 : Nat) : Int))) := fun u hu => by
    have h := (Arr.below A1 hu (by omega)).cell 3 (by simp)
    simpa using h
  have X0 : Hid (∀ u, Below w1.heap.size w1 u → Calls Tryd.prog 40 [.int .u64 ((x0 : Nat) : Int)].toArray u fun e u' => e = .returned (.string d0) ∧ Below w1.heap.size w1 u') := fun u hu => Calls.more hu (C0.out u)
  have X1 : Hid (∀ u, Below w1.heap.size w1 u → Calls Tryd.prog 40 [.int .u64 ((x1 : Nat) : Int)].toArray u fun e u' => e = .returned (.string d1) ∧ Below w1.heap.size w1 u') := fun u hu => Calls.more hu (C1.out u)
  have X2 : Hid (∀ u, Below w1.heap.size w1 u → Calls Tryd.prog 40 [.int .u64 ((x2 : Nat) : Int)].toArray u fun e u' => e = .returned (.string d2) ∧ Below w1.heap.size w1 u') := fun u hu => Calls.more hu (C2.out u)
  have X3 : Hid (∀ u, Below w1.heap.size w1 u → Calls Tryd.prog 40 [.int .u64 ((x3 : Nat) : Int)].toArray u fun e u' => e = .returned (.string d3) ∧ Below w1.heap.size w1 u') := fun u hu => Calls.more hu (C3.out u)
  clear A1 B1 Z1 C0 C1 C2 C3
  go_wp2_with fail
  refine region_w Tryd.mixed (by kernel_rfl) ?_
  refine w_value rfl (.pointer (some ⟨w.heap.size, 0, none⟩)) (fun u hu => by go_simp) (fun K hK => ?_)
  go_simp
  refine hK _ ?_
  clear hK K
  refine w_value rfl (.int .u64 ((x0 : Nat) : Int)) (fun u hu => by have hc := K0.out u hu; go_simp) (fun K hK => ?_)
  go_simp
  refine hK _ ?_
  clear hK K
  refine w_call rfl 40 Tryd.f40 Tryd.func40 rfl rfl _ _ rfl _ rfl (.string d0) (by exact X0.out) (fun K hK => ?_)
  go_simp
  refine hK _ ?_
  clear hK K
  refine w_value rfl (.pointer (some ⟨w.heap.size, 1, none⟩)) (fun u hu => by go_simp) (fun K hK => ?_)
  go_simp
  refine hK _ ?_
  clear hK K
  refine w_value rfl (.int .u64 ((x1 : Nat) : Int)) (fun u hu => by have hc := K1.out u hu; go_simp) (fun K hK => ?_)
  go_simp
  refine hK _ ?_
  clear hK K
  refine w_call rfl 40 Tryd.f40 Tryd.func40 rfl rfl _ _ rfl _ rfl (.string d1) (by exact X1.out) (fun K hK => ?_)
  go_simp
  refine hK _ ?_
  clear hK K
  refine w_cat rfl _ _ _ _ rfl d0 d1 y1 rfl rfl ny1.out Ey1.out (fun K hK => ?_)
  go_simp
  refine hK _ ?_
  clear hK K
  refine w_value rfl (.pointer (some ⟨w.heap.size, 2, none⟩)) (fun u hu => by go_simp) (fun K hK => ?_)
  go_simp
  refine hK _ ?_
  clear hK K
  refine w_value rfl (.int .u64 ((x2 : Nat) : Int)) (fun u hu => by have hc := K2.out u hu; go_simp) (fun K hK => ?_)
  go_simp
  refine hK _ ?_
  clear hK K
  refine w_call rfl 40 Tryd.f40 Tryd.func40 rfl rfl _ _ rfl _ rfl (.string d2) (by exact X2.out) (fun K hK => ?_)
  go_simp
  refine hK _ ?_
  clear hK K
  refine w_cat rfl _ _ _ _ rfl y1 d2 y2 rfl rfl ny2.out Ey2.out (fun K hK => ?_)
  go_simp
  refine hK _ ?_
  clear hK K
  refine w_value rfl (.pointer (some ⟨w.heap.size, 3, none⟩)) (fun u hu => by go_simp) (fun K hK => ?_)
  go_simp
  refine hK _ ?_
  clear hK K
  refine w_value rfl (.int .u64 ((x3 : Nat) : Int)) (fun u hu => by have hc := K3.out u hu; go_simp) (fun K hK => ?_)
  go_simp
  refine hK _ ?_
  clear hK K
  refine w_call rfl 40 Tryd.f40 Tryd.func40 rfl rfl _ _ rfl _ rfl (.string d3) (by exact X3.out) (fun K hK => ?_)
  go_simp
  refine hK _ ?_
  clear hK K
  refine w_cat rfl _ _ _ _ rfl y2 d3 y3 rfl rfl ny3.out Ey3.out (fun K hK => ?_)
  go_simp
  refine hK _ ?_
  clear hK K
  refine w_assign rfl _ rfl (.string y3) rfl (fun K hK => ?_)
  go_simp
  refine hK _ ?_
  clear hK K
  refine w_nil ?_
  intro u hu
  have HW9 : Hid (Below w.heap.size w u) := Below.trans HB1.out (hu.mono HB1.out.size)
  clear hu
  go_wp2_with fail
  go_ret
  exact ⟨rfl, HW9.out⟩
set_option maxHeartbeats 2000000 in
theorem ref_text (a : List Nat) (w : World) (ha : V.Ok a) :
    Calls Tryd.prog 31 #[AV .u64 a] w fun e w' => e = .returned (.string (P.S (text a))) ∧ Below w.heap.size w w' := by
  have hlt := ha.lt
  obtain ⟨x0, x1, x2, x3, rfl⟩ := V.four ha.len
  simp only [List.mem_cons, List.not_mem_nil, or_false, forall_eq_or_imp, forall_eq] at hlt
  obtain ⟨hx0, hx1, hx2, hx3⟩ := hlt
  have C0 := Lib.hid (fun w => ref_digits x0 w hx0)
  have s0 : (P.S (Fm.digs x0)).size ≤ 20 := by rw [P.S_size]; exact Fm.digs_len x0 hx0
  obtain ⟨d0, D0⟩ : ∃ r, Hid (P.S (Fm.digs x0) = r) := ⟨_, rfl⟩
  rw [D0.out] at C0 s0
  have C1 := Lib.hid (fun w => ref_digits x1 w hx1)
  have s1 : (P.S (Fm.digs x1)).size ≤ 20 := by rw [P.S_size]; exact Fm.digs_len x1 hx1
  obtain ⟨d1, D1⟩ : ∃ r, Hid (P.S (Fm.digs x1) = r) := ⟨_, rfl⟩
  rw [D1.out] at C1 s1
  have C2 := Lib.hid (fun w => ref_digits x2 w hx2)
  have s2 : (P.S (Fm.digs x2)).size ≤ 20 := by rw [P.S_size]; exact Fm.digs_len x2 hx2
  obtain ⟨d2, D2⟩ : ∃ r, Hid (P.S (Fm.digs x2) = r) := ⟨_, rfl⟩
  rw [D2.out] at C2 s2
  have C3 := Lib.hid (fun w => ref_digits x3 w hx3)
  have s3 : (P.S (Fm.digs x3)).size ≤ 20 := by rw [P.S_size]; exact Fm.digs_len x3 hx3
  obtain ⟨d3, D3⟩ : ∃ r, Hid (P.S (Fm.digs x3) = r) := ⟨_, rfl⟩
  rw [D3.out] at C3 s3
  obtain ⟨cm, EC⟩ : ∃ r, Hid ((⟨#[44]⟩ : ByteArray) = r) := ⟨_, rfl⟩
  have sc : cm.size = 1 := by rw [← EC.out]; rfl
  obtain ⟨y1, Ey1⟩ : ∃ r, Hid (d0 ++ ⟨#[44]⟩ = r) := ⟨_, rfl⟩
  have zy1 : y1.size = d0.size + (⟨#[44]⟩ : ByteArray).size := by rw [← Ey1.out, ByteArray.size_append]
  rw [show (⟨#[44]⟩ : ByteArray).size = 1 from rfl] at zy1
  obtain ⟨y2, Ey2⟩ : ∃ r, Hid (y1 ++ d1 = r) := ⟨_, rfl⟩
  have zy2 : y2.size = y1.size + (d1 : ByteArray).size := by rw [← Ey2.out, ByteArray.size_append]
  obtain ⟨y3, Ey3⟩ : ∃ r, Hid (y2 ++ ⟨#[44]⟩ = r) := ⟨_, rfl⟩
  have zy3 : y3.size = y2.size + (⟨#[44]⟩ : ByteArray).size := by rw [← Ey3.out, ByteArray.size_append]
  rw [show (⟨#[44]⟩ : ByteArray).size = 1 from rfl] at zy3
  obtain ⟨y4, Ey4⟩ : ∃ r, Hid (y3 ++ d2 = r) := ⟨_, rfl⟩
  have zy4 : y4.size = y3.size + (d2 : ByteArray).size := by rw [← Ey4.out, ByteArray.size_append]
  obtain ⟨y5, Ey5⟩ : ∃ r, Hid (y4 ++ ⟨#[44]⟩ = r) := ⟨_, rfl⟩
  have zy5 : y5.size = y4.size + (⟨#[44]⟩ : ByteArray).size := by rw [← Ey5.out, ByteArray.size_append]
  rw [show (⟨#[44]⟩ : ByteArray).size = 1 from rfl] at zy5
  obtain ⟨y6, Ey6⟩ : ∃ r, Hid (y5 ++ d3 = r) := ⟨_, rfl⟩
  have zy6 : y6.size = y5.size + (d3 : ByteArray).size := by rw [← Ey6.out, ByteArray.size_append]
  have ny1 : Hid (d0.size + (⟨#[44]⟩ : ByteArray).size ≤ 9223372036854775807) := by
    show _ ≤ _
    rw [show (⟨#[44]⟩ : ByteArray).size = 1 from rfl]
    omega
  have ny2 : Hid (y1.size + (d1 : ByteArray).size ≤ 9223372036854775807) := by
    show _ ≤ _
    omega
  have ny3 : Hid (y2.size + (⟨#[44]⟩ : ByteArray).size ≤ 9223372036854775807) := by
    show _ ≤ _
    rw [show (⟨#[44]⟩ : ByteArray).size = 1 from rfl]
    omega
  have ny4 : Hid (y3.size + (d2 : ByteArray).size ≤ 9223372036854775807) := by
    show _ ≤ _
    omega
  have ny5 : Hid (y4.size + (⟨#[44]⟩ : ByteArray).size ≤ 9223372036854775807) := by
    show _ ≤ _
    rw [show (⟨#[44]⟩ : ByteArray).size = 1 from rfl]
    omega
  have ny6 : Hid (y5.size + (d3 : ByteArray).size ≤ 9223372036854775807) := by
    show _ ≤ _
    omega
  have HV : Hid (P.S (text [x0, x1, x2, x3]) = y6) := by
    show _ = _
    rw [← Ey6.out, ← Ey5.out, ← Ey4.out, ← Ey3.out, ← Ey2.out, ← Ey1.out, ← D0.out, ← D1.out, ← D2.out, ← D3.out]
    rw [show (⟨#[44]⟩ : ByteArray) = P.S [44] from rfl]
    simp only [P.S_append]
    congr 1
    simp [text, Lib.join]
  rw [HV.out]
  clear ha hx0 hx1 hx2 hx3 HV s0 s1 s2 s3 zy1 zy2 zy3 zy4 zy5 zy6 sc EC
  go_enter Tryd.func31, Tryd.ntmps31
  go_wp2_with (first | refine arr_box rfl .u64 29 _ rfl [x0, x1, x2, x3] rfl ?_)
  intro w1 A1 B1 Z1
  have HB1 : Hid (Below w.heap.size w w1) := B1
  have K0 : Hid (∀ u, Below w1.heap.size w1 u → u.cell? ⟨w.heap.size, 0, none⟩ = some (.int .u64 ((x0 : Nat) : Int))) := fun u hu => by
    have h := (Arr.below A1 hu (by omega)).cell 0 (by simp)
    simpa using h
  have K1 : Hid (∀ u, Below w1.heap.size w1 u → u.cell? ⟨w.heap.size, 1, none⟩ = some (.int .u64 ((x1 : Nat) : Int))) := fun u hu => by
    have h := (Arr.below A1 hu (by omega)).cell 1 (by simp)
    simpa using h
  have K2 : Hid (∀ u, Below w1.heap.size w1 u → u.cell? ⟨w.heap.size, 2, none⟩ = some (.int .u64 ((x2 : Nat) : Int))) := fun u hu => by
    have h := (Arr.below A1 hu (by omega)).cell 2 (by simp)
    simpa using h
  have K3 : Hid (∀ u, Below w1.heap.size w1 u → u.cell? ⟨w.heap.size, 3, none⟩ = some (.int .u64 ((x3 : Nat) : Int))) := fun u hu => by
    have h := (Arr.below A1 hu (by omega)).cell 3 (by simp)
    simpa using h
  have X0 : Hid (∀ u, Below w1.heap.size w1 u → Calls Tryd.prog 43 [.int .u64 ((x0 : Nat) : Int)].toArray u fun e u' => e = .returned (.string d0) ∧ Below w1.heap.size w1 u') := fun u hu => Calls.more hu (C0.out u)
  have X1 : Hid (∀ u, Below w1.heap.size w1 u → Calls Tryd.prog 43 [.int .u64 ((x1 : Nat) : Int)].toArray u fun e u' => e = .returned (.string d1) ∧ Below w1.heap.size w1 u') := fun u hu => Calls.more hu (C1.out u)
  have X2 : Hid (∀ u, Below w1.heap.size w1 u → Calls Tryd.prog 43 [.int .u64 ((x2 : Nat) : Int)].toArray u fun e u' => e = .returned (.string d2) ∧ Below w1.heap.size w1 u') := fun u hu => Calls.more hu (C2.out u)
  have X3 : Hid (∀ u, Below w1.heap.size w1 u → Calls Tryd.prog 43 [.int .u64 ((x3 : Nat) : Int)].toArray u fun e u' => e = .returned (.string d3) ∧ Below w1.heap.size w1 u') := fun u hu => Calls.more hu (C3.out u)
  clear A1 B1 Z1 C0 C1 C2 C3
  go_wp2_with fail
  refine region_w Tryd.mixed (by kernel_rfl) ?_
  refine w_value rfl (.pointer (some ⟨w.heap.size, 0, none⟩)) (fun u hu => by go_simp) (fun K hK => ?_)
  go_simp
  refine hK _ ?_
  clear hK K
  refine w_value rfl (.int .u64 ((x0 : Nat) : Int)) (fun u hu => by have hc := K0.out u hu; go_simp) (fun K hK => ?_)
  go_simp
  refine hK _ ?_
  clear hK K
  refine w_call rfl 43 Tryd.f43 Tryd.func43 rfl rfl _ _ rfl _ rfl (.string d0) (by exact X0.out) (fun K hK => ?_)
  go_simp
  refine hK _ ?_
  clear hK K
  refine w_cat rfl _ _ _ _ rfl d0 ⟨#[44]⟩ y1 rfl rfl ny1.out Ey1.out (fun K hK => ?_)
  go_simp
  refine hK _ ?_
  clear hK K
  refine w_value rfl (.pointer (some ⟨w.heap.size, 1, none⟩)) (fun u hu => by go_simp) (fun K hK => ?_)
  go_simp
  refine hK _ ?_
  clear hK K
  refine w_value rfl (.int .u64 ((x1 : Nat) : Int)) (fun u hu => by have hc := K1.out u hu; go_simp) (fun K hK => ?_)
  go_simp
  refine hK _ ?_
  clear hK K
  refine w_call rfl 43 Tryd.f43 Tryd.func43 rfl rfl _ _ rfl _ rfl (.string d1) (by exact X1.out) (fun K hK => ?_)
  go_simp
  refine hK _ ?_
  clear hK K
  refine w_cat rfl _ _ _ _ rfl y1 d1 y2 rfl rfl ny2.out Ey2.out (fun K hK => ?_)
  go_simp
  refine hK _ ?_
  clear hK K
  refine w_cat rfl _ _ _ _ rfl y2 ⟨#[44]⟩ y3 rfl rfl ny3.out Ey3.out (fun K hK => ?_)
  go_simp
  refine hK _ ?_
  clear hK K
  refine w_value rfl (.pointer (some ⟨w.heap.size, 2, none⟩)) (fun u hu => by go_simp) (fun K hK => ?_)
  go_simp
  refine hK _ ?_
  clear hK K
  refine w_value rfl (.int .u64 ((x2 : Nat) : Int)) (fun u hu => by have hc := K2.out u hu; go_simp) (fun K hK => ?_)
  go_simp
  refine hK _ ?_
  clear hK K
  refine w_call rfl 43 Tryd.f43 Tryd.func43 rfl rfl _ _ rfl _ rfl (.string d2) (by exact X2.out) (fun K hK => ?_)
  go_simp
  refine hK _ ?_
  clear hK K
  refine w_cat rfl _ _ _ _ rfl y3 d2 y4 rfl rfl ny4.out Ey4.out (fun K hK => ?_)
  go_simp
  refine hK _ ?_
  clear hK K
  refine w_cat rfl _ _ _ _ rfl y4 ⟨#[44]⟩ y5 rfl rfl ny5.out Ey5.out (fun K hK => ?_)
  go_simp
  refine hK _ ?_
  clear hK K
  refine w_value rfl (.pointer (some ⟨w.heap.size, 3, none⟩)) (fun u hu => by go_simp) (fun K hK => ?_)
  go_simp
  refine hK _ ?_
  clear hK K
  refine w_value rfl (.int .u64 ((x3 : Nat) : Int)) (fun u hu => by have hc := K3.out u hu; go_simp) (fun K hK => ?_)
  go_simp
  refine hK _ ?_
  clear hK K
  refine w_call rfl 43 Tryd.f43 Tryd.func43 rfl rfl _ _ rfl _ rfl (.string d3) (by exact X3.out) (fun K hK => ?_)
  go_simp
  refine hK _ ?_
  clear hK K
  refine w_cat rfl _ _ _ _ rfl y5 d3 y6 rfl rfl ny6.out Ey6.out (fun K hK => ?_)
  go_simp
  refine hK _ ?_
  clear hK K
  refine w_assign rfl _ rfl (.string y6) rfl (fun K hK => ?_)
  go_simp
  refine hK _ ?_
  clear hK K
  refine w_nil ?_
  intro u hu
  have HW9 : Hid (Below w.heap.size w u) := Below.trans HB1.out (hu.mono HB1.out.size)
  clear hu
  go_wp2_with fail
  go_ret
  exact ⟨rfl, HW9.out⟩
end Go.Proofs.YtpdomhddjpfibaaDoor.Vc
