/- vec: All. -/
import Derived.Test.YtkiaehehckmpnaaVecOps

namespace Go.Proofs.Ytkiaehehckmpnaa.Vc

open Go.RowKit

set_option linter.unusedVariables false

set_option linter.unusedSimpArgs false

set_option maxRecDepth 100000

/-- vectors that lie one behind the other, from o on in block b -/
def Vecs (w : World) (b o : Nat) (L : List (List Nat)) : Prop := ∀ i l, L[i]? = some l → w.rangeAt b (o + 4 * i) (ks .u64 l)
theorem Vecs.below {w w' : World} {b o B : Nat} {L : List (List Nat)} (h : Vecs w b o L) (hb : Below B w w') (hB : b < B) : Vecs w' b o L :=
  fun i l hl j v hv => by rw [hb.cell (p := ⟨b, o + 4 * i + j, none⟩) hB]; exact h i l hl j v hv
theorem Vecs.drew {w : World} {b o : Nat} {L : List (List Nat)} (h : Vecs w b o L) : Vecs w.drew b o L := fun i l hl => by simpa using h i l hl
section

variable {P : Program} {ops : Array Oper} {rest : List Oper} {o : Oper} {a : Act} {w : World} {Q : Exit → Act → World → Prop}

theorem row_load (hgd : o.guard = none) (k : IntKind) (t : TypeId) (x : Operand) (ho : o.op = .load t x) (b p : Nat) (hx : a.eval x = .pointer (some ⟨b, p, none⟩)) (l : List Nat) (ha : w.rangeAt b p (ks k l))
    (n : Nat) (e : TypeId) (hu : P.underlying t = some (.array n e)) (hi : (P.info? t).map (·.size) = some l.length)
    (h : wpList P ops Q rest (a.put o.dst (AV k l)) w) : wpList P ops Q (o :: rest) a w :=
  wpList_load_mid hgd t x ho b p hx (ks k l) _ ha hu rfl (by rw [ks_length]; exact hi) h
end

theorem Try.elem_s : Try.prog.elem 110 = 25 := by kernel_rfl
theorem index_s (b o n cap j : Nat) (hj : j < n) (w : World) : (Instr.indexAt 110 (.slice (some ⟨b, o, none⟩) n cap) (.int .i64 (j : Int))).run Try.prog w = .ok (.pointer (some ⟨b, o + 4 * j, none⟩)) w := by
  rw [run_indexAt_slice w _ _ _ _ _ _ (by rw [Try.elem_s]; exact Try.underlying110), Try.elem_s]
  rw [if_pos ⟨by omega, by omega⟩, Try.sizeOf25]
  have e : (⟨b, o, none⟩ : Addr).add ((j : Int).toNat * 4) = ⟨b, o + 4 * j, none⟩ := by
    rw [Int.toNat_natCast, Nat.mul_comm]
    unfold Addr.add
    split <;> simp_all
  simp
  rw [Int.toNat_natCast] at e
  exact e
theorem from_s (b o n cap : Nat) (hn : 0 < n) (hc : n ≤ cap) : ∃ o1, (1 < n → o1 = o + 4) ∧ ∀ w, (Instr.sliceAt 110 (.slice (some ⟨b, o, none⟩) n cap) (some (.int .i64 1)) none none).run Try.prog w = .ok (.slice (some ⟨b, o1, none⟩) (n - 1) (cap - 1)) w := by
  refine ⟨if cap = 1 then o else o + 4, fun h => if_neg (by omega), fun w => ?_⟩
  rw [run_sliceAt_slice w _ _ _ _ _ (by rw [Try.elem_s]; exact Try.underlying110), run_slice_l w _ _ _ _ (by rw [Try.elem_s]; exact Try.underlying110) _ _ (by omega) (by omega), Try.elem_s, Try.sizeOf25]
  by_cases h : cap = 1
  · subst h; simp [sliced]
  · simp [sliced, h, Addr.add]
theorem all_none (a : Option Addr) (cap : Nat) (w : World) :
    Calls Try.prog 55 #[.slice a 0 cap] w fun e w' => e = .returned (AV .u64 V.zeros) ∧ Below w.heap.size w w' := by
  go_enter Try.func55, Try.ntmps55
  go_wp2_with (first | refine arr_alloc rfl .u64 25 4 rfl Try.info_v ?_)
  intro w1 A1 B1 Z1
  go_wp2_with (first | refine arr_store rfl .u64 25 _ _ rfl w.heap.size rfl V.zeros rfl _ A1 rfl Try.size_v ?_)
  intro u A U
  have HB : Below w.heap.size w u := B1.trans (U.below (Nat.le_refl _))
  go_wp2_with fail
  refine bodyPost_ret (v := AV .u64 V.zeros) ?_ rfl ⟨rfl, HB⟩
  exact res_arr (t := 25) Try.results55 _ .u64 w.heap.size rfl V.zeros A 4 23 Try.underlying25 Try.size_v
set_option maxHeartbeats 2000000 in
theorem all_any (b o n cap : Nat) (x : List Nat) (L : List (List Nat)) (w : World) (hn : (x :: L).length = n) (hc : n ≤ cap) (hcm : cap ≤ maxLen) (hL : ∀ l ∈ x :: L, l.length = 4) (hb : b < w.heap.size) (hV : Vecs w b o (x :: L)) :
    Calls Try.prog 55 #[.slice (some ⟨b, o, none⟩) n cap] w fun e w' => e = .returned (AV .u64 (V.all (x :: L))) ∧ Below w.heap.size w w' := by
  unfold maxLen at hcm
  obtain ⟨r, HR⟩ : ∃ r, Hid (V.all (x :: L) = r) := ⟨_, rfl⟩
  rw [HR.out]
  have hn1 : n = L.length + 1 := by rw [← hn]; rfl
  obtain ⟨o1, ho1, hsl⟩ := from_s b o n cap (by omega) hc
  have HO1 : Hid _ := ho1
  have hi0 : ∀ w, (Instr.indexAt 110 (.slice (some ⟨b, o, none⟩) n cap) (.int .i64 0)).run Try.prog w = .ok (.pointer (some ⟨b, o, none⟩)) w := fun w => index_s b o n cap 0 (by omega) w
  have hne : ((n : Int) == 0) = false := by rw [beq_eq_false_iff_ne]; omega
  have HX : Hid (x.length = 4) := hL x (by simp)
  have HIx : Hid _ := size_v HX.out
  have HL : Hid (∀ l ∈ L, l.length = 4) := fun l hl => hL l (by simp [hl])
  have HV : Hid (Vecs w b o (x :: L)) := hV
  have HBW : Hid _ := hb
  have HN : Hid _ := hn1
  clear hL hV hn hn1 hb ho1
  go_enter Try.func55, Try.ntmps55
  go_wp2_with (first | refine arr_alloc rfl .u64 25 4 rfl Try.info_v ?_)
  intro w1 A1 B1 Z1
  have HV1 : Hid (Vecs w1 b o (x :: L)) := Vecs.below HV.out B1 HBW.out
  have HX1 : Hid (w1.rangeAt b o (ks .u64 x)) := HV1.out 0 x rfl
  go_wp2_with (first | refine row_load rfl .u64 25 _ rfl b o rfl x HX1.out 4 23 Try.underlying25 HIx.out ?_ | refine arr_store rfl .u64 25 _ _ rfl w.heap.size rfl x rfl _ A1 (by rw [HX.out]; rfl) HIx.out ?_)
  intro w2 A2 U2
  have HA2 : Hid (Arr .u64 w2 w.heap.size x) := A2
  have HB2 : Hid (Below w.heap.size w w2) := B1.trans (U2.below (Nat.le_refl _))
  have HZ2 : Hid (w.heap.size < w2.heap.size) := by show _ < _; rw [U2.size]; omega
  clear A1 B1 Z1 A2 U2 HV1 HX1
  go_wp2_with fail
  go_loopw [15] (fun i wr => ∃ (j : Nat) (acc : List Nat), j + 1 ≤ n ∧ i = .int .i64 j ∧ Hid (acc.length = 4) ∧ Hid ((L.take j).foldl V.meet x = acc) ∧ Hid (Arr .u64 wr w.heap.size acc) ∧ Hid (Below w.heap.size w wr) ∧ Hid (w.heap.size < wr.heap.size)) (fun i _ => n - (intOf i).toNat)
  case atStart => exact ⟨0, x, by have := HN.out; omega, rfl, HX, rfl, HA2, HB2, HZ2⟩
  case round =>
    obtain ⟨j, acc, hj, rfl, HAL, HF, HAr, HBr, HZr⟩ := hrel
    clear HA2 HB2 HZ2
    by_cases hlt : j + 1 < n
    · have ilt : (j : Int) < ((n - 1 : Nat) : Int) := by omega
      have hix : ∀ w, (Instr.indexAt 110 (.slice (some ⟨b, o1, none⟩) (n - 1) (cap - 1)) (.int .i64 (j : Int))).run Try.prog w = .ok (.pointer (some ⟨b, o1 + 4 * j, none⟩)) w := fun w => index_s b o1 (n - 1) (cap - 1) j (by omega) w
      have hjL : j < L.length := by have := HN.out; omega
      obtain ⟨y, hy⟩ : ∃ y, L[j]? = some y := ⟨_, List.getElem?_eq_getElem hjL⟩
      have HY : Hid (y.length = 4) := HL.out y (List.mem_of_getElem? hy)
      have HIy : Hid _ := size_v HY.out
      have HIa : Hid _ := size_v HAL.out
      have HROW : Hid (wr.rangeAt b (o1 + 4 * j) (ks .u64 y)) := by
        have h := (Vecs.below HV.out HBr.out HBW.out) (j + 1) y (by rw [List.getElem?_cons_succ]; exact hy)
        rw [HO1.out (by omega), show o + 4 + 4 * j = o + 4 * (j + 1) by omega]
        exact h
      have C : Hid _ := fun w => meet_any acc y w HAL.out HY.out
      have HM : Hid _ := V.meet_length HAL.out HY.out
      have HIm : Hid _ := size_v HM.out
      have HF' : Hid ((L.take (j + 1)).foldl V.meet x = V.meet acc y) := by
        show _ = _
        rw [List.take_add_one, hy, Option.toList_some, List.foldl_append, HF.out]
        rfl
      clear hy
      generalize V.meet acc y = nx at *
      go_wp2_with (first | refine row_load rfl .u64 25 _ rfl b (o1 + 4 * j) rfl y HROW.out 4 23 Try.underlying25 HIy.out ?_ | refine arr_alloc rfl .u64 25 4 rfl Try.info_v ?_)
      intro w3 A3 B3 Z3
      have hzr := HZr.out
      have HA3 : Hid (Arr .u64 w3 w.heap.size acc) := Arr.below HAr.out B3 (by omega)
      have HB3 : Hid (Below w.heap.size w w3) := Below.trans HBr.out (B3.mono (by omega))
      go_wp2_with (first | refine arr_store rfl .u64 25 _ _ rfl wr.heap.size rfl y rfl _ A3 (by rw [HY.out]; rfl) HIy.out ?_)
      intro w4 A4 U4
      have HA4 : Hid (Arr .u64 w4 w.heap.size acc) := Arr.upd HA3.out U4 (by omega)
      have HY4 : Hid (Arr .u64 w4 wr.heap.size y) := A4
      have HB4 : Hid (Below w.heap.size w w4) := Below.trans HB3.out (U4.below (by omega))
      have HZ4 : Hid (w.heap.size < w4.heap.size) := by show _ < _; rw [U4.size]; omega
      clear A3 B3 Z3 A4 U4 HA3 HB3 HAr HBr HZr
      go_wp2_with (first | refine arr_load rfl .u64 25 _ rfl (w.heap.size) rfl acc HA4.out 4 23 Try.underlying25 HIa.out ?_ | refine arr_load rfl .u64 25 _ rfl (wr.heap.size) rfl y HY4.out 4 23 Try.underlying25 HIy.out ?_)
      refine (C.out w4).mono ?_; rintro e w5 ⟨rfl, hb5⟩
      have HA5 : Hid (Arr .u64 w5 w.heap.size acc) := Arr.below HA4.out hb5 HZ4.out
      have HB5 : Hid (Below w.heap.size w w5) := Below.trans HB4.out (hb5.mono HB4.out.size)
      have HZ5 : Hid (w.heap.size < w5.heap.size) := Nat.lt_of_lt_of_le HZ4.out hb5.size
      clear hb5 HA4 HB4 HZ4 HY4
      go_wp2_with (first | refine arr_store rfl .u64 25 _ _ rfl w.heap.size rfl nx rfl _ HA5.out (by rw [HAL.out]; exact HM.out) HIm.out ?_)
      intro w6 A6 U6
      have HA6 : Hid (Arr .u64 w6 w.heap.size nx) := A6
      have HB6 : Hid (Below w.heap.size w w6) := Below.trans HB5.out (U6.below (by omega))
      have HZ6 : Hid (w.heap.size < w6.heap.size) := by show _ < _; rw [U6.size]; exact HZ5.out
      clear A6 U6
      go_wp2_with fail
      go_roundw
      case rel => exact ⟨j + 1, nx, by omega, by go_num, HM, HF', HA6, HB6, HZ6⟩
      case measure => simp [intOf]; omega
    · have ilt : ¬ (j : Int) < ((n - 1 : Nat) : Int) := by omega
      have HE : Hid (acc = r) := by
        show _ = _
        rw [← HF.out, ← HR.out, List.take_of_length_le (by have := HN.out; omega)]
        rfl
      rw [HE.out] at HAL HAr
      have HIr : Hid _ := size_v HAL.out
      go_wp2_with (first | refine arr_load rfl .u64 25 _ rfl (w.heap.size) rfl r HAr.out 4 23 Try.underlying25 HIr.out ?_ | refine arr_store rfl .u64 25 _ _ rfl w.heap.size rfl r rfl _ HAr.out rfl HIr.out ?_)
      intro w6 A6 U6
      have HA6 : Hid (Arr .u64 w6 w.heap.size r) := A6
      have HB6 : Hid (Below w.heap.size w w6) := Below.trans HBr.out (U6.below (by omega))
      clear A6 U6
      go_wp2_with fail
      refine bodyPost_ret (v := AV .u64 r) ?_ rfl ⟨rfl, HB6.out⟩
      exact res_arr (t := 25) Try.results55 _ .u64 w.heap.size rfl r HA6.out 4 23 Try.underlying25 HIr.out
end Go.Proofs.Ytkiaehehckmpnaa.Vc
