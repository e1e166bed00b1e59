/- mac: masked; the keyed digest. -/
import Derived.Test.YtlodahlinncpcaaDoorShaEx
import Derived.Test.YtlodahlinncpcaaDoorShaStill
import Derived.Test.YtlodahlinncpcaaDoorMacMath
import Derived.Lib.BufferWrite
import Derived.Laws.BitsAllLaws
import Derived.Laws.CopyOwn
import Derived.Lib.UnsafeStr
namespace Go.Proofs.YtlodahlinncpcaaDoor.Mc
open Go.RowKit
set_option linter.unusedVariables false
set_option linter.unusedSimpArgs false
def nb (l : List UInt8) : List Nat := l.map fun b => b.toNat
theorem nb_length (l : List UInt8) : (nb l).length = l.length := by simp [nb]
theorem ks_nb (l : List UInt8) : ks .u8 (nb l) = Lib.byteCells l := by simp [ks, nb, Lib.byteCells]
theorem nb_set (l : List UInt8) (t : Nat) (x : UInt8) : (nb l).set t x.toNat = nb (l.set t x) := by simp [nb, List.map_set]
theorem nb_getD (l : List UInt8) (t : Nat) (x : UInt8) (h : l[t]? = some x) : (nb l).getD t 0 = x.toNat := by
  rw [List.getD_eq_getElem?_getD, nb, List.getElem?_map, h]; rfl
theorem nb_zero (n : Nat) : nb (List.replicate n 0) = List.replicate n 0 := by simp [nb]
theorem Arr.of_row {k : IntKind} {w : World} {b : Nat} {l : List Nat} {t : TypeId} (h : w.heap[b]? = some (.cells (ks k l).toArray t (0, 0))) : Arr k w b l := by
  have hc : ∀ j v, (ks k l)[j]? = some v → w.cell? ⟨b, 0 + j, none⟩ = some v := fun j v hv => by
    rw [cell_of_row _ _ (0 + j) _ t (0, 0) h, Nat.zero_add]
    simpa using hv
  refine ⟨hc, fun j hj => ⟨?_, frozen_of_row _ _ _ _ _ h⟩⟩
  obtain ⟨v, hv⟩ : ∃ v, (ks k l)[j]? = some v := ⟨_, List.getElem?_eq_getElem (by rw [ks_length]; exact hj)⟩
  rw [hc j v hv]; rfl
section
variable {P : Program} {ops : Array Oper} {rest : List Oper} {o : Oper} {a : Act} {w : World} {Q : Exit → Act → World → Prop}
/-- a new array, its row known whole -/
theorem row_alloc (hgd : o.guard = none) (k : IntKind) (t : TypeId) (n : Nat) (ho : o.op = .alloc t) (hz : (P.info? t).map (fun i => (i.zero, i.size)) = some (some (AV k (List.replicate n 0)), n))
    (h : ∀ w', Hid (w'.heap[w.heap.size]? = some (.cells (ks k (List.replicate n 0)).toArray t (0, 0))) → Below w.heap.size w w' → w'.heap.size = w.heap.size + 1 → wpList P ops Q rest (a.put o.dst (.pointer (some ⟨w.heap.size, 0, none⟩))) w') : wpList P ops Q (o :: rest) a w := by
  refine wpList_plain hgd fun K hK => ?_
  unfold Oper.wp execOp
  simp only [ho, Sem.run_bind, Instr.alloc, (zero_of_info hz).1, newVar, newRow, run_newObj_alloc, Sem.run_pure, Result.andThen_ok]
  exact hK _ _ (h _ (heap_alloc_last w _) ((Below.refl _ _).alloc (Nat.le_refl _) _) (by show (w.heap.push _).size = _; simp))
end
theorem run_copy_min {P : Program} (w : World) (dT sT ty elem : TypeId) (g dLen dCap : Nat) (s : ByteArray) (cur : Array Value) (t : TypeId)
    (hu : P.underlying dT = some (.slice elem)) (hs : (P.info? elem).map (·.size) = some 1) (hg : w.heap[g]? = some (.cells cur t (0, 0))) (hfit : dLen = cur.size) :
    (Builtin.copy_ #[dT, sT] ty #[.slice (some ⟨g, 0, none⟩) dLen dCap, .string s]).run P w =
      .ok (goInt (Nat.min s.size dLen)) (w.setRow g (Lib.byteCells (s.data.toList.take dLen) ++ cur.toList.drop (Nat.min s.size dLen)).toArray) := by
  have hl : s.data.toList.length = s.size := by rw [Array.length_toList]; rfl
  have hlen : (Lib.byteCells (s.data.toList.take dLen)).length = Nat.min s.size dLen := by rw [Lib.byteCells_length, List.length_take, hl, Nat.min_comm]
  have hst := run_storeCells_at P g 0 t (Lib.byteCells (s.data.toList.take dLen)) 0 cur w hg (by rw [hlen]; have := Nat.min_le_right s.size dLen; simp only [Nat.min_def] at *; omega) (Lib.byteCells_one _)
  have htk : List.take (Nat.min s.size dLen) (List.map (fun b : UInt8 => Value.int IntKind.u8 (b.toNat : Int)) s.data.toList) = Lib.byteCells (s.data.toList.take dLen) := by
    rw [← List.map_take]
    show _ = List.map _ _
    congr 1
    rcases Nat.le_total s.size dLen with h | h
    · rw [show Nat.min s.size dLen = s.size from Nat.min_eq_left h, List.take_of_length_le (by omega), List.take_of_length_le (by omega)]
    · rw [show Nat.min s.size dLen = dLen from Nat.min_eq_right h]
  rw [hlen] at hst
  simp only [Nat.add_zero, Nat.zero_add, List.take_zero, List.nil_append] at hst
  cases hq : P.info? elem with
  | none => simp [hq] at hs
  | some i =>
    simp [Builtin.copy_, run_underlying hu, Builtin.lenOf, Builtin.firstCells, sizeOf, typeInfo, hq]
    rw [htk, hst]
    simp [Result.andThen]
theorem Tryd.info_b64 : (Tryd.prog.info? 89).map (fun i => (i.zero, i.size)) = some (some (AV .u8 (List.replicate 64 0)), 64) := by kernel_rfl
theorem Tryd.size_u8 : (Tryd.prog.info? 5).map (·.size) = some 1 := by kernel_rfl
/-- a text laid into a new array of zeros -/
theorem copy_row (w : World) (n g : Nat) (t : TypeId) (s : ByteArray) (hg : w.heap[g]? = some (.cells (ks .u8 (List.replicate n 0)).toArray t (0, 0))) :
    ∃ w2, (Builtin.copy_ #[28, 9] 3 #[.slice (some ⟨g, 0, none⟩) n n, .string s]).run Tryd.prog w = .ok (goInt (Nat.min s.size n)) w2 ∧ w2.heap[g]? = some (.cells (ks .u8 (nb (M.fill n s.data.toList))).toArray t (0, 0)) ∧ Below g w w2 ∧ w2.heap.size = w.heap.size := by
  have hr := run_copy_min (P := Tryd.prog) w 28 9 3 5 g n n s _ t Tryd.underlying28 Tryd.size_u8 hg (by simp [ks_length])
  refine ⟨_, hr, ?_, below_setRow (Below.refl _ _) (Nat.le_refl _) _, by simp [World.setRow]⟩
  rw [setRow_heap w g _ _ t _ hg]
  congr 2
  rw [ks_nb, M.fill, Lib.byteCells_append]
  have e : (ks .u8 (List.replicate n 0)).toArray.toList.drop (Nat.min s.size n) = Lib.byteCells (List.replicate (n - s.data.toList.length) 0) := by
    have hl : s.data.toList.length = s.size := by rw [Array.length_toList]; rfl
    rw [hl]
    have e2 : n - Nat.min s.size n = n - s.size := by
      rcases Nat.le_total s.size n with h | h
      · rw [show Nat.min s.size n = s.size from Nat.min_eq_left h]
      · rw [show Nat.min s.size n = n from Nat.min_eq_right h]; omega
    simp only [ks, Lib.byteCells, List.map_replicate, List.drop_replicate]
    rw [e2]
    rfl
  rw [e]
theorem copy_in (w : World) (n g : Nat) (t : TypeId) (s : ByteArray) (hg : w.heap[g]? = some (.cells (ks .u8 (List.replicate n 0)).toArray t (0, 0))) :
    ∃ w2, (Builtin.copy_ #[28, 9] 3 #[.slice (some ⟨g, 0, none⟩) n n, .string s]).run Tryd.prog w = .ok (goInt (Nat.min s.size n)) w2 ∧ Arr .u8 w2 g (nb (M.fill n s.data.toList)) ∧ Below g w w2 ∧ w2.heap.size = w.heap.size := by
  obtain ⟨w2, h1, h2, h3, h4⟩ := copy_row w n g t s hg
  exact ⟨w2, h1, Arr.of_row h2, h3, h4⟩
set_option maxHeartbeats 2000000 in
set_option maxRecDepth 100000 in
theorem masked_any (k : ByteArray) (m : UInt8) (w : World) (hk : k.size ≤ 64) :
    Calls Tryd.prog 43 #[.string k, .int .u8 (m.toNat : Int)] w fun e w' => e = .returned (.string (S (M.mask k.data.toList m))) ∧ Below w.heap.size w w' := by
  have hm : m.toNat < 256 := m.toNat_lt
  go_enter Tryd.func43, Tryd.ntmps43
  go_wp2_with (first | refine row_alloc rfl .u8 89 64 rfl Tryd.info_b64 ?_)
  intro w1 R1 B1 Z1
  obtain ⟨w2, hcp, A2, B2, Z2⟩ := copy_in w1 64 w.heap.size 89 k R1.out
  rw [show Nat.min k.size 64 = k.size from Nat.min_eq_left hk] at hcp
  have HB2 : Hid (Below w.heap.size w w2) := B1.trans B2
  obtain ⟨F, HF⟩ : ∃ r, Hid (M.fill 64 k.data.toList = r) := ⟨_, rfl⟩
  have HL : Hid (F.length = 64) := by show _ = _; rw [← HF.out, M.fill_length]
  rw [HF.out] at A2
  have HA2 : Hid (Arr .u8 w2 w.heap.size (nb (M.part F m 0))) := by show Arr _ _ _ _; rw [M.part_zero]; exact A2
  clear R1 B1 B2 A2
  go_wp2_with fail
  clear hcp
  go_loopw [10] (fun i wr => ∃ t : Nat, t ≤ 64 ∧ i = .int .i64 t ∧ Hid (Arr .u8 wr w.heap.size (nb (M.part F m t))) ∧ Hid (Below w.heap.size w wr)) (fun i _ => 64 - (intOf i).toNat)
  case atStart => exact ⟨0, by omega, rfl, HA2, HB2⟩
  case round =>
    clear HA2 HB2 Z1 Z2
    obtain ⟨t, ht, rfl, HA, HB⟩ := hrel
    by_cases hlt : t < 64
    · have hF : t < F.length := by rw [HL.out]; exact hlt
      have hlen : (nb (M.part F m t)).length = 64 := by rw [nb_length, M.part_length, HL.out]
      have c := Arr.cell HA.out t (by rw [hlen]; exact hlt)
      have f := Arr.free HA.out t (by rw [hlen]; exact hlt)
      rw [nb_getD _ _ _ (M.part_at F m t hF)] at c
      have HS0 := Arr.set HA.out t (F[t] ^^^ m).toNat (by rw [hlen]; exact hlt)
      rw [nb_set, M.part_set F m t hF] at HS0
      have HS : Hid _ := HS0
      have HU : Hid _ := Upd.setCell wr w.heap.size t (.int .u8 ((F[t] ^^^ m).toNat : Nat))
      have hx : bits .xor .u8 (F[t].toNat : Int) (m.toNat : Int) = ((F[t] ^^^ m).toNat : Int) := by
        rw [u8_xor_nat _ _ (UInt8.toNat_lt _) (UInt8.toNat_lt _), UInt8.toNat_xor]
      have HX : Hid _ := hx
      generalize (F[t] ^^^ m).toNat = y at *
      generalize F[t].toNat = x at *
      have it : (t : Int) < 64 := by omega
      clear hlen HS0 hF HA
      go_wp2_with fail
      go_roundw
      case rel => exact ⟨t + 1, by omega, by go_num, HS, Below.trans HB.out (Upd.below HU.out (Nat.le_refl _))⟩
      case measure => simp [intOf]; omega
    · obtain rfl : t = 64 := by omega
      have hlt' : ¬ (((64 : Nat) : Int) < 64) := by omega
      have HM : Hid (M.mask k.data.toList m = M.part F m 64) := by show _ = _; rw [M.part_all F m 64 HL.out, M.mask, HF.out]
      obtain ⟨G, HG⟩ : ∃ r, Hid (M.part F m 64 = r) := ⟨_, rfl⟩
      have HGL : Hid (G.length = 64) := by show _ = _; rw [← HG.out, M.part_length, HL.out]
      rw [HG.out] at HA HM
      have hcv := run_convert_bytes_back (P := Tryd.prog) wr 28 9 5 ⟨w.heap.size, 0, none⟩ 64 G Tryd.underlying28 Tryd.underlying5 Tryd.underlying9 (fun j hj => by
        rw [Addr.add_mid]
        have c := Arr.cell HA.out j (by rw [nb_length]; exact hj)
        rw [nb_getD G j G[j] (by simp [hj])] at c
        rw [Nat.zero_add]
        exact c)
      rw [HGL.out] at hcv
      clear hlt
      go_wp2_with fail
      go_ret
      rw [HM.out]
      exact ⟨rfl, HB.out⟩
end Go.Proofs.YtlodahlinncpcaaDoor.Mc
namespace Go.Proofs.YtlodahlinncpcaaDoor.Mc
open Go.RowKit
set_option linter.unusedVariables false
set_option linter.unusedSimpArgs false
theorem cells_u8' : Tryd.prog.cellsOf 5 = 1 := by kernel_rfl
/-- make([]byte, n) of zeros, its row known whole -/
theorem make_row (w : World) (n : Nat) (hn : n ≤ 281474976710656) :
    ∃ wm, (Instr.makeSlice 28 (.int .i64 (n : Int)) (.int .i64 (n : Int))).run Tryd.prog w = .ok (.slice (some ⟨w.heap.size, 0, none⟩) n n) wm ∧
    wm.heap[w.heap.size]? = some (.cells (ks .u8 (List.replicate n 0)).toArray 5 (0, 0)) ∧ Below w.heap.size w wm ∧ wm.heap.size = w.heap.size + 1 := by
  obtain ⟨i0, hi, hz0, hz1, hz2⟩ := info_parts Tryd.info_u8
  have hr := run_make (P := Tryd.prog) w 28 5 i0 (.int .u8 0) Tryd.underlying28 hi hz0 .i64 .i64 n n (by omega) (by omega) (by rw [hz2]; omega) (by omega)
  refine ⟨_, by simpa using hr, ?_, (Below.refl _ _).alloc (Nat.le_refl _) _, by show (w.heap.push _).size = _; simp⟩
  rw [heap_alloc_last w _]
  have e : madeCells (Value.int .u8 0).cells (n * i0.size) = (ks .u8 (List.replicate n 0)).toArray := by
    apply Array.toList_inj.1
    show (madeCells #[Value.int .u8 0] (n * i0.size)).toList = _
    rw [toList_madeCells_one, hz1]
    simp [ks]
  rw [e]
set_option maxHeartbeats 1000000 in
theorem lite_any (s : ByteArray) (w : World) (hs : s.size ≤ 281474976710656) :
    Calls Tryd.prog 74 #[.string s] w fun e w' => e = .returned (.string s) ∧ Below w.heap.size w w' := by
  by_cases h0 : s.size = 0
  · have hsn : s = ⟨#[]⟩ := by
      apply ByteArray.ext
      exact Array.eq_empty_of_size_eq_zero h0
    subst hsn
    go_enter Tryd.func74, Tryd.ntmps74
    go_wp2_with fail
    go_ret
    exact ⟨rfl, Below.refl _ _⟩
  · obtain ⟨w1, hmk, R1, B1, Z1⟩ := make_row w s.size hs
    have hl : s.data.toList.length = s.size := by rw [Array.length_toList]; rfl
    obtain ⟨w2, hcp, R2, B2, Z2⟩ := copy_row w1 s.size w.heap.size 5 s R1
    rw [show Nat.min s.size s.size = s.size from Nat.min_self _] at hcp
    have hF : M.fill s.size s.data.toList = s.data.toList := by
      rw [M.fill, hl, List.take_of_length_le (by omega), Nat.sub_self]; simp
    rw [hF] at R2
    have A2 := Arr.of_row R2
    have hcell : ∀ j x, s.data.toList[j]? = some x → w2.cell? ((⟨w.heap.size, 0, none⟩ : Addr).add j) = some (.int .u8 x.toNat) := fun j x hx => by
      have hj : j < s.data.toList.length := (List.getElem?_eq_some_iff.1 hx).1
      have c := Arr.cell A2 j (by rw [nb_length]; exact hj)
      rw [nb_getD _ _ _ hx] at c
      rw [Addr.add_mid, Nat.zero_add]
      exact c
    have hsh : w2.shape? w.heap.size = some (5, s.size) := by
      unfold World.shape?
      rw [R2]
      simp [ks_length, nb_length, hl]
    have hus := Lib.run_unsafeString_row (P := Tryd.prog) w2 103 3 9 5 Tryd.underlying103 cells_u8' w.heap.size s.size hsh s.data.toList (fun e => h0 (by rw [← hl, e]; rfl)) (by omega) (by omega) hcell
    rw [hl] at hus
    have hus' : (Builtin.unsafeString_ #[103, 3] 9 #[.pointer (some ⟨w.heap.size, 0, none⟩), .int .i64 (s.size : Int)]).run Tryd.prog w2 = .ok (.string s) (w2.freeze ⟨w.heap.size, 0, none⟩ s.size) := hus
    have HB : Hid (Below w.heap.size w (w2.freeze ⟨w.heap.size, 0, none⟩ s.size)) := Lib.below_freeze (B1.trans B2) (p := ⟨w.heap.size, 0, none⟩) (Nat.le_refl _) _
    generalize w2.freeze ⟨w.heap.size, 0, none⟩ s.size = w3 at *
    have hpos : (0 : Int) < (s.size : Int) := by omega
    have hpos' : 0 < s.size := by omega
    have hne : ((s.size : Int) == 0) = false := by rw [beq_eq_false_iff_ne]; omega
    clear hus hcell A2 R2 B2 B1 R1 hF hl hsh h0
    go_enter Tryd.func74, Tryd.ntmps74
    go_wp2_with fail
    go_ret
    exact ⟨rfl, HB.out⟩
theorem clone_any (s : ByteArray) (w : World) (hs : s.size ≤ 281474976710656) :
    Calls Tryd.prog 66 #[.string s] w fun e w' => e = .returned (.string s) ∧ Below w.heap.size w w' := by
  have C : Hid _ := fun w => lite_any s w hs
  go_enter Tryd.func66, Tryd.ntmps66
  go_wp2_with fail
  refine (C.out _).mono ?_; rintro e w1 ⟨rfl, hb1⟩
  go_wp2_with fail
  go_ret
  exact ⟨rfl, hb1⟩
end Go.Proofs.YtlodahlinncpcaaDoor.Mc
