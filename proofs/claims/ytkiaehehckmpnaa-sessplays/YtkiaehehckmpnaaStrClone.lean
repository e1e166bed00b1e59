/- strings.Clone: a text of its own memory, the same. -/
import Derived.Test.YtkiaehehckmpnaaMem

import Derived.Test.YtkiaehehckmpnaaPackPut

import Derived.Lib.BufferWrite

import Derived.Laws.CopyOwn

import Derived.Lib.UnsafeStr

namespace Go.Proofs.Ytkiaehehckmpnaa.Mc

open Go.RowKit Go.Proofs.Ytkiaehehckmpnaa.Pk

set_option linter.unusedVariables false

set_option linter.unusedSimpArgs false

set_option maxRecDepth 100000

namespace M

def fill (n : Nat) (k : List UInt8) : List UInt8 := k.take n ++ List.replicate (n - k.length) 0
end M

def nb (l : List UInt8) : List Nat := l.map fun b => b.toNat
theorem nb_length (l : List UInt8) : (nb l).length = l.length := by simp [nb]
theorem ks_nb (l : List UInt8) : ks .u8 (nb l) = Lib.byteCells l := by simp [ks, nb, Lib.byteCells]
theorem nb_set (l : List UInt8) (t : Nat) (x : UInt8) : (nb l).set t x.toNat = nb (l.set t x) := by simp [nb, List.map_set]
theorem nb_getD (l : List UInt8) (t : Nat) (x : UInt8) (h : l[t]? = some x) : (nb l).getD t 0 = x.toNat := by
  rw [List.getD_eq_getElem?_getD, nb, List.getElem?_map, h]; rfl
theorem nb_zero (n : Nat) : nb (List.replicate n 0) = List.replicate n 0 := by simp [nb]
theorem Arr.of_row {k : IntKind} {w : World} {b : Nat} {l : List Nat} {t : TypeId} (h : w.heap[b]? = some (.cells (ks k l).toArray t (0, 0))) : Arr k w b l := by
  have hc : ∀ j v, (ks k l)[j]? = some v → w.cell? ⟨b, 0 + j, none⟩ = some v := fun j v hv => by
    rw [cell_of_row _ _ (0 + j) _ t (0, 0) h, Nat.zero_add]
    simpa using hv
  refine ⟨hc, fun j hj => ⟨?_, frozen_of_row _ _ _ _ _ h⟩⟩
  obtain ⟨v, hv⟩ : ∃ v, (ks k l)[j]? = some v := ⟨_, List.getElem?_eq_getElem (by rw [ks_length]; exact hj)⟩
  rw [hc j v hv]; rfl
theorem run_copy_min {P : Program} (w : World) (dT sT ty elem : TypeId) (g dLen dCap : Nat) (s : ByteArray) (cur : Array Value) (t : TypeId)
    (hu : P.underlying dT = some (.slice elem)) (hs : (P.info? elem).map (·.size) = some 1) (hg : w.heap[g]? = some (.cells cur t (0, 0))) (hfit : dLen = cur.size) :
    (Builtin.copy_ #[dT, sT] ty #[.slice (some ⟨g, 0, none⟩) dLen dCap, .string s]).run P w =
      .ok (goInt (Nat.min s.size dLen)) (w.setRow g (Lib.byteCells (s.data.toList.take dLen) ++ cur.toList.drop (Nat.min s.size dLen)).toArray) := by
  have hl : s.data.toList.length = s.size := by rw [Array.length_toList]; rfl
  have hlen : (Lib.byteCells (s.data.toList.take dLen)).length = Nat.min s.size dLen := by rw [Lib.byteCells_length, List.length_take, hl, Nat.min_comm]
  have hst := run_storeCells_at P g 0 t (Lib.byteCells (s.data.toList.take dLen)) 0 cur w hg (by rw [hlen]; have := Nat.min_le_right s.size dLen; simp only [Nat.min_def] at *; omega) (Lib.byteCells_one _)
  have htk : List.take (Nat.min s.size dLen) (List.map (fun b : UInt8 => Value.int IntKind.u8 (b.toNat : Int)) s.data.toList) = Lib.byteCells (s.data.toList.take dLen) := by
    rw [← List.map_take]
    show _ = List.map _ _
    congr 1
    rcases Nat.le_total s.size dLen with h | h
    · rw [show Nat.min s.size dLen = s.size from Nat.min_eq_left h, List.take_of_length_le (by omega), List.take_of_length_le (by omega)]
    · rw [show Nat.min s.size dLen = dLen from Nat.min_eq_right h]
  rw [hlen] at hst
  simp only [Nat.add_zero, Nat.zero_add, List.take_zero, List.nil_append] at hst
  cases hq : P.info? elem with
  | none => simp [hq] at hs
  | some i =>
    simp [Builtin.copy_, run_underlying hu, Builtin.lenOf, Builtin.firstCells, sizeOf, typeInfo, hq]
    rw [htk, hst]
    simp [Result.andThen]
theorem Try.size_u8 : (Try.prog.info? 5).map (·.size) = some 1 := by kernel_rfl
/-- a text laid into a new array of zeros -/
theorem copy_row (w : World) (n g : Nat) (t : TypeId) (s : ByteArray) (hg : w.heap[g]? = some (.cells (ks .u8 (List.replicate n 0)).toArray t (0, 0))) :
    ∃ w2, (Builtin.copy_ #[84, 9] 3 #[.slice (some ⟨g, 0, none⟩) n n, .string s]).run Try.prog w = .ok (goInt (Nat.min s.size n)) w2 ∧ w2.heap[g]? = some (.cells (ks .u8 (nb (M.fill n s.data.toList))).toArray t (0, 0)) ∧ Below g w w2 ∧ w2.heap.size = w.heap.size := by
  have hr := run_copy_min (P := Try.prog) w 84 9 3 5 g n n s _ t Try.underlying84 Try.size_u8 hg (by simp [ks_length])
  refine ⟨_, hr, ?_, below_setRow (Below.refl _ _) (Nat.le_refl _) _, by simp [World.setRow]⟩
  rw [setRow_heap w g _ _ t _ hg]
  congr 2
  rw [ks_nb, M.fill, Lib.byteCells_append]
  have e : (ks .u8 (List.replicate n 0)).toArray.toList.drop (Nat.min s.size n) = Lib.byteCells (List.replicate (n - s.data.toList.length) 0) := by
    have hl : s.data.toList.length = s.size := by rw [Array.length_toList]; rfl
    rw [hl]
    have e2 : n - Nat.min s.size n = n - s.size := by
      rcases Nat.le_total s.size n with h | h
      · rw [show Nat.min s.size n = s.size from Nat.min_eq_left h]
      · rw [show Nat.min s.size n = n from Nat.min_eq_right h]; omega
    simp only [ks, Lib.byteCells, List.map_replicate, List.drop_replicate]
    rw [e2]
    rfl
  rw [e]
theorem cells_u8' : Try.prog.cellsOf 5 = 1 := by kernel_rfl
/-- make([]byte, n) of zeros, its row known whole -/
theorem make_row (w : World) (n : Nat) (hn : n ≤ 281474976710656) :
    ∃ wm, (Instr.makeSlice 84 (.int .i64 (n : Int)) (.int .i64 (n : Int))).run Try.prog w = .ok (.slice (some ⟨w.heap.size, 0, none⟩) n n) wm ∧
    wm.heap[w.heap.size]? = some (.cells (ks .u8 (List.replicate n 0)).toArray 5 (0, 0)) ∧ Below w.heap.size w wm ∧ wm.heap.size = w.heap.size + 1 := by
  obtain ⟨i0, hi, hz0, hz1, hz2⟩ := info_parts Try.info_u8
  have hr := run_make (P := Try.prog) w 84 5 i0 (.int .u8 0) Try.underlying84 hi hz0 .i64 .i64 n n (by omega) (by omega) (by rw [hz2]; omega) (by omega)
  refine ⟨_, by simpa using hr, ?_, (Below.refl _ _).alloc (Nat.le_refl _) _, by show (w.heap.push _).size = _; simp⟩
  rw [heap_alloc_last w _]
  have e : madeCells (Value.int .u8 0).cells (n * i0.size) = (ks .u8 (List.replicate n 0)).toArray := by
    apply Array.toList_inj.1
    show (madeCells #[Value.int .u8 0] (n * i0.size)).toList = _
    rw [toList_madeCells_one, hz1]
    simp [ks]
  rw [e]
set_option maxHeartbeats 1000000 in
theorem lite_any (s : ByteArray) (w : World) (hs : s.size ≤ 281474976710656) :
    Calls Try.prog 66 #[.string s] w fun e w' => e = .returned (.string s) ∧ Below w.heap.size w w' := by
  by_cases h0 : s.size = 0
  · have hsn : s = ⟨#[]⟩ := by
      apply ByteArray.ext
      exact Array.eq_empty_of_size_eq_zero h0
    subst hsn
    go_enter Try.func66, Try.ntmps66
    go_wp2_with fail
    go_ret
    exact ⟨rfl, Below.refl _ _⟩
  · obtain ⟨w1, hmk, R1, B1, Z1⟩ := make_row w s.size hs
    have hl : s.data.toList.length = s.size := by rw [Array.length_toList]; rfl
    obtain ⟨w2, hcp, R2, B2, Z2⟩ := copy_row w1 s.size w.heap.size 5 s R1
    rw [show Nat.min s.size s.size = s.size from Nat.min_self _] at hcp
    have hF : M.fill s.size s.data.toList = s.data.toList := by
      rw [M.fill, hl, List.take_of_length_le (by omega), Nat.sub_self]; simp
    rw [hF] at R2
    have A2 := Arr.of_row R2
    have hcell : ∀ j x, s.data.toList[j]? = some x → w2.cell? ((⟨w.heap.size, 0, none⟩ : Addr).add j) = some (.int .u8 x.toNat) := fun j x hx => by
      have hj : j < s.data.toList.length := (List.getElem?_eq_some_iff.1 hx).1
      have c := Arr.cell A2 j (by rw [nb_length]; exact hj)
      rw [nb_getD _ _ _ hx] at c
      rw [Addr.add_mid, Nat.zero_add]
      exact c
    have hsh : w2.shape? w.heap.size = some (5, s.size) := by
      unfold World.shape?
      rw [R2]
      simp [ks_length, nb_length, hl]
    have hus := Lib.run_unsafeString_row (P := Try.prog) w2 117 3 9 5 Try.underlying117 cells_u8' w.heap.size s.size hsh s.data.toList (fun e => h0 (by rw [← hl, e]; rfl)) (by omega) (by omega) hcell
    rw [hl] at hus
    have hus' : (Builtin.unsafeString_ #[117, 3] 9 #[.pointer (some ⟨w.heap.size, 0, none⟩), .int .i64 (s.size : Int)]).run Try.prog w2 = .ok (.string s) (w2.freeze ⟨w.heap.size, 0, none⟩ s.size) := hus
    have HB : Hid (Below w.heap.size w (w2.freeze ⟨w.heap.size, 0, none⟩ s.size)) := Lib.below_freeze (B1.trans B2) (p := ⟨w.heap.size, 0, none⟩) (Nat.le_refl _) _
    generalize w2.freeze ⟨w.heap.size, 0, none⟩ s.size = w3 at *
    have hpos : (0 : Int) < (s.size : Int) := by omega
    have hpos' : 0 < s.size := by omega
    have hne : ((s.size : Int) == 0) = false := by rw [beq_eq_false_iff_ne]; omega
    clear hus hcell A2 R2 B2 B1 R1 hF hl hsh h0
    go_enter Try.func66, Try.ntmps66
    go_wp2_with fail
    go_ret
    exact ⟨rfl, HB.out⟩
theorem clone_any (s : ByteArray) (w : World) (hs : s.size ≤ 281474976710656) :
    Calls Try.prog 64 #[.string s] w fun e w' => e = .returned (.string s) ∧ Below w.heap.size w w' := by
  have C : Hid _ := fun w => lite_any s w hs
  go_enter Try.func64, Try.ntmps64
  go_wp2_with fail
  refine (C.out _).mono ?_; rintro e w1 ⟨rfl, hb1⟩
  go_wp2_with fail
  go_ret
  exact ⟨rfl, hb1⟩
end Go.Proofs.Ytkiaehehckmpnaa.Mc
