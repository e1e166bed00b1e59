/- strings.Clone. -/
import Derived.Test.YtlodahlinncpcaaDoorMacKey
import Derived.Lib.UnsafeStr
namespace Go.Proofs.YtlodahlinncpcaaDoor.Mc
open Go.RowKit
set_option linter.unusedVariables false
set_option linter.unusedSimpArgs false
theorem cells_u8' : Tryd.prog.cellsOf 5 = 1 := by kernel_rfl
/-- make([]byte, n) of zeros, its row known whole -/
theorem make_row (w : World) (n : Nat) (hn : n ≤ 281474976710656) :
    ∃ wm, (Instr.makeSlice 28 (.int .i64 (n : Int)) (.int .i64 (n : Int))).run Tryd.prog w = .ok (.slice (some ⟨w.heap.size, 0, none⟩) n n) wm ∧
    wm.heap[w.heap.size]? = some (.cells (ks .u8 (List.replicate n 0)).toArray 5 (0, 0)) ∧ Below w.heap.size w wm ∧ wm.heap.size = w.heap.size + 1 := by
  obtain ⟨i0, hi, hz0, hz1, hz2⟩ := info_parts Tryd.info_u8
  have hr := run_make (P := Tryd.prog) w 28 5 i0 (.int .u8 0) Tryd.underlying28 hi hz0 .i64 .i64 n n (by omega) (by omega) (by rw [hz2]; omega) (by omega)
  refine ⟨_, by simpa using hr, ?_, (Below.refl _ _).alloc (Nat.le_refl _) _, by show (w.heap.push _).size = _; simp⟩
  rw [heap_alloc_last w _]
  have e : madeCells (Value.int .u8 0).cells (n * i0.size) = (ks .u8 (List.replicate n 0)).toArray := by
    apply Array.toList_inj.1
    show (madeCells #[Value.int .u8 0] (n * i0.size)).toList = _
    rw [toList_madeCells_one, hz1]
    simp [ks]
  rw [e]
set_option maxHeartbeats 1000000 in
theorem lite_any (s : ByteArray) (w : World) (hs : s.size ≤ 281474976710656) :
    Calls Tryd.prog 74 #[.string s] w fun e w' => e = .returned (.string s) ∧ Below w.heap.size w w' := by
  by_cases h0 : s.size = 0
  · have hsn : s = ⟨#[]⟩ := by
      apply ByteArray.ext
      exact Array.eq_empty_of_size_eq_zero h0
    subst hsn
    go_enter Tryd.func74, Tryd.ntmps74
    go_wp2_with fail
    go_ret
    exact ⟨rfl, Below.refl _ _⟩
  · obtain ⟨w1, hmk, R1, B1, Z1⟩ := make_row w s.size hs
    have hl : s.data.toList.length = s.size := by rw [Array.length_toList]; rfl
    obtain ⟨w2, hcp, R2, B2, Z2⟩ := copy_row w1 s.size w.heap.size 5 s R1
    rw [show Nat.min s.size s.size = s.size from Nat.min_self _] at hcp
    have hF : M.fill s.size s.data.toList = s.data.toList := by
      rw [M.fill, hl, List.take_of_length_le (by omega), Nat.sub_self]; simp
    rw [hF] at R2
    have A2 := Arr.of_row R2
    have hcell : ∀ j x, s.data.toList[j]? = some x → w2.cell? ((⟨w.heap.size, 0, none⟩ : Addr).add j) = some (.int .u8 x.toNat) := fun j x hx => by
      have hj : j < s.data.toList.length := (List.getElem?_eq_some_iff.1 hx).1
      have c := Arr.cell A2 j (by rw [nb_length]; exact hj)
      rw [nb_getD _ _ _ hx] at c
      rw [Addr.add_mid, Nat.zero_add]
      exact c
    have hsh : w2.shape? w.heap.size = some (5, s.size) := by
      unfold World.shape?
      rw [R2]
      simp [ks_length, nb_length, hl]
    have hus := Lib.run_unsafeString_row (P := Tryd.prog) w2 103 3 9 5 Tryd.underlying103 cells_u8' w.heap.size s.size hsh s.data.toList (fun e => h0 (by rw [← hl, e]; rfl)) (by omega) (by omega) hcell
    rw [hl] at hus
    have hus' : (Builtin.unsafeString_ #[103, 3] 9 #[.pointer (some ⟨w.heap.size, 0, none⟩), .int .i64 (s.size : Int)]).run Tryd.prog w2 = .ok (.string s) (w2.freeze ⟨w.heap.size, 0, none⟩ s.size) := hus
    have HB : Hid (Below w.heap.size w (w2.freeze ⟨w.heap.size, 0, none⟩ s.size)) := Lib.below_freeze (B1.trans B2) (p := ⟨w.heap.size, 0, none⟩) (Nat.le_refl _) _
    generalize w2.freeze ⟨w.heap.size, 0, none⟩ s.size = w3 at *
    have hpos : (0 : Int) < (s.size : Int) := by omega
    have hpos' : 0 < s.size := by omega
    have hne : ((s.size : Int) == 0) = false := by rw [beq_eq_false_iff_ne]; omega
    clear hus hcell A2 R2 B2 B1 R1 hF hl hsh h0
    go_enter Tryd.func74, Tryd.ntmps74
    go_wp2_with fail
    go_ret
    exact ⟨rfl, HB.out⟩
theorem clone_any (s : ByteArray) (w : World) (hs : s.size ≤ 281474976710656) :
    Calls Tryd.prog 66 #[.string s] w fun e w' => e = .returned (.string s) ∧ Below w.heap.size w w' := by
  have C : Hid _ := fun w => lite_any s w hs
  go_enter Tryd.func66, Tryd.ntmps66
  go_wp2_with fail
  refine (C.out _).mono ?_; rintro e w1 ⟨rfl, hb1⟩
  go_wp2_with fail
  go_ret
  exact ⟨rfl, hb1⟩
end Go.Proofs.YtlodahlinncpcaaDoor.Mc
