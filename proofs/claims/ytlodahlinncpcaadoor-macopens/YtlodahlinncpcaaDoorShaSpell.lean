/- spell. -/
import Derived.Test.YtlodahlinncpcaaDoorShaBytes
import Derived.Test.YtlodahlinncpcaaDoorShaSched
namespace Go.Proofs.YtlodahlinncpcaaDoor
open Go.RowKit
set_option linter.unusedVariables false
set_option linter.unusedSimpArgs false
theorem spell_take (l : List Nat) (t : Nat) (h : t < l.length) : Q.spell (l.take (t + 1)) = Q.spell (l.take t) ++ Q.four (l.getD t 0) := by
  rw [List.take_add_one, Q.spell, List.flatMap_append]
  simp [Q.spell, h]

theorem Tryd.size_u32 : (Tryd.prog.info? 25).map (·.size) = some 1 := by kernel_rfl
theorem index_arr (l : List Nat) (t : Nat) (w : World) (h8 : l.length = 8) (ht : t < 8) :
    (Instr.index 26 (AV .u32 l) (.int .i64 (t : Int))).run Tryd.prog w = .ok (.int .u32 ((l.getD t 0 : Nat) : Int)) w := by
  have hu := Tryd.underlying26
  have hi := Tryd.size_u32
  have h1 : (t : Int) < 8 := by omega
  unfold AV
  simp [Instr.index, go_sem, hu, h1]
  rw [if_pos ht]
  simp [ks, h8, ht]
theorem byte_int (n : Nat) : (n : Int) % 256 = ((UInt8.ofNat n).toNat : Int) := by
  rw [UInt8.toNat_ofNat']; omega
theorem four_cells (x : Nat) : [Value.int .u8 ((x : Int) / 16777216 % 256), .int .u8 ((x : Int) / 65536 % 256), .int .u8 ((x : Int) / 256 % 256), .int .u8 ((x : Int) % 256)] = u8s (Q.four x) := by
  simp only [u8s, Q.four, List.map_cons, List.map_nil, ← byte_int]
  simp
set_option maxHeartbeats 1000000 in
set_option maxRecDepth 100000 in
theorem spell_any (l : List Nat) (w : World) (h : Q.Ok8 l) :
    Calls Tryd.prog 38 #[AV .u32 l] w fun e w' => e = .returned (.string (S (Q.spell l))) ∧ Below w.heap.size w w' := by
  have H8 : Hid _ := h.1
  go_enter Tryd.func38, Tryd.ntmps38
  go_wp2_with (first | refine arr_box rfl .u32 26 _ rfl l rfl ?_)
  intro w1 A1 B1 Z1
  obtain ⟨w2, hmk, HO, B2, Z2⟩ := make_bytes w1 .i64 .i64 0 32 (by omega) (by omega)
  have HA2 : Hid _ := A1.below B2 (by omega)
  have HB2 : Hid (Below w.heap.size w w2) := B1.trans (B2.mono (by omega))
  rw [Z1] at HO hmk
  have hmk' : (Instr.makeSlice 28 (.int .i64 0) (.int .i64 32)).run Tryd.prog w1 = .ok (.slice (some ⟨w.heap.size + 1, 0, none⟩) 0 32) w2 := hmk
  clear hmk
  have HO' : Hid _ := HO
  clear HO A1 B1 B2
  go_wp2_with (first | refine arr_load rfl .u32 26 _ rfl w.heap.size rfl l HA2.out 8 25 Tryd.underlying26 (by rw [H8.out]; exact Tryd.size_a8) ?_)
  have HO2 : Hid (OB w2 (w.heap.size + 1) (.slice (some ⟨w.heap.size + 1, 0, none⟩) 0 32) (Q.spell (l.take 0))) := HO'.out
  clear HO' hmk' HA2
  go_loopw [8, 3] (fun i v wr => ∃ t : Nat, t ≤ 8 ∧ i = .int .i64 t ∧ Hid (OB wr (w.heap.size + 1) v (Q.spell (l.take t))) ∧ Hid (Below w.heap.size w wr) ∧ w.heap.size + 1 ≤ wr.heap.size) (fun i _ _ => 8 - (intOf i).toNat)
  case atStart => exact ⟨0, by omega, rfl, HO2, HB2, by omega⟩
  case round =>
    clear HO2 HB2
    obtain ⟨t, ht, rfl, HO, HB, hzr⟩ := hrel
    by_cases hlt : t < 8
    · have hx : (ks .u32 l).toArray[t]? = some (.int .u32 ((l.getD t 0 : Nat) : Int)) := by simp [ks, H8.out, hlt]
      have HX : Hid _ := spell_take l t (by rw [H8.out]; exact hlt)
      have HLn : Hid ((Q.spell (l.take t)).length ≤ 32) := by show _ ≤ _; rw [Q.spell_length, List.length_take]; omega
      have hix := index_arr l t wr H8.out hlt
      generalize l.getD t 0 = x at *
      obtain ⟨L, HL⟩ : ∃ r, Hid (Q.spell (l.take t) = r) := ⟨_, rfl⟩
      rw [HL.out] at HO HX HLn
      have HB0 : Hid _ := four_cells x
      clear HL
      go_wp2_with (at_builtin; refine append_bytes _ rfl _ _ rfl (w.heap.size + 1) _ L rfl (HO.out.alloc _) wr.heap.size 4 (Q.four x) rfl rfl ?c1 ?c2 ?c3 ?_)
      case c1 => exact range_new wr (Q.four x) _ _ HB0.out
      case c2 => have := HLn.out; omega
      case c3 => simp; omega
      intro v' w5 ho hb
      have HO5 : Hid _ := ho
      have HB5 : Hid (Below w.heap.size w w5) := Below.trans (Below.alloc HB.out (by omega) _) (hb.mono (by omega))
      have hz5 := hb.size
      simp at hz5
      clear ho hb
      go_wp2_with fail
      go_roundw
      case rel => exact ⟨t + 1, by omega, by go_num, by rw [HX.out]; exact HO5.out, HB5.out, by omega⟩
      case measure => simp [intOf]; omega
    · obtain rfl : t = 8 := by omega
      have hlt' : ¬ (((8 : Nat) : Int) < 8) := by omega
      have e : l.take 8 = l := List.take_of_length_le (by rw [H8.out]; exact Nat.le_refl _)
      rw [e] at HO
      have hs := HO.out.str (by intro e; have h := Q.spell_length l; rw [e, H8.out] at h; simp at h)
      clear e
      go_wp2_with fail
      go_ret
      exact ⟨rfl, HB.out⟩
end Go.Proofs.YtlodahlinncpcaaDoor
