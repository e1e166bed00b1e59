/- Pad. -/
import Derived.Test.YtlodahlinncpcaaDoorShaSpell
namespace Go.Proofs.YtlodahlinncpcaaDoor
open Go.RowKit
set_option linter.unusedVariables false
set_option linter.unusedSimpArgs false
theorem numB_at (n k t : Nat) (h : t < k) : (Q.numB n k)[t]? = some (UInt8.ofNat (n / 256 ^ (k - 1 - t))) := by
  induction k generalizing t with
  | zero => omega
  | succ k ih =>
    rw [Q.numB]
    cases t with
    | zero => simp
    | succ t => rw [List.getElem?_cons_succ, ih t (by omega), show k - 1 - t = k + 1 - 1 - (t + 1) by omega]
theorem byte_of (c m : Nat) : [Value.int .u8 ((c : Int) / 2 ^ (8 * m) % 256)] = u8s [UInt8.ofNat (c / 256 ^ m)] := by
  have e : (c : Int) / 2 ^ (8 * m) % 256 = ((UInt8.ofNat (c / 256 ^ m)).toNat : Int) := by
    rw [← byte_int, show (256 : Nat) ^ m = 2 ^ (8 * m) by rw [Nat.pow_mul]]
    simp
  rw [e]; rfl
theorem numB_take (n t : Nat) (h : t < 8) : (Q.numB n 8).take (t + 1) = (Q.numB n 8).take t ++ [UInt8.ofNat (n / 256 ^ (7 - t))] := by
  rw [List.take_add_one, numB_at n 8 t h]; rfl

set_option maxHeartbeats 1000000 in
set_option maxRecDepth 100000 in
theorem pad_any (n : Nat) (w : World) (hn : n < 2 ^ 64) :
    Calls Tryd.prog 19 #[.int .u64 n] w fun e w' => e = .returned (.string (S (Q.pad n))) ∧ Below w.heap.size w w' := by
  have HN : Hid _ := hn
  obtain ⟨z, hz⟩ : ∃ z, z = Q.zeros n := ⟨_, rfl⟩
  have hzz : z < 64 := by rw [hz]; exact Nat.mod_lt _ (by omega)
  have e0 : (119 - (n : Int) % 64) % 64 = (z : Int) := by rw [hz, Q.zeros]; omega
  have e1 : (119 - (n : Int)) % 64 = (z : Int) := by rw [hz, Q.zeros]; omega
  obtain ⟨c, HC⟩ : ∃ c, Hid (c = 8 * n % 18446744073709551616) := ⟨_, rfl⟩
  have e3 : IntKind.u64.wrap (8 * (n : Int)) = (c : Int) := by rw [IntKind.wrap_u64, HC.out]; omega
  obtain ⟨w1, hmk, HO, HB, Z1⟩ := make_bytes w .u64 .u64 (1 + z) (1 + z + 8) (by omega) (by omega)
  have hmk' : (Instr.makeSlice 28 (.int .u64 (1 + (z : Int))) (.int .u64 (1 + (z : Int) + 8))).run Tryd.prog w = .ok (.slice (some ⟨w.heap.size, 0, none⟩) (1 + z) (1 + z + 8)) w1 := by
    have h := hmk
    rw [Int.natCast_add, Int.natCast_add, Int.natCast_add] at h
    exact h
  have hc0 : w1.cell? ⟨w.heap.size, 0, none⟩ = some (.int .u8 0) := by rw [HO.cell (by simp) 0 (by simp; omega)]; simp
  have hf0 := HO.free (by simp) 0
  have HO1 := HO.set (by simp) 0 128
  have HZ : Hid (z = Q.zeros n) := hz
  have hfz : (List.replicate (1 + z) (0 : UInt8)).set 0 128 = 128 :: List.replicate z 0 := by
    rw [show 1 + z = z + 1 by omega, List.replicate_succ]; rfl
  rw [hfz] at HO1
  have HO2 : Hid _ := HO1
  have HB1 : Hid _ := HB
  clear hn hmk HO HO1 hfz hz HB
  go_enter Tryd.func19, Tryd.ntmps19
  go_wp2_with fail
  have HO3 : Hid (OB (w1.setCell ⟨w.heap.size, 0, none⟩ (.int .u8 128)) w.heap.size (.slice (some ⟨w.heap.size, 0, none⟩) (1 + z) (1 + z + 8)) ((128 :: List.replicate z 0 : List UInt8) ++ (Q.numB c 8).take 0)) := by
    show OB _ _ _ _
    rw [List.take_zero, List.append_nil]; exact HO2.out
  have HB2 : Hid (Below w.heap.size w (w1.setCell ⟨w.heap.size, 0, none⟩ (.int .u8 128))) := Below.setCell HB1.out (Nat.le_refl _) _
  rw [e0]
  clear HO2 HB1 hmk' hc0 hf0 e0 e1 e3
  go_loopw [21, 4] (fun i v wr => ∃ t : Nat, t ≤ 8 ∧ i = .int .i64 t ∧ Hid (OB wr w.heap.size v ((128 :: List.replicate z 0 : List UInt8) ++ (Q.numB c 8).take t)) ∧ Hid (Below w.heap.size w wr) ∧ w.heap.size + 1 ≤ wr.heap.size) (fun i _ _ => 8 - (intOf i).toNat)
  case atStart => exact ⟨0, by omega, rfl, HO3, HB2, by simp; omega⟩
  case round =>
    clear HO3 HB2
    obtain ⟨t, ht, rfl, HO, HB, hzr⟩ := hrel
    by_cases hlt : t < 8
    · have HX : Hid _ := numB_take c t hlt
      have HLn : Hid (((128 :: List.replicate z 0 : List UInt8) ++ (Q.numB c 8).take t).length ≤ 80) := by
        show _ ≤ _
        rw [List.length_append, List.length_cons, List.length_replicate, List.length_take, Q.numB_length]; omega
      obtain ⟨m, hm⟩ : ∃ m, m = 7 - t := ⟨_, rfl⟩
      have e7 : (7 : Int) - t = m := by omega
      rw [← hm] at HX
      obtain ⟨L, HL⟩ : ∃ r, Hid ((128 :: List.replicate z 0 : List UInt8) ++ (Q.numB c 8).take t = r) := ⟨_, rfl⟩
      have HXL : Hid ((128 :: List.replicate z 0 : List UInt8) ++ (Q.numB c 8).take (t + 1) = L ++ [UInt8.ofNat (c / 256 ^ m)]) := by
        show _ = _
        rw [HX.out, ← List.append_assoc, HL.out]
      rw [HL.out] at HO HLn
      have hm8 : m ≤ 7 := by omega
      clear HX HL hm
      have HB0 : Hid _ := byte_of c m
      go_wp2_with (at_builtin; refine append_bytes _ rfl _ _ rfl w.heap.size _ L rfl (HO.out.alloc _) wr.heap.size 1 [UInt8.ofNat (c / 256 ^ m)] rfl rfl ?c1 ?c2 ?c3 ?_)
      case c1 => exact range_new wr _ _ _ HB0.out
      case c2 => have := HLn.out; omega
      case c3 => simp; omega
      intro v' w5 ho hb
      have HO5 : Hid _ := ho
      have HB5 : Hid (Below w.heap.size w w5) := Below.trans (Below.alloc HB.out (by omega) _) (hb.mono (by omega))
      have hz5 := hb.size
      simp at hz5
      clear ho hb
      go_wp2_with fail
      go_roundw
      case rel => first | exact ⟨t + 1, by omega, by go_num, by rw [HXL.out]; exact HO5.out, HB5.out, by omega⟩ | ((repeat apply Exists.intro); exact ⟨⟨t + 1, by omega, by go_num, by rw [HXL.out]; exact HO5.out, HB5.out, by omega⟩, rfl⟩)
      case measure => simp [intOf]; omega
    · obtain rfl : t = 8 := by omega
      have hlt' : ¬ (((8 : Nat) : Int) < 8) := by omega
      have e : (128 :: List.replicate z 0 : List UInt8) ++ (Q.numB c 8).take 8 = Q.pad n := by
        rw [List.take_of_length_le (by rw [Q.numB_length]; exact Nat.le_refl _), Q.pad, ← HZ.out, ← HC.out]; rfl
      have HO' := HO.out
      rw [e] at HO'
      have hs := HO'.str (by intro e; have h := Q.pad_length n; rw [e] at h; simp at h)
      clear e HO HO'
      go_wp2_with fail
      go_ret
      exact ⟨rfl, HB.out⟩
end Go.Proofs.YtlodahlinncpcaaDoor
