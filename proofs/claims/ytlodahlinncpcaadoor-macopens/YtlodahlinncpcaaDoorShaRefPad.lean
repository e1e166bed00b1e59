/- The document's own answer: Start, Pad, Hex. -/
import Derived.Test.YtlodahlinncpcaaDoorShaHexF
namespace Go.Proofs.YtlodahlinncpcaaDoor
open Go.RowKit
set_option linter.unusedVariables false
set_option linter.unusedSimpArgs false
theorem ref_start (w : World) :
    Calls Tryd.prog 22 #[] w fun e w' => e = .returned (AV .u32 Q.start) ∧ Below w.heap.size w w' := by
  go_enter Tryd.func22, Tryd.ntmps22
  go_wp2
  refine bodyPost_ret (v := AV .u32 Q.start) ?_ rfl ⟨rfl, ?_⟩
  · simp [results, Tryd.results22, go_sem]
    rfl
  · repeat (first | exact Below.refl _ _ | apply Below.drew | refine Below.alloc ?_ (by first | omega | (simp <;> omega)) _ | refine Below.setCell ?_ (by first | omega | (simp <;> omega)) _)
theorem ob_new1 (w : World) (b : UInt8) (q : Int) (hq : q = (b.toNat : Int)) : OB (w.alloc (.cells #[.int .u8 q] 5)) w.heap.size (.slice (some ⟨w.heap.size, 0, none⟩) 1 1) [b] := by
  subst hq
  show World.ownsRow _ _ _ _ _ _ _
  exact ⟨rfl, .inr ⟨w.heap.size, 1, _, rfl, Nat.le_refl _, heap_alloc_last w _, Nat.le_refl _, by unfold maxLen; omega, rfl, rfl⟩⟩
theorem zeros_more (n k : Nat) (h : (n + (k + 1)) % 64 ≠ 56) (hk : k ≤ Q.zeros n) : k < Q.zeros n := by
  unfold Q.zeros at *
  omega
theorem zeros_end (n k : Nat) (h : (n + (k + 1)) % 64 = 56) (hk : k ≤ Q.zeros n) : k = Q.zeros n := by
  unfold Q.zeros at *
  omega
set_option maxHeartbeats 1000000 in
set_option maxRecDepth 100000 in
theorem ref_pad (n : Nat) (w : World) (hn : n < 18446744073709551616) :
    Calls Tryd.prog 20 #[.int .u64 n] w fun e w' => e = .returned (.string (S (Q.pad n))) ∧ Below w.heap.size w w' := by
  obtain ⟨c, HC⟩ : ∃ c, Hid (c = 8 * n % 18446744073709551616) := ⟨_, rfl⟩
  have HE : Hid (IntKind.u64.wrap ((n : Int) * 8) = (c : Int)) := by show _ = _; rw [IntKind.wrap_u64, HC.out]; omega
  have HZ64 : Q.zeros n < 64 := Nat.mod_lt _ (by omega)
  go_enter Tryd.func20, Tryd.ntmps20
  go_wp2_with fail
  have HO0 : Hid (OB (w.alloc (.cells #[.int .u8 128] 5)) w.heap.size (.slice (some ⟨w.heap.size, 0, none⟩) 1 1) (128 :: List.replicate 0 0)) := ob_new1 w 128 128 rfl
  have HB0 : Hid (Below w.heap.size w (w.alloc (.cells #[.int .u8 128] 5))) := (Below.refl _ _).alloc (Nat.le_refl _) _
  go_loopw [3] (fun v wr => ∃ (k g m : Nat), k ≤ Q.zeros n ∧ v = .slice (some ⟨g, 0, none⟩) (k + 1) m ∧ Hid (OB wr w.heap.size (.slice (some ⟨g, 0, none⟩) (k + 1) m) (128 :: List.replicate k 0)) ∧ Hid (Below w.heap.size w wr) ∧ w.heap.size + 1 ≤ wr.heap.size) (fun v _ => 64 - (match v with | .slice _ k _ => k | _ => 0))
  case atStart => exact ⟨0, _, _, by omega, rfl, HO0, HB0, by simp⟩
  case round =>
    clear HO0 HB0
    obtain ⟨k, g, m, hk, rfl, HO, HB, hzr⟩ := hrel
    obtain ⟨q, hq⟩ : ∃ q, q = (n + (k + 1)) % 18446744073709551616 := ⟨_, rfl⟩
    have ew : IntKind.u64.wrap ((n : Int) + ((k : Int) + 1)) = (q : Int) := by rw [IntKind.wrap_u64, hq]; omega
    have hq64 : q % 64 = (n + (k + 1)) % 64 := by omega
    have et : (q : Int) % 64 = ((q % 64 : Nat) : Int) := by omega
    rw [hq64] at et
    clear hq hq64
    by_cases h56 : (n + (k + 1)) % 64 = 56
    · obtain rfl := zeros_end n k h56 hk
      rw [h56] at et
      have et' : ((q : Int) % 64 != 56) = false := by rw [et]; rfl
      clear et h56 hk
      have HOS : Hid (OB wr w.heap.size (.slice (some ⟨g, 0, none⟩) (Q.zeros n + 1) m) ((128 :: List.replicate (Q.zeros n) 0 : List UInt8) ++ (Q.numB c 8).take 0)) := by
        show OB _ _ _ _
        rw [List.take_zero, List.append_nil]; exact HO.out
      obtain ⟨z, hzd⟩ : ∃ z, z = Q.zeros n := ⟨_, rfl⟩
      have HZD : Hid _ := hzd
      rw [← hzd] at HOS HZ64 ew
      rw [← hzd]
      clear HO hzd
      go_wp2_with fail
      clear et' ew
      go_loopw [4, 3] (fun i v wr => ∃ j : Nat, j ≤ 8 ∧ i = .int .i64 (7 - (j : Int)) ∧ Hid (OB wr w.heap.size v ((128 :: List.replicate z 0 : List UInt8) ++ (Q.numB c 8).take j)) ∧ Hid (Below w.heap.size w wr) ∧ w.heap.size + 1 ≤ wr.heap.size) (fun i _ _ => (intOf i + 1).toNat)
      case atStart => exact ⟨0, by omega, by go_num, HOS, HB, hzr⟩
      case round =>
        clear HOS HB hzr
        obtain ⟨j, hj, rfl, HO, HB, hzr⟩ := hrel
        by_cases hlt : j < 8
        · have HX : Hid _ := numB_take c j hlt
          have HLn : Hid (((128 :: List.replicate z 0 : List UInt8) ++ (Q.numB c 8).take j).length ≤ 80) := by
            show _ ≤ _
            rw [List.length_append, List.length_cons, List.length_replicate, List.length_take, Q.numB_length]; omega
          obtain ⟨mm, hm⟩ : ∃ m, m = 7 - j := ⟨_, rfl⟩
          have e7 : (7 : Int) - j = mm := by omega
          rw [← hm] at HX
          rw [e7]
          obtain ⟨L, HL⟩ : ∃ r, Hid ((128 :: List.replicate z 0 : List UInt8) ++ (Q.numB c 8).take j = r) := ⟨_, rfl⟩
          have HXL : Hid ((128 :: List.replicate z 0 : List UInt8) ++ (Q.numB c 8).take (j + 1) = L ++ [UInt8.ofNat (c / 256 ^ mm)]) := by
            show _ = _
            rw [HX.out, ← List.append_assoc, HL.out]
          rw [HL.out] at HO HLn
          have hm8 : mm ≤ 7 := by omega
          have hm0 : (0 : Int) ≤ (mm : Int) := by omega
          have HMJ : Hid _ := hm
          have E8 := HE.out
          clear HX HL hm
          have HB0 : Hid _ := byte_of c mm
          go_wp2_with (at_builtin; refine append_bytes _ rfl _ _ rfl w.heap.size _ L rfl (HO.out.alloc _) wr.heap.size 1 [UInt8.ofNat (c / 256 ^ mm)] rfl rfl ?c1 ?c2 ?c3 ?_)
          case c1 => exact range_new wr _ _ _ HB0.out
          case c2 => have := HLn.out; omega
          case c3 => simp; omega
          intro v' w5 ho hb
          have HO5 : Hid _ := ho
          have HB5 : Hid (Below w.heap.size w w5) := Below.trans (Below.alloc HB.out (by omega) _) (hb.mono (by omega))
          have hz5 := hb.size
          simp at hz5
          clear ho hb
          go_wp2_with fail
          go_roundw
          case rel => exact ⟨j + 1, by omega, by have := HMJ.out; go_num, by rw [HXL.out]; exact HO5.out, HB5.out, by omega⟩
          case measure => simp [intOf]
        · obtain rfl : j = 8 := by omega
          have hlt' : ¬ ((0 : Int) ≤ 7 - ((8 : Nat) : Int)) := by omega
          have e : (128 :: List.replicate z 0 : List UInt8) ++ (Q.numB c 8).take 8 = Q.pad n := by
            rw [List.take_of_length_le (by rw [Q.numB_length]; exact Nat.le_refl _), Q.pad, ← HZD.out, ← HC.out]; rfl
          have HO' := HO.out
          rw [e] at HO'
          have hs := HO'.str (by intro e; have h := Q.pad_length n; rw [e] at h; simp at h)
          clear e HO HO'
          go_wp2_with fail
          go_ret
          exact ⟨rfl, HB.out⟩
    · have hk' := zeros_more n k h56 hk
      have et' : ((q : Int) % 64 != 56) = true := by rw [et, bne_iff_ne]; omega
      clear et
      go_wp2_with (at_builtin; refine append_bytes _ rfl _ _ rfl w.heap.size _ (128 :: List.replicate k 0) rfl (HO.out.alloc _) wr.heap.size 1 [0] rfl rfl ?c1 ?c2 ?c3 ?_)
      case c1 => exact range_new wr [0] _ _ rfl
      case c2 => simp; omega
      case c3 => simp; omega
      intro v' w5 ho hb
      have ho : OB w5 w.heap.size v' (128 :: List.replicate (k + 1) 0) := by rw [List.replicate_succ']; exact ho
      obtain ⟨g', n', c', rfl⟩ := OB.some ho (by simp)
      have hn' : n' = k + 2 := by
        obtain ⟨_, h2⟩ := ho
        rcases h2 with ⟨h3, _⟩ | ⟨_, _, _, h3, _⟩
        · cases h3
        · simp only [Value.slice.injEq] at h3
          have := h3.2.1
          simpa using this
      subst hn'
      have HO5 : Hid _ := ho
      have HB5 : Hid (Below w.heap.size w w5) := Below.trans (Below.alloc HB.out (by omega) _) (hb.mono (by omega))
      have hz5 := hb.size
      simp at hz5
      clear ho hb
      go_wp2_with fail
      go_roundw
      case rel => exact ⟨k + 1, g', c', by omega, rfl, HO5.out, HB5.out, by omega⟩
      case measure => simp; omega
end Go.Proofs.YtlodahlinncpcaaDoor
