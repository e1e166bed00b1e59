/- mac: the keyed digest, the program's and the document's own. -/
import Derived.Test.YtlodahlinncpcaaDoorMacKey
import Derived.Test.YtlodahlinncpcaaDoorShaRefSum
namespace Go.Proofs.YtlodahlinncpcaaDoor.Mc
open Go.RowKit
set_option linter.unusedVariables false
set_option linter.unusedSimpArgs false
theorem S_app (s : ByteArray) (l : List UInt8) : S l ++ s = S (l ++ s.data.toList) := by
  rw [← S_append, S_of]
theorem key_short (k : ByteArray) (h : k.size ≤ 64) : M.key k.data.toList = k.data.toList := by
  rw [M.key, if_neg (by rw [Array.length_toList]; show ¬ 64 < k.size; omega)]
theorem key_long (k : ByteArray) (h : 64 < k.size) : M.key k.data.toList = (S (Q.sum k.data.toList)).data.toList := by
  rw [M.key, if_pos (by rw [Array.length_toList]; show 64 < k.size; omega), S_list]
theorem sumS_size (l : List UInt8) : (S (Q.sum l)).size = 32 := by rw [S_size, M.sum_len]
theorem maskS_size (l : List UInt8) (m : UInt8) : (S (M.mask l m)).size = 64 := by rw [S_size, M.mask_length]
/-- what stands behind the choice of the key -/
theorem hmac_eq (k : ByteArray) (K : ByteArray) (t : ByteArray) (h : M.key k.data.toList = K.data.toList) :
    S (Q.sum (S (M.mask K.data.toList 92) ++ S (Q.sum (S (M.mask K.data.toList 54) ++ t).data.toList)).data.toList) = S (M.hmac k.data.toList t.data.toList) := by
  rw [M.hmac, h]
  simp only [S_app, S_list]
set_option maxHeartbeats 1000000 in
theorem msum_any (k t : ByteArray) (w : World) (hk : k.size ≤ 140737488355000) (ht : t.size ≤ 140737488355000) (hT : Tab w) :
    Calls Tryd.prog 24 #[.string k, .string t] w fun e w' => e = .returned (.string (S (M.hmac k.data.toList t.data.toList))) ∧ Below w.heap.size w w' := by
  have HT : Hid _ := hT
  have hz := hT.pos
  clear hT
  obtain ⟨K, HK, hKs⟩ : ∃ K : ByteArray, Hid (M.key k.data.toList = K.data.toList ∧ (k.size ≤ 64 → K = k) ∧ (64 < k.size → K = S (Q.sum k.data.toList))) ∧ K.size ≤ 64 := by
    by_cases h : k.size ≤ 64
    · exact ⟨k, ⟨key_short k h, fun _ => rfl, fun h' => by omega⟩, h⟩
    · exact ⟨S (Q.sum k.data.toList), ⟨key_long k (by omega), fun h' => absurd h' h, fun _ => rfl⟩, by rw [sumS_size]; omega⟩
  have HE : Hid _ := hmac_eq k K t HK.out.1
  have C1 : Hid _ := fun w => masked_any K 54 w hKs
  have C2 : Hid _ := fun w => masked_any K 92 w hKs
  have CK : Hid _ := fun w h => sum_any k w (by omega) h
  have s1 := maskS_size K.data.toList 54
  have s2 := maskS_size K.data.toList 92
  generalize S (M.mask K.data.toList 54) = a1 at *
  generalize S (M.mask K.data.toList 92) = a2 at *
  have z1 : (a1 ++ t).size ≤ 140737488355328 := by rw [ByteArray.size_append]; omega
  have C3 : Hid _ := fun w h => sum_any (a1 ++ t) w z1 h
  have s3 := sumS_size (a1 ++ t).data.toList
  generalize S (Q.sum (a1 ++ t).data.toList) = b1 at *
  have z2 : (a2 ++ b1).size ≤ 140737488355328 := by rw [ByteArray.size_append]; omega
  have C4 : Hid _ := fun w h => sum_any (a2 ++ b1) w z2 h
  rw [HE.out] at C4
  generalize S (M.hmac k.data.toList t.data.toList) = out at *
  clear HE
  by_cases h64 : k.size ≤ 64
  · obtain rfl := HK.out.2.1 h64
    have hle : ¬ (64 : Int) < (K.size : Int) := by omega
    clear h64 HK
    go_enter Tryd.func24, Tryd.ntmps24
    go_wp2_with fail
    refine (C1.out _).mono ?_; rintro e w1 ⟨rfl, hb1⟩
    have HT1 : Hid (Tab w1) := Tab.below HT.out hb1 hz
    go_wp2_with fail
    refine (C3.out _ HT1.out).mono ?_; rintro e w2 ⟨rfl, hb2⟩
    have HB2 : Hid (Below w.heap.size w w2) := hb1.trans (hb2.mono hb1.size)
    clear hb1 hb2
    go_wp2_with fail
    refine (C2.out _).mono ?_; rintro e w3 ⟨rfl, hb3⟩
    have HB3 : Hid (Below w.heap.size w w3) := Below.trans HB2.out (hb3.mono HB2.out.size)
    have HT3 : Hid (Tab w3) := Tab.below HT.out HB3.out hz
    clear hb3
    go_wp2_with fail
    refine (C4.out _ HT3.out).mono ?_; rintro e w4 ⟨rfl, hb4⟩
    have HB4 : Hid (Below w.heap.size w w4) := Below.trans HB3.out (hb4.mono HB3.out.size)
    go_wp2_with fail
    go_ret
    exact ⟨rfl, HB4.out⟩
  · have hgt : (64 : Int) < (k.size : Int) := by omega
    have hKe := HK.out.2.2 (by omega)
    rw [← hKe] at CK
    clear h64 hKe
    go_enter Tryd.func24, Tryd.ntmps24
    go_wp2_with fail
    refine (CK.out _ HT.out).mono ?_; rintro e w0 ⟨rfl, hb0⟩
    go_wp2_with fail
    refine (C1.out _).mono ?_; rintro e w1 ⟨rfl, hb1⟩
    have HB1 : Hid (Below w.heap.size w w1) := hb0.trans (hb1.mono hb0.size)
    have HT1 : Hid (Tab w1) := Tab.below HT.out HB1.out hz
    clear hb0 hb1
    go_wp2_with fail
    refine (C3.out _ HT1.out).mono ?_; rintro e w2 ⟨rfl, hb2⟩
    have HB2 : Hid (Below w.heap.size w w2) := Below.trans HB1.out (hb2.mono HB1.out.size)
    clear hb2
    go_wp2_with fail
    refine (C2.out _).mono ?_; rintro e w3 ⟨rfl, hb3⟩
    have HB3 : Hid (Below w.heap.size w w3) := Below.trans HB2.out (hb3.mono HB2.out.size)
    have HT3 : Hid (Tab w3) := Tab.below HT.out HB3.out hz
    clear hb3
    go_wp2_with fail
    refine (C4.out _ HT3.out).mono ?_; rintro e w4 ⟨rfl, hb4⟩
    have HB4 : Hid (Below w.heap.size w w4) := Below.trans HB3.out (hb4.mono HB3.out.size)
    go_wp2_with fail
    go_ret
    exact ⟨rfl, HB4.out⟩
end Go.Proofs.YtlodahlinncpcaaDoor.Mc
