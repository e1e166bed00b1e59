/- The document's own answer: Hex. -/
import Derived.Test.YtlodahlinncpcaaDoorShaHexF
namespace Go.Proofs.YtlodahlinncpcaaDoor
open Go.RowKit
set_option linter.unusedVariables false
set_option linter.unusedSimpArgs false
set_option maxHeartbeats 1000000 in
set_option maxRecDepth 100000 in
theorem ref_hex (s : ByteArray) (w : World) (hs : s.size ≤ 70368744177000) :
    Calls Tryd.prog 16 #[.string s] w fun e w' => e = .returned (.string (S (Q.hex s.data.toList))) ∧ Below w.heap.size w w' := by
  have HO2 : Hid (OB w w.heap.size (.slice none 0 0) (Q.hex (s.data.toList.take 0))) := ⟨rfl, .inl ⟨rfl, rfl⟩⟩
  go_enter Tryd.func16, Tryd.ntmps16
  go_wp2_with fail
  go_loopw [4, 3] (fun i v wr => ∃ (t : Nat), t ≤ s.size ∧ i = .int .i64 t ∧ Hid (t = 0 → v = .slice none 0 0) ∧ Hid (OB wr w.heap.size v (Q.hex (s.data.toList.take t))) ∧ Hid (Below w.heap.size w wr)) (fun i _ _ => s.size - (intOf i).toNat)
  case atStart => exact ⟨0, by omega, rfl, fun _ => rfl, HO2, Below.refl _ _⟩
  case round =>
    clear HO2
    obtain ⟨t, ht, rfl, HV, HO, HB⟩ := hrel
    by_cases hlt : t < s.size
    · have hb : s.data.toList[t]? = some s[t] := by
        rw [Array.getElem?_toList]
        exact Array.getElem?_eq_getElem (xs := s.data) hlt
      have HX : Hid _ := hex_take s.data.toList t s[t] hb
      have HLn : Hid ((Q.hex (s.data.toList.take t)).length ≤ 2 * t) := by
        show _ ≤ _
        rw [Q.hex_length, List.length_take]; omega
      obtain ⟨L, HL⟩ : ∃ r, Hid (Q.hex (s.data.toList.take t) = r) := ⟨_, rfl⟩
      rw [HL.out] at HO HX HLn
      clear HL hb HV
      have it : (t : Int) < s.size := by omega
      obtain ⟨q, hq⟩ : ∃ q, q = s[t].toNat / 16 := ⟨_, rfl⟩
      obtain ⟨r, hr⟩ : ∃ r, r = s[t].toNat % 16 := ⟨_, rfl⟩
      have hd : s[t].toNat < 256 := UInt8.toNat_lt _
      have eq : (s[t].toNat : Int) / 16 = (q : Int) := by omega
      have er : (s[t].toNat : Int) % 16 = (r : Int) := by omega
      have er' : (s[t].toNat : Int).tmod 16 = (r : Int) := by rw [Int.tmod_eq_emod_of_nonneg (by omega)]; omega
      have iq : (q : Int) < 16 := by omega
      have ir : (r : Int) < 16 := by omega
      have vq : IntKind.u8.wrap (q : Int) = (q : Int) := by rw [IntKind.wrap_u8']; omega
      have vr : IntKind.u8.wrap (r : Int) = (r : Int) := by rw [IntKind.wrap_u8']; omega
      have iq' : q < 16 := by omega
      have ir' : r < 16 := by omega
      rw [← hq, ← hr] at HX
      have HC : Hid _ := two_digits q r iq' ir'
      have HL2 : Hid (L.length + 2 ≤ 140737488355328) := by have := HLn.out; show _ ≤ _; omega
      have hzw : w.heap.size ≤ wr.heap.size := HB.out.size
      clear hq hr hd
      go_wp2_with fail
      go_region_law (refine step_append_bytes _ rfl _ _ rfl w.heap.size _ L rfl (OB.drew (OB.alloc HO.out _)) wr.heap.size 2 [Q.digit q, Q.digit r] rfl rfl ((World.rangeAt_drew _ _ _ _).2 (range_new wr _ _ _ HC.out)) HL2.out (by simp; omega) ?_; intro v' w5 ho hb; have HO5 : Hid _ := ho; have HB5 : Hid (Below w.heap.size w w5) := Below.trans (Below.drew (Below.alloc HB.out (by omega) _)) (hb.mono (by omega)); clear ho hb)
      all_goals
        go_wp2_with fail
        go_roundw
        case rel => exact ⟨t + 1, by omega, by go_num, fun h => by omega, by rw [HX.out]; exact HO5.out, HB5.out⟩
        case measure => simp [intOf]; omega
    · obtain rfl : t = s.size := by omega
      have e : s.data.toList.take s.size = s.data.toList := List.take_of_length_le (by rw [len_list]; exact Nat.le_refl _)
      have HO' := HO.out
      rw [e] at HO'
      by_cases h0 : s.size = 0
      · have hv := HV.out h0
        have hnil : s.data.toList = [] := List.eq_nil_of_length_eq_zero (by rw [len_list]; exact h0)
        have HN : Hid (S (Q.hex s.data.toList) = ⟨#[]⟩) := by show _ = _; rw [hnil]; rfl
        clear e HO HO' HV
        subst hv
        have hcv := run_convert_bytes_nil (P := Tryd.prog) wr 28 5 Tryd.underlying28 Tryd.underlying5 0 0 9 Tryd.underlying9
        go_wp2_with fail
        go_ret
        rw [HN.out]
        exact ⟨rfl, HB.out⟩
      · have hs := HO'.str (by intro e2; have h := Q.hex_length s.data.toList; rw [e2, len_list] at h; simp at h; omega)
        clear e HO HO' HV
        go_wp2_with fail
        go_ret
        exact ⟨rfl, HB.out⟩
end Go.Proofs.YtlodahlinncpcaaDoor
