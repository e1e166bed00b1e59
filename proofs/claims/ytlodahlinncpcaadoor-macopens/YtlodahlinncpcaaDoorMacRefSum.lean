/- mac: the document's own keyed digest. -/
import Derived.Test.YtlodahlinncpcaaDoorMacSum
namespace Go.Proofs.YtlodahlinncpcaaDoor.Mc
open Go.RowKit
set_option linter.unusedVariables false
set_option linter.unusedSimpArgs false
theorem tail_at (G : List UInt8) (i n : Nat) (hG : G.length = n) (hi : i < n) : (G.take i ++ List.replicate (n - i) (0 : UInt8))[i]? = some 0 := by
  rw [List.getElem?_append_right (by rw [List.length_take]; omega), List.length_take, Nat.min_eq_left (by omega), Nat.sub_self, List.getElem?_replicate, if_pos (by omega)]
theorem tail_set (G : List UInt8) (i n : Nat) (hG : G.length = n) (hi : i < n) : (G.take i ++ List.replicate (n - i) (0 : UInt8)).set i (G[i]'(by omega)) = G.take (i + 1) ++ List.replicate (n - (i + 1)) 0 := by
  rw [List.set_append_right _ _ (by rw [List.length_take]; omega), List.length_take, Nat.min_eq_left (by omega), Nat.sub_self, show n - i = (n - (i + 1)) + 1 by omega, List.replicate_succ, List.set_cons_zero, List.take_succ_eq_append_getElem (by omega), List.append_assoc]
  rfl
theorem tail_len (G : List UInt8) (i n : Nat) (hG : G.length = n) (hi : i ≤ n) : (G.take i ++ List.replicate (n - i) (0 : UInt8)).length = n := by
  rw [List.length_append, List.length_take, List.length_replicate]; omega
theorem mask_in (K : ByteArray) (m : UInt8) (i : Nat) (hK : K.size ≤ 64) (hi : i < K.size) (h : i < (M.mask K.data.toList m).length) : (M.mask K.data.toList m)[i] = K[i] ^^^ m := by
  have hl : K.data.toList.length = K.size := by rw [Array.length_toList]; rfl
  have e : M.mask K.data.toList m = (K.data.toList ++ List.replicate (64 - K.size) 0).map fun b => b ^^^ m := by
    rw [M.mask, M.fill, List.take_of_length_le (by omega), hl]
  simp only [e, List.getElem_map]
  rw [List.getElem_append_left (by omega)]
  rfl
theorem mask_out (K : ByteArray) (m : UInt8) (i : Nat) (hK : K.size ≤ 64) (hi : K.size ≤ i) (h : i < (M.mask K.data.toList m).length) : (M.mask K.data.toList m)[i] = 0 ^^^ m := by
  have hl : K.data.toList.length = K.size := by rw [Array.length_toList]; rfl
  have e : M.mask K.data.toList m = (K.data.toList ++ List.replicate (64 - K.size) 0).map fun b => b ^^^ m := by
    rw [M.mask, M.fill, List.take_of_length_le (by omega), hl]
  simp only [e, List.getElem_map]
  rw [List.getElem_append_right (by omega), List.getElem_replicate]
theorem xor_b (x m : UInt8) : bits .xor .u8 (x.toNat : Int) (m.toNat : Int) = ((x ^^^ m).toNat : Int) := by
  rw [u8_xor_nat _ _ (UInt8.toNat_lt _) (UInt8.toNat_lt _), UInt8.toNat_xor]
set_option maxHeartbeats 2000000 in
set_option maxRecDepth 100000 in
/-- the loop, from the key that counts on -/
theorem padded_any (k : ByteArray) (m : UInt8) (w : World) (hk : k.size ≤ 140737488355000) :
    Calls Tryd.prog 44 #[.string k, .int .u8 (m.toNat : Int)] w fun e w' => e = .returned (.string (S (M.mask (M.key k.data.toList) m))) ∧ Below w.heap.size w w' := by
  have hm : m.toNat < 256 := m.toNat_lt
  obtain ⟨K, HK, hKs⟩ : ∃ K : ByteArray, Hid (M.key k.data.toList = K.data.toList ∧ (k.size ≤ 64 → K = k) ∧ (64 < k.size → K = S (Q.sum k.data.toList))) ∧ K.size ≤ 64 := by
    by_cases h : k.size ≤ 64
    · exact ⟨k, ⟨key_short k h, fun _ => rfl, fun h' => by omega⟩, h⟩
    · exact ⟨S (Q.sum k.data.toList), ⟨key_long k (by omega), fun h' => absurd h' h, fun _ => rfl⟩, by rw [sumS_size]; omega⟩
  have CK : Hid _ := fun w => ref_sum k w hk
  rw [HK.out.1]
  obtain ⟨G, HG⟩ : ∃ r, Hid (M.mask K.data.toList m = r) := ⟨_, rfl⟩
  have HL : Hid (G.length = 64) := by show _ = _; rw [← HG.out, M.mask_length]
  have HI : Hid (∀ i (h : i < K.size) (h' : i < G.length), G[i] = K[i] ^^^ m) := fun i h h' => by
    have := HG.out
    subst this
    exact mask_in K m i hKs h h'
  have HO : Hid (∀ i (h : K.size ≤ i) (h' : i < G.length), G[i] = 0 ^^^ m) := fun i h h' => by
    have := HG.out
    subst this
    exact mask_out K m i hKs h h'
  rw [HG.out]
  clear HG
  by_cases h64 : k.size ≤ 64
  · obtain rfl := HK.out.2.1 h64
    have hle : ¬ (64 : Int) < (K.size : Int) := by omega
    clear h64 HK
    go_enter Tryd.func44, Tryd.ntmps44
    obtain ⟨w2, hmk, HO0, B2, Z2⟩ := make_bytes w .i64 .i64 64 64 (by omega) (by omega)
    have HB2 : Hid (Below w.heap.size w w2) := B2
    have hmk' : (Instr.makeSlice 28 (.int .i64 64) (.int .i64 64)).run Tryd.prog w = .ok (.slice (some ⟨w.heap.size, 0, none⟩) 64 64) w2 := hmk
    obtain ⟨g, hg⟩ : ∃ g, w.heap.size = g := ⟨_, rfl⟩
    rw [hg] at hmk' HO0
    have hgw : w.heap.size ≤ g := by omega
    have HG0 : Hid (OB w2 g (.slice (some ⟨g, 0, none⟩) 64 64) (G.take 0 ++ List.replicate (64 - 0) 0)) := HO0
    clear hmk HO0 B2 hg
    go_wp2_with fail
    clear hmk'
    go_loopw [6] (fun i wr => ∃ t : Nat, t ≤ 64 ∧ i = .int .i64 t ∧ Hid (OB wr g (.slice (some ⟨g, 0, none⟩) 64 64) (G.take t ++ List.replicate (64 - t) 0)) ∧ Hid (Below w.heap.size w wr)) (fun i _ => 64 - (intOf i).toNat)
    case atStart => exact ⟨0, by omega, rfl, HG0, HB2⟩
    case round =>
      clear HG0 HB2 Z2
      obtain ⟨t, ht, rfl, HA, HB⟩ := hrel
      by_cases hlt : t < 64
      · have hG : t < G.length := by rw [HL.out]; exact hlt
        have hlen := tail_len G t 64 HL.out ht
        have it : (t : Int) < 64 := by omega
        by_cases hin : t < K.size
        · have hgt' := HI.out t hin hG
          have HSX : Hid (((G.take t ++ List.replicate (64 - t) 0).set t K[t]).set t (K[t] ^^^ m) = G.take (t + 1) ++ List.replicate (64 - (t + 1)) 0) := by
            show _ = _
            rw [List.set_set, ← hgt', tail_set G t 64 HL.out hlt]
          obtain ⟨old, c0⟩ : ∃ old, wr.cell? ⟨g, t, none⟩ = some (.int .u8 old) := ⟨_, OB.cell HA.out hlen t (by rw [hlen]; exact hlt)⟩
          have f0 := OB.free HA.out hlen t
          have O1 := OB.set HA.out hlen t K[t]
          have hlen1 : ((G.take t ++ List.replicate (64 - t) 0).set t K[t]).length = 64 := by rw [List.length_set]; exact hlen
          have O2 := OB.set O1 hlen1 t (K[t] ^^^ m)
          rw [HSX.out] at O2
          have HX : Hid _ := xor_b K[t] m
          have hx := HX.out
          have HO2 : Hid _ := O2
          have hbw : t < K.size := hin
          have ib : (t : Int) < (K.size : Int) := by omega
          have HU : Hid (Below w.heap.size w ((wr.setCell ⟨g, t, none⟩ (.int .u8 (K[t].toNat : Int))).setCell ⟨g, t, none⟩ (.int .u8 ((K[t] ^^^ m).toNat : Int)))) :=
            Below.setCell (Below.setCell HB.out hgw _) hgw _
          generalize (K[t] ^^^ m).toNat = y at *
          clear hgt' hlen1 O1 O2 hG hlen HSX HA
          go_wp2_with fail
          go_roundw
          case rel => exact ⟨t + 1, by omega, by go_num, HO2, HU⟩
          case measure => simp [intOf]; omega
        · have hgt' := HO.out t (by omega) hG
          have HSX : Hid ((G.take t ++ List.replicate (64 - t) 0).set t (0 ^^^ m) = G.take (t + 1) ++ List.replicate (64 - (t + 1)) 0) := by
            show _ = _
            rw [← hgt', tail_set G t 64 HL.out hlt]
          have c0 := OB.cell HA.out hlen t (by rw [hlen]; exact hlt)
          have e0 : (G.take t ++ List.replicate (64 - t) (0 : UInt8))[t]'(by rw [hlen]; exact hlt) = 0 := by
            have := tail_at G t 64 HL.out hlt
            rw [List.getElem?_eq_getElem (by rw [hlen]; exact hlt)] at this
            exact Option.some.inj this
          rw [e0] at c0
          have f0 := OB.free HA.out hlen t
          have O2 := OB.set HA.out hlen t (0 ^^^ m)
          rw [HSX.out] at O2
          have hx := xor_b 0 m
          have HO2 : Hid _ := O2
          have ib : ¬ (t : Int) < (K.size : Int) := by omega
          have HU : Hid (Below w.heap.size w (wr.setCell ⟨g, t, none⟩ (.int .u8 ((0 ^^^ m).toNat : Int)))) := Below.setCell HB.out hgw _
          generalize ((0 : UInt8) ^^^ m).toNat = y at *
          have hx' : bits .xor .u8 0 (m.toNat : Int) = (y : Int) := hx
          have c0' : wr.cell? ⟨g, t, none⟩ = some (.int .u8 0) := c0
          clear hgt' O2 hG hlen HSX HA e0 c0 hx
          go_wp2_with fail
          go_roundw
          case rel => exact ⟨t + 1, by omega, by go_num, HO2, HU⟩
          case measure => simp [intOf]; omega
      · obtain rfl : t = 64 := by omega
        have hlt' : ¬ (((64 : Nat) : Int) < 64) := by omega
        have e : G.take 64 ++ List.replicate (64 - 64) (0 : UInt8) = G := by rw [List.take_of_length_le (by rw [HL.out]; exact Nat.le_refl _)]; simp
        rw [e] at HA
        have hs := OB.strAt HA.out
        clear e hlt
        go_wp2_with fail
        go_ret
        exact ⟨rfl, HB.out⟩
  · have hgt : (64 : Int) < (k.size : Int) := by omega
    have hKe := HK.out.2.2 (by omega)
    rw [← hKe] at CK
    clear h64 hKe
    go_enter Tryd.func44, Tryd.ntmps44
    go_wp2_with fail
    refine (CK.out _).mono ?_; rintro e w0 ⟨rfl, hb0⟩
    obtain ⟨w2, hmk, HO0, B2, Z2⟩ := make_bytes w0 .i64 .i64 64 64 (by omega) (by omega)
    have HB2 : Hid (Below w.heap.size w w2) := hb0.trans (B2.mono hb0.size)
    have hmk' : (Instr.makeSlice 28 (.int .i64 64) (.int .i64 64)).run Tryd.prog w0 = .ok (.slice (some ⟨w0.heap.size, 0, none⟩) 64 64) w2 := hmk
    obtain ⟨g, hg⟩ : ∃ g, w0.heap.size = g := ⟨_, rfl⟩
    rw [hg] at hmk' HO0
    have hgw : w.heap.size ≤ g := by have := hb0.size; omega
    clear hb0
    have HG0 : Hid (OB w2 g (.slice (some ⟨g, 0, none⟩) 64 64) (G.take 0 ++ List.replicate (64 - 0) 0)) := HO0
    clear hmk HO0 B2 hg
    go_wp2_with fail
    clear hmk'
    go_loopw [6] (fun i wr => ∃ t : Nat, t ≤ 64 ∧ i = .int .i64 t ∧ Hid (OB wr g (.slice (some ⟨g, 0, none⟩) 64 64) (G.take t ++ List.replicate (64 - t) 0)) ∧ Hid (Below w.heap.size w wr)) (fun i _ => 64 - (intOf i).toNat)
    case atStart => exact ⟨0, by omega, rfl, HG0, HB2⟩
    case round =>
      clear HG0 HB2 Z2
      obtain ⟨t, ht, rfl, HA, HB⟩ := hrel
      by_cases hlt : t < 64
      · have hG : t < G.length := by rw [HL.out]; exact hlt
        have hlen := tail_len G t 64 HL.out ht
        have it : (t : Int) < 64 := by omega
        by_cases hin : t < K.size
        · have hgt' := HI.out t hin hG
          have HSX : Hid (((G.take t ++ List.replicate (64 - t) 0).set t K[t]).set t (K[t] ^^^ m) = G.take (t + 1) ++ List.replicate (64 - (t + 1)) 0) := by
            show _ = _
            rw [List.set_set, ← hgt', tail_set G t 64 HL.out hlt]
          obtain ⟨old, c0⟩ : ∃ old, wr.cell? ⟨g, t, none⟩ = some (.int .u8 old) := ⟨_, OB.cell HA.out hlen t (by rw [hlen]; exact hlt)⟩
          have f0 := OB.free HA.out hlen t
          have O1 := OB.set HA.out hlen t K[t]
          have hlen1 : ((G.take t ++ List.replicate (64 - t) 0).set t K[t]).length = 64 := by rw [List.length_set]; exact hlen
          have O2 := OB.set O1 hlen1 t (K[t] ^^^ m)
          rw [HSX.out] at O2
          have HX : Hid _ := xor_b K[t] m
          have hx := HX.out
          have HO2 : Hid _ := O2
          have hbw : t < K.size := hin
          have ib : (t : Int) < (K.size : Int) := by omega
          have HU : Hid (Below w.heap.size w ((wr.setCell ⟨g, t, none⟩ (.int .u8 (K[t].toNat : Int))).setCell ⟨g, t, none⟩ (.int .u8 ((K[t] ^^^ m).toNat : Int)))) :=
            Below.setCell (Below.setCell HB.out hgw _) hgw _
          generalize (K[t] ^^^ m).toNat = y at *
          clear hgt' hlen1 O1 O2 hG hlen HSX HA
          go_wp2_with fail
          go_roundw
          case rel => exact ⟨t + 1, by omega, by go_num, HO2, HU⟩
          case measure => simp [intOf]; omega
        · have hgt' := HO.out t (by omega) hG
          have HSX : Hid ((G.take t ++ List.replicate (64 - t) 0).set t (0 ^^^ m) = G.take (t + 1) ++ List.replicate (64 - (t + 1)) 0) := by
            show _ = _
            rw [← hgt', tail_set G t 64 HL.out hlt]
          have c0 := OB.cell HA.out hlen t (by rw [hlen]; exact hlt)
          have e0 : (G.take t ++ List.replicate (64 - t) (0 : UInt8))[t]'(by rw [hlen]; exact hlt) = 0 := by
            have := tail_at G t 64 HL.out hlt
            rw [List.getElem?_eq_getElem (by rw [hlen]; exact hlt)] at this
            exact Option.some.inj this
          rw [e0] at c0
          have f0 := OB.free HA.out hlen t
          have O2 := OB.set HA.out hlen t (0 ^^^ m)
          rw [HSX.out] at O2
          have hx := xor_b 0 m
          have HO2 : Hid _ := O2
          have ib : ¬ (t : Int) < (K.size : Int) := by omega
          have HU : Hid (Below w.heap.size w (wr.setCell ⟨g, t, none⟩ (.int .u8 ((0 ^^^ m).toNat : Int)))) := Below.setCell HB.out hgw _
          generalize ((0 : UInt8) ^^^ m).toNat = y at *
          have hx' : bits .xor .u8 0 (m.toNat : Int) = (y : Int) := hx
          have c0' : wr.cell? ⟨g, t, none⟩ = some (.int .u8 0) := c0
          clear hgt' O2 hG hlen HSX HA e0 c0 hx
          go_wp2_with fail
          go_roundw
          case rel => exact ⟨t + 1, by omega, by go_num, HO2, HU⟩
          case measure => simp [intOf]; omega
      · obtain rfl : t = 64 := by omega
        have hlt' : ¬ (((64 : Nat) : Int) < 64) := by omega
        have e : G.take 64 ++ List.replicate (64 - 64) (0 : UInt8) = G := by rw [List.take_of_length_le (by rw [HL.out]; exact Nat.le_refl _)]; simp
        rw [e] at HA
        have hs := OB.strAt HA.out
        clear e hlt
        go_wp2_with fail
        go_ret
        exact ⟨rfl, HB.out⟩
set_option maxHeartbeats 1000000 in
theorem ref_msum (k t : ByteArray) (w : World) (hk : k.size ≤ 140737488355000) (ht : t.size ≤ 140737488354900) :
    Calls Tryd.prog 25 #[.string k, .string t] w fun e w' => e = .returned (.string (S (M.hmac k.data.toList t.data.toList))) ∧ Below w.heap.size w w' := by
  have HE : Hid _ := hmac_eq k (S (M.key k.data.toList)) t (by rw [S_list])
  rw [S_list] at HE
  have C1 : Hid _ := fun w => padded_any k 54 w hk
  have C2 : Hid _ := fun w => padded_any k 92 w hk
  have s1 := maskS_size (M.key k.data.toList) 54
  have s2 := maskS_size (M.key k.data.toList) 92
  generalize S (M.mask (M.key k.data.toList) 54) = a1 at *
  generalize S (M.mask (M.key k.data.toList) 92) = a2 at *
  have z1 : (a1 ++ t).size ≤ 140737488355000 := by rw [ByteArray.size_append]; omega
  have C3 : Hid _ := fun w => ref_sum (a1 ++ t) w z1
  have s3 := sumS_size (a1 ++ t).data.toList
  generalize S (Q.sum (a1 ++ t).data.toList) = b1 at *
  have z2 : (a2 ++ b1).size ≤ 140737488355000 := by rw [ByteArray.size_append]; omega
  have C4 : Hid _ := fun w => ref_sum (a2 ++ b1) w z2
  rw [HE.out] at C4
  generalize S (M.hmac k.data.toList t.data.toList) = out at *
  clear HE
  go_enter Tryd.func25, Tryd.ntmps25
  go_wp2_with fail
  refine (C1.out _).mono ?_; rintro e w1 ⟨rfl, hb1⟩
  go_wp2_with fail
  refine (C3.out _).mono ?_; rintro e w2 ⟨rfl, hb2⟩
  have HB2 : Hid (Below w.heap.size w w2) := hb1.trans (hb2.mono hb1.size)
  clear hb1 hb2
  go_wp2_with fail
  refine (C2.out _).mono ?_; rintro e w3 ⟨rfl, hb3⟩
  have HB3 : Hid (Below w.heap.size w w3) := Below.trans HB2.out (hb3.mono HB2.out.size)
  clear hb3
  go_wp2_with fail
  refine (C4.out _).mono ?_; rintro e w4 ⟨rfl, hb4⟩
  have HB4 : Hid (Below w.heap.size w w4) := Below.trans HB3.out (hb4.mono HB3.out.size)
  go_wp2_with fail
  go_ret
  exact ⟨rfl, HB4.out⟩
end Go.Proofs.YtlodahlinncpcaaDoor.Mc
