/- Start and schedule. -/
import Derived.Test.YtlodahlinncpcaaDoorShaRound
import Derived.Deep.RegionHeld
namespace Go.Proofs.YtlodahlinncpcaaDoor
open Go.RowKit
set_option linter.unusedVariables false
set_option linter.unusedSimpArgs false
theorem start_any (w : World) :
    Calls Tryd.prog 21 #[] w fun e w' => e = .returned (AV .u32 Q.start) ∧ Below w.heap.size w w' := by
  go_enter Tryd.func21, Tryd.ntmps21
  go_wp2
  refine bodyPost_ret (v := AV .u32 Q.start) ?_ rfl ⟨rfl, ?_⟩
  · simp [results, Tryd.results21, go_sem]
    rfl
  · repeat (first | exact Below.refl _ _ | apply Below.drew | refine Below.alloc ?_ (by first | omega | (simp <;> omega)) _ | refine Below.setCell ?_ (by first | omega | (simp <;> omega)) _)
theorem Tryd.info_a64 : (Tryd.prog.info? 65).map (fun i => (i.zero, i.size)) = some (some (AV .u32 (List.replicate 64 0)), 64) := by kernel_rfl
theorem Tryd.size_a64 : (Tryd.prog.info? 65).map (·.size) = some 64 := by kernel_rfl
theorem Tryd.info_a8 : (Tryd.prog.info? 26).map (fun i => (i.zero, i.size)) = some (some (AV .u32 (List.replicate 8 0)), 8) := by kernel_rfl
theorem Tryd.size_a8 : (Tryd.prog.info? 26).map (·.size) = some 8 := by kernel_rfl

theorem sched_set (b : List UInt8) (t x : Nat) (h : t < 64) : (Q.W b t ++ List.replicate (64 - t) 0).set t x = (Q.W b t ++ [x]) ++ List.replicate (64 - (t + 1)) 0 := by
  rw [List.set_append_right _ _ (by rw [Q.W_length]; omega), Q.W_length, Nat.sub_self, show 64 - t = (64 - (t + 1)) + 1 by omega, List.replicate_succ]
  simp
theorem sched_len (b : List UInt8) (t : Nat) (h : t ≤ 64) : (Q.W b t ++ List.replicate (64 - t) 0).length = 64 := by
  rw [List.length_append, Q.W_length, List.length_replicate]; omega

theorem extract_drop (s : ByteArray) (a n : Nat) (hn : n = s.size) : (s.extract a n).data.toList = s.data.toList.drop a := by
  subst hn
  rw [ByteArray.data_extract, Array.toList_extract]
  simp only [List.extract]
  apply List.take_of_length_le
  rw [List.length_drop, Array.length_toList]
  exact Nat.le_refl _
theorem sched_lo (b : List UInt8) (t : Nat) (h : t < 16) : Q.W b (t + 1) = Q.W b t ++ [Q.word (b.drop (4 * t))] := by rw [Q.W, if_pos h]
theorem sched_hi (b : List UInt8) (t : Nat) (h : 16 ≤ t) : Q.W b (t + 1) = Q.W b t ++ [Q.nxt (Q.W b t)] := by rw [Q.W, if_neg (by omega)]
theorem word_from (s : ByteArray) (t : Nat) (w : World) (h : s.size = 64) (ht : t < 16) :
    Calls Tryd.prog 55 #[.string (s.extract (4 * t) 64)] w fun e w' => e = .returned (.int .u32 (Q.word (s.data.toList.drop (4 * t)) : Nat)) ∧ w' = w.drew := by
  have := word_any (s.extract (4 * t) 64) w (by rw [ByteArray.size_extract]; omega)
  rw [extract_drop s (4 * t) 64 h.symm] at this
  exact this

theorem wrap_four (a b c d : Nat) : IntKind.u32.wrap (IntKind.u32.wrap (IntKind.u32.wrap ((a : Int) + b) + c) + d) = (((a + b + c + d) % 4294967296 : Nat) : Int) := by
  simp only [IntKind.wrap_u32']; omega
/-- what a cell holds, whatever it is -/
def oldAt (u : World) (a : Addr) : Value := (u.cell? a).getD undef
theorem oldAt_of {u : World} {a : Addr} (h : (u.cell? a).isSome = true) : u.cell? a = some (oldAt u a) := by
  obtain ⟨v, hv⟩ := Option.isSome_iff_exists.1 h
  rw [oldAt, hv]; rfl
abbrev Four (b t p2 p7 p15 p16 a2 a7 a15 a16 : Nat) (u : World) : Prop :=
  u.cell? ⟨b, p2, none⟩ = some (.int .u32 (a2 : Int)) ∧ u.cell? ⟨b, p7, none⟩ = some (.int .u32 (a7 : Int)) ∧ u.cell? ⟨b, p15, none⟩ = some (.int .u32 (a15 : Int)) ∧ u.cell? ⟨b, p16, none⟩ = some (.int .u32 (a16 : Int)) ∧ u.cell? ⟨b, t, none⟩ = some (oldAt u ⟨b, t, none⟩) ∧ u.frozen? ⟨b, t, none⟩ = false
theorem Four.set {b t p2 p7 p15 p16 a2 a7 a15 a16 : Nat} {u : World} (h : Four b t p2 p7 p15 p16 a2 a7 a15 a16 u) (v : Value) (h2 : p2 < t) (h7 : p7 < t) (h15 : p15 < t) (h16 : p16 < t) :
    Four b t p2 p7 p15 p16 a2 a7 a15 a16 (u.setCell ⟨b, t, none⟩ v) := by
  obtain ⟨c2, c7, c15, c16, c, f⟩ := h
  have ne : ∀ p, p < t → (⟨b, t, none⟩ : Addr) ≠ ⟨b, p, none⟩ := fun p hp e => by injection e; omega
  refine ⟨?_, ?_, ?_, ?_, ?_, ?_⟩
  · rw [World.cell?_setCell_other _ _ _ _ (ne _ h2)]; exact c2
  · rw [World.cell?_setCell_other _ _ _ _ (ne _ h7)]; exact c7
  · rw [World.cell?_setCell_other _ _ _ _ (ne _ h15)]; exact c15
  · rw [World.cell?_setCell_other _ _ _ _ (ne _ h16)]; exact c16
  · exact oldAt_of (by rw [World.cell?_setCell_same _ _ _ c]; rfl)
  · rw [World.frozen?_setCell]; exact f
theorem Four.drew {b t p2 p7 p15 p16 a2 a7 a15 a16 : Nat} {u : World} (h : Four b t p2 p7 p15 p16 a2 a7 a15 a16 u) : Four b t p2 p7 p15 p16 a2 a7 a15 a16 u.drew := h
theorem getD_left (a b : List Nat) (i : Nat) (h : i < a.length) : (a ++ b).getD i 0 = a.getD i 0 := by
  rw [List.getD_eq_getElem?_getD, List.getD_eq_getElem?_getD, List.getElem?_append_left h]

set_option maxHeartbeats 1000000 in
set_option maxRecDepth 100000 in
theorem schedule_any (s : ByteArray) (w : World) (h : s.size = 64) :
    Calls Tryd.prog 41 #[.string s] w fun e w' => e = .returned (AV .u32 (Q.W s.data.toList 64)) ∧ Below w.heap.size w w' := by
  go_enter Tryd.func41, Tryd.ntmps41
  go_wp2_with (refine arr_alloc rfl .u32 65 64 rfl Tryd.info_a64 ?_)
  intro w1 A1 B1 Z1
  go_wp2_with (refine arr_alloc rfl .u32 65 64 rfl Tryd.info_a64 ?_)
  intro w2 A2 B2 Z2
  go_wp2_with fail
  have HS : Hid _ := h
  have HA2 : Hid (Arr .u32 w2 (w.heap.size + 1) (Q.W s.data.toList 0 ++ List.replicate (64 - 0) 0)) := by show Arr _ _ _ _; simpa [Q.W] using A2
  have HA1 : Hid _ := A1.below B2 (by omega)
  have HB0 : Hid _ := B1.trans (B2.mono (by omega))
  clear A1 A2 B1 B2 Z1 Z2
  go_loopw [6] (fun i wr => ∃ t : Nat, t ≤ 16 ∧ i = .int .i64 t ∧ Hid (Arr .u32 wr (w.heap.size + 1) (Q.W s.data.toList t ++ List.replicate (64 - t) 0)) ∧ Hid (Arr .u32 wr w.heap.size (List.replicate 64 0)) ∧ Hid (Below w.heap.size w wr)) (fun i _ => 16 - (intOf i).toNat)
  case atStart => exact ⟨0, by omega, rfl, HA2, HA1, HB0⟩
  case round =>
    obtain ⟨t, ht, rfl, HA, HR, HB⟩ := hrel
    clear HA2 HA1 HB0
    by_cases hlt : t < 16
    · have C : Hid _ := fun w => word_from s t w HS.out hlt
      have hlen := sched_len s.data.toList t (by omega)
      have hc := HA.out.cell t (by rw [hlen]; omega)
      have hf := HA.out.free t (by rw [hlen]; omega)
      have HX : Hid _ := HA.out.drew.set t (Q.word (s.data.toList.drop (4 * t))) (by rw [hlen]; omega)
      have HU : Hid _ := Upd.setCell wr.drew (w.heap.size + 1) t (.int .u32 (Q.word (s.data.toList.drop (4 * t)) : Nat))
      have HL : Hid _ := sched_lo s.data.toList t hlt
      have HSS : Hid _ := sched_set s.data.toList t (Q.word (s.data.toList.drop (4 * t))) (by omega)
      generalize (Q.W s.data.toList t ++ List.replicate (64 - t) 0).getD t 0 = old at hc
      clear hlen
      go_wp2_with fail
      refine (C.out _).mono ?_; rintro e w1 ⟨rfl, rfl⟩
      go_wp2_with fail
      go_roundw
      case rel => exact ⟨t + 1, by omega, by go_num, by rw [HL.out, ← HSS.out]; exact HX.out, HR.out.drew.upd HU.out (by omega), HB.out.drew.trans (HU.out.below (by omega))⟩
      case measure => simp [intOf]; omega
    · obtain rfl : t = 16 := by omega
      have hlt' : ¬ (((16 : Nat) : Int) < 16) := by omega
      go_wp2_with fail
      clear hlt' ht hlt
      go_loopw [5] (fun i wr => ∃ t : Nat, 16 ≤ t ∧ t ≤ 64 ∧ i = .int .i64 t ∧ Hid (Arr .u32 wr (w.heap.size + 1) (Q.W s.data.toList t ++ List.replicate (64 - t) 0)) ∧ Hid (Arr .u32 wr w.heap.size (List.replicate 64 0)) ∧ Hid (Below w.heap.size w wr)) (fun i _ => 64 - (intOf i).toNat)
      case atStart => exact ⟨16, by omega, by omega, rfl, HA, HR, HB⟩
      case round =>
        clear HA HR HB
        obtain ⟨t, ht, ht', rfl, HA, HR, HB⟩ := hrel
        by_cases hlt : t < 64
        · have hlen := sched_len s.data.toList t (by omega)
          have HW := Q.W_length s.data.toList t
          obtain ⟨p16, hp16⟩ : ∃ p, p + 16 = t := ⟨t - 16, by omega⟩
          obtain ⟨p15, hp15⟩ : ∃ p, p + 15 = t := ⟨t - 15, by omega⟩
          obtain ⟨p7, hp7⟩ : ∃ p, p + 7 = t := ⟨t - 7, by omega⟩
          obtain ⟨p2, hp2⟩ : ∃ p, p + 2 = t := ⟨t - 2, by omega⟩
          have HF : Hid (Four (w.heap.size + 1) t p2 p7 p15 p16 ((Q.W s.data.toList t).getD p2 0) ((Q.W s.data.toList t).getD p7 0) ((Q.W s.data.toList t).getD p15 0) ((Q.W s.data.toList t).getD p16 0) wr) := by
            refine ⟨?_, ?_, ?_, ?_, ?_, ?_⟩
            · rw [HA.out.cell p2 (by omega), getD_left _ _ _ (by omega)]
            · rw [HA.out.cell p7 (by omega), getD_left _ _ _ (by omega)]
            · rw [HA.out.cell p15 (by omega), getD_left _ _ _ (by omega)]
            · rw [HA.out.cell p16 (by omega), getD_left _ _ _ (by omega)]
            · exact oldAt_of (by rw [HA.out.cell t (by omega)]; rfl)
            · exact HA.out.free t (by omega)
          have HN : Hid (Q.nxt (Q.W s.data.toList t) = (Q.s1 ((Q.W s.data.toList t).getD p2 0) + (Q.W s.data.toList t).getD p7 0 + Q.s0 ((Q.W s.data.toList t).getD p15 0) + (Q.W s.data.toList t).getD p16 0) % 4294967296) := by
            show _ = _
            rw [Q.nxt, HW, show t - 2 = p2 by omega, show t - 7 = p7 by omega, show t - 15 = p15 by omega, show t - 16 = p16 by omega]
          have C1 : Hid _ := fun w => smallS1_any ((Q.W s.data.toList t).getD p2 0) w ((Q.W_ok _ _).getD p2)
          have C0 : Hid _ := fun w => smallS0_any ((Q.W s.data.toList t).getD p15 0) w ((Q.W_ok _ _).getD p15)
          have HX : Hid _ := HA.out.set t (Q.nxt (Q.W s.data.toList t)) (by rw [hlen]; omega)
          have HU : Hid _ := Upd.setCell wr (w.heap.size + 1) t (.int .u32 (Q.nxt (Q.W s.data.toList t) : Nat))
          have HL : Hid _ := sched_hi s.data.toList t (by omega)
          have HSS : Hid _ := sched_set s.data.toList t (Q.nxt (Q.W s.data.toList t)) (by omega)
          rw [HN.out] at HX HU
          generalize (Q.W s.data.toList t).getD p2 0 = a2 at *
          generalize (Q.W s.data.toList t).getD p7 0 = a7 at *
          generalize (Q.W s.data.toList t).getD p15 0 = a15 at *
          generalize (Q.W s.data.toList t).getD p16 0 = a16 at *
          have e2 : (t : Int) - 2 = p2 := by omega
          have e7 : (t : Int) - 7 = p7 := by omega
          have e15 : (t : Int) - 15 = p15 := by omega
          have e16 : (t : Int) - 16 = p16 := by omega
          have i2 : (p2 : Int) < 64 := by omega
          have i7 : (p7 : Int) < 64 := by omega
          have i15 : (p15 : Int) < 64 := by omega
          have i16 : (p16 : Int) < 64 := by omega
          have it : (t : Int) < 64 := by omega
          have n2 : p2 < 64 := by omega
          have v2 : IntKind.i64.wrap (p2 : Int) = p2 := IntWalk.i64_in _ ⟨by omega, by omega⟩
          have n7 : p7 < 64 := by omega
          have v7 : IntKind.i64.wrap (p7 : Int) = p7 := IntWalk.i64_in _ ⟨by omega, by omega⟩
          have n15 : p15 < 64 := by omega
          have v15 : IntKind.i64.wrap (p15 : Int) = p15 := IntWalk.i64_in _ ⟨by omega, by omega⟩
          have n16 : p16 < 64 := by omega
          have v16 : IntKind.i64.wrap (p16 : Int) = p16 := IntWalk.i64_in _ ⟨by omega, by omega⟩
          have HP : Hid (p2 < t ∧ p7 < t ∧ p15 < t ∧ p16 < t) := ⟨by omega, by omega, by omega, by omega⟩
          clear hlen HW hp16 hp15 hp7 hp2
          go_wp2_with fail
          go_region_held (Four (w.heap.size + 1) t p2 p7 p15 p16 a2 a7 a15 a16) (first | assumption | exact HF.out.drew | exact Four.set (by assumption) _ HP.out.1 HP.out.2.1 HP.out.2.2.1 HP.out.2.2.2) (first | (go_at_call 56; refine (C1.out _).mono ?_; rintro e w' ⟨rfl, rfl⟩) | (go_at_call 57; refine (C0.out _).mono ?_; rintro e w' ⟨rfl, rfl⟩))
          rw [wrap_four]
          rw [HN.out] at HL HSS
          generalize (Q.s1 a2 + a7 + Q.s0 a15 + a16) % 4294967296 = xx at *
          clear e2 e7 e15 e16 i2 i7 i15 i16 v2 v7 v15 v16 n2 n7 n15 n16 HF C1 C0
          go_wp2_with fail
          go_roundw
          case rel => exact ⟨t + 1, by omega, by omega, by go_num, by rw [HL.out, ← HSS.out]; exact Arr.drew HX.out, Arr.drew (Arr.upd HR.out HU.out (by omega)), Below.drew (HB.out.trans (Upd.below HU.out (by omega)))⟩
          case measure => simp [intOf]; omega
        · obtain rfl : t = 64 := by omega
          have hlt' : ¬ (((64 : Nat) : Int) < 64) := by omega
          have HA' : Hid (Arr .u32 wr (w.heap.size + 1) (Q.W s.data.toList 64)) := by
            have := HA.out
            rw [Nat.sub_self, List.replicate_zero, List.append_nil] at this
            exact this
          have HW : Hid _ := Q.W_length s.data.toList 64
          obtain ⟨ll, HLL⟩ : ∃ ll, Hid (Q.W s.data.toList 64 = ll) := ⟨_, rfl⟩
          rw [HLL.out] at HA' HW
          go_wp2_with (first | refine arr_load rfl .u32 65 _ rfl (w.heap.size + 1) rfl ll HA'.out 64 25 Tryd.underlying65 (by rw [HW.out]; exact Tryd.size_a64) ?_ | (refine arr_store rfl .u32 65 _ _ rfl w.heap.size rfl ll rfl _ HR.out (by rw [HW.out]; rfl) (by rw [HW.out]; exact Tryd.size_a64) ?_))
          intro w5 A5 U5
          have HB5 : Hid _ := HB.out.trans (U5.below (Nat.le_refl _))
          have HA5 : Hid _ := A5
          clear U5 A5
          go_wp2_with fail
          have HI : (Tryd.prog.info? 65).map (·.size) = some ll.length := by rw [HW.out]; exact Tryd.size_a64
          refine bodyPost_ret (v := AV .u32 ll) ?_ rfl ⟨by rw [HLL.out], HB5.out⟩
          exact res_arr (t := 65) Tryd.results41 _ .u32 w.heap.size rfl ll HA5.out 64 25 Tryd.underlying65 HI
end Go.Proofs.YtlodahlinncpcaaDoor
