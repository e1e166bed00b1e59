/- The document's own answer: block. -/
import Derived.Test.YtlodahlinncpcaaDoorShaRefTab
import Derived.Test.YtlodahlinncpcaaDoorShaBlockB
import Derived.Deep.QuietTactic
import Derived.BigQuiet
namespace Go.Proofs.YtlodahlinncpcaaDoor
open Go.RowKit
set_option linter.unusedVariables false
set_option linter.unusedSimpArgs false
theorem word_at (s : ByteArray) (t : Nat) (h : s.size = 64) (ht : t < 16) : Q.word (s.data.toList.drop (4 * t)) = (s[4 * t]'(by omega)).toNat * 16777216 + (s[4 * t + 1]'(by omega)).toNat * 65536 + (s[4 * t + 2]'(by omega)).toNat * 256 + (s[4 * t + 3]'(by omega)).toNat := by
  have hl : s.data.toList.length = 64 := by rw [Array.length_toList]; exact h
  have e : s.data.toList.drop (4 * t) = s.data.toList[4 * t] :: s.data.toList[4 * t + 1] :: s.data.toList[4 * t + 2] :: s.data.toList[4 * t + 3] :: s.data.toList.drop (4 * t + 4) := by
    rw [List.drop_eq_getElem_cons (by omega), List.drop_eq_getElem_cons (by omega), List.drop_eq_getElem_cons (by omega), List.drop_eq_getElem_cons (by omega)]
  rw [e]
  rfl
theorem Arr.like {k : IntKind} {w w' : World} {b : Nat} {l : List Nat} (h : Arr k w b l) (e : w'.heap = w.heap) : Arr k w' b l :=
  ⟨fun j v hv => by rw [World.cell?_of_block (w := w) (by rw [e])]; exact h.1 j v hv, fun j hj => by
    rw [World.cell?_of_block (w := w) (by rw [e]), World.frozen?_of_block (w := w) (by rw [e])]; exact h.2 j hj⟩
theorem Below.like {B : Nat} {a w w' : World} (h : Below B a w) (h1 : w'.os = w.os) (h2 : w'.tape = w.tape) (h3 : w'.output = w.output) (e : w'.heap = w.heap) : Below B a w' :=
  ⟨h1.trans h.os, h2.trans h.tape, h3.trans h.output, by rw [e]; exact h.size, fun k hk => by rw [e]; exact h.block k hk⟩
theorem quiet_of_drew {P : Program} {f : FuncId} {args : Array Value} {w : World} {n : Nat} {v : Value}
    (h : Calls P f args (w.drewN n) fun e w' => e = .returned v ∧ w' = (w.drewN n).drew) : Calls P f args (w.drewN n) fun e w'' => e = .returned v ∧ ∃ m, w'' = w.drewN m :=
  h.mono fun _ _ ⟨he, hm⟩ => ⟨he, n + 1, by rw [hm]; rfl⟩
theorem quiet_of_drew2 {P : Program} {f : FuncId} {args : Array Value} {w : World} {n0 n : Nat} {v : Value}
    (h : Calls P f args (w.drewN (n0 + n)) fun e w' => e = .returned v ∧ w' = (w.drewN (n0 + n)).drew) : Calls P f args (w.drewN (n0 + n)) fun e w'' => e = .returned v ∧ ∃ m, w'' = w.drewN (n0 + m) :=
  h.mono fun _ _ ⟨he, hm⟩ => ⟨he, n + 1, by rw [hm]; rfl⟩
/-- a number turned right by a number of Go's -/
def rotI (x : Nat) (n : Int) : Nat := Q.rot x n.toNat
theorem ref_turnI (x : Nat) (n : Int) (w : World) (hx : x < 4294967296) (h1 : 1 ≤ n) (h2 : n ≤ 31) :
    Calls Tryd.prog 54 #[.int .u32 x, .int .i64 n] w fun e w' => e = .returned (.int .u32 (rotI x n : Nat)) ∧ w' = w.drew := by
  obtain ⟨k, rfl⟩ := Int.eq_ofNat_of_zero_le (show 0 ≤ n by omega)
  exact ref_turn x k w hx (by omega) (by omega)
theorem s0_int (x : Nat) (h : x < 4294967296) : bits .xor .u32 (bits .xor .u32 (rotI x 7 : Nat) (rotI x 18 : Nat)) ((x : Int) / 8) = ((Q.s0 x : Nat) : Int) := by
  have ea : rotI x 7 = Q.rot x 7 := rfl
  have eb : rotI x 18 = Q.rot x 18 := rfl
  rw [ea, eb, xor_int _ _ (Q.rot_lt x 7 h) (Q.rot_lt x 18 h), show (x : Int) / 8 = ((x / 8 : Nat) : Int) by omega, xor_int _ _ (xor_lt _ _ (Q.rot_lt x 7 h) (Q.rot_lt x 18 h)) (by omega)]
  rfl
theorem s1_int (x : Nat) (h : x < 4294967296) : bits .xor .u32 (bits .xor .u32 (rotI x 17 : Nat) (rotI x 19 : Nat)) ((x : Int) / 1024) = ((Q.s1 x : Nat) : Int) := by
  have ea : rotI x 17 = Q.rot x 17 := rfl
  have eb : rotI x 19 = Q.rot x 19 := rfl
  rw [ea, eb, xor_int _ _ (Q.rot_lt x 17 h) (Q.rot_lt x 19 h), show (x : Int) / 1024 = ((x / 1024 : Nat) : Int) by omega, xor_int _ _ (xor_lt _ _ (Q.rot_lt x 17 h) (Q.rot_lt x 19 h)) (by omega)]
  rfl
theorem b0_int (x : Nat) (h : x < 4294967296) : bits .xor .u32 (bits .xor .u32 (rotI x 2 : Nat) (rotI x 13 : Nat)) (rotI x 22 : Nat) = ((Q.b0 x : Nat) : Int) := by
  have ea : rotI x 2 = Q.rot x 2 := rfl
  have eb : rotI x 13 = Q.rot x 13 := rfl
  have ec : rotI x 22 = Q.rot x 22 := rfl
  rw [ea, eb, ec, xor_int _ _ (Q.rot_lt x 2 h) (Q.rot_lt x 13 h), xor_int _ _ (xor_lt _ _ (Q.rot_lt x 2 h) (Q.rot_lt x 13 h)) (Q.rot_lt x 22 h)]
  rfl
theorem b1_int (x : Nat) (h : x < 4294967296) : bits .xor .u32 (bits .xor .u32 (rotI x 6 : Nat) (rotI x 11 : Nat)) (rotI x 25 : Nat) = ((Q.b1 x : Nat) : Int) := by
  have ea : rotI x 6 = Q.rot x 6 := rfl
  have eb : rotI x 11 = Q.rot x 11 := rfl
  have ec : rotI x 25 = Q.rot x 25 := rfl
  rw [ea, eb, ec, xor_int _ _ (Q.rot_lt x 6 h) (Q.rot_lt x 11 h), xor_int _ _ (xor_lt _ _ (Q.rot_lt x 6 h) (Q.rot_lt x 11 h)) (Q.rot_lt x 25 h)]
  rfl
set_option maxHeartbeats 60000000 in
set_option maxRecDepth 100000 in
theorem ref_block (l : List Nat) (s : ByteArray) (w : World) (h8 : Q.Ok8 l) (h : s.size = 64) :
    Calls Tryd.prog 40 #[AV .u32 l, .string s, AV .u32 Q.K] w fun e w' => e = .returned (AV .u32 (Q.block l s.data.toList)) ∧ Below w.heap.size w w' := by
  have HKL : Hid _ := Q.K_length
  have HKO : Hid _ := Q.K_ok
  have HBD : Hid (Q.block l s.data.toList = Q.plus (Q.R Q.K (Q.W s.data.toList 64) l 64) l) := rfl
  obtain ⟨KK, HKK⟩ : ∃ r, Hid (Q.K = r) := ⟨_, rfl⟩
  rw [HKK.out] at HKL HKO HBD ⊢
  have HL : Hid _ := h8
  have HS : Hid _ := h
  clear h8
  go_enter Tryd.func40, Tryd.ntmps40
  go_wp2_with (first | refine arr_box rfl .u32 26 _ rfl l rfl ?_)
  intro w1 A1 B1 Z1
  go_wp2_with (first | refine arr_box rfl .u32 65 _ rfl KK rfl ?_)
  intro w2 A2 B2 Z2
  go_wp2_with (first | refine arr_alloc rfl .u32 26 8 rfl Tryd.info_a8 ?_)
  intro w3 A3 B3 Z3
  go_wp2_with (first | refine arr_alloc rfl .u32 65 64 rfl Tryd.info_a64 ?_)
  intro w4 A4 B4 Z4
  have HA1 : Hid (Arr .u32 w4 w.heap.size l) := ((A1.below B2 (by omega)).below B3 (by omega)).below B4 (by omega)
  have HA2 : Hid (Arr .u32 w4 (w.heap.size + 1) KK) := (A2.below B3 (by omega)).below B4 (by omega)
  have HA3 : Hid (Arr .u32 w4 (w.heap.size + 1 + 1) (List.replicate 8 0)) := A3.below B4 (by omega)
  have HA4 : Hid (Arr .u32 w4 (w.heap.size + 1 + 1 + 1) (Q.W s.data.toList 0 ++ List.replicate (64 - 0) 0)) := A4
  have HB : Hid (Below w.heap.size w w4) := B1.trans ((B2.mono (by omega)).trans ((B3.mono (by omega)).trans (B4.mono (by omega))))
  have hz4 : w4.heap.size = w.heap.size + 4 := by omega
  clear A1 A2 A3 A4 B1 B2 B3 B4 Z1 Z2 Z3 Z4
  go_wp2_with fail
  go_loopw [8] (fun v wr => ∃ t : Nat, t ≤ 16 ∧ v = .int .i64 t ∧ Hid (Arr .u32 wr w.heap.size l) ∧ Hid (Arr .u32 wr (w.heap.size + 1) KK) ∧ Hid (Arr .u32 wr (w.heap.size + 1 + 1) (List.replicate 8 0)) ∧ Hid (Arr .u32 wr (w.heap.size + 1 + 1 + 1) (Q.W s.data.toList t ++ List.replicate (64 - t) 0)) ∧ Hid (Below w.heap.size w wr) ∧ wr.heap.size = w.heap.size + 4) (fun v _ => 16 - (intOf v).toNat)
  case atStart => exact ⟨0, by omega, rfl, HA1, HA2, HA3, HA4, HB, hz4⟩
  case round =>
    clear HA1 HA2 HA3 HA4 HB hz4
    obtain ⟨t, ht, rfl, HA1, HA2, HA3, HA4, HB, hz4⟩ := hrel
    by_cases hlt : t < 16
    · have hlen := sched_len s.data.toList t (by omega)
      have hc := Arr.cell HA4.out t (by rw [hlen]; omega)
      have hf := Arr.free HA4.out t (by rw [hlen]; omega)
      have HW : Hid _ := word_at s t HS.out hlt
      have HSS : Hid _ := sched_set s.data.toList t (Q.word (s.data.toList.drop (4 * t))) (by omega)
      have HLO : Hid _ := sched_lo s.data.toList t hlt
      rw [HW.out] at HSS HLO
      generalize (Q.W s.data.toList t ++ List.replicate (64 - t) 0).getD t 0 = old at hc
      obtain ⟨k0, hk0⟩ : ∃ k, 4 * t = k := ⟨_, rfl⟩
      obtain ⟨k1, hk1⟩ : ∃ k, k0 + 1 = k := ⟨_, rfl⟩
      obtain ⟨k2, hk2⟩ : ∃ k, k0 + 2 = k := ⟨_, rfl⟩
      obtain ⟨k3, hk3⟩ : ∃ k, k0 + 3 = k := ⟨_, rfl⟩
      have e0 : ∃ b, s[4 * t]'(by omega) = b := ⟨_, rfl⟩
      have e1 : ∃ b, s[4 * t + 1]'(by omega) = b := ⟨_, rfl⟩
      have e2 : ∃ b, s[4 * t + 2]'(by omega) = b := ⟨_, rfl⟩
      have e3 : ∃ b, s[4 * t + 3]'(by omega) = b := ⟨_, rfl⟩
      obtain ⟨y0, b0⟩ := e0
      obtain ⟨y1, b1⟩ := e1
      obtain ⟨y2, b2⟩ := e2
      obtain ⟨y3, b3⟩ := e3
      rw [b0, b1, b2, b3] at HSS HLO
      simp only [hk0, hk1, hk2, hk3] at b0 b1 b2 b3
      have j0 : 4 * (t : Int) = (k0 : Int) := by omega
      have j1 : (k0 : Int) + 1 = (k1 : Int) := by omega
      have j2 : (k0 : Int) + 2 = (k2 : Int) := by omega
      have j3 : (k0 : Int) + 3 = (k3 : Int) := by omega
      have i0 : (k0 : Int) < 64 := by omega
      have i1 : (k1 : Int) < 64 := by omega
      have i2 : (k2 : Int) < 64 := by omega
      have i3 : (k3 : Int) < 64 := by omega
      have v0 : IntKind.i64.wrap (k0 : Int) = k0 := IntWalk.i64_in _ ⟨by omega, by omega⟩
      have v1 : IntKind.i64.wrap (k1 : Int) = k1 := IntWalk.i64_in _ ⟨by omega, by omega⟩
      have v2 : IntKind.i64.wrap (k2 : Int) = k2 := IntWalk.i64_in _ ⟨by omega, by omega⟩
      have v3 : IntKind.i64.wrap (k3 : Int) = k3 := IntWalk.i64_in _ ⟨by omega, by omega⟩
      have it : (t : Int) < 64 := by omega
      have HWI : Hid _ := word_int y0 y1 y2 y3
      obtain ⟨X, HXX⟩ : ∃ r, Hid (y0.toNat * 16777216 + y1.toNat * 65536 + y2.toNat * 256 + y3.toNat = r) := ⟨_, rfl⟩
      rw [HXX.out] at HSS HLO HWI
      have HX : Hid _ := Arr.set HA4.out t X (by rw [hlen]; omega)
      have HU : Hid _ := Upd.setCell wr (w.heap.size + 1 + 1 + 1) t (.int .u32 (X : Nat))
      go_wp2_with fail
      go_region
      all_goals
        rw [HWI.out]
        clear b0 b1 b2 b3 j0 j1 j2 j3 i0 i1 i2 i3 v0 v1 v2 v3
        go_wp2_with fail
        go_roundw
        case rel => exact ⟨t + 1, by omega, by go_num, Arr.drew (Arr.upd HA1.out HU.out (by omega)), Arr.drew (Arr.upd HA2.out HU.out (by omega)), Arr.drew (Arr.upd HA3.out HU.out (by omega)), by rw [HLO.out, ← HSS.out]; exact Arr.drew HX.out, Below.drew (Below.trans HB.out (Upd.below HU.out (by omega))), by have := HU.out.size; show (wr.setCell _ _).heap.size = _; omega⟩
        case measure => simp [intOf]; omega
    · obtain rfl : t = 16 := by omega
      have hlt' : ¬ (((16 : Nat) : Int) < 16) := by omega
      go_wp2_with fail
      clear hlt' ht hlt
      go_loopw [9] (fun v wr => ∃ t : Nat, 16 ≤ t ∧ t ≤ 64 ∧ v = .int .i64 t ∧ Hid (Arr .u32 wr w.heap.size l) ∧ Hid (Arr .u32 wr (w.heap.size + 1) KK) ∧ Hid (Arr .u32 wr (w.heap.size + 1 + 1) (List.replicate 8 0)) ∧ Hid (Arr .u32 wr (w.heap.size + 1 + 1 + 1) (Q.W s.data.toList t ++ List.replicate (64 - t) 0)) ∧ Hid (Below w.heap.size w wr) ∧ wr.heap.size = w.heap.size + 4) (fun v _ => 64 - (intOf v).toNat)
      case atStart => exact ⟨16, by omega, by omega, rfl, HA1, HA2, HA3, HA4, HB, hz4⟩
      case round =>
        clear HA1 HA2 HA3 HA4 HB hz4
        obtain ⟨t, ht, ht', rfl, HA1, HA2, HA3, HA4, HB, hz4⟩ := hrel
        by_cases hlt : t < 64
        · have hlen := sched_len s.data.toList t (by omega)
          have HW := Q.W_length s.data.toList t
          obtain ⟨p16, hp16⟩ : ∃ p, p + 16 = t := ⟨t - 16, by omega⟩
          obtain ⟨p15, hp15⟩ : ∃ p, p + 15 = t := ⟨t - 15, by omega⟩
          obtain ⟨p7, hp7⟩ : ∃ p, p + 7 = t := ⟨t - 7, by omega⟩
          obtain ⟨p2, hp2⟩ : ∃ p, p + 2 = t := ⟨t - 2, by omega⟩
          have HF : Hid (Four (w.heap.size + 1 + 1 + 1) t p2 p7 p15 p16 ((Q.W s.data.toList t).getD p2 0) ((Q.W s.data.toList t).getD p7 0) ((Q.W s.data.toList t).getD p15 0) ((Q.W s.data.toList t).getD p16 0) wr) := by
            refine ⟨?_, ?_, ?_, ?_, ?_, ?_⟩
            · rw [Arr.cell HA4.out p2 (by omega), getD_left _ _ _ (by omega)]
            · rw [Arr.cell HA4.out p7 (by omega), getD_left _ _ _ (by omega)]
            · rw [Arr.cell HA4.out p15 (by omega), getD_left _ _ _ (by omega)]
            · rw [Arr.cell HA4.out p16 (by omega), getD_left _ _ _ (by omega)]
            · exact oldAt_of (by rw [Arr.cell HA4.out t (by omega)]; rfl)
            · exact Arr.free HA4.out t (by omega)
          have HN : Hid (Q.nxt (Q.W s.data.toList t) = (Q.s1 ((Q.W s.data.toList t).getD p2 0) + (Q.W s.data.toList t).getD p7 0 + Q.s0 ((Q.W s.data.toList t).getD p15 0) + (Q.W s.data.toList t).getD p16 0) % 4294967296) := by
            show _ = _
            rw [Q.nxt, HW, show t - 2 = p2 by omega, show t - 7 = p7 by omega, show t - 15 = p15 by omega, show t - 16 = p16 by omega]
          have h2 := (Q.W_ok s.data.toList t).getD p2
          have h15 := (Q.W_ok s.data.toList t).getD p15
          have HX : Hid _ := Arr.set HA4.out t (Q.nxt (Q.W s.data.toList t)) (by rw [hlen]; omega)
          have HU : Hid _ := Upd.setCell wr (w.heap.size + 1 + 1 + 1) t (.int .u32 (Q.nxt (Q.W s.data.toList t) : Nat))
          have HLO : Hid _ := sched_hi s.data.toList t (by omega)
          have HSS : Hid _ := sched_set s.data.toList t (Q.nxt (Q.W s.data.toList t)) (by omega)
          rw [HN.out] at HX HU HLO HSS
          generalize (Q.W s.data.toList t).getD p2 0 = a2 at *
          generalize (Q.W s.data.toList t).getD p7 0 = a7 at *
          generalize (Q.W s.data.toList t).getD p15 0 = a15 at *
          generalize (Q.W s.data.toList t).getD p16 0 = a16 at *
          have HH15 : Hid _ := h15
          have HH2 : Hid _ := h2
          have HE0 : Hid _ := s0_int a15 h15
          have HE1 : Hid _ := s1_int a2 h2
          have e2 : (t : Int) - 2 = p2 := by omega
          have e7 : (t : Int) - 7 = p7 := by omega
          have e15 : (t : Int) - 15 = p15 := by omega
          have e16 : (t : Int) - 16 = p16 := by omega
          have i2 : (p2 : Int) < 64 := by omega
          have i7 : (p7 : Int) < 64 := by omega
          have i15 : (p15 : Int) < 64 := by omega
          have i16 : (p16 : Int) < 64 := by omega
          have it : (t : Int) < 64 := by omega
          have v2 : IntKind.i64.wrap (p2 : Int) = p2 := IntWalk.i64_in _ ⟨by omega, by omega⟩
          have v7 : IntKind.i64.wrap (p7 : Int) = p7 := IntWalk.i64_in _ ⟨by omega, by omega⟩
          have v15 : IntKind.i64.wrap (p15 : Int) = p15 := IntWalk.i64_in _ ⟨by omega, by omega⟩
          have v16 : IntKind.i64.wrap (p16 : Int) = p16 := IntWalk.i64_in _ ⟨by omega, by omega⟩
          have n2 : p2 < 64 := by omega
          have n7 : p7 < 64 := by omega
          have n15 : p15 < 64 := by omega
          have n16 : p16 < 64 := by omega
          clear hlen HW hp16 hp15 hp7 hp2 HN h2 h15
          obtain ⟨q2, q7, q15, q16, qo, qf⟩ := HF.out
          go_wp2_with fail
          go_region_held (fun u => u.cell? ⟨w.heap.size + 1 + 1 + 1, p15, none⟩ = some (.int .u32 (a15 : Int))) (first | (simp only [World.cell?_drew]; exact q15)) (first | (go_at_call 54; refine (ref_turnI a15 _ _ HH15.out (by decide) (by decide)).mono ?_; rintro e w' ⟨rfl, rfl⟩))
          rw [HE0.out]
          go_wp2_with fail
          go_region_held (fun u => u.cell? ⟨w.heap.size + 1 + 1 + 1, p2, none⟩ = some (.int .u32 (a2 : Int))) (first | (simp only [World.cell?_drew]; exact q2)) (first | (go_at_call 54; refine (ref_turnI a2 _ _ HH2.out (by decide) (by decide)).mono ?_; rintro e w' ⟨rfl, rfl⟩))
          rw [HE1.out]
          go_wp2_with fail
          go_region
          all_goals
            first | rw [wrap_four] | rw [show (((Q.s1 a2 : Nat) : Int) + a7 + (Q.s0 a15 : Nat) + a16) % 4294967296 = (((Q.s1 a2 + a7 + Q.s0 a15 + a16) % 4294967296 : Nat) : Int) by omega]
            generalize (Q.s1 a2 + a7 + Q.s0 a15 + a16) % 4294967296 = xx at *
            clear e2 e7 e15 e16 i2 i7 i15 i16 v2 v7 v15 v16 n2 n7 n15 n16 q2 q7 q15 q16 qo qf
            go_wp2_with fail
            go_roundw
            case rel => exact ⟨t + 1, by omega, by omega, by go_num, Arr.drew (Arr.drew (Arr.drew (Arr.drew (Arr.drew (Arr.drew (Arr.drew (Arr.upd HA1.out HU.out (by omega)))))))), Arr.drew (Arr.drew (Arr.drew (Arr.drew (Arr.drew (Arr.drew (Arr.drew (Arr.upd HA2.out HU.out (by omega)))))))), Arr.drew (Arr.drew (Arr.drew (Arr.drew (Arr.drew (Arr.drew (Arr.drew (Arr.upd HA3.out HU.out (by omega)))))))), by rw [HLO.out, ← HSS.out]; exact Arr.drew (Arr.drew (Arr.drew (Arr.drew (Arr.drew (Arr.drew (Arr.drew (HX.out))))))), Below.drew (Below.drew (Below.drew (Below.drew (Below.drew (Below.drew (Below.drew (Below.trans HB.out (Upd.below HU.out (by omega))))))))), by have := HU.out.size; show (wr.setCell _ _).heap.size = _; omega⟩
            case measure => simp [intOf]; omega
        · obtain rfl : t = 64 := by omega
          have hlt' : ¬ (((64 : Nat) : Int) < 64) := by omega
          have HA4' : Hid (Arr .u32 wr (w.heap.size + 1 + 1 + 1) (Q.W s.data.toList 64)) := by
            have := HA4.out
            rw [Nat.sub_self, List.replicate_zero, List.append_nil] at this
            exact this
          have HWL : Hid _ := Q.W_length s.data.toList 64
          obtain ⟨ww, HWW⟩ : ∃ r, Hid (Q.W s.data.toList 64 = r) := ⟨_, rfl⟩
          rw [HWW.out] at HA4' HWL HBD
          clear hlt ht' ht HA4
          have H8 : Hid (l.length = 8) := HL.out.1
          have HI8 : Hid ((Tryd.prog.info? 26).map (·.size) = some l.length) := by show _ = _; rw [H8.out]; exact Tryd.size_a8
          go_wp2_with (first | refine arr_load rfl .u32 26 _ rfl w.heap.size rfl l HA1.out 8 25 Tryd.underlying26 HI8.out ?_ | refine arr_alloc rfl .u32 26 8 rfl Tryd.info_a8 ?_)
          intro w5 A5 B5 Z5
          have A5' : Arr .u32 w5 (w.heap.size + 4) (List.replicate 8 0) := A5
          go_wp2_with (first | refine arr_store rfl .u32 26 _ _ rfl (w.heap.size + 4) rfl l rfl _ A5' (by rw [H8.out]; rfl) HI8.out ?_)
          intro w6 A6 U6
          have B5' : Below (w.heap.size + 4) wr w5 := B5.mono (by omega)
          have HB6 : Hid (Below w.heap.size w w6) := Below.trans HB.out ((B5'.mono (by omega)).trans (U6.below (by omega)))
          have hz6 : w6.heap.size = w.heap.size + 5 := by have := U6.size; omega
          have HV0 : Hid (Arr .u32 w6 (w.heap.size + 4) (Q.R KK ww l 0)) := A6
          have H1 : Hid (Arr .u32 w6 w.heap.size l) := Arr.upd (Arr.below HA1.out B5' (by omega)) U6 (by omega)
          have H2 : Hid (Arr .u32 w6 (w.heap.size + 1) KK) := Arr.upd (Arr.below HA2.out B5' (by omega)) U6 (by omega)
          have H3 : Hid (Arr .u32 w6 (w.heap.size + 1 + 1) (List.replicate 8 0)) := Arr.upd (Arr.below HA3.out B5' (by omega)) U6 (by omega)
          have H4 : Hid (Arr .u32 w6 (w.heap.size + 1 + 1 + 1) ww) := Arr.upd (Arr.below HA4'.out B5' (by omega)) U6 (by omega)
          clear A5 A5' B5 B5' A6 U6 HA1 HA2 HA3 HA4' HB Z5 hz4 hlt'
          go_wp2_with fail
          go_loopw [13] (fun v wr => ∃ t : Nat, t ≤ 64 ∧ v = .int .i64 t ∧ Hid (Arr .u32 wr w.heap.size l) ∧ Hid (Arr .u32 wr (w.heap.size + 1) KK) ∧ Hid (Arr .u32 wr (w.heap.size + 1 + 1) (List.replicate 8 0)) ∧ Hid (Arr .u32 wr (w.heap.size + 1 + 1 + 1) ww) ∧ Hid (Arr .u32 wr (w.heap.size + 4) (Q.R KK ww l t)) ∧ Hid (Below w.heap.size w wr) ∧ wr.heap.size = w.heap.size + 5) (fun v _ => 64 - (intOf v).toNat)
          case atStart => exact ⟨0, by omega, rfl, H1, H2, H3, H4, HV0, HB6, hz6⟩
          case round =>
            clear H1 H2 H3 H4 HV0 HB6 hz6
            obtain ⟨t, ht, rfl, H1, H2, H3, H4, HV, HB, hzr⟩ := hrel
            by_cases hlt : t < 64
            · have HR8 : Hid _ := Q.R_ok KK ww l t HL.out
              have HRS : Hid _ := R_succ KK ww l t
              have kc := Arr.cell H2.out t (by rw [HKL.out]; exact hlt)
              have wc := Arr.cell H4.out t (by rw [HWL.out]; exact hlt)
              generalize KK.getD t 0 = kt at *
              generalize ww.getD t 0 = wt at *
              obtain ⟨rr, HRR⟩ : ∃ r, Hid (Q.R KK ww l t = r) := ⟨_, rfl⟩
              rw [HRR.out] at HV HR8 HRS
              obtain ⟨x0, x1, x2, x3, x4, x5, x6, x7, rfl⟩ := Q.eight rr HR8.out.1
              have o : ∀ x ∈ [x0, x1, x2, x3, x4, x5, x6, x7], x < 4294967296 := HR8.out.2
              have c4 : wr.cell? ⟨w.heap.size + 4, 4, none⟩ = some (.int .u32 (x4 : Int)) := Arr.cell HV.out 4 (by simp)
              have HO4 : Hid (x4 < 4294967296) := o _ (by simp)
              have HO0 : Hid (x0 < 4294967296) := o _ (by simp)
              have HC : Hid _ := ch_int x4 x5 x6 (o _ (by simp)) (o _ (by simp)) (o _ (by simp))
              have HM : Hid _ := maj_int x0 x1 x2 (o _ (by simp)) (o _ (by simp)) (o _ (by simp))
              have HE0 : Hid _ := b0_int x0 HO0.out
              have E1 := b1_int x4 HO4.out
              have it : (t : Int) < 64 := by omega
              have HKC : Hid _ := kc
              have HWC : Hid _ := wc
              clear o kc wc
              go_wp2_with fail
              go_quiet ((go_at_call 54; exact quiet_of_drew (ref_turnI x4 _ _ HO4.out (by decide) (by decide))))
              clear c4 E1
              have c4 : wr.cell? ⟨w.heap.size + 4, 4, none⟩ = some (.int .u32 (x4 : Int)) := Arr.cell HV.out 4 (by simp)
              have c5 : wr.cell? ⟨w.heap.size + 4, 5, none⟩ = some (.int .u32 (x5 : Int)) := Arr.cell HV.out 5 (by simp)
              have c6 : wr.cell? ⟨w.heap.size + 4, 6, none⟩ = some (.int .u32 (x6 : Int)) := Arr.cell HV.out 6 (by simp)
              have c7 : wr.cell? ⟨w.heap.size + 4, 7, none⟩ = some (.int .u32 (x7 : Int)) := Arr.cell HV.out 7 (by simp)
              have kc := HKC.out
              have wc := HWC.out
              have hite : (if IntKind.u32.signed = true then (-1 : Int) else IntKind.u32.max) = IntKind.u32.max := rfl
              have C := HC.out
              obtain ⟨T1, HT1⟩ : ∃ r, Hid ((x7 + Q.b1 x4 + Q.ch x4 x5 x6 + kt + wt) % 4294967296 = r) := ⟨_, rfl⟩
              have hT1 : (((x7 : Int) + (Q.b1 x4 : Nat) + (Q.ch x4 x5 x6 : Nat) + kt) % 4294967296 + wt) % 4294967296 = (T1 : Int) := by have := HT1.out; omega
              go_wp2_with fail
              go_quiet (fail)
              clear c4 c5 c6 c7 kc wc hite C
              have c0 : wr.cell? ⟨w.heap.size + 4, 0, none⟩ = some (.int .u32 (x0 : Int)) := Arr.cell HV.out 0 (by simp)
              have E0 := HE0.out
              go_wp2_with fail
              go_quiet ((go_at_call 54; exact quiet_of_drew2 (ref_turnI x0 _ _ HO0.out (by decide) (by decide))))
              clear E0
              have c1 : wr.cell? ⟨w.heap.size + 4, 1, none⟩ = some (.int .u32 (x1 : Int)) := Arr.cell HV.out 1 (by simp)
              have c2 : wr.cell? ⟨w.heap.size + 4, 2, none⟩ = some (.int .u32 (x2 : Int)) := Arr.cell HV.out 2 (by simp)
              have c3 : wr.cell? ⟨w.heap.size + 4, 3, none⟩ = some (.int .u32 (x3 : Int)) := Arr.cell HV.out 3 (by simp)
              have c4 : wr.cell? ⟨w.heap.size + 4, 4, none⟩ = some (.int .u32 (x4 : Int)) := Arr.cell HV.out 4 (by simp)
              have c5 : wr.cell? ⟨w.heap.size + 4, 5, none⟩ = some (.int .u32 (x5 : Int)) := Arr.cell HV.out 5 (by simp)
              have c6 : wr.cell? ⟨w.heap.size + 4, 6, none⟩ = some (.int .u32 (x6 : Int)) := Arr.cell HV.out 6 (by simp)
              have c7 : wr.cell? ⟨w.heap.size + 4, 7, none⟩ = some (.int .u32 (x7 : Int)) := Arr.cell HV.out 7 (by simp)
              have f0 : wr.frozen? ⟨w.heap.size + 4, 0, none⟩ = false := Arr.free HV.out 0 (by simp)
              have f1 : wr.frozen? ⟨w.heap.size + 4, 1, none⟩ = false := Arr.free HV.out 1 (by simp)
              have f2 : wr.frozen? ⟨w.heap.size + 4, 2, none⟩ = false := Arr.free HV.out 2 (by simp)
              have f3 : wr.frozen? ⟨w.heap.size + 4, 3, none⟩ = false := Arr.free HV.out 3 (by simp)
              have f4 : wr.frozen? ⟨w.heap.size + 4, 4, none⟩ = false := Arr.free HV.out 4 (by simp)
              have f5 : wr.frozen? ⟨w.heap.size + 4, 5, none⟩ = false := Arr.free HV.out 5 (by simp)
              have f6 : wr.frozen? ⟨w.heap.size + 4, 6, none⟩ = false := Arr.free HV.out 6 (by simp)
              have f7 : wr.frozen? ⟨w.heap.size + 4, 7, none⟩ = false := Arr.free HV.out 7 (by simp)
              have M := HM.out
              obtain ⟨T2, HT2⟩ : ∃ r, Hid ((Q.b0 x0 + Q.maj x0 x1 x2) % 4294967296 = r) := ⟨_, rfl⟩
              have hT2 : (((Q.b0 x0 : Nat) : Int) + (Q.maj x0 x1 x2 : Nat)) % 4294967296 = (T2 : Int) := by have := HT2.out; omega
              obtain ⟨Y0, HY0⟩ : ∃ r, Hid ((T1 + T2) % 4294967296 = r) := ⟨_, rfl⟩
              have hY0 : ((T1 : Int) + T2) % 4294967296 = (Y0 : Int) := by have := HY0.out; omega
              obtain ⟨Y4, HY4⟩ : ∃ r, Hid ((x3 + T1) % 4294967296 = r) := ⟨_, rfl⟩
              have hY4 : ((x3 : Int) + T1) % 4294967296 = (Y4 : Int) := by have := HY4.out; omega
              have HRY : Hid (Q.R KK ww l (t + 1) = [Y0, x0, x1, x2, Y4, x4, x5, x6]) := by
                show _ = _
                rw [HRS.out, Q.rnd]
                have h1 := HT1.out
                have h2 := HT2.out
                have h3 := HY0.out
                have h4 := HY4.out
                generalize Q.b0 x0 = v0 at *
                generalize Q.b1 x4 = v1 at *
                generalize Q.ch x4 x5 x6 = v2 at *
                generalize Q.maj x0 x1 x2 = v3 at *
                have g1 : (x7 + v1 + v2 + (kt + wt) % 4294967296 + v0 + v3) % 4294967296 = Y0 := by omega
                have g2 : (x3 + (x7 + v1 + v2 + (kt + wt) % 4294967296)) % 4294967296 = Y4 := by omega
                rw [g1, g2]
              have HST : Hid (Arr .u32 (wr.setCells (w.heap.size + 4) 0 (ks .u32 [Y0, x0, x1, x2, Y4, x4, x5, x6])) (w.heap.size + 4) [Y0, x0, x1, x2, Y4, x4, x5, x6]) := Arr.store HV.out [Y0, x0, x1, x2, Y4, x4, x5, x6] rfl
              have HU : Hid (Upd (w.heap.size + 4) wr (wr.setCells (w.heap.size + 4) 0 (ks .u32 [Y0, x0, x1, x2, Y4, x4, x5, x6]))) := Upd.setCells _ _ 0 wr
              go_wp2_with fail
              go_roundw
              case rel =>
                refine ⟨t + 1, by omega, by go_num, Arr.like (Arr.upd H1.out HU.out (by omega)) rfl, Arr.like (Arr.upd H2.out HU.out (by omega)) rfl, Arr.like (Arr.upd H3.out HU.out (by omega)) rfl, Arr.like (Arr.upd H4.out HU.out (by omega)) rfl, ?_, Below.like (Below.trans HB.out (Upd.below HU.out (by omega))) rfl rfl rfl rfl, ?_⟩
                · rw [HRY.out]; exact Arr.like HST.out rfl
                · have h1 := HU.out.size
                  rw [hzr] at h1
                  exact h1
              case measure => simp [intOf]; omega
            · obtain rfl : t = 64 := by omega
              have hlt' : ¬ (((64 : Nat) : Int) < 64) := by omega
              have HR8 : Hid _ := Q.R_ok KK ww l 64 HL.out
              obtain ⟨rr, HRR⟩ : ∃ r, Hid (Q.R KK ww l 64 = r) := ⟨_, rfl⟩
              rw [HRR.out] at HV HR8 HBD
              have HR : Hid (rr.length = 8) := HR8.out.1
              have HV' : Hid (Arr .u32 wr (w.heap.size + 4) (mix rr l 0)) := by show Arr _ _ _ _; rw [mix_zero]; exact HV.out
              clear HV HR8 HRR H2 H4
              go_wp2_with fail
              clear hlt' hlt ht
              go_loopw [18] (fun i wr => ∃ t : Nat, t ≤ 8 ∧ i = .int .i64 t ∧ Hid (Arr .u32 wr w.heap.size l) ∧ Hid (Arr .u32 wr (w.heap.size + 1 + 1) (List.replicate 8 0)) ∧ Hid (Arr .u32 wr (w.heap.size + 4) (mix rr l t)) ∧ Hid (Below w.heap.size w wr)) (fun i _ => 8 - (intOf i).toNat)
              case atStart => exact ⟨0, by omega, rfl, H1, H3, HV', HB⟩
              case round =>
                clear H1 H3 HV' HB hzr
                obtain ⟨t, ht, rfl, HA1, HA3, HA2, HB⟩ := hrel
                by_cases hlt : t < 8
                · have hlen := mix_length rr l t HR.out H8.out ht
                  have c1 := Arr.cell HA1.out t (by rw [H8.out]; exact hlt)
                  have c2 := Arr.cell HA2.out t (by rw [hlen]; exact hlt)
                  have f2 := Arr.free HA2.out t (by rw [hlen]; exact hlt)
                  rw [mix_at rr l t HR.out H8.out hlt] at c2
                  have HS0 := Arr.set HA2.out t ((rr.getD t 0 + l.getD t 0) % 4294967296) (by rw [hlen]; exact hlt)
                  rw [mix_set rr l t HR.out H8.out hlt] at HS0
                  have HS : Hid _ := HS0
                  have HU : Hid _ := Upd.setCell wr (w.heap.size + 4) t (.int .u32 ((rr.getD t 0 + l.getD t 0) % 4294967296 : Nat))
                  generalize rr.getD t 0 = r1 at c2 HS HU
                  generalize l.getD t 0 = l1 at c1 HS HU
                  obtain ⟨xx, HXX⟩ : ∃ r, Hid ((r1 + l1) % 4294967296 = r) := ⟨_, rfl⟩
                  rw [HXX.out] at HS HU
                  have ex : ((r1 : Int) + (l1 : Int)) % 4294967296 = (xx : Int) := by have := HXX.out; omega
                  have it : (t : Int) < 8 := by omega
                  clear hlen HS0
                  go_wp2_with fail
                  go_region
                  all_goals
                    try rw [ex]
                    go_wp2_with fail
                    go_roundw
                    case rel => exact ⟨t + 1, by omega, by go_num, Arr.like (Arr.upd HA1.out HU.out (by omega)) rfl, Arr.like (Arr.upd HA3.out HU.out (by omega)) rfl, Arr.like HS.out rfl, Below.like (Below.trans HB.out (Upd.below HU.out (by omega))) rfl rfl rfl rfl⟩
                    case measure => simp [intOf]; omega
                · obtain rfl : t = 8 := by omega
                  have hlt' : ¬ (((8 : Nat) : Int) < 8) := by omega
                  have HA2' : Hid (Arr .u32 wr (w.heap.size + 4) (Q.block l s.data.toList)) := by
                    show Arr _ _ _ _
                    rw [HBD.out, ← mix_all rr l HR.out H8.out]
                    exact HA2.out
                  have HN : Hid ((Q.block l s.data.toList).length = 8) := (Q.block_ok l _ HL.out).1
                  obtain ⟨bb, HBB⟩ : ∃ r, Hid (Q.block l s.data.toList = r) := ⟨_, rfl⟩
                  rw [HBB.out] at HA2' HN
                  have HI : Hid ((Tryd.prog.info? 26).map (·.size) = some bb.length) := by show _ = _; rw [HN.out]; exact Tryd.size_a8
                  clear HA2 HA1
                  go_wp2_with (first | refine arr_load rfl .u32 26 _ rfl (w.heap.size + 4) rfl bb HA2'.out 8 25 Tryd.underlying26 HI.out ?_ | (refine arr_store rfl .u32 26 _ _ rfl (w.heap.size + 1 + 1) rfl bb rfl _ HA3.out (by rw [HN.out]; rfl) HI.out ?_))
                  intro w7 A7 U7
                  have HA7 : Hid _ := A7
                  have HB7 : Hid _ := Below.trans HB.out (U7.below (by omega))
                  clear A7 U7 HA2' HB
                  go_wp2_with fail
                  refine bodyPost_ret (v := AV .u32 bb) ?_ rfl ⟨by rw [HBB.out], HB7.out⟩
                  exact res_arr (t := 26) Tryd.results40 _ .u32 (w.heap.size + 1 + 1) rfl bb HA7.out 8 25 Tryd.underlying26 HI.out
end Go.Proofs.YtlodahlinncpcaaDoor
