/- The document's own answer: fraction, table. -/
import Derived.Test.YtlodahlinncpcaaDoorShaRefCube
namespace Go.Proofs.YtlodahlinncpcaaDoor
open Go.RowKit
set_option linter.unusedVariables false
set_option linter.unusedSimpArgs false
set_option maxHeartbeats 1000000 in
set_option maxRecDepth 100000 in
theorem fraction_any (p : Nat) (w : World) (hp : p < 18446744073709551616) :
    Calls Tryd.prog 53 #[.int .u64 p] w fun e w' => e = .returned (.int .u32 (Q.fraction p : Nat)) ∧ Below w.heap.size w w' := by
  go_enter Tryd.func53, Tryd.ntmps53
  go_wp2_with fail
  go_loopw [3, 4] (fun v i wr => ∃ k x : Nat, v = .int .u64 x ∧ i = .int .i64 ((k : Int) - 1) ∧ k ≤ 36 ∧ Hid (x + 2 ^ k ≤ 68719476736) ∧ Hid (Q.frac k p x = Q.frac 36 p 0) ∧ Hid (Below w.heap.size w wr)) (fun _ i _ => (intOf i + 1).toNat)
  case atStart => exact ⟨36, 0, rfl, rfl, by omega, by show (0 + 2 ^ 36 : Nat) ≤ 68719476736; decide, rfl, Below.refl _ _⟩
  case round =>
    obtain ⟨k, x, rfl, rfl, hk, HX, HF, HB⟩ := hrel
    cases k with
    | zero =>
      have hxs : x ≤ 68719476736 := by have := HX.out; omega
      have hk0 : ¬ (0 : Int) ≤ ((0 : Nat) : Int) - 1 := by omega
      have HR : Hid ((x : Int) % 4294967296 = ((Q.fraction p : Nat) : Int)) := by
        show _ = _
        rw [Q.fraction, ← HF.out, Q.frac]; omega
      go_wp2_with fail
      go_ret
      rw [HR.out]
      exact ⟨rfl, HB.out⟩
    | succ j =>
      have ek : ((j + 1 : Nat) : Int) - 1 = (j : Int) := by omega
      rw [ek]
      have hj0 : (0 : Int) ≤ (j : Int) := by omega
      have h2 : x + 2 ^ j + 2 ^ j ≤ 68719476736 := by have := HX.out; rw [Nat.pow_succ] at this; omega
      have HF' := HF.out
      rw [Q.frac] at HF'
      obtain ⟨pw, hpw⟩ : ∃ r, r = 2 ^ j := ⟨_, rfl⟩
      rw [← hpw] at h2 HF'
      have ew : IntKind.u64.wrap (2 ^ j) = (pw : Int) := by
        rw [show ((2 : Int) ^ j) = ((2 ^ j : Nat) : Int) by simp, ← hpw, IntKind.wrap_u64]; omega
      obtain ⟨xn, hxn⟩ : ∃ r, r = x + pw := ⟨_, rfl⟩
      have ex : IntKind.u64.wrap ((x : Int) + pw) = (xn : Int) := by rw [IntKind.wrap_u64]; omega
      have C : Hid _ := fun w => cube_any xn p w (by omega) hp
      rw [← hxn] at HF'
      have HFF : Hid _ := HF'
      have HP2 : Hid (xn + 2 ^ j ≤ 68719476736 ∧ x + 2 ^ j ≤ 68719476736) := by
        rw [← hpw]; exact ⟨by omega, by omega⟩
      clear hpw HF' HF HX h2 ek
      have hxb : xn ≤ 68719476736 := Nat.le_trans (Nat.le_add_right _ _) HP2.out.1
      clear hxn
      go_wp2_with fail
      refine (C.out _).mono ?_; rintro e w1 ⟨rfl, hb1⟩
      have HB1 : Hid (Below w.heap.size w w1) := Below.trans HB.out (hb1.mono HB.out.size)
      clear hb1
      cases hcb : Q.cube xn p with
      | true =>
        rw [hcb, if_pos rfl] at HFF
        clear hcb C
        go_wp2_with fail
        go_roundw
        case rel => first | exact ⟨j, x, rfl, rfl, by omega, HP2.out.2, HFF, HB1⟩ | ((repeat apply Exists.intro); exact ⟨⟨j, x, rfl, rfl, by omega, HP2.out.2, HFF, HB1⟩, rfl⟩)
        case measure => simp [intOf]
      | false =>
        rw [hcb, if_neg (by simp)] at HFF
        clear hcb C
        go_wp2_with fail
        go_roundw
        case rel => first | exact ⟨j, xn, rfl, rfl, by omega, HP2.out.1, HFF, HB1⟩ | ((repeat apply Exists.intro); exact ⟨⟨j, xn, rfl, rfl, by omega, HP2.out.1, HFF, HB1⟩, rfl⟩)
        case measure => simp [intOf]
theorem map_getD (l : List Nat) (f : Nat → Nat) (i : Nat) (h : i < l.length) : (l.map f).getD i 0 = f (l.getD i 0) := by
  simp [h]
theorem PA_get (i : Nat) (h : i < 64) : Q.fraction (Q.PA (i + 1)) = Q.K.getD i 0 := by
  have hl : i < Q.PR.length := by rw [show Q.PR.length = 64 from rfl]; exact h
  rw [← Q.K_is, map_getD _ _ _ hl]
  rfl
theorem tab_set (t : Nat) (h : t < 64) (x : Nat) (hx : x = Q.K.getD t 0) : (Q.K.take t ++ List.replicate (64 - t) 0).set t x = Q.K.take (t + 1) ++ List.replicate (64 - (t + 1)) 0 := by
  have hl : (Q.K.take t).length = t := by rw [List.length_take, Q.K_length]; omega
  have hk : t < Q.K.length := by rw [Q.K_length]; exact h
  have hg : Q.K[t]? = some x := by
    rw [List.getD_eq_getElem?_getD, List.getElem?_eq_getElem hk, Option.getD_some] at hx
    rw [List.getElem?_eq_getElem hk, hx]
  rw [List.set_append_right _ _ (by omega), hl, Nat.sub_self, show 64 - t = (64 - (t + 1)) + 1 by omega, List.replicate_succ, List.set_cons_zero, List.take_add_one, hg, List.append_assoc]
  rfl
theorem tab_len (t : Nat) (h : t ≤ 64) : (Q.K.take t ++ List.replicate (64 - t) 0).length = 64 := by
  rw [List.length_append, List.length_take, Q.K_length, List.length_replicate]; omega

set_option maxHeartbeats 1000000 in
set_option maxRecDepth 100000 in
theorem table_any (w : World) :
    Calls Tryd.prog 39 #[] w fun e w' => e = .returned (AV .u32 Q.K) ∧ Below w.heap.size w w' := by
  go_enter Tryd.func39, Tryd.ntmps39
  go_wp2_with (refine arr_alloc rfl .u32 65 64 rfl Tryd.info_a64 ?_)
  intro w1 A1 B1 Z1
  go_wp2_with (refine arr_alloc rfl .u32 65 64 rfl Tryd.info_a64 ?_)
  intro w2 A2 B2 Z2
  go_wp2_with fail
  have HA2 : Hid (Arr .u32 w2 (w.heap.size + 1) (Q.K.take 0 ++ List.replicate (64 - 0) 0)) := by show Arr _ _ _ _; simpa using A2
  have HA1 : Hid _ := A1.below B2 (by omega)
  have HB0 : Hid _ := B1.trans (B2.mono (by omega))
  have hz0 : w.heap.size + 2 ≤ w2.heap.size := by omega
  clear A1 A2 B1 B2 Z1 Z2
  go_loopw [3, 2] (fun i v wr => ∃ t : Nat, t ≤ 64 ∧ i = .int .i64 t ∧ v = .int .u64 (Q.PA t : Nat) ∧ Hid (Arr .u32 wr (w.heap.size + 1) (Q.K.take t ++ List.replicate (64 - t) 0)) ∧ Hid (Arr .u32 wr w.heap.size (List.replicate 64 0)) ∧ Hid (Below w.heap.size w wr) ∧ w.heap.size + 2 ≤ wr.heap.size) (fun i _ _ => 64 - (intOf i).toNat)
  case atStart => exact ⟨0, by omega, rfl, rfl, HA2, HA1, HB0, hz0⟩
  case round =>
    clear HA2 HA1 HB0 hz0
    obtain ⟨t, ht, rfl, rfl, HA, HR, HB, hzr⟩ := hrel
    by_cases hlt : t < 64
    · have HG : Hid _ := Q.gaps t hlt
      have HP : Hid _ := Q.primes t hlt
      have HK : Hid _ := PA_get t hlt
      obtain ⟨p0, HP0⟩ : ∃ r, Hid (Q.PA t = r) := ⟨_, rfl⟩
      obtain ⟨p1, HP1⟩ : ∃ r, Hid (Q.PA (t + 1) = r) := ⟨_, rfl⟩
      rw [HP0.out]
      have HG' : Hid (∀ p, p0 < p → p < p1 → Q.prime p = false) := by
        intro p h1 h2
        have h3 := HP.out.2.2
        rw [HP1.out] at h3
        exact HG.out p (by omega) (by rw [HP0.out]; exact h1) (by rw [HP1.out]; exact h2)
      have HPP := HP.out
      rw [HP0.out, HP1.out] at HPP
      obtain ⟨hpp, hp01, hp312⟩ := HPP
      rw [HP1.out] at HK
      have HPP : Hid _ := hpp
      have i64 : (t : Int) < 64 := by omega
      clear hpp HG HP
      go_wp2_with fail
      go_loopw [2] (fun v wr => ∃ p : Nat, p0 < p ∧ p ≤ p1 ∧ v = .int .u64 p ∧ Hid (Arr .u32 wr (w.heap.size + 1) (Q.K.take t ++ List.replicate (64 - t) 0)) ∧ Hid (Arr .u32 wr w.heap.size (List.replicate 64 0)) ∧ Hid (Below w.heap.size w wr) ∧ w.heap.size + 2 ≤ wr.heap.size) (fun v _ => p1 - (intOf v).toNat)
      case atStart => exact ⟨p0 + 1, by omega, by omega, by go_num, HA, HR, HB, hzr⟩
      case round =>
        clear HA HR HB hzr
        obtain ⟨p, hpl, hpu, rfl, HA, HR, HB, hzr⟩ := hrel
        have C : Hid _ := fun w => ref_prime p w (by omega)
        by_cases hpe : p < p1
        · have hpf := HG'.out p hpl hpe
          rw [hpf] at C
          clear hpf
          go_wp2_with fail
          refine (C.out _).mono ?_; rintro e w3 ⟨rfl, rfl⟩
          go_wp2_with fail
          go_roundw
          case rel => exact ⟨p + 1, by omega, by omega, by go_num, HA, HR, HB, hzr⟩
          case measure => simp [intOf]; omega
        · obtain rfl : p = p1 := by omega
          rw [HPP.out] at C
          have CF : Hid _ := fun w => fraction_any p w (by omega)
          rw [HK.out] at CF
          have hc := Arr.cell HA.out t (by rw [tab_len t (by omega)]; omega)
          have hf := Arr.free HA.out t (by rw [tab_len t (by omega)]; omega)
          have HSS : Hid _ := tab_set t hlt (Q.K.getD t 0) rfl
          generalize (Q.K.take t ++ List.replicate (64 - t) 0).getD t 0 = old at hc
          obtain ⟨kt, HKT⟩ : ∃ r, Hid (Q.K.getD t 0 = r) := ⟨_, rfl⟩
          rw [HKT.out] at HSS CF
          go_wp2_with fail
          refine (C.out _).mono ?_; rintro e w3 ⟨rfl, rfl⟩
          go_wp2_with fail
          refine (CF.out _).mono ?_; rintro e w4 ⟨rfl, hb4⟩
          have HA4 : Hid _ := Arr.below HA.out hb4 (by omega)
          have HR4 : Hid _ := Arr.below HR.out hb4 (by omega)
          have HB4 : Hid (Below w.heap.size w w4) := Below.trans HB.out (hb4.mono HB.out.size)
          have hz4 := hb4.size
          have hc4 := Arr.cell HA4.out t (by rw [tab_len t (by omega)]; omega)
          have hf4 := Arr.free HA4.out t (by rw [tab_len t (by omega)]; omega)
          have HX : Hid _ := Arr.set HA4.out t kt (by rw [tab_len t (by omega)]; omega)
          have HU : Hid _ := Upd.setCell w4 (w.heap.size + 1) t (.int .u32 (kt : Nat))
          generalize (Q.K.take t ++ List.replicate (64 - t) 0).getD t 0 = old4 at hc4
          clear hb4 hc hf C CF
          go_wp2_with fail
          go_roundw
          case rel => exact ⟨t + 1, by omega, by go_num, by rw [HP1.out], by rw [← HSS.out]; exact HX.out, Arr.upd HR4.out HU.out (by omega), Below.trans HB4.out (Upd.below HU.out (by omega)), by have := HU.out.size; omega⟩
          case measure => simp [intOf]; omega
    · obtain rfl : t = 64 := by omega
      have hlt' : ¬ (((64 : Nat) : Int) < 64) := by omega
      have HA' : Hid (Arr .u32 wr (w.heap.size + 1) Q.K) := by
        have := HA.out
        rw [Nat.sub_self, List.replicate_zero, List.append_nil, List.take_of_length_le (by rw [Q.K_length]; exact Nat.le_refl _)] at this
        exact this
      have HW : Hid _ := Q.K_length
      obtain ⟨ll, HLL⟩ : ∃ ll, Hid (Q.K = ll) := ⟨_, rfl⟩
      rw [HLL.out] at HA' HW
      obtain ⟨pv, HPV⟩ : ∃ ll, Hid (Q.PA 64 = ll) := ⟨_, rfl⟩
      rw [HPV.out]
      clear hlt ht HA
      go_wp2_with (first | refine arr_load rfl .u32 65 _ rfl (w.heap.size + 1) rfl ll HA'.out 64 25 Tryd.underlying65 (by rw [HW.out]; exact Tryd.size_a64) ?_ | (refine arr_store rfl .u32 65 _ _ rfl w.heap.size rfl ll rfl _ HR.out (by rw [HW.out]; rfl) (by rw [HW.out]; exact Tryd.size_a64) ?_))
      intro w5 A5 U5
      have HB5 : Hid _ := Below.trans HB.out (U5.below (Nat.le_refl _))
      have HA5 : Hid _ := A5
      clear U5 A5
      go_wp2_with fail
      have HI : (Tryd.prog.info? 65).map (·.size) = some ll.length := by rw [HW.out]; exact Tryd.size_a64
      refine bodyPost_ret (v := AV .u32 ll) ?_ rfl ⟨by rw [HLL.out], HB5.out⟩
      exact res_arr (t := 65) Tryd.results39 _ .u32 w.heap.size rfl ll HA5.out 64 25 Tryd.underlying65 HI
end Go.Proofs.YtlodahlinncpcaaDoor
