/- The document's own answer: cubeAbove. -/
import Derived.Test.YtlodahlinncpcaaDoorShaRefSmall
namespace Go.Proofs.YtlodahlinncpcaaDoor
open Go.RowKit
set_option linter.unusedVariables false
set_option linter.unusedSimpArgs false
theorem Tryd.info_a6 : (Tryd.prog.info? 101).map (fun i => (i.zero, i.size)) = some (some (AV .u64 (List.replicate 6 0)), 6) := by kernel_rfl
theorem Tryd.size_a6 : (Tryd.prog.info? 101).map (·.size) = some 6 := by kernel_rfl
/-- the inner loop -/
def inn (x : Nat) (L a : List Nat) (i : Nat) : Nat → List Nat × Nat
  | 0 => (a, 0)
  | k + 1 => ((inn x L a i k).1.set (i + k) (Q.mulT x (L.getD k 0) ((inn x L a i k).1.getD (i + k) 0) (inn x L a i k).2 % 4294967296), Q.mulT x (L.getD k 0) ((inn x L a i k).1.getD (i + k) 0) (inn x L a i k).2 / 4294967296)
theorem inn_len (x : Nat) (L a : List Nat) (i k : Nat) : (inn x L a i k).1.length = a.length := by
  induction k with
  | zero => rfl
  | succ k ih => rw [inn, List.length_set, ih]
theorem mulR_is (x l0 l1 : Nat) (r a : List Nat) (i : Nat) : Q.mulR x l0 l1 a i = (inn x (l0 :: l1 :: r) a i 2).1.set (i + 2) (((inn x (l0 :: l1 :: r) a i 2).1.getD (i + 2) 0 + (inn x (l0 :: l1 :: r) a i 2).2) % 18446744073709551616) := rfl
theorem mulN_len (xs : List Nat) (l0 l1 n : Nat) : (Q.mulN xs l0 l1 n).length = 6 := by
  induction n with
  | zero => rfl
  | succ n ih => rw [Q.mulN, mulR_is _ _ _ [], List.length_set, inn_len, ih]
theorem wrap_T (x l a c : Nat) : IntKind.u64.wrap (IntKind.u64.wrap (IntKind.u64.wrap ((x : Int) * l) + a) + c) = ((Q.mulT x l a c : Nat) : Int) := by
  simp only [IntKind.wrap_u64, Q.mulT, ← Int.natCast_mul]; omega
theorem wrap_2 (a c : Nat) : IntKind.u64.wrap ((a : Int) + c) = (((a + c) % 18446744073709551616 : Nat) : Int) := by
  simp only [IntKind.wrap_u64]; omega
set_option maxHeartbeats 1000000 in
set_option maxRecDepth 100000 in
theorem cube_any (x p : Nat) (w : World) (hx : x ≤ 68719476736) (hp : p < 18446744073709551616) :
    Calls Tryd.prog 68 #[.int .u64 x, .int .u64 p] w fun e w' => e = .returned (.bool (Q.cube x p)) ∧ Below w.heap.size w w' := by
  obtain ⟨h, hh⟩ : ∃ h, h = x / 4294967296 := ⟨_, rfl⟩
  obtain ⟨lo, hlo⟩ : ∃ l, l = x % 4294967296 := ⟨_, rfl⟩
  have h16 : h ≤ 16 := by omega
  have l32 : lo < 4294967296 := by omega
  have e1 : (x : Int) / 4294967296 = (h : Int) := by omega
  have e2 : (x : Int) % 4294967296 = (lo : Int) := by omega
  have hh2 : h * h ≤ 256 := Nat.mul_le_mul h16 h16
  have hh3 : h * h * h ≤ 4096 := Nat.mul_le_mul hh2 h16
  obtain ⟨h2, hd2⟩ : ∃ r, r = h * h := ⟨_, rfl⟩
  obtain ⟨h3, hd3⟩ : ∃ r, r = h2 * h := ⟨_, rfl⟩
  have m2 : (h : Int) * h = (h2 : Int) := by rw [hd2]; simp
  have m3 : (h2 : Int) * h = (h3 : Int) := by rw [hd3]; simp
  have b2 : h2 ≤ 256 := by omega
  have b3 : h3 ≤ 4096 := by rw [hd3, hd2]; exact hh3
  have HC : Hid (Q.cube x p = if p < h3 then true else decide (p ≤ Q.cubeT (Q.cubeL x)) && (decide (p < Q.cubeT (Q.cubeL x)) || decide (0 < Q.cubeZ (Q.cubeL x)))) := by
    show _ = _
    rw [Q.cube, ← hh, ← hd2, ← hd3, Nat.mod_eq_of_lt (show h3 < 18446744073709551616 by omega)]
  have HCL : Hid (Q.cubeL x = Q.mulN (Q.mulN [lo, h, 0, 0, 0, 0] lo h 2) lo h 4) := by show _ = _; rw [Q.cubeL, ← hh, ← hlo]
  clear hh hlo hd2 hd3 hh2 hh3
  by_cases hlt : p < h3
  · have hlt' : (p : Int) < h3 := by omega
    go_enter Tryd.func68, Tryd.ntmps68
    go_wp2
    go_ret
    rw [HC.out, if_pos hlt]
    exact ⟨rfl, Below.refl _ _⟩
  · have hlt' : ¬ (p : Int) < h3 := by omega
    have hlt0 : ¬ p < h3 := hlt
    go_enter Tryd.func68, Tryd.ntmps68
    go_wp2_with (first | refine arr_alloc rfl .u64 101 6 rfl Tryd.info_a6 ?_)
    intro w1 A1 B1 Z1
    go_wp2_with (first | refine arr_store rfl .u64 101 _ _ rfl w.heap.size rfl [lo, h, 0, 0, 0, 0] rfl _ A1 rfl Tryd.size_a6 ?_)
    intro w2 A2 U2
    go_wp2_with (first | refine arr_alloc rfl .u64 101 6 rfl Tryd.info_a6 ?_)
    intro w3 A3 B3 Z3
    have zz2 : w2.heap.size = w.heap.size + 1 := by have := U2.size; omega
    rw [zz2] at A3 B3 Z3
    have HK0s : Hid (Arr .u64 w3 (w.heap.size) [lo, h, 0, 0, 0, 0]) := Arr.below A2 B3 (by omega)
    have HDs : Hid (Arr .u64 w3 (w.heap.size + 1) (Q.mulN [lo, h, 0, 0, 0, 0] lo h 0)) := A3
    have HBs : Hid (Below w.heap.size w w3) := B1.trans ((U2.below (Nat.le_refl _)).trans (B3.mono (by omega)))
    have hzs : w3.heap.size = w.heap.size + 2 := by omega
    rw [zz2]
    clear A1 B1 Z1 A2 U2 A3 B3 zz2 Z3
    go_wp2_with fail
    go_loopw [8] (fun v wr => ∃ i : Nat, i ≤ 2 ∧ v = .int .i64 i ∧ Hid (Arr .u64 wr (w.heap.size) [lo, h, 0, 0, 0, 0]) ∧ Hid (Arr .u64 wr (w.heap.size + 1) (Q.mulN [lo, h, 0, 0, 0, 0] lo h i)) ∧ Hid (Below w.heap.size w wr) ∧ w.heap.size + 3 ≤ wr.heap.size + 1) (fun v _ => 2 - (intOf v).toNat)
    case atStart => exact ⟨0, by omega, rfl, HK0s, HDs, HBs, by omega⟩
    case round =>
      clear HK0s HDs HBs
      obtain ⟨i, hi, rfl, HK0, HD, HB, hzr⟩ := hrel
      by_cases hlt : i < 2
      · have ii : (i : Int) < 2 := by omega
        have HDn : Hid ((Q.mulN [lo, h, 0, 0, 0, 0] lo h i).length = 6) := mulN_len _ _ _ _
        have HSUC : Hid (Q.mulN [lo, h, 0, 0, 0, 0] lo h (i + 1) = Q.mulR ([lo, h, 0, 0, 0, 0].getD i 0) lo h (Q.mulN [lo, h, 0, 0, 0, 0] lo h i) i) := rfl
        obtain ⟨xi, HXI⟩ : ∃ r, Hid ([lo, h, 0, 0, 0, 0].getD i 0 = r) := ⟨_, rfl⟩
        rw [HXI.out] at HSUC
        have HC1 : Hid (∀ wr : World, Arr .u64 wr (w.heap.size) [lo, h, 0, 0, 0, 0] → wr.cell? ⟨w.heap.size, i, none⟩ = some (.int .u64 (xi : Int))) := fun wr h => by rw [← HXI.out]; exact Arr.cell h i (by show i < 6; omega)
        obtain ⟨aa, HAA⟩ : ∃ r, Hid (Q.mulN [lo, h, 0, 0, 0, 0] lo h i = r) := ⟨_, rfl⟩
        rw [HAA.out] at HD HDn HSUC
        go_wp2_with fail
        go_loopw [10, 9] (fun v c wr => ∃ k : Nat, k ≤ 2 ∧ v = .int .i64 k ∧ c = .int .u64 ((inn xi [lo, h, 0, 0, 0, 0] aa i k).2 : Nat) ∧ Hid (Arr .u64 wr (w.heap.size) [lo, h, 0, 0, 0, 0]) ∧ Hid (Arr .u64 wr (w.heap.size + 1) (inn xi [lo, h, 0, 0, 0, 0] aa i k).1) ∧ Hid (Below w.heap.size w wr) ∧ w.heap.size + 3 ≤ wr.heap.size + 1) (fun v _ _ => 2 - (intOf v).toNat)
        case atStart => exact ⟨0, by omega, rfl, rfl, HK0, HD, HB, hzr⟩
        case round =>
          clear HK0 HD HB
          obtain ⟨k, hk, rfl, rfl, HK0, HD, HB, hzr⟩ := hrel
          have HLn : Hid ((inn xi [lo, h, 0, 0, 0, 0] aa i k).1.length = 6) := by show _ = _; rw [inn_len]; exact HDn.out
          by_cases hk2 : k < 2
          · have kk : (k : Int) < 2 := by omega
            obtain ⟨m, hm⟩ : ∃ m, m = i + k := ⟨_, rfl⟩
            have em : (i : Int) + k = (m : Int) := by omega
            have m6 : (m : Int) < 6 := by omega
            have i6 : (i : Int) < 6 := by omega
            have k6 : (k : Int) < 6 := by omega
            have vm : IntKind.i64.wrap (m : Int) = m := IntWalk.i64_in _ ⟨by omega, by omega⟩
            have c1 := HC1.out wr HK0.out
            have c2 := Arr.cell HK0.out k (by show k < 6; omega)
            have c3 := Arr.cell HD.out m (by rw [HLn.out]; omega)
            have f3 := Arr.free HD.out m (by rw [HLn.out]; omega)
            have HS1 : Hid ((inn xi [lo, h, 0, 0, 0, 0] aa i (k + 1)).1 = (inn xi [lo, h, 0, 0, 0, 0] aa i k).1.set (i + k) (Q.mulT xi ([lo, h, 0, 0, 0, 0].getD k 0) ((inn xi [lo, h, 0, 0, 0, 0] aa i k).1.getD (i + k) 0) (inn xi [lo, h, 0, 0, 0, 0] aa i k).2 % 4294967296)) := rfl
            have HS2 : Hid ((inn xi [lo, h, 0, 0, 0, 0] aa i (k + 1)).2 = Q.mulT xi ([lo, h, 0, 0, 0, 0].getD k 0) ((inn xi [lo, h, 0, 0, 0, 0] aa i k).1.getD (i + k) 0) (inn xi [lo, h, 0, 0, 0, 0] aa i k).2 / 4294967296) := rfl
            rw [← hm] at HS1 HS2
            generalize [lo, h, 0, 0, 0, 0].getD k 0 = lk at *
            obtain ⟨al, HAL⟩ : ∃ r, Hid ((inn xi [lo, h, 0, 0, 0, 0] aa i k).1 = r) := ⟨_, rfl⟩
            obtain ⟨ca, HCA⟩ : ∃ r, Hid ((inn xi [lo, h, 0, 0, 0, 0] aa i k).2 = r) := ⟨_, rfl⟩
            rw [HAL.out] at HLn HD c3
            rw [HAL.out, HCA.out] at HS1 HS2
            rw [HCA.out]
            generalize al.getD m 0 = am at *
            obtain ⟨T, HT⟩ : ∃ r, Hid (Q.mulT xi lk am ca = r) := ⟨_, rfl⟩
            have HWT : Hid _ := wrap_T xi lk am ca
            rw [HT.out] at HWT HS1 HS2
            obtain ⟨Tr, hTr⟩ : ∃ r, r = T % 4294967296 := ⟨_, rfl⟩
            obtain ⟨Td, hTd⟩ : ∃ r, r = T / 4294967296 := ⟨_, rfl⟩
            have er : (T : Int) % 4294967296 = (Tr : Int) := by omega
            have ed : (T : Int) / 4294967296 = (Td : Int) := by omega
            rw [← hTr] at HS1
            rw [← hTd] at HS2
            have HST : Hid _ := Arr.set HD.out m Tr (by rw [HLn.out]; omega)
            have HU : Hid _ := Upd.setCell wr (w.heap.size + 1) m (.int .u64 (Tr : Nat))
            clear hm hTr hTd
            go_wp2_with fail
            go_region
            rw [HWT.out]
            clear c1 c2
            go_wp2_with fail
            go_roundw
            case rel => exact ⟨k + 1, by omega, by go_num, by rw [HS2.out], Arr.drew (Arr.upd HK0.out HU.out (by omega)), by rw [HS1.out]; exact Arr.drew HST.out, Below.drew (Below.trans HB.out (Upd.below HU.out (by omega))), by have := HU.out.size; show _ ≤ (wr.setCell _ _).heap.size + _; omega⟩
            case measure => simp [intOf]; omega
          · obtain rfl : k = 2 := by omega
            have kk : ¬ (((2 : Nat) : Int) < 2) := by omega
            have HMR : Hid _ := mulR_is xi lo h [0, 0, 0, 0] aa i
            obtain ⟨al, HAL⟩ : ∃ r, Hid ((inn xi [lo, h, 0, 0, 0, 0] aa i 2).1 = r) := ⟨_, rfl⟩
            obtain ⟨ca, HCA⟩ : ∃ r, Hid ((inn xi [lo, h, 0, 0, 0, 0] aa i 2).2 = r) := ⟨_, rfl⟩
            rw [HAL.out, HCA.out] at HMR
            rw [HAL.out] at HLn HD
            rw [HCA.out]
            rw [HMR.out] at HSUC
            obtain ⟨m, hm⟩ : ∃ m, m = i + 2 := ⟨_, rfl⟩
            have em : (i : Int) + 2 = (m : Int) := by omega
            have m6 : (m : Int) < 6 := by omega
            have vm : IntKind.i64.wrap (m : Int) = m := IntWalk.i64_in _ ⟨by omega, by omega⟩
            have c3 := Arr.cell HD.out m (by rw [HLn.out]; omega)
            have f3 := Arr.free HD.out m (by rw [HLn.out]; omega)
            rw [← hm] at HSUC
            have HW2 : Hid _ := wrap_2 (al.getD m 0) ca
            generalize al.getD m 0 = am at *
            obtain ⟨T, HT⟩ : ∃ r, Hid ((am + ca) % 18446744073709551616 = r) := ⟨_, rfl⟩
            rw [HT.out] at HW2 HSUC
            have ew : IntKind.u64.wrap ((am : Int) + ca) = (T : Int) := HW2.out
            have HST : Hid _ := Arr.set HD.out m T (by rw [HLn.out]; omega)
            have HU : Hid _ := Upd.setCell wr (w.heap.size + 1) m (.int .u64 (T : Nat))
            clear hm hk2
            go_wp2_with fail
            go_roundw
            case rel => exact ⟨i + 1, by omega, by go_num, Arr.upd HK0.out HU.out (by omega), by rw [HSUC.out]; exact HST.out, Below.trans HB.out (Upd.below HU.out (by omega)), by have := HU.out.size; omega⟩
            case measure => simp [intOf]; omega
      · obtain rfl : i = 2 := by omega
        have ii : ¬ (((2 : Nat) : Int) < 2) := by omega
        obtain ⟨sq, HSQ⟩ : ∃ r, Hid (Q.mulN [lo, h, 0, 0, 0, 0] lo h 2 = r) := ⟨_, rfl⟩
        have HSL : Hid (sq.length = 6) := by rw [← HSQ.out]; exact mulN_len _ _ _ _
        rw [HSQ.out] at HD HCL
        clear hlt hi
        go_wp2_with (first | refine arr_alloc rfl .u64 101 6 rfl Tryd.info_a6 ?_)
        intro w5 A5 B5 Z5
        have HK0s : Hid _ := Arr.below HK0.out B5 (by omega)
        have HK1s : Hid _ := Arr.below HD.out B5 (by omega)
        have HDs : Hid (Arr .u64 w5 (wr.heap.size) (Q.mulN sq lo h 0)) := A5
        have HBs : Hid (Below w.heap.size w w5) := Below.trans HB.out (B5.mono HB.out.size)
        obtain ⟨nb, hnb⟩ : ∃ r, wr.heap.size = r := ⟨_, rfl⟩
        rw [hnb] at HDs Z5 ⊢
        have hnb2 : w.heap.size + 2 ≤ nb := by omega
        clear A5 B5 HK0 HD HB hnb hzr
        go_wp2_with fail
        go_loopw [13] (fun v wr => ∃ i : Nat, i ≤ 4 ∧ v = .int .i64 i ∧ Hid (Arr .u64 wr (w.heap.size) [lo, h, 0, 0, 0, 0]) ∧ Hid (Arr .u64 wr (w.heap.size + 1) sq) ∧ Hid (Arr .u64 wr (nb) (Q.mulN sq lo h i)) ∧ Hid (Below w.heap.size w wr) ∧ w.heap.size + 3 ≤ wr.heap.size + 0) (fun v _ => 4 - (intOf v).toNat)
        case atStart => exact ⟨0, by omega, rfl, HK0s, HK1s, HDs, HBs, by omega⟩
        case round =>
          clear HK0s HK1s HDs HBs
          obtain ⟨i, hi, rfl, HK0, HK1, HD, HB, hzr⟩ := hrel
          by_cases hlt : i < 4
          · have ii : (i : Int) < 4 := by omega
            have HDn : Hid ((Q.mulN sq lo h i).length = 6) := mulN_len _ _ _ _
            have HSUC : Hid (Q.mulN sq lo h (i + 1) = Q.mulR (sq.getD i 0) lo h (Q.mulN sq lo h i) i) := rfl
            obtain ⟨xi, HXI⟩ : ∃ r, Hid (sq.getD i 0 = r) := ⟨_, rfl⟩
            rw [HXI.out] at HSUC
            have HC1 : Hid (∀ wr : World, Arr .u64 wr (w.heap.size + 1) sq → wr.cell? ⟨w.heap.size + 1, i, none⟩ = some (.int .u64 (xi : Int))) := fun wr h => by rw [← HXI.out]; exact Arr.cell h i (by rw [HSL.out]; omega)
            obtain ⟨aa, HAA⟩ : ∃ r, Hid (Q.mulN sq lo h i = r) := ⟨_, rfl⟩
            rw [HAA.out] at HD HDn HSUC
            go_wp2_with fail
            go_loopw [15, 14] (fun v c wr => ∃ k : Nat, k ≤ 2 ∧ v = .int .i64 k ∧ c = .int .u64 ((inn xi [lo, h, 0, 0, 0, 0] aa i k).2 : Nat) ∧ Hid (Arr .u64 wr (w.heap.size) [lo, h, 0, 0, 0, 0]) ∧ Hid (Arr .u64 wr (w.heap.size + 1) sq) ∧ Hid (Arr .u64 wr (nb) (inn xi [lo, h, 0, 0, 0, 0] aa i k).1) ∧ Hid (Below w.heap.size w wr) ∧ w.heap.size + 3 ≤ wr.heap.size + 0) (fun v _ _ => 2 - (intOf v).toNat)
            case atStart => exact ⟨0, by omega, rfl, rfl, HK0, HK1, HD, HB, hzr⟩
            case round =>
              clear HK0 HK1 HD HB
              obtain ⟨k, hk, rfl, rfl, HK0, HK1, HD, HB, hzr⟩ := hrel
              have HLn : Hid ((inn xi [lo, h, 0, 0, 0, 0] aa i k).1.length = 6) := by show _ = _; rw [inn_len]; exact HDn.out
              by_cases hk2 : k < 2
              · have kk : (k : Int) < 2 := by omega
                obtain ⟨m, hm⟩ : ∃ m, m = i + k := ⟨_, rfl⟩
                have em : (i : Int) + k = (m : Int) := by omega
                have m6 : (m : Int) < 6 := by omega
                have i6 : (i : Int) < 6 := by omega
                have k6 : (k : Int) < 6 := by omega
                have vm : IntKind.i64.wrap (m : Int) = m := IntWalk.i64_in _ ⟨by omega, by omega⟩
                have c1 := HC1.out wr HK1.out
                have c2 := Arr.cell HK0.out k (by show k < 6; omega)
                have c3 := Arr.cell HD.out m (by rw [HLn.out]; omega)
                have f3 := Arr.free HD.out m (by rw [HLn.out]; omega)
                have HS1 : Hid ((inn xi [lo, h, 0, 0, 0, 0] aa i (k + 1)).1 = (inn xi [lo, h, 0, 0, 0, 0] aa i k).1.set (i + k) (Q.mulT xi ([lo, h, 0, 0, 0, 0].getD k 0) ((inn xi [lo, h, 0, 0, 0, 0] aa i k).1.getD (i + k) 0) (inn xi [lo, h, 0, 0, 0, 0] aa i k).2 % 4294967296)) := rfl
                have HS2 : Hid ((inn xi [lo, h, 0, 0, 0, 0] aa i (k + 1)).2 = Q.mulT xi ([lo, h, 0, 0, 0, 0].getD k 0) ((inn xi [lo, h, 0, 0, 0, 0] aa i k).1.getD (i + k) 0) (inn xi [lo, h, 0, 0, 0, 0] aa i k).2 / 4294967296) := rfl
                rw [← hm] at HS1 HS2
                generalize [lo, h, 0, 0, 0, 0].getD k 0 = lk at *
                obtain ⟨al, HAL⟩ : ∃ r, Hid ((inn xi [lo, h, 0, 0, 0, 0] aa i k).1 = r) := ⟨_, rfl⟩
                obtain ⟨ca, HCA⟩ : ∃ r, Hid ((inn xi [lo, h, 0, 0, 0, 0] aa i k).2 = r) := ⟨_, rfl⟩
                rw [HAL.out] at HLn HD c3
                rw [HAL.out, HCA.out] at HS1 HS2
                rw [HCA.out]
                generalize al.getD m 0 = am at *
                obtain ⟨T, HT⟩ : ∃ r, Hid (Q.mulT xi lk am ca = r) := ⟨_, rfl⟩
                have HWT : Hid _ := wrap_T xi lk am ca
                rw [HT.out] at HWT HS1 HS2
                obtain ⟨Tr, hTr⟩ : ∃ r, r = T % 4294967296 := ⟨_, rfl⟩
                obtain ⟨Td, hTd⟩ : ∃ r, r = T / 4294967296 := ⟨_, rfl⟩
                have er : (T : Int) % 4294967296 = (Tr : Int) := by omega
                have ed : (T : Int) / 4294967296 = (Td : Int) := by omega
                rw [← hTr] at HS1
                rw [← hTd] at HS2
                have HST : Hid _ := Arr.set HD.out m Tr (by rw [HLn.out]; omega)
                have HU : Hid _ := Upd.setCell wr (nb) m (.int .u64 (Tr : Nat))
                clear hm hTr hTd
                go_wp2_with fail
                go_region
                rw [HWT.out]
                clear c1 c2
                go_wp2_with fail
                go_roundw
                case rel => exact ⟨k + 1, by omega, by go_num, by rw [HS2.out], Arr.drew (Arr.upd HK0.out HU.out (by omega)), Arr.drew (Arr.upd HK1.out HU.out (by omega)), by rw [HS1.out]; exact Arr.drew HST.out, Below.drew (Below.trans HB.out (Upd.below HU.out (by omega))), by have := HU.out.size; show _ ≤ (wr.setCell _ _).heap.size + _; omega⟩
                case measure => simp [intOf]; omega
              · obtain rfl : k = 2 := by omega
                have kk : ¬ (((2 : Nat) : Int) < 2) := by omega
                have HMR : Hid _ := mulR_is xi lo h [0, 0, 0, 0] aa i
                obtain ⟨al, HAL⟩ : ∃ r, Hid ((inn xi [lo, h, 0, 0, 0, 0] aa i 2).1 = r) := ⟨_, rfl⟩
                obtain ⟨ca, HCA⟩ : ∃ r, Hid ((inn xi [lo, h, 0, 0, 0, 0] aa i 2).2 = r) := ⟨_, rfl⟩
                rw [HAL.out, HCA.out] at HMR
                rw [HAL.out] at HLn HD
                rw [HCA.out]
                rw [HMR.out] at HSUC
                obtain ⟨m, hm⟩ : ∃ m, m = i + 2 := ⟨_, rfl⟩
                have em : (i : Int) + 2 = (m : Int) := by omega
                have m6 : (m : Int) < 6 := by omega
                have vm : IntKind.i64.wrap (m : Int) = m := IntWalk.i64_in _ ⟨by omega, by omega⟩
                have c3 := Arr.cell HD.out m (by rw [HLn.out]; omega)
                have f3 := Arr.free HD.out m (by rw [HLn.out]; omega)
                rw [← hm] at HSUC
                have HW2 : Hid _ := wrap_2 (al.getD m 0) ca
                generalize al.getD m 0 = am at *
                obtain ⟨T, HT⟩ : ∃ r, Hid ((am + ca) % 18446744073709551616 = r) := ⟨_, rfl⟩
                rw [HT.out] at HW2 HSUC
                have ew : IntKind.u64.wrap ((am : Int) + ca) = (T : Int) := HW2.out
                have HST : Hid _ := Arr.set HD.out m T (by rw [HLn.out]; omega)
                have HU : Hid _ := Upd.setCell wr (nb) m (.int .u64 (T : Nat))
                clear hm hk2
                go_wp2_with fail
                go_roundw
                case rel => exact ⟨i + 1, by omega, by go_num, Arr.upd HK0.out HU.out (by omega), Arr.upd HK1.out HU.out (by omega), by rw [HSUC.out]; exact HST.out, Below.trans HB.out (Upd.below HU.out (by omega)), by have := HU.out.size; omega⟩
                case measure => simp [intOf]; omega
          · obtain rfl : i = 4 := by omega
            have ii : ¬ (((4 : Nat) : Int) < 4) := by omega
            have HLn : Hid ((Q.mulN sq lo h 4).length = 6) := mulN_len _ _ _ _
            rw [← HCL.out] at HD HLn
            obtain ⟨cu, HCU⟩ : ∃ r, Hid (Q.cubeL x = r) := ⟨_, rfl⟩
            rw [HCU.out] at HC HD HLn
            have c0 := Arr.cell HD.out 0 (by rw [HLn.out]; omega)
            have c1 := Arr.cell HD.out 1 (by rw [HLn.out]; omega)
            have c2 := Arr.cell HD.out 2 (by rw [HLn.out]; omega)
            have c3 := Arr.cell HD.out 3 (by rw [HLn.out]; omega)
            have c4 := Arr.cell HD.out 4 (by rw [HLn.out]; omega)
            rw [if_neg hlt0, Q.cubeT, Q.cubeZ] at HC
            generalize cu.getD 0 0 = d0 at *
            generalize cu.getD 1 0 = d1 at *
            generalize cu.getD 2 0 = d2 at *
            generalize cu.getD 3 0 = d3 at *
            generalize cu.getD 4 0 = d4 at *
            obtain ⟨D4, HD4⟩ : ∃ r, Hid (d4 * 4294967296 % 18446744073709551616 = r) := ⟨_, rfl⟩
            have ed4 : IntKind.u64.wrap ((d4 : Int) * 4294967296) = (D4 : Int) := by rw [IntKind.wrap_u64, ← HD4.out]; omega
            rw [HD4.out] at HC
            have eT := wrap_2 d3 D4
            obtain ⟨T, HT⟩ : ∃ r, Hid ((d3 + D4) % 18446744073709551616 = r) := ⟨_, rfl⟩
            rw [HT.out] at HC eT
            have eZ1 := wrap_2 d0 d1
            obtain ⟨Z1, HZ1⟩ : ∃ r, Hid ((d0 + d1) % 18446744073709551616 = r) := ⟨_, rfl⟩
            rw [HZ1.out] at eZ1
            have eZ := wrap_2 Z1 d2
            obtain ⟨Z, HZ⟩ : ∃ r, Hid ((Z1 + d2) % 18446744073709551616 = r) := ⟨_, rfl⟩
            rw [HZ.out] at eZ
            have hZZ : (d0 + d1 + d2) % 18446744073709551616 = Z := by have := HZ.out; have := HZ1.out; omega
            rw [hZZ] at HC
            clear hZZ hlt hi
            by_cases g1 : p ≤ T
            · have k1 : (p : Int) ≤ T := by omega
              by_cases g2 : p < T
              · have k2 : (p : Int) < T := by omega
                go_wp2_with fail
                go_ret
                rw [HC.out]
                exact ⟨by simp [g1, g2], HB.out⟩
              · have k2 : decide ((p : Int) < T) = false := by rw [decide_eq_false_iff_not]; omega
                by_cases g3 : 0 < Z
                · have k3 : (0 : Int) < Z := by omega
                  go_wp2_with fail
                  go_ret
                  rw [HC.out]
                  exact ⟨by simp [g1, g2, g3], HB.out⟩
                · have k3 : decide ((0 : Int) < Z) = false := by rw [decide_eq_false_iff_not]; omega
                  obtain rfl : Z = 0 := by omega
                  go_wp2_with fail
                  go_ret
                  rw [HC.out]
                  exact ⟨by simp [g1, g2], HB.out⟩
            · have k1 : decide ((p : Int) ≤ T) = false := by rw [decide_eq_false_iff_not]; omega
              go_wp2_with fail
              go_ret
              rw [HC.out]
              exact ⟨by simp [g1], HB.out⟩
end Go.Proofs.YtlodahlinncpcaaDoor
