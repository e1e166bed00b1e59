/-
  The meet of some vectors is at most each of them, and over whatever is; of none it is zeros, of one itself (the law VecAll). No conditions.
-/
import Derived.Test.YtpdomhddjpfibaaDoorFrameTab

import Derived.Test.YtpdomhddjpfibaaDoorVecEx

import Derived.Test.YtpdomhddjpfibaaDoorVecOf

import Derived.Test.YtpdomhddjpfibaaDoorVecRow

import Derived.Test.YtpdomhddjpfibaaDoorFrameVecs

import Derived.Test.YtpdomhddjpfibaaDoorFrameVec

namespace Go.Proofs.YtpdomhddjpfibaaDoor.vecAll

open Go.ChangeShapes Go.WideShapes Go.ChangeAt Go.RowKit

open Go.Proofs.YtpdomhddjpfibaaDoor.Vc

open Go.ChangeMaps (open_string shut_string)

set_option linter.unusedVariables false

set_option linter.unusedSimpArgs false

set_option maxHeartbeats 16000000 in
set_option maxRecDepth 100000 in
theorem walk (a0 : Option Addr) (len0 cap0 : Nat) (X0 : Nat → List Nat) (O0 : Nat → Bool) (a1 : List Nat) (o1 : Bool) (l0 : len0 ≤ cap0) (m0 : cap0 ≤ maxLen) (w1 : V.Ok a1) (w : World) (hT : Fm.Tab w) (w0 : IsVecs w a0 len0 X0 O0) :
    Calls Tryd.prog 9 #[.slice a0 len0 cap0, VV a1 o1] w fun e w' => e = .returned (.bool true) ∧ Below w.heap.size w w' := by
  have CE := Lib.hid examples_any
  obtain ⟨B, EB⟩ : ∃ r, Hid (V.few a1 o1 = r) := ⟨_, rfl⟩
  have OB : Hid (V.Ok B) := by rw [← EB.out]; exact V.few_ok w1 o1
  have HB : Hid (B.length = 4) := OB.out.len
  have CV1 := Lib.hid (fun w => vector_any a1 o1 w w1)
  rw [EB.out] at CV1
  have HVS := Lib.hid w0
  have hlen : (len0 : Int) ≤ 9223372036854775807 := by unfold maxLen at m0; omega
  clear hT EB OB
  go_enter Tryd.func9, Tryd.ntmps9
  go_wp2_with (first | refine blk_box rfl 26 _ rfl (ks .u64 a1 ++ [Value.bool o1]) rfl ?_)
  intro k1 A1 B1 Z1
  have HX1 : Hid (Blk k1 w.heap.size (ks .u64 a1 ++ [Value.bool o1])) := A1
  have HB1 : Hid (Below w.heap.size w k1) := B1
  have HZ1 : Hid (w.heap.size < k1.heap.size) := by show _ < _; omega
  clear A1 B1 Z1
  go_wp2_with fail
  refine (CE.out k1).mono ?_; rintro e k2 ⟨rfl, hb2⟩
  have HX2 : Hid (Blk k2 w.heap.size (ks .u64 a1 ++ [Value.bool o1])) := Blk.below HX1.out hb2 HZ1.out
  have HW2 : Hid (Below w.heap.size w k2) := Below.trans HB1.out (hb2.mono HB1.out.size)
  have HZ2 : Hid (w.heap.size < k2.heap.size) := Nat.lt_of_lt_of_le HZ1.out hb2.size
  clear hb2 HX1 HB1 HZ1 CE
  go_wp2_with fail
  go_loopw [6, 7] (fun v0 i wr => ∃ (j : Nat) (L : List (List Nat)) (v : Value), j ≤ len0 ∧ j ≤ 8 ∧ i = .int .i64 j ∧ v = v0 ∧ Hid (L.length = j) ∧ Hid (OV wr k2.heap.size v L) ∧ Hid (Blk wr w.heap.size (ks .u64 a1 ++ [Value.bool o1])) ∧ Hid (Below w.heap.size w wr) ∧ Hid (k2.heap.size ≤ wr.heap.size)) (fun _ i _ => 8 - (intOf i).toNat)
  case atStart => exact ⟨0, [], .slice none 0 0, by omega, by omega, rfl, rfl, rfl, OV.nil _ _, HX2, HW2, Nat.le_refl _⟩
  case round =>
    obtain ⟨wa, rfl⟩ : ∃ x : World, x = wr := ⟨_, rfl⟩
    obtain ⟨j, L, v, hj, hj8, rfl, rfl, HL, HO, HX, HW, HZ⟩ := hrel
    have HXw : Hid (w.heap.size < wa.heap.size) := Nat.lt_of_lt_of_le HZ2.out HZ.out
    clear HX2 HW2
    by_cases h1 : j < len0
    · by_cases h8 : j < 8
      · rcases HVS.out with h0 | ⟨b, off, rfl, hbw, hall⟩
        · omega
        · obtain ⟨hok, hrow⟩ := hall j h1
          have i1 : (j : Int) < (len0 : Int) := by omega
          have i8 : (j : Int) < 8 := by omega
          obtain ⟨xs, hxs⟩ : ∃ r, X0 j = r := ⟨_, rfl⟩
          obtain ⟨ow, how⟩ : ∃ r, O0 j = r := ⟨_, rfl⟩
          rw [hxs] at hok hrow
          rw [how] at hrow
          have hix : ∀ w, (Instr.indexAt 61 (.slice (some ⟨b, off, none⟩) len0 cap0) (.int .i64 (j : Int))).run Tryd.prog w = .ok (.pointer (some ⟨b, off + 5 * j, none⟩)) w := fun w => index_vv b off len0 cap0 j h1 w
          have HROW : Hid (wa.rangeAt b (off + 5 * j) (ks .u64 xs ++ [Value.bool ow])) := fun i v hv => by rw [HW.out.cell (p := ⟨b, off + 5 * j + i, none⟩) hbw]; exact hrow i v hv
          obtain ⟨f, EF⟩ : ∃ r, Hid (V.few xs ow = r) := ⟨_, rfl⟩
          have HF : Hid (f.length = 4) := by rw [← EF.out]; exact (V.few_ok hok ow).len
          have CV := Lib.hid (fun w => vector_any xs ow w hok)
          rw [EF.out] at CV
          have HSV : Hid _ := size_vv (own := ow) hok.len
          clear hxs how hok hrow hall EF
          go_wp2_with (first | refine wpList_load_mid rfl 26 _ rfl b (off + 5 * j) rfl (ks .u64 xs ++ [Value.bool ow]) _ HROW.out Tryd.underlying26 rfl HSV.out ?_)
          refine (CV.out wa).mono ?_; rintro e k3 ⟨rfl, hb⟩
          have HO3 : Hid (OV k3 k2.heap.size v L) := HO.out.below hb
          have HX3 : Hid (Blk k3 w.heap.size (ks .u64 a1 ++ [Value.bool o1])) := Blk.below HX.out hb HXw.out
          have HW3 : Hid (Below w.heap.size w k3) := Below.trans HW.out (hb.mono HW.out.size)
          have HZ3 : Hid (k2.heap.size ≤ k3.heap.size) := Nat.le_trans HZ.out hb.size
          clear hb HO HX HW HZ CV HROW HXw
          go_wp2_with (first | refine build_one rfl _ rfl f HF.out rfl ?_)
          intro k4 A4 B4 Z4
          have HO4 : Hid (OV k4 k2.heap.size v L) := HO3.out.below B4
          have HX4 : Hid (Blk k4 w.heap.size (ks .u64 a1 ++ [Value.bool o1])) := Blk.below HX3.out B4 (Nat.lt_of_lt_of_le HZ2.out HZ3.out)
          have HW4 : Hid (Below w.heap.size w k4) := Below.trans HW3.out (B4.mono HW3.out.size)
          have HZ4 : Hid (k2.heap.size ≤ k4.heap.size) := Nat.le_trans HZ3.out B4.size
          have HA4 : Hid (Blk k4 k3.heap.size (ks .u64 f)) := A4
          have HLt : Hid (L.length < 1000) := by show _ < _; rw [HL.out]; omega
          clear A4 B4 Z4 HO3 HX3 HW3 HZ3
          go_wp2_with (at_builtin; refine append_vec _ rfl _ _ rfl k2.heap.size _ L rfl HO4.out k3.heap.size rfl f HF.out HA4.out HLt.out HZ4.out ?_)
          intro v' k5 ho hb hz
          have HO5 : Hid (OV k5 k2.heap.size v' (L ++ [f])) := ho
          have HX5 : Hid (Blk k5 w.heap.size (ks .u64 a1 ++ [Value.bool o1])) := Blk.below HX4.out hb HZ2.out
          have HW5 : Hid (Below w.heap.size w k5) := Below.trans HW4.out (hb.mono (Nat.le_of_lt HZ2.out))
          have HZ5 : Hid (k2.heap.size ≤ k5.heap.size) := hz
          have HL5 : Hid ((L ++ [f]).length = j + 1) := by show _ = _; rw [List.length_append, HL.out]; rfl
          clear ho hb hz HO4 HX4 HW4 HZ4 HA4
          go_wp2_with fail
          go_roundw
          case rel => exact ⟨j + 1, L ++ [f], v', by omega, by omega, by go_num, rfl, HL5, HO5, HX5, HW5, HZ5⟩
          case measure => simp [intOf]; omega
      · have i1 : (j : Int) < (len0 : Int) := by omega
        have i8 : ¬ (j : Int) < 8 := by omega
        have i8' : decide ((j : Int) < 8) = false := decide_eq_false i8
        obtain ⟨aa, cc, hv, hlc, hcm, hgg⟩ := HO.out.open
        have CA := Lib.hid (all_ov HO.out)
        rw [HL.out] at hv hlc
        subst hv
        have HC : Hid (j ≤ cc) := hlc
        have HCM : Hid (cc ≤ maxLen) := hcm
        have HGG := Lib.hid hgg
        have HLL : Hid (∀ l ∈ L, l.length = 4) := HO.out.len
        obtain ⟨M, HM⟩ : ∃ r, Hid (V.all L = r) := ⟨_, rfl⟩
        have HM4 : Hid (M.length = 4) := by rw [← HM.out]; exact V.all_length L HLL.out
        have HAU : Hid (∀ l ∈ L, V.leq M l = true) := by rw [← HM.out]; exact V.all_under L HLL.out
        have HUA : Hid (L ≠ [] → L.all (fun l => V.leq B l) = true → V.leq B M = true) := fun h1 h2 => by rw [← HM.out]; exact V.under_all L B h1 HB.out HLL.out h2
        have HM0 : Hid (j = 0 → V.sum M = 0) := fun h0 => by
          rw [← HM.out, List.length_eq_zero_iff.1 (HL.out.trans h0)]; rfl
        rw [HM.out] at CA
        clear hlc hcm hgg HO HM HVS
        go_wp2_with fail
        refine CA.out.mono ?_; rintro e k6 ⟨rfl, hb⟩
        have N6 : Hid (Kept wa k6 [(w.heap.size, ks .u64 a1 ++ [Value.bool o1])]) := ⟨hb, fun p hp => by
          simp only [List.mem_cons, List.not_mem_nil, or_false] at hp
          subst hp
          exact ⟨Blk.below HX.out hb HXw.out, Nat.lt_of_lt_of_le HXw.out hb.size⟩⟩
        clear hb CA
        go_wp2_with (first | refine arr_alloc rfl .u64 24 4 rfl Tryd.info_v ?_)
        intro k7 A B_ Z
        go_wp2_with (first | refine arr_store rfl .u64 24 _ _ rfl k6.heap.size rfl M rfl _ A (by rw [HM4.out]; rfl) (size_v HM4.out) ?_)
        intro k8 A' U
        have N8 : Hid (Kept wa k8 [(k6.heap.size, ks .u64 M), (w.heap.size, ks .u64 a1 ++ [Value.bool o1])]) := Kept.fresh N6.out B_ Z U (Arr.blk A')
        clear A B_ Z A' U N6
        go_wp2_with (first | refine blk_load rfl 26 _ rfl w.heap.size rfl (ks .u64 a1 ++ [Value.bool o1]) (Kept.get N8.out 1 rfl) _ Tryd.underlying26 rfl (size_vv w1.len) ?_)
        refine (CV1.out k8).mono ?_; rintro e k9 ⟨rfl, hb⟩
        have N9 : Hid (Kept wa k9 [(k6.heap.size, ks .u64 M), (w.heap.size, ks .u64 a1 ++ [Value.bool o1])]) := Kept.below N8.out hb
        clear hb N8
        go_wp2_with (first | refine arr_alloc rfl .u64 24 4 rfl Tryd.info_v ?_)
        intro k10 A B_ Z
        go_wp2_with (first | refine arr_store rfl .u64 24 _ _ rfl k9.heap.size rfl B rfl _ A (by rw [HB.out]; rfl) (size_v HB.out) ?_)
        intro k11 A' U
        have N11 : Hid (Kept wa k11 [(k9.heap.size, ks .u64 B), (k6.heap.size, ks .u64 M), (w.heap.size, ks .u64 a1 ++ [Value.bool o1])]) := Kept.fresh N9.out B_ Z U (Arr.blk A')
        clear A B_ Z A' U N9
        have hj8 : (j : Int) ≤ 8 := by omega
        clear CV1
        go_wp2_with fail
        go_loopw [10, 11] (fun un i wr => ∃ (i0 : Nat) (q : Bool), i0 ≤ j ∧ i = .int .i64 i0 ∧ un = .bool q ∧ Hid ((L.take i0).all (fun l => V.leq B l) = q) ∧ Hid (Kept wa wr [(k9.heap.size, ks .u64 B), (k6.heap.size, ks .u64 M), (w.heap.size, ks .u64 a1 ++ [Value.bool o1])])) (fun _ i _ => j - (intOf i).toNat)
        case atStart => exact ⟨0, true, by omega, rfl, rfl, rfl, N11⟩
        case round =>
          obtain ⟨i0, q, hi0, rfl, rfl, HQ, NQ⟩ := hrel
          clear N11
          by_cases hlt : i0 < j
          · have ilt : (i0 : Int) < (j : Int) := by omega
            obtain ⟨l, hl⟩ : ∃ l, L[i0]? = some l := ⟨_, List.getElem?_eq_getElem (by rw [HL.out]; exact hlt)⟩
            have HLi : Hid (L[i0]? = some l) := hl
            obtain ⟨g, rfl, hgw, hVs⟩ := HGG.out (by intro e; rw [e] at hl; simp at hl)
            have HGw : Hid (g < wa.heap.size) := hgw
            have HVs := Lib.hid hVs
            have HL4 : Hid (l.length = 4) := HLL.out l (List.mem_of_getElem? hl)
            have HU : Hid (V.leq M l = true) := HAU.out l (List.mem_of_getElem? hl)
            obtain ⟨p, HP⟩ : ∃ r, Hid (V.leq B l = r) := ⟨_, rfl⟩
            have HIX : Hid (∀ w, (Instr.indexAt 35 (.slice (some ⟨g, 0, none⟩) j cc) (.int .i64 (i0 : Int))).run Tryd.prog w = .ok (.pointer (some ⟨g, 4 * i0, none⟩)) w) := fun w => by
              have h := index_s g 0 j cc i0 hlt w
              rw [Nat.zero_add] at h
              exact h
            have HQ' : Hid ((L.take (i0 + 1)).all (fun l => V.leq B l) = (q && p)) := by show _ = _; rw [take_all _ L i0 l hl, HQ.out, HP.out]
            clear hl hgw hVs HGG
            have KM : Hid (∀ u, Below wr.heap.size wr u → Arr .u64 u k6.heap.size M) := fun u hu => (Kept.below NQ.out hu).arr 1 rfl
            have KR : Hid (∀ u, Below wr.heap.size wr u → u.rangeAt g (4 * i0) (ks .u64 l)) := fun u hu => by
              have h := Vecs.below HVs.out (Kept.below NQ.out hu).under HGw.out i0 l HLi.out
              rw [Nat.zero_add] at h
              exact h
            have XM : Hid (∀ u, Below wr.heap.size wr u → Calls Tryd.prog 22 [AV .u64 M, AV .u64 l].toArray u fun e u' => e = .returned (.bool true) ∧ Below wr.heap.size wr u') := fun u hu => Calls.more hu (by have h := leq_any M l u HM4.out HL4.out; rw [HU.out] at h; exact h)
            go_wp2_with fail
            refine region_w Tryd.mixed (by kernel_rfl) ?_
            refine w_arr_load rfl .u64 24 _ rfl (k6.heap.size) rfl M KM.out 4 22 Tryd.underlying24 (size_v HM4.out) (fun K hK => ?_)
            go_simp
            refine hK _ ?_
            clear hK K
            refine w_move rfl _ rfl (.slice (some ⟨g, 0, none⟩) j cc) rfl (fun K hK => ?_)
            go_simp
            refine hK _ ?_
            clear hK K
            refine w_move rfl _ rfl (.int .i64 (i0 : Int)) rfl (fun K hK => ?_)
            go_simp
            refine hK _ ?_
            clear hK K
            refine w_value rfl (.pointer (some ⟨g, 4 * i0, none⟩)) (fun u hu => by have h := HIX.out u; go_simp) (fun K hK => ?_)
            go_simp
            refine hK _ ?_
            clear hK K
            refine w_value rfl (AV .u64 l) (fun u hu => row_run .u64 24 _ rfl g (4 * i0) rfl l (KR.out u hu) 4 22 Tryd.underlying24 (size_v HL4.out)) (fun K hK => ?_)
            go_simp
            refine hK _ ?_
            clear hK K
            refine w_call rfl 22 Tryd.f22 Tryd.func22 rfl rfl _ _ rfl _ rfl (.bool true) (by exact XM.out) (fun K hK => ?_)
            go_simp
            refine hK _ ?_
            clear hK K
            refine w_value rfl (.bool false) (fun u hu => by go_simp) (fun K hK => ?_)
            go_simp
            refine hK _ ?_
            clear hK K
            refine w_nil ?_
            intro k12 hu
            have N12 : Hid (Kept wa k12 [(k9.heap.size, ks .u64 B), (k6.heap.size, ks .u64 M), (w.heap.size, ks .u64 a1 ++ [Value.bool o1])]) := Kept.below NQ.out hu
            clear hu KM KR XM NQ
            go_wp2_with fail
            have KB : Hid (∀ u, Below k12.heap.size k12 u → Arr .u64 u k9.heap.size B) := fun u hu => (Kept.below N12.out hu).arr 0 rfl
            have KR : Hid (∀ u, Below k12.heap.size k12 u → u.rangeAt g (4 * i0) (ks .u64 l)) := fun u hu => by
              have h := Vecs.below HVs.out (Kept.below N12.out hu).under HGw.out i0 l HLi.out
              rw [Nat.zero_add] at h
              exact h
            have XB : Hid (∀ u, Below k12.heap.size k12 u → Calls Tryd.prog 22 [AV .u64 B, AV .u64 l].toArray u fun e u' => e = .returned (.bool p) ∧ Below k12.heap.size k12 u') := fun u hu => Calls.more hu (by have h := leq_any B l u HB.out HL4.out; rw [HP.out] at h; exact h)
            cases q with
            | true =>
              refine region_w Tryd.mixed (by kernel_rfl) ?_
              refine w_move rfl _ rfl (.bool true) rfl (fun K hK => ?_)
              go_simp
              refine hK _ ?_
              clear hK K
              refine w_move rfl _ rfl (.bool true) rfl (fun K hK => ?_)
              go_simp
              refine hK _ ?_
              clear hK K
              refine wg_arr_load (by rfl) .u64 24 _ rfl (k9.heap.size) rfl B KB.out 4 22 Tryd.underlying24 (size_v HB.out) (fun K hK => ?_)
              go_simp
              refine hK _ ?_
              clear hK K
              refine wg_value (by rfl) (.slice (some ⟨g, 0, none⟩) j cc) (fun u hu => by go_simp) (fun K hK => ?_)
              go_simp
              refine hK _ ?_
              clear hK K
              refine wg_value (by rfl) (.int .i64 (i0 : Int)) (fun u hu => by go_simp) (fun K hK => ?_)
              go_simp
              refine hK _ ?_
              clear hK K
              refine wg_value (by rfl) (.pointer (some ⟨g, 4 * i0, none⟩)) (fun u hu => by have h := HIX.out u; go_simp) (fun K hK => ?_)
              go_simp
              refine hK _ ?_
              clear hK K
              refine wg_value (by rfl) (AV .u64 l) (fun u hu => row_run .u64 24 _ rfl g (4 * i0) rfl l (KR.out u hu) 4 22 Tryd.underlying24 (size_v HL4.out)) (fun K hK => ?_)
              go_simp
              refine hK _ ?_
              clear hK K
              refine wg_call (by rfl) 22 Tryd.f22 Tryd.func22 rfl rfl _ _ rfl _ rfl (.bool p) (by exact XB.out) (fun K hK => ?_)
              go_simp
              refine hK _ ?_
              clear hK K
              refine w_value rfl (.bool p) (fun u hu => by go_simp) (fun K hK => ?_)
              go_simp
              refine hK _ ?_
              clear hK K
              refine w_assign rfl _ rfl (.bool p) rfl (fun K hK => ?_)
              go_simp
              refine hK _ ?_
              clear hK K
              refine w_nil ?_
              intro k13 hu
              have N13 : Hid (Kept wa k13 [(k9.heap.size, ks .u64 B), (k6.heap.size, ks .u64 M), (w.heap.size, ks .u64 a1 ++ [Value.bool o1])]) := Kept.below N12.out hu
              clear hu KB KR XB N12
              go_wp2_with fail
              go_roundw
              case rel => exact ⟨i0 + 1, p, by omega, by go_num, rfl, HQ', N13⟩
              case measure => simp [intOf]; omega
            | false =>
              refine region_w Tryd.mixed (by kernel_rfl) ?_
              refine w_move rfl _ rfl (.bool false) rfl (fun K hK => ?_)
              go_simp
              refine hK _ ?_
              clear hK K
              refine w_move rfl _ rfl (.bool false) rfl (fun K hK => ?_)
              go_simp
              refine hK _ ?_
              clear hK K
              refine w_skip 1 true (some false) rfl rfl rfl (fun K hK => ?_)
              go_simp
              refine hK _ ?_
              clear hK K
              refine w_skip 1 true (some false) rfl rfl rfl (fun K hK => ?_)
              go_simp
              refine hK _ ?_
              clear hK K
              refine w_skip 1 true (some false) rfl rfl rfl (fun K hK => ?_)
              go_simp
              refine hK _ ?_
              clear hK K
              refine w_skip 1 true (some false) rfl rfl rfl (fun K hK => ?_)
              go_simp
              refine hK _ ?_
              clear hK K
              refine w_skip 1 true (some false) rfl rfl rfl (fun K hK => ?_)
              go_simp
              refine hK _ ?_
              clear hK K
              refine w_skip 1 true (some false) rfl rfl rfl (fun K hK => ?_)
              go_simp
              refine hK _ ?_
              clear hK K
              refine w_value rfl (.bool false) (fun u hu => by go_simp) (fun K hK => ?_)
              go_simp
              refine hK _ ?_
              clear hK K
              refine w_assign rfl _ rfl (.bool false) rfl (fun K hK => ?_)
              go_simp
              refine hK _ ?_
              clear hK K
              refine w_nil ?_
              intro k13 hu
              have N13 : Hid (Kept wa k13 [(k9.heap.size, ks .u64 B), (k6.heap.size, ks .u64 M), (w.heap.size, ks .u64 a1 ++ [Value.bool o1])]) := Kept.below N12.out hu
              clear hu KB KR XB N12
              go_wp2_with fail
              go_roundw
              case rel => exact ⟨i0 + 1, false, by omega, by go_num, rfl, HQ', N13⟩
              case measure => simp [intOf]; omega
          · obtain rfl : i0 = j := by omega
            have ilt : ¬ ((i0 : Int) < (i0 : Int)) := by omega
            rw [List.take_of_length_le (by rw [HL.out]; exact Nat.le_refl _)] at HQ
            by_cases hz : i0 = 0
            · have hz' : ((i0 : Int) == 0) = true := by rw [beq_iff_eq]; omega
              have CS := Lib.hid (fun w => sum_any M w HM4.out)
              rw [HM0.out hz] at CS
              go_wp2_with (first | refine arr_loadg rfl .u64 24 _ rfl k6.heap.size rfl M (Kept.arr NQ.out 1 rfl) 4 22 Tryd.underlying24 (size_v HM4.out) ?_)
              refine (CS.out wr).mono ?_; rintro e k14 ⟨rfl, hb⟩
              have HE : Hid (Below w.heap.size w k14) := Below.trans HW.out ((Kept.below NQ.out hb).under.mono HW.out.size)
              clear hb NQ
              go_wp2_with fail
              go_ret
              exact ⟨rfl, HE.out⟩
            · have hz' : ((i0 : Int) == 0) = false := by rw [beq_eq_false_iff_ne]; omega
              obtain ⟨l, hl⟩ : ∃ l, L[0]? = some l := ⟨_, List.getElem?_eq_getElem (by rw [HL.out]; omega)⟩
              have HLi : Hid (L[0]? = some l) := hl
              have hne : L ≠ [] := by intro e; rw [e] at hl; simp at hl
              obtain ⟨g, rfl, hgw, hVs⟩ := HGG.out hne
              have HGw : Hid (g < wa.heap.size) := hgw
              have HVs := Lib.hid hVs
              have HL4 : Hid (l.length = 4) := HLL.out l (List.mem_of_getElem? hl)
              have HI0 : Hid (∀ w, (Instr.indexAt 35 (.slice (some ⟨g, 0, none⟩) i0 cc) (.int .i64 0)).run Tryd.prog w = .ok (.pointer (some ⟨g, 0, none⟩)) w) := fun w => index_s g 0 i0 cc 0 (by omega) w
              have hc1 : 1 ≤ cc := by have h := HC.out; omega
              have HSL : Hid (∀ w, (Instr.sliceAt 35 (.slice (some ⟨g, 0, none⟩) i0 cc) none (some (.int .i64 1)) none).run Tryd.prog w = .ok (.slice (some ⟨g, 0, none⟩) 1 cc) w) := fun w => head_s g i0 cc hc1 w
              have HBQ : Hid (q = true → V.leq B M = true) := fun h => HUA.out hne (HQ.out.trans h)
              clear hl hgw hVs HGG hne
              go_wp2_with fail
              cases q with
              | true =>
                have HBM : Hid (V.leq B M = true) := HBQ.out rfl
                have KM : Hid (∀ u, Below wr.heap.size wr u → Arr .u64 u k6.heap.size M) := fun u hu => (Kept.below NQ.out hu).arr 1 rfl
                have KB : Hid (∀ u, Below wr.heap.size wr u → Arr .u64 u k9.heap.size B) := fun u hu => (Kept.below NQ.out hu).arr 0 rfl
                have X3 : Hid (∀ u, Below wr.heap.size wr u → Calls Tryd.prog 22 [AV .u64 B, AV .u64 M].toArray u fun e u' => e = .returned (.bool true) ∧ Below wr.heap.size wr u') := fun u hu => Calls.more hu (by have h := leq_any B M u HB.out HM4.out; rw [HBM.out] at h; exact h)
                have XA : Hid (∀ u, Below wr.heap.size wr u → Calls Tryd.prog 18 [.slice (some ⟨g, 0, none⟩) 1 cc].toArray u fun e u' => e = .returned (AV .u64 l) ∧ Below wr.heap.size wr u') := fun u hu => Calls.more hu (by
                  have hV := Vecs.below HVs.out (Kept.below NQ.out hu).under HGw.out
                  exact all_any g 0 1 cc l [] u rfl (by omega) HCM.out (by simp [HL4.out]) (Nat.lt_of_lt_of_le HGw.out (Kept.below NQ.out hu).under.size) (fun i l' hl' => by
                    cases i with
                    | zero => simp only [List.getElem?_cons_zero, Option.some.injEq] at hl'; subst hl'; exact hV 0 l HLi.out
                    | succ i => simp at hl'))
                have K0 : Hid (∀ u, Below wr.heap.size wr u → u.rangeAt g 0 (ks .u64 l)) := fun u hu => Vecs.below HVs.out (Kept.below NQ.out hu).under HGw.out 0 l HLi.out
                refine region_w Tryd.mixed (by kernel_rfl) ?_
                refine w_move rfl _ rfl (.bool true) rfl (fun K hK => ?_)
                go_simp
                refine hK _ ?_
                clear hK K
                refine w_move rfl _ rfl (.bool true) rfl (fun K hK => ?_)
                go_simp
                refine hK _ ?_
                clear hK K
                refine wg_value (by rfl) (.bool true) (fun u hu => by go_simp) (fun K hK => ?_)
                go_simp
                refine hK _ ?_
                clear hK K
                refine wg_value (by rfl) (.bool false) (fun u hu => by go_simp) (fun K hK => ?_)
                go_simp
                refine hK _ ?_
                clear hK K
                refine wg_value (by rfl) (.bool false) (fun u hu => by go_simp) (fun K hK => ?_)
                go_simp
                refine hK _ ?_
                clear hK K
                refine wg_arr_load (by rfl) .u64 24 _ rfl (k9.heap.size) rfl B KB.out 4 22 Tryd.underlying24 (size_v HB.out) (fun K hK => ?_)
                go_simp
                refine hK _ ?_
                clear hK K
                refine wg_arr_load (by rfl) .u64 24 _ rfl (k6.heap.size) rfl M KM.out 4 22 Tryd.underlying24 (size_v HM4.out) (fun K hK => ?_)
                go_simp
                refine hK _ ?_
                clear hK K
                refine wg_call (by rfl) 22 Tryd.f22 Tryd.func22 rfl rfl _ _ rfl _ rfl (.bool true) (by exact X3.out) (fun K hK => ?_)
                go_simp
                refine hK _ ?_
                clear hK K
                refine wg_value (by rfl) (.bool true) (fun u hu => by go_simp) (fun K hK => ?_)
                go_simp
                refine hK _ ?_
                clear hK K
                refine w_value rfl (.bool true) (fun u hu => by go_simp) (fun K hK => ?_)
                go_simp
                refine hK _ ?_
                clear hK K
                refine w_move rfl _ rfl (.bool true) rfl (fun K hK => ?_)
                go_simp
                refine hK _ ?_
                clear hK K
                refine wg_value (by rfl) (.slice (some ⟨g, 0, none⟩) i0 cc) (fun u hu => by go_simp) (fun K hK => ?_)
                go_simp
                refine hK _ ?_
                clear hK K
                refine wg_value (by rfl) (.slice (some ⟨g, 0, none⟩) 1 cc) (fun u hu => by have h := HSL.out u; go_simp) (fun K hK => ?_)
                go_simp
                refine hK _ ?_
                clear hK K
                refine wg_call (by rfl) 18 Tryd.f18 Tryd.func18 rfl rfl _ _ rfl _ rfl (AV .u64 l) (by exact XA.out) (fun K hK => ?_)
                go_simp
                refine hK _ ?_
                clear hK K
                refine wg_value (by rfl) (.slice (some ⟨g, 0, none⟩) i0 cc) (fun u hu => by go_simp) (fun K hK => ?_)
                go_simp
                refine hK _ ?_
                clear hK K
                refine wg_value (by rfl) (.pointer (some ⟨g, 0, none⟩)) (fun u hu => by have h := HI0.out u; go_simp) (fun K hK => ?_)
                go_simp
                refine hK _ ?_
                clear hK K
                refine wg_value (by rfl) (AV .u64 l) (fun u hu => row_run .u64 24 _ rfl g (0) rfl l (K0.out u hu) 4 22 Tryd.underlying24 (size_v HL4.out)) (fun K hK => ?_)
                go_simp
                refine hK _ ?_
                clear hK K
                refine wg_value (by rfl) (.bool true) (fun u _ => run_eql u .eql 24 24 _ _ (AV .u64 l) (AV .u64 l) _ rfl rfl rfl (guard_v _ _ _ _ u) (eql_true l l HL4.out HL4.out rfl u)) (fun K hK => ?_)
                go_simp
                refine hK _ ?_
                clear hK K
                refine w_value rfl (.bool true) (fun u hu => by go_simp) (fun K hK => ?_)
                go_simp
                refine hK _ ?_
                clear hK K
                refine w_assign rfl _ rfl (.bool true) rfl (fun K hK => ?_)
                go_simp
                refine hK _ ?_
                clear hK K
                refine w_nil ?_
                intro k15 hu
                have HE : Hid (Below w.heap.size w k15) := Below.trans HW.out ((Kept.below NQ.out hu).under.mono HW.out.size)
                clear hu NQ
                go_wp2_with fail
                go_ret
                exact ⟨rfl, HE.out⟩
              | false =>
                have XA : Hid (∀ u, Below wr.heap.size wr u → Calls Tryd.prog 18 [.slice (some ⟨g, 0, none⟩) 1 cc].toArray u fun e u' => e = .returned (AV .u64 l) ∧ Below wr.heap.size wr u') := fun u hu => Calls.more hu (by
                  have hV := Vecs.below HVs.out (Kept.below NQ.out hu).under HGw.out
                  exact all_any g 0 1 cc l [] u rfl (by omega) HCM.out (by simp [HL4.out]) (Nat.lt_of_lt_of_le HGw.out (Kept.below NQ.out hu).under.size) (fun i l' hl' => by
                    cases i with
                    | zero => simp only [List.getElem?_cons_zero, Option.some.injEq] at hl'; subst hl'; exact hV 0 l HLi.out
                    | succ i => simp at hl'))
                have K0 : Hid (∀ u, Below wr.heap.size wr u → u.rangeAt g 0 (ks .u64 l)) := fun u hu => Vecs.below HVs.out (Kept.below NQ.out hu).under HGw.out 0 l HLi.out
                refine region_w Tryd.mixed (by kernel_rfl) ?_
                refine w_move rfl _ rfl (.bool true) rfl (fun K hK => ?_)
                go_simp
                refine hK _ ?_
                clear hK K
                refine w_move rfl _ rfl (.bool true) rfl (fun K hK => ?_)
                go_simp
                refine hK _ ?_
                clear hK K
                refine wg_value (by rfl) (.bool false) (fun u hu => by go_simp) (fun K hK => ?_)
                go_simp
                refine hK _ ?_
                clear hK K
                refine wg_value (by rfl) (.bool true) (fun u hu => by go_simp) (fun K hK => ?_)
                go_simp
                refine hK _ ?_
                clear hK K
                refine wg_value (by rfl) (.bool true) (fun u hu => by go_simp) (fun K hK => ?_)
                go_simp
                refine hK _ ?_
                clear hK K
                refine w_skip 4 false (some true) rfl rfl rfl (fun K hK => ?_)
                go_simp
                refine hK _ ?_
                clear hK K
                refine w_skip 4 false (some true) rfl rfl rfl (fun K hK => ?_)
                go_simp
                refine hK _ ?_
                clear hK K
                refine w_skip 4 false (some true) rfl rfl rfl (fun K hK => ?_)
                go_simp
                refine hK _ ?_
                clear hK K
                refine wg_value (by rfl) (.bool true) (fun u hu => by go_simp) (fun K hK => ?_)
                go_simp
                refine hK _ ?_
                clear hK K
                refine w_value rfl (.bool true) (fun u hu => by go_simp) (fun K hK => ?_)
                go_simp
                refine hK _ ?_
                clear hK K
                refine w_move rfl _ rfl (.bool true) rfl (fun K hK => ?_)
                go_simp
                refine hK _ ?_
                clear hK K
                refine wg_value (by rfl) (.slice (some ⟨g, 0, none⟩) i0 cc) (fun u hu => by go_simp) (fun K hK => ?_)
                go_simp
                refine hK _ ?_
                clear hK K
                refine wg_value (by rfl) (.slice (some ⟨g, 0, none⟩) 1 cc) (fun u hu => by have h := HSL.out u; go_simp) (fun K hK => ?_)
                go_simp
                refine hK _ ?_
                clear hK K
                refine wg_call (by rfl) 18 Tryd.f18 Tryd.func18 rfl rfl _ _ rfl _ rfl (AV .u64 l) (by exact XA.out) (fun K hK => ?_)
                go_simp
                refine hK _ ?_
                clear hK K
                refine wg_value (by rfl) (.slice (some ⟨g, 0, none⟩) i0 cc) (fun u hu => by go_simp) (fun K hK => ?_)
                go_simp
                refine hK _ ?_
                clear hK K
                refine wg_value (by rfl) (.pointer (some ⟨g, 0, none⟩)) (fun u hu => by have h := HI0.out u; go_simp) (fun K hK => ?_)
                go_simp
                refine hK _ ?_
                clear hK K
                refine wg_value (by rfl) (AV .u64 l) (fun u hu => row_run .u64 24 _ rfl g (0) rfl l (K0.out u hu) 4 22 Tryd.underlying24 (size_v HL4.out)) (fun K hK => ?_)
                go_simp
                refine hK _ ?_
                clear hK K
                refine wg_value (by rfl) (.bool true) (fun u _ => run_eql u .eql 24 24 _ _ (AV .u64 l) (AV .u64 l) _ rfl rfl rfl (guard_v _ _ _ _ u) (eql_true l l HL4.out HL4.out rfl u)) (fun K hK => ?_)
                go_simp
                refine hK _ ?_
                clear hK K
                refine w_value rfl (.bool true) (fun u hu => by go_simp) (fun K hK => ?_)
                go_simp
                refine hK _ ?_
                clear hK K
                refine w_assign rfl _ rfl (.bool true) rfl (fun K hK => ?_)
                go_simp
                refine hK _ ?_
                clear hK K
                refine w_nil ?_
                intro k15 hu
                have HE : Hid (Below w.heap.size w k15) := Below.trans HW.out ((Kept.below NQ.out hu).under.mono HW.out.size)
                clear hu NQ
                go_wp2_with fail
                go_ret
                exact ⟨rfl, HE.out⟩
    · have i1 : ¬ (j : Int) < (len0 : Int) := by omega
      have i1' : decide ((j : Int) < (len0 : Int)) = false := decide_eq_false i1
      obtain ⟨aa, cc, hv, hlc, hcm, hgg⟩ := HO.out.open
      have CA := Lib.hid (all_ov HO.out)
      rw [HL.out] at hv hlc
      subst hv
      have HC : Hid (j ≤ cc) := hlc
      have HCM : Hid (cc ≤ maxLen) := hcm
      have HGG := Lib.hid hgg
      have HLL : Hid (∀ l ∈ L, l.length = 4) := HO.out.len
      obtain ⟨M, HM⟩ : ∃ r, Hid (V.all L = r) := ⟨_, rfl⟩
      have HM4 : Hid (M.length = 4) := by rw [← HM.out]; exact V.all_length L HLL.out
      have HAU : Hid (∀ l ∈ L, V.leq M l = true) := by rw [← HM.out]; exact V.all_under L HLL.out
      have HUA : Hid (L ≠ [] → L.all (fun l => V.leq B l) = true → V.leq B M = true) := fun h1 h2 => by rw [← HM.out]; exact V.under_all L B h1 HB.out HLL.out h2
      have HM0 : Hid (j = 0 → V.sum M = 0) := fun h0 => by
        rw [← HM.out, List.length_eq_zero_iff.1 (HL.out.trans h0)]; rfl
      rw [HM.out] at CA
      clear hlc hcm hgg HO HM HVS
      go_wp2_with fail
      refine CA.out.mono ?_; rintro e k6 ⟨rfl, hb⟩
      have N6 : Hid (Kept wa k6 [(w.heap.size, ks .u64 a1 ++ [Value.bool o1])]) := ⟨hb, fun p hp => by
        simp only [List.mem_cons, List.not_mem_nil, or_false] at hp
        subst hp
        exact ⟨Blk.below HX.out hb HXw.out, Nat.lt_of_lt_of_le HXw.out hb.size⟩⟩
      clear hb CA
      go_wp2_with (first | refine arr_alloc rfl .u64 24 4 rfl Tryd.info_v ?_)
      intro k7 A B_ Z
      go_wp2_with (first | refine arr_store rfl .u64 24 _ _ rfl k6.heap.size rfl M rfl _ A (by rw [HM4.out]; rfl) (size_v HM4.out) ?_)
      intro k8 A' U
      have N8 : Hid (Kept wa k8 [(k6.heap.size, ks .u64 M), (w.heap.size, ks .u64 a1 ++ [Value.bool o1])]) := Kept.fresh N6.out B_ Z U (Arr.blk A')
      clear A B_ Z A' U N6
      go_wp2_with (first | refine blk_load rfl 26 _ rfl w.heap.size rfl (ks .u64 a1 ++ [Value.bool o1]) (Kept.get N8.out 1 rfl) _ Tryd.underlying26 rfl (size_vv w1.len) ?_)
      refine (CV1.out k8).mono ?_; rintro e k9 ⟨rfl, hb⟩
      have N9 : Hid (Kept wa k9 [(k6.heap.size, ks .u64 M), (w.heap.size, ks .u64 a1 ++ [Value.bool o1])]) := Kept.below N8.out hb
      clear hb N8
      go_wp2_with (first | refine arr_alloc rfl .u64 24 4 rfl Tryd.info_v ?_)
      intro k10 A B_ Z
      go_wp2_with (first | refine arr_store rfl .u64 24 _ _ rfl k9.heap.size rfl B rfl _ A (by rw [HB.out]; rfl) (size_v HB.out) ?_)
      intro k11 A' U
      have N11 : Hid (Kept wa k11 [(k9.heap.size, ks .u64 B), (k6.heap.size, ks .u64 M), (w.heap.size, ks .u64 a1 ++ [Value.bool o1])]) := Kept.fresh N9.out B_ Z U (Arr.blk A')
      clear A B_ Z A' U N9
      have hj8 : (j : Int) ≤ 8 := by omega
      clear CV1
      go_wp2_with fail
      go_loopw [10, 11] (fun un i wr => ∃ (i0 : Nat) (q : Bool), i0 ≤ j ∧ i = .int .i64 i0 ∧ un = .bool q ∧ Hid ((L.take i0).all (fun l => V.leq B l) = q) ∧ Hid (Kept wa wr [(k9.heap.size, ks .u64 B), (k6.heap.size, ks .u64 M), (w.heap.size, ks .u64 a1 ++ [Value.bool o1])])) (fun _ i _ => j - (intOf i).toNat)
      case atStart => exact ⟨0, true, by omega, rfl, rfl, rfl, N11⟩
      case round =>
        obtain ⟨i0, q, hi0, rfl, rfl, HQ, NQ⟩ := hrel
        clear N11
        by_cases hlt : i0 < j
        · have ilt : (i0 : Int) < (j : Int) := by omega
          obtain ⟨l, hl⟩ : ∃ l, L[i0]? = some l := ⟨_, List.getElem?_eq_getElem (by rw [HL.out]; exact hlt)⟩
          have HLi : Hid (L[i0]? = some l) := hl
          obtain ⟨g, rfl, hgw, hVs⟩ := HGG.out (by intro e; rw [e] at hl; simp at hl)
          have HGw : Hid (g < wa.heap.size) := hgw
          have HVs := Lib.hid hVs
          have HL4 : Hid (l.length = 4) := HLL.out l (List.mem_of_getElem? hl)
          have HU : Hid (V.leq M l = true) := HAU.out l (List.mem_of_getElem? hl)
          obtain ⟨p, HP⟩ : ∃ r, Hid (V.leq B l = r) := ⟨_, rfl⟩
          have HIX : Hid (∀ w, (Instr.indexAt 35 (.slice (some ⟨g, 0, none⟩) j cc) (.int .i64 (i0 : Int))).run Tryd.prog w = .ok (.pointer (some ⟨g, 4 * i0, none⟩)) w) := fun w => by
            have h := index_s g 0 j cc i0 hlt w
            rw [Nat.zero_add] at h
            exact h
          have HQ' : Hid ((L.take (i0 + 1)).all (fun l => V.leq B l) = (q && p)) := by show _ = _; rw [take_all _ L i0 l hl, HQ.out, HP.out]
          clear hl hgw hVs HGG
          have KM : Hid (∀ u, Below wr.heap.size wr u → Arr .u64 u k6.heap.size M) := fun u hu => (Kept.below NQ.out hu).arr 1 rfl
          have KR : Hid (∀ u, Below wr.heap.size wr u → u.rangeAt g (4 * i0) (ks .u64 l)) := fun u hu => by
            have h := Vecs.below HVs.out (Kept.below NQ.out hu).under HGw.out i0 l HLi.out
            rw [Nat.zero_add] at h
            exact h
          have XM : Hid (∀ u, Below wr.heap.size wr u → Calls Tryd.prog 22 [AV .u64 M, AV .u64 l].toArray u fun e u' => e = .returned (.bool true) ∧ Below wr.heap.size wr u') := fun u hu => Calls.more hu (by have h := leq_any M l u HM4.out HL4.out; rw [HU.out] at h; exact h)
          go_wp2_with fail
          refine region_w Tryd.mixed (by kernel_rfl) ?_
          refine w_arr_load rfl .u64 24 _ rfl (k6.heap.size) rfl M KM.out 4 22 Tryd.underlying24 (size_v HM4.out) (fun K hK => ?_)
          go_simp
          refine hK _ ?_
          clear hK K
          refine w_move rfl _ rfl (.slice (some ⟨g, 0, none⟩) j cc) rfl (fun K hK => ?_)
          go_simp
          refine hK _ ?_
          clear hK K
          refine w_move rfl _ rfl (.int .i64 (i0 : Int)) rfl (fun K hK => ?_)
          go_simp
          refine hK _ ?_
          clear hK K
          refine w_value rfl (.pointer (some ⟨g, 4 * i0, none⟩)) (fun u hu => by have h := HIX.out u; go_simp) (fun K hK => ?_)
          go_simp
          refine hK _ ?_
          clear hK K
          refine w_value rfl (AV .u64 l) (fun u hu => row_run .u64 24 _ rfl g (4 * i0) rfl l (KR.out u hu) 4 22 Tryd.underlying24 (size_v HL4.out)) (fun K hK => ?_)
          go_simp
          refine hK _ ?_
          clear hK K
          refine w_call rfl 22 Tryd.f22 Tryd.func22 rfl rfl _ _ rfl _ rfl (.bool true) (by exact XM.out) (fun K hK => ?_)
          go_simp
          refine hK _ ?_
          clear hK K
          refine w_value rfl (.bool false) (fun u hu => by go_simp) (fun K hK => ?_)
          go_simp
          refine hK _ ?_
          clear hK K
          refine w_nil ?_
          intro k12 hu
          have N12 : Hid (Kept wa k12 [(k9.heap.size, ks .u64 B), (k6.heap.size, ks .u64 M), (w.heap.size, ks .u64 a1 ++ [Value.bool o1])]) := Kept.below NQ.out hu
          clear hu KM KR XM NQ
          go_wp2_with fail
          have KB : Hid (∀ u, Below k12.heap.size k12 u → Arr .u64 u k9.heap.size B) := fun u hu => (Kept.below N12.out hu).arr 0 rfl
          have KR : Hid (∀ u, Below k12.heap.size k12 u → u.rangeAt g (4 * i0) (ks .u64 l)) := fun u hu => by
            have h := Vecs.below HVs.out (Kept.below N12.out hu).under HGw.out i0 l HLi.out
            rw [Nat.zero_add] at h
            exact h
          have XB : Hid (∀ u, Below k12.heap.size k12 u → Calls Tryd.prog 22 [AV .u64 B, AV .u64 l].toArray u fun e u' => e = .returned (.bool p) ∧ Below k12.heap.size k12 u') := fun u hu => Calls.more hu (by have h := leq_any B l u HB.out HL4.out; rw [HP.out] at h; exact h)
          cases q with
          | true =>
            refine region_w Tryd.mixed (by kernel_rfl) ?_
            refine w_move rfl _ rfl (.bool true) rfl (fun K hK => ?_)
            go_simp
            refine hK _ ?_
            clear hK K
            refine w_move rfl _ rfl (.bool true) rfl (fun K hK => ?_)
            go_simp
            refine hK _ ?_
            clear hK K
            refine wg_arr_load (by rfl) .u64 24 _ rfl (k9.heap.size) rfl B KB.out 4 22 Tryd.underlying24 (size_v HB.out) (fun K hK => ?_)
            go_simp
            refine hK _ ?_
            clear hK K
            refine wg_value (by rfl) (.slice (some ⟨g, 0, none⟩) j cc) (fun u hu => by go_simp) (fun K hK => ?_)
            go_simp
            refine hK _ ?_
            clear hK K
            refine wg_value (by rfl) (.int .i64 (i0 : Int)) (fun u hu => by go_simp) (fun K hK => ?_)
            go_simp
            refine hK _ ?_
            clear hK K
            refine wg_value (by rfl) (.pointer (some ⟨g, 4 * i0, none⟩)) (fun u hu => by have h := HIX.out u; go_simp) (fun K hK => ?_)
            go_simp
            refine hK _ ?_
            clear hK K
            refine wg_value (by rfl) (AV .u64 l) (fun u hu => row_run .u64 24 _ rfl g (4 * i0) rfl l (KR.out u hu) 4 22 Tryd.underlying24 (size_v HL4.out)) (fun K hK => ?_)
            go_simp
            refine hK _ ?_
            clear hK K
            refine wg_call (by rfl) 22 Tryd.f22 Tryd.func22 rfl rfl _ _ rfl _ rfl (.bool p) (by exact XB.out) (fun K hK => ?_)
            go_simp
            refine hK _ ?_
            clear hK K
            refine w_value rfl (.bool p) (fun u hu => by go_simp) (fun K hK => ?_)
            go_simp
            refine hK _ ?_
            clear hK K
            refine w_assign rfl _ rfl (.bool p) rfl (fun K hK => ?_)
            go_simp
            refine hK _ ?_
            clear hK K
            refine w_nil ?_
            intro k13 hu
            have N13 : Hid (Kept wa k13 [(k9.heap.size, ks .u64 B), (k6.heap.size, ks .u64 M), (w.heap.size, ks .u64 a1 ++ [Value.bool o1])]) := Kept.below N12.out hu
            clear hu KB KR XB N12
            go_wp2_with fail
            go_roundw
            case rel => exact ⟨i0 + 1, p, by omega, by go_num, rfl, HQ', N13⟩
            case measure => simp [intOf]; omega
          | false =>
            refine region_w Tryd.mixed (by kernel_rfl) ?_
            refine w_move rfl _ rfl (.bool false) rfl (fun K hK => ?_)
            go_simp
            refine hK _ ?_
            clear hK K
            refine w_move rfl _ rfl (.bool false) rfl (fun K hK => ?_)
            go_simp
            refine hK _ ?_
            clear hK K
            refine w_skip 1 true (some false) rfl rfl rfl (fun K hK => ?_)
            go_simp
            refine hK _ ?_
            clear hK K
            refine w_skip 1 true (some false) rfl rfl rfl (fun K hK => ?_)
            go_simp
            refine hK _ ?_
            clear hK K
            refine w_skip 1 true (some false) rfl rfl rfl (fun K hK => ?_)
            go_simp
            refine hK _ ?_
            clear hK K
            refine w_skip 1 true (some false) rfl rfl rfl (fun K hK => ?_)
            go_simp
            refine hK _ ?_
            clear hK K
            refine w_skip 1 true (some false) rfl rfl rfl (fun K hK => ?_)
            go_simp
            refine hK _ ?_
            clear hK K
            refine w_skip 1 true (some false) rfl rfl rfl (fun K hK => ?_)
            go_simp
            refine hK _ ?_
            clear hK K
            refine w_value rfl (.bool false) (fun u hu => by go_simp) (fun K hK => ?_)
            go_simp
            refine hK _ ?_
            clear hK K
            refine w_assign rfl _ rfl (.bool false) rfl (fun K hK => ?_)
            go_simp
            refine hK _ ?_
            clear hK K
            refine w_nil ?_
            intro k13 hu
            have N13 : Hid (Kept wa k13 [(k9.heap.size, ks .u64 B), (k6.heap.size, ks .u64 M), (w.heap.size, ks .u64 a1 ++ [Value.bool o1])]) := Kept.below N12.out hu
            clear hu KB KR XB N12
            go_wp2_with fail
            go_roundw
            case rel => exact ⟨i0 + 1, false, by omega, by go_num, rfl, HQ', N13⟩
            case measure => simp [intOf]; omega
        · obtain rfl : i0 = j := by omega
          have ilt : ¬ ((i0 : Int) < (i0 : Int)) := by omega
          rw [List.take_of_length_le (by rw [HL.out]; exact Nat.le_refl _)] at HQ
          by_cases hz : i0 = 0
          · have hz' : ((i0 : Int) == 0) = true := by rw [beq_iff_eq]; omega
            have CS := Lib.hid (fun w => sum_any M w HM4.out)
            rw [HM0.out hz] at CS
            go_wp2_with (first | refine arr_loadg rfl .u64 24 _ rfl k6.heap.size rfl M (Kept.arr NQ.out 1 rfl) 4 22 Tryd.underlying24 (size_v HM4.out) ?_)
            refine (CS.out wr).mono ?_; rintro e k14 ⟨rfl, hb⟩
            have HE : Hid (Below w.heap.size w k14) := Below.trans HW.out ((Kept.below NQ.out hb).under.mono HW.out.size)
            clear hb NQ
            go_wp2_with fail
            go_ret
            exact ⟨rfl, HE.out⟩
          · have hz' : ((i0 : Int) == 0) = false := by rw [beq_eq_false_iff_ne]; omega
            obtain ⟨l, hl⟩ : ∃ l, L[0]? = some l := ⟨_, List.getElem?_eq_getElem (by rw [HL.out]; omega)⟩
            have HLi : Hid (L[0]? = some l) := hl
            have hne : L ≠ [] := by intro e; rw [e] at hl; simp at hl
            obtain ⟨g, rfl, hgw, hVs⟩ := HGG.out hne
            have HGw : Hid (g < wa.heap.size) := hgw
            have HVs := Lib.hid hVs
            have HL4 : Hid (l.length = 4) := HLL.out l (List.mem_of_getElem? hl)
            have HI0 : Hid (∀ w, (Instr.indexAt 35 (.slice (some ⟨g, 0, none⟩) i0 cc) (.int .i64 0)).run Tryd.prog w = .ok (.pointer (some ⟨g, 0, none⟩)) w) := fun w => index_s g 0 i0 cc 0 (by omega) w
            have hc1 : 1 ≤ cc := by have h := HC.out; omega
            have HSL : Hid (∀ w, (Instr.sliceAt 35 (.slice (some ⟨g, 0, none⟩) i0 cc) none (some (.int .i64 1)) none).run Tryd.prog w = .ok (.slice (some ⟨g, 0, none⟩) 1 cc) w) := fun w => head_s g i0 cc hc1 w
            have HBQ : Hid (q = true → V.leq B M = true) := fun h => HUA.out hne (HQ.out.trans h)
            clear hl hgw hVs HGG hne
            go_wp2_with fail
            cases q with
            | true =>
              have HBM : Hid (V.leq B M = true) := HBQ.out rfl
              have KM : Hid (∀ u, Below wr.heap.size wr u → Arr .u64 u k6.heap.size M) := fun u hu => (Kept.below NQ.out hu).arr 1 rfl
              have KB : Hid (∀ u, Below wr.heap.size wr u → Arr .u64 u k9.heap.size B) := fun u hu => (Kept.below NQ.out hu).arr 0 rfl
              have X3 : Hid (∀ u, Below wr.heap.size wr u → Calls Tryd.prog 22 [AV .u64 B, AV .u64 M].toArray u fun e u' => e = .returned (.bool true) ∧ Below wr.heap.size wr u') := fun u hu => Calls.more hu (by have h := leq_any B M u HB.out HM4.out; rw [HBM.out] at h; exact h)
              have XA : Hid (∀ u, Below wr.heap.size wr u → Calls Tryd.prog 18 [.slice (some ⟨g, 0, none⟩) 1 cc].toArray u fun e u' => e = .returned (AV .u64 l) ∧ Below wr.heap.size wr u') := fun u hu => Calls.more hu (by
                have hV := Vecs.below HVs.out (Kept.below NQ.out hu).under HGw.out
                exact all_any g 0 1 cc l [] u rfl (by omega) HCM.out (by simp [HL4.out]) (Nat.lt_of_lt_of_le HGw.out (Kept.below NQ.out hu).under.size) (fun i l' hl' => by
                  cases i with
                  | zero => simp only [List.getElem?_cons_zero, Option.some.injEq] at hl'; subst hl'; exact hV 0 l HLi.out
                  | succ i => simp at hl'))
              have K0 : Hid (∀ u, Below wr.heap.size wr u → u.rangeAt g 0 (ks .u64 l)) := fun u hu => Vecs.below HVs.out (Kept.below NQ.out hu).under HGw.out 0 l HLi.out
              refine region_w Tryd.mixed (by kernel_rfl) ?_
              refine w_move rfl _ rfl (.bool true) rfl (fun K hK => ?_)
              go_simp
              refine hK _ ?_
              clear hK K
              refine w_move rfl _ rfl (.bool true) rfl (fun K hK => ?_)
              go_simp
              refine hK _ ?_
              clear hK K
              refine wg_value (by rfl) (.bool true) (fun u hu => by go_simp) (fun K hK => ?_)
              go_simp
              refine hK _ ?_
              clear hK K
              refine wg_value (by rfl) (.bool false) (fun u hu => by go_simp) (fun K hK => ?_)
              go_simp
              refine hK _ ?_
              clear hK K
              refine wg_value (by rfl) (.bool false) (fun u hu => by go_simp) (fun K hK => ?_)
              go_simp
              refine hK _ ?_
              clear hK K
              refine wg_arr_load (by rfl) .u64 24 _ rfl (k9.heap.size) rfl B KB.out 4 22 Tryd.underlying24 (size_v HB.out) (fun K hK => ?_)
              go_simp
              refine hK _ ?_
              clear hK K
              refine wg_arr_load (by rfl) .u64 24 _ rfl (k6.heap.size) rfl M KM.out 4 22 Tryd.underlying24 (size_v HM4.out) (fun K hK => ?_)
              go_simp
              refine hK _ ?_
              clear hK K
              refine wg_call (by rfl) 22 Tryd.f22 Tryd.func22 rfl rfl _ _ rfl _ rfl (.bool true) (by exact X3.out) (fun K hK => ?_)
              go_simp
              refine hK _ ?_
              clear hK K
              refine wg_value (by rfl) (.bool true) (fun u hu => by go_simp) (fun K hK => ?_)
              go_simp
              refine hK _ ?_
              clear hK K
              refine w_value rfl (.bool true) (fun u hu => by go_simp) (fun K hK => ?_)
              go_simp
              refine hK _ ?_
              clear hK K
              refine w_move rfl _ rfl (.bool true) rfl (fun K hK => ?_)
              go_simp
              refine hK _ ?_
              clear hK K
              refine wg_value (by rfl) (.slice (some ⟨g, 0, none⟩) i0 cc) (fun u hu => by go_simp) (fun K hK => ?_)
              go_simp
              refine hK _ ?_
              clear hK K
              refine wg_value (by rfl) (.slice (some ⟨g, 0, none⟩) 1 cc) (fun u hu => by have h := HSL.out u; go_simp) (fun K hK => ?_)
              go_simp
              refine hK _ ?_
              clear hK K
              refine wg_call (by rfl) 18 Tryd.f18 Tryd.func18 rfl rfl _ _ rfl _ rfl (AV .u64 l) (by exact XA.out) (fun K hK => ?_)
              go_simp
              refine hK _ ?_
              clear hK K
              refine wg_value (by rfl) (.slice (some ⟨g, 0, none⟩) i0 cc) (fun u hu => by go_simp) (fun K hK => ?_)
              go_simp
              refine hK _ ?_
              clear hK K
              refine wg_value (by rfl) (.pointer (some ⟨g, 0, none⟩)) (fun u hu => by have h := HI0.out u; go_simp) (fun K hK => ?_)
              go_simp
              refine hK _ ?_
              clear hK K
              refine wg_value (by rfl) (AV .u64 l) (fun u hu => row_run .u64 24 _ rfl g (0) rfl l (K0.out u hu) 4 22 Tryd.underlying24 (size_v HL4.out)) (fun K hK => ?_)
              go_simp
              refine hK _ ?_
              clear hK K
              refine wg_value (by rfl) (.bool true) (fun u _ => run_eql u .eql 24 24 _ _ (AV .u64 l) (AV .u64 l) _ rfl rfl rfl (guard_v _ _ _ _ u) (eql_true l l HL4.out HL4.out rfl u)) (fun K hK => ?_)
              go_simp
              refine hK _ ?_
              clear hK K
              refine w_value rfl (.bool true) (fun u hu => by go_simp) (fun K hK => ?_)
              go_simp
              refine hK _ ?_
              clear hK K
              refine w_assign rfl _ rfl (.bool true) rfl (fun K hK => ?_)
              go_simp
              refine hK _ ?_
              clear hK K
              refine w_nil ?_
              intro k15 hu
              have HE : Hid (Below w.heap.size w k15) := Below.trans HW.out ((Kept.below NQ.out hu).under.mono HW.out.size)
              clear hu NQ
              go_wp2_with fail
              go_ret
              exact ⟨rfl, HE.out⟩
            | false =>
              have XA : Hid (∀ u, Below wr.heap.size wr u → Calls Tryd.prog 18 [.slice (some ⟨g, 0, none⟩) 1 cc].toArray u fun e u' => e = .returned (AV .u64 l) ∧ Below wr.heap.size wr u') := fun u hu => Calls.more hu (by
                have hV := Vecs.below HVs.out (Kept.below NQ.out hu).under HGw.out
                exact all_any g 0 1 cc l [] u rfl (by omega) HCM.out (by simp [HL4.out]) (Nat.lt_of_lt_of_le HGw.out (Kept.below NQ.out hu).under.size) (fun i l' hl' => by
                  cases i with
                  | zero => simp only [List.getElem?_cons_zero, Option.some.injEq] at hl'; subst hl'; exact hV 0 l HLi.out
                  | succ i => simp at hl'))
              have K0 : Hid (∀ u, Below wr.heap.size wr u → u.rangeAt g 0 (ks .u64 l)) := fun u hu => Vecs.below HVs.out (Kept.below NQ.out hu).under HGw.out 0 l HLi.out
              refine region_w Tryd.mixed (by kernel_rfl) ?_
              refine w_move rfl _ rfl (.bool true) rfl (fun K hK => ?_)
              go_simp
              refine hK _ ?_
              clear hK K
              refine w_move rfl _ rfl (.bool true) rfl (fun K hK => ?_)
              go_simp
              refine hK _ ?_
              clear hK K
              refine wg_value (by rfl) (.bool false) (fun u hu => by go_simp) (fun K hK => ?_)
              go_simp
              refine hK _ ?_
              clear hK K
              refine wg_value (by rfl) (.bool true) (fun u hu => by go_simp) (fun K hK => ?_)
              go_simp
              refine hK _ ?_
              clear hK K
              refine wg_value (by rfl) (.bool true) (fun u hu => by go_simp) (fun K hK => ?_)
              go_simp
              refine hK _ ?_
              clear hK K
              refine w_skip 4 false (some true) rfl rfl rfl (fun K hK => ?_)
              go_simp
              refine hK _ ?_
              clear hK K
              refine w_skip 4 false (some true) rfl rfl rfl (fun K hK => ?_)
              go_simp
              refine hK _ ?_
              clear hK K
              refine w_skip 4 false (some true) rfl rfl rfl (fun K hK => ?_)
              go_simp
              refine hK _ ?_
              clear hK K
              refine wg_value (by rfl) (.bool true) (fun u hu => by go_simp) (fun K hK => ?_)
              go_simp
              refine hK _ ?_
              clear hK K
              refine w_value rfl (.bool true) (fun u hu => by go_simp) (fun K hK => ?_)
              go_simp
              refine hK _ ?_
              clear hK K
              refine w_move rfl _ rfl (.bool true) rfl (fun K hK => ?_)
              go_simp
              refine hK _ ?_
              clear hK K
              refine wg_value (by rfl) (.slice (some ⟨g, 0, none⟩) i0 cc) (fun u hu => by go_simp) (fun K hK => ?_)
              go_simp
              refine hK _ ?_
              clear hK K
              refine wg_value (by rfl) (.slice (some ⟨g, 0, none⟩) 1 cc) (fun u hu => by have h := HSL.out u; go_simp) (fun K hK => ?_)
              go_simp
              refine hK _ ?_
              clear hK K
              refine wg_call (by rfl) 18 Tryd.f18 Tryd.func18 rfl rfl _ _ rfl _ rfl (AV .u64 l) (by exact XA.out) (fun K hK => ?_)
              go_simp
              refine hK _ ?_
              clear hK K
              refine wg_value (by rfl) (.slice (some ⟨g, 0, none⟩) i0 cc) (fun u hu => by go_simp) (fun K hK => ?_)
              go_simp
              refine hK _ ?_
              clear hK K
              refine wg_value (by rfl) (.pointer (some ⟨g, 0, none⟩)) (fun u hu => by have h := HI0.out u; go_simp) (fun K hK => ?_)
              go_simp
              refine hK _ ?_
              clear hK K
              refine wg_value (by rfl) (AV .u64 l) (fun u hu => row_run .u64 24 _ rfl g (0) rfl l (K0.out u hu) 4 22 Tryd.underlying24 (size_v HL4.out)) (fun K hK => ?_)
              go_simp
              refine hK _ ?_
              clear hK K
              refine wg_value (by rfl) (.bool true) (fun u _ => run_eql u .eql 24 24 _ _ (AV .u64 l) (AV .u64 l) _ rfl rfl rfl (guard_v _ _ _ _ u) (eql_true l l HL4.out HL4.out rfl u)) (fun K hK => ?_)
              go_simp
              refine hK _ ?_
              clear hK K
              refine w_value rfl (.bool true) (fun u hu => by go_simp) (fun K hK => ?_)
              go_simp
              refine hK _ ?_
              clear hK K
              refine w_assign rfl _ rfl (.bool true) rfl (fun K hK => ?_)
              go_simp
              refine hK _ ?_
              clear hK K
              refine w_nil ?_
              intro k15 hu
              have HE : Hid (Below w.heap.size w k15) := Below.trans HW.out ((Kept.below NQ.out hu).under.mono HW.out.size)
              clear hu NQ
              go_wp2_with fail
              go_ret
              exact ⟨rfl, HE.out⟩

set_option maxRecDepth 100000 in
theorem lifted (os : Os) (started : os.Started) (H : Type) (enc : TypeId × Value → H) (F : Stop.Interp) :
    ReturnsInHanded {} Tryd.checked os 9 .any ((OpenSpec.ofChange Rows.vecAllSpec).preRow enc Tryd.prog Tryd.f9 Rows.vecAllRow.domain false Rows.vecAllRow.laid) (((OpenSpec.ofChange Rows.vecAllSpec).at F).post enc Tryd.prog Tryd.f9 false true false false) := by
  have hx : ∃ places, DataW.whole enc Tryd.prog ((laidWorld os).forCall (fun _ _ => 0) ⟨#[], #[.slice none 0 0, .agg #[.int .u64 0, .int .u64 0, .int .u64 0, .int .u64 0, .bool false]], []⟩).memory Tryd.f9.params.toList Rows.vecAllSpec.vars false #[Value.slice none 0 0, Value.agg #[.int .u64 0, .int .u64 0, .int .u64 0, .int .u64 0, .bool false]].toList 8 = some ([.nil, .agg [.agg [.lit (.int .u64 0), .lit (.int .u64 0), .lit (.int .u64 0), .lit (.int .u64 0)], .lit (.bool false)]], [], places) := ⟨[], by kernel_rfl⟩
  obtain ⟨places, hx⟩ := hx
  refine returnsInHanded_of_row (C := Tryd.checked) (s := OpenSpec.ofChange Rows.vecAllSpec) own started (by kernel_rfl) Tryd.func9
    (witness_row_at (enc := enc) (C := Tryd.checked) false (laidWorld os) #[.slice none 0 0, .agg #[.int .u64 0, .int .u64 0, .int .u64 0, .int .u64 0, .bool false]] rfl (by kernel_rfl) (by kernel_rfl) (by kernel_rfl)
      (OpenSpec.preRow_of_cond 8 hx (by kernel_rfl) (fun k hk => by cases hk) (by kernel_rfl) (laidMet_of_run' 8 (by kernel_rfl) (by kernel_rfl)))) ?_
  intro W base args ds gs before hval0 hW hcnd hcond hsz0 hL _ _
  have hT : Fm.Tab W := tab_of hL
  have hval : ∀ (j : Nat) t v, Tryd.f9.params[j]? = some t → args[j]? = some v → Value.okWide Tryd.prog W .any base t v := hval0
  have hW' := hW
  obtain ⟨p, q, hA0, hV, rfl, hfz, hnd⟩ := hW
  have hA : DataW.TrodAll enc Tryd.prog W 0 (fun _ => true) true Tryd.f9.params.toList args.toList ds p := hA0
  have hsz : (DataW.weightsEach Tryd.prog (Tryd.f9.params.toList ++ Rows.vecAllSpec.plain.varTypes Tryd.prog) (ds ++ gs)).all (· ≤ reachBytes) = true := hsz0
  rw [Tryd.params9] at hA hval hsz
  obtain ⟨rfl, rfl⟩ := trodVars_none hV
  have hAk := hA
  have hlt : ∀ x ∈ p, x.block < W.heap.size := fun x hx => by simpa using hW'.lt x (List.mem_append.2 (.inl hx))
  obtain ⟨v0, vs0, d0, ds0, p0, q0, hargs, rfl, rfl, h0, r0⟩ := trodAll_cons hA
  obtain ⟨v1, vs1, d1, ds1, p1, q1, rfl, rfl, rfl, h1, r1⟩ := trodAll_cons r0
  obtain ⟨rfl, rfl, rfl⟩ := trodAll_nil r1
  obtain rfl : args = #[v0, v1] := by cases args; simp_all
  obtain ⟨a0, len0, cap0, rfl⟩ := okWide_slice Tryd.underlying61 (hval 0 61 v0 rfl rfl)
  obtain ⟨X0, O0, w0, l0, m0⟩ := open_vecs h0
  obtain ⟨a1, o1, rfl, w1⟩ := open_vector (hval 1 26 v1 rfl rfl) h1
  clear hA0 hval0 hsz0
  refine (walk a0 len0 cap0 X0 O0 a1 o1 l0 m0 w1 W hT w0).mono fun e W' ⟨he, hg⟩ => ?_
  subst he
  exact ⟨_, rfl, _, _, _, [], _, [], hW', (trodAll_cons_mk (shut_bool Tryd.underlying4 _) trodAll_mk0), trodAll_below laidOut hg _ _ _ _ (by kernel_rfl) hAk hlt, rfl, hg.frame _, fun h => by cases h⟩

theorem over : Rows.vecAllRow.holds Tryd.pinned (OpenSpec.ofChange Rows.vecAllSpec) :=
  OpenClaim.holds_of_cond 9 Tryd.f9 rfl rfl rfl rfl rfl rfl rfl ⟨rfl, rfl, rfl, rfl, rfl⟩ rfl rfl rfl rfl rfl (by kernel_rfl) Tryd.func9 (by kernel_rfl)
    (of_decide_eq_true (by kernel_rfl)) (by unfold Func.isWrapper; first | (rw [if_pos (by decide +kernel)]; kernel_rfl) | (rw [if_neg (by decide +kernel)]; exact ⟨rfl, rfl⟩))
    (fun os started H enc _ F => by rw [OpenClaim.pre_eq_preRow]; exact lifted os started H enc F)

set_option maxRecDepth 100000 in
theorem plain (f : FuncId) (fn : Func) (hf : Tryd.pinned.checked.prog.funcNamed "tenement/tenementlaw06.VecAll" = some f) (hfn : Tryd.pinned.checked.prog.funcs[f]? = some fn) :
    false = Tryd.pinned.checked.prog.looks [] ∧ ∀ (j : Nat) t, fn.params[j]? = some t → Tryd.pinned.checked.prog.wantsStandIn t = false := by
  obtain rfl : f = 9 := Option.some.inj ((show Tryd.prog.funcNamed "tenement/tenementlaw06.VecAll" = some 9 by kernel_rfl).symm.trans hf) |>.symm
  obtain rfl : fn = Tryd.f9 := (Option.some.inj (Tryd.func9.symm.trans hfn)).symm
  refine ⟨by kernel_rfl, fun j t ht => ?_⟩
  rw [Tryd.params9] at ht
  have hm := Array.mem_of_getElem? ht
  simp only [List.mem_toArray, List.mem_cons, List.not_mem_nil, or_false] at hm
  rcases hm with rfl | rfl
  all_goals first | exact (show Tryd.prog.wantsStandIn 61 = false by kernel_rfl) | exact (show Tryd.prog.wantsStandIn 26 = false by kernel_rfl)

/-- the statement -/
theorem proved : Rows.VecAllCardSaid :=
  Claim7.holds_tied_plain_at .later [] _ _ _ _ over (fun _ h => by cases h) (by kernel_rfl) (fun _ h => by cases h) vecAll_row_tie rfl ⟨rfl, rfl⟩ (by kernel_rfl) rfl plain (by kernel_rfl)
#print axioms proved

end Go.Proofs.YtpdomhddjpfibaaDoor.vecAll
