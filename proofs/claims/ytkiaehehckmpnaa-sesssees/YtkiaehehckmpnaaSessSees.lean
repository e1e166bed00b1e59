/-
  What a session has seen only rises; what others see changes nothing of it (the law SessSees). No conditions.
-/
import Derived.Test.YtkiaehehckmpnaaFrame

import Derived.Test.YtkiaehehckmpnaaSessEx

import Derived.Deep.DeepCutAuto

import Derived.Test.YtkiaehehckmpnaaFrameDeed14

namespace Go.Proofs.Ytkiaehehckmpnaa.sessSees

open Go.ChangeShapes Go.WideShapes Go.ChangeAt Go.RowKit

open Go.ChangeMaps (open_string shut_string)

set_option linter.unusedVariables false

set_option linter.unusedSimpArgs false

open Go.Proofs.Ytkiaehehckmpnaa.Vc Go.Proofs.Ytkiaehehckmpnaa.Sp Go.Proofs.Ytkiaehehckmpnaa.Rw Go.Proofs.Ytkiaehehckmpnaa.Se Go.Proofs.Ytkiaehehckmpnaa.It Go.Proofs.Ytkiaehehckmpnaa.Z Go.Proofs.Ytkiaehehckmpnaa.Zm

theorem guard_nv (r : BinOp) (x y : Operand) (l m : List Nat) (w : World) : (eqGuard r 25 x y (AV .u64 l) (.agg (ks .u64 m).toArray)).run Try.prog w = .ok () w := by
  unfold AV
  cases r <;> simp [eqGuard, guardType_v]
theorem neq_v (a b : List Nat) (ha : a.length = 4) (hb : b.length = 4) (w : World) :
    (binOp .neq 25 (AV .u64 a) (AV .u64 b)).run Try.prog w = .ok (.bool (!decide (a = b))) w := by
  have h := eq_v a b ha hb w
  have e : binOp .neq 25 (AV .u64 a) (AV .u64 b) = (do pure (.bool (!(← Op.equalIn 10000 25 (AV .u64 a) (AV .u64 b))))) := rfl
  rw [e]
  simp only [Sem.run_bind, h, Result.andThen_ok, Sem.run_pure]
/-- vectors one behind the other -/
def vc (F : Nat → List Nat) : Nat → List Value
  | 0 => []
  | n + 1 => vc F n ++ ks .u64 (F n)
theorem vc_len {F : Nat → List Nat} (h : ∀ k, (F k).length = 4) : ∀ n, (vc F n).length = 4 * n
  | 0 => rfl
  | n + 1 => by rw [vc, List.length_append, vc_len h n, ks_length, h]; omega
theorem vc_congr {F G : Nat → List Nat} : ∀ n, (∀ k, k < n → F k = G k) → vc F n = vc G n
  | 0, _ => rfl
  | n + 1, h => by rw [vc, vc, vc_congr n (fun k hk => h k (by omega)), h n (by omega)]
theorem vc_split {F : Nat → List Nat} {i : Nat} : ∀ n, i < n → ∃ post, vc F n = vc F i ++ (ks .u64 (F i) ++ post) ∧ ∀ l, vc (fun k => if k = i then l else F k) n = vc F i ++ (ks .u64 l ++ post)
  | 0, h => absurd h (by omega)
  | n + 1, h => by
    by_cases e : i = n
    · subst e
      refine ⟨[], by rw [vc, List.append_nil], fun l => ?_⟩
      rw [vc, List.append_nil, if_pos rfl]
      congr 1
      exact vc_congr i (fun k hk => if_neg (by omega))
    · obtain ⟨post, h1, h2⟩ := vc_split (F := F) (i := i) n (by omega)
      refine ⟨post ++ ks .u64 (F n), ?_, fun l => ?_⟩
      · rw [vc, h1]; simp
      · rw [vc, h2, if_neg (by omega)]; simp
/-- what each has seen -/
def sn (S : List Ss) (k : Nat) : List Nat := (gt S (k : Int)).seen
theorem sn_len {S : List Ss} (h : Z.Good S) (k : Nat) : (sn S k).length = 4 := (gt_ok h.ok k).seen.1
def AS (S : List Ss) : Prop := ∀ s ∈ S, s.opn = false
theorem as0 : AS S0 := fun s hs => by rw [List.eq_of_mem_replicate hs]; rfl
theorem AS.gt {S : List Ss} (h : AS S) (i : Int) : (Z.gt S i).opn = false := by
  unfold Z.gt
  split
  · rw [List.getD_eq_getElem?_getD]
    cases e : S[(i - 1).toNat]? with
    | none => rfl
    | some s => exact h s (List.mem_of_getElem? e)
  · rfl
theorem AS.see {S : List Ss} (h : AS S) (id : Int) (v : List Nat) : AS (aftSee S id v) := by
  unfold aftSee
  split
  · exact st_each h id (h.gt id)
  · exact h
theorem AS.many {S : List Ss} (h : AS S) : Z.many S = 0 := by
  unfold Z.many
  rw [List.filter_eq_nil_iff.2 (fun x hx => by rw [h x hx]; decide)]; rfl
theorem sn_see {S : List Ss} (hS : Z.Good S) (d : Nat) (v : List Nat) (ok : okSee (d : Int) v = true) : vc (sn (aftSee S d v)) 10 = vc (fun k => if k = d then V.join (sn S d) v else sn S k) 10 := by
  refine vc_congr 10 (fun k _ => ?_)
  unfold sn aftSee
  rw [if_pos ok]
  have hk : known (d : Int) = true := by unfold okSee at ok; simp only [Bool.and_eq_true] at ok; exact ok.1
  rw [gt_st hS.len hk]
  by_cases e : k = d
  · subst e; rw [if_pos rfl, if_pos rfl]; rfl
  · rw [if_neg (by omega), if_neg e]
theorem Try.elem_10 : Try.prog.elem 85 = 25 := by kernel_rfl
theorem Try.len_10 : Try.prog.arrayLen 85 = 10 := by kernel_rfl
theorem index_10 (b i : Nat) (hi : i < 10) (w : World) : (Instr.indexAt 85 (.pointer (some ⟨b, 0, none⟩)) (.int .i64 (i : Int))).run Try.prog w = .ok (.pointer (some ⟨b, 4 * i, none⟩)) w := by
  rw [run_indexAt_array w _ _ _ _ (by rw [Try.elem_10, Try.len_10]; exact Try.underlying85), Try.elem_10, Try.len_10, if_pos ⟨by omega, by omega⟩, Try.sizeOf25]
  rw [Result.andThen_ok, Int.toNat_natCast, Nat.mul_comm, Addr.add_mid, Nat.zero_add]
theorem Try.info_10 : (Try.prog.info? 85).map (fun i => (i.zero, i.size)) = some (some (.agg (vc (sn S0) 10).toArray), (vc (sn S0) 10).length) := by kernel_rfl
theorem Try.elem_u8 : Try.prog.elem 84 = 5 := by kernel_rfl
theorem Try.elem_vp : Try.prog.elem 80 = 27 := by kernel_rfl
theorem index_u8 (b o n cap j : Nat) (hj : j < n) (w : World) : (Instr.indexAt 84 (.slice (some ⟨b, o, none⟩) n cap) (.int .i64 (j : Int))).run Try.prog w = .ok (.pointer (some ⟨b, o + j, none⟩)) w := by
  have := run_index Try.elem_u8 Try.underlying84 Try.sizeOf5 b o n cap j hj w
  rwa [Nat.one_mul] at this
theorem index_vp (b o n cap j : Nat) (hj : j < n) (w : World) : (Instr.indexAt 80 (.slice (some ⟨b, o, none⟩) n cap) (.int .i64 (j : Int))).run Try.prog w = .ok (.pointer (some ⟨b, o + 5 * j, none⟩)) w := run_index Try.elem_vp Try.underlying80 Try.sizeOf27 b o n cap j hj w
theorem size_vp : (Try.prog.info? 27).map (·.size) = some 5 := by kernel_rfl
set_option maxHeartbeats 32000000 in
set_option maxRecDepth 100000 in
theorem walk (dv0 : Value) (VL0 : List Vp) (bv1 : Value) (BL1 : List Nat) (w : World) (w0 : Rw.IsR vpk w dv0 VL0) (m0 : ∀ x ∈ VL0, V.Ok x.1) (w1 : Rw.IsR u8k w bv1 BL1) (m1 : ∀ x ∈ BL1, x < 256) :
    Calls Try.prog 6 #[dv0, bv1] w fun e w' => e = .returned (.bool true) ∧ Below w.heap.size w w' := by
  obtain ⟨sa, ca, rfl, hca, hma, _⟩ := w0.is
  obtain ⟨sb, cb, rfl, hcb, hmb, _⟩ := w1.is
  have HVW := Lib.hid w0
  have HBW := Lib.hid w1
  have HVM := Lib.hid m0
  have HBM := Lib.hid m1
  obtain ⟨n, HN⟩ : ∃ n, Hid (VL0.length = n) := ⟨_, rfl⟩
  obtain ⟨m, HM⟩ : ∃ m, Hid (BL1.length = m) := ⟨_, rfl⟩
  rw [HN.out] at HVW
  rw [HM.out] at HBW
  rw [HN.out, HM.out]
  clear hca hma hcb hmb m0 m1 w0 w1
  go_enter Try.func6, Try.ntmps6
  go_wp2_with fail
  refine (examples_any _).mono ?_; rintro e u2 ⟨rfl, hb⟩
  have CN := Lib.hid (newtab_any ((Sep.start w).below hb))
  clear hb
  go_wp2_with fail
  refine (CN.out).mono ?_; rintro e w1 ⟨b, rfl, ht⟩
  have H1 := Lib.hid ht
  clear ht CN
  go_wp2_with (first | refine blk_alloc rfl 85 (vc (sn S0) 10) rfl Try.info_10 ?_)
  intro w2 A2 B2 Z2
  have H2 := Lib.hid (H1.out.box B2 Z2 A2)
  clear A2 B2 Z2 H1
  obtain ⟨c, HC⟩ : ∃ c, Hid (w1.heap.size = c) := ⟨_, rfl⟩
  rw [HC.out] at H2
  rw [HC.out]
  have HL0 : Hid (∃ S, Tab w w2 b S [rB c (vc (sn S) 10)] ∧ AS S) := ⟨S0, H2.out, as0⟩
  clear H2 HC
  go_wp2_with fail
  go_loopw [8, 9, 10, 11, 12] (fun x y1 y2 y3 y4 wr => ∃ i : Nat, i ≤ 20 ∧ x = .int .i64 i ∧ Hid (∃ S, Tab w wr b S [rB c (vc (sn S) 10)] ∧ AS S)) (fun x _ _ _ _ _ => 20 - (intOf x).toNat)
  case atStart => exact ⟨0, by omega, rfl, HL0⟩
  case round =>
    obtain ⟨i, hi, rfl, HLr⟩ := hrel
    clear HL0
    by_cases k1 : i < n
    · have i1 : (i : Int) < (n : Int) := by omega
      by_cases k2 : i < m
      · have i2 : (i : Int) < (m : Int) := by omega
        by_cases k3 : i < 20
        · have i3 : (i : Int) < 20 := by omega
          obtain ⟨S, hT, hAS⟩ := HLr.out
          have HAS := Lib.hid hAS
          have H9 := Lib.hid hT
          have H9G := Lib.hid hT.good
          have hbw := hT.under
          obtain ⟨g, off, cap', hv, hg, hrow⟩ := IsR.at (HVW.out.below hbw) i (by rw [HN.out]; exact k1)
          rw [HN.out] at hv
          simp only [Value.slice.injEq, true_and] at hv
          obtain ⟨rfl, rfl⟩ := hv
          obtain ⟨g2, off2, cap2, hv, hg2, hrow2⟩ := IsR.at (HBW.out.below hbw) i (by rw [HM.out]; exact k2)
          rw [HM.out] at hv
          simp only [Value.slice.injEq, true_and] at hv
          obtain ⟨rfl, rfl⟩ := hv
          have hX := HBM.out _ (List.mem_of_getElem? (getD_some (show i < BL1.length by rw [HM.out]; exact k2) 0))
          have hV := HVM.out _ (List.mem_of_getElem? (getD_some (show i < VL0.length by rw [HN.out]; exact k1) vpk.none_))
          obtain ⟨X, hXX⟩ : ∃ X, BL1.getD i 0 = X := ⟨_, rfl⟩
          have hrow2 : wr.rangeAt g2 (off2 + 1 * i) [Value.int .u8 ((BL1.getD i 0 : Nat) : Int)] := hrow2
          rw [hXX, Nat.one_mul] at hrow2
          rw [hXX] at hX
          have c8 : wr.cell? ⟨g2, off2 + i, none⟩ = some (.int .u8 (X : Int)) := hrow2 0 _ rfl
          obtain ⟨⟨a1, o1⟩, hVV⟩ : ∃ z, VL0.getD i vpk.none_ = z := ⟨_, rfl⟩
          rw [hVV] at hrow hV
          have hV : V.Ok a1 := hV
          have hrow : wr.rangeAt g (off + 5 * i) (vpcell (a1, o1)) := hrow
          rw [vpcell_eq hV.len] at hrow
          have HRW := Lib.hid hrow
          have HG := Lib.hid hg
          obtain ⟨d, hd⟩ : ∃ d, X % 10 = d := ⟨_, rfl⟩
          have hd10 : d < 10 := by omega
          have e10 : (X : Int).tmod 10 = (d : Int) := by rw [Int.tmod_eq_emod_of_nonneg (by omega), ← hd]; rfl
          have e11 : (X : Int) % 10 = (d : Int) := by rw [← hd]; rfl
          have e12 : IntKind.u8.wrap (d : Int) = (d : Int) := by
            have h2 : (d : Int) % 256 = d := Int.emod_eq_of_lt (by omega) (by omega)
            simpa [IntKind.wrap, IntKind.bits, IntKind.signed] using h2
          have e13 : IntKind.i64.wrap (d : Int) = (d : Int) := by rw [IntKind.wrap_i64]; omega
          obtain ⟨s, HSV⟩ : ∃ s, Hid (V.few a1 o1 = s) := ⟨_, rfl⟩
          have HSO : Hid (V.Ok s) := by show V.Ok _; rw [← HSV.out]; exact V.few_ok hV o1
          have CV := Lib.hid (fun u => vector_any a1 o1 u hV)
          rw [HSV.out] at CV
          have HS5 : Hid ((Try.prog.info? 27).map (·.size) = some (ks .u64 a1 ++ [Value.bool o1]).length) := by show _ = _; rw [List.length_append, ks_length, hV.len]; exact size_vp
          obtain ⟨q, HQ⟩ : ∃ q, Hid (V.right s = q) := ⟨_, rfl⟩
          have CR := Lib.hid (fun u => right_any s u HSO.out.1)
          rw [HQ.out] at CR
          have HSZ : Hid ((Try.prog.info? 25).map (·.size) = some (ks .u64 s).length) := by show _ = _; rw [ks_length]; exact size_v HSO.out.1
          have HLN : Hid ((ks .u64 s).length = (ks .u64 [0, 0, 0, 0]).length) := by show _ = _; rw [ks_length, HSO.out.1]; rfl
          have hix8 : ∀ w, (Instr.indexAt 84 (.slice (some ⟨g2, off2, none⟩) m cb) (.int .i64 (i : Int))).run Try.prog w = .ok (.pointer (some ⟨g2, off2 + i, none⟩)) w := fun w => index_u8 g2 off2 m cb i k2 w
          have hixv : ∀ w, (Instr.indexAt 80 (.slice (some ⟨g, off, none⟩) n ca) (.int .i64 (i : Int))).run Try.prog w = .ok (.pointer (some ⟨g, off + 5 * i, none⟩)) w := fun w => index_vp g off n ca i k1 w
          have HD10 := Lib.hid hd10
          clear hbw hrow hrow2 hX hV hXX hVV hd hT hAS HLr hg hg2
          obtain ⟨w9, HW9⟩ : ∃ q, q = wr := ⟨_, rfl⟩
          clear HW9 w9
          go_wp2_with (first | refine mid_load rfl 27 _ rfl g (off + 5 * i) rfl (ks .u64 a1 ++ [Value.bool o1]) HRW.out _ Try.underlying27 rfl HS5.out ?_)
          refine (CV.out _).mono ?_; rintro e w10 ⟨rfl, hb⟩
          have H10 := Lib.hid (H9.out.below hb)
          clear hb H9
          go_wp2_with (first | refine blk_alloc rfl 25 (ks .u64 [0, 0, 0, 0]) rfl Try.info_v ?_)
          intro w11 A11 B11 Z11
          have HA := Lib.hid A11
          have HB := Lib.hid B11
          have HZ := Lib.hid Z11
          clear A11 B11 Z11
          go_wp2_with (first | refine blk_store rfl 25 _ _ rfl w10.heap.size rfl (ks .u64 s) rfl (ks .u64 [0, 0, 0, 0]) HA.out HLN.out HSZ.out (ks_all _ _) ?_)
          intro w12 A12 U12
          have H12 := Lib.hid (H10.out.fresh HB.out HZ.out U12 A12)
          clear A12 U12 HA HB HZ H10
          clear HRW HG hix8 hixv e10 e11 e12 e13 c8 CV
          obtain ⟨bx, HBX⟩ : ∃ bx, Hid (w10.heap.size = bx) := ⟨_, rfl⟩
          rw [HBX.out] at H12
          rw [HBX.out]
          clear HBX
          have C := Lib.hid (tsee_any H12.out (d : Int) s HSO.out)
          go_wp2_with (first | refine blk_load rfl 25 _ rfl bx rfl (ks .u64 s) (H12.out.sep.blk 0 rfl) _ Try.underlying25 rfl HSZ.out ?_)
          refine (C.out).mono ?_; rintro e w13 ⟨rfl, ht⟩
          have H13 := Lib.hid ht
          clear ht C H12
          cases q with
          | false =>
            have hok : okSee (d : Int) s = false := by unfold okSee; rw [HQ.out, Bool.and_false]
            have hS : aftSee S (d : Int) s = S := by unfold aftSee; rw [hok]; rfl
            rw [hok]
            rw [hS] at H13
            clear hok hS
            by_cases d1 : 1 ≤ (d : Int)
            · by_cases d2 : (d : Int) ≤ 8
              · go_wp2_with (first | refine blk_loadg (by rfl) 25 _ rfl bx rfl (ks .u64 s) (H13.out.sep.blk 0 rfl) _ Try.underlying25 rfl HSZ.out ?_)
                refine (CR.out _).mono ?_; rintro e w20 ⟨rfl, hb⟩
                have H20 := Lib.hid (H13.out.below hb)
                clear hb H13
                have HI0 : Hid (∃ Z9, Tab w w20 b S [rB Z9 (ks .u64 s), rB c (vc (sn S) 10)]) := ⟨bx, H20.out⟩
                have HAS9 : Hid (AS S) := HAS.out
                clear H20
                go_wp2_with fail
                go_loopw [12] (fun y wq => ∃ j : Nat, j ≤ 10 ∧ y = .int .i64 (j : Int) ∧ Hid (∃ Z9, Tab w wq b S [rB Z9 (ks .u64 s), rB c (vc (sn S) 10)])) (fun y _ => 10 - (intOf y).toNat)
                case atStart => exact ⟨0, by omega, rfl, HI0⟩
                case round =>
                  obtain ⟨j, hj, rfl, HIr⟩ := hrel
                  clear HI0
                  obtain ⟨Z9, hT9⟩ := HIr.out
                  have HT9 := Lib.hid (hT9.below (Below.refl _ _).drew)
                  have HT8 := Lib.hid hT9
                  clear hT9 HIr
                  by_cases kj : j < 10
                  · have ij : (j : Int) < 10 := by omega
                    have CS := Lib.hid (tseen_any HT9.out (j : Int))
                    obtain ⟨x, HX⟩ : ∃ x, Hid ((gt S (j : Int)).seen = x) := ⟨_, rfl⟩
                    rw [HX.out] at CS
                    have HX4 : Hid (x.length = 4) := by show _ = _; rw [← HX.out]; exact (gt_ok HT9.out.good.ok _).seen.1
                    have HXZ : Hid ((Try.prog.info? 25).map (·.size) = some (ks .u64 x).length) := by show _ = _; rw [ks_length]; exact size_v HX4.out
                    have HRJ : Hid (∀ u, Tab w u b S [rB Z9 (ks .u64 s), rB c (vc (sn S) 10)] → u.rangeAt c (4 * j) (ks .u64 x)) := fun u hu => by
                      obtain ⟨post, h1, _⟩ := vc_split (F := sn S) (i := j) 10 kj
                      have hB := hu.sep.blk 1 rfl
                      rw [h1] at hB
                      have h2 := mid_row hB
                      rw [vc_len (sn_len HT9.out.good)] at h2
                      rw [← HX.out]
                      exact h2
                    have HIX : Hid (∀ w, (Instr.indexAt 85 (.pointer (some ⟨c, 0, none⟩)) (.int .i64 (j : Int))).run Try.prog w = .ok (.pointer (some ⟨c, 4 * j, none⟩)) w) := fun w => index_10 c j kj w
                    have hgw : ∀ u, (binOp .neq 25 (AV .u64 x) (.agg (ks .u64 x).toArray)).run Try.prog u = .ok (.bool false) u := fun u => by
                      have h9 := neq_v x x HX4.out HX4.out u
                      rw [decide_eq_true rfl] at h9
                      exact h9
                    have hgg : ∀ (p q : Operand) u, (eqGuard .neq 25 p q (AV .u64 x) (.agg (ks .u64 x).toArray)).run Try.prog u = .ok () u := fun p q u => guard_nv .neq p q x x u
                    go_wp2_with fail
                    refine region_pickC (fun u => u.rangeAt c (4 * j) (ks .u64 x)) 7 [0, 1, 3, 4, 5] [2, 6] Try.mixed (by kernel_rfl) rfl (by kernel_rfl) (HRJ.out _ HT9.out) ?_
                    refine p_readC rfl ?_
                    refine c_move rfl _ rfl (.pointer (some ⟨b, 0, none⟩)) rfl (fun _ _ _ h => h) (fun K hK => ?_)
                    go_simp
                    refine hK _ ?_
                    clear hK K
                    refine c_nil ?_
                    refine p_readC rfl ?_
                    refine c_move rfl _ rfl (.int .i64 (j : Int)) rfl (fun _ _ _ h => h) (fun K hK => ?_)
                    go_simp
                    refine hK _ ?_
                    clear hK K
                    refine c_nil ?_
                    refine p_readC rfl ?_
                    refine c_move rfl _ rfl (.int .i64 (j : Int)) rfl (fun _ _ _ h => h) (fun K hK => ?_)
                    go_simp
                    refine hK _ ?_
                    clear hK K
                    refine c_nil ?_
                    refine p_readC rfl ?_
                    refine c_value rfl (.pointer (some ⟨c, 4 * j, none⟩)) (fun u hu => by have h9 := HIX.out u; go_simp) (fun _ _ _ h => h) (fun K hK => ?_)
                    go_simp
                    refine hK _ ?_
                    clear hK K
                    refine c_nil ?_
                    refine p_readC rfl ?_
                    refine ct_mid_load rfl 25 _ rfl c (4 * j) rfl (ks .u64 x) (fun u hu => hu) _ Try.underlying25 rfl HXZ.out (fun _ _ _ h => h) (fun K hK => ?_)
                    go_simp
                    refine hK _ ?_
                    clear hK K
                    refine c_nil ?_
                    refine p_nilC ?_
                    refine p_stepC rfl ?_
                    go_wp2_with (go_at_call 28; refine (CS.out).mono ?_; rintro e w30 ⟨rfl, hb⟩)
                    have HT30 := Lib.hid (HT9.out.below hb)
                    have HNX : Hid (∃ Z9, Tab w w30 b S [rB Z9 (ks .u64 s), rB c (vc (sn S) 10)]) := ⟨Z9, HT30.out⟩
                    clear hb
                    refine And.intro (fun _ => HRJ.out _ HT30.out) ?_
                    refine p_stepC rfl ?_
                    go_wp2_with fail
                    refine And.intro (fun _ => HRJ.out _ HT30.out) ?_
                    refine p_endC ?_
                    go_wp2_with fail
                    go_roundw
                    case rel => exact ⟨j + 1, by omega, by go_num, HNX⟩
                    case measure => simp [intOf]; omega
                  · obtain rfl : j = 10 := by omega
                    have HNX : Hid (∃ S, Tab w wr b S [rB c (vc (sn S) 10)] ∧ AS S) := ⟨S, HT8.out.less, HAS9.out⟩
                    go_wp2_with fail
                    go_roundw
                    case rel => exact ⟨i + 1, by omega, by go_num, HNX⟩
                    case measure => simp [intOf]; omega
              · have d3 : decide ((d : Int) ≤ 8) = false := by simp; omega
                have H20 := H13
                have HI0 : Hid (∃ Z9, Tab w w13 b S [rB Z9 (ks .u64 s), rB c (vc (sn S) 10)]) := ⟨bx, H20.out⟩
                have HAS9 : Hid (AS S) := HAS.out
                clear H20
                go_wp2_with fail
                go_loopw [12] (fun y wq => ∃ j : Nat, j ≤ 10 ∧ y = .int .i64 (j : Int) ∧ Hid (∃ Z9, Tab w wq b S [rB Z9 (ks .u64 s), rB c (vc (sn S) 10)])) (fun y _ => 10 - (intOf y).toNat)
                case atStart => exact ⟨0, by omega, rfl, HI0⟩
                case round =>
                  obtain ⟨j, hj, rfl, HIr⟩ := hrel
                  clear HI0
                  obtain ⟨Z9, hT9⟩ := HIr.out
                  have HT9 := Lib.hid (hT9.below (Below.refl _ _).drew)
                  have HT8 := Lib.hid hT9
                  clear hT9 HIr
                  by_cases kj : j < 10
                  · have ij : (j : Int) < 10 := by omega
                    have CS := Lib.hid (tseen_any HT9.out (j : Int))
                    obtain ⟨x, HX⟩ : ∃ x, Hid ((gt S (j : Int)).seen = x) := ⟨_, rfl⟩
                    rw [HX.out] at CS
                    have HX4 : Hid (x.length = 4) := by show _ = _; rw [← HX.out]; exact (gt_ok HT9.out.good.ok _).seen.1
                    have HXZ : Hid ((Try.prog.info? 25).map (·.size) = some (ks .u64 x).length) := by show _ = _; rw [ks_length]; exact size_v HX4.out
                    have HRJ : Hid (∀ u, Tab w u b S [rB Z9 (ks .u64 s), rB c (vc (sn S) 10)] → u.rangeAt c (4 * j) (ks .u64 x)) := fun u hu => by
                      obtain ⟨post, h1, _⟩ := vc_split (F := sn S) (i := j) 10 kj
                      have hB := hu.sep.blk 1 rfl
                      rw [h1] at hB
                      have h2 := mid_row hB
                      rw [vc_len (sn_len HT9.out.good)] at h2
                      rw [← HX.out]
                      exact h2
                    have HIX : Hid (∀ w, (Instr.indexAt 85 (.pointer (some ⟨c, 0, none⟩)) (.int .i64 (j : Int))).run Try.prog w = .ok (.pointer (some ⟨c, 4 * j, none⟩)) w) := fun w => index_10 c j kj w
                    have hgw : ∀ u, (binOp .neq 25 (AV .u64 x) (.agg (ks .u64 x).toArray)).run Try.prog u = .ok (.bool false) u := fun u => by
                      have h9 := neq_v x x HX4.out HX4.out u
                      rw [decide_eq_true rfl] at h9
                      exact h9
                    have hgg : ∀ (p q : Operand) u, (eqGuard .neq 25 p q (AV .u64 x) (.agg (ks .u64 x).toArray)).run Try.prog u = .ok () u := fun p q u => guard_nv .neq p q x x u
                    go_wp2_with fail
                    refine region_pickC (fun u => u.rangeAt c (4 * j) (ks .u64 x)) 7 [0, 1, 3, 4, 5] [2, 6] Try.mixed (by kernel_rfl) rfl (by kernel_rfl) (HRJ.out _ HT9.out) ?_
                    refine p_readC rfl ?_
                    refine c_move rfl _ rfl (.pointer (some ⟨b, 0, none⟩)) rfl (fun _ _ _ h => h) (fun K hK => ?_)
                    go_simp
                    refine hK _ ?_
                    clear hK K
                    refine c_nil ?_
                    refine p_readC rfl ?_
                    refine c_move rfl _ rfl (.int .i64 (j : Int)) rfl (fun _ _ _ h => h) (fun K hK => ?_)
                    go_simp
                    refine hK _ ?_
                    clear hK K
                    refine c_nil ?_
                    refine p_readC rfl ?_
                    refine c_move rfl _ rfl (.int .i64 (j : Int)) rfl (fun _ _ _ h => h) (fun K hK => ?_)
                    go_simp
                    refine hK _ ?_
                    clear hK K
                    refine c_nil ?_
                    refine p_readC rfl ?_
                    refine c_value rfl (.pointer (some ⟨c, 4 * j, none⟩)) (fun u hu => by have h9 := HIX.out u; go_simp) (fun _ _ _ h => h) (fun K hK => ?_)
                    go_simp
                    refine hK _ ?_
                    clear hK K
                    refine c_nil ?_
                    refine p_readC rfl ?_
                    refine ct_mid_load rfl 25 _ rfl c (4 * j) rfl (ks .u64 x) (fun u hu => hu) _ Try.underlying25 rfl HXZ.out (fun _ _ _ h => h) (fun K hK => ?_)
                    go_simp
                    refine hK _ ?_
                    clear hK K
                    refine c_nil ?_
                    refine p_nilC ?_
                    refine p_stepC rfl ?_
                    go_wp2_with (go_at_call 28; refine (CS.out).mono ?_; rintro e w30 ⟨rfl, hb⟩)
                    have HT30 := Lib.hid (HT9.out.below hb)
                    have HNX : Hid (∃ Z9, Tab w w30 b S [rB Z9 (ks .u64 s), rB c (vc (sn S) 10)]) := ⟨Z9, HT30.out⟩
                    clear hb
                    refine And.intro (fun _ => HRJ.out _ HT30.out) ?_
                    refine p_stepC rfl ?_
                    go_wp2_with fail
                    refine And.intro (fun _ => HRJ.out _ HT30.out) ?_
                    refine p_endC ?_
                    go_wp2_with fail
                    go_roundw
                    case rel => exact ⟨j + 1, by omega, by go_num, HNX⟩
                    case measure => simp [intOf]; omega
                  · obtain rfl : j = 10 := by omega
                    have HNX : Hid (∃ S, Tab w wr b S [rB c (vc (sn S) 10)] ∧ AS S) := ⟨S, HT8.out.less, HAS9.out⟩
                    go_wp2_with fail
                    go_roundw
                    case rel => exact ⟨i + 1, by omega, by go_num, HNX⟩
                    case measure => simp [intOf]; omega
            · have d3 : decide (1 ≤ (d : Int)) = false := by simp; omega
              have H20 := H13
              have HI0 : Hid (∃ Z9, Tab w w13 b S [rB Z9 (ks .u64 s), rB c (vc (sn S) 10)]) := ⟨bx, H20.out⟩
              have HAS9 : Hid (AS S) := HAS.out
              clear H20
              go_wp2_with fail
              go_loopw [12] (fun y wq => ∃ j : Nat, j ≤ 10 ∧ y = .int .i64 (j : Int) ∧ Hid (∃ Z9, Tab w wq b S [rB Z9 (ks .u64 s), rB c (vc (sn S) 10)])) (fun y _ => 10 - (intOf y).toNat)
              case atStart => exact ⟨0, by omega, rfl, HI0⟩
              case round =>
                obtain ⟨j, hj, rfl, HIr⟩ := hrel
                clear HI0
                obtain ⟨Z9, hT9⟩ := HIr.out
                have HT9 := Lib.hid (hT9.below (Below.refl _ _).drew)
                have HT8 := Lib.hid hT9
                clear hT9 HIr
                by_cases kj : j < 10
                · have ij : (j : Int) < 10 := by omega
                  have CS := Lib.hid (tseen_any HT9.out (j : Int))
                  obtain ⟨x, HX⟩ : ∃ x, Hid ((gt S (j : Int)).seen = x) := ⟨_, rfl⟩
                  rw [HX.out] at CS
                  have HX4 : Hid (x.length = 4) := by show _ = _; rw [← HX.out]; exact (gt_ok HT9.out.good.ok _).seen.1
                  have HXZ : Hid ((Try.prog.info? 25).map (·.size) = some (ks .u64 x).length) := by show _ = _; rw [ks_length]; exact size_v HX4.out
                  have HRJ : Hid (∀ u, Tab w u b S [rB Z9 (ks .u64 s), rB c (vc (sn S) 10)] → u.rangeAt c (4 * j) (ks .u64 x)) := fun u hu => by
                    obtain ⟨post, h1, _⟩ := vc_split (F := sn S) (i := j) 10 kj
                    have hB := hu.sep.blk 1 rfl
                    rw [h1] at hB
                    have h2 := mid_row hB
                    rw [vc_len (sn_len HT9.out.good)] at h2
                    rw [← HX.out]
                    exact h2
                  have HIX : Hid (∀ w, (Instr.indexAt 85 (.pointer (some ⟨c, 0, none⟩)) (.int .i64 (j : Int))).run Try.prog w = .ok (.pointer (some ⟨c, 4 * j, none⟩)) w) := fun w => index_10 c j kj w
                  have hgw : ∀ u, (binOp .neq 25 (AV .u64 x) (.agg (ks .u64 x).toArray)).run Try.prog u = .ok (.bool false) u := fun u => by
                    have h9 := neq_v x x HX4.out HX4.out u
                    rw [decide_eq_true rfl] at h9
                    exact h9
                  have hgg : ∀ (p q : Operand) u, (eqGuard .neq 25 p q (AV .u64 x) (.agg (ks .u64 x).toArray)).run Try.prog u = .ok () u := fun p q u => guard_nv .neq p q x x u
                  go_wp2_with fail
                  refine region_pickC (fun u => u.rangeAt c (4 * j) (ks .u64 x)) 7 [0, 1, 3, 4, 5] [2, 6] Try.mixed (by kernel_rfl) rfl (by kernel_rfl) (HRJ.out _ HT9.out) ?_
                  refine p_readC rfl ?_
                  refine c_move rfl _ rfl (.pointer (some ⟨b, 0, none⟩)) rfl (fun _ _ _ h => h) (fun K hK => ?_)
                  go_simp
                  refine hK _ ?_
                  clear hK K
                  refine c_nil ?_
                  refine p_readC rfl ?_
                  refine c_move rfl _ rfl (.int .i64 (j : Int)) rfl (fun _ _ _ h => h) (fun K hK => ?_)
                  go_simp
                  refine hK _ ?_
                  clear hK K
                  refine c_nil ?_
                  refine p_readC rfl ?_
                  refine c_move rfl _ rfl (.int .i64 (j : Int)) rfl (fun _ _ _ h => h) (fun K hK => ?_)
                  go_simp
                  refine hK _ ?_
                  clear hK K
                  refine c_nil ?_
                  refine p_readC rfl ?_
                  refine c_value rfl (.pointer (some ⟨c, 4 * j, none⟩)) (fun u hu => by have h9 := HIX.out u; go_simp) (fun _ _ _ h => h) (fun K hK => ?_)
                  go_simp
                  refine hK _ ?_
                  clear hK K
                  refine c_nil ?_
                  refine p_readC rfl ?_
                  refine ct_mid_load rfl 25 _ rfl c (4 * j) rfl (ks .u64 x) (fun u hu => hu) _ Try.underlying25 rfl HXZ.out (fun _ _ _ h => h) (fun K hK => ?_)
                  go_simp
                  refine hK _ ?_
                  clear hK K
                  refine c_nil ?_
                  refine p_nilC ?_
                  refine p_stepC rfl ?_
                  go_wp2_with (go_at_call 28; refine (CS.out).mono ?_; rintro e w30 ⟨rfl, hb⟩)
                  have HT30 := Lib.hid (HT9.out.below hb)
                  have HNX : Hid (∃ Z9, Tab w w30 b S [rB Z9 (ks .u64 s), rB c (vc (sn S) 10)]) := ⟨Z9, HT30.out⟩
                  clear hb
                  refine And.intro (fun _ => HRJ.out _ HT30.out) ?_
                  refine p_stepC rfl ?_
                  go_wp2_with fail
                  refine And.intro (fun _ => HRJ.out _ HT30.out) ?_
                  refine p_endC ?_
                  go_wp2_with fail
                  go_roundw
                  case rel => exact ⟨j + 1, by omega, by go_num, HNX⟩
                  case measure => simp [intOf]; omega
                · obtain rfl : j = 10 := by omega
                  have HNX : Hid (∃ S, Tab w wr b S [rB c (vc (sn S) 10)] ∧ AS S) := ⟨S, HT8.out.less, HAS9.out⟩
                  go_wp2_with fail
                  go_roundw
                  case rel => exact ⟨i + 1, by omega, by go_num, HNX⟩
                  case measure => simp [intOf]; omega
          | true =>
            by_cases d1 : 1 ≤ (d : Int)
            · by_cases d2 : (d : Int) ≤ 8
              · have hk : known (d : Int) = true := (known_iff _).2 ⟨d1, d2⟩
                have hok : okSee (d : Int) s = true := by unfold okSee; rw [hk, HQ.out]; rfl
                rw [hok]
                obtain ⟨S9, HS9⟩ : ∃ S9, Hid (aftSee S (d : Int) s = S9) := ⟨_, rfl⟩
                have HASN : Hid (AS S9) := by show AS _; rw [← HS9.out]; exact HAS.out.see _ _
                rw [HS9.out] at H13
                have HGS := Lib.hid H9G.out
                have hsee := sn_see HGS.out d s hok
                rw [HS9.out] at hsee
                obtain ⟨x, HX⟩ : ∃ x, Hid (sn S d = x) := ⟨_, rfl⟩
                have HX4 : Hid (x.length = 4) := by show _ = _; rw [← HX.out]; exact sn_len HGS.out d
                obtain ⟨y, HY⟩ : ∃ y, Hid (V.join x s = y) := ⟨_, rfl⟩
                have HY4 : Hid (y.length = 4) := by show _ = _; rw [← HY.out]; exact V.join_length HX4.out HSO.out.1
                obtain ⟨post, hp1, hp2⟩ := vc_split (F := sn S) (i := d) 10 HD10.out
                rw [hp2, HX.out, HY.out] at hsee
                rw [HX.out] at hp1
                have HP1 := Lib.hid hp1
                have HSEE := Lib.hid hsee
                have HPL : Hid ((vc (sn S) d).length = 4 * d) := vc_len (sn_len HGS.out) d
                have CJ := Lib.hid (fun u => join_any x s u HX4.out HSO.out.1)
                rw [HY.out] at CJ
                have HXZ : Hid ((Try.prog.info? 25).map (·.size) = some (ks .u64 x).length) := by show _ = _; rw [ks_length]; exact size_v HX4.out
                have HIX : Hid (∀ w, (Instr.indexAt 85 (.pointer (some ⟨c, 0, none⟩)) (.int .i64 (d : Int))).run Try.prog w = .ok (.pointer (some ⟨c, 4 * d, none⟩)) w) := fun w => index_10 c d HD10.out w
                have HRD : Hid (∀ u, Tab w u b S9 [rB bx (ks .u64 s), rB c (vc (sn S) 10)] → u.rangeAt c (4 * d) (ks .u64 x)) := fun u hu => by
                  have hB := hu.sep.blk 1 rfl
                  rw [HP1.out] at hB
                  have h2 := mid_row hB
                  rw [HPL.out] at h2
                  exact h2
                clear hsee hp1 hp2 hok hk HAS
                go_wp2_with (first | refine blk_loadg (by rfl) 25 _ rfl bx rfl (ks .u64 s) (H13.out.sep.blk 0 rfl) _ Try.underlying25 rfl HSZ.out ?_)
                refine (CR.out _).mono ?_; rintro e w20 ⟨rfl, hb⟩
                have H20 := Lib.hid (H13.out.below (hb.trans (Below.refl _ _).drew))
                clear hb H13 CR
                go_wp2_with fail
                refine region_pickC (fun u => u.rangeAt c (4 * d) (ks .u64 x) ∧ Blk u bx (ks .u64 s)) 7 [0, 1, 2, 3, 4] [5, 6, 7] Try.mixed (by kernel_rfl) rfl (by kernel_rfl) ⟨HRD.out _ H20.out, H20.out.sep.blk 0 rfl⟩ ?_
                refine p_readC rfl ?_
                refine c_move rfl _ rfl (.int .i64 (d : Int)) rfl (fun _ _ _ h => h) (fun K hK => ?_)
                go_simp
                refine hK _ ?_
                clear hK K
                refine c_nil ?_
                refine p_readC rfl ?_
                refine c_move rfl _ rfl (.int .i64 (d : Int)) rfl (fun _ _ _ h => h) (fun K hK => ?_)
                go_simp
                refine hK _ ?_
                clear hK K
                refine c_nil ?_
                refine p_readC rfl ?_
                refine c_value rfl (.pointer (some ⟨c, 4 * d, none⟩)) (fun u hu => by have h9 := HIX.out u; go_simp) (fun _ _ _ h => h) (fun K hK => ?_)
                go_simp
                refine hK _ ?_
                clear hK K
                refine c_nil ?_
                refine p_readC rfl ?_
                refine ct_mid_load rfl 25 _ rfl c (4 * d) rfl (ks .u64 x) (fun u hu => hu.1) _ Try.underlying25 rfl HXZ.out (fun _ _ _ h => h) (fun K hK => ?_)
                go_simp
                refine hK _ ?_
                clear hK K
                refine c_nil ?_
                refine p_readC rfl ?_
                refine ct_mid_load rfl 25 _ rfl bx 0 rfl (ks .u64 s) (fun u hu => hu.2.1) _ Try.underlying25 rfl HSZ.out (fun _ _ _ h => h) (fun K hK => ?_)
                go_simp
                refine hK _ ?_
                clear hK K
                refine c_nil ?_
                refine p_nilC ?_
                refine p_stepC rfl ?_
                go_wp2_with (go_at_call 39; refine (CJ.out _).mono ?_; rintro e w21 ⟨rfl, hb⟩)
                have H21 := Lib.hid (H20.out.below hb)
                clear hb
                refine And.intro (fun _ => ⟨HRD.out _ H21.out, H21.out.sep.blk 0 rfl⟩) ?_
                refine p_stepC rfl ?_
                have h9 := HIX.out
                go_wp2_with fail
                clear h9
                refine And.intro (fun _ => ⟨HRD.out _ H21.out, H21.out.sep.blk 0 rfl⟩) ?_
                refine p_stepC rfl ?_
                refine st_mid rfl 25 _ _ rfl c (4 * d) rfl (ks .u64 y) rfl (by have h9 := H21.out.sep.blk 1 rfl; rw [HP1.out] at h9; exact h9) HPL.out (by rw [ks_length, ks_length, HX4.out, HY4.out]) (by rw [ks_length]; exact size_v HY4.out) (ks_all _ _) ?_
                intro w22 hB hU
                have H22 : Hid (Tab w w22 b S9 [rB bx (ks .u64 s), rB c (vc (sn S9) 10)]) := by
                  show Tab _ _ _ _ _
                  rw [HSEE.out]
                  exact H21.out.upd 1 rfl hU hB
                clear hB hU
                go_wp2_with fail
                refine And.intro (fun h9 => absurd h9 (by decide)) ?_
                refine p_endC ?_
                have HI0 : Hid (∃ Z9, Tab w w22 b S9 [rB Z9 (ks .u64 s), rB c (vc (sn S9) 10)]) := ⟨bx, H22.out⟩
                have HAS9 : Hid (AS S9) := HASN.out
                clear H22
                go_wp2_with fail
                go_loopw [12] (fun y wq => ∃ j : Nat, j ≤ 10 ∧ y = .int .i64 (j : Int) ∧ Hid (∃ Z9, Tab w wq b S9 [rB Z9 (ks .u64 s), rB c (vc (sn S9) 10)])) (fun y _ => 10 - (intOf y).toNat)
                case atStart => exact ⟨0, by omega, rfl, HI0⟩
                case round =>
                  obtain ⟨j, hj, rfl, HIr⟩ := hrel
                  clear HI0
                  obtain ⟨Z9, hT9⟩ := HIr.out
                  have HT9 := Lib.hid (hT9.below (Below.refl _ _).drew)
                  have HT8 := Lib.hid hT9
                  clear hT9 HIr
                  by_cases kj : j < 10
                  · have ij : (j : Int) < 10 := by omega
                    have CS := Lib.hid (tseen_any HT9.out (j : Int))
                    obtain ⟨x, HX⟩ : ∃ x, Hid ((gt S9 (j : Int)).seen = x) := ⟨_, rfl⟩
                    rw [HX.out] at CS
                    have HX4 : Hid (x.length = 4) := by show _ = _; rw [← HX.out]; exact (gt_ok HT9.out.good.ok _).seen.1
                    have HXZ : Hid ((Try.prog.info? 25).map (·.size) = some (ks .u64 x).length) := by show _ = _; rw [ks_length]; exact size_v HX4.out
                    have HRJ : Hid (∀ u, Tab w u b S9 [rB Z9 (ks .u64 s), rB c (vc (sn S9) 10)] → u.rangeAt c (4 * j) (ks .u64 x)) := fun u hu => by
                      obtain ⟨post, h1, _⟩ := vc_split (F := sn S9) (i := j) 10 kj
                      have hB := hu.sep.blk 1 rfl
                      rw [h1] at hB
                      have h2 := mid_row hB
                      rw [vc_len (sn_len HT9.out.good)] at h2
                      rw [← HX.out]
                      exact h2
                    have HIX : Hid (∀ w, (Instr.indexAt 85 (.pointer (some ⟨c, 0, none⟩)) (.int .i64 (j : Int))).run Try.prog w = .ok (.pointer (some ⟨c, 4 * j, none⟩)) w) := fun w => index_10 c j kj w
                    have hgw : ∀ u, (binOp .neq 25 (AV .u64 x) (.agg (ks .u64 x).toArray)).run Try.prog u = .ok (.bool false) u := fun u => by
                      have h9 := neq_v x x HX4.out HX4.out u
                      rw [decide_eq_true rfl] at h9
                      exact h9
                    have hgg : ∀ (p q : Operand) u, (eqGuard .neq 25 p q (AV .u64 x) (.agg (ks .u64 x).toArray)).run Try.prog u = .ok () u := fun p q u => guard_nv .neq p q x x u
                    go_wp2_with fail
                    refine region_pickC (fun u => u.rangeAt c (4 * j) (ks .u64 x)) 7 [0, 1, 3, 4, 5] [2, 6] Try.mixed (by kernel_rfl) rfl (by kernel_rfl) (HRJ.out _ HT9.out) ?_
                    refine p_readC rfl ?_
                    refine c_move rfl _ rfl (.pointer (some ⟨b, 0, none⟩)) rfl (fun _ _ _ h => h) (fun K hK => ?_)
                    go_simp
                    refine hK _ ?_
                    clear hK K
                    refine c_nil ?_
                    refine p_readC rfl ?_
                    refine c_move rfl _ rfl (.int .i64 (j : Int)) rfl (fun _ _ _ h => h) (fun K hK => ?_)
                    go_simp
                    refine hK _ ?_
                    clear hK K
                    refine c_nil ?_
                    refine p_readC rfl ?_
                    refine c_move rfl _ rfl (.int .i64 (j : Int)) rfl (fun _ _ _ h => h) (fun K hK => ?_)
                    go_simp
                    refine hK _ ?_
                    clear hK K
                    refine c_nil ?_
                    refine p_readC rfl ?_
                    refine c_value rfl (.pointer (some ⟨c, 4 * j, none⟩)) (fun u hu => by have h9 := HIX.out u; go_simp) (fun _ _ _ h => h) (fun K hK => ?_)
                    go_simp
                    refine hK _ ?_
                    clear hK K
                    refine c_nil ?_
                    refine p_readC rfl ?_
                    refine ct_mid_load rfl 25 _ rfl c (4 * j) rfl (ks .u64 x) (fun u hu => hu) _ Try.underlying25 rfl HXZ.out (fun _ _ _ h => h) (fun K hK => ?_)
                    go_simp
                    refine hK _ ?_
                    clear hK K
                    refine c_nil ?_
                    refine p_nilC ?_
                    refine p_stepC rfl ?_
                    go_wp2_with (go_at_call 28; refine (CS.out).mono ?_; rintro e w30 ⟨rfl, hb⟩)
                    have HT30 := Lib.hid (HT9.out.below hb)
                    have HNX : Hid (∃ Z9, Tab w w30 b S9 [rB Z9 (ks .u64 s), rB c (vc (sn S9) 10)]) := ⟨Z9, HT30.out⟩
                    clear hb
                    refine And.intro (fun _ => HRJ.out _ HT30.out) ?_
                    refine p_stepC rfl ?_
                    go_wp2_with fail
                    refine And.intro (fun _ => HRJ.out _ HT30.out) ?_
                    refine p_endC ?_
                    go_wp2_with fail
                    go_roundw
                    case rel => exact ⟨j + 1, by omega, by go_num, HNX⟩
                    case measure => simp [intOf]; omega
                  · obtain rfl : j = 10 := by omega
                    have HNX : Hid (∃ S, Tab w wr b S [rB c (vc (sn S) 10)] ∧ AS S) := ⟨S9, HT8.out.less, HAS9.out⟩
                    go_wp2_with fail
                    go_roundw
                    case rel => exact ⟨i + 1, by omega, by go_num, HNX⟩
                    case measure => simp [intOf]; omega
              · have d3 : decide ((d : Int) ≤ 8) = false := by simp; omega
                have hk : known (d : Int) = false := by cases h : known (d : Int) with | false => rfl | true => exact absurd ((known_iff _).1 h).2 d2
                have hok : okSee (d : Int) s = false := by unfold okSee; rw [hk]; rfl
                have hS : aftSee S (d : Int) s = S := by unfold aftSee; rw [hok]; rfl
                rw [hok]
                rw [hS] at H13
                clear hok hS hk
                have H20 := H13
                have HI0 : Hid (∃ Z9, Tab w w13 b S [rB Z9 (ks .u64 s), rB c (vc (sn S) 10)]) := ⟨bx, H20.out⟩
                have HAS9 : Hid (AS S) := HAS.out
                clear H20
                go_wp2_with fail
                go_loopw [12] (fun y wq => ∃ j : Nat, j ≤ 10 ∧ y = .int .i64 (j : Int) ∧ Hid (∃ Z9, Tab w wq b S [rB Z9 (ks .u64 s), rB c (vc (sn S) 10)])) (fun y _ => 10 - (intOf y).toNat)
                case atStart => exact ⟨0, by omega, rfl, HI0⟩
                case round =>
                  obtain ⟨j, hj, rfl, HIr⟩ := hrel
                  clear HI0
                  obtain ⟨Z9, hT9⟩ := HIr.out
                  have HT9 := Lib.hid (hT9.below (Below.refl _ _).drew)
                  have HT8 := Lib.hid hT9
                  clear hT9 HIr
                  by_cases kj : j < 10
                  · have ij : (j : Int) < 10 := by omega
                    have CS := Lib.hid (tseen_any HT9.out (j : Int))
                    obtain ⟨x, HX⟩ : ∃ x, Hid ((gt S (j : Int)).seen = x) := ⟨_, rfl⟩
                    rw [HX.out] at CS
                    have HX4 : Hid (x.length = 4) := by show _ = _; rw [← HX.out]; exact (gt_ok HT9.out.good.ok _).seen.1
                    have HXZ : Hid ((Try.prog.info? 25).map (·.size) = some (ks .u64 x).length) := by show _ = _; rw [ks_length]; exact size_v HX4.out
                    have HRJ : Hid (∀ u, Tab w u b S [rB Z9 (ks .u64 s), rB c (vc (sn S) 10)] → u.rangeAt c (4 * j) (ks .u64 x)) := fun u hu => by
                      obtain ⟨post, h1, _⟩ := vc_split (F := sn S) (i := j) 10 kj
                      have hB := hu.sep.blk 1 rfl
                      rw [h1] at hB
                      have h2 := mid_row hB
                      rw [vc_len (sn_len HT9.out.good)] at h2
                      rw [← HX.out]
                      exact h2
                    have HIX : Hid (∀ w, (Instr.indexAt 85 (.pointer (some ⟨c, 0, none⟩)) (.int .i64 (j : Int))).run Try.prog w = .ok (.pointer (some ⟨c, 4 * j, none⟩)) w) := fun w => index_10 c j kj w
                    have hgw : ∀ u, (binOp .neq 25 (AV .u64 x) (.agg (ks .u64 x).toArray)).run Try.prog u = .ok (.bool false) u := fun u => by
                      have h9 := neq_v x x HX4.out HX4.out u
                      rw [decide_eq_true rfl] at h9
                      exact h9
                    have hgg : ∀ (p q : Operand) u, (eqGuard .neq 25 p q (AV .u64 x) (.agg (ks .u64 x).toArray)).run Try.prog u = .ok () u := fun p q u => guard_nv .neq p q x x u
                    go_wp2_with fail
                    refine region_pickC (fun u => u.rangeAt c (4 * j) (ks .u64 x)) 7 [0, 1, 3, 4, 5] [2, 6] Try.mixed (by kernel_rfl) rfl (by kernel_rfl) (HRJ.out _ HT9.out) ?_
                    refine p_readC rfl ?_
                    refine c_move rfl _ rfl (.pointer (some ⟨b, 0, none⟩)) rfl (fun _ _ _ h => h) (fun K hK => ?_)
                    go_simp
                    refine hK _ ?_
                    clear hK K
                    refine c_nil ?_
                    refine p_readC rfl ?_
                    refine c_move rfl _ rfl (.int .i64 (j : Int)) rfl (fun _ _ _ h => h) (fun K hK => ?_)
                    go_simp
                    refine hK _ ?_
                    clear hK K
                    refine c_nil ?_
                    refine p_readC rfl ?_
                    refine c_move rfl _ rfl (.int .i64 (j : Int)) rfl (fun _ _ _ h => h) (fun K hK => ?_)
                    go_simp
                    refine hK _ ?_
                    clear hK K
                    refine c_nil ?_
                    refine p_readC rfl ?_
                    refine c_value rfl (.pointer (some ⟨c, 4 * j, none⟩)) (fun u hu => by have h9 := HIX.out u; go_simp) (fun _ _ _ h => h) (fun K hK => ?_)
                    go_simp
                    refine hK _ ?_
                    clear hK K
                    refine c_nil ?_
                    refine p_readC rfl ?_
                    refine ct_mid_load rfl 25 _ rfl c (4 * j) rfl (ks .u64 x) (fun u hu => hu) _ Try.underlying25 rfl HXZ.out (fun _ _ _ h => h) (fun K hK => ?_)
                    go_simp
                    refine hK _ ?_
                    clear hK K
                    refine c_nil ?_
                    refine p_nilC ?_
                    refine p_stepC rfl ?_
                    go_wp2_with (go_at_call 28; refine (CS.out).mono ?_; rintro e w30 ⟨rfl, hb⟩)
                    have HT30 := Lib.hid (HT9.out.below hb)
                    have HNX : Hid (∃ Z9, Tab w w30 b S [rB Z9 (ks .u64 s), rB c (vc (sn S) 10)]) := ⟨Z9, HT30.out⟩
                    clear hb
                    refine And.intro (fun _ => HRJ.out _ HT30.out) ?_
                    refine p_stepC rfl ?_
                    go_wp2_with fail
                    refine And.intro (fun _ => HRJ.out _ HT30.out) ?_
                    refine p_endC ?_
                    go_wp2_with fail
                    go_roundw
                    case rel => exact ⟨j + 1, by omega, by go_num, HNX⟩
                    case measure => simp [intOf]; omega
                  · obtain rfl : j = 10 := by omega
                    have HNX : Hid (∃ S, Tab w wr b S [rB c (vc (sn S) 10)] ∧ AS S) := ⟨S, HT8.out.less, HAS9.out⟩
                    go_wp2_with fail
                    go_roundw
                    case rel => exact ⟨i + 1, by omega, by go_num, HNX⟩
                    case measure => simp [intOf]; omega
            · have d3 : decide (1 ≤ (d : Int)) = false := by simp; omega
              have hk : known (d : Int) = false := by cases h : known (d : Int) with | false => rfl | true => exact absurd ((known_iff _).1 h).1 d1
              have hok : okSee (d : Int) s = false := by unfold okSee; rw [hk]; rfl
              have hS : aftSee S (d : Int) s = S := by unfold aftSee; rw [hok]; rfl
              rw [hok]
              rw [hS] at H13
              clear hok hS hk
              have H20 := H13
              have HI0 : Hid (∃ Z9, Tab w w13 b S [rB Z9 (ks .u64 s), rB c (vc (sn S) 10)]) := ⟨bx, H20.out⟩
              have HAS9 : Hid (AS S) := HAS.out
              clear H20
              go_wp2_with fail
              go_loopw [12] (fun y wq => ∃ j : Nat, j ≤ 10 ∧ y = .int .i64 (j : Int) ∧ Hid (∃ Z9, Tab w wq b S [rB Z9 (ks .u64 s), rB c (vc (sn S) 10)])) (fun y _ => 10 - (intOf y).toNat)
              case atStart => exact ⟨0, by omega, rfl, HI0⟩
              case round =>
                obtain ⟨j, hj, rfl, HIr⟩ := hrel
                clear HI0
                obtain ⟨Z9, hT9⟩ := HIr.out
                have HT9 := Lib.hid (hT9.below (Below.refl _ _).drew)
                have HT8 := Lib.hid hT9
                clear hT9 HIr
                by_cases kj : j < 10
                · have ij : (j : Int) < 10 := by omega
                  have CS := Lib.hid (tseen_any HT9.out (j : Int))
                  obtain ⟨x, HX⟩ : ∃ x, Hid ((gt S (j : Int)).seen = x) := ⟨_, rfl⟩
                  rw [HX.out] at CS
                  have HX4 : Hid (x.length = 4) := by show _ = _; rw [← HX.out]; exact (gt_ok HT9.out.good.ok _).seen.1
                  have HXZ : Hid ((Try.prog.info? 25).map (·.size) = some (ks .u64 x).length) := by show _ = _; rw [ks_length]; exact size_v HX4.out
                  have HRJ : Hid (∀ u, Tab w u b S [rB Z9 (ks .u64 s), rB c (vc (sn S) 10)] → u.rangeAt c (4 * j) (ks .u64 x)) := fun u hu => by
                    obtain ⟨post, h1, _⟩ := vc_split (F := sn S) (i := j) 10 kj
                    have hB := hu.sep.blk 1 rfl
                    rw [h1] at hB
                    have h2 := mid_row hB
                    rw [vc_len (sn_len HT9.out.good)] at h2
                    rw [← HX.out]
                    exact h2
                  have HIX : Hid (∀ w, (Instr.indexAt 85 (.pointer (some ⟨c, 0, none⟩)) (.int .i64 (j : Int))).run Try.prog w = .ok (.pointer (some ⟨c, 4 * j, none⟩)) w) := fun w => index_10 c j kj w
                  have hgw : ∀ u, (binOp .neq 25 (AV .u64 x) (.agg (ks .u64 x).toArray)).run Try.prog u = .ok (.bool false) u := fun u => by
                    have h9 := neq_v x x HX4.out HX4.out u
                    rw [decide_eq_true rfl] at h9
                    exact h9
                  have hgg : ∀ (p q : Operand) u, (eqGuard .neq 25 p q (AV .u64 x) (.agg (ks .u64 x).toArray)).run Try.prog u = .ok () u := fun p q u => guard_nv .neq p q x x u
                  go_wp2_with fail
                  refine region_pickC (fun u => u.rangeAt c (4 * j) (ks .u64 x)) 7 [0, 1, 3, 4, 5] [2, 6] Try.mixed (by kernel_rfl) rfl (by kernel_rfl) (HRJ.out _ HT9.out) ?_
                  refine p_readC rfl ?_
                  refine c_move rfl _ rfl (.pointer (some ⟨b, 0, none⟩)) rfl (fun _ _ _ h => h) (fun K hK => ?_)
                  go_simp
                  refine hK _ ?_
                  clear hK K
                  refine c_nil ?_
                  refine p_readC rfl ?_
                  refine c_move rfl _ rfl (.int .i64 (j : Int)) rfl (fun _ _ _ h => h) (fun K hK => ?_)
                  go_simp
                  refine hK _ ?_
                  clear hK K
                  refine c_nil ?_
                  refine p_readC rfl ?_
                  refine c_move rfl _ rfl (.int .i64 (j : Int)) rfl (fun _ _ _ h => h) (fun K hK => ?_)
                  go_simp
                  refine hK _ ?_
                  clear hK K
                  refine c_nil ?_
                  refine p_readC rfl ?_
                  refine c_value rfl (.pointer (some ⟨c, 4 * j, none⟩)) (fun u hu => by have h9 := HIX.out u; go_simp) (fun _ _ _ h => h) (fun K hK => ?_)
                  go_simp
                  refine hK _ ?_
                  clear hK K
                  refine c_nil ?_
                  refine p_readC rfl ?_
                  refine ct_mid_load rfl 25 _ rfl c (4 * j) rfl (ks .u64 x) (fun u hu => hu) _ Try.underlying25 rfl HXZ.out (fun _ _ _ h => h) (fun K hK => ?_)
                  go_simp
                  refine hK _ ?_
                  clear hK K
                  refine c_nil ?_
                  refine p_nilC ?_
                  refine p_stepC rfl ?_
                  go_wp2_with (go_at_call 28; refine (CS.out).mono ?_; rintro e w30 ⟨rfl, hb⟩)
                  have HT30 := Lib.hid (HT9.out.below hb)
                  have HNX : Hid (∃ Z9, Tab w w30 b S [rB Z9 (ks .u64 s), rB c (vc (sn S) 10)]) := ⟨Z9, HT30.out⟩
                  clear hb
                  refine And.intro (fun _ => HRJ.out _ HT30.out) ?_
                  refine p_stepC rfl ?_
                  go_wp2_with fail
                  refine And.intro (fun _ => HRJ.out _ HT30.out) ?_
                  refine p_endC ?_
                  go_wp2_with fail
                  go_roundw
                  case rel => exact ⟨j + 1, by omega, by go_num, HNX⟩
                  case measure => simp [intOf]; omega
                · obtain rfl : j = 10 := by omega
                  have HNX : Hid (∃ S, Tab w wr b S [rB c (vc (sn S) 10)] ∧ AS S) := ⟨S, HT8.out.less, HAS9.out⟩
                  go_wp2_with fail
                  go_roundw
                  case rel => exact ⟨i + 1, by omega, by go_num, HNX⟩
                  case measure => simp [intOf]; omega
        · have i3 : decide ((i : Int) < 20) = false := by simp; omega
          obtain ⟨S, hT, hAS⟩ := HLr.out
          have CM := Lib.hid (tmany_any hT)
          rw [hAS.many] at CM
          have HT := Lib.hid hT
          clear hT hAS HLr
          go_wp2_with fail
          refine (CM.out).mono ?_; rintro e w40 ⟨rfl, hb⟩
          have HF := Lib.hid ((HT.out.below hb).under)
          clear hb CM
          go_wp2_with fail
          go_ret
          exact ⟨rfl, HF.out⟩
      · have i2 : decide ((i : Int) < (m : Int)) = false := by simp; omega
        obtain ⟨S, hT, hAS⟩ := HLr.out
        have CM := Lib.hid (tmany_any hT)
        rw [hAS.many] at CM
        have HT := Lib.hid hT
        clear hT hAS HLr
        go_wp2_with fail
        refine (CM.out).mono ?_; rintro e w40 ⟨rfl, hb⟩
        have HF := Lib.hid ((HT.out.below hb).under)
        clear hb CM
        go_wp2_with fail
        go_ret
        exact ⟨rfl, HF.out⟩
    · have i1 : decide ((i : Int) < (n : Int)) = false := by simp; omega
      obtain ⟨S, hT, hAS⟩ := HLr.out
      have CM := Lib.hid (tmany_any hT)
      rw [hAS.many] at CM
      have HT := Lib.hid hT
      clear hT hAS HLr
      go_wp2_with fail
      refine (CM.out).mono ?_; rintro e w40 ⟨rfl, hb⟩
      have HF := Lib.hid ((HT.out.below hb).under)
      clear hb CM
      go_wp2_with fail
      go_ret
      exact ⟨rfl, HF.out⟩

set_option maxRecDepth 100000 in
theorem lifted (os : Os) (started : os.Started) (H : Type) (enc : TypeId × Value → H) :
    ReturnsInHanded {} Try.checked os 6 .any (Rows.sessSeesSpec.pre6 enc Try.prog Try.f6 Rows.sessSeesRow.domain false) (Rows.sessSeesSpec.post enc Try.prog Try.f6 false true false false) := by
  refine returnsInHanded_of_change_sized (C := Try.checked) own started (by kernel_rfl) Try.func6
    (ChangeSpec.witness6 (enc := enc) (C := Try.checked) false ⟨#[], #[.slice none 0 0, .slice none 0 0], []⟩ 8 (by kernel_rfl) (by kernel_rfl) (by kernel_rfl) (by kernel_rfl)) ?_
  intro W base args ds gs before hval0 hW hcnd hsz0 _
  have hval : ∀ (j : Nat) t v, Try.f6.params[j]? = some t → args[j]? = some v → Value.okWide Try.prog W .any base t v := hval0
  have hW' := hW
  obtain ⟨p, q, hA0, hV, rfl, hfz, hnd⟩ := hW
  have hA : DataW.TrodAll enc Try.prog W 0 (fun _ => true) true Try.f6.params.toList args.toList ds p := hA0
  have hsz : (DataW.weightsEach Try.prog (Try.f6.params.toList ++ Rows.sessSeesSpec.plain.varTypes Try.prog) (ds ++ gs)).all (· ≤ reachBytes) = true := hsz0
  rw [Try.params6] at hA hval hsz
  obtain ⟨rfl, rfl⟩ := trodVars_none hV
  have hAk := hA
  have hlt : ∀ x ∈ p, x.block < W.heap.size := fun x hx => by simpa using hW'.lt x (List.mem_append.2 (.inl hx))
  obtain ⟨v0, vs0, d0, ds0, p0, q0, hargs, rfl, rfl, h0, r0⟩ := trodAll_cons hA
  obtain ⟨v1, vs1, d1, ds1, p1, q1, rfl, rfl, rfl, h1, r1⟩ := trodAll_cons r0
  obtain ⟨rfl, rfl, rfl⟩ := trodAll_nil r1
  obtain rfl : args = #[v0, v1] := by cases args; simp_all
  obtain ⟨a0, len0, cap0, rfl⟩ := okWide_slice Try.underlying80 (hval 0 80 v0 rfl rfl)
  obtain ⟨VL0, w0, m0⟩ := open_vectors h0 (Sz.arg hsz (j := 0) rfl rfl)
  obtain ⟨a1, len1, cap1, rfl⟩ := okWide_slice Try.underlying84 (hval 1 84 v1 rfl rfl)
  obtain ⟨BL1, w1, m1⟩ := open_u8s h1 (Sz.arg hsz (j := 1) rfl rfl)
  clear hA0 hval0 hsz0
  refine (walk (.slice a0 len0 cap0) VL0 (.slice a1 len1 cap1) BL1 W w0 m0 w1 m1).mono fun e W' ⟨he, hg⟩ => ?_
  subst he
  exact ⟨_, rfl, _, _, _, [], _, [], hW', (trodAll_cons_mk (shut_bool Try.underlying4 _) trodAll_mk0), trodAll_below laidOut hg _ _ _ _ (by kernel_rfl) hAk hlt, rfl, hg.frame _, fun h => by cases h⟩

theorem over : Rows.sessSeesRow.holds Try.pinned (OpenSpec.ofChange Rows.sessSeesSpec) :=
  OpenClaim.holds_of_wide 6 Try.f6 rfl rfl rfl rfl rfl rfl rfl ⟨rfl, rfl, rfl, rfl, rfl⟩ rfl rfl rfl rfl rfl (by kernel_rfl) Try.func6 (by kernel_rfl)
    (of_decide_eq_true (by kernel_rfl)) (by unfold Func.isWrapper; first | (rw [if_pos (by decide +kernel)]; kernel_rfl) | (rw [if_neg (by decide +kernel)]; exact ⟨rfl, rfl⟩))
    (fun os started H enc _ => lifted os started H enc)

/-- the statement -/
theorem proved : Rows.SessSeesSaid :=
  over
#print axioms proved

end Go.Proofs.Ytkiaehehckmpnaa.sessSees
