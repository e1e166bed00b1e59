/-
  What is written once more of a key stands in the place of what was; of more keys than may be the last are refused (the law SessReplaces). No conditions.
-/
import Derived.Test.YtkiaehehckmpnaaFrame

import Derived.Test.YtkiaehehckmpnaaSessEx

import Derived.Deep.DeepCutAuto

namespace Go.Proofs.Ytkiaehehckmpnaa.sessReplaces

open Go.ChangeShapes Go.WideShapes Go.ChangeAt Go.RowKit

open Go.ChangeMaps (open_string shut_string)

set_option linter.unusedVariables false

set_option linter.unusedSimpArgs false

open Go.Proofs.Ytkiaehehckmpnaa.Vc Go.Proofs.Ytkiaehehckmpnaa.Sp Go.Proofs.Ytkiaehehckmpnaa.Rw Go.Proofs.Ytkiaehehckmpnaa.Se Go.Proofs.Ytkiaehehckmpnaa.It Go.Proofs.Ytkiaehehckmpnaa.Z Go.Proofs.Ytkiaehehckmpnaa.Zm Go.Proofs.Ytkiaehehckmpnaa.I

section

variable {ops : Array Oper} {rest : List Oper} {o : Oper} {a : Act} {w : World} {Q : Exit → Act → World → Prop}

theorem byte_build (hgd : o.guard = none) (x : Operand) (ho : o.op = .buildSlice 84 1 #[(0, x)]) (c : Nat) (hx : a.eval x = .int .u8 (c : Int))
    (h : ∀ w', Arr .u8 w' w.heap.size [c] → Below w.heap.size w w' → w'.heap.size = w.heap.size + 1 → wpList Try.prog ops Q rest (a.put o.dst (.slice (some ⟨w.heap.size, 0, none⟩) 1 1)) w') : wpList Try.prog ops Q (o :: rest) a w := by
  refine wpList_plain hgd fun K hK => ?_
  have e : (Instr.buildSlice 84 1 #[(0, .int .u8 (c : Int))]).run Try.prog w = .ok (.slice (some ⟨w.heap.size, 0, none⟩) 1 1) (w.alloc (.cells #[.int .u8 (c : Int)] 5)) := by go_simp
  unfold Oper.wp execOp
  simp only [ho, Sem.run_bind, List.map_toArray, List.map_cons, List.map_nil, hx, e, Result.andThen_ok, Sem.run_pure]
  exact hK _ _ (h _ (Arr.new .u8 w [c] 5) ((Below.refl _ _).alloc (Nat.le_refl _) _) (by show (w.heap.push _).size = _; simp))
theorem byte_str (hgd : o.guard = none) (x : Operand) (ho : o.op = .convert 84 9 x) (b : Nat) (hx : a.eval x = .slice (some ⟨b, 0, none⟩) 1 1) (c : Nat) (hc : c < 256) (hA : Arr .u8 w b [c])
    (h : wpList Try.prog ops Q rest (a.put o.dst (.string ⟨#[UInt8.ofNat c]⟩)) w) : wpList Try.prog ops Q (o :: rest) a w := by
  refine wpList_plain hgd fun K hK => ?_
  have hcv := run_convert_bytes_back (P := Try.prog) w 84 9 5 ⟨b, 0, none⟩ 1 [UInt8.ofNat c] Try.underlying84 Try.underlying5 Try.underlying9 (fun j hj => by
    match j, hj with
    | 0, _ =>
      show w.cell? _ = some (.int .u8 (((UInt8.ofNat c).toNat : Nat) : Int))
      rw [P.ofNat_toNat_lt c hc]
      have := Arr.cell hA 0 (by simp)
      simpa [Addr.add] using this)
  unfold Oper.wp execOp
  simp only [ho, hx, Sem.run_bind, Result.andThen_ok, Sem.run_pure]
  rw [show (Value.slice (some ⟨b, 0, none⟩) 1 1) = .slice (some ⟨b, 0, none⟩) [UInt8.ofNat c].length 1 from rfl, hcv]
  exact hK _ _ h
end

theorem u8_range {a : Int} (h : (Lit.int .u8 a).wf = true) : 0 ≤ a ∧ a < 256 := by
  have h1 : IntKind.u8.min ≤ a ∧ a ≤ IntKind.u8.max := by simpa [Lit.wf] using h
  have h2 : IntKind.u8.min = 0 := rfl
  have h3 : IntKind.u8.max = 255 := rfl
  omega
def kw (i : Nat) : I.Wt := (⟨#[98]⟩, ⟨#[UInt8.ofNat (97 + i)]⟩, ⟨#[]⟩, false)
def kl (m : Nat) : List I.Wt := (List.range m).map kw
theorem kl_len (m : Nat) : (kl m).length = m := by simp [kl]
theorem kl_at {m j : Nat} (h : j < m) : (kl m).getD j none_ = kw j := by
  unfold kl
  rw [List.getD_eq_getElem?_getD, List.getElem?_map, List.getElem?_range h]; rfl
theorem kw_right (i : Nat) : right (kw i) = true := rfl
theorem kw_key {i j : Nat} (hi : i < 12) (hj : j < 12) (h : key (kw i) = key (kw j)) : i = j := by
  unfold key kw at h
  simp only [Prod.mk.injEq, ByteArray.mk.injEq, true_and] at h
  have h1 : UInt8.ofNat (97 + i) = UInt8.ofNat (97 + j) := by
    have := congrArg Array.toList h
    simpa using this
  have h2 := congrArg UInt8.toNat h1
  rw [P.ofNat_toNat_lt _ (by omega), P.ofNat_toNat_lt _ (by omega)] at h2
  omega
theorem ix_new {m i : Nat} (hm : m ≤ i) (hi : i < 12) : ix (kl m) (key (kw i)) = m := by
  have : ix (kl m) (key (kw i)) = (kl m).length := ix_none (fun x hx => by
    obtain ⟨j, hj, rfl⟩ := List.mem_map.1 hx
    rw [List.mem_range] at hj
    rw [decide_eq_false_iff_not]
    intro e
    have := kw_key (by omega) hi e
    omega)
  rw [this, kl_len]
theorem ix_old {m i : Nat} (hm : m ≤ 8) (hi : i < m) : ix (kl m) (key (kw i)) = i := by
  refine ix_of (by rw [kl_len]; exact hi) (by rw [kl_at hi]; simp) (fun j hj => ?_)
  rw [kl_at (by omega), decide_eq_false_iff_not]
  intro e
  have := kw_key (by omega) (by omega) e
  omega
structure Rp (S : List Ss) (i : Nat) : Prop where
  opn : (gt S 5).opn = true
  wr : (gt S 5).wr = kl (min i 8)
theorem rp0 : Rp (aftBeg S0 5 V.zeros) 0 := ⟨by decide +kernel, by decide +kernel⟩
theorem rp_err0 : errBeg S0 5 V.zeros = 0 := by decide +kernel
theorem k5 : known 5 = true := by decide
theorem rp_round {S : List Ss} {i : Nat} (hS : Z.Good S) (h : Rp S i) (hi : i < 12) : errWr S 5 (kw i) = (if i < 8 then 0 else 4) ∧ Rp (aftWr S 5 (kw i)) (i + 1) := by
  have hx : ix (kl (min i 8)) (key (kw i)) = min i 8 := ix_new (by omega) hi
  have he : errWr S 5 (kw i) = (if i < 8 then 0 else 4) := by
    unfold errWr
    rw [h.opn, kw_right, h.wr, if_pos rfl, if_pos rfl]
    unfold errPut
    rw [hx, kl_len, if_neg (Nat.lt_irrefl _)]
    by_cases h8 : i < 8
    · rw [if_pos h8, if_neg (by omega)]
    · rw [if_neg h8, if_pos (by omega)]
  refine ⟨he, ?_⟩
  unfold aftWr
  rw [he]
  by_cases h8 : i < 8
  · rw [if_pos h8, if_pos rfl]
    refine ⟨?_, ?_⟩
    · rw [gt_st hS.len k5, if_pos rfl]; exact h.opn
    · rw [gt_st hS.len k5, if_pos rfl]
      show putL (gt S 5).wr (kw i) = _
      rw [h.wr]
      unfold putL
      rw [hx, kl_len, if_neg (Nat.lt_irrefl _), Nat.min_eq_left (by omega), Nat.min_eq_left (by omega)]
      unfold kl
      rw [List.range_succ, List.map_append]; rfl
  · rw [if_neg h8, if_neg (by decide)]
    refine ⟨h.opn, ?_⟩
    rw [h.wr]
    congr 1
    omega
theorem rp_last {S : List Ss} {n k : Nat} (hS : Z.Good S) (h : Rp S n) (hk : k < min n 8) (y : I.Wt) (hy : right y = true) (hq : key y = key (kw k)) : errWr S 5 y = 0 ∧ (gt (aftWr S 5 y) 5).wr = (kl (min n 8)).set k y := by
  have hx : ix (kl (min n 8)) (key y) = k := by rw [hq]; exact ix_old (by omega) hk
  have he : errWr S 5 y = 0 := by
    unfold errWr
    rw [h.opn, hy, h.wr, if_pos rfl, if_pos rfl]
    unfold errPut
    rw [hx, kl_len, if_pos hk]
  refine ⟨he, ?_⟩
  unfold aftWr
  rw [if_pos he, gt_st hS.len k5, if_pos rfl]
  show putL (gt S 5).wr y = _
  rw [h.wr]
  unfold putL
  rw [hx, kl_len, if_pos hk]
theorem Tab.push {w0 w w' : World} {b : Nat} {S : List Ss} {R : List Rg} (h : Tab w0 w b S R) (hb : Below w.heap.size w w') (r : Rg) (hr : r.P w') (hn : ∀ k ∈ r.bl, w.heap.size ≤ k ∧ k < w'.heap.size) : Tab w0 w' b S (r :: R) := by
  obtain ⟨Zv, h1, h2, h3⟩ := h.mem
  exact ⟨h.good, h.shut, Zv, h1, h2, h3.push hb r hr hn⟩
set_option maxHeartbeats 32000000 in
set_option maxRecDepth 100000 in
theorem walk (a0 : Int) (a1 : Int) (a2 : ByteArray) (w0 : (Lit.int .u8 a0).wf = true) (w1 : (Lit.int .u8 a1).wf = true) (z2 : a2.size ≤ 140737488351232) (w : World) :
    Calls Try.prog 8 #[.int .u8 a0, .int .u8 a1, .string a2] w fun e w' => e = .returned (.bool true) ∧ Below w.heap.size w w' := by
  obtain ⟨ha, hb⟩ : 0 ≤ a0 ∧ a0 < 256 := u8_range w0
  obtain ⟨hc, hd⟩ : 0 ≤ a1 ∧ a1 < 256 := u8_range w1
  obtain ⟨A, rfl⟩ : ∃ A : Nat, a0 = (A : Int) := ⟨a0.toNat, by omega⟩
  obtain ⟨B, rfl⟩ : ∃ B : Nat, a1 = (B : Int) := ⟨a1.toNat, by omega⟩
  obtain ⟨r, hr⟩ : ∃ r, A % 12 = r := ⟨_, rfl⟩
  have e12 : Hid ((A : Int).tmod 12 = (r : Int) ∧ (A : Int) % 12 = (r : Int)) := ⟨by rw [Int.tmod_eq_emod_of_nonneg (by omega), ← hr]; rfl, by rw [← hr]; rfl⟩
  have hr12 : r < 12 := by omega
  have w8 : ∀ x : Int, 0 ≤ x → x < 256 → IntKind.u8.wrap x = x := fun x h0 h1 => by
    have h2 : x % 256 = x := Int.emod_eq_of_lt h0 h1
    simpa [IntKind.wrap, IntKind.bits, IntKind.signed] using h2
  have W8 := Lib.hid w8
  have ew12 : Hid (IntKind.u8.wrap (r : Int) = (r : Int)) := w8 _ (by omega) (by omega)
  obtain ⟨n, hn⟩ : ∃ n, n = 1 + r := ⟨_, rfl⟩
  have en : Hid (IntKind.i64.wrap (1 + (r : Int)) = (n : Int)) := by show _ = _; rw [IntKind.wrap_i64]; omega
  have er64 : Hid (IntKind.i64.wrap (r : Int) = (r : Int)) := by show _ = _; rw [IntKind.wrap_i64]; omega
  obtain ⟨m, hm⟩ : ∃ m, min n 8 = m := ⟨_, rfl⟩
  have HM := Lib.hid hm
  have hm1 : 1 ≤ m := by omega
  have hm8 : m ≤ 8 := by omega
  obtain ⟨k, hk⟩ : ∃ k, B % m = k := ⟨_, rfl⟩
  have hkm : k < m := by rw [← hk]; exact Nat.mod_lt _ (by omega)
  have HKM := Lib.hid hkm
  have ek : Hid ((B : Int).tmod (m : Int) = (k : Int) ∧ (B : Int) % (m : Int) = (k : Int)) := ⟨by rw [Int.tmod_eq_emod_of_nonneg (by omega), ← hk]; rfl, by rw [← hk]; rfl⟩
  have ekw : Hid (IntKind.i64.wrap (k : Int) = (k : Int)) := by show _ = _; rw [IntKind.wrap_i64]; omega
  have eB : Hid (IntKind.i64.wrap (B : Int) = (B : Int)) := by show _ = _; rw [IntKind.wrap_i64]; omega
  have hmin : Hid ((if (8 : Int) < (n : Int) then (8 : Int) else (n : Int)) = (m : Int)) := by show _ = _; split <;> omega
  have hmin2 : Hid ((if n < 8 then (n : Int) else 8) = (m : Int)) := by show _ = _; split <;> omega
  have HM0 : Hid ((m : Int) ≠ 0) := by show (m : Int) ≠ 0; omega
  have HN12 : Hid (n ≤ 12) := by show _ ≤ _; omega
  obtain ⟨c, hcc⟩ : ∃ c, c = 97 + k := ⟨_, rfl⟩
  have hc256 : c < 256 := by omega
  have ec : Hid (IntKind.i64.wrap (97 + (k : Int)) = (c : Int)) := by show _ = _; rw [IntKind.wrap_i64]; omega
  have ec8 : Hid (IntKind.u8.wrap (c : Int) = (c : Int)) := w8 _ (by omega) (by omega)
  have uc : Hid (((UInt8.ofNat c).toNat : Int) = (c : Int)) := by show _ = _; rw [P.ofNat_toNat_lt c hc256]
  obtain ⟨sk, HSK⟩ : ∃ z, Hid ((⟨#[UInt8.ofNat c]⟩ : ByteArray) = z) := ⟨_, rfl⟩
  obtain ⟨mn, hmn⟩ : ∃ q, min a2.size 32 = q := ⟨_, rfl⟩
  have imn : mn ≤ a2.size := by omega
  have HMN : Hid ((if (32 : Int) < (a2.size : Int) then (32 : Int) else (a2.size : Int)) = (mn : Int)) := by show _ = _; split <;> omega
  obtain ⟨sv, HSV⟩ : ∃ z, Hid (a2.extract 0 mn = z) := ⟨_, rfl⟩
  have hsv : sv.size ≤ 32 := by
    rw [← HSV.out, ByteArray.size_extract]
    omega
  obtain ⟨y, HY⟩ : ∃ y : I.Wt, Hid (((⟨#[98]⟩ : ByteArray), sk, sv, false) = y) := ⟨_, rfl⟩
  have HYR : Hid (right y = true) := by
    show _ = _
    rw [← HY.out, ← HSK.out]
    have h1 : (⟨#[UInt8.ofNat c]⟩ : ByteArray).size = 1 := rfl
    have h2 : (⟨#[98]⟩ : ByteArray).size = 1 := rfl
    unfold right
    simp [h1, h2, hsv]
  have HYK : Hid (key y = key (kw k)) := by
    show _ = _
    rw [← HY.out, ← HSK.out, hcc]; rfl
  clear w0 w1 hr hr12 w8 hn hm hk hkm hcc hmn hsv ha hb hc hd hm1 hm8
  go_enter Try.func8, Try.ntmps8
  go_wp2_with fail
  refine (examples_any _).mono ?_; rintro e u2 ⟨rfl, hb⟩
  have HB2 := Lib.hid hb
  have CN := Lib.hid (newtab_any ((Sep.start w).below hb))
  clear hb
  go_wp2_with fail
  refine (CN.out).mono ?_; rintro e w1 ⟨b, rfl, ht⟩
  have C := Lib.hid (tbegin_any ht 5 V.zeros V.zeros_ok)
  rw [rp_err0] at C
  clear ht CN
  go_wp2_with fail
  refine (C.out).mono ?_; rintro e w2 ⟨rfl, ht⟩
  have HL0 : Hid (∃ S, Tab w w2 b S [] ∧ Rp S 0) := ⟨_, ht, rp0⟩
  clear ht C HB2
  have e1 := e12.out.1
  have e2 := e12.out.2
  have e3 := ew12.out
  have e4 := en.out
  have e5 := er64.out
  go_wp2_with fail
  clear e1 e2 e3 e4 e5
  go_loopw [10, 11] (fun x y wr => ∃ i : Nat, i ≤ n ∧ x = .int .i64 i ∧ Hid (∃ S, Tab w wr b S [] ∧ Rp S i)) (fun x _ _ => n - (intOf x).toNat)
  case atStart => exact ⟨0, by omega, rfl, HL0⟩
  case round =>
    obtain ⟨i, hi, rfl, HLr⟩ := hrel
    clear HL0
    by_cases hlt : i < n
    · have ilt : (i : Int) < (n : Int) := by omega
      have hi12 : i < 12 := by have := HN12.out; omega
      obtain ⟨S, hT, hM⟩ := HLr.out
      obtain ⟨m1, m2⟩ := rp_round hT.good hM hi12
      obtain ⟨d, hd⟩ : ∃ d, d = 97 + i := ⟨_, rfl⟩
      have hd256 : d < 256 := by omega
      have e97 : IntKind.i64.wrap (97 + (i : Int)) = (d : Int) := by rw [IntKind.wrap_i64]; omega
      have e8 : IntKind.u8.wrap (d : Int) = (d : Int) := W8.out _ (by omega) (by omega)
      have HT := Lib.hid hT
      have M1 := Lib.hid m1
      have M2 := Lib.hid m2
      have HKW : Hid (kw i = (⟨#[98]⟩, ⟨#[UInt8.ofNat d]⟩, ⟨#[]⟩, false)) := by show _ = _; rw [hd]; rfl
      clear hT hM m1 m2 HLr hd
      go_wp2_with (first | refine byte_build rfl _ rfl d rfl ?_)
      intro w3 A3 B3 Z3
      have HA3 := Lib.hid A3
      have H3 := Lib.hid (HT.out.below B3)
      clear A3 B3 Z3 HT
      have CW := Lib.hid (twrite_any H3.out 5 (kw i))
      rw [M1.out, HKW.out] at CW
      change Hid (Calls Try.prog 19 #[.pointer (some ⟨b, 0, none⟩), .int .i64 5, .agg #[.string ⟨#[98]⟩, .string ⟨#[UInt8.ofNat d]⟩, .string ⟨#[]⟩, .bool false]] w3 fun e w' => e = .returned (.int .i64 (if i < 8 then 0 else 4)) ∧ Tab w w' b (aftWr S 5 (⟨#[98]⟩, ⟨#[UInt8.ofNat d]⟩, ⟨#[]⟩, false)) []) at CW
      rw [← HKW.out] at CW
      by_cases h8 : i < 8
      · rw [if_pos h8] at CW
        have i8 : decide ((i : Int) < 8) = true := by simp; omega
        go_wp2_with (first | refine byte_str rfl _ rfl _ rfl d hd256 HA3.out ?_)
        refine (CW.out).mono ?_; rintro e w4 ⟨rfl, ht⟩
        have HN : Hid (∃ S, Tab w w4 b S [] ∧ Rp S (i + 1)) := ⟨_, ht, M2.out⟩
        have j8 : ¬ (8 : Int) ≤ (i : Int) := by omega
        have k8 : decide ((8 : Int) ≤ (i : Int)) = false := by simp; omega
        clear ht CW H3 HA3
        go_wp2_with fail
        go_roundw
        case rel => exact ⟨i + 1, by omega, by go_num, HN⟩
        case measure => simp [intOf]; omega
      · rw [if_neg h8] at CW
        have i8 : decide ((i : Int) < 8) = false := by simp; omega
        go_wp2_with (first | refine byte_str rfl _ rfl _ rfl d hd256 HA3.out ?_)
        refine (CW.out).mono ?_; rintro e w4 ⟨rfl, ht⟩
        have HN : Hid (∃ S, Tab w w4 b S [] ∧ Rp S (i + 1)) := ⟨_, ht, M2.out⟩
        have k8 : decide ((8 : Int) ≤ (i : Int)) = true := by simp; omega
        clear ht CW H3 HA3
        go_wp2_with fail
        go_roundw
        case rel => exact ⟨i + 1, by omega, by go_num, HN⟩
        case measure => simp [intOf]; omega
    · obtain rfl : i = n := by omega
      obtain ⟨S, hT, hM⟩ := HLr.out
      obtain ⟨m1, m2⟩ := rp_last (y := y) hT.good hM (by rw [HM.out]; exact HKM.out) HYR.out HYK.out
      rw [HM.out] at m2
      have M1 := Lib.hid m1
      have M2 := Lib.hid m2
      have HT := Lib.hid hT
      clear hT hM HLr m1 m2
      have e1 := ek.out.1
      have e2 := ek.out.2
      have e3 := ekw.out
      have e4 := eB.out
      have e5 := hmin.out
      have e6 := HM0.out
      have e7 := hmin2.out
      go_wp2_with fail
      clear e1 e2 e3 e4 e5 e6 e7
      refine region_relt 12 [Spc.eq (.int .i64 (k : Int)), Spc.eq (.int .i64 (c : Int)), Spc.eq (.int .u8 (c : Int)), Spc.bytes [UInt8.ofNat c], Spc.eq (.string sk), Spc.eq (.string a2), Spc.eq (.string a2), Spc.eq (.int .i64 (a2.size : Int)), Spc.eq (.int .i64 (mn : Int)), Spc.eq (.string sv), Spc.eq (.agg #[.string ⟨#[98]⟩, .string sk, .string sv, .bool false]), Spc.blk wr.heap.size (wc I.none_)] Try.mixed (by kernel_rfl) ?_
      refine r_value rfl (fun u hu hn => by go_simp) (fun K hK => ?_)
      go_simp
      refine hK _ ?_
      clear hK K
      refine r_value rfl (fun u hu hn => by have e1 := ec.out; go_simp) (fun K hK => ?_)
      go_simp
      refine hK _ ?_
      clear hK K
      refine r_value rfl (fun u hu hn => by have e1 := ec8.out; go_simp) (fun K hK => ?_)
      go_simp
      refine hK _ ?_
      clear hK K
      refine r_row rfl 5 (fun u hu => by have e4 := uc.out; have e5 : ks .u8 (Mc.nb [UInt8.ofNat c]) = [Value.int .u8 (c : Int)] := (by show [Value.int .u8 (((UInt8.ofNat c).toNat : Nat) : Int)] = _; rw [e4]); rw [e5]; go_simp) (fun v hv K hK => ?_)
      obtain ⟨b2, rfl⟩ := hv
      go_simp
      refine hK _ ?_
      clear hK K
      refine r_str rfl _ rfl 3 0 rfl rfl [UInt8.ofNat c] _ rfl rfl HSK.out (fun K hK => ?_)
      go_simp
      refine hK _ ?_
      clear hK K
      refine r_value rfl (fun u hu hn => by go_simp) (fun K hK => ?_)
      go_simp
      refine hK _ ?_
      clear hK K
      refine r_value rfl (fun u hu hn => by go_simp) (fun K hK => ?_)
      go_simp
      refine hK _ ?_
      clear hK K
      refine r_value rfl (fun u hu hn => by go_simp) (fun K hK => ?_)
      go_simp
      refine hK _ ?_
      clear hK K
      refine r_value rfl (fun u hu hn => by have e4 := HMN.out; go_simp) (fun K hK => ?_)
      go_simp
      refine hK _ ?_
      clear hK K
      refine r_value rfl (fun u hu hn => by have e4 := HSV.out; go_simp) (fun K hK => ?_)
      go_simp
      refine hK _ ?_
      clear hK K
      refine r_value rfl (fun u hu hn => by go_simp) (fun K hK => ?_)
      go_simp
      refine hK _ ?_
      clear hK K
      refine r_new rfl 41 rfl It.Try.info_iw2 (fun u hu => hu.size) (fun v hv K hK => ?_)
      obtain ⟨b3, rfl⟩ := hv
      go_simp
      refine hK _ ?_
      clear hK K
      refine r_nil ?_
      intro u hu hF
      obtain ⟨b', eb, hB, hlt', hblk⟩ := hF 0 _ rfl
      obtain rfl : b3 = b' := by injection eb with h; injection h with h; injection h
      have HU := Lib.hid hu
      have HBASE : Hid (wr.heap.size ≤ b3) := hB
      have HLT := Lib.hid hlt'
      clear eb hF hB hu hlt'
      refine blk_store rfl 41 _ _ rfl b3 rfl [.string ⟨#[98]⟩, .string sk, .string sv, .bool false] rfl _ hblk rfl It.Try.size_w rfl ?_
      intro u3 A3 U3
      have HA3 : Hid (Blk u3 b3 (wc y)) := by show Blk _ _ _; rw [← HY.out]; exact A3
      have HT3 : Hid (Tab w u3 b S [rB b3 (wc y)]) := Tab.push HT.out (HU.out.trans (U3.below HBASE.out)) (rB b3 (wc y)) HA3.out (fun k hk => by simp only [rB, List.mem_singleton] at hk; subst hk; exact ⟨HBASE.out, by rw [U3.size]; exact HLT.out⟩)
      have CW := Lib.hid (twrite_any HT3.out 5 y)
      rw [M1.out] at CW
      clear A3 U3 hblk HT HBASE HU HLT
      go_wp2_with (first | refine blk_load rfl 41 _ rfl b3 rfl (wc y) (HT3.out.sep.blk 0 rfl) _ Try.underlying41 rfl It.Try.size_w ?_)
      refine (CW.out).mono ?_; rintro e w4 ⟨rfl, ht⟩
      have H4 := Lib.hid ht
      have CS := Lib.hid (twrites_any H4.out 5)
      rw [M2.out] at CS
      clear ht CW HT3 HA3
      go_wp2_with fail
      refine (CS.out).mono ?_; rintro e w5 ⟨v', rfl, hor, hb⟩
      have H5 := Lib.hid (H4.out.below hb)
      have hlen : ((kl m).set k y).length = m := by rw [List.length_set, kl_len]
      have HLEN := Lib.hid hlen
      obtain ⟨g, cap, cur, ev, _, _⟩ := OR.some hor (by rw [hlen]; have := HKM.out; omega)
      rw [hlen] at ev
      subst ev
      obtain ⟨g', off', cap', hv, hg, hrow⟩ := IsR.at hor.is k (by rw [hlen]; exact HKM.out)
      rw [hlen] at hv
      simp only [Value.slice.injEq, Option.some.injEq, Addr.mk.injEq, and_true, true_and] at hv
      obtain ⟨⟨rfl, rfl⟩, rfl⟩ := hv
      have hget : ((kl m).set k y).getD k wk.none_ = y := by
        rw [List.getD_eq_getElem?_getD, List.getElem?_set_self (by rw [kl_len]; exact HKM.out)]; rfl
      rw [hget] at hrow
      have HRW : Hid (∀ u, Below w5.heap.size w5 u → u.rangeAt g (4 * k) (wc y)) := fun u hu j z hz => by
        rw [hu.cell (p := ⟨g, 4 * k + j, none⟩) hg]
        have h9 := hrow j z hz
        rw [Nat.zero_add] at h9
        exact h9
      have HBX : Hid (∀ u, Below w5.heap.size w5 u → Blk u b3 (wc y)) := fun u hu => (H5.out.below hu).sep.blk 0 rfl
      have HIX : Hid (∀ w, (Instr.indexAt 58 (.slice (some ⟨g, 0, none⟩) m cap) (.int .i64 (k : Int))).run Try.prog w = .ok (.pointer (some ⟨g, 4 * k, none⟩)) w) := fun w => by
        have h9 := index_iw g 0 m cap k HKM.out w
        rwa [Nat.zero_add] at h9
      have HGW : Hid (∀ u, (binOp .eql 41 (WV y) (WV y)).run Try.prog u = .ok (.bool true) u) := fun u => by have h9 := eql_iw y y u; rw [h9]; simp
      clear hor hb hlen hrow hget hg CS
      go_wp2_with fail
      refine region_w Try.mixed (by kernel_rfl) ?_
      refine w_value rfl (.bool true) (fun u hu => by go_simp) (fun K hK => ?_)
      go_simp
      refine hK _ ?_
      clear hK K
      refine w_value rfl (.bool true) (fun u hu => by go_simp) (fun K hK => ?_)
      go_simp
      refine hK _ ?_
      clear hK K
      refine wg_value (by rfl) (.int .i64 0) (fun u hu => by go_simp) (fun K hK => ?_)
      go_simp
      refine hK _ ?_
      clear hK K
      refine wg_value (by rfl) (.bool true) (fun u hu => by go_simp) (fun K hK => ?_)
      go_simp
      refine hK _ ?_
      clear hK K
      refine w_value rfl (.bool true) (fun u hu => by go_simp) (fun K hK => ?_)
      go_simp
      refine hK _ ?_
      clear hK K
      refine w_value rfl (.bool true) (fun u hu => by go_simp) (fun K hK => ?_)
      go_simp
      refine hK _ ?_
      clear hK K
      refine wg_value (by rfl) (.slice (some ⟨g, 0, none⟩) m cap) (fun u hu => by go_simp) (fun K hK => ?_)
      go_simp
      refine hK _ ?_
      clear hK K
      refine wg_value (by rfl) (.int .i64 (m : Int)) (fun u hu => by go_simp) (fun K hK => ?_)
      go_simp
      refine hK _ ?_
      clear hK K
      refine wg_value (by rfl) (.int .i64 (i : Int)) (fun u hu => by go_simp) (fun K hK => ?_)
      go_simp
      refine hK _ ?_
      clear hK K
      refine wg_value (by rfl) (.int .i64 (m : Int)) (fun u hu => by have e4 := hmin.out; have e5 := hmin2.out; go_simp) (fun K hK => ?_)
      go_simp
      refine hK _ ?_
      clear hK K
      refine wg_value (by rfl) (.bool true) (fun u hu => by go_simp) (fun K hK => ?_)
      go_simp
      refine hK _ ?_
      clear hK K
      refine w_value rfl (.bool true) (fun u hu => by go_simp) (fun K hK => ?_)
      go_simp
      refine hK _ ?_
      clear hK K
      refine w_value rfl (.bool true) (fun u hu => by go_simp) (fun K hK => ?_)
      go_simp
      refine hK _ ?_
      clear hK K
      refine wg_value (by rfl) (.slice (some ⟨g, 0, none⟩) m cap) (fun u hu => by go_simp) (fun K hK => ?_)
      go_simp
      refine hK _ ?_
      clear hK K
      refine wg_value (by rfl) (.int .i64 (k : Int)) (fun u hu => by go_simp) (fun K hK => ?_)
      go_simp
      refine hK _ ?_
      clear hK K
      refine wg_value (by rfl) (.pointer (some ⟨g, 4 * k, none⟩)) (fun u hu => by have h9 := HIX.out u; go_simp) (fun K hK => ?_)
      go_simp
      refine hK _ ?_
      clear hK K
      refine wg_wv_load (by rfl) 41 _ rfl g (4 * k) rfl (y) (by exact HRW.out) _ Try.underlying41 rfl It.Try.size_w (fun K hK => ?_)
      go_simp
      refine hK _ ?_
      clear hK K
      refine wg_blk_load (by rfl) 41 _ rfl b3 rfl (wc y) (by exact HBX.out) _ Try.underlying41 rfl It.Try.size_w (fun K hK => ?_)
      go_simp
      refine hK _ ?_
      clear hK K
      refine wg_value (by rfl) (.bool true) (fun u _ => run_eql u .eql 41 41 _ _ (WV y) (WV y) _ rfl rfl rfl (guard_iw .eql _ _ y y u) (HGW.out u)) (fun K hK => ?_)
      go_simp
      refine hK _ ?_
      clear hK K
      refine w_value rfl (.bool true) (fun u hu => by go_simp) (fun K hK => ?_)
      go_simp
      refine hK _ ?_
      clear hK K
      refine w_value rfl (.bool true) (fun u hu => by go_simp) (fun K hK => ?_)
      go_simp
      refine hK _ ?_
      clear hK K
      refine w_nil ?_
      intro u hu
      have HF := Lib.hid ((H5.out.below hu).under)
      go_wp2_with fail
      go_ret
      exact ⟨rfl, HF.out⟩

set_option maxRecDepth 100000 in
theorem lifted (os : Os) (started : os.Started) (H : Type) (enc : TypeId × Value → H) :
    ReturnsInHanded {} Try.checked os 8 .any (Rows.sessReplacesSpec.pre6 enc Try.prog Try.f8 Rows.sessReplacesRow.domain false) (Rows.sessReplacesSpec.post enc Try.prog Try.f8 false true false false) := by
  refine returnsInHanded_of_change_sized (C := Try.checked) own started (by kernel_rfl) Try.func8
    (ChangeSpec.witness6 (enc := enc) (C := Try.checked) false ⟨#[], #[.int .u8 0, .int .u8 0, .string ByteArray.empty], []⟩ 8 (by kernel_rfl) (by kernel_rfl) (by kernel_rfl) (by kernel_rfl)) ?_
  intro W base args ds gs before hval0 hW hcnd hsz0 _
  have hval : ∀ (j : Nat) t v, Try.f8.params[j]? = some t → args[j]? = some v → Value.okWide Try.prog W .any base t v := hval0
  have hW' := hW
  obtain ⟨p, q, hA0, hV, rfl, hfz, hnd⟩ := hW
  have hA : DataW.TrodAll enc Try.prog W 0 (fun _ => true) true Try.f8.params.toList args.toList ds p := hA0
  have hsz : (DataW.weightsEach Try.prog (Try.f8.params.toList ++ Rows.sessReplacesSpec.plain.varTypes Try.prog) (ds ++ gs)).all (· ≤ reachBytes) = true := hsz0
  rw [Try.params8] at hA hval hsz
  obtain ⟨rfl, rfl⟩ := trodVars_none hV
  have hAk := hA
  have hlt : ∀ x ∈ p, x.block < W.heap.size := fun x hx => by simpa using hW'.lt x (List.mem_append.2 (.inl hx))
  obtain ⟨v0, vs0, d0, ds0, p0, q0, hargs, rfl, rfl, h0, r0⟩ := trodAll_cons hA
  obtain ⟨v1, vs1, d1, ds1, p1, q1, rfl, rfl, rfl, h1, r1⟩ := trodAll_cons r0
  obtain ⟨v2, vs2, d2, ds2, p2, q2, rfl, rfl, rfl, h2, r2⟩ := trodAll_cons r1
  obtain ⟨rfl, rfl, rfl⟩ := trodAll_nil r2
  obtain rfl : args = #[v0, v1, v2] := by cases args; simp_all
  obtain ⟨a0, rfl, rfl, rfl, w0⟩ := open_int Try.underlying5 (hval 0 5 v0 rfl rfl) h0
  obtain ⟨a1, rfl, rfl, rfl, w1⟩ := open_int Try.underlying5 (hval 1 5 v1 rfl rfl) h1
  obtain ⟨a2, rfl, rfl, rfl, w2⟩ := open_string Try.underlying9 (hval 2 9 v2 rfl rfl) h2
  have z2 := sized_string hsz (j := 2) (t := 9) rfl rfl
  clear hA0 hval0 hsz0
  refine (walk a0 a1 a2 w0 w1 (by rw [Array.length_toList] at z2; exact z2) W).mono fun e W' ⟨he, hg⟩ => ?_
  subst he
  exact ⟨_, rfl, _, _, _, [], _, [], hW', (trodAll_cons_mk (shut_bool Try.underlying4 _) trodAll_mk0), trodAll_below laidOut hg _ _ _ _ (by kernel_rfl) hAk hlt, rfl, hg.frame _, fun h => by cases h⟩

theorem over : Rows.sessReplacesRow.holds Try.pinned (OpenSpec.ofChange Rows.sessReplacesSpec) :=
  OpenClaim.holds_of_wide 8 Try.f8 rfl rfl rfl rfl rfl rfl rfl ⟨rfl, rfl, rfl, rfl, rfl⟩ rfl rfl rfl rfl rfl (by kernel_rfl) Try.func8 (by kernel_rfl)
    (of_decide_eq_true (by kernel_rfl)) (by unfold Func.isWrapper; first | (rw [if_pos (by decide +kernel)]; kernel_rfl) | (rw [if_neg (by decide +kernel)]; exact ⟨rfl, rfl⟩))
    (fun os started H enc _ => lifted os started H enc)

/-- the statement -/
theorem proved : Rows.SessReplacesSaid :=
  over
#print axioms proved

end Go.Proofs.Ytkiaehehckmpnaa.sessReplaces
