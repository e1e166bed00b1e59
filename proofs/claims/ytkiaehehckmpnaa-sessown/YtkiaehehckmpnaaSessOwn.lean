/-
  What one session writes no other one has; what it wrote last of a key it has, once; ended, it has nothing (the law SessOwn). No conditions.
-/
import Derived.Test.YtkiaehehckmpnaaFrame

import Derived.Test.YtkiaehehckmpnaaSessEx

import Derived.Deep.DeepCutAuto

import Derived.Test.YtkiaehehckmpnaaFramePuts

import Derived.Test.YtkiaehehckmpnaaFrameVecN

namespace Go.Proofs.Ytkiaehehckmpnaa.sessOwn

open Go.ChangeShapes Go.WideShapes Go.ChangeAt Go.RowKit

open Go.ChangeMaps (open_string shut_string)

set_option linter.unusedVariables false

set_option linter.unusedSimpArgs false

open Go.Proofs.Ytkiaehehckmpnaa.Vc Go.Proofs.Ytkiaehehckmpnaa.Sp Go.Proofs.Ytkiaehehckmpnaa.Rw Go.Proofs.Ytkiaehehckmpnaa.Se Go.Proofs.Ytkiaehehckmpnaa.It Go.Proofs.Ytkiaehehckmpnaa.Z Go.Proofs.Ytkiaehehckmpnaa.Zm Go.Proofs.Ytkiaehehckmpnaa.I

theorem u8_range {a : Int} (h : (Lit.int .u8 a).wf = true) : 0 ≤ a ∧ a < 256 := by
  have h1 : IntKind.u8.min ≤ a ∧ a ≤ IntKind.u8.max := by simpa [Lit.wf] using h
  have h2 : IntKind.u8.min = 0 := rfl
  have h3 : IntKind.u8.max = 255 := rfl
  omega
/-- each key stands once -/
def Dk (L : List Wt) : Prop := ∀ i, i < L.length → ix L (key (L.getD i none_)) = i
theorem ix_le' {L : List Wt} {k : ByteArray × ByteArray} {i : Nat} (hi : i < L.length) (h : key (L.getD i none_) = k) : ix L k ≤ i := by
  rcases Nat.lt_or_ge i (ix L k) with h1 | h1
  · exact absurd h (ix_before h1)
  · exact h1
theorem put_key {L : List Wt} {x : Wt} (h : ix L (key x) < L.length) (i : Nat) : key ((L.set (ix L (key x)) x).getD i none_) = key (L.getD i none_) := by
  rw [List.getD_eq_getElem?_getD, List.getD_eq_getElem?_getD, List.getElem?_set]
  split
  · next e =>
    subst e
    have := ix_key h
    rw [List.getD_eq_getElem?_getD] at this
    rw [this]; rfl
  · rfl
theorem put_ix {L : List Wt} {x : Wt} (h : ix L (key x) < L.length) {k : ByteArray × ByteArray} (hk : ix L k < L.length) : ix (L.set (ix L (key x)) x) k = ix L k := by
  refine ix_of (by rw [List.length_set]; exact hk) (by rw [put_key h, ix_key hk]; simp) (fun j hj => ?_)
  rw [put_key h, decide_eq_false_iff_not]
  exact ix_before hj
theorem app_get {L : List Wt} {x : Wt} {i : Nat} (h : i < L.length) : (L ++ [x]).getD i none_ = L.getD i none_ := by
  rw [List.getD_eq_getElem?_getD, List.getD_eq_getElem?_getD, List.getElem?_append_left h]
theorem app_last {L : List Wt} {x : Wt} : (L ++ [x]).getD L.length none_ = x := by
  rw [List.getD_eq_getElem?_getD, List.getElem?_append_right (Nat.le_refl _), Nat.sub_self]; rfl
theorem app_new {L : List Wt} {x : Wt} (h : ¬ ix L (key x) < L.length) : ix (L ++ [x]) (key x) = L.length := by
  have hl := ix_le L (key x)
  refine ix_of (by simp) (by rw [app_last]; simp) (fun j hj => ?_)
  rw [app_get hj, decide_eq_false_iff_not]
  exact ix_before (by omega)
theorem app_old {L : List Wt} {x : Wt} {k : ByteArray × ByteArray} (h : ix L k < L.length) : ix (L ++ [x]) k = ix L k := by
  refine ix_of (by simp; omega) (by rw [app_get h, ix_key h]; simp) (fun j hj => ?_)
  rw [app_get (by omega), decide_eq_false_iff_not]
  exact ix_before hj
theorem dk_put {L : List Wt} (h : Dk L) (x : Wt) : Dk (putL L x) := by
  intro i hi
  unfold putL at hi ⊢
  by_cases h1 : ix L (key x) < L.length
  · rw [if_pos h1] at hi ⊢
    rw [List.length_set] at hi
    rw [put_key h1, put_ix h1 (by rw [h i hi]; exact hi), h i hi]
  · rw [if_neg h1] at hi ⊢
    rw [List.length_append] at hi
    by_cases h2 : i < L.length
    · rw [app_get h2, app_old (by rw [h i h2]; exact h2), h i h2]
    · obtain rfl : i = L.length := by simp at hi; omega
      rw [app_last]
      exact app_new h1
theorem put_own (L : List Wt) (x : Wt) : ownB (putL L x) (key x) = true ∧ ownV (putL L x) (key x) = x := by
  unfold ownB ownV putL
  by_cases h1 : ix L (key x) < L.length
  · rw [if_pos h1, put_ix h1 h1, List.length_set]
    refine ⟨by simp [h1], ?_⟩
    rw [List.getD_eq_getElem?_getD, List.getElem?_set_self h1]; rfl
  · rw [if_neg h1, app_new h1]
    exact ⟨by simp, app_last⟩
structure Iv (S : List Ss) (X Y : Int) : Prop where
  ox : (gt S X).opn = true
  dk : Dk (gt S X).wr
  other : X ≠ Y → (gt S Y).wr = []
theorem iv_write {S : List Ss} {X Y : Int} (hS : Z.Good S) (h : Iv S X Y) (hX : known X = true) (z : Wt) :
    (errWr S X z = 0 ∧ ownB (gt (aftWr S X z) X).wr (key z) = true ∧ ownV (gt (aftWr S X z) X).wr (key z) = z ∧ Iv (aftWr S X z) X Y) ∨ (errWr S X z = 1 ∧ right z = false ∧ aftWr S X z = S) ∨ (errWr S X z = 4 ∧ right z = true ∧ aftWr S X z = S) := by
  by_cases h0 : errWr S X z = 0
  · have e : aftWr S X z = st S X (putS (gt S X) z) := by unfold aftWr; rw [if_pos h0]
    have g : gt (st S X (putS (gt S X) z)) X = putS (gt S X) z := by rw [gt_st hS.len hX]; exact if_pos rfl
    rw [e]
    refine .inl ⟨h0, ?_, ?_, ⟨?_, ?_, fun hne => ?_⟩⟩
    · rw [g]; exact (put_own _ _).1
    · rw [g]; exact (put_own _ _).2
    · rw [g]; exact h.ox
    · rw [g]; exact dk_put h.dk z
    · rw [gt_st hS.len hX, if_neg (fun e => hne e.symm)]; exact h.other hne
  · have e : aftWr S X z = S := by unfold aftWr; rw [if_neg h0]
    unfold errWr at h0 ⊢
    rw [h.ox, if_pos rfl] at h0 ⊢
    cases hr : right z with
    | false => exact .inr (.inl ⟨by simp, rfl, e⟩)
    | true =>
      rw [hr, if_pos rfl] at h0
      refine .inr (.inr ⟨?_, rfl, e⟩)
      rw [if_pos rfl]
      unfold errPut at h0 ⊢
      split
      · next h1 => rw [if_pos h1] at h0; exact absurd rfl h0
      · next h1 =>
        rw [if_neg h1] at h0
        split
        · rfl
        · next h2 => rw [if_neg h2] at h0; exact absurd rfl h0
theorem isr_at4 {w : World} {g n cap : Nat} {L : List Wt} (h : IsR wk w (.slice (some ⟨g, 0, none⟩) n cap) L) (i : Nat) (hi : i < L.length) : g < w.heap.size ∧ w.rangeAt g (4 * i) (wc (L.getD i none_)) := by
  obtain ⟨g', off', cap', hv, hg, hrow⟩ := IsR.at h i hi
  simp only [Value.slice.injEq, Option.some.injEq, Addr.mk.injEq, and_true] at hv
  obtain ⟨⟨rfl, rfl⟩, -, rfl⟩ := hv
  refine ⟨hg, fun j v hv => ?_⟩
  have := hrow j v hv
  rwa [Nat.zero_add] at this
theorem or_first {t : TypeId} {w : World} {base : Nat} {v : Value} {L : List Wt} (h : OR wk t w base v L) : ∃ sa cap, v = .slice sa L.length cap ∧ (0 < L.length → ∃ g, sa = some ⟨g, 0, none⟩) := by
  rcases h.row with ⟨e, e2⟩ | ⟨g, cap, cur, e, _⟩
  · exact ⟨none, 0, by rw [e, e2]; rfl, fun h => by rw [e2] at h; simp at h⟩
  · exact ⟨_, cap, e, fun _ => ⟨g, rfl⟩⟩
theorem mid_loadg {P : Program} {ops : Array Oper} {rest : List Oper} {o : Oper} {a : Act} {w : World} {Q : Exit → Act → World → Prop} (hw : Region.wanted o (yielded ops a.tmps) = true) (t : TypeId) (x : Operand) (ho : o.op = .load t x) (b p : Nat) (hx : a.eval x = .pointer (some ⟨b, p, none⟩)) (vs : List Value) (hb : w.rangeAt b p vs)
    (d : TypeDesc) (hu : P.underlying t = some d) (hd : d.isRow = true) (hi : (P.info? t).map (·.size) = some vs.length)
    (h : wpList P ops Q rest (a.put o.dst (.agg vs.toArray)) w) : wpList P ops Q (o :: rest) a w := by
  refine val_stepg hw (.agg vs.toArray) ?_ h
  have hl := run_loadAt_mid w b p t vs d hb hu hd hi
  unfold execOp
  simp only [ho, hx, Sem.run_bind, hl, Result.andThen_ok, Sem.run_pure]
set_option maxHeartbeats 64000000 in
set_option maxRecDepth 100000 in
theorem walk (a0 : Int) (a1 : Int) (dv2 : Value) (DL2 : List I.Pt) (a3 : List Nat) (o3 : Bool) (w0 : (Lit.int .u8 a0).wf = true) (w1 : (Lit.int .u8 a1).wf = true) (w3 : V.Ok a3) (w : World) (w2 : It.IsPs w dv2 DL2) (m2 : ∀ x ∈ DL2, I.POk x) :
    Calls Try.prog 4 #[.int .u8 a0, .int .u8 a1, dv2, VV a3 o3] w fun e w' => e = .returned (.bool true) ∧ Below w.heap.size w w' := by
  obtain ⟨ha, hb⟩ := u8_range w0
  obtain ⟨hc, hd⟩ := u8_range w1
  obtain ⟨A, rfl⟩ : ∃ A : Nat, a0 = (A : Int) := ⟨a0.toNat, by omega⟩
  obtain ⟨B, rfl⟩ : ∃ B : Nat, a1 = (B : Int) := ⟨a1.toNat, by omega⟩
  have w8 : ∀ x : Int, 0 ≤ x → x < 256 → IntKind.u8.wrap x = x := fun x h0 h1 => by
    have h2 : x % 256 = x := Int.emod_eq_of_lt h0 h1
    simpa [IntKind.wrap, IntKind.bits, IntKind.signed] using h2
  obtain ⟨r, hr⟩ : ∃ r, A % 8 = r := ⟨_, rfl⟩
  obtain ⟨r2, hr2⟩ : ∃ r, B % 8 = r := ⟨_, rfl⟩
  have EA : Hid (((A : Int).tmod 8 = (r : Int) ∧ (A : Int) % 8 = (r : Int)) ∧ IntKind.u8.wrap (r : Int) = (r : Int) ∧ IntKind.i64.wrap (r : Int) = (r : Int)) := ⟨⟨by rw [Int.tmod_eq_emod_of_nonneg (by omega), ← hr]; rfl, by rw [← hr]; rfl⟩, w8 _ (by omega) (by omega), by rw [IntKind.wrap_i64]; omega⟩
  have EB : Hid (((B : Int).tmod 8 = (r2 : Int) ∧ (B : Int) % 8 = (r2 : Int)) ∧ IntKind.u8.wrap (r2 : Int) = (r2 : Int) ∧ IntKind.i64.wrap (r2 : Int) = (r2 : Int)) := ⟨⟨by rw [Int.tmod_eq_emod_of_nonneg (by omega), ← hr2]; rfl, by rw [← hr2]; rfl⟩, w8 _ (by omega) (by omega), by rw [IntKind.wrap_i64]; omega⟩
  obtain ⟨X, hX⟩ : ∃ X : Int, X = 1 + (r : Int) := ⟨_, rfl⟩
  obtain ⟨Y, hY⟩ : ∃ Y : Int, Y = 1 + (r2 : Int) := ⟨_, rfl⟩
  have EX : Hid (IntKind.i64.wrap (1 + (r : Int)) = X) := by show _ = _; rw [IntKind.wrap_i64]; omega
  have EY : Hid (IntKind.i64.wrap (1 + (r2 : Int)) = Y) := by show _ = _; rw [IntKind.wrap_i64]; omega
  have HKX : Hid (known X = true) := (known_iff X).2 (by omega)
  have HKY : Hid (known Y = true) := (known_iff Y).2 (by omega)
  obtain ⟨s, HSV⟩ : ∃ s, Hid (V.few a3 o3 = s) := ⟨_, rfl⟩
  have HSO : Hid (V.Ok s) := by show V.Ok _; rw [← HSV.out]; exact V.few_ok w3 o3
  have CV := Lib.hid (fun u => vector_any a3 o3 u w3)
  rw [HSV.out] at CV
  obtain ⟨q, HQ⟩ : ∃ q, Hid (V.right s = q) := ⟨_, rfl⟩
  have CR := Lib.hid (fun u => right_any s u HSO.out.1)
  rw [HQ.out] at CR
  have HSZ : Hid ((Try.prog.info? 25).map (·.size) = some (ks .u64 s).length) := by show _ = _; rw [ks_length]; exact size_v HSO.out.1
  have HLN : Hid ((ks .u64 s).length = (ks .u64 [0, 0, 0, 0]).length) := by show _ = _; rw [ks_length, HSO.out.1]; rfl
  have HSV5 : Hid ((Try.prog.info? 27).map (·.size) = some (ks .u64 a3 ++ [Value.bool o3]).length) := by
    obtain ⟨n0, n1, n2, n3, hn4⟩ := V.four w3.1
    show _ = _
    rw [hn4]; kernel_rfl
  have HDS := Lib.hid w2
  have HMO : Hid (∀ x ∈ DL2, I.POk x) := m2
  obtain ⟨sa, cap, rfl, hca, hma, _⟩ := w2.is
  obtain ⟨LW, HLW⟩ : ∃ LW, Hid (I.wrs 12 false DL2 [] = LW) := ⟨_, rfl⟩
  have CW := Lib.hid (fun u (hu : Below w.heap.size w u) => It.writes_false _ DL2 12 u (HDS.out.below hu) HMO.out (by decide))
  have hl12 := I.wrs_len 12 false DL2 [] (by simp)
  rw [HLW.out] at CW hl12
  have HL12 := Lib.hid hl12
  clear hl12
  obtain ⟨d0, HD0⟩ : ∃ d, Hid (DL2.length = d) := ⟨_, rfl⟩
  rw [HD0.out] at CW
  rw [HD0.out]
  clear hca hma m2 w2 w3 w0 w1 hr hr2 hX hY ha hb hc hd w8 HDS HMO HLW HD0
  go_enter Try.func4, Try.ntmps4
  go_wp2_with (first | refine blk_box rfl 27 _ rfl (ks .u64 a3 ++ [Value.bool o3]) rfl ?_)
  intro u1 A1 B1 Z1
  have S1 := Lib.hid ((Sep.start w).box B1 Z1 A1)
  clear A1 B1 Z1
  go_wp2_with fail
  refine (examples_any _).mono ?_; rintro e u2 ⟨rfl, hb⟩
  have CN := Lib.hid (newtab_any (S1.out.below hb))
  clear hb S1
  go_wp2_with fail
  refine (CN.out).mono ?_; rintro e w1 ⟨b, rfl, ht⟩
  have H1 := Lib.hid ht
  have p1 := EA.out.1.1
  have p2 := EA.out.1.2
  have p3 := EA.out.2.1
  have p4 := EA.out.2.2
  have p5 := EB.out.1.1
  have p6 := EB.out.1.2
  have p7 := EB.out.2.1
  have p8 := EB.out.2.2
  have p9 := EX.out
  have p10 := EY.out
  clear ht CN
  go_wp2_with (first | refine blk_load rfl 27 _ rfl w.heap.size rfl (ks .u64 a3 ++ [Value.bool o3]) (H1.out.sep.blk 0 rfl) _ Try.underlying27 rfl HSV5.out ?_)
  refine (CV.out _).mono ?_; rintro e w2 ⟨rfl, hb⟩
  have H2 := Lib.hid (H1.out.below hb)
  clear hb H1
  clear p1 p2 p3 p4 p5 p6 p7 p8 p9 p10
  go_wp2_with (first | refine blk_alloc rfl 25 (ks .u64 [0, 0, 0, 0]) rfl Try.info_v ?_)
  intro w3 A3 B3 Z3
  have HA := Lib.hid A3
  have HB := Lib.hid B3
  have HZ := Lib.hid Z3
  clear A3 B3 Z3
  go_wp2_with (first | refine blk_store rfl 25 _ _ rfl w2.heap.size rfl (ks .u64 s) rfl (ks .u64 [0, 0, 0, 0]) HA.out HLN.out HSZ.out (ks_all _ _) ?_)
  intro w4 A4 U4
  have H4 := Lib.hid (H2.out.fresh HB.out HZ.out U4 A4)
  clear A4 U4 HA HB HZ H2
  obtain ⟨bs, HBS⟩ : ∃ bs, Hid (w2.heap.size = bs) := ⟨_, rfl⟩
  rw [HBS.out] at H4
  rw [HBS.out]
  clear HBS
  go_wp2_with (first | refine blk_load rfl 25 _ rfl bs rfl (ks .u64 s) (H4.out.sep.blk 0 rfl) _ Try.underlying25 rfl HSZ.out ?_)
  refine (CR.out _).mono ?_; rintro e w5 ⟨rfl, hb⟩
  have H5 := Lib.hid (H4.out.below hb)
  clear hb H4
  have HT0 : Hid (Tab w w5 b S0 [rB bs (ks .u64 s)]) := H5.out.sub (List.Sublist.cons_cons _ (List.nil_sublist _))
  clear H5 CR CV
  cases q with
  | false =>
    have hok : okSee X s = false := by unfold okSee; rw [HQ.out, Bool.and_false]
    have e1 : errBeg S0 X s = 1 := by unfold errBeg; rw [hok]; rfl
    have a1 : aftBeg S0 X s = S0 := by unfold aftBeg; rw [e1]; rfl
    have C := Lib.hid (tbegin_any HT0.out X s HSO.out)
    rw [e1, a1] at C
    clear e1 a1 hok
    go_wp2_with (first | refine blk_loadg (by rfl) 25 _ rfl bs rfl (ks .u64 s) (HT0.out.sep.blk 0 rfl) _ Try.underlying25 rfl HSZ.out ?_)
    refine (C.out).mono ?_; rintro e w20 ⟨rfl, ht⟩
    have CM := Lib.hid (tmany_any ht)
    have hm0 : many S0 = 0 := by decide +kernel
    rw [hm0] at CM
    have HF0 := Lib.hid ht
    clear ht C hm0
    go_wp2_with fail
    refine (CM.out).mono ?_; rintro e w21 ⟨rfl, hb⟩
    have HF := Lib.hid ((HF0.out.below hb).under)
    clear hb CM
    go_wp2_with fail
    go_ret
    exact ⟨rfl, HF.out⟩
  | true =>
    have hok : okSee X s = true := by unfold okSee; rw [HKX.out, HQ.out]; rfl
    have hoy : okSee Y s = true := by unfold okSee; rw [HKY.out, HQ.out]; rfl
    have g0 : ∀ i, (gt S0 i).opn = false ∧ (gt S0 i).wr = [] := fun i => by
      unfold gt S0
      split
      · rw [List.getD_eq_getElem?_getD, List.getElem?_replicate]
        split <;> exact ⟨rfl, rfl⟩
      · exact ⟨rfl, rfl⟩
    have e1 : errBeg S0 X s = 0 := by unfold errBeg; rw [hok, (g0 X).1]; rfl
    have a1 : aftBeg S0 X s = st S0 X (begS (gt S0 X) s) := by unfold aftBeg; rw [e1]; rfl
    obtain ⟨S1, hS1⟩ : ∃ S1, aftBeg S0 X s = S1 := ⟨_, rfl⟩
    have gx : gt S1 X = begS (gt S0 X) s := by rw [← hS1, a1, gt_st (by rfl) HKX.out]; exact if_pos rfl
    have gy : X ≠ Y → gt S1 Y = gt S0 Y := fun h => by rw [← hS1, a1, gt_st (by rfl) HKX.out]; exact if_neg (fun e => h e.symm)
    have C := Lib.hid (tbegin_any HT0.out X s HSO.out)
    rw [e1, hS1] at C
    have GX := Lib.hid gx
    have GY := Lib.hid gy
    have G0 := Lib.hid g0
    have HOY := Lib.hid hoy
    clear e1 a1 hok hoy hS1 gx gy g0
    go_wp2_with (first | refine blk_load rfl 25 _ rfl bs rfl (ks .u64 s) (HT0.out.sep.blk 0 rfl) _ Try.underlying25 rfl HSZ.out ?_)
    refine (C.out).mono ?_; rintro e w20 ⟨rfl, ht⟩
    have H20 := Lib.hid ht
    clear ht C HT0
    by_cases hxy : X = Y
    · have iv : Iv S1 X Y := ⟨by rw [GX.out]; rfl, by rw [GX.out]; exact fun i hi => absurd hi (Nat.not_lt_zero _), fun h => absurd hxy h⟩
      have HT2 : Hid (∃ S, Tab w w20 b S [rB bs (ks .u64 s)] ∧ Iv S X Y) := ⟨_, H20.out, iv⟩
      have HXY : Hid (decide (X = Y) = true) := decide_eq_true hxy
      obtain ⟨wb, HWB⟩ : ∃ wb, Hid (wb = w20) := ⟨_, rfl⟩
      have HU := Lib.hid H20.out.under
      clear iv GX GY G0 HOY H20
      subst hxy
      go_wp2_with fail
      refine (CW.out _ HU.out).mono ?_; rintro e w30 ⟨v', rfl, how, hb⟩
      have HOR : Hid (OR wk 41 w30 w20.heap.size v' LW) := ⟨how.own⟩
      have HL0 : Hid (∃ S, Tab w w30 b S [rO wk 41 w20.heap.size v' LW] ∧ Iv S X X) := by
        obtain ⟨S, h1, h2⟩ := HT2.out
        exact ⟨S, (h1.newrow hb HOR.out).sub (List.Sublist.cons_cons _ (List.nil_sublist _)), h2⟩
      clear how hb CW HT2 HU
      obtain ⟨n, HN⟩ : ∃ n, Hid (LW.length = n) := ⟨_, rfl⟩
      have hn12 : n ≤ 12 := by have := HL12.out; have := HN.out; omega
      obtain ⟨va, vcap, ev, hva⟩ := or_first HOR.out
      rw [HN.out] at ev hva
      subst ev
      have HVA := Lib.hid hva
      clear hva HOR
      obtain ⟨base, HBASE0⟩ : ∃ base, Hid (w20.heap.size = base) := ⟨_, rfl⟩
      rw [HBASE0.out] at HL0
      clear HBASE0
      go_wp2_with fail
      go_loopw [15, 16, 17, 18] (fun x y1 y2 y3 wr => ∃ i : Nat, i ≤ n ∧ x = .int .i64 i ∧ Hid (∃ S, Tab w wr b S [rO wk 41 base (.slice va n vcap) LW] ∧ Iv S X X)) (fun x _ _ _ _ => n - (intOf x).toNat)
      case atStart => exact ⟨0, by omega, rfl, HL0⟩
      case round =>
        obtain ⟨i, hi, rfl, HLr⟩ := hrel
        clear HL0
        by_cases hlt : i < n
        · have ilt : (i : Int) < (n : Int) := by omega
          obtain ⟨S, hT, hIV⟩ := HLr.out
          obtain ⟨g, hva⟩ := HVA.out (by omega)
          subst hva
          have hrow := isr_at4 (hT.sep.or 0 rfl).is i (by rw [HN.out]; exact hlt)
          obtain ⟨z, hz⟩ : ∃ z, LW.getD i none_ = z := ⟨_, rfl⟩
          have HZ := Lib.hid hz
          rw [hz] at hrow
          have HRW0 := Lib.hid hrow.2
          have C := Lib.hid (twrite_any hT X z)
          have HRR : Hid (∀ u S R, Tab w u b S (rO wk 41 base (.slice (some ⟨g, 0, none⟩) n vcap) LW :: R) → g < u.heap.size ∧ u.rangeAt g (4 * i) (wc z)) := fun u S R hu => by
            have h9 := isr_at4 (hu.sep.or 0 rfl).is i (by rw [HN.out]; exact hlt)
            rw [HZ.out] at h9
            exact h9
          have HIX : Hid (∀ w, (Instr.indexAt 58 (.slice (some ⟨g, 0, none⟩) n vcap) (.int .i64 (i : Int))).run Try.prog w = .ok (.pointer (some ⟨g, 4 * i, none⟩)) w) := fun w => by
            have h9 := index_iw g 0 n vcap i hlt w
            rwa [Nat.zero_add] at h9
          have hix := HIX.out
          have hcase := iv_write hT.good hIV HKX.out z
          obtain ⟨S9, hS9⟩ : ∃ S9, aftWr S X z = S9 := ⟨_, rfl⟩
          rw [hS9] at C hcase
          have hcase2 : ∃ er : Int, errWr S X z = er ∧ Iv S9 X X ∧ ((er = 0 ∧ ownB (gt S9 X).wr (key z) = true ∧ ownV (gt S9 X).wr (key z) = z) ∨ (er = 1 ∧ right z = false) ∨ er = 4) := by
            rcases hcase with ⟨c1, c2, c3, c4⟩ | ⟨c1, c2, c3⟩ | ⟨c1, c2, c3⟩
            · exact ⟨0, c1, c4, .inl ⟨rfl, c2, c3⟩⟩
            · exact ⟨1, c1, by rw [c3]; exact hIV, .inr (.inl ⟨rfl, c2⟩)⟩
            · exact ⟨4, c1, by rw [c3]; exact hIV, .inr (.inr rfl)⟩
          obtain ⟨er, her, hiv9, hways⟩ := hcase2
          rw [her] at C
          have HIV9 := Lib.hid hiv9
          have HWY := Lib.hid hways
          clear hT hIV HLr hrow hz hcase her hiv9 hways hS9
          go_wp2_with (first | refine mid_load rfl 41 _ rfl g (4 * i) rfl (wc z) HRW0.out _ Try.underlying41 rfl It.Try.size_w ?_)
          refine (C.out).mono ?_; rintro e w41 ⟨rfl, ht⟩
          have H41 := Lib.hid ht
          clear ht C HRW0 hix
          obtain ⟨y, HY0⟩ : ∃ y, Hid (ownV (gt S9 X).wr (key z) = y) := ⟨_, rfl⟩
          obtain ⟨q, HQ0⟩ : ∃ q, Hid (ownB (gt S9 X).wr (key z) = q) := ⟨_, rfl⟩
          rw [HY0.out, HQ0.out] at HWY
          have XO : Hid (∀ u, Below w41.heap.size w41 u → Calls Try.prog 24 [(.pointer (some ⟨b, 0, none⟩)), (.int .i64 X), (.string z.1), (.string z.2.1)].toArray u fun e u' => e = .returned (.tuple #[WV y, .bool q]) ∧ Below u.heap.size u u') := fun u hu => by
            have h9 := town_any (H41.out.below hu) X z.1 z.2.1
            rw [show (z.1, z.2.1) = key z from rfl, HY0.out, HQ0.out] at h9
            exact h9
          have K0 : Hid (∀ u, Below w41.heap.size w41 u → u.cell? ⟨g, 4 * i, none⟩ = some (.string z.1)) := fun u hu => (HRR.out u _ _ (H41.out.below hu)).2 0 _ rfl
          have K1 : Hid (∀ u, Below w41.heap.size w41 u → u.cell? ⟨g, 4 * i + 1, none⟩ = some (.string z.2.1)) := fun u hu => (HRR.out u _ _ (H41.out.below hu)).2 1 _ rfl
          go_upto_region 19 with fail
          go_cut [17, 18] (fun x1 x2 wx => ∃ bx : Nat, x1 = .pointer (some ⟨bx, 0, none⟩) ∧ x2 = .bool q ∧ Hid (Blk wx bx (wc y) ∧ bx < wx.heap.size) ∧ Hid (Below w41.heap.size w41 wx))
          case first =>
            as_aux_lemma =>
              have HSB : Hid (Below w41.heap.size w41 w41.drew) := (Below.refl w41.heap.size w41).drew
              refine region_tree (fun u => Below w41.heap.size w41 u) 19 Try.mixed ?_
              refine tr_read 0 rfl (by kernel_rfl) HSB.out ?_
              refine c_move rfl _ rfl (.pointer (some ⟨b, 0, none⟩)) rfl (fun _ _ _ h => h) (fun K hK => ?_)
              go_simp
              refine hK _ ?_
              clear hK K
              refine c_nil ?_
              refine tr_read 1 rfl (by kernel_rfl) HSB.out ?_
              refine c_move rfl _ rfl (.int .i64 X) rfl (fun _ _ _ h => h) (fun K hK => ?_)
              go_simp
              refine hK _ ?_
              clear hK K
              refine c_nil ?_
              refine tr_read 2 rfl (by kernel_rfl) HSB.out ?_
              refine c_move rfl _ rfl (.slice (some ⟨g, 0, none⟩) n vcap) rfl (fun _ _ _ h => h) (fun K hK => ?_)
              go_simp
              refine hK _ ?_
              clear hK K
              refine c_nil ?_
              refine tr_read 3 rfl (by kernel_rfl) HSB.out ?_
              refine c_move rfl _ rfl (.int .i64 (i : Int)) rfl (fun _ _ _ h => h) (fun K hK => ?_)
              go_simp
              refine hK _ ?_
              clear hK K
              refine c_nil ?_
              refine tr_read 4 rfl (by kernel_rfl) HSB.out ?_
              refine c_value rfl (.pointer (some ⟨g, 4 * i, none⟩)) (fun u hu => by have h9 := HIX.out u; go_simp) (fun _ _ _ h => h) (fun K hK => ?_)
              go_simp
              refine hK _ ?_
              clear hK K
              refine c_nil ?_
              refine tr_read 5 rfl (by kernel_rfl) HSB.out ?_
              refine c_value rfl (.pointer (some ⟨g, 4 * i, none⟩)) (fun u hu => by go_simp) (fun _ _ _ h => h) (fun K hK => ?_)
              go_simp
              refine hK _ ?_
              clear hK K
              refine c_nil ?_
              refine tr_read 6 rfl (by kernel_rfl) HSB.out ?_
              refine c_value rfl (.string z.1) (fun u hu => by have h9 := K0.out u hu; go_simp) (fun _ _ _ h => h) (fun K hK => ?_)
              go_simp
              refine hK _ ?_
              clear hK K
              refine c_nil ?_
              refine tr_read 7 rfl (by kernel_rfl) HSB.out ?_
              refine c_move rfl _ rfl (.slice (some ⟨g, 0, none⟩) n vcap) rfl (fun _ _ _ h => h) (fun K hK => ?_)
              go_simp
              refine hK _ ?_
              clear hK K
              refine c_nil ?_
              refine tr_read 8 rfl (by kernel_rfl) HSB.out ?_
              refine c_move rfl _ rfl (.int .i64 (i : Int)) rfl (fun _ _ _ h => h) (fun K hK => ?_)
              go_simp
              refine hK _ ?_
              clear hK K
              refine c_nil ?_
              refine tr_read 9 rfl (by kernel_rfl) HSB.out ?_
              refine c_value rfl (.pointer (some ⟨g, 4 * i, none⟩)) (fun u hu => by have h9 := HIX.out u; go_simp) (fun _ _ _ h => h) (fun K hK => ?_)
              go_simp
              refine hK _ ?_
              clear hK K
              refine c_nil ?_
              refine tr_read 10 rfl (by kernel_rfl) HSB.out ?_
              refine c_value rfl (.pointer (some ⟨g, 4 * i + 1, none⟩)) (fun u hu => by go_simp) (fun _ _ _ h => h) (fun K hK => ?_)
              go_simp
              refine hK _ ?_
              clear hK K
              refine c_nil ?_
              refine tr_read 11 rfl (by kernel_rfl) HSB.out ?_
              refine c_value rfl (.string z.2.1) (fun u hu => by have h9 := K1.out u hu; go_simp) (fun _ _ _ h => h) (fun K hK => ?_)
              go_simp
              refine hK _ ?_
              clear hK K
              refine c_nil ?_
              refine tr_two 12 16 rfl rfl (by kernel_rfl) ?_ ?_
              · skip
                go_wp2_with (first | (go_at_call 24; refine Calls.mono (XO.out _ HSB.out) ?_; rintro e ua ⟨rfl, hb⟩))
                have HBua : Hid (Below w41.heap.size w41 ua) := HSB.out.trans (hb.mono HSB.out.size)
                clear hb
                refine And.intro (fun _ => HBua.out) ?_
                refine tr_read 13 rfl (by kernel_rfl) HBua.out ?_
                refine c_move rfl _ rfl (.tuple #[WV y, .bool q]) rfl (fun _ _ _ h => h) (fun K hK => ?_)
                go_simp
                refine hK _ ?_
                clear hK K
                refine c_nil ?_
                refine tr_read 14 rfl (by kernel_rfl) HBua.out ?_
                refine c_value rfl (WV y) (fun u hu => by go_simp) (fun _ _ _ h => h) (fun K hK => ?_)
                go_simp
                refine hK _ ?_
                clear hK K
                refine c_nil ?_
                refine tr_read 15 rfl (by kernel_rfl) HBua.out ?_
                refine c_value rfl (.bool q) (fun u hu => by go_simp) (fun _ _ _ h => h) (fun K hK => ?_)
                go_simp
                refine hK _ ?_
                clear hK K
                refine c_nil ?_
                refine tr_one 16 rfl (by kernel_rfl) ?_
                go_wp2_with (first | refine blk_alloc rfl 41 (wc none_) rfl It.Try.info_iw2 ?_)
                intro uc A3 B3 Z3
                have HBuc : Hid (Below w41.heap.size w41 uc) := HBua.out.trans (B3.mono HBua.out.size)
                have HZuc : Hid (ua.heap.size < uc.heap.size) := by show _ < _; have h9 : uc.heap.size = ua.heap.size + 1 := Z3; omega
                have HX : Hid (Blk uc ua.heap.size (wc none_)) := A3
                clear A3 B3 Z3
                refine And.intro (fun _ => HBuc.out) ?_
                refine tr_one 17 rfl (by kernel_rfl) ?_
                go_wp2_with (first | refine blk_store rfl 41 _ _ rfl (ua.heap.size) rfl (wc y) rfl _ HX.out rfl It.Try.size_w (It.one_wc y) ?_)
                intro u3 A4 U4
                have HBX : Hid (Blk u3 (ua.heap.size) (wc y) ∧ ua.heap.size < u3.heap.size) := ⟨A4, by rw [U4.size]; exact HZuc.out⟩
                have HU3 : Hid (Below w41.heap.size w41 u3) := HBuc.out.trans (U4.below (HBua.out.size))
                clear A4 U4 HX
                refine And.intro (fun _ => HU3.out) ?_
                refine tr_one 18 rfl (by kernel_rfl) ?_
                go_wp2_with fail
                refine And.intro (fun _ => HU3.out) ?_
                refine tr_end (by kernel_rfl) ?_
                go_wp2_with fail
                go_meet
                exact ⟨_, rfl, rfl, HBX, HU3⟩
              · skip
                go_wp2_with (first | refine blk_alloc rfl 41 (wc none_) rfl It.Try.info_iw2 ?_)
                intro uc A3 B3 Z3
                have HBuc : Hid (Below w41.heap.size w41 uc) := HSB.out.trans (B3.mono HSB.out.size)
                have HZuc : Hid (w41.heap.size < uc.heap.size) := by show _ < _; have h9 : uc.heap.size = w41.heap.size + 1 := Z3; omega
                have HX0 : Hid (Blk uc w41.heap.size (wc none_)) := A3
                clear A3 B3 Z3
                refine And.intro (fun _ => HBuc.out) ?_
                refine tr_one 12 rfl (by kernel_rfl) ?_
                go_wp2_with (first | (go_at_call 24; refine Calls.mono (XO.out _ HBuc.out) ?_; rintro e ua ⟨rfl, hb⟩))
                have HBua : Hid (Below w41.heap.size w41 ua) := HBuc.out.trans (hb.mono HBuc.out.size)
                have HX : Hid (Blk ua w41.heap.size (wc none_)) := Blk.below HX0.out hb HZuc.out
                have HZua : Hid (w41.heap.size < ua.heap.size) := Nat.lt_of_lt_of_le HZuc.out hb.size
                clear hb HX0
                refine And.intro (fun _ => HBua.out) ?_
                refine tr_read 13 rfl (by kernel_rfl) HBua.out ?_
                refine c_move rfl _ rfl (.tuple #[WV y, .bool q]) rfl (fun _ _ _ h => h) (fun K hK => ?_)
                go_simp
                refine hK _ ?_
                clear hK K
                refine c_nil ?_
                refine tr_read 14 rfl (by kernel_rfl) HBua.out ?_
                refine c_value rfl (WV y) (fun u hu => by go_simp) (fun _ _ _ h => h) (fun K hK => ?_)
                go_simp
                refine hK _ ?_
                clear hK K
                refine c_nil ?_
                refine tr_read 15 rfl (by kernel_rfl) HBua.out ?_
                refine c_value rfl (.bool q) (fun u hu => by go_simp) (fun _ _ _ h => h) (fun K hK => ?_)
                go_simp
                refine hK _ ?_
                clear hK K
                refine c_nil ?_
                refine tr_one 17 rfl (by kernel_rfl) ?_
                go_wp2_with (first | refine blk_store rfl 41 _ _ rfl (w41.heap.size) rfl (wc y) rfl _ HX.out rfl It.Try.size_w (It.one_wc y) ?_)
                intro u3 A4 U4
                have HBX : Hid (Blk u3 (w41.heap.size) (wc y) ∧ w41.heap.size < u3.heap.size) := ⟨A4, by rw [U4.size]; exact HZua.out⟩
                have HU3 : Hid (Below w41.heap.size w41 u3) := HBua.out.trans (U4.below (Nat.le_refl _))
                clear A4 U4 HX
                refine And.intro (fun _ => HU3.out) ?_
                refine tr_one 18 rfl (by kernel_rfl) ?_
                go_wp2_with fail
                refine And.intro (fun _ => HU3.out) ?_
                refine tr_end (by kernel_rfl) ?_
                go_wp2_with fail
                go_meet
                exact ⟨_, rfl, rfl, HBX, HU3⟩
          case rest =>
          rename World => u3
          obtain ⟨b3, rfl, rfl, HBX, HU3⟩ := hcut
          go_wp2_with fail
          have H42 := Lib.hid (H41.out.below HU3.out)
          have HBXU : Hid (∀ u, Below u3.heap.size u3 u → Blk u b3 (wc y)) := fun u hu => HBX.out.1.below hu HBX.out.2
          have HRW : Hid (∀ u, Below u3.heap.size u3 u → u.rangeAt g (4 * i) (wc z)) := fun u hu => (HRR.out u _ _ (H42.out.below hu)).2
          have HNX : Hid (∀ u, Below u3.heap.size u3 u → ∃ S, Tab w u b S [rO wk 41 base (.slice (some ⟨g, 0, none⟩) n vcap) LW] ∧ Iv S X X) := fun u hu => ⟨S9, H42.out.below hu, HIV9.out⟩
          obtain ⟨rz, HRZ⟩ : ∃ rz, Hid (right z = rz) := ⟨_, rfl⟩
          have XR : Hid (∀ u, Below u3.heap.size u3 u → Calls Try.prog 36 [WV (z)].toArray u fun e u' => e = .returned (.bool rz) ∧ Below u3.heap.size u3 u') := fun u hu => Calls.more hu (by have h9 := wright_any z u; rw [HRZ.out] at h9; exact h9)
          obtain ⟨zz, HZZ⟩ : ∃ zz, Hid (decide (y = z) = zz) := ⟨_, rfl⟩
          have HGW : Hid (∀ u, (binOp .eql 41 (WV y) (WV z)).run Try.prog u = .ok (.bool zz) u) := fun u => by have h9 := eql_iw y z u; rw [HZZ.out] at h9; exact h9
          clear XO K0 K1 H41 H42 HRR HBX HU3 HIV9
          rcases HWY.out with ⟨rfl, hq1, hyz⟩ | ⟨rfl, hrz⟩ | rfl
          · obtain rfl : zz = true := by rw [← HZZ.out]; exact decide_eq_true hyz
            subst hq1
            clear HWY hyz
            refine region_w Try.mixed (by kernel_rfl) ?_
            refine w_value rfl (.int .i64 0) (fun u hu => by go_simp) (fun K hK => ?_)
            go_simp
            refine hK _ ?_
            clear hK K
            refine w_value rfl (.bool true) (fun u hu => by go_simp) (fun K hK => ?_)
            go_simp
            refine hK _ ?_
            clear hK K
            refine w_value rfl (.bool true) (fun u hu => by go_simp) (fun K hK => ?_)
            go_simp
            refine hK _ ?_
            clear hK K
            refine w_value rfl (.bool true) (fun u hu => by go_simp) (fun K hK => ?_)
            go_simp
            refine hK _ ?_
            clear hK K
            refine wg_blk_load (by rfl) 41 _ rfl b3 rfl (wc y) (by exact HBXU.out) _ Try.underlying41 rfl It.Try.size_w (fun K hK => ?_)
            go_simp
            refine hK _ ?_
            clear hK K
            refine wg_value (by rfl) (.slice (some ⟨g, 0, none⟩) n vcap) (fun u hu => by go_simp) (fun K hK => ?_)
            go_simp
            refine hK _ ?_
            clear hK K
            refine wg_value (by rfl) (.int .i64 (i : Int)) (fun u hu => by go_simp) (fun K hK => ?_)
            go_simp
            refine hK _ ?_
            clear hK K
            refine wg_value (by rfl) (.pointer (some ⟨g, 4 * i, none⟩)) (fun u hu => by have h9 := HIX.out u; go_simp) (fun K hK => ?_)
            go_simp
            refine hK _ ?_
            clear hK K
            refine wg_wv_load (by rfl) 41 _ rfl g (4 * i) rfl (z) (by exact HRW.out) _ Try.underlying41 rfl It.Try.size_w (fun K hK => ?_)
            go_simp
            refine hK _ ?_
            clear hK K
            refine wg_value (by rfl) (.bool true) (fun u _ => run_eql u .eql 41 41 _ _ (WV y) (WV z) _ rfl rfl rfl (guard_iw .eql _ _ y z u) (HGW.out u)) (fun K hK => ?_)
            go_simp
            refine hK _ ?_
            clear hK K
            refine w_value rfl (.bool true) (fun u hu => by go_simp) (fun K hK => ?_)
            go_simp
            refine hK _ ?_
            clear hK K
            refine w_value rfl (.bool false) (fun u hu => by go_simp) (fun K hK => ?_)
            go_simp
            refine hK _ ?_
            clear hK K
            refine w_value rfl (.bool false) (fun u hu => by go_simp) (fun K hK => ?_)
            go_simp
            refine hK _ ?_
            clear hK K
            refine w_skip 12 true (some false) rfl rfl rfl (fun K hK => ?_)
            go_simp
            refine hK _ ?_
            clear hK K
            refine w_skip 12 true (some false) rfl rfl rfl (fun K hK => ?_)
            go_simp
            refine hK _ ?_
            clear hK K
            refine w_value rfl (.bool false) (fun u hu => by go_simp) (fun K hK => ?_)
            go_simp
            refine hK _ ?_
            clear hK K
            refine w_value rfl (.bool false) (fun u hu => by go_simp) (fun K hK => ?_)
            go_simp
            refine hK _ ?_
            clear hK K
            refine wg_value (by rfl) (.int .i64 0) (fun u hu => by go_simp) (fun K hK => ?_)
            go_simp
            refine hK _ ?_
            clear hK K
            refine wg_value (by rfl) (.bool false) (fun u hu => by go_simp) (fun K hK => ?_)
            go_simp
            refine hK _ ?_
            clear hK K
            refine wg_value (by rfl) (.bool false) (fun u hu => by go_simp) (fun K hK => ?_)
            go_simp
            refine hK _ ?_
            clear hK K
            refine w_skip 19 true (some false) rfl rfl rfl (fun K hK => ?_)
            go_simp
            refine hK _ ?_
            clear hK K
            refine w_skip 19 true (some false) rfl rfl rfl (fun K hK => ?_)
            go_simp
            refine hK _ ?_
            clear hK K
            refine w_skip 19 true (some false) rfl rfl rfl (fun K hK => ?_)
            go_simp
            refine hK _ ?_
            clear hK K
            refine w_skip 19 true (some false) rfl rfl rfl (fun K hK => ?_)
            go_simp
            refine hK _ ?_
            clear hK K
            refine w_skip 19 true (some false) rfl rfl rfl (fun K hK => ?_)
            go_simp
            refine hK _ ?_
            clear hK K
            refine wg_value (by rfl) (.bool false) (fun u hu => by go_simp) (fun K hK => ?_)
            go_simp
            refine hK _ ?_
            clear hK K
            refine w_value rfl (.bool false) (fun u hu => by go_simp) (fun K hK => ?_)
            go_simp
            refine hK _ ?_
            clear hK K
            refine w_nil ?_
            intro u hu
            have HN9 := Lib.hid (HNX.out u hu)
            clear hu HNX HRW HBXU XR HGW
            go_wp2_with fail
            go_roundw
            case rel => exact ⟨i + 1, by omega, by go_num, HN9⟩
            case measure => simp [intOf]; omega
          · obtain rfl : rz = false := by rw [← HRZ.out]; exact hrz
            clear HWY hrz
            cases q with
            | false =>
              refine region_w Try.mixed (by kernel_rfl) ?_
              refine w_value rfl (.int .i64 1) (fun u hu => by go_simp) (fun K hK => ?_)
              go_simp
              refine hK _ ?_
              clear hK K
              refine w_value rfl (.bool false) (fun u hu => by go_simp) (fun K hK => ?_)
              go_simp
              refine hK _ ?_
              clear hK K
              refine w_value rfl (.bool false) (fun u hu => by go_simp) (fun K hK => ?_)
              go_simp
              refine hK _ ?_
              clear hK K
              refine w_value rfl (.bool false) (fun u hu => by go_simp) (fun K hK => ?_)
              go_simp
              refine hK _ ?_
              clear hK K
              refine w_skip 3 true (some false) rfl rfl rfl (fun K hK => ?_)
              go_simp
              refine hK _ ?_
              clear hK K
              refine w_skip 3 true (some false) rfl rfl rfl (fun K hK => ?_)
              go_simp
              refine hK _ ?_
              clear hK K
              refine w_skip 3 true (some false) rfl rfl rfl (fun K hK => ?_)
              go_simp
              refine hK _ ?_
              clear hK K
              refine w_skip 3 true (some false) rfl rfl rfl (fun K hK => ?_)
              go_simp
              refine hK _ ?_
              clear hK K
              refine w_skip 3 true (some false) rfl rfl rfl (fun K hK => ?_)
              go_simp
              refine hK _ ?_
              clear hK K
              refine w_skip 3 true (some false) rfl rfl rfl (fun K hK => ?_)
              go_simp
              refine hK _ ?_
              clear hK K
              refine w_value rfl (.bool false) (fun u hu => by go_simp) (fun K hK => ?_)
              go_simp
              refine hK _ ?_
              clear hK K
              refine w_value rfl (.bool false) (fun u hu => by go_simp) (fun K hK => ?_)
              go_simp
              refine hK _ ?_
              clear hK K
              refine w_value rfl (.bool false) (fun u hu => by go_simp) (fun K hK => ?_)
              go_simp
              refine hK _ ?_
              clear hK K
              refine w_skip 12 true (some false) rfl rfl rfl (fun K hK => ?_)
              go_simp
              refine hK _ ?_
              clear hK K
              refine w_skip 12 true (some false) rfl rfl rfl (fun K hK => ?_)
              go_simp
              refine hK _ ?_
              clear hK K
              refine w_value rfl (.bool false) (fun u hu => by go_simp) (fun K hK => ?_)
              go_simp
              refine hK _ ?_
              clear hK K
              refine w_value rfl (.bool false) (fun u hu => by go_simp) (fun K hK => ?_)
              go_simp
              refine hK _ ?_
              clear hK K
              refine wg_value (by rfl) (.int .i64 1) (fun u hu => by go_simp) (fun K hK => ?_)
              go_simp
              refine hK _ ?_
              clear hK K
              refine wg_value (by rfl) (.bool true) (fun u hu => by go_simp) (fun K hK => ?_)
              go_simp
              refine hK _ ?_
              clear hK K
              refine wg_value (by rfl) (.bool true) (fun u hu => by go_simp) (fun K hK => ?_)
              go_simp
              refine hK _ ?_
              clear hK K
              refine wg_value (by rfl) (.slice (some ⟨g, 0, none⟩) n vcap) (fun u hu => by go_simp) (fun K hK => ?_)
              go_simp
              refine hK _ ?_
              clear hK K
              refine wg_value (by rfl) (.int .i64 (i : Int)) (fun u hu => by go_simp) (fun K hK => ?_)
              go_simp
              refine hK _ ?_
              clear hK K
              refine wg_value (by rfl) (.pointer (some ⟨g, 4 * i, none⟩)) (fun u hu => by have h9 := HIX.out u; go_simp) (fun K hK => ?_)
              go_simp
              refine hK _ ?_
              clear hK K
              refine wg_wv_load (by rfl) 41 _ rfl g (4 * i) rfl (z) (by exact HRW.out) _ Try.underlying41 rfl It.Try.size_w (fun K hK => ?_)
              go_simp
              refine hK _ ?_
              clear hK K
              refine wg_call (by rfl) 36 Try.f36 Try.func36 rfl rfl _ _ rfl [WV (z)] rfl (.bool false) (by exact XR.out) (fun K hK => ?_)
              go_simp
              refine hK _ ?_
              clear hK K
              refine wg_value (by rfl) (.bool false) (fun u hu => by go_simp) (fun K hK => ?_)
              go_simp
              refine hK _ ?_
              clear hK K
              refine w_value rfl (.bool false) (fun u hu => by go_simp) (fun K hK => ?_)
              go_simp
              refine hK _ ?_
              clear hK K
              refine w_nil ?_
              intro u hu
              have HN9 := Lib.hid (HNX.out u hu)
              clear hu HNX HRW HBXU XR HGW
              go_wp2_with fail
              go_roundw
              case rel => exact ⟨i + 1, by omega, by go_num, HN9⟩
              case measure => simp [intOf]; omega
            | true =>
              cases zz with
              | false =>
                refine region_w Try.mixed (by kernel_rfl) ?_
                refine w_value rfl (.int .i64 1) (fun u hu => by go_simp) (fun K hK => ?_)
                go_simp
                refine hK _ ?_
                clear hK K
                refine w_value rfl (.bool false) (fun u hu => by go_simp) (fun K hK => ?_)
                go_simp
                refine hK _ ?_
                clear hK K
                refine w_value rfl (.bool true) (fun u hu => by go_simp) (fun K hK => ?_)
                go_simp
                refine hK _ ?_
                clear hK K
                refine w_value rfl (.bool true) (fun u hu => by go_simp) (fun K hK => ?_)
                go_simp
                refine hK _ ?_
                clear hK K
                refine wg_blk_load (by rfl) 41 _ rfl b3 rfl (wc y) (by exact HBXU.out) _ Try.underlying41 rfl It.Try.size_w (fun K hK => ?_)
                go_simp
                refine hK _ ?_
                clear hK K
                refine wg_value (by rfl) (.slice (some ⟨g, 0, none⟩) n vcap) (fun u hu => by go_simp) (fun K hK => ?_)
                go_simp
                refine hK _ ?_
                clear hK K
                refine wg_value (by rfl) (.int .i64 (i : Int)) (fun u hu => by go_simp) (fun K hK => ?_)
                go_simp
                refine hK _ ?_
                clear hK K
                refine wg_value (by rfl) (.pointer (some ⟨g, 4 * i, none⟩)) (fun u hu => by have h9 := HIX.out u; go_simp) (fun K hK => ?_)
                go_simp
                refine hK _ ?_
                clear hK K
                refine wg_wv_load (by rfl) 41 _ rfl g (4 * i) rfl (z) (by exact HRW.out) _ Try.underlying41 rfl It.Try.size_w (fun K hK => ?_)
                go_simp
                refine hK _ ?_
                clear hK K
                refine wg_value (by rfl) (.bool false) (fun u _ => run_eql u .eql 41 41 _ _ (WV y) (WV z) _ rfl rfl rfl (guard_iw .eql _ _ y z u) (HGW.out u)) (fun K hK => ?_)
                go_simp
                refine hK _ ?_
                clear hK K
                refine w_value rfl (.bool false) (fun u hu => by go_simp) (fun K hK => ?_)
                go_simp
                refine hK _ ?_
                clear hK K
                refine w_value rfl (.bool false) (fun u hu => by go_simp) (fun K hK => ?_)
                go_simp
                refine hK _ ?_
                clear hK K
                refine w_value rfl (.bool false) (fun u hu => by go_simp) (fun K hK => ?_)
                go_simp
                refine hK _ ?_
                clear hK K
                refine w_skip 12 true (some false) rfl rfl rfl (fun K hK => ?_)
                go_simp
                refine hK _ ?_
                clear hK K
                refine w_skip 12 true (some false) rfl rfl rfl (fun K hK => ?_)
                go_simp
                refine hK _ ?_
                clear hK K
                refine w_value rfl (.bool false) (fun u hu => by go_simp) (fun K hK => ?_)
                go_simp
                refine hK _ ?_
                clear hK K
                refine w_value rfl (.bool false) (fun u hu => by go_simp) (fun K hK => ?_)
                go_simp
                refine hK _ ?_
                clear hK K
                refine wg_value (by rfl) (.int .i64 1) (fun u hu => by go_simp) (fun K hK => ?_)
                go_simp
                refine hK _ ?_
                clear hK K
                refine wg_value (by rfl) (.bool true) (fun u hu => by go_simp) (fun K hK => ?_)
                go_simp
                refine hK _ ?_
                clear hK K
                refine wg_value (by rfl) (.bool true) (fun u hu => by go_simp) (fun K hK => ?_)
                go_simp
                refine hK _ ?_
                clear hK K
                refine wg_value (by rfl) (.slice (some ⟨g, 0, none⟩) n vcap) (fun u hu => by go_simp) (fun K hK => ?_)
                go_simp
                refine hK _ ?_
                clear hK K
                refine wg_value (by rfl) (.int .i64 (i : Int)) (fun u hu => by go_simp) (fun K hK => ?_)
                go_simp
                refine hK _ ?_
                clear hK K
                refine wg_value (by rfl) (.pointer (some ⟨g, 4 * i, none⟩)) (fun u hu => by have h9 := HIX.out u; go_simp) (fun K hK => ?_)
                go_simp
                refine hK _ ?_
                clear hK K
                refine wg_wv_load (by rfl) 41 _ rfl g (4 * i) rfl (z) (by exact HRW.out) _ Try.underlying41 rfl It.Try.size_w (fun K hK => ?_)
                go_simp
                refine hK _ ?_
                clear hK K
                refine wg_call (by rfl) 36 Try.f36 Try.func36 rfl rfl _ _ rfl [WV (z)] rfl (.bool false) (by exact XR.out) (fun K hK => ?_)
                go_simp
                refine hK _ ?_
                clear hK K
                refine wg_value (by rfl) (.bool false) (fun u hu => by go_simp) (fun K hK => ?_)
                go_simp
                refine hK _ ?_
                clear hK K
                refine w_value rfl (.bool false) (fun u hu => by go_simp) (fun K hK => ?_)
                go_simp
                refine hK _ ?_
                clear hK K
                refine w_nil ?_
                intro u hu
                have HN9 := Lib.hid (HNX.out u hu)
                clear hu HNX HRW HBXU XR HGW
                go_wp2_with fail
                go_roundw
                case rel => exact ⟨i + 1, by omega, by go_num, HN9⟩
                case measure => simp [intOf]; omega
              | true =>
                refine region_w Try.mixed (by kernel_rfl) ?_
                refine w_value rfl (.int .i64 1) (fun u hu => by go_simp) (fun K hK => ?_)
                go_simp
                refine hK _ ?_
                clear hK K
                refine w_value rfl (.bool false) (fun u hu => by go_simp) (fun K hK => ?_)
                go_simp
                refine hK _ ?_
                clear hK K
                refine w_value rfl (.bool true) (fun u hu => by go_simp) (fun K hK => ?_)
                go_simp
                refine hK _ ?_
                clear hK K
                refine w_value rfl (.bool true) (fun u hu => by go_simp) (fun K hK => ?_)
                go_simp
                refine hK _ ?_
                clear hK K
                refine wg_blk_load (by rfl) 41 _ rfl b3 rfl (wc y) (by exact HBXU.out) _ Try.underlying41 rfl It.Try.size_w (fun K hK => ?_)
                go_simp
                refine hK _ ?_
                clear hK K
                refine wg_value (by rfl) (.slice (some ⟨g, 0, none⟩) n vcap) (fun u hu => by go_simp) (fun K hK => ?_)
                go_simp
                refine hK _ ?_
                clear hK K
                refine wg_value (by rfl) (.int .i64 (i : Int)) (fun u hu => by go_simp) (fun K hK => ?_)
                go_simp
                refine hK _ ?_
                clear hK K
                refine wg_value (by rfl) (.pointer (some ⟨g, 4 * i, none⟩)) (fun u hu => by have h9 := HIX.out u; go_simp) (fun K hK => ?_)
                go_simp
                refine hK _ ?_
                clear hK K
                refine wg_wv_load (by rfl) 41 _ rfl g (4 * i) rfl (z) (by exact HRW.out) _ Try.underlying41 rfl It.Try.size_w (fun K hK => ?_)
                go_simp
                refine hK _ ?_
                clear hK K
                refine wg_value (by rfl) (.bool true) (fun u _ => run_eql u .eql 41 41 _ _ (WV y) (WV z) _ rfl rfl rfl (guard_iw .eql _ _ y z u) (HGW.out u)) (fun K hK => ?_)
                go_simp
                refine hK _ ?_
                clear hK K
                refine w_value rfl (.bool true) (fun u hu => by go_simp) (fun K hK => ?_)
                go_simp
                refine hK _ ?_
                clear hK K
                refine w_value rfl (.bool true) (fun u hu => by go_simp) (fun K hK => ?_)
                go_simp
                refine hK _ ?_
                clear hK K
                refine w_value rfl (.bool true) (fun u hu => by go_simp) (fun K hK => ?_)
                go_simp
                refine hK _ ?_
                clear hK K
                refine wg_value (by rfl) (.int .i64 1) (fun u hu => by go_simp) (fun K hK => ?_)
                go_simp
                refine hK _ ?_
                clear hK K
                refine wg_value (by rfl) (.bool false) (fun u hu => by go_simp) (fun K hK => ?_)
                go_simp
                refine hK _ ?_
                clear hK K
                refine w_value rfl (.bool false) (fun u hu => by go_simp) (fun K hK => ?_)
                go_simp
                refine hK _ ?_
                clear hK K
                refine w_value rfl (.bool false) (fun u hu => by go_simp) (fun K hK => ?_)
                go_simp
                refine hK _ ?_
                clear hK K
                refine wg_value (by rfl) (.int .i64 1) (fun u hu => by go_simp) (fun K hK => ?_)
                go_simp
                refine hK _ ?_
                clear hK K
                refine wg_value (by rfl) (.bool true) (fun u hu => by go_simp) (fun K hK => ?_)
                go_simp
                refine hK _ ?_
                clear hK K
                refine wg_value (by rfl) (.bool true) (fun u hu => by go_simp) (fun K hK => ?_)
                go_simp
                refine hK _ ?_
                clear hK K
                refine wg_value (by rfl) (.slice (some ⟨g, 0, none⟩) n vcap) (fun u hu => by go_simp) (fun K hK => ?_)
                go_simp
                refine hK _ ?_
                clear hK K
                refine wg_value (by rfl) (.int .i64 (i : Int)) (fun u hu => by go_simp) (fun K hK => ?_)
                go_simp
                refine hK _ ?_
                clear hK K
                refine wg_value (by rfl) (.pointer (some ⟨g, 4 * i, none⟩)) (fun u hu => by have h9 := HIX.out u; go_simp) (fun K hK => ?_)
                go_simp
                refine hK _ ?_
                clear hK K
                refine wg_wv_load (by rfl) 41 _ rfl g (4 * i) rfl (z) (by exact HRW.out) _ Try.underlying41 rfl It.Try.size_w (fun K hK => ?_)
                go_simp
                refine hK _ ?_
                clear hK K
                refine wg_call (by rfl) 36 Try.f36 Try.func36 rfl rfl _ _ rfl [WV (z)] rfl (.bool false) (by exact XR.out) (fun K hK => ?_)
                go_simp
                refine hK _ ?_
                clear hK K
                refine wg_value (by rfl) (.bool false) (fun u hu => by go_simp) (fun K hK => ?_)
                go_simp
                refine hK _ ?_
                clear hK K
                refine w_value rfl (.bool false) (fun u hu => by go_simp) (fun K hK => ?_)
                go_simp
                refine hK _ ?_
                clear hK K
                refine w_nil ?_
                intro u hu
                have HN9 := Lib.hid (HNX.out u hu)
                clear hu HNX HRW HBXU XR HGW
                go_wp2_with fail
                go_roundw
                case rel => exact ⟨i + 1, by omega, by go_num, HN9⟩
                case measure => simp [intOf]; omega
          · clear HWY
            cases q with
            | false =>
              refine region_w Try.mixed (by kernel_rfl) ?_
              refine w_value rfl (.int .i64 4) (fun u hu => by go_simp) (fun K hK => ?_)
              go_simp
              refine hK _ ?_
              clear hK K
              refine w_value rfl (.bool false) (fun u hu => by go_simp) (fun K hK => ?_)
              go_simp
              refine hK _ ?_
              clear hK K
              refine w_value rfl (.bool false) (fun u hu => by go_simp) (fun K hK => ?_)
              go_simp
              refine hK _ ?_
              clear hK K
              refine w_value rfl (.bool false) (fun u hu => by go_simp) (fun K hK => ?_)
              go_simp
              refine hK _ ?_
              clear hK K
              refine w_skip 3 true (some false) rfl rfl rfl (fun K hK => ?_)
              go_simp
              refine hK _ ?_
              clear hK K
              refine w_skip 3 true (some false) rfl rfl rfl (fun K hK => ?_)
              go_simp
              refine hK _ ?_
              clear hK K
              refine w_skip 3 true (some false) rfl rfl rfl (fun K hK => ?_)
              go_simp
              refine hK _ ?_
              clear hK K
              refine w_skip 3 true (some false) rfl rfl rfl (fun K hK => ?_)
              go_simp
              refine hK _ ?_
              clear hK K
              refine w_skip 3 true (some false) rfl rfl rfl (fun K hK => ?_)
              go_simp
              refine hK _ ?_
              clear hK K
              refine w_skip 3 true (some false) rfl rfl rfl (fun K hK => ?_)
              go_simp
              refine hK _ ?_
              clear hK K
              refine w_value rfl (.bool false) (fun u hu => by go_simp) (fun K hK => ?_)
              go_simp
              refine hK _ ?_
              clear hK K
              refine w_value rfl (.bool false) (fun u hu => by go_simp) (fun K hK => ?_)
              go_simp
              refine hK _ ?_
              clear hK K
              refine w_value rfl (.bool false) (fun u hu => by go_simp) (fun K hK => ?_)
              go_simp
              refine hK _ ?_
              clear hK K
              refine w_skip 12 true (some false) rfl rfl rfl (fun K hK => ?_)
              go_simp
              refine hK _ ?_
              clear hK K
              refine w_skip 12 true (some false) rfl rfl rfl (fun K hK => ?_)
              go_simp
              refine hK _ ?_
              clear hK K
              refine w_value rfl (.bool false) (fun u hu => by go_simp) (fun K hK => ?_)
              go_simp
              refine hK _ ?_
              clear hK K
              refine w_value rfl (.bool false) (fun u hu => by go_simp) (fun K hK => ?_)
              go_simp
              refine hK _ ?_
              clear hK K
              refine wg_value (by rfl) (.int .i64 4) (fun u hu => by go_simp) (fun K hK => ?_)
              go_simp
              refine hK _ ?_
              clear hK K
              refine wg_value (by rfl) (.bool false) (fun u hu => by go_simp) (fun K hK => ?_)
              go_simp
              refine hK _ ?_
              clear hK K
              refine wg_value (by rfl) (.bool false) (fun u hu => by go_simp) (fun K hK => ?_)
              go_simp
              refine hK _ ?_
              clear hK K
              refine w_skip 19 true (some false) rfl rfl rfl (fun K hK => ?_)
              go_simp
              refine hK _ ?_
              clear hK K
              refine w_skip 19 true (some false) rfl rfl rfl (fun K hK => ?_)
              go_simp
              refine hK _ ?_
              clear hK K
              refine w_skip 19 true (some false) rfl rfl rfl (fun K hK => ?_)
              go_simp
              refine hK _ ?_
              clear hK K
              refine w_skip 19 true (some false) rfl rfl rfl (fun K hK => ?_)
              go_simp
              refine hK _ ?_
              clear hK K
              refine w_skip 19 true (some false) rfl rfl rfl (fun K hK => ?_)
              go_simp
              refine hK _ ?_
              clear hK K
              refine wg_value (by rfl) (.bool false) (fun u hu => by go_simp) (fun K hK => ?_)
              go_simp
              refine hK _ ?_
              clear hK K
              refine w_value rfl (.bool false) (fun u hu => by go_simp) (fun K hK => ?_)
              go_simp
              refine hK _ ?_
              clear hK K
              refine w_nil ?_
              intro u hu
              have HN9 := Lib.hid (HNX.out u hu)
              clear hu HNX HRW HBXU XR HGW
              go_wp2_with fail
              go_roundw
              case rel => exact ⟨i + 1, by omega, by go_num, HN9⟩
              case measure => simp [intOf]; omega
            | true =>
              cases zz with
              | false =>
                refine region_w Try.mixed (by kernel_rfl) ?_
                refine w_value rfl (.int .i64 4) (fun u hu => by go_simp) (fun K hK => ?_)
                go_simp
                refine hK _ ?_
                clear hK K
                refine w_value rfl (.bool false) (fun u hu => by go_simp) (fun K hK => ?_)
                go_simp
                refine hK _ ?_
                clear hK K
                refine w_value rfl (.bool true) (fun u hu => by go_simp) (fun K hK => ?_)
                go_simp
                refine hK _ ?_
                clear hK K
                refine w_value rfl (.bool true) (fun u hu => by go_simp) (fun K hK => ?_)
                go_simp
                refine hK _ ?_
                clear hK K
                refine wg_blk_load (by rfl) 41 _ rfl b3 rfl (wc y) (by exact HBXU.out) _ Try.underlying41 rfl It.Try.size_w (fun K hK => ?_)
                go_simp
                refine hK _ ?_
                clear hK K
                refine wg_value (by rfl) (.slice (some ⟨g, 0, none⟩) n vcap) (fun u hu => by go_simp) (fun K hK => ?_)
                go_simp
                refine hK _ ?_
                clear hK K
                refine wg_value (by rfl) (.int .i64 (i : Int)) (fun u hu => by go_simp) (fun K hK => ?_)
                go_simp
                refine hK _ ?_
                clear hK K
                refine wg_value (by rfl) (.pointer (some ⟨g, 4 * i, none⟩)) (fun u hu => by have h9 := HIX.out u; go_simp) (fun K hK => ?_)
                go_simp
                refine hK _ ?_
                clear hK K
                refine wg_wv_load (by rfl) 41 _ rfl g (4 * i) rfl (z) (by exact HRW.out) _ Try.underlying41 rfl It.Try.size_w (fun K hK => ?_)
                go_simp
                refine hK _ ?_
                clear hK K
                refine wg_value (by rfl) (.bool false) (fun u _ => run_eql u .eql 41 41 _ _ (WV y) (WV z) _ rfl rfl rfl (guard_iw .eql _ _ y z u) (HGW.out u)) (fun K hK => ?_)
                go_simp
                refine hK _ ?_
                clear hK K
                refine w_value rfl (.bool false) (fun u hu => by go_simp) (fun K hK => ?_)
                go_simp
                refine hK _ ?_
                clear hK K
                refine w_value rfl (.bool false) (fun u hu => by go_simp) (fun K hK => ?_)
                go_simp
                refine hK _ ?_
                clear hK K
                refine w_value rfl (.bool false) (fun u hu => by go_simp) (fun K hK => ?_)
                go_simp
                refine hK _ ?_
                clear hK K
                refine w_skip 12 true (some false) rfl rfl rfl (fun K hK => ?_)
                go_simp
                refine hK _ ?_
                clear hK K
                refine w_skip 12 true (some false) rfl rfl rfl (fun K hK => ?_)
                go_simp
                refine hK _ ?_
                clear hK K
                refine w_value rfl (.bool false) (fun u hu => by go_simp) (fun K hK => ?_)
                go_simp
                refine hK _ ?_
                clear hK K
                refine w_value rfl (.bool false) (fun u hu => by go_simp) (fun K hK => ?_)
                go_simp
                refine hK _ ?_
                clear hK K
                refine wg_value (by rfl) (.int .i64 4) (fun u hu => by go_simp) (fun K hK => ?_)
                go_simp
                refine hK _ ?_
                clear hK K
                refine wg_value (by rfl) (.bool false) (fun u hu => by go_simp) (fun K hK => ?_)
                go_simp
                refine hK _ ?_
                clear hK K
                refine wg_value (by rfl) (.bool false) (fun u hu => by go_simp) (fun K hK => ?_)
                go_simp
                refine hK _ ?_
                clear hK K
                refine w_skip 19 true (some false) rfl rfl rfl (fun K hK => ?_)
                go_simp
                refine hK _ ?_
                clear hK K
                refine w_skip 19 true (some false) rfl rfl rfl (fun K hK => ?_)
                go_simp
                refine hK _ ?_
                clear hK K
                refine w_skip 19 true (some false) rfl rfl rfl (fun K hK => ?_)
                go_simp
                refine hK _ ?_
                clear hK K
                refine w_skip 19 true (some false) rfl rfl rfl (fun K hK => ?_)
                go_simp
                refine hK _ ?_
                clear hK K
                refine w_skip 19 true (some false) rfl rfl rfl (fun K hK => ?_)
                go_simp
                refine hK _ ?_
                clear hK K
                refine wg_value (by rfl) (.bool false) (fun u hu => by go_simp) (fun K hK => ?_)
                go_simp
                refine hK _ ?_
                clear hK K
                refine w_value rfl (.bool false) (fun u hu => by go_simp) (fun K hK => ?_)
                go_simp
                refine hK _ ?_
                clear hK K
                refine w_nil ?_
                intro u hu
                have HN9 := Lib.hid (HNX.out u hu)
                clear hu HNX HRW HBXU XR HGW
                go_wp2_with fail
                go_roundw
                case rel => exact ⟨i + 1, by omega, by go_num, HN9⟩
                case measure => simp [intOf]; omega
              | true =>
                refine region_w Try.mixed (by kernel_rfl) ?_
                refine w_value rfl (.int .i64 4) (fun u hu => by go_simp) (fun K hK => ?_)
                go_simp
                refine hK _ ?_
                clear hK K
                refine w_value rfl (.bool false) (fun u hu => by go_simp) (fun K hK => ?_)
                go_simp
                refine hK _ ?_
                clear hK K
                refine w_value rfl (.bool true) (fun u hu => by go_simp) (fun K hK => ?_)
                go_simp
                refine hK _ ?_
                clear hK K
                refine w_value rfl (.bool true) (fun u hu => by go_simp) (fun K hK => ?_)
                go_simp
                refine hK _ ?_
                clear hK K
                refine wg_blk_load (by rfl) 41 _ rfl b3 rfl (wc y) (by exact HBXU.out) _ Try.underlying41 rfl It.Try.size_w (fun K hK => ?_)
                go_simp
                refine hK _ ?_
                clear hK K
                refine wg_value (by rfl) (.slice (some ⟨g, 0, none⟩) n vcap) (fun u hu => by go_simp) (fun K hK => ?_)
                go_simp
                refine hK _ ?_
                clear hK K
                refine wg_value (by rfl) (.int .i64 (i : Int)) (fun u hu => by go_simp) (fun K hK => ?_)
                go_simp
                refine hK _ ?_
                clear hK K
                refine wg_value (by rfl) (.pointer (some ⟨g, 4 * i, none⟩)) (fun u hu => by have h9 := HIX.out u; go_simp) (fun K hK => ?_)
                go_simp
                refine hK _ ?_
                clear hK K
                refine wg_wv_load (by rfl) 41 _ rfl g (4 * i) rfl (z) (by exact HRW.out) _ Try.underlying41 rfl It.Try.size_w (fun K hK => ?_)
                go_simp
                refine hK _ ?_
                clear hK K
                refine wg_value (by rfl) (.bool true) (fun u _ => run_eql u .eql 41 41 _ _ (WV y) (WV z) _ rfl rfl rfl (guard_iw .eql _ _ y z u) (HGW.out u)) (fun K hK => ?_)
                go_simp
                refine hK _ ?_
                clear hK K
                refine w_value rfl (.bool true) (fun u hu => by go_simp) (fun K hK => ?_)
                go_simp
                refine hK _ ?_
                clear hK K
                refine w_value rfl (.bool true) (fun u hu => by go_simp) (fun K hK => ?_)
                go_simp
                refine hK _ ?_
                clear hK K
                refine w_value rfl (.bool true) (fun u hu => by go_simp) (fun K hK => ?_)
                go_simp
                refine hK _ ?_
                clear hK K
                refine wg_value (by rfl) (.int .i64 4) (fun u hu => by go_simp) (fun K hK => ?_)
                go_simp
                refine hK _ ?_
                clear hK K
                refine wg_value (by rfl) (.bool false) (fun u hu => by go_simp) (fun K hK => ?_)
                go_simp
                refine hK _ ?_
                clear hK K
                refine w_value rfl (.bool false) (fun u hu => by go_simp) (fun K hK => ?_)
                go_simp
                refine hK _ ?_
                clear hK K
                refine w_value rfl (.bool false) (fun u hu => by go_simp) (fun K hK => ?_)
                go_simp
                refine hK _ ?_
                clear hK K
                refine wg_value (by rfl) (.int .i64 4) (fun u hu => by go_simp) (fun K hK => ?_)
                go_simp
                refine hK _ ?_
                clear hK K
                refine wg_value (by rfl) (.bool false) (fun u hu => by go_simp) (fun K hK => ?_)
                go_simp
                refine hK _ ?_
                clear hK K
                refine wg_value (by rfl) (.bool false) (fun u hu => by go_simp) (fun K hK => ?_)
                go_simp
                refine hK _ ?_
                clear hK K
                refine w_skip 19 true (some false) rfl rfl rfl (fun K hK => ?_)
                go_simp
                refine hK _ ?_
                clear hK K
                refine w_skip 19 true (some false) rfl rfl rfl (fun K hK => ?_)
                go_simp
                refine hK _ ?_
                clear hK K
                refine w_skip 19 true (some false) rfl rfl rfl (fun K hK => ?_)
                go_simp
                refine hK _ ?_
                clear hK K
                refine w_skip 19 true (some false) rfl rfl rfl (fun K hK => ?_)
                go_simp
                refine hK _ ?_
                clear hK K
                refine w_skip 19 true (some false) rfl rfl rfl (fun K hK => ?_)
                go_simp
                refine hK _ ?_
                clear hK K
                refine wg_value (by rfl) (.bool false) (fun u hu => by go_simp) (fun K hK => ?_)
                go_simp
                refine hK _ ?_
                clear hK K
                refine w_value rfl (.bool false) (fun u hu => by go_simp) (fun K hK => ?_)
                go_simp
                refine hK _ ?_
                clear hK K
                refine w_nil ?_
                intro u hu
                have HN9 := Lib.hid (HNX.out u hu)
                clear hu HNX HRW HBXU XR HGW
                go_wp2_with fail
                go_roundw
                case rel => exact ⟨i + 1, by omega, by go_num, HN9⟩
                case measure => simp [intOf]; omega
        · obtain rfl : i = n := by omega
          obtain ⟨S, hT, hIV⟩ := HLr.out
          obtain ⟨L, HL⟩ : ∃ L, Hid ((gt S X).wr = L) := ⟨_, rfl⟩
          have HG := Lib.hid hT.good
          have HDK : Hid (Dk L) := by show Dk _; rw [← HL.out]; exact hIV.dk
          have HOX := Lib.hid hIV.ox
          have HOT := Lib.hid hIV.other
          have HLR : Hid (∀ x ∈ L, right x = true) := by show ∀ x ∈ L, _; rw [← HL.out]; exact (gt_ok hT.good.ok X).each
          have HL8 : Hid (L.length ≤ 8) := by show _ ≤ _; rw [← HL.out]; exact (gt_ok hT.good.ok X).len
          have C := Lib.hid (twrites_any hT X)
          rw [HL.out] at C
          have HT := Lib.hid hT
          clear hT hIV HLr
          go_wp2_with fail
          refine (C.out).mono ?_; rintro e w50 ⟨v9, rfl, hor, hb⟩
          have H50 := Lib.hid (HT.out.below hb)
          obtain ⟨m, HMM⟩ : ∃ m, Hid (L.length = m) := ⟨_, rfl⟩
          obtain ⟨oa, ocap, ev, hoa⟩ := or_first hor
          rw [HMM.out] at ev hoa
          subst ev
          have HOA := Lib.hid hoa
          have HIS := Lib.hid hor.is
          have HB0 : Hid (Below w50.heap.size w50 w50) := Below.refl _ _
          have hm8 : (m : Int) ≤ 8 := by have := HL8.out; have := HMM.out; omega
          clear hor hb C HT hoa
          go_wp2_with fail
          go_loopw [20, 21, 22, 23] (fun x y1 y2 y3 wr => ∃ j : Nat, j ≤ m ∧ x = .int .i64 j ∧ Hid (Below w50.heap.size w50 wr)) (fun x _ _ _ _ => m - (intOf x).toNat)
          case atStart => exact ⟨0, by omega, rfl, HB0⟩
          case round =>
            obtain ⟨j, hj, rfl, HBr⟩ := hrel
            clear HB0
            by_cases hlt : j < m
            · have ilt : (j : Int) < (m : Int) := by omega
              obtain ⟨g, hoa⟩ := HOA.out (by omega)
              subst hoa
              obtain ⟨z, HZ⟩ : ∃ z, Hid (L.getD j none_ = z) := ⟨_, rfl⟩
              have hrow := isr_at4 HIS.out j (by rw [HMM.out]; exact hlt)
              rw [HZ.out] at hrow
              have HRR : Hid (∀ u, Below wr.heap.size wr u → u.rangeAt g (4 * j) (wc z)) := fun u hu k v hv => by
                have h8 := HBr.out.trans (hu.mono HBr.out.size)
                rw [h8.cell (p := ⟨g, 4 * j + k, none⟩) hrow.1]
                exact hrow.2 k v hv
              have HIX : Hid (∀ w, (Instr.indexAt 58 (.slice (some ⟨g, 0, none⟩) m ocap) (.int .i64 (j : Int))).run Try.prog w = .ok (.pointer (some ⟨g, 4 * j, none⟩)) w) := fun w => by
                have h9 := index_iw g 0 m ocap j hlt w
                rwa [Nat.zero_add] at h9
              have hix := HIX.out
              have hmem : z ∈ L := by rw [← HZ.out]; exact List.mem_of_getElem? (getD_some (by rw [HMM.out]; exact hlt) none_)
              have HRZ : Hid (right z = true) := HLR.out z hmem
              have CRZ := Lib.hid (fun u => wright_any z u)
              rw [HRZ.out] at CRZ
              obtain ⟨y, HY0⟩ : ∃ y, Hid (ownV (gt S X).wr (key z) = y) := ⟨_, rfl⟩
              have HQ0 : Hid (ownB (gt S X).wr (key z) = true) := by
                show _ = _
                rw [HL.out, ← HZ.out]; unfold ownB; rw [HDK.out j (by rw [HMM.out]; exact hlt)]; simp; rw [HMM.out]; exact hlt
              have XO : Hid (∀ u, Below wr.heap.size wr u → Calls Try.prog 24 [(.pointer (some ⟨b, 0, none⟩)), (.int .i64 X), (.string z.1), (.string z.2.1)].toArray u fun e u' => e = .returned (.tuple #[WV y, .bool true]) ∧ Below u.heap.size u u') := fun u hu => by
                have h9 := town_any (H50.out.below (HBr.out.trans (hu.mono HBr.out.size))) X z.1 z.2.1
                rw [show (z.1, z.2.1) = key z from rfl, HY0.out, HQ0.out] at h9
                exact h9
              have K0 : Hid (∀ u, Below wr.heap.size wr u → u.cell? ⟨g, 4 * j, none⟩ = some (.string z.1)) := fun u hu => HRR.out u hu 0 _ rfl
              have K1 : Hid (∀ u, Below wr.heap.size wr u → u.cell? ⟨g, 4 * j + 1, none⟩ = some (.string z.2.1)) := fun u hu => HRR.out u hu 1 _ rfl
              clear hrow hmem
              go_upto_region 26 with fail
              go_cut [21, 22] (fun x1 x2 wx => ∃ bx : Nat, x1 = .pointer (some ⟨bx, 0, none⟩) ∧ x2 = .bool true ∧ Hid (Blk wx bx (wc y) ∧ bx < wx.heap.size) ∧ Hid (Below wr.heap.size wr wx))
              case first =>
                as_aux_lemma =>
                  have HSB : Hid (Below wr.heap.size wr wr.drew) := (Below.refl wr.heap.size wr).drew
                  refine region_tree (fun u => Below wr.heap.size wr u) 19 Try.mixed ?_
                  refine tr_read 0 rfl (by kernel_rfl) HSB.out ?_
                  refine c_move rfl _ rfl (.pointer (some ⟨b, 0, none⟩)) rfl (fun _ _ _ h => h) (fun K hK => ?_)
                  go_simp
                  refine hK _ ?_
                  clear hK K
                  refine c_nil ?_
                  refine tr_read 1 rfl (by kernel_rfl) HSB.out ?_
                  refine c_move rfl _ rfl (.int .i64 X) rfl (fun _ _ _ h => h) (fun K hK => ?_)
                  go_simp
                  refine hK _ ?_
                  clear hK K
                  refine c_nil ?_
                  refine tr_read 2 rfl (by kernel_rfl) HSB.out ?_
                  refine c_move rfl _ rfl (.slice (some ⟨g, 0, none⟩) m ocap) rfl (fun _ _ _ h => h) (fun K hK => ?_)
                  go_simp
                  refine hK _ ?_
                  clear hK K
                  refine c_nil ?_
                  refine tr_read 3 rfl (by kernel_rfl) HSB.out ?_
                  refine c_move rfl _ rfl (.int .i64 (j : Int)) rfl (fun _ _ _ h => h) (fun K hK => ?_)
                  go_simp
                  refine hK _ ?_
                  clear hK K
                  refine c_nil ?_
                  refine tr_read 4 rfl (by kernel_rfl) HSB.out ?_
                  refine c_value rfl (.pointer (some ⟨g, 4 * j, none⟩)) (fun u hu => by have h9 := HIX.out u; go_simp) (fun _ _ _ h => h) (fun K hK => ?_)
                  go_simp
                  refine hK _ ?_
                  clear hK K
                  refine c_nil ?_
                  refine tr_read 5 rfl (by kernel_rfl) HSB.out ?_
                  refine c_value rfl (.pointer (some ⟨g, 4 * j, none⟩)) (fun u hu => by go_simp) (fun _ _ _ h => h) (fun K hK => ?_)
                  go_simp
                  refine hK _ ?_
                  clear hK K
                  refine c_nil ?_
                  refine tr_read 6 rfl (by kernel_rfl) HSB.out ?_
                  refine c_value rfl (.string z.1) (fun u hu => by have h9 := K0.out u hu; go_simp) (fun _ _ _ h => h) (fun K hK => ?_)
                  go_simp
                  refine hK _ ?_
                  clear hK K
                  refine c_nil ?_
                  refine tr_read 7 rfl (by kernel_rfl) HSB.out ?_
                  refine c_move rfl _ rfl (.slice (some ⟨g, 0, none⟩) m ocap) rfl (fun _ _ _ h => h) (fun K hK => ?_)
                  go_simp
                  refine hK _ ?_
                  clear hK K
                  refine c_nil ?_
                  refine tr_read 8 rfl (by kernel_rfl) HSB.out ?_
                  refine c_move rfl _ rfl (.int .i64 (j : Int)) rfl (fun _ _ _ h => h) (fun K hK => ?_)
                  go_simp
                  refine hK _ ?_
                  clear hK K
                  refine c_nil ?_
                  refine tr_read 9 rfl (by kernel_rfl) HSB.out ?_
                  refine c_value rfl (.pointer (some ⟨g, 4 * j, none⟩)) (fun u hu => by have h9 := HIX.out u; go_simp) (fun _ _ _ h => h) (fun K hK => ?_)
                  go_simp
                  refine hK _ ?_
                  clear hK K
                  refine c_nil ?_
                  refine tr_read 10 rfl (by kernel_rfl) HSB.out ?_
                  refine c_value rfl (.pointer (some ⟨g, 4 * j + 1, none⟩)) (fun u hu => by go_simp) (fun _ _ _ h => h) (fun K hK => ?_)
                  go_simp
                  refine hK _ ?_
                  clear hK K
                  refine c_nil ?_
                  refine tr_read 11 rfl (by kernel_rfl) HSB.out ?_
                  refine c_value rfl (.string z.2.1) (fun u hu => by have h9 := K1.out u hu; go_simp) (fun _ _ _ h => h) (fun K hK => ?_)
                  go_simp
                  refine hK _ ?_
                  clear hK K
                  refine c_nil ?_
                  refine tr_two 12 16 rfl rfl (by kernel_rfl) ?_ ?_
                  · skip
                    go_wp2_with (first | (go_at_call 24; refine Calls.mono (XO.out _ HSB.out) ?_; rintro e ua ⟨rfl, hb⟩))
                    have HBua : Hid (Below wr.heap.size wr ua) := HSB.out.trans (hb.mono HSB.out.size)
                    clear hb
                    refine And.intro (fun _ => HBua.out) ?_
                    refine tr_read 13 rfl (by kernel_rfl) HBua.out ?_
                    refine c_move rfl _ rfl (.tuple #[WV y, .bool true]) rfl (fun _ _ _ h => h) (fun K hK => ?_)
                    go_simp
                    refine hK _ ?_
                    clear hK K
                    refine c_nil ?_
                    refine tr_read 14 rfl (by kernel_rfl) HBua.out ?_
                    refine c_value rfl (WV y) (fun u hu => by go_simp) (fun _ _ _ h => h) (fun K hK => ?_)
                    go_simp
                    refine hK _ ?_
                    clear hK K
                    refine c_nil ?_
                    refine tr_read 15 rfl (by kernel_rfl) HBua.out ?_
                    refine c_value rfl (.bool true) (fun u hu => by go_simp) (fun _ _ _ h => h) (fun K hK => ?_)
                    go_simp
                    refine hK _ ?_
                    clear hK K
                    refine c_nil ?_
                    refine tr_one 16 rfl (by kernel_rfl) ?_
                    go_wp2_with (first | refine blk_alloc rfl 41 (wc none_) rfl It.Try.info_iw2 ?_)
                    intro uc A3 B3 Z3
                    have HBuc : Hid (Below wr.heap.size wr uc) := HBua.out.trans (B3.mono HBua.out.size)
                    have HZuc : Hid (ua.heap.size < uc.heap.size) := by show _ < _; have h9 : uc.heap.size = ua.heap.size + 1 := Z3; omega
                    have HX : Hid (Blk uc ua.heap.size (wc none_)) := A3
                    clear A3 B3 Z3
                    refine And.intro (fun _ => HBuc.out) ?_
                    refine tr_one 17 rfl (by kernel_rfl) ?_
                    go_wp2_with (first | refine blk_store rfl 41 _ _ rfl (ua.heap.size) rfl (wc y) rfl _ HX.out rfl It.Try.size_w (It.one_wc y) ?_)
                    intro u3 A4 U4
                    have HBX : Hid (Blk u3 (ua.heap.size) (wc y) ∧ ua.heap.size < u3.heap.size) := ⟨A4, by rw [U4.size]; exact HZuc.out⟩
                    have HU3 : Hid (Below wr.heap.size wr u3) := HBuc.out.trans (U4.below (HBua.out.size))
                    clear A4 U4 HX
                    refine And.intro (fun _ => HU3.out) ?_
                    refine tr_one 18 rfl (by kernel_rfl) ?_
                    go_wp2_with fail
                    refine And.intro (fun _ => HU3.out) ?_
                    refine tr_end (by kernel_rfl) ?_
                    go_wp2_with fail
                    go_meet
                    exact ⟨_, rfl, rfl, HBX, HU3⟩
                  · skip
                    go_wp2_with (first | refine blk_alloc rfl 41 (wc none_) rfl It.Try.info_iw2 ?_)
                    intro uc A3 B3 Z3
                    have HBuc : Hid (Below wr.heap.size wr uc) := HSB.out.trans (B3.mono HSB.out.size)
                    have HZuc : Hid (wr.heap.size < uc.heap.size) := by show _ < _; have h9 : uc.heap.size = wr.heap.size + 1 := Z3; omega
                    have HX0 : Hid (Blk uc wr.heap.size (wc none_)) := A3
                    clear A3 B3 Z3
                    refine And.intro (fun _ => HBuc.out) ?_
                    refine tr_one 12 rfl (by kernel_rfl) ?_
                    go_wp2_with (first | (go_at_call 24; refine Calls.mono (XO.out _ HBuc.out) ?_; rintro e ua ⟨rfl, hb⟩))
                    have HBua : Hid (Below wr.heap.size wr ua) := HBuc.out.trans (hb.mono HBuc.out.size)
                    have HX : Hid (Blk ua wr.heap.size (wc none_)) := Blk.below HX0.out hb HZuc.out
                    have HZua : Hid (wr.heap.size < ua.heap.size) := Nat.lt_of_lt_of_le HZuc.out hb.size
                    clear hb HX0
                    refine And.intro (fun _ => HBua.out) ?_
                    refine tr_read 13 rfl (by kernel_rfl) HBua.out ?_
                    refine c_move rfl _ rfl (.tuple #[WV y, .bool true]) rfl (fun _ _ _ h => h) (fun K hK => ?_)
                    go_simp
                    refine hK _ ?_
                    clear hK K
                    refine c_nil ?_
                    refine tr_read 14 rfl (by kernel_rfl) HBua.out ?_
                    refine c_value rfl (WV y) (fun u hu => by go_simp) (fun _ _ _ h => h) (fun K hK => ?_)
                    go_simp
                    refine hK _ ?_
                    clear hK K
                    refine c_nil ?_
                    refine tr_read 15 rfl (by kernel_rfl) HBua.out ?_
                    refine c_value rfl (.bool true) (fun u hu => by go_simp) (fun _ _ _ h => h) (fun K hK => ?_)
                    go_simp
                    refine hK _ ?_
                    clear hK K
                    refine c_nil ?_
                    refine tr_one 17 rfl (by kernel_rfl) ?_
                    go_wp2_with (first | refine blk_store rfl 41 _ _ rfl (wr.heap.size) rfl (wc y) rfl _ HX.out rfl It.Try.size_w (It.one_wc y) ?_)
                    intro u3 A4 U4
                    have HBX : Hid (Blk u3 (wr.heap.size) (wc y) ∧ wr.heap.size < u3.heap.size) := ⟨A4, by rw [U4.size]; exact HZua.out⟩
                    have HU3 : Hid (Below wr.heap.size wr u3) := HBua.out.trans (U4.below (Nat.le_refl _))
                    clear A4 U4 HX
                    refine And.intro (fun _ => HU3.out) ?_
                    refine tr_one 18 rfl (by kernel_rfl) ?_
                    go_wp2_with fail
                    refine And.intro (fun _ => HU3.out) ?_
                    refine tr_end (by kernel_rfl) ?_
                    go_wp2_with fail
                    go_meet
                    exact ⟨_, rfl, rfl, HBX, HU3⟩
              case rest =>
              rename World => u3
              obtain ⟨b4, rfl, rfl, HBX, HU3⟩ := hcut
              have HR3 := Lib.hid (HRR.out u3 HU3.out)
              have HB3 := Lib.hid (HBr.out.trans (HU3.out.mono HBr.out.size))
              clear XO K0 K1 HBX HU3 HRR HBr
              go_wp2_with (first | refine mid_loadg (by rfl) 41 _ rfl g (4 * j) rfl (wc z) HR3.out _ Try.underlying41 rfl It.Try.size_w ?_)
              refine (CRZ.out _).mono ?_; rintro e w60 ⟨rfl, hb⟩
              have HI0 : Hid (Below w50.heap.size w50 w60) := HB3.out.trans (hb.mono HB3.out.size)
              clear hb CRZ HB3 HR3
              go_wp2_with fail
              go_loopw [23] (fun x wr => ∃ k : Nat, k ≤ j ∧ x = .int .i64 k ∧ Hid (Below w50.heap.size w50 wr)) (fun x _ => j - (intOf x).toNat)
              case atStart => exact ⟨0, by omega, rfl, HI0⟩
              case round =>
                obtain ⟨k, hk, rfl, HBr⟩ := hrel
                clear HI0
                by_cases hlt2 : k < j
                · have ilt2 : (k : Int) < (j : Int) := by omega
                  obtain ⟨x, HX⟩ : ∃ x, Hid (L.getD k none_ = x) := ⟨_, rfl⟩
                  have hkm : k < m := by omega
                  have hrow := isr_at4 HIS.out j (by rw [HMM.out]; exact hlt)
                  have hrow2 := isr_at4 HIS.out k (by rw [HMM.out]; exact hkm)
                  rw [HZ.out] at hrow
                  rw [HX.out] at hrow2
                  have hne : key x ≠ key z := by
                    have h9 := HDK.out j (by rw [HMM.out]; exact hlt)
                    rw [HZ.out] at h9
                    rw [← HX.out]
                    exact ix_before (by rw [h9]; exact hlt2)
                  have J0 : Hid (∀ u, Below wr.heap.size wr u → u.cell? ⟨g, 4 * j, none⟩ = some (.string z.1)) := fun u hu => by
                    rw [(HBr.out.trans (hu.mono HBr.out.size)).cell (p := ⟨g, 4 * j, none⟩) hrow.1]; exact hrow.2 0 _ rfl
                  have J1 : Hid (∀ u, Below wr.heap.size wr u → u.cell? ⟨g, 4 * j + 1, none⟩ = some (.string z.2.1)) := fun u hu => by
                    rw [(HBr.out.trans (hu.mono HBr.out.size)).cell (p := ⟨g, 4 * j + 1, none⟩) hrow.1]; exact hrow.2 1 _ rfl
                  have I0 : Hid (∀ u, Below wr.heap.size wr u → u.cell? ⟨g, 4 * k, none⟩ = some (.string x.1)) := fun u hu => by
                    rw [(HBr.out.trans (hu.mono HBr.out.size)).cell (p := ⟨g, 4 * k, none⟩) hrow.1]; exact hrow2.2 0 _ rfl
                  have I1 : Hid (∀ u, Below wr.heap.size wr u → u.cell? ⟨g, 4 * k + 1, none⟩ = some (.string x.2.1)) := fun u hu => by
                    rw [(HBr.out.trans (hu.mono HBr.out.size)).cell (p := ⟨g, 4 * k + 1, none⟩) hrow.1]; exact hrow2.2 1 _ rfl
                  have HIK : Hid (∀ w, (Instr.indexAt 58 (.slice (some ⟨g, 0, none⟩) m ocap) (.int .i64 (k : Int))).run Try.prog w = .ok (.pointer (some ⟨g, 4 * k, none⟩)) w) := fun w => by
                    have h9 := index_iw g 0 m ocap k hkm w
                    rwa [Nat.zero_add] at h9
                  clear hrow hrow2
                  obtain ⟨xb, xk, xv, xg⟩ := x
                  obtain ⟨zb, zk, zv, zg⟩ := z
                  go_wp2_with fail
                  by_cases hb1 : xb = zb
                  · subst hb1
                    have hk2 : ¬ xk.toList = zk.toList := fun e => hne (by
                      have : xk = zk := by rcases xk with ⟨⟨_⟩⟩; rcases zk with ⟨⟨_⟩⟩; simpa using e
                      rw [this]; rfl)
                    refine region_w Try.mixed (by kernel_rfl) ?_
                    refine w_value rfl (.slice (some ⟨g, 0, none⟩) m ocap) (fun u hu => by go_simp) (fun K hK => ?_)
                    go_simp
                    refine hK _ ?_
                    clear hK K
                    refine w_value rfl (.int .i64 (k : Int)) (fun u hu => by go_simp) (fun K hK => ?_)
                    go_simp
                    refine hK _ ?_
                    clear hK K
                    refine w_value rfl (.pointer (some ⟨g, 4 * k, none⟩)) (fun u hu => by have h9 := HIK.out u; go_simp) (fun K hK => ?_)
                    go_simp
                    refine hK _ ?_
                    clear hK K
                    refine w_value rfl (.pointer (some ⟨g, 4 * k, none⟩)) (fun u hu => by go_simp) (fun K hK => ?_)
                    go_simp
                    refine hK _ ?_
                    clear hK K
                    refine w_value rfl (.string xb) (fun u hu => by have h9 := I0.out u hu; go_simp) (fun K hK => ?_)
                    go_simp
                    refine hK _ ?_
                    clear hK K
                    refine w_value rfl (.slice (some ⟨g, 0, none⟩) m ocap) (fun u hu => by go_simp) (fun K hK => ?_)
                    go_simp
                    refine hK _ ?_
                    clear hK K
                    refine w_value rfl (.int .i64 (j : Int)) (fun u hu => by go_simp) (fun K hK => ?_)
                    go_simp
                    refine hK _ ?_
                    clear hK K
                    refine w_value rfl (.pointer (some ⟨g, 4 * j, none⟩)) (fun u hu => by have h9 := HIX.out u; go_simp) (fun K hK => ?_)
                    go_simp
                    refine hK _ ?_
                    clear hK K
                    refine w_value rfl (.pointer (some ⟨g, 4 * j, none⟩)) (fun u hu => by go_simp) (fun K hK => ?_)
                    go_simp
                    refine hK _ ?_
                    clear hK K
                    refine w_value rfl (.string xb) (fun u hu => by have h9 := J0.out u hu; go_simp) (fun K hK => ?_)
                    go_simp
                    refine hK _ ?_
                    clear hK K
                    refine w_value rfl (.bool true) (fun u hu => by go_simp) (fun K hK => ?_)
                    go_simp
                    refine hK _ ?_
                    clear hK K
                    refine w_value rfl (.bool true) (fun u hu => by go_simp) (fun K hK => ?_)
                    go_simp
                    refine hK _ ?_
                    clear hK K
                    refine wg_value (by rfl) (.slice (some ⟨g, 0, none⟩) m ocap) (fun u hu => by go_simp) (fun K hK => ?_)
                    go_simp
                    refine hK _ ?_
                    clear hK K
                    refine wg_value (by rfl) (.int .i64 (k : Int)) (fun u hu => by go_simp) (fun K hK => ?_)
                    go_simp
                    refine hK _ ?_
                    clear hK K
                    refine wg_value (by rfl) (.pointer (some ⟨g, 4 * k, none⟩)) (fun u hu => by have h9 := HIK.out u; go_simp) (fun K hK => ?_)
                    go_simp
                    refine hK _ ?_
                    clear hK K
                    refine wg_value (by rfl) (.pointer (some ⟨g, 4 * k + 1, none⟩)) (fun u hu => by go_simp) (fun K hK => ?_)
                    go_simp
                    refine hK _ ?_
                    clear hK K
                    refine wg_value (by rfl) (.string xk) (fun u hu => by have h9 := I1.out u hu; go_simp) (fun K hK => ?_)
                    go_simp
                    refine hK _ ?_
                    clear hK K
                    refine wg_value (by rfl) (.slice (some ⟨g, 0, none⟩) m ocap) (fun u hu => by go_simp) (fun K hK => ?_)
                    go_simp
                    refine hK _ ?_
                    clear hK K
                    refine wg_value (by rfl) (.int .i64 (j : Int)) (fun u hu => by go_simp) (fun K hK => ?_)
                    go_simp
                    refine hK _ ?_
                    clear hK K
                    refine wg_value (by rfl) (.pointer (some ⟨g, 4 * j, none⟩)) (fun u hu => by have h9 := HIX.out u; go_simp) (fun K hK => ?_)
                    go_simp
                    refine hK _ ?_
                    clear hK K
                    refine wg_value (by rfl) (.pointer (some ⟨g, 4 * j + 1, none⟩)) (fun u hu => by go_simp) (fun K hK => ?_)
                    go_simp
                    refine hK _ ?_
                    clear hK K
                    refine wg_value (by rfl) (.string zk) (fun u hu => by have h9 := J1.out u hu; go_simp) (fun K hK => ?_)
                    go_simp
                    refine hK _ ?_
                    clear hK K
                    refine wg_value (by rfl) (.bool false) (fun u hu => by have h9 := hk2; go_simp) (fun K hK => ?_)
                    go_simp
                    refine hK _ ?_
                    clear hK K
                    refine w_value rfl (.bool false) (fun u hu => by go_simp) (fun K hK => ?_)
                    go_simp
                    refine hK _ ?_
                    clear hK K
                    refine w_nil ?_
                    intro u hu
                    have HN9 := Lib.hid (HBr.out.trans (hu.mono HBr.out.size))
                    clear hu I0 I1 J0 J1 HIK
                    go_wp2_with fail
                    go_roundw
                    case rel => exact ⟨k + 1, by omega, by go_num, HN9⟩
                    case measure => simp [intOf]; omega
                  · have hb2 : ¬ xb.toList = zb.toList := fun e => hb1 (by rcases xb with ⟨⟨_⟩⟩; rcases zb with ⟨⟨_⟩⟩; simpa using e)
                    refine region_w Try.mixed (by kernel_rfl) ?_
                    refine w_value rfl (.slice (some ⟨g, 0, none⟩) m ocap) (fun u hu => by go_simp) (fun K hK => ?_)
                    go_simp
                    refine hK _ ?_
                    clear hK K
                    refine w_value rfl (.int .i64 (k : Int)) (fun u hu => by go_simp) (fun K hK => ?_)
                    go_simp
                    refine hK _ ?_
                    clear hK K
                    refine w_value rfl (.pointer (some ⟨g, 4 * k, none⟩)) (fun u hu => by have h9 := HIK.out u; go_simp) (fun K hK => ?_)
                    go_simp
                    refine hK _ ?_
                    clear hK K
                    refine w_value rfl (.pointer (some ⟨g, 4 * k, none⟩)) (fun u hu => by go_simp) (fun K hK => ?_)
                    go_simp
                    refine hK _ ?_
                    clear hK K
                    refine w_value rfl (.string xb) (fun u hu => by have h9 := I0.out u hu; go_simp) (fun K hK => ?_)
                    go_simp
                    refine hK _ ?_
                    clear hK K
                    refine w_value rfl (.slice (some ⟨g, 0, none⟩) m ocap) (fun u hu => by go_simp) (fun K hK => ?_)
                    go_simp
                    refine hK _ ?_
                    clear hK K
                    refine w_value rfl (.int .i64 (j : Int)) (fun u hu => by go_simp) (fun K hK => ?_)
                    go_simp
                    refine hK _ ?_
                    clear hK K
                    refine w_value rfl (.pointer (some ⟨g, 4 * j, none⟩)) (fun u hu => by have h9 := HIX.out u; go_simp) (fun K hK => ?_)
                    go_simp
                    refine hK _ ?_
                    clear hK K
                    refine w_value rfl (.pointer (some ⟨g, 4 * j, none⟩)) (fun u hu => by go_simp) (fun K hK => ?_)
                    go_simp
                    refine hK _ ?_
                    clear hK K
                    refine w_value rfl (.string zb) (fun u hu => by have h9 := J0.out u hu; go_simp) (fun K hK => ?_)
                    go_simp
                    refine hK _ ?_
                    clear hK K
                    refine w_value rfl (.bool false) (fun u hu => by have h9 := hb2; go_simp) (fun K hK => ?_)
                    go_simp
                    refine hK _ ?_
                    clear hK K
                    refine w_value rfl (.bool false) (fun u hu => by go_simp) (fun K hK => ?_)
                    go_simp
                    refine hK _ ?_
                    clear hK K
                    refine w_skip 11 true (some false) rfl rfl rfl (fun K hK => ?_)
                    go_simp
                    refine hK _ ?_
                    clear hK K
                    refine w_skip 11 true (some false) rfl rfl rfl (fun K hK => ?_)
                    go_simp
                    refine hK _ ?_
                    clear hK K
                    refine w_skip 11 true (some false) rfl rfl rfl (fun K hK => ?_)
                    go_simp
                    refine hK _ ?_
                    clear hK K
                    refine w_skip 11 true (some false) rfl rfl rfl (fun K hK => ?_)
                    go_simp
                    refine hK _ ?_
                    clear hK K
                    refine w_skip 11 true (some false) rfl rfl rfl (fun K hK => ?_)
                    go_simp
                    refine hK _ ?_
                    clear hK K
                    refine w_skip 11 true (some false) rfl rfl rfl (fun K hK => ?_)
                    go_simp
                    refine hK _ ?_
                    clear hK K
                    refine w_skip 11 true (some false) rfl rfl rfl (fun K hK => ?_)
                    go_simp
                    refine hK _ ?_
                    clear hK K
                    refine w_skip 11 true (some false) rfl rfl rfl (fun K hK => ?_)
                    go_simp
                    refine hK _ ?_
                    clear hK K
                    refine w_skip 11 true (some false) rfl rfl rfl (fun K hK => ?_)
                    go_simp
                    refine hK _ ?_
                    clear hK K
                    refine w_skip 11 true (some false) rfl rfl rfl (fun K hK => ?_)
                    go_simp
                    refine hK _ ?_
                    clear hK K
                    refine w_skip 11 true (some false) rfl rfl rfl (fun K hK => ?_)
                    go_simp
                    refine hK _ ?_
                    clear hK K
                    refine w_value rfl (.bool false) (fun u hu => by go_simp) (fun K hK => ?_)
                    go_simp
                    refine hK _ ?_
                    clear hK K
                    refine w_nil ?_
                    intro u hu
                    have HN9 := Lib.hid (HBr.out.trans (hu.mono HBr.out.size))
                    clear hu I0 I1 J0 J1 HIK
                    go_wp2_with fail
                    go_roundw
                    case rel => exact ⟨k + 1, by omega, by go_num, HN9⟩
                    case measure => simp [intOf]; omega
                · obtain rfl : k = j := by omega
                  go_wp2_with fail
                  go_roundw
                  case rel => exact ⟨k + 1, by omega, by go_num, HBr⟩
                  case measure => simp [intOf]; omega
            · obtain rfl : j = m := by omega
              have H70 := Lib.hid (H50.out.below HBr.out)
              have hE : errEnd S X = 0 := by unfold errEnd; rw [HOX.out]; rfl
              have hA : aftEnd S X = st S X (endS (gt S X)) := by unfold aftEnd; rw [HOX.out]; rfl
              have hg : gt (aftEnd S X) X = endS (gt S X) := by rw [hA, gt_st HG.out.len HKX.out]; exact if_pos rfl
              have C := Lib.hid (tend_any H70.out X)
              rw [hE] at C
              obtain ⟨S8, HS8⟩ : ∃ S8, Hid (aftEnd S X = S8) := ⟨_, rfl⟩
              rw [HS8.out] at C hg
              have HGE := Lib.hid hg
              clear hE hA hg HBr
              go_wp2_with fail
              refine (C.out).mono ?_; rintro e w71 ⟨rfl, ht⟩
              have H71 := Lib.hid ht
              have CW := Lib.hid (twrites_nil H71.out X (by rw [HGE.out]; rfl))
              clear ht C H70
              go_wp2_with fail
              refine (CW.out).mono ?_; rintro e w72 ⟨rfl, hb⟩
              have H72 := Lib.hid (H71.out.below hb)
              have hE : errEnd S8 X = 5 := by unfold errEnd; rw [HGE.out]; rfl
              have C := Lib.hid (tend_any H72.out X)
              rw [hE] at C
              clear hb CW H71 hE
              unfold nil_
              go_wp2_with fail
              refine (C.out).mono ?_; rintro e w73 ⟨rfl, ht⟩
              have HF := Lib.hid ht.under
              clear ht C
              go_wp2_with fail
              go_ret
              exact ⟨rfl, HF.out⟩
    · have iv0 : errBeg S1 Y s = 0 := by unfold errBeg; rw [HOY.out, GY.out hxy, (G0.out Y).1]; rfl
      have a2 : aftBeg S1 Y s = st S1 Y (begS (gt S1 Y) s) := by unfold aftBeg; rw [iv0]; rfl
      have hl := H20.out.good.len
      have iv : Iv (aftBeg S1 Y s) X Y := by
        rw [a2]
        refine ⟨?_, ?_, fun _ => ?_⟩
        · rw [gt_st hl HKY.out, if_neg hxy, GX.out]; rfl
        · rw [gt_st hl HKY.out, if_neg hxy, GX.out]; exact fun i hi => absurd hi (Nat.not_lt_zero _)
        · rw [gt_st hl HKY.out, if_pos rfl]; rfl
      have C := Lib.hid (tbegin_any H20.out Y s HSO.out)
      rw [iv0] at C
      have HIV := Lib.hid iv
      have hd : (X == Y) = false := by rw [beq_eq_false_iff_ne]; exact hxy
      have hd2 : decide (X = Y) = false := decide_eq_false hxy
      have hd3 : (X != Y) = true := by simp [hxy]
      have hd4 : decide (¬ X = Y) = true := decide_eq_true hxy
      clear iv a2 hl iv0 GX GY G0 HOY
      go_wp2_with (first | refine blk_loadg (by rfl) 25 _ rfl bs rfl (ks .u64 s) (H20.out.sep.blk 0 rfl) _ Try.underlying25 rfl HSZ.out ?_)
      refine (C.out).mono ?_; rintro e w22 ⟨rfl, ht⟩
      have HT2 : Hid (∃ S, Tab w w22 b S [rB bs (ks .u64 s)] ∧ Iv S X Y) := ⟨_, ht, HIV.out⟩
      have HU := Lib.hid ht.under
      clear ht C H20 HIV
      go_wp2_with fail
      refine (CW.out _ HU.out).mono ?_; rintro e w30 ⟨v', rfl, how, hb⟩
      have HOR : Hid (OR wk 41 w30 w22.heap.size v' LW) := ⟨how.own⟩
      have HL0 : Hid (∃ S, Tab w w30 b S [rO wk 41 w22.heap.size v' LW] ∧ Iv S X Y) := by
        obtain ⟨S, h1, h2⟩ := HT2.out
        exact ⟨S, (h1.newrow hb HOR.out).sub (List.Sublist.cons_cons _ (List.nil_sublist _)), h2⟩
      clear how hb CW HT2 HU
      obtain ⟨n, HN⟩ : ∃ n, Hid (LW.length = n) := ⟨_, rfl⟩
      have hn12 : n ≤ 12 := by have := HL12.out; have := HN.out; omega
      obtain ⟨va, vcap, ev, hva⟩ := or_first HOR.out
      rw [HN.out] at ev hva
      subst ev
      have HVA := Lib.hid hva
      clear hva HOR
      obtain ⟨base, HBASE0⟩ : ∃ base, Hid (w22.heap.size = base) := ⟨_, rfl⟩
      rw [HBASE0.out] at HL0
      clear HBASE0
      go_wp2_with fail
      go_loopw [15, 16, 17, 18] (fun x y1 y2 y3 wr => ∃ i : Nat, i ≤ n ∧ x = .int .i64 i ∧ Hid (∃ S, Tab w wr b S [rO wk 41 base (.slice va n vcap) LW] ∧ Iv S X Y)) (fun x _ _ _ _ => n - (intOf x).toNat)
      case atStart => exact ⟨0, by omega, rfl, HL0⟩
      case round =>
        obtain ⟨i, hi, rfl, HLr⟩ := hrel
        clear HL0
        by_cases hlt : i < n
        · have ilt : (i : Int) < (n : Int) := by omega
          obtain ⟨S, hT, hIV⟩ := HLr.out
          obtain ⟨g, hva⟩ := HVA.out (by omega)
          subst hva
          have hrow := isr_at4 (hT.sep.or 0 rfl).is i (by rw [HN.out]; exact hlt)
          obtain ⟨z, hz⟩ : ∃ z, LW.getD i none_ = z := ⟨_, rfl⟩
          have HZ := Lib.hid hz
          rw [hz] at hrow
          have HRW0 := Lib.hid hrow.2
          have C := Lib.hid (twrite_any hT X z)
          have HRR : Hid (∀ u S R, Tab w u b S (rO wk 41 base (.slice (some ⟨g, 0, none⟩) n vcap) LW :: R) → g < u.heap.size ∧ u.rangeAt g (4 * i) (wc z)) := fun u S R hu => by
            have h9 := isr_at4 (hu.sep.or 0 rfl).is i (by rw [HN.out]; exact hlt)
            rw [HZ.out] at h9
            exact h9
          have HIX : Hid (∀ w, (Instr.indexAt 58 (.slice (some ⟨g, 0, none⟩) n vcap) (.int .i64 (i : Int))).run Try.prog w = .ok (.pointer (some ⟨g, 4 * i, none⟩)) w) := fun w => by
            have h9 := index_iw g 0 n vcap i hlt w
            rwa [Nat.zero_add] at h9
          have hix := HIX.out
          have hcase := iv_write hT.good hIV HKX.out z
          obtain ⟨S9, hS9⟩ : ∃ S9, aftWr S X z = S9 := ⟨_, rfl⟩
          rw [hS9] at C hcase
          have hcase2 : ∃ er : Int, errWr S X z = er ∧ Iv S9 X Y ∧ ((er = 0 ∧ ownB (gt S9 X).wr (key z) = true ∧ ownV (gt S9 X).wr (key z) = z) ∨ (er = 1 ∧ right z = false) ∨ er = 4) := by
            rcases hcase with ⟨c1, c2, c3, c4⟩ | ⟨c1, c2, c3⟩ | ⟨c1, c2, c3⟩
            · exact ⟨0, c1, c4, .inl ⟨rfl, c2, c3⟩⟩
            · exact ⟨1, c1, by rw [c3]; exact hIV, .inr (.inl ⟨rfl, c2⟩)⟩
            · exact ⟨4, c1, by rw [c3]; exact hIV, .inr (.inr rfl)⟩
          obtain ⟨er, her, hiv9, hways⟩ := hcase2
          rw [her] at C
          have HIV9 := Lib.hid hiv9
          have HWY := Lib.hid hways
          clear hT hIV HLr hrow hz hcase her hiv9 hways hS9
          go_wp2_with (first | refine mid_load rfl 41 _ rfl g (4 * i) rfl (wc z) HRW0.out _ Try.underlying41 rfl It.Try.size_w ?_)
          refine (C.out).mono ?_; rintro e w41 ⟨rfl, ht⟩
          have H41 := Lib.hid ht
          clear ht C HRW0 hix
          obtain ⟨y, HY0⟩ : ∃ y, Hid (ownV (gt S9 X).wr (key z) = y) := ⟨_, rfl⟩
          obtain ⟨q, HQ0⟩ : ∃ q, Hid (ownB (gt S9 X).wr (key z) = q) := ⟨_, rfl⟩
          rw [HY0.out, HQ0.out] at HWY
          have XO : Hid (∀ u, Below w41.heap.size w41 u → Calls Try.prog 24 [(.pointer (some ⟨b, 0, none⟩)), (.int .i64 X), (.string z.1), (.string z.2.1)].toArray u fun e u' => e = .returned (.tuple #[WV y, .bool q]) ∧ Below u.heap.size u u') := fun u hu => by
            have h9 := town_any (H41.out.below hu) X z.1 z.2.1
            rw [show (z.1, z.2.1) = key z from rfl, HY0.out, HQ0.out] at h9
            exact h9
          have K0 : Hid (∀ u, Below w41.heap.size w41 u → u.cell? ⟨g, 4 * i, none⟩ = some (.string z.1)) := fun u hu => (HRR.out u _ _ (H41.out.below hu)).2 0 _ rfl
          have K1 : Hid (∀ u, Below w41.heap.size w41 u → u.cell? ⟨g, 4 * i + 1, none⟩ = some (.string z.2.1)) := fun u hu => (HRR.out u _ _ (H41.out.below hu)).2 1 _ rfl
          go_upto_region 19 with fail
          go_cut [17, 18] (fun x1 x2 wx => ∃ bx : Nat, x1 = .pointer (some ⟨bx, 0, none⟩) ∧ x2 = .bool q ∧ Hid (Blk wx bx (wc y) ∧ bx < wx.heap.size) ∧ Hid (Below w41.heap.size w41 wx))
          case first =>
            as_aux_lemma =>
              have HSB : Hid (Below w41.heap.size w41 w41.drew) := (Below.refl w41.heap.size w41).drew
              refine region_tree (fun u => Below w41.heap.size w41 u) 19 Try.mixed ?_
              refine tr_read 0 rfl (by kernel_rfl) HSB.out ?_
              refine c_move rfl _ rfl (.pointer (some ⟨b, 0, none⟩)) rfl (fun _ _ _ h => h) (fun K hK => ?_)
              go_simp
              refine hK _ ?_
              clear hK K
              refine c_nil ?_
              refine tr_read 1 rfl (by kernel_rfl) HSB.out ?_
              refine c_move rfl _ rfl (.int .i64 X) rfl (fun _ _ _ h => h) (fun K hK => ?_)
              go_simp
              refine hK _ ?_
              clear hK K
              refine c_nil ?_
              refine tr_read 2 rfl (by kernel_rfl) HSB.out ?_
              refine c_move rfl _ rfl (.slice (some ⟨g, 0, none⟩) n vcap) rfl (fun _ _ _ h => h) (fun K hK => ?_)
              go_simp
              refine hK _ ?_
              clear hK K
              refine c_nil ?_
              refine tr_read 3 rfl (by kernel_rfl) HSB.out ?_
              refine c_move rfl _ rfl (.int .i64 (i : Int)) rfl (fun _ _ _ h => h) (fun K hK => ?_)
              go_simp
              refine hK _ ?_
              clear hK K
              refine c_nil ?_
              refine tr_read 4 rfl (by kernel_rfl) HSB.out ?_
              refine c_value rfl (.pointer (some ⟨g, 4 * i, none⟩)) (fun u hu => by have h9 := HIX.out u; go_simp) (fun _ _ _ h => h) (fun K hK => ?_)
              go_simp
              refine hK _ ?_
              clear hK K
              refine c_nil ?_
              refine tr_read 5 rfl (by kernel_rfl) HSB.out ?_
              refine c_value rfl (.pointer (some ⟨g, 4 * i, none⟩)) (fun u hu => by go_simp) (fun _ _ _ h => h) (fun K hK => ?_)
              go_simp
              refine hK _ ?_
              clear hK K
              refine c_nil ?_
              refine tr_read 6 rfl (by kernel_rfl) HSB.out ?_
              refine c_value rfl (.string z.1) (fun u hu => by have h9 := K0.out u hu; go_simp) (fun _ _ _ h => h) (fun K hK => ?_)
              go_simp
              refine hK _ ?_
              clear hK K
              refine c_nil ?_
              refine tr_read 7 rfl (by kernel_rfl) HSB.out ?_
              refine c_move rfl _ rfl (.slice (some ⟨g, 0, none⟩) n vcap) rfl (fun _ _ _ h => h) (fun K hK => ?_)
              go_simp
              refine hK _ ?_
              clear hK K
              refine c_nil ?_
              refine tr_read 8 rfl (by kernel_rfl) HSB.out ?_
              refine c_move rfl _ rfl (.int .i64 (i : Int)) rfl (fun _ _ _ h => h) (fun K hK => ?_)
              go_simp
              refine hK _ ?_
              clear hK K
              refine c_nil ?_
              refine tr_read 9 rfl (by kernel_rfl) HSB.out ?_
              refine c_value rfl (.pointer (some ⟨g, 4 * i, none⟩)) (fun u hu => by have h9 := HIX.out u; go_simp) (fun _ _ _ h => h) (fun K hK => ?_)
              go_simp
              refine hK _ ?_
              clear hK K
              refine c_nil ?_
              refine tr_read 10 rfl (by kernel_rfl) HSB.out ?_
              refine c_value rfl (.pointer (some ⟨g, 4 * i + 1, none⟩)) (fun u hu => by go_simp) (fun _ _ _ h => h) (fun K hK => ?_)
              go_simp
              refine hK _ ?_
              clear hK K
              refine c_nil ?_
              refine tr_read 11 rfl (by kernel_rfl) HSB.out ?_
              refine c_value rfl (.string z.2.1) (fun u hu => by have h9 := K1.out u hu; go_simp) (fun _ _ _ h => h) (fun K hK => ?_)
              go_simp
              refine hK _ ?_
              clear hK K
              refine c_nil ?_
              refine tr_two 12 16 rfl rfl (by kernel_rfl) ?_ ?_
              · skip
                go_wp2_with (first | (go_at_call 24; refine Calls.mono (XO.out _ HSB.out) ?_; rintro e ua ⟨rfl, hb⟩))
                have HBua : Hid (Below w41.heap.size w41 ua) := HSB.out.trans (hb.mono HSB.out.size)
                clear hb
                refine And.intro (fun _ => HBua.out) ?_
                refine tr_read 13 rfl (by kernel_rfl) HBua.out ?_
                refine c_move rfl _ rfl (.tuple #[WV y, .bool q]) rfl (fun _ _ _ h => h) (fun K hK => ?_)
                go_simp
                refine hK _ ?_
                clear hK K
                refine c_nil ?_
                refine tr_read 14 rfl (by kernel_rfl) HBua.out ?_
                refine c_value rfl (WV y) (fun u hu => by go_simp) (fun _ _ _ h => h) (fun K hK => ?_)
                go_simp
                refine hK _ ?_
                clear hK K
                refine c_nil ?_
                refine tr_read 15 rfl (by kernel_rfl) HBua.out ?_
                refine c_value rfl (.bool q) (fun u hu => by go_simp) (fun _ _ _ h => h) (fun K hK => ?_)
                go_simp
                refine hK _ ?_
                clear hK K
                refine c_nil ?_
                refine tr_one 16 rfl (by kernel_rfl) ?_
                go_wp2_with (first | refine blk_alloc rfl 41 (wc none_) rfl It.Try.info_iw2 ?_)
                intro uc A3 B3 Z3
                have HBuc : Hid (Below w41.heap.size w41 uc) := HBua.out.trans (B3.mono HBua.out.size)
                have HZuc : Hid (ua.heap.size < uc.heap.size) := by show _ < _; have h9 : uc.heap.size = ua.heap.size + 1 := Z3; omega
                have HX : Hid (Blk uc ua.heap.size (wc none_)) := A3
                clear A3 B3 Z3
                refine And.intro (fun _ => HBuc.out) ?_
                refine tr_one 17 rfl (by kernel_rfl) ?_
                go_wp2_with (first | refine blk_store rfl 41 _ _ rfl (ua.heap.size) rfl (wc y) rfl _ HX.out rfl It.Try.size_w (It.one_wc y) ?_)
                intro u3 A4 U4
                have HBX : Hid (Blk u3 (ua.heap.size) (wc y) ∧ ua.heap.size < u3.heap.size) := ⟨A4, by rw [U4.size]; exact HZuc.out⟩
                have HU3 : Hid (Below w41.heap.size w41 u3) := HBuc.out.trans (U4.below (HBua.out.size))
                clear A4 U4 HX
                refine And.intro (fun _ => HU3.out) ?_
                refine tr_one 18 rfl (by kernel_rfl) ?_
                go_wp2_with fail
                refine And.intro (fun _ => HU3.out) ?_
                refine tr_end (by kernel_rfl) ?_
                go_wp2_with fail
                go_meet
                exact ⟨_, rfl, rfl, HBX, HU3⟩
              · skip
                go_wp2_with (first | refine blk_alloc rfl 41 (wc none_) rfl It.Try.info_iw2 ?_)
                intro uc A3 B3 Z3
                have HBuc : Hid (Below w41.heap.size w41 uc) := HSB.out.trans (B3.mono HSB.out.size)
                have HZuc : Hid (w41.heap.size < uc.heap.size) := by show _ < _; have h9 : uc.heap.size = w41.heap.size + 1 := Z3; omega
                have HX0 : Hid (Blk uc w41.heap.size (wc none_)) := A3
                clear A3 B3 Z3
                refine And.intro (fun _ => HBuc.out) ?_
                refine tr_one 12 rfl (by kernel_rfl) ?_
                go_wp2_with (first | (go_at_call 24; refine Calls.mono (XO.out _ HBuc.out) ?_; rintro e ua ⟨rfl, hb⟩))
                have HBua : Hid (Below w41.heap.size w41 ua) := HBuc.out.trans (hb.mono HBuc.out.size)
                have HX : Hid (Blk ua w41.heap.size (wc none_)) := Blk.below HX0.out hb HZuc.out
                have HZua : Hid (w41.heap.size < ua.heap.size) := Nat.lt_of_lt_of_le HZuc.out hb.size
                clear hb HX0
                refine And.intro (fun _ => HBua.out) ?_
                refine tr_read 13 rfl (by kernel_rfl) HBua.out ?_
                refine c_move rfl _ rfl (.tuple #[WV y, .bool q]) rfl (fun _ _ _ h => h) (fun K hK => ?_)
                go_simp
                refine hK _ ?_
                clear hK K
                refine c_nil ?_
                refine tr_read 14 rfl (by kernel_rfl) HBua.out ?_
                refine c_value rfl (WV y) (fun u hu => by go_simp) (fun _ _ _ h => h) (fun K hK => ?_)
                go_simp
                refine hK _ ?_
                clear hK K
                refine c_nil ?_
                refine tr_read 15 rfl (by kernel_rfl) HBua.out ?_
                refine c_value rfl (.bool q) (fun u hu => by go_simp) (fun _ _ _ h => h) (fun K hK => ?_)
                go_simp
                refine hK _ ?_
                clear hK K
                refine c_nil ?_
                refine tr_one 17 rfl (by kernel_rfl) ?_
                go_wp2_with (first | refine blk_store rfl 41 _ _ rfl (w41.heap.size) rfl (wc y) rfl _ HX.out rfl It.Try.size_w (It.one_wc y) ?_)
                intro u3 A4 U4
                have HBX : Hid (Blk u3 (w41.heap.size) (wc y) ∧ w41.heap.size < u3.heap.size) := ⟨A4, by rw [U4.size]; exact HZua.out⟩
                have HU3 : Hid (Below w41.heap.size w41 u3) := HBua.out.trans (U4.below (Nat.le_refl _))
                clear A4 U4 HX
                refine And.intro (fun _ => HU3.out) ?_
                refine tr_one 18 rfl (by kernel_rfl) ?_
                go_wp2_with fail
                refine And.intro (fun _ => HU3.out) ?_
                refine tr_end (by kernel_rfl) ?_
                go_wp2_with fail
                go_meet
                exact ⟨_, rfl, rfl, HBX, HU3⟩
          case rest =>
          rename World => u3
          obtain ⟨b3, rfl, rfl, HBX, HU3⟩ := hcut
          go_wp2_with fail
          have H42 := Lib.hid (H41.out.below HU3.out)
          have HBXU : Hid (∀ u, Below u3.heap.size u3 u → Blk u b3 (wc y)) := fun u hu => HBX.out.1.below hu HBX.out.2
          have HRW : Hid (∀ u, Below u3.heap.size u3 u → u.rangeAt g (4 * i) (wc z)) := fun u hu => (HRR.out u _ _ (H42.out.below hu)).2
          have HNX : Hid (∀ u, Below u3.heap.size u3 u → ∃ S, Tab w u b S [rO wk 41 base (.slice (some ⟨g, 0, none⟩) n vcap) LW] ∧ Iv S X Y) := fun u hu => ⟨S9, H42.out.below hu, HIV9.out⟩
          obtain ⟨rz, HRZ⟩ : ∃ rz, Hid (right z = rz) := ⟨_, rfl⟩
          have XR : Hid (∀ u, Below u3.heap.size u3 u → Calls Try.prog 36 [WV (z)].toArray u fun e u' => e = .returned (.bool rz) ∧ Below u3.heap.size u3 u') := fun u hu => Calls.more hu (by have h9 := wright_any z u; rw [HRZ.out] at h9; exact h9)
          obtain ⟨zz, HZZ⟩ : ∃ zz, Hid (decide (y = z) = zz) := ⟨_, rfl⟩
          have HGW : Hid (∀ u, (binOp .eql 41 (WV y) (WV z)).run Try.prog u = .ok (.bool zz) u) := fun u => by have h9 := eql_iw y z u; rw [HZZ.out] at h9; exact h9
          clear XO K0 K1 H41 H42 HRR HBX HU3 HIV9
          rcases HWY.out with ⟨rfl, hq1, hyz⟩ | ⟨rfl, hrz⟩ | rfl
          · obtain rfl : zz = true := by rw [← HZZ.out]; exact decide_eq_true hyz
            subst hq1
            clear HWY hyz
            refine region_w Try.mixed (by kernel_rfl) ?_
            refine w_value rfl (.int .i64 0) (fun u hu => by go_simp) (fun K hK => ?_)
            go_simp
            refine hK _ ?_
            clear hK K
            refine w_value rfl (.bool true) (fun u hu => by go_simp) (fun K hK => ?_)
            go_simp
            refine hK _ ?_
            clear hK K
            refine w_value rfl (.bool true) (fun u hu => by go_simp) (fun K hK => ?_)
            go_simp
            refine hK _ ?_
            clear hK K
            refine w_value rfl (.bool true) (fun u hu => by go_simp) (fun K hK => ?_)
            go_simp
            refine hK _ ?_
            clear hK K
            refine wg_blk_load (by rfl) 41 _ rfl b3 rfl (wc y) (by exact HBXU.out) _ Try.underlying41 rfl It.Try.size_w (fun K hK => ?_)
            go_simp
            refine hK _ ?_
            clear hK K
            refine wg_value (by rfl) (.slice (some ⟨g, 0, none⟩) n vcap) (fun u hu => by go_simp) (fun K hK => ?_)
            go_simp
            refine hK _ ?_
            clear hK K
            refine wg_value (by rfl) (.int .i64 (i : Int)) (fun u hu => by go_simp) (fun K hK => ?_)
            go_simp
            refine hK _ ?_
            clear hK K
            refine wg_value (by rfl) (.pointer (some ⟨g, 4 * i, none⟩)) (fun u hu => by have h9 := HIX.out u; go_simp) (fun K hK => ?_)
            go_simp
            refine hK _ ?_
            clear hK K
            refine wg_wv_load (by rfl) 41 _ rfl g (4 * i) rfl (z) (by exact HRW.out) _ Try.underlying41 rfl It.Try.size_w (fun K hK => ?_)
            go_simp
            refine hK _ ?_
            clear hK K
            refine wg_value (by rfl) (.bool true) (fun u _ => run_eql u .eql 41 41 _ _ (WV y) (WV z) _ rfl rfl rfl (guard_iw .eql _ _ y z u) (HGW.out u)) (fun K hK => ?_)
            go_simp
            refine hK _ ?_
            clear hK K
            refine w_value rfl (.bool true) (fun u hu => by go_simp) (fun K hK => ?_)
            go_simp
            refine hK _ ?_
            clear hK K
            refine w_value rfl (.bool false) (fun u hu => by go_simp) (fun K hK => ?_)
            go_simp
            refine hK _ ?_
            clear hK K
            refine w_value rfl (.bool false) (fun u hu => by go_simp) (fun K hK => ?_)
            go_simp
            refine hK _ ?_
            clear hK K
            refine w_skip 12 true (some false) rfl rfl rfl (fun K hK => ?_)
            go_simp
            refine hK _ ?_
            clear hK K
            refine w_skip 12 true (some false) rfl rfl rfl (fun K hK => ?_)
            go_simp
            refine hK _ ?_
            clear hK K
            refine w_value rfl (.bool false) (fun u hu => by go_simp) (fun K hK => ?_)
            go_simp
            refine hK _ ?_
            clear hK K
            refine w_value rfl (.bool false) (fun u hu => by go_simp) (fun K hK => ?_)
            go_simp
            refine hK _ ?_
            clear hK K
            refine wg_value (by rfl) (.int .i64 0) (fun u hu => by go_simp) (fun K hK => ?_)
            go_simp
            refine hK _ ?_
            clear hK K
            refine wg_value (by rfl) (.bool false) (fun u hu => by go_simp) (fun K hK => ?_)
            go_simp
            refine hK _ ?_
            clear hK K
            refine wg_value (by rfl) (.bool false) (fun u hu => by go_simp) (fun K hK => ?_)
            go_simp
            refine hK _ ?_
            clear hK K
            refine w_skip 19 true (some false) rfl rfl rfl (fun K hK => ?_)
            go_simp
            refine hK _ ?_
            clear hK K
            refine w_skip 19 true (some false) rfl rfl rfl (fun K hK => ?_)
            go_simp
            refine hK _ ?_
            clear hK K
            refine w_skip 19 true (some false) rfl rfl rfl (fun K hK => ?_)
            go_simp
            refine hK _ ?_
            clear hK K
            refine w_skip 19 true (some false) rfl rfl rfl (fun K hK => ?_)
            go_simp
            refine hK _ ?_
            clear hK K
            refine w_skip 19 true (some false) rfl rfl rfl (fun K hK => ?_)
            go_simp
            refine hK _ ?_
            clear hK K
            refine wg_value (by rfl) (.bool false) (fun u hu => by go_simp) (fun K hK => ?_)
            go_simp
            refine hK _ ?_
            clear hK K
            refine w_value rfl (.bool false) (fun u hu => by go_simp) (fun K hK => ?_)
            go_simp
            refine hK _ ?_
            clear hK K
            refine w_nil ?_
            intro u hu
            have HN9 := Lib.hid (HNX.out u hu)
            clear hu HNX HRW HBXU XR HGW
            go_wp2_with fail
            go_roundw
            case rel => exact ⟨i + 1, by omega, by go_num, HN9⟩
            case measure => simp [intOf]; omega
          · obtain rfl : rz = false := by rw [← HRZ.out]; exact hrz
            clear HWY hrz
            cases q with
            | false =>
              refine region_w Try.mixed (by kernel_rfl) ?_
              refine w_value rfl (.int .i64 1) (fun u hu => by go_simp) (fun K hK => ?_)
              go_simp
              refine hK _ ?_
              clear hK K
              refine w_value rfl (.bool false) (fun u hu => by go_simp) (fun K hK => ?_)
              go_simp
              refine hK _ ?_
              clear hK K
              refine w_value rfl (.bool false) (fun u hu => by go_simp) (fun K hK => ?_)
              go_simp
              refine hK _ ?_
              clear hK K
              refine w_value rfl (.bool false) (fun u hu => by go_simp) (fun K hK => ?_)
              go_simp
              refine hK _ ?_
              clear hK K
              refine w_skip 3 true (some false) rfl rfl rfl (fun K hK => ?_)
              go_simp
              refine hK _ ?_
              clear hK K
              refine w_skip 3 true (some false) rfl rfl rfl (fun K hK => ?_)
              go_simp
              refine hK _ ?_
              clear hK K
              refine w_skip 3 true (some false) rfl rfl rfl (fun K hK => ?_)
              go_simp
              refine hK _ ?_
              clear hK K
              refine w_skip 3 true (some false) rfl rfl rfl (fun K hK => ?_)
              go_simp
              refine hK _ ?_
              clear hK K
              refine w_skip 3 true (some false) rfl rfl rfl (fun K hK => ?_)
              go_simp
              refine hK _ ?_
              clear hK K
              refine w_skip 3 true (some false) rfl rfl rfl (fun K hK => ?_)
              go_simp
              refine hK _ ?_
              clear hK K
              refine w_value rfl (.bool false) (fun u hu => by go_simp) (fun K hK => ?_)
              go_simp
              refine hK _ ?_
              clear hK K
              refine w_value rfl (.bool false) (fun u hu => by go_simp) (fun K hK => ?_)
              go_simp
              refine hK _ ?_
              clear hK K
              refine w_value rfl (.bool false) (fun u hu => by go_simp) (fun K hK => ?_)
              go_simp
              refine hK _ ?_
              clear hK K
              refine w_skip 12 true (some false) rfl rfl rfl (fun K hK => ?_)
              go_simp
              refine hK _ ?_
              clear hK K
              refine w_skip 12 true (some false) rfl rfl rfl (fun K hK => ?_)
              go_simp
              refine hK _ ?_
              clear hK K
              refine w_value rfl (.bool false) (fun u hu => by go_simp) (fun K hK => ?_)
              go_simp
              refine hK _ ?_
              clear hK K
              refine w_value rfl (.bool false) (fun u hu => by go_simp) (fun K hK => ?_)
              go_simp
              refine hK _ ?_
              clear hK K
              refine wg_value (by rfl) (.int .i64 1) (fun u hu => by go_simp) (fun K hK => ?_)
              go_simp
              refine hK _ ?_
              clear hK K
              refine wg_value (by rfl) (.bool true) (fun u hu => by go_simp) (fun K hK => ?_)
              go_simp
              refine hK _ ?_
              clear hK K
              refine wg_value (by rfl) (.bool true) (fun u hu => by go_simp) (fun K hK => ?_)
              go_simp
              refine hK _ ?_
              clear hK K
              refine wg_value (by rfl) (.slice (some ⟨g, 0, none⟩) n vcap) (fun u hu => by go_simp) (fun K hK => ?_)
              go_simp
              refine hK _ ?_
              clear hK K
              refine wg_value (by rfl) (.int .i64 (i : Int)) (fun u hu => by go_simp) (fun K hK => ?_)
              go_simp
              refine hK _ ?_
              clear hK K
              refine wg_value (by rfl) (.pointer (some ⟨g, 4 * i, none⟩)) (fun u hu => by have h9 := HIX.out u; go_simp) (fun K hK => ?_)
              go_simp
              refine hK _ ?_
              clear hK K
              refine wg_wv_load (by rfl) 41 _ rfl g (4 * i) rfl (z) (by exact HRW.out) _ Try.underlying41 rfl It.Try.size_w (fun K hK => ?_)
              go_simp
              refine hK _ ?_
              clear hK K
              refine wg_call (by rfl) 36 Try.f36 Try.func36 rfl rfl _ _ rfl [WV (z)] rfl (.bool false) (by exact XR.out) (fun K hK => ?_)
              go_simp
              refine hK _ ?_
              clear hK K
              refine wg_value (by rfl) (.bool false) (fun u hu => by go_simp) (fun K hK => ?_)
              go_simp
              refine hK _ ?_
              clear hK K
              refine w_value rfl (.bool false) (fun u hu => by go_simp) (fun K hK => ?_)
              go_simp
              refine hK _ ?_
              clear hK K
              refine w_nil ?_
              intro u hu
              have HN9 := Lib.hid (HNX.out u hu)
              clear hu HNX HRW HBXU XR HGW
              go_wp2_with fail
              go_roundw
              case rel => exact ⟨i + 1, by omega, by go_num, HN9⟩
              case measure => simp [intOf]; omega
            | true =>
              cases zz with
              | false =>
                refine region_w Try.mixed (by kernel_rfl) ?_
                refine w_value rfl (.int .i64 1) (fun u hu => by go_simp) (fun K hK => ?_)
                go_simp
                refine hK _ ?_
                clear hK K
                refine w_value rfl (.bool false) (fun u hu => by go_simp) (fun K hK => ?_)
                go_simp
                refine hK _ ?_
                clear hK K
                refine w_value rfl (.bool true) (fun u hu => by go_simp) (fun K hK => ?_)
                go_simp
                refine hK _ ?_
                clear hK K
                refine w_value rfl (.bool true) (fun u hu => by go_simp) (fun K hK => ?_)
                go_simp
                refine hK _ ?_
                clear hK K
                refine wg_blk_load (by rfl) 41 _ rfl b3 rfl (wc y) (by exact HBXU.out) _ Try.underlying41 rfl It.Try.size_w (fun K hK => ?_)
                go_simp
                refine hK _ ?_
                clear hK K
                refine wg_value (by rfl) (.slice (some ⟨g, 0, none⟩) n vcap) (fun u hu => by go_simp) (fun K hK => ?_)
                go_simp
                refine hK _ ?_
                clear hK K
                refine wg_value (by rfl) (.int .i64 (i : Int)) (fun u hu => by go_simp) (fun K hK => ?_)
                go_simp
                refine hK _ ?_
                clear hK K
                refine wg_value (by rfl) (.pointer (some ⟨g, 4 * i, none⟩)) (fun u hu => by have h9 := HIX.out u; go_simp) (fun K hK => ?_)
                go_simp
                refine hK _ ?_
                clear hK K
                refine wg_wv_load (by rfl) 41 _ rfl g (4 * i) rfl (z) (by exact HRW.out) _ Try.underlying41 rfl It.Try.size_w (fun K hK => ?_)
                go_simp
                refine hK _ ?_
                clear hK K
                refine wg_value (by rfl) (.bool false) (fun u _ => run_eql u .eql 41 41 _ _ (WV y) (WV z) _ rfl rfl rfl (guard_iw .eql _ _ y z u) (HGW.out u)) (fun K hK => ?_)
                go_simp
                refine hK _ ?_
                clear hK K
                refine w_value rfl (.bool false) (fun u hu => by go_simp) (fun K hK => ?_)
                go_simp
                refine hK _ ?_
                clear hK K
                refine w_value rfl (.bool false) (fun u hu => by go_simp) (fun K hK => ?_)
                go_simp
                refine hK _ ?_
                clear hK K
                refine w_value rfl (.bool false) (fun u hu => by go_simp) (fun K hK => ?_)
                go_simp
                refine hK _ ?_
                clear hK K
                refine w_skip 12 true (some false) rfl rfl rfl (fun K hK => ?_)
                go_simp
                refine hK _ ?_
                clear hK K
                refine w_skip 12 true (some false) rfl rfl rfl (fun K hK => ?_)
                go_simp
                refine hK _ ?_
                clear hK K
                refine w_value rfl (.bool false) (fun u hu => by go_simp) (fun K hK => ?_)
                go_simp
                refine hK _ ?_
                clear hK K
                refine w_value rfl (.bool false) (fun u hu => by go_simp) (fun K hK => ?_)
                go_simp
                refine hK _ ?_
                clear hK K
                refine wg_value (by rfl) (.int .i64 1) (fun u hu => by go_simp) (fun K hK => ?_)
                go_simp
                refine hK _ ?_
                clear hK K
                refine wg_value (by rfl) (.bool true) (fun u hu => by go_simp) (fun K hK => ?_)
                go_simp
                refine hK _ ?_
                clear hK K
                refine wg_value (by rfl) (.bool true) (fun u hu => by go_simp) (fun K hK => ?_)
                go_simp
                refine hK _ ?_
                clear hK K
                refine wg_value (by rfl) (.slice (some ⟨g, 0, none⟩) n vcap) (fun u hu => by go_simp) (fun K hK => ?_)
                go_simp
                refine hK _ ?_
                clear hK K
                refine wg_value (by rfl) (.int .i64 (i : Int)) (fun u hu => by go_simp) (fun K hK => ?_)
                go_simp
                refine hK _ ?_
                clear hK K
                refine wg_value (by rfl) (.pointer (some ⟨g, 4 * i, none⟩)) (fun u hu => by have h9 := HIX.out u; go_simp) (fun K hK => ?_)
                go_simp
                refine hK _ ?_
                clear hK K
                refine wg_wv_load (by rfl) 41 _ rfl g (4 * i) rfl (z) (by exact HRW.out) _ Try.underlying41 rfl It.Try.size_w (fun K hK => ?_)
                go_simp
                refine hK _ ?_
                clear hK K
                refine wg_call (by rfl) 36 Try.f36 Try.func36 rfl rfl _ _ rfl [WV (z)] rfl (.bool false) (by exact XR.out) (fun K hK => ?_)
                go_simp
                refine hK _ ?_
                clear hK K
                refine wg_value (by rfl) (.bool false) (fun u hu => by go_simp) (fun K hK => ?_)
                go_simp
                refine hK _ ?_
                clear hK K
                refine w_value rfl (.bool false) (fun u hu => by go_simp) (fun K hK => ?_)
                go_simp
                refine hK _ ?_
                clear hK K
                refine w_nil ?_
                intro u hu
                have HN9 := Lib.hid (HNX.out u hu)
                clear hu HNX HRW HBXU XR HGW
                go_wp2_with fail
                go_roundw
                case rel => exact ⟨i + 1, by omega, by go_num, HN9⟩
                case measure => simp [intOf]; omega
              | true =>
                refine region_w Try.mixed (by kernel_rfl) ?_
                refine w_value rfl (.int .i64 1) (fun u hu => by go_simp) (fun K hK => ?_)
                go_simp
                refine hK _ ?_
                clear hK K
                refine w_value rfl (.bool false) (fun u hu => by go_simp) (fun K hK => ?_)
                go_simp
                refine hK _ ?_
                clear hK K
                refine w_value rfl (.bool true) (fun u hu => by go_simp) (fun K hK => ?_)
                go_simp
                refine hK _ ?_
                clear hK K
                refine w_value rfl (.bool true) (fun u hu => by go_simp) (fun K hK => ?_)
                go_simp
                refine hK _ ?_
                clear hK K
                refine wg_blk_load (by rfl) 41 _ rfl b3 rfl (wc y) (by exact HBXU.out) _ Try.underlying41 rfl It.Try.size_w (fun K hK => ?_)
                go_simp
                refine hK _ ?_
                clear hK K
                refine wg_value (by rfl) (.slice (some ⟨g, 0, none⟩) n vcap) (fun u hu => by go_simp) (fun K hK => ?_)
                go_simp
                refine hK _ ?_
                clear hK K
                refine wg_value (by rfl) (.int .i64 (i : Int)) (fun u hu => by go_simp) (fun K hK => ?_)
                go_simp
                refine hK _ ?_
                clear hK K
                refine wg_value (by rfl) (.pointer (some ⟨g, 4 * i, none⟩)) (fun u hu => by have h9 := HIX.out u; go_simp) (fun K hK => ?_)
                go_simp
                refine hK _ ?_
                clear hK K
                refine wg_wv_load (by rfl) 41 _ rfl g (4 * i) rfl (z) (by exact HRW.out) _ Try.underlying41 rfl It.Try.size_w (fun K hK => ?_)
                go_simp
                refine hK _ ?_
                clear hK K
                refine wg_value (by rfl) (.bool true) (fun u _ => run_eql u .eql 41 41 _ _ (WV y) (WV z) _ rfl rfl rfl (guard_iw .eql _ _ y z u) (HGW.out u)) (fun K hK => ?_)
                go_simp
                refine hK _ ?_
                clear hK K
                refine w_value rfl (.bool true) (fun u hu => by go_simp) (fun K hK => ?_)
                go_simp
                refine hK _ ?_
                clear hK K
                refine w_value rfl (.bool true) (fun u hu => by go_simp) (fun K hK => ?_)
                go_simp
                refine hK _ ?_
                clear hK K
                refine w_value rfl (.bool true) (fun u hu => by go_simp) (fun K hK => ?_)
                go_simp
                refine hK _ ?_
                clear hK K
                refine wg_value (by rfl) (.int .i64 1) (fun u hu => by go_simp) (fun K hK => ?_)
                go_simp
                refine hK _ ?_
                clear hK K
                refine wg_value (by rfl) (.bool false) (fun u hu => by go_simp) (fun K hK => ?_)
                go_simp
                refine hK _ ?_
                clear hK K
                refine w_value rfl (.bool false) (fun u hu => by go_simp) (fun K hK => ?_)
                go_simp
                refine hK _ ?_
                clear hK K
                refine w_value rfl (.bool false) (fun u hu => by go_simp) (fun K hK => ?_)
                go_simp
                refine hK _ ?_
                clear hK K
                refine wg_value (by rfl) (.int .i64 1) (fun u hu => by go_simp) (fun K hK => ?_)
                go_simp
                refine hK _ ?_
                clear hK K
                refine wg_value (by rfl) (.bool true) (fun u hu => by go_simp) (fun K hK => ?_)
                go_simp
                refine hK _ ?_
                clear hK K
                refine wg_value (by rfl) (.bool true) (fun u hu => by go_simp) (fun K hK => ?_)
                go_simp
                refine hK _ ?_
                clear hK K
                refine wg_value (by rfl) (.slice (some ⟨g, 0, none⟩) n vcap) (fun u hu => by go_simp) (fun K hK => ?_)
                go_simp
                refine hK _ ?_
                clear hK K
                refine wg_value (by rfl) (.int .i64 (i : Int)) (fun u hu => by go_simp) (fun K hK => ?_)
                go_simp
                refine hK _ ?_
                clear hK K
                refine wg_value (by rfl) (.pointer (some ⟨g, 4 * i, none⟩)) (fun u hu => by have h9 := HIX.out u; go_simp) (fun K hK => ?_)
                go_simp
                refine hK _ ?_
                clear hK K
                refine wg_wv_load (by rfl) 41 _ rfl g (4 * i) rfl (z) (by exact HRW.out) _ Try.underlying41 rfl It.Try.size_w (fun K hK => ?_)
                go_simp
                refine hK _ ?_
                clear hK K
                refine wg_call (by rfl) 36 Try.f36 Try.func36 rfl rfl _ _ rfl [WV (z)] rfl (.bool false) (by exact XR.out) (fun K hK => ?_)
                go_simp
                refine hK _ ?_
                clear hK K
                refine wg_value (by rfl) (.bool false) (fun u hu => by go_simp) (fun K hK => ?_)
                go_simp
                refine hK _ ?_
                clear hK K
                refine w_value rfl (.bool false) (fun u hu => by go_simp) (fun K hK => ?_)
                go_simp
                refine hK _ ?_
                clear hK K
                refine w_nil ?_
                intro u hu
                have HN9 := Lib.hid (HNX.out u hu)
                clear hu HNX HRW HBXU XR HGW
                go_wp2_with fail
                go_roundw
                case rel => exact ⟨i + 1, by omega, by go_num, HN9⟩
                case measure => simp [intOf]; omega
          · clear HWY
            cases q with
            | false =>
              refine region_w Try.mixed (by kernel_rfl) ?_
              refine w_value rfl (.int .i64 4) (fun u hu => by go_simp) (fun K hK => ?_)
              go_simp
              refine hK _ ?_
              clear hK K
              refine w_value rfl (.bool false) (fun u hu => by go_simp) (fun K hK => ?_)
              go_simp
              refine hK _ ?_
              clear hK K
              refine w_value rfl (.bool false) (fun u hu => by go_simp) (fun K hK => ?_)
              go_simp
              refine hK _ ?_
              clear hK K
              refine w_value rfl (.bool false) (fun u hu => by go_simp) (fun K hK => ?_)
              go_simp
              refine hK _ ?_
              clear hK K
              refine w_skip 3 true (some false) rfl rfl rfl (fun K hK => ?_)
              go_simp
              refine hK _ ?_
              clear hK K
              refine w_skip 3 true (some false) rfl rfl rfl (fun K hK => ?_)
              go_simp
              refine hK _ ?_
              clear hK K
              refine w_skip 3 true (some false) rfl rfl rfl (fun K hK => ?_)
              go_simp
              refine hK _ ?_
              clear hK K
              refine w_skip 3 true (some false) rfl rfl rfl (fun K hK => ?_)
              go_simp
              refine hK _ ?_
              clear hK K
              refine w_skip 3 true (some false) rfl rfl rfl (fun K hK => ?_)
              go_simp
              refine hK _ ?_
              clear hK K
              refine w_skip 3 true (some false) rfl rfl rfl (fun K hK => ?_)
              go_simp
              refine hK _ ?_
              clear hK K
              refine w_value rfl (.bool false) (fun u hu => by go_simp) (fun K hK => ?_)
              go_simp
              refine hK _ ?_
              clear hK K
              refine w_value rfl (.bool false) (fun u hu => by go_simp) (fun K hK => ?_)
              go_simp
              refine hK _ ?_
              clear hK K
              refine w_value rfl (.bool false) (fun u hu => by go_simp) (fun K hK => ?_)
              go_simp
              refine hK _ ?_
              clear hK K
              refine w_skip 12 true (some false) rfl rfl rfl (fun K hK => ?_)
              go_simp
              refine hK _ ?_
              clear hK K
              refine w_skip 12 true (some false) rfl rfl rfl (fun K hK => ?_)
              go_simp
              refine hK _ ?_
              clear hK K
              refine w_value rfl (.bool false) (fun u hu => by go_simp) (fun K hK => ?_)
              go_simp
              refine hK _ ?_
              clear hK K
              refine w_value rfl (.bool false) (fun u hu => by go_simp) (fun K hK => ?_)
              go_simp
              refine hK _ ?_
              clear hK K
              refine wg_value (by rfl) (.int .i64 4) (fun u hu => by go_simp) (fun K hK => ?_)
              go_simp
              refine hK _ ?_
              clear hK K
              refine wg_value (by rfl) (.bool false) (fun u hu => by go_simp) (fun K hK => ?_)
              go_simp
              refine hK _ ?_
              clear hK K
              refine wg_value (by rfl) (.bool false) (fun u hu => by go_simp) (fun K hK => ?_)
              go_simp
              refine hK _ ?_
              clear hK K
              refine w_skip 19 true (some false) rfl rfl rfl (fun K hK => ?_)
              go_simp
              refine hK _ ?_
              clear hK K
              refine w_skip 19 true (some false) rfl rfl rfl (fun K hK => ?_)
              go_simp
              refine hK _ ?_
              clear hK K
              refine w_skip 19 true (some false) rfl rfl rfl (fun K hK => ?_)
              go_simp
              refine hK _ ?_
              clear hK K
              refine w_skip 19 true (some false) rfl rfl rfl (fun K hK => ?_)
              go_simp
              refine hK _ ?_
              clear hK K
              refine w_skip 19 true (some false) rfl rfl rfl (fun K hK => ?_)
              go_simp
              refine hK _ ?_
              clear hK K
              refine wg_value (by rfl) (.bool false) (fun u hu => by go_simp) (fun K hK => ?_)
              go_simp
              refine hK _ ?_
              clear hK K
              refine w_value rfl (.bool false) (fun u hu => by go_simp) (fun K hK => ?_)
              go_simp
              refine hK _ ?_
              clear hK K
              refine w_nil ?_
              intro u hu
              have HN9 := Lib.hid (HNX.out u hu)
              clear hu HNX HRW HBXU XR HGW
              go_wp2_with fail
              go_roundw
              case rel => exact ⟨i + 1, by omega, by go_num, HN9⟩
              case measure => simp [intOf]; omega
            | true =>
              cases zz with
              | false =>
                refine region_w Try.mixed (by kernel_rfl) ?_
                refine w_value rfl (.int .i64 4) (fun u hu => by go_simp) (fun K hK => ?_)
                go_simp
                refine hK _ ?_
                clear hK K
                refine w_value rfl (.bool false) (fun u hu => by go_simp) (fun K hK => ?_)
                go_simp
                refine hK _ ?_
                clear hK K
                refine w_value rfl (.bool true) (fun u hu => by go_simp) (fun K hK => ?_)
                go_simp
                refine hK _ ?_
                clear hK K
                refine w_value rfl (.bool true) (fun u hu => by go_simp) (fun K hK => ?_)
                go_simp
                refine hK _ ?_
                clear hK K
                refine wg_blk_load (by rfl) 41 _ rfl b3 rfl (wc y) (by exact HBXU.out) _ Try.underlying41 rfl It.Try.size_w (fun K hK => ?_)
                go_simp
                refine hK _ ?_
                clear hK K
                refine wg_value (by rfl) (.slice (some ⟨g, 0, none⟩) n vcap) (fun u hu => by go_simp) (fun K hK => ?_)
                go_simp
                refine hK _ ?_
                clear hK K
                refine wg_value (by rfl) (.int .i64 (i : Int)) (fun u hu => by go_simp) (fun K hK => ?_)
                go_simp
                refine hK _ ?_
                clear hK K
                refine wg_value (by rfl) (.pointer (some ⟨g, 4 * i, none⟩)) (fun u hu => by have h9 := HIX.out u; go_simp) (fun K hK => ?_)
                go_simp
                refine hK _ ?_
                clear hK K
                refine wg_wv_load (by rfl) 41 _ rfl g (4 * i) rfl (z) (by exact HRW.out) _ Try.underlying41 rfl It.Try.size_w (fun K hK => ?_)
                go_simp
                refine hK _ ?_
                clear hK K
                refine wg_value (by rfl) (.bool false) (fun u _ => run_eql u .eql 41 41 _ _ (WV y) (WV z) _ rfl rfl rfl (guard_iw .eql _ _ y z u) (HGW.out u)) (fun K hK => ?_)
                go_simp
                refine hK _ ?_
                clear hK K
                refine w_value rfl (.bool false) (fun u hu => by go_simp) (fun K hK => ?_)
                go_simp
                refine hK _ ?_
                clear hK K
                refine w_value rfl (.bool false) (fun u hu => by go_simp) (fun K hK => ?_)
                go_simp
                refine hK _ ?_
                clear hK K
                refine w_value rfl (.bool false) (fun u hu => by go_simp) (fun K hK => ?_)
                go_simp
                refine hK _ ?_
                clear hK K
                refine w_skip 12 true (some false) rfl rfl rfl (fun K hK => ?_)
                go_simp
                refine hK _ ?_
                clear hK K
                refine w_skip 12 true (some false) rfl rfl rfl (fun K hK => ?_)
                go_simp
                refine hK _ ?_
                clear hK K
                refine w_value rfl (.bool false) (fun u hu => by go_simp) (fun K hK => ?_)
                go_simp
                refine hK _ ?_
                clear hK K
                refine w_value rfl (.bool false) (fun u hu => by go_simp) (fun K hK => ?_)
                go_simp
                refine hK _ ?_
                clear hK K
                refine wg_value (by rfl) (.int .i64 4) (fun u hu => by go_simp) (fun K hK => ?_)
                go_simp
                refine hK _ ?_
                clear hK K
                refine wg_value (by rfl) (.bool false) (fun u hu => by go_simp) (fun K hK => ?_)
                go_simp
                refine hK _ ?_
                clear hK K
                refine wg_value (by rfl) (.bool false) (fun u hu => by go_simp) (fun K hK => ?_)
                go_simp
                refine hK _ ?_
                clear hK K
                refine w_skip 19 true (some false) rfl rfl rfl (fun K hK => ?_)
                go_simp
                refine hK _ ?_
                clear hK K
                refine w_skip 19 true (some false) rfl rfl rfl (fun K hK => ?_)
                go_simp
                refine hK _ ?_
                clear hK K
                refine w_skip 19 true (some false) rfl rfl rfl (fun K hK => ?_)
                go_simp
                refine hK _ ?_
                clear hK K
                refine w_skip 19 true (some false) rfl rfl rfl (fun K hK => ?_)
                go_simp
                refine hK _ ?_
                clear hK K
                refine w_skip 19 true (some false) rfl rfl rfl (fun K hK => ?_)
                go_simp
                refine hK _ ?_
                clear hK K
                refine wg_value (by rfl) (.bool false) (fun u hu => by go_simp) (fun K hK => ?_)
                go_simp
                refine hK _ ?_
                clear hK K
                refine w_value rfl (.bool false) (fun u hu => by go_simp) (fun K hK => ?_)
                go_simp
                refine hK _ ?_
                clear hK K
                refine w_nil ?_
                intro u hu
                have HN9 := Lib.hid (HNX.out u hu)
                clear hu HNX HRW HBXU XR HGW
                go_wp2_with fail
                go_roundw
                case rel => exact ⟨i + 1, by omega, by go_num, HN9⟩
                case measure => simp [intOf]; omega
              | true =>
                refine region_w Try.mixed (by kernel_rfl) ?_
                refine w_value rfl (.int .i64 4) (fun u hu => by go_simp) (fun K hK => ?_)
                go_simp
                refine hK _ ?_
                clear hK K
                refine w_value rfl (.bool false) (fun u hu => by go_simp) (fun K hK => ?_)
                go_simp
                refine hK _ ?_
                clear hK K
                refine w_value rfl (.bool true) (fun u hu => by go_simp) (fun K hK => ?_)
                go_simp
                refine hK _ ?_
                clear hK K
                refine w_value rfl (.bool true) (fun u hu => by go_simp) (fun K hK => ?_)
                go_simp
                refine hK _ ?_
                clear hK K
                refine wg_blk_load (by rfl) 41 _ rfl b3 rfl (wc y) (by exact HBXU.out) _ Try.underlying41 rfl It.Try.size_w (fun K hK => ?_)
                go_simp
                refine hK _ ?_
                clear hK K
                refine wg_value (by rfl) (.slice (some ⟨g, 0, none⟩) n vcap) (fun u hu => by go_simp) (fun K hK => ?_)
                go_simp
                refine hK _ ?_
                clear hK K
                refine wg_value (by rfl) (.int .i64 (i : Int)) (fun u hu => by go_simp) (fun K hK => ?_)
                go_simp
                refine hK _ ?_
                clear hK K
                refine wg_value (by rfl) (.pointer (some ⟨g, 4 * i, none⟩)) (fun u hu => by have h9 := HIX.out u; go_simp) (fun K hK => ?_)
                go_simp
                refine hK _ ?_
                clear hK K
                refine wg_wv_load (by rfl) 41 _ rfl g (4 * i) rfl (z) (by exact HRW.out) _ Try.underlying41 rfl It.Try.size_w (fun K hK => ?_)
                go_simp
                refine hK _ ?_
                clear hK K
                refine wg_value (by rfl) (.bool true) (fun u _ => run_eql u .eql 41 41 _ _ (WV y) (WV z) _ rfl rfl rfl (guard_iw .eql _ _ y z u) (HGW.out u)) (fun K hK => ?_)
                go_simp
                refine hK _ ?_
                clear hK K
                refine w_value rfl (.bool true) (fun u hu => by go_simp) (fun K hK => ?_)
                go_simp
                refine hK _ ?_
                clear hK K
                refine w_value rfl (.bool true) (fun u hu => by go_simp) (fun K hK => ?_)
                go_simp
                refine hK _ ?_
                clear hK K
                refine w_value rfl (.bool true) (fun u hu => by go_simp) (fun K hK => ?_)
                go_simp
                refine hK _ ?_
                clear hK K
                refine wg_value (by rfl) (.int .i64 4) (fun u hu => by go_simp) (fun K hK => ?_)
                go_simp
                refine hK _ ?_
                clear hK K
                refine wg_value (by rfl) (.bool false) (fun u hu => by go_simp) (fun K hK => ?_)
                go_simp
                refine hK _ ?_
                clear hK K
                refine w_value rfl (.bool false) (fun u hu => by go_simp) (fun K hK => ?_)
                go_simp
                refine hK _ ?_
                clear hK K
                refine w_value rfl (.bool false) (fun u hu => by go_simp) (fun K hK => ?_)
                go_simp
                refine hK _ ?_
                clear hK K
                refine wg_value (by rfl) (.int .i64 4) (fun u hu => by go_simp) (fun K hK => ?_)
                go_simp
                refine hK _ ?_
                clear hK K
                refine wg_value (by rfl) (.bool false) (fun u hu => by go_simp) (fun K hK => ?_)
                go_simp
                refine hK _ ?_
                clear hK K
                refine wg_value (by rfl) (.bool false) (fun u hu => by go_simp) (fun K hK => ?_)
                go_simp
                refine hK _ ?_
                clear hK K
                refine w_skip 19 true (some false) rfl rfl rfl (fun K hK => ?_)
                go_simp
                refine hK _ ?_
                clear hK K
                refine w_skip 19 true (some false) rfl rfl rfl (fun K hK => ?_)
                go_simp
                refine hK _ ?_
                clear hK K
                refine w_skip 19 true (some false) rfl rfl rfl (fun K hK => ?_)
                go_simp
                refine hK _ ?_
                clear hK K
                refine w_skip 19 true (some false) rfl rfl rfl (fun K hK => ?_)
                go_simp
                refine hK _ ?_
                clear hK K
                refine w_skip 19 true (some false) rfl rfl rfl (fun K hK => ?_)
                go_simp
                refine hK _ ?_
                clear hK K
                refine wg_value (by rfl) (.bool false) (fun u hu => by go_simp) (fun K hK => ?_)
                go_simp
                refine hK _ ?_
                clear hK K
                refine w_value rfl (.bool false) (fun u hu => by go_simp) (fun K hK => ?_)
                go_simp
                refine hK _ ?_
                clear hK K
                refine w_nil ?_
                intro u hu
                have HN9 := Lib.hid (HNX.out u hu)
                clear hu HNX HRW HBXU XR HGW
                go_wp2_with fail
                go_roundw
                case rel => exact ⟨i + 1, by omega, by go_num, HN9⟩
                case measure => simp [intOf]; omega
        · obtain rfl : i = n := by omega
          obtain ⟨S, hT, hIV⟩ := HLr.out
          obtain ⟨L, HL⟩ : ∃ L, Hid ((gt S X).wr = L) := ⟨_, rfl⟩
          have HG := Lib.hid hT.good
          have HDK : Hid (Dk L) := by show Dk _; rw [← HL.out]; exact hIV.dk
          have HOX := Lib.hid hIV.ox
          have HOT := Lib.hid hIV.other
          have HLR : Hid (∀ x ∈ L, right x = true) := by show ∀ x ∈ L, _; rw [← HL.out]; exact (gt_ok hT.good.ok X).each
          have HL8 : Hid (L.length ≤ 8) := by show _ ≤ _; rw [← HL.out]; exact (gt_ok hT.good.ok X).len
          have C := Lib.hid (twrites_any hT X)
          rw [HL.out] at C
          have HT := Lib.hid hT
          clear hT hIV HLr
          go_wp2_with fail
          refine (C.out).mono ?_; rintro e w50 ⟨v9, rfl, hor, hb⟩
          have H50 := Lib.hid (HT.out.below hb)
          obtain ⟨m, HMM⟩ : ∃ m, Hid (L.length = m) := ⟨_, rfl⟩
          obtain ⟨oa, ocap, ev, hoa⟩ := or_first hor
          rw [HMM.out] at ev hoa
          subst ev
          have HOA := Lib.hid hoa
          have HIS := Lib.hid hor.is
          have HB0 : Hid (Below w50.heap.size w50 w50) := Below.refl _ _
          have hm8 : (m : Int) ≤ 8 := by have := HL8.out; have := HMM.out; omega
          clear hor hb C HT hoa
          go_wp2_with fail
          go_loopw [20, 21, 22, 23] (fun x y1 y2 y3 wr => ∃ j : Nat, j ≤ m ∧ x = .int .i64 j ∧ Hid (Below w50.heap.size w50 wr)) (fun x _ _ _ _ => m - (intOf x).toNat)
          case atStart => exact ⟨0, by omega, rfl, HB0⟩
          case round =>
            obtain ⟨j, hj, rfl, HBr⟩ := hrel
            clear HB0
            by_cases hlt : j < m
            · have ilt : (j : Int) < (m : Int) := by omega
              obtain ⟨g, hoa⟩ := HOA.out (by omega)
              subst hoa
              obtain ⟨z, HZ⟩ : ∃ z, Hid (L.getD j none_ = z) := ⟨_, rfl⟩
              have hrow := isr_at4 HIS.out j (by rw [HMM.out]; exact hlt)
              rw [HZ.out] at hrow
              have HRR : Hid (∀ u, Below wr.heap.size wr u → u.rangeAt g (4 * j) (wc z)) := fun u hu k v hv => by
                have h8 := HBr.out.trans (hu.mono HBr.out.size)
                rw [h8.cell (p := ⟨g, 4 * j + k, none⟩) hrow.1]
                exact hrow.2 k v hv
              have HIX : Hid (∀ w, (Instr.indexAt 58 (.slice (some ⟨g, 0, none⟩) m ocap) (.int .i64 (j : Int))).run Try.prog w = .ok (.pointer (some ⟨g, 4 * j, none⟩)) w) := fun w => by
                have h9 := index_iw g 0 m ocap j hlt w
                rwa [Nat.zero_add] at h9
              have hix := HIX.out
              have hmem : z ∈ L := by rw [← HZ.out]; exact List.mem_of_getElem? (getD_some (by rw [HMM.out]; exact hlt) none_)
              have HRZ : Hid (right z = true) := HLR.out z hmem
              have CRZ := Lib.hid (fun u => wright_any z u)
              rw [HRZ.out] at CRZ
              obtain ⟨y, HY0⟩ : ∃ y, Hid (ownV (gt S Y).wr (key z) = y) := ⟨_, rfl⟩
              have HQ0 : Hid (ownB (gt S Y).wr (key z) = false) := by
                show _ = _
                rw [HOT.out hxy]; rfl
              have XO : Hid (∀ u, Below wr.heap.size wr u → Calls Try.prog 24 [(.pointer (some ⟨b, 0, none⟩)), (.int .i64 Y), (.string z.1), (.string z.2.1)].toArray u fun e u' => e = .returned (.tuple #[WV y, .bool false]) ∧ Below u.heap.size u u') := fun u hu => by
                have h9 := town_any (H50.out.below (HBr.out.trans (hu.mono HBr.out.size))) Y z.1 z.2.1
                rw [show (z.1, z.2.1) = key z from rfl, HY0.out, HQ0.out] at h9
                exact h9
              have K0 : Hid (∀ u, Below wr.heap.size wr u → u.cell? ⟨g, 4 * j, none⟩ = some (.string z.1)) := fun u hu => HRR.out u hu 0 _ rfl
              have K1 : Hid (∀ u, Below wr.heap.size wr u → u.cell? ⟨g, 4 * j + 1, none⟩ = some (.string z.2.1)) := fun u hu => HRR.out u hu 1 _ rfl
              clear hrow hmem
              go_upto_region 26 with fail
              go_cut [21, 22] (fun x1 x2 wx => ∃ bx : Nat, x1 = .pointer (some ⟨bx, 0, none⟩) ∧ x2 = .bool false ∧ Hid (Blk wx bx (wc y) ∧ bx < wx.heap.size) ∧ Hid (Below wr.heap.size wr wx))
              case first =>
                as_aux_lemma =>
                  have HSB : Hid (Below wr.heap.size wr wr.drew) := (Below.refl wr.heap.size wr).drew
                  refine region_tree (fun u => Below wr.heap.size wr u) 19 Try.mixed ?_
                  refine tr_read 0 rfl (by kernel_rfl) HSB.out ?_
                  refine c_move rfl _ rfl (.pointer (some ⟨b, 0, none⟩)) rfl (fun _ _ _ h => h) (fun K hK => ?_)
                  go_simp
                  refine hK _ ?_
                  clear hK K
                  refine c_nil ?_
                  refine tr_read 1 rfl (by kernel_rfl) HSB.out ?_
                  refine c_move rfl _ rfl (.int .i64 Y) rfl (fun _ _ _ h => h) (fun K hK => ?_)
                  go_simp
                  refine hK _ ?_
                  clear hK K
                  refine c_nil ?_
                  refine tr_read 2 rfl (by kernel_rfl) HSB.out ?_
                  refine c_move rfl _ rfl (.slice (some ⟨g, 0, none⟩) m ocap) rfl (fun _ _ _ h => h) (fun K hK => ?_)
                  go_simp
                  refine hK _ ?_
                  clear hK K
                  refine c_nil ?_
                  refine tr_read 3 rfl (by kernel_rfl) HSB.out ?_
                  refine c_move rfl _ rfl (.int .i64 (j : Int)) rfl (fun _ _ _ h => h) (fun K hK => ?_)
                  go_simp
                  refine hK _ ?_
                  clear hK K
                  refine c_nil ?_
                  refine tr_read 4 rfl (by kernel_rfl) HSB.out ?_
                  refine c_value rfl (.pointer (some ⟨g, 4 * j, none⟩)) (fun u hu => by have h9 := HIX.out u; go_simp) (fun _ _ _ h => h) (fun K hK => ?_)
                  go_simp
                  refine hK _ ?_
                  clear hK K
                  refine c_nil ?_
                  refine tr_read 5 rfl (by kernel_rfl) HSB.out ?_
                  refine c_value rfl (.pointer (some ⟨g, 4 * j, none⟩)) (fun u hu => by go_simp) (fun _ _ _ h => h) (fun K hK => ?_)
                  go_simp
                  refine hK _ ?_
                  clear hK K
                  refine c_nil ?_
                  refine tr_read 6 rfl (by kernel_rfl) HSB.out ?_
                  refine c_value rfl (.string z.1) (fun u hu => by have h9 := K0.out u hu; go_simp) (fun _ _ _ h => h) (fun K hK => ?_)
                  go_simp
                  refine hK _ ?_
                  clear hK K
                  refine c_nil ?_
                  refine tr_read 7 rfl (by kernel_rfl) HSB.out ?_
                  refine c_move rfl _ rfl (.slice (some ⟨g, 0, none⟩) m ocap) rfl (fun _ _ _ h => h) (fun K hK => ?_)
                  go_simp
                  refine hK _ ?_
                  clear hK K
                  refine c_nil ?_
                  refine tr_read 8 rfl (by kernel_rfl) HSB.out ?_
                  refine c_move rfl _ rfl (.int .i64 (j : Int)) rfl (fun _ _ _ h => h) (fun K hK => ?_)
                  go_simp
                  refine hK _ ?_
                  clear hK K
                  refine c_nil ?_
                  refine tr_read 9 rfl (by kernel_rfl) HSB.out ?_
                  refine c_value rfl (.pointer (some ⟨g, 4 * j, none⟩)) (fun u hu => by have h9 := HIX.out u; go_simp) (fun _ _ _ h => h) (fun K hK => ?_)
                  go_simp
                  refine hK _ ?_
                  clear hK K
                  refine c_nil ?_
                  refine tr_read 10 rfl (by kernel_rfl) HSB.out ?_
                  refine c_value rfl (.pointer (some ⟨g, 4 * j + 1, none⟩)) (fun u hu => by go_simp) (fun _ _ _ h => h) (fun K hK => ?_)
                  go_simp
                  refine hK _ ?_
                  clear hK K
                  refine c_nil ?_
                  refine tr_read 11 rfl (by kernel_rfl) HSB.out ?_
                  refine c_value rfl (.string z.2.1) (fun u hu => by have h9 := K1.out u hu; go_simp) (fun _ _ _ h => h) (fun K hK => ?_)
                  go_simp
                  refine hK _ ?_
                  clear hK K
                  refine c_nil ?_
                  refine tr_two 12 16 rfl rfl (by kernel_rfl) ?_ ?_
                  · skip
                    go_wp2_with (first | (go_at_call 24; refine Calls.mono (XO.out _ HSB.out) ?_; rintro e ua ⟨rfl, hb⟩))
                    have HBua : Hid (Below wr.heap.size wr ua) := HSB.out.trans (hb.mono HSB.out.size)
                    clear hb
                    refine And.intro (fun _ => HBua.out) ?_
                    refine tr_read 13 rfl (by kernel_rfl) HBua.out ?_
                    refine c_move rfl _ rfl (.tuple #[WV y, .bool false]) rfl (fun _ _ _ h => h) (fun K hK => ?_)
                    go_simp
                    refine hK _ ?_
                    clear hK K
                    refine c_nil ?_
                    refine tr_read 14 rfl (by kernel_rfl) HBua.out ?_
                    refine c_value rfl (WV y) (fun u hu => by go_simp) (fun _ _ _ h => h) (fun K hK => ?_)
                    go_simp
                    refine hK _ ?_
                    clear hK K
                    refine c_nil ?_
                    refine tr_read 15 rfl (by kernel_rfl) HBua.out ?_
                    refine c_value rfl (.bool false) (fun u hu => by go_simp) (fun _ _ _ h => h) (fun K hK => ?_)
                    go_simp
                    refine hK _ ?_
                    clear hK K
                    refine c_nil ?_
                    refine tr_one 16 rfl (by kernel_rfl) ?_
                    go_wp2_with (first | refine blk_alloc rfl 41 (wc none_) rfl It.Try.info_iw2 ?_)
                    intro uc A3 B3 Z3
                    have HBuc : Hid (Below wr.heap.size wr uc) := HBua.out.trans (B3.mono HBua.out.size)
                    have HZuc : Hid (ua.heap.size < uc.heap.size) := by show _ < _; have h9 : uc.heap.size = ua.heap.size + 1 := Z3; omega
                    have HX : Hid (Blk uc ua.heap.size (wc none_)) := A3
                    clear A3 B3 Z3
                    refine And.intro (fun _ => HBuc.out) ?_
                    refine tr_one 17 rfl (by kernel_rfl) ?_
                    go_wp2_with (first | refine blk_store rfl 41 _ _ rfl (ua.heap.size) rfl (wc y) rfl _ HX.out rfl It.Try.size_w (It.one_wc y) ?_)
                    intro u3 A4 U4
                    have HBX : Hid (Blk u3 (ua.heap.size) (wc y) ∧ ua.heap.size < u3.heap.size) := ⟨A4, by rw [U4.size]; exact HZuc.out⟩
                    have HU3 : Hid (Below wr.heap.size wr u3) := HBuc.out.trans (U4.below (HBua.out.size))
                    clear A4 U4 HX
                    refine And.intro (fun _ => HU3.out) ?_
                    refine tr_one 18 rfl (by kernel_rfl) ?_
                    go_wp2_with fail
                    refine And.intro (fun _ => HU3.out) ?_
                    refine tr_end (by kernel_rfl) ?_
                    go_wp2_with fail
                    go_meet
                    exact ⟨_, rfl, rfl, HBX, HU3⟩
                  · skip
                    go_wp2_with (first | refine blk_alloc rfl 41 (wc none_) rfl It.Try.info_iw2 ?_)
                    intro uc A3 B3 Z3
                    have HBuc : Hid (Below wr.heap.size wr uc) := HSB.out.trans (B3.mono HSB.out.size)
                    have HZuc : Hid (wr.heap.size < uc.heap.size) := by show _ < _; have h9 : uc.heap.size = wr.heap.size + 1 := Z3; omega
                    have HX0 : Hid (Blk uc wr.heap.size (wc none_)) := A3
                    clear A3 B3 Z3
                    refine And.intro (fun _ => HBuc.out) ?_
                    refine tr_one 12 rfl (by kernel_rfl) ?_
                    go_wp2_with (first | (go_at_call 24; refine Calls.mono (XO.out _ HBuc.out) ?_; rintro e ua ⟨rfl, hb⟩))
                    have HBua : Hid (Below wr.heap.size wr ua) := HBuc.out.trans (hb.mono HBuc.out.size)
                    have HX : Hid (Blk ua wr.heap.size (wc none_)) := Blk.below HX0.out hb HZuc.out
                    have HZua : Hid (wr.heap.size < ua.heap.size) := Nat.lt_of_lt_of_le HZuc.out hb.size
                    clear hb HX0
                    refine And.intro (fun _ => HBua.out) ?_
                    refine tr_read 13 rfl (by kernel_rfl) HBua.out ?_
                    refine c_move rfl _ rfl (.tuple #[WV y, .bool false]) rfl (fun _ _ _ h => h) (fun K hK => ?_)
                    go_simp
                    refine hK _ ?_
                    clear hK K
                    refine c_nil ?_
                    refine tr_read 14 rfl (by kernel_rfl) HBua.out ?_
                    refine c_value rfl (WV y) (fun u hu => by go_simp) (fun _ _ _ h => h) (fun K hK => ?_)
                    go_simp
                    refine hK _ ?_
                    clear hK K
                    refine c_nil ?_
                    refine tr_read 15 rfl (by kernel_rfl) HBua.out ?_
                    refine c_value rfl (.bool false) (fun u hu => by go_simp) (fun _ _ _ h => h) (fun K hK => ?_)
                    go_simp
                    refine hK _ ?_
                    clear hK K
                    refine c_nil ?_
                    refine tr_one 17 rfl (by kernel_rfl) ?_
                    go_wp2_with (first | refine blk_store rfl 41 _ _ rfl (wr.heap.size) rfl (wc y) rfl _ HX.out rfl It.Try.size_w (It.one_wc y) ?_)
                    intro u3 A4 U4
                    have HBX : Hid (Blk u3 (wr.heap.size) (wc y) ∧ wr.heap.size < u3.heap.size) := ⟨A4, by rw [U4.size]; exact HZua.out⟩
                    have HU3 : Hid (Below wr.heap.size wr u3) := HBua.out.trans (U4.below (Nat.le_refl _))
                    clear A4 U4 HX
                    refine And.intro (fun _ => HU3.out) ?_
                    refine tr_one 18 rfl (by kernel_rfl) ?_
                    go_wp2_with fail
                    refine And.intro (fun _ => HU3.out) ?_
                    refine tr_end (by kernel_rfl) ?_
                    go_wp2_with fail
                    go_meet
                    exact ⟨_, rfl, rfl, HBX, HU3⟩
              case rest =>
              rename World => u3
              obtain ⟨b4, rfl, rfl, HBX, HU3⟩ := hcut
              have HR3 := Lib.hid (HRR.out u3 HU3.out)
              have HB3 := Lib.hid (HBr.out.trans (HU3.out.mono HBr.out.size))
              clear XO K0 K1 HBX HU3 HRR HBr
              go_wp2_with (first | refine mid_loadg (by rfl) 41 _ rfl g (4 * j) rfl (wc z) HR3.out _ Try.underlying41 rfl It.Try.size_w ?_)
              refine (CRZ.out _).mono ?_; rintro e w60 ⟨rfl, hb⟩
              have HI0 : Hid (Below w50.heap.size w50 w60) := HB3.out.trans (hb.mono HB3.out.size)
              clear hb CRZ HB3 HR3
              go_wp2_with fail
              go_loopw [23] (fun x wr => ∃ k : Nat, k ≤ j ∧ x = .int .i64 k ∧ Hid (Below w50.heap.size w50 wr)) (fun x _ => j - (intOf x).toNat)
              case atStart => exact ⟨0, by omega, rfl, HI0⟩
              case round =>
                obtain ⟨k, hk, rfl, HBr⟩ := hrel
                clear HI0
                by_cases hlt2 : k < j
                · have ilt2 : (k : Int) < (j : Int) := by omega
                  obtain ⟨x, HX⟩ : ∃ x, Hid (L.getD k none_ = x) := ⟨_, rfl⟩
                  have hkm : k < m := by omega
                  have hrow := isr_at4 HIS.out j (by rw [HMM.out]; exact hlt)
                  have hrow2 := isr_at4 HIS.out k (by rw [HMM.out]; exact hkm)
                  rw [HZ.out] at hrow
                  rw [HX.out] at hrow2
                  have hne : key x ≠ key z := by
                    have h9 := HDK.out j (by rw [HMM.out]; exact hlt)
                    rw [HZ.out] at h9
                    rw [← HX.out]
                    exact ix_before (by rw [h9]; exact hlt2)
                  have J0 : Hid (∀ u, Below wr.heap.size wr u → u.cell? ⟨g, 4 * j, none⟩ = some (.string z.1)) := fun u hu => by
                    rw [(HBr.out.trans (hu.mono HBr.out.size)).cell (p := ⟨g, 4 * j, none⟩) hrow.1]; exact hrow.2 0 _ rfl
                  have J1 : Hid (∀ u, Below wr.heap.size wr u → u.cell? ⟨g, 4 * j + 1, none⟩ = some (.string z.2.1)) := fun u hu => by
                    rw [(HBr.out.trans (hu.mono HBr.out.size)).cell (p := ⟨g, 4 * j + 1, none⟩) hrow.1]; exact hrow.2 1 _ rfl
                  have I0 : Hid (∀ u, Below wr.heap.size wr u → u.cell? ⟨g, 4 * k, none⟩ = some (.string x.1)) := fun u hu => by
                    rw [(HBr.out.trans (hu.mono HBr.out.size)).cell (p := ⟨g, 4 * k, none⟩) hrow.1]; exact hrow2.2 0 _ rfl
                  have I1 : Hid (∀ u, Below wr.heap.size wr u → u.cell? ⟨g, 4 * k + 1, none⟩ = some (.string x.2.1)) := fun u hu => by
                    rw [(HBr.out.trans (hu.mono HBr.out.size)).cell (p := ⟨g, 4 * k + 1, none⟩) hrow.1]; exact hrow2.2 1 _ rfl
                  have HIK : Hid (∀ w, (Instr.indexAt 58 (.slice (some ⟨g, 0, none⟩) m ocap) (.int .i64 (k : Int))).run Try.prog w = .ok (.pointer (some ⟨g, 4 * k, none⟩)) w) := fun w => by
                    have h9 := index_iw g 0 m ocap k hkm w
                    rwa [Nat.zero_add] at h9
                  clear hrow hrow2
                  obtain ⟨xb, xk, xv, xg⟩ := x
                  obtain ⟨zb, zk, zv, zg⟩ := z
                  go_wp2_with fail
                  by_cases hb1 : xb = zb
                  · subst hb1
                    have hk2 : ¬ xk.toList = zk.toList := fun e => hne (by
                      have : xk = zk := by rcases xk with ⟨⟨_⟩⟩; rcases zk with ⟨⟨_⟩⟩; simpa using e
                      rw [this]; rfl)
                    refine region_w Try.mixed (by kernel_rfl) ?_
                    refine w_value rfl (.slice (some ⟨g, 0, none⟩) m ocap) (fun u hu => by go_simp) (fun K hK => ?_)
                    go_simp
                    refine hK _ ?_
                    clear hK K
                    refine w_value rfl (.int .i64 (k : Int)) (fun u hu => by go_simp) (fun K hK => ?_)
                    go_simp
                    refine hK _ ?_
                    clear hK K
                    refine w_value rfl (.pointer (some ⟨g, 4 * k, none⟩)) (fun u hu => by have h9 := HIK.out u; go_simp) (fun K hK => ?_)
                    go_simp
                    refine hK _ ?_
                    clear hK K
                    refine w_value rfl (.pointer (some ⟨g, 4 * k, none⟩)) (fun u hu => by go_simp) (fun K hK => ?_)
                    go_simp
                    refine hK _ ?_
                    clear hK K
                    refine w_value rfl (.string xb) (fun u hu => by have h9 := I0.out u hu; go_simp) (fun K hK => ?_)
                    go_simp
                    refine hK _ ?_
                    clear hK K
                    refine w_value rfl (.slice (some ⟨g, 0, none⟩) m ocap) (fun u hu => by go_simp) (fun K hK => ?_)
                    go_simp
                    refine hK _ ?_
                    clear hK K
                    refine w_value rfl (.int .i64 (j : Int)) (fun u hu => by go_simp) (fun K hK => ?_)
                    go_simp
                    refine hK _ ?_
                    clear hK K
                    refine w_value rfl (.pointer (some ⟨g, 4 * j, none⟩)) (fun u hu => by have h9 := HIX.out u; go_simp) (fun K hK => ?_)
                    go_simp
                    refine hK _ ?_
                    clear hK K
                    refine w_value rfl (.pointer (some ⟨g, 4 * j, none⟩)) (fun u hu => by go_simp) (fun K hK => ?_)
                    go_simp
                    refine hK _ ?_
                    clear hK K
                    refine w_value rfl (.string xb) (fun u hu => by have h9 := J0.out u hu; go_simp) (fun K hK => ?_)
                    go_simp
                    refine hK _ ?_
                    clear hK K
                    refine w_value rfl (.bool true) (fun u hu => by go_simp) (fun K hK => ?_)
                    go_simp
                    refine hK _ ?_
                    clear hK K
                    refine w_value rfl (.bool true) (fun u hu => by go_simp) (fun K hK => ?_)
                    go_simp
                    refine hK _ ?_
                    clear hK K
                    refine wg_value (by rfl) (.slice (some ⟨g, 0, none⟩) m ocap) (fun u hu => by go_simp) (fun K hK => ?_)
                    go_simp
                    refine hK _ ?_
                    clear hK K
                    refine wg_value (by rfl) (.int .i64 (k : Int)) (fun u hu => by go_simp) (fun K hK => ?_)
                    go_simp
                    refine hK _ ?_
                    clear hK K
                    refine wg_value (by rfl) (.pointer (some ⟨g, 4 * k, none⟩)) (fun u hu => by have h9 := HIK.out u; go_simp) (fun K hK => ?_)
                    go_simp
                    refine hK _ ?_
                    clear hK K
                    refine wg_value (by rfl) (.pointer (some ⟨g, 4 * k + 1, none⟩)) (fun u hu => by go_simp) (fun K hK => ?_)
                    go_simp
                    refine hK _ ?_
                    clear hK K
                    refine wg_value (by rfl) (.string xk) (fun u hu => by have h9 := I1.out u hu; go_simp) (fun K hK => ?_)
                    go_simp
                    refine hK _ ?_
                    clear hK K
                    refine wg_value (by rfl) (.slice (some ⟨g, 0, none⟩) m ocap) (fun u hu => by go_simp) (fun K hK => ?_)
                    go_simp
                    refine hK _ ?_
                    clear hK K
                    refine wg_value (by rfl) (.int .i64 (j : Int)) (fun u hu => by go_simp) (fun K hK => ?_)
                    go_simp
                    refine hK _ ?_
                    clear hK K
                    refine wg_value (by rfl) (.pointer (some ⟨g, 4 * j, none⟩)) (fun u hu => by have h9 := HIX.out u; go_simp) (fun K hK => ?_)
                    go_simp
                    refine hK _ ?_
                    clear hK K
                    refine wg_value (by rfl) (.pointer (some ⟨g, 4 * j + 1, none⟩)) (fun u hu => by go_simp) (fun K hK => ?_)
                    go_simp
                    refine hK _ ?_
                    clear hK K
                    refine wg_value (by rfl) (.string zk) (fun u hu => by have h9 := J1.out u hu; go_simp) (fun K hK => ?_)
                    go_simp
                    refine hK _ ?_
                    clear hK K
                    refine wg_value (by rfl) (.bool false) (fun u hu => by have h9 := hk2; go_simp) (fun K hK => ?_)
                    go_simp
                    refine hK _ ?_
                    clear hK K
                    refine w_value rfl (.bool false) (fun u hu => by go_simp) (fun K hK => ?_)
                    go_simp
                    refine hK _ ?_
                    clear hK K
                    refine w_nil ?_
                    intro u hu
                    have HN9 := Lib.hid (HBr.out.trans (hu.mono HBr.out.size))
                    clear hu I0 I1 J0 J1 HIK
                    go_wp2_with fail
                    go_roundw
                    case rel => exact ⟨k + 1, by omega, by go_num, HN9⟩
                    case measure => simp [intOf]; omega
                  · have hb2 : ¬ xb.toList = zb.toList := fun e => hb1 (by rcases xb with ⟨⟨_⟩⟩; rcases zb with ⟨⟨_⟩⟩; simpa using e)
                    refine region_w Try.mixed (by kernel_rfl) ?_
                    refine w_value rfl (.slice (some ⟨g, 0, none⟩) m ocap) (fun u hu => by go_simp) (fun K hK => ?_)
                    go_simp
                    refine hK _ ?_
                    clear hK K
                    refine w_value rfl (.int .i64 (k : Int)) (fun u hu => by go_simp) (fun K hK => ?_)
                    go_simp
                    refine hK _ ?_
                    clear hK K
                    refine w_value rfl (.pointer (some ⟨g, 4 * k, none⟩)) (fun u hu => by have h9 := HIK.out u; go_simp) (fun K hK => ?_)
                    go_simp
                    refine hK _ ?_
                    clear hK K
                    refine w_value rfl (.pointer (some ⟨g, 4 * k, none⟩)) (fun u hu => by go_simp) (fun K hK => ?_)
                    go_simp
                    refine hK _ ?_
                    clear hK K
                    refine w_value rfl (.string xb) (fun u hu => by have h9 := I0.out u hu; go_simp) (fun K hK => ?_)
                    go_simp
                    refine hK _ ?_
                    clear hK K
                    refine w_value rfl (.slice (some ⟨g, 0, none⟩) m ocap) (fun u hu => by go_simp) (fun K hK => ?_)
                    go_simp
                    refine hK _ ?_
                    clear hK K
                    refine w_value rfl (.int .i64 (j : Int)) (fun u hu => by go_simp) (fun K hK => ?_)
                    go_simp
                    refine hK _ ?_
                    clear hK K
                    refine w_value rfl (.pointer (some ⟨g, 4 * j, none⟩)) (fun u hu => by have h9 := HIX.out u; go_simp) (fun K hK => ?_)
                    go_simp
                    refine hK _ ?_
                    clear hK K
                    refine w_value rfl (.pointer (some ⟨g, 4 * j, none⟩)) (fun u hu => by go_simp) (fun K hK => ?_)
                    go_simp
                    refine hK _ ?_
                    clear hK K
                    refine w_value rfl (.string zb) (fun u hu => by have h9 := J0.out u hu; go_simp) (fun K hK => ?_)
                    go_simp
                    refine hK _ ?_
                    clear hK K
                    refine w_value rfl (.bool false) (fun u hu => by have h9 := hb2; go_simp) (fun K hK => ?_)
                    go_simp
                    refine hK _ ?_
                    clear hK K
                    refine w_value rfl (.bool false) (fun u hu => by go_simp) (fun K hK => ?_)
                    go_simp
                    refine hK _ ?_
                    clear hK K
                    refine w_skip 11 true (some false) rfl rfl rfl (fun K hK => ?_)
                    go_simp
                    refine hK _ ?_
                    clear hK K
                    refine w_skip 11 true (some false) rfl rfl rfl (fun K hK => ?_)
                    go_simp
                    refine hK _ ?_
                    clear hK K
                    refine w_skip 11 true (some false) rfl rfl rfl (fun K hK => ?_)
                    go_simp
                    refine hK _ ?_
                    clear hK K
                    refine w_skip 11 true (some false) rfl rfl rfl (fun K hK => ?_)
                    go_simp
                    refine hK _ ?_
                    clear hK K
                    refine w_skip 11 true (some false) rfl rfl rfl (fun K hK => ?_)
                    go_simp
                    refine hK _ ?_
                    clear hK K
                    refine w_skip 11 true (some false) rfl rfl rfl (fun K hK => ?_)
                    go_simp
                    refine hK _ ?_
                    clear hK K
                    refine w_skip 11 true (some false) rfl rfl rfl (fun K hK => ?_)
                    go_simp
                    refine hK _ ?_
                    clear hK K
                    refine w_skip 11 true (some false) rfl rfl rfl (fun K hK => ?_)
                    go_simp
                    refine hK _ ?_
                    clear hK K
                    refine w_skip 11 true (some false) rfl rfl rfl (fun K hK => ?_)
                    go_simp
                    refine hK _ ?_
                    clear hK K
                    refine w_skip 11 true (some false) rfl rfl rfl (fun K hK => ?_)
                    go_simp
                    refine hK _ ?_
                    clear hK K
                    refine w_skip 11 true (some false) rfl rfl rfl (fun K hK => ?_)
                    go_simp
                    refine hK _ ?_
                    clear hK K
                    refine w_value rfl (.bool false) (fun u hu => by go_simp) (fun K hK => ?_)
                    go_simp
                    refine hK _ ?_
                    clear hK K
                    refine w_nil ?_
                    intro u hu
                    have HN9 := Lib.hid (HBr.out.trans (hu.mono HBr.out.size))
                    clear hu I0 I1 J0 J1 HIK
                    go_wp2_with fail
                    go_roundw
                    case rel => exact ⟨k + 1, by omega, by go_num, HN9⟩
                    case measure => simp [intOf]; omega
                · obtain rfl : k = j := by omega
                  go_wp2_with fail
                  go_roundw
                  case rel => exact ⟨k + 1, by omega, by go_num, HBr⟩
                  case measure => simp [intOf]; omega
            · obtain rfl : j = m := by omega
              have H70 := Lib.hid (H50.out.below HBr.out)
              have hE : errEnd S X = 0 := by unfold errEnd; rw [HOX.out]; rfl
              have hA : aftEnd S X = st S X (endS (gt S X)) := by unfold aftEnd; rw [HOX.out]; rfl
              have hg : gt (aftEnd S X) X = endS (gt S X) := by rw [hA, gt_st HG.out.len HKX.out]; exact if_pos rfl
              have C := Lib.hid (tend_any H70.out X)
              rw [hE] at C
              obtain ⟨S8, HS8⟩ : ∃ S8, Hid (aftEnd S X = S8) := ⟨_, rfl⟩
              rw [HS8.out] at C hg
              have HGE := Lib.hid hg
              clear hE hA hg HBr
              go_wp2_with fail
              refine (C.out).mono ?_; rintro e w71 ⟨rfl, ht⟩
              have H71 := Lib.hid ht
              have CW := Lib.hid (twrites_nil H71.out X (by rw [HGE.out]; rfl))
              clear ht C H70
              go_wp2_with fail
              refine (CW.out).mono ?_; rintro e w72 ⟨rfl, hb⟩
              have H72 := Lib.hid (H71.out.below hb)
              have hE : errEnd S8 X = 5 := by unfold errEnd; rw [HGE.out]; rfl
              have C := Lib.hid (tend_any H72.out X)
              rw [hE] at C
              clear hb CW H71 hE
              unfold nil_
              go_wp2_with fail
              refine (C.out).mono ?_; rintro e w73 ⟨rfl, ht⟩
              have HF := Lib.hid ht.under
              clear ht C
              go_wp2_with fail
              go_ret
              exact ⟨rfl, HF.out⟩


set_option maxRecDepth 100000 in
theorem lifted (os : Os) (started : os.Started) (H : Type) (enc : TypeId × Value → H) :
    ReturnsInHanded {} Try.checked os 4 .any (Rows.sessOwnSpec.pre6 enc Try.prog Try.f4 Rows.sessOwnRow.domain false) (Rows.sessOwnSpec.post enc Try.prog Try.f4 false true false false) := by
  refine returnsInHanded_of_change_sized (C := Try.checked) own started (by kernel_rfl) Try.func4
    (ChangeSpec.witness6 (enc := enc) (C := Try.checked) false ⟨#[], #[.int .u8 0, .int .u8 0, .slice none 0 0, .agg #[.int .u64 0, .int .u64 0, .int .u64 0, .int .u64 0, .bool false]], []⟩ 8 (by kernel_rfl) (by kernel_rfl) (by kernel_rfl) (by kernel_rfl)) ?_
  intro W base args ds gs before hval0 hW hcnd hsz0 _
  have hval : ∀ (j : Nat) t v, Try.f4.params[j]? = some t → args[j]? = some v → Value.okWide Try.prog W .any base t v := hval0
  have hW' := hW
  obtain ⟨p, q, hA0, hV, rfl, hfz, hnd⟩ := hW
  have hA : DataW.TrodAll enc Try.prog W 0 (fun _ => true) true Try.f4.params.toList args.toList ds p := hA0
  have hsz : (DataW.weightsEach Try.prog (Try.f4.params.toList ++ Rows.sessOwnSpec.plain.varTypes Try.prog) (ds ++ gs)).all (· ≤ reachBytes) = true := hsz0
  rw [Try.params4] at hA hval hsz
  obtain ⟨rfl, rfl⟩ := trodVars_none hV
  have hAk := hA
  have hlt : ∀ x ∈ p, x.block < W.heap.size := fun x hx => by simpa using hW'.lt x (List.mem_append.2 (.inl hx))
  obtain ⟨v0, vs0, d0, ds0, p0, q0, hargs, rfl, rfl, h0, r0⟩ := trodAll_cons hA
  obtain ⟨v1, vs1, d1, ds1, p1, q1, rfl, rfl, rfl, h1, r1⟩ := trodAll_cons r0
  obtain ⟨v2, vs2, d2, ds2, p2, q2, rfl, rfl, rfl, h2, r2⟩ := trodAll_cons r1
  obtain ⟨v3, vs3, d3, ds3, p3, q3, rfl, rfl, rfl, h3, r3⟩ := trodAll_cons r2
  obtain ⟨rfl, rfl, rfl⟩ := trodAll_nil r3
  obtain rfl : args = #[v0, v1, v2, v3] := by cases args; simp_all
  obtain ⟨a0, rfl, rfl, rfl, w0⟩ := open_int Try.underlying5 (hval 0 5 v0 rfl rfl) h0
  obtain ⟨a1, rfl, rfl, rfl, w1⟩ := open_int Try.underlying5 (hval 1 5 v1 rfl rfl) h1
  obtain ⟨a2, len2, cap2, rfl⟩ := okWide_slice Try.underlying75 (hval 2 75 v2 rfl rfl)
  obtain ⟨DL2, w2, m2⟩ := open_puts h2 (Sz.arg hsz (j := 2) rfl rfl)
  obtain ⟨a3, o3, rfl, w3⟩ := open_vector (hval 3 27 v3 rfl rfl) h3
  clear hA0 hval0 hsz0
  refine (walk a0 a1 (.slice a2 len2 cap2) DL2 a3 o3 w0 w1 w3 W w2 m2).mono fun e W' ⟨he, hg⟩ => ?_
  subst he
  exact ⟨_, rfl, _, _, _, [], _, [], hW', (trodAll_cons_mk (shut_bool Try.underlying4 _) trodAll_mk0), trodAll_below laidOut hg _ _ _ _ (by kernel_rfl) hAk hlt, rfl, hg.frame _, fun h => by cases h⟩

theorem over : Rows.sessOwnRow.holds Try.pinned (OpenSpec.ofChange Rows.sessOwnSpec) :=
  OpenClaim.holds_of_wide 4 Try.f4 rfl rfl rfl rfl rfl rfl rfl ⟨rfl, rfl, rfl, rfl, rfl⟩ rfl rfl rfl rfl rfl (by kernel_rfl) Try.func4 (by kernel_rfl)
    (of_decide_eq_true (by kernel_rfl)) (by unfold Func.isWrapper; first | (rw [if_pos (by decide +kernel)]; kernel_rfl) | (rw [if_neg (by decide +kernel)]; exact ⟨rfl, rfl⟩))
    (fun os started H enc _ => lifted os started H enc)

/-- the statement -/
theorem proved : Rows.SessOwnSaid :=
  over
#print axioms proved

end Go.Proofs.Ytkiaehehckmpnaa.sessOwn
