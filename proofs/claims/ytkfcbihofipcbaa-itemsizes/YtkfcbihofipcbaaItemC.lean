/- The program's item: the closures, Of, Whole. -/
import Derived.Test.YtkfcbihofipcbaaItemB

namespace Go.Proofs.Ytkfcbihofipcbaa.It

open Go.RowKit Go.Proofs.Ytkfcbihofipcbaa.Vc Go.Proofs.Ytkfcbihofipcbaa.Sp

set_option linter.unusedVariables false

set_option linter.unusedSimpArgs false

set_option maxRecDepth 100000

section

variable {P : Program} {ops : Array Oper} {rest : List Oper} {o : Oper} {a : Act} {w : World} {Q : Exit → Act → World → Prop}

/-- a number in a box of its own -/
theorem int_box (hgd : o.guard = none) (t : TypeId) (x : Operand) (ho : o.op = .box t x) (k : IntKind) (n : Int) (hx : a.eval x = .int k n)
    (h : ∀ w', Blk w' w.heap.size [.int k n] → Below w.heap.size w w' → w'.heap.size = w.heap.size + 1 → wpList P ops Q rest (a.put o.dst (.pointer (some ⟨w.heap.size, 0, none⟩))) w') : wpList P ops Q (o :: rest) a w := by
  refine wpList_plain hgd fun K hK => ?_
  unfold Oper.wp execOp
  simp only [ho, hx, Sem.run_bind, Instr.box, newVar, newRow, run_newObj_alloc, Sem.run_pure, Result.andThen_ok]
  exact hK _ _ (h _ (Blk.of_row (vs := [.int k n]) (heap_alloc_last w _)) ((Below.refl _ _).alloc (Nat.le_refl _) _) (by show (w.heap.push _).size = _; simp))
end

set_option maxHeartbeats 4000000 in
theorem whole1_any (x y : I.Wt) (b : Nat) (w : World) (hb : Blk w b (wc y)) (hlt : b < w.heap.size) :
    Calls Try.prog 45 #[WV x, .pointer (some ⟨b, 0, none⟩)] w fun e w' => e = .returned (.bool (decide (I.key x = I.key y))) ∧ Below w.heap.size w w' := by
  obtain ⟨bk, kk, vk, gk⟩ := x
  obtain ⟨bj, kj, vj, gj⟩ := y
  obtain ⟨e1, HE1⟩ : ∃ r, Hid (decide (bk = bj) = r) := ⟨_, rfl⟩
  obtain ⟨e2, HE2⟩ : ∃ r, Hid (decide (kk = kj) = r) := ⟨_, rfl⟩
  have q1 : (bk.toList == bj.toList) = e1 := by rw [V.tol_eq]; exact HE1.out
  have q2 : (kk.toList == kj.toList) = e2 := by rw [V.tol_eq]; exact HE2.out
  have hkey : decide (I.key (bk, kk, vk, gk) = I.key (bj, kj, vj, gj)) = (e1 && e2) := by
    rw [← HE1.out, ← HE2.out, ← Bool.decide_and]
    exact decide_eq_decide.2 (by simp [I.key])
  rw [hkey]
  clear hkey HE1 HE2
  have HH := Lib.hid hb
  clear hb
  go_enter Try.func45, Try.ntmps45
  go_wp2_with (first | refine blk_box rfl 23 _ rfl [.string bk, .string kk, .string vk, .bool gk] rfl ?_)
  intro w1 A1 B1 Z1
  have HB1 : Hid (Below w.heap.size w w1) := B1
  have A0 := Blk.below HH.out B1 hlt
  have c0 := A1.cell 0 _ rfl
  have c1 := A1.cell 1 _ rfl
  have d0 := A0.cell 0 _ rfl
  have d1 := A0.cell 1 _ rfl
  clear A1 B1 Z1 A0
  cases e1 with
  | false =>
    go_wp2_with fail
    go_ret
    exact ⟨rfl, HB1.out⟩
  | true =>
    cases e2 with
    | false =>
      go_wp2_with fail
      go_ret
      exact ⟨rfl, HB1.out⟩
    | true =>
      go_wp2_with fail
      go_ret
      exact ⟨rfl, HB1.out⟩
set_option maxHeartbeats 4000000 in
theorem of1_any (x : I.Wt) (b1 b2 : Nat) (s k : Int) (w : World) (hb1 : Blk w b1 [.int .i64 k]) (hb2 : Blk w b2 [.int .i64 s]) (l1 : b1 < w.heap.size) (l2 : b2 < w.heap.size)
    (hx : x.1.size ≤ 140737488355328 ∧ x.2.1.size ≤ 140737488355328) (h0 : -9223372036854775808 ≤ k) (h1 : k ≤ 9223372036854775807) :
    Calls Try.prog 48 #[WV x, .pointer (some ⟨b1, 0, none⟩), .pointer (some ⟨b2, 0, none⟩)] w fun e w' => e = .returned (.bool (decide (I.shard x.1 x.2.1 k = s))) ∧ Below w.heap.size w w' := by
  obtain ⟨xb, xk, xv, xg⟩ := x
  have CS := Lib.hid (fun w => shard_any xb xk k w hx.1 hx.2 h0 h1)
  show Calls _ _ _ _ fun e w' => e = .returned (.bool (decide (I.shard xb xk k = s))) ∧ _
  obtain ⟨y, HY⟩ : ∃ y, Hid (I.shard xb xk k = y) := ⟨_, rfl⟩
  rw [HY.out] at CS
  rw [HY.out]
  obtain ⟨q, HQ⟩ : ∃ q, Hid (decide (y = s) = q) := ⟨_, rfl⟩
  have QQ : Hid ((y == s) = q) := by show _ = _; rw [← HQ.out]; rfl
  rw [HQ.out]
  have H1 := Lib.hid hb1
  have H2 := Lib.hid hb2
  clear hb1 hb2 hx h0 h1 HY HQ
  go_enter Try.func48, Try.ntmps48
  go_wp2_with (first | refine blk_box rfl 23 _ rfl [.string xb, .string xk, .string xv, .bool xg] rfl ?_)
  intro w1 A1 B1 Z1
  have HB1 : Hid (Below w.heap.size w w1) := B1
  have HA1 := Lib.hid A1
  have K0 : Hid (∀ u, Below w1.heap.size w1 u → u.cell? ⟨w.heap.size, 0, none⟩ = some (.string xb)) := fun u hu => (Blk.below HA1.out hu (by omega)).cell 0 _ rfl
  have K1 : Hid (∀ u, Below w1.heap.size w1 u → u.cell? ⟨w.heap.size, 1, none⟩ = some (.string xk)) := fun u hu => (Blk.below HA1.out hu (by omega)).cell 1 _ rfl
  have KA : Hid (∀ u, Below w1.heap.size w1 u → u.cell? ⟨b1, 0, none⟩ = some (.int .i64 k)) := fun u hu => (Blk.below (Blk.below H1.out B1 l1) hu (by omega)).cell 0 _ rfl
  have KB : Hid (∀ u, Below w1.heap.size w1 u → u.cell? ⟨b2, 0, none⟩ = some (.int .i64 s)) := fun u hu => (Blk.below (Blk.below H2.out B1 l2) hu (by omega)).cell 0 _ rfl
  have XS : Hid (∀ u, Below w1.heap.size w1 u → Calls Try.prog 28 [.string xb, .string xk, .int .i64 k].toArray u fun e u' => e = .returned (.int .i64 y) ∧ Below w1.heap.size w1 u') := fun u hu => Calls.more hu (CS.out u)
  clear A1 B1 Z1 CS
  go_wp2_with fail
  refine region_w Try.mixed (by kernel_rfl) ?_
  refine w_value rfl (.pointer (some ⟨w.heap.size, 0, none⟩)) (fun u hu => by go_simp) (fun K hK => ?_)
  go_simp
  refine hK _ ?_
  clear hK K
  refine w_value rfl (.string xb) (fun u hu => by have hc := K0.out u hu; go_simp) (fun K hK => ?_)
  go_simp
  refine hK _ ?_
  clear hK K
  refine w_value rfl (.pointer (some ⟨w.heap.size, 1, none⟩)) (fun u hu => by go_simp) (fun K hK => ?_)
  go_simp
  refine hK _ ?_
  clear hK K
  refine w_value rfl (.string xk) (fun u hu => by have hc := K1.out u hu; go_simp) (fun K hK => ?_)
  go_simp
  refine hK _ ?_
  clear hK K
  refine w_value rfl (.int .i64 k) (fun u hu => by have hc := KA.out u hu; go_simp) (fun K hK => ?_)
  go_simp
  refine hK _ ?_
  clear hK K
  refine w_call rfl 28 Try.f28 Try.func28 rfl rfl _ _ rfl _ rfl (.int .i64 y) (by exact XS.out) (fun K hK => ?_)
  go_simp
  refine hK _ ?_
  clear hK K
  refine w_value rfl (.int .i64 s) (fun u hu => by have hc := KB.out u hu; go_simp) (fun K hK => ?_)
  go_simp
  refine hK _ ?_
  clear hK K
  refine w_value rfl (.bool q) (fun u hu => by have hc := QQ.out; go_simp) (fun K hK => ?_)
  go_simp
  refine hK _ ?_
  clear hK K
  refine w_assign rfl _ rfl (.bool q) rfl (fun K hK => ?_)
  go_simp
  refine hK _ ?_
  clear hK K
  refine w_nil ?_
  intro u hu
  have HU : Hid (Below w.heap.size w u) := Below.trans HB1.out (hu.mono HB1.out.size)
  clear hu
  go_wp2_with fail
  go_ret
  exact ⟨rfl, HU.out⟩
set_option maxHeartbeats 4000000 in
theorem of_any (a : List Nat) (d : Int) (v : Value) (L : List I.Wt) (s k : Int) (w : World) (ha : a.length = 4) (hL : IsWs w v L) (hn : L.length < 1000000) (hO : ∀ x ∈ L, x.1.size ≤ 140737488355328 ∧ x.2.1.size ≤ 140737488355328) (h0 : -9223372036854775808 ≤ k) (h1 : k ≤ 9223372036854775807) :
    Calls Try.prog 26 #[TV a d v, .int .i64 s, .int .i64 k] w fun e w' => ∃ v', e = .returned v' ∧ OW 23 w' w.heap.size v' (I.of L s k) ∧ Below w.heap.size w w' := by
  have HA := Lib.hid ha
  have HL := Lib.hid hL
  have HOO := Lib.hid hO
  have CP : Hid (∀ u b1 b2, Blk u b1 [.int .i64 k] → Blk u b2 [.int .i64 s] → b1 < u.heap.size → b2 < u.heap.size → IsWs u v L → Calls Try.prog 44 #[v, .func (.func 48) #[] #[.pointer (some ⟨b1, 0, none⟩), .pointer (some ⟨b2, 0, none⟩)]] u fun e w' => ∃ v', e = .returned v' ∧ OW 23 w' u.heap.size v' (I.of L s k) ∧ Below u.heap.size u w') :=
    fun u b1 b2 g1 g2 l1 l2 hl => pick_o _ _ _ v L u hl hn fun x hx u' hu' => of1_any x b1 b2 s k u' (Blk.below g1 hu' l1) (Blk.below g2 hu' l2) (Nat.lt_of_lt_of_le l1 hu'.size) (Nat.lt_of_lt_of_le l2 hu'.size) (HOO.out x hx) h0 h1
  clear hL hn hO h0 h1 ha
  go_enter Try.func26, Try.ntmps26
  go_wp2_with (first | refine blk_box rfl 43 _ rfl (ks .u64 a ++ [Value.int .i64 d, v]) rfl ?_)
  intro w1 A1 B1 Z1
  go_wp2_with (first | refine int_box rfl 3 _ rfl .i64 s rfl ?_)
  intro w2 A2 B2 Z2
  go_wp2_with (first | refine int_box rfl 3 _ rfl .i64 k rfl ?_)
  intro w3 A3 B3 Z3
  have c5 := tx_cell (Blk.below (Blk.below A1 B2 (by omega)) B3 (by omega)) HA.out
  have HA2 := Lib.hid (Blk.below A2 B3 (by omega))
  have HA3 := Lib.hid A3
  have HB3 : Hid (Below w.heap.size w w3) := (B1.trans (B2.mono (by omega))).trans (B3.mono (by omega))
  have HC := Lib.hid (CP.out w3 _ _ HA3.out HA2.out (by omega) (by omega) (IsWs.below HL.out HB3.out))
  clear A1 B1 Z1 A2 B2 Z2 A3 B3 Z3 CP HA2 HA3
  go_wp2_with fail
  refine HC.out.mono ?_; rintro e w4 ⟨v', rfl, ho, hb4⟩
  have HO4 := Lib.hid (OW.mono ho HB3.out.size)
  have HB4 : Hid (Below w.heap.size w w4) := Below.trans HB3.out (hb4.mono HB3.out.size)
  clear ho hb4
  go_wp2_with fail
  go_ret
  exact ⟨_, rfl, HO4.out, HB4.out⟩
set_option maxHeartbeats 8000000 in
theorem whole_any (a : List Nat) (d : Int) (v : Value) (L : List I.Wt) (w : World) (ha : a.length = 4) (hL : IsWs w v L) :
    Calls Try.prog 22 #[TV a d v] w fun e w' => e = .returned (.bool (I.whole a d L)) ∧ Below w.heap.size w w' := by
  have HA := Lib.hid ha
  have HSs := Lib.hid (size_s (d := d) ha)
  have C := Lib.hid (fun w => sright_any a d w ha)
  unfold I.whole
  rw [← I.ok2_okTo]
  obtain ⟨sa, cap, rfl, hcap, hmax, hmem⟩ := hL.is
  obtain ⟨n, HN⟩ : ∃ n, Hid (L.length = n) := ⟨_, rfl⟩
  have HL := Lib.hid hL
  rw [HN.out] at HL hcap
  rw [HN.out]
  obtain ⟨r, HR⟩ : ∃ r, Hid ((T.right a d && (decide (1 ≤ n ∧ n ≤ 8) && I.ok2 L n)) = r) := ⟨_, rfl⟩
  rw [HR.out]
  clear ha hL hmax hmem
  go_enter Try.func22, Try.ntmps22
  go_wp2_with (first | refine blk_box rfl 43 _ rfl (ks .u64 a ++ [Value.int .i64 d, .slice sa n cap]) rfl ?_)
  intro w1 A1 B1 Z1
  have HL1 : Hid (IsWs w1 (.slice sa n cap) L) := IsWs.below HL.out B1
  have HA1 : Hid (Blk w1 w.heap.size (ks .u64 a ++ [Value.int .i64 d, .slice sa n cap])) := A1
  have HB1 : Hid (Below w.heap.size w w1) := B1
  have HZ1 : Hid (w.heap.size < w1.heap.size) := by show _ < _; omega
  clear A1 B1 Z1 HL
  go_wp2_with (first | refine sub_load rfl 30 _ rfl w.heap.size rfl (ks .u64 a ++ [Value.int .i64 d]) [.slice sa n cap] (tx_stamp HA1.out) _ Try.underlying30 rfl HSs.out ?_)
  refine (C.out _).mono ?_; rintro e w2 ⟨rfl, hb2⟩
  have HL2 : Hid (IsWs w2 (.slice sa n cap) L) := IsWs.below HL1.out hb2
  have HA2 : Hid (Blk w2 w.heap.size (ks .u64 a ++ [Value.int .i64 d, .slice sa n cap])) := Blk.below HA1.out hb2 HZ1.out
  have HB2 : Hid (Below w.heap.size w w2) := Below.trans HB1.out (hb2.mono HB1.out.size)
  have HZ2 : Hid (w.heap.size < w2.heap.size) := Nat.lt_of_lt_of_le HZ1.out hb2.size
  have c5 := tx_cell HA2.out HA.out
  clear hb2 HL1 HA1 HB1 HZ1 C
  cases hr : T.right a d with
  | false =>
    obtain rfl : false = r := by rw [← HR.out, hr]; rfl
    clear hr
    go_wp2_with fail
    go_ret
    exact ⟨rfl, HB2.out⟩
  | true =>
    rw [hr, Bool.true_and] at HR
    clear hr
    by_cases h1 : 1 ≤ n
    · by_cases h8 : n ≤ 8
      · have i1 : decide ((n : Int) < 1) = false := by simp; omega
        have i8 : decide ((8 : Int) < (n : Int)) = false := by simp; omega
        have j1 : ¬ (n : Int) < 1 := by omega
        have j8 : ¬ (8 : Int) < (n : Int) := by omega
        have HRR : Hid (I.ok2 L n = r) := by show _ = _; rw [← HR.out]; simp [h1, h8]
        clear HR
        go_wp2_with fail
        go_loopw [25] (fun i wr => ∃ j : Nat, j ≤ n ∧ i = .int .i64 j ∧ Hid (I.ok2 L j = true) ∧ Hid (Blk wr w.heap.size (ks .u64 a ++ [Value.int .i64 d, .slice sa n cap])) ∧ Hid (IsWs wr (.slice sa n cap) L) ∧ Hid (Below w.heap.size w wr) ∧ Hid (w.heap.size < wr.heap.size)) (fun i _ => n - (intOf i).toNat)
        case atStart => exact ⟨0, by omega, rfl, rfl, HA2, HL2, HB2, HZ2⟩
        case round =>
          obtain ⟨j, hj, rfl, HO, HAr, HLr, HBr, HZr⟩ := hrel
          clear HA2 HL2 HB2 HZ2 c5 i1 i8 j1 j8
          by_cases hlt : j < n
          · have ilt : (j : Int) < (n : Int) := by omega
            obtain ⟨g, off, cap', hv, hg, hrow⟩ := IsWs.at HLr.out j (by rw [HN.out]; exact hlt)
            obtain rfl : sa = (some ⟨g, off, none⟩) := by injection hv
            clear hv
            have hix : ∀ w, (Instr.indexAt 41 (.slice (some ⟨g, off, none⟩) n cap) (.int .i64 (j : Int))).run Try.prog w = .ok (.pointer (some ⟨g, off + 4 * j, none⟩)) w := fun w => index_iw g off n cap j hlt w
            have HROW := Lib.hid hrow
            have hst := I.ok2_step L j
            have hno := I.ok2_not L j n hlt
            unfold I.good at hst hno
            have CR := Lib.hid (fun w => wright_any (L.getD j I.none_) w)
            obtain ⟨x, HX⟩ : ∃ x, Hid (L.getD j I.none_ = x) := ⟨_, rfl⟩
            rw [HX.out] at CR HROW hst hno
            rw [HO.out, Bool.true_and] at hst
            have HST := Lib.hid hst
            have HNO := Lib.hid hno
            have hn6 : L.length < 1000000 := by rw [HN.out]; omega
            have CP : Hid (∀ u b, Blk u b (wc x) → b < u.heap.size → IsWs u (.slice (some ⟨g, off, none⟩) n cap) L → Calls Try.prog 44 #[.slice (some ⟨g, off, none⟩) n cap, .func (.func 45) #[] #[.pointer (some ⟨b, 0, none⟩)]] u fun e w' => ∃ v', e = .returned v' ∧ OW 23 w' u.heap.size v' (I.alike L x) ∧ Below u.heap.size u w') :=
              fun u b hb hlt hl => pick_w _ _ _ L u hl hn6 fun y _ u' hu' => whole1_any y x b u' (Blk.below hb hu' hlt) (Nat.lt_of_lt_of_le hlt hu'.size)
            clear hrow hst hno hn6
            go_wp2_with (first | refine mid_load rfl 23 _ rfl g (off + 4 * j) rfl (wc x) HROW.out _ Try.underlying23 rfl Try.size_w ?_ | refine blk_alloc rfl 23 (wc I.none_) rfl Try.info_iw2 ?_)
            intro w3 A3 B3 Z3
            go_wp2_with (first | refine blk_store rfl 23 _ _ rfl wr.heap.size rfl (wc x) rfl _ A3 rfl Try.size_w rfl ?_)
            intro w4 A4 U4
            have hB4 : Below wr.heap.size wr w4 := B3.trans (U4.below (Nat.le_refl _))
            have hz4 : wr.heap.size < w4.heap.size := by rw [U4.size]; omega
            have HX4 : Hid (Blk w4 wr.heap.size (wc x)) := A4
            have HA4 : Hid (Blk w4 w.heap.size (ks .u64 a ++ [Value.int .i64 d, .slice (some ⟨g, off, none⟩) n cap])) := Blk.below HAr.out hB4 HZr.out
            have HL4 : Hid (IsWs w4 (.slice (some ⟨g, off, none⟩) n cap) L) := IsWs.below HLr.out hB4
            have HB4 : Hid (Below w.heap.size w w4) := Below.trans HBr.out (hB4.mono HBr.out.size)
            have HZ4 : Hid (w.heap.size < w4.heap.size) := Nat.lt_of_lt_of_le HZr.out hB4.size
            have HY4 := Lib.hid hz4
            have c5 := tx_cell HA4.out HA.out
            have HP4 := Lib.hid (CP.out w4 _ HX4.out HY4.out HL4.out)
            clear A3 B3 Z3 A4 U4 hB4 HAr HLr HBr HZr CP HROW hix hz4 hg
            go_wp2_with fail
            refine HP4.out.mono ?_; rintro e w5 ⟨v', rfl, ho, hb5⟩
            have HX5 : Hid (Blk w5 wr.heap.size (wc x)) := Blk.below HX4.out hb5 HY4.out
            have HA5 : Hid (Blk w5 w.heap.size (ks .u64 a ++ [Value.int .i64 d, .slice (some ⟨g, off, none⟩) n cap])) := Blk.below HA4.out hb5 HZ4.out
            have HL5 : Hid (IsWs w5 (.slice (some ⟨g, off, none⟩) n cap) L) := IsWs.below HL4.out hb5
            have HB5 : Hid (Below w.heap.size w w5) := Below.trans HB4.out (hb5.mono HB4.out.size)
            have HZ5 : Hid (w.heap.size < w5.heap.size) := Nat.lt_of_lt_of_le HZ4.out hb5.size
            have HY5 : Hid (wr.heap.size < w5.heap.size) := Nat.lt_of_lt_of_le HY4.out hb5.size
            obtain ⟨av, cv, ev, _⟩ := ho.is.is
            subst ev
            clear ho hb5 HX4 HA4 HL4 HB4 HZ4 HY4 c5 HP4
            obtain ⟨m, HM⟩ : ∃ m, Hid ((I.alike L x).length = m) := ⟨_, rfl⟩
            rw [HM.out] at HST HNO
            rw [HM.out]
            go_wp2_with (first | refine blk_load rfl 23 _ rfl wr.heap.size rfl (wc x) HX5.out _ Try.underlying23 rfl Try.size_w ?_)
            refine (CR.out _).mono ?_; rintro e w6 ⟨rfl, hb6⟩
            have HA6 : Hid (Blk w6 w.heap.size (ks .u64 a ++ [Value.int .i64 d, .slice (some ⟨g, off, none⟩) n cap])) := Blk.below HA5.out hb6 HZ5.out
            have HL6 : Hid (IsWs w6 (.slice (some ⟨g, off, none⟩) n cap) L) := IsWs.below HL5.out hb6
            have HB6 : Hid (Below w.heap.size w w6) := Below.trans HB5.out (hb6.mono HB5.out.size)
            have HZ6 : Hid (w.heap.size < w6.heap.size) := Nat.lt_of_lt_of_le HZ5.out hb6.size
            clear hb6 HX5 HA5 HL5 HB5 HZ5 HY5 CR
            cases hrx : I.right x with
            | false =>
              obtain rfl : false = r := by rw [← HRR.out]; exact (HNO.out (by rw [hrx]; rfl)).symm
              clear hrx
              go_wp2_with fail
              go_ret
              exact ⟨rfl, HB6.out⟩
            | true =>
              by_cases hm : 1 < m
              · obtain rfl : false = r := by rw [← HRR.out]; exact (HNO.out (by rw [hrx, decide_eq_true hm]; rfl)).symm
                have im : (1 : Int) < (m : Int) := by omega
                clear hrx
                go_wp2_with fail
                go_ret
                exact ⟨rfl, HB6.out⟩
              · have im : decide ((1 : Int) < (m : Int)) = false := by simp; omega
                have HO' : Hid (I.ok2 L (j + 1) = true) := by show _ = _; rw [HST.out, hrx, decide_eq_false hm]; rfl
                clear hrx
                go_wp2_with fail
                go_roundw
                case rel => exact ⟨j + 1, by omega, by go_num, HO', HA6, HL6, HB6, HZ6⟩
                case measure => simp [intOf]; omega
          · obtain rfl : j = n := by omega
            obtain rfl : true = r := by rw [← HRR.out]; exact HO.out.symm
            go_wp2_with fail
            go_ret
            exact ⟨rfl, HBr.out⟩
      · obtain rfl : false = r := by rw [← HR.out]; simp [h8]
        have i1 : decide ((n : Int) < 1) = false := by simp; omega
        have j1 : ¬ (n : Int) < 1 := by omega
        have i8 : decide ((8 : Int) < (n : Int)) = true := by simp; omega
        have j8 : (8 : Int) < (n : Int) := by omega
        go_wp2_with fail
        go_ret
        exact ⟨rfl, HB2.out⟩
    · obtain rfl : false = r := by rw [← HR.out]; simp [h1]
      have i1 : decide ((n : Int) < 1) = true := by simp; omega
      have j1 : (n : Int) < 1 := by omega
      go_wp2_with fail
      go_ret
      exact ⟨rfl, HB2.out⟩
end Go.Proofs.Ytkfcbihofipcbaa.It
