/- The quota as the document has it: its calls. -/
import Derived.Test.YtepoodfihemmcaaQuotaDoc

namespace Go.Proofs.Ytepoodfihemmcaa.Q

set_option linter.unusedVariables false

theorem withD_len (D : List I.Wt) (x : I.Wt) : (withD D x).length ≤ D.length + 1 := by
  unfold withD
  split
  · rw [List.length_append]
    have := List.length_filter_le (fun y => !decide (I.key y = I.key x)) D
    simp only [List.length_cons, List.length_nil]; omega
  · omega
theorem allD_len : ∀ (L D : List I.Wt), (allD D L).length ≤ D.length + L.length
  | [], D => Nat.le_refl _
  | x :: L, D => by
    have h1 := allD_len L (withD D x)
    have h2 := withD_len D x
    show (allD (withD D x) L).length ≤ _
    rw [List.length_cons]; omega
theorem withD_right {D : List I.Wt} (h : ∀ y ∈ D, I.right y = true) (x : I.Wt) : ∀ y ∈ withD D x, I.right y = true := by
  intro y hy
  unfold withD at hy
  split at hy
  · rename_i hx
    rcases List.mem_append.1 hy with hy | hy
    · exact h y (List.mem_filter.1 hy).1
    · simp only [List.mem_cons, List.not_mem_nil, or_false] at hy
      rw [hy]; exact hx
  · exact h y hy
theorem allD_right : ∀ (L : List I.Wt) {D : List I.Wt}, (∀ y ∈ D, I.right y = true) → ∀ y ∈ allD D L, I.right y = true
  | [], D, h => h
  | x :: L, D, h => allD_right L (withD_right h x)
theorem allD_step (D L : List I.Wt) (j : Nat) (h : j < L.length) : allD D (L.take (j + 1)) = withD (allD D (L.take j)) (L.getD j I.none_) := by
  unfold allD
  rw [List.take_succ_eq_append_getElem h, List.foldl_append, List.getD_eq_getElem?_getD, List.getElem?_eq_getElem h, Option.getD_some]
  rfl
theorem sumS_le {D : List I.Wt} (h : ∀ y ∈ D, I.right y = true) : 0 ≤ sumS D ∧ sumS D ≤ 64 * D.length := by
  induction D with
  | nil => exact ⟨Int.le_refl _, Int.le_refl _⟩
  | cons x D ih =>
    have h1 := sz_right (h x (List.mem_cons_self ..))
    have h2 := ih fun y hy => h y (List.mem_cons_of_mem _ hy)
    rw [sumS_cons, List.length_cons]
    omega
theorem cnt_step (D : List I.Wt) (j : Nat) (h : j < D.length) : cnt (D.take (j + 1)) = cnt (D.take j) + if 0 < sz (D.getD j I.none_) then 1 else 0 := by
  rw [List.take_succ_eq_append_getElem h, cnt_app, cnt_cons, List.getD_eq_getElem?_getD, List.getElem?_eq_getElem h, Option.getD_some]
  rfl
theorem cnt_le (D : List I.Wt) : cnt D ≤ D.length := List.length_filter_le _ _
theorem right_at {D : List I.Wt} (h : ∀ y ∈ D, I.right y = true) (j : Nat) (hj : j < D.length) : I.right (D.getD j I.none_) = true := by
  rw [List.getD_eq_getElem?_getD, List.getElem?_eq_getElem hj]
  exact h _ (List.getElem_mem _)
end Go.Proofs.Ytepoodfihemmcaa.Q

namespace Go.Proofs.Ytepoodfihemmcaa.Qr

open Go.RowKit Go.Proofs.Ytepoodfihemmcaa.It

set_option linter.unusedVariables false

set_option linter.unusedSimpArgs false

set_option maxRecDepth 100000

set_option maxHeartbeats 4000000 in
theorem sum_any (v : Value) (D : List I.Wt) (w : World) (hL : IsWs w v D) (hn : D.length < 900000) (hr : ∀ y ∈ D, I.right y = true) (t : Int) (ht : Q.sumS D = t) :
    Calls Try.prog 29 #[v] w fun e w' => e = .returned (.int .i64 t) ∧ Below w.heap.size w w' := by
  obtain ⟨sa, cap, rfl, hca, hma⟩ := IsWs.cap hL
  have HRT := Lib.hid hr
  have HT := Lib.hid ht
  have HL0 := Lib.hid hL
  obtain ⟨n, HN⟩ : ∃ n, Hid (D.length = n) := ⟨_, rfl⟩
  rw [HN.out] at HL0 hn ⊢
  have HB0 : Hid (Below w.heap.size w w) := Below.refl _ _
  clear hL hca hma hr ht
  go_enter Try.func29, Try.ntmps29
  go_wp2_with fail
  go_loopw [3, 4] (fun s i wr => ∃ (j : Nat) (q : Int), j ≤ n ∧ i = .int .i64 (j : Int) ∧ s = .int .i64 q ∧ 0 ≤ q ∧ q ≤ 64 * j ∧ Hid (Q.sumS (D.take j) = q) ∧ Hid (Below w.heap.size w wr)) (fun _ i _ => n - (intOf i).toNat)
  case atStart => exact ⟨0, 0, by omega, rfl, rfl, by omega, by omega, rfl, HB0⟩
  case round =>
    obtain ⟨j, q, hjn, rfl, rfl, hq0, hq1, HS, HB⟩ := hrel
    clear HB0
    by_cases hlt : j < n
    · have i1 : (j : Int) < (n : Int) := by omega
      obtain ⟨g, off, cap', hv, hg0, hrow⟩ := IsWs.at (HL0.out.below HB.out) j (by rw [HN.out]; exact hlt)
      obtain rfl : sa = some ⟨g, off, none⟩ := by injection hv
      clear hv
      have hst := Q.sumS_step D j (by rw [HN.out]; exact hlt)
      have hrt := Q.right_at HRT.out j (by rw [HN.out]; exact hlt)
      obtain ⟨y, HY⟩ : ∃ y, Hid (D.getD j I.none_ = y) := ⟨_, rfl⟩
      rw [HY.out] at hrow hst hrt
      clear HY
      have hsz := Q.sz_right hrt
      have CS := Lib.hid (fun u => ref_wsize y u (Qm.ok_right hrt))
      obtain ⟨z, HZ⟩ : ∃ z : Int, Hid (Q.sz y = z) := ⟨_, rfl⟩
      rw [HZ.out, HS.out] at hst
      rw [HZ.out] at hsz
      change Hid (∀ u, Calls Try.prog 34 #[WV y] u fun e w' => e = .returned (.int .i64 (Q.sz y)) ∧ Below u.heap.size u w') at CS
      rw [HZ.out] at CS
      obtain ⟨yb, yk, yv, yg⟩ := y
      have CS : Hid (∀ u, Calls Try.prog 34 #[.agg [Value.string yb, .string yk, .string yv, .bool yg].toArray] u fun e w' => e = .returned (.int .i64 z) ∧ Below u.heap.size u w') := CS.out
      have HROW : Hid (wr.rangeAt g (off + 4 * j) [Value.string yb, .string yk, .string yv, .bool yg]) := hrow
      have HST := Lib.hid hst
      have hix : ∀ w, (Instr.indexAt 34 (.slice (some ⟨g, off, none⟩) n cap) (.int .i64 (j : Int))).run Try.prog w = .ok (.pointer (some ⟨g, off + 4 * j, none⟩)) w := fun w => index_rw g off n cap j hlt w
      have kq : IntKind.i64.wrap (q + z) = q + z := Qm.wrap_small _ (by omega) (by omega)
      clear hrow hst hrt hg0 HZ HS
      go_wp2_with (first | refine wpList_load_mid rfl 66 _ rfl g (off + 4 * j) rfl [Value.string yb, .string yk, .string yv, .bool yg] _ HROW.out Try.underlying66 rfl Try.size_rw ?_)
      refine (CS.out _).mono ?_; rintro e w3 ⟨rfl, hb⟩
      have HB3 : Hid (Below w.heap.size w w3) := Below.trans HB.out (hb.mono HB.out.size)
      clear hb HB HROW CS hix
      go_wp2_with fail
      go_roundw
      case rel => exact ⟨j + 1, q + z, by omega, by go_num, rfl, by omega, by omega, HST, HB3⟩
      case measure => simp [intOf]; omega
    · obtain rfl : j = n := by omega
      have hq : q = t := by
        have := HS.out
        rw [List.take_of_length_le (by rw [HN.out]; exact Nat.le_refl _), HT.out] at this
        exact this.symm
      subst hq
      clear HS
      go_wp2_with fail
      go_ret
      exact ⟨rfl, HB.out⟩
/-- the document's quota at b -/
structure Ro (w : World) (b : Nat) (L : Int) (lv : Value) (D : List I.Wt) : Prop where
  blk : Blk w b [.int .i64 L, lv]
  row : IsWs w lv D
theorem Ro.lt {w : World} {b : Nat} {L : Int} {lv : Value} {D : List I.Wt} (h : Ro w b L lv D) : b < w.heap.size := World.block_lt_of_cell? w _ (h.blk.cell 0 _ rfl)
theorem Ro.more {w w' : World} {b : Nat} {L : Int} {lv : Value} {D : List I.Wt} (h : Ro w b L lv D) (hb : Below w.heap.size w w') : Ro w' b L lv D := ⟨h.blk.below hb h.lt, h.row.below hb⟩
theorem Ro.drew {w : World} {b : Nat} {L : Int} {lv : Value} {D : List I.Wt} (h : Ro w b L lv D) : Ro w.drew b L lv D := h.more (Below.drew (Below.refl _ _))
/-- kept where but one other block turned, a map's -/
theorem Ro.only {w w' : World} {b mb : Nat} {L : Int} {lv : Value} {D : List I.Wt} (h : Ro w b L lv D) (ho : Qm.Only mb w w') (hm : ∃ es clock, w.heap[mb]? = some (.map es clock)) : Ro w' b L lv D :=
  ⟨Qm.Blk.only h.blk ho h.lt (Qm.not_map (h.blk.cell 0 _ rfl) hm), ho.ws hm h.row⟩
set_option maxHeartbeats 4000000 in
theorem all_any (b : Nat) (L : Int) (lv v : Value) (D LW : List I.Wt) (w : World) (h : Ro w b L lv D) (hL : IsWs w v LW) (hn : D.length + LW.length < 900000) :
    Calls Try.prog 30 #[.pointer (some ⟨b, 0, none⟩), v] w fun e w' => ∃ v', e = .returned v' ∧ IsWs w' v' (Q.allD D LW) ∧ Below w.heap.size w w' := by
  obtain ⟨sa, cap, rfl, hca, hma⟩ := IsWs.cap hL
  have HL0 := Lib.hid hL
  have HDN := Lib.hid hn
  obtain ⟨n, HN⟩ : ∃ n, Hid (LW.length = n) := ⟨_, rfl⟩
  have hn9 : n < 900000 := by have := HN.out; omega
  rw [HN.out] at HL0 HDN ⊢
  have c1 := h.blk.cell 1 _ rfl
  have HO0 : Hid (IsWs w lv (Q.allD D (LW.take 0))) := h.row
  have HB0 : Hid (Below w.heap.size w w) := Below.refl _ _
  clear hL hca hma hn h
  go_enter Try.func30, Try.ntmps30
  go_wp2_with fail
  go_loopw [5, 6] (fun t i wr => ∃ (j : Nat), j ≤ n ∧ i = .int .i64 (j : Int) ∧ Hid (IsWs wr t (Q.allD D (LW.take j))) ∧ Hid (Below w.heap.size w wr)) (fun _ i _ => n - (intOf i).toNat)
  case atStart => exact ⟨0, by omega, rfl, HO0, HB0⟩
  case round =>
    obtain ⟨j, hjn, rfl, HO, HB⟩ := hrel
    clear HO0 HB0
    by_cases hlt : j < n
    · have i1 : (j : Int) < (n : Int) := by omega
      obtain ⟨g, off, cap', hv, hg0, hrow⟩ := IsWs.at (HL0.out.below HB.out) j (by rw [HN.out]; exact hlt)
      obtain rfl : sa = some ⟨g, off, none⟩ := by injection hv
      clear hv
      have hst := Q.allD_step D LW j (by rw [HN.out]; exact hlt)
      have hln : (Q.allD D (LW.take j)).length < 900000 := by
        have h1 := Q.allD_len (LW.take j) D
        have h2 := HDN.out
        rw [List.length_take] at h1
        omega
      obtain ⟨y, HY⟩ : ∃ y, Hid (LW.getD j I.none_ = y) := ⟨_, rfl⟩
      rw [HY.out] at hrow hst
      clear HY
      have CW := Lib.hid (with_any _ _ y wr HO.out hln)
      rw [← hst] at CW
      obtain ⟨yb, yk, yv, yg⟩ := y
      have HROW : Hid (wr.rangeAt g (off + 4 * j) [Value.string yb, .string yk, .string yv, .bool yg]) := hrow
      have hix : ∀ w, (Instr.indexAt 34 (.slice (some ⟨g, off, none⟩) n cap) (.int .i64 (j : Int))).run Try.prog w = .ok (.pointer (some ⟨g, off + 4 * j, none⟩)) w := fun w => index_rw g off n cap j hlt w
      clear hrow hst hln hg0
      go_wp2_with (first | refine wpList_load_mid rfl 66 _ rfl g (off + 4 * j) rfl [Value.string yb, .string yk, .string yv, .bool yg] _ HROW.out Try.underlying66 rfl Try.size_rw ?_)
      refine CW.out.mono ?_; rintro e w3 ⟨v3, rfl, hw, hb⟩
      have HO3 := Lib.hid hw
      have HB3 : Hid (Below w.heap.size w w3) := Below.trans HB.out (hb.mono HB.out.size)
      clear hw hb HB HO HROW CW hix
      go_wp2_with fail
      go_roundw
      case rel => exact ⟨j + 1, by omega, by go_num, HO3, HB3⟩
      case measure => simp [intOf]; omega
    · obtain rfl : j = n := by omega
      rw [List.take_of_length_le (by rw [HN.out]; exact Nat.le_refl _)] at HO
      go_wp2_with fail
      go_ret
      exact ⟨_, rfl, HO.out, HB.out⟩
set_option maxHeartbeats 1000000 in
theorem new_ok (L : Int) (w : World) (h0 : 0 ≤ L) (h1 : L ≤ 1073741824) :
    Calls Try.prog 10 #[.int .i64 L] w fun e w' => ∃ b, e = .returned (.pointer (some ⟨b, 0, none⟩)) ∧ Ro w' b L (.slice none 0 0) [] ∧ Below w.heap.size w w' ∧ w.heap.size ≤ b := by
  have i0 : decide (L < 0) = false := by simp; omega
  have i1 : decide ((1073741824 : Int) < L) = false := by simp; omega
  clear h0 h1
  go_enter Try.func10, Try.ntmps10
  go_wp2_with (first | refine blk_box rfl 62 _ rfl [.int .i64 L, .slice none 0 0] rfl ?_)
  intro w2 A B Z
  have HB : Hid (Below w.heap.size w w2) := B
  have HQ : Hid (Ro w2 w.heap.size L (.slice none 0 0) []) := ⟨A, IsWs.nil _⟩
  clear A B
  go_wp2_with fail
  go_ret
  exact ⟨_, rfl, HQ.out, HB.out, Nat.le_refl _⟩
set_option maxHeartbeats 1000000 in
theorem new_not (L : Int) (w : World) (h : L < 0 ∨ 1073741824 < L) :
    Calls Try.prog 10 #[.int .i64 L] w fun e w' => e = .returned (.pointer none) ∧ w' = w := by
  by_cases h0 : L < 0
  · have i0 : decide (L < 0) = true := by simp; omega
    clear h
    go_enter Try.func10, Try.ntmps10
    go_wp2_with fail
    go_ret
    exact ⟨rfl, rfl⟩
  · have i0 : decide (L < 0) = false := by simp; omega
    have i1 : decide ((1073741824 : Int) < L) = true := by simp; omega
    clear h h0
    go_enter Try.func10, Try.ntmps10
    go_wp2_with fail
    go_ret
    exact ⟨rfl, rfl⟩
set_option maxHeartbeats 1000000 in
theorem after_any (b : Nat) (L : Int) (lv v : Value) (D LW : List I.Wt) (w : World) (h : Ro w b L lv D) (hL : IsWs w v LW) (hn : D.length + LW.length < 900000) (hr : ∀ y ∈ D, I.right y = true) (t : Int) (ht : Q.sumS (Q.allD D LW) = t) :
    Calls Try.prog 13 #[.pointer (some ⟨b, 0, none⟩), v] w fun e w' => e = .returned (.int .i64 t) ∧ Below w.heap.size w w' := by
  have CA := Lib.hid (all_any b L lv v D LW w h hL hn)
  have CS := Lib.hid (fun v' u (hu : IsWs u v' (Q.allD D LW)) => sum_any v' (Q.allD D LW) u hu (Nat.lt_of_le_of_lt (Q.allD_len LW D) hn) (Q.allD_right LW hr) t ht)
  clear h hL hn hr ht
  go_enter Try.func13, Try.ntmps13
  go_wp2_with fail
  refine CA.out.mono ?_; rintro e w1 ⟨v1, rfl, hw, hb1⟩
  have HW := Lib.hid hw
  have HB1 := Lib.hid hb1
  clear hw hb1
  go_wp2_with fail
  refine (CS.out _ _ HW.out).mono ?_; rintro e w2 ⟨rfl, hb2⟩
  have HB2 : Hid (Below w.heap.size w w2) := Below.trans HB1.out (hb2.mono HB1.out.size)
  clear hb2
  go_wp2_with fail
  go_ret
  exact ⟨rfl, HB2.out⟩
set_option maxHeartbeats 1000000 in
theorem used_any (b : Nat) (L : Int) (lv : Value) (D : List I.Wt) (w : World) (h : Ro w b L lv D) (hn : D.length < 900000) (hr : ∀ y ∈ D, I.right y = true) (t : Int) (ht : Q.sumS D = t) :
    Calls Try.prog 19 #[.pointer (some ⟨b, 0, none⟩)] w fun e w' => e = .returned (.int .i64 t) ∧ Below w.heap.size w w' := by
  have CS := Lib.hid (sum_any lv D w h.row hn hr t ht)
  have c1 := h.blk.cell 1 _ rfl
  clear h hn hr ht
  go_enter Try.func19, Try.ntmps19
  go_wp2_with fail
  refine CS.out.mono ?_; rintro e w1 ⟨rfl, hb1⟩
  go_wp2_with fail
  go_ret
  exact ⟨rfl, hb1⟩
set_option maxHeartbeats 4000000 in
theorem keys_any (b : Nat) (L : Int) (lv : Value) (D : List I.Wt) (w : World) (h : Ro w b L lv D) (hn : D.length < 900000) (hr : ∀ y ∈ D, I.right y = true) (p : Nat) (hp : Q.cnt D = p) :
    Calls Try.prog 21 #[.pointer (some ⟨b, 0, none⟩)] w fun e w' => e = .returned (.int .i64 (p : Int)) ∧ Below w.heap.size w w' := by
  obtain ⟨sa, cap, rfl, hca, hma⟩ := IsWs.cap h.row
  have HRT := Lib.hid hr
  have HP := Lib.hid hp
  have HR0 := Lib.hid h
  obtain ⟨n, HN⟩ : ∃ n, Hid (D.length = n) := ⟨_, rfl⟩
  rw [HN.out] at HR0 hn
  have HB0 : Hid (Below w.heap.size w w) := Below.refl _ _
  clear h hca hma hr hp
  go_enter Try.func21, Try.ntmps21
  go_wp2_with fail
  go_loopw [3, 4] (fun s i wr => ∃ (j q : Nat), j ≤ n ∧ i = .int .i64 (j : Int) ∧ s = .int .i64 (q : Int) ∧ q ≤ j ∧ Hid (Q.cnt (D.take j) = q) ∧ Hid (Below w.heap.size w wr)) (fun _ i _ => n - (intOf i).toNat)
  case atStart => exact ⟨0, 0, by omega, rfl, rfl, by omega, rfl, HB0⟩
  case round =>
    obtain ⟨j, q, hjn, rfl, rfl, hq1, HS, HB⟩ := hrel
    clear HB0
    have HRr := Lib.hid (HR0.out.more HB.out)
    have c1 := HRr.out.blk.cell 1 _ rfl
    by_cases hlt : j < n
    · have i1 : (j : Int) < (n : Int) := by omega
      obtain ⟨g, off, cap', hv, hg0, hrow⟩ := IsWs.at HRr.out.row j (by rw [HN.out]; exact hlt)
      obtain rfl : sa = some ⟨g, off, none⟩ := by injection hv
      clear hv
      have hst := Q.cnt_step D j (by rw [HN.out]; exact hlt)
      have hrt := Q.right_at HRT.out j (by rw [HN.out]; exact hlt)
      obtain ⟨y, HY⟩ : ∃ y, Hid (D.getD j I.none_ = y) := ⟨_, rfl⟩
      rw [HY.out] at hrow hst hrt
      clear HY
      have hsz := Q.sz_right hrt
      have CS := Lib.hid (fun u => ref_wsize y u (Qm.ok_right hrt))
      obtain ⟨z, HZ⟩ : ∃ z : Int, Hid (Q.sz y = z) := ⟨_, rfl⟩
      rw [HZ.out, HS.out] at hst
      rw [HZ.out] at hsz
      change Hid (∀ u, Calls Try.prog 34 #[WV y] u fun e w' => e = .returned (.int .i64 (Q.sz y)) ∧ Below u.heap.size u w') at CS
      rw [HZ.out] at CS
      obtain ⟨yb, yk, yv, yg⟩ := y
      have CS : Hid (∀ u, Calls Try.prog 34 #[.agg [Value.string yb, .string yk, .string yv, .bool yg].toArray] u fun e w' => e = .returned (.int .i64 z) ∧ Below u.heap.size u w') := CS.out
      have HROW : Hid (wr.rangeAt g (off + 4 * j) [Value.string yb, .string yk, .string yv, .bool yg]) := hrow
      have HST := Lib.hid hst
      have hix : ∀ w, (Instr.indexAt 34 (.slice (some ⟨g, off, none⟩) n cap) (.int .i64 (j : Int))).run Try.prog w = .ok (.pointer (some ⟨g, off + 4 * j, none⟩)) w := fun w => index_rw g off n cap j hlt w
      clear hrow hst hrt hg0 HZ HS
      go_wp2_with (first | refine wpList_load_mid rfl 66 _ rfl g (off + 4 * j) rfl [Value.string yb, .string yk, .string yv, .bool yg] _ HROW.out Try.underlying66 rfl Try.size_rw ?_)
      refine (CS.out _).mono ?_; rintro e w3 ⟨rfl, hb⟩
      have HB3 : Hid (Below w.heap.size w w3) := Below.trans HB.out (hb.mono HB.out.size)
      clear hb HB HROW CS hix c1 HRr
      by_cases hz : 0 < z
      · have HS2 : Hid (Q.cnt (D.take (j + 1)) = q + 1) := by have := HST.out; rwa [if_pos hz] at this
        clear HST
        go_wp2_with fail
        go_roundw
        case rel => exact ⟨j + 1, q + 1, by omega, by go_num, by go_num, by omega, HS2, HB3⟩
        case measure => simp [intOf]; omega
      · have HS2 : Hid (Q.cnt (D.take (j + 1)) = q) := by have := HST.out; rwa [if_neg hz] at this
        have iz : decide (0 < z) = false := by simp; omega
        clear HST
        go_wp2_with fail
        go_roundw
        case rel => exact ⟨j + 1, q, by omega, by go_num, rfl, by omega, HS2, HB3⟩
        case measure => simp [intOf]; omega
    · obtain rfl : j = n := by omega
      have hq : q = p := by
        have := HS.out
        rw [List.take_of_length_le (by rw [HN.out]; exact Nat.le_refl _), HP.out] at this
        exact this.symm
      subst hq
      clear HS HRr
      go_wp2_with fail
      go_ret
      exact ⟨rfl, HB.out⟩
/-- a row of writes holds no slice: a cell that does is none of its -/
theorem ws_set {w : World} {v : Value} {L : List I.Wt} {b : Nat} {a : Option Addr} {n c : Nat} (h : IsWs w v L) (hc : w.cell? ⟨b, 1, none⟩ = some (.slice a n c)) (u : Value) : IsWs (w.setCell ⟨b, 1, none⟩ u) v L := by
  obtain ⟨a', cap, hv, h1, h2, h3⟩ := h.is
  refine ⟨a', cap, hv, h1, h2, fun hn => ?_⟩
  obtain ⟨g, off, ha, hlt, hW⟩ := h3 hn
  refine ⟨g, off, ha, by simpa [World.setCell] using hlt, fun i x hx j z hz => ?_⟩
  have h4 := hW i x hx j z hz
  have hne : (⟨g, off + 4 * i + j, none⟩ : Addr) ≠ ⟨b, 1, none⟩ := fun e => by
    rw [e, hc] at h4
    rcases j with _ | _ | _ | _ | j <;> simp [wc] at hz <;> (subst hz; cases h4)
  rw [World.cell?_setCell_other w (h := fun e => hne e.symm)]
  exact h4
set_option maxHeartbeats 2000000 in
theorem take_any (b : Nat) (L : Int) (lv v : Value) (D LW : List I.Wt) (w : World) (h : Ro w b L lv D) (hL : IsWs w v LW) (hn : D.length + LW.length < 900000) (hr : ∀ y ∈ D, I.right y = true) (t : Int) (ht : Q.sumS (Q.allD D LW) = t) (f : Bool) (hf : decide (t ≤ L) = f) :
    Calls Try.prog 17 #[.pointer (some ⟨b, 0, none⟩), v] w fun e w' => e = .returned (.bool f) ∧ (∃ lv', Ro w' b L lv' (if f = true then Q.allD D LW else D)) ∧ Qm.Only b w w' := by
  have CA := Lib.hid (fun u (hu : Below w.heap.size w u) => after_any b L lv v D LW u (h.more hu) (hL.below hu) hn hr t ht)
  have CL := Lib.hid (fun u (hu : Below w.heap.size w u) => all_any b L lv v D LW u (h.more hu) (hL.below hu) hn)
  obtain ⟨la, lc, el, _, _⟩ := IsWs.cap h.row
  subst el
  have HR := Lib.hid h
  obtain ⟨R, HRR⟩ : ∃ R, Hid ((if f = true then Q.allD D LW else D) = R) := ⟨_, rfl⟩
  rw [HRR.out]
  clear h hL hn hr ht
  go_enter Try.func17, Try.ntmps17
  go_wp2_with fail
  have HB0 : Hid (Below w.heap.size w w.drew) := (Below.refl _ _).drew
  refine region_pickC (fun u => Blk u b [Value.int .i64 L, .slice la D.length lc]) 8 [0, 1, 3, 4, 5, 6] [2, 7] Try.mixed (by kernel_rfl) rfl (by kernel_rfl) HR.out.drew.blk ?_
  refine p_readC rfl ?_
  refine c_move rfl _ rfl (.pointer (some ⟨b, 0, none⟩)) rfl (fun _ _ _ h => h) (fun K hK => ?_)
  go_simp
  refine hK _ ?_
  clear hK K
  refine c_nil ?_
  refine p_readC rfl ?_
  refine c_move rfl _ rfl v rfl (fun _ _ _ h => h) (fun K hK => ?_)
  go_simp
  refine hK _ ?_
  clear hK K
  refine c_nil ?_
  refine p_readC rfl ?_
  refine c_move rfl _ rfl (.pointer (some ⟨b, 0, none⟩)) rfl (fun _ _ _ h => h) (fun K hK => ?_)
  go_simp
  refine hK _ ?_
  clear hK K
  refine c_nil ?_
  refine p_readC rfl ?_
  refine c_value rfl (.pointer (some ⟨b, 0, none⟩)) (fun u hu => by go_simp) (fun _ _ _ h => h) (fun K hK => ?_)
  go_simp
  refine hK _ ?_
  clear hK K
  refine c_nil ?_
  refine p_readC rfl ?_
  refine c_value rfl (.pointer (some ⟨b, 0, none⟩)) (fun u hu => by go_simp) (fun _ _ _ h => h) (fun K hK => ?_)
  go_simp
  refine hK _ ?_
  clear hK K
  refine c_nil ?_
  refine p_readC rfl ?_
  refine c_value rfl (.int .i64 L) (fun u hu => by have hs := hu.cell 0 _ rfl; go_simp) (fun _ _ _ h => h) (fun K hK => ?_)
  go_simp
  refine hK _ ?_
  clear hK K
  refine c_nil ?_
  refine p_nilC ?_
  refine p_stepC rfl ?_
  go_wp2_with (go_at_call 13; refine Calls.mono (CA.out _ HB0.out) ?_; rintro e w1 ⟨rfl, hb⟩)
  have HB1 : Hid (Below w.heap.size w w1) := Below.trans HB0.out (hb.mono HB0.out.size)
  have HR1 := Lib.hid (HR.out.more HB1.out)
  clear hb HB0 CA
  refine And.intro (fun _ => HR1.out.blk) ?_
  refine p_stepC rfl ?_
  go_wp2_with fail
  refine And.intro (fun _ => HR1.out.blk) ?_
  refine p_endC ?_
  by_cases hle : t ≤ L
  · obtain rfl : true = f := by rw [← hf]; exact (decide_eq_true hle).symm
    have j1 : decide (L < t) = false := by simp; omega
    have HRT : Hid (Q.allD D LW = R) := by have := HRR.out; rwa [if_pos rfl] at this
    rw [HRT.out] at CL
    go_wp2_with fail
    refine (CL.out _ HB1.out).mono ?_; rintro e w2 ⟨v2, rfl, hw, hb⟩
    have HB2 : Hid (Below w.heap.size w w2) := Below.trans HB1.out (hb.mono HB1.out.size)
    have HR2 := Lib.hid (HR1.out.more hb)
    obtain ⟨va, vc, ev, _, _⟩ := IsWs.cap hw
    have HW := Lib.hid hw
    clear hw hb
    subst ev
    obtain ⟨m, HM⟩ : ∃ m, Hid (R.length = m) := ⟨_, rfl⟩
    rw [HM.out] at HW ⊢
    have c1 := HR2.out.blk.cell 1 _ rfl
    have f1 := HR2.out.blk.free 1 (by simp)
    have HU : Hid (Upd b w2 (w2.setCell ⟨b, 1, none⟩ (.slice va m vc))) := Upd.setCell _ _ _ _
    have HO3 : Hid (Qm.Only b w (w2.setCell ⟨b, 1, none⟩ (.slice va m vc))) := (Qm.Only.of_below HB2.out).trans (Qm.Only.of_upd HU.out)
    have HBK : Hid (Blk (w2.setCell ⟨b, 1, none⟩ (.slice va m vc)) b [Value.int .i64 L, .slice va m vc]) := Sp.Blk.setc HR2.out.blk 1 (by simp) _
    have HW3 : Hid (IsWs (w2.setCell ⟨b, 1, none⟩ (.slice va m vc)) (.slice va m vc) R) := ws_set HW.out c1 _
    go_wp2_with fail
    go_ret
    exact ⟨rfl, ⟨_, ⟨HBK.out, HW3.out⟩⟩, HO3.out⟩
  · obtain rfl : false = f := by rw [← hf]; exact (decide_eq_false hle).symm
    have j1 : decide (L < t) = true := by simp; omega
    have HRF : Hid (D = R) := by have := HRR.out; rwa [if_neg (by decide)] at this
    rw [HRF.out] at HR1
    go_wp2_with fail
    go_ret
    exact ⟨rfl, ⟨_, HR1.out⟩, Qm.Only.of_below HB1.out⟩
end Go.Proofs.Ytepoodfihemmcaa.Qr
