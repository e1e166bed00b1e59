/- A quota's calls: After, Fits, Take. -/
import Derived.Test.YtepoodfihemmcaaQuotaC

namespace Go.Proofs.Ytepoodfihemmcaa.Qm

open Go.RowKit Go.Instr Go.ChangeMaps Go.Proofs.Ytepoodfihemmcaa.It Go.Proofs.Ytepoodfihemmcaa.Q

set_option linter.unusedVariables false

set_option linter.unusedSimpArgs false

set_option maxRecDepth 100000

theorem wrap_two (a b : Int) : IntKind.i64.wrap (IntKind.i64.wrap a + IntKind.i64.wrap b) = IntKind.i64.wrap (a + b) := by
  rw [wrap_add, Int.add_comm, wrap_add, Int.add_comm]
set_option maxHeartbeats 1000000 in
theorem after_any (b mb : Nat) (L : Int) (M : Tb) (v : Value) (LW : List I.Wt) (w : World) (h : Qo w b mb L M) (hg : Q.Good M) (hL : IsWs w v LW) (t : Int) (ht : tot (layAll M LW) = t) (h0 : 0 ≤ t) (h1 : t ≤ 4611686018427387904) :
    Calls Try.prog 14 #[.pointer (some ⟨b, 0, none⟩), v] w fun e w' => e = .returned (.int .i64 t) ∧ Below w.heap.size w w' := by
  obtain ⟨u1, H1⟩ : ∃ z, Hid (IntKind.i64.wrap (tot M) = z) := ⟨_, rfl⟩
  obtain ⟨u2, H2⟩ : ∃ z, Hid (IntKind.i64.wrap (tot (turns M LW)) = z) := ⟨_, rfl⟩
  have hk : IntKind.i64.wrap (u1 + u2) = t := by
    rw [← H1.out, ← H2.out, wrap_two, turns_tot LW hg, ht]
    exact wrap_small t (by omega) (by omega)
  have CU := Lib.hid (used_any b mb L M w h u1 H1.out)
  have CT := Lib.hid (fun u (hu : Below w.heap.size w u) => turns_any b mb L M v LW u (h.more hu) hg (hL.below hu))
  have CA : Hid (∀ tb u, Mp kyN u tb (turns M LW) → Calls Try.prog 31 #[.map (some tb)] u fun e w' => e = .returned (.int .i64 u2) ∧ Below u.heap.size u w') := fun tb u hu => by
    have := tallyN tb _ u hu
    rw [H2.out] at this
    exact this
  clear h hg hL ht h0 h1 H1 H2
  go_enter Try.func14, Try.ntmps14
  go_wp2_with fail
  refine CU.out.mono ?_; rintro e w1 ⟨rfl, hb1⟩
  have HB1 := Lib.hid hb1
  clear hb1
  go_wp2_with fail
  refine (CT.out _ HB1.out).mono ?_; rintro e w2 ⟨tb, rfl, hm, hb2⟩
  have HB2 : Hid (Below w.heap.size w w2) := HB1.out.trans (hb2.mono HB1.out.size)
  have HM := Lib.hid hm
  clear hm hb2
  go_wp2_with fail
  refine (CA.out _ _ HM.out).mono ?_; rintro e w3 ⟨rfl, hb3⟩
  have HB3 : Hid (Below w.heap.size w w3) := HB2.out.trans (hb3.mono HB2.out.size)
  clear hb3
  go_wp2_with fail
  go_ret
  exact ⟨rfl, HB3.out⟩
set_option maxHeartbeats 1000000 in
theorem fits_any (b mb : Nat) (L : Int) (M : Tb) (v : Value) (LW : List I.Wt) (w : World) (h : Qo w b mb L M) (hg : Q.Good M) (hL : IsWs w v LW) (t : Int) (ht : tot (layAll M LW) = t) (h0 : 0 ≤ t) (h1 : t ≤ 4611686018427387904) (f : Bool) (hf : decide (t ≤ L) = f) :
    Calls Try.prog 15 #[.pointer (some ⟨b, 0, none⟩), v] w fun e w' => e = .returned (.bool f) ∧ Below w.heap.size w w' := by
  have CA := Lib.hid (fun u (hu : Below w.heap.size w u) => after_any b mb L M v LW u (h.more hu) hg (hL.below hu) t ht h0 h1)
  have HQ := Lib.hid h
  clear h hg hL ht h0 h1
  go_enter Try.func15, Try.ntmps15
  go_wp2_with fail
  have HB1 : Hid (Below w.heap.size w w.drew) := (Below.refl _ _).drew
  refine region_pickC (fun u => Blk u b [Value.int .i64 L, .map (some mb)]) 9 [0, 1, 3, 4, 5, 6] [2, 7, 8] Try.mixed (by kernel_rfl) rfl (by kernel_rfl) HQ.out.drew.blk ?_
  refine p_readC rfl ?_
  refine c_move rfl _ rfl (.pointer (some ⟨b, 0, none⟩)) rfl (fun _ _ _ h => h) (fun K hK => ?_)
  go_simp
  refine hK _ ?_
  clear hK K
  refine c_nil ?_
  refine p_readC rfl ?_
  refine c_move rfl _ rfl v rfl (fun _ _ _ h => h) (fun K hK => ?_)
  go_simp
  refine hK _ ?_
  clear hK K
  refine c_nil ?_
  refine p_readC rfl ?_
  refine c_move rfl _ rfl (.pointer (some ⟨b, 0, none⟩)) rfl (fun _ _ _ h => h) (fun K hK => ?_)
  go_simp
  refine hK _ ?_
  clear hK K
  refine c_nil ?_
  refine p_readC rfl ?_
  refine c_value rfl (.pointer (some ⟨b, 0, none⟩)) (fun u hu => by go_simp) (fun _ _ _ h => h) (fun K hK => ?_)
  go_simp
  refine hK _ ?_
  clear hK K
  refine c_nil ?_
  refine p_readC rfl ?_
  refine c_value rfl (.pointer (some ⟨b, 0, none⟩)) (fun u hu => by go_simp) (fun _ _ _ h => h) (fun K hK => ?_)
  go_simp
  refine hK _ ?_
  clear hK K
  refine c_nil ?_
  refine p_readC rfl ?_
  refine c_value rfl (.int .i64 L) (fun u hu => by have hs := hu.cell 0 _ rfl; go_simp) (fun _ _ _ h => h) (fun K hK => ?_)
  go_simp
  refine hK _ ?_
  clear hK K
  refine c_nil ?_
  refine p_nilC ?_
  refine p_stepC rfl ?_
  go_wp2_with (go_at_call 14; refine Calls.mono (CA.out _ HB1.out) ?_; rintro e w1 ⟨rfl, hb⟩)
  have HB2 : Hid (Below w.heap.size w w1) := Below.trans HB1.out (hb.mono HB1.out.size)
  have HQ1 : Hid (Qo w1 b mb L M) := HQ.out.more HB2.out
  clear hb
  refine And.intro (fun _ => HQ1.out.blk) ?_
  refine p_stepC rfl ?_
  go_wp2_with fail
  refine And.intro (fun _ => HQ1.out.blk) ?_
  refine p_stepC rfl ?_
  go_wp2_with fail
  refine And.intro (fun _ => HQ1.out.blk) ?_
  refine p_endC ?_
  go_wp2_with fail
  go_ret
  exact ⟨rfl, HB2.out⟩
set_option maxHeartbeats 8000000 in
theorem take_any (b mb : Nat) (L : Int) (M : Tb) (v : Value) (LW : List I.Wt) (w : World) (h : Qo w b mb L M) (hg : Q.Good M) (hL : IsWs w v LW) (t : Int) (ht : tot (layAll M LW) = t) (h0 : 0 ≤ t) (h1 : t ≤ 4611686018427387904) (f : Bool) (hf : decide (t ≤ L) = f) :
    Calls Try.prog 16 #[.pointer (some ⟨b, 0, none⟩), v] w fun e w' => e = .returned (.bool f) ∧ Qo w' b mb L (if f = true then layAll M LW else M) ∧ Only mb w w' := by
  have CF := Lib.hid (fits_any b mb L M v LW w h hg hL t ht h0 h1 f hf)
  obtain ⟨sa, cap, rfl, hca, hma, _⟩ := hL.is
  have hnb : LW.length ≤ 9223372036854775807 := by unfold maxLen at hma; omega
  have HQ := Lib.hid h
  have HL := Lib.hid hL
  obtain ⟨n, HN⟩ : ∃ n, Hid (LW.length = n) := ⟨_, rfl⟩
  rw [HN.out] at HL hnb CF ⊢
  clear h hg hL hca hma ht h0 h1 hf
  go_enter Try.func16, Try.ntmps16
  go_wp2_with fail
  refine CF.out.mono ?_; rintro e w1 ⟨rfl, hb⟩
  have HB1 := Lib.hid hb
  clear hb CF
  cases f with
  | false =>
    have HQ1 : Hid (Qo w1 b mb L M) := HQ.out.more HB1.out
    go_wp2_with fail
    go_ret
    exact ⟨rfl, HQ1.out, Only.of_below HB1.out⟩
  | true =>
  have HQ1 : Hid (Qo w1 b mb L (layAll M (LW.take 0))) := HQ.out.more HB1.out
  have HL1 : Hid (IsWs w1 (.slice sa n cap) LW) := HL.out.below HB1.out
  have HO1 : Hid (Only mb w w1) := Only.of_below HB1.out
  clear HQ HB1 HL
  go_wp2_with fail
  go_loopw [13] (fun i wr => ∃ j : Nat, j ≤ n ∧ i = .int .i64 (j : Int) ∧ Hid (Qo wr b mb L (layAll M (LW.take j))) ∧ Hid (IsWs wr (.slice sa n cap) LW) ∧ Hid (Only mb w wr)) (fun i _ => n - (intOf i).toNat)
  case atStart => exact ⟨0, by omega, rfl, HQ1, HL1, HO1⟩
  case round =>
    obtain ⟨j, hjn, rfl, HQr, HLr, HOr⟩ := hrel
    clear HQ1 HL1 HO1
    by_cases hlt : j < n
    · have ilt : (j : Int) < (n : Int) := by omega
      obtain ⟨g, off, cap', hv, hg0, hrow⟩ := IsWs.at HLr.out j (by rw [HN.out]; exact hlt)
      obtain rfl : sa = some ⟨g, off, none⟩ := by injection hv
      clear hv
      have hst := layAll_step M LW j (by rw [HN.out]; exact hlt)
      obtain ⟨x, HX⟩ : ∃ x, Hid (LW.getD j I.none_ = x) := ⟨_, rfl⟩
      rw [HX.out] at hrow hst
      clear HX
      have HST := Lib.hid hst
      obtain ⟨r, HR⟩ : ∃ r, Hid (I.right x = r) := ⟨_, rfl⟩
      have CR := Lib.hid (fun u => wright_any x u)
      rw [HR.out] at CR
      obtain ⟨xb, xk, xv, xg⟩ := x
      have CR : Hid (∀ u, Calls Try.prog 23 #[.agg [Value.string xb, .string xk, .string xv, .bool xg].toArray] u fun e w' => e = .returned (.bool r) ∧ Below u.heap.size u w') := CR.out
      have HROW : Hid (wr.rangeAt g (off + 4 * j) [Value.string xb, .string xk, .string xv, .bool xg]) := hrow
      have hix : ∀ w, (Instr.indexAt 31 (.slice (some ⟨g, off, none⟩) n cap) (.int .i64 (j : Int))).run Try.prog w = .ok (.pointer (some ⟨g, off + 4 * j, none⟩)) w := fun w => index_iw g off n cap j hlt w
      clear hrow hst hg0
      go_wp2_with (first | refine wpList_load_mid rfl 45 _ rfl g (off + 4 * j) rfl [Value.string xb, .string xk, .string xv, .bool xg] _ HROW.out Try.underlying45 rfl Try.size_w ?_ | refine blk_alloc rfl 45 [Value.string ⟨#[]⟩, .string ⟨#[]⟩, .string ⟨#[]⟩, .bool false] rfl info_iwz ?_)
      intro w3 A B Z
      obtain ⟨bx, HBX⟩ : ∃ b, Hid (wr.heap.size = b) := ⟨_, rfl⟩
      go_wp2_with (first | refine blk_store rfl 45 _ _ rfl wr.heap.size rfl [Value.string xb, .string xk, .string xv, .bool xg] rfl _ A rfl Try.size_w rfl ?_)
      intro w4 A9 U9
      have HX4 : Hid (Blk w4 bx [Value.string xb, .string xk, .string xv, .bool xg]) := by show Blk _ _ _; rw [← HBX.out]; exact A9
      have hb4 : Below wr.heap.size wr w4 := B.trans (U9.below (Nat.le_refl _))
      have HQ4 : Hid (Qo w4 b mb L (layAll M (LW.take j))) := HQr.out.more hb4
      have HL4 : Hid (IsWs w4 (.slice (some ⟨g, off, none⟩) n cap) LW) := HLr.out.below hb4
      have HO4 : Hid (Only mb w w4) := HOr.out.trans (Only.of_below hb4)
      have HZ4 : Hid (bx < w4.heap.size) := by
        have h2 := HBX.out
        have h3 := U9.size
        have h4 : w3.heap.size = wr.heap.size + 1 := Z
        show bx < w4.heap.size
        omega
      rw [HBX.out]
      clear A B Z A9 U9 HBX hb4 HQr HLr HOr HROW hix
      go_wp2_with (first | refine blk_load rfl 45 _ rfl bx rfl [Value.string xb, .string xk, .string xv, .bool xg] HX4.out _ Try.underlying45 rfl Try.size_w ?_)
      refine (CR.out _).mono ?_; rintro e w5 ⟨rfl, hb⟩
      have HX5 : Hid (Blk w5 bx [Value.string xb, .string xk, .string xv, .bool xg]) := Blk.below HX4.out hb HZ4.out
      have HQ5 : Hid (Qo w5 b mb L (layAll M (LW.take j))) := HQ4.out.more hb
      have HL5 : Hid (IsWs w5 (.slice (some ⟨g, off, none⟩) n cap) LW) := HL4.out.below hb
      have HO5 : Hid (Only mb w w5) := HO4.out.trans (Only.of_below hb)
      clear hb HX4 HQ4 HL4 HO4 HZ4 CR
      cases r with
      | false =>
        have HQ6 : Hid (Qo w5 b mb L (layAll M (LW.take (j + 1)))) := by
          show Qo _ _ _ _ _
          rw [HST.out]
          unfold layR
          rw [HR.out, if_neg (by decide)]
          exact HQ5.out
        clear HQ5 HST HR
        go_wp2_with fail
        go_roundw
        case rel => exact ⟨j + 1, by omega, by go_num, HQ6, HL5, HO5⟩
        case measure => simp [intOf]; omega
      | true =>
        have HLY : Hid (layAll M (LW.take (j + 1)) = Q.lay (layAll M (LW.take j)) (xb, xk, xv, xg)) := by
          show _ = _
          rw [HST.out]
          unfold layR
          rw [HR.out, if_pos rfl]
        have CL : Hid (Calls Try.prog 33 #[.pointer (some ⟨b, 0, none⟩), .agg [Value.string xb, .string xk, .string xv, .bool xg].toArray] w5 fun e w' => e = .returned (.tuple #[]) ∧ Qo w' b mb L (layAll M (LW.take (j + 1))) ∧ Only mb w5 w') := by
          rw [HLY.out]
          exact lay_any b mb L _ (xb, xk, xv, xg) w5 HQ5.out HR.out
        clear HST HR HLY
        go_wp2_with (first | refine blk_load rfl 45 _ rfl bx rfl [Value.string xb, .string xk, .string xv, .bool xg] HX5.out _ Try.underlying45 rfl Try.size_w ?_)
        refine CL.out.mono ?_; rintro e w6 ⟨rfl, hq, ho⟩
        have HQ6 := Lib.hid hq
        have HL6 : Hid (IsWs w6 (.slice (some ⟨g, off, none⟩) n cap) LW) := ho.ws HQ5.out.map.isMap HL5.out
        have HO6 : Hid (Only mb w w6) := HO5.out.trans ho
        clear hq ho HQ5 HL5 HO5 HX5 CL
        go_wp2_with fail
        go_roundw
        case rel => exact ⟨j + 1, by omega, by go_num, HQ6, HL6, HO6⟩
        case measure => simp [intOf]; omega
    · obtain rfl : j = n := by omega
      have HF : Hid (LW.take j = LW) := List.take_of_length_le (by rw [HN.out]; exact Nat.le_refl _)
      rw [HF.out] at HQr
      go_wp2_with fail
      go_ret
      exact ⟨rfl, HQr.out, HOr.out⟩
end Go.Proofs.Ytepoodfihemmcaa.Qm
