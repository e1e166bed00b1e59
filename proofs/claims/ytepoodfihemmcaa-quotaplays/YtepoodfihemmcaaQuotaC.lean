/- A quota's calls: turns, After, Fits, Take. -/
import Derived.Test.YtepoodfihemmcaaQuotaB

namespace Go.Proofs.Ytepoodfihemmcaa.Qm

open Go.RowKit Go.Instr Go.ChangeMaps Go.Proofs.Ytepoodfihemmcaa.It Go.Proofs.Ytepoodfihemmcaa.Q

set_option linter.unusedVariables false

set_option linter.unusedSimpArgs false

set_option maxRecDepth 100000

theorem info_iwz : (Try.prog.info? 45).map (fun i => (i.zero, i.size)) = some (some (.agg [Value.string ⟨#[]⟩, .string ⟨#[]⟩, .string ⟨#[]⟩, .bool false].toArray), [Value.string ⟨#[]⟩, .string ⟨#[]⟩, .string ⟨#[]⟩, .bool false].length) := by kernel_rfl
set_option maxHeartbeats 8000000 in
theorem turns_any (b mb : Nat) (L : Int) (M : Tb) (v : Value) (LW : List I.Wt) (w : World) (h : Qo w b mb L M) (hg : Q.Good M) (hL : IsWs w v LW) :
    Calls Try.prog 32 #[.pointer (some ⟨b, 0, none⟩), v] w fun e w' => ∃ tb, e = .returned (.map (some tb)) ∧ Mp kyN w' tb (turns M LW) ∧ Below w.heap.size w w' := by
  obtain ⟨sa, cap, rfl, hca, hma, _⟩ := hL.is
  have hnb : LW.length ≤ 9223372036854775807 := by unfold maxLen at hma; omega
  have HQ := Lib.hid h
  have HG := Lib.hid hg
  have HL := Lib.hid hL
  obtain ⟨n, HN⟩ : ∃ n, Hid (LW.length = n) := ⟨_, rfl⟩
  rw [HN.out] at HL hnb ⊢
  clear h hg hL hca hma
  go_enter Try.func32, Try.ntmps32
  go_wp2_with (first | refine make_step rfl _ rfl ?_)
  intro w1 hm hb hz
  have HM1 : Hid (Mp kyN w1 w.heap.size (turns M (LW.take 0))) := Mp.none hm
  have HB1 : Hid (Below w.heap.size w w1) := hb
  have HZ1 : Hid (w.heap.size < w1.heap.size) := by show _ < _; omega
  clear hm hb hz
  go_wp2_with fail
  go_loopw [12] (fun i wr => ∃ j : Nat, j ≤ n ∧ i = .int .i64 (j : Int) ∧ Hid (Mp kyN wr w.heap.size (turns M (LW.take j))) ∧ Hid (Below w.heap.size w wr) ∧ Hid (w.heap.size < wr.heap.size)) (fun i _ => n - (intOf i).toNat)
  case atStart => exact ⟨0, by omega, rfl, HM1, HB1, HZ1⟩
  case round =>
    obtain ⟨j, hjn, rfl, HMr, HBr, HZr⟩ := hrel
    clear HM1 HB1 HZ1
    by_cases hlt : j < n
    · have ilt : (j : Int) < (n : Int) := by omega
      obtain ⟨g, off, cap', hv, hg0, hrow⟩ := IsWs.at HL.out j (by rw [HN.out]; exact hlt)
      obtain rfl : sa = some ⟨g, off, none⟩ := by injection hv
      clear hv
      have hst := turns_step M LW j (by rw [HN.out]; exact hlt)
      obtain ⟨x, HX⟩ : ∃ x, Hid (LW.getD j I.none_ = x) := ⟨_, rfl⟩
      rw [HX.out] at hrow hst
      clear HX
      have HST := Lib.hid hst
      obtain ⟨r, HR⟩ : ∃ r, Hid (I.right x = r) := ⟨_, rfl⟩
      have CR := Lib.hid (fun u => wright_any x u)
      rw [HR.out] at CR
      obtain ⟨xb, xk, xv, xg⟩ := x
      have CR : Hid (∀ u, Calls Try.prog 23 #[.agg [Value.string xb, .string xk, .string xv, .bool xg].toArray] u fun e w' => e = .returned (.bool r) ∧ Below u.heap.size u w') := CR.out
      have HROW : Hid (wr.rangeAt g (off + 4 * j) [Value.string xb, .string xk, .string xv, .bool xg]) := fun k u hu => by rw [HBr.out.cell (p := ⟨g, off + 4 * j + k, none⟩) hg0]; exact hrow k u hu
      have hix : ∀ w, (Instr.indexAt 31 (.slice (some ⟨g, off, none⟩) n cap) (.int .i64 (j : Int))).run Try.prog w = .ok (.pointer (some ⟨g, off + 4 * j, none⟩)) w := fun w => index_iw g off n cap j hlt w
      clear hrow hst hg0
      go_wp2_with (first | refine wpList_load_mid rfl 45 _ rfl g (off + 4 * j) rfl [Value.string xb, .string xk, .string xv, .bool xg] _ HROW.out Try.underlying45 rfl Try.size_w ?_ | refine blk_alloc rfl 45 [Value.string ⟨#[]⟩, .string ⟨#[]⟩, .string ⟨#[]⟩, .bool false] rfl info_iwz ?_)
      intro w3 A B Z
      obtain ⟨bx, HBX⟩ : ∃ b, Hid (wr.heap.size = b) := ⟨_, rfl⟩
      go_wp2_with (first | refine blk_store rfl 45 _ _ rfl wr.heap.size rfl [Value.string xb, .string xk, .string xv, .bool xg] rfl _ A rfl Try.size_w rfl ?_)
      intro w4 A9 U9
      have HX4 : Hid (Blk w4 bx [Value.string xb, .string xk, .string xv, .bool xg]) := by show Blk _ _ _; rw [← HBX.out]; exact A9
      have hb4 : Below wr.heap.size wr w4 := B.trans (U9.below (Nat.le_refl _))
      have HB4 : Hid (Below w.heap.size w w4) := HBr.out.trans (hb4.mono HBr.out.size)
      have HM4 : Hid (Mp kyN w4 w.heap.size (turns M (LW.take j))) := HMr.out.below hb4 HZr.out
      have HZ4 : Hid (w.heap.size < bx ∧ bx < w4.heap.size) := by
        have h1 := HZr.out
        have h2 := HBX.out
        have h3 := U9.size
        have h4 : w3.heap.size = wr.heap.size + 1 := Z
        refine ⟨?_, ?_⟩ <;> omega
      rw [HBX.out]
      clear A B Z A9 U9 HBX hb4 HBr HMr HZr HROW hix
      go_wp2_with (first | refine blk_load rfl 45 _ rfl bx rfl [Value.string xb, .string xk, .string xv, .bool xg] HX4.out _ Try.underlying45 rfl Try.size_w ?_)
      refine (CR.out _).mono ?_; rintro e w5 ⟨rfl, hb⟩
      have HX5 : Hid (Blk w5 bx [Value.string xb, .string xk, .string xv, .bool xg]) := Blk.below HX4.out hb HZ4.out.2
      have HM5 : Hid (Mp kyN w5 w.heap.size (turns M (LW.take j))) := HM4.out.below hb (by have := HZ4.out; omega)
      have HB5 : Hid (Below w.heap.size w w5) := HB4.out.trans (hb.mono HB4.out.size)
      have HZ5 : Hid (w.heap.size < bx ∧ bx < w5.heap.size) := ⟨HZ4.out.1, Nat.lt_of_lt_of_le HZ4.out.2 hb.size⟩
      clear hb HX4 HM4 HB4 HZ4 CR
      cases r with
      | false =>
        have HM6 : Hid (Mp kyN w5 w.heap.size (turns M (LW.take (j + 1)))) := by
          show Mp _ _ _ _
          rw [HST.out]
          unfold turnR
          rw [HR.out, if_neg (by decide)]
          exact HM5.out
        clear HM5 HST HR
        go_wp2_with fail
        go_roundw
        case rel => exact ⟨j + 1, by omega, by go_num, HM6, HB5, (show _ < _ from by have := HZ5.out; omega)⟩
        case measure => simp [intOf]; omega
      | true =>
        have hsz := sz_right HR.out
        have hlk := look_pos (xb, xk) HG.out
        have CS := Lib.hid (fun u => wsize_any (xb, xk, xv, xg) u (ok_right HR.out))
        obtain ⟨z, HZ⟩ : ∃ z : Int, Hid (sz (xb, xk, xv, xg) = z) := ⟨_, rfl⟩
        change Hid (∀ u, Calls Try.prog 24 #[.agg [Value.string xb, .string xk, .string xv, .bool xg].toArray] u fun e w' => e = .returned (.int .i64 (sz (xb, xk, xv, xg))) ∧ Below u.heap.size u w') at CS
        obtain ⟨c, HC⟩ : ∃ c : Int, Hid (Q.look M (xb, xk) = c) := ⟨_, rfl⟩
        rw [HZ.out] at CS hsz
        rw [HC.out] at hlk
        have kz : IntKind.i64.wrap (z - c) = z - c := wrap_small _ (by omega) (by omega)
        have HT6 : Hid (turns M (LW.take (j + 1)) = setM (turns M (LW.take j)) (xb, xk) (z - c)) := by
          show _ = _
          rw [HST.out]
          unfold turnR
          rw [HR.out, if_pos rfl, HZ.out]
          show setM _ (xb, xk) (z - Q.look M (xb, xk)) = _
          rw [HC.out]
        have HLK : Hid (∀ u, Mp kyN u mb M → (Instr.lookup 58 (.map (some mb)) (.agg #[.string xb, .string xk]) false).run Try.prog u = .ok (.int .i64 c) u) := fun u hu => by
          have := run_look kN hu (xb, xk)
          rw [HC.out] at this
          exact this
        have HQ5 : Hid (Qo w5 b mb L M) := HQ.out.more HB5.out
        have f0 := HX5.out.cell 0 _ rfl
        have f1 := HX5.out.cell 1 _ rfl
        clear hsz hlk HZ HC HST HR
        go_wp2_with (first | refine blk_alloc rfl 70 [Value.string ⟨#[]⟩, .string ⟨#[]⟩] rfl Try.info_n ?_)
        intro w6 A B Z
        obtain ⟨bn, HBN⟩ : ∃ b, Hid (w5.heap.size = b) := ⟨_, rfl⟩
        go_wp2_with (first | refine blk_store rfl 70 _ _ rfl w5.heap.size rfl [Value.string xb, .string xk] rfl _ A rfl Try.size_n rfl ?_)
        intro w7 A9 U9
        have hb7 : Below w5.heap.size w5 w7 := B.trans (U9.below (Nat.le_refl _))
        have HN7 : Hid (Blk w7.drew bn [Value.string xb, .string xk]) := by show Blk _ _ _; rw [← HBN.out]; exact A9.drew
        have HX7 : Hid (Blk w7.drew bx [Value.string xb, .string xk, .string xv, .bool xg]) := (Blk.below HX5.out hb7 HZ5.out.2).drew
        have HB7 : Hid (Below w.heap.size w w7.drew) := (HB5.out.trans (hb7.mono HB5.out.size)).drew
        have HM7 : Hid (Mp kyN w7.drew w.heap.size (turns M (LW.take j))) := (HM5.out.below hb7 (by have := HZ5.out; omega)).below (Below.drew (Below.refl _ _)) (Nat.lt_of_lt_of_le (by have := HZ5.out; omega) hb7.size)
        have HQ7 : Hid (Qo w7.drew b mb L M) := HQ.out.more HB7.out
        have HZ7 : Hid (w.heap.size < bx ∧ bx < bn ∧ bn < w7.drew.heap.size) := by
          have h1 := HZ5.out
          have h2 := HBN.out
          have h3 := U9.size
          have h4 : w6.heap.size = w5.heap.size + 1 := Z
          refine ⟨h1.1, by omega, ?_⟩
          show bn < w7.heap.size
          omega
        rw [HBN.out]
        clear A B Z A9 U9 HBN hb7 HX5 HM5 HB5 HZ5 HQ5 f0 f1
        go_wp2_with fail
        refine region_pickC (fun u => Blk u b [Value.int .i64 L, .map (some mb)] ∧ Blk u bx [Value.string xb, .string xk, .string xv, .bool xg] ∧ Blk u bn [Value.string xb, .string xk] ∧ Mp kyN u mb M) 11 [0, 1, 2, 4, 5, 6, 7, 8, 9] [3, 10, 11] Try.mixed (by kernel_rfl) rfl (by kernel_rfl) ⟨HQ7.out.blk, HX7.out, HN7.out, HQ7.out.map⟩ ?_
        refine p_readC rfl ?_
        refine c_move rfl _ rfl (.map (some w.heap.size)) rfl (fun _ _ _ h => h) (fun K hK => ?_)
        go_simp
        refine hK _ ?_
        clear hK K
        refine c_nil ?_
        refine p_readC rfl ?_
        refine c_blk_load rfl 70 _ rfl bn rfl [Value.string xb, .string xk] (fun u hu => hu.2.2.1) _ Try.underlying70 rfl Try.size_n (fun _ _ _ h => h) (fun K hK => ?_)
        go_simp
        refine hK _ ?_
        clear hK K
        refine c_nil ?_
        refine p_readC rfl ?_
        refine c_blk_load rfl 45 _ rfl bx rfl [Value.string xb, .string xk, .string xv, .bool xg] (fun u hu => hu.2.1) _ Try.underlying45 rfl Try.size_w (fun _ _ _ h => h) (fun K hK => ?_)
        go_simp
        refine hK _ ?_
        clear hK K
        refine c_nil ?_
        refine p_readC rfl ?_
        refine c_move rfl _ rfl (.pointer (some ⟨b, 0, none⟩)) rfl (fun _ _ _ h => h) (fun K hK => ?_)
        go_simp
        refine hK _ ?_
        clear hK K
        refine c_nil ?_
        refine p_readC rfl ?_
        refine c_value rfl (.pointer (some ⟨b, 0, none⟩)) (fun u hu => by go_simp) (fun _ _ _ h => h) (fun K hK => ?_)
        go_simp
        refine hK _ ?_
        clear hK K
        refine c_nil ?_
        refine p_readC rfl ?_
        refine c_value rfl (.pointer (some ⟨b, 1, none⟩)) (fun u hu => by go_simp) (fun _ _ _ h => h) (fun K hK => ?_)
        go_simp
        refine hK _ ?_
        clear hK K
        refine c_nil ?_
        refine p_readC rfl ?_
        refine c_value rfl (.map (some mb)) (fun u hu => by have hs := hu.1.cell 1 _ rfl; go_simp) (fun _ _ _ h => h) (fun K hK => ?_)
        go_simp
        refine hK _ ?_
        clear hK K
        refine c_nil ?_
        refine p_readC rfl ?_
        refine c_blk_load rfl 70 _ rfl bn rfl [Value.string xb, .string xk] (fun u hu => hu.2.2.1) _ Try.underlying70 rfl Try.size_n (fun _ _ _ h => h) (fun K hK => ?_)
        go_simp
        refine hK _ ?_
        clear hK K
        refine c_nil ?_
        refine p_readC rfl ?_
        refine c_look rfl 58 _ _ rfl (.map (some mb)) (.agg #[.string xb, .string xk]) rfl rfl (.int .i64 c) (fun u hu => HLK.out u hu.2.2.2) (fun _ _ _ h => h) (fun K hK => ?_)
        go_simp
        refine hK _ ?_
        clear hK K
        refine c_nil ?_
        refine p_nilC ?_
        refine p_stepC rfl ?_
        go_wp2_with (go_at_call 24; refine Calls.mono (CS.out _) ?_; rintro e w8 ⟨rfl, hb⟩)
        have HX8 : Hid (Blk w8 bx [Value.string xb, .string xk, .string xv, .bool xg]) := Blk.below HX7.out hb (by have := HZ7.out; omega)
        have HN8 : Hid (Blk w8 bn [Value.string xb, .string xk]) := Blk.below HN7.out hb (by have := HZ7.out; omega)
        have HQ8 : Hid (Qo w8 b mb L M) := HQ7.out.more hb
        have HB8 : Hid (Below w.heap.size w w8) := Below.trans HB7.out (hb.mono HB7.out.size)
        have HM8 : Hid (Mp kyN w8 w.heap.size (turns M (LW.take j))) := HM7.out.below hb (by have := HZ7.out; omega)
        have HZ8 : Hid (w.heap.size < w8.heap.size) := Nat.lt_of_lt_of_le (by have := HZ7.out; omega) hb.size
        clear hb
        refine And.intro (fun _ => ⟨HQ8.out.blk, HX8.out, HN8.out, HQ8.out.map⟩) ?_
        refine p_stepC rfl ?_
        go_wp2_with fail
        refine And.intro (fun _ => ⟨HQ8.out.blk, HX8.out, HN8.out, HQ8.out.map⟩) ?_
        refine p_stepC rfl ?_
        refine lay_step kN rfl _ _ _ rfl w.heap.size rfl (xb, xk) rfl (z - c) rfl _ HM8.out ?_
        intro w9 hm hu
        have HM9 : Hid (Mp kyN w9 w.heap.size (turns M (LW.take (j + 1)))) := by show Mp _ _ _ _; rw [HT6.out]; exact hm
        have HB9 : Hid (Below w.heap.size w w9) := HB8.out.trans (hu.below (Nat.le_refl _))
        have HZ9 : Hid (w.heap.size < w9.heap.size) := by show _ < _; rw [hu.size]; exact HZ8.out
        clear hm hu
        go_wp2_with fail
        refine And.intro (fun h9 => absurd h9 (by decide)) ?_
        refine p_endC ?_
        go_wp2_with fail
        go_roundw
        case rel => exact ⟨j + 1, by omega, by go_num, HM9, HB9, HZ9⟩
        case measure => simp [intOf]; omega
    · obtain rfl : j = n := by omega
      have HF : Hid (LW.take j = LW) := List.take_of_length_le (by rw [HN.out]; exact Nat.le_refl _)
      rw [HF.out] at HMr
      go_wp2_with fail
      go_ret
      exact ⟨_, rfl, HMr.out, HBr.out⟩
end Go.Proofs.Ytepoodfihemmcaa.Qm
