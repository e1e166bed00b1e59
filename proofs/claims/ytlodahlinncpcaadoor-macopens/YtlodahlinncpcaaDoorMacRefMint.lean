/- mac: the document's own Mint and Open. -/
import Derived.Test.YtlodahlinncpcaaDoorMacMint
import Derived.Test.YtlodahlinncpcaaDoorMacRead
import Derived.Test.YtlodahlinncpcaaDoorMacRefSum
import Derived.Test.YtlodahlinncpcaaDoorPackRefText
namespace Go.Proofs.YtlodahlinncpcaaDoor.Mc
open Go.RowKit
set_option linter.unusedVariables false
set_option linter.unusedSimpArgs false
theorem Tryd.info_rtok : (Tryd.prog.info? 44).map (fun i => (i.zero, i.size)) = some (some (.agg [Value.int .i64 0, .string ⟨#[]⟩, .int .i64 0, .int .u64 0].toArray), 4) := by kernel_rfl
theorem Tryd.size_rtok : (Tryd.prog.info? 44).map (·.size) = some 4 := by kernel_rfl
theorem Tryd.info_rrd : (Tryd.prog.info? 79).map (fun i => (i.zero, i.size)) = some (some (.agg [Value.string ⟨#[]⟩, .bool false].toArray), 2) := by kernel_rfl
theorem Tryd.size_rrd : (Tryd.prog.info? 79).map (·.size) = some 2 := by kernel_rfl
theorem right_of {t b r : Nat} (h : M.right (t : Int) b (r : Int) = true) : 1 ≤ t ∧ t ≤ 8 ∧ 1 ≤ b ∧ b ≤ 16 ∧ 1 ≤ r ∧ r ≤ 3 := by
  unfold M.right at h; rw [decide_eq_true_iff] at h; omega
set_option maxHeartbeats 2000000 in
set_option maxRecDepth 100000 in
theorem ref_plain (B : ByteArray) (t r U : Nat) (w : World) (ht8 : t < 256) (hB16 : B.size ≤ 1000) (hr3 : r < 256) (hU : U < 2 ^ 64) :
    Calls Tryd.prog 48 #[.agg #[.int .i64 (t : Int), .string B, .int .i64 (r : Int), .int .u64 (U : Int)]] w fun e w' => e = .returned (.string (S (M.plain t B.data.toList r U))) ∧ Below w.heap.size w w' := by
  have C1 : Hid _ := fun w => Pk.ref_number_any t 1 w (by omega)
  have C2 : Hid _ := fun w => Pk.ref_text_any B w (by omega)
  have C3 : Hid _ := fun w => Pk.ref_number_any r 1 w (by omega)
  have C4 : Hid _ := fun w => Pk.ref_number_any U 8 w hU
  have HP : Hid _ := plain_eq t B r U
  have z1 : (Pk.numS t 1).size ≤ 8 := by rw [numS_1]; omega
  have z2 : (Pk.textS B).size ≤ 2000 := by have := (Pk.textS_size B).1; omega
  have z3 : (Pk.numS r 1).size ≤ 8 := by rw [numS_1]; omega
  have z4 : (Pk.numS U 8).size ≤ 8 := by rw [numS_8]; omega
  obtain ⟨c, HC⟩ : ∃ c, Hid (S (M.plain t B.data.toList r U) = c) := ⟨_, rfl⟩
  rw [HC.out] at HP
  rw [HC.out]
  generalize Pk.numS t 1 = n1 at *
  generalize Pk.textS B = n2 at *
  generalize Pk.numS r 1 = n3 at *
  generalize Pk.numS U 8 = n4 at *
  have y1 : n1.size + n2.size ≤ 9223372036854775807 := by omega
  have y2 : (n1 ++ n2).size + n3.size ≤ 9223372036854775807 := by rw [ByteArray.size_append]; omega
  have y3 : (n1 ++ n2 ++ n3).size + n4.size ≤ 9223372036854775807 := by rw [ByteArray.size_append, ByteArray.size_append]; omega
  have e1 : IntKind.u64.wrap (t : Int) = (t : Int) := by rw [IntKind.wrap_u64]; omega
  have e2 : IntKind.u64.wrap (r : Int) = (r : Int) := by rw [IntKind.wrap_u64]; omega
  clear HC
  go_enter Tryd.func48, Tryd.ntmps48
  go_wp2_with (first | refine blk_box rfl 44 _ rfl [.int .i64 (t : Int), .string B, .int .i64 (r : Int), .int .u64 (U : Int)] rfl ?_)
  intro w1 K1 B1 Z1
  have HB1 : Hid (Below w.heap.size w w1) := B1
  have hz1 : w.heap.size < w1.heap.size := by omega
  have HK : Hid (∀ u, Below w1.heap.size w1 u → (u.cell? ⟨w.heap.size, 0, none⟩ = some (.int .i64 (t : Int)) ∧ u.cell? ⟨w.heap.size, 1, none⟩ = some (.string B) ∧ u.cell? ⟨w.heap.size, 2, none⟩ = some (.int .i64 (r : Int)) ∧ u.cell? ⟨w.heap.size, 3, none⟩ = some (.int .u64 (U : Int)))) := fun u hu =>
    have K := K1.below hu hz1
    ⟨K.cell 0 _ rfl, K.cell 1 _ rfl, K.cell 2 _ rfl, K.cell 3 _ rfl⟩
  clear K1 B1 Z1
  go_wp2_with fail
  refine region_more Tryd.mixed (by kernel_rfl) ?_
  refine q_value rfl (.pointer (some ⟨w.heap.size, 0, none⟩)) (fun u hu => by go_simp) (fun K hK => ?_)
  go_simp
  refine hK _ ?_
  clear hK K
  refine q_value rfl (.int .i64 (t : Int)) (fun u hu => by obtain ⟨c0, c1, c2, c3⟩ := HK.out u hu; go_simp) (fun K hK => ?_)
  go_simp
  refine hK _ ?_
  clear hK K
  refine q_value rfl (.int .u64 (t : Int)) (fun u hu => by go_simp) (fun K hK => ?_)
  go_simp
  refine hK _ ?_
  clear hK K
  refine q_call rfl 62 _ Tryd.func62 (by kernel_rfl) (by kernel_rfl) _ _ rfl [.int .u64 (t : Int), .int .i64 1] rfl (.string n1) (fun u hu => Calls.more hu (C1.out u)) (fun K hK => ?_)
  go_simp
  refine hK _ ?_
  clear hK K
  refine q_value rfl (.pointer (some ⟨w.heap.size, 1, none⟩)) (fun u hu => by go_simp) (fun K hK => ?_)
  go_simp
  refine hK _ ?_
  clear hK K
  refine q_value rfl (.string B) (fun u hu => by obtain ⟨c0, c1, c2, c3⟩ := HK.out u hu; go_simp) (fun K hK => ?_)
  go_simp
  refine hK _ ?_
  clear hK K
  refine q_call rfl 63 _ Tryd.func63 (by kernel_rfl) (by kernel_rfl) _ _ rfl [.string B] rfl (.string n2) (fun u hu => Calls.more hu (C2.out u)) (fun K hK => ?_)
  go_simp
  refine hK _ ?_
  clear hK K
  refine q_concat rfl _ _ _ _ rfl n1 n2 rfl rfl y1 (fun K hK => ?_)
  go_simp
  refine hK _ ?_
  clear hK K
  refine q_value rfl (.pointer (some ⟨w.heap.size, 2, none⟩)) (fun u hu => by go_simp) (fun K hK => ?_)
  go_simp
  refine hK _ ?_
  clear hK K
  refine q_value rfl (.int .i64 (r : Int)) (fun u hu => by obtain ⟨c0, c1, c2, c3⟩ := HK.out u hu; go_simp) (fun K hK => ?_)
  go_simp
  refine hK _ ?_
  clear hK K
  refine q_value rfl (.int .u64 (r : Int)) (fun u hu => by go_simp) (fun K hK => ?_)
  go_simp
  refine hK _ ?_
  clear hK K
  refine q_call rfl 62 _ Tryd.func62 (by kernel_rfl) (by kernel_rfl) _ _ rfl [.int .u64 (r : Int), .int .i64 1] rfl (.string n3) (fun u hu => Calls.more hu (C3.out u)) (fun K hK => ?_)
  go_simp
  refine hK _ ?_
  clear hK K
  refine q_concat rfl _ _ _ _ rfl (n1 ++ n2) n3 rfl rfl y2 (fun K hK => ?_)
  go_simp
  refine hK _ ?_
  clear hK K
  refine q_value rfl (.pointer (some ⟨w.heap.size, 3, none⟩)) (fun u hu => by go_simp) (fun K hK => ?_)
  go_simp
  refine hK _ ?_
  clear hK K
  refine q_value rfl (.int .u64 (U : Int)) (fun u hu => by obtain ⟨c0, c1, c2, c3⟩ := HK.out u hu; go_simp) (fun K hK => ?_)
  go_simp
  refine hK _ ?_
  clear hK K
  refine q_call rfl 62 _ Tryd.func62 (by kernel_rfl) (by kernel_rfl) _ _ rfl [.int .u64 (U : Int), .int .i64 8] rfl (.string n4) (fun u hu => Calls.more hu (C4.out u)) (fun K hK => ?_)
  go_simp
  refine hK _ ?_
  clear hK K
  refine q_concat rfl _ _ _ _ rfl (n1 ++ n2 ++ n3) n4 rfl rfl y3 (fun K hK => ?_)
  go_simp
  refine hK _ ?_
  clear hK K
  rw [HP.out]
  refine q_assign rfl _ rfl (.string c) rfl (fun K hK => ?_)
  go_simp
  refine hK _ ?_
  clear hK K
  refine wpQuiet_nil ?_
  intro u hu
  have HBU : Hid (Below w.heap.size w u) := Below.trans HB1.out (hu.mono (by omega))
  clear hu HK
  go_wp2_with fail
  go_ret
  exact ⟨rfl, HBU.out⟩
set_option maxHeartbeats 1000000 in
theorem ref_mint_yes (k B : ByteArray) (t r U : Nat) (w : World) (hk : k.size ≤ 140737488355000) (ht1 : 1 ≤ t) (ht8 : t ≤ 8) (hB1 : 1 ≤ B.size) (hB16 : B.size ≤ 16) (hr1 : 1 ≤ r) (hr3 : r ≤ 3) (hU : U < 2 ^ 64) :
    Calls Tryd.prog 29 #[.string k, .agg #[.int .i64 (t : Int), .string B, .int .i64 (r : Int), .int .u64 (U : Int)]] w fun e w' => e = .returned (.tuple #[.string (S (M.plain t B.data.toList r U ++ M.hmac k.data.toList (M.plain t B.data.toList r U))), .bool true]) ∧ Below w.heap.size w w' := by
  have HR : Hid (M.right (t : Int) B.size (r : Int) = true) := right_true (by omega) (by omega) hB1 hB16 (by omega) (by omega)
  have CR : Hid _ := fun w => ref_right (t : Int) B (r : Int) U w (by omega)
  rw [HR.out] at CR
  have CP : Hid _ := fun w => ref_plain B t r U w (by omega) (by omega) (by omega) hU
  have hps := plain_size t B r U
  obtain ⟨c, HC⟩ : ∃ c, Hid (S (M.plain t B.data.toList r U) = c) := ⟨_, rfl⟩
  have HPL : Hid (M.plain t B.data.toList r U = c.data.toList) := by show _ = _; rw [← HC.out, S_list]
  rw [HC.out] at CP hps
  have CS : Hid _ := fun w => ref_msum k c w hk (by omega)
  have HOUT : Hid (S (M.plain t B.data.toList r U ++ M.hmac k.data.toList (M.plain t B.data.toList r U)) = c ++ S (M.hmac k.data.toList c.data.toList)) := by
    show _ = _
    rw [HPL.out, ← S_append, S_of]
  rw [HOUT.out]
  have hsz : (S (M.hmac k.data.toList c.data.toList)).size = 32 := by rw [S_size, M.hmac_length]
  generalize S (M.hmac k.data.toList c.data.toList) = d at *
  have hc : c.size ≤ 1000 := by omega
  clear HR HPL HOUT HC hps
  go_enter Tryd.func29, Tryd.ntmps29
  go_wp2_with (first | refine blk_box rfl 44 _ rfl [.int .i64 (t : Int), .string B, .int .i64 (r : Int), .int .u64 (U : Int)] rfl ?_)
  intro w1 K1 B1 Z1
  go_wp2_with (first | refine blk_load rfl 44 _ rfl w.heap.size rfl [.int .i64 (t : Int), .string B, .int .i64 (r : Int), .int .u64 (U : Int)] K1 _ Tryd.underlying44 rfl Tryd.size_rtok ?_)
  refine (CR.out _).mono ?_; rintro e w2 ⟨rfl, hb2⟩
  have HK2 : Hid (Blk w2 w.heap.size [.int .i64 (t : Int), .string B, .int .i64 (r : Int), .int .u64 (U : Int)]) := K1.below hb2 (by omega)
  have HB2 : Hid (Below w.heap.size w w2) := B1.trans (hb2.mono (by omega))
  clear K1 B1 hb2
  go_wp2_with (first | refine blk_load rfl 44 _ rfl w.heap.size rfl [.int .i64 (t : Int), .string B, .int .i64 (r : Int), .int .u64 (U : Int)] HK2.out _ Tryd.underlying44 rfl Tryd.size_rtok ?_)
  refine (CP.out _).mono ?_; rintro e w3 ⟨rfl, hb3⟩
  have HB3 : Hid (Below w.heap.size w w3) := Below.trans HB2.out (hb3.mono HB2.out.size)
  clear hb3 HK2
  go_wp2_with fail
  refine (CS.out _).mono ?_; rintro e w4 ⟨rfl, hb4⟩
  have HB4 : Hid (Below w.heap.size w w4) := Below.trans HB3.out (hb4.mono HB3.out.size)
  clear hb4
  go_wp2_with fail
  go_ret2
  exact ⟨rfl, HB4.out⟩
set_option maxHeartbeats 1000000 in
theorem ref_mint_no (k B : ByteArray) (T R : Int) (U : Nat) (w : World) (hB : B.size ≤ 9223372036854775807) (h : M.right T B.size R = false) :
    Calls Tryd.prog 29 #[.string k, .agg #[.int .i64 T, .string B, .int .i64 R, .int .u64 (U : Int)]] w fun e w' => e = .returned (.tuple #[.string ⟨#[]⟩, .bool false]) ∧ Below w.heap.size w w' := by
  have CR : Hid _ := fun w => ref_right T B R U w (by omega)
  rw [h] at CR
  clear h
  go_enter Tryd.func29, Tryd.ntmps29
  go_wp2_with fail
  refine (CR.out _).mono ?_; rintro e w1 ⟨rfl, hb1⟩
  have HB1 : Hid (Below w.heap.size w w1) := ((Below.refl _ _).alloc (Nat.le_refl _) _).trans (hb1.mono (by simp))
  clear hb1
  go_wp2_with fail
  go_ret2
  exact ⟨rfl, HB1.out⟩
end Go.Proofs.YtlodahlinncpcaaDoor.Mc
