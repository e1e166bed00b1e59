/- mac: Mint. -/
import Derived.Test.YtlodahlinncpcaaDoorMacSum
import Derived.Test.YtlodahlinncpcaaDoorMacSmall
import Derived.Test.YtlodahlinncpcaaDoorShaStill
import Derived.Test.YtlodahlinncpcaaDoorPackPut
namespace Go.Proofs.YtlodahlinncpcaaDoor.Mc
open Go.RowKit
set_option linter.unusedVariables false
set_option linter.unusedSimpArgs false
theorem numS_eq (n k : Nat) (h1 : 1 ≤ k) (h8 : k ≤ 8) : Pk.numS n (k : Int) = S (P.numB n k) := by
  unfold Pk.numS
  rw [if_neg (by omega), Int.toNat_natCast]; rfl
theorem textS_eq (B : ByteArray) : Pk.textS B = S (P.vary B.data.toList.length ++ B.data.toList) := by
  rw [Pk.textS_list, len_list]; rfl
theorem plain_eq (t : Nat) (B : ByteArray) (r U : Nat) : ((Pk.numS t 1 ++ Pk.textS B) ++ Pk.numS r 1) ++ Pk.numS U 8 = S (M.plain t B.data.toList r U) := by
  rw [show Pk.numS t 1 = S (P.numB t 1) from numS_eq t 1 (by omega) (by omega), show Pk.numS r 1 = S (P.numB r 1) from numS_eq r 1 (by omega) (by omega), show Pk.numS U 8 = S (P.numB U 8) from numS_eq U 8 (by omega) (by omega), textS_eq, S_append, S_append, S_append, M.plain]
theorem numS_size (n k : Nat) (h1 : 1 ≤ k) (h8 : k ≤ 8) : (Pk.numS n (k : Int)).size = k := by rw [numS_eq n k h1 h8, S_size, P.numB_length]
theorem numS_1 (n : Nat) : (Pk.numS n 1).size = 1 := numS_size n 1 (by omega) (by omega)
theorem numS_8 (n : Nat) : (Pk.numS n 8).size = 8 := numS_size n 8 (by omega) (by omega)
theorem plain_size (t : Nat) (B : ByteArray) (r U : Nat) : (S (M.plain t B.data.toList r U)).size ≤ B.size + 20 := by
  rw [← plain_eq]
  have h1 := numS_1 t
  have h2 := numS_1 r
  have h3 := numS_8 U
  have h4 := (Pk.textS_size B).1
  simp only [ByteArray.size_append]
  omega
set_option maxHeartbeats 2000000 in
set_option maxRecDepth 100000 in
theorem mint_yes (k B : ByteArray) (t r U : Nat) (w : World) (hk : k.size ≤ 140737488355000) (ht1 : 1 ≤ t) (ht8 : t ≤ 8) (hB1 : 1 ≤ B.size) (hB16 : B.size ≤ 16) (hr1 : 1 ≤ r) (hr3 : r ≤ 3) (hU : U < 2 ^ 64) (hT : Tab w) :
    Calls Tryd.prog 28 #[.string k, .agg #[.int .i64 (t : Int), .string B, .int .i64 (r : Int), .int .u64 (U : Int)]] w fun e w' => e = .returned (.tuple #[.string (S (M.plain t B.data.toList r U ++ M.hmac k.data.toList (M.plain t B.data.toList r U))), .bool true]) ∧ Below w.heap.size w w' := by
  have HT : Hid _ := hT
  have hz := hT.pos
  have HR : Hid (M.right (t : Int) B.size (r : Int) = true) := right_true (by omega) (by omega) hB1 hB16 (by omega) (by omega)
  have CR : Hid _ := fun w => right_any (t : Int) B (r : Int) U w (by omega)
  rw [HR.out] at CR
  have C1 : Hid _ := fun w => Pk.number_any t 1 w (by omega)
  have C2 : Hid _ := fun w => Pk.text_any B w (by omega)
  have C3 : Hid _ := fun w => Pk.number_any r 1 w (by omega)
  have C4 : Hid _ := fun w => Pk.number_any U 8 w hU
  have HP : Hid _ := plain_eq t B r U
  have hps := plain_size t B r U
  have z1 : (Pk.numS t 1).size ≤ 8 := by rw [numS_1]; omega
  have z2 : (Pk.textS B).size ≤ 26 := by have := (Pk.textS_size B).1; omega
  have z3 : (Pk.numS r 1).size ≤ 8 := by rw [numS_1]; omega
  have z4 : (Pk.numS U 8).size ≤ 8 := by rw [numS_8]; omega
  obtain ⟨c, HC⟩ : ∃ c, Hid (S (M.plain t B.data.toList r U) = c) := ⟨_, rfl⟩
  have HPL : Hid (M.plain t B.data.toList r U = c.data.toList) := by show _ = _; rw [← HC.out, S_list]
  rw [HC.out] at HP hps
  have CS : Hid _ := fun w h => msum_any k c w hk (by omega) h
  have HOUT : Hid (S (M.plain t B.data.toList r U ++ M.hmac k.data.toList (M.plain t B.data.toList r U)) = c ++ S (M.hmac k.data.toList c.data.toList)) := by
    show _ = _
    rw [HPL.out, ← S_append, S_of]
  rw [HOUT.out]
  have hsz : (S (M.hmac k.data.toList c.data.toList)).size = 32 := by rw [S_size, M.hmac_length]
  generalize S (M.hmac k.data.toList c.data.toList) = d at *
  generalize Pk.numS t 1 = n1 at *
  generalize Pk.textS B = n2 at *
  generalize Pk.numS r 1 = n3 at *
  generalize Pk.numS U 8 = n4 at *
  have y1 : n1.size + n2.size ≤ 9223372036854775807 := by omega
  have y2 : (n1 ++ n2).size + n3.size ≤ 9223372036854775807 := by rw [ByteArray.size_append]; omega
  have y3 : (n1 ++ n2 ++ n3).size + n4.size ≤ 9223372036854775807 := by rw [ByteArray.size_append, ByteArray.size_append]; omega
  have hc : c.size ≤ 1000 := by omega
  have e1 : IntKind.u64.wrap (t : Int) = (t : Int) := by rw [IntKind.wrap_u64]; omega
  have e2 : IntKind.u64.wrap (r : Int) = (r : Int) := by rw [IntKind.wrap_u64]; omega
  clear hT HR HPL HOUT HC hps
  go_enter Tryd.func28, Tryd.ntmps28
  go_wp2_with fail
  refine (CR.out _).mono ?_; rintro e w1 ⟨rfl, hb1⟩
  have HB1 : Hid (Below w.heap.size w w1) := ((Below.refl _ _).alloc (Nat.le_refl _) _).trans (hb1.mono (by simp))
  have c0 : w1.cell? ⟨w.heap.size, 0, none⟩ = some (.int .i64 (t : Int)) := keepcell hb1 (by simp) (by simp [go_sem])
  have c1 : w1.cell? ⟨w.heap.size, 1, none⟩ = some (.string B) := keepcell hb1 (by simp) (by simp [go_sem])
  have c2 : w1.cell? ⟨w.heap.size, 2, none⟩ = some (.int .i64 (r : Int)) := keepcell hb1 (by simp) (by simp [go_sem])
  have c3 : w1.cell? ⟨w.heap.size, 3, none⟩ = some (.int .u64 (U : Int)) := keepcell hb1 (by simp) (by simp [go_sem])
  have hz1 : w.heap.size < w1.heap.size := by have := hb1.size; simp at this; omega
  clear hb1
  go_wp2_with fail
  refine region_more Tryd.mixed (by kernel_rfl) ?_
  have HK : Hid (∀ u, Below w1.heap.size w1 u → (u.cell? ⟨w.heap.size, 0, none⟩ = some (.int .i64 (t : Int)) ∧ u.cell? ⟨w.heap.size, 1, none⟩ = some (.string B) ∧ u.cell? ⟨w.heap.size, 2, none⟩ = some (.int .i64 (r : Int)) ∧ u.cell? ⟨w.heap.size, 3, none⟩ = some (.int .u64 (U : Int)))) := fun u hu =>
    ⟨keepcell hu hz1 c0, keepcell hu hz1 c1, keepcell hu hz1 c2, keepcell hu hz1 c3⟩
  clear c0 c1 c2 c3
  refine q_value rfl (.pointer (some ⟨w.heap.size, 0, none⟩)) (fun u hu => by go_simp) (fun K hK => ?_)
  go_simp
  refine hK _ ?_
  clear hK K
  refine q_value rfl (.int .i64 (t : Int)) (fun u hu => by obtain ⟨c0, c1, c2, c3⟩ := HK.out u hu; go_simp) (fun K hK => ?_)
  go_simp
  refine hK _ ?_
  clear hK K
  refine q_value rfl (.int .u64 (t : Int)) (fun u hu => by go_simp) (fun K hK => ?_)
  go_simp
  refine hK _ ?_
  clear hK K
  refine q_call rfl 46 _ Tryd.func46 (by kernel_rfl) (by kernel_rfl) _ _ rfl [.int .u64 (t : Int), .int .i64 1] rfl (.string n1) (fun u hu => Calls.more hu (C1.out u)) (fun K hK => ?_)
  go_simp
  refine hK _ ?_
  clear hK K
  refine q_value rfl (.pointer (some ⟨w.heap.size, 1, none⟩)) (fun u hu => by go_simp) (fun K hK => ?_)
  go_simp
  refine hK _ ?_
  clear hK K
  refine q_value rfl (.string B) (fun u hu => by obtain ⟨c0, c1, c2, c3⟩ := HK.out u hu; go_simp) (fun K hK => ?_)
  go_simp
  refine hK _ ?_
  clear hK K
  refine q_call rfl 47 _ Tryd.func47 (by kernel_rfl) (by kernel_rfl) _ _ rfl [.string B] rfl (.string n2) (fun u hu => Calls.more hu (C2.out u)) (fun K hK => ?_)
  go_simp
  refine hK _ ?_
  clear hK K
  refine q_concat rfl _ _ _ _ rfl n1 n2 rfl rfl y1 (fun K hK => ?_)
  go_simp
  refine hK _ ?_
  clear hK K
  refine q_value rfl (.pointer (some ⟨w.heap.size, 2, none⟩)) (fun u hu => by go_simp) (fun K hK => ?_)
  go_simp
  refine hK _ ?_
  clear hK K
  refine q_value rfl (.int .i64 (r : Int)) (fun u hu => by obtain ⟨c0, c1, c2, c3⟩ := HK.out u hu; go_simp) (fun K hK => ?_)
  go_simp
  refine hK _ ?_
  clear hK K
  refine q_value rfl (.int .u64 (r : Int)) (fun u hu => by go_simp) (fun K hK => ?_)
  go_simp
  refine hK _ ?_
  clear hK K
  refine q_call rfl 46 _ Tryd.func46 (by kernel_rfl) (by kernel_rfl) _ _ rfl [.int .u64 (r : Int), .int .i64 1] rfl (.string n3) (fun u hu => Calls.more hu (C3.out u)) (fun K hK => ?_)
  go_simp
  refine hK _ ?_
  clear hK K
  refine q_concat rfl _ _ _ _ rfl (n1 ++ n2) n3 rfl rfl y2 (fun K hK => ?_)
  go_simp
  refine hK _ ?_
  clear hK K
  refine q_value rfl (.pointer (some ⟨w.heap.size, 3, none⟩)) (fun u hu => by go_simp) (fun K hK => ?_)
  go_simp
  refine hK _ ?_
  clear hK K
  refine q_value rfl (.int .u64 (U : Int)) (fun u hu => by obtain ⟨c0, c1, c2, c3⟩ := HK.out u hu; go_simp) (fun K hK => ?_)
  go_simp
  refine hK _ ?_
  clear hK K
  refine q_call rfl 46 _ Tryd.func46 (by kernel_rfl) (by kernel_rfl) _ _ rfl [.int .u64 (U : Int), .int .i64 8] rfl (.string n4) (fun u hu => Calls.more hu (C4.out u)) (fun K hK => ?_)
  go_simp
  refine hK _ ?_
  clear hK K
  refine q_concat rfl _ _ _ _ rfl (n1 ++ n2 ++ n3) n4 rfl rfl y3 (fun K hK => ?_)
  go_simp
  refine hK _ ?_
  clear hK K
  rw [HP.out]
  refine q_assign rfl _ rfl (.string c) rfl (fun K hK => ?_)
  go_simp
  refine hK _ ?_
  clear hK K
  refine wpQuiet_nil ?_
  intro u hu
  have HBU : Hid (Below w.heap.size w u) := Below.trans HB1.out (hu.mono (by omega))
  have HTU : Hid (Tab u) := Tab.below HT.out HBU.out hz
  clear hu HK
  go_wp2_with fail
  refine (CS.out _ HTU.out).mono ?_; rintro e w3 ⟨rfl, hb3⟩
  have HB3 : Hid (Below w.heap.size w w3) := Below.trans HBU.out (hb3.mono HBU.out.size)
  clear hb3
  go_wp2_with fail
  go_ret2
  exact ⟨rfl, HB3.out⟩
set_option maxHeartbeats 1000000 in
theorem mint_no (k B : ByteArray) (T R : Int) (U : Nat) (w : World) (hB : B.size ≤ 9223372036854775807) (h : M.right T B.size R = false) :
    Calls Tryd.prog 28 #[.string k, .agg #[.int .i64 T, .string B, .int .i64 R, .int .u64 (U : Int)]] w fun e w' => e = .returned (.tuple #[.string ⟨#[]⟩, .bool false]) ∧ Below w.heap.size w w' := by
  have CR : Hid _ := fun w => right_any T B R U w (by omega)
  rw [h] at CR
  clear h
  go_enter Tryd.func28, Tryd.ntmps28
  go_wp2_with fail
  refine (CR.out _).mono ?_; rintro e w1 ⟨rfl, hb1⟩
  have HB1 : Hid (Below w.heap.size w w1) := ((Below.refl _ _).alloc (Nat.le_refl _) _).trans (hb1.mono (by simp))
  clear hb1
  go_wp2_with fail
  go_ret2
  exact ⟨rfl, HB1.out⟩
end Go.Proofs.YtlodahlinncpcaaDoor.Mc
