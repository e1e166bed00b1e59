/- mac: what was minted is read back. -/
import Derived.Test.YtlodahlinncpcaaDoorMacOpen
namespace Go.Proofs.YtlodahlinncpcaaDoor.Mc
open Go.RowKit
set_option linter.unusedVariables false
set_option linter.unusedSimpArgs false
theorem rn_num (n k : Nat) (X : List UInt8) (h1 : 1 ≤ k) (h8 : k ≤ 8) (hn : n < 256 ^ k) : P.RN (S (P.numB n k ++ X)) false (k : Int) = (n, S X, false) := by
  unfold P.RN
  rw [S_list, if_neg (by decide), P.rnum_numB n k X h1 h8 hn]
  rfl
theorem rt_text (B X : List UInt8) (hB : B.length ≤ 16) : P.RT (S (P.vary B.length ++ B ++ X)) false 16 = (S B, S X, false) := by
  unfold P.RT P.rtext
  rw [S_list, if_neg (by decide), List.append_assoc, P.rvary_vary B.length (B ++ X) (by omega)]
  simp only
  rw [if_neg (by rw [List.length_append]; omega), List.take_left, List.drop_left]
  rfl
theorem plain_app (t : Nat) (B : List UInt8) (r U : Nat) (d : List UInt8) : M.plain t B r U ++ d = P.numB t 1 ++ ((P.vary B.length ++ B) ++ (P.numB r 1 ++ (P.numB U 8 ++ d))) := by
  rw [M.plain]; simp only [List.append_assoc]
theorem reads1 (t : Nat) (B : List UInt8) (r U : Nat) (d : List UInt8) (ht : t < 256) : P.RN (S (M.plain t B r U ++ d)) false 1 = (t, S ((P.vary B.length ++ B) ++ (P.numB r 1 ++ (P.numB U 8 ++ d))), false) := by
  rw [plain_app]; exact rn_num t 1 _ (by omega) (by omega) (by omega)
theorem reads2 (B : List UInt8) (r U : Nat) (d : List UInt8) (hB : B.length ≤ 16) : P.RT (S ((P.vary B.length ++ B) ++ (P.numB r 1 ++ (P.numB U 8 ++ d)))) false 16 = (S B, S (P.numB r 1 ++ (P.numB U 8 ++ d)), false) := rt_text B _ hB
theorem reads3 (r U : Nat) (d : List UInt8) (hr : r < 256) : P.RN (S (P.numB r 1 ++ (P.numB U 8 ++ d))) false 1 = (r, S (P.numB U 8 ++ d), false) := rn_num r 1 _ (by omega) (by omega) (by omega)
theorem reads4 (U : Nat) (d : List UInt8) (hU : U < 2 ^ 64) : P.RN (S (P.numB U 8 ++ d)) false 8 = (U, S d, false) := rn_num U 8 _ (by omega) (by omega) (by simpa using hU)
theorem head_of (p d : List UInt8) : ((S (p ++ d)).extract 0 ((S (p ++ d)).size - (S d).size)).data.toList = p := by
  rw [S_size, S_size, S_extract, S_list, List.drop_zero, List.length_append, Nat.add_sub_cancel, List.take_left]
theorem plain_len (t : Nat) (B : List UInt8) (r U : Nat) : (M.plain t B r U).length = (P.vary B.length).length + B.length + 10 := by
  rw [M.plain]; simp only [List.length_append, P.numB_length]; omega
theorem plain_small (t : Nat) (B : List UInt8) (r U : Nat) (d : List UInt8) (hB : B.length ≤ 16) (hd : d.length ≤ 100) : (S (M.plain t B r U ++ d)).size ≤ 140737488355000 := by
  rw [S_size, List.length_append, plain_len]
  have := P.vary_le B.length
  omega
/-- a token that is right, opened by whatever key, in time -/
theorem opens_in (k : ByteArray) (t r U now : Nat) (B : ByteArray) (d : List UInt8) (w : World) (hk : k.size ≤ 140737488355000) (hT : Tab w) (hd : d.length = 32)
    (ht1 : 1 ≤ t) (ht8 : t ≤ 8) (hB1 : 1 ≤ B.size) (hB16 : B.size ≤ 16) (hr1 : 1 ≤ r) (hr3 : r ≤ 3) (hU : U < 2 ^ 64) (hL : now < U) :
    Calls Tryd.prog 34 #[.string k, .string (S (M.plain t B.data.toList r U ++ d)), .int .u64 (now : Int)] w fun e w' => e = .returned (.tuple #[.agg (if d = M.hmac k.data.toList (M.plain t B.data.toList r U) then [.int .i64 (t : Int), .string B, .int .i64 (r : Int), .int .u64 (U : Int)] else zeroTok).toArray, .int .i64 (if d = M.hmac k.data.toList (M.plain t B.data.toList r U) then 0 else 8)]) ∧ Below w.heap.size w w' := by
  have hb : B.data.toList.length ≤ 16 := by rw [len_list]; exact hB16
  have e1 := reads1 t B.data.toList r U d (by omega)
  have e2 := reads2 B.data.toList r U d hb
  have e3 := reads3 r U d (by omega)
  have e4 := reads4 U d hU
  rw [S_of] at e2
  have hR : M.right (t : Int) B.size (r : Int) = true := right_true (by omega) (by omega) hB1 hB16 (by omega) (by omega)
  have hs := plain_small t B.data.toList r U d hb (by omega)
  by_cases h : d = M.hmac k.data.toList (M.plain t B.data.toList r U)
  · rw [if_pos h, if_pos h]
    exact open_yes k _ now t r U B _ _ _ _ _ _ _ w hk hs hT e1 e2 e3 e4 (by omega) (by omega) (by omega) hR hL (by rw [head_of, decide_eq_true_iff, ← h])
  · rw [if_neg h, if_neg h]
    exact open_other k _ now t r U B _ _ _ _ _ _ _ w hk hs hT e1 e2 e3 e4 (by omega) (by omega) (by omega) hR hL (by rw [head_of, decide_eq_false_iff_not, S_inj]; exact h)
theorem opens_late (k : ByteArray) (t r U now : Nat) (B : ByteArray) (d : List UInt8) (w : World) (hk : k.size ≤ 140737488355000) (hT : Tab w) (hd : d.length = 32)
    (ht1 : 1 ≤ t) (ht8 : t ≤ 8) (hB1 : 1 ≤ B.size) (hB16 : B.size ≤ 16) (hr1 : 1 ≤ r) (hr3 : r ≤ 3) (hU : U < 2 ^ 64) (hL : U ≤ now) :
    Calls Tryd.prog 34 #[.string k, .string (S (M.plain t B.data.toList r U ++ d)), .int .u64 (now : Int)] w fun e w' => e = .returned (.tuple #[.agg zeroTok.toArray, .int .i64 8]) ∧ Below w.heap.size w w' := by
  have hb : B.data.toList.length ≤ 16 := by rw [len_list]; exact hB16
  have e1 := reads1 t B.data.toList r U d (by omega)
  have e2 := reads2 B.data.toList r U d hb
  have e3 := reads3 r U d (by omega)
  have e4 := reads4 U d hU
  rw [S_of] at e2
  have hR : M.right (t : Int) B.size (r : Int) = true := right_true (by omega) (by omega) hB1 hB16 (by omega) (by omega)
  have hs := plain_small t B.data.toList r U d hb (by omega)
  exact open_late k _ now t r U B _ _ _ _ _ _ _ w hk hs hT e1 e2 e3 e4 (by omega) (by omega) (by omega) hR hL
end Go.Proofs.YtlodahlinncpcaaDoor.Mc
