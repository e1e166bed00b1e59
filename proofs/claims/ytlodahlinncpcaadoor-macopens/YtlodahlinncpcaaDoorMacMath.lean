/- Plain mathematics of mac. -/
import Derived.Test.YtlodahlinncpcaaDoorShaMath
import Derived.Test.YtlodahlinncpcaaDoorPackMath
namespace Go.Proofs.YtlodahlinncpcaaDoor.M
/-- a key that is too long counts as its digest -/
def key (k : List UInt8) : List UInt8 := if 64 < k.length then Q.sum k else k
def fill (n : Nat) (k : List UInt8) : List UInt8 := k.take n ++ List.replicate (n - k.length) 0
def mask (k : List UInt8) (m : UInt8) : List UInt8 := (fill 64 k).map fun b => b ^^^ m
/-- the keyed digest -/
def hmac (k t : List UInt8) : List UInt8 := Q.sum (mask (key k) 92 ++ Q.sum (mask (key k) 54 ++ t))
def right (T : Int) (b : Nat) (R : Int) : Bool := decide (1 ≤ T ∧ T ≤ 8 ∧ 1 ≤ b ∧ b ≤ 16 ∧ 1 ≤ R ∧ R ≤ 3)
/-- what a token says, as bytes -/
def plain (T : Nat) (B : List UInt8) (R U : Nat) : List UInt8 := P.numB T 1 ++ (P.vary B.length ++ B) ++ P.numB R 1 ++ P.numB U 8
theorem fill_length (n : Nat) (k : List UInt8) : (fill n k).length = n := by
  rw [fill, List.length_append, List.length_take, List.length_replicate]; omega
theorem mask_length (k : List UInt8) (m : UInt8) : (mask k m).length = 64 := by rw [mask, List.length_map, fill_length]
theorem sum_len (l : List UInt8) : (Q.sum l).length = 32 := by
  rw [Q.sum, Q.spell_length, (Q.blocks_ok _ _ _ Q.start_ok).1]
theorem hmac_length (k t : List UInt8) : (hmac k t).length = 32 := sum_len _
theorem key_length (k : List UInt8) : (key k).length ≤ 64 := by
  rw [key]; split
  · rw [sum_len]; omega
  · omega
/-- the first t bytes masked -/
def part (F : List UInt8) (m : UInt8) (t : Nat) : List UInt8 := ((F.take t).map fun b => b ^^^ m) ++ F.drop t
theorem part_zero (F : List UInt8) (m : UInt8) : part F m 0 = F := by simp [part]
theorem part_all (F : List UInt8) (m : UInt8) (n : Nat) (h : F.length = n) : part F m n = F.map fun b => b ^^^ m := by
  rw [part, List.take_of_length_le (by omega), List.drop_of_length_le (by omega), List.append_nil]
theorem part_length (F : List UInt8) (m : UInt8) (t : Nat) : (part F m t).length = F.length := by
  rw [part, List.length_append, List.length_map, List.length_take, List.length_drop]; omega
theorem part_at (F : List UInt8) (m : UInt8) (t : Nat) (h : t < F.length) : (part F m t)[t]? = some F[t] := by
  rw [part, List.getElem?_append_right (by rw [List.length_map, List.length_take]; omega), List.length_map, List.length_take, Nat.min_eq_left (by omega), Nat.sub_self, List.getElem?_drop]
  simp [h]
theorem part_set (F : List UInt8) (m : UInt8) (t : Nat) (h : t < F.length) : (part F m t).set t (F[t] ^^^ m) = part F m (t + 1) := by
  rw [part, List.set_append_right _ _ (by rw [List.length_map, List.length_take]; omega), List.length_map, List.length_take, Nat.min_eq_left (by omega), Nat.sub_self, List.drop_eq_getElem_cons h, List.set_cons_zero, part, List.take_succ_eq_append_getElem h, List.map_append, List.append_assoc]
  rfl
end Go.Proofs.YtlodahlinncpcaaDoor.M
namespace Go.Proofs.YtlodahlinncpcaaDoor.M
theorem ex_plain : plain 2 [98] 1 5 = [2, 1, 98, 1, 0, 0, 0, 0, 0, 0, 0, 5] := by decide +kernel
theorem ex_key : hmac [107, 101, 121] [2, 1, 98, 1, 0, 0, 0, 0, 0, 0, 0, 5] = [57, 43, 16, 133, 24, 22, 2, 6, 150, 123, 233, 231, 17, 34, 248, 111, 12, 48, 43, 71, 91, 138, 241, 216, 40, 113, 165, 58, 75, 122, 121, 190] := by decide +kernel
theorem ex_kez : hmac [107, 101, 122] [2, 1, 98, 1, 0, 0, 0, 0, 0, 0, 0, 5] = [98, 147, 131, 191, 252, 123, 50, 234, 81, 63, 251, 202, 200, 130, 24, 217, 162, 214, 20, 250, 181, 123, 242, 160, 21, 159, 249, 178, 68, 213, 0, 81] := by decide +kernel
theorem ex_fox : hmac [107, 101, 121] [84, 104, 101, 32, 113, 117, 105, 99, 107, 32, 98, 114, 111, 119, 110, 32, 102, 111, 120, 32, 106, 117, 109, 112, 115, 32, 111, 118, 101, 114, 32, 116, 104, 101, 32, 108, 97, 122, 121, 32, 100, 111, 103] = [247, 188, 131, 244, 48, 83, 132, 36, 177, 50, 152, 230, 170, 111, 177, 67, 239, 77, 89, 161, 73, 70, 23, 89, 151, 71, 157, 188, 45, 26, 60, 216] := by decide +kernel
end Go.Proofs.YtlodahlinncpcaaDoor.M
