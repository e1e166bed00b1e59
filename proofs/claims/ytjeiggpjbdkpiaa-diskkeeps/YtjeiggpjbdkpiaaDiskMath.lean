/- disk: blocks that are not synced, behind what is: what a crash leaves of them. -/
import Derived.Test.YtjeiggpjbdkpiaaDiskEx

namespace Go.Proofs.Ytjeiggpjbdkpiaa.Dk

open Go.RowKit

set_option linter.unusedVariables false

set_option linter.unusedSimpArgs false

def ends : Nat → List (List UInt8) → List Nat
  | _, [] => []
  | n, b :: B => (n + b.length) :: ends (n + b.length) B
def left (kept i : Nat) (b : List UInt8) : List UInt8 := if kept / 2 ^ i % 2 = 0 then List.replicate b.length 0 else b
def lostB (kept : Nat) : Nat → List (List UInt8) → List UInt8
  | _, [] => []
  | i, b :: B => left kept i b ++ lostB kept (i + 1) B
theorem ends_len : ∀ (n : Nat) (B : List (List UInt8)), (ends n B).length = B.length
  | _, [] => rfl
  | n, b :: B => by show (ends _ B).length + 1 = _; rw [ends_len _ B]; rfl
theorem ends_snoc : ∀ (n : Nat) (B : List (List UInt8)) (s : List UInt8), ends n (B ++ [s]) = ends n B ++ [n + B.flatten.length + s.length]
  | n, [], s => by show [n + s.length] = [n + 0 + s.length]; rfl
  | n, b :: B, s => by
    show (n + b.length) :: ends (n + b.length) (B ++ [s]) = (n + b.length) :: (ends (n + b.length) B ++ _)
    rw [ends_snoc]
    congr 3
    rw [List.flatten_cons, List.length_append]
    omega
theorem left_len (kept i : Nat) (b : List UInt8) : (left kept i b).length = b.length := by
  unfold left
  split
  · simp
  · rfl
theorem lostB_len (kept : Nat) : ∀ (i : Nat) (B : List (List UInt8)), (lostB kept i B).length = B.flatten.length
  | i, [] => rfl
  | i, b :: B => by
    show (left kept i b ++ lostB kept (i + 1) B).length = _
    rw [List.length_append, left_len, lostB_len, List.flatten_cons, List.length_append]
theorem flat_snoc (P : List UInt8) (B : List (List UInt8)) (s : List UInt8) : P ++ B.flatten ++ s = P ++ (B ++ [s]).flatten := by simp
theorem addE_ends (P : List UInt8) (B : List (List UInt8)) (s : List UInt8) (n : Nat) (hn : s.length = n) (hB : B.length < 64) : addE (ends P.length B) ((P ++ B.flatten).length + n) = ends P.length (B ++ [s]) := by
  unfold addE
  rw [ends_len, if_pos hB, ends_snoc, List.length_append, hn]
theorem lostB_snoc (kept : Nat) : ∀ (i : Nat) (B : List (List UInt8)) (s : List UInt8), lostB kept i (B ++ [s]) = lostB kept i B ++ left kept (i + B.length) s
  | i, [], s => by show left kept i s ++ [] = [] ++ left kept (i + 0) s; simp
  | i, b :: B, s => by
    show left kept i b ++ lostB kept (i + 1) (B ++ [s]) = _
    rw [lostB_snoc, ← List.append_assoc]
    show _ = left kept i b ++ lostB kept (i + 1) B ++ left kept (i + (B.length + 1)) s
    rw [show i + 1 + B.length = i + (B.length + 1) by omega]
theorem ends_asc : ∀ (n m : Nat) (B : List (List UInt8)), n + B.flatten.length ≤ m → Asc n (ends n B) m
  | n, m, [], h => by show n ≤ m; simpa using h
  | n, m, b :: B, h => by
    rw [List.flatten_cons, List.length_append] at h
    exact ⟨Nat.le_add_right _ _, ends_asc _ _ B (by omega)⟩
theorem zero_mid (P b R : List UInt8) : zero (P ++ b ++ R) P.length (P.length + b.length) = P ++ List.replicate b.length 0 ++ R := by
  unfold zero
  rw [List.append_assoc P b R, List.take_append_of_le_length (Nat.le_refl _), List.take_of_length_le (Nat.le_refl _), Nat.add_sub_cancel_left, ← List.append_assoc, List.drop_append, List.drop_of_length_le (by rw [List.length_append]; exact Nat.le_refl _), List.length_append, Nat.sub_self, List.drop_zero, List.nil_append]
theorem lost_is (kept : Nat) : ∀ (i : Nat) (P : List UInt8) (B : List (List UInt8)), lostT kept i P.length (ends P.length B) (P ++ B.flatten) = P ++ lostB kept i B
  | i, P, [] => by
    show zero (P ++ []) P.length (P ++ []).length = P ++ []
    rw [List.append_nil, zero_none]
  | i, P, b :: B => by
    show lostT kept (i + 1) (P.length + b.length) (ends (P.length + b.length) B) (if kept / 2 ^ i % 2 = 0 then zero (P ++ (b :: B).flatten) P.length (P.length + b.length) else P ++ (b :: B).flatten) = _
    have hl : P.length + b.length = (P ++ left kept i b).length := by rw [List.length_append, left_len]
    have e : (if kept / 2 ^ i % 2 = 0 then zero (P ++ (b :: B).flatten) P.length (P.length + b.length) else P ++ (b :: B).flatten) = P ++ left kept i b ++ B.flatten := by
      rw [List.flatten_cons, ← List.append_assoc, zero_mid]
      unfold left
      split
      · rfl
      · rfl
    rw [e, hl, lost_is kept (i + 1) (P ++ left kept i b) B, List.append_assoc]
    rfl
end Go.Proofs.Ytjeiggpjbdkpiaa.Dk
