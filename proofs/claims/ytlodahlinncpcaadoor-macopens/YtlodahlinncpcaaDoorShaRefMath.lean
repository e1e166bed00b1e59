/- The document's own table: plain mathematics, reckoned. -/
import Derived.Test.YtlodahlinncpcaaDoorShaMath
namespace Go.Proofs.YtlodahlinncpcaaDoor.Q
set_option linter.unusedVariables false
/-- one number of a long multiplication -/
def mulT (x l a c : Nat) : Nat := (x * l + a + c) % 18446744073709551616
def mulA (x l0 : Nat) (a : List Nat) (i : Nat) : List Nat := a.set i (mulT x l0 (a.getD i 0) 0 % 4294967296)
def mulB (x l0 l1 : Nat) (a : List Nat) (i : Nat) : List Nat :=
  (mulA x l0 a i).set (i + 1) (mulT x l1 ((mulA x l0 a i).getD (i + 1) 0) (mulT x l0 (a.getD i 0) 0 / 4294967296) % 4294967296)
def mulC (x l0 l1 : Nat) (a : List Nat) (i : Nat) : Nat := mulT x l1 ((mulA x l0 a i).getD (i + 1) 0) (mulT x l0 (a.getD i 0) 0 / 4294967296) / 4294967296
def mulR (x l0 l1 : Nat) (a : List Nat) (i : Nat) : List Nat :=
  (mulB x l0 l1 a i).set (i + 2) (((mulB x l0 l1 a i).getD (i + 2) 0 + mulC x l0 l1 a i) % 18446744073709551616)
/-- the products of the first n numbers of xs -/
def mulN (xs : List Nat) (l0 l1 : Nat) : Nat → List Nat
  | 0 => [0, 0, 0, 0, 0, 0]
  | n + 1 => mulR (xs.getD n 0) l0 l1 (mulN xs l0 l1 n) n
def cubeL (x : Nat) : List Nat := mulN (mulN [x % 4294967296, x / 4294967296, 0, 0, 0, 0] (x % 4294967296) (x / 4294967296) 2) (x % 4294967296) (x / 4294967296) 4
def cubeT (c : List Nat) : Nat := (c.getD 3 0 + c.getD 4 0 * 4294967296 % 18446744073709551616) % 18446744073709551616
def cubeZ (c : List Nat) : Nat := (c.getD 0 0 + c.getD 1 0 + c.getD 2 0) % 18446744073709551616
def cube (x p : Nat) : Bool :=
  if p < (x / 4294967296) * (x / 4294967296) * (x / 4294967296) % 18446744073709551616 then true
  else decide (p ≤ cubeT (cubeL x)) && (decide (p < cubeT (cubeL x)) || decide (0 < cubeZ (cubeL x)))
def frac : Nat → Nat → Nat → Nat
  | 0, _, x => x
  | k + 1, p, x => frac k p (if cube (x + 2 ^ k) p = true then x else x + 2 ^ k)
def fraction (p : Nat) : Nat := frac 36 p 0 % 4294967296
def primeF : Nat → Nat → Nat → Bool
  | 0, n, _ => decide (1 < n)
  | f + 1, n, d => if d * d ≤ n then (if n % d = 0 then false else primeF f n (d + 1)) else decide (1 < n)
def prime (n : Nat) : Bool := primeF 400 n 2
def PR : List Nat := [2, 3, 5, 7, 11, 13, 17, 19, 23, 29, 31, 37, 41, 43, 47, 53, 59, 61, 67, 71, 73, 79, 83, 89, 97, 101, 103, 107, 109, 113, 127, 131, 137, 139, 149, 151, 157, 163, 167, 173, 179, 181, 191, 193, 197, 199, 211, 223, 227, 229, 233, 239, 241, 251, 257, 263, 269, 271, 277, 281, 283, 293, 307, 311]
/-- the prime ahead of the i-th -/
def PA (i : Nat) : Nat := (1 :: PR).getD i 0
theorem K_is : PR.map fraction = K := by decide +kernel
theorem gaps : ∀ i, i < 64 → ∀ p, p < 312 → PA i < p → p < PA (i + 1) → prime p = false := by decide +kernel
theorem primes : ∀ i, i < 64 → prime (PA (i + 1)) = true ∧ PA i < PA (i + 1) ∧ PA (i + 1) < 312 := by decide +kernel
end Go.Proofs.YtlodahlinncpcaaDoor.Q
