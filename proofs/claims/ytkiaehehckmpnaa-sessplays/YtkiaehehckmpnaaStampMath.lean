/- The plain mathematics of stamps: a vector and whose it is; nothing of the program. -/
import Derived.Test.YtkiaehehckmpnaaVecMath

namespace Go.Proofs.Ytkiaehehckmpnaa.T

set_option linter.unusedVariables false

def right (a : List Nat) (d : Int) : Bool := V.right a && decide (1 ≤ V.at_ a d)
/-- numbers held against one another, from the first on -/
def cmp : List Nat → List Nat → Int
  | [], [] => 0
  | [], _ :: _ => -1
  | _ :: _, [] => 1
  | x :: a, y :: b => if x < y then -1 else if y < x then 1 else cmp a b
def over (a : List Nat) (d : Int) (b : List Nat) (e : Int) : Bool :=
  if V.sum a = V.sum b then (if d = e then decide (0 < cmp a b) else decide (e < d)) else decide (V.sum b < V.sum a)
def same (a : List Nat) (d : Int) (b : List Nat) (e : Int) : Bool := decide (a = b) && decide (d = e)
def order (a : List Nat) (d : Int) (b : List Nat) (e : Int) : Int := if same a d b e = true then 0 else if over a d b e = true then 1 else -1
def later (a : List Nat) (d : Int) (b : List Nat) (e : Int) : List Nat × Int := if 0 < order a d b e then (a, d) else (b, e)
def put (a : List Nat) (d : Int) : List UInt8 := P.numB d.toNat 1 ++ V.put a
theorem cmp_step (a b : List Nat) (j : Nat) (ha : j < a.length) (hb : j < b.length) :
    cmp (a.drop j) (b.drop j) = if a.getD j 0 < b.getD j 0 then -1 else if b.getD j 0 < a.getD j 0 then 1 else cmp (a.drop (j + 1)) (b.drop (j + 1)) := by
  rw [List.drop_eq_getElem_cons ha, List.drop_eq_getElem_cons hb]
  simp only [cmp, List.getD_eq_getElem?_getD, List.getElem?_eq_getElem ha, List.getElem?_eq_getElem hb, Option.getD_some]
theorem right_known {a : List Nat} {d : Int} (h : right a d = true) : V.right a = true ∧ 1 ≤ d ∧ d ≤ 4 ∧ 1 ≤ V.at_ a d := by
  simp only [right, Bool.and_eq_true, decide_eq_true_eq] at h
  refine ⟨h.1, ?_⟩
  by_cases hk : V.known d = true
  · exact ⟨((V.known_iff d).1 hk).1, ((V.known_iff d).1 hk).2, h.2⟩
  · rw [V.at_none a d (by simpa using hk)] at h
    omega
/-- which datacenter a law's stamp is of -/
def markd (d : Int) : Nat := 1 + (d % 18446744073709551616).toNat % 3
theorem markd_le (d : Int) : 1 ≤ markd d ∧ markd d ≤ 3 := by unfold markd; omega
/-- the numbers of a law's stamp -/
def base (a : List Nat) : List Nat := (a.take 3).map (· % 4) ++ [0]
def markv (a : List Nat) (d : Int) : List Nat := (base a).set (markd d - 1) (1 + (base a).getD (markd d - 1) 0)
def mark (a : List Nat) (d : Int) (own : Bool) : List Nat × Int := if own = true then (markv a d, (markd d : Int)) else (a, d)
theorem base_four (x y z t : Nat) : base [x, y, z, t] = [x % 4, y % 4, z % 4, 0] := rfl
theorem base_len {a : List Nat} (h : a.length = 4) : (base a).length = 4 := by
  obtain ⟨x, y, z, t, rfl⟩ := V.four h
  rfl
theorem markv_len {a : List Nat} (h : a.length = 4) (d : Int) : (markv a d).length = 4 := by
  rw [markv, List.length_set]; exact base_len h
theorem markv_le {a : List Nat} (h : a.length = 4) (d : Int) : ∀ x ∈ markv a d, x ≤ 4 := by
  obtain ⟨x, y, z, t, rfl⟩ := V.four h
  have h1 := markd_le d
  intro u hu
  rw [markv, base_four] at hu
  have hb : ∀ u ∈ [x % 4, y % 4, z % 4, 0], u ≤ 3 := by
    intro u hu
    simp only [List.mem_cons, List.not_mem_nil, or_false] at hu
    omega
  rcases List.mem_or_eq_of_mem_set hu with hu | rfl
  · have := hb u hu; omega
  · have hj : markd d - 1 < [x % 4, y % 4, z % 4, 0].length := by simp; omega
    rw [List.getD_eq_getElem?_getD, List.getElem?_eq_getElem hj]
    have := hb _ (List.getElem_mem hj)
    show 1 + [x % 4, y % 4, z % 4, 0][markd d - 1] ≤ 4
    omega
theorem markv_ok {a : List Nat} (h : a.length = 4) (d : Int) : V.Ok (markv a d) :=
  ⟨markv_len h d, fun x hx => by have := markv_le h d x hx; omega⟩
theorem markv_right {a : List Nat} (h : a.length = 4) (d : Int) : V.right (markv a d) = true := by
  rw [V.right, List.all_eq_true]
  intro x hx
  have := markv_le h d x hx
  exact decide_eq_true (by omega)
theorem markv_at {a : List Nat} (h : a.length = 4) (d : Int) : V.at_ (markv a d) (markd d : Int) = 1 + (base a).getD (markd d - 1) 0 := by
  have h1 := markd_le d
  have hk : V.known (markd d : Int) = true := (V.known_iff _).2 ⟨by omega, by omega⟩
  have hl := base_len h
  unfold V.at_
  rw [if_pos hk, show ((markd d : Int) - 1).toNat = markd d - 1 by omega, markv, List.getD_eq_getElem?_getD, List.getElem?_set_self (by omega)]
  rfl
theorem mark_right {a : List Nat} (h : a.length = 4) (d : Int) : right (markv a d) (markd d : Int) = true := by
  rw [right, markv_right h, markv_at h]
  simp
theorem mark_ok {a : List Nat} (h : V.Ok a) (d : Int) (own : Bool) : V.Ok (mark a d own).1 := by
  unfold mark
  split
  · exact markv_ok h.len d
  · exact h
end Go.Proofs.Ytkiaehehckmpnaa.T
