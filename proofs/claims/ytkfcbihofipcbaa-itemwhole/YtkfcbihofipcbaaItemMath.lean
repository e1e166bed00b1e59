/- The plain mathematics of writes and transactions; nothing of the program. -/
import Derived.Test.YtkfcbihofipcbaaStampMath

import Derived.Test.YtkfcbihofipcbaaCrcMath

import Derived.Test.YtkfcbihofipcbaaStampC

namespace Go.Proofs.Ytkfcbihofipcbaa.I

set_option linter.unusedVariables false

/-- a write: bucket, key, value, and if it is gone -/
abbrev Wt := ByteArray × ByteArray × ByteArray × Bool
def none_ : Wt := (⟨#[]⟩, ⟨#[]⟩, ⟨#[]⟩, false)
/-- texts that a machine holds -/
structure Ok (x : Wt) : Prop where
  b : x.1.size ≤ 140737488355328
  k : x.2.1.size ≤ 140737488355328
  v : x.2.2.1.size ≤ 140737488355328
def right (x : Wt) : Bool := decide (1 ≤ x.1.size ∧ x.1.size ≤ 16 ∧ 1 ≤ x.2.1.size ∧ x.2.1.size ≤ 16 ∧ x.2.2.1.size ≤ 32) && (!x.2.2.2 || decide (x.2.2.1.size = 0))
def size (x : Wt) : Nat := if x.2.2.2 = true then 0 else x.1.size + x.2.1.size + x.2.2.1.size
def key (x : Wt) : ByteArray × ByteArray := (x.1, x.2.1)
/-- no key of the first n writes is that of the i-th -/
def apart (L : List Wt) (i n : Nat) : Bool := (List.range n).all fun k => !decide (key (L.getD k none_) = key (L.getD i none_))
/-- the first n writes are right, no two of one key -/
def okTo (L : List Wt) (n : Nat) : Bool := (List.range n).all fun i => right (L.getD i none_) && apart L i i
def whole (a : List Nat) (d : Int) (L : List Wt) : Bool := T.right a d && (decide (1 ≤ L.length ∧ L.length ≤ 8) && okTo L L.length)
def same (a : List Nat) (d : Int) (L : List Wt) (b : List Nat) (e : Int) (M : List Wt) : Bool := T.same a d b e && decide (L = M)
def text (s : ByteArray) : List UInt8 := P.vary s.size ++ s.data.toList
def shard (b k : ByteArray) (n : Int) : Int := if n < 1 then 1 else (((Cr.M.sum (text b ++ text k)).toNat : Int) % n) + 1
def of (L : List Wt) (s n : Int) : List Wt := L.filter fun x => decide (shard x.1 x.2.1 n = s)
def enc (x : Wt) : List UInt8 := text x.1 ++ text x.2.1 ++ (if x.2.2.2 = true then [1] else 0 :: text x.2.2.1)
def bytes (a : List Nat) (d : Int) (L : List Wt) : List UInt8 := T.put a d ++ P.numB L.length 1 ++ (L.map enc).flatten
def bytesS (a : List Nat) (d : Int) (L : List Wt) : ByteArray := if whole a d L = true then P.S (bytes a d L) else ⟨#[]⟩
theorem whole_some {a : List Nat} {d : Int} {L : List Wt} (h : whole a d L = true) : T.right a d = true ∧ 1 ≤ L.length ∧ L.length ≤ 8 ∧ okTo L L.length = true := by
  simp only [whole, Bool.and_eq_true, decide_eq_true_eq] at h
  exact ⟨h.1, h.2.1.1, h.2.1.2, h.2.2⟩
theorem okTo_right {L : List Wt} {n : Nat} (h : okTo L n = true) (j : Nat) (hj : j < n) : right (L.getD j none_) = true := by
  rw [okTo, List.all_eq_true] at h
  have := h j (List.mem_range.2 hj)
  rw [Bool.and_eq_true] at this
  exact this.1
/-- a law's write by its parts -/
def putW (x : Wt) (own : Bool) (K : Nat) : Wt := if own = true then (⟨#[98, UInt8.ofNat (48 + K % 2)]⟩, ⟨#[UInt8.ofNat (97 + K / 2 % 4)]⟩, if 224 ≤ K then ⟨#[]⟩ else x.2.2.1.extract 0 (min x.2.2.1.size 8), decide (224 ≤ K)) else x
/-- one write is read -/
def rdW (s : ByteArray) (b : Bool) : Wt × ByteArray × Bool :=
  if (P.RN (P.RT (P.RT s b 16).2.1 (P.RT s b 16).2.2 16).2.1 (P.RT (P.RT s b 16).2.1 (P.RT s b 16).2.2 16).2.2 1).1 = 1 then
    (((P.RT s b 16).1, (P.RT (P.RT s b 16).2.1 (P.RT s b 16).2.2 16).1, ⟨#[]⟩, true), (P.RN (P.RT (P.RT s b 16).2.1 (P.RT s b 16).2.2 16).2.1 (P.RT (P.RT s b 16).2.1 (P.RT s b 16).2.2 16).2.2 1).2)
  else (((P.RT s b 16).1, (P.RT (P.RT s b 16).2.1 (P.RT s b 16).2.2 16).1, (P.RT (P.RN (P.RT (P.RT s b 16).2.1 (P.RT s b 16).2.2 16).2.1 (P.RT (P.RT s b 16).2.1 (P.RT s b 16).2.2 16).2.2 1).2.1 (P.RN (P.RT (P.RT s b 16).2.1 (P.RT s b 16).2.2 16).2.1 (P.RT (P.RT s b 16).2.1 (P.RT s b 16).2.2 16).2.2 1).2.2 32).1, false),
    (P.RT (P.RN (P.RT (P.RT s b 16).2.1 (P.RT s b 16).2.2 16).2.1 (P.RT (P.RT s b 16).2.1 (P.RT s b 16).2.2 16).2.2 1).2.1 (P.RN (P.RT (P.RT s b 16).2.1 (P.RT s b 16).2.2 16).2.1 (P.RT (P.RT s b 16).2.1 (P.RT s b 16).2.2 16).2.2 1).2.2 32).2)
/-- so many writes are read, while they are fine -/
def rdWs : Nat → ByteArray → Bool → List Wt
  | 0, _, _ => []
  | k + 1, s, b => if b = true then [] else (rdW s b).1 :: rdWs k (rdW s b).2.1 (rdW s b).2.2
theorem rdWs_bad (k : Nat) (s : ByteArray) : rdWs k s true = [] := by cases k <;> rfl
theorem rdWs_step (k : Nat) (s : ByteArray) : rdWs (k + 1) s false = (rdW s false).1 :: rdWs k (rdW s false).2.1 (rdW s false).2.2 := rfl
/-- what is read off s, ahead of the look if it is that -/
def parse (s : ByteArray) : List Nat × Int × List Wt :=
  ((T.gets s false).1, (T.gets s false).2.1, rdWs (min (P.RN (T.gets s false).2.2.1 (T.gets s false).2.2.2 1).1 9) (P.RN (T.gets s false).2.2.1 (T.gets s false).2.2.2 1).2.1 (P.RN (T.gets s false).2.2.1 (T.gets s false).2.2.2 1).2.2)
/-- the transaction whose bytes s is, or none -/
def read (s : ByteArray) : List Nat × Int × List Wt × Bool :=
  if whole (parse s).1 (parse s).2.1 (parse s).2.2 = true ∧ bytesS (parse s).1 (parse s).2.1 (parse s).2.2 = s then ((parse s).1, (parse s).2.1, (parse s).2.2, true) else (V.zeros, 0, [], false)
theorem right_some {x : Wt} (h : right x = true) : 1 ≤ x.1.size ∧ x.1.size ≤ 16 ∧ 1 ≤ x.2.1.size ∧ x.2.1.size ≤ 16 ∧ x.2.2.1.size ≤ 32 ∧ (x.2.2.2 = true → x.2.2.1.size = 0) := by
  simp only [right, Bool.and_eq_true, decide_eq_true_eq, Bool.or_eq_true, Bool.not_eq_true'] at h
  obtain ⟨⟨h1, h2, h3, h4, h5⟩, h6⟩ := h
  refine ⟨h1, h2, h3, h4, h5, fun hg => ?_⟩
  rcases h6 with h6 | h6
  · rw [hg] at h6; cases h6
  · exact h6
theorem apart_step (L : List Wt) (i n : Nat) : apart L i (n + 1) = (apart L i n && !decide (key (L.getD n none_) = key (L.getD i none_))) := by
  simp [apart, List.range_succ]
theorem okTo_step (L : List Wt) (n : Nat) : okTo L (n + 1) = (okTo L n && (right (L.getD n none_) && apart L n n)) := by
  simp [okTo, List.range_succ]
theorem apart_not (L : List Wt) (i k n : Nat) (hk : k < n) (h : key (L.getD k none_) = key (L.getD i none_)) : apart L i n = false := by
  rw [apart, List.all_eq_false]
  exact ⟨k, List.mem_range.2 hk, by rw [decide_eq_true h]; decide⟩
theorem okTo_not (L : List Wt) (i n : Nat) (hi : i < n) (h : (right (L.getD i none_) && apart L i i) = false) : okTo L n = false := by
  rw [okTo, List.all_eq_false]
  exact ⟨i, List.mem_range.2 hi, by simp only [h]; decide⟩
theorem take_same (L M : List Wt) (j : Nat) (h : L.take j = M.take j) (h1 : j < L.length) (h2 : j < M.length) (e : L.getD j none_ = M.getD j none_) : L.take (j + 1) = M.take (j + 1) := by
  rw [List.take_succ_eq_append_getElem h1, List.take_succ_eq_append_getElem h2, h]
  rw [List.getD_eq_getElem?_getD, List.getElem?_eq_getElem h1, List.getD_eq_getElem?_getD, List.getElem?_eq_getElem h2] at e
  simp only [Option.getD_some] at e
  rw [e]
theorem shard_pos (b k : ByteArray) (n : Int) (h : 1 ≤ n) : 1 ≤ shard b k n ∧ shard b k n ≤ n := by
  unfold shard
  rw [if_neg (by omega)]
  have h1 := Int.emod_nonneg ((Cr.M.sum (text b ++ text k)).toNat : Int) (show n ≠ 0 by omega)
  have h2 := Int.emod_lt_of_pos ((Cr.M.sum (text b ++ text k)).toNat : Int) (show 0 < n by omega)
  omega
theorem filter_step (L : List Wt) (p : Wt → Bool) (j : Nat) (h : j < L.length) : (L.take (j + 1)).filter p = (L.take j).filter p ++ (if p (L.getD j none_) = true then [L.getD j none_] else []) := by
  rw [List.take_succ_eq_append_getElem h, List.filter_append, List.getD_eq_getElem?_getD, List.getElem?_eq_getElem h, Option.getD_some]
  congr 1
  simp only [List.filter_cons, List.filter_nil]
theorem enc_step (L : List Wt) (j : Nat) (h : j < L.length) : ((L.take (j + 1)).map enc).flatten = ((L.take j).map enc).flatten ++ enc (L.getD j none_) := by
  rw [List.take_succ_eq_append_getElem h, List.map_append, List.flatten_append, List.getD_eq_getElem?_getD, List.getElem?_eq_getElem h, Option.getD_some]
  simp
theorem text_len (s : ByteArray) : (text s).length ≤ s.size + 10 := by
  unfold text
  have := P.vary_le s.size
  rw [List.length_append, P.len_list]
  omega
end Go.Proofs.Ytkfcbihofipcbaa.I
