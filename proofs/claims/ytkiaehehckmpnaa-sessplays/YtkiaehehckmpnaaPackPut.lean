/- The contracts of pack's writers. -/
import Derived.Test.YtkiaehehckmpnaaPackSmall

import Derived.Laws.BytesArg

import Derived.Laws.IdiomStrings

import Derived.Laws.OwnMore

import Derived.OwnWalk

namespace Go.Proofs.Ytkiaehehckmpnaa.Pk

open Go.RowKit

set_option linter.unusedVariables false

set_option linter.unusedSimpArgs false

theorem Try.info_u8 : (Try.prog.info? 5).map (fun i => (i.zero, i.size, i.bytes)) = some (some (.int .u8 0), 1, 1) := by kernel_rfl
/-- a list of bytes as cells -/
def u8s (l : List UInt8) : List Value := l.map fun b => .int .u8 (b.toNat : Int)
theorem u8s_length (l : List UInt8) : (u8s l).length = l.length := by simp [u8s]
theorem u8s_append (a b : List UInt8) : u8s (a ++ b) = u8s a ++ u8s b := by simp [u8s]
theorem u8s_set (l : List UInt8) (j : Nat) (x : UInt8) : u8s (l.set j x) = (u8s l).set j (.int .u8 (x.toNat : Int)) := by simp [u8s, List.map_set]
/-- the slice v is the call's own and holds the bytes l -/
def OB (w : World) (base : Nat) (v : Value) (l : List UInt8) : Prop := w.ownsRow base 5 1 v l.length (u8s l)

theorem OB.str {w : World} {base : Nat} {v : Value} {l : List UInt8} (h : OB w base v l) (hl : l ≠ []) :
    (convert 84 9 v).run Try.prog w = .ok (.string (P.S l)) w := by
  obtain ⟨h1, h2⟩ := h
  rcases h2 with ⟨rfl, h0⟩ | ⟨g, cap, cur, rfl, hb, hg, hn, hm, hs, ht⟩
  · exact absurd (List.length_eq_zero_iff.1 h0) hl
  · refine run_convert_bytes_back w 84 9 5 ⟨g, 0, none⟩ cap l Try.underlying84 Try.underlying5 Try.underlying9 ?_
    intro j hj
    have hown : w.ownsRow base 5 1 (.slice (some ⟨g, 0, none⟩) l.length cap) l.length (u8s l) := ⟨h1, .inr ⟨g, cap, cur, rfl, hb, hg, hn, hm, hs, ht⟩⟩
    refine hown.cells (g := g) rfl j _ ?_
    simp [u8s, hj]

theorem OB.cell {w : World} {base g cap n : Nat} {l : List UInt8} (h : OB w base (.slice (some ⟨g, 0, none⟩) n cap) l) (hn : l.length = n) (j : Nat) (hj : j < l.length) : w.cell? ⟨g, j, none⟩ = some (.int .u8 (l[j].toNat : Int)) := by
  subst hn
  rw [World.ownsRow.cellAt h j (by omega)]
  simp [u8s, hj]
theorem OB.free {w : World} {base g cap n : Nat} {l : List UInt8} (h : OB w base (.slice (some ⟨g, 0, none⟩) n cap) l) (hn : l.length = n) (j : Nat) : w.frozen? ⟨g, j, none⟩ = false := by
  subst hn
  exact World.ownsRow.frozenAt h j
theorem OB.set {w : World} {base g cap n : Nat} {l : List UInt8} (h : OB w base (.slice (some ⟨g, 0, none⟩) n cap) l) (hn : l.length = n) (j : Nat) (x : UInt8) :
    OB (w.setCell ⟨g, j, none⟩ (.int .u8 (x.toNat : Int))) base (.slice (some ⟨g, 0, none⟩) n cap) (l.set j x) := by
  subst hn
  have := (World.ownsRow.stored h j (.int .u8 (x.toNat : Int))).1
  show World.ownsRow _ _ _ _ _ _ _
  rw [u8s_set, List.length_set]
  exact this

theorem byte_of (n j : Nat) : (n : Int) / 2 ^ (8 * j) % 256 = ((UInt8.ofNat (n / 256 ^ j)).toNat : Int) := by
  rw [P.ofNat_toNat, show (256 : Nat) ^ j = 2 ^ (8 * j) by rw [Nat.pow_mul]]
  simp
theorem number_round (n k j : Nat) (h : j < k) : (List.replicate (k - j) (0 : UInt8) ++ P.numB n j).set (k - 1 - j) (UInt8.ofNat (n / 256 ^ j)) = List.replicate (k - (j + 1)) 0 ++ P.numB n (j + 1) := by
  have e : List.replicate (k - j) (0 : UInt8) = List.replicate (k - (j + 1)) 0 ++ [0] := by
    rw [show k - j = (k - (j + 1)) + 1 by omega, List.replicate_succ']
  have e2 : (List.replicate (k - (j + 1)) (0 : UInt8)).length = k - 1 - j := by simp; omega
  rw [e, List.append_assoc, ← e2, List.set_append_right _ _ (Nat.le_refl _), Nat.sub_self]
  rfl
theorem number_len (n k j : Nat) (h : j ≤ k) : (List.replicate (k - j) (0 : UInt8) ++ P.numB n j).length = k := by
  rw [List.length_append, List.length_replicate, P.numB_length]; omega

/-- Number, at any size -/
def numS (n : Nat) (k : Int) : ByteArray := if k < 1 ∨ 8 < k then ⟨#[]⟩ else P.S (P.numB n k.toNat)
theorem vary_make (w : World) : ∃ wm, (Instr.makeSlice 84 (.int .i64 0) (.int .i64 10)).run Try.prog w = .ok (.slice (some ⟨w.heap.size, 0, none⟩) 0 10) wm ∧
    OB wm w.heap.size (.slice (some ⟨w.heap.size, 0, none⟩) 0 10) [] ∧ Below w.heap.size w wm := by
  obtain ⟨i0, hi, hz0, hz1, hz2⟩ := info_parts Try.info_u8
  have hr := run_make (P := Try.prog) w 84 5 i0 (.int .u8 0) Try.underlying84 hi hz0 .i64 .i64 0 10 (by omega) (by omega) (by rw [hz2]; decide) (by decide)
  refine ⟨_, hr, ?_, (Below.refl _ _).alloc (Nat.le_refl _) _⟩
  exact World.ownsRow_made w _ 10 (Nat.le_refl _) (by unfold maxLen; omega) (by rw [size_madeCells, hz1]; rfl)

theorem OB.alloc {w : World} {base : Nat} {v : Value} {l : List UInt8} (h : OB w base v l) (o : Obj) : OB (w.alloc o) base v l := World.ownsRow.alloc h o
/-- append(bytes, b): the law of the kit, for bytes -/
theorem append_byte (w : World) {ops : Array Oper} {rest : List Oper} {o : Oper} {a : Act} {Q : Exit → Act → World → Prop} (hgd : o.guard = none) (s x : Operand)
    (ho : o.op = .call { callee := .builtin .append, args := #[s, x], argTypes := #[84, 84] })
    (base : Nat) (v : Value) (l : List UInt8) (hs : a.eval s = v) (hown : OB w base v l) (g : Nat) (hx : a.eval x = .slice (some ⟨g, 0, none⟩) 1 1) (q : Int) (b : UInt8)
    (hcell : w.cell? ⟨g, 0, none⟩ = some (.int .u8 q)) (hq : q = (b.toNat : Int)) (hl : l.length < 140737488355328) (hbase : base ≤ w.heap.size)
    (h : ∀ v' w', OB w' base v' (l ++ [b]) → Below base w w' → wpList Try.prog ops Q rest (a.put o.dst v') w') : wpList Try.prog ops Q (o :: rest) a w := by
  obtain ⟨i0, hi, hz0, hz1, hz2⟩ := info_parts Try.info_u8
  refine wpList_append_own w hgd s x 84 ho base 5 i0 (.int .u8 0) 1 1 Try.underlying84 hi hz0 hz1 hz2 rfl (by decide) v l.length (u8s l) hs hown ⟨g, 0, none⟩ 1 1 [.int .u8 q] hx rfl ?_ ?_ (by unfold maxLen; omega) (by omega) hbase ?_
  · intro j u hj
    match j, hj with
    | 0, hj => simp at hj; subst hj; simpa [Addr.add] using hcell
  · intro u hu; simp at hu; subst hu; rfl
  · intro v' w' h1 h2 _
    refine h v' w' ?_ ((Below.refl _ _).grown h2 hbase (fun k hk => (World.ownsRow.lt hown k hk).1))
    subst hq
    show World.ownsRow _ _ _ _ _ _ _
    rw [List.length_append, u8s_append]
    exact h1

theorem byte_hi (m : Nat) : (m : Int) % 128 + 128 = ((UInt8.ofNat (m % 128 + 128)).toNat : Int) := by
  rw [P.ofNat_toNat_lt _ (by omega)]; omega
theorem byte_lo (m : Nat) (h : m < 128) : (m : Int) = ((UInt8.ofNat m).toNat : Int) := by
  rw [P.ofNat_toNat_lt _ (by omega)]

/-- Text -/
def textS (s : ByteArray) : ByteArray := P.S (P.vary s.size) ++ s
theorem textS_list (s : ByteArray) : textS s = P.S (P.vary s.size ++ s.data.toList) := by
  unfold textS
  rw [← P.S_append, P.S_of]
theorem textS_size (s : ByteArray) : (textS s).size ≤ s.size + 10 ∧ s.size < (textS s).size := by
  rw [textS_list, P.S_size, List.length_append, P.len_list]
  have h1 := P.vary_le s.size
  have h2 := P.vary_pos s.size
  omega
end Go.Proofs.Ytkiaehehckmpnaa.Pk
