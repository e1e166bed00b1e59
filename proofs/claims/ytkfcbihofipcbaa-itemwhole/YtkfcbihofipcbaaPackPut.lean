/- The contracts of pack's writers. -/
import Derived.Test.YtkfcbihofipcbaaPackSmall

import Derived.Laws.BytesArg

import Derived.Laws.IdiomStrings

import Derived.Laws.OwnMore

import Derived.OwnWalk

namespace Go.Proofs.Ytkfcbihofipcbaa.Pk

open Go.RowKit

set_option linter.unusedVariables false

set_option linter.unusedSimpArgs false

theorem Try.info_u8 : (Try.prog.info? 5).map (fun i => (i.zero, i.size, i.bytes)) = some (some (.int .u8 0), 1, 1) := by kernel_rfl
/-- a list of bytes as cells -/
def u8s (l : List UInt8) : List Value := l.map fun b => .int .u8 (b.toNat : Int)
theorem u8s_length (l : List UInt8) : (u8s l).length = l.length := by simp [u8s]
theorem u8s_append (a b : List UInt8) : u8s (a ++ b) = u8s a ++ u8s b := by simp [u8s]
theorem u8s_set (l : List UInt8) (j : Nat) (x : UInt8) : u8s (l.set j x) = (u8s l).set j (.int .u8 (x.toNat : Int)) := by simp [u8s, List.map_set]
/-- the slice v is the call's own and holds the bytes l -/
def OB (w : World) (base : Nat) (v : Value) (l : List UInt8) : Prop := w.ownsRow base 5 1 v l.length (u8s l)

theorem OB.str {w : World} {base : Nat} {v : Value} {l : List UInt8} (h : OB w base v l) (hl : l ≠ []) :
    (convert 76 9 v).run Try.prog w = .ok (.string (P.S l)) w := by
  obtain ⟨h1, h2⟩ := h
  rcases h2 with ⟨rfl, h0⟩ | ⟨g, cap, cur, rfl, hb, hg, hn, hm, hs, ht⟩
  · exact absurd (List.length_eq_zero_iff.1 h0) hl
  · refine run_convert_bytes_back w 76 9 5 ⟨g, 0, none⟩ cap l Try.underlying76 Try.underlying5 Try.underlying9 ?_
    intro j hj
    have hown : w.ownsRow base 5 1 (.slice (some ⟨g, 0, none⟩) l.length cap) l.length (u8s l) := ⟨h1, .inr ⟨g, cap, cur, rfl, hb, hg, hn, hm, hs, ht⟩⟩
    refine hown.cells (g := g) rfl j _ ?_
    simp [u8s, hj]

theorem OB.cell {w : World} {base g cap n : Nat} {l : List UInt8} (h : OB w base (.slice (some ⟨g, 0, none⟩) n cap) l) (hn : l.length = n) (j : Nat) (hj : j < l.length) : w.cell? ⟨g, j, none⟩ = some (.int .u8 (l[j].toNat : Int)) := by
  subst hn
  rw [World.ownsRow.cellAt h j (by omega)]
  simp [u8s, hj]
theorem OB.free {w : World} {base g cap n : Nat} {l : List UInt8} (h : OB w base (.slice (some ⟨g, 0, none⟩) n cap) l) (hn : l.length = n) (j : Nat) : w.frozen? ⟨g, j, none⟩ = false := by
  subst hn
  exact World.ownsRow.frozenAt h j
theorem OB.set {w : World} {base g cap n : Nat} {l : List UInt8} (h : OB w base (.slice (some ⟨g, 0, none⟩) n cap) l) (hn : l.length = n) (j : Nat) (x : UInt8) :
    OB (w.setCell ⟨g, j, none⟩ (.int .u8 (x.toNat : Int))) base (.slice (some ⟨g, 0, none⟩) n cap) (l.set j x) := by
  subst hn
  have := (World.ownsRow.stored h j (.int .u8 (x.toNat : Int))).1
  show World.ownsRow _ _ _ _ _ _ _
  rw [u8s_set, List.length_set]
  exact this

theorem sizedk (k : Nat) (w : World) (h1 : 1 ≤ k) (h2 : k ≤ 8) :
    Calls Try.prog 58 #[.int .i64 k] w fun e w' => e = .returned (.bool true) ∧ w' = w := sized_yes k w (by omega) (by omega)
theorem byte_of (n j : Nat) : (n : Int) / 2 ^ (8 * j) % 256 = ((UInt8.ofNat (n / 256 ^ j)).toNat : Int) := by
  rw [P.ofNat_toNat, show (256 : Nat) ^ j = 2 ^ (8 * j) by rw [Nat.pow_mul]]
  simp
theorem number_round (n k j : Nat) (h : j < k) : (List.replicate (k - j) (0 : UInt8) ++ P.numB n j).set (k - 1 - j) (UInt8.ofNat (n / 256 ^ j)) = List.replicate (k - (j + 1)) 0 ++ P.numB n (j + 1) := by
  have e : List.replicate (k - j) (0 : UInt8) = List.replicate (k - (j + 1)) 0 ++ [0] := by
    rw [show k - j = (k - (j + 1)) + 1 by omega, List.replicate_succ']
  have e2 : (List.replicate (k - (j + 1)) (0 : UInt8)).length = k - 1 - j := by simp; omega
  rw [e, List.append_assoc, ← e2, List.set_append_right _ _ (Nat.le_refl _), Nat.sub_self]
  rfl
theorem number_len (n k j : Nat) (h : j ≤ k) : (List.replicate (k - j) (0 : UInt8) ++ P.numB n j).length = k := by
  rw [List.length_append, List.length_replicate, P.numB_length]; omega

set_option maxHeartbeats 400000 in
theorem number_ok (n k : Nat) (w : World) (hn : n < 2 ^ 64) (h1 : 1 ≤ k) (h8 : k ≤ 8) :
    Calls Try.prog 36 #[.int .u64 n, .int .i64 k] w fun e w' => e = .returned (.string (P.S (P.numB n k))) ∧ Below w.heap.size w w' := by
  have HN : Hid _ := hn
  clear hn
  obtain ⟨i0, hi, hz0, hz1, hz2⟩ := info_parts Try.info_u8
  obtain ⟨wm, hmk, hown, hgr⟩ := run_make_full (P := Try.prog) w w.heap.size 76 5 i0 (.int .u8 0) 1 Try.underlying76 hi hz0 hz1 .i64 .i64 k (by rw [hz2]; omega) (by unfold maxLen; omega) (Nat.le_refl _)
  have hB : Below w.heap.size w wm := (Below.refl _ _).grown hgr (Nat.le_refl _) (fun k h => by cases h)
  clear hi hz0 hz1 hz2 hgr
  have HO : Hid (OB wm w.heap.size (.slice (some ⟨w.heap.size, 0, none⟩) k k) (List.replicate (k - 0) 0 ++ P.numB n 0)) := by
    show World.ownsRow _ _ _ _ _ _ _
    have e : (madeCells (Value.int .u8 0).cells (k * 1)).toList = u8s (List.replicate (k - 0) 0 ++ P.numB n 0) := by
      show (madeCells #[Value.int .u8 0] (k * 1)).toList = _
      rw [toList_madeCells_one]
      simp [u8s, P.numB]
    rw [e] at hown
    simpa [P.numB] using hown
  clear hown
  go_enter Try.func36, Try.ntmps36
  go_wp2_with fail
  refine (sizedk _ _ h1 h8).mono ?_; rintro e w1 ⟨rfl, rfl⟩
  go_wp2_with fail
  go_loopw [13] (fun i wr => ∃ j : Nat, j ≤ k ∧ i = .int .i64 j ∧ Hid (OB wr w1.heap.size (.slice (some ⟨w1.heap.size, 0, none⟩) k k) (List.replicate (k - j) 0 ++ P.numB n j)) ∧ Below w1.heap.size w1 wr) (fun i _ => k - (intOf i).toNat)
  case atStart => exact ⟨0, by omega, rfl, HO, hB⟩
  case round =>
    obtain ⟨j, hj, rfl, HR, hbr⟩ := hrel
    have HL : Hid _ := number_len n k j hj
    by_cases hlt : j < k
    · have hc := HR.out.cell HL.out (k - 1 - j) (by rw [HL.out]; omega)
      have hf := HR.out.free HL.out (k - 1 - j)
      have HX := HR.out.set HL.out (k - 1 - j) (UInt8.ofNat (n / 256 ^ j))
      rw [number_round n k j hlt, ← byte_of] at HX
      have HX' : Hid _ := HX
      generalize (List.replicate (k - j) 0 ++ P.numB n j)[k - 1 - j]'(by rw [HL.out]; omega) = old at hc
      have HB : Hid _ := hbr
      clear HX hbr hB hmk
      go_wp2_with fail
      go_roundw
      case rel => exact ⟨j + 1, by omega, by go_num, HX', HB.out.setCell (by exact Nat.le_refl _) _⟩
      case measure => simp [intOf]; omega
    · obtain rfl : j = k := by omega
      have hs := HR.out.str (by intro e; have := HL.out; rw [e] at this; simp at this; omega)
      rw [Nat.sub_self, List.replicate_zero, List.nil_append] at hs
      have HB : Hid _ := hbr
      clear hbr hB hmk
      go_wp2_with fail
      go_ret
      exact ⟨rfl, HB.out⟩

set_option maxHeartbeats 400000 in
theorem number_no (n k : Int) (w : World) (h : k < 1 ∨ 8 < k) :
    Calls Try.prog 36 #[.int .u64 n, .int .i64 k] w fun e w' => e = .returned (.string ⟨#[]⟩) ∧ w' = w := by
  go_enter Try.func36, Try.ntmps36
  go_wp2_with fail
  refine (sized_no _ _ h).mono ?_; rintro e w1 ⟨rfl, rfl⟩
  go_wp2_with fail
  go_ret
  exact ⟨rfl, rfl⟩

/-- Number, at any size -/
def numS (n : Nat) (k : Int) : ByteArray := if k < 1 ∨ 8 < k then ⟨#[]⟩ else P.S (P.numB n k.toNat)
theorem number_any (n : Nat) (k : Int) (w : World) (hn : n < 2 ^ 64) :
    Calls Try.prog 36 #[.int .u64 n, .int .i64 k] w fun e w' => e = .returned (.string (numS n k)) ∧ Below w.heap.size w w' := by
  unfold numS
  by_cases h : k < 1 ∨ 8 < k
  · rw [if_pos h]
    refine (number_no n k w h).mono ?_
    rintro e w' ⟨rfl, rfl⟩
    exact ⟨rfl, Below.refl _ _⟩
  · rw [if_neg h]
    obtain ⟨j, rfl⟩ := Int.eq_ofNat_of_zero_le (show 0 ≤ k by omega)
    rw [Int.toNat_natCast]
    exact number_ok n j w hn (by omega) (by omega)

theorem vary_make (w : World) : ∃ wm, (Instr.makeSlice 76 (.int .i64 0) (.int .i64 10)).run Try.prog w = .ok (.slice (some ⟨w.heap.size, 0, none⟩) 0 10) wm ∧
    OB wm w.heap.size (.slice (some ⟨w.heap.size, 0, none⟩) 0 10) [] ∧ Below w.heap.size w wm := by
  obtain ⟨i0, hi, hz0, hz1, hz2⟩ := info_parts Try.info_u8
  have hr := run_make (P := Try.prog) w 76 5 i0 (.int .u8 0) Try.underlying76 hi hz0 .i64 .i64 0 10 (by omega) (by omega) (by rw [hz2]; decide) (by decide)
  refine ⟨_, hr, ?_, (Below.refl _ _).alloc (Nat.le_refl _) _⟩
  exact World.ownsRow_made w _ 10 (Nat.le_refl _) (by unfold maxLen; omega) (by rw [size_madeCells, hz1]; rfl)

theorem OB.alloc {w : World} {base : Nat} {v : Value} {l : List UInt8} (h : OB w base v l) (o : Obj) : OB (w.alloc o) base v l := World.ownsRow.alloc h o
/-- append(bytes, b): the law of the kit, for bytes -/
theorem append_byte (w : World) {ops : Array Oper} {rest : List Oper} {o : Oper} {a : Act} {Q : Exit → Act → World → Prop} (hgd : o.guard = none) (s x : Operand)
    (ho : o.op = .call { callee := .builtin .append, args := #[s, x], argTypes := #[76, 76] })
    (base : Nat) (v : Value) (l : List UInt8) (hs : a.eval s = v) (hown : OB w base v l) (g : Nat) (hx : a.eval x = .slice (some ⟨g, 0, none⟩) 1 1) (q : Int) (b : UInt8)
    (hcell : w.cell? ⟨g, 0, none⟩ = some (.int .u8 q)) (hq : q = (b.toNat : Int)) (hl : l.length < 140737488355328) (hbase : base ≤ w.heap.size)
    (h : ∀ v' w', OB w' base v' (l ++ [b]) → Below base w w' → wpList Try.prog ops Q rest (a.put o.dst v') w') : wpList Try.prog ops Q (o :: rest) a w := by
  obtain ⟨i0, hi, hz0, hz1, hz2⟩ := info_parts Try.info_u8
  refine wpList_append_own w hgd s x 76 ho base 5 i0 (.int .u8 0) 1 1 Try.underlying76 hi hz0 hz1 hz2 rfl (by decide) v l.length (u8s l) hs hown ⟨g, 0, none⟩ 1 1 [.int .u8 q] hx rfl ?_ ?_ (by unfold maxLen; omega) (by omega) hbase ?_
  · intro j u hj
    match j, hj with
    | 0, hj => simp at hj; subst hj; simpa [Addr.add] using hcell
  · intro u hu; simp at hu; subst hu; rfl
  · intro v' w' h1 h2 _
    refine h v' w' ?_ ((Below.refl _ _).grown h2 hbase (fun k hk => (World.ownsRow.lt hown k hk).1))
    subst hq
    show World.ownsRow _ _ _ _ _ _ _
    rw [List.length_append, u8s_append]
    exact h1

theorem byte_hi (m : Nat) : (m : Int) % 128 + 128 = ((UInt8.ofNat (m % 128 + 128)).toNat : Int) := by
  rw [P.ofNat_toNat_lt _ (by omega)]; omega
theorem byte_lo (m : Nat) (h : m < 128) : (m : Int) = ((UInt8.ofNat m).toNat : Int) := by
  rw [P.ofNat_toNat_lt _ (by omega)]

set_option maxHeartbeats 400000 in
set_option maxRecDepth 100000 in
theorem vary_any (n : Nat) (w : World) (hn : n < 2 ^ 64) :
    Calls Try.prog 66 #[.int .u64 n] w fun e w' => e = .returned (.string (P.S (P.vary n))) ∧ Below w.heap.size w w' := by
  have HN : Hid _ := hn
  clear hn
  obtain ⟨wm, hmk, ho, hB⟩ := vary_make w
  have HO : Hid _ := ho
  clear ho
  go_enter Try.func66, Try.ntmps66
  go_wp2_with fail
  go_loopw [3, 0] (fun v t wr => ∃ (f m : Nat) (l : List UInt8), t = .int .u64 m ∧ Hid (OB wr w.heap.size v l) ∧ Hid (l ++ P.varyF f m = P.vary n) ∧ Hid (m < 2 ^ (7 * f + 1)) ∧ Hid (l.length + f = 9) ∧ Below w.heap.size w wr) (fun _ t _ => (intOf t).toNat)
  case atStart => exact ⟨9, n, [], rfl, HO, rfl, HN, rfl, hB⟩
  case round =>
    obtain ⟨f, m, l, rfl, HR, HV, HM, HF, hbr⟩ := hrel
    have hz := hbr.size
    have HB : Hid _ := hbr
    clear hB hmk hbr
    have hl : l.length < 140737488355328 := by have := HF.out; omega
    by_cases hlt : m < 128
    · have HD : Hid (l ++ [UInt8.ofNat m] = P.vary n) := by rw [← HV.out, P.varyF_lt _ _ hlt]; rfl
      have HQ : Hid _ := byte_lo m hlt
      generalize UInt8.ofNat m = c at HD HQ
      go_wp2_with (at_builtin; refine append_byte _ rfl _ _ rfl w.heap.size _ l rfl (HR.out.alloc _) wr.heap.size rfl _ c ?c1 HQ.out ?c2 ?c3 ?_)
      case c1 => simp [go_sem]
      case c2 => exact hl
      case c3 => simp; omega
      intro v' w1 ho hb
      have hs := ho.str (by simp)
      rw [HD.out] at hs
      have HB1 : Hid _ := (HB.out.alloc (by omega) _).trans hb
      clear ho hb
      go_wp2_with fail
      go_ret
      exact ⟨rfl, HB1.out⟩
    · obtain ⟨f, rfl⟩ : ∃ g, f = g + 1 := by
        cases f with
        | zero => have := HM.out; simp at this; omega
        | succ g => exact ⟨g, rfl⟩
      have HD : Hid ((l ++ [UInt8.ofNat (m % 128 + 128)]) ++ P.varyF f (m / 128) = P.vary n) := by
        rw [← HV.out, P.varyF_ge _ _ hlt]; simp [Hid]
      have HE : Hid (m / 128 < 2 ^ (7 * f + 1)) := by
        have := HM.out
        show _ < _
        rw [Nat.div_lt_iff_lt_mul (by omega)]
        have e : 2 ^ (7 * (f + 1) + 1) = 2 ^ (7 * f + 1) * 128 := by
          rw [show 7 * (f + 1) + 1 = (7 * f + 1) + 7 by omega, Nat.pow_add]
        omega
      have HQ : Hid _ := byte_hi m
      generalize UInt8.ofNat (m % 128 + 128) = c at HD HQ
      go_wp2_with (at_builtin; refine append_byte _ rfl _ _ rfl w.heap.size _ l rfl (HR.out.alloc _) wr.heap.size rfl _ c ?c1 HQ.out ?c2 ?c3 ?_)
      case c1 => simp [go_sem]
      case c2 => exact hl
      case c3 => simp; omega
      intro v' w1 ho hb
      have HB1 : Hid _ := (HB.out.alloc (by omega) _).trans hb
      have HO1 : Hid _ := ho
      clear ho hb
      go_wp2_with fail
      go_roundw
      case rel => exact ⟨f, m / 128, l ++ [c], by go_num, HO1, HD, HE, by have := HF.out; simp [Hid]; omega, HB1.out⟩
      case measure => simp [intOf]; omega

/-- Text -/
def textS (s : ByteArray) : ByteArray := P.S (P.vary s.size) ++ s
theorem textS_list (s : ByteArray) : textS s = P.S (P.vary s.size ++ s.data.toList) := by
  unfold textS
  rw [← P.S_append, P.S_of]
theorem textS_size (s : ByteArray) : (textS s).size ≤ s.size + 10 ∧ s.size < (textS s).size := by
  rw [textS_list, P.S_size, List.length_append, P.len_list]
  have h1 := P.vary_le s.size
  have h2 := P.vary_pos s.size
  omega
set_option maxHeartbeats 400000 in
theorem text_any (s : ByteArray) (w : World) (hs : s.size ≤ 4611686018427387904) :
    Calls Try.prog 50 #[.string s] w fun e w' => e = .returned (.string (textS s)) ∧ Below w.heap.size w w' := by
  have C : Hid _ := fun w => vary_any s.size w (by omega)
  have hsz : (P.S (P.vary s.size)).size ≤ 10 := by rw [P.S_size]; exact P.vary_le _
  have HT : Hid (P.S (P.vary s.size) ++ s = textS s) := rfl
  generalize P.S (P.vary s.size) = v at *
  go_enter Try.func50, Try.ntmps50
  go_wp2_with fail
  refine (C.out _).mono ?_; rintro e w1 ⟨rfl, hb⟩
  go_wp2_with fail
  go_ret
  rw [HT.out]
  exact ⟨rfl, hb⟩
end Go.Proofs.Ytkfcbihofipcbaa.Pk
