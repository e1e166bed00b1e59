/- vec: Text. -/
import Derived.Test.YtnmggefbajoadaaDoorVecOps

import Derived.Test.YtnmggefbajoadaaDoorVecFmt

namespace Go.Proofs.YtnmggefbajoadaaDoor.Vc

open Go.RowKit

set_option linter.unusedVariables false

set_option linter.unusedSimpArgs false

set_option maxRecDepth 100000

/-- the numbers in digits, with a comma between -/
def text (a : List Nat) : List UInt8 := Lib.join (a.map Fm.digs) [44]
def strs (a : List Nat) : List ByteArray := a.map fun x => P.S (Fm.digs x)
def cellsOf (a : List Nat) : List Value := a.map fun x => Value.string (P.S (Fm.digs x))
theorem cellsOf_len (a : List Nat) : (cellsOf a).length = a.length := by simp [cellsOf]
theorem strs_text (a : List Nat) : Lib.join ((strs a).map (·.data.toList)) (ByteArray.mk #[44]).data.toList = text a := by
  unfold text strs
  rw [List.map_map]
  congr 1
theorem text_len (a : List Nat) (h : V.Ok a) : (text a).length ≤ 100 := by
  obtain ⟨x, y, z, t, rfl⟩ := V.four h.len
  have h1 := Fm.digs_len x (h.lt x (by simp))
  have h2 := Fm.digs_len y (h.lt y (by simp))
  have h3 := Fm.digs_len z (h.lt z (by simp))
  have h4 := Fm.digs_len t (h.lt t (by simp))
  simp only [text, List.map_cons, List.map_nil, Lib.join, List.intercalate, List.intersperse_cons_cons, List.intersperse_singleton, List.flatten_cons, List.flatten_nil, List.length_append, List.length_cons, List.length_nil]
  omega
theorem Tryd.info_str : (Tryd.prog.info? 9).map (fun i => (i.zero, i.size, i.bytes)) = some (some (.string ⟨#[]⟩), 1, 16) := by kernel_rfl
/-- the slice v is the call's own and holds these texts -/
structure OS (w : World) (base : Nat) (v : Value) (a : List Nat) : Prop where
  own : w.ownsRow base 9 1 v a.length (cellsOf a)
theorem OS.below {w w' : World} {base : Nat} {v : Value} {a : List Nat} (h : OS w base v a) (hb : Below w.heap.size w w') : OS w' base v a := by
  obtain ⟨⟨hl, h0 | ⟨g, cap, cur, hv, hB, hh, r⟩⟩⟩ := h
  · exact ⟨⟨hl, .inl h0⟩⟩
  · have hg : g < w.heap.size := by
      rcases Nat.lt_or_ge g w.heap.size with h1 | h1
      · exact h1
      · rw [Array.getElem?_eq_none h1] at hh; cases hh
    exact ⟨⟨hl, .inr ⟨g, cap, cur, hv, hB, by rw [hb.block g hg]; exact hh, r⟩⟩⟩
theorem make_strs (w : World) : ∃ wm, (Instr.makeSlice 99 (.int .i64 0) (.int .i64 4)).run Tryd.prog w = .ok (.slice (some ⟨w.heap.size, 0, none⟩) 0 4) wm ∧
    OS wm w.heap.size (.slice (some ⟨w.heap.size, 0, none⟩) 0 4) [] ∧ Below w.heap.size w wm := by
  obtain ⟨i0, hi, hz0, hz1, hz2⟩ := info_parts Tryd.info_str
  have hr := run_make (P := Tryd.prog) w 99 9 i0 (.string ⟨#[]⟩) Tryd.underlying99 hi hz0 .i64 .i64 0 4 (by omega) (by omega) (by rw [hz2]; decide) (by decide)
  refine ⟨_, hr, ⟨?_⟩, (Below.refl _ _).alloc (Nat.le_refl _) _⟩
  exact World.ownsRow_made w _ 4 (Nat.le_refl _) (by unfold maxLen; omega) (by rw [size_madeCells, hz1]; rfl)
/-- append(digits, s) -/
theorem append_str (w : World) {ops : Array Oper} {rest : List Oper} {o : Oper} {a : Act} {Q : Exit → Act → World → Prop} (hgd : o.guard = none) (s x : Operand)
    (ho : o.op = .call { callee := .builtin .append, args := #[s, x], argTypes := #[99, 99] })
    (base : Nat) (v : Value) (l : List Nat) (hs : a.eval s = v) (hown : OS w base v l) (g : Nat) (hx : a.eval x = .slice (some ⟨g, 0, none⟩) 1 1) (b : Nat)
    (hcell : w.cell? ⟨g, 0, none⟩ = some (.string (P.S (Fm.digs b)))) (hl : l.length < 1000) (hbase : base ≤ w.heap.size)
    (h : ∀ v' w', OS w' base v' (l ++ [b]) → Below base w w' → wpList Tryd.prog ops Q rest (a.put o.dst v') w') : wpList Tryd.prog ops Q (o :: rest) a w := by
  obtain ⟨i0, hi, hz0, hz1, hz2⟩ := info_parts Tryd.info_str
  refine wpList_append_own w hgd s x 99 ho base 9 i0 (.string ⟨#[]⟩) 1 16 Tryd.underlying99 hi hz0 hz1 hz2 rfl (by decide) v l.length (cellsOf l) hs hown.own ⟨g, 0, none⟩ 1 1 [.string (P.S (Fm.digs b))] hx rfl ?_ ?_ (by unfold maxLen; omega) (by omega) hbase ?_
  · intro j u hj
    match j, hj with
    | 0, hj => simp at hj; subst hj; simpa [Addr.add] using hcell
  · intro u hu; simp at hu; subst hu; rfl
  · intro v' w' h1 h2 _
    refine h v' w' ⟨?_⟩ ((Below.refl _ _).grown h2 hbase (fun k hk => (World.ownsRow.lt hown.own k hk).1))
    rw [List.length_append, show cellsOf (l ++ [b]) = cellsOf l ++ [.string (P.S (Fm.digs b))] by simp [cellsOf]]
    exact h1
theorem OS.open {w : World} {base : Nat} {v : Value} {a : List Nat} (h : OS w base v a) (ha : a ≠ []) : ∃ g cap, v = .slice (some ⟨g, 0, none⟩) a.length cap ∧ a.length ≤ cap ∧ g < w.heap.size ∧ ∀ (j : Nat) x, (strs a)[j]? = some x → w.cell? ⟨g, 0 + j, none⟩ = some (.string x) := by
  obtain ⟨hl, h2⟩ := h.own
  have h' := h.own
  rcases h2 with ⟨rfl, h0⟩ | ⟨g, cap, cur, rfl, hb, hg, hn, hm, hs, ht⟩
  · exact absurd (List.length_eq_zero_iff.1 h0) ha
  · refine ⟨g, cap, rfl, hn, ?_, fun j x hx => ?_⟩
    · rcases Nat.lt_or_ge g w.heap.size with h1 | h1
      · exact h1
      · rw [Array.getElem?_eq_none h1] at hg; cases hg
    · rw [Nat.zero_add]
      have hcell := World.ownsRow.cells h' (g := g) rfl j (.string x) ?_
      · rwa [show (⟨g, 0, none⟩ : Addr).add j = ⟨g, j, none⟩ by unfold Addr.add; split <;> simp_all] at hcell
      simp only [strs, List.getElem?_map, Option.map_eq_some_iff] at hx
      obtain ⟨y, hy, rfl⟩ := hx
      simp [cellsOf, hy]
set_option maxHeartbeats 2000000 in
theorem text_walk (a : List Nat) (w : World) (ha : V.Ok a) (CF : Hid (∀ j u, j < 4 → Below w.heap.size w u → Calls Tryd.prog 65 #[.int .u64 (a.getD j 0 : Nat), .int .i64 10] u fun e u' => e = .returned (.string (P.S (Fm.digs (a.getD j 0)))) ∧ Below u.heap.size u u')) :
    Calls Tryd.prog 48 #[AV .u64 a] w fun e w' => e = .returned (.string (P.S (text a))) ∧ Below w.heap.size w w' := by
  have HA : Hid _ := ha.len
  have HI : Hid _ := size_v ha.len
  have HTL : Hid _ := text_len a ha
  have HST : Hid _ := strs_text a
  clear ha
  go_enter Tryd.func48, Tryd.ntmps48
  go_wp2_with (first | refine arr_box rfl .u64 24 _ rfl a rfl ?_)
  intro w1 A1 B1 Z1
  obtain ⟨wm, hmk, ho, hB⟩ := make_strs w1
  have HO : Hid (OS wm w1.heap.size (.slice (some ⟨w1.heap.size, 0, none⟩) 0 4) []) := ho
  have HA1 : Hid (Arr .u64 wm w.heap.size a) := A1.below hB (by omega)
  have HB1 : Hid (Below w.heap.size w w1) := B1
  have HBm : Hid (Below w1.heap.size w1 wm) := hB
  rw [Z1] at HO
  clear A1 B1 ho hB
  have hz1 := Z1
  go_wp2_with (first | refine arr_load rfl .u64 24 _ rfl w.heap.size rfl a HA1.out 4 22 Tryd.underlying24 HI.out ?_)
  have HB0 : Hid (Below w.heap.size w wm) := Below.trans HB1.out (HBm.out.mono (by omega))
  have HZ0 : Hid (w.heap.size + 1 ≤ wm.heap.size) := by have := HBm.out.size; show _ ≤ _; omega
  clear HA1 HB1 HBm hmk Z1 hz1
  go_loopw [3, 8] (fun v i wr => ∃ j : Nat, j ≤ 4 ∧ i = .int .i64 j ∧ Hid (OS wr (w.heap.size + 1) v (a.take j)) ∧ Hid (Below w.heap.size w wr) ∧ Hid (w.heap.size + 1 ≤ wr.heap.size)) (fun _ i _ => 4 - (intOf i).toNat)
  case atStart => exact ⟨0, by omega, rfl, HO, HB0, HZ0⟩
  case round =>
    obtain ⟨j, hj, rfl, HOr, HBr, HZr⟩ := hrel
    clear HO HB0 HZ0
    by_cases hlt : j < 4
    · have ilt : (j : Int) < 4 := by omega
      have hix : ∀ w, (Instr.index 24 (AV .u64 a) (.int .i64 (j : Int))).run Tryd.prog w = .ok (.int .u64 ((a.getD j 0 : Nat) : Int)) w := fun w => index_v a j HA.out hlt w
      have C := Lib.hid (CF.out j wr hlt HBr.out)
      have HTS : Hid (a.take (j + 1) = a.take j ++ [a.getD j 0]) := V.take_step a j (by rw [HA.out]; exact hlt)
      have hlen : (a.take j).length < 1000 := by rw [List.length_take]; omega
      generalize a.getD j 0 = y at *
      go_wp2_with fail
      refine C.out.mono ?_; rintro e w2 ⟨rfl, hb2⟩
      have HO2 := Lib.hid (OS.below HOr.out hb2)
      have HB2 : Hid (Below w.heap.size w w2) := Below.trans HBr.out (hb2.mono HBr.out.size)
      have hz2 : w.heap.size + 1 ≤ w2.heap.size := Nat.le_trans HZr.out hb2.size
      clear hb2
      go_wp2_with (at_builtin; refine append_str _ rfl _ _ rfl (w.heap.size + 1) _ (a.take j) rfl (OS.below HO2.out ((Below.refl _ _).alloc (Nat.le_refl _) _)) w2.heap.size rfl y ?c1 ?c2 ?c3 ?_)
      case c1 => simp [go_sem]
      case c2 => exact hlen
      case c3 => simp; omega
      intro v' w3 ho hb
      have HO3 : Hid (OS w3 (w.heap.size + 1) v' (a.take (j + 1))) := by show OS _ _ _ _; rw [HTS.out]; exact ho
      have HB3 : Hid (Below w.heap.size w w3) := (Below.alloc HB2.out (by omega) _).trans (hb.mono (by omega))
      have HZ3 : Hid (w.heap.size + 1 ≤ w3.heap.size) := by have := hb.size; simp at this; show _ ≤ _; omega
      clear ho hb
      go_wp2_with fail
      go_roundw
      case rel => exact ⟨j + 1, by omega, by go_num, HO3, HB3, HZ3⟩
      case measure => simp [intOf]; omega
    · obtain rfl : j = 4 := by omega
      have hta : a.take 4 = a := List.take_of_length_le (by rw [HA.out]; exact Nat.le_refl _)
      rw [hta] at HOr
      have hne : a ≠ [] := by intro e; have := HA.out; rw [e] at this; cases this
      obtain ⟨g, cap, rfl, hcap, hg, hcs⟩ := OS.open HOr.out hne
      have hsl : (strs a).length = 4 := by unfold strs; rw [List.length_map]; exact HA.out
      have CJ := Tryd.strings_Join g 0 cap (strs a) ⟨#[44]⟩ wr hcs hg (by rw [hsl]; omega) (by rw [hsl]; have := HA.out; omega) (by rw [strs_text]; have := HTL.out; omega)
      rw [hsl, strs_text] at CJ
      have HCJ := Lib.hid CJ
      rw [HA.out]
      clear CJ hcs hcap hg hsl hta hne
      go_wp2_with fail
      refine HCJ.out.mono ?_; rintro e w2 ⟨rfl, hb2⟩
      have HB2 : Hid (Below w.heap.size w w2) := Below.trans HBr.out (hb2.mono HBr.out.size)
      clear hb2
      go_wp2_with fail
      go_ret
      exact ⟨rfl, HB2.out⟩
/-- Text, where the table lies -/
theorem text_any (a : List Nat) (w : World) (ha : V.Ok a) (hT : Fm.Tab w) :
    Calls Tryd.prog 48 #[AV .u64 a] w fun e w' => e = .returned (.string (P.S (text a))) ∧ Below w.heap.size w w' :=
  text_walk a w ha fun j u _ hb => Fm.fmt_any _ (V.getD_lt ha j) u (hT.below hb)
/-- Text of small numbers: no table is read -/
theorem text_small (a : List Nat) (w : World) (ha : V.Ok a) (hs : ∀ j, j < 4 → a.getD j 0 < 100) :
    Calls Tryd.prog 48 #[AV .u64 a] w fun e w' => e = .returned (.string (P.S (text a))) ∧ Below w.heap.size w w' :=
  text_walk a w ha fun j u hj _ => Fm.fmt_small _ (hs j hj) u
end Go.Proofs.YtnmggefbajoadaaDoor.Vc
