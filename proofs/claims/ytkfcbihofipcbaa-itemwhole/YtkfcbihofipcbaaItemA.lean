/- The program's item: named, Right, Size, Shard. -/
import Derived.Test.YtkfcbihofipcbaaItemRB

import Derived.Test.YtkfcbihofipcbaaItemMath

import Derived.Test.YtkfcbihofipcbaaItemEq

namespace Go.Proofs.Ytkfcbihofipcbaa.It

open Go.RowKit Go.Proofs.Ytkfcbihofipcbaa.Vc Go.Proofs.Ytkfcbihofipcbaa.Sp

set_option linter.unusedVariables false

set_option linter.unusedSimpArgs false

set_option maxRecDepth 100000

set_option maxHeartbeats 1000000 in
theorem named_any (s : ByteArray) (w : World) :
    Calls Try.prog 42 #[.string s] w fun e w' => e = .returned (.bool (decide (1 ≤ s.size ∧ s.size ≤ 16))) ∧ w' = w := by
  by_cases h1 : 1 ≤ s.size
  · have i1 : (1 : Int) ≤ (s.size : Int) := by omega
    by_cases h2 : s.size ≤ 16
    · have i2 : (s.size : Int) ≤ 16 := by omega
      rw [decide_eq_true (show 1 ≤ s.size ∧ s.size ≤ 16 from ⟨h1, h2⟩)]
      go_enter Try.func42, Try.ntmps42
      go_wp2_with fail
      go_ret
      exact ⟨rfl, rfl⟩
    · have i2 : decide ((s.size : Int) ≤ 16) = false := by simp; omega
      rw [decide_eq_false (show ¬ (1 ≤ s.size ∧ s.size ≤ 16) from fun h => h2 h.2)]
      go_enter Try.func42, Try.ntmps42
      go_wp2_with fail
      go_ret
      exact ⟨rfl, rfl⟩
  · have i1 : decide ((1 : Int) ≤ (s.size : Int)) = false := by simp; omega
    rw [decide_eq_false (show ¬ (1 ≤ s.size ∧ s.size ≤ 16) from fun h => h1 h.1)]
    go_enter Try.func42, Try.ntmps42
    go_wp2_with fail
    go_ret
    exact ⟨rfl, rfl⟩
set_option maxHeartbeats 4000000 in
theorem wright_any (x : I.Wt) (w : World) :
    Calls Try.prog 18 #[WV x] w fun e w' => e = .returned (.bool (I.right x)) ∧ Below w.heap.size w w' := by
  obtain ⟨b, k, v, g⟩ := x
  obtain ⟨r, HR⟩ : ∃ r, Hid (I.right (b, k, v, g) = r) := ⟨_, rfl⟩
  rw [HR.out]
  have hR := HR.out
  unfold I.right at hR
  simp only at hR
  clear HR
  have CB := Lib.hid (fun w => named_any b w)
  have CK := Lib.hid (fun w => named_any k w)
  go_enter Try.func18, Try.ntmps18
  go_wp2_with (first | refine blk_box rfl 23 _ rfl [.string b, .string k, .string v, .bool g] rfl ?_)
  intro w1 A1 B1 Z1
  have HB1 : Hid (Below w.heap.size w w1) := B1
  have c0 := A1.cell 0 _ rfl
  have c1 := A1.cell 1 _ rfl
  have c2 := A1.cell 2 _ rfl
  have c3 := A1.cell 3 _ rfl
  clear A1 B1 Z1
  by_cases h12 : 1 ≤ b.size ∧ b.size ≤ 16
  · rw [decide_eq_true h12] at CB
    by_cases h34 : 1 ≤ k.size ∧ k.size ≤ 16
    · rw [decide_eq_true h34] at CK
      by_cases h5 : v.size ≤ 32
      · have i5 : (v.size : Int) ≤ 32 := by omega
        cases g with
        | false =>
          obtain rfl : true = r := by rw [← hR]; simp [h12, h34, h5]
          clear hR h12 h34
          go_wp2_with fail
          refine (CB.out _).mono ?_; rintro e w2 ⟨rfl, rfl⟩
          go_wp2_with fail
          refine (CK.out _).mono ?_; rintro e w3 ⟨rfl, rfl⟩
          go_wp2_with fail
          go_ret
          exact ⟨rfl, HB1.out⟩
        | true =>
          by_cases h6 : v.size = 0
          · obtain rfl : true = r := by rw [← hR]; simp [h12, h34, h6]
            have hE : v.toList.isEmpty = true := by
              rw [ByteArray.toList_eq, List.isEmpty_iff]
              exact List.eq_nil_of_length_eq_zero (by rw [P.len_list]; exact h6)
            clear hR h12 h34
            go_wp2_with fail
            refine (CB.out _).mono ?_; rintro e w2 ⟨rfl, rfl⟩
            go_wp2_with fail
            refine (CK.out _).mono ?_; rintro e w3 ⟨rfl, rfl⟩
            go_wp2_with fail
            go_ret
            exact ⟨rfl, HB1.out⟩
          · obtain rfl : false = r := by rw [← hR]; simp [h6]
            have hE := V.empty_not v h6
            clear hR h12 h34
            go_wp2_with fail
            go_ret
            exact ⟨rfl, HB1.out⟩
      · obtain rfl : false = r := by rw [← hR]; simp [h5]
        have i : decide ((v.size : Int) ≤ 32) = false := by simp; omega
        have h6 : v.size ≠ 0 := by omega
        have hE := V.empty_not v h6
        clear hR h12 h34 h5 h6
        cases g with
        | false =>
          go_wp2_with fail
          refine (CB.out _).mono ?_; rintro e w2 ⟨rfl, rfl⟩
          go_wp2_with fail
          refine (CK.out _).mono ?_; rintro e w3 ⟨rfl, rfl⟩
          go_wp2_with fail
          go_ret
          exact ⟨rfl, HB1.out⟩
        | true =>
          go_wp2_with fail
          go_ret
          exact ⟨rfl, HB1.out⟩
    · rw [decide_eq_false h34] at CK
      obtain rfl : false = r := by rw [← hR, decide_eq_false (show ¬ (1 ≤ b.size ∧ b.size ≤ 16 ∧ 1 ≤ k.size ∧ k.size ≤ 16 ∧ v.size ≤ 32) by omega)]; rfl
      clear hR h12 h34
      cases g with
      | false =>
        go_wp2_with fail
        refine (CB.out _).mono ?_; rintro e w2 ⟨rfl, rfl⟩
        go_wp2_with fail
        refine (CK.out _).mono ?_; rintro e w3 ⟨rfl, rfl⟩
        go_wp2_with fail
        go_ret
        exact ⟨rfl, HB1.out⟩
      | true =>
        cases hE : v.toList.isEmpty with
        | true =>
          go_wp2_with fail
          refine (CB.out _).mono ?_; rintro e w2 ⟨rfl, rfl⟩
          go_wp2_with fail
          refine (CK.out _).mono ?_; rintro e w3 ⟨rfl, rfl⟩
          go_wp2_with fail
          go_ret
          exact ⟨rfl, HB1.out⟩
        | false =>
          go_wp2_with fail
          go_ret
          exact ⟨rfl, HB1.out⟩
  · rw [decide_eq_false h12] at CB
    obtain rfl : false = r := by rw [← hR, decide_eq_false (show ¬ (1 ≤ b.size ∧ b.size ≤ 16 ∧ 1 ≤ k.size ∧ k.size ≤ 16 ∧ v.size ≤ 32) by omega)]; rfl
    clear hR h12
    cases g with
    | false =>
      go_wp2_with fail
      refine (CB.out _).mono ?_; rintro e w2 ⟨rfl, rfl⟩
      go_wp2_with fail
      go_ret
      exact ⟨rfl, HB1.out⟩
    | true =>
      cases hE : v.toList.isEmpty with
      | true =>
        go_wp2_with fail
        refine (CB.out _).mono ?_; rintro e w2 ⟨rfl, rfl⟩
        go_wp2_with fail
        go_ret
        exact ⟨rfl, HB1.out⟩
      | false =>
        go_wp2_with fail
        go_ret
        exact ⟨rfl, HB1.out⟩
set_option maxHeartbeats 1000000 in
theorem wsize_any (x : I.Wt) (w : World) (hx : I.Ok x) :
    Calls Try.prog 20 #[WV x] w fun e w' => e = .returned (.int .i64 (I.size x : Nat)) ∧ Below w.heap.size w w' := by
  obtain ⟨b, k, v, g⟩ := x
  have hb := hx.b
  have hk := hx.k
  have hv := hx.v
  simp only at hb hk hv
  unfold I.size
  simp only
  clear hx
  go_enter Try.func20, Try.ntmps20
  go_wp2_with (first | refine blk_box rfl 23 _ rfl [.string b, .string k, .string v, .bool g] rfl ?_)
  intro w1 A1 B1 Z1
  have HB1 : Hid (Below w.heap.size w w1) := B1
  have c0 := A1.cell 0 _ rfl
  have c1 := A1.cell 1 _ rfl
  have c2 := A1.cell 2 _ rfl
  have c3 := A1.cell 3 _ rfl
  clear A1 B1 Z1
  cases g with
  | true =>
    go_wp2_with fail
    go_ret
    exact ⟨rfl, HB1.out⟩
  | false =>
    have e1 : IntKind.i64.wrap ((b.size : Int) + (k.size : Int)) = (b.size : Int) + (k.size : Int) := wrapi (by omega) (by omega)
    have e2 : IntKind.i64.wrap ((b.size : Int) + (k.size : Int) + (v.size : Int)) = (b.size : Int) + (k.size : Int) + (v.size : Int) := wrapi (by omega) (by omega)
    go_wp2_with fail
    go_ret
    refine ⟨?_, HB1.out⟩
    show Ending.returned (.int .i64 _) = .returned (.int .i64 _)
    congr 2
    try simp
    try omega
end Go.Proofs.Ytkfcbihofipcbaa.It

namespace Go.Proofs.Ytkfcbihofipcbaa.I

set_option linter.unusedVariables false

theorem two_filter {α : Type} (q : α → Bool) (z : α) (L : List α) : 1 < (L.filter q).length ↔ ∃ i k, i < k ∧ k < L.length ∧ q (L.getD i z) = true ∧ q (L.getD k z) = true := by
  induction L with
  | nil => simp
  | cons a L ih =>
    rw [List.filter_cons]
    constructor
    · intro h
      by_cases hq : q a = true
      · rw [if_pos hq, List.length_cons] at h
        have hpos : 0 < (L.filter q).length := by omega
        obtain ⟨y, hy⟩ := List.exists_mem_of_length_pos hpos
        obtain ⟨hy1, hy2⟩ := List.mem_filter.1 hy
        obtain ⟨k, hk, rfl⟩ := List.getElem_of_mem hy1
        refine ⟨0, k + 1, by omega, by simp; omega, by simpa using hq, ?_⟩
        rw [List.getD_eq_getElem?_getD, List.getElem?_cons_succ, List.getElem?_eq_getElem hk]
        exact hy2
      · rw [if_neg hq] at h
        obtain ⟨i, k, h1, h2, h3, h4⟩ := ih.1 h
        exact ⟨i + 1, k + 1, by omega, by simp; omega, by simpa using h3, by simpa using h4⟩
    · rintro ⟨i, k, h1, h2, h3, h4⟩
      obtain ⟨k, rfl⟩ : ∃ m, k = m + 1 := ⟨k - 1, by omega⟩
      have hk : k < L.length := by simpa using h2
      have hm : q (L.getD k z) = true := by simpa using h4
      have hmem : L.getD k z ∈ L.filter q := List.mem_filter.2 ⟨by rw [List.getD_eq_getElem?_getD, List.getElem?_eq_getElem hk]; exact List.getElem_mem hk, hm⟩
      have hpos : 0 < (L.filter q).length := List.length_pos_of_mem hmem
      cases i with
      | zero =>
        have : q a = true := by simpa using h3
        rw [if_pos this, List.length_cons]; omega
      | succ i =>
        have := ih.2 ⟨i, k, by omega, hk, by simpa using h3, hm⟩
        split
        · rw [List.length_cons]; omega
        · exact this
/-- those of the key of the j-th -/
def alike (L : List Wt) (x : Wt) : List Wt := L.filter fun y => decide (key y = key x)
def good (L : List Wt) (j : Nat) : Bool := right (L.getD j none_) && !decide (1 < (alike L (L.getD j none_)).length)
def ok2 (L : List Wt) (n : Nat) : Bool := (List.range n).all (good L)
theorem ok2_step (L : List Wt) (n : Nat) : ok2 L (n + 1) = (ok2 L n && good L n) := by simp [ok2, List.range_succ]
theorem ok2_not (L : List Wt) (i n : Nat) (hi : i < n) (h : good L i = false) : ok2 L n = false := by
  rw [ok2, List.all_eq_false]
  exact ⟨i, List.mem_range.2 hi, by simp only [h]; decide⟩
theorem ok2_okTo (L : List Wt) : ok2 L L.length = okTo L L.length := by
  rw [Bool.eq_iff_iff, ok2, okTo, List.all_eq_true, List.all_eq_true]
  constructor
  · intro h i hi
    have hr := h i hi
    unfold good at hr
    rw [Bool.and_eq_true, Bool.not_eq_true', decide_eq_false_iff_not] at hr
    rw [Bool.and_eq_true]
    refine ⟨hr.1, ?_⟩
    unfold apart
    rw [List.all_eq_true]
    intro k hk
    rw [Bool.not_eq_true', decide_eq_false_iff_not]
    intro he
    refine hr.2 ((two_filter _ none_ L).2 ⟨k, i, List.mem_range.1 hk, List.mem_range.1 hi, decide_eq_true he, decide_eq_true rfl⟩)
  · intro h j hj
    have hr := h j hj
    rw [Bool.and_eq_true] at hr
    unfold good
    rw [Bool.and_eq_true, Bool.not_eq_true', decide_eq_false_iff_not]
    refine ⟨hr.1, fun hl => ?_⟩
    obtain ⟨i, k, h1, h2, h3, h4⟩ := (two_filter _ none_ L).1 hl
    have hk := h k (List.mem_range.2 h2)
    rw [Bool.and_eq_true] at hk
    have := apart_not L k i k h1 ((of_decide_eq_true h3).trans (of_decide_eq_true h4).symm)
    rw [hk.2] at this
    cases this
end Go.Proofs.Ytkfcbihofipcbaa.I

namespace Go.Proofs.Ytkfcbihofipcbaa.It

open Go.RowKit Go.Proofs.Ytkfcbihofipcbaa.Vc Go.Proofs.Ytkfcbihofipcbaa.Sp

set_option linter.unusedVariables false

set_option linter.unusedSimpArgs false

set_option maxRecDepth 100000

set_option maxHeartbeats 2000000 in
theorem shard_any (b k : ByteArray) (n : Int) (w : World) (hb : b.size ≤ 140737488355328) (hk : k.size ≤ 140737488355328) (h0 : -9223372036854775808 ≤ n) (h1 : n ≤ 9223372036854775807) :
    Calls Try.prog 28 #[.string b, .string k, .int .i64 n] w fun e w' => e = .returned (.int .i64 (I.shard b k n)) ∧ Below w.heap.size w w' := by
  by_cases hn : n < 1
  · have HF : Hid (I.shard b k n = 1) := by show _ = _; unfold I.shard; rw [if_pos hn]
    rw [HF.out]
    go_enter Try.func28, Try.ntmps28
    go_wp2_with fail
    go_ret
    exact ⟨rfl, Below.refl _ _⟩
  · have hi : ¬ n < 1 := hn
    have hi' : decide (n < 1) = false := by simp; omega
    have CB := Lib.hid (fun w => Pk.text_any b w (by omega))
    have CK := Lib.hid (fun w => Pk.text_any k w (by omega))
    rw [textS_eq] at CB CK
    have lb := I.text_len b
    have lk := I.text_len k
    have sb : (P.S (I.text b)).size = (I.text b).length := P.S_size _
    have sk : (P.S (I.text k)).size = (I.text k).length := P.S_size _
    have ss : (P.S (I.text b) ++ P.S (I.text k)).size ≤ 4611686018427387904 := by rw [ByteArray.size_append]; omega
    have CS := Lib.hid (fun w => Cr.sum_any (P.S (I.text b) ++ P.S (I.text k)) w ss)
    rw [show (P.S (I.text b) ++ P.S (I.text k)).data.toList = I.text b ++ I.text k by rw [P.S_append, P.S_list]] at CS
    obtain ⟨m, HM⟩ : ∃ m, Hid ((Cr.M.sum (I.text b ++ I.text k)).toNat = m) := ⟨_, rfl⟩
    have hm : m < 4294967296 := by rw [← HM.out]; exact (Cr.M.sum (I.text b ++ I.text k)).isLt
    have HF : Hid (I.shard b k n = (m : Int) % n + 1) := by show _ = _; unfold I.shard; rw [if_neg hn, HM.out]
    rw [HM.out] at CS
    rw [HF.out]
    have hcat : (P.S (I.text b)).size + (P.S (I.text k)).size ≤ 9223372036854775807 := by omega
    generalize P.S (I.text b) = p at *
    generalize P.S (I.text k) = q at *
    have e1 : IntKind.u64.wrap (m : Int) = (m : Int) := wrapu (by omega) (by omega)
    have e2 : IntKind.u64.wrap n = n := wrapu (by omega) (by omega)
    obtain ⟨r, hr⟩ : ∃ r : Int, r = (m : Int) % n := ⟨_, rfl⟩
    have hr0 : 0 ≤ r := by rw [hr]; exact Int.emod_nonneg _ (by omega)
    have hrn : r < n := by rw [hr]; exact Int.emod_lt_of_pos _ (by omega)
    have e3 : (m : Int).tmod n = r := by rw [Int.tmod_eq_emod_of_nonneg (by omega), hr]
    have e4 : IntKind.i64.wrap r = r := wrapi (by omega) (by omega)
    have e5 : IntKind.i64.wrap (r + 1) = r + 1 := wrapi (by omega) (by omega)
    have hz : ¬ n = 0 := by omega
    rw [← hr]
    clear hr HF HM sb sk lb lk ss
    go_enter Try.func28, Try.ntmps28
    go_wp2_with fail
    refine (CB.out _).mono ?_; rintro e w1 ⟨rfl, hb1⟩
    go_wp2_with fail
    refine (CK.out _).mono ?_; rintro e w2 ⟨rfl, hb2⟩
    have HB : Hid (Below w.heap.size w w2) := hb1.trans (hb2.mono hb1.size)
    clear hb1 hb2
    go_wp2_with fail
    refine (CS.out _).mono ?_; rintro e w3 ⟨rfl, rfl⟩
    go_wp2_with fail
    go_ret
    exact ⟨rfl, HB.out⟩
set_option maxHeartbeats 8000000 in
theorem pick_w (c1 : Value) (p : I.Wt → Bool) (v : Value) (L : List I.Wt) (w : World) (hL : IsWs w v L) (hn : L.length < 1000000)
    (hf : ∀ x ∈ L, ∀ u, Below w.heap.size w u → Calls Try.prog 45 #[WV x, c1] u fun e u' => e = .returned (.bool (p x)) ∧ Below u.heap.size u u') :
    Calls Try.prog 44 #[v, .func (.func 45) #[] #[c1]] w fun e w' => ∃ v', e = .returned v' ∧ OW 23 w' w.heap.size v' (L.filter p) ∧ Below w.heap.size w w' := by
  obtain ⟨sa, cap, rfl, hca, hma, _⟩ := hL.is
  obtain ⟨n, HN⟩ : ∃ n, Hid (L.length = n) := ⟨_, rfl⟩
  have HL := Lib.hid hL
  have HFN := Lib.hid hf
  rw [HN.out] at HL hn
  rw [HN.out]
  have HO1 : Hid (OW 23 w w.heap.size (.slice none 0 0) ((L.take 0).filter p)) := OW.nil _ _ _
  have HB1 : Hid (Below w.heap.size w w) := Below.refl _ _
  clear hL hca hma hf
  go_enter Try.func44, Try.ntmps44
  go_wp2_with fail
  go_loopw [5, 10] (fun t i wr => ∃ j : Nat, j ≤ n ∧ i = .int .i64 j ∧ Hid (OW 23 wr w.heap.size t ((L.take j).filter p)) ∧ Hid (Below w.heap.size w wr)) (fun _ i _ => n - (intOf i).toNat)
  case atStart => exact ⟨0, by omega, rfl, HO1, HB1⟩
  case round =>
    obtain ⟨j, hj, rfl, HOr, HBr⟩ := hrel
    clear HB1 HO1
    by_cases hlt : j < n
    · have ilt : (j : Int) < (n : Int) := by omega
      obtain ⟨g, off, cap', hv, hg0, hrow⟩ := IsWs.at HL.out j (by rw [HN.out]; exact hlt)
      obtain rfl : sa = some ⟨g, off, none⟩ := by injection hv
      clear hv
      have hg := Nat.lt_of_lt_of_le hg0 HBr.out.size
      have hrow : wr.rangeAt g (off + 4 * j) (wc (L.getD j I.none_)) := fun k v hv => by rw [HBr.out.cell (p := ⟨g, off + 4 * j + k, none⟩) hg0]; exact hrow k v hv
      have hfs := I.filter_step L p j (by rw [HN.out]; exact hlt)
      have hmem : L.getD j I.none_ ∈ L := by
        rw [List.getD_eq_getElem?_getD, List.getElem?_eq_getElem (by rw [HN.out]; exact hlt)]
        exact List.getElem_mem _
      have CF := Lib.hid (HFN.out _ hmem)
      have hlen : ((L.take j).filter p).length < 1000000 := Nat.lt_of_le_of_lt (List.length_filter_le ..) (by rw [List.length_take]; omega)
      obtain ⟨x, HX⟩ : ∃ x, Hid (L.getD j I.none_ = x) := ⟨_, rfl⟩
      rw [HX.out] at hrow hfs CF
      obtain ⟨q, HQ⟩ : ∃ q, Hid (p x = q) := ⟨_, rfl⟩
      rw [HQ.out] at hfs CF
      have HFS := Lib.hid hfs
      have HRr := Lib.hid hrow
      have hix : ∀ w, (Instr.indexAt 41 (.slice (some ⟨g, off, none⟩) n cap) (.int .i64 (j : Int))).run Try.prog w = .ok (.pointer (some ⟨g, off + 4 * j, none⟩)) w := fun w => index_iw g off n cap j hlt w
      clear hrow hfs hmem
      go_wp2_with (first | refine mid_load rfl 23 _ rfl g (off + 4 * j) rfl (wc x) HRr.out _ Try.underlying23 rfl Try.size_w ?_ | refine blk_alloc rfl 23 (wc I.none_) rfl Try.info_iw2 ?_)
      intro w2 A2 B2 Z2
      go_wp2_with (first | refine blk_store rfl 23 _ _ rfl wr.heap.size rfl (wc x) rfl _ A2 rfl Try.size_w rfl ?_)
      intro w3 A3 U3
      have HA3 : Hid (Blk w3 wr.heap.size (wc x)) := A3
      have HB3 : Hid (Below wr.heap.size wr w3) := B2.trans (U3.below (Nat.le_refl _))
      have hz3 : wr.heap.size < w3.heap.size := by rw [U3.size]; omega
      have HZ3 := Lib.hid hz3
      clear A2 B2 Z2 A3 U3 hix
      go_wp2_with (first | refine blk_load rfl 23 _ rfl wr.heap.size rfl (wc x) HA3.out _ Try.underlying23 rfl Try.size_w ?_)
      refine (CF.out _ (Below.trans HBr.out (HB3.out.mono HBr.out.size))).mono ?_; rintro e w4 ⟨rfl, hb4⟩
      have HA4 : Hid (Blk w4 wr.heap.size (wc x)) := Blk.below HA3.out hb4 HZ3.out
      have HB4 : Hid (Below wr.heap.size wr w4) := Below.trans HB3.out (hb4.mono HB3.out.size)
      have HO4 := Lib.hid (OW.below HOr.out HB4.out)
      have HW4 : Hid (Below w.heap.size w w4) := Below.trans HBr.out (HB4.out.mono HBr.out.size)
      clear hb4 HA3 HB3 HOr HBr hz3 HZ3 HB4 CF HRr hg hg0
      cases q with
      | false =>
        have HO' := HO4.out
        rw [show ((L.take j).filter p) = (L.take (j + 1)).filter p by rw [HFS.out]; simp] at HO'
        have HO' := Lib.hid HO'
        go_wp2_with fail
        go_roundw
        case rel => exact ⟨j + 1, by omega, by go_num, HO', HW4⟩
        case measure => simp [intOf]; omega
      | true =>
        go_wp2_with (first | refine blk_load rfl 23 _ rfl wr.heap.size rfl (wc x) HA4.out _ Try.underlying23 rfl Try.size_w ?_ | refine build_iw rfl _ rfl x rfl ?_)
        intro w5 A5 B5 Z5
        have HO5 := Lib.hid (OW.below HO4.out B5)
        have HB5 : Hid (Below w.heap.size w w5) := Below.trans HW4.out (B5.mono HW4.out.size)
        have hz5 : w.heap.size ≤ w5.heap.size := HB5.out.size
        clear B5 Z5 HO4 HW4 HA4
        go_wp2_with (at_builtin; refine append_gen (t := 23) Try.underlying41 Try.info_iw _ rfl _ _ rfl w.heap.size _ _ rfl HO5.out w4.heap.size rfl x A5 ?c2 ?c3 ?_)
        case c2 => exact hlen
        case c3 => omega
        intro v' w6 ho hb hbs
        have HO6 : Hid (OW 23 w6 w.heap.size v' ((L.take (j + 1)).filter p)) := by
          show OW _ _ _ _ _
          rw [HFS.out]
          exact ho
        have HB6 : Hid (Below w.heap.size w w6) := Below.trans HB5.out hb
        clear ho hb hbs A5 HO5 HB5
        go_wp2_with fail
        go_roundw
        case rel => exact ⟨j + 1, by omega, by go_num, HO6, HB6⟩
        case measure => simp [intOf]; omega
    · obtain rfl : j = n := by omega
      have HF : Hid (L.take j = L) := List.take_of_length_le (by rw [HN.out]; exact Nat.le_refl _)
      rw [HF.out] at HOr
      go_wp2_with fail
      go_ret
      exact ⟨_, rfl, HOr.out, HBr.out⟩
set_option maxHeartbeats 8000000 in
theorem pick_o (c1 c2 : Value) (p : I.Wt → Bool) (v : Value) (L : List I.Wt) (w : World) (hL : IsWs w v L) (hn : L.length < 1000000)
    (hf : ∀ x ∈ L, ∀ u, Below w.heap.size w u → Calls Try.prog 48 #[WV x, c1, c2] u fun e u' => e = .returned (.bool (p x)) ∧ Below u.heap.size u u') :
    Calls Try.prog 44 #[v, .func (.func 48) #[] #[c1, c2]] w fun e w' => ∃ v', e = .returned v' ∧ OW 23 w' w.heap.size v' (L.filter p) ∧ Below w.heap.size w w' := by
  obtain ⟨sa, cap, rfl, hca, hma, _⟩ := hL.is
  obtain ⟨n, HN⟩ : ∃ n, Hid (L.length = n) := ⟨_, rfl⟩
  have HL := Lib.hid hL
  have HFN := Lib.hid hf
  rw [HN.out] at HL hn
  rw [HN.out]
  have HO1 : Hid (OW 23 w w.heap.size (.slice none 0 0) ((L.take 0).filter p)) := OW.nil _ _ _
  have HB1 : Hid (Below w.heap.size w w) := Below.refl _ _
  clear hL hca hma hf
  go_enter Try.func44, Try.ntmps44
  go_wp2_with fail
  go_loopw [5, 10] (fun t i wr => ∃ j : Nat, j ≤ n ∧ i = .int .i64 j ∧ Hid (OW 23 wr w.heap.size t ((L.take j).filter p)) ∧ Hid (Below w.heap.size w wr)) (fun _ i _ => n - (intOf i).toNat)
  case atStart => exact ⟨0, by omega, rfl, HO1, HB1⟩
  case round =>
    obtain ⟨j, hj, rfl, HOr, HBr⟩ := hrel
    clear HB1 HO1
    by_cases hlt : j < n
    · have ilt : (j : Int) < (n : Int) := by omega
      obtain ⟨g, off, cap', hv, hg0, hrow⟩ := IsWs.at HL.out j (by rw [HN.out]; exact hlt)
      obtain rfl : sa = some ⟨g, off, none⟩ := by injection hv
      clear hv
      have hg := Nat.lt_of_lt_of_le hg0 HBr.out.size
      have hrow : wr.rangeAt g (off + 4 * j) (wc (L.getD j I.none_)) := fun k v hv => by rw [HBr.out.cell (p := ⟨g, off + 4 * j + k, none⟩) hg0]; exact hrow k v hv
      have hfs := I.filter_step L p j (by rw [HN.out]; exact hlt)
      have hmem : L.getD j I.none_ ∈ L := by
        rw [List.getD_eq_getElem?_getD, List.getElem?_eq_getElem (by rw [HN.out]; exact hlt)]
        exact List.getElem_mem _
      have CF := Lib.hid (HFN.out _ hmem)
      have hlen : ((L.take j).filter p).length < 1000000 := Nat.lt_of_le_of_lt (List.length_filter_le ..) (by rw [List.length_take]; omega)
      obtain ⟨x, HX⟩ : ∃ x, Hid (L.getD j I.none_ = x) := ⟨_, rfl⟩
      rw [HX.out] at hrow hfs CF
      obtain ⟨q, HQ⟩ : ∃ q, Hid (p x = q) := ⟨_, rfl⟩
      rw [HQ.out] at hfs CF
      have HFS := Lib.hid hfs
      have HRr := Lib.hid hrow
      have hix : ∀ w, (Instr.indexAt 41 (.slice (some ⟨g, off, none⟩) n cap) (.int .i64 (j : Int))).run Try.prog w = .ok (.pointer (some ⟨g, off + 4 * j, none⟩)) w := fun w => index_iw g off n cap j hlt w
      clear hrow hfs hmem
      go_wp2_with (first | refine mid_load rfl 23 _ rfl g (off + 4 * j) rfl (wc x) HRr.out _ Try.underlying23 rfl Try.size_w ?_ | refine blk_alloc rfl 23 (wc I.none_) rfl Try.info_iw2 ?_)
      intro w2 A2 B2 Z2
      go_wp2_with (first | refine blk_store rfl 23 _ _ rfl wr.heap.size rfl (wc x) rfl _ A2 rfl Try.size_w rfl ?_)
      intro w3 A3 U3
      have HA3 : Hid (Blk w3 wr.heap.size (wc x)) := A3
      have HB3 : Hid (Below wr.heap.size wr w3) := B2.trans (U3.below (Nat.le_refl _))
      have hz3 : wr.heap.size < w3.heap.size := by rw [U3.size]; omega
      have HZ3 := Lib.hid hz3
      clear A2 B2 Z2 A3 U3 hix
      go_wp2_with (first | refine blk_load rfl 23 _ rfl wr.heap.size rfl (wc x) HA3.out _ Try.underlying23 rfl Try.size_w ?_)
      refine (CF.out _ (Below.trans HBr.out (HB3.out.mono HBr.out.size))).mono ?_; rintro e w4 ⟨rfl, hb4⟩
      have HA4 : Hid (Blk w4 wr.heap.size (wc x)) := Blk.below HA3.out hb4 HZ3.out
      have HB4 : Hid (Below wr.heap.size wr w4) := Below.trans HB3.out (hb4.mono HB3.out.size)
      have HO4 := Lib.hid (OW.below HOr.out HB4.out)
      have HW4 : Hid (Below w.heap.size w w4) := Below.trans HBr.out (HB4.out.mono HBr.out.size)
      clear hb4 HA3 HB3 HOr HBr hz3 HZ3 HB4 CF HRr hg hg0
      cases q with
      | false =>
        have HO' := HO4.out
        rw [show ((L.take j).filter p) = (L.take (j + 1)).filter p by rw [HFS.out]; simp] at HO'
        have HO' := Lib.hid HO'
        go_wp2_with fail
        go_roundw
        case rel => exact ⟨j + 1, by omega, by go_num, HO', HW4⟩
        case measure => simp [intOf]; omega
      | true =>
        go_wp2_with (first | refine blk_load rfl 23 _ rfl wr.heap.size rfl (wc x) HA4.out _ Try.underlying23 rfl Try.size_w ?_ | refine build_iw rfl _ rfl x rfl ?_)
        intro w5 A5 B5 Z5
        have HO5 := Lib.hid (OW.below HO4.out B5)
        have HB5 : Hid (Below w.heap.size w w5) := Below.trans HW4.out (B5.mono HW4.out.size)
        have hz5 : w.heap.size ≤ w5.heap.size := HB5.out.size
        clear B5 Z5 HO4 HW4 HA4
        go_wp2_with (at_builtin; refine append_gen (t := 23) Try.underlying41 Try.info_iw _ rfl _ _ rfl w.heap.size _ _ rfl HO5.out w4.heap.size rfl x A5 ?c2 ?c3 ?_)
        case c2 => exact hlen
        case c3 => omega
        intro v' w6 ho hb hbs
        have HO6 : Hid (OW 23 w6 w.heap.size v' ((L.take (j + 1)).filter p)) := by
          show OW _ _ _ _ _
          rw [HFS.out]
          exact ho
        have HB6 : Hid (Below w.heap.size w w6) := Below.trans HB5.out hb
        clear ho hb hbs A5 HO5 HB5
        go_wp2_with fail
        go_roundw
        case rel => exact ⟨j + 1, by omega, by go_num, HO6, HB6⟩
        case measure => simp [intOf]; omega
    · obtain rfl : j = n := by omega
      have HF : Hid (L.take j = L) := List.take_of_length_le (by rw [HN.out]; exact Nat.le_refl _)
      rw [HF.out] at HOr
      go_wp2_with fail
      go_ret
      exact ⟨_, rfl, HOr.out, HBr.out⟩
end Go.Proofs.Ytkfcbihofipcbaa.It

namespace Go.Proofs.Ytkfcbihofipcbaa.It

open Go.RowKit Go.Proofs.Ytkfcbihofipcbaa.Vc Go.Proofs.Ytkfcbihofipcbaa.Sp

set_option linter.unusedVariables false

set_option linter.unusedSimpArgs false

set_option maxRecDepth 100000

section

variable {P : Program} {ops : Array Oper} {rest : List Oper} {o : Oper} {a : Act} {w : World} {Q : Exit → Act → World → Prop}

/-- a number in a box of its own -/
theorem int_box (hgd : o.guard = none) (t : TypeId) (x : Operand) (ho : o.op = .box t x) (k : IntKind) (n : Int) (hx : a.eval x = .int k n)
    (h : ∀ w', Blk w' w.heap.size [.int k n] → Below w.heap.size w w' → w'.heap.size = w.heap.size + 1 → wpList P ops Q rest (a.put o.dst (.pointer (some ⟨w.heap.size, 0, none⟩))) w') : wpList P ops Q (o :: rest) a w := by
  refine wpList_plain hgd fun K hK => ?_
  unfold Oper.wp execOp
  simp only [ho, hx, Sem.run_bind, Instr.box, newVar, newRow, run_newObj_alloc, Sem.run_pure, Result.andThen_ok]
  exact hK _ _ (h _ (Blk.of_row (vs := [.int k n]) (heap_alloc_last w _)) ((Below.refl _ _).alloc (Nat.le_refl _) _) (by show (w.heap.push _).size = _; simp))
end

set_option maxHeartbeats 4000000 in
theorem whole1_any (x y : I.Wt) (b : Nat) (w : World) (hb : Blk w b (wc y)) (hlt : b < w.heap.size) :
    Calls Try.prog 45 #[WV x, .pointer (some ⟨b, 0, none⟩)] w fun e w' => e = .returned (.bool (decide (I.key x = I.key y))) ∧ Below w.heap.size w w' := by
  obtain ⟨bk, kk, vk, gk⟩ := x
  obtain ⟨bj, kj, vj, gj⟩ := y
  obtain ⟨e1, HE1⟩ : ∃ r, Hid (decide (bk = bj) = r) := ⟨_, rfl⟩
  obtain ⟨e2, HE2⟩ : ∃ r, Hid (decide (kk = kj) = r) := ⟨_, rfl⟩
  have q1 : (bk.toList == bj.toList) = e1 := by rw [V.tol_eq]; exact HE1.out
  have q2 : (kk.toList == kj.toList) = e2 := by rw [V.tol_eq]; exact HE2.out
  have hkey : decide (I.key (bk, kk, vk, gk) = I.key (bj, kj, vj, gj)) = (e1 && e2) := by
    rw [← HE1.out, ← HE2.out, ← Bool.decide_and]
    exact decide_eq_decide.2 (by simp [I.key])
  rw [hkey]
  clear hkey HE1 HE2
  have HH := Lib.hid hb
  clear hb
  go_enter Try.func45, Try.ntmps45
  go_wp2_with (first | refine blk_box rfl 23 _ rfl [.string bk, .string kk, .string vk, .bool gk] rfl ?_)
  intro w1 A1 B1 Z1
  have HB1 : Hid (Below w.heap.size w w1) := B1
  have A0 := Blk.below HH.out B1 hlt
  have c0 := A1.cell 0 _ rfl
  have c1 := A1.cell 1 _ rfl
  have d0 := A0.cell 0 _ rfl
  have d1 := A0.cell 1 _ rfl
  clear A1 B1 Z1 A0
  cases e1 with
  | false =>
    go_wp2_with fail
    go_ret
    exact ⟨rfl, HB1.out⟩
  | true =>
    cases e2 with
    | false =>
      go_wp2_with fail
      go_ret
      exact ⟨rfl, HB1.out⟩
    | true =>
      go_wp2_with fail
      go_ret
      exact ⟨rfl, HB1.out⟩
set_option maxHeartbeats 4000000 in
theorem of1_any (x : I.Wt) (b1 b2 : Nat) (s k : Int) (w : World) (hb1 : Blk w b1 [.int .i64 k]) (hb2 : Blk w b2 [.int .i64 s]) (l1 : b1 < w.heap.size) (l2 : b2 < w.heap.size)
    (hx : x.1.size ≤ 140737488355328 ∧ x.2.1.size ≤ 140737488355328) (h0 : -9223372036854775808 ≤ k) (h1 : k ≤ 9223372036854775807) :
    Calls Try.prog 48 #[WV x, .pointer (some ⟨b1, 0, none⟩), .pointer (some ⟨b2, 0, none⟩)] w fun e w' => e = .returned (.bool (decide (I.shard x.1 x.2.1 k = s))) ∧ Below w.heap.size w w' := by
  obtain ⟨xb, xk, xv, xg⟩ := x
  have CS := Lib.hid (fun w => shard_any xb xk k w hx.1 hx.2 h0 h1)
  show Calls _ _ _ _ fun e w' => e = .returned (.bool (decide (I.shard xb xk k = s))) ∧ _
  obtain ⟨y, HY⟩ : ∃ y, Hid (I.shard xb xk k = y) := ⟨_, rfl⟩
  rw [HY.out] at CS
  rw [HY.out]
  obtain ⟨q, HQ⟩ : ∃ q, Hid (decide (y = s) = q) := ⟨_, rfl⟩
  have QQ : Hid ((y == s) = q) := by show _ = _; rw [← HQ.out]; rfl
  rw [HQ.out]
  have H1 := Lib.hid hb1
  have H2 := Lib.hid hb2
  clear hb1 hb2 hx h0 h1 HY HQ
  go_enter Try.func48, Try.ntmps48
  go_wp2_with (first | refine blk_box rfl 23 _ rfl [.string xb, .string xk, .string xv, .bool xg] rfl ?_)
  intro w1 A1 B1 Z1
  have HB1 : Hid (Below w.heap.size w w1) := B1
  have HA1 := Lib.hid A1
  have K0 : Hid (∀ u, Below w1.heap.size w1 u → u.cell? ⟨w.heap.size, 0, none⟩ = some (.string xb)) := fun u hu => (Blk.below HA1.out hu (by omega)).cell 0 _ rfl
  have K1 : Hid (∀ u, Below w1.heap.size w1 u → u.cell? ⟨w.heap.size, 1, none⟩ = some (.string xk)) := fun u hu => (Blk.below HA1.out hu (by omega)).cell 1 _ rfl
  have KA : Hid (∀ u, Below w1.heap.size w1 u → u.cell? ⟨b1, 0, none⟩ = some (.int .i64 k)) := fun u hu => (Blk.below (Blk.below H1.out B1 l1) hu (by omega)).cell 0 _ rfl
  have KB : Hid (∀ u, Below w1.heap.size w1 u → u.cell? ⟨b2, 0, none⟩ = some (.int .i64 s)) := fun u hu => (Blk.below (Blk.below H2.out B1 l2) hu (by omega)).cell 0 _ rfl
  have XS : Hid (∀ u, Below w1.heap.size w1 u → Calls Try.prog 28 [.string xb, .string xk, .int .i64 k].toArray u fun e u' => e = .returned (.int .i64 y) ∧ Below w1.heap.size w1 u') := fun u hu => Calls.more hu (CS.out u)
  clear A1 B1 Z1 CS
  go_wp2_with fail
  refine region_w Try.mixed (by kernel_rfl) ?_
  refine w_value rfl (.pointer (some ⟨w.heap.size, 0, none⟩)) (fun u hu => by go_simp) (fun K hK => ?_)
  go_simp
  refine hK _ ?_
  clear hK K
  refine w_value rfl (.string xb) (fun u hu => by have hc := K0.out u hu; go_simp) (fun K hK => ?_)
  go_simp
  refine hK _ ?_
  clear hK K
  refine w_value rfl (.pointer (some ⟨w.heap.size, 1, none⟩)) (fun u hu => by go_simp) (fun K hK => ?_)
  go_simp
  refine hK _ ?_
  clear hK K
  refine w_value rfl (.string xk) (fun u hu => by have hc := K1.out u hu; go_simp) (fun K hK => ?_)
  go_simp
  refine hK _ ?_
  clear hK K
  refine w_value rfl (.int .i64 k) (fun u hu => by have hc := KA.out u hu; go_simp) (fun K hK => ?_)
  go_simp
  refine hK _ ?_
  clear hK K
  refine w_call rfl 28 Try.f28 Try.func28 rfl rfl _ _ rfl _ rfl (.int .i64 y) (by exact XS.out) (fun K hK => ?_)
  go_simp
  refine hK _ ?_
  clear hK K
  refine w_value rfl (.int .i64 s) (fun u hu => by have hc := KB.out u hu; go_simp) (fun K hK => ?_)
  go_simp
  refine hK _ ?_
  clear hK K
  refine w_value rfl (.bool q) (fun u hu => by have hc := QQ.out; go_simp) (fun K hK => ?_)
  go_simp
  refine hK _ ?_
  clear hK K
  refine w_assign rfl _ rfl (.bool q) rfl (fun K hK => ?_)
  go_simp
  refine hK _ ?_
  clear hK K
  refine w_nil ?_
  intro u hu
  have HU : Hid (Below w.heap.size w u) := Below.trans HB1.out (hu.mono HB1.out.size)
  clear hu
  go_wp2_with fail
  go_ret
  exact ⟨rfl, HU.out⟩
set_option maxHeartbeats 4000000 in
theorem of_any (a : List Nat) (d : Int) (v : Value) (L : List I.Wt) (s k : Int) (w : World) (ha : a.length = 4) (hL : IsWs w v L) (hn : L.length < 1000000) (hO : ∀ x ∈ L, x.1.size ≤ 140737488355328 ∧ x.2.1.size ≤ 140737488355328) (h0 : -9223372036854775808 ≤ k) (h1 : k ≤ 9223372036854775807) :
    Calls Try.prog 26 #[TV a d v, .int .i64 s, .int .i64 k] w fun e w' => ∃ v', e = .returned v' ∧ OW 23 w' w.heap.size v' (I.of L s k) ∧ Below w.heap.size w w' := by
  have HA := Lib.hid ha
  have HL := Lib.hid hL
  have HOO := Lib.hid hO
  have CP : Hid (∀ u b1 b2, Blk u b1 [.int .i64 k] → Blk u b2 [.int .i64 s] → b1 < u.heap.size → b2 < u.heap.size → IsWs u v L → Calls Try.prog 44 #[v, .func (.func 48) #[] #[.pointer (some ⟨b1, 0, none⟩), .pointer (some ⟨b2, 0, none⟩)]] u fun e w' => ∃ v', e = .returned v' ∧ OW 23 w' u.heap.size v' (I.of L s k) ∧ Below u.heap.size u w') :=
    fun u b1 b2 g1 g2 l1 l2 hl => pick_o _ _ _ v L u hl hn fun x hx u' hu' => of1_any x b1 b2 s k u' (Blk.below g1 hu' l1) (Blk.below g2 hu' l2) (Nat.lt_of_lt_of_le l1 hu'.size) (Nat.lt_of_lt_of_le l2 hu'.size) (HOO.out x hx) h0 h1
  clear hL hn hO h0 h1 ha
  go_enter Try.func26, Try.ntmps26
  go_wp2_with (first | refine blk_box rfl 43 _ rfl (ks .u64 a ++ [Value.int .i64 d, v]) rfl ?_)
  intro w1 A1 B1 Z1
  go_wp2_with (first | refine int_box rfl 3 _ rfl .i64 s rfl ?_)
  intro w2 A2 B2 Z2
  go_wp2_with (first | refine int_box rfl 3 _ rfl .i64 k rfl ?_)
  intro w3 A3 B3 Z3
  have c5 := tx_cell (Blk.below (Blk.below A1 B2 (by omega)) B3 (by omega)) HA.out
  have HA2 := Lib.hid (Blk.below A2 B3 (by omega))
  have HA3 := Lib.hid A3
  have HB3 : Hid (Below w.heap.size w w3) := (B1.trans (B2.mono (by omega))).trans (B3.mono (by omega))
  have HC := Lib.hid (CP.out w3 _ _ HA3.out HA2.out (by omega) (by omega) (IsWs.below HL.out HB3.out))
  clear A1 B1 Z1 A2 B2 Z2 A3 B3 Z3 CP HA2 HA3
  go_wp2_with fail
  refine HC.out.mono ?_; rintro e w4 ⟨v', rfl, ho, hb4⟩
  have HO4 := Lib.hid (OW.mono ho HB3.out.size)
  have HB4 : Hid (Below w.heap.size w w4) := Below.trans HB3.out (hb4.mono HB3.out.size)
  clear ho hb4
  go_wp2_with fail
  go_ret
  exact ⟨_, rfl, HO4.out, HB4.out⟩
set_option maxHeartbeats 8000000 in
theorem whole_any (a : List Nat) (d : Int) (v : Value) (L : List I.Wt) (w : World) (ha : a.length = 4) (hL : IsWs w v L) :
    Calls Try.prog 22 #[TV a d v] w fun e w' => e = .returned (.bool (I.whole a d L)) ∧ Below w.heap.size w w' := by
  have HA := Lib.hid ha
  have HSs := Lib.hid (size_s (d := d) ha)
  have C := Lib.hid (fun w => sright_any a d w ha)
  unfold I.whole
  rw [← I.ok2_okTo]
  obtain ⟨sa, cap, rfl, hcap, hmax, hmem⟩ := hL.is
  obtain ⟨n, HN⟩ : ∃ n, Hid (L.length = n) := ⟨_, rfl⟩
  have HL := Lib.hid hL
  rw [HN.out] at HL hcap
  rw [HN.out]
  obtain ⟨r, HR⟩ : ∃ r, Hid ((T.right a d && (decide (1 ≤ n ∧ n ≤ 8) && I.ok2 L n)) = r) := ⟨_, rfl⟩
  rw [HR.out]
  clear ha hL hmax hmem
  go_enter Try.func22, Try.ntmps22
  go_wp2_with (first | refine blk_box rfl 43 _ rfl (ks .u64 a ++ [Value.int .i64 d, .slice sa n cap]) rfl ?_)
  intro w1 A1 B1 Z1
  have HL1 : Hid (IsWs w1 (.slice sa n cap) L) := IsWs.below HL.out B1
  have HA1 : Hid (Blk w1 w.heap.size (ks .u64 a ++ [Value.int .i64 d, .slice sa n cap])) := A1
  have HB1 : Hid (Below w.heap.size w w1) := B1
  have HZ1 : Hid (w.heap.size < w1.heap.size) := by show _ < _; omega
  clear A1 B1 Z1 HL
  go_wp2_with (first | refine sub_load rfl 30 _ rfl w.heap.size rfl (ks .u64 a ++ [Value.int .i64 d]) [.slice sa n cap] (tx_stamp HA1.out) _ Try.underlying30 rfl HSs.out ?_)
  refine (C.out _).mono ?_; rintro e w2 ⟨rfl, hb2⟩
  have HL2 : Hid (IsWs w2 (.slice sa n cap) L) := IsWs.below HL1.out hb2
  have HA2 : Hid (Blk w2 w.heap.size (ks .u64 a ++ [Value.int .i64 d, .slice sa n cap])) := Blk.below HA1.out hb2 HZ1.out
  have HB2 : Hid (Below w.heap.size w w2) := Below.trans HB1.out (hb2.mono HB1.out.size)
  have HZ2 : Hid (w.heap.size < w2.heap.size) := Nat.lt_of_lt_of_le HZ1.out hb2.size
  have c5 := tx_cell HA2.out HA.out
  clear hb2 HL1 HA1 HB1 HZ1 C
  cases hr : T.right a d with
  | false =>
    obtain rfl : false = r := by rw [← HR.out, hr]; rfl
    clear hr
    go_wp2_with fail
    go_ret
    exact ⟨rfl, HB2.out⟩
  | true =>
    rw [hr, Bool.true_and] at HR
    clear hr
    by_cases h1 : 1 ≤ n
    · by_cases h8 : n ≤ 8
      · have i1 : decide ((n : Int) < 1) = false := by simp; omega
        have i8 : decide ((8 : Int) < (n : Int)) = false := by simp; omega
        have j1 : ¬ (n : Int) < 1 := by omega
        have j8 : ¬ (8 : Int) < (n : Int) := by omega
        have HRR : Hid (I.ok2 L n = r) := by show _ = _; rw [← HR.out]; simp [h1, h8]
        clear HR
        go_wp2_with fail
        go_loopw [25] (fun i wr => ∃ j : Nat, j ≤ n ∧ i = .int .i64 j ∧ Hid (I.ok2 L j = true) ∧ Hid (Blk wr w.heap.size (ks .u64 a ++ [Value.int .i64 d, .slice sa n cap])) ∧ Hid (IsWs wr (.slice sa n cap) L) ∧ Hid (Below w.heap.size w wr) ∧ Hid (w.heap.size < wr.heap.size)) (fun i _ => n - (intOf i).toNat)
        case atStart => exact ⟨0, by omega, rfl, rfl, HA2, HL2, HB2, HZ2⟩
        case round =>
          obtain ⟨j, hj, rfl, HO, HAr, HLr, HBr, HZr⟩ := hrel
          clear HA2 HL2 HB2 HZ2 c5 i1 i8 j1 j8
          by_cases hlt : j < n
          · have ilt : (j : Int) < (n : Int) := by omega
            obtain ⟨g, off, cap', hv, hg, hrow⟩ := IsWs.at HLr.out j (by rw [HN.out]; exact hlt)
            obtain rfl : sa = (some ⟨g, off, none⟩) := by injection hv
            clear hv
            have hix : ∀ w, (Instr.indexAt 41 (.slice (some ⟨g, off, none⟩) n cap) (.int .i64 (j : Int))).run Try.prog w = .ok (.pointer (some ⟨g, off + 4 * j, none⟩)) w := fun w => index_iw g off n cap j hlt w
            have HROW := Lib.hid hrow
            have hst := I.ok2_step L j
            have hno := I.ok2_not L j n hlt
            unfold I.good at hst hno
            have CR := Lib.hid (fun w => wright_any (L.getD j I.none_) w)
            obtain ⟨x, HX⟩ : ∃ x, Hid (L.getD j I.none_ = x) := ⟨_, rfl⟩
            rw [HX.out] at CR HROW hst hno
            rw [HO.out, Bool.true_and] at hst
            have HST := Lib.hid hst
            have HNO := Lib.hid hno
            have hn6 : L.length < 1000000 := by rw [HN.out]; omega
            have CP : Hid (∀ u b, Blk u b (wc x) → b < u.heap.size → IsWs u (.slice (some ⟨g, off, none⟩) n cap) L → Calls Try.prog 44 #[.slice (some ⟨g, off, none⟩) n cap, .func (.func 45) #[] #[.pointer (some ⟨b, 0, none⟩)]] u fun e w' => ∃ v', e = .returned v' ∧ OW 23 w' u.heap.size v' (I.alike L x) ∧ Below u.heap.size u w') :=
              fun u b hb hlt hl => pick_w _ _ _ L u hl hn6 fun y _ u' hu' => whole1_any y x b u' (Blk.below hb hu' hlt) (Nat.lt_of_lt_of_le hlt hu'.size)
            clear hrow hst hno hn6
            go_wp2_with (first | refine mid_load rfl 23 _ rfl g (off + 4 * j) rfl (wc x) HROW.out _ Try.underlying23 rfl Try.size_w ?_ | refine blk_alloc rfl 23 (wc I.none_) rfl Try.info_iw2 ?_)
            intro w3 A3 B3 Z3
            go_wp2_with (first | refine blk_store rfl 23 _ _ rfl wr.heap.size rfl (wc x) rfl _ A3 rfl Try.size_w rfl ?_)
            intro w4 A4 U4
            have hB4 : Below wr.heap.size wr w4 := B3.trans (U4.below (Nat.le_refl _))
            have hz4 : wr.heap.size < w4.heap.size := by rw [U4.size]; omega
            have HX4 : Hid (Blk w4 wr.heap.size (wc x)) := A4
            have HA4 : Hid (Blk w4 w.heap.size (ks .u64 a ++ [Value.int .i64 d, .slice (some ⟨g, off, none⟩) n cap])) := Blk.below HAr.out hB4 HZr.out
            have HL4 : Hid (IsWs w4 (.slice (some ⟨g, off, none⟩) n cap) L) := IsWs.below HLr.out hB4
            have HB4 : Hid (Below w.heap.size w w4) := Below.trans HBr.out (hB4.mono HBr.out.size)
            have HZ4 : Hid (w.heap.size < w4.heap.size) := Nat.lt_of_lt_of_le HZr.out hB4.size
            have HY4 := Lib.hid hz4
            have c5 := tx_cell HA4.out HA.out
            have HP4 := Lib.hid (CP.out w4 _ HX4.out HY4.out HL4.out)
            clear A3 B3 Z3 A4 U4 hB4 HAr HLr HBr HZr CP HROW hix hz4 hg
            go_wp2_with fail
            refine HP4.out.mono ?_; rintro e w5 ⟨v', rfl, ho, hb5⟩
            have HX5 : Hid (Blk w5 wr.heap.size (wc x)) := Blk.below HX4.out hb5 HY4.out
            have HA5 : Hid (Blk w5 w.heap.size (ks .u64 a ++ [Value.int .i64 d, .slice (some ⟨g, off, none⟩) n cap])) := Blk.below HA4.out hb5 HZ4.out
            have HL5 : Hid (IsWs w5 (.slice (some ⟨g, off, none⟩) n cap) L) := IsWs.below HL4.out hb5
            have HB5 : Hid (Below w.heap.size w w5) := Below.trans HB4.out (hb5.mono HB4.out.size)
            have HZ5 : Hid (w.heap.size < w5.heap.size) := Nat.lt_of_lt_of_le HZ4.out hb5.size
            have HY5 : Hid (wr.heap.size < w5.heap.size) := Nat.lt_of_lt_of_le HY4.out hb5.size
            obtain ⟨av, cv, ev, _⟩ := ho.is.is
            subst ev
            clear ho hb5 HX4 HA4 HL4 HB4 HZ4 HY4 c5 HP4
            obtain ⟨m, HM⟩ : ∃ m, Hid ((I.alike L x).length = m) := ⟨_, rfl⟩
            rw [HM.out] at HST HNO
            rw [HM.out]
            go_wp2_with (first | refine blk_load rfl 23 _ rfl wr.heap.size rfl (wc x) HX5.out _ Try.underlying23 rfl Try.size_w ?_)
            refine (CR.out _).mono ?_; rintro e w6 ⟨rfl, hb6⟩
            have HA6 : Hid (Blk w6 w.heap.size (ks .u64 a ++ [Value.int .i64 d, .slice (some ⟨g, off, none⟩) n cap])) := Blk.below HA5.out hb6 HZ5.out
            have HL6 : Hid (IsWs w6 (.slice (some ⟨g, off, none⟩) n cap) L) := IsWs.below HL5.out hb6
            have HB6 : Hid (Below w.heap.size w w6) := Below.trans HB5.out (hb6.mono HB5.out.size)
            have HZ6 : Hid (w.heap.size < w6.heap.size) := Nat.lt_of_lt_of_le HZ5.out hb6.size
            clear hb6 HX5 HA5 HL5 HB5 HZ5 HY5 CR
            cases hrx : I.right x with
            | false =>
              obtain rfl : false = r := by rw [← HRR.out]; exact (HNO.out (by rw [hrx]; rfl)).symm
              clear hrx
              go_wp2_with fail
              go_ret
              exact ⟨rfl, HB6.out⟩
            | true =>
              by_cases hm : 1 < m
              · obtain rfl : false = r := by rw [← HRR.out]; exact (HNO.out (by rw [hrx, decide_eq_true hm]; rfl)).symm
                have im : (1 : Int) < (m : Int) := by omega
                clear hrx
                go_wp2_with fail
                go_ret
                exact ⟨rfl, HB6.out⟩
              · have im : decide ((1 : Int) < (m : Int)) = false := by simp; omega
                have HO' : Hid (I.ok2 L (j + 1) = true) := by show _ = _; rw [HST.out, hrx, decide_eq_false hm]; rfl
                clear hrx
                go_wp2_with fail
                go_roundw
                case rel => exact ⟨j + 1, by omega, by go_num, HO', HA6, HL6, HB6, HZ6⟩
                case measure => simp [intOf]; omega
          · obtain rfl : j = n := by omega
            obtain rfl : true = r := by rw [← HRR.out]; exact HO.out.symm
            go_wp2_with fail
            go_ret
            exact ⟨rfl, HBr.out⟩
      · obtain rfl : false = r := by rw [← HR.out]; simp [h8]
        have i1 : decide ((n : Int) < 1) = false := by simp; omega
        have j1 : ¬ (n : Int) < 1 := by omega
        have i8 : decide ((8 : Int) < (n : Int)) = true := by simp; omega
        have j8 : (8 : Int) < (n : Int) := by omega
        go_wp2_with fail
        go_ret
        exact ⟨rfl, HB2.out⟩
    · obtain rfl : false = r := by rw [← HR.out]; simp [h1]
      have i1 : decide ((n : Int) < 1) = true := by simp; omega
      have j1 : (n : Int) < 1 := by omega
      go_wp2_with fail
      go_ret
      exact ⟨rfl, HB2.out⟩
end Go.Proofs.Ytkfcbihofipcbaa.It

namespace Go.Proofs.Ytkfcbihofipcbaa.It

open Go.RowKit Go.Proofs.Ytkfcbihofipcbaa.Vc Go.Proofs.Ytkfcbihofipcbaa.Sp

set_option linter.unusedVariables false

set_option linter.unusedSimpArgs false

set_option maxRecDepth 100000

theorem enc_size (x : I.Wt) (hb : x.1.size ≤ 16) (hk : x.2.1.size ≤ 16) (hv : x.2.2.1.size ≤ 32) : (P.S (I.enc x)).size ≤ 95 := by
  obtain ⟨b, k, v, g⟩ := x
  simp only at hb hk hv
  have h1 := I.text_len b
  have h2 := I.text_len k
  have h3 := I.text_len v
  rw [P.S_size]
  unfold I.enc
  simp only [List.length_append]
  cases g with
  | true => show _ + 1 ≤ _; omega
  | false => show _ + (_ + 1) ≤ _; omega
set_option maxHeartbeats 4000000 in
theorem putw_any (x : I.Wt) (w : World) (hb : x.1.size ≤ 16) (hk : x.2.1.size ≤ 16) (hv : x.2.2.1.size ≤ 32) :
    Calls Try.prog 37 #[WV x] w fun e w' => e = .returned (.string (P.S (I.enc x))) ∧ Below w.heap.size w w' := by
  obtain ⟨xb, xk, xv, xg⟩ := x
  simp only at hb hk hv
  have CB := Lib.hid (fun w => Pk.text_any xb w (by omega))
  have CK := Lib.hid (fun w => Pk.text_any xk w (by omega))
  have CV := Lib.hid (fun w => Pk.text_any xv w (by omega))
  rw [textS_eq] at CB CK CV
  have lb : (P.S (I.text xb)).size ≤ 26 := by rw [P.S_size]; have := I.text_len xb; omega
  have lk : (P.S (I.text xk)).size ≤ 26 := by rw [P.S_size]; have := I.text_len xk; omega
  have lv : (P.S (I.text xv)).size ≤ 42 := by rw [P.S_size]; have := I.text_len xv; omega
  have henc : P.S (I.enc (xb, xk, xv, xg)) = (P.S (I.text xb) ++ P.S (I.text xk)) ++ P.S (if xg = true then [1] else 0 :: I.text xv) := by
    rw [P.S_append, P.S_append]
    rfl
  rw [henc]
  obtain ⟨tb, EB⟩ : ∃ r, Hid (P.S (I.text xb) = r) := ⟨_, rfl⟩
  obtain ⟨tk, EK⟩ : ∃ r, Hid (P.S (I.text xk) = r) := ⟨_, rfl⟩
  rw [EB.out] at CB lb
  rw [EK.out] at CK lk
  rw [EB.out, EK.out]
  obtain ⟨y, EY⟩ : ∃ r, Hid (tb ++ tk = r) := ⟨_, rfl⟩
  have m1 : y.size = tb.size + tk.size := by rw [← EY.out, ByteArray.size_append]
  have n1 : Hid (tb.size + tk.size ≤ 9223372036854775807) := by show _ ≤ _; omega
  have n2 : y.size ≤ 52 := by omega
  rw [EY.out]
  obtain ⟨R, HR⟩ : ∃ r, Hid (y ++ P.S (if xg = true then [1] else 0 :: I.text xv) = r) := ⟨_, rfl⟩
  rw [HR.out]
  clear henc m1 lb lk hb hk hv
  go_enter Try.func37, Try.ntmps37
  go_wp2_with (first | refine blk_box rfl 23 _ rfl [.string xb, .string xk, .string xv, .bool xg] rfl ?_)
  intro w1 A1 B1 Z1
  have HB1 : Hid (Below w.heap.size w w1) := B1
  have HA1 := Lib.hid A1
  have HZ1 : Hid (w.heap.size < w1.heap.size) := by show _ < _; omega
  have K0 : Hid (∀ u, Below w1.heap.size w1 u → u.cell? ⟨w.heap.size, 0, none⟩ = some (.string xb)) := fun u hu => (Blk.below HA1.out hu HZ1.out).cell 0 _ rfl
  have K1 : Hid (∀ u, Below w1.heap.size w1 u → u.cell? ⟨w.heap.size, 1, none⟩ = some (.string xk)) := fun u hu => (Blk.below HA1.out hu HZ1.out).cell 1 _ rfl
  have X0 : Hid (∀ u, Below w1.heap.size w1 u → Calls Try.prog 50 [.string xb].toArray u fun e u' => e = .returned (.string tb) ∧ Below w1.heap.size w1 u') := fun u hu => Calls.more hu (CB.out u)
  have X1 : Hid (∀ u, Below w1.heap.size w1 u → Calls Try.prog 50 [.string xk].toArray u fun e u' => e = .returned (.string tk) ∧ Below w1.heap.size w1 u') := fun u hu => Calls.more hu (CK.out u)
  clear A1 B1 Z1 CB CK
  go_wp2_with fail
  refine region_w Try.mixed (by kernel_rfl) ?_
  refine w_value rfl (.pointer (some ⟨w.heap.size, 0, none⟩)) (fun u hu => by go_simp) (fun K hK => ?_)
  go_simp
  refine hK _ ?_
  clear hK K
  refine w_value rfl (.string xb) (fun u hu => by have hc := K0.out u hu; go_simp) (fun K hK => ?_)
  go_simp
  refine hK _ ?_
  clear hK K
  refine w_call rfl 50 Try.f50 Try.func50 rfl rfl _ _ rfl _ rfl (.string tb) (by exact X0.out) (fun K hK => ?_)
  go_simp
  refine hK _ ?_
  clear hK K
  refine w_value rfl (.pointer (some ⟨w.heap.size, 1, none⟩)) (fun u hu => by go_simp) (fun K hK => ?_)
  go_simp
  refine hK _ ?_
  clear hK K
  refine w_value rfl (.string xk) (fun u hu => by have hc := K1.out u hu; go_simp) (fun K hK => ?_)
  go_simp
  refine hK _ ?_
  clear hK K
  refine w_call rfl 50 Try.f50 Try.func50 rfl rfl _ _ rfl _ rfl (.string tk) (by exact X1.out) (fun K hK => ?_)
  go_simp
  refine hK _ ?_
  clear hK K
  refine w_cat rfl _ _ _ _ rfl tb tk y rfl rfl n1.out EY.out (fun K hK => ?_)
  go_simp
  refine hK _ ?_
  clear hK K
  refine w_assign rfl _ rfl (.string y) rfl (fun K hK => ?_)
  go_simp
  refine hK _ ?_
  clear hK K
  refine w_nil ?_
  intro u hu
  have HAu : Hid (Blk u w.heap.size [.string xb, .string xk, .string xv, .bool xg]) := Blk.below HA1.out hu HZ1.out
  have HBu : Hid (Below w.heap.size w u) := Below.trans HB1.out (hu.mono HB1.out.size)
  have HZu : Hid (w.heap.size < u.heap.size) := Nat.lt_of_lt_of_le HZ1.out hu.size
  have d3 := HAu.out.cell 3 _ rfl
  clear hu HA1 HB1 HZ1 K0 K1 X0 X1
  cases xg with
  | true =>
    have CN := Lib.hid (fun w => Pk.number_any 1 1 w (by decide))
    rw [show Pk.numS 1 1 = ⟨#[1]⟩ from rfl] at CN
    obtain rfl : y ++ ⟨#[1]⟩ = R := HR.out
    have nn : y.size + (⟨#[1]⟩ : ByteArray).size ≤ 9223372036854775807 := by show y.size + 1 ≤ _; omega
    go_wp2_with fail
    refine (CN.out _).mono ?_; rintro e w2 ⟨rfl, hb2⟩
    have HB2 : Hid (Below w.heap.size w w2) := Below.trans HBu.out (hb2.mono HBu.out.size)
    clear hb2
    go_wp2_with fail
    go_ret
    exact ⟨rfl, HB2.out⟩
  | false =>
    have CN := Lib.hid (fun w => Pk.number_any 0 1 w (by decide))
    rw [show Pk.numS 0 1 = ⟨#[0]⟩ from rfl] at CN
    have hz : P.S (0 :: I.text xv) = ⟨#[0]⟩ ++ P.S (I.text xv) := by
      apply ByteArray.ext
      simp [P.S]
    obtain ⟨tv, EV⟩ : ∃ r, Hid (P.S (I.text xv) = r) := ⟨_, rfl⟩
    rw [EV.out] at CV lv hz
    obtain ⟨z, EZ⟩ : ∃ r, Hid (y ++ ⟨#[0]⟩ = r) := ⟨_, rfl⟩
    obtain ⟨z2, EZ2⟩ : ∃ r, Hid (z ++ tv = r) := ⟨_, rfl⟩
    have mz : z.size = y.size + 1 := by rw [← EZ.out, ByteArray.size_append]; rfl
    have k1 : Hid (y.size + (⟨#[0]⟩ : ByteArray).size ≤ 9223372036854775807) := by show y.size + 1 ≤ _; omega
    have k2 : Hid (z.size + tv.size ≤ 9223372036854775807) := by show _ ≤ _; omega
    obtain rfl : z2 = R := by
      rw [← HR.out, show (if false = true then [1] else 0 :: I.text xv) = 0 :: I.text xv from rfl, hz, ← EZ2.out, ← EZ.out]
      apply ByteArray.ext
      simp [ByteArray.data_append, Array.append_assoc]
    have K2 : Hid (∀ v, Below u.heap.size u v → v.cell? ⟨w.heap.size, 2, none⟩ = some (.string xv)) := fun v hv => (Blk.below HAu.out hv HZu.out).cell 2 _ rfl
    have XN : Hid (∀ v, Below u.heap.size u v → Calls Try.prog 36 [.int .u64 0, .int .i64 1].toArray v fun e u' => e = .returned (.string ⟨#[0]⟩) ∧ Below u.heap.size u u') := fun v hv => Calls.more hv (CN.out v)
    have XV : Hid (∀ v, Below u.heap.size u v → Calls Try.prog 50 [.string xv].toArray v fun e u' => e = .returned (.string tv) ∧ Below u.heap.size u u') := fun v hv => Calls.more hv (CV.out v)
    clear CN CV hz mz lv
    go_wp2_with fail
    refine region_w Try.mixed (by kernel_rfl) ?_
    refine w_move rfl _ rfl (.string y) rfl (fun K hK => ?_)
    go_simp
    refine hK _ ?_
    clear hK K
    refine w_call rfl 36 Try.f36 Try.func36 rfl rfl _ _ rfl _ rfl (.string ⟨#[0]⟩) (by exact XN.out) (fun K hK => ?_)
    go_simp
    refine hK _ ?_
    clear hK K
    refine w_cat rfl _ _ _ _ rfl y ⟨#[0]⟩ z rfl rfl k1.out EZ.out (fun K hK => ?_)
    go_simp
    refine hK _ ?_
    clear hK K
    refine w_value rfl (.pointer (some ⟨w.heap.size, 2, none⟩)) (fun u hu => by go_simp) (fun K hK => ?_)
    go_simp
    refine hK _ ?_
    clear hK K
    refine w_value rfl (.string xv) (fun u hu => by have hc := K2.out u hu; go_simp) (fun K hK => ?_)
    go_simp
    refine hK _ ?_
    clear hK K
    refine w_call rfl 50 Try.f50 Try.func50 rfl rfl _ _ rfl _ rfl (.string tv) (by exact XV.out) (fun K hK => ?_)
    go_simp
    refine hK _ ?_
    clear hK K
    refine w_cat rfl _ _ _ _ rfl z tv z2 rfl rfl k2.out EZ2.out (fun K hK => ?_)
    go_simp
    refine hK _ ?_
    clear hK K
    refine w_assign rfl _ rfl (.string z2) rfl (fun K hK => ?_)
    go_simp
    refine hK _ ?_
    clear hK K
    refine w_nil ?_
    intro v hv
    have HBv : Hid (Below w.heap.size w v) := Below.trans HBu.out (hv.mono HBu.out.size)
    clear hv
    go_wp2_with fail
    go_ret
    exact ⟨rfl, HBv.out⟩
set_option maxHeartbeats 8000000 in
theorem bytes_any (a : List Nat) (d : Int) (v : Value) (L : List I.Wt) (w : World) (ha : V.Ok a) (hL : IsWs w v L) :
    Calls Try.prog 15 #[TV a d v] w fun e w' => e = .returned (.tuple #[.string (I.bytesS a d L), .bool (I.whole a d L)]) ∧ Below w.heap.size w w' := by
  have HA := Lib.hid ha.len
  have HSs := Lib.hid (size_s (d := d) ha.len)
  have HST := Lib.hid (fun v => size_itx (d := d) (v := v) ha.len)
  have CW := Lib.hid (fun w v hL => whole_any a d v L w ha.len hL)
  have CP := Lib.hid (fun w => sput_any a d w ha)
  have hpl := T.vput_len ha.len
  unfold I.bytesS
  obtain ⟨sa, cap, rfl, hca, hma, _⟩ := hL.is
  obtain ⟨n, HN⟩ : ∃ n, Hid (L.length = n) := ⟨_, rfl⟩
  have HL := Lib.hid hL
  rw [HN.out] at HL
  rw [HN.out]
  clear hca hma hL ha
  cases hw : I.whole a d L with
  | false =>
    rw [hw] at CW
    clear hw
    show Calls _ _ _ _ fun e w' => e = .returned (.tuple #[.string ⟨#[]⟩, .bool false]) ∧ _
    go_enter Try.func15, Try.ntmps15
    go_wp2_with (first | refine blk_box rfl 43 _ rfl (ks .u64 a ++ [Value.int .i64 d, .slice sa n cap]) rfl ?_)
    intro w1 A1 B1 Z1
    have HL1 : Hid (IsWs w1 (.slice sa n cap) L) := IsWs.below HL.out B1
    have HA1 : Hid (Blk w1 w.heap.size (ks .u64 a ++ [Value.int .i64 d, .slice sa n cap])) := A1
    have HB1 : Hid (Below w.heap.size w w1) := B1
    clear A1 B1 Z1
    go_wp2_with (first | refine blk_load rfl 43 _ rfl w.heap.size rfl (ks .u64 a ++ [Value.int .i64 d, .slice sa n cap]) HA1.out _ Try.underlying43 rfl (HST.out _) ?_)
    refine (CW.out _ _ HL1.out).mono ?_; rintro e w2 ⟨rfl, hb2⟩
    have HB2 : Hid (Below w.heap.size w w2) := Below.trans HB1.out (hb2.mono HB1.out.size)
    clear hb2
    go_wp2_with fail
    go_ret2
    exact ⟨rfl, HB2.out⟩
  | true =>
    rw [hw] at CW
    obtain ⟨hr, h1, h8, hok⟩ := I.whole_some hw
    rw [HN.out] at h1 h8 hok
    have HRI : Hid (∀ j, j < n → I.right (L.getD j I.none_) = true) := fun j hj => I.okTo_right hok j hj
    rw [hr, show T.puts a d = P.S (T.put a d) by unfold T.puts; rw [hr]; rfl] at CP
    have hd := (T.right_known hr).2
    clear hw hr hok
    have CN := Lib.hid (fun w => Pk.number_any n 1 w (by omega))
    rw [show Pk.numS n 1 = P.S (P.numB n 1) from rfl] at CN
    have hw64 : IntKind.u64.wrap (n : Int) = (n : Int) := wrapu (by omega) (by omega)
    have HBY : Hid (I.bytes a d L = T.put a d ++ P.numB n 1 ++ ((L.take n).map I.enc).flatten) := by
      show _ = _
      rw [List.take_of_length_le (by rw [HN.out]; exact Nat.le_refl _), I.bytes, HN.out]
    obtain ⟨r, HR⟩ : ∃ r, Hid (P.S (I.bytes a d L) = r) := ⟨_, rfl⟩
    show Calls _ _ _ _ fun e w' => e = .returned (.tuple #[.string (P.S (I.bytes a d L)), .bool true]) ∧ _
    rw [HR.out]
    have z1 : (P.S (T.put a d)).size ≤ 41 := by rw [P.S_size, T.put, List.length_append, P.numB_length]; omega
    have z2 : (P.S (P.numB n 1)).size = 1 := by rw [P.S_size, P.numB_length]
    have HS0 : Hid (P.S (T.put a d ++ P.numB n 1 ++ ((L.take 0).map I.enc).flatten) = P.S (T.put a d) ++ P.S (P.numB n 1)) := by
      show _ = _
      rw [P.S_append]
      simp
    obtain ⟨p, EP⟩ : ∃ r, Hid (P.S (T.put a d) = r) := ⟨_, rfl⟩
    obtain ⟨q, EQ⟩ : ∃ r, Hid (P.S (P.numB n 1) = r) := ⟨_, rfl⟩
    rw [EP.out] at CP z1 HS0
    rw [EQ.out] at CN z2 HS0
    have z3 : (p ++ q).size ≤ 42 + 100 * 0 := by rw [ByteArray.size_append]; omega
    clear hpl hd
    go_enter Try.func15, Try.ntmps15
    go_wp2_with (first | refine blk_box rfl 43 _ rfl (ks .u64 a ++ [Value.int .i64 d, .slice sa n cap]) rfl ?_)
    intro w1 A1 B1 Z1
    have HL1 : Hid (IsWs w1 (.slice sa n cap) L) := IsWs.below HL.out B1
    have HA1 : Hid (Blk w1 w.heap.size (ks .u64 a ++ [Value.int .i64 d, .slice sa n cap])) := A1
    have HB1 : Hid (Below w.heap.size w w1) := B1
    have HZ1 : Hid (w.heap.size < w1.heap.size) := by show _ < _; omega
    clear A1 B1 Z1
    go_wp2_with (first | refine blk_load rfl 43 _ rfl w.heap.size rfl (ks .u64 a ++ [Value.int .i64 d, .slice sa n cap]) HA1.out _ Try.underlying43 rfl (HST.out _) ?_)
    refine (CW.out _ _ HL1.out).mono ?_; rintro e w2 ⟨rfl, hb2⟩
    have HA2 : Hid (Blk w2 w.heap.size (ks .u64 a ++ [Value.int .i64 d, .slice sa n cap])) := Blk.below HA1.out hb2 HZ1.out
    have HB2 : Hid (Below w.heap.size w w2) := Below.trans HB1.out (hb2.mono HB1.out.size)
    have HZ2 : Hid (w.heap.size < w2.heap.size) := Nat.lt_of_lt_of_le HZ1.out hb2.size
    clear hb2 HL1 HA1 HB1 HZ1 CW
    go_wp2_with (first | refine sub_load rfl 30 _ rfl w.heap.size rfl (ks .u64 a ++ [Value.int .i64 d]) [.slice sa n cap] (tx_stamp HA2.out) _ Try.underlying30 rfl HSs.out ?_)
    refine (CP.out _).mono ?_; rintro e w3 ⟨rfl, hb3⟩
    have HA3 : Hid (Blk w3 w.heap.size (ks .u64 a ++ [Value.int .i64 d, .slice sa n cap])) := Blk.below HA2.out hb3 HZ2.out
    have HB3 : Hid (Below w.heap.size w w3) := Below.trans HB2.out (hb3.mono HB2.out.size)
    have HZ3 : Hid (w.heap.size < w3.heap.size) := Nat.lt_of_lt_of_le HZ2.out hb3.size
    have c5 := tx_cell HA3.out HA.out
    clear hb3 HA2 HB2 HZ2 CP
    go_wp2_with fail
    refine (CN.out _).mono ?_; rintro e w4 ⟨rfl, hb4⟩
    have HA4 : Hid (Blk w4 w.heap.size (ks .u64 a ++ [Value.int .i64 d, .slice sa n cap])) := Blk.below HA3.out hb4 HZ3.out
    have HB4 : Hid (Below w.heap.size w w4) := Below.trans HB3.out (hb4.mono HB3.out.size)
    have HZ4 : Hid (w.heap.size < w4.heap.size) := Nat.lt_of_lt_of_le HZ3.out hb4.size
    clear hb4 HA3 HB3 HZ3 CN c5
    have c5 := tx_cell HA4.out HA.out
    go_wp2_with fail
    go_loopw [4, 27] (fun t i wr => ∃ (j : Nat) (s : ByteArray), j ≤ n ∧ i = .int .i64 j ∧ t = .string s ∧ s.size ≤ 42 + 100 * j ∧ Hid (P.S (T.put a d ++ P.numB n 1 ++ ((L.take j).map I.enc).flatten) = s) ∧ Hid (Blk wr w.heap.size (ks .u64 a ++ [Value.int .i64 d, .slice sa n cap])) ∧ Hid (Below w.heap.size w wr) ∧ Hid (w.heap.size < wr.heap.size)) (fun _ i _ => n - (intOf i).toNat)
    case atStart => exact ⟨0, p ++ q, by omega, rfl, rfl, z3, HS0, HA4, HB4, HZ4⟩
    case round =>
      obtain ⟨j, s, hj, rfl, rfl, hs, HS, HAr, HBr, HZr⟩ := hrel
      clear HA4 HB4 HZ4 z1 z2 z3 HS0 c5
      have c5 := tx_cell HAr.out HA.out
      by_cases hlt : j < n
      · have ilt : (j : Int) < (n : Int) := by omega
        obtain ⟨g, off, cap', hv, hg0, hrow0⟩ := IsWs.at HL.out j (by rw [HN.out]; exact hlt)
        obtain rfl : sa = some ⟨g, off, none⟩ := by injection hv
        clear hv
        have hes := I.enc_step L j (by rw [HN.out]; exact hlt)
        have hrt := I.right_some (HRI.out j hlt)
        have HROW : Hid (wr.rangeAt g (off + 4 * j) (wc (L.getD j I.none_))) := fun k v hv => by rw [HBr.out.cell (p := ⟨g, off + 4 * j + k, none⟩) hg0]; exact hrow0 k v hv
        obtain ⟨x, HX⟩ : ∃ x, Hid (L.getD j I.none_ = x) := ⟨_, rfl⟩
        rw [HX.out] at HROW hes hrt
        have hix : ∀ w, (Instr.indexAt 41 (.slice (some ⟨g, off, none⟩) n cap) (.int .i64 (j : Int))).run Try.prog w = .ok (.pointer (some ⟨g, off + 4 * j, none⟩)) w := fun w => index_iw g off n cap j hlt w
        have CW := Lib.hid (fun w => putw_any x w (by omega) (by omega) (by omega))
        have le := enc_size x (by omega) (by omega) (by omega)
        have HSS : Hid (P.S (T.put a d ++ P.numB n 1 ++ ((L.take (j + 1)).map I.enc).flatten) = s ++ P.S (I.enc x)) := by
          show _ = _
          rw [hes, ← List.append_assoc, ← P.S_append, HS.out]
        obtain ⟨y, EY⟩ : ∃ r, Hid (P.S (I.enc x) = r) := ⟨_, rfl⟩
        rw [EY.out] at CW le HSS
        have n1 : s.size + y.size ≤ 9223372036854775807 := by omega
        have HSZ : (s ++ y).size ≤ 42 + 100 * (j + 1) := by rw [ByteArray.size_append]; omega
        clear hes hrow0 hrt hg0
        go_wp2_with (first | refine mid_load rfl 23 _ rfl g (off + 4 * j) rfl (wc x) HROW.out _ Try.underlying23 rfl Try.size_w ?_ | refine blk_alloc rfl 23 (wc I.none_) rfl Try.info_iw2 ?_)
        intro w5 A5 B5 Z5
        go_wp2_with (first | refine blk_store rfl 23 _ _ rfl wr.heap.size rfl (wc x) rfl _ A5 rfl Try.size_w rfl ?_)
        intro w6 A6 U6
        have HX6 : Hid (Blk w6 wr.heap.size (wc x)) := A6
        have HA6 : Hid (Blk w6 w.heap.size (ks .u64 a ++ [Value.int .i64 d, .slice (some ⟨g, off, none⟩) n cap])) := Blk.upd (Blk.below HAr.out B5 HZr.out) U6 (by have := HZr.out; omega)
        have HB6 : Hid (Below w.heap.size w w6) := (Below.trans HBr.out (B5.mono HBr.out.size)).trans (U6.below HBr.out.size)
        have HZ6 : Hid (w.heap.size < w6.heap.size) := by have := HZr.out; have := U6.size; show _ < _; omega
        clear A5 B5 Z5 A6 U6 HAr HBr HZr hix HROW c5
        go_wp2_with (first | refine blk_load rfl 23 _ rfl wr.heap.size rfl (wc x) HX6.out _ Try.underlying23 rfl Try.size_w ?_)
        refine (CW.out _).mono ?_; rintro e w7 ⟨rfl, hb7⟩
        have HA7 : Hid (Blk w7 w.heap.size (ks .u64 a ++ [Value.int .i64 d, .slice (some ⟨g, off, none⟩) n cap])) := Blk.below HA6.out hb7 HZ6.out
        have HB7 : Hid (Below w.heap.size w w7) := Below.trans HB6.out (hb7.mono HB6.out.size)
        have HZ7 : Hid (w.heap.size < w7.heap.size) := Nat.lt_of_lt_of_le HZ6.out hb7.size
        clear hb7 HX6 HA6 HB6 HZ6 CW
        go_wp2_with fail
        go_roundw
        case rel => exact ⟨j + 1, s ++ y, by omega, by go_num, rfl, HSZ, HSS, HA7, HB7, HZ7⟩
        case measure => simp [intOf]; omega
      · obtain rfl : j = n := by omega
        obtain rfl : s = r := by rw [← HR.out, HBY.out]; exact HS.out.symm
        go_wp2_with fail
        go_ret2
        exact ⟨rfl, HBr.out⟩
end Go.Proofs.Ytkfcbihofipcbaa.It

namespace Go.Proofs.Ytkfcbihofipcbaa.It

open Go.RowKit Go.Proofs.Ytkfcbihofipcbaa.Vc Go.Proofs.Ytkfcbihofipcbaa.Sp

set_option linter.unusedVariables false

set_option linter.unusedSimpArgs false

set_option maxRecDepth 100000

set_option maxHeartbeats 8000000 in
theorem equal_any (v v' : Value) (L M : List I.Wt) (w : World) (hL : IsWs w v L) (hM : IsWs w v' M) :
    Calls Try.prog 47 #[v, v'] w fun e w' => e = .returned (.bool (decide (L = M))) ∧ Below w.heap.size w w' := by
  obtain ⟨sa, ca, rfl, hca, hma, _⟩ := hL.is
  obtain ⟨sb, cb, rfl, _⟩ := hM.is
  have hnb : L.length ≤ 9223372036854775807 := by unfold maxLen at hma; omega
  obtain ⟨n, HN⟩ : ∃ n, Hid (L.length = n) := ⟨_, rfl⟩
  obtain ⟨m, HM⟩ : ∃ n, Hid (M.length = n) := ⟨_, rfl⟩
  have HL := Lib.hid hL
  have HK := Lib.hid hM
  rw [HN.out] at HL hnb
  rw [HM.out] at HK
  rw [HN.out, HM.out]
  obtain ⟨r, HR⟩ : ∃ r, Hid (decide (L = M) = r) := ⟨_, rfl⟩
  rw [HR.out]
  clear hL hM hca hma
  by_cases hnm : n = m
  · subst hnm
    have inm : ((n : Int) != (n : Int)) = false := by simp
    have HW2 : Hid (Below w.heap.size w w) := Below.refl _ _
    go_enter Try.func47, Try.ntmps47
    go_wp2_with fail
    go_loopw [13] (fun i wr => ∃ j : Nat, j ≤ n ∧ i = .int .i64 j ∧ Hid (L.take j = M.take j) ∧ Hid (Below w.heap.size w wr)) (fun i _ => n - (intOf i).toNat)
    case atStart => exact ⟨0, by omega, rfl, rfl, HW2⟩
    case round =>
      obtain ⟨j, hj, rfl, HT, HWr⟩ := hrel
      clear HW2 inm
      by_cases hlt : j < n
      · have ilt : (j : Int) < (n : Int) := by omega
        obtain ⟨g, off, cap', hv, hg, hrow⟩ := IsWs.at (IsWs.below HL.out HWr.out) j (by rw [HN.out]; exact hlt)
        obtain rfl : sa = some ⟨g, off, none⟩ := by injection hv
        clear hv
        obtain ⟨h, pff, cap', hv, hh, hrow'⟩ := IsWs.at (IsWs.below HK.out HWr.out) j (by rw [HM.out]; exact hlt)
        obtain rfl : sb = some ⟨h, pff, none⟩ := by injection hv
        clear hv
        have hts := I.take_same L M j HT.out (by rw [HN.out]; exact hlt) (by rw [HM.out]; exact hlt)
        have hne : L.getD j I.none_ ≠ M.getD j I.none_ → L ≠ M := fun h e => h (by rw [e])
        obtain ⟨x, HX⟩ : ∃ x, Hid (L.getD j I.none_ = x) := ⟨_, rfl⟩
        obtain ⟨y, HY⟩ : ∃ x, Hid (M.getD j I.none_ = x) := ⟨_, rfl⟩
        rw [HX.out] at hrow hts hne
        rw [HY.out] at hrow' hts hne
        have HTS := Lib.hid hts
        have HNE := Lib.hid hne
        have KR : Hid (∀ u, Below wr.heap.size wr u → u.rangeAt g (off + 4 * j) (wc x)) := fun u hu k v hv => by rw [hu.cell (p := ⟨g, off + 4 * j + k, none⟩) hg]; exact hrow k v hv
        have KS : Hid (∀ u, Below wr.heap.size wr u → u.rangeAt h (pff + 4 * j) (wc y)) := fun u hu k v hv => by rw [hu.cell (p := ⟨h, pff + 4 * j + k, none⟩) hh]; exact hrow' k v hv
        obtain ⟨q, HQ⟩ : ∃ q, Hid ((!decide (x = y)) = q) := ⟨_, rfl⟩
        have HNQ : Hid (∀ w, (binOp .neq 23 (WV x) (WV y)).run Try.prog w = .ok (.bool q) w) := fun w => by rw [← HQ.out]; exact neq_iw x y w
        clear hrow hrow' hts hne hg hh
        go_wp2_with fail
        refine region_w Try.mixed (by kernel_rfl) ?_
        refine w_move rfl _ rfl (.slice (some ⟨g, off, none⟩) n ca) rfl (fun K hK => ?_)
        go_simp
        refine hK _ ?_
        clear hK K
        refine w_move rfl _ rfl (.int .i64 (j : Int)) rfl (fun K hK => ?_)
        go_simp
        refine hK _ ?_
        clear hK K
        refine w_value rfl (.pointer (some ⟨g, off + 4 * j, none⟩)) (fun u hu => by have hc := index_iw g off n ca j hlt u; go_simp) (fun K hK => ?_)
        go_simp
        refine hK _ ?_
        clear hK K
        refine w_wv_load rfl 23 _ rfl g (off + 4 * j) rfl x (by exact KR.out) _ Try.underlying23 rfl Try.size_w (fun K hK => ?_)
        go_simp
        refine hK _ ?_
        clear hK K
        refine w_move rfl _ rfl (.slice (some ⟨h, pff, none⟩) n cb) rfl (fun K hK => ?_)
        go_simp
        refine hK _ ?_
        clear hK K
        refine w_move rfl _ rfl (.int .i64 (j : Int)) rfl (fun K hK => ?_)
        go_simp
        refine hK _ ?_
        clear hK K
        refine w_value rfl (.pointer (some ⟨h, pff + 4 * j, none⟩)) (fun u hu => by have hc := index_iw h pff n cb j hlt u; go_simp) (fun K hK => ?_)
        go_simp
        refine hK _ ?_
        clear hK K
        refine w_wv_load rfl 23 _ rfl h (pff + 4 * j) rfl y (by exact KS.out) _ Try.underlying23 rfl Try.size_w (fun K hK => ?_)
        go_simp
        refine hK _ ?_
        clear hK K
        refine w_value rfl (.bool q) (fun u _ => run_eql u .neq 23 23 _ _ (WV x) (WV y) _ rfl rfl rfl (guard_iw _ _ _ _ _ u) (HNQ.out u)) (fun K hK => ?_)
        go_simp
        refine hK _ ?_
        clear hK K
        refine w_nil ?_
        intro u hu
        have HWu : Hid (Below w.heap.size w u) := Below.trans HWr.out (hu.mono HWr.out.size)
        clear hu HWr KR KS
        cases q with
        | true =>
          obtain rfl : false = r := by
            rw [← HR.out]
            exact (decide_eq_false (HNE.out (fun e => by have := HQ.out; rw [decide_eq_true e] at this; cases this))).symm
          go_wp2_with fail
          go_ret
          exact ⟨rfl, HWu.out⟩
        | false =>
          have HT' : Hid (L.take (j + 1) = M.take (j + 1)) := HTS.out (by have := HQ.out; simpa using this)
          go_wp2_with fail
          go_roundw
          case rel => exact ⟨j + 1, by omega, by go_num, HT', HWu⟩
          case measure => simp [intOf]; omega
      · obtain rfl : j = n := by omega
        obtain rfl : true = r := by
          have h := HT.out
          rw [List.take_of_length_le (by rw [HN.out]; exact Nat.le_refl _), List.take_of_length_le (by rw [HM.out]; exact Nat.le_refl _)] at h
          rw [← HR.out, decide_eq_true h]
        go_wp2_with fail
        go_ret
        exact ⟨rfl, HWr.out⟩
  · obtain rfl : false = r := by
      rw [← HR.out]
      exact (decide_eq_false (fun e => hnm (by rw [← HN.out, ← HM.out, e]))).symm
    have inm : ((n : Int) != (m : Int)) = true := by simp; omega
    have jnm : ¬ (n : Int) = (m : Int) := by omega
    have knm : ¬ n = m := hnm
    go_enter Try.func47, Try.ntmps47
    go_wp2_with fail
    go_ret
    exact ⟨rfl, Below.refl _ _⟩
theorem guard_es (x y : Operand) (l m : List Nat) (d e : Int) (w : World) : (eqGuard .eql 30 x y (SV l d) (SV m e)).run Try.prog w = .ok () w := by
  unfold SV
  simp [eqGuard, guardType_s]
theorem eql_s (a b : List Nat) (d e : Int) (ha : a.length = 4) (hb : b.length = 4) (w : World) : (binOp .eql 30 (SV a d) (SV b e)).run Try.prog w = .ok (.bool (T.same a d b e)) w := by
  have h := eq_gen under_s held_s fields_s Try.underlying28 (fun w => Try.sizeOf28 w) a b d e ha hb w
  have e : binOp .eql 30 (SV a d) (SV b e) = (do pure (.bool (← Op.equalIn 10000 30 (SV a d) (SV b e)))) := rfl
  rw [e]
  simp only [Sem.run_bind, h, Result.andThen_ok, Sem.run_pure]
set_option maxHeartbeats 8000000 in
theorem same_any (a : List Nat) (d : Int) (v : Value) (L : List I.Wt) (b : List Nat) (f : Int) (v' : Value) (M : List I.Wt) (w : World) (ha : a.length = 4) (hb : b.length = 4) (hL : IsWs w v L) (hM : IsWs w v' M) :
    Calls Try.prog 24 #[TV a d v, TV b f v'] w fun e w' => e = .returned (.bool (I.same a d L b f M)) ∧ Below w.heap.size w w' := by
  have HA := Lib.hid ha
  have HB := Lib.hid hb
  have HSa := Lib.hid (size_s (d := d) ha)
  have HSb := Lib.hid (size_s (d := f) hb)
  have HL := Lib.hid hL
  have HM := Lib.hid hM
  obtain ⟨e0, HE0⟩ : ∃ r, Hid (T.same a d b f = r) := ⟨_, rfl⟩
  have HE : Hid (∀ w, (binOp .eql 30 (SV a d) (SV b f)).run Try.prog w = .ok (.bool e0) w) := fun w => by rw [← HE0.out]; exact eql_s a b d f ha hb w
  unfold I.same
  rw [HE0.out]
  have CE := Lib.hid (fun u hl hm => equal_any v v' L M u hl hm)
  obtain ⟨r, HR⟩ : ∃ r, Hid (decide (L = M) = r) := ⟨_, rfl⟩
  rw [HR.out] at CE
  rw [HR.out]
  clear ha hb hL hM
  go_enter Try.func24, Try.ntmps24
  go_wp2_with (first | refine blk_box rfl 43 _ rfl (ks .u64 a ++ [Value.int .i64 d, v]) rfl ?_)
  intro w1 A1 B1 Z1
  go_wp2_with (first | refine blk_box rfl 43 _ rfl (ks .u64 b ++ [Value.int .i64 f, v']) rfl ?_)
  intro w2 A2 B2 Z2
  have HA2 : Hid (Blk w2 w.heap.size (ks .u64 a ++ [Value.int .i64 d, v])) := Blk.below A1 B2 (by omega)
  have HB2 : Hid (Blk w2 (w.heap.size + 1) (ks .u64 b ++ [Value.int .i64 f, v'])) := A2
  have HW2 : Hid (Below w.heap.size w w2) := B1.trans (B2.mono (by omega))
  have c5 := tx_cell HA2.out HA.out
  have d5 := tx_cell HB2.out HB.out
  clear A1 B1 Z1 A2 B2 Z2
  cases e0 with
  | false =>
    go_wp2_with (first | refine sub_load rfl 30 _ rfl w.heap.size rfl (ks .u64 a ++ [Value.int .i64 d]) [v] (tx_stamp HA2.out) _ Try.underlying30 rfl HSa.out ?_ | refine sub_load rfl 30 _ rfl (w.heap.size + 1) rfl (ks .u64 b ++ [Value.int .i64 f]) [v'] (tx_stamp HB2.out) _ Try.underlying30 rfl HSb.out ?_ | refine val_step rfl (.bool false) (run_eql _ .eql 30 30 _ _ (SV a d) (SV b f) _ rfl rfl rfl (guard_es _ _ _ _ _ _ _) (HE.out _)) ?_)
    go_ret
    exact ⟨rfl, HW2.out⟩
  | true =>
    go_wp2_with (first | refine sub_load rfl 30 _ rfl w.heap.size rfl (ks .u64 a ++ [Value.int .i64 d]) [v] (tx_stamp HA2.out) _ Try.underlying30 rfl HSa.out ?_ | refine sub_load rfl 30 _ rfl (w.heap.size + 1) rfl (ks .u64 b ++ [Value.int .i64 f]) [v'] (tx_stamp HB2.out) _ Try.underlying30 rfl HSb.out ?_ | refine val_step rfl (.bool true) (run_eql _ .eql 30 30 _ _ (SV a d) (SV b f) _ rfl rfl rfl (guard_es _ _ _ _ _ _ _) (HE.out _)) ?_)
    refine (CE.out _ (IsWs.below HL.out HW2.out) (IsWs.below HM.out HW2.out)).mono ?_; rintro e w3 ⟨rfl, hb3⟩
    have HW3 : Hid (Below w.heap.size w w3) := Below.trans HW2.out (hb3.mono HW2.out.size)
    clear hb3
    go_wp2_with fail
    go_ret
    exact ⟨rfl, HW3.out⟩
end Go.Proofs.Ytkfcbihofipcbaa.It
