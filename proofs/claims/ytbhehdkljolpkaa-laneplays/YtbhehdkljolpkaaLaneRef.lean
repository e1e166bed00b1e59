/- The document's own lane: a struct of a slice and its room; what each call tells, and what is in it behind it. -/
import Derived.Test.YtbhehdkljolpkaaLaneMore
import Derived.Laws.AppendOwnNone
namespace Go.Proofs.Ytbhehdkljolpkaa
open Go.Conc Go.RowKit
set_option linter.unusedVariables false
set_option linter.unusedSimpArgs false
def iv (q : Int) : Value := .int .i64 q
/-- the slice (ad, n) holds l -/
structure Holds (w : World) (d : Nat) (ad : Option Addr) (cap : Nat) (l : List Int) : Prop where
  le : l.length ≤ cap
  big : cap ≤ maxLen
  nil : ad = none → cap = 0
  cells : l = [] ∨ ∃ g off, ad = some ⟨g, off, none⟩ ∧ g ≠ d ∧ g < w.heap.size ∧ ∀ i q, l[i]? = some q → w.cell? ⟨g, off + i, none⟩ = some (.int .i64 q)
structure Rf (w : World) (d room : Nat) (l : List Int) : Prop where
  lst : ∃ ad cap, w.cell? ⟨d, 0, none⟩ = some (.slice ad l.length cap) ∧ Holds w d ad cap l
  free : w.frozen? ⟨d, 0, none⟩ = false
  room : w.cell? ⟨d, 1, none⟩ = some (.int .i64 (room : Int))
theorem Rf.lt {w : World} {d room : Nat} {l : List Int} (h : Rf w d room l) : d < w.heap.size := cell_lt h.room
/-- where d itself has not turned -/
theorem Holds.keep {w w' : World} {d : Nat} {ad : Option Addr} {cap : Nat} {l : List Int} (h : Holds w d ad cap l) (hs : w.heap.size ≤ w'.heap.size) (hk : ∀ b o v, b ≠ d → w.cell? ⟨b, o, none⟩ = some v → w'.cell? ⟨b, o, none⟩ = some v) : Holds w' d ad cap l := by
  refine ⟨h.le, h.big, h.nil, ?_⟩
  rcases h.cells with h0 | ⟨g, off, ha, hg, hlt, hc⟩
  · exact .inl h0
  · exact .inr ⟨g, off, ha, hg, by omega, fun i q hq => hk _ _ _ hg (hc i q hq)⟩
theorem Rf.keep {w w' : World} {d room : Nat} {l : List Int} (h : Rf w d room l) (hd : w'.heap[d]? = w.heap[d]?) (hs : w.heap.size ≤ w'.heap.size) (hk : ∀ b o v, w.cell? ⟨b, o, none⟩ = some v → w'.cell? ⟨b, o, none⟩ = some v) : Rf w' d room l := by
  obtain ⟨⟨ad, cap, h1, h2⟩, h3, h4⟩ := h
  exact ⟨⟨ad, cap, hk _ _ _ h1, h2.keep hs (fun b o v _ hv => hk b o v hv)⟩, by rw [World.frozen?_of_block (w := w) hd]; exact h3, hk _ _ _ h4⟩
theorem Rf.chan {w w' : World} {d room b c cap : Nat} {l : List Int} {q : List Value} (h : Rf w d room l) (hl : Ln w b c cap q) (hu : But c w w') : Rf w' d room l :=
  h.keep (hu.far d h.lt (hl.far h.room)) hu.size (fun _ _ _ hv => hu.keep hl hv)
theorem Rf.drew {w : World} {d room : Nat} {l : List Int} (h : Rf w d room l) : Rf w.drew d room l := h.keep rfl (Nat.le_refl _) (fun _ _ _ hv => by simpa using hv)
theorem Rf.below {w w' : World} {d room : Nat} {l : List Int} (h : Rf w d room l) (hb : Below w.heap.size w w') : Rf w' d room l :=
  h.keep (hb.block d h.lt) hb.size (fun b o v hv => by rw [hb.cell (p := ⟨b, o, none⟩) (cell_lt hv)]; exact hv)
theorem But.drew (d : Nat) (w : World) : But d w w.drew := ⟨rfl, rfl, rfl, Nat.le_refl _, fun _ _ _ => rfl⟩
theorem But.setCell (w : World) (d o : Nat) (v : Value) : But d w (w.setCell ⟨d, o, none⟩ v) :=
  ⟨rfl, rfl, rfl, by simp, fun k _ hk => Below.heap_setCell w ⟨d, o, none⟩ v k hk⟩
theorem setCell_ne (w : World) (d o : Nat) (u : Value) {b o' : Nat} (h : b ≠ d) : (w.setCell ⟨d, o, none⟩ u).cell? ⟨b, o', none⟩ = w.cell? ⟨b, o', none⟩ :=
  World.cell?_of_block (w := w) (Below.heap_setCell w ⟨d, o, none⟩ u b h)
/-- another slice is laid into it -/
theorem Rf.store {w : World} {d room : Nat} {l l' : List Int} (h : Rf w d room l) {ad : Option Addr} {cap : Nat} (hh : Holds w d ad cap l') : Rf (w.setCell ⟨d, 0, none⟩ (.slice ad l'.length cap)) d room l' := by
  obtain ⟨⟨ad0, cap0, h1, h2⟩, h3, h4⟩ := h
  refine ⟨⟨ad, cap, World.cell?_setCell_same _ _ _ h1, hh.keep (by simp) (fun b o v hb hv => by rw [setCell_ne w d 0 _ hb]; exact hv)⟩, by simpa using h3, ?_⟩
  rw [World.cell?_setCell_other _ _ _ _ (by simp)]; exact h4
theorem holds_nil (w : World) (d : Nat) : Holds w d none 0 [] := ⟨Nat.le_refl _, Nat.zero_le _, fun _ => rfl, .inl rfl⟩

theorem rnew_ok (n : Nat) (h1 : 1 ≤ n) (hn : n ≤ 16) (w : World) :
    Calls Try.prog 9 #[.int .i64 (n : Int)] w fun e w' => e = .returned (.pointer (some ⟨w.heap.size, 0, none⟩)) ∧ Rf w' w.heap.size n [] ∧ Below w.heap.size w w' := by
  have k1 : decide ((n : Int) < 1) = false := by simp; omega
  have k2 : decide ((16 : Int) < (n : Int)) = false := by simp; omega
  go_enter Try.func9, Try.ntmps9
  go_wp2_with fail
  go_ret
  refine ⟨rfl, ⟨⟨none, 0, ?_, holds_nil _ _⟩, ?_, ?_⟩, (Below.refl _ _).alloc (Nat.le_refl _) _⟩
  · simp [go_sem]
  · simp [go_sem]
  · simp [go_sem]
theorem rnew_no (n : Int) (hn : n < 1 ∨ 16 < n) (w : World) :
    Calls Try.prog 9 #[.int .i64 n] w fun e w' => e = .returned (.pointer none) ∧ w' = w := by
  rcases hn with hn | hn
  · have k1 : decide (n < 1) = true := by simp; omega
    go_enter Try.func9, Try.ntmps9
    go_wp2_with fail
    go_ret
    exact ⟨rfl, rfl⟩
  · have k1 : decide (n < 1) = false := by simp; omega
    have k2 : decide (16 < n) = true := by simp; omega
    go_enter Try.func9, Try.ntmps9
    go_wp2_with fail
    go_ret
    exact ⟨rfl, rfl⟩
theorem rdrain {w : World} {d room : Nat} {l : List Int} (h : Rf w d room l) :
    Calls Try.prog 11 #[.pointer (some ⟨d, 0, none⟩)] w fun e w' => ∃ ad cap, e = .returned (.slice ad l.length cap) ∧ Holds w' d ad cap l ∧ Rf w' d room [] ∧ But d w w' := by
  have H : Hid (Rf w d room l) := h
  obtain ⟨⟨ad, cap, h1, h2⟩, h3, h4⟩ := h
  have H2 : Hid (Holds w d ad cap l) := h2
  clear h2 h4
  go_enter Try.func11, Try.ntmps11
  go_wp2_with fail
  go_ret
  exact ⟨ad, cap, rfl, H2.out.keep (by simp) (fun b o v hb hv => by rw [setCell_ne w d 0 _ hb]; exact hv), H.out.store (l' := []) (holds_nil w d), But.setCell w d 0 _⟩
theorem rtake_no {w : World} {d room : Nat} (h : Rf w d room []) :
    Calls Try.prog 13 #[.pointer (some ⟨d, 0, none⟩)] w fun e w' => e = .returned (.tuple #[.int .i64 0, .bool false]) ∧ w' = w := by
  obtain ⟨⟨ad, cap, h1, h2⟩, h3, h4⟩ := h
  clear h2 h4
  simp only [List.length_nil] at h1
  go_enter Try.func13, Try.ntmps13
  go_wp2_with fail
  go_ret2
  exact ⟨rfl, rfl⟩
theorem rtake_ok {w : World} {d room : Nat} {x : Int} {l : List Int} (h : Rf w d room (x :: l)) (hs : l.length ≤ 16) :
    Calls Try.prog 13 #[.pointer (some ⟨d, 0, none⟩)] w fun e w' => e = .returned (.tuple #[.int .i64 x, .bool true]) ∧ Rf w' d room l ∧ But d w w' := by
  have H : Hid (Rf w d room (x :: l)) := h
  obtain ⟨⟨ad, cap, h1, h2⟩, h3, h4⟩ := h
  have H2 : Hid (Holds w d ad cap (x :: l)) := h2
  obtain ⟨hle, hbig, hnil, hc⟩ := h2
  rcases hc with hc | ⟨g, off, rfl, hg, hlt, hc⟩
  · cases hc
  have c0 := hc 0 x rfl
  rw [Nat.add_zero] at c0
  have HC : Hid _ := hc
  rw [List.length_cons] at h1 hle
  clear hc h4 hnil
  have hbig' : cap ≤ 9223372036854775807 := hbig
  clear hbig
  obtain ⟨n, hn⟩ : ∃ n, n = l.length := ⟨_, rfl⟩
  rw [← hn] at h1 hle hs
  have HN : Hid (n = l.length) := hn
  clear hn
  go_enter Try.func13, Try.ntmps13
  go_wp2_with fail
  · go_ret2
    have hl0 : l = [] := List.eq_nil_of_length_eq_zero (by have := HN.out; omega)
    refine ⟨rfl, ?_, But.setCell w d 0 _⟩
    have hn : n = l.length := HN.out
    rw [hn]
    exact H.out.store (l' := l) ⟨by rw [hl0]; exact Nat.le_refl _, Nat.zero_le _, fun h => (by cases h), .inl hl0⟩
  · go_ret2
    refine ⟨rfl, ?_, But.setCell w d 0 _⟩
    have hn : n = l.length := HN.out
    rw [hn]
    refine H.out.store (l' := l) ⟨by omega, by unfold maxLen; omega, fun h => (by cases h), .inr ⟨g, off + 1, rfl, hg, hlt, fun i q hq => ?_⟩⟩
    rw [Nat.add_assoc, Nat.add_comm 1 i]
    exact HC.out (i + 1) q (by simpa using hq)
theorem info3 : (Try.prog.info? 3).map (fun i => (i.zero, i.size, i.bytes)) = some (some (.int .i64 0), 1, 8) := by kernel_rfl
theorem own_pos {w : World} {base : Nat} {e : TypeId} {v : Value} {n : Nat} {xs : List Value} (h : w.ownsRow base e 1 v (n + 1) xs) :
    ∃ g cap, v = .slice (some ⟨g, 0, none⟩) (n + 1) cap ∧ base ≤ g ∧ g < w.heap.size ∧ n + 1 ≤ cap ∧ cap ≤ maxLen ∧ ∀ j, j < n + 1 → w.cell? ⟨g, j, none⟩ = xs[j]? := by
  have hk := h
  rcases h.2 with ⟨_, h0⟩ | ⟨g, cap, cur, rfl, hg, hh, hc, hm, _⟩
  · omega
  · exact ⟨g, cap, rfl, hg, lt_of_heap hh, hc, hm, fun j hj => hk.cellAt j (by omega)⟩
set_option maxRecDepth 100000 in
theorem rput_no {w : World} {d room : Nat} {l : List Int} (x : Int) (h : Rf w d room l) (hs : l.length ≤ 16) (hr : room ≤ l.length) :
    Calls Try.prog 15 #[.pointer (some ⟨d, 0, none⟩), .int .i64 x] w fun e w' => e = .returned (.bool false) ∧ Rf w' d room l ∧ But d w w' := by
  have H : Hid (Rf w d room l) := h
  obtain ⟨⟨ad, cap, h1, h2⟩, h3, h4⟩ := h
  clear h2
  obtain ⟨n, hn⟩ : ∃ n, n = l.length := ⟨_, rfl⟩
  rw [← hn] at h1 hs hr
  clear hn
  go_enter Try.func15, Try.ntmps15
  go_wp2_with fail
  go_region
  all_goals
    go_wp2_with fail
    go_ret
    exact ⟨rfl, H.out.drew, But.drew d w⟩
theorem iv_list (l : List Int) (i : Nat) (u : Value) (h : (l.map iv)[i]? = some u) : ∃ q, l[i]? = some q ∧ u = .int .i64 q := by
  simp [List.getElem?_map] at h
  obtain ⟨q, h1, h2⟩ := h
  exact ⟨q, h1, h2.symm⟩
/-- what the two appends leave -/
theorem put_end {w w2 : World} {d room : Nat} {l : List Int} {x : Int} (h : Rf w d room l) {v : Value} (hb : But d w w2) (hd : w2.heap[d]? = w.heap[d]?)
    (ho : w2.ownsRow w.heap.size 3 1 v (l.length + 1) (l.map iv ++ [iv x])) : ∃ g cap, v = .slice (some ⟨g, 0, none⟩) (l.length + 1) cap ∧ Rf (w2.setCell ⟨d, 0, none⟩ (.slice (some ⟨g, 0, none⟩) (l.length + 1) cap)) d room (l ++ [x]) ∧ But d w (w2.setCell ⟨d, 0, none⟩ (.slice (some ⟨g, 0, none⟩) (l.length + 1) cap)) ∧ w2.cell? ⟨d, 0, none⟩ = w.cell? ⟨d, 0, none⟩ ∧ w2.frozen? ⟨d, 0, none⟩ = w.frozen? ⟨d, 0, none⟩ := by
  obtain ⟨g, cap, rfl, hg, hlt, hle, hm, hc⟩ := own_pos ho
  refine ⟨g, cap, rfl, ?_, hb.trans (But.setCell _ _ _ _), World.cell?_of_block (w := w) hd, World.frozen?_of_block (w := w) hd⟩
  have hR : Rf w2 d room l := h.keep hd hb.size (fun b o u hu => by
    by_cases hbd : b = d
    · subst hbd; rw [World.cell?_of_block (w := w) (a := ⟨b, o, none⟩) hd]; exact hu
    · rw [hb.cell (cell_lt hu) hbd]; exact hu)
  have hdl := h.lt
  have := hR.store (l' := l ++ [x]) (ad := some ⟨g, 0, none⟩) (cap := cap) ⟨by simpa using hle, hm, fun h => (by cases h), .inr ⟨g, 0, rfl, by omega, hlt, fun i q hq => ?_⟩⟩
  · simpa using this
  · have hi : i < l.length + 1 := by
      have := (List.getElem?_eq_some_iff.1 hq).1
      simpa using this
    rw [Nat.zero_add, hc i hi]
    have : l.map iv ++ [iv x] = (l ++ [x]).map iv := by simp
    rw [this, List.getElem?_map, hq]
    rfl
set_option maxHeartbeats 1000000 in
set_option maxRecDepth 100000 in
theorem rput_ok {w : World} {d room : Nat} {l : List Int} (x : Int) (h : Rf w d room l) (hs : room ≤ 16) (hr : l.length < room) :
    Calls Try.prog 15 #[.pointer (some ⟨d, 0, none⟩), .int .i64 x] w fun e w' => e = .returned (.bool true) ∧ Rf w' d room (l ++ [x]) ∧ But d w w' := by
  obtain ⟨i0, hi, hz0, hz1, hz2⟩ := info_parts info3
  have H : Hid (Rf w d room l) := h
  have hdl := h.lt
  obtain ⟨⟨ad, cap, h1, h2⟩, h3, h4⟩ := h
  have H2 : Hid (Holds w d ad cap l) := h2
  clear h2
  cases ad with
  | none =>
    have hc0 : cap = 0 := H2.out.nil rfl
    have hl0 : l = [] := List.eq_nil_of_length_eq_zero (by have := H2.out.le; omega)
    subst hc0 hl0
    clear H2
    simp only [List.length_nil] at h1 hr
    go_enter Try.func15, Try.ntmps15
    go_wp2_with fail
    go_region
    all_goals
      go_wp2_with (first
        | (at_builtin; refine wpList_append_own_none rfl (.const (.slice none 0 0)) (.tmp 19) 33 rfl w.heap.size 3 i0 1 Try.underlying33 hi (.slice none 0 0) 0 [] rfl (World.ownsRow_nil _ _ _ _) rfl ?_)
        | (at_builtin; refine wpList_append_own _ rfl (.tmp 20) (.tmp 22) 33 rfl w.heap.size 3 i0 (.int .i64 0) 1 8 Try.underlying33 hi hz0 hz1 hz2 rfl (by decide) (.slice none 0 0) 0 [] rfl (World.ownsRow_nil _ _ _ _) ⟨w.heap.size, 0, none⟩ 1 1 [.int .i64 x] rfl rfl (by intro t u ht; match t, ht with | 0, ht => simp at ht; subst ht; simp [Addr.add]) (by intro u hu; simp at hu; subst hu; rfl) (by unfold maxLen; omega) (by omega) (by simp) ?_; intro v2 w2 hown2 hgrow2 hz; clear hz; obtain ⟨g, cp, rfl, hR, hB, hc, hf⟩ := put_end (l := []) (x := x) H.out (But.grown (But.grown (But.drew d w) (World.grownBy_alloc w.drew _ none) (by intro k hk; cases hk)) hgrow2 (by intro k hk; cases hk)) ((hgrow2.block d (by simp; omega) (by intro h; cases h)).trans (Below.heap_alloc w.drew _ d hdl)) hown2; rw [h1] at hc; rw [h3] at hf; have HR : Hid _ := hR; have HB : Hid _ := hB; clear hR hB hown2 hgrow2))
      go_ret
      exact ⟨rfl, HR.out, HB.out⟩
  | some a =>
    have hnews : ∀ j u, (l.map iv)[j]? = some u → w.cell? (a.add j) = some u := by
      intro j u hu
      obtain ⟨q, hq, rfl⟩ := iv_list l j u hu
      rcases H2.out.cells with h0 | ⟨g, off, ha, _, _, hc⟩
      · subst h0; simp at hq
      · cases ha; rw [addr_add]; exact hc j q hq
    have HNW : Hid (∀ j u, (l.map iv)[j]? = some u → w.drew.cell? (a.add j) = some u) := fun j u hu => by
      simpa using hnews j u hu
    have hone : ∀ u ∈ l.map iv, u.oneCell' = true := by
      intro u hu; simp [iv] at hu; obtain ⟨q, _, rfl⟩ := hu; rfl
    have HON : Hid _ := hone
    have hll : (l.map iv).length = l.length * 1 := by simp
    have HLL : Hid _ := hll
    clear hnews hone hll
    obtain ⟨n, hn⟩ : ∃ n, n = l.length := ⟨_, rfl⟩
    rw [← hn] at h1 hr HLL
    have HN : Hid (n = l.length) := hn
    clear hn
    go_enter Try.func15, Try.ntmps15
    go_wp2_with fail
    go_region
    all_goals
      go_wp2_with (first
        | (at_builtin; refine wpList_append_own _ rfl (.const (.slice none 0 0)) (.tmp 19) 33 rfl w.heap.size 3 i0 (.int .i64 0) 1 8 Try.underlying33 hi hz0 hz1 hz2 rfl (by decide) (.slice none 0 0) 0 [] rfl (World.ownsRow_nil _ _ _ _) a n cap (l.map iv) rfl HLL.out HNW.out HON.out (by unfold maxLen; omega) (by omega) (by simp) ?_; intro v1 w1 hown1 hgrow1 hz; clear hz; simp only [Nat.zero_add, List.nil_append] at hown1; have h1' := (hgrow1.cell (by simpa using h1) (by intro h; cases h) : w1.cell? ⟨d, 0, none⟩ = some (.slice (some a) n cap)))
        | (at_builtin; refine wpList_append_own _ rfl (.tmp 20) (.tmp 22) 33 rfl w.heap.size 3 i0 (.int .i64 0) 1 8 Try.underlying33 hi hz0 hz1 hz2 rfl (by decide) v1 n (l.map iv) rfl (hown1.alloc _) ⟨w1.heap.size, 0, none⟩ 1 1 [.int .i64 x] rfl rfl (by intro t u ht; match t, ht with | 0, ht => simp at ht; subst ht; simp [Addr.add]) (by intro u hu; simp at hu; subst hu; rfl) (by unfold maxLen; omega) (by omega) (by have := hgrow1.size; simp at this ⊢; omega) ?_; intro v2 w2 hown2 hgrow2 hz; clear hz; have hsz := hgrow1.size; simp only [World.size_drew] at hsz; obtain ⟨g, cp, rfl, hR, hB, hc, hf⟩ := put_end (x := x) H.out (But.grown (But.grown (But.grown (But.drew d w) hgrow1 (by intro k hk; cases hk)) (World.grownBy_alloc w1 _ none) (by intro k hk; cases hk)) hgrow2 (fun k hk => (hown1.lt k hk).1)) (((hgrow2.block d (by simp; omega) (fun e => by have := (hown1.lt d e.symm).1; omega)).trans (Below.heap_alloc w1 _ d (by omega))).trans (hgrow1.block d hdl (by intro h; cases h))) (by rw [← HN.out]; exact hown2); rw [h1] at hc; rw [h3] at hf; rw [← HN.out] at hR hB ⊢; have HR : Hid _ := hR; have HB : Hid _ := hB; clear hR hB hown2 hgrow2 hown1 hgrow1 h1'))
      go_ret
      exact ⟨rfl, HR.out, HB.out⟩
end Go.Proofs.Ytbhehdkljolpkaa
