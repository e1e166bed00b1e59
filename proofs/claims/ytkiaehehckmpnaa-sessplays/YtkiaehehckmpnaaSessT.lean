/- sess: the table in memory; how one of its sessions is found. -/
import Derived.Test.YtkiaehehckmpnaaSessB

namespace Go.Proofs.Ytkiaehehckmpnaa.Zm

open Go.RowKit Go.Proofs.Ytkiaehehckmpnaa.Vc Go.Proofs.Ytkiaehehckmpnaa.Sp Go.Proofs.Ytkiaehehckmpnaa.Rw Go.Proofs.Ytkiaehehckmpnaa.Se Go.Proofs.Ytkiaehehckmpnaa.It Go.Proofs.Ytkiaehehckmpnaa.Z

set_option linter.unusedVariables false

set_option linter.unusedSimpArgs false

set_option maxRecDepth 100000

/-- block b is a table with these sessions; R lies beside it -/
structure Tab (w0 w : World) (b : Nat) (S : List Ss) (R : List Rg) : Prop where
  good : Z.Good S
  shut : ∀ s ∈ S, Z.Shut s
  mem : ∃ Zv : Zs, Zv.map (·.1) = S ∧ (∀ p ∈ Zv, Nl p) ∧ Sep w0 w (R ++ tb 41 b Zv)
section

variable {w0 w w' : World} {b : Nat} {S : List Ss} {R : List Rg}

theorem Tab.below (h : Tab w0 w b S R) (hb : Below w.heap.size w w') : Tab w0 w' b S R := by
  obtain ⟨Zv, h1, h2, h3⟩ := h.mem
  exact ⟨h.good, h.shut, Zv, h1, h2, h3.below hb⟩
theorem Tab.sep (h : Tab w0 w b S R) : Sep w0 w R := by
  obtain ⟨Zv, h1, h2, h3⟩ := h.mem
  exact h3.sub (List.sublist_append_left _ _)
theorem Tab.under (h : Tab w0 w b S R) : Below w0.heap.size w0 w := h.sep.under
theorem Tab.box (h : Tab w0 w b S R) (hb : Below w.heap.size w w') (hz : w'.heap.size = w.heap.size + 1) {vs : List Value} (hB : Blk w' w.heap.size vs) : Tab w0 w' b S (rB w.heap.size vs :: R) := by
  obtain ⟨Zv, h1, h2, h3⟩ := h.mem
  exact ⟨h.good, h.shut, Zv, h1, h2, h3.box hb hz hB⟩
theorem Tab.fresh {w1 : World} (h : Tab w0 w b S R) (hb : Below w.heap.size w w1) (hz : w1.heap.size = w.heap.size + 1) (hu : Upd w.heap.size w1 w') {vs : List Value} (hB : Blk w' w.heap.size vs) : Tab w0 w' b S (rB w.heap.size vs :: R) := by
  obtain ⟨Zv, h1, h2, h3⟩ := h.mem
  exact ⟨h.good, h.shut, Zv, h1, h2, h3.fresh hb hz hu hB⟩
theorem Tab.upd (h : Tab w0 w b S R) (i : Nat) {c : Nat} {vs us : List Value} (hi : R[i]? = some (rB c vs)) (hu : Upd c w w') (hB : Blk w' c us) : Tab w0 w' b S (R.set i (rB c us)) := by
  obtain ⟨Zv, h1, h2, h3⟩ := h.mem
  have hl := (List.getElem?_eq_some_iff.1 hi).1
  have := h3.upd (us := us) i (b := c) (vs := vs) (by rw [List.getElem?_append_left hl]; exact hi) hu hB
  rw [List.set_append_left _ _ hl] at this
  exact ⟨h.good, h.shut, Zv, h1, h2, this⟩
theorem Tab.newrow {β : Type} {K : Kd β} {t : TypeId} {v : Value} {L : List β} (h : Tab w0 w b S R) (hb : Below w.heap.size w w') (hc : OR K t w' w.heap.size v L) : Tab w0 w' b S (rO K t w.heap.size v L :: R) := by
  obtain ⟨Zv, h1, h2, h3⟩ := h.mem
  exact ⟨h.good, h.shut, Zv, h1, h2, h3.newrow hb hc⟩
theorem Tab.less {r : Rg} (h : Tab w0 w b S (r :: R)) : Tab w0 w b S R := by
  obtain ⟨Zv, h1, h2, h3⟩ := h.mem
  exact ⟨h.good, h.shut, Zv, h1, h2, h3.tail⟩
theorem Tab.sub {R' : List Rg} (h : Tab w0 w b S R) (hs : R'.Sublist R) : Tab w0 w b S R' := by
  obtain ⟨Zv, h1, h2, h3⟩ := h.mem
  exact ⟨h.good, h.shut, Zv, h1, h2, h3.sub (hs.append_right _)⟩
theorem Tab.lt (h : Tab w0 w b S R) : b < w.heap.size := by
  obtain ⟨Zv, h1, h2, h3⟩ := h.mem
  exact (h3.lt R.length (r := rB b (cT Zv)) (by simp [tb]) b (by simp [rB])).2
/-- one session, to be worked on; and the table behind that -/
structure At (w0 w : World) (b : Nat) (S : List Ss) (R : List Rg) (id : Int) (g o : Nat) (A B : List Value) (v : Value) (X : List Rg) : Prop where
  off : A.length = o
  nl : Nl (gt S id, v)
  sep : Sep w0 w (fc 41 g A B (gt S id) v ++ X)
  back : ∀ w' s' v', s'.Ok → Z.Shut s' → Nl (s', v') → Sep w0 w' (fc 41 g A B s' v' ++ X) → Tab w0 w' b (if known id = true then st S id s' else S) R
theorem At.below {id : Int} {g o : Nat} {A B : List Value} {v : Value} {X : List Rg} (h : At w0 w b S R id g o A B v X) (hb : Below w.heap.size w w') : At w0 w' b S R id g o A B v X := ⟨h.off, h.nl, h.sep.below hb, h.back⟩
theorem Tab.at (h : Tab w0 w b S R) (id : Int) (hk : known id = true) : ∃ A B v X, At w0 w b S R id b (10 * (id - 1).toNat) A B v X := by
  obtain ⟨Zv, h1, h2, h3⟩ := h.mem
  have hg := gt_known h.good.len hk
  have hok := h.good.ok
  rw [← h1] at hg
  rw [List.getElem?_map] at hg
  cases e : Zv[(id - 1).toNat]? with
  | none => rw [e] at hg; cases hg
  | some p =>
    rw [e] at hg
    obtain ⟨s, v⟩ := p
    have hs : s = gt S id := by rw [← h1]; exact Option.some.inj hg
    subst hs
    obtain ⟨e1, e2⟩ := split_at e
    have hZ : ∀ p ∈ Zv, p.1.Ok := fun p hp => hok _ (by rw [← h1]; exact List.mem_map.2 ⟨p, hp, rfl⟩)
    have hi := (List.getElem?_eq_some_iff.1 e).1
    refine ⟨cT (Zv.take (id - 1).toNat), cT (Zv.drop ((id - 1).toNat + 1)), v, R ++ (rT 41 (Zv.take (id - 1).toNat) ++ rT 41 (Zv.drop ((id - 1).toNat + 1))), ?_, h2 _ (List.mem_of_getElem? e), ?_, ?_⟩
    · rw [cT_len (fun p hp => hZ p (List.mem_of_mem_take hp)), List.length_take, Nat.min_eq_left (by omega)]
    · rw [e1] at h3
      exact focus h3
    · intro w' s' v' hs' hsh hnl hsep
      rw [if_pos hk]
      refine ⟨h.good.st id hs', st_each h.shut id hsh, Zv.set (id - 1).toNat (s', v'), ?_, ?_, ?_⟩
      · rw [List.map_set, h1]; rfl
      · intro p hp
        rcases List.mem_or_eq_of_mem_set hp with h4 | h4
        · exact h2 p h4
        · rw [h4]; exact hnl
      · rw [e2]
        exact unfocus hsep
theorem Tab.none_at (h : Tab w0 w b S R) (id : Int) (hk : known id = false) (hb : Below w.heap.size w w') (hz : w'.heap.size = w.heap.size + 1) (hB : Blk w' w.heap.size (sc nos nil_)) : ∃ A B v X, At w0 w' b S R id w.heap.size 0 A B v X := by
  obtain ⟨Zv, h1, h2, h3⟩ := h.mem
  refine ⟨[], [], nil_, R ++ tb 41 b Zv, rfl, fun _ => rfl, ?_, ?_⟩
  · rw [gt_none _ _ hk]
    have h4 := (h3.box hb hz hB).nilrow wk 41 0
    have h5 := h4.perm (List.Perm.swap _ _ _)
    unfold fc
    rw [List.nil_append, List.append_nil]
    exact h5
  · intro w' s' v' _ _ _ hsep
    rw [if_neg (by rw [hk]; decide)]
    exact ⟨h.good, h.shut, Zv, h1, h2, fc_tail hsep⟩
theorem find_any (h : Tab w0 w b S R) (id : Int) :
    Calls Try.prog 43 #[.pointer (some ⟨b, 0, none⟩), .int .i64 id] w fun e w' => ∃ g o A B v X, e = .returned (.pointer (some ⟨g, o, none⟩)) ∧ At w0 w' b S R id g o A B v X ∧ Below w.heap.size w w' ∧ (g = b ∨ w.heap.size ≤ g) := by
  cases hk : known id with
  | true =>
    refine (find_known b id w hk).mono ?_
    rintro e w' ⟨he, hw⟩
    subst hw
    obtain ⟨A, B, v, X, hA⟩ := h.at id hk
    exact ⟨_, _, A, B, v, X, he, hA, Below.refl _ _, .inl rfl⟩
  | false =>
    refine (find_none b id w hk).mono ?_
    rintro e w' ⟨he, hB, hb, hz⟩
    obtain ⟨A, B, v, X, hA⟩ := h.none_at id hk hb hz hB
    exact ⟨_, _, A, B, v, X, he, hA, hb, .inr (Nat.le_refl _)⟩
theorem st_same {S : List Ss} (hl : S.length = 8) {id : Int} (hk : known id = true) : st S id (gt S id) = S := by
  have := gt_known hl hk
  unfold st
  apply List.ext_getElem?
  intro k
  rw [List.getElem?_set]
  split
  · next e => subst e; rw [if_pos (List.getElem?_eq_some_iff.1 this).1, this]
  · rfl
theorem sep_push2 {r s : Rg} (h : Sep w0 w R) (hb : Below w.heap.size w w') (hr : r.P w') (hs : s.P w') (hnr : ∀ k ∈ r.bl, w.heap.size ≤ k ∧ k < w'.heap.size) (hns : ∀ k ∈ s.bl, w.heap.size ≤ k ∧ k < w'.heap.size) (hd : ∀ k ∈ r.bl, k ∉ s.bl) : Sep w0 w' (r :: s :: R) := by
  have h1 := h.push hb s hs hns
  refine ⟨h1.under, fun x hx => ?_, List.pairwise_cons.2 ⟨fun x hx k hk hkx => ?_, h1.disj⟩⟩
  · rcases List.mem_cons.1 hx with rfl | hx
    · exact ⟨hr, fun k hk => ⟨Nat.le_trans h.size (hnr k hk).1, (hnr k hk).2⟩⟩
    · exact h1.each x hx
  · rcases List.mem_cons.1 hx with rfl | hx
    · exact hd k hk hkx
    · have := (hnr k hk).1
      have := ((h.each x hx).2 k hkx).2
      omega
theorem fc_box2 {t : TypeId} {g : Nat} {A B : List Value} {s : Ss} {v : Value} {p q : Nat} {us vs : List Value} (h : Sep w0 w (fc t g A B s v ++ R)) (hb : Below w.heap.size w w') (hz : w'.heap.size = w.heap.size + 2) (hp : Blk w' w.heap.size us) (hq : Blk w' (w.heap.size + 1) vs) : Sep w0 w' (fc t g A B s v ++ (rB w.heap.size us :: rB (w.heap.size + 1) vs :: R)) := by
  have h1 := sep_push2 (r := rB w.heap.size us) (s := rB (w.heap.size + 1) vs) h hb hp hq (fun k hk => by simp only [rB, List.mem_singleton] at hk; omega) (fun k hk => by simp only [rB, List.mem_singleton] at hk; omega) (fun k hk h9 => by simp only [rB, List.mem_singleton] at hk h9; omega)
  refine h1.perm ?_
  unfold fc
  refine (List.Perm.cons _ (List.Perm.swap _ _ _)).trans ?_
  refine (List.Perm.swap _ _ _).trans (List.Perm.cons _ ?_)
  refine (List.Perm.cons _ (List.Perm.swap _ _ _)).trans ?_
  exact List.Perm.swap _ _ _
end

theorem cell_upd {w w' : World} {g n : Nat} (hu : Upd n w w') (hne : g ≠ n) (o : Nat) : w'.cell? ⟨g, o, none⟩ = w.cell? ⟨g, o, none⟩ := World.cell?_of_block (hu.far g hne)
theorem range_upd {w w' : World} {g n o : Nat} {vs : List Value} (hu : Upd n w w') (hne : g ≠ n) (h : w.rangeAt g o vs) : w'.rangeAt g o vs := fun j v hv => by rw [cell_upd hu hne]; exact h j v hv
/-- session j of the table's value -/
theorem Try.agg_one : ∀ w, (isAgg 92).run Try.prog w = .ok true w := fun w => by go_simp
theorem index_one (cs : Array Value) (j : Nat) (hj : j < 8) (w : World) : (Instr.index 93 (.agg cs) (.int .i64 (j : Int))).run Try.prog w = .ok (.agg (cs.extract (j * 10) (j * 10 + 10))) w := by
  have hn : 0 ≤ (j : Int) ∧ (j : Int) < (8 : Nat) := by omega
  have hs := Try.sizeOf92 w
  have ha := Try.agg_one w
  simp [Instr.index, run_underlying Try.underlying93, asIntOf, hn, hj, hs, part, ha]
theorem extract_one (A B : List Value) (s : Ss) (v : Value) (hs : s.Ok) (j : Nat) (hA : A.length = 10 * j) : (A ++ (sc s v ++ B)).toArray.extract (j * 10) (j * 10 + 10) = (sc s v).toArray := by
  have hl := sc_len hs v
  apply Array.ext'
  rw [Array.toList_extract, List.toList_toArray, List.toList_toArray, List.extract_eq_take_drop]
  rw [show j * 10 = A.length by omega, List.drop_left, Nat.add_sub_cancel_left, ← hl, List.take_left]
end Go.Proofs.Ytkiaehehckmpnaa.Zm
