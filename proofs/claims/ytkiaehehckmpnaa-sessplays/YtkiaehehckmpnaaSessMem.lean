/- Sessions in memory: their cells, rows of what they write; one of them and the others. -/
import Derived.Test.YtkiaehehckmpnaaSessM

import Derived.Test.YtkiaehehckmpnaaParts

namespace Go.Proofs.Ytkiaehehckmpnaa.Zm

open Go.RowKit Go.Proofs.Ytkiaehehckmpnaa.Vc Go.Proofs.Ytkiaehehckmpnaa.Sp Go.Proofs.Ytkiaehehckmpnaa.Rw Go.Proofs.Ytkiaehehckmpnaa.Se Go.Proofs.Ytkiaehehckmpnaa.It Go.Proofs.Ytkiaehehckmpnaa.Z

set_option linter.unusedVariables false

set_option linter.unusedSimpArgs false

set_option maxRecDepth 100000

def wk : Kd I.Wt := ⟨wc, 4, by decide, fun _ => rfl, fun x u hu => List.all_eq_true.1 (one_wc x) u hu, I.none_⟩
theorem isR_of {w : World} {v : Value} {L : List I.Wt} (h : IsWs w v L) : IsR wk w v L := ⟨h.is⟩
theorem isW_of {w : World} {v : Value} {L : List I.Wt} (h : IsR wk w v L) : IsWs w v L := ⟨h.is⟩
/-- vectors in a row -/
def vcell (l : List Nat) : List Value := [.int .u64 ((l.getD 0 0 : Nat) : Int), .int .u64 ((l.getD 1 0 : Nat) : Int), .int .u64 ((l.getD 2 0 : Nat) : Int), .int .u64 ((l.getD 3 0 : Nat) : Int)]
def vk : Kd (List Nat) where
  cf := vcell
  k := 4
  pos := by decide
  len x := rfl
  one x u hu := by
    simp only [vcell, List.mem_cons, List.not_mem_nil, or_false] at hu
    rcases hu with rfl | rfl | rfl | rfl <;> rfl
  none_ := V.zeros
theorem vk_cf {l : List Nat} (h : l.length = 4) : vk.cf l = ks .u64 l := by
  obtain ⟨a, b, c, d, rfl⟩ := V.four h
  rfl
theorem vk_vecs {w : World} {b o : Nat} {L : List (List Nat)} (h : Rs vk w b o L) (hL : ∀ l ∈ L, l.length = 4) : Vecs w b o L := fun i l hl => by
  have := h i l hl
  rw [vk_cf (hL l (List.mem_of_getElem? hl))] at this
  exact this
/-- a session's cells; v holds what it writes -/
def sc (s : Ss) (v : Value) : List Value := ks .u64 s.seen ++ (Value.bool s.opn :: (ks .u64 s.snap ++ [v]))
theorem sc_len {s : Ss} (h : s.Ok) (v : Value) : (sc s v).length = 10 := by
  have h1 := h.seen.1
  have h2 := h.snap.1
  simp [sc, ks_length, h1, h2]
abbrev Zs := List (Ss × Value)
def cT (Z : Zs) : List Value := (Z.map fun p => sc p.1 p.2).flatten
def rT (t : TypeId) (Z : Zs) : List Rg := Z.map fun p => rO wk t 0 p.2 p.1.wr
/-- where nothing is written, there is no row -/
def Nl (p : Ss × Value) : Prop := p.1.wr = [] → p.2 = .slice none 0 0
theorem cT_len {Z : Zs} (h : ∀ p ∈ Z, p.1.Ok) : (cT Z).length = 10 * Z.length := by
  induction Z with
  | nil => rfl
  | cons p Z ih =>
    unfold cT at ih ⊢
    rw [List.map_cons, List.flatten_cons, List.length_append, sc_len (h p (List.mem_cons_self ..)), ih (fun q hq => h q (List.mem_cons_of_mem _ hq)), List.length_cons]
    omega
theorem cT_split (A B : Zs) (p : Ss × Value) : cT (A ++ p :: B) = cT A ++ (sc p.1 p.2 ++ cT B) := by simp [cT]
theorem rT_split (t : TypeId) (A B : Zs) (p : Ss × Value) : rT t (A ++ p :: B) = rT t A ++ (rO wk t 0 p.2 p.1.wr :: rT t B) := by simp [rT]
def tb (t : TypeId) (b : Nat) (Z : Zs) : List Rg := rB b (cT Z) :: rT t Z
/-- one session and its row, ahead of all others -/
def fc (t : TypeId) (g : Nat) (A B : List Value) (s : Ss) (v : Value) : List Rg := [rB g (A ++ (sc s v ++ B)), rO wk t 0 v s.wr]
theorem focus {t : TypeId} {w0 w : World} {b : Nat} {A B : Zs} {s : Ss} {v : Value} {R : List Rg} (h : Sep w0 w (R ++ tb t b (A ++ (s, v) :: B))) : Sep w0 w (fc t b (cT A) (cT B) s v ++ (R ++ (rT t A ++ rT t B))) := by
  refine h.perm ?_
  unfold tb fc
  rw [cT_split, rT_split]
  simp only [List.cons_append, List.nil_append]
  refine List.perm_middle.trans (List.Perm.cons _ ?_)
  refine (List.Perm.append_left R List.perm_middle).trans ?_
  exact List.perm_middle
theorem unfocus {t : TypeId} {w0 w : World} {b : Nat} {A B : Zs} {s : Ss} {v : Value} {R : List Rg} (h : Sep w0 w (fc t b (cT A) (cT B) s v ++ (R ++ (rT t A ++ rT t B)))) : Sep w0 w (R ++ tb t b (A ++ (s, v) :: B)) := by
  refine h.perm ?_
  unfold tb fc
  rw [cT_split, rT_split]
  simp only [List.cons_append, List.nil_append]
  refine ((List.perm_middle.trans (List.Perm.cons _ ?_)) : List.Perm _ _).symm
  refine (List.Perm.append_left R List.perm_middle).trans ?_
  exact List.perm_middle
/-- the parts of a list at place i -/
theorem split_at {Z : Zs} {i : Nat} {p : Ss × Value} (h : Z[i]? = some p) : Z = Z.take i ++ p :: Z.drop (i + 1) ∧ ∀ q, Z.set i q = Z.take i ++ q :: Z.drop (i + 1) := by
  have hi := (List.getElem?_eq_some_iff.1 h).1
  have e := (List.getElem?_eq_some_iff.1 h).2
  refine ⟨?_, fun q => by rw [List.set_eq_take_append_cons_drop, if_pos hi]⟩
  rw [← e, ← List.drop_eq_getElem_cons hi, List.take_append_drop]
section

variable {w0 w w' : World} {t : TypeId} {g : Nat} {A B : List Value} {s : Ss} {v : Value} {R : List Rg}

theorem fc_blk (h : Sep w0 w (fc t g A B s v ++ R)) : Blk w g (A ++ (sc s v ++ B)) := h.blk 0 rfl
theorem fc_or (h : Sep w0 w (fc t g A B s v ++ R)) : OR wk t w 0 v s.wr := h.or 1 rfl
theorem fc_lt (h : Sep w0 w (fc t g A B s v ++ R)) : g < w.heap.size := (h.lt 0 (r := rB g (A ++ (sc s v ++ B))) rfl g (by simp [rB])).2
theorem fc_tail (h : Sep w0 w (fc t g A B s v ++ R)) : Sep w0 w R := (h.tail).tail
theorem mid_row {us vs ws : List Value} (h : Blk w g (us ++ (vs ++ ws))) : w.rangeAt g us.length vs := fun j u hu => by
  have hj := (List.getElem?_eq_some_iff.1 hu).1
  have := h.1 (us.length + j) u (by rw [List.getElem?_append_right (by omega), Nat.add_sub_cancel_left, List.getElem?_append_left hj]; exact hu)
  rwa [Nat.zero_add] at this
theorem mid_free {us vs ws : List Value} (h : Blk w g (us ++ (vs ++ ws))) (j : Nat) (hj : j < vs.length) : w.frozen? ⟨g, us.length + j, none⟩ = false := h.free _ (by simp; omega)
/-- the cells of one session -/
theorem fc_seen (h : Blk w g (A ++ (sc s v ++ B))) {o : Nat} (ho : A.length = o) : w.rangeAt g o (ks .u64 s.seen) := by
  unfold sc at h
  rw [List.append_assoc] at h
  rw [← ho]
  exact mid_row h
theorem fc_open (h : Blk w g (A ++ (sc s v ++ B))) (hs : s.seen.length = 4) {o : Nat} (ho : A.length = o) : w.cell? ⟨g, o + 4, none⟩ = some (.bool s.opn) := by
  have hr := mid_row h
  rw [ho] at hr
  exact hr 4 _ (by unfold sc; rw [List.getElem?_append_right (by rw [ks_length, hs]; exact Nat.le_refl _), ks_length, hs]; rfl)
theorem fc_snap (h : Blk w g (A ++ (sc s v ++ B))) (hs : s.seen.length = 4) {o : Nat} (ho : A.length = o) : w.rangeAt g (o + 5) (ks .u64 s.snap) := by
  have e : A ++ (sc s v ++ B) = (A ++ (ks .u64 s.seen ++ [Value.bool s.opn])) ++ (ks .u64 s.snap ++ ([v] ++ B)) := by simp [sc]
  rw [e] at h
  have := mid_row h
  rw [show (A ++ (ks .u64 s.seen ++ [Value.bool s.opn])).length = o + 5 by simp [ks_length, hs, ho]] at this
  exact this
theorem fc_wr (h : Blk w g (A ++ (sc s v ++ B))) (hs : s.seen.length = 4) (hn : s.snap.length = 4) {o : Nat} (ho : A.length = o) : w.cell? ⟨g, o + 9, none⟩ = some v := by
  have e : A ++ (sc s v ++ B) = (A ++ (ks .u64 s.seen ++ (Value.bool s.opn :: ks .u64 s.snap))) ++ ([v] ++ B) := by simp [sc]
  rw [e] at h
  have := mid_row h 0 v rfl
  rw [show (A ++ (ks .u64 s.seen ++ (Value.bool s.opn :: ks .u64 s.snap))).length = o + 9 by simp [ks_length, hs, hn, ho]] at this
  exact this
theorem fc_whole (h : Blk w g (A ++ (sc s v ++ B))) {o : Nat} (ho : A.length = o) : w.rangeAt g o (sc s v) := by rw [← ho]; exact mid_row h
theorem fc_free (h : Blk w g (A ++ (sc s v ++ B))) (hs : s.Ok) {o : Nat} (ho : A.length = o) (j : Nat) (hj : j < 10) : w.frozen? ⟨g, o + j, none⟩ = false := by
  rw [← ho]
  exact mid_free h j (by rw [sc_len hs]; exact hj)
end

/-- cells in the midst of a block are others -/
theorem setCells_mid {w : World} {g : Nat} {us vs ws xs : List Value} (h : Blk w g (us ++ (vs ++ ws))) (hl : xs.length = vs.length) : Blk (w.setCells g us.length xs) g (us ++ (xs ++ ws)) := by
  have hth : w.there g us.length vs.length := fun j hj => by
    have := h.2 (us.length + j) (by simp; omega)
    rwa [Nat.zero_add] at this
  refine ⟨fun j u hu => ?_, fun j hj => ?_⟩
  · rw [Nat.zero_add]
    by_cases h1 : us.length ≤ j ∧ j < us.length + xs.length
    · obtain ⟨d, rfl⟩ : ∃ d, j = us.length + d := ⟨j - us.length, by omega⟩
      have hr := World.rangeAt_setCells_same w g us.length xs (by rw [hl]; exact hth)
      refine hr d u ?_
      rw [List.getElem?_append_right (by omega), Nat.add_sub_cancel_left, List.getElem?_append_left (by omega)] at hu
      exact hu
    · have hc : (w.setCells g us.length xs).cell? ⟨g, j, none⟩ = w.cell? ⟨g, j, none⟩ := World.cell?_setCells_out g xs us.length w ⟨g, j, none⟩ (fun _ _ => by show j < us.length ∨ us.length + xs.length ≤ j; omega)
      rw [hc]
      refine h.cell j u ?_
      by_cases h2 : j < us.length
      · rw [List.getElem?_append_left h2] at hu ⊢
        exact hu
      · rw [List.getElem?_append_right (by omega), List.getElem?_append_right (by omega)] at hu ⊢
        rw [← hl]
        exact hu
  · have hj' : j < (us ++ (vs ++ ws)).length := by simp at hj ⊢; omega
    exact World.there_setCells h.2 g us.length xs j hj'
section

variable {w0 w w' : World} {t : TypeId} {g : Nat} {A B : List Value} {s : Ss} {v : Value} {R : List Rg}

/-- one session's cells are others; its row stays, or is nothing -/
theorem fc_set (h : Sep w0 w (fc t g A B s v ++ R)) (s' : Ss) (v' : Value) (hu : Upd g w w') (hb : Blk w' g (A ++ (sc s' v' ++ B))) (hr : (v' = v ∧ s'.wr = s.wr) ∨ (v' = .slice none 0 0 ∧ s'.wr = [])) : Sep w0 w' (fc t g A B s' v' ++ R) := by
  have h1 : Sep w0 w' ((fc t g A B s v ++ R).set 0 (rB g (A ++ (sc s' v' ++ B)))) := h.upd 0 (vs := A ++ (sc s v ++ B)) rfl hu hb
  rcases hr with ⟨rfl, e⟩ | ⟨rfl, e⟩
  · unfold fc at h1 ⊢
    rw [e]
    exact h1
  · have h2 : Sep w0 w' (rB g (A ++ (sc s' (.slice none 0 0) ++ B)) :: R) := h1.sub (List.Sublist.cons_cons _ (List.sublist_cons_self _ _))
    have h3 := (h2.nilrow wk t 0).perm (List.Perm.swap _ _ _)
    unfold fc
    rw [e]
    exact h3
/-- the row turns, and the cell with it -/
theorem fc_row {w1 : World} (h : Sep w0 w (fc t g A B s v ++ R)) (s' : Ss) (v' : Value) (hc : OR wk t w1 0 v' s'.wr) (hg : w.grownBy w1 v.ownBlock) (hn : Nw w v v') (hu : Upd g w1 w') (hb : Blk w1 g (A ++ (sc s v ++ B)) → Blk w' g (A ++ (sc s' v' ++ B))) : Sep w0 w' (fc t g A B s' v' ++ R) := by
  have h1 : Sep w0 w1 ((fc t g A B s v ++ R).set 1 (rO wk t 0 v' s'.wr)) := h.row 1 (L := s.wr) rfl hc hg hn
  exact h1.upd 0 (vs := A ++ (sc s v ++ B)) rfl hu (hb (h1.blk 0 rfl))
end

end Go.Proofs.Ytkiaehehckmpnaa.Zm
