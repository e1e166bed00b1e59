/- Sessions: the mathematics. -/
import Derived.Test.YtkiaehehckmpnaaWt

namespace Go.Proofs.Ytkiaehehckmpnaa.Z

open Go.Proofs.Ytkiaehehckmpnaa.I

set_option linter.unusedVariables false

set_option linter.unusedSimpArgs false

/-- a session -/
structure Ss where
  seen : List Nat
  opn : Bool
  snap : List Nat
  wr : List Wt
def nos : Ss := ⟨V.zeros, false, V.zeros, []⟩
structure Ss.Ok (s : Ss) : Prop where
  seen : V.Ok s.seen
  snap : V.Ok s.snap
  len : s.wr.length ≤ 8
  each : ∀ x ∈ s.wr, right x = true
theorem nos_ok : nos.Ok := ⟨V.zeros_ok, V.zeros_ok, Nat.zero_le _, fun x hx => by cases hx⟩
def known (id : Int) : Bool := decide (1 ≤ id ∧ id ≤ 8)
/-- where that key stands -/
def ix (L : List Wt) (k : ByteArray × ByteArray) : Nat := L.findIdx fun x => decide (key x = k)
def putL (L : List Wt) (x : Wt) : List Wt := if ix L (key x) < L.length then L.set (ix L (key x)) x else L ++ [x]
def gt (S : List Ss) (id : Int) : Ss := if known id = true then S.getD (id - 1).toNat nos else nos
def st (S : List Ss) (id : Int) (s : Ss) : List Ss := S.set (id - 1).toNat s
def norm (s : Ss) : Ss := if s.opn = true then s else ⟨s.seen, false, V.zeros, []⟩
/-- a session that is not open has nothing -/
def Shut (s : Ss) : Prop := s.opn = false → s.snap = V.zeros ∧ s.wr = []
theorem norm_shut (s : Ss) : Shut (norm s) := by
  unfold norm Shut
  by_cases h1 : s.opn = true
  · rw [if_pos h1, h1]; exact fun h => by cases h
  · rw [if_neg h1]; exact fun _ => ⟨rfl, rfl⟩
theorem norm_of {s : Ss} (h : Shut s) : norm s = s := by
  unfold norm
  split
  · rfl
  · next h1 =>
    have h2 : s.opn = false := by simpa using h1
    obtain ⟨a, b⟩ := h h2
    cases s
    simp_all
theorem norm_ok {s : Ss} (h : s.Ok) : (norm s).Ok := by
  unfold norm
  split
  · exact h
  · exact ⟨h.seen, V.zeros_ok, Nat.zero_le _, fun x hx => by cases hx⟩
def seeS (s : Ss) (v : List Nat) : Ss := { s with seen := V.join s.seen v }
def begS (s : Ss) (v : List Nat) : Ss := ⟨s.seen, true, v, []⟩
def endS (s : Ss) : Ss := ⟨s.seen, false, V.zeros, []⟩
def shutS (s : Ss) : Ss := { s with opn := false }
def putS (s : Ss) (x : Wt) : Ss := { s with wr := putL s.wr x }
def okSee (id : Int) (v : List Nat) : Bool := known id && V.right v
def aftSee (S : List Ss) (id : Int) (v : List Nat) : List Ss := if okSee id v = true then st S id (seeS (gt S id) v) else S
def errBeg (S : List Ss) (id : Int) (v : List Nat) : Int := if okSee id v = true then (if (gt S id).opn = true then 6 else 0) else 1
def aftBeg (S : List Ss) (id : Int) (v : List Nat) : List Ss := if errBeg S id v = 0 then st S id (begS (gt S id) v) else S
def errEnd (S : List Ss) (id : Int) : Int := if (gt S id).opn = true then 0 else 5
def aftEnd (S : List Ss) (id : Int) : List Ss := if (gt S id).opn = true then st S id (endS (gt S id)) else S
def shutAll (S : List Ss) (id : Int) : List Ss := if (gt S id).opn = true then st S id (shutS (gt S id)) else S
/-- what a write of x tells, where these are -/
def errPut (L : List Wt) (x : Wt) : Int := if ix L (key x) < L.length then 0 else if L.length = 8 then 4 else 0
def errWr (S : List Ss) (id : Int) (x : Wt) : Int := if (gt S id).opn = true then (if right x = true then errPut (gt S id).wr x else 1) else 5
def aftWr (S : List Ss) (id : Int) (x : Wt) : List Ss := if errWr S id x = 0 then st S id (putS (gt S id) x) else S
def ownB (L : List Wt) (k : ByteArray × ByteArray) : Bool := decide (ix L k < L.length)
def ownV (L : List Wt) (k : ByteArray × ByteArray) : Wt := L.getD (ix L k) none_
def snaps (S : List Ss) : List (List Nat) := (S.filter (·.opn)).map (·.snap)
def horizon (S : List Ss) (v : List Nat) : List Nat := V.all (snaps S ++ [v])
def many (S : List Ss) : Nat := (S.filter (·.opn)).length
theorem known_iff (id : Int) : known id = true ↔ 1 ≤ id ∧ id ≤ 8 := by simp [known]
theorem gt_none (S : List Ss) (id : Int) (h : known id = false) : gt S id = nos := by unfold gt; rw [if_neg (by rw [h]; decide)]
theorem gt_known {S : List Ss} (hl : S.length = 8) {id : Int} (h : known id = true) : S[(id - 1).toNat]? = some (gt S id) := by
  unfold gt
  rw [if_pos h]
  have := (known_iff id).1 h
  rw [List.getD_eq_getElem?_getD, List.getElem?_eq_getElem (by omega)]; rfl
theorem gt_ok {S : List Ss} (h : ∀ s ∈ S, s.Ok) (id : Int) : (gt S id).Ok := by
  unfold gt
  split
  · rw [List.getD_eq_getElem?_getD]
    cases e : S[(id - 1).toNat]? with
    | none => exact nos_ok
    | some s => exact h s (List.mem_of_getElem? e)
  · exact nos_ok
theorem gt_shut {S : List Ss} (h : ∀ s ∈ S, Shut s) (id : Int) : Shut (gt S id) := by
  unfold gt
  split
  · rw [List.getD_eq_getElem?_getD]
    cases e : S[(id - 1).toNat]? with
    | none => exact fun _ => ⟨rfl, rfl⟩
    | some s => exact h s (List.mem_of_getElem? e)
  · exact fun _ => ⟨rfl, rfl⟩
theorem gt_st {S : List Ss} (hl : S.length = 8) {id : Int} (h : known id = true) (s : Ss) (k : Int) : gt (st S id s) k = if k = id then s else gt S k := by
  have h1 := (known_iff id).1 h
  unfold gt st
  by_cases hk : known k = true
  · have h2 := (known_iff k).1 hk
    rw [if_pos hk, if_pos hk, List.getD_eq_getElem?_getD, List.getD_eq_getElem?_getD]
    by_cases e : k = id
    · subst e
      rw [if_pos rfl, List.getElem?_set_self (by omega)]; rfl
    · rw [if_neg e, List.getElem?_set_ne (by omega)]
  · rw [if_neg hk, if_neg hk, if_neg (fun e => hk (by rw [e]; exact h))]
theorem st_len (S : List Ss) (id : Int) (s : Ss) : (st S id s).length = S.length := by simp [st]
theorem st_each {S : List Ss} {P : Ss → Prop} (h : ∀ s ∈ S, P s) (id : Int) {s : Ss} (hs : P s) : ∀ x ∈ st S id s, P x := by
  intro x hx
  unfold st at hx
  rcases List.mem_or_eq_of_mem_set hx with h1 | h1
  · exact h x h1
  · rw [h1]; exact hs
theorem seeS_ok {s : Ss} (h : s.Ok) {v : List Nat} (hv : V.Ok v) : (seeS s v).Ok := ⟨V.join_ok h.seen hv, h.snap, h.len, h.each⟩
theorem begS_ok {s : Ss} (h : s.Ok) {v : List Nat} (hv : V.Ok v) : (begS s v).Ok := ⟨h.seen, hv, Nat.zero_le _, fun x hx => by cases hx⟩
theorem endS_ok {s : Ss} (h : s.Ok) : (endS s).Ok := ⟨h.seen, V.zeros_ok, Nat.zero_le _, fun x hx => by cases hx⟩
theorem shutS_ok {s : Ss} (h : s.Ok) : (shutS s).Ok := ⟨h.seen, h.snap, h.len, h.each⟩
theorem ix_le (L : List Wt) (k : ByteArray × ByteArray) : ix L k ≤ L.length := List.findIdx_le_length
theorem putL_len (L : List Wt) (x : Wt) (h : L.length ≤ 8) (he : errPut L x = 0) : (putL L x).length ≤ 8 := by
  unfold putL errPut at *
  by_cases h1 : ix L (key x) < L.length
  · rw [if_pos h1, List.length_set]; exact h
  · rw [if_neg h1] at he ⊢
    by_cases h2 : L.length = 8
    · rw [if_pos h2] at he; omega
    · rw [List.length_append]
      simp only [List.length_cons, List.length_nil]
      omega
theorem putL_each {L : List Wt} {x : Wt} {P : Wt → Prop} (h : ∀ y ∈ L, P y) (hx : P x) : ∀ y ∈ putL L x, P y := by
  intro y hy
  unfold putL at hy
  split at hy
  · rcases List.mem_or_eq_of_mem_set hy with h1 | h1
    · exact h y h1
    · rw [h1]; exact hx
  · rcases List.mem_append.1 hy with h1 | h1
    · exact h y h1
    · rw [List.mem_singleton] at h1; rw [h1]; exact hx
theorem putS_ok {s : Ss} (h : s.Ok) {x : Wt} (hx : right x = true) (he : errPut s.wr x = 0) : (putS s x).Ok := ⟨h.seen, h.snap, putL_len _ _ h.len he, putL_each h.each hx⟩
theorem putL_ne (L : List Wt) (x : Wt) : putL L x ≠ [] := by
  unfold putL
  split
  · next h => intro e; rw [List.set_eq_nil_iff] at e; subst e; exact absurd h (by simp)
  · simp
/-- the first place where p is -/
theorem ix_of {L : List Wt} {k : ByteArray × ByteArray} {i : Nat} (hi : i < L.length) (h : decide (key (L.getD i none_) = k) = true) (hn : ∀ j, j < i → decide (key (L.getD j none_) = k) = false) : ix L k = i := by
  unfold ix
  rw [List.findIdx_eq hi]
  refine ⟨?_, fun j hj => ?_⟩
  · rw [List.getD_eq_getElem?_getD, List.getElem?_eq_getElem hi] at h; exact h
  · have := hn j hj
    rw [List.getD_eq_getElem?_getD, List.getElem?_eq_getElem (by omega)] at this
    exact this
theorem ix_none {L : List Wt} {k : ByteArray × ByteArray} (h : ∀ x ∈ L, decide (key x = k) = false) : ix L k = L.length := by
  unfold ix
  rw [List.findIdx_eq_length]
  exact h
theorem ix_key {L : List Wt} {k : ByteArray × ByteArray} (h : ix L k < L.length) : key (L.getD (ix L k) none_) = k := by
  have := List.findIdx_getElem (xs := L) (p := fun x => decide (key x = k)) (w := h)
  rw [List.getD_eq_getElem?_getD, List.getElem?_eq_getElem h]
  exact of_decide_eq_true this
theorem ix_before {L : List Wt} {k : ByteArray × ByteArray} {j : Nat} (hj : j < ix L k) : key (L.getD j none_) ≠ k := by
  have hl : j < L.length := Nat.lt_of_lt_of_le hj (ix_le L k)
  have := List.not_of_lt_findIdx (xs := L) (p := fun x => decide (key x = k)) hj
  rw [List.getD_eq_getElem?_getD, List.getElem?_eq_getElem hl]
  simpa using this
/-- the document's table, and what it says -/
theorem gt_norm (D : List Ss) (id : Int) : gt (D.map norm) id = norm (gt D id) := by
  unfold gt
  split
  · rw [List.getD_eq_getElem?_getD, List.getD_eq_getElem?_getD, List.getElem?_map]
    cases D[(id - 1).toNat]? with
    | none => rfl
    | some s => rfl
  · rfl
theorem st_norm (D : List Ss) (id : Int) (s : Ss) : st (D.map norm) id (norm s) = (st D id s).map norm := by
  unfold st
  rw [List.map_set]
theorem norm_opn (s : Ss) : (norm s).opn = s.opn := by
  unfold norm
  split
  · rfl
  · next h => simp at h; simp [h]
theorem norm_seen (s : Ss) : (norm s).seen = s.seen := by unfold norm; split <;> rfl
theorem see_norm (D : List Ss) (id : Int) (v : List Nat) : aftSee (D.map norm) id v = (aftSee D id v).map norm := by
  unfold aftSee
  split
  · rw [gt_norm, ← st_norm]
    congr 1
    unfold seeS norm
    split <;> rfl
  · rfl
theorem errBeg_norm (D : List Ss) (id : Int) (v : List Nat) : errBeg (D.map norm) id v = errBeg D id v := by
  unfold errBeg
  rw [gt_norm, norm_opn]
theorem beg_norm (D : List Ss) (id : Int) (v : List Nat) : aftBeg (D.map norm) id v = (aftBeg D id v).map norm := by
  unfold aftBeg
  rw [errBeg_norm]
  split
  · rw [gt_norm, ← st_norm]
    congr 1
    unfold begS
    rw [norm_seen]; rfl
  · rfl
theorem errEnd_norm (D : List Ss) (id : Int) : errEnd (D.map norm) id = errEnd D id := by
  unfold errEnd
  rw [gt_norm, norm_opn]
theorem end_norm (D : List Ss) (id : Int) : aftEnd (D.map norm) id = (shutAll D id).map norm := by
  unfold aftEnd shutAll
  rw [gt_norm, norm_opn]
  split
  · rw [← st_norm]
    congr 1
    unfold endS
    rw [norm_seen]; rfl
  · rfl
theorem errWr_norm (D : List Ss) (id : Int) (x : Wt) : errWr (D.map norm) id x = errWr D id x := by
  unfold errWr
  rw [gt_norm, norm_opn]
  by_cases h : (gt D id).opn = true
  · have e : norm (gt D id) = gt D id := if_pos h
    rw [e]
  · rw [if_neg h, if_neg h]
theorem wr_norm (D : List Ss) (id : Int) (x : Wt) : aftWr (D.map norm) id x = (aftWr D id x).map norm := by
  unfold aftWr
  rw [errWr_norm]
  by_cases h : errWr D id x = 0
  · have h1 : (gt D id).opn = true := by
      cases h2 : (gt D id).opn with
      | true => rfl
      | false => unfold errWr at h; rw [h2, if_neg (by decide)] at h; cases h
    have e : norm (gt D id) = gt D id := if_pos h1
    rw [if_pos h, if_pos h, gt_norm, e, ← st_norm]
    congr 1
    unfold norm putS
    rw [if_pos h1]
  · rw [if_neg h, if_neg h]
theorem many_norm (D : List Ss) : many (D.map norm) = many D := by
  unfold many
  rw [List.filter_map, List.length_map]
  congr 1
  apply List.filter_congr
  intro x _
  exact norm_opn x
theorem snaps_norm (D : List Ss) : snaps (D.map norm) = snaps D := by
  unfold snaps
  induction D with
  | nil => rfl
  | cons d D ih =>
    rw [List.map_cons, List.filter_cons, List.filter_cons, norm_opn]
    split
    · next h =>
      rw [List.map_cons, List.map_cons, ih]
      congr 1
      unfold norm
      rw [if_pos h]
    · exact ih
theorem horizon_norm (D : List Ss) (v : List Nat) : horizon (D.map norm) v = horizon D v := by unfold horizon; rw [snaps_norm]
/-- what there is at all times -/
structure Good (S : List Ss) : Prop where
  len : S.length = 8
  ok : ∀ s ∈ S, s.Ok
theorem good0 : Good (List.replicate 8 nos) := ⟨by simp, fun s hs => by rw [List.eq_of_mem_replicate hs]; exact nos_ok⟩
theorem shut0 : ∀ s ∈ List.replicate 8 nos, Shut s := fun s hs => by rw [List.eq_of_mem_replicate hs]; exact fun _ => ⟨rfl, rfl⟩
theorem Good.st {S : List Ss} (h : Good S) (id : Int) {s : Ss} (hs : s.Ok) : Good (st S id s) := ⟨by rw [st_len]; exact h.len, st_each h.ok id hs⟩
theorem snaps_len {S : List Ss} (h : Good S) : ∀ l ∈ snaps S, V.Ok l := by
  intro l hl
  unfold snaps at hl
  obtain ⟨s, hs, rfl⟩ := List.mem_map.1 hl
  exact (h.ok s (List.mem_filter.1 hs).1).snap
theorem meet_comm {a b : List Nat} (ha : a.length = 4) (hb : b.length = 4) : V.meet a b = V.meet b a := by
  obtain ⟨a0, a1, a2, a3, rfl⟩ := V.four ha
  obtain ⟨b0, b1, b2, b3, rfl⟩ := V.four hb
  simp [V.meet, Nat.min_comm]
theorem meet_assoc {a b c : List Nat} (ha : a.length = 4) (hb : b.length = 4) (hc : c.length = 4) : V.meet (V.meet a b) c = V.meet a (V.meet b c) := by
  obtain ⟨a0, a1, a2, a3, rfl⟩ := V.four ha
  obtain ⟨b0, b1, b2, b3, rfl⟩ := V.four hb
  obtain ⟨c0, c1, c2, c3, rfl⟩ := V.four hc
  simp [V.meet, Nat.min_assoc]
end Go.Proofs.Ytkiaehehckmpnaa.Z
