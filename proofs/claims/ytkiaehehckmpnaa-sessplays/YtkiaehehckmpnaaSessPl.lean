/- Both tables beside one another. -/
import Derived.Test.YtkiaehehckmpnaaSessQ

import Derived.Test.YtkiaehehckmpnaaFrameDeed14

namespace Go.Proofs.Ytkiaehehckmpnaa.Zm

open Go.RowKit Go.Proofs.Ytkiaehehckmpnaa.Vc Go.Proofs.Ytkiaehehckmpnaa.Sp Go.Proofs.Ytkiaehehckmpnaa.Rw Go.Proofs.Ytkiaehehckmpnaa.Se Go.Proofs.Ytkiaehehckmpnaa.It Go.Proofs.Ytkiaehehckmpnaa.Z

set_option linter.unusedVariables false

set_option linter.unusedSimpArgs false

set_option maxRecDepth 100000

theorem neq_rv (a : List Nat) (ha : a.length = 4) (w : World) : (binOp .neq 32 (AV .u64 a) (AV .u64 a)).run Try.prog w = .ok (.bool false) w := by
  have h := eq_r a a ha ha w
  have e : binOp .neq 32 (AV .u64 a) (AV .u64 a) = (do pure (.bool (!(← Op.equalIn 10000 32 (AV .u64 a) (AV .u64 a))))) := rfl
  rw [e]
  simp only [Sem.run_bind, h, Result.andThen_ok, Sem.run_pure]
  simp
theorem guardType_rv9 : Try.prog.eqGuardType Try.prog.depth 32 = false := by kernel_rfl
theorem guard_nrv (x y : Operand) (l m : List Nat) (w : World) : (eqGuard .neq 32 x y (AV .u64 l) (AV .u64 m)).run Try.prog w = .ok () w := by
  unfold AV
  simp [eqGuard, guardType_rv9]
theorem isw_at {u : World} {b off c : Nat} {z : I.Wt} (h : IsWs u (.slice (some ⟨b, off, none⟩) 1 c) [z]) : b < u.heap.size ∧ u.rangeAt b off (wc z) := by
  obtain ⟨g, o, c9, hv, hg, hr⟩ := IsR.at (isR_of h) 0 (by simp)
  have h9 : (some ⟨b, off, none⟩ : Option Addr) = some ⟨g, o, none⟩ := by injection hv
  simp only [Option.some.injEq, Addr.mk.injEq, and_true] at h9
  obtain ⟨rfl, rfl⟩ := h9
  exact ⟨hg, hr⟩
/-- a row of one write -/
def Spc.isw (z : I.Wt) : Spc where
  S v := ∃ b off cap, v = .slice (some ⟨b, off, none⟩) 1 cap
  T u v := IsWs u v [z]
  st u u' v hb := fun h => h.below hb
  w0 := .slice (some ⟨0, 0, none⟩) 1 0
  hw := ⟨0, 0, 0, rfl⟩
/-- where these cells lie -/
def Spc.cells (vs : List Value) : Spc where
  S v := ∃ b off, v = .pointer (some ⟨b, off, none⟩)
  T u v := ∃ b off, v = .pointer (some ⟨b, off, none⟩) ∧ b < u.heap.size ∧ u.rangeAt b off vs
  st u u' v hb := fun ⟨b, off, e, hl, h⟩ => ⟨b, off, e, Nat.lt_of_lt_of_le hl hb.size, fun j x hx => by rw [hb.cell (p := ⟨b, off + j, none⟩) hl]; exact h j x hx⟩
  w0 := .pointer (some ⟨0, 0, none⟩)
  hw := ⟨0, 0, rfl⟩
theorem cells_get {u : World} {b off : Nat} {vs : List Value} (h : (Spc.cells vs).T u (.pointer (some ⟨b, off, none⟩))) : u.rangeAt b off vs := by
  obtain ⟨g, o, hv, _, hr⟩ := h
  have h9 : (some ⟨b, off, none⟩ : Option Addr) = some ⟨g, o, none⟩ := by injection hv
  simp only [Option.some.injEq, Addr.mk.injEq, and_true] at h9
  obtain ⟨rfl, rfl⟩ := h9
  exact hr
section

variable {P : Program} {ops : Array Oper} {rest : List Oper} {o : Oper} {a : Act} {C : World → Prop} {Lq : Act → List (World → Prop) → Prop} {ts : List Spc} {Fs : List (World → Prop)}

theorem rg_fact (hw : Region.wanted o (yielded ops a.tmps) = true) {s : Spc} (v : Value) (hS : s.S v) (hr : ∀ u, C u → Need o Fs u → (execOp a.eval o).run P u = .ok (.value v) u ∧ s.T u v)
    (h : ∀ v, s.S v → ∀ K : Act → Prop, (∀ a, RW P ops C Lq rest ts ((fun u => s.T u v) :: Fs) a → K a) → K (a.put o.dst v)) : RW P ops C Lq (o :: rest) (s :: ts) Fs a :=
  r_any hw (fun u hu hn => by rw [(hr u hu hn).1]; exact ⟨Below.refl _ _, hS, (hr u hu hn).2⟩) h
theorem rg_row1 (hw : Region.wanted o (yielded ops a.tmps) = true) {z : I.Wt} (t : TypeId) (hr : ∀ u, C u → (execOp a.eval o).run P u = .ok (.value (.slice (some ⟨u.heap.size, 0, none⟩) 1 1)) (u.alloc (.cells (wc z).toArray t)))
    (h : ∀ v, (Spc.isw z).S v → ∀ K : Act → Prop, (∀ a, RW P ops C Lq rest ts ((fun u => (Spc.isw z).T u v) :: Fs) a → K a) → K (a.put o.dst v)) : RW P ops C Lq (o :: rest) (Spc.isw z :: ts) Fs a :=
  r_any hw (fun u hu hn => by
    rw [hr u hu]
    have hX : (u.alloc (.cells (wk.cf z).toArray t)).heap[u.heap.size]? = some (.cells (wk.cf z).toArray t (0, 0)) := heap_alloc_last u _
    exact ⟨(Below.refl _ _).alloc (Nat.le_refl _) _, ⟨_, _, _, rfl⟩, ⟨(IsR.one (K := wk) (Blk.of_row hX) (Array.getElem?_eq_some_iff.1 hX).1).is⟩⟩) h
end

/-- the program's table and the document's, and what lies beside them -/
structure Pl (w0 w : World) (b d : Nat) (S D : List Ss) (R : List Rg) : Prop where
  good : Z.Good S
  shut : ∀ s ∈ S, Z.Shut s
  goodD : Z.Good D
  mem : ∃ Zv Yv : Zs, Zv.map (·.1) = S ∧ (∀ p ∈ Zv, Nl p) ∧ Yv.map (·.1) = D ∧ (∀ p ∈ Yv, Nl p) ∧ Sep w0 w (R ++ (tb 41 b Zv ++ tb 56 d ((nos, nil_) :: Yv)))
section

variable {w0 w w' : World} {b d : Nat} {S D : List Ss} {R : List Rg}

theorem Pl.t (h : Pl w0 w b d S D R) : ∃ Q, Tab w0 w b S Q ∧ ∀ w' S', Tab w0 w' b S' Q → Pl w0 w' b d S' D R := by
  obtain ⟨Zv, Yv, h1, h2, h3, h4, h5⟩ := h.mem
  refine ⟨R ++ tb 56 d ((nos, nil_) :: Yv), ⟨h.good, h.shut, Zv, h1, h2, ?_⟩, fun w' S' hT => ?_⟩
  · rw [List.append_assoc]
    exact h5.perm (List.Perm.append_left R List.perm_append_comm)
  · obtain ⟨Zv', z1, z2, z3⟩ := hT.mem
    rw [List.append_assoc] at z3
    exact ⟨hT.good, hT.shut, h.goodD, Zv', Yv, z1, z2, h3, h4, z3.perm (List.Perm.append_left R List.perm_append_comm)⟩
theorem Pl.doc (h : Pl w0 w b d S D R) : ∃ Q, DTab w0 w d D Q ∧ ∀ w' D', DTab w0 w' d D' Q → Pl w0 w' b d S D' R := by
  obtain ⟨Zv, Yv, h1, h2, h3, h4, h5⟩ := h.mem
  refine ⟨R ++ tb 41 b Zv, ⟨h.goodD, Yv, h3, h4, ?_⟩, fun w' D' hT => ?_⟩
  · rw [List.append_assoc]; exact h5
  · obtain ⟨Yv', z1, z2, z3⟩ := hT.mem
    rw [List.append_assoc] at z3
    exact ⟨h.good, h.shut, hT.good, Zv, Yv', h1, h2, z1, z2, z3⟩
theorem Pl.below (h : Pl w0 w b d S D R) (hb : Below w.heap.size w w') : Pl w0 w' b d S D R := by
  obtain ⟨Zv, Yv, h1, h2, h3, h4, h5⟩ := h.mem
  exact ⟨h.good, h.shut, h.goodD, Zv, Yv, h1, h2, h3, h4, h5.below hb⟩
theorem Pl.sep (h : Pl w0 w b d S D R) : Sep w0 w R := by
  obtain ⟨Zv, Yv, h1, h2, h3, h4, h5⟩ := h.mem
  exact h5.sub (List.sublist_append_left _ _)
theorem Pl.under (h : Pl w0 w b d S D R) : Below w0.heap.size w0 w := h.sep.under
theorem Pl.fresh {w1 : World} (h : Pl w0 w b d S D R) (hb : Below w.heap.size w w1) (hz : w1.heap.size = w.heap.size + 1) (hu : Upd w.heap.size w1 w') {vs : List Value} (hB : Blk w' w.heap.size vs) : Pl w0 w' b d S D (rB w.heap.size vs :: R) := by
  obtain ⟨Zv, Yv, h1, h2, h3, h4, h5⟩ := h.mem
  exact ⟨h.good, h.shut, h.goodD, Zv, Yv, h1, h2, h3, h4, h5.fresh hb hz hu hB⟩
theorem Pl.push (h : Pl w0 w b d S D R) (hb : Below w.heap.size w w') (r : Rg) (hr : r.P w') (hn : ∀ k ∈ r.bl, w.heap.size ≤ k ∧ k < w'.heap.size) : Pl w0 w' b d S D (r :: R) := by
  obtain ⟨Zv, Yv, h1, h2, h3, h4, h5⟩ := h.mem
  exact ⟨h.good, h.shut, h.goodD, Zv, Yv, h1, h2, h3, h4, h5.push hb r hr hn⟩
theorem Pl.sub {R' : List Rg} (h : Pl w0 w b d S D R) (hs : R'.Sublist R) : Pl w0 w b d S D R' := by
  obtain ⟨Zv, Yv, h1, h2, h3, h4, h5⟩ := h.mem
  exact ⟨h.good, h.shut, h.goodD, Zv, Yv, h1, h2, h3, h4, h5.sub (hs.append_right _)⟩
/-- a new document's table beside a table -/
theorem drows {L : List Rg} (h : Sep w0 w L) : ∀ n, Sep w0 w (List.replicate n (rO wk 56 0 nil_ []) ++ L)
  | 0 => h
  | n + 1 => by
    rw [List.replicate_succ, List.cons_append]
    exact (drows h n).nilrow wk 56 0
theorem Pl.new (h : Tab w0 w b S0 R) (hb : Below w.heap.size w w') (hz : w'.heap.size = w.heap.size + 1) (hB : Blk w' w.heap.size (cT (List.replicate 9 (nos, nil_)))) : Pl w0 w' b w.heap.size S0 S0 R := by
  obtain ⟨Zv, h1, h2, h3⟩ := h.mem
  refine ⟨h.good, h.shut, good0, Zv, List.replicate 8 (nos, nil_), h1, h2, by simp [S0], fun p hp => by rw [List.eq_of_mem_replicate hp]; exact fun _ => rfl, ?_⟩
  have h4 := ((drows h3 9).box hb hz hB)
  refine h4.perm ?_
  have e : rT 56 ((nos, nil_) :: List.replicate 8 (nos, nil_)) = List.replicate 9 (rO wk 56 0 nil_ []) := by rw [← List.replicate_succ]; simp [rT, nos]
  have e2 : ((nos, nil_) :: List.replicate 8 (nos, nil_) : Zs) = List.replicate 9 (nos, nil_) := (List.replicate_succ ..).symm
  unfold tb at *
  rw [e, e2]
  have h9 := (List.perm_append_comm (l₁ := rB w.heap.size (cT (List.replicate 9 (nos, nil_))) :: List.replicate 9 (rO wk 56 0 nil_ [])) (l₂ := R ++ (rB b (cT Zv) :: rT 41 Zv)))
  rw [List.append_assoc R] at h9
  exact h9
theorem p_begin (h : Pl w0 w b d S D R) (id : Int) (l : List Nat) (hl : V.Ok l) : Calls Try.prog 13 #[.pointer (some ⟨b, 0, none⟩), .int .i64 id, AV .u64 l] w fun e w' => e = .returned (.int .i64 (errBeg S id l)) ∧ Pl w0 w' b d (aftBeg S id l) D R := by
  obtain ⟨Q, hT, hk⟩ := h.t
  exact (tbegin_any hT id l hl).mono fun e w' ⟨he, ht⟩ => ⟨he, hk _ _ ht⟩
theorem p_end (h : Pl w0 w b d S D R) (id : Int) : Calls Try.prog 15 #[.pointer (some ⟨b, 0, none⟩), .int .i64 id] w fun e w' => e = .returned (.int .i64 (errEnd S id)) ∧ Pl w0 w' b d (aftEnd S id) D R := by
  obtain ⟨Q, hT, hk⟩ := h.t
  exact (tend_any hT id).mono fun e w' ⟨he, ht⟩ => ⟨he, hk _ _ ht⟩
theorem p_see (h : Pl w0 w b d S D R) (id : Int) (l : List Nat) (hl : V.Ok l) : Calls Try.prog 17 #[.pointer (some ⟨b, 0, none⟩), .int .i64 id, AV .u64 l] w fun e w' => e = .returned (.bool (okSee id l)) ∧ Pl w0 w' b d (aftSee S id l) D R := by
  obtain ⟨Q, hT, hk⟩ := h.t
  exact (tsee_any hT id l hl).mono fun e w' ⟨he, ht⟩ => ⟨he, hk _ _ ht⟩
theorem p_write (h : Pl w0 w b d S D R) (id : Int) (x : I.Wt) : Calls Try.prog 19 #[.pointer (some ⟨b, 0, none⟩), .int .i64 id, WV x] w fun e w' => e = .returned (.int .i64 (errWr S id x)) ∧ Pl w0 w' b d (aftWr S id x) D R := by
  obtain ⟨Q, hT, hk⟩ := h.t
  exact (twrite_any hT id x).mono fun e w' ⟨he, ht⟩ => ⟨he, hk _ _ ht⟩
theorem q_begin (h : Pl w0 w b d S D R) (id : Int) (l : List Nat) (hl : V.Ok l) : Calls Try.prog 14 #[.pointer (some ⟨d, 0, none⟩), .int .i64 id, AV .u64 l] w fun e w' => e = .returned (.int .i64 (errBeg D id l)) ∧ Pl w0 w' b d S (aftBeg D id l) R := by
  obtain ⟨Q, hT, hk⟩ := h.doc
  exact (dbegin_any hT id l hl).mono fun e w' ⟨he, ht⟩ => ⟨he, hk _ _ ht⟩
theorem q_end (h : Pl w0 w b d S D R) (id : Int) : Calls Try.prog 16 #[.pointer (some ⟨d, 0, none⟩), .int .i64 id] w fun e w' => e = .returned (.int .i64 (errEnd D id)) ∧ Pl w0 w' b d S (shutAll D id) R := by
  obtain ⟨Q, hT, hk⟩ := h.doc
  exact (dend_any hT id).mono fun e w' ⟨he, ht⟩ => ⟨he, hk _ _ ht⟩
theorem q_see (h : Pl w0 w b d S D R) (id : Int) (l : List Nat) (hl : V.Ok l) : Calls Try.prog 18 #[.pointer (some ⟨d, 0, none⟩), .int .i64 id, AV .u64 l] w fun e w' => e = .returned (.bool (okSee id l)) ∧ Pl w0 w' b d S (aftSee D id l) R := by
  obtain ⟨Q, hT, hk⟩ := h.doc
  exact (dsee_any hT id l hl).mono fun e w' ⟨he, ht⟩ => ⟨he, hk _ _ ht⟩
theorem q_write (h : Pl w0 w b d S D R) (id : Int) (x : I.Wt) : Calls Try.prog 20 #[.pointer (some ⟨d, 0, none⟩), .int .i64 id, WV x] w fun e w' => e = .returned (.int .i64 (errWr D id x)) ∧ Pl w0 w' b d S (aftWr D id x) R := by
  obtain ⟨Q, hT, hk⟩ := h.doc
  exact (dwrite_any hT id x).mono fun e w' ⟨he, ht⟩ => ⟨he, hk _ _ ht⟩
end

section

variable {w0 w w' : World} {b d : Nat} {D : List Ss} {R : List Rg}

theorem p_snap (h : Pl w0 w b d (D.map norm) D R) (id : Int) : Calls Try.prog 22 #[.pointer (some ⟨b, 0, none⟩), .int .i64 id] w fun e w' => e = .returned (.tuple #[AV .u64 (norm (gt D id)).snap, .bool (gt D id).opn]) ∧ Below w.heap.size w w' := by
  obtain ⟨Q, hT, hk⟩ := h.t
  have := tsnap_any hT id
  rw [gt_norm, norm_opn] at this
  exact this
theorem p_own (h : Pl w0 w b d (D.map norm) D R) (id : Int) (bk ky : ByteArray) : Calls Try.prog 24 #[.pointer (some ⟨b, 0, none⟩), .int .i64 id, .string bk, .string ky] w fun e w' => e = .returned (.tuple #[WV (ownV (norm (gt D id)).wr (bk, ky)), .bool (ownB (norm (gt D id)).wr (bk, ky))]) ∧ Below w.heap.size w w' := by
  obtain ⟨Q, hT, hk⟩ := h.t
  have := town_any hT id bk ky
  rw [gt_norm] at this
  exact this
theorem p_writes (h : Pl w0 w b d (D.map norm) D R) (id : Int) : Calls Try.prog 26 #[.pointer (some ⟨b, 0, none⟩), .int .i64 id] w fun e w' => ∃ v', e = .returned v' ∧ OR wk 41 w' w.heap.size v' (norm (gt D id)).wr ∧ Below w.heap.size w w' := by
  obtain ⟨Q, hT, hk⟩ := h.t
  have := twrites_any hT id
  rw [gt_norm] at this
  exact this
theorem p_seen (h : Pl w0 w b d (D.map norm) D R) (id : Int) : Calls Try.prog 28 #[.pointer (some ⟨b, 0, none⟩), .int .i64 id] w fun e w' => e = .returned (AV .u64 (gt D id).seen) ∧ Below w.heap.size w w' := by
  obtain ⟨Q, hT, hk⟩ := h.t
  have := tseen_any hT id
  rw [gt_norm, norm_seen] at this
  exact this
theorem p_hor (h : Pl w0 w b d (D.map norm) D R) (l : List Nat) (hl : V.Ok l) : Calls Try.prog 30 #[.pointer (some ⟨b, 0, none⟩), AV .u64 l] w fun e w' => e = .returned (AV .u64 (horizon D l)) ∧ Below w.heap.size w w' := by
  obtain ⟨Q, hT, hk⟩ := h.t
  have := thor_any hT l hl
  rw [horizon_norm] at this
  exact this
theorem p_many (h : Pl w0 w b d (D.map norm) D R) : Calls Try.prog 32 #[.pointer (some ⟨b, 0, none⟩)] w fun e w' => e = .returned (.int .i64 (many D : Int)) ∧ Below w.heap.size w w' := by
  obtain ⟨Q, hT, hk⟩ := h.t
  have := tmany_any hT
  rw [many_norm] at this
  exact this
end

end Go.Proofs.Ytkiaehehckmpnaa.Zm
