/- Sessions: the words of the walks: boxes beside a session, stores into its cells, appends. -/
import Derived.Test.YtkiaehehckmpnaaSessA

import Derived.Test.YtkiaehehckmpnaaRegionPick

namespace Go.Proofs.Ytkiaehehckmpnaa.Rw

open Go.RowKit

set_option linter.unusedVariables false

set_option maxRecDepth 100000

section

variable {β : Type} {K : Kd β}

theorem append_any {t ts : TypeId} (ty : TypeId) {bytes : Nat} (hu : Try.prog.underlying ts = some (.slice t)) {z : Value} (hinf : (Try.prog.info? t).map (fun i => (i.zero, i.size, i.bytes)) = some (some z, K.k, bytes)) (hzc : z.cells.size = K.k) (w : World) (base : Nat) (v : Value) (L : List β) (hown : OR K t w base v L) (x : Value) (M : List β) (hM : IsR K w x M) (hl : L.length + M.length ≤ 1000000) (hby : bytes ≤ 100000) (hbase : base ≤ w.heap.size) :
    ∃ v' w', (Builtin.append_ #[ts, ts] ty #[v, x]).run Try.prog w = .ok v' w' ∧ OR K t w' base v' (L ++ M) ∧ w.grownBy w' v.ownBlock ∧ Nw w v v' := by
  obtain ⟨i0, hi, hz0, hz1, hz2⟩ : ∃ i0, Try.prog.info? t = some i0 ∧ i0.zero = some z ∧ i0.size = K.k ∧ i0.bytes = bytes := by
    cases hi : Try.prog.info? t with
    | none => rw [hi] at hinf; cases hinf
    | some i0 =>
      rw [hi] at hinf
      simp only [Option.map_some, Option.some.injEq, Prod.mk.injEq] at hinf
      exact ⟨i0, rfl, hinf.1, hinf.2.1, hinf.2.2⟩
  obtain ⟨a, cap, rfl, h1, h2, h3⟩ := hM.is
  cases a with
  | none =>
    have h0 : M = [] := by
      by_cases hne : M = []
      · exact hne
      · obtain ⟨b, off, ha, _⟩ := h3 hne; cases ha
    subst h0
    rw [List.append_nil]
    rcases hown.row with ⟨rfl, rfl⟩ | ⟨g, cp, cur, rfl, hB, hgl, hh, hnc, _⟩
    · refine ⟨_, w, ?_, hown, World.grownBy.refl _ _, Nw.refl _ _⟩
      simp [Builtin.append_, run_underlying hu, sizeOf, typeInfo, hi, Builtin.lenOf, run_firstCells_none]
    · refine ⟨_, w, ?_, hown, World.grownBy.refl _ _, Nw.refl _ _⟩
      simp [Builtin.append_, run_underlying hu, sizeOf, typeInfo, hi, Builtin.lenOf, run_firstCells_none, hnc, storeCells]
  | some a =>
    have hrow : ∀ j u, (K.cells M)[j]? = some u → w.cell? (a.add j) = some u := by
      by_cases hne : M = []
      · subst hne; intro j u hu; simp [Kd.cells] at hu
      · obtain ⟨b', off', ha, hlt, hW⟩ := h3 hne
        obtain rfl := Option.some.inj ha
        exact cells_row hW
    have hbm := Nat.mul_le_mul hl hby
    obtain ⟨v', w', hr, ho, hg, _, hb⟩ := run_append_own_at (P := Try.prog) w base ts ty t i0 z K.k bytes hu hi hz0 hz1 hz2 hzc K.pos v L.length (K.cells L) hown.own a M.length cap (K.cells M) (cells_len M) hrow (cells_one M) (by unfold maxLen; omega) (by omega) hbase
    refine ⟨v', w', hr, ⟨?_⟩, hg, ?_⟩
    · rw [List.length_append, cells_append]; exact ho
    · rcases hb with h | h
      · exact .inl h
      · exact .inr fun k hk => by rw [h] at hk; exact Nat.le_of_eq (Option.some.inj hk)
end

end Go.Proofs.Ytkiaehehckmpnaa.Rw

namespace Go.Proofs.Ytkiaehehckmpnaa.Zm

open Go.RowKit Go.Proofs.Ytkiaehehckmpnaa.Vc Go.Proofs.Ytkiaehehckmpnaa.Sp Go.Proofs.Ytkiaehehckmpnaa.Rw Go.Proofs.Ytkiaehehckmpnaa.Se Go.Proofs.Ytkiaehehckmpnaa.It Go.Proofs.Ytkiaehehckmpnaa.Z

set_option linter.unusedVariables false

set_option linter.unusedSimpArgs false

set_option maxRecDepth 100000

section

variable {w0 w w' : World} {t : TypeId} {g : Nat} {A B : List Value} {s : Ss} {v : Value} {R : List Rg}

theorem sep_drew (h : Sep w0 w R) : Sep w0 w.drew R := h.below (Below.refl _ _).drew
/-- a box more, beside the session -/
theorem fc_box (h : Sep w0 w (fc t g A B s v ++ R)) (hb : Below w.heap.size w w') (hz : w'.heap.size = w.heap.size + 1) {vs : List Value} (hB : Blk w' w.heap.size vs) : Sep w0 w' (fc t g A B s v ++ (rB w.heap.size vs :: R)) := by
  refine (h.box hb hz hB).perm ?_
  unfold fc
  exact (List.Perm.swap _ _ _).trans (List.Perm.cons _ (List.Perm.swap _ _ _))
theorem fc_drop {r : Rg} (h : Sep w0 w (fc t g A B s v ++ (r :: R))) : Sep w0 w (fc t g A B s v ++ R) := h.sub (List.Sublist.append (List.Sublist.refl _) (List.sublist_cons_self _ _))
theorem fc_blkR {b : Nat} {vs : List Value} (h : Sep w0 w (fc t g A B s v ++ (rB b vs :: R))) : Blk w b vs := h.blk 2 rfl
theorem fc_blkR2 {r : Rg} {b : Nat} {vs : List Value} (h : Sep w0 w (fc t g A B s v ++ (r :: rB b vs :: R))) : Blk w b vs := h.blk 3 rfl
theorem fc_blkR3 {r r' : Rg} {b : Nat} {vs : List Value} (h : Sep w0 w (fc t g A B s v ++ (r :: r' :: rB b vs :: R))) : Blk w b vs := h.blk 4 rfl
theorem set_open (h : Sep w0 w (fc t g A B s v ++ R)) (hs : s.Ok) {o : Nat} (ho : A.length = o) (x : Bool) : Sep w0 (w.setCell ⟨g, o + 4, none⟩ (.bool x)) (fc t g A B { s with opn := x } v ++ R) := by
  have hb := fc_blk h
  have e : ∀ x, A ++ (sc { s with opn := x } v ++ B) = (A ++ ks .u64 s.seen) ++ ([Value.bool x] ++ (ks .u64 s.snap ++ [v] ++ B)) := fun x => by simp [sc]
  rw [show sc s v = sc { s with opn := s.opn } v from rfl, e] at hb
  have h1 := setCells_mid (xs := [Value.bool x]) hb rfl
  rw [show (A ++ ks .u64 s.seen).length = o + 4 by simp [ks_length, hs.seen.1, ho], ← e] at h1
  exact fc_set h _ v (Upd.setCell w g (o + 4) (.bool x)) h1 (.inl ⟨rfl, rfl⟩)
theorem blk_wr (hb : Blk w g (A ++ (sc s v ++ B))) (hs : s.Ok) {o : Nat} (ho : A.length = o) (v' : Value) : Blk (w.setCell ⟨g, o + 9, none⟩ v') g (A ++ (sc s v' ++ B)) := by
  have e : ∀ x, A ++ (sc s x ++ B) = (A ++ (ks .u64 s.seen ++ (Value.bool s.opn :: ks .u64 s.snap))) ++ ([x] ++ B) := fun x => by simp [sc]
  rw [e] at hb
  have h1 := setCells_mid (xs := [v']) hb rfl
  rw [show (A ++ (ks .u64 s.seen ++ (Value.bool s.opn :: ks .u64 s.snap))).length = o + 9 by simp [ks_length, hs.seen.1, hs.snap.1, ho], ← e] at h1
  exact h1
theorem set_nil (h : Sep w0 w (fc t g A B s v ++ R)) (hs : s.Ok) {o : Nat} (ho : A.length = o) : Sep w0 (w.setCell ⟨g, o + 9, none⟩ (.slice none 0 0)) (fc t g A B { s with wr := [] } (.slice none 0 0) ++ R) :=
  fc_set h { s with wr := [] } _ (Upd.setCell w g (o + 9) _) (blk_wr (s := s) (fc_blk h) hs ho _) (.inr ⟨rfl, rfl⟩)
variable {P : Program} {ops : Array Oper} {rest : List Oper} {op : Oper} {a : Act} {Q : Exit → Act → World → Prop}

/-- cells in the midst of a block are stored -/
theorem st_mid (hgd : op.guard = none) (ty : TypeId) (x y : Operand) (hop : op.op = .store ty x y) (g p : Nat) (hx : a.eval x = .pointer (some ⟨g, p, none⟩)) (xs : List Value) (hy : a.eval y = .agg xs.toArray) {us vs ws : List Value} (hb : Blk w g (us ++ (vs ++ ws))) (hp : us.length = p) (hl : xs.length = vs.length)
    (hi : (P.info? ty).map (·.size) = some xs.length) (h1 : xs.all (fun v => v.oneCell') = true) (K : ∀ w', Blk w' g (us ++ (xs ++ ws)) → Upd g w w' → wpList P ops Q rest (a.put op.dst undef) w') : wpList P ops Q (op :: rest) a w := by
  subst hp
  refine wpList_store_mid hgd ty x y hop g us.length _ hx hy ?_ (by rw [List.size_toArray]; exact hi) (all_oneCell_toArray (fun v hv => List.all_eq_true.1 h1 v hv)) ?_
  · intro j hj
    rw [List.size_toArray] at hj
    have := hb.2 (us.length + j) (by simp; omega)
    rwa [Nat.zero_add] at this
  · rw [List.toList_toArray]
    exact K _ (setCells_mid hb hl) (Upd.setCells g _ _ w)
theorem ks_all (k : IntKind) (l : List Nat) : (ks k l).all (fun v => v.oneCell') = true := by
  rw [List.all_eq_true]
  intro v hv
  obtain ⟨x, _, rfl⟩ := List.mem_map.1 hv
  rfl
/-- its snapshot is stored -/
theorem st_snap (hgd : op.guard = none) (ty : TypeId) (x y : Operand) (hop : op.op = .store ty x y) (h : Sep w0 w (fc t g A B s v ++ R)) (hs : s.Ok) {o : Nat} (ho : A.length = o) (hx : a.eval x = .pointer (some ⟨g, o + 5, none⟩)) (l : List Nat) (hl : l.length = 4) (hy : a.eval y = AV .u64 l)
    (hi : (P.info? ty).map (·.size) = some 4) (K : ∀ w', Sep w0 w' (fc t g A B { s with snap := l } v ++ R) → wpList P ops Q rest (a.put op.dst undef) w') : wpList P ops Q (op :: rest) a w := by
  have hb := fc_blk h
  have e : ∀ x, A ++ (sc { s with snap := x } v ++ B) = (A ++ (ks .u64 s.seen ++ [Value.bool s.opn])) ++ (ks .u64 x ++ ([v] ++ B)) := fun x => by simp [sc]
  rw [show sc s v = sc { s with snap := s.snap } v from rfl, e] at hb
  refine st_mid hgd ty x y hop g (o + 5) hx (ks .u64 l) hy hb (by simp [ks_length, hs.seen.1, ho]) (by rw [ks_length, ks_length, hl, hs.snap.1]) (by rw [ks_length, hl]; exact hi) (ks_all _ _) ?_
  intro w' hB hu
  rw [← e] at hB
  exact K w' (fc_set h _ v hu hB (.inl ⟨rfl, rfl⟩))
/-- what it has seen is stored -/
theorem st_seen (hgd : op.guard = none) (ty : TypeId) (x y : Operand) (hop : op.op = .store ty x y) (h : Sep w0 w (fc t g A B s v ++ R)) (hs : s.Ok) {o : Nat} (ho : A.length = o) (hx : a.eval x = .pointer (some ⟨g, o, none⟩)) (l : List Nat) (hl : l.length = 4) (hy : a.eval y = AV .u64 l)
    (hi : (P.info? ty).map (·.size) = some 4) (K : ∀ w', Sep w0 w' (fc t g A B { s with seen := l } v ++ R) → wpList P ops Q rest (a.put op.dst undef) w') : wpList P ops Q (op :: rest) a w := by
  have hb := fc_blk h
  have e : ∀ x, A ++ (sc { s with seen := x } v ++ B) = A ++ (ks .u64 x ++ (Value.bool s.opn :: (ks .u64 s.snap ++ [v]) ++ B)) := fun x => by simp [sc]
  rw [show sc s v = sc { s with seen := s.seen } v from rfl, e] at hb
  refine st_mid hgd ty x y hop g o hx (ks .u64 l) hy hb ho (by rw [ks_length, ks_length, hl, hs.seen.1]) (by rw [ks_length, hl]; exact hi) (ks_all _ _) ?_
  intro w' hB hu
  rw [← e] at hB
  exact K w' (fc_set h _ v hu hB (.inl ⟨rfl, rfl⟩))
/-- the whole of it is stored, with nothing written -/
theorem st_whole (hgd : op.guard = none) (ty : TypeId) (x y : Operand) (hop : op.op = .store ty x y) (h : Sep w0 w (fc t g A B s v ++ R)) (hs : s.Ok) {o : Nat} (ho : A.length = o) (hx : a.eval x = .pointer (some ⟨g, o, none⟩)) (s' : Ss) (hs' : s'.Ok) (h0 : s'.wr = []) (hy : a.eval y = .agg (sc s' (.slice none 0 0)).toArray)
    (hi : (P.info? ty).map (·.size) = some 10) (K : ∀ w', Sep w0 w' (fc t g A B s' (.slice none 0 0) ++ R) → wpList P ops Q rest (a.put op.dst undef) w') : wpList P ops Q (op :: rest) a w := by
  refine st_mid hgd ty x y hop g o hx (sc s' (.slice none 0 0)) hy (fc_blk h) ho (by rw [sc_len hs, sc_len hs']) (by rw [sc_len hs']; exact hi) ?_ ?_
  · unfold sc
    simp only [List.all_append, List.all_cons, List.all_nil, ks_all, Bool.true_and, Bool.and_true]
    rfl
  · intro w' hB hu
    exact K w' (fc_set h s' _ hu hB (.inr ⟨rfl, h0⟩))
end

end Go.Proofs.Ytkiaehehckmpnaa.Zm
