/- append behind a slice with no room; bytes of one; rows of two writes. -/
import Derived.Test.YtkfcbihofipcbaaItemApp

namespace Go.Proofs.Ytkfcbihofipcbaa

set_option linter.unusedVariables false

/-- writes in memory -/
def Spc.ws (base : Nat) (L : List I.Wt) : Spc where
  S v := ∃ a cap, v = .slice a L.length cap
  T u v := It.IsWs u v L ∧ ∀ b o n c, v = .slice (some ⟨b, o, none⟩) n c → base ≤ b
  st u u' v hb := fun h => ⟨h.1.below hb, h.2⟩
  w0 := .slice none L.length 0
  hw := ⟨none, 0, rfl⟩
end Go.Proofs.Ytkfcbihofipcbaa

namespace Go.Proofs.Ytkfcbihofipcbaa.It

open Go.RowKit Go.Proofs.Ytkfcbihofipcbaa.Vc Go.Proofs.Ytkfcbihofipcbaa.Sp

set_option linter.unusedVariables false

set_option linter.unusedSimpArgs false

set_option maxRecDepth 100000

theorem run_append_empty (w : World) (ty : TypeId) (g : Nat) (s : Option Addr) (m c : Nat) (M : List I.Wt) (hM : IsWs w (.slice s m c) M) (hne : 1 ≤ M.length) (hl : M.length ≤ 1000) :
    ∃ v' w', (Builtin.append_ #[41, 41] ty #[.slice (some ⟨g, 0, none⟩) 0 0, .slice s m c]).run Try.prog w = .ok v' w' ∧ OW 23 w' w.heap.size v' M ∧ Below w.heap.size w w' := by
  obtain ⟨i0, hi, hz0, hz1, hz2⟩ := info_parts Try.info_iw
  obtain ⟨a, cap, hv, h1, h2, h3⟩ := hM.is
  obtain ⟨b, off, rfl, hlt, hW⟩ := h3 (by intro e; rw [e] at hne; exact absurd hne (by simp))
  simp only [Value.slice.injEq] at hv
  obtain ⟨rfl, rfl, rfl⟩ := hv
  have hr := run_append_grow (P := Try.prog) w 41 ty 23 i0 (.agg (wc I.none_).toArray) Try.underlying41 hi hz0 ⟨g, 0, none⟩ 0 0 [] (by simp) (fun j v hv => by simp at hv) ⟨b, off, none⟩ M.length c (cellsW M) (by rw [hz1, cellsW_len]) (cellsW_row hW) (by omega) (by omega) (growslice_fits (by omega) (by rw [hz2]; omega))
  refine ⟨_, _, hr, ⟨⟨cellsW_len M, .inr ⟨w.heap.size, _, _, by rw [Nat.zero_add], Nat.le_refl _, heap_alloc_new w.drew _, by have := grownCap_ge w (0 + M.length) 0 23; rwa [Nat.zero_add] at this, grownCap_le_maxLen w _ 0 _ (by unfold maxLen; omega), ?_, ?_⟩⟩⟩, (Below.refl _ _).drew.alloc (Nat.le_refl _) _⟩
  · have hge := grownCap_ge w (0 + M.length) 0 23
    simp only [Array.size_append, List.size_toArray, size_zeroCells, cellsW_len, List.length_nil, Nat.zero_add] at hge ⊢
    show M.length * 4 + _ * 4 = _
    omega
  · simp only [Array.toList_append, List.append_assoc]
    rw [← cellsW_len M]
    simp
section

variable {ops : Array Oper} {rest : List Oper} {o : Oper} {a : Act} {C : World → Prop} {Lq : Act → List (World → Prop) → Prop} {ts : List Spc} {Fs : List (World → Prop)}

/-- append(l[:0:0], ..), what is added made by operation j -/
theorem r_append2 (hgd : o.guard = none) (s x : Operand) (ho : o.op = .call { callee := .builtin .append, args := #[s, x], argTypes := #[41, 41] }) (g : Nat) (hs : a.eval s = .slice (some ⟨g, 0, none⟩) 0 0) (sa : Option Addr) (m c : Nat) (hx : a.eval x = .slice sa m c) (j i : Nat) (hj : o.after.toList.any (fun e => Region.binds .any e && e.on == j) = true) (hi : Fs.length = i + j + 1) {base : Nat} {M : List I.Wt} (hF : Fs[i]? = some (fun u => (Spc.ws base M).T u (.slice sa m c))) (hne : 1 ≤ M.length) (hl : M.length ≤ 1000) (hbase : ∀ u, C u → base ≤ u.heap.size)
    (h : ∀ v, (Spc.ws base M).S v → ∀ K : Act → Prop, (∀ a, RW Try.prog ops C Lq rest ts ((fun u => (Spc.ws base M).T u v) :: Fs) a → K a) → K (a.put o.dst v)) : RW Try.prog ops C Lq (o :: rest) (Spc.ws base M :: ts) Fs a := by
  refine r_any (wanted_none hgd) (fun u hu hn => ?_) h
  have hM : IsWs u (.slice sa m c) M := (hn.get j i hj hi _ hF).1
  obtain ⟨v', w', hr, ho', hb⟩ := run_append_empty u o.type g sa m c M hM hne hl
  have e : (execOp a.eval o).run Try.prog u = .ok (.value v') w' := by
    unfold execOp
    simp only [ho, resolve, invoke, builtin, Sem.run_bind, Sem.run_pure, Result.andThen_ok, List.map_toArray, List.map_cons, List.map_nil, hs, hx, hr]
  rw [e]
  obtain ⟨av, cv, ev, _⟩ := ho'.is.is
  obtain ⟨g2, cg2, cur2, hgv, hgB, _⟩ := OW.some ho' hne
  exact ⟨hb, ⟨av, cv, ev⟩, ho'.is, fun b o n c e9 => by rw [hgv] at e9; simp only [Value.slice.injEq, Option.some.injEq, Addr.mk.injEq] at e9; have := hbase u hu; omega⟩
/-- []Write{x, y} -/
theorem r_two (hgd : o.guard = none) (p q : Operand) (ho : o.op = .buildSlice 41 2 #[(0, p), (1, q)]) (x y : I.Wt) (hp : a.eval p = WV x) (hq : a.eval q = WV y) {base : Nat} (hbase : ∀ u, C u → base ≤ u.heap.size)
    (h : ∀ v, (Spc.ws base [x, y]).S v → ∀ K : Act → Prop, (∀ a, RW Try.prog ops C Lq rest ts ((fun u => (Spc.ws base [x, y]).T u v) :: Fs) a → K a) → K (a.put o.dst v)) : RW Try.prog ops C Lq (o :: rest) (Spc.ws base [x, y] :: ts) Fs a := by
  refine r_any (wanted_none hgd) (fun u hu hn => ?_) h
  obtain ⟨xb, xk, xv, xg⟩ := x
  obtain ⟨yb, yk, yv, yg⟩ := y
  have e : (Instr.buildSlice 41 2 #[(0, WV (xb, xk, xv, xg)), (1, WV (yb, yk, yv, yg))]).run Try.prog u = .ok (.slice (some ⟨u.heap.size, 0, none⟩) 2 2) (u.alloc (.cells #[.string xb, .string xk, .string xv, .bool xg, .string yb, .string yk, .string yv, .bool yg] 23)) := by
    unfold WV wc
    go_simp
  unfold execOp
  simp only [ho, Sem.run_bind, List.map_toArray, List.map_cons, List.map_nil, hp, hq, e, Result.andThen_ok, Sem.run_pure]
  have hB := Blk.of_row (vs := [.string xb, .string xk, .string xv, .bool xg, .string yb, .string yk, .string yv, .bool yg]) (heap_alloc_last u (.cells #[.string xb, .string xk, .string xv, .bool xg, .string yb, .string yk, .string yv, .bool yg] 23))
  refine ⟨(Below.refl _ _).alloc (Nat.le_refl _) _, ⟨_, _, rfl⟩, ⟨_, 2, rfl, Nat.le_refl _, by unfold maxLen; omega, fun _ => ⟨u.heap.size, 0, rfl, by show _ < (u.heap.push _).size; simp, fun i z hz j v hv => ?_⟩⟩, fun b o n c e9 => by simp only [Value.slice.injEq, Option.some.injEq, Addr.mk.injEq] at e9; have := hbase u hu; omega⟩
  have hj : j < 4 := (List.getElem?_eq_some_iff.1 hv).1
  match i, hz with
  | 0, hz =>
    obtain rfl := Option.some.inj hz
    refine hB.1 (0 + 4 * 0 + j) v ?_ |> fun h => by simpa using h
    match j, hj with
    | 0, _ => exact hv
    | 1, _ => exact hv
    | 2, _ => exact hv
    | 3, _ => exact hv
  | 1, hz =>
    obtain rfl := Option.some.inj hz
    refine hB.1 (0 + 4 * 1 + j) v ?_ |> fun h => by simpa using h
    match j, hj with
    | 0, _ => exact hv
    | 1, _ => exact hv
    | 2, _ => exact hv
    | 3, _ => exact hv
end

section

variable {ops : Array Oper} {rest : List Oper} {o : Oper} {a : Act} {w : World} {Q : Exit → Act → World → Prop}

theorem byte_build (hgd : o.guard = none) (x : Operand) (ho : o.op = .buildSlice 76 1 #[(0, x)]) (c : Nat) (hx : a.eval x = .int .u8 (c : Int))
    (h : ∀ w', Arr .u8 w' w.heap.size [c] → Below w.heap.size w w' → w'.heap.size = w.heap.size + 1 → wpList Try.prog ops Q rest (a.put o.dst (.slice (some ⟨w.heap.size, 0, none⟩) 1 1)) w') : wpList Try.prog ops Q (o :: rest) a w := by
  refine wpList_plain hgd fun K hK => ?_
  have e : (Instr.buildSlice 76 1 #[(0, .int .u8 (c : Int))]).run Try.prog w = .ok (.slice (some ⟨w.heap.size, 0, none⟩) 1 1) (w.alloc (.cells #[.int .u8 (c : Int)] 5)) := by go_simp
  unfold Oper.wp execOp
  simp only [ho, Sem.run_bind, List.map_toArray, List.map_cons, List.map_nil, hx, e, Result.andThen_ok, Sem.run_pure]
  exact hK _ _ (h _ (Arr.new .u8 w [c] 5) ((Below.refl _ _).alloc (Nat.le_refl _) _) (by show (w.heap.push _).size = _; simp))
theorem byte_str (hgd : o.guard = none) (x : Operand) (ho : o.op = .convert 76 9 x) (b : Nat) (hx : a.eval x = .slice (some ⟨b, 0, none⟩) 1 1) (c : Nat) (hc : c < 256) (hA : Arr .u8 w b [c])
    (h : wpList Try.prog ops Q rest (a.put o.dst (.string ⟨#[UInt8.ofNat c]⟩)) w) : wpList Try.prog ops Q (o :: rest) a w := by
  refine val_step hgd (.string ⟨#[UInt8.ofNat c]⟩) ?_ h
  have hcv := run_convert_bytes_back (P := Try.prog) w 76 9 5 ⟨b, 0, none⟩ 1 [UInt8.ofNat c] Try.underlying76 Try.underlying5 Try.underlying9 (fun j hj => by
    match j, hj with
    | 0, _ =>
      show w.cell? _ = some (.int .u8 (((UInt8.ofNat c).toNat : Nat) : Int))
      rw [P.ofNat_toNat_lt c hc]
      have := Arr.cell hA 0 (by simp)
      simpa [Addr.add] using this)
  unfold execOp
  simp only [ho, hx, Sem.run_bind, Result.andThen_ok, Sem.run_pure]
  rw [show (Value.slice (some ⟨b, 0, none⟩) 1 1) = .slice (some ⟨b, 0, none⟩) [UInt8.ofNat c].length 1 from rfl, hcv]
  rfl
end

end Go.Proofs.Ytkfcbihofipcbaa.It
