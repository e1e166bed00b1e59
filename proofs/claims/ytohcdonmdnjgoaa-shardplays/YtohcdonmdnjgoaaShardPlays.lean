/-
  A shard answers as the document's own does, deed for deed (the law ShardPlays). No conditions.
-/
import Derived.Test.YtohcdonmdnjgoaaFrame

import Derived.Test.YtohcdonmdnjgoaaShardPl

import Derived.Test.YtohcdonmdnjgoaaFrameVecN

import Derived.Test.YtohcdonmdnjgoaaShardEx

import Derived.Deep.DeepCutAuto

import Derived.Deep.CutBlock

namespace Go.Proofs.Ytohcdonmdnjgoaa.shardPlays

open Go.ChangeShapes Go.WideShapes Go.ChangeAt Go.RowKit

open Go.ChangeMaps (open_string shut_string)

open Go.Proofs.Ytohcdonmdnjgoaa.Vc Go.Proofs.Ytohcdonmdnjgoaa.Sp Go.Proofs.Ytohcdonmdnjgoaa.Rw Go.Proofs.Ytohcdonmdnjgoaa.Ch Go.Proofs.Ytohcdonmdnjgoaa.Se Go.Proofs.Ytohcdonmdnjgoaa.It Go.Proofs.Ytohcdonmdnjgoaa.Mk Go.Proofs.Ytohcdonmdnjgoaa.Sd

set_option linter.unusedVariables false

set_option linter.unusedSimpArgs false

theorem size_dq : (Try.prog.info? 48).map (·.size) = some 20 := by kernel_rfl
theorem elem_dq : Try.prog.elem 22 = 48 := by kernel_rfl
theorem info_dq : (Try.prog.info? 48).map (fun i => (i.zero, i.size)) = some (some (.agg [Value.int .u8 0, .int .u64 0, .int .u64 0, .int .u64 0, .int .u64 0, .int .i64 0, .bool false, .slice none 0 0, .bool false, .string ⟨#[]⟩, .string ⟨#[]⟩, .string ⟨#[]⟩, .bool false, .bool false, .int .u8 0, .int .u64 0, .int .u64 0, .int .u64 0, .int .u64 0, .bool false].toArray), 20) := by kernel_rfl
theorem index_dq (b o n cap j : Nat) (hj : j < n) (w : World) : (Instr.indexAt 22 (.slice (some ⟨b, o, none⟩) n cap) (.int .i64 (j : Int))).run Try.prog w = .ok (.pointer (some ⟨b, o + 20 * j, none⟩)) w :=
  run_index elem_dq Try.underlying22 Try.sizeOf48 b o n cap j hj w
theorem IsQs.at {w : World} {v : Value} {L : List Dq} (h : IsQs w v L) (i : Nat) (hi : i < L.length) : ∃ b off cap, v = .slice (some ⟨b, off, none⟩) L.length cap ∧ b < w.heap.size ∧ ∃ x, L[i]? = some x ∧ w.rangeAt b (off + 20 * i) (dqc x) := by
  obtain ⟨a, cap, hv, h1, h2, h3⟩ := h
  obtain ⟨b, off, ha, hlt, hW⟩ := h3 (by intro e; subst e; simp at hi)
  exact ⟨b, off, cap, by rw [hv, ha], hlt, L[i], List.getElem?_eq_getElem hi, fun j u hu => hW i _ (List.getElem?_eq_getElem hi) j u hu⟩
theorem isR_none {β : Type} {K : Kd β} (w : World) : IsR K w (.slice none 0 0) [] := ⟨none, 0, rfl, Nat.le_refl _, by unfold maxLen; omega, fun h => absurd rfl h⟩
theorem neq_rv (a : List Nat) (ha : a.length = 4) (w : World) : (binOp .neq 57 (AV .u64 a) (AV .u64 a)).run Try.prog w = .ok (.bool false) w := by
  have h := eq_r a a ha ha w
  have e : binOp .neq 57 (AV .u64 a) (AV .u64 a) = (do pure (.bool (!(← Op.equalIn 10000 57 (AV .u64 a) (AV .u64 a))))) := rfl
  rw [e]
  simp only [Sem.run_bind, h, Result.andThen_ok, Sem.run_pure]
  simp
theorem guardType_rv9 : Try.prog.eqGuardType Try.prog.depth 57 = false := by kernel_rfl
theorem guard_nrv (x y : Operand) (l m : List Nat) (w : World) : (eqGuard .neq 57 x y (AV .u64 l) (AV .u64 m)).run Try.prog w = .ok () w := by
  unfold AV
  simp [eqGuard, guardType_rv9]
theorem neq_r9 (a : List Nat) (d : Int) (ha : a.length = 4) (w : World) : (binOp .neq 61 (SV a d) (SV a d)).run Try.prog w = .ok (.bool false) w := by
  have h := eq_gen under_r held_r fields_r Try.underlying57 (fun w => Try.sizeOf57 w) a a d d ha ha w
  have e : binOp .neq 61 (SV a d) (SV a d) = (do pure (.bool (!(← Op.equalIn 10000 61 (SV a d) (SV a d))))) := rfl
  rw [e]
  simp only [Sem.run_bind, h, Result.andThen_ok, Sem.run_pure]
  simp [T.same]
theorem guard_r9 (x y : Operand) (l m : List Nat) (d e : Int) (w : World) : (eqGuard .neq 61 x y (SV l d) (SV m e)).run Try.prog w = .ok () w := by
  unfold SV
  simp [eqGuard, guardType_rs]
theorem isw_at {u : World} {b off c : Nat} {z : I.Wt} (h : IsWs u (.slice (some ⟨b, off, none⟩) 1 c) [z]) : b < u.heap.size ∧ u.rangeAt b off (wc z) := by
  obtain ⟨g, o, c9, hv, hg, hr⟩ := IsR.at (isR_of h) 0 (by simp)
  have h9 : (some ⟨b, off, none⟩ : Option Addr) = some ⟨g, o, none⟩ := by injection hv
  simp only [Option.some.injEq, Addr.mk.injEq, and_true] at h9
  obtain ⟨rfl, rfl⟩ := h9
  exact ⟨hg, hr⟩
/-- a row of one write -/
def Spc.isw (z : I.Wt) : Spc where
  S v := ∃ b off cap, v = .slice (some ⟨b, off, none⟩) 1 cap
  T u v := IsWs u v [z]
  st u u' v hb := fun h => h.below hb
  w0 := .slice (some ⟨0, 0, none⟩) 1 0
  hw := ⟨0, 0, 0, rfl⟩
/-- where these cells lie -/
def Spc.cells (vs : List Value) : Spc where
  S v := ∃ b off, v = .pointer (some ⟨b, off, none⟩)
  T u v := ∃ b off, v = .pointer (some ⟨b, off, none⟩) ∧ b < u.heap.size ∧ u.rangeAt b off vs
  st u u' v hb := fun ⟨b, off, e, hl, h⟩ => ⟨b, off, e, Nat.lt_of_lt_of_le hl hb.size, fun j x hx => by rw [hb.cell (p := ⟨b, off + j, none⟩) hl]; exact h j x hx⟩
  w0 := .pointer (some ⟨0, 0, none⟩)
  hw := ⟨0, 0, rfl⟩
theorem cells_get {u : World} {b off : Nat} {vs : List Value} (h : (Spc.cells vs).T u (.pointer (some ⟨b, off, none⟩))) : u.rangeAt b off vs := by
  obtain ⟨g, o, hv, _, hr⟩ := h
  have h9 : (some ⟨b, off, none⟩ : Option Addr) = some ⟨g, o, none⟩ := by injection hv
  simp only [Option.some.injEq, Addr.mk.injEq, and_true] at h9
  obtain ⟨rfl, rfl⟩ := h9
  exact hr
section

variable {P : Program} {ops : Array Oper} {rest : List Oper} {o : Oper} {a : Act} {C : World → Prop} {Lq : Act → List (World → Prop) → Prop} {ts : List Spc} {Fs : List (World → Prop)}

theorem rg_fact (hw : Region.wanted o (yielded ops a.tmps) = true) {s : Spc} (v : Value) (hS : s.S v) (hr : ∀ u, C u → Need o Fs u → (execOp a.eval o).run P u = .ok (.value v) u ∧ s.T u v)
    (h : ∀ v, s.S v → ∀ K : Act → Prop, (∀ a, RW P ops C Lq rest ts ((fun u => s.T u v) :: Fs) a → K a) → K (a.put o.dst v)) : RW P ops C Lq (o :: rest) (s :: ts) Fs a :=
  r_any hw (fun u hu hn => by rw [(hr u hu hn).1]; exact ⟨Below.refl _ _, hS, (hr u hu hn).2⟩) h
theorem rg_row1 (hw : Region.wanted o (yielded ops a.tmps) = true) {z : I.Wt} (t : TypeId) (hr : ∀ u, C u → (execOp a.eval o).run P u = .ok (.value (.slice (some ⟨u.heap.size, 0, none⟩) 1 1)) (u.alloc (.cells (wc z).toArray t)))
    (h : ∀ v, (Spc.isw z).S v → ∀ K : Act → Prop, (∀ a, RW P ops C Lq rest ts ((fun u => (Spc.isw z).T u v) :: Fs) a → K a) → K (a.put o.dst v)) : RW P ops C Lq (o :: rest) (Spc.isw z :: ts) Fs a :=
  r_any hw (fun u hu hn => by
    rw [hr u hu]
    have hX : (u.alloc (.cells (wk.cf z).toArray t)).heap[u.heap.size]? = some (.cells (wk.cf z).toArray t (0, 0)) := heap_alloc_last u _
    exact ⟨(Below.refl _ _).alloc (Nat.le_refl _) _, ⟨_, _, _, rfl⟩, ⟨(IsR.one (K := wk) (Blk.of_row hX) (Array.getElem?_eq_some_iff.1 hX).1).is⟩⟩) h
end

set_option maxHeartbeats 64000000 in
set_option maxRecDepth 100000 in
theorem walk (a0 : Int) (a1 : Bool) (qv2 : Value) (QL2 : List Dq) (w0 : (Lit.int .i64 a0).wf = true) (w : World) (w2 : IsQs w qv2 QL2) (m2 : ∀ x ∈ QL2, DqOk w x) :
    Calls Try.prog 3 #[.int .i64 a0, .bool a1, qv2] w fun e w' => e = .returned (.bool true) ∧ Below w.heap.size w w' := by
  have HDS : Hid (IsQs w qv2 QL2) := w2
  have HMO : Hid (∀ x ∈ QL2, DqOk w x) := m2
  obtain ⟨sx, cap, rfl, _, _, _⟩ := w2
  obtain ⟨n, HN⟩ : ∃ n, Hid (QL2.length = n) := ⟨_, rfl⟩
  rw [HN.out] at HDS ⊢
  clear m2
  obtain ⟨m0, hm0⟩ : ∃ m : Nat, IntKind.u64.wrap a0 = (m : Int) := ⟨(IntKind.u64.wrap a0).toNat, by simp [IntKind.wrap, IntKind.bits, IntKind.signed]; omega⟩
  obtain ⟨m6, hm6⟩ : ∃ m : Nat, m = m0 % 6 := ⟨_, rfl⟩
  have T6 : (m0 : Int).tmod 6 = (m6 : Int) := by rw [Int.tmod_eq_emod_of_nonneg (by omega)]; omega
  have M6 : (m0 : Int) % 6 = (m6 : Int) := by omega
  have U6 : IntKind.u64.wrap (m6 : Int) = (m6 : Int) := by simp [IntKind.wrap, IntKind.bits, IntKind.signed]; omega
  have I6 : IntKind.i64.wrap (m6 : Int) = (m6 : Int) := IntWalk.i64_in _ (by omega)
  have I7 : IntKind.i64.wrap (1 + (m6 : Int)) = 1 + (m6 : Int) := IntWalk.i64_in _ (by omega)
  clear hm6
  go_enter Try.func3, Try.ntmps3
  go_wp2_with fail
  refine (examples_any _).mono ?_; rintro e w1 ⟨rfl, hb⟩
  have T1 : Hid (Sep w w1 []) := (Sep.start w).below hb
  clear hb
  go_upto_if 32 with fail
  go_cut [0] (fun rv wx => ∃ r : Int, rv = .int .i64 r ∧ Hid (Sep w wx []))
  case first =>
    cases a1 with
    | false =>
      go_wp2_with fail
      go_meet
      exact ⟨a0, rfl, T1⟩
    | true =>
      go_wp2_with fail
      go_meet
      exact ⟨_, rfl, T1⟩
  case rest =>
  clear T6 M6 U6 I6 I7 hm0 T1
  obtain ⟨r, rfl, Tx⟩ := hcut
  by_cases hr : r < 1 ∨ 16 < r
  · go_wp2_with fail
    refine (new_no r hr _).mono ?_; rintro e w2 ⟨rfl, rfl⟩
    go_wp2_with fail
    refine (rnew_no r _ hr).mono ?_; rintro e w3 ⟨rfl, rfl⟩
    go_wp2_with fail
    go_ret
    exact ⟨rfl, Tx.out.under⟩
  · obtain ⟨rm, rfl⟩ : ∃ rm : Nat, r = (rm : Int) := ⟨r.toNat, by omega⟩
    have h1 : 1 ≤ rm := by omega
    have h16 : rm ≤ 16 := by omega
    go_wp2_with fail
    refine (new_ok rm h1 h16 _).mono ?_; rintro e w2 ⟨sa, lb, ch, mb, rfl, hs, hb, hn⟩
    have T2 : Hid (Sep w w2 [rS sa (gr rm lb ch mb [] [] V.zeros)]) := shard_new Tx.out hb hs hn
    clear hs hb hn Tx
    go_wp2_with fail
    refine (rnew_yes rm _ h1 h16).mono ?_; rintro e w3 ⟨rfl, hB, hb, hz⟩
    obtain ⟨xb, HXB⟩ : ∃ b, Hid (w2.heap.size = b) := ⟨_, rfl⟩
    have T3 : Hid (Sep w w3 [rB xb (rfv rm (.slice none 0 0) (.slice none 0 0) V.zeros), rZ (.slice none 0 0) [] [], rO (vk wrt) 107 w.heap.size (.slice none 0 0) [], rS sa (gr rm lb ch mb [] [] V.zeros)]) := by
      show Sep _ _ _
      rw [← HXB.out]
      have s1 := T2.out.box hb hz hB
      have s2 := s1.nilrow (vk wrt) 107 w.heap.size
      have s3 := s2.push (Below.refl _ _) (rZ (.slice none 0 0) [] []) ⟨isR_none _, fun q hq => by cases hq⟩ (fun k hk => by have h9 : k ∈ ob (.slice none 0 0) ++ [] := hk; simp [ob, Value.ownBlock] at h9)
      refine s3.perm ?_
      exact (List.Perm.cons _ (List.Perm.swap _ _ _)).trans (List.Perm.swap _ _ _) |>.trans (List.Perm.refl _)
    rw [HXB.out]
    clear hB hb hz HXB T2 hr
    go_wp2_with fail
    go_loopw [11] (fun i wr => ∃ (j : Nat) (W : List Bt) (E : List En) (A : List Nat) (wv lv : Value) (Q : List Tq) (D : List Ver), j ≤ n ∧ j ≤ 50 ∧ i = .int .i64 (j : Int) ∧ Hid (PlOk rm j W E A Q D) ∧ Hid (Sep w wr [rB xb (rfv rm wv lv A), rZ wv Q Q, rO (vk wrt) 107 w.heap.size lv D, rS sa (gr rm lb ch mb W E A)])) (fun i _ => 50 - (intOf i).toNat)
    case atStart => exact ⟨0, [], [], V.zeros, _, _, [], [], by omega, by omega, rfl, PlOk.nil rm, T3⟩
    case round =>
      obtain ⟨j, W, E, A, wv, lv, Q, D, hjn, hj50, rfl, HP, Sr⟩ := hrel
      clear T3
      by_cases hlt : j < n
      · have i1 : (j : Int) < (n : Int) := by omega
        by_cases hl2 : j < 50
        · have i2 : (j : Int) < 50 := by omega
          obtain ⟨g, off, cap', hv, hg0, x, hx, hrow⟩ := IsQs.at HDS.out j (by rw [HN.out]; exact hlt)
          obtain rfl : sx = some ⟨g, off, none⟩ := by injection hv
          have hok := HMO.out x (List.mem_of_getElem? hx)
          have CD := Lib.hid (fun u (hu : Below w.heap.size w u) => deal_play hok.d u hu)
          have hs4 := pS_four hok.d
          have HWL := Lib.hid (pW_len x.d)
          have hl4 := hok.d.v.len
          have hv4 := hok.v.len
          obtain ⟨pa, pc, ev⟩ := hok.d.puts.nilOrSome
          obtain ⟨hh, h4, hvh⟩ := vec_any x.l x.o hok.v
          have hk := hok.k
          have hpk := hok.p.k
          have CW0 := fun u => write_any x.p.1 x.p.2.1 x.p.2.2 u hok.p.k (by have h9 : x.p.1.2.2.1.size ≤ 140737488355328 := hok.p.w.v; unfold maxLen; omega)
          obtain ⟨⟨kb, ke, kv, kg⟩, HKW⟩ : ∃ z : I.Wt, Hid (I.putW x.p.1 x.p.2.1 x.p.2.2 = z) := ⟨_, rfl⟩
          rw [HKW.out] at CW0
          obtain ⟨⟨aa, d⟩, HS⟩ : ∃ z : C.St, Hid (pS x.d = z) := ⟨_, rfl⟩
          obtain ⟨MM, HM⟩ : ∃ z, Hid (pW x.d = z) := ⟨_, rfl⟩
          rw [HS.out, HM.out] at CD
          rw [HS.out] at hs4
          rw [HM.out] at HWL
          clear HS HM HKW hok hx hv
          obtain ⟨K, ⟨xl, dd, mo, sv_, PL, ow⟩, ⟨⟨pb, pe, pv, pg⟩, po, pk⟩, vl, vo⟩ := x
          dsimp only at hl4 hv4 hs4 CD ev hk CW0 hvh
          subst ev
          obtain ⟨pm, HPL⟩ : ∃ z, Hid (PL.length = z) := ⟨_, rfl⟩
          rw [HPL.out] at hrow CD
          obtain ⟨l0, l1, l2, l3, rfl⟩ := V.four hl4
          obtain ⟨b0, b1, b2, b3, rfl⟩ := V.four hs4
          obtain ⟨g0, g1, g2, g3, rfl⟩ := V.four h4
          obtain ⟨u0, u1, u2, u3, rfl⟩ := V.four hv4
          clear hl4 hs4 h4 hv4
          have HROW : Hid (wr.rangeAt g (off + 20 * j) [Value.int .u8 (K : Int), .int .u64 (l0 : Int), .int .u64 (l1 : Int), .int .u64 (l2 : Int), .int .u64 (l3 : Int), .int .i64 dd, .bool mo, .slice pa pm pc, .bool ow, .string pb, .string pe, .string pv, .bool pg, .bool po, .int .u8 (pk : Int), .int .u64 (u0 : Int), .int .u64 (u1 : Int), .int .u64 (u2 : Int), .int .u64 (u3 : Int), .bool vo]) := fun k u hu => by rw [Sr.out.under.cell (p := ⟨g, off + 20 * j + k, none⟩) hg0]; exact hrow k u hu
          clear hrow
          have hix : ∀ w, (Instr.indexAt 22 (.slice (some ⟨g, off, none⟩) n cap) (.int .i64 (j : Int))).run Try.prog w = .ok (.pointer (some ⟨g, off + 20 * j, none⟩)) w := fun w => index_dq g off n cap j hlt w
          go_wp2_with (first | refine wpList_load_mid rfl 48 _ rfl g (off + 20 * j) rfl [Value.int .u8 (K : Int), .int .u64 (l0 : Int), .int .u64 (l1 : Int), .int .u64 (l2 : Int), .int .u64 (l3 : Int), .int .i64 dd, .bool mo, .slice pa pm pc, .bool ow, .string pb, .string pe, .string pv, .bool pg, .bool po, .int .u8 (pk : Int), .int .u64 (u0 : Int), .int .u64 (u1 : Int), .int .u64 (u2 : Int), .int .u64 (u3 : Int), .bool vo] _ HROW.out Try.underlying48 rfl size_dq ?_ | refine blk_alloc rfl 48 [Value.int .u8 0, .int .u64 0, .int .u64 0, .int .u64 0, .int .u64 0, .int .i64 0, .bool false, .slice none 0 0, .bool false, .string ⟨#[]⟩, .string ⟨#[]⟩, .string ⟨#[]⟩, .bool false, .bool false, .int .u8 0, .int .u64 0, .int .u64 0, .int .u64 0, .int .u64 0, .bool false] rfl info_dq ?_)
          intro w4 A9 B Z
          obtain ⟨bd, HBD⟩ : ∃ b, Hid (wr.heap.size = b) := ⟨_, rfl⟩
          go_wp2_with (first | refine blk_store rfl 48 _ _ rfl wr.heap.size rfl [Value.int .u8 (K : Int), .int .u64 (l0 : Int), .int .u64 (l1 : Int), .int .u64 (l2 : Int), .int .u64 (l3 : Int), .int .i64 dd, .bool mo, .slice pa pm pc, .bool ow, .string pb, .string pe, .string pv, .bool pg, .bool po, .int .u8 (pk : Int), .int .u64 (u0 : Int), .int .u64 (u1 : Int), .int .u64 (u2 : Int), .int .u64 (u3 : Int), .bool vo] rfl _ A9 rfl size_dq rfl ?_)
          intro w5 A8 U9
          have S5 : Hid (Sep w w5 [rB bd [Value.int .u8 (K : Int), .int .u64 (l0 : Int), .int .u64 (l1 : Int), .int .u64 (l2 : Int), .int .u64 (l3 : Int), .int .i64 dd, .bool mo, .slice pa pm pc, .bool ow, .string pb, .string pe, .string pv, .bool pg, .bool po, .int .u8 (pk : Int), .int .u64 (u0 : Int), .int .u64 (u1 : Int), .int .u64 (u2 : Int), .int .u64 (u3 : Int), .bool vo], rB xb (rfv rm wv lv A), rZ wv Q Q, rO (vk wrt) 107 w.heap.size lv D, rS sa (gr rm lb ch mb W E A)]) := by
            show Sep _ _ _
            rw [← HBD.out]
            exact Sep.fresh Sr.out B Z U9 A8
          rw [HBD.out]
          clear A9 B Z A8 U9 HBD Sr HROW hix hg0
          obtain ⟨m, HMM⟩ : ∃ m, Hid (MM.length = m) := ⟨_, rfl⟩
          rw [HMM.out] at CD HWL
          have CD2 : Hid (∀ u, Below w.heap.size w u → Calls Try.prog 11 #[.agg [Value.int .u64 (l0 : Int), .int .u64 (l1 : Int), .int .u64 (l2 : Int), .int .u64 (l3 : Int), .int .i64 dd, .bool mo, .slice pa pm pc, .bool ow].toArray] u fun e w' => ∃ ta tc, e = .returned (.agg [Value.int .u64 (b0 : Int), .int .u64 (b1 : Int), .int .u64 (b2 : Int), .int .u64 (b3 : Int), .int .i64 d, .slice ta m tc].toArray) ∧ IsWs w' (.slice ta m tc) MM ∧ Below u.heap.size u w' ∧ ∀ b ∈ ob (.slice ta m tc), u.heap.size ≤ b ∧ b < w'.heap.size) := fun u hu => CD.out u hu
          clear CD
          have CVh : Hid (∀ u, Calls Try.prog 12 #[.agg [Value.int .u64 (u0 : Int), .int .u64 (u1 : Int), .int .u64 (u2 : Int), .int .u64 (u3 : Int), .bool vo].toArray] u fun e w' => e = .returned (.agg [Value.int .u64 (g0 : Int), .int .u64 (g1 : Int), .int .u64 (g2 : Int), .int .u64 (g3 : Int)].toArray) ∧ Below u.heap.size u w') := fun u => hvh u
          clear hvh
          have CW : Hid (∀ u, Calls Try.prog 13 #[.agg [Value.string pb, .string pe, .string pv, .bool pg, .bool po, .int .u8 (pk : Int)].toArray] u fun e w' => e = .returned (.agg [Value.string kb, .string ke, .string kv, .bool kg].toArray) ∧ Below u.heap.size u w') := fun u => CW0 u
          clear CW0
          have HRD : Hid (w5.rangeAt bd 1 [Value.int .u64 (l0 : Int), .int .u64 (l1 : Int), .int .u64 (l2 : Int), .int .u64 (l3 : Int), .int .i64 dd, .bool mo, .slice pa pm pc, .bool ow]) := rng_pre (vs := [Value.string pb, .string pe, .string pv, .bool pg, .bool po, .int .u8 (pk : Int), .int .u64 (u0 : Int), .int .u64 (u1 : Int), .int .u64 (u2 : Int), .int .u64 (u3 : Int), .bool vo]) (rng_post (us := [Value.int .u8 (K : Int)]) (S5.out.blk 0 rfl).1)
          go_wp2_with (first | refine wpList_load_mid rfl 40 _ rfl bd 1 rfl [Value.int .u64 (l0 : Int), .int .u64 (l1 : Int), .int .u64 (l2 : Int), .int .u64 (l3 : Int), .int .i64 dd, .bool mo, .slice pa pm pc, .bool ow] _ HRD.out Try.underlying40 rfl Try.size_dl ?_)
          refine (CD2.out _ S5.out.under).mono ?_; rintro e w6 ⟨ta, tc, rfl, hI, hb, hn⟩
          have S6 : Hid (Sep w w6 [rW (.slice ta m tc) MM, rB bd [Value.int .u8 (K : Int), .int .u64 (l0 : Int), .int .u64 (l1 : Int), .int .u64 (l2 : Int), .int .u64 (l3 : Int), .int .i64 dd, .bool mo, .slice pa pm pc, .bool ow, .string pb, .string pe, .string pv, .bool pg, .bool po, .int .u8 (pk : Int), .int .u64 (u0 : Int), .int .u64 (u1 : Int), .int .u64 (u2 : Int), .int .u64 (u3 : Int), .bool vo], rB xb (rfv rm wv lv A), rZ wv Q Q, rO (vk wrt) 107 w.heap.size lv D, rS sa (gr rm lb ch mb W E A)]) := S5.out.push hb (rW (.slice ta m tc) MM) hI hn
          clear hI hb hn S5 HRD CD2
          go_wp2_with (first | refine blk_alloc rfl 51 [Value.int .u64 0, .int .u64 0, .int .u64 0, .int .u64 0, .int .i64 0, .slice none 0 0] rfl Try.info_tz ?_)
          intro w7a A9 B Z
          obtain ⟨bt, HB9⟩ : ∃ b, Hid (w6.heap.size = b) := ⟨_, rfl⟩
          go_wp2_with (first | refine blk_store rfl 51 _ _ rfl w6.heap.size rfl [Value.int .u64 (b0 : Int), .int .u64 (b1 : Int), .int .u64 (b2 : Int), .int .u64 (b3 : Int), .int .i64 d, .slice ta m tc] rfl _ A9 rfl It.Try.size_itx rfl ?_)
          intro w7 A8 U9
          have S7 : Hid (Sep w w7 [rB bt [Value.int .u64 (b0 : Int), .int .u64 (b1 : Int), .int .u64 (b2 : Int), .int .u64 (b3 : Int), .int .i64 d, .slice ta m tc], rW (.slice ta m tc) MM, rB bd [Value.int .u8 (K : Int), .int .u64 (l0 : Int), .int .u64 (l1 : Int), .int .u64 (l2 : Int), .int .u64 (l3 : Int), .int .i64 dd, .bool mo, .slice pa pm pc, .bool ow, .string pb, .string pe, .string pv, .bool pg, .bool po, .int .u8 (pk : Int), .int .u64 (u0 : Int), .int .u64 (u1 : Int), .int .u64 (u2 : Int), .int .u64 (u3 : Int), .bool vo], rB xb (rfv rm wv lv A), rZ wv Q Q, rO (vk wrt) 107 w.heap.size lv D, rS sa (gr rm lb ch mb W E A)]) := by
            show Sep _ _ _
            rw [← HB9.out]
            exact Sep.fresh S6.out B Z U9 A8
          rw [HB9.out]
          clear A9 B Z A8 U9 HB9 S6
          have HRV : Hid (w7.rangeAt bd 15 [Value.int .u64 (u0 : Int), .int .u64 (u1 : Int), .int .u64 (u2 : Int), .int .u64 (u3 : Int), .bool vo]) := rng_post (us := [Value.int .u8 (K : Int), .int .u64 (l0 : Int), .int .u64 (l1 : Int), .int .u64 (l2 : Int), .int .u64 (l3 : Int), .int .i64 dd, .bool mo, .slice pa pm pc, .bool ow, .string pb, .string pe, .string pv, .bool pg, .bool po, .int .u8 (pk : Int)]) (S7.out.blk 2 rfl).1
          go_wp2_with (first | refine wpList_load_mid rfl 46 _ rfl bd 15 rfl [Value.int .u64 (u0 : Int), .int .u64 (u1 : Int), .int .u64 (u2 : Int), .int .u64 (u3 : Int), .bool vo] _ HRV.out Try.underlying46 rfl Try.size_vv ?_)
          refine (CVh.out _).mono ?_; rintro e w8 ⟨rfl, hb⟩
          have S8 := Lib.hid (S7.out.below hb)
          clear hb S7 HRV CVh
          go_wp2_with (first | refine blk_alloc rfl 33 [Value.int .u64 0, .int .u64 0, .int .u64 0, .int .u64 0] rfl Try.info_vz ?_)
          intro w9a A9 B Z
          obtain ⟨bv, HB9⟩ : ∃ b, Hid (w8.heap.size = b) := ⟨_, rfl⟩
          go_wp2_with (first | refine blk_store rfl 33 _ _ rfl w8.heap.size rfl [Value.int .u64 (g0 : Int), .int .u64 (g1 : Int), .int .u64 (g2 : Int), .int .u64 (g3 : Int)] rfl _ A9 rfl Try.size_v rfl ?_)
          intro w9 A8 U9
          have S9 : Hid (Sep w w9 [rB bv [Value.int .u64 (g0 : Int), .int .u64 (g1 : Int), .int .u64 (g2 : Int), .int .u64 (g3 : Int)], rB bt [Value.int .u64 (b0 : Int), .int .u64 (b1 : Int), .int .u64 (b2 : Int), .int .u64 (b3 : Int), .int .i64 d, .slice ta m tc], rW (.slice ta m tc) MM, rB bd [Value.int .u8 (K : Int), .int .u64 (l0 : Int), .int .u64 (l1 : Int), .int .u64 (l2 : Int), .int .u64 (l3 : Int), .int .i64 dd, .bool mo, .slice pa pm pc, .bool ow, .string pb, .string pe, .string pv, .bool pg, .bool po, .int .u8 (pk : Int), .int .u64 (u0 : Int), .int .u64 (u1 : Int), .int .u64 (u2 : Int), .int .u64 (u3 : Int), .bool vo], rB xb (rfv rm wv lv A), rZ wv Q Q, rO (vk wrt) 107 w.heap.size lv D, rS sa (gr rm lb ch mb W E A)]) := by
            show Sep _ _ _
            rw [← HB9.out]
            exact Sep.fresh S8.out B Z U9 A8
          rw [HB9.out]
          clear A9 B Z A8 U9 HB9 S8
          have HRP : Hid (w9.rangeAt bd 9 [Value.string pb, .string pe, .string pv, .bool pg, .bool po, .int .u8 (pk : Int)]) := rng_pre (vs := [Value.int .u64 (u0 : Int), .int .u64 (u1 : Int), .int .u64 (u2 : Int), .int .u64 (u3 : Int), .bool vo]) (rng_post (us := [Value.int .u8 (K : Int), .int .u64 (l0 : Int), .int .u64 (l1 : Int), .int .u64 (l2 : Int), .int .u64 (l3 : Int), .int .i64 dd, .bool mo, .slice pa pm pc, .bool ow]) (S9.out.blk 3 rfl).1)
          go_wp2_with (first | refine wpList_load_mid rfl 44 _ rfl bd 9 rfl [Value.string pb, .string pe, .string pv, .bool pg, .bool po, .int .u8 (pk : Int)] _ HRP.out Try.underlying44 rfl Try.size_p ?_)
          refine (CW.out _).mono ?_; rintro e w10 ⟨rfl, hb⟩
          have S10 := Lib.hid (S9.out.below hb)
          clear hb S9 HRP CW
          go_wp2_with (first | refine blk_alloc rfl 42 [Value.string ⟨#[]⟩, .string ⟨#[]⟩, .string ⟨#[]⟩, .bool false] rfl Try.info_wz ?_)
          intro w11a A9 B Z
          obtain ⟨bw, HB9⟩ : ∃ b, Hid (w10.heap.size = b) := ⟨_, rfl⟩
          go_wp2_with (first | refine blk_store rfl 42 _ _ rfl w10.heap.size rfl [Value.string kb, .string ke, .string kv, .bool kg] rfl _ A9 rfl It.Try.size_w rfl ?_)
          intro w11 A8 U9
          have S11 : Hid (Sep w w11 [rB bw [Value.string kb, .string ke, .string kv, .bool kg], rB bv [Value.int .u64 (g0 : Int), .int .u64 (g1 : Int), .int .u64 (g2 : Int), .int .u64 (g3 : Int)], rB bt [Value.int .u64 (b0 : Int), .int .u64 (b1 : Int), .int .u64 (b2 : Int), .int .u64 (b3 : Int), .int .i64 d, .slice ta m tc], rW (.slice ta m tc) MM, rB bd [Value.int .u8 (K : Int), .int .u64 (l0 : Int), .int .u64 (l1 : Int), .int .u64 (l2 : Int), .int .u64 (l3 : Int), .int .i64 dd, .bool mo, .slice pa pm pc, .bool ow, .string pb, .string pe, .string pv, .bool pg, .bool po, .int .u8 (pk : Int), .int .u64 (u0 : Int), .int .u64 (u1 : Int), .int .u64 (u2 : Int), .int .u64 (u3 : Int), .bool vo], rB xb (rfv rm wv lv A), rZ wv Q Q, rO (vk wrt) 107 w.heap.size lv D, rS sa (gr rm lb ch mb W E A)]) := by
            show Sep _ _ _
            rw [← HB9.out]
            exact Sep.fresh S10.out B Z U9 A8
          rw [HB9.out]
          clear A9 B Z A8 U9 HB9 S10
          have S12 : Hid (Sep w w11 [rB xb (rfv rm wv lv A), rZ wv Q Q, rO (vk wrt) 107 w.heap.size lv D, rS sa (gr rm lb ch mb W E A), rB bw [Value.string kb, .string ke, .string kv, .bool kg], rB bv [Value.int .u64 (g0 : Int), .int .u64 (g1 : Int), .int .u64 (g2 : Int), .int .u64 (g3 : Int)], rB bt [Value.int .u64 (b0 : Int), .int .u64 (b1 : Int), .int .u64 (b2 : Int), .int .u64 (b3 : Int), .int .i64 d, .slice ta m tc], rW (.slice ta m tc) MM, rB bd [Value.int .u8 (K : Int), .int .u64 (l0 : Int), .int .u64 (l1 : Int), .int .u64 (l2 : Int), .int .u64 (l3 : Int), .int .i64 dd, .bool mo, .slice pa pm pc, .bool ow, .string pb, .string pe, .string pv, .bool pg, .bool po, .int .u8 (pk : Int), .int .u64 (u0 : Int), .int .u64 (u1 : Int), .int .u64 (u2 : Int), .int .u64 (u3 : Int), .bool vo]]) := S11.out.perm (List.perm_append_comm (l₁ := [rB bw [Value.string kb, .string ke, .string kv, .bool kg], rB bv [Value.int .u64 (g0 : Int), .int .u64 (g1 : Int), .int .u64 (g2 : Int), .int .u64 (g3 : Int)], rB bt [Value.int .u64 (b0 : Int), .int .u64 (b1 : Int), .int .u64 (b2 : Int), .int .u64 (b3 : Int), .int .i64 d, .slice ta m tc], rW (.slice ta m tc) MM, rB bd [Value.int .u8 (K : Int), .int .u64 (l0 : Int), .int .u64 (l1 : Int), .int .u64 (l2 : Int), .int .u64 (l3 : Int), .int .i64 dd, .bool mo, .slice pa pm pc, .bool ow, .string pb, .string pe, .string pv, .bool pg, .bool po, .int .u8 (pk : Int), .int .u64 (u0 : Int), .int .u64 (u1 : Int), .int .u64 (u2 : Int), .int .u64 (u3 : Int), .bool vo]]) (l₂ := [rB xb (rfv rm wv lv A), rZ wv Q Q, rO (vk wrt) 107 w.heap.size lv D, rS sa (gr rm lb ch mb W E A)]))
          clear S11
          obtain ⟨q8, hq8⟩ : ∃ q, q = K % 8 := ⟨_, rfl⟩
          have hq : q8 < 8 := by omega
          have T0 : (K : Int).tmod 8 = (q8 : Int) := by rw [Int.tmod_eq_emod_of_nonneg (by omega)]; omega
          have M0 : (K : Int) % 8 = (q8 : Int) := by omega
          have wu0 : IntKind.u8.wrap (q8 : Int) = (q8 : Int) := by simp [IntKind.wrap, IntKind.bits, IntKind.signed]; omega
          have c0 : w11.cell? ⟨bd, 0, none⟩ = some (.int .u8 (K : Int)) := (S12.out.blk 8 rfl).cell 0 _ rfl
          clear hq8 hk
          have hk60 : j ≤ 60 := by omega
          go_upto_block 2 with fail
          go_cut [16] from 62 to 242 (fun fv wx => fv = .bool true ∧ ∃ (W : List Bt) (E : List En) (A : List Nat) (wv lv : Value) (Q : List Tq) (D : List Ver), Hid (PlOk rm (j + 1) W E A Q D) ∧ Hid (Sep w wx [rB xb (rfv rm wv lv A), rZ wv Q Q, rO (vk wrt) 107 w.heap.size lv D, rS sa (gr rm lb ch mb W E A), rB bw [Value.string kb, .string ke, .string kv, .bool kg], rB bv [Value.int .u64 (g0 : Int), .int .u64 (g1 : Int), .int .u64 (g2 : Int), .int .u64 (g3 : Int)], rB bt [Value.int .u64 (b0 : Int), .int .u64 (b1 : Int), .int .u64 (b2 : Int), .int .u64 (b3 : Int), .int .i64 d, .slice ta m tc], rW (.slice ta m tc) MM, rB bd [Value.int .u8 (K : Int), .int .u64 (l0 : Int), .int .u64 (l1 : Int), .int .u64 (l2 : Int), .int .u64 (l3 : Int), .int .i64 dd, .bool mo, .slice pa pm pc, .bool ow, .string pb, .string pe, .string pv, .bool pg, .bool po, .int .u8 (pk : Int), .int .u64 (u0 : Int), .int .u64 (u1 : Int), .int .u64 (u2 : Int), .int .u64 (u3 : Int), .bool vo]]))
          case first =>
            by_cases h4 : q8 = 4
            · as_aux_lemma =>
                have e4 : ((q8 : Int) == 4) = true := by rw [h4]; rfl
                cases Q with
                | nil =>
                  go_wp2_with fail
                  refine (tw_step0 HP.out S12.out).mono ?_; rintro e w12 ⟨rfl, hs⟩
                  have S13 := Lib.hid hs
                  clear hs S12
                  go_wp2_with fail
                  refine (rstep_no S13.out).mono ?_; rintro e w13 ⟨rfl, rfl⟩
                  go_wp2_with fail
                  go_meet
                  exact ⟨rfl, W, E, A, wv, lv, [], D, HP.out.more, S13⟩
                | cons q Q =>
                  go_wp2_with fail
                  refine (tw_step1 q HP.out hk60 S12.out).mono ?_; rintro e w12 ⟨rfl, W2, E2, hs, hp⟩
                  have S13 := Lib.hid hs
                  have HP2 := Lib.hid hp
                  clear hs hp S12
                  go_wp2_with fail
                  refine (rstep q S13.out HP.out.a4 (HP.out.rt q (List.mem_cons_self ..)).2.1 HP.out.four (by have h8 := HP.out.len; have h9 := (HP.out.rt q (List.mem_cons_self ..)).2.2; omega) (by have h9 := HP.out.wl; simp only [List.length_cons] at h9; omega)).mono ?_; rintro e w13 ⟨rfl, wv2, lv2, hs⟩
                  have S14 := Lib.hid hs
                  clear hs S13
                  go_wp2_with fail
                  go_meet
                  exact ⟨rfl, W2, E2, _, wv2, lv2, Q, _, HP2, S14⟩
            · skip
              have e4 : ((q8 : Int) == 4) = false := by rw [beq_eq_false_iff_ne]; omega
              by_cases h5 : q8 = 5
              · as_aux_lemma =>
                  have e5 : ((q8 : Int) == 5) = true := by rw [h5]; rfl
                  cases Q with
                  | nil =>
                    go_wp2_with fail
                    refine (tw_step0 HP.out S12.out).mono ?_; rintro e w12 ⟨rfl, hs⟩
                    have S13 := Lib.hid hs
                    clear hs S12
                    go_wp2_with fail
                    refine (rstep_no S13.out).mono ?_; rintro e w13 ⟨rfl, rfl⟩
                    go_wp2_with fail
                    go_meet
                    exact ⟨rfl, W, E, A, wv, lv, [], D, HP.out.more, S13⟩
                  | cons q Q =>
                    go_wp2_with fail
                    refine (tw_step1 q HP.out hk60 S12.out).mono ?_; rintro e w12 ⟨rfl, W2, E2, hs, hp⟩
                    have S13 := Lib.hid hs
                    have HP2 := Lib.hid hp
                    clear hs hp S12
                    go_wp2_with fail
                    refine (rstep q S13.out HP.out.a4 (HP.out.rt q (List.mem_cons_self ..)).2.1 HP.out.four (by have h8 := HP.out.len; have h9 := (HP.out.rt q (List.mem_cons_self ..)).2.2; omega) (by have h9 := HP.out.wl; simp only [List.length_cons] at h9; omega)).mono ?_; rintro e w13 ⟨rfl, wv2, lv2, hs⟩
                    have S14 := Lib.hid hs
                    clear hs S13
                    go_wp2_with fail
                    go_meet
                    exact ⟨rfl, W2, E2, _, wv2, lv2, Q, _, HP2, S14⟩
              · skip
                have e5 : ((q8 : Int) == 5) = false := by rw [beq_eq_false_iff_ne]; omega
                by_cases h6 : q8 = 6
                · as_aux_lemma =>
                    have e6 : ((q8 : Int) == 6) = true := by rw [h6]; rfl
                    cases Q with
                    | nil =>
                      go_wp2_with fail
                      refine (tw_step0 HP.out S12.out).mono ?_; rintro e w12 ⟨rfl, hs⟩
                      have S13 := Lib.hid hs
                      clear hs S12
                      go_wp2_with fail
                      refine (rstep_no S13.out).mono ?_; rintro e w13 ⟨rfl, rfl⟩
                      go_wp2_with fail
                      go_meet
                      exact ⟨rfl, W, E, A, wv, lv, [], D, HP.out.more, S13⟩
                    | cons q Q =>
                      go_wp2_with fail
                      refine (tw_step1 q HP.out hk60 S12.out).mono ?_; rintro e w12 ⟨rfl, W2, E2, hs, hp⟩
                      have S13 := Lib.hid hs
                      have HP2 := Lib.hid hp
                      clear hs hp S12
                      go_wp2_with fail
                      refine (rstep q S13.out HP.out.a4 (HP.out.rt q (List.mem_cons_self ..)).2.1 HP.out.four (by have h8 := HP.out.len; have h9 := (HP.out.rt q (List.mem_cons_self ..)).2.2; omega) (by have h9 := HP.out.wl; simp only [List.length_cons] at h9; omega)).mono ?_; rintro e w13 ⟨rfl, wv2, lv2, hs⟩
                      have S14 := Lib.hid hs
                      clear hs S13
                      go_wp2_with fail
                      go_meet
                      exact ⟨rfl, W2, E2, _, wv2, lv2, Q, _, HP2, S14⟩
                · skip
                  have e6 : ((q8 : Int) == 6) = false := by rw [beq_eq_false_iff_ne]; omega
                  by_cases h7 : q8 = 7
                  · as_aux_lemma =>
                      have e7 : ((q8 : Int) == 7) = true := by rw [h7]; rfl
                      have SD := Lib.hid (S12.out.below ((Below.refl w11.heap.size w11).drew))
                      clear S12
                      obtain ⟨z, HZ⟩ : ∃ z : Int, Hid ((D.length : Int) - ((prD D [g0, g1, g2, g3] D.length).length : Int) = z) := ⟨_, rfl⟩
                      have C1 := Lib.hid (tw_prune1 [g0, g1, g2, g3] HP.out hk60 rfl SD.out)
                      rw [HZ.out] at C1
                      have hzz : (z == z) = true := beq_self_eq_true z
                      go_wp2_with fail
                      refine region_pickC (fun u => Blk u bv [Value.int .u64 (g0 : Int), .int .u64 (g1 : Int), .int .u64 (g2 : Int), .int .u64 (g3 : Int)]) 8 [0, 1, 3, 4] [2, 5, 6, 7] Try.mixed (by kernel_rfl) rfl (by kernel_rfl) (SD.out.blk 5 rfl) ?_
                      refine p_readC rfl ?_
                      refine c_value rfl (.pointer (some ⟨sa, 0, none⟩)) (fun u hu => by go_simp) (fun _ _ _ h => h) (fun K hK => ?_)
                      go_simp
                      refine hK _ ?_
                      clear hK K
                      refine c_nil ?_
                      refine p_readC rfl ?_
                      refine c_blk_load rfl 33 _ rfl bv rfl [Value.int .u64 (g0 : Int), .int .u64 (g1 : Int), .int .u64 (g2 : Int), .int .u64 (g3 : Int)] (fun u hu => hu) _ Try.underlying33 rfl Try.size_v (fun _ _ _ h => h) (fun K hK => ?_)
                      go_simp
                      refine hK _ ?_
                      clear hK K
                      refine c_nil ?_
                      refine p_readC rfl ?_
                      refine c_value rfl (.pointer (some ⟨xb, 0, none⟩)) (fun u hu => by go_simp) (fun _ _ _ h => h) (fun K hK => ?_)
                      go_simp
                      refine hK _ ?_
                      clear hK K
                      refine c_nil ?_
                      refine p_readC rfl ?_
                      refine c_blk_load rfl 33 _ rfl bv rfl [Value.int .u64 (g0 : Int), .int .u64 (g1 : Int), .int .u64 (g2 : Int), .int .u64 (g3 : Int)] (fun u hu => hu) _ Try.underlying33 rfl Try.size_v (fun _ _ _ h => h) (fun K hK => ?_)
                      go_simp
                      refine hK _ ?_
                      clear hK K
                      refine c_nil ?_
                      refine p_nilC ?_
                      refine p_stepC rfl ?_
                      go_wp2_with fail
                      refine (C1.out).mono ?_; rintro e w12 ⟨rfl, E2, hs, hp⟩
                      have S13 := Lib.hid hs
                      have HP2 := Lib.hid hp
                      clear hs hp C1 SD
                      go_wp2_with fail
                      refine And.intro (fun _ => S13.out.blk 5 rfl) ?_
                      have C2 := Lib.hid (rprune [g0, g1, g2, g3] (S13.out.perm (List.Perm.cons _ (List.Perm.swap _ _ _))) HP.out.four (by have := HP.out.len; omega) rfl)
                      rw [HZ.out] at C2
                      refine p_stepC rfl ?_
                      go_wp2_with fail
                      refine (C2.out).mono ?_; rintro e w13 ⟨rfl, lv2, hs⟩
                      have S14 := Lib.hid (hs.perm (List.Perm.cons _ (List.Perm.swap _ _ _)))
                      clear hs C2 S13
                      go_wp2_with fail
                      refine And.intro (fun _ => S14.out.blk 5 rfl) ?_
                      refine p_stepC rfl ?_
                      go_wp2_with fail
                      refine And.intro (fun _ => S14.out.blk 5 rfl) ?_
                      refine p_stepC rfl ?_
                      go_wp2_with fail
                      refine And.intro (fun _ => S14.out.blk 5 rfl) ?_
                      refine p_endC ?_
                      go_wp2_with fail
                      go_meet
                      exact ⟨rfl, W, E2, A, wv, lv2, Q, _, HP2, S14⟩
                  · as_aux_lemma =>
                      have e7 : ((q8 : Int) == 7) = false := by rw [beq_eq_false_iff_ne]; omega
                      have SD := Lib.hid (S12.out.below ((Below.refl w11.heap.size w11).drew))
                      clear S12
                      obtain ⟨z, hz1, hz2, hpz⟩ := tw_push HP.out (([b0, b1, b2, b3], d) : C.St) MM rfl (by rw [HMM.out]; exact HWL.out)
                      have HPZ := Lib.hid hpz
                      have HZ2 := Lib.hid hz2
                      have C1 := Lib.hid (tw_push1 (([b0, b1, b2, b3], d) : C.St) (.slice ta m tc) MM SD.out rfl (SD.out.get 7 rfl) (by rw [HMM.out]; have := HWL.out; omega))
                      rw [hz1] at C1
                      clear hz1 hz2 hpz
                      have hzz : (z == z) = true := beq_self_eq_true z
                      go_wp2_with fail
                      refine region_pickC (fun u => Blk u bt [Value.int .u64 (b0 : Int), .int .u64 (b1 : Int), .int .u64 (b2 : Int), .int .u64 (b3 : Int), .int .i64 d, .slice ta m tc]) 16 [0, 1, 2, 3, 4, 6, 7, 8, 10, 11] [5, 9, 12, 13, 14, 15] Try.mixed (by kernel_rfl) rfl (by kernel_rfl) (SD.out.blk 6 rfl) ?_
                      refine p_readC rfl ?_
                      refine c_value rfl (.pointer (some ⟨sa, 0, none⟩)) (fun u hu => by go_simp) (fun _ _ _ h => h) (fun K hK => ?_)
                      go_simp
                      refine hK _ ?_
                      clear hK K
                      refine c_nil ?_
                      refine p_readC rfl ?_
                      refine c_value rfl (.pointer (some ⟨bt, 0, none⟩)) (fun u hu => by go_simp) (fun _ _ _ h => h) (fun K hK => ?_)
                      go_simp
                      refine hK _ ?_
                      clear hK K
                      refine c_nil ?_
                      refine p_readC rfl ?_
                      refine c_mid_load rfl 35 _ rfl bt 0 rfl [Value.int .u64 (b0 : Int), .int .u64 (b1 : Int), .int .u64 (b2 : Int), .int .u64 (b3 : Int), .int .i64 d] (fun u hu => rng_pre (vs := [Value.slice ta m tc]) hu.1) _ Try.underlying35 rfl (size_s (l := [b0, b1, b2, b3]) rfl) (fun _ _ _ h => h) (fun K hK => ?_)
                      go_simp
                      refine hK _ ?_
                      clear hK K
                      refine c_nil ?_
                      refine p_readC rfl ?_
                      refine c_value rfl (.pointer (some ⟨bt, 5, none⟩)) (fun u hu => by go_simp) (fun _ _ _ h => h) (fun K hK => ?_)
                      go_simp
                      refine hK _ ?_
                      clear hK K
                      refine c_nil ?_
                      refine p_readC rfl ?_
                      refine c_value rfl (.slice ta m tc) (fun u hu => by have hc := hu.cell 5 _ rfl; go_simp) (fun _ _ _ h => h) (fun K hK => ?_)
                      go_simp
                      refine hK _ ?_
                      clear hK K
                      refine c_nil ?_
                      refine p_readC rfl ?_
                      refine c_value rfl (.pointer (some ⟨xb, 0, none⟩)) (fun u hu => by go_simp) (fun _ _ _ h => h) (fun K hK => ?_)
                      go_simp
                      refine hK _ ?_
                      clear hK K
                      refine c_nil ?_
                      refine p_readC rfl ?_
                      refine c_value rfl (.pointer (some ⟨bt, 0, none⟩)) (fun u hu => by go_simp) (fun _ _ _ h => h) (fun K hK => ?_)
                      go_simp
                      refine hK _ ?_
                      clear hK K
                      refine c_nil ?_
                      refine p_readC rfl ?_
                      refine c_mid_load rfl 35 _ rfl bt 0 rfl [Value.int .u64 (b0 : Int), .int .u64 (b1 : Int), .int .u64 (b2 : Int), .int .u64 (b3 : Int), .int .i64 d] (fun u hu => rng_pre (vs := [Value.slice ta m tc]) hu.1) _ Try.underlying35 rfl (size_s (l := [b0, b1, b2, b3]) rfl) (fun _ _ _ h => h) (fun K hK => ?_)
                      go_simp
                      refine hK _ ?_
                      clear hK K
                      refine c_nil ?_
                      refine p_readC rfl ?_
                      refine c_value rfl (.pointer (some ⟨bt, 5, none⟩)) (fun u hu => by go_simp) (fun _ _ _ h => h) (fun K hK => ?_)
                      go_simp
                      refine hK _ ?_
                      clear hK K
                      refine c_nil ?_
                      refine p_readC rfl ?_
                      refine c_value rfl (.slice ta m tc) (fun u hu => by have hc := hu.cell 5 _ rfl; go_simp) (fun _ _ _ h => h) (fun K hK => ?_)
                      go_simp
                      refine hK _ ?_
                      clear hK K
                      refine c_nil ?_
                      refine p_nilC ?_
                      refine p_stepC rfl ?_
                      go_wp2_with fail
                      refine (C1.out).mono ?_; rintro e w12 ⟨rfl, W2, hs, hw⟩
                      have S13 := Lib.hid hs
                      have HW2 := Lib.hid hw
                      clear hs hw C1 SD
                      go_wp2_with fail
                      refine And.intro (fun _ => S13.out.blk 6 rfl) ?_
                      refine p_stepC rfl ?_
                      go_wp2_with fail
                      refine (refstamp_any [b0, b1, b2, b3] d _ rfl).mono ?_; rintro e w13 ⟨rfl, hb⟩
                      have S14 := Lib.hid (S13.out.below hb)
                      clear hb S13
                      go_wp2_with fail
                      refine And.intro (fun _ => S14.out.blk 6 rfl) ?_
                      refine p_stepC rfl ?_
                      go_wp2_with fail
                      refine (refwrites_any (.slice ta m tc) MM _ (S14.out.get 7 rfl) (by rw [HMM.out]; have := HWL.out; omega)).mono ?_; rintro e w14 ⟨v9, rfl, ho, hb⟩
                      have S15 := Lib.hid (S14.out.below hb)
                      have HO := Lib.hid (OW.is ho)
                      clear hb ho S14
                      go_wp2_with fail
                      refine And.intro (fun _ => S15.out.blk 6 rfl) ?_
                      have C2 := Lib.hid (rpush (([b0, b1, b2, b3], d) : C.St) v9 MM S15.out rfl HO.out (by rw [HMM.out]; have := HWL.out; omega) (by have := HP.out.wl; omega) h16)
                      rw [HZ2.out] at C2
                      refine p_stepC rfl ?_
                      go_wp2_with fail
                      refine (C2.out).mono ?_; rintro e w15 ⟨rfl, wv2, qa, qc, hs⟩
                      have S16 := Lib.hid hs
                      clear hs C2 S15
                      go_wp2_with fail
                      refine And.intro (fun _ => S16.out.blk 6 rfl) ?_
                      refine p_stepC rfl ?_
                      go_wp2_with fail
                      refine And.intro (fun _ => S16.out.blk 6 rfl) ?_
                      refine p_stepC rfl ?_
                      go_wp2_with fail
                      refine And.intro (fun _ => S16.out.blk 6 rfl) ?_
                      refine p_endC ?_
                      go_wp2_with fail
                      go_meet
                      exact ⟨rfl, W2, E, A, wv2, lv, _, D, HPZ.out W2 qa qc HW2.out, S16⟩
          case rest =>
          clear c0 T0 M0 wu0 S12 HP HWL hq
          obtain ⟨rfl, W, E, A, wv, lv, Q, D, HP, Sx⟩ := hcut
          have hsh := shard_sh Sx.out 3 rfl
          have hlim : ∀ y ∈ vis E, y.2.length < 1000 := fun y hy => by have h8 := HP.out.lim hsh y hy; have h9 := HP.out.len; omega
          have hdn : D.length < 1000 := by have h9 := HP.out.len; omega
          obtain ⟨x0, x1, x2, x3, xd, ⟨yb, yk, yv, yg⟩, is, hr1, hr2, hr3, hr4⟩ := tw_read HP.out hsh (kb, ke) [g0, g1, g2, g3]
          obtain ⟨c0, c1, c2, c3, cd, ⟨zb, zk, zv, zg⟩, il, hl1, hl2, hl3, hl4⟩ := tw_last HP.out hsh (kb, ke)
          obtain ⟨ra, HRA⟩ : ∃ z, Hid ((is && !yg) = z) := ⟨_, rfl⟩
          have HTOT := Lib.hid (HP.out.tot hsh)
          have R1 : Hid (∀ u, Sh u sa (gr rm lb ch mb W E A) → (∀ k ∈ (gr rm lb ch mb W E A).bl sa, k < u.heap.size) → Calls Try.prog 22 #[.pointer (some ⟨sa, 0, none⟩), .string kb, .string ke, .agg [Value.int .u64 (g0 : Int), .int .u64 (g1 : Int), .int .u64 (g2 : Int), .int .u64 (g3 : Int)].toArray] u fun e w' => e = .returned (.tuple #[.string yv, .agg [Value.int .u64 (x0 : Int), .int .u64 (x1 : Int), .int .u64 (x2 : Int), .int .u64 (x3 : Int), .int .i64 xd].toArray, .bool ra]) ∧ Below u.heap.size u w') := fun u hu hl => by
            have h9 := read_ga kb ke [g0, g1, g2, g3] hu hl rfl hlim
            rw [hr1, hr2] at h9
            dsimp only at h9
            rw [HRA.out] at h9
            exact h9
          have R2 : Hid (∀ u, Blk u xb (rfv rm wv lv A) → OR (vk wrt) 107 u w.heap.size lv D → Calls Try.prog 23 #[.pointer (some ⟨xb, 0, none⟩), .string kb, .string ke, .agg [Value.int .u64 (g0 : Int), .int .u64 (g1 : Int), .int .u64 (g2 : Int), .int .u64 (g3 : Int)].toArray] u fun e w' => e = .returned (.tuple #[.string yv, .agg [Value.int .u64 (x0 : Int), .int .u64 (x1 : Int), .int .u64 (x2 : Int), .int .u64 (x3 : Int), .int .i64 xd].toArray, .bool ra]) ∧ Below u.heap.size u w') := fun u hB hO => by
            have h9 := rread xb rm wv lv A D w.heap.size kb ke [g0, g1, g2, g3] u hB hO HP.out.four hdn rfl
            rw [hr3, hr4] at h9
            dsimp only at h9
            rw [HRA.out] at h9
            exact h9
          have R3 : Hid (∀ u, Sh u sa (gr rm lb ch mb W E A) → (∀ k ∈ (gr rm lb ch mb W E A).bl sa, k < u.heap.size) → Calls Try.prog 24 #[.pointer (some ⟨sa, 0, none⟩), .string kb, .string ke] u fun e w' => e = .returned (.tuple #[.agg [Value.string zb, .string zk, .string zv, .bool zg].toArray, .agg [Value.int .u64 (c0 : Int), .int .u64 (c1 : Int), .int .u64 (c2 : Int), .int .u64 (c3 : Int), .int .i64 cd].toArray, .bool il]) ∧ Below u.heap.size u w') := fun u hu hl => by
            have h9 := last_ga kb ke hu hl hlim
            rw [hl1, hl2] at h9
            exact h9
          have R4 : Hid (∀ u, Blk u xb (rfv rm wv lv A) → OR (vk wrt) 107 u w.heap.size lv D → Calls Try.prog 25 #[.pointer (some ⟨xb, 0, none⟩), .string kb, .string ke] u fun e w' => e = .returned (.tuple #[.agg [Value.string zb, .string zk, .string zv, .bool zg].toArray, .agg [Value.int .u64 (c0 : Int), .int .u64 (c1 : Int), .int .u64 (c2 : Int), .int .u64 (c3 : Int), .int .i64 cd].toArray, .bool il]) ∧ Below u.heap.size u w') := fun u hB hO => by
            have h9 := rlastv xb rm wv lv A D w.heap.size kb ke u hB hO HP.out.four hdn
            rw [hl3, hl4] at h9
            exact h9
          clear hsh hlim hr1 hr2 hr3 hr4 hl1 hl2 hl3 hl4 HRA
          have k0 := (Sx.out.blk 4 rfl).cell 0 (.string kb) rfl
          have k1 := (Sx.out.blk 4 rfl).cell 1 (.string ke) rfl
          go_wp2_with (first | refine blk_load rfl 33 _ rfl bv rfl [Value.int .u64 (g0 : Int), .int .u64 (g1 : Int), .int .u64 (g2 : Int), .int .u64 (g3 : Int)] (Sx.out.blk 5 rfl) _ Try.underlying33 rfl Try.size_v ?_)
          clear k0 k1
          refine (R1.out _ (shard_sh Sx.out 3 rfl) (shard_lt Sx.out 3 rfl)).mono ?_; rintro e v30 ⟨rfl, hb⟩
          have S30 : Hid (Sep w v30 [rB xb (rfv rm wv lv A), rZ wv Q Q, rO (vk wrt) 107 w.heap.size lv D, rS sa (gr rm lb ch mb W E A), rB bw [Value.string kb, .string ke, .string kv, .bool kg], rB bv [Value.int .u64 (g0 : Int), .int .u64 (g1 : Int), .int .u64 (g2 : Int), .int .u64 (g3 : Int)], rB bt [Value.int .u64 (b0 : Int), .int .u64 (b1 : Int), .int .u64 (b2 : Int), .int .u64 (b3 : Int), .int .i64 d, .slice ta m tc], rW (.slice ta m tc) MM, rB bd [Value.int .u8 (K : Int), .int .u64 (l0 : Int), .int .u64 (l1 : Int), .int .u64 (l2 : Int), .int .u64 (l3 : Int), .int .i64 dd, .bool mo, .slice pa pm pc, .bool ow, .string pb, .string pe, .string pv, .bool pg, .bool po, .int .u8 (pk : Int), .int .u64 (u0 : Int), .int .u64 (u1 : Int), .int .u64 (u2 : Int), .int .u64 (u3 : Int), .bool vo]]) := Sx.out.below hb
          clear hb Sx
          go_wp2_with (first | refine blk_alloc rfl 35 [Value.int .u64 0, .int .u64 0, .int .u64 0, .int .u64 0, .int .i64 0] rfl Try.info_st ?_)
          intro v31a A9 B Z
          obtain ⟨q1, HB9⟩ : ∃ b, Hid (v30.heap.size = b) := ⟨_, rfl⟩
          go_wp2_with (first | refine blk_store rfl 35 _ _ rfl v30.heap.size rfl [Value.int .u64 (x0 : Int), .int .u64 (x1 : Int), .int .u64 (x2 : Int), .int .u64 (x3 : Int), .int .i64 xd] rfl _ A9 rfl Try.size_s rfl ?_)
          intro v31 A8 U9
          have S31 : Hid (Sep w v31 [rB q1 [Value.int .u64 (x0 : Int), .int .u64 (x1 : Int), .int .u64 (x2 : Int), .int .u64 (x3 : Int), .int .i64 xd], rB xb (rfv rm wv lv A), rZ wv Q Q, rO (vk wrt) 107 w.heap.size lv D, rS sa (gr rm lb ch mb W E A), rB bw [Value.string kb, .string ke, .string kv, .bool kg], rB bv [Value.int .u64 (g0 : Int), .int .u64 (g1 : Int), .int .u64 (g2 : Int), .int .u64 (g3 : Int)], rB bt [Value.int .u64 (b0 : Int), .int .u64 (b1 : Int), .int .u64 (b2 : Int), .int .u64 (b3 : Int), .int .i64 d, .slice ta m tc], rW (.slice ta m tc) MM, rB bd [Value.int .u8 (K : Int), .int .u64 (l0 : Int), .int .u64 (l1 : Int), .int .u64 (l2 : Int), .int .u64 (l3 : Int), .int .i64 dd, .bool mo, .slice pa pm pc, .bool ow, .string pb, .string pe, .string pv, .bool pg, .bool po, .int .u8 (pk : Int), .int .u64 (u0 : Int), .int .u64 (u1 : Int), .int .u64 (u2 : Int), .int .u64 (u3 : Int), .bool vo]]) := by
            show Sep _ _ _
            rw [← HB9.out]
            exact Sep.fresh S30.out B Z U9 A8
          rw [HB9.out]
          clear A9 B Z A8 U9 HB9 S30
          have k0 := (S31.out.blk 5 rfl).cell 0 (.string kb) rfl
          have k1 := (S31.out.blk 5 rfl).cell 1 (.string ke) rfl
          go_wp2_with (first | refine blk_load rfl 33 _ rfl bv rfl [Value.int .u64 (g0 : Int), .int .u64 (g1 : Int), .int .u64 (g2 : Int), .int .u64 (g3 : Int)] (S31.out.blk 6 rfl) _ Try.underlying33 rfl Try.size_v ?_)
          clear k0 k1
          refine (R2.out _ (S31.out.blk 1 rfl) (S31.out.or 3 rfl)).mono ?_; rintro e v32 ⟨rfl, hb⟩
          have S32 : Hid (Sep w v32 [rB q1 [Value.int .u64 (x0 : Int), .int .u64 (x1 : Int), .int .u64 (x2 : Int), .int .u64 (x3 : Int), .int .i64 xd], rB xb (rfv rm wv lv A), rZ wv Q Q, rO (vk wrt) 107 w.heap.size lv D, rS sa (gr rm lb ch mb W E A), rB bw [Value.string kb, .string ke, .string kv, .bool kg], rB bv [Value.int .u64 (g0 : Int), .int .u64 (g1 : Int), .int .u64 (g2 : Int), .int .u64 (g3 : Int)], rB bt [Value.int .u64 (b0 : Int), .int .u64 (b1 : Int), .int .u64 (b2 : Int), .int .u64 (b3 : Int), .int .i64 d, .slice ta m tc], rW (.slice ta m tc) MM, rB bd [Value.int .u8 (K : Int), .int .u64 (l0 : Int), .int .u64 (l1 : Int), .int .u64 (l2 : Int), .int .u64 (l3 : Int), .int .i64 dd, .bool mo, .slice pa pm pc, .bool ow, .string pb, .string pe, .string pv, .bool pg, .bool po, .int .u8 (pk : Int), .int .u64 (u0 : Int), .int .u64 (u1 : Int), .int .u64 (u2 : Int), .int .u64 (u3 : Int), .bool vo]]) := S31.out.below hb
          clear hb S31
          go_wp2_with (first | refine blk_alloc rfl 61 [Value.int .u64 0, .int .u64 0, .int .u64 0, .int .u64 0, .int .i64 0] rfl info_rs5 ?_)
          intro v33a A9 B Z
          obtain ⟨q2, HB9⟩ : ∃ b, Hid (v32.heap.size = b) := ⟨_, rfl⟩
          go_wp2_with (first | refine blk_store rfl 61 _ _ rfl v32.heap.size rfl [Value.int .u64 (x0 : Int), .int .u64 (x1 : Int), .int .u64 (x2 : Int), .int .u64 (x3 : Int), .int .i64 xd] rfl _ A9 rfl Try.size_rs rfl ?_)
          intro v33 A8 U9
          have S33 : Hid (Sep w v33 [rB q2 [Value.int .u64 (x0 : Int), .int .u64 (x1 : Int), .int .u64 (x2 : Int), .int .u64 (x3 : Int), .int .i64 xd], rB q1 [Value.int .u64 (x0 : Int), .int .u64 (x1 : Int), .int .u64 (x2 : Int), .int .u64 (x3 : Int), .int .i64 xd], rB xb (rfv rm wv lv A), rZ wv Q Q, rO (vk wrt) 107 w.heap.size lv D, rS sa (gr rm lb ch mb W E A), rB bw [Value.string kb, .string ke, .string kv, .bool kg], rB bv [Value.int .u64 (g0 : Int), .int .u64 (g1 : Int), .int .u64 (g2 : Int), .int .u64 (g3 : Int)], rB bt [Value.int .u64 (b0 : Int), .int .u64 (b1 : Int), .int .u64 (b2 : Int), .int .u64 (b3 : Int), .int .i64 d, .slice ta m tc], rW (.slice ta m tc) MM, rB bd [Value.int .u8 (K : Int), .int .u64 (l0 : Int), .int .u64 (l1 : Int), .int .u64 (l2 : Int), .int .u64 (l3 : Int), .int .i64 dd, .bool mo, .slice pa pm pc, .bool ow, .string pb, .string pe, .string pv, .bool pg, .bool po, .int .u8 (pk : Int), .int .u64 (u0 : Int), .int .u64 (u1 : Int), .int .u64 (u2 : Int), .int .u64 (u3 : Int), .bool vo]]) := by
            show Sep _ _ _
            rw [← HB9.out]
            exact Sep.fresh S32.out B Z U9 A8
          rw [HB9.out]
          clear A9 B Z A8 U9 HB9 S32
          have k0 := (S33.out.blk 6 rfl).cell 0 (.string kb) rfl
          have k1 := (S33.out.blk 6 rfl).cell 1 (.string ke) rfl
          go_wp2_with fail
          clear k0 k1
          refine (R3.out _ (shard_sh S33.out 5 rfl) (shard_lt S33.out 5 rfl)).mono ?_; rintro e v34 ⟨rfl, hb⟩
          have S34 : Hid (Sep w v34 [rB q2 [Value.int .u64 (x0 : Int), .int .u64 (x1 : Int), .int .u64 (x2 : Int), .int .u64 (x3 : Int), .int .i64 xd], rB q1 [Value.int .u64 (x0 : Int), .int .u64 (x1 : Int), .int .u64 (x2 : Int), .int .u64 (x3 : Int), .int .i64 xd], rB xb (rfv rm wv lv A), rZ wv Q Q, rO (vk wrt) 107 w.heap.size lv D, rS sa (gr rm lb ch mb W E A), rB bw [Value.string kb, .string ke, .string kv, .bool kg], rB bv [Value.int .u64 (g0 : Int), .int .u64 (g1 : Int), .int .u64 (g2 : Int), .int .u64 (g3 : Int)], rB bt [Value.int .u64 (b0 : Int), .int .u64 (b1 : Int), .int .u64 (b2 : Int), .int .u64 (b3 : Int), .int .i64 d, .slice ta m tc], rW (.slice ta m tc) MM, rB bd [Value.int .u8 (K : Int), .int .u64 (l0 : Int), .int .u64 (l1 : Int), .int .u64 (l2 : Int), .int .u64 (l3 : Int), .int .i64 dd, .bool mo, .slice pa pm pc, .bool ow, .string pb, .string pe, .string pv, .bool pg, .bool po, .int .u8 (pk : Int), .int .u64 (u0 : Int), .int .u64 (u1 : Int), .int .u64 (u2 : Int), .int .u64 (u3 : Int), .bool vo]]) := S33.out.below hb
          clear hb S33
          go_wp2_with (first | refine blk_alloc rfl 42 [Value.string ⟨#[]⟩, .string ⟨#[]⟩, .string ⟨#[]⟩, .bool false] rfl Try.info_wz ?_)
          intro m35 A1 B1 Z1
          go_wp2_with (first | refine blk_alloc rfl 35 [Value.int .u64 0, .int .u64 0, .int .u64 0, .int .u64 0, .int .i64 0] rfl Try.info_st ?_)
          intro n35 A2 B2 Z2
          obtain ⟨q3, HB1⟩ : ∃ b, Hid (v34.heap.size = b) := ⟨_, rfl⟩
          obtain ⟨q4, HB2⟩ : ∃ b, Hid (v34.heap.size + 1 = b) := ⟨_, rfl⟩
          have Sq : Hid (Sep w m35 [rB q3 [Value.string ⟨#[]⟩, .string ⟨#[]⟩, .string ⟨#[]⟩, .bool false], rB q2 [Value.int .u64 (x0 : Int), .int .u64 (x1 : Int), .int .u64 (x2 : Int), .int .u64 (x3 : Int), .int .i64 xd], rB q1 [Value.int .u64 (x0 : Int), .int .u64 (x1 : Int), .int .u64 (x2 : Int), .int .u64 (x3 : Int), .int .i64 xd], rB xb (rfv rm wv lv A), rZ wv Q Q, rO (vk wrt) 107 w.heap.size lv D, rS sa (gr rm lb ch mb W E A), rB bw [Value.string kb, .string ke, .string kv, .bool kg], rB bv [Value.int .u64 (g0 : Int), .int .u64 (g1 : Int), .int .u64 (g2 : Int), .int .u64 (g3 : Int)], rB bt [Value.int .u64 (b0 : Int), .int .u64 (b1 : Int), .int .u64 (b2 : Int), .int .u64 (b3 : Int), .int .i64 d, .slice ta m tc], rW (.slice ta m tc) MM, rB bd [Value.int .u8 (K : Int), .int .u64 (l0 : Int), .int .u64 (l1 : Int), .int .u64 (l2 : Int), .int .u64 (l3 : Int), .int .i64 dd, .bool mo, .slice pa pm pc, .bool ow, .string pb, .string pe, .string pv, .bool pg, .bool po, .int .u8 (pk : Int), .int .u64 (u0 : Int), .int .u64 (u1 : Int), .int .u64 (u2 : Int), .int .u64 (u3 : Int), .bool vo]]) := by
            show Sep _ _ _
            rw [← HB1.out]
            exact S34.out.box B1 Z1 A1
          have Sy : Hid (Sep w n35 [rB q4 [Value.int .u64 0, .int .u64 0, .int .u64 0, .int .u64 0, .int .i64 0], rB q3 [Value.string ⟨#[]⟩, .string ⟨#[]⟩, .string ⟨#[]⟩, .bool false], rB q2 [Value.int .u64 (x0 : Int), .int .u64 (x1 : Int), .int .u64 (x2 : Int), .int .u64 (x3 : Int), .int .i64 xd], rB q1 [Value.int .u64 (x0 : Int), .int .u64 (x1 : Int), .int .u64 (x2 : Int), .int .u64 (x3 : Int), .int .i64 xd], rB xb (rfv rm wv lv A), rZ wv Q Q, rO (vk wrt) 107 w.heap.size lv D, rS sa (gr rm lb ch mb W E A), rB bw [Value.string kb, .string ke, .string kv, .bool kg], rB bv [Value.int .u64 (g0 : Int), .int .u64 (g1 : Int), .int .u64 (g2 : Int), .int .u64 (g3 : Int)], rB bt [Value.int .u64 (b0 : Int), .int .u64 (b1 : Int), .int .u64 (b2 : Int), .int .u64 (b3 : Int), .int .i64 d, .slice ta m tc], rW (.slice ta m tc) MM, rB bd [Value.int .u8 (K : Int), .int .u64 (l0 : Int), .int .u64 (l1 : Int), .int .u64 (l2 : Int), .int .u64 (l3 : Int), .int .i64 dd, .bool mo, .slice pa pm pc, .bool ow, .string pb, .string pe, .string pv, .bool pg, .bool po, .int .u8 (pk : Int), .int .u64 (u0 : Int), .int .u64 (u1 : Int), .int .u64 (u2 : Int), .int .u64 (u3 : Int), .bool vo]]) := by
            show Sep _ _ _
            rw [← HB2.out, ← Z1]
            exact Sq.out.box (by rw [Z1]; exact B2) (by rw [Z1]; exact Z2) (by rw [Z1]; exact A2)
          rw [HB2.out, HB1.out]
          clear A1 B1 Z1 A2 B2 Z2 HB1 HB2 Sq S34
          go_wp2_with (first | refine blk_store rfl 42 _ _ rfl q3 rfl [Value.string zb, .string zk, .string zv, .bool zg] rfl _ (Sy.out.blk 1 rfl) rfl It.Try.size_w rfl ?_)
          intro o35 A8 U8
          have Sz : Hid (Sep w o35 [rB q4 [Value.int .u64 0, .int .u64 0, .int .u64 0, .int .u64 0, .int .i64 0], rB q3 [Value.string zb, .string zk, .string zv, .bool zg], rB q2 [Value.int .u64 (x0 : Int), .int .u64 (x1 : Int), .int .u64 (x2 : Int), .int .u64 (x3 : Int), .int .i64 xd], rB q1 [Value.int .u64 (x0 : Int), .int .u64 (x1 : Int), .int .u64 (x2 : Int), .int .u64 (x3 : Int), .int .i64 xd], rB xb (rfv rm wv lv A), rZ wv Q Q, rO (vk wrt) 107 w.heap.size lv D, rS sa (gr rm lb ch mb W E A), rB bw [Value.string kb, .string ke, .string kv, .bool kg], rB bv [Value.int .u64 (g0 : Int), .int .u64 (g1 : Int), .int .u64 (g2 : Int), .int .u64 (g3 : Int)], rB bt [Value.int .u64 (b0 : Int), .int .u64 (b1 : Int), .int .u64 (b2 : Int), .int .u64 (b3 : Int), .int .i64 d, .slice ta m tc], rW (.slice ta m tc) MM, rB bd [Value.int .u8 (K : Int), .int .u64 (l0 : Int), .int .u64 (l1 : Int), .int .u64 (l2 : Int), .int .u64 (l3 : Int), .int .i64 dd, .bool mo, .slice pa pm pc, .bool ow, .string pb, .string pe, .string pv, .bool pg, .bool po, .int .u8 (pk : Int), .int .u64 (u0 : Int), .int .u64 (u1 : Int), .int .u64 (u2 : Int), .int .u64 (u3 : Int), .bool vo]]) := Sy.out.upd 1 rfl U8 A8
          clear A8 U8 Sy
          go_wp2_with (first | refine blk_store rfl 35 _ _ rfl q4 rfl [Value.int .u64 (c0 : Int), .int .u64 (c1 : Int), .int .u64 (c2 : Int), .int .u64 (c3 : Int), .int .i64 cd] rfl _ (Sz.out.blk 0 rfl) rfl Try.size_s rfl ?_)
          intro e35 A8 U8
          have S35 : Hid (Sep w e35 [rB q4 [Value.int .u64 (c0 : Int), .int .u64 (c1 : Int), .int .u64 (c2 : Int), .int .u64 (c3 : Int), .int .i64 cd], rB q3 [Value.string zb, .string zk, .string zv, .bool zg], rB q2 [Value.int .u64 (x0 : Int), .int .u64 (x1 : Int), .int .u64 (x2 : Int), .int .u64 (x3 : Int), .int .i64 xd], rB q1 [Value.int .u64 (x0 : Int), .int .u64 (x1 : Int), .int .u64 (x2 : Int), .int .u64 (x3 : Int), .int .i64 xd], rB xb (rfv rm wv lv A), rZ wv Q Q, rO (vk wrt) 107 w.heap.size lv D, rS sa (gr rm lb ch mb W E A), rB bw [Value.string kb, .string ke, .string kv, .bool kg], rB bv [Value.int .u64 (g0 : Int), .int .u64 (g1 : Int), .int .u64 (g2 : Int), .int .u64 (g3 : Int)], rB bt [Value.int .u64 (b0 : Int), .int .u64 (b1 : Int), .int .u64 (b2 : Int), .int .u64 (b3 : Int), .int .i64 d, .slice ta m tc], rW (.slice ta m tc) MM, rB bd [Value.int .u8 (K : Int), .int .u64 (l0 : Int), .int .u64 (l1 : Int), .int .u64 (l2 : Int), .int .u64 (l3 : Int), .int .i64 dd, .bool mo, .slice pa pm pc, .bool ow, .string pb, .string pe, .string pv, .bool pg, .bool po, .int .u8 (pk : Int), .int .u64 (u0 : Int), .int .u64 (u1 : Int), .int .u64 (u2 : Int), .int .u64 (u3 : Int), .bool vo]]) := Sz.out.upd 0 rfl U8 A8
          clear A8 U8 Sz
          have k0 := (S35.out.blk 8 rfl).cell 0 (.string kb) rfl
          have k1 := (S35.out.blk 8 rfl).cell 1 (.string ke) rfl
          go_wp2_with fail
          clear k0 k1
          refine (R4.out _ (S35.out.blk 4 rfl) (S35.out.or 6 rfl)).mono ?_; rintro e v36 ⟨rfl, hb⟩
          have S36 : Hid (Sep w v36 [rB q4 [Value.int .u64 (c0 : Int), .int .u64 (c1 : Int), .int .u64 (c2 : Int), .int .u64 (c3 : Int), .int .i64 cd], rB q3 [Value.string zb, .string zk, .string zv, .bool zg], rB q2 [Value.int .u64 (x0 : Int), .int .u64 (x1 : Int), .int .u64 (x2 : Int), .int .u64 (x3 : Int), .int .i64 xd], rB q1 [Value.int .u64 (x0 : Int), .int .u64 (x1 : Int), .int .u64 (x2 : Int), .int .u64 (x3 : Int), .int .i64 xd], rB xb (rfv rm wv lv A), rZ wv Q Q, rO (vk wrt) 107 w.heap.size lv D, rS sa (gr rm lb ch mb W E A), rB bw [Value.string kb, .string ke, .string kv, .bool kg], rB bv [Value.int .u64 (g0 : Int), .int .u64 (g1 : Int), .int .u64 (g2 : Int), .int .u64 (g3 : Int)], rB bt [Value.int .u64 (b0 : Int), .int .u64 (b1 : Int), .int .u64 (b2 : Int), .int .u64 (b3 : Int), .int .i64 d, .slice ta m tc], rW (.slice ta m tc) MM, rB bd [Value.int .u8 (K : Int), .int .u64 (l0 : Int), .int .u64 (l1 : Int), .int .u64 (l2 : Int), .int .u64 (l3 : Int), .int .i64 dd, .bool mo, .slice pa pm pc, .bool ow, .string pb, .string pe, .string pv, .bool pg, .bool po, .int .u8 (pk : Int), .int .u64 (u0 : Int), .int .u64 (u1 : Int), .int .u64 (u2 : Int), .int .u64 (u3 : Int), .bool vo]]) := S35.out.below hb
          clear hb S35
          go_wp2_with (first | refine blk_alloc rfl 71 [Value.string ⟨#[]⟩, .string ⟨#[]⟩, .string ⟨#[]⟩, .bool false] rfl info_rw4 ?_)
          intro m37 A1 B1 Z1
          go_wp2_with (first | refine blk_alloc rfl 61 [Value.int .u64 0, .int .u64 0, .int .u64 0, .int .u64 0, .int .i64 0] rfl info_rs5 ?_)
          intro n37 A2 B2 Z2
          obtain ⟨q5, HB1⟩ : ∃ b, Hid (v36.heap.size = b) := ⟨_, rfl⟩
          obtain ⟨q6, HB2⟩ : ∃ b, Hid (v36.heap.size + 1 = b) := ⟨_, rfl⟩
          have Sq : Hid (Sep w m37 [rB q5 [Value.string ⟨#[]⟩, .string ⟨#[]⟩, .string ⟨#[]⟩, .bool false], rB q4 [Value.int .u64 (c0 : Int), .int .u64 (c1 : Int), .int .u64 (c2 : Int), .int .u64 (c3 : Int), .int .i64 cd], rB q3 [Value.string zb, .string zk, .string zv, .bool zg], rB q2 [Value.int .u64 (x0 : Int), .int .u64 (x1 : Int), .int .u64 (x2 : Int), .int .u64 (x3 : Int), .int .i64 xd], rB q1 [Value.int .u64 (x0 : Int), .int .u64 (x1 : Int), .int .u64 (x2 : Int), .int .u64 (x3 : Int), .int .i64 xd], rB xb (rfv rm wv lv A), rZ wv Q Q, rO (vk wrt) 107 w.heap.size lv D, rS sa (gr rm lb ch mb W E A), rB bw [Value.string kb, .string ke, .string kv, .bool kg], rB bv [Value.int .u64 (g0 : Int), .int .u64 (g1 : Int), .int .u64 (g2 : Int), .int .u64 (g3 : Int)], rB bt [Value.int .u64 (b0 : Int), .int .u64 (b1 : Int), .int .u64 (b2 : Int), .int .u64 (b3 : Int), .int .i64 d, .slice ta m tc], rW (.slice ta m tc) MM, rB bd [Value.int .u8 (K : Int), .int .u64 (l0 : Int), .int .u64 (l1 : Int), .int .u64 (l2 : Int), .int .u64 (l3 : Int), .int .i64 dd, .bool mo, .slice pa pm pc, .bool ow, .string pb, .string pe, .string pv, .bool pg, .bool po, .int .u8 (pk : Int), .int .u64 (u0 : Int), .int .u64 (u1 : Int), .int .u64 (u2 : Int), .int .u64 (u3 : Int), .bool vo]]) := by
            show Sep _ _ _
            rw [← HB1.out]
            exact S36.out.box B1 Z1 A1
          have Sy : Hid (Sep w n37 [rB q6 [Value.int .u64 0, .int .u64 0, .int .u64 0, .int .u64 0, .int .i64 0], rB q5 [Value.string ⟨#[]⟩, .string ⟨#[]⟩, .string ⟨#[]⟩, .bool false], rB q4 [Value.int .u64 (c0 : Int), .int .u64 (c1 : Int), .int .u64 (c2 : Int), .int .u64 (c3 : Int), .int .i64 cd], rB q3 [Value.string zb, .string zk, .string zv, .bool zg], rB q2 [Value.int .u64 (x0 : Int), .int .u64 (x1 : Int), .int .u64 (x2 : Int), .int .u64 (x3 : Int), .int .i64 xd], rB q1 [Value.int .u64 (x0 : Int), .int .u64 (x1 : Int), .int .u64 (x2 : Int), .int .u64 (x3 : Int), .int .i64 xd], rB xb (rfv rm wv lv A), rZ wv Q Q, rO (vk wrt) 107 w.heap.size lv D, rS sa (gr rm lb ch mb W E A), rB bw [Value.string kb, .string ke, .string kv, .bool kg], rB bv [Value.int .u64 (g0 : Int), .int .u64 (g1 : Int), .int .u64 (g2 : Int), .int .u64 (g3 : Int)], rB bt [Value.int .u64 (b0 : Int), .int .u64 (b1 : Int), .int .u64 (b2 : Int), .int .u64 (b3 : Int), .int .i64 d, .slice ta m tc], rW (.slice ta m tc) MM, rB bd [Value.int .u8 (K : Int), .int .u64 (l0 : Int), .int .u64 (l1 : Int), .int .u64 (l2 : Int), .int .u64 (l3 : Int), .int .i64 dd, .bool mo, .slice pa pm pc, .bool ow, .string pb, .string pe, .string pv, .bool pg, .bool po, .int .u8 (pk : Int), .int .u64 (u0 : Int), .int .u64 (u1 : Int), .int .u64 (u2 : Int), .int .u64 (u3 : Int), .bool vo]]) := by
            show Sep _ _ _
            rw [← HB2.out, ← Z1]
            exact Sq.out.box (by rw [Z1]; exact B2) (by rw [Z1]; exact Z2) (by rw [Z1]; exact A2)
          rw [HB2.out, HB1.out]
          clear A1 B1 Z1 A2 B2 Z2 HB1 HB2 Sq S36
          go_wp2_with (first | refine blk_store rfl 71 _ _ rfl q5 rfl [Value.string zb, .string zk, .string zv, .bool zg] rfl _ (Sy.out.blk 1 rfl) rfl size_rw4 rfl ?_)
          intro o37 A8 U8
          have Sz : Hid (Sep w o37 [rB q6 [Value.int .u64 0, .int .u64 0, .int .u64 0, .int .u64 0, .int .i64 0], rB q5 [Value.string zb, .string zk, .string zv, .bool zg], rB q4 [Value.int .u64 (c0 : Int), .int .u64 (c1 : Int), .int .u64 (c2 : Int), .int .u64 (c3 : Int), .int .i64 cd], rB q3 [Value.string zb, .string zk, .string zv, .bool zg], rB q2 [Value.int .u64 (x0 : Int), .int .u64 (x1 : Int), .int .u64 (x2 : Int), .int .u64 (x3 : Int), .int .i64 xd], rB q1 [Value.int .u64 (x0 : Int), .int .u64 (x1 : Int), .int .u64 (x2 : Int), .int .u64 (x3 : Int), .int .i64 xd], rB xb (rfv rm wv lv A), rZ wv Q Q, rO (vk wrt) 107 w.heap.size lv D, rS sa (gr rm lb ch mb W E A), rB bw [Value.string kb, .string ke, .string kv, .bool kg], rB bv [Value.int .u64 (g0 : Int), .int .u64 (g1 : Int), .int .u64 (g2 : Int), .int .u64 (g3 : Int)], rB bt [Value.int .u64 (b0 : Int), .int .u64 (b1 : Int), .int .u64 (b2 : Int), .int .u64 (b3 : Int), .int .i64 d, .slice ta m tc], rW (.slice ta m tc) MM, rB bd [Value.int .u8 (K : Int), .int .u64 (l0 : Int), .int .u64 (l1 : Int), .int .u64 (l2 : Int), .int .u64 (l3 : Int), .int .i64 dd, .bool mo, .slice pa pm pc, .bool ow, .string pb, .string pe, .string pv, .bool pg, .bool po, .int .u8 (pk : Int), .int .u64 (u0 : Int), .int .u64 (u1 : Int), .int .u64 (u2 : Int), .int .u64 (u3 : Int), .bool vo]]) := Sy.out.upd 1 rfl U8 A8
          clear A8 U8 Sy
          go_wp2_with (first | refine blk_store rfl 61 _ _ rfl q6 rfl [Value.int .u64 (c0 : Int), .int .u64 (c1 : Int), .int .u64 (c2 : Int), .int .u64 (c3 : Int), .int .i64 cd] rfl _ (Sz.out.blk 0 rfl) rfl Try.size_rs rfl ?_)
          intro e37 A8 U8
          have S37 : Hid (Sep w e37 [rB q6 [Value.int .u64 (c0 : Int), .int .u64 (c1 : Int), .int .u64 (c2 : Int), .int .u64 (c3 : Int), .int .i64 cd], rB q5 [Value.string zb, .string zk, .string zv, .bool zg], rB q4 [Value.int .u64 (c0 : Int), .int .u64 (c1 : Int), .int .u64 (c2 : Int), .int .u64 (c3 : Int), .int .i64 cd], rB q3 [Value.string zb, .string zk, .string zv, .bool zg], rB q2 [Value.int .u64 (x0 : Int), .int .u64 (x1 : Int), .int .u64 (x2 : Int), .int .u64 (x3 : Int), .int .i64 xd], rB q1 [Value.int .u64 (x0 : Int), .int .u64 (x1 : Int), .int .u64 (x2 : Int), .int .u64 (x3 : Int), .int .i64 xd], rB xb (rfv rm wv lv A), rZ wv Q Q, rO (vk wrt) 107 w.heap.size lv D, rS sa (gr rm lb ch mb W E A), rB bw [Value.string kb, .string ke, .string kv, .bool kg], rB bv [Value.int .u64 (g0 : Int), .int .u64 (g1 : Int), .int .u64 (g2 : Int), .int .u64 (g3 : Int)], rB bt [Value.int .u64 (b0 : Int), .int .u64 (b1 : Int), .int .u64 (b2 : Int), .int .u64 (b3 : Int), .int .i64 d, .slice ta m tc], rW (.slice ta m tc) MM, rB bd [Value.int .u8 (K : Int), .int .u64 (l0 : Int), .int .u64 (l1 : Int), .int .u64 (l2 : Int), .int .u64 (l3 : Int), .int .i64 dd, .bool mo, .slice pa pm pc, .bool ow, .string pb, .string pe, .string pv, .bool pg, .bool po, .int .u8 (pk : Int), .int .u64 (u0 : Int), .int .u64 (u1 : Int), .int .u64 (u2 : Int), .int .u64 (u3 : Int), .bool vo]]) := Sz.out.upd 0 rfl U8 A8
          clear A8 U8 Sz
          clear R1 R2 R3 R4
          go_wp2_with fail
          as_aux_lemma =>
            have KQ1 : Hid (∀ u, Below e37.heap.size e37 u → u.rangeAt q1 0 [Value.int .u64 (x0 : Int), .int .u64 (x1 : Int), .int .u64 (x2 : Int), .int .u64 (x3 : Int), .int .i64 xd]) := fun u hu => ((S37.out.below hu).blk 5 rfl).1
            have KQ2 : Hid (∀ u, Below e37.heap.size e37 u → u.rangeAt q2 0 [Value.int .u64 (x0 : Int), .int .u64 (x1 : Int), .int .u64 (x2 : Int), .int .u64 (x3 : Int), .int .i64 xd]) := fun u hu => ((S37.out.below hu).blk 4 rfl).1
            have KQ3 : Hid (∀ u, Below e37.heap.size e37 u → u.rangeAt q3 0 [Value.string zb, .string zk, .string zv, .bool zg]) := fun u hu => ((S37.out.below hu).blk 3 rfl).1
            have KQ4 : Hid (∀ u, Below e37.heap.size e37 u → u.rangeAt q4 0 [Value.int .u64 (c0 : Int), .int .u64 (c1 : Int), .int .u64 (c2 : Int), .int .u64 (c3 : Int), .int .i64 cd]) := fun u hu => ((S37.out.below hu).blk 2 rfl).1
            have KQ5 : Hid (∀ u, Below e37.heap.size e37 u → u.rangeAt q5 0 [Value.string zb, .string zk, .string zv, .bool zg]) := fun u hu => ((S37.out.below hu).blk 1 rfl).1
            have KQ6 : Hid (∀ u, Below e37.heap.size e37 u → u.rangeAt q6 0 [Value.int .u64 (c0 : Int), .int .u64 (c1 : Int), .int .u64 (c2 : Int), .int .u64 (c3 : Int), .int .i64 cd]) := fun u hu => ((S37.out.below hu).blk 0 rfl).1
            have XRx : Hid (∀ u, Calls Try.prog 20 [.agg [Value.int .u64 (x0 : Int), .int .u64 (x1 : Int), .int .u64 (x2 : Int), .int .u64 (x3 : Int), .int .i64 xd].toArray].toArray u fun e u' => e = .returned (.agg [Value.int .u64 (x0 : Int), .int .u64 (x1 : Int), .int .u64 (x2 : Int), .int .u64 (x3 : Int), .int .i64 xd].toArray) ∧ Below u.heap.size u u') := fun u => refstamp_any [x0, x1, x2, x3] xd u rfl
            have XRc : Hid (∀ u, Calls Try.prog 20 [.agg [Value.int .u64 (c0 : Int), .int .u64 (c1 : Int), .int .u64 (c2 : Int), .int .u64 (c3 : Int), .int .i64 cd].toArray].toArray u fun e u' => e = .returned (.agg [Value.int .u64 (c0 : Int), .int .u64 (c1 : Int), .int .u64 (c2 : Int), .int .u64 (c3 : Int), .int .i64 cd].toArray) ∧ Below u.heap.size u u') := fun u => refstamp_any [c0, c1, c2, c3] cd u rfl
            have XRW : Hid (∀ u v, IsWs u v [(zb, zk, zv, zg)] → Calls Try.prog 21 [v].toArray u fun e u' => ∃ v, e = .returned v ∧ Below u.heap.size u u' ∧ (Spc.isw (zb, zk, zv, zg)).S v ∧ (Spc.isw (zb, zk, zv, zg)).T u' v) := fun u v hI => by
              refine (refwrites_any v [(zb, zk, zv, zg)] u hI (by simp)).mono ?_
              rintro e u' ⟨v9, rfl, ho, hb⟩
              have hi := OW.is ho
              obtain ⟨g, o, c9, hv, _, _⟩ := IsR.at (isR_of hi) 0 (by simp)
              exact ⟨v9, rfl, hb, ⟨g, o, c9, hv⟩, hi⟩
            have hix9 : ∀ b off cap w, (Instr.indexAt 63 (.slice (some ⟨b, off, none⟩) 1 cap) (.int .i64 0)).run Try.prog w = .ok (.pointer (some ⟨b, off, none⟩)) w := fun b off cap w => index_rw8 b off 1 cap 0 (by decide) w
            have hra : (ra == ra) = true := beq_self_eq_true ra
            have hil : (il == il) = true := beq_self_eq_true il
            refine region_rel [Spc.eq (.bool true), Spc.eq (.bool false), Spc.eq (.bool false), Spc.eq (.string yv), Spc.eq (.string yv), Spc.eq (.bool false), Spc.eq (.bool false), Spc.eq (.bool false), Spc.eq (.agg [Value.int .u64 (x0 : Int), .int .u64 (x1 : Int), .int .u64 (x2 : Int), .int .u64 (x3 : Int), .int .i64 xd].toArray), Spc.eq (.agg [Value.int .u64 (x0 : Int), .int .u64 (x1 : Int), .int .u64 (x2 : Int), .int .u64 (x3 : Int), .int .i64 xd].toArray), Spc.eq (.agg [Value.int .u64 (x0 : Int), .int .u64 (x1 : Int), .int .u64 (x2 : Int), .int .u64 (x3 : Int), .int .i64 xd].toArray), Spc.eq (.bool false), Spc.eq (.bool false), Spc.eq (.bool false), Spc.eq (.bool ra), Spc.eq (.bool ra), Spc.eq (.bool false), Spc.eq (.bool false), Spc.eq (.bool false), Spc.eq (.agg [Value.string zb, .string zk, .string zv, .bool zg].toArray), Spc.isw (zb, zk, zv, zg), Spc.isw (zb, zk, zv, zg), Spc.cells [Value.string zb, .string zk, .string zv, .bool zg], Spc.eq (.agg [Value.string zb, .string zk, .string zv, .bool zg].toArray), Spc.eq (.agg [Value.string zb, .string zk, .string zv, .bool zg].toArray), Spc.eq (.bool false), Spc.eq (.bool false), Spc.eq (.bool false), Spc.eq (.agg [Value.int .u64 (c0 : Int), .int .u64 (c1 : Int), .int .u64 (c2 : Int), .int .u64 (c3 : Int), .int .i64 cd].toArray), Spc.eq (.agg [Value.int .u64 (c0 : Int), .int .u64 (c1 : Int), .int .u64 (c2 : Int), .int .u64 (c3 : Int), .int .i64 cd].toArray), Spc.eq (.agg [Value.int .u64 (c0 : Int), .int .u64 (c1 : Int), .int .u64 (c2 : Int), .int .u64 (c3 : Int), .int .i64 cd].toArray), Spc.eq (.bool false), Spc.eq (.bool false), Spc.eq (.bool false), Spc.eq (.bool il), Spc.eq (.bool il), Spc.eq (.bool false), Spc.eq (.bool false)] Try.mixed (by kernel_rfl) ?_
            refine r_value rfl (fun u hu hn => by go_simp) (fun K hK => ?_)
            go_simp
            refine hK _ ?_
            clear hK K
            refine r_value rfl (fun u hu hn => by go_simp) (fun K hK => ?_)
            go_simp
            refine hK _ ?_
            clear hK K
            refine r_value rfl (fun u hu hn => by go_simp) (fun K hK => ?_)
            go_simp
            refine hK _ ?_
            clear hK K
            refine rg_value (by rfl) (fun u hu hn => by go_simp) (fun K hK => ?_)
            go_simp
            refine hK _ ?_
            clear hK K
            refine rg_value (by rfl) (fun u hu hn => by go_simp) (fun K hK => ?_)
            go_simp
            refine hK _ ?_
            clear hK K
            refine rg_value (by rfl) (fun u hu hn => by go_simp) (fun K hK => ?_)
            go_simp
            refine hK _ ?_
            clear hK K
            refine r_value rfl (fun u hu hn => by go_simp) (fun K hK => ?_)
            go_simp
            refine hK _ ?_
            clear hK K
            refine r_value rfl (fun u hu hn => by go_simp) (fun K hK => ?_)
            go_simp
            refine hK _ ?_
            clear hK K
            refine rg_blk_load (by rfl) 35 _ rfl q1 0 rfl (by intro u hu hn; exact KQ1.out u hu) _ Try.underlying35 rfl Try.size_s (fun K hK => ?_)
            go_simp
            refine hK _ ?_
            clear hK K
            refine rg_callv (by rfl) 20 Try.f20 Try.func20 rfl rfl _ _ rfl _ rfl (by intro u hu hn; exact XRx.out u) (fun K hK => ?_)
            go_simp
            refine hK _ ?_
            clear hK K
            refine rg_blk_load (by rfl) 61 _ rfl q2 0 rfl (by intro u hu hn; exact KQ2.out u hu) _ Try.underlying61 rfl Try.size_rs (fun K hK => ?_)
            go_simp
            refine hK _ ?_
            clear hK K
            refine rg_value (by rfl) (fun u hu hn => run_eql u .neq 61 61 _ _ (SV [x0, x1, x2, x3] xd) (SV [x0, x1, x2, x3] xd) _ rfl rfl rfl (guard_r9 _ _ _ _ _ _ u) (neq_r9 _ _ rfl u)) (fun K hK => ?_)
            go_simp
            refine hK _ ?_
            clear hK K
            refine r_value rfl (fun u hu hn => by go_simp) (fun K hK => ?_)
            go_simp
            refine hK _ ?_
            clear hK K
            refine r_value rfl (fun u hu hn => by go_simp) (fun K hK => ?_)
            go_simp
            refine hK _ ?_
            clear hK K
            refine rg_value (by rfl) (fun u hu hn => by go_simp) (fun K hK => ?_)
            go_simp
            refine hK _ ?_
            clear hK K
            refine rg_value (by rfl) (fun u hu hn => by go_simp) (fun K hK => ?_)
            go_simp
            refine hK _ ?_
            clear hK K
            refine rg_value (by rfl) (fun u hu hn => by have hs := hra; go_simp) (fun K hK => ?_)
            go_simp
            refine hK _ ?_
            clear hK K
            refine r_value rfl (fun u hu hn => by go_simp) (fun K hK => ?_)
            go_simp
            refine hK _ ?_
            clear hK K
            refine r_value rfl (fun u hu hn => by go_simp) (fun K hK => ?_)
            go_simp
            refine hK _ ?_
            clear hK K
            refine rg_blk_load (by rfl) 42 _ rfl q3 0 rfl (by intro u hu hn; exact KQ3.out u hu) _ Try.underlying42 rfl It.Try.size_w (fun K hK => ?_)
            go_simp
            refine hK _ ?_
            clear hK K
            refine rg_row1 (by rfl) 42 (fun u hu => by go_simp; rfl) (fun v hv K hK => ?_)
            obtain ⟨sb, so, sc, rfl⟩ := hv
            go_simp
            refine hK _ ?_
            clear hK K
            refine rg_call (by rfl) 21 Try.f21 Try.func21 rfl rfl _ _ rfl _ rfl (by intro u hu hn; exact XRW.out u _ (hn.get 20 0 rfl rfl _ rfl)) (fun v hv K hK => ?_)
            obtain ⟨sb, so, sc, rfl⟩ := hv
            go_simp
            refine hK _ ?_
            clear hK K
            refine rg_fact (by rfl) (.pointer (some ⟨sb, so, none⟩)) ⟨_, _, rfl⟩ (fun u hu hn => ⟨by have h9 := hix9 sb so sc u; go_simp, ⟨sb, so, rfl, isw_at (hn.get 21 0 rfl rfl _ rfl)⟩⟩) (fun v hv K hK => ?_)
            obtain ⟨tb, to_, rfl⟩ := hv
            go_simp
            refine hK _ ?_
            clear hK K
            refine rg_blk_load (by rfl) 71 _ rfl tb to_ rfl (by intro u hu hn; exact cells_get (hn.get 22 0 rfl rfl _ rfl)) _ Try.underlying71 rfl size_rw4 (fun K hK => ?_)
            go_simp
            refine hK _ ?_
            clear hK K
            refine rg_blk_load (by rfl) 71 _ rfl q5 0 rfl (by intro u hu hn; exact KQ5.out u hu) _ Try.underlying71 rfl size_rw4 (fun K hK => ?_)
            go_simp
            refine hK _ ?_
            clear hK K
            refine rg_value (by rfl) (fun u hu hn => run_eql u .neq 71 71 _ _ (WV (zb, zk, zv, zg)) (WV (zb, zk, zv, zg)) _ rfl rfl rfl (guard_rw _ _ _ _ _ _) (by rw [neq_rw]; simp)) (fun K hK => ?_)
            go_simp
            refine hK _ ?_
            clear hK K
            refine r_value rfl (fun u hu hn => by go_simp) (fun K hK => ?_)
            go_simp
            refine hK _ ?_
            clear hK K
            refine r_value rfl (fun u hu hn => by go_simp) (fun K hK => ?_)
            go_simp
            refine hK _ ?_
            clear hK K
            refine rg_blk_load (by rfl) 35 _ rfl q4 0 rfl (by intro u hu hn; exact KQ4.out u hu) _ Try.underlying35 rfl Try.size_s (fun K hK => ?_)
            go_simp
            refine hK _ ?_
            clear hK K
            refine rg_callv (by rfl) 20 Try.f20 Try.func20 rfl rfl _ _ rfl _ rfl (by intro u hu hn; exact XRc.out u) (fun K hK => ?_)
            go_simp
            refine hK _ ?_
            clear hK K
            refine rg_blk_load (by rfl) 61 _ rfl q6 0 rfl (by intro u hu hn; exact KQ6.out u hu) _ Try.underlying61 rfl Try.size_rs (fun K hK => ?_)
            go_simp
            refine hK _ ?_
            clear hK K
            refine rg_value (by rfl) (fun u hu hn => run_eql u .neq 61 61 _ _ (SV [c0, c1, c2, c3] cd) (SV [c0, c1, c2, c3] cd) _ rfl rfl rfl (guard_r9 _ _ _ _ _ _ u) (neq_r9 _ _ rfl u)) (fun K hK => ?_)
            go_simp
            refine hK _ ?_
            clear hK K
            refine r_value rfl (fun u hu hn => by go_simp) (fun K hK => ?_)
            go_simp
            refine hK _ ?_
            clear hK K
            refine r_value rfl (fun u hu hn => by go_simp) (fun K hK => ?_)
            go_simp
            refine hK _ ?_
            clear hK K
            refine rg_value (by rfl) (fun u hu hn => by go_simp) (fun K hK => ?_)
            go_simp
            refine hK _ ?_
            clear hK K
            refine rg_value (by rfl) (fun u hu hn => by go_simp) (fun K hK => ?_)
            go_simp
            refine hK _ ?_
            clear hK K
            refine rg_value (by rfl) (fun u hu hn => by have hs := hil; go_simp) (fun K hK => ?_)
            go_simp
            refine hK _ ?_
            clear hK K
            refine r_value rfl (fun u hu hn => by go_simp) (fun K hK => ?_)
            go_simp
            refine hK _ ?_
            clear hK K
            refine r_nil ?_
            intro u hu hF
            have S50 := Lib.hid (S37.out.below hu)
            clear hF hu KQ1 KQ2 KQ3 KQ4 KQ5 KQ6 XRx XRc XRW hix9 hra hil
            as_aux_lemma =>
              obtain ⟨aw, cw, ew, _⟩ := (zw S50.out 7 rfl).row.is
              obtain ⟨al, cl, el, _⟩ := (S50.out.or 8 rfl).is.is
              have HWN := Lib.hid HP.out.wlen
              have HLE := Lib.hid HP.out.wl
              obtain ⟨nQ, HNQ⟩ : ∃ m, Hid (Q.length = m) := ⟨_, rfl⟩
              obtain ⟨nD, HND⟩ : ∃ m, Hid (D.length = m) := ⟨_, rfl⟩
              rw [HNQ.out] at ew HWN HLE
              rw [HND.out] at el HTOT
              subst ew
              subst el
              obtain ⟨A0, A1, A2, A3, rfl⟩ := V.four HP.out.a4
              have XWt : Hid (∀ x, Below u.heap.size u x → Calls Try.prog 26 [.pointer (some ⟨sa, 0, none⟩)].toArray x fun e u' => e = .returned (.int .i64 (nQ : Int)) ∧ Below u.heap.size u u') := fun x hu => by
                have h9 := waiting_ga (shard_sh (S50.out.below hu) 9 rfl)
                rw [HWN.out] at h9
                have h9 := Calls.mono (R' := fun e w' => e = .returned (.int .i64 (nQ : Int)) ∧ Below x.heap.size x w') h9 (fun e w' h8 => ⟨h8.1, by rw [h8.2]; exact Below.refl _ _⟩)
                exact Calls.more hu h9
              have XRm : Hid (∀ x, Below u.heap.size u x → Calls Try.prog 27 [.pointer (some ⟨sa, 0, none⟩)].toArray x fun e u' => e = .returned (.int .i64 ((rm : Int) - (nQ : Int))) ∧ Below u.heap.size u u') := fun x hu => by
                have h9 := room_any sa (gr rm lb ch mb W E [A0, A1, A2, A3]) x (shard_sh (S50.out.below hu) 9 rfl) (shard_lt (S50.out.below hu) 9 rfl) h16 (by show W.length ≤ 16; rw [HWN.out]; have := HLE.out; omega)
                dsimp only at h9
                rw [HWN.out] at h9
                exact Calls.more hu h9
              have XAp : Hid (∀ x, Below u.heap.size u x → Calls Try.prog 28 [.pointer (some ⟨sa, 0, none⟩)].toArray x fun e u' => e = .returned (.agg [Value.int .u64 (A0 : Int), .int .u64 (A1 : Int), .int .u64 (A2 : Int), .int .u64 (A3 : Int)].toArray) ∧ Below u.heap.size u u') := fun x hu => by
                have h9 := applied_ga (shard_sh (S50.out.below hu) 9 rfl) (shard_lt (S50.out.below hu) 9 rfl)
                exact Calls.more hu h9
              have XVs : Hid (∀ x, Below u.heap.size u x → Calls Try.prog 29 [.pointer (some ⟨sa, 0, none⟩)].toArray x fun e u' => e = .returned (.int .i64 (nD : Int)) ∧ Below u.heap.size u u') := fun x hu => by
                have h9 := versions_ga (shard_sh (S50.out.below hu) 9 rfl) (shard_lt (S50.out.below hu) 9 rfl) (by rw [HTOT.out]; have h7 := HP.out.len; have h8 := HND.out; omega)
                rw [HTOT.out] at h9
                exact Calls.more hu h9
              have HBK : Hid (∀ x, Below u.heap.size u x → Blk x xb (rfv rm (.slice aw nQ cw) (.slice al nD cl) [A0, A1, A2, A3])) := fun x hu => (S50.out.below hu).blk 6 rfl
              have HC0 : Hid (∀ x, Below u.heap.size u x → x.cell? ⟨xb, 0, none⟩ = some (.int .i64 (rm : Int))) := fun x hu => (HBK.out x hu).cell 0 _ rfl
              have HC1 : Hid (∀ x, Below u.heap.size u x → x.cell? ⟨xb, 1, none⟩ = some (.slice aw nQ cw)) := fun x hu => (HBK.out x hu).cell 1 _ rfl
              have HC2 : Hid (∀ x, Below u.heap.size u x → x.cell? ⟨xb, 2, none⟩ = some (.slice al nD cl)) := fun x hu => (HBK.out x hu).cell 2 _ rfl
              have HC3 : Hid (∀ x, Below u.heap.size u x → x.rangeAt xb 3 [Value.int .u64 (A0 : Int), .int .u64 (A1 : Int), .int .u64 (A2 : Int), .int .u64 (A3 : Int)]) := fun x hu => rng3 (HBK.out x hu).1
              clear HBK
              have hle := HLE.out
              have hwr : IntKind.i64.wrap ((rm : Int) - (nQ : Int)) = (rm : Int) - (nQ : Int) := IntWalk.i64_in _ (by omega)
              have hrq : ((rm : Int) - (nQ : Int) == (rm : Int) - (nQ : Int)) = true := beq_self_eq_true _
              go_wp2_with fail
              refine region_w Try.mixed (by kernel_rfl) ?_
              refine w_value rfl (.pointer (some ⟨sa, 0, none⟩)) (fun u hu => by go_simp) (fun K hK => ?_)
              go_simp
              refine hK _ ?_
              clear hK K
              refine w_call rfl 26 Try.f26 Try.func26 rfl rfl _ _ rfl [.pointer (some ⟨sa, 0, none⟩)] rfl (.int .i64 (nQ : Int)) (by exact XWt.out) (fun K hK => ?_)
              go_simp
              refine hK _ ?_
              clear hK K
              refine w_value rfl (.pointer (some ⟨xb, 0, none⟩)) (fun u hu => by go_simp) (fun K hK => ?_)
              go_simp
              refine hK _ ?_
              clear hK K
              refine w_value rfl (.pointer (some ⟨xb, 0, none⟩)) (fun u hu => by go_simp) (fun K hK => ?_)
              go_simp
              refine hK _ ?_
              clear hK K
              refine w_value rfl (.pointer (some ⟨xb, 1, none⟩)) (fun u hu => by go_simp) (fun K hK => ?_)
              go_simp
              refine hK _ ?_
              clear hK K
              refine w_value rfl (.slice aw nQ cw) (fun u hu => by have hs := HC1.out u hu; go_simp) (fun K hK => ?_)
              go_simp
              refine hK _ ?_
              clear hK K
              refine w_value rfl (.int .i64 (nQ : Int)) (fun u hu => by go_simp) (fun K hK => ?_)
              go_simp
              refine hK _ ?_
              clear hK K
              refine w_value rfl (.bool false) (fun u hu => by go_simp) (fun K hK => ?_)
              go_simp
              refine hK _ ?_
              clear hK K
              refine w_value rfl (.bool false) (fun u hu => by go_simp) (fun K hK => ?_)
              go_simp
              refine hK _ ?_
              clear hK K
              refine wg_value (by rfl) (.pointer (some ⟨sa, 0, none⟩)) (fun u hu => by go_simp) (fun K hK => ?_)
              go_simp
              refine hK _ ?_
              clear hK K
              refine wg_call (by rfl) 27 Try.f27 Try.func27 rfl rfl _ _ rfl [.pointer (some ⟨sa, 0, none⟩)] rfl (.int .i64 ((rm : Int) - (nQ : Int))) (by exact XRm.out) (fun K hK => ?_)
              go_simp
              refine hK _ ?_
              clear hK K
              refine wg_value (by rfl) (.pointer (some ⟨xb, 0, none⟩)) (fun u hu => by go_simp) (fun K hK => ?_)
              go_simp
              refine hK _ ?_
              clear hK K
              refine wg_value (by rfl) (.pointer (some ⟨xb, 0, none⟩)) (fun u hu => by go_simp) (fun K hK => ?_)
              go_simp
              refine hK _ ?_
              clear hK K
              refine wg_value (by rfl) (.pointer (some ⟨xb, 0, none⟩)) (fun u hu => by go_simp) (fun K hK => ?_)
              go_simp
              refine hK _ ?_
              clear hK K
              refine wg_value (by rfl) (.int .i64 (rm : Int)) (fun u hu => by have hs := HC0.out u hu; go_simp) (fun K hK => ?_)
              go_simp
              refine hK _ ?_
              clear hK K
              refine wg_value (by rfl) (.pointer (some ⟨xb, 0, none⟩)) (fun u hu => by go_simp) (fun K hK => ?_)
              go_simp
              refine hK _ ?_
              clear hK K
              refine wg_value (by rfl) (.pointer (some ⟨xb, 0, none⟩)) (fun u hu => by go_simp) (fun K hK => ?_)
              go_simp
              refine hK _ ?_
              clear hK K
              refine wg_value (by rfl) (.pointer (some ⟨xb, 1, none⟩)) (fun u hu => by go_simp) (fun K hK => ?_)
              go_simp
              refine hK _ ?_
              clear hK K
              refine wg_value (by rfl) (.slice aw nQ cw) (fun u hu => by have hs := HC1.out u hu; go_simp) (fun K hK => ?_)
              go_simp
              refine hK _ ?_
              clear hK K
              refine wg_value (by rfl) (.int .i64 (nQ : Int)) (fun u hu => by go_simp) (fun K hK => ?_)
              go_simp
              refine hK _ ?_
              clear hK K
              refine wg_value (by rfl) (.int .i64 ((rm : Int) - (nQ : Int))) (fun u hu => by go_simp) (fun K hK => ?_)
              go_simp
              refine hK _ ?_
              clear hK K
              refine wg_value (by rfl) (.bool false) (fun u hu => by go_simp) (fun K hK => ?_)
              go_simp
              refine hK _ ?_
              clear hK K
              refine w_value rfl (.bool false) (fun u hu => by go_simp) (fun K hK => ?_)
              go_simp
              refine hK _ ?_
              clear hK K
              refine w_value rfl (.bool false) (fun u hu => by go_simp) (fun K hK => ?_)
              go_simp
              refine hK _ ?_
              clear hK K
              refine wg_value (by rfl) (.pointer (some ⟨sa, 0, none⟩)) (fun u hu => by go_simp) (fun K hK => ?_)
              go_simp
              refine hK _ ?_
              clear hK K
              refine wg_call (by rfl) 28 Try.f28 Try.func28 rfl rfl _ _ rfl [.pointer (some ⟨sa, 0, none⟩)] rfl (.agg [Value.int .u64 (A0 : Int), .int .u64 (A1 : Int), .int .u64 (A2 : Int), .int .u64 (A3 : Int)].toArray) (by exact XAp.out) (fun K hK => ?_)
              go_simp
              refine hK _ ?_
              clear hK K
              refine wg_value (by rfl) (.pointer (some ⟨xb, 0, none⟩)) (fun u hu => by go_simp) (fun K hK => ?_)
              go_simp
              refine hK _ ?_
              clear hK K
              refine wg_value (by rfl) (.pointer (some ⟨xb, 0, none⟩)) (fun u hu => by go_simp) (fun K hK => ?_)
              go_simp
              refine hK _ ?_
              clear hK K
              refine wg_value (by rfl) (.pointer (some ⟨xb, 3, none⟩)) (fun u hu => by go_simp) (fun K hK => ?_)
              go_simp
              refine hK _ ?_
              clear hK K
              refine wg_mid_load (by rfl) 57 _ rfl xb 3 rfl [Value.int .u64 (A0 : Int), .int .u64 (A1 : Int), .int .u64 (A2 : Int), .int .u64 (A3 : Int)] (by exact HC3.out) _ Try.underlying57 rfl Try.size_r (fun K hK => ?_)
              go_simp
              refine hK _ ?_
              clear hK K
              refine wg_value (by rfl) (.bool false) (fun u _ => run_eql u .neq 57 57 _ _ (AV .u64 [A0, A1, A2, A3]) (AV .u64 [A0, A1, A2, A3]) _ rfl rfl rfl (guard_nrv _ _ _ _ u) (neq_rv _ rfl u)) (fun K hK => ?_)
              go_simp
              refine hK _ ?_
              clear hK K
              refine w_value rfl (.bool false) (fun u hu => by go_simp) (fun K hK => ?_)
              go_simp
              refine hK _ ?_
              clear hK K
              refine w_value rfl (.bool false) (fun u hu => by go_simp) (fun K hK => ?_)
              go_simp
              refine hK _ ?_
              clear hK K
              refine wg_value (by rfl) (.pointer (some ⟨sa, 0, none⟩)) (fun u hu => by go_simp) (fun K hK => ?_)
              go_simp
              refine hK _ ?_
              clear hK K
              refine wg_call (by rfl) 29 Try.f29 Try.func29 rfl rfl _ _ rfl [.pointer (some ⟨sa, 0, none⟩)] rfl (.int .i64 (nD : Int)) (by exact XVs.out) (fun K hK => ?_)
              go_simp
              refine hK _ ?_
              clear hK K
              refine wg_value (by rfl) (.pointer (some ⟨xb, 0, none⟩)) (fun u hu => by go_simp) (fun K hK => ?_)
              go_simp
              refine hK _ ?_
              clear hK K
              refine wg_value (by rfl) (.pointer (some ⟨xb, 0, none⟩)) (fun u hu => by go_simp) (fun K hK => ?_)
              go_simp
              refine hK _ ?_
              clear hK K
              refine wg_value (by rfl) (.pointer (some ⟨xb, 2, none⟩)) (fun u hu => by go_simp) (fun K hK => ?_)
              go_simp
              refine hK _ ?_
              clear hK K
              refine wg_value (by rfl) (.slice al nD cl) (fun u hu => by have hs := HC2.out u hu; go_simp) (fun K hK => ?_)
              go_simp
              refine hK _ ?_
              clear hK K
              refine wg_value (by rfl) (.int .i64 (nD : Int)) (fun u hu => by go_simp) (fun K hK => ?_)
              go_simp
              refine hK _ ?_
              clear hK K
              refine wg_value (by rfl) (.bool false) (fun u hu => by go_simp) (fun K hK => ?_)
              go_simp
              refine hK _ ?_
              clear hK K
              refine w_value rfl (.bool false) (fun u hu => by go_simp) (fun K hK => ?_)
              go_simp
              refine hK _ ?_
              clear hK K
              refine w_nil ?_
              intro x hx
              have S60 : Hid (Sep w x [rB xb (rfv rm (.slice aw nQ cw) (.slice al nD cl) [A0, A1, A2, A3]), rZ (.slice aw nQ cw) Q Q, rO (vk wrt) 107 w.heap.size (.slice al nD cl) D, rS sa (gr rm lb ch mb W E [A0, A1, A2, A3])]) := by
                show Sep _ _ _
                have h8 := (S50.out.below hx).tail.tail.tail.tail.tail.tail
                exact h8.sub (List.sublist_append_left [rB xb (rfv rm (.slice aw nQ cw) (.slice al nD cl) [A0, A1, A2, A3]), rZ (.slice aw nQ cw) Q Q, rO (vk wrt) 107 w.heap.size (.slice al nD cl) D, rS sa (gr rm lb ch mb W E [A0, A1, A2, A3])] [rB bw [Value.string kb, .string ke, .string kv, .bool kg], rB bv [Value.int .u64 (g0 : Int), .int .u64 (g1 : Int), .int .u64 (g2 : Int), .int .u64 (g3 : Int)], rB bt [Value.int .u64 (b0 : Int), .int .u64 (b1 : Int), .int .u64 (b2 : Int), .int .u64 (b3 : Int), .int .i64 d, .slice ta m tc], rW (.slice ta m tc) MM, rB bd [Value.int .u8 (K : Int), .int .u64 (l0 : Int), .int .u64 (l1 : Int), .int .u64 (l2 : Int), .int .u64 (l3 : Int), .int .i64 dd, .bool mo, .slice pa pm pc, .bool ow, .string pb, .string pe, .string pv, .bool pg, .bool po, .int .u8 (pk : Int), .int .u64 (u0 : Int), .int .u64 (u1 : Int), .int .u64 (u2 : Int), .int .u64 (u3 : Int), .bool vo]])
              clear hx XWt XRm XAp XVs HC0 HC1 HC2 HC3 hwr hrq S50
              go_wp2_with fail
              go_roundw
              case rel => exact ⟨j + 1, W, E, _, _, _, Q, D, by omega, by omega, by go_num, HP, S60⟩
              case measure => simp [intOf]; omega
        · have i2 : ¬ (j : Int) < 50 := by omega
          go_wp2_with fail
          go_ret
          exact ⟨rfl, Sr.out.under⟩
      · have i1 : ¬ (j : Int) < (n : Int) := by omega
        go_wp2_with fail
        go_ret
        exact ⟨rfl, Sr.out.under⟩

set_option maxRecDepth 100000 in
theorem lifted (os : Os) (started : os.Started) (H : Type) (enc : TypeId × Value → H) :
    ReturnsInHanded {} Try.checked os 3 .any (Rows.shardPlaysSpec.pre6 enc Try.prog Try.f3 Rows.shardPlaysRow.domain false) (Rows.shardPlaysSpec.post enc Try.prog Try.f3 false true false false) := by
  refine returnsInHanded_of_change_sized (C := Try.checked) own started (by kernel_rfl) Try.func3
    (ChangeSpec.witness6 (enc := enc) (C := Try.checked) false ⟨#[], #[.int .i64 0, .bool false, .slice none 0 0], []⟩ 8 (by kernel_rfl) (by kernel_rfl) (by kernel_rfl) (by kernel_rfl)) ?_
  intro W base args ds gs before hval0 hW hcnd hsz0 _
  have hval : ∀ (j : Nat) t v, Try.f3.params[j]? = some t → args[j]? = some v → Value.okWide Try.prog W .any base t v := hval0
  have hW' := hW
  obtain ⟨p, q, hA0, hV, rfl, hfz, hnd⟩ := hW
  have hA : DataW.TrodAll enc Try.prog W 0 (fun _ => true) true Try.f3.params.toList args.toList ds p := hA0
  have hsz : (DataW.weightsEach Try.prog (Try.f3.params.toList ++ Rows.shardPlaysSpec.plain.varTypes Try.prog) (ds ++ gs)).all (· ≤ reachBytes) = true := hsz0
  rw [Try.params3] at hA hval hsz
  obtain ⟨rfl, rfl⟩ := trodVars_none hV
  have hAk := hA
  have hlt : ∀ x ∈ p, x.block < W.heap.size := fun x hx => by simpa using hW'.lt x (List.mem_append.2 (.inl hx))
  obtain ⟨v0, vs0, d0, ds0, p0, q0, hargs, rfl, rfl, h0, r0⟩ := trodAll_cons hA
  obtain ⟨v1, vs1, d1, ds1, p1, q1, rfl, rfl, rfl, h1, r1⟩ := trodAll_cons r0
  obtain ⟨v2, vs2, d2, ds2, p2, q2, rfl, rfl, rfl, h2, r2⟩ := trodAll_cons r1
  obtain ⟨rfl, rfl, rfl⟩ := trodAll_nil r2
  obtain rfl : args = #[v0, v1, v2] := by cases args; simp_all
  obtain ⟨a0, rfl, rfl, rfl, w0⟩ := open_int Try.underlying3 (hval 0 3 v0 rfl rfl) h0
  obtain ⟨a1, rfl, rfl, rfl⟩ := open_bool Try.underlying4 (hval 1 4 v1 rfl rfl) h1
  obtain ⟨a2, len2, cap2, rfl⟩ := okWide_slice Try.underlying22 (hval 2 22 v2 rfl rfl)
  obtain ⟨QL2, w2, m2⟩ := open_deeds h2 (Sz.arg hsz (j := 2) rfl rfl)
  clear hA0 hval0 hsz0
  refine (walk a0 a1 (.slice a2 len2 cap2) QL2 w0 W w2 m2).mono fun e W' ⟨he, hg⟩ => ?_
  subst he
  exact ⟨_, rfl, _, _, _, [], _, [], hW', (trodAll_cons_mk (shut_bool Try.underlying4 _) trodAll_mk0), trodAll_below laidOut hg _ _ _ _ (by kernel_rfl) hAk hlt, rfl, hg.frame _, fun h => by cases h⟩

theorem over : Rows.shardPlaysRow.holds Try.pinned (OpenSpec.ofChange Rows.shardPlaysSpec) :=
  OpenClaim.holds_of_wide 3 Try.f3 rfl rfl rfl rfl rfl rfl rfl ⟨rfl, rfl, rfl, rfl, rfl⟩ rfl rfl rfl rfl rfl (by kernel_rfl) Try.func3 (by kernel_rfl)
    (of_decide_eq_true (by kernel_rfl)) (by unfold Func.isWrapper; first | (rw [if_pos (by decide +kernel)]; kernel_rfl) | (rw [if_neg (by decide +kernel)]; exact ⟨rfl, rfl⟩))
    (fun os started H enc _ => lifted os started H enc)

/-- the statement -/
theorem proved : Rows.ShardPlaysSaid :=
  over
#print axioms proved

end Go.Proofs.Ytohcdonmdnjgoaa.shardPlays
