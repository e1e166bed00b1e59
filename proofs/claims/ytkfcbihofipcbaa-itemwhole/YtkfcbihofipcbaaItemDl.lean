/- A transaction by its parts: the law's own helper. -/
import Derived.Test.YtkfcbihofipcbaaItemDeal

namespace Go.Proofs.Ytkfcbihofipcbaa.I

def dflt : Wt := (⟨#[98, 48]⟩, ⟨#[97]⟩, ⟨#[118]⟩, false)
/-- the writes of a transaction by its parts -/
def dealW (own : Bool) (L : List Pt) : List Wt := if own = true then (if (wrs 8 true L []).length = 0 then [dflt] else wrs 8 true L []) else wrs 10 false L []
end Go.Proofs.Ytkfcbihofipcbaa.I

namespace Go.Proofs.Ytkfcbihofipcbaa

open Go.RowKit

set_option linter.unusedVariables false

/-- a struct in a block of its own, its row known whole -/
def Spc.row (base : Nat) (t : TypeId) (vs : List Value) : Spc where
  S v := ∃ b, v = .pointer (some ⟨b, 0, none⟩)
  T u v := ∃ b, v = .pointer (some ⟨b, 0, none⟩) ∧ base ≤ b ∧ u.heap[b]? = some (.cells vs.toArray t (0, 0))
  st u u' v hb := fun ⟨b, hv, hB, ha⟩ => ⟨b, hv, hB, by
    have hlt : b < u.heap.size := by
      rcases Nat.lt_or_ge b u.heap.size with h | h
      · exact h
      · rw [Array.getElem?_eq_none h] at ha; cases ha
    rw [hb.block b hlt]; exact ha⟩
  w0 := .pointer (some ⟨0, 0, none⟩)
  hw := ⟨0, rfl⟩
theorem r_newr {P : Program} {ops : Array Oper} {rest : List Oper} {o : Oper} {a : Act} {C : World → Prop} {Lq : Act → List (World → Prop) → Prop} {ts : List Spc} {Fs : List (World → Prop)} (hgd : o.guard = none) (t : TypeId) (ho : o.op = .alloc t) {vs : List Value} {base : Nat} (hz : (P.info? t).map (fun i => (i.zero, i.size)) = some (some (.agg vs.toArray), vs.length)) (hbase : ∀ u, C u → base ≤ u.heap.size)
    (h : ∀ v, (Spc.row base t vs).S v → ∀ K : Act → Prop, (∀ a, RW P ops C Lq rest ts ((fun u => (Spc.row base t vs).T u v) :: Fs) a → K a) → K (a.put o.dst v)) : RW P ops C Lq (o :: rest) (Spc.row base t vs :: ts) Fs a := by
  refine r_any (wanted_none hgd) (fun u hu hn => ?_) h
  unfold execOp
  simp only [ho, Sem.run_bind, Instr.alloc, (zero_of_info hz).1, newVar, newRow, run_newObj_alloc, Sem.run_pure, Result.andThen_ok]
  exact ⟨(Below.refl _ _).alloc (Nat.le_refl _) _, ⟨_, rfl⟩, ⟨_, rfl, hbase u hu, heap_alloc_last u _⟩⟩
theorem r_fact {P : Program} {ops : Array Oper} {rest : List Oper} {o : Oper} {a : Act} {C : World → Prop} {Lq : Act → List (World → Prop) → Prop} {ts : List Spc} {Fs : List (World → Prop)} (hgd : o.guard = none) {s : Spc} (v : Value) (hS : s.S v) (hr : ∀ u, C u → Need o Fs u → (execOp a.eval o).run P u = .ok (.value v) u ∧ s.T u v)
    (h : ∀ v, s.S v → ∀ K : Act → Prop, (∀ a, RW P ops C Lq rest ts ((fun u => s.T u v) :: Fs) a → K a) → K (a.put o.dst v)) : RW P ops C Lq (o :: rest) (s :: ts) Fs a :=
  r_any (wanted_none hgd) (fun u hu hn => by rw [(hr u hu hn).1]; exact ⟨Below.refl _ _, hS, (hr u hu hn).2⟩) h
end Go.Proofs.Ytkfcbihofipcbaa

namespace Go.Proofs.Ytkfcbihofipcbaa.It

open Go.RowKit Go.Proofs.Ytkfcbihofipcbaa.Vc Go.Proofs.Ytkfcbihofipcbaa.Sp

set_option linter.unusedVariables false

set_option linter.unusedSimpArgs false

set_option maxRecDepth 100000

/-- such a value -/
def DV (l : List Nat) (d : Int) (mo : Bool) (v : Value) (own : Bool) : Value := .agg (ks .u64 l ++ [Value.int .i64 d, .bool mo, v, .bool own]).toArray
theorem OW.ne_row {t t' : TypeId} {w : World} {base b : Nat} {v : Value} {L : List I.Wt} {vs : Array Value} (h : OW t w base v L) (hb : w.heap[b]? = some (.cells vs t' (0, 0))) (hne : t ≠ t') : ∀ g o n c, v = .slice (some ⟨g, o, none⟩) n c → g ≠ b := by
  intro g o n c e eq
  subst eq
  obtain ⟨hl, h0 | ⟨g', cap, cur, hv, hB, hh, r⟩⟩ := h.own
  · rw [h0.1] at e; cases e
  · rw [hv] at e
    simp only [Value.slice.injEq, Option.some.injEq, Addr.mk.injEq, and_true] at e
    obtain ⟨⟨rfl, _⟩, _⟩ := e
    rw [hb] at hh
    simp only [Option.some.injEq, Obj.cells.injEq] at hh
    exact hne hh.2.1.symm
theorem IsWs.len {w : World} {s : Option Addr} {m c : Nat} {L : List I.Wt} (h : IsWs w (.slice s m c) L) (hm : L.length = m) : IsWs w (.slice s m c) L := h
theorem IsPs.nilOrSome {w : World} {v : Value} {L : List I.Pt} (h : IsPs w v L) : ∃ sa cap, v = .slice sa L.length cap := by
  obtain ⟨a, cap, hv, _⟩ := h.is
  exact ⟨a, cap, hv⟩
theorem Try.size_mk : (Try.prog.info? 32).map (·.size) = some 6 := by kernel_rfl
theorem tv_inj {a : List Nat} {d : Int} {v v' : Value} (h : TV a d v = TV a d v') : v' = v := by
  unfold TV at h
  simp only [Value.agg.injEq] at h
  have := Array.toList_inj.2 h
  simpa using this.symm
set_option maxHeartbeats 16000000 in
theorem deal_false (l : List Nat) (d : Int) (mo : Bool) (v : Value) (L : List I.Pt) (w : World) (hl : V.Ok l) (hd : (Lit.int .i64 d).wf = true) (hL : IsPs w v L) (hP : ∀ p ∈ L, I.POk p) :
    Calls Try.prog 14 #[DV l d mo v false] w fun e w' => ∃ v', e = .returned (TV (T.mark l d mo).1 (T.mark l d mo).2 v') ∧ IsWs w' v' (I.dealW false L) ∧ Below w.heap.size w w' := by
  have hA : V.Ok (T.mark l d mo).1 := T.mark_ok hl d mo
  have CM := Lib.hid (fun w => mark_any l d mo w hl hd)
  obtain ⟨D, HD⟩ : ∃ z, Hid ((T.mark l d mo).2 = z) := ⟨_, rfl⟩
  obtain ⟨A, HAA⟩ : ∃ z, Hid ((T.mark l d mo).1 = z) := ⟨_, rfl⟩
  rw [HD.out, HAA.out] at CM
  rw [HAA.out] at hA
  rw [HD.out, HAA.out]
  obtain ⟨a0, a1, a2, a3, rfl⟩ := V.four hA.len
  obtain ⟨l0, l1, l2, l3, rfl⟩ := V.four hl.len
  obtain ⟨sa, cap, rfl⟩ := hL.nilOrSome
  obtain ⟨n, HN⟩ : ∃ n, Hid (L.length = n) := ⟨_, rfl⟩
  have HL := Lib.hid hL
  rw [HN.out] at HL
  rw [HN.out]
  have CW : Hid (∀ u, Below w.heap.size w u → Calls Try.prog 34 #[.slice sa n cap, .int .i64 10, .bool false] u fun e w' => ∃ v', e = .returned v' ∧ OW 23 w' u.heap.size v' (I.wrs 10 false L []) ∧ Below u.heap.size u w') := fun u hu => writes_false _ L 10 u (IsPs.below HL.out hu) hP (by omega)
  obtain ⟨R, HR⟩ : ∃ r, Hid (I.wrs 10 false L [] = r) := ⟨_, rfl⟩
  rw [HR.out] at CW
  obtain ⟨FR, HFR⟩ : ∃ r, Hid (I.dealW false L = r) := ⟨_, rfl⟩
  rw [HFR.out]
  clear hA hl hd hL hP
  go_enter Try.func14, Try.ntmps14
  go_wp2_with (first | refine blk_box rfl 35 _ rfl [.int .u64 (l0 : Int), .int .u64 (l1 : Int), .int .u64 (l2 : Int), .int .u64 (l3 : Int), .int .i64 d, .bool mo, .slice sa n cap, .bool false] rfl ?_)
  intro w1 A1 B1 Z1
  go_wp2_with (first | refine blk_alloc rfl 43 (ks .u64 [0, 0, 0, 0] ++ [Value.int .i64 0, .slice none 0 0]) rfl Try.info_itx ?_)
  intro w2 A2 B2 Z2
  have HA2 : Hid (Blk w2 w.heap.size [.int .u64 (l0 : Int), .int .u64 (l1 : Int), .int .u64 (l2 : Int), .int .u64 (l3 : Int), .int .i64 d, .bool mo, .slice sa n cap, .bool false]) := Blk.below A1 B2 (by omega)
  have HB2 : Hid (Blk w2 (w.heap.size + 1) (ks .u64 [0, 0, 0, 0] ++ [Value.int .i64 0, .slice none 0 0])) := A2
  have HW2 : Hid (Below w.heap.size w w2) := B1.trans (B2.mono (by omega))
  have HZ2 : Hid (w.heap.size + 1 < w2.heap.size) := by show _ < _; omega
  have q7 := HA2.out.cell 7 (.bool false) rfl
  clear A1 B1 A2 B2 Z1 Z2
  have hz2 := HZ2.out
  have KM : Hid (∀ u, Below w2.heap.size w2 u → u.rangeAt w.heap.size 0 [.int .u64 (l0 : Int), .int .u64 (l1 : Int), .int .u64 (l2 : Int), .int .u64 (l3 : Int), .int .i64 d, .bool mo]) := fun u hu j v hv => (Blk.below HA2.out hu (Nat.lt_of_succ_lt HZ2.out)).1 j v (by have : j < 6 := (List.getElem?_eq_some_iff.1 hv).1; match j, this with | 0, _ => exact hv | 1, _ => exact hv | 2, _ => exact hv | 3, _ => exact hv | 4, _ => exact hv | 5, _ => exact hv)
  have K6 : Hid (∀ u, Below w2.heap.size w2 u → u.cell? ⟨w.heap.size, 6, none⟩ = some (.slice sa n cap)) := fun u hu => (Blk.below HA2.out hu (Nat.lt_of_succ_lt HZ2.out)).cell 6 _ rfl
  have XM : Hid (∀ u, Calls Try.prog 33 [.agg [.int .u64 (l0 : Int), .int .u64 (l1 : Int), .int .u64 (l2 : Int), .int .u64 (l3 : Int), .int .i64 d, .bool mo].toArray].toArray u fun e u' => e = .returned (.agg [Value.int .u64 (a0 : Int), .int .u64 (a1 : Int), .int .u64 (a2 : Int), .int .u64 (a3 : Int), .int .i64 D].toArray) ∧ Below u.heap.size u u') := fun u => CM.out u
  have XW : Hid (∀ u, Below w2.heap.size w2 u → Calls Try.prog 34 [.slice sa n cap, .int .i64 10, .bool false].toArray u fun e u' => ∃ v, e = .returned v ∧ Below u.heap.size u u' ∧ (Spc.ow 23 w2.heap.size R).S v ∧ (Spc.ow 23 w2.heap.size R).T u' v) := fun u hu => (CW.out u (Below.trans HW2.out (hu.mono HW2.out.size))).mono fun e u' ⟨v', he, ho, hb⟩ => ⟨v', he, hb, by obtain ⟨av, cv, ev, _⟩ := ho.is.is; exact ⟨av, cv, ev⟩, OW.mono ho hu.size⟩
  go_wp2_with fail
  refine region_relt 7 [Spc.eq (.pointer (some ⟨w.heap.size, 0, none⟩)), Spc.eq (.agg [.int .u64 (l0 : Int), .int .u64 (l1 : Int), .int .u64 (l2 : Int), .int .u64 (l3 : Int), .int .i64 d, .bool mo].toArray), Spc.eq (.agg [Value.int .u64 (a0 : Int), .int .u64 (a1 : Int), .int .u64 (a2 : Int), .int .u64 (a3 : Int), .int .i64 D].toArray), Spc.eq (.pointer (some ⟨w.heap.size, 6, none⟩)), Spc.eq (.slice sa n cap), Spc.ow 23 w2.heap.size R, Spc.tx 23 w2.heap.size [a0, a1, a2, a3] D R] Try.mixed (by kernel_rfl) ?_
  refine r_value rfl (fun u hu hn => by go_simp) (fun K hK => ?_)
  go_simp
  refine hK _ ?_
  clear hK K
  refine r_blk_load rfl 32 _ rfl w.heap.size 0 rfl (by intro u hu hn; exact KM.out u hu) _ Try.underlying32 rfl Try.size_mk (fun K hK => ?_)
  go_simp
  refine hK _ ?_
  clear hK K
  refine r_callv rfl 33 Try.f33 Try.func33 rfl rfl _ _ rfl _ rfl (by intro u hu hn; exact XM.out u) (fun K hK => ?_)
  go_simp
  refine hK _ ?_
  clear hK K
  refine r_value rfl (fun u hu hn => by go_simp) (fun K hK => ?_)
  go_simp
  refine hK _ ?_
  clear hK K
  refine r_value rfl (fun u hu hn => by have hc := K6.out u hu; go_simp) (fun K hK => ?_)
  go_simp
  refine hK _ ?_
  clear hK K
  refine r_call rfl 34 Try.f34 Try.func34 rfl rfl _ _ rfl _ rfl (by intro u hu hn; exact XW.out u hu) (fun v hv K hK => ?_)
  obtain ⟨s1, c1, rfl⟩ := hv
  go_simp
  refine hK _ ?_
  clear hK K
  refine r_fact rfl (TV [a0, a1, a2, a3] D (.slice s1 R.length c1)) ⟨_, _, rfl⟩ (fun u hu hn => ⟨by unfold TV ks; go_simp, ⟨_, rfl, hn.get 5 0 rfl rfl _ rfl⟩⟩) (fun v hv K hK => ?_)
  obtain ⟨s2, c2, rfl⟩ := hv
  go_simp
  refine hK _ ?_
  clear hK K
  refine r_nil ?_
  intro u hu hF
  obtain ⟨v', ev, hO⟩ := hF 0 _ rfl
  obtain rfl := tv_inj ev
  have HBu : Hid (Blk u (w.heap.size + 1) (ks .u64 [0, 0, 0, 0] ++ [Value.int .i64 0, .slice none 0 0])) := Blk.below HB2.out hu HZ2.out
  have HWu : Hid (Below w.heap.size w u) := Below.trans HW2.out (hu.mono HW2.out.size)
  have HO := Lib.hid hO
  clear ev hF hu KM K6 XM XW hO q7
  refine blk_store rfl 43 _ _ rfl (w.heap.size + 1) rfl [Value.int .u64 (a0 : Int), .int .u64 (a1 : Int), .int .u64 (a2 : Int), .int .u64 (a3 : Int), .int .i64 D, .slice s2 R.length c2] rfl _ HBu.out rfl Try.size_itx rfl ?_
  intro k A U
  have HA9 : Hid (Blk k (w.heap.size + 1) [Value.int .u64 (a0 : Int), .int .u64 (a1 : Int), .int .u64 (a2 : Int), .int .u64 (a3 : Int), .int .i64 D, .slice s2 R.length c2]) := A
  have HW9 : Hid (Below w.heap.size w k) := Below.trans HWu.out (U.below (by omega))
  have HO9 := Lib.hid (OW.mono (OW.far2 HO.out U (by omega)) (show w.heap.size ≤ w2.heap.size by omega))
  have HF9 : Hid (FR = R) := by show _ = _; rw [← HFR.out, ← HR.out]; rfl
  clear A U
  go_wp2_with fail
  refine bodyPost_ret (v := TV [a0, a1, a2, a3] D (.slice s2 R.length c2)) ?_ rfl ⟨_, rfl, (by rw [HF9.out]; exact OW.is HO9.out), HW9.out⟩
  exact res_blk1 (t := 43) Try.results14 _ (w.heap.size + 1) rfl _ HA9.out _ Try.underlying43 rfl Try.size_itx
set_option maxHeartbeats 16000000 in
theorem deal_true (l : List Nat) (d : Int) (mo : Bool) (v : Value) (L : List I.Pt) (w : World) (hl : V.Ok l) (hd : (Lit.int .i64 d).wf = true) (hL : IsPs w v L) (hP : ∀ p ∈ L, I.POk p) :
    Calls Try.prog 14 #[DV l d mo v true] w fun e w' => ∃ v', e = .returned (TV (T.mark l d true).1 (T.mark l d true).2 v') ∧ IsWs w' v' (I.dealW true L) ∧ Below w.heap.size w w' := by
  have hA : V.Ok (T.mark l d true).1 := T.mark_ok hl d true
  have CM := Lib.hid (fun w => mark_any l d true w hl hd)
  obtain ⟨D, HD⟩ : ∃ z, Hid ((T.mark l d true).2 = z) := ⟨_, rfl⟩
  obtain ⟨A, HAA⟩ : ∃ z, Hid ((T.mark l d true).1 = z) := ⟨_, rfl⟩
  rw [HD.out, HAA.out] at CM
  rw [HAA.out] at hA
  rw [HD.out, HAA.out]
  obtain ⟨a0, a1, a2, a3, rfl⟩ := V.four hA.len
  obtain ⟨l0, l1, l2, l3, rfl⟩ := V.four hl.len
  obtain ⟨sa, cap, rfl⟩ := hL.nilOrSome
  obtain ⟨n, HN⟩ : ∃ n, Hid (L.length = n) := ⟨_, rfl⟩
  have HL := Lib.hid hL
  rw [HN.out] at HL
  rw [HN.out]
  have CW : Hid (∀ u, Below w.heap.size w u → Calls Try.prog 34 #[.slice sa n cap, .int .i64 8, .bool true] u fun e w' => ∃ v', e = .returned v' ∧ OW 23 w' u.heap.size v' (I.wrs 8 true L []) ∧ Below u.heap.size u w') := fun u hu => writes_true _ L 8 u (IsPs.below HL.out hu) hP (by omega)
  obtain ⟨R, HR⟩ : ∃ r, Hid (I.wrs 8 true L [] = r) := ⟨_, rfl⟩
  rw [HR.out] at CW
  obtain ⟨FR, HFR⟩ : ∃ r, Hid (I.dealW true L = r) := ⟨_, rfl⟩
  rw [HFR.out]
  clear hA hl hd hL hP
  go_enter Try.func14, Try.ntmps14
  go_wp2_with (first | refine blk_box rfl 35 _ rfl [.int .u64 (l0 : Int), .int .u64 (l1 : Int), .int .u64 (l2 : Int), .int .u64 (l3 : Int), .int .i64 d, .bool mo, .slice sa n cap, .bool true] rfl ?_)
  intro w1 A1 B1 Z1
  go_wp2_with (first | refine blk_alloc rfl 43 (ks .u64 [0, 0, 0, 0] ++ [Value.int .i64 0, .slice none 0 0]) rfl Try.info_itx ?_)
  intro w2 A2 B2 Z2
  have HA2 : Hid (Blk w2 w.heap.size [.int .u64 (l0 : Int), .int .u64 (l1 : Int), .int .u64 (l2 : Int), .int .u64 (l3 : Int), .int .i64 d, .bool mo, .slice sa n cap, .bool true]) := Blk.below A1 B2 (by omega)
  have HB2 : Hid (Blk w2 (w.heap.size + 1) (ks .u64 [0, 0, 0, 0] ++ [Value.int .i64 0, .slice none 0 0])) := A2
  have HW2 : Hid (Below w.heap.size w w2) := B1.trans (B2.mono (by omega))
  have HZ2 : Hid (w.heap.size + 1 < w2.heap.size) := by show _ < _; omega
  have q7 := HA2.out.cell 7 (.bool true) rfl
  clear A1 B1 A2 B2 Z1 Z2
  have q5 := HA2.out.cell 5 (.bool mo) rfl
  have f5 := HA2.out.free 5 (by simp)
  have U3 : Upd w.heap.size w2 (w2.setCell ⟨w.heap.size, 5, none⟩ (.bool true)) := Upd.setCell _ _ _ _
  have HA3 : Hid (Blk (w2.setCell ⟨w.heap.size, 5, none⟩ (.bool true)) w.heap.size [.int .u64 (l0 : Int), .int .u64 (l1 : Int), .int .u64 (l2 : Int), .int .u64 (l3 : Int), .int .i64 d, .bool true, .slice sa n cap, .bool true]) := Blk.setc HA2.out 5 (by simp) (.bool true)
  have HB3 : Hid (Blk (w2.setCell ⟨w.heap.size, 5, none⟩ (.bool true)) (w.heap.size + 1) (ks .u64 [0, 0, 0, 0] ++ [Value.int .i64 0, .slice none 0 0])) := Blk.upd HB2.out U3 (by omega)
  have HW3 : Hid (Below w.heap.size w (w2.setCell ⟨w.heap.size, 5, none⟩ (.bool true))) := Below.trans HW2.out (U3.below (by omega))
  have HZ3 : Hid (w.heap.size + 1 < (w2.setCell ⟨w.heap.size, 5, none⟩ (.bool true)).heap.size) := by show _ < _; rw [U3.size]; exact HZ2.out
  go_wp2_with fail
  generalize (w2.setCell ⟨w.heap.size, 5, none⟩ (.bool true)) = w3 at *
  clear HA2 HB2 HW2 HZ2 U3 q5 f5 q7
  have HA2 := HA3
  have HB2 := HB3
  have HW2 := HW3
  have HZ2 := HZ3
  clear HA3 HB3 HW3 HZ3
  have hz2 := HZ2.out
  have KM : Hid (∀ u, Below w3.heap.size w3 u → u.rangeAt w.heap.size 0 [.int .u64 (l0 : Int), .int .u64 (l1 : Int), .int .u64 (l2 : Int), .int .u64 (l3 : Int), .int .i64 d, .bool true]) := fun u hu j v hv => (Blk.below HA2.out hu (Nat.lt_of_succ_lt HZ2.out)).1 j v (by have : j < 6 := (List.getElem?_eq_some_iff.1 hv).1; match j, this with | 0, _ => exact hv | 1, _ => exact hv | 2, _ => exact hv | 3, _ => exact hv | 4, _ => exact hv | 5, _ => exact hv)
  have K6 : Hid (∀ u, Below w3.heap.size w3 u → u.cell? ⟨w.heap.size, 6, none⟩ = some (.slice sa n cap)) := fun u hu => (Blk.below HA2.out hu (Nat.lt_of_succ_lt HZ2.out)).cell 6 _ rfl
  have XM : Hid (∀ u, Calls Try.prog 33 [.agg [.int .u64 (l0 : Int), .int .u64 (l1 : Int), .int .u64 (l2 : Int), .int .u64 (l3 : Int), .int .i64 d, .bool true].toArray].toArray u fun e u' => e = .returned (.agg [Value.int .u64 (a0 : Int), .int .u64 (a1 : Int), .int .u64 (a2 : Int), .int .u64 (a3 : Int), .int .i64 D].toArray) ∧ Below u.heap.size u u') := fun u => CM.out u
  have XW : Hid (∀ u, Below w3.heap.size w3 u → Calls Try.prog 34 [.slice sa n cap, .int .i64 8, .bool true].toArray u fun e u' => ∃ v, e = .returned v ∧ Below u.heap.size u u' ∧ (Spc.ow 23 w3.heap.size R).S v ∧ (Spc.ow 23 w3.heap.size R).T u' v) := fun u hu => (CW.out u (Below.trans HW2.out (hu.mono HW2.out.size))).mono fun e u' ⟨v', he, ho, hb⟩ => ⟨v', he, hb, by obtain ⟨av, cv, ev, _⟩ := ho.is.is; exact ⟨av, cv, ev⟩, OW.mono ho hu.size⟩
  go_wp2_with fail
  refine region_relt 8 [Spc.eq (.pointer (some ⟨w.heap.size, 0, none⟩)), Spc.eq (.agg [.int .u64 (l0 : Int), .int .u64 (l1 : Int), .int .u64 (l2 : Int), .int .u64 (l3 : Int), .int .i64 d, .bool true].toArray), Spc.eq (.agg [Value.int .u64 (a0 : Int), .int .u64 (a1 : Int), .int .u64 (a2 : Int), .int .u64 (a3 : Int), .int .i64 D].toArray), Spc.eq (.pointer (some ⟨w.heap.size, 6, none⟩)), Spc.eq (.slice sa n cap), Spc.ow 23 w3.heap.size R, Spc.tx 23 w3.heap.size [a0, a1, a2, a3] D R, Spc.row w3.heap.size 43 (ks .u64 [0, 0, 0, 0] ++ [Value.int .i64 0, .slice none 0 0])] Try.mixed (by kernel_rfl) ?_
  refine r_value rfl (fun u hu hn => by go_simp) (fun K hK => ?_)
  go_simp
  refine hK _ ?_
  clear hK K
  refine r_blk_load rfl 32 _ rfl w.heap.size 0 rfl (by intro u hu hn; exact KM.out u hu) _ Try.underlying32 rfl Try.size_mk (fun K hK => ?_)
  go_simp
  refine hK _ ?_
  clear hK K
  refine r_callv rfl 33 Try.f33 Try.func33 rfl rfl _ _ rfl _ rfl (by intro u hu hn; exact XM.out u) (fun K hK => ?_)
  go_simp
  refine hK _ ?_
  clear hK K
  refine r_value rfl (fun u hu hn => by go_simp) (fun K hK => ?_)
  go_simp
  refine hK _ ?_
  clear hK K
  refine r_value rfl (fun u hu hn => by have hc := K6.out u hu; go_simp) (fun K hK => ?_)
  go_simp
  refine hK _ ?_
  clear hK K
  refine r_call rfl 34 Try.f34 Try.func34 rfl rfl _ _ rfl _ rfl (by intro u hu hn; exact XW.out u hu) (fun v hv K hK => ?_)
  obtain ⟨s1, c1, rfl⟩ := hv
  go_simp
  refine hK _ ?_
  clear hK K
  refine r_fact rfl (TV [a0, a1, a2, a3] D (.slice s1 R.length c1)) ⟨_, _, rfl⟩ (fun u hu hn => ⟨by unfold TV ks; go_simp, ⟨_, rfl, hn.get 5 0 rfl rfl _ rfl⟩⟩) (fun v hv K hK => ?_)
  obtain ⟨s2, c2, rfl⟩ := hv
  go_simp
  refine hK _ ?_
  clear hK K
  refine r_newr rfl 43 rfl Try.info_itx (fun u hu => hu.size) (fun v hv K hK => ?_)
  obtain ⟨b3, rfl⟩ := hv
  go_simp
  refine hK _ ?_
  clear hK K
  refine r_nil ?_
  intro u hu hF
  obtain ⟨b4, eb, hB, hrow⟩ := hF 0 _ rfl
  obtain rfl : b3 = b4 := by injection eb with h; injection h with h; injection h
  obtain ⟨v', ev, hO⟩ := hF 1 _ rfl
  obtain rfl := tv_inj ev
  have hblk := Blk.of_row hrow
  have hlt : b3 < u.heap.size := by
    rcases Nat.lt_or_ge b3 u.heap.size with h | h
    · exact h
    · rw [Array.getElem?_eq_none h] at hrow; cases hrow
  have HBu : Hid (Blk u (w.heap.size + 1) (ks .u64 [0, 0, 0, 0] ++ [Value.int .i64 0, .slice none 0 0])) := Blk.below HB2.out hu HZ2.out
  have HWu : Hid (Below w.heap.size w u) := Below.trans HW2.out (hu.mono HW2.out.size)
  have HO := Lib.hid hO
  have HNE := Lib.hid (OW.ne_row hO hrow (by decide))
  have hz3 := HZ2.out
  have hb3 : w.heap.size + 1 < b3 := by omega
  clear ev eb hF hu KM K6 XM XW hO hrow
  refine blk_store rfl 43 _ _ rfl b3 rfl [Value.int .u64 (a0 : Int), .int .u64 (a1 : Int), .int .u64 (a2 : Int), .int .u64 (a3 : Int), .int .i64 D, .slice s2 R.length c2] rfl _ hblk rfl Try.size_itx rfl ?_
  intro k A U
  have HA9 : Hid (Blk k b3 [Value.int .u64 (a0 : Int), .int .u64 (a1 : Int), .int .u64 (a2 : Int), .int .u64 (a3 : Int), .int .i64 D, .slice s2 R.length c2]) := A
  have HW9 : Hid (Below w.heap.size w k) := Below.trans HWu.out (U.below (by omega))
  have HO9 := Lib.hid (OW.far HO.out U HNE.out)
  have HB9 : Hid (Blk k (w.heap.size + 1) (ks .u64 [0, 0, 0, 0] ++ [Value.int .i64 0, .slice none 0 0])) := Blk.upd HBu.out U (by omega)
  have HL9 : Hid (b3 < k.heap.size) := by show _ < _; rw [U.size]; exact hlt
  have HS9 : Hid (w3.heap.size ≤ k.heap.size) := by show _ ≤ _; have := HL9.out; omega
  clear A U hblk HBu HWu HO HNE hlt
  have q5 := HA9.out.cell 5 _ rfl
  by_cases hz : R.length = 0
  · have iz : (((R.length : Nat) : Int) == 0) = true := by simp [hz]
    have HF9 : Hid (FR = [I.dflt]) := by show _ = _; rw [← HFR.out]; unfold I.dealW; rw [if_pos rfl, HR.out, if_pos hz]
    obtain ⟨m, HM⟩ : ∃ z, Hid (R.length = z) := ⟨_, rfl⟩
    rw [HM.out] at iz HA9 q5
    rw [HM.out]
    clear hz HO9
    go_wp2_with (first | refine build_iw rfl _ rfl (⟨#[98, 48]⟩, ⟨#[97]⟩, ⟨#[118]⟩, false) rfl ?_)
    intro k1 A1 B1 Z1
    have HA10 : Hid (Blk k1 b3 [Value.int .u64 (a0 : Int), .int .u64 (a1 : Int), .int .u64 (a2 : Int), .int .u64 (a3 : Int), .int .i64 D, .slice s2 m c2]) := Blk.below HA9.out B1 HL9.out
    have HB10 : Hid (Blk k1 (w.heap.size + 1) (ks .u64 [0, 0, 0, 0] ++ [Value.int .i64 0, .slice none 0 0])) := Blk.below HB9.out B1 (by have := HL9.out; omega)
    have HW10 : Hid (Below w.heap.size w k1) := Below.trans HW9.out (B1.mono HW9.out.size)
    have HG10 : Hid (Blk k1 k.heap.size (wc I.dflt)) := A1
    have hk1z : Hid (k.heap.size < k1.heap.size) := by show _ < _; omega
    have hl9 := HL9.out
    clear A1 B1 Z1 HA9 HB9 HW9 HL9 HS9 q5
    have q5 := HA10.out.cell 5 _ rfl
    have f5 := HA10.out.free 5 (by simp)
    have U11 : Upd b3 k1 (k1.setCell ⟨b3, 5, none⟩ (.slice (some ⟨k.heap.size, 0, none⟩) 1 1)) := Upd.setCell _ _ _ _
    have HA11 : Hid (Blk (k1.setCell ⟨b3, 5, none⟩ (.slice (some ⟨k.heap.size, 0, none⟩) 1 1)) b3 [Value.int .u64 (a0 : Int), .int .u64 (a1 : Int), .int .u64 (a2 : Int), .int .u64 (a3 : Int), .int .i64 D, .slice (some ⟨k.heap.size, 0, none⟩) 1 1]) := Blk.setc HA10.out 5 (by simp) (.slice (some ⟨k.heap.size, 0, none⟩) 1 1)
    have HB11 : Hid (Blk (k1.setCell ⟨b3, 5, none⟩ (.slice (some ⟨k.heap.size, 0, none⟩) 1 1)) (w.heap.size + 1) (ks .u64 [0, 0, 0, 0] ++ [Value.int .i64 0, .slice none 0 0])) := Blk.upd HB10.out U11 (by omega)
    have HG11 : Hid (Blk (k1.setCell ⟨b3, 5, none⟩ (.slice (some ⟨k.heap.size, 0, none⟩) 1 1)) k.heap.size (wc I.dflt)) := Blk.upd HG10.out U11 (by omega)
    have HW11 : Hid (Below w.heap.size w (k1.setCell ⟨b3, 5, none⟩ (.slice (some ⟨k.heap.size, 0, none⟩) 1 1))) := Below.trans HW10.out (U11.below (by omega))
    have HZ11 : Hid (k.heap.size < (k1.setCell ⟨b3, 5, none⟩ (.slice (some ⟨k.heap.size, 0, none⟩) 1 1)).heap.size) := by show _ < _; rw [U11.size]; exact hk1z.out
    clear U11 HA10 HB10 HG10 HW10 hk1z
    go_wp2_with (first | refine blk_load rfl 43 _ rfl b3 rfl [Value.int .u64 (a0 : Int), .int .u64 (a1 : Int), .int .u64 (a2 : Int), .int .u64 (a3 : Int), .int .i64 D, .slice (some ⟨k.heap.size, 0, none⟩) 1 1] HA11.out _ Try.underlying43 rfl Try.size_itx ?_ | refine blk_store rfl 43 _ _ rfl (w.heap.size + 1) rfl [Value.int .u64 (a0 : Int), .int .u64 (a1 : Int), .int .u64 (a2 : Int), .int .u64 (a3 : Int), .int .i64 D, .slice (some ⟨k.heap.size, 0, none⟩) 1 1] rfl _ HB11.out rfl Try.size_itx rfl ?_)
    intro u9 A9 U9
    have HA12 : Hid (Blk u9 (w.heap.size + 1) [Value.int .u64 (a0 : Int), .int .u64 (a1 : Int), .int .u64 (a2 : Int), .int .u64 (a3 : Int), .int .i64 D, .slice (some ⟨k.heap.size, 0, none⟩) 1 1]) := A9
    have HW12 : Hid (Below w.heap.size w u9) := Below.trans HW11.out (U9.below (by omega))
    have HI12 : Hid (IsWs u9 (.slice (some ⟨k.heap.size, 0, none⟩) 1 1) [I.dflt]) := IsWs.one (Blk.upd HG11.out U9 (by omega)) (by rw [U9.size]; exact HZ11.out)
    clear A9 U9
    go_wp2_with fail
    refine bodyPost_ret (v := TV [a0, a1, a2, a3] D (.slice (some ⟨k.heap.size, 0, none⟩) 1 1)) ?_ rfl ⟨_, rfl, (by rw [HF9.out]; exact HI12.out), HW12.out⟩
    exact res_blk1 (t := 43) Try.results14 _ (w.heap.size + 1) rfl _ HA12.out _ Try.underlying43 rfl Try.size_itx
  · have iz : (((R.length : Nat) : Int) == 0) = false := by rw [beq_eq_false_iff_ne]; omega
    have HF9 : Hid (FR = R) := by show _ = _; rw [← HFR.out]; unfold I.dealW; rw [if_pos rfl, HR.out, if_neg hz]
    obtain ⟨m, HM⟩ : ∃ z, Hid (R.length = z) := ⟨_, rfl⟩
    rw [HM.out] at iz HA9 q5 HO9
    rw [HM.out]
    clear hz
    go_wp2_with (first | refine blk_load rfl 43 _ rfl b3 rfl [Value.int .u64 (a0 : Int), .int .u64 (a1 : Int), .int .u64 (a2 : Int), .int .u64 (a3 : Int), .int .i64 D, .slice s2 m c2] HA9.out _ Try.underlying43 rfl Try.size_itx ?_ | refine blk_store rfl 43 _ _ rfl (w.heap.size + 1) rfl [Value.int .u64 (a0 : Int), .int .u64 (a1 : Int), .int .u64 (a2 : Int), .int .u64 (a3 : Int), .int .i64 D, .slice s2 m c2] rfl _ HB9.out rfl Try.size_itx rfl ?_)
    intro u9 A9 U9
    have HA12 : Hid (Blk u9 (w.heap.size + 1) [Value.int .u64 (a0 : Int), .int .u64 (a1 : Int), .int .u64 (a2 : Int), .int .u64 (a3 : Int), .int .i64 D, .slice s2 m c2]) := A9
    have HW12 : Hid (Below w.heap.size w u9) := Below.trans HW9.out (U9.below (by omega))
    have HO12 := Lib.hid (OW.far2 HO9.out U9 (by omega))
    clear A9 U9
    go_wp2_with fail
    refine bodyPost_ret (v := TV [a0, a1, a2, a3] D (.slice s2 m c2)) ?_ rfl ⟨_, rfl, (by rw [HF9.out]; exact IsWs.len (OW.is HO12.out) HM.out), HW12.out⟩
    exact res_blk1 (t := 43) Try.results14 _ (w.heap.size + 1) rfl _ HA12.out _ Try.underlying43 rfl Try.size_itx
theorem deal_any (l : List Nat) (d : Int) (mo : Bool) (v : Value) (own : Bool) (L : List I.Pt) (w : World) (hl : V.Ok l) (hd : (Lit.int .i64 d).wf = true) (hL : IsPs w v L) (hP : ∀ p ∈ L, I.POk p) :
    Calls Try.prog 14 #[DV l d mo v own] w fun e w' => ∃ v', e = .returned (TV (T.mark l d (own || mo)).1 (T.mark l d (own || mo)).2 v') ∧ IsWs w' v' (I.dealW own L) ∧ Below w.heap.size w w' := by
  cases own with
  | false => exact deal_false l d mo v L w hl hd hL hP
  | true => exact deal_true l d mo v L w hl hd hL hP
end Go.Proofs.Ytkfcbihofipcbaa.It
