/- shard: New, Waiting, Room, Applied, Read, Last. -/
import Derived.Test.YtohcdonmdnjgoaaShardObj

import Derived.Test.YtohcdonmdnjgoaaRegionPick

namespace Go.Proofs.Ytohcdonmdnjgoaa.Sd

open Go.RowKit Go.Proofs.Ytohcdonmdnjgoaa.Vc Go.Proofs.Ytohcdonmdnjgoaa.Sp Go.Proofs.Ytohcdonmdnjgoaa.Rw Go.Proofs.Ytohcdonmdnjgoaa.Ch Go.Proofs.Ytohcdonmdnjgoaa.Se Go.Proofs.Ytohcdonmdnjgoaa.It Go.Proofs.Ytohcdonmdnjgoaa.Mk

set_option linter.unusedVariables false

set_option linter.unusedSimpArgs false

set_option maxRecDepth 100000

/-- the versions of a name -/
def getV (V : List (Nm × List (C.Vr I.Wt))) (n : Nm) : List (C.Vr I.Wt) := ((V.find? fun x => decide (x.1 = n)).map (·.2)).getD []
theorem getV_at (V1 V2 : List (Nm × List (C.Vr I.Wt))) (n : Nm) (L : List (C.Vr I.Wt)) (h : n ∉ V1.map (·.1)) : getV (V1 ++ (n, L) :: V2) n = L := by
  unfold getV
  rw [List.find?_append, List.find?_eq_none.2 (fun x hx => by simpa using fun e => h (List.mem_map.2 ⟨x, hx, e⟩))]
  simp
theorem getV_not (V : List (Nm × List (C.Vr I.Wt))) (n : Nm) (h : n ∉ V.map (·.1)) : getV V n = [] := by
  unfold getV
  rw [List.find?_eq_none.2 (fun x hx => by simpa using fun e => h (List.mem_map.2 ⟨x, hx, e⟩))]
  rfl
theorem find_any (s : Nat) (G : Gm) (n : Nm) (w : World) (h : Sh w s G) (hl : ∀ k ∈ G.bl s, k < w.heap.size) :
    Calls Try.prog 55 #[.pointer (some ⟨s, 0, none⟩), ky n] w fun e w' => ∃ c v, e = .returned (.pointer (some ⟨c, 0, none⟩)) ∧ Ch wrt 123 w' c v (getV (vis G.E) n) ∧ Below w.heap.size w w' := by
  by_cases hm : n ∈ G.E.map (·.n)
  · obtain ⟨e, he, hy⟩ := List.mem_map.1 hm
    subst hy
    obtain ⟨E1, E2, hE⟩ := List.append_of_mem he
    refine (find_there s G e.n e.c w h hl (E1.map fun e => (e.n, e.c)) (E2.map fun e => (e.n, e.c)) (by rw [hE]; simp)).mono ?_
    rintro r w' ⟨rfl, hb⟩
    refine ⟨_, e.v, rfl, ?_, hb⟩
    have hnd := h.map.nodup
    rw [List.map_map, hE, List.map_append, List.map_cons, List.nodup_append] at hnd
    have hv : getV (vis G.E) e.n = e.L := by
      rw [hE]
      unfold vis
      rw [List.map_append, List.map_cons]
      exact getV_at _ _ _ _ (by rw [List.map_map]; exact fun hm => hnd.2.2 _ hm _ (List.mem_cons_self ..) rfl)
    rw [hv]
    exact (h.chains e he).below hb
  · refine (find_not s G n w h hl hm).mono ?_
    rintro r w' ⟨c, rfl, _, hc, hb⟩
    rw [getV_not (vis G.E) n (by rw [vis_n]; exact hm)]
    exact ⟨c, _, rfl, hc, hb⟩
section

variable {P : Program} {w : World}

theorem res_tct {fn : Func} {p x y : Tmp} {t : TypeId} (h : fn.results = #[.tmp x, .cell p t, .tmp y]) (tmps : Array Value) (b : Nat) (hp : tmps.getD p undef = .pointer (some ⟨b, 0, none⟩)) (vs : List Value) (hb : Blk w b vs)
    (d : TypeDesc) (hu : P.underlying t = some d) (hd : d.isRow = true) (hi : (P.info? t).map (·.size) = some vs.length) : (results fn tmps).run P w = .ok (.tuple #[tmps.getD x undef, .agg vs.toArray, tmps.getD y undef]) w := by
  have hl := run_loadVar_mid w b 0 t vs d hb.1 hu hd hi
  simp only [results, h]
  simp [Sem.run_bind, Result.andThen, asAddr, hl] at hp ⊢
  simp [hp, asAddr, hl]
theorem res_cct {fn : Func} {p q y : Tmp} {t t' : TypeId} (h : fn.results = #[.cell p t, .cell q t', .tmp y]) (tmps : Array Value) (b c : Nat) (hp : tmps.getD p undef = .pointer (some ⟨b, 0, none⟩)) (hq : tmps.getD q undef = .pointer (some ⟨c, 0, none⟩)) (vs us : List Value) (hb : Blk w b vs) (hc : Blk w c us)
    (d d' : TypeDesc) (hu : P.underlying t = some d) (hd : d.isRow = true) (hi : (P.info? t).map (·.size) = some vs.length) (hu' : P.underlying t' = some d') (hd' : d'.isRow = true) (hi' : (P.info? t').map (·.size) = some us.length) : (results fn tmps).run P w = .ok (.tuple #[.agg vs.toArray, .agg us.toArray, tmps.getD y undef]) w := by
  have hl := run_loadVar_mid w b 0 t vs d hb.1 hu hd hi
  have hl' := run_loadVar_mid w c 0 t' us d' hc.1 hu' hd' hi'
  simp only [results, h]
  simp [Sem.run_bind, Result.andThen, asAddr, hl, hl'] at hp hq ⊢
  simp [hp, hq, asAddr, hl, hl']
end

set_option maxHeartbeats 2000000 in
theorem new_ok (n : Nat) (h1 : 1 ≤ n) (h16 : n ≤ 16) (w : World) :
    Calls Try.prog 9 #[.int .i64 (n : Int)] w fun e w' => ∃ s lb ch mb, e = .returned (.tuple #[.pointer (some ⟨s, 0, none⟩), .int .i64 0]) ∧ Sh w' s ⟨lb, ch, mb, n, [], [], V.zeros⟩ ∧ Below w.heap.size w w' ∧ ∀ k ∈ (⟨lb, ch, mb, n, [], [], V.zeros⟩ : Gm).bl s, w.heap.size ≤ k ∧ k < w'.heap.size := by
  have hmm := @run_makeMap Try.prog
  go_enter Try.func9, Try.ntmps9
  go_wp2_with fail
  refine (Tx.new_ok n h1 h16 w).mono ?_; rintro e w1 ⟨lb, ch, rfl, hc, hlb, hln, hb⟩
  have HLN := Lib.hid hln
  have HB1 := Lib.hid hb
  have HC := Lib.hid hc
  have HLB := Lib.hid hlb
  clear hc hlb hln hb
  go_wp2_with (first | refine blk_box rfl 96 _ rfl [Value.pointer (some ⟨lb, 0, none⟩), .map (some w1.heap.size), .int .u64 0, .int .u64 0, .int .u64 0, .int .u64 0] rfl ?_)
  intro w2 A2 B2 Z2
  have HA2 := Lib.hid A2
  have HB2 := Lib.hid B2
  have HZ2 := Lib.hid Z2
  clear A2 B2 Z2
  go_wp2_with fail
  go_ret2
  have hz : (w1.alloc (.map #[] 0)).heap.size = w1.heap.size + 1 := by simp
  have hA := HA2.out
  have hZ := HZ2.out
  have hlt := HLN.out.lt
  have hbt := HLN.out.blt
  have hb1 := HB1.out.size
  have hBA : Below w1.heap.size w1 w2 := ((Below.refl _ w1).alloc (Nat.le_refl _) _).trans (HB2.out.mono (by omega))
  have hmb : w2.heap[w1.heap.size]? = some (.map #[] 0) := by
    rw [HB2.out.block _ (by omega)]
    exact heap_alloc_new w1 _
  refine ⟨w1.heap.size + 1, lb, ch, w1.heap.size, rfl, ⟨?_, HLN.out.below hBA hbt hlt, Mp.none hmb, fun e he => (by cases he), fun b hb => (by cases hb), rfl, ?_⟩, HB1.out.trans (hBA.mono hb1), fun k hk => ?_⟩
  · exact hA
  · have hne := HLN.out.ne
    unfold Gm.bl
    simp only [List.flatMap_nil, List.append_nil, List.nodup_cons, List.mem_cons, List.not_mem_nil, or_false, not_or, List.nodup_nil, not_false_eq_true, and_true]
    exact ⟨⟨by omega, by omega, by omega⟩, ⟨hne, by omega⟩, by omega⟩
  · have h2 := HC.out
    have h3 := HLB.out
    unfold Gm.bl at hk
    simp only [List.flatMap_nil, List.append_nil, List.mem_cons, List.not_mem_nil, or_false] at hk
    omega
set_option maxHeartbeats 2000000 in
theorem new_no (n : Int) (hn : n < 1 ∨ 16 < n) (w : World) :
    Calls Try.prog 9 #[.int .i64 n] w fun e w' => e = .returned (.tuple #[.pointer none, .int .i64 1]) ∧ w' = w := by
  go_enter Try.func9, Try.ntmps9
  go_wp2_with fail
  refine (Tx.new_no n hn w).mono ?_; rintro e w1 ⟨rfl, rfl⟩
  go_wp2_with fail
  go_ret2
  exact ⟨rfl, rfl⟩
set_option maxHeartbeats 1000000 in
theorem waiting_any (s : Nat) (G : Gm) (w : World) (h : Sh w s G) :
    Calls Try.prog 26 #[.pointer (some ⟨s, 0, none⟩)] w fun e w' => e = .returned (.int .i64 (G.W.length : Int)) ∧ w' = w := by
  have c0 := h.c0
  have CL := Lib.hid (Tx.len_ok h.lane)
  rw [List.length_map] at CL
  clear h
  go_enter Try.func26, Try.ntmps26
  go_wp2_with fail
  refine CL.out.mono ?_; rintro e w1 ⟨rfl, rfl⟩
  go_wp2_with fail
  go_ret
  exact ⟨rfl, rfl⟩
set_option maxHeartbeats 1000000 in
theorem room_any (s : Nat) (G : Gm) (w : World) (h : Sh w s G) (hl : ∀ k ∈ G.bl s, k < w.heap.size) (hr : G.room ≤ 16) (hw : G.W.length ≤ 16) :
    Calls Try.prog 27 #[.pointer (some ⟨s, 0, none⟩)] w fun e w' => e = .returned (.int .i64 ((G.room : Int) - (G.W.length : Int))) ∧ Below w.heap.size w w' := by
  have HS := Lib.hid (fun u (hu : Below w.heap.size w u) => h.below hl hu)
  have HCR : Hid (∀ u, Below w.heap.size w u → Calls Try.prog 59 [.pointer (some ⟨G.lb, 0, none⟩)].toArray u fun e u' => e = .returned (.int .i64 (G.room : Int)) ∧ Below w.heap.size w u') := fun u hu => (Tx.room_ok (HS.out u hu).lane).mono (by rintro e u' ⟨rfl, rfl⟩; exact ⟨rfl, hu⟩)
  have HCL : Hid (∀ u, Below w.heap.size w u → Calls Try.prog 58 [.pointer (some ⟨G.lb, 0, none⟩)].toArray u fun e u' => e = .returned (.int .i64 (G.W.length : Int)) ∧ Below w.heap.size w u') := fun u hu => (Tx.len_ok (HS.out u hu).lane).mono (by rintro e u' ⟨rfl, rfl⟩; rw [List.length_map]; exact ⟨rfl, hu⟩)
  have HC0 := Lib.hid (fun u (hu : Below w.heap.size w u) => (HS.out u hu).c0)
  have k1 : IntKind.i64.wrap ((G.room : Int) - (G.W.length : Int)) = (G.room : Int) - (G.W.length : Int) := by rw [IntKind.wrap_i64]; omega
  clear h hl
  go_enter Try.func27, Try.ntmps27
  go_wp2_with fail
  refine region_w Try.mixed (by kernel_rfl) ?_
  refine w_move rfl _ rfl (.pointer (some ⟨s, 0, none⟩)) rfl (fun K hK => ?_)
  go_simp
  refine hK _ ?_
  clear hK K
  refine w_value rfl (.pointer (some ⟨s, 0, none⟩)) (fun u hu => by go_simp) (fun K hK => ?_)
  go_simp
  refine hK _ ?_
  clear hK K
  refine w_value rfl (.pointer (some ⟨s, 0, none⟩)) (fun u hu => by go_simp) (fun K hK => ?_)
  go_simp
  refine hK _ ?_
  clear hK K
  refine w_value rfl (.pointer (some ⟨G.lb, 0, none⟩)) (fun u hu => by have hs := HC0.out u hu; go_simp) (fun K hK => ?_)
  go_simp
  refine hK _ ?_
  clear hK K
  refine w_call rfl 59 Try.f59 Try.func59 rfl rfl _ _ rfl _ rfl (.int .i64 (G.room : Int)) (by exact HCR.out) (fun K hK => ?_)
  go_simp
  refine hK _ ?_
  clear hK K
  refine w_move rfl _ rfl (.pointer (some ⟨s, 0, none⟩)) rfl (fun K hK => ?_)
  go_simp
  refine hK _ ?_
  clear hK K
  refine w_value rfl (.pointer (some ⟨s, 0, none⟩)) (fun u hu => by go_simp) (fun K hK => ?_)
  go_simp
  refine hK _ ?_
  clear hK K
  refine w_value rfl (.pointer (some ⟨s, 0, none⟩)) (fun u hu => by go_simp) (fun K hK => ?_)
  go_simp
  refine hK _ ?_
  clear hK K
  refine w_value rfl (.pointer (some ⟨G.lb, 0, none⟩)) (fun u hu => by have hs := HC0.out u hu; go_simp) (fun K hK => ?_)
  go_simp
  refine hK _ ?_
  clear hK K
  refine w_call rfl 58 Try.f58 Try.func58 rfl rfl _ _ rfl _ rfl (.int .i64 (G.W.length : Int)) (by exact HCL.out) (fun K hK => ?_)
  go_simp
  refine hK _ ?_
  clear hK K
  refine w_value rfl (.int .i64 ((G.room : Int) - (G.W.length : Int))) (fun u hu => by go_simp) (fun K hK => ?_)
  go_simp
  refine hK _ ?_
  clear hK K
  refine w_assign rfl _ rfl (.int .i64 ((G.room : Int) - (G.W.length : Int))) rfl (fun K hK => ?_)
  go_simp
  refine hK _ ?_
  clear hK K
  refine w_nil ?_
  intro u hu
  have HW := Lib.hid hu
  clear hu
  go_wp2_with fail
  go_ret
  exact ⟨rfl, HW.out⟩
set_option maxHeartbeats 1000000 in
theorem applied_any (s : Nat) (G : Gm) (w : World) (h : Sh w s G) (hl : ∀ k ∈ G.bl s, k < w.heap.size) :
    Calls Try.prog 28 #[.pointer (some ⟨s, 0, none⟩)] w fun e w' => e = .returned (AV .u64 G.A) ∧ Below w.heap.size w w' := by
  have HR : Hid (w.rangeAt s 2 (ks .u64 G.A)) := fun j v hv => by
    have := h.blk.1 (2 + j) v (by unfold sv; rw [List.getElem?_append_right (by simp)]; simpa using hv)
    simpa [Nat.zero_add] using this
  have HLs := Lib.hid (hl _ (mem_s G s))
  have HA := Lib.hid h.four
  have HI := Lib.hid (size_v (l := G.A) h.four)
  generalize G.A = A at *
  clear h hl
  go_enter Try.func28, Try.ntmps28
  go_wp2_with (first | refine arr_alloc rfl .u64 33 4 rfl Try.info_v ?_)
  intro w2 A2 B2 Z2
  have HC2 : Hid (Arr .u64 w2 w.heap.size (List.replicate 4 0)) := A2
  have HB2 : Hid (Below w.heap.size w w2) := B2
  have HR2 : Hid (w2.rangeAt s 2 (ks .u64 A)) := fun j v hv => (B2.cell (p := ⟨s, 2 + j, none⟩) HLs.out).trans (HR.out j v hv)
  clear A2 B2 Z2
  go_wp2_with (first | refine wpList_load_mid rfl 33 _ rfl s 2 rfl (ks .u64 A) _ HR2.out Try.underlying33 rfl (by rw [ks_length]; exact HI.out) ?_ | refine arr_store rfl .u64 33 _ _ rfl w.heap.size rfl A rfl _ HC2.out (by rw [HA.out]; rfl) HI.out ?_)
  intro u A9 U
  have HA9 : Hid (Arr .u64 u w.heap.size A) := A9
  have HB9 : Hid (Below w.heap.size w u) := Below.trans HB2.out (U.below (Nat.le_refl _))
  clear A9 U
  go_wp2_with fail
  refine bodyPost_ret (v := AV .u64 A) ?_ rfl ⟨rfl, HB9.out⟩
  exact res_arr (t := 33) Try.results28 _ .u64 w.heap.size rfl A HA9.out 4 31 Try.underlying33 HI.out
end Go.Proofs.Ytohcdonmdnjgoaa.Sd

namespace Go.Proofs.Ytohcdonmdnjgoaa.Sd

open Go.RowKit Go.Proofs.Ytohcdonmdnjgoaa.Vc Go.Proofs.Ytohcdonmdnjgoaa.Sp Go.Proofs.Ytohcdonmdnjgoaa.Rw Go.Proofs.Ytohcdonmdnjgoaa.Ch Go.Proofs.Ytohcdonmdnjgoaa.Se Go.Proofs.Ytohcdonmdnjgoaa.It Go.Proofs.Ytohcdonmdnjgoaa.Mk

set_option linter.unusedVariables false

set_option linter.unusedSimpArgs false

set_option maxRecDepth 100000

theorem ky_inj {n m : Nm} (h : ky n = ky m) : n = m := by
  unfold ky at h
  simp at h
  exact Prod.ext h.1 h.2
theorem itr_sub {w : World} {r mb : Nat} {M S : List (Nm × Nat)} (h : Itr w r mb M S) (x : Nm × Nat) (hx : x ∈ S) : x ∈ M := by
  obtain ⟨es, clock, seen, h1, h2, h3, h4, h5, h6⟩ := h.is
  have h7 : (ky x.1, Value.pointer (some ⟨x.2, 0, none⟩)) ∈ (leftOf es seen).toList.map (fun e => (e.key, e.val)) := by rw [h6]; exact List.mem_map.2 ⟨x, hx, rfl⟩
  obtain ⟨e, he, e1⟩ := List.mem_map.1 h7
  have h8 : (ky x.1, Value.pointer (some ⟨x.2, 0, none⟩)) ∈ es.toList.map (fun e => (e.key, e.val)) := List.mem_map.2 ⟨e, (mem_left he).1, e1⟩
  rw [h2] at h8
  obtain ⟨y, hy, e2⟩ := List.mem_map.1 h8
  simp only [Prod.mk.injEq, Value.pointer.injEq, Option.some.injEq, Addr.mk.injEq, and_true] at e2
  have : y = x := Prod.ext (ky_inj e2.1) e2.2
  rw [← this]; exact hy
section

variable {ops : Array Oper} {rest : List Oper} {o : Oper} {a : Act} {w : World} {Q : Exit → Act → World → Prop}

theorem range_step (hgd : o.guard = none) (m : Operand) (ho : o.op = .range 94 m) (mb : Nat) (hm : a.eval m = .map (some mb)) (M : List (Nm × Nat)) (hM : Mp w mb M)
    (h : ∀ w', Itr w' w.heap.size mb M M → Below w.heap.size w w' → w'.heap.size = w.heap.size + 1 → wpList Try.prog ops Q rest (a.put o.dst (.pointer (some ⟨w.heap.size, 0, none⟩))) w') : wpList Try.prog ops Q (o :: rest) a w := by
  refine wpList_plain hgd fun K hK => ?_
  obtain ⟨w', hr, h1, h2, h3⟩ := run_range hM
  unfold Oper.wp execOp
  simp only [ho, hm, Sem.run_bind, hr, Result.andThen_ok, Sem.run_pure]
  exact hK _ _ (h w' h1 h2 h3)
theorem next_step (hgd : o.guard = none) (it : Operand) (ho : o.op = .next it false) (r mb : Nat) (hi : a.eval it = .pointer (some ⟨r, 0, none⟩)) (E : List En) (S : List (Nm × Nat)) (hI : Itr w r mb (E.map fun e => (e.n, e.c)) S)
    (hd : Hid (S = []) → wpList Try.prog ops Q rest (a.put o.dst (.tuple #[.bool false])) w)
    (hmo : ∀ S1 (e : En) S2 w', Hid (e ∈ E) → Hid (S = S1 ++ (e.n, e.c) :: S2) → Hid ((Instr.entry (.pointer (some ⟨r, 0, none⟩))).run Try.prog w' = .ok (.tuple #[ky e.n, .pointer (some ⟨e.c, 0, none⟩)]) w') → Hid (Itr w' r mb (E.map fun e => (e.n, e.c)) (S1 ++ S2)) → Hid (Upd r w w') → wpList Try.prog ops Q rest (a.put o.dst (.tuple #[.bool true, ky e.n, .pointer (some ⟨e.c, 0, none⟩)])) w') : wpList Try.prog ops Q (o :: rest) a w := by
  refine wpList_plain hgd fun K hK => ?_
  unfold Oper.wp execOp
  rcases run_next hI o.type with ⟨h0, hr⟩ | ⟨S1, n, c, S2, w', h0, hr, he, hi', hu⟩
  · simp only [ho, hi, Sem.run_bind, hr, Result.andThen_ok, Sem.run_pure]
    exact hK _ _ (hd (Lib.hid h0))
  · simp only [ho, hi, Sem.run_bind, hr, Result.andThen_ok, Sem.run_pure]
    subst h0
    obtain ⟨e, hee, hec⟩ := List.mem_map.1 (itr_sub hI (n, c) (by simp))
    simp only [Prod.mk.injEq] at hec
    obtain ⟨rfl, rfl⟩ := hec
    exact hK _ _ (hmo S1 e S2 w' (Lib.hid hee) (by show _ = _; rfl) (Lib.hid he) (Lib.hid hi') (Lib.hid hu))
end

theorem getV_mem {V : List (Nm × List (C.Vr I.Wt))} (hnd : (V.map (·.1)).Nodup) {x : Nm × List (C.Vr I.Wt)} (hx : x ∈ V) : getV V x.1 = x.2 := by
  obtain ⟨V1, V2, rfl⟩ := List.append_of_mem hx
  rw [List.map_append, List.map_cons, List.nodup_append] at hnd
  exact getV_at V1 V2 x.1 x.2 (fun hm => hnd.2.2 _ hm _ (List.mem_cons_self ..) rfl)
def itrLeft (w : World) (r mb : Nat) : Nat := match w.heap[r]?, w.heap[mb]? with
  | some (.mapIter _ _ seen _), some (.map es _) => (leftOf es seen).size
  | _, _ => 0
theorem left_eq {w : World} {r mb : Nat} {M S : List (Nm × Nat)} (h : Itr w r mb M S) : itrLeft w r mb = S.length := by
  obtain ⟨es, clock, seen, h1, h2, h3, h4, h5, h6⟩ := h.is
  unfold itrLeft
  rw [h1, h5]
  have := congrArg List.length h6
  simpa using this
/-- a sum over names -/
def sumN (f : Nm → Nat) (S : List (Nm × Nat)) : Nat := (S.map fun x => f x.1).sum
theorem sumN_split (f : Nm → Nat) (S1 S2 : List (Nm × Nat)) (n : Nm) (c : Nat) : sumN f (S1 ++ (n, c) :: S2) = sumN f (S1 ++ S2) + f n := by
  unfold sumN
  simp
  omega
def tot (V : List (Nm × List (C.Vr I.Wt))) : Nat := (V.map fun x => x.2.length).sum
theorem tot_is {E : List En} (hnd : (E.map (·.n)).Nodup) (f : List (C.Vr I.Wt) → Nat) : sumN (fun n => f (getV (vis E) n)) (E.map fun e => (e.n, e.c)) = ((vis E).map fun x => f x.2).sum := by
  unfold sumN
  rw [List.map_map]
  congr 1
  unfold vis
  rw [List.map_map]
  refine List.map_congr_left fun e he => ?_
  show f (getV (vis E) e.n) = f e.L
  rw [getV_mem (V := vis E) (x := (e.n, e.L)) (by rw [vis_n]; exact hnd) (List.mem_map.2 ⟨e, he, rfl⟩)]
set_option maxHeartbeats 2000000 in
theorem versions_any (s : Nat) (G : Gm) (w : World) (h : Sh w s G) (hl : ∀ k ∈ G.bl s, k < w.heap.size) (ht : tot (vis G.E) ≤ 1000000) :
    Calls Try.prog 29 #[.pointer (some ⟨s, 0, none⟩)] w fun e w' => e = .returned (.int .i64 (tot (vis G.E) : Int)) ∧ Below w.heap.size w w' := by
  have c1 := h.c1
  have HSH := Lib.hid h
  have HL := Lib.hid hl
  have HMP := Lib.hid h.map
  have HT := Lib.hid (tot_is h.names (fun L => L.length))
  obtain ⟨t, HTT⟩ : ∃ t, Hid (tot (vis G.E) = t) := ⟨_, rfl⟩
  have HT : Hid (sumN (fun n => (getV (vis G.E) n).length) (G.E.map fun e => (e.n, e.c)) = t) := HT.out.trans HTT.out
  rw [HTT.out] at ht ⊢
  clear h hl
  go_enter Try.func29, Try.ntmps29
  go_wp2_with (first | refine range_step rfl _ rfl G.mb rfl _ HMP.out ?_)
  intro w1 hi1 hb1 hz1
  have HI1 := Lib.hid hi1
  have HB1 := Lib.hid hb1
  have HZ1 : Hid (w.heap.size < w1.heap.size) := by show _ < _; omega
  clear hi1 hb1 hz1 c1
  go_wp2_with fail
  go_loopw [2] (fun v wr => ∃ (k : Nat) (S : List (Nm × Nat)), v = .int .i64 k ∧ Hid (k + sumN (fun n => (getV (vis G.E) n).length) S = t) ∧ Hid (Itr wr w.heap.size G.mb (G.E.map fun e => (e.n, e.c)) S) ∧ Hid (Below w.heap.size w wr) ∧ Hid (w.heap.size < wr.heap.size)) (fun _ wr => itrLeft wr w.heap.size G.mb)
  case atStart => exact ⟨0, _, rfl, (show Hid (_ = _) from by show _ = _; rw [Nat.zero_add]; exact HT.out), HI1, HB1, HZ1⟩
  case round =>
    obtain ⟨k, S, rfl, HKr, HIr, HBr, HZr⟩ := hrel
    clear HI1 HB1 HZ1
    go_wp2_with (first | refine next_step rfl _ rfl w.heap.size G.mb rfl _ S HIr.out ?_ ?_)
    · intro HSS
      have hS := HSS.out
      subst hS
      obtain rfl : k = t := by have := HKr.out; simpa [sumN] using this
      go_wp2_with fail
      go_ret
      exact ⟨rfl, HBr.out⟩
    · intro S1 e S2 w2 HEE HSS HEN HI2 HU2
      have he := HEE.out
      have hS := HSS.out
      have hen := HEN.out
      have hu2 := HU2.out
      subst hS
      have HB2 : Hid (Below w.heap.size w w2) := Below.trans HBr.out (hu2.below (Nat.le_refl _))
      have HZ2 : Hid (w.heap.size < w2.heap.size) := by show _ < _; rw [hu2.size]; exact HZr.out
      have hgv : getV (vis G.E) e.n = e.L := getV_mem (V := vis G.E) (x := (e.n, e.L)) (by rw [vis_n]; exact HSH.out.names) (List.mem_map.2 ⟨e, he, rfl⟩)
      have CLN := Lib.hid (lenW e.c e.v e.L w2 ((HSH.out.chains e he).below HB2.out))
      obtain ⟨q, HQ⟩ : ∃ q, Hid (e.L.length = q) := ⟨_, rfl⟩
      rw [HQ.out] at CLN
      have HK2 : Hid ((k + q) + sumN (fun n => (getV (vis G.E) n).length) (S1 ++ S2) = t) := by
        have h1 := HKr.out
        rw [sumN_split, hgv, HQ.out] at h1
        show _ = _
        omega
      have HLR := Lib.hid (left_eq HIr.out)
      have hkq : k + q ≤ 1000000 := by have := HK2.out; omega
      have k1 : IntKind.i64.wrap ((k : Int) + (q : Int)) = (k : Int) + (q : Int) := by rw [IntKind.wrap_i64]; omega
      clear hu2 hgv HKr HBr HZr
      go_wp2_with fail
      refine CLN.out.mono ?_; rintro e9 w3 ⟨rfl, rfl⟩
      go_wp2_with fail
      go_roundw
      case rel => exact ⟨k + q, S1 ++ S2, by go_num, HK2, HI2, HB2, HZ2⟩
      case measure =>
        rw [left_eq HI2.out, HLR.out]
        simp
end Go.Proofs.Ytohcdonmdnjgoaa.Sd

namespace Go.Proofs.Ytohcdonmdnjgoaa.Sd

open Go.RowKit Go.Proofs.Ytohcdonmdnjgoaa.Vc Go.Proofs.Ytohcdonmdnjgoaa.Sp Go.Proofs.Ytohcdonmdnjgoaa.Rw Go.Proofs.Ytohcdonmdnjgoaa.Ch Go.Proofs.Ytohcdonmdnjgoaa.Se Go.Proofs.Ytohcdonmdnjgoaa.It Go.Proofs.Ytohcdonmdnjgoaa.Mk

set_option linter.unusedVariables false

set_option linter.unusedSimpArgs false

set_option maxRecDepth 100000

/-- the version that is read -/
def rdV (L : List (C.Vr I.Wt)) (h : List Nat) : C.Vr I.Wt := (C.read L h).getD (vk wrt).none_
def lsV (L : List (C.Vr I.Wt)) : C.Vr I.Wt := L.getLast?.getD (vk wrt).none_
theorem lsV_four {L : List (C.Vr I.Wt)} (h : C.Up L) : (lsV L).1.1.length = 4 := by
  unfold lsV
  cases e : L.getLast? with
  | none => rfl
  | some b => exact h.four b (List.mem_of_getLast? e)
theorem info_vec : (Try.prog.info? 33).map (fun i => (i.zero, i.size)) = some (some (.agg (ks .u64 (List.replicate 4 0)).toArray), (ks .u64 (List.replicate 4 0)).length) := Try.info_v
theorem Try.info_st : (Try.prog.info? 35).map (fun i => (i.zero, i.size)) = some (some (.agg [Value.int .u64 0, .int .u64 0, .int .u64 0, .int .u64 0, .int .i64 0].toArray), [Value.int .u64 0, .int .u64 0, .int .u64 0, .int .u64 0, .int .i64 0].length) := by kernel_rfl
theorem rng5 {u : World} {b : Nat} {x0 x1 x2 x3 x4 : Value} {l : List Value} (h : Blk u b (x0 :: x1 :: x2 :: x3 :: x4 :: l)) : u.rangeAt b 5 l := fun j v hv => by
  have := h.1 (5 + j) v (by simpa [Nat.add_comm] using hv)
  rw [Nat.zero_add] at this
  exact this
theorem up_get {w : World} {s : Nat} {G : Gm} (h : Sh w s G) (n : Nm) : C.Up (getV (vis G.E) n) := by
  unfold getV
  cases e : (vis G.E).find? (fun x => decide (x.1 = n)) with
  | none => exact C.Up.nil
  | some x =>
    obtain ⟨y, hy, rfl⟩ := List.mem_map.1 (List.mem_of_find?_eq_some e)
    exact (h.chains y hy).up
theorem lim_get {V : List (Nm × List (C.Vr I.Wt))} {m : Nat} (h : ∀ x ∈ V, x.2.length < m) (n : Nm) (hm : 0 < m) : (getV V n).length < m := by
  unfold getV
  cases e : V.find? (fun x => decide (x.1 = n)) with
  | none => exact hm
  | some x => exact h x (List.mem_of_find?_eq_some e)
set_option maxHeartbeats 4000000 in
theorem read_any (s : Nat) (G : Gm) (k1 k2 : ByteArray) (at_ : List Nat) (w : World) (h : Sh w s G) (hl : ∀ k ∈ G.bl s, k < w.heap.size) (ha : at_.length = 4) (hlim : ∀ x ∈ vis G.E, x.2.length < 1000) :
    Calls Try.prog 22 #[.pointer (some ⟨s, 0, none⟩), .string k1, .string k2, AV .u64 at_] w fun e w' => e = .returned (.tuple #[.string (rdV (getV (vis G.E) (k1, k2)) at_).2.2.2.1, SV (rdV (getV (vis G.E) (k1, k2)) at_).1.1 (rdV (getV (vis G.E) (k1, k2)) at_).1.2, .bool ((C.read (getV (vis G.E) (k1, k2)) at_).isSome && !(rdV (getV (vis G.E) (k1, k2)) at_).2.2.2.2)]) ∧ Below w.heap.size w w' := by
  have HSH := Lib.hid h
  have HL := Lib.hid hl
  have CF := Lib.hid (fun u (hu : Below w.heap.size w u) => find_any s G (k1, k2) u (h.below hl hu) (fun k hk => Nat.lt_of_lt_of_le (hl k hk) hu.size))
  have HUP := Lib.hid (up_get h (k1, k2))
  have HLM := Lib.hid (lim_get hlim (k1, k2) (by decide))
  have hr4 : (rdV (getV (vis G.E) (k1, k2)) at_).1.1.length = 4 := best_fourW HUP.out at_
  obtain ⟨L, HLL⟩ : ∃ L, Hid (getV (vis G.E) (k1, k2) = L) := ⟨_, rfl⟩
  rw [HLL.out] at CF HUP HLM hr4 ⊢
  have CR := Lib.hid (fun c v u (hu : Ch wrt 123 u c v L) => readW c v L at_ u hu ha HLM.out)
  obtain ⟨q, HQ⟩ : ∃ q, Hid ((C.read L at_).isSome = q) := ⟨_, rfl⟩
  obtain ⟨r, HR⟩ : ∃ r, Hid (rdV L at_ = r) := ⟨_, rfl⟩
  change Hid (∀ c v u, Ch wrt 123 u c v L → Calls Try.prog 56 #[.pointer (some ⟨c, 0, none⟩), AV .u64 at_] u fun e w' => e = .returned (.tuple #[(vk wrt).val (rdV L at_), .bool (C.read L at_).isSome]) ∧ Below u.heap.size u w') at CR
  rw [HQ.out, HR.out] at CR
  rw [HR.out] at hr4
  rw [HQ.out, HR.out]
  obtain ⟨⟨b, e0⟩, p1, p2, p3, p4⟩ := r
  obtain ⟨b0, b1, b2, b3, rfl⟩ := V.four hr4
  have CR : Hid (∀ c v u, Ch wrt 123 u c v L → Calls Try.prog 56 #[.pointer (some ⟨c, 0, none⟩), AV .u64 at_] u fun e w' => e = .returned (.tuple #[.agg [Value.int .u64 (b0 : Int), .int .u64 (b1 : Int), .int .u64 (b2 : Int), .int .u64 (b3 : Int), .int .i64 e0, .string p1, .string p2, .string p3, .bool p4].toArray, .bool q]) ∧ Below u.heap.size u w') := CR.out
  have CF : Hid (∀ u, Below w.heap.size w u → Calls Try.prog 55 #[.pointer (some ⟨s, 0, none⟩), .agg #[.string k1, .string k2]] u fun e w' => ∃ c v, e = .returned (.pointer (some ⟨c, 0, none⟩)) ∧ Ch wrt 123 w' c v L ∧ Below u.heap.size u w') := CF.out
  have HSA := Lib.hid (size_v ha)
  show Calls _ _ _ _ fun e w' => e = .returned (.tuple #[.string p3, .agg [Value.int .u64 (b0 : Int), .int .u64 (b1 : Int), .int .u64 (b2 : Int), .int .u64 (b3 : Int), .int .i64 e0].toArray, .bool (q && !p4)]) ∧ _
  clear h hl ha hlim hr4 HLL HQ HR HUP HLM
  go_enter Try.func22, Try.ntmps22
  go_wp2_with (first | refine blk_box rfl 33 _ rfl (ks .u64 at_) rfl ?_)
  intro w1 A1 B1 Z1
  go_wp2_with (first | refine blk_alloc rfl 35 [Value.int .u64 0, .int .u64 0, .int .u64 0, .int .u64 0, .int .i64 0] rfl Try.info_st ?_)
  intro w2 A2 B2 Z2
  have HA2 : Hid (Blk w2 w.heap.size (ks .u64 at_)) := Blk.below A1 B2 (by omega)
  have HO2 : Hid (Blk w2 (w.heap.size + 1) [Value.int .u64 0, .int .u64 0, .int .u64 0, .int .u64 0, .int .i64 0]) := by first | exact A2 | (have h := A2; rw [Z1] at h; exact h)
  have HB2 : Hid (Below w.heap.size w w2) := B1.trans (B2.mono (by omega))
  have HZ2 : Hid (w.heap.size + 1 < w2.heap.size) := by show _ < _; omega
  clear A1 B1 Z1 A2 B2 Z2
  go_wp2_with fail
  have HA2d : Hid (Blk w2.drew w.heap.size (ks .u64 at_)) := HA2.out.drew
  have HB2d : Hid (Below w.heap.size w w2.drew) := HB2.out.drew
  have HZ2d : Hid (w.heap.size + 1 < w2.drew.heap.size) := HZ2.out
  have HO2d : Hid (Blk w2.drew (w.heap.size + 1) [Value.int .u64 0, .int .u64 0, .int .u64 0, .int .u64 0, .int .i64 0]) := HO2.out.drew
  refine region_tree (fun u => Blk u w.heap.size (ks .u64 at_)) 13 Try.mixed ?_
  refine tr_read 0 rfl (by kernel_rfl) HA2d.out ?_
  refine c_move rfl _ rfl (.pointer (some ⟨s, 0, none⟩)) rfl (fun _ _ _ h => h) (fun K hK => ?_)
  go_simp
  refine hK _ ?_
  clear hK K
  refine c_nil ?_
  refine tr_read 1 rfl (by kernel_rfl) HA2d.out ?_
  refine c_move rfl _ rfl (.string k1) rfl (fun _ _ _ h => h) (fun K hK => ?_)
  go_simp
  refine hK _ ?_
  clear hK K
  refine c_nil ?_
  refine tr_read 2 rfl (by kernel_rfl) HA2d.out ?_
  refine c_move rfl _ rfl (.string k2) rfl (fun _ _ _ h => h) (fun K hK => ?_)
  go_simp
  refine hK _ ?_
  clear hK K
  refine c_nil ?_
  refine tr_read 3 rfl (by kernel_rfl) HA2d.out ?_
  refine c_value rfl (.agg #[.string k1, .string k2]) (fun u hu => by go_simp) (fun _ _ _ h => h) (fun K hK => ?_)
  go_simp
  refine hK _ ?_
  clear hK K
  refine c_nil ?_
  refine tr_read 5 rfl (by kernel_rfl) HA2d.out ?_
  refine c_blk_load rfl 33 _ rfl w.heap.size rfl (ks .u64 at_) (fun u hu => hu) _ Try.underlying33 rfl (by rw [ks_length]; exact HSA.out) (fun _ _ _ h => h) (fun K hK => ?_)
  go_simp
  refine hK _ ?_
  clear hK K
  refine c_nil ?_
  refine tr_two 4 10 rfl rfl (by kernel_rfl) ?_ ?_
  · skip
    go_wp2_with (first | (go_at_call 55; refine Calls.mono (CF.out _ HB2d.out) ?_; rintro e wa ⟨c, v, rfl, hc, hb⟩))
    have HCwa := Lib.hid hc
    have HBwa : Hid (Below w.heap.size w wa) := Below.trans HB2d.out (hb.mono HB2d.out.size)
    have HAwa : Hid (Blk wa w.heap.size (ks .u64 at_)) := Blk.below HA2d.out hb (by have := HZ2d.out; omega)
    have HOwa : Hid (Blk wa (w.heap.size + 1) [Value.int .u64 0, .int .u64 0, .int .u64 0, .int .u64 0, .int .i64 0]) := Blk.below HO2d.out hb HZ2d.out
    have HZwa : Hid (w.heap.size + 1 < wa.heap.size) := Nat.lt_of_lt_of_le HZ2d.out hb.size
    clear hc hb
    refine And.intro (fun _ => HAwa.out) ?_
    refine tr_two 6 10 rfl rfl (by kernel_rfl) ?_ ?_
    · skip
      go_wp2_with (first | (go_at_call 56; refine Calls.mono (CR.out _ _ _ HCwa.out) ?_; rintro e wb ⟨rfl, hb⟩))
      have HBwb : Hid (Below w.heap.size w wb) := Below.trans HBwa.out (hb.mono HBwa.out.size)
      have HAwb : Hid (Blk wb w.heap.size (ks .u64 at_)) := Blk.below HAwa.out hb (by have := HZwa.out; omega)
      have HOwb : Hid (Blk wb (w.heap.size + 1) [Value.int .u64 0, .int .u64 0, .int .u64 0, .int .u64 0, .int .i64 0]) := Blk.below HOwa.out hb HZwa.out
      have HZwb : Hid (w.heap.size + 1 < wb.heap.size) := Nat.lt_of_lt_of_le HZwa.out hb.size
      clear hb
      refine And.intro (fun _ => HAwb.out) ?_
      refine tr_read 7 rfl (by kernel_rfl) HAwb.out ?_
      refine c_move rfl _ rfl (.tuple #[.agg [Value.int .u64 (b0 : Int), .int .u64 (b1 : Int), .int .u64 (b2 : Int), .int .u64 (b3 : Int), .int .i64 e0, .string p1, .string p2, .string p3, .bool p4].toArray, .bool q]) rfl (fun _ _ _ h => h) (fun K hK => ?_)
      go_simp
      refine hK _ ?_
      clear hK K
      refine c_nil ?_
      refine tr_read 8 rfl (by kernel_rfl) HAwb.out ?_
      refine c_value rfl (.agg [Value.int .u64 (b0 : Int), .int .u64 (b1 : Int), .int .u64 (b2 : Int), .int .u64 (b3 : Int), .int .i64 e0, .string p1, .string p2, .string p3, .bool p4].toArray) (fun u hu => by go_simp) (fun _ _ _ h => h) (fun K hK => ?_)
      go_simp
      refine hK _ ?_
      clear hK K
      refine c_nil ?_
      refine tr_read 9 rfl (by kernel_rfl) HAwb.out ?_
      refine c_value rfl (.bool q) (fun u hu => by go_simp) (fun _ _ _ h => h) (fun K hK => ?_)
      go_simp
      refine hK _ ?_
      clear hK K
      refine c_nil ?_
      refine tr_one 10 rfl (by kernel_rfl) ?_
      go_wp2_with (first | refine blk_alloc rfl 123 [Value.int .u64 0, .int .u64 0, .int .u64 0, .int .u64 0, .int .i64 0, .string ⟨#[]⟩, .string ⟨#[]⟩, .string ⟨#[]⟩, .bool false] rfl info_vW ?_)
      intro wc A3 B3 Z3
      have HBwc : Hid (Below w.heap.size w wc) := Below.trans HBwb.out (B3.mono HBwb.out.size)
      have HAwc : Hid (Blk wc w.heap.size (ks .u64 at_)) := Blk.below HAwb.out B3 (by have := HZwb.out; omega)
      have HOwc : Hid (Blk wc (w.heap.size + 1) [Value.int .u64 0, .int .u64 0, .int .u64 0, .int .u64 0, .int .i64 0]) := Blk.below HOwb.out B3 HZwb.out
      have HZwc : Hid (w.heap.size + 1 < wc.heap.size) := Nat.lt_of_lt_of_le HZwb.out B3.size
      have HXwc : Hid (Blk wc wb.heap.size [Value.int .u64 0, .int .u64 0, .int .u64 0, .int .u64 0, .int .i64 0, .string ⟨#[]⟩, .string ⟨#[]⟩, .string ⟨#[]⟩, .bool false] ∧ wb.heap.size < wc.heap.size) := ⟨A3, (show wb.heap.size < wc.heap.size by have h9 : wc.heap.size = wb.heap.size + 1 := Z3; omega)⟩
      clear A3 B3 Z3
      refine And.intro (fun _ => HAwc.out) ?_
      refine tr_one 11 rfl (by kernel_rfl) ?_
      go_wp2_with (first | refine blk_store rfl 123 _ _ rfl wb.heap.size rfl [Value.int .u64 (b0 : Int), .int .u64 (b1 : Int), .int .u64 (b2 : Int), .int .u64 (b3 : Int), .int .i64 e0, .string p1, .string p2, .string p3, .bool p4] rfl _ HXwc.out.1 rfl size_vW rfl ?_)
      intro wz A4 U4
      have hbz : w.heap.size + 1 < wb.heap.size := by first | exact HZ2.out | exact HZwa.out | exact HZwb.out | omega
      have HXd : Hid (Blk wz wb.heap.size [Value.int .u64 (b0 : Int), .int .u64 (b1 : Int), .int .u64 (b2 : Int), .int .u64 (b3 : Int), .int .i64 e0, .string p1, .string p2, .string p3, .bool p4]) := A4
      have HAd : Hid (Blk wz w.heap.size (ks .u64 at_)) := Blk.upd HAwc.out U4 (by omega)
      have HOd : Hid (Blk wz (w.heap.size + 1) [Value.int .u64 0, .int .u64 0, .int .u64 0, .int .u64 0, .int .i64 0]) := Blk.upd HOwc.out U4 (by omega)
      have HBd : Hid (Below w.heap.size w wz) := HBwc.out.trans (U4.below (by omega))
      clear A4 U4
      refine And.intro (fun _ => HAd.out) ?_
      refine tr_one 12 rfl (by kernel_rfl) ?_
      go_wp2_with fail
      refine And.intro (fun _ => HAd.out) ?_
      refine tr_end (by kernel_rfl) ?_
      have c7 := HXd.out.cell 7 _ rfl
      have c8 := HXd.out.cell 8 _ rfl
      have HSR : Hid (wz.drew.rangeAt wb.heap.size 0 [Value.int .u64 (b0 : Int), .int .u64 (b1 : Int), .int .u64 (b2 : Int), .int .u64 (b3 : Int), .int .i64 e0]) := preb (vs := [.string p1, .string p2, .string p3, .bool p4]) HXd.out.drew
      have HOdd : Hid (Blk wz.drew (w.heap.size + 1) [Value.int .u64 0, .int .u64 0, .int .u64 0, .int .u64 0, .int .i64 0]) := HOd.out.drew
      have HBdd : Hid (Below w.heap.size w wz.drew) := HBd.out.drew
      cases q with
      | false =>
        go_wp2_with fail
        refine region_tree (fun u => Blk u (wb.heap.size) [Value.int .u64 (b0 : Int), .int .u64 (b1 : Int), .int .u64 (b2 : Int), .int .u64 (b3 : Int), .int .i64 e0, .string p1, .string p2, .string p3, .bool p4]) 15 Try.mixed ?_
        refine tr_read 0 rfl (by kernel_rfl) HXd.out.drew ?_
        refine c_value rfl (.pointer (some ⟨wb.heap.size, 5, none⟩)) (fun u hu => by go_simp) (fun _ _ _ h => h) (fun K hK => ?_)
        go_simp
        refine hK _ ?_
        clear hK K
        refine c_nil ?_
        refine tr_read 1 rfl (by kernel_rfl) HXd.out.drew ?_
        refine c_value rfl (.pointer (some ⟨wb.heap.size, 7, none⟩)) (fun u hu => by go_simp) (fun _ _ _ h => h) (fun K hK => ?_)
        go_simp
        refine hK _ ?_
        clear hK K
        refine c_nil ?_
        refine tr_read 2 rfl (by kernel_rfl) HXd.out.drew ?_
        refine c_value rfl (.string p3) (fun u hu => by have hs := hu.cell 7 _ rfl; go_simp) (fun _ _ _ h => h) (fun K hK => ?_)
        go_simp
        refine hK _ ?_
        clear hK K
        refine c_nil ?_
        refine tr_read 3 rfl (by kernel_rfl) HXd.out.drew ?_
        refine c_value rfl (.pointer (some ⟨wb.heap.size, 0, none⟩)) (fun u hu => by go_simp) (fun _ _ _ h => h) (fun K hK => ?_)
        go_simp
        refine hK _ ?_
        clear hK K
        refine c_nil ?_
        refine tr_read 4 rfl (by kernel_rfl) HXd.out.drew ?_
        refine ct_mid_load rfl 35 _ rfl (wb.heap.size) 0 rfl [Value.int .u64 (b0 : Int), .int .u64 (b1 : Int), .int .u64 (b2 : Int), .int .u64 (b3 : Int), .int .i64 e0] (fun u hu => preb (vs := [.string p1, .string p2, .string p3, .bool p4]) hu) _ Try.underlying35 rfl Try.size_s (fun _ _ _ h => h) (fun K hK => ?_)
        go_simp
        refine hK _ ?_
        clear hK K
        refine c_nil ?_
        refine tr_read 5 rfl (by kernel_rfl) HXd.out.drew ?_
        refine c_move rfl _ rfl (.bool false) rfl (fun _ _ _ h => h) (fun K hK => ?_)
        go_simp
        refine hK _ ?_
        clear hK K
        refine c_nil ?_
        refine tr_read 6 rfl (by kernel_rfl) HXd.out.drew ?_
        refine c_move rfl _ rfl (.bool false) rfl (fun _ _ _ h => h) (fun K hK => ?_)
        go_simp
        refine hK _ ?_
        clear hK K
        refine c_nil ?_
        refine tr_read 7 rfl (by kernel_rfl) HXd.out.drew ?_
        refine c_skip (by rfl) (fun _ _ _ h => h) (fun K hK => ?_)
        go_simp
        refine hK _ ?_
        clear hK K
        refine c_nil ?_
        refine tr_read 8 rfl (by kernel_rfl) HXd.out.drew ?_
        refine c_skip (by rfl) (fun _ _ _ h => h) (fun K hK => ?_)
        go_simp
        refine hK _ ?_
        clear hK K
        refine c_nil ?_
        refine tr_read 9 rfl (by kernel_rfl) HXd.out.drew ?_
        refine c_skip (by rfl) (fun _ _ _ h => h) (fun K hK => ?_)
        go_simp
        refine hK _ ?_
        clear hK K
        refine c_nil ?_
        refine tr_read 10 rfl (by kernel_rfl) HXd.out.drew ?_
        refine c_skip (by rfl) (fun _ _ _ h => h) (fun K hK => ?_)
        go_simp
        refine hK _ ?_
        clear hK K
        refine c_nil ?_
        refine tr_read 11 rfl (by kernel_rfl) HXd.out.drew ?_
        refine c_value rfl (.bool false) (fun u hu => by go_simp) (fun _ _ _ h => h) (fun K hK => ?_)
        go_simp
        refine hK _ ?_
        clear hK K
        refine c_nil ?_
        refine tr_one 12 rfl (by kernel_rfl) ?_
        go_wp2_with fail
        refine And.intro (fun _ => HXd.out.drew) ?_
        refine tr_one 13 rfl (by kernel_rfl) ?_
        go_wp2_with (first | refine blk_store rfl 35 _ _ rfl (w.heap.size + 1) rfl [Value.int .u64 (b0 : Int), .int .u64 (b1 : Int), .int .u64 (b2 : Int), .int .u64 (b3 : Int), .int .i64 e0] rfl _ HOdd.out rfl Try.size_s rfl ?_)
        intro we A5 U5
        have HE5 := Lib.hid A5
        have HBe : Hid (Below w.heap.size w we) := HBdd.out.trans (U5.below (by omega))
        have HXe : Hid (Blk we (wb.heap.size) [Value.int .u64 (b0 : Int), .int .u64 (b1 : Int), .int .u64 (b2 : Int), .int .u64 (b3 : Int), .int .i64 e0, .string p1, .string p2, .string p3, .bool p4]) := Blk.upd HXd.out.drew U5 (by omega)
        clear A5 U5
        refine And.intro (fun _ => HXe.out) ?_
        refine tr_one 14 rfl (by kernel_rfl) ?_
        go_wp2_with fail
        refine And.intro (fun _ => HXe.out) ?_
        refine tr_end (by kernel_rfl) ?_
        go_wp2_with fail
        refine bodyPost_ret (v := .tuple #[.string p3, .agg [Value.int .u64 (b0 : Int), .int .u64 (b1 : Int), .int .u64 (b2 : Int), .int .u64 (b3 : Int), .int .i64 e0].toArray, .bool (false && !p4)]) ?_ rfl ⟨rfl, HBe.out⟩
        exact res_tct (t := 35) Try.results22 _ (w.heap.size + 1) rfl [Value.int .u64 (b0 : Int), .int .u64 (b1 : Int), .int .u64 (b2 : Int), .int .u64 (b3 : Int), .int .i64 e0] HE5.out _ Try.underlying35 rfl Try.size_s
      | true =>
        go_wp2_with fail
        refine region_tree (fun u => Blk u (wb.heap.size) [Value.int .u64 (b0 : Int), .int .u64 (b1 : Int), .int .u64 (b2 : Int), .int .u64 (b3 : Int), .int .i64 e0, .string p1, .string p2, .string p3, .bool p4]) 15 Try.mixed ?_
        refine tr_read 0 rfl (by kernel_rfl) HXd.out.drew ?_
        refine c_value rfl (.pointer (some ⟨wb.heap.size, 5, none⟩)) (fun u hu => by go_simp) (fun _ _ _ h => h) (fun K hK => ?_)
        go_simp
        refine hK _ ?_
        clear hK K
        refine c_nil ?_
        refine tr_read 1 rfl (by kernel_rfl) HXd.out.drew ?_
        refine c_value rfl (.pointer (some ⟨wb.heap.size, 7, none⟩)) (fun u hu => by go_simp) (fun _ _ _ h => h) (fun K hK => ?_)
        go_simp
        refine hK _ ?_
        clear hK K
        refine c_nil ?_
        refine tr_read 2 rfl (by kernel_rfl) HXd.out.drew ?_
        refine c_value rfl (.string p3) (fun u hu => by have hs := hu.cell 7 _ rfl; go_simp) (fun _ _ _ h => h) (fun K hK => ?_)
        go_simp
        refine hK _ ?_
        clear hK K
        refine c_nil ?_
        refine tr_read 3 rfl (by kernel_rfl) HXd.out.drew ?_
        refine c_value rfl (.pointer (some ⟨wb.heap.size, 0, none⟩)) (fun u hu => by go_simp) (fun _ _ _ h => h) (fun K hK => ?_)
        go_simp
        refine hK _ ?_
        clear hK K
        refine c_nil ?_
        refine tr_read 4 rfl (by kernel_rfl) HXd.out.drew ?_
        refine ct_mid_load rfl 35 _ rfl (wb.heap.size) 0 rfl [Value.int .u64 (b0 : Int), .int .u64 (b1 : Int), .int .u64 (b2 : Int), .int .u64 (b3 : Int), .int .i64 e0] (fun u hu => preb (vs := [.string p1, .string p2, .string p3, .bool p4]) hu) _ Try.underlying35 rfl Try.size_s (fun _ _ _ h => h) (fun K hK => ?_)
        go_simp
        refine hK _ ?_
        clear hK K
        refine c_nil ?_
        refine tr_read 5 rfl (by kernel_rfl) HXd.out.drew ?_
        refine c_move rfl _ rfl (.bool true) rfl (fun _ _ _ h => h) (fun K hK => ?_)
        go_simp
        refine hK _ ?_
        clear hK K
        refine c_nil ?_
        refine tr_read 6 rfl (by kernel_rfl) HXd.out.drew ?_
        refine c_move rfl _ rfl (.bool true) rfl (fun _ _ _ h => h) (fun K hK => ?_)
        go_simp
        refine hK _ ?_
        clear hK K
        refine c_nil ?_
        refine tr_read 7 rfl (by kernel_rfl) HXd.out.drew ?_
        refine cg_value (by rfl) (.pointer (some ⟨wb.heap.size, 5, none⟩)) (fun u hu => by go_simp) (fun _ _ _ h => h) (fun K hK => ?_)
        go_simp
        refine hK _ ?_
        clear hK K
        refine c_nil ?_
        refine tr_read 8 rfl (by kernel_rfl) HXd.out.drew ?_
        refine cg_value (by rfl) (.pointer (some ⟨wb.heap.size, 8, none⟩)) (fun u hu => by go_simp) (fun _ _ _ h => h) (fun K hK => ?_)
        go_simp
        refine hK _ ?_
        clear hK K
        refine c_nil ?_
        refine tr_read 9 rfl (by kernel_rfl) HXd.out.drew ?_
        refine cg_value (by rfl) (.bool p4) (fun u hu => by have hs := hu.cell 8 _ rfl; go_simp) (fun _ _ _ h => h) (fun K hK => ?_)
        go_simp
        refine hK _ ?_
        clear hK K
        refine c_nil ?_
        refine tr_read 10 rfl (by kernel_rfl) HXd.out.drew ?_
        refine cg_value (by rfl) (.bool (!p4)) (fun u hu => by go_simp) (fun _ _ _ h => h) (fun K hK => ?_)
        go_simp
        refine hK _ ?_
        clear hK K
        refine c_nil ?_
        refine tr_read 11 rfl (by kernel_rfl) HXd.out.drew ?_
        refine c_value rfl (.bool (!p4)) (fun u hu => by go_simp) (fun _ _ _ h => h) (fun K hK => ?_)
        go_simp
        refine hK _ ?_
        clear hK K
        refine c_nil ?_
        refine tr_one 12 rfl (by kernel_rfl) ?_
        go_wp2_with fail
        refine And.intro (fun _ => HXd.out.drew) ?_
        refine tr_one 13 rfl (by kernel_rfl) ?_
        go_wp2_with (first | refine blk_store rfl 35 _ _ rfl (w.heap.size + 1) rfl [Value.int .u64 (b0 : Int), .int .u64 (b1 : Int), .int .u64 (b2 : Int), .int .u64 (b3 : Int), .int .i64 e0] rfl _ HOdd.out rfl Try.size_s rfl ?_)
        intro we A5 U5
        have HE5 := Lib.hid A5
        have HBe : Hid (Below w.heap.size w we) := HBdd.out.trans (U5.below (by omega))
        have HXe : Hid (Blk we (wb.heap.size) [Value.int .u64 (b0 : Int), .int .u64 (b1 : Int), .int .u64 (b2 : Int), .int .u64 (b3 : Int), .int .i64 e0, .string p1, .string p2, .string p3, .bool p4]) := Blk.upd HXd.out.drew U5 (by omega)
        clear A5 U5
        refine And.intro (fun _ => HXe.out) ?_
        refine tr_one 14 rfl (by kernel_rfl) ?_
        go_wp2_with fail
        refine And.intro (fun _ => HXe.out) ?_
        refine tr_end (by kernel_rfl) ?_
        go_wp2_with fail
        refine bodyPost_ret (v := .tuple #[.string p3, .agg [Value.int .u64 (b0 : Int), .int .u64 (b1 : Int), .int .u64 (b2 : Int), .int .u64 (b3 : Int), .int .i64 e0].toArray, .bool (true && !p4)]) ?_ rfl ⟨rfl, HBe.out⟩
        exact res_tct (t := 35) Try.results22 _ (w.heap.size + 1) rfl [Value.int .u64 (b0 : Int), .int .u64 (b1 : Int), .int .u64 (b2 : Int), .int .u64 (b3 : Int), .int .i64 e0] HE5.out _ Try.underlying35 rfl Try.size_s
    · skip
      go_wp2_with (first | refine blk_alloc rfl 123 [Value.int .u64 0, .int .u64 0, .int .u64 0, .int .u64 0, .int .i64 0, .string ⟨#[]⟩, .string ⟨#[]⟩, .string ⟨#[]⟩, .bool false] rfl info_vW ?_)
      intro wb A3 B3 Z3
      have HBwb : Hid (Below w.heap.size w wb) := Below.trans HBwa.out (B3.mono HBwa.out.size)
      have HAwb : Hid (Blk wb w.heap.size (ks .u64 at_)) := Blk.below HAwa.out B3 (by have := HZwa.out; omega)
      have HOwb : Hid (Blk wb (w.heap.size + 1) [Value.int .u64 0, .int .u64 0, .int .u64 0, .int .u64 0, .int .i64 0]) := Blk.below HOwa.out B3 HZwa.out
      have HZwb : Hid (w.heap.size + 1 < wb.heap.size) := Nat.lt_of_lt_of_le HZwa.out B3.size
      have HXwb : Hid (Blk wb wa.heap.size [Value.int .u64 0, .int .u64 0, .int .u64 0, .int .u64 0, .int .i64 0, .string ⟨#[]⟩, .string ⟨#[]⟩, .string ⟨#[]⟩, .bool false] ∧ wa.heap.size < wb.heap.size) := ⟨A3, (show wa.heap.size < wb.heap.size by have h9 : wb.heap.size = wa.heap.size + 1 := Z3; omega)⟩
      have HCwb := Lib.hid (HCwa.out.below B3)
      clear A3 B3 Z3
      refine And.intro (fun _ => HAwb.out) ?_
      refine tr_one 6 rfl (by kernel_rfl) ?_
      go_wp2_with (first | (go_at_call 56; refine Calls.mono (CR.out _ _ _ HCwb.out) ?_; rintro e wc ⟨rfl, hb⟩))
      have HBwc : Hid (Below w.heap.size w wc) := Below.trans HBwb.out (hb.mono HBwb.out.size)
      have HAwc : Hid (Blk wc w.heap.size (ks .u64 at_)) := Blk.below HAwb.out hb (by have := HZwb.out; omega)
      have HOwc : Hid (Blk wc (w.heap.size + 1) [Value.int .u64 0, .int .u64 0, .int .u64 0, .int .u64 0, .int .i64 0]) := Blk.below HOwb.out hb HZwb.out
      have HZwc : Hid (w.heap.size + 1 < wc.heap.size) := Nat.lt_of_lt_of_le HZwb.out hb.size
      have HXwc : Hid (Blk wc wa.heap.size [Value.int .u64 0, .int .u64 0, .int .u64 0, .int .u64 0, .int .i64 0, .string ⟨#[]⟩, .string ⟨#[]⟩, .string ⟨#[]⟩, .bool false] ∧ wa.heap.size < wc.heap.size) := ⟨Blk.below HXwb.out.1 hb HXwb.out.2, Nat.lt_of_lt_of_le HXwb.out.2 hb.size⟩
      clear hb
      refine And.intro (fun _ => HAwc.out) ?_
      refine tr_read 7 rfl (by kernel_rfl) HAwc.out ?_
      refine c_move rfl _ rfl (.tuple #[.agg [Value.int .u64 (b0 : Int), .int .u64 (b1 : Int), .int .u64 (b2 : Int), .int .u64 (b3 : Int), .int .i64 e0, .string p1, .string p2, .string p3, .bool p4].toArray, .bool q]) rfl (fun _ _ _ h => h) (fun K hK => ?_)
      go_simp
      refine hK _ ?_
      clear hK K
      refine c_nil ?_
      refine tr_read 8 rfl (by kernel_rfl) HAwc.out ?_
      refine c_value rfl (.agg [Value.int .u64 (b0 : Int), .int .u64 (b1 : Int), .int .u64 (b2 : Int), .int .u64 (b3 : Int), .int .i64 e0, .string p1, .string p2, .string p3, .bool p4].toArray) (fun u hu => by go_simp) (fun _ _ _ h => h) (fun K hK => ?_)
      go_simp
      refine hK _ ?_
      clear hK K
      refine c_nil ?_
      refine tr_read 9 rfl (by kernel_rfl) HAwc.out ?_
      refine c_value rfl (.bool q) (fun u hu => by go_simp) (fun _ _ _ h => h) (fun K hK => ?_)
      go_simp
      refine hK _ ?_
      clear hK K
      refine c_nil ?_
      refine tr_one 11 rfl (by kernel_rfl) ?_
      go_wp2_with (first | refine blk_store rfl 123 _ _ rfl wa.heap.size rfl [Value.int .u64 (b0 : Int), .int .u64 (b1 : Int), .int .u64 (b2 : Int), .int .u64 (b3 : Int), .int .i64 e0, .string p1, .string p2, .string p3, .bool p4] rfl _ HXwc.out.1 rfl size_vW rfl ?_)
      intro wz A4 U4
      have hbz : w.heap.size + 1 < wa.heap.size := by first | exact HZ2.out | exact HZwa.out | exact HZwb.out | omega
      have HXd : Hid (Blk wz wa.heap.size [Value.int .u64 (b0 : Int), .int .u64 (b1 : Int), .int .u64 (b2 : Int), .int .u64 (b3 : Int), .int .i64 e0, .string p1, .string p2, .string p3, .bool p4]) := A4
      have HAd : Hid (Blk wz w.heap.size (ks .u64 at_)) := Blk.upd HAwc.out U4 (by omega)
      have HOd : Hid (Blk wz (w.heap.size + 1) [Value.int .u64 0, .int .u64 0, .int .u64 0, .int .u64 0, .int .i64 0]) := Blk.upd HOwc.out U4 (by omega)
      have HBd : Hid (Below w.heap.size w wz) := HBwc.out.trans (U4.below (by omega))
      clear A4 U4
      refine And.intro (fun _ => HAd.out) ?_
      refine tr_one 12 rfl (by kernel_rfl) ?_
      go_wp2_with fail
      refine And.intro (fun _ => HAd.out) ?_
      refine tr_end (by kernel_rfl) ?_
      have c7 := HXd.out.cell 7 _ rfl
      have c8 := HXd.out.cell 8 _ rfl
      have HSR : Hid (wz.drew.rangeAt wa.heap.size 0 [Value.int .u64 (b0 : Int), .int .u64 (b1 : Int), .int .u64 (b2 : Int), .int .u64 (b3 : Int), .int .i64 e0]) := preb (vs := [.string p1, .string p2, .string p3, .bool p4]) HXd.out.drew
      have HOdd : Hid (Blk wz.drew (w.heap.size + 1) [Value.int .u64 0, .int .u64 0, .int .u64 0, .int .u64 0, .int .i64 0]) := HOd.out.drew
      have HBdd : Hid (Below w.heap.size w wz.drew) := HBd.out.drew
      cases q with
      | false =>
        go_wp2_with fail
        refine region_tree (fun u => Blk u (wa.heap.size) [Value.int .u64 (b0 : Int), .int .u64 (b1 : Int), .int .u64 (b2 : Int), .int .u64 (b3 : Int), .int .i64 e0, .string p1, .string p2, .string p3, .bool p4]) 15 Try.mixed ?_
        refine tr_read 0 rfl (by kernel_rfl) HXd.out.drew ?_
        refine c_value rfl (.pointer (some ⟨wa.heap.size, 5, none⟩)) (fun u hu => by go_simp) (fun _ _ _ h => h) (fun K hK => ?_)
        go_simp
        refine hK _ ?_
        clear hK K
        refine c_nil ?_
        refine tr_read 1 rfl (by kernel_rfl) HXd.out.drew ?_
        refine c_value rfl (.pointer (some ⟨wa.heap.size, 7, none⟩)) (fun u hu => by go_simp) (fun _ _ _ h => h) (fun K hK => ?_)
        go_simp
        refine hK _ ?_
        clear hK K
        refine c_nil ?_
        refine tr_read 2 rfl (by kernel_rfl) HXd.out.drew ?_
        refine c_value rfl (.string p3) (fun u hu => by have hs := hu.cell 7 _ rfl; go_simp) (fun _ _ _ h => h) (fun K hK => ?_)
        go_simp
        refine hK _ ?_
        clear hK K
        refine c_nil ?_
        refine tr_read 3 rfl (by kernel_rfl) HXd.out.drew ?_
        refine c_value rfl (.pointer (some ⟨wa.heap.size, 0, none⟩)) (fun u hu => by go_simp) (fun _ _ _ h => h) (fun K hK => ?_)
        go_simp
        refine hK _ ?_
        clear hK K
        refine c_nil ?_
        refine tr_read 4 rfl (by kernel_rfl) HXd.out.drew ?_
        refine ct_mid_load rfl 35 _ rfl (wa.heap.size) 0 rfl [Value.int .u64 (b0 : Int), .int .u64 (b1 : Int), .int .u64 (b2 : Int), .int .u64 (b3 : Int), .int .i64 e0] (fun u hu => preb (vs := [.string p1, .string p2, .string p3, .bool p4]) hu) _ Try.underlying35 rfl Try.size_s (fun _ _ _ h => h) (fun K hK => ?_)
        go_simp
        refine hK _ ?_
        clear hK K
        refine c_nil ?_
        refine tr_read 5 rfl (by kernel_rfl) HXd.out.drew ?_
        refine c_move rfl _ rfl (.bool false) rfl (fun _ _ _ h => h) (fun K hK => ?_)
        go_simp
        refine hK _ ?_
        clear hK K
        refine c_nil ?_
        refine tr_read 6 rfl (by kernel_rfl) HXd.out.drew ?_
        refine c_move rfl _ rfl (.bool false) rfl (fun _ _ _ h => h) (fun K hK => ?_)
        go_simp
        refine hK _ ?_
        clear hK K
        refine c_nil ?_
        refine tr_read 7 rfl (by kernel_rfl) HXd.out.drew ?_
        refine c_skip (by rfl) (fun _ _ _ h => h) (fun K hK => ?_)
        go_simp
        refine hK _ ?_
        clear hK K
        refine c_nil ?_
        refine tr_read 8 rfl (by kernel_rfl) HXd.out.drew ?_
        refine c_skip (by rfl) (fun _ _ _ h => h) (fun K hK => ?_)
        go_simp
        refine hK _ ?_
        clear hK K
        refine c_nil ?_
        refine tr_read 9 rfl (by kernel_rfl) HXd.out.drew ?_
        refine c_skip (by rfl) (fun _ _ _ h => h) (fun K hK => ?_)
        go_simp
        refine hK _ ?_
        clear hK K
        refine c_nil ?_
        refine tr_read 10 rfl (by kernel_rfl) HXd.out.drew ?_
        refine c_skip (by rfl) (fun _ _ _ h => h) (fun K hK => ?_)
        go_simp
        refine hK _ ?_
        clear hK K
        refine c_nil ?_
        refine tr_read 11 rfl (by kernel_rfl) HXd.out.drew ?_
        refine c_value rfl (.bool false) (fun u hu => by go_simp) (fun _ _ _ h => h) (fun K hK => ?_)
        go_simp
        refine hK _ ?_
        clear hK K
        refine c_nil ?_
        refine tr_one 12 rfl (by kernel_rfl) ?_
        go_wp2_with fail
        refine And.intro (fun _ => HXd.out.drew) ?_
        refine tr_one 13 rfl (by kernel_rfl) ?_
        go_wp2_with (first | refine blk_store rfl 35 _ _ rfl (w.heap.size + 1) rfl [Value.int .u64 (b0 : Int), .int .u64 (b1 : Int), .int .u64 (b2 : Int), .int .u64 (b3 : Int), .int .i64 e0] rfl _ HOdd.out rfl Try.size_s rfl ?_)
        intro we A5 U5
        have HE5 := Lib.hid A5
        have HBe : Hid (Below w.heap.size w we) := HBdd.out.trans (U5.below (by omega))
        have HXe : Hid (Blk we (wa.heap.size) [Value.int .u64 (b0 : Int), .int .u64 (b1 : Int), .int .u64 (b2 : Int), .int .u64 (b3 : Int), .int .i64 e0, .string p1, .string p2, .string p3, .bool p4]) := Blk.upd HXd.out.drew U5 (by omega)
        clear A5 U5
        refine And.intro (fun _ => HXe.out) ?_
        refine tr_one 14 rfl (by kernel_rfl) ?_
        go_wp2_with fail
        refine And.intro (fun _ => HXe.out) ?_
        refine tr_end (by kernel_rfl) ?_
        go_wp2_with fail
        refine bodyPost_ret (v := .tuple #[.string p3, .agg [Value.int .u64 (b0 : Int), .int .u64 (b1 : Int), .int .u64 (b2 : Int), .int .u64 (b3 : Int), .int .i64 e0].toArray, .bool (false && !p4)]) ?_ rfl ⟨rfl, HBe.out⟩
        exact res_tct (t := 35) Try.results22 _ (w.heap.size + 1) rfl [Value.int .u64 (b0 : Int), .int .u64 (b1 : Int), .int .u64 (b2 : Int), .int .u64 (b3 : Int), .int .i64 e0] HE5.out _ Try.underlying35 rfl Try.size_s
      | true =>
        go_wp2_with fail
        refine region_tree (fun u => Blk u (wa.heap.size) [Value.int .u64 (b0 : Int), .int .u64 (b1 : Int), .int .u64 (b2 : Int), .int .u64 (b3 : Int), .int .i64 e0, .string p1, .string p2, .string p3, .bool p4]) 15 Try.mixed ?_
        refine tr_read 0 rfl (by kernel_rfl) HXd.out.drew ?_
        refine c_value rfl (.pointer (some ⟨wa.heap.size, 5, none⟩)) (fun u hu => by go_simp) (fun _ _ _ h => h) (fun K hK => ?_)
        go_simp
        refine hK _ ?_
        clear hK K
        refine c_nil ?_
        refine tr_read 1 rfl (by kernel_rfl) HXd.out.drew ?_
        refine c_value rfl (.pointer (some ⟨wa.heap.size, 7, none⟩)) (fun u hu => by go_simp) (fun _ _ _ h => h) (fun K hK => ?_)
        go_simp
        refine hK _ ?_
        clear hK K
        refine c_nil ?_
        refine tr_read 2 rfl (by kernel_rfl) HXd.out.drew ?_
        refine c_value rfl (.string p3) (fun u hu => by have hs := hu.cell 7 _ rfl; go_simp) (fun _ _ _ h => h) (fun K hK => ?_)
        go_simp
        refine hK _ ?_
        clear hK K
        refine c_nil ?_
        refine tr_read 3 rfl (by kernel_rfl) HXd.out.drew ?_
        refine c_value rfl (.pointer (some ⟨wa.heap.size, 0, none⟩)) (fun u hu => by go_simp) (fun _ _ _ h => h) (fun K hK => ?_)
        go_simp
        refine hK _ ?_
        clear hK K
        refine c_nil ?_
        refine tr_read 4 rfl (by kernel_rfl) HXd.out.drew ?_
        refine ct_mid_load rfl 35 _ rfl (wa.heap.size) 0 rfl [Value.int .u64 (b0 : Int), .int .u64 (b1 : Int), .int .u64 (b2 : Int), .int .u64 (b3 : Int), .int .i64 e0] (fun u hu => preb (vs := [.string p1, .string p2, .string p3, .bool p4]) hu) _ Try.underlying35 rfl Try.size_s (fun _ _ _ h => h) (fun K hK => ?_)
        go_simp
        refine hK _ ?_
        clear hK K
        refine c_nil ?_
        refine tr_read 5 rfl (by kernel_rfl) HXd.out.drew ?_
        refine c_move rfl _ rfl (.bool true) rfl (fun _ _ _ h => h) (fun K hK => ?_)
        go_simp
        refine hK _ ?_
        clear hK K
        refine c_nil ?_
        refine tr_read 6 rfl (by kernel_rfl) HXd.out.drew ?_
        refine c_move rfl _ rfl (.bool true) rfl (fun _ _ _ h => h) (fun K hK => ?_)
        go_simp
        refine hK _ ?_
        clear hK K
        refine c_nil ?_
        refine tr_read 7 rfl (by kernel_rfl) HXd.out.drew ?_
        refine cg_value (by rfl) (.pointer (some ⟨wa.heap.size, 5, none⟩)) (fun u hu => by go_simp) (fun _ _ _ h => h) (fun K hK => ?_)
        go_simp
        refine hK _ ?_
        clear hK K
        refine c_nil ?_
        refine tr_read 8 rfl (by kernel_rfl) HXd.out.drew ?_
        refine cg_value (by rfl) (.pointer (some ⟨wa.heap.size, 8, none⟩)) (fun u hu => by go_simp) (fun _ _ _ h => h) (fun K hK => ?_)
        go_simp
        refine hK _ ?_
        clear hK K
        refine c_nil ?_
        refine tr_read 9 rfl (by kernel_rfl) HXd.out.drew ?_
        refine cg_value (by rfl) (.bool p4) (fun u hu => by have hs := hu.cell 8 _ rfl; go_simp) (fun _ _ _ h => h) (fun K hK => ?_)
        go_simp
        refine hK _ ?_
        clear hK K
        refine c_nil ?_
        refine tr_read 10 rfl (by kernel_rfl) HXd.out.drew ?_
        refine cg_value (by rfl) (.bool (!p4)) (fun u hu => by go_simp) (fun _ _ _ h => h) (fun K hK => ?_)
        go_simp
        refine hK _ ?_
        clear hK K
        refine c_nil ?_
        refine tr_read 11 rfl (by kernel_rfl) HXd.out.drew ?_
        refine c_value rfl (.bool (!p4)) (fun u hu => by go_simp) (fun _ _ _ h => h) (fun K hK => ?_)
        go_simp
        refine hK _ ?_
        clear hK K
        refine c_nil ?_
        refine tr_one 12 rfl (by kernel_rfl) ?_
        go_wp2_with fail
        refine And.intro (fun _ => HXd.out.drew) ?_
        refine tr_one 13 rfl (by kernel_rfl) ?_
        go_wp2_with (first | refine blk_store rfl 35 _ _ rfl (w.heap.size + 1) rfl [Value.int .u64 (b0 : Int), .int .u64 (b1 : Int), .int .u64 (b2 : Int), .int .u64 (b3 : Int), .int .i64 e0] rfl _ HOdd.out rfl Try.size_s rfl ?_)
        intro we A5 U5
        have HE5 := Lib.hid A5
        have HBe : Hid (Below w.heap.size w we) := HBdd.out.trans (U5.below (by omega))
        have HXe : Hid (Blk we (wa.heap.size) [Value.int .u64 (b0 : Int), .int .u64 (b1 : Int), .int .u64 (b2 : Int), .int .u64 (b3 : Int), .int .i64 e0, .string p1, .string p2, .string p3, .bool p4]) := Blk.upd HXd.out.drew U5 (by omega)
        clear A5 U5
        refine And.intro (fun _ => HXe.out) ?_
        refine tr_one 14 rfl (by kernel_rfl) ?_
        go_wp2_with fail
        refine And.intro (fun _ => HXe.out) ?_
        refine tr_end (by kernel_rfl) ?_
        go_wp2_with fail
        refine bodyPost_ret (v := .tuple #[.string p3, .agg [Value.int .u64 (b0 : Int), .int .u64 (b1 : Int), .int .u64 (b2 : Int), .int .u64 (b3 : Int), .int .i64 e0].toArray, .bool (true && !p4)]) ?_ rfl ⟨rfl, HBe.out⟩
        exact res_tct (t := 35) Try.results22 _ (w.heap.size + 1) rfl [Value.int .u64 (b0 : Int), .int .u64 (b1 : Int), .int .u64 (b2 : Int), .int .u64 (b3 : Int), .int .i64 e0] HE5.out _ Try.underlying35 rfl Try.size_s
  · skip
    go_wp2_with (first | refine blk_alloc rfl 123 [Value.int .u64 0, .int .u64 0, .int .u64 0, .int .u64 0, .int .i64 0, .string ⟨#[]⟩, .string ⟨#[]⟩, .string ⟨#[]⟩, .bool false] rfl info_vW ?_)
    intro wa A3 B3 Z3
    have HBwa : Hid (Below w.heap.size w wa) := Below.trans HB2d.out (B3.mono HB2d.out.size)
    have HAwa : Hid (Blk wa w.heap.size (ks .u64 at_)) := Blk.below HA2d.out B3 (by have := HZ2d.out; omega)
    have HOwa : Hid (Blk wa (w.heap.size + 1) [Value.int .u64 0, .int .u64 0, .int .u64 0, .int .u64 0, .int .i64 0]) := Blk.below HO2d.out B3 HZ2d.out
    have HZwa : Hid (w.heap.size + 1 < wa.heap.size) := Nat.lt_of_lt_of_le HZ2d.out B3.size
    have HXwa : Hid (Blk wa w2.heap.size [Value.int .u64 0, .int .u64 0, .int .u64 0, .int .u64 0, .int .i64 0, .string ⟨#[]⟩, .string ⟨#[]⟩, .string ⟨#[]⟩, .bool false] ∧ w2.heap.size < wa.heap.size) := ⟨A3, (show w2.heap.size < wa.heap.size by have h9 : wa.heap.size = w2.heap.size + 1 := Z3; omega)⟩
    clear A3 B3 Z3
    refine And.intro (fun _ => HAwa.out) ?_
    refine tr_one 4 rfl (by kernel_rfl) ?_
    go_wp2_with (first | (go_at_call 55; refine Calls.mono (CF.out _ HBwa.out) ?_; rintro e wb ⟨c, v, rfl, hc, hb⟩))
    have HCwb := Lib.hid hc
    have HBwb : Hid (Below w.heap.size w wb) := Below.trans HBwa.out (hb.mono HBwa.out.size)
    have HAwb : Hid (Blk wb w.heap.size (ks .u64 at_)) := Blk.below HAwa.out hb (by have := HZwa.out; omega)
    have HOwb : Hid (Blk wb (w.heap.size + 1) [Value.int .u64 0, .int .u64 0, .int .u64 0, .int .u64 0, .int .i64 0]) := Blk.below HOwa.out hb HZwa.out
    have HZwb : Hid (w.heap.size + 1 < wb.heap.size) := Nat.lt_of_lt_of_le HZwa.out hb.size
    have HXwb : Hid (Blk wb w2.heap.size [Value.int .u64 0, .int .u64 0, .int .u64 0, .int .u64 0, .int .i64 0, .string ⟨#[]⟩, .string ⟨#[]⟩, .string ⟨#[]⟩, .bool false] ∧ w2.heap.size < wb.heap.size) := ⟨Blk.below HXwa.out.1 hb HXwa.out.2, Nat.lt_of_lt_of_le HXwa.out.2 hb.size⟩
    clear hc hb
    refine And.intro (fun _ => HAwb.out) ?_
    refine tr_one 6 rfl (by kernel_rfl) ?_
    go_wp2_with (first | (go_at_call 56; refine Calls.mono (CR.out _ _ _ HCwb.out) ?_; rintro e wc ⟨rfl, hb⟩))
    have HBwc : Hid (Below w.heap.size w wc) := Below.trans HBwb.out (hb.mono HBwb.out.size)
    have HAwc : Hid (Blk wc w.heap.size (ks .u64 at_)) := Blk.below HAwb.out hb (by have := HZwb.out; omega)
    have HOwc : Hid (Blk wc (w.heap.size + 1) [Value.int .u64 0, .int .u64 0, .int .u64 0, .int .u64 0, .int .i64 0]) := Blk.below HOwb.out hb HZwb.out
    have HZwc : Hid (w.heap.size + 1 < wc.heap.size) := Nat.lt_of_lt_of_le HZwb.out hb.size
    have HXwc : Hid (Blk wc w2.heap.size [Value.int .u64 0, .int .u64 0, .int .u64 0, .int .u64 0, .int .i64 0, .string ⟨#[]⟩, .string ⟨#[]⟩, .string ⟨#[]⟩, .bool false] ∧ w2.heap.size < wc.heap.size) := ⟨Blk.below HXwb.out.1 hb HXwb.out.2, Nat.lt_of_lt_of_le HXwb.out.2 hb.size⟩
    clear hb
    refine And.intro (fun _ => HAwc.out) ?_
    refine tr_read 7 rfl (by kernel_rfl) HAwc.out ?_
    refine c_move rfl _ rfl (.tuple #[.agg [Value.int .u64 (b0 : Int), .int .u64 (b1 : Int), .int .u64 (b2 : Int), .int .u64 (b3 : Int), .int .i64 e0, .string p1, .string p2, .string p3, .bool p4].toArray, .bool q]) rfl (fun _ _ _ h => h) (fun K hK => ?_)
    go_simp
    refine hK _ ?_
    clear hK K
    refine c_nil ?_
    refine tr_read 8 rfl (by kernel_rfl) HAwc.out ?_
    refine c_value rfl (.agg [Value.int .u64 (b0 : Int), .int .u64 (b1 : Int), .int .u64 (b2 : Int), .int .u64 (b3 : Int), .int .i64 e0, .string p1, .string p2, .string p3, .bool p4].toArray) (fun u hu => by go_simp) (fun _ _ _ h => h) (fun K hK => ?_)
    go_simp
    refine hK _ ?_
    clear hK K
    refine c_nil ?_
    refine tr_read 9 rfl (by kernel_rfl) HAwc.out ?_
    refine c_value rfl (.bool q) (fun u hu => by go_simp) (fun _ _ _ h => h) (fun K hK => ?_)
    go_simp
    refine hK _ ?_
    clear hK K
    refine c_nil ?_
    refine tr_one 11 rfl (by kernel_rfl) ?_
    go_wp2_with (first | refine blk_store rfl 123 _ _ rfl w2.heap.size rfl [Value.int .u64 (b0 : Int), .int .u64 (b1 : Int), .int .u64 (b2 : Int), .int .u64 (b3 : Int), .int .i64 e0, .string p1, .string p2, .string p3, .bool p4] rfl _ HXwc.out.1 rfl size_vW rfl ?_)
    intro wz A4 U4
    have hbz : w.heap.size + 1 < w2.heap.size := by first | exact HZ2.out | exact HZwa.out | exact HZwb.out | omega
    have HXd : Hid (Blk wz w2.heap.size [Value.int .u64 (b0 : Int), .int .u64 (b1 : Int), .int .u64 (b2 : Int), .int .u64 (b3 : Int), .int .i64 e0, .string p1, .string p2, .string p3, .bool p4]) := A4
    have HAd : Hid (Blk wz w.heap.size (ks .u64 at_)) := Blk.upd HAwc.out U4 (by omega)
    have HOd : Hid (Blk wz (w.heap.size + 1) [Value.int .u64 0, .int .u64 0, .int .u64 0, .int .u64 0, .int .i64 0]) := Blk.upd HOwc.out U4 (by omega)
    have HBd : Hid (Below w.heap.size w wz) := HBwc.out.trans (U4.below (by omega))
    clear A4 U4
    refine And.intro (fun _ => HAd.out) ?_
    refine tr_one 12 rfl (by kernel_rfl) ?_
    go_wp2_with fail
    refine And.intro (fun _ => HAd.out) ?_
    refine tr_end (by kernel_rfl) ?_
    have c7 := HXd.out.cell 7 _ rfl
    have c8 := HXd.out.cell 8 _ rfl
    have HSR : Hid (wz.drew.rangeAt w2.heap.size 0 [Value.int .u64 (b0 : Int), .int .u64 (b1 : Int), .int .u64 (b2 : Int), .int .u64 (b3 : Int), .int .i64 e0]) := preb (vs := [.string p1, .string p2, .string p3, .bool p4]) HXd.out.drew
    have HOdd : Hid (Blk wz.drew (w.heap.size + 1) [Value.int .u64 0, .int .u64 0, .int .u64 0, .int .u64 0, .int .i64 0]) := HOd.out.drew
    have HBdd : Hid (Below w.heap.size w wz.drew) := HBd.out.drew
    cases q with
    | false =>
      go_wp2_with fail
      refine region_tree (fun u => Blk u (w2.heap.size) [Value.int .u64 (b0 : Int), .int .u64 (b1 : Int), .int .u64 (b2 : Int), .int .u64 (b3 : Int), .int .i64 e0, .string p1, .string p2, .string p3, .bool p4]) 15 Try.mixed ?_
      refine tr_read 0 rfl (by kernel_rfl) HXd.out.drew ?_
      refine c_value rfl (.pointer (some ⟨w2.heap.size, 5, none⟩)) (fun u hu => by go_simp) (fun _ _ _ h => h) (fun K hK => ?_)
      go_simp
      refine hK _ ?_
      clear hK K
      refine c_nil ?_
      refine tr_read 1 rfl (by kernel_rfl) HXd.out.drew ?_
      refine c_value rfl (.pointer (some ⟨w2.heap.size, 7, none⟩)) (fun u hu => by go_simp) (fun _ _ _ h => h) (fun K hK => ?_)
      go_simp
      refine hK _ ?_
      clear hK K
      refine c_nil ?_
      refine tr_read 2 rfl (by kernel_rfl) HXd.out.drew ?_
      refine c_value rfl (.string p3) (fun u hu => by have hs := hu.cell 7 _ rfl; go_simp) (fun _ _ _ h => h) (fun K hK => ?_)
      go_simp
      refine hK _ ?_
      clear hK K
      refine c_nil ?_
      refine tr_read 3 rfl (by kernel_rfl) HXd.out.drew ?_
      refine c_value rfl (.pointer (some ⟨w2.heap.size, 0, none⟩)) (fun u hu => by go_simp) (fun _ _ _ h => h) (fun K hK => ?_)
      go_simp
      refine hK _ ?_
      clear hK K
      refine c_nil ?_
      refine tr_read 4 rfl (by kernel_rfl) HXd.out.drew ?_
      refine ct_mid_load rfl 35 _ rfl (w2.heap.size) 0 rfl [Value.int .u64 (b0 : Int), .int .u64 (b1 : Int), .int .u64 (b2 : Int), .int .u64 (b3 : Int), .int .i64 e0] (fun u hu => preb (vs := [.string p1, .string p2, .string p3, .bool p4]) hu) _ Try.underlying35 rfl Try.size_s (fun _ _ _ h => h) (fun K hK => ?_)
      go_simp
      refine hK _ ?_
      clear hK K
      refine c_nil ?_
      refine tr_read 5 rfl (by kernel_rfl) HXd.out.drew ?_
      refine c_move rfl _ rfl (.bool false) rfl (fun _ _ _ h => h) (fun K hK => ?_)
      go_simp
      refine hK _ ?_
      clear hK K
      refine c_nil ?_
      refine tr_read 6 rfl (by kernel_rfl) HXd.out.drew ?_
      refine c_move rfl _ rfl (.bool false) rfl (fun _ _ _ h => h) (fun K hK => ?_)
      go_simp
      refine hK _ ?_
      clear hK K
      refine c_nil ?_
      refine tr_read 7 rfl (by kernel_rfl) HXd.out.drew ?_
      refine c_skip (by rfl) (fun _ _ _ h => h) (fun K hK => ?_)
      go_simp
      refine hK _ ?_
      clear hK K
      refine c_nil ?_
      refine tr_read 8 rfl (by kernel_rfl) HXd.out.drew ?_
      refine c_skip (by rfl) (fun _ _ _ h => h) (fun K hK => ?_)
      go_simp
      refine hK _ ?_
      clear hK K
      refine c_nil ?_
      refine tr_read 9 rfl (by kernel_rfl) HXd.out.drew ?_
      refine c_skip (by rfl) (fun _ _ _ h => h) (fun K hK => ?_)
      go_simp
      refine hK _ ?_
      clear hK K
      refine c_nil ?_
      refine tr_read 10 rfl (by kernel_rfl) HXd.out.drew ?_
      refine c_skip (by rfl) (fun _ _ _ h => h) (fun K hK => ?_)
      go_simp
      refine hK _ ?_
      clear hK K
      refine c_nil ?_
      refine tr_read 11 rfl (by kernel_rfl) HXd.out.drew ?_
      refine c_value rfl (.bool false) (fun u hu => by go_simp) (fun _ _ _ h => h) (fun K hK => ?_)
      go_simp
      refine hK _ ?_
      clear hK K
      refine c_nil ?_
      refine tr_one 12 rfl (by kernel_rfl) ?_
      go_wp2_with fail
      refine And.intro (fun _ => HXd.out.drew) ?_
      refine tr_one 13 rfl (by kernel_rfl) ?_
      go_wp2_with (first | refine blk_store rfl 35 _ _ rfl (w.heap.size + 1) rfl [Value.int .u64 (b0 : Int), .int .u64 (b1 : Int), .int .u64 (b2 : Int), .int .u64 (b3 : Int), .int .i64 e0] rfl _ HOdd.out rfl Try.size_s rfl ?_)
      intro we A5 U5
      have HE5 := Lib.hid A5
      have HBe : Hid (Below w.heap.size w we) := HBdd.out.trans (U5.below (by omega))
      have HXe : Hid (Blk we (w2.heap.size) [Value.int .u64 (b0 : Int), .int .u64 (b1 : Int), .int .u64 (b2 : Int), .int .u64 (b3 : Int), .int .i64 e0, .string p1, .string p2, .string p3, .bool p4]) := Blk.upd HXd.out.drew U5 (by omega)
      clear A5 U5
      refine And.intro (fun _ => HXe.out) ?_
      refine tr_one 14 rfl (by kernel_rfl) ?_
      go_wp2_with fail
      refine And.intro (fun _ => HXe.out) ?_
      refine tr_end (by kernel_rfl) ?_
      go_wp2_with fail
      refine bodyPost_ret (v := .tuple #[.string p3, .agg [Value.int .u64 (b0 : Int), .int .u64 (b1 : Int), .int .u64 (b2 : Int), .int .u64 (b3 : Int), .int .i64 e0].toArray, .bool (false && !p4)]) ?_ rfl ⟨rfl, HBe.out⟩
      exact res_tct (t := 35) Try.results22 _ (w.heap.size + 1) rfl [Value.int .u64 (b0 : Int), .int .u64 (b1 : Int), .int .u64 (b2 : Int), .int .u64 (b3 : Int), .int .i64 e0] HE5.out _ Try.underlying35 rfl Try.size_s
    | true =>
      go_wp2_with fail
      refine region_tree (fun u => Blk u (w2.heap.size) [Value.int .u64 (b0 : Int), .int .u64 (b1 : Int), .int .u64 (b2 : Int), .int .u64 (b3 : Int), .int .i64 e0, .string p1, .string p2, .string p3, .bool p4]) 15 Try.mixed ?_
      refine tr_read 0 rfl (by kernel_rfl) HXd.out.drew ?_
      refine c_value rfl (.pointer (some ⟨w2.heap.size, 5, none⟩)) (fun u hu => by go_simp) (fun _ _ _ h => h) (fun K hK => ?_)
      go_simp
      refine hK _ ?_
      clear hK K
      refine c_nil ?_
      refine tr_read 1 rfl (by kernel_rfl) HXd.out.drew ?_
      refine c_value rfl (.pointer (some ⟨w2.heap.size, 7, none⟩)) (fun u hu => by go_simp) (fun _ _ _ h => h) (fun K hK => ?_)
      go_simp
      refine hK _ ?_
      clear hK K
      refine c_nil ?_
      refine tr_read 2 rfl (by kernel_rfl) HXd.out.drew ?_
      refine c_value rfl (.string p3) (fun u hu => by have hs := hu.cell 7 _ rfl; go_simp) (fun _ _ _ h => h) (fun K hK => ?_)
      go_simp
      refine hK _ ?_
      clear hK K
      refine c_nil ?_
      refine tr_read 3 rfl (by kernel_rfl) HXd.out.drew ?_
      refine c_value rfl (.pointer (some ⟨w2.heap.size, 0, none⟩)) (fun u hu => by go_simp) (fun _ _ _ h => h) (fun K hK => ?_)
      go_simp
      refine hK _ ?_
      clear hK K
      refine c_nil ?_
      refine tr_read 4 rfl (by kernel_rfl) HXd.out.drew ?_
      refine ct_mid_load rfl 35 _ rfl (w2.heap.size) 0 rfl [Value.int .u64 (b0 : Int), .int .u64 (b1 : Int), .int .u64 (b2 : Int), .int .u64 (b3 : Int), .int .i64 e0] (fun u hu => preb (vs := [.string p1, .string p2, .string p3, .bool p4]) hu) _ Try.underlying35 rfl Try.size_s (fun _ _ _ h => h) (fun K hK => ?_)
      go_simp
      refine hK _ ?_
      clear hK K
      refine c_nil ?_
      refine tr_read 5 rfl (by kernel_rfl) HXd.out.drew ?_
      refine c_move rfl _ rfl (.bool true) rfl (fun _ _ _ h => h) (fun K hK => ?_)
      go_simp
      refine hK _ ?_
      clear hK K
      refine c_nil ?_
      refine tr_read 6 rfl (by kernel_rfl) HXd.out.drew ?_
      refine c_move rfl _ rfl (.bool true) rfl (fun _ _ _ h => h) (fun K hK => ?_)
      go_simp
      refine hK _ ?_
      clear hK K
      refine c_nil ?_
      refine tr_read 7 rfl (by kernel_rfl) HXd.out.drew ?_
      refine cg_value (by rfl) (.pointer (some ⟨w2.heap.size, 5, none⟩)) (fun u hu => by go_simp) (fun _ _ _ h => h) (fun K hK => ?_)
      go_simp
      refine hK _ ?_
      clear hK K
      refine c_nil ?_
      refine tr_read 8 rfl (by kernel_rfl) HXd.out.drew ?_
      refine cg_value (by rfl) (.pointer (some ⟨w2.heap.size, 8, none⟩)) (fun u hu => by go_simp) (fun _ _ _ h => h) (fun K hK => ?_)
      go_simp
      refine hK _ ?_
      clear hK K
      refine c_nil ?_
      refine tr_read 9 rfl (by kernel_rfl) HXd.out.drew ?_
      refine cg_value (by rfl) (.bool p4) (fun u hu => by have hs := hu.cell 8 _ rfl; go_simp) (fun _ _ _ h => h) (fun K hK => ?_)
      go_simp
      refine hK _ ?_
      clear hK K
      refine c_nil ?_
      refine tr_read 10 rfl (by kernel_rfl) HXd.out.drew ?_
      refine cg_value (by rfl) (.bool (!p4)) (fun u hu => by go_simp) (fun _ _ _ h => h) (fun K hK => ?_)
      go_simp
      refine hK _ ?_
      clear hK K
      refine c_nil ?_
      refine tr_read 11 rfl (by kernel_rfl) HXd.out.drew ?_
      refine c_value rfl (.bool (!p4)) (fun u hu => by go_simp) (fun _ _ _ h => h) (fun K hK => ?_)
      go_simp
      refine hK _ ?_
      clear hK K
      refine c_nil ?_
      refine tr_one 12 rfl (by kernel_rfl) ?_
      go_wp2_with fail
      refine And.intro (fun _ => HXd.out.drew) ?_
      refine tr_one 13 rfl (by kernel_rfl) ?_
      go_wp2_with (first | refine blk_store rfl 35 _ _ rfl (w.heap.size + 1) rfl [Value.int .u64 (b0 : Int), .int .u64 (b1 : Int), .int .u64 (b2 : Int), .int .u64 (b3 : Int), .int .i64 e0] rfl _ HOdd.out rfl Try.size_s rfl ?_)
      intro we A5 U5
      have HE5 := Lib.hid A5
      have HBe : Hid (Below w.heap.size w we) := HBdd.out.trans (U5.below (by omega))
      have HXe : Hid (Blk we (w2.heap.size) [Value.int .u64 (b0 : Int), .int .u64 (b1 : Int), .int .u64 (b2 : Int), .int .u64 (b3 : Int), .int .i64 e0, .string p1, .string p2, .string p3, .bool p4]) := Blk.upd HXd.out.drew U5 (by omega)
      clear A5 U5
      refine And.intro (fun _ => HXe.out) ?_
      refine tr_one 14 rfl (by kernel_rfl) ?_
      go_wp2_with fail
      refine And.intro (fun _ => HXe.out) ?_
      refine tr_end (by kernel_rfl) ?_
      go_wp2_with fail
      refine bodyPost_ret (v := .tuple #[.string p3, .agg [Value.int .u64 (b0 : Int), .int .u64 (b1 : Int), .int .u64 (b2 : Int), .int .u64 (b3 : Int), .int .i64 e0].toArray, .bool (true && !p4)]) ?_ rfl ⟨rfl, HBe.out⟩
      exact res_tct (t := 35) Try.results22 _ (w.heap.size + 1) rfl [Value.int .u64 (b0 : Int), .int .u64 (b1 : Int), .int .u64 (b2 : Int), .int .u64 (b3 : Int), .int .i64 e0] HE5.out _ Try.underlying35 rfl Try.size_s
set_option maxHeartbeats 4000000 in
theorem last_any (s : Nat) (G : Gm) (k1 k2 : ByteArray) (w : World) (h : Sh w s G) (hl : ∀ k ∈ G.bl s, k < w.heap.size) (hlim : ∀ x ∈ vis G.E, x.2.length < 1000) :
    Calls Try.prog 24 #[.pointer (some ⟨s, 0, none⟩), .string k1, .string k2] w fun e w' => e = .returned (.tuple #[WV (lsV (getV (vis G.E) (k1, k2))).2, SV (lsV (getV (vis G.E) (k1, k2))).1.1 (lsV (getV (vis G.E) (k1, k2))).1.2, .bool (decide (0 < (getV (vis G.E) (k1, k2)).length))]) ∧ Below w.heap.size w w' := by
  have CF := Lib.hid (find_any s G (k1, k2) w h hl)
  have HUP := Lib.hid (up_get h (k1, k2))
  have HLM := Lib.hid (lim_get hlim (k1, k2) (by decide))
  have hr4 := lsV_four HUP.out
  obtain ⟨L, HLL⟩ : ∃ L, Hid (getV (vis G.E) (k1, k2) = L) := ⟨_, rfl⟩
  rw [HLL.out] at CF HUP HLM hr4 ⊢
  have CR := Lib.hid (fun c v u (hu : Ch wrt 123 u c v L) => lastW c v L u hu (by have := HLM.out; omega))
  obtain ⟨q, HQ⟩ : ∃ q, Hid (decide (0 < L.length) = q) := ⟨_, rfl⟩
  obtain ⟨r, HR⟩ : ∃ r, Hid (lsV L = r) := ⟨_, rfl⟩
  change Hid (∀ c v u, Ch wrt 123 u c v L → Calls Try.prog 57 #[.pointer (some ⟨c, 0, none⟩)] u fun e w' => e = .returned (.tuple #[(vk wrt).val (lsV L), .bool (decide (0 < L.length))]) ∧ Below u.heap.size u w') at CR
  rw [HQ.out, HR.out] at CR
  rw [HR.out] at hr4
  rw [HQ.out, HR.out]
  obtain ⟨⟨b, e0⟩, p1, p2, p3, p4⟩ := r
  obtain ⟨b0, b1, b2, b3, rfl⟩ := V.four hr4
  have CR : Hid (∀ c v u, Ch wrt 123 u c v L → Calls Try.prog 57 #[.pointer (some ⟨c, 0, none⟩)] u fun e w' => e = .returned (.tuple #[.agg [Value.int .u64 (b0 : Int), .int .u64 (b1 : Int), .int .u64 (b2 : Int), .int .u64 (b3 : Int), .int .i64 e0, .string p1, .string p2, .string p3, .bool p4].toArray, .bool q]) ∧ Below u.heap.size u w') := CR.out
  have CF : Hid (∀ u, Below w.heap.size w u → Calls Try.prog 55 #[.pointer (some ⟨s, 0, none⟩), .agg #[.string k1, .string k2]] u fun e w' => ∃ c v, e = .returned (.pointer (some ⟨c, 0, none⟩)) ∧ Ch wrt 123 w' c v L ∧ Below u.heap.size u w') := fun u hu => by
    have := find_any s G (k1, k2) u (h.below hl hu) (fun k hk => Nat.lt_of_lt_of_le (hl k hk) hu.size)
    rw [HLL.out] at this
    exact this
  show Calls _ _ _ _ fun e w' => e = .returned (.tuple #[.agg [Value.string p1, .string p2, .string p3, .bool p4].toArray, .agg [Value.int .u64 (b0 : Int), .int .u64 (b1 : Int), .int .u64 (b2 : Int), .int .u64 (b3 : Int), .int .i64 e0].toArray, .bool q]) ∧ _
  clear h hl hlim hr4 HLL HQ HR HUP HLM
  go_enter Try.func24, Try.ntmps24
  go_wp2_with (first | refine blk_alloc rfl 42 (wc I.none_) rfl It.Try.info_iw2 ?_)
  intro w1 A1 B1 Z1
  go_wp2_with (first | refine blk_alloc rfl 35 [Value.int .u64 0, .int .u64 0, .int .u64 0, .int .u64 0, .int .i64 0] rfl Try.info_st ?_)
  intro w2 A2 B2 Z2
  have HA2 : Hid (Blk w2 w.heap.size (wc I.none_)) := Blk.below A1 B2 (by omega)
  have HO2 : Hid (Blk w2 (w.heap.size + 1) [Value.int .u64 0, .int .u64 0, .int .u64 0, .int .u64 0, .int .i64 0]) := by first | exact A2 | (have h := A2; rw [Z1] at h; exact h)
  have HB2 : Hid (Below w.heap.size w w2) := B1.trans (B2.mono (by omega))
  have HZ2 : Hid (w.heap.size + 1 < w2.heap.size) := by show _ < _; omega
  clear A1 B1 Z1 A2 B2 Z2
  go_wp2_with fail
  refine (CF.out _ HB2.out).mono ?_; rintro e wa ⟨c, v, rfl, hc, hb⟩
  have HCa := Lib.hid hc
  have HBa := Lib.hid hb
  clear hc hb
  go_wp2_with fail
  refine (CR.out _ _ _ HCa.out).mono ?_; rintro e wb ⟨rfl, hb⟩
  have HBb : Hid (Below w2.heap.size w2 wb) := Below.trans HBa.out (hb.mono HBa.out.size)
  have HAb : Hid (Blk wb w.heap.size (wc I.none_)) := Blk.below HA2.out HBb.out (by have := HZ2.out; omega)
  have HOb : Hid (Blk wb (w.heap.size + 1) [Value.int .u64 0, .int .u64 0, .int .u64 0, .int .u64 0, .int .i64 0]) := Blk.below HO2.out HBb.out HZ2.out
  have HZb : Hid (w.heap.size + 1 < wb.heap.size) := Nat.lt_of_lt_of_le HZ2.out HBb.out.size
  clear hb
  go_wp2_with (first | refine blk_alloc rfl 123 [Value.int .u64 0, .int .u64 0, .int .u64 0, .int .u64 0, .int .i64 0, .string ⟨#[]⟩, .string ⟨#[]⟩, .string ⟨#[]⟩, .bool false] rfl info_vW ?_)
  intro wc A3 B3 Z3
  go_wp2_with (first | refine blk_store rfl 123 _ _ rfl wb.heap.size rfl [Value.int .u64 (b0 : Int), .int .u64 (b1 : Int), .int .u64 (b2 : Int), .int .u64 (b3 : Int), .int .i64 e0, .string p1, .string p2, .string p3, .bool p4] rfl _ A3 rfl size_vW rfl ?_)
  intro wd A4 U4
  have hb2 := HZb.out
  have HXd : Hid (Blk wd.drew wb.heap.size [Value.int .u64 (b0 : Int), .int .u64 (b1 : Int), .int .u64 (b2 : Int), .int .u64 (b3 : Int), .int .i64 e0, .string p1, .string p2, .string p3, .bool p4]) := A4.drew
  have HAd : Hid (Blk wd.drew w.heap.size (It.wc I.none_)) := (Blk.upd (Blk.below HAb.out B3 (by omega)) U4 (by omega)).drew
  have HOd : Hid (Blk wd.drew (w.heap.size + 1) [Value.int .u64 0, .int .u64 0, .int .u64 0, .int .u64 0, .int .i64 0]) := (Blk.upd (Blk.below HOb.out B3 (by omega)) U4 (by omega)).drew
  have HBd : Hid (Below w.heap.size w wd.drew) := (((HB2.out.trans (HBb.out.mono HB2.out.size)).trans (B3.mono (by omega))).trans (U4.below (by omega))).drew
  clear A3 B3 Z3 A4 U4 hb2
  go_wp2_with fail
  refine region_tree (fun u => Blk u wb.heap.size [Value.int .u64 (b0 : Int), .int .u64 (b1 : Int), .int .u64 (b2 : Int), .int .u64 (b3 : Int), .int .i64 e0, .string p1, .string p2, .string p3, .bool p4]) 8 Try.mixed ?_
  refine tr_read 0 rfl (by kernel_rfl) HXd.out ?_
  refine c_value rfl (.pointer (some ⟨wb.heap.size, 5, none⟩)) (fun u hu => by go_simp) (fun _ _ _ h => h) (fun K hK => ?_)
  go_simp
  refine hK _ ?_
  clear hK K
  refine c_nil ?_
  refine tr_read 1 rfl (by kernel_rfl) HXd.out ?_
  refine ct_mid_load rfl 42 _ rfl wb.heap.size 5 rfl [Value.string p1, .string p2, .string p3, .bool p4] (fun u hu => rng5 hu) _ Try.underlying42 rfl It.Try.size_w (fun _ _ _ h => h) (fun K hK => ?_)
  go_simp
  refine hK _ ?_
  clear hK K
  refine c_nil ?_
  refine tr_read 2 rfl (by kernel_rfl) HXd.out ?_
  refine c_value rfl (.pointer (some ⟨wb.heap.size, 0, none⟩)) (fun u hu => by go_simp) (fun _ _ _ h => h) (fun K hK => ?_)
  go_simp
  refine hK _ ?_
  clear hK K
  refine c_nil ?_
  refine tr_read 3 rfl (by kernel_rfl) HXd.out ?_
  refine ct_mid_load rfl 35 _ rfl wb.heap.size 0 rfl [Value.int .u64 (b0 : Int), .int .u64 (b1 : Int), .int .u64 (b2 : Int), .int .u64 (b3 : Int), .int .i64 e0] (fun u hu => preb (vs := [Value.string p1, .string p2, .string p3, .bool p4]) hu) _ Try.underlying35 rfl Try.size_s (fun _ _ _ h => h) (fun K hK => ?_)
  go_simp
  refine hK _ ?_
  clear hK K
  refine c_nil ?_
  refine tr_read 4 rfl (by kernel_rfl) HXd.out ?_
  refine c_move rfl _ rfl (.bool q) rfl (fun _ _ _ h => h) (fun K hK => ?_)
  go_simp
  refine hK _ ?_
  clear hK K
  refine c_nil ?_
  refine tr_one 5 rfl (by kernel_rfl) ?_
  go_wp2_with (first | refine blk_store rfl 42 _ _ rfl w.heap.size rfl [Value.string p1, .string p2, .string p3, .bool p4] rfl _ HAd.out rfl It.Try.size_w rfl ?_)
  intro we A5 U5
  have hb5 := HZb.out
  have HOe : Hid (Blk we (w.heap.size + 1) [Value.int .u64 0, .int .u64 0, .int .u64 0, .int .u64 0, .int .i64 0]) := Blk.upd HOd.out U5 (by omega)
  have HXe : Hid (Blk we wb.heap.size [Value.int .u64 (b0 : Int), .int .u64 (b1 : Int), .int .u64 (b2 : Int), .int .u64 (b3 : Int), .int .i64 e0, .string p1, .string p2, .string p3, .bool p4]) := Blk.upd HXd.out U5 (by omega)
  refine And.intro (fun _ => HXe.out) ?_
  refine tr_one 6 rfl (by kernel_rfl) ?_
  go_wp2_with (first | refine blk_store rfl 35 _ _ rfl (w.heap.size + 1) rfl [Value.int .u64 (b0 : Int), .int .u64 (b1 : Int), .int .u64 (b2 : Int), .int .u64 (b3 : Int), .int .i64 e0] rfl _ HOe.out rfl Try.size_s rfl ?_)
  intro wf A6 U6
  have HE5 : Hid (Blk wf w.heap.size [Value.string p1, .string p2, .string p3, .bool p4]) := Blk.upd A5 U6 (by omega)
  have HE6 := Lib.hid A6
  have HXf : Hid (Blk wf wb.heap.size [Value.int .u64 (b0 : Int), .int .u64 (b1 : Int), .int .u64 (b2 : Int), .int .u64 (b3 : Int), .int .i64 e0, .string p1, .string p2, .string p3, .bool p4]) := Blk.upd HXe.out U6 (by omega)
  have HBe : Hid (Below w.heap.size w wf) := (HBd.out.trans (U5.below (by omega))).trans (U6.below (by omega))
  clear A5 U5 A6 U6
  refine And.intro (fun _ => HXf.out) ?_
  refine tr_one 7 rfl (by kernel_rfl) ?_
  go_wp2_with fail
  refine And.intro (fun _ => HXf.out) ?_
  refine tr_end (by kernel_rfl) ?_
  go_wp2_with fail
  refine bodyPost_ret (v := .tuple #[.agg [Value.string p1, .string p2, .string p3, .bool p4].toArray, .agg [Value.int .u64 (b0 : Int), .int .u64 (b1 : Int), .int .u64 (b2 : Int), .int .u64 (b3 : Int), .int .i64 e0].toArray, .bool q]) ?_ rfl ⟨rfl, HBe.out⟩
  exact res_cct (t := 42) (t' := 35) Try.results24 _ w.heap.size (w.heap.size + 1) rfl rfl _ _ HE5.out HE6.out _ _ Try.underlying42 rfl It.Try.size_w Try.underlying35 rfl Try.size_s
end Go.Proofs.Ytohcdonmdnjgoaa.Sd

namespace Go.Proofs.Ytohcdonmdnjgoaa.Sd

open Go.RowKit Go.Proofs.Ytohcdonmdnjgoaa.Vc Go.Proofs.Ytohcdonmdnjgoaa.Sp Go.Proofs.Ytohcdonmdnjgoaa.Rw Go.Proofs.Ytohcdonmdnjgoaa.Ch Go.Proofs.Ytohcdonmdnjgoaa.Se Go.Proofs.Ytohcdonmdnjgoaa.It Go.Proofs.Ytohcdonmdnjgoaa.Mk

set_option linter.unusedVariables false

set_option linter.unusedSimpArgs false

set_option maxRecDepth 100000

/-- pruned, but for those still to come -/
def prn (V : List (Nm × List (C.Vr I.Wt))) (S : List (Nm × Nat)) (h : List Nat) : List (Nm × List (C.Vr I.Wt)) := V.map fun x => (x.1, if hasN S x.1 = true then x.2 else C.keep x.2 h)
/-- all pruned -/
def prA (V : List (Nm × List (C.Vr I.Wt))) (h : List Nat) : List (Nm × List (C.Vr I.Wt)) := V.map fun x => (x.1, C.keep x.2 h)
/-- how many go -/
def goneA (V : List (Nm × List (C.Vr I.Wt))) (h : List Nat) : Nat := (V.map fun x => x.2.length - (C.keep x.2 h).length).sum
theorem keep_le (L : List (C.Vr I.Wt)) (h : List Nat) : (C.keep L h).length ≤ L.length := by
  unfold C.keep
  split
  · exact Nat.le_refl _
  · exact List.length_filter_le ..
theorem prn_nil (V : List (Nm × List (C.Vr I.Wt))) (h : List Nat) : prn V [] h = prA V h := by unfold prn prA hasN; simp
theorem prn_all (E : List En) (h : List Nat) : prn (vis E) (E.map fun e => (e.n, e.c)) h = vis E := by
  have : prn (vis E) (E.map fun e => (e.n, e.c)) h = (vis E).map id := by
    unfold prn
    refine List.map_congr_left fun x hx => ?_
    obtain ⟨e, he, rfl⟩ := List.mem_map.1 hx
    have : hasN (E.map fun e => (e.n, e.c)) e.n = true := (hasN_iff _ _).2 (by rw [List.map_map]; exact List.mem_map.2 ⟨e, he, rfl⟩)
    simp [this]
  rw [this, List.map_id]
theorem has_split {α : Type} (S1 S2 : List (Nm × α)) (n : Nm) (c : α) (m : Nm) (h : m ≠ n) : hasN (S1 ++ (n, c) :: S2) m = hasN (S1 ++ S2) m := by
  unfold hasN
  rw [List.any_append, List.any_append, List.any_cons, decide_eq_false (fun e => h e.symm), Bool.false_or]
theorem prn_step {V : List (Nm × List (C.Vr I.Wt))} {S1 S2 : List (Nm × Nat)} {E1 E2 : List En} {e : En} {h : List Nat} {v' : Value} (hv : vis (E1 ++ ([e] ++ E2)) = prn V (S1 ++ (e.n, e.c) :: S2) h) (hS : ((S1 ++ (e.n, e.c) :: S2).map (·.1)).Nodup) (hV : (V.map (·.1)).Nodup) :
    getV V e.n = e.L ∧ vis (E1 ++ ([(⟨e.n, e.c, v', C.keep e.L h⟩ : En)] ++ E2)) = prn V (S1 ++ S2) h := by
  have hn : hasN (S1 ++ S2) e.n = false := by
    rw [← Bool.not_eq_true, hasN_iff]
    intro hm
    rw [List.map_append, List.map_cons, List.nodup_append, List.nodup_cons] at hS
    rw [List.map_append] at hm
    rcases List.mem_append.1 hm with h1 | h1
    · exact hS.2.2 _ h1 _ (List.mem_cons_self ..) rfl
    · exact hS.2.1.1 h1
  have hy : hasN (S1 ++ (e.n, e.c) :: S2) e.n = true := (hasN_iff _ _).2 (by simp)
  have e1 : vis (E1 ++ ([e] ++ E2)) = vis E1 ++ (e.n, e.L) :: vis E2 := by simp [vis]
  have e2 : vis (E1 ++ ([(⟨e.n, e.c, v', C.keep e.L h⟩ : En)] ++ E2)) = vis E1 ++ (e.n, C.keep e.L h) :: vis E2 := by simp [vis]
  rw [e1] at hv
  rw [e2]
  unfold prn at hv
  obtain ⟨V1, V2', hV1, hv1, hv2⟩ := List.map_eq_append_iff.1 hv.symm
  obtain ⟨x, V2, rfl, hx, hv3⟩ := List.map_eq_cons_iff.1 hv2
  subst hV1
  simp only [Prod.mk.injEq] at hx
  obtain ⟨hx1, hx2⟩ := hx
  obtain ⟨xn, xL⟩ := x
  dsimp only at hx1 hx2
  subst hx1
  rw [if_pos hy] at hx2
  subst hx2
  rw [List.map_append, List.map_cons, List.nodup_append, List.nodup_cons] at hV
  have hother : ∀ W : List (Nm × List (C.Vr I.Wt)), e.n ∉ W.map (·.1) → (W.map fun x => (x.1, if hasN (S1 ++ (e.n, e.c) :: S2) x.1 = true then x.2 else C.keep x.2 h)) = W.map fun x => (x.1, if hasN (S1 ++ S2) x.1 = true then x.2 else C.keep x.2 h) := fun W hW => by
    refine List.map_congr_left fun x hx => ?_
    rw [has_split S1 S2 e.n e.c x.1 (fun e9 => hW (List.mem_map.2 ⟨x, hx, e9⟩))]
  refine ⟨getV_at V1 V2 e.n e.L (fun hm => hV.2.2 _ hm _ (List.mem_cons_self ..) rfl), ?_⟩
  unfold prn
  rw [List.map_append, List.map_cons, hn, if_neg (by decide), ← hv1, ← hv3, hother V1 (fun hm => hV.2.2 _ hm _ (List.mem_cons_self ..) rfl), hother V2 hV.2.1.1]
theorem itr_nodup {w : World} {r mb : Nat} {M S : List (Nm × Nat)} (h : Itr w r mb M S) : (S.map (·.1)).Nodup := by
  obtain ⟨es, clock, seen, h1, h2, h3, h4, h5, h6⟩ := h.is
  have hsub : (S.map fun x => (ky x.1, Value.pointer (some ⟨x.2, 0, none⟩))).Sublist (M.map fun x => (ky x.1, Value.pointer (some ⟨x.2, 0, none⟩))) := by
    rw [← h6, ← h2]
    refine List.Sublist.map _ ?_
    unfold leftOf
    rw [Array.toList_filter]
    exact List.filter_sublist
  have h7 : (S.map fun x => ky x.1).Sublist (M.map fun x => ky x.1) := by
    have := hsub.map (·.1)
    rw [List.map_map, List.map_map] at this
    exact this
  have h8 : (M.map fun x => ky x.1).Nodup := by
    have := h.nodup
    unfold List.Nodup at this ⊢
    rw [List.pairwise_map] at this ⊢
    exact this.imp (fun hne e => hne (ky_inj e))
  have h9 := h8.sublist h7
  unfold List.Nodup at h9 ⊢
  rw [List.pairwise_map] at h9 ⊢
  exact h9.imp (fun hne e => hne (by rw [e]))
theorem arr_st {w w' : World} {b : Nat} {h : List Nat} (hk : w'.heap[b]? = w.heap[b]?) (hA : Arr .u64 w b h) : Arr .u64 w' b h := Blk.arr (blk_st hk (vs := ks .u64 h) ⟨hA.1, by rw [ks_length]; exact hA.2⟩)
set_option maxHeartbeats 4000000 in
theorem prune_any (s : Nat) (G : Gm) (h : List Nat) (w : World) (hS : Sh w s G) (hl : ∀ k ∈ G.bl s, k < w.heap.size) (h4 : h.length = 4) (hlim : ∀ x ∈ vis G.E, x.2.length < 1000) (ht : goneA (vis G.E) h ≤ 1000000) :
    Calls Try.prog 16 #[.pointer (some ⟨s, 0, none⟩), AV .u64 h] w fun e w' => e = .returned (.int .i64 (goneA (vis G.E) h : Int)) ∧ ∃ E', Sh w' s { G with E := E' } ∧ vis E' = prA (vis G.E) h ∧ Turn (G.bl s) w w' ∧
      ∀ k ∈ ({ G with E := E' } : Gm).bl s, (k ∈ G.bl s ∨ w.heap.size ≤ k) ∧ k < w'.heap.size := by
  have c1 := hS.c1
  have HSH := Lib.hid hS
  have HL := Lib.hid hl
  have HLIM := Lib.hid hlim
  have HS4 := Lib.hid (size_v h4)
  have H4 := Lib.hid h4
  have HT := Lib.hid (tot_is hS.names (fun L => L.length - (C.keep L h).length))
  obtain ⟨t, HTT⟩ : ∃ t, Hid (goneA (vis G.E) h = t) := ⟨_, rfl⟩
  have HT : Hid (sumN (fun n => (getV (vis G.E) n).length - (C.keep (getV (vis G.E) n) h).length) (G.E.map fun e => (e.n, e.c)) = t) := HT.out.trans HTT.out
  have HVN : Hid (((vis G.E).map (·.1)).Nodup) := by show List.Nodup _; rw [vis_n]; exact hS.names
  rw [HTT.out] at ht ⊢
  have HV0 : Hid (vis G.E = prn (vis G.E) (G.E.map fun e => (e.n, e.c)) h) := (prn_all G.E h).symm
  clear hS hl hlim h4
  go_enter Try.func16, Try.ntmps16
  go_wp2_with (first | refine arr_box rfl .u64 33 _ rfl h rfl ?_)
  intro w0 A0 B0 Z0
  have HA0 : Hid (Arr .u64 w0 w.heap.size h) := A0
  have HB0 : Hid (Below w.heap.size w w0) := B0
  have HZ0 : Hid (w0.heap.size = w.heap.size + 1) := Z0
  have HMP : Hid (Mp w0 G.mb (G.E.map fun e => (e.n, e.c))) := HSH.out.map.st (B0.block _ (HL.out _ (mem_mb G s)))
  have c1 := (B0.cell (p := ⟨s, 1, none⟩) (HL.out _ (mem_s G s))).trans c1
  clear A0 B0 Z0
  go_wp2_with (first | refine range_step rfl _ rfl G.mb rfl _ HMP.out ?_)
  intro w1 hi1 hb1 hz1
  have HI1 : Hid (Itr w1 w0.heap.size G.mb (G.E.map fun e => (e.n, e.c)) (G.E.map fun e => (e.n, e.c))) := hi1
  have HB1 : Hid (Below w.heap.size w w1) := Below.trans HB0.out (hb1.mono HB0.out.size)
  have HA1 : Hid (Arr .u64 w1 w.heap.size h) := Arr.below HA0.out hb1 (by have := HZ0.out; omega)
  have HZ1 : Hid (w.heap.size + 1 < w1.heap.size) := by show _ < _; have := HZ0.out; omega
  have HS1 : Hid (Sh w1 s { G with E := G.E }) := HSH.out.below HL.out HB1.out
  have HT1 : Hid (Turn (G.bl s) w w1) := Turn.of_below HB1.out
  have HN1 : Hid (∀ k ∈ ({ G with E := G.E } : Gm).bl s, (k ∈ G.bl s ∨ w.heap.size + 2 ≤ k) ∧ k < w1.heap.size) := fun k hk => ⟨.inl hk, Nat.lt_of_lt_of_le (HL.out k hk) HB1.out.size⟩
  have hrx : (.pointer (some ⟨w0.heap.size, 0, none⟩) : Value) = .pointer (some ⟨w.heap.size + 1, 0, none⟩) := by rw [HZ0.out]
  clear hi1 hb1 hz1 c1 HA0 HB0
  go_wp2_with fail
  have HTn : Hid (t ≤ 1000000) := ht
  clear hrx ht
  go_loopw [4] (fun v wr => ∃ (k : Nat) (S : List (Nm × Nat)) (E' : List En), v = .int .i64 k ∧ Hid (k + sumN (fun n => (getV (vis G.E) n).length - (C.keep (getV (vis G.E) n) h).length) S = t) ∧ Hid (Itr wr w0.heap.size G.mb (E'.map fun e => (e.n, e.c)) S) ∧ Hid (vis E' = prn (vis G.E) S h) ∧ Hid (Sh wr s { G with E := E' }) ∧ Hid (Turn (G.bl s) w wr) ∧
    Hid (∀ k ∈ ({ G with E := E' } : Gm).bl s, (k ∈ G.bl s ∨ w.heap.size + 2 ≤ k) ∧ k < wr.heap.size) ∧ Hid (Arr .u64 wr w.heap.size h) ∧ Hid (w.heap.size + 1 < wr.heap.size)) (fun _ wr => itrLeft wr w0.heap.size G.mb)
  case atStart => exact ⟨0, _, G.E, rfl, (show Hid (_ = _) from by show _ = _; rw [Nat.zero_add]; exact HT.out), HI1, HV0, HS1, HT1, HN1, HA1, HZ1⟩
  case round =>
    obtain ⟨k, S, E', rfl, HKr, HIr, HVr, HSr, HTr, HNr, HAr, HZr⟩ := hrel
    clear HI1 HV0 HS1 HT1 HN1 HA1 HZ1 HMP
    have hz0 := HZ0.out
    have HZ0' : Hid (w0.heap.size = w.heap.size + 1) := hz0
    clear hz0
    go_wp2_with (first | refine next_step rfl _ rfl w0.heap.size G.mb rfl E' S HIr.out ?_ ?_)
    · intro HSS
      have hS := HSS.out
      subst hS
      obtain rfl : k = t := by have := HKr.out; simpa [sumN] using this
      have HVE : Hid (vis E' = prA (vis G.E) h) := by show _ = _; rw [← prn_nil]; exact HVr.out
      go_wp2_with fail
      go_ret
      exact ⟨rfl, E', HSr.out, HVE.out, HTr.out, fun k hk => ⟨(HNr.out k hk).1.imp id (fun h9 => by omega), (HNr.out k hk).2⟩⟩
    · intro S1 e S2 w2 HEE HSS HEN HI2 HU2
      have hS := HSS.out
      have hen := HEN.out
      have hu2 := HU2.out
      subst hS
      obtain ⟨E1, E2, hE'⟩ := List.append_of_mem HEE.out
      have hE : E' = E1 ++ ([e] ++ E2) := hE'
      have hrn : ∀ k ∈ ({ G with E := E' } : Gm).bl s, k ≠ w0.heap.size ∧ k ≠ w.heap.size := fun k hk => by
        have hz0 := HZ0'.out
        rcases (HNr.out k hk).1 with h1 | h1
        · have := HL.out k h1; omega
        · omega
      have hsh2 : Sh w2 s { G with E := E' } := HSr.out.st (fun k hk => hu2.far k (hrn k hk).1)
      have hl2 : ∀ k ∈ ({ G with E := E' } : Gm).bl s, k < w2.heap.size := fun k hk => by rw [hu2.size]; exact (HNr.out k hk).2
      have HSH2 := Lib.hid hsh2
      have HL2 := Lib.hid hl2
      have HRN := Lib.hid hrn
      have HEq := Lib.hid hE
      have hps := fun v' => prn_step (V := vis G.E) (S1 := S1) (S2 := S2) (E1 := E1) (E2 := E2) (e := e) (h := h) (v' := v') (by rw [← hE]; exact HVr.out) (itr_nodup HIr.out) HVN.out
      have HPS := Lib.hid hps
      have hgv := (hps undef).1
      have HCH := Lib.hid (hsh2.chains e (by show e ∈ E'; rw [hE]; simp))
      have CP := Lib.hid (pruneW e.c e.v e.L h w2 HCH.out H4.out (by have := lim_get HLIM.out e.n (by decide); rw [hgv] at this; exact this))
      have HEB : Hid (∀ k ∈ e.c :: ob e.v, k ∈ ({ G with E := E' } : Gm).bl s) := fun k hk => mem_E (G := { G with E := E' }) (e := e) (by show e ∈ E'; rw [hE]; simp) hk
      have hmbn : G.mb ∉ e.c :: ob e.v := fun hm => by
        have := hsh2.nd
        rw [bl_split (G := { G with E := E' }) (E1 := E1) (X := [e]) (E2 := E2) hE, List.nodup_append] at this
        exact this.2.2 G.mb (List.mem_append_left _ (by simp)) G.mb (List.mem_append_left _ (by simpa [En.bl] using hm)) rfl
      have HMB := Lib.hid hmbn
      have hkl := keep_le e.L h
      obtain ⟨q, HQ⟩ : ∃ q, Hid (e.L.length - (C.keep e.L h).length = q) := ⟨_, rfl⟩
      have hqi : (e.L.length : Int) - ((C.keep e.L h).length : Int) = (q : Int) := by have := HQ.out; omega
      rw [hqi] at CP
      have HK2 : Hid ((k + q) + sumN (fun n => (getV (vis G.E) n).length - (C.keep (getV (vis G.E) n) h).length) (S1 ++ S2) = t) := by
        have h1 := HKr.out
        rw [sumN_split, hgv, HQ.out] at h1
        show _ = _
        omega
      have HLR := Lib.hid (left_eq HIr.out)
      have HA2 : Hid (Arr .u64 w2 w.heap.size h) := arr_st (hu2.far _ (by have := HZ0'.out; omega)) HAr.out
      have HT2 : Hid (Turn (G.bl s) w w2) := ⟨hu2.os.trans HTr.out.os, hu2.tape.trans HTr.out.tape, hu2.output.trans HTr.out.output, by rw [hu2.size]; exact HTr.out.size, fun k hk hn => (hu2.far k (by have := HZ0'.out; omega)).trans (HTr.out.far k hk hn)⟩
      have HZ2 : Hid (w.heap.size + 1 < w2.heap.size) := by show _ < _; rw [hu2.size]; exact HZr.out
      have hkq : k + q ≤ 1000000 := by have := HK2.out; have := HTn.out; omega
      have k1 : IntKind.i64.wrap ((k : Int) + (q : Int)) = (k : Int) + (q : Int) := by rw [IntKind.wrap_i64]; omega
      have HNr2 : Hid (∀ k ∈ ({ G with E := E' } : Gm).bl s, (k ∈ G.bl s ∨ w.heap.size + 2 ≤ k)) := fun k hk => (HNr.out k hk).1
      clear hu2 hgv HKr hE hE' hrn hsh2 hl2 hps hmbn hkl hqi hkq HVr HSr HTr HNr HAr HZr
      go_wp2_with (first | refine arr_load rfl .u64 33 _ rfl w.heap.size rfl h HA2.out 4 31 Try.underlying33 HS4.out ?_)
      refine CP.out.mono ?_; rintro e9 w3 ⟨v', rfl, hc, ht, hn⟩
      have hbl := ch_bl hc
      have hT := Turn.of_tw ht
      have hsz := hT.size
      have key := Sh.turn (w' := w3) (G := { G with E := E' }) HSH2.out HL2.out (E1 := E1) (X := [e]) (E2 := E2) (X' := [(⟨e.n, e.c, v', C.keep e.L h⟩ : En)]) HEq.out
        (hT.sub (fun x hx => List.mem_cons_of_mem _ (by simpa [En.bl] using hx)))
        (by
          have := HSH2.out.map.st (w' := w3) (hT.far _ (HL2.out _ (mem_mb _ s)) HMB.out)
          dsimp only at this
          rw [HEq.out] at this
          simpa using this)
        (fun e' he' => by simp at he'; subst he'; exact hc)
        (fun k hk => by
          have hk' : k ∈ e.c :: ob v' := by simpa [En.bl] using hk
          refine ⟨?_, hbl.2 k hk'⟩
          rcases List.mem_cons.1 hk' with h1 | h1
          · exact .inl (by simp [En.bl, h1])
          · rcases hn with h2 | h2
            · exact .inl (by
                have : k ∈ ob e.v := mem_ob.2 (by rw [← h2]; exact mem_ob.1 h1)
                simp [En.bl, this])
            · exact .inr (h2 _ (mem_ob.1 h1))) (by simpa [En.bl] using hbl.1)
      have HS3 : Hid (Sh w3 s { G with E := E1 ++ ([(⟨e.n, e.c, v', C.keep e.L h⟩ : En)] ++ E2) }) := key.1
      have HN3 : Hid (∀ k ∈ ({ G with E := E1 ++ ([(⟨e.n, e.c, v', C.keep e.L h⟩ : En)] ++ E2) } : Gm).bl s, (k ∈ G.bl s ∨ w.heap.size + 2 ≤ k) ∧ k < w3.heap.size) := fun k hk => by
        obtain ⟨h1, h2⟩ := key.2 k hk
        refine ⟨?_, h2⟩
        rcases h1 with h1 | h1
        · exact HNr2.out k h1
        · exact .inr (by have := HZ2.out; omega)
      have hmape : (E1 ++ ([(⟨e.n, e.c, v', C.keep e.L h⟩ : En)] ++ E2)).map (fun e => (e.n, e.c)) = E'.map fun e => (e.n, e.c) := by rw [HEq.out]; simp
      have HI3 : Hid (Itr w3 w0.heap.size G.mb ((E1 ++ ([(⟨e.n, e.c, v', C.keep e.L h⟩ : En)] ++ E2)).map fun e => (e.n, e.c)) (S1 ++ S2)) := by
        show Itr _ _ _ _ _
        rw [hmape]
        exact HI2.out.st (hT.far _ (HL2.out _ (mem_mb _ s)) HMB.out) (hT.far _ (by have := HZ0'.out; have := HZ2.out; omega) (fun hm => (HRN.out _ (HEB.out _ hm)).1 rfl))
      have HA3 : Hid (Arr .u64 w3 w.heap.size h) := arr_st (hT.far _ (by have := HZ2.out; omega) (fun hm => (HRN.out _ (HEB.out _ hm)).2 rfl)) HA2.out
      have HT3 : Hid (Turn (G.bl s) w w3) := HT2.out.trans hT (fun x hx => (HNr2.out x (HEB.out x hx)).imp id (fun h9 => by omega))
      have HZ3 : Hid (w.heap.size + 1 < w3.heap.size) := Nat.lt_of_lt_of_le HZ2.out hsz
      have HV3 := Lib.hid (HPS.out v').2
      clear hc ht hn hbl hT hsz key hmape
      go_wp2_with fail
      go_roundw
      case rel => exact ⟨k + q, S1 ++ S2, _, by go_num, HK2, HI3, HV3, HS3, HT3, HN3, HA3, HZ3⟩
      case measure =>
        rw [left_eq HI3.out, HLR.out]
        simp
end Go.Proofs.Ytohcdonmdnjgoaa.Sd
