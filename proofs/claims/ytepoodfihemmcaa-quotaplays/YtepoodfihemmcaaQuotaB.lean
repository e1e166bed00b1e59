/- A quota's calls: lay, turns, After, Fits, Take. -/
import Derived.Test.YtepoodfihemmcaaQuotaA

import Derived.Test.YtepoodfihemmcaaRegionPick

namespace Go.Proofs.Ytepoodfihemmcaa.Qm

open Go.RowKit Go.Instr Go.ChangeMaps Go.Proofs.Ytepoodfihemmcaa.It Go.Proofs.Ytepoodfihemmcaa.Q

set_option linter.unusedVariables false

set_option linter.unusedSimpArgs false

set_option maxRecDepth 100000

/-- nothing of what was there is another one but block mb -/
structure Only (mb : Nat) (w w' : World) : Prop where
  os : w'.os = w.os
  tape : w'.tape = w.tape
  output : w'.output = w.output
  size : w.heap.size ≤ w'.heap.size
  far : ∀ k, k < w.heap.size → k ≠ mb → w'.heap[k]? = w.heap[k]?
theorem Only.refl (mb : Nat) (w : World) : Only mb w w := ⟨rfl, rfl, rfl, Nat.le_refl _, fun _ _ _ => rfl⟩
theorem Only.trans {mb : Nat} {u v w : World} (h : Only mb u v) (k : Only mb v w) : Only mb u w := ⟨k.os.trans h.os, k.tape.trans h.tape, k.output.trans h.output, Nat.le_trans h.size k.size, fun i hi hn => (k.far i (Nat.lt_of_lt_of_le hi h.size) hn).trans (h.far i hi hn)⟩
theorem Only.of_below {mb : Nat} {w w' : World} (h : Below w.heap.size w w') : Only mb w w' := ⟨h.os, h.tape, h.output, h.size, fun k hk _ => h.block k hk⟩
theorem Only.of_upd {mb : Nat} {w w' : World} (h : Upd mb w w') : Only mb w w' := ⟨h.os, h.tape, h.output, Nat.le_of_eq h.size.symm, fun k _ hn => h.far k hn⟩
theorem Only.below {mb B : Nat} {w w' : World} (h : Only mb w w') (hB : B ≤ mb) (hs : B ≤ w.heap.size) : Below B w w' := ⟨h.os, h.tape, h.output, h.size, fun k hk => h.far k (by omega) (by omega)⟩
/-- b is no map's block -/
theorem not_map {w : World} {b o mb : Nat} {v : Value} (h : w.cell? ⟨b, o, none⟩ = some v) (hm : ∃ es clock, w.heap[mb]? = some (.map es clock)) : b ≠ mb := by
  rintro rfl
  obtain ⟨es, clock, hm⟩ := hm
  simp [World.cell?, hm] at h
theorem Mp.isMap {κ : Type} {ky : κ → Value} {w : World} {mb : Nat} {M : List (κ × Int)} (h : Mp ky w mb M) : ∃ es clock, w.heap[mb]? = some (.map es clock) := by
  obtain ⟨es, clock, h1, _⟩ := h.is
  exact ⟨es, clock, h1⟩
theorem Only.row {mb b p : Nat} {w w' : World} {vs : List Value} (h : Only mb w w') (hm : ∃ es clock, w.heap[mb]? = some (.map es clock)) (hr : w.rangeAt b p vs) : w'.rangeAt b p vs := fun i v hv => by
  have h1 := hr i v hv
  have h2 : w'.heap[b]? = w.heap[b]? := h.far b (World.block_lt_of_cell? w _ h1) (not_map h1 hm)
  have h3 : w'.cell? ⟨b, p + i, none⟩ = w.cell? ⟨b, p + i, none⟩ := by unfold World.cell?; simp only [h2]
  rw [h3]; exact h1
theorem Only.ws {mb : Nat} {w w' : World} {v : Value} {L : List I.Wt} (h : Only mb w w') (hm : ∃ es clock, w.heap[mb]? = some (.map es clock)) (hL : IsWs w v L) : IsWs w' v L := by
  obtain ⟨a, cap, hv, h1, h2, h3⟩ := hL.is
  refine ⟨a, cap, hv, h1, h2, fun hn => ?_⟩
  obtain ⟨b, off, ha, hlt, hW⟩ := h3 hn
  exact ⟨b, off, ha, Nat.lt_of_lt_of_le hlt h.size, fun i x hx => h.row hm (hW i x hx)⟩
theorem Blk.only {w w' : World} {b mb : Nat} {vs : List Value} (h : Blk w b vs) (ho : Only mb w w') (hb : b < w.heap.size) (hn : b ≠ mb) : Blk w' b vs := by
  have h2 : w'.heap[b]? = w.heap[b]? := ho.far b hb hn
  exact ⟨fun j v hv => by rw [World.cell?_of_block (w := w) h2]; exact h.1 j v hv, fun j hj => by
    rw [World.cell?_of_block (w := w) h2, World.frozen?_of_block (w := w) h2]; exact h.2 j hj⟩
theorem Qo.only {w w' : World} {b mb : Nat} {L : Int} {M M' : Tb} (h : Qo w b mb L M) (ho : Only mb w w') (hm : Mp kyN w' mb M') : Qo w' b mb L M' :=
  ⟨Blk.only h.blk ho h.lt.1 h.ne, hm, h.ne⟩
section

variable {P : Program} {ops : Array Oper} {Q : Exit → Act → World → Prop} {S : World → Prop} {Lq : Act → Prop} {rest : List Oper} {o : Oper} {a : Act}

theorem c_look (hgd : o.guard = none) (t : TypeId) (m x : Operand) (ho : o.op = .lookup t m x false) (mv kv : Value) (hm : a.eval m = mv) (hx : a.eval x = kv) (v : Value) (hl : ∀ u, S u → (Instr.lookup t mv kv false).run P u = .ok v u)
    (hQ : ∀ c a w, Q (.panic c) (a.put o.dst v) w → Q (.panic c) a w)
    (h : ∀ K : Act → Prop, (∀ a, SC P ops S Q Lq rest a → K a) → K (a.put o.dst v)) : SC P ops S Q Lq (o :: rest) a := by
  refine c_value hgd v (fun u hc => ?_) hQ h
  unfold execOp
  simp only [ho, hm, hx, Sem.run_bind, hl u hc, Result.andThen_ok, Sem.run_pure]
end

theorem Try.info_n : (Try.prog.info? 70).map (fun i => (i.zero, i.size)) = some (some (.agg [Value.string ⟨#[]⟩, .string ⟨#[]⟩].toArray), [Value.string ⟨#[]⟩, .string ⟨#[]⟩].length) := by kernel_rfl
theorem Try.size_n : (Try.prog.info? 70).map (·.size) = some 2 := by kernel_rfl
theorem wrap_small (n : Int) (h1 : -4611686018427387904 ≤ n) (h2 : n ≤ 4611686018427387904) : IntKind.i64.wrap n = n := by rw [IntKind.wrap_i64]; omega
theorem ok_right {x : I.Wt} (h : I.right x = true) : I.Ok x := by
  obtain ⟨h1, h2, h3, h4, h5, _⟩ := I.right_some h
  exact ⟨by omega, by omega, by omega⟩
set_option maxHeartbeats 4000000 in
theorem lay_any (b mb : Nat) (L : Int) (M : Tb) (x : I.Wt) (w : World) (h : Qo w b mb L M) (hx : I.right x = true) :
    Calls Try.prog 33 #[.pointer (some ⟨b, 0, none⟩), WV x] w fun e w' => e = .returned (.tuple #[]) ∧ Qo w' b mb L (Q.lay M x) ∧ Only mb w w' := by
  obtain ⟨xb, xk, xv, xg⟩ := x
  have HQ := Lib.hid h
  have CS := Lib.hid (fun u => wsize_any (xb, xk, xv, xg) u (ok_right hx))
  have hr := I.right_some hx
  obtain ⟨z, HZ⟩ : ∃ z : Int, Hid (sz (xb, xk, xv, xg) = z) := ⟨_, rfl⟩
  change Hid (∀ u, Calls Try.prog 24 #[.agg [Value.string xb, .string xk, .string xv, .bool xg].toArray] u fun e w' => e = .returned (.int .i64 (sz (xb, xk, xv, xg))) ∧ Below u.heap.size u w') at CS
  rw [HZ.out] at CS
  have CB := Lib.hid (fun u => Mc.clone_any xb u (by have := hr.2.1; simp only at this; omega))
  have CK := Lib.hid (fun u => Mc.clone_any xk u (by have := hr.2.2.2.1; simp only at this; omega))
  obtain ⟨R, HR⟩ : ∃ R, Hid (Q.lay M (xb, xk, xv, xg) = R) := ⟨_, rfl⟩
  have HL : Hid ((if z = 0 then delM M (xb, xk) else setM M (xb, xk) z) = R) := by show _ = _; rw [← HR.out]; unfold Q.lay; rw [HZ.out]; rfl
  rw [HR.out]
  clear h hx hr HR HZ
  go_enter Try.func33, Try.ntmps33
  go_wp2_with (first | refine blk_box rfl 45 _ rfl [.string xb, .string xk, .string xv, .bool xg] rfl ?_)
  intro w1 A B Z
  have HX1 : Hid (Blk w1 w.heap.size [.string xb, .string xk, .string xv, .bool xg]) := A
  have HB1 : Hid (Below w.heap.size w w1) := B
  have HZ1 : Hid (w1.heap.size = w.heap.size + 1) := Z
  clear A B Z
  go_wp2_with (first | refine blk_load rfl 45 _ rfl w.heap.size rfl [.string xb, .string xk, .string xv, .bool xg] HX1.out _ Try.underlying45 rfl Try.size_w ?_)
  refine (CS.out _).mono ?_; rintro e w2 ⟨rfl, hb⟩
  have HX2 : Hid (Blk w2.drew w.heap.size [.string xb, .string xk, .string xv, .bool xg]) := (Blk.below HX1.out hb (by rw [HZ1.out]; omega)).drew
  have HB2 : Hid (Below w.heap.size w w2.drew) := (HB1.out.trans (hb.mono HB1.out.size)).drew
  have HQ2 : Hid (Qo w2.drew b mb L M) := HQ.out.more HB2.out
  have HZ2 : Hid (w.heap.size < w2.drew.heap.size) := by
    have h1 := HZ1.out
    have h2 := hb.size
    show w.heap.size < w2.heap.size
    omega
  clear hb HX1 HB1 HZ1 CS
  by_cases hz : z = 0
  · subst hz
    have HL0 : Hid (delM M (xb, xk) = R) := by have := HL.out; rwa [if_pos rfl] at this
    clear HL
    go_wp2_with fail
    refine region_pickC (fun u => Blk u b [Value.int .i64 L, .map (some mb)] ∧ Blk u w.heap.size [Value.string xb, .string xk, .string xv, .bool xg]) 10 [0, 1, 2, 3, 4, 5, 6, 7, 8] [9] Try.mixed (by kernel_rfl) rfl (by kernel_rfl) ⟨HQ2.out.blk, HX2.out⟩ ?_
    refine p_readC rfl ?_
    refine c_move rfl _ rfl (.pointer (some ⟨b, 0, none⟩)) rfl (fun _ _ _ h => h) (fun K hK => ?_)
    go_simp
    refine hK _ ?_
    clear hK K
    refine c_nil ?_
    refine p_readC rfl ?_
    refine c_value rfl (.pointer (some ⟨b, 0, none⟩)) (fun u hu => by go_simp) (fun _ _ _ h => h) (fun K hK => ?_)
    go_simp
    refine hK _ ?_
    clear hK K
    refine c_nil ?_
    refine p_readC rfl ?_
    refine c_value rfl (.pointer (some ⟨b, 1, none⟩)) (fun u hu => by go_simp) (fun _ _ _ h => h) (fun K hK => ?_)
    go_simp
    refine hK _ ?_
    clear hK K
    refine c_nil ?_
    refine p_readC rfl ?_
    refine c_value rfl (.map (some mb)) (fun u hu => by have hs := hu.1.cell 1 _ rfl; go_simp) (fun _ _ _ h => h) (fun K hK => ?_)
    go_simp
    refine hK _ ?_
    clear hK K
    refine c_nil ?_
    refine p_readC rfl ?_
    refine c_value rfl (.pointer (some ⟨w.heap.size, 0, none⟩)) (fun u hu => by go_simp) (fun _ _ _ h => h) (fun K hK => ?_)
    go_simp
    refine hK _ ?_
    clear hK K
    refine c_nil ?_
    refine p_readC rfl ?_
    refine c_value rfl (.string xb) (fun u hu => by have hs := hu.2.cell 0 _ rfl; go_simp) (fun _ _ _ h => h) (fun K hK => ?_)
    go_simp
    refine hK _ ?_
    clear hK K
    refine c_nil ?_
    refine p_readC rfl ?_
    refine c_value rfl (.pointer (some ⟨w.heap.size, 1, none⟩)) (fun u hu => by go_simp) (fun _ _ _ h => h) (fun K hK => ?_)
    go_simp
    refine hK _ ?_
    clear hK K
    refine c_nil ?_
    refine p_readC rfl ?_
    refine c_value rfl (.string xk) (fun u hu => by have hs := hu.2.cell 1 _ rfl; go_simp) (fun _ _ _ h => h) (fun K hK => ?_)
    go_simp
    refine hK _ ?_
    clear hK K
    refine c_nil ?_
    refine p_readC rfl ?_
    refine c_value rfl (.agg #[.string xb, .string xk]) (fun u hu => by go_simp) (fun _ _ _ h => h) (fun K hK => ?_)
    go_simp
    refine hK _ ?_
    clear hK K
    refine c_nil ?_
    refine p_nilC ?_
    refine p_stepC rfl ?_
    refine drop_step kN rfl _ _ rfl mb rfl (xb, xk) rfl M HQ2.out.map ?_
    intro w3 hm hu
    have HQ3 : Hid (Qo w3 b mb L R) := by rw [← HL0.out]; exact HQ2.out.new hu hm
    have HO3 : Hid (Only mb w w3) := (Only.of_below HB2.out).trans (Only.of_upd hu)
    have HS3 : Hid (Blk w3 b [Value.int .i64 L, .map (some mb)] ∧ Blk w3 w.heap.size [Value.string xb, .string xk, .string xv, .bool xg]) := ⟨HQ3.out.blk, HX2.out.upd hu (fun e => by have := HQ.out.lt.2; omega)⟩
    clear hm hu
    go_wp2_with fail
    refine And.intro (fun _ => HS3.out) ?_
    refine p_endC ?_
    go_wp2_with fail
    (try simp only [Exit.inBlock, Exit.then])
    refine bodyPost_ret (results_none rfl _ _ _) rfl ?_
    exact ⟨rfl, HQ3.out, HO3.out⟩
  · have HL0 : Hid (setM M (xb, xk) z = R) := by have := HL.out; rwa [if_neg hz] at this
    clear HL
    have iz : (z == 0) = false := by simpa using hz
    go_wp2_with fail
    clear iz
    refine region_pickC (fun u => Blk u b [Value.int .i64 L, .map (some mb)] ∧ Blk u w.heap.size [Value.string xb, .string xk, .string xv, .bool xg]) 12 [0, 1, 2, 3, 4, 5, 7, 8, 11] [6, 9, 10, 12] Try.mixed (by kernel_rfl) rfl (by kernel_rfl) ⟨HQ2.out.blk, HX2.out⟩ ?_
    refine p_readC rfl ?_
    refine c_move rfl _ rfl (.pointer (some ⟨b, 0, none⟩)) rfl (fun _ _ _ h => h) (fun K hK => ?_)
    go_simp
    refine hK _ ?_
    clear hK K
    refine c_nil ?_
    refine p_readC rfl ?_
    refine c_value rfl (.pointer (some ⟨b, 0, none⟩)) (fun u hu => by go_simp) (fun _ _ _ h => h) (fun K hK => ?_)
    go_simp
    refine hK _ ?_
    clear hK K
    refine c_nil ?_
    refine p_readC rfl ?_
    refine c_value rfl (.pointer (some ⟨b, 1, none⟩)) (fun u hu => by go_simp) (fun _ _ _ h => h) (fun K hK => ?_)
    go_simp
    refine hK _ ?_
    clear hK K
    refine c_nil ?_
    refine p_readC rfl ?_
    refine c_value rfl (.map (some mb)) (fun u hu => by have hs := hu.1.cell 1 _ rfl; go_simp) (fun _ _ _ h => h) (fun K hK => ?_)
    go_simp
    refine hK _ ?_
    clear hK K
    refine c_nil ?_
    refine p_readC rfl ?_
    refine c_value rfl (.pointer (some ⟨w.heap.size, 0, none⟩)) (fun u hu => by go_simp) (fun _ _ _ h => h) (fun K hK => ?_)
    go_simp
    refine hK _ ?_
    clear hK K
    refine c_nil ?_
    refine p_readC rfl ?_
    refine c_value rfl (.string xb) (fun u hu => by have hs := hu.2.cell 0 _ rfl; go_simp) (fun _ _ _ h => h) (fun K hK => ?_)
    go_simp
    refine hK _ ?_
    clear hK K
    refine c_nil ?_
    refine p_readC rfl ?_
    refine c_value rfl (.pointer (some ⟨w.heap.size, 1, none⟩)) (fun u hu => by go_simp) (fun _ _ _ h => h) (fun K hK => ?_)
    go_simp
    refine hK _ ?_
    clear hK K
    refine c_nil ?_
    refine p_readC rfl ?_
    refine c_value rfl (.string xk) (fun u hu => by have hs := hu.2.cell 1 _ rfl; go_simp) (fun _ _ _ h => h) (fun K hK => ?_)
    go_simp
    refine hK _ ?_
    clear hK K
    refine c_nil ?_
    refine p_readC rfl ?_
    refine c_move rfl _ rfl (.int .i64 z) rfl (fun _ _ _ h => h) (fun K hK => ?_)
    go_simp
    refine hK _ ?_
    clear hK K
    refine c_nil ?_
    refine p_nilC ?_
    refine p_stepC rfl ?_
    go_wp2_with (go_at_call 37; refine Calls.mono (CB.out _) ?_; rintro e w3 ⟨rfl, hb⟩)
    have HX3 : Hid (Blk w3 w.heap.size [.string xb, .string xk, .string xv, .bool xg]) := Blk.below HX2.out hb HZ2.out
    have HQ3 : Hid (Qo w3 b mb L M) := HQ2.out.more hb
    have HB3 : Hid (Below w.heap.size w w3) := Below.trans HB2.out (hb.mono HB2.out.size)
    have HZ3 : Hid (w.heap.size < w3.heap.size) := Nat.lt_of_lt_of_le HZ2.out hb.size
    clear hb
    refine And.intro (fun _ => ⟨HQ3.out.blk, HX3.out⟩) ?_
    refine p_stepC rfl ?_
    go_wp2_with (go_at_call 37; refine Calls.mono (CK.out _) ?_; rintro e w4 ⟨rfl, hb⟩)
    have HX4 : Hid (Blk w4 w.heap.size [.string xb, .string xk, .string xv, .bool xg]) := Blk.below HX3.out hb HZ3.out
    have HQ4 : Hid (Qo w4 b mb L M) := HQ3.out.more hb
    have HB4 : Hid (Below w.heap.size w w4) := Below.trans HB3.out (hb.mono HB3.out.size)
    clear hb
    refine And.intro (fun _ => ⟨HQ4.out.blk, HX4.out⟩) ?_
    refine p_stepC rfl ?_
    go_wp2_with fail
    refine And.intro (fun _ => ⟨HQ4.out.blk, HX4.out⟩) ?_
    refine p_stepC rfl ?_
    refine lay_step kN rfl _ _ _ rfl mb rfl (xb, xk) rfl z rfl M HQ4.out.map ?_
    intro w5 hm hu
    have HQ5 : Hid (Qo w5 b mb L R) := by rw [← HL0.out]; exact HQ4.out.new hu hm
    have HO5 : Hid (Only mb w w5) := (Only.of_below HB4.out).trans (Only.of_upd hu)
    clear hm hu
    go_wp2_with fail
    refine And.intro (fun h9 => absurd h9 (by decide)) ?_
    refine p_endC ?_
    go_wp2_with fail
    dsimp [Act.put]
    go_end0
    exact ⟨rfl, HQ5.out, HO5.out⟩
end Go.Proofs.Ytepoodfihemmcaa.Qm
