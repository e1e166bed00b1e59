/- What the laws on chains need: versions told apart, vectors in blocks, stamps by their parts in blocks. -/
import Derived.Test.YtmajkapapbhabaaChainEx

import Derived.Test.YtmajkapapbhabaaVecOfN

import Derived.Test.YtmajkapapbhabaaRelG

namespace Go.Proofs.Ytmajkapapbhabaa.Ch

open Go.RowKit Go.Proofs.Ytmajkapapbhabaa.Vc Go.Proofs.Ytmajkapapbhabaa.Sp Go.Proofs.Ytmajkapapbhabaa.Rw Go.Proofs.Ytmajkapapbhabaa.Se

set_option linter.unusedVariables false

set_option linter.unusedSimpArgs false

set_option maxRecDepth 100000

theorem fields_vI : (Try.prog.fieldsOf 72).toList.map (fun f => (f.name, f.type, f.offset)) = [("Stamp", 34, 0), ("Value", 3, 5)] := by kernel_rfl
theorem under_vI : Try.prog.underlying 72 = some (.struct (Try.prog.fieldsOf 72)) := by kernel_rfl
theorem held_vI : Try.prog.stoodInHeld 72 = false := by kernel_rfl
theorem guardType_vI : Try.prog.eqGuardType Try.prog.depth 72 = false := by kernel_rfl
theorem eq_st9 (a : List Nat) (d : Int) (ha : a.length = 4) (w : World) : (Op.equalIn 9999 34 (SV a d) (SV a d)).run Try.prog w = .ok true w := by
  rw [show (9999 : Nat) = 9998 + 1 from rfl, SV, run_equalIn_struct w 9998 34 _ _ under_s held_s]
  have p1 : (part 3 (ks .u64 a ++ [Value.int .i64 d]).toArray 4).run Try.prog w = .ok (.int .i64 d) w := run_part_plain w plain_int (by
    rw [List.getElem?_toArray, List.getElem?_append_right (by rw [ks_length, ha]; exact Nat.le_refl _), ks_length, ha]; rfl)
  have p3 := part_at Try.underlying32 (fun w => Try.sizeOf32 w) a [Value.int .i64 d] ha w
  have q1 := eq_at Try.underlying32 9996 a a ha ha w
  have q2 : (Op.equalIn 9998 3 (.int .i64 d) (.int .i64 d)).run Try.prog w = .ok (d == d) w := run_equalIn_int w 9997 3 .i64 .i64 d d Try.underlying3
  obtain ⟨f1, f2, hL, g1, g2⟩ := two_of _ _ _ _ fields_s
  simp only [Prod.mk.injEq] at g1 g2
  obtain ⟨n1, t1, o1⟩ := g1
  obtain ⟨n2, t2, o2⟩ := g2
  rw [hL]
  have k1 : f1.name ≠ "_" := by rw [n1]; decide
  have k2 : f2.name ≠ "_" := by rw [n2]; decide
  simp only [Op.eqFields, if_pos k1, if_pos k2, t1, o1, t2, o2, Sem.run_bind, p1, p3, q1, q2, Result.andThen_ok]
  simp only [decide_true, Bool.not_true, Bool.false_eq_true, if_false, Sem.run_bind, p1, q2, Result.andThen_ok]
  simp [Sem.run_pure]
theorem part_st (l : List Nat) (d : Int) (u : Value) (h : l.length = 4) (w : World) : (part 34 ((ks .u64 l ++ [Value.int .i64 d]) ++ [u]).toArray 0).run Try.prog w = .ok (SV l d) w := by
  obtain ⟨x, y, z, t, rfl⟩ := V.four h
  have hs := fun w => Try.sizeOf34 w
  simp [part, isAgg, run_underlying under_s, hs, ks, SV, go_sem]
theorem eq_vI (x : C.Vr Nat) (hx : x.1.1.length = 4) (w : World) : (Op.equalIn 10000 72 ((vk num).val x) ((vk num).val x)).run Try.prog w = .ok true w := by
  obtain ⟨⟨a, d⟩, y⟩ := x
  dsimp only at hx
  rw [Kd.val, vk_stamp num ((a, d), y) hx]
  dsimp only
  rw [show (10000 : Nat) = 9999 + 1 from rfl, run_equalIn_struct w 9999 72 _ _ under_vI held_vI]
  have p1 : (part 3 ((ks .u64 a ++ [Value.int .i64 d]) ++ [num.f y]).toArray 5).run Try.prog w = .ok (.int .i64 (y : Int)) w := run_part_plain w plain_int (by
    rw [List.getElem?_toArray, List.getElem?_append_right (by rw [sv_len hx]; exact Nat.le_refl _), sv_len hx]; rfl)
  have p3 := part_st a d (num.f y) hx w
  have q1 := eq_st9 a d hx w
  have q2 : (Op.equalIn 9999 3 (.int .i64 (y : Int)) (.int .i64 (y : Int))).run Try.prog w = .ok ((y : Int) == (y : Int)) w := run_equalIn_int w 9998 3 .i64 .i64 _ _ Try.underlying3
  obtain ⟨f1, f2, hL, g1, g2⟩ := two_of _ _ _ _ fields_vI
  simp only [Prod.mk.injEq] at g1 g2
  obtain ⟨n1, t1, o1⟩ := g1
  obtain ⟨n2, t2, o2⟩ := g2
  rw [hL]
  have k1 : f1.name ≠ "_" := by rw [n1]; decide
  have k2 : f2.name ≠ "_" := by rw [n2]; decide
  simp only [Op.eqFields, if_pos k1, if_pos k2, t1, o1, t2, o2, Sem.run_bind, p1, p3, q1, q2, Result.andThen_ok]
  simp only [Bool.not_true, Bool.false_eq_true, if_false, Sem.run_bind, p1, q2, Result.andThen_ok]
  simp [Sem.run_pure]
theorem eql_vI (x : C.Vr Nat) (hx : x.1.1.length = 4) (w : World) : (binOp .eql 72 ((vk num).val x) ((vk num).val x)).run Try.prog w = .ok (.bool true) w := by
  have e : binOp .eql 72 ((vk num).val x) ((vk num).val x) = (do pure (.bool (← Op.equalIn 10000 72 ((vk num).val x) ((vk num).val x)))) := rfl
  rw [e]
  simp only [Sem.run_bind, eq_vI x hx, Result.andThen_ok, Sem.run_pure]
theorem neq_vI (x : C.Vr Nat) (hx : x.1.1.length = 4) (w : World) : (binOp .neq 72 ((vk num).val x) ((vk num).val x)).run Try.prog w = .ok (.bool false) w := by
  have e : binOp .neq 72 ((vk num).val x) ((vk num).val x) = (do pure (.bool (!(← Op.equalIn 10000 72 ((vk num).val x) ((vk num).val x))))) := rfl
  rw [e]
  simp only [Sem.run_bind, eq_vI x hx, Result.andThen_ok, Sem.run_pure]
  rfl
theorem guard_vI (r : BinOp) (x y : Operand) (a b : C.Vr Nat) (w : World) (h : r = .eql ∨ r = .neq) : (eqGuard r 72 x y ((vk num).val a) ((vk num).val b)).run Try.prog w = .ok () w := by
  unfold Kd.val
  rcases h with rfl | rfl <;> simp [eqGuard, guardType_vI]
theorem size_ks {l : List Nat} (h : l.length = 4) : (Try.prog.info? 32).map (·.size) = some (ks .u64 l).length := by rw [ks_length]; exact size_v h
theorem info_ks : (Try.prog.info? 32).map (fun i => (i.zero, i.size)) = some (some (.agg (ks .u64 (List.replicate 4 0)).toArray), (ks .u64 (List.replicate 4 0)).length) := Try.info_v
theorem one_ks (l : List Nat) : (ks .u64 l).all (fun v => v.oneCell') = true := by
  rw [List.all_eq_true]
  intro v hv
  obtain ⟨x, _, rfl⟩ := List.mem_map.1 hv
  rfl
theorem mk_cf {x : Mk} (h : x.1.1.length = 4) : mkd.cf x = ks .u64 x.1.1 ++ [Value.int .i64 x.1.2, Value.bool x.2] := by
  obtain ⟨⟨l, d⟩, own⟩ := x
  exact (mcell_eq h).trans (by rw [List.append_assoc]; rfl)
theorem zero_mk : mkd.cf mkd.none_ = [Value.int .u64 0, .int .u64 0, .int .u64 0, .int .u64 0, .int .i64 0, .bool false] := rfl
theorem info_mk : (Try.prog.info? 36).map (fun i => (i.zero, i.size)) = some (some (.agg (mkd.cf mkd.none_).toArray), (mkd.cf mkd.none_).length) := by rw [zero_mk]; kernel_rfl
theorem seen_join {a b c : List Nat} (ha : a.length = 4) (hb : b.length = 4) (hc : c.length = 4) (h : V.leq a b = true) : V.leq a (V.join b c) = true := by
  obtain ⟨x0, x1, x2, x3, rfl⟩ := V.four ha
  obtain ⟨y0, y1, y2, y3, rfl⟩ := V.four hb
  obtain ⟨z0, z1, z2, z3, rfl⟩ := V.four hc
  rw [V.leq_iff] at h
  have : V.join [y0, y1, y2, y3] [z0, z1, z2, z3] = [max y0 z0, max y1 z1, max y2 z2, max y3 z3] := rfl
  rw [this, V.leq_iff]
  omega
theorem vec_any (a : List Nat) (o : Bool) (ha : V.Ok a) : ∃ h : List Nat, h.length = 4 ∧ ∀ w, Calls Try.prog 10 #[.agg (ks .u64 a ++ [Value.bool o]).toArray] w fun e w' => e = .returned (.agg (ks .u64 h).toArray) ∧ Below w.heap.size w w' :=
  ⟨V.few a o, by unfold V.few; split <;> simp [ha.len], fun w => vector_any a o w ha⟩
end Go.Proofs.Ytmajkapapbhabaa.Ch
