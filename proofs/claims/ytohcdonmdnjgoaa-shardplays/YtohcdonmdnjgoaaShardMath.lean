/- What the laws' loops say of shards: how long, how many, what a pruning leaves, what one transaction leaves; a vector by its parts; a deal's writes lie in memory of its own. -/
import Derived.Test.YtohcdonmdnjgoaaShardDeal

import Derived.Test.YtohcdonmdnjgoaaFrameVecN

import Derived.Test.YtohcdonmdnjgoaaVecAllF

namespace Go.Proofs.Ytohcdonmdnjgoaa.Vc

open Go.RowKit

set_option linter.unusedVariables false

set_option linter.unusedSimpArgs false

set_option maxRecDepth 100000

/-- the first j numbers modulo four -/
def part (a : List Nat) (j : Nat) : List Nat := (a.take j).map (· % 4) ++ a.drop j
theorem part_len (a : List Nat) (j : Nat) (h : a.length = 4) : (part a j).length = 4 := by simp [part, h]; omega
theorem part_step (a : List Nat) (j : Nat) (h : a.length = 4) (hj : j < 4) : (part a j).set j ((part a j).getD j 0 % 4) = part a (j + 1) := by
  obtain ⟨x, y, z, t, rfl⟩ := V.four h
  match j, hj with
  | 0, _ => rfl
  | 1, _ => rfl
  | 2, _ => rfl
  | 3, _ => rfl
theorem part_zero (a : List Nat) : part a 0 = a := by simp [part]
theorem part_all (a : List Nat) (h : a.length = 4) : part a 4 = V.few a true := by
  obtain ⟨x, y, z, t, rfl⟩ := V.four h
  rfl
theorem pre_row {w : World} {b : Nat} {l : List Nat} {own : Bool} (h : Blk w b (ks .u64 l ++ [Value.bool own])) : w.rangeAt b 0 (ks .u64 l) := fun j v hv => h.1 j v (by
  rw [List.getElem?_append_left]
  · exact hv
  · exact (List.getElem?_eq_some_iff.1 hv).1)
theorem Blk.setw {w : World} {b : Nat} {l : List Nat} {own : Bool} (h : Blk w b (ks .u64 l ++ [Value.bool own])) (j x : Nat) (hj : j < l.length) :
    Blk (w.setCell ⟨b, j, none⟩ (.int .u64 (x : Int))) b (ks .u64 (l.set j x) ++ [Value.bool own]) := by
  have hlen : (ks .u64 l ++ [Value.bool own]).length = l.length + 1 := by simp [ks_length]
  have c : w.cell? ⟨b, j, none⟩ = some (.int .u64 ((l.getD j 0 : Nat) : Int)) := h.cell j _ (by
    rw [List.getElem?_append_left (by rw [ks_length]; exact hj)]; simp [ks, hj])
  have e : ks .u64 (l.set j x) ++ [Value.bool own] = (ks .u64 l ++ [Value.bool own]).set j (.int .u64 (x : Int)) := by
    rw [ks_set, List.set_append_left _ _ (by rw [ks_length]; exact hj)]
  rw [e]
  refine ⟨fun i v hv => ?_, fun i hi => ?_⟩
  · rw [Nat.zero_add]
    by_cases e : j = i
    · subst e
      rw [List.getElem?_set_self (by rw [hlen]; omega)] at hv
      rw [← Option.some.inj hv]
      exact World.cell?_setCell_same _ _ _ c
    · rw [List.getElem?_set_ne e] at hv
      rw [World.cell?_setCell_other _ _ _ _ (by simp [e])]
      simpa using h.1 i v hv
  · rw [List.length_set] at hi
    obtain ⟨h1, h2⟩ := h.2 i hi
    exact ⟨World.isSome_setCells b [.int .u64 (x : Int)] j w _ h1, by simpa using h2⟩
theorem own_cell {w : World} {b : Nat} {l : List Nat} {own : Bool} (hl : l.length = 4) (h : Blk w b (ks .u64 l ++ [Value.bool own])) : w.cell? ⟨b, 4, none⟩ = some (.bool own) :=
  h.cell 4 _ (by rw [List.getElem?_append_right (by rw [ks_length, hl]; exact Nat.le_refl _), ks_length, hl]; rfl)
theorem num_cell {w : World} {b : Nat} {l : List Nat} {own : Bool} (j : Nat) (hj : j < l.length) (h : Blk w b (ks .u64 l ++ [Value.bool own])) : w.cell? ⟨b, j, none⟩ = some (.int .u64 ((l.getD j 0 : Nat) : Int)) ∧ w.frozen? ⟨b, j, none⟩ = false :=
  ⟨h.cell j _ (by rw [List.getElem?_append_left (by rw [ks_length]; exact hj)]; simp [ks, hj]), h.free j (by simp [ks_length]; omega)⟩
set_option maxHeartbeats 2000000 in
theorem vector_any (a : List Nat) (own : Bool) (w : World) (ha : V.Ok a) :
    Calls Try.prog 12 #[VV a own] w fun e w' => e = .returned (AV .u64 (V.few a own)) ∧ Below w.heap.size w w' := by
  have HA : Hid _ := ha.len
  have HI : Hid _ := size_v ha.len
  clear ha
  cases own with
  | false =>
    show Calls _ _ _ _ fun e w' => e = .returned (AV .u64 a) ∧ _
    go_enter Try.func12, Try.ntmps12
    go_wp2_with (first | refine blk_box rfl 46 _ rfl (ks .u64 a ++ [Value.bool false]) rfl ?_)
    intro w1 A1 B1 Z1
    go_wp2_with (first | refine arr_alloc rfl .u64 33 4 rfl Try.info_v ?_)
    intro w2 A2 B2 Z2
    have A1' := Blk.below A1 B2 (by omega)
    have c := own_cell HA.out A1'
    have HR : Hid _ := pre_row A1'
    have HA2 : Hid (Arr .u64 w2 (w.heap.size + 1) (List.replicate 4 0)) := A2
    have HB2 : Hid (Below w.heap.size w w2) := B1.trans (B2.mono (by omega))
    clear A1 B1 A2 B2 Z1 Z2 A1'
    go_wp2_with (first | refine row_load rfl .u64 33 _ rfl w.heap.size 0 rfl a HR.out 4 31 Try.underlying33 HI.out ?_ | refine arr_store rfl .u64 33 _ _ rfl (w.heap.size + 1) rfl a rfl _ HA2.out (by rw [HA.out]; rfl) HI.out ?_)
    intro u A U
    have HA9 : Hid (Arr .u64 u (w.heap.size + 1) a) := A
    have HB9 : Hid (Below w.heap.size w u) := Below.trans HB2.out (U.below (by omega))
    clear A U
    go_wp2_with fail
    refine bodyPost_ret (v := AV .u64 a) ?_ rfl ⟨rfl, HB9.out⟩
    exact res_arr (t := 33) Try.results12 _ .u64 (w.heap.size + 1) rfl a HA9.out 4 31 Try.underlying33 HI.out
  | true =>
    obtain ⟨r, HR⟩ : ∃ r, Hid (V.few a true = r) := ⟨_, rfl⟩
    have HRP : Hid (part a 4 = r) := by rw [← HR.out]; exact part_all a HA.out
    rw [HR.out]
    go_enter Try.func12, Try.ntmps12
    go_wp2_with (first | refine blk_box rfl 46 _ rfl (ks .u64 a ++ [Value.bool true]) rfl ?_)
    intro w1 A1 B1 Z1
    go_wp2_with (first | refine arr_alloc rfl .u64 33 4 rfl Try.info_v ?_)
    intro w2 A2 B2 Z2
    have A1' := Blk.below A1 B2 (by omega)
    have c := own_cell HA.out A1'
    have HP2 : Hid (Blk w2 w.heap.size (ks .u64 (part a 0) ++ [Value.bool true])) := by rw [part_zero]; exact A1'
    have HA2 : Hid (Arr .u64 w2 (w.heap.size + 1) (List.replicate 4 0)) := A2
    have HB2 : Hid (Below w.heap.size w w2) := B1.trans (B2.mono (by omega))
    clear A1 B1 A2 B2 Z1 Z2 A1'
    go_wp2_with fail
    clear c
    go_loopw [3] (fun i wr => ∃ j : Nat, j ≤ 4 ∧ i = .int .i64 j ∧ Hid (Blk wr w.heap.size (ks .u64 (part a j) ++ [Value.bool true])) ∧ Hid (Arr .u64 wr (w.heap.size + 1) (List.replicate 4 0)) ∧ Hid (Below w.heap.size w wr)) (fun i _ => 4 - (intOf i).toNat)
    case atStart => exact ⟨0, by omega, rfl, HP2, HA2, HB2⟩
    case round =>
      obtain ⟨j, hj, rfl, HPr, HAr, HBr⟩ := hrel
      clear HP2 HA2 HB2
      have HL : Hid _ := part_len a j HA.out
      by_cases hlt : j < 4
      · have ilt : (j : Int) < 4 := by omega
        obtain ⟨c, f⟩ := num_cell j (by rw [HL.out]; exact hlt) HPr.out
        have hset := Blk.setw HPr.out j ((part a j).getD j 0 % 4) (by rw [HL.out]; exact hlt)
        rw [part_step a j HA.out hlt] at hset
        generalize (part a j).getD j 0 = x at *
        have ex : (x : Int).tmod 4 = ((x % 4 : Nat) : Int) := by rw [Int.tmod_eq_emod_of_nonneg (by omega)]; rfl
        have HS : Hid _ := hset
        have HU : Hid (Upd w.heap.size wr (wr.setCell ⟨w.heap.size, j, none⟩ (.int .u64 ((x % 4 : Nat) : Int)))) := Upd.setCell _ _ _ _
        clear hset
        go_wp2_with fail
        go_roundw
        case rel => exact ⟨j + 1, by omega, by go_num, HS, Arr.upd HAr.out HU.out (by omega), Below.trans HBr.out (Upd.below HU.out (Nat.le_refl _))⟩
        case measure => simp [intOf]; omega
      · obtain rfl : j = 4 := by omega
        rw [HRP.out] at HPr HL
        have HRR : Hid _ := pre_row HPr.out
        have HIr : Hid _ := size_v HL.out
        go_wp2_with (first | refine row_load rfl .u64 33 _ rfl w.heap.size 0 rfl r HRR.out 4 31 Try.underlying33 HIr.out ?_ | refine arr_store rfl .u64 33 _ _ rfl (w.heap.size + 1) rfl r rfl _ HAr.out (by rw [HL.out]; rfl) HIr.out ?_)
        intro u A U
        have HA9 : Hid (Arr .u64 u (w.heap.size + 1) r) := A
        have HB9 : Hid (Below w.heap.size w u) := Below.trans HBr.out (U.below (by omega))
        clear A U
        go_wp2_with fail
        refine bodyPost_ret (v := AV .u64 r) ?_ rfl ⟨rfl, HB9.out⟩
        exact res_arr (t := 33) Try.results12 _ .u64 (w.heap.size + 1) rfl r HA9.out 4 31 Try.underlying33 HIr.out
theorem Try.size_vv : (Try.prog.info? 46).map (·.size) = some 5 := by kernel_rfl
theorem size_vv {l : List Nat} {own : Bool} (h : l.length = 4) : (Try.prog.info? 46).map (·.size) = some (ks .u64 l ++ [Value.bool own]).length := by
  rw [List.length_append, ks_length, h]; exact Try.size_vv
theorem eql_true (a b : List Nat) (ha : a.length = 4) (hb : b.length = 4) (h : a = b) (w : World) : (binOp .eql 33 (AV .u64 a) (AV .u64 b)).run Try.prog w = .ok (.bool true) w := by
  rw [eql_v a b ha hb w, decide_eq_true h]
theorem eql_false (a b : List Nat) (ha : a.length = 4) (hb : b.length = 4) (h : a ≠ b) (w : World) : (binOp .eql 33 (AV .u64 a) (AV .u64 b)).run Try.prog w = .ok (.bool false) w := by
  rw [eql_v a b ha hb w, decide_eq_false h]
theorem eql_as (a b : List Nat) (ha : a.length = 4) (hb : b.length = 4) (r : Bool) (h : decide (a = b) = r) (w : World) : (binOp .eql 33 (AV .u64 a) (AV .u64 b)).run Try.prog w = .ok (.bool r) w := by
  rw [eql_v a b ha hb w, h]
end Go.Proofs.Ytohcdonmdnjgoaa.Vc

namespace Go.Proofs.Ytohcdonmdnjgoaa.Sd

open Go.RowKit Go.Proofs.Ytohcdonmdnjgoaa.Vc Go.Proofs.Ytohcdonmdnjgoaa.Sp Go.Proofs.Ytohcdonmdnjgoaa.Rw Go.Proofs.Ytohcdonmdnjgoaa.Ch Go.Proofs.Ytohcdonmdnjgoaa.Se Go.Proofs.Ytohcdonmdnjgoaa.It Go.Proofs.Ytohcdonmdnjgoaa.Mk

set_option linter.unusedVariables false

set_option linter.unusedSimpArgs false

set_option maxRecDepth 100000

theorem seen_join {a b c : List Nat} (ha : a.length = 4) (hb : b.length = 4) (hc : c.length = 4) (h : V.leq a b = true) : V.leq a (V.join b c) = true := by
  obtain ⟨x0, x1, x2, x3, rfl⟩ := V.four ha
  obtain ⟨y0, y1, y2, y3, rfl⟩ := V.four hb
  obtain ⟨z0, z1, z2, z3, rfl⟩ := V.four hc
  rw [V.leq_iff] at h
  have : V.join [y0, y1, y2, y3] [z0, z1, z2, z3] = [max y0 z0, max y1 z1, max y2 z2, max y3 z3] := rfl
  rw [this, V.leq_iff]
  omega
theorem vec_any (a : List Nat) (o : Bool) (ha : V.Ok a) : ∃ h : List Nat, h.length = 4 ∧ ∀ w, Calls Try.prog 12 #[VV a o] w fun e w' => e = .returned (AV .u64 h) ∧ Below w.heap.size w w' :=
  ⟨V.few a o, by unfold V.few; split <;> simp [ha.len], fun w => vector_any a o w ha⟩
theorem Try.info_wz : (Try.prog.info? 42).map (fun i => (i.zero, i.size)) = some (some (.agg [Value.string ⟨#[]⟩, .string ⟨#[]⟩, .string ⟨#[]⟩, .bool false].toArray), 4) := by kernel_rfl
abbrev Vs := List (Nm × List (C.Vr I.Wt))
theorem ups_len (V : Vs) (n : Nm) (st : C.St) (y : I.Wt) : (ups V n st y).length ≤ V.length + 1 := by
  unfold ups
  split <;> simp
theorem upsL_len (st : C.St) : ∀ (L : List I.Wt) (V : Vs), (upsL V st L).length ≤ V.length + L.length
  | [], V => Nat.le_refl _
  | y :: L, V => by
    have h := upsL_len st L (ups V (I.key y) st y)
    have h2 := ups_len V (I.key y) st y
    show (upsL (ups V (I.key y) st y) st L).length ≤ _
    rw [List.length_cons]
    omega
theorem tot_le : ∀ {V : Vs} {m : Nat}, lim V m → tot V ≤ V.length * m
  | [], m, _ => Nat.zero_le _
  | x :: V, m, h => by
    have h1 := h x (List.mem_cons_self ..)
    have h2 := tot_le (V := V) (m := m) (fun y hy => h y (List.mem_cons_of_mem _ hy))
    unfold tot at h2 ⊢
    rw [List.map_cons, List.sum_cons, List.length_cons, Nat.succ_mul]
    omega
theorem tot_small {V : Vs} {m k : Nat} (h : lim V m) (hk : V.length ≤ k) (hm : m ≤ 1000) (hk2 : k ≤ 1000) : tot V ≤ 1000000 := by
  have h1 := tot_le h
  have h2 : V.length * m ≤ 1000 * 1000 := Nat.mul_le_mul (by omega) hm
  omega
theorem gone_tot : ∀ (V : Vs) (h : List Nat), goneA V h + tot (prA V h) = tot V
  | [], h => rfl
  | x :: V, h => by
    have h1 := gone_tot V h
    have h2 := keep_le x.2 h
    unfold goneA tot prA at h1 ⊢
    simp only [List.map_cons, List.sum_cons] at h1 ⊢
    omega
theorem lim_prA {V : Vs} {m : Nat} (h : lim V m) (hz : List Nat) : lim (prA V hz) m := fun x hx => by
  unfold prA at hx
  obtain ⟨y, hy, rfl⟩ := List.mem_map.1 hx
  have := h y hy
  have h2 := keep_le y.2 hz
  show (C.keep y.2 hz).length ≤ m
  omega
theorem getV_prA (V : Vs) (h : List Nat) (n : Nm) : getV (prA V h) n = C.keep (getV V n) h := by
  induction V with
  | nil => rfl
  | cons x V ih =>
    unfold getV prA at ih ⊢
    rw [List.map_cons, List.find?_cons, List.find?_cons]
    by_cases e : x.1 = n
    · simp only [decide_eq_true e]
      rfl
    · simp only [decide_eq_false e]
      exact ih
theorem up_all {w : World} {s : Nat} {G : Gm} (h : Sh w s G) : ∀ x ∈ vis G.E, C.Up x.2 := fun x hx => by
  obtain ⟨y, hy, rfl⟩ := List.mem_map.1 hx
  exact (h.chains y hy).up
theorem gone_twice : ∀ (V : Vs) (h : List Nat), (∀ x ∈ V, C.Up x.2) → goneA (prA V h) h = 0
  | [], h, _ => rfl
  | x :: V, h, hu => by
    have h1 := gone_twice V h (fun y hy => hu y (List.mem_cons_of_mem _ hy))
    have h2 := (hu x (List.mem_cons_self ..)).keep_keep h
    unfold goneA prA at h1 ⊢
    simp only [List.map_cons, List.sum_cons] at h1 ⊢
    rw [h1, h2]
    omega
theorem read_prA {V : Vs} {n : Nm} (hu : C.Up (getV V n)) {h f : List Nat} (hf : ∀ s : C.St, s.1.length = 4 → C.seen s h = true → C.seen s f = true) : C.read (getV (prA V h) n) f = C.read (getV V n) f := by
  rw [getV_prA]
  exact hu.read_keep hf
theorem rd_four {L : List (C.Vr I.Wt)} (hu : C.Up L) (h : List Nat) : (rdV L h).1.1.length = 4 := by
  unfold rdV
  cases e : C.read L h with
  | none => rfl
  | some x => exact hu.four x (hu.read e).1
/-- what a read answers, by letters -/
theorem rd_parts {L : List (C.Vr I.Wt)} (hu : C.Up L) (h : List Nat) : ∃ x0 x1 x2 x3 d, ∃ y : I.Wt, rdV L h = (([x0, x1, x2, x3], d), y) := by
  obtain ⟨x0, x1, x2, x3, e⟩ := V.four (rd_four hu h)
  exact ⟨x0, x1, x2, x3, (rdV L h).1.2, (rdV L h).2, by rw [← e]⟩
abbrev gr (r lb ch mb : Nat) (W : List Bt) (E : List En) (A : List Nat) : Gm := ⟨lb, ch, mb, r, W, E, A⟩
abbrev ga (lb ch mb : Nat) (W : List Bt) (E : List En) (A : List Nat) : Gm := gr 16 lb ch mb W E A
section

variable {rm lb ch mb : Nat} {W : List Bt} {E : List En} {A : List Nat} {u : World} {s : Nat}

theorem read_ga (k1 k2 : ByteArray) (at_ : List Nat) (h : Sh u s (gr rm lb ch mb W E A)) (hl : ∀ k ∈ (gr rm lb ch mb W E A).bl s, k < u.heap.size) (ha : at_.length = 4) (hlim : ∀ x ∈ vis E, x.2.length < 1000) :
    Calls Try.prog 22 #[.pointer (some ⟨s, 0, none⟩), .string k1, .string k2, AV .u64 at_] u fun e w' => e = .returned (.tuple #[.string (rdV (getV (vis E) (k1, k2)) at_).2.2.2.1, SV (rdV (getV (vis E) (k1, k2)) at_).1.1 (rdV (getV (vis E) (k1, k2)) at_).1.2, .bool ((C.read (getV (vis E) (k1, k2)) at_).isSome && !(rdV (getV (vis E) (k1, k2)) at_).2.2.2.2)]) ∧ Below u.heap.size u w' :=
  read_any s (gr rm lb ch mb W E A) k1 k2 at_ u h hl ha hlim
theorem versions_ga (h : Sh u s (gr rm lb ch mb W E A)) (hl : ∀ k ∈ (gr rm lb ch mb W E A).bl s, k < u.heap.size) (ht : tot (vis E) ≤ 1000000) :
    Calls Try.prog 29 #[.pointer (some ⟨s, 0, none⟩)] u fun e w' => e = .returned (.int .i64 (tot (vis E) : Int)) ∧ Below u.heap.size u w' :=
  versions_any s (gr rm lb ch mb W E A) u h hl ht
theorem waiting_ga (h : Sh u s (gr rm lb ch mb W E A)) :
    Calls Try.prog 26 #[.pointer (some ⟨s, 0, none⟩)] u fun e w' => e = .returned (.int .i64 (W.length : Int)) ∧ w' = u :=
  waiting_any s (gr rm lb ch mb W E A) u h
theorem prune_ga (z : List Nat) (hS : Sh u s (gr rm lb ch mb W E A)) (hl : ∀ k ∈ (gr rm lb ch mb W E A).bl s, k < u.heap.size) (h4 : z.length = 4) (hlim : ∀ x ∈ vis E, x.2.length < 1000) (ht : goneA (vis E) z ≤ 1000000) :
    Calls Try.prog 16 #[.pointer (some ⟨s, 0, none⟩), AV .u64 z] u fun e w' => e = .returned (.int .i64 (goneA (vis E) z : Int)) ∧ ∃ E', Sh w' s (gr rm lb ch mb W E' A) ∧ vis E' = prA (vis E) z ∧ Turn ((gr rm lb ch mb W E A).bl s) u w' ∧
      ∀ k ∈ (gr rm lb ch mb W E' A).bl s, (k ∈ (gr rm lb ch mb W E A).bl s ∨ u.heap.size ≤ k) ∧ k < w'.heap.size :=
  prune_any s (gr rm lb ch mb W E A) z u hS hl h4 hlim ht
theorem step_ga (b : Bt) (W2 : List Bt) (h : Sh u s (gr rm lb ch mb W E A)) (hl : ∀ k ∈ (gr rm lb ch mb W E A).bl s, k < u.heap.size) (hW : W = b :: W2) (m : Nat) (hlm : lim (vis E) m) (hm : m + b.L.length < 1000) :
    Calls Try.prog 14 #[.pointer (some ⟨s, 0, none⟩)] u fun r w' => r = .returned (.bool true) ∧ ∃ E' A', Sh w' s (gr rm lb ch mb W2 E' A') ∧ A' = V.with_ A b.s.2 (max (V.at_ A b.s.2) (V.at_ b.s.1 b.s.2)) ∧ vis E' = upsL (vis E) b.s b.L ∧ Turn ((gr rm lb ch mb W E A).bl s) u w' ∧
      ∀ k ∈ (gr rm lb ch mb W2 E' A').bl s, (k ∈ (gr rm lb ch mb W E A).bl s ∨ u.heap.size ≤ k) ∧ k < w'.heap.size := by
  refine Calls.mono (step_one s (gr rm lb ch mb W E A) b W2 u h hl hW m hlm hm) ?_
  rintro r w' ⟨rfl, E', h1, h2, h3, h4⟩
  exact ⟨rfl, E', _, h1, rfl, h2, h3, h4⟩
end

end Go.Proofs.Ytohcdonmdnjgoaa.Sd

namespace Go.Proofs.Ytohcdonmdnjgoaa.Sd

open Go.RowKit Go.Proofs.Ytohcdonmdnjgoaa.Vc Go.Proofs.Ytohcdonmdnjgoaa.Sp Go.Proofs.Ytohcdonmdnjgoaa.Rw Go.Proofs.Ytohcdonmdnjgoaa.Ch Go.Proofs.Ytohcdonmdnjgoaa.Se Go.Proofs.Ytohcdonmdnjgoaa.It Go.Proofs.Ytohcdonmdnjgoaa.Mk

set_option linter.unusedVariables false

set_option linter.unusedSimpArgs false

set_option maxRecDepth 100000

theorem fresh_n {L : List I.Wt} (h : I.okTo L L.length = true) (j : Nat) (hj : j < L.length) : ∀ y ∈ L.take j, I.key y ≠ I.key (L.getD j I.none_) := fun y hy => by
  rw [I.okTo, List.all_eq_true] at h
  have h1 := h j (List.mem_range.2 hj)
  rw [Bool.and_eq_true] at h1
  have h2 := h1.2
  rw [I.apart, List.all_eq_true] at h2
  obtain ⟨k, hk, rfl⟩ := List.mem_iff_getElem.1 hy
  rw [List.length_take] at hk
  have h3 := h2 k (List.mem_range.2 (by omega))
  rw [Bool.not_eq_true', decide_eq_false_iff_not] at h3
  rw [List.getElem_take]
  rwa [List.getD_eq_getElem?_getD, List.getElem?_eq_getElem (show k < L.length by omega)] at h3
theorem add_nil (st : C.St) (y : I.Wt) (hr : C.right st = true) : (C.add ([] : List (C.Vr I.Wt)) st y).1 = [(st, y)] := by
  unfold C.add
  rw [if_pos ⟨hr, rfl⟩]
  rfl
def one1 (st : C.St) (L : List I.Wt) : Vs := L.map fun y => (I.key y, [(st, y)])
theorem upsL_whole {st : C.St} {L : List I.Wt} (hr : C.right st = true) (h : I.okTo L L.length = true) : ∀ j, j ≤ L.length → upsL [] st (L.take j) = one1 st (L.take j)
  | 0, _ => by rw [List.take_zero]; rfl
  | j + 1, hj => by
    rw [upsL_step [] st L j (by omega), upsL_whole hr h j (by omega)]
    unfold ups
    rw [if_neg, add_nil st _ hr]
    · unfold one1
      rw [List.take_succ_eq_append_getElem (show j < L.length by omega), List.map_append, List.getD_eq_getElem?_getD, List.getElem?_eq_getElem (show j < L.length by omega)]
      rfl
    · rw [hasN_iff]
      unfold one1
      rw [List.map_map]
      intro hm
      obtain ⟨y, hy, e⟩ := List.mem_map.1 hm
      exact fresh_n h j (by omega) y hy e
theorem upsL_is {st : C.St} {L : List I.Wt} (hr : C.right st = true) (h : I.okTo L L.length = true) : upsL [] st L = one1 st L := by
  have := upsL_whole hr h L.length (Nat.le_refl _)
  rwa [List.take_length] at this
theorem getV_one (st : C.St) (y : I.Wt) (L : List I.Wt) : getV (one1 st (y :: L)) (I.key y) = [(st, y)] := by
  unfold getV one1
  rw [List.map_cons, List.find?_cons]
  simp
theorem tot_one (st : C.St) : ∀ L : List I.Wt, tot (one1 st L) = L.length
  | [] => rfl
  | y :: L => by
    have := tot_one st L
    unfold tot one1 at this ⊢
    rw [List.map_cons, List.map_cons, List.sum_cons, this, List.length_cons]
    simp
    omega
theorem lim_one (st : C.St) (L : List I.Wt) : ∀ x ∈ one1 st L, x.2.length < 1000 := fun x hx => by
  unfold one1 at hx
  obtain ⟨y, hy, rfl⟩ := List.mem_map.1 hx
  show 1 < 1000
  decide
theorem seen_self {a : List Nat} (d : Int) (ha : a.length = 4) : C.seen (a, d) a = true := by
  obtain ⟨a0, a1, a2, a3, rfl⟩ := V.four ha
  show V.leq _ _ = true
  rw [V.leq_iff]
  omega
theorem read_one {a : List Nat} (d : Int) (y : I.Wt) (ha : a.length = 4) : C.read [((a, d), y)] a = some ((a, d), y) := by
  unfold C.read
  rw [List.filter_cons_of_pos (by simpa using seen_self d ha)]
  rfl
theorem right_d {a : List Nat} {d : Int} (h : C.right (a, d) = true) : (1 ≤ d ∧ d ≤ 4) ∧ 1 ≤ V.at_ a d := by
  have h' : T.right a d = true := h
  unfold T.right at h'
  rw [Bool.and_eq_true, decide_eq_true_eq] at h'
  refine ⟨?_, h'.2⟩
  have h2 := h'.2
  unfold V.at_ at h2
  by_cases hk : V.known d = true
  · unfold V.known at hk
    exact of_decide_eq_true hk
  · rw [if_neg hk] at h2
    omega
theorem right_u {a : List Nat} {d : Int} (ha : a.length = 4) (h : C.right (a, d) = true) : V.at_ a d ≤ 1152921504606846976 := by
  have h' : T.right a d = true := h
  unfold T.right V.right at h'
  rw [Bool.and_eq_true, List.all_eq_true] at h'
  have h1 := h'.1
  obtain ⟨a0, a1, a2, a3, rfl⟩ := V.four ha
  have hd := (right_d h).1
  have e0 := of_decide_eq_true (h1 a0 (by simp))
  have e1 := of_decide_eq_true (h1 a1 (by simp))
  have e2 := of_decide_eq_true (h1 a2 (by simp))
  have e3 := of_decide_eq_true (h1 a3 (by simp))
  obtain rfl | rfl | rfl | rfl : d = 1 ∨ d = 2 ∨ d = 3 ∨ d = 4 := by omega
  · exact e0
  · exact e1
  · exact e2
  · exact e3
theorem read_under {a : List Nat} {d : Int} (y : I.Wt) (ha : a.length = 4) (h : C.right (a, d) = true) : C.read [((a, d), y)] (V.with_ a d (V.at_ a d - 1)) = none := by
  have hs : C.seen (a, d) (V.with_ a d (V.at_ a d - 1)) = false := by
    obtain ⟨hd, hn⟩ := right_d h
    clear h
    obtain ⟨a0, a1, a2, a3, rfl⟩ := V.four ha
    show V.leq _ _ = false
    rw [← Bool.not_eq_true]
    obtain rfl | rfl | rfl | rfl : d = 1 ∨ d = 2 ∨ d = 3 ∨ d = 4 := by omega
    · have e : V.with_ [a0, a1, a2, a3] 1 (V.at_ [a0, a1, a2, a3] 1 - 1) = [a0 - 1, a1, a2, a3] := rfl
      have e2 : V.at_ [a0, a1, a2, a3] 1 = a0 := rfl
      rw [e, V.leq_iff]; omega
    · have e : V.with_ [a0, a1, a2, a3] 2 (V.at_ [a0, a1, a2, a3] 2 - 1) = [a0, a1 - 1, a2, a3] := rfl
      have e2 : V.at_ [a0, a1, a2, a3] 2 = a1 := rfl
      rw [e, V.leq_iff]; omega
    · have e : V.with_ [a0, a1, a2, a3] 3 (V.at_ [a0, a1, a2, a3] 3 - 1) = [a0, a1, a2 - 1, a3] := rfl
      have e2 : V.at_ [a0, a1, a2, a3] 3 = a2 := rfl
      rw [e, V.leq_iff]; omega
    · have e : V.with_ [a0, a1, a2, a3] 4 (V.at_ [a0, a1, a2, a3] 4 - 1) = [a0, a1, a2, a3 - 1] := rfl
      have e2 : V.at_ [a0, a1, a2, a3] 4 = a3 := rfl
      rw [e, V.leq_iff]; omega
  unfold C.read
  rw [List.filter_cons_of_neg (by simp [hs])]
  rfl
theorem at_applied {a : List Nat} {d : Int} (ha : a.length = 4) (h : C.right (a, d) = true) : V.at_ (V.with_ V.zeros d (max (V.at_ V.zeros d) (V.at_ a d))) d = V.at_ a d := by
  obtain ⟨hd, hn⟩ := right_d h
  obtain rfl | rfl | rfl | rfl : d = 1 ∨ d = 2 ∨ d = 3 ∨ d = 4 := by omega
  · show max 0 (V.at_ a 1) = _; omega
  · show max 0 (V.at_ a 2) = _; omega
  · show max 0 (V.at_ a 3) = _; omega
  · show max 0 (V.at_ a 4) = _; omega
end Go.Proofs.Ytohcdonmdnjgoaa.Sd

namespace Go.Proofs.Ytohcdonmdnjgoaa.It

open Go.RowKit Go.Proofs.Ytohcdonmdnjgoaa.Vc Go.Proofs.Ytohcdonmdnjgoaa.Sp

set_option linter.unusedVariables false

set_option linter.unusedSimpArgs false

set_option maxRecDepth 100000

set_option maxHeartbeats 16000000 in
theorem deal_new (l : List Nat) (d : Int) (mo : Bool) (v : Value) (L : List I.Pt) (w : World) (hl : V.Ok l) (hd : (Lit.int .i64 d).wf = true) (hL : IsPs w v L) (hP : ∀ p ∈ L, I.POk p) :
    Calls Try.prog 11 #[DV l d mo v true] w fun e w' => ∃ v', e = .returned (TV (T.mark l d true).1 (T.mark l d true).2 v') ∧ IsWs w' v' (I.dealW true L) ∧ Below w.heap.size w w' ∧ ∀ b, v'.ownBlock = some b → w.heap.size ≤ b := by
  have hA : V.Ok (T.mark l d true).1 := T.mark_ok hl d true
  have CM := Lib.hid (fun w => mark_any l d true w hl hd)
  obtain ⟨D, HD⟩ : ∃ z, Hid ((T.mark l d true).2 = z) := ⟨_, rfl⟩
  obtain ⟨A, HAA⟩ : ∃ z, Hid ((T.mark l d true).1 = z) := ⟨_, rfl⟩
  rw [HD.out, HAA.out] at CM
  rw [HAA.out] at hA
  rw [HD.out, HAA.out]
  obtain ⟨a0, a1, a2, a3, rfl⟩ := V.four hA.len
  obtain ⟨l0, l1, l2, l3, rfl⟩ := V.four hl.len
  obtain ⟨sa, cap, rfl⟩ := hL.nilOrSome
  obtain ⟨n, HN⟩ : ∃ n, Hid (L.length = n) := ⟨_, rfl⟩
  have HL := Lib.hid hL
  rw [HN.out] at HL
  rw [HN.out]
  have CW : Hid (∀ u, Below w.heap.size w u → Calls Try.prog 37 #[.slice sa n cap, .int .i64 8, .bool true] u fun e w' => ∃ v', e = .returned v' ∧ OW 42 w' u.heap.size v' (I.wrs 8 true L []) ∧ Below u.heap.size u w') := fun u hu => writes_true _ L 8 u (IsPs.below HL.out hu) hP (by omega)
  obtain ⟨R, HR⟩ : ∃ r, Hid (I.wrs 8 true L [] = r) := ⟨_, rfl⟩
  rw [HR.out] at CW
  obtain ⟨FR, HFR⟩ : ∃ r, Hid (I.dealW true L = r) := ⟨_, rfl⟩
  rw [HFR.out]
  clear hA hl hd hL hP
  go_enter Try.func11, Try.ntmps11
  go_wp2_with (first | refine blk_box rfl 40 _ rfl [.int .u64 (l0 : Int), .int .u64 (l1 : Int), .int .u64 (l2 : Int), .int .u64 (l3 : Int), .int .i64 d, .bool mo, .slice sa n cap, .bool true] rfl ?_)
  intro w1 A1 B1 Z1
  go_wp2_with (first | refine blk_alloc rfl 51 (ks .u64 [0, 0, 0, 0] ++ [Value.int .i64 0, .slice none 0 0]) rfl Try.info_itx ?_)
  intro w2 A2 B2 Z2
  have HA2 : Hid (Blk w2 w.heap.size [.int .u64 (l0 : Int), .int .u64 (l1 : Int), .int .u64 (l2 : Int), .int .u64 (l3 : Int), .int .i64 d, .bool mo, .slice sa n cap, .bool true]) := Blk.below A1 B2 (by omega)
  have HB2 : Hid (Blk w2 (w.heap.size + 1) (ks .u64 [0, 0, 0, 0] ++ [Value.int .i64 0, .slice none 0 0])) := A2
  have HW2 : Hid (Below w.heap.size w w2) := B1.trans (B2.mono (by omega))
  have HZ2 : Hid (w.heap.size + 1 < w2.heap.size) := by show _ < _; omega
  have q7 := HA2.out.cell 7 (.bool true) rfl
  clear A1 B1 A2 B2 Z1 Z2
  have q5 := HA2.out.cell 5 (.bool mo) rfl
  have f5 := HA2.out.free 5 (by simp)
  have U3 : Upd w.heap.size w2 (w2.setCell ⟨w.heap.size, 5, none⟩ (.bool true)) := Upd.setCell _ _ _ _
  have HA3 : Hid (Blk (w2.setCell ⟨w.heap.size, 5, none⟩ (.bool true)) w.heap.size [.int .u64 (l0 : Int), .int .u64 (l1 : Int), .int .u64 (l2 : Int), .int .u64 (l3 : Int), .int .i64 d, .bool true, .slice sa n cap, .bool true]) := Blk.setc HA2.out 5 (by simp) (.bool true)
  have HB3 : Hid (Blk (w2.setCell ⟨w.heap.size, 5, none⟩ (.bool true)) (w.heap.size + 1) (ks .u64 [0, 0, 0, 0] ++ [Value.int .i64 0, .slice none 0 0])) := Blk.upd HB2.out U3 (by omega)
  have HW3 : Hid (Below w.heap.size w (w2.setCell ⟨w.heap.size, 5, none⟩ (.bool true))) := Below.trans HW2.out (U3.below (by omega))
  have HZ3 : Hid (w.heap.size + 1 < (w2.setCell ⟨w.heap.size, 5, none⟩ (.bool true)).heap.size) := by show _ < _; rw [U3.size]; exact HZ2.out
  go_wp2_with fail
  generalize (w2.setCell ⟨w.heap.size, 5, none⟩ (.bool true)) = w3 at *
  clear HA2 HB2 HW2 HZ2 U3 q5 f5 q7
  have HA2 := HA3
  have HB2 := HB3
  have HW2 := HW3
  have HZ2 := HZ3
  clear HA3 HB3 HW3 HZ3
  have hz2 := HZ2.out
  have KM : Hid (∀ u, Below w3.heap.size w3 u → u.rangeAt w.heap.size 0 [.int .u64 (l0 : Int), .int .u64 (l1 : Int), .int .u64 (l2 : Int), .int .u64 (l3 : Int), .int .i64 d, .bool true]) := fun u hu j v hv => (Blk.below HA2.out hu (Nat.lt_of_succ_lt HZ2.out)).1 j v (by have : j < 6 := (List.getElem?_eq_some_iff.1 hv).1; match j, this with | 0, _ => exact hv | 1, _ => exact hv | 2, _ => exact hv | 3, _ => exact hv | 4, _ => exact hv | 5, _ => exact hv)
  have K6 : Hid (∀ u, Below w3.heap.size w3 u → u.cell? ⟨w.heap.size, 6, none⟩ = some (.slice sa n cap)) := fun u hu => (Blk.below HA2.out hu (Nat.lt_of_succ_lt HZ2.out)).cell 6 _ rfl
  have XM : Hid (∀ u, Calls Try.prog 36 [.agg [.int .u64 (l0 : Int), .int .u64 (l1 : Int), .int .u64 (l2 : Int), .int .u64 (l3 : Int), .int .i64 d, .bool true].toArray].toArray u fun e u' => e = .returned (.agg [Value.int .u64 (a0 : Int), .int .u64 (a1 : Int), .int .u64 (a2 : Int), .int .u64 (a3 : Int), .int .i64 D].toArray) ∧ Below u.heap.size u u') := fun u => CM.out u
  have XW : Hid (∀ u, Below w3.heap.size w3 u → Calls Try.prog 37 [.slice sa n cap, .int .i64 8, .bool true].toArray u fun e u' => ∃ v, e = .returned v ∧ Below u.heap.size u u' ∧ (Spc.ow 42 w3.heap.size R).S v ∧ (Spc.ow 42 w3.heap.size R).T u' v) := fun u hu => (CW.out u (Below.trans HW2.out (hu.mono HW2.out.size))).mono fun e u' ⟨v', he, ho, hb⟩ => ⟨v', he, hb, by obtain ⟨av, cv, ev, _⟩ := ho.is.is; exact ⟨av, cv, ev⟩, OW.mono ho hu.size⟩
  go_wp2_with fail
  refine region_relt 8 [Spc.eq (.pointer (some ⟨w.heap.size, 0, none⟩)), Spc.eq (.agg [.int .u64 (l0 : Int), .int .u64 (l1 : Int), .int .u64 (l2 : Int), .int .u64 (l3 : Int), .int .i64 d, .bool true].toArray), Spc.eq (.agg [Value.int .u64 (a0 : Int), .int .u64 (a1 : Int), .int .u64 (a2 : Int), .int .u64 (a3 : Int), .int .i64 D].toArray), Spc.eq (.pointer (some ⟨w.heap.size, 6, none⟩)), Spc.eq (.slice sa n cap), Spc.ow 42 w3.heap.size R, Spc.tx 42 w3.heap.size [a0, a1, a2, a3] D R, Spc.row w3.heap.size 51 (ks .u64 [0, 0, 0, 0] ++ [Value.int .i64 0, .slice none 0 0])] Try.mixed (by kernel_rfl) ?_
  refine r_value rfl (fun u hu hn => by go_simp) (fun K hK => ?_)
  go_simp
  refine hK _ ?_
  clear hK K
  refine r_blk_load rfl 37 _ rfl w.heap.size 0 rfl (by intro u hu hn; exact KM.out u hu) _ Try.underlying37 rfl Try.size_mk (fun K hK => ?_)
  go_simp
  refine hK _ ?_
  clear hK K
  refine r_callv rfl 36 Try.f36 Try.func36 rfl rfl _ _ rfl _ rfl (by intro u hu hn; exact XM.out u) (fun K hK => ?_)
  go_simp
  refine hK _ ?_
  clear hK K
  refine r_value rfl (fun u hu hn => by go_simp) (fun K hK => ?_)
  go_simp
  refine hK _ ?_
  clear hK K
  refine r_value rfl (fun u hu hn => by have hc := K6.out u hu; go_simp) (fun K hK => ?_)
  go_simp
  refine hK _ ?_
  clear hK K
  refine r_call rfl 37 Try.f37 Try.func37 rfl rfl _ _ rfl _ rfl (by intro u hu hn; exact XW.out u hu) (fun v hv K hK => ?_)
  obtain ⟨s1, c1, rfl⟩ := hv
  go_simp
  refine hK _ ?_
  clear hK K
  refine r_fact rfl (TV [a0, a1, a2, a3] D (.slice s1 R.length c1)) ⟨_, _, rfl⟩ (fun u hu hn => ⟨by unfold TV ks; go_simp, ⟨_, rfl, hn.get 5 0 rfl rfl _ rfl⟩⟩) (fun v hv K hK => ?_)
  obtain ⟨s2, c2, rfl⟩ := hv
  go_simp
  refine hK _ ?_
  clear hK K
  refine r_newr rfl 51 rfl Try.info_itx (fun u hu => hu.size) (fun v hv K hK => ?_)
  obtain ⟨b3, rfl⟩ := hv
  go_simp
  refine hK _ ?_
  clear hK K
  refine r_nil ?_
  intro u hu hF
  obtain ⟨b4, eb, hB, hrow⟩ := hF 0 _ rfl
  obtain rfl : b3 = b4 := by injection eb with h; injection h with h; injection h
  obtain ⟨v', ev, hO⟩ := hF 1 _ rfl
  obtain rfl := tv_inj ev
  have hblk := Blk.of_row hrow
  have hlt : b3 < u.heap.size := by
    rcases Nat.lt_or_ge b3 u.heap.size with h | h
    · exact h
    · rw [Array.getElem?_eq_none h] at hrow; cases hrow
  have HBu : Hid (Blk u (w.heap.size + 1) (ks .u64 [0, 0, 0, 0] ++ [Value.int .i64 0, .slice none 0 0])) := Blk.below HB2.out hu HZ2.out
  have HWu : Hid (Below w.heap.size w u) := Below.trans HW2.out (hu.mono HW2.out.size)
  have HO := Lib.hid hO
  have HNE := Lib.hid (OW.ne_row hO hrow (by decide))
  have HW3S : Hid (w.heap.size ≤ w3.heap.size) := HW2.out.size
  have hz3 := HZ2.out
  have hb3 : w.heap.size + 1 < b3 := by omega
  clear ev eb hF hu KM K6 XM XW hO hrow
  refine blk_store rfl 51 _ _ rfl b3 rfl [Value.int .u64 (a0 : Int), .int .u64 (a1 : Int), .int .u64 (a2 : Int), .int .u64 (a3 : Int), .int .i64 D, .slice s2 R.length c2] rfl _ hblk rfl Try.size_itx rfl ?_
  intro k A U
  have HA9 : Hid (Blk k b3 [Value.int .u64 (a0 : Int), .int .u64 (a1 : Int), .int .u64 (a2 : Int), .int .u64 (a3 : Int), .int .i64 D, .slice s2 R.length c2]) := A
  have HW9 : Hid (Below w.heap.size w k) := Below.trans HWu.out (U.below (by omega))
  have HO9 := Lib.hid (OW.far HO.out U HNE.out)
  have HB9 : Hid (Blk k (w.heap.size + 1) (ks .u64 [0, 0, 0, 0] ++ [Value.int .i64 0, .slice none 0 0])) := Blk.upd HBu.out U (by omega)
  have HL9 : Hid (b3 < k.heap.size) := by show _ < _; rw [U.size]; exact hlt
  have HS9 : Hid (w3.heap.size ≤ k.heap.size) := by show _ ≤ _; have := HL9.out; omega
  clear A U hblk HBu HWu HO HNE hlt
  have q5 := HA9.out.cell 5 _ rfl
  by_cases hz : R.length = 0
  · have iz : (((R.length : Nat) : Int) == 0) = true := by simp [hz]
    have HF9 : Hid (FR = [I.dflt]) := by show _ = _; rw [← HFR.out]; unfold I.dealW; rw [if_pos rfl, HR.out, if_pos hz]
    obtain ⟨m, HM⟩ : ∃ z, Hid (R.length = z) := ⟨_, rfl⟩
    rw [HM.out] at iz HA9 q5
    rw [HM.out]
    clear hz HO9
    go_wp2_with (first | refine build_iw rfl _ rfl (⟨#[98, 48]⟩, ⟨#[97]⟩, ⟨#[118]⟩, false) rfl ?_)
    intro k1 A1 B1 Z1
    have HA10 : Hid (Blk k1 b3 [Value.int .u64 (a0 : Int), .int .u64 (a1 : Int), .int .u64 (a2 : Int), .int .u64 (a3 : Int), .int .i64 D, .slice s2 m c2]) := Blk.below HA9.out B1 HL9.out
    have HB10 : Hid (Blk k1 (w.heap.size + 1) (ks .u64 [0, 0, 0, 0] ++ [Value.int .i64 0, .slice none 0 0])) := Blk.below HB9.out B1 (by have := HL9.out; omega)
    have HW10 : Hid (Below w.heap.size w k1) := Below.trans HW9.out (B1.mono HW9.out.size)
    have HG10 : Hid (Blk k1 k.heap.size (wc I.dflt)) := A1
    have hk1z : Hid (k.heap.size < k1.heap.size) := by show _ < _; omega
    have hl9 := HL9.out
    clear A1 B1 Z1 HA9 HB9 HW9 HL9 HS9 q5
    have q5 := HA10.out.cell 5 _ rfl
    have f5 := HA10.out.free 5 (by simp)
    have U11 : Upd b3 k1 (k1.setCell ⟨b3, 5, none⟩ (.slice (some ⟨k.heap.size, 0, none⟩) 1 1)) := Upd.setCell _ _ _ _
    have HA11 : Hid (Blk (k1.setCell ⟨b3, 5, none⟩ (.slice (some ⟨k.heap.size, 0, none⟩) 1 1)) b3 [Value.int .u64 (a0 : Int), .int .u64 (a1 : Int), .int .u64 (a2 : Int), .int .u64 (a3 : Int), .int .i64 D, .slice (some ⟨k.heap.size, 0, none⟩) 1 1]) := Blk.setc HA10.out 5 (by simp) (.slice (some ⟨k.heap.size, 0, none⟩) 1 1)
    have HB11 : Hid (Blk (k1.setCell ⟨b3, 5, none⟩ (.slice (some ⟨k.heap.size, 0, none⟩) 1 1)) (w.heap.size + 1) (ks .u64 [0, 0, 0, 0] ++ [Value.int .i64 0, .slice none 0 0])) := Blk.upd HB10.out U11 (by omega)
    have HG11 : Hid (Blk (k1.setCell ⟨b3, 5, none⟩ (.slice (some ⟨k.heap.size, 0, none⟩) 1 1)) k.heap.size (wc I.dflt)) := Blk.upd HG10.out U11 (by omega)
    have HW11 : Hid (Below w.heap.size w (k1.setCell ⟨b3, 5, none⟩ (.slice (some ⟨k.heap.size, 0, none⟩) 1 1))) := Below.trans HW10.out (U11.below (by omega))
    have HZ11 : Hid (k.heap.size < (k1.setCell ⟨b3, 5, none⟩ (.slice (some ⟨k.heap.size, 0, none⟩) 1 1)).heap.size) := by show _ < _; rw [U11.size]; exact hk1z.out
    clear U11 HA10 HB10 HG10 HW10 hk1z
    go_wp2_with (first | refine blk_load rfl 51 _ rfl b3 rfl [Value.int .u64 (a0 : Int), .int .u64 (a1 : Int), .int .u64 (a2 : Int), .int .u64 (a3 : Int), .int .i64 D, .slice (some ⟨k.heap.size, 0, none⟩) 1 1] HA11.out _ Try.underlying51 rfl Try.size_itx ?_ | refine blk_store rfl 51 _ _ rfl (w.heap.size + 1) rfl [Value.int .u64 (a0 : Int), .int .u64 (a1 : Int), .int .u64 (a2 : Int), .int .u64 (a3 : Int), .int .i64 D, .slice (some ⟨k.heap.size, 0, none⟩) 1 1] rfl _ HB11.out rfl Try.size_itx rfl ?_)
    intro u9 A9 U9
    have HA12 : Hid (Blk u9 (w.heap.size + 1) [Value.int .u64 (a0 : Int), .int .u64 (a1 : Int), .int .u64 (a2 : Int), .int .u64 (a3 : Int), .int .i64 D, .slice (some ⟨k.heap.size, 0, none⟩) 1 1]) := A9
    have HW12 : Hid (Below w.heap.size w u9) := Below.trans HW11.out (U9.below (by omega))
    have HI12 : Hid (IsWs u9 (.slice (some ⟨k.heap.size, 0, none⟩) 1 1) [I.dflt]) := IsWs.one (Blk.upd HG11.out U9 (by omega)) (by rw [U9.size]; exact HZ11.out)
    clear A9 U9
    go_wp2_with fail
    refine bodyPost_ret (v := TV [a0, a1, a2, a3] D (.slice (some ⟨k.heap.size, 0, none⟩) 1 1)) ?_ rfl ⟨_, rfl, (by rw [HF9.out]; exact HI12.out), HW12.out, fun b hb => (by have h9 : k.heap.size = b := Option.some.inj hb; omega)⟩
    exact res_blk1 (t := 51) Try.results11 _ (w.heap.size + 1) rfl _ HA12.out _ Try.underlying51 rfl Try.size_itx
  · have iz : (((R.length : Nat) : Int) == 0) = false := by rw [beq_eq_false_iff_ne]; omega
    have HF9 : Hid (FR = R) := by show _ = _; rw [← HFR.out]; unfold I.dealW; rw [if_pos rfl, HR.out, if_neg hz]
    obtain ⟨m, HM⟩ : ∃ z, Hid (R.length = z) := ⟨_, rfl⟩
    rw [HM.out] at iz HA9 q5 HO9
    rw [HM.out]
    clear hz
    go_wp2_with (first | refine blk_load rfl 51 _ rfl b3 rfl [Value.int .u64 (a0 : Int), .int .u64 (a1 : Int), .int .u64 (a2 : Int), .int .u64 (a3 : Int), .int .i64 D, .slice s2 m c2] HA9.out _ Try.underlying51 rfl Try.size_itx ?_ | refine blk_store rfl 51 _ _ rfl (w.heap.size + 1) rfl [Value.int .u64 (a0 : Int), .int .u64 (a1 : Int), .int .u64 (a2 : Int), .int .u64 (a3 : Int), .int .i64 D, .slice s2 m c2] rfl _ HB9.out rfl Try.size_itx rfl ?_)
    intro u9 A9 U9
    have HA12 : Hid (Blk u9 (w.heap.size + 1) [Value.int .u64 (a0 : Int), .int .u64 (a1 : Int), .int .u64 (a2 : Int), .int .u64 (a3 : Int), .int .i64 D, .slice s2 m c2]) := A9
    have HW12 : Hid (Below w.heap.size w u9) := Below.trans HW9.out (U9.below (by omega))
    have HO12 := Lib.hid (OW.far2 HO9.out U9 (by omega))
    clear A9 U9
    go_wp2_with fail
    refine bodyPost_ret (v := TV [a0, a1, a2, a3] D (.slice s2 m c2)) ?_ rfl ⟨_, rfl, (by rw [HF9.out]; exact IsWs.len (OW.is HO12.out) HM.out), HW12.out, fun b hb => Nat.le_trans HW3S.out (World.ownsRow.lt (HO12.out).own b hb).1⟩
    exact res_blk1 (t := 51) Try.results11 _ (w.heap.size + 1) rfl _ HA12.out _ Try.underlying51 rfl Try.size_itx
end Go.Proofs.Ytohcdonmdnjgoaa.It

namespace Go.Proofs.Ytohcdonmdnjgoaa.Sd

open Go.RowKit Go.Proofs.Ytohcdonmdnjgoaa.Vc Go.Proofs.Ytohcdonmdnjgoaa.Sp Go.Proofs.Ytohcdonmdnjgoaa.Rw Go.Proofs.Ytohcdonmdnjgoaa.Ch Go.Proofs.Ytohcdonmdnjgoaa.Se Go.Proofs.Ytohcdonmdnjgoaa.It Go.Proofs.Ytohcdonmdnjgoaa.Mk

set_option linter.unusedVariables false

set_option maxRecDepth 100000

theorem deal_fresh {w0 : World} {x : Dl} (hx : DlOk w0 x) (w : World) (hb : Below w0.heap.size w0 w) :
    Calls Try.prog 11 #[DV x.l x.d x.mo x.v true] w fun e w' => ∃ a cap, e = .returned (TV (dlS x).1 (dlS x).2 (.slice a (dlW x).length cap)) ∧ IsWs w' (.slice a (dlW x).length cap) (dlW x) ∧ Below w.heap.size w w' ∧ ∀ b ∈ ob (.slice a (dlW x).length cap), w.heap.size ≤ b ∧ b < w'.heap.size := by
  have hne : dlW x ≠ [] := fun e => by have := (dlW_len hx).1; rw [e] at this; simp at this
  refine Calls.mono (deal_new x.l x.d x.mo x.v x.L w hx.v hx.d (hx.puts.below hb) hx.ok) ?_
  rintro e w' ⟨v', rfl, h1, h2, h3⟩
  have h4 := ws_lt (L := dlW x) h1 hne
  obtain ⟨a, cap, rfl, _⟩ := h1.is
  exact ⟨a, cap, rfl, h1, h2, fun b hb => ⟨h3 b (mem_ob.1 hb), h4 b hb⟩⟩
/-- rows of writes as a part -/
def rW (v : Value) (L : List I.Wt) : Rg := ⟨ob v, fun w => IsWs w v L, fun w w' hk h => ws_st hk h⟩
end Go.Proofs.Ytohcdonmdnjgoaa.Sd
