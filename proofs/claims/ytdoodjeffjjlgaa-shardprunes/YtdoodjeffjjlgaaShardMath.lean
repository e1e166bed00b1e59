/- What the laws' loops say of shards: how long, how many, what a pruning leaves; plain mathematics. -/
import Derived.Test.YtdoodjeffjjlgaaShardDeal

import Derived.Test.YtdoodjeffjjlgaaVecOfN

namespace Go.Proofs.Ytdoodjeffjjlgaa.Sd

open Go.RowKit Go.Proofs.Ytdoodjeffjjlgaa.Vc Go.Proofs.Ytdoodjeffjjlgaa.Sp Go.Proofs.Ytdoodjeffjjlgaa.Rw Go.Proofs.Ytdoodjeffjjlgaa.Ch Go.Proofs.Ytdoodjeffjjlgaa.Se Go.Proofs.Ytdoodjeffjjlgaa.It Go.Proofs.Ytdoodjeffjjlgaa.Mk

set_option linter.unusedVariables false

set_option linter.unusedSimpArgs false

set_option maxRecDepth 100000

theorem seen_join {a b c : List Nat} (ha : a.length = 4) (hb : b.length = 4) (hc : c.length = 4) (h : V.leq a b = true) : V.leq a (V.join b c) = true := by
  obtain ⟨x0, x1, x2, x3, rfl⟩ := V.four ha
  obtain ⟨y0, y1, y2, y3, rfl⟩ := V.four hb
  obtain ⟨z0, z1, z2, z3, rfl⟩ := V.four hc
  rw [V.leq_iff] at h
  have : V.join [y0, y1, y2, y3] [z0, z1, z2, z3] = [max y0 z0, max y1 z1, max y2 z2, max y3 z3] := rfl
  rw [this, V.leq_iff]
  omega
theorem vec_any (a : List Nat) (o : Bool) (ha : V.Ok a) : ∃ h : List Nat, h.length = 4 ∧ ∀ w, Calls Try.prog 12 #[VV a o] w fun e w' => e = .returned (AV .u64 h) ∧ Below w.heap.size w w' :=
  ⟨V.few a o, by unfold V.few; split <;> simp [ha.len], fun w => vector_any a o w ha⟩
theorem Try.info_wz : (Try.prog.info? 42).map (fun i => (i.zero, i.size)) = some (some (.agg [Value.string ⟨#[]⟩, .string ⟨#[]⟩, .string ⟨#[]⟩, .bool false].toArray), 4) := by kernel_rfl
abbrev Vs := List (Nm × List (C.Vr I.Wt))
theorem ups_len (V : Vs) (n : Nm) (st : C.St) (y : I.Wt) : (ups V n st y).length ≤ V.length + 1 := by
  unfold ups
  split <;> simp
theorem upsL_len (st : C.St) : ∀ (L : List I.Wt) (V : Vs), (upsL V st L).length ≤ V.length + L.length
  | [], V => Nat.le_refl _
  | y :: L, V => by
    have h := upsL_len st L (ups V (I.key y) st y)
    have h2 := ups_len V (I.key y) st y
    show (upsL (ups V (I.key y) st y) st L).length ≤ _
    rw [List.length_cons]
    omega
theorem tot_le : ∀ {V : Vs} {m : Nat}, lim V m → tot V ≤ V.length * m
  | [], m, _ => Nat.zero_le _
  | x :: V, m, h => by
    have h1 := h x (List.mem_cons_self ..)
    have h2 := tot_le (V := V) (m := m) (fun y hy => h y (List.mem_cons_of_mem _ hy))
    unfold tot at h2 ⊢
    rw [List.map_cons, List.sum_cons, List.length_cons, Nat.succ_mul]
    omega
theorem tot_small {V : Vs} {m k : Nat} (h : lim V m) (hk : V.length ≤ k) (hm : m ≤ 1000) (hk2 : k ≤ 1000) : tot V ≤ 1000000 := by
  have h1 := tot_le h
  have h2 : V.length * m ≤ 1000 * 1000 := Nat.mul_le_mul (by omega) hm
  omega
theorem gone_tot : ∀ (V : Vs) (h : List Nat), goneA V h + tot (prA V h) = tot V
  | [], h => rfl
  | x :: V, h => by
    have h1 := gone_tot V h
    have h2 := keep_le x.2 h
    unfold goneA tot prA at h1 ⊢
    simp only [List.map_cons, List.sum_cons] at h1 ⊢
    omega
theorem lim_prA {V : Vs} {m : Nat} (h : lim V m) (hz : List Nat) : lim (prA V hz) m := fun x hx => by
  unfold prA at hx
  obtain ⟨y, hy, rfl⟩ := List.mem_map.1 hx
  have := h y hy
  have h2 := keep_le y.2 hz
  show (C.keep y.2 hz).length ≤ m
  omega
theorem getV_prA (V : Vs) (h : List Nat) (n : Nm) : getV (prA V h) n = C.keep (getV V n) h := by
  induction V with
  | nil => rfl
  | cons x V ih =>
    unfold getV prA at ih ⊢
    rw [List.map_cons, List.find?_cons, List.find?_cons]
    by_cases e : x.1 = n
    · simp only [decide_eq_true e]
      rfl
    · simp only [decide_eq_false e]
      exact ih
theorem up_all {w : World} {s : Nat} {G : Gm} (h : Sh w s G) : ∀ x ∈ vis G.E, C.Up x.2 := fun x hx => by
  obtain ⟨y, hy, rfl⟩ := List.mem_map.1 hx
  exact (h.chains y hy).up
theorem gone_twice : ∀ (V : Vs) (h : List Nat), (∀ x ∈ V, C.Up x.2) → goneA (prA V h) h = 0
  | [], h, _ => rfl
  | x :: V, h, hu => by
    have h1 := gone_twice V h (fun y hy => hu y (List.mem_cons_of_mem _ hy))
    have h2 := (hu x (List.mem_cons_self ..)).keep_keep h
    unfold goneA prA at h1 ⊢
    simp only [List.map_cons, List.sum_cons] at h1 ⊢
    rw [h1, h2]
    omega
theorem read_prA {V : Vs} {n : Nm} (hu : C.Up (getV V n)) {h f : List Nat} (hf : ∀ s : C.St, s.1.length = 4 → C.seen s h = true → C.seen s f = true) : C.read (getV (prA V h) n) f = C.read (getV V n) f := by
  rw [getV_prA]
  exact hu.read_keep hf
theorem rd_four {L : List (C.Vr I.Wt)} (hu : C.Up L) (h : List Nat) : (rdV L h).1.1.length = 4 := by
  unfold rdV
  cases e : C.read L h with
  | none => rfl
  | some x => exact hu.four x (hu.read e).1
/-- what a read answers, by letters -/
theorem rd_parts {L : List (C.Vr I.Wt)} (hu : C.Up L) (h : List Nat) : ∃ x0 x1 x2 x3 d, ∃ y : I.Wt, rdV L h = (([x0, x1, x2, x3], d), y) := by
  obtain ⟨x0, x1, x2, x3, e⟩ := V.four (rd_four hu h)
  exact ⟨x0, x1, x2, x3, (rdV L h).1.2, (rdV L h).2, by rw [← e]⟩
abbrev gr (r lb ch mb : Nat) (W : List Bt) (E : List En) (A : List Nat) : Gm := ⟨lb, ch, mb, r, W, E, A⟩
abbrev ga (lb ch mb : Nat) (W : List Bt) (E : List En) (A : List Nat) : Gm := gr 16 lb ch mb W E A
section

variable {rm lb ch mb : Nat} {W : List Bt} {E : List En} {A : List Nat} {u : World} {s : Nat}

theorem read_ga (k1 k2 : ByteArray) (at_ : List Nat) (h : Sh u s (gr rm lb ch mb W E A)) (hl : ∀ k ∈ (gr rm lb ch mb W E A).bl s, k < u.heap.size) (ha : at_.length = 4) (hlim : ∀ x ∈ vis E, x.2.length < 1000) :
    Calls Try.prog 22 #[.pointer (some ⟨s, 0, none⟩), .string k1, .string k2, AV .u64 at_] u fun e w' => e = .returned (.tuple #[.string (rdV (getV (vis E) (k1, k2)) at_).2.2.2.1, SV (rdV (getV (vis E) (k1, k2)) at_).1.1 (rdV (getV (vis E) (k1, k2)) at_).1.2, .bool ((C.read (getV (vis E) (k1, k2)) at_).isSome && !(rdV (getV (vis E) (k1, k2)) at_).2.2.2.2)]) ∧ Below u.heap.size u w' :=
  read_any s (gr rm lb ch mb W E A) k1 k2 at_ u h hl ha hlim
theorem versions_ga (h : Sh u s (gr rm lb ch mb W E A)) (hl : ∀ k ∈ (gr rm lb ch mb W E A).bl s, k < u.heap.size) (ht : tot (vis E) ≤ 1000000) :
    Calls Try.prog 29 #[.pointer (some ⟨s, 0, none⟩)] u fun e w' => e = .returned (.int .i64 (tot (vis E) : Int)) ∧ Below u.heap.size u w' :=
  versions_any s (gr rm lb ch mb W E A) u h hl ht
theorem waiting_ga (h : Sh u s (gr rm lb ch mb W E A)) :
    Calls Try.prog 26 #[.pointer (some ⟨s, 0, none⟩)] u fun e w' => e = .returned (.int .i64 (W.length : Int)) ∧ w' = u :=
  waiting_any s (gr rm lb ch mb W E A) u h
theorem prune_ga (z : List Nat) (hS : Sh u s (gr rm lb ch mb W E A)) (hl : ∀ k ∈ (gr rm lb ch mb W E A).bl s, k < u.heap.size) (h4 : z.length = 4) (hlim : ∀ x ∈ vis E, x.2.length < 1000) (ht : goneA (vis E) z ≤ 1000000) :
    Calls Try.prog 16 #[.pointer (some ⟨s, 0, none⟩), AV .u64 z] u fun e w' => e = .returned (.int .i64 (goneA (vis E) z : Int)) ∧ ∃ E', Sh w' s (gr rm lb ch mb W E' A) ∧ vis E' = prA (vis E) z ∧ Turn ((gr rm lb ch mb W E A).bl s) u w' ∧
      ∀ k ∈ (gr rm lb ch mb W E' A).bl s, (k ∈ (gr rm lb ch mb W E A).bl s ∨ u.heap.size ≤ k) ∧ k < w'.heap.size :=
  prune_any s (gr rm lb ch mb W E A) z u hS hl h4 hlim ht
theorem step_ga (b : Bt) (W2 : List Bt) (h : Sh u s (gr rm lb ch mb W E A)) (hl : ∀ k ∈ (gr rm lb ch mb W E A).bl s, k < u.heap.size) (hW : W = b :: W2) (m : Nat) (hlm : lim (vis E) m) (hm : m + b.L.length < 1000) :
    Calls Try.prog 14 #[.pointer (some ⟨s, 0, none⟩)] u fun r w' => r = .returned (.bool true) ∧ ∃ E' A', Sh w' s (gr rm lb ch mb W2 E' A') ∧ A' = V.with_ A b.s.2 (max (V.at_ A b.s.2) (V.at_ b.s.1 b.s.2)) ∧ vis E' = upsL (vis E) b.s b.L ∧ Turn ((gr rm lb ch mb W E A).bl s) u w' ∧
      ∀ k ∈ (gr rm lb ch mb W2 E' A').bl s, (k ∈ (gr rm lb ch mb W E A).bl s ∨ u.heap.size ≤ k) ∧ k < w'.heap.size := by
  refine Calls.mono (step_one s (gr rm lb ch mb W E A) b W2 u h hl hW m hlm hm) ?_
  rintro r w' ⟨rfl, E', h1, h2, h3, h4⟩
  exact ⟨rfl, E', _, h1, rfl, h2, h3, h4⟩
end

end Go.Proofs.Ytdoodjeffjjlgaa.Sd
