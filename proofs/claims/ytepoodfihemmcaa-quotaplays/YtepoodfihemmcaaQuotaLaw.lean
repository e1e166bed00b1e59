/- The quota's laws: lists that came in are gone through. -/
import Derived.Test.YtepoodfihemmcaaQuotaEx

import Derived.Test.YtepoodfihemmcaaFramePuts

namespace Go.Proofs.Ytepoodfihemmcaa.Qm

open Go.RowKit Go.Instr Go.ChangeMaps Go.Proofs.Ytepoodfihemmcaa.It Go.Proofs.Ytepoodfihemmcaa.Q

set_option linter.unusedVariables false

set_option linter.unusedSimpArgs false

set_option maxRecDepth 100000

theorem elem_pl : Try.prog.elem 22 = 33 := by kernel_rfl
theorem index_pl (b o n cap j : Nat) (hj : j < n) (w : World) : (Instr.indexAt 22 (.slice (some ⟨b, o, none⟩) n cap) (.int .i64 (j : Int))).run Try.prog w = .ok (.pointer (some ⟨b, o + j, none⟩)) w := by
  rw [run_indexAt_slice w _ _ _ _ _ _ (by rw [elem_pl]; exact Try.underlying22), elem_pl]
  rw [if_pos ⟨by omega, by omega⟩, Try.sizeOf33]
  have e : (⟨b, o, none⟩ : Addr).add ((j : Int).toNat * 1) = ⟨b, o + j, none⟩ := by
    rw [Int.toNat_natCast, Nat.mul_one]
    unfold Addr.add
    split <;> simp_all
  simp
  rw [Int.toNat_natCast] at e
  simpa using e
theorem IsPs.slice {w : World} {v : Value} {L : List I.Pt} (h : IsPs w v L) : ∃ a c, v = .slice a L.length c := by
  obtain ⟨a, c, hv, _⟩ := h.is
  exact ⟨a, c, hv⟩
theorem IsWs.slice {w : World} {v : Value} {L : List I.Wt} (h : IsWs w v L) : ∃ a c, v = .slice a L.length c := by
  obtain ⟨a, c, hv, _⟩ := h.is
  exact ⟨a, c, hv⟩
/-- what a law's list comes to: the bounds -/
theorem bounds {M : Tb} (L : List I.Wt) (hg : Q.Good M) (h : tot M ≤ 1073741824) (hl : L.length ≤ 1000000) : 0 ≤ tot (layAll M L) ∧ tot (layAll M L) ≤ 4611686018427387904 := by
  have h1 := tot_pos (layAll_good L hg)
  have h2 := tot_layAll L hg
  exact ⟨h1, by omega⟩
end Go.Proofs.Ytepoodfihemmcaa.Qm

namespace Go.Proofs.Ytepoodfihemmcaa.Q

set_option linter.unusedVariables false

/-- what the writes take together -/
def sumS (L : List I.Wt) : Int := (L.map sz).sum
theorem sumS_step (L : List I.Wt) (j : Nat) (h : j < L.length) : sumS (L.take (j + 1)) = sumS (L.take j) + sz (L.getD j I.none_) := by
  unfold sumS
  rw [List.take_succ_eq_append_getElem h, List.map_append, List.sum_append, List.getD_eq_getElem?_getD, List.getElem?_eq_getElem h, Option.getD_some]
  simp
theorem look_layR {M : Tb} (x : I.Wt) (k : Nm) (hM : Good M) : look (layR M x) k = if I.right x = true ∧ I.key x = k then sz x else look M k := by
  unfold layR
  by_cases h : I.right x = true
  · rw [if_pos h, look_lay x k hM]
    by_cases hk : I.key x = k
    · rw [if_pos hk, if_pos ⟨h, hk⟩]
    · rw [if_neg hk, if_neg (fun e => hk e.2)]
  · rw [if_neg h, if_neg (fun e => h e.1)]
theorem layAll_cons (M : Tb) (x : I.Wt) (L : List I.Wt) : layAll M (x :: L) = layAll (layR M x) L := rfl
theorem look_all_not {L : List I.Wt} : ∀ {M : Tb} (k : Nm), Good M → (∀ x ∈ L, I.key x ≠ k) → look (layAll M L) k = look M k := by
  induction L with
  | nil => intro M k _ _; rfl
  | cons x L ih =>
    intro M k hM h
    rw [layAll_cons, ih k (layR_good x hM) fun y hy => h y (List.mem_cons_of_mem _ hy), look_layR x k hM, if_neg fun e => h x (List.mem_cons_self ..) e.2]
theorem gone_look {L : List I.Wt} : ∀ {M : Tb} (k : Nm), Good M → (∀ x ∈ L, I.right x = true ∧ sz x = 0) → ((∃ x ∈ L, I.key x = k) ∨ look M k = 0) → look (layAll M L) k = 0 := by
  induction L with
  | nil =>
    intro M k _ _ h
    rcases h with ⟨x, hx, _⟩ | h
    · cases hx
    · exact h
  | cons x L ih =>
    intro M k hM ha h
    rw [layAll_cons]
    refine ih k (layR_good x hM) (fun y hy => ha y (List.mem_cons_of_mem _ hy)) ?_
    have hx := ha x (List.mem_cons_self ..)
    by_cases hk : I.key x = k
    · exact .inr (by rw [look_layR x k hM, if_pos ⟨hx.1, hk⟩, hx.2])
    · rcases h with ⟨y, hy, hyk⟩ | h
      · rcases List.mem_cons.1 hy with rfl | hy
        · exact absurd hyk hk
        · exact .inl ⟨y, hy, hyk⟩
      · exact .inr (by rw [look_layR x k hM, if_neg fun e => hk e.2]; exact h)
theorem good_nil {M : Tb} (h : Good M) (h0 : ∀ k, look M k = 0) : M = [] := by
  cases M with
  | nil => rfl
  | cons x M =>
    have h1 := h.pos x (List.mem_cons_self ..)
    have h2 := h0 x.1
    simp only [look, if_pos] at h2
    omega
/-- the sum of writes of keys of their own -/
theorem whole_tot (L : List I.Wt) : ∀ n, n ≤ L.length → I.okTo L n = true → tot (layAll [] (L.take n)) = sumS (L.take n)
  | 0, _, _ => rfl
  | n + 1, hn, h => by
    rw [I.okTo_step, Bool.and_eq_true, Bool.and_eq_true] at h
    obtain ⟨h1, hr, ha⟩ := h
    have ih := whole_tot L n (by omega) h1
    rw [layAll_step [] L n (by omega), sumS_step L n (by omega), ← ih]
    unfold layR
    rw [if_pos hr, tot_lay, look_all_not _ Good.nil (fun x hx e => ?_)]
    · simp [look]
    · unfold I.apart at ha
      rw [List.all_eq_true] at ha
      obtain ⟨i, hi, hx⟩ := List.mem_take_iff_getElem.1 hx
      have := ha i (List.mem_range.2 (by omega))
      rw [List.getD_eq_getElem?_getD, List.getElem?_eq_getElem (by omega), Option.getD_some, hx, decide_eq_true e] at this
      cases this
theorem sumS_bounds (L : List I.Wt) : ∀ n, n ≤ L.length → I.okTo L n = true → 0 ≤ sumS (L.take n) ∧ sumS (L.take n) ≤ 64 * n
  | 0, _, _ => ⟨Int.le_refl _, Int.le_refl _⟩
  | n + 1, hn, h => by
    have h' := h
    rw [I.okTo_step, Bool.and_eq_true, Bool.and_eq_true] at h'
    have ih := sumS_bounds L n (by omega) h'.1
    have hs := sz_right h'.2.1
    rw [sumS_step L n (by omega)]
    omega
theorem okTo_le {L : List I.Wt} {n m : Nat} (h : I.okTo L n = true) (hm : m ≤ n) : I.okTo L m = true := by
  unfold I.okTo at *
  rw [List.all_eq_true] at *
  exact fun i hi => h i (List.mem_range.2 (by have := List.mem_range.1 hi; omega))
def gone (x : I.Wt) : I.Wt := (x.1, x.2.1, ⟨#[]⟩, true)
theorem gone_right {x : I.Wt} (h : I.right x = true) : I.right (gone x) = true ∧ sz (gone x) = 0 ∧ I.key (gone x) = I.key x := by
  obtain ⟨h1, h2, h3, h4, _, _⟩ := I.right_some h
  refine ⟨?_, rfl, rfl⟩
  show (decide (1 ≤ x.1.size ∧ x.1.size ≤ 16 ∧ 1 ≤ x.2.1.size ∧ x.2.1.size ≤ 16 ∧ (⟨#[]⟩ : ByteArray).size ≤ 32) && (!true || decide ((⟨#[]⟩ : ByteArray).size = 0))) = true
  rw [decide_eq_true ⟨h1, h2, h3, h4, by decide⟩]
  rfl
theorem okTo_mem {L : List I.Wt} (h : I.okTo L L.length = true) : ∀ x ∈ L, I.right x = true := fun x hx => by
  obtain ⟨i, hi, rfl⟩ := List.mem_iff_getElem.1 hx
  have := I.okTo_right h i hi
  rwa [List.getD_eq_getElem?_getD, List.getElem?_eq_getElem hi] at this
/-- with all gone nothing is left -/
theorem all_gone {L : List I.Wt} (h : I.okTo L L.length = true) : layAll (layAll [] L) (L.map gone) = [] := by
  have hr := okTo_mem h
  have hg : Good (layAll [] L) := layAll_good L Good.nil
  refine good_nil (layAll_good _ hg) fun k => ?_
  refine gone_look k hg (fun x hx => ?_) ?_
  · obtain ⟨y, hy, rfl⟩ := List.mem_map.1 hx
    have := gone_right (hr y hy)
    exact ⟨this.1, this.2.1⟩
  · by_cases hk : ∃ y ∈ L, I.key y = k
    · obtain ⟨y, hy, e⟩ := hk
      exact .inl ⟨gone y, List.mem_map.2 ⟨y, hy, rfl⟩, (gone_right (hr y hy)).2.2.trans e⟩
    · exact .inr (by rw [look_all_not k Good.nil fun x hx e => hk ⟨x, hx, e⟩]; rfl)
/-- a write of a law's own key is none of z -/
def zz : Nm := (⟨#[122]⟩, ⟨#[122]⟩)
theorem own_not (x : I.Wt) (K : Nat) : I.key (I.putW x true K) ≠ zz := by
  intro e
  unfold I.putW I.key zz at e
  rw [if_pos rfl] at e
  have := congrArg (fun z => z.1.size) e
  have h2 : (2 : Nat) = 1 := this
  omega
theorem wrs_own (most : Nat) : ∀ (L : List I.Pt) (out : List I.Wt), (∀ x ∈ out, I.key x ≠ zz) → ∀ x ∈ I.wrs most true L out, I.key x ≠ zz
  | [], out, h => h
  | p :: L, out, h => by
    unfold I.wrs
    split
    · refine wrs_own most L _ fun x hx => ?_
      unfold I.wstep at hx
      split at hx
      · rcases List.mem_append.1 hx with hx | hx
        · exact h x hx
        · simp only [List.mem_cons, List.not_mem_nil, or_false] at hx
          subst hx
          unfold I.pw
          exact own_not _ _
      · exact h x hx
    · exact h
def big (s : ByteArray) : I.Wt := (⟨#[122]⟩, ⟨#[122]⟩, s, false)
theorem big_right {s : ByteArray} (h : s.size ≤ 32) : I.right (big s) = true ∧ sz (big s) = 2 + (s.size : Int) := by
  have h1 : (⟨#[122]⟩ : ByteArray).size = 1 := by decide
  refine ⟨by unfold I.right big; simp [h1, h], ?_⟩
  unfold sz I.size big
  simp [h1]
theorem big_tot {M : Tb} {s : ByteArray} (hs : s.size ≤ 32) (hl : look M zz = 0) : tot (layAll M [big s]) = tot M + (2 + (s.size : Int)) := by
  have hb := big_right hs
  show tot (layR M (big s)) = _
  unfold layR
  rw [if_pos hb.1, tot_lay, hb.2]
  have : look M (I.key (big s)) = 0 := hl
  rw [this]
  omega
theorem big_len {s : ByteArray} (hs : s.size ≤ 32) : (layAll [] [big s]).length = 1 := by
  have hb := big_right hs
  show (layR [] (big s)).length = 1
  unfold layR lay
  rw [if_pos hb.1, if_neg (by rw [hb.2]; omega)]
  rfl
end Go.Proofs.Ytepoodfihemmcaa.Q
