/- bend: a text with a byte another one. -/
import Derived.Test.YtkfcbihofipcbaaMem

import Derived.Test.YtkfcbihofipcbaaPackMath

import Derived.Laws.BytesArg

import Derived.Laws.IdiomStrings

namespace Go.Proofs.Ytkfcbihofipcbaa.Vc

open Go.RowKit

set_option linter.unusedVariables false

set_option linter.unusedSimpArgs false

/-- block b holds the bytes l, none of them frozen -/
def Holds (u : World) (b : Nat) (l : List UInt8) : Prop :=
  ∀ j (h : j < l.length), u.cell? ⟨b, j, none⟩ = some (.int .u8 (l[j].toNat : Int)) ∧ u.frozen? ⟨b, j, none⟩ = false
theorem bytes_conv (S : ByteArray) (u : World) : ∃ cap u1, (convert 9 76 (.string S)).run Try.prog u = .ok (.slice (some ⟨u.heap.size, 0, none⟩) S.size cap) u1 ∧
    Holds u1 u.heap.size S.data.toList ∧ Below u.heap.size u u1 ∧ u.heap.size < u1.heap.size := by
  refine ⟨_, _, run_bytes_of_string (P := Try.prog) u 9 76 5 S Try.underlying9 Try.underlying76 Try.underlying5, ?_, ?_, ?_⟩
  · intro j hj
    have hj' : j < S.data.size := by simpa using hj
    constructor
    · have := World.cell?_alloc_mark u.drew (bytesRow S (grownCap u S.size 0 5)) 5 ((bytesRow S (grownCap u S.size 0 5)).size, (bytesRow S (grownCap u S.size 0 5)).size + 1) j
      refine Eq.trans this ?_
      rw [bytesRow_at _ _ _ hj']
      simp
    · have := World.frozen?_alloc_mark u.drew (bytesRow S (grownCap u S.size 0 5)) 5 (bytesRow S (grownCap u S.size 0 5)).size ((bytesRow S (grownCap u S.size 0 5)).size + 1) j
      refine Eq.trans this ?_
      have es : S.data.size = S.size := rfl
      have hsz : j < (bytesRow S (grownCap u S.size 0 5)).size := by unfold bytesRow; rw [Array.size_append, Array.size_map]; omega
      have : ¬ (bytesRow S (grownCap u S.size 0 5)).size ≤ j := by omega
      simp [this]
  · exact (Below.refl _ _).drew.alloc (Nat.le_refl _) _
  · show u.heap.size < (u.heap.push _).size
    simp
theorem str_conv (u : World) (b cap : Nat) (l : List UInt8) (h : Holds u b l) :
    (convert 76 9 (.slice (some ⟨b, 0, none⟩) l.length cap)).run Try.prog u = .ok (.string (P.S l)) u := by
  refine run_convert_bytes_back u 76 9 5 ⟨b, 0, none⟩ cap l Try.underlying76 Try.underlying5 Try.underlying9 ?_
  intro j hj
  rw [Addr.add_mid, Nat.zero_add]
  exact (h j hj).1
theorem holds_set (u : World) (b i : Nat) (l : List UInt8) (x : UInt8) (h : Holds u b l) (hi : i < l.length) :
    Holds (u.setCell ⟨b, i, none⟩ (.int .u8 (x.toNat : Int))) b (l.set i x) := by
  intro j hj
  rw [List.length_set] at hj
  refine ⟨?_, by rw [World.frozen?_setCell]; exact (h j hj).2⟩
  by_cases e : i = j
  · subst e
    rw [List.getElem_set_self]
    exact World.cell?_setCell_same _ _ _ (h i hi).1
  · rw [List.getElem_set_ne e, World.cell?_setCell_other _ _ _ _ (by simp [e])]
    exact (h j hj).1
theorem empty_yes (s : ByteArray) (h : s.size = 0) : s.toList.isEmpty = true := by
  rw [ByteArray.toList_eq, List.isEmpty_iff]
  apply List.eq_nil_of_length_eq_zero
  rw [Array.length_toList]; exact h
theorem empty_not (s : ByteArray) (h : s.size ≠ 0) : s.toList.isEmpty = false := by
  rw [ByteArray.toList_eq, List.isEmpty_eq_false_iff]
  intro e
  apply h
  have : s.data.toList.length = s.size := by rw [Array.length_toList]; rfl
  rw [← this, e]; rfl
set_option maxHeartbeats 1000000 in
theorem bend_none (s : ByteArray) (at_ : Int) (m : Int) (w : World) (h : s.size = 0) :
    Calls Try.prog 30 #[.string s, .int .i64 at_, .int .u8 m] w fun e w' => e = .returned (.string s) ∧ Below w.heap.size w w' := by
  have hE := empty_yes s h
  clear h
  go_enter Try.func30, Try.ntmps30
  go_wp2_with fail
  go_ret
  exact ⟨rfl, Below.refl _ _⟩
set_option maxHeartbeats 1000000 in
set_option maxRecDepth 100000 in
theorem bend_pos (s : ByteArray) (at_ : Int) (m : UInt8) (w : World) (hs : s.size ≤ 140737488355328) (h0 : s.size ≠ 0) (h2 : at_ ≤ 9223372036854775807) (hn : ¬ at_ < 0) :
    Calls Try.prog 30 #[.string s, .int .i64 at_, .int .u8 (m.toNat : Int)] w fun e w' => (∃ s', e = .returned (.string s') ∧ s'.size = s.size) ∧ Below w.heap.size w w' := by
  have hE := empty_not s h0
  have hm : m.toNat < 256 := m.toNat_lt
  obtain ⟨q, hq⟩ : ∃ q : Nat, (q : Int) = at_ := ⟨(at_).toNat, by omega⟩
  subst hq
  have e3 : IntKind.i64.wrap (q : Int) = q := IntWalk.i64_in _ ⟨by omega, by omega⟩
  have d0 : ¬ (q : Int) < 0 := hn
  obtain ⟨k, hk⟩ : ∃ k, k = q % s.size := ⟨_, rfl⟩
  have hks : k < s.size := by rw [hk]; exact Nat.mod_lt _ (by omega)
  have e4 : (q : Int).tmod (s.size : Int) = (k : Int) := by rw [Int.tmod_eq_emod_of_nonneg (by omega), hk]; rfl
  have e5 : IntKind.i64.wrap (k : Int) = k := IntWalk.i64_in _ ⟨by omega, by omega⟩
  have hn0 : ¬ (s.size : Int) = 0 := by omega
  have ik : (k : Int) < (s.size : Int) := by omega
  obtain ⟨cap, w1, hcv, HH, HB, hz⟩ := bytes_conv s w
  have hl : s.data.toList.length = s.size := by rw [Array.length_toList]; rfl
  obtain ⟨xb, hxb⟩ : ∃ xb, s.data.toList[k]'(by omega) = xb := ⟨_, rfl⟩
  have c := (HH k (by omega)).1
  rw [hxb] at c
  have f := (HH k (by omega)).2
  have hset := holds_set w1 w.heap.size k s.data.toList (xb ^^^ m) HH (by omega)
  have hx : bits .xor .u8 (xb.toNat : Int) (m.toNat : Int) = ((xb ^^^ m).toNat : Int) := by
    rw [u8_xor_nat _ _ (UInt8.toNat_lt _) (UInt8.toNat_lt _), UInt8.toNat_xor]
  have hsv := str_conv (World.drew (w1.setCell ⟨w.heap.size, k, none⟩ (.int .u8 ((xb ^^^ m).toNat : Int)))) _ cap _ hset
  rw [List.length_set, hl] at hsv
  have HSZ : Hid ((P.S (s.data.toList.set k (xb ^^^ m))).size = s.size) := by show _ = _; rw [P.S_size, List.length_set, hl]
  clear hxb
  generalize P.S (s.data.toList.set k (xb ^^^ m)) = out at *
  generalize (xb ^^^ m).toNat = y at *
  generalize xb.toNat = x at *
  have HBS : Hid (Below w.heap.size w (w1.setCell ⟨w.heap.size, k, none⟩ (.int .u8 (y : Int)))) := Below.setCell HB (Nat.le_refl _) _
  clear hset HH HB hl hk
  go_enter Try.func30, Try.ntmps30
  go_wp2_with fail
  refine region_tail 15 Try.mixed (by kernel_rfl) ?_
  simp only [List.take_succ_cons, List.take_zero, List.drop_succ_cons, List.drop_zero]
  repeat still_step
  refine wpStill_nil ?_
  go_wp2_with fail
  go_ret
  exact ⟨⟨out, rfl, HSZ.out⟩, HBS.out.drew⟩
set_option maxHeartbeats 1000000 in
set_option maxRecDepth 100000 in
theorem bend_neg (s : ByteArray) (at_ : Int) (m : UInt8) (w : World) (hs : s.size ≤ 140737488355328) (h0 : s.size ≠ 0) (h1 : -9223372036854775808 ≤ at_) (hn : at_ < 0) :
    Calls Try.prog 30 #[.string s, .int .i64 at_, .int .u8 (m.toNat : Int)] w fun e w' => (∃ s', e = .returned (.string s') ∧ s'.size = s.size) ∧ Below w.heap.size w w' := by
  have hE := empty_not s h0
  have hm : m.toNat < 256 := m.toNat_lt
  obtain ⟨q, hq⟩ : ∃ q : Nat, (q : Int) = -(at_ + 1) := ⟨(-(at_ + 1)).toNat, by omega⟩
  have e1 : IntKind.i64.wrap (at_ + 1) = at_ + 1 := IntWalk.i64_in _ ⟨by omega, by omega⟩
  have e2 : -(at_ + 1) = (q : Int) := hq.symm
  have e3 : IntKind.i64.wrap (q : Int) = q := IntWalk.i64_in _ ⟨by omega, by omega⟩
  have d0 : at_ < 0 := hn
  obtain ⟨k, hk⟩ : ∃ k, k = q % s.size := ⟨_, rfl⟩
  have hks : k < s.size := by rw [hk]; exact Nat.mod_lt _ (by omega)
  have e4 : (q : Int).tmod (s.size : Int) = (k : Int) := by rw [Int.tmod_eq_emod_of_nonneg (by omega), hk]; rfl
  have e5 : IntKind.i64.wrap (k : Int) = k := IntWalk.i64_in _ ⟨by omega, by omega⟩
  have hn0 : ¬ (s.size : Int) = 0 := by omega
  have ik : (k : Int) < (s.size : Int) := by omega
  obtain ⟨cap, w1, hcv, HH, HB, hz⟩ := bytes_conv s w
  have hl : s.data.toList.length = s.size := by rw [Array.length_toList]; rfl
  obtain ⟨xb, hxb⟩ : ∃ xb, s.data.toList[k]'(by omega) = xb := ⟨_, rfl⟩
  have c := (HH k (by omega)).1
  rw [hxb] at c
  have f := (HH k (by omega)).2
  have hset := holds_set w1 w.heap.size k s.data.toList (xb ^^^ m) HH (by omega)
  have hx : bits .xor .u8 (xb.toNat : Int) (m.toNat : Int) = ((xb ^^^ m).toNat : Int) := by
    rw [u8_xor_nat _ _ (UInt8.toNat_lt _) (UInt8.toNat_lt _), UInt8.toNat_xor]
  have hsv := str_conv (World.drew (w1.setCell ⟨w.heap.size, k, none⟩ (.int .u8 ((xb ^^^ m).toNat : Int)))) _ cap _ hset
  rw [List.length_set, hl] at hsv
  have HSZ : Hid ((P.S (s.data.toList.set k (xb ^^^ m))).size = s.size) := by show _ = _; rw [P.S_size, List.length_set, hl]
  clear hxb
  generalize P.S (s.data.toList.set k (xb ^^^ m)) = out at *
  generalize (xb ^^^ m).toNat = y at *
  generalize xb.toNat = x at *
  have HBS : Hid (Below w.heap.size w (w1.setCell ⟨w.heap.size, k, none⟩ (.int .u8 (y : Int)))) := Below.setCell HB (Nat.le_refl _) _
  clear hset HH HB hl hk hq
  go_enter Try.func30, Try.ntmps30
  go_wp2_with fail
  refine region_tail 15 Try.mixed (by kernel_rfl) ?_
  simp only [List.take_succ_cons, List.take_zero, List.drop_succ_cons, List.drop_zero]
  repeat still_step
  refine wpStill_nil ?_
  go_wp2_with fail
  go_ret
  exact ⟨⟨out, rfl, HSZ.out⟩, HBS.out.drew⟩
theorem bend_any (s : ByteArray) (at_ : Int) (m : UInt8) (w : World) (hs : s.size ≤ 140737488355328) (h1 : -9223372036854775808 ≤ at_) (h2 : at_ ≤ 9223372036854775807) :
    Calls Try.prog 30 #[.string s, .int .i64 at_, .int .u8 (m.toNat : Int)] w fun e w' => (∃ s', e = .returned (.string s') ∧ s'.size = s.size) ∧ Below w.heap.size w w' := by
  by_cases h0 : s.size = 0
  · exact (bend_none s at_ _ w h0).mono fun e w' ⟨he, hb⟩ => ⟨⟨s, he, rfl⟩, hb⟩
  · by_cases hn : at_ < 0
    · exact bend_neg s at_ m w hs h0 h1 hn
    · exact bend_pos s at_ m w hs h0 h2 hn
end Go.Proofs.Ytkfcbihofipcbaa.Vc
