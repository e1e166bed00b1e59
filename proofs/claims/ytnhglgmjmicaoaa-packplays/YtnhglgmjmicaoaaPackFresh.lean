/- The contracts of Halves and fresh. -/
import Derived.Test.YtnhglgmjmicaoaaPackSmall
import Derived.Laws.OwnMore
import Derived.Laws.CopyOwn
import Derived.Deep.OwnRows
import Derived.Deep.RegionWith
import Derived.OwnWalk
namespace Go.Proofs.Ytnhglgmjmicaoaa
open Go.RowKit
set_option linter.unusedVariables false
set_option linter.unusedSimpArgs false

theorem madeCells_rep (z : Value) (n : Nat) : madeCells #[z] n = (List.replicate n z).toArray := by
  apply Array.ext'
  rw [toList_madeCells_one]
theorem splice_all {α : Type} (L cs : List α) (h : cs.length = L.length) : splice L 0 cs = cs := by
  unfold splice
  rw [List.take_zero, List.nil_append, Nat.zero_add, h, List.drop_length, List.append_nil]
theorem heap_new (w : World) (o : Obj) : (w.alloc o).heap[w.heap.size]? = some o := heap_alloc_new w o
/-- block g holds the cells cs, whole -/
def Row (w : World) (g : Nat) (e : TypeId) (cs : List Value) : Prop := w.heap[g]? = some (.cells cs.toArray e (0, 0))
theorem Row.lt {w : World} {g : Nat} {e : TypeId} {cs : List Value} (h : Row w g e cs) : g < w.heap.size := (Array.getElem?_eq_some_iff.1 h).1
theorem Row.below {w w' : World} {B g : Nat} {e : TypeId} {cs : List Value} (h : Row w g e cs) (hb : Below B w w') (hg : g < B) : Row w' g e cs := by
  unfold Row; rw [hb.block g hg]; exact h
theorem Row.cell {w : World} {g : Nat} {e : TypeId} {cs : List Value} (h : Row w g e cs) (j : Nat) : w.cell? ⟨g, j, none⟩ = cs[j]? := by
  rw [cell_of_row w g j cs.toArray e (0, 0) h]; simp

/-- copy(out, l) into a row of the call's own, of l's length -/
theorem copy_run (T E : TypeId) (hu : Try.prog.underlying T = some (.slice E)) (hsz : (Try.prog.info? E).map (·.size) = some 1) (g len cap : Nat) (sp : Option Addr) (z : Value) (cs : List Value) (w : World)
    (hl : cs.length = len) (hg : Row w g E (List.replicate len z)) (h1 : ∀ v ∈ cs, v.oneCell' = true)
    (hsrc : 0 < cs.length → ∃ b off, sp = some ⟨b, off, none⟩ ∧ ∀ j v, cs[j]? = some v → w.cell? ⟨b, off + j, none⟩ = some v) :
    ∃ w2, (Builtin.copy_ #[T, T] 3 #[.slice (some ⟨g, 0, none⟩) len len, .slice sp len cap]).run Try.prog w = .ok (goInt len) w2 ∧ Row w2 g E cs ∧ Below g w w2 := by
  by_cases h0 : cs.length = 0
  · obtain rfl : cs = [] := List.eq_nil_of_length_eq_zero h0
    simp only [List.length_nil] at hl
    subst hl
    exact ⟨w, run_copy_none (P := Try.prog) w T T 3 E _ _ 0 0 0 cap hu hsz rfl, hg, Below.refl _ _⟩
  · obtain ⟨b, off, rfl, hc⟩ := hsrc (by omega)
    have hr := run_copy_row (P := Try.prog) w T T 3 E g 0 len len ⟨b, off, none⟩ len cap (List.replicate len z).toArray E cs hu hsz hg (by rw [hl]; simp) ?_ (by simp [hl]) h1
    · rw [hl] at hr
      refine ⟨_, hr, ?_, below_setRow (Below.refl _ _) (Nat.le_refl _) _⟩
      refine (setRow_heap w g _ _ E _ hg).trans ?_
      simp
    · intro j v hj
      have ea : (⟨b, off, none⟩ : Addr).add j = ⟨b, off + j, none⟩ := by unfold Addr.add; split <;> simp_all
      rw [ea]
      exact hc j v hj

theorem Try.info_i16 : (Try.prog.info? 51).map (fun i => (i.zero, i.size, i.bytes)) = some (some (.int .i16 0), 1, 2) := by kernel_rfl
theorem Try.size_i16 : (Try.prog.info? 51).map (·.size) = some 1 := by kernel_rfl
set_option maxHeartbeats 400000 in
theorem fresh_i16 (sp : Option Addr) (len cap : Nat) (cs : List Value) (w : World) (hl : cs.length = len) (hm : len * 2 ≤ 281474976710656) (h1 : ∀ v ∈ cs, v.oneCell' = true)
    (hsrc : 0 < cs.length → ∃ b off, sp = some ⟨b, off, none⟩ ∧ b < w.heap.size ∧ ∀ j v, cs[j]? = some v → w.cell? ⟨b, off + j, none⟩ = some v) :
    Calls Try.prog 31 #[.slice sp len cap] w fun e w' => e = .returned (.slice (some ⟨w.heap.size, 0, none⟩) len len) ∧ Row w' w.heap.size 51 cs ∧ Below w.heap.size w w' := by
  have hmk := run_make_row' (P := Try.prog) 48 51 (.int .i16 0) 2 Try.underlying48 Try.info_i16 rfl .i64 .i64 len (by omega) (by omega) w
  have hg : (w.alloc (.cells (madeCells #[.int .i16 0] len) 51)).heap[w.heap.size]? = some (.cells (List.replicate len (.int .i16 0)).toArray 51 (0, 0)) := by rw [heap_new, madeCells_rep]
  have hB : Below w.heap.size w (w.alloc (.cells (madeCells #[.int .i16 0] len) 51)) := (Below.refl _ _).alloc (Nat.le_refl _) _
  have hsrc' : 0 < cs.length → ∃ b off, sp = some ⟨b, off, none⟩ ∧ ∀ j v, cs[j]? = some v → (w.alloc (.cells (madeCells #[.int .i16 0] len) 51)).cell? ⟨b, off + j, none⟩ = some v := by
    intro h0
    obtain ⟨b, off, e, hlt, hc⟩ := hsrc h0
    refine ⟨b, off, e, fun j v hj => ?_⟩
    rw [hB.cell (p := ⟨b, off + j, none⟩) hlt]
    exact hc j v hj
  obtain ⟨w2, hcp, HR, hB2⟩ := copy_run 48 51 Try.underlying48 Try.size_i16 w.heap.size len cap sp (.int .i16 0) cs _ hl hg h1 hsrc'
  have HB2 : Hid _ := hB.trans hB2
  generalize w.alloc (.cells (madeCells #[.int .i16 0] len) 51) = wm at hmk hcp
  have hlm : len ≤ 281474976710656 := by omega
  clear hsrc hsrc' hl h1 hg hB hm hB2
  go_enter Try.func31, Try.ntmps31
  go_wp2_with fail
  go_ret
  exact ⟨rfl, HR, HB2.out⟩
set_option maxHeartbeats 1000000 in
theorem halves_i16 (b off len cap : Nat) (cs : List Value) (w : World) (hl : cs.length = len) (hm : len * 2 ≤ 281474976710656) (hlc : len ≤ cap) (hcm : cap ≤ maxLen) (h1 : ∀ v ∈ cs, v.oneCell' = true)
    (hb : b < w.heap.size) (hc : ∀ j v, cs[j]? = some v → w.cell? ⟨b, off + j, none⟩ = some v) :
    Calls Try.prog 24 #[.slice (some ⟨b, off, none⟩) len cap] w fun e w' => ∃ g1 g2, e = .returned (.tuple #[.slice (some ⟨g1, 0, none⟩) (len - len / 2) (len - len / 2), .slice (some ⟨g2, 0, none⟩) (len / 2) (len / 2)]) ∧
      w.heap.size ≤ g1 ∧ w.heap.size ≤ g2 ∧ Row w' g1 51 (cs.take (len - len / 2)) ∧ Row w' g2 51 (cs.drop (len - len / 2)) ∧ Below w.heap.size w w' := by
  unfold maxLen at hcm
  have hlm : len ≤ 281474976710656 := by omega
  obtain ⟨c, hcl, hcut, hc2⟩ : ∃ c, c ≤ len ∧ (len : Int) - (len : Int) / 2 = (c : Int) ∧ Hid (c = len - len / 2) := ⟨len - len / 2, by omega, by omega, rfl⟩
  have hcc : c ≤ cap := by omega
  have FA : Hid (∀ u, Below w.heap.size w u → Calls Try.prog 31 #[.slice (some ⟨b, off, none⟩) c cap] u fun e u' => e = .returned (.slice (some ⟨u.heap.size, 0, none⟩) c c) ∧ Row u' u.heap.size 51 (cs.take c) ∧ Below u.heap.size u u') := by
    intro u hu
    refine fresh_i16 _ c cap (cs.take c) u (by rw [List.length_take]; omega) (by omega) (fun v hv => h1 v (List.mem_of_mem_take hv)) (fun _ => ⟨b, off, rfl, Nat.lt_of_lt_of_le hb hu.size, fun j v hj => ?_⟩)
    rw [hu.cell (p := ⟨b, off + j, none⟩) hb]
    refine hc j v ?_
    rw [List.getElem?_take] at hj
    split at hj
    · exact hj
    · cases hj
  have FB : Hid (∀ sp cap' u, (0 < len - c → sp = some ⟨b, off + c, none⟩) → Below w.heap.size w u → Calls Try.prog 31 #[.slice sp (len - c) cap'] u fun e u' => e = .returned (.slice (some ⟨u.heap.size, 0, none⟩) (len - c) (len - c)) ∧ Row u' u.heap.size 51 (cs.drop c) ∧ Below u.heap.size u u') := by
    intro sp cap' u hsp hu
    refine fresh_i16 sp (len - c) cap' (cs.drop c) u (by rw [List.length_drop]; omega) (by omega) (fun v hv => h1 v (List.mem_of_mem_drop hv)) (fun h0 => ⟨b, off + c, hsp (by rw [List.length_drop] at h0; omega), Nat.lt_of_lt_of_le hb hu.size, fun j v hj => ?_⟩)
    rw [hu.cell (p := ⟨b, off + c + j, none⟩) hb, Nat.add_assoc]
    refine hc (c + j) v ?_
    rw [List.getElem?_drop] at hj
    exact hj
  have HL : Hid _ := hl
  clear hc h1 hl
  have E2 : Hid (len - c = len / 2) := by have := hc2.out; show _ = _; omega
  by_cases hce : c = cap
  · obtain rfl : len = cap := by omega
    subst hce
    have F0 : Hid (∀ sp cap' u, Calls Try.prog 31 #[.slice sp 0 cap'] u fun e u' => e = .returned (.slice (some ⟨u.heap.size, 0, none⟩) 0 0) ∧ Row u' u.heap.size 51 [] ∧ Below u.heap.size u u') :=
      fun sp cap' u => fresh_i16 sp 0 cap' [] u rfl (by omega) (fun v hv => by cases hv) (fun h => by cases h)
    have HD : Hid (cs.drop c = []) := by show _ = _; rw [List.drop_eq_nil_iff]; exact Nat.le_of_eq HL.out
    go_enter Try.func24, Try.ntmps24
    go_wp2_with fail
    go_region_with (first | (go_at_call_of 31 (Value.slice (some (Addr.mk b off none)) c c); refine (FA.out _ ?_).mono ?_; exact (Below.refl _ _).drew; rintro e w1 ⟨rfl, hr1, hb1⟩) | (go_at_call_of 31 (Value.slice (some (Addr.mk b off none)) 0 0); refine (F0.out _ _ _).mono ?_; rintro e w2 ⟨rfl, hr2, hb2⟩))
    all_goals
      have B1 : Below w.heap.size w w1 := (Below.refl w.heap.size w).drew.trans hb1
      have R1 := hr1.below hb2 hr1.lt
      have B2 := B1.trans (hb2.mono B1.size)
      have Z : 0 = c / 2 := by have := E2.out; rw [Nat.sub_self] at this; exact this
      have HZ : Hid _ := Z
      have z1 := B1.size
      clear hr1 hb1 hb2 B1 Z
      go_wp2_with fail
      go_ret2
      refine ⟨w.heap.size, w1.heap.size, ?_, Nat.le_refl _, z1, ?_, ?_, B2⟩
      · rw [← HZ.out]; rfl
      · rw [← HZ.out]; exact R1
      · rw [← HZ.out, Nat.sub_zero, HD.out]; exact hr2
  · go_enter Try.func24, Try.ntmps24
    go_wp2_with fail
    go_region_with (first | (go_at_call_of 31 (Value.slice (some (Addr.mk b off none)) c cap); refine (FA.out _ ?_).mono ?_; exact (Below.refl _ _).drew; rintro e w1 ⟨rfl, hr1, hb1⟩) | (go_at_call_of 31 (Value.slice (some (Addr.mk b (off + c) none)) (len - c) (cap - c)); refine (FB.out _ _ _ ?_ ?_).mono ?_; exact fun _ => rfl; exact (Below.refl w.heap.size w).drew.trans hb1; rintro e w2 ⟨rfl, hr2, hb2⟩))
    all_goals
      have B1 : Below w.heap.size w w1 := (Below.refl w.heap.size w).drew.trans hb1
      have R1 := hr1.below hb2 hr1.lt
      have B2 := B1.trans (hb2.mono B1.size)
      have z1 := B1.size
      clear hr1 hb1 hb2 B1
      go_wp2_with fail
      go_ret2
      refine ⟨w.heap.size, w1.heap.size, ?_, Nat.le_refl _, z1, ?_, ?_, B2⟩
      · rw [← hc2.out, ← E2.out]; rfl
      · rw [← hc2.out]; exact R1
      · rw [← hc2.out]; exact hr2

/-- of no list -/
theorem halves_nil_i16 (a : Option Addr) (w : World) :
    Calls Try.prog 24 #[.slice a 0 0] w fun e w' => ∃ g1 g2, e = .returned (.tuple #[.slice (some ⟨g1, 0, none⟩) 0 0, .slice (some ⟨g2, 0, none⟩) 0 0]) ∧
      w.heap.size ≤ g1 ∧ w.heap.size ≤ g2 ∧ Row w' g1 51 [] ∧ Row w' g2 51 [] ∧ Below w.heap.size w w' := by
  have F0 : Hid (∀ sp cap' u, Calls Try.prog 31 #[.slice sp 0 cap'] u fun e u' => e = .returned (.slice (some ⟨u.heap.size, 0, none⟩) 0 0) ∧ Row u' u.heap.size 51 [] ∧ Below u.heap.size u u') :=
      fun sp cap' u => fresh_i16 sp 0 cap' [] u rfl (by omega) (fun v hv => by cases hv) (fun h => by cases h)
  go_enter Try.func24, Try.ntmps24
  go_wp2_with fail
  go_region_with (first | (go_at_call 31; have hq := hr1; clear hq; refine (F0.out _ _ _).mono ?_; rintro e w2 ⟨rfl, hr2, hb2⟩) | (go_at_call 31; refine (F0.out _ _ _).mono ?_; rintro e w1 ⟨rfl, hr1, hb1⟩))
  all_goals
    have B1 : Below w.heap.size w w1 := (Below.refl w.heap.size w).drew.trans hb1
    have R1 := hr1.below hb2 hr1.lt
    have B2 := B1.trans (hb2.mono B1.size)
    have z1 := B1.size
    clear hr1 hb1 hb2 B1
    go_wp2_with fail
    go_ret2
    exact ⟨w.heap.size, w1.heap.size, rfl, Nat.le_refl _, z1, R1, hr2, B2⟩

theorem Try.info_u8 : (Try.prog.info? 5).map (fun i => (i.zero, i.size, i.bytes)) = some (some (.int .u8 0), 1, 1) := by kernel_rfl
theorem Try.size_u8 : (Try.prog.info? 5).map (·.size) = some 1 := by kernel_rfl
set_option maxHeartbeats 400000 in
theorem fresh_u8 (sp : Option Addr) (len cap : Nat) (cs : List Value) (w : World) (hl : cs.length = len) (hm : len * 1 ≤ 281474976710656) (h1 : ∀ v ∈ cs, v.oneCell' = true)
    (hsrc : 0 < cs.length → ∃ b off, sp = some ⟨b, off, none⟩ ∧ b < w.heap.size ∧ ∀ j v, cs[j]? = some v → w.cell? ⟨b, off + j, none⟩ = some v) :
    Calls Try.prog 32 #[.slice sp len cap] w fun e w' => e = .returned (.slice (some ⟨w.heap.size, 0, none⟩) len len) ∧ Row w' w.heap.size 5 cs ∧ Below w.heap.size w w' := by
  have hmk := run_make_row' (P := Try.prog) 46 5 (.int .u8 0) 1 Try.underlying46 Try.info_u8 rfl .i64 .i64 len (by omega) (by omega) w
  have hg : (w.alloc (.cells (madeCells #[.int .u8 0] len) 5)).heap[w.heap.size]? = some (.cells (List.replicate len (.int .u8 0)).toArray 5 (0, 0)) := by rw [heap_new, madeCells_rep]
  have hB : Below w.heap.size w (w.alloc (.cells (madeCells #[.int .u8 0] len) 5)) := (Below.refl _ _).alloc (Nat.le_refl _) _
  have hsrc' : 0 < cs.length → ∃ b off, sp = some ⟨b, off, none⟩ ∧ ∀ j v, cs[j]? = some v → (w.alloc (.cells (madeCells #[.int .u8 0] len) 5)).cell? ⟨b, off + j, none⟩ = some v := by
    intro h0
    obtain ⟨b, off, e, hlt, hc⟩ := hsrc h0
    refine ⟨b, off, e, fun j v hj => ?_⟩
    rw [hB.cell (p := ⟨b, off + j, none⟩) hlt]
    exact hc j v hj
  obtain ⟨w2, hcp, HR, hB2⟩ := copy_run 46 5 Try.underlying46 Try.size_u8 w.heap.size len cap sp (.int .u8 0) cs _ hl hg h1 hsrc'
  have HB2 : Hid _ := hB.trans hB2
  generalize w.alloc (.cells (madeCells #[.int .u8 0] len) 5) = wm at hmk hcp
  have hlm : len ≤ 281474976710656 := by omega
  clear hsrc hsrc' hl h1 hg hB hm hB2
  go_enter Try.func32, Try.ntmps32
  go_wp2_with fail
  go_ret
  exact ⟨rfl, HR, HB2.out⟩
set_option maxHeartbeats 1000000 in
theorem halves_u8 (b off len cap : Nat) (cs : List Value) (w : World) (hl : cs.length = len) (hm : len * 1 ≤ 281474976710656) (hlc : len ≤ cap) (hcm : cap ≤ maxLen) (h1 : ∀ v ∈ cs, v.oneCell' = true)
    (hb : b < w.heap.size) (hc : ∀ j v, cs[j]? = some v → w.cell? ⟨b, off + j, none⟩ = some v) :
    Calls Try.prog 25 #[.slice (some ⟨b, off, none⟩) len cap] w fun e w' => ∃ g1 g2, e = .returned (.tuple #[.slice (some ⟨g1, 0, none⟩) (len - len / 2) (len - len / 2), .slice (some ⟨g2, 0, none⟩) (len / 2) (len / 2)]) ∧
      w.heap.size ≤ g1 ∧ w.heap.size ≤ g2 ∧ Row w' g1 5 (cs.take (len - len / 2)) ∧ Row w' g2 5 (cs.drop (len - len / 2)) ∧ Below w.heap.size w w' := by
  unfold maxLen at hcm
  have hlm : len ≤ 281474976710656 := by omega
  obtain ⟨c, hcl, hcut, hc2⟩ : ∃ c, c ≤ len ∧ (len : Int) - (len : Int) / 2 = (c : Int) ∧ Hid (c = len - len / 2) := ⟨len - len / 2, by omega, by omega, rfl⟩
  have hcc : c ≤ cap := by omega
  have FA : Hid (∀ u, Below w.heap.size w u → Calls Try.prog 32 #[.slice (some ⟨b, off, none⟩) c cap] u fun e u' => e = .returned (.slice (some ⟨u.heap.size, 0, none⟩) c c) ∧ Row u' u.heap.size 5 (cs.take c) ∧ Below u.heap.size u u') := by
    intro u hu
    refine fresh_u8 _ c cap (cs.take c) u (by rw [List.length_take]; omega) (by omega) (fun v hv => h1 v (List.mem_of_mem_take hv)) (fun _ => ⟨b, off, rfl, Nat.lt_of_lt_of_le hb hu.size, fun j v hj => ?_⟩)
    rw [hu.cell (p := ⟨b, off + j, none⟩) hb]
    refine hc j v ?_
    rw [List.getElem?_take] at hj
    split at hj
    · exact hj
    · cases hj
  have FB : Hid (∀ sp cap' u, (0 < len - c → sp = some ⟨b, off + c, none⟩) → Below w.heap.size w u → Calls Try.prog 32 #[.slice sp (len - c) cap'] u fun e u' => e = .returned (.slice (some ⟨u.heap.size, 0, none⟩) (len - c) (len - c)) ∧ Row u' u.heap.size 5 (cs.drop c) ∧ Below u.heap.size u u') := by
    intro sp cap' u hsp hu
    refine fresh_u8 sp (len - c) cap' (cs.drop c) u (by rw [List.length_drop]; omega) (by omega) (fun v hv => h1 v (List.mem_of_mem_drop hv)) (fun h0 => ⟨b, off + c, hsp (by rw [List.length_drop] at h0; omega), Nat.lt_of_lt_of_le hb hu.size, fun j v hj => ?_⟩)
    rw [hu.cell (p := ⟨b, off + c + j, none⟩) hb, Nat.add_assoc]
    refine hc (c + j) v ?_
    rw [List.getElem?_drop] at hj
    exact hj
  have HL : Hid _ := hl
  clear hc h1 hl
  have E2 : Hid (len - c = len / 2) := by have := hc2.out; show _ = _; omega
  by_cases hce : c = cap
  · obtain rfl : len = cap := by omega
    subst hce
    have F0 : Hid (∀ sp cap' u, Calls Try.prog 32 #[.slice sp 0 cap'] u fun e u' => e = .returned (.slice (some ⟨u.heap.size, 0, none⟩) 0 0) ∧ Row u' u.heap.size 5 [] ∧ Below u.heap.size u u') :=
      fun sp cap' u => fresh_u8 sp 0 cap' [] u rfl (by omega) (fun v hv => by cases hv) (fun h => by cases h)
    have HD : Hid (cs.drop c = []) := by show _ = _; rw [List.drop_eq_nil_iff]; exact Nat.le_of_eq HL.out
    go_enter Try.func25, Try.ntmps25
    go_wp2_with fail
    go_region_with (first | (go_at_call_of 32 (Value.slice (some (Addr.mk b off none)) c c); refine (FA.out _ ?_).mono ?_; exact (Below.refl _ _).drew; rintro e w1 ⟨rfl, hr1, hb1⟩) | (go_at_call_of 32 (Value.slice (some (Addr.mk b off none)) 0 0); refine (F0.out _ _ _).mono ?_; rintro e w2 ⟨rfl, hr2, hb2⟩))
    all_goals
      have B1 : Below w.heap.size w w1 := (Below.refl w.heap.size w).drew.trans hb1
      have R1 := hr1.below hb2 hr1.lt
      have B2 := B1.trans (hb2.mono B1.size)
      have Z : 0 = c / 2 := by have := E2.out; rw [Nat.sub_self] at this; exact this
      have HZ : Hid _ := Z
      have z1 := B1.size
      clear hr1 hb1 hb2 B1 Z
      go_wp2_with fail
      go_ret2
      refine ⟨w.heap.size, w1.heap.size, ?_, Nat.le_refl _, z1, ?_, ?_, B2⟩
      · rw [← HZ.out]; rfl
      · rw [← HZ.out]; exact R1
      · rw [← HZ.out, Nat.sub_zero, HD.out]; exact hr2
  · go_enter Try.func25, Try.ntmps25
    go_wp2_with fail
    go_region_with (first | (go_at_call_of 32 (Value.slice (some (Addr.mk b off none)) c cap); refine (FA.out _ ?_).mono ?_; exact (Below.refl _ _).drew; rintro e w1 ⟨rfl, hr1, hb1⟩) | (go_at_call_of 32 (Value.slice (some (Addr.mk b (off + c) none)) (len - c) (cap - c)); refine (FB.out _ _ _ ?_ ?_).mono ?_; exact fun _ => rfl; exact (Below.refl w.heap.size w).drew.trans hb1; rintro e w2 ⟨rfl, hr2, hb2⟩))
    all_goals
      have B1 : Below w.heap.size w w1 := (Below.refl w.heap.size w).drew.trans hb1
      have R1 := hr1.below hb2 hr1.lt
      have B2 := B1.trans (hb2.mono B1.size)
      have z1 := B1.size
      clear hr1 hb1 hb2 B1
      go_wp2_with fail
      go_ret2
      refine ⟨w.heap.size, w1.heap.size, ?_, Nat.le_refl _, z1, ?_, ?_, B2⟩
      · rw [← hc2.out, ← E2.out]; rfl
      · rw [← hc2.out]; exact R1
      · rw [← hc2.out]; exact hr2

/-- of no list -/
theorem halves_nil_u8 (a : Option Addr) (w : World) :
    Calls Try.prog 25 #[.slice a 0 0] w fun e w' => ∃ g1 g2, e = .returned (.tuple #[.slice (some ⟨g1, 0, none⟩) 0 0, .slice (some ⟨g2, 0, none⟩) 0 0]) ∧
      w.heap.size ≤ g1 ∧ w.heap.size ≤ g2 ∧ Row w' g1 5 [] ∧ Row w' g2 5 [] ∧ Below w.heap.size w w' := by
  have F0 : Hid (∀ sp cap' u, Calls Try.prog 32 #[.slice sp 0 cap'] u fun e u' => e = .returned (.slice (some ⟨u.heap.size, 0, none⟩) 0 0) ∧ Row u' u.heap.size 5 [] ∧ Below u.heap.size u u') :=
      fun sp cap' u => fresh_u8 sp 0 cap' [] u rfl (by omega) (fun v hv => by cases hv) (fun h => by cases h)
  go_enter Try.func25, Try.ntmps25
  go_wp2_with fail
  go_region_with (first | (go_at_call 32; have hq := hr1; clear hq; refine (F0.out _ _ _).mono ?_; rintro e w2 ⟨rfl, hr2, hb2⟩) | (go_at_call 32; refine (F0.out _ _ _).mono ?_; rintro e w1 ⟨rfl, hr1, hb1⟩))
  all_goals
    have B1 : Below w.heap.size w w1 := (Below.refl w.heap.size w).drew.trans hb1
    have R1 := hr1.below hb2 hr1.lt
    have B2 := B1.trans (hb2.mono B1.size)
    have z1 := B1.size
    clear hr1 hb1 hb2 B1
    go_wp2_with fail
    go_ret2
    exact ⟨w.heap.size, w1.heap.size, rfl, Nat.le_refl _, z1, R1, hr2, B2⟩

theorem Try.info_i64 : (Try.prog.info? 3).map (fun i => (i.zero, i.size, i.bytes)) = some (some (.int .i64 0), 1, 8) := by kernel_rfl
theorem Try.size_i64 : (Try.prog.info? 3).map (·.size) = some 1 := by kernel_rfl
set_option maxHeartbeats 400000 in
theorem fresh_i64 (sp : Option Addr) (len cap : Nat) (cs : List Value) (w : World) (hl : cs.length = len) (hm : len * 8 ≤ 281474976710656) (h1 : ∀ v ∈ cs, v.oneCell' = true)
    (hsrc : 0 < cs.length → ∃ b off, sp = some ⟨b, off, none⟩ ∧ b < w.heap.size ∧ ∀ j v, cs[j]? = some v → w.cell? ⟨b, off + j, none⟩ = some v) :
    Calls Try.prog 33 #[.slice sp len cap] w fun e w' => e = .returned (.slice (some ⟨w.heap.size, 0, none⟩) len len) ∧ Row w' w.heap.size 3 cs ∧ Below w.heap.size w w' := by
  have hmk := run_make_row' (P := Try.prog) 57 3 (.int .i64 0) 8 Try.underlying57 Try.info_i64 rfl .i64 .i64 len (by omega) (by omega) w
  have hg : (w.alloc (.cells (madeCells #[.int .i64 0] len) 3)).heap[w.heap.size]? = some (.cells (List.replicate len (.int .i64 0)).toArray 3 (0, 0)) := by rw [heap_new, madeCells_rep]
  have hB : Below w.heap.size w (w.alloc (.cells (madeCells #[.int .i64 0] len) 3)) := (Below.refl _ _).alloc (Nat.le_refl _) _
  have hsrc' : 0 < cs.length → ∃ b off, sp = some ⟨b, off, none⟩ ∧ ∀ j v, cs[j]? = some v → (w.alloc (.cells (madeCells #[.int .i64 0] len) 3)).cell? ⟨b, off + j, none⟩ = some v := by
    intro h0
    obtain ⟨b, off, e, hlt, hc⟩ := hsrc h0
    refine ⟨b, off, e, fun j v hj => ?_⟩
    rw [hB.cell (p := ⟨b, off + j, none⟩) hlt]
    exact hc j v hj
  obtain ⟨w2, hcp, HR, hB2⟩ := copy_run 57 3 Try.underlying57 Try.size_i64 w.heap.size len cap sp (.int .i64 0) cs _ hl hg h1 hsrc'
  have HB2 : Hid _ := hB.trans hB2
  generalize w.alloc (.cells (madeCells #[.int .i64 0] len) 3) = wm at hmk hcp
  have hlm : len ≤ 281474976710656 := by omega
  clear hsrc hsrc' hl h1 hg hB hm hB2
  go_enter Try.func33, Try.ntmps33
  go_wp2_with fail
  go_ret
  exact ⟨rfl, HR, HB2.out⟩
set_option maxHeartbeats 1000000 in
theorem halves_i64 (b off len cap : Nat) (cs : List Value) (w : World) (hl : cs.length = len) (hm : len * 8 ≤ 281474976710656) (hlc : len ≤ cap) (hcm : cap ≤ maxLen) (h1 : ∀ v ∈ cs, v.oneCell' = true)
    (hb : b < w.heap.size) (hc : ∀ j v, cs[j]? = some v → w.cell? ⟨b, off + j, none⟩ = some v) :
    Calls Try.prog 26 #[.slice (some ⟨b, off, none⟩) len cap] w fun e w' => ∃ g1 g2, e = .returned (.tuple #[.slice (some ⟨g1, 0, none⟩) (len - len / 2) (len - len / 2), .slice (some ⟨g2, 0, none⟩) (len / 2) (len / 2)]) ∧
      w.heap.size ≤ g1 ∧ w.heap.size ≤ g2 ∧ Row w' g1 3 (cs.take (len - len / 2)) ∧ Row w' g2 3 (cs.drop (len - len / 2)) ∧ Below w.heap.size w w' := by
  unfold maxLen at hcm
  have hlm : len ≤ 281474976710656 := by omega
  obtain ⟨c, hcl, hcut, hc2⟩ : ∃ c, c ≤ len ∧ (len : Int) - (len : Int) / 2 = (c : Int) ∧ Hid (c = len - len / 2) := ⟨len - len / 2, by omega, by omega, rfl⟩
  have hcc : c ≤ cap := by omega
  have FA : Hid (∀ u, Below w.heap.size w u → Calls Try.prog 33 #[.slice (some ⟨b, off, none⟩) c cap] u fun e u' => e = .returned (.slice (some ⟨u.heap.size, 0, none⟩) c c) ∧ Row u' u.heap.size 3 (cs.take c) ∧ Below u.heap.size u u') := by
    intro u hu
    refine fresh_i64 _ c cap (cs.take c) u (by rw [List.length_take]; omega) (by omega) (fun v hv => h1 v (List.mem_of_mem_take hv)) (fun _ => ⟨b, off, rfl, Nat.lt_of_lt_of_le hb hu.size, fun j v hj => ?_⟩)
    rw [hu.cell (p := ⟨b, off + j, none⟩) hb]
    refine hc j v ?_
    rw [List.getElem?_take] at hj
    split at hj
    · exact hj
    · cases hj
  have FB : Hid (∀ sp cap' u, (0 < len - c → sp = some ⟨b, off + c, none⟩) → Below w.heap.size w u → Calls Try.prog 33 #[.slice sp (len - c) cap'] u fun e u' => e = .returned (.slice (some ⟨u.heap.size, 0, none⟩) (len - c) (len - c)) ∧ Row u' u.heap.size 3 (cs.drop c) ∧ Below u.heap.size u u') := by
    intro sp cap' u hsp hu
    refine fresh_i64 sp (len - c) cap' (cs.drop c) u (by rw [List.length_drop]; omega) (by omega) (fun v hv => h1 v (List.mem_of_mem_drop hv)) (fun h0 => ⟨b, off + c, hsp (by rw [List.length_drop] at h0; omega), Nat.lt_of_lt_of_le hb hu.size, fun j v hj => ?_⟩)
    rw [hu.cell (p := ⟨b, off + c + j, none⟩) hb, Nat.add_assoc]
    refine hc (c + j) v ?_
    rw [List.getElem?_drop] at hj
    exact hj
  have HL : Hid _ := hl
  clear hc h1 hl
  have E2 : Hid (len - c = len / 2) := by have := hc2.out; show _ = _; omega
  by_cases hce : c = cap
  · obtain rfl : len = cap := by omega
    subst hce
    have F0 : Hid (∀ sp cap' u, Calls Try.prog 33 #[.slice sp 0 cap'] u fun e u' => e = .returned (.slice (some ⟨u.heap.size, 0, none⟩) 0 0) ∧ Row u' u.heap.size 3 [] ∧ Below u.heap.size u u') :=
      fun sp cap' u => fresh_i64 sp 0 cap' [] u rfl (by omega) (fun v hv => by cases hv) (fun h => by cases h)
    have HD : Hid (cs.drop c = []) := by show _ = _; rw [List.drop_eq_nil_iff]; exact Nat.le_of_eq HL.out
    go_enter Try.func26, Try.ntmps26
    go_wp2_with fail
    go_region_with (first | (go_at_call_of 33 (Value.slice (some (Addr.mk b off none)) c c); refine (FA.out _ ?_).mono ?_; exact (Below.refl _ _).drew; rintro e w1 ⟨rfl, hr1, hb1⟩) | (go_at_call_of 33 (Value.slice (some (Addr.mk b off none)) 0 0); refine (F0.out _ _ _).mono ?_; rintro e w2 ⟨rfl, hr2, hb2⟩))
    all_goals
      have B1 : Below w.heap.size w w1 := (Below.refl w.heap.size w).drew.trans hb1
      have R1 := hr1.below hb2 hr1.lt
      have B2 := B1.trans (hb2.mono B1.size)
      have Z : 0 = c / 2 := by have := E2.out; rw [Nat.sub_self] at this; exact this
      have HZ : Hid _ := Z
      have z1 := B1.size
      clear hr1 hb1 hb2 B1 Z
      go_wp2_with fail
      go_ret2
      refine ⟨w.heap.size, w1.heap.size, ?_, Nat.le_refl _, z1, ?_, ?_, B2⟩
      · rw [← HZ.out]; rfl
      · rw [← HZ.out]; exact R1
      · rw [← HZ.out, Nat.sub_zero, HD.out]; exact hr2
  · go_enter Try.func26, Try.ntmps26
    go_wp2_with fail
    go_region_with (first | (go_at_call_of 33 (Value.slice (some (Addr.mk b off none)) c cap); refine (FA.out _ ?_).mono ?_; exact (Below.refl _ _).drew; rintro e w1 ⟨rfl, hr1, hb1⟩) | (go_at_call_of 33 (Value.slice (some (Addr.mk b (off + c) none)) (len - c) (cap - c)); refine (FB.out _ _ _ ?_ ?_).mono ?_; exact fun _ => rfl; exact (Below.refl w.heap.size w).drew.trans hb1; rintro e w2 ⟨rfl, hr2, hb2⟩))
    all_goals
      have B1 : Below w.heap.size w w1 := (Below.refl w.heap.size w).drew.trans hb1
      have R1 := hr1.below hb2 hr1.lt
      have B2 := B1.trans (hb2.mono B1.size)
      have z1 := B1.size
      clear hr1 hb1 hb2 B1
      go_wp2_with fail
      go_ret2
      refine ⟨w.heap.size, w1.heap.size, ?_, Nat.le_refl _, z1, ?_, ?_, B2⟩
      · rw [← hc2.out, ← E2.out]; rfl
      · rw [← hc2.out]; exact R1
      · rw [← hc2.out]; exact hr2

/-- of no list -/
theorem halves_nil_i64 (a : Option Addr) (w : World) :
    Calls Try.prog 26 #[.slice a 0 0] w fun e w' => ∃ g1 g2, e = .returned (.tuple #[.slice (some ⟨g1, 0, none⟩) 0 0, .slice (some ⟨g2, 0, none⟩) 0 0]) ∧
      w.heap.size ≤ g1 ∧ w.heap.size ≤ g2 ∧ Row w' g1 3 [] ∧ Row w' g2 3 [] ∧ Below w.heap.size w w' := by
  have F0 : Hid (∀ sp cap' u, Calls Try.prog 33 #[.slice sp 0 cap'] u fun e u' => e = .returned (.slice (some ⟨u.heap.size, 0, none⟩) 0 0) ∧ Row u' u.heap.size 3 [] ∧ Below u.heap.size u u') :=
      fun sp cap' u => fresh_i64 sp 0 cap' [] u rfl (by omega) (fun v hv => by cases hv) (fun h => by cases h)
  go_enter Try.func26, Try.ntmps26
  go_wp2_with fail
  go_region_with (first | (go_at_call 33; have hq := hr1; clear hq; refine (F0.out _ _ _).mono ?_; rintro e w2 ⟨rfl, hr2, hb2⟩) | (go_at_call 33; refine (F0.out _ _ _).mono ?_; rintro e w1 ⟨rfl, hr1, hb1⟩))
  all_goals
    have B1 : Below w.heap.size w w1 := (Below.refl w.heap.size w).drew.trans hb1
    have R1 := hr1.below hb2 hr1.lt
    have B2 := B1.trans (hb2.mono B1.size)
    have z1 := B1.size
    clear hr1 hb1 hb2 B1
    go_wp2_with fail
    go_ret2
    exact ⟨w.heap.size, w1.heap.size, rfl, Nat.le_refl _, z1, R1, hr2, B2⟩
end Go.Proofs.Ytnhglgmjmicaoaa
