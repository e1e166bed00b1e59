/- The chapter's examples; laws' helpers. -/
import Derived.Test.YtepoodfihemmcaaQuotaD

namespace Go.Proofs.Ytepoodfihemmcaa.Qm

open Go.RowKit Go.Instr Go.ChangeMaps Go.Proofs.Ytepoodfihemmcaa.It Go.Proofs.Ytepoodfihemmcaa.Q

set_option linter.unusedVariables false

set_option linter.unusedSimpArgs false

set_option maxRecDepth 100000

section

variable {mt kt : TypeId} {κ : Type} [DecidableEq κ] {ky : κ → Value} {ops : Array Oper} {rest : List Oper} {o : Oper} {a : Act} {w : World} {Q : Exit → Act → World → Prop}

theorem layg_step (K : MK mt kt ky) (hw : Region.wanted o (yielded ops a.tmps) = true) (m x v : Operand) (ho : o.op = .insert mt m x v) (mb : Nat) (hm : a.eval m = .map (some mb)) (n : κ) (hx : a.eval x = ky n) (c : Int) (hv : a.eval v = .int .i64 c) (M : List (κ × Int)) (hM : Mp ky w mb M)
    (h : ∀ w', Mp ky w' mb (setM M n c) → Upd mb w w' → wpList Try.prog ops Q rest (a.put o.dst undef) w') : wpList Try.prog ops Q (o :: rest) a w := by
  refine wpList_step fun K' hK => ?_
  rw [if_pos hw]
  obtain ⟨w', hr, h1, h2⟩ := run_lay K hM n c
  unfold Oper.wp execOp
  simp only [ho, hm, hx, hv, Sem.run_bind, hr, Result.andThen_ok, Sem.run_pure]
  exact hK _ _ (h w' h1 h2)
omit [DecidableEq κ] in
theorem makeg_step (hw : Region.wanted o (yielded ops a.tmps) = true) (t : TypeId) (ho : o.op = .makeMap t none)
    (h : ∀ w', w'.heap[w.heap.size]? = some (.map #[] 0) → Below w.heap.size w w' → w'.heap.size = w.heap.size + 1 → wpList Try.prog ops Q rest (a.put o.dst (.map (some w.heap.size))) w') : wpList Try.prog ops Q (o :: rest) a w := by
  refine wpList_step fun K' hK => ?_
  rw [if_pos hw]
  unfold Oper.wp
  simp only [execOp, ho, Option.map_none, Instr.makeMap, Sem.run_bind, Sem.run_pure, run_newObj_alloc, Result.andThen_ok]
  exact hK _ _ (h _ (heap_alloc_new w _) ((Below.refl _ _).alloc (Nat.le_refl _) _) (by simp))
end

def e1 : I.Wt := (⟨#[98]⟩, ⟨#[107]⟩, ⟨#[118]⟩, false)
def e2 : I.Wt := (⟨#[98]⟩, ⟨#[107]⟩, ⟨#[49, 50, 51, 52, 53, 54, 55]⟩, false)
def e3 : I.Wt := (⟨#[98]⟩, ⟨#[107]⟩, ⟨#[]⟩, true)
theorem x1 : tot (layAll [] [e1]) = 3 := by decide +kernel
theorem x2 : tot (layAll (layAll [] [e1]) [e2]) = 9 := by decide +kernel
theorem x3 : layAll (layAll [] [e1]) [e3] = [] := by decide +kernel
theorem x4 : tot (layAll [] [e2]) = 9 := by decide +kernel
theorem x5 : tot (setM (setM [] (⟨#[97]⟩ : ByteArray) 1) ⟨#[98]⟩ 2) = 3 := by decide +kernel
theorem newws {w w' : World} {x : I.Wt} (A : Blk w' w.heap.size (wc x)) (hz : w'.heap.size = w.heap.size + 1) : IsWs w' (.slice (some ⟨w.heap.size, 0, none⟩) 1 1) [x] := IsWs.one A (by omega)
set_option maxHeartbeats 4000000 in
theorem examples_any (w : World) :
    Calls Try.prog 8 #[] w fun e w' => e = .returned (.bool true) ∧ Below w.heap.size w w' := by
  have hg1 : Q.Good (layAll [] [e1]) := layAll_good _ Good.nil
  obtain ⟨M1, HM1⟩ : ∃ M, Hid (layAll [] [e1] = M) := ⟨_, rfl⟩
  have T1 := Lib.hid x1
  have T2 := Lib.hid x2
  have T3 := Lib.hid x3
  have T4 := Lib.hid x4
  rw [HM1.out] at hg1 T1 T2 T3
  have G1 := Lib.hid hg1
  clear hg1
  have CN := Lib.hid (fun u => new_not (-1) u (by decide))
  have CQ := Lib.hid (fun u => new_ok 6 u (by decide) (by decide))
  have C1 : Hid (∀ b mb v u, Qo u b mb 6 [] → IsWs u v [e1] → Calls Try.prog 16 #[.pointer (some ⟨b, 0, none⟩), v] u fun e w' => e = .returned (.bool true) ∧ Qo w' b mb 6 M1 ∧ Only mb u w') := fun b mb v u hq hv => by
    have := take_any b mb 6 [] v [e1] u hq Good.nil hv 3 (by rw [HM1.out, T1.out]) (by decide) (by decide) true (by decide)
    rw [if_pos rfl, HM1.out] at this
    exact this
  have C2 : Hid (∀ b mb v u, Qo u b mb 6 M1 → IsWs u v [e2] → Calls Try.prog 16 #[.pointer (some ⟨b, 0, none⟩), v] u fun e w' => e = .returned (.bool false) ∧ Qo w' b mb 6 M1 ∧ Only mb u w') := fun b mb v u hq hv => by
    have := take_any b mb 6 M1 v [e2] u hq G1.out hv 9 T2.out (by decide) (by decide) false (by decide)
    rw [if_neg (by decide)] at this
    exact this
  have C3 : Hid (∀ b mb v u, Qo u b mb 6 M1 → IsWs u v [e3] → Calls Try.prog 16 #[.pointer (some ⟨b, 0, none⟩), v] u fun e w' => e = .returned (.bool true) ∧ Qo w' b mb 6 [] ∧ Only mb u w') := fun b mb v u hq hv => by
    have := take_any b mb 6 M1 v [e3] u hq G1.out hv 0 (by rw [T3.out]; rfl) (by decide) (by decide) true (by decide)
    rw [if_pos rfl, T3.out] at this
    exact this
  have CA : Hid (∀ b mb v u, Qo u b mb 6 [] → IsWs u v [e2] → Calls Try.prog 14 #[.pointer (some ⟨b, 0, none⟩), v] u fun e w' => e = .returned (.int .i64 9) ∧ Below u.heap.size u w') := fun b mb v u hq hv => after_any b mb 6 [] v [e2] u hq Good.nil hv 9 T4.out (by decide) (by decide)
  have CF : Hid (∀ b mb v u, Qo u b mb 6 [] → IsWs u v [e2] → Calls Try.prog 15 #[.pointer (some ⟨b, 0, none⟩), v] u fun e w' => e = .returned (.bool false) ∧ Below u.heap.size u w') := fun b mb v u hq hv => fits_any b mb 6 [] v [e2] u hq Good.nil hv 9 T4.out (by decide) (by decide) false (by decide)
  have CU : Hid (∀ b mb u, Qo u b mb 6 M1 → Calls Try.prog 18 #[.pointer (some ⟨b, 0, none⟩)] u fun e w' => e = .returned (.int .i64 3) ∧ Below u.heap.size u w') := fun b mb u hq => used_any b mb 6 M1 u hq 3 (by rw [T1.out]; exact wrap_small 3 (by decide) (by decide))
  have CU0 : Hid (∀ b mb u, Qo u b mb 6 [] → Calls Try.prog 18 #[.pointer (some ⟨b, 0, none⟩)] u fun e w' => e = .returned (.int .i64 0) ∧ Below u.heap.size u w') := fun b mb u hq => used_any b mb 6 [] u hq 0 (wrap_small 0 (by decide) (by decide))
  have CK : Hid (∀ b mb u, Qo u b mb 6 [] → Calls Try.prog 20 #[.pointer (some ⟨b, 0, none⟩)] u fun e w' => e = .returned (.int .i64 0) ∧ w' = u) := fun b mb u hq => keys_any b mb 6 [] u hq
  have CT : Hid (∀ m u, Mp kyS u m (setM (setM [] (⟨#[97]⟩ : ByteArray) 1) ⟨#[98]⟩ 2) → Calls Try.prog 27 #[.map (some m)] u fun e w' => e = .returned (.int .i64 3) ∧ Below u.heap.size u w') := fun m u hm => by
    have := tallyS m _ u hm
    rw [x5, wrap_small 3 (by decide) (by decide)] at this
    exact this
  clear T1 T2 T3 T4 HM1 G1
  go_enter Try.func8, Try.ntmps8
  go_wp2_with fail
  refine (CN.out _).mono ?_; rintro e w1 ⟨rfl, h9⟩
  subst w1
  go_wp2_with fail
  refine (CQ.out _).mono ?_; rintro e w2 ⟨b, mb, rfl, hq, hb, n1, n2⟩
  have Q2 := Lib.hid hq
  have B2 := Lib.hid hb
  have N1 := Lib.hid n1
  have N2 := Lib.hid n2
  clear hq hb n1 n2 CN CQ
  go_wp2_with (first | refine build_iw rfl _ rfl e1 rfl ?_)
  intro w3 A B Z
  obtain ⟨ba, HBA⟩ : ∃ q, Hid (w2.heap.size = q) := ⟨_, rfl⟩
  have V3 : Hid (IsWs w3 (.slice (some ⟨ba, 0, none⟩) 1 1) [e1]) := by show IsWs _ _ _; rw [← HBA.out]; exact newws A Z
  have Q3 := Lib.hid (Q2.out.more B)
  have B3 : Hid (Below w.heap.size w w3) := Below.trans B2.out (B.mono B2.out.size)
  rw [HBA.out]
  clear A B Z HBA Q2 B2
  go_wp2_with (first | refine build_iw rfl _ rfl e2 rfl ?_)
  intro w4 A B Z
  obtain ⟨bb, HBA⟩ : ∃ q, Hid (w3.heap.size = q) := ⟨_, rfl⟩
  have U4 : Hid (IsWs w4 (.slice (some ⟨bb, 0, none⟩) 1 1) [e2]) := by show IsWs _ _ _; rw [← HBA.out]; exact newws A Z
  have V4 := Lib.hid (V3.out.below B)
  have Q4 := Lib.hid (Q3.out.more B)
  have B4 : Hid (Below w.heap.size w w4) := Below.trans B3.out (B.mono B3.out.size)
  rw [HBA.out]
  clear A B Z HBA Q3 B3 V3
  go_wp2_with fail
  refine (C1.out b mb _ _ Q4.out V4.out).mono ?_; rintro e w5 ⟨rfl, hq, ho⟩
  have Q5 := Lib.hid hq
  have U5 := Lib.hid (ho.ws Q4.out.map.isMap U4.out)
  have B5 : Hid (Below w.heap.size w w5) := Below.trans B4.out (ho.below N2.out B4.out.size)
  clear hq ho Q4 U4 B4 V4 C1
  go_wp2_with fail
  refine (CU.out b mb _ Q5.out).mono ?_; rintro e w6 ⟨rfl, hb⟩
  have Q6 := Lib.hid (Q5.out.more hb)
  have U6 := Lib.hid (U5.out.below hb)
  have B6 : Hid (Below w.heap.size w w6) := Below.trans B5.out (hb.mono B5.out.size)
  clear hb Q5 U5 B5 CU
  go_wp2_with fail
  refine (C2.out b mb _ _ Q6.out U6.out).mono ?_; rintro e w7 ⟨rfl, hq, ho⟩
  have Q7 := Lib.hid hq
  have U7 := Lib.hid (ho.ws Q6.out.map.isMap U6.out)
  have B7 : Hid (Below w.heap.size w w7) := Below.trans B6.out (ho.below N2.out B6.out.size)
  clear hq ho Q6 U6 B6 C2
  go_wp2_with (first | refine build_iw rfl _ rfl e3 rfl ?_)
  intro w8 A B Z
  obtain ⟨bc, HBA⟩ : ∃ q, Hid (w7.heap.size = q) := ⟨_, rfl⟩
  have V8 : Hid (IsWs w8 (.slice (some ⟨bc, 0, none⟩) 1 1) [e3]) := by show IsWs _ _ _; rw [← HBA.out]; exact newws A Z
  have U8 := Lib.hid (U7.out.below B)
  have Q8 := Lib.hid (Q7.out.more B)
  have B8 : Hid (Below w.heap.size w w8) := Below.trans B7.out (B.mono B7.out.size)
  rw [HBA.out]
  clear A B Z HBA Q7 B7 U7
  go_wp2_with fail
  refine (C3.out b mb _ _ Q8.out V8.out).mono ?_; rintro e w9 ⟨rfl, hq, ho⟩
  have Q9 := Lib.hid hq
  have U9 := Lib.hid (ho.ws Q8.out.map.isMap U8.out)
  have B9 : Hid (Below w.heap.size w w9) := Below.trans B8.out (ho.below N2.out B8.out.size)
  clear hq ho Q8 U8 B8 V8 C3
  go_wp2_with fail
  refine (CA.out b mb _ _ Q9.out U9.out).mono ?_; rintro e wa ⟨rfl, hb⟩
  have Qa := Lib.hid (Q9.out.more hb)
  have Ua := Lib.hid (U9.out.below hb)
  have Ba : Hid (Below w.heap.size w wa) := Below.trans B9.out (hb.mono B9.out.size)
  clear hb Q9 U9 B9 CA
  go_wp2_with fail
  refine (CF.out b mb _ _ Qa.out Ua.out).mono ?_; rintro e wb ⟨rfl, hb⟩
  have Qb := Lib.hid (Qa.out.more hb)
  have Bb : Hid (Below w.heap.size w wb) := Below.trans Ba.out (hb.mono Ba.out.size)
  clear hb Qa Ua Ba CF
  go_wp2_with fail
  refine (CU0.out b mb _ Qb.out).mono ?_; rintro e wc ⟨rfl, hb⟩
  have Qc := Lib.hid (Qb.out.more hb)
  have Bc : Hid (Below w.heap.size w wc) := Below.trans Bb.out (hb.mono Bb.out.size)
  clear hb Qb Bb CU0
  go_wp2_with fail
  refine (CK.out b mb _ Qc.out).mono ?_; rintro e wd ⟨rfl, rfl⟩
  go_wp2_with fail
  refine (limit_any b mb 6 [] _ Qc.out).mono ?_; rintro e we ⟨rfl, rfl⟩
  clear Qc CK
  go_wp2_with (first | refine makeg_step rfl _ rfl ?_)
  intro wf hm hb hz
  obtain ⟨bm, HBM⟩ : ∃ q, Hid (we.heap.size = q) := ⟨_, rfl⟩
  have Mf : Hid (Mp kyS wf bm []) := by show Mp _ _ _ _; rw [← HBM.out]; exact Mp.none hm
  have Bf : Hid (Below w.heap.size w wf ∧ w.heap.size ≤ bm) := ⟨Below.trans Bc.out (hb.mono Bc.out.size), by rw [← HBM.out]; exact Bc.out.size⟩
  rw [HBM.out]
  clear hm hb hz HBM Bc
  go_wp2_with (first | refine layg_step kS rfl _ _ _ rfl bm rfl (⟨#[97]⟩ : ByteArray) rfl 1 rfl [] Mf.out ?_)
  intro wg hm hu
  have Mg := Lib.hid hm
  have Bg : Hid (Below w.heap.size w wg ∧ w.heap.size ≤ bm) := ⟨Below.trans Bf.out.1 (hu.below Bf.out.2), Bf.out.2⟩
  clear hm hu Mf Bf
  go_wp2_with (first | refine layg_step kS rfl _ _ _ rfl bm rfl (⟨#[98]⟩ : ByteArray) rfl 2 rfl _ Mg.out ?_)
  intro wh hm hu
  have Mh := Lib.hid hm
  have Bh : Hid (Below w.heap.size w wh) := Below.trans Bg.out.1 (hu.below Bg.out.2)
  clear hm hu Mg Bg
  go_wp2_with fail
  refine (CT.out bm _ Mh.out).mono ?_; rintro e wi ⟨rfl, hb⟩
  have Bi : Hid (Below w.heap.size w wi) := Below.trans Bh.out (hb.mono Bh.out.size)
  clear hb Mh Bh CT
  go_wp2_with fail
  go_ret
  exact ⟨rfl, Bi.out⟩
end Go.Proofs.Ytepoodfihemmcaa.Qm
