/- The chapter's examples. -/
import Derived.Test.YtmajkapapbhabaaSep

import Derived.Test.YtmajkapapbhabaaChainPruneS

import Derived.Test.YtmajkapapbhabaaFrameMarks

import Derived.Test.YtmajkapapbhabaaChainPruneI

import Derived.Test.YtmajkapapbhabaaStampOf

namespace Go.Proofs.Ytmajkapapbhabaa.Ch

open Go.RowKit Go.Proofs.Ytmajkapapbhabaa.Vc Go.Proofs.Ytmajkapapbhabaa.Sp Go.Proofs.Ytmajkapapbhabaa.Rw Go.Proofs.Ytmajkapapbhabaa.Se

set_option linter.unusedVariables false

set_option linter.unusedSimpArgs false

set_option maxRecDepth 100000

def ea : C.St := ([1, 0, 0, 0], 1)
def eb : C.St := ([1, 1, 0, 0], 2)
def xa : ByteArray := ⟨#[97]⟩
def xb : ByteArray := ⟨#[98]⟩
def xc : ByteArray := ⟨#[99]⟩
theorem ex1 : C.add ([] : List (C.Vr ByteArray)) eb xb = ([(eb, xb)], true) := by decide +kernel
theorem ex2 : C.add [(eb, xb)] ea xa = ([(ea, xa), (eb, xb)], true) := by decide +kernel
theorem ex3 : C.add [(ea, xa), (eb, xb)] ea xc = ([(ea, xa), (eb, xb)], false) := by decide +kernel
theorem ex4 : C.read [(ea, xa), (eb, xb)] [1, 0, 0, 0] = some (ea, xa) := by decide +kernel
theorem ex5 : C.read [(ea, xa), (eb, xb)] [0, 0, 0, 0] = none := by decide +kernel
theorem ex6 : C.keep [(ea, xa), (eb, xb)] [1, 1, 0, 0] = [(eb, xb)] := by decide +kernel
set_option maxHeartbeats 16000000 in
theorem examples_any (w : World) : Calls Try.prog 7 #[] w fun e w' => e = .returned (.bool true) ∧ Below w.heap.size w w' := by
  have CN := Lib.hid (fun u => newS u)
  have A1 : Hid (∀ u c v, Ch txt 52 u c v [] → Calls Try.prog 13 #[.pointer (some ⟨c, 0, none⟩), .agg (ks .u64 [1, 1, 0, 0] ++ [Value.int .i64 2]).toArray, .string ⟨#[98]⟩] u fun e w' => ∃ v', e = .returned (.bool true) ∧ Ch txt 52 w' c v' [(eb, xb)] ∧ Tw c v.ownBlock u w' ∧ Nw u v v') := fun u c v h => by have := addS c v [] eb xb u h rfl (by decide); rw [ex1] at this; exact this
  have A2 : Hid (∀ u c v, Ch txt 52 u c v [(eb, xb)] → Calls Try.prog 13 #[.pointer (some ⟨c, 0, none⟩), .agg (ks .u64 [1, 0, 0, 0] ++ [Value.int .i64 1]).toArray, .string ⟨#[97]⟩] u fun e w' => ∃ v', e = .returned (.bool true) ∧ Ch txt 52 w' c v' [(ea, xa), (eb, xb)] ∧ Tw c v.ownBlock u w' ∧ Nw u v v') := fun u c v h => by have := addS c v _ ea xa u h rfl (by decide); rw [ex2] at this; exact this
  have A3 : Hid (∀ u c v, Ch txt 52 u c v [(ea, xa), (eb, xb)] → Calls Try.prog 13 #[.pointer (some ⟨c, 0, none⟩), .agg (ks .u64 [1, 0, 0, 0] ++ [Value.int .i64 1]).toArray, .string ⟨#[99]⟩] u fun e w' => ∃ v', e = .returned (.bool false) ∧ Ch txt 52 w' c v' [(ea, xa), (eb, xb)] ∧ Tw c v.ownBlock u w' ∧ Nw u v v') := fun u c v h => by have := addS c v _ ea xc u h rfl (by decide); rw [ex3] at this; exact this
  have R1 : Hid (∀ u c v, Ch txt 52 u c v [(ea, xa), (eb, xb)] → Calls Try.prog 16 #[.pointer (some ⟨c, 0, none⟩), .agg #[.int .u64 1, .int .u64 0, .int .u64 0, .int .u64 0]] u fun e w' => e = .returned (.tuple #[.agg [Value.int .u64 1, .int .u64 0, .int .u64 0, .int .u64 0, .int .i64 1, .string ⟨#[97]⟩].toArray, .bool true]) ∧ Below u.heap.size u w') := fun u c v h => by have := readS c v _ [1, 0, 0, 0] u h rfl (by decide); rw [ex4] at this; exact this
  have R2 : Hid (∀ u c v, Ch txt 52 u c v [(ea, xa), (eb, xb)] → Calls Try.prog 16 #[.pointer (some ⟨c, 0, none⟩), .agg #[.int .u64 0, .int .u64 0, .int .u64 0, .int .u64 0]] u fun e w' => e = .returned (.tuple #[.agg [Value.int .u64 0, .int .u64 0, .int .u64 0, .int .u64 0, .int .i64 0, .string ⟨#[]⟩].toArray, .bool false]) ∧ Below u.heap.size u w') := fun u c v h => by have := readS c v _ [0, 0, 0, 0] u h rfl (by decide); rw [ex5] at this; exact this
  have CL : Hid (∀ u c v, Ch txt 52 u c v [(ea, xa), (eb, xb)] → Calls Try.prog 18 #[.pointer (some ⟨c, 0, none⟩)] u fun e w' => e = .returned (.tuple #[.agg [Value.int .u64 1, .int .u64 1, .int .u64 0, .int .u64 0, .int .i64 2, .string ⟨#[98]⟩].toArray, .bool true]) ∧ Below u.heap.size u w') := fun u c v h => lastS c v _ u h (by decide)
  have CE2 : Hid (∀ u c v, Ch txt 52 u c v [(ea, xa), (eb, xb)] → Calls Try.prog 21 #[.pointer (some ⟨c, 0, none⟩)] u fun e w' => e = .returned (.int .i64 2) ∧ w' = u) := fun u c v h => lenS c v _ u h
  have CE1 : Hid (∀ u c v, Ch txt 52 u c v [(eb, xb)] → Calls Try.prog 21 #[.pointer (some ⟨c, 0, none⟩)] u fun e w' => e = .returned (.int .i64 1) ∧ w' = u) := fun u c v h => lenS c v _ u h
  have CP : Hid (∀ u c v, Ch txt 52 u c v [(ea, xa), (eb, xb)] → Calls Try.prog 11 #[.pointer (some ⟨c, 0, none⟩), .agg #[.int .u64 1, .int .u64 1, .int .u64 0, .int .u64 0]] u fun e w' => ∃ v', e = .returned (.int .i64 1) ∧ Ch txt 52 w' c v' [(eb, xb)] ∧ Tw c v.ownBlock u w' ∧ Nw u v v') := fun u c v h => by have := pruneS c v _ [1, 1, 0, 0] u h rfl (by decide); rw [ex6] at this; exact this
  have CA : Hid (∀ u c v, Ch txt 52 u c v [(eb, xb)] → Calls Try.prog 20 #[.pointer (some ⟨c, 0, none⟩)] u fun e w' => ∃ a cap, e = .returned (.slice a 1 cap) ∧ Below u.heap.size u w') := fun u c v h => (allS c v _ u h (by decide)).mono fun e w' ⟨v', he, ho, hb⟩ => by
    obtain ⟨a, cap, ev, _⟩ := ho.is.is
    exact ⟨a, cap, by rw [he, ev]; rfl, hb⟩
  have HSA := Lib.hid (size_s (l := [1, 0, 0, 0]) (d := 1) rfl)
  have HSB := Lib.hid (size_s (l := [1, 1, 0, 0]) (d := 2) rfl)
  go_enter Try.func7, Try.ntmps7
  go_wp2_with fail
  refine (CN.out _).mono ?_; rintro e w1 ⟨rfl, hc1, hb1⟩
  obtain ⟨c, HC⟩ : ∃ c, Hid (w.heap.size = c) := ⟨_, rfl⟩
  have S1 := Lib.hid ((Sep.start w).newchain hb1 hc1)
  rw [HC.out] at S1
  rw [HC.out]
  clear hc1 hb1
  go_wp2_with (first | refine blk_alloc rfl 34 (ks .u64 (List.replicate 4 0) ++ [Value.int .i64 0]) rfl Try.info_s ?_)
  intro w2 A B Z
  go_wp2_with (first | refine blk_store rfl 34 _ _ rfl w1.heap.size rfl (ks .u64 [1, 0, 0, 0] ++ [Value.int .i64 1]) rfl _ A rfl HSA.out rfl ?_)
  intro w3 A9 U9
  have S3 : Hid (Sep w w3 [rB w1.heap.size (ks .u64 [1, 0, 0, 0] ++ [Value.int .i64 1]), rC txt 52 c (.slice none 0 0) []]) := Sep.fresh S1.out B Z U9 A9
  clear A B Z A9 U9 S1
  go_wp2_with (first | refine blk_alloc rfl 34 (ks .u64 (List.replicate 4 0) ++ [Value.int .i64 0]) rfl Try.info_s ?_)
  intro w4 A B Z
  go_wp2_with (first | refine blk_store rfl 34 _ _ rfl w3.heap.size rfl (ks .u64 [1, 1, 0, 0] ++ [Value.int .i64 2]) rfl _ A rfl HSB.out rfl ?_)
  intro w5 A9 U9
  have S5 : Hid (Sep w w5 [rB w3.heap.size (ks .u64 [1, 1, 0, 0] ++ [Value.int .i64 2]), rB w1.heap.size (ks .u64 [1, 0, 0, 0] ++ [Value.int .i64 1]), rC txt 52 c (.slice none 0 0) []]) := Sep.fresh S3.out B Z U9 A9
  clear A B Z A9 U9 S3
  go_wp2_with (first | refine blk_load rfl 34 _ rfl w3.heap.size rfl (ks .u64 [1, 1, 0, 0] ++ [Value.int .i64 2]) (S5.out.blk 0 rfl) _ Try.underlying34 rfl HSB.out ?_ | fail)
  refine (A1.out _ _ _ (S5.out.ch 2 rfl)).mono ?_; rintro e w6 ⟨v6, rfl, hc, ht, hn⟩
  have S6 : Hid (Sep w w6 [rB w3.heap.size (ks .u64 [1, 1, 0, 0] ++ [Value.int .i64 2]), rB w1.heap.size (ks .u64 [1, 0, 0, 0] ++ [Value.int .i64 1]), rC txt 52 c v6 [(eb, xb)]]) := S5.out.chain 2 rfl hc ht hn
  clear hc ht hn S5
  go_wp2_with (first | refine blk_load rfl 34 _ rfl w1.heap.size rfl (ks .u64 [1, 0, 0, 0] ++ [Value.int .i64 1]) (S6.out.blk 1 rfl) _ Try.underlying34 rfl HSA.out ?_ | fail)
  refine (A2.out _ _ _ (S6.out.ch 2 rfl)).mono ?_; rintro e w7 ⟨v7, rfl, hc, ht, hn⟩
  have S7 : Hid (Sep w w7 [rB w3.heap.size (ks .u64 [1, 1, 0, 0] ++ [Value.int .i64 2]), rB w1.heap.size (ks .u64 [1, 0, 0, 0] ++ [Value.int .i64 1]), rC txt 52 c v7 [(ea, xa), (eb, xb)]]) := S6.out.chain 2 rfl hc ht hn
  clear hc ht hn S6
  go_wp2_with (first | refine blk_load rfl 34 _ rfl w1.heap.size rfl (ks .u64 [1, 0, 0, 0] ++ [Value.int .i64 1]) (S7.out.blk 1 rfl) _ Try.underlying34 rfl HSA.out ?_ | fail)
  refine (A3.out _ _ _ (S7.out.ch 2 rfl)).mono ?_; rintro e w8 ⟨v8, rfl, hc, ht, hn⟩
  have S8 : Hid (Sep w w8 [rB w3.heap.size (ks .u64 [1, 1, 0, 0] ++ [Value.int .i64 2]), rB w1.heap.size (ks .u64 [1, 0, 0, 0] ++ [Value.int .i64 1]), rC txt 52 c v8 [(ea, xa), (eb, xb)]]) := S7.out.chain 2 rfl hc ht hn
  clear hc ht hn S7
  go_wp2_with fail
  refine (R1.out _ _ _ (S8.out.ch 2 rfl)).mono ?_; rintro e w9 ⟨rfl, hb⟩
  have S9 : Hid (Sep w w9 [rB w3.heap.size (ks .u64 [1, 1, 0, 0] ++ [Value.int .i64 2]), rB w1.heap.size (ks .u64 [1, 0, 0, 0] ++ [Value.int .i64 1]), rC txt 52 c v8 [(ea, xa), (eb, xb)]]) := S8.out.below hb
  clear hb S8
  go_wp2_with (first | refine blk_alloc rfl 52 ((vk txt).cf (vk txt).none_) rfl info_vS ?_)
  intro w10 A B Z
  go_wp2_with (first | refine blk_store rfl 52 _ _ rfl w9.heap.size rfl [Value.int .u64 1, .int .u64 0, .int .u64 0, .int .u64 0, .int .i64 1, .string ⟨#[97]⟩] rfl _ A rfl size_vS rfl ?_)
  intro w11 A9 U9
  have S11 : Hid (Sep w w11 [rB w9.heap.size [Value.int .u64 1, .int .u64 0, .int .u64 0, .int .u64 0, .int .i64 1, .string ⟨#[97]⟩], rB w3.heap.size (ks .u64 [1, 1, 0, 0] ++ [Value.int .i64 2]), rB w1.heap.size (ks .u64 [1, 0, 0, 0] ++ [Value.int .i64 1]), rC txt 52 c v8 [(ea, xa), (eb, xb)]]) := Sep.fresh S9.out B Z U9 A9
  clear A B Z A9 U9 S9
  go_wp2_with fail
  refine (CL.out _ _ _ (S11.out.ch 3 rfl)).mono ?_; rintro e w12 ⟨rfl, hb⟩
  have S12 : Hid (Sep w w12 [rB w9.heap.size [Value.int .u64 1, .int .u64 0, .int .u64 0, .int .u64 0, .int .i64 1, .string ⟨#[97]⟩], rB w3.heap.size (ks .u64 [1, 1, 0, 0] ++ [Value.int .i64 2]), rB w1.heap.size (ks .u64 [1, 0, 0, 0] ++ [Value.int .i64 1]), rC txt 52 c v8 [(ea, xa), (eb, xb)]]) := S11.out.below hb
  clear hb S11
  go_wp2_with (first | refine blk_alloc rfl 52 ((vk txt).cf (vk txt).none_) rfl info_vS ?_)
  intro w13 A B Z
  go_wp2_with (first | refine blk_store rfl 52 _ _ rfl w12.heap.size rfl [Value.int .u64 1, .int .u64 1, .int .u64 0, .int .u64 0, .int .i64 2, .string ⟨#[98]⟩] rfl _ A rfl size_vS rfl ?_)
  intro w14 A9 U9
  have S14 : Hid (Sep w w14 [rB w12.heap.size [Value.int .u64 1, .int .u64 1, .int .u64 0, .int .u64 0, .int .i64 2, .string ⟨#[98]⟩], rB w9.heap.size [Value.int .u64 1, .int .u64 0, .int .u64 0, .int .u64 0, .int .i64 1, .string ⟨#[97]⟩], rB w3.heap.size (ks .u64 [1, 1, 0, 0] ++ [Value.int .i64 2]), rB w1.heap.size (ks .u64 [1, 0, 0, 0] ++ [Value.int .i64 1]), rC txt 52 c v8 [(ea, xa), (eb, xb)]]) := Sep.fresh S12.out B Z U9 A9
  clear A B Z A9 U9 S12
  go_wp2_with fail
  refine (R2.out _ _ _ (S14.out.ch 4 rfl)).mono ?_; rintro e w15 ⟨rfl, hb⟩
  have S15 : Hid (Sep w w15 [rB w12.heap.size [Value.int .u64 1, .int .u64 1, .int .u64 0, .int .u64 0, .int .i64 2, .string ⟨#[98]⟩], rB w9.heap.size [Value.int .u64 1, .int .u64 0, .int .u64 0, .int .u64 0, .int .i64 1, .string ⟨#[97]⟩], rB w3.heap.size (ks .u64 [1, 1, 0, 0] ++ [Value.int .i64 2]), rB w1.heap.size (ks .u64 [1, 0, 0, 0] ++ [Value.int .i64 1]), rC txt 52 c v8 [(ea, xa), (eb, xb)]]) := S14.out.below hb
  clear hb S14
  go_wp2_with (first | refine blk_alloc rfl 52 ((vk txt).cf (vk txt).none_) rfl info_vS ?_)
  intro w16 A B Z
  go_wp2_with (first | refine blk_store rfl 52 _ _ rfl w15.heap.size rfl [Value.int .u64 0, .int .u64 0, .int .u64 0, .int .u64 0, .int .i64 0, .string ⟨#[]⟩] rfl _ A rfl size_vS rfl ?_)
  intro w17 A9 U9
  have S17 : Hid (Sep w w17 [rB w15.heap.size [Value.int .u64 0, .int .u64 0, .int .u64 0, .int .u64 0, .int .i64 0, .string ⟨#[]⟩], rB w12.heap.size [Value.int .u64 1, .int .u64 1, .int .u64 0, .int .u64 0, .int .i64 2, .string ⟨#[98]⟩], rB w9.heap.size [Value.int .u64 1, .int .u64 0, .int .u64 0, .int .u64 0, .int .i64 1, .string ⟨#[97]⟩], rB w3.heap.size (ks .u64 [1, 1, 0, 0] ++ [Value.int .i64 2]), rB w1.heap.size (ks .u64 [1, 0, 0, 0] ++ [Value.int .i64 1]), rC txt 52 c v8 [(ea, xa), (eb, xb)]]) := Sep.fresh S15.out B Z U9 A9
  clear A B Z A9 U9 S15
  go_wp2_with fail
  refine (CE2.out _ _ _ (S17.out.ch 5 rfl)).mono ?_; rintro e wl ⟨rfl, rfl⟩
  go_wp2_with (first | fail)
  refine (CP.out _ _ _ (S17.out.ch 5 rfl)).mono ?_; rintro e w18 ⟨v18, rfl, hc, ht, hn⟩
  have S18 : Hid (Sep w w18 [rB w15.heap.size [Value.int .u64 0, .int .u64 0, .int .u64 0, .int .u64 0, .int .i64 0, .string ⟨#[]⟩], rB w12.heap.size [Value.int .u64 1, .int .u64 1, .int .u64 0, .int .u64 0, .int .i64 2, .string ⟨#[98]⟩], rB w9.heap.size [Value.int .u64 1, .int .u64 0, .int .u64 0, .int .u64 0, .int .i64 1, .string ⟨#[97]⟩], rB w3.heap.size (ks .u64 [1, 1, 0, 0] ++ [Value.int .i64 2]), rB w1.heap.size (ks .u64 [1, 0, 0, 0] ++ [Value.int .i64 1]), rC txt 52 c v18 [(eb, xb)]]) := S17.out.chain 5 rfl hc ht hn
  clear hc ht hn S17
  have c7 := (S18.out.blk 2 rfl).cell 5 _ rfl
  have c9 := (S18.out.blk 1 rfl).cell 5 _ rfl
  go_wp2_with fail
  refine (CE1.out _ _ _ (S18.out.ch 5 rfl)).mono ?_; rintro e wl ⟨rfl, rfl⟩
  go_wp2_with fail
  refine (CA.out _ _ _ (S18.out.ch 5 rfl)).mono ?_; rintro e wz ⟨ad, cap, rfl, hb⟩
  have HB := Lib.hid ((S18.out.below hb).under)
  clear hb c7 c9
  go_wp2_with fail
  go_ret
  exact ⟨rfl, HB.out⟩
end Go.Proofs.Ytmajkapapbhabaa.Ch

namespace Go.Proofs.Ytmajkapapbhabaa.Ch

open Go.RowKit Go.Proofs.Ytmajkapapbhabaa.Vc Go.Proofs.Ytmajkapapbhabaa.Sp Go.Proofs.Ytmajkapapbhabaa.Rw Go.Proofs.Ytmajkapapbhabaa.Se

set_option linter.unusedVariables false

set_option linter.unusedSimpArgs false

set_option maxRecDepth 100000

/-- a stamp, in a row -/
def scell (x : C.St) : List Value := [.int .u64 ((x.1.getD 0 0 : Nat) : Int), .int .u64 ((x.1.getD 1 0 : Nat) : Int), .int .u64 ((x.1.getD 2 0 : Nat) : Int), .int .u64 ((x.1.getD 3 0 : Nat) : Int), .int .i64 x.2]
def stk : Kd C.St where
  cf := scell
  k := 5
  pos := by decide
  len x := rfl
  one x u hu := by
    simp only [scell, List.mem_cons, List.not_mem_nil, or_false] at hu
    rcases hu with rfl | rfl | rfl | rfl | rfl <;> rfl
  none_ := (V.zeros, 0)
theorem stk_cf {x : C.St} (h : x.1.length = 4) : stk.cf x = ks .u64 x.1 ++ [Value.int .i64 x.2] := by
  obtain ⟨l, d⟩ := x
  obtain ⟨a, b, c, e, rfl⟩ := V.four h
  rfl
theorem stk_val {x : C.St} (h : x.1.length = 4) : stk.val x = SV x.1 x.2 := by unfold Kd.val SV; rw [stk_cf h]
theorem size_st : (Try.prog.info? 34).map (·.size) = some 5 := by kernel_rfl
theorem elem_st : Try.prog.elem 68 = 34 := by kernel_rfl
theorem index_st (b o n cap j : Nat) (hj : j < n) (w : World) : (Instr.indexAt 68 (.slice (some ⟨b, o, none⟩) n cap) (.int .i64 (j : Int))).run Try.prog w = .ok (.pointer (some ⟨b, o + 5 * j, none⟩)) w :=
  run_index elem_st Try.underlying68 Try.sizeOf34 b o n cap j hj w
theorem zero_st : stk.val stk.none_ = .agg #[.int .u64 0, .int .u64 0, .int .u64 0, .int .u64 0, .int .i64 0] := rfl
theorem inf_st : (Try.prog.info? 34).map (fun i => (i.zero, i.size, i.bytes)) = some (some (stk.val stk.none_), stk.k, 40) := by rw [zero_st]; kernel_rfl
theorem zc_st : (stk.val stk.none_).cells.size = stk.k := rfl
theorem size_mk : (Try.prog.info? 36).map (·.size) = some 6 := by kernel_rfl
theorem elem_mk : Try.prog.elem 65 = 36 := by kernel_rfl
theorem index_mk (b o n cap j : Nat) (hj : j < n) (w : World) : (Instr.indexAt 65 (.slice (some ⟨b, o, none⟩) n cap) (.int .i64 (j : Int))).run Try.prog w = .ok (.pointer (some ⟨b, o + 6 * j, none⟩)) w :=
  run_index elem_mk Try.underlying65 Try.sizeOf36 b o n cap j hj w
theorem same_iff {a b : C.St} : T.same a.1 a.2 b.1 b.2 = decide (a = b) := by
  obtain ⟨a, d⟩ := a
  obtain ⟨b, e⟩ := b
  by_cases h : (a, d) = (b, e)
  · injection h with h1 h2; subst h1; subst h2; simp [T.same]
  · rw [decide_eq_false h]
    cases hh : T.same a d b e with
    | false => rfl
    | true => exact absurd (same_eq hh) h
theorem guard_sn (x y : Operand) (l m : List Nat) (d e : Int) (w : World) : (eqGuard .neq 34 x y (SV l d) (SV m e)).run Try.prog w = .ok () w := by
  unfold SV
  simp [eqGuard, guardType_s]
theorem eql_st {a b : C.St} (ha : a.1.length = 4) (hb : b.1.length = 4) {r : Bool} (hr : decide (a = b) = r) (w : World) : (binOp .eql 34 (SV a.1 a.2) (SV b.1 b.2)).run Try.prog w = .ok (.bool r) w := by
  rw [eql_s _ _ _ _ ha hb, same_iff, hr]
theorem neq_st {a b : C.St} (ha : a.1.length = 4) (hb : b.1.length = 4) {r : Bool} (hr : decide (a = b) = r) (w : World) : (binOp .neq 34 (SV a.1 a.2) (SV b.1 b.2)).run Try.prog w = .ok (.bool (!r)) w := by
  rw [neq_sI _ _ _ _ ha hb, same_iff, hr]
/-- Mark.mark of one that stands in a row -/
theorem mark_row (x : Mk) (hx : MOk x) (w : World) : Calls Try.prog 9 #[mkd.val x] w fun e w' => ∃ s : C.St, s = T.mark x.1.1 x.1.2 x.2 ∧ V.Ok s.1 ∧ e = .returned (SV s.1 s.2) ∧ Below w.heap.size w w' := by
  have := mark_any x.1.1 x.1.2 x.2 w hx.v hx.d
  rw [← mval hx.v.len] at this
  exact this.mono fun e w' ⟨he, hb⟩ => ⟨_, rfl, T.mark_ok hx.v _ _, he, hb⟩
theorem take_mem {ms : List C.St} {s x : C.St} {k : Nat} (h : ms[k]? = some x) : decide (s ∈ ms.take (k + 1)) = (decide (s ∈ ms.take k) || decide (x = s)) := by
  rw [List.take_add_one, h]
  simp only [Option.toList_some, List.mem_append, List.mem_singleton, Bool.decide_or]
  congr 1
  simp [eq_comm]
theorem row_stamp {w : World} {b p : Nat} {x : C.Vr Nat} (h : w.rangeAt b p ((vk num).cf x)) (hx : x.1.1.length = 4) : w.rangeAt b p (ks .u64 x.1.1 ++ [Value.int .i64 x.1.2]) := fun j v hv => by
  refine h j v ?_
  rw [vk_stamp num x hx, List.getElem?_append_left (List.getElem?_eq_some_iff.1 hv).1]
  exact hv
theorem up_at {L : List (C.Vr Nat)} (h : C.Up L) (i : Nat) (hi : i + 1 < L.length) (d : C.Vr Nat) : C.ord (L.getD i d).1 (L.getD (i + 1) d).1 < 0 := by
  have := List.pairwise_iff_getElem.1 h.up i (i + 1) (by omega) hi (by omega)
  rw [List.getD_eq_getElem?_getD, List.getD_eq_getElem?_getD, List.getElem?_eq_getElem hi, List.getElem?_eq_getElem (by omega : i < L.length)]
  exact this
end Go.Proofs.Ytmajkapapbhabaa.Ch
