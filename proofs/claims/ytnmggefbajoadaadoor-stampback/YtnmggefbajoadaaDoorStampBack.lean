/-
  What was put is got, and what stands behind it; cut it is none; another one has other bytes, and is told otherwise: true for every argument (the law StampBack). No conditions.
-/
import Derived.Test.YtnmggefbajoadaaDoorFrameTab

import Derived.Test.YtnmggefbajoadaaDoorStampEx

import Derived.Test.YtnmggefbajoadaaDoorStampOf

import Derived.Test.YtnmggefbajoadaaDoorStampBackM

import Derived.Test.YtnmggefbajoadaaDoorFrameMark

namespace Go.Proofs.YtnmggefbajoadaaDoor.stampBack

open Go.ChangeShapes Go.WideShapes Go.ChangeAt Go.RowKit

open Go.Proofs.YtnmggefbajoadaaDoor.Vc Go.Proofs.YtnmggefbajoadaaDoor.Sp

open Go.ChangeMaps (open_string shut_string)

set_option linter.unusedVariables false

set_option linter.unusedSimpArgs false

set_option maxHeartbeats 16000000 in
set_option maxRecDepth 100000 in
theorem walk (a0 : List Nat) (d0 : Int) (o0 : Bool) (a1 : List Nat) (d1 : Int) (o1 : Bool) (a2 : ByteArray) (a3 : Int) (w0 : V.Ok a0 ∧ (Lit.int .i64 d0).wf = true) (w1 : V.Ok a1 ∧ (Lit.int .i64 d1).wf = true) (z2 : a2.size ≤ 140737488351232) (w3 : (Lit.int .u8 a3).wf = true) (w : World) (hT : Fm.Tab w) :
    Calls Tryd.prog 7 #[MV a0 d0 o0, MV a1 d1 o1, .string a2, .int .u8 a3] w fun e w' => e = .returned (.bool true) ∧ Below w.heap.size w w' := by
  have CE := Lib.hid examples_any
  have CM0 := Lib.hid (fun w => mark_any a0 d0 true w w0.1 w0.2)
  have HL0 := Lib.hid w0.1.len
  obtain ⟨A, EA⟩ : ∃ r, Hid (T.markv a0 d0 = r) := ⟨_, rfl⟩
  obtain ⟨nA, NA⟩ : ∃ r, Hid (T.markd d0 = r) := ⟨_, rfl⟩
  have OA : Hid (V.Ok A) := by rw [← EA.out]; exact T.markv_ok HL0.out d0
  have HA : Hid (A.length = 4) := OA.out.len
  have RA : Hid (T.right A (nA : Int) = true) := by rw [← EA.out, ← NA.out]; exact T.mark_right HL0.out d0
  rw [show T.mark a0 d0 true = (T.markv a0 d0, (T.markd d0 : Int)) from rfl, EA.out, NA.out] at CM0
  have CM1 := Lib.hid (fun w => mark_any a1 d1 true w w1.1 w1.2)
  have HL1 := Lib.hid w1.1.len
  obtain ⟨B, EB⟩ : ∃ r, Hid (T.markv a1 d1 = r) := ⟨_, rfl⟩
  obtain ⟨nB, NB⟩ : ∃ r, Hid (T.markd d1 = r) := ⟨_, rfl⟩
  have OB : Hid (V.Ok B) := by rw [← EB.out]; exact T.markv_ok HL1.out d1
  have HB : Hid (B.length = 4) := OB.out.len
  have RB : Hid (T.right B (nB : Int) = true) := by rw [← EB.out, ← NB.out]; exact T.mark_right HL1.out d1
  rw [show T.mark a1 d1 true = (T.markv a1 d1, (T.markd d1 : Int)) from rfl, EB.out, NB.out] at CM1
  have HT := Lib.hid hT
  have hnA := (T.right_known RA.out).2
  have hnB := (T.right_known RB.out).2
  obtain ⟨m, rfl, hm⟩ : ∃ m : Nat, a3 = (m : Int) ∧ m ≤ 255 := by
    have hx : 0 ≤ a3 ∧ a3 ≤ 255 := by simpa [Lit.wf, IntKind.min, IntKind.max, IntKind.signed, IntKind.bits] using w3
    exact ⟨a3.toNat, by omega, by omega⟩
  obtain ⟨eab, EAB⟩ : ∃ r, Hid (T.same A (nA : Int) B (nB : Int) = r) := ⟨_, rfl⟩
  have CP := Lib.hid (fun w => sput_any A (nA : Int) w OA.out)
  have CQ := Lib.hid (fun w => sput_any B (nB : Int) w OB.out)
  rw [RA.out] at CP
  rw [RB.out] at CQ
  have hgp := T.gets_put OA.out RA.out a2
  have hgc := fun k hk => T.gets_cut OA.out RA.out k hk
  have QS0 := V.tol_eq (T.puts A (nA : Int)) (T.puts B (nB : Int))
  rw [T.puts_inj OA.out OB.out RA.out RB.out, EAB.out] at QS0
  have QT0 := V.tol_eq (P.S (T.text A (nA : Int))) (P.S (T.text B (nB : Int)))
  rw [T.text_inj HA.out HB.out, EAB.out] at QT0
  have hsz := T.puts_size HA.out RA.out
  have hp := V.put_pos HA.out
  obtain ⟨s, ES⟩ : ∃ r, Hid (T.puts A (nA : Int) = r) := ⟨_, rfl⟩
  obtain ⟨t, ET⟩ : ∃ r, Hid (T.puts B (nB : Int) = r) := ⟨_, rfl⟩
  obtain ⟨tA, ETA⟩ : ∃ r, Hid (P.S (T.text A (nA : Int)) = r) := ⟨_, rfl⟩
  obtain ⟨tB, ETB⟩ : ∃ r, Hid (P.S (T.text B (nB : Int)) = r) := ⟨_, rfl⟩
  rw [ES.out] at CP hgp hgc QS0 hsz
  rw [ET.out] at CQ QS0
  rw [ETA.out, ETB.out] at QT0
  have QS := Lib.hid QS0
  have QT := Lib.hid QT0
  have hs0 : s.size ≠ 0 := by omega
  have hs4 : s.size ≤ 41 := by omega
  have hE := V.empty_not s hs0
  obtain ⟨q, hq⟩ : ∃ q, q = m % s.size := ⟨_, rfl⟩
  have hqs : q < s.size := by rw [hq]; exact Nat.mod_lt _ (by omega)
  have e4 : (m : Int).tmod (s.size : Int) = (q : Int) := by rw [Int.tmod_eq_emod_of_nonneg (by omega), hq]; rfl
  have e5 : IntKind.i64.wrap (q : Int) = q := IntWalk.i64_in _ ⟨by omega, by omega⟩
  have e6 : IntKind.i64.wrap (m : Int) = m := IntWalk.i64_in _ ⟨by omega, by omega⟩
  have hn0 : ¬ (s.size : Int) = 0 := by omega
  have iq : (q : Int) ≤ (s.size : Int) := by omega
  have CS := Lib.hid (fun w => sget_any (s.extract 0 q) false V.zeros 0 ⟨#[]⟩ true w (by rw [P.ext_head, P.S_size, List.length_take]; unfold maxLen; omega) (hgc q (by omega)))
  have hcat : s.size + a2.size ≤ 140737488355328 := by omega
  have CG := Lib.hid (fun w => sget_any (s ++ a2) false A (nA : Int) a2 false w (by rw [ByteArray.size_append]; unfold maxLen; omega) hgp)
  have HEAB : Hid (∀ w, (binOp .eql 26 (SV A (nA : Int)) (SV B (nB : Int))).run Tryd.prog w = .ok (.bool eab) w) := fun w => by
    have h := eql_s A B (nA : Int) (nB : Int) HA.out HB.out w
    rw [EAB.out] at h
    exact h
  have HEAA : Hid (∀ w, (binOp .eql 26 (SV A (nA : Int)) (SV A (nA : Int))).run Tryd.prog w = .ok (.bool true) w) := fun w => by
    have h := eql_s A A (nA : Int) (nA : Int) HA.out HA.out w
    rw [show T.same A (nA : Int) A (nA : Int) = true by simp [T.same]] at h
    exact h
  clear hp hgp hgc QS0 QT0 hsz hq hT w0 w1 w3
  go_enter Tryd.func7, Tryd.ntmps7
  have M0 : Hid (Kept w w []) := Kept.start w
  go_wp2_with (first | refine blk_box rfl 28 _ rfl (ks .u64 a0 ++ [Value.int .i64 d0, Value.bool o0]) rfl ?_)
  intro k1 A1 B1 Z1
  have M2 : Hid (Kept w k1 [(w.heap.size, ks .u64 a0 ++ [Value.int .i64 d0, Value.bool o0])]) := Kept.new M0.out B1 Z1 A1
  clear A1 B1 M0
  go_wp2_with (first | refine blk_box rfl 28 _ rfl (ks .u64 a1 ++ [Value.int .i64 d1, Value.bool o1]) rfl ?_)
  intro k3 A3 B3 Z3
  have M4 : Hid (Kept w k3 [(w.heap.size + 1, ks .u64 a1 ++ [Value.int .i64 d1, Value.bool o1]), (w.heap.size, ks .u64 a0 ++ [Value.int .i64 d0, Value.bool o0])]) := Kept.newAt M2.out Z1 B3 Z3 A3
  clear A3 B3 M2
  go_wp2_with fail
  clear Z1 Z3
  refine (CE.out _).mono ?_; rintro e k5 ⟨rfl, hb5⟩
  have M6 : Hid (Kept w k5 [(w.heap.size + 1, ks .u64 a1 ++ [Value.int .i64 d1, Value.bool o1]), (w.heap.size, ks .u64 a0 ++ [Value.int .i64 d0, Value.bool o0])]) := Kept.below M4.out hb5
  clear hb5 M4
  obtain ⟨co7, fo7⟩ := own_at (Kept.get M6.out 1 rfl) HL0.out
  have HN7 := Lib.hid (own_set (Kept.get M6.out 1 rfl) HL0.out true)
  have M8 : Hid (Kept w (k5.setCell ⟨w.heap.size, 5, none⟩ (.bool true)) [(w.heap.size + 1, ks .u64 a1 ++ [Value.int .i64 d1, Value.bool o1]), (w.heap.size, ks .u64 a0 ++ [Value.int .i64 d0, Value.bool true])]) := Kept.updAt M6.out 1 rfl (by omega) (by simp; try omega) (Upd.setCell _ _ _ _) HN7.out
  clear HN7 M6
  obtain ⟨co9, fo9⟩ := own_at (Kept.get M8.out 0 rfl) HL1.out
  have HN9 := Lib.hid (own_set (Kept.get M8.out 0 rfl) HL1.out true)
  have M10 : Hid (Kept w ((k5.setCell ⟨w.heap.size, 5, none⟩ (.bool true)).setCell ⟨w.heap.size + 1, 5, none⟩ (.bool true)) [(w.heap.size + 1, ks .u64 a1 ++ [Value.int .i64 d1, Value.bool true]), (w.heap.size, ks .u64 a0 ++ [Value.int .i64 d0, Value.bool true])]) := Kept.updAt M8.out 0 rfl (by omega) (by simp; try omega) (Upd.setCell _ _ _ _) HN9.out
  clear HN9 M8
  go_wp2_with (first | refine blk_load rfl 28 _ rfl (w.heap.size) rfl (ks .u64 a0 ++ [Value.int .i64 d0, Value.bool true]) (Kept.get M10.out 1 rfl) _ Tryd.underlying28 rfl (size_m HL0.out) ?_)
  clear co7 fo7 co9 fo9
  refine (CM0.out _).mono ?_; rintro e k11 ⟨rfl, hb11⟩
  have M12 : Hid (Kept w k11 [(w.heap.size + 1, ks .u64 a1 ++ [Value.int .i64 d1, Value.bool true]), (w.heap.size, ks .u64 a0 ++ [Value.int .i64 d0, Value.bool true])]) := Kept.below M10.out hb11
  clear hb11 M10
  go_wp2_with (first | refine blk_alloc rfl 26 (ks .u64 (List.replicate 4 0) ++ [Value.int .i64 0]) rfl Tryd.info_s ?_)
  intro k13 A13 B13 Z13
  go_wp2_with (first | refine blk_store rfl 26 _ _ rfl k11.heap.size rfl (ks .u64 A ++ [Value.int .i64 (nA : Int)]) rfl _ A13 (sv_len HA.out) (size_s HA.out) (one_sv _ _) ?_)
  intro k14 A14 U14
  have M15 : Hid (Kept w k14 [(k11.heap.size, ks .u64 A ++ [Value.int .i64 (nA : Int)]), (w.heap.size + 1, ks .u64 a1 ++ [Value.int .i64 d1, Value.bool true]), (w.heap.size, ks .u64 a0 ++ [Value.int .i64 d0, Value.bool true])]) := Kept.fresh M12.out B13 Z13 U14 A14
  clear A13 B13 Z13 A14 U14 M12
  go_wp2_with (first | refine blk_load rfl 28 _ rfl (w.heap.size + 1) rfl (ks .u64 a1 ++ [Value.int .i64 d1, Value.bool true]) (Kept.get M15.out 1 rfl) _ Tryd.underlying28 rfl (size_m HL1.out) ?_)
  refine (CM1.out _).mono ?_; rintro e k16 ⟨rfl, hb16⟩
  have M17 : Hid (Kept w k16 [(k11.heap.size, ks .u64 A ++ [Value.int .i64 (nA : Int)]), (w.heap.size + 1, ks .u64 a1 ++ [Value.int .i64 d1, Value.bool true]), (w.heap.size, ks .u64 a0 ++ [Value.int .i64 d0, Value.bool true])]) := Kept.below M15.out hb16
  clear hb16 M15
  go_wp2_with (first | refine blk_alloc rfl 26 (ks .u64 (List.replicate 4 0) ++ [Value.int .i64 0]) rfl Tryd.info_s ?_)
  intro k18 A18 B18 Z18
  go_wp2_with (first | refine blk_store rfl 26 _ _ rfl k16.heap.size rfl (ks .u64 B ++ [Value.int .i64 (nB : Int)]) rfl _ A18 (sv_len HB.out) (size_s HB.out) (one_sv _ _) ?_)
  intro k19 A19 U19
  have M20 : Hid (Kept w k19 [(k16.heap.size, ks .u64 B ++ [Value.int .i64 (nB : Int)]), (k11.heap.size, ks .u64 A ++ [Value.int .i64 (nA : Int)]), (w.heap.size + 1, ks .u64 a1 ++ [Value.int .i64 d1, Value.bool true]), (w.heap.size, ks .u64 a0 ++ [Value.int .i64 d0, Value.bool true])]) := Kept.fresh M17.out B18 Z18 U19 A19
  clear A18 B18 Z18 A19 U19 M17
  go_wp2_with (first | refine blk_load rfl 26 _ rfl (k11.heap.size) rfl (ks .u64 A ++ [Value.int .i64 (nA : Int)]) (Kept.get M20.out 1 rfl) _ Tryd.underlying26 rfl (size_s HA.out) ?_)
  refine (CP.out _).mono ?_; rintro e k21 ⟨rfl, hb21⟩
  have M22 : Hid (Kept w k21 [(k16.heap.size, ks .u64 B ++ [Value.int .i64 (nB : Int)]), (k11.heap.size, ks .u64 A ++ [Value.int .i64 (nA : Int)]), (w.heap.size + 1, ks .u64 a1 ++ [Value.int .i64 d1, Value.bool true]), (w.heap.size, ks .u64 a0 ++ [Value.int .i64 d0, Value.bool true])]) := Kept.below M20.out hb21
  clear hb21 M20
  go_wp2_with (first | refine blk_load rfl 26 _ rfl (k16.heap.size) rfl (ks .u64 B ++ [Value.int .i64 (nB : Int)]) (Kept.get M22.out 0 rfl) _ Tryd.underlying26 rfl (size_s HB.out) ?_)
  refine (CQ.out _).mono ?_; rintro e k23 ⟨rfl, hb23⟩
  have M24 : Hid (Kept w k23 [(k16.heap.size, ks .u64 B ++ [Value.int .i64 (nB : Int)]), (k11.heap.size, ks .u64 A ++ [Value.int .i64 (nA : Int)]), (w.heap.size + 1, ks .u64 a1 ++ [Value.int .i64 d1, Value.bool true]), (w.heap.size, ks .u64 a0 ++ [Value.int .i64 d0, Value.bool true])]) := Kept.below M22.out hb23
  clear hb23 M22
  go_wp2_with fail
  refine (CG.out _).mono ?_; rintro e k25 ⟨rfl, hb25⟩
  have M26 : Hid (Kept w k25 [(k16.heap.size, ks .u64 B ++ [Value.int .i64 (nB : Int)]), (k11.heap.size, ks .u64 A ++ [Value.int .i64 (nA : Int)]), (w.heap.size + 1, ks .u64 a1 ++ [Value.int .i64 d1, Value.bool true]), (w.heap.size, ks .u64 a0 ++ [Value.int .i64 d0, Value.bool true])]) := Kept.below M24.out hb25
  clear hb25 M24
  go_wp2_with (first | refine blk_alloc rfl 26 (ks .u64 (List.replicate 4 0) ++ [Value.int .i64 0]) rfl Tryd.info_s ?_)
  intro k27 A27 B27 Z27
  go_wp2_with (first | refine blk_alloc rfl 55 [.string ⟨#[]⟩, .bool false] rfl Tryd.info_rd ?_)
  intro k28 A28 B28 Z28
  go_wp2_with (first | refine blk_store rfl 26 _ _ rfl (k25.heap.size) rfl (ks .u64 A ++ [Value.int .i64 (nA : Int)]) rfl _ (A27.below B28 (by omega)) (sv_len HA.out) (size_s HA.out) (one_sv _ _) ?_)
  intro k29 A29 U29
  go_wp2_with (first | refine blk_store rfl 55 _ _ rfl (k25.heap.size + 1) rfl [.string a2, .bool false] rfl _ (A28.upd U29 (by omega)) rfl Tryd.size_rd rfl ?_)
  intro k30 A30 U30
  have M31 : Hid (Kept w k30 [(k25.heap.size + 1, [.string a2, .bool false]), (k25.heap.size, ks .u64 A ++ [Value.int .i64 (nA : Int)]), (k16.heap.size, ks .u64 B ++ [Value.int .i64 (nB : Int)]), (k11.heap.size, ks .u64 A ++ [Value.int .i64 (nA : Int)]), (w.heap.size + 1, ks .u64 a1 ++ [Value.int .i64 d1, Value.bool true]), (w.heap.size, ks .u64 a0 ++ [Value.int .i64 d0, Value.bool true])]) := Kept.pair M26.out (B27.trans (B28.mono (by omega))) (by omega) U29 U30 (A29.upd U30 (by omega)) A30
  clear A27 B27 Z27 A28 B28 Z28 A29 U29 A30 U30 M26
  go_wp2_with fail
  refine (CS.out _).mono ?_; rintro e k32 ⟨rfl, hb32⟩
  have M33 : Hid (Kept w k32 [(k25.heap.size + 1, [.string a2, .bool false]), (k25.heap.size, ks .u64 A ++ [Value.int .i64 (nA : Int)]), (k16.heap.size, ks .u64 B ++ [Value.int .i64 (nB : Int)]), (k11.heap.size, ks .u64 A ++ [Value.int .i64 (nA : Int)]), (w.heap.size + 1, ks .u64 a1 ++ [Value.int .i64 d1, Value.bool true]), (w.heap.size, ks .u64 a0 ++ [Value.int .i64 d0, Value.bool true])]) := Kept.below M31.out hb32
  clear hb32 M31
  go_wp2_with (first | refine blk_alloc rfl 26 (ks .u64 (List.replicate 4 0) ++ [Value.int .i64 0]) rfl Tryd.info_s ?_)
  intro k34 A34 B34 Z34
  go_wp2_with (first | refine blk_alloc rfl 55 [.string ⟨#[]⟩, .bool false] rfl Tryd.info_rd ?_)
  intro k35 A35 B35 Z35
  go_wp2_with (first | refine blk_store rfl 26 _ _ rfl (k32.heap.size) rfl (ks .u64 V.zeros ++ [Value.int .i64 0]) rfl _ (A34.below B35 (by omega)) (sv_len V.zeros_ok.len) (size_s V.zeros_ok.len) (one_sv _ _) ?_)
  intro k36 A36 U36
  go_wp2_with (first | refine blk_store rfl 55 _ _ rfl (k32.heap.size + 1) rfl [.string ⟨#[]⟩, .bool true] rfl _ (A35.upd U36 (by omega)) rfl Tryd.size_rd rfl ?_)
  intro k37 A37 U37
  have M38 : Hid (Kept w k37 [(k32.heap.size + 1, [.string ⟨#[]⟩, .bool true]), (k32.heap.size, ks .u64 V.zeros ++ [Value.int .i64 0]), (k25.heap.size + 1, [.string a2, .bool false]), (k25.heap.size, ks .u64 A ++ [Value.int .i64 (nA : Int)]), (k16.heap.size, ks .u64 B ++ [Value.int .i64 (nB : Int)]), (k11.heap.size, ks .u64 A ++ [Value.int .i64 (nA : Int)]), (w.heap.size + 1, ks .u64 a1 ++ [Value.int .i64 d1, Value.bool true]), (w.heap.size, ks .u64 a0 ++ [Value.int .i64 d0, Value.bool true])]) := Kept.pair M33.out (B34.trans (B35.mono (by omega))) (by omega) U36 U37 (A36.upd U37 (by omega)) A37
  clear A34 B34 Z34 A35 B35 Z35 A36 U36 A37 U37 M33
  go_wp2_with fail
  have hu2 : ∀ u, Below k37.heap.size k37 u → Below w.heap.size w u := fun u hu => (Kept.below M38.out hu).under
  have KP10 : Hid (∀ u, Below k37.heap.size k37 u → Blk u (k11.heap.size) (ks .u64 A ++ [Value.int .i64 (nA : Int)])) := fun u hu => (Kept.below M38.out hu).get 5 rfl
  have KP10r : Hid (∀ u, Below k37.heap.size k37 u → u.rangeAt (k11.heap.size) 0 (ks .u64 A)) := fun u hu => rowp ((Kept.below M38.out hu).get 5 rfl)
  have KP10d : Hid (∀ u, Below k37.heap.size k37 u → u.cell? ⟨k11.heap.size, 4, none⟩ = some (.int .i64 (nA : Int))) := fun u hu => dc_cell ((Kept.below M38.out hu).get 5 rfl) HA.out
  have KP11 : Hid (∀ u, Below k37.heap.size k37 u → Blk u (k16.heap.size) (ks .u64 B ++ [Value.int .i64 (nB : Int)])) := fun u hu => (Kept.below M38.out hu).get 4 rfl
  have KP11r : Hid (∀ u, Below k37.heap.size k37 u → u.rangeAt (k16.heap.size) 0 (ks .u64 B)) := fun u hu => rowp ((Kept.below M38.out hu).get 4 rfl)
  have KP11d : Hid (∀ u, Below k37.heap.size k37 u → u.cell? ⟨k16.heap.size, 4, none⟩ = some (.int .i64 (nB : Int))) := fun u hu => dc_cell ((Kept.below M38.out hu).get 4 rfl) HB.out
  have KP16 : Hid (∀ u, Below k37.heap.size k37 u → Blk u (k25.heap.size) (ks .u64 A ++ [Value.int .i64 (nA : Int)])) := fun u hu => (Kept.below M38.out hu).get 3 rfl
  have KP16r : Hid (∀ u, Below k37.heap.size k37 u → u.rangeAt (k25.heap.size) 0 (ks .u64 A)) := fun u hu => rowp ((Kept.below M38.out hu).get 3 rfl)
  have KP16d : Hid (∀ u, Below k37.heap.size k37 u → u.cell? ⟨k25.heap.size, 4, none⟩ = some (.int .i64 (nA : Int))) := fun u hu => dc_cell ((Kept.below M38.out hu).get 3 rfl) HA.out
  have KP170 : Hid (∀ u, Below k37.heap.size k37 u → u.cell? ⟨k25.heap.size + 1, 0, none⟩ = some (.string a2)) := fun u hu => ((Kept.below M38.out hu).get 2 rfl).cell 0 _ rfl
  have KP171 : Hid (∀ u, Below k37.heap.size k37 u → u.cell? ⟨k25.heap.size + 1, 1, none⟩ = some (.bool false)) := fun u hu => ((Kept.below M38.out hu).get 2 rfl).cell 1 _ rfl
  have KP190 : Hid (∀ u, Below k37.heap.size k37 u → u.cell? ⟨k32.heap.size + 1, 0, none⟩ = some (.string ⟨#[]⟩)) := fun u hu => ((Kept.below M38.out hu).get 0 rfl).cell 0 _ rfl
  have KP191 : Hid (∀ u, Below k37.heap.size k37 u → u.cell? ⟨k32.heap.size + 1, 1, none⟩ = some (.bool true)) := fun u hu => ((Kept.below M38.out hu).get 0 rfl).cell 1 _ rfl
  have KC0 : Hid (∀ u, Below k37.heap.size k37 u → Calls Tryd.prog 25 [SV A (nA : Int)].toArray u fun e u' => e = .returned (.string tA) ∧ Below k37.heap.size k37 u') := fun  u hu => Calls.more hu (by have h := stext_any A (nA : Int) u OA.out (by omega) (by omega) (HT.out.below (hu2 u hu)); rw [ETA.out] at h; exact h)
  have KC1 : Hid (∀ u, Below k37.heap.size k37 u → Calls Tryd.prog 25 [SV B (nB : Int)].toArray u fun e u' => e = .returned (.string tB) ∧ Below k37.heap.size k37 u') := fun  u hu => Calls.more hu (by have h := stext_any B (nB : Int) u OB.out (by omega) (by omega) (HT.out.below (hu2 u hu)); rw [ETB.out] at h; exact h)
  clear hu2
  refine region_w Tryd.mixed (by kernel_rfl) ?_
  refine w_move rfl _ rfl (.bool true) rfl (fun K hK => ?_)
  go_simp
  refine hK _ ?_
  clear hK K
  refine w_move rfl _ rfl (.bool true) rfl (fun K hK => ?_)
  go_simp
  refine hK _ ?_
  clear hK K
  refine wg_value (by rfl) (.bool true) (fun u hu => by go_simp) (fun K hK => ?_)
  go_simp
  refine hK _ ?_
  clear hK K
  refine w_value rfl (.bool true) (fun u hu => by go_simp) (fun K hK => ?_)
  go_simp
  refine hK _ ?_
  clear hK K
  refine w_move rfl _ rfl (.bool true) rfl (fun K hK => ?_)
  go_simp
  refine hK _ ?_
  clear hK K
  refine wg_value (by rfl) (.bool true) (fun u hu => by go_simp) (fun K hK => ?_)
  go_simp
  refine hK _ ?_
  clear hK K
  refine w_value rfl (.bool true) (fun u hu => by go_simp) (fun K hK => ?_)
  go_simp
  refine hK _ ?_
  clear hK K
  refine w_move rfl _ rfl (.bool true) rfl (fun K hK => ?_)
  go_simp
  refine hK _ ?_
  clear hK K
  refine wg_sv_load (by rfl) 26 _ rfl (k25.heap.size) rfl A (nA : Int) KP16.out _ Tryd.underlying26 rfl (size_s HA.out) (fun K hK => ?_)
  go_simp
  refine hK _ ?_
  clear hK K
  refine wg_sv_load (by rfl) 26 _ rfl (k11.heap.size) rfl A (nA : Int) KP10.out _ Tryd.underlying26 rfl (size_s HA.out) (fun K hK => ?_)
  go_simp
  refine hK _ ?_
  clear hK K
  refine wg_value (by rfl) (.bool true) (fun u _ => run_eql u .eql 26 26 _ _ (SV A (nA : Int)) (SV A (nA : Int)) _ rfl rfl rfl (guard_s _ _ _ _ _ _ u) (HEAA.out u)) (fun K hK => ?_)
  go_simp
  refine hK _ ?_
  clear hK K
  refine w_value rfl (.bool true) (fun u hu => by go_simp) (fun K hK => ?_)
  go_simp
  refine hK _ ?_
  clear hK K
  refine w_move rfl _ rfl (.bool true) rfl (fun K hK => ?_)
  go_simp
  refine hK _ ?_
  clear hK K
  refine wg_value (by rfl) (.pointer (some ⟨k25.heap.size + 1, 0, none⟩)) (fun u hu => by go_simp) (fun K hK => ?_)
  go_simp
  refine hK _ ?_
  clear hK K
  refine wg_value (by rfl) (.string a2) (fun u hu => by have hc := KP170.out u hu; go_simp) (fun K hK => ?_)
  go_simp
  refine hK _ ?_
  clear hK K
  refine wg_value (by rfl) (.string a2) (fun u hu => by go_simp) (fun K hK => ?_)
  go_simp
  refine hK _ ?_
  clear hK K
  refine wg_value (by rfl) (.bool true) (fun u hu => by go_simp) (fun K hK => ?_)
  go_simp
  refine hK _ ?_
  clear hK K
  refine w_value rfl (.bool true) (fun u hu => by go_simp) (fun K hK => ?_)
  go_simp
  refine hK _ ?_
  clear hK K
  refine w_move rfl _ rfl (.bool true) rfl (fun K hK => ?_)
  go_simp
  refine hK _ ?_
  clear hK K
  refine wg_value (by rfl) (.pointer (some ⟨k25.heap.size + 1, 1, none⟩)) (fun u hu => by go_simp) (fun K hK => ?_)
  go_simp
  refine hK _ ?_
  clear hK K
  refine wg_value (by rfl) (.bool false) (fun u hu => by have hc := KP171.out u hu; go_simp) (fun K hK => ?_)
  go_simp
  refine hK _ ?_
  clear hK K
  refine wg_value (by rfl) (.bool true) (fun u hu => by go_simp) (fun K hK => ?_)
  go_simp
  refine hK _ ?_
  clear hK K
  refine w_value rfl (.bool true) (fun u hu => by go_simp) (fun K hK => ?_)
  go_simp
  refine hK _ ?_
  clear hK K
  refine w_move rfl _ rfl (.bool true) rfl (fun K hK => ?_)
  go_simp
  refine hK _ ?_
  clear hK K
  refine wg_value (by rfl) (.pointer (some ⟨k32.heap.size + 1, 1, none⟩)) (fun u hu => by go_simp) (fun K hK => ?_)
  go_simp
  refine hK _ ?_
  clear hK K
  refine wg_value (by rfl) (.bool true) (fun u hu => by have hc := KP191.out u hu; go_simp) (fun K hK => ?_)
  go_simp
  refine hK _ ?_
  clear hK K
  refine w_value rfl (.bool true) (fun u hu => by go_simp) (fun K hK => ?_)
  go_simp
  refine hK _ ?_
  clear hK K
  refine w_move rfl _ rfl (.bool true) rfl (fun K hK => ?_)
  go_simp
  refine hK _ ?_
  clear hK K
  refine wg_value (by rfl) (.string s) (fun u hu => by go_simp) (fun K hK => ?_)
  go_simp
  refine hK _ ?_
  clear hK K
  refine wg_value (by rfl) (.string t) (fun u hu => by go_simp) (fun K hK => ?_)
  go_simp
  refine hK _ ?_
  clear hK K
  refine wg_value (by rfl) (.bool eab) (fun u hu => by have hs := QS.out; go_simp) (fun K hK => ?_)
  go_simp
  refine hK _ ?_
  clear hK K
  refine wg_sv_load (by rfl) 26 _ rfl (k11.heap.size) rfl A (nA : Int) KP10.out _ Tryd.underlying26 rfl (size_s HA.out) (fun K hK => ?_)
  go_simp
  refine hK _ ?_
  clear hK K
  refine wg_sv_load (by rfl) 26 _ rfl (k16.heap.size) rfl B (nB : Int) KP11.out _ Tryd.underlying26 rfl (size_s HB.out) (fun K hK => ?_)
  go_simp
  refine hK _ ?_
  clear hK K
  refine wg_value (by rfl) (.bool eab) (fun u _ => run_eql u .eql 26 26 _ _ (SV A (nA : Int)) (SV B (nB : Int)) _ rfl rfl rfl (guard_s _ _ _ _ _ _ u) (HEAB.out u)) (fun K hK => ?_)
  go_simp
  refine hK _ ?_
  clear hK K
  refine wg_value (by rfl) (.bool true) (fun u hu => by go_simp) (fun K hK => ?_)
  go_simp
  refine hK _ ?_
  clear hK K
  refine w_value rfl (.bool true) (fun u hu => by go_simp) (fun K hK => ?_)
  go_simp
  refine hK _ ?_
  clear hK K
  refine w_move rfl _ rfl (.bool true) rfl (fun K hK => ?_)
  go_simp
  refine hK _ ?_
  clear hK K
  refine wg_sv_load (by rfl) 26 _ rfl (k11.heap.size) rfl A (nA : Int) KP10.out _ Tryd.underlying26 rfl (size_s HA.out) (fun K hK => ?_)
  go_simp
  refine hK _ ?_
  clear hK K
  refine wg_call (by rfl) 25 Tryd.f25 Tryd.func25 rfl rfl _ _ rfl _ rfl (.string tA) (by exact KC0.out) (fun K hK => ?_)
  go_simp
  refine hK _ ?_
  clear hK K
  refine wg_sv_load (by rfl) 26 _ rfl (k16.heap.size) rfl B (nB : Int) KP11.out _ Tryd.underlying26 rfl (size_s HB.out) (fun K hK => ?_)
  go_simp
  refine hK _ ?_
  clear hK K
  refine wg_call (by rfl) 25 Tryd.f25 Tryd.func25 rfl rfl _ _ rfl _ rfl (.string tB) (by exact KC1.out) (fun K hK => ?_)
  go_simp
  refine hK _ ?_
  clear hK K
  refine wg_value (by rfl) (.bool eab) (fun u hu => by have hs := QT.out; go_simp) (fun K hK => ?_)
  go_simp
  refine hK _ ?_
  clear hK K
  refine wg_sv_load (by rfl) 26 _ rfl (k11.heap.size) rfl A (nA : Int) KP10.out _ Tryd.underlying26 rfl (size_s HA.out) (fun K hK => ?_)
  go_simp
  refine hK _ ?_
  clear hK K
  refine wg_sv_load (by rfl) 26 _ rfl (k16.heap.size) rfl B (nB : Int) KP11.out _ Tryd.underlying26 rfl (size_s HB.out) (fun K hK => ?_)
  go_simp
  refine hK _ ?_
  clear hK K
  refine wg_value (by rfl) (.bool eab) (fun u _ => run_eql u .eql 26 26 _ _ (SV A (nA : Int)) (SV B (nB : Int)) _ rfl rfl rfl (guard_s _ _ _ _ _ _ u) (HEAB.out u)) (fun K hK => ?_)
  go_simp
  refine hK _ ?_
  clear hK K
  refine wg_value (by rfl) (.bool true) (fun u hu => by go_simp) (fun K hK => ?_)
  go_simp
  refine hK _ ?_
  clear hK K
  refine w_value rfl (.bool true) (fun u hu => by go_simp) (fun K hK => ?_)
  go_simp
  refine hK _ ?_
  clear hK K
  refine w_assign rfl _ rfl (.bool true) rfl (fun K hK => ?_)
  go_simp
  refine hK _ ?_
  clear hK K
  refine w_nil ?_
  intro u hu
  have HW9 : Hid (Below w.heap.size w u) := (Kept.below M38.out hu).under
  clear hu
  go_wp2_with fail
  go_ret
  exact ⟨rfl, HW9.out⟩

set_option maxRecDepth 100000 in
theorem lifted (os : Os) (started : os.Started) (H : Type) (enc : TypeId × Value → H) (F : Stop.Interp) :
    ReturnsInHanded {} Tryd.checked os 7 .any ((OpenSpec.ofChange Rows.stampBackSpec).preRow enc Tryd.prog Tryd.f7 Rows.stampBackRow.domain false Rows.stampBackRow.laid) (((OpenSpec.ofChange Rows.stampBackSpec).at F).post enc Tryd.prog Tryd.f7 false true false false) := by
  have hx : ∃ places, DataW.whole enc Tryd.prog ((laidWorld os).forCall (fun _ _ => 0) ⟨#[], #[.agg #[.int .u64 0, .int .u64 0, .int .u64 0, .int .u64 0, .int .i64 0, .bool false], .agg #[.int .u64 0, .int .u64 0, .int .u64 0, .int .u64 0, .int .i64 0, .bool false], .string ByteArray.empty, .int .u8 0], []⟩).memory Tryd.f7.params.toList Rows.stampBackSpec.vars false #[Value.agg #[.int .u64 0, .int .u64 0, .int .u64 0, .int .u64 0, .int .i64 0, .bool false], Value.agg #[.int .u64 0, .int .u64 0, .int .u64 0, .int .u64 0, .int .i64 0, .bool false], Value.string ByteArray.empty, Value.int .u8 0].toList 8 = some ([.agg [.agg [.agg [.lit (.int .u64 0), .lit (.int .u64 0), .lit (.int .u64 0), .lit (.int .u64 0)], .lit (.int .i64 0)], .lit (.bool false)], .agg [.agg [.agg [.lit (.int .u64 0), .lit (.int .u64 0), .lit (.int .u64 0), .lit (.int .u64 0)], .lit (.int .i64 0)], .lit (.bool false)], .lit (.string []), .lit (.int .u8 0)], [], places) := ⟨[], by kernel_rfl⟩
  obtain ⟨places, hx⟩ := hx
  refine returnsInHanded_of_row (C := Tryd.checked) (s := OpenSpec.ofChange Rows.stampBackSpec) own started (by kernel_rfl) Tryd.func7
    (witness_row_at (enc := enc) (C := Tryd.checked) false (laidWorld os) #[.agg #[.int .u64 0, .int .u64 0, .int .u64 0, .int .u64 0, .int .i64 0, .bool false], .agg #[.int .u64 0, .int .u64 0, .int .u64 0, .int .u64 0, .int .i64 0, .bool false], .string ByteArray.empty, .int .u8 0] rfl (by kernel_rfl) (by kernel_rfl) (by kernel_rfl)
      (OpenSpec.preRow_of_cond 8 hx (by kernel_rfl) (fun k hk => by cases hk) (by kernel_rfl) (laidMet_of_run' 8 (by kernel_rfl) (by kernel_rfl)))) ?_
  intro W base args ds gs before hval0 hW hcnd hcond hsz0 hL _ _
  have hT : Fm.Tab W := tab_of hL
  have hval : ∀ (j : Nat) t v, Tryd.f7.params[j]? = some t → args[j]? = some v → Value.okWide Tryd.prog W .any base t v := hval0
  have hW' := hW
  obtain ⟨p, q, hA0, hV, rfl, hfz, hnd⟩ := hW
  have hA : DataW.TrodAll enc Tryd.prog W 0 (fun _ => true) true Tryd.f7.params.toList args.toList ds p := hA0
  have hsz : (DataW.weightsEach Tryd.prog (Tryd.f7.params.toList ++ Rows.stampBackSpec.plain.varTypes Tryd.prog) (ds ++ gs)).all (· ≤ reachBytes) = true := hsz0
  rw [Tryd.params7] at hA hval hsz
  obtain ⟨rfl, rfl⟩ := trodVars_none hV
  have hAk := hA
  have hlt : ∀ x ∈ p, x.block < W.heap.size := fun x hx => by simpa using hW'.lt x (List.mem_append.2 (.inl hx))
  obtain ⟨v0, vs0, d0, ds0, p0, q0, hargs, rfl, rfl, h0, r0⟩ := trodAll_cons hA
  obtain ⟨v1, vs1, d1, ds1, p1, q1, rfl, rfl, rfl, h1, r1⟩ := trodAll_cons r0
  obtain ⟨v2, vs2, d2, ds2, p2, q2, rfl, rfl, rfl, h2, r2⟩ := trodAll_cons r1
  obtain ⟨v3, vs3, d3, ds3, p3, q3, rfl, rfl, rfl, h3, r3⟩ := trodAll_cons r2
  obtain ⟨rfl, rfl, rfl⟩ := trodAll_nil r3
  obtain rfl : args = #[v0, v1, v2, v3] := by cases args; simp_all
  obtain ⟨a0, dd0, o0, rfl, w0⟩ := open_mark (hval 0 28 v0 rfl rfl) h0
  obtain ⟨a1, dd1, o1, rfl, w1⟩ := open_mark (hval 1 28 v1 rfl rfl) h1
  obtain ⟨a2, rfl, rfl, rfl, w2⟩ := open_string Tryd.underlying9 (hval 2 9 v2 rfl rfl) h2
  have z2 := sized_string hsz (j := 2) (t := 9) rfl rfl
  obtain ⟨a3, rfl, rfl, rfl, w3⟩ := open_int Tryd.underlying5 (hval 3 5 v3 rfl rfl) h3
  clear hA0 hval0 hsz0
  refine (walk a0 dd0 o0 a1 dd1 o1 a2 a3 w0 w1 (by rw [Array.length_toList] at z2; exact z2) w3 W hT).mono fun e W' ⟨he, hg⟩ => ?_
  subst he
  exact ⟨_, rfl, _, _, _, [], _, [], hW', (trodAll_cons_mk (shut_bool Tryd.underlying4 _) trodAll_mk0), trodAll_below laidOut hg _ _ _ _ (by kernel_rfl) hAk hlt, rfl, hg.frame _, fun h => by cases h⟩

theorem over : Rows.stampBackRow.holds Tryd.pinned (OpenSpec.ofChange Rows.stampBackSpec) :=
  OpenClaim.holds_of_cond 7 Tryd.f7 rfl rfl rfl rfl rfl rfl rfl ⟨rfl, rfl, rfl, rfl, rfl⟩ rfl rfl rfl rfl rfl (by kernel_rfl) Tryd.func7 (by kernel_rfl)
    (of_decide_eq_true (by kernel_rfl)) (by unfold Func.isWrapper; first | (rw [if_pos (by decide +kernel)]; kernel_rfl) | (rw [if_neg (by decide +kernel)]; exact ⟨rfl, rfl⟩))
    (fun os started H enc _ F => by rw [OpenClaim.pre_eq_preRow]; exact lifted os started H enc F)

set_option maxRecDepth 100000 in
theorem plain (f : FuncId) (fn : Func) (hf : Tryd.pinned.checked.prog.funcNamed "tenement/tenementlaw07.StampBack" = some f) (hfn : Tryd.pinned.checked.prog.funcs[f]? = some fn) :
    false = Tryd.pinned.checked.prog.looks [] ∧ ∀ (j : Nat) t, fn.params[j]? = some t → Tryd.pinned.checked.prog.wantsStandIn t = false := by
  obtain rfl : f = 7 := Option.some.inj ((show Tryd.prog.funcNamed "tenement/tenementlaw07.StampBack" = some 7 by kernel_rfl).symm.trans hf) |>.symm
  obtain rfl : fn = Tryd.f7 := (Option.some.inj (Tryd.func7.symm.trans hfn)).symm
  refine ⟨by kernel_rfl, fun j t ht => ?_⟩
  rw [Tryd.params7] at ht
  have hm := Array.mem_of_getElem? ht
  simp only [List.mem_toArray, List.mem_cons, List.not_mem_nil, or_false] at hm
  rcases hm with rfl | rfl | rfl | rfl
  all_goals first | exact (show Tryd.prog.wantsStandIn 28 = false by kernel_rfl) | exact (show Tryd.prog.wantsStandIn 9 = false by kernel_rfl) | exact (show Tryd.prog.wantsStandIn 5 = false by kernel_rfl)

/-- the statement -/
theorem proved : Rows.StampBackCardSaid :=
  Claim7.holds_tied_plain_at .later [] _ _ _ _ over (fun _ h => by cases h) (by kernel_rfl) (fun _ h => by cases h) stampBack_row_tie rfl ⟨rfl, rfl⟩ (by kernel_rfl) rfl plain (by kernel_rfl)
#print axioms proved

end Go.Proofs.YtnmggefbajoadaaDoor.stampBack
