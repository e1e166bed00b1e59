/-
  Any bytes, and those of a stamp with a byte another one, are the stamp, or none, that the chapter says: true for every argument (the law StampGets). No conditions.
-/
import Derived.Test.YtnmggefbajoadaaDoorFrameTab

import Derived.Test.YtnmggefbajoadaaDoorStampEx

import Derived.Test.YtnmggefbajoadaaDoorStampOf

import Derived.Test.YtnmggefbajoadaaDoorStampBackM

import Derived.Test.YtnmggefbajoadaaDoorStampRC

import Derived.Test.YtnmggefbajoadaaDoorVecBend7

import Derived.Test.YtnmggefbajoadaaDoorFrameMark

namespace Go.Proofs.YtnmggefbajoadaaDoor.stampGets

open Go.ChangeShapes Go.WideShapes Go.ChangeAt Go.RowKit

open Go.Proofs.YtnmggefbajoadaaDoor.Vc Go.Proofs.YtnmggefbajoadaaDoor.Sp

open Go.ChangeMaps (open_string shut_string)

set_option linter.unusedVariables false

set_option linter.unusedSimpArgs false

set_option maxHeartbeats 8000000 in
set_option maxRecDepth 100000 in
theorem walk (a0 : List Nat) (d0 : Int) (o0 : Bool) (a1 : ByteArray) (a2 : Bool) (a3 : Int) (a4 : Int) (a5 : Bool) (w0 : V.Ok a0 ∧ (Lit.int .i64 d0).wf = true) (z1 : a1.size ≤ 140737488351232) (w3 : (Lit.int .i64 a3).wf = true) (w4 : (Lit.int .u8 a4).wf = true) (w : World) (hT : Fm.Tab w) :
    Calls Tryd.prog 4 #[MV a0 d0 o0, .string a1, .bool a2, .int .i64 a3, .int .u8 a4, .bool a5] w fun e w' => e = .returned (.bool true) ∧ Below w.heap.size w w' := by
  have CE := Lib.hid examples_any
  have CM0 := Lib.hid (fun w => mark_any a0 d0 true w w0.1 w0.2)
  have HL0 := Lib.hid w0.1.len
  obtain ⟨A, EA⟩ : ∃ r, Hid (T.markv a0 d0 = r) := ⟨_, rfl⟩
  obtain ⟨nA, NA⟩ : ∃ r, Hid (T.markd d0 = r) := ⟨_, rfl⟩
  have OA : Hid (V.Ok A) := by rw [← EA.out]; exact T.markv_ok HL0.out d0
  have HA : Hid (A.length = 4) := OA.out.len
  have RA : Hid (T.right A (nA : Int) = true) := by rw [← EA.out, ← NA.out]; exact T.mark_right HL0.out d0
  rw [show T.mark a0 d0 true = (T.markv a0 d0, (T.markd d0 : Int)) from rfl, EA.out, NA.out] at CM0
  have h3 : -9223372036854775808 ≤ a3 ∧ a3 ≤ 9223372036854775807 := by simpa [Lit.wf, IntKind.min, IntKind.max, IntKind.signed, IntKind.bits] using w3
  obtain ⟨m, rfl⟩ : ∃ m : UInt8, a4 = (m.toNat : Int) := by
    have hx : 0 ≤ a4 ∧ a4 ≤ 255 := by simpa [Lit.wf, IntKind.min, IntKind.max, IntKind.signed, IntKind.bits] using w4
    exact ⟨UInt8.ofNat a4.toNat, by rw [UInt8.toNat_ofNat_of_lt' (by show _ < 256; omega)]; omega⟩
  cases a2 with
  | false =>
    have HS : Hid (a1.size ≤ maxLen) := by show _ ≤ _; unfold maxLen; omega
    obtain ⟨X, D, R, bd, HG⟩ : ∃ X D R bd, Hid (T.gets a1 a5 = (X, D, R, bd)) := ⟨_, _, _, _, rfl⟩
    have HX : Hid (X.length = 4) := by
      have h := (T.gets_ok a1 a5).len
      rw [HG.out] at h
      exact h
    have HQ : Hid (∀ u, (binOp .eql 39 (SV X D) (SV X D)).run Tryd.prog u = .ok (.bool true) u) := fun u => by rw [eql_rs X X D D HX.out HX.out u]; simp [T.same]
    have CG := Lib.hid (fun w => sget_any a1 a5 X D R bd w HS.out HG.out)
    have CR := Lib.hid (fun w => ref_sget a1 a5 X D R bd w HS.out HG.out)
    clear HG HS
    clear w0 w3 w4 h3
    go_enter Tryd.func4, Tryd.ntmps4
    have M0 : Hid (Kept w w []) := Kept.start w
    go_wp2_with (first | refine blk_box rfl 28 _ rfl (ks .u64 a0 ++ [Value.int .i64 d0, Value.bool o0]) rfl ?_)
    intro k1 A1 B1 Z1
    have M2 : Hid (Kept w k1 [(w.heap.size, ks .u64 a0 ++ [Value.int .i64 d0, Value.bool o0])]) := Kept.new M0.out B1 Z1 A1
    clear A1 B1 M0
    go_wp2_with fail
    clear Z1
    refine (CE.out _).mono ?_; rintro e k3 ⟨rfl, hb3⟩
    have M4 : Hid (Kept w k3 [(w.heap.size, ks .u64 a0 ++ [Value.int .i64 d0, Value.bool o0])]) := Kept.below M2.out hb3
    clear hb3 M2
    obtain ⟨co5, fo5⟩ := own_at (Kept.get M4.out 0 rfl) HL0.out
    have HN5 := Lib.hid (own_set (Kept.get M4.out 0 rfl) HL0.out true)
    have M6 : Hid (Kept w (k3.setCell ⟨w.heap.size, 5, none⟩ (.bool true)) [(w.heap.size, ks .u64 a0 ++ [Value.int .i64 d0, Value.bool true])]) := Kept.updAt M4.out 0 rfl (by omega) (by simp; try omega) (Upd.setCell _ _ _ _) HN5.out
    clear HN5 M4
    go_wp2_with fail
    clear co5 fo5
    refine (CG.out _).mono ?_; rintro e k7 ⟨rfl, hb7⟩
    have M8 : Hid (Kept w k7 [(w.heap.size, ks .u64 a0 ++ [Value.int .i64 d0, Value.bool true])]) := Kept.below M6.out hb7
    clear hb7 M6
    go_wp2_with (first | refine blk_alloc rfl 26 (ks .u64 (List.replicate 4 0) ++ [Value.int .i64 0]) rfl Tryd.info_s ?_)
    intro k9 A9 B9 Z9
    go_wp2_with (first | refine blk_alloc rfl 55 [.string ⟨#[]⟩, .bool false] rfl Tryd.info_rd ?_)
    intro k10 A10 B10 Z10
    go_wp2_with (first | refine blk_store rfl 26 _ _ rfl (k7.heap.size) rfl (ks .u64 X ++ [Value.int .i64 D]) rfl _ (A9.below B10 (by omega)) (sv_len HX.out) (size_s HX.out) (one_sv _ _) ?_)
    intro k11 A11 U11
    go_wp2_with (first | refine blk_store rfl 55 _ _ rfl (k7.heap.size + 1) rfl [.string R, .bool bd] rfl _ (A10.upd U11 (by omega)) rfl Tryd.size_rd rfl ?_)
    intro k12 A12 U12
    have M13 : Hid (Kept w k12 [(k7.heap.size + 1, [.string R, .bool bd]), (k7.heap.size, ks .u64 X ++ [Value.int .i64 D]), (w.heap.size, ks .u64 a0 ++ [Value.int .i64 d0, Value.bool true])]) := Kept.pair M8.out (B9.trans (B10.mono (by omega))) (by omega) U11 U12 (A11.upd U12 (by omega)) A12
    clear A9 B9 Z9 A10 B10 Z10 A11 U11 A12 U12 M8
    go_wp2_with fail
    refine (CR.out _).mono ?_; rintro e k14 ⟨rfl, hb14⟩
    have M15 : Hid (Kept w k14 [(k7.heap.size + 1, [.string R, .bool bd]), (k7.heap.size, ks .u64 X ++ [Value.int .i64 D]), (w.heap.size, ks .u64 a0 ++ [Value.int .i64 d0, Value.bool true])]) := Kept.below M13.out hb14
    clear hb14 M13
    go_wp2_with (first | refine blk_alloc rfl 39 (ks .u64 (List.replicate 4 0) ++ [Value.int .i64 0]) rfl Tryd.info_rs ?_)
    intro k16 A16 B16 Z16
    go_wp2_with (first | refine blk_alloc rfl 58 [.string ⟨#[]⟩, .bool false] rfl Tryd.info_rr ?_)
    intro k17 A17 B17 Z17
    go_wp2_with (first | refine blk_store rfl 39 _ _ rfl (k14.heap.size) rfl (ks .u64 X ++ [Value.int .i64 D]) rfl _ (A16.below B17 (by omega)) (sv_len HX.out) (size_rs HX.out) (one_sv _ _) ?_)
    intro k18 A18 U18
    go_wp2_with (first | refine blk_store rfl 58 _ _ rfl (k14.heap.size + 1) rfl [.string R, .bool bd] rfl _ (A17.upd U18 (by omega)) rfl Tryd.size_rr rfl ?_)
    intro k19 A19 U19
    have M20 : Hid (Kept w k19 [(k14.heap.size + 1, [.string R, .bool bd]), (k14.heap.size, ks .u64 X ++ [Value.int .i64 D]), (k7.heap.size + 1, [.string R, .bool bd]), (k7.heap.size, ks .u64 X ++ [Value.int .i64 D]), (w.heap.size, ks .u64 a0 ++ [Value.int .i64 d0, Value.bool true])]) := Kept.pair M15.out (B16.trans (B17.mono (by omega))) (by omega) U18 U19 (A18.upd U19 (by omega)) A19
    clear A16 B16 Z16 A17 B17 Z17 A18 U18 A19 U19 M15
    go_wp2_with fail
    have KP16 : Hid (∀ u, Below k19.heap.size k19 u → Blk u (k7.heap.size) (ks .u64 X ++ [Value.int .i64 D])) := fun u hu => (Kept.below M20.out hu).get 3 rfl
    have KP16r : Hid (∀ u, Below k19.heap.size k19 u → u.rangeAt (k7.heap.size) 0 (ks .u64 X)) := fun u hu => rowp ((Kept.below M20.out hu).get 3 rfl)
    have KP16d : Hid (∀ u, Below k19.heap.size k19 u → u.cell? ⟨k7.heap.size, 4, none⟩ = some (.int .i64 D)) := fun u hu => dc_cell ((Kept.below M20.out hu).get 3 rfl) HX.out
    have KP170 : Hid (∀ u, Below k19.heap.size k19 u → u.cell? ⟨k7.heap.size + 1, 0, none⟩ = some (.string R)) := fun u hu => ((Kept.below M20.out hu).get 2 rfl).cell 0 _ rfl
    have KP171 : Hid (∀ u, Below k19.heap.size k19 u → u.cell? ⟨k7.heap.size + 1, 1, none⟩ = some (.bool bd)) := fun u hu => ((Kept.below M20.out hu).get 2 rfl).cell 1 _ rfl
    have KP18 : Hid (∀ u, Below k19.heap.size k19 u → Blk u (k14.heap.size) (ks .u64 X ++ [Value.int .i64 D])) := fun u hu => (Kept.below M20.out hu).get 1 rfl
    have KP18r : Hid (∀ u, Below k19.heap.size k19 u → u.rangeAt (k14.heap.size) 0 (ks .u64 X)) := fun u hu => rowp ((Kept.below M20.out hu).get 1 rfl)
    have KP18d : Hid (∀ u, Below k19.heap.size k19 u → u.cell? ⟨k14.heap.size, 4, none⟩ = some (.int .i64 D)) := fun u hu => dc_cell ((Kept.below M20.out hu).get 1 rfl) HX.out
    have KP190 : Hid (∀ u, Below k19.heap.size k19 u → u.cell? ⟨k14.heap.size + 1, 0, none⟩ = some (.string R)) := fun u hu => ((Kept.below M20.out hu).get 0 rfl).cell 0 _ rfl
    have KP191 : Hid (∀ u, Below k19.heap.size k19 u → u.cell? ⟨k14.heap.size + 1, 1, none⟩ = some (.bool bd)) := fun u hu => ((Kept.below M20.out hu).get 0 rfl).cell 1 _ rfl
    have KC0 : Hid (∀ u, Below k19.heap.size k19 u → Calls Tryd.prog 14 [SV X D].toArray u fun e u' => e = .returned (SV X D) ∧ Below k19.heap.size k19 u') := fun  u hu => Calls.more hu (refstamp_any X D u HX.out)
    refine region_w Tryd.mixed (by kernel_rfl) ?_
    refine w_move rfl _ rfl (.bool true) rfl (fun K hK => ?_)
    go_simp
    refine hK _ ?_
    clear hK K
    refine w_move rfl _ rfl (.bool true) rfl (fun K hK => ?_)
    go_simp
    refine hK _ ?_
    clear hK K
    refine wg_sv_load (by rfl) 26 _ rfl (k7.heap.size) rfl X D KP16.out _ Tryd.underlying26 rfl (size_s HX.out) (fun K hK => ?_)
    go_simp
    refine hK _ ?_
    clear hK K
    refine wg_call (by rfl) 14 Tryd.f14 Tryd.func14 rfl rfl _ _ rfl _ rfl (SV X D) (by exact KC0.out) (fun K hK => ?_)
    go_simp
    refine hK _ ?_
    clear hK K
    refine wg_sv_load (by rfl) 39 _ rfl (k14.heap.size) rfl X D KP18.out _ Tryd.underlying39 rfl (size_rs HX.out) (fun K hK => ?_)
    go_simp
    refine hK _ ?_
    clear hK K
    refine wg_value (by rfl) (.bool true) (fun u _ => run_eql u .eql 39 39 _ _ (SV X D) (SV X D) _ rfl rfl rfl (guard_rs _ _ _ _ _ _ u) (HQ.out u)) (fun K hK => ?_)
    go_simp
    refine hK _ ?_
    clear hK K
    refine w_value rfl (.bool true) (fun u hu => by go_simp) (fun K hK => ?_)
    go_simp
    refine hK _ ?_
    clear hK K
    refine w_move rfl _ rfl (.bool true) rfl (fun K hK => ?_)
    go_simp
    refine hK _ ?_
    clear hK K
    refine wg_value (by rfl) (.pointer (some ⟨k7.heap.size + 1, 0, none⟩)) (fun u hu => by go_simp) (fun K hK => ?_)
    go_simp
    refine hK _ ?_
    clear hK K
    refine wg_value (by rfl) (.string R) (fun u hu => by have hc := KP170.out u hu; go_simp) (fun K hK => ?_)
    go_simp
    refine hK _ ?_
    clear hK K
    refine wg_value (by rfl) (.pointer (some ⟨k14.heap.size + 1, 0, none⟩)) (fun u hu => by go_simp) (fun K hK => ?_)
    go_simp
    refine hK _ ?_
    clear hK K
    refine wg_value (by rfl) (.string R) (fun u hu => by have hc := KP190.out u hu; go_simp) (fun K hK => ?_)
    go_simp
    refine hK _ ?_
    clear hK K
    refine wg_value (by rfl) (.bool true) (fun u hu => by go_simp) (fun K hK => ?_)
    go_simp
    refine hK _ ?_
    clear hK K
    refine w_value rfl (.bool true) (fun u hu => by go_simp) (fun K hK => ?_)
    go_simp
    refine hK _ ?_
    clear hK K
    refine w_move rfl _ rfl (.bool true) rfl (fun K hK => ?_)
    go_simp
    refine hK _ ?_
    clear hK K
    refine wg_value (by rfl) (.pointer (some ⟨k7.heap.size + 1, 1, none⟩)) (fun u hu => by go_simp) (fun K hK => ?_)
    go_simp
    refine hK _ ?_
    clear hK K
    refine wg_value (by rfl) (.bool bd) (fun u hu => by have hc := KP171.out u hu; go_simp) (fun K hK => ?_)
    go_simp
    refine hK _ ?_
    clear hK K
    refine wg_value (by rfl) (.pointer (some ⟨k14.heap.size + 1, 1, none⟩)) (fun u hu => by go_simp) (fun K hK => ?_)
    go_simp
    refine hK _ ?_
    clear hK K
    refine wg_value (by rfl) (.bool bd) (fun u hu => by have hc := KP191.out u hu; go_simp) (fun K hK => ?_)
    go_simp
    refine hK _ ?_
    clear hK K
    refine wg_value (by rfl) (.bool true) (fun u hu => by go_simp) (fun K hK => ?_)
    go_simp
    refine hK _ ?_
    clear hK K
    refine w_value rfl (.bool true) (fun u hu => by go_simp) (fun K hK => ?_)
    go_simp
    refine hK _ ?_
    clear hK K
    refine w_assign rfl _ rfl (.bool true) rfl (fun K hK => ?_)
    go_simp
    refine hK _ ?_
    clear hK K
    refine w_nil ?_
    intro u hu
    have HW9 : Hid (Below w.heap.size w u) := (Kept.below M20.out hu).under
    clear hu
    go_wp2_with fail
    go_ret
    exact ⟨rfl, HW9.out⟩
  | true =>
    have CF := Lib.hid (fun w => refstamp_any A (nA : Int) w HA.out)
    have CP := Lib.hid (fun w => ref_sput A (nA : Int) w OA.out)
    have hp : (T.puts A (nA : Int)).size ≤ 41 := by
      rw [T.puts_size HA.out RA.out]
      have := (V.put_pos HA.out).2
      omega
    obtain ⟨p, HP⟩ : ∃ r, Hid (T.puts A (nA : Int) = r) := ⟨_, rfl⟩
    rw [HP.out] at CP hp
    have hcat : p.size + a1.size ≤ 9223372036854775807 := by omega
    have CB := Lib.hid (fun w => bend_any (p ++ a1) a3 m w (by rw [ByteArray.size_append]; omega) h3.1 h3.2)
    clear w0 w3 w4 h3 HP
    go_enter Tryd.func4, Tryd.ntmps4
    have M0 : Hid (Kept w w []) := Kept.start w
    go_wp2_with (first | refine blk_box rfl 28 _ rfl (ks .u64 a0 ++ [Value.int .i64 d0, Value.bool o0]) rfl ?_)
    intro k1 A1 B1 Z1
    have M2 : Hid (Kept w k1 [(w.heap.size, ks .u64 a0 ++ [Value.int .i64 d0, Value.bool o0])]) := Kept.new M0.out B1 Z1 A1
    clear A1 B1 M0
    go_wp2_with fail
    clear Z1
    refine (CE.out _).mono ?_; rintro e k3 ⟨rfl, hb3⟩
    have M4 : Hid (Kept w k3 [(w.heap.size, ks .u64 a0 ++ [Value.int .i64 d0, Value.bool o0])]) := Kept.below M2.out hb3
    clear hb3 M2
    obtain ⟨co5, fo5⟩ := own_at (Kept.get M4.out 0 rfl) HL0.out
    have HN5 := Lib.hid (own_set (Kept.get M4.out 0 rfl) HL0.out true)
    have M6 : Hid (Kept w (k3.setCell ⟨w.heap.size, 5, none⟩ (.bool true)) [(w.heap.size, ks .u64 a0 ++ [Value.int .i64 d0, Value.bool true])]) := Kept.updAt M4.out 0 rfl (by omega) (by simp; try omega) (Upd.setCell _ _ _ _) HN5.out
    clear HN5 M4
    go_wp2_with (first | refine blk_load rfl 28 _ rfl (w.heap.size) rfl (ks .u64 a0 ++ [Value.int .i64 d0, Value.bool true]) (Kept.get M6.out 0 rfl) _ Tryd.underlying28 rfl (size_m HL0.out) ?_)
    clear co5 fo5
    refine (CM0.out _).mono ?_; rintro e k7 ⟨rfl, hb7⟩
    have M8 : Hid (Kept w k7 [(w.heap.size, ks .u64 a0 ++ [Value.int .i64 d0, Value.bool true])]) := Kept.below M6.out hb7
    clear hb7 M6
    go_wp2_with fail
    refine (CF.out _).mono ?_; rintro e k9 ⟨rfl, hb9⟩
    have M10 : Hid (Kept w k9 [(w.heap.size, ks .u64 a0 ++ [Value.int .i64 d0, Value.bool true])]) := Kept.below M8.out hb9
    clear hb9 M8
    go_wp2_with fail
    refine (CP.out _).mono ?_; rintro e k11 ⟨rfl, hb11⟩
    have M12 : Hid (Kept w k11 [(w.heap.size, ks .u64 a0 ++ [Value.int .i64 d0, Value.bool true])]) := Kept.below M10.out hb11
    clear hb11 M10
    go_wp2_with fail
    refine (CB.out k11).mono ?_; rintro e k13 ⟨⟨s, rfl, hsz⟩, hb13⟩
    have M14 : Hid (Kept w k13 [(w.heap.size, ks .u64 a0 ++ [Value.int .i64 d0, Value.bool true])]) := Kept.below M12.out hb13
    clear hb13 M12
    have HS : Hid (s.size ≤ maxLen) := by show _ ≤ _; rw [hsz, ByteArray.size_append]; unfold maxLen; omega
    clear hsz
    obtain ⟨X, D, R, bd, HG⟩ : ∃ X D R bd, Hid (T.gets s a5 = (X, D, R, bd)) := ⟨_, _, _, _, rfl⟩
    have HX : Hid (X.length = 4) := by
      have h := (T.gets_ok s a5).len
      rw [HG.out] at h
      exact h
    have HQ : Hid (∀ u, (binOp .eql 39 (SV X D) (SV X D)).run Tryd.prog u = .ok (.bool true) u) := fun u => by rw [eql_rs X X D D HX.out HX.out u]; simp [T.same]
    have CG := Lib.hid (fun w => sget_any s a5 X D R bd w HS.out HG.out)
    have CR := Lib.hid (fun w => ref_sget s a5 X D R bd w HS.out HG.out)
    clear HG HS
    go_wp2_with fail
    refine (CG.out _).mono ?_; rintro e k15 ⟨rfl, hb15⟩
    have M16 : Hid (Kept w k15 [(w.heap.size, ks .u64 a0 ++ [Value.int .i64 d0, Value.bool true])]) := Kept.below M14.out hb15
    clear hb15 M14
    go_wp2_with (first | refine blk_alloc rfl 26 (ks .u64 (List.replicate 4 0) ++ [Value.int .i64 0]) rfl Tryd.info_s ?_)
    intro k17 A17 B17 Z17
    go_wp2_with (first | refine blk_alloc rfl 55 [.string ⟨#[]⟩, .bool false] rfl Tryd.info_rd ?_)
    intro k18 A18 B18 Z18
    go_wp2_with (first | refine blk_store rfl 26 _ _ rfl (k15.heap.size) rfl (ks .u64 X ++ [Value.int .i64 D]) rfl _ (A17.below B18 (by omega)) (sv_len HX.out) (size_s HX.out) (one_sv _ _) ?_)
    intro k19 A19 U19
    go_wp2_with (first | refine blk_store rfl 55 _ _ rfl (k15.heap.size + 1) rfl [.string R, .bool bd] rfl _ (A18.upd U19 (by omega)) rfl Tryd.size_rd rfl ?_)
    intro k20 A20 U20
    have M21 : Hid (Kept w k20 [(k15.heap.size + 1, [.string R, .bool bd]), (k15.heap.size, ks .u64 X ++ [Value.int .i64 D]), (w.heap.size, ks .u64 a0 ++ [Value.int .i64 d0, Value.bool true])]) := Kept.pair M16.out (B17.trans (B18.mono (by omega))) (by omega) U19 U20 (A19.upd U20 (by omega)) A20
    clear A17 B17 Z17 A18 B18 Z18 A19 U19 A20 U20 M16
    go_wp2_with fail
    refine (CR.out _).mono ?_; rintro e k22 ⟨rfl, hb22⟩
    have M23 : Hid (Kept w k22 [(k15.heap.size + 1, [.string R, .bool bd]), (k15.heap.size, ks .u64 X ++ [Value.int .i64 D]), (w.heap.size, ks .u64 a0 ++ [Value.int .i64 d0, Value.bool true])]) := Kept.below M21.out hb22
    clear hb22 M21
    go_wp2_with (first | refine blk_alloc rfl 39 (ks .u64 (List.replicate 4 0) ++ [Value.int .i64 0]) rfl Tryd.info_rs ?_)
    intro k24 A24 B24 Z24
    go_wp2_with (first | refine blk_alloc rfl 58 [.string ⟨#[]⟩, .bool false] rfl Tryd.info_rr ?_)
    intro k25 A25 B25 Z25
    go_wp2_with (first | refine blk_store rfl 39 _ _ rfl (k22.heap.size) rfl (ks .u64 X ++ [Value.int .i64 D]) rfl _ (A24.below B25 (by omega)) (sv_len HX.out) (size_rs HX.out) (one_sv _ _) ?_)
    intro k26 A26 U26
    go_wp2_with (first | refine blk_store rfl 58 _ _ rfl (k22.heap.size + 1) rfl [.string R, .bool bd] rfl _ (A25.upd U26 (by omega)) rfl Tryd.size_rr rfl ?_)
    intro k27 A27 U27
    have M28 : Hid (Kept w k27 [(k22.heap.size + 1, [.string R, .bool bd]), (k22.heap.size, ks .u64 X ++ [Value.int .i64 D]), (k15.heap.size + 1, [.string R, .bool bd]), (k15.heap.size, ks .u64 X ++ [Value.int .i64 D]), (w.heap.size, ks .u64 a0 ++ [Value.int .i64 d0, Value.bool true])]) := Kept.pair M23.out (B24.trans (B25.mono (by omega))) (by omega) U26 U27 (A26.upd U27 (by omega)) A27
    clear A24 B24 Z24 A25 B25 Z25 A26 U26 A27 U27 M23
    go_wp2_with fail
    have KP16 : Hid (∀ u, Below k27.heap.size k27 u → Blk u (k15.heap.size) (ks .u64 X ++ [Value.int .i64 D])) := fun u hu => (Kept.below M28.out hu).get 3 rfl
    have KP16r : Hid (∀ u, Below k27.heap.size k27 u → u.rangeAt (k15.heap.size) 0 (ks .u64 X)) := fun u hu => rowp ((Kept.below M28.out hu).get 3 rfl)
    have KP16d : Hid (∀ u, Below k27.heap.size k27 u → u.cell? ⟨k15.heap.size, 4, none⟩ = some (.int .i64 D)) := fun u hu => dc_cell ((Kept.below M28.out hu).get 3 rfl) HX.out
    have KP170 : Hid (∀ u, Below k27.heap.size k27 u → u.cell? ⟨k15.heap.size + 1, 0, none⟩ = some (.string R)) := fun u hu => ((Kept.below M28.out hu).get 2 rfl).cell 0 _ rfl
    have KP171 : Hid (∀ u, Below k27.heap.size k27 u → u.cell? ⟨k15.heap.size + 1, 1, none⟩ = some (.bool bd)) := fun u hu => ((Kept.below M28.out hu).get 2 rfl).cell 1 _ rfl
    have KP18 : Hid (∀ u, Below k27.heap.size k27 u → Blk u (k22.heap.size) (ks .u64 X ++ [Value.int .i64 D])) := fun u hu => (Kept.below M28.out hu).get 1 rfl
    have KP18r : Hid (∀ u, Below k27.heap.size k27 u → u.rangeAt (k22.heap.size) 0 (ks .u64 X)) := fun u hu => rowp ((Kept.below M28.out hu).get 1 rfl)
    have KP18d : Hid (∀ u, Below k27.heap.size k27 u → u.cell? ⟨k22.heap.size, 4, none⟩ = some (.int .i64 D)) := fun u hu => dc_cell ((Kept.below M28.out hu).get 1 rfl) HX.out
    have KP190 : Hid (∀ u, Below k27.heap.size k27 u → u.cell? ⟨k22.heap.size + 1, 0, none⟩ = some (.string R)) := fun u hu => ((Kept.below M28.out hu).get 0 rfl).cell 0 _ rfl
    have KP191 : Hid (∀ u, Below k27.heap.size k27 u → u.cell? ⟨k22.heap.size + 1, 1, none⟩ = some (.bool bd)) := fun u hu => ((Kept.below M28.out hu).get 0 rfl).cell 1 _ rfl
    have KC0 : Hid (∀ u, Below k27.heap.size k27 u → Calls Tryd.prog 14 [SV X D].toArray u fun e u' => e = .returned (SV X D) ∧ Below k27.heap.size k27 u') := fun  u hu => Calls.more hu (refstamp_any X D u HX.out)
    refine region_w Tryd.mixed (by kernel_rfl) ?_
    refine w_move rfl _ rfl (.bool true) rfl (fun K hK => ?_)
    go_simp
    refine hK _ ?_
    clear hK K
    refine w_move rfl _ rfl (.bool true) rfl (fun K hK => ?_)
    go_simp
    refine hK _ ?_
    clear hK K
    refine wg_sv_load (by rfl) 26 _ rfl (k15.heap.size) rfl X D KP16.out _ Tryd.underlying26 rfl (size_s HX.out) (fun K hK => ?_)
    go_simp
    refine hK _ ?_
    clear hK K
    refine wg_call (by rfl) 14 Tryd.f14 Tryd.func14 rfl rfl _ _ rfl _ rfl (SV X D) (by exact KC0.out) (fun K hK => ?_)
    go_simp
    refine hK _ ?_
    clear hK K
    refine wg_sv_load (by rfl) 39 _ rfl (k22.heap.size) rfl X D KP18.out _ Tryd.underlying39 rfl (size_rs HX.out) (fun K hK => ?_)
    go_simp
    refine hK _ ?_
    clear hK K
    refine wg_value (by rfl) (.bool true) (fun u _ => run_eql u .eql 39 39 _ _ (SV X D) (SV X D) _ rfl rfl rfl (guard_rs _ _ _ _ _ _ u) (HQ.out u)) (fun K hK => ?_)
    go_simp
    refine hK _ ?_
    clear hK K
    refine w_value rfl (.bool true) (fun u hu => by go_simp) (fun K hK => ?_)
    go_simp
    refine hK _ ?_
    clear hK K
    refine w_move rfl _ rfl (.bool true) rfl (fun K hK => ?_)
    go_simp
    refine hK _ ?_
    clear hK K
    refine wg_value (by rfl) (.pointer (some ⟨k15.heap.size + 1, 0, none⟩)) (fun u hu => by go_simp) (fun K hK => ?_)
    go_simp
    refine hK _ ?_
    clear hK K
    refine wg_value (by rfl) (.string R) (fun u hu => by have hc := KP170.out u hu; go_simp) (fun K hK => ?_)
    go_simp
    refine hK _ ?_
    clear hK K
    refine wg_value (by rfl) (.pointer (some ⟨k22.heap.size + 1, 0, none⟩)) (fun u hu => by go_simp) (fun K hK => ?_)
    go_simp
    refine hK _ ?_
    clear hK K
    refine wg_value (by rfl) (.string R) (fun u hu => by have hc := KP190.out u hu; go_simp) (fun K hK => ?_)
    go_simp
    refine hK _ ?_
    clear hK K
    refine wg_value (by rfl) (.bool true) (fun u hu => by go_simp) (fun K hK => ?_)
    go_simp
    refine hK _ ?_
    clear hK K
    refine w_value rfl (.bool true) (fun u hu => by go_simp) (fun K hK => ?_)
    go_simp
    refine hK _ ?_
    clear hK K
    refine w_move rfl _ rfl (.bool true) rfl (fun K hK => ?_)
    go_simp
    refine hK _ ?_
    clear hK K
    refine wg_value (by rfl) (.pointer (some ⟨k15.heap.size + 1, 1, none⟩)) (fun u hu => by go_simp) (fun K hK => ?_)
    go_simp
    refine hK _ ?_
    clear hK K
    refine wg_value (by rfl) (.bool bd) (fun u hu => by have hc := KP171.out u hu; go_simp) (fun K hK => ?_)
    go_simp
    refine hK _ ?_
    clear hK K
    refine wg_value (by rfl) (.pointer (some ⟨k22.heap.size + 1, 1, none⟩)) (fun u hu => by go_simp) (fun K hK => ?_)
    go_simp
    refine hK _ ?_
    clear hK K
    refine wg_value (by rfl) (.bool bd) (fun u hu => by have hc := KP191.out u hu; go_simp) (fun K hK => ?_)
    go_simp
    refine hK _ ?_
    clear hK K
    refine wg_value (by rfl) (.bool true) (fun u hu => by go_simp) (fun K hK => ?_)
    go_simp
    refine hK _ ?_
    clear hK K
    refine w_value rfl (.bool true) (fun u hu => by go_simp) (fun K hK => ?_)
    go_simp
    refine hK _ ?_
    clear hK K
    refine w_assign rfl _ rfl (.bool true) rfl (fun K hK => ?_)
    go_simp
    refine hK _ ?_
    clear hK K
    refine w_nil ?_
    intro u hu
    have HW9 : Hid (Below w.heap.size w u) := (Kept.below M28.out hu).under
    clear hu
    go_wp2_with fail
    go_ret
    exact ⟨rfl, HW9.out⟩

set_option maxRecDepth 100000 in
theorem lifted (os : Os) (started : os.Started) (H : Type) (enc : TypeId × Value → H) (F : Stop.Interp) :
    ReturnsInHanded {} Tryd.checked os 4 .any ((OpenSpec.ofChange Rows.stampGetsSpec).preRow enc Tryd.prog Tryd.f4 Rows.stampGetsRow.domain false Rows.stampGetsRow.laid) (((OpenSpec.ofChange Rows.stampGetsSpec).at F).post enc Tryd.prog Tryd.f4 false true false false) := by
  have hx : ∃ places, DataW.whole enc Tryd.prog ((laidWorld os).forCall (fun _ _ => 0) ⟨#[], #[.agg #[.int .u64 0, .int .u64 0, .int .u64 0, .int .u64 0, .int .i64 0, .bool false], .string ByteArray.empty, .bool false, .int .i64 0, .int .u8 0, .bool false], []⟩).memory Tryd.f4.params.toList Rows.stampGetsSpec.vars false #[Value.agg #[.int .u64 0, .int .u64 0, .int .u64 0, .int .u64 0, .int .i64 0, .bool false], Value.string ByteArray.empty, Value.bool false, Value.int .i64 0, Value.int .u8 0, Value.bool false].toList 8 = some ([.agg [.agg [.agg [.lit (.int .u64 0), .lit (.int .u64 0), .lit (.int .u64 0), .lit (.int .u64 0)], .lit (.int .i64 0)], .lit (.bool false)], .lit (.string []), .lit (.bool false), .lit (.int .i64 0), .lit (.int .u8 0), .lit (.bool false)], [], places) := ⟨[], by kernel_rfl⟩
  obtain ⟨places, hx⟩ := hx
  refine returnsInHanded_of_row (C := Tryd.checked) (s := OpenSpec.ofChange Rows.stampGetsSpec) own started (by kernel_rfl) Tryd.func4
    (witness_row_at (enc := enc) (C := Tryd.checked) false (laidWorld os) #[.agg #[.int .u64 0, .int .u64 0, .int .u64 0, .int .u64 0, .int .i64 0, .bool false], .string ByteArray.empty, .bool false, .int .i64 0, .int .u8 0, .bool false] rfl (by kernel_rfl) (by kernel_rfl) (by kernel_rfl)
      (OpenSpec.preRow_of_cond 8 hx (by kernel_rfl) (fun k hk => by cases hk) (by kernel_rfl) (laidMet_of_run' 8 (by kernel_rfl) (by kernel_rfl)))) ?_
  intro W base args ds gs before hval0 hW hcnd hcond hsz0 hL _ _
  have hT : Fm.Tab W := tab_of hL
  have hval : ∀ (j : Nat) t v, Tryd.f4.params[j]? = some t → args[j]? = some v → Value.okWide Tryd.prog W .any base t v := hval0
  have hW' := hW
  obtain ⟨p, q, hA0, hV, rfl, hfz, hnd⟩ := hW
  have hA : DataW.TrodAll enc Tryd.prog W 0 (fun _ => true) true Tryd.f4.params.toList args.toList ds p := hA0
  have hsz : (DataW.weightsEach Tryd.prog (Tryd.f4.params.toList ++ Rows.stampGetsSpec.plain.varTypes Tryd.prog) (ds ++ gs)).all (· ≤ reachBytes) = true := hsz0
  rw [Tryd.params4] at hA hval hsz
  obtain ⟨rfl, rfl⟩ := trodVars_none hV
  have hAk := hA
  have hlt : ∀ x ∈ p, x.block < W.heap.size := fun x hx => by simpa using hW'.lt x (List.mem_append.2 (.inl hx))
  obtain ⟨v0, vs0, d0, ds0, p0, q0, hargs, rfl, rfl, h0, r0⟩ := trodAll_cons hA
  obtain ⟨v1, vs1, d1, ds1, p1, q1, rfl, rfl, rfl, h1, r1⟩ := trodAll_cons r0
  obtain ⟨v2, vs2, d2, ds2, p2, q2, rfl, rfl, rfl, h2, r2⟩ := trodAll_cons r1
  obtain ⟨v3, vs3, d3, ds3, p3, q3, rfl, rfl, rfl, h3, r3⟩ := trodAll_cons r2
  obtain ⟨v4, vs4, d4, ds4, p4, q4, rfl, rfl, rfl, h4, r4⟩ := trodAll_cons r3
  obtain ⟨v5, vs5, d5, ds5, p5, q5, rfl, rfl, rfl, h5, r5⟩ := trodAll_cons r4
  obtain ⟨rfl, rfl, rfl⟩ := trodAll_nil r5
  obtain rfl : args = #[v0, v1, v2, v3, v4, v5] := by cases args; simp_all
  obtain ⟨a0, dd0, o0, rfl, w0⟩ := open_mark (hval 0 28 v0 rfl rfl) h0
  obtain ⟨a1, rfl, rfl, rfl, w1⟩ := open_string Tryd.underlying9 (hval 1 9 v1 rfl rfl) h1
  have z1 := sized_string hsz (j := 1) (t := 9) rfl rfl
  obtain ⟨a2, rfl, rfl, rfl⟩ := open_bool Tryd.underlying4 (hval 2 4 v2 rfl rfl) h2
  obtain ⟨a3, rfl, rfl, rfl, w3⟩ := open_int Tryd.underlying3 (hval 3 3 v3 rfl rfl) h3
  obtain ⟨a4, rfl, rfl, rfl, w4⟩ := open_int Tryd.underlying5 (hval 4 5 v4 rfl rfl) h4
  obtain ⟨a5, rfl, rfl, rfl⟩ := open_bool Tryd.underlying4 (hval 5 4 v5 rfl rfl) h5
  clear hA0 hval0 hsz0
  refine (walk a0 dd0 o0 a1 a2 a3 a4 a5 w0 (by rw [Array.length_toList] at z1; exact z1) w3 w4 W hT).mono fun e W' ⟨he, hg⟩ => ?_
  subst he
  exact ⟨_, rfl, _, _, _, [], _, [], hW', (trodAll_cons_mk (shut_bool Tryd.underlying4 _) trodAll_mk0), trodAll_below laidOut hg _ _ _ _ (by kernel_rfl) hAk hlt, rfl, hg.frame _, fun h => by cases h⟩

theorem over : Rows.stampGetsRow.holds Tryd.pinned (OpenSpec.ofChange Rows.stampGetsSpec) :=
  OpenClaim.holds_of_cond 4 Tryd.f4 rfl rfl rfl rfl rfl rfl rfl ⟨rfl, rfl, rfl, rfl, rfl⟩ rfl rfl rfl rfl rfl (by kernel_rfl) Tryd.func4 (by kernel_rfl)
    (of_decide_eq_true (by kernel_rfl)) (by unfold Func.isWrapper; first | (rw [if_pos (by decide +kernel)]; kernel_rfl) | (rw [if_neg (by decide +kernel)]; exact ⟨rfl, rfl⟩))
    (fun os started H enc _ F => by rw [OpenClaim.pre_eq_preRow]; exact lifted os started H enc F)

set_option maxRecDepth 100000 in
theorem plain (f : FuncId) (fn : Func) (hf : Tryd.pinned.checked.prog.funcNamed "tenement/tenementlaw07.StampGets" = some f) (hfn : Tryd.pinned.checked.prog.funcs[f]? = some fn) :
    false = Tryd.pinned.checked.prog.looks [] ∧ ∀ (j : Nat) t, fn.params[j]? = some t → Tryd.pinned.checked.prog.wantsStandIn t = false := by
  obtain rfl : f = 4 := Option.some.inj ((show Tryd.prog.funcNamed "tenement/tenementlaw07.StampGets" = some 4 by kernel_rfl).symm.trans hf) |>.symm
  obtain rfl : fn = Tryd.f4 := (Option.some.inj (Tryd.func4.symm.trans hfn)).symm
  refine ⟨by kernel_rfl, fun j t ht => ?_⟩
  rw [Tryd.params4] at ht
  have hm := Array.mem_of_getElem? ht
  simp only [List.mem_toArray, List.mem_cons, List.not_mem_nil, or_false] at hm
  rcases hm with rfl | rfl | rfl | rfl | rfl | rfl
  all_goals first | exact (show Tryd.prog.wantsStandIn 28 = false by kernel_rfl) | exact (show Tryd.prog.wantsStandIn 9 = false by kernel_rfl) | exact (show Tryd.prog.wantsStandIn 4 = false by kernel_rfl) | exact (show Tryd.prog.wantsStandIn 3 = false by kernel_rfl) | exact (show Tryd.prog.wantsStandIn 5 = false by kernel_rfl)

/-- the statement -/
theorem proved : Rows.StampGetsCardSaid :=
  Claim7.holds_tied_plain_at .later [] _ _ _ _ over (fun _ h => by cases h) (by kernel_rfl) (fun _ h => by cases h) stampGets_row_tie rfl ⟨rfl, rfl⟩ (by kernel_rfl) rfl plain (by kernel_rfl)
#print axioms proved

end Go.Proofs.YtnmggefbajoadaaDoor.stampGets
