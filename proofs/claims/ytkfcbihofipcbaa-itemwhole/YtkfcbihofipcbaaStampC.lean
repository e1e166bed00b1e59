/- stamp: Get. -/
import Derived.Test.YtkfcbihofipcbaaStampA

import Derived.Test.YtkfcbihofipcbaaVecGet

import Derived.Test.YtkfcbihofipcbaaPackGet

import Derived.Test.YtkfcbihofipcbaaPackText

namespace Go.Proofs.Ytkfcbihofipcbaa.T

set_option linter.unusedVariables false

/-- what Get tells, and the reader behind it -/
def gets (s : ByteArray) (b : Bool) : List Nat × Int × ByteArray × Bool :=
  if (V.gets (P.RN s b 1).2.1 (P.RN s b 1).2.2).2.2 = true ∨ right (V.gets (P.RN s b 1).2.1 (P.RN s b 1).2.2).1 ((P.RN s b 1).1 : Int) = false then (V.zeros, 0, ⟨#[]⟩, true)
  else ((V.gets (P.RN s b 1).2.1 (P.RN s b 1).2.2).1, ((P.RN s b 1).1 : Int), (V.gets (P.RN s b 1).2.1 (P.RN s b 1).2.2).2)
theorem RN_lt (s : ByteArray) (b : Bool) (n : Nat) (t : ByteArray) (c : Bool) (h : P.RN s b 1 = (n, t, c)) : n < 256 := by
  unfold P.RN P.outN at h
  split at h
  · simp only [Prod.mk.injEq] at h; omega
  · rename_i m r hm
    simp only [Prod.mk.injEq] at h
    obtain ⟨rfl, _⟩ := h
    cases b with
    | true => simp at hm
    | false =>
      simp only [Bool.false_eq_true, if_false] at hm
      unfold P.rnum at hm
      split at hm
      · cases hm
      · simp at hm
        rw [← hm.1]
        have := P.val_lt (s.data.toList.take 1)
        have hl : (s.data.toList.take 1).length ≤ 1 := by rw [List.length_take]; omega
        have h2 : 256 ^ (s.data.toList.take 1).length ≤ 256 ^ 1 := Nat.pow_le_pow_right (by omega) hl
        omega
theorem gets_ok (s : ByteArray) (b : Bool) : V.Ok (gets s b).1 := by
  unfold gets
  split
  · exact V.zeros_ok
  · exact (V.gets_ok _ _).1
end Go.Proofs.Ytkfcbihofipcbaa.T

namespace Go.Proofs.Ytkfcbihofipcbaa.Sp

open Go.RowKit Go.Proofs.Ytkfcbihofipcbaa.Vc

set_option linter.unusedVariables false

set_option linter.unusedSimpArgs false

set_option maxRecDepth 100000

theorem wrapi {x : Int} (h0 : -9223372036854775808 ≤ x) (h1 : x ≤ 9223372036854775807) : IntKind.i64.wrap x = x := by
  have h2 : (if 9223372036854775808 ≤ x % 18446744073709551616 then x % 18446744073709551616 - 18446744073709551616 else x % 18446744073709551616) = x := by
    split <;> omega
  simpa [IntKind.wrap, IntKind.bits, IntKind.signed] using h2
section

variable {P : Program} {ops : Array Oper} {rest : List Oper} {o : Oper} {a : Act} {w : World} {Q : Exit → Act → World → Prop}

/-- a vector is stored into the first field of a struct -/
theorem row_store (hgd : o.guard = none) (t : TypeId) (x y : Operand) (ho : o.op = .store t x y) (b : Nat) (hx : a.eval x = .pointer (some ⟨b, 0, none⟩)) (l' : List Nat) (hy : a.eval y = AV .u64 l')
    (l : List Nat) (ext : List Value) (hb : Blk w b (ks .u64 l ++ ext)) (h4 : l.length = 4) (hl : l'.length = 4) (hi : (P.info? t).map (·.size) = some l'.length)
    (h : ∀ w', Blk w' b (ks .u64 l' ++ ext) → Upd b w w' → wpList P ops Q rest (a.put o.dst undef) w') : wpList P ops Q (o :: rest) a w := by
  have hth : w.there b 0 l'.length := fun j hj => hb.2 j (by rw [List.length_append, ks_length]; omega)
  refine wpList_store_mid hgd t x y ho b 0 _ hx hy (by rw [List.size_toArray, ks_length]; exact hth) (by rw [List.size_toArray, ks_length]; exact hi) (ks_one .u64 l') (h _ ?_ (Upd.setCells b _ 0 w))
  obtain ⟨x0, x1, x2, x3, rfl⟩ := V.four h4
  obtain ⟨y0, y1, y2, y3, rfl⟩ := V.four hl
  have s0 := Blk.setc hb 0 (by simp [ks]) (.int .u64 (y0 : Int))
  have s1 := Blk.setc s0 1 (by simp [ks]) (.int .u64 (y1 : Int))
  have s2 := Blk.setc s1 2 (by simp [ks]) (.int .u64 (y2 : Int))
  have s3 := Blk.setc s2 3 (by simp [ks]) (.int .u64 (y3 : Int))
  exact s3
end

set_option maxHeartbeats 4000000 in
theorem sget_any (s : ByteArray) (b : Bool) (l : List Nat) (d : Int) (t : ByteArray) (b' : Bool) (w : World) (hs : s.size ≤ maxLen) (h : T.gets s b = (l, d, t, b')) :
    Calls Try.prog 68 #[.agg #[.string s, .bool b]] w fun e w' => e = .returned (.tuple #[SV l d, .agg #[.string t, .bool b']]) ∧ Below w.heap.size w w' := by
  rcases hv : P.RN s b 1 with ⟨n, t0, c0⟩
  have hn := T.RN_lt s b n t0 c0 hv
  have hz0 : t0.size ≤ maxLen := by have := Pk.RN_size s b 1; rw [hv] at this; exact Nat.le_trans this hs
  have C1 := Lib.hid (fun w => Pk.rnumber_any s b 1 n t0 c0 w hs hv)
  rcases hg0 : V.gets t0 c0 with ⟨m, t1, c1⟩
  have hm : m.length = 4 := by have := (V.gets_ok t0 c0).1.len; rw [hg0] at this; exact this
  have C2 := Lib.hid (fun w => get_any t0 c0 m t1 c1 w hz0 hg0)
  have HG : Hid ((if c1 = true ∨ T.right m (n : Int) = false then (V.zeros, (0 : Int), (⟨#[]⟩ : ByteArray), true) else (m, (n : Int), t1, c1)) = (l, d, t, b')) := by
    have hh := h
    unfold T.gets at hh
    rw [hv, hg0] at hh
    exact hh
  have CR := Lib.hid (fun w => sright_any m (n : Int) w hm)
  have HM := Lib.hid hm
  have HI := Lib.hid (size_v hm)
  have HSn := Lib.hid (size_s (d := (n : Int)) hm)
  have HLn := Lib.hid (sv_len (d := (n : Int)) hm)
  have hw : IntKind.i64.wrap (n : Int) = (n : Int) := wrapi (by omega) (by omega)
  clear h hs hv hg0 hz0 hm hn
  go_enter Try.func68, Try.ntmps68
  go_wp2_with (first | refine blk_box rfl 94 _ rfl [.string s, .bool b] rfl ?_)
  intro w1 A1 B1 Z1
  go_wp2_with (first | refine blk_alloc rfl 30 (ks .u64 (List.replicate 4 0) ++ [Value.int .i64 0]) rfl Try.info_s ?_)
  intro w2 A2 B2 Z2
  go_wp2_with (first | refine blk_alloc rfl 94 [.string ⟨#[]⟩, .bool false] rfl Try.info_rd ?_)
  intro w3 A3 B3 Z3
  have HA3 : Hid (Blk w3 w.heap.size [.string s, .bool b]) := (A1.below B2 (by omega)).below B3 (by omega)
  have HB3 : Hid (Blk w3 (w.heap.size + 1) (ks .u64 (List.replicate 4 0) ++ [Value.int .i64 0])) := A2.below B3 (by omega)
  have HC3 : Hid (Blk w3 (w.heap.size + 2) [.string ⟨#[]⟩, .bool false]) := A3
  have HW3 : Hid (Below w.heap.size w w3) := B1.trans ((B2.mono (by omega)).trans (B3.mono (by omega)))
  have HZ3 : Hid (w.heap.size + 2 < w3.heap.size) := by show _ < _; omega
  clear A1 B1 A2 B2 A3 B3 Z1 Z2 Z3
  go_wp2_with (first | refine blk_load rfl 94 _ rfl w.heap.size rfl [.string s, .bool b] HA3.out _ Try.underlying94 rfl Try.size_rd ?_)
  refine (C1.out _).mono ?_; rintro e w4 ⟨rfl, hb4⟩
  have hz3 := HZ3.out
  have HA4 : Hid (Blk w4 w.heap.size [.string s, .bool b]) := Blk.below HA3.out hb4 (by omega)
  have HB4 : Hid (Blk w4 (w.heap.size + 1) (ks .u64 (List.replicate 4 0) ++ [Value.int .i64 0])) := Blk.below HB3.out hb4 (by omega)
  have HC4 : Hid (Blk w4 (w.heap.size + 2) [.string ⟨#[]⟩, .bool false]) := Blk.below HC3.out hb4 (by omega)
  have HW4 : Hid (Below w.heap.size w w4) := Below.trans HW3.out (hb4.mono HW3.out.size)
  have HZ4 : Hid (w.heap.size + 2 < w4.heap.size) := Nat.lt_of_lt_of_le hz3 hb4.size
  clear hb4 hz3 HA3 HB3 HC3 HW3 HZ3 C1
  go_wp2_with (first | refine blk_store rfl 94 _ _ rfl w.heap.size rfl [.string t0, .bool c0] rfl _ HA4.out rfl Try.size_rd rfl ?_)
  intro w5 A U
  have HA5 : Hid (Blk w5 w.heap.size [.string t0, .bool c0]) := A
  have hB5 := Blk.upd HB4.out U (by omega)
  have HC5 : Hid (Blk w5 (w.heap.size + 2) [.string ⟨#[]⟩, .bool false]) := Blk.upd HC4.out U (by omega)
  have HW5 : Hid (Below w.heap.size w w5) := Below.trans HW4.out (U.below (by omega))
  have HZ5 : Hid (w.heap.size + 2 < w5.heap.size) := by show _ < _; rw [U.size]; exact HZ4.out
  have cd : w5.cell? ⟨w.heap.size + 1, 4, none⟩ = some (.int .i64 0) := dc_cell hB5 rfl
  have cf : w5.frozen? ⟨w.heap.size + 1, 4, none⟩ = false := hB5.free 4 (by decide)
  have HB6 : Hid (Blk (w5.setCell ⟨w.heap.size + 1, 4, none⟩ (.int .i64 (n : Int))) (w.heap.size + 1) (ks .u64 (List.replicate 4 0) ++ [Value.int .i64 (n : Int)])) := Blk.setc hB5 4 (by decide) (.int .i64 (n : Int))
  have U6 : Upd (w.heap.size + 1) w5 (w5.setCell ⟨w.heap.size + 1, 4, none⟩ (.int .i64 (n : Int))) := Upd.setCell _ _ _ _
  have HA6 : Hid (Blk (w5.setCell ⟨w.heap.size + 1, 4, none⟩ (.int .i64 (n : Int))) w.heap.size [.string t0, .bool c0]) := Blk.upd HA5.out U6 (by omega)
  have HC6 : Hid (Blk (w5.setCell ⟨w.heap.size + 1, 4, none⟩ (.int .i64 (n : Int))) (w.heap.size + 2) [.string ⟨#[]⟩, .bool false]) := Blk.upd HC5.out U6 (by omega)
  have HW6 : Hid (Below w.heap.size w (w5.setCell ⟨w.heap.size + 1, 4, none⟩ (.int .i64 (n : Int)))) := Below.trans HW5.out (U6.below (by omega))
  have HZ6 : Hid (w.heap.size + 2 < (w5.setCell ⟨w.heap.size + 1, 4, none⟩ (.int .i64 (n : Int))).heap.size) := by show _ < _; rw [U6.size]; exact HZ5.out
  clear A U U6 hB5 HA4 HB4 HC4 HW4 HZ4 HA5 HC5 HW5 HZ5
  go_wp2_with (first | refine blk_load rfl 94 _ rfl w.heap.size rfl [.string t0, .bool c0] HA6.out _ Try.underlying94 rfl Try.size_rd ?_)
  refine (C2.out _).mono ?_; rintro e w7 ⟨rfl, hb7⟩
  have hz6 := HZ6.out
  have HA7 : Hid (Blk w7 w.heap.size [.string t0, .bool c0]) := Blk.below HA6.out hb7 (by omega)
  have HB7 : Hid (Blk w7 (w.heap.size + 1) (ks .u64 (List.replicate 4 0) ++ [Value.int .i64 (n : Int)])) := Blk.below HB6.out hb7 (by omega)
  have HC7 : Hid (Blk w7 (w.heap.size + 2) [.string ⟨#[]⟩, .bool false]) := Blk.below HC6.out hb7 (by omega)
  have HW7 : Hid (Below w.heap.size w w7) := Below.trans HW6.out (hb7.mono HW6.out.size)
  have HZ7 : Hid (w.heap.size + 2 < w7.heap.size) := Nat.lt_of_lt_of_le hz6 hb7.size
  clear hb7 hz6 HA6 HB6 HC6 HW6 HZ6 C2 cd cf
  go_wp2_with (first | refine row_store rfl 28 _ _ rfl (w.heap.size + 1) rfl m rfl _ _ HB7.out rfl HM.out HI.out ?_)
  intro w8 A U
  have HB8 : Hid (Blk w8 (w.heap.size + 1) (ks .u64 m ++ [Value.int .i64 (n : Int)])) := A
  have HA8 : Hid (Blk w8 w.heap.size [.string t0, .bool c0]) := Blk.upd HA7.out U (by omega)
  have HC8 : Hid (Blk w8 (w.heap.size + 2) [.string ⟨#[]⟩, .bool false]) := Blk.upd HC7.out U (by omega)
  have HW8 : Hid (Below w.heap.size w w8) := Below.trans HW7.out (U.below (by omega))
  have HZ8 : Hid (w.heap.size + 2 < w8.heap.size) := by show _ < _; rw [U.size]; exact HZ7.out
  clear A U HA7 HB7 HC7 HW7 HZ7
  go_wp2_with (first | refine blk_store rfl 94 _ _ rfl w.heap.size rfl [.string t1, .bool c1] rfl _ HA8.out rfl Try.size_rd rfl ?_)
  intro w9 A U
  have HA9 : Hid (Blk w9 w.heap.size [.string t1, .bool c1]) := A
  have HB9 : Hid (Blk w9 (w.heap.size + 1) (ks .u64 m ++ [Value.int .i64 (n : Int)])) := Blk.upd HB8.out U (by omega)
  have HC9 : Hid (Blk w9 (w.heap.size + 2) [.string ⟨#[]⟩, .bool false]) := Blk.upd HC8.out U (by omega)
  have HW9 : Hid (Below w.heap.size w w9) := Below.trans HW8.out (U.below (by omega))
  have HZ9 : Hid (w.heap.size + 2 < w9.heap.size) := by show _ < _; rw [U.size]; exact HZ8.out
  clear A U HA8 HB8 HC8 HW8 HZ8
  have cb := HA9.out.cell 1 (.bool c1) rfl
  cases c1 with
  | true =>
    have hg := HG.out
    rw [if_pos (Or.inl rfl)] at hg
    simp only [Prod.mk.injEq] at hg
    obtain ⟨rfl, rfl, rfl, rfl⟩ := hg
    clear HG CR
    go_wp2_with (first | refine blk_store rfl 30 _ _ rfl (w.heap.size + 1) rfl (ks .u64 (List.replicate 4 0) ++ [Value.int .i64 0]) rfl _ HB9.out (by rw [HLn.out]; rfl) Try.size_s rfl ?_)
    intro u A U
    have HA10 : Hid (Blk u (w.heap.size + 1) (ks .u64 (List.replicate 4 0) ++ [Value.int .i64 0])) := A
    have HC10 : Hid (Blk u (w.heap.size + 2) [.string ⟨#[]⟩, .bool false]) := Blk.upd HC9.out U (by omega)
    have HW10 : Hid (Below w.heap.size w u) := Below.trans HW9.out (U.below (by omega))
    clear A U
    go_wp2_with (first | refine blk_store rfl 94 _ _ rfl (w.heap.size + 2) rfl [.string ⟨#[]⟩, .bool true] rfl _ HC10.out rfl Try.size_rd rfl ?_)
    intro v B UV
    have HB11 : Hid (Blk v (w.heap.size + 2) [.string ⟨#[]⟩, .bool true]) := B
    have HV11 : Hid (Blk v (w.heap.size + 1) (ks .u64 (List.replicate 4 0) ++ [Value.int .i64 0])) := Blk.upd HA10.out UV (by omega)
    have HE11 : Hid (Below w.heap.size w v) := Below.trans HW10.out (UV.below (by omega))
    clear B UV
    go_wp2_with fail
    refine bodyPost_ret (v := .tuple #[SV V.zeros 0, .agg #[.string ⟨#[]⟩, .bool true]]) ?_ rfl ⟨rfl, HE11.out⟩
    exact res_two Try.results68 _ (w.heap.size + 1) (w.heap.size + 2) rfl rfl _ HV11.out _ Try.underlying30 rfl Try.size_s _ HB11.out _ Try.underlying94 rfl Try.size_rd
  | false =>
    cases hr : T.right m (n : Int) with
    | false =>
      rw [hr] at CR
      have hg := HG.out
      rw [if_pos (Or.inr hr)] at hg
      simp only [Prod.mk.injEq] at hg
      obtain ⟨rfl, rfl, rfl, rfl⟩ := hg
      clear HG hr
      go_wp2_with (first | refine blk_loadg rfl 30 _ rfl (w.heap.size + 1) rfl _ HB9.out _ Try.underlying30 rfl HSn.out ?_)
      refine (CR.out _).mono ?_; rintro e w10 ⟨rfl, hb10⟩
      have hz9 := HZ9.out
      have HB12 : Hid (Blk w10 (w.heap.size + 1) (ks .u64 m ++ [Value.int .i64 (n : Int)])) := Blk.below HB9.out hb10 (by omega)
      have HC12 : Hid (Blk w10 (w.heap.size + 2) [.string ⟨#[]⟩, .bool false]) := Blk.below HC9.out hb10 (by omega)
      have HW12 : Hid (Below w.heap.size w w10) := Below.trans HW9.out (hb10.mono HW9.out.size)
      clear hb10 hz9 HA9 HB9 HC9 HW9 HZ9 cb
      go_wp2_with (first | refine blk_store rfl 30 _ _ rfl (w.heap.size + 1) rfl (ks .u64 (List.replicate 4 0) ++ [Value.int .i64 0]) rfl _ HB12.out (by rw [HLn.out]; rfl) Try.size_s rfl ?_)
      intro u A U
      have HA10 : Hid (Blk u (w.heap.size + 1) (ks .u64 (List.replicate 4 0) ++ [Value.int .i64 0])) := A
      have HC10 : Hid (Blk u (w.heap.size + 2) [.string ⟨#[]⟩, .bool false]) := Blk.upd HC12.out U (by omega)
      have HW10 : Hid (Below w.heap.size w u) := Below.trans HW12.out (U.below (by omega))
      clear A U
      go_wp2_with (first | refine blk_store rfl 94 _ _ rfl (w.heap.size + 2) rfl [.string ⟨#[]⟩, .bool true] rfl _ HC10.out rfl Try.size_rd rfl ?_)
      intro v B UV
      have HB11 : Hid (Blk v (w.heap.size + 2) [.string ⟨#[]⟩, .bool true]) := B
      have HV11 : Hid (Blk v (w.heap.size + 1) (ks .u64 (List.replicate 4 0) ++ [Value.int .i64 0])) := Blk.upd HA10.out UV (by omega)
      have HE11 : Hid (Below w.heap.size w v) := Below.trans HW10.out (UV.below (by omega))
      clear B UV
      go_wp2_with fail
      refine bodyPost_ret (v := .tuple #[SV V.zeros 0, .agg #[.string ⟨#[]⟩, .bool true]]) ?_ rfl ⟨rfl, HE11.out⟩
      exact res_two Try.results68 _ (w.heap.size + 1) (w.heap.size + 2) rfl rfl _ HV11.out _ Try.underlying30 rfl Try.size_s _ HB11.out _ Try.underlying94 rfl Try.size_rd
    | true =>
      rw [hr] at CR
      have hg := HG.out
      rw [if_neg (by simp [hr])] at hg
      simp only [Prod.mk.injEq] at hg
      obtain ⟨rfl, rfl, rfl, rfl⟩ := hg
      clear HG hr
      go_wp2_with (first | refine blk_loadg rfl 30 _ rfl (w.heap.size + 1) rfl _ HB9.out _ Try.underlying30 rfl HSn.out ?_)
      refine (CR.out _).mono ?_; rintro e w10 ⟨rfl, hb10⟩
      have hz9 := HZ9.out
      have HA12 : Hid (Blk w10 w.heap.size [.string t1, .bool false]) := Blk.below HA9.out hb10 (by omega)
      have HB12 : Hid (Blk w10 (w.heap.size + 1) (ks .u64 m ++ [Value.int .i64 (n : Int)])) := Blk.below HB9.out hb10 (by omega)
      have HC12 : Hid (Blk w10 (w.heap.size + 2) [.string ⟨#[]⟩, .bool false]) := Blk.below HC9.out hb10 (by omega)
      have HW12 : Hid (Below w.heap.size w w10) := Below.trans HW9.out (hb10.mono HW9.out.size)
      clear hb10 hz9 HA9 HB9 HC9 HW9 HZ9 cb
      go_wp2_with fail
      obtain ⟨x0, x1, x2, x3, rfl⟩ := V.four HM.out
      have a0 := vec_cell HB12.out 0 (by simp)
      have a1 := vec_cell HB12.out 1 (by simp)
      have a2 := vec_cell HB12.out 2 (by simp)
      have a3 := vec_cell HB12.out 3 (by simp)
      have a4 := dc_cell HB12.out rfl
      have f0 := HB12.out.free 0 (by simp [ks])
      have f1 := HB12.out.free 1 (by simp [ks])
      have f2 := HB12.out.free 2 (by simp [ks])
      have f3 := HB12.out.free 3 (by simp [ks])
      have f4 := HB12.out.free 4 (by simp [ks])
      have r0 := HA12.out.cell 0 _ rfl
      have r1 := HA12.out.cell 1 _ rfl
      have o0 := HC12.out.cell 0 _ rfl
      have o1 := HC12.out.cell 1 _ rfl
      have g0 := HC12.out.free 0 (by simp)
      have g1 := HC12.out.free 1 (by simp)
      simp only [List.getD_cons_zero, List.getD_cons_succ] at a0 a1 a2 a3
      go_region
      all_goals
        have U9 : Upd (w.heap.size + 1) w10 (w10.setCells (w.heap.size + 1) 0 (ks .u64 [x0, x1, x2, x3] ++ [Value.int .i64 (n : Int)])) := Upd.setCells _ _ _ _
        have HA9 : Blk (w10.setCells (w.heap.size + 1) 0 (ks .u64 [x0, x1, x2, x3] ++ [Value.int .i64 (n : Int)])) (w.heap.size + 1) (ks .u64 [x0, x1, x2, x3] ++ [Value.int .i64 (n : Int)]) := Blk.store HB12.out _ rfl
        have HC9 : Blk (w10.setCells (w.heap.size + 1) 0 (ks .u64 [x0, x1, x2, x3] ++ [Value.int .i64 (n : Int)])) (w.heap.size + 2) [.string ⟨#[]⟩, .bool false] := Blk.upd HC12.out U9 (by omega)
        have U10 : Upd (w.heap.size + 2) _ ((w10.setCells (w.heap.size + 1) 0 (ks .u64 [x0, x1, x2, x3] ++ [Value.int .i64 (n : Int)])).setCells (w.heap.size + 2) 0 [.string t1, .bool false]) := Upd.setCells _ _ _ _
        have HB10 : Hid (Blk ((w10.setCells (w.heap.size + 1) 0 (ks .u64 [x0, x1, x2, x3] ++ [Value.int .i64 (n : Int)])).setCells (w.heap.size + 2) 0 [.string t1, .bool false]).drew (w.heap.size + 2) [.string t1, .bool false]) := (HC9.store [.string t1, .bool false] rfl).drew
        have HA10 : Hid (Blk ((w10.setCells (w.heap.size + 1) 0 (ks .u64 [x0, x1, x2, x3] ++ [Value.int .i64 (n : Int)])).setCells (w.heap.size + 2) 0 [.string t1, .bool false]).drew (w.heap.size + 1) (ks .u64 [x0, x1, x2, x3] ++ [Value.int .i64 (n : Int)])) := (Blk.upd HA9 U10 (by omega)).drew
        have HW10 : Hid (Below w.heap.size w ((w10.setCells (w.heap.size + 1) 0 (ks .u64 [x0, x1, x2, x3] ++ [Value.int .i64 (n : Int)])).setCells (w.heap.size + 2) 0 [.string t1, .bool false]).drew) := ((Below.trans HW12.out (U9.below (by omega))).trans (U10.below (by omega))).drew
        clear U9 HA9 HC9 U10 a0 a1 a2 a3 a4 f0 f1 f2 f3 f4 r0 r1 o0 o1 g0 g1
        go_wp2_with fail
        refine bodyPost_ret (v := .tuple #[SV [x0, x1, x2, x3] (n : Int), .agg #[.string t1, .bool false]]) ?_ rfl ⟨rfl, HW10.out⟩
        exact res_two Try.results68 _ (w.heap.size + 1) (w.heap.size + 2) rfl rfl _ HA10.out _ Try.underlying30 rfl HSn.out _ HB10.out _ Try.underlying94 rfl Try.size_rd
end Go.Proofs.Ytkfcbihofipcbaa.Sp
