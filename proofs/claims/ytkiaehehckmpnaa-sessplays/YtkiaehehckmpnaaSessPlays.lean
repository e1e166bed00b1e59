/-
  Sessions see, begin, write, end, deed by deed, as the chapter says (the law SessPlays). No conditions.
-/
import Derived.Test.YtkiaehehckmpnaaFrame

import Derived.Test.YtkiaehehckmpnaaSessPl

import Derived.Deep.DeepCutAuto

import Derived.Deep.CutBlock

import Derived.Test.YtkiaehehckmpnaaFrameDeed14

import Derived.Test.YtkiaehehckmpnaaFrameVecN

namespace Go.Proofs.Ytkiaehehckmpnaa.sessPlays

open Go.ChangeShapes Go.WideShapes Go.ChangeAt Go.RowKit

open Go.ChangeMaps (open_string shut_string)

set_option linter.unusedVariables false

set_option linter.unusedSimpArgs false

open Go.Proofs.Ytkiaehehckmpnaa.Vc Go.Proofs.Ytkiaehehckmpnaa.Sp Go.Proofs.Ytkiaehehckmpnaa.Rw Go.Proofs.Ytkiaehehckmpnaa.Se Go.Proofs.Ytkiaehehckmpnaa.It Go.Proofs.Ytkiaehehckmpnaa.Z Go.Proofs.Ytkiaehehckmpnaa.Zm

theorem Try.info_dtab : (Try.prog.info? 38).map (fun i => (i.zero, i.size)) = some (some (.agg (cT (List.replicate 9 (nos, nil_))).toArray), (cT (List.replicate 9 (nos, nil_))).length) := by kernel_rfl
theorem Try.elem_dd : Try.prog.elem 22 = 45 := by kernel_rfl
theorem index_dd (b o n cap j : Nat) (hj : j < n) (w : World) : (Instr.indexAt 22 (.slice (some ⟨b, o, none⟩) n cap) (.int .i64 (j : Int))).run Try.prog w = .ok (.pointer (some ⟨b, o + 14 * j, none⟩)) w := run_index Try.elem_dd Try.underlying22 Try.sizeOf45 b o n cap j hj w
theorem size_dd : (Try.prog.info? 45).map (·.size) = some 14 := by kernel_rfl
theorem Try.info_dd : (Try.prog.info? 45).map (fun i => (i.zero, i.size)) = some (some (.agg (ddk.cf ddk.none_).toArray), 14) := by kernel_rfl
theorem size_vp : (Try.prog.info? 27).map (·.size) = some 5 := by kernel_rfl
theorem size_pp : (Try.prog.info? 43).map (·.size) = some 6 := by kernel_rfl
theorem tmod4 (x : Int) (h : (Lit.int .i64 x).wf = true) : IntKind.i64.wrap (x.tmod 4) = x.tmod 4 ∧ (Lit.int .i64 (x.tmod 4)).wf = true := by
  have h1 : -9223372036854775808 ≤ x ∧ x ≤ 9223372036854775807 := by simpa [Lit.wf, IntKind.min, IntKind.max, IntKind.signed, IntKind.bits] using h
  have h2 : -4 < x.tmod 4 ∧ x.tmod 4 < 4 := ⟨by have := Int.lt_tmod_of_pos x (b := 4) (by decide); omega, Int.tmod_lt_of_pos x (by decide)⟩
  refine ⟨by rw [IntKind.wrap_i64]; omega, ?_⟩
  simp [Lit.wf, IntKind.min, IntKind.max, IntKind.signed, IntKind.bits]
  omega
theorem isr_row4 {w : World} {v : Value} {n cap : Nat} {sa : Option Addr} {L : List I.Wt} (h : IsR wk w (.slice sa n cap) L) (i : Nat) (hi : i < L.length) : ∃ g o, sa = some ⟨g, o, none⟩ ∧ g < w.heap.size ∧ w.rangeAt g (o + 4 * i) (wc (L.getD i I.none_)) := by
  obtain ⟨g, o, c, hv, hg, hrow⟩ := IsR.at h i hi
  simp only [Value.slice.injEq] at hv
  exact ⟨g, o, hv.1, hg, hrow⟩
theorem split14 {w : World} {b : Nat} {x : Dd} (h : Blk w b (ddk.cf x)) (hx : x.v.1.length = 4) : w.cell? ⟨b, 0, none⟩ = some (.int .u8 (x.kind : Int)) ∧ w.cell? ⟨b, 1, none⟩ = some (.int .i64 x.id) ∧ w.rangeAt b 2 (ks .u64 x.v.1 ++ [Value.bool x.v.2]) ∧ w.rangeAt b 7 (wc x.p.1 ++ [Value.bool x.p.2.1, Value.int .u8 (x.p.2.2 : Int)]) ∧ w.cell? ⟨b, 13, none⟩ = some (.bool x.near) := by
  refine ⟨h.cell 0 _ rfl, h.cell 1 _ rfl, ?_, ?_, h.cell 13 _ rfl⟩
  · rw [← vpcell_eq hx]
    intro j v hv
    have hj := (List.getElem?_eq_some_iff.1 hv).1
    have hj5 : j < 5 := hj
    refine h.cell (2 + j) v ?_
    match j, hj5 with
    | 0, _ => exact hv
    | 1, _ => exact hv
    | 2, _ => exact hv
    | 3, _ => exact hv
    | 4, _ => exact hv
  · intro j v hv
    have hj := (List.getElem?_eq_some_iff.1 hv).1
    have hj6 : j < 6 := hj
    refine h.cell (7 + j) v ?_
    match j, hj6 with
    | 0, _ => exact hv
    | 1, _ => exact hv
    | 2, _ => exact hv
    | 3, _ => exact hv
    | 4, _ => exact hv
    | 5, _ => exact hv
theorem or_first {t : TypeId} {w : World} {base : Nat} {v : Value} {L : List I.Wt} (h : OR wk t w base v L) : ∃ sa cap, v = .slice sa L.length cap ∧ (0 < L.length → ∃ g, sa = some ⟨g, 0, none⟩) := by
  rcases h.row with ⟨e, e2⟩ | ⟨g, cap, cur, e, _⟩
  · exact ⟨none, 0, by rw [e, e2]; rfl, fun h => by rw [e2] at h; simp at h⟩
  · exact ⟨_, cap, e, fun _ => ⟨g, rfl⟩⟩
theorem isr_at4 {w : World} {g n cap : Nat} {L : List I.Wt} (h : IsR wk w (.slice (some ⟨g, 0, none⟩) n cap) L) (i : Nat) (hi : i < L.length) : g < w.heap.size ∧ w.rangeAt g (4 * i) (wc (L.getD i I.none_)) := by
  obtain ⟨g', off', cap', hv, hg, hrow⟩ := IsR.at h i hi
  simp only [Value.slice.injEq, Option.some.injEq, Addr.mk.injEq, and_true] at hv
  obtain ⟨⟨rfl, rfl⟩, -, rfl⟩ := hv
  refine ⟨hg, fun j v hv => ?_⟩
  have := hrow j v hv
  rwa [Nat.zero_add] at this
theorem info_rv4 : (Try.prog.info? 32).map (fun i => (i.zero, i.size)) = some (some (.agg (ks .u64 [0, 0, 0, 0]).toArray), (ks .u64 [0, 0, 0, 0]).length) := by kernel_rfl
section

variable {w0 w : World} {b d : Nat} {S D : List Ss} {R : List Rg}

theorem q_snap (h : Zm.Pl w0 w b d S D R) (id : Int) : Calls Try.prog 23 #[.pointer (some ⟨d, 0, none⟩), .int .i64 id] w fun e w' => e = .returned (.tuple #[AV .u64 (norm (gt D id)).snap, .bool (gt D id).opn]) ∧ Below w.heap.size w w' := by
  obtain ⟨Q, hT, hk⟩ := h.doc
  exact dsnap_any hT id
theorem q_own (h : Zm.Pl w0 w b d S D R) (id : Int) (bk ky : ByteArray) : Calls Try.prog 25 #[.pointer (some ⟨d, 0, none⟩), .int .i64 id, .string bk, .string ky] w fun e w' => e = .returned (.tuple #[WV (ownV (norm (gt D id)).wr (bk, ky)), .bool (ownB (norm (gt D id)).wr (bk, ky))]) ∧ Below w.heap.size w w' := by
  obtain ⟨Q, hT, hk⟩ := h.doc
  exact down_any hT id bk ky
theorem q_writes (h : Zm.Pl w0 w b d S D R) (id : Int) : Calls Try.prog 27 #[.pointer (some ⟨d, 0, none⟩), .int .i64 id] w fun e w' => ∃ v', e = .returned v' ∧ OR wk 56 w' 0 v' (norm (gt D id)).wr ∧ Below w.heap.size w w' := by
  obtain ⟨Q, hT, hk⟩ := h.doc
  exact (dwrites_any hT id).mono fun e w' ⟨v, he, ho, hw⟩ => ⟨v, he, by rw [hw]; exact ho, by rw [hw]; exact Below.refl _ _⟩
theorem q_seen (h : Zm.Pl w0 w b d S D R) (id : Int) : Calls Try.prog 29 #[.pointer (some ⟨d, 0, none⟩), .int .i64 id] w fun e w' => e = .returned (AV .u64 (gt D id).seen) ∧ Below w.heap.size w w' := by
  obtain ⟨Q, hT, hk⟩ := h.doc
  exact dseen_any hT id
theorem q_hor (h : Zm.Pl w0 w b d S D R) (l : List Nat) (hl : V.Ok l) : Calls Try.prog 31 #[.pointer (some ⟨d, 0, none⟩), AV .u64 l] w fun e w' => e = .returned (AV .u64 (horizon D l)) ∧ Below w.heap.size w w' := by
  obtain ⟨Q, hT, hk⟩ := h.doc
  exact dhor_any hT l hl
theorem q_many (h : Zm.Pl w0 w b d S D R) : Calls Try.prog 33 #[.pointer (some ⟨d, 0, none⟩)] w fun e w' => e = .returned (.int .i64 (many D : Int)) ∧ Below w.heap.size w w' := by
  obtain ⟨Q, hT, hk⟩ := h.doc
  exact dmany_any hT
end

set_option maxHeartbeats 64000000 in
set_option maxRecDepth 100000 in
theorem walk (dv0 : Value) (DL0 : List Dd) (a1 : List Nat) (o1 : Bool) (w1 : V.Ok a1) (w : World) (w0 : Rw.IsR ddk w dv0 DL0) (m0 : ∀ x ∈ DL0, DOk x) :
    Calls Try.prog 3 #[dv0, VV a1 o1] w fun e w' => e = .returned (.bool true) ∧ Below w.heap.size w w' := by
  obtain ⟨sx, cx, rfl, hcx, hmx, _⟩ := w0.is
  have HDW := Lib.hid w0
  have HDM := Lib.hid m0
  obtain ⟨n, HN⟩ : ∃ n, Hid (DL0.length = n) := ⟨_, rfl⟩
  rw [HN.out] at HDW
  rw [HN.out]
  obtain ⟨at_, HAT⟩ : ∃ s, Hid (V.few a1 o1 = s) := ⟨_, rfl⟩
  have HAO : Hid (V.Ok at_) := by show V.Ok _; rw [← HAT.out]; exact V.few_ok w1 o1
  have CV := Lib.hid (fun u => vector_any a1 o1 u w1)
  rw [HAT.out] at CV
  have HSZ : Hid ((Try.prog.info? 25).map (·.size) = some (ks .u64 at_).length) := by show _ = _; rw [ks_length]; exact size_v HAO.out.1
  have HLN : Hid ((ks .u64 at_).length = (ks .u64 [0, 0, 0, 0]).length) := by show _ = _; rw [ks_length, HAO.out.1]; rfl
  have HSV5 : Hid ((Try.prog.info? 27).map (·.size) = some (ks .u64 a1 ++ [Value.bool o1]).length) := by show _ = _; rw [List.length_append, ks_length, w1.1]; exact size_vp
  clear hcx hmx m0 w0 w1
  go_enter Try.func3, Try.ntmps3
  go_wp2_with (first | refine blk_box rfl 27 _ rfl (ks .u64 a1 ++ [Value.bool o1]) rfl ?_)
  intro u1 A1 B1 Z1
  have S1 := Lib.hid ((Sep.start w).box B1 Z1 A1)
  clear A1 B1 Z1
  go_wp2_with fail
  refine (examples_any _).mono ?_; rintro e u2 ⟨rfl, hb⟩
  have CN := Lib.hid (newtab_any (S1.out.below hb))
  clear hb S1
  go_wp2_with fail
  refine (CN.out).mono ?_; rintro e u3 ⟨b, rfl, ht⟩
  have T3 := Lib.hid ht
  clear ht CN
  go_wp2_with (first | refine blk_box rfl 38 _ rfl (cT (List.replicate 9 (nos, nil_))) rfl ?_)
  intro w1 A B Z
  have H1 := Lib.hid (Zm.Pl.new T3.out B Z A)
  obtain ⟨d, HDD⟩ : ∃ d, Hid (u3.heap.size = d) := ⟨_, rfl⟩
  rw [HDD.out] at H1
  rw [HDD.out]
  clear A B Z T3 HDD
  go_wp2_with (first | refine blk_load rfl 27 _ rfl w.heap.size rfl (ks .u64 a1 ++ [Value.bool o1]) (H1.out.sep.blk 0 rfl) _ Try.underlying27 rfl HSV5.out ?_)
  refine (CV.out _).mono ?_; rintro e w2 ⟨rfl, hb⟩
  have H2 := Lib.hid (H1.out.below hb)
  clear hb H1
  go_wp2_with (first | refine blk_alloc rfl 25 (ks .u64 [0, 0, 0, 0]) rfl Try.info_v ?_)
  intro w3 A3 B3 Z3
  have HA := Lib.hid A3
  have HB := Lib.hid B3
  have HZ := Lib.hid Z3
  clear A3 B3 Z3
  go_wp2_with (first | refine blk_store rfl 25 _ _ rfl w2.heap.size rfl (ks .u64 at_) rfl (ks .u64 [0, 0, 0, 0]) HA.out HLN.out HSZ.out (ks_all _ _) ?_)
  intro w4 A4 U4
  have H4 := Lib.hid (H2.out.fresh HB.out HZ.out U4 A4)
  clear A4 U4 HA HB HZ H2
  obtain ⟨ba, HBA⟩ : ∃ ba, Hid (w2.heap.size = ba) := ⟨_, rfl⟩
  rw [HBA.out] at H4
  rw [HBA.out]
  have hnorm0 : S0 = S0.map norm := rfl
  have HL0 : Hid (∃ D, Zm.Pl w w4 b d (D.map norm) D [rB ba (ks .u64 at_)]) := ⟨S0, by rw [← hnorm0]; exact H4.out.sub (List.Sublist.cons_cons _ (List.nil_sublist _))⟩
  clear H4 HBA CV HSV5 hnorm0
  go_wp2_with fail
  go_loopw [9, 10, 11, 12, 13, 14, 15, 16, 17, 18, 19, 20, 21, 22, 23, 24, 25] (fun x y1 y2 y3 y4 y5 y6 y7 y8 y9 z1 z2 z3 z4 z5 z6 z7 wr => ∃ i : Nat, i ≤ 60 ∧ x = .int .i64 i ∧ Hid (∃ D, Zm.Pl w wr b d (D.map norm) D [rB ba (ks .u64 at_)])) (fun x _ _ _ _ _ _ _ _ _ _ _ _ _ _ _ _ _ => 60 - (intOf x).toNat)
  case atStart => exact ⟨0, by omega, rfl, HL0⟩
  case round =>
    obtain ⟨i, hi, rfl, HLr⟩ := hrel
    clear HL0
    by_cases k1 : i < n
    · have i1 : (i : Int) < (n : Int) := by omega
      by_cases k3 : i < 60
      · have i3 : (i : Int) < 60 := by omega
        obtain ⟨D, hP⟩ := HLr.out
        have H9 := Lib.hid hP
        have hbw := hP.under
        obtain ⟨g, off, cap', hv, hg, hrow⟩ := IsR.at (HDW.out.below hbw) i (by rw [HN.out]; exact k1)
        rw [HN.out] at hv
        simp only [Value.slice.injEq, true_and] at hv
        obtain ⟨rfl, rfl⟩ := hv
        have hD := HDM.out _ (List.mem_of_getElem? (getD_some (show i < DL0.length by rw [HN.out]; exact k1) ddk.none_))
        obtain ⟨x, hx⟩ : ∃ x, DL0.getD i ddk.none_ = x := ⟨_, rfl⟩
        rw [hx] at hrow hD
        have HRW : Hid (wr.rangeAt g (off + 14 * i) (ddk.cf x)) := hrow
        have HXO := Lib.hid hD
        have hixd : ∀ w, (Instr.indexAt 22 (.slice (some ⟨g, off, none⟩) n cx) (.int .i64 (i : Int))).run Try.prog w = .ok (.pointer (some ⟨g, off + 14 * i, none⟩)) w := fun w => index_dd g off n cx i k1 w
        have ei : IntKind.i64.wrap ((i : Int) + 1) = ((i + 1 : Nat) : Int) := by rw [IntKind.wrap_i64]; omega
        clear hbw hrow hD hx hP HLr hg
        go_wp2_with (first | refine mid_load rfl 45 _ rfl g (off + 14 * i) rfl (ddk.cf x) HRW.out _ Try.underlying45 rfl size_dd ?_ | refine blk_alloc rfl 45 (ddk.cf ddk.none_) rfl Try.info_dd ?_)
        intro w10 A B Z
        have HA := Lib.hid A
        have HB := Lib.hid B
        have HZ := Lib.hid Z
        clear A B Z
        go_wp2_with (first | refine blk_store rfl 45 _ _ rfl wr.heap.size rfl (ddk.cf x) rfl (ddk.cf ddk.none_) HA.out rfl size_dd (List.all_eq_true.2 (ddk.one x)) ?_)
        intro w11 A U
        have H11 := Lib.hid (H9.out.fresh HB.out HZ.out U A)
        obtain ⟨bu, HBU⟩ : ∃ bu, Hid (wr.heap.size = bu) := ⟨_, rfl⟩
        rw [HBU.out] at H11
        rw [HBU.out]
        clear A U HA HB HZ H9 HRW hixd HBU
        have HC := Lib.hid (split14 (H11.out.sep.blk 0 rfl) HXO.out.v.1)
        have c0 := HC.out.1
        have c1 := HC.out.2.1
        have c13 := HC.out.2.2.2.2
        obtain ⟨near, HNR⟩ : ∃ q, Hid (x.near = q) := ⟨_, rfl⟩
        rw [HNR.out] at c13
        obtain ⟨id0, HID0⟩ : ∃ q, Hid (x.id = q) := ⟨_, rfl⟩
        have hwf := HXO.out.id
        rw [HID0.out] at hwf c1
        obtain ⟨t4a, t4b⟩ := tmod4 id0 hwf
        obtain ⟨id, HID⟩ : ∃ id : Int, Hid ((if near = true then id0.tmod 4 else id0) = id) := ⟨_, rfl⟩
        obtain ⟨K, HK⟩ : ∃ K, Hid (x.kind = K) := ⟨_, rfl⟩
        have hK := HXO.out.kind
        rw [HK.out] at c0 hK
        obtain ⟨K10, hK10⟩ : ∃ q, K % 10 = q := ⟨_, rfl⟩
        have hKl : K10 < 10 := by omega
        have tk1 : (K : Int).tmod 10 = (K10 : Int) := by rw [Int.tmod_eq_emod_of_nonneg (by omega), ← hK10]; rfl
        have tk2 : (K : Int) % 10 = (K10 : Int) := by rw [← hK10]; rfl
        have tk3 : IntKind.u8.wrap (K10 : Int) = (K10 : Int) := by
          have h2 : (K10 : Int) % 256 = K10 := Int.emod_eq_of_lt (by omega) (by omega)
          simpa [IntKind.wrap, IntKind.bits, IntKind.signed] using h2
        obtain ⟨l, HLV⟩ : ∃ l, Hid (V.few x.v.1 x.v.2 = l) := ⟨_, rfl⟩
        have HLO : Hid (V.Ok l) := by show V.Ok _; rw [← HLV.out]; exact V.few_ok HXO.out.v x.v.2
        have CV := Lib.hid (fun u => vector_any x.v.1 x.v.2 u HXO.out.v)
        rw [HLV.out] at CV
        have HLZ : Hid ((Try.prog.info? 25).map (·.size) = some (ks .u64 l).length) := by show _ = _; rw [ks_length]; exact size_v HLO.out.1
        have HLZr : Hid ((Try.prog.info? 32).map (·.size) = some (ks .u64 l).length) := by show _ = _; rw [ks_length]; exact size_r HLO.out.1
        have HLL : Hid ((ks .u64 l).length = (ks .u64 [0, 0, 0, 0]).length) := by show _ = _; rw [ks_length, HLO.out.1]; rfl
        have HV5 : Hid ((Try.prog.info? 27).map (·.size) = some (ks .u64 x.v.1 ++ [Value.bool x.v.2]).length) := by show _ = _; rw [List.length_append, ks_length, HXO.out.v.1]; exact size_vp
        obtain ⟨y, HYV⟩ : ∃ y, Hid (I.putW x.p.1 x.p.2.1 x.p.2.2 = y) := ⟨_, rfl⟩
        have CW := Lib.hid (fun u => It.write_any x.p.1 x.p.2.1 x.p.2.2 u HXO.out.p.2 (by have := HXO.out.p.1.v; unfold maxLen; omega))
        rw [HYV.out] at CW
        have HR2 := Lib.hid HC.out.2.2.1
        clear hwf hK hK10
        have HKL := Lib.hid hKl
        have HP7 := Lib.hid HC.out.2.2.2.1
        have hit4 : near = true → id = id0.tmod 4 := fun h => by rw [← HID.out, if_pos h]
        have hif4 : near = false → id = id0 := fun h => by rw [← HID.out, h]; rfl
        have HI4 := Lib.hid hit4
        have HI5 := Lib.hid hif4
        clear hit4 hif4 HID
        go_upto_if 53 with fail
        go_cut [11] from 36 to 223 (fun f wx => f = .int .i64 id ∧ w11 = wx)
        case first =>
          cases near with
          | false =>
            obtain rfl : id = id0 := HI5.out rfl
            go_wp2_with fail
            go_meet
            exact ⟨rfl, rfl⟩
          | true =>
            obtain rfl : id = id0.tmod 4 := HI4.out rfl
            go_wp2_with fail
            go_meet
            exact ⟨by first | rfl | go_num, rfl⟩
        case rest =>
        obtain ⟨rfl, rfl⟩ := hcut
        clear HI4 HI5 HNR HID0 t4a t4b c1 c13
        go_wp2_with (first | refine mid_load rfl 27 _ rfl bu 2 rfl (ks .u64 x.v.1 ++ [Value.bool x.v.2]) HR2.out _ Try.underlying27 rfl HV5.out ?_)
        refine (CV.out _).mono ?_; rintro e w12 ⟨rfl, hb⟩
        have H12 := Lib.hid (H11.out.below hb)
        clear hb H11
        go_wp2_with (first | refine blk_alloc rfl 25 (ks .u64 [0, 0, 0, 0]) rfl Try.info_v ?_)
        intro w13 A13 B13 Z13
        have HA := Lib.hid A13
        have HB := Lib.hid B13
        have HZ := Lib.hid Z13
        clear A13 B13 Z13
        go_wp2_with (first | refine blk_store rfl 25 _ _ rfl w12.heap.size rfl (ks .u64 l) rfl (ks .u64 [0, 0, 0, 0]) HA.out HLL.out HLZ.out (ks_all _ _) ?_)
        intro w14 A14 U14
        have H14 := Lib.hid (H12.out.fresh HB.out HZ.out U14 A14)
        clear A14 U14 HA HB HZ H12
        obtain ⟨bv, HBV⟩ : ∃ q, Hid (w12.heap.size = q) := ⟨_, rfl⟩
        rw [HBV.out] at H14
        rw [HBV.out]
        have HP7 := Lib.hid (split14 (H14.out.sep.blk 1 rfl) HXO.out.v.1).2.2.2.1
        clear HBV CV HR2 HC
        go_wp2_with (first | refine mid_load rfl 43 _ rfl bu 7 rfl (wc x.p.1 ++ [Value.bool x.p.2.1, Value.int .u8 (x.p.2.2 : Int)]) HP7.out _ Try.underlying43 rfl size_pp ?_)
        refine (CW.out _).mono ?_; rintro e w15 ⟨rfl, hb⟩
        have H15 := Lib.hid (H14.out.below hb)
        clear hb H14
        go_wp2_with (first | refine blk_alloc rfl 41 (wc I.none_) rfl It.Try.info_iw2 ?_)
        intro w16 A16 B16 Z16
        have HA := Lib.hid A16
        have HB := Lib.hid B16
        have HZ := Lib.hid Z16
        clear A16 B16 Z16
        go_wp2_with (first | refine blk_store rfl 41 _ _ rfl w15.heap.size rfl (wc y) rfl (wc I.none_) HA.out rfl It.Try.size_w (It.one_wc y) ?_)
        intro w17 A17 U17
        have H17 := Lib.hid (H15.out.fresh HB.out HZ.out U17 A17)
        clear A17 U17 HA HB HZ H15
        obtain ⟨bw, HBW⟩ : ∃ q, Hid (w15.heap.size = q) := ⟨_, rfl⟩
        rw [HBW.out] at H17
        rw [HBW.out]
        have c0 := (split14 (H17.out.sep.blk 2 rfl) HXO.out.v.1).1
        rw [HK.out] at c0
        clear HBW CW HP7
        go_upto_block 2 with fail
        go_cut [14] from 36 to 223 (fun fv wx => fv = .bool true ∧ ∃ D', Hid (Zm.Pl w wx b d (D'.map norm) D' [rB bw (wc y), rB bv (ks .u64 l), rB bu (ddk.cf x), rB ba (ks .u64 at_)]))
        case first =>
          rcases (show K10 = 0 ∨ K10 = 1 ∨ K10 = 2 ∨ K10 = 3 ∨ K10 = 4 ∨ K10 = 5 ∨ K10 = 6 ∨ K10 = 7 ∨ K10 = 8 ∨ K10 = 9 by have := HKL.out; omega) with rfl | rfl | rfl | rfl | rfl | rfl | rfl | rfl | rfl | rfl
          · as_aux_lemma =>
              have HE := Lib.hid (errBeg_norm D id l)
              have HN9 := Lib.hid (beg_norm D id l)
              have HPd := Lib.hid (H17.out.below (Below.refl _ _).drew)
              have C1 := Lib.hid (p_begin HPd.out id l HLO.out)
              obtain ⟨er, HER⟩ : ∃ er, Hid (errBeg D id l = er) := ⟨_, rfl⟩
              rw [HE.out, HER.out] at C1
              have hee : (er == er) = true := beq_self_eq_true er
              go_wp2_with fail
              refine region_pickC (fun u => Blk u bv (ks .u64 l)) 10 [0, 1, 2, 4, 5, 6] [3, 7, 8, 9] Try.mixed (by kernel_rfl) rfl (by kernel_rfl) (HPd.out.sep.blk 1 rfl) ?_
              refine p_readC rfl ?_
              refine c_move rfl _ rfl (.pointer (some ⟨b, 0, none⟩)) rfl (fun _ _ _ h => h) (fun K hK => ?_)
              go_simp
              refine hK _ ?_
              clear hK K
              refine c_nil ?_
              refine p_readC rfl ?_
              refine c_move rfl _ rfl (.int .i64 id) rfl (fun _ _ _ h => h) (fun K hK => ?_)
              go_simp
              refine hK _ ?_
              clear hK K
              refine c_nil ?_
              refine p_readC rfl ?_
              refine ct_mid_load rfl 25 _ rfl bv 0 rfl (ks .u64 l) (fun u hu => hu.1) _ Try.underlying25 rfl HLZ.out (fun _ _ _ h => h) (fun K hK => ?_)
              go_simp
              refine hK _ ?_
              clear hK K
              refine c_nil ?_
              refine p_readC rfl ?_
              refine c_move rfl _ rfl (.pointer (some ⟨d, 0, none⟩)) rfl (fun _ _ _ h => h) (fun K hK => ?_)
              go_simp
              refine hK _ ?_
              clear hK K
              refine c_nil ?_
              refine p_readC rfl ?_
              refine c_move rfl _ rfl (.int .i64 id) rfl (fun _ _ _ h => h) (fun K hK => ?_)
              go_simp
              refine hK _ ?_
              clear hK K
              refine c_nil ?_
              refine p_readC rfl ?_
              refine ct_mid_load rfl 25 _ rfl bv 0 rfl (ks .u64 l) (fun u hu => hu.1) _ Try.underlying25 rfl HLZ.out (fun _ _ _ h => h) (fun K hK => ?_)
              go_simp
              refine hK _ ?_
              clear hK K
              refine c_nil ?_
              refine p_nilC ?_
              refine p_stepC rfl ?_
              go_wp2_with (go_at_call 13; refine (C1.out).mono ?_; rintro e w70 ⟨rfl, ht⟩)
              have H70 := Lib.hid ht
              have C2 := Lib.hid (q_begin H70.out id l HLO.out)
              rw [HER.out] at C2
              clear ht C1
              refine And.intro (fun _ => H70.out.sep.blk 1 rfl) ?_
              refine p_stepC rfl ?_
              go_wp2_with (go_at_call 14; refine (C2.out).mono ?_; rintro e w71 ⟨rfl, ht⟩)
              have H71 : Hid (Zm.Pl w w71 b d ((aftBeg D id l).map norm) (aftBeg D id l) [rB bw (wc y), rB bv (ks .u64 l), rB bu (ddk.cf x), rB ba (ks .u64 at_)]) := by
                show Zm.Pl _ _ _ _ _ _ _
                rw [← HN9.out]
                exact ht
              clear ht C2
              refine And.intro (fun _ => H71.out.sep.blk 1 rfl) ?_
              refine p_stepC rfl ?_
              go_wp2_with fail
              refine And.intro (fun _ => H71.out.sep.blk 1 rfl) ?_
              refine p_stepC rfl ?_
              go_wp2_with fail
              refine And.intro (fun _ => H71.out.sep.blk 1 rfl) ?_
              refine p_endC ?_
              go_wp2_with fail
              go_meet
              exact ⟨rfl, _, H71⟩
          · as_aux_lemma =>
              have HE := Lib.hid (errBeg_norm D id l)
              have HN9 := Lib.hid (beg_norm D id l)
              have HPd := Lib.hid (H17.out.below (Below.refl _ _).drew)
              have C1 := Lib.hid (p_begin HPd.out id l HLO.out)
              obtain ⟨er, HER⟩ : ∃ er, Hid (errBeg D id l = er) := ⟨_, rfl⟩
              rw [HE.out, HER.out] at C1
              have hee : (er == er) = true := beq_self_eq_true er
              go_wp2_with fail
              refine region_pickC (fun u => Blk u bv (ks .u64 l)) 10 [0, 1, 2, 4, 5, 6] [3, 7, 8, 9] Try.mixed (by kernel_rfl) rfl (by kernel_rfl) (HPd.out.sep.blk 1 rfl) ?_
              refine p_readC rfl ?_
              refine c_move rfl _ rfl (.pointer (some ⟨b, 0, none⟩)) rfl (fun _ _ _ h => h) (fun K hK => ?_)
              go_simp
              refine hK _ ?_
              clear hK K
              refine c_nil ?_
              refine p_readC rfl ?_
              refine c_move rfl _ rfl (.int .i64 id) rfl (fun _ _ _ h => h) (fun K hK => ?_)
              go_simp
              refine hK _ ?_
              clear hK K
              refine c_nil ?_
              refine p_readC rfl ?_
              refine ct_mid_load rfl 25 _ rfl bv 0 rfl (ks .u64 l) (fun u hu => hu.1) _ Try.underlying25 rfl HLZ.out (fun _ _ _ h => h) (fun K hK => ?_)
              go_simp
              refine hK _ ?_
              clear hK K
              refine c_nil ?_
              refine p_readC rfl ?_
              refine c_move rfl _ rfl (.pointer (some ⟨d, 0, none⟩)) rfl (fun _ _ _ h => h) (fun K hK => ?_)
              go_simp
              refine hK _ ?_
              clear hK K
              refine c_nil ?_
              refine p_readC rfl ?_
              refine c_move rfl _ rfl (.int .i64 id) rfl (fun _ _ _ h => h) (fun K hK => ?_)
              go_simp
              refine hK _ ?_
              clear hK K
              refine c_nil ?_
              refine p_readC rfl ?_
              refine ct_mid_load rfl 25 _ rfl bv 0 rfl (ks .u64 l) (fun u hu => hu.1) _ Try.underlying25 rfl HLZ.out (fun _ _ _ h => h) (fun K hK => ?_)
              go_simp
              refine hK _ ?_
              clear hK K
              refine c_nil ?_
              refine p_nilC ?_
              refine p_stepC rfl ?_
              go_wp2_with (go_at_call 13; refine (C1.out).mono ?_; rintro e w70 ⟨rfl, ht⟩)
              have H70 := Lib.hid ht
              have C2 := Lib.hid (q_begin H70.out id l HLO.out)
              rw [HER.out] at C2
              clear ht C1
              refine And.intro (fun _ => H70.out.sep.blk 1 rfl) ?_
              refine p_stepC rfl ?_
              go_wp2_with (go_at_call 14; refine (C2.out).mono ?_; rintro e w71 ⟨rfl, ht⟩)
              have H71 : Hid (Zm.Pl w w71 b d ((aftBeg D id l).map norm) (aftBeg D id l) [rB bw (wc y), rB bv (ks .u64 l), rB bu (ddk.cf x), rB ba (ks .u64 at_)]) := by
                show Zm.Pl _ _ _ _ _ _ _
                rw [← HN9.out]
                exact ht
              clear ht C2
              refine And.intro (fun _ => H71.out.sep.blk 1 rfl) ?_
              refine p_stepC rfl ?_
              go_wp2_with fail
              refine And.intro (fun _ => H71.out.sep.blk 1 rfl) ?_
              refine p_stepC rfl ?_
              go_wp2_with fail
              refine And.intro (fun _ => H71.out.sep.blk 1 rfl) ?_
              refine p_endC ?_
              go_wp2_with fail
              go_meet
              exact ⟨rfl, _, H71⟩
          · as_aux_lemma =>
              have HE := Lib.hid (errBeg_norm D id l)
              have HN9 := Lib.hid (beg_norm D id l)
              have HPd := Lib.hid (H17.out.below (Below.refl _ _).drew)
              have C1 := Lib.hid (p_begin HPd.out id l HLO.out)
              obtain ⟨er, HER⟩ : ∃ er, Hid (errBeg D id l = er) := ⟨_, rfl⟩
              rw [HE.out, HER.out] at C1
              have hee : (er == er) = true := beq_self_eq_true er
              go_wp2_with fail
              refine region_pickC (fun u => Blk u bv (ks .u64 l)) 10 [0, 1, 2, 4, 5, 6] [3, 7, 8, 9] Try.mixed (by kernel_rfl) rfl (by kernel_rfl) (HPd.out.sep.blk 1 rfl) ?_
              refine p_readC rfl ?_
              refine c_move rfl _ rfl (.pointer (some ⟨b, 0, none⟩)) rfl (fun _ _ _ h => h) (fun K hK => ?_)
              go_simp
              refine hK _ ?_
              clear hK K
              refine c_nil ?_
              refine p_readC rfl ?_
              refine c_move rfl _ rfl (.int .i64 id) rfl (fun _ _ _ h => h) (fun K hK => ?_)
              go_simp
              refine hK _ ?_
              clear hK K
              refine c_nil ?_
              refine p_readC rfl ?_
              refine ct_mid_load rfl 25 _ rfl bv 0 rfl (ks .u64 l) (fun u hu => hu.1) _ Try.underlying25 rfl HLZ.out (fun _ _ _ h => h) (fun K hK => ?_)
              go_simp
              refine hK _ ?_
              clear hK K
              refine c_nil ?_
              refine p_readC rfl ?_
              refine c_move rfl _ rfl (.pointer (some ⟨d, 0, none⟩)) rfl (fun _ _ _ h => h) (fun K hK => ?_)
              go_simp
              refine hK _ ?_
              clear hK K
              refine c_nil ?_
              refine p_readC rfl ?_
              refine c_move rfl _ rfl (.int .i64 id) rfl (fun _ _ _ h => h) (fun K hK => ?_)
              go_simp
              refine hK _ ?_
              clear hK K
              refine c_nil ?_
              refine p_readC rfl ?_
              refine ct_mid_load rfl 25 _ rfl bv 0 rfl (ks .u64 l) (fun u hu => hu.1) _ Try.underlying25 rfl HLZ.out (fun _ _ _ h => h) (fun K hK => ?_)
              go_simp
              refine hK _ ?_
              clear hK K
              refine c_nil ?_
              refine p_nilC ?_
              refine p_stepC rfl ?_
              go_wp2_with (go_at_call 13; refine (C1.out).mono ?_; rintro e w70 ⟨rfl, ht⟩)
              have H70 := Lib.hid ht
              have C2 := Lib.hid (q_begin H70.out id l HLO.out)
              rw [HER.out] at C2
              clear ht C1
              refine And.intro (fun _ => H70.out.sep.blk 1 rfl) ?_
              refine p_stepC rfl ?_
              go_wp2_with (go_at_call 14; refine (C2.out).mono ?_; rintro e w71 ⟨rfl, ht⟩)
              have H71 : Hid (Zm.Pl w w71 b d ((aftBeg D id l).map norm) (aftBeg D id l) [rB bw (wc y), rB bv (ks .u64 l), rB bu (ddk.cf x), rB ba (ks .u64 at_)]) := by
                show Zm.Pl _ _ _ _ _ _ _
                rw [← HN9.out]
                exact ht
              clear ht C2
              refine And.intro (fun _ => H71.out.sep.blk 1 rfl) ?_
              refine p_stepC rfl ?_
              go_wp2_with fail
              refine And.intro (fun _ => H71.out.sep.blk 1 rfl) ?_
              refine p_stepC rfl ?_
              go_wp2_with fail
              refine And.intro (fun _ => H71.out.sep.blk 1 rfl) ?_
              refine p_endC ?_
              go_wp2_with fail
              go_meet
              exact ⟨rfl, _, H71⟩
          · as_aux_lemma =>
              have HE := Lib.hid (errWr_norm D id y)
              have HN9 := Lib.hid (wr_norm D id y)
              have HPd := Lib.hid (H17.out.below (Below.refl _ _).drew)
              obtain ⟨er, HER⟩ : ∃ er, Hid (errWr D id y = er) := ⟨_, rfl⟩
              have hee : (er == er) = true := beq_self_eq_true er
              go_wp2_with fail
              refine region_tree (fun u => Blk u bw (wc y)) 14 Try.mixed ?_
              refine tr_read 0 rfl (by kernel_rfl) (HPd.out.sep.blk 0 rfl) ?_
              refine c_move rfl _ rfl (.pointer (some ⟨b, 0, none⟩)) rfl (fun _ _ _ h => h) (fun K hK => ?_)
              go_simp
              refine hK _ ?_
              clear hK K
              refine c_nil ?_
              refine tr_read 1 rfl (by kernel_rfl) (HPd.out.sep.blk 0 rfl) ?_
              refine c_move rfl _ rfl (.int .i64 id) rfl (fun _ _ _ h => h) (fun K hK => ?_)
              go_simp
              refine hK _ ?_
              clear hK K
              refine c_nil ?_
              refine tr_read 2 rfl (by kernel_rfl) (HPd.out.sep.blk 0 rfl) ?_
              refine ct_mid_load rfl 41 _ rfl bw 0 rfl (wc y) (fun u hu => hu.1) _ Try.underlying41 rfl It.Try.size_w (fun _ _ _ h => h) (fun K hK => ?_)
              go_simp
              refine hK _ ?_
              clear hK K
              refine c_nil ?_
              refine tr_read 4 rfl (by kernel_rfl) (HPd.out.sep.blk 0 rfl) ?_
              refine c_move rfl _ rfl (.pointer (some ⟨d, 0, none⟩)) rfl (fun _ _ _ h => h) (fun K hK => ?_)
              go_simp
              refine hK _ ?_
              clear hK K
              refine c_nil ?_
              refine tr_read 5 rfl (by kernel_rfl) (HPd.out.sep.blk 0 rfl) ?_
              refine c_move rfl _ rfl (.int .i64 id) rfl (fun _ _ _ h => h) (fun K hK => ?_)
              go_simp
              refine hK _ ?_
              clear hK K
              refine c_nil ?_
              refine tr_read 6 rfl (by kernel_rfl) (HPd.out.sep.blk 0 rfl) ?_
              refine ct_mid_load rfl 41 _ rfl bw 0 rfl (wc y) (fun u hu => hu.1) _ Try.underlying41 rfl It.Try.size_w (fun _ _ _ h => h) (fun K hK => ?_)
              go_simp
              refine hK _ ?_
              clear hK K
              refine c_nil ?_
              refine tr_two 3 7 rfl rfl (by kernel_rfl) ?_ ?_
              · skip
                have C1 := Lib.hid (p_write HPd.out id y)
                rw [HE.out, HER.out] at C1
                go_wp2_with (go_at_call 19; refine (C1.out).mono ?_; rintro e w70 ⟨rfl, ht⟩)
                have H70 := Lib.hid ht
                clear ht C1
                refine And.intro (fun _ => H70.out.sep.blk 0 rfl) ?_
                refine tr_one 7 rfl (by kernel_rfl) ?_
                refine build_iw rfl _ rfl y rfl ?_
                intro w72 A72 B72 Z72
                have HA72 := Lib.hid A72
                have H72 := Lib.hid (H70.out.below B72)
                have HWS : Hid (IsWs w72 (.slice (some ⟨w70.heap.size, 0, none⟩) 1 1) [y]) := isW_of (IsR.one (K := wk) A72 (by rw [Z72]; exact Nat.lt_succ_self _))
                clear A72 B72 Z72
                go_wp2_with fail
                refine And.intro (fun _ => H72.out.sep.blk 0 rfl) ?_
                refine tr_one 8 rfl (by kernel_rfl) ?_
                have C3 := Lib.hid (It.refwrites_any _ [y] _ HWS.out (by simp))
                go_wp2_with (go_at_call 21; refine (C3.out).mono ?_; rintro e w73 ⟨v9, rfl, how, hb⟩)
                have H73 := Lib.hid (H72.out.below hb)
                have hor : OR wk 56 w73 w72.heap.size v9 [y] := ⟨how.own⟩
                obtain ⟨g9, cp9, cur9, ev9, _, _⟩ := OR.some hor (by simp)
                have ev9 : v9 = .slice (some ⟨g9, 0, none⟩) 1 cp9 := ev9
                subst ev9
                have hr9 := (isr_four hor.is 0 (by simp)).2
                have HR9 : Hid (w73.rangeAt g9 0 (wc y)) := hr9
                have hix9 : ∀ w, (Instr.indexAt 33 (.slice (some ⟨g9, 0, none⟩) 1 cp9) (.int .i64 0)).run Try.prog w = .ok (.pointer (some ⟨g9, 0, none⟩)) w := fun w => index_rw g9 0 1 cp9 0 (by decide) w
                clear how hb C3 hor hr9
                refine And.intro (fun _ => H73.out.sep.blk 0 rfl) ?_
                refine tr_one 9 rfl (by kernel_rfl) ?_
                go_wp2_with fail
                clear hix9
                refine And.intro (fun _ => H73.out.sep.blk 0 rfl) ?_
                refine tr_one 10 rfl (by kernel_rfl) ?_
                go_wp2_with (first | refine mid_load rfl 56 _ rfl g9 0 rfl (wc y) HR9.out _ Try.underlying56 rfl It.Try.size_rw ?_)
                refine And.intro (fun _ => H73.out.sep.blk 0 rfl) ?_
                refine tr_one 11 rfl (by kernel_rfl) ?_
                have C2 := Lib.hid (q_write H73.out id y)
                rw [HER.out] at C2
                go_wp2_with (go_at_call 20; refine (C2.out).mono ?_; rintro e w74 ⟨rfl, ht⟩)
                have H74 : Hid (Zm.Pl w w74 b d ((aftWr D id y).map norm) (aftWr D id y) [rB bw (wc y), rB bv (ks .u64 l), rB bu (ddk.cf x), rB ba (ks .u64 at_)]) := by
                  show Zm.Pl _ _ _ _ _ _ _
                  rw [← HN9.out]
                  exact ht
                clear ht C2
                refine And.intro (fun _ => H74.out.sep.blk 0 rfl) ?_
                refine tr_one 12 rfl (by kernel_rfl) ?_
                go_wp2_with fail
                refine And.intro (fun _ => H74.out.sep.blk 0 rfl) ?_
                refine tr_one 13 rfl (by kernel_rfl) ?_
                go_wp2_with fail
                refine And.intro (fun _ => H74.out.sep.blk 0 rfl) ?_
                refine tr_end (by kernel_rfl) ?_
                go_wp2_with fail
                go_meet
                exact ⟨rfl, _, H74⟩
              · skip
                refine build_iw rfl _ rfl y rfl ?_
                intro w72 A72 B72 Z72
                have HA72 := Lib.hid A72
                have H72 := Lib.hid (Zm.Pl.push HPd.out B72 (rB w17.drew.heap.size (wc y)) A72 (fun k hk => by simp only [rB, List.mem_singleton] at hk; subst hk; exact ⟨Nat.le_refl _, by rw [Z72]; exact Nat.lt_succ_self _⟩))
                have HWS : Hid (IsWs w72 (.slice (some ⟨w17.drew.heap.size, 0, none⟩) 1 1) [y]) := isW_of (IsR.one (K := wk) A72 (by rw [Z72]; exact Nat.lt_succ_self _))
                clear A72 B72 Z72
                go_wp2_with fail
                refine And.intro (fun _ => H72.out.sep.blk 1 rfl) ?_
                refine tr_one 3 rfl (by kernel_rfl) ?_
                have C1 := Lib.hid (p_write H72.out id y)
                rw [HE.out, HER.out] at C1
                go_wp2_with (go_at_call 19; refine (C1.out).mono ?_; rintro e w70 ⟨rfl, ht⟩)
                have HWS : Hid (IsWs w70 (.slice (some ⟨w17.drew.heap.size, 0, none⟩) 1 1) [y]) := isW_of (IsR.one (K := wk) (ht.sep.blk 0 rfl) (ht.sep.lt 0 (r := rB w17.drew.heap.size (wc y)) rfl _ (by simp [rB])).2)
                have H70 := Lib.hid (ht.sub (List.sublist_cons_self _ _))
                clear ht C1
                refine And.intro (fun _ => H70.out.sep.blk 0 rfl) ?_
                refine tr_one 8 rfl (by kernel_rfl) ?_
                have C3 := Lib.hid (It.refwrites_any _ [y] _ HWS.out (by simp))
                go_wp2_with (go_at_call 21; refine (C3.out).mono ?_; rintro e w73 ⟨v9, rfl, how, hb⟩)
                have H73 := Lib.hid (H70.out.below hb)
                have hor : OR wk 56 w73 w70.heap.size v9 [y] := ⟨how.own⟩
                obtain ⟨g9, cp9, cur9, ev9, _, _⟩ := OR.some hor (by simp)
                have ev9 : v9 = .slice (some ⟨g9, 0, none⟩) 1 cp9 := ev9
                subst ev9
                have hr9 := (isr_four hor.is 0 (by simp)).2
                have HR9 : Hid (w73.rangeAt g9 0 (wc y)) := hr9
                have hix9 : ∀ w, (Instr.indexAt 33 (.slice (some ⟨g9, 0, none⟩) 1 cp9) (.int .i64 0)).run Try.prog w = .ok (.pointer (some ⟨g9, 0, none⟩)) w := fun w => index_rw g9 0 1 cp9 0 (by decide) w
                clear how hb C3 hor hr9
                refine And.intro (fun _ => H73.out.sep.blk 0 rfl) ?_
                refine tr_one 9 rfl (by kernel_rfl) ?_
                go_wp2_with fail
                clear hix9
                refine And.intro (fun _ => H73.out.sep.blk 0 rfl) ?_
                refine tr_one 10 rfl (by kernel_rfl) ?_
                go_wp2_with (first | refine mid_load rfl 56 _ rfl g9 0 rfl (wc y) HR9.out _ Try.underlying56 rfl It.Try.size_rw ?_)
                refine And.intro (fun _ => H73.out.sep.blk 0 rfl) ?_
                refine tr_one 11 rfl (by kernel_rfl) ?_
                have C2 := Lib.hid (q_write H73.out id y)
                rw [HER.out] at C2
                go_wp2_with (go_at_call 20; refine (C2.out).mono ?_; rintro e w74 ⟨rfl, ht⟩)
                have H74 : Hid (Zm.Pl w w74 b d ((aftWr D id y).map norm) (aftWr D id y) [rB bw (wc y), rB bv (ks .u64 l), rB bu (ddk.cf x), rB ba (ks .u64 at_)]) := by
                  show Zm.Pl _ _ _ _ _ _ _
                  rw [← HN9.out]
                  exact ht
                clear ht C2
                refine And.intro (fun _ => H74.out.sep.blk 0 rfl) ?_
                refine tr_one 12 rfl (by kernel_rfl) ?_
                go_wp2_with fail
                refine And.intro (fun _ => H74.out.sep.blk 0 rfl) ?_
                refine tr_one 13 rfl (by kernel_rfl) ?_
                go_wp2_with fail
                refine And.intro (fun _ => H74.out.sep.blk 0 rfl) ?_
                refine tr_end (by kernel_rfl) ?_
                go_wp2_with fail
                go_meet
                exact ⟨rfl, _, H74⟩
          · as_aux_lemma =>
              have HE := Lib.hid (errWr_norm D id y)
              have HN9 := Lib.hid (wr_norm D id y)
              have HPd := Lib.hid (H17.out.below (Below.refl _ _).drew)
              obtain ⟨er, HER⟩ : ∃ er, Hid (errWr D id y = er) := ⟨_, rfl⟩
              have hee : (er == er) = true := beq_self_eq_true er
              go_wp2_with fail
              refine region_tree (fun u => Blk u bw (wc y)) 14 Try.mixed ?_
              refine tr_read 0 rfl (by kernel_rfl) (HPd.out.sep.blk 0 rfl) ?_
              refine c_move rfl _ rfl (.pointer (some ⟨b, 0, none⟩)) rfl (fun _ _ _ h => h) (fun K hK => ?_)
              go_simp
              refine hK _ ?_
              clear hK K
              refine c_nil ?_
              refine tr_read 1 rfl (by kernel_rfl) (HPd.out.sep.blk 0 rfl) ?_
              refine c_move rfl _ rfl (.int .i64 id) rfl (fun _ _ _ h => h) (fun K hK => ?_)
              go_simp
              refine hK _ ?_
              clear hK K
              refine c_nil ?_
              refine tr_read 2 rfl (by kernel_rfl) (HPd.out.sep.blk 0 rfl) ?_
              refine ct_mid_load rfl 41 _ rfl bw 0 rfl (wc y) (fun u hu => hu.1) _ Try.underlying41 rfl It.Try.size_w (fun _ _ _ h => h) (fun K hK => ?_)
              go_simp
              refine hK _ ?_
              clear hK K
              refine c_nil ?_
              refine tr_read 4 rfl (by kernel_rfl) (HPd.out.sep.blk 0 rfl) ?_
              refine c_move rfl _ rfl (.pointer (some ⟨d, 0, none⟩)) rfl (fun _ _ _ h => h) (fun K hK => ?_)
              go_simp
              refine hK _ ?_
              clear hK K
              refine c_nil ?_
              refine tr_read 5 rfl (by kernel_rfl) (HPd.out.sep.blk 0 rfl) ?_
              refine c_move rfl _ rfl (.int .i64 id) rfl (fun _ _ _ h => h) (fun K hK => ?_)
              go_simp
              refine hK _ ?_
              clear hK K
              refine c_nil ?_
              refine tr_read 6 rfl (by kernel_rfl) (HPd.out.sep.blk 0 rfl) ?_
              refine ct_mid_load rfl 41 _ rfl bw 0 rfl (wc y) (fun u hu => hu.1) _ Try.underlying41 rfl It.Try.size_w (fun _ _ _ h => h) (fun K hK => ?_)
              go_simp
              refine hK _ ?_
              clear hK K
              refine c_nil ?_
              refine tr_two 3 7 rfl rfl (by kernel_rfl) ?_ ?_
              · skip
                have C1 := Lib.hid (p_write HPd.out id y)
                rw [HE.out, HER.out] at C1
                go_wp2_with (go_at_call 19; refine (C1.out).mono ?_; rintro e w70 ⟨rfl, ht⟩)
                have H70 := Lib.hid ht
                clear ht C1
                refine And.intro (fun _ => H70.out.sep.blk 0 rfl) ?_
                refine tr_one 7 rfl (by kernel_rfl) ?_
                refine build_iw rfl _ rfl y rfl ?_
                intro w72 A72 B72 Z72
                have HA72 := Lib.hid A72
                have H72 := Lib.hid (H70.out.below B72)
                have HWS : Hid (IsWs w72 (.slice (some ⟨w70.heap.size, 0, none⟩) 1 1) [y]) := isW_of (IsR.one (K := wk) A72 (by rw [Z72]; exact Nat.lt_succ_self _))
                clear A72 B72 Z72
                go_wp2_with fail
                refine And.intro (fun _ => H72.out.sep.blk 0 rfl) ?_
                refine tr_one 8 rfl (by kernel_rfl) ?_
                have C3 := Lib.hid (It.refwrites_any _ [y] _ HWS.out (by simp))
                go_wp2_with (go_at_call 21; refine (C3.out).mono ?_; rintro e w73 ⟨v9, rfl, how, hb⟩)
                have H73 := Lib.hid (H72.out.below hb)
                have hor : OR wk 56 w73 w72.heap.size v9 [y] := ⟨how.own⟩
                obtain ⟨g9, cp9, cur9, ev9, _, _⟩ := OR.some hor (by simp)
                have ev9 : v9 = .slice (some ⟨g9, 0, none⟩) 1 cp9 := ev9
                subst ev9
                have hr9 := (isr_four hor.is 0 (by simp)).2
                have HR9 : Hid (w73.rangeAt g9 0 (wc y)) := hr9
                have hix9 : ∀ w, (Instr.indexAt 33 (.slice (some ⟨g9, 0, none⟩) 1 cp9) (.int .i64 0)).run Try.prog w = .ok (.pointer (some ⟨g9, 0, none⟩)) w := fun w => index_rw g9 0 1 cp9 0 (by decide) w
                clear how hb C3 hor hr9
                refine And.intro (fun _ => H73.out.sep.blk 0 rfl) ?_
                refine tr_one 9 rfl (by kernel_rfl) ?_
                go_wp2_with fail
                clear hix9
                refine And.intro (fun _ => H73.out.sep.blk 0 rfl) ?_
                refine tr_one 10 rfl (by kernel_rfl) ?_
                go_wp2_with (first | refine mid_load rfl 56 _ rfl g9 0 rfl (wc y) HR9.out _ Try.underlying56 rfl It.Try.size_rw ?_)
                refine And.intro (fun _ => H73.out.sep.blk 0 rfl) ?_
                refine tr_one 11 rfl (by kernel_rfl) ?_
                have C2 := Lib.hid (q_write H73.out id y)
                rw [HER.out] at C2
                go_wp2_with (go_at_call 20; refine (C2.out).mono ?_; rintro e w74 ⟨rfl, ht⟩)
                have H74 : Hid (Zm.Pl w w74 b d ((aftWr D id y).map norm) (aftWr D id y) [rB bw (wc y), rB bv (ks .u64 l), rB bu (ddk.cf x), rB ba (ks .u64 at_)]) := by
                  show Zm.Pl _ _ _ _ _ _ _
                  rw [← HN9.out]
                  exact ht
                clear ht C2
                refine And.intro (fun _ => H74.out.sep.blk 0 rfl) ?_
                refine tr_one 12 rfl (by kernel_rfl) ?_
                go_wp2_with fail
                refine And.intro (fun _ => H74.out.sep.blk 0 rfl) ?_
                refine tr_one 13 rfl (by kernel_rfl) ?_
                go_wp2_with fail
                refine And.intro (fun _ => H74.out.sep.blk 0 rfl) ?_
                refine tr_end (by kernel_rfl) ?_
                go_wp2_with fail
                go_meet
                exact ⟨rfl, _, H74⟩
              · skip
                refine build_iw rfl _ rfl y rfl ?_
                intro w72 A72 B72 Z72
                have HA72 := Lib.hid A72
                have H72 := Lib.hid (Zm.Pl.push HPd.out B72 (rB w17.drew.heap.size (wc y)) A72 (fun k hk => by simp only [rB, List.mem_singleton] at hk; subst hk; exact ⟨Nat.le_refl _, by rw [Z72]; exact Nat.lt_succ_self _⟩))
                have HWS : Hid (IsWs w72 (.slice (some ⟨w17.drew.heap.size, 0, none⟩) 1 1) [y]) := isW_of (IsR.one (K := wk) A72 (by rw [Z72]; exact Nat.lt_succ_self _))
                clear A72 B72 Z72
                go_wp2_with fail
                refine And.intro (fun _ => H72.out.sep.blk 1 rfl) ?_
                refine tr_one 3 rfl (by kernel_rfl) ?_
                have C1 := Lib.hid (p_write H72.out id y)
                rw [HE.out, HER.out] at C1
                go_wp2_with (go_at_call 19; refine (C1.out).mono ?_; rintro e w70 ⟨rfl, ht⟩)
                have HWS : Hid (IsWs w70 (.slice (some ⟨w17.drew.heap.size, 0, none⟩) 1 1) [y]) := isW_of (IsR.one (K := wk) (ht.sep.blk 0 rfl) (ht.sep.lt 0 (r := rB w17.drew.heap.size (wc y)) rfl _ (by simp [rB])).2)
                have H70 := Lib.hid (ht.sub (List.sublist_cons_self _ _))
                clear ht C1
                refine And.intro (fun _ => H70.out.sep.blk 0 rfl) ?_
                refine tr_one 8 rfl (by kernel_rfl) ?_
                have C3 := Lib.hid (It.refwrites_any _ [y] _ HWS.out (by simp))
                go_wp2_with (go_at_call 21; refine (C3.out).mono ?_; rintro e w73 ⟨v9, rfl, how, hb⟩)
                have H73 := Lib.hid (H70.out.below hb)
                have hor : OR wk 56 w73 w70.heap.size v9 [y] := ⟨how.own⟩
                obtain ⟨g9, cp9, cur9, ev9, _, _⟩ := OR.some hor (by simp)
                have ev9 : v9 = .slice (some ⟨g9, 0, none⟩) 1 cp9 := ev9
                subst ev9
                have hr9 := (isr_four hor.is 0 (by simp)).2
                have HR9 : Hid (w73.rangeAt g9 0 (wc y)) := hr9
                have hix9 : ∀ w, (Instr.indexAt 33 (.slice (some ⟨g9, 0, none⟩) 1 cp9) (.int .i64 0)).run Try.prog w = .ok (.pointer (some ⟨g9, 0, none⟩)) w := fun w => index_rw g9 0 1 cp9 0 (by decide) w
                clear how hb C3 hor hr9
                refine And.intro (fun _ => H73.out.sep.blk 0 rfl) ?_
                refine tr_one 9 rfl (by kernel_rfl) ?_
                go_wp2_with fail
                clear hix9
                refine And.intro (fun _ => H73.out.sep.blk 0 rfl) ?_
                refine tr_one 10 rfl (by kernel_rfl) ?_
                go_wp2_with (first | refine mid_load rfl 56 _ rfl g9 0 rfl (wc y) HR9.out _ Try.underlying56 rfl It.Try.size_rw ?_)
                refine And.intro (fun _ => H73.out.sep.blk 0 rfl) ?_
                refine tr_one 11 rfl (by kernel_rfl) ?_
                have C2 := Lib.hid (q_write H73.out id y)
                rw [HER.out] at C2
                go_wp2_with (go_at_call 20; refine (C2.out).mono ?_; rintro e w74 ⟨rfl, ht⟩)
                have H74 : Hid (Zm.Pl w w74 b d ((aftWr D id y).map norm) (aftWr D id y) [rB bw (wc y), rB bv (ks .u64 l), rB bu (ddk.cf x), rB ba (ks .u64 at_)]) := by
                  show Zm.Pl _ _ _ _ _ _ _
                  rw [← HN9.out]
                  exact ht
                clear ht C2
                refine And.intro (fun _ => H74.out.sep.blk 0 rfl) ?_
                refine tr_one 12 rfl (by kernel_rfl) ?_
                go_wp2_with fail
                refine And.intro (fun _ => H74.out.sep.blk 0 rfl) ?_
                refine tr_one 13 rfl (by kernel_rfl) ?_
                go_wp2_with fail
                refine And.intro (fun _ => H74.out.sep.blk 0 rfl) ?_
                refine tr_end (by kernel_rfl) ?_
                go_wp2_with fail
                go_meet
                exact ⟨rfl, _, H74⟩
          · as_aux_lemma =>
              have HE := Lib.hid (errWr_norm D id y)
              have HN9 := Lib.hid (wr_norm D id y)
              have HPd := Lib.hid (H17.out.below (Below.refl _ _).drew)
              obtain ⟨er, HER⟩ : ∃ er, Hid (errWr D id y = er) := ⟨_, rfl⟩
              have hee : (er == er) = true := beq_self_eq_true er
              go_wp2_with fail
              refine region_tree (fun u => Blk u bw (wc y)) 14 Try.mixed ?_
              refine tr_read 0 rfl (by kernel_rfl) (HPd.out.sep.blk 0 rfl) ?_
              refine c_move rfl _ rfl (.pointer (some ⟨b, 0, none⟩)) rfl (fun _ _ _ h => h) (fun K hK => ?_)
              go_simp
              refine hK _ ?_
              clear hK K
              refine c_nil ?_
              refine tr_read 1 rfl (by kernel_rfl) (HPd.out.sep.blk 0 rfl) ?_
              refine c_move rfl _ rfl (.int .i64 id) rfl (fun _ _ _ h => h) (fun K hK => ?_)
              go_simp
              refine hK _ ?_
              clear hK K
              refine c_nil ?_
              refine tr_read 2 rfl (by kernel_rfl) (HPd.out.sep.blk 0 rfl) ?_
              refine ct_mid_load rfl 41 _ rfl bw 0 rfl (wc y) (fun u hu => hu.1) _ Try.underlying41 rfl It.Try.size_w (fun _ _ _ h => h) (fun K hK => ?_)
              go_simp
              refine hK _ ?_
              clear hK K
              refine c_nil ?_
              refine tr_read 4 rfl (by kernel_rfl) (HPd.out.sep.blk 0 rfl) ?_
              refine c_move rfl _ rfl (.pointer (some ⟨d, 0, none⟩)) rfl (fun _ _ _ h => h) (fun K hK => ?_)
              go_simp
              refine hK _ ?_
              clear hK K
              refine c_nil ?_
              refine tr_read 5 rfl (by kernel_rfl) (HPd.out.sep.blk 0 rfl) ?_
              refine c_move rfl _ rfl (.int .i64 id) rfl (fun _ _ _ h => h) (fun K hK => ?_)
              go_simp
              refine hK _ ?_
              clear hK K
              refine c_nil ?_
              refine tr_read 6 rfl (by kernel_rfl) (HPd.out.sep.blk 0 rfl) ?_
              refine ct_mid_load rfl 41 _ rfl bw 0 rfl (wc y) (fun u hu => hu.1) _ Try.underlying41 rfl It.Try.size_w (fun _ _ _ h => h) (fun K hK => ?_)
              go_simp
              refine hK _ ?_
              clear hK K
              refine c_nil ?_
              refine tr_two 3 7 rfl rfl (by kernel_rfl) ?_ ?_
              · skip
                have C1 := Lib.hid (p_write HPd.out id y)
                rw [HE.out, HER.out] at C1
                go_wp2_with (go_at_call 19; refine (C1.out).mono ?_; rintro e w70 ⟨rfl, ht⟩)
                have H70 := Lib.hid ht
                clear ht C1
                refine And.intro (fun _ => H70.out.sep.blk 0 rfl) ?_
                refine tr_one 7 rfl (by kernel_rfl) ?_
                refine build_iw rfl _ rfl y rfl ?_
                intro w72 A72 B72 Z72
                have HA72 := Lib.hid A72
                have H72 := Lib.hid (H70.out.below B72)
                have HWS : Hid (IsWs w72 (.slice (some ⟨w70.heap.size, 0, none⟩) 1 1) [y]) := isW_of (IsR.one (K := wk) A72 (by rw [Z72]; exact Nat.lt_succ_self _))
                clear A72 B72 Z72
                go_wp2_with fail
                refine And.intro (fun _ => H72.out.sep.blk 0 rfl) ?_
                refine tr_one 8 rfl (by kernel_rfl) ?_
                have C3 := Lib.hid (It.refwrites_any _ [y] _ HWS.out (by simp))
                go_wp2_with (go_at_call 21; refine (C3.out).mono ?_; rintro e w73 ⟨v9, rfl, how, hb⟩)
                have H73 := Lib.hid (H72.out.below hb)
                have hor : OR wk 56 w73 w72.heap.size v9 [y] := ⟨how.own⟩
                obtain ⟨g9, cp9, cur9, ev9, _, _⟩ := OR.some hor (by simp)
                have ev9 : v9 = .slice (some ⟨g9, 0, none⟩) 1 cp9 := ev9
                subst ev9
                have hr9 := (isr_four hor.is 0 (by simp)).2
                have HR9 : Hid (w73.rangeAt g9 0 (wc y)) := hr9
                have hix9 : ∀ w, (Instr.indexAt 33 (.slice (some ⟨g9, 0, none⟩) 1 cp9) (.int .i64 0)).run Try.prog w = .ok (.pointer (some ⟨g9, 0, none⟩)) w := fun w => index_rw g9 0 1 cp9 0 (by decide) w
                clear how hb C3 hor hr9
                refine And.intro (fun _ => H73.out.sep.blk 0 rfl) ?_
                refine tr_one 9 rfl (by kernel_rfl) ?_
                go_wp2_with fail
                clear hix9
                refine And.intro (fun _ => H73.out.sep.blk 0 rfl) ?_
                refine tr_one 10 rfl (by kernel_rfl) ?_
                go_wp2_with (first | refine mid_load rfl 56 _ rfl g9 0 rfl (wc y) HR9.out _ Try.underlying56 rfl It.Try.size_rw ?_)
                refine And.intro (fun _ => H73.out.sep.blk 0 rfl) ?_
                refine tr_one 11 rfl (by kernel_rfl) ?_
                have C2 := Lib.hid (q_write H73.out id y)
                rw [HER.out] at C2
                go_wp2_with (go_at_call 20; refine (C2.out).mono ?_; rintro e w74 ⟨rfl, ht⟩)
                have H74 : Hid (Zm.Pl w w74 b d ((aftWr D id y).map norm) (aftWr D id y) [rB bw (wc y), rB bv (ks .u64 l), rB bu (ddk.cf x), rB ba (ks .u64 at_)]) := by
                  show Zm.Pl _ _ _ _ _ _ _
                  rw [← HN9.out]
                  exact ht
                clear ht C2
                refine And.intro (fun _ => H74.out.sep.blk 0 rfl) ?_
                refine tr_one 12 rfl (by kernel_rfl) ?_
                go_wp2_with fail
                refine And.intro (fun _ => H74.out.sep.blk 0 rfl) ?_
                refine tr_one 13 rfl (by kernel_rfl) ?_
                go_wp2_with fail
                refine And.intro (fun _ => H74.out.sep.blk 0 rfl) ?_
                refine tr_end (by kernel_rfl) ?_
                go_wp2_with fail
                go_meet
                exact ⟨rfl, _, H74⟩
              · skip
                refine build_iw rfl _ rfl y rfl ?_
                intro w72 A72 B72 Z72
                have HA72 := Lib.hid A72
                have H72 := Lib.hid (Zm.Pl.push HPd.out B72 (rB w17.drew.heap.size (wc y)) A72 (fun k hk => by simp only [rB, List.mem_singleton] at hk; subst hk; exact ⟨Nat.le_refl _, by rw [Z72]; exact Nat.lt_succ_self _⟩))
                have HWS : Hid (IsWs w72 (.slice (some ⟨w17.drew.heap.size, 0, none⟩) 1 1) [y]) := isW_of (IsR.one (K := wk) A72 (by rw [Z72]; exact Nat.lt_succ_self _))
                clear A72 B72 Z72
                go_wp2_with fail
                refine And.intro (fun _ => H72.out.sep.blk 1 rfl) ?_
                refine tr_one 3 rfl (by kernel_rfl) ?_
                have C1 := Lib.hid (p_write H72.out id y)
                rw [HE.out, HER.out] at C1
                go_wp2_with (go_at_call 19; refine (C1.out).mono ?_; rintro e w70 ⟨rfl, ht⟩)
                have HWS : Hid (IsWs w70 (.slice (some ⟨w17.drew.heap.size, 0, none⟩) 1 1) [y]) := isW_of (IsR.one (K := wk) (ht.sep.blk 0 rfl) (ht.sep.lt 0 (r := rB w17.drew.heap.size (wc y)) rfl _ (by simp [rB])).2)
                have H70 := Lib.hid (ht.sub (List.sublist_cons_self _ _))
                clear ht C1
                refine And.intro (fun _ => H70.out.sep.blk 0 rfl) ?_
                refine tr_one 8 rfl (by kernel_rfl) ?_
                have C3 := Lib.hid (It.refwrites_any _ [y] _ HWS.out (by simp))
                go_wp2_with (go_at_call 21; refine (C3.out).mono ?_; rintro e w73 ⟨v9, rfl, how, hb⟩)
                have H73 := Lib.hid (H70.out.below hb)
                have hor : OR wk 56 w73 w70.heap.size v9 [y] := ⟨how.own⟩
                obtain ⟨g9, cp9, cur9, ev9, _, _⟩ := OR.some hor (by simp)
                have ev9 : v9 = .slice (some ⟨g9, 0, none⟩) 1 cp9 := ev9
                subst ev9
                have hr9 := (isr_four hor.is 0 (by simp)).2
                have HR9 : Hid (w73.rangeAt g9 0 (wc y)) := hr9
                have hix9 : ∀ w, (Instr.indexAt 33 (.slice (some ⟨g9, 0, none⟩) 1 cp9) (.int .i64 0)).run Try.prog w = .ok (.pointer (some ⟨g9, 0, none⟩)) w := fun w => index_rw g9 0 1 cp9 0 (by decide) w
                clear how hb C3 hor hr9
                refine And.intro (fun _ => H73.out.sep.blk 0 rfl) ?_
                refine tr_one 9 rfl (by kernel_rfl) ?_
                go_wp2_with fail
                clear hix9
                refine And.intro (fun _ => H73.out.sep.blk 0 rfl) ?_
                refine tr_one 10 rfl (by kernel_rfl) ?_
                go_wp2_with (first | refine mid_load rfl 56 _ rfl g9 0 rfl (wc y) HR9.out _ Try.underlying56 rfl It.Try.size_rw ?_)
                refine And.intro (fun _ => H73.out.sep.blk 0 rfl) ?_
                refine tr_one 11 rfl (by kernel_rfl) ?_
                have C2 := Lib.hid (q_write H73.out id y)
                rw [HER.out] at C2
                go_wp2_with (go_at_call 20; refine (C2.out).mono ?_; rintro e w74 ⟨rfl, ht⟩)
                have H74 : Hid (Zm.Pl w w74 b d ((aftWr D id y).map norm) (aftWr D id y) [rB bw (wc y), rB bv (ks .u64 l), rB bu (ddk.cf x), rB ba (ks .u64 at_)]) := by
                  show Zm.Pl _ _ _ _ _ _ _
                  rw [← HN9.out]
                  exact ht
                clear ht C2
                refine And.intro (fun _ => H74.out.sep.blk 0 rfl) ?_
                refine tr_one 12 rfl (by kernel_rfl) ?_
                go_wp2_with fail
                refine And.intro (fun _ => H74.out.sep.blk 0 rfl) ?_
                refine tr_one 13 rfl (by kernel_rfl) ?_
                go_wp2_with fail
                refine And.intro (fun _ => H74.out.sep.blk 0 rfl) ?_
                refine tr_end (by kernel_rfl) ?_
                go_wp2_with fail
                go_meet
                exact ⟨rfl, _, H74⟩
          · as_aux_lemma =>
              have HE := Lib.hid (errWr_norm D id y)
              have HN9 := Lib.hid (wr_norm D id y)
              have HPd := Lib.hid (H17.out.below (Below.refl _ _).drew)
              obtain ⟨er, HER⟩ : ∃ er, Hid (errWr D id y = er) := ⟨_, rfl⟩
              have hee : (er == er) = true := beq_self_eq_true er
              go_wp2_with fail
              refine region_tree (fun u => Blk u bw (wc y)) 14 Try.mixed ?_
              refine tr_read 0 rfl (by kernel_rfl) (HPd.out.sep.blk 0 rfl) ?_
              refine c_move rfl _ rfl (.pointer (some ⟨b, 0, none⟩)) rfl (fun _ _ _ h => h) (fun K hK => ?_)
              go_simp
              refine hK _ ?_
              clear hK K
              refine c_nil ?_
              refine tr_read 1 rfl (by kernel_rfl) (HPd.out.sep.blk 0 rfl) ?_
              refine c_move rfl _ rfl (.int .i64 id) rfl (fun _ _ _ h => h) (fun K hK => ?_)
              go_simp
              refine hK _ ?_
              clear hK K
              refine c_nil ?_
              refine tr_read 2 rfl (by kernel_rfl) (HPd.out.sep.blk 0 rfl) ?_
              refine ct_mid_load rfl 41 _ rfl bw 0 rfl (wc y) (fun u hu => hu.1) _ Try.underlying41 rfl It.Try.size_w (fun _ _ _ h => h) (fun K hK => ?_)
              go_simp
              refine hK _ ?_
              clear hK K
              refine c_nil ?_
              refine tr_read 4 rfl (by kernel_rfl) (HPd.out.sep.blk 0 rfl) ?_
              refine c_move rfl _ rfl (.pointer (some ⟨d, 0, none⟩)) rfl (fun _ _ _ h => h) (fun K hK => ?_)
              go_simp
              refine hK _ ?_
              clear hK K
              refine c_nil ?_
              refine tr_read 5 rfl (by kernel_rfl) (HPd.out.sep.blk 0 rfl) ?_
              refine c_move rfl _ rfl (.int .i64 id) rfl (fun _ _ _ h => h) (fun K hK => ?_)
              go_simp
              refine hK _ ?_
              clear hK K
              refine c_nil ?_
              refine tr_read 6 rfl (by kernel_rfl) (HPd.out.sep.blk 0 rfl) ?_
              refine ct_mid_load rfl 41 _ rfl bw 0 rfl (wc y) (fun u hu => hu.1) _ Try.underlying41 rfl It.Try.size_w (fun _ _ _ h => h) (fun K hK => ?_)
              go_simp
              refine hK _ ?_
              clear hK K
              refine c_nil ?_
              refine tr_two 3 7 rfl rfl (by kernel_rfl) ?_ ?_
              · skip
                have C1 := Lib.hid (p_write HPd.out id y)
                rw [HE.out, HER.out] at C1
                go_wp2_with (go_at_call 19; refine (C1.out).mono ?_; rintro e w70 ⟨rfl, ht⟩)
                have H70 := Lib.hid ht
                clear ht C1
                refine And.intro (fun _ => H70.out.sep.blk 0 rfl) ?_
                refine tr_one 7 rfl (by kernel_rfl) ?_
                refine build_iw rfl _ rfl y rfl ?_
                intro w72 A72 B72 Z72
                have HA72 := Lib.hid A72
                have H72 := Lib.hid (H70.out.below B72)
                have HWS : Hid (IsWs w72 (.slice (some ⟨w70.heap.size, 0, none⟩) 1 1) [y]) := isW_of (IsR.one (K := wk) A72 (by rw [Z72]; exact Nat.lt_succ_self _))
                clear A72 B72 Z72
                go_wp2_with fail
                refine And.intro (fun _ => H72.out.sep.blk 0 rfl) ?_
                refine tr_one 8 rfl (by kernel_rfl) ?_
                have C3 := Lib.hid (It.refwrites_any _ [y] _ HWS.out (by simp))
                go_wp2_with (go_at_call 21; refine (C3.out).mono ?_; rintro e w73 ⟨v9, rfl, how, hb⟩)
                have H73 := Lib.hid (H72.out.below hb)
                have hor : OR wk 56 w73 w72.heap.size v9 [y] := ⟨how.own⟩
                obtain ⟨g9, cp9, cur9, ev9, _, _⟩ := OR.some hor (by simp)
                have ev9 : v9 = .slice (some ⟨g9, 0, none⟩) 1 cp9 := ev9
                subst ev9
                have hr9 := (isr_four hor.is 0 (by simp)).2
                have HR9 : Hid (w73.rangeAt g9 0 (wc y)) := hr9
                have hix9 : ∀ w, (Instr.indexAt 33 (.slice (some ⟨g9, 0, none⟩) 1 cp9) (.int .i64 0)).run Try.prog w = .ok (.pointer (some ⟨g9, 0, none⟩)) w := fun w => index_rw g9 0 1 cp9 0 (by decide) w
                clear how hb C3 hor hr9
                refine And.intro (fun _ => H73.out.sep.blk 0 rfl) ?_
                refine tr_one 9 rfl (by kernel_rfl) ?_
                go_wp2_with fail
                clear hix9
                refine And.intro (fun _ => H73.out.sep.blk 0 rfl) ?_
                refine tr_one 10 rfl (by kernel_rfl) ?_
                go_wp2_with (first | refine mid_load rfl 56 _ rfl g9 0 rfl (wc y) HR9.out _ Try.underlying56 rfl It.Try.size_rw ?_)
                refine And.intro (fun _ => H73.out.sep.blk 0 rfl) ?_
                refine tr_one 11 rfl (by kernel_rfl) ?_
                have C2 := Lib.hid (q_write H73.out id y)
                rw [HER.out] at C2
                go_wp2_with (go_at_call 20; refine (C2.out).mono ?_; rintro e w74 ⟨rfl, ht⟩)
                have H74 : Hid (Zm.Pl w w74 b d ((aftWr D id y).map norm) (aftWr D id y) [rB bw (wc y), rB bv (ks .u64 l), rB bu (ddk.cf x), rB ba (ks .u64 at_)]) := by
                  show Zm.Pl _ _ _ _ _ _ _
                  rw [← HN9.out]
                  exact ht
                clear ht C2
                refine And.intro (fun _ => H74.out.sep.blk 0 rfl) ?_
                refine tr_one 12 rfl (by kernel_rfl) ?_
                go_wp2_with fail
                refine And.intro (fun _ => H74.out.sep.blk 0 rfl) ?_
                refine tr_one 13 rfl (by kernel_rfl) ?_
                go_wp2_with fail
                refine And.intro (fun _ => H74.out.sep.blk 0 rfl) ?_
                refine tr_end (by kernel_rfl) ?_
                go_wp2_with fail
                go_meet
                exact ⟨rfl, _, H74⟩
              · skip
                refine build_iw rfl _ rfl y rfl ?_
                intro w72 A72 B72 Z72
                have HA72 := Lib.hid A72
                have H72 := Lib.hid (Zm.Pl.push HPd.out B72 (rB w17.drew.heap.size (wc y)) A72 (fun k hk => by simp only [rB, List.mem_singleton] at hk; subst hk; exact ⟨Nat.le_refl _, by rw [Z72]; exact Nat.lt_succ_self _⟩))
                have HWS : Hid (IsWs w72 (.slice (some ⟨w17.drew.heap.size, 0, none⟩) 1 1) [y]) := isW_of (IsR.one (K := wk) A72 (by rw [Z72]; exact Nat.lt_succ_self _))
                clear A72 B72 Z72
                go_wp2_with fail
                refine And.intro (fun _ => H72.out.sep.blk 1 rfl) ?_
                refine tr_one 3 rfl (by kernel_rfl) ?_
                have C1 := Lib.hid (p_write H72.out id y)
                rw [HE.out, HER.out] at C1
                go_wp2_with (go_at_call 19; refine (C1.out).mono ?_; rintro e w70 ⟨rfl, ht⟩)
                have HWS : Hid (IsWs w70 (.slice (some ⟨w17.drew.heap.size, 0, none⟩) 1 1) [y]) := isW_of (IsR.one (K := wk) (ht.sep.blk 0 rfl) (ht.sep.lt 0 (r := rB w17.drew.heap.size (wc y)) rfl _ (by simp [rB])).2)
                have H70 := Lib.hid (ht.sub (List.sublist_cons_self _ _))
                clear ht C1
                refine And.intro (fun _ => H70.out.sep.blk 0 rfl) ?_
                refine tr_one 8 rfl (by kernel_rfl) ?_
                have C3 := Lib.hid (It.refwrites_any _ [y] _ HWS.out (by simp))
                go_wp2_with (go_at_call 21; refine (C3.out).mono ?_; rintro e w73 ⟨v9, rfl, how, hb⟩)
                have H73 := Lib.hid (H70.out.below hb)
                have hor : OR wk 56 w73 w70.heap.size v9 [y] := ⟨how.own⟩
                obtain ⟨g9, cp9, cur9, ev9, _, _⟩ := OR.some hor (by simp)
                have ev9 : v9 = .slice (some ⟨g9, 0, none⟩) 1 cp9 := ev9
                subst ev9
                have hr9 := (isr_four hor.is 0 (by simp)).2
                have HR9 : Hid (w73.rangeAt g9 0 (wc y)) := hr9
                have hix9 : ∀ w, (Instr.indexAt 33 (.slice (some ⟨g9, 0, none⟩) 1 cp9) (.int .i64 0)).run Try.prog w = .ok (.pointer (some ⟨g9, 0, none⟩)) w := fun w => index_rw g9 0 1 cp9 0 (by decide) w
                clear how hb C3 hor hr9
                refine And.intro (fun _ => H73.out.sep.blk 0 rfl) ?_
                refine tr_one 9 rfl (by kernel_rfl) ?_
                go_wp2_with fail
                clear hix9
                refine And.intro (fun _ => H73.out.sep.blk 0 rfl) ?_
                refine tr_one 10 rfl (by kernel_rfl) ?_
                go_wp2_with (first | refine mid_load rfl 56 _ rfl g9 0 rfl (wc y) HR9.out _ Try.underlying56 rfl It.Try.size_rw ?_)
                refine And.intro (fun _ => H73.out.sep.blk 0 rfl) ?_
                refine tr_one 11 rfl (by kernel_rfl) ?_
                have C2 := Lib.hid (q_write H73.out id y)
                rw [HER.out] at C2
                go_wp2_with (go_at_call 20; refine (C2.out).mono ?_; rintro e w74 ⟨rfl, ht⟩)
                have H74 : Hid (Zm.Pl w w74 b d ((aftWr D id y).map norm) (aftWr D id y) [rB bw (wc y), rB bv (ks .u64 l), rB bu (ddk.cf x), rB ba (ks .u64 at_)]) := by
                  show Zm.Pl _ _ _ _ _ _ _
                  rw [← HN9.out]
                  exact ht
                clear ht C2
                refine And.intro (fun _ => H74.out.sep.blk 0 rfl) ?_
                refine tr_one 12 rfl (by kernel_rfl) ?_
                go_wp2_with fail
                refine And.intro (fun _ => H74.out.sep.blk 0 rfl) ?_
                refine tr_one 13 rfl (by kernel_rfl) ?_
                go_wp2_with fail
                refine And.intro (fun _ => H74.out.sep.blk 0 rfl) ?_
                refine tr_end (by kernel_rfl) ?_
                go_wp2_with fail
                go_meet
                exact ⟨rfl, _, H74⟩
          · as_aux_lemma =>
              have HE := Lib.hid (errEnd_norm D id)
              have HN9 := Lib.hid (end_norm D id)
              have C1 := Lib.hid (Zm.p_end H17.out id)
              obtain ⟨er, HER⟩ : ∃ er, Hid (errEnd D id = er) := ⟨_, rfl⟩
              rw [HE.out, HER.out] at C1
              have hee : (er == er) = true := beq_self_eq_true er
              go_wp2_with fail
              refine (C1.out).mono ?_; rintro e w70 ⟨rfl, ht⟩
              have C2 := Lib.hid (q_end ht id)
              rw [HER.out] at C2
              clear ht C1
              go_wp2_with fail
              refine (C2.out).mono ?_; rintro e w71 ⟨rfl, ht⟩
              have H71 : Hid (Zm.Pl w w71 b d ((shutAll D id).map norm) (shutAll D id) [rB bw (wc y), rB bv (ks .u64 l), rB bu (ddk.cf x), rB ba (ks .u64 at_)]) := by
                show Zm.Pl _ _ _ _ _ _ _
                rw [← HN9.out]
                exact ht
              clear ht C2
              go_wp2_with fail
              go_meet
              exact ⟨rfl, _, H71⟩
          · as_aux_lemma =>
              have HN9 := Lib.hid (see_norm D id l)
              have HPd := Lib.hid (H17.out.below (Below.refl _ _).drew)
              have C1 := Lib.hid (p_see HPd.out id l HLO.out)
              obtain ⟨er, HER⟩ : ∃ er, Hid (okSee id l = er) := ⟨_, rfl⟩
              rw [HER.out] at C1
              have hee : (er == er) = true := beq_self_eq_true er
              go_wp2_with fail
              refine region_pickC (fun u => Blk u bv (ks .u64 l)) 10 [0, 1, 2, 4, 5, 6] [3, 7, 8, 9] Try.mixed (by kernel_rfl) rfl (by kernel_rfl) (HPd.out.sep.blk 1 rfl) ?_
              refine p_readC rfl ?_
              refine c_move rfl _ rfl (.pointer (some ⟨b, 0, none⟩)) rfl (fun _ _ _ h => h) (fun K hK => ?_)
              go_simp
              refine hK _ ?_
              clear hK K
              refine c_nil ?_
              refine p_readC rfl ?_
              refine c_move rfl _ rfl (.int .i64 id) rfl (fun _ _ _ h => h) (fun K hK => ?_)
              go_simp
              refine hK _ ?_
              clear hK K
              refine c_nil ?_
              refine p_readC rfl ?_
              refine ct_mid_load rfl 25 _ rfl bv 0 rfl (ks .u64 l) (fun u hu => hu.1) _ Try.underlying25 rfl HLZ.out (fun _ _ _ h => h) (fun K hK => ?_)
              go_simp
              refine hK _ ?_
              clear hK K
              refine c_nil ?_
              refine p_readC rfl ?_
              refine c_move rfl _ rfl (.pointer (some ⟨d, 0, none⟩)) rfl (fun _ _ _ h => h) (fun K hK => ?_)
              go_simp
              refine hK _ ?_
              clear hK K
              refine c_nil ?_
              refine p_readC rfl ?_
              refine c_move rfl _ rfl (.int .i64 id) rfl (fun _ _ _ h => h) (fun K hK => ?_)
              go_simp
              refine hK _ ?_
              clear hK K
              refine c_nil ?_
              refine p_readC rfl ?_
              refine ct_mid_load rfl 25 _ rfl bv 0 rfl (ks .u64 l) (fun u hu => hu.1) _ Try.underlying25 rfl HLZ.out (fun _ _ _ h => h) (fun K hK => ?_)
              go_simp
              refine hK _ ?_
              clear hK K
              refine c_nil ?_
              refine p_nilC ?_
              refine p_stepC rfl ?_
              go_wp2_with (go_at_call 17; refine (C1.out).mono ?_; rintro e w70 ⟨rfl, ht⟩)
              have H70 := Lib.hid ht
              have C2 := Lib.hid (q_see H70.out id l HLO.out)
              rw [HER.out] at C2
              clear ht C1
              refine And.intro (fun _ => H70.out.sep.blk 1 rfl) ?_
              refine p_stepC rfl ?_
              go_wp2_with (go_at_call 18; refine (C2.out).mono ?_; rintro e w71 ⟨rfl, ht⟩)
              have H71 : Hid (Zm.Pl w w71 b d ((aftSee D id l).map norm) (aftSee D id l) [rB bw (wc y), rB bv (ks .u64 l), rB bu (ddk.cf x), rB ba (ks .u64 at_)]) := by
                show Zm.Pl _ _ _ _ _ _ _
                rw [← HN9.out]
                exact ht
              clear ht C2
              refine And.intro (fun _ => H71.out.sep.blk 1 rfl) ?_
              refine p_stepC rfl ?_
              go_wp2_with fail
              refine And.intro (fun _ => H71.out.sep.blk 1 rfl) ?_
              refine p_stepC rfl ?_
              go_wp2_with fail
              refine And.intro (fun _ => H71.out.sep.blk 1 rfl) ?_
              refine p_endC ?_
              go_wp2_with fail
              go_meet
              exact ⟨rfl, _, H71⟩
          · as_aux_lemma =>
              have HN9 := Lib.hid (see_norm D id l)
              have HPd := Lib.hid (H17.out.below (Below.refl _ _).drew)
              have C1 := Lib.hid (p_see HPd.out id l HLO.out)
              obtain ⟨er, HER⟩ : ∃ er, Hid (okSee id l = er) := ⟨_, rfl⟩
              rw [HER.out] at C1
              have hee : (er == er) = true := beq_self_eq_true er
              go_wp2_with fail
              refine region_pickC (fun u => Blk u bv (ks .u64 l)) 10 [0, 1, 2, 4, 5, 6] [3, 7, 8, 9] Try.mixed (by kernel_rfl) rfl (by kernel_rfl) (HPd.out.sep.blk 1 rfl) ?_
              refine p_readC rfl ?_
              refine c_move rfl _ rfl (.pointer (some ⟨b, 0, none⟩)) rfl (fun _ _ _ h => h) (fun K hK => ?_)
              go_simp
              refine hK _ ?_
              clear hK K
              refine c_nil ?_
              refine p_readC rfl ?_
              refine c_move rfl _ rfl (.int .i64 id) rfl (fun _ _ _ h => h) (fun K hK => ?_)
              go_simp
              refine hK _ ?_
              clear hK K
              refine c_nil ?_
              refine p_readC rfl ?_
              refine ct_mid_load rfl 25 _ rfl bv 0 rfl (ks .u64 l) (fun u hu => hu.1) _ Try.underlying25 rfl HLZ.out (fun _ _ _ h => h) (fun K hK => ?_)
              go_simp
              refine hK _ ?_
              clear hK K
              refine c_nil ?_
              refine p_readC rfl ?_
              refine c_move rfl _ rfl (.pointer (some ⟨d, 0, none⟩)) rfl (fun _ _ _ h => h) (fun K hK => ?_)
              go_simp
              refine hK _ ?_
              clear hK K
              refine c_nil ?_
              refine p_readC rfl ?_
              refine c_move rfl _ rfl (.int .i64 id) rfl (fun _ _ _ h => h) (fun K hK => ?_)
              go_simp
              refine hK _ ?_
              clear hK K
              refine c_nil ?_
              refine p_readC rfl ?_
              refine ct_mid_load rfl 25 _ rfl bv 0 rfl (ks .u64 l) (fun u hu => hu.1) _ Try.underlying25 rfl HLZ.out (fun _ _ _ h => h) (fun K hK => ?_)
              go_simp
              refine hK _ ?_
              clear hK K
              refine c_nil ?_
              refine p_nilC ?_
              refine p_stepC rfl ?_
              go_wp2_with (go_at_call 17; refine (C1.out).mono ?_; rintro e w70 ⟨rfl, ht⟩)
              have H70 := Lib.hid ht
              have C2 := Lib.hid (q_see H70.out id l HLO.out)
              rw [HER.out] at C2
              clear ht C1
              refine And.intro (fun _ => H70.out.sep.blk 1 rfl) ?_
              refine p_stepC rfl ?_
              go_wp2_with (go_at_call 18; refine (C2.out).mono ?_; rintro e w71 ⟨rfl, ht⟩)
              have H71 : Hid (Zm.Pl w w71 b d ((aftSee D id l).map norm) (aftSee D id l) [rB bw (wc y), rB bv (ks .u64 l), rB bu (ddk.cf x), rB ba (ks .u64 at_)]) := by
                show Zm.Pl _ _ _ _ _ _ _
                rw [← HN9.out]
                exact ht
              clear ht C2
              refine And.intro (fun _ => H71.out.sep.blk 1 rfl) ?_
              refine p_stepC rfl ?_
              go_wp2_with fail
              refine And.intro (fun _ => H71.out.sep.blk 1 rfl) ?_
              refine p_stepC rfl ?_
              go_wp2_with fail
              refine And.intro (fun _ => H71.out.sep.blk 1 rfl) ?_
              refine p_endC ?_
              go_wp2_with fail
              go_meet
              exact ⟨rfl, _, H71⟩
        case rest =>
        rename World => w20
        obtain ⟨rfl, D9, H20⟩ := hcut
        clear tk1 tk2 tk3 c0 HK HKL H17
        obtain ⟨sn, HSN⟩ : ∃ q, Hid ((norm (gt D9 id)).snap = q) := ⟨_, rfl⟩
        obtain ⟨op, HOP⟩ : ∃ q, Hid ((gt D9 id).opn = q) := ⟨_, rfl⟩
        obtain ⟨z, HZW⟩ : ∃ q, Hid (ownV (norm (gt D9 id)).wr (y.1, y.2.1) = q) := ⟨_, rfl⟩
        obtain ⟨oq, HOQ⟩ : ∃ q, Hid (ownB (norm (gt D9 id)).wr (y.1, y.2.1) = q) := ⟨_, rfl⟩
        obtain ⟨LW, HLW⟩ : ∃ q, Hid ((norm (gt D9 id)).wr = q) := ⟨_, rfl⟩
        obtain ⟨se, HSE⟩ : ∃ q, Hid ((gt D9 id).seen = q) := ⟨_, rfl⟩
        obtain ⟨hz, HHZ⟩ : ∃ q, Hid (horizon D9 at_ = q) := ⟨_, rfl⟩
        obtain ⟨mn, HMN⟩ : ∃ q, Hid (many D9 = q) := ⟨_, rfl⟩
        have HSN4 : Hid (sn.length = 4) := by show _ = _; rw [← HSN.out]; exact (norm_ok (gt_ok H20.out.goodD.ok id)).snap.1
        have HSE4 : Hid (se.length = 4) := by show _ = _; rw [← HSE.out]; exact (gt_ok H20.out.goodD.ok id).seen.1
        have HHZ4 : Hid (hz.length = 4) := by show _ = _; rw [← HHZ.out]; exact hz_len H20.out.goodD HAO.out
        have HLW8 : Hid (LW.length ≤ 8) := by show _ ≤ _; rw [← HLW.out]; exact (norm_ok (gt_ok H20.out.goodD.ok id)).len
        have HSZn : Hid ((Try.prog.info? 25).map (·.size) = some (ks .u64 sn).length) := by show _ = _; rw [ks_length]; exact size_v HSN4.out
        have HSZr : Hid ((Try.prog.info? 32).map (·.size) = some (ks .u64 sn).length) := by show _ = _; rw [ks_length]; exact size_r HSN4.out
        have HLNn : Hid ((ks .u64 sn).length = (ks .u64 [0, 0, 0, 0]).length) := by show _ = _; rw [ks_length, HSN4.out]; rfl
        have C := Lib.hid (p_snap H20.out id)
        rw [HSN.out, HOP.out] at C
        go_wp2_with fail
        refine (C.out).mono ?_; rintro e w21 ⟨rfl, hb⟩
        have H21 := Lib.hid (H20.out.below hb)
        clear hb C H20
        go_wp2_with (first | refine blk_alloc rfl 25 (ks .u64 [0, 0, 0, 0]) rfl Try.info_v ?_)
        intro w22 A22 B22 Z22
        have HA := Lib.hid A22
        have HB := Lib.hid B22
        have HZ := Lib.hid Z22
        clear A22 B22 Z22
        go_wp2_with (first | refine blk_store rfl 25 _ _ rfl w21.heap.size rfl (ks .u64 sn) rfl (ks .u64 [0, 0, 0, 0]) HA.out HLNn.out HSZn.out (ks_all _ _) ?_)
        intro w23 A23 U23
        have H23 := Lib.hid (H21.out.fresh HB.out HZ.out U23 A23)
        clear A23 U23 HA HB HZ H21
        obtain ⟨b15, HBN⟩ : ∃ q, Hid (w21.heap.size = q) := ⟨_, rfl⟩
        rw [HBN.out] at H23
        rw [HBN.out]
        clear HBN
        have C := Lib.hid (q_snap H23.out id)
        rw [HSN.out, HOP.out] at C
        go_wp2_with fail
        refine (C.out).mono ?_; rintro e w24 ⟨rfl, hb⟩
        have H24 := Lib.hid (H23.out.below hb)
        clear hb C H23
        go_wp2_with (first | refine blk_alloc rfl 32 (ks .u64 [0, 0, 0, 0]) rfl info_rv4 ?_)
        intro w25 A25 B25 Z25
        have HA := Lib.hid A25
        have HB := Lib.hid B25
        have HZ := Lib.hid Z25
        clear A25 B25 Z25
        go_wp2_with (first | refine blk_store rfl 32 _ _ rfl w24.heap.size rfl (ks .u64 sn) rfl (ks .u64 [0, 0, 0, 0]) HA.out HLNn.out HSZr.out (ks_all _ _) ?_)
        intro w26 A26 U26
        have H26 := Lib.hid (H24.out.fresh HB.out HZ.out U26 A26)
        clear A26 U26 HA HB HZ H24
        obtain ⟨b17, HBN⟩ : ∃ q, Hid (w24.heap.size = q) := ⟨_, rfl⟩
        rw [HBN.out] at H26
        rw [HBN.out]
        clear HBN
        have e0 := (H26.out.sep.blk 2 rfl).cell 0 _ rfl
        have e1 := (H26.out.sep.blk 2 rfl).cell 1 _ rfl
        have C := Lib.hid (p_own H26.out id y.1 y.2.1)
        rw [HZW.out, HOQ.out] at C
        go_wp2_with fail
        refine (C.out).mono ?_; rintro e w27 ⟨rfl, hb⟩
        have H27 := Lib.hid (H26.out.below hb)
        clear hb C H26
        clear e0 e1
        go_wp2_with (first | refine blk_alloc rfl 41 (wc I.none_) rfl It.Try.info_iw2 ?_)
        intro w28 A28 B28 Z28
        have HA := Lib.hid A28
        have HB := Lib.hid B28
        have HZ := Lib.hid Z28
        clear A28 B28 Z28
        go_wp2_with (first | refine blk_store rfl 41 _ _ rfl w27.heap.size rfl (wc z) rfl (wc I.none_) HA.out rfl It.Try.size_w (It.one_wc z) ?_)
        intro w29 A29 U29
        have H29 := Lib.hid (H27.out.fresh HB.out HZ.out U29 A29)
        clear A29 U29 HA HB HZ H27
        obtain ⟨b19, HBN⟩ : ∃ q, Hid (w27.heap.size = q) := ⟨_, rfl⟩
        rw [HBN.out] at H29
        rw [HBN.out]
        clear HBN
        have e0 := (H29.out.sep.blk 3 rfl).cell 0 _ rfl
        have e1 := (H29.out.sep.blk 3 rfl).cell 1 _ rfl
        have C := Lib.hid (q_own H29.out id y.1 y.2.1)
        rw [HZW.out, HOQ.out] at C
        go_wp2_with fail
        refine (C.out).mono ?_; rintro e w30 ⟨rfl, hb⟩
        have H30 := Lib.hid (H29.out.below hb)
        clear hb C H29
        clear e0 e1
        go_wp2_with (first | refine blk_alloc rfl 56 (wc I.none_) rfl It.Try.info_rw2 ?_)
        intro w31 A31 B31 Z31
        have HA := Lib.hid A31
        have HB := Lib.hid B31
        have HZ := Lib.hid Z31
        clear A31 B31 Z31
        go_wp2_with (first | refine blk_store rfl 56 _ _ rfl w30.heap.size rfl (wc z) rfl (wc I.none_) HA.out rfl It.Try.size_rw (It.one_wc z) ?_)
        intro w32 A32 U32
        have H32 := Lib.hid (H30.out.fresh HB.out HZ.out U32 A32)
        clear A32 U32 HA HB HZ H30
        obtain ⟨b21, HBN⟩ : ∃ q, Hid (w30.heap.size = q) := ⟨_, rfl⟩
        rw [HBN.out] at H32
        rw [HBN.out]
        clear HBN
        have C := Lib.hid (p_writes H32.out id)
        rw [HLW.out] at C
        go_wp2_with fail
        refine (C.out).mono ?_; rintro e w40 ⟨vp, rfl, hor, hb⟩
        have H40 := Lib.hid (H32.out.below hb)
        have C3 := Lib.hid (It.refwrites_any vp LW _ (isW_of hor.is) (by have := HLW8.out; omega))
        clear hor hb C H32
        go_wp2_with fail
        refine (C3.out).mono ?_; rintro e w41 ⟨vq, rfl, how, hb⟩
        have H41 := Lib.hid (H40.out.below hb)
        have hor : OR wk 56 w41 w40.heap.size vq LW := ⟨how.own⟩
        obtain ⟨sp, cp, ev, hsp⟩ := or_first hor
        subst ev
        obtain ⟨m, HMM⟩ : ∃ m, Hid (LW.length = m) := ⟨_, rfl⟩
        rw [HMM.out] at hsp hor
        rw [HMM.out]
        have HSP := Lib.hid hsp
        have HPR := Lib.hid hor.is
        have C := Lib.hid (q_writes H41.out id)
        rw [HLW.out] at C
        clear how hb C3 H40 hor hsp
        go_wp2_with fail
        refine (C.out).mono ?_; rintro e w42 ⟨vr, rfl, hor, hb⟩
        have H42 := Lib.hid (H41.out.below hb)
        have HPR2 := Lib.hid (HPR.out.below hb)
        obtain ⟨sq, cq, ev, hsq⟩ := or_first hor
        subst ev
        rw [HMM.out] at hsq hor
        rw [HMM.out]
        have HSQ := Lib.hid hsq
        have HQR := Lib.hid hor.is
        clear hb C H41 HPR hor hsq
        have KQb15 : Hid (∀ u, Below w42.heap.size w42 u → u.rangeAt b15 0 (ks .u64 sn)) := fun u hu => ((H42.out.below hu).sep.blk 3 rfl).1
        have KQb17 : Hid (∀ u, Below w42.heap.size w42 u → u.rangeAt b17 0 (ks .u64 sn)) := fun u hu => ((H42.out.below hu).sep.blk 2 rfl).1
        have KQb19 : Hid (∀ u, Below w42.heap.size w42 u → u.rangeAt b19 0 (wc z)) := fun u hu => ((H42.out.below hu).sep.blk 1 rfl).1
        have KQb21 : Hid (∀ u, Below w42.heap.size w42 u → u.rangeAt b21 0 (wc z)) := fun u hu => ((H42.out.below hu).sep.blk 0 rfl).1
        have KQba : Hid (∀ u, Below w42.heap.size w42 u → u.rangeAt ba 0 (ks .u64 at_)) := fun u hu => ((H42.out.below hu).sep.blk 7 rfl).1
        have XS1 : Hid (∀ u, Below w42.heap.size w42 u → Calls Try.prog 28 [(.pointer (some ⟨b, 0, none⟩)), (.int .i64 id)].toArray u fun e u' => e = .returned (AV .u64 se) ∧ Below u.heap.size u u') := fun u hu => by
          have h9 := p_seen (H42.out.below hu) id
          rw [HSE.out] at h9
          exact h9
        have XS2 : Hid (∀ u, Below w42.heap.size w42 u → Calls Try.prog 29 [(.pointer (some ⟨d, 0, none⟩)), (.int .i64 id)].toArray u fun e u' => e = .returned (AV .u64 se) ∧ Below u.heap.size u u') := fun u hu => by
          have h9 := q_seen (H42.out.below hu) id
          rw [HSE.out] at h9
          exact h9
        have XH1 : Hid (∀ u, Below w42.heap.size w42 u → Calls Try.prog 30 [(.pointer (some ⟨b, 0, none⟩)), AV .u64 at_].toArray u fun e u' => e = .returned (AV .u64 hz) ∧ Below u.heap.size u u') := fun u hu => by
          have h9 := p_hor (H42.out.below hu) at_ HAO.out
          rw [HHZ.out] at h9
          exact h9
        have XH2 : Hid (∀ u, Below w42.heap.size w42 u → Calls Try.prog 31 [(.pointer (some ⟨d, 0, none⟩)), AV .u64 at_].toArray u fun e u' => e = .returned (AV .u64 hz) ∧ Below u.heap.size u u') := fun u hu => by
          have h9 := q_hor (H42.out.below hu) at_ HAO.out
          rw [HHZ.out] at h9
          exact h9
        have XM1 : Hid (∀ u, Below w42.heap.size w42 u → Calls Try.prog 32 [(.pointer (some ⟨b, 0, none⟩))].toArray u fun e u' => e = .returned (.int .i64 (mn : Int)) ∧ Below u.heap.size u u') := fun u hu => by
          have h9 := p_many (H42.out.below hu)
          rw [HMN.out] at h9
          exact h9
        have XM2 : Hid (∀ u, Below w42.heap.size w42 u → Calls Try.prog 33 [(.pointer (some ⟨d, 0, none⟩))].toArray u fun e u' => e = .returned (.int .i64 (mn : Int)) ∧ Below u.heap.size u u') := fun u hu => by
          have h9 := q_many (H42.out.below hu)
          rw [HMN.out] at h9
          exact h9
        have XRW : Hid (∀ u v, IsWs u v [z] → Calls Try.prog 21 [v].toArray u fun e u' => ∃ v, e = .returned v ∧ Below u.heap.size u u' ∧ (Spc.isw z).S v ∧ (Spc.isw z).T u' v) := fun u v hI => by
          refine (It.refwrites_any v [z] u hI (by simp)).mono ?_
          rintro e u' ⟨v9, rfl, ho, hb⟩
          have hi := OW.is ho
          obtain ⟨g, o, c9, hv, _, _⟩ := IsR.at (isR_of hi) 0 (by simp)
          exact ⟨v9, rfl, hb, ⟨g, o, c9, hv⟩, hi⟩
        have hix9 : ∀ b off cap w, (Instr.indexAt 33 (.slice (some ⟨b, off, none⟩) 1 cap) (.int .i64 0)).run Try.prog w = .ok (.pointer (some ⟨b, off, none⟩)) w := fun b off cap w => index_rw b off 1 cap 0 (by decide) w
        have hopp : (op == op) = true := beq_self_eq_true op
        have hoqq : (oq == oq) = true := beq_self_eq_true oq
        have hmmm : ((m : Int) == (m : Int)) = true := beq_self_eq_true _
        have hmnn : ((mn : Int) == (mn : Int)) = true := beq_self_eq_true _
        go_wp2_with fail
        refine region_rel [Spc.eq (.bool true), Spc.eq (.bool false), Spc.eq (.bool false), Spc.eq (.agg (ks .u64 sn).toArray), Spc.eq (.agg (ks .u64 sn).toArray), Spc.eq (.bool false), Spc.eq (.bool false), Spc.eq (.bool false), Spc.eq (.bool op), Spc.eq (.bool op), Spc.eq (.bool false), Spc.eq (.bool false), Spc.eq (.bool false), Spc.eq (.agg (wc z).toArray), Spc.isw z, Spc.isw z, Spc.cells (wc z), Spc.eq (.agg (wc z).toArray), Spc.eq (.agg (wc z).toArray), Spc.eq (.bool false), Spc.eq (.bool false), Spc.eq (.bool false), Spc.eq (.bool oq), Spc.eq (.bool oq), Spc.eq (.bool false), Spc.eq (.bool false), Spc.eq (.bool false), Spc.eq (.slice sp m cp), Spc.eq (.int .i64 (m : Int)), Spc.eq (.slice sq m cq), Spc.eq (.int .i64 (m : Int)), Spc.eq (.bool false), Spc.eq (.bool false), Spc.eq (.bool false), Spc.eq (.pointer (some ⟨b, 0, none⟩)), Spc.eq (.int .i64 id), Spc.eq (AV .u64 se), Spc.eq (.pointer (some ⟨d, 0, none⟩)), Spc.eq (.int .i64 id), Spc.eq (AV .u64 se), Spc.eq (.bool false), Spc.eq (.bool false), Spc.eq (.bool false), Spc.eq (.pointer (some ⟨b, 0, none⟩)), Spc.eq (.agg (ks .u64 at_).toArray), Spc.eq (AV .u64 hz), Spc.eq (.pointer (some ⟨d, 0, none⟩)), Spc.eq (.agg (ks .u64 at_).toArray), Spc.eq (AV .u64 hz), Spc.eq (.bool false), Spc.eq (.bool false), Spc.eq (.bool false), Spc.eq (.pointer (some ⟨b, 0, none⟩)), Spc.eq (.int .i64 (mn : Int)), Spc.eq (.pointer (some ⟨d, 0, none⟩)), Spc.eq (.int .i64 (mn : Int)), Spc.eq (.bool false), Spc.eq (.bool false)] Try.mixed (by kernel_rfl) ?_
        refine r_value rfl (fun u hu hn => by go_simp) (fun K hK => ?_)
        go_simp
        refine hK _ ?_
        clear hK K
        refine r_value rfl (fun u hu hn => by go_simp) (fun K hK => ?_)
        go_simp
        refine hK _ ?_
        clear hK K
        refine r_value rfl (fun u hu hn => by go_simp) (fun K hK => ?_)
        go_simp
        refine hK _ ?_
        clear hK K
        refine rg_blk_load (by rfl) 25 _ rfl b15 0 rfl (by intro u hu hn; exact KQb15.out u hu) _ Try.underlying25 rfl HSZn.out (fun K hK => ?_)
        go_simp
        refine hK _ ?_
        clear hK K
        refine rg_blk_load (by rfl) 32 _ rfl b17 0 rfl (by intro u hu hn; exact KQb17.out u hu) _ Try.underlying32 rfl HSZr.out (fun K hK => ?_)
        go_simp
        refine hK _ ?_
        clear hK K
        refine rg_value (by rfl) (fun u hu hn => run_eql u .neq 32 32 _ _ (AV .u64 sn) (AV .u64 sn) _ rfl rfl rfl (guard_nrv _ _ _ _ u) (neq_rv _ HSN4.out u)) (fun K hK => ?_)
        go_simp
        refine hK _ ?_
        clear hK K
        refine r_value rfl (fun u hu hn => by go_simp) (fun K hK => ?_)
        go_simp
        refine hK _ ?_
        clear hK K
        refine r_value rfl (fun u hu hn => by go_simp) (fun K hK => ?_)
        go_simp
        refine hK _ ?_
        clear hK K
        refine rg_value (by rfl) (fun u hu hn => by go_simp) (fun K hK => ?_)
        go_simp
        refine hK _ ?_
        clear hK K
        refine rg_value (by rfl) (fun u hu hn => by go_simp) (fun K hK => ?_)
        go_simp
        refine hK _ ?_
        clear hK K
        refine rg_value (by rfl) (fun u hu hn => by have hs := hopp; go_simp) (fun K hK => ?_)
        go_simp
        refine hK _ ?_
        clear hK K
        refine r_value rfl (fun u hu hn => by go_simp) (fun K hK => ?_)
        go_simp
        refine hK _ ?_
        clear hK K
        refine r_value rfl (fun u hu hn => by go_simp) (fun K hK => ?_)
        go_simp
        refine hK _ ?_
        clear hK K
        refine rg_blk_load (by rfl) 41 _ rfl b19 0 rfl (by intro u hu hn; exact KQb19.out u hu) _ Try.underlying41 rfl It.Try.size_w (fun K hK => ?_)
        go_simp
        refine hK _ ?_
        clear hK K
        refine rg_row1 (by rfl) 41 (fun u hu => by go_simp; rfl) (fun v hv K hK => ?_)
        obtain ⟨sb, so, sc, rfl⟩ := hv
        go_simp
        refine hK _ ?_
        clear hK K
        refine rg_call (by rfl) 21 Try.f21 Try.func21 rfl rfl _ _ rfl _ rfl (by intro u hu hn; exact XRW.out u _ (hn.get 14 0 rfl rfl _ rfl)) (fun v hv K hK => ?_)
        obtain ⟨sb, so, sc, rfl⟩ := hv
        go_simp
        refine hK _ ?_
        clear hK K
        refine rg_fact (by rfl) (.pointer (some ⟨sb, so, none⟩)) ⟨_, _, rfl⟩ (fun u hu hn => ⟨by have h9 := hix9 sb so sc u; go_simp, ⟨sb, so, rfl, isw_at (hn.get 15 0 rfl rfl _ rfl)⟩⟩) (fun v hv K hK => ?_)
        obtain ⟨tb, to_, rfl⟩ := hv
        go_simp
        refine hK _ ?_
        clear hK K
        refine rg_blk_load (by rfl) 56 _ rfl tb to_ rfl (by intro u hu hn; exact cells_get (hn.get 16 0 rfl rfl _ rfl)) _ Try.underlying56 rfl It.Try.size_rw (fun K hK => ?_)
        go_simp
        refine hK _ ?_
        clear hK K
        refine rg_blk_load (by rfl) 56 _ rfl b21 0 rfl (by intro u hu hn; exact KQb21.out u hu) _ Try.underlying56 rfl It.Try.size_rw (fun K hK => ?_)
        go_simp
        refine hK _ ?_
        clear hK K
        refine rg_value (by rfl) (fun u hu hn => run_eql u .neq 56 56 _ _ (WV z) (WV z) _ rfl rfl rfl (guard_rw _ _ _ _ _ _) (by rw [neq_rw]; simp)) (fun K hK => ?_)
        go_simp
        refine hK _ ?_
        clear hK K
        refine r_value rfl (fun u hu hn => by go_simp) (fun K hK => ?_)
        go_simp
        refine hK _ ?_
        clear hK K
        refine r_value rfl (fun u hu hn => by go_simp) (fun K hK => ?_)
        go_simp
        refine hK _ ?_
        clear hK K
        refine rg_value (by rfl) (fun u hu hn => by go_simp) (fun K hK => ?_)
        go_simp
        refine hK _ ?_
        clear hK K
        refine rg_value (by rfl) (fun u hu hn => by go_simp) (fun K hK => ?_)
        go_simp
        refine hK _ ?_
        clear hK K
        refine rg_value (by rfl) (fun u hu hn => by have hs := hoqq; go_simp) (fun K hK => ?_)
        go_simp
        refine hK _ ?_
        clear hK K
        refine r_value rfl (fun u hu hn => by go_simp) (fun K hK => ?_)
        go_simp
        refine hK _ ?_
        clear hK K
        refine r_value rfl (fun u hu hn => by go_simp) (fun K hK => ?_)
        go_simp
        refine hK _ ?_
        clear hK K
        refine rg_value (by rfl) (fun u hu hn => by go_simp) (fun K hK => ?_)
        go_simp
        refine hK _ ?_
        clear hK K
        refine rg_value (by rfl) (fun u hu hn => by go_simp) (fun K hK => ?_)
        go_simp
        refine hK _ ?_
        clear hK K
        refine rg_value (by rfl) (fun u hu hn => by go_simp) (fun K hK => ?_)
        go_simp
        refine hK _ ?_
        clear hK K
        refine rg_value (by rfl) (fun u hu hn => by go_simp) (fun K hK => ?_)
        go_simp
        refine hK _ ?_
        clear hK K
        refine rg_value (by rfl) (fun u hu hn => by have hs := hmmm; go_simp) (fun K hK => ?_)
        go_simp
        refine hK _ ?_
        clear hK K
        refine r_value rfl (fun u hu hn => by go_simp) (fun K hK => ?_)
        go_simp
        refine hK _ ?_
        clear hK K
        refine r_value rfl (fun u hu hn => by go_simp) (fun K hK => ?_)
        go_simp
        refine hK _ ?_
        clear hK K
        refine rg_value (by rfl) (fun u hu hn => by go_simp) (fun K hK => ?_)
        go_simp
        refine hK _ ?_
        clear hK K
        refine rg_value (by rfl) (fun u hu hn => by go_simp) (fun K hK => ?_)
        go_simp
        refine hK _ ?_
        clear hK K
        refine rg_callv (by rfl) 28 Try.f28 Try.func28 rfl rfl _ _ rfl _ rfl (by intro u hu hn; exact XS1.out u hu) (fun K hK => ?_)
        go_simp
        refine hK _ ?_
        clear hK K
        refine rg_value (by rfl) (fun u hu hn => by go_simp) (fun K hK => ?_)
        go_simp
        refine hK _ ?_
        clear hK K
        refine rg_value (by rfl) (fun u hu hn => by go_simp) (fun K hK => ?_)
        go_simp
        refine hK _ ?_
        clear hK K
        refine rg_callv (by rfl) 29 Try.f29 Try.func29 rfl rfl _ _ rfl _ rfl (by intro u hu hn; exact XS2.out u hu) (fun K hK => ?_)
        go_simp
        refine hK _ ?_
        clear hK K
        refine rg_value (by rfl) (fun u hu hn => run_eql u .neq 32 32 _ _ (AV .u64 se) (AV .u64 se) _ rfl rfl rfl (guard_nrv _ _ _ _ u) (neq_rv _ HSE4.out u)) (fun K hK => ?_)
        go_simp
        refine hK _ ?_
        clear hK K
        refine r_value rfl (fun u hu hn => by go_simp) (fun K hK => ?_)
        go_simp
        refine hK _ ?_
        clear hK K
        refine r_value rfl (fun u hu hn => by go_simp) (fun K hK => ?_)
        go_simp
        refine hK _ ?_
        clear hK K
        refine rg_value (by rfl) (fun u hu hn => by go_simp) (fun K hK => ?_)
        go_simp
        refine hK _ ?_
        clear hK K
        refine rg_blk_load (by rfl) 25 _ rfl ba 0 rfl (by intro u hu hn; exact KQba.out u hu) _ Try.underlying25 rfl HSZ.out (fun K hK => ?_)
        go_simp
        refine hK _ ?_
        clear hK K
        refine rg_callv (by rfl) 30 Try.f30 Try.func30 rfl rfl _ _ rfl _ rfl (by intro u hu hn; exact XH1.out u hu) (fun K hK => ?_)
        go_simp
        refine hK _ ?_
        clear hK K
        refine rg_value (by rfl) (fun u hu hn => by go_simp) (fun K hK => ?_)
        go_simp
        refine hK _ ?_
        clear hK K
        refine rg_blk_load (by rfl) 25 _ rfl ba 0 rfl (by intro u hu hn; exact KQba.out u hu) _ Try.underlying25 rfl HSZ.out (fun K hK => ?_)
        go_simp
        refine hK _ ?_
        clear hK K
        refine rg_callv (by rfl) 31 Try.f31 Try.func31 rfl rfl _ _ rfl _ rfl (by intro u hu hn; exact XH2.out u hu) (fun K hK => ?_)
        go_simp
        refine hK _ ?_
        clear hK K
        refine rg_value (by rfl) (fun u hu hn => run_eql u .neq 32 32 _ _ (AV .u64 hz) (AV .u64 hz) _ rfl rfl rfl (guard_nrv _ _ _ _ u) (neq_rv _ HHZ4.out u)) (fun K hK => ?_)
        go_simp
        refine hK _ ?_
        clear hK K
        refine r_value rfl (fun u hu hn => by go_simp) (fun K hK => ?_)
        go_simp
        refine hK _ ?_
        clear hK K
        refine r_value rfl (fun u hu hn => by go_simp) (fun K hK => ?_)
        go_simp
        refine hK _ ?_
        clear hK K
        refine rg_value (by rfl) (fun u hu hn => by go_simp) (fun K hK => ?_)
        go_simp
        refine hK _ ?_
        clear hK K
        refine rg_callv (by rfl) 32 Try.f32 Try.func32 rfl rfl _ _ rfl _ rfl (by intro u hu hn; exact XM1.out u hu) (fun K hK => ?_)
        go_simp
        refine hK _ ?_
        clear hK K
        refine rg_value (by rfl) (fun u hu hn => by go_simp) (fun K hK => ?_)
        go_simp
        refine hK _ ?_
        clear hK K
        refine rg_callv (by rfl) 33 Try.f33 Try.func33 rfl rfl _ _ rfl _ rfl (by intro u hu hn; exact XM2.out u hu) (fun K hK => ?_)
        go_simp
        refine hK _ ?_
        clear hK K
        refine rg_value (by rfl) (fun u hu hn => by have hs := hmnn; go_simp) (fun K hK => ?_)
        go_simp
        refine hK _ ?_
        clear hK K
        refine r_value rfl (fun u hu hn => by go_simp) (fun K hK => ?_)
        go_simp
        refine hK _ ?_
        clear hK K
        refine r_nil ?_
        intro u hu hF
        have H43 := Lib.hid ((H42.out.below hu).sub (.cons _ (.cons _ (.cons _ (.cons _ (.cons _ (.cons _ (.cons _ (List.Sublist.refl _)))))))))
        have HPR3 := Lib.hid (HPR2.out.below hu)
        have HQR3 := Lib.hid (HQR.out.below hu)
        clear hF hu KQb15 KQb17 KQb19 KQb21 KQba XS1 XS2 XH1 XH2 XM1 XM2 XRW hix9 hopp hoqq hmmm hmnn HPR2 HQR H42
        have HB0 : Hid (Below u.heap.size u u) := Below.refl _ _
        have hm8 : (m : Int) ≤ 8 := by have := HLW8.out; have := HMM.out; omega
        go_wp2_with fail
        go_loopw [25] (fun x wr => ∃ k : Nat, k ≤ m ∧ x = .int .i64 k ∧ Hid (Below u.heap.size u wr)) (fun x _ => m - (intOf x).toNat)
        case atStart => exact ⟨0, by omega, rfl, HB0⟩
        case round =>
          obtain ⟨k, hk, rfl, HBr⟩ := hrel
          clear HB0
          by_cases hlt : k < m
          · have ilt : (k : Int) < (m : Int) := by omega
            obtain ⟨gp, hsp⟩ := HSP.out (by omega)
            obtain ⟨gq, hsq⟩ := HSQ.out (by omega)
            subst hsp
            subst hsq
            obtain ⟨x9, HX9⟩ : ∃ q, Hid (LW.getD k I.none_ = q) := ⟨_, rfl⟩
            have hr1 := fun u9 (hu : Below wr.heap.size wr u9) => isr_at4 (HPR3.out.below (HBr.out.trans (hu.mono HBr.out.size))) k (by rw [HMM.out]; exact hlt)
            have hr2 := fun u9 (hu : Below wr.heap.size wr u9) => isr_at4 (HQR3.out.below (HBr.out.trans (hu.mono HBr.out.size))) k (by rw [HMM.out]; exact hlt)
            rw [HX9.out] at hr1 hr2
            have HR1 : Hid (∀ u9, Below wr.heap.size wr u9 → u9.rangeAt gp (4 * k) (wc x9)) := fun u9 hu => (hr1 u9 hu).2
            have HR2 : Hid (∀ u9, Below wr.heap.size wr u9 → u9.rangeAt gq (4 * k) (wc x9)) := fun u9 hu => (hr2 u9 hu).2
            have HI1 : Hid (∀ w, (Instr.indexAt 33 (.slice (some ⟨gp, 0, none⟩) m cp) (.int .i64 (k : Int))).run Try.prog w = .ok (.pointer (some ⟨gp, 4 * k, none⟩)) w) := fun w => by
              have h9 := index_rw gp 0 m cp k hlt w
              rwa [Nat.zero_add] at h9
            have HI2 : Hid (∀ w, (Instr.indexAt 33 (.slice (some ⟨gq, 0, none⟩) m cq) (.int .i64 (k : Int))).run Try.prog w = .ok (.pointer (some ⟨gq, 4 * k, none⟩)) w) := fun w => by
              have h9 := index_rw gq 0 m cq k hlt w
              rwa [Nat.zero_add] at h9
            clear hr1 hr2
            go_wp2_with fail
            refine region_w Try.mixed (by kernel_rfl) ?_
            refine w_value rfl (.slice (some ⟨gp, 0, none⟩) m cp) (fun u hu => by go_simp) (fun K hK => ?_)
            go_simp
            refine hK _ ?_
            clear hK K
            refine w_value rfl (.int .i64 (k : Int)) (fun u hu => by go_simp) (fun K hK => ?_)
            go_simp
            refine hK _ ?_
            clear hK K
            refine w_value rfl (.pointer (some ⟨gp, 4 * k, none⟩)) (fun u hu => by have h9 := HI1.out u; go_simp) (fun K hK => ?_)
            go_simp
            refine hK _ ?_
            clear hK K
            refine w_wv_load rfl 56 _ rfl gp (4 * k) rfl (x9) (by exact HR1.out) _ Try.underlying56 rfl It.Try.size_rw (fun K hK => ?_)
            go_simp
            refine hK _ ?_
            clear hK K
            refine w_value rfl (.slice (some ⟨gq, 0, none⟩) m cq) (fun u hu => by go_simp) (fun K hK => ?_)
            go_simp
            refine hK _ ?_
            clear hK K
            refine w_value rfl (.int .i64 (k : Int)) (fun u hu => by go_simp) (fun K hK => ?_)
            go_simp
            refine hK _ ?_
            clear hK K
            refine w_value rfl (.pointer (some ⟨gq, 4 * k, none⟩)) (fun u hu => by have h9 := HI2.out u; go_simp) (fun K hK => ?_)
            go_simp
            refine hK _ ?_
            clear hK K
            refine w_wv_load rfl 56 _ rfl gq (4 * k) rfl (x9) (by exact HR2.out) _ Try.underlying56 rfl It.Try.size_rw (fun K hK => ?_)
            go_simp
            refine hK _ ?_
            clear hK K
            refine w_value rfl (.bool false) (fun u _ => run_eql u .neq 56 56 _ _ (WV x9) (WV x9) _ rfl rfl rfl (guard_rw _ _ _ _ _ _) (by rw [neq_rw]; simp)) (fun K hK => ?_)
            go_simp
            refine hK _ ?_
            clear hK K
            refine w_nil ?_
            intro u9 hu
            have HN9 := Lib.hid (HBr.out.trans (hu.mono HBr.out.size))
            clear hu HI1 HI2 HR1 HR2
            go_wp2_with fail
            go_roundw
            case rel => exact ⟨k + 1, by omega, by go_num, HN9⟩
            case measure => simp [intOf]; omega
          · obtain rfl : k = m := by omega
            have HNX : Hid (∃ D, Zm.Pl w wr b d (D.map norm) D [rB ba (ks .u64 at_)]) := ⟨D9, H43.out.below HBr.out⟩
            clear H43 HBr HPR3 HQR3
            go_wp2_with fail
            go_roundw
            case rel => exact ⟨i + 1, by omega, by first | rfl | go_num, HNX⟩
            case measure => simp [intOf]; omega
      · have HF : Hid (Below w.heap.size w wr) := by obtain ⟨D, hP⟩ := HLr.out; exact hP.under
        have i1 : (i : Int) < (n : Int) := by omega
        have i3 : ¬ (i : Int) < 60 := by omega
        clear HLr
        go_wp2_with fail
        go_ret
        exact ⟨rfl, HF.out⟩
    · have HF : Hid (Below w.heap.size w wr) := by obtain ⟨D, hP⟩ := HLr.out; exact hP.under
      have i1 : ¬ (i : Int) < (n : Int) := by omega
      clear HLr
      go_wp2_with fail
      go_ret
      exact ⟨rfl, HF.out⟩

set_option maxRecDepth 100000 in
theorem lifted (os : Os) (started : os.Started) (H : Type) (enc : TypeId × Value → H) :
    ReturnsInHanded {} Try.checked os 3 .any (Rows.sessPlaysSpec.pre6 enc Try.prog Try.f3 Rows.sessPlaysRow.domain false) (Rows.sessPlaysSpec.post enc Try.prog Try.f3 false true false false) := by
  refine returnsInHanded_of_change_sized (C := Try.checked) own started (by kernel_rfl) Try.func3
    (ChangeSpec.witness6 (enc := enc) (C := Try.checked) false ⟨#[], #[.slice none 0 0, .agg #[.int .u64 0, .int .u64 0, .int .u64 0, .int .u64 0, .bool false]], []⟩ 8 (by kernel_rfl) (by kernel_rfl) (by kernel_rfl) (by kernel_rfl)) ?_
  intro W base args ds gs before hval0 hW hcnd hsz0 _
  have hval : ∀ (j : Nat) t v, Try.f3.params[j]? = some t → args[j]? = some v → Value.okWide Try.prog W .any base t v := hval0
  have hW' := hW
  obtain ⟨p, q, hA0, hV, rfl, hfz, hnd⟩ := hW
  have hA : DataW.TrodAll enc Try.prog W 0 (fun _ => true) true Try.f3.params.toList args.toList ds p := hA0
  have hsz : (DataW.weightsEach Try.prog (Try.f3.params.toList ++ Rows.sessPlaysSpec.plain.varTypes Try.prog) (ds ++ gs)).all (· ≤ reachBytes) = true := hsz0
  rw [Try.params3] at hA hval hsz
  obtain ⟨rfl, rfl⟩ := trodVars_none hV
  have hAk := hA
  have hlt : ∀ x ∈ p, x.block < W.heap.size := fun x hx => by simpa using hW'.lt x (List.mem_append.2 (.inl hx))
  obtain ⟨v0, vs0, d0, ds0, p0, q0, hargs, rfl, rfl, h0, r0⟩ := trodAll_cons hA
  obtain ⟨v1, vs1, d1, ds1, p1, q1, rfl, rfl, rfl, h1, r1⟩ := trodAll_cons r0
  obtain ⟨rfl, rfl, rfl⟩ := trodAll_nil r1
  obtain rfl : args = #[v0, v1] := by cases args; simp_all
  obtain ⟨a0, len0, cap0, rfl⟩ := okWide_slice Try.underlying22 (hval 0 22 v0 rfl rfl)
  obtain ⟨DL0, w0, m0⟩ := open_deeds h0 (Sz.arg hsz (j := 0) rfl rfl)
  obtain ⟨a1, o1, rfl, w1⟩ := open_vector (hval 1 27 v1 rfl rfl) h1
  clear hA0 hval0 hsz0
  refine (walk (.slice a0 len0 cap0) DL0 a1 o1 w1 W w0 m0).mono fun e W' ⟨he, hg⟩ => ?_
  subst he
  exact ⟨_, rfl, _, _, _, [], _, [], hW', (trodAll_cons_mk (shut_bool Try.underlying4 _) trodAll_mk0), trodAll_below laidOut hg _ _ _ _ (by kernel_rfl) hAk hlt, rfl, hg.frame _, fun h => by cases h⟩

theorem over : Rows.sessPlaysRow.holds Try.pinned (OpenSpec.ofChange Rows.sessPlaysSpec) :=
  OpenClaim.holds_of_wide 3 Try.f3 rfl rfl rfl rfl rfl rfl rfl ⟨rfl, rfl, rfl, rfl, rfl⟩ rfl rfl rfl rfl rfl (by kernel_rfl) Try.func3 (by kernel_rfl)
    (of_decide_eq_true (by kernel_rfl)) (by unfold Func.isWrapper; first | (rw [if_pos (by decide +kernel)]; kernel_rfl) | (rw [if_neg (by decide +kernel)]; exact ⟨rfl, rfl⟩))
    (fun os started H enc _ => lifted os started H enc)

/-- the statement -/
theorem proved : Rows.SessPlaysSaid :=
  over
#print axioms proved

end Go.Proofs.Ytkiaehehckmpnaa.sessPlays
