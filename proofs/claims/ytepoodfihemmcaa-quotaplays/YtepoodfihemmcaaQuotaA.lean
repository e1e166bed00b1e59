/- The quota's sums: sizes of writes, Tally, New, Used, Keys, Limit. -/
import Derived.Test.YtepoodfihemmcaaQuotaMap

import Derived.Test.YtepoodfihemmcaaWtOf

import Derived.Deep.RegionHeld3

namespace Go.Proofs.Ytepoodfihemmcaa.It

open Go.RowKit Go.Proofs.Ytepoodfihemmcaa.Vc Go.Proofs.Ytepoodfihemmcaa.Sp

set_option linter.unusedVariables false

set_option linter.unusedSimpArgs false

set_option maxRecDepth 100000

set_option maxHeartbeats 1000000 in
theorem wsize_any (x : I.Wt) (w : World) (hx : I.Ok x) :
    Calls Try.prog 24 #[WV x] w fun e w' => e = .returned (.int .i64 (I.size x : Nat)) ∧ Below w.heap.size w w' := by
  obtain ⟨b, k, v, g⟩ := x
  have hb := hx.b
  have hk := hx.k
  have hv := hx.v
  simp only at hb hk hv
  unfold I.size
  simp only
  clear hx
  go_enter Try.func24, Try.ntmps24
  go_wp2_with (first | refine blk_box rfl 45 _ rfl [.string b, .string k, .string v, .bool g] rfl ?_)
  intro w1 A1 B1 Z1
  have HB1 : Hid (Below w.heap.size w w1) := B1
  have c0 := A1.cell 0 _ rfl
  have c1 := A1.cell 1 _ rfl
  have c2 := A1.cell 2 _ rfl
  have c3 := A1.cell 3 _ rfl
  clear A1 B1 Z1
  cases g with
  | true =>
    go_wp2_with fail
    go_ret
    exact ⟨rfl, HB1.out⟩
  | false =>
    have e1 : IntKind.i64.wrap ((b.size : Int) + (k.size : Int)) = (b.size : Int) + (k.size : Int) := wrapi (by omega) (by omega)
    have e2 : IntKind.i64.wrap ((b.size : Int) + (k.size : Int) + (v.size : Int)) = (b.size : Int) + (k.size : Int) + (v.size : Int) := wrapi (by omega) (by omega)
    go_wp2_with fail
    go_ret
    refine ⟨?_, HB1.out⟩
    show Ending.returned (.int .i64 _) = .returned (.int .i64 _)
    congr 2
    try simp
    try omega
set_option maxHeartbeats 1000000 in
theorem ref_wsize (x : I.Wt) (w : World) (hx : I.Ok x) :
    Calls Try.prog 34 #[WV x] w fun e w' => e = .returned (.int .i64 (I.size x : Nat)) ∧ Below w.heap.size w w' := by
  obtain ⟨b, k, v, g⟩ := x
  have hb := hx.b
  have hk := hx.k
  have hv := hx.v
  simp only at hb hk hv
  unfold I.size
  simp only
  clear hx
  go_enter Try.func34, Try.ntmps34
  go_wp2_with (first | refine blk_box rfl 66 _ rfl [.string b, .string k, .string v, .bool g] rfl ?_)
  intro w1 A1 B1 Z1
  have HB1 : Hid (Below w.heap.size w w1) := B1
  have c0 := A1.cell 0 _ rfl
  have c1 := A1.cell 1 _ rfl
  have c2 := A1.cell 2 _ rfl
  have c3 := A1.cell 3 _ rfl
  clear A1 B1 Z1
  cases g with
  | true =>
    go_wp2_with fail
    go_ret
    exact ⟨rfl, HB1.out⟩
  | false =>
    have e1 : IntKind.i64.wrap ((b.size : Int) + (k.size : Int)) = (b.size : Int) + (k.size : Int) := wrapi (by omega) (by omega)
    have e2 : IntKind.i64.wrap ((b.size : Int) + (k.size : Int) + (v.size : Int)) = (b.size : Int) + (k.size : Int) + (v.size : Int) := wrapi (by omega) (by omega)
    go_wp2_with fail
    go_ret
    refine ⟨?_, HB1.out⟩
    show Ending.returned (.int .i64 _) = .returned (.int .i64 _)
    congr 2
    try simp
    try omega
end Go.Proofs.Ytepoodfihemmcaa.It

namespace Go.Proofs.Ytepoodfihemmcaa.Qm

open Go.RowKit Go.Instr Go.ChangeMaps Go.Proofs.Ytepoodfihemmcaa.It Go.Proofs.Ytepoodfihemmcaa.Q

set_option linter.unusedVariables false

set_option linter.unusedSimpArgs false

set_option maxRecDepth 100000

theorem wrap_add (s c : Int) : IntKind.i64.wrap (IntKind.i64.wrap s + c) = IntKind.i64.wrap (s + c) := by
  rw [IntKind.wrap_i64, IntKind.wrap_i64, IntKind.wrap_i64]; omega
set_option maxHeartbeats 1000000 in
theorem tallyN (mb : Nat) (M : List (Nm × Int)) (w : World) (h : Mp kyN w mb M) :
    Calls Try.prog 31 #[.map (some mb)] w fun e w' => e = .returned (.int .i64 (IntKind.i64.wrap (tot M))) ∧ Below w.heap.size w w' := by
  have HMP := Lib.hid h
  obtain ⟨t, HT⟩ : ∃ t, Hid (tot M = t) := ⟨_, rfl⟩
  rw [HT.out]
  clear h
  go_enter Try.func31, Try.ntmps31
  go_wp2_with (first | refine range_step kN rfl _ rfl mb rfl M HMP.out ?_)
  intro w1 hi1 hb1 hz1
  have HI1 := Lib.hid hi1
  have HB1 := Lib.hid hb1
  have HZ1 : Hid (w.heap.size < w1.heap.size) := by show _ < _; omega
  clear hi1 hb1 hz1
  go_wp2_with fail
  go_loopw [2] (fun v wr => ∃ (s q : Int) (S : List (Nm × Int)), v = .int .i64 q ∧ Hid (q = IntKind.i64.wrap s) ∧ Hid (s + tot S = t) ∧ Hid (Itr kyN wr w.heap.size mb M S) ∧ Hid (Below w.heap.size w wr) ∧ Hid (w.heap.size < wr.heap.size)) (fun _ wr => itrLeft wr w.heap.size mb)
  case atStart => exact ⟨0, 0, M, rfl, (show Hid (_ = _) from by show _ = _; rw [IntKind.wrap_i64]; decide), (show Hid (_ = _) from by show _ = _; rw [HT.out]; omega), HI1, HB1, HZ1⟩
  case round =>
    obtain ⟨s, q, S, rfl, HQr, HKr, HIr, HBr, HZr⟩ := hrel
    clear HI1 HB1 HZ1
    go_wp2_with (first | refine next_step rfl _ rfl w.heap.size mb rfl M S HIr.out ?_ ?_)
    · intro HSS
      have hS := HSS.out
      subst hS
      have HQ : Hid (q = IntKind.i64.wrap t) := by
        have h1 := HKr.out
        have h2 := HQr.out
        show q = _
        rw [h2, ← h1]
        simp [tot]
      go_wp2_with fail
      go_ret
      exact ⟨by rw [HQ.out]; rfl, HBr.out⟩
    · intro S1 kv c S2 w2 HLL HTT HEN HI2 HU2
      have hen := HEN.out
      have hu2 := HU2.out
      have HB2 : Hid (Below w.heap.size w w2) := Below.trans HBr.out (hu2.below (Nat.le_refl _))
      have HZ2 : Hid (w.heap.size < w2.heap.size) := by show _ < _; rw [hu2.size]; exact HZr.out
      obtain ⟨q2, k1⟩ : ∃ z, IntKind.i64.wrap (q + c) = z := ⟨_, rfl⟩
      have HQ2 : Hid (q2 = IntKind.i64.wrap (s + c)) := by
        show q2 = _
        rw [← k1, HQr.out, wrap_add]
      have HK2 : Hid ((s + c) + tot (S1 ++ S2) = t) := by
        have h1 := HKr.out
        have h2 := HTT.out
        show _ = _
        omega
      have HLR := Lib.hid (left_eq HIr.out)
      clear hu2 HKr HBr HZr HTT HQr
      go_wp2_with fail
      go_roundw
      case rel => exact ⟨s + c, q2, S1 ++ S2, rfl, HQ2, HK2, HI2, HB2, HZ2⟩
      case measure =>
        rw [left_eq HI2.out, HLR.out, HLL.out]
        simp only [List.length_append]
        omega
set_option maxHeartbeats 1000000 in
theorem tallyI (mb : Nat) (M : List (Int × Int)) (w : World) (h : Mp kyI w mb M) :
    Calls Try.prog 25 #[.map (some mb)] w fun e w' => e = .returned (.int .i64 (IntKind.i64.wrap (tot M))) ∧ Below w.heap.size w w' := by
  have HMP := Lib.hid h
  obtain ⟨t, HT⟩ : ∃ t, Hid (tot M = t) := ⟨_, rfl⟩
  rw [HT.out]
  clear h
  go_enter Try.func25, Try.ntmps25
  go_wp2_with (first | refine range_step kI rfl _ rfl mb rfl M HMP.out ?_)
  intro w1 hi1 hb1 hz1
  have HI1 := Lib.hid hi1
  have HB1 := Lib.hid hb1
  have HZ1 : Hid (w.heap.size < w1.heap.size) := by show _ < _; omega
  clear hi1 hb1 hz1
  go_wp2_with fail
  go_loopw [2] (fun v wr => ∃ (s q : Int) (S : List (Int × Int)), v = .int .i64 q ∧ Hid (q = IntKind.i64.wrap s) ∧ Hid (s + tot S = t) ∧ Hid (Itr kyI wr w.heap.size mb M S) ∧ Hid (Below w.heap.size w wr) ∧ Hid (w.heap.size < wr.heap.size)) (fun _ wr => itrLeft wr w.heap.size mb)
  case atStart => exact ⟨0, 0, M, rfl, (show Hid (_ = _) from by show _ = _; rw [IntKind.wrap_i64]; decide), (show Hid (_ = _) from by show _ = _; rw [HT.out]; omega), HI1, HB1, HZ1⟩
  case round =>
    obtain ⟨s, q, S, rfl, HQr, HKr, HIr, HBr, HZr⟩ := hrel
    clear HI1 HB1 HZ1
    go_wp2_with (first | refine next_step rfl _ rfl w.heap.size mb rfl M S HIr.out ?_ ?_)
    · intro HSS
      have hS := HSS.out
      subst hS
      have HQ : Hid (q = IntKind.i64.wrap t) := by
        have h1 := HKr.out
        have h2 := HQr.out
        show q = _
        rw [h2, ← h1]
        simp [tot]
      go_wp2_with fail
      go_ret
      exact ⟨by rw [HQ.out]; rfl, HBr.out⟩
    · intro S1 kv c S2 w2 HLL HTT HEN HI2 HU2
      have hen := HEN.out
      have hu2 := HU2.out
      have HB2 : Hid (Below w.heap.size w w2) := Below.trans HBr.out (hu2.below (Nat.le_refl _))
      have HZ2 : Hid (w.heap.size < w2.heap.size) := by show _ < _; rw [hu2.size]; exact HZr.out
      obtain ⟨q2, k1⟩ : ∃ z, IntKind.i64.wrap (q + c) = z := ⟨_, rfl⟩
      have HQ2 : Hid (q2 = IntKind.i64.wrap (s + c)) := by
        show q2 = _
        rw [← k1, HQr.out, wrap_add]
      have HK2 : Hid ((s + c) + tot (S1 ++ S2) = t) := by
        have h1 := HKr.out
        have h2 := HTT.out
        show _ = _
        omega
      have HLR := Lib.hid (left_eq HIr.out)
      clear hu2 HKr HBr HZr HTT HQr
      go_wp2_with fail
      go_roundw
      case rel => exact ⟨s + c, q2, S1 ++ S2, rfl, HQ2, HK2, HI2, HB2, HZ2⟩
      case measure =>
        rw [left_eq HI2.out, HLR.out, HLL.out]
        simp only [List.length_append]
        omega
set_option maxHeartbeats 1000000 in
theorem tallyB (mb : Nat) (M : List (Int × Int)) (w : World) (h : Mp kyB w mb M) :
    Calls Try.prog 26 #[.map (some mb)] w fun e w' => e = .returned (.int .i64 (IntKind.i64.wrap (tot M))) ∧ Below w.heap.size w w' := by
  have HMP := Lib.hid h
  obtain ⟨t, HT⟩ : ∃ t, Hid (tot M = t) := ⟨_, rfl⟩
  rw [HT.out]
  clear h
  go_enter Try.func26, Try.ntmps26
  go_wp2_with (first | refine range_step kB rfl _ rfl mb rfl M HMP.out ?_)
  intro w1 hi1 hb1 hz1
  have HI1 := Lib.hid hi1
  have HB1 := Lib.hid hb1
  have HZ1 : Hid (w.heap.size < w1.heap.size) := by show _ < _; omega
  clear hi1 hb1 hz1
  go_wp2_with fail
  go_loopw [2] (fun v wr => ∃ (s q : Int) (S : List (Int × Int)), v = .int .i64 q ∧ Hid (q = IntKind.i64.wrap s) ∧ Hid (s + tot S = t) ∧ Hid (Itr kyB wr w.heap.size mb M S) ∧ Hid (Below w.heap.size w wr) ∧ Hid (w.heap.size < wr.heap.size)) (fun _ wr => itrLeft wr w.heap.size mb)
  case atStart => exact ⟨0, 0, M, rfl, (show Hid (_ = _) from by show _ = _; rw [IntKind.wrap_i64]; decide), (show Hid (_ = _) from by show _ = _; rw [HT.out]; omega), HI1, HB1, HZ1⟩
  case round =>
    obtain ⟨s, q, S, rfl, HQr, HKr, HIr, HBr, HZr⟩ := hrel
    clear HI1 HB1 HZ1
    go_wp2_with (first | refine next_step rfl _ rfl w.heap.size mb rfl M S HIr.out ?_ ?_)
    · intro HSS
      have hS := HSS.out
      subst hS
      have HQ : Hid (q = IntKind.i64.wrap t) := by
        have h1 := HKr.out
        have h2 := HQr.out
        show q = _
        rw [h2, ← h1]
        simp [tot]
      go_wp2_with fail
      go_ret
      exact ⟨by rw [HQ.out]; rfl, HBr.out⟩
    · intro S1 kv c S2 w2 HLL HTT HEN HI2 HU2
      have hen := HEN.out
      have hu2 := HU2.out
      have HB2 : Hid (Below w.heap.size w w2) := Below.trans HBr.out (hu2.below (Nat.le_refl _))
      have HZ2 : Hid (w.heap.size < w2.heap.size) := by show _ < _; rw [hu2.size]; exact HZr.out
      obtain ⟨q2, k1⟩ : ∃ z, IntKind.i64.wrap (q + c) = z := ⟨_, rfl⟩
      have HQ2 : Hid (q2 = IntKind.i64.wrap (s + c)) := by
        show q2 = _
        rw [← k1, HQr.out, wrap_add]
      have HK2 : Hid ((s + c) + tot (S1 ++ S2) = t) := by
        have h1 := HKr.out
        have h2 := HTT.out
        show _ = _
        omega
      have HLR := Lib.hid (left_eq HIr.out)
      clear hu2 HKr HBr HZr HTT HQr
      go_wp2_with fail
      go_roundw
      case rel => exact ⟨s + c, q2, S1 ++ S2, rfl, HQ2, HK2, HI2, HB2, HZ2⟩
      case measure =>
        rw [left_eq HI2.out, HLR.out, HLL.out]
        simp only [List.length_append]
        omega
set_option maxHeartbeats 1000000 in
theorem tallyS (mb : Nat) (M : List (ByteArray × Int)) (w : World) (h : Mp kyS w mb M) :
    Calls Try.prog 27 #[.map (some mb)] w fun e w' => e = .returned (.int .i64 (IntKind.i64.wrap (tot M))) ∧ Below w.heap.size w w' := by
  have HMP := Lib.hid h
  obtain ⟨t, HT⟩ : ∃ t, Hid (tot M = t) := ⟨_, rfl⟩
  rw [HT.out]
  clear h
  go_enter Try.func27, Try.ntmps27
  go_wp2_with (first | refine range_step kS rfl _ rfl mb rfl M HMP.out ?_)
  intro w1 hi1 hb1 hz1
  have HI1 := Lib.hid hi1
  have HB1 := Lib.hid hb1
  have HZ1 : Hid (w.heap.size < w1.heap.size) := by show _ < _; omega
  clear hi1 hb1 hz1
  go_wp2_with fail
  go_loopw [2] (fun v wr => ∃ (s q : Int) (S : List (ByteArray × Int)), v = .int .i64 q ∧ Hid (q = IntKind.i64.wrap s) ∧ Hid (s + tot S = t) ∧ Hid (Itr kyS wr w.heap.size mb M S) ∧ Hid (Below w.heap.size w wr) ∧ Hid (w.heap.size < wr.heap.size)) (fun _ wr => itrLeft wr w.heap.size mb)
  case atStart => exact ⟨0, 0, M, rfl, (show Hid (_ = _) from by show _ = _; rw [IntKind.wrap_i64]; decide), (show Hid (_ = _) from by show _ = _; rw [HT.out]; omega), HI1, HB1, HZ1⟩
  case round =>
    obtain ⟨s, q, S, rfl, HQr, HKr, HIr, HBr, HZr⟩ := hrel
    clear HI1 HB1 HZ1
    go_wp2_with (first | refine next_step rfl _ rfl w.heap.size mb rfl M S HIr.out ?_ ?_)
    · intro HSS
      have hS := HSS.out
      subst hS
      have HQ : Hid (q = IntKind.i64.wrap t) := by
        have h1 := HKr.out
        have h2 := HQr.out
        show q = _
        rw [h2, ← h1]
        simp [tot]
      go_wp2_with fail
      go_ret
      exact ⟨by rw [HQ.out]; rfl, HBr.out⟩
    · intro S1 kv c S2 w2 HLL HTT HEN HI2 HU2
      have hen := HEN.out
      have hu2 := HU2.out
      have HB2 : Hid (Below w.heap.size w w2) := Below.trans HBr.out (hu2.below (Nat.le_refl _))
      have HZ2 : Hid (w.heap.size < w2.heap.size) := by show _ < _; rw [hu2.size]; exact HZr.out
      obtain ⟨q2, k1⟩ : ∃ z, IntKind.i64.wrap (q + c) = z := ⟨_, rfl⟩
      have HQ2 : Hid (q2 = IntKind.i64.wrap (s + c)) := by
        show q2 = _
        rw [← k1, HQr.out, wrap_add]
      have HK2 : Hid ((s + c) + tot (S1 ++ S2) = t) := by
        have h1 := HKr.out
        have h2 := HTT.out
        show _ = _
        omega
      have HLR := Lib.hid (left_eq HIr.out)
      clear hu2 HKr HBr HZr HTT HQr
      go_wp2_with fail
      go_roundw
      case rel => exact ⟨s + c, q2, S1 ++ S2, rfl, HQ2, HK2, HI2, HB2, HZ2⟩
      case measure =>
        rw [left_eq HI2.out, HLR.out, HLL.out]
        simp only [List.length_append]
        omega
theorem len_step2 {ops : Array Oper} {rest : List Oper} {o : Oper} {a : Act} {w : World} {Q : Exit → Act → World → Prop} {mt : TypeId} (hgd : o.guard = none) (m : Operand) (ho : o.op = .call { callee := .builtin .len, args := #[m], argTypes := #[mt] }) (mb : Nat) (hm : a.eval m = .map (some mb)) (k : Nat) (hr : ∀ ty : TypeId, (Builtin.len_ #[mt] ty #[.map (some mb)]).run Try.prog w = .ok (.int .i64 (k : Int)) w)
    (h : wpList Try.prog ops Q rest (a.put o.dst (.int .i64 (k : Int))) w) : wpList Try.prog ops Q (o :: rest) a w := by
  refine wpList_plain hgd fun K' hK => ?_
  unfold Oper.wp
  simp [execOp, ho, resolve, invoke, builtin, hm, hr o.type, Result.andThen]
  exact hK _ _ h
/-- a quota at b, its map at mb -/
structure Qo (w : World) (b mb : Nat) (L : Int) (M : Tb) : Prop where
  blk : Blk w b [.int .i64 L, .map (some mb)]
  map : Mp kyN w mb M
  ne : b ≠ mb
theorem Qo.below {w w' : World} {b mb B : Nat} {L : Int} {M : Tb} (h : Qo w b mb L M) (hb : Below B w w') (h1 : b < B) (h2 : mb < B) : Qo w' b mb L M := ⟨h.blk.below hb h1, h.map.below hb h2, h.ne⟩
theorem Qo.lt {w : World} {b mb : Nat} {L : Int} {M : Tb} (h : Qo w b mb L M) : b < w.heap.size ∧ mb < w.heap.size := ⟨World.block_lt_of_cell? w _ (h.blk.cell 0 _ rfl), h.map.lt⟩
theorem Qo.more {w w' : World} {b mb : Nat} {L : Int} {M : Tb} (h : Qo w b mb L M) (hb : Below w.heap.size w w') : Qo w' b mb L M := h.below hb h.lt.1 h.lt.2
theorem Qo.drew {w : World} {b mb : Nat} {L : Int} {M : Tb} (h : Qo w b mb L M) : Qo w.drew b mb L M := h.more (Below.drew (Below.refl _ _))
theorem Qo.upd {w w' : World} {b mb c : Nat} {L : Int} {M : Tb} (h : Qo w b mb L M) (hu : Upd c w w') (h1 : b ≠ c) (h2 : mb ≠ c) : Qo w' b mb L M := ⟨h.blk.upd hu h1, h.map.upd hu h2, h.ne⟩
theorem Qo.new {w w' : World} {b mb : Nat} {L : Int} {M M' : Tb} (h : Qo w b mb L M) (hu : Upd mb w w') (hm : Mp kyN w' mb M') : Qo w' b mb L M' := ⟨h.blk.upd hu h.ne, hm, h.ne⟩
set_option maxHeartbeats 1000000 in
theorem used_any (b mb : Nat) (L : Int) (M : Tb) (w : World) (h : Qo w b mb L M) (t : Int) (ht : IntKind.i64.wrap (tot M) = t) :
    Calls Try.prog 18 #[.pointer (some ⟨b, 0, none⟩)] w fun e w' => e = .returned (.int .i64 t) ∧ Below w.heap.size w w' := by
  have C := Lib.hid (tallyN mb M w h.map)
  rw [ht] at C
  have c1 := h.blk.cell 1 _ rfl
  clear h ht
  go_enter Try.func18, Try.ntmps18
  go_wp2_with fail
  refine C.out.mono ?_; rintro e w1 ⟨rfl, hb1⟩
  go_wp2_with fail
  go_ret
  exact ⟨rfl, hb1⟩
set_option maxHeartbeats 1000000 in
theorem limit_any (b mb : Nat) (L : Int) (M : Tb) (w : World) (h : Qo w b mb L M) :
    Calls Try.prog 22 #[.pointer (some ⟨b, 0, none⟩)] w fun e w' => e = .returned (.int .i64 L) ∧ w' = w := by
  have c0 := h.blk.cell 0 _ rfl
  clear h
  go_enter Try.func22, Try.ntmps22
  go_wp2_with fail
  go_ret
  exact ⟨rfl, rfl⟩
set_option maxHeartbeats 1000000 in
theorem keys_any (b mb : Nat) (L : Int) (M : Tb) (w : World) (h : Qo w b mb L M) :
    Calls Try.prog 20 #[.pointer (some ⟨b, 0, none⟩)] w fun e w' => e = .returned (.int .i64 (M.length : Int)) ∧ w' = w := by
  have c1 := h.blk.cell 1 _ rfl
  have HM := Lib.hid h.map
  obtain ⟨k, HK⟩ : ∃ k, Hid (M.length = k) := ⟨_, rfl⟩
  rw [HK.out]
  have HL : Hid (∀ ty : TypeId, (Builtin.len_ #[58] ty #[.map (some mb)]).run Try.prog w = .ok (.int .i64 (k : Int)) w) := fun ty => by rw [← HK.out]; exact run_len kN HM.out ty
  clear h HK
  go_enter Try.func20, Try.ntmps20
  go_wp2_with (first | refine len_step2 rfl _ rfl mb rfl k HL.out ?_)
  go_ret
  exact ⟨rfl, rfl⟩
set_option maxHeartbeats 1000000 in
theorem new_ok (L : Int) (w : World) (h0 : 0 ≤ L) (h1 : L ≤ 1073741824) :
    Calls Try.prog 9 #[.int .i64 L] w fun e w' => ∃ b mb, e = .returned (.tuple #[.pointer (some ⟨b, 0, none⟩), .int .i64 0]) ∧ Qo w' b mb L [] ∧ Below w.heap.size w w' ∧ w.heap.size ≤ b ∧ w.heap.size ≤ mb := by
  have i0 : decide (L < 0) = false := by simp; omega
  have i1 : decide ((1073741824 : Int) < L) = false := by simp; omega
  clear h0 h1
  go_enter Try.func9, Try.ntmps9
  go_wp2_with (first | refine make_step rfl _ rfl ?_)
  intro w1 hm hb hz
  go_wp2_with (first | refine blk_box rfl 60 _ rfl [.int .i64 L, .map (some w.heap.size)] rfl ?_)
  intro w2 A B Z
  have HB : Hid (Below w.heap.size w w2) := hb.trans (B.mono (by omega))
  have HQ : Hid (Qo w2 (w.heap.size + 1) w.heap.size L [] ∧ w.heap.size ≤ w.heap.size + 1) := ⟨⟨A, (Mp.none hm).below B (by omega), by omega⟩, by omega⟩
  clear hm hb A B
  go_wp2_with fail
  go_ret2
  exact ⟨_, _, rfl, HQ.out.1, HB.out, HQ.out.2, Nat.le_refl _⟩
set_option maxHeartbeats 1000000 in
theorem new_not (L : Int) (w : World) (h : L < 0 ∨ 1073741824 < L) :
    Calls Try.prog 9 #[.int .i64 L] w fun e w' => e = .returned (.tuple #[.pointer none, .int .i64 1]) ∧ w' = w := by
  by_cases h0 : L < 0
  · have i0 : decide (L < 0) = true := by simp; omega
    clear h
    go_enter Try.func9, Try.ntmps9
    go_wp2_with fail
    go_ret2
    exact ⟨rfl, rfl⟩
  · have i0 : decide (L < 0) = false := by simp; omega
    have i1 : decide ((1073741824 : Int) < L) = true := by simp; omega
    clear h h0
    go_enter Try.func9, Try.ntmps9
    go_wp2_with fail
    go_ret2
    exact ⟨rfl, rfl⟩
end Go.Proofs.Ytepoodfihemmcaa.Qm
