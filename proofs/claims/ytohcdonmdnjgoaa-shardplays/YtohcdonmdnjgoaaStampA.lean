/- stamp: N, Right, Seen, Put. -/
import Derived.Test.YtohcdonmdnjgoaaStampMem

namespace Go.Proofs.Ytohcdonmdnjgoaa.T

def puts (a : List Nat) (d : Int) : ByteArray := if right a d = true then P.S (put a d) else ⟨#[]⟩
theorem vput_len {a : List Nat} (h : a.length = 4) : (V.put a).length ≤ 40 := by
  obtain ⟨x, y, z, t, rfl⟩ := V.four h
  have h1 := P.vary_le x
  have h2 := P.vary_le y
  have h3 := P.vary_le z
  have h4 := P.vary_le t
  simp only [V.put, List.map_cons, List.map_nil, List.flatten_cons, List.flatten_nil, List.length_append, List.length_nil]
  omega
end Go.Proofs.Ytohcdonmdnjgoaa.T

namespace Go.Proofs.Ytohcdonmdnjgoaa.Sp

open Go.RowKit Go.Proofs.Ytohcdonmdnjgoaa.Vc

set_option linter.unusedVariables false

set_option linter.unusedSimpArgs false

set_option maxRecDepth 100000

set_option maxHeartbeats 1000000 in
theorem sn_any (a : List Nat) (d : Int) (w : World) (ha : a.length = 4) :
    Calls Try.prog 31 #[SV a d] w fun e w' => e = .returned (.int .u64 (V.at_ a d : Nat)) ∧ Below w.heap.size w w' := by
  have HI := Lib.hid (size_v ha)
  have HA := Lib.hid ha
  have C := Lib.hid (fun w => at_any a d w ha)
  obtain ⟨x, HX⟩ : ∃ r, Hid (V.at_ a d = r) := ⟨_, rfl⟩
  rw [HX.out] at C ⊢
  clear ha
  go_enter Try.func31, Try.ntmps31
  go_wp2_with (first | refine blk_box rfl 35 _ rfl (ks .u64 a ++ [Value.int .i64 d]) rfl ?_)
  intro w1 A1 B1 Z1
  have HR := Lib.hid (rowp A1)
  have c := dc_cell A1 HA.out
  have HB1 : Hid (Below w.heap.size w w1) := B1
  clear A1 B1 Z1
  go_wp2_with (first | refine row_load rfl .u64 33 _ rfl w.heap.size 0 rfl a HR.out 4 31 Try.underlying33 HI.out ?_)
  refine (C.out _).mono ?_; rintro e w2 ⟨rfl, hb2⟩
  have HB2 : Hid (Below w.heap.size w w2) := Below.trans HB1.out (hb2.mono HB1.out.size)
  clear hb2 c
  go_wp2_with fail
  go_ret
  exact ⟨rfl, HB2.out⟩
set_option maxHeartbeats 1000000 in
theorem sright_any (a : List Nat) (d : Int) (w : World) (ha : a.length = 4) :
    Calls Try.prog 49 #[SV a d] w fun e w' => e = .returned (.bool (T.right a d)) ∧ Below w.heap.size w w' := by
  have HI := Lib.hid (size_v ha)
  have HS := Lib.hid (size_s (d := d) ha)
  have C := Lib.hid (fun w => right_any a w ha)
  have CN := Lib.hid (fun w => sn_any a d w ha)
  unfold T.right
  clear ha
  cases hr : V.right a with
  | false =>
    rw [hr] at C
    clear hr CN
    show Calls _ _ _ _ fun e w' => e = .returned (.bool false) ∧ _
    go_enter Try.func49, Try.ntmps49
    go_wp2_with (first | refine blk_box rfl 35 _ rfl (ks .u64 a ++ [Value.int .i64 d]) rfl ?_)
    intro w1 A1 B1 Z1
    have HR := Lib.hid (rowp A1)
    have HB1 : Hid (Below w.heap.size w w1) := B1
    clear A1 B1 Z1
    go_wp2_with (first | refine row_load rfl .u64 33 _ rfl w.heap.size 0 rfl a HR.out 4 31 Try.underlying33 HI.out ?_)
    refine (C.out _).mono ?_; rintro e w2 ⟨rfl, hb2⟩
    have HB2 : Hid (Below w.heap.size w w2) := Below.trans HB1.out (hb2.mono HB1.out.size)
    clear hb2
    go_wp2_with fail
    go_ret
    exact ⟨rfl, HB2.out⟩
  | true =>
    rw [hr] at C
    clear hr
    obtain ⟨x, HX⟩ : ∃ r, Hid (V.at_ a d = r) := ⟨_, rfl⟩
    rw [HX.out] at CN ⊢
    obtain ⟨q, HQ⟩ : ∃ r, Hid (decide (1 ≤ x) = r) := ⟨_, rfl⟩
    have hq : decide ((1 : Int) ≤ (x : Int)) = q := by rw [← HQ.out]; exact decide_eq_decide.2 (by omega)
    show Calls _ _ _ _ fun e w' => e = .returned (.bool (decide (1 ≤ x))) ∧ _
    rw [HQ.out]
    go_enter Try.func49, Try.ntmps49
    go_wp2_with (first | refine blk_box rfl 35 _ rfl (ks .u64 a ++ [Value.int .i64 d]) rfl ?_)
    intro w1 A1 B1 Z1
    have HR := Lib.hid (rowp A1)
    have HA1 : Hid (Blk w1 w.heap.size (ks .u64 a ++ [Value.int .i64 d])) := A1
    have HZ1 : Hid (w.heap.size < w1.heap.size) := by show _ < _; omega
    have HB1 : Hid (Below w.heap.size w w1) := B1
    clear A1 B1 Z1
    go_wp2_with (first | refine row_load rfl .u64 33 _ rfl w.heap.size 0 rfl a HR.out 4 31 Try.underlying33 HI.out ?_)
    refine (C.out _).mono ?_; rintro e w2 ⟨rfl, hb2⟩
    have HB2 : Hid (Below w.heap.size w w2) := Below.trans HB1.out (hb2.mono HB1.out.size)
    have HA2 : Hid (Blk w2 w.heap.size (ks .u64 a ++ [Value.int .i64 d])) := Blk.below HA1.out hb2 HZ1.out
    clear hb2 HR HA1
    go_wp2_with (first | refine blk_loadg rfl 35 _ rfl w.heap.size rfl (ks .u64 a ++ [Value.int .i64 d]) HA2.out _ Try.underlying35 rfl HS.out ?_)
    refine (CN.out _).mono ?_; rintro e w3 ⟨rfl, hb3⟩
    have HB3 : Hid (Below w.heap.size w w3) := Below.trans HB2.out (hb3.mono HB2.out.size)
    clear hb3
    go_wp2_with fail
    go_ret
    exact ⟨rfl, HB3.out⟩
set_option maxHeartbeats 1000000 in
theorem sseen_any (a b : List Nat) (d : Int) (w : World) (ha : a.length = 4) (hb : b.length = 4) :
    Calls Try.prog 67 #[SV a d, AV .u64 b] w fun e w' => e = .returned (.bool (V.leq a b)) ∧ Below w.heap.size w w' := by
  have HI := Lib.hid (size_v ha)
  have HIb := Lib.hid (size_v hb)
  have C := Lib.hid (fun w => leq_any a b w ha hb)
  generalize V.leq a b = q at *
  clear ha hb
  go_enter Try.func67, Try.ntmps67
  go_wp2_with (first | refine blk_box rfl 35 _ rfl (ks .u64 a ++ [Value.int .i64 d]) rfl ?_)
  intro w1 A1 B1 Z1
  go_wp2_with (first | refine arr_box rfl .u64 33 _ rfl b rfl ?_)
  intro w2 A2 B2 Z2
  have HR := Lib.hid (rowp (Blk.below A1 B2 (by omega)))
  have HA2 : Hid (Arr .u64 w2 (w.heap.size + 1) b) := A2
  have HB2 : Hid (Below w.heap.size w w2) := B1.trans (B2.mono (by omega))
  clear A1 B1 Z1 A2 B2 Z2
  go_wp2_with (first | refine row_load rfl .u64 33 _ rfl w.heap.size 0 rfl a HR.out 4 31 Try.underlying33 HI.out ?_ | refine arr_load rfl .u64 33 _ rfl (w.heap.size + 1) rfl b HA2.out 4 31 Try.underlying33 HIb.out ?_)
  refine (C.out _).mono ?_; rintro e w3 ⟨rfl, hb3⟩
  have HB3 : Hid (Below w.heap.size w w3) := Below.trans HB2.out (hb3.mono HB2.out.size)
  clear hb3
  go_wp2_with fail
  go_ret
  exact ⟨rfl, HB3.out⟩
end Go.Proofs.Ytohcdonmdnjgoaa.Sp
