/- A write by its parts: the law's own helper. -/
import Derived.Test.YtkfcbihofipcbaaItemOf

import Derived.Test.YtkfcbihofipcbaaStampC

import Derived.Test.YtkfcbihofipcbaaRel

namespace Go.Proofs.Ytkfcbihofipcbaa.It

open Go.RowKit Go.Proofs.Ytkfcbihofipcbaa.Vc Go.Proofs.Ytkfcbihofipcbaa.Sp

set_option linter.unusedVariables false

set_option linter.unusedSimpArgs false

set_option maxRecDepth 100000

/-- such a value -/
def PV (x : I.Wt) (own : Bool) (K : Nat) : Value := .agg (wc x ++ [Value.bool own, Value.int .u8 (K : Int)]).toArray
theorem write_not (x : I.Wt) (K : Nat) (w : World) :
    Calls Try.prog 12 #[PV x false K] w fun e w' => e = .returned (WV x) ∧ Below w.heap.size w w' := by
  obtain ⟨b, k, v, g⟩ := x
  go_enter Try.func12, Try.ntmps12
  go_wp2_with (first | refine blk_box rfl 25 _ rfl [.string b, .string k, .string v, .bool g, .bool false, .int .u8 (K : Int)] rfl ?_)
  intro w1 A1 B1 Z1
  go_wp2_with (first | refine blk_alloc rfl 23 (wc I.none_) rfl Try.info_iw2 ?_)
  intro w2 A2 B2 Z2
  have HA2 : Hid (Blk w2 w.heap.size (wc (b, k, v, g) ++ [Value.bool false, Value.int .u8 (K : Int)])) := Blk.below A1 B2 (by omega)
  have HB2 : Hid (Blk w2 (w.heap.size + 1) (wc I.none_)) := A2
  have HW2 : Hid (Below w.heap.size w w2) := B1.trans (B2.mono (by omega))
  have c4 := HA2.out.cell 4 (.bool false) rfl
  clear A1 B1 A2 B2 Z1 Z2
  go_wp2_with (first | refine sub_load rfl 23 _ rfl w.heap.size rfl (wc (b, k, v, g)) [.bool false, .int .u8 (K : Int)] HA2.out _ Try.underlying23 rfl Try.size_w ?_ | refine blk_store rfl 23 _ _ rfl (w.heap.size + 1) rfl (wc (b, k, v, g)) rfl _ HB2.out rfl Try.size_w rfl ?_)
  intro u A U
  have HA9 : Hid (Blk u (w.heap.size + 1) (wc (b, k, v, g))) := A
  have HW9 : Hid (Below w.heap.size w u) := Below.trans HW2.out (U.below (by omega))
  clear A U
  go_wp2_with fail
  refine bodyPost_ret (v := WV (b, k, v, g)) ?_ rfl ⟨rfl, HW9.out⟩
  exact res_blk1 (t := 23) Try.results12 _ (w.heap.size + 1) rfl _ HA9.out _ Try.underlying23 rfl Try.size_w
set_option maxHeartbeats 4000000 in
theorem write_own (x : I.Wt) (K : Nat) (w : World) (hK : K < 256) (hv : x.2.2.1.size ≤ maxLen) :
    Calls Try.prog 12 #[PV x true K] w fun e w' => e = .returned (WV (I.putW x true K)) ∧ Below w.heap.size w w' := by
  obtain ⟨b, k, v, g⟩ := x
  simp only at hv
  unfold maxLen at hv
  obtain ⟨r2, h2⟩ : ∃ r, r = K % 2 := ⟨_, rfl⟩
  obtain ⟨hf, hh⟩ : ∃ r, r = K / 2 := ⟨_, rfl⟩
  obtain ⟨r4, h4⟩ : ∃ r, r = hf % 4 := ⟨_, rfl⟩
  have t2 : Hid ((K : Int).tmod 2 = (r2 : Int) ∧ (K : Int) % 2 = (r2 : Int)) := ⟨by rw [Int.tmod_eq_emod_of_nonneg (by omega), h2]; rfl, by rw [h2]; rfl⟩
  have th : Hid ((K : Int).tdiv 2 = (hf : Int) ∧ (K : Int) / 2 = (hf : Int)) := ⟨by rw [Int.tdiv_eq_ediv_of_nonneg (by omega), hh]; rfl, by rw [hh]; rfl⟩
  have t4 : Hid ((hf : Int).tmod 4 = (r4 : Int) ∧ (hf : Int) % 4 = (r4 : Int)) := ⟨by rw [Int.tmod_eq_emod_of_nonneg (by omega), h4]; rfl, by rw [h4]; rfl⟩
  have w8 : ∀ x : Int, 0 ≤ x → x < 256 → IntKind.u8.wrap x = x := fun x h0 h1 => by
    have h2 : x % 256 = x := Int.emod_eq_of_lt h0 h1
    simpa [IntKind.wrap, IntKind.bits, IntKind.signed] using h2
  have ew2 : Hid (IntKind.u8.wrap (r2 : Int) = (r2 : Int)) := w8 _ (by omega) (by omega)
  have ew4 : Hid (IntKind.u8.wrap (r4 : Int) = (r4 : Int)) := w8 _ (by omega) (by omega)
  have e1 : Hid (IntKind.u8.wrap (48 + (r2 : Int)) = ((48 + r2 : Nat) : Int)) := by show _ = _; rw [w8 _ (by omega) (by omega)]; omega
  have e2 : Hid (IntKind.u8.wrap (97 + (r4 : Int)) = ((97 + r4 : Nat) : Int)) := by show _ = _; rw [w8 _ (by omega) (by omega)]; omega
  have e3 : Hid (IntKind.u8.wrap (hf : Int) = (hf : Int)) := w8 _ (by omega) (by omega)
  have HPW : Hid (I.putW (b, k, v, g) true K = (⟨#[98, UInt8.ofNat (48 + r2)]⟩, ⟨#[UInt8.ofNat (97 + r4)]⟩, if 224 ≤ K then ⟨#[]⟩ else v.extract 0 (min v.size 8), decide (224 ≤ K))) := by show _ = _; rw [h4, hh, h2]; rfl
  have b2 : r2 < 2 := by omega
  have b4 : r4 < 4 := by omega
  clear w8 h2 hh h4
  obtain ⟨c2, HC2⟩ : ∃ c, Hid (48 + r2 = c) := ⟨_, rfl⟩
  obtain ⟨c4, HC4⟩ : ∃ c, Hid (97 + r4 = c) := ⟨_, rfl⟩
  have hc2 : c2 < 256 := by rw [← HC2.out]; omega
  have hc4 : c4 < 256 := by rw [← HC4.out]; omega
  rw [HC2.out] at e1 HPW
  rw [HC4.out] at e2 HPW
  have u2 : Hid (((UInt8.ofNat c2).toNat : Int) = (c2 : Int)) := by show _ = _; rw [P.ofNat_toNat_lt c2 hc2]
  have u4 : Hid (((UInt8.ofNat c4).toNat : Int) = (c4 : Int)) := by show _ = _; rw [P.ofNat_toNat_lt c4 hc4]
  obtain ⟨mn, hmn⟩ : ∃ m, m = min v.size 8 := ⟨_, rfl⟩
  have imn : mn ≤ v.size := by omega
  have hmin : Hid ((if (8 : Int) < (v.size : Int) then (8 : Int) else (v.size : Int)) = (mn : Int)) := by show _ = _; split <;> omega
  rw [← hmn] at HPW
  obtain ⟨sv, HSV⟩ : ∃ z, Hid (v.extract 0 mn = z) := ⟨_, rfl⟩
  rw [HSV.out] at HPW
  obtain ⟨gb, HGB⟩ : ∃ z, Hid (decide (224 ≤ K) = z) := ⟨_, rfl⟩
  have HGE : Hid (decide ((224 : Int) ≤ (K : Int)) = gb) := by show _ = _; rw [← HGB.out]; exact decide_eq_decide.2 (by omega)
  obtain ⟨sb, HSB⟩ : ∃ z, Hid ((⟨#[98, UInt8.ofNat c2]⟩ : ByteArray) = z) := ⟨_, rfl⟩
  obtain ⟨sk, HSK⟩ : ∃ z, Hid ((⟨#[UInt8.ofNat c4]⟩ : ByteArray) = z) := ⟨_, rfl⟩
  obtain ⟨R, HR⟩ : ∃ z, Hid (I.putW (b, k, v, g) true K = z) := ⟨_, rfl⟩
  rw [HR.out]
  clear hmn b2 b4
  go_enter Try.func12, Try.ntmps12
  go_wp2_with (first | refine blk_box rfl 25 _ rfl [.string b, .string k, .string v, .bool g, .bool true, .int .u8 (K : Int)] rfl ?_)
  intro w1 A1 B1 Z1
  go_wp2_with (first | refine blk_alloc rfl 23 (wc I.none_) rfl Try.info_iw2 ?_)
  intro w2 A2 B2 Z2
  have HA2 : Hid (Blk w2 w.heap.size [.string b, .string k, .string v, .bool g, .bool true, .int .u8 (K : Int)]) := Blk.below A1 B2 (by omega)
  have HB2 : Hid (Blk w2 (w.heap.size + 1) (wc I.none_)) := A2
  have HW2 : Hid (Below w.heap.size w w2) := B1.trans (B2.mono (by omega))
  have HZ2 : Hid (w.heap.size + 1 < w2.heap.size) := by show _ < _; omega
  have q4 := HA2.out.cell 4 (.bool true) rfl
  clear A1 B1 A2 B2 Z1 Z2
  have K5 : Hid (∀ u, Below w2.heap.size w2 u → u.cell? ⟨w.heap.size, 5, none⟩ = some (.int .u8 (K : Int))) := fun u hu => (Blk.below HA2.out hu (Nat.lt_of_succ_lt HZ2.out)).cell 5 _ rfl
  have K2 : Hid (∀ u, Below w2.heap.size w2 u → u.cell? ⟨w.heap.size, 2, none⟩ = some (.string v)) := fun u hu => (Blk.below HA2.out hu (Nat.lt_of_succ_lt HZ2.out)).cell 2 _ rfl
  go_wp2_with fail
  refine region_relt 27 [Spc.eq (.pointer (some ⟨w.heap.size, 5, none⟩)), Spc.eq (.int .u8 (K : Int)), Spc.eq (.int .u8 (r2 : Int)), Spc.eq (.int .u8 (c2 : Int)), Spc.bytes [98, UInt8.ofNat c2], Spc.eq (.string sb), Spc.eq (.pointer (some ⟨w.heap.size, 5, none⟩)), Spc.eq (.int .u8 (K : Int)), Spc.eq (.int .u8 (hf : Int)), Spc.eq (.int .u8 (r4 : Int)), Spc.eq (.int .u8 (c4 : Int)), Spc.bytes [UInt8.ofNat c4], Spc.eq (.string sk), Spc.eq (.pointer (some ⟨w.heap.size, 0, none⟩)), Spc.eq (.pointer (some ⟨w.heap.size, 2, none⟩)), Spc.eq (.string v), Spc.eq (.pointer (some ⟨w.heap.size, 0, none⟩)), Spc.eq (.pointer (some ⟨w.heap.size, 2, none⟩)), Spc.eq (.string v), Spc.eq (.int .i64 (v.size : Int)), Spc.eq (.int .i64 (mn : Int)), Spc.eq (.string sv), Spc.eq (.pointer (some ⟨w.heap.size, 5, none⟩)), Spc.eq (.int .u8 (K : Int)), Spc.eq (.bool gb), Spc.eq (.agg #[.string sb, .string sk, .string sv, .bool gb]), Spc.blk w2.heap.size (wc I.none_)] Try.mixed (by kernel_rfl) ?_
  refine r_value rfl (fun u hu hn => by go_simp) (fun K hK => ?_)
  go_simp
  refine hK _ ?_
  clear hK K
  refine r_value rfl (fun u hu hn => by have hc := K5.out u hu; go_simp) (fun K hK => ?_)
  go_simp
  refine hK _ ?_
  clear hK K
  refine r_value rfl (fun u hu hn => by have e1 := t2.out.1; have e2 := t2.out.2; have e3 := ew2.out; go_simp) (fun K hK => ?_)
  go_simp
  refine hK _ ?_
  clear hK K
  refine r_value rfl (fun u hu hn => by have e4 := e1.out; go_simp) (fun K hK => ?_)
  go_simp
  refine hK _ ?_
  clear hK K
  refine r_row rfl 5 (fun u hu => by have e4 := u2.out; have e5 : ks .u8 (Mc.nb [98, UInt8.ofNat c2]) = [Value.int .u8 98, Value.int .u8 (c2 : Int)] := (by show [Value.int .u8 98, Value.int .u8 (((UInt8.ofNat c2).toNat : Nat) : Int)] = _; rw [e4]); rw [e5]; go_simp) (fun v hv K hK => ?_)
  obtain ⟨b1, rfl⟩ := hv
  go_simp
  refine hK _ ?_
  clear hK K
  refine r_str rfl _ rfl 4 0 rfl rfl [98, UInt8.ofNat c2] _ rfl rfl HSB.out (fun K hK => ?_)
  go_simp
  refine hK _ ?_
  clear hK K
  refine r_value rfl (fun u hu hn => by go_simp) (fun K hK => ?_)
  go_simp
  refine hK _ ?_
  clear hK K
  refine r_value rfl (fun u hu hn => by have hc := K5.out u hu; go_simp) (fun K hK => ?_)
  go_simp
  refine hK _ ?_
  clear hK K
  refine r_value rfl (fun u hu hn => by have e1 := th.out.1; have e2 := th.out.2; have e4 := e3.out; go_simp) (fun K hK => ?_)
  go_simp
  refine hK _ ?_
  clear hK K
  refine r_value rfl (fun u hu hn => by have e1 := t4.out.1; have e2 := t4.out.2; have e3 := ew4.out; go_simp) (fun K hK => ?_)
  go_simp
  refine hK _ ?_
  clear hK K
  refine r_value rfl (fun u hu hn => by have e4 := e2.out; go_simp) (fun K hK => ?_)
  go_simp
  refine hK _ ?_
  clear hK K
  refine r_row rfl 5 (fun u hu => by have e4 := u4.out; have e5 : ks .u8 (Mc.nb [UInt8.ofNat c4]) = [Value.int .u8 (c4 : Int)] := (by show [Value.int .u8 (((UInt8.ofNat c4).toNat : Nat) : Int)] = _; rw [e4]); rw [e5]; go_simp) (fun v hv K hK => ?_)
  obtain ⟨b2, rfl⟩ := hv
  go_simp
  refine hK _ ?_
  clear hK K
  refine r_str rfl _ rfl 11 0 rfl rfl [UInt8.ofNat c4] _ rfl rfl HSK.out (fun K hK => ?_)
  go_simp
  refine hK _ ?_
  clear hK K
  refine r_value rfl (fun u hu hn => by go_simp) (fun K hK => ?_)
  go_simp
  refine hK _ ?_
  clear hK K
  refine r_value rfl (fun u hu hn => by go_simp) (fun K hK => ?_)
  go_simp
  refine hK _ ?_
  clear hK K
  refine r_value rfl (fun u hu hn => by have hc := K2.out u hu; go_simp) (fun K hK => ?_)
  go_simp
  refine hK _ ?_
  clear hK K
  refine r_value rfl (fun u hu hn => by go_simp) (fun K hK => ?_)
  go_simp
  refine hK _ ?_
  clear hK K
  refine r_value rfl (fun u hu hn => by go_simp) (fun K hK => ?_)
  go_simp
  refine hK _ ?_
  clear hK K
  refine r_value rfl (fun u hu hn => by have hc := K2.out u hu; go_simp) (fun K hK => ?_)
  go_simp
  refine hK _ ?_
  clear hK K
  refine r_value rfl (fun u hu hn => by go_simp) (fun K hK => ?_)
  go_simp
  refine hK _ ?_
  clear hK K
  refine r_value rfl (fun u hu hn => by have e4 := hmin.out; go_simp) (fun K hK => ?_)
  go_simp
  refine hK _ ?_
  clear hK K
  refine r_value rfl (fun u hu hn => by have e4 := HSV.out; go_simp) (fun K hK => ?_)
  go_simp
  refine hK _ ?_
  clear hK K
  refine r_value rfl (fun u hu hn => by go_simp) (fun K hK => ?_)
  go_simp
  refine hK _ ?_
  clear hK K
  refine r_value rfl (fun u hu hn => by have hc := K5.out u hu; go_simp) (fun K hK => ?_)
  go_simp
  refine hK _ ?_
  clear hK K
  refine r_value rfl (fun u hu hn => by have e4 := HGE.out; go_simp) (fun K hK => ?_)
  go_simp
  refine hK _ ?_
  clear hK K
  refine r_value rfl (fun u hu hn => by go_simp) (fun K hK => ?_)
  go_simp
  refine hK _ ?_
  clear hK K
  refine r_new rfl 23 rfl Try.info_iw2 (fun u hu => hu.size) (fun v hv K hK => ?_)
  obtain ⟨b3, rfl⟩ := hv
  go_simp
  refine hK _ ?_
  clear hK K
  refine r_nil ?_
  intro u hu hF
  obtain ⟨b', eb, hB, hlt, hblk⟩ := hF 0 _ rfl
  obtain rfl : b3 = b' := by injection eb with h; injection h with h; injection h
  have HU2 : Hid (Below w.heap.size w u) := Below.trans HW2.out (hu.mono HW2.out.size)
  have HBu : Hid (Blk u (w.heap.size + 1) (wc I.none_)) := Blk.below HB2.out hu HZ2.out
  have hz2 := HZ2.out
  have hne : w.heap.size + 1 < b3 := by omega
  clear eb hF hu hlt hB HW2 HB2 HZ2 HA2 q4 K5 K2
  refine blk_store rfl 23 _ _ rfl b3 rfl [.string sb, .string sk, .string sv, .bool gb] rfl _ hblk rfl Try.size_w rfl ?_
  intro k A U
  have HA : Hid (Blk k b3 [.string sb, .string sk, .string sv, .bool gb]) := A
  have HB : Hid (Below w.heap.size w k) := Below.trans HU2.out (U.below (by omega))
  have HC : Hid (Blk k (w.heap.size + 1) (wc I.none_)) := Blk.upd HBu.out U (by omega)
  clear A U hblk HU2 HBu hz2
  have q3 := HA.out.cell 3 _ rfl
  have q2 := HA.out.cell 2 _ rfl
  have f2 := HA.out.free 2 (by simp)
  cases gb with
  | true =>
    have hge : 224 ≤ K := of_decide_eq_true HGB.out
    obtain rfl : (sb, sk, ⟨#[]⟩, true) = R := by rw [← HR.out, HPW.out, HSB.out, HSK.out, if_pos hge, HGB.out]
    have U1 : Upd b3 k (k.setCell ⟨b3, 2, none⟩ (.string ⟨#[]⟩)) := Upd.setCell _ _ _ _
    have HA1 : Hid (Blk (k.setCell ⟨b3, 2, none⟩ (.string ⟨#[]⟩)) b3 [.string sb, .string sk, .string ⟨#[]⟩, .bool true]) := Blk.setc HA.out 2 (by simp) (.string ⟨#[]⟩)
    have HC1 : Hid (Blk (k.setCell ⟨b3, 2, none⟩ (.string ⟨#[]⟩)) (w.heap.size + 1) (wc I.none_)) := Blk.upd HC.out U1 (by omega)
    have HB1 : Hid (Below w.heap.size w (k.setCell ⟨b3, 2, none⟩ (.string ⟨#[]⟩))) := Below.trans HB.out (U1.below (by omega))
    clear U1
    go_wp2_with (first | refine blk_load rfl 23 _ rfl b3 rfl [.string sb, .string sk, .string ⟨#[]⟩, .bool true] HA1.out _ Try.underlying23 rfl Try.size_w ?_ | refine blk_store rfl 23 _ _ rfl (w.heap.size + 1) rfl [.string sb, .string sk, .string ⟨#[]⟩, .bool true] rfl _ HC1.out rfl Try.size_w rfl ?_)
    intro u9 A9 U9
    have HA9 : Hid (Blk u9 (w.heap.size + 1) [.string sb, .string sk, .string ⟨#[]⟩, .bool true]) := A9
    have HW9 : Hid (Below w.heap.size w u9) := Below.trans HB1.out (U9.below (by omega))
    clear A9 U9
    go_wp2_with fail
    refine bodyPost_ret (v := WV (sb, sk, ⟨#[]⟩, true)) ?_ rfl ⟨rfl, HW9.out⟩
    exact res_blk1 (t := 23) Try.results12 _ (w.heap.size + 1) rfl _ HA9.out _ Try.underlying23 rfl Try.size_w
  | false =>
    have hge : ¬ 224 ≤ K := of_decide_eq_false HGB.out
    obtain rfl : (sb, sk, sv, false) = R := by rw [← HR.out, HPW.out, HSB.out, HSK.out, if_neg hge, HGB.out]
    go_wp2_with (first | refine blk_load rfl 23 _ rfl b3 rfl [.string sb, .string sk, .string sv, .bool false] HA.out _ Try.underlying23 rfl Try.size_w ?_ | refine blk_store rfl 23 _ _ rfl (w.heap.size + 1) rfl [.string sb, .string sk, .string sv, .bool false] rfl _ HC.out rfl Try.size_w rfl ?_)
    intro u9 A9 U9
    have HA9 : Hid (Blk u9 (w.heap.size + 1) [.string sb, .string sk, .string sv, .bool false]) := A9
    have HW9 : Hid (Below w.heap.size w u9) := Below.trans HB.out (U9.below (by omega))
    clear A9 U9
    go_wp2_with fail
    refine bodyPost_ret (v := WV (sb, sk, sv, false)) ?_ rfl ⟨rfl, HW9.out⟩
    exact res_blk1 (t := 23) Try.results12 _ (w.heap.size + 1) rfl _ HA9.out _ Try.underlying23 rfl Try.size_w
theorem write_any (x : I.Wt) (own : Bool) (K : Nat) (w : World) (hK : K < 256) (hv : x.2.2.1.size ≤ maxLen) :
    Calls Try.prog 12 #[PV x own K] w fun e w' => e = .returned (WV (I.putW x own K)) ∧ Below w.heap.size w w' := by
  cases own with
  | false => exact write_not x K w
  | true => exact write_own x K w hK hv
end Go.Proofs.Ytkfcbihofipcbaa.It
