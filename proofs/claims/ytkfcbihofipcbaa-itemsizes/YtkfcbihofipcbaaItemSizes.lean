/-
  A write's size is how many bytes bucket, key and value have; what is gone has none; what is too long is not right (the law ItemSizes). No conditions.
-/
import Derived.Test.YtkfcbihofipcbaaFrame

import Derived.Test.YtkfcbihofipcbaaItemF

import Derived.Test.YtkfcbihofipcbaaRel

namespace Go.Proofs.Ytkfcbihofipcbaa.itemSizes

open Go.ChangeShapes Go.WideShapes Go.ChangeAt Go.RowKit

open Go.ChangeMaps (open_string shut_string)

open Go.Proofs.Ytkfcbihofipcbaa.Vc Go.Proofs.Ytkfcbihofipcbaa.Sp Go.Proofs.Ytkfcbihofipcbaa.It

set_option linter.unusedVariables false

set_option linter.unusedSimpArgs false

set_option maxHeartbeats 16000000 in
set_option maxRecDepth 100000 in
theorem walk (a0 : Int) (a1 : Int) (a2 : Int) (a3 : Bool) (w0 : (Lit.int .u8 a0).wf = true) (w1 : (Lit.int .u8 a1).wf = true) (w2 : (Lit.int .u8 a2).wf = true) (w : World) :
    Calls Try.prog 10 #[.int .u8 a0, .int .u8 a1, .int .u8 a2, .bool a3] w fun e w' => e = .returned (.bool true) ∧ Below w.heap.size w w' := by
  have h0 : 0 ≤ a0 ∧ a0 ≤ 255 := by simpa [Lit.wf, IntKind.min, IntKind.max, IntKind.signed, IntKind.bits] using w0
  have h1 : 0 ≤ a1 ∧ a1 ≤ 255 := by simpa [Lit.wf, IntKind.min, IntKind.max, IntKind.signed, IntKind.bits] using w1
  have h2 : 0 ≤ a2 ∧ a2 ≤ 255 := by simpa [Lit.wf, IntKind.min, IntKind.max, IntKind.signed, IntKind.bits] using w2
  obtain ⟨n0, rfl, hn0⟩ : ∃ r : Nat, a0 = (r : Int) ∧ r < 256 := ⟨a0.toNat, by omega, by omega⟩
  obtain ⟨n1, rfl, hn1⟩ : ∃ r : Nat, a1 = (r : Int) ∧ r < 256 := ⟨a1.toNat, by omega, by omega⟩
  obtain ⟨n2, rfl, hn2⟩ : ∃ r : Nat, a2 = (r : Int) ∧ r < 256 := ⟨a2.toNat, by omega, by omega⟩
  clear w0 w1 w2 h0 h1 h2
  obtain ⟨p0, hp0⟩ : ∃ p, p = n0 % 20 := ⟨_, rfl⟩
  have T0 : Hid ((n0 : Int).tmod 20 = (p0 : Int)) := by show _ = _; rw [Int.tmod_eq_emod_of_nonneg (by omega)]; omega
  have M0 : Hid ((n0 : Int) % 20 = (p0 : Int)) := by show _ = _; omega
  have wu0 : Hid (IntKind.u8.wrap (p0 : Int) = (p0 : Int)) := by show _ = _; simp [IntKind.wrap, IntKind.bits, IntKind.signed]; omega
  have wi0 : Hid (IntKind.i64.wrap (p0 : Int) = (p0 : Int)) := wrapi (by omega) (by omega)
  obtain ⟨l0, HL0⟩ : ∃ l, Hid (List.replicate p0 (0 : UInt8) = l) := ⟨_, rfl⟩
  obtain ⟨s0, HS0⟩ : ∃ s, Hid (P.S l0 = s) := ⟨_, rfl⟩
  have hz0 : s0.size = p0 := by rw [← HS0.out, P.S_size, ← HL0.out, List.length_replicate]
  have hq0 : p0 < 20 := by omega
  have hm0 : p0 ≤ 281474976710656 := by omega
  clear hp0 hn0
  obtain ⟨p1, hp1⟩ : ∃ p, p = n1 % 20 := ⟨_, rfl⟩
  have T1 : Hid ((n1 : Int).tmod 20 = (p1 : Int)) := by show _ = _; rw [Int.tmod_eq_emod_of_nonneg (by omega)]; omega
  have M1 : Hid ((n1 : Int) % 20 = (p1 : Int)) := by show _ = _; omega
  have wu1 : Hid (IntKind.u8.wrap (p1 : Int) = (p1 : Int)) := by show _ = _; simp [IntKind.wrap, IntKind.bits, IntKind.signed]; omega
  have wi1 : Hid (IntKind.i64.wrap (p1 : Int) = (p1 : Int)) := wrapi (by omega) (by omega)
  obtain ⟨l1, HL1⟩ : ∃ l, Hid (List.replicate p1 (0 : UInt8) = l) := ⟨_, rfl⟩
  obtain ⟨s1, HS1⟩ : ∃ s, Hid (P.S l1 = s) := ⟨_, rfl⟩
  have hz1 : s1.size = p1 := by rw [← HS1.out, P.S_size, ← HL1.out, List.length_replicate]
  have hq1 : p1 < 20 := by omega
  have hm1 : p1 ≤ 281474976710656 := by omega
  clear hp1 hn1
  obtain ⟨p2, hp2⟩ : ∃ p, p = n2 % 40 := ⟨_, rfl⟩
  have T2 : Hid ((n2 : Int).tmod 40 = (p2 : Int)) := by show _ = _; rw [Int.tmod_eq_emod_of_nonneg (by omega)]; omega
  have M2 : Hid ((n2 : Int) % 40 = (p2 : Int)) := by show _ = _; omega
  have wu2 : Hid (IntKind.u8.wrap (p2 : Int) = (p2 : Int)) := by show _ = _; simp [IntKind.wrap, IntKind.bits, IntKind.signed]; omega
  have wi2 : Hid (IntKind.i64.wrap (p2 : Int) = (p2 : Int)) := wrapi (by omega) (by omega)
  obtain ⟨l2, HL2⟩ : ∃ l, Hid (List.replicate p2 (0 : UInt8) = l) := ⟨_, rfl⟩
  obtain ⟨s2, HS2⟩ : ∃ s, Hid (P.S l2 = s) := ⟨_, rfl⟩
  have hz2 : s2.size = p2 := by rw [← HS2.out, P.S_size, ← HL2.out, List.length_replicate]
  have hq2 : p2 < 40 := by omega
  have hm2 : p2 ≤ 281474976710656 := by omega
  clear hp2 hn2
  obtain ⟨R, HR⟩ : ∃ r, Hid (I.right (s0, s1, s2, a3) = r) := ⟨_, rfl⟩
  have CR : Hid (∀ u, Calls Try.prog 18 #[.agg #[.string s0, .string s1, .string s2, .bool a3]] u fun e w' => e = .returned (.bool R) ∧ Below u.heap.size u w') := fun u => by
    have := wright_any (s0, s1, s2, a3) u
    rw [HR.out] at this
    exact this
  have CS : Hid (∀ u, Calls Try.prog 20 #[.agg #[.string s0, .string s1, .string s2, .bool a3]] u fun e w' => e = .returned (.int .i64 (I.size (s0, s1, s2, a3) : Nat)) ∧ Below u.heap.size u w') := fun u => wsize_any (s0, s1, s2, a3) u ⟨by show s0.size ≤ _; omega, by show s1.size ≤ _; omega, by show s2.size ≤ _; omega⟩
  have hR := HR.out
  unfold I.right at hR
  simp only at hR
  clear HR
  go_enter Try.func10, Try.ntmps10
  go_wp2_with fail
  refine (examples_any _).mono ?_; rintro e w1 ⟨rfl, hb1⟩
  have HB1 : Hid (Below w.heap.size w w1) := hb1
  clear hb1
  go_wp2_with fail
  refine region_relt 18 [Spc.eq (.int .u8 (n0 : Int)), Spc.eq (.int .u8 (p0 : Int)), Spc.eq (.int .i64 (p0 : Int)), Spc.bytes l0, Spc.eq (.string s0), Spc.eq (.int .u8 (n1 : Int)), Spc.eq (.int .u8 (p1 : Int)), Spc.eq (.int .i64 (p1 : Int)), Spc.bytes l1, Spc.eq (.string s1), Spc.eq (.int .u8 (n2 : Int)), Spc.eq (.int .u8 (p2 : Int)), Spc.eq (.int .i64 (p2 : Int)), Spc.bytes l2, Spc.eq (.string s2), Spc.eq (.bool a3), Spc.eq (.agg #[.string s0, .string s1, .string s2, .bool a3]), Spc.blk w1.heap.size (It.wc I.none_)] Try.mixed (by kernel_rfl) ?_
  refine r_move rfl _ rfl rfl (fun K hK => ?_)
  go_simp
  refine hK _ ?_
  clear hK K
  refine r_value rfl (fun u hu hn => by have e1 := T0.out; have e2 := M0.out; have e3 := wu0.out; go_simp) (fun K hK => ?_)
  go_simp
  refine hK _ ?_
  clear hK K
  refine r_value rfl (fun u hu hn => by have e1 := wi0.out; go_simp) (fun K hK => ?_)
  go_simp
  refine hK _ ?_
  clear hK K
  refine r_make rfl _ _ rfl p0 rfl rfl hm0 HL0.out (fun v hv K hK => ?_)
  obtain ⟨b0, rfl⟩ := hv
  go_simp
  refine hK _ ?_
  clear hK K
  refine r_str rfl _ rfl 3 0 rfl rfl l0 _ rfl rfl HS0.out (fun K hK => ?_)
  go_simp
  refine hK _ ?_
  clear hK K
  refine r_move rfl _ rfl rfl (fun K hK => ?_)
  go_simp
  refine hK _ ?_
  clear hK K
  refine r_value rfl (fun u hu hn => by have e1 := T1.out; have e2 := M1.out; have e3 := wu1.out; go_simp) (fun K hK => ?_)
  go_simp
  refine hK _ ?_
  clear hK K
  refine r_value rfl (fun u hu hn => by have e1 := wi1.out; go_simp) (fun K hK => ?_)
  go_simp
  refine hK _ ?_
  clear hK K
  refine r_make rfl _ _ rfl p1 rfl rfl hm1 HL1.out (fun v hv K hK => ?_)
  obtain ⟨b1, rfl⟩ := hv
  go_simp
  refine hK _ ?_
  clear hK K
  refine r_str rfl _ rfl 8 0 rfl rfl l1 _ rfl rfl HS1.out (fun K hK => ?_)
  go_simp
  refine hK _ ?_
  clear hK K
  refine r_move rfl _ rfl rfl (fun K hK => ?_)
  go_simp
  refine hK _ ?_
  clear hK K
  refine r_value rfl (fun u hu hn => by have e1 := T2.out; have e2 := M2.out; have e3 := wu2.out; go_simp) (fun K hK => ?_)
  go_simp
  refine hK _ ?_
  clear hK K
  refine r_value rfl (fun u hu hn => by have e1 := wi2.out; go_simp) (fun K hK => ?_)
  go_simp
  refine hK _ ?_
  clear hK K
  refine r_make rfl _ _ rfl p2 rfl rfl hm2 HL2.out (fun v hv K hK => ?_)
  obtain ⟨b2, rfl⟩ := hv
  go_simp
  refine hK _ ?_
  clear hK K
  refine r_str rfl _ rfl 13 0 rfl rfl l2 _ rfl rfl HS2.out (fun K hK => ?_)
  go_simp
  refine hK _ ?_
  clear hK K
  refine r_move rfl _ rfl rfl (fun K hK => ?_)
  go_simp
  refine hK _ ?_
  clear hK K
  refine r_value rfl (fun u hu hn => by go_simp) (fun K hK => ?_)
  go_simp
  refine hK _ ?_
  clear hK K
  refine r_new rfl 23 rfl It.Try.info_iw2 (fun u hu => hu.size) (fun v hv K hK => ?_)
  obtain ⟨b3, rfl⟩ := hv
  go_simp
  refine hK _ ?_
  clear hK K
  refine r_nil ?_
  intro u hu hF
  obtain ⟨b, eb, hB, hlt, hblk⟩ := hF 0 _ rfl
  obtain rfl : b3 = b := by injection eb with h; injection h with h; injection h
  have HB2 : Hid (Below w.heap.size w u) := Below.trans HB1.out (hu.mono HB1.out.size)
  have hB3 : w.heap.size ≤ b3 := Nat.le_trans HB1.out.size hB
  have HLT : Hid (b3 < u.heap.size) := hlt
  clear eb hF hu hlt hB HB1
  refine blk_store rfl 23 _ _ rfl b3 rfl [.string s0, .string s1, .string s2, .bool a3] rfl _ hblk rfl Try.size_w rfl ?_
  intro k A U
  have HA : Hid (Blk k b3 [.string s0, .string s1, .string s2, .bool a3]) := A
  have HB : Hid (Below w.heap.size w k) := Below.trans HB2.out (U.below hB3)
  have HK : Hid (b3 < k.heap.size) := by show _ < _; rw [U.size]; exact HLT.out
  clear A U hblk HB2 hB3 HLT
  have c0 := HA.out.cell 0 _ rfl
  have c1 := HA.out.cell 1 _ rfl
  have c2 := HA.out.cell 2 _ rfl
  have c3 := HA.out.cell 3 _ rfl
  have e1 : IntKind.i64.wrap ((s0.size : Int) + (s1.size : Int)) = (s0.size : Int) + (s1.size : Int) := wrapi (by omega) (by omega)
  have e2 : IntKind.i64.wrap ((s0.size : Int) + (s1.size : Int) + (s2.size : Int)) = (s0.size : Int) + (s1.size : Int) + (s2.size : Int) := wrapi (by omega) (by omega)
  cases a3 with
  | false =>
    by_cases h1 : 1 ≤ s0.size
    · have i1 : (1 : Int) ≤ (s0.size : Int) := by omega
      by_cases h2 : s0.size ≤ 16
      · have i2 : (s0.size : Int) ≤ 16 := by omega
        by_cases h3 : 1 ≤ s1.size
        · have i3 : (1 : Int) ≤ (s1.size : Int) := by omega
          by_cases h4 : s1.size ≤ 16
          · have i4 : (s1.size : Int) ≤ 16 := by omega
            by_cases h5 : s2.size ≤ 32
            · have i5 : (s2.size : Int) ≤ 32 := by omega
              obtain rfl : true = R := by rw [← hR]; simp [h1, h2, h3, h4, h5]
              clear hR
              go_wp2_with fail
              refine (CR.out _).mono ?_; rintro e k1 ⟨rfl, hb⟩
              have HA1 := Lib.hid (Blk.below HA.out hb HK.out)
              have HB1 : Hid (Below w.heap.size w k1) := Below.trans HB.out (hb.mono HB.out.size)
              clear hb c0 c1 c2 c3 HA HB HK
              have c0 := HA1.out.cell 0 _ rfl
              have c1 := HA1.out.cell 1 _ rfl
              have c2 := HA1.out.cell 2 _ rfl
              have c3 := HA1.out.cell 3 _ rfl
              go_wp2_with fail
              refine (CS.out _).mono ?_; rintro e k2 ⟨rfl, hb⟩
              have HB2 : Hid (Below w.heap.size w k2) := Below.trans HB1.out (hb.mono HB1.out.size)
              clear hb c0 c1 c2 c3 HA1 HB1
              have hsz : (((I.size (s0, s1, s2, false) : Nat) : Int) == (p0 : Int) + (p1 : Int) + (p2 : Int)) = true := by rw [beq_iff_eq]; show ((s0.size + s1.size + s2.size : Nat) : Int) = _; omega
              obtain ⟨sz, HSZ⟩ : ∃ z, Hid (((I.size (s0, s1, s2, false) : Nat) : Int) = z) := ⟨_, rfl⟩
              rw [HSZ.out] at hsz
              rw [HSZ.out]
              clear HSZ
              go_wp2_with fail
              go_ret
              exact ⟨rfl, HB2.out⟩
            · obtain rfl : false = R := by rw [← hR]; simp [h5]
              have i : decide ((s2.size : Int) ≤ 32) = false := by simp; omega
              clear hR
              go_wp2_with fail
              refine (CR.out _).mono ?_; rintro e k1 ⟨rfl, hb⟩
              have HA1 := Lib.hid (Blk.below HA.out hb HK.out)
              have HB1 : Hid (Below w.heap.size w k1) := Below.trans HB.out (hb.mono HB.out.size)
              clear hb c0 c1 c2 c3 HA HB HK
              have c0 := HA1.out.cell 0 _ rfl
              have c1 := HA1.out.cell 1 _ rfl
              have c2 := HA1.out.cell 2 _ rfl
              have c3 := HA1.out.cell 3 _ rfl
              go_wp2_with fail
              refine (CS.out _).mono ?_; rintro e k2 ⟨rfl, hb⟩
              have HB2 : Hid (Below w.heap.size w k2) := Below.trans HB1.out (hb.mono HB1.out.size)
              clear hb c0 c1 c2 c3 HA1 HB1
              have hsz : (((I.size (s0, s1, s2, false) : Nat) : Int) == (p0 : Int) + (p1 : Int) + (p2 : Int)) = true := by rw [beq_iff_eq]; show ((s0.size + s1.size + s2.size : Nat) : Int) = _; omega
              obtain ⟨sz, HSZ⟩ : ∃ z, Hid (((I.size (s0, s1, s2, false) : Nat) : Int) = z) := ⟨_, rfl⟩
              rw [HSZ.out] at hsz
              rw [HSZ.out]
              clear HSZ
              go_wp2_with fail
              go_ret
              exact ⟨rfl, HB2.out⟩
          · obtain rfl : false = R := by rw [← hR]; simp [h4]
            have i : decide ((s1.size : Int) ≤ 16) = false := by simp; omega
            clear hR
            go_wp2_with fail
            refine (CR.out _).mono ?_; rintro e k1 ⟨rfl, hb⟩
            have HA1 := Lib.hid (Blk.below HA.out hb HK.out)
            have HB1 : Hid (Below w.heap.size w k1) := Below.trans HB.out (hb.mono HB.out.size)
            clear hb c0 c1 c2 c3 HA HB HK
            have c0 := HA1.out.cell 0 _ rfl
            have c1 := HA1.out.cell 1 _ rfl
            have c2 := HA1.out.cell 2 _ rfl
            have c3 := HA1.out.cell 3 _ rfl
            go_wp2_with fail
            refine (CS.out _).mono ?_; rintro e k2 ⟨rfl, hb⟩
            have HB2 : Hid (Below w.heap.size w k2) := Below.trans HB1.out (hb.mono HB1.out.size)
            clear hb c0 c1 c2 c3 HA1 HB1
            have hsz : (((I.size (s0, s1, s2, false) : Nat) : Int) == (p0 : Int) + (p1 : Int) + (p2 : Int)) = true := by rw [beq_iff_eq]; show ((s0.size + s1.size + s2.size : Nat) : Int) = _; omega
            obtain ⟨sz, HSZ⟩ : ∃ z, Hid (((I.size (s0, s1, s2, false) : Nat) : Int) = z) := ⟨_, rfl⟩
            rw [HSZ.out] at hsz
            rw [HSZ.out]
            clear HSZ
            go_wp2_with fail
            go_ret
            exact ⟨rfl, HB2.out⟩
        · obtain rfl : false = R := by rw [← hR]; simp [h3]
          have i : decide ((1 : Int) ≤ (s1.size : Int)) = false := by simp; omega
          clear hR
          go_wp2_with fail
          refine (CR.out _).mono ?_; rintro e k1 ⟨rfl, hb⟩
          have HA1 := Lib.hid (Blk.below HA.out hb HK.out)
          have HB1 : Hid (Below w.heap.size w k1) := Below.trans HB.out (hb.mono HB.out.size)
          clear hb c0 c1 c2 c3 HA HB HK
          have c0 := HA1.out.cell 0 _ rfl
          have c1 := HA1.out.cell 1 _ rfl
          have c2 := HA1.out.cell 2 _ rfl
          have c3 := HA1.out.cell 3 _ rfl
          go_wp2_with fail
          refine (CS.out _).mono ?_; rintro e k2 ⟨rfl, hb⟩
          have HB2 : Hid (Below w.heap.size w k2) := Below.trans HB1.out (hb.mono HB1.out.size)
          clear hb c0 c1 c2 c3 HA1 HB1
          have hsz : (((I.size (s0, s1, s2, false) : Nat) : Int) == (p0 : Int) + (p1 : Int) + (p2 : Int)) = true := by rw [beq_iff_eq]; show ((s0.size + s1.size + s2.size : Nat) : Int) = _; omega
          obtain ⟨sz, HSZ⟩ : ∃ z, Hid (((I.size (s0, s1, s2, false) : Nat) : Int) = z) := ⟨_, rfl⟩
          rw [HSZ.out] at hsz
          rw [HSZ.out]
          clear HSZ
          go_wp2_with fail
          go_ret
          exact ⟨rfl, HB2.out⟩
      · obtain rfl : false = R := by rw [← hR]; simp [h2]
        have i : decide ((s0.size : Int) ≤ 16) = false := by simp; omega
        clear hR
        go_wp2_with fail
        refine (CR.out _).mono ?_; rintro e k1 ⟨rfl, hb⟩
        have HA1 := Lib.hid (Blk.below HA.out hb HK.out)
        have HB1 : Hid (Below w.heap.size w k1) := Below.trans HB.out (hb.mono HB.out.size)
        clear hb c0 c1 c2 c3 HA HB HK
        have c0 := HA1.out.cell 0 _ rfl
        have c1 := HA1.out.cell 1 _ rfl
        have c2 := HA1.out.cell 2 _ rfl
        have c3 := HA1.out.cell 3 _ rfl
        go_wp2_with fail
        refine (CS.out _).mono ?_; rintro e k2 ⟨rfl, hb⟩
        have HB2 : Hid (Below w.heap.size w k2) := Below.trans HB1.out (hb.mono HB1.out.size)
        clear hb c0 c1 c2 c3 HA1 HB1
        have hsz : (((I.size (s0, s1, s2, false) : Nat) : Int) == (p0 : Int) + (p1 : Int) + (p2 : Int)) = true := by rw [beq_iff_eq]; show ((s0.size + s1.size + s2.size : Nat) : Int) = _; omega
        obtain ⟨sz, HSZ⟩ : ∃ z, Hid (((I.size (s0, s1, s2, false) : Nat) : Int) = z) := ⟨_, rfl⟩
        rw [HSZ.out] at hsz
        rw [HSZ.out]
        clear HSZ
        go_wp2_with fail
        go_ret
        exact ⟨rfl, HB2.out⟩
    · obtain rfl : false = R := by rw [← hR]; simp [h1]
      have i : decide ((1 : Int) ≤ (s0.size : Int)) = false := by simp; omega
      clear hR
      go_wp2_with fail
      refine (CR.out _).mono ?_; rintro e k1 ⟨rfl, hb⟩
      have HA1 := Lib.hid (Blk.below HA.out hb HK.out)
      have HB1 : Hid (Below w.heap.size w k1) := Below.trans HB.out (hb.mono HB.out.size)
      clear hb c0 c1 c2 c3 HA HB HK
      have c0 := HA1.out.cell 0 _ rfl
      have c1 := HA1.out.cell 1 _ rfl
      have c2 := HA1.out.cell 2 _ rfl
      have c3 := HA1.out.cell 3 _ rfl
      go_wp2_with fail
      refine (CS.out _).mono ?_; rintro e k2 ⟨rfl, hb⟩
      have HB2 : Hid (Below w.heap.size w k2) := Below.trans HB1.out (hb.mono HB1.out.size)
      clear hb c0 c1 c2 c3 HA1 HB1
      have hsz : (((I.size (s0, s1, s2, false) : Nat) : Int) == (p0 : Int) + (p1 : Int) + (p2 : Int)) = true := by rw [beq_iff_eq]; show ((s0.size + s1.size + s2.size : Nat) : Int) = _; omega
      obtain ⟨sz, HSZ⟩ : ∃ z, Hid (((I.size (s0, s1, s2, false) : Nat) : Int) = z) := ⟨_, rfl⟩
      rw [HSZ.out] at hsz
      rw [HSZ.out]
      clear HSZ
      go_wp2_with fail
      go_ret
      exact ⟨rfl, HB2.out⟩
  | true =>
    by_cases h1 : 1 ≤ s0.size
    · have i1 : (1 : Int) ≤ (s0.size : Int) := by omega
      by_cases h2 : s0.size ≤ 16
      · have i2 : (s0.size : Int) ≤ 16 := by omega
        by_cases h3 : 1 ≤ s1.size
        · have i3 : (1 : Int) ≤ (s1.size : Int) := by omega
          by_cases h4 : s1.size ≤ 16
          · have i4 : (s1.size : Int) ≤ 16 := by omega
            by_cases h5 : s2.size ≤ 32
            · have i5 : (s2.size : Int) ≤ 32 := by omega
              by_cases h6 : s2.size = 0
              · obtain rfl : true = R := by rw [← hR]; simp [h1, h2, h3, h4, h6]
                have hE : s2.toList.isEmpty = true := by
                  rw [ByteArray.toList_eq, List.isEmpty_iff]
                  exact List.eq_nil_of_length_eq_zero (by rw [P.len_list]; exact h6)
                clear hR
                go_wp2_with fail
                refine (CR.out _).mono ?_; rintro e k1 ⟨rfl, hb⟩
                have HA1 := Lib.hid (Blk.below HA.out hb HK.out)
                have HB1 : Hid (Below w.heap.size w k1) := Below.trans HB.out (hb.mono HB.out.size)
                clear hb c0 c1 c2 c3 HA HB HK
                have c0 := HA1.out.cell 0 _ rfl
                have c1 := HA1.out.cell 1 _ rfl
                have c2 := HA1.out.cell 2 _ rfl
                have c3 := HA1.out.cell 3 _ rfl
                go_wp2_with fail
                refine (CS.out _).mono ?_; rintro e k2 ⟨rfl, hb⟩
                have HB2 : Hid (Below w.heap.size w k2) := Below.trans HB1.out (hb.mono HB1.out.size)
                clear hb c0 c1 c2 c3 HA1 HB1
                have hsz : (((I.size (s0, s1, s2, true) : Nat) : Int) == 0) = true := rfl
                obtain ⟨sz, HSZ⟩ : ∃ z, Hid (((I.size (s0, s1, s2, true) : Nat) : Int) = z) := ⟨_, rfl⟩
                rw [HSZ.out] at hsz
                rw [HSZ.out]
                clear HSZ
                go_wp2_with fail
                go_ret
                exact ⟨rfl, HB2.out⟩
              · obtain rfl : false = R := by rw [← hR]; simp [h6]
                have hE := V.empty_not s2 h6
                clear hR
                go_wp2_with fail
                refine (CR.out _).mono ?_; rintro e k1 ⟨rfl, hb⟩
                have HA1 := Lib.hid (Blk.below HA.out hb HK.out)
                have HB1 : Hid (Below w.heap.size w k1) := Below.trans HB.out (hb.mono HB.out.size)
                clear hb c0 c1 c2 c3 HA HB HK
                have c0 := HA1.out.cell 0 _ rfl
                have c1 := HA1.out.cell 1 _ rfl
                have c2 := HA1.out.cell 2 _ rfl
                have c3 := HA1.out.cell 3 _ rfl
                go_wp2_with fail
                refine (CS.out _).mono ?_; rintro e k2 ⟨rfl, hb⟩
                have HB2 : Hid (Below w.heap.size w k2) := Below.trans HB1.out (hb.mono HB1.out.size)
                clear hb c0 c1 c2 c3 HA1 HB1
                have hsz : (((I.size (s0, s1, s2, true) : Nat) : Int) == 0) = true := rfl
                obtain ⟨sz, HSZ⟩ : ∃ z, Hid (((I.size (s0, s1, s2, true) : Nat) : Int) = z) := ⟨_, rfl⟩
                rw [HSZ.out] at hsz
                rw [HSZ.out]
                clear HSZ
                go_wp2_with fail
                go_ret
                exact ⟨rfl, HB2.out⟩
            · obtain rfl : false = R := by rw [← hR]; simp [h5]
              have i : decide ((s2.size : Int) ≤ 32) = false := by simp; omega
              clear hR
              go_wp2_with fail
              refine (CR.out _).mono ?_; rintro e k1 ⟨rfl, hb⟩
              have HA1 := Lib.hid (Blk.below HA.out hb HK.out)
              have HB1 : Hid (Below w.heap.size w k1) := Below.trans HB.out (hb.mono HB.out.size)
              clear hb c0 c1 c2 c3 HA HB HK
              have c0 := HA1.out.cell 0 _ rfl
              have c1 := HA1.out.cell 1 _ rfl
              have c2 := HA1.out.cell 2 _ rfl
              have c3 := HA1.out.cell 3 _ rfl
              go_wp2_with fail
              refine (CS.out _).mono ?_; rintro e k2 ⟨rfl, hb⟩
              have HB2 : Hid (Below w.heap.size w k2) := Below.trans HB1.out (hb.mono HB1.out.size)
              clear hb c0 c1 c2 c3 HA1 HB1
              have hsz : (((I.size (s0, s1, s2, true) : Nat) : Int) == 0) = true := rfl
              obtain ⟨sz, HSZ⟩ : ∃ z, Hid (((I.size (s0, s1, s2, true) : Nat) : Int) = z) := ⟨_, rfl⟩
              rw [HSZ.out] at hsz
              rw [HSZ.out]
              clear HSZ
              go_wp2_with fail
              go_ret
              exact ⟨rfl, HB2.out⟩
          · obtain rfl : false = R := by rw [← hR]; simp [h4]
            have i : decide ((s1.size : Int) ≤ 16) = false := by simp; omega
            clear hR
            go_wp2_with fail
            refine (CR.out _).mono ?_; rintro e k1 ⟨rfl, hb⟩
            have HA1 := Lib.hid (Blk.below HA.out hb HK.out)
            have HB1 : Hid (Below w.heap.size w k1) := Below.trans HB.out (hb.mono HB.out.size)
            clear hb c0 c1 c2 c3 HA HB HK
            have c0 := HA1.out.cell 0 _ rfl
            have c1 := HA1.out.cell 1 _ rfl
            have c2 := HA1.out.cell 2 _ rfl
            have c3 := HA1.out.cell 3 _ rfl
            go_wp2_with fail
            refine (CS.out _).mono ?_; rintro e k2 ⟨rfl, hb⟩
            have HB2 : Hid (Below w.heap.size w k2) := Below.trans HB1.out (hb.mono HB1.out.size)
            clear hb c0 c1 c2 c3 HA1 HB1
            have hsz : (((I.size (s0, s1, s2, true) : Nat) : Int) == 0) = true := rfl
            obtain ⟨sz, HSZ⟩ : ∃ z, Hid (((I.size (s0, s1, s2, true) : Nat) : Int) = z) := ⟨_, rfl⟩
            rw [HSZ.out] at hsz
            rw [HSZ.out]
            clear HSZ
            go_wp2_with fail
            go_ret
            exact ⟨rfl, HB2.out⟩
        · obtain rfl : false = R := by rw [← hR]; simp [h3]
          have i : decide ((1 : Int) ≤ (s1.size : Int)) = false := by simp; omega
          clear hR
          go_wp2_with fail
          refine (CR.out _).mono ?_; rintro e k1 ⟨rfl, hb⟩
          have HA1 := Lib.hid (Blk.below HA.out hb HK.out)
          have HB1 : Hid (Below w.heap.size w k1) := Below.trans HB.out (hb.mono HB.out.size)
          clear hb c0 c1 c2 c3 HA HB HK
          have c0 := HA1.out.cell 0 _ rfl
          have c1 := HA1.out.cell 1 _ rfl
          have c2 := HA1.out.cell 2 _ rfl
          have c3 := HA1.out.cell 3 _ rfl
          go_wp2_with fail
          refine (CS.out _).mono ?_; rintro e k2 ⟨rfl, hb⟩
          have HB2 : Hid (Below w.heap.size w k2) := Below.trans HB1.out (hb.mono HB1.out.size)
          clear hb c0 c1 c2 c3 HA1 HB1
          have hsz : (((I.size (s0, s1, s2, true) : Nat) : Int) == 0) = true := rfl
          obtain ⟨sz, HSZ⟩ : ∃ z, Hid (((I.size (s0, s1, s2, true) : Nat) : Int) = z) := ⟨_, rfl⟩
          rw [HSZ.out] at hsz
          rw [HSZ.out]
          clear HSZ
          go_wp2_with fail
          go_ret
          exact ⟨rfl, HB2.out⟩
      · obtain rfl : false = R := by rw [← hR]; simp [h2]
        have i : decide ((s0.size : Int) ≤ 16) = false := by simp; omega
        clear hR
        go_wp2_with fail
        refine (CR.out _).mono ?_; rintro e k1 ⟨rfl, hb⟩
        have HA1 := Lib.hid (Blk.below HA.out hb HK.out)
        have HB1 : Hid (Below w.heap.size w k1) := Below.trans HB.out (hb.mono HB.out.size)
        clear hb c0 c1 c2 c3 HA HB HK
        have c0 := HA1.out.cell 0 _ rfl
        have c1 := HA1.out.cell 1 _ rfl
        have c2 := HA1.out.cell 2 _ rfl
        have c3 := HA1.out.cell 3 _ rfl
        go_wp2_with fail
        refine (CS.out _).mono ?_; rintro e k2 ⟨rfl, hb⟩
        have HB2 : Hid (Below w.heap.size w k2) := Below.trans HB1.out (hb.mono HB1.out.size)
        clear hb c0 c1 c2 c3 HA1 HB1
        have hsz : (((I.size (s0, s1, s2, true) : Nat) : Int) == 0) = true := rfl
        obtain ⟨sz, HSZ⟩ : ∃ z, Hid (((I.size (s0, s1, s2, true) : Nat) : Int) = z) := ⟨_, rfl⟩
        rw [HSZ.out] at hsz
        rw [HSZ.out]
        clear HSZ
        go_wp2_with fail
        go_ret
        exact ⟨rfl, HB2.out⟩
    · obtain rfl : false = R := by rw [← hR]; simp [h1]
      have i : decide ((1 : Int) ≤ (s0.size : Int)) = false := by simp; omega
      clear hR
      go_wp2_with fail
      refine (CR.out _).mono ?_; rintro e k1 ⟨rfl, hb⟩
      have HA1 := Lib.hid (Blk.below HA.out hb HK.out)
      have HB1 : Hid (Below w.heap.size w k1) := Below.trans HB.out (hb.mono HB.out.size)
      clear hb c0 c1 c2 c3 HA HB HK
      have c0 := HA1.out.cell 0 _ rfl
      have c1 := HA1.out.cell 1 _ rfl
      have c2 := HA1.out.cell 2 _ rfl
      have c3 := HA1.out.cell 3 _ rfl
      go_wp2_with fail
      refine (CS.out _).mono ?_; rintro e k2 ⟨rfl, hb⟩
      have HB2 : Hid (Below w.heap.size w k2) := Below.trans HB1.out (hb.mono HB1.out.size)
      clear hb c0 c1 c2 c3 HA1 HB1
      have hsz : (((I.size (s0, s1, s2, true) : Nat) : Int) == 0) = true := rfl
      obtain ⟨sz, HSZ⟩ : ∃ z, Hid (((I.size (s0, s1, s2, true) : Nat) : Int) = z) := ⟨_, rfl⟩
      rw [HSZ.out] at hsz
      rw [HSZ.out]
      clear HSZ
      go_wp2_with fail
      go_ret
      exact ⟨rfl, HB2.out⟩

set_option maxRecDepth 100000 in
theorem lifted (os : Os) (started : os.Started) (H : Type) (enc : TypeId × Value → H) :
    ReturnsInHanded {} Try.checked os 10 .any (Rows.itemSizesSpec.pre6 enc Try.prog Try.f10 Rows.itemSizesRow.domain false) (Rows.itemSizesSpec.post enc Try.prog Try.f10 false true false false) := by
  refine returnsInHanded_of_change_sized (C := Try.checked) own started (by kernel_rfl) Try.func10
    (ChangeSpec.witness6 (enc := enc) (C := Try.checked) false ⟨#[], #[.int .u8 0, .int .u8 0, .int .u8 0, .bool false], []⟩ 8 (by kernel_rfl) (by kernel_rfl) (by kernel_rfl) (by kernel_rfl)) ?_
  intro W base args ds gs before hval0 hW hcnd hsz0 _
  have hval : ∀ (j : Nat) t v, Try.f10.params[j]? = some t → args[j]? = some v → Value.okWide Try.prog W .any base t v := hval0
  have hW' := hW
  obtain ⟨p, q, hA0, hV, rfl, hfz, hnd⟩ := hW
  have hA : DataW.TrodAll enc Try.prog W 0 (fun _ => true) true Try.f10.params.toList args.toList ds p := hA0
  have hsz : (DataW.weightsEach Try.prog (Try.f10.params.toList ++ Rows.itemSizesSpec.plain.varTypes Try.prog) (ds ++ gs)).all (· ≤ reachBytes) = true := hsz0
  rw [Try.params10] at hA hval hsz
  obtain ⟨rfl, rfl⟩ := trodVars_none hV
  have hAk := hA
  have hlt : ∀ x ∈ p, x.block < W.heap.size := fun x hx => by simpa using hW'.lt x (List.mem_append.2 (.inl hx))
  obtain ⟨v0, vs0, d0, ds0, p0, q0, hargs, rfl, rfl, h0, r0⟩ := trodAll_cons hA
  obtain ⟨v1, vs1, d1, ds1, p1, q1, rfl, rfl, rfl, h1, r1⟩ := trodAll_cons r0
  obtain ⟨v2, vs2, d2, ds2, p2, q2, rfl, rfl, rfl, h2, r2⟩ := trodAll_cons r1
  obtain ⟨v3, vs3, d3, ds3, p3, q3, rfl, rfl, rfl, h3, r3⟩ := trodAll_cons r2
  obtain ⟨rfl, rfl, rfl⟩ := trodAll_nil r3
  obtain rfl : args = #[v0, v1, v2, v3] := by cases args; simp_all
  obtain ⟨a0, rfl, rfl, rfl, w0⟩ := open_int Try.underlying5 (hval 0 5 v0 rfl rfl) h0
  obtain ⟨a1, rfl, rfl, rfl, w1⟩ := open_int Try.underlying5 (hval 1 5 v1 rfl rfl) h1
  obtain ⟨a2, rfl, rfl, rfl, w2⟩ := open_int Try.underlying5 (hval 2 5 v2 rfl rfl) h2
  obtain ⟨a3, rfl, rfl, rfl⟩ := open_bool Try.underlying4 (hval 3 4 v3 rfl rfl) h3
  clear hA0 hval0 hsz0
  refine (walk a0 a1 a2 a3 w0 w1 w2 W).mono fun e W' ⟨he, hg⟩ => ?_
  subst he
  exact ⟨_, rfl, _, _, _, [], _, [], hW', (trodAll_cons_mk (shut_bool Try.underlying4 _) trodAll_mk0), trodAll_below laidOut hg _ _ _ _ (by kernel_rfl) hAk hlt, rfl, hg.frame _, fun h => by cases h⟩

theorem over : Rows.itemSizesRow.holds Try.pinned (OpenSpec.ofChange Rows.itemSizesSpec) :=
  OpenClaim.holds_of_wide 10 Try.f10 rfl rfl rfl rfl rfl rfl rfl ⟨rfl, rfl, rfl, rfl, rfl⟩ rfl rfl rfl rfl rfl (by kernel_rfl) Try.func10 (by kernel_rfl)
    (of_decide_eq_true (by kernel_rfl)) (by unfold Func.isWrapper; first | (rw [if_pos (by decide +kernel)]; kernel_rfl) | (rw [if_neg (by decide +kernel)]; exact ⟨rfl, rfl⟩))
    (fun os started H enc _ => lifted os started H enc)

/-- the statement -/
theorem proved : Rows.ItemSizesSaid :=
  over
#print axioms proved

end Go.Proofs.Ytkfcbihofipcbaa.itemSizes
