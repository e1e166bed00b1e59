/-
  Numbers are put into a lane, and taken, deed by deed, as the document's own answer tells (the law LanePlays). No conditions.
-/
import Derived.Test.YtbhehdkljolpkaaFrame
import Derived.Test.YtbhehdkljolpkaaLaneEx
import Derived.Test.YtbhehdkljolpkaaLaneRef
import Derived.Deep.DeepCutAuto
import Derived.Deep.CutBlock
import Derived.Deep.RegionHeld3
import Derived.Test.YtbhehdkljolpkaaFramePairs
namespace Go.Proofs.Ytbhehdkljolpkaa.lanePlays
open Go.ChangeShapes Go.WideShapes Go.ChangeAt Go.RowKit
open Go.ChangeMaps (open_string shut_string)
set_option linter.unusedVariables false
set_option linter.unusedSimpArgs false

/-- the two lanes beside one another: the program's holds A, the document's own B -/
structure St (w u : World) (b c d n : Nat) (A B : List Int) : Prop where
  ln : Ln u b c n (A.map iv)
  rf : Rf u d n B
  ne : b ≠ d
  bl : Below w.heap.size w u
  hc : w.heap.size ≤ c
  hd : w.heap.size ≤ d
theorem St.onL {w u u' : World} {b c d n : Nat} {A A' B : List Int} (h : St w u b c d n A B) (hl : Ln u' b c n (A'.map iv)) (hu : But c u u') : St w u' b c d n A' B :=
  ⟨hl, h.rf.chan h.ln hu, h.ne, h.bl.trans (hu.below h.hc h.bl.size), h.hc, h.hd⟩
theorem St.onR {w u u' : World} {b c d n : Nat} {A B B' : List Int} (h : St w u b c d n A B) (hr : Rf u' d n B') (hu : But d u u') : St w u' b c d n A B' :=
  ⟨h.ln.but hu h.ne (fun e => h.ln.far h.rf.room e.symm), hr, h.ne, h.bl.trans (hu.below h.hd h.bl.size), h.hc, h.hd⟩
theorem St.drew {w u : World} {b c d n : Nat} {A B : List Int} (h : St w u b c d n A B) : St w u.drew b c d n A B :=
  ⟨h.ln.drew, h.rf.drew, h.ne, h.bl.drew, h.hc, h.hd⟩
theorem St.drewN {w u : World} {b c d n : Nat} {A B : List Int} (h : St w u b c d n A B) (m : Nat) : St w (u.drewN m) b c d n A B :=
  ⟨⟨by simpa using h.ln.cell, h.ln.chan⟩, h.rf.keep rfl (Nat.le_refl _) (fun _ _ _ hv => by simpa using hv), h.ne, ⟨h.bl.os, h.bl.tape, h.bl.output, h.bl.size, h.bl.block⟩, h.hc, h.hd⟩
theorem iv_snoc (A : List Int) (x : Int) : A.map iv ++ [.int .i64 x] = (A ++ [x]).map iv := by simp [iv]
theorem l_put_ok {w u : World} {b c d n : Nat} {A B : List Int} (x : Int) (h : St w u b c d n A B) (hn : A.length < n) :
    Calls Try.prog 14 #[.pointer (some ⟨b, 0, none⟩), .int .i64 x] u fun e u' => e = .returned (.bool true) ∧ St w u' b c d n (A ++ [x]) B := by
  refine (Int.put_ok (.int .i64 x) h.ln (by simpa using hn)).mono ?_
  rintro e u' ⟨rfl, hl, hu⟩
  exact ⟨rfl, h.onL (by rw [← iv_snoc]; exact hl) hu⟩
theorem l_put_no {w u : World} {b c d n : Nat} {A B : List Int} (x : Int) (h : St w u b c d n A B) (hn : n ≤ A.length) :
    Calls Try.prog 14 #[.pointer (some ⟨b, 0, none⟩), .int .i64 x] u fun e u' => e = .returned (.bool false) ∧ St w u' b c d n A B := by
  refine (Int.put_no (.int .i64 x) h.ln (by simpa using hn)).mono ?_
  rintro e u' ⟨rfl, rfl⟩
  exact ⟨rfl, h⟩
theorem r_put_ok {w u : World} {b c d n : Nat} {A B : List Int} (x : Int) (h : St w u b c d n A B) (hs : n ≤ 16) (hn : B.length < n) :
    Calls Try.prog 15 #[.pointer (some ⟨d, 0, none⟩), .int .i64 x] u fun e u' => e = .returned (.bool true) ∧ St w u' b c d n A (B ++ [x]) := by
  refine (rput_ok x h.rf hs hn).mono ?_
  rintro e u' ⟨rfl, hl, hu⟩
  exact ⟨rfl, h.onR hl hu⟩
theorem r_put_no {w u : World} {b c d n : Nat} {A B : List Int} (x : Int) (h : St w u b c d n A B) (hs : B.length ≤ 16) (hn : n ≤ B.length) :
    Calls Try.prog 15 #[.pointer (some ⟨d, 0, none⟩), .int .i64 x] u fun e u' => e = .returned (.bool false) ∧ St w u' b c d n A B := by
  refine (rput_no x h.rf hs hn).mono ?_
  rintro e u' ⟨rfl, hl, hu⟩
  exact ⟨rfl, h.onR hl hu⟩
theorem deed_at {w u : World} {a : Option Addr} {len : Nat} {X Y : Nat → Int} (h : IsPairs .u8 .i64 w a len X Y) (hb : Below w.heap.size w u) (j : Nat) (hj : j < len) :
    ∃ b off, a = some ⟨b, off, none⟩ ∧ u.cell? ⟨b, off + j * 2, none⟩ = some (.int .u8 (X j)) ∧ u.cell? ⟨b, off + j * 2 + 1, none⟩ = some (.int .i64 (Y j)) ∧ 0 ≤ X j ∧ X j ≤ 255 ∧ b < w.heap.size := by
  rcases h with h | ⟨b, off, ha, hlt, hc⟩
  · omega
  · obtain ⟨h1, h2, h3, h4⟩ := hc j hj
    have h0 : 0 ≤ X j ∧ X j ≤ 255 := by simpa [Lit.wf, IntKind.min, IntKind.max, IntKind.signed, IntKind.bits] using h3
    exact ⟨b, off, ha, by rw [hb.cell (p := ⟨b, off + j * 2, none⟩) hlt]; exact h1, by rw [hb.cell (p := ⟨b, off + j * 2 + 1, none⟩) hlt]; exact h2, h0.1, h0.2, hlt⟩

theorem Own.butNe {w w' : World} {d g : Nat} {e : TypeId} {n cp : Nat} {xs : List Value} (h : Own w g e n cp xs) (hu : But d w w') (hd : g ≠ d) : Own w' g e n cp xs := by
  have hlt := h.lt
  obtain ⟨h1, h2⟩ := h.own
  refine ⟨h1, ?_⟩
  rcases h2 with h2 | ⟨g', cp', cur, hv, hg, hh, r⟩
  · exact .inl h2
  · simp only [Value.slice.injEq, Option.some.injEq, Addr.mk.injEq, and_true] at hv
    obtain ⟨rfl, -, rfl⟩ := hv
    exact .inr ⟨g, cp, cur, rfl, hg, by rw [hu.far g hlt hd]; exact hh, r⟩
theorem Holds.drew {w : World} {d : Nat} {ad : Option Addr} {cap : Nat} {l : List Int} (h : Holds w d ad cap l) : Holds w.drew d ad cap l :=
  h.keep (Nat.le_refl _) (fun _ _ _ _ hv => by simpa using hv)
theorem iv_one (l : List Int) : ∀ v ∈ l.map iv, ∃ x : Int, v = .int .i64 x := by
  intro v hv; simp [iv] at hv; obtain ⟨q, _, rfl⟩ := hv; exact ⟨q, rfl⟩

set_option maxHeartbeats 4000000 in
set_option maxRecDepth 100000 in
theorem walk (a0 : Int) (a1 : Bool) (a2 : Option Addr) (len2 cap2 : Nat) (X2 Y2 : Nat → Int) (w0 : (Lit.int .i64 a0).wf = true) (l2 : len2 ≤ cap2) (m2 : cap2 ≤ maxLen) (w : World) (w2 : IsPairs .u8 .i64 w a2 len2 X2 Y2) :
    Calls Try.prog 3 #[.int .i64 a0, .bool a1, .slice a2 len2 cap2] w fun e w' => e = .returned (.bool true) ∧ Below w.heap.size w w' := by
  have HW : Hid (IsPairs .u8 .i64 w a2 len2 X2 Y2) := w2
  have m2' : cap2 ≤ 9223372036854775807 := m2
  clear w2 m2 w0
  go_enter Try.func3, Try.ntmps3
  go_wp2_with fail
  refine (examples_any _).mono ?_; rintro e w1 ⟨rfl, hb1⟩
  have HB1 : Hid (Below w.heap.size w w1) := hb1
  clear hb1
  go_upto_if 23 with fail
  go_cut [0] (fun x wx => ∃ q : Int, x = .int .i64 q ∧ w1 = wx)
  case first =>
    cases a1
    · go_wp2_with fail
      go_meet
      exact ⟨_, rfl, rfl⟩
    · go_wp2_with fail
      go_meet
      exact ⟨_, rfl, rfl⟩
  case rest =>
  obtain ⟨q, rfl, rfl⟩ := hcut
  by_cases hq : 1 ≤ q ∧ q ≤ 16
  · obtain ⟨n, rfl, n1, n2⟩ : ∃ n : Nat, q = (n : Int) ∧ 1 ≤ n ∧ n ≤ 16 := ⟨q.toNat, by omega, by omega, by omega⟩
    clear hq
    go_wp2_with fail
    refine (Int.new_ok n n1 n2 w1).mono ?_
    rintro e w2 ⟨b, c, rfl, hc, hb, hL, hb2⟩
    have HB2 : Hid (Below w.heap.size w w2) := HB1.out.trans (hb2.mono HB1.out.size)
    have HC : Hid (w.heap.size ≤ c) := Nat.le_trans HB1.out.size hc
    have HL : Hid (Ln w2 b c n []) := hL
    clear hc hb hL hb2
    go_wp2_with fail
    refine (rnew_ok n n1 n2 w2).mono ?_
    rintro e w3 ⟨rfl, hR, hb3⟩
    have HS : Hid (St w w3 b c w2.heap.size n [] []) := ⟨HL.out.below hb3 HL.out.blt HL.out.lt, hR, by have := HL.out.blt; omega, HB2.out.trans (hb3.mono HB2.out.size), HC.out, HB2.out.size⟩
    clear hR hb3 HB2 HL HC HB1
    generalize w2.heap.size = d at HS ⊢
    go_wp2_with fail
    go_loopw [11] (fun iv' wr => ∃ (j : Nat) (l : List Int), j ≤ 60 ∧ j ≤ len2 ∧ iv' = .int .i64 j ∧ l.length ≤ n ∧ Hid (St w wr b c d n l l)) (fun iv' _ => 61 - (intOf iv').toNat)
    case atStart => exact ⟨0, [], by omega, by omega, rfl, by simp, HS⟩
    case round =>
      clear HS
      obtain ⟨j, l, hj60, hjl, rfl, hln, HS⟩ := hrel
      by_cases hgo : j < len2 ∧ j < 60
      · obtain ⟨b0, off, rfl, c0, c1, x0, x1, hb0⟩ := deed_at HW.out HS.out.bl j hgo.1
        have HB0 : Hid (b0 < w.heap.size) := hb0
        clear hb0
        obtain ⟨g1, g2⟩ := hgo
        generalize X2 j = x at *
        generalize Y2 j = y at *
        go_upto_block 2 with fail
        go_cut [12] (fun f wx => f = .bool true ∧ ∃ l' : List Int, l'.length ≤ n ∧ Hid (St w wx b c d n l' l'))
        case first =>
          obtain ⟨k, rfl, hk⟩ : ∃ k : Nat, x = (k : Int) ∧ k ≤ 255 := ⟨x.toNat, by omega, by omega⟩
          clear x0 x1
          by_cases hk7 : k % 8 = 7
          · have k7 : ((k : Int) % 8) = 7 := by omega
            clear c1 hk7
            obtain ⟨N, hN⟩ : ∃ N, N = l.length := ⟨_, rfl⟩
            have HN : Hid (N = l.length) := hN
            rw [← hN] at hln
            have CD : Hid (Calls Try.prog 10 #[.pointer (some ⟨b, 0, none⟩)] wr fun e w' => e = .returned (.slice (some ⟨wr.heap.size, 0, none⟩) N N) ∧ Own w' wr.heap.size 3 N N (l.map iv) ∧ Ln w' b c n [] ∧ But c wr w') := by
              have := Int.drain_ok HS.out.ln (by rw [List.length_map]; omega) (iv_one l)
              rw [List.length_map, ← hN] at this
              exact this
            clear hN
            go_wp2_with fail
            refine CD.out.mono ?_
            rintro e w4 ⟨rfl, hO4, hL4, hB4⟩
            have HS4 : Hid (St w w4 b c d n [] l) := HS.out.onL hL4 hB4
            have hgd : wr.heap.size ≠ d := by have := HS.out.rf.lt; omega
            have HO4 : Hid (Own w4 wr.heap.size 3 N N (l.map iv)) := hO4
            clear hO4 hL4 hB4 CD HS
            generalize wr.heap.size = g at *
            go_wp2_with fail
            refine (rdrain HS4.out.rf).mono ?_
            rintro e w5 ⟨ad, cp, rfl, hH5, hR5, hB5⟩
            have HS5 : Hid (St w w5 b c d n [] []) := HS4.out.onR hR5 hB5
            have HO5 : Hid (Own w5 g 3 N N (l.map iv)) := Own.butNe HO4.out hB5 hgd
            have HH5 : Hid (Holds w5 d ad cp l) := hH5
            have hNc : N ≤ cp := by rw [HN.out]; exact hH5.le
            rw [← HN.out]
            clear hH5 hR5 hB5 HS4 HO4 hgd
            go_wp2_with fail
            go_loopw [12, 15] (fun fv kv wz => ∃ m : Nat, m ≤ N ∧ fv = .bool true ∧ kv = .int .i64 m ∧ Hid (Own wz g 3 N N (l.map iv)) ∧ Hid (Holds wz d ad cp l) ∧ Hid (St w wz b c d n [] [])) (fun _ kv _ => N + 1 - (intOf kv).toNat)
            case atStart => exact ⟨0, by omega, rfl, rfl, HO5, HH5, HS5⟩
            case round =>
              clear HO5 HH5 HS5
              obtain ⟨m, hm, rfl, rfl, HO5, HH5, HS5⟩ := hrel
              by_cases hmN : m < N
              · obtain ⟨z, hz⟩ : ∃ z, l[m]? = some z := ⟨_, List.getElem?_eq_getElem (by have := HN.out; omega)⟩
                have hc1 := HO5.out.cell m hmN
                rw [List.getElem?_map, hz, Option.map_some] at hc1
                obtain ⟨g2, off2, e2, _, _, hc2⟩ := HH5.out.cells.resolve_left (by rintro rfl; simp at hz)
                cases e2
                have hc3 := hc2 m z hz
                clear hc2 hz
                simp only [iv] at hc1
                have q1 : (m : Int) < (N : Int) := by omega
                go_wp2_with fail
                go_region
                all_goals
                  go_wp2_with fail
                  go_roundw
                  case rel => exact ⟨m + 1, by omega, rfl, by go_num, HO5.out.drew, Holds.drew HH5.out, HS5.out.drew⟩
                  case measure => simp [intOf]; omega
              · go_wp2_with fail
                go_meet
                exact ⟨rfl, [], by simp, HS5⟩
          · by_cases hk3 : k % 8 < 3
            · have k3 : ((k : Int) % 8) < 3 := by omega
              have k7 : (((k : Int) % 8) == 7) = false := by rw [beq_eq_false_iff_ne]; omega
              clear c1 hk7 hk3
              cases l with
              | nil =>
                go_wp2_with fail
                refine (Int.take_no HS.out.ln).mono ?_
                rintro e w4 ⟨rfl, rfl⟩
                go_wp2_with fail
                refine (rtake_no HS.out.rf).mono ?_
                rintro e w5 ⟨rfl, rfl⟩
                go_wp2_with fail
                go_meet
                exact ⟨rfl, [], by simp, HS⟩
              | cons q l =>
                have hln' : l.length < n := by have := hln; rw [List.length_cons] at this; omega
                go_wp2_with fail
                refine (Int.take_ok HS.out.ln).mono ?_
                rintro e w4 ⟨rfl, hl4, hb4⟩
                have HS4 : Hid (St w w4 b c d n l (q :: l)) := HS.out.onL hl4 hb4
                clear hl4 hb4 HS
                simp only [iv]
                go_wp2_with fail
                refine (rtake_ok HS4.out.rf (by omega)).mono ?_
                rintro e w5 ⟨rfl, hl5, hb5⟩
                have HS5 : Hid (St w w5 b c d n l l) := HS4.out.onR hl5 hb5
                clear hl5 hb5 HS4
                go_wp2_with fail
                go_meet
                exact ⟨rfl, l, by omega, HS5⟩
            · have k3 : (3 : Int) ≤ ((k : Int) % 8) := by omega
              have k7 : (((k : Int) % 8) == 7) = false := by rw [beq_eq_false_iff_ne]; omega
              have keepY : Hid (∀ u (A B : List Int), St w u b c d n A B → u.cell? ⟨b0, off + j * 2 + 1, none⟩ = some (.int .i64 y)) := fun u A B hu => by
                rw [← c1]
                have hb0 : b0 < w.heap.size := HB0.out
                rw [hu.bl.cell (p := ⟨b0, off + j * 2 + 1, none⟩) hb0, HS.out.bl.cell (p := ⟨b0, off + j * 2 + 1, none⟩) hb0]
              clear hk7 hk3
              by_cases hfull : l.length < n
              · have CL : Hid (∀ u (A B : List Int), St w u b c d n l B → Calls Try.prog 14 #[.pointer (some ⟨b, 0, none⟩), .int .i64 y] u fun e u' => e = .returned (.bool true) ∧ St w u' b c d n (l ++ [y]) B) := fun u A B h => l_put_ok y h (by omega)
                have CR : Hid (∀ u (A B : List Int), St w u b c d n A l → Calls Try.prog 15 #[.pointer (some ⟨d, 0, none⟩), .int .i64 y] u fun e u' => e = .returned (.bool true) ∧ St w u' b c d n A (l ++ [y])) := fun u A B h => r_put_ok y h (by omega) (by omega)
                go_wp2_with fail
                go_region_held3 (fun u => u.cell? ⟨b0, off + j * 2 + 1, none⟩ = some (.int .i64 y)) (first | exact keepY.out _ _ _ HT2.out | exact keepY.out _ _ _ HT1.out | exact keepY.out _ _ _ HS.out.drew | exact keepY.out _ _ _ HS.out) (first | (go_at_call 14; refine (CL.out _ l (l ++ [y]) HT1.out).mono ?_; rintro e u2 ⟨rfl, hT⟩; have HT2 : Hid (St w u2 b c d n (l ++ [y]) (l ++ [y])) := hT; clear hT) | (go_at_call 14; refine (CL.out _ l l HS.out.drew).mono ?_; rintro e u1 ⟨rfl, hT⟩; have HT1 : Hid (St w u1 b c d n (l ++ [y]) l) := hT; clear hT) | (go_at_call 15; refine (CR.out _ (l ++ [y]) l HT1.out).mono ?_; rintro e u2 ⟨rfl, hT⟩; have HT2 : Hid (St w u2 b c d n (l ++ [y]) (l ++ [y])) := hT; clear hT) | (go_at_call 15; refine (CR.out _ l l HS.out.drew).mono ?_; rintro e u1 ⟨rfl, hT⟩; have HT1 : Hid (St w u1 b c d n l (l ++ [y])) := hT; clear hT))
                all_goals
                  go_wp2_with fail
                  go_meet
                  exact ⟨rfl, (l ++ [y]), by simp; omega, HT2⟩
              · have CL : Hid (∀ u (A B : List Int), St w u b c d n l B → Calls Try.prog 14 #[.pointer (some ⟨b, 0, none⟩), .int .i64 y] u fun e u' => e = .returned (.bool false) ∧ St w u' b c d n l B) := fun u A B h => l_put_no y h (by omega)
                have CR : Hid (∀ u (A B : List Int), St w u b c d n A l → Calls Try.prog 15 #[.pointer (some ⟨d, 0, none⟩), .int .i64 y] u fun e u' => e = .returned (.bool false) ∧ St w u' b c d n A l) := fun u A B h => r_put_no y h (by omega) (by omega)
                go_wp2_with fail
                go_region_held3 (fun u => u.cell? ⟨b0, off + j * 2 + 1, none⟩ = some (.int .i64 y)) (first | exact keepY.out _ _ _ HT2.out | exact keepY.out _ _ _ HT1.out | exact keepY.out _ _ _ HS.out.drew | exact keepY.out _ _ _ HS.out) (first | (go_at_call 14; refine (CL.out _ l l HT1.out).mono ?_; rintro e u2 ⟨rfl, hT⟩; have HT2 : Hid (St w u2 b c d n l l) := hT; clear hT) | (go_at_call 14; refine (CL.out _ l l HS.out.drew).mono ?_; rintro e u1 ⟨rfl, hT⟩; have HT1 : Hid (St w u1 b c d n l l) := hT; clear hT) | (go_at_call 15; refine (CR.out _ l l HT1.out).mono ?_; rintro e u2 ⟨rfl, hT⟩; have HT2 : Hid (St w u2 b c d n l l) := hT; clear hT) | (go_at_call 15; refine (CR.out _ l l HS.out.drew).mono ?_; rintro e u1 ⟨rfl, hT⟩; have HT1 : Hid (St w u1 b c d n l l) := hT; clear hT))
                all_goals
                  go_wp2_with fail
                  go_meet
                  exact ⟨rfl, l, by omega, HT2⟩
        case rest =>
        obtain ⟨rfl, l', hl', HS'⟩ := hcut
        clear HS c0 c1 x0 x1 hln
        obtain ⟨ad, cp, cd, _⟩ := HS'.out.rf.lst
        obtain ⟨N, hN⟩ : ∃ N, N = l'.length := ⟨_, rfl⟩
        rw [← hN] at cd hl'
        have HN : Hid (N = l'.length) := hN
        clear hN
        have CL : Hid (∀ m, Calls Try.prog 16 #[.pointer (some ⟨b, 0, none⟩)] (wc.drewN m) fun e w' => e = .returned (.int .i64 (N : Int)) ∧ w' = wc.drewN m) := fun m => by
          have := Int.len_ok (HS'.out.drewN m).ln
          rw [List.length_map, ← HN.out] at this
          exact this
        have CR : Hid (∀ m, Calls Try.prog 17 #[.pointer (some ⟨b, 0, none⟩)] (wc.drewN m) fun e w' => e = .returned (.int .i64 (n : Int)) ∧ w' = wc.drewN m) := fun m => Int.room_ok (HS'.out.drewN m).ln
        go_wp2_with fail
        go_quiet ((first | (go_at_call 16; exact Calls.quiet_of_same (CL.out _)) | (go_at_call 17; exact Calls.quiet_of_same (CR.out _))))
        go_wp2_with fail
        go_roundw
        case rel => exact ⟨j + 1, l', by omega, by omega, by go_num, by rw [← HN.out]; exact hl', HS'.out.drewN _⟩
        case measure => simp [intOf]; omega
      · rcases (show len2 ≤ j ∨ (j < len2 ∧ 60 ≤ j) by omega) with hx | ⟨hx, hy⟩
        · clear hgo
          go_wp2_with fail
          go_ret
          exact ⟨rfl, HS.out.bl⟩
        · clear hgo
          go_wp2_with fail
          go_ret
          exact ⟨rfl, HS.out.bl⟩
  · go_wp2_with fail
    refine (Int.new_no q (by omega) w1).mono ?_
    rintro e w2 ⟨rfl, rfl⟩
    go_wp2_with fail
    refine (rnew_no q (by omega) w2).mono ?_
    rintro e w3 ⟨rfl, rfl⟩
    go_wp2_with fail
    go_ret
    exact ⟨rfl, HB1.out⟩

set_option maxRecDepth 100000 in
theorem lifted (os : Os) (started : os.Started) (H : Type) (enc : TypeId × Value → H) :
    ReturnsInHanded {} Try.checked os 3 .any (Rows.lanePlaysSpec.pre6 enc Try.prog Try.f3 Rows.lanePlaysRow.domain false) (Rows.lanePlaysSpec.post enc Try.prog Try.f3 false true false false) := by
  refine returnsInHanded_of_change_sized (C := Try.checked) own started (by kernel_rfl) Try.func3
    (ChangeSpec.witness6 (enc := enc) (C := Try.checked) false ⟨#[], #[.int .i64 0, .bool false, .slice none 0 0], []⟩ 8 (by kernel_rfl) (by kernel_rfl) (by kernel_rfl) (by kernel_rfl)) ?_
  intro W base args ds gs before hval0 hW hcnd hsz0 _
  have hval : ∀ (j : Nat) t v, Try.f3.params[j]? = some t → args[j]? = some v → Value.okWide Try.prog W .any base t v := hval0
  have hW' := hW
  obtain ⟨p, q, hA0, hV, rfl, hfz, hnd⟩ := hW
  have hA : DataW.TrodAll enc Try.prog W 0 (fun _ => true) true Try.f3.params.toList args.toList ds p := hA0
  have hsz : (DataW.weightsEach Try.prog (Try.f3.params.toList ++ Rows.lanePlaysSpec.plain.varTypes Try.prog) (ds ++ gs)).all (· ≤ reachBytes) = true := hsz0
  rw [Try.params3] at hA hval hsz
  obtain ⟨rfl, rfl⟩ := trodVars_none hV
  have hAk := hA
  have hlt : ∀ x ∈ p, x.block < W.heap.size := fun x hx => by simpa using hW'.lt x (List.mem_append.2 (.inl hx))
  obtain ⟨v0, vs0, d0, ds0, p0, q0, hargs, rfl, rfl, h0, r0⟩ := trodAll_cons hA
  obtain ⟨v1, vs1, d1, ds1, p1, q1, rfl, rfl, rfl, h1, r1⟩ := trodAll_cons r0
  obtain ⟨v2, vs2, d2, ds2, p2, q2, rfl, rfl, rfl, h2, r2⟩ := trodAll_cons r1
  obtain ⟨rfl, rfl, rfl⟩ := trodAll_nil r2
  obtain rfl : args = #[v0, v1, v2] := by cases args; simp_all
  obtain ⟨a0, rfl, rfl, rfl, w0⟩ := open_int Try.underlying3 (hval 0 3 v0 rfl rfl) h0
  obtain ⟨a1, rfl, rfl, rfl⟩ := open_bool Try.underlying4 (hval 1 4 v1 rfl rfl) h1
  obtain ⟨a2, len2, cap2, rfl⟩ := okWide_slice Try.underlying22 (hval 2 22 v2 rfl rfl)
  obtain ⟨X2, Y2, w2, l2, m2, u2⟩ := open_pairs Try.underlying22 Try.underlying32 (by kernel_rfl) rfl rfl (by kernel_rfl) (by kernel_rfl) Try.underlying5 Try.underlying3 h2
  clear hA0 hval0 hsz0
  refine (walk a0 a1 a2 len2 cap2 X2 Y2 w0 l2 m2 W w2).mono fun e W' ⟨he, hg⟩ => ?_
  subst he
  exact ⟨_, rfl, _, _, _, [], _, [], hW', (trodAll_cons_mk (shut_bool Try.underlying4 _) trodAll_mk0), trodAll_below laidOut hg _ _ _ _ (by kernel_rfl) hAk hlt, rfl, hg.frame _, fun h => by cases h⟩

theorem over : Rows.lanePlaysRow.holds Try.pinned (OpenSpec.ofChange Rows.lanePlaysSpec) :=
  OpenClaim.holds_of_wide 3 Try.f3 rfl rfl rfl rfl rfl rfl rfl ⟨rfl, rfl, rfl, rfl, rfl⟩ rfl rfl rfl rfl rfl (by kernel_rfl) Try.func3 (by kernel_rfl)
    (of_decide_eq_true (by kernel_rfl)) (by unfold Func.isWrapper; first | (rw [if_pos (by decide +kernel)]; kernel_rfl) | (rw [if_neg (by decide +kernel)]; exact ⟨rfl, rfl⟩))
    (fun os started H enc _ => lifted os started H enc)

/-- the statement -/
theorem proved : Rows.LanePlaysSaid :=
  over
#print axioms proved
end Go.Proofs.Ytbhehdkljolpkaa.lanePlays
