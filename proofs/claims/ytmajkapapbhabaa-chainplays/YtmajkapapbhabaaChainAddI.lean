/- chain, int: Add. -/
import Derived.Test.YtmajkapapbhabaaChainObj

import Derived.Test.YtmajkapapbhabaaRegionCut

import Derived.Test.YtmajkapapbhabaaChainInsI

namespace Go.Proofs.Ytmajkapapbhabaa.Ch

open Go.RowKit Go.Proofs.Ytmajkapapbhabaa.Vc Go.Proofs.Ytmajkapapbhabaa.Sp Go.Proofs.Ytmajkapapbhabaa.Rw

set_option linter.unusedVariables false

set_option linter.unusedSimpArgs false

set_option maxRecDepth 100000

theorem insert_anyI (base : Nat) (v : Value) (L : List (C.Vr Nat)) (x : C.Vr Nat) (i b : Nat) (w : World) (hown : OR (vk num) 72 w base v L) (hi : i ≤ L.length) (hn : L.length < 100000) (hb : base ≤ w.heap.size) (hx : w.heap[b]? = some (.cells ((vk num).cf x).toArray 72 (0, 0))) (hne : v.ownBlock ≠ some b) :
    Calls Try.prog 44 #[v, .int .i64 (i : Int), .slice (some ⟨b, 0, none⟩) 1 1] w fun e w' => ∃ v', e = .returned v' ∧ OR (vk num) 72 w' base v' (L.take i ++ x :: L.drop i) ∧ w.grownBy w' v.ownBlock ∧ Nw w v v' := by
  rcases Nat.lt_or_eq_of_le hi with h | h
  · rcases hown.row with ⟨rfl, rfl⟩ | ⟨g, cap, cur, rfl, hB, hgl, hh, hnc, hcm, hcs, htake⟩
    · simp at h
    · by_cases hroom : L.length + 1 ≤ cap
      · refine (insert_roomI base g cap cur L x i b w hB hh hcm hcs htake h hroom hn hx (fun e => hne (by rw [e]; rfl))).mono ?_
        rintro e w' ⟨v', rfl, h1, h2, h3⟩
        exact ⟨v', rfl, h1, h2, .inl h3⟩
      · refine (insert_growI base g cap cur L x i b w hb hh hcs htake h hnc (by omega) hn hx).mono ?_
        rintro e w' ⟨v', rfl, h1, h2, h3⟩
        refine ⟨v', rfl, h1, grownBy_below h2 _, .inr fun k hk => ?_⟩
        rw [h3] at hk
        rw [← Option.some.inj hk]
        exact Nat.le_refl _
  · subst h
    rw [List.take_length, List.drop_length]
    exact insert_endI base v L x b w hown hn hb hx
theorem box_set {w : World} {b c : Nat} {b0 b1 b2 b3 : Nat} {e0 : Int} (hb : c ≠ b) (z : Value) (h : Blk w b (ks .u64 [b0, b1, b2, b3] ++ [Value.int .i64 e0])) :
    (w.setCell ⟨c, 0, none⟩ z).cell? ⟨b, 0, none⟩ = some (.int .u64 (b0 : Int)) ∧ (w.setCell ⟨c, 0, none⟩ z).cell? ⟨b, 1, none⟩ = some (.int .u64 (b1 : Int)) ∧ (w.setCell ⟨c, 0, none⟩ z).cell? ⟨b, 2, none⟩ = some (.int .u64 (b2 : Int)) ∧ (w.setCell ⟨c, 0, none⟩ z).cell? ⟨b, 3, none⟩ = some (.int .u64 (b3 : Int)) ∧ (w.setCell ⟨c, 0, none⟩ z).cell? ⟨b, 4, none⟩ = some (.int .i64 e0) := by
  have h' := Blk.upd h (Upd.setCell w c 0 z) (Ne.symm hb)
  exact ⟨h'.cell 0 _ rfl, h'.cell 1 _ rfl, h'.cell 2 _ rfl, h'.cell 3 _ rfl, h'.cell 4 _ rfl⟩
set_option maxHeartbeats 8000000 in
theorem addI (c : Nat) (v : Value) (L : List (C.Vr Nat)) (s : C.St) (y : Nat) (w : World) (hch : Ch num 72 w c v L) (hs : s.1.length = 4) (hn : L.length < 1000) :
    Calls Try.prog 23 #[.pointer (some ⟨c, 0, none⟩), SV s.1 s.2, num.f y] w fun e w' => ∃ v', e = .returned (.bool (C.add L s y).2) ∧ Ch num 72 w' c v' (C.add L s y).1 ∧ Tw c v.ownBlock w w' ∧ Nw w v v' := by
  have HCH := Lib.hid hch
  have CR := Lib.hid (fun u => sright_any s.1 s.2 u hs)
  have CF := Lib.hid (fun u (hu : Ch num 72 u c v L) => findI c v L s u hu.cell hu.own.is (by omega) hu.up hs)
  have HSs := Lib.hid (size_s (d := s.2) hs)
  have HPL := Lib.hid (C.pos_le L s)
  have HUI := Lib.hid (fun (h0 : C.has L s = false) => hch.up.ins s y hs h0)
  have HNL := Lib.hid hn
  clear hch hn
  unfold C.add
  show Calls _ _ _ _ fun e w' => ∃ v', e = .returned (.bool (if C.right s = true ∧ C.has L s = false then (C.ins L s y, true) else (L, false)).2) ∧ _
  change Hid (∀ u, Calls Try.prog 33 #[SV s.1 s.2] u fun e w' => e = .returned (.bool (C.right s)) ∧ Below u.heap.size u w') at CR
  cases hr : C.right s with
  | false =>
    rw [hr] at CR
    rw [if_neg (fun h => by cases h.1)]
    obtain ⟨b, e0⟩ := s
    dsimp only at HSs CR ⊢
    clear hs CF HPL hr HUI HNL
    go_enter Try.func23, Try.ntmps23
    go_wp2_with (first | refine blk_box rfl 34 _ rfl (ks .u64 b ++ [Value.int .i64 e0]) rfl ?_)
    intro w1 A1 B1 Z1
    have HA1 : Hid (Blk w1 w.heap.size (ks .u64 b ++ [Value.int .i64 e0])) := A1
    have HB1 : Hid (Below w.heap.size w w1) := B1
    clear A1 B1 Z1
    go_wp2_with (first | refine blk_load rfl 34 _ rfl w.heap.size rfl (ks .u64 b ++ [Value.int .i64 e0]) HA1.out _ Try.underlying34 rfl HSs.out ?_)
    refine (CR.out _).mono ?_; rintro e w2 ⟨rfl, hb2⟩
    have HB2 : Hid (Below w.heap.size w w2) := Below.trans HB1.out (hb2.mono HB1.out.size)
    clear hb2
    go_wp2_with fail
    go_ret
    exact ⟨v, rfl, HCH.out.below HB2.out, Tw.of_below HB2.out, Nw.refl _ _⟩
  | true =>
    rw [hr] at CR
    cases hh : C.has L s with
    | true =>
      rw [hh] at CF
      rw [if_neg (fun h => by cases h.2)]
      generalize C.pos L s = p at *
      obtain ⟨b, e0⟩ := s
      dsimp only at HSs CR CF ⊢
      clear hs HPL hr hh HUI HNL
      go_enter Try.func23, Try.ntmps23
      go_wp2_with (first | refine blk_box rfl 34 _ rfl (ks .u64 b ++ [Value.int .i64 e0]) rfl ?_)
      intro w1 A1 B1 Z1
      have HA1 : Hid (Blk w1 w.heap.size (ks .u64 b ++ [Value.int .i64 e0])) := A1
      have HB1 : Hid (Below w.heap.size w w1) := B1
      have HZ1 : Hid (w.heap.size < w1.heap.size) := by show _ < _; omega
      clear A1 B1 Z1
      go_wp2_with (first | refine blk_load rfl 34 _ rfl w.heap.size rfl (ks .u64 b ++ [Value.int .i64 e0]) HA1.out _ Try.underlying34 rfl HSs.out ?_)
      refine (CR.out _).mono ?_; rintro e w2 ⟨rfl, hb2⟩
      have HB2 : Hid (Below w.heap.size w w2) := Below.trans HB1.out (hb2.mono HB1.out.size)
      have HA2 : Hid (Blk w2 w.heap.size (ks .u64 b ++ [Value.int .i64 e0])) := Blk.below HA1.out hb2 HZ1.out
      clear hb2
      go_wp2_with (first | refine blk_load rfl 34 _ rfl w.heap.size rfl (ks .u64 b ++ [Value.int .i64 e0]) HA2.out _ Try.underlying34 rfl HSs.out ?_)
      refine (CF.out _ (HCH.out.below HB2.out)).mono ?_; rintro e w3 ⟨rfl, hb3⟩
      have HB3 : Hid (Below w.heap.size w w3) := Below.trans HB2.out (hb3.mono HB2.out.size)
      clear hb3
      go_wp2_with fail
      go_ret
      exact ⟨v, rfl, HCH.out.below HB3.out, Tw.of_below HB3.out, Nw.refl _ _⟩
    | false =>
      rw [hh] at CF
      rw [if_pos ⟨rfl, rfl⟩]
      have HI : Hid (C.ins L s y = L.take (C.pos L s) ++ (s, y) :: L.drop (C.pos L s)) := rfl
      have HUP := Lib.hid (HUI.out hh)
      rw [HI.out] at HUP ⊢
      generalize C.pos L s = p at *
      obtain ⟨b, e0⟩ := s
      dsimp only at HSs CR CF hs ⊢
      obtain ⟨b0, b1, b2, b3, rfl⟩ := V.four hs
      clear hs hr hh HUI HI
      change Calls _ _ #[_, _, (.int .i64 (y : Int))] _ _
      go_enter Try.func23, Try.ntmps23
      go_wp2_with (first | refine blk_box rfl 34 _ rfl (ks .u64 [b0, b1, b2, b3] ++ [Value.int .i64 e0]) rfl ?_)
      intro w1 A1 B1 Z1
      have HA1 : Hid (Blk w1 w.heap.size (ks .u64 [b0, b1, b2, b3] ++ [Value.int .i64 e0])) := A1
      have HB1 : Hid (Below w.heap.size w w1) := B1
      have HZ1 : Hid (w.heap.size < w1.heap.size) := by show _ < _; omega
      clear A1 B1 Z1
      go_wp2_with (first | refine blk_load rfl 34 _ rfl w.heap.size rfl (ks .u64 [b0, b1, b2, b3] ++ [Value.int .i64 e0]) HA1.out _ Try.underlying34 rfl HSs.out ?_)
      refine (CR.out _).mono ?_; rintro e w2 ⟨rfl, hb2⟩
      have HB2 : Hid (Below w.heap.size w w2) := Below.trans HB1.out (hb2.mono HB1.out.size)
      have HA2 : Hid (Blk w2 w.heap.size (ks .u64 [b0, b1, b2, b3] ++ [Value.int .i64 e0])) := Blk.below HA1.out hb2 HZ1.out
      have HZ2 : Hid (w.heap.size < w2.heap.size) := Nat.lt_of_lt_of_le HZ1.out hb2.size
      clear hb2
      go_wp2_with (first | refine blk_load rfl 34 _ rfl w.heap.size rfl (ks .u64 [b0, b1, b2, b3] ++ [Value.int .i64 e0]) HA2.out _ Try.underlying34 rfl HSs.out ?_)
      refine (CF.out _ (HCH.out.below HB2.out)).mono ?_; rintro e w3 ⟨rfl, hb3⟩
      have HB3 : Hid (Below w.heap.size w w3) := Below.trans HB2.out (hb3.mono HB2.out.size)
      have HA3 : Hid (Blk w3 w.heap.size (ks .u64 [b0, b1, b2, b3] ++ [Value.int .i64 e0])) := Blk.below HA2.out hb3 HZ2.out
      have HZ3 : Hid (w.heap.size < w3.heap.size) := Nat.lt_of_lt_of_le HZ2.out hb3.size
      have HC3 : Hid (Ch num 72 w3 c v L) := HCH.out.below HB3.out
      clear hb3 HA1 HA2 HB1 HB2 HZ1 HZ2 CR CF
      go_wp2_with fail
      have HC3d : Hid (Ch num 72 w3.drew c v L) := HC3.out.below (Below.drew (Below.refl _ _))
      have HA3d : Hid (Blk w3.drew w.heap.size [Value.int .u64 (b0 : Int), Value.int .u64 (b1 : Int), Value.int .u64 (b2 : Int), Value.int .u64 (b3 : Int), Value.int .i64 e0]) := HA3.out.drew
      have HNE : Hid (w.heap.size ≠ c ∧ v.ownBlock ≠ some w.heap.size) := ⟨by have := HCH.out.lt; omega, fun e => by have := (HCH.out.own.lt e).2; omega⟩
      have HLT : Hid (w.heap.size < w3.drew.heap.size ∧ c < w3.drew.heap.size) := ⟨HZ3.out, HC3d.out.lt⟩
      obtain ⟨wa, HWA⟩ : ∃ z, Hid ((w3.alloc (.cells #[.int .u64 (b0 : Int), .int .u64 (b1 : Int), .int .u64 (b2 : Int), .int .u64 (b3 : Int), .int .i64 e0, (.int .i64 (y : Int))] 72)).drew = z) := ⟨_, rfl⟩
      have HBa : Hid (Below w3.heap.size w3 wa) := by
        show Below _ _ _
        rw [← HWA.out]
        exact Below.drew ((Below.refl _ _).alloc (Nat.le_refl _) _)
      have HXa : Hid (wa.heap[w3.heap.size]? = some (.cells ((vk num).cf (([b0, b1, b2, b3], e0), y)).toArray 72 (0, 0))) := by
        show _ = _
        rw [← HWA.out]
        exact heap_alloc_new w3 _
      have HCa : Hid (Ch num 72 wa c v L) := HC3.out.below HBa.out
      have HAa : Hid (Blk wa w.heap.size [Value.int .u64 (b0 : Int), Value.int .u64 (b1 : Int), Value.int .u64 (b2 : Int), Value.int .u64 (b3 : Int), Value.int .i64 e0]) := Blk.below HA3.out HBa.out HZ3.out
      have HZa : Hid (w.heap.size < wa.heap.size) := Nat.lt_of_lt_of_le HZ3.out HBa.out.size
      have CI : Hid (Calls Try.prog 44 #[v, .int .i64 (p : Int), .slice (some ⟨w3.heap.size, 0, none⟩) 1 1] wa fun e w' => ∃ v', e = .returned v' ∧ OR (vk num) 72 w' (c + 1) v' (L.take p ++ (([b0, b1, b2, b3], e0), y) :: L.drop p) ∧ wa.grownBy w' v.ownBlock ∧ Nw wa v v') := by
        refine insert_anyI (c + 1) v L _ p w3.heap.size wa HCa.out.own HPL.out (by have := HNL.out; omega) HCa.out.lt HXa.out (fun e => ?_)
        have := (HC3.out.own.lt e).2
        omega
      refine region_cut (fun u => Blk u c [v] ∧ Blk u w.heap.size [Value.int .u64 (b0 : Int), Value.int .u64 (b1 : Int), Value.int .u64 (b2 : Int), Value.int .u64 (b3 : Int), Value.int .i64 e0]) 9 11 Try.mixed (by kernel_rfl) (by decide) (by kernel_rfl) ⟨HC3d.out.blk, HA3d.out⟩ ?_
      simp only [List.take_succ_cons, List.take_zero, List.drop_succ_cons, List.drop_zero]
      refine c_move rfl _ rfl (.pointer (some ⟨c, 0, none⟩)) rfl (fun _ _ _ h => h) (fun K hK => ?_)
      go_simp
      refine hK _ ?_
      clear hK K
      refine c_move rfl _ rfl (.pointer (some ⟨c, 0, none⟩)) rfl (fun _ _ _ h => h) (fun K hK => ?_)
      go_simp
      refine hK _ ?_
      clear hK K
      refine c_value rfl (.pointer (some ⟨c, 0, none⟩)) (fun u hu => by go_simp) (fun _ _ _ h => h) (fun K hK => ?_)
      go_simp
      refine hK _ ?_
      clear hK K
      refine c_value rfl (.pointer (some ⟨c, 0, none⟩)) (fun u hu => by go_simp) (fun _ _ _ h => h) (fun K hK => ?_)
      go_simp
      refine hK _ ?_
      clear hK K
      refine c_value rfl v (fun u hu => by have hs := hu.1.cell 0 v rfl; go_simp) (fun _ _ _ h => h) (fun K hK => ?_)
      go_simp
      refine hK _ ?_
      clear hK K
      refine c_move rfl _ rfl (.int .i64 (p : Int)) rfl (fun _ _ _ h => h) (fun K hK => ?_)
      go_simp
      refine hK _ ?_
      clear hK K
      refine c_blk_load rfl 34 _ rfl w.heap.size rfl [Value.int .u64 (b0 : Int), Value.int .u64 (b1 : Int), Value.int .u64 (b2 : Int), Value.int .u64 (b3 : Int), Value.int .i64 e0] (fun u hu => hu.2) _ Try.underlying34 rfl HSs.out (fun _ _ _ h => h) (fun K hK => ?_)
      go_simp
      refine hK _ ?_
      clear hK K
      refine c_move rfl _ rfl (.int .i64 (y : Int)) rfl (fun _ _ _ h => h) (fun K hK => ?_)
      go_simp
      refine hK _ ?_
      clear hK K
      refine c_value rfl (.agg #[.int .u64 (b0 : Int), .int .u64 (b1 : Int), .int .u64 (b2 : Int), .int .u64 (b3 : Int), .int .i64 e0, (.int .i64 (y : Int))]) (fun u hu => by go_simp) (fun _ _ _ h => h) (fun K hK => ?_)
      go_simp
      refine hK _ ?_
      clear hK K
      refine c_nil ?_
      refine t_step ?_
      go_wp2_with fail
      rw [HWA.out]
      refine And.intro (fun _ => And.intro HCa.out.blk HAa.out) ?_
      refine t_step ?_
      go_wp2_with (first | (go_at_call 44; refine Calls.mono CI.out ?_; rintro e w4 ⟨v', rfl, ho, hg, hn⟩))
      have HC4 : Hid (Blk w4 c [v]) := blk_grown hg HCa.out.blk HCa.out.lt HCa.out.ne
      have HA4 : Hid (Blk w4 w.heap.size [Value.int .u64 (b0 : Int), Value.int .u64 (b1 : Int), Value.int .u64 (b2 : Int), Value.int .u64 (b3 : Int), Value.int .i64 e0]) := blk_grown hg HAa.out HZa.out HNE.out.2
      have HO4 := Lib.hid ho
      have HT4 : Hid (Tw c v.ownBlock w w4) := (Tw.of_below (HB3.out.trans (HBa.out.mono HB3.out.size))).trans (Tw.of_grown hg)
      have HN4 : Hid (Nw w v v') := hn.mono (Nat.le_trans HB3.out.size HBa.out.size)
      obtain ⟨av, cv, ev, _⟩ := ho.is.is
      obtain ⟨nv, HNV⟩ : ∃ nv, Hid ((L.take p ++ (([b0, b1, b2, b3], e0), y) :: L.drop p).length = nv) := ⟨_, rfl⟩
      rw [HNV.out] at ev
      subst ev
      clear ho hg hn
      refine And.intro (fun _ => And.intro HC4.out HA4.out) ?_
      refine t_rest (by omega) ?_
      have hc4 := HC4.out.cell 0 v rfl
      have hf4 := HC4.out.free 0 (by simp)
      go_wp2_with fail
      go_ret
      have hup := HUP.out
      have hu9 := Upd.setCell w4 c 0 (.slice av nv cv)
      refine ⟨_, rfl, ⟨Blk.setc HC4.out 0 (by simp) _, ?_, hup⟩, HT4.out.trans (Tw.of_upd hu9), HN4.out⟩
      refine HO4.out.grown (grownBy_upd hu9) (fun g hg e => ?_)
      have h1 := (HO4.out.lt hg).1
      have h2 := Option.some.inj e
      omega
end Go.Proofs.Ytmajkapapbhabaa.Ch
