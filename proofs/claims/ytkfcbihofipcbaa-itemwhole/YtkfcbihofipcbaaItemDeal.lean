/- Writes and a transaction by their parts: the law's own helpers. -/
import Derived.Test.YtkfcbihofipcbaaItemPut

import Derived.Test.YtkfcbihofipcbaaItemF

import Derived.Test.YtkfcbihofipcbaaStampOf

namespace Go.Proofs.Ytkfcbihofipcbaa.I

set_option linter.unusedVariables false

/-- a write by its parts: the write, a flag, a number -/
abbrev Pt := Wt × Bool × Nat
def pnone : Pt := (none_, false, 0)
structure POk (p : Pt) : Prop where
  w : Ok p.1
  k : p.2.2 < 256
def pw (whole : Bool) (p : Pt) : Wt := putW p.1 (whole || p.2.1) p.2.2
/-- is the key of y among the first n? -/
def tw (out : List Wt) (y : Wt) (n : Nat) : Bool := (out.take n).any fun z => decide (key z = key y)
def wstep (whole : Bool) (out : List Wt) (p : Pt) : List Wt := if (!whole || !tw out (pw whole p) out.length) = true then out ++ [pw whole p] else out
def wrs (most : Nat) (whole : Bool) : List Pt → List Wt → List Wt
  | [], out => out
  | p :: l, out => if out.length < most then wrs most whole l (wstep whole out p) else out
theorem tw_step (out : List Wt) (y : Wt) (n : Nat) (h : n < out.length) : tw out y (n + 1) = (tw out y n || decide (key (out.getD n none_) = key y)) := by
  unfold tw
  rw [List.take_succ_eq_append_getElem h, List.any_append, List.getD_eq_getElem?_getD, List.getElem?_eq_getElem h]
  simp
theorem drop_step (L : List Pt) (j : Nat) (h : j < L.length) : L.drop j = L.getD j pnone :: L.drop (j + 1) := by
  rw [List.drop_eq_getElem_cons h, List.getD_eq_getElem?_getD, List.getElem?_eq_getElem h]
  rfl
end Go.Proofs.Ytkfcbihofipcbaa.I

namespace Go.Proofs.Ytkfcbihofipcbaa.It

open Go.RowKit Go.Proofs.Ytkfcbihofipcbaa.Vc Go.Proofs.Ytkfcbihofipcbaa.Sp

set_option linter.unusedVariables false

set_option linter.unusedSimpArgs false

set_option maxRecDepth 100000

def pc (p : I.Pt) : List Value := wc p.1 ++ [Value.bool p.2.1, Value.int .u8 (p.2.2 : Int)]
/-- v is a slice that holds these -/
structure IsPs (w : World) (v : Value) (L : List I.Pt) : Prop where
  is : ∃ a cap, v = .slice a L.length cap ∧ L.length ≤ cap ∧ cap ≤ maxLen ∧ (L ≠ [] → ∃ b off, a = some ⟨b, off, none⟩ ∧ b < w.heap.size ∧ ∀ i x, L[i]? = some x → w.rangeAt b (off + 6 * i) (pc x))
theorem IsPs.below {w w' : World} {v : Value} {L : List I.Pt} (h : IsPs w v L) (hb : Below w.heap.size w w') : IsPs w' v L := by
  obtain ⟨a, cap, hv, h1, h2, h3⟩ := h.is
  refine ⟨a, cap, hv, h1, h2, fun hn => ?_⟩
  obtain ⟨b, off, ha, hlt, hW⟩ := h3 hn
  refine ⟨b, off, ha, Nat.lt_of_lt_of_le hlt hb.size, fun i x hx j v hv => ?_⟩
  rw [hb.cell (p := ⟨b, off + 6 * i + j, none⟩) hlt]
  exact hW i x hx j v hv
theorem IsPs.at {w : World} {v : Value} {L : List I.Pt} (h : IsPs w v L) (i : Nat) (hi : i < L.length) : ∃ b off cap, v = .slice (some ⟨b, off, none⟩) L.length cap ∧ b < w.heap.size ∧ w.rangeAt b (off + 6 * i) (pc (L.getD i I.pnone)) := by
  obtain ⟨a, cap, hv, h1, h2, h3⟩ := h.is
  obtain ⟨b, off, rfl, hlt, hW⟩ := h3 (fun e => by rw [e] at hi; exact absurd hi (by simp))
  refine ⟨b, off, cap, hv, hlt, hW i _ ?_⟩
  rw [List.getD_eq_getElem?_getD, List.getElem?_eq_getElem hi]; rfl
theorem Try.elem_p : Try.prog.elem 33 = 25 := by kernel_rfl
theorem Try.size_p : (Try.prog.info? 25).map (·.size) = some 6 := by kernel_rfl
theorem Try.info_p : (Try.prog.info? 25).map (fun i => (i.zero, i.size)) = some (some (.agg (pc I.pnone).toArray), (pc I.pnone).length) := by kernel_rfl
theorem index_p (b o n cap j : Nat) (hj : j < n) (w : World) : (Instr.indexAt 33 (.slice (some ⟨b, o, none⟩) n cap) (.int .i64 (j : Int))).run Try.prog w = .ok (.pointer (some ⟨b, o + 6 * j, none⟩)) w := by
  rw [run_indexAt_slice w _ _ _ _ _ _ (by rw [Try.elem_p]; exact Try.underlying33), Try.elem_p]
  rw [if_pos ⟨by omega, by omega⟩, Try.sizeOf25]
  have e : (⟨b, o, none⟩ : Addr).add ((j : Int).toNat * 6) = ⟨b, o + 6 * j, none⟩ := by
    rw [Int.toNat_natCast, Nat.mul_comm]
    unfold Addr.add
    split <;> simp_all
  simp
  rw [Int.toNat_natCast] at e
  exact e
set_option maxHeartbeats 16000000 in
theorem writes_false (v : Value) (L : List I.Pt) (most : Nat) (w : World) (hL : IsPs w v L) (hP : ∀ p ∈ L, I.POk p) (hm : most ≤ 10) :
    Calls Try.prog 34 #[v, .int .i64 (most : Int), .bool false] w fun e w' => ∃ v', e = .returned v' ∧ OW 23 w' w.heap.size v' (I.wrs most false L []) ∧ Below w.heap.size w w' := by
  obtain ⟨sa, cap, rfl, hca, hma, _⟩ := hL.is
  have hnb : L.length ≤ 9223372036854775807 := by unfold maxLen at hma; omega
  obtain ⟨n, HN⟩ : ∃ n, Hid (L.length = n) := ⟨_, rfl⟩
  have HL := Lib.hid hL
  have HPO := Lib.hid hP
  rw [HN.out] at HL hnb
  rw [HN.out]
  obtain ⟨R, HR⟩ : ∃ r, Hid (I.wrs most false L [] = r) := ⟨_, rfl⟩
  rw [HR.out]
  have HO1 : Hid (OW 23 w w.heap.size (.slice none 0 0) []) := OW.nil _ _ _
  have HB1 : Hid (Below w.heap.size w w) := Below.refl _ _
  have HR0 : Hid (I.wrs most false (L.drop 0) [] = R) := HR.out
  have HZ0 : Hid (([] : List I.Wt).length ≤ 10) := Nat.zero_le _
  clear hL hca hma hP HR
  go_enter Try.func34, Try.ntmps34
  go_wp2_with fail
  go_loopw [7, 8] (fun t i wr => ∃ (j : Nat) (out : List I.Wt), j ≤ n ∧ i = .int .i64 j ∧ Hid (I.wrs most false (L.drop j) out = R) ∧ Hid (out.length ≤ 10) ∧ Hid (OW 23 wr w.heap.size t out) ∧ Hid (Below w.heap.size w wr)) (fun _ i _ => n - (intOf i).toNat)
  case atStart => exact ⟨0, [], by omega, rfl, HR0, HZ0, HO1, HB1⟩
  case round =>
    obtain ⟨j, out, hj, rfl, HRj, HLj, XV50, W50⟩ := hrel
    clear HB1 HO1 HR0 HZ0
    obtain ⟨wa, rfl⟩ : ∃ x : World, x = wr := ⟨_, rfl⟩
    obtain ⟨av, cv, ev, _⟩ := XV50.out.is.is
    subst ev
    have HLT : Hid (∀ g o n c, Value.slice av out.length cv = .slice (some ⟨g, o, none⟩) n c → g < wa.heap.size) := OW.lt XV50.out
    obtain ⟨m, HM⟩ : ∃ q, Hid (out.length = q) := ⟨_, rfl⟩
    rw [HM.out] at XV50 HLT HLj
    have hm10 := HLj.out
    have hwa : w.heap.size ≤ wa.heap.size := W50.out.size
    rw [HM.out]
    by_cases hlt : j < n
    · have ilt : (j : Int) < (n : Int) := by omega
      by_cases hmm : m < most
      · have imm : (m : Int) < (most : Int) := by omega
        obtain ⟨g, off, cap', hv, hg0, hrow0⟩ := IsPs.at HL.out j (by rw [HN.out]; exact hlt)
        obtain rfl : sa = some ⟨g, off, none⟩ := by injection hv
        clear hv
        have HROW : Hid (wa.rangeAt g (off + 6 * j) (pc (L.getD j I.pnone))) := fun k v hv => by rw [W50.out.cell (p := ⟨g, off + 6 * j + k, none⟩) hg0]; exact hrow0 k v hv
        have hmem : L.getD j I.pnone ∈ L := by
          rw [List.getD_eq_getElem?_getD, List.getElem?_eq_getElem (by rw [HN.out]; exact hlt)]
          exact List.getElem_mem _
        have hpo := HPO.out _ hmem
        have hdr := I.drop_step L j (by rw [HN.out]; exact hlt)
        obtain ⟨p, HX⟩ : ∃ x, Hid (L.getD j I.pnone = x) := ⟨_, rfl⟩
        rw [HX.out] at HROW hpo hdr
        obtain ⟨x, own, K⟩ := p
        have hvl : x.2.2.1.size ≤ maxLen := by have := hpo.w.v; simp only at this; unfold maxLen; omega
        have hK : K < 256 := hpo.k
        have CW := Lib.hid (fun w => write_any x (false || own) K w hK hvl)
        obtain ⟨y, HY⟩ : ∃ y, Hid (I.pw false (x, own, K) = y) := ⟨_, rfl⟩
        rw [show I.putW x (false || own) K = y from HY.out] at CW
        have HST : Hid (I.wrs most false (L.drop (j + 1)) (I.wstep false out (x, own, K)) = R) := by
          show _ = _
          rw [← HRj.out, hdr, I.wrs, HM.out, if_pos hmm]
        unfold I.wstep at HST
        rw [HY.out, HM.out] at HST
        have hix : ∀ w, (Instr.indexAt 33 (.slice (some ⟨g, off, none⟩) n cap) (.int .i64 (j : Int))).run Try.prog w = .ok (.pointer (some ⟨g, off + 6 * j, none⟩)) w := fun w => index_p g off n cap j hlt w
        clear hrow0 hmem hpo hdr HRj hvl hK
        obtain ⟨xb, xk, xv, xg⟩ := x
        go_wp2_with (first | refine mid_load rfl 25 _ rfl g (off + 6 * j) rfl [.string xb, .string xk, .string xv, .bool xg, .bool own, .int .u8 (K : Int)] HROW.out _ Try.underlying25 rfl Try.size_p ?_ | refine blk_alloc rfl 25 (pc I.pnone) rfl Try.info_p ?_)
        intro k51 A51 B51 Z51
        go_wp2_with (first | refine blk_store rfl 25 _ _ rfl (wa.heap.size) rfl [.string xb, .string xk, .string xv, .bool xg, .bool own, .int .u8 (K : Int)] rfl _ A51 rfl Try.size_p rfl ?_)
        intro k52 A52 U52
        have hb52 : Below wa.heap.size wa k52 := B51.trans (U52.below (Nat.le_refl _))
        have HP52_ : Hid (Blk k52 (wa.heap.size) [.string xb, .string xk, .string xv, .bool xg, .bool own, .int .u8 (K : Int)]) := A52
        have LP52_ : Hid (wa.heap.size < k52.heap.size) := by show _ < _; rw [U52.size]; omega
        have XV52 := Lib.hid (OW.below XV50.out hb52)
        have W52 : Hid (Below w.heap.size w k52) := Below.trans W50.out (hb52.mono W50.out.size)
        have HP52 := HP52_
        have LP52 := LP52_
        clear hb52 A51 B51 Z51 A52 U52 HP52_ LP52_ XV50 W50
        clear hix HROW
        go_wp2_with (first | refine blk_load rfl 25 _ rfl (wa.heap.size) rfl [.string xb, .string xk, .string xv, .bool xg, .bool own, .int .u8 (K : Int)] HP52.out _ Try.underlying25 rfl Try.size_p ?_)
        refine (CW.out _).mono ?_; rintro e k53 ⟨rfl, hb53⟩
        have HP53 : Hid (Blk k53 (wa.heap.size) [.string xb, .string xk, .string xv, .bool xg, .bool own, .int .u8 (K : Int)]) := Blk.below HP52.out hb53 LP52.out
        have LP53 : Hid (wa.heap.size < k53.heap.size) := Nat.lt_of_lt_of_le LP52.out hb53.size
        have XV53 := Lib.hid (OW.below XV52.out hb53)
        have W53 : Hid (Below w.heap.size w k53) := Below.trans W52.out (hb53.mono W52.out.size)
        clear hb53 HP52 LP52 XV52 W52 
        go_wp2_with (first | refine blk_alloc rfl 23 (wc I.none_) rfl Try.info_iw2 ?_)
        intro k54 A54 B54 Z54
        go_wp2_with (first | refine blk_store rfl 23 _ _ rfl (k53.heap.size) rfl (wc y) rfl _ A54 rfl Try.size_w rfl ?_)
        intro k55 A55 U55
        have hb55 : Below k53.heap.size k53 k55 := B54.trans (U55.below (Nat.le_refl _))
        have HY55_ : Hid (Blk k55 (k53.heap.size) (wc y)) := A55
        have LY55_ : Hid (k53.heap.size < k55.heap.size) := by show _ < _; rw [U55.size]; omega
        have HP55 : Hid (Blk k55 (wa.heap.size) [.string xb, .string xk, .string xv, .bool xg, .bool own, .int .u8 (K : Int)]) := Blk.below HP53.out hb55 LP53.out
        have LP55 : Hid (wa.heap.size < k55.heap.size) := Nat.lt_of_lt_of_le LP53.out hb55.size
        have XV55 := Lib.hid (OW.below XV53.out hb55)
        have W55 : Hid (Below w.heap.size w k55) := Below.trans W53.out (hb55.mono W53.out.size)
        have HY55 := HY55_
        have LY55 := LY55_
        clear hb55 A54 B54 Z54 A55 U55 HY55_ LY55_ HP53 LP53 XV53 W53
        go_wp2_with fail
        go_loopw [11, 12] (fun t i wr => ∃ (k : Nat) (tv : Bool), k ≤ m ∧ i = .int .i64 k ∧ t = .bool tv ∧ Hid (I.tw out y k = tv) ∧ Hid (Below k55.heap.size k55 wr)) (fun _ i _ => m - (intOf i).toNat)
        case atStart => exact ⟨0, false, by omega, rfl, rfl, rfl, Below.refl _ _⟩
        case round =>
          obtain ⟨k, tv, hk, rfl, rfl, HT, HBk⟩ := hrel
          by_cases hkm : k < m
          · have ikm : (k : Int) < (m : Int) := by omega
            obtain ⟨g2, off2, cap2, hv, hg2, hrow2⟩ := IsWs.at (OW.is (OW.below XV55.out HBk.out)) k (by rw [HM.out]; exact hkm)
            have hv2 := hv
            simp only [Value.slice.injEq] at hv2
            obtain ⟨rfl, hnl, rfl⟩ := hv2
            clear hv hnl
            have hts := I.tw_step out y k (by rw [HM.out]; exact hkm)
            obtain ⟨z, HZ⟩ : ∃ z, Hid (out.getD k I.none_ = z) := ⟨_, rfl⟩
            rw [HZ.out] at hrow2 hts
            rw [HT.out] at hts
            obtain ⟨zb, zk, zv, zg⟩ := z
            obtain ⟨yb, yk, yv, yg⟩ := y
            obtain ⟨e1, HE1⟩ : ∃ r, Hid (decide (zb = yb) = r) := ⟨_, rfl⟩
            obtain ⟨e2, HE2⟩ : ∃ r, Hid (decide (zk = yk) = r) := ⟨_, rfl⟩
            have Q1 : Hid ((zb.toList == yb.toList) = e1) := by show _ = _; rw [V.tol_eq]; exact HE1.out
            have Q2 : Hid ((zk.toList == yk.toList) = e2) := by show _ = _; rw [V.tol_eq]; exact HE2.out
            have hkey : decide (I.key (zb, zk, zv, zg) = I.key (yb, yk, yv, yg)) = (e1 && e2) := by
              rw [← HE1.out, ← HE2.out, ← Bool.decide_and]
              exact decide_eq_decide.2 (by simp [I.key])
            rw [hkey] at hts
            have HTS := Lib.hid hts
            have KZ0 : Hid (∀ u, Below wr.heap.size wr u → u.cell? ⟨g2, off2 + 4 * k, none⟩ = some (.string zb)) := fun u hu => by rw [hu.cell (p := ⟨g2, off2 + 4 * k, none⟩) hg2]; exact hrow2 0 _ rfl
            have KZ1 : Hid (∀ u, Below wr.heap.size wr u → u.cell? ⟨g2, off2 + 4 * k + 1, none⟩ = some (.string zk)) := fun u hu => by rw [hu.cell (p := ⟨g2, off2 + 4 * k + 1, none⟩) hg2]; exact hrow2 1 _ rfl
            have KY0 : Hid (∀ u, Below wr.heap.size wr u → u.cell? ⟨k53.heap.size, 0, none⟩ = some (.string yb)) := fun u hu => (Blk.below (Blk.below HY55.out HBk.out LY55.out) hu (Nat.lt_of_lt_of_le LY55.out HBk.out.size)).cell 0 _ rfl
            have KY1 : Hid (∀ u, Below wr.heap.size wr u → u.cell? ⟨k53.heap.size, 1, none⟩ = some (.string yk)) := fun u hu => (Blk.below (Blk.below HY55.out HBk.out LY55.out) hu (Nat.lt_of_lt_of_le LY55.out HBk.out.size)).cell 1 _ rfl
            clear hrow2 hts hkey hg2 HE1 HE2
            go_wp2_with fail
            refine region_w Try.mixed (by kernel_rfl) ?_
            refine w_move rfl _ rfl (.bool tv) rfl (fun K hK => ?_)
            go_simp
            refine hK _ ?_
            clear hK K
            refine w_move rfl _ rfl (.bool tv) rfl (fun K hK => ?_)
            go_simp
            refine hK _ ?_
            clear hK K
            cases tv with
            | true =>
              refine w_skip 1 false (some true) rfl rfl rfl (fun K hK => ?_)
              go_simp
              refine hK _ ?_
              clear hK K
              refine w_skip 1 false (some true) rfl rfl rfl (fun K hK => ?_)
              go_simp
              refine hK _ ?_
              clear hK K
              refine w_skip 1 false (some true) rfl rfl rfl (fun K hK => ?_)
              go_simp
              refine hK _ ?_
              clear hK K
              refine w_skip 1 false (some true) rfl rfl rfl (fun K hK => ?_)
              go_simp
              refine hK _ ?_
              clear hK K
              refine w_skip 1 false (some true) rfl rfl rfl (fun K hK => ?_)
              go_simp
              refine hK _ ?_
              clear hK K
              refine w_skip 1 false (some true) rfl rfl rfl (fun K hK => ?_)
              go_simp
              refine hK _ ?_
              clear hK K
              refine w_skip 1 false (some true) rfl rfl rfl (fun K hK => ?_)
              go_simp
              refine hK _ ?_
              clear hK K
              refine w_skip 1 false (some true) rfl rfl rfl (fun K hK => ?_)
              go_simp
              refine hK _ ?_
              clear hK K
              refine w_skip 1 false (some true) rfl rfl rfl (fun K hK => ?_)
              go_simp
              refine hK _ ?_
              clear hK K
              refine w_skip 10 true none rfl rfl rfl (fun K hK => ?_)
              go_simp
              refine hK _ ?_
              clear hK K
              refine w_skip 10 true none rfl rfl rfl (fun K hK => ?_)
              go_simp
              refine hK _ ?_
              clear hK K
              refine w_skip 10 true none rfl rfl rfl (fun K hK => ?_)
              go_simp
              refine hK _ ?_
              clear hK K
              refine w_skip 10 true none rfl rfl rfl (fun K hK => ?_)
              go_simp
              refine hK _ ?_
              clear hK K
              refine w_skip 10 true none rfl rfl rfl (fun K hK => ?_)
              go_simp
              refine hK _ ?_
              clear hK K
              refine w_skip 10 true none rfl rfl rfl (fun K hK => ?_)
              go_simp
              refine hK _ ?_
              clear hK K
              refine w_skip 10 true none rfl rfl rfl (fun K hK => ?_)
              go_simp
              refine hK _ ?_
              clear hK K
              refine w_skip 10 true none rfl rfl rfl (fun K hK => ?_)
              go_simp
              refine hK _ ?_
              clear hK K
              refine w_skip 1 false (some true) rfl rfl rfl (fun K hK => ?_)
              go_simp
              refine hK _ ?_
              clear hK K
              refine w_value rfl (.bool true) (fun u hu => by go_simp) (fun K hK => ?_)
              go_simp
              refine hK _ ?_
              clear hK K
              refine w_assign rfl _ rfl (.bool true) rfl (fun K hK => ?_)
              go_simp
              refine hK _ ?_
              clear hK K
              refine w_nil ?_
              intro u hu
              have HBu : Hid (Below k55.heap.size k55 u) := Below.trans HBk.out (hu.mono HBk.out.size)
              have HTu : Hid (I.tw out (yb, yk, yv, yg) (k + 1) = true) := by show _ = _; rw [HTS.out]; rfl
              clear hu HBk KZ0 KZ1 KY0 KY1
              go_wp2_with fail
              go_roundw
              case rel => exact ⟨k + 1, true, by omega, by go_num, rfl, HTu, HBu⟩
              case measure => simp [intOf]; omega
            | false =>
              refine wg_value (by rfl) (.slice (some ⟨g2, off2, none⟩) m cv) (fun u hu => by go_simp) (fun K hK => ?_)
              go_simp
              refine hK _ ?_
              clear hK K
              refine wg_value (by rfl) (.int .i64 (k : Int)) (fun u hu => by go_simp) (fun K hK => ?_)
              go_simp
              refine hK _ ?_
              clear hK K
              refine wg_value (by rfl) (.pointer (some ⟨g2, off2 + 4 * k, none⟩)) (fun u hu => by have hc := index_iw g2 off2 m cv k hkm u; go_simp) (fun K hK => ?_)
              go_simp
              refine hK _ ?_
              clear hK K
              refine wg_value (by rfl) (.pointer (some ⟨g2, off2 + 4 * k, none⟩)) (fun u hu => by go_simp) (fun K hK => ?_)
              go_simp
              refine hK _ ?_
              clear hK K
              refine wg_value (by rfl) (.string zb) (fun u hu => by have hc := KZ0.out u hu; go_simp) (fun K hK => ?_)
              go_simp
              refine hK _ ?_
              clear hK K
              refine wg_value (by rfl) (.pointer (some ⟨k53.heap.size, 0, none⟩)) (fun u hu => by go_simp) (fun K hK => ?_)
              go_simp
              refine hK _ ?_
              clear hK K
              refine wg_value (by rfl) (.string yb) (fun u hu => by have hc := KY0.out u hu; go_simp) (fun K hK => ?_)
              go_simp
              refine hK _ ?_
              clear hK K
              refine wg_value (by rfl) (.bool e1) (fun u hu => by have hs := Q1.out; go_simp) (fun K hK => ?_)
              go_simp
              refine hK _ ?_
              clear hK K
              refine wg_value (by rfl) (.bool e1) (fun u hu => by go_simp) (fun K hK => ?_)
              go_simp
              refine hK _ ?_
              clear hK K
              cases e1 with
              | false =>
                refine w_skip 10 true (some false) rfl rfl rfl (fun K hK => ?_)
                go_simp
                refine hK _ ?_
                clear hK K
                refine w_skip 10 true (some false) rfl rfl rfl (fun K hK => ?_)
                go_simp
                refine hK _ ?_
                clear hK K
                refine w_skip 10 true (some false) rfl rfl rfl (fun K hK => ?_)
                go_simp
                refine hK _ ?_
                clear hK K
                refine w_skip 10 true (some false) rfl rfl rfl (fun K hK => ?_)
                go_simp
                refine hK _ ?_
                clear hK K
                refine w_skip 10 true (some false) rfl rfl rfl (fun K hK => ?_)
                go_simp
                refine hK _ ?_
                clear hK K
                refine w_skip 10 true (some false) rfl rfl rfl (fun K hK => ?_)
                go_simp
                refine hK _ ?_
                clear hK K
                refine w_skip 10 true (some false) rfl rfl rfl (fun K hK => ?_)
                go_simp
                refine hK _ ?_
                clear hK K
                refine w_skip 10 true (some false) rfl rfl rfl (fun K hK => ?_)
                go_simp
                refine hK _ ?_
                clear hK K
                refine wg_value (by rfl) (.bool false) (fun u hu => by go_simp) (fun K hK => ?_)
                go_simp
                refine hK _ ?_
                clear hK K
                refine w_value rfl (.bool false) (fun u hu => by go_simp) (fun K hK => ?_)
                go_simp
                refine hK _ ?_
                clear hK K
                refine w_assign rfl _ rfl (.bool false) rfl (fun K hK => ?_)
                go_simp
                refine hK _ ?_
                clear hK K
                refine w_nil ?_
                intro u hu
                have HBu : Hid (Below k55.heap.size k55 u) := Below.trans HBk.out (hu.mono HBk.out.size)
                have HTu : Hid (I.tw out (yb, yk, yv, yg) (k + 1) = false) := by show _ = _; rw [HTS.out]; rfl
                clear hu HBk KZ0 KZ1 KY0 KY1
                go_wp2_with fail
                go_roundw
                case rel => exact ⟨k + 1, false, by omega, by go_num, rfl, HTu, HBu⟩
                case measure => simp [intOf]; omega
              | true =>
                refine wg_value (by rfl) (.slice (some ⟨g2, off2, none⟩) m cv) (fun u hu => by go_simp) (fun K hK => ?_)
                go_simp
                refine hK _ ?_
                clear hK K
                refine wg_value (by rfl) (.int .i64 (k : Int)) (fun u hu => by go_simp) (fun K hK => ?_)
                go_simp
                refine hK _ ?_
                clear hK K
                refine wg_value (by rfl) (.pointer (some ⟨g2, off2 + 4 * k, none⟩)) (fun u hu => by have hc := index_iw g2 off2 m cv k hkm u; go_simp) (fun K hK => ?_)
                go_simp
                refine hK _ ?_
                clear hK K
                refine wg_value (by rfl) (.pointer (some ⟨g2, off2 + 4 * k + 1, none⟩)) (fun u hu => by go_simp) (fun K hK => ?_)
                go_simp
                refine hK _ ?_
                clear hK K
                refine wg_value (by rfl) (.string zk) (fun u hu => by have hc := KZ1.out u hu; go_simp) (fun K hK => ?_)
                go_simp
                refine hK _ ?_
                clear hK K
                refine wg_value (by rfl) (.pointer (some ⟨k53.heap.size, 1, none⟩)) (fun u hu => by go_simp) (fun K hK => ?_)
                go_simp
                refine hK _ ?_
                clear hK K
                refine wg_value (by rfl) (.string yk) (fun u hu => by have hc := KY1.out u hu; go_simp) (fun K hK => ?_)
                go_simp
                refine hK _ ?_
                clear hK K
                refine wg_value (by rfl) (.bool e2) (fun u hu => by have hs := Q2.out; go_simp) (fun K hK => ?_)
                go_simp
                refine hK _ ?_
                clear hK K
                refine wg_value (by rfl) (.bool e2) (fun u hu => by go_simp) (fun K hK => ?_)
                go_simp
                refine hK _ ?_
                clear hK K
                refine w_value rfl (.bool e2) (fun u hu => by go_simp) (fun K hK => ?_)
                go_simp
                refine hK _ ?_
                clear hK K
                refine w_assign rfl _ rfl (.bool e2) rfl (fun K hK => ?_)
                go_simp
                refine hK _ ?_
                clear hK K
                refine w_nil ?_
                intro u hu
                have HBu : Hid (Below k55.heap.size k55 u) := Below.trans HBk.out (hu.mono HBk.out.size)
                have HTu : Hid (I.tw out (yb, yk, yv, yg) (k + 1) = e2) := by show _ = _; rw [HTS.out]; rfl
                clear hu HBk KZ0 KZ1 KY0 KY1
                go_wp2_with fail
                go_roundw
                case rel => exact ⟨k + 1, e2, by omega, by go_num, rfl, HTu, HBu⟩
                case measure => simp [intOf]; omega
          · obtain rfl : k = m := by omega
            rw [HT.out] at HST
            have HY90 : Hid (Blk wr (k53.heap.size) (wc y)) := Blk.below HY55.out HBk.out LY55.out
            have LY90 : Hid (k53.heap.size < wr.heap.size) := Nat.lt_of_lt_of_le LY55.out HBk.out.size
            have XV90 := Lib.hid (OW.below XV55.out HBk.out)
            have W90 : Hid (Below w.heap.size w wr) := Below.trans W55.out (HBk.out.mono W55.out.size)
            clear HBk
            have hlen : out.length < 1000000 := by rw [HM.out]; omega
            go_wp2_with (first | refine blk_load rfl 23 _ rfl (k53.heap.size) rfl (wc y) HY90.out _ Try.underlying23 rfl Try.size_w ?_ | refine build_iw rfl _ rfl y rfl ?_)
            intro k95 A95 B95 Z95
            have XV95 := Lib.hid (OW.below XV90.out B95)
            have W95 : Hid (Below w.heap.size w k95) := Below.trans W90.out (B95.mono W90.out.size)
            have hz5 : w.heap.size ≤ k95.heap.size := W95.out.size
            clear B95 Z95 XV90 W90 HY90 LY90
            go_wp2_with (at_builtin; refine append_gen (t := 23) Try.underlying41 Try.info_iw _ rfl _ _ rfl w.heap.size _ _ rfl XV95.out wr.heap.size rfl y A95 ?c2 ?c3 ?_)
            case c2 => exact hlen
            case c3 => omega
            intro v' k96 ho hb hbs
            have XV96 : Hid (OW 23 k96 w.heap.size v' (out ++ [y])) := ho
            have W96 : Hid (Below w.heap.size w k96) := Below.trans W95.out hb
            have HL96 : Hid ((out ++ [y]).length ≤ 10) := by show _ ≤ _; rw [List.length_append, HM.out]; simp; omega
            simp only [Bool.not_false, Bool.true_or, if_true] at HST
            clear ho hb hbs A95 XV95 W95
            go_wp2_with fail
            go_roundw
            case rel => exact ⟨j + 1, out ++ [y], by omega, by go_num, HST, HL96, XV96, W96⟩
            case measure => simp [intOf]; omega
      · have imm : decide ((m : Int) < (most : Int)) = false := by simp; omega
        have jmm : ¬ (m : Int) < (most : Int) := by omega
        obtain rfl : out = R := by
          rw [← HRj.out, I.drop_step L j (by rw [HN.out]; exact hlt), I.wrs, HM.out, if_neg hmm]
        go_wp2_with fail
        go_ret
        exact ⟨_, rfl, XV50.out, W50.out⟩
    · obtain rfl : j = n := by omega
      obtain rfl : out = R := by
        rw [← HRj.out, List.drop_eq_nil_of_le (by rw [HN.out]; exact Nat.le_refl _)]
        rfl
      go_wp2_with fail
      go_ret
      exact ⟨_, rfl, XV50.out, W50.out⟩
set_option maxHeartbeats 16000000 in
theorem writes_true (v : Value) (L : List I.Pt) (most : Nat) (w : World) (hL : IsPs w v L) (hP : ∀ p ∈ L, I.POk p) (hm : most ≤ 10) :
    Calls Try.prog 34 #[v, .int .i64 (most : Int), .bool true] w fun e w' => ∃ v', e = .returned v' ∧ OW 23 w' w.heap.size v' (I.wrs most true L []) ∧ Below w.heap.size w w' := by
  obtain ⟨sa, cap, rfl, hca, hma, _⟩ := hL.is
  have hnb : L.length ≤ 9223372036854775807 := by unfold maxLen at hma; omega
  obtain ⟨n, HN⟩ : ∃ n, Hid (L.length = n) := ⟨_, rfl⟩
  have HL := Lib.hid hL
  have HPO := Lib.hid hP
  rw [HN.out] at HL hnb
  rw [HN.out]
  obtain ⟨R, HR⟩ : ∃ r, Hid (I.wrs most true L [] = r) := ⟨_, rfl⟩
  rw [HR.out]
  have HO1 : Hid (OW 23 w w.heap.size (.slice none 0 0) []) := OW.nil _ _ _
  have HB1 : Hid (Below w.heap.size w w) := Below.refl _ _
  have HR0 : Hid (I.wrs most true (L.drop 0) [] = R) := HR.out
  have HZ0 : Hid (([] : List I.Wt).length ≤ 10) := Nat.zero_le _
  clear hL hca hma hP HR
  go_enter Try.func34, Try.ntmps34
  go_wp2_with fail
  go_loopw [7, 8] (fun t i wr => ∃ (j : Nat) (out : List I.Wt), j ≤ n ∧ i = .int .i64 j ∧ Hid (I.wrs most true (L.drop j) out = R) ∧ Hid (out.length ≤ 10) ∧ Hid (OW 23 wr w.heap.size t out) ∧ Hid (Below w.heap.size w wr)) (fun _ i _ => n - (intOf i).toNat)
  case atStart => exact ⟨0, [], by omega, rfl, HR0, HZ0, HO1, HB1⟩
  case round =>
    obtain ⟨j, out, hj, rfl, HRj, HLj, XV50, W50⟩ := hrel
    clear HB1 HO1 HR0 HZ0
    obtain ⟨wa, rfl⟩ : ∃ x : World, x = wr := ⟨_, rfl⟩
    obtain ⟨av, cv, ev, _⟩ := XV50.out.is.is
    subst ev
    have HLT : Hid (∀ g o n c, Value.slice av out.length cv = .slice (some ⟨g, o, none⟩) n c → g < wa.heap.size) := OW.lt XV50.out
    obtain ⟨m, HM⟩ : ∃ q, Hid (out.length = q) := ⟨_, rfl⟩
    rw [HM.out] at XV50 HLT HLj
    have hm10 := HLj.out
    have hwa : w.heap.size ≤ wa.heap.size := W50.out.size
    rw [HM.out]
    by_cases hlt : j < n
    · have ilt : (j : Int) < (n : Int) := by omega
      by_cases hmm : m < most
      · have imm : (m : Int) < (most : Int) := by omega
        obtain ⟨g, off, cap', hv, hg0, hrow0⟩ := IsPs.at HL.out j (by rw [HN.out]; exact hlt)
        obtain rfl : sa = some ⟨g, off, none⟩ := by injection hv
        clear hv
        have HROW : Hid (wa.rangeAt g (off + 6 * j) (pc (L.getD j I.pnone))) := fun k v hv => by rw [W50.out.cell (p := ⟨g, off + 6 * j + k, none⟩) hg0]; exact hrow0 k v hv
        have hmem : L.getD j I.pnone ∈ L := by
          rw [List.getD_eq_getElem?_getD, List.getElem?_eq_getElem (by rw [HN.out]; exact hlt)]
          exact List.getElem_mem _
        have hpo := HPO.out _ hmem
        have hdr := I.drop_step L j (by rw [HN.out]; exact hlt)
        obtain ⟨p, HX⟩ : ∃ x, Hid (L.getD j I.pnone = x) := ⟨_, rfl⟩
        rw [HX.out] at HROW hpo hdr
        obtain ⟨x, own, K⟩ := p
        have hvl : x.2.2.1.size ≤ maxLen := by have := hpo.w.v; simp only at this; unfold maxLen; omega
        have hK : K < 256 := hpo.k
        have CW := Lib.hid (fun w => write_any x (true || own) K w hK hvl)
        obtain ⟨y, HY⟩ : ∃ y, Hid (I.pw true (x, own, K) = y) := ⟨_, rfl⟩
        rw [show I.putW x (true || own) K = y from HY.out] at CW
        have HST : Hid (I.wrs most true (L.drop (j + 1)) (I.wstep true out (x, own, K)) = R) := by
          show _ = _
          rw [← HRj.out, hdr, I.wrs, HM.out, if_pos hmm]
        unfold I.wstep at HST
        rw [HY.out, HM.out] at HST
        have hix : ∀ w, (Instr.indexAt 33 (.slice (some ⟨g, off, none⟩) n cap) (.int .i64 (j : Int))).run Try.prog w = .ok (.pointer (some ⟨g, off + 6 * j, none⟩)) w := fun w => index_p g off n cap j hlt w
        clear hrow0 hmem hpo hdr HRj hvl hK
        obtain ⟨xb, xk, xv, xg⟩ := x
        go_wp2_with (first | refine mid_load rfl 25 _ rfl g (off + 6 * j) rfl [.string xb, .string xk, .string xv, .bool xg, .bool own, .int .u8 (K : Int)] HROW.out _ Try.underlying25 rfl Try.size_p ?_ | refine blk_alloc rfl 25 (pc I.pnone) rfl Try.info_p ?_)
        intro k51 A51 B51 Z51
        go_wp2_with (first | refine blk_store rfl 25 _ _ rfl (wa.heap.size) rfl [.string xb, .string xk, .string xv, .bool xg, .bool own, .int .u8 (K : Int)] rfl _ A51 rfl Try.size_p rfl ?_)
        intro k52 A52 U52
        have hb52 : Below wa.heap.size wa k52 := B51.trans (U52.below (Nat.le_refl _))
        have HP52_ : Hid (Blk k52 (wa.heap.size) [.string xb, .string xk, .string xv, .bool xg, .bool own, .int .u8 (K : Int)]) := A52
        have LP52_ : Hid (wa.heap.size < k52.heap.size) := by show _ < _; rw [U52.size]; omega
        have XV52 := Lib.hid (OW.below XV50.out hb52)
        have W52 : Hid (Below w.heap.size w k52) := Below.trans W50.out (hb52.mono W50.out.size)
        have HP52 := HP52_
        have LP52 := LP52_
        clear hb52 A51 B51 Z51 A52 U52 HP52_ LP52_ XV50 W50
        clear hix HROW
        have cf53 := HP52.out.cell 4 _ rfl
        have ff53 := HP52.out.free 4 (by simp)
        have U53 : Upd (wa.heap.size) k52 (k52.setCell ⟨wa.heap.size, 4, none⟩ (.bool true)) := Upd.setCell _ _ _ _
        have A53 : Blk (k52.setCell ⟨wa.heap.size, 4, none⟩ (.bool true)) (wa.heap.size) [.string xb, .string xk, .string xv, .bool xg, .bool true, .int .u8 (K : Int)] := Blk.setc HP52.out 4 (by simp) (.bool true)
        have HP53 : Hid (Blk (k52.setCell ⟨wa.heap.size, 4, none⟩ (.bool true)) (wa.heap.size) [.string xb, .string xk, .string xv, .bool xg, .bool true, .int .u8 (K : Int)]) := A53
        have LP53 : Hid (wa.heap.size < (k52.setCell ⟨wa.heap.size, 4, none⟩ (.bool true)).heap.size) := by show _ < _; rw [U53.size]; exact LP52.out
        have XV53 := Lib.hid (OW.far XV52.out U53 (fun g o n c e => by have := HLT.out g o n c e; omega))
        have W53 : Hid (Below w.heap.size w (k52.setCell ⟨wa.heap.size, 4, none⟩ (.bool true))) := Below.trans W52.out (U53.below (by omega))
        clear A53 U53 HP52 LP52 XV52 W52
        go_wp2_with (first | refine blk_load rfl 25 _ rfl (wa.heap.size) rfl [.string xb, .string xk, .string xv, .bool xg, .bool true, .int .u8 (K : Int)] HP53.out _ Try.underlying25 rfl Try.size_p ?_)
        refine (CW.out _).mono ?_; rintro e k54 ⟨rfl, hb54⟩
        have HP54 : Hid (Blk k54 (wa.heap.size) [.string xb, .string xk, .string xv, .bool xg, .bool true, .int .u8 (K : Int)]) := Blk.below HP53.out hb54 LP53.out
        have LP54 : Hid (wa.heap.size < k54.heap.size) := Nat.lt_of_lt_of_le LP53.out hb54.size
        have XV54 := Lib.hid (OW.below XV53.out hb54)
        have W54 : Hid (Below w.heap.size w k54) := Below.trans W53.out (hb54.mono W53.out.size)
        clear hb54 HP53 LP53 XV53 W53 
        go_wp2_with (first | refine blk_alloc rfl 23 (wc I.none_) rfl Try.info_iw2 ?_)
        intro k55 A55 B55 Z55
        go_wp2_with (first | refine blk_store rfl 23 _ _ rfl (k54.heap.size) rfl (wc y) rfl _ A55 rfl Try.size_w rfl ?_)
        intro k56 A56 U56
        have hb56 : Below k54.heap.size k54 k56 := B55.trans (U56.below (Nat.le_refl _))
        have HY56_ : Hid (Blk k56 (k54.heap.size) (wc y)) := A56
        have LY56_ : Hid (k54.heap.size < k56.heap.size) := by show _ < _; rw [U56.size]; omega
        have HP56 : Hid (Blk k56 (wa.heap.size) [.string xb, .string xk, .string xv, .bool xg, .bool true, .int .u8 (K : Int)]) := Blk.below HP54.out hb56 LP54.out
        have LP56 : Hid (wa.heap.size < k56.heap.size) := Nat.lt_of_lt_of_le LP54.out hb56.size
        have XV56 := Lib.hid (OW.below XV54.out hb56)
        have W56 : Hid (Below w.heap.size w k56) := Below.trans W54.out (hb56.mono W54.out.size)
        have HY56 := HY56_
        have LY56 := LY56_
        clear hb56 A55 B55 Z55 A56 U56 HY56_ LY56_ HP54 LP54 XV54 W54
        go_wp2_with fail
        go_loopw [11, 12] (fun t i wr => ∃ (k : Nat) (tv : Bool), k ≤ m ∧ i = .int .i64 k ∧ t = .bool tv ∧ Hid (I.tw out y k = tv) ∧ Hid (Below k56.heap.size k56 wr)) (fun _ i _ => m - (intOf i).toNat)
        case atStart => exact ⟨0, false, by omega, rfl, rfl, rfl, Below.refl _ _⟩
        case round =>
          obtain ⟨k, tv, hk, rfl, rfl, HT, HBk⟩ := hrel
          by_cases hkm : k < m
          · have ikm : (k : Int) < (m : Int) := by omega
            obtain ⟨g2, off2, cap2, hv, hg2, hrow2⟩ := IsWs.at (OW.is (OW.below XV56.out HBk.out)) k (by rw [HM.out]; exact hkm)
            have hv2 := hv
            simp only [Value.slice.injEq] at hv2
            obtain ⟨rfl, hnl, rfl⟩ := hv2
            clear hv hnl
            have hts := I.tw_step out y k (by rw [HM.out]; exact hkm)
            obtain ⟨z, HZ⟩ : ∃ z, Hid (out.getD k I.none_ = z) := ⟨_, rfl⟩
            rw [HZ.out] at hrow2 hts
            rw [HT.out] at hts
            obtain ⟨zb, zk, zv, zg⟩ := z
            obtain ⟨yb, yk, yv, yg⟩ := y
            obtain ⟨e1, HE1⟩ : ∃ r, Hid (decide (zb = yb) = r) := ⟨_, rfl⟩
            obtain ⟨e2, HE2⟩ : ∃ r, Hid (decide (zk = yk) = r) := ⟨_, rfl⟩
            have Q1 : Hid ((zb.toList == yb.toList) = e1) := by show _ = _; rw [V.tol_eq]; exact HE1.out
            have Q2 : Hid ((zk.toList == yk.toList) = e2) := by show _ = _; rw [V.tol_eq]; exact HE2.out
            have hkey : decide (I.key (zb, zk, zv, zg) = I.key (yb, yk, yv, yg)) = (e1 && e2) := by
              rw [← HE1.out, ← HE2.out, ← Bool.decide_and]
              exact decide_eq_decide.2 (by simp [I.key])
            rw [hkey] at hts
            have HTS := Lib.hid hts
            have KZ0 : Hid (∀ u, Below wr.heap.size wr u → u.cell? ⟨g2, off2 + 4 * k, none⟩ = some (.string zb)) := fun u hu => by rw [hu.cell (p := ⟨g2, off2 + 4 * k, none⟩) hg2]; exact hrow2 0 _ rfl
            have KZ1 : Hid (∀ u, Below wr.heap.size wr u → u.cell? ⟨g2, off2 + 4 * k + 1, none⟩ = some (.string zk)) := fun u hu => by rw [hu.cell (p := ⟨g2, off2 + 4 * k + 1, none⟩) hg2]; exact hrow2 1 _ rfl
            have KY0 : Hid (∀ u, Below wr.heap.size wr u → u.cell? ⟨k54.heap.size, 0, none⟩ = some (.string yb)) := fun u hu => (Blk.below (Blk.below HY56.out HBk.out LY56.out) hu (Nat.lt_of_lt_of_le LY56.out HBk.out.size)).cell 0 _ rfl
            have KY1 : Hid (∀ u, Below wr.heap.size wr u → u.cell? ⟨k54.heap.size, 1, none⟩ = some (.string yk)) := fun u hu => (Blk.below (Blk.below HY56.out HBk.out LY56.out) hu (Nat.lt_of_lt_of_le LY56.out HBk.out.size)).cell 1 _ rfl
            clear hrow2 hts hkey hg2 HE1 HE2
            go_wp2_with fail
            refine region_w Try.mixed (by kernel_rfl) ?_
            refine w_move rfl _ rfl (.bool tv) rfl (fun K hK => ?_)
            go_simp
            refine hK _ ?_
            clear hK K
            refine w_move rfl _ rfl (.bool tv) rfl (fun K hK => ?_)
            go_simp
            refine hK _ ?_
            clear hK K
            cases tv with
            | true =>
              refine w_skip 1 false (some true) rfl rfl rfl (fun K hK => ?_)
              go_simp
              refine hK _ ?_
              clear hK K
              refine w_skip 1 false (some true) rfl rfl rfl (fun K hK => ?_)
              go_simp
              refine hK _ ?_
              clear hK K
              refine w_skip 1 false (some true) rfl rfl rfl (fun K hK => ?_)
              go_simp
              refine hK _ ?_
              clear hK K
              refine w_skip 1 false (some true) rfl rfl rfl (fun K hK => ?_)
              go_simp
              refine hK _ ?_
              clear hK K
              refine w_skip 1 false (some true) rfl rfl rfl (fun K hK => ?_)
              go_simp
              refine hK _ ?_
              clear hK K
              refine w_skip 1 false (some true) rfl rfl rfl (fun K hK => ?_)
              go_simp
              refine hK _ ?_
              clear hK K
              refine w_skip 1 false (some true) rfl rfl rfl (fun K hK => ?_)
              go_simp
              refine hK _ ?_
              clear hK K
              refine w_skip 1 false (some true) rfl rfl rfl (fun K hK => ?_)
              go_simp
              refine hK _ ?_
              clear hK K
              refine w_skip 1 false (some true) rfl rfl rfl (fun K hK => ?_)
              go_simp
              refine hK _ ?_
              clear hK K
              refine w_skip 10 true none rfl rfl rfl (fun K hK => ?_)
              go_simp
              refine hK _ ?_
              clear hK K
              refine w_skip 10 true none rfl rfl rfl (fun K hK => ?_)
              go_simp
              refine hK _ ?_
              clear hK K
              refine w_skip 10 true none rfl rfl rfl (fun K hK => ?_)
              go_simp
              refine hK _ ?_
              clear hK K
              refine w_skip 10 true none rfl rfl rfl (fun K hK => ?_)
              go_simp
              refine hK _ ?_
              clear hK K
              refine w_skip 10 true none rfl rfl rfl (fun K hK => ?_)
              go_simp
              refine hK _ ?_
              clear hK K
              refine w_skip 10 true none rfl rfl rfl (fun K hK => ?_)
              go_simp
              refine hK _ ?_
              clear hK K
              refine w_skip 10 true none rfl rfl rfl (fun K hK => ?_)
              go_simp
              refine hK _ ?_
              clear hK K
              refine w_skip 10 true none rfl rfl rfl (fun K hK => ?_)
              go_simp
              refine hK _ ?_
              clear hK K
              refine w_skip 1 false (some true) rfl rfl rfl (fun K hK => ?_)
              go_simp
              refine hK _ ?_
              clear hK K
              refine w_value rfl (.bool true) (fun u hu => by go_simp) (fun K hK => ?_)
              go_simp
              refine hK _ ?_
              clear hK K
              refine w_assign rfl _ rfl (.bool true) rfl (fun K hK => ?_)
              go_simp
              refine hK _ ?_
              clear hK K
              refine w_nil ?_
              intro u hu
              have HBu : Hid (Below k56.heap.size k56 u) := Below.trans HBk.out (hu.mono HBk.out.size)
              have HTu : Hid (I.tw out (yb, yk, yv, yg) (k + 1) = true) := by show _ = _; rw [HTS.out]; rfl
              clear hu HBk KZ0 KZ1 KY0 KY1
              go_wp2_with fail
              go_roundw
              case rel => exact ⟨k + 1, true, by omega, by go_num, rfl, HTu, HBu⟩
              case measure => simp [intOf]; omega
            | false =>
              refine wg_value (by rfl) (.slice (some ⟨g2, off2, none⟩) m cv) (fun u hu => by go_simp) (fun K hK => ?_)
              go_simp
              refine hK _ ?_
              clear hK K
              refine wg_value (by rfl) (.int .i64 (k : Int)) (fun u hu => by go_simp) (fun K hK => ?_)
              go_simp
              refine hK _ ?_
              clear hK K
              refine wg_value (by rfl) (.pointer (some ⟨g2, off2 + 4 * k, none⟩)) (fun u hu => by have hc := index_iw g2 off2 m cv k hkm u; go_simp) (fun K hK => ?_)
              go_simp
              refine hK _ ?_
              clear hK K
              refine wg_value (by rfl) (.pointer (some ⟨g2, off2 + 4 * k, none⟩)) (fun u hu => by go_simp) (fun K hK => ?_)
              go_simp
              refine hK _ ?_
              clear hK K
              refine wg_value (by rfl) (.string zb) (fun u hu => by have hc := KZ0.out u hu; go_simp) (fun K hK => ?_)
              go_simp
              refine hK _ ?_
              clear hK K
              refine wg_value (by rfl) (.pointer (some ⟨k54.heap.size, 0, none⟩)) (fun u hu => by go_simp) (fun K hK => ?_)
              go_simp
              refine hK _ ?_
              clear hK K
              refine wg_value (by rfl) (.string yb) (fun u hu => by have hc := KY0.out u hu; go_simp) (fun K hK => ?_)
              go_simp
              refine hK _ ?_
              clear hK K
              refine wg_value (by rfl) (.bool e1) (fun u hu => by have hs := Q1.out; go_simp) (fun K hK => ?_)
              go_simp
              refine hK _ ?_
              clear hK K
              refine wg_value (by rfl) (.bool e1) (fun u hu => by go_simp) (fun K hK => ?_)
              go_simp
              refine hK _ ?_
              clear hK K
              cases e1 with
              | false =>
                refine w_skip 10 true (some false) rfl rfl rfl (fun K hK => ?_)
                go_simp
                refine hK _ ?_
                clear hK K
                refine w_skip 10 true (some false) rfl rfl rfl (fun K hK => ?_)
                go_simp
                refine hK _ ?_
                clear hK K
                refine w_skip 10 true (some false) rfl rfl rfl (fun K hK => ?_)
                go_simp
                refine hK _ ?_
                clear hK K
                refine w_skip 10 true (some false) rfl rfl rfl (fun K hK => ?_)
                go_simp
                refine hK _ ?_
                clear hK K
                refine w_skip 10 true (some false) rfl rfl rfl (fun K hK => ?_)
                go_simp
                refine hK _ ?_
                clear hK K
                refine w_skip 10 true (some false) rfl rfl rfl (fun K hK => ?_)
                go_simp
                refine hK _ ?_
                clear hK K
                refine w_skip 10 true (some false) rfl rfl rfl (fun K hK => ?_)
                go_simp
                refine hK _ ?_
                clear hK K
                refine w_skip 10 true (some false) rfl rfl rfl (fun K hK => ?_)
                go_simp
                refine hK _ ?_
                clear hK K
                refine wg_value (by rfl) (.bool false) (fun u hu => by go_simp) (fun K hK => ?_)
                go_simp
                refine hK _ ?_
                clear hK K
                refine w_value rfl (.bool false) (fun u hu => by go_simp) (fun K hK => ?_)
                go_simp
                refine hK _ ?_
                clear hK K
                refine w_assign rfl _ rfl (.bool false) rfl (fun K hK => ?_)
                go_simp
                refine hK _ ?_
                clear hK K
                refine w_nil ?_
                intro u hu
                have HBu : Hid (Below k56.heap.size k56 u) := Below.trans HBk.out (hu.mono HBk.out.size)
                have HTu : Hid (I.tw out (yb, yk, yv, yg) (k + 1) = false) := by show _ = _; rw [HTS.out]; rfl
                clear hu HBk KZ0 KZ1 KY0 KY1
                go_wp2_with fail
                go_roundw
                case rel => exact ⟨k + 1, false, by omega, by go_num, rfl, HTu, HBu⟩
                case measure => simp [intOf]; omega
              | true =>
                refine wg_value (by rfl) (.slice (some ⟨g2, off2, none⟩) m cv) (fun u hu => by go_simp) (fun K hK => ?_)
                go_simp
                refine hK _ ?_
                clear hK K
                refine wg_value (by rfl) (.int .i64 (k : Int)) (fun u hu => by go_simp) (fun K hK => ?_)
                go_simp
                refine hK _ ?_
                clear hK K
                refine wg_value (by rfl) (.pointer (some ⟨g2, off2 + 4 * k, none⟩)) (fun u hu => by have hc := index_iw g2 off2 m cv k hkm u; go_simp) (fun K hK => ?_)
                go_simp
                refine hK _ ?_
                clear hK K
                refine wg_value (by rfl) (.pointer (some ⟨g2, off2 + 4 * k + 1, none⟩)) (fun u hu => by go_simp) (fun K hK => ?_)
                go_simp
                refine hK _ ?_
                clear hK K
                refine wg_value (by rfl) (.string zk) (fun u hu => by have hc := KZ1.out u hu; go_simp) (fun K hK => ?_)
                go_simp
                refine hK _ ?_
                clear hK K
                refine wg_value (by rfl) (.pointer (some ⟨k54.heap.size, 1, none⟩)) (fun u hu => by go_simp) (fun K hK => ?_)
                go_simp
                refine hK _ ?_
                clear hK K
                refine wg_value (by rfl) (.string yk) (fun u hu => by have hc := KY1.out u hu; go_simp) (fun K hK => ?_)
                go_simp
                refine hK _ ?_
                clear hK K
                refine wg_value (by rfl) (.bool e2) (fun u hu => by have hs := Q2.out; go_simp) (fun K hK => ?_)
                go_simp
                refine hK _ ?_
                clear hK K
                refine wg_value (by rfl) (.bool e2) (fun u hu => by go_simp) (fun K hK => ?_)
                go_simp
                refine hK _ ?_
                clear hK K
                refine w_value rfl (.bool e2) (fun u hu => by go_simp) (fun K hK => ?_)
                go_simp
                refine hK _ ?_
                clear hK K
                refine w_assign rfl _ rfl (.bool e2) rfl (fun K hK => ?_)
                go_simp
                refine hK _ ?_
                clear hK K
                refine w_nil ?_
                intro u hu
                have HBu : Hid (Below k56.heap.size k56 u) := Below.trans HBk.out (hu.mono HBk.out.size)
                have HTu : Hid (I.tw out (yb, yk, yv, yg) (k + 1) = e2) := by show _ = _; rw [HTS.out]; rfl
                clear hu HBk KZ0 KZ1 KY0 KY1
                go_wp2_with fail
                go_roundw
                case rel => exact ⟨k + 1, e2, by omega, by go_num, rfl, HTu, HBu⟩
                case measure => simp [intOf]; omega
          · obtain rfl : k = m := by omega
            rw [HT.out] at HST
            have HY90 : Hid (Blk wr (k54.heap.size) (wc y)) := Blk.below HY56.out HBk.out LY56.out
            have LY90 : Hid (k54.heap.size < wr.heap.size) := Nat.lt_of_lt_of_le LY56.out HBk.out.size
            have XV90 := Lib.hid (OW.below XV56.out HBk.out)
            have W90 : Hid (Below w.heap.size w wr) := Below.trans W56.out (HBk.out.mono W56.out.size)
            clear HBk
            cases tv with
            | false =>
              have hlen : out.length < 1000000 := by rw [HM.out]; omega
              go_wp2_with (first | refine blk_load rfl 23 _ rfl (k54.heap.size) rfl (wc y) HY90.out _ Try.underlying23 rfl Try.size_w ?_ | refine build_iw rfl _ rfl y rfl ?_)
              intro k95 A95 B95 Z95
              have XV95 := Lib.hid (OW.below XV90.out B95)
              have W95 : Hid (Below w.heap.size w k95) := Below.trans W90.out (B95.mono W90.out.size)
              have hz5 : w.heap.size ≤ k95.heap.size := W95.out.size
              clear B95 Z95 XV90 W90 HY90 LY90
              go_wp2_with (at_builtin; refine append_gen (t := 23) Try.underlying41 Try.info_iw _ rfl _ _ rfl w.heap.size _ _ rfl XV95.out wr.heap.size rfl y A95 ?c2 ?c3 ?_)
              case c2 => exact hlen
              case c3 => omega
              intro v' k96 ho hb hbs
              have XV96 : Hid (OW 23 k96 w.heap.size v' (out ++ [y])) := ho
              have W96 : Hid (Below w.heap.size w k96) := Below.trans W95.out hb
              have HL96 : Hid ((out ++ [y]).length ≤ 10) := by show _ ≤ _; rw [List.length_append, HM.out]; simp; omega
              simp only [Bool.not_true, Bool.not_false, Bool.or_true, if_true] at HST
              clear ho hb hbs A95 XV95 W95
              go_wp2_with fail
              go_roundw
              case rel => exact ⟨j + 1, out ++ [y], by omega, by go_num, HST, HL96, XV96, W96⟩
              case measure => simp [intOf]; omega
            | true =>
              simp only [Bool.not_true, Bool.or_false, Bool.false_eq_true, if_false] at HST
              have HL96 : Hid (out.length ≤ 10) := by show _ ≤ _; rw [HM.out]; exact HLj.out
              go_wp2_with fail
              go_roundw
              case rel => exact ⟨j + 1, out, by omega, by go_num, HST, HL96, XV90, W90⟩
              case measure => simp [intOf]; omega
      · have imm : decide ((m : Int) < (most : Int)) = false := by simp; omega
        have jmm : ¬ (m : Int) < (most : Int) := by omega
        obtain rfl : out = R := by
          rw [← HRj.out, I.drop_step L j (by rw [HN.out]; exact hlt), I.wrs, HM.out, if_neg hmm]
        go_wp2_with fail
        go_ret
        exact ⟨_, rfl, XV50.out, W50.out⟩
    · obtain rfl : j = n := by omega
      obtain rfl : out = R := by
        rw [← HRj.out, List.drop_eq_nil_of_le (by rw [HN.out]; exact Nat.le_refl _)]
        rfl
      go_wp2_with fail
      go_ret
      exact ⟨_, rfl, XV50.out, W50.out⟩
end Go.Proofs.Ytkfcbihofipcbaa.It
