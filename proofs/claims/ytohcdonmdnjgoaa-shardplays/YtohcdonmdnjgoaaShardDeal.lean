/- A whole deal at a shard: what the laws' loops need of it. -/
import Derived.Test.YtohcdonmdnjgoaaFramePutT

import Derived.Test.YtohcdonmdnjgoaaShardEx

import Derived.Test.YtohcdonmdnjgoaaWtOf

namespace Go.Proofs.Ytohcdonmdnjgoaa.Sd

open Go.RowKit Go.Proofs.Ytohcdonmdnjgoaa.Vc Go.Proofs.Ytohcdonmdnjgoaa.Sp Go.Proofs.Ytohcdonmdnjgoaa.Rw Go.Proofs.Ytohcdonmdnjgoaa.Ch Go.Proofs.Ytohcdonmdnjgoaa.Se Go.Proofs.Ytohcdonmdnjgoaa.It Go.Proofs.Ytohcdonmdnjgoaa.Mk

set_option linter.unusedVariables false

set_option linter.unusedSimpArgs false

set_option maxRecDepth 100000

theorem neq_v (a b : List Nat) (ha : a.length = 4) (hb : b.length = 4) (w : World) :
    (binOp .neq 33 (AV .u64 a) (AV .u64 b)).run Try.prog w = .ok (.bool (!decide (a = b))) w := by
  have h := eq_v a b ha hb w
  have e : binOp .neq 33 (AV .u64 a) (AV .u64 b) = (do pure (.bool (!(← Op.equalIn 10000 33 (AV .u64 a) (AV .u64 b))))) := rfl
  rw [e]
  simp only [Sem.run_bind, h, Result.andThen_ok, Sem.run_pure]
theorem guard_nv (x y : Operand) (l m : List Nat) (w : World) : (eqGuard .neq 33 x y (AV .u64 l) (AV .u64 m)).run Try.prog w = .ok () w := by
  unfold AV
  simp [eqGuard, guardType_v]
theorem Try.elem_dl : Try.prog.elem 85 = 40 := by kernel_rfl
theorem Try.size_dl : (Try.prog.info? 40).map (·.size) = some 8 := by kernel_rfl
theorem Try.info_dl : (Try.prog.info? 40).map (fun i => (i.zero, i.size)) = some (some (.agg [Value.int .u64 0, .int .u64 0, .int .u64 0, .int .u64 0, .int .i64 0, .bool false, .slice none 0 0, .bool false].toArray), 8) := by kernel_rfl
theorem Try.info_vz : (Try.prog.info? 33).map (fun i => (i.zero, i.size)) = some (some (.agg [Value.int .u64 0, .int .u64 0, .int .u64 0, .int .u64 0].toArray), 4) := by kernel_rfl
theorem Try.info_tz : (Try.prog.info? 51).map (fun i => (i.zero, i.size)) = some (some (.agg [Value.int .u64 0, .int .u64 0, .int .u64 0, .int .u64 0, .int .i64 0, .slice none 0 0].toArray), 6) := by kernel_rfl
theorem index_dl (b o n cap j : Nat) (hj : j < n) (w : World) : (Instr.indexAt 85 (.slice (some ⟨b, o, none⟩) n cap) (.int .i64 (j : Int))).run Try.prog w = .ok (.pointer (some ⟨b, o + 8 * j, none⟩)) w := by
  rw [run_indexAt_slice w _ _ _ _ _ _ (by rw [Try.elem_dl]; exact Try.underlying85), Try.elem_dl]
  rw [if_pos ⟨by omega, by omega⟩, Try.sizeOf40]
  have e : (⟨b, o, none⟩ : Addr).add ((j : Int).toNat * 8) = ⟨b, o + 8 * j, none⟩ := by
    rw [Int.toNat_natCast, Nat.mul_comm]
    unfold Addr.add
    split <;> simp_all
  simp
  rw [Int.toNat_natCast] at e
  exact e
def dlS (x : Dl) : C.St := T.mark x.l x.d true
def dlW (x : Dl) : List I.Wt := I.dealW true x.L
theorem dl_whole {w : World} {x : Dl} (hx : DlOk w x) : I.whole (dlS x).1 (dlS x).2 (dlW x) = true := I.dealW_whole (l := x.l) hx.v.len x.d true x.L
theorem dlS_ok {w : World} {x : Dl} (hx : DlOk w x) : V.Ok (dlS x).1 := T.mark_ok hx.v x.d true
theorem dlS_right {w : World} {x : Dl} (hx : DlOk w x) : C.right (dlS x) = true := (I.whole_some (dl_whole hx)).1
theorem dlW_len {w : World} {x : Dl} (hx : DlOk w x) : 1 ≤ (dlW x).length ∧ (dlW x).length ≤ 8 := ⟨(I.whole_some (dl_whole hx)).2.1, (I.whole_some (dl_whole hx)).2.2.1⟩
theorem dlW_all {w : World} {x : Dl} (hx : DlOk w x) : (dlW x).all I.right = true := by
  rw [List.all_eq_true]
  intro y hy
  obtain ⟨j, hj, rfl⟩ := List.mem_iff_getElem.1 hy
  have := I.okTo_right (I.whole_some (dl_whole hx)).2.2.2 j hj
  rwa [List.getD_eq_getElem?_getD, List.getElem?_eq_getElem hj] at this
theorem deal_whole {w0 : World} {x : Dl} (hx : DlOk w0 x) (w : World) (hb : Below w0.heap.size w0 w) :
    Calls Try.prog 11 #[DV x.l x.d x.mo x.v true] w fun e w' => ∃ a cap, e = .returned (TV (dlS x).1 (dlS x).2 (.slice a (dlW x).length cap)) ∧ IsWs w' (.slice a (dlW x).length cap) (dlW x) ∧ Below w.heap.size w w' := by
  refine Calls.mono (deal_any x.l x.d x.mo x.v true x.L w hx.v hx.d (hx.puts.below hb) hx.ok) ?_
  rintro e w' ⟨v', rfl, h1, h2⟩
  obtain ⟨a, cap, rfl, _⟩ := h1.is
  exact ⟨a, cap, rfl, h1, h2⟩
theorem nil_of {w : World} {v : Value} {L : List I.Wt} (h : IsWs w v L) (hn : v.ownBlock = none) : L = [] := by
  obtain ⟨a, cap, rfl, _, _, h3⟩ := h.is
  by_cases hL : L = []
  · exact hL
  · obtain ⟨b, off, rfl, _⟩ := h3 hL
    cases hn
theorem push_ok (s : Nat) (G : Gm) (st : C.St) (v : Value) (L : List I.Wt) (w : World) (h : Sh w s G) (hl : ∀ k ∈ G.bl s, k < w.heap.size) (hs : st.1.length = 4) (hL : IsWs w v L) (hr : C.right st = true) (ha : L.all I.right = true) (hn : L.length < 100000) (hw : G.W.length < G.room) :
    Calls Try.prog 18 #[.pointer (some ⟨s, 0, none⟩), SV st.1 st.2, v] w fun e w' => e = .returned (.bool true) ∧ ∃ v',
      Sh w' s { G with W := G.W ++ [⟨st, v', L⟩] } ∧ Turn (G.bl s) w w' ∧ ∀ k ∈ ({ G with W := G.W ++ [⟨st, v', L⟩] } : Gm).bl s, (k ∈ G.bl s ∨ w.heap.size ≤ k) ∧ k < w'.heap.size := by
  have hc : (C.right st && L.all I.right && decide (G.W.length < G.room)) = true := by rw [hr, ha, decide_eq_true hw]; rfl
  refine Calls.mono (push_any s G st v L w h hl hs hL (nil_of hL) hn) ?_
  rintro e w' ⟨rfl, v', h1, h2, h3⟩
  rw [hc] at h1 h3
  exact ⟨by rw [hc], v', h1, h2, h3⟩
theorem push_no (s : Nat) (G : Gm) (st : C.St) (v : Value) (L : List I.Wt) (w : World) (h : Sh w s G) (hl : ∀ k ∈ G.bl s, k < w.heap.size) (hs : st.1.length = 4) (hL : IsWs w v L) (hn : L.length < 100000) (hw : ¬ G.W.length < G.room) :
    Calls Try.prog 18 #[.pointer (some ⟨s, 0, none⟩), SV st.1 st.2, v] w fun e w' => e = .returned (.bool false) ∧
      Sh w' s G ∧ Turn (G.bl s) w w' ∧ ∀ k ∈ G.bl s, (k ∈ G.bl s ∨ w.heap.size ≤ k) ∧ k < w'.heap.size := by
  have hc : (C.right st && L.all I.right && decide (G.W.length < G.room)) = false := by rw [decide_eq_false hw, Bool.and_false]
  refine Calls.mono (push_any s G st v L w h hl hs hL (nil_of hL) hn) ?_
  rintro e w' ⟨rfl, v', h1, h2, h3⟩
  rw [hc] at h1 h3
  exact ⟨by rw [hc], h1, h2, h3⟩
theorem lim_after {V : List (Nm × List (C.Vr I.Wt))} {m : Nat} (h : lim V m) (st : C.St) (L : List I.Wt) {k : Nat} (hk : m + L.length ≤ k) : lim (upsL V st L) k := fun x hx => Nat.le_trans (lim_upsL h st L x hx) hk
theorem with_len (A : List Nat) (d : Int) (n : Nat) (h : A.length = 4) : (V.with_ A d n).length = 4 := by unfold V.with_; split <;> simp [h]
end Go.Proofs.Ytohcdonmdnjgoaa.Sd
