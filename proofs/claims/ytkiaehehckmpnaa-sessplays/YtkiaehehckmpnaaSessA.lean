/- sess: its small functions: which number is a session's, New, find, what tells of a key, where it stands, own, Clone. -/
import Derived.Test.YtkiaehehckmpnaaSessMem

namespace Go.Proofs.Ytkiaehehckmpnaa.Zm

open Go.RowKit Go.Proofs.Ytkiaehehckmpnaa.Vc Go.Proofs.Ytkiaehehckmpnaa.Sp Go.Proofs.Ytkiaehehckmpnaa.Rw Go.Proofs.Ytkiaehehckmpnaa.Se Go.Proofs.Ytkiaehehckmpnaa.It Go.Proofs.Ytkiaehehckmpnaa.Z

set_option linter.unusedVariables false

set_option linter.unusedSimpArgs false

set_option maxRecDepth 100000

theorem getD_some {α : Type} {L : List α} {i : Nat} (h : i < L.length) (d : α) : L[i]? = some (L.getD i d) := by
  rw [List.getD_eq_getElem?_getD, List.getElem?_eq_getElem h]; rfl
theorem sknown_any (id : Int) (w : World) :
    Calls Try.prog 42 #[.int .i64 id] w fun e w' => e = .returned (.bool (known id)) ∧ w' = w := by
  by_cases h1 : 1 ≤ id
  · by_cases h2 : id ≤ 8
    · have HK : Hid (known id = true) := (known_iff id).2 ⟨h1, h2⟩
      rw [HK.out]
      go_enter Try.func42, Try.ntmps42
      go_wp2
      go_ret
      exact ⟨rfl, rfl⟩
    · have HK : Hid (known id = false) := by show _ = _; simp [known]; omega
      have h' : decide (id ≤ 8) = false := by simp; omega
      rw [HK.out]
      go_enter Try.func42, Try.ntmps42
      go_wp2
      go_ret
      exact ⟨rfl, rfl⟩
  · have HK : Hid (known id = false) := by show _ = _; simp [known]; omega
    have h' : decide (1 ≤ id) = false := by simp; omega
    rw [HK.out]
    go_enter Try.func42, Try.ntmps42
    go_wp2
    go_ret
    exact ⟨rfl, rfl⟩
theorem is_any (id : Int) (w : World) :
    Calls Try.prog 45 #[.int .i64 id] w fun e w' => e = .returned (.bool (known id)) ∧ w' = w := by
  by_cases h1 : 1 ≤ id
  · by_cases h2 : id ≤ 8
    · have HK : Hid (known id = true) := (known_iff id).2 ⟨h1, h2⟩
      rw [HK.out]
      go_enter Try.func45, Try.ntmps45
      go_wp2
      go_ret
      exact ⟨rfl, rfl⟩
    · have HK : Hid (known id = false) := by show _ = _; simp [known]; omega
      have h' : decide (id ≤ 8) = false := by simp; omega
      rw [HK.out]
      go_enter Try.func45, Try.ntmps45
      go_wp2
      go_ret
      exact ⟨rfl, rfl⟩
  · have HK : Hid (known id = false) := by show _ = _; simp [known]; omega
    have h' : decide (1 ≤ id) = false := by simp; omega
    rw [HK.out]
    go_enter Try.func45, Try.ntmps45
    go_wp2
    go_ret
    exact ⟨rfl, rfl⟩
theorem Try.elem_tab : Try.prog.elem 93 = 92 := by kernel_rfl
theorem Try.len_tab : Try.prog.arrayLen 93 = 8 := by kernel_rfl
theorem index_tab (b i : Nat) (hi : i < 8) (w : World) : (Instr.indexAt 93 (.pointer (some ⟨b, 0, none⟩)) (.int .i64 (i : Int))).run Try.prog w = .ok (.pointer (some ⟨b, 10 * i, none⟩)) w := by
  rw [run_indexAt_array w _ _ _ _ (by rw [Try.elem_tab, Try.len_tab]; exact Try.underlying93), Try.elem_tab, Try.len_tab, if_pos ⟨by omega, by omega⟩, Try.sizeOf92]
  rw [Result.andThen_ok, Int.toNat_natCast, Nat.mul_comm, Addr.add_mid, Nat.zero_add]
def nil_ : Value := .slice none 0 0
theorem Try.info_one : (Try.prog.info? 92).map (fun i => (i.zero, i.size)) = some (some (.agg (sc nos nil_).toArray), (sc nos nil_).length) := by kernel_rfl
theorem Try.size_one : (Try.prog.info? 92).map (·.size) = some 10 := by kernel_rfl
theorem Try.info_tab : (Try.prog.info? 95).map (fun i => (i.zero, i.size)) = some (some (.agg (cT (List.replicate 8 (nos, nil_))).toArray), (cT (List.replicate 8 (nos, nil_))).length) := by kernel_rfl
theorem find_known (b : Nat) (id : Int) (w : World) (h : known id = true) :
    Calls Try.prog 43 #[.pointer (some ⟨b, 0, none⟩), .int .i64 id] w fun e w' => e = .returned (.pointer (some ⟨b, 10 * (id - 1).toNat, none⟩)) ∧ w' = w := by
  have hk := (known_iff id).1 h
  have CK := Lib.hid (fun u => sknown_any id u)
  rw [h] at CK
  obtain ⟨i, HI⟩ : ∃ i, Hid ((id - 1).toNat = i) := ⟨_, rfl⟩
  rw [HI.out]
  have he : id - 1 = (i : Int) := by have := HI.out; omega
  have hw : IntKind.i64.wrap (id - 1) = (i : Int) := by rw [← he, IntKind.wrap_i64]; omega
  have hix : ∀ w, (Instr.indexAt 93 (.pointer (some ⟨b, 0, none⟩)) (.int .i64 (i : Int))).run Try.prog w = .ok (.pointer (some ⟨b, 10 * i, none⟩)) w := fun w => index_tab b i (by have := HI.out; omega) w
  clear h hk he
  go_enter Try.func43, Try.ntmps43
  go_wp2_with fail
  refine (CK.out _).mono ?_; rintro e w1 ⟨rfl, rfl⟩
  go_wp2_with fail
  go_ret
  exact ⟨rfl, rfl⟩
theorem find_none (b : Nat) (id : Int) (w : World) (h : known id = false) :
    Calls Try.prog 43 #[.pointer (some ⟨b, 0, none⟩), .int .i64 id] w fun e w' => e = .returned (.pointer (some ⟨w.heap.size, 0, none⟩)) ∧ Blk w' w.heap.size (sc nos nil_) ∧ Below w.heap.size w w' ∧ w'.heap.size = w.heap.size + 1 := by
  have CK := Lib.hid (fun u => sknown_any id u)
  rw [h] at CK
  clear h
  go_enter Try.func43, Try.ntmps43
  go_wp2_with fail
  refine (CK.out _).mono ?_; rintro e w1 ⟨rfl, rfl⟩
  go_wp2_with (first | refine blk_box rfl 92 _ rfl (sc nos nil_) rfl ?_)
  intro w2 A B Z
  have HA := Lib.hid A
  have HB := Lib.hid B
  have HZ := Lib.hid Z
  clear A B Z
  go_wp2_with fail
  go_ret
  exact ⟨rfl, HA.out, HB.out, HZ.out⟩
theorem new_any (w : World) :
    Calls Try.prog 10 #[] w fun e w' => e = .returned (.pointer (some ⟨w.heap.size, 0, none⟩)) ∧ Blk w' w.heap.size (cT (List.replicate 8 (nos, nil_))) ∧ Below w.heap.size w w' ∧ w'.heap.size = w.heap.size + 1 := by
  go_enter Try.func10, Try.ntmps10
  go_wp2_with (first | refine blk_box rfl 95 _ rfl (cT (List.replicate 8 (nos, nil_))) rfl ?_)
  intro w2 A B Z
  have HA := Lib.hid A
  have HB := Lib.hid B
  have HZ := Lib.hid Z
  clear A B Z
  go_wp2_with fail
  go_ret
  exact ⟨rfl, HA.out, HB.out, HZ.out⟩
theorem box_str {P : Program} {ops : Array Oper} {rest : List Oper} {o : Oper} {a : Act} {w : World} {Q : Exit → Act → World → Prop} (hgd : o.guard = none) (t : TypeId) (x : Operand) (ho : o.op = .box t x) (s : ByteArray) (hx : a.eval x = .string s)
    (h : ∀ w', Blk w' w.heap.size [.string s] → Below w.heap.size w w' → w'.heap.size = w.heap.size + 1 → wpList P ops Q rest (a.put o.dst (.pointer (some ⟨w.heap.size, 0, none⟩))) w') : wpList P ops Q (o :: rest) a w := by
  refine wpList_plain hgd fun K hK => ?_
  unfold Oper.wp execOp
  simp only [ho, hx, Sem.run_bind, Instr.box, newVar, newRow, run_newObj_alloc, Sem.run_pure, Result.andThen_ok]
  exact hK _ _ (h _ (Blk.of_row (vs := [.string s]) (heap_alloc_last w _)) ((Below.refl _ _).alloc (Nat.le_refl _) _) (by show (w.heap.push _).size = _; simp))
theorem named_mk (bk ky : ByteArray) (w : World) :
    Calls Try.prog 51 #[.string bk, .string ky] w fun e w' => e = .returned (.func (.func 65) #[] #[.pointer (some ⟨w.heap.size, 0, none⟩), .pointer (some ⟨w.heap.size + 1, 0, none⟩)]) ∧ Blk w' w.heap.size [.string bk] ∧ Blk w' (w.heap.size + 1) [.string ky] ∧ Below w.heap.size w w' ∧ w'.heap.size = w.heap.size + 2 := by
  have hmf : ∀ (fn : Fn) (first cap : Array Value) (w : World), (Instr.makeFunc fn first cap).run Try.prog w = .ok (.func fn first cap) w := fun _ _ _ _ => rfl
  go_enter Try.func51, Try.ntmps51
  go_wp2_with (first | refine box_str rfl 9 _ rfl bk rfl ?_)
  intro w1 A1 B1 Z1
  have HA1 := Lib.hid A1
  have HB1 := Lib.hid B1
  have HZ1 := Lib.hid Z1
  clear A1 B1 Z1
  go_wp2_with (first | refine box_str rfl 9 _ rfl ky rfl ?_)
  intro w2 A2 B2 Z2
  rw [HZ1.out] at A2 Z2
  have HA2 := Lib.hid A2
  have HB2 := Lib.hid B2
  have HZ2 := Lib.hid Z2
  have HS := HZ1.out
  clear A2 B2 Z2
  go_wp2_with fail
  go_ret
  refine ⟨?_, HA1.out.below HB2.out (by have := HZ1.out; omega), HA2.out, HB1.out.trans (HB2.out.mono (by have := HZ1.out; omega)), HZ2.out⟩
  first | rfl | (rw [HZ1.out]; rfl)
set_option maxHeartbeats 2000000 in
theorem named_is (x : I.Wt) (bk ky : ByteArray) (p q : Nat) (w : World) (hp : Blk w p [.string bk]) (hq : Blk w q [.string ky]) (hpl : p < w.heap.size) (hql : q < w.heap.size) :
    Calls Try.prog 65 #[WV x, .pointer (some ⟨p, 0, none⟩), .pointer (some ⟨q, 0, none⟩)] w fun e w' => e = .returned (.bool (decide (I.key x = (bk, ky)))) ∧ Below w.heap.size w w' := by
  obtain ⟨xb, xk, xv, xg⟩ := x
  have HP := Lib.hid hp
  have HQ := Lib.hid hq
  have HPL := Lib.hid hpl
  have HQL := Lib.hid hql
  clear hp hq hpl hql
  have e1 : decide (I.key (xb, xk, xv, xg) = (bk, ky)) = (decide (xb = bk) && decide (xk = ky)) := by
    unfold I.key; simp [Prod.ext_iff]
  rw [e1]
  by_cases h1 : xb = bk
  · subst h1
    by_cases h2 : xk = ky
    · subst h2
      go_enter Try.func65, Try.ntmps65
      go_wp2_with (first | refine blk_box rfl 41 _ rfl (wc _) rfl ?_)
      intro w1 A1 B1 Z1
      have hc0 := A1.cell 0 _ rfl
      have hc1 := A1.cell 1 _ rfl
      have hp := (HP.out.below B1 HPL.out).cell 0 _ rfl
      have hq := (HQ.out.below B1 HQL.out).cell 0 _ rfl
      have HB1 := Lib.hid B1
      clear A1 B1 Z1
      go_wp2_with fail
      go_ret
      exact ⟨by simp, HB1.out⟩
    · have hne : ¬ xk.toList = ky.toList := fun e => h2 (by rcases xk with ⟨⟨_⟩⟩; rcases ky with ⟨⟨_⟩⟩; simpa using e)
      go_enter Try.func65, Try.ntmps65
      go_wp2_with (first | refine blk_box rfl 41 _ rfl (wc _) rfl ?_)
      intro w1 A1 B1 Z1
      have hc0 := A1.cell 0 _ rfl
      have hc1 := A1.cell 1 _ rfl
      have hp := (HP.out.below B1 HPL.out).cell 0 _ rfl
      have hq := (HQ.out.below B1 HQL.out).cell 0 _ rfl
      have HB1 := Lib.hid B1
      clear A1 B1 Z1
      go_wp2_with fail
      go_ret
      exact ⟨by simp [h2, hne], HB1.out⟩
  · have hne : ¬ xb.toList = bk.toList := fun e => h1 (by rcases xb with ⟨⟨_⟩⟩; rcases bk with ⟨⟨_⟩⟩; simpa using e)
    go_enter Try.func65, Try.ntmps65
    go_wp2_with (first | refine blk_box rfl 41 _ rfl (wc _) rfl ?_)
    intro w1 A1 B1 Z1
    have hc0 := A1.cell 0 _ rfl
    have hc1 := A1.cell 1 _ rfl
    have hp := (HP.out.below B1 HPL.out).cell 0 _ rfl
    have hq := (HQ.out.below B1 HQL.out).cell 0 _ rfl
    have HB1 := Lib.hid B1
    clear A1 B1 Z1
    go_wp2_with fail
    go_ret
    exact ⟨by simp [h1, hne], HB1.out⟩
/-- the first place at which p is -/
def IxW (p : I.Wt → Bool) (L : List (I.Wt)) (r : Int) : Prop :=
  (r = -1 ∧ ∀ x ∈ L, p x = false) ∨ ∃ i : Nat, r = (i : Int) ∧ i < L.length ∧ p (L.getD i wk.none_) = true ∧ ∀ j, j < i → p (L.getD j wk.none_) = false
set_option maxHeartbeats 4000000 in
theorem indexW (c1 c2 : Value) (p : I.Wt → Bool) (v : Value) (L : List (I.Wt)) (w : World) (hL : IsR wk w v L) (hn : L.length < 1000000)
    (hf : ∀ x ∈ L, ∀ u, Below w.heap.size w u → Calls Try.prog 65 #[wk.val x, c1, c2] u fun e u' => e = .returned (.bool (p x)) ∧ Below u.heap.size u u') :
    Calls Try.prog 63 #[v, .func (.func 65) #[] #[c1, c2]] w fun e w' => ∃ r, e = .returned (.int .i64 r) ∧ IxW p L r ∧ Below w.heap.size w w' := by
  obtain ⟨sa, cap, rfl, hca, hma, _⟩ := hL.is
  obtain ⟨n, HN⟩ : ∃ n, Hid (L.length = n) := ⟨_, rfl⟩
  have HL := Lib.hid hL
  have HFN := Lib.hid hf
  rw [HN.out] at HL hn
  rw [HN.out]
  have HB1 : Hid (Below w.heap.size w w) := Below.refl _ _
  have HE0 : Hid (∀ j, j < 0 → p (L.getD j wk.none_) = false) := fun j hj => absurd hj (by omega)
  clear hL hca hma hf
  go_enter Try.func63, Try.ntmps63
  go_wp2_with fail
  go_loopw [8] (fun i wr => ∃ j : Nat, j ≤ n ∧ i = .int .i64 j ∧ Hid (∀ k, k < j → p (L.getD k wk.none_) = false) ∧ Hid (Below w.heap.size w wr)) (fun i _ => n - (intOf i).toNat)
  case atStart => exact ⟨0, by omega, rfl, HE0, HB1⟩
  case round =>
    obtain ⟨j, hj, rfl, HEr, HBr⟩ := hrel
    clear HB1 HE0
    by_cases hlt : j < n
    · have ilt : (j : Int) < (n : Int) := by omega
      obtain ⟨g, off, cap', hv, hg0, hrow⟩ := IsR.at HL.out j (by rw [HN.out]; exact hlt)
      obtain rfl : sa = some ⟨g, off, none⟩ := by injection hv
      clear hv
      have hrow : wr.rangeAt g (off + 4 * j) (wk.cf (L.getD j wk.none_)) := fun k v hv => by rw [HBr.out.cell (p := ⟨g, off + 4 * j + k, none⟩) hg0]; exact hrow k v hv
      have hmem : L.getD j wk.none_ ∈ L := List.mem_of_getElem? (getD_some (by rw [HN.out]; exact hlt) _)
      have CF := Lib.hid (HFN.out _ hmem)
      obtain ⟨x, HX⟩ : ∃ x, Hid (L.getD j wk.none_ = x) := ⟨_, rfl⟩
      rw [HX.out] at hrow CF
      obtain ⟨q, HQ⟩ : ∃ q, Hid (p x = q) := ⟨_, rfl⟩
      rw [HQ.out] at CF
      have HRr := Lib.hid hrow
      have hix : ∀ w, (Instr.indexAt 58 (.slice (some ⟨g, off, none⟩) n cap) (.int .i64 (j : Int))).run Try.prog w = .ok (.pointer (some ⟨g, off + 4 * j, none⟩)) w := fun w => index_iw g off n cap j hlt w
      clear hrow hmem
      go_wp2_with (first | refine wpList_load_mid rfl 41 _ rfl g (off + 4 * j) rfl (wk.cf x) _ HRr.out Try.underlying41 rfl It.Try.size_w ?_)
      refine (CF.out _ HBr.out).mono ?_; rintro e w4 ⟨rfl, hb4⟩
      have HW4 : Hid (Below w.heap.size w w4) := Below.trans HBr.out (hb4.mono HBr.out.size)
      clear hb4 hix CF HRr
      cases q with
      | false =>
        have HE' : Hid (∀ k, k < j + 1 → p (L.getD k wk.none_) = false) := fun k hk => by
          rcases Nat.lt_or_eq_of_le (Nat.le_of_lt_succ hk) with h | h
          · exact HEr.out k h
          · rw [h, HX.out]; exact HQ.out
        go_wp2_with fail
        go_roundw
        case rel => exact ⟨j + 1, by omega, by go_num, HE', HW4⟩
        case measure => simp [intOf]; omega
      | true =>
        go_wp2_with fail
        go_ret
        exact ⟨_, rfl, .inr ⟨j, rfl, by rw [HN.out]; exact hlt, by rw [HX.out]; exact HQ.out, HEr.out⟩, HW4.out⟩
    · obtain rfl : j = n := by omega
      go_wp2_with fail
      go_ret
      refine ⟨_, rfl, .inl ⟨rfl, fun x hx => ?_⟩, HBr.out⟩
      obtain ⟨i, hi, e⟩ := List.getElem_of_mem hx
      have := HEr.out i (by rw [← HN.out]; exact hi)
      rw [List.getD_eq_getElem?_getD, List.getElem?_eq_getElem hi, e] at this
      exact this
section

variable {P : Program} {ops : Array Oper} {rest : List Oper} {o : Oper} {a : Act} {w : World} {Q : Exit → Act → World → Prop}

theorem append_step (hgd : o.guard = none) (s x : Operand) (t t' : TypeId) (ho : o.op = .call { callee := .builtin .append, args := #[s, x], argTypes := #[t, t'] }) {v u : Value} (hs : a.eval s = v) (hx : a.eval x = u) {v' : Value} {w' : World}
    (hr : (Builtin.append_ #[t, t'] o.type #[v, u]).run P w = .ok v' w') (h : wpList P ops Q rest (a.put o.dst v') w') : wpList P ops Q (o :: rest) a w := by
  refine wpList_plain hgd fun K hK => ?_
  unfold Oper.wp execOp
  simp only [ho, resolve, invoke, builtin, Sem.run_bind, Sem.run_pure, Result.andThen_ok, List.map_toArray, List.map_cons, List.map_nil, hs, hx, hr]
  exact hK _ _ h
end

theorem inf_iw : (Try.prog.info? 41).map (fun i => (i.zero, i.size, i.bytes)) = some (some (wk.val wk.none_), 4, 56) := by kernel_rfl
theorem setCell_same (w : World) (b p : Nat) (v : Value) (h : w.cell? ⟨b, p, none⟩ = some v) : w.setCell ⟨b, p, none⟩ v = w := by
  have hb := World.block_lt_of_cell? w _ h
  have e : (w.heap.modify b fun o => match o with | .cells c elem frozen => .cells (if (none : Option Nat).isSome then c else c.setIfInBounds p v) elem frozen | o => o) = w.heap := by
    apply Array.ext
    · simp
    · intro i h1 h2
      rw [Array.getElem_modify]
      split
      · rename_i hi
        subst hi
        have hh : w.heap[b]? = some w.heap[b] := Array.getElem?_eq_getElem h2
        unfold World.cell? at h
        simp only [hh] at h
        cases ho : w.heap[b] with
        | cells c el fr =>
          rw [ho] at h
          simp at h
          simp only [Option.isSome_none, Bool.false_eq_true, if_false]
          congr 1
          apply Array.ext
          · simp
          · intro k k1 k2
            rw [Array.getElem_setIfInBounds]
            split
            · rename_i hk
              subst hk
              rw [Array.getElem?_eq_getElem k2] at h
              exact (Option.some.inj h).symm
            · rfl

        | _ => rfl
      · rfl
  unfold World.setCell
  cases w
  simp only at e ⊢
  congr 1
set_option maxHeartbeats 4000000 in
theorem cloneWt (v : Value) (L : List (I.Wt)) (w : World) (hL : IsR wk w v L) (hn0 : v.ownBlock = none → L = []) (hn : L.length < 100000) :
    Calls Try.prog 54 #[v] w fun e w' => ∃ v', e = .returned v' ∧ OR wk 41 w' w.heap.size v' L ∧ Below w.heap.size w w' := by
  obtain ⟨sa, cap, rfl, hca, hma, hrow⟩ := hL.is
  cases sa with
  | none =>
    have h0 : L = [] := hn0 rfl
    subst h0
    have HO : Hid (OR wk 41 w w.heap.size (.slice none 0 0) []) := OR.nil _ _ _
    have hnil : ∀ w, (binOp .eql 58 (.slice none 0 cap) (.slice none 0 0)).run Try.prog w = .ok (.bool true) w := fun w => Lib.run_eql_slice_nil w 58 41 none 0 cap 0 0 Try.underlying58
    clear hL hrow hn0
    go_enter Try.func54, Try.ntmps54
    go_wp2_with fail
    go_ret
    exact ⟨_, rfl, HO.out, Below.refl _ _⟩
  | some ad =>
    obtain ⟨i0, hi0, hq0, hq1, hq2⟩ : ∃ i0, Try.prog.info? 41 = some i0 ∧ i0.zero = some (wk.val wk.none_) ∧ i0.size = 4 ∧ i0.bytes = 56 := by
      have hinf := inf_iw
      cases hi : Try.prog.info? 41 with
      | none => rw [hi] at hinf; cases hinf
      | some i0 =>
        rw [hi] at hinf
        simp only [Option.map_some, Option.some.injEq, Prod.mk.injEq] at hinf
        exact ⟨i0, rfl, hinf.1, hinf.2.1, hinf.2.2⟩
    have HW : Hid (Below w.heap.size w (w.alloc (.cells #[] 41))) := (Below.refl _ w).alloc (Nat.le_refl _) _
    have hcells : ∀ j u, (wk.cells L)[j]? = some u → (w.alloc (.cells #[] 41)).cell? (ad.add j) = some u := by
      by_cases hne : L = []
      · subst hne; intro j u hu; simp [Kd.cells] at hu
      · obtain ⟨b, off, ha, hlt, hW⟩ := hrow hne
        obtain rfl := Option.some.inj ha
        exact cells_row (hW.below HW.out hlt)
    have hown : (w.alloc (.cells #[] 41)).ownsRow w.heap.size 41 4 (.slice (some ⟨w.heap.size, 0, none⟩) 0 0) 0 [] := World.ownsRow_made w #[] 0 (Nat.le_refl _) (Nat.zero_le _) rfl
    obtain ⟨v', w', hr, ho, hg, _⟩ := run_append_own (P := Try.prog) (w.alloc (.cells #[] 41)) w.heap.size 58 58 41 i0 _ 4 56 Try.underlying58 hi0 hq0 hq1 hq2 rfl (by decide) _ 0 [] hown ad L.length cap (wk.cells L) (cells_len L) hcells (cells_one L) (by unfold maxLen; omega) (by omega) (by simp)
    rw [Nat.zero_add, List.nil_append] at ho
    have HO : Hid (OR wk 41 w' w.heap.size v' L) := ⟨ho⟩
    have HG : Hid (Below w.heap.size w w') := HW.out.grown hg (by simp) (fun k hk => (World.ownsRow.lt hown k hk).1)
    have HR := Lib.hid hr
    clear hr ho hg hcells hown hrow hL hi0 hq0 hq1 hq2 hn0
    generalize L.length = n at *
    have hnil : ∀ w, (binOp .eql 58 (.slice (some ad) n cap) (.slice none 0 0)).run Try.prog w = .ok (.bool false) w := fun w => Lib.run_eql_slice_nil w 58 41 (some ad) n cap 0 0 Try.underlying58
    go_enter Try.func54, Try.ntmps54
    go_wp2_with (at_builtin; refine append_step rfl _ _ _ _ rfl rfl rfl HR.out ?_)
    go_ret
    exact ⟨_, rfl, HO.out, HG.out⟩
theorem fld (w : World) (b : Nat) (x : I.Wt) (h : Blk w b (wc x)) : w.cell? ⟨b, 0, none⟩ = some (.string x.1) ∧ w.cell? ⟨b, 1, none⟩ = some (.string x.2.1) ∧ w.cell? ⟨b, 2, none⟩ = some (.string x.2.2.1) ∧ w.frozen? ⟨b, 0, none⟩ = false ∧ w.frozen? ⟨b, 1, none⟩ = false ∧ w.frozen? ⟨b, 2, none⟩ = false :=
  ⟨h.cell 0 _ rfl, h.cell 1 _ rfl, h.cell 2 _ rfl, h.free 0 (by simp [wc]), h.free 1 (by simp [wc]), h.free 2 (by simp [wc])⟩
set_option maxHeartbeats 4000000 in
theorem sown_any (x : I.Wt) (w : World) (hr : I.right x = true) :
    Calls Try.prog 50 #[WV x] w fun e w' => e = .returned (WV x) ∧ Below w.heap.size w w' := by
  obtain ⟨-, h1, -, h2, h3, -⟩ := I.right_some hr
  clear hr
  have C1 := Lib.hid (fun u => Mc.clone_any x.1 u (by omega))
  have C2 := Lib.hid (fun u => Mc.clone_any x.2.1 u (by omega))
  have C3 := Lib.hid (fun u => Mc.clone_any x.2.2.1 u (by omega))
  clear h1 h2 h3
  go_enter Try.func50, Try.ntmps50
  go_wp2_with (first | refine blk_box rfl 41 _ rfl (wc x) rfl ?_)
  intro w1 A1 B1 Z1
  have HA1 := Lib.hid A1
  have HB1 := Lib.hid B1
  have HZ1 := Lib.hid Z1
  clear A1 B1 Z1
  go_wp2_with (first | refine blk_alloc rfl 41 (wc I.none_) rfl It.Try.info_iw2 ?_)
  intro w2 A2 B2 Z2
  rw [HZ1.out] at A2 Z2
  have HA2 : Hid (Blk w2 (w.heap.size + 1) (wc I.none_)) := A2
  have HX2 : Hid (Blk w2 w.heap.size (wc x)) := HA1.out.below B2 (by have := HZ1.out; omega)
  have HB2 : Hid (Below w.heap.size w w2) := HB1.out.trans (B2.mono (by have := HZ1.out; omega))
  have HZ2 := Lib.hid Z2
  have hz1 := HZ1.out
  clear A2 B2 Z2 HA1 HB1
  have F0 := Lib.hid (fld _ _ _ HX2.out)
  have c0 := F0.out.1
  go_wp2_with fail
  refine (C1.out _).mono ?_; rintro e w3 ⟨rfl, hb⟩
  have HX3 : Hid (Blk w3 w.heap.size (wc x)) := HX2.out.below hb (by have := HZ2.out; omega)
  have HA3 : Hid (Blk w3 (w.heap.size + 1) (wc I.none_)) := HA2.out.below hb (by have := HZ2.out; omega)
  have HB3 : Hid (Below w.heap.size w w3) := HB2.out.trans (hb.mono (by have := HZ2.out; omega))
  have HZ3 : Hid (w.heap.size + 2 ≤ w3.heap.size) := by show _ ≤ _; have h8 := hb.size; have h9 := HZ2.out; omega
  clear hb c0 F0
  have G0 := Lib.hid (fld _ _ _ HX3.out)
  have d0 := G0.out.1
  have f0 := G0.out.2.2.2.1
  have s0 : w3.setCell ⟨w.heap.size, 0, none⟩ (.string x.1) = w3 := setCell_same _ _ _ _ d0
  have F1 := Lib.hid (fld _ _ _ HX3.out)
  have c1 := F1.out.2.1
  go_wp2_with fail
  refine (C2.out _).mono ?_; rintro e w4 ⟨rfl, hb⟩
  have HX4 : Hid (Blk w4 w.heap.size (wc x)) := HX3.out.below hb (by have := HZ3.out; omega)
  have HA4 : Hid (Blk w4 (w.heap.size + 1) (wc I.none_)) := HA3.out.below hb (by have := HZ3.out; omega)
  have HB4 : Hid (Below w.heap.size w w4) := HB3.out.trans (hb.mono (by have := HZ3.out; omega))
  have HZ4 : Hid (w.heap.size + 2 ≤ w4.heap.size) := by show _ ≤ _; have h8 := hb.size; have h9 := HZ3.out; omega
  clear hb c1 F1
  have G1 := Lib.hid (fld _ _ _ HX4.out)
  have d1 := G1.out.2.1
  have f1 := G1.out.2.2.2.2.1
  have s1 : w4.setCell ⟨w.heap.size, 1, none⟩ (.string x.2.1) = w4 := setCell_same _ _ _ _ d1
  have F2 := Lib.hid (fld _ _ _ HX4.out)
  have c2 := F2.out.2.2.1
  go_wp2_with fail
  refine (C3.out _).mono ?_; rintro e w5 ⟨rfl, hb⟩
  have HX5 : Hid (Blk w5 w.heap.size (wc x)) := HX4.out.below hb (by have := HZ4.out; omega)
  have HA5 : Hid (Blk w5 (w.heap.size + 1) (wc I.none_)) := HA4.out.below hb (by have := HZ4.out; omega)
  have HB5 : Hid (Below w.heap.size w w5) := HB4.out.trans (hb.mono (by have := HZ4.out; omega))
  have HZ5 : Hid (w.heap.size + 2 ≤ w5.heap.size) := by show _ ≤ _; have h8 := hb.size; have h9 := HZ4.out; omega
  clear hb c2 F2
  have G2 := Lib.hid (fld _ _ _ HX5.out)
  have d2 := G2.out.2.2.1
  have f2 := G2.out.2.2.2.2.2
  have s2 : w5.setCell ⟨w.heap.size, 2, none⟩ (.string x.2.2.1) = w5 := setCell_same _ _ _ _ d2
  go_wp2_with (first | refine blk_load rfl 41 _ rfl w.heap.size rfl (wc x) HX5.out _ Try.underlying41 rfl It.Try.size_w ?_ | refine blk_store rfl 41 _ _ rfl (w.heap.size + 1) rfl (wc x) rfl (wc I.none_) HA5.out rfl It.Try.size_w (It.one_wc x) ?_)
  intro w6 A6 U6
  have HA6 := Lib.hid A6
  have HB6 : Hid (Below w.heap.size w w6) := HB5.out.trans (U6.below (by omega))
  clear A6 U6
  go_wp2_with fail
  refine bodyPost_ret (v := WV x) ?_ rfl ⟨rfl, HB6.out⟩
  exact res_blk1 (t := 41) Try.results50 _ (w.heap.size + 1) rfl (wc x) HA6.out _ Try.underlying41 rfl It.Try.size_w
end Go.Proofs.Ytkiaehehckmpnaa.Zm
