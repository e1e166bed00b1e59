/- disk: what its blocks' calls do. -/
import Derived.Test.YtjeiggpjbdkpiaaDiskOps

import Derived.Lib.Hide

import Derived.Test.YtjeiggpjbdkpiaaRegionPick

namespace Go.Proofs.Ytjeiggpjbdkpiaa.Dk

open Go.RowKit

set_option linter.unusedVariables false

set_option linter.unusedSimpArgs false

set_option maxRecDepth 100000

section

variable {w : World} {b room syn : Nat} {held : Bool} {tv ev : Value} {T : List UInt8} {E : List Nat}

theorem size_any (h : Raw w b room held tv T syn ev E) :
    Calls Try.prog 14 #[.pointer (some ⟨b, 2, none⟩)] w fun e w' => e = .returned (.int .i64 (T.length : Int)) ∧ w' = w := by
  obtain ⟨a, c, rfl, h1, h2⟩ := h.th.slice
  have c2 := h.blk.cell 2 _ rfl
  clear h
  go_enter Try.func14, Try.ntmps14
  go_wp2_with fail
  go_ret
  exact ⟨rfl, rfl⟩
theorem sync_any (h : Raw w b room held tv T syn ev E) :
    Calls Try.prog 16 #[.pointer (some ⟨b, 2, none⟩)] w fun e w' => e = .returned (.tuple #[]) ∧ Raw w' b room held tv T T.length (.slice none 0 0) [] ∧ Tn b tv ev w tv (.slice none 0 0) w' := by
  have C : Hid (Calls Try.prog 14 #[.pointer (some ⟨b, 2, none⟩)] w fun e w' => e = .returned (.int .i64 (T.length : Int)) ∧ w' = w) := Lib.hid (size_any h)
  have H1 : Hid _ := (h.sets T.length).sete0
  have H2 : Hid _ := (h.tn 3 (.int .i64 (T.length : Int))).trans (h.sets T.length).tne0
  have c3 := h.blk.cell 3 _ rfl
  have c4 := h.blk.cell 4 _ rfl
  have f3 := h.blk.free 3 (by simp)
  have f4 := h.blk.free 4 (by simp)
  clear h
  go_enter Try.func16, Try.ntmps16
  go_wp2_with fail
  refine (C.out).mono ?_; rintro e w1 ⟨rfl, rfl⟩
  go_wp2_with fail
  go_end0
  exact ⟨rfl, H1.out, H2.out⟩
theorem Raw.drew (h : Raw w b room held tv T syn ev E) : Raw w.drew b room held tv T syn ev E := ⟨h.blk.drew, ⟨h.th.own⟩, ⟨h.en.own⟩⟩
theorem add_full (h : Raw w b room held tv T syn ev E) (g m c : Nat) (news : List UInt8) (hm : news.length = m) (hsrc : Src w (some ⟨g, 0, none⟩) c news) (hT : T.length + m ≤ 16777216) (hE : ¬ E.length < 64) (hE2 : E.length ≤ 1000) :
    Calls Try.prog 15 #[.pointer (some ⟨b, 2, none⟩), .slice (some ⟨g, 0, none⟩) m c] w fun e w' => e = .returned (.tuple #[]) ∧ ∃ tv', Raw w' b room held tv' (T ++ news) syn ev E ∧ Tn b tv ev w tv' ev w' := by
  have H : Hid _ := h
  have HS : Hid _ := hsrc
  have HT : Hid _ := hT
  obtain ⟨ae, ce, rfl, h1, h2⟩ := h.en.slice
  have c2 := h.blk.cell 2 _ rfl
  have c4 := h.blk.cell 4 _ rfl
  clear h hsrc hT
  go_enter Try.func15, Try.ntmps15
  go_wp2_with (at_builtin; refine append_ob rfl _ _ rfl (b + 1) tv T rfl H.out.th (some ⟨g, 0, none⟩) m c rfl news hm HS.out ?c1 ?c2 ?_)
  case c1 => have := HT.out; omega
  case c2 => exact H.out.base
  intro tv' w1 ho hg hn
  have hr := H.out.sett hg ho hn
  obtain ⟨N, hN⟩ : ∃ N, (T ++ news).length = N := ⟨_, rfl⟩
  obtain ⟨a', c', e', _, _⟩ := ho.slice
  rw [hN] at e'
  subst e'
  have HNN : Hid ((T ++ news).length = N) := hN
  clear hN
  have HR : Hid _ := hr.1
  have HN : Hid _ := hr.2
  have hB := H.out.grown hg H.out.nb
  have e2 := hB.cell 2 _ rfl
  have e4 := hB.cell 4 _ rfl
  have f2 := hB.free 2 (by simp)
  clear hr ho hg hn hB
  go_wp2_with fail
  go_end0
  exact ⟨rfl, _, HR.out, HN.out⟩
theorem add_some (h : Raw w b room held tv T syn ev E) (g m c : Nat) (news : List UInt8) (hm : news.length = m) (hsrc : Src w (some ⟨g, 0, none⟩) c news) (hT : T.length + m ≤ 16777216) (hE : E.length < 64) :
    Calls Try.prog 15 #[.pointer (some ⟨b, 2, none⟩), .slice (some ⟨g, 0, none⟩) m c] w fun e w' => e = .returned (.tuple #[]) ∧ ∃ tv' ev', Raw w' b room held tv' (T ++ news) syn ev' (E ++ [T.length + m]) ∧ Tn b tv ev w tv' ev' w' := by
  have H : Hid _ := h
  have HS : Hid _ := hsrc
  have HT : Hid _ := hT
  obtain ⟨ae, ce, rfl, h1, h2⟩ := h.en.slice
  have c2 := h.blk.cell 2 _ rfl
  have c4 := h.blk.cell 4 _ rfl
  clear h hsrc hT
  go_enter Try.func15, Try.ntmps15
  go_wp2_with (at_builtin; refine append_ob rfl _ _ rfl (b + 1) tv T rfl H.out.th (some ⟨g, 0, none⟩) m c rfl news hm HS.out ?c1 ?c2 ?_)
  case c1 => have := HT.out; omega
  case c2 => exact H.out.base
  intro tv' w1 ho hg hn
  have hr := H.out.sett hg ho hn
  obtain ⟨N, hN⟩ : ∃ N, (T ++ news).length = N := ⟨_, rfl⟩
  obtain ⟨a', c', e', _, _⟩ := ho.slice
  rw [hN] at e'
  subst e'
  have HNN : Hid ((T ++ news).length = N) := hN
  clear hN
  have HR : Hid _ := hr.1
  have HN : Hid _ := hr.2
  have hB := H.out.grown hg H.out.nb
  have e2 := hB.cell 2 _ rfl
  have e4 := hB.cell 4 _ rfl
  have f2 := hB.free 2 (by simp)
  clear hr ho hg hn hB
  have CS : Hid (Calls Try.prog 14 #[.pointer (some ⟨b, 2, none⟩)] (w1.setCell ⟨b, 2, none⟩ (.slice a' N c')).drew fun e w' => e = .returned (.int .i64 (N : Int)) ∧ w' = (w1.setCell ⟨b, 2, none⟩ (.slice a' N c')).drew) := by
    have := size_any HR.out.drew
    rw [HNN.out] at this
    exact this
  have hz : b < w1.heap.size := by have := HR.out.lt; simpa [World.setCell] using this
  go_wp2_with fail
  have HCE : Hid ((w1.setCell ⟨b, 2, none⟩ (.slice a' N c')).drew.cell? ⟨b, 4, none⟩ = some (.slice ae E.length ce)) := HR.out.drew.blk.cell 4 _ rfl
  have HRE : Hid _ := HR.out.drew
  have HZB : Hid (b + 1 ≤ (w1.setCell ⟨b, 2, none⟩ (.slice a' N c')).drew.heap.size) := HRE.out.base
  refine region_pickC (fun u => u.cell? ⟨b, 4, none⟩ = some (.slice ae E.length ce)) 11 [0, 1, 2, 3, 4, 5] [6, 7, 8, 9, 10, 11] Try.mixed (by kernel_rfl) rfl (by kernel_rfl) HCE.out ?_
  refine p_readC rfl ?_
  refine c_move rfl _ rfl (.pointer (some ⟨b, 2, none⟩)) rfl (fun _ _ _ h => h) (fun K hK => ?_)
  go_simp
  refine hK _ ?_
  clear hK K
  refine c_nil ?_
  refine p_readC rfl ?_
  refine c_move rfl _ rfl (.pointer (some ⟨b, 2, none⟩)) rfl (fun _ _ _ h => h) (fun K hK => ?_)
  go_simp
  refine hK _ ?_
  clear hK K
  refine c_nil ?_
  refine p_readC rfl ?_
  refine c_value rfl (.pointer (some ⟨b, 2, none⟩)) (fun u hu => by go_simp) (fun _ _ _ h => h) (fun K hK => ?_)
  go_simp
  refine hK _ ?_
  clear hK K
  refine c_nil ?_
  refine p_readC rfl ?_
  refine c_value rfl (.pointer (some ⟨b, 4, none⟩)) (fun u hu => by go_simp) (fun _ _ _ h => h) (fun K hK => ?_)
  go_simp
  refine hK _ ?_
  clear hK K
  refine c_nil ?_
  refine p_readC rfl ?_
  refine c_value rfl (.slice ae E.length ce) (fun u hu => by go_simp) (fun _ _ _ h => h) (fun K hK => ?_)
  go_simp
  refine hK _ ?_
  clear hK K
  refine c_nil ?_
  refine p_readC rfl ?_
  refine c_move rfl _ rfl (.pointer (some ⟨b, 2, none⟩)) rfl (fun _ _ _ h => h) (fun K hK => ?_)
  go_simp
  refine hK _ ?_
  clear hK K
  refine c_nil ?_
  refine p_nilC ?_
  refine p_stepC rfl ?_
  go_wp2_with (go_at_call 14; refine (CS.out).mono ?_; rintro e u ⟨rfl, rfl⟩)
  refine And.intro (fun _ => HCE.out) ?_
  refine p_stepC rfl ?_
  go_wp2_with fail
  have HR2 : Hid (Raw ((w1.setCell ⟨b, 2, none⟩ (.slice a' N c')).alloc (Obj.cells #[Value.int .i64 (N : Int)] 3)).drew b room held (.slice a' N c') (T ++ news) syn (.slice ae E.length ce) E) := (HR.out.below ((Below.refl _ _).alloc (Nat.le_refl _) _) (Nat.le_refl _)).drew
  have HN2 : Hid (Tn b tv (.slice ae E.length ce) w (.slice a' N c') (.slice ae E.length ce) ((w1.setCell ⟨b, 2, none⟩ (.slice a' N c')).alloc (Obj.cells #[Value.int .i64 (N : Int)] 3)).drew) :=
    HN.out.trans ⟨rfl, rfl, rfl, by simp, fun k hk _ _ _ => heap_alloc_old _ _ hk, .refl _ _, .refl _ _⟩
  refine And.intro (fun _ => HR2.out.blk.cell 4 _ rfl) ?_
  refine p_stepC rfl ?_
  refine append_on rfl _ _ rfl (b + 1) _ E rfl HR2.out.en w1.heap.size 1 N rfl ?d2 ?d3 ?d4 ?_
  case d2 => simp [go_sem]
  case d3 => omega
  case d4 => exact HR2.out.base
  intro ev' w3 ho hg hn
  have hr := HR2.out.sete hg ho hn
  obtain ⟨M, hM⟩ : ∃ M, (E ++ [N]).length = M := ⟨_, rfl⟩
  obtain ⟨a3, c3, e3, _, _⟩ := ho.slice
  rw [hM] at e3
  subst e3
  have HB3 := HR2.out.grown hg HR2.out.mb
  have HR3 : Hid _ := hr.1
  have HN3 : Hid _ := HN2.out.trans hr.2
  have g4 := HB3.cell 4 _ rfl
  have q4 := HB3.free 4 (by simp)
  clear hr ho hg hn HB3
  refine And.intro (fun _ => g4) ?_
  refine p_stepC rfl ?_
  go_wp2_with fail
  refine And.intro (fun _ => g4) ?_
  refine p_stepC rfl ?_
  go_wp2_with fail
  refine And.intro (fun _ => g4) ?_
  refine p_stepC rfl ?_
  go_wp2_with fail
  refine And.intro (fun h9 => absurd h9 (by decide)) ?_
  refine p_endC ?_
  go_wp2_with fail
  go_end0
  have hNN : N = T.length + m := by rw [← HNN.out, List.length_append, hm]
  rw [← hNN]
  exact ⟨rfl, _, _, HR3.out, HN3.out⟩
theorem cut_any (h : Raw w b room held tv T syn ev E) (n : Nat) (hn : n ≤ T.length) (hT : T.length ≤ 16777216) :
    Calls Try.prog 18 #[.pointer (some ⟨b, 2, none⟩), .int .i64 (n : Int)] w fun e w' => e = .returned (.tuple #[]) ∧ ∃ tv', Raw w' b room held tv' (T.take n) n (.slice none 0 0) [] ∧ Tn b tv ev w tv' (.slice none 0 0) w' := by
  have H : Hid _ := h
  obtain ⟨av, cv, rfl, h1, h2⟩ := h.th.slice
  have c2 := h.blk.cell 2 _ rfl
  obtain ⟨ax, cx, hv, hs⟩ := h.th.src_hi n hn
  have HV : Hid _ := hv
  have HS : Hid _ := hs
  have hnil : Hid (OB w (b + 1) (.slice none 0 0) []) := ⟨World.ownsRow_nil _ _ _ _⟩
  have hcv : n ≤ cv := by omega
  clear h hv hs
  go_enter Try.func18, Try.ntmps18
  go_wp2_with (first | refine slice_hi rfl _ _ rfl av T.length cv n rfl rfl hcv _ HV.out ?_ | (at_builtin; refine append_ob rfl _ _ rfl (b + 1) (.slice none 0 0) [] rfl hnil.out ax n cx rfl (T.take n) ?c1 HS.out ?c2 ?c3 ?_))
  case c1 => rw [List.length_take]; omega
  case c2 => simp; omega
  case c3 => exact H.out.base
  intro tv' w1 ho hg hn'
  have hg' : w.grownBy w1 (Value.slice av T.length cv).ownBlock := ⟨hg.os, hg.tape, hg.output, hg.size, fun k hk _ => hg.block k hk (by simp [Value.ownBlock])⟩
  have hn2 : Nw w (Value.slice av T.length cv) tv' := .inr (by
    rcases hn' with h9 | h9
    · intro g hg9; rw [h9] at hg9; simp [Value.ownBlock] at hg9
    · exact h9)
  have hr := H.out.sett hg' ho hn2
  obtain ⟨a', c', e', _, _⟩ := ho.slice
  have hl : (T.take n).length = n := by rw [List.length_take]; omega
  rw [hl] at e'
  subst e'
  have HB3 := H.out.grown hg' H.out.nb
  have e2 := HB3.cell 2 _ rfl
  have f2 := HB3.free 2 (by simp)
  have HR : Hid _ := hr.1
  have HN : Hid _ := hr.2
  have C : Hid (Calls Try.prog 16 #[.pointer (some ⟨b, 2, none⟩)] (w1.setCell ⟨b, 2, none⟩ (.slice a' n c')) fun e w' => e = .returned (.tuple #[]) ∧ Raw w' b room held (.slice a' n c') (T.take n) n (.slice none 0 0) [] ∧ Tn b (.slice a' n c') ev (w1.setCell ⟨b, 2, none⟩ (.slice a' n c')) (.slice a' n c') (.slice none 0 0) w') := by
    have := sync_any HR.out
    rw [hl] at this
    exact this
  clear hr ho hg hg' hn2 hn' hl HB3
  go_wp2_with fail
  refine (C.out).mono ?_; rintro e w2 ⟨rfl, hr, ht⟩
  have HR2 : Hid _ := hr
  have HN2 : Hid _ := HN.out.trans ht
  clear hr ht
  go_wp2_with fail
  go_end0
  exact ⟨rfl, _, HR2.out, HN2.out⟩
/-- what a crash leaves: behind so many blocks -/
def lostT (kept : Nat) : Nat → Nat → List Nat → List UInt8 → List UInt8
  | _, from_, [], T => zero T from_ T.length
  | i, from_, e :: E, T => lostT kept (i + 1) e E (if kept / 2 ^ i % 2 = 0 then zero T from_ e else T)
/-- ends in order, from so many on, at most so many -/
def Asc : Nat → List Nat → Nat → Prop
  | l, [], n => l ≤ n
  | l, e :: E, n => l ≤ e ∧ Asc e E n
theorem Asc.le : ∀ {l : Nat} {E : List Nat} {n : Nat}, Asc l E n → l ≤ n
  | _, [], _, h => h
  | _, _ :: _, _, h => Nat.le_trans h.1 (Asc.le h.2)
theorem ON.cell {base g c n : Nat} {l : List Nat} (h : ON w base (.slice (some ⟨g, 0, none⟩) n c) l) (hn : l.length = n) (j : Nat) (hj : j < l.length) : w.cell? ⟨g, j, none⟩ = some (.int .i64 ((l.getD j 0 : Nat) : Int)) := by
  subst hn
  rw [World.ownsRow.cellAt h.own j (by omega)]
  simp [ks, hj]
theorem ON.some (h : ON w (b + 1) ev E) (hn : 0 < E.length) : ∃ g c, ev = .slice (some ⟨g, 0, none⟩) E.length c := by
  rcases h.own.2 with ⟨rfl, h0⟩ | ⟨g, cap, cur, rfl, _, _, h1, h2, _⟩
  · omega
  · exact ⟨g, cap, rfl⟩
theorem lostT_cons (kept i fr e : Nat) (E : List Nat) (T : List UInt8) : lostT kept i fr (e :: E) T = lostT kept (i + 1) e E (if kept / 2 ^ i % 2 = 0 then zero T fr e else T) := rfl
theorem lostT_nil (kept i fr : Nat) (T : List UInt8) : lostT kept i fr [] T = zero T fr T.length := rfl
theorem bit_and (kept k : Nat) (hk : kept < 2 ^ 64) : bits .and .u64 ((kept : Int) / 2 ^ k) 1 = ((kept / 2 ^ k % 2 : Nat) : Int) := by
  have h1 : kept / 2 ^ k < 2 ^ 64 := Nat.lt_of_le_of_lt (Nat.div_le_self _ _) hk
  have e : ((kept : Int) / 2 ^ k) = ((kept / 2 ^ k : Nat) : Int) := by simp
  rw [e]
  have h := u64_and_nat (kept / 2 ^ k) 1 (by simpa using h1) (by decide)
  rw [Nat.and_one_is_mod] at h
  exact h
set_option maxHeartbeats 1000000 in
theorem lose_any (h : Raw w b room held tv T syn ev E) (kept : Nat) (hk : kept < 2 ^ 64) (hA : Asc syn E T.length) (hT : T.length ≤ 16777216) (hE : E.length ≤ 64) :
    Calls Try.prog 17 #[.pointer (some ⟨b, 2, none⟩), .int .u64 (kept : Int)] w fun e w' => e = .returned (.tuple #[]) ∧ Raw w' b room held tv (lostT kept 0 syn E T) T.length (.slice none 0 0) [] ∧ Tn b tv ev w tv (.slice none 0 0) w' := by
  have H : Hid _ := h
  have HA : Hid _ := hA
  obtain ⟨LT, HLT⟩ : ∃ n, Hid (T.length = n) := ⟨_, rfl⟩
  rw [HLT.out] at hT HA ⊢
  obtain ⟨LE, HLE⟩ : ∃ n, Hid (E.length = n) := ⟨_, rfl⟩
  rw [HLE.out] at hE
  obtain ⟨av, cv, e1, h1, h2⟩ := h.th.slice
  rw [HLT.out] at e1 h1
  subst e1
  obtain ⟨ae, ce, e2, h3, h4⟩ := h.en.slice
  rw [HLE.out] at e2 h3
  subst e2
  have c3 := h.blk.cell 3 _ rfl
  have c4 := h.blk.cell 4 _ rfl
  clear h hA
  go_enter Try.func17, Try.ntmps17
  go_wp2_with fail
  go_loopw [16, 4] (fun i f wr => ∃ (k fr : Nat) (Tk : List UInt8), k ≤ LE ∧ i = .int .i64 k ∧ f = .int .i64 fr ∧ Hid (Raw wr b room held (.slice av LT cv) Tk syn (.slice ae LE ce) E) ∧ Hid (Tn b (.slice av LT cv) (.slice ae LE ce) w (.slice av LT cv) (.slice ae LE ce) wr) ∧ Hid (lostT kept k fr (E.drop k) Tk = lostT kept 0 syn E T) ∧ Hid (Asc fr (E.drop k) LT) ∧ Hid (Tk.length = LT)) (fun i _ _ => LE - (intOf i).toNat)
  case atStart => exact ⟨0, syn, T, by omega, rfl, rfl, H, .refl _ _ _ _, rfl, HA, HLT⟩
  case round =>
    obtain ⟨k, fr, Tk, hkL, rfl, rfl, HR, HN, HF, HC, HL⟩ := hrel
    by_cases hlt : k < LE
    · obtain ⟨g, c9, e9⟩ := HR.out.en.some (by have := HLE.out; omega)
      rw [HLE.out] at e9
      simp only [Value.slice.injEq] at e9
      obtain ⟨rfl, _, rfl⟩ := e9
      obtain ⟨ek, HEK⟩ : ∃ x, Hid (E.getD k 0 = x) := ⟨_, rfl⟩
      have ce9 := HR.out.en.cell HLE.out k (by have := HLE.out; omega)
      rw [HEK.out] at ce9
      have hdrop : E.drop k = ek :: E.drop (k + 1) := by
        have hkl : k < E.length := by have := HLE.out; omega
        rw [List.drop_eq_getElem_cons hkl]
        congr 1
        rw [← HEK.out, List.getD_eq_getElem?_getD, List.getElem?_eq_getElem hkl]; rfl
      have hF := HF.out
      have hC := HC.out
      rw [hdrop] at hF hC
      have HC2 := Lib.hid hC.2
      have hfe := hC.1
      have hek : ek ≤ LT := hC.2.le
      have c2 := HR.out.blk.cell 2 _ rfl
      rw [lostT_cons] at hF
      clear hdrop hC HF HC
      have hba := bit_and kept k hk
      by_cases hbit : kept / 2 ^ k % 2 = 0
      · rw [if_pos hbit] at hF
        have HF2 := Lib.hid hF
        have hb0 : (bits .and .u64 ((kept : Int) / 2 ^ k) 1 == 0) = true := by rw [hba, hbit]; rfl
        obtain ⟨sv, HSV⟩ : ∃ v, Hid (sliced av fr ek cv 1 = v) := ⟨_, rfl⟩
        clear hF hbit hba
        go_wp2_with (first | refine slice_lh rfl _ _ _ rfl av LT cv fr ek rfl rfl rfl hfe (by omega) _ HSV.out ?_ | refine clear_ob rfl _ rfl (b + 1) av LT cv Tk HR.out.th fr ek HSV.out.symm hfe (by rw [HL.out]; exact hek) ?_)
        intro w3 ho hg
        have hr := HR.out.setT hg ho
        have HR3 := Lib.hid hr.1
        have HN3 := Lib.hid (HN.out.trans hr.2)
        clear hr ho hg
        go_wp2_with fail
        go_roundw
        case rel => exact ⟨k + 1, ek, _, by omega, by go_num, rfl, HR3, HN3, HF2, HC2, by show _ = _; rw [zero_len _ _ _ hfe (by rw [HL.out]; exact hek)]; exact HL.out⟩
        case measure => simp [intOf]; omega
      · rw [if_neg hbit] at hF
        have HF2 := Lib.hid hF
        have hb0 : (bits .and .u64 ((kept : Int) / 2 ^ k) 1 == 0) = false := by
          rw [hba]
          have : kept / 2 ^ k % 2 = 1 := by omega
          rw [this]; rfl
        clear hF hbit hba
        go_wp2_with fail
        go_roundw
        case rel => exact ⟨k + 1, ek, _, by omega, by go_num, rfl, HR, HN, HF2, HC2, HL⟩
        case measure => simp [intOf]; omega
    · obtain rfl : k = LE := by omega
      have hd : E.drop k = [] := List.drop_of_length_le (by rw [HLE.out]; exact Nat.le_refl _)
      have hF := HF.out
      have hC := HC.out
      rw [hd, lostT_nil, HL.out] at hF
      rw [hd] at hC
      have hfl : fr ≤ LT := hC
      have c2 := HR.out.blk.cell 2 _ rfl
      obtain ⟨sv, HSV⟩ : ∃ v, Hid (sliced av fr LT cv 1 = v) := ⟨_, rfl⟩
      have HFF := Lib.hid hF
      clear hd hF hC HF HC
      go_wp2_with (first | refine slice_lo rfl _ _ rfl av LT cv fr rfl rfl hfl _ HSV.out ?_ | refine clear_ob rfl _ rfl (b + 1) av LT cv Tk HR.out.th fr LT HSV.out.symm hfl (by rw [HL.out]; exact Nat.le_refl _) ?_)
      intro w3 ho hg
      have hr := HR.out.setT hg ho
      rw [HFF.out] at hr
      have HR3 := Lib.hid hr.1
      have HN3 := Lib.hid (HN.out.trans hr.2)
      have hlen : (lostT kept 0 syn E T).length = LT := by rw [← HFF.out, zero_len _ _ _ hfl (by rw [HL.out]; exact Nat.le_refl _)]; exact HL.out
      have C : Hid (Calls Try.prog 16 #[.pointer (some ⟨b, 2, none⟩)] w3 fun e w' => e = .returned (.tuple #[]) ∧ Raw w' b room held (.slice av LT cv) (lostT kept 0 syn E T) LT (.slice none 0 0) [] ∧ Tn b (.slice av LT cv) (.slice ae k ce) w3 (.slice av LT cv) (.slice none 0 0) w') := by
        have := sync_any HR3.out
        rw [hlen] at this
        exact this
      clear hr ho hg hlen
      go_wp2_with fail
      refine (C.out).mono ?_; rintro e w2 ⟨rfl, hr, ht⟩
      have HR4 := Lib.hid hr
      have HN4 := Lib.hid (HN3.out.trans ht)
      clear hr ht
      go_wp2_with fail
      go_end0
      exact ⟨rfl, HR4.out, HN4.out⟩
end

end Go.Proofs.Ytjeiggpjbdkpiaa.Dk
