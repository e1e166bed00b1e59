/- disk: what each call of a disk tells, and what is on it behind it. -/
import Derived.Test.YtjeiggpjbdkpiaaDiskObj

namespace Go.Proofs.Ytjeiggpjbdkpiaa.Dk

open Go.RowKit

set_option linter.unusedVariables false

set_option linter.unusedSimpArgs false

set_option maxRecDepth 100000

theorem new_yes (r : Nat) (w : World) (h1 : 1 ≤ r) (h2 : r ≤ 16777216) :
    Calls Try.prog 7 #[.int .i64 (r : Int)] w fun e w' => e = .returned (.tuple #[.pointer (some ⟨w.heap.size, 0, none⟩), .int .i64 0]) ∧ Raw w' w.heap.size r false (.slice none 0 0) [] 0 (.slice none 0 0) [] ∧ Below w.heap.size w w' := by
  go_enter Try.func7, Try.ntmps7
  go_wp2_with (first | refine blk_box rfl 43 _ rfl [.int .i64 (r : Int), .bool false, .slice none 0 0, .int .i64 0, .slice none 0 0] rfl ?_)
  intro w1 hB hb hz
  have HB := Lib.hid hB
  have HW := Lib.hid hb
  clear hB hb
  go_wp2_with fail
  go_ret2
  exact ⟨rfl, ⟨HB.out, ⟨World.ownsRow_nil _ _ _ _⟩, ⟨World.ownsRow_nil _ _ _ _⟩⟩, HW.out⟩
theorem new_no (r : Int) (w : World) (h : r < 1 ∨ 16777216 < r) :
    Calls Try.prog 7 #[.int .i64 r] w fun e w' => e = .returned (.tuple #[.pointer none, .int .i64 1]) ∧ w' = w := by
  go_enter Try.func7, Try.ntmps7
  rcases h with h | h
  · go_wp2_with fail
    go_ret2
    exact ⟨rfl, rfl⟩
  · have h1 : ¬ r < 1 := by omega
    go_wp2_with fail
    go_ret2
    exact ⟨rfl, rfl⟩
section

variable {w : World} {b room syn : Nat} {held : Bool} {tv ev : Value} {T : List UInt8} {E : List Nat}

theorem bytes_any (h : Raw w b room held tv T syn ev E) :
    Calls Try.prog 10 #[.pointer (some ⟨b, 0, none⟩)] w fun e w' => e = .returned (.string (S T)) ∧ w' = w := by
  have hs := h.th.str
  have c2 := h.blk.cell 2 _ rfl
  have hcv : (convert 31 9 tv).run Try.prog w = .ok (.string (S T)) w := hs
  obtain ⟨sk, HSK⟩ : ∃ z, Hid (S T = z) := ⟨_, rfl⟩
  rw [HSK.out] at hcv ⊢
  clear h hs
  go_enter Try.func10, Try.ntmps10
  go_wp2_with fail
  go_ret
  exact ⟨rfl, rfl⟩
theorem synced_any (h : Raw w b room held tv T syn ev E) :
    Calls Try.prog 11 #[.pointer (some ⟨b, 0, none⟩)] w fun e w' => e = .returned (.int .i64 (syn : Int)) ∧ w' = w := by
  have c3 := h.blk.cell 3 _ rfl
  clear h
  go_enter Try.func11, Try.ntmps11
  go_wp2_with fail
  go_ret
  exact ⟨rfl, rfl⟩
theorem syncd_any (h : Raw w b room false tv T syn ev E) :
    Calls Try.prog 9 #[.pointer (some ⟨b, 0, none⟩)] w fun e w' => e = .returned (.tuple #[]) ∧ Raw w' b room false tv T T.length (.slice none 0 0) [] ∧ Tn b tv ev w tv (.slice none 0 0) w' := by
  have c1 := h.blk.cell 1 _ rfl
  have C := Lib.hid (sync_any h)
  clear h
  go_enter Try.func9, Try.ntmps9
  go_wp2_with fail
  refine (C.out).mono ?_; rintro e w1 ⟨rfl, hr, ht⟩
  have HR := Lib.hid hr
  have HT := Lib.hid ht
  clear hr ht
  go_wp2_with fail
  go_end0
  exact ⟨rfl, HR.out, HT.out⟩
theorem crash_any (h : Raw w b room held tv T syn ev E) (kept : Nat) (hk : kept < 2 ^ 64) (hA : Asc syn E T.length) (hT : T.length ≤ 16777216) (hE : E.length ≤ 64) :
    Calls Try.prog 12 #[.pointer (some ⟨b, 0, none⟩), .int .u64 (kept : Int)] w fun e w' => e = .returned (.tuple #[]) ∧ Raw w' b room false tv (lostT kept 0 syn E T) T.length (.slice none 0 0) [] ∧ Tn b tv ev w tv (.slice none 0 0) w' := by
  have C := Lib.hid (lose_any h kept hk hA hT hE)
  clear h hk hA hT hE
  go_enter Try.func12, Try.ntmps12
  go_wp2_with fail
  refine (C.out).mono ?_; rintro e w1 ⟨rfl, hr, ht⟩
  have HR := Lib.hid (hr.seth false)
  have HT := Lib.hid (ht.trans (hr.tn 1 (.bool false)))
  have c1 := hr.blk.cell 1 _ rfl
  have f1 := hr.blk.free 1 (by simp)
  clear hr ht
  go_wp2_with fail
  go_end0
  exact ⟨rfl, HR.out, HT.out⟩
theorem cutd_yes (h : Raw w b room held tv T syn ev E) (n : Nat) (hn : n ≤ T.length) (hT : T.length ≤ 16777216) :
    Calls Try.prog 13 #[.pointer (some ⟨b, 0, none⟩), .int .i64 (n : Int)] w fun e w' => e = .returned (.int .i64 0) ∧ ∃ tv', Raw w' b room false tv' (T.take n) n (.slice none 0 0) [] ∧ Tn b tv ev w tv' (.slice none 0 0) w' := by
  have C := Lib.hid (cut_any h n hn hT)
  have CZ := Lib.hid (size_any h)
  obtain ⟨LT, hLT⟩ : ∃ n, T.length = n := ⟨_, rfl⟩
  rw [hLT] at hn hT CZ
  clear h hLT
  go_enter Try.func13, Try.ntmps13
  go_wp2_with fail
  refine (CZ.out).mono ?_; rintro e w1 ⟨rfl, rfl⟩
  go_wp2_with fail
  refine (C.out).mono ?_; rintro e w1 ⟨rfl, tv', hr, ht⟩
  have HR := Lib.hid (hr.seth false)
  have HT := Lib.hid (ht.trans (hr.tn 1 (.bool false)))
  have c1 := hr.blk.cell 1 _ rfl
  have f1 := hr.blk.free 1 (by simp)
  clear hr ht
  go_wp2_with fail
  go_ret
  exact ⟨rfl, tv', HR.out, HT.out⟩
theorem cutd_no (h : Raw w b room held tv T syn ev E) (n : Int) (hn : n < 0 ∨ (T.length : Int) < n) (hT : T.length ≤ 16777216) :
    Calls Try.prog 13 #[.pointer (some ⟨b, 0, none⟩), .int .i64 n] w fun e w' => e = .returned (.int .i64 1) ∧ w' = w := by
  have CZ := Lib.hid (size_any h)
  obtain ⟨LT, hLT⟩ : ∃ n, T.length = n := ⟨_, rfl⟩
  rw [hLT] at hn hT CZ
  clear h hLT
  go_enter Try.func13, Try.ntmps13
  by_cases h0 : n < 0
  · go_wp2_with fail
    go_ret
    exact ⟨rfl, rfl⟩
  · have h1 : (LT : Int) < n := by omega
    go_wp2_with fail
    refine (CZ.out).mono ?_; rintro e w1 ⟨rfl, rfl⟩
    go_wp2_with fail
    go_ret
    exact ⟨rfl, rfl⟩
/-- where blocks end behind one more -/
def addE (E : List Nat) (n : Nat) : List Nat := if E.length < 64 then E ++ [n] else E
/-- []byte(s) -/
theorem bytes_src (s : ByteArray) (u : World) : ∃ cap u1, (convert 9 31 (.string s)).run Try.prog u = .ok (.slice (some ⟨u.heap.size, 0, none⟩) s.size cap) u1 ∧
    Src u1 (some ⟨u.heap.size, 0, none⟩) cap s.data.toList ∧ Below u.heap.size u u1 := by
  refine ⟨_, _, run_bytes_of_string (P := Try.prog) u 9 31 5 s Try.underlying9 Try.underlying31 Try.underlying5, ⟨.inr ⟨_, rfl, ?_⟩⟩, ?_⟩
  · intro j x hx
    have hj : j < s.data.toList.length := by
      have := (List.getElem?_eq_some_iff.1 hx).1
      rwa [u8s_length] at this
    have hj' : j < s.data.size := by simpa using hj
    rw [Addr.add_mid, Nat.zero_add]
    have := World.cell?_alloc_mark u.drew (bytesRow s (grownCap u s.size 0 5)) 5 ((bytesRow s (grownCap u s.size 0 5)).size, (bytesRow s (grownCap u s.size 0 5)).size + 1) j
    refine Eq.trans this ?_
    rw [bytesRow_at _ _ _ hj', ← hx]
    simp only [u8s, List.getElem?_map, Array.getElem?_toList, Array.getElem?_eq_getElem hj', Option.map_some]
  · exact (Below.refl _ _).drew.alloc (Nat.le_refl _) _
theorem append_yes (h : Raw w b room held tv T syn ev E) (s : ByteArray) (hs : T.length + s.size ≤ room) (hroom : room ≤ 16777216) (hE : E.length ≤ 64) :
    Calls Try.prog 8 #[.pointer (some ⟨b, 0, none⟩), .string s] w fun e w' => e = .returned (.int .i64 0) ∧ ∃ tv' ev', Raw w' b room held tv' (T ++ s.data.toList) syn ev' (addE E (T.length + s.size)) ∧ Tn b tv ev w tv' ev' w' := by
  have H := Lib.hid h
  have HLT := Lib.hid h.lt
  have hc0 := Lib.hid (h.blk.cell 0 _ rfl)
  obtain ⟨LT, hLT⟩ : ∃ n, T.length = n := ⟨_, rfl⟩
  have CZ : Hid (∀ u, Below w.heap.size w u → Calls Try.prog 14 #[.pointer (some ⟨b, 2, none⟩)] u fun e u' => e = .returned (.int .i64 (LT : Int)) ∧ Below w.heap.size w u') := fun u hu => by
    have := size_any (H.out.below hu (Nat.le_refl _))
    rw [hLT] at this
    exact this.mono fun _ _ ⟨he, hw⟩ => ⟨he, by rw [hw]; exact hu⟩
  rw [hLT] at hs
  have HLn := Lib.hid hLT
  have hms : (s.size : Int) ≤ room - LT := by omega
  have hwr : IntKind.i64.wrap ((room : Int) - (LT : Int)) = (room : Int) - (LT : Int) := by
    exact IntWalk.i64_in _ (by omega)
  clear h hLT
  go_enter Try.func8, Try.ntmps8
  go_wp2_with fail
  refine region_w Try.mixed (by kernel_rfl) ?_
  refine w_move rfl _ rfl (.string s) rfl (fun K hK => ?_)
  go_simp
  refine hK _ ?_
  clear hK K
  refine w_value rfl (.int .i64 (s.size : Int)) (fun u hu => by go_simp) (fun K hK => ?_)
  go_simp
  refine hK _ ?_
  clear hK K
  refine w_move rfl _ rfl (.pointer (some ⟨b, 0, none⟩)) rfl (fun K hK => ?_)
  go_simp
  refine hK _ ?_
  clear hK K
  refine w_value rfl (.pointer (some ⟨b, 0, none⟩)) (fun u hu => by go_simp) (fun K hK => ?_)
  go_simp
  refine hK _ ?_
  clear hK K
  refine w_value rfl (.pointer (some ⟨b, 0, none⟩)) (fun u hu => by go_simp) (fun K hK => ?_)
  go_simp
  refine hK _ ?_
  clear hK K
  refine w_value rfl (.int .i64 (room : Int)) (fun u hu => by have hc := keepcell hu HLT.out hc0.out; go_simp) (fun K hK => ?_)
  go_simp
  refine hK _ ?_
  clear hK K
  refine w_move rfl _ rfl (.pointer (some ⟨b, 0, none⟩)) rfl (fun K hK => ?_)
  go_simp
  refine hK _ ?_
  clear hK K
  refine w_value rfl (.pointer (some ⟨b, 0, none⟩)) (fun u hu => by go_simp) (fun K hK => ?_)
  go_simp
  refine hK _ ?_
  clear hK K
  refine w_value rfl (.pointer (some ⟨b, 2, none⟩)) (fun u hu => by go_simp) (fun K hK => ?_)
  go_simp
  refine hK _ ?_
  clear hK K
  refine w_call rfl 14 Try.f14 Try.func14 rfl rfl _ _ rfl _ rfl (.int .i64 (LT : Int)) (by exact CZ.out) (fun K hK => ?_)
  go_simp
  refine hK _ ?_
  clear hK K
  refine w_value rfl (.int .i64 ((room : Int) - (LT : Int))) (fun u hu => by go_simp) (fun K hK => ?_)
  go_simp
  refine hK _ ?_
  clear hK K
  refine w_value rfl (.bool false) (fun u hu => by go_simp) (fun K hK => ?_)
  go_simp
  refine hK _ ?_
  clear hK K
  refine w_nil ?_
  intro u hu
  obtain ⟨cap, u1, hcv, hsrc, hb1⟩ := bytes_src s u
  have HR1 := Lib.hid ((H.out.below hu (Nat.le_refl _)).below hb1 (Nat.le_refl _))
  have HT1 : Hid (Tn b tv ev w tv ev u1) := (⟨hu.os, hu.tape, hu.output, hu.size, fun k hk _ _ _ => hu.block k hk, .refl _ _, .refl _ _⟩ : Tn b tv ev w tv ev u).trans ⟨hb1.os, hb1.tape, hb1.output, hb1.size, fun k hk _ _ _ => hb1.block k hk, .refl _ _, .refl _ _⟩
  have HS1 := Lib.hid hsrc
  have hsl : s.data.toList.length = s.size := len_list s
  have CA : Hid (Calls Try.prog 15 #[.pointer (some ⟨b, 2, none⟩), .slice (some ⟨u.heap.size, 0, none⟩) s.size cap] u1 fun e w' => e = .returned (.tuple #[]) ∧ ∃ tv' ev', Raw w' b room held tv' (T ++ s.data.toList) syn ev' (addE E (T.length + s.size)) ∧ Tn b tv ev u1 tv' ev' w') := by
    unfold addE
    by_cases h64 : E.length < 64
    · rw [if_pos h64]
      exact add_some HR1.out u.heap.size s.size cap s.data.toList hsl HS1.out (by rw [HLn.out]; omega) h64
    · rw [if_neg h64]
      refine (add_full HR1.out u.heap.size s.size cap s.data.toList hsl HS1.out (by rw [HLn.out]; omega) h64 (by omega)).mono ?_
      rintro e w' ⟨he, tv', h8, h9⟩
      exact ⟨he, tv', ev, h8, h9⟩
  clear hsrc hb1 hu hsl
  go_wp2_with fail
  refine (CA.out).mono ?_; rintro e w2 ⟨rfl, tv', ev', hr, ht⟩
  have HR2 := Lib.hid hr
  have HT2 := Lib.hid (HT1.out.trans ht)
  clear hr ht
  go_wp2_with fail
  go_ret
  exact ⟨rfl, tv', ev', HR2.out, HT2.out⟩
theorem append_no (h : Raw w b room held tv T syn ev E) (s : ByteArray) (hs : room < T.length + s.size) (hT : T.length ≤ room) (hroom : room ≤ 16777216) (hm : s.size ≤ maxLen) :
    Calls Try.prog 8 #[.pointer (some ⟨b, 0, none⟩), .string s] w fun e w' => e = .returned (.int .i64 4) ∧ Below w.heap.size w w' := by
  have H := Lib.hid h
  have HLT := Lib.hid h.lt
  have hc0 := Lib.hid (h.blk.cell 0 _ rfl)
  obtain ⟨LT, hLT⟩ : ∃ n, T.length = n := ⟨_, rfl⟩
  have CZ : Hid (∀ u, Below w.heap.size w u → Calls Try.prog 14 #[.pointer (some ⟨b, 2, none⟩)] u fun e u' => e = .returned (.int .i64 (LT : Int)) ∧ Below w.heap.size w u') := fun u hu => by
    have := size_any (H.out.below hu (Nat.le_refl _))
    rw [hLT] at this
    exact this.mono fun _ _ ⟨he, hw⟩ => ⟨he, by rw [hw]; exact hu⟩
  rw [hLT] at hs hT
  have hms : (room : Int) - LT < s.size := by omega
  have hwr : IntKind.i64.wrap ((room : Int) - (LT : Int)) = (room : Int) - (LT : Int) := by
    exact IntWalk.i64_in _ (by omega)
  clear h hLT
  go_enter Try.func8, Try.ntmps8
  go_wp2_with fail
  refine region_w Try.mixed (by kernel_rfl) ?_
  refine w_move rfl _ rfl (.string s) rfl (fun K hK => ?_)
  go_simp
  refine hK _ ?_
  clear hK K
  refine w_value rfl (.int .i64 (s.size : Int)) (fun u hu => by go_simp) (fun K hK => ?_)
  go_simp
  refine hK _ ?_
  clear hK K
  refine w_move rfl _ rfl (.pointer (some ⟨b, 0, none⟩)) rfl (fun K hK => ?_)
  go_simp
  refine hK _ ?_
  clear hK K
  refine w_value rfl (.pointer (some ⟨b, 0, none⟩)) (fun u hu => by go_simp) (fun K hK => ?_)
  go_simp
  refine hK _ ?_
  clear hK K
  refine w_value rfl (.pointer (some ⟨b, 0, none⟩)) (fun u hu => by go_simp) (fun K hK => ?_)
  go_simp
  refine hK _ ?_
  clear hK K
  refine w_value rfl (.int .i64 (room : Int)) (fun u hu => by have hc := keepcell hu HLT.out hc0.out; go_simp) (fun K hK => ?_)
  go_simp
  refine hK _ ?_
  clear hK K
  refine w_move rfl _ rfl (.pointer (some ⟨b, 0, none⟩)) rfl (fun K hK => ?_)
  go_simp
  refine hK _ ?_
  clear hK K
  refine w_value rfl (.pointer (some ⟨b, 0, none⟩)) (fun u hu => by go_simp) (fun K hK => ?_)
  go_simp
  refine hK _ ?_
  clear hK K
  refine w_value rfl (.pointer (some ⟨b, 2, none⟩)) (fun u hu => by go_simp) (fun K hK => ?_)
  go_simp
  refine hK _ ?_
  clear hK K
  refine w_call rfl 14 Try.f14 Try.func14 rfl rfl _ _ rfl _ rfl (.int .i64 (LT : Int)) (by exact CZ.out) (fun K hK => ?_)
  go_simp
  refine hK _ ?_
  clear hK K
  refine w_value rfl (.int .i64 ((room : Int) - (LT : Int))) (fun u hu => by go_simp) (fun K hK => ?_)
  go_simp
  refine hK _ ?_
  clear hK K
  refine w_value rfl (.bool true) (fun u hu => by go_simp) (fun K hK => ?_)
  go_simp
  refine hK _ ?_
  clear hK K
  refine w_nil ?_
  intro u hu
  go_wp2_with fail
  go_ret
  exact ⟨rfl, hu⟩
end

end Go.Proofs.Ytjeiggpjbdkpiaa.Dk
