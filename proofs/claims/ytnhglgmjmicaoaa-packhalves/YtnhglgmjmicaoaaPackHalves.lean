/-
  For every input the law PackHalves returns true and leaves its arguments as they were. No condition.
-/
import Derived.Test.YtnhglgmjmicaoaaFrame
import Derived.Test.YtnhglgmjmicaoaaPackExamples
import Derived.Deep.DeepCutAuto
namespace Go.Proofs.Ytnhglgmjmicaoaa.packHalves
open Go.ChangeShapes Go.WideShapes Go.ChangeAt Go.RowKit
open Go.ChangeMaps (open_string shut_string)
set_option linter.unusedVariables false
set_option linter.unusedSimpArgs false

theorem bytes_conv (S : ByteArray) (u : World) (hS : S.size ≤ 140737488351232) : ∃ cap u1, (convert 9 46 (.string S)).run Try.prog u = .ok (.slice (some ⟨u.heap.size, 0, none⟩) S.size cap) u1 ∧
    (∀ j v, (u8s S.data.toList)[j]? = some v → u1.cell? ⟨u.heap.size, 0 + j, none⟩ = some v) ∧ Below u.heap.size u u1 ∧ u.heap.size < u1.heap.size ∧ S.size ≤ cap ∧ cap ≤ maxLen := by
  refine ⟨_, _, run_bytes_of_string (P := Try.prog) u 9 46 5 S Try.underlying9 Try.underlying46 Try.underlying5, ?_, ?_, ?_, grownCap_ge _ _ _ _, grownCap_le_maxLen _ _ _ _ (by unfold maxLen; omega)⟩
  · intro j v hv
    have hj' : j < S.data.size := by
      have := (List.getElem?_eq_some_iff.1 hv).1
      simpa [u8s] using this
    have := World.cell?_alloc_mark u.drew (bytesRow S (grownCap u S.size 0 5)) 5 ((bytesRow S (grownCap u S.size 0 5)).size, (bytesRow S (grownCap u S.size 0 5)).size + 1) j
    rw [Nat.zero_add]
    refine Eq.trans this ?_
    rw [bytesRow_at _ _ _ hj', ← hv]
    have hj2 : S.data[j]? = some S.data[j] := Array.getElem?_eq_getElem hj'
    simp [u8s, hj2]
  · exact (Below.refl _ _).drew.alloc (Nat.le_refl _) _
  · show u.heap.size < (u.heap.push _).size
    simp
theorem row_str (w : World) (g n cap : Nat) (l : List UInt8) (hn : l.length = n) (h : Row w g 5 (u8s l)) :
    (convert 46 9 (.slice (some ⟨g, 0, none⟩) n cap)).run Try.prog w = .ok (.string (P.S l)) w := by
  subst hn
  refine run_convert_bytes_back w 46 9 5 ⟨g, 0, none⟩ cap l Try.underlying46 Try.underlying5 Try.underlying9 ?_
  intro j hj
  rw [addr_add, Nat.zero_add, h.cell]
  simp [u8s, hj]
theorem u8s_one (l : List UInt8) : ∀ v ∈ u8s l, v.oneCell' = true := by
  intro v hv; simp [u8s] at hv; obtain ⟨b, _, rfl⟩ := hv; rfl
def i16s (l : List Int) : List Value := l.map fun n => .int .i16 n

theorem i16_at (zs : List Int) (len j : Nat) (hj : j < len) (hz : len ≤ zs.length) : (i16s (zs.take len))[j]? = some (.int .i16 (zs.getD j 0)) := by
  have h1 : j < zs.length := by omega
  simp [i16s, List.getElem?_take, hj, h1]

set_option maxHeartbeats 1000000 in
set_option maxRecDepth 100000 in
/-- from what Halves hands on: the law's own tests and its loop -/
theorem walk_row (a : Option Addr) (len cap : Nat) (zs : List Int) (s : ByteArray) (w : World) (hs : s.size ≤ 140737488351232) (hlen : len ≤ 140737488351232)
    (hz : ∀ (w' : World), Below w.heap.size w w' → ∀ i, i < len → ∃ b off, a = some ⟨b, off, none⟩ ∧ w'.cell? ⟨b, off + i, none⟩ = some (.int .i16 (zs.getD i 0)))
    (H : Hid (∀ u, Below w.heap.size w u → Calls Try.prog 24 #[.slice a len cap] u fun e w' => ∃ g1 g2, e = .returned (.tuple #[.slice (some ⟨g1, 0, none⟩) (len - len / 2) (len - len / 2), .slice (some ⟨g2, 0, none⟩) (len / 2) (len / 2)]) ∧
      u.heap.size ≤ g1 ∧ u.heap.size ≤ g2 ∧ Row w' g1 51 ((i16s (zs.take len)).take (len - len / 2)) ∧ Row w' g2 51 ((i16s (zs.take len)).drop (len - len / 2)) ∧ Below u.heap.size u w')) (hzl : len ≤ zs.length) :
    Calls Try.prog 6 #[.slice a len cap, .string s] w fun e w' => e = .returned (.bool true) ∧ Below w.heap.size w w' := by
  have HZ : Hid _ := hz
  have HZL : Hid _ := hzl
  clear hz hzl
  go_enter Try.func6, Try.ntmps6
  go_wp2_with fail
  refine (examples_any _).mono ?_; rintro e w1 ⟨rfl, hb1⟩
  go_wp2_with fail
  refine (H.out _ hb1).mono ?_; rintro e w2 ⟨g1, g2, rfl, l1, l2, R1, R2, hb2⟩
  obtain ⟨bc, u1, hcv, hcs, hbu, hzu, hbc1, hbc2⟩ := bytes_conv s w2 hs
  have HV : Hid _ := fun h1 hb => halves_u8 w2.heap.size 0 s.size bc (u8s s.data.toList) u1 (by rw [u8s_length, P.len_list]) (by omega) hbc1 hbc2 h1 hb hcs
  have B1 : Below w.heap.size w u1 := (hb1.trans (hb2.mono hb1.size)).trans (hbu.mono (Nat.le_trans hb1.size hb2.size))
  have R1u : Row u1 g1 51 ((i16s (zs.take len)).take (len - len / 2)) := R1.below hbu R1.lt
  have R2u : Row u1 g2 51 ((i16s (zs.take len)).drop (len - len / 2)) := R2.below hbu R2.lt
  have HR1 : Hid _ := R1u
  have HR2 : Hid _ := R2u
  have HB1 : Hid _ := B1
  clear hb1 hb2 R1 R2 R1u R2u hbu B1 hcs H l1 l2
  go_wp2_with fail
  refine (HV.out (u8s_one _) hzu).mono ?_; rintro e w4 ⟨g3, g4, rfl, l3, l4, R3, R4, hb4⟩
  have hsl := P.len_list s
  have e3 := row_str w4 g3 (s.size - s.size / 2) (s.size - s.size / 2) (s.data.toList.take (s.size - s.size / 2)) (by rw [List.length_take]; omega) (by simpa [u8s, List.map_take] using R3)
  have e4 := row_str w4 g4 (s.size / 2) (s.size / 2) (s.data.toList.drop (s.size - s.size / 2)) (by rw [List.length_drop]; omega) (by simpa [u8s, List.map_drop] using R4)
  have exy : P.S (s.data.toList.take (s.size - s.size / 2)) ++ P.S (s.data.toList.drop (s.size - s.size / 2)) = s := by
    rw [P.S_append, List.take_append_drop, P.S_of]
  generalize P.S (s.data.toList.take (s.size - s.size / 2)) = X at e3 exy
  generalize P.S (s.data.toList.drop (s.size - s.size / 2)) = Y at e4 exy
  have hXY : X.size + Y.size ≤ 140737488351232 := by
    have h := congrArg ByteArray.size exy
    simp at h; omega
  have Q1 : Row w4 g1 51 ((i16s (zs.take len)).take (len - len / 2)) := Row.below HR1.out hb4 (Row.lt HR1.out)
  have Q2 : Row w4 g2 51 ((i16s (zs.take len)).drop (len - len / 2)) := Row.below HR2.out hb4 (Row.lt HR2.out)
  have B4 : Below w.heap.size w w4 := HB1.out.trans (hb4.mono HB1.out.size)
  obtain ⟨c, hc⟩ : ∃ c, c = len - len / 2 := ⟨_, rfl⟩
  obtain ⟨h, hh⟩ : ∃ h, h = len / 2 := ⟨_, rfl⟩
  have t1 : (((c : Int) + (h : Int)) != (len : Int)) = false := by rw [bne_eq_false_iff_eq]; omega
  have t2 : (((c : Int) - (h : Int)) != (len : Int) % 2) = false := by rw [bne_eq_false_iff_eq]; omega
  have hcl : c ≤ len := by omega
  have hhl : h ≤ len := by omega
  have HCH : Hid (c + h = len) := by show _ = _; omega
  rw [← hc] at Q1 Q2
  rw [← hc, ← hh]
  clear hc hh
  obtain ⟨cx, hcx⟩ : ∃ cx, cx = s.size - s.size / 2 := ⟨_, rfl⟩
  obtain ⟨hx, hhx⟩ : ∃ hx, hx = s.size / 2 := ⟨_, rfl⟩
  have t4 : ((cx : Int) != ((s.size : Int) + 1) / 2) = false := by rw [bne_eq_false_iff_eq]; omega
  have hcxl : cx ≤ 140737488351232 := by omega
  rw [← hcx] at e3
  rw [← hhx] at e4
  rw [← hcx, ← hhx]
  clear hcx hhx R3 R4 l3 l4 hb4 HR1 HR2 HB1 HV hcv hsl
  have HQ1 : Hid _ := Q1
  have HQ2 : Hid _ := Q2
  have HB4 : Hid _ := B4
  have tx : (s.toList == s.toList) = true := by simp
  clear Q1 Q2 B4
  go_wp2_with fail
  clear e3 e4 exy t1 t2 t4 tx
  go_loop [10] (fun i => ∃ j : Nat, j ≤ len ∧ i = .int .i64 j) (fun i => len - (intOf i).toNat)
  case atStart => exact ⟨0, Nat.zero_le _, rfl⟩
  case round =>
    obtain ⟨j, hj, rfl⟩ := hrel
    by_cases hlt : j < len
    · obtain ⟨b, off, rfl, hcell⟩ := HZ.out w4 HB4.out j hlt
      by_cases hjc : j < c
      · have hc1 : w4.cell? ⟨g1, j, none⟩ = some (.int .i16 (zs.getD j 0)) := by
          rw [Row.cell HQ1.out, List.getElem?_take, if_pos hjc]; exact i16_at zs len j hlt HZL.out
        generalize zs.getD j 0 = q at *
        go_wp2_with fail
        go_round
        case rel => exact ⟨j + 1, by omega, by go_num⟩
        case measure => simp [intOf]; omega
      · have hd : j - c < h := by have := HCH.out; omega
        have hc1 : w4.cell? ⟨g2, j - c, none⟩ = some (.int .i16 (zs.getD j 0)) := by
          rw [Row.cell HQ2.out, List.getElem?_drop, show c + (j - c) = j by omega]; exact i16_at zs len j hlt HZL.out
        generalize zs.getD j 0 = q at *
        have k1 : (c : Int) ≤ (j : Int) := by omega
        have k2 : (j : Int) - (c : Int) < (h : Int) := by omega
        have k3 : decide ((j : Int) < (c : Int)) = false := by simp; omega
        go_wp2_with fail
        go_round
        case rel => exact ⟨j + 1, by omega, by go_num⟩
        case measure => simp [intOf]; omega
    · go_wp2_with fail
      go_ret
      exact ⟨rfl, HB4.out⟩

theorem i16s_one (l : List Int) : ∀ v ∈ i16s l, v.oneCell' = true := by
  intro v hv; simp [i16s] at hv; obtain ⟨b, _, rfl⟩ := hv; rfl

theorem walk (a0 : Option Addr) (len0 cap0 : Nat) (l0 : List Int) (a1 : ByteArray) (y0 : cap0 * 2 ≤ 140737488351232) (z1 : a1.size ≤ 140737488351232) (w : World) (w0 : IsRow .i16 w a0 len0 cap0 l0) :
    Calls Try.prog 6 #[.slice a0 len0 cap0, .string a1] w fun e w' => e = .returned (.bool true) ∧ Below w.heap.size w w' := by
  rcases w0 with ⟨rfl, rfl, rfl⟩ | ⟨b, off, rfl, hl, h0, hz, hb, hc, _⟩
  · refine walk_row a0 0 0 [] a1 w z1 (by omega) (fun w' _ i hi => absurd hi (by omega)) ?_ (by simp)
    intro u _
    exact halves_nil_i16 a0 u
  · refine walk_row (some ⟨b, off, none⟩) len0 cap0 l0 a1 w z1 (by omega) ?_ ?_ (by omega)
    · intro w' hw i hi
      refine ⟨b, off, rfl, ?_⟩
      rw [hw.cell (p := ⟨b, off + i, none⟩) hb]
      exact hc i (by omega)
    · intro u hu
      refine halves_i16 b off len0 cap0 (i16s (l0.take len0)) u ?_ (by omega) hl (by unfold maxLen; omega) (i16s_one _) (Nat.lt_of_lt_of_le hb hu.size) ?_
      · simp [i16s]; omega
      · intro j v hj
        have hjl : j < len0 := by
          have := (List.getElem?_eq_some_iff.1 hj).1
          simp [i16s] at this; omega
        rw [i16_at l0 len0 j hjl (by omega)] at hj
        rw [hu.cell (p := ⟨b, off + j, none⟩) hb, hc j (by omega), hj]

set_option maxRecDepth 100000 in
theorem lifted (os : Os) (started : os.Started) (H : Type) (enc : TypeId × Value → H) :
    ReturnsInHanded {} Try.checked os 6 .any (Rows.packHalvesSpec.pre6 enc Try.prog Try.f6 Rows.packHalvesRow.domain false) (Rows.packHalvesSpec.post enc Try.prog Try.f6 false true false false) := by
  refine returnsInHanded_of_change_sized (C := Try.checked) own started (by kernel_rfl) Try.func6
    (ChangeSpec.witness6 (enc := enc) (C := Try.checked) false ⟨#[], #[.slice none 0 0, .string ByteArray.empty], []⟩ 8 (by kernel_rfl) (by kernel_rfl) (by kernel_rfl) (by kernel_rfl)) ?_
  intro W base args ds gs before hval0 hW hcnd hsz0 _
  have hval : ∀ (j : Nat) t v, Try.f6.params[j]? = some t → args[j]? = some v → Value.okWide Try.prog W .any base t v := hval0
  have hW' := hW
  obtain ⟨p, q, hA0, hV, rfl, hfz, hnd⟩ := hW
  have hA : DataW.TrodAll enc Try.prog W 0 (fun _ => true) true Try.f6.params.toList args.toList ds p := hA0
  have hsz : (DataW.weightsEach Try.prog (Try.f6.params.toList ++ Rows.packHalvesSpec.plain.varTypes Try.prog) (ds ++ gs)).all (· ≤ reachBytes) = true := hsz0
  rw [Try.params6] at hA hval hsz
  obtain ⟨rfl, rfl⟩ := trodVars_none hV
  have hAk := hA
  have hlt : ∀ x ∈ p, x.block < W.heap.size := fun x hx => by simpa using hW'.lt x (List.mem_append.2 (.inl hx))
  obtain ⟨v0, vs0, d0, ds0, p0, q0, hargs, rfl, rfl, h0, r0⟩ := trodAll_cons hA
  obtain ⟨v1, vs1, d1, ds1, p1, q1, rfl, rfl, rfl, h1, r1⟩ := trodAll_cons r0
  obtain ⟨rfl, rfl, rfl⟩ := trodAll_nil r1
  obtain rfl : args = #[v0, v1] := by cases args; simp_all
  obtain ⟨a0, len0, cap0, rfl⟩ := okWide_slice Try.underlying48 (hval 0 48 v0 rfl rfl)
  obtain ⟨l0, w0, m0, u0⟩ := open_row_of Try.underlying48 Try.underlying51 (by kernel_rfl) h0
  have y0 : cap0 * 2 ≤ 140737488351232 := by
    rcases u0 with u0 | ⟨es, sp, rfl, u0⟩
    · omega
    · have := sized_slice hsz (j := 0) (t := 48) rfl rfl Try.underlying48
      rw [u0, show Try.prog.bytesOf 51 = 2 by kernel_rfl] at this
      exact this
  obtain ⟨a1, rfl, rfl, rfl, w1⟩ := open_string Try.underlying9 (hval 1 9 v1 rfl rfl) h1
  have z1 := sized_string hsz (j := 1) (t := 9) rfl rfl
  clear hA0 hval0 hsz0
  refine (walk a0 len0 cap0 l0 a1 y0 (by rw [Array.length_toList] at z1; exact z1) W w0).mono fun e W' ⟨he, hg⟩ => ?_
  subst he
  exact ⟨_, rfl, _, _, _, [], _, [], hW', (trodAll_cons_mk (shut_bool Try.underlying4 _) trodAll_mk0), trodAll_below laidOut hg _ _ _ _ (by kernel_rfl) hAk hlt, rfl, hg.frame _, fun h => by cases h⟩

theorem over : Rows.packHalvesRow.holds Try.pinned (OpenSpec.ofChange Rows.packHalvesSpec) :=
  OpenClaim.holds_of_wide 6 Try.f6 rfl rfl rfl rfl rfl rfl rfl ⟨rfl, rfl, rfl, rfl, rfl⟩ rfl rfl rfl rfl rfl (by kernel_rfl) Try.func6 (by kernel_rfl)
    (of_decide_eq_true (by kernel_rfl)) (by unfold Func.isWrapper; first | (rw [if_pos (by decide +kernel)]; kernel_rfl) | (rw [if_neg (by decide +kernel)]; exact ⟨rfl, rfl⟩))
    (fun os started H enc _ => lifted os started H enc)

/-- the statement -/
theorem proved : Rows.PackHalvesSaid :=
  over
#print axioms proved
end Go.Proofs.Ytnhglgmjmicaoaa.packHalves
