/-
  The sum of all values of a map is that of its values, whatever its keys (the law QuotaTally). No conditions.
-/
import Derived.Test.YtepoodfihemmcaaFrame

import Derived.Test.YtepoodfihemmcaaQuotaEx

import Derived.Test.YtepoodfihemmcaaRegionPick

import Derived.Deep.DeepCutAuto

namespace Go.Proofs.Ytepoodfihemmcaa.quotaTally

open Go.ChangeShapes Go.WideShapes Go.ChangeAt Go.RowKit

open Go.ChangeMaps (open_string shut_string)

set_option linter.unusedVariables false

set_option linter.unusedSimpArgs false

theorem index_str (s : ByteArray) (k : Nat) (h : k < s.size) : ∃ c : Int, Hid (∀ u, (Instr.index 9 (.string s) (.int .i64 (k : Int))).run Try.prog u = .ok (.int .u8 c) u) := by
  refine ⟨(s[k]'h).toNat, (fun u => ?_ : Hid _)⟩
  rw [run_index_string _ _ _ _ _ Try.underlying9, dif_pos ⟨by omega, by omega⟩]
  rfl
section

variable {P : Program} {ops : Array Oper} {Q : Exit → Act → World → Prop} {S : World → Prop} {Lq : Act → Prop} {rest : List Oper} {o : Oper} {a : Act}

theorem c_index (hgd : o.guard = none) (t : TypeId) (m x : Operand) (ho : o.op = .index t m x) (mv kv : Value) (hm : a.eval m = mv) (hx : a.eval x = kv) (v : Value) (hl : ∀ u, S u → (Instr.index t mv kv).run P u = .ok v u)
    (hQ : ∀ c a w, Q (.panic c) (a.put o.dst v) w → Q (.panic c) a w)
    (h : ∀ K : Act → Prop, (∀ a, SC P ops S Q Lq rest a → K a) → K (a.put o.dst v)) : SC P ops S Q Lq (o :: rest) a := by
  refine c_value hgd v (fun u hc => ?_) hQ h
  unfold execOp
  simp only [ho, hm, hx, Sem.run_bind, hl u hc, Result.andThen_ok, Sem.run_pure]
end

def IA (A : List (Int × Int)) (j : Nat) : Prop := ∀ x ∈ A, x.1 < (j : Int)
theorem IA.look {A : List (Int × Int)} {j : Nat} (h : IA A j) : Q.look A (j : Int) = 0 := Q.look_not fun hm => by
  obtain ⟨x, hx, e⟩ := List.mem_map.1 hm
  have := h x hx
  omega
theorem IA.add {A : List (Int × Int)} {j : Nat} (h : IA A j) (v : Int) : IA (Q.setM A (j : Int) v) (j + 1) := fun x hx => by
  rcases Q.mem_set hx with rfl | hx
  · show (j : Int) < _; omega
  · have := h x hx; omega
def IB (B : List (Int × Int)) (j : Nat) : Prop := ∀ x ∈ B, 0 ≤ x.2 ∧ x.2 ≤ (j : Int)
theorem IB.look {B : List (Int × Int)} {j : Nat} (h : IB B j) (n : Int) : 0 ≤ Q.look B n ∧ Q.look B n ≤ (j : Int) := by
  by_cases hn : n ∈ B.map (·.1)
  · exact h _ (Q.look_mem hn)
  · rw [Q.look_not hn]; omega
theorem IB.add {B : List (Int × Int)} {j : Nat} (h : IB B j) (n : Int) : IB (Q.setM B n (Q.look B n + 1)) (j + 1) := fun x hx => by
  rcases Q.mem_set hx with rfl | hx
  · have := h.look n; show 0 ≤ _ + 1 ∧ _ + 1 ≤ _; omega
  · have := h x hx; omega
theorem at_row {w : World} {a : Option Addr} {len cap : Nat} {zs : List Int} (h : IsRow .i16 w a len cap zs) (j : Nat) (hj : j < len) : ∃ b off v, a = some ⟨b, off, none⟩ ∧ b < w.heap.size ∧ w.cell? ⟨b, off + j, none⟩ = some (.int .i16 v) ∧ -32768 ≤ v ∧ v ≤ 32767 := by
  rcases h with ⟨h0, _⟩ | ⟨b, off, ha, hl, hc, hz, hb, hcell, hwf⟩
  · omega
  · refine ⟨b, off, zs.getD j 0, ha, hb, hcell j (by omega), ?_⟩
    have hm : zs.getD j 0 ∈ zs := by
      rw [List.getD_eq_getElem?_getD, List.getElem?_eq_getElem (by omega)]
      exact List.getElem_mem _
    have := hwf _ hm
    generalize zs.getD j 0 = v at this ⊢
    simp [Lit.wf, IntKind.min, IntKind.max, IntKind.signed, IntKind.bits] at this
    omega
set_option maxHeartbeats 8000000 in
set_option maxRecDepth 100000 in
theorem walk (a0 : Option Addr) (len0 cap0 : Nat) (l0 : List Int) (a1 : ByteArray) (y0 : cap0 * 2 ≤ 140737488351232) (z1 : a1.size ≤ 140737488351232) (w : World) (w0 : IsRow .i16 w a0 len0 cap0 l0) :
    Calls Try.prog 6 #[.slice a0 len0 cap0, .string a1] w fun e w' => e = .returned (.bool true) ∧ Below w.heap.size w w' := by
  have HRW := Lib.hid w0
  have HZS := Lib.hid z1
  have hlen : len0 ≤ 140737488351232 := by
    rcases w0 with ⟨h, _⟩ | ⟨b, off, ha, hl, hc, hz, hb, hcell, hwf⟩ <;> omega
  clear w0 y0
  go_enter Try.func6, Try.ntmps6
  go_wp2_with fail
  refine (Qm.examples_any _).mono ?_; rintro e w1 ⟨rfl, hb1⟩
  have B1 : Hid (Below w.heap.size w w1) := hb1
  clear hb1
  go_wp2_with (first | refine Qm.make_step rfl _ rfl ?_)
  intro w2 hm hb hz
  obtain ⟨ba, HBA⟩ : ∃ q, Hid (w1.heap.size = q) := ⟨_, rfl⟩
  have M2 : Hid (Qm.Mp Qm.kyI w2 ba []) := by show Qm.Mp _ _ _ _; rw [← HBA.out]; exact Qm.Mp.none hm
  have B2 : Hid (Below w.heap.size w w2 ∧ w.heap.size ≤ ba ∧ ba < w2.heap.size) := ⟨Below.trans B1.out (hb.mono B1.out.size), by rw [← HBA.out]; exact B1.out.size, by have := HBA.out; omega⟩
  rw [HBA.out]
  clear hm hb hz HBA B1
  go_wp2_with (first | refine Qm.make_step rfl _ rfl ?_)
  intro w3 hm hb hz
  obtain ⟨bb, HBA⟩ : ∃ q, Hid (w2.heap.size = q) := ⟨_, rfl⟩
  have N3 : Hid (Qm.Mp Qm.kyB w3 bb []) := by show Qm.Mp _ _ _ _; rw [← HBA.out]; exact Qm.Mp.none hm
  have M3 : Hid (Qm.Mp Qm.kyI w3 ba []) := M2.out.below hb B2.out.2.2
  have B3 : Hid (Below w.heap.size w w3) := Below.trans B2.out.1 (hb.mono B2.out.1.size)
  have NN : Hid (w.heap.size ≤ ba ∧ ba < bb) := ⟨B2.out.2.1, by have := HBA.out; have := B2.out; omega⟩
  rw [HBA.out]
  clear hm hb hz HBA B2 M2
  go_wp2_with fail
  go_loopw [8, 9] (fun s i wr => ∃ (j : Nat) (q : Int) (A : List (Int × Int)), j ≤ len0 ∧ j ≤ 30 ∧ i = .int .i64 (j : Int) ∧ s = .int .i64 q ∧ -32768 * (j : Int) ≤ q ∧ q ≤ 32767 * (j : Int) ∧ Hid (Q.tot A = q) ∧ Hid (IA A j) ∧ Hid (Qm.Mp Qm.kyI wr ba A) ∧ Hid (Qm.Mp Qm.kyB wr bb []) ∧ Hid (Below w.heap.size w wr)) (fun _ i _ => 30 - (intOf i).toNat)
  case atStart => exact ⟨0, 0, [], by omega, by omega, rfl, rfl, by omega, by omega, rfl, (fun x hx => by cases hx), M3, N3, B3⟩
  case round =>
    obtain ⟨j, q, A, hjl, hj30, rfl, rfl, hq1, hq2, HT, HA, HM, HN0, HB⟩ := hrel
    clear M3 N3 B3
    by_cases hlt : j < len0 ∧ j < 30
    · obtain ⟨hlt, hl2⟩ := hlt
      have i1 : (j : Int) < (len0 : Int) := by omega
      have i2 : (j : Int) < 30 := by omega
      obtain ⟨g, off, v, rfl, hg, hcell, hv1, hv2⟩ := at_row HRW.out j hlt
      have hcr : wr.cell? ⟨g, off + j, none⟩ = some (.int .i16 v) := by rw [HB.out.cell (p := ⟨g, off + j, none⟩) hg]; exact hcell
      have kv : IntKind.i64.wrap v = v := Qm.wrap_small v (by omega) (by omega)
      have kq : IntKind.i64.wrap (q + v) = q + v := Qm.wrap_small _ (by omega) (by omega)
      have HG := Lib.hid hg
      have HCL := Lib.hid hcell
      clear hg hcell
      go_wp2_with (first | refine Qm.lay_step Qm.kI rfl _ _ _ rfl ba rfl (j : Int) rfl v rfl A HM.out ?_)
      intro w4 hm hu
      have HM4 := Lib.hid hm
      have HN4 : Hid (Qm.Mp Qm.kyB w4 bb []) := HN0.out.upd hu (by have := NN.out; omega)
      have HB4 : Hid (Below w.heap.size w w4) := HB.out.trans (hu.below NN.out.1)
      have HT4 : Hid (Q.tot (Q.setM A (j : Int) v) = q + v) := by show _ = _; rw [Q.tot_set, HA.out.look, HT.out]; omega
      have HA4 := Lib.hid (HA.out.add v)
      have hc4 : w4.cell? ⟨g, off + j, none⟩ = some (.int .i16 v) := by rw [HB4.out.cell (p := ⟨g, off + j, none⟩) HG.out]; exact HCL.out
      clear hm hu HM HN0 HB HT HA hcr HG HCL
      go_wp2_with fail
      go_roundw
      case rel => exact ⟨j + 1, q + v, _, by omega, by omega, by go_num, rfl, by omega, by omega, HT4, HA4, HM4, HN4, HB4⟩
      case measure => simp [intOf]; omega
    · have HT' : Hid (IntKind.i64.wrap (Q.tot A) = q) := by show _ = _; rw [HT.out]; exact Qm.wrap_small q (by omega) (by omega)
      have HM0 : Hid (Qm.Mp Qm.kyI wr ba A) := HM
      have HNz : Hid (Qm.Mp Qm.kyB wr bb []) := HN0
      have HBz : Hid (Below w.heap.size w wr) := HB
      clear HT HA HM HN0 HB hq1 hq2
      by_cases h1 : j < len0
      · have i1 : (j : Int) < (len0 : Int) := by omega
        have i2 : decide ((j : Int) < 30) = false := by simp; omega
        go_wp2_with fail
        go_loopw [10] (fun i wr => ∃ (k : Nat) (B : List (Int × Int)), k ≤ a1.size ∧ i = .int .i64 (k : Int) ∧ Hid (Q.tot B = k) ∧ Hid (IB B k) ∧ Hid (Qm.Mp Qm.kyI wr ba A) ∧ Hid (Qm.Mp Qm.kyB wr bb B) ∧ Hid (Below w.heap.size w wr)) (fun i _ => a1.size - (intOf i).toNat)
        case atStart => exact ⟨0, [], by omega, rfl, rfl, (fun x hx => by cases hx), HM0, HNz, HBz⟩
        case round =>
          obtain ⟨k, B, hkn, rfl, HTk, HIk, HMk, HNk, HBk⟩ := hrel
          clear HM0 HNz HBz
          by_cases hlk : k < a1.size
          · have i3 : (k : Int) < (a1.size : Int) := by omega
            obtain ⟨c, HC⟩ : ∃ c : Int, Hid (∀ u, (Instr.index 9 (.string a1) (.int .i64 (k : Int))).run Try.prog u = .ok (.int .u8 c) u) := index_str a1 k hlk
            have hx := HIk.out.look c
            have HT5 : Hid (Q.tot (Q.setM B c (Q.look B c + 1)) = ((k + 1 : Nat) : Int)) := by show _ = _; rw [Q.tot_set, HTk.out]; omega
            have HI5 := Lib.hid (HIk.out.add c)
            obtain ⟨x, HX⟩ : ∃ x, Hid (Q.look B c = x) := ⟨_, rfl⟩
            rw [HX.out] at hx HT5 HI5
            have kx : IntKind.i64.wrap (x + 1) = x + 1 := Qm.wrap_small _ (by omega) (by omega)
            have HLK : Hid (∀ u, Qm.Mp Qm.kyB u bb B → (Instr.lookup 50 (.map (some bb)) (.int .u8 c) false).run Try.prog u = .ok (.int .i64 x) u) := fun u hu => by
              have := Qm.run_look Qm.kB hu c
              rw [HX.out] at this
              exact this
            clear HX hx HTk HIk
            go_wp2_with fail
            have HNd : Hid (Qm.Mp Qm.kyB wr.drew bb B) := HNk.out.st rfl
            refine region_pickC (fun u => Qm.Mp Qm.kyB u bb B) 10 [0, 1, 2, 3, 4, 5, 6, 7, 8, 9] [10] Try.mixed (by kernel_rfl) rfl (by kernel_rfl) HNd.out ?_
            refine p_readC rfl ?_
            refine c_move rfl _ rfl (.map (some bb)) rfl (fun _ _ _ h => h) (fun K hK => ?_)
            go_simp
            refine hK _ ?_
            clear hK K
            refine c_nil ?_
            refine p_readC rfl ?_
            refine c_move rfl _ rfl (.string a1) rfl (fun _ _ _ h => h) (fun K hK => ?_)
            go_simp
            refine hK _ ?_
            clear hK K
            refine c_nil ?_
            refine p_readC rfl ?_
            refine c_move rfl _ rfl (.int .i64 (k : Int)) rfl (fun _ _ _ h => h) (fun K hK => ?_)
            go_simp
            refine hK _ ?_
            clear hK K
            refine c_nil ?_
            refine p_readC rfl ?_
            refine c_index rfl 9 _ _ rfl (.string a1) (.int .i64 (k : Int)) rfl rfl (.int .u8 c) (fun u hu => HC.out u) (fun _ _ _ h => h) (fun K hK => ?_)
            go_simp
            refine hK _ ?_
            clear hK K
            refine c_nil ?_
            refine p_readC rfl ?_
            refine c_move rfl _ rfl (.map (some bb)) rfl (fun _ _ _ h => h) (fun K hK => ?_)
            go_simp
            refine hK _ ?_
            clear hK K
            refine c_nil ?_
            refine p_readC rfl ?_
            refine c_move rfl _ rfl (.string a1) rfl (fun _ _ _ h => h) (fun K hK => ?_)
            go_simp
            refine hK _ ?_
            clear hK K
            refine c_nil ?_
            refine p_readC rfl ?_
            refine c_move rfl _ rfl (.int .i64 (k : Int)) rfl (fun _ _ _ h => h) (fun K hK => ?_)
            go_simp
            refine hK _ ?_
            clear hK K
            refine c_nil ?_
            refine p_readC rfl ?_
            refine c_index rfl 9 _ _ rfl (.string a1) (.int .i64 (k : Int)) rfl rfl (.int .u8 c) (fun u hu => HC.out u) (fun _ _ _ h => h) (fun K hK => ?_)
            go_simp
            refine hK _ ?_
            clear hK K
            refine c_nil ?_
            refine p_readC rfl ?_
            refine Qm.c_look rfl 50 _ _ rfl (.map (some bb)) (.int .u8 c) rfl rfl (.int .i64 x) (fun u hu => HLK.out u hu) (fun _ _ _ h => h) (fun K hK => ?_)
            go_simp
            refine hK _ ?_
            clear hK K
            refine c_nil ?_
            refine p_readC rfl ?_
            refine c_value rfl (.int .i64 (x + 1)) (fun u hu => by go_simp) (fun _ _ _ h => h) (fun K hK => ?_)
            go_simp
            refine hK _ ?_
            clear hK K
            refine c_nil ?_
            refine p_nilC ?_
            refine p_stepC rfl ?_
            refine Qm.lay_step Qm.kB rfl _ _ _ rfl bb rfl c rfl (x + 1) rfl B HNd.out ?_
            intro w5 hm hu
            have HN5 := Lib.hid hm
            have HM5 : Hid (Qm.Mp Qm.kyI w5 ba A) := (HMk.out.st (w' := wr.drew) rfl).upd hu (by have := NN.out; omega)
            have HB5 : Hid (Below w.heap.size w w5) := (Below.drew HBk.out).trans (hu.below (by have := NN.out; omega))
            clear hm hu
            go_wp2_with fail
            refine And.intro (fun h9 => absurd h9 (by decide)) ?_
            refine p_endC ?_
            go_wp2_with fail
            go_roundw
            case rel => exact ⟨k + 1, _, by omega, by go_num, HT5, HI5, HM5, HN5, HB5⟩
            case measure => simp [intOf]; omega
          · obtain rfl : k = a1.size := by omega
            have CA : Hid (∀ u, Below wr.heap.size wr u → Calls Try.prog 25 #[.map (some ba)] u fun e w' => e = .returned (.int .i64 q) ∧ Below u.heap.size u w') := fun u hu => by
              have := Qm.tallyI ba A u (HMk.out.below hu HMk.out.lt)
              rw [HT'.out] at this
              exact this
            have CB : Hid (∀ u, Below wr.heap.size wr u → Calls Try.prog 26 #[.map (some bb)] u fun e w' => e = .returned (.int .i64 (a1.size : Int)) ∧ Below u.heap.size u w') := fun u hu => by
              have := Qm.tallyB bb B u (HNk.out.below hu HNk.out.lt)
              rw [HTk.out, Qm.wrap_small _ (by omega) (by omega)] at this
              exact this
            clear HTk HIk HMk HNk HT'
            go_wp2_with fail
            refine (CA.out _ (Below.refl _ _)).mono ?_; rintro e w6 ⟨rfl, hb⟩
            have HB6 := Lib.hid hb
            clear hb
            go_wp2_with fail
            refine (CB.out _ HB6.out).mono ?_; rintro e w7 ⟨rfl, hb⟩
            have HB7 : Hid (Below w.heap.size w w7) := HBk.out.trans ((HB6.out.trans (hb.mono HB6.out.size)).mono HBk.out.size)
            clear hb
            go_wp2_with fail
            go_ret
            exact ⟨rfl, HB7.out⟩
      · have i1 : decide ((j : Int) < (len0 : Int)) = false := by simp; omega
        go_wp2_with fail
        go_loopw [10] (fun i wr => ∃ (k : Nat) (B : List (Int × Int)), k ≤ a1.size ∧ i = .int .i64 (k : Int) ∧ Hid (Q.tot B = k) ∧ Hid (IB B k) ∧ Hid (Qm.Mp Qm.kyI wr ba A) ∧ Hid (Qm.Mp Qm.kyB wr bb B) ∧ Hid (Below w.heap.size w wr)) (fun i _ => a1.size - (intOf i).toNat)
        case atStart => exact ⟨0, [], by omega, rfl, rfl, (fun x hx => by cases hx), HM0, HNz, HBz⟩
        case round =>
          obtain ⟨k, B, hkn, rfl, HTk, HIk, HMk, HNk, HBk⟩ := hrel
          clear HM0 HNz HBz
          by_cases hlk : k < a1.size
          · have i3 : (k : Int) < (a1.size : Int) := by omega
            obtain ⟨c, HC⟩ : ∃ c : Int, Hid (∀ u, (Instr.index 9 (.string a1) (.int .i64 (k : Int))).run Try.prog u = .ok (.int .u8 c) u) := index_str a1 k hlk
            have hx := HIk.out.look c
            have HT5 : Hid (Q.tot (Q.setM B c (Q.look B c + 1)) = ((k + 1 : Nat) : Int)) := by show _ = _; rw [Q.tot_set, HTk.out]; omega
            have HI5 := Lib.hid (HIk.out.add c)
            obtain ⟨x, HX⟩ : ∃ x, Hid (Q.look B c = x) := ⟨_, rfl⟩
            rw [HX.out] at hx HT5 HI5
            have kx : IntKind.i64.wrap (x + 1) = x + 1 := Qm.wrap_small _ (by omega) (by omega)
            have HLK : Hid (∀ u, Qm.Mp Qm.kyB u bb B → (Instr.lookup 50 (.map (some bb)) (.int .u8 c) false).run Try.prog u = .ok (.int .i64 x) u) := fun u hu => by
              have := Qm.run_look Qm.kB hu c
              rw [HX.out] at this
              exact this
            clear HX hx HTk HIk
            go_wp2_with fail
            have HNd : Hid (Qm.Mp Qm.kyB wr.drew bb B) := HNk.out.st rfl
            refine region_pickC (fun u => Qm.Mp Qm.kyB u bb B) 10 [0, 1, 2, 3, 4, 5, 6, 7, 8, 9] [10] Try.mixed (by kernel_rfl) rfl (by kernel_rfl) HNd.out ?_
            refine p_readC rfl ?_
            refine c_move rfl _ rfl (.map (some bb)) rfl (fun _ _ _ h => h) (fun K hK => ?_)
            go_simp
            refine hK _ ?_
            clear hK K
            refine c_nil ?_
            refine p_readC rfl ?_
            refine c_move rfl _ rfl (.string a1) rfl (fun _ _ _ h => h) (fun K hK => ?_)
            go_simp
            refine hK _ ?_
            clear hK K
            refine c_nil ?_
            refine p_readC rfl ?_
            refine c_move rfl _ rfl (.int .i64 (k : Int)) rfl (fun _ _ _ h => h) (fun K hK => ?_)
            go_simp
            refine hK _ ?_
            clear hK K
            refine c_nil ?_
            refine p_readC rfl ?_
            refine c_index rfl 9 _ _ rfl (.string a1) (.int .i64 (k : Int)) rfl rfl (.int .u8 c) (fun u hu => HC.out u) (fun _ _ _ h => h) (fun K hK => ?_)
            go_simp
            refine hK _ ?_
            clear hK K
            refine c_nil ?_
            refine p_readC rfl ?_
            refine c_move rfl _ rfl (.map (some bb)) rfl (fun _ _ _ h => h) (fun K hK => ?_)
            go_simp
            refine hK _ ?_
            clear hK K
            refine c_nil ?_
            refine p_readC rfl ?_
            refine c_move rfl _ rfl (.string a1) rfl (fun _ _ _ h => h) (fun K hK => ?_)
            go_simp
            refine hK _ ?_
            clear hK K
            refine c_nil ?_
            refine p_readC rfl ?_
            refine c_move rfl _ rfl (.int .i64 (k : Int)) rfl (fun _ _ _ h => h) (fun K hK => ?_)
            go_simp
            refine hK _ ?_
            clear hK K
            refine c_nil ?_
            refine p_readC rfl ?_
            refine c_index rfl 9 _ _ rfl (.string a1) (.int .i64 (k : Int)) rfl rfl (.int .u8 c) (fun u hu => HC.out u) (fun _ _ _ h => h) (fun K hK => ?_)
            go_simp
            refine hK _ ?_
            clear hK K
            refine c_nil ?_
            refine p_readC rfl ?_
            refine Qm.c_look rfl 50 _ _ rfl (.map (some bb)) (.int .u8 c) rfl rfl (.int .i64 x) (fun u hu => HLK.out u hu) (fun _ _ _ h => h) (fun K hK => ?_)
            go_simp
            refine hK _ ?_
            clear hK K
            refine c_nil ?_
            refine p_readC rfl ?_
            refine c_value rfl (.int .i64 (x + 1)) (fun u hu => by go_simp) (fun _ _ _ h => h) (fun K hK => ?_)
            go_simp
            refine hK _ ?_
            clear hK K
            refine c_nil ?_
            refine p_nilC ?_
            refine p_stepC rfl ?_
            refine Qm.lay_step Qm.kB rfl _ _ _ rfl bb rfl c rfl (x + 1) rfl B HNd.out ?_
            intro w5 hm hu
            have HN5 := Lib.hid hm
            have HM5 : Hid (Qm.Mp Qm.kyI w5 ba A) := (HMk.out.st (w' := wr.drew) rfl).upd hu (by have := NN.out; omega)
            have HB5 : Hid (Below w.heap.size w w5) := (Below.drew HBk.out).trans (hu.below (by have := NN.out; omega))
            clear hm hu
            go_wp2_with fail
            refine And.intro (fun h9 => absurd h9 (by decide)) ?_
            refine p_endC ?_
            go_wp2_with fail
            go_roundw
            case rel => exact ⟨k + 1, _, by omega, by go_num, HT5, HI5, HM5, HN5, HB5⟩
            case measure => simp [intOf]; omega
          · obtain rfl : k = a1.size := by omega
            have CA : Hid (∀ u, Below wr.heap.size wr u → Calls Try.prog 25 #[.map (some ba)] u fun e w' => e = .returned (.int .i64 q) ∧ Below u.heap.size u w') := fun u hu => by
              have := Qm.tallyI ba A u (HMk.out.below hu HMk.out.lt)
              rw [HT'.out] at this
              exact this
            have CB : Hid (∀ u, Below wr.heap.size wr u → Calls Try.prog 26 #[.map (some bb)] u fun e w' => e = .returned (.int .i64 (a1.size : Int)) ∧ Below u.heap.size u w') := fun u hu => by
              have := Qm.tallyB bb B u (HNk.out.below hu HNk.out.lt)
              rw [HTk.out, Qm.wrap_small _ (by omega) (by omega)] at this
              exact this
            clear HTk HIk HMk HNk HT'
            go_wp2_with fail
            refine (CA.out _ (Below.refl _ _)).mono ?_; rintro e w6 ⟨rfl, hb⟩
            have HB6 := Lib.hid hb
            clear hb
            go_wp2_with fail
            refine (CB.out _ HB6.out).mono ?_; rintro e w7 ⟨rfl, hb⟩
            have HB7 : Hid (Below w.heap.size w w7) := HBk.out.trans ((HB6.out.trans (hb.mono HB6.out.size)).mono HBk.out.size)
            clear hb
            go_wp2_with fail
            go_ret
            exact ⟨rfl, HB7.out⟩

set_option maxRecDepth 100000 in
theorem lifted (os : Os) (started : os.Started) (H : Type) (enc : TypeId × Value → H) :
    ReturnsInHanded {} Try.checked os 6 .any (Rows.quotaTallySpec.pre6 enc Try.prog Try.f6 Rows.quotaTallyRow.domain false) (Rows.quotaTallySpec.post enc Try.prog Try.f6 false true false false) := by
  refine returnsInHanded_of_change_sized (C := Try.checked) own started (by kernel_rfl) Try.func6
    (ChangeSpec.witness6 (enc := enc) (C := Try.checked) false ⟨#[], #[.slice none 0 0, .string ByteArray.empty], []⟩ 8 (by kernel_rfl) (by kernel_rfl) (by kernel_rfl) (by kernel_rfl)) ?_
  intro W base args ds gs before hval0 hW hcnd hsz0 _
  have hval : ∀ (j : Nat) t v, Try.f6.params[j]? = some t → args[j]? = some v → Value.okWide Try.prog W .any base t v := hval0
  have hW' := hW
  obtain ⟨p, q, hA0, hV, rfl, hfz, hnd⟩ := hW
  have hA : DataW.TrodAll enc Try.prog W 0 (fun _ => true) true Try.f6.params.toList args.toList ds p := hA0
  have hsz : (DataW.weightsEach Try.prog (Try.f6.params.toList ++ Rows.quotaTallySpec.plain.varTypes Try.prog) (ds ++ gs)).all (· ≤ reachBytes) = true := hsz0
  rw [Try.params6] at hA hval hsz
  obtain ⟨rfl, rfl⟩ := trodVars_none hV
  have hAk := hA
  have hlt : ∀ x ∈ p, x.block < W.heap.size := fun x hx => by simpa using hW'.lt x (List.mem_append.2 (.inl hx))
  obtain ⟨v0, vs0, d0, ds0, p0, q0, hargs, rfl, rfl, h0, r0⟩ := trodAll_cons hA
  obtain ⟨v1, vs1, d1, ds1, p1, q1, rfl, rfl, rfl, h1, r1⟩ := trodAll_cons r0
  obtain ⟨rfl, rfl, rfl⟩ := trodAll_nil r1
  obtain rfl : args = #[v0, v1] := by cases args; simp_all
  obtain ⟨a0, len0, cap0, rfl⟩ := okWide_slice Try.underlying48 (hval 0 48 v0 rfl rfl)
  obtain ⟨l0, w0, m0, u0⟩ := open_row_of Try.underlying48 Try.underlying51 (by kernel_rfl) h0
  have y0 : cap0 * 2 ≤ 140737488351232 := by
    rcases u0 with u0 | ⟨es, sp, rfl, u0⟩
    · omega
    · have := sized_slice hsz (j := 0) (t := 48) rfl rfl Try.underlying48
      rw [u0, show Try.prog.bytesOf 51 = 2 by kernel_rfl] at this
      exact this
  obtain ⟨a1, rfl, rfl, rfl, w1⟩ := open_string Try.underlying9 (hval 1 9 v1 rfl rfl) h1
  have z1 := sized_string hsz (j := 1) (t := 9) rfl rfl
  clear hA0 hval0 hsz0
  refine (walk a0 len0 cap0 l0 a1 y0 (by rw [Array.length_toList] at z1; exact z1) W w0).mono fun e W' ⟨he, hg⟩ => ?_
  subst he
  exact ⟨_, rfl, _, _, _, [], _, [], hW', (trodAll_cons_mk (shut_bool Try.underlying4 _) trodAll_mk0), trodAll_below laidOut hg _ _ _ _ (by kernel_rfl) hAk hlt, rfl, hg.frame _, fun h => by cases h⟩

theorem over : Rows.quotaTallyRow.holds Try.pinned (OpenSpec.ofChange Rows.quotaTallySpec) :=
  OpenClaim.holds_of_wide 6 Try.f6 rfl rfl rfl rfl rfl rfl rfl ⟨rfl, rfl, rfl, rfl, rfl⟩ rfl rfl rfl rfl rfl (by kernel_rfl) Try.func6 (by kernel_rfl)
    (of_decide_eq_true (by kernel_rfl)) (by unfold Func.isWrapper; first | (rw [if_pos (by decide +kernel)]; kernel_rfl) | (rw [if_neg (by decide +kernel)]; exact ⟨rfl, rfl⟩))
    (fun os started H enc _ => lifted os started H enc)

/-- the statement -/
theorem proved : Rows.QuotaTallySaid :=
  over
#print axioms proved

end Go.Proofs.Ytepoodfihemmcaa.quotaTally
