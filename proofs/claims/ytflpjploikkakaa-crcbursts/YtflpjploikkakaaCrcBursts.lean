/-
  For every input the law CrcBursts returns true and leaves its arguments as they were. No condition.
-/
import Derived.Test.YtflpjploikkakaaRows
import Derived.WalkKit
import Derived.ProofKit
import Derived.OpenShut
import Derived.SizedLaws
import Derived.Laws.BytesArg
import Derived.Laws.IdiomStrings
import Derived.Test.YtflpjploikkakaaExamples
import Derived.ShutString
import Derived.ChangeOld
import Derived.Below
namespace Go.Proofs.Ytflpjploikkakaa.crcBursts
open Go.ChangeShapes Go.WideShapes Go.ChangeAt Go.RowKit
open Go.ChangeMaps (open_string shut_string)
set_option linter.unusedVariables false

theorem own : ownKnob Try.prog.godebug = none := by kernel_rfl

theorem u32_of (a : Int) (h : (Lit.int .u32 a).wf = true) : ∃ x : BitVec 32, a = (x.toNat : Int) := by
  have hx : 0 ≤ a ∧ a ≤ 4294967295 := by simpa [Lit.wf, IntKind.min, IntKind.max, IntKind.signed, IntKind.bits] using h
  refine ⟨BitVec.ofNat 32 a.toNat, ?_⟩
  rw [BitVec.toNat_ofNat]
  omega
theorem len_list (a : ByteArray) : a.data.toList.length = a.size := by
  rw [Array.length_toList]; rfl
theorem app_list (a b : ByteArray) : (a ++ b).data.toList = a.data.toList ++ b.data.toList := by
  rw [ByteArray.data_append, Array.toList_append]

/-- block b holds the bytes l, none of them frozen -/
def Holds (u : World) (b : Nat) (l : List UInt8) : Prop :=
  ∀ j (h : j < l.length), u.cell? ⟨b, j, none⟩ = some (.int .u8 (l[j].toNat : Int)) ∧ u.frozen? ⟨b, j, none⟩ = false

theorem bytes_conv (S : ByteArray) (u : World) : ∃ cap u1, (convert 9 30 (.string S)).run Try.prog u = .ok (.slice (some ⟨u.heap.size, 0, none⟩) S.size cap) u1 ∧
    Holds u1 u.heap.size S.data.toList ∧ Below u.heap.size u u1 ∧ u.heap.size < u1.heap.size := by
  refine ⟨_, _, run_bytes_of_string (P := Try.prog) u 9 30 5 S Try.underlying9 Try.underlying30 Try.underlying5, ?_, ?_, ?_⟩
  · intro j hj
    have hj' : j < S.data.size := by simpa using hj
    constructor
    · have := World.cell?_alloc_mark u.drew (bytesRow S (grownCap u S.size 0 5)) 5 ((bytesRow S (grownCap u S.size 0 5)).size, (bytesRow S (grownCap u S.size 0 5)).size + 1) j
      refine Eq.trans this ?_
      rw [bytesRow_at _ _ _ hj']
      simp
    · have := World.frozen?_alloc_mark u.drew (bytesRow S (grownCap u S.size 0 5)) 5 (bytesRow S (grownCap u S.size 0 5)).size ((bytesRow S (grownCap u S.size 0 5)).size + 1) j
      refine Eq.trans this ?_
      have es : S.data.size = S.size := rfl
      have hsz : j < (bytesRow S (grownCap u S.size 0 5)).size := by unfold bytesRow; rw [Array.size_append, Array.size_map]; omega
      have : ¬ (bytesRow S (grownCap u S.size 0 5)).size ≤ j := by omega
      simp [this]
  · exact (Below.refl _ _).drew.alloc (Nat.le_refl _) _
  · show u.heap.size < (u.heap.push _).size
    simp

theorem str_conv (u : World) (b cap : Nat) (l : List UInt8) (h : Holds u b l) :
    (convert 30 9 (.slice (some ⟨b, 0, none⟩) l.length cap)).run Try.prog u = .ok (.string ⟨l.toArray⟩) u := by
  refine run_convert_bytes_back u 30 9 5 ⟨b, 0, none⟩ cap l Try.underlying30 Try.underlying5 Try.underlying9 ?_
  intro j hj
  have e : (⟨b, 0, none⟩ : Addr).add j = ⟨b, j, none⟩ := by unfold Addr.add; split <;> simp_all
  rw [e]
  exact (h j hj).1

theorem sum_list (L : List UInt8) (w : World) (h : L.length ≤ maxLen) :
    Calls Try.prog 9 #[.string ⟨L.toArray⟩] w fun e w' => e = .returned (.int .u32 ((M.sum L).toNat : Int)) ∧ w' = w := by
  have := sum_any ⟨L.toArray⟩ w (by simpa [ByteArray.size] using h)
  simpa using this

def patch (y : BitVec 32) (k : Nat) : Nat → List UInt8 → List UInt8
  | 0, l => l
  | j + 1, l => (patch y k j l).set (k + j) ((patch y k j l).getD (k + j) 0 ^^^ M.byteAt y j)
theorem patch_length (y : BitVec 32) (k j : Nat) (l : List UInt8) : (patch y k j l).length = l.length := by
  induction j with
  | zero => rfl
  | succ j ih => simp only [patch, List.length_set, ih]

theorem getD_at (l : List UInt8) (i : Nat) (h : i < l.length) : l.getD i 0 = l[i] := by
  rw [List.getD, List.getElem?_eq_getElem h]; rfl

theorem holds_set (u : World) (b i : Nat) (l : List UInt8) (x : UInt8) (h : Holds u b l) (hi : i < l.length) :
    Holds (u.setCell ⟨b, i, none⟩ (.int .u8 (x.toNat : Int))) b (l.set i x) := by
  intro j hj
  rw [List.length_set] at hj
  refine ⟨?_, ?_⟩
  · by_cases e : i = j
    · subst e
      rw [World.cell?_setCell_same _ _ _ (h i hi).1]
      simp
    · rw [World.cell?_setCell_other _ _ _ _ (by simp), (h j hj).1]
      simp [e]
  · rw [World.frozen?_setCell]; exact (h j hj).2

theorem patched (y : BitVec 32) (pre post : List UInt8) (b0 b1 b2 b3 : UInt8) :
    patch y pre.length 4 (pre ++ [b0, b1, b2, b3] ++ post) = pre ++ [b0 ^^^ M.byteAt y 0, b1 ^^^ M.byteAt y 1, b2 ^^^ M.byteAt y 2, b3 ^^^ M.byteAt y 3] ++ post := by
  simp [patch]

theorem patch_sum (y : BitVec 32) (k : Nat) (l : List UInt8) (h : k + 4 ≤ l.length) : M.sum (patch y k 4 l) = M.sum l ↔ y = 0#32 := by
  obtain ⟨pre, rest, rfl, hp⟩ : ∃ pre rest, l = pre ++ rest ∧ pre.length = k := ⟨l.take k, l.drop k, (List.take_append_drop k l).symm, by rw [List.length_take]; omega⟩
  subst hp
  rw [List.length_append] at h
  match rest, h with
  | [], h => exact absurd h (by simp)
  | [_], h => exact absurd h (by simp)
  | [_, _], h => exact absurd h (by simp)
  | [_, _, _], h => exact absurd h (by simp)
  | b0 :: b1 :: b2 :: b3 :: post, _ =>
    have e : pre ++ b0 :: b1 :: b2 :: b3 :: post = pre ++ [b0, b1, b2, b3] ++ post := by simp
    rw [e, patched]
    exact M.burst pre post b0 b1 b2 b3 y

theorem xor_byte (b : UInt8) (y : BitVec 32) (j : Nat) : bits .xor .u8 (b.toNat : Int) ((y.toNat : Int) / 2 ^ (8 * j) % 256) = ((b ^^^ M.byteAt y j).toNat : Int) := by
  have e : ((y.toNat : Int) / 2 ^ (8 * j) % 256) = ((M.byteAt y j).toNat : Int) := by
    unfold M.byteAt
    rw [UInt8.toNat_ofNat']
    simp
  rw [e, u8_xor_nat _ _ b.toNat_lt (M.byteAt y j).toNat_lt, UInt8.toNat_xor]

theorem check_list (L : List UInt8) (t : BitVec 32) (w : World) (h : L.length ≤ maxLen) :
    Calls Try.prog 10 #[.string ⟨L.toArray⟩, .int .u32 (t.toNat : Int)] w fun e w' => e = .returned (.bool (M.sum L == t)) ∧ w' = w := by
  have := check_any ⟨L.toArray⟩ t w (by simpa [ByteArray.size] using h)
  simpa using this

theorem walk_at (a : ByteArray) (n : Nat) (hat : n < 65536) (y : BitVec 32) (z0 : a.size ≤ 140737488351232) (w : World) :
    Calls Try.prog 5 #[.string a, .int .u16 (n : Int), .int .u32 (y.toNat : Int)] w fun e w' => e = .returned (.bool true) ∧ Below w.heap.size w w' := by
  obtain ⟨cap, u1, hcv, hh, hb, hz⟩ := bytes_conv (a ++ { data := #[49, 50, 51, 52, 53, 54, 55, 56] }) w
  have hcs := str_conv u1 w.heap.size cap _ hh
  have sz : (a ++ { data := #[49, 50, 51, 52, 53, 54, 55, 56] }).size = a.size + 8 := by simp; rfl
  have sl := len_list (a ++ { data := #[49, 50, 51, 52, 53, 54, 55, 56] })
  rw [sz] at hcv sl
  rw [sl] at hcs
  generalize (a ++ { data := #[49, 50, 51, 52, 53, 54, 55, 56] } : ByteArray).data.toList = L at hh hcs sl
  have SL : Hid _ := sl
  have HH : Hid _ := hh
  have S1 : Hid _ := fun w => sum_list L w (by unfold maxLen; omega)
  clear sl hh sz
  go_enter Try.func5, Try.ntmps5
  go_wp2_with fail
  refine (examples_any _).mono ?_; rintro e w' ⟨rfl, rfl⟩
  go_wp2_with fail
  refine (S1.out _).mono ?_; rintro e w1 ⟨rfl, rfl⟩
  go_wp2_with fail
  obtain ⟨k, hk, hk4⟩ : ∃ k : Nat, ((n : Int) % ((a.size : Int) + 8 - 4)) = (k : Int) ∧ k + 4 < a.size + 8 := by
    refine ⟨((n : Int) % ((a.size : Int) + 8 - 4)).toNat, ?_, ?_⟩
    · have := Int.emod_nonneg (n : Int) (b := (a.size : Int) + 8 - 4) (by omega); omega
    · have := Int.emod_lt_of_pos (n : Int) (b := (a.size : Int) + 8 - 4) (by omega)
      have := Int.emod_nonneg (n : Int) (b := (a.size : Int) + 8 - 4) (by omega)
      omega
  rw [hk]
  clear hk
  go_loopw [11] (fun i wr => ∃ j : Nat, j ≤ 4 ∧ i = .int .i64 j ∧ Holds wr w'.heap.size (patch y k j L) ∧ Below w'.heap.size w' wr ∧ w'.heap.size < wr.heap.size)
    (fun i _ => 4 - (intOf i).toNat)
  case atStart => exact ⟨0, by omega, rfl, HH.out, hb, hz⟩
  case round =>
    obtain ⟨j, hj, rfl, hhr, hbr, hzr⟩ := hrel
    by_cases hlt : j < 4
    · have hpl := patch_length y k j L
      rw [SL.out] at hpl
      have hc := (hhr (k + j) (by omega)).1
      have hf := (hhr (k + j) (by omega)).2
      have hnx := holds_set wr w'.heap.size (k + j) (patch y k j L) ((patch y k j L).getD (k + j) 0 ^^^ M.byteAt y j) hhr (by omega)
      have HN : Hid (Holds (wr.setCell ⟨w'.heap.size, k + j, none⟩ (.int .u8 (((patch y k j L)[k + j]'(by omega) ^^^ M.byteAt y j).toNat : Int))) w'.heap.size (patch y k (j + 1) L)) := by
        rw [getD_at _ _ (by omega : k + j < (patch y k j L).length)] at hnx
        show Holds _ _ ((patch y k j L).set (k + j) ((patch y k j L).getD (k + j) 0 ^^^ M.byteAt y j))
        rw [getD_at _ _ (by omega : k + j < (patch y k j L).length)]
        exact hnx
      clear hnx
      generalize (patch y k j L)[k + j]'(by omega) = bb at hc HN
      have hbb := bb.toNat_lt
      have HB : Hid _ := hbr
      clear hhr hbr hpl hb hz hcs hcv
      go_wp2_with fail
      go_region
      go_wp2_with fail
      go_roundw
      case rel =>
        refine ⟨j + 1, by omega, by go_num, ?_, ?_, ?_⟩
        · rw [xor_byte]; exact HN.out
        · exact (HB.out.setCell (by exact Nat.le_refl _) _).drew
        · simpa using hzr
      case measure => simp [intOf]; omega
    · have hj4 : j = 4 := by omega
      subst hj4
      have hpl := patch_length y k 4 L
      have hps := patch_sum y k L (by rw [SL.out]; omega)
      rw [SL.out] at hpl
      have hcs2 := str_conv wr w'.heap.size cap _ hhr
      rw [hpl] at hcs2
      have S2 : Hid _ := fun w => sum_list (patch y k 4 L) w (by unfold maxLen; omega)
      have S3 : Hid _ := fun w => check_list (patch y k 4 L) (M.sum L) w (by unfold maxLen; omega)
      have HB : Hid _ := hbr
      generalize patch y k 4 L = P at hcs2 S2 S3 hps
      generalize M.sum P = p at S2 S3 hps
      generalize M.sum L = q at S3 hps ⊢
      clear hhr hbr hpl hb hz hcs hcv S1
      by_cases hy : y = 0#32
      · have hpq := hps.2 hy
        subst hpq
        subst hy
        have e1 : (p == p) = true := beq_self_eq_true _
        go_wp2_with fail
        refine (S2.out _).mono ?_; rintro e w2 ⟨rfl, rfl⟩
        go_wp2_with fail
        refine (S3.out _).mono ?_; rintro e w2 ⟨rfl, rfl⟩
        go_wp2_with fail
        go_ret
        exact ⟨rfl, HB.out⟩
      · have hpq : ¬ p = q := fun h => hy (hps.1 h)
        have e1 : (p == q) = false := by simp [hpq]
        have e2 : ((p.toNat : Int) == (q.toNat : Int)) = false := by rw [eq_nat]; exact e1
        have e3 : ((y.toNat : Int) == 0) = false := by
          have := eq_nat y 0#32
          rw [show (((0#32 : BitVec 32).toNat : Nat) : Int) = 0 from rfl] at this
          rw [this]; simp [hy]
        clear hps hy hpq
        go_wp2_with fail
        refine (S2.out _).mono ?_; rintro e w2 ⟨rfl, rfl⟩
        go_wp2_with fail
        refine (S3.out _).mono ?_; rintro e w2 ⟨rfl, rfl⟩
        go_wp2_with fail
        go_ret
        exact ⟨rfl, HB.out⟩
theorem walk (a0 : ByteArray) (a1 : Int) (a2 : Int) (w0 : a0.size ≤ maxLen) (w1 : (Lit.int .u16 a1).wf = true) (w2 : (Lit.int .u32 a2).wf = true) (z0 : a0.data.toList.length ≤ reachBytes) (w : World) :
    Calls Try.prog 5 #[.string a0, .int .u16 a1, .int .u32 a2] w fun e w' => e = .returned (.bool true) ∧ Below w.heap.size w w' := by
  rw [len_list] at z0
  unfold reachBytes at z0
  have hx : 0 ≤ a1 ∧ a1 ≤ 65535 := by simpa [Lit.wf, IntKind.min, IntKind.max, IntKind.signed, IntKind.bits] using w1
  obtain ⟨n, rfl⟩ := Int.eq_ofNat_of_zero_le hx.1
  obtain ⟨y, rfl⟩ := u32_of a2 w2
  exact walk_at a0 n (by omega) y z0 w

set_option maxRecDepth 100000 in
theorem lifted (os : Os) (started : os.Started) (H : Type) (enc : TypeId × Value → H) :
    ReturnsInHanded {} Try.checked os 5 .any (Rows.crcBurstsSpec.pre6 enc Try.prog Try.f5 Rows.crcBurstsRow.domain false) (Rows.crcBurstsSpec.post enc Try.prog Try.f5 false true false false) := by
  refine returnsInHanded_of_change_sized (C := Try.checked) own started (by kernel_rfl) Try.func5
    (ChangeSpec.witness6 (enc := enc) (C := Try.checked) false ⟨#[], #[.string ByteArray.empty, .int .u16 0, .int .u32 0], []⟩ 8 (by kernel_rfl) (by kernel_rfl) (by kernel_rfl) (by kernel_rfl)) ?_
  intro W base args ds gs before hval0 hW hcnd hsz0 _
  have hval : ∀ (j : Nat) t v, Try.f5.params[j]? = some t → args[j]? = some v → Value.okWide Try.prog W .any base t v := hval0
  have hW' := hW
  obtain ⟨p, q, hA0, hV, rfl, hfz, hnd⟩ := hW
  have hA : DataW.TrodAll enc Try.prog W 0 (fun _ => true) true Try.f5.params.toList args.toList ds p := hA0
  have hsz : (DataW.weightsEach Try.prog (Try.f5.params.toList ++ Rows.crcBurstsSpec.plain.varTypes Try.prog) (ds ++ gs)).all (· ≤ reachBytes) = true := hsz0
  rw [Try.params5] at hA hval hsz
  obtain ⟨v0, vs0, d0, ds0, p0, q0, hargs, rfl, rfl, h0, r0⟩ := trodAll_cons hA
  obtain ⟨v1, vs1, d1, ds1, p1, q1, rfl, rfl, rfl, h1, r1⟩ := trodAll_cons r0
  obtain ⟨v2, vs2, d2, ds2, p2, q2, rfl, rfl, rfl, h2, r2⟩ := trodAll_cons r1
  obtain ⟨rfl, rfl, rfl⟩ := trodAll_nil r2
  obtain rfl : args = #[v0, v1, v2] := by cases args; simp_all
  obtain ⟨rfl, rfl⟩ := trodVars_none hV
  obtain ⟨a0, rfl, rfl, rfl, w0⟩ := open_string Try.underlying9 (hval 0 9 v0 rfl rfl) h0
  obtain ⟨a1, rfl, rfl, rfl, w1⟩ := open_int Try.underlying29 (hval 1 29 v1 rfl rfl) h1
  obtain ⟨a2, rfl, rfl, rfl, w2⟩ := open_int Try.underlying22 (hval 2 22 v2 rfl rfl) h2
  have z0 := sized_string hsz (j := 0) (t := 9) rfl rfl
  clear hA0 hval0 hsz0
  simp only [List.append_nil] at hW'
  refine (walk a0 a1 a2 w0 w1 w2 z0 W).mono fun e W' ⟨he, hg⟩ => ?_
  subst he
  exact ⟨_, rfl, _, _, _, [], [], [], hW', (trodAll_cons_mk (shut_bool Try.underlying4 _) trodAll_mk0), (trodAll_cons_mk (shut_string Try.underlying9 w0) (trodAll_cons_mk (shut_int Try.underlying29 w1) (trodAll_cons_mk (shut_int Try.underlying22 w2) trodAll_mk0))), rfl, hg.frame _, fun h => by cases h⟩

theorem over : Rows.crcBurstsRow.holds Try.pinned (OpenSpec.ofChange Rows.crcBurstsSpec) :=
  OpenClaim.holds_of_wide 5 Try.f5 rfl rfl rfl rfl rfl rfl rfl ⟨rfl, rfl, rfl, rfl, rfl⟩ rfl rfl rfl rfl rfl (by kernel_rfl) Try.func5 (by kernel_rfl)
    (of_decide_eq_true (by kernel_rfl)) (by unfold Func.isWrapper; first | (rw [if_pos (by decide +kernel)]; kernel_rfl) | (rw [if_neg (by decide +kernel)]; exact ⟨rfl, rfl⟩))
    (fun os started H enc _ => lifted os started H enc)

/-- the statement -/
theorem proved : Rows.CrcBurstsSaid :=
  over
#print axioms proved
end Go.Proofs.Ytflpjploikkakaa.crcBursts
