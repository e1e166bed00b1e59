/- A region that draws its order: its operations make memory, and what each yields is known by what it is in memory: one walk in the order of the text, and a forced end. -/
import Derived.Test.YtmajkapapbhabaaMem

import Derived.StillTail

import Derived.Test.YtmajkapapbhabaaRowGen

namespace Go.Proofs.Ytmajkapapbhabaa

open Go.RowKit

set_option linter.unusedVariables false

set_option linter.unusedSimpArgs false

/-- what an operation yields: its form, what it is in memory (more memory leaves it), and that there is one -/
structure Spc where
  S : Value → Prop
  T : World → Value → Prop
  st : ∀ u u' v, Below u.heap.size u u' → T u v → T u' v
  w0 : Value
  hw : S w0
/-- just this value -/
def Spc.eq (v : Value) : Spc := ⟨fun x => x = v, fun _ _ => True, fun _ _ _ _ _ => trivial, v, rfl⟩
def Oper.relUpon (P : Program) (u : World) (s : Spc) : Result Next → Prop
  | .ok (.value v) u' => Below u.heap.size u u' ∧ s.S v ∧ s.T u' v
  | .ok .skip u' => Below u.heap.size u u' ∧ s.S undef ∧ s.T u' undef
  | .ok (.enter f args) u' => Below u.heap.size u u' ∧ Calls P f args u' (fun e u'' => ∃ v, e = .returned v ∧ Below u.heap.size u u'' ∧ s.S v ∧ s.T u'' v)
  | _ => False
abbrev Facts := Nat → World → Prop
def updF (Φ : Facts) (i : Nat) (F : World → Prop) : Facts := fun k => if k = i then F else Φ k
theorem updF_comm (Φ : Facts) {i j : Nat} (h : j ≠ i) (F G : World → Prop) : updF (updF Φ i F) j G = updF (updF Φ j G) i F := by
  funext k
  unfold updF
  by_cases h1 : k = j
  · by_cases h2 : k = i
    · exact absurd (h1.symm.trans h2) h
    · simp [h1, h2, h]
  · simp [h1]
section

variable {P : Program} {ops : Array Oper} {md : Region.Mode} {C : World → Prop}

def needF (md : Region.Mode) (o : Oper) (Φ : Facts) (u : World) : Prop := ∀ e ∈ o.after, Region.binds md e = true → Φ e.on u
def oblF (P : Program) (md : Region.Mode) (ops : Array Oper) (C : World → Prop) (s : Spc) (o : Oper) (Φ : Facts) (a : Act) : Prop :=
  (Region.wanted o (yielded ops a.tmps) = true ∧ ∀ u, C u → needF md o Φ u → Oper.relUpon P u s ((execOp a.eval o).run P u)) ∨
  (Region.wanted o (yielded ops a.tmps) = false ∧ s.S undef ∧ ∀ u, s.T u undef)
theorem oblF_put {s : Spc} {oi oj : Oper} {Φ : Facts} {a : Act} {v : Value} {i : Nat} {F : World → Prop} (h1 : ∀ d, oi.dst = some d → d ∉ oj.looksAt ops) (hsj : ∀ cs b, oj.op ≠ .select cs b) (hn : ∀ e ∈ oj.after, Region.binds md e = true → e.on ≠ i) :
    oblF P md ops C s oj (updF Φ i F) (a.put oi.dst v) ↔ oblF P md ops C s oj Φ a := by
  unfold oblF
  rw [wanted_put oj a oi.dst v h1, execOp_put oj hsj a oi.dst v h1]
  have e : ∀ u, needF md oj (updF Φ i F) u ↔ needF md oj Φ u := fun u => by
    unfold needF updF
    constructor
    · intro h e he hb
      have := h e he hb
      rwa [if_neg (hn e he hb)] at this
    · intro h e he hb
      rw [if_neg (hn e he hb)]
      exact h e he hb
  simp only [e]
def wpAnyR (P : Program) (md : Region.Mode) (ops : Array Oper) (C : World → Prop) (n : Nat) (Ts : Nat → Spc) (L : Array Bool → Act → Facts → Prop) : Nat → Array Bool → Act → Facts → Prop
  | 0, listed, a, Φ => L listed a Φ
  | f + 1, listed, a, Φ => Region.ready md ops listed ≠ [] ∧ ∀ i ∈ Region.ready md ops listed, i < n ∧ ∃ o, ops[i]? = some o ∧ oblF P md ops C (Ts i) o Φ a ∧
      ∀ v, (Ts i).S v → wpAnyR P md ops C n Ts L f (listed.setIfInBounds i true) (a.put o.dst v) (updF Φ i (fun u => (Ts i).T u v))
theorem wpAny_of_rel {n g : Nat} {Ts : Nat → Spc} {L : Array Bool → Act → Facts → Prop} {Q' : Exit → Act → World → Prop} (hC : ∀ u u', C u → Below u.heap.size u u' → C u')
    (hL : ∀ listed a Φ u, L listed a Φ → C u → (∀ k, Φ k u) → wpAny P md ops Q' g listed a u) :
    ∀ (f : Nat) (listed : Array Bool) (a : Act) (Φ : Facts) (u : World), C u → (∀ k u u', Below u.heap.size u u' → Φ k u → Φ k u') → (∀ k, Φ k u) → wpAnyR P md ops C n Ts L f listed a Φ → wpAny P md ops Q' (f + g) listed a u
  | 0, listed, a, Φ, u, hu, hs, hf, h => by rw [Nat.zero_add]; exact hL _ _ _ _ h hu hf
  | f + 1, listed, a, Φ, u, hu, hs, hf, h => by
    rw [show f + 1 + g = (f + g) + 1 by omega]
    refine ⟨fun h0 => absurd h0 h.1, fun i hi => ?_⟩
    obtain ⟨_, o, ho, hob, hnext⟩ := h.2 i hi
    have key : ∀ v u', Below u.heap.size u u' → (Ts i).S v → (Ts i).T u' v → wpAny P md ops Q' (f + g) (listed.setIfInBounds i true) (a.put o.dst v) u' := fun v u' hb hS hT => by
      refine wpAny_of_rel hC hL f _ _ _ u' (hC u u' hu hb) ?_ ?_ (hnext v hS)
      · intro k x x' hx
        unfold updF
        by_cases hk : k = i
        · simp only [hk, if_true]; exact (Ts i).st x x' v hx
        · simp only [hk, if_false]; exact hs k x x' hx
      · intro k
        unfold updF
        by_cases hk : k = i
        · simp only [hk, if_true]; exact hT
        · simp only [hk, if_false]; exact hs k u u' hb (hf k)
    unfold wpOp
    simp only [ho]
    rcases hob with ⟨hw, hr⟩ | ⟨hw, hS, hT⟩
    · rw [if_pos hw]
      left
      have h3 := hr u hu (fun e _ _ => hf e.on)
      unfold Oper.wp
      generalize (execOp a.eval o).run P u = r at *
      cases r with
      | ok nx w' =>
        cases nx <;> simp only [Oper.relUpon] at h3 <;> simp only [Oper.upon]
        case value v => exact key v w' h3.1 h3.2.1 h3.2.2
        case skip => exact key undef w' h3.1 h3.2.1 h3.2.2
        case enter f' args => exact h3.2.mono fun e w'' ⟨v, he, hb, hS, hT⟩ => by subst he; exact key v w'' hb hS hT
      | halt x w' => simp only [Oper.relUpon] at h3
    · rw [if_neg (by rw [hw]; decide)]
      exact key undef u (Below.refl _ _) hS (hT u)
theorem wpAnyR_first {n i : Nat} {oi : Oper} {Ts : Nat → Spc} {L : Array Bool → Act → Facts → Prop} (hi : ops[i]? = some oi) (hsel : ∀ (j : Nat) (o : Oper) cs b, ops[j]? = some o → o.op ≠ .select cs b)
    (htail : ∀ listed, HeadInv md ops n listed → ∀ i, i < n → listed.getD i true = false → ∀ t, n ≤ t → t ∉ Region.ready md ops listed) (hin : i < n)
    (hdone : ∀ listed a Φ, L listed a Φ → ∀ j ∈ Region.ready md ops listed, n ≤ j) :
    ∀ (f : Nat) (listed : Array Bool) (a : Act) (Φ : Facts), HeadInv md ops n listed →
      (∀ j oj, ops[j]? = some oj → j ≠ i → listed.getD j true = false → (∀ e ∈ oj.after, Region.binds md e = true → e.on ≠ i) → oi.apart ops oj = true) →
      i ∈ Region.ready md ops listed → oblF P md ops C (Ts i) oi Φ a →
      (∀ v, (Ts i).S v → wpAnyR P md ops C n Ts L f (listed.setIfInBounds i true) (a.put oi.dst v) (updF Φ i (fun u => (Ts i).T u v))) → wpAnyR P md ops C n Ts L (f + 1) listed a Φ := by
  intro f
  induction f with
  | zero =>
    intro listed a Φ inv _ hr hy H
    have hun := (mem_ready.1 hr).1
    refine ⟨fun h => (by rw [h] at hr; cases hr), fun j hj => ?_⟩
    have hjn : j < n := by
      rcases Nat.lt_or_ge j n with h | h
      · exact h
      · exact absurd hj (htail listed inv i hin hun j h)
    refine ⟨hjn, ?_⟩
    by_cases hji : j = i
    · subst hji; exact ⟨oi, hi, hy, H⟩
    · have := hdone _ _ _ (H _ (Ts i).hw) j (ready_mono hj hji)
      omega
  | succ f ih =>
    intro listed a Φ inv hfree hr hy H
    have hun := (mem_ready.1 hr).1
    refine ⟨fun h => (by rw [h] at hr; cases hr), fun j hj => ?_⟩
    have hjn : j < n := by
      rcases Nat.lt_or_ge j n with h | h
      · exact h
      · exact absurd hj (htail listed inv i hin hun j h)
    refine ⟨hjn, ?_⟩
    by_cases hji : j = i
    · subst hji; exact ⟨oi, hi, hy, H⟩
    · obtain ⟨hjun, oj, hoj, hall⟩ := mem_ready.1 hj
      obtain ⟨_, oi', hoi', halli⟩ := mem_ready.1 hr
      obtain rfl : oi' = oi := Option.some.inj (hoi'.symm.trans hi)
      have hnot : ∀ e ∈ oj.after, Region.binds md e = true → e.on ≠ i := fun e he hb heq => by
        have h1 := hall e he hb
        rw [heq, getD_both hun] at h1
        cases h1
      have hnoti : ∀ e ∈ oi'.after, Region.binds md e = true → e.on ≠ j := fun e he hb heq => by
        have h1 := halli e he hb
        rw [heq, getD_both hjun] at h1
        cases h1
      obtain ⟨p1, p2, p3⟩ := Oper.apart_spec (hfree j oj hoj hji hjun hnot)
      have hfree' : ∀ k ok, ops[k]? = some ok → k ≠ i → (listed.setIfInBounds j true).getD k true = false →
          (∀ e ∈ ok.after, Region.binds md e = true → e.on ≠ i) → oi'.apart ops ok = true := fun k ok hk hki hun hno => by
        refine hfree k ok hk hki ?_ hno
        by_cases hjk : j = k
        · subst hjk; exact hjun
        · rw [getD_set_ne true hjk] at hun; exact hun
      refine ⟨oj, hoj, ?_, fun vj hvj => ?_⟩
      · obtain ⟨_, oj', hoj', hob, _⟩ := (H _ (Ts i).hw).2 j (ready_mono hj hji)
        obtain rfl : oj' = oj := Option.some.inj (hoj'.symm.trans hoj)
        exact (oblF_put p1 (fun cs b => hsel j _ cs b hoj) hnot).1 hob
      · refine ih (listed.setIfInBounds j true) _ _ (inv.set hj hjn) hfree' (ready_mono hr (Ne.symm hji)) ((oblF_put p3 (fun cs b => hsel i _ cs b hi) hnoti).2 hy) fun v hv => ?_
        obtain ⟨_, oj', hoj', _, hnx⟩ := (H v hv).2 j (ready_mono hj hji)
        obtain rfl : oj' = oj := Option.some.inj (hoj'.symm.trans hoj)
        have := hnx vj hvj
        rw [Array.setIfInBounds_comm _ _ hji, ← Act.put_comm a v vj p2, ← updF_comm Φ hji]
        exact this
/-- facts by their places, the last one ahead -/
def ofL (Fs : List (World → Prop)) : Facts := fun k u => ∀ F, Fs.reverse[k]? = some F → F u
theorem ofL_add (Fs : List (World → Prop)) (F : World → Prop) : updF (ofL Fs) Fs.length F = ofL (F :: Fs) := by
  funext k u
  unfold updF ofL
  rw [List.reverse_cons]
  have hl : Fs.reverse.length = Fs.length := List.length_reverse
  by_cases hk : k = Fs.length
  · subst hk
    rw [if_pos rfl, List.getElem?_append_right (by omega), hl, Nat.sub_self]
    simp
  · rw [if_neg hk]
    rcases Nat.lt_or_ge k Fs.length with h | h
    · rw [List.getElem?_append_left (by omega)]
    · rw [List.getElem?_eq_none (by omega), List.getElem?_eq_none (by simp; omega)]
theorem ofL_all {Fs : List (World → Prop)} {u : World} (h : ∀ k, ofL Fs k u) : ∀ (k : Nat) (F : World → Prop), Fs[k]? = some F → F u := fun k F hF => by
  have hk : k < Fs.length := (List.getElem?_eq_some_iff.1 hF).1
  refine h (Fs.length - 1 - k) F ?_
  rw [List.getElem?_reverse (by omega), show Fs.length - 1 - (Fs.length - 1 - k) = k by omega]
  exact hF
/-- the walk in the order of the text -/
def RQ (P : Program) (md : Region.Mode) (ops : Array Oper) (C : World → Prop) (Lq : Act → List (World → Prop) → Prop) : List Oper → List Spc → List (World → Prop) → Act → Prop
  | [], _, Fs, a => Lq a Fs
  | o :: rest, s :: ts, Fs, a => oblF P md ops C s o (ofL Fs) a ∧ ∀ v, s.S v → RQ P md ops C Lq rest ts ((fun u => s.T u v) :: Fs) (a.put o.dst v)
  | _ :: _, [], _, _ => False
theorem wpAnyR_lex {n : Nat} {Lq : Act → List (World → Prop) → Prop} {B : Array Bool → Nat → Bool} {hd : Nat → Nat → Array Bool → Bool} (hsel : Region.noSelect ops = true)
    (htail : ∀ listed, HeadInv md ops n listed → ∀ i, i < n → listed.getD i true = false → ∀ t, n ≤ t → t ∉ Region.ready md ops listed)
    (hd0 : ∀ k listed, hd 0 k listed = true → B listed k = true) (hd1 : ∀ f k listed, hd (f + 1) k listed = true → k ∈ Region.ready md ops listed ∧ Region.free md ops listed k = true ∧ hd f (k + 1) (listed.setIfInBounds k true) = true)
    (hB : ∀ listed, B listed n = true → ∀ j ∈ Region.ready md ops listed, n ≤ j) (Ts : Nat → Spc) :
    ∀ (l : List Oper) (ts : List Spc) (k : Nat) (Fs : List (World → Prop)) (listed : Array Bool) (a : Act), (∀ j, j < l.length → l[j]? = ops[k + j]?) → (∀ j s, ts[j]? = some s → Ts (k + j) = s) → k + l.length = n → Fs.length = k → HeadInv md ops n listed →
    hd l.length k listed = true → RQ P md ops C Lq l ts Fs a →
    wpAnyR P md ops C n Ts (fun listed' a' Φ => B listed' n = true ∧ ∃ Fs, Φ = ofL Fs ∧ Lq a' Fs) l.length listed a (ofL Fs)
  | [], ts, k, Fs, listed, a, _, _, hk, _, _, hD, h => by
    have : k = n := by simpa using hk
    subst this
    exact ⟨hd0 _ _ (by simpa using hD), Fs, rfl, h⟩
  | o :: l, [], k, Fs, listed, a, _, _, _, _, _, _, h => h.elim
  | o :: l, s :: ts, k, Fs, listed, a, hl, hT, hk, hF, inv, hD, h => by
    have h0 : ops[k]? = some o := by simpa using (hl 0 (by simp)).symm
    obtain ⟨hr, hf, hD'⟩ := hd1 _ _ _ hD
    have hkn : k < n := by simp only [List.length_cons] at hk; omega
    have hs : Ts k = s := by simpa using hT 0 s rfl
    refine wpAnyR_first h0 (Region.noSelect_spec hsel) htail hkn (fun listed' a' Φ hL => hB _ hL.1) l.length listed a _ inv (Region.free_spec h0 hf) hr (by rw [hs]; exact h.1) fun v hv => ?_
    rw [hs] at hv
    have := wpAnyR_lex hsel htail hd0 hd1 hB Ts l ts (k + 1) ((fun u => s.T u v) :: Fs) (listed.setIfInBounds k true) (a.put o.dst v) (fun j hj => by have := hl (j + 1) (by simp; omega); simpa [Nat.add_assoc, Nat.add_comm 1 j] using this)
      (fun j s' hj => by have := hT (j + 1) s' (by simpa using hj); rw [show k + 1 + j = k + (j + 1) by omega]; exact this) (by simp only [List.length_cons] at hk; omega) (by simp [hF]) (inv.set hr hkn) hD' (h.2 v hv)
    rw [← ofL_add, hF] at this
    rw [hs]
    exact this
theorem headInv0 (md : Region.Mode) (ops : Array Oper) (n : Nat) : HeadInv md ops n (Array.replicate ops.size false) :=
  ⟨by simp, fun j oj _ hl => (by rw [getD_replicate_false] at hl; cases hl), fun t _ ht => getD_in (by simpa using ht) (getD_replicate_false _ _)⟩
/-- a walk behind a name that no reckoning opens -/
structure RW (P : Program) (ops : Array Oper) (C : World → Prop) (Lq : Act → List (World → Prop) → Prop) (l : List Oper) (ts : List Spc) (Fs : List (World → Prop)) (a : Act) : Prop where
  out : RQ P .any ops C Lq l ts Fs a
/-- all of the region by one walk -/
theorem region_rel {id : Nat} {Q : Exit → Act → World → Prop} {a : Act} {w : World} {l : List Oper} (ts : List Spc) (hm : P.follows .mixedOrders = true) (hB : Region.lexB .any l.toArray = true)
    (h : RW P l.toArray (fun u => Below w.heap.size w u) (fun a' Fs => ∀ u, Below w.heap.size w u → (∀ (k : Nat) (F : World → Prop), Fs[k]? = some F → F u) → Q .normal a' u) l ts [] a) : (Code.region id l.toArray true).wp P Q a w := by
  simp only [Region.lexB, Bool.and_eq_true] at hB
  refine wp_region_any hm ?_
  have H := wpAnyR_lex (P := P) (ops := l.toArray) (md := .any) (n := l.length) (C := fun u => Below w.heap.size w u) (B := fun listed _ => (Region.ready .any l.toArray listed).isEmpty) (hd := Region.lexFrom .any l.toArray) hB.1
    (fun listed _ i _ _ t ht hr => by
      obtain ⟨_, ot, hot, _⟩ := mem_ready.1 hr
      have := (Array.getElem?_eq_some_iff.1 hot).1
      simp at this
      omega)
    (fun k listed hh => hh) (fun f k listed hh => by
      simp only [Region.lexFrom, Bool.and_eq_true] at hh
      exact ⟨by simpa using hh.1.1, hh.1.2, hh.2⟩)
    (fun listed hh j hj => by rw [List.isEmpty_iff.1 hh] at hj; cases hj) (fun k => ts.getD k (Spc.eq undef)) l ts 0 [] (Array.replicate l.toArray.size false) a (fun j _ => by simp) (fun j s hj => by rw [Nat.zero_add]; simp [hj]) (by simp) rfl (headInv0 _ _ _) (by simpa using hB.2) h.out
  have := wpAny_of_rel (g := 0) (Q' := Q) (P := P) (fun u u' (hu : Below w.heap.size w u) (hb : Below u.heap.size u u') => hu.trans (hb.mono hu.size)) (fun listed a' Φ u hL hu hf => by
    obtain ⟨hr, Fs, rfl, hq⟩ := hL
    exact ⟨List.isEmpty_iff.1 hr, hq u hu (ofL_all hf)⟩) l.length _ a _ { w with drawn := w.drawn + 1 } (Below.drew (Below.refl _ _)) (fun k u u' _ hh F hF => by simp at hF) (fun k F hF => by simp at hF) H
  simpa using this
/-- the first n by one walk, the others come in one order alone -/
theorem region_relt {id : Nat} {Q : Exit → Act → World → Prop} {a : Act} {w : World} {l : List Oper} (n : Nat) (ts : List Spc) (hm : P.follows .mixedOrders = true) (hB : Region.lexTailB .any l.toArray n = true)
    (h : RW P l.toArray (fun u => Below w.heap.size w u) (fun a' Fs => ∀ u, Below w.heap.size w u → (∀ (k : Nat) (F : World → Prop), Fs[k]? = some F → F u) → wpList P l.toArray Q (l.drop n) a' u) (l.take n) ts [] a) : (Code.region id l.toArray true).wp P Q a w := by
  simp only [Region.lexTailB, Bool.and_eq_true, decide_eq_true_eq] at hB
  obtain ⟨⟨⟨⟨hsel, hn⟩, hs⟩, hc⟩, hlex⟩ := hB
  have hn' : n < l.length := by simpa using hn
  have htl : (l.take n).length = n := by simp; omega
  have hdl : (l.drop n).length = l.toArray.size - n := by simp
  refine wp_region_any hm ?_
  have H := wpAnyR_lex (P := P) (ops := l.toArray) (md := .any) (n := n) (C := fun u => Below w.heap.size w u) (B := fun listed k => Region.seqB .any l.toArray (l.toArray.size - n) k listed) (hd := Region.lexHead .any l.toArray (l.toArray.size - n)) hsel
    (fun listed inv i hi hun t ht => tail_waits hs hc hn inv _ i rfl hi hun t ht)
    (fun k listed hh => hh) (fun f k listed hh => by
      simp only [Region.lexHead, Bool.and_eq_true] at hh
      exact ⟨by simpa using hh.1.1, hh.1.2, hh.2⟩)
    (fun listed hh => seqB_ready hh) (fun k => ts.getD k (Spc.eq undef)) (l.take n) ts 0 [] (Array.replicate l.toArray.size false) a (fun j hj => by
      have hj' : j < n := by rw [htl] at hj; exact hj
      simp [hj']) (fun j s hj => by rw [Nat.zero_add]; simp [hj]) (by simpa using htl) rfl (headInv0 _ _ _) (by rw [htl]; exact hlex) h.out
  have := wpAny_of_rel (g := l.toArray.size - n) (Q' := Q) (P := P) (fun u u' (hu : Below w.heap.size w u) (hb : Below u.heap.size u u') => hu.trans (hb.mono hu.size)) (fun listed a' Φ u hL hu hf => by
    obtain ⟨hr, Fs, rfl, hq⟩ := hL
    have := wpAny_of_seq (md := .any) (Q' := Q) (l.drop n) n listed a' u (fun j => by simp [List.getElem?_drop]) (by rw [hdl]; exact hr) (hq u hu (ofL_all hf))
    rwa [hdl] at this) (l.take n).length _ a _ { w with drawn := w.drawn + 1 } (Below.drew (Below.refl _ _)) (fun k u u' _ hh F hF => by simp at hF) (fun k F hF => by simp at hF) H
  rw [htl, show n + (l.toArray.size - n) = l.toArray.size by omega] at this
  exact this
end
/-! ### the walk's words -/
/-- the facts of those operations that this one waits for -/
structure Need (o : Oper) (Fs : List (World → Prop)) (u : World) : Prop where
  out : needF .any o (ofL Fs) u
theorem Need.get {o : Oper} {Fs : List (World → Prop)} {u : World} (h : Need o Fs u) (j i : Nat) (hj : o.after.toList.any (fun e => Region.binds .any e && e.on == j) = true) (hi : Fs.length = i + j + 1) (F : World → Prop) (hF : Fs[i]? = some F) : F u := by
  obtain ⟨e, he, hb⟩ := List.any_eq_true.1 hj
  simp only [Bool.and_eq_true, beq_iff_eq] at hb
  exact h.out e (by simpa using he) hb.1 F (by rw [hb.2, List.getElem?_reverse (by omega), show Fs.length - 1 - j = i by omega]; exact hF)
section

variable {P : Program} {ops : Array Oper} {rest : List Oper} {o : Oper} {a : Act} {C : World → Prop} {Lq : Act → List (World → Prop) → Prop} {ts : List Spc} {Fs : List (World → Prop)}

theorem r_nil (h : Lq a Fs) : RW P ops C Lq [] ts Fs a := ⟨h⟩
/-- one operation, whatever it yields -/
theorem r_any (hw : Region.wanted o (yielded ops a.tmps) = true) {s : Spc} (hr : ∀ u, C u → Need o Fs u → Oper.relUpon P u s ((execOp a.eval o).run P u))
    (h : ∀ v, s.S v → ∀ K : Act → Prop, (∀ a, RW P ops C Lq rest ts ((fun u => s.T u v) :: Fs) a → K a) → K (a.put o.dst v)) : RW P ops C Lq (o :: rest) (s :: ts) Fs a :=
  ⟨⟨.inl ⟨hw, fun u hu hn => hr u hu ⟨hn⟩⟩, fun v hv => h v hv _ fun a hA => hA.out⟩⟩
theorem wanted_none (hgd : o.guard = none) : Region.wanted o (yielded ops a.tmps) = true := by simp [Region.wanted, hgd]
/-- one value, and the world is left -/
theorem rg_value (hw : Region.wanted o (yielded ops a.tmps) = true) {v : Value} (hr : ∀ u, C u → Need o Fs u → (execOp a.eval o).run P u = .ok (.value v) u) (h : ∀ K : Act → Prop, (∀ a, RW P ops C Lq rest ts ((fun _ => True) :: Fs) a → K a) → K (a.put o.dst v)) : RW P ops C Lq (o :: rest) (Spc.eq v :: ts) Fs a :=
  r_any hw (fun u hu hn => by rw [hr u hu hn]; exact ⟨Below.refl _ _, rfl, trivial⟩) (fun v' hv K hK => by cases hv; exact h K hK)
theorem r_value (hgd : o.guard = none) {v : Value} (hr : ∀ u, C u → Need o Fs u → (execOp a.eval o).run P u = .ok (.value v) u) (h : ∀ K : Act → Prop, (∀ a, RW P ops C Lq rest ts ((fun _ => True) :: Fs) a → K a) → K (a.put o.dst v)) : RW P ops C Lq (o :: rest) (Spc.eq v :: ts) Fs a := rg_value (wanted_none hgd) hr h
theorem r_move (hgd : o.guard = none) (x : Operand) (ho : o.op = .move x) {v : Value} (hx : a.eval x = v) (h : ∀ K : Act → Prop, (∀ a, RW P ops C Lq rest ts ((fun _ => True) :: Fs) a → K a) → K (a.put o.dst v)) : RW P ops C Lq (o :: rest) (Spc.eq v :: ts) Fs a :=
  r_value hgd (fun u _ _ => by unfold execOp; simp only [ho, hx]; rfl) h
theorem r_assign (hgd : o.guard = none) (x : Operand) (ho : o.op = .assign x) {v : Value} (hx : a.eval x = v) (h : ∀ K : Act → Prop, (∀ a, RW P ops C Lq rest ts ((fun _ => True) :: Fs) a → K a) → K (a.put o.dst v)) : RW P ops C Lq (o :: rest) (Spc.eq v :: ts) Fs a :=
  r_value hgd (fun u _ _ => by unfold execOp; simp only [ho, hx]; rfl) h
theorem r_skip (j : Nat) (b : Bool) (y : Option Bool) (hg : o.guard = some (j, b)) (hy : yielded ops a.tmps j = y) (hn : (y == some b) = false)
    (h : ∀ K : Act → Prop, (∀ a, RW P ops C Lq rest ts ((fun _ => True) :: Fs) a → K a) → K (a.put o.dst undef)) : RW P ops C Lq (o :: rest) (Spc.eq undef :: ts) Fs a := by
  have hw : Region.wanted o (yielded ops a.tmps) = false := by
    unfold Region.wanted
    rw [hg]
    show (yielded ops a.tmps j == some b) = false
    rw [hy]
    exact hn
  exact ⟨⟨.inr ⟨hw, rfl, fun _ => trivial⟩, fun v hv => by cases hv; exact h _ fun a hA => hA.out⟩⟩
/-- a call -/
theorem rg_call (hw : Region.wanted o (yielded ops a.tmps) = true) (f : FuncId) (fn : Func) (hf : P.funcs[f]? = some fn) (hnm : (fn.name == "runtime.NumGoroutine") = false) (hbd : fn.body.isNone = false) (xs : Array Operand) (tys : Array TypeId) (ho : o.op = .call { callee := .value (.func f), args := xs, argTypes := tys }) (args : List Value) (hargs : xs.toList.map a.eval = args) {s : Spc}
    (hc : ∀ u, C u → Need o Fs u → Calls P f args.toArray u fun e u' => ∃ v, e = .returned v ∧ Below u.heap.size u u' ∧ s.S v ∧ s.T u' v)
    (h : ∀ v, s.S v → ∀ K : Act → Prop, (∀ a, RW P ops C Lq rest ts ((fun u => s.T u v) :: Fs) a → K a) → K (a.put o.dst v)) : RW P ops C Lq (o :: rest) (s :: ts) Fs a := by
  refine r_any hw (fun u hu hn => ?_) h
  have hargs' : xs.map a.eval = args.toArray := by rw [← hargs]; apply Array.toList_inj.1; simp
  have hr : (execOp a.eval o).run P u = .ok (.enter f args.toArray) u := by
    unfold execOp
    simp only [ho]
    simp [resolve, Deferred.ofValue, invoke, hargs', Act.eval]
    exact run_enter hf hnm hbd _ u
  rw [hr]
  exact ⟨Below.refl _ _, hc u hu hn⟩
theorem r_call (hgd : o.guard = none) (f : FuncId) (fn : Func) (hf : P.funcs[f]? = some fn) (hnm : (fn.name == "runtime.NumGoroutine") = false) (hbd : fn.body.isNone = false) (xs : Array Operand) (tys : Array TypeId) (ho : o.op = .call { callee := .value (.func f), args := xs, argTypes := tys }) (args : List Value) (hargs : xs.toList.map a.eval = args) {s : Spc}
    (hc : ∀ u, C u → Need o Fs u → Calls P f args.toArray u fun e u' => ∃ v, e = .returned v ∧ Below u.heap.size u u' ∧ s.S v ∧ s.T u' v)
    (h : ∀ v, s.S v → ∀ K : Act → Prop, (∀ a, RW P ops C Lq rest ts ((fun u => s.T u v) :: Fs) a → K a) → K (a.put o.dst v)) : RW P ops C Lq (o :: rest) (s :: ts) Fs a :=
  rg_call (wanted_none hgd) f fn hf hnm hbd xs tys ho args hargs hc h
/-- a call that yields one value -/
theorem rg_callv (hw : Region.wanted o (yielded ops a.tmps) = true) (f : FuncId) (fn : Func) (hf : P.funcs[f]? = some fn) (hnm : (fn.name == "runtime.NumGoroutine") = false) (hbd : fn.body.isNone = false) (xs : Array Operand) (tys : Array TypeId) (ho : o.op = .call { callee := .value (.func f), args := xs, argTypes := tys }) (args : List Value) (hargs : xs.toList.map a.eval = args) {v : Value}
    (hc : ∀ u, C u → Need o Fs u → Calls P f args.toArray u fun e u' => e = .returned v ∧ Below u.heap.size u u')
    (h : ∀ K : Act → Prop, (∀ a, RW P ops C Lq rest ts ((fun _ => True) :: Fs) a → K a) → K (a.put o.dst v)) : RW P ops C Lq (o :: rest) (Spc.eq v :: ts) Fs a :=
  rg_call hw f fn hf hnm hbd xs tys ho args hargs (fun u hu hn => (hc u hu hn).mono fun e u' ⟨he, hb⟩ => ⟨v, he, hb, rfl, trivial⟩) (fun v' hv K hK => by cases hv; exact h K hK)
theorem r_callv (hgd : o.guard = none) (f : FuncId) (fn : Func) (hf : P.funcs[f]? = some fn) (hnm : (fn.name == "runtime.NumGoroutine") = false) (hbd : fn.body.isNone = false) (xs : Array Operand) (tys : Array TypeId) (ho : o.op = .call { callee := .value (.func f), args := xs, argTypes := tys }) (args : List Value) (hargs : xs.toList.map a.eval = args) {v : Value}
    (hc : ∀ u, C u → Need o Fs u → Calls P f args.toArray u fun e u' => e = .returned v ∧ Below u.heap.size u u')
    (h : ∀ K : Act → Prop, (∀ a, RW P ops C Lq rest ts ((fun _ => True) :: Fs) a → K a) → K (a.put o.dst v)) : RW P ops C Lq (o :: rest) (Spc.eq v :: ts) Fs a :=
  rg_callv (wanted_none hgd) f fn hf hnm hbd xs tys ho args hargs hc h
theorem rg_blk_load (hw : Region.wanted o (yielded ops a.tmps) = true) (t : TypeId) (x : Operand) (ho : o.op = .load t x) (b p : Nat) (hx : a.eval x = .pointer (some ⟨b, p, none⟩)) {vs : List Value} (hb : ∀ u, C u → Need o Fs u → u.rangeAt b p vs)
    (d : TypeDesc) (hu : P.underlying t = some d) (hd : d.isRow = true) (hi : (P.info? t).map (·.size) = some vs.length)
    (h : ∀ K : Act → Prop, (∀ a, RW P ops C Lq rest ts ((fun _ => True) :: Fs) a → K a) → K (a.put o.dst (.agg vs.toArray))) : RW P ops C Lq (o :: rest) (Spc.eq (.agg vs.toArray) :: ts) Fs a := by
  refine rg_value hw (fun u hc hn => ?_) h
  have hl := run_loadAt_mid u b p t vs d (hb u hc hn) hu hd hi
  unfold execOp
  simp only [ho, hx, Sem.run_bind, hl, Result.andThen_ok, Sem.run_pure]
theorem r_blk_load (hgd : o.guard = none) (t : TypeId) (x : Operand) (ho : o.op = .load t x) (b p : Nat) (hx : a.eval x = .pointer (some ⟨b, p, none⟩)) {vs : List Value} (hb : ∀ u, C u → Need o Fs u → u.rangeAt b p vs)
    (d : TypeDesc) (hu : P.underlying t = some d) (hd : d.isRow = true) (hi : (P.info? t).map (·.size) = some vs.length)
    (h : ∀ K : Act → Prop, (∀ a, RW P ops C Lq rest ts ((fun _ => True) :: Fs) a → K a) → K (a.put o.dst (.agg vs.toArray))) : RW P ops C Lq (o :: rest) (Spc.eq (.agg vs.toArray) :: ts) Fs a :=
  rg_blk_load (wanted_none hgd) t x ho b p hx hb d hu hd hi h
theorem rg_concat (hw : Region.wanted o (yielded ops a.tmps) = true) (t t' : TypeId) (x y : Operand) (ho : o.op = .binOp .add t x y t') (b c : ByteArray) (hx : a.eval x = .string b) (hy : a.eval y = .string c) (hn : b.size + c.size ≤ 9223372036854775807) {r : ByteArray} (hr : b ++ c = r)
    (h : ∀ K : Act → Prop, (∀ a, RW P ops C Lq rest ts ((fun _ => True) :: Fs) a → K a) → K (a.put o.dst (.string r))) : RW P ops C Lq (o :: rest) (Spc.eq (.string r) :: ts) Fs a := by
  subst hr
  refine rg_value hw (fun u _ _ => ?_) h
  have e : binOp .add t (.string b) (.string c) = Op.stringOp .add b c := rfl
  unfold execOp
  simp only [ho, hx, hy, Sem.run_bind, e]
  simp [eqGuard]
  rw [run_string_add_sum u b c hn]
  rfl
end

end Go.Proofs.Ytmajkapapbhabaa

namespace Go.Proofs.Ytmajkapapbhabaa

open Go.RowKit

set_option linter.unusedVariables false

set_option linter.unusedSimpArgs false

set_option maxRecDepth 100000

/-- a struct in a block of its own -/
def Spc.blk (base : Nat) (vs : List Value) : Spc where
  S v := ∃ b, v = .pointer (some ⟨b, 0, none⟩)
  T u v := ∃ b, v = .pointer (some ⟨b, 0, none⟩) ∧ base ≤ b ∧ b < u.heap.size ∧ Blk u b vs
  st u u' v hb := fun ⟨b, hv, hB, hlt, ha⟩ => ⟨b, hv, hB, Nat.lt_of_lt_of_le hlt hb.size, ha.below hb hlt⟩
  w0 := .pointer (some ⟨0, 0, none⟩)
  hw := ⟨0, rfl⟩
/-- a row of structs of any kind, the call's own -/
def Spc.orr {β : Type} (K : Rw.Kd β) (t : TypeId) (base : Nat) (L : List β) : Spc where
  S v := ∃ a cap, v = .slice a L.length cap
  T u v := Rw.OR K t u base v L
  st u u' v hb := fun h => h.below hb
  w0 := .slice none L.length 0
  hw := ⟨none, 0, rfl⟩
section

variable {P : Program} {ops : Array Oper} {rest : List Oper} {o : Oper} {a : Act} {C : World → Prop} {Lq : Act → List (World → Prop) → Prop} {ts : List Spc} {Fs : List (World → Prop)}

theorem r_new (hgd : o.guard = none) (t : TypeId) (ho : o.op = .alloc t) {vs : List Value} {base : Nat} (hz : (P.info? t).map (fun i => (i.zero, i.size)) = some (some (.agg vs.toArray), vs.length)) (hbase : ∀ u, C u → base ≤ u.heap.size)
    (h : ∀ v, (Spc.blk base vs).S v → ∀ K : Act → Prop, (∀ a, RW P ops C Lq rest ts ((fun u => (Spc.blk base vs).T u v) :: Fs) a → K a) → K (a.put o.dst v)) : RW P ops C Lq (o :: rest) (Spc.blk base vs :: ts) Fs a := by
  refine r_any (wanted_none hgd) (fun u hu hn => ?_) h
  unfold execOp
  simp only [ho, Sem.run_bind, Instr.alloc, (zero_of_info hz).1, newVar, newRow, run_newObj_alloc, Sem.run_pure, Result.andThen_ok]
  exact ⟨(Below.refl _ _).alloc (Nat.le_refl _) _, ⟨_, rfl⟩, ⟨_, rfl, hbase u hu, by show _ < (u.heap.push _).size; simp, Blk.of_row (heap_alloc_last u _)⟩⟩
end

/-- a struct in a block of its own, its row known whole -/
def Spc.row (base : Nat) (t : TypeId) (vs : List Value) : Spc where
  S v := ∃ b, v = .pointer (some ⟨b, 0, none⟩)
  T u v := ∃ b, v = .pointer (some ⟨b, 0, none⟩) ∧ base ≤ b ∧ u.heap[b]? = some (.cells vs.toArray t (0, 0))
  st u u' v hb := fun ⟨b, hv, hB, ha⟩ => ⟨b, hv, hB, by
    have hlt : b < u.heap.size := by
      rcases Nat.lt_or_ge b u.heap.size with h | h
      · exact h
      · rw [Array.getElem?_eq_none h] at ha; cases ha
    rw [hb.block b hlt]; exact ha⟩
  w0 := .pointer (some ⟨0, 0, none⟩)
  hw := ⟨0, rfl⟩
theorem r_newr {P : Program} {ops : Array Oper} {rest : List Oper} {o : Oper} {a : Act} {C : World → Prop} {Lq : Act → List (World → Prop) → Prop} {ts : List Spc} {Fs : List (World → Prop)} (hgd : o.guard = none) (t : TypeId) (ho : o.op = .alloc t) {vs : List Value} {base : Nat} (hz : (P.info? t).map (fun i => (i.zero, i.size)) = some (some (.agg vs.toArray), vs.length)) (hbase : ∀ u, C u → base ≤ u.heap.size)
    (h : ∀ v, (Spc.row base t vs).S v → ∀ K : Act → Prop, (∀ a, RW P ops C Lq rest ts ((fun u => (Spc.row base t vs).T u v) :: Fs) a → K a) → K (a.put o.dst v)) : RW P ops C Lq (o :: rest) (Spc.row base t vs :: ts) Fs a := by
  refine r_any (wanted_none hgd) (fun u hu hn => ?_) h
  unfold execOp
  simp only [ho, Sem.run_bind, Instr.alloc, (zero_of_info hz).1, newVar, newRow, run_newObj_alloc, Sem.run_pure, Result.andThen_ok]
  exact ⟨(Below.refl _ _).alloc (Nat.le_refl _) _, ⟨_, rfl⟩, ⟨_, rfl, hbase u hu, heap_alloc_last u _⟩⟩
theorem r_fact {P : Program} {ops : Array Oper} {rest : List Oper} {o : Oper} {a : Act} {C : World → Prop} {Lq : Act → List (World → Prop) → Prop} {ts : List Spc} {Fs : List (World → Prop)} (hgd : o.guard = none) {s : Spc} (v : Value) (hS : s.S v) (hr : ∀ u, C u → Need o Fs u → (execOp a.eval o).run P u = .ok (.value v) u ∧ s.T u v)
    (h : ∀ v, s.S v → ∀ K : Act → Prop, (∀ a, RW P ops C Lq rest ts ((fun u => s.T u v) :: Fs) a → K a) → K (a.put o.dst v)) : RW P ops C Lq (o :: rest) (s :: ts) Fs a :=
  r_any (wanted_none hgd) (fun u hu hn => by rw [(hr u hu hn).1]; exact ⟨Below.refl _ _, hS, (hr u hu hn).2⟩) h
/-- rows of any kind, in memory -/
def Spc.rs {β : Type} (K : Rw.Kd β) (base : Nat) (L : List β) : Spc where
  S v := ∃ a cap, v = .slice a L.length cap
  T u v := Rw.IsR K u v L ∧ ∀ b o n c, v = .slice (some ⟨b, o, none⟩) n c → base ≤ b
  st u u' v hb := fun h => ⟨h.1.below hb, h.2⟩
  w0 := .slice none L.length 0
  hw := ⟨none, 0, rfl⟩
section

variable {ops : Array Oper} {rest : List Oper} {o : Oper} {a : Act} {C : World → Prop} {Lq : Act → List (World → Prop) → Prop} {ts : List Spc} {Fs : List (World → Prop)}

/-- append(nil, l...) of rows of any kind -/
theorem r_append_nil {β : Type} {K : Rw.Kd β} {t tt : TypeId} {bytes : Nat} (hu : Try.prog.underlying tt = some (.slice t)) {z : Value} (hinf : (Try.prog.info? t).map (fun i => (i.zero, i.size, i.bytes)) = some (some z, K.k, bytes)) (hzc : z.cells.size = K.k) (hby : bytes ≤ 100000)
    (hgd : o.guard = none) (s x : Operand) (ho : o.op = .call { callee := .builtin .append, args := #[s, x], argTypes := #[tt, tt] }) (hs : a.eval s = .slice none 0 0) (b off m c : Nat) (hx : a.eval x = .slice (some ⟨b, off, none⟩) m c) {base : Nat} {M : List β} (hM : ∀ u, C u → Need o Fs u → Rw.IsR K u (.slice (some ⟨b, off, none⟩) m c) M) (hl : M.length ≤ 1000000) (hbase : ∀ u, C u → base ≤ u.heap.size)
    (h : ∀ v, (Spc.orr K t base M).S v → ∀ K' : Act → Prop, (∀ a, RW Try.prog ops C Lq rest ts ((fun u => (Spc.orr K t base M).T u v) :: Fs) a → K' a) → K' (a.put o.dst v)) : RW Try.prog ops C Lq (o :: rest) (Spc.orr K t base M :: ts) Fs a := by
  refine r_any (wanted_none hgd) (fun u hu' hn => ?_) h
  obtain ⟨i0, hi, hz0, hz1, hz2⟩ : ∃ i0, Try.prog.info? t = some i0 ∧ i0.zero = some z ∧ i0.size = K.k ∧ i0.bytes = bytes := by
    cases hi : Try.prog.info? t with
    | none => rw [hi] at hinf; cases hinf
    | some i0 =>
      rw [hi] at hinf
      simp only [Option.map_some, Option.some.injEq, Prod.mk.injEq] at hinf
      exact ⟨i0, rfl, hinf.1, hinf.2.1, hinf.2.2⟩
  obtain ⟨v', w', hr, ho', hg, _⟩ := Rw.run_append_rows (K := K) o.type hu hi hz0 hz1 hz2 hzc u base (.slice none 0 0) [] (Rw.OR.nil _ _ _) b off m c M (hM u hu' hn) (by simpa using hl) hby (hbase u hu')
  have e : (execOp a.eval o).run Try.prog u = .ok (.value v') w' := by
    unfold execOp
    simp only [ho, resolve, invoke, builtin, Sem.run_bind, Sem.run_pure, Result.andThen_ok, List.map_toArray, List.map_cons, List.map_nil, hs, hx, hr]
  rw [e]
  rw [List.nil_append] at ho'
  refine ⟨(Below.refl _ _).grown hg (Nat.le_refl _) (fun k hk => by cases hk), ?_, ho'⟩
  obtain ⟨av, cv, ev, _⟩ := ho'.is.is
  exact ⟨av, cv, ev⟩
end

end Go.Proofs.Ytmajkapapbhabaa
