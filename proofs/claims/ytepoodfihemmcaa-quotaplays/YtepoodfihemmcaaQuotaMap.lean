/- Maps to integers in memory, of whatever keys: what a look, a laying, a delete, a range and its steps tell and leave; runs. -/
import Derived.Test.YtepoodfihemmcaaQuotaM

import Derived.Laws.IdiomRangeMap

import Derived.Maps.RangeRun

namespace Go.Proofs.Ytepoodfihemmcaa.Qm

open Go.RowKit Go.Instr Go.ChangeMaps Go.Proofs.Ytepoodfihemmcaa.It Go.Proofs.Ytepoodfihemmcaa.Q

set_option linter.unusedVariables false

set_option linter.unusedSimpArgs false

set_option maxRecDepth 100000

set_option linter.unusedSectionVars false

/-- mt: maps from kt to integers; the keys are told apart as κ's are -/
structure MK (mt kt : TypeId) {κ : Type} [DecidableEq κ] (ky : κ → Value) : Prop where
  under : Try.prog.underlying mt = some (.map kt 3)
  ck : ∀ (e : Bool) (n : κ) (w : World), (checkKey e 10000 kt (ky n)).run Try.prog w = .ok () w
  fnone : ∀ (n : κ) (l : List MapEntry) (w : World), (∀ e ∈ l, ∃ m, e.key = ky m ∧ m ≠ n) → (findKey kt (ky n) l).run Try.prog w = .ok none w
  fsome : ∀ (n : κ) (l1 : List MapEntry) (e : MapEntry) (l2 : List MapEntry) (w : World), (∀ e ∈ l1, ∃ m, e.key = ky m ∧ m ≠ n) → e.key = ky n → (findKey kt (ky n) (l1 ++ e :: l2)).run Try.prog w = .ok (some (l1.length, e.val)) w
  bits : ∀ n, sameBits 10000 (ky n) (ky n) = true
  inj : ∀ a b, ky a = ky b → a = b
theorem part_plain (n : Nm) (i : Nat) (s : ByteArray) (h : #[Value.string n.1, Value.string n.2][i]? = some (.string s)) (w : World) : (part 9 #[.string n.1, .string n.2] i).run Try.prog w = .ok (.string s) w := run_part_plain w plain_str h
def kyN (n : Nm) : Value := .agg #[.string n.1, .string n.2]
theorem part0 (n : Nm) (w : World) : (part 9 #[.string n.1, .string n.2] 0).run Try.prog w = .ok (.string n.1) w := run_part_plain w plain_str rfl
theorem part1 (n : Nm) (w : World) : (part 9 #[.string n.1, .string n.2] 1).run Try.prog w = .ok (.string n.2) w := run_part_plain w plain_str rfl
theorem ck_str (e : Bool) (n : Nat) (s : ByteArray) (w : World) : (checkKey e (n + 1) 9 (.string s)).run Try.prog w = .ok () w := by
  simp [checkKey, run_underlying Try.underlying9]
theorem two_of {α β : Type} (g : α → β) (L : Array α) (p q : β) (h : L.toList.map g = [p, q]) : ∃ f1 f2, L = #[f1, f2] ∧ g f1 = p ∧ g f2 = q := by
  obtain ⟨L⟩ := L
  rcases L with _ | ⟨f1, _ | ⟨f2, _ | ⟨f3, L⟩⟩⟩
  · simp at h
  · simp at h
  · simp at h; exact ⟨f1, f2, rfl, h.1, h.2⟩
  · simp at h
theorem fields_n : (Try.prog.fieldsOf 70).toList.map (fun f => (f.name, f.type, f.offset)) = [("bucket", 9, 0), ("key", 9, 1)] := by kernel_rfl
theorem under_n : Try.prog.underlying 70 = some (.struct (Try.prog.fieldsOf 70)) := by kernel_rfl
theorem held_n : Try.prog.stoodInHeld 70 = false := by kernel_rfl
theorem fields2 : ∃ f1 f2, Try.prog.fieldsOf 70 = #[f1, f2] ∧ f1.name ≠ "_" ∧ f1.type = 9 ∧ f1.offset = 0 ∧ f2.name ≠ "_" ∧ f2.type = 9 ∧ f2.offset = 1 := by
  obtain ⟨f1, f2, h, g1, g2⟩ := two_of _ _ _ _ fields_n
  simp only [Prod.mk.injEq] at g1 g2
  exact ⟨f1, f2, h, by rw [g1.1]; decide, g1.2.1, g1.2.2, by rw [g2.1]; decide, g2.2.1, g2.2.2⟩
theorem ckN (e : Bool) (n : Nm) (w : World) : (checkKey e 10000 70 (kyN n)).run Try.prog w = .ok () w := by
  obtain ⟨f1, f2, hL, n1, t1, o1, n2, t2, o2⟩ := fields2
  rw [show (10000 : Nat) = 9998 + 1 + 1 from rfl, checkKey, kyN]
  simp only [Sem.run_bind, run_underlying under_n, Result.andThen_ok, hL]
  simp [n1, n2, t1, t2, o1, o2, part0, part1, ck_str, Sem.run_bind, Result.andThen_ok]
theorem eqk (a b : Nm) (w : World) : (Op.equal 70 (kyN a) (kyN b)).run Try.prog w = .ok (decide (a = b)) w := by
  obtain ⟨f1, f2, hL, n1, t1, o1, n2, t2, o2⟩ := fields2
  unfold Op.equal
  show (Op.equalIn 10000 _ _ _).run _ _ = _
  rw [show (10000 : Nat) = 9999 + 1 from rfl, kyN, kyN, run_equalIn_struct w 9999 _ _ _ under_n held_n, hL]
  have qs : ∀ a b : ByteArray, (Op.equalIn 9999 9 (.string a) (.string b)).run Try.prog w = .ok (decide (a = b)) w := fun a b => by
    rw [← V.tol_eq]; exact run_equalIn_string w 9998 9 a b Try.underlying9
  obtain ⟨a1, a2⟩ := a
  obtain ⟨b1, b2⟩ := b
  have p0 : ∀ a b : ByteArray, (part 9 #[.string a, .string b] 0).run Try.prog w = .ok (.string a) w := fun a b => part0 (a, b) w
  have p1 : ∀ a b : ByteArray, (part 9 #[.string a, .string b] 1).run Try.prog w = .ok (.string b) w := fun a b => part1 (a, b) w
  simp only [Op.eqFields, if_pos n1, if_pos n2, t1, t2, o1, o2, Sem.run_bind, p0, p1, qs, Result.andThen_ok]
  by_cases h1 : a1 = b1
  · by_cases h2 : a2 = b2
    · simp [h1, h2, Op.eqFields, Sem.run_bind, p0, p1, qs, Result.andThen_ok, n2, t2, o2]
    · simp [h1, h2, Op.eqFields, Sem.run_bind, p0, p1, qs, Result.andThen_ok, n2, t2, o2]
  · simp [h1]
theorem asking_none (n : Nm) (l : List MapEntry) (i : Nat) (w : World) (h : ∀ e ∈ l, ∃ m, e.key = kyN m ∧ m ≠ n) : (findAsking 70 (kyN n) l i).run Try.prog w = .ok none w := by
  induction l generalizing i with
  | nil => rfl
  | cons e l ih =>
    obtain ⟨m, hm, hne⟩ := h e (List.mem_cons_self ..)
    rw [findAsking, Sem.run_bind, hm, eqk, Result.andThen_ok, decide_eq_false (fun e => hne e.symm), if_neg (by decide)]
    exact ih (i + 1) (fun e he => h e (List.mem_cons_of_mem _ he))
theorem asking_some (n : Nm) (l1 l2 : List MapEntry) (e : MapEntry) (i : Nat) (w : World) (h : ∀ e ∈ l1, ∃ m, e.key = kyN m ∧ m ≠ n) (he : e.key = kyN n) : (findAsking 70 (kyN n) (l1 ++ e :: l2) i).run Try.prog w = .ok (some (i + l1.length, e.val)) w := by
  induction l1 generalizing i with
  | nil =>
    rw [List.nil_append, findAsking, Sem.run_bind, he, eqk, Result.andThen_ok, decide_eq_true rfl, if_pos rfl]
    rfl
  | cons x l ih =>
    obtain ⟨m, hm, hne⟩ := h x (List.mem_cons_self ..)
    rw [List.cons_append, findAsking, Sem.run_bind, hm, eqk, Result.andThen_ok, decide_eq_false (fun e => hne e.symm), if_neg (by decide), ih (i + 1) (fun e he => h e (List.mem_cons_of_mem _ he))]
    simp only [List.length_cons]
    congr 3
    omega
theorem now_none (n : Nm) (e : MapEntry) (l : List MapEntry) (i : Nat) (fs : Array Field) : findNow (.struct fs) (kyN n) (e :: l) i = none := by
  unfold findNow sameNow kyN
  rfl
theorem find_runN (n : Nm) (l : List MapEntry) (w : World) (r : Option (Nat × Value)) (h : (findAsking 70 (kyN n) l 0).run Try.prog w = .ok r w) : (findKey 70 (kyN n) l).run Try.prog w = .ok r w := by
  unfold findKey
  rw [Sem.run_bind, run_underlying under_n, Result.andThen_ok]
  cases l with
  | nil => exact h
  | cons e l => rw [now_none]; exact h
theorem kN : MK 58 70 kyN where
  under := Try.underlying58
  ck := ckN
  fnone n l w h := find_runN n l w none (asking_none n l 0 w h)
  fsome n l1 e l2 w h he := find_runN n _ w _ (by have := asking_some n l1 l2 e 0 w h he; rwa [Nat.zero_add] at this)
  bits n := by
    rw [show (10000 : Nat) = 9998 + 1 + 1 from rfl]
    have h : ∀ s : ByteArray, (s == s) = true := fun s => by simp [MapKept.bytes_beq]
    simp [sameBits, kyN, h]
  inj a b h := by
    unfold kyN at h
    simp at h
    exact Prod.ext h.1 h.2
/-- keys that are told apart at once -/
theorem now_not {κ : Type} (d : TypeDesc) (ky : κ → Value) (n : κ) (hf : ∀ m, m ≠ n → sameNow d (ky n) (ky m) = some false) (l : List MapEntry) (i : Nat) (h : ∀ e ∈ l, ∃ m, e.key = ky m ∧ m ≠ n) : findNow d (ky n) l i = some none := by
  induction l generalizing i with
  | nil => rfl
  | cons e l ih =>
    obtain ⟨m, hm, hne⟩ := h e (List.mem_cons_self ..)
    unfold findNow
    rw [hm, hf m hne]
    exact ih (i + 1) fun e he => h e (List.mem_cons_of_mem _ he)
theorem now_yes {κ : Type} (d : TypeDesc) (ky : κ → Value) (n : κ) (hf : ∀ m, m ≠ n → sameNow d (ky n) (ky m) = some false) (ht : sameNow d (ky n) (ky n) = some true) (l1 l2 : List MapEntry) (e : MapEntry) (i : Nat) (h : ∀ e ∈ l1, ∃ m, e.key = ky m ∧ m ≠ n) (he : e.key = ky n) : findNow d (ky n) (l1 ++ e :: l2) i = some (some (i + l1.length, e.val)) := by
  induction l1 generalizing i with
  | nil => rw [List.nil_append]; unfold findNow; rw [he, ht]; rfl
  | cons x l ih =>
    obtain ⟨m, hm, hne⟩ := h x (List.mem_cons_self ..)
    rw [List.cons_append]
    unfold findNow
    rw [hm, hf m hne]
    have := ih (i + 1) fun e he => h e (List.mem_cons_of_mem _ he)
    simp only [this, List.length_cons]
    congr 3
    omega
theorem mk_now {κ : Type} [DecidableEq κ] {mt kt : TypeId} (ky : κ → Value) (d : TypeDesc) (hm : Try.prog.underlying mt = some (.map kt 3)) (hk : Try.prog.underlying kt = some d) (hf : ∀ n m, m ≠ n → sameNow d (ky n) (ky m) = some false) (ht : ∀ n, sameNow d (ky n) (ky n) = some true)
    (hc : ∀ (e : Bool) (n : κ) (w : World), (checkKey e 10000 kt (ky n)).run Try.prog w = .ok () w) (hb : ∀ n, sameBits 10000 (ky n) (ky n) = true) (hi : ∀ a b, ky a = ky b → a = b) : MK mt kt ky where
  under := hm
  ck := hc
  fnone n l w h := by
    unfold findKey
    rw [Sem.run_bind, run_underlying hk, Result.andThen_ok, now_not d ky n (hf n) l 0 h]
    rfl
  fsome n l1 e l2 w h he := by
    unfold findKey
    rw [Sem.run_bind, run_underlying hk, Result.andThen_ok, now_yes d ky n (hf n) (ht n) l1 l2 e 0 h he, Nat.zero_add]
    rfl
  bits := hb
  inj := hi
theorem ck_num {t : TypeId} {k : IntKind} (hu : Try.prog.underlying t = some (.int k)) (e : Bool) (n : Nat) (v : Value) (w : World) : (checkKey e (n + 1) t v).run Try.prog w = .ok () w := by
  rw [checkKey, Sem.run_bind, run_underlying hu, Result.andThen_ok]
  rfl
theorem bits_num (k : IntKind) (n : Nat) (a : Int) : sameBits (n + 1) (.int k a) (.int k a) = true := by simp [sameBits]
theorem bits_str (n : Nat) (s : ByteArray) : sameBits (n + 1) (.string s) (.string s) = true := by simp [sameBits, MapKept.bytes_beq]
def kyI (n : Int) : Value := .int .i64 n
def kyB (n : Int) : Value := .int .u8 n
def kyS (s : ByteArray) : Value := .string s
theorem kI : MK 49 3 kyI := mk_now kyI _ Try.underlying49 Try.underlying3 (fun n m h => by simp [kyI, sameNow]; exact fun e => h e.symm) (fun n => by simp [kyI, sameNow])
  (fun e n w => ck_num Try.underlying3 e 9999 _ w) (fun n => bits_num _ 9999 n) (fun a b h => by simpa [kyI] using h)
theorem kB : MK 50 5 kyB := mk_now kyB _ Try.underlying50 Try.underlying5 (fun n m h => by simp [kyB, sameNow]; exact fun e => h e.symm) (fun n => by simp [kyB, sameNow])
  (fun e n w => ck_num Try.underlying5 e 9999 _ w) (fun n => bits_num _ 9999 n) (fun a b h => by simpa [kyB] using h)
theorem str_ne (n m : ByteArray) (h : m ≠ n) : sameNow .string (kyS n) (kyS m) = some false := by
  have : (n == m) = false := by
    cases e : (n == m) with
    | false => rfl
    | true => rw [MapKept.bytes_beq] at e; exact absurd e.symm h
  show some (n == m) = some false
  rw [this]
theorem kS : MK 57 9 kyS := mk_now kyS _ Try.underlying57 Try.underlying9 (fun n m h => str_ne n m h) (fun n => by simp [kyS, sameNow, MapKept.bytes_beq])
  (fun e n w => ck_str e 9999 n w) (fun n => bits_str 9999 n) (fun a b h => by simpa [kyS] using h)
section

variable {mt kt : TypeId} {κ : Type} [DecidableEq κ] {ky : κ → Value}

def vl (v : Int) : Value := .int .i64 v
/-- the map at block mb -/
structure Mp (ky : κ → Value) (w : World) (mb : Nat) (M : List (κ × Int)) : Prop where
  is : ∃ (es : Array MapEntry) (clock : Nat), w.heap[mb]? = some (.map es clock) ∧ es.toList.map (fun e => (e.key, e.val)) = M.map (fun x => (ky x.1, vl x.2)) ∧ (∀ e ∈ es.toList, e.born < clock) ∧ (es.toList.map (·.born)).Nodup
  nodup : (M.map (·.1)).Nodup
theorem Mp.lt {w : World} {mb : Nat} {M : List (κ × Int)} (h : Mp ky w mb M) : mb < w.heap.size := by
  obtain ⟨es, clock, h1, _⟩ := h.is
  exact (Array.getElem?_eq_some_iff.1 h1).1
theorem Mp.st {w w' : World} {mb : Nat} {M : List (κ × Int)} (h : Mp ky w mb M) (hk : w'.heap[mb]? = w.heap[mb]?) : Mp ky w' mb M := by
  obtain ⟨es, clock, h1, h2⟩ := h.is
  exact ⟨⟨es, clock, by rw [hk]; exact h1, h2⟩, h.nodup⟩
theorem Mp.below {w w' : World} {mb B : Nat} {M : List (κ × Int)} (h : Mp ky w mb M) (hb : Below B w w') (hB : mb < B) : Mp ky w' mb M := h.st (hb.block mb hB)
theorem Mp.upd {w w' : World} {mb b : Nat} {M : List (κ × Int)} (h : Mp ky w mb M) (hu : Upd b w w') (hB : mb ≠ b) : Mp ky w' mb M := Mp.st h (hu.far mb hB)
theorem Mp.none {w : World} {mb : Nat} (h : w.heap[mb]? = some (.map #[] 0)) : Mp ky w mb [] := ⟨⟨#[], 0, h, rfl, fun e he => by simp at he, .nil⟩, .nil⟩
theorem zero_i (w : World) : (zeroValue 3).run Try.prog w = .ok (.int .i64 0) w :=
  (zero_of_info (show (Try.prog.info? 3).map (fun i => (i.zero, i.size)) = some (some (.int .i64 0), 1) from by kernel_rfl)).1 w
theorem keys_of {es : List MapEntry} {M : List (κ × Int)} (h : es.map (fun e => (e.key, e.val)) = M.map (fun x => (ky x.1, vl x.2))) (e : MapEntry) (he : e ∈ es) : ∃ x ∈ M, e.key = ky x.1 ∧ e.val = vl x.2 := by
  have h1 : (e.key, e.val) ∈ es.map (fun e => (e.key, e.val)) := List.mem_map.2 ⟨e, he, rfl⟩
  rw [h] at h1
  obtain ⟨x, hx, e1⟩ := List.mem_map.1 h1
  simp only [Prod.mk.injEq] at e1
  exact ⟨x, hx, e1.1.symm, e1.2.symm⟩
theorem split_at {M1 M2 : List (κ × Int)} {n : κ} {c : Int} {es : Array MapEntry} (hnd : n ∉ M1.map (·.1)) (h2 : es.toList.map (fun e => (e.key, e.val)) = (M1 ++ (n, c) :: M2).map (fun x => (ky x.1, vl x.2))) :
    ∃ l1 e l2, es.toList = l1 ++ e :: l2 ∧ l1.length = M1.length ∧ e.key = ky n ∧ e.val = vl c ∧ (∀ x ∈ l1, ∃ m, x.key = ky m ∧ m ≠ n) ∧ l1.map (fun e => (e.key, e.val)) = M1.map (fun x => (ky x.1, vl x.2)) ∧ l2.map (fun e => (e.key, e.val)) = M2.map (fun x => (ky x.1, vl x.2)) := by
  rw [List.map_append, List.map_cons] at h2
  obtain ⟨l1, l2', e1, e2, e3⟩ := List.map_eq_append_iff.1 h2
  obtain ⟨e, l2, e4, e5, e6⟩ := List.map_eq_cons_iff.1 e3
  simp only [Prod.mk.injEq] at e5
  refine ⟨l1, e, l2, by rw [e1, e4], ?_, e5.1, e5.2, fun x hx => ?_, e2, e6⟩
  · have := congrArg List.length e2
    simpa using this
  · obtain ⟨y, hy, e7, _⟩ := keys_of e2 x hx
    exact ⟨y.1, e7, fun e8 => hnd (List.mem_map.2 ⟨y, hy, e8⟩)⟩
theorem not_of {n : κ} {M : List (κ × Int)} {es : List MapEntry} (h2 : es.map (fun e => (e.key, e.val)) = M.map (fun x => (ky x.1, vl x.2))) (hn : n ∉ M.map (·.1)) : ∀ e ∈ es, ∃ m, e.key = ky m ∧ m ≠ n := fun e he => by
  obtain ⟨x, hx, e1, _⟩ := keys_of h2 e he
  exact ⟨x.1, e1, fun e => hn (List.mem_map.2 ⟨x, hx, e⟩)⟩
/-- a look -/
theorem run_look (K : MK mt kt ky) {w : World} {mb : Nat} {M : List (κ × Int)} (h : Mp ky w mb M) (n : κ) :
    (Instr.lookup mt (.map (some mb)) (ky n) false).run Try.prog w = .ok (vl (Q.look M n)) w := by
  obtain ⟨es, clock, h1, h2, _⟩ := h.is
  by_cases hn : n ∈ M.map (·.1)
  · obtain ⟨M1, c, M2, rfl, hn1⟩ := Q.split hn
    obtain ⟨l1, e, l2, e1, e2, e3, e4, e5, _⟩ := split_at hn1 h2
    have hf := K.fsome n l1 e l2 w e5 e3
    rw [← e1] at hf
    rw [look_at _ _ _ _ hn1]
    simp [Instr.lookup, Sem.run_bind, run_underlying K.under, MapKept.run_getObj_map h1, K.ck, hf, e4, Result.andThen]
  · have hf := K.fnone n es.toList w (not_of h2 hn)
    rw [look_not hn]
    simp [Instr.lookup, Sem.run_bind, run_underlying K.under, MapKept.run_getObj_map h1, K.ck, hf, zero_i, vl, Result.andThen]
theorem modify_split {α : Type} (l1 l2 : List α) (e : α) (f : α → α) : (l1 ++ e :: l2).modify l1.length f = l1 ++ f e :: l2 := by
  induction l1 with
  | nil => rfl
  | cons x l ih => simp [ih]
/-- laid -/
theorem run_lay (K : MK mt kt ky) {w : World} {mb : Nat} {M : List (κ × Int)} (h : Mp ky w mb M) (n : κ) (v : Int) :
    ∃ w', (Instr.mapUpdate mt (.map (some mb)) (ky n) (.int .i64 v)).run Try.prog w = .ok () w' ∧ Mp ky w' mb (setM M n v) ∧ Upd mb w w' := by
  obtain ⟨es, clock, h1, h2, h3, h4⟩ := h.is
  by_cases hn : n ∈ M.map (·.1)
  · obtain ⟨M1, c, M2, rfl, hn1⟩ := Q.split hn
    obtain ⟨l1, e, l2, e1, e2, e3, e4, e5, e6, e7⟩ := split_at hn1 h2
    have hf := K.fsome n l1 e l2 w e5 e3
    rw [← e1] at hf
    have hes : es = (l1 ++ e :: l2).toArray := by rw [← e1]
    have hj : es[l1.length]? = some e := by rw [hes]; simp
    have hm : (es.modify l1.length fun e => { e with key := ky n, val := .int .i64 v }).toList = l1 ++ { e with key := ky n, val := .int .i64 v } :: l2 := by
      rw [Array.toList_modify, e1, modify_split]
    refine ⟨{ w with heap := w.heap.setIfInBounds mb (.map (es.modify l1.length fun e => { e with key := ky n, val := .int .i64 v }) clock) }, ?_, ⟨⟨_, _, (MapKept.heap_set h1).1, ?_, ?_, ?_⟩, nodup_set _ _ h.nodup⟩, ?_⟩
    · simp [Instr.mapUpdate, Sem.run_bind, run_underlying K.under, MapKept.run_getObj_map h1, K.ck, hf, hj, e3, Instr.keyThatStays, K.bits, MapKept.run_setObj_map _ h1, Result.andThen]
    · rw [hm, set_at _ _ _ _ _ hn1, List.map_append, List.map_append, List.map_cons, List.map_cons, e6, e7]; rfl
    · rw [hm]; rw [e1] at h3
      intro x hx
      rcases List.mem_append.1 hx with hx | hx
      · exact h3 x (List.mem_append_left _ hx)
      · rcases List.mem_cons.1 hx with rfl | hx
        · exact h3 e (by simp)
        · exact h3 x (by simp [hx])
    · rw [hm]; rw [e1] at h4
      simpa using h4
    · exact ⟨rfl, rfl, rfl, by simp, fun k hk => (MapKept.heap_set h1).2 k hk⟩
  · have hf := K.fnone n es.toList w (not_of h2 hn)
    refine ⟨{ w with heap := w.heap.setIfInBounds mb (.map (es.push { key := ky n, val := .int .i64 v, born := clock }) (clock + 1)) }, ?_, ⟨⟨_, _, (MapKept.heap_set h1).1, ?_, ?_, ?_⟩, nodup_set _ _ h.nodup⟩, ?_⟩
    · simp [Instr.mapUpdate, Sem.run_bind, run_underlying K.under, MapKept.run_getObj_map h1, K.ck, hf, MapKept.run_setObj_map _ h1, Result.andThen]
    · rw [set_not _ hn]; simp [h2, vl]
    · intro e he
      simp only [Array.toList_push, List.mem_append, List.mem_singleton] at he
      rcases he with he | rfl
      · have := h3 e he; omega
      · show clock < clock + 1; omega
    · simp only [Array.toList_push, List.map_append, List.map_cons, List.map_nil]
      rw [List.nodup_append]
      refine ⟨h4, by simp, fun a ha b hb => ?_⟩
      obtain ⟨e, he, rfl⟩ := List.mem_map.1 ha
      simp at hb
      have := h3 e he
      omega
    · exact ⟨rfl, rfl, rfl, by simp, fun k hk => (MapKept.heap_set h1).2 k hk⟩
/-- taken out -/
theorem run_drop (K : MK mt kt ky) {w : World} {mb : Nat} {M : List (κ × Int)} (h : Mp ky w mb M) (n : κ) (ty : TypeId) :
    ∃ w', (Builtin.delete_ #[mt, kt] ty #[.map (some mb), ky n]).run Try.prog w = .ok (.tuple #[]) w' ∧ Mp ky w' mb (delM M n) ∧ Upd mb w w' := by
  obtain ⟨es, clock, h1, h2, h3, h4⟩ := h.is
  by_cases hn : n ∈ M.map (·.1)
  · obtain ⟨M1, c, M2, rfl, hn1⟩ := Q.split hn
    obtain ⟨l1, e, l2, e1, e2, e3, e4, e5, e6, e7⟩ := split_at hn1 h2
    have hf := K.fsome n l1 e l2 w e5 e3
    rw [← e1] at hf
    have hm : (es.eraseIdxIfInBounds l1.length).toList = l1 ++ l2 := by
      have hlt : l1.length < es.size := by rw [← Array.length_toList, e1]; simp
      unfold Array.eraseIdxIfInBounds
      rw [dif_pos hlt, Array.toList_eraseIdx, e1]
      simp [List.eraseIdx_append_of_length_le]
    have hsub : (l1 ++ l2).Sublist es.toList := by rw [e1]; exact List.Sublist.append_left (List.sublist_cons_self _ _) _
    refine ⟨{ w with heap := w.heap.setIfInBounds mb (.map (es.eraseIdxIfInBounds l1.length) clock) }, ?_, ⟨⟨_, _, (MapKept.heap_set h1).1, ?_, ?_, ?_⟩, nodup_del _ h.nodup⟩, ?_⟩
    · simp [Builtin.delete_, Sem.run_bind, run_underlying K.under, MapKept.run_getObj_map h1, K.ck, hf, MapKept.run_setObj_map _ h1, Result.andThen]
    · rw [hm, del_at _ _ _ _ hn1, List.map_append, List.map_append, e6, e7]
    · rw [hm]; exact fun x hx => h3 x (hsub.subset hx)
    · rw [hm]; exact h4.sublist (hsub.map _)
    · exact ⟨rfl, rfl, rfl, by simp, fun k hk => (MapKept.heap_set h1).2 k hk⟩
  · have hf := K.fnone n es.toList w (not_of h2 hn)
    refine ⟨{ w with heap := w.heap.setIfInBounds mb (.map es clock) }, ?_, ⟨⟨_, _, (MapKept.heap_set h1).1, ?_, h3, h4⟩, nodup_del _ h.nodup⟩, ?_⟩
    · simp [Builtin.delete_, Sem.run_bind, run_underlying K.under, MapKept.run_getObj_map h1, K.ck, hf, MapKept.run_setObj_map _ h1, Result.andThen]
    · rw [del_not hn]; exact h2
    · exact ⟨rfl, rfl, rfl, by simp, fun k hk => (MapKept.heap_set h1).2 k hk⟩
theorem run_len (K : MK mt kt ky) {w : World} {mb : Nat} {M : List (κ × Int)} (h : Mp ky w mb M) (ty : TypeId) :
    (Builtin.len_ #[mt] ty #[.map (some mb)]).run Try.prog w = .ok (.int .i64 (M.length : Int)) w := by
  obtain ⟨es, clock, h1, h2, h3, h4⟩ := h.is
  have hl := congrArg List.length h2
  simp only [List.length_map, Array.length_toList] at hl
  simp [Builtin.len_, Sem.run_bind, run_underlying K.under, MapKept.run_getObj_map h1, Result.andThen, goInt, hl]
/-- an iterator at block r over the map at mb; S: what is still to come -/
structure Itr (ky : κ → Value) (w : World) (r mb : Nat) (M S : List (κ × Int)) : Prop where
  is : ∃ (es : Array MapEntry) (clock : Nat) (seen : Array Nat), w.heap[mb]? = some (.map es clock) ∧ es.toList.map (fun e => (e.key, e.val)) = M.map (fun x => (ky x.1, vl x.2)) ∧ (∀ e ∈ es.toList, e.born < clock) ∧ (es.toList.map (·.born)).Nodup ∧
    w.heap[r]? = some (.mapIter (some mb) clock seen clock) ∧ (leftOf es seen).toList.map (fun e => (e.key, e.val)) = S.map (fun x => (ky x.1, vl x.2))
  nodup : (M.map (·.1)).Nodup
  ne : r ≠ mb
theorem run_range (K : MK mt kt ky) {w : World} {mb : Nat} {M : List (κ × Int)} (h : Mp ky w mb M) :
    ∃ w', (Instr.range mt (.map (some mb))).run Try.prog w = .ok (.pointer (some ⟨w.heap.size, 0, none⟩)) w' ∧ Itr ky w' w.heap.size mb M M ∧ Below w.heap.size w w' ∧ w'.heap.size = w.heap.size + 1 := by
  obtain ⟨es, clock, h1, h2, h3, h4⟩ := h.is
  refine ⟨_, run_range_map w _ _ _ mb es clock K.under h1, ⟨⟨es, clock, #[], ?_, h2, h3, h4, heap_alloc_new w _, ?_⟩, h.nodup, by have := h.lt; omega⟩, (Below.refl _ _).alloc (Nat.le_refl _) _, by simp⟩
  · rw [((Below.refl _ _).alloc (Nat.le_refl _) _).block mb h.lt]; exact h1
  · have : leftOf es #[] = es := by unfold leftOf; simp
    rw [this]; exact h2
theorem filter_born (l1 l2 : List MapEntry) (e : MapEntry) (h : ((l1 ++ e :: l2).map (·.born)).Nodup) : (l1 ++ e :: l2).filter (fun x => !(x.born == e.born)) = l1 ++ l2 := by
  rw [List.map_append, List.map_cons, List.nodup_append, List.nodup_cons] at h
  obtain ⟨_, ⟨h2, _⟩, h3⟩ := h
  rw [List.filter_append, List.filter_cons_of_neg (by simp), List.filter_eq_self.2 (fun x hx => ?_), List.filter_eq_self.2 (fun x hx => ?_)]
  · have : x.born ≠ e.born := fun e9 => h2 (List.mem_map.2 ⟨x, hx, e9⟩)
    simpa using this
  · have : x.born ≠ e.born := h3 _ (List.mem_map.2 ⟨x, hx, rfl⟩) _ (List.mem_cons_self ..)
    simpa using this
theorem left_push (es : Array MapEntry) (seen : Array Nat) (b : Nat) : (leftOf es (seen.push b)).toList = (leftOf es seen).toList.filter (fun x => !(x.born == b)) := by
  unfold leftOf
  rw [Array.toList_filter, Array.toList_filter, List.filter_filter]
  congr 1
  funext x
  rw [contains_push, Bool.not_or, Bool.and_comm]
theorem run_next {w : World} {r mb : Nat} {M S : List (κ × Int)} (h : Itr ky w r mb M S) (ty : TypeId) :
    (S = [] ∧ (Instr.next (.pointer (some ⟨r, 0, none⟩)) false ty).run Try.prog w = .ok (.tuple #[.bool false]) w) ∨
    ∃ S1 n c S2 w', S = S1 ++ (n, c) :: S2 ∧ (Instr.next (.pointer (some ⟨r, 0, none⟩)) false ty).run Try.prog w = .ok (.tuple #[.bool true, ky n, .int .i64 c]) w' ∧
      (Instr.entry (.pointer (some ⟨r, 0, none⟩))).run Try.prog w' = .ok (.tuple #[ky n, .int .i64 c]) w' ∧ Itr ky w' r mb M (S1 ++ S2) ∧ Upd r w w' := by
  obtain ⟨es, clock, seen, h1, h2, h3, h4, h5, h6⟩ := h.is
  rcases run_next_at (P := Try.prog) w ty r mb clock clock seen es clock h5 h1 h3 (Nat.le_refl _) with ⟨h0, hr⟩ | ⟨e, he, w1, hw, hr⟩
  · refine .inl ⟨?_, hr⟩
    have h7 : (leftOf es seen).toList = [] := by rw [← List.length_eq_zero_iff, Array.length_toList]; exact h0
    rw [h7] at h6
    exact List.map_eq_nil_iff.1 h6.symm
  · obtain ⟨l1, l2, hl⟩ := List.append_of_mem he
    rw [hl, List.map_append, List.map_cons] at h6
    obtain ⟨S1, S2', e1, e2, e3⟩ := List.map_eq_append_iff.1 h6.symm
    obtain ⟨⟨n, c⟩, S2, e4, e5, e6⟩ := List.map_eq_cons_iff.1 e3
    simp only [Prod.mk.injEq] at e5
    have hw' : w1.heap = w.heap := by rcases hw with rfl | rfl <;> rfl
    have hb' : (setBlock w1 r (.mapIter (some mb) clock (seen.push e.born) clock)).heap[r]? = some (.mapIter (some mb) clock (seen.push e.born) clock) := by
      unfold setBlock
      have hlt : r < w1.heap.size := by rw [hw']; exact (Array.getElem?_eq_some_iff.1 h5).1
      simp [hlt]
    have hm' : (setBlock w1 r (.mapIter (some mb) clock (seen.push e.born) clock)).heap[mb]? = some (.map es clock) := by
      unfold setBlock
      rw [Array.getElem?_setIfInBounds_ne h.ne, hw']; exact h1
    have hes := mem_left he
    refine .inr ⟨S1, n, c, S2, _, by rw [e1, e4], by rw [← e5.1, ← e5.2] at hr; exact hr, ?_, ⟨⟨es, clock, seen.push e.born, hm', h2, h3, h4, hb', ?_⟩, h.nodup, h.ne⟩, ?_⟩
    · have := run_entry_at (P := Try.prog) _ r mb clock seen es clock e hb' hm' hes.1 h4
      rw [← e5.1, ← e5.2] at this
      exact this
    · rw [left_push, hl, filter_born]
      · rw [List.map_append, List.map_append, e2, e6]
      · have hnd : ((leftOf es seen).toList.map (·.born)).Nodup := by
          unfold leftOf
          rw [Array.toList_filter]
          exact h4.sublist (List.Sublist.map _ List.filter_sublist)
        rw [hl] at hnd
        exact hnd
    · refine ⟨?_, ?_, ?_, ?_, fun k hk => ?_⟩
      · rcases hw with rfl | rfl <;> rfl
      · rcases hw with rfl | rfl <;> rfl
      · rcases hw with rfl | rfl <;> rfl
      · unfold setBlock; simp [hw']
      · unfold setBlock
        rw [Array.getElem?_setIfInBounds_ne (Ne.symm hk), hw']
def itrLeft (w : World) (r mb : Nat) : Nat := match w.heap[r]?, w.heap[mb]? with
  | some (.mapIter _ _ seen _), some (.map es _) => (leftOf es seen).size
  | _, _ => 0
theorem left_eq {w : World} {r mb : Nat} {M S : List (κ × Int)} (h : Itr ky w r mb M S) : itrLeft w r mb = S.length := by
  obtain ⟨es, clock, seen, h1, h2, h3, h4, h5, h6⟩ := h.is
  unfold itrLeft
  rw [h1, h5]
  have := congrArg List.length h6
  simpa using this
variable {ops : Array Oper} {rest : List Oper} {o : Oper} {a : Act} {w : World} {Q : Exit → Act → World → Prop}

theorem range_step (K : MK mt kt ky) (hgd : o.guard = none) (m : Operand) (ho : o.op = .range mt m) (mb : Nat) (hm : a.eval m = .map (some mb)) (M : List (κ × Int)) (hM : Mp ky w mb M)
    (h : ∀ w', Itr ky w' w.heap.size mb M M → Below w.heap.size w w' → w'.heap.size = w.heap.size + 1 → wpList Try.prog ops Q rest (a.put o.dst (.pointer (some ⟨w.heap.size, 0, none⟩))) w') : wpList Try.prog ops Q (o :: rest) a w := by
  refine wpList_plain hgd fun K' hK => ?_
  obtain ⟨w', hr, h1, h2, h3⟩ := run_range K hM
  unfold Oper.wp execOp
  simp only [ho, hm, Sem.run_bind, hr, Result.andThen_ok, Sem.run_pure]
  exact hK _ _ (h w' h1 h2 h3)
theorem next_step (hgd : o.guard = none) (it : Operand) (ho : o.op = .next it false) (r mb : Nat) (hi : a.eval it = .pointer (some ⟨r, 0, none⟩)) (M S : List (κ × Int)) (hI : Itr ky w r mb M S)
    (hd : Hid (S = []) → wpList Try.prog ops Q rest (a.put o.dst (.tuple #[.bool false])) w)
    (hmo : ∀ S1 v c S2 w', Hid (S.length = (S1 ++ S2).length + 1) → Hid (tot S = c + tot (S1 ++ S2)) → Hid ((Instr.entry (.pointer (some ⟨r, 0, none⟩))).run Try.prog w' = .ok (.tuple #[v, .int .i64 c]) w') → Hid (Itr ky w' r mb M (S1 ++ S2)) → Hid (Upd r w w') → wpList Try.prog ops Q rest (a.put o.dst (.tuple #[.bool true, v, .int .i64 c])) w') : wpList Try.prog ops Q (o :: rest) a w := by
  refine wpList_plain hgd fun K hK => ?_
  unfold Oper.wp execOp
  rcases run_next hI o.type with ⟨h0, hr⟩ | ⟨S1, n, c, S2, w', h0, hr, he, hi', hu⟩
  · simp only [ho, hi, Sem.run_bind, hr, Result.andThen_ok, Sem.run_pure]
    exact hK _ _ (hd (Lib.hid h0))
  · simp only [ho, hi, Sem.run_bind, hr, Result.andThen_ok, Sem.run_pure]
    subst h0
    exact hK _ _ (hmo S1 (ky n) c S2 w' (by show _ = _; simp; omega) (by show _ = _; rw [tot_app, tot_app, tot_cons]; show _ + (c + _) = _; omega) (Lib.hid he) (Lib.hid hi') (Lib.hid hu))
theorem lay_step (K : MK mt kt ky) (hgd : o.guard = none) (m x v : Operand) (ho : o.op = .mapUpdate mt m x v) (mb : Nat) (hm : a.eval m = .map (some mb)) (n : κ) (hx : a.eval x = ky n) (c : Int) (hv : a.eval v = .int .i64 c) (M : List (κ × Int)) (hM : Mp ky w mb M)
    (h : ∀ w', Mp ky w' mb (setM M n c) → Upd mb w w' → wpList Try.prog ops Q rest (a.put o.dst undef) w') : wpList Try.prog ops Q (o :: rest) a w := by
  refine wpList_plain hgd fun K' hK => ?_
  obtain ⟨w', hr, h1, h2⟩ := run_lay K hM n c
  unfold Oper.wp execOp
  simp only [ho, hm, hx, hv, Sem.run_bind, hr, Result.andThen_ok, Sem.run_pure]
  exact hK _ _ (h w' h1 h2)
theorem drop_step (K : MK mt kt ky) (hgd : o.guard = none) (m x : Operand) (ho : o.op = .call { callee := .builtin .delete, args := #[m, x], argTypes := #[mt, kt] }) (mb : Nat) (hm : a.eval m = .map (some mb)) (n : κ) (hx : a.eval x = ky n) (M : List (κ × Int)) (hM : Mp ky w mb M)
    (h : ∀ w', Mp ky w' mb (delM M n) → Upd mb w w' → wpList Try.prog ops Q rest (a.put o.dst (.tuple #[])) w') : wpList Try.prog ops Q (o :: rest) a w := by
  refine wpList_plain hgd fun K' hK => ?_
  obtain ⟨w', hr, h1, h2⟩ := run_drop K hM n o.type
  unfold Oper.wp
  simp [execOp, ho, resolve, invoke, builtin, hm, hx, hr, Result.andThen]
  exact hK _ _ (h w' h1 h2)
theorem len_step (K : MK mt kt ky) (hgd : o.guard = none) (m : Operand) (ho : o.op = .call { callee := .builtin .len, args := #[m], argTypes := #[mt] }) (mb : Nat) (hm : a.eval m = .map (some mb)) (M : List (κ × Int)) (hM : Mp ky w mb M)
    (h : wpList Try.prog ops Q rest (a.put o.dst (.int .i64 (M.length : Int))) w) : wpList Try.prog ops Q (o :: rest) a w := by
  refine wpList_plain hgd fun K' hK => ?_
  unfold Oper.wp
  simp [execOp, ho, resolve, invoke, builtin, hm, run_len K hM o.type, Result.andThen]
  exact hK _ _ h
theorem make_step (hgd : o.guard = none) (t : TypeId) (ho : o.op = .makeMap t none)
    (h : ∀ w', w'.heap[w.heap.size]? = some (.map #[] 0) → Below w.heap.size w w' → w'.heap.size = w.heap.size + 1 → wpList Try.prog ops Q rest (a.put o.dst (.map (some w.heap.size))) w') : wpList Try.prog ops Q (o :: rest) a w := by
  refine wpList_plain hgd fun K' hK => ?_
  unfold Oper.wp
  simp only [execOp, ho, Option.map_none, Instr.makeMap, Sem.run_bind, Sem.run_pure, run_newObj_alloc, Result.andThen_ok]
  exact hK _ _ (h _ (heap_alloc_new w _) ((Below.refl _ _).alloc (Nat.le_refl _) _) (by simp))
end

end Go.Proofs.Ytepoodfihemmcaa.Qm
