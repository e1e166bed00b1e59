/- disk: what lies in memory: an object of five cells, a row of bytes, a row of where its blocks end. -/
import Derived.Test.YtjeiggpjbdkpiaaMem

import Derived.Laws.BytesArg

import Derived.Laws.IdiomStrings

import Derived.Laws.OwnMore

import Derived.Laws.CopyRow

import Derived.OwnWalk

namespace Go.Proofs.Ytjeiggpjbdkpiaa.Dk

open Go.RowKit

set_option linter.unusedVariables false

set_option linter.unusedSimpArgs false

set_option maxRecDepth 100000

def S (l : List UInt8) : ByteArray := ⟨l.toArray⟩
theorem S_list (l : List UInt8) : (S l).data.toList = l := by simp [S]
theorem S_of (s : ByteArray) : S s.data.toList = s := by cases s; simp [S]
theorem S_append (a b : List UInt8) : S a ++ S b = S (a ++ b) := by
  apply ByteArray.ext
  simp [S, ByteArray.data_append]
theorem S_size (l : List UInt8) : (S l).size = l.length := by simp [S, ByteArray.size]
theorem S_inj (a b : List UInt8) : S a = S b ↔ a = b :=
  ⟨fun h => by rw [← S_list a, h, S_list], fun h => by rw [h]⟩
theorem len_list (a : ByteArray) : a.data.toList.length = a.size := Array.length_toList
theorem extract_list (s : ByteArray) (a n : Nat) : (s.extract a n).data.toList = (s.data.toList.take n).drop a := by
  rw [ByteArray.data_extract, Array.toList_extract, List.extract, List.drop_take]
theorem S_extract (l : List UInt8) (a b : Nat) : (S l).extract a b = S ((l.take b).drop a) := by
  rw [← S_of ((S l).extract a b), extract_list, S_list]
theorem Try.info_u8 : (Try.prog.info? 5).map (fun i => (i.zero, i.size, i.bytes)) = some (some (.int .u8 0), 1, 1) := by kernel_rfl
theorem Try.info_int : (Try.prog.info? 3).map (fun i => (i.zero, i.size, i.bytes)) = some (some (.int .i64 0), 1, 8) := by kernel_rfl
theorem size_u8 (w : World) : (sizeOf 5).run Try.prog w = .ok 1 w := by
  obtain ⟨i0, hi, hz0, hz1, hz2⟩ := info_parts Try.info_u8
  simp [sizeOf, typeInfo, hi, hz1]
def u8s (l : List UInt8) : List Value := l.map fun b => .int .u8 (b.toNat : Int)
theorem u8s_length (l : List UInt8) : (u8s l).length = l.length := by simp [u8s]
theorem u8s_append (a b : List UInt8) : u8s (a ++ b) = u8s a ++ u8s b := by simp [u8s]
theorem u8s_take (a : List UInt8) (n : Nat) : u8s (a.take n) = (u8s a).take n := by simp [u8s, List.map_take]
theorem u8s_drop (a : List UInt8) (n : Nat) : u8s (a.drop n) = (u8s a).drop n := by simp [u8s, List.map_drop]
theorem u8s_zero (n : Nat) : u8s (List.replicate n 0) = List.replicate n (.int .u8 0) := by simp [u8s]
theorem u8s_one (l : List UInt8) : ∀ u ∈ u8s l, u.oneCell' = true := by
  intro u hu
  obtain ⟨b, _, rfl⟩ := List.mem_map.1 hu
  rfl
theorem ks_one' (k : IntKind) (l : List Nat) : ∀ u ∈ ks k l, u.oneCell' = true := by
  intro u hu
  obtain ⟨b, _, rfl⟩ := List.mem_map.1 hu
  rfl
theorem ks_append (k : IntKind) (a b : List Nat) : ks k (a ++ b) = ks k a ++ ks k b := by simp [ks]
/-- the bytes of a slice -/
structure OB (w : World) (base : Nat) (v : Value) (l : List UInt8) : Prop where
  own : w.ownsRow base 5 1 v l.length (u8s l)
/-- the numbers of a slice -/
structure ON (w : World) (base : Nat) (v : Value) (l : List Nat) : Prop where
  own : w.ownsRow base 3 1 v l.length (ks .i64 l)
theorem ne_rows {w : World} {base base' : Nat} {t t' : TypeId} {n n' k k' : Nat} {v v' : Value} {L L' : List Value} (h : w.ownsRow base t k v n L) (h' : w.ownsRow base' t' k' v' n' L') (ht : t ≠ t') : v.ownBlock = none ∨ v.ownBlock ≠ v'.ownBlock := by
  rcases h.2 with ⟨rfl, _⟩ | ⟨g, cap, cur, rfl, _, hg, _⟩
  · exact .inl rfl
  · refine .inr fun e => ?_
    rcases h'.2 with ⟨rfl, _⟩ | ⟨g', cap', cur', rfl, _, hg', _⟩
    · simp [Value.ownBlock] at e
    · simp only [Value.ownBlock, Option.some.injEq] at e
      subst e
      rw [hg] at hg'
      simp only [Option.some.injEq, Obj.cells.injEq] at hg'
      exact ht hg'.2.1
theorem OB.slice {w : World} {base : Nat} {v : Value} {l : List UInt8} (h : OB w base v l) : ∃ a c, v = .slice a l.length c ∧ l.length ≤ c ∧ c ≤ maxLen := by
  rcases h.own.2 with ⟨rfl, h0⟩ | ⟨g, cap, cur, rfl, _, _, h1, h2, _⟩
  · exact ⟨none, 0, by rw [h0], by omega, by unfold maxLen; omega⟩
  · exact ⟨_, cap, rfl, h1, h2⟩
theorem ON.slice {w : World} {base : Nat} {v : Value} {l : List Nat} (h : ON w base v l) : ∃ a c, v = .slice a l.length c ∧ l.length ≤ c ∧ c ≤ maxLen := by
  rcases h.own.2 with ⟨rfl, h0⟩ | ⟨g, cap, cur, rfl, _, _, h1, h2, _⟩
  · exact ⟨none, 0, by rw [h0], by omega, by unfold maxLen; omega⟩
  · exact ⟨_, cap, rfl, h1, h2⟩
/-- string(v) -/
theorem OB.str {w : World} {base : Nat} {v : Value} {l : List UInt8} (h : OB w base v l) : (convert 31 9 v).run Try.prog w = .ok (.string (S l)) w := by
  have h0 := h.own
  rcases h.own.2 with ⟨rfl, h1⟩ | ⟨g, cap, cur, rfl, hb, hg, hn, hm, hs, ht⟩
  · obtain rfl := List.length_eq_zero_iff.1 h1
    exact run_convert_bytes_nil (P := Try.prog) (w := w) 31 5 Try.underlying31 Try.underlying5 0 0 9 Try.underlying9
  · refine run_convert_bytes_back w 31 9 5 ⟨g, 0, none⟩ cap l Try.underlying31 Try.underlying5 Try.underlying9 ?_
    intro j hj
    refine h0.cells (g := g) rfl j _ ?_
    simp [u8s, hj]

/-- a slice's block is the same one, or a new one -/
def Nw (w : World) (v v' : Value) : Prop := v'.ownBlock = v.ownBlock ∨ ∀ g, v'.ownBlock = some g → w.heap.size ≤ g
theorem Nw.refl (w : World) (v : Value) : Nw w v v := .inl rfl
theorem Nw.nil (w : World) (v : Value) (n c : Nat) : Nw w v (.slice none n c) := .inr fun g hg => by simp [Value.ownBlock] at hg
theorem Nw.trans {w w' : World} {v v' v'' : Value} (h : Nw w v v') (hs : w.heap.size ≤ w'.heap.size) (k : Nw w' v' v'') : Nw w v v'' := by
  rcases k with k | k
  · rcases h with h | h
    · exact .inl (k.trans h)
    · exact .inr fun g hg => h g (by rw [← k]; exact hg)
  · exact .inr fun g hg => Nat.le_trans hs (k g hg)
theorem grownBy_row (w : World) (g : Nat) (cur : Array Value) : w.grownBy (w.setRow g cur) (some g) := ⟨rfl, rfl, rfl, by simp, fun k _ hk => setRow_other w g k _ (fun e => hk (by rw [e]))⟩
theorem own_of {w : World} {base g cap n : Nat} {t : TypeId} {cur : Array Value} {L : List Value} (hn : L.length = n) (hB : base ≤ g) (hh : w.heap[g]? = some (Obj.cells cur t (0, 0))) (h1 : n ≤ cap) (h2 : cap ≤ maxLen) (h3 : cur.size = cap) (h4 : cur.toList.take n = L) : w.ownsRow base t 1 (.slice (some ⟨g, 0, none⟩) n cap) n L :=
  ⟨by rw [Nat.mul_one]; exact hn, .inr ⟨g, cap, cur, rfl, hB, hh, h1, h2, by rw [Nat.mul_one]; exact h3, by rw [Nat.mul_one]; exact h4⟩⟩
/-- append of several to an own row: whose block the new one is -/
theorem run_append_nw (t ty e : TypeId) (i : TypeInfo) (z : Value) (bytes : Nat) (ht : Try.prog.underlying t = some (.slice e)) (hi : Try.prog.info? e = some i) (hz : i.zero = some z) (hsize : i.size = 1) (hby : i.bytes = bytes) (hzs : z.cells.size = 1)
    (w : World) (base : Nat) (v : Value) (n : Nat) (xs : List Value) (hown : w.ownsRow base e 1 v n xs) (a : Addr) (m c : Nat) (news : List Value) (hl : news.length = m) (hnews : ∀ j u, news[j]? = some u → w.cell? (a.add j) = some u) (h1 : ∀ u ∈ news, u.oneCell' = true)
    (h63 : n + m ≤ maxLen) (hbytes : (n + m) * bytes ≤ 140737488355328) (hbase : base ≤ w.heap.size) :
    ∃ v' w', (Builtin.append_ #[t, t] ty #[v, .slice (some a) m c]).run Try.prog w = .ok v' w' ∧ w'.ownsRow base e 1 v' (n + m) (xs ++ news) ∧ w.grownBy w' v.ownBlock ∧ Nw w v v' := by
  have hxl : xs.length = n := by have := hown.1; rwa [Nat.mul_one] at this
  rcases hown.2 with ⟨rfl, rfl⟩ | ⟨g, cap, cur, rfl, hB, hh, hnc, hcm, hcs, htake⟩
  · obtain rfl := List.length_eq_zero_iff.1 hxl
    obtain ⟨v', w', hr, ho, hg, _⟩ := run_append_own (P := Try.prog) w w.heap.size t ty e i z 1 bytes ht hi hz hsize hby hzs (by decide) (.slice none 0 0) 0 [] (World.ownsRow_nil _ _ _ _) a m c news (by rw [Nat.mul_one]; exact hl) hnews h1 h63 hbytes (Nat.le_refl _)
    refine ⟨v', w', hr, ?_, hg, .inr fun k hk => (World.ownsRow.lt ho k hk).1⟩
    obtain ⟨o1, o2⟩ := ho
    exact ⟨o1, o2.imp id fun ⟨g, cap, cur, p, q, r⟩ => ⟨g, cap, cur, p, Nat.le_trans hbase q, r⟩⟩
  · rw [Nat.mul_one] at hcs htake
    by_cases hroom : n + m ≤ cap
    · have hr := run_append_room (P := Try.prog) w t ty e i ht hi g n cap cur hh a m c news (by rw [hsize, Nat.mul_one]; exact hl) hnews h1 hroom (by rw [hsize]; omega)
      rw [hsize, Nat.mul_one, htake] at hr
      refine ⟨_, _, hr, ?_, grownBy_row w g _, .inl rfl⟩
      refine own_of (by rw [List.length_append, hxl, hl]) hB (setRow_heap w g cur _ e _ hh) hroom hcm ?_ ?_
      · simp only [List.size_toArray, List.length_append, List.length_drop, Array.length_toList]
        omega
      · have e2 : (xs ++ news).length = n + m := by rw [List.length_append, hxl, hl]
        rw [List.toList_toArray, List.take_append_of_le_length (by rw [e2]; exact Nat.le_refl _), List.take_of_length_le (by rw [e2]; exact Nat.le_refl _)]
    · have holds : ∀ j u, xs[j]? = some u → w.cell? ((⟨g, 0, none⟩ : Addr).add j) = some u := World.ownsRow.cells hown (g := g) rfl
      have hge := grownCap_ge w (n + m) cap e
      have hcm' : grownCap w (n + m) cap e ≤ maxLen := grownCap_le_maxLen w _ cap e h63
      have hr := run_append_grow (P := Try.prog) w t ty e i z ht hi hz ⟨g, 0, none⟩ n cap xs (by rw [hsize, Nat.mul_one]; exact hxl) holds a m c news (by rw [hsize, Nat.mul_one]; exact hl) hnews (by omega) (by unfold maxLen at h63; omega) (growslice_fits (by unfold maxLen at h63; omega) (by rw [hby]; exact hbytes))
      refine ⟨_, _, hr, ?_, ⟨rfl, rfl, rfl, by simp, fun k hk _ => heap_alloc_old w.drew _ hk⟩, .inr fun k hk => ?_⟩
      · refine own_of (by rw [List.length_append, hxl, hl]) hbase (heap_alloc_new w.drew _) hge hcm' ?_ ?_
        · simp only [Array.size_append, List.size_toArray, size_zeroCells, hzs]
          omega
        · simp only [Array.toList_append]
          have e2 : (xs ++ news).length = n + m := by rw [List.length_append, hxl, hl]
          rw [List.take_append_of_le_length (by rw [e2]; exact Nat.le_refl _), List.take_of_length_le (by rw [e2]; exact Nat.le_refl _)]
      · have : k = w.heap.size := by simpa [Value.ownBlock] using hk.symm
        omega
theorem Blk.setc {w : World} {b : Nat} {vs : List Value} (h : Blk w b vs) (j : Nat) (hj : j < vs.length) (v : Value) : Blk (w.setCell ⟨b, j, none⟩ v) b (vs.set j v) := by
  have c : ∃ u, w.cell? ⟨b, j, none⟩ = some u := ⟨_, h.cell j vs[j] (List.getElem?_eq_getElem hj)⟩
  obtain ⟨u, c⟩ := c
  refine ⟨fun i x hx => ?_, fun i hi => ?_⟩
  · rw [Nat.zero_add]
    by_cases e : j = i
    · subst e
      rw [List.getElem?_set_self hj] at hx
      rw [← Option.some.inj hx]
      exact World.cell?_setCell_same _ _ _ c
    · rw [List.getElem?_set_ne e] at hx
      rw [World.cell?_setCell_other _ _ _ _ (by simp [e])]
      simpa using h.1 i x hx
  · rw [List.length_set] at hi
    obtain ⟨h1, h2⟩ := h.2 i hi
    exact ⟨World.isSome_setCells b [v] j w _ h1, by simpa using h2⟩
/-- the object: how much room, held or not, its bytes, how many are synced, where blocks end -/
structure Raw (w : World) (b room : Nat) (held : Bool) (tv : Value) (T : List UInt8) (syn : Nat) (ev : Value) (E : List Nat) : Prop where
  blk : Blk w b [.int .i64 (room : Int), .bool held, tv, .int .i64 (syn : Int), ev]
  th : OB w (b + 1) tv T
  en : ON w (b + 1) ev E
/-- what else there is stays -/
structure Tn (b : Nat) (tv ev : Value) (w : World) (tv' ev' : Value) (w' : World) : Prop where
  os : w'.os = w.os
  tape : w'.tape = w.tape
  output : w'.output = w.output
  size : w.heap.size ≤ w'.heap.size
  far : ∀ k, k < w.heap.size → k ≠ b → tv.ownBlock ≠ some k → ev.ownBlock ≠ some k → w'.heap[k]? = w.heap[k]?
  nt : Nw w tv tv'
  ne : Nw w ev ev'
theorem Tn.refl (b : Nat) (tv ev : Value) (w : World) : Tn b tv ev w tv ev w := ⟨rfl, rfl, rfl, Nat.le_refl _, fun _ _ _ _ _ => rfl, .refl _ _, .refl _ _⟩
theorem Nw.far {w : World} {v v' : Value} (h : Nw w v v') {k : Nat} (hk : k < w.heap.size) (hn : v.ownBlock ≠ some k) : v'.ownBlock ≠ some k := by
  rcases h with h | h
  · rw [h]; exact hn
  · intro e
    have := h k e
    omega
theorem Tn.trans {b : Nat} {tv ev tv' ev' tv'' ev'' : Value} {w w' w'' : World} (h : Tn b tv ev w tv' ev' w') (k : Tn b tv' ev' w' tv'' ev'' w'') : Tn b tv ev w tv'' ev'' w'' :=
  ⟨k.os.trans h.os, k.tape.trans h.tape, k.output.trans h.output, Nat.le_trans h.size k.size, fun i hi hb h1 h2 => (k.far i (Nat.lt_of_lt_of_le hi h.size) hb (h.nt.far hi h1) (h.ne.far hi h2)).trans (h.far i hi hb h1 h2), h.nt.trans h.size k.nt, h.ne.trans h.size k.ne⟩
section

variable {w : World} {b room syn : Nat} {held : Bool} {tv ev : Value} {T : List UInt8} {E : List Nat}

theorem Raw.lt (h : Raw w b room held tv T syn ev E) : b < w.heap.size := World.block_lt_of_cell? w _ (h.blk.cell 0 _ rfl)
theorem Raw.base (h : Raw w b room held tv T syn ev E) : b + 1 ≤ w.heap.size := h.lt
theorem Raw.nb (h : Raw w b room held tv T syn ev E) : tv.ownBlock ≠ some b := fun e => by have := (World.ownsRow.lt h.th.own b e).1; omega
theorem Raw.mb (h : Raw w b room held tv T syn ev E) : ev.ownBlock ≠ some b := fun e => by have := (World.ownsRow.lt h.en.own b e).1; omega
theorem Raw.below {w' : World} (h : Raw w b room held tv T syn ev E) {B : Nat} (hb : Below B w w') (hB : w.heap.size ≤ B) : Raw w' b room held tv T syn ev E := by
  have hs : ∀ {v : Value} {n : Nat} {t : TypeId} {L : List Value}, w.ownsRow (b + 1) t 1 v n L → w'.ownsRow (b + 1) t 1 v n L := fun {v n t L} k => by
    obtain ⟨k1, k2⟩ := k
    refine ⟨k1, k2.imp id ?_⟩
    rintro ⟨g, cap, cur, p, q, r, s⟩
    refine ⟨g, cap, cur, p, q, ?_, s⟩
    have hg := (Array.getElem?_eq_some_iff.1 r).1
    rw [hb.block g (by omega)]; exact r
  exact ⟨h.blk.below hb (by have := h.lt; omega), ⟨hs h.th.own⟩, ⟨hs h.en.own⟩⟩
theorem Tn.below_of {b : Nat} {tv ev tv' ev' : Value} {w w' : World} (h : Tn b tv ev w tv' ev' w') {B : Nat} (h0 : B ≤ w.heap.size) (hb : B ≤ b) (h1 : ∀ g, tv.ownBlock = some g → B ≤ g) (h2 : ∀ g, ev.ownBlock = some g → B ≤ g) : Below B w w' :=
  ⟨h.os, h.tape, h.output, h.size, fun k hk => h.far k (by omega) (by omega) (fun e => by have := h1 k e; omega) (fun e => by have := h2 k e; omega)⟩
theorem Raw.below_tn {w' : World} {tv' ev' : Value} (h : Raw w b room held tv T syn ev E) (t : Tn b tv ev w tv' ev' w') {B : Nat} (hb : B ≤ b) : Below B w w' :=
  t.below_of (by have := h.lt; omega) hb (fun g hg => by have := (World.ownsRow.lt h.th.own g hg).1; omega) (fun g hg => by have := (World.ownsRow.lt h.en.own g hg).1; omega)
/-- a plain field is another one -/
theorem Raw.cells (h : Raw w b room held tv T syn ev E) (j : Nat) (x : Value) {v : Value} {n : Nat} {t : TypeId} {L : List Value} (k : w.ownsRow (b + 1) t 1 v n L) : (w.setCell ⟨b, j, none⟩ x).ownsRow (b + 1) t 1 v n L := by
  obtain ⟨k1, k2⟩ := k
  refine ⟨k1, k2.imp id ?_⟩
  rintro ⟨g, cap, cur, p, q, r, s⟩
  refine ⟨g, cap, cur, p, q, ?_, s⟩
  rw [Below.heap_setCell w ⟨b, j, none⟩ x g (by show g ≠ b; omega)]; exact r
theorem Raw.tn (h : Raw w b room held tv T syn ev E) (j : Nat) (x : Value) : Tn b tv ev w tv ev (w.setCell ⟨b, j, none⟩ x) :=
  ⟨rfl, rfl, rfl, by simp [World.setCell], fun k _ hk _ _ => Below.heap_setCell w ⟨b, j, none⟩ x k hk, .refl _ _, .refl _ _⟩
theorem Raw.sets (h : Raw w b room held tv T syn ev E) (n : Nat) : Raw (w.setCell ⟨b, 3, none⟩ (.int .i64 (n : Int))) b room held tv T n ev E :=
  ⟨Blk.setc h.blk 3 (by simp) _, ⟨h.cells 3 _ h.th.own⟩, ⟨h.cells 3 _ h.en.own⟩⟩
theorem Raw.seth (h : Raw w b room held tv T syn ev E) (x : Bool) : Raw (w.setCell ⟨b, 1, none⟩ (.bool x)) b room x tv T syn ev E :=
  ⟨Blk.setc h.blk 1 (by simp) _, ⟨h.cells 1 _ h.th.own⟩, ⟨h.cells 1 _ h.en.own⟩⟩
theorem Raw.sete0 (h : Raw w b room held tv T syn ev E) : Raw (w.setCell ⟨b, 4, none⟩ (.slice none 0 0)) b room held tv T syn (.slice none 0 0) [] :=
  ⟨Blk.setc h.blk 4 (by simp) _, ⟨h.cells 4 _ h.th.own⟩, ⟨World.ownsRow_nil _ _ _ _⟩⟩
theorem Raw.tne0 (h : Raw w b room held tv T syn ev E) : Tn b tv ev w tv (.slice none 0 0) (w.setCell ⟨b, 4, none⟩ (.slice none 0 0)) :=
  ⟨rfl, rfl, rfl, by simp [World.setCell], fun k _ hk _ _ => Below.heap_setCell w ⟨b, 4, none⟩ _ k hk, .refl _ _, .nil _ _ _ _⟩
/-- the object over a world in which one of its rows has grown -/
theorem Raw.grown {w' : World} {o : Option Nat} (h : Raw w b room held tv T syn ev E) (hg : w.grownBy w' o) (hb : o ≠ some b) : Blk w' b [.int .i64 (room : Int), .bool held, tv, .int .i64 (syn : Int), ev] := by
  have e : w'.heap[b]? = w.heap[b]? := hg.block b h.lt (fun e => hb e.symm)
  exact ⟨fun j v hv => by rw [World.cell?_of_block (w := w) e]; exact h.blk.1 j v hv, fun j hj => by rw [World.cell?_of_block (w := w) e, World.frozen?_of_block (w := w) e]; exact h.blk.2 j hj⟩
theorem Raw.sett {w' : World} {tv' : Value} {T' : List UInt8} (h : Raw w b room held tv T syn ev E) (hg : w.grownBy w' tv.ownBlock) (ho : OB w' (b + 1) tv' T') (hn : Nw w tv tv') :
    Raw (w'.setCell ⟨b, 2, none⟩ tv') b room held tv' T' syn ev E ∧ Tn b tv ev w tv' ev (w'.setCell ⟨b, 2, none⟩ tv') := by
  have hB := h.grown hg h.nb
  have hE : ON w' (b + 1) ev E := ⟨h.en.own.kept hg (ne_rows h.en.own h.th.own (by decide))⟩
  have hR : Raw w' b room held tv' T' syn ev E ∨ True := .inr trivial
  refine ⟨⟨Blk.setc hB 2 (by simp) _, ?_, ?_⟩, ⟨hg.os, hg.tape, hg.output, by simpa [World.setCell] using hg.size, fun k hk h1 h2 h3 => (Below.heap_setCell w' ⟨b, 2, none⟩ _ k h1).trans (hg.block k hk (fun e => h2 e.symm)), hn, .refl _ _⟩⟩
  · obtain ⟨⟨k1, k2⟩⟩ := ho
    refine ⟨⟨k1, k2.imp id ?_⟩⟩
    rintro ⟨g, cap, cur, p, q, r, s⟩
    refine ⟨g, cap, cur, p, q, ?_, s⟩
    rw [Below.heap_setCell w' ⟨b, 2, none⟩ _ g (by show g ≠ b; omega)]; exact r
  · obtain ⟨⟨k1, k2⟩⟩ := hE
    refine ⟨⟨k1, k2.imp id ?_⟩⟩
    rintro ⟨g, cap, cur, p, q, r, s⟩
    refine ⟨g, cap, cur, p, q, ?_, s⟩
    rw [Below.heap_setCell w' ⟨b, 2, none⟩ _ g (by show g ≠ b; omega)]; exact r
theorem Raw.sete {w' : World} {ev' : Value} {E' : List Nat} (h : Raw w b room held tv T syn ev E) (hg : w.grownBy w' ev.ownBlock) (ho : ON w' (b + 1) ev' E') (hn : Nw w ev ev') :
    Raw (w'.setCell ⟨b, 4, none⟩ ev') b room held tv T syn ev' E' ∧ Tn b tv ev w tv ev' (w'.setCell ⟨b, 4, none⟩ ev') := by
  have hB := h.grown hg h.mb
  have hE : OB w' (b + 1) tv T := ⟨h.th.own.kept hg (ne_rows h.th.own h.en.own (by decide))⟩
  refine ⟨⟨Blk.setc hB 4 (by simp) _, ?_, ?_⟩, ⟨hg.os, hg.tape, hg.output, by simpa [World.setCell] using hg.size, fun k hk h1 h2 h3 => (Below.heap_setCell w' ⟨b, 4, none⟩ _ k h1).trans (hg.block k hk (fun e => h3 e.symm)), .refl _ _, hn⟩⟩
  · obtain ⟨⟨k1, k2⟩⟩ := hE
    refine ⟨⟨k1, k2.imp id ?_⟩⟩
    rintro ⟨g, cap, cur, p, q, r, s⟩
    refine ⟨g, cap, cur, p, q, ?_, s⟩
    rw [Below.heap_setCell w' ⟨b, 4, none⟩ _ g (by show g ≠ b; omega)]; exact r
  · obtain ⟨⟨k1, k2⟩⟩ := ho
    refine ⟨⟨k1, k2.imp id ?_⟩⟩
    rintro ⟨g, cap, cur, p, q, r, s⟩
    refine ⟨g, cap, cur, p, q, ?_, s⟩
    rw [Below.heap_setCell w' ⟨b, 4, none⟩ _ g (by show g ≠ b; omega)]; exact r
/-- the bytes are others, in the same place -/
theorem Raw.setT {w' : World} {T' : List UInt8} (h : Raw w b room held tv T syn ev E) (hg : w.grownBy w' tv.ownBlock) (ho : OB w' (b + 1) tv T') : Raw w' b room held tv T' syn ev E ∧ Tn b tv ev w tv ev w' :=
  ⟨⟨h.grown hg h.nb, ho, ⟨h.en.own.kept hg (ne_rows h.en.own h.th.own (by decide))⟩⟩, ⟨hg.os, hg.tape, hg.output, hg.size, fun k hk h1 h2 h3 => hg.block k hk (fun e => h2 e.symm), .refl _ _, .refl _ _⟩⟩
end

end Go.Proofs.Ytjeiggpjbdkpiaa.Dk
