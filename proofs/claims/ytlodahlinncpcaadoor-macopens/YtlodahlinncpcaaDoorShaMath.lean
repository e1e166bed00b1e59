/- The plain mathematics of the digest: nothing of the program. -/
namespace Go.Proofs.YtlodahlinncpcaaDoor.Q
set_option linter.unusedVariables false

def rot (x n : Nat) : Nat := (x * 2 ^ (32 - n) % 4294967296) ||| (x / 2 ^ n)
def s0 (x : Nat) : Nat := (rot x 7 ^^^ rot x 18) ^^^ (x / 8)
def s1 (x : Nat) : Nat := (rot x 17 ^^^ rot x 19) ^^^ (x / 1024)
def b0 (x : Nat) : Nat := (rot x 2 ^^^ rot x 13) ^^^ rot x 22
def b1 (x : Nat) : Nat := (rot x 6 ^^^ rot x 11) ^^^ rot x 25
def ch (e f g : Nat) : Nat := (e &&& f) ^^^ ((4294967295 - e) &&& g)
def maj (a b c : Nat) : Nat := ((a &&& b) ^^^ (a &&& c)) ^^^ (b &&& c)
def rnd : List Nat → Nat → List Nat
  | [a, b, c, d, e, f, g, h], k => [(h + b1 e + ch e f g + k + b0 a + maj a b c) % 4294967296, a, b, c, (d + (h + b1 e + ch e f g + k)) % 4294967296, e, f, g]
  | l, _ => l
def word : List UInt8 → Nat
  | a :: b :: c :: d :: _ => a.toNat * 16777216 + b.toNat * 65536 + c.toNat * 256 + d.toNat
  | _ => 0
def nxt (w : List Nat) : Nat := (s1 (w.getD (w.length - 2) 0) + w.getD (w.length - 7) 0 + s0 (w.getD (w.length - 15) 0) + w.getD (w.length - 16) 0) % 4294967296
/-- the first t numbers of a block's schedule -/
def W (b : List UInt8) : Nat → List Nat
  | 0 => []
  | t + 1 => W b t ++ [if t < 16 then word (b.drop (4 * t)) else nxt (W b t)]
/-- the state behind t rounds -/
def R (k w s : List Nat) : Nat → List Nat
  | 0 => s
  | t + 1 => rnd (R k w s t) ((k.getD t 0 + w.getD t 0) % 4294967296)
def plus (a b : List Nat) : List Nat := List.zipWith (fun x y => (x + y) % 4294967296) a b
def K : List Nat := [1116352408, 1899447441, 3049323471, 3921009573, 961987163, 1508970993, 2453635748, 2870763221, 3624381080, 310598401, 607225278, 1426881987, 1925078388, 2162078206, 2614888103, 3248222580, 3835390401, 4022224774, 264347078, 604807628, 770255983, 1249150122, 1555081692, 1996064986, 2554220882, 2821834349, 2952996808, 3210313671, 3336571891, 3584528711, 113926993, 338241895, 666307205, 773529912, 1294757372, 1396182291, 1695183700, 1986661051, 2177026350, 2456956037, 2730485921, 2820302411, 3259730800, 3345764771, 3516065817, 3600352804, 4094571909, 275423344, 430227734, 506948616, 659060556, 883997877, 958139571, 1322822218, 1537002063, 1747873779, 1955562222, 2024104815, 2227730452, 2361852424, 2428436474, 2756734187, 3204031479, 3329325298]
def start : List Nat := [1779033703, 3144134277, 1013904242, 2773480762, 1359893119, 2600822924, 528734635, 1541459225]
def block (s : List Nat) (b : List UInt8) : List Nat := plus (R K (W b 64) s 64) s
/-- the state behind n blocks -/
def blocks : Nat → List Nat → List UInt8 → List Nat
  | 0, s, _ => s
  | n + 1, s, b => blocks n (block s (b.take 64)) (b.drop 64)
/-- four bytes, the highest first -/
def four (x : Nat) : List UInt8 := [UInt8.ofNat (x / 16777216), UInt8.ofNat (x / 65536), UInt8.ofNat (x / 256), UInt8.ofNat x]
def spell (s : List Nat) : List UInt8 := s.flatMap four
/-- the lowest k bytes of n, the highest first -/
def numB (n : Nat) : Nat → List UInt8
  | 0 => []
  | k + 1 => UInt8.ofNat (n / 256 ^ k) :: numB n k
def zeros (many : Nat) : Nat := (119 - many % 64) % 64
def pad (many : Nat) : List UInt8 := 128 :: (List.replicate (zeros many) 0 ++ numB (8 * many % 18446744073709551616) 8)
def sum (s : List UInt8) : List UInt8 := spell (blocks ((s.length + (pad s.length).length) / 64) start (s ++ pad s.length))
def digit (n : Nat) : UInt8 := if n < 10 then UInt8.ofNat (48 + n) else UInt8.ofNat (87 + n)
def hex (s : List UInt8) : List UInt8 := s.flatMap fun b => [digit (b.toNat / 16), digit (b.toNat % 16)]

def Ok (l : List Nat) : Prop := ∀ x ∈ l, x < 4294967296
def Ok8 (l : List Nat) : Prop := l.length = 8 ∧ Ok l

theorem rot_lt (x n : Nat) (h : x < 4294967296) : rot x n < 4294967296 :=
  Nat.or_lt_two_pow (n := 32) (Nat.mod_lt _ (by omega)) (Nat.lt_of_le_of_lt (Nat.div_le_self _ _) h)
theorem s0_lt (x : Nat) (h : x < 4294967296) : s0 x < 4294967296 :=
  Nat.xor_lt_two_pow (n := 32) (Nat.xor_lt_two_pow (n := 32) (rot_lt _ _ h) (rot_lt _ _ h)) (by omega)
theorem s1_lt (x : Nat) (h : x < 4294967296) : s1 x < 4294967296 :=
  Nat.xor_lt_two_pow (n := 32) (Nat.xor_lt_two_pow (n := 32) (rot_lt _ _ h) (rot_lt _ _ h)) (by omega)
theorem b0_lt (x : Nat) (h : x < 4294967296) : b0 x < 4294967296 :=
  Nat.xor_lt_two_pow (n := 32) (Nat.xor_lt_two_pow (n := 32) (rot_lt _ _ h) (rot_lt _ _ h)) (rot_lt _ _ h)
theorem b1_lt (x : Nat) (h : x < 4294967296) : b1 x < 4294967296 :=
  Nat.xor_lt_two_pow (n := 32) (Nat.xor_lt_two_pow (n := 32) (rot_lt _ _ h) (rot_lt _ _ h)) (rot_lt _ _ h)
theorem and_lt (a b : Nat) (h : b < 4294967296) : a &&& b < 4294967296 := Nat.and_lt_two_pow (n := 32) a h
theorem ch_lt (e f g : Nat) (h1 : f < 4294967296) (h2 : g < 4294967296) : ch e f g < 4294967296 :=
  Nat.xor_lt_two_pow (n := 32) (and_lt _ _ h1) (and_lt _ _ h2)
theorem maj_lt (a b c : Nat) (h1 : b < 4294967296) (h2 : c < 4294967296) : maj a b c < 4294967296 :=
  Nat.xor_lt_two_pow (n := 32) (Nat.xor_lt_two_pow (n := 32) (and_lt _ _ h1) (and_lt _ _ h2)) (and_lt _ _ h2)
theorem word_lt (l : List UInt8) : word l < 4294967296 := by
  unfold word
  split
  · rename_i a b c d _
    have := a.toNat_lt; have := b.toNat_lt; have := c.toNat_lt; have := d.toNat_lt
    omega
  · omega
theorem nxt_lt (w : List Nat) : nxt w < 4294967296 := Nat.mod_lt _ (by omega)
theorem W_length (b : List UInt8) (t : Nat) : (W b t).length = t := by
  induction t with
  | zero => rfl
  | succ t ih => rw [W, List.length_append, ih]; rfl
theorem W_ok (b : List UInt8) (t : Nat) : Ok (W b t) := by
  induction t with
  | zero => intro x hx; cases hx
  | succ t ih =>
    intro x hx
    rw [W] at hx
    rcases List.mem_append.1 hx with h | h
    · exact ih x h
    · rw [List.mem_singleton] at h
      subst h
      split
      · exact word_lt _
      · exact nxt_lt _
theorem Ok.getD {l : List Nat} (h : Ok l) (i : Nat) : l.getD i 0 < 4294967296 := by
  rw [List.getD_eq_getElem?_getD]
  cases hq : l[i]? with
  | none => simp
  | some x => simpa using h x (List.mem_of_getElem? hq)
theorem eight (l : List Nat) (h : l.length = 8) : ∃ a b c d e f g i, l = [a, b, c, d, e, f, g, i] := by
  match l, h with
  | [a, b, c, d, e, f, g, i], _ => exact ⟨a, b, c, d, e, f, g, i, rfl⟩
theorem rnd_ok (l : List Nat) (k : Nat) (h : Ok8 l) : Ok8 (rnd l k) := by
  obtain ⟨h8, h⟩ := h
  obtain ⟨a, b, c, d, e, f, g, i, rfl⟩ := eight l h8
  refine ⟨rfl, ?_⟩
  intro x hx
  simp only [rnd, List.mem_cons, List.not_mem_nil, or_false] at hx
  have M := Nat.mod_lt (i + b1 e + ch e f g + k + b0 a + maj a b c) (show 0 < 4294967296 by omega)
  have M' := Nat.mod_lt (d + (i + b1 e + ch e f g + k)) (show 0 < 4294967296 by omega)
  rcases hx with rfl | rfl | rfl | rfl | rfl | rfl | rfl | rfl
  · exact M
  · exact h _ (by simp)
  · exact h _ (by simp)
  · exact h _ (by simp)
  · exact M'
  · exact h _ (by simp)
  · exact h _ (by simp)
  · exact h _ (by simp)
theorem R_ok (k w s : List Nat) (t : Nat) (h : Ok8 s) : Ok8 (R k w s t) := by
  induction t with
  | zero => exact h
  | succ t ih => exact rnd_ok _ _ ih
theorem plus_ok (a b : List Nat) (ha : a.length = 8) (hb : b.length = 8) : Ok8 (plus a b) := by
  refine ⟨by simp [plus, ha, hb], ?_⟩
  intro x hx
  simp only [plus] at hx
  rw [List.mem_iff_getElem?] at hx
  obtain ⟨i, hi⟩ := hx
  rw [List.getElem?_zipWith] at hi
  split at hi
  · simp only [Option.some.injEq] at hi
    subst hi
    exact Nat.mod_lt _ (by omega)
  · cases hi
theorem K_ok : Ok K := by unfold Ok; decide +kernel
theorem K_length : K.length = 64 := by decide +kernel
theorem start_ok : Ok8 start := by unfold Ok8 Ok start; decide +kernel
theorem block_ok (s : List Nat) (b : List UInt8) (h : Ok8 s) : Ok8 (block s b) := plus_ok _ _ (R_ok _ _ _ _ h).1 h.1
theorem blocks_ok (n : Nat) (s : List Nat) (b : List UInt8) (h : Ok8 s) : Ok8 (blocks n s b) := by
  induction n generalizing s b with
  | zero => exact h
  | succ n ih => exact ih _ _ (block_ok _ _ h)
theorem numB_length (n k : Nat) : (numB n k).length = k := by
  induction k with
  | zero => rfl
  | succ k ih => simp [numB, ih]
theorem pad_length (many : Nat) : (pad many).length = zeros many + 9 := by
  simp [pad, numB_length]
theorem pad_whole (many : Nat) : (many + (pad many).length) % 64 = 0 := by
  rw [pad_length]; unfold zeros; omega
theorem spell_length (s : List Nat) : (spell s).length = 4 * s.length := by
  induction s with
  | nil => rfl
  | cons a s ih => simp only [spell, List.flatMap_cons, List.length_append, List.length_cons] at *; rw [ih]; simp [four]; omega
theorem hex_length (s : List UInt8) : (hex s).length = 2 * s.length := by
  induction s with
  | nil => rfl
  | cons a s ih => simp only [hex, List.flatMap_cons, List.length_append, List.length_cons] at *; rw [ih]; simp; omega
theorem hex_append (s t : List UInt8) : hex (s ++ t) = hex s ++ hex t := by simp [hex]
/-- blocks of whole ones ahead -/
theorem blocks_append (n m : Nat) (s : List Nat) (a b : List UInt8) (h : a.length = 64 * n) : blocks (n + m) s (a ++ b) = blocks m (blocks n s a) b := by
  induction n generalizing s a with
  | zero =>
    obtain rfl : a = [] := List.eq_nil_of_length_eq_zero (by omega)
    simp [blocks]
  | succ n ih =>
    rw [show n + 1 + m = (n + m) + 1 by omega, blocks, blocks, List.take_append_of_le_length (by omega), List.drop_append_of_le_length (by omega)]
    exact ih _ _ (by rw [List.length_drop]; omega)
end Go.Proofs.YtlodahlinncpcaaDoor.Q
