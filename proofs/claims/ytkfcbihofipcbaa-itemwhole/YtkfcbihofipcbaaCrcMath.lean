/-
  Plain mathematics of the checksum of 32 bits: the step is linear and one-to-one, what four bytes come to, joins, the residue. Nothing of the program is in it; no condition.
-/
namespace Go.Proofs.Ytkfcbihofipcbaa.Cr.M

def poly : BitVec 32 := 0xedb88320#32
def ones : BitVec 32 := 0xffffffff#32
/-- one bit goes out -/
def s1 (c : BitVec 32) : BitVec 32 := (c >>> 1) ^^^ (if c.getLsbD 0 then poly else 0#32)
/-- n bits go out -/
def it : Nat → BitVec 32 → BitVec 32
  | 0, c => c
  | n + 1, c => s1 (it n c)
def ext (b : UInt8) : BitVec 32 := BitVec.ofNat 32 b.toNat
def step (c : BitVec 32) (b : UInt8) : BitVec 32 := it 8 (c ^^^ ext b)
def run (c : BitVec 32) (l : List UInt8) : BitVec 32 := l.foldl step c
def sum (l : List UInt8) : BitVec 32 := ~~~ (run ones l)
def zeros (n : Nat) (c : BitVec 32) : BitVec 32 := it (8 * n) c
def join (a b : BitVec 32) (n : Nat) : BitVec 32 := if n = 0 then a else zeros (min n 4096) a ^^^ b

theorem s1_xor (a b : BitVec 32) : s1 (a ^^^ b) = s1 a ^^^ s1 b := by
  unfold s1
  rw [BitVec.getLsbD_xor, BitVec.ushiftRight_xor_distrib]
  cases a.getLsbD 0 <;> cases b.getLsbD 0 <;> simp
  · ac_rfl
  · ac_rfl
  · rw [show (a >>> 1 ^^^ poly ^^^ (b >>> 1 ^^^ poly)) = (a >>> 1 ^^^ b >>> 1) ^^^ (poly ^^^ poly) by ac_rfl]; simp

theorem s1_zero : s1 0#32 = 0#32 := by decide

theorem s1_inj0 (a : BitVec 32) (h : s1 a = 0#32) : a = 0#32 := by
  unfold s1 at h
  by_cases hb : a.getLsbD 0 = true
  · exfalso
    rw [if_pos hb] at h
    have := congrArg (fun x : BitVec 32 => x.getLsbD 31) h
    simp only [BitVec.getLsbD_xor, BitVec.getLsbD_ushiftRight] at this
    have e : a.getLsbD (1 + 31) = false := BitVec.getLsbD_of_ge _ _ (by omega)
    rw [e] at this
    exact absurd this (by decide)
  · rw [if_neg hb] at h
    simp only [BitVec.xor_zero] at h
    apply BitVec.eq_of_getLsbD_eq
    intro i hi
    have hz : (0#32).getLsbD i = false := by simp
    rw [hz]
    cases i with
    | zero => simpa using hb
    | succ j =>
      have := congrArg (fun x : BitVec 32 => x.getLsbD j) h
      simp only [BitVec.getLsbD_ushiftRight] at this
      rw [Nat.add_comm 1 j] at this
      rw [this]; simp

theorem it_xor (n : Nat) (a b : BitVec 32) : it n (a ^^^ b) = it n a ^^^ it n b := by
  induction n with
  | zero => rfl
  | succ n ih => simp only [it]; rw [ih, s1_xor]
theorem it_zero (n : Nat) : it n 0#32 = 0#32 := by
  induction n with
  | zero => rfl
  | succ n ih => simp only [it]; rw [ih, s1_zero]
theorem it_inj0 (n : Nat) (a : BitVec 32) (h : it n a = 0#32) : a = 0#32 := by
  induction n with
  | zero => exact h
  | succ n ih => exact ih (s1_inj0 _ h)
theorem it_add (m n : Nat) (a : BitVec 32) : it (m + n) a = it m (it n a) := by
  induction m with
  | zero => simp [it]
  | succ m ih => rw [Nat.succ_add]; simp only [it]; rw [ih]
theorem xor_eq_zero (a b : BitVec 32) (h : a ^^^ b = 0#32) : a = b := by
  have : (a ^^^ b) ^^^ b = 0#32 ^^^ b := by rw [h]
  rw [BitVec.xor_assoc, BitVec.xor_self, BitVec.xor_zero, BitVec.zero_xor] at this
  exact this
theorem it_inj (n : Nat) (a b : BitVec 32) (h : it n a = it n b) : a = b := by
  apply xor_eq_zero
  apply it_inj0 n
  rw [it_xor, h, BitVec.xor_self]

/-! ## what is shifted comes back -/
theorem s1_shl (y : BitVec 32) (h : y.getLsbD 31 = false) : s1 (y <<< 1) = y := by
  unfold s1
  have e : (y <<< 1).getLsbD 0 = false := by simp
  rw [e]
  simp only [Bool.false_eq_true, if_false, BitVec.xor_zero]
  apply BitVec.eq_of_getLsbD_eq
  intro i hi
  simp only [BitVec.getLsbD_ushiftRight, BitVec.getLsbD_shiftLeft]
  by_cases h31 : i = 31
  · subst h31; rw [h]; simp
  · have : 1 + i < 32 := by omega
    simp [this]
theorem it_shl (n : Nat) : ∀ (y : BitVec 32), (∀ i, 32 ≤ i + n → y.getLsbD i = false) → it n (y <<< n) = y := by
  induction n with
  | zero => intro y _; simp [it]
  | succ n ih =>
    intro y h
    have e : y <<< (n + 1) = (y <<< 1) <<< n := by rw [Nat.add_comm n 1, BitVec.shiftLeft_add]
    rw [e]
    simp only [it]
    rw [ih (y <<< 1) ?_, s1_shl y (h 31 (by omega))]
    intro i hi
    rw [BitVec.getLsbD_shiftLeft]
    by_cases hz : i < 1
    · simp [hz]
    · rw [h (i - 1) (by omega)]; simp

theorem ext_bit (b : UInt8) (i : Nat) : (ext b).getLsbD i = (decide (i < 32) && b.toNat.testBit i) := by
  unfold ext; rw [BitVec.getLsbD_ofNat]
theorem ext_high (b : UInt8) (i : Nat) (h : 8 ≤ i) : (ext b).getLsbD i = false := by
  rw [ext_bit]
  have : b.toNat.testBit i = false := by
    apply Nat.testBit_lt_two_pow
    have h1 := b.toNat_lt
    have h2 : 2 ^ 8 ≤ 2 ^ i := Nat.pow_le_pow_right (by omega) h
    omega
  rw [this]; simp
theorem ext_xor (a b : UInt8) : ext (a ^^^ b) = ext a ^^^ ext b := by
  apply BitVec.eq_of_getLsbD_eq
  intro i hi
  rw [BitVec.getLsbD_xor, ext_bit, ext_bit, ext_bit, UInt8.toNat_xor, Nat.testBit_xor]
  simp [hi]

theorem step_it (m : Nat) (hm : m ≤ 24) (x : BitVec 32) (b : UInt8) : step (it m x) b = it (8 + m) (x ^^^ (ext b <<< m)) := by
  unfold step
  rw [it_add, it_xor m, it_shl m (ext b) (fun i hi => ext_high b i (by omega))]

def word (b0 b1 b2 b3 : UInt8) : BitVec 32 := ext b0 ^^^ (ext b1 <<< 8) ^^^ (ext b2 <<< 16) ^^^ (ext b3 <<< 24)

theorem run4 (c : BitVec 32) (b0 b1 b2 b3 : UInt8) : run c [b0, b1, b2, b3] = it 32 (c ^^^ word b0 b1 b2 b3) := by
  show step (step (step (step c b0) b1) b2) b3 = _
  have e0 : step c b0 = it 8 (c ^^^ ext b0) := rfl
  rw [e0, step_it 8 (by omega), step_it 16 (by omega), step_it 24 (by omega)]
  unfold word
  generalize ext b0 = x0
  generalize ext b1 <<< 8 = x1
  generalize ext b2 <<< 16 = x2
  generalize ext b3 <<< 24 = x3
  have e : c ^^^ x0 ^^^ x1 ^^^ x2 ^^^ x3 = c ^^^ (x0 ^^^ x1 ^^^ x2 ^^^ x3) := by ac_rfl
  rw [e]

def byteAt (x : BitVec 32) (j : Nat) : UInt8 := UInt8.ofNat (x.toNat / 2 ^ (8 * j))

theorem byteAt_bit (x : BitVec 32) (j i : Nat) : (ext (byteAt x j)).getLsbD i = (decide (i < 8) && x.getLsbD (8 * j + i)) := by
  rw [ext_bit]
  unfold byteAt
  rw [UInt8.toNat_ofNat']
  rw [Nat.testBit_mod_two_pow, ← Nat.shiftRight_eq_div_pow, Nat.testBit_shiftRight]
  by_cases h : i < 8
  · have : i < 32 := by omega
    simp [h, this, BitVec.getLsbD]
  · simp [h]

theorem word_byteAt (x : BitVec 32) : word (byteAt x 0) (byteAt x 1) (byteAt x 2) (byteAt x 3) = x := by
  apply BitVec.eq_of_getLsbD_eq
  intro i hi
  unfold word
  simp only [BitVec.getLsbD_xor, BitVec.getLsbD_shiftLeft, byteAt_bit]
  by_cases h1 : i < 8
  · have a1 : i < 16 := by omega
    have a2 : i < 24 := by omega
    simp [h1, a1, a2]
  · by_cases h2 : i < 16
    · have a1 : i < 24 := by omega
      have a2 : i - 8 < 8 := by omega
      have a3 : 8 + (i - 8) = i := by omega
      simp [h1, h2, hi, a1, a2, a3]
    · by_cases h3 : i < 24
      · have a2 : i - 16 < 8 := by omega
        have a3 : 16 + (i - 16) = i := by omega
        have a4 : ¬ i - 8 < 8 := by omega
        simp [h1, h2, h3, hi, a2, a3, a4]
      · have a2 : i - 24 < 8 := by omega
        have a3 : 24 + (i - 24) = i := by omega
        have a4 : ¬ i - 8 < 8 := by omega
        have a5 : ¬ i - 16 < 8 := by omega
        simp [h1, h2, h3, hi, a2, a3, a4, a5]

theorem word_xor (a0 a1 a2 a3 b0 b1 b2 b3 : UInt8) : word (a0 ^^^ b0) (a1 ^^^ b1) (a2 ^^^ b2) (a3 ^^^ b3) = word a0 a1 a2 a3 ^^^ word b0 b1 b2 b3 := by
  unfold word
  rw [ext_xor, ext_xor, ext_xor, ext_xor, BitVec.shiftLeft_xor_distrib, BitVec.shiftLeft_xor_distrib, BitVec.shiftLeft_xor_distrib]
  generalize ext a0 = x0
  generalize ext a1 <<< 8 = x1
  generalize ext a2 <<< 16 = x2
  generalize ext a3 <<< 24 = x3
  generalize ext b0 = y0
  generalize ext b1 <<< 8 = y1
  generalize ext b2 <<< 16 = y2
  generalize ext b3 <<< 24 = y3
  ac_rfl

/-! ## lists -/
theorem run_append (c : BitVec 32) (a b : List UInt8) : run c (a ++ b) = run (run c a) b := by
  unfold run; rw [List.foldl_append]
theorem step_xor (c d : BitVec 32) (b : UInt8) : step (c ^^^ d) b = step c b ^^^ it 8 d := by
  unfold step
  rw [← it_xor]
  congr 1
  ac_rfl
theorem zeros_succ (n : Nat) (c : BitVec 32) : zeros (n + 1) c = zeros n (it 8 c) := by
  unfold zeros; rw [Nat.mul_add, it_add]
theorem zeros_succ' (n : Nat) (c : BitVec 32) : zeros (n + 1) c = it 8 (zeros n c) := by
  unfold zeros; rw [Nat.mul_add, Nat.add_comm, it_add]
theorem run_xor (l : List UInt8) : ∀ c d : BitVec 32, run (c ^^^ d) l = run c l ^^^ zeros l.length d := by
  induction l with
  | nil => intro c d; simp [run, zeros, it]
  | cons b l ih =>
    intro c d
    show run (step (c ^^^ d) b) l = run (step c b) l ^^^ zeros (l.length + 1) d
    rw [step_xor, ih, zeros_succ]

theorem ones_xor (a : BitVec 32) : ones ^^^ a = ~~~ a := by
  unfold ones
  have : (0xffffffff#32) = BitVec.allOnes 32 := by decide
  rw [this, BitVec.allOnes_xor]
theorem not_eq (a : BitVec 32) : ~~~ a = a ^^^ ones := by
  rw [← ones_xor, BitVec.xor_comm]

/-- the sum of two texts, one behind the other -/
theorem sum_append (a b : List UInt8) : sum (a ++ b) = zeros b.length (sum a) ^^^ sum b := by
  unfold sum
  rw [run_append]
  have e : run (run ones a) b = run ones b ^^^ zeros b.length (~~~ (run ones a)) := by
    rw [← run_xor, ones_xor, BitVec.not_not]
  rw [e]
  generalize zeros b.length (~~~ (run ones a)) = z
  generalize run ones b = r
  rw [not_eq, not_eq]
  ac_rfl

theorem join_sum (a b : List UInt8) (h : b.length ≤ 4096) : join (sum a) (sum b) b.length = sum (a ++ b) := by
  unfold join
  by_cases hz : b.length = 0
  · have : b = [] := List.eq_nil_of_length_eq_zero hz
    subst this
    simp
  · rw [if_neg hz, sum_append, Nat.min_eq_left h]

/-- up to four bytes changed -/
theorem burst (pre post : List UInt8) (b0 b1 b2 b3 : UInt8) (y : BitVec 32) :
    sum (pre ++ [b0 ^^^ byteAt y 0, b1 ^^^ byteAt y 1, b2 ^^^ byteAt y 2, b3 ^^^ byteAt y 3] ++ post) = sum (pre ++ [b0, b1, b2, b3] ++ post) ↔ y = 0#32 := by
  unfold sum
  rw [run_append, run_append, run_append, run_append, run4, run4, word_xor, word_byteAt]
  constructor
  · intro h
    have h' := congrArg (fun x => ~~~ x) h
    simp only [BitVec.not_not] at h'
    rw [← BitVec.xor_assoc, it_xor, run_xor] at h'
    have h2 : zeros post.length (it 32 y) = 0#32 := by
      have := congrArg (fun x => run (it 32 (run ones pre ^^^ word b0 b1 b2 b3)) post ^^^ x) h'
      simp only [← BitVec.xor_assoc, BitVec.xor_self, BitVec.zero_xor] at this
      exact this
    exact it_inj0 _ _ (it_inj0 _ _ h2)
  · intro h; subst h; simp

/-- a text with its own sum behind it -/
theorem residue (l : List UInt8) : sum (l ++ [byteAt (sum l) 0, byteAt (sum l) 1, byteAt (sum l) 2, byteAt (sum l) 3]) = 0x2144df1c#32 := by
  unfold sum
  rw [run_append, run4, word_byteAt]
  have : run ones l ^^^ ~~~ (run ones l) = ones := by
    rw [not_eq, ← BitVec.xor_assoc, BitVec.xor_self, BitVec.zero_xor]
  rw [this]
  decide
theorem residue_join (l : List UInt8) : join (sum l) (sum [byteAt (sum l) 0, byteAt (sum l) 1, byteAt (sum l) 2, byteAt (sum l) 3]) 4 = 0x2144df1c#32 := by
  have := join_sum l [byteAt (sum l) 0, byteAt (sum l) 1, byteAt (sum l) 2, byteAt (sum l) 3] (by simp)
  rw [residue] at this
  exact this
end Go.Proofs.Ytkfcbihofipcbaa.Cr.M
