/- The plain mathematics of numbers and texts as bytes: nothing of the program. -/
namespace Go.Proofs.Ytkiaehehckmpnaa.P

set_option linter.unusedVariables false

/-- the lowest k bytes of n, the highest first -/
def numB (n : Nat) : Nat → List UInt8
  | 0 => []
  | k + 1 => UInt8.ofNat (n / 256 ^ k) :: numB n k
def val (l : List UInt8) : Nat := l.foldl (fun a b => a * 256 + b.toNat) 0
def varyF : Nat → Nat → List UInt8
  | 0, n => [UInt8.ofNat n]
  | f + 1, n => if n < 128 then [UInt8.ofNat n] else UInt8.ofNat (n % 128 + 128) :: varyF f (n / 128)
def vary (n : Nat) : List UInt8 := varyF 9 n
/-- may b, below 128, end a Vary at i? -/
def endsB (b i : Nat) : Bool := if i = 0 then true else decide (b ≠ 0) && (decide (i < 9) || decide (b ≤ 1))
def rvF : Nat → Nat → Nat → List UInt8 → Option (Nat × List UInt8)
  | 0, _, _, _ => none
  | _ + 1, _, _, [] => none
  | f + 1, i, n, b :: r => if b.toNat < 128 then (if endsB b.toNat i = true then some (n + b.toNat * 128 ^ i, r) else none) else rvF f (i + 1) (n + (b.toNat - 128) * 128 ^ i) r
def rvary (s : List UInt8) : Option (Nat × List UInt8) := rvF 10 0 0 s
def rnum (s : List UInt8) (k : Int) : Option (Nat × List UInt8) :=
  if k < 1 ∨ 8 < k ∨ (s.length : Int) < k then none else some (val (s.take k.toNat), s.drop k.toNat)
def rtext (s : List UInt8) (most : Int) : Option (List UInt8 × List UInt8) :=
  match rvary s with
  | none => none
  | some (n, r) => if most < (n : Int) ∨ r.length < n then none else some (r.take n, r.drop n)

theorem ofNat_toNat_lt (n : Nat) (h : n < 256) : (UInt8.ofNat n).toNat = n := by
  rw [UInt8.toNat_ofNat']; omega
theorem ofNat_toNat (n : Nat) : (UInt8.ofNat n).toNat = n % 256 := by
  rw [UInt8.toNat_ofNat']

theorem numB_length (n k : Nat) : (numB n k).length = k := by
  induction k with
  | zero => rfl
  | succ k ih => simp [numB, ih]

theorem foldl_val (l : List UInt8) (a : Nat) : l.foldl (fun a b => a * 256 + b.toNat) a = a * 256 ^ l.length + val l := by
  induction l generalizing a with
  | nil => simp [val]
  | cons x l ih =>
    simp only [List.foldl_cons, List.length_cons, val]
    rw [ih, ih (0 * 256 + x.toNat)]
    rw [Nat.pow_succ, Nat.add_mul, Nat.add_mul, Nat.mul_assoc, Nat.mul_comm 256 (256 ^ l.length)]
    omega
theorem val_nil : val [] = 0 := rfl
theorem val_cons (x : UInt8) (l : List UInt8) : val (x :: l) = x.toNat * 256 ^ l.length + val l := by
  show List.foldl _ _ l = _
  rw [foldl_val]; simp
theorem val_snoc (l : List UInt8) (x : UInt8) : val (l ++ [x]) = val l * 256 + x.toNat := by
  simp [val, List.foldl_append]
theorem val_lt (l : List UInt8) : val l < 256 ^ l.length := by
  induction l with
  | nil => simp [val]
  | cons x l ih =>
    rw [val_cons, List.length_cons, Nat.pow_succ]
    have := x.toNat_lt
    have h2 : x.toNat * 256 ^ l.length + 256 ^ l.length ≤ 256 ^ l.length * 256 := by
      rw [← Nat.succ_mul, Nat.mul_comm]; exact Nat.mul_le_mul_left _ (by omega)
    omega

theorem val_numB (n k : Nat) : val (numB n k) = n % 256 ^ k := by
  induction k with
  | zero => simp [numB, val, Nat.mod_one]
  | succ k ih =>
    rw [numB, val_cons, numB_length, ih, ofNat_toNat, Nat.pow_succ, Nat.mod_mul]
    rw [Nat.mul_comm (n / 256 ^ k % 256)]; omega

theorem rnum_numB (n k : Nat) (t : List UInt8) (h0 : 1 ≤ k) (h8 : k ≤ 8) (hn : n < 256 ^ k) : rnum (numB n k ++ t) k = some (n, t) := by
  unfold rnum
  rw [if_neg (by rw [List.length_append, numB_length]; omega), Int.toNat_natCast]
  have e : (numB n k ++ t).take k = numB n k := by
    have := List.take_left (l₁ := numB n k) (l₂ := t); rwa [numB_length] at this
  have e2 : (numB n k ++ t).drop k = t := by
    have := List.drop_left (l₁ := numB n k) (l₂ := t); rwa [numB_length] at this
  rw [e, e2, val_numB, Nat.mod_eq_of_lt hn]

theorem varyF_lt (f n : Nat) (h : n < 128) : varyF f n = [UInt8.ofNat n] := by
  cases f with
  | zero => rfl
  | succ f => rw [varyF, if_pos h]
theorem varyF_ge (f n : Nat) (h : ¬ n < 128) : varyF (f + 1) n = UInt8.ofNat (n % 128 + 128) :: varyF f (n / 128) := by
  rw [varyF, if_neg h]
theorem varyF_pos (f n : Nat) : 0 < (varyF f n).length := by
  cases f with
  | zero => simp [varyF]
  | succ f => rw [varyF]; split <;> simp
theorem varyF_le (f n : Nat) : (varyF f n).length ≤ f + 1 := by
  induction f generalizing n with
  | zero => simp [varyF]
  | succ f ih => rw [varyF]; split
                 · simp
                 · have := ih (n / 128); simp; omega
theorem vary_pos (n : Nat) : 0 < (vary n).length := varyF_pos _ _
theorem vary_le (n : Nat) : (vary n).length ≤ 10 := varyF_le _ _

theorem pow_shift (i x : Nat) : x * 128 ^ (i + 1) = x * 128 * 128 ^ i := by
  rw [Nat.pow_succ, Nat.mul_assoc, Nat.mul_comm 128]

theorem rvF_varyF (f i acc m : Nat) (t : List UInt8) (hf : f + i = 9) (hm : m < 2 ^ (7 * f + 1)) (h0 : i = 0 ∨ m ≠ 0) :
    rvF (f + 1) i acc (varyF f m ++ t) = some (acc + m * 128 ^ i, t) := by
  induction f generalizing i acc m with
  | zero =>
    have hm2 : m < 2 := by simpa using hm
    rw [varyF_lt _ _ (by omega)]
    simp only [List.cons_append, List.nil_append, rvF]
    rw [ofNat_toNat_lt _ (by omega), if_pos (by omega), if_pos]
    unfold endsB
    split
    · rfl
    · simp; omega
  | succ f ih =>
    by_cases hlt : m < 128
    · rw [varyF_lt _ _ hlt]
      simp only [List.cons_append, List.nil_append, rvF]
      rw [ofNat_toNat_lt _ (by omega), if_pos hlt, if_pos]
      unfold endsB
      split
      · rfl
      · simp; omega
    · rw [varyF_ge _ _ hlt, List.cons_append, rvF, ofNat_toNat_lt _ (by omega), if_neg (by omega)]
      rw [ih (i + 1) _ (m / 128) (by omega) ?_ (Or.inr (by omega)), pow_shift]
      · congr 2
        have : m * 128 ^ i = (m % 128) * 128 ^ i + (m / 128 * 128) * 128 ^ i := by
          rw [← Nat.add_mul]; congr 1; omega
        have e : m % 128 + 128 - 128 = m % 128 := by omega
        rw [e]; omega
      · rw [Nat.div_lt_iff_lt_mul (by omega)]
        have : 2 ^ (7 * (f + 1) + 1) = 2 ^ (7 * f + 1) * 128 := by
          rw [show 7 * (f + 1) + 1 = (7 * f + 1) + 7 by omega, Nat.pow_add]
        omega
theorem rvary_vary (n : Nat) (t : List UInt8) (h : n < 2 ^ 64) : rvary (vary n ++ t) = some (n, t) := by
  have := rvF_varyF 9 0 0 n t rfl (by simpa using h) (Or.inl rfl)
  simpa [rvary, vary] using this

theorem rvF_high (f i acc : Nat) (l : List UInt8) (h : ∀ b ∈ l, 128 ≤ b.toNat) : rvF f i acc l = none := by
  induction l generalizing f i acc with
  | nil => cases f <;> rfl
  | cons b l ih =>
    cases f with
    | zero => rfl
    | succ f =>
      have := h b (by simp)
      rw [rvF, if_neg (by omega)]
      exact ih _ _ _ (fun c hc => h c (by simp [hc]))
theorem rvF_high_zero (f i acc : Nat) (l t : List UInt8) (h : ∀ b ∈ l, 128 ≤ b.toNat) (hl : l ≠ [] ∨ 0 < i) : rvF f i acc (l ++ 0 :: t) = none := by
  induction l generalizing f i acc with
  | nil =>
    cases f with
    | zero => rfl
    | succ f =>
      have hi : 0 < i := hl.resolve_left (by simp)
      have e : (0 : UInt8).toNat = 0 := rfl
      rw [List.nil_append, rvF, e, if_pos (by omega), if_neg]
      unfold endsB
      rw [if_neg (by omega)]; simp
  | cons b l ih =>
    cases f with
    | zero => rfl
    | succ f =>
      have := h b (by simp)
      rw [List.cons_append, rvF, if_neg (by omega)]
      exact ih _ _ _ (fun c hc => h c (by simp [hc])) (Or.inr (by omega))
theorem varyF_high (f m : Nat) : ∀ b ∈ (varyF f m).dropLast, 128 ≤ b.toNat := by
  induction f generalizing m with
  | zero => simp [varyF]
  | succ f ih =>
    by_cases h : m < 128
    · rw [varyF_lt _ _ h]; simp
    · rw [varyF_ge _ _ h]
      have hp := varyF_pos f (m / 128)
      rw [List.dropLast_cons_of_ne_nil (by intro e; rw [e] at hp; simp at hp)]
      intro b hb
      rcases List.mem_cons.1 hb with rfl | hb
      · rw [ofNat_toNat_lt _ (by omega)]; omega
      · exact ih _ b hb
theorem vary_cut (n j : Nat) (h : j < (vary n).length) : rvary ((vary n).take j) = none := by
  refine rvF_high _ _ _ _ ?_
  intro b hb
  refine varyF_high 9 n b ?_
  rw [List.dropLast_eq_take]
  have e : ((varyF 9 n).take ((varyF 9 n).length - 1)).take j = (varyF 9 n).take j := by
    rw [List.take_take]; congr 1; unfold vary at h; omega
  have hb' : b ∈ (varyF 9 n).take j := hb
  rw [← e] at hb'
  exact List.mem_of_mem_take hb'
theorem vary_long (n : Nat) (c : UInt8) (hc : 128 ≤ c.toNat) : rvary ((vary n).dropLast ++ [c, 0]) = none := by
  have e : (vary n).dropLast ++ [c, 0] = ((vary n).dropLast ++ [c]) ++ 0 :: [] := by simp
  rw [e]
  refine rvF_high_zero _ _ _ _ _ ?_ (Or.inl (by simp))
  intro b hb
  rcases List.mem_append.1 hb with hb | hb
  · exact varyF_high 9 n b hb
  · simp at hb; subst hb; exact hc
theorem vary_inj (a b : Nat) (ha : a < 2 ^ 64) (hb : b < 2 ^ 64) (h : vary a = vary b) : a = b := by
  have h1 := rvary_vary a [] ha
  have h2 := rvary_vary b [] hb
  rw [h, h2] at h1
  simp at h1; exact h1.symm

/-- a number below 128^(j+1) has at most j+1 groups, and one that has j+1 is not below 128^j -/
theorem varyF_short (f n j : Nat) (h : n < 128 ^ (j + 1)) : (varyF f n).length ≤ j + 1 := by
  induction j generalizing f n with
  | zero => rw [varyF_lt _ _ (by simpa using h)]; simp
  | succ j ih =>
    by_cases hl : n < 128
    · rw [varyF_lt _ _ hl]; simp
    · cases f with
      | zero => simp [varyF]
      | succ f =>
        rw [varyF_ge _ _ hl]
        have := ih f (n / 128) (by rw [Nat.div_lt_iff_lt_mul (by omega)]; rw [Nat.pow_succ] at h; exact h)
        simp; omega
theorem varyF_most (f n : Nat) (h : (varyF f n).length < f + 1) : n < 128 ^ (varyF f n).length := by
  induction f generalizing n with
  | zero => simp [varyF] at h
  | succ f ih =>
    by_cases hl : n < 128
    · rw [varyF_lt _ _ hl]; simpa using hl
    · rw [varyF_ge _ _ hl] at h ⊢
      have := ih (n / 128) (by simpa using h)
      rw [Nat.div_lt_iff_lt_mul (by omega)] at this
      rw [List.length_cons, Nat.pow_succ]; exact this
theorem varyF_least (f n : Nat) (h : 1 < (varyF f n).length) : 128 ^ ((varyF f n).length - 1) ≤ n := by
  induction f generalizing n with
  | zero => simp [varyF] at h
  | succ f ih =>
    by_cases hl : n < 128
    · rw [varyF_lt _ _ hl] at h; simp at h
    · rw [varyF_ge _ _ hl] at h ⊢
      by_cases h1 : 1 < (varyF f (n / 128)).length
      · have := ih (n / 128) h1
        rw [Nat.le_div_iff_mul_le (by omega), ← Nat.pow_succ] at this
        have e : (varyF f (n / 128)).length - 1 + 1 = (UInt8.ofNat (n % 128 + 128) :: varyF f (n / 128)).length - 1 := by simp; omega
        rwa [← e]
      · have hp := varyF_pos f (n / 128)
        have e : (UInt8.ofNat (n % 128 + 128) :: varyF f (n / 128)).length - 1 = 1 := by simp; omega
        rw [e]; simpa using hl

/-- the first i groups of n, each with 128 more -/
def hi : Nat → Nat → List UInt8
  | 0, _ => []
  | i + 1, n => UInt8.ofNat (n % 128 + 128) :: hi i (n / 128)
theorem hi_length (i n : Nat) : (hi i n).length = i := by
  induction i generalizing n with
  | zero => rfl
  | succ i ih => simp [hi, ih]
theorem hi_snoc (i n c : Nat) (hn : n < 128 ^ i) (hc : c < 128) : hi (i + 1) (n + c * 128 ^ i) = hi i n ++ [UInt8.ofNat (c + 128)] := by
  induction i generalizing n with
  | zero =>
    have : n = 0 := by simpa using hn
    subst this
    simp [hi, Nat.mod_eq_of_lt hc]
  | succ i ih =>
    have e1 : n + c * 128 ^ (i + 1) = n + (c * 128 ^ i) * 128 := by rw [Nat.pow_succ, Nat.mul_assoc]
    have e2 : (n + (c * 128 ^ i) * 128) % 128 = n % 128 := by omega
    have e3 : (n + (c * 128 ^ i) * 128) / 128 = n / 128 + c * 128 ^ i := by omega
    have hih := ih (n / 128) (by rw [Nat.div_lt_iff_lt_mul (by omega), ← Nat.pow_succ]; exact hn)
    show UInt8.ofNat ((n + c * 128 ^ (i + 1)) % 128 + 128) :: hi (i + 1) ((n + c * 128 ^ (i + 1)) / 128) = UInt8.ofNat (n % 128 + 128) :: (hi i (n / 128) ++ _)
    rw [e1, e2, e3, hih]
theorem varyF_hi (f i n b : Nat) (hf : i ≤ f) (hn : n < 128 ^ i) (hb : b < 128) (h0 : b ≠ 0 ∨ i = 0) : varyF f (n + b * 128 ^ i) = hi i n ++ [UInt8.ofNat b] := by
  induction i generalizing f n with
  | zero =>
    have : n = 0 := by simpa using hn
    subst this
    rw [varyF_lt _ _ (by simpa using hb)]; simp [hi]
  | succ i ih =>
    obtain ⟨f, rfl⟩ : ∃ g, f = g + 1 := ⟨f - 1, by omega⟩
    have hb0 : b ≠ 0 := h0.resolve_right (by omega)
    have e1 : (n + b * 128 ^ (i + 1)) = n + (b * 128 ^ i) * 128 := by rw [Nat.pow_succ, Nat.mul_assoc]
    have hp : 0 < 128 ^ i := Nat.pow_pos (by omega)
    have hbp : 1 ≤ b * 128 ^ i := Nat.mul_pos (by omega) hp
    rw [e1, varyF_ge _ _ (by omega)]
    have e2 : (n + (b * 128 ^ i) * 128) % 128 = n % 128 := by omega
    have e3 : (n + (b * 128 ^ i) * 128) / 128 = n / 128 + b * 128 ^ i := by omega
    rw [e2, e3, ih f (n / 128) (by omega) (by rw [Nat.div_lt_iff_lt_mul (by omega), ← Nat.pow_succ]; exact hn) (Or.inl hb0)]
    rfl
/-- what the document asks at a last byte: that the whole is the number's Vary -/
theorem vary_ends (i n : Nat) (b : UInt8) (hi9 : i ≤ 9) (hn : n < 128 ^ i) (hb : b.toNat < 128) (s : List UInt8) (hs : s = hi i n ++ [b]) :
    (vary ((n + b.toNat * 128 ^ i) % 2 ^ 64) = s) ↔ endsB b.toNat i = true := by
  subst hs
  have h64 : (128 : Nat) ^ 9 * 2 = 2 ^ 64 := by decide
  have hmono : 128 ^ i ≤ 128 ^ 9 := Nat.pow_le_pow_right (by omega) hi9
  by_cases h0 : i = 0
  · subst h0
    have : n = 0 := by simpa using hn
    subst this
    have e : (0 + b.toNat * 128 ^ 0) % 2 ^ 64 = b.toNat := by rw [Nat.pow_zero, Nat.mul_one, Nat.zero_add]; apply Nat.mod_eq_of_lt; omega
    rw [e]
    unfold vary
    rw [varyF_lt _ _ hb]
    simp [hi, endsB]
  · have hle : (hi i n ++ [b]).length = i + 1 := by simp [hi_length]
    obtain ⟨j, rfl⟩ : ∃ j, i = j + 1 := ⟨i - 1, by omega⟩
    by_cases hb0 : b.toNat = 0
    · have e : (n + b.toNat * 128 ^ (j + 1)) % 2 ^ 64 = n := by rw [hb0, Nat.zero_mul, Nat.add_zero]; apply Nat.mod_eq_of_lt; omega
      rw [e]
      constructor
      · intro h
        have h1 := varyF_short 9 n j hn
        have h2 := congrArg List.length h
        rw [hle] at h2
        unfold vary at h2; omega
      · intro h
        unfold endsB at h
        rw [if_neg h0, hb0] at h; simp at h
    · by_cases h9 : j + 1 < 9
      · have e : (n + b.toNat * 128 ^ (j + 1)) % 2 ^ 64 = n + b.toNat * 128 ^ (j + 1) := by
          apply Nat.mod_eq_of_lt
          have m1 : 128 ^ (j + 1) ≤ 128 ^ 8 := Nat.pow_le_pow_right (by omega) (by omega)
          have m2 : b.toNat * 128 ^ (j + 1) ≤ 127 * 128 ^ (j + 1) := Nat.mul_le_mul_right _ (by omega)
          have m3 : (128 : Nat) ^ 8 * 128 ≤ 2 ^ 64 := by decide
          omega
        rw [e]
        unfold vary
        rw [varyF_hi 9 (j + 1) n b.toNat (by omega) hn hb (Or.inl hb0)]
        simp [endsB, hb0, h9]
      · obtain rfl : j = 8 := by omega
        by_cases hb1 : b.toNat = 1
        · have e : (n + b.toNat * 128 ^ (8 + 1)) % 2 ^ 64 = n + b.toNat * 128 ^ (8 + 1) := by
            apply Nat.mod_eq_of_lt; rw [hb1]; omega
          rw [e]
          unfold vary
          rw [varyF_hi 9 (8 + 1) n b.toNat (by omega) hn hb (Or.inl hb0)]
          have hb2 : b = 1 := UInt8.toNat_inj.1 hb1
          subst hb2
          simp [endsB]
        · have ee : endsB b.toNat (8 + 1) = false := by simp [endsB]; omega
          rw [ee]
          simp only [Bool.false_eq_true, iff_false]
          intro h
          have e : (n + b.toNat * 128 ^ (8 + 1)) % 2 ^ 64 = n + (b.toNat % 2) * 128 ^ (8 + 1) := by omega
          rw [e] at h
          by_cases h2 : b.toNat % 2 = 0
          · rw [h2, Nat.zero_mul, Nat.add_zero] at h
            have h1 := varyF_short 9 n 8 hn
            have h2 := congrArg List.length h
            rw [hle] at h2
            unfold vary at h2; omega
          · have h3 : b.toNat % 2 = 1 := by omega
            rw [h3] at h
            unfold vary at h
            rw [varyF_hi 9 (8 + 1) n 1 (by omega) hn (by omega) (Or.inl (by omega))] at h
            have := List.append_cancel_left h
            simp at this
            rw [← this] at hb1
            exact hb1 (by decide)

/-- the bytes of numbers of one size stand in the numbers' order -/
theorem val_inj (a b : List UInt8) (hl : a.length = b.length) (h : val a = val b) : a = b := by
  induction a generalizing b with
  | nil => cases b with
    | nil => rfl
    | cons y b => simp at hl
  | cons x a ih => cases b with
    | nil => simp at hl
    | cons y b =>
      have hl' : a.length = b.length := by simpa using hl
      rw [val_cons, val_cons, hl'] at h
      have h1 := val_lt a
      have h2 := val_lt b
      rw [hl'] at h1
      have hp : 0 < 256 ^ b.length := Nat.pow_pos (by omega)
      generalize 256 ^ b.length = p at *
      have hx : x.toNat = y.toNat := by
        have e1 : (x.toNat * p + val a) / p = x.toNat := by
          rw [Nat.mul_comm, Nat.mul_add_div hp, Nat.div_eq_of_lt h1]; omega
        have e2 : (y.toNat * p + val b) / p = y.toNat := by
          rw [Nat.mul_comm, Nat.mul_add_div hp, Nat.div_eq_of_lt h2]; omega
        rw [← e1, ← e2, h]
      rw [hx] at h
      rw [UInt8.toNat_inj.1 hx, ih b hl' (by omega)]
theorem numB_eq (a b k : Nat) (ha : a < 256 ^ k) (hb : b < 256 ^ k) : numB a k = numB b k ↔ a = b := by
  constructor
  · intro h
    have := congrArg val h
    rw [val_numB, val_numB, Nat.mod_eq_of_lt ha, Nat.mod_eq_of_lt hb] at this
    exact this
  · intro h; rw [h]

/-- rounds of the writers -/
theorem numB_split (n k j : Nat) : numB n (k + j) = numB (n / 256 ^ j) k ++ numB n j := by
  induction k with
  | zero => simp [numB]
  | succ k ih =>
    rw [show k + 1 + j = (k + j) + 1 by omega, numB, ih, numB, List.cons_append]
    rw [Nat.div_div_eq_div_mul, ← Nat.pow_add, Nat.add_comm j k]

def S (l : List UInt8) : ByteArray := ⟨l.toArray⟩
theorem S_list (l : List UInt8) : (S l).data.toList = l := by simp [S]
theorem S_of (s : ByteArray) : S s.data.toList = s := by cases s; simp [S]
theorem S_append (a b : List UInt8) : S a ++ S b = S (a ++ b) := by
  apply ByteArray.ext; rw [ByteArray.data_append]; simp [S]
theorem S_size (l : List UInt8) : (S l).size = l.length := by simp [S, ByteArray.size]
theorem S_extract (l : List UInt8) (a b : Nat) : (S l).extract a b = S ((l.take b).drop a) := by
  apply ByteArray.ext; rw [ByteArray.data_extract]; simp [S, List.drop_take]
theorem S_inj (a b : List UInt8) : S a = S b ↔ a = b := by
  constructor
  · intro h; have := congrArg (fun s : ByteArray => s.data.toList) h; simpa [S] using this
  · intro h; rw [h]
theorem ext_rest (s : ByteArray) (k : Nat) : s.extract k s.size = S (s.data.toList.drop k) := by
  have := S_extract s.data.toList k s.size
  rw [S_of] at this
  rw [this, List.take_of_length_le]
  rw [Array.length_toList]; exact Nat.le_refl _
theorem ext_head (s : ByteArray) (k : Nat) : s.extract 0 k = S (s.data.toList.take k) := by
  have := S_extract s.data.toList 0 k
  rw [S_of] at this
  rw [this, List.drop_zero]
theorem len_list (a : ByteArray) : a.data.toList.length = a.size := by
  rw [Array.length_toList]; rfl

/-- what a reader tells, and the reader behind it -/
def outN (o : Option (Nat × List UInt8)) : Nat × ByteArray × Bool :=
  match o with
  | none => (0, ⟨#[]⟩, true)
  | some (n, r) => (n, S r, false)
def outT (o : Option (List UInt8 × List UInt8)) : ByteArray × ByteArray × Bool :=
  match o with
  | none => (⟨#[]⟩, ⟨#[]⟩, true)
  | some (t, r) => (S t, S r, false)
def RN (s : ByteArray) (bad : Bool) (k : Int) : Nat × ByteArray × Bool := outN (if bad then none else rnum s.data.toList k)
def RV (s : ByteArray) (bad : Bool) : Nat × ByteArray × Bool := outN (if bad then none else rvary s.data.toList)
def RT (s : ByteArray) (bad : Bool) (most : Int) : ByteArray × ByteArray × Bool := outT (if bad then none else rtext s.data.toList most)

theorem rvF_bound (f i n : Nat) (s : List UInt8) (m : Nat) (r : List UInt8) (hf : f + i = 10) (hn : n < 128 ^ i) (h : rvF f i n s = some (m, r)) : m < 2 ^ 64 ∧ r.length < s.length := by
  induction s generalizing f i n with
  | nil => cases f <;> simp [rvF] at h
  | cons b s ih =>
    cases f with
    | zero => simp [rvF] at h
    | succ f =>
      have hb := b.toNat_lt
      rw [rvF] at h
      split at h
      · split at h
        · rename_i h1 h2
          simp at h
          obtain ⟨rfl, rfl⟩ := h
          refine ⟨?_, by simp⟩
          have hmono : 128 ^ i ≤ 128 ^ 9 := Nat.pow_le_pow_right (by omega) (by omega)
          by_cases h9 : i < 9
          · have m1 : 128 ^ i ≤ 128 ^ 8 := Nat.pow_le_pow_right (by omega) (by omega)
            have m2 : b.toNat * 128 ^ i ≤ 127 * 128 ^ i := Nat.mul_le_mul_right _ (by omega)
            have m3 : (128 : Nat) ^ 8 * 128 ≤ 2 ^ 64 := by decide
            omega
          · obtain rfl : i = 9 := by omega
            simp [endsB] at h2
            have m2 : b.toNat * 128 ^ 9 ≤ 1 * 128 ^ 9 := Nat.mul_le_mul_right _ h2.2
            have m3 : (128 : Nat) ^ 9 * 2 = 2 ^ 64 := by decide
            omega
        · simp at h
      · have := ih f (i + 1) _ (by omega) ?_ h
        · exact ⟨this.1, by simp; omega⟩
        · rw [Nat.pow_succ]
          have : (b.toNat - 128) * 128 ^ i ≤ 127 * 128 ^ i := Nat.mul_le_mul_right _ (by omega)
          omega
theorem rvary_bound (s : List UInt8) (m : Nat) (r : List UInt8) (h : rvary s = some (m, r)) : m < 2 ^ 64 ∧ r.length < s.length :=
  rvF_bound 10 0 0 s m r rfl (by simp) h

theorem RV_none (s : ByteArray) (b : Bool) (n : Nat) (u : ByteArray) (h : RV s b = (n, u, true)) : n = 0 ∧ u = ⟨#[]⟩ ∧ (if b then none else rvary s.data.toList) = none := by
  unfold RV outN at h
  split at h
  · rename_i e; simp at h; exact ⟨h.1.symm, h.2.symm, e⟩
  · simp at h
theorem RV_some (s : ByteArray) (b : Bool) (n : Nat) (u : ByteArray) (h : RV s b = (n, u, false)) : b = false ∧ rvary s.data.toList = some (n, u.data.toList) ∧ n < 2 ^ 64 ∧ u.size < s.size := by
  unfold RV outN at h
  split at h
  · simp at h
  · rename_i m r e
    simp at h
    obtain ⟨rfl, rfl⟩ := h
    cases b with
    | true => simp at e
    | false =>
      simp only [Bool.false_eq_true, if_false] at e
      have := rvary_bound _ _ _ e
      refine ⟨rfl, by rw [e, S_list], this.1, ?_⟩
      rw [S_size, ← len_list]; exact this.2
theorem RT_bad (s : ByteArray) (b : Bool) (n : Nat) (u : ByteArray) (most : Int) (h : RV s b = (n, u, true)) : RT s b most = (⟨#[]⟩, ⟨#[]⟩, true) := by
  have := (RV_none s b n u h).2.2
  unfold RT rtext
  cases b with
  | true => rfl
  | false => simp only [Bool.false_eq_true, if_false] at this ⊢; rw [this]; rfl
theorem RT_no (s : ByteArray) (b : Bool) (n : Nat) (u : ByteArray) (most : Int) (h : RV s b = (n, u, false)) (hm : most < (n : Int) ∨ u.size < n) : RT s b most = (⟨#[]⟩, ⟨#[]⟩, true) := by
  obtain ⟨rfl, hr, _, _⟩ := RV_some s b n u h
  unfold RT rtext
  simp only [Bool.false_eq_true, if_false, hr]
  rw [if_pos (by rw [len_list]; exact hm)]; rfl
theorem RT_yes (s : ByteArray) (b : Bool) (n : Nat) (u : ByteArray) (most : Int) (h : RV s b = (n, u, false)) (hm : ¬ (most < (n : Int) ∨ u.size < n)) : RT s b most = (u.extract 0 n, u.extract n u.size, false) := by
  obtain ⟨rfl, hr, _, _⟩ := RV_some s b n u h
  unfold RT rtext
  simp only [Bool.false_eq_true, if_false, hr]
  rw [if_neg (by rw [len_list]; exact hm), ext_head, ext_rest]; rfl

/-- what a reader of a Vary knows behind j bytes, all of them 128 or more -/
def Inv (l : List UInt8) (j x : Nat) : Prop := x < 2 ^ 64 ∧ (j ≤ 9 → x < 128 ^ j ∧ rvary l = rvF (10 - j) j x (l.drop j) ∧ l.take j = hi j x) ∧ (j = 10 → rvary l = none)
theorem Inv.start (l : List UInt8) : Inv l 0 0 := ⟨by decide, fun _ => ⟨by decide, rfl, rfl⟩, fun h => absurd h (by decide)⟩
theorem at_drop (l : List UInt8) (j : Nat) (h : j < l.length) : l.drop j = l[j] :: l.drop (j + 1) := List.drop_eq_getElem_cons h
theorem at_take (l : List UInt8) (j : Nat) (h : j < l.length) : l.take (j + 1) = l.take j ++ [l[j]] := List.take_succ_eq_append_getElem h
theorem Inv.step {l : List UInt8} {j x : Nat} (I : Inv l j x) (hj : j < l.length) (h9 : j ≤ 9) (hb : 128 ≤ l[j].toNat) : Inv l (j + 1) ((x + (l[j].toNat % 128) * 128 ^ j) % 2 ^ 64) := by
  obtain ⟨hx, hI, _⟩ := I
  obtain ⟨hlt, hr, ht⟩ := hI h9
  have hb2 := l[j].toNat_lt
  have e : l[j].toNat % 128 = l[j].toNat - 128 := by omega
  rw [e]
  rw [at_drop l j hj, show 10 - j = (9 - j) + 1 by omega, rvF, if_neg (by omega)] at hr
  refine ⟨Nat.mod_lt _ (by decide), ?_, ?_⟩
  · intro h8
    have m1 : 128 ^ j ≤ 128 ^ 8 := Nat.pow_le_pow_right (by omega) (by omega)
    have m2 : (l[j].toNat - 128) * 128 ^ j ≤ 127 * 128 ^ j := Nat.mul_le_mul_right _ (by omega)
    have m3 : (128 : Nat) ^ 8 * 128 ≤ 2 ^ 64 := by decide
    have em : (x + (l[j].toNat - 128) * 128 ^ j) % 2 ^ 64 = x + (l[j].toNat - 128) * 128 ^ j := Nat.mod_eq_of_lt (by omega)
    rw [em]
    refine ⟨by rw [Nat.pow_succ]; omega, by rw [hr, show 10 - (j + 1) = 9 - j by omega], ?_⟩
    have eb : UInt8.ofNat (l[j].toNat - 128 + 128) = l[j] := by
      apply UInt8.toNat_inj.1
      rw [ofNat_toNat_lt _ (by omega)]; omega
    rw [at_take l j hj, ht, hi_snoc j x _ hlt (by omega), eb]
  · intro h10
    obtain rfl : j = 9 := by omega
    rw [hr]; rfl
theorem Inv.ends {l : List UInt8} {j x : Nat} (I : Inv l j x) (hj : j < l.length) (h9 : j ≤ 9) (hb : l[j].toNat < 128) (he : endsB l[j].toNat j = true) :
    rvary l = some ((x + (l[j].toNat % 128) * 128 ^ j) % 2 ^ 64, l.drop (j + 1)) := by
  obtain ⟨hx, hI, _⟩ := I
  obtain ⟨hlt, hr, _⟩ := hI h9
  rw [at_drop l j hj, show 10 - j = (9 - j) + 1 by omega, rvF, if_pos hb, if_pos he] at hr
  have := rvary_bound _ _ _ hr
  rw [hr, Nat.mod_eq_of_lt hb, Nat.mod_eq_of_lt this.1]
theorem Inv.ends_not {l : List UInt8} {j x : Nat} (I : Inv l j x) (hj : j < l.length) (h9 : j ≤ 9) (hb : l[j].toNat < 128) (he : endsB l[j].toNat j = false) :
    rvary l = none := by
  obtain ⟨hx, hI, _⟩ := I
  obtain ⟨hlt, hr, _⟩ := hI h9
  rw [at_drop l j hj, show 10 - j = (9 - j) + 1 by omega, rvF, if_pos hb, if_neg (by rw [he]; decide)] at hr
  exact hr
theorem Inv.over {l : List UInt8} {j x : Nat} (I : Inv l j x) (hj : j ≤ 10) (h : l.length ≤ j ∨ j = 10) : rvary l = none := by
  obtain ⟨hx, hI, h10⟩ := I
  by_cases e : j = 10
  · exact h10 e
  · have hl : l.length ≤ j := h.resolve_right e
    by_cases h9 : j ≤ 9
    · obtain ⟨hlt, hr, _⟩ := hI h9
      rw [hr, List.drop_of_length_le hl, show 10 - j = (9 - j) + 1 by omega]
      rfl
    · exact absurd hj (by omega)
/-- the document's own test -/
theorem Inv.vary {l : List UInt8} {j x : Nat} (I : Inv l j x) (hj : j < l.length) (h9 : j ≤ 9) (hb : l[j].toNat < 128) :
    (P.vary ((x + (l[j].toNat % 128) * 128 ^ j) % 2 ^ 64) = l.take (j + 1)) ↔ endsB l[j].toNat j = true := by
  obtain ⟨hx, hI, _⟩ := I
  obtain ⟨hlt, hr, ht⟩ := hI h9
  rw [Nat.mod_eq_of_lt hb]
  exact vary_ends j x l[j] h9 hlt hb _ (by rw [at_take l j hj, ht])
theorem or_add (x c j : Nat) (hx : x < 128 ^ j) : x ||| (c * 2 ^ (7 * j)) % 2 ^ 64 = (x ||| c * 2 ^ (7 * j)) % 2 ^ 64 ∨ 2 ^ 64 ≤ x := by
  by_cases h : x < 2 ^ 64
  · left
    apply Nat.eq_of_testBit_eq
    intro i
    rw [Nat.testBit_or, Nat.testBit_mod_two_pow, Nat.testBit_mod_two_pow, Nat.testBit_or]
    by_cases hi : i < 64
    · simp [hi]
    · have : x.testBit i = false := Nat.testBit_lt_two_pow (Nat.lt_of_lt_of_le h (Nat.pow_le_pow_right (by omega) (by omega)))
      simp [hi, this]
  · right; omega
theorem or_group (x c j : Nat) (hx : x < 128 ^ j) (h64 : x < 2 ^ 64) : x ||| (c * 2 ^ (7 * j)) % 2 ^ 64 = (x + c * 128 ^ j) % 2 ^ 64 := by
  rcases or_add x c j hx with h | h
  · have hp : 128 ^ j = 2 ^ (7 * j) := by rw [Nat.pow_mul]
    rw [h, hp, Nat.or_comm, Nat.mul_comm c, ← Nat.two_pow_add_eq_or_of_lt (by rwa [← hp]), Nat.add_comm]
  · omega
end Go.Proofs.Ytkiaehehckmpnaa.P
