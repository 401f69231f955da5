/-
  Proved here: Plain facts on bits of natural numbers: parts told and put, bit by bit. No condition but what each theorem names.
-/
namespace Go.Proofs.Ytmoggaecnjcjfaa

/-! ### Plain arithmetic of bits: no Go in sight. -/

/-- The number that bits low .. low + w - 1 of x are. -/
def fld (x low w : Nat) : Nat := x / 2 ^ low % 2 ^ w
/-- x with bits low .. low + w - 1 being the lowest ones of v. -/
def plc (x low w v : Nat) : Nat := x % 2 ^ low + 2 ^ low * (v % 2 ^ w) + 2 ^ (low + w) * (x / 2 ^ (low + w))
/-- x with bit p being b. -/
def setb (x p b : Nat) : Nat := x % 2 ^ p + 2 ^ p * b + 2 ^ (p + 1) * (x / 2 ^ (p + 1))

theorem fld_zero (x low : Nat) : fld x low 0 = 0 := by simp [fld, Nat.mod_one]
theorem plc_zero (x low v : Nat) : plc x low 0 v = x := by
  unfold plc; simp [Nat.mod_one, Nat.mod_add_div]
theorem fld_lt (x low w : Nat) : fld x low w < 2 ^ w := Nat.mod_lt _ (Nat.two_pow_pos _)
theorem fld_le (x low w : Nat) : fld x low w ≤ x := Nat.le_trans (Nat.mod_le _ _) (Nat.div_le_self _ _)
theorem fld_succ (x low k : Nat) : fld x low (k + 1) = fld x low k + 2 ^ k * (x / 2 ^ (low + k) % 2) := by
  unfold fld; rw [Nat.mod_pow_succ, Nat.div_div_eq_div_mul, ← Nat.pow_add]

theorem split_at (x p : Nat) : x = x % 2 ^ p + 2 ^ p * (x / 2 ^ p % 2) + 2 ^ (p + 1) * (x / 2 ^ (p + 1)) := by
  have h1 := Nat.mod_add_div x (2 ^ p)
  have h2 := Nat.mod_add_div (x / 2 ^ p) 2
  have h3 : x / 2 ^ (p + 1) = x / 2 ^ p / 2 := by rw [Nat.pow_succ, Nat.div_div_eq_div_mul]
  rw [h3, Nat.pow_succ, Nat.mul_assoc, Nat.add_assoc, ← Nat.mul_add, h2, h1]

theorem setb_self (x p : Nat) : setb x p (x / 2 ^ p % 2) = x := (split_at x p).symm

theorem testBit_setb (x p b j : Nat) (hb : b < 2) : (setb x p b).testBit j = if j = p then decide (b = 1) else x.testBit j := by
  have hlt : x % 2 ^ p + 2 ^ p * b < 2 ^ (p + 1) := by
    have h := Nat.mod_lt x (Nat.two_pow_pos p)
    rw [Nat.pow_succ]
    have : 2 ^ p * b ≤ 2 ^ p * 1 := Nat.mul_le_mul_left _ (by omega)
    omega
  unfold setb
  rw [Nat.add_comm, Nat.testBit_two_pow_mul_add _ hlt, Nat.add_comm (x % 2 ^ p), Nat.testBit_two_pow_mul_add _ (Nat.mod_lt x (Nat.two_pow_pos p))]
  by_cases h1 : j < p
  · rw [if_pos (by omega), if_pos h1, if_neg (by omega), Nat.testBit_mod_two_pow]; simp [h1]
  · by_cases h2 : j = p
    · subst h2
      rw [if_pos (by omega), if_neg h1, if_pos rfl, Nat.sub_self]
      have : b = 0 ∨ b = 1 := by omega
      rcases this with rfl | rfl <;> rfl
    · rw [if_neg (by omega), if_neg h2, Nat.testBit_div_two_pow]
      congr 1; omega

theorem testBit_fld (x low w j : Nat) : (fld x low w).testBit j = (decide (j < w) && x.testBit (low + j)) := by
  unfold fld; rw [Nat.testBit_mod_two_pow, Nat.testBit_div_two_pow, Nat.add_comm]

theorem testBit_plc (x low w v j : Nat) : (plc x low w v).testBit j = if j < low then x.testBit j else if j < low + w then v.testBit (j - low) else x.testBit j := by
  have h0 := Nat.mod_lt x (Nat.two_pow_pos low)
  have hlt : x % 2 ^ low + 2 ^ low * (v % 2 ^ w) < 2 ^ (low + w) := by
    have hv := Nat.mod_lt v (Nat.two_pow_pos w)
    rw [Nat.pow_add]
    have : 2 ^ low * (v % 2 ^ w + 1) ≤ 2 ^ low * 2 ^ w := Nat.mul_le_mul_left _ hv
    rw [Nat.mul_add] at this
    omega
  unfold plc
  rw [Nat.add_comm, Nat.testBit_two_pow_mul_add _ hlt, Nat.add_comm (x % 2 ^ low), Nat.testBit_two_pow_mul_add _ h0]
  by_cases h1 : j < low
  · rw [if_pos (by omega), if_pos h1, if_pos h1, Nat.testBit_mod_two_pow]; simp [h1]
  · by_cases h2 : j < low + w
    · rw [if_pos h2, if_neg h1, if_neg h1, if_pos h2, Nat.testBit_mod_two_pow]
      have : decide (j - low < w) = true := by simp; omega
      rw [this, Bool.true_and]
    · rw [if_neg h2, if_neg h1, if_neg h2, Nat.testBit_div_two_pow]
      congr 1; omega

theorem bit_testBit (x p : Nat) : decide (x / 2 ^ p % 2 = 1) = x.testBit p := by
  rw [Nat.testBit_eq_decide_div_mod_eq]

theorem plc_succ (x low k v : Nat) : plc x low (k + 1) v = setb (plc x low k v) (low + k) (v / 2 ^ k % 2) := by
  apply Nat.eq_of_testBit_eq
  intro j
  rw [testBit_setb _ _ _ _ (by omega), testBit_plc, testBit_plc, bit_testBit]
  by_cases h1 : j < low
  · rw [if_pos h1, if_pos h1, if_neg (by omega)]
  · by_cases h2 : j = low + k
    · rw [if_neg h1, if_pos (by omega), if_pos h2]
      congr 1; omega
    · by_cases h3 : j < low + k
      · rw [if_neg h1, if_pos (by omega), if_neg h2, if_neg h1, if_pos h3]
      · rw [if_neg h1, if_neg (by omega), if_neg h2, if_neg h1, if_neg h3]

theorem plc_lt (x low w v B : Nat) (hx : x < 2 ^ B) (hw : low + w ≤ B) : plc x low w v < 2 ^ B := by
  apply Nat.lt_pow_two_of_testBit
  intro j hj
  rw [testBit_plc, if_neg (by omega), if_neg (by omega)]
  exact Nat.testBit_lt_two_pow (Nat.lt_of_lt_of_le hx (Nat.pow_le_pow_right (by decide) hj))

/-- The reference's way to set a bit: what stood there is taken away, and the new one put. -/
theorem setb_arith (x p b : Nat) : x - x / 2 ^ p % 2 * 2 ^ p + b * 2 ^ p = setb x p b := by
  have h := split_at x p
  have e : x - x / 2 ^ p % 2 * 2 ^ p = x % 2 ^ p + 2 ^ (p + 1) * (x / 2 ^ (p + 1)) := by
    rw [Nat.mul_comm (x / 2 ^ p % 2)]
    generalize 2 ^ p * (x / 2 ^ p % 2) = t at *
    generalize 2 ^ (p + 1) * (x / 2 ^ (p + 1)) = u at *
    omega
  rw [e]; unfold setb; rw [Nat.mul_comm b]; omega
theorem bit_le (x p : Nat) : x / 2 ^ p % 2 * 2 ^ p ≤ x := by
  have h := split_at x p
  rw [Nat.mul_comm]
  generalize 2 ^ p * (x / 2 ^ p % 2) = t at *
  omega

/-- The code's way: the bit cleared, and the new one put with 'or'. -/
theorem setb_bits (x p b : Nat) (hx : x < 2 ^ 64) (hp : p < 64) (hb : b < 2) : (x &&& (2 ^ 64 - (2 ^ p + 1))) ||| (b * 2 ^ p) = setb x p b := by
  apply Nat.eq_of_testBit_eq
  intro j
  have hpp : 2 ^ p < 2 ^ 64 := Nat.pow_lt_pow_right (by decide) hp
  rw [testBit_setb _ _ _ _ hb, Nat.testBit_or, Nat.testBit_and, Nat.testBit_two_pow_sub_succ hpp, Nat.testBit_two_pow]
  have hbt : (b * 2 ^ p).testBit j = (decide (p = j) && decide (b = 1)) := by
    have : b = 0 ∨ b = 1 := by omega
    rcases this with rfl | rfl
    · simp
    · simp [Nat.testBit_two_pow]
  rw [hbt]
  by_cases h : j = p
  · subst h; simp
  · have h' : ¬ p = j := fun e => h e.symm
    rw [if_neg h]; simp [h']
    intro ht
    by_cases hj : j < 64
    · exact hj
    · have := Nat.testBit_lt_two_pow (Nat.lt_of_lt_of_le hx (Nat.pow_le_pow_right (by decide : 0 < 2) (by omega : 64 ≤ j)))
      rw [this] at ht; cases ht

theorem or_bit (f k b : Nat) (hf : f < 2 ^ k) : f ||| (b * 2 ^ k) = f + 2 ^ k * b := by
  rw [Nat.mul_comm, Nat.or_comm, ← Nat.two_pow_add_eq_or_of_lt hf, Nat.add_comm]

theorem and_one (x : Nat) : x &&& 1 = x % 2 := Nat.and_one_is_mod x

/-! ### signs -/
def sgn (x n : Nat) : Nat := if x / 2 ^ (n - 1) % 2 = 1 then x % 2 ^ n + (2 ^ 64 - 2 ^ n) else x % 2 ^ n

/-! ### products -/
theorem high_parts (la ha lb hb p0 p1 p2 p3 N : Nat) (e0 : p0 = la * lb) (e1 : p1 = la * hb) (e2 : p2 = ha * lb) (e3 : p3 = ha * hb)
    (hN : N = (ha * 4294967296 + la) * (hb * 4294967296 + lb)) : N / 18446744073709551616 = p3 + p1 / 4294967296 + p2 / 4294967296 + (p0 / 4294967296 + p1 % 4294967296 + p2 % 4294967296) / 4294967296 := by
  have h : N = p3 * 18446744073709551616 + (p1 + p2) * 4294967296 + p0 := by
    subst hN e0 e1 e2 e3
    simp only [Nat.add_mul, Nat.mul_add]
    have c1 : ha * 4294967296 * (hb * 4294967296) = ha * hb * 18446744073709551616 := by
      rw [Nat.mul_assoc, Nat.mul_comm 4294967296 (hb * 4294967296), Nat.mul_assoc hb, ← Nat.mul_assoc]
    have c2 : ha * 4294967296 * lb = ha * lb * 4294967296 := by rw [Nat.mul_assoc, Nat.mul_comm 4294967296 lb, Nat.mul_assoc]
    have c3 : la * (hb * 4294967296) = la * hb * 4294967296 := by rw [Nat.mul_assoc]
    rw [c1, c2, c3]; omega
  clear hN e0 e1 e2 e3
  omega

end Go.Proofs.Ytmoggaecnjcjfaa
