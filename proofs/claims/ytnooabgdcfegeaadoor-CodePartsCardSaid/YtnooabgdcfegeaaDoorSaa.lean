/-
  Proved here: Plain facts on bits of natural numbers: parts told and put, bit by bit. No condition but what each theorem names. ¦ The spellings of the walk for 64-bit words turned into plain numbers. Conditions: the ranges that each theorem names.
-/
import Derived.WalkKit
import Derived.Laws.BitsAllLaws
section
namespace Go.Proofs.YtnooabgdcfegeaaDoor

/-! ### Plain arithmetic of bits: no Go in sight. -/

/-- The number that bits low .. low + w - 1 of x are. -/
def fld (x low w : Nat) : Nat := x / 2 ^ low % 2 ^ w
/-- x with bits low .. low + w - 1 being the lowest ones of v. -/
def plc (x low w v : Nat) : Nat := x % 2 ^ low + 2 ^ low * (v % 2 ^ w) + 2 ^ (low + w) * (x / 2 ^ (low + w))
/-- x with bit p being b. -/
def setb (x p b : Nat) : Nat := x % 2 ^ p + 2 ^ p * b + 2 ^ (p + 1) * (x / 2 ^ (p + 1))

theorem fld_zero (x low : Nat) : fld x low 0 = 0 := by simp [fld, Nat.mod_one]
theorem plc_zero (x low v : Nat) : plc x low 0 v = x := by
  unfold plc; simp [Nat.mod_one, Nat.mod_add_div]
theorem fld_lt (x low w : Nat) : fld x low w < 2 ^ w := Nat.mod_lt _ (Nat.two_pow_pos _)
theorem fld_le (x low w : Nat) : fld x low w ≤ x := Nat.le_trans (Nat.mod_le _ _) (Nat.div_le_self _ _)
theorem fld_succ (x low k : Nat) : fld x low (k + 1) = fld x low k + 2 ^ k * (x / 2 ^ (low + k) % 2) := by
  unfold fld; rw [Nat.mod_pow_succ, Nat.div_div_eq_div_mul, ← Nat.pow_add]

theorem testBit_setb (x p b j : Nat) (hb : b < 2) : (setb x p b).testBit j = if j = p then decide (b = 1) else x.testBit j := by
  have hlt : x % 2 ^ p + 2 ^ p * b < 2 ^ (p + 1) := by
    have h := Nat.mod_lt x (Nat.two_pow_pos p)
    rw [Nat.pow_succ]
    have : 2 ^ p * b ≤ 2 ^ p * 1 := Nat.mul_le_mul_left _ (by omega)
    omega
  unfold setb
  rw [Nat.add_comm, Nat.testBit_two_pow_mul_add _ hlt, Nat.add_comm (x % 2 ^ p), Nat.testBit_two_pow_mul_add _ (Nat.mod_lt x (Nat.two_pow_pos p))]
  by_cases h1 : j < p
  · rw [if_pos (by omega), if_pos h1, if_neg (by omega), Nat.testBit_mod_two_pow]; simp [h1]
  · by_cases h2 : j = p
    · subst h2
      rw [if_pos (by omega), if_neg h1, if_pos rfl, Nat.sub_self]
      have : b = 0 ∨ b = 1 := by omega
      rcases this with rfl | rfl <;> rfl
    · rw [if_neg (by omega), if_neg h2, Nat.testBit_div_two_pow]
      congr 1; omega

theorem testBit_plc (x low w v j : Nat) : (plc x low w v).testBit j = if j < low then x.testBit j else if j < low + w then v.testBit (j - low) else x.testBit j := by
  have h0 := Nat.mod_lt x (Nat.two_pow_pos low)
  have hlt : x % 2 ^ low + 2 ^ low * (v % 2 ^ w) < 2 ^ (low + w) := by
    have hv := Nat.mod_lt v (Nat.two_pow_pos w)
    rw [Nat.pow_add]
    have : 2 ^ low * (v % 2 ^ w + 1) ≤ 2 ^ low * 2 ^ w := Nat.mul_le_mul_left _ hv
    rw [Nat.mul_add] at this
    omega
  unfold plc
  rw [Nat.add_comm, Nat.testBit_two_pow_mul_add _ hlt, Nat.add_comm (x % 2 ^ low), Nat.testBit_two_pow_mul_add _ h0]
  by_cases h1 : j < low
  · rw [if_pos (by omega), if_pos h1, if_pos h1, Nat.testBit_mod_two_pow]; simp [h1]
  · by_cases h2 : j < low + w
    · rw [if_pos h2, if_neg h1, if_neg h1, if_pos h2, Nat.testBit_mod_two_pow]
      have : decide (j - low < w) = true := by simp; omega
      rw [this, Bool.true_and]
    · rw [if_neg h2, if_neg h1, if_neg h2, Nat.testBit_div_two_pow]
      congr 1; omega

theorem bit_testBit (x p : Nat) : decide (x / 2 ^ p % 2 = 1) = x.testBit p := by
  rw [Nat.testBit_eq_decide_div_mod_eq]

theorem plc_succ (x low k v : Nat) : plc x low (k + 1) v = setb (plc x low k v) (low + k) (v / 2 ^ k % 2) := by
  apply Nat.eq_of_testBit_eq
  intro j
  rw [testBit_setb _ _ _ _ (by omega), testBit_plc, testBit_plc, bit_testBit]
  by_cases h1 : j < low
  · rw [if_pos h1, if_pos h1, if_neg (by omega)]
  · by_cases h2 : j = low + k
    · rw [if_neg h1, if_pos (by omega), if_pos h2]
      congr 1; omega
    · by_cases h3 : j < low + k
      · rw [if_neg h1, if_pos (by omega), if_neg h2, if_neg h1, if_pos h3]
      · rw [if_neg h1, if_neg (by omega), if_neg h2, if_neg h1, if_neg h3]

theorem plc_lt (x low w v B : Nat) (hx : x < 2 ^ B) (hw : low + w ≤ B) : plc x low w v < 2 ^ B := by
  apply Nat.lt_pow_two_of_testBit
  intro j hj
  rw [testBit_plc, if_neg (by omega), if_neg (by omega)]
  exact Nat.testBit_lt_two_pow (Nat.lt_of_lt_of_le hx (Nat.pow_le_pow_right (by decide) hj))

/-- The code's way: the bit cleared, and the new one put with 'or'. -/
theorem setb_bits (x p b : Nat) (hx : x < 2 ^ 64) (hp : p < 64) (hb : b < 2) : (x &&& (2 ^ 64 - (2 ^ p + 1))) ||| (b * 2 ^ p) = setb x p b := by
  apply Nat.eq_of_testBit_eq
  intro j
  have hpp : 2 ^ p < 2 ^ 64 := Nat.pow_lt_pow_right (by decide) hp
  rw [testBit_setb _ _ _ _ hb, Nat.testBit_or, Nat.testBit_and, Nat.testBit_two_pow_sub_succ hpp, Nat.testBit_two_pow]
  have hbt : (b * 2 ^ p).testBit j = (decide (p = j) && decide (b = 1)) := by
    have : b = 0 ∨ b = 1 := by omega
    rcases this with rfl | rfl
    · simp
    · simp [Nat.testBit_two_pow]
  rw [hbt]
  by_cases h : j = p
  · subst h; simp
  · have h' : ¬ p = j := fun e => h e.symm
    rw [if_neg h]; simp [h']
    intro ht
    by_cases hj : j < 64
    · exact hj
    · have := Nat.testBit_lt_two_pow (Nat.lt_of_lt_of_le hx (Nat.pow_le_pow_right (by decide : 0 < 2) (by omega : 64 ≤ j)))
      rw [this] at ht; cases ht

theorem or_bit (f k b : Nat) (hf : f < 2 ^ k) : f ||| (b * 2 ^ k) = f + 2 ^ k * b := by
  rw [Nat.mul_comm, Nat.or_comm, ← Nat.two_pow_add_eq_or_of_lt hf, Nat.add_comm]

/-! ### signs -/
/-! ### products -/
end Go.Proofs.YtnooabgdcfegeaaDoor
end
section
namespace Go.Proofs.YtnooabgdcfegeaaDoor
open Go.RowKit
set_option linter.unusedVariables false

/-! ### The walk's own spellings of bits, turned into plain numbers. -/

theorem wrap_nat (n : Nat) (h : n < 18446744073709551616) : IntKind.u64.wrap (n : Int) = n := IntWalk.u64_in _ (by omega)
theorem wrap_of (e : Int) (n : Nat) (he : e = n) (h : n < 18446744073709551616) : IntKind.u64.wrap e = n := by rw [he]; exact wrap_nat n h
theorem div_pow_nat (x n : Nat) : (x : Int) / 2 ^ n = ((x / 2 ^ n : Nat) : Int) := by simp
theorem pow64 {k : Nat} (h : k < 64) : 2 ^ k < 18446744073709551616 := Nat.lt_of_lt_of_le (Nat.pow_lt_pow_right (by decide) h) (by decide)
theorem bit_pow {b k : Nat} (hb : b < 2) (h : k < 64) : b * 2 ^ k < 18446744073709551616 :=
  Nat.lt_of_le_of_lt (Nat.mul_le_mul_right _ (by omega : b ≤ 1)) (by rw [Nat.one_mul]; exact pow64 h)

/-- One bit, shifted down and cut out. -/
theorem bit_at (x : Int) (n : Nat) (h0 : 0 ≤ x) (h1 : x < 18446744073709551616) : bits .and .u64 (x / 2 ^ n) 1 = ((x.toNat / 2 ^ n % 2 : Nat) : Int) := by
  obtain ⟨X, rfl⟩ := Int.eq_ofNat_of_zero_le h0
  have hX : X / 2 ^ n < 18446744073709551616 := Nat.lt_of_le_of_lt (Nat.div_le_self _ _) (by omega)
  rw [div_pow_nat, show (1 : Int) = ((1 : Nat) : Int) from rfl, u64_and_nat _ _ hX (by decide), Nat.and_one_is_mod, Int.toNat_natCast]

theorem bit_up (b k : Nat) (hb : b < 2) (h : k < 64) : IntKind.u64.wrap ((b : Int) * 2 ^ k) = ((b * 2 ^ k : Nat) : Int) :=
  wrap_of _ _ (by simp) (bit_pow hb h)

theorem fld_lt64 (x low w : Nat) (h : x < 18446744073709551616) : fld x low w < 18446744073709551616 := Nat.lt_of_le_of_lt (fld_le _ _ _) h

theorem field_step (x low : Int) (k : Nat) (h0 : 0 ≤ x) (h1 : x < 18446744073709551616) (b1 : 0 ≤ low) (b3 : low + k ≤ 63) :
    bits .or .u64 ((fld x.toNat low.toNat k : Nat) : Int) (IntKind.u64.wrap (bits .and .u64 (x / 2 ^ (low + (k : Int)).toNat) 1 * 2 ^ k)) = ((fld x.toNat low.toNat (k + 1) : Nat) : Int) := by
  rw [bit_at x _ h0 h1, bit_up _ _ (by omega) (by omega), u64_or_nat _ _ (fld_lt64 _ _ _ (by omega)) (bit_pow (by omega) (by omega)),
    or_bit _ _ _ (fld_lt _ _ _), show (low + (k : Int)).toNat = low.toNat + k by omega, fld_succ]

theorem plc_lt64 (x low w v : Nat) (hx : x < 18446744073709551616) (hw : low + w ≤ 64) : plc x low w v < 18446744073709551616 := plc_lt x low w v 64 hx hw

/-- The code's step of Place: y is the number so far. -/
theorem place_step (x low v : Int) (k : Nat) (h0 : 0 ≤ x) (h1 : x < 18446744073709551616) (v0 : 0 ≤ v) (v1 : v < 18446744073709551616) (b1 : 0 ≤ low) (b3 : low + k ≤ 63) :
    bits .or .u64 (bits .andNot .u64 ((plc x.toNat low.toNat k v.toNat : Nat) : Int) (IntKind.u64.wrap (2 ^ (low + (k : Int)).toNat))) (IntKind.u64.wrap (bits .and .u64 (v / 2 ^ k) 1 * 2 ^ (low + (k : Int)).toNat))
      = ((plc x.toNat low.toNat (k + 1) v.toNat : Nat) : Int) := by
  have e : (low + (k : Int)).toNat = low.toNat + k := by omega
  have hp : low.toNat + k < 64 := by omega
  have hy := plc_lt64 x.toNat low.toNat k v.toNat (by omega) (by omega)
  rw [e, bit_at v _ v0 v1, bit_up _ _ (by omega) hp, wrap_of (2 ^ (low.toNat + k)) (2 ^ (low.toNat + k)) (by simp) (pow64 hp), u64_andNot_nat _ _ hy (pow64 hp)]
  have hpp := pow64 hp
  have hs := setb_bits (plc x.toNat low.toNat k v.toNat) (low.toNat + k) (v.toNat / 2 ^ k % 2) hy hp (by omega)
  have e2 : 18446744073709551615 - 2 ^ (low.toNat + k) = 2 ^ 64 - (2 ^ (low.toNat + k) + 1) := by omega
  rw [e2, u64_or_nat _ _ (Nat.lt_of_le_of_lt Nat.and_le_left hy) (bit_pow (by omega) hp), hs, plc_succ]

end Go.Proofs.YtnooabgdcfegeaaDoor
end
