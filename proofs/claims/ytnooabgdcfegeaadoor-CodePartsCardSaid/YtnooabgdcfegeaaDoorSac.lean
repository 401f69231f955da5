/-
  Proved here: Plain facts on repeated signs and on what has room in so many bits. Conditions: the ranges that each theorem names.
-/
import Derived.Test.YtnooabgdcfegeaaDoorSaa
namespace Go.Proofs.YtnooabgdcfegeaaDoor
open Go.RowKit
set_option linter.unusedVariables false

/-! ### Signs, plainly: h is the weight of the highest bit that stays. -/
def sgh (h x : Nat) : Nat := if x % (2 * h) < h then x % (2 * h) else x % (2 * h) + (18446744073709551616 - 2 * h)

theorem pow_parts (n : Nat) (h1 : 1 ≤ n) (h2 : n ≤ 63) : 0 < 2 ^ (n - 1) ∧ 2 ^ (n - 1) ≤ 4611686018427387904 ∧ 2 * 2 ^ (n - 1) = 2 ^ n ∧ 18446744073709551616 = 2 * 2 ^ (n - 1) * 2 ^ (64 - n) := by
  have e : 2 * 2 ^ (n - 1) = 2 ^ n := by rw [Nat.mul_comm, ← Nat.pow_succ]; congr 1; omega
  refine ⟨Nat.two_pow_pos _, ?_, e, ?_⟩
  · have : 2 ^ (n - 1) ≤ 2 ^ 62 := Nat.pow_le_pow_right (by decide) (by omega)
    exact this
  · rw [e, ← Nat.pow_add]; have : n + (64 - n) = 64 := by omega
    rw [this]

/-- The sign bit, told by division, is the weight's test on the remainder. -/
theorem sign_test (x n : Nat) (h1 : 1 ≤ n) (h2 : n ≤ 63) : (x / 2 ^ (n - 1) % 2 = 1) ↔ ¬ x % (2 * 2 ^ (n - 1)) < 2 ^ (n - 1) := by
  obtain ⟨p0, p1, p2, p3⟩ := pow_parts n h1 h2
  generalize 2 ^ (n - 1) = h at *
  have e := Nat.mod_mul_right_div_self x h 2
  rw [Nat.mul_comm] at e
  have hl := Nat.mod_lt x (show 0 < 2 * h by omega)
  rw [← e]
  generalize x % (2 * h) = r at *
  constructor
  · intro hr hlt; rw [Nat.div_eq_of_lt hlt] at hr; cases hr
  · intro hge
    have : r / h = 1 := Nat.div_eq_of_lt_le (by omega) (by omega)
    exact this

theorem above_eq (n : Nat) (h1 : 1 ≤ n) (h2 : n ≤ 63) : IntKind.u64.wrap (18446744073709551615 * 2 ^ n) = ((18446744073709551616 - 2 ^ n : Nat) : Int) := by
  have hp := pow64 (show n < 64 by omega)
  have h0 := Nat.two_pow_pos n
  rw [IntKind.wrap_u64]
  have e : (2 : Int) ^ n = ((2 ^ n : Nat) : Int) := by simp
  rw [e]
  generalize 2 ^ n = t at *
  omega

theorem or_above (x n : Nat) (h1 : 1 ≤ n) (h2 : n ≤ 63) (hx : x < 18446744073709551616) : x ||| (18446744073709551616 - 2 ^ n) = x % 2 ^ n + (18446744073709551616 - 2 ^ n) := by
  have hp := pow64 (show n < 64 by omega)
  have h0 := Nat.two_pow_pos n
  have e2 : 18446744073709551616 - 2 ^ n = 2 ^ n * (2 ^ (64 - n) - 1) := by
    rw [Nat.mul_sub, ← Nat.pow_add, Nat.mul_one]; have : n + (64 - n) = 64 := by omega
    rw [this]
  apply Nat.eq_of_testBit_eq
  intro j
  have e3 : 18446744073709551616 - 2 ^ n = 2 ^ 64 - ((2 ^ n - 1) + 1) := by omega
  rw [Nat.testBit_or]
  conv => rhs; rw [e2, Nat.add_comm, Nat.testBit_two_pow_mul_add _ (Nat.mod_lt x h0)]
  rw [e3, Nat.testBit_two_pow_sub_succ (by omega), Nat.testBit_two_pow_sub_one, Nat.testBit_two_pow_sub_one, Nat.testBit_mod_two_pow]
  by_cases hj : j < n
  · simp [hj]
  · rw [if_neg hj]
    by_cases h64 : j < 64
    · simp [hj, h64]; omega
    · have := Nat.testBit_lt_two_pow (Nat.lt_of_lt_of_le hx (Nat.pow_le_pow_right (by decide : 0 < 2) (by omega : 64 ≤ j)))
      simp [this, h64]; omega

def Sgn (x n : Int) : Int := if n < 1 ∨ 63 < n then x else ((sgh (2 ^ (n.toNat - 1)) x.toNat : Nat) : Int)
theorem sgn_no (x n : Int) (h : n < 1 ∨ 63 < n) : x = Sgn x n := (if_pos h).symm
theorem sgn_yes (x n : Int) (h1 : 1 ≤ n) (h2 : n ≤ 63) : ((sgh (2 ^ (n.toNat - 1)) x.toNat : Nat) : Int) = Sgn x n := (if_neg (by omega)).symm

theorem sign_or (x n : Int) (h0 : 0 ≤ x) (h1 : x < 18446744073709551616) (n1 : 1 ≤ n) (n2 : n ≤ 63) (ht : (bits .and .u64 (x / 2 ^ (n.toNat - 1)) 1 == 1) = true) :
    bits .or .u64 x (IntKind.u64.wrap (18446744073709551615 * 2 ^ n.toNat)) = Sgn x n := by
  rw [bit_at x _ h0 h1, beq_iff_eq] at ht
  have ht' := (sign_test x.toNat n.toNat (by omega) (by omega)).1 (by omega)
  obtain ⟨p0, p1, p2, p3⟩ := pow_parts n.toNat (by omega) (by omega)
  have hp := Nat.two_pow_pos n.toNat
  rw [← sgn_yes x n n1 n2, above_eq _ (by omega) (by omega)]
  have ex : x = ((x.toNat : Nat) : Int) := by omega
  rw [show bits .or .u64 x = bits .or .u64 ((x.toNat : Nat) : Int) by rw [← ex], u64_or_nat _ _ (by omega) (by omega), or_above _ _ (by omega) (by omega) (by omega)]
  unfold sgh; rw [if_neg ht', p2]

theorem sign_not (x n : Int) (h0 : 0 ≤ x) (h1 : x < 18446744073709551616) (n1 : 1 ≤ n) (n2 : n ≤ 63) (ht : (bits .and .u64 (x / 2 ^ (n.toNat - 1)) 1 == 1) = false) :
    bits .andNot .u64 x (IntKind.u64.wrap (18446744073709551615 * 2 ^ n.toNat)) = Sgn x n := by
  rw [bit_at x _ h0 h1, beq_eq_false_iff_ne] at ht
  have ht' : x.toNat % (2 * 2 ^ (n.toNat - 1)) < 2 ^ (n.toNat - 1) := by
    have := (sign_test x.toNat n.toNat (by omega) (by omega)).2
    by_cases c : x.toNat % (2 * 2 ^ (n.toNat - 1)) < 2 ^ (n.toNat - 1)
    · exact c
    · exact absurd (this c) (by omega)
  obtain ⟨p0, p1, p2, p3⟩ := pow_parts n.toNat (by omega) (by omega)
  have hp := Nat.two_pow_pos n.toNat
  have hpp := pow64 (show n.toNat < 64 by omega)
  rw [← sgn_yes x n n1 n2, above_eq _ (by omega) (by omega)]
  have ex : x = ((x.toNat : Nat) : Int) := by omega
  rw [show bits .andNot .u64 x = bits .andNot .u64 ((x.toNat : Nat) : Int) by rw [← ex], u64_andNot_nat _ _ (by omega) (by omega)]
  have e : 18446744073709551615 - (18446744073709551616 - 2 ^ n.toNat) = 2 ^ n.toNat - 1 := by omega
  rw [e, Nat.and_two_pow_sub_one_eq_mod]
  unfold sgh; rw [if_pos ht', p2]

/-! The reference's loop over 64 bits. -/
/-! What has room. -/
def FitB (v n : Int) : Bool := if n < 1 then false else if 63 < n then true else decide (-((2 ^ (n.toNat - 1) : Nat) : Int) ≤ v) && decide (v < ((2 ^ (n.toNat - 1) : Nat) : Int))
theorem fit_no (v n : Int) (h : n < 1) : FitB v n = false := if_pos h
theorem fit_all (v n : Int) (h : 63 < n) : FitB v n = true := by unfold FitB; rw [if_neg (by omega), if_pos h]
theorem fit_mid (v n : Int) (h1 : 1 ≤ n) (h2 : n ≤ 63) : FitB v n = (decide (-((2 ^ (n.toNat - 1) : Nat) : Int) ≤ v) && decide (v < ((2 ^ (n.toNat - 1) : Nat) : Int))) := by
  unfold FitB; rw [if_neg (by omega), if_neg (by omega)]
theorem half_le (n : Int) (h1 : 1 ≤ n) (h2 : n ≤ 63) : 0 ≤ (2 : Int) ^ (n.toNat - 1) ∧ (2 : Int) ^ (n.toNat - 1) ≤ 4611686018427387904 := by
  obtain ⟨p0, p1, p2, p3⟩ := pow_parts n.toNat (by omega) (by omega)
  have e : (2 : Int) ^ (n.toNat - 1) = ((2 ^ (n.toNat - 1) : Nat) : Int) := by simp
  rw [e]; omega
end Go.Proofs.YtnooabgdcfegeaaDoor
