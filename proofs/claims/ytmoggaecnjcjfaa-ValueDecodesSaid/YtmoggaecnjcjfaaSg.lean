/-
  Proved here: Plain facts on repeated signs and on what has room in so many bits. Conditions: the ranges that each theorem names.
-/
import Derived.Test.YtmoggaecnjcjfaaAr
namespace Go.Proofs.Ytmoggaecnjcjfaa
open Go.RowKit
set_option linter.unusedVariables false

/-! ### Signs, plainly: h is the weight of the highest bit that stays. -/
def sgh (h x : Nat) : Nat := if x % (2 * h) < h then x % (2 * h) else x % (2 * h) + (18446744073709551616 - 2 * h)

theorem sgh_lt (h x : Nat) (h0 : 0 < h) (h1 : h ≤ 4611686018427387904) : sgh h x < 18446744073709551616 := by
  have := Nat.mod_lt x (show 0 < 2 * h by omega)
  unfold sgh; split <;> omega
theorem sgh_mod (h x : Nat) (M : Nat) (h0 : 0 < h) (hM : 18446744073709551616 = 2 * h * M) : sgh h x % (2 * h) = x % (2 * h) := by
  unfold sgh; split
  · exact Nat.mod_mod _ _
  · have hM1 : 1 ≤ M := by
      rcases Nat.eq_zero_or_pos M with rfl | h
      · simp at hM
      · exact h
    have e : 18446744073709551616 - 2 * h = 2 * h * (M - 1) := by rw [Nat.mul_sub, Nat.mul_one, ← hM]
    rw [e, Nat.add_mul_mod_self_left, Nat.mod_mod]
theorem sgh_again (h x : Nat) (M : Nat) (h0 : 0 < h) (hM : 18446744073709551616 = 2 * h * M) : sgh h (sgh h x) = sgh h x := by
  have e := sgh_mod h x M h0 hM
  generalize hy : sgh h x = y at *
  unfold sgh; rw [e]; rw [← hy]; rfl
theorem sgh_range (h x : Nat) (h0 : 0 < h) (h1 : h ≤ 4611686018427387904) : sgh h x < h ∨ 18446744073709551616 - h ≤ sgh h x := by
  have := Nat.mod_lt x (show 0 < 2 * h by omega)
  unfold sgh; split <;> omega
theorem sgh_fit (h x : Nat) (M : Nat) (h0 : 0 < h) (h1 : h ≤ 4611686018427387904) (hM : 18446744073709551616 = 2 * h * M) (hx : x < 18446744073709551616) :
    sgh h x = x ↔ (x < h ∨ 18446744073709551616 - h ≤ x) := by
  constructor
  · intro e; have := sgh_range h x h0 h1; rw [e] at this; exact this
  · rintro (hl | hg)
    · have e : x % (2 * h) = x := Nat.mod_eq_of_lt (by omega)
      unfold sgh; rw [e, if_pos hl]
    · have hM1 : 1 ≤ M := by
        rcases Nat.eq_zero_or_pos M with rfl | h
        · simp at hM
        · exact h
      have e1 : 18446744073709551616 - 2 * h = 2 * h * (M - 1) := by rw [Nat.mul_sub, Nat.mul_one, ← hM]
      have e : x % (2 * h) = x - (18446744073709551616 - 2 * h) := by
        have : x = (x - (18446744073709551616 - 2 * h)) + 2 * h * (M - 1) := by rw [← e1]; omega
        rw [this, Nat.add_mul_mod_self_left, ← this, Nat.mod_eq_of_lt (by omega)]
      unfold sgh; rw [e, if_neg (by omega)]; omega

theorem pow_parts (n : Nat) (h1 : 1 ≤ n) (h2 : n ≤ 63) : 0 < 2 ^ (n - 1) ∧ 2 ^ (n - 1) ≤ 4611686018427387904 ∧ 2 * 2 ^ (n - 1) = 2 ^ n ∧ 18446744073709551616 = 2 * 2 ^ (n - 1) * 2 ^ (64 - n) := by
  have e : 2 * 2 ^ (n - 1) = 2 ^ n := by rw [Nat.mul_comm, ← Nat.pow_succ]; congr 1; omega
  refine ⟨Nat.two_pow_pos _, ?_, e, ?_⟩
  · have : 2 ^ (n - 1) ≤ 2 ^ 62 := Nat.pow_le_pow_right (by decide) (by omega)
    exact this
  · rw [e, ← Nat.pow_add]; have : n + (64 - n) = 64 := by omega
    rw [this]

/-- The sign bit, told by division, is the weight's test on the remainder. -/
theorem sign_test (x n : Nat) (h1 : 1 ≤ n) (h2 : n ≤ 63) : (x / 2 ^ (n - 1) % 2 = 1) ↔ ¬ x % (2 * 2 ^ (n - 1)) < 2 ^ (n - 1) := by
  obtain ⟨p0, p1, p2, p3⟩ := pow_parts n h1 h2
  generalize 2 ^ (n - 1) = h at *
  have e := Nat.mod_mul_right_div_self x h 2
  rw [Nat.mul_comm] at e
  have hl := Nat.mod_lt x (show 0 < 2 * h by omega)
  rw [← e]
  generalize x % (2 * h) = r at *
  constructor
  · intro hr hlt; rw [Nat.div_eq_of_lt hlt] at hr; cases hr
  · intro hge
    have : r / h = 1 := Nat.div_eq_of_lt_le (by omega) (by omega)
    exact this

theorem above_eq (n : Nat) (h1 : 1 ≤ n) (h2 : n ≤ 63) : IntKind.u64.wrap (18446744073709551615 * 2 ^ n) = ((18446744073709551616 - 2 ^ n : Nat) : Int) := by
  have hp := pow64 (show n < 64 by omega)
  have h0 := Nat.two_pow_pos n
  rw [IntKind.wrap_u64]
  have e : (2 : Int) ^ n = ((2 ^ n : Nat) : Int) := by simp
  rw [e]
  generalize 2 ^ n = t at *
  omega

theorem or_above (x n : Nat) (h1 : 1 ≤ n) (h2 : n ≤ 63) (hx : x < 18446744073709551616) : x ||| (18446744073709551616 - 2 ^ n) = x % 2 ^ n + (18446744073709551616 - 2 ^ n) := by
  have hp := pow64 (show n < 64 by omega)
  have h0 := Nat.two_pow_pos n
  have e2 : 18446744073709551616 - 2 ^ n = 2 ^ n * (2 ^ (64 - n) - 1) := by
    rw [Nat.mul_sub, ← Nat.pow_add, Nat.mul_one]; have : n + (64 - n) = 64 := by omega
    rw [this]
  apply Nat.eq_of_testBit_eq
  intro j
  have e3 : 18446744073709551616 - 2 ^ n = 2 ^ 64 - ((2 ^ n - 1) + 1) := by omega
  rw [Nat.testBit_or]
  conv => rhs; rw [e2, Nat.add_comm, Nat.testBit_two_pow_mul_add _ (Nat.mod_lt x h0)]
  rw [e3, Nat.testBit_two_pow_sub_succ (by omega), Nat.testBit_two_pow_sub_one, Nat.testBit_two_pow_sub_one, Nat.testBit_mod_two_pow]
  by_cases hj : j < n
  · simp [hj]
  · rw [if_neg hj]
    by_cases h64 : j < 64
    · simp [hj, h64]; omega
    · have := Nat.testBit_lt_two_pow (Nat.lt_of_lt_of_le hx (Nat.pow_le_pow_right (by decide : 0 < 2) (by omega : 64 ≤ j)))
      simp [this, h64]; omega

def Sgn (x n : Int) : Int := if n < 1 ∨ 63 < n then x else ((sgh (2 ^ (n.toNat - 1)) x.toNat : Nat) : Int)
theorem sgn_no (x n : Int) (h : n < 1 ∨ 63 < n) : x = Sgn x n := (if_pos h).symm
theorem sgn_yes (x n : Int) (h1 : 1 ≤ n) (h2 : n ≤ 63) : ((sgh (2 ^ (n.toNat - 1)) x.toNat : Nat) : Int) = Sgn x n := (if_neg (by omega)).symm

theorem sign_or (x n : Int) (h0 : 0 ≤ x) (h1 : x < 18446744073709551616) (n1 : 1 ≤ n) (n2 : n ≤ 63) (ht : (bits .and .u64 (x / 2 ^ (n.toNat - 1)) 1 == 1) = true) :
    bits .or .u64 x (IntKind.u64.wrap (18446744073709551615 * 2 ^ n.toNat)) = Sgn x n := by
  rw [bit_at x _ h0 h1, beq_iff_eq] at ht
  have ht' := (sign_test x.toNat n.toNat (by omega) (by omega)).1 (by omega)
  obtain ⟨p0, p1, p2, p3⟩ := pow_parts n.toNat (by omega) (by omega)
  have hp := Nat.two_pow_pos n.toNat
  rw [← sgn_yes x n n1 n2, above_eq _ (by omega) (by omega)]
  have ex : x = ((x.toNat : Nat) : Int) := by omega
  rw [show bits .or .u64 x = bits .or .u64 ((x.toNat : Nat) : Int) by rw [← ex], u64_or_nat _ _ (by omega) (by omega), or_above _ _ (by omega) (by omega) (by omega)]
  unfold sgh; rw [if_neg ht', p2]

theorem sign_not (x n : Int) (h0 : 0 ≤ x) (h1 : x < 18446744073709551616) (n1 : 1 ≤ n) (n2 : n ≤ 63) (ht : (bits .and .u64 (x / 2 ^ (n.toNat - 1)) 1 == 1) = false) :
    bits .andNot .u64 x (IntKind.u64.wrap (18446744073709551615 * 2 ^ n.toNat)) = Sgn x n := by
  rw [bit_at x _ h0 h1, beq_eq_false_iff_ne] at ht
  have ht' : x.toNat % (2 * 2 ^ (n.toNat - 1)) < 2 ^ (n.toNat - 1) := by
    have := (sign_test x.toNat n.toNat (by omega) (by omega)).2
    by_cases c : x.toNat % (2 * 2 ^ (n.toNat - 1)) < 2 ^ (n.toNat - 1)
    · exact c
    · exact absurd (this c) (by omega)
  obtain ⟨p0, p1, p2, p3⟩ := pow_parts n.toNat (by omega) (by omega)
  have hp := Nat.two_pow_pos n.toNat
  have hpp := pow64 (show n.toNat < 64 by omega)
  rw [← sgn_yes x n n1 n2, above_eq _ (by omega) (by omega)]
  have ex : x = ((x.toNat : Nat) : Int) := by omega
  rw [show bits .andNot .u64 x = bits .andNot .u64 ((x.toNat : Nat) : Int) by rw [← ex], u64_andNot_nat _ _ (by omega) (by omega)]
  have e : 18446744073709551615 - (18446744073709551616 - 2 ^ n.toNat) = 2 ^ n.toNat - 1 := by omega
  rw [e, Nat.and_two_pow_sub_one_eq_mod]
  unfold sgh; rw [if_pos ht', p2]

/-! The reference's loop over 64 bits. -/
def sgb (x n i : Nat) : Nat := if i < n then x / 2 ^ i % 2 else x / 2 ^ (n - 1) % 2
def sgk (x n : Nat) : Nat → Nat
  | 0 => 0
  | i + 1 => sgk x n i + sgb x n i * 2 ^ i
theorem sgb_lt (x n i : Nat) : sgb x n i < 2 := by unfold sgb; split <;> omega
theorem sgk_lt (x n i : Nat) : sgk x n i < 2 ^ i := by
  induction i with
  | zero => simp [sgk]
  | succ i ih =>
    have hb := sgb_lt x n i
    have : sgb x n i * 2 ^ i ≤ 1 * 2 ^ i := Nat.mul_le_mul_right _ (by omega)
    rw [Nat.pow_succ]; simp only [sgk]; omega
theorem sgk_low (x n i : Nat) (h : i ≤ n) : sgk x n i = x % 2 ^ i := by
  induction i with
  | zero => simp [sgk, Nat.mod_one]
  | succ i ih =>
    simp only [sgk]; rw [ih (by omega), Nat.mod_pow_succ]
    unfold sgb; rw [if_pos (by omega), Nat.mul_comm]
theorem sgk_high (x n i : Nat) (h : n ≤ i) : sgk x n i = x % 2 ^ n + x / 2 ^ (n - 1) % 2 * (2 ^ i - 2 ^ n) := by
  induction i with
  | zero =>
    have : n = 0 := by omega
    subst this; simp [sgk, Nat.mod_one]
  | succ i ih =>
    by_cases he : n = i + 1
    · rw [he, sgk_low _ _ _ (Nat.le_refl _)]; simp
    · simp only [sgk]; rw [ih (by omega)]
      unfold sgb; rw [if_neg (by omega), Nat.add_assoc, ← Nat.mul_add]
      have hle : 2 ^ n ≤ 2 ^ i := Nat.pow_le_pow_right (by decide) (by omega)
      congr 2; rw [Nat.pow_succ]; omega
theorem sgk_all (x n : Nat) (h1 : 1 ≤ n) (h2 : n ≤ 63) : sgk x n 64 = sgh (2 ^ (n - 1)) x := by
  obtain ⟨p0, p1, p2, p3⟩ := pow_parts n h1 h2
  rw [sgk_high _ _ _ (by omega)]
  have ht := sign_test x n h1 h2
  unfold sgh
  rw [p2] at ht ⊢
  by_cases c : x % 2 ^ n < 2 ^ (n - 1)
  · have : x / 2 ^ (n - 1) % 2 = 0 := by omega
    rw [this, if_pos c]; omega
  · have : x / 2 ^ (n - 1) % 2 = 1 := ht.2 c
    rw [this, if_neg c]; omega
theorem sgk_lt64 (x n i : Nat) (h : i ≤ 64) : sgk x n i < 18446744073709551616 :=
  Nat.lt_of_lt_of_le (sgk_lt x n i) (Nat.pow_le_pow_right (by decide) h)
theorem rsign_low (x n : Int) (k : Nat) (h : (k : Int) < n) (hk : k < 64) : IntKind.u64.wrap (((sgk x.toNat n.toNat k : Nat) : Int) + IntKind.u64.wrap (Bt x (k : Int) * Pw (k : Int))) = ((sgk x.toNat n.toNat (k + 1) : Nat) : Int) := by
  have hz := sgk_lt64 x.toNat n.toNat (k + 1) (by omega)
  have e : sgk x.toNat n.toNat (k + 1) = sgk x.toNat n.toNat k + x.toNat / 2 ^ k % 2 * 2 ^ k := by
    show _ + sgb _ _ _ * _ = _; unfold sgb; rw [if_pos (by omega)]
  rw [btpw _ _ _ (by omega), Int.toNat_natCast, wrap_add, e]
  rw [← e]; exact hz
theorem rsign_high (x n : Int) (k : Nat) (n1 : 1 ≤ n) (h : n ≤ (k : Int)) (hk : k < 64) : IntKind.u64.wrap (((sgk x.toNat n.toNat k : Nat) : Int) + IntKind.u64.wrap (Bt x (n - 1) * Pw (k : Int))) = ((sgk x.toNat n.toNat (k + 1) : Nat) : Int) := by
  have hz := sgk_lt64 x.toNat n.toNat (k + 1) (by omega)
  have e : sgk x.toNat n.toNat (k + 1) = sgk x.toNat n.toNat k + x.toNat / 2 ^ (n - 1).toNat % 2 * 2 ^ k := by
    show _ + sgb _ _ _ * _ = _; unfold sgb; rw [if_neg (by omega), show (n - 1).toNat = n.toNat - 1 by omega]
  rw [btpw _ _ _ (by omega), Int.toNat_natCast, wrap_add, e]
  rw [← e]; exact hz
theorem rsign_ty (x n : Int) (k : Nat) (hk : (k : Int) ≤ 64) : ((sgk x.toNat n.toNat k : Nat) : Int) < 18446744073709551616 := by
  have := sgk_lt64 x.toNat n.toNat k (by omega); omega
theorem rsign_end (x n : Int) (n1 : 1 ≤ n) (n2 : n ≤ 63) : ((sgk x.toNat n.toNat 64 : Nat) : Int) = Sgn x n := by
  rw [← sgn_yes x n n1 n2, sgk_all _ _ (by omega) (by omega)]

/-! What has room. -/
def FitB (v n : Int) : Bool := if n < 1 then false else if 63 < n then true else decide (-((2 ^ (n.toNat - 1) : Nat) : Int) ≤ v) && decide (v < ((2 ^ (n.toNat - 1) : Nat) : Int))
theorem fit_no (v n : Int) (h : n < 1) : FitB v n = false := if_pos h
theorem fit_all (v n : Int) (h : 63 < n) : FitB v n = true := by unfold FitB; rw [if_neg (by omega), if_pos h]
theorem fit_mid (v n : Int) (h1 : 1 ≤ n) (h2 : n ≤ 63) : FitB v n = (decide (-((2 ^ (n.toNat - 1) : Nat) : Int) ≤ v) && decide (v < ((2 ^ (n.toNat - 1) : Nat) : Int))) := by
  unfold FitB; rw [if_neg (by omega), if_neg (by omega)]
theorem half_le (n : Int) (h1 : 1 ≤ n) (h2 : n ≤ 63) : 0 ≤ (2 : Int) ^ (n.toNat - 1) ∧ (2 : Int) ^ (n.toNat - 1) ≤ 4611686018427387904 := by
  obtain ⟨p0, p1, p2, p3⟩ := pow_parts n.toNat (by omega) (by omega)
  have e : (2 : Int) ^ (n.toNat - 1) = ((2 ^ (n.toNat - 1) : Nat) : Int) := by simp
  rw [e]; omega
theorem sgn_lt (x n : Int) (h0 : 0 ≤ x) (h1 : x < 18446744073709551616) : 0 ≤ Sgn x n ∧ Sgn x n < 18446744073709551616 := by
  by_cases h : n < 1 ∨ 63 < n
  · rw [← sgn_no x n h]; omega
  · rw [← sgn_yes x n (by omega) (by omega)]
    obtain ⟨p0, p1, p2, p3⟩ := pow_parts n.toNat (by omega) (by omega)
    have := sgh_lt (2 ^ (n.toNat - 1)) x.toNat p0 p1
    omega
/-- Of a number without a sign: it is its own just if it has room, read with a sign. -/
theorem fit_iff (x v n : Int) (h0 : 0 ≤ x) (h1 : x < 18446744073709551616) (hv : v = x ∧ x < 9223372036854775808 ∨ v = x - 18446744073709551616 ∧ 9223372036854775808 ≤ x) (n1 : 1 ≤ n) (n2 : n ≤ 63) :
    (Sgn x n == x) = FitB v n := by
  obtain ⟨p0, p1, p2, p3⟩ := pow_parts n.toNat (by omega) (by omega)
  have hf := sgh_fit (2 ^ (n.toNat - 1)) x.toNat _ p0 p1 p3 (by omega)
  rw [fit_mid v n n1 n2, Bool.eq_iff_iff, beq_iff_eq, ← sgn_yes x n n1 n2, Bool.and_eq_true, decide_eq_true_iff, decide_eq_true_iff]
  constructor
  · intro h
    have := hf.1 (by omega)
    omega
  · intro h
    have := hf.2 (by omega)
    omega
end Go.Proofs.Ytmoggaecnjcjfaa
