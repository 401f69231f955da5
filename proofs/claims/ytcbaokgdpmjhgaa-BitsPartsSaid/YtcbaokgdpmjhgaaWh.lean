/-
  Proved here: Plain facts on quotient and remainder with a sign. Conditions: the ranges that each theorem names.
-/
import Derived.Test.YtcbaokgdpmjhgaaLv
namespace Go.Proofs.Ytcbaokgdpmjhgaa
open Go.RowKit
set_option linter.unusedVariables false

/-! ### What follows from quotient and remainder, plainly. -/
theorem whole_eq (a b : Int) (s : Bool) (h0 : 0 ≤ a) (h1 : a < 18446744073709551616) : (IntKind.u64.wrap (IntKind.u64.wrap (Quo a b s * b) + Rem a b s) == a) = true := by
  rw [beq_iff_eq]; unfold Rem
  simp only [IntKind.wrap_u64]
  generalize Quo a b s * b = Y
  omega
theorem rem_word (a b : Int) (s : Bool) : 0 ≤ Rem a b s ∧ Rem a b s < 18446744073709551616 := wrap_word _
theorem rem_u (a b : Int) (h0 : 0 ≤ a) (h1 : a < 18446744073709551616) (b1 : 1 ≤ b) (g1 : b < 18446744073709551616) : Rem a b false < b := by
  unfold Rem; rw [quo_u a b b1]
  have e : a / b * b = a - a % b := by rw [Int.mul_comm]; have := Int.mul_ediv_add_emod a b; omega
  have m0 := Int.emod_nonneg a (show b ≠ 0 by omega)
  have m1 := Int.emod_lt_of_pos a (show 0 < b by omega)
  rw [e]; simp only [IntKind.wrap_u64]
  generalize a % b = r at *
  omega
theorem rem_gen (a Y : Int) : IntKind.u64.wrap (a - IntKind.u64.wrap Y) = (a - Y) % 18446744073709551616 := by
  simp only [IntKind.wrap_u64]; omega
theorem neg_mul (q n : Int) : ∃ K, IntKind.u64.wrap (-q) * n = -(q * n) + 18446744073709551616 * K := by
  refine ⟨-(-q / 18446744073709551616) * n, ?_⟩
  have e : IntKind.u64.wrap (-q) = -q + 18446744073709551616 * (-(-q / 18446744073709551616)) := by rw [IntKind.wrap_u64]; omega
  rw [e, Int.add_mul, Int.neg_mul, Int.mul_assoc]
theorem mul_comp (Q n : Int) : Q * (18446744073709551616 - n) = -(Q * n) + 18446744073709551616 * Q := by
  rw [Int.mul_sub, Int.mul_comm Q 18446744073709551616]; omega
theorem mul_comp' (Q n b : Int) (hb : b = 18446744073709551616 - n) : Q * b = -(Q * n) + 18446744073709551616 * Q := by subst hb; exact mul_comp Q n
theorem mul_same (Q n b : Int) (hb : n = b) : Q * b = Q * n := by rw [hb]
/-- The remainder of two numbers with signs, read with a sign. -/
theorem rem_s (a b : Int) (h0 : 0 ≤ a) (h1 : a < 18446744073709551616) (b1 : 1 ≤ b) (g1 : b < 18446744073709551616) :
    wrap64 (Rem a b true) = if NegB a = true then -(Mag a % Mag b) else Mag a % Mag b := by
  obtain ⟨ma0, ma1⟩ := mag_range a h0 h1
  obtain ⟨mb0, mb1⟩ := mag_range b (by omega) g1
  have mb2 := mag_one b b1 g1
  have m0 := Int.emod_nonneg (Mag a) (show Mag b ≠ 0 by omega)
  have m1 := Int.emod_lt_of_pos (Mag a) (show 0 < Mag b by omega)
  have e : Mag a / Mag b * Mag b = Mag a - Mag a % Mag b := by rw [Int.mul_comm]; have := Int.mul_ediv_add_emod (Mag a) (Mag b); omega
  have hq0 := Int.ediv_nonneg ma0 mb0
  unfold Rem
  rw [rem_gen]
  cases na : NegB a
  · have ea := mag_pos a na
    have na' := (neg_iff' a h0 h1).1 na
    rw [if_neg (by decide)]
    cases nb : NegB b
    · have eb := mag_pos b nb
      rw [quo_same a b b1 (na.trans nb.symm)]
      have : Mag a / Mag b * b = Mag a - Mag a % Mag b := by rw [eb] at e ⊢; exact e
      rw [this]; generalize Mag a % Mag b = r at *; unfold wrap64; omega
    · have eb := mag_neg b (by omega) g1 nb
      rw [quo_other a b b1 (by rw [na, nb]; decide)]
      have hb : b = 18446744073709551616 - Mag b := by omega
      obtain ⟨K, hK⟩ := neg_mul (Mag a / Mag b) (Mag b)
      have : IntKind.u64.wrap (-(Mag a / Mag b)) * b = -(IntKind.u64.wrap (-(Mag a / Mag b)) * Mag b) + 18446744073709551616 * IntKind.u64.wrap (-(Mag a / Mag b)) := mul_comp' _ _ _ hb
      rw [this, hK, e]
      generalize IntKind.u64.wrap (-(Mag a / Mag b)) = W at *
      generalize Mag a % Mag b = r at *; unfold wrap64; omega
  · have ea := mag_neg a h0 h1 na
    have na' := (neg_iff a h0 h1).1 na
    rw [if_pos rfl]
    cases nb : NegB b
    · have eb := mag_pos b nb
      rw [quo_other a b b1 (by rw [na, nb]; decide)]
      obtain ⟨K, hK⟩ := neg_mul (Mag a / Mag b) (Mag b)
      have : IntKind.u64.wrap (-(Mag a / Mag b)) * b = IntKind.u64.wrap (-(Mag a / Mag b)) * Mag b := mul_same _ _ _ eb
      rw [this, hK, e]
      generalize Mag a % Mag b = r at *; unfold wrap64; omega
    · have eb := mag_neg b (by omega) g1 nb
      rw [quo_same a b b1 (na.trans nb.symm)]
      have hb : b = 18446744073709551616 - Mag b := by omega
      have : Mag a / Mag b * b = -(Mag a / Mag b * Mag b) + 18446744073709551616 * (Mag a / Mag b) := mul_comp' _ _ _ hb
      rw [this, e]
      generalize Mag a / Mag b = W at *
      generalize Mag a % Mag b = r at *; unfold wrap64; omega
/-- What the law asks of them. -/
theorem rem_facts (a b : Int) (h0 : 0 ≤ a) (h1 : a < 18446744073709551616) (b1 : 1 ≤ b) (g1 : b < 18446744073709551616) (hb : b ≠ 18446744073709551615) :
    (0 ≤ wrap64 (Rem a b true) ∨ wrap64 a < 0) ∧ (wrap64 (Rem a b true) ≤ 0 ∨ 0 ≤ wrap64 a) ∧ -9223372036854775808 < wrap64 (Rem a b true) ∧ wrap64 (Rem a b true) ≤ 9223372036854775807 ∧
    (0 < wrap64 b ∧ wrap64 (Rem a b true) < wrap64 b ∧ -wrap64 (Rem a b true) < wrap64 b ∨ wrap64 b < 0 ∧ ¬ (0 < wrap64 b) ∧ wrap64 b < wrap64 (Rem a b true) ∧ wrap64 b < -wrap64 (Rem a b true)) := by
  rw [rem_s a b h0 h1 b1 g1]
  obtain ⟨ma0, ma1⟩ := mag_range a h0 h1
  obtain ⟨mb0, mb1⟩ := mag_range b (by omega) g1
  have mb2 := mag_one b b1 g1
  have m0 := Int.emod_nonneg (Mag a) (show Mag b ≠ 0 by omega)
  have m1 := Int.emod_lt_of_pos (Mag a) (show 0 < Mag b by omega)
  have sa := s_cases a h0 h1
  have sb := s_cases b (by omega) g1
  generalize Mag a % Mag b = r at *
  cases na : NegB a
  · have na' := (neg_iff' a h0 h1).1 na
    rw [if_neg (by decide)]
    cases nb : NegB b
    · have eb := mag_pos b nb
      have nb' := (neg_iff' b (by omega) g1).1 nb
      omega
    · have eb := mag_neg b (by omega) g1 nb
      have nb' := (neg_iff b (by omega) g1).1 nb
      omega
  · have na' := (neg_iff a h0 h1).1 na
    rw [if_pos rfl]
    cases nb : NegB b
    · have eb := mag_pos b nb
      have nb' := (neg_iff' b (by omega) g1).1 nb
      omega
    · have eb := mag_neg b (by omega) g1 nb
      have nb' := (neg_iff b (by omega) g1).1 nb
      omega
end Go.Proofs.Ytcbaokgdpmjhgaa
