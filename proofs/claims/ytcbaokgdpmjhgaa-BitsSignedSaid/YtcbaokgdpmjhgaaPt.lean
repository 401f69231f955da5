/-
  Proved here: Plain facts on parts, halves and signs. Conditions: the ranges that each theorem names.
-/
import Derived.Test.YtcbaokgdpmjhgaaWh
namespace Go.Proofs.Ytcbaokgdpmjhgaa
open Go.RowKit
set_option linter.unusedVariables false

/-! ### Parts, plainly. -/
theorem wid_one (k : Int) (h0 : 0 ≤ k) (h1 : k ≤ 63) : wid k 1 = 1 := by have := wid_yes k 1 h0 h1 (by decide); omega
theorem wid_zero (a b : Int) (a0 : 0 ≤ a) (a1 : a ≤ 63) (b1 : 1 ≤ b) : wid 0 (min b (64 - a)) = wid a b := by
  have h := wid_yes a b a0 a1 b1
  have h2 := wid_yes 0 (min b (64 - a)) (by decide) (by decide) (by omega)
  omega
theorem plc_word (x low n v : Int) (h0 : 0 ≤ x) (h1 : x < 18446744073709551616) : 0 ≤ Plc x low n v ∧ Plc x low n v < 18446744073709551616 := by
  unfold Plc
  by_cases h : low < 0 ∨ 63 < low ∨ n < 1
  · rw [wid_no low n h, plc_zero]; omega
  · have := wid_yes low n (by omega) (by omega) (by omega)
    have := plc_lt64 x.toNat low.toNat (wid low n) v.toNat (by omega) (by omega)
    omega
theorem fld_word (x low n : Int) (h0 : 0 ≤ x) (h1 : x < 18446744073709551616) : 0 ≤ Fld x low n ∧ Fld x low n < 18446744073709551616 := by
  unfold Fld
  have := fld_lt64 x.toNat low.toNat (wid low n) (by omega)
  omega
theorem part_other (x a b v k : Int) (h0 : 0 ≤ x) (h1 : x < 18446744073709551616) (a0 : 0 ≤ a) (a1 : a ≤ 63) (b1 : 1 ≤ b) (k0 : 0 ≤ k) (k1 : k ≤ 63) (h : k < a ∨ b ≤ k - a) :
    (Fld (Plc x a b v) k 1 == Fld x k 1) = true := by
  rw [beq_iff_eq]; unfold Fld Plc
  rw [wid_one k k0 k1, Int.toNat_natCast]
  congr 1
  have hw := wid_yes a b a0 a1 b1
  apply Nat.eq_of_testBit_eq
  intro j
  rw [testBit_fld, testBit_fld, testBit_plc]
  by_cases hj : j < 1
  · by_cases hl : k.toNat + j < a.toNat
    · rw [if_pos hl]
    · rw [if_neg hl, if_neg (by omega)]
  · simp [hj]
theorem part_told (x a b v : Int) (a0 : 0 ≤ a) (a1 : a ≤ 63) (b1 : 1 ≤ b) : (Fld (Plc x a b v) a b == Fld v 0 (min b (64 - a))) = true := by
  rw [beq_iff_eq]; unfold Fld Plc
  rw [wid_zero a b a0 a1 b1, Int.toNat_natCast]
  congr 1
  apply Nat.eq_of_testBit_eq
  intro j
  rw [testBit_fld, testBit_fld, testBit_plc]
  by_cases hj : j < wid a b
  · rw [if_neg (by omega), if_pos (by omega), Nat.add_sub_cancel_left]
    simp
  · simp [hj]
theorem part_again (x a b v : Int) : (Plc (Plc x a b v) a b v == Plc x a b v) = true := by
  rw [beq_iff_eq]; unfold Plc
  rw [Int.toNat_natCast]
  congr 1
  apply Nat.eq_of_testBit_eq
  intro j
  rw [testBit_plc, testBit_plc]
  by_cases h1 : j < a.toNat
  · rw [if_pos h1, if_pos h1]
  · by_cases h2 : j < a.toNat + wid a b
    · rw [if_neg h1, if_pos h2, if_neg h1, if_pos h2]
    · rw [if_neg h1, if_neg h2]
theorem part_own (x a b : Int) (h0 : 0 ≤ x) : (Plc x a b (Fld x a b) == x) = true := by
  rw [beq_iff_eq]; unfold Plc Fld
  rw [Int.toNat_natCast]
  have : plc x.toNat a.toNat (wid a b) (fld x.toNat a.toNat (wid a b)) = x.toNat := by
    apply Nat.eq_of_testBit_eq
    intro j
    rw [testBit_plc, testBit_fld]
    by_cases h1 : j < a.toNat
    · rw [if_pos h1]
    · by_cases h2 : j < a.toNat + wid a b
      · rw [if_neg h1, if_pos h2, show a.toNat + (j - a.toNat) = j by omega]
        have : decide (j - a.toNat < wid a b) = true := by simp; omega
        rw [this, Bool.true_and]
      · rw [if_neg h1, if_neg h2]
  rw [this]; omega

/-! ### Halves, plainly. -/
theorem hu_comm (a b : Int) : Hu a b = Hu b a := by unfold Hu; rw [Int.mul_comm]
theorem half_1 (a b : Int) : (Hgh a b false false == Hgh b a false false) = true := by rw [beq_iff_eq]; exact hu_comm a b
theorem half_2 (a b : Int) : (Hgh a b true true == Hgh b a true true) = true := by
  rw [beq_iff_eq]; unfold Hgh; rw [hu_comm b a, Bool.true_and, Bool.true_and]
  cases NegB a <;> cases NegB b <;> simp only [less_yes, less_no]
  simp only [IntKind.wrap_u64]
  omega
theorem half_3 (a b : Int) : (Hgh a b true false == Hgh b a false true) = true := by
  rw [beq_iff_eq]; unfold Hgh; rw [hu_comm b a]; rfl
theorem half_4 (a : Int) (h0 : 0 ≤ a) (h1 : a < 18446744073709551616) : (Hgh a 1 false false == 0) = true := by
  rw [beq_iff_eq]; show Hu a 1 = 0; unfold Hu; omega
theorem half_5 (a : Int) : (Hgh a 4294967296 false false == a / 4294967296) = true := by
  rw [beq_iff_eq]; show Hu a 4294967296 = _; unfold Hu; omega

/-! ### Signs, plainly. -/
theorem sg_again (x k : Int) (k1 : 1 ≤ k) (k2 : k ≤ 63) : (Sgn (Sgn x k) k == Sgn x k) = true := by
  rw [beq_iff_eq, ← sgn_yes x k k1 k2, ← sgn_yes _ k k1 k2, Int.toNat_natCast]
  obtain ⟨p0, p1, p2, p3⟩ := pow_parts k.toNat (by omega) (by omega)
  rw [sgh_again _ _ _ p0 p3]
theorem sg_low (x k : Int) (k1 : 1 ≤ k) (k2 : k ≤ 63) : (Fld (Sgn x k) 0 k == Fld x 0 k) = true := by
  rw [beq_iff_eq]; unfold Fld
  have hw := wid_yes 0 k (by decide) (by decide) k1
  have e : wid 0 k = k.toNat := by omega
  obtain ⟨p0, p1, p2, p3⟩ := pow_parts k.toNat (by omega) (by omega)
  rw [e, ← sgn_yes x k k1 k2, Int.toNat_natCast]
  unfold fld
  have h := sgh_mod (2 ^ (k.toNat - 1)) x.toNat _ p0 p3
  rw [p2] at h
  rw [show (0 : Int).toNat = 0 from rfl, Nat.pow_zero, Nat.div_one, Nat.div_one, h]
theorem sg_fit (x k : Int) (h0 : 0 ≤ x) (h1 : x < 18446744073709551616) (k1 : 1 ≤ k) (k2 : k ≤ 63) : FitB (wrap64 (Sgn x k)) k = true := by
  obtain ⟨y0, y1⟩ := sgn_lt x k h0 h1
  rw [← fit_iff (Sgn x k) (wrap64 (Sgn x k)) k y0 y1 (s_cases _ y0 y1) k1 k2]
  exact sg_again x k k1 k2
theorem sg_own (x k : Int) (h0 : 0 ≤ x) (h1 : x < 18446744073709551616) (k1 : 1 ≤ k) (k2 : k ≤ 63) : FitB (wrap64 x) k = (x == Sgn x k) := by
  rw [← fit_iff x (wrap64 x) k h0 h1 (s_cases x h0 h1) k1 k2, Bool.eq_iff_iff, beq_iff_eq, beq_iff_eq]
  exact eq_comm
theorem sg_more (v k : Int) (k1 : 1 ≤ k) (k2 : k ≤ 63) (h : FitB v k = true) : FitB v (k + 1) = true := by
  by_cases c : k = 63
  · exact fit_all v (k + 1) (by omega)
  · rw [fit_mid v k k1 k2, Bool.and_eq_true, decide_eq_true_iff, decide_eq_true_iff] at h
    rw [fit_mid v (k + 1) (by omega) (by omega), Bool.and_eq_true, decide_eq_true_iff, decide_eq_true_iff]
    have e : 2 ^ ((k + 1).toNat - 1) = 2 * 2 ^ (k.toNat - 1) := by
      rw [show (k + 1).toNat - 1 = (k.toNat - 1) + 1 by omega, Nat.pow_succ, Nat.mul_comm]
    rw [e]
    generalize 2 ^ (k.toNat - 1) = t at *
    omega
theorem bne_of {a b : Int} (h : (a == b) = true) : (a != b) = false := by rw [beq_iff_eq] at h; rw [h]; simp
theorem m64_range (a : Int) : 0 ≤ wrap64 ((IntKind.u64.wrap a).tmod 64) ∧ wrap64 ((IntKind.u64.wrap a).tmod 64) ≤ 63 := by
  have h := wrap_word a
  rw [Int.tmod_eq_emod_of_nonneg h.1]
  generalize IntKind.u64.wrap a = x at *
  unfold wrap64; omega
theorem k64_range (a : Int) : 1 ≤ wrap64 (1 + wrap64 ((IntKind.u64.wrap a).tmod 64)) ∧ wrap64 (1 + wrap64 ((IntKind.u64.wrap a).tmod 64)) ≤ 64 := by
  have h := m64_range a
  generalize wrap64 ((IntKind.u64.wrap a).tmod 64) = x at *
  unfold wrap64; omega
theorem k63_range (a : Int) : 1 ≤ wrap64 (1 + wrap64 ((IntKind.u64.wrap a).tmod 63)) ∧ wrap64 (1 + wrap64 ((IntKind.u64.wrap a).tmod 63)) ≤ 63 := by
  have h := wrap_word a
  rw [Int.tmod_eq_emod_of_nonneg h.1]
  generalize IntKind.u64.wrap a = x at *
  unfold wrap64; omega
end Go.Proofs.Ytcbaokgdpmjhgaa
