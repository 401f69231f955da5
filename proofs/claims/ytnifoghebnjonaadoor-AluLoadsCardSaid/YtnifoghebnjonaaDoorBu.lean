/-
  Proved here: plain facts on words of 32 and 64 bits: signs, shifts, sums and products. Conditions: the ranges that each theorem names.
-/
import Derived.Test.YtnifoghebnjonaaDoorAv
namespace Go.Proofs.YtnifoghebnjonaaDoor
open Go.RowKit
set_option linter.unusedVariables false
theorem wU (x : Int) : IntKind.u64.wrap x = x % 18446744073709551616 := IntKind.wrap_u64 x
theorem wI (x : Int) (h : InU x) : IntKind.i64.wrap x = if x < 9223372036854775808 then x else x - 18446744073709551616 := by
  obtain ⟨a, b⟩ := h
  have h1 : IntKind.i64.wrap x = (x + 9223372036854775808) % 18446744073709551616 - 9223372036854775808 := by
    have := IntKind.wrap_i64 x; omega
  rw [h1]; split <;> omega
theorem sgn32 (x : Int) (h0 : 0 ≤ x) : Sgn x 32 = if x % 4294967296 < 2147483648 then x % 4294967296 else x % 4294967296 + 18446744069414584320 := by
  obtain ⟨n, rfl⟩ := Int.eq_ofNat_of_zero_le h0
  rw [← sgn_yes _ 32 (by decide) (by decide)]
  have e : (2 : Nat) ^ ((32 : Int).toNat - 1) = 2147483648 := by decide
  rw [e, Int.toNat_natCast]
  unfold sgh
  split <;> split <;> omega
theorem sgn_cong (x y : Int) (h0 : 0 ≤ x) (g0 : 0 ≤ y) (h : x % 4294967296 = y % 4294967296) : Sgn x 32 = Sgn y 32 := by
  rw [sgn32 x h0, sgn32 y g0, h]
theorem sgn_m (x : Int) (h0 : 0 ≤ x) : Sgn x 32 % 4294967296 = x % 4294967296 := by
  rw [sgn32 x h0]; split <;> omega
theorem fld0 (x n : Int) (h0 : 0 ≤ x) (n1 : 1 ≤ n) (n2 : n ≤ 64) : Fld x 0 n = x % ((2 ^ n.toNat : Nat) : Int) := by
  obtain ⟨m, rfl⟩ := Int.eq_ofNat_of_zero_le h0
  unfold Fld
  have hw : wid 0 n = n.toNat := by have := wid_yes 0 n (by decide) (by decide) n1; omega
  rw [hw]
  simp [fld]
theorem fld32 (x : Int) (h0 : 0 ≤ x) : Fld x 0 32 = x % 4294967296 := fld0 x 32 h0 (by decide) (by decide)
theorem fld6 (x : Int) (h0 : 0 ≤ x) : Fld x 0 6 = x % 64 := fld0 x 6 h0 (by decide) (by decide)
theorem fld5 (x : Int) (h0 : 0 ≤ x) : Fld x 0 5 = x % 32 := fld0 x 5 h0 (by decide) (by decide)
theorem w_add (a c : Int) (qa : InU a) (qc : InU c) : Sgn (IntKind.u64.wrap (a + c)) 32 = Sgn (IntKind.u64.wrap (Sgn a 32 + Sgn c 32)) 32 := by
  have h1 := sgn_m a qa.1
  have h2 := sgn_m c qc.1
  exact sgn_cong _ _ (in_wrap _).1 (in_wrap _).1 (by rw [wU, wU]; omega)
theorem w_sub (a c : Int) (qa : InU a) (qc : InU c) : Sgn (IntKind.u64.wrap (a - c)) 32 = Sgn (IntKind.u64.wrap (Sgn a 32 - Sgn c 32)) 32 := by
  have h1 := sgn_m a qa.1
  have h2 := sgn_m c qc.1
  exact sgn_cong _ _ (in_wrap _).1 (in_wrap _).1 (by rw [wU, wU]; omega)
theorem mod_mod (x : Int) : x % 18446744073709551616 % 4294967296 = x % 4294967296 := by omega
theorem w_mul (a c : Int) (qa : InU a) (qc : InU c) : Sgn (IntKind.u64.wrap (a * c)) 32 = Sgn (IntKind.u64.wrap (Sgn a 32 * Sgn c 32)) 32 := by
  have h1 := sgn_m a qa.1
  have h2 := sgn_m c qc.1
  refine sgn_cong _ _ (in_wrap _).1 (in_wrap _).1 ?_
  rw [wU, wU, mod_mod, mod_mod, Int.mul_emod (Sgn a 32), h1, h2, ← Int.mul_emod]
theorem w_shl (a c : Int) (qa : InU a) (qc : InU c) : Sgn (IntKind.u64.wrap (a * 2 ^ (c % 32).toNat)) 32 = Sgn (IntKind.u64.wrap (Fld a 0 32 * 2 ^ (Fld c 0 32 % 32).toNat)) 32 := by
  have e : Fld c 0 32 % 32 = c % 32 := by rw [fld32 c qc.1]; omega
  refine sgn_cong _ _ (in_wrap _).1 (in_wrap _).1 ?_
  rw [wU, wU, mod_mod, mod_mod, e, fld32 a qa.1, Int.mul_emod (a % 4294967296), Int.emod_emod_of_dvd _ (Int.dvd_refl _), ← Int.mul_emod]
theorem w_shr (a c : Int) (qa : InU a) (qc : InU c) : Sgn (Fld a 0 32 / 2 ^ (c % 32).toNat) 32 = Sgn (Fld a 0 32 / 2 ^ (Fld c 0 32 % 32).toNat) 32 := by
  have e : Fld c 0 32 % 32 = c % 32 := by rw [fld32 c qc.1]; omega
  rw [e]
theorem w_sar (a c : Int) (qa : InU a) (qc : InU c) : Sgn (IntKind.u64.wrap (IntKind.i64.wrap (Sgn a 32) / 2 ^ (c % 32).toNat)) 32 = Sgn (IntKind.u64.wrap (IntKind.i64.wrap (Sgn a 32) / 2 ^ (Sgn c 32 % 32).toNat)) 32 := by
  have e : Sgn c 32 % 32 = c % 32 := by have := sgn_m c qc.1; omega
  rw [e]
/-- A bit put on top. -/
theorem plc_top (y t : Int) (y0 : 0 ≤ y) (y1 : y < 9223372036854775808) (t0 : 0 ≤ t) (t1 : t ≤ 1) : Plc y 63 1 t = y + 9223372036854775808 * t := by
  obtain ⟨n, rfl⟩ := Int.eq_ofNat_of_zero_le y0
  obtain ⟨m, rfl⟩ := Int.eq_ofNat_of_zero_le t0
  unfold Plc
  have hw : wid 63 1 = 1 := by decide
  rw [hw]
  simp only [plc, Int.toNat_natCast, show ((63 : Int).toNat) = 63 from rfl, show (2 : Nat) ^ 63 = 9223372036854775808 by decide, show (2 : Nat) ^ (63 + 1) = 18446744073709551616 by decide, Nat.pow_one]
  omega
theorem step_r0 (x : Int) (k : Nat) (h : InU x) : Plc (x / 2 ^ k / 2) 63 1 0 = x / 2 ^ (k + 1) := by
  have h1 : x / 2 ^ k / 2 = x / 2 ^ (k + 1) := by rw [Int.pow_succ, Int.ediv_ediv_of_nonneg (Int.pow_nonneg (by decide))]
  have p : (0 : Int) < 2 ^ k := Int.pow_pos (by decide)
  have a0 : 0 ≤ x / 2 ^ k := Int.ediv_nonneg h.1 (Int.le_of_lt p)
  have a1 : x / 2 ^ k ≤ x := Int.ediv_le_self _ h.1
  have := h.2
  rw [plc_top _ _ (by omega) (by omega) (by decide) (by decide), h1]; omega
/-- A shift to the right, the sign coming in. -/
def Asr (x : Int) (k : Nat) : Int := IntKind.u64.wrap (IntKind.i64.wrap x / 2 ^ k)
theorem asr_in (x : Int) (k : Nat) : InU (Asr x k) := in_wrap _
theorem asr_zero (x : Int) (h : InU x) : Asr x 0 = x := by
  have := h.1; have := h.2
  unfold Asr; rw [wI x h, wU]; simp; split <;> omega
theorem s64_range (x : Int) (h : InU x) : -9223372036854775808 ≤ IntKind.i64.wrap x ∧ IntKind.i64.wrap x < 9223372036854775808 := by
  have := h.1; have := h.2
  rw [wI x h]; split <;> omega
theorem s64_wrap (z : Int) (h0 : -9223372036854775808 ≤ z) (h1 : z < 9223372036854775808) : IntKind.i64.wrap (IntKind.u64.wrap z) = z := by
  rw [wI _ (in_wrap z), wU]; split <;> omega
theorem div_range (z : Int) (k : Nat) (h0 : -9223372036854775808 ≤ z) (h1 : z < 9223372036854775808) : -9223372036854775808 ≤ z / 2 ^ k ∧ z / 2 ^ k < 9223372036854775808 ∧ (z < 0 ↔ z / 2 ^ k < 0) := by
  have p : (0 : Int) < 2 ^ k := Int.pow_pos (by decide)
  by_cases hz : 0 ≤ z
  · have a0 : 0 ≤ z / 2 ^ k := Int.ediv_nonneg hz (Int.le_of_lt p)
    have a1 : z / 2 ^ k ≤ z := Int.ediv_le_self _ hz
    omega
  · have a0 : z / 2 ^ k < 0 := Int.ediv_neg_of_neg_of_pos (by omega) p
    have a1 : z ≤ z / 2 ^ k := by
      refine Int.le_ediv_of_mul_le p ?_
      have : z * 2 ^ k ≤ z * 1 := Int.mul_le_mul_of_nonpos_left (by omega) (by omega)
      omega
    omega
theorem s64_asr (x : Int) (k : Nat) (h : InU x) : IntKind.i64.wrap (Asr x k) = IntKind.i64.wrap x / 2 ^ k := by
  obtain ⟨a, b⟩ := s64_range x h
  obtain ⟨c, d, _⟩ := div_range _ k a b
  exact s64_wrap _ c d
theorem bt_top (x : Int) (h : InU x) : Bt x 63 = if x < 9223372036854775808 then 0 else 1 := by
  rw [bt63 x h.1 h.2]
  cases hn : NegB x
  · have h' := (neg_iff' x h.1 h.2).1 hn
    simp [h']
  · have h' := (neg_iff x h.1 h.2).1 hn
    have h2 : ¬ x < 9223372036854775808 := by omega
    simp [h2]
theorem bt_asr (x : Int) (k : Nat) (h : InU x) : Bt (Asr x k) 63 = Bt x 63 := by
  obtain ⟨a, b⟩ := s64_range x h
  obtain ⟨c, d, e⟩ := div_range _ k a b
  have h1 := s64_asr x k h
  have h2 := asr_in x k
  rw [bt_top _ h2, bt_top _ h]
  rw [wI _ h2] at h1
  rw [wI _ h] at h1 e
  have := h.1; have := h.2; have := h2.1; have := h2.2
  split at h1 <;> split at h1 <;> split at e <;> simp_all <;> omega
theorem step_rs (x : Int) (k : Nat) (h : InU x) : Plc (Asr x k / 2) 63 1 (Bt x 63) = Asr x (k + 1) := by
  have q := asr_in x k
  have hb := bt_asr x k h
  have h1 : Asr x (k + 1) = IntKind.u64.wrap (IntKind.i64.wrap (Asr x k) / 2) := by
    rw [s64_asr x k h]
    unfold Asr
    rw [Int.pow_succ, Int.ediv_ediv_of_nonneg (Int.pow_nonneg (by decide))]
  rw [h1, ← hb]
  generalize Asr x k = y at *
  have := q.1; have := q.2
  rw [bt_top y q, wI y q, wU]
  split
  · rw [plc_top _ _ (by omega) (by omega) (by decide) (by decide)]; omega
  · rw [plc_top _ _ (by omega) (by omega) (by decide) (by decide)]; omega
def Shl (x : Int) (k : Nat) : Int := IntKind.u64.wrap (x * 2 ^ k)
theorem shl_zero (x : Int) (h : InU x) : Shl x 0 = x := by have := h.1; have := h.2; unfold Shl; rw [wU]; simp; omega
theorem step_shl (x : Int) (k : Nat) : IntKind.u64.wrap (Shl x k + Shl x k) = Shl x (k + 1) := by
  unfold Shl; rw [Int.pow_succ, ← Int.mul_assoc, wU, wU, wU]; omega
theorem lts_neg (a b : Int) (qa : InU a) (qb : InU b) : LtS a b = if NegB a != NegB b then NegB a else decide (a < b) := by
  have ha := neg_iff a qa.1 qa.2
  have hb := neg_iff b qb.1 qb.2
  have := qa.1; have := qa.2; have := qb.1; have := qb.2
  unfold LtS S64 wrap64
  cases h1 : NegB a <;> cases h2 : NegB b <;> rw [h1] at ha <;> rw [h2] at hb <;> simp at ha hb <;> rw [Bool.eq_iff_iff] <;> simp <;> omega
end Go.Proofs.YtnifoghebnjonaaDoor
