/-
  Proved here: The spellings of the walk for 64-bit words turned into plain numbers. Conditions: the ranges that each theorem names.
-/
import Derived.WalkKit
import Derived.Laws.BitsAllLaws
import Derived.Test.YtmoggaecnjcjfaaPl
namespace Go.Proofs.Ytmoggaecnjcjfaa
open Go.RowKit
set_option linter.unusedVariables false

/-! ### The walk's own spellings of bits, turned into plain numbers. -/

theorem wrap_nat (n : Nat) (h : n < 18446744073709551616) : IntKind.u64.wrap (n : Int) = n := IntWalk.u64_in _ (by omega)
theorem wrap_of (e : Int) (n : Nat) (he : e = n) (h : n < 18446744073709551616) : IntKind.u64.wrap e = n := by rw [he]; exact wrap_nat n h
theorem div_pow_nat (x n : Nat) : (x : Int) / 2 ^ n = ((x / 2 ^ n : Nat) : Int) := by simp
theorem pow64 {k : Nat} (h : k < 64) : 2 ^ k < 18446744073709551616 := Nat.lt_of_lt_of_le (Nat.pow_lt_pow_right (by decide) h) (by decide)
theorem bit_pow {b k : Nat} (hb : b < 2) (h : k < 64) : b * 2 ^ k < 18446744073709551616 :=
  Nat.lt_of_le_of_lt (Nat.mul_le_mul_right _ (by omega : b ≤ 1)) (by rw [Nat.one_mul]; exact pow64 h)

/-- One bit, shifted down and cut out. -/
theorem bit_at (x : Int) (n : Nat) (h0 : 0 ≤ x) (h1 : x < 18446744073709551616) : bits .and .u64 (x / 2 ^ n) 1 = ((x.toNat / 2 ^ n % 2 : Nat) : Int) := by
  obtain ⟨X, rfl⟩ := Int.eq_ofNat_of_zero_le h0
  have hX : X / 2 ^ n < 18446744073709551616 := Nat.lt_of_le_of_lt (Nat.div_le_self _ _) (by omega)
  rw [div_pow_nat, show (1 : Int) = ((1 : Nat) : Int) from rfl, u64_and_nat _ _ hX (by decide), Nat.and_one_is_mod, Int.toNat_natCast]

theorem bit_up (b k : Nat) (hb : b < 2) (h : k < 64) : IntKind.u64.wrap ((b : Int) * 2 ^ k) = ((b * 2 ^ k : Nat) : Int) :=
  wrap_of _ _ (by simp) (bit_pow hb h)

theorem fld_lt64 (x low w : Nat) (h : x < 18446744073709551616) : fld x low w < 18446744073709551616 := Nat.lt_of_le_of_lt (fld_le _ _ _) h

theorem field_step (x low : Int) (k : Nat) (h0 : 0 ≤ x) (h1 : x < 18446744073709551616) (b1 : 0 ≤ low) (b3 : low + k ≤ 63) :
    bits .or .u64 ((fld x.toNat low.toNat k : Nat) : Int) (IntKind.u64.wrap (bits .and .u64 (x / 2 ^ (low + (k : Int)).toNat) 1 * 2 ^ k)) = ((fld x.toNat low.toNat (k + 1) : Nat) : Int) := by
  rw [bit_at x _ h0 h1, bit_up _ _ (by omega) (by omega), u64_or_nat _ _ (fld_lt64 _ _ _ (by omega)) (bit_pow (by omega) (by omega)),
    or_bit _ _ _ (fld_lt _ _ _), show (low + (k : Int)).toNat = low.toNat + k by omega, fld_succ]

/-- The reference's bit. -/
def Bt (x i : Int) : Int := ((x.toNat / 2 ^ i.toNat % 2 : Nat) : Int)
def Pw (i : Int) : Int := ((2 ^ i.toNat : Nat) : Int)
theorem bt_01 (x i : Int) : 0 ≤ Bt x i ∧ Bt x i ≤ 1 := by unfold Bt; omega
theorem wrap_add (a b : Nat) (h : a + b < 18446744073709551616) : IntKind.u64.wrap ((a : Int) + b) = ((a + b : Nat) : Int) := wrap_of _ _ (by simp) h
theorem btpw (x i j : Int) (h : j.toNat < 64) : IntKind.u64.wrap (Bt x i * Pw j) = ((x.toNat / 2 ^ i.toNat % 2 * 2 ^ j.toNat : Nat) : Int) :=
  wrap_of _ _ (by unfold Bt Pw; simp) (bit_pow (by omega) h)

theorem rfield_step (x low : Int) (k : Nat) (h0 : 0 ≤ x) (h1 : x < 18446744073709551616) (b1 : 0 ≤ low) (b3 : low + k ≤ 63) :
    IntKind.u64.wrap (((fld x.toNat low.toNat k : Nat) : Int) + IntKind.u64.wrap (Bt x (low + (k : Int)) * Pw (k : Int))) = ((fld x.toNat low.toNat (k + 1) : Nat) : Int) := by
  rw [btpw _ _ _ (by omega), Int.toNat_natCast, show (low + (k : Int)).toNat = low.toNat + k by omega, Nat.mul_comm]
  have e := fld_succ x.toNat low.toNat k
  rw [wrap_add, e]
  rw [← e]; exact fld_lt64 _ _ _ (by omega)

theorem rfield_le (x low : Int) (k : Nat) (h0 : 0 ≤ x) (h1 : x < 18446744073709551616) : ((fld x.toNat low.toNat k : Nat) : Int) < 18446744073709551616 := by
  have := fld_lt64 x.toNat low.toNat k (by omega); omega

theorem plc_lt64 (x low w v : Nat) (hx : x < 18446744073709551616) (hw : low + w ≤ 64) : plc x low w v < 18446744073709551616 := plc_lt x low w v 64 hx hw

/-- The code's step of Place: y is the number so far. -/
theorem place_step (x low v : Int) (k : Nat) (h0 : 0 ≤ x) (h1 : x < 18446744073709551616) (v0 : 0 ≤ v) (v1 : v < 18446744073709551616) (b1 : 0 ≤ low) (b3 : low + k ≤ 63) :
    bits .or .u64 (bits .andNot .u64 ((plc x.toNat low.toNat k v.toNat : Nat) : Int) (IntKind.u64.wrap (2 ^ (low + (k : Int)).toNat))) (IntKind.u64.wrap (bits .and .u64 (v / 2 ^ k) 1 * 2 ^ (low + (k : Int)).toNat))
      = ((plc x.toNat low.toNat (k + 1) v.toNat : Nat) : Int) := by
  have e : (low + (k : Int)).toNat = low.toNat + k := by omega
  have hp : low.toNat + k < 64 := by omega
  have hy := plc_lt64 x.toNat low.toNat k v.toNat (by omega) (by omega)
  rw [e, bit_at v _ v0 v1, bit_up _ _ (by omega) hp, wrap_of (2 ^ (low.toNat + k)) (2 ^ (low.toNat + k)) (by simp) (pow64 hp), u64_andNot_nat _ _ hy (pow64 hp)]
  have hpp := pow64 hp
  have hs := setb_bits (plc x.toNat low.toNat k v.toNat) (low.toNat + k) (v.toNat / 2 ^ k % 2) hy hp (by omega)
  have e2 : 18446744073709551615 - 2 ^ (low.toNat + k) = 2 ^ 64 - (2 ^ (low.toNat + k) + 1) := by omega
  rw [e2, u64_or_nat _ _ (Nat.lt_of_le_of_lt Nat.and_le_left hy) (bit_pow (by omega) hp), hs, plc_succ]

theorem rplace_step (x low v : Int) (k : Nat) (h0 : 0 ≤ x) (h1 : x < 18446744073709551616) (v0 : 0 ≤ v) (v1 : v < 18446744073709551616) (b1 : 0 ≤ low) (b3 : low + k ≤ 63) :
    IntKind.u64.wrap (IntKind.u64.wrap (((plc x.toNat low.toNat k v.toNat : Nat) : Int) - IntKind.u64.wrap (Bt ((plc x.toNat low.toNat k v.toNat : Nat) : Int) (low + (k : Int)) * Pw (low + (k : Int)))) + IntKind.u64.wrap (Bt v (k : Int) * Pw (low + (k : Int))))
      = ((plc x.toNat low.toNat (k + 1) v.toNat : Nat) : Int) := by
  have e : (low + (k : Int)).toNat = low.toNat + k := by omega
  have hp : low.toNat + k < 64 := by omega
  have hy := plc_lt64 x.toNat low.toNat k v.toNat (by omega) (by omega)
  have hz := plc_lt64 x.toNat low.toNat (k + 1) v.toNat (by omega) (by omega)
  rw [btpw _ _ _ (by omega), btpw _ _ _ (by omega), Int.toNat_natCast, Int.toNat_natCast, e]
  have hs := setb_arith (plc x.toNat low.toNat k v.toNat) (low.toNat + k) (v.toNat / 2 ^ k % 2)
  have hb := bit_le (plc x.toNat low.toNat k v.toNat) (low.toNat + k)
  rw [plc_succ] at hz ⊢
  generalize setb (plc x.toNat low.toNat k v.toNat) (low.toNat + k) (v.toNat / 2 ^ k % 2) = S at *
  generalize v.toNat / 2 ^ k % 2 * 2 ^ (low.toNat + k) = B at *
  generalize plc x.toNat low.toNat k v.toNat / 2 ^ (low.toNat + k) % 2 * 2 ^ (low.toNat + k) = A at *
  generalize plc x.toNat low.toNat k v.toNat = Y at *
  rw [wrap_of ((Y : Int) - A) (Y - A) (by omega) (by omega), wrap_add _ _ (by omega), hs]
theorem rplace_ty (x low v : Int) (k : Nat) (h0 : 0 ≤ x) (h1 : x < 18446744073709551616) (b1 : 0 ≤ low) (b3 : low + k ≤ 64) : ((plc x.toNat low.toNat k v.toNat : Nat) : Int) < 18446744073709551616 := by
  have hy := plc_lt64 x.toNat low.toNat k v.toNat (by omega) (by omega)
  omega
end Go.Proofs.Ytmoggaecnjcjfaa
