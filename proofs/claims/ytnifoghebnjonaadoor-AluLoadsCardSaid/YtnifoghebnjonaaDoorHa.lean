/-
  Proved here: Plain facts on the higher half of a product of two words. Conditions: the ranges that each theorem names.
-/
import Derived.Test.YtnifoghebnjonaaDoorQa
namespace Go.Proofs.YtnifoghebnjonaaDoor
open Go.RowKit
set_option linter.unusedVariables false

/-! ### Products, plainly. -/
def Lo (a : Int) : Int := a % 4294967296
def Hi (a : Int) : Int := a / 4294967296
theorem and_lo (a : Int) (h0 : 0 ≤ a) (h1 : a < 18446744073709551616) : bits .and .u64 a 4294967295 = Lo a := by
  obtain ⟨A, rfl⟩ := Int.eq_ofNat_of_zero_le h0
  rw [show (4294967295 : Int) = ((4294967295 : Nat) : Int) from rfl, u64_and_nat _ _ (by omega) (by decide), show (4294967295 : Nat) = 2 ^ 32 - 1 from rfl, Nat.and_two_pow_sub_one_eq_mod]
  rfl
theorem lo_range (a : Int) : 0 ≤ Lo a ∧ Lo a ≤ 4294967295 := by unfold Lo; omega
theorem hi_range (a : Int) (h0 : 0 ≤ a) (h1 : a < 18446744073709551616) : 0 ≤ Hi a ∧ Hi a ≤ 4294967295 := by unfold Hi; omega
theorem mul_range (x y : Int) (x0 : 0 ≤ x) (x1 : x ≤ 4294967295) (y0 : 0 ≤ y) (y1 : y ≤ 4294967295) : 0 ≤ x * y ∧ x * y ≤ 18446744065119617025 := by
  have h := Int.mul_le_mul x1 y1 y0 (by decide : (0 : Int) ≤ 4294967295)
  have := Int.mul_nonneg x0 y0
  omega
theorem wrap_mul (x y : Int) (x0 : 0 ≤ x) (x1 : x ≤ 4294967295) (y0 : 0 ≤ y) (y1 : y ≤ 4294967295) : IntKind.u64.wrap (x * y) = x * y := by
  have := mul_range x y x0 x1 y0 y1
  exact IntWalk.u64_in _ (by omega)
def P0 (a b : Int) : Int := Lo a * Lo b
def P1 (a b : Int) : Int := Lo a * Hi b
def P2 (a b : Int) : Int := Hi a * Lo b
def PH3 (a b : Int) : Int := Hi a * Hi b
theorem p_ranges (a b : Int) (h0 : 0 ≤ a) (h1 : a < 18446744073709551616) (g0 : 0 ≤ b) (g1 : b < 18446744073709551616) :
    (0 ≤ P0 a b ∧ P0 a b ≤ 18446744065119617025) ∧ (0 ≤ P1 a b ∧ P1 a b ≤ 18446744065119617025) ∧ (0 ≤ P2 a b ∧ P2 a b ≤ 18446744065119617025) ∧ (0 ≤ PH3 a b ∧ PH3 a b ≤ 18446744065119617025) := by
  obtain ⟨a0, a1⟩ := lo_range a; obtain ⟨a2, a3⟩ := hi_range a h0 h1
  obtain ⟨b0, b1⟩ := lo_range b; obtain ⟨b2, b3⟩ := hi_range b g0 g1
  exact ⟨mul_range _ _ a0 a1 b0 b1, mul_range _ _ a0 a1 b2 b3, mul_range _ _ a2 a3 b0 b1, mul_range _ _ a2 a3 b2 b3⟩
def Hu (a b : Int) : Int := a * b / 18446744073709551616
theorem mul_parts (a b : Int) : a * b = PH3 a b * 18446744073709551616 + (P1 a b + P2 a b) * 4294967296 + P0 a b := by
  unfold P0 P1 P2 PH3
  have ha : a = Hi a * 4294967296 + Lo a := by unfold Hi Lo; omega
  have hb : b = Hi b * 4294967296 + Lo b := by unfold Hi Lo; omega
  generalize Hi a = ah at *
  generalize Lo a = al at *
  generalize Hi b = bh at *
  generalize Lo b = bl at *
  subst ha hb
  simp only [Int.add_mul, Int.mul_add]
  have c1 : ah * 4294967296 * (bh * 4294967296) = ah * bh * 18446744073709551616 := by
    rw [Int.mul_assoc, Int.mul_comm 4294967296 (bh * 4294967296), Int.mul_assoc bh, ← Int.mul_assoc]
    rfl
  have c2 : ah * 4294967296 * bl = ah * bl * 4294967296 := by rw [Int.mul_assoc, Int.mul_comm 4294967296 bl, Int.mul_assoc]
  have c3 : al * (bh * 4294967296) = al * bh * 4294967296 := by rw [Int.mul_assoc]
  rw [c1, c2, c3]; omega
theorem hu_parts (a b : Int) (h0 : 0 ≤ a) (h1 : a < 18446744073709551616) (g0 : 0 ≤ b) (g1 : b < 18446744073709551616) :
    Hu a b = PH3 a b + P1 a b / 4294967296 + P2 a b / 4294967296 + (P0 a b / 4294967296 + P1 a b % 4294967296 + P2 a b % 4294967296) / 4294967296 := by
  obtain ⟨⟨_, _⟩, ⟨_, _⟩, ⟨_, _⟩, ⟨_, _⟩⟩ := p_ranges a b h0 h1 g0 g1
  unfold Hu; rw [mul_parts a b]
  generalize P0 a b = p0 at *
  generalize P1 a b = p1 at *
  generalize P2 a b = p2 at *
  generalize PH3 a b = p3 at *
  omega
theorem hu_range (a b : Int) (h0 : 0 ≤ a) (h1 : a < 18446744073709551616) (g0 : 0 ≤ b) (g1 : b < 18446744073709551616) : 0 ≤ Hu a b ∧ Hu a b < 18446744073709551616 := by
  unfold Hu
  have h := Int.mul_le_mul (show a ≤ 18446744073709551615 by omega) (show b ≤ 18446744073709551615 by omega) g0 (by decide : (0 : Int) ≤ 18446744073709551615)
  have := Int.mul_nonneg h0 g0
  omega
theorem hu_spell (a b : Int) (h0 : 0 ≤ a) (h1 : a < 18446744073709551616) (g0 : 0 ≤ b) (g1 : b < 18446744073709551616) :
    IntKind.u64.wrap (IntKind.u64.wrap (IntKind.u64.wrap (PH3 a b + P1 a b / 4294967296) + P2 a b / 4294967296) + IntKind.u64.wrap (IntKind.u64.wrap (P0 a b / 4294967296 + bits BinOp.and IntKind.u64 (P1 a b) 4294967295) + bits BinOp.and IntKind.u64 (P2 a b) 4294967295) / 4294967296) = Hu a b := by
  obtain ⟨⟨_, _⟩, ⟨_, _⟩, ⟨_, _⟩, ⟨_, _⟩⟩ := p_ranges a b h0 h1 g0 g1
  obtain ⟨r0, r1⟩ := hu_range a b h0 h1 g0 g1
  have e := hu_parts a b h0 h1 g0 g1
  rw [and_lo (P1 a b) (by omega) (by omega), and_lo (P2 a b) (by omega) (by omega)]
  simp only [IntKind.wrap_u64]
  unfold Lo
  generalize Hu a b = H at *
  generalize P0 a b = p0 at *
  generalize P1 a b = p1 at *
  generalize P2 a b = p2 at *
  generalize PH3 a b = p3 at *
  omega

/-! The reference's way: bit by bit. NN k is a times what stands above the k lowest bits of b. -/
def NN (a b : Int) (k : Nat) : Int := a * ((b.toNat / 2 ^ k : Nat) : Int)
def HH (a b : Int) (k : Nat) : Int := NN a b k / 18446744073709551616
def LL (a b : Int) (k : Nat) : Int := NN a b k % 18446744073709551616
theorem nn_step (a b : Int) (k : Nat) : NN a b k = 2 * NN a b (k + 1) + Bt b (k : Int) * a := by
  unfold NN Bt
  rw [Int.toNat_natCast]
  have e : b.toNat / 2 ^ k = 2 * (b.toNat / 2 ^ (k + 1)) + b.toNat / 2 ^ k % 2 := by
    rw [Nat.pow_succ, ← Nat.div_div_eq_div_mul]; omega
  generalize b.toNat / 2 ^ (k + 1) = q at *
  generalize b.toNat / 2 ^ k % 2 = r at *
  rw [e, Int.natCast_add, Int.mul_add, Int.mul_comm a (r : Int), Int.natCast_mul]
  rw [← Int.mul_assoc, Int.mul_comm a, Int.mul_assoc]; rfl
theorem nn_range (a b : Int) (k : Nat) (h0 : 0 ≤ a) (h1 : a < 18446744073709551616) (g0 : 0 ≤ b) (g1 : b < 18446744073709551616) : 0 ≤ NN a b k ∧ NN a b k ≤ 340282366920938463426481119284349108225 := by
  unfold NN
  have hq : ((b.toNat / 2 ^ k : Nat) : Int) ≤ 18446744073709551615 := by have := Nat.div_le_self b.toNat (2 ^ k); omega
  have hq0 : (0 : Int) ≤ ((b.toNat / 2 ^ k : Nat) : Int) := Int.natCast_nonneg _
  have h := Int.mul_le_mul (show a ≤ 18446744073709551615 by omega) hq hq0 (by decide : (0 : Int) ≤ 18446744073709551615)
  have := Int.mul_nonneg h0 hq0
  omega
theorem nn_top (a b : Int) (g0 : 0 ≤ b) (g1 : b < 18446744073709551616) : NN a b 64 = 0 := by
  unfold NN
  have : b.toNat / 2 ^ 64 = 0 := Nat.div_eq_of_lt (by omega)
  rw [this]; simp
theorem nn_zero (a b : Int) (g0 : 0 ≤ b) : NN a b 0 = a * b := by
  unfold NN; rw [Nat.pow_zero, Nat.div_one, show ((b.toNat : Nat) : Int) = b by omega]
theorem hh_top (a b : Int) (g0 : 0 ≤ b) (g1 : b < 18446744073709551616) : HH a b 64 = 0 := by unfold HH; rw [nn_top a b g0 g1]; rfl
theorem ll_top (a b : Int) (g0 : 0 ≤ b) (g1 : b < 18446744073709551616) : LL a b 64 = 0 := by unfold LL; rw [nn_top a b g0 g1]; rfl
theorem hh_end (a b : Int) (g0 : 0 ≤ b) : HH a b 0 = Hu a b := by unfold HH Hu; rw [nn_zero a b g0]
theorem ll_word (a b : Int) (k : Nat) : 0 ≤ LL a b k ∧ LL a b k < 18446744073709551616 := by unfold LL; omega
theorem bt_63 (x : Int) (h0 : 0 ≤ x) (h1 : x < 18446744073709551616) : Bt x 63 = x / 9223372036854775808 := by
  unfold Bt
  have e : (2 : Nat) ^ (63 : Int).toNat = 9223372036854775808 := by decide
  rw [e]; omega
theorem up_zero (a b : Int) (k : Nat) (h0 : 0 ≤ a) (h1 : a < 18446744073709551616) (g0 : 0 ≤ b) (g1 : b < 18446744073709551616) (hb : Bt b (k : Int) = 0) : IntKind.u64.wrap (IntKind.u64.wrap (2 * HH a b (k + 1)) + Bt (LL a b (k + 1)) 63) = HH a b k ∧ IntKind.u64.wrap (2 * LL a b (k + 1)) = LL a b k := by
  obtain ⟨l0, l1⟩ := ll_word a b (k + 1)
  rw [bt_63 _ l0 l1]
  have e := nn_step a b k
  rw [hb] at e
  obtain ⟨n0, n1⟩ := nn_range a b k h0 h1 g0 g1
  clear l0 l1
  unfold HH LL
  simp only [IntKind.wrap_u64]
  generalize NN a b (k + 1) = N at *
  generalize NN a b k = N' at *
  omega
theorem up_one (a b : Int) (k : Nat) (h0 : 0 ≤ a) (h1 : a < 18446744073709551616) (g0 : 0 ≤ b) (g1 : b < 18446744073709551616) (hb : Bt b (k : Int) = 1) (hc : ¬ IntKind.u64.wrap (IntKind.u64.wrap (2 * LL a b (k + 1)) + a) < IntKind.u64.wrap (2 * LL a b (k + 1))) :
    IntKind.u64.wrap (IntKind.u64.wrap (2 * HH a b (k + 1)) + Bt (LL a b (k + 1)) 63) = HH a b k ∧ IntKind.u64.wrap (IntKind.u64.wrap (2 * LL a b (k + 1)) + a) = LL a b k := by
  obtain ⟨l0, l1⟩ := ll_word a b (k + 1)
  rw [bt_63 _ l0 l1]
  have e := nn_step a b k
  rw [hb] at e
  obtain ⟨n0, n1⟩ := nn_range a b k h0 h1 g0 g1
  clear l0 l1
  revert hc
  unfold HH LL
  simp only [IntKind.wrap_u64]
  generalize NN a b (k + 1) = N at *
  generalize NN a b k = N' at *
  intro hc
  omega
theorem up_carry (a b : Int) (k : Nat) (h0 : 0 ≤ a) (h1 : a < 18446744073709551616) (g0 : 0 ≤ b) (g1 : b < 18446744073709551616) (hb : Bt b (k : Int) = 1) (hc : IntKind.u64.wrap (IntKind.u64.wrap (2 * LL a b (k + 1)) + a) < IntKind.u64.wrap (2 * LL a b (k + 1))) :
    IntKind.u64.wrap (IntKind.u64.wrap (IntKind.u64.wrap (2 * HH a b (k + 1)) + Bt (LL a b (k + 1)) 63) + 1) = HH a b k ∧ IntKind.u64.wrap (IntKind.u64.wrap (2 * LL a b (k + 1)) + a) = LL a b k := by
  obtain ⟨l0, l1⟩ := ll_word a b (k + 1)
  rw [bt_63 _ l0 l1]
  have e := nn_step a b k
  rw [hb] at e
  obtain ⟨n0, n1⟩ := nn_range a b k h0 h1 g0 g1
  clear l0 l1
  revert hc
  unfold HH LL
  simp only [IntKind.wrap_u64]
  generalize NN a b (k + 1) = N at *
  generalize NN a b k = N' at *
  intro hc
  omega
/-- The higher half, with signs. -/
def Less (t : Bool) (h x : Int) : Int := if t = true then IntKind.u64.wrap (h - x) else h
def Hgh (a b : Int) (sa sb : Bool) : Int := Less (sb && NegB b) (Less (sa && NegB a) (Hu a b) b) a
theorem less_yes (h x : Int) : Less true h x = IntKind.u64.wrap (h - x) := rfl
theorem less_no (h x : Int) : Less false h x = h := rfl
theorem less_word (t : Bool) (h x : Int) (h0 : 0 ≤ h ∧ h < 18446744073709551616) : 0 ≤ Less t h x ∧ Less t h x < 18446744073709551616 := by
  cases t
  · exact h0
  · exact wrap_word _
theorem hgh_word (a b : Int) (sa sb : Bool) (h0 : 0 ≤ a) (h1 : a < 18446744073709551616) (g0 : 0 ≤ b) (g1 : b < 18446744073709551616) : 0 ≤ Hgh a b sa sb ∧ Hgh a b sa sb < 18446744073709551616 :=
  less_word _ _ _ (less_word _ _ _ (hu_range a b h0 h1 g0 g1))
end Go.Proofs.YtnifoghebnjonaaDoor
