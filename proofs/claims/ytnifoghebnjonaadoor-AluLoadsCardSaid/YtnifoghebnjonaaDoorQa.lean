/-
  Proved here: Plain facts on quotients of words with and without a sign. Conditions: the ranges that each theorem names.
-/
import Derived.Test.YtnifoghebnjonaaDoorAr
namespace Go.Proofs.YtnifoghebnjonaaDoor
open Go.RowKit
set_option linter.unusedVariables false

/-! ### Quotients, plainly. -/
def NegB (x : Int) : Bool := x / 9223372036854775808 == 1
theorem neg_iff (x : Int) (h0 : 0 ≤ x) (h1 : x < 18446744073709551616) : NegB x = true ↔ 9223372036854775808 ≤ x := by
  unfold NegB; rw [beq_iff_eq]; omega
theorem neg_iff' (x : Int) (h0 : 0 ≤ x) (h1 : x < 18446744073709551616) : NegB x = false ↔ x < 9223372036854775808 := by
  unfold NegB; rw [beq_eq_false_iff_ne]; omega
def Mag (x : Int) : Int := if NegB x = true then IntKind.u64.wrap (-x) else x
theorem mag_neg (x : Int) (h0 : 0 ≤ x) (h1 : x < 18446744073709551616) (hn : NegB x = true) : Mag x = 18446744073709551616 - x := by
  unfold Mag; rw [if_pos hn, IntKind.wrap_u64]; have := (neg_iff x h0 h1).1 hn; omega
theorem mag_pos (x : Int) (hn : NegB x = false) : Mag x = x := by unfold Mag; rw [hn]; rfl
theorem mag_negw (x : Int) (hn : NegB x = true) : Mag x = IntKind.u64.wrap (-x) := if_pos hn
theorem mag_range (x : Int) (h0 : 0 ≤ x) (h1 : x < 18446744073709551616) : 0 ≤ Mag x ∧ Mag x ≤ 9223372036854775808 := by
  cases hn : NegB x
  · rw [mag_pos x hn]; have := (neg_iff' x h0 h1).1 hn; omega
  · rw [mag_neg x h0 h1 hn]; have := (neg_iff x h0 h1).1 hn; omega
theorem mag_one (x : Int) (h0 : 1 ≤ x) (h1 : x < 18446744073709551616) : 1 ≤ Mag x := by
  cases hn : NegB x
  · rw [mag_pos x hn]; omega
  · rw [mag_neg x (by omega) h1 hn]; omega
def All64 : Int := 18446744073709551615
def Quo (a b : Int) (s : Bool) : Int := if b = 0 then All64 else if s = false then a / b else if NegB a = NegB b then Mag a / Mag b else IntKind.u64.wrap (-(Mag a / Mag b))
theorem quo_0 (a : Int) (s : Bool) : Quo a 0 s = All64 := if_pos rfl
theorem quo_u (a b : Int) (hb : 1 ≤ b) : Quo a b false = a / b := by unfold Quo; rw [if_neg (by omega), if_pos rfl]
theorem quo_same (a b : Int) (hb : 1 ≤ b) (h : NegB a = NegB b) : Quo a b true = Mag a / Mag b := by unfold Quo; rw [if_neg (by omega), if_neg (by decide), if_pos h]
theorem quo_other (a b : Int) (hb : 1 ≤ b) (h : NegB a ≠ NegB b) : Quo a b true = IntKind.u64.wrap (-(Mag a / Mag b)) := by unfold Quo; rw [if_neg (by omega), if_neg (by decide), if_neg h]
theorem wrap_word (x : Int) : 0 ≤ IntKind.u64.wrap x ∧ IntKind.u64.wrap x < 18446744073709551616 := by rw [IntKind.wrap_u64]; omega
theorem quo_word (a b : Int) (s : Bool) (h0 : 0 ≤ a) (h1 : a < 18446744073709551616) (g0 : 0 ≤ b) (g1 : b < 18446744073709551616) : 0 ≤ Quo a b s ∧ Quo a b s < 18446744073709551616 := by
  unfold Quo
  by_cases hb : b = 0
  · rw [if_pos hb]; decide
  · rw [if_neg hb]
    cases s
    · rw [if_pos rfl]
      have := Int.ediv_nonneg h0 g0; have := Int.ediv_le_self b h0; omega
    · rw [if_neg (by decide)]
      split
      · obtain ⟨a0, a1⟩ := mag_range a h0 h1
        have b0 := mag_one b (by omega) g1
        have := Int.ediv_nonneg a0 (by omega : 0 ≤ Mag b); have := Int.ediv_le_self (Mag b) a0; omega
      · exact wrap_word _
def Rem (a b : Int) (s : Bool) : Int := IntKind.u64.wrap (a - IntKind.u64.wrap (Quo a b s * b))
theorem rem_0 (a : Int) (s : Bool) (h0 : 0 ≤ a) (h1 : a < 18446744073709551616) : Rem a 0 s = a := by
  unfold Rem; rw [Int.mul_zero]; show IntKind.u64.wrap (a - 0) = a; rw [Int.sub_zero]; exact IntWalk.u64_in _ (by omega)
/-- The bit told by the reference is the sign. -/
theorem bt63 (x : Int) (h0 : 0 ≤ x) (h1 : x < 18446744073709551616) : Bt x 63 = if NegB x = true then 1 else 0 := by
  unfold Bt
  have e : (2 : Nat) ^ (63 : Int).toNat = 9223372036854775808 := by decide
  rw [e]
  cases hn : NegB x
  · have := (neg_iff' x h0 h1).1 hn; rw [if_neg (by decide)]; omega
  · have := (neg_iff x h0 h1).1 hn; rw [if_pos rfl]; omega
theorem bt63_pos (x : Int) (h0 : 0 ≤ x) (h1 : x < 18446744073709551616) (hn : NegB x = false) : Bt x 63 = 0 := by rw [bt63 x h0 h1, hn]; rfl
theorem bt63_neg (x : Int) (h0 : 0 ≤ x) (h1 : x < 18446744073709551616) (hn : NegB x = true) : Bt x 63 = 1 := by rw [bt63 x h0 h1, hn]; rfl
end Go.Proofs.YtnifoghebnjonaaDoor
