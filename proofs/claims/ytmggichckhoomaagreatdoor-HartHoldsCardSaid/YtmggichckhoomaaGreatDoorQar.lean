/-
  Proved here: Plain facts on quotients of words with and without a sign. Conditions: the ranges that each theorem names. ¦ What Quo and Rem of the code and of the reference answer. Conditions: the arguments are words. ¦ Plain facts on the higher half of a product of two words. Conditions: the ranges that each theorem names. ¦ What High of the code and of the reference answers. Conditions: the arguments are words.
-/
import Derived.Test.YtmggichckhoomaaGreatDoorQaa
import Derived.Test.YtmggichckhoomaaGreatDoorQab
section
namespace Go.Proofs.YtmggichckhoomaaGreatDoor
open Go.RowKit
set_option linter.unusedVariables false

/-! ### Quotients, plainly. -/
def NegB (x : Int) : Bool := x / 9223372036854775808 == 1
theorem neg_iff (x : Int) (h0 : 0 ≤ x) (h1 : x < 18446744073709551616) : NegB x = true ↔ 9223372036854775808 ≤ x := by
  unfold NegB; rw [beq_iff_eq]; omega
theorem neg_iff' (x : Int) (h0 : 0 ≤ x) (h1 : x < 18446744073709551616) : NegB x = false ↔ x < 9223372036854775808 := by
  unfold NegB; rw [beq_eq_false_iff_ne]; omega
def Mag (x : Int) : Int := if NegB x = true then IntKind.u64.wrap (-x) else x
theorem mag_neg (x : Int) (h0 : 0 ≤ x) (h1 : x < 18446744073709551616) (hn : NegB x = true) : Mag x = 18446744073709551616 - x := by
  unfold Mag; rw [if_pos hn, IntKind.wrap_u64]; have := (neg_iff x h0 h1).1 hn; omega
theorem mag_pos (x : Int) (hn : NegB x = false) : Mag x = x := by unfold Mag; rw [hn]; rfl
theorem mag_range (x : Int) (h0 : 0 ≤ x) (h1 : x < 18446744073709551616) : 0 ≤ Mag x ∧ Mag x ≤ 9223372036854775808 := by
  cases hn : NegB x
  · rw [mag_pos x hn]; have := (neg_iff' x h0 h1).1 hn; omega
  · rw [mag_neg x h0 h1 hn]; have := (neg_iff x h0 h1).1 hn; omega
theorem mag_one (x : Int) (h0 : 1 ≤ x) (h1 : x < 18446744073709551616) : 1 ≤ Mag x := by
  cases hn : NegB x
  · rw [mag_pos x hn]; omega
  · rw [mag_neg x (by omega) h1 hn]; omega
def All64 : Int := 18446744073709551615
def Quo (a b : Int) (s : Bool) : Int := if b = 0 then All64 else if s = false then a / b else if NegB a = NegB b then Mag a / Mag b else IntKind.u64.wrap (-(Mag a / Mag b))
theorem quo_0 (a : Int) (s : Bool) : Quo a 0 s = All64 := if_pos rfl
theorem quo_u (a b : Int) (hb : 1 ≤ b) : Quo a b false = a / b := by unfold Quo; rw [if_neg (by omega), if_pos rfl]
theorem quo_same (a b : Int) (hb : 1 ≤ b) (h : NegB a = NegB b) : Quo a b true = Mag a / Mag b := by unfold Quo; rw [if_neg (by omega), if_neg (by decide), if_pos h]
theorem quo_other (a b : Int) (hb : 1 ≤ b) (h : NegB a ≠ NegB b) : Quo a b true = IntKind.u64.wrap (-(Mag a / Mag b)) := by unfold Quo; rw [if_neg (by omega), if_neg (by decide), if_neg h]
theorem wrap_word (x : Int) : 0 ≤ IntKind.u64.wrap x ∧ IntKind.u64.wrap x < 18446744073709551616 := by rw [IntKind.wrap_u64]; omega
theorem quo_word (a b : Int) (s : Bool) (h0 : 0 ≤ a) (h1 : a < 18446744073709551616) (g0 : 0 ≤ b) (g1 : b < 18446744073709551616) : 0 ≤ Quo a b s ∧ Quo a b s < 18446744073709551616 := by
  unfold Quo
  by_cases hb : b = 0
  · rw [if_pos hb]; decide
  · rw [if_neg hb]
    cases s
    · rw [if_pos rfl]
      have := Int.ediv_nonneg h0 g0; have := Int.ediv_le_self b h0; omega
    · rw [if_neg (by decide)]
      split
      · obtain ⟨a0, a1⟩ := mag_range a h0 h1
        have b0 := mag_one b (by omega) g1
        have := Int.ediv_nonneg a0 (by omega : 0 ≤ Mag b); have := Int.ediv_le_self (Mag b) a0; omega
      · exact wrap_word _
def Rem (a b : Int) (s : Bool) : Int := IntKind.u64.wrap (a - IntKind.u64.wrap (Quo a b s * b))
end Go.Proofs.YtmggichckhoomaaGreatDoor
end
section
namespace Go.Proofs.YtmggichckhoomaaGreatDoor
open Go.RowKit
set_option linter.unusedVariables false

theorem neg_any (x : Int) (h0 : 0 ≤ x) (h1 : x < 18446744073709551616) (w : World) :
    Calls Tryz.prog 159 #[.int .u64 x] w fun e w' => e = .returned (.bool (NegB x)) ∧ w = w' := by
  go_enter Tryz.func159, Tryz.ntmps159
  go_wp2
  go_ret
  exact ⟨rfl, rfl⟩
theorem mag_any (x : Int) (h0 : 0 ≤ x) (h1 : x < 18446744073709551616) (w : World) :
    Calls Tryz.prog 160 #[.int .u64 x] w fun e w' => e = .returned (.int .u64 (Mag x)) ∧ w = w' := by
  cases hn : NegB x
  · have H := Lib.hid (mag_pos x hn)
    go_enter Tryz.func160, Tryz.ntmps160
    go_wp2_with (go_at_call 159; refine (neg_any x h0 h1 _).mono ?_; rintro e w' ⟨rfl, rfl⟩)
    go_ret
    exact ⟨ret_int H.out.symm, rfl⟩
  · have H : Hid (IntKind.u64.wrap (-x) = Mag x) := by unfold Mag; rw [if_pos hn]; rfl
    go_enter Tryz.func160, Tryz.ntmps160
    go_wp2_with (go_at_call 159; refine (neg_any x h0 h1 _).mono ?_; rintro e w' ⟨rfl, rfl⟩)
    go_ret
    exact ⟨ret_int H.out, rfl⟩

theorem quo_any (a b : Int) (s : Bool) (h0 : 0 ≤ a) (h1 : a < 18446744073709551616) (g0 : 0 ≤ b) (g1 : b < 18446744073709551616) (w : World) :
    Calls Tryz.prog 156 #[.int .u64 a, .int .u64 b, .bool s] w fun e w' => e = .returned (.int .u64 (_root_.Go.Proofs.YtmggichckhoomaaGreatDoor.Quo a b s)) ∧ w = w' := by
  by_cases hb : b = 0
  · subst hb
    have H := Lib.hid (quo_0 a s)
    go_enter Tryz.func156, Tryz.ntmps156
    go_wp2_with fail
    go_ret
    exact ⟨ret_int H.out.symm, rfl⟩
  have b1 : 1 ≤ b := by omega
  have hb0 : (b == 0) = false := by rw [beq_eq_false_iff_ne]; exact hb
  clear hb
  cases s
  · have H := Lib.hid (quo_u a b b1)
    go_enter Tryz.func156, Tryz.ntmps156
    go_wp2_with fail
    go_ret
    exact ⟨ret_int H.out.symm, rfl⟩
  · obtain ⟨a0, a1⟩ := mag_range a h0 h1
    have m1 := mag_one b b1 g1
    have m2 := (mag_range b g0 g1).2
    by_cases hs : NegB a = NegB b
    · have H := Lib.hid (quo_same a b b1 hs)
      have hb' : (NegB a == NegB b) = true := by rw [hs]; simp
      clear hs
      go_enter Tryz.func156, Tryz.ntmps156
      go_wp2_with fail
      refine (mag_any a h0 h1 _).mono ?_
      rintro e w' ⟨rfl, rfl⟩
      go_wp2_with fail
      refine (mag_any b g0 g1 _).mono ?_
      rintro e w' ⟨rfl, rfl⟩
      go_wp2_with fail
      refine (neg_any a h0 h1 _).mono ?_
      rintro e w' ⟨rfl, rfl⟩
      go_wp2_with fail
      refine (neg_any b g0 g1 _).mono ?_
      rintro e w' ⟨rfl, rfl⟩
      go_wp2_with fail
      go_ret
      exact ⟨ret_int H.out.symm, rfl⟩
    · have H := Lib.hid (quo_other a b b1 hs)
      have hb' : (NegB a == NegB b) = false := by simpa using hs
      clear hs
      go_enter Tryz.func156, Tryz.ntmps156
      go_wp2_with fail
      refine (mag_any a h0 h1 _).mono ?_
      rintro e w' ⟨rfl, rfl⟩
      go_wp2_with fail
      refine (mag_any b g0 g1 _).mono ?_
      rintro e w' ⟨rfl, rfl⟩
      go_wp2_with fail
      refine (neg_any a h0 h1 _).mono ?_
      rintro e w' ⟨rfl, rfl⟩
      go_wp2_with fail
      refine (neg_any b g0 g1 _).mono ?_
      rintro e w' ⟨rfl, rfl⟩
      go_wp2_with fail
      go_ret
      exact ⟨ret_int H.out.symm, rfl⟩
theorem rem_any (a b : Int) (s : Bool) (h0 : 0 ≤ a) (h1 : a < 18446744073709551616) (g0 : 0 ≤ b) (g1 : b < 18446744073709551616) (w : World) :
    Calls Tryz.prog 157 #[.int .u64 a, .int .u64 b, .bool s] w fun e w' => e = .returned (.int .u64 (_root_.Go.Proofs.YtmggichckhoomaaGreatDoor.Rem a b s)) ∧ w = w' := by
  go_enter Tryz.func157, Tryz.ntmps157
  go_wp2_with fail
  refine (quo_any a b s h0 h1 g0 g1 _).mono ?_
  rintro e w' ⟨rfl, rfl⟩
  go_wp2_with fail
  go_ret
  exact ⟨rfl, rfl⟩

end Go.Proofs.YtmggichckhoomaaGreatDoor
end
section
namespace Go.Proofs.YtmggichckhoomaaGreatDoor
open Go.RowKit
set_option linter.unusedVariables false

/-! ### Products, plainly. -/
def Lo (a : Int) : Int := a % 4294967296
def Hi (a : Int) : Int := a / 4294967296
theorem and_lo (a : Int) (h0 : 0 ≤ a) (h1 : a < 18446744073709551616) : bits .and .u64 a 4294967295 = Lo a := by
  obtain ⟨A, rfl⟩ := Int.eq_ofNat_of_zero_le h0
  rw [show (4294967295 : Int) = ((4294967295 : Nat) : Int) from rfl, u64_and_nat _ _ (by omega) (by decide), show (4294967295 : Nat) = 2 ^ 32 - 1 from rfl, Nat.and_two_pow_sub_one_eq_mod]
  rfl
theorem lo_range (a : Int) : 0 ≤ Lo a ∧ Lo a ≤ 4294967295 := by unfold Lo; omega
theorem hi_range (a : Int) (h0 : 0 ≤ a) (h1 : a < 18446744073709551616) : 0 ≤ Hi a ∧ Hi a ≤ 4294967295 := by unfold Hi; omega
theorem mul_range (x y : Int) (x0 : 0 ≤ x) (x1 : x ≤ 4294967295) (y0 : 0 ≤ y) (y1 : y ≤ 4294967295) : 0 ≤ x * y ∧ x * y ≤ 18446744065119617025 := by
  have h := Int.mul_le_mul x1 y1 y0 (by decide : (0 : Int) ≤ 4294967295)
  have := Int.mul_nonneg x0 y0
  omega
theorem wrap_mul (x y : Int) (x0 : 0 ≤ x) (x1 : x ≤ 4294967295) (y0 : 0 ≤ y) (y1 : y ≤ 4294967295) : IntKind.u64.wrap (x * y) = x * y := by
  have := mul_range x y x0 x1 y0 y1
  exact IntWalk.u64_in _ (by omega)
def P0 (a b : Int) : Int := Lo a * Lo b
def P1 (a b : Int) : Int := Lo a * Hi b
def P2 (a b : Int) : Int := Hi a * Lo b
def PH3 (a b : Int) : Int := Hi a * Hi b
theorem p_ranges (a b : Int) (h0 : 0 ≤ a) (h1 : a < 18446744073709551616) (g0 : 0 ≤ b) (g1 : b < 18446744073709551616) :
    (0 ≤ P0 a b ∧ P0 a b ≤ 18446744065119617025) ∧ (0 ≤ P1 a b ∧ P1 a b ≤ 18446744065119617025) ∧ (0 ≤ P2 a b ∧ P2 a b ≤ 18446744065119617025) ∧ (0 ≤ PH3 a b ∧ PH3 a b ≤ 18446744065119617025) := by
  obtain ⟨a0, a1⟩ := lo_range a; obtain ⟨a2, a3⟩ := hi_range a h0 h1
  obtain ⟨b0, b1⟩ := lo_range b; obtain ⟨b2, b3⟩ := hi_range b g0 g1
  exact ⟨mul_range _ _ a0 a1 b0 b1, mul_range _ _ a0 a1 b2 b3, mul_range _ _ a2 a3 b0 b1, mul_range _ _ a2 a3 b2 b3⟩
def Hu (a b : Int) : Int := a * b / 18446744073709551616
theorem mul_parts (a b : Int) : a * b = PH3 a b * 18446744073709551616 + (P1 a b + P2 a b) * 4294967296 + P0 a b := by
  unfold P0 P1 P2 PH3
  have ha : a = Hi a * 4294967296 + Lo a := by unfold Hi Lo; omega
  have hb : b = Hi b * 4294967296 + Lo b := by unfold Hi Lo; omega
  generalize Hi a = ah at *
  generalize Lo a = al at *
  generalize Hi b = bh at *
  generalize Lo b = bl at *
  subst ha hb
  simp only [Int.add_mul, Int.mul_add]
  have c1 : ah * 4294967296 * (bh * 4294967296) = ah * bh * 18446744073709551616 := by
    rw [Int.mul_assoc, Int.mul_comm 4294967296 (bh * 4294967296), Int.mul_assoc bh, ← Int.mul_assoc]
    rfl
  have c2 : ah * 4294967296 * bl = ah * bl * 4294967296 := by rw [Int.mul_assoc, Int.mul_comm 4294967296 bl, Int.mul_assoc]
  have c3 : al * (bh * 4294967296) = al * bh * 4294967296 := by rw [Int.mul_assoc]
  rw [c1, c2, c3]; omega
theorem hu_parts (a b : Int) (h0 : 0 ≤ a) (h1 : a < 18446744073709551616) (g0 : 0 ≤ b) (g1 : b < 18446744073709551616) :
    Hu a b = PH3 a b + P1 a b / 4294967296 + P2 a b / 4294967296 + (P0 a b / 4294967296 + P1 a b % 4294967296 + P2 a b % 4294967296) / 4294967296 := by
  obtain ⟨⟨_, _⟩, ⟨_, _⟩, ⟨_, _⟩, ⟨_, _⟩⟩ := p_ranges a b h0 h1 g0 g1
  unfold Hu; rw [mul_parts a b]
  generalize P0 a b = p0 at *
  generalize P1 a b = p1 at *
  generalize P2 a b = p2 at *
  generalize PH3 a b = p3 at *
  omega
theorem hu_range (a b : Int) (h0 : 0 ≤ a) (h1 : a < 18446744073709551616) (g0 : 0 ≤ b) (g1 : b < 18446744073709551616) : 0 ≤ Hu a b ∧ Hu a b < 18446744073709551616 := by
  unfold Hu
  have h := Int.mul_le_mul (show a ≤ 18446744073709551615 by omega) (show b ≤ 18446744073709551615 by omega) g0 (by decide : (0 : Int) ≤ 18446744073709551615)
  have := Int.mul_nonneg h0 g0
  omega
theorem hu_spell (a b : Int) (h0 : 0 ≤ a) (h1 : a < 18446744073709551616) (g0 : 0 ≤ b) (g1 : b < 18446744073709551616) :
    IntKind.u64.wrap (IntKind.u64.wrap (IntKind.u64.wrap (PH3 a b + P1 a b / 4294967296) + P2 a b / 4294967296) + IntKind.u64.wrap (IntKind.u64.wrap (P0 a b / 4294967296 + bits BinOp.and IntKind.u64 (P1 a b) 4294967295) + bits BinOp.and IntKind.u64 (P2 a b) 4294967295) / 4294967296) = Hu a b := by
  obtain ⟨⟨_, _⟩, ⟨_, _⟩, ⟨_, _⟩, ⟨_, _⟩⟩ := p_ranges a b h0 h1 g0 g1
  obtain ⟨r0, r1⟩ := hu_range a b h0 h1 g0 g1
  have e := hu_parts a b h0 h1 g0 g1
  rw [and_lo (P1 a b) (by omega) (by omega), and_lo (P2 a b) (by omega) (by omega)]
  simp only [IntKind.wrap_u64]
  unfold Lo
  generalize Hu a b = H at *
  generalize P0 a b = p0 at *
  generalize P1 a b = p1 at *
  generalize P2 a b = p2 at *
  generalize PH3 a b = p3 at *
  omega

/-! The reference's way: bit by bit. NN k is a times what stands above the k lowest bits of b. -/
/-- The higher half, with signs. -/
def Less (t : Bool) (h x : Int) : Int := if t = true then IntKind.u64.wrap (h - x) else h
def Hgh (a b : Int) (sa sb : Bool) : Int := Less (sb && NegB b) (Less (sa && NegB a) (Hu a b) b) a
theorem less_word (t : Bool) (h x : Int) (h0 : 0 ≤ h ∧ h < 18446744073709551616) : 0 ≤ Less t h x ∧ Less t h x < 18446744073709551616 := by
  cases t
  · exact h0
  · exact wrap_word _
theorem hgh_word (a b : Int) (sa sb : Bool) (h0 : 0 ≤ a) (h1 : a < 18446744073709551616) (g0 : 0 ≤ b) (g1 : b < 18446744073709551616) : 0 ≤ Hgh a b sa sb ∧ Hgh a b sa sb < 18446744073709551616 :=
  less_word _ _ _ (less_word _ _ _ (hu_range a b h0 h1 g0 g1))
end Go.Proofs.YtmggichckhoomaaGreatDoor
end
section
namespace Go.Proofs.YtmggichckhoomaaGreatDoor
open Go.RowKit
set_option linter.unusedVariables false
theorem prods_any (a b : Int) (h0 : 0 ≤ a) (h1 : a < 18446744073709551616) (g0 : 0 ≤ b) (g1 : b < 18446744073709551616) (w : World) :
    Calls Tryz.prog 161 #[.int .u64 a, .int .u64 b] w fun e w' => e = .returned (.agg #[.int .u64 (P0 a b), .int .u64 (P1 a b), .int .u64 (P2 a b), .int .u64 (PH3 a b)]) ∧ w' = w.alloc (.cells #[.int .u64 (P0 a b), .int .u64 (P1 a b), .int .u64 (P2 a b), .int .u64 (PH3 a b)] 155) := by
  obtain ⟨a0, a1⟩ := lo_range a; obtain ⟨a2, a3⟩ := hi_range a h0 h1
  obtain ⟨b0, b1⟩ := lo_range b; obtain ⟨b2, b3⟩ := hi_range b g0 g1
  have e0 := Lib.hid (wrap_mul _ _ a0 a1 b0 b1)
  have e1 := Lib.hid (wrap_mul _ _ a0 a1 b2 b3)
  have e2 := Lib.hid (wrap_mul _ _ a2 a3 b0 b1)
  have e3 := Lib.hid (wrap_mul _ _ a2 a3 b2 b3)
  clear a0 a1 a2 a3 b0 b1 b2 b3
  have f0 := Lib.hid (and_lo a h0 h1)
  have f1 := Lib.hid (and_lo b g0 g1)
  go_enter Tryz.func161, Tryz.ntmps161
  go_wp2
  rw [f0.out, f1.out]
  rw [show a / 4294967296 = Hi a from rfl, show b / 4294967296 = Hi b from rfl, e0.out, e1.out, e2.out, e3.out]
  exact bodyPost_ret (v := .agg #[.int .u64 (P0 a b), .int .u64 (P1 a b), .int .u64 (P2 a b), .int .u64 (PH3 a b)]) (by simp [results, Tryz.results161, go_sem]; exact ⟨rfl, rfl, rfl, rfl⟩) rfl ⟨rfl, rfl⟩
end Go.Proofs.YtmggichckhoomaaGreatDoor
end
