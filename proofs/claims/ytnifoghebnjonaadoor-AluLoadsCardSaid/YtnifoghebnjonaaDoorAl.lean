/-
  Proved here: what the code's small functions on a pair of numbers answer. Conditions: the numbers are words.
-/
import Derived.Test.YtnifoghebnjonaaDoorSa
import Derived.Test.YtnifoghebnjonaaDoorRf
import Derived.Test.YtnifoghebnjonaaDoorTa
import Derived.Test.YtnifoghebnjonaaDoorHw
import Derived.StillTailTactics
namespace Go.Proofs.YtnifoghebnjonaaDoor
open Go.RowKit
set_option linter.unusedVariables false
/-- A word, without a sign. -/
def InU (x : Int) : Prop := 0 ≤ x ∧ x < 18446744073709551616
/-- A word as a number with a sign. -/
def S64 (x : Int) : Int := wrap64 x
def LtS (a b : Int) : Bool := decide (S64 a < S64 b)
def LtU (a b : Int) : Bool := decide (a < b)
def pairV (a b n : Int) : Value := .agg #[.int .u64 a, .int .u64 b, .int .i64 n]

theorem highU_nb (a b : Int) (h0 : 0 ≤ a) (h1 : a < 18446744073709551616) (g0 : 0 ≤ b) (g1 : b < 18446744073709551616) (w : World) :
    Calls Tryd.prog 178 #[.int .u64 a, .int .u64 b] w fun e w' => e = .returned (.int .u64 (Hu a b)) ∧ Nb w w' := by
  go_enter Tryd.func178, Tryd.ntmps178
  go_wp2_with (go_at_call 185; refine (prods_any a b h0 h1 g0 g1 _).mono ?_; rintro e w' ⟨rfl, rfl⟩)
  rw [hu_spell a b h0 h1 g0 g1]
  go_ret
  exact ⟨rfl, ((Nb.refl _).alloc _).alloc _⟩
theorem high_nb (a b : Int) (sa sb : Bool) (h0 : 0 ≤ a) (h1 : a < 18446744073709551616) (g0 : 0 ≤ b) (g1 : b < 18446744073709551616) (w : World) :
    Calls Tryd.prog 165 #[.int .u64 a, .int .u64 b, .bool sa, .bool sb] w fun e w' => e = .returned (.int .u64 (Hgh a b sa sb)) ∧ Nb w w' := by
  have H : Hid (Hgh a b sa sb = Less (sb && NegB b) (Less (sa && NegB a) (Hu a b) b) a) := Lib.hid rfl
  cases sa <;> cases sb <;> cases na : NegB a <;> cases nb : NegB b <;> rw [na, nb] at H
  all_goals
    go_enter Tryd.func165, Tryd.ntmps165
    go_wp2_with fail
    refine (highU_nb a b h0 h1 g0 g1 _).mono ?_
    rintro e w1 ⟨rfl, hg⟩
    go_wp2_with (go_at_call 179; refine (neg_any _ (by omega) (by omega) _).mono ?_; rintro e w' ⟨rfl, rfl⟩)
    go_ret
    exact ⟨ret_int H.out.symm, hg⟩

theorem sum_any (a b n : Int) (w : World) : Calls Tryd.prog 113 #[pairV a b n] w fun e w' => e = .returned (.int .u64 (IntKind.u64.wrap (a + b))) ∧ Nb w w' := by
  unfold pairV
  go_enter Tryd.func113, Tryd.ntmps113
  go_wp2
  go_ret
  exact ⟨rfl, (Nb.refl _).alloc _⟩
theorem diff_any (a b n : Int) (w : World) : Calls Tryd.prog 134 #[pairV a b n] w fun e w' => e = .returned (.int .u64 (IntKind.u64.wrap (a - b))) ∧ Nb w w' := by
  unfold pairV
  go_enter Tryd.func134, Tryd.ntmps134
  go_wp2
  go_ret
  exact ⟨rfl, (Nb.refl _).alloc _⟩
theorem mul_any (a b n : Int) (w : World) : Calls Tryd.prog 141 #[pairV a b n] w fun e w' => e = .returned (.int .u64 (IntKind.u64.wrap (a * b))) ∧ Nb w w' := by
  unfold pairV
  go_enter Tryd.func141, Tryd.ntmps141
  go_wp2
  go_ret
  exact ⟨rfl, (Nb.refl _).alloc _⟩
theorem xor_any (a b n : Int) (w : World) : Calls Tryd.prog 114 #[pairV a b n] w fun e w' => e = .returned (.int .u64 (bits .xor .u64 a b)) ∧ Nb w w' := by
  unfold pairV
  go_enter Tryd.func114, Tryd.ntmps114
  go_wp2
  go_ret
  exact ⟨rfl, (Nb.refl _).alloc _⟩
theorem or_any (a b n : Int) (w : World) : Calls Tryd.prog 116 #[pairV a b n] w fun e w' => e = .returned (.int .u64 (bits .or .u64 a b)) ∧ Nb w w' := by
  unfold pairV
  go_enter Tryd.func116, Tryd.ntmps116
  go_wp2
  go_ret
  exact ⟨rfl, (Nb.refl _).alloc _⟩
theorem and_any (a b n : Int) (w : World) : Calls Tryd.prog 115 #[pairV a b n] w fun e w' => e = .returned (.int .u64 (bits .and .u64 a b)) ∧ Nb w w' := by
  unfold pairV
  go_enter Tryd.func115, Tryd.ntmps115
  go_wp2
  go_ret
  exact ⟨rfl, (Nb.refl _).alloc _⟩
theorem less_any (a b n : Int) (w : World) : Calls Tryd.prog 68 #[pairV a b n] w fun e w' => e = .returned (.bool (LtS a b)) ∧ Nb w w' := by
  unfold pairV
  go_enter Tryd.func68, Tryd.ntmps68
  go_wp2
  go_ret
  exact ⟨rfl, (Nb.refl _).alloc _⟩
theorem below_any (a b n : Int) (w : World) : Calls Tryd.prog 69 #[pairV a b n] w fun e w' => e = .returned (.bool (LtU a b)) ∧ Nb w w' := by
  unfold pairV
  go_enter Tryd.func69, Tryd.ntmps69
  go_wp2
  go_ret
  exact ⟨rfl, (Nb.refl _).alloc _⟩
theorem abit_any (b : Bool) (w : World) : Calls Tryd.prog 164 #[.bool b] w fun e w' => e = .returned (.int .u64 (if b = true then 1 else 0)) ∧ w = w' := by
  cases b
  all_goals
    go_enter Tryd.func164, Tryd.ntmps164
    go_wp2
    go_ret
    exact ⟨rfl, rfl⟩
theorem lessBit_any (a b n : Int) (w : World) : Calls Tryd.prog 139 #[pairV a b n] w fun e w' => e = .returned (.int .u64 (if LtS a b = true then 1 else 0)) ∧ Nb w w' := by
  have HL := fun w => less_any a b n w
  unfold pairV at HL ⊢
  cases h : LtS a b <;> rw [h] at HL <;> have H := Lib.hid HL <;> clear HL h
  all_goals
    go_enter Tryd.func139, Tryd.ntmps139
    go_wp2_with fail
    refine (H.out _).mono ?_
    rintro e w1 ⟨rfl, hn⟩
    go_wp2_with fail
    refine (abit_any _ _).mono ?_
    rintro e w' ⟨rfl, rfl⟩
    go_wp2_with fail
    go_ret
    exact ⟨rfl, ((Nb.refl _).alloc _).trans hn⟩
theorem belowBit_any (a b n : Int) (w : World) : Calls Tryd.prog 140 #[pairV a b n] w fun e w' => e = .returned (.int .u64 (if LtU a b = true then 1 else 0)) ∧ Nb w w' := by
  have HL := fun w => below_any a b n w
  unfold pairV at HL ⊢
  cases h : LtU a b <;> rw [h] at HL <;> have H := Lib.hid HL <;> clear HL h
  all_goals
    go_enter Tryd.func140, Tryd.ntmps140
    go_wp2_with fail
    refine (H.out _).mono ?_
    rintro e w1 ⟨rfl, hn⟩
    go_wp2_with fail
    refine (abit_any _ _).mono ?_
    rintro e w' ⟨rfl, rfl⟩
    go_wp2_with fail
    go_ret
    exact ⟨rfl, ((Nb.refl _).alloc _).trans hn⟩
theorem highS_any (a b n : Int) (h0 : 0 ≤ a) (h1 : a < 18446744073709551616) (g0 : 0 ≤ b) (g1 : b < 18446744073709551616) (w : World) : Calls Tryd.prog 142 #[pairV a b n] w fun e w' => e = .returned (.int .u64 (Hgh a b true true)) ∧ Nb w w' := by
  unfold pairV
  go_enter Tryd.func142, Tryd.ntmps142
  go_wp2_with fail
  refine (high_nb a b _ _ h0 h1 g0 g1 _).mono ?_
  rintro e w1 ⟨rfl, hn⟩
  go_wp2_with fail
  go_ret
  exact ⟨rfl, ((Nb.refl _).alloc _).trans hn⟩
theorem highM_any (a b n : Int) (h0 : 0 ≤ a) (h1 : a < 18446744073709551616) (g0 : 0 ≤ b) (g1 : b < 18446744073709551616) (w : World) : Calls Tryd.prog 143 #[pairV a b n] w fun e w' => e = .returned (.int .u64 (Hgh a b true false)) ∧ Nb w w' := by
  unfold pairV
  go_enter Tryd.func143, Tryd.ntmps143
  go_wp2_with fail
  refine (high_nb a b _ _ h0 h1 g0 g1 _).mono ?_
  rintro e w1 ⟨rfl, hn⟩
  go_wp2_with fail
  go_ret
  exact ⟨rfl, ((Nb.refl _).alloc _).trans hn⟩
theorem highN_any (a b n : Int) (h0 : 0 ≤ a) (h1 : a < 18446744073709551616) (g0 : 0 ≤ b) (g1 : b < 18446744073709551616) (w : World) : Calls Tryd.prog 144 #[pairV a b n] w fun e w' => e = .returned (.int .u64 (Hgh a b false false)) ∧ Nb w w' := by
  unfold pairV
  go_enter Tryd.func144, Tryd.ntmps144
  go_wp2_with fail
  refine (high_nb a b _ _ h0 h1 g0 g1 _).mono ?_
  rintro e w1 ⟨rfl, hn⟩
  go_wp2_with fail
  go_ret
  exact ⟨rfl, ((Nb.refl _).alloc _).trans hn⟩
theorem quoS_any (a b n : Int) (h0 : 0 ≤ a) (h1 : a < 18446744073709551616) (g0 : 0 ≤ b) (g1 : b < 18446744073709551616) (w : World) : Calls Tryd.prog 145 #[pairV a b n] w fun e w' => e = .returned (.int .u64 (_root_.Go.Proofs.YtnifoghebnjonaaDoor.Quo a b true)) ∧ Nb w w' := by
  unfold pairV
  go_enter Tryd.func145, Tryd.ntmps145
  go_wp2_with fail
  refine (quo_any a b _ h0 h1 g0 g1 _).mono ?_
  rintro e w' ⟨rfl, rfl⟩
  go_wp2_with fail
  go_ret
  exact ⟨rfl, (Nb.refl _).alloc _⟩
theorem quoN_any (a b n : Int) (h0 : 0 ≤ a) (h1 : a < 18446744073709551616) (g0 : 0 ≤ b) (g1 : b < 18446744073709551616) (w : World) : Calls Tryd.prog 146 #[pairV a b n] w fun e w' => e = .returned (.int .u64 (_root_.Go.Proofs.YtnifoghebnjonaaDoor.Quo a b false)) ∧ Nb w w' := by
  unfold pairV
  go_enter Tryd.func146, Tryd.ntmps146
  go_wp2_with fail
  refine (quo_any a b _ h0 h1 g0 g1 _).mono ?_
  rintro e w' ⟨rfl, rfl⟩
  go_wp2_with fail
  go_ret
  exact ⟨rfl, (Nb.refl _).alloc _⟩
theorem remS_any (a b n : Int) (h0 : 0 ≤ a) (h1 : a < 18446744073709551616) (g0 : 0 ≤ b) (g1 : b < 18446744073709551616) (w : World) : Calls Tryd.prog 147 #[pairV a b n] w fun e w' => e = .returned (.int .u64 (_root_.Go.Proofs.YtnifoghebnjonaaDoor.Rem a b true)) ∧ Nb w w' := by
  unfold pairV
  go_enter Tryd.func147, Tryd.ntmps147
  go_wp2_with fail
  refine (rem_any a b _ h0 h1 g0 g1 _).mono ?_
  rintro e w' ⟨rfl, rfl⟩
  go_wp2_with fail
  go_ret
  exact ⟨rfl, (Nb.refl _).alloc _⟩
theorem remN_any (a b n : Int) (h0 : 0 ≤ a) (h1 : a < 18446744073709551616) (g0 : 0 ≤ b) (g1 : b < 18446744073709551616) (w : World) : Calls Tryd.prog 148 #[pairV a b n] w fun e w' => e = .returned (.int .u64 (_root_.Go.Proofs.YtnifoghebnjonaaDoor.Rem a b false)) ∧ Nb w w' := by
  unfold pairV
  go_enter Tryd.func148, Tryd.ntmps148
  go_wp2_with fail
  refine (rem_any a b _ h0 h1 g0 g1 _).mono ?_
  rintro e w' ⟨rfl, rfl⟩
  go_wp2_with fail
  go_ret
  exact ⟨rfl, (Nb.refl _).alloc _⟩
theorem least_any (a b n : Int) (w : World) : Calls Tryd.prog 118 #[pairV a b n] w fun e w' => e = .returned (.int .u64 (if LtS a b = true then a else b)) ∧ Nb w w' := by
  have HL := fun w => less_any a b n w
  unfold pairV at HL ⊢
  cases h : LtS a b <;> rw [h] at HL <;> have H := Lib.hid HL <;> clear HL h
  all_goals
    go_enter Tryd.func118, Tryd.ntmps118
    go_wp2_with fail
    obtain ⟨W1, hW⟩ : ∃ W1, w.alloc (.cells #[.int .u64 a, .int .u64 b, .int .i64 n] 97) = W1 := ⟨_, rfl⟩
    have hb := blk_made w _ hW rfl
    have h2 : Nb w W1 := by rw [← hW]; exact (Nb.refl _).alloc _
    rw [hW]
    clear hW
    refine (H.out _).mono ?_
    rintro e w1 ⟨rfl, hn⟩
    have hb' := Nb.block hn hb
    have c0 := cell_of_row _ _ 0 _ _ _ hb'
    have c1 := cell_of_row _ _ 1 _ _ _ hb'
    clear hb hb'
    go_wp2
    go_ret
    exact ⟨rfl, h2.trans hn⟩
theorem greatest_any (a b n : Int) (w : World) : Calls Tryd.prog 119 #[pairV a b n] w fun e w' => e = .returned (.int .u64 (if LtS a b = true then b else a)) ∧ Nb w w' := by
  have HL := fun w => less_any a b n w
  unfold pairV at HL ⊢
  cases h : LtS a b <;> rw [h] at HL <;> have H := Lib.hid HL <;> clear HL h
  all_goals
    go_enter Tryd.func119, Tryd.ntmps119
    go_wp2_with fail
    obtain ⟨W1, hW⟩ : ∃ W1, w.alloc (.cells #[.int .u64 a, .int .u64 b, .int .i64 n] 97) = W1 := ⟨_, rfl⟩
    have hb := blk_made w _ hW rfl
    have h2 : Nb w W1 := by rw [← hW]; exact (Nb.refl _).alloc _
    rw [hW]
    clear hW
    refine (H.out _).mono ?_
    rintro e w1 ⟨rfl, hn⟩
    have hb' := Nb.block hn hb
    have c0 := cell_of_row _ _ 0 _ _ _ hb'
    have c1 := cell_of_row _ _ 1 _ _ _ hb'
    clear hb hb'
    go_wp2
    go_ret
    exact ⟨rfl, h2.trans hn⟩
theorem lowest_any (a b n : Int) (w : World) : Calls Tryd.prog 121 #[pairV a b n] w fun e w' => e = .returned (.int .u64 (min a b)) ∧ Nb w w' := by
  unfold pairV
  go_enter Tryd.func121, Tryd.ntmps121
  go_wp2
  go_ret
  exact ⟨rfl, (Nb.refl _).alloc _⟩
theorem highest_any (a b n : Int) (w : World) : Calls Tryd.prog 122 #[pairV a b n] w fun e w' => e = .returned (.int .u64 (max a b)) ∧ Nb w w' := by
  unfold pairV
  go_enter Tryd.func122, Tryd.ntmps122
  go_wp2
  go_ret
  exact ⟨rfl, (Nb.refl _).alloc _⟩
end Go.Proofs.YtnifoghebnjonaaDoor
