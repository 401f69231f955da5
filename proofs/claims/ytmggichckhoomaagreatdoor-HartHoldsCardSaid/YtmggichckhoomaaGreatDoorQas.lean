/-
  Proved here: what the code's small functions on a pair of numbers answer. Conditions: the numbers are words.
-/
import Derived.Test.YtmggichckhoomaaGreatDoorQal
import Derived.Test.YtmggichckhoomaaGreatDoorQap
import Derived.Test.YtmggichckhoomaaGreatDoorQao
import Derived.Test.YtmggichckhoomaaGreatDoorQak
import Derived.Test.YtmggichckhoomaaGreatDoorQaq
import Derived.Test.YtmggichckhoomaaGreatDoorQar
import Derived.StillTailTactics
namespace Go.Proofs.YtmggichckhoomaaGreatDoor
open Go.RowKit
set_option linter.unusedVariables false
/-- A word, without a sign. -/
def InU (x : Int) : Prop := 0 ≤ x ∧ x < 18446744073709551616
/-- A word as a number with a sign. -/
def S64 (x : Int) : Int := wrap64 x
def LtS (a b : Int) : Bool := decide (S64 a < S64 b)
def LtU (a b : Int) : Bool := decide (a < b)
def pairV (a b n : Int) : Value := .agg #[.int .u64 a, .int .u64 b, .int .i64 n]

theorem highU_nb (a b : Int) (h0 : 0 ≤ a) (h1 : a < 18446744073709551616) (g0 : 0 ≤ b) (g1 : b < 18446744073709551616) (w : World) :
    Calls Tryz.prog 158 #[.int .u64 a, .int .u64 b] w fun e w' => e = .returned (.int .u64 (Hu a b)) ∧ Nb w w' := by
  go_enter Tryz.func158, Tryz.ntmps158
  go_wp2_with (go_at_call 161; refine (prods_any a b h0 h1 g0 g1 _).mono ?_; rintro e w' ⟨rfl, rfl⟩)
  rw [hu_spell a b h0 h1 g0 g1]
  go_ret
  exact ⟨rfl, ((Nb.refl _).alloc _).alloc _⟩
theorem high_nb (a b : Int) (sa sb : Bool) (h0 : 0 ≤ a) (h1 : a < 18446744073709551616) (g0 : 0 ≤ b) (g1 : b < 18446744073709551616) (w : World) :
    Calls Tryz.prog 155 #[.int .u64 a, .int .u64 b, .bool sa, .bool sb] w fun e w' => e = .returned (.int .u64 (Hgh a b sa sb)) ∧ Nb w w' := by
  have H : Hid (Hgh a b sa sb = Less (sb && NegB b) (Less (sa && NegB a) (Hu a b) b) a) := Lib.hid rfl
  cases sa <;> cases sb <;> cases na : NegB a <;> cases nb : NegB b <;> rw [na, nb] at H
  all_goals
    go_enter Tryz.func155, Tryz.ntmps155
    go_wp2_with fail
    refine (highU_nb a b h0 h1 g0 g1 _).mono ?_
    rintro e w1 ⟨rfl, hg⟩
    go_wp2_with (go_at_call 159; refine (neg_any _ (by omega) (by omega) _).mono ?_; rintro e w' ⟨rfl, rfl⟩)
    go_ret
    exact ⟨ret_int H.out.symm, hg⟩

theorem sum_any (a b n : Int) (w : World) : Calls Tryz.prog 130 #[pairV a b n] w fun e w' => e = .returned (.int .u64 (IntKind.u64.wrap (a + b))) ∧ Nb w w' := by
  unfold pairV
  go_enter Tryz.func130, Tryz.ntmps130
  go_wp2
  go_ret
  exact ⟨rfl, (Nb.refl _).alloc _⟩
theorem diff_any (a b n : Int) (w : World) : Calls Tryz.prog 131 #[pairV a b n] w fun e w' => e = .returned (.int .u64 (IntKind.u64.wrap (a - b))) ∧ Nb w w' := by
  unfold pairV
  go_enter Tryz.func131, Tryz.ntmps131
  go_wp2
  go_ret
  exact ⟨rfl, (Nb.refl _).alloc _⟩
theorem mul_any (a b n : Int) (w : World) : Calls Tryz.prog 142 #[pairV a b n] w fun e w' => e = .returned (.int .u64 (IntKind.u64.wrap (a * b))) ∧ Nb w w' := by
  unfold pairV
  go_enter Tryz.func142, Tryz.ntmps142
  go_wp2
  go_ret
  exact ⟨rfl, (Nb.refl _).alloc _⟩
theorem xor_any (a b n : Int) (w : World) : Calls Tryz.prog 139 #[pairV a b n] w fun e w' => e = .returned (.int .u64 (bits .xor .u64 a b)) ∧ Nb w w' := by
  unfold pairV
  go_enter Tryz.func139, Tryz.ntmps139
  go_wp2
  go_ret
  exact ⟨rfl, (Nb.refl _).alloc _⟩
theorem or_any (a b n : Int) (w : World) : Calls Tryz.prog 140 #[pairV a b n] w fun e w' => e = .returned (.int .u64 (bits .or .u64 a b)) ∧ Nb w w' := by
  unfold pairV
  go_enter Tryz.func140, Tryz.ntmps140
  go_wp2
  go_ret
  exact ⟨rfl, (Nb.refl _).alloc _⟩
theorem and_any (a b n : Int) (w : World) : Calls Tryz.prog 141 #[pairV a b n] w fun e w' => e = .returned (.int .u64 (bits .and .u64 a b)) ∧ Nb w w' := by
  unfold pairV
  go_enter Tryz.func141, Tryz.ntmps141
  go_wp2
  go_ret
  exact ⟨rfl, (Nb.refl _).alloc _⟩
theorem less_any (a b n : Int) (w : World) : Calls Tryz.prog 95 #[pairV a b n] w fun e w' => e = .returned (.bool (LtS a b)) ∧ Nb w w' := by
  unfold pairV
  go_enter Tryz.func95, Tryz.ntmps95
  go_wp2
  go_ret
  exact ⟨rfl, (Nb.refl _).alloc _⟩
theorem below_any (a b n : Int) (w : World) : Calls Tryz.prog 96 #[pairV a b n] w fun e w' => e = .returned (.bool (LtU a b)) ∧ Nb w w' := by
  unfold pairV
  go_enter Tryz.func96, Tryz.ntmps96
  go_wp2
  go_ret
  exact ⟨rfl, (Nb.refl _).alloc _⟩
theorem abit_any (b : Bool) (w : World) : Calls Tryz.prog 154 #[.bool b] w fun e w' => e = .returned (.int .u64 (if b = true then 1 else 0)) ∧ w = w' := by
  cases b
  all_goals
    go_enter Tryz.func154, Tryz.ntmps154
    go_wp2
    go_ret
    exact ⟨rfl, rfl⟩
theorem lessBit_any (a b n : Int) (w : World) : Calls Tryz.prog 137 #[pairV a b n] w fun e w' => e = .returned (.int .u64 (if LtS a b = true then 1 else 0)) ∧ Nb w w' := by
  have HL := fun w => less_any a b n w
  unfold pairV at HL ⊢
  cases h : LtS a b <;> rw [h] at HL <;> have H := Lib.hid HL <;> clear HL h
  all_goals
    go_enter Tryz.func137, Tryz.ntmps137
    go_wp2_with fail
    refine (H.out _).mono ?_
    rintro e w1 ⟨rfl, hn⟩
    go_wp2_with fail
    refine (abit_any _ _).mono ?_
    rintro e w' ⟨rfl, rfl⟩
    go_wp2_with fail
    go_ret
    exact ⟨rfl, ((Nb.refl _).alloc _).trans hn⟩
theorem belowBit_any (a b n : Int) (w : World) : Calls Tryz.prog 138 #[pairV a b n] w fun e w' => e = .returned (.int .u64 (if LtU a b = true then 1 else 0)) ∧ Nb w w' := by
  have HL := fun w => below_any a b n w
  unfold pairV at HL ⊢
  cases h : LtU a b <;> rw [h] at HL <;> have H := Lib.hid HL <;> clear HL h
  all_goals
    go_enter Tryz.func138, Tryz.ntmps138
    go_wp2_with fail
    refine (H.out _).mono ?_
    rintro e w1 ⟨rfl, hn⟩
    go_wp2_with fail
    refine (abit_any _ _).mono ?_
    rintro e w' ⟨rfl, rfl⟩
    go_wp2_with fail
    go_ret
    exact ⟨rfl, ((Nb.refl _).alloc _).trans hn⟩
theorem highS_any (a b n : Int) (h0 : 0 ≤ a) (h1 : a < 18446744073709551616) (g0 : 0 ≤ b) (g1 : b < 18446744073709551616) (w : World) : Calls Tryz.prog 143 #[pairV a b n] w fun e w' => e = .returned (.int .u64 (Hgh a b true true)) ∧ Nb w w' := by
  unfold pairV
  go_enter Tryz.func143, Tryz.ntmps143
  go_wp2_with fail
  refine (high_nb a b _ _ h0 h1 g0 g1 _).mono ?_
  rintro e w1 ⟨rfl, hn⟩
  go_wp2_with fail
  go_ret
  exact ⟨rfl, ((Nb.refl _).alloc _).trans hn⟩
theorem highM_any (a b n : Int) (h0 : 0 ≤ a) (h1 : a < 18446744073709551616) (g0 : 0 ≤ b) (g1 : b < 18446744073709551616) (w : World) : Calls Tryz.prog 144 #[pairV a b n] w fun e w' => e = .returned (.int .u64 (Hgh a b true false)) ∧ Nb w w' := by
  unfold pairV
  go_enter Tryz.func144, Tryz.ntmps144
  go_wp2_with fail
  refine (high_nb a b _ _ h0 h1 g0 g1 _).mono ?_
  rintro e w1 ⟨rfl, hn⟩
  go_wp2_with fail
  go_ret
  exact ⟨rfl, ((Nb.refl _).alloc _).trans hn⟩
theorem highN_any (a b n : Int) (h0 : 0 ≤ a) (h1 : a < 18446744073709551616) (g0 : 0 ≤ b) (g1 : b < 18446744073709551616) (w : World) : Calls Tryz.prog 145 #[pairV a b n] w fun e w' => e = .returned (.int .u64 (Hgh a b false false)) ∧ Nb w w' := by
  unfold pairV
  go_enter Tryz.func145, Tryz.ntmps145
  go_wp2_with fail
  refine (high_nb a b _ _ h0 h1 g0 g1 _).mono ?_
  rintro e w1 ⟨rfl, hn⟩
  go_wp2_with fail
  go_ret
  exact ⟨rfl, ((Nb.refl _).alloc _).trans hn⟩
theorem quoS_any (a b n : Int) (h0 : 0 ≤ a) (h1 : a < 18446744073709551616) (g0 : 0 ≤ b) (g1 : b < 18446744073709551616) (w : World) : Calls Tryz.prog 146 #[pairV a b n] w fun e w' => e = .returned (.int .u64 (_root_.Go.Proofs.YtmggichckhoomaaGreatDoor.Quo a b true)) ∧ Nb w w' := by
  unfold pairV
  go_enter Tryz.func146, Tryz.ntmps146
  go_wp2_with fail
  refine (quo_any a b _ h0 h1 g0 g1 _).mono ?_
  rintro e w' ⟨rfl, rfl⟩
  go_wp2_with fail
  go_ret
  exact ⟨rfl, (Nb.refl _).alloc _⟩
theorem quoN_any (a b n : Int) (h0 : 0 ≤ a) (h1 : a < 18446744073709551616) (g0 : 0 ≤ b) (g1 : b < 18446744073709551616) (w : World) : Calls Tryz.prog 147 #[pairV a b n] w fun e w' => e = .returned (.int .u64 (_root_.Go.Proofs.YtmggichckhoomaaGreatDoor.Quo a b false)) ∧ Nb w w' := by
  unfold pairV
  go_enter Tryz.func147, Tryz.ntmps147
  go_wp2_with fail
  refine (quo_any a b _ h0 h1 g0 g1 _).mono ?_
  rintro e w' ⟨rfl, rfl⟩
  go_wp2_with fail
  go_ret
  exact ⟨rfl, (Nb.refl _).alloc _⟩
theorem remS_any (a b n : Int) (h0 : 0 ≤ a) (h1 : a < 18446744073709551616) (g0 : 0 ≤ b) (g1 : b < 18446744073709551616) (w : World) : Calls Tryz.prog 148 #[pairV a b n] w fun e w' => e = .returned (.int .u64 (_root_.Go.Proofs.YtmggichckhoomaaGreatDoor.Rem a b true)) ∧ Nb w w' := by
  unfold pairV
  go_enter Tryz.func148, Tryz.ntmps148
  go_wp2_with fail
  refine (rem_any a b _ h0 h1 g0 g1 _).mono ?_
  rintro e w' ⟨rfl, rfl⟩
  go_wp2_with fail
  go_ret
  exact ⟨rfl, (Nb.refl _).alloc _⟩
theorem remN_any (a b n : Int) (h0 : 0 ≤ a) (h1 : a < 18446744073709551616) (g0 : 0 ≤ b) (g1 : b < 18446744073709551616) (w : World) : Calls Tryz.prog 149 #[pairV a b n] w fun e w' => e = .returned (.int .u64 (_root_.Go.Proofs.YtmggichckhoomaaGreatDoor.Rem a b false)) ∧ Nb w w' := by
  unfold pairV
  go_enter Tryz.func149, Tryz.ntmps149
  go_wp2_with fail
  refine (rem_any a b _ h0 h1 g0 g1 _).mono ?_
  rintro e w' ⟨rfl, rfl⟩
  go_wp2_with fail
  go_ret
  exact ⟨rfl, (Nb.refl _).alloc _⟩
theorem least_any (a b n : Int) (w : World) : Calls Tryz.prog 150 #[pairV a b n] w fun e w' => e = .returned (.int .u64 (if LtS a b = true then a else b)) ∧ Nb w w' := by
  have HL := fun w => less_any a b n w
  unfold pairV at HL ⊢
  cases h : LtS a b <;> rw [h] at HL <;> have H := Lib.hid HL <;> clear HL h
  all_goals
    go_enter Tryz.func150, Tryz.ntmps150
    go_wp2_with fail
    obtain ⟨W1, hW⟩ : ∃ W1, w.alloc (.cells #[.int .u64 a, .int .u64 b, .int .i64 n] 131) = W1 := ⟨_, rfl⟩
    have hb := blk_made w _ hW rfl
    have h2 : Nb w W1 := by rw [← hW]; exact (Nb.refl _).alloc _
    rw [hW]
    clear hW
    refine (H.out _).mono ?_
    rintro e w1 ⟨rfl, hn⟩
    have hb' := Nb.block hn hb
    have c0 := cell_of_row _ _ 0 _ _ _ hb'
    have c1 := cell_of_row _ _ 1 _ _ _ hb'
    clear hb hb'
    go_wp2
    go_ret
    exact ⟨rfl, h2.trans hn⟩
theorem greatest_any (a b n : Int) (w : World) : Calls Tryz.prog 151 #[pairV a b n] w fun e w' => e = .returned (.int .u64 (if LtS a b = true then b else a)) ∧ Nb w w' := by
  have HL := fun w => less_any a b n w
  unfold pairV at HL ⊢
  cases h : LtS a b <;> rw [h] at HL <;> have H := Lib.hid HL <;> clear HL h
  all_goals
    go_enter Tryz.func151, Tryz.ntmps151
    go_wp2_with fail
    obtain ⟨W1, hW⟩ : ∃ W1, w.alloc (.cells #[.int .u64 a, .int .u64 b, .int .i64 n] 131) = W1 := ⟨_, rfl⟩
    have hb := blk_made w _ hW rfl
    have h2 : Nb w W1 := by rw [← hW]; exact (Nb.refl _).alloc _
    rw [hW]
    clear hW
    refine (H.out _).mono ?_
    rintro e w1 ⟨rfl, hn⟩
    have hb' := Nb.block hn hb
    have c0 := cell_of_row _ _ 0 _ _ _ hb'
    have c1 := cell_of_row _ _ 1 _ _ _ hb'
    clear hb hb'
    go_wp2
    go_ret
    exact ⟨rfl, h2.trans hn⟩
theorem lowest_any (a b n : Int) (w : World) : Calls Tryz.prog 152 #[pairV a b n] w fun e w' => e = .returned (.int .u64 (min a b)) ∧ Nb w w' := by
  unfold pairV
  go_enter Tryz.func152, Tryz.ntmps152
  go_wp2
  go_ret
  exact ⟨rfl, (Nb.refl _).alloc _⟩
theorem highest_any (a b n : Int) (w : World) : Calls Tryz.prog 153 #[pairV a b n] w fun e w' => e = .returned (.int .u64 (max a b)) ∧ Nb w w' := by
  unfold pairV
  go_enter Tryz.func153, Tryz.ntmps153
  go_wp2
  go_ret
  exact ⟨rfl, (Nb.refl _).alloc _⟩
end Go.Proofs.YtmggichckhoomaaGreatDoor
