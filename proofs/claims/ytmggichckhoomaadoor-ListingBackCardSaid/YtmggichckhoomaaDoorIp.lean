/-
  Proved here: what the small functions of the code's package inst answer: pieces put and told, the head of an operation. Conditions: words are words, forms are forms; the table of codes holds what its text lays.
-/
import Derived.Test.YtmggichckhoomaaDoorFm
namespace Go.Proofs.YtmggichckhoomaaDoor
open Go.RowKit
set_option linter.unusedVariables false

theorem wid_le64 (low n : Int) (h0 : 0 ≤ low) : low.toNat + wid low n ≤ 64 ∨ wid low n = 0 := by
  unfold wid; split <;> omega
theorem plc_w (x low n v : Int) (h0 : 0 ≤ x) (h1 : x < 18446744073709551616) : 0 ≤ Plc x low n v ∧ Plc x low n v < 18446744073709551616 := by
  unfold Plc
  by_cases h : low < 0 ∨ 63 < low ∨ n < 1
  · rw [wid_no low n h, plc_zero]; omega
  · have := wid_yes low n (by omega) (by omega) (by omega)
    have := plc_lt64 x.toNat low.toNat (wid low n) v.toNat (by omega) (by omega)
    omega
theorem fld_w (x low n : Int) (h0 : 0 ≤ x) (h1 : x < 18446744073709551616) : 0 ≤ Fld x low n ∧ Fld x low n < 18446744073709551616 := by
  unfold Fld
  have := fld_lt64 x.toNat low.toNat (wid low n) (by omega)
  omega
/-- A piece of a number put into a word; a piece of a word put into a number. -/
def Put (p : P3) (w v : Int) : Int := Plc w p.2.2 p.2.1 (Fld v p.1 p.2.1)
def Get (p : P3) (v w : Int) : Int := Plc v p.1 p.2.1 (Fld w p.2.2 p.2.1)
theorem put_w (p : P3) (w v : Int) (h0 : 0 ≤ w) (h1 : w < 18446744073709551616) : 0 ≤ Put p w v ∧ Put p w v < 18446744073709551616 := plc_w _ _ _ _ h0 h1
theorem get_w (p : P3) (v w : Int) (h0 : 0 ≤ v) (h1 : v < 18446744073709551616) : 0 ≤ Get p v w ∧ Get p v w < 18446744073709551616 := plc_w _ _ _ _ h0 h1

/-! The table of codes, as its text lays it, and the rows. -/
def RegB (r : Int) : Bool := decide (0 ≤ r) && decide (r ≤ 31)
theorem reg_any (r : Int) (w : World) : Calls Tryd.prog 46 #[.int .i64 r] w fun e w' => e = .returned (.bool (RegB r)) ∧ w = w' := by
  by_cases h : 0 ≤ r
  · go_enter Tryd.func46, Tryd.ntmps46
    go_wp2
    go_ret
    exact ⟨ret_bool (by unfold RegB; rw [decide_eq_true h]; rfl), rfl⟩
  · go_enter Tryd.func46, Tryd.ntmps46
    go_wp2
    go_ret
    exact ⟨ret_bool (by unfold RegB; rw [decide_eq_false (by omega)]; rfl), rfl⟩
end Go.Proofs.YtmggichckhoomaaDoor
