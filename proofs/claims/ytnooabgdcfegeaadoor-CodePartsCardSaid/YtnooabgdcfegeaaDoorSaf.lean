/-
  Proved here: what the small functions of the code's package inst answer: pieces put and told, the head of an operation. Conditions: words are words, forms are forms; the table of codes holds what its text lays. ¦ the rows of the reference's table, plainly. No condition.
-/
import Derived.Test.YtnooabgdcfegeaaDoorSae
import Derived.Test.YtnooabgdcfegeaaDoorSad
section
namespace Go.Proofs.YtnooabgdcfegeaaDoor
open Go.RowKit
set_option linter.unusedVariables false

theorem plc_w (x low n v : Int) (h0 : 0 ≤ x) (h1 : x < 18446744073709551616) : 0 ≤ Plc x low n v ∧ Plc x low n v < 18446744073709551616 := by
  unfold Plc
  by_cases h : low < 0 ∨ 63 < low ∨ n < 1
  · rw [wid_no low n h, plc_zero]; omega
  · have := wid_yes low n (by omega) (by omega) (by omega)
    have := plc_lt64 x.toNat low.toNat (wid low n) v.toNat (by omega) (by omega)
    omega
theorem fld_w (x low n : Int) (h0 : 0 ≤ x) (h1 : x < 18446744073709551616) : 0 ≤ Fld x low n ∧ Fld x low n < 18446744073709551616 := by
  unfold Fld
  have := fld_lt64 x.toNat low.toNat (wid low n) (by omega)
  omega
/-- A piece of a number put into a word; a piece of a word put into a number. -/
def Put (p : P3) (w v : Int) : Int := Plc w p.2.2 p.2.1 (Fld v p.1 p.2.1)
theorem put_w (p : P3) (w v : Int) (h0 : 0 ≤ w) (h1 : w < 18446744073709551616) : 0 ≤ Put p w v ∧ Put p w v < 18446744073709551616 := plc_w _ _ _ _ h0 h1
theorem field_q (x low n : Int) (h0 : 0 ≤ x) (h1 : x < 18446744073709551616) (w : World) :
    Calls Tryd.prog 90 #[.int .u64 x, .int .i64 low, .int .i64 n] w fun e w' => e = .returned (.int .u64 (Fld x low n)) ∧ w' = w :=
  (field_any x low n h0 h1 w).mono fun _ _ ⟨he, hw⟩ => ⟨he, hw.symm⟩

theorem put_any (a b c w v : Int) (w0 : 0 ≤ w) (w1 : w < 18446744073709551616) (v0 : 0 ≤ v) (v1 : v < 18446744073709551616) (W : World) :
    Calls Tryd.prog 82 #[.agg #[.int .i64 a, .int .i64 b, .int .i64 c], .int .u64 w, .int .u64 v] W fun e w' => e = .returned (.int .u64 (Put (a, b, c) w v)) ∧ Nw W w' := by
  obtain ⟨f0, f1⟩ := fld_w v a b v0 v1
  go_enter Tryd.func82, Tryd.ntmps82
  go_wp2_with fail
  go_quiet ((first | (go_at_call 90; exact Calls.quiet_of_same (field_q _ _ _ v0 v1 _)) | (go_at_call 80; exact Calls.quiet_of (place_any _ _ _ _ w0 w1 f0 f1 _))))
  go_wp2_with fail
  go_ret
  exact ⟨rfl, ((Nw.refl _).alloc _ _).drewN _⟩
/-! The table of codes, as its text lays it, and the rows. -/
theorem bit_any (b : Bool) (w : World) : Calls Tryd.prog 84 #[.bool b] w fun e w' => e = .returned (.int .u64 (if b = true then 1 else 0)) ∧ w = w' := by
  cases b
  · go_enter Tryd.func84, Tryd.ntmps84
    go_wp2
    go_ret
    exact ⟨rfl, rfl⟩
  · go_enter Tryd.func84, Tryd.ntmps84
    go_wp2
    go_ret
    exact ⟨rfl, rfl⟩
def RegB (r : Int) : Bool := decide (0 ≤ r) && decide (r ≤ 31)
theorem reg_any (r : Int) (w : World) : Calls Tryd.prog 77 #[.int .i64 r] w fun e w' => e = .returned (.bool (RegB r)) ∧ w = w' := by
  by_cases h : 0 ≤ r
  · go_enter Tryd.func77, Tryd.ntmps77
    go_wp2
    go_ret
    exact ⟨ret_bool (by unfold RegB; rw [decide_eq_true h]; rfl), rfl⟩
  · go_enter Tryd.func77, Tryd.ntmps77
    go_wp2
    go_ret
    exact ⟨ret_bool (by unfold RegB; rw [decide_eq_false (by omega)]; rfl), rfl⟩
end Go.Proofs.YtnooabgdcfegeaaDoor
end
section
namespace Go.Proofs.YtnooabgdcfegeaaDoor
set_option linter.unusedVariables false

/-- A row: form, opcode, f3, f7. -/
abbrev R4 := Int × Int × Int × Int
def rowTab : List R4 := [
  (1, 55, 0, 0), (1, 23, 0, 0), (2, 111, 0, 0), (3, 103, 0, 0), (4, 99, 0, 0), (4, 99, 1, 0), (4, 99, 4, 0), (4, 99, 5, 0),
  (4, 99, 6, 0), (4, 99, 7, 0), (3, 3, 0, 0), (3, 3, 1, 0), (3, 3, 2, 0), (3, 3, 3, 0), (3, 3, 4, 0), (3, 3, 5, 0),
  (3, 3, 6, 0), (5, 35, 0, 0), (5, 35, 1, 0), (5, 35, 2, 0), (5, 35, 3, 0), (3, 19, 0, 0), (3, 19, 2, 0), (3, 19, 3, 0),
  (3, 19, 4, 0), (3, 19, 6, 0), (3, 19, 7, 0), (6, 19, 1, 0), (6, 19, 5, 0), (6, 19, 5, 32), (8, 51, 0, 0), (8, 51, 0, 32),
  (8, 51, 1, 0), (8, 51, 2, 0), (8, 51, 3, 0), (8, 51, 4, 0), (8, 51, 5, 0), (8, 51, 5, 32), (8, 51, 6, 0), (8, 51, 7, 0),
  (3, 27, 0, 0), (7, 27, 1, 0), (7, 27, 5, 0), (7, 27, 5, 32), (8, 59, 0, 0), (8, 59, 0, 32), (8, 59, 1, 0), (8, 59, 5, 0),
  (8, 59, 5, 32), (9, 15, 0, 0), (10, 115, 0, 0), (10, 115, 0, 1), (8, 51, 0, 1), (8, 51, 1, 1), (8, 51, 2, 1), (8, 51, 3, 1),
  (8, 51, 4, 1), (8, 51, 5, 1), (8, 51, 6, 1), (8, 51, 7, 1), (8, 59, 0, 1), (8, 59, 4, 1), (8, 59, 5, 1), (8, 59, 6, 1),
  (8, 59, 7, 1), (11, 47, 2, 2), (12, 47, 2, 3), (12, 47, 2, 1), (12, 47, 2, 0), (12, 47, 2, 4), (12, 47, 2, 12), (12, 47, 2, 8),
  (12, 47, 2, 16), (12, 47, 2, 20), (12, 47, 2, 24), (12, 47, 2, 28), (11, 47, 3, 2), (12, 47, 3, 3), (12, 47, 3, 1), (12, 47, 3, 0),
  (12, 47, 3, 4), (12, 47, 3, 12), (12, 47, 3, 8), (12, 47, 3, 16), (12, 47, 3, 20), (12, 47, 3, 24), (12, 47, 3, 28)]
/-- The row that the reference has for an operation. -/
def refRow (op : Int) : R4 := if 1 ≤ op ∧ op ≤ 87 then rowTab.getD (op.toNat - 1) (0, 0, 0, 0) else (0, 0, 0, 0)
theorem ref_no (op : Int) (h : op < 1 ∨ 87 < op) : refRow op = (0, 0, 0, 0) := if_neg (by omega)
end Go.Proofs.YtnooabgdcfegeaaDoor
end
