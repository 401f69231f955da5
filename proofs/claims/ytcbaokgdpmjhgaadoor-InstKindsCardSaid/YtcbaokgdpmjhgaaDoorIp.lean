/-
  Proved here: what the small functions of the code's package inst answer: pieces put and told, the head of an operation. Conditions: words are words, forms are forms; the table of codes holds what its text lays.
-/
import Derived.Test.YtcbaokgdpmjhgaaDoorFm
namespace Go.Proofs.YtcbaokgdpmjhgaaDoor
open Go.RowKit
set_option linter.unusedVariables false

theorem wid_le64 (low n : Int) (h0 : 0 ≤ low) : low.toNat + wid low n ≤ 64 ∨ wid low n = 0 := by
  unfold wid; split <;> omega
theorem plc_w (x low n v : Int) (h0 : 0 ≤ x) (h1 : x < 18446744073709551616) : 0 ≤ Plc x low n v ∧ Plc x low n v < 18446744073709551616 := by
  unfold Plc
  by_cases h : low < 0 ∨ 63 < low ∨ n < 1
  · rw [wid_no low n h, plc_zero]; omega
  · have := wid_yes low n (by omega) (by omega) (by omega)
    have := plc_lt64 x.toNat low.toNat (wid low n) v.toNat (by omega) (by omega)
    omega
theorem fld_w (x low n : Int) (h0 : 0 ≤ x) (h1 : x < 18446744073709551616) : 0 ≤ Fld x low n ∧ Fld x low n < 18446744073709551616 := by
  unfold Fld
  have := fld_lt64 x.toNat low.toNat (wid low n) (by omega)
  omega
/-- A piece of a number put into a word; a piece of a word put into a number. -/
def Put (p : P3) (w v : Int) : Int := Plc w p.2.2 p.2.1 (Fld v p.1 p.2.1)
def Get (p : P3) (v w : Int) : Int := Plc v p.1 p.2.1 (Fld w p.2.2 p.2.1)
theorem put_w (p : P3) (w v : Int) (h0 : 0 ≤ w) (h1 : w < 18446744073709551616) : 0 ≤ Put p w v ∧ Put p w v < 18446744073709551616 := plc_w _ _ _ _ h0 h1
theorem get_w (p : P3) (v w : Int) (h0 : 0 ≤ v) (h1 : v < 18446744073709551616) : 0 ≤ Get p v w ∧ Get p v w < 18446744073709551616 := plc_w _ _ _ _ h0 h1

theorem field_q (x low n : Int) (h0 : 0 ≤ x) (h1 : x < 18446744073709551616) (w : World) :
    Calls Tryd.prog 43 #[.int .u64 x, .int .i64 low, .int .i64 n] w fun e w' => e = .returned (.int .u64 (Fld x low n)) ∧ w' = w :=
  (field_any x low n h0 h1 w).mono fun _ _ ⟨he, hw⟩ => ⟨he, hw.symm⟩

theorem put_any (a b c w v : Int) (w0 : 0 ≤ w) (w1 : w < 18446744073709551616) (v0 : 0 ≤ v) (v1 : v < 18446744073709551616) (W : World) :
    Calls Tryd.prog 49 #[.agg #[.int .i64 a, .int .i64 b, .int .i64 c], .int .u64 w, .int .u64 v] W fun e w' => e = .returned (.int .u64 (Put (a, b, c) w v)) ∧ Nw W w' := by
  obtain ⟨f0, f1⟩ := fld_w v a b v0 v1
  go_enter Tryd.func49, Tryd.ntmps49
  go_wp2_with fail
  go_quiet ((first | (go_at_call 43; exact Calls.quiet_of_same (field_q _ _ _ v0 v1 _)) | (go_at_call 47; exact Calls.quiet_of (place_any _ _ _ _ w0 w1 f0 f1 _))))
  go_wp2_with fail
  go_ret
  exact ⟨rfl, ((Nw.refl _).alloc _ _).drewN _⟩
theorem get_any (a b c v w : Int) (w0 : 0 ≤ w) (w1 : w < 18446744073709551616) (v0 : 0 ≤ v) (v1 : v < 18446744073709551616) (W : World) :
    Calls Tryd.prog 60 #[.agg #[.int .i64 a, .int .i64 b, .int .i64 c], .int .u64 v, .int .u64 w] W fun e w' => e = .returned (.int .u64 (Get (a, b, c) v w)) ∧ Nw W w' := by
  obtain ⟨f0, f1⟩ := fld_w w c b w0 w1
  go_enter Tryd.func60, Tryd.ntmps60
  go_wp2_with fail
  go_quiet ((first | (go_at_call 43; exact Calls.quiet_of_same (field_q _ _ _ w0 w1 _)) | (go_at_call 47; exact Calls.quiet_of (place_any _ _ _ _ v0 v1 f0 f1 _))))
  go_wp2_with fail
  go_ret
  exact ⟨rfl, ((Nw.refl _).alloc _ _).drewN _⟩

/-! The table of codes, as its text lays it, and the rows. -/
theorem bit_any (b : Bool) (w : World) : Calls Tryd.prog 51 #[.bool b] w fun e w' => e = .returned (.int .u64 (if b = true then 1 else 0)) ∧ w = w' := by
  cases b
  · go_enter Tryd.func51, Tryd.ntmps51
    go_wp2
    go_ret
    exact ⟨rfl, rfl⟩
  · go_enter Tryd.func51, Tryd.ntmps51
    go_wp2
    go_ret
    exact ⟨rfl, rfl⟩
def RegB (r : Int) : Bool := decide (0 ≤ r) && decide (r ≤ 31)
theorem reg_any (r : Int) (w : World) : Calls Tryd.prog 38 #[.int .i64 r] w fun e w' => e = .returned (.bool (RegB r)) ∧ w = w' := by
  by_cases h : 0 ≤ r
  · go_enter Tryd.func38, Tryd.ntmps38
    go_wp2
    go_ret
    exact ⟨ret_bool (by unfold RegB; rw [decide_eq_true h]; rfl), rfl⟩
  · go_enter Tryd.func38, Tryd.ntmps38
    go_wp2
    go_ret
    exact ⟨ret_bool (by unfold RegB; rw [decide_eq_false (by omega)]; rfl), rfl⟩
end Go.Proofs.YtcbaokgdpmjhgaaDoor
