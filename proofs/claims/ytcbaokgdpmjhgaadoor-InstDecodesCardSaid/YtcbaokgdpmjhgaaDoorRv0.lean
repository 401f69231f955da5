/-
  Proved here: what the reference's small functions on words answer: a field, a number with its sign. Conditions: the word is a word.
-/
import Derived.Test.YtcbaokgdpmjhgaaDoorRe
namespace Go.Proofs.YtcbaokgdpmjhgaaDoor
open Go.RowKit
set_option linter.unusedVariables false
theorem rf_any (u low n : Int) (u0 : 0 ≤ u) (u1 : u < 4294967296) (w : World) :
    Calls Tryd.prog 63 #[.int .u32 u, .int .i64 low, .int .i64 n] w fun e w' => e = .returned (.int .u64 (Fld u low n)) ∧ w' = w := by
  go_enter Tryd.func63, Tryd.ntmps63
  go_wp2_with fail
  refine (rfield_any _ _ _ u0 (by omega) _).mono ?_
  rintro e w' ⟨rfl, rfl⟩
  go_wp2_with fail
  go_ret
  exact ⟨rfl, rfl⟩
theorem rs_any (x n : Int) (h0 : 0 ≤ x) (h1 : x < 18446744073709551616) (w : World) :
    Calls Tryd.prog 68 #[.int .u64 x, .int .i64 n] w fun e w' => e = .returned (.int .i64 (wrap64 (Sgn x n))) ∧ w' = w := by
  go_enter Tryd.func68, Tryd.ntmps68
  go_wp2_with fail
  refine (rsign_any _ _ h0 h1 _).mono ?_
  rintro e w' ⟨rfl, rfl⟩
  go_wp2_with fail
  go_ret
  exact ⟨rfl, rfl⟩
theorem wr (x : Int) : 0 ≤ IntKind.u64.wrap x ∧ IntKind.u64.wrap x < 18446744073709551616 := by rw [IntKind.wrap_u64]; omega
end Go.Proofs.YtcbaokgdpmjhgaaDoor
