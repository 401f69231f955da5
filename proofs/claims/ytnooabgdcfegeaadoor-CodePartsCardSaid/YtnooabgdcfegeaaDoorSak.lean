/-
  Proved here: which numbers a form may have, in the code and in the reference. Conditions: the form is one; the number is an int.
-/
import Derived.Test.YtnooabgdcfegeaaDoorSae
namespace Go.Proofs.YtnooabgdcfegeaaDoor
open Go.RowKit
set_option linter.unusedVariables false
/-- Which numbers a form may have. -/
def MayB (f v : Int) : Bool :=
  if f = 1 then (v.tmod 4096 == 0) && FitB v 32 else if f = 2 then (v.tmod 2 == 0) && FitB v 21 else if f = 4 then (v.tmod 2 == 0) && FitB v 13
  else if f = 3 then FitB v 12 else if f = 5 then FitB v 12 else if f = 6 then decide (0 ≤ v) && decide (v ≤ 63) else if f = 7 then decide (0 ≤ v) && decide (v ≤ 31)
  else if f = 9 then decide (0 ≤ v) && decide (v ≤ 255) else v == 0
theorem may_0 (v : Int) (v0 : -9223372036854775808 ≤ v) (v1 : v < 9223372036854775808) (w : World) : Calls Tryd.prog 78 #[.int .u32 0, .int .i64 v] w fun e w' => e = .returned (.bool (MayB 0 v)) ∧ w = w' := by
  go_enter Tryd.func78, Tryd.ntmps78
  go_wp2_with fail
  go_ret
  exact ⟨rfl, rfl⟩
theorem may_1 (v : Int) (v0 : -9223372036854775808 ≤ v) (v1 : v < 9223372036854775808) (w : World) : Calls Tryd.prog 78 #[.int .u32 1048576, .int .i64 v] w fun e w' => e = .returned (.bool (MayB 1 v)) ∧ w = w' := by
  cases c : (v.tmod 4096 == 0)
  · have H : Hid (false = MayB 1 v) := by unfold MayB; simp only [reduceIte, Int.reduceEq, c]; rfl
    go_enter Tryd.func78, Tryd.ntmps78
    go_wp2_with fail
    go_ret
    exact ⟨ret_bool H.out, rfl⟩
  · have H : Hid (FitB v 32 = MayB 1 v) := by unfold MayB; simp only [reduceIte, Int.reduceEq, c]; rfl
    go_enter Tryd.func78, Tryd.ntmps78
    go_wp2_with fail
    refine (sg_1 _).mono ?_
    rintro e w' ⟨rfl, rfl⟩
    go_wp2_with fail
    refine (fits_any _ _ v0 v1 _).mono ?_
    rintro e w' ⟨rfl, rfl⟩
    go_wp2_with fail
    go_ret
    exact ⟨ret_bool H.out, rfl⟩
theorem may_2 (v : Int) (v0 : -9223372036854775808 ≤ v) (v1 : v < 9223372036854775808) (w : World) : Calls Tryd.prog 78 #[.int .u32 2097152, .int .i64 v] w fun e w' => e = .returned (.bool (MayB 2 v)) ∧ w = w' := by
  cases c : (v.tmod 2 == 0)
  · have H : Hid (false = MayB 2 v) := by unfold MayB; simp only [reduceIte, Int.reduceEq, c]; rfl
    go_enter Tryd.func78, Tryd.ntmps78
    go_wp2_with fail
    go_ret
    exact ⟨ret_bool H.out, rfl⟩
  · have H : Hid (FitB v 21 = MayB 2 v) := by unfold MayB; simp only [reduceIte, Int.reduceEq, c]; rfl
    go_enter Tryd.func78, Tryd.ntmps78
    go_wp2_with fail
    refine (sg_2 _).mono ?_
    rintro e w' ⟨rfl, rfl⟩
    go_wp2_with fail
    refine (fits_any _ _ v0 v1 _).mono ?_
    rintro e w' ⟨rfl, rfl⟩
    go_wp2_with fail
    go_ret
    exact ⟨ret_bool H.out, rfl⟩
theorem may_3 (v : Int) (v0 : -9223372036854775808 ≤ v) (v1 : v < 9223372036854775808) (w : World) : Calls Tryd.prog 78 #[.int .u32 3145728, .int .i64 v] w fun e w' => e = .returned (.bool (MayB 3 v)) ∧ w = w' := by
  have H : Hid (FitB v 12 = MayB 3 v) := Lib.hid rfl
  go_enter Tryd.func78, Tryd.ntmps78
  go_wp2_with fail
  refine (sg_3 _).mono ?_
  rintro e w' ⟨rfl, rfl⟩
  go_wp2_with fail
  refine (fits_any _ _ v0 v1 _).mono ?_
  rintro e w' ⟨rfl, rfl⟩
  go_wp2_with fail
  go_ret
  exact ⟨ret_bool H.out, rfl⟩
theorem may_4 (v : Int) (v0 : -9223372036854775808 ≤ v) (v1 : v < 9223372036854775808) (w : World) : Calls Tryd.prog 78 #[.int .u32 4194304, .int .i64 v] w fun e w' => e = .returned (.bool (MayB 4 v)) ∧ w = w' := by
  cases c : (v.tmod 2 == 0)
  · have H : Hid (false = MayB 4 v) := by unfold MayB; simp only [reduceIte, Int.reduceEq, c]; rfl
    go_enter Tryd.func78, Tryd.ntmps78
    go_wp2_with fail
    go_ret
    exact ⟨ret_bool H.out, rfl⟩
  · have H : Hid (FitB v 13 = MayB 4 v) := by unfold MayB; simp only [reduceIte, Int.reduceEq, c]; rfl
    go_enter Tryd.func78, Tryd.ntmps78
    go_wp2_with fail
    refine (sg_4 _).mono ?_
    rintro e w' ⟨rfl, rfl⟩
    go_wp2_with fail
    refine (fits_any _ _ v0 v1 _).mono ?_
    rintro e w' ⟨rfl, rfl⟩
    go_wp2_with fail
    go_ret
    exact ⟨ret_bool H.out, rfl⟩
theorem may_5 (v : Int) (v0 : -9223372036854775808 ≤ v) (v1 : v < 9223372036854775808) (w : World) : Calls Tryd.prog 78 #[.int .u32 5242880, .int .i64 v] w fun e w' => e = .returned (.bool (MayB 5 v)) ∧ w = w' := by
  have H : Hid (FitB v 12 = MayB 5 v) := Lib.hid rfl
  go_enter Tryd.func78, Tryd.ntmps78
  go_wp2_with fail
  refine (sg_5 _).mono ?_
  rintro e w' ⟨rfl, rfl⟩
  go_wp2_with fail
  refine (fits_any _ _ v0 v1 _).mono ?_
  rintro e w' ⟨rfl, rfl⟩
  go_wp2_with fail
  go_ret
  exact ⟨ret_bool H.out, rfl⟩
theorem may_6 (v : Int) (v0 : -9223372036854775808 ≤ v) (v1 : v < 9223372036854775808) (w : World) : Calls Tryd.prog 78 #[.int .u32 6291456, .int .i64 v] w fun e w' => e = .returned (.bool (MayB 6 v)) ∧ w = w' := by
  by_cases c : 0 ≤ v
  · have H : Hid (decide (v ≤ 63) = MayB 6 v) := by show _ = (decide (0 ≤ v) && decide (v ≤ 63)); rw [decide_eq_true c]; rfl
    go_enter Tryd.func78, Tryd.ntmps78
    go_wp2_with fail
    go_ret
    exact ⟨ret_bool H.out, rfl⟩
  · have H : Hid (false = MayB 6 v) := by show _ = (decide (0 ≤ v) && decide (v ≤ 63)); rw [decide_eq_false c]; rfl
    go_enter Tryd.func78, Tryd.ntmps78
    go_wp2_with fail
    go_ret
    exact ⟨ret_bool H.out, rfl⟩
theorem may_7 (v : Int) (v0 : -9223372036854775808 ≤ v) (v1 : v < 9223372036854775808) (w : World) : Calls Tryd.prog 78 #[.int .u32 7340032, .int .i64 v] w fun e w' => e = .returned (.bool (MayB 7 v)) ∧ w = w' := by
  by_cases c : 0 ≤ v
  · have H : Hid (decide (v ≤ 31) = MayB 7 v) := by show _ = (decide (0 ≤ v) && decide (v ≤ 31)); rw [decide_eq_true c]; rfl
    go_enter Tryd.func78, Tryd.ntmps78
    go_wp2_with fail
    go_ret
    exact ⟨ret_bool H.out, rfl⟩
  · have H : Hid (false = MayB 7 v) := by show _ = (decide (0 ≤ v) && decide (v ≤ 31)); rw [decide_eq_false c]; rfl
    go_enter Tryd.func78, Tryd.ntmps78
    go_wp2_with fail
    go_ret
    exact ⟨ret_bool H.out, rfl⟩
theorem may_8 (v : Int) (v0 : -9223372036854775808 ≤ v) (v1 : v < 9223372036854775808) (w : World) : Calls Tryd.prog 78 #[.int .u32 8388608, .int .i64 v] w fun e w' => e = .returned (.bool (MayB 8 v)) ∧ w = w' := by
  go_enter Tryd.func78, Tryd.ntmps78
  go_wp2_with fail
  go_ret
  exact ⟨rfl, rfl⟩
theorem may_9 (v : Int) (v0 : -9223372036854775808 ≤ v) (v1 : v < 9223372036854775808) (w : World) : Calls Tryd.prog 78 #[.int .u32 9437184, .int .i64 v] w fun e w' => e = .returned (.bool (MayB 9 v)) ∧ w = w' := by
  by_cases c : 0 ≤ v
  · have H : Hid (decide (v ≤ 255) = MayB 9 v) := by show _ = (decide (0 ≤ v) && decide (v ≤ 255)); rw [decide_eq_true c]; rfl
    go_enter Tryd.func78, Tryd.ntmps78
    go_wp2_with fail
    go_ret
    exact ⟨ret_bool H.out, rfl⟩
  · have H : Hid (false = MayB 9 v) := by show _ = (decide (0 ≤ v) && decide (v ≤ 255)); rw [decide_eq_false c]; rfl
    go_enter Tryd.func78, Tryd.ntmps78
    go_wp2_with fail
    go_ret
    exact ⟨ret_bool H.out, rfl⟩
theorem may_10 (v : Int) (v0 : -9223372036854775808 ≤ v) (v1 : v < 9223372036854775808) (w : World) : Calls Tryd.prog 78 #[.int .u32 10485760, .int .i64 v] w fun e w' => e = .returned (.bool (MayB 10 v)) ∧ w = w' := by
  go_enter Tryd.func78, Tryd.ntmps78
  go_wp2_with fail
  go_ret
  exact ⟨rfl, rfl⟩
theorem may_11 (v : Int) (v0 : -9223372036854775808 ≤ v) (v1 : v < 9223372036854775808) (w : World) : Calls Tryd.prog 78 #[.int .u32 11534336, .int .i64 v] w fun e w' => e = .returned (.bool (MayB 11 v)) ∧ w = w' := by
  go_enter Tryd.func78, Tryd.ntmps78
  go_wp2_with fail
  go_ret
  exact ⟨rfl, rfl⟩
theorem may_12 (v : Int) (v0 : -9223372036854775808 ≤ v) (v1 : v < 9223372036854775808) (w : World) : Calls Tryd.prog 78 #[.int .u32 12582912, .int .i64 v] w fun e w' => e = .returned (.bool (MayB 12 v)) ∧ w = w' := by
  go_enter Tryd.func78, Tryd.ntmps78
  go_wp2_with fail
  go_ret
  exact ⟨rfl, rfl⟩
theorem may_any (f : Int) (h0 : 0 ≤ f) (h1 : f ≤ 12) (v : Int) (v0 : -9223372036854775808 ≤ v) (v1 : v < 9223372036854775808) (w : World) : Calls Tryd.prog 78 #[.int .u32 (1048576 * f), .int .i64 v] w fun e w' => e = .returned (.bool (MayB f v)) ∧ w = w' := by
  obtain ⟨n, rfl⟩ := Int.eq_ofNat_of_zero_le h0
  match n, h1 with
  | 0, _ => exact may_0 v v0 v1 w
  | 1, _ => exact may_1 v v0 v1 w
  | 2, _ => exact may_2 v v0 v1 w
  | 3, _ => exact may_3 v v0 v1 w
  | 4, _ => exact may_4 v v0 v1 w
  | 5, _ => exact may_5 v v0 v1 w
  | 6, _ => exact may_6 v v0 v1 w
  | 7, _ => exact may_7 v v0 v1 w
  | 8, _ => exact may_8 v v0 v1 w
  | 9, _ => exact may_9 v v0 v1 w
  | 10, _ => exact may_10 v v0 v1 w
  | 11, _ => exact may_11 v v0 v1 w
  | 12, _ => exact may_12 v v0 v1 w
  | n + 13, h => exact absurd h (by omega)
end Go.Proofs.YtnooabgdcfegeaaDoor
