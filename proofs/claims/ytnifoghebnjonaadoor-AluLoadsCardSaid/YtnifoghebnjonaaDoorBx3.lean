/-
  Proved here: what the reference's products and quotients give. Conditions: the numbers are words.
-/
import Derived.Test.YtnifoghebnjonaaDoorBx1
namespace Go.Proofs.YtnifoghebnjonaaDoor
open Go.RowKit
set_option linter.unusedVariables false
set_option maxRecDepth 100000 in
set_option maxHeartbeats 1000000 in
theorem many_53 (a c : Int) (qa : InU a) (qc : InU c) (w : World) : Calls Tryd.prog 67 #[.int .i64 53, .int .u64 a, .int .u64 c] w fun e w' => e = .returned (.tuple #[.int .u64 (IntKind.u64.wrap (a * c)), .bool true]) ∧ w = w' := by
  go_enter Tryd.func67, Tryd.ntmps67
  repeat (first | (with_reducible refine then_exit ?_) | (with_reducible refine in_same ?_) | ((with_reducible refine in_other ?_ ?_); decide) | (with_reducible refine then_ret ?_) | (with_reducible refine in_ret ?_) | go_values | go_skip | go_guarded | go_step | go_upon | go_back)
  go_ret2
  exact ⟨rfl, rfl⟩
set_option maxRecDepth 100000 in
set_option maxHeartbeats 1000000 in
theorem many_54 (a c : Int) (qa : InU a) (qc : InU c) (w : World) : Calls Tryd.prog 67 #[.int .i64 54, .int .u64 a, .int .u64 c] w fun e w' => e = .returned (.tuple #[.int .u64 (Hgh a c true true), .bool true]) ∧ w = w' := by
  go_enter Tryd.func67, Tryd.ntmps67
  repeat (first | (with_reducible refine then_exit ?_) | (with_reducible refine in_same ?_) | ((with_reducible refine in_other ?_ ?_); decide) | (with_reducible refine then_ret ?_) | (with_reducible refine in_ret ?_) | go_values | go_skip | go_guarded | go_step | go_upon | go_back)
  refine (rHigh_any _ _ _ _ qa.1 qa.2 qc.1 qc.2 _).mono ?_
  rintro e w' ⟨rfl, rfl⟩
  simp only []
  repeat (first | (with_reducible refine then_exit ?_) | (with_reducible refine in_same ?_) | ((with_reducible refine in_other ?_ ?_); decide) | (with_reducible refine then_ret ?_) | (with_reducible refine in_ret ?_) | go_values | go_skip | go_guarded | go_step | go_upon | go_back)
  go_ret2
  exact ⟨rfl, rfl⟩
set_option maxRecDepth 100000 in
set_option maxHeartbeats 1000000 in
theorem many_55 (a c : Int) (qa : InU a) (qc : InU c) (w : World) : Calls Tryd.prog 67 #[.int .i64 55, .int .u64 a, .int .u64 c] w fun e w' => e = .returned (.tuple #[.int .u64 (Hgh a c true false), .bool true]) ∧ w = w' := by
  go_enter Tryd.func67, Tryd.ntmps67
  repeat (first | (with_reducible refine then_exit ?_) | (with_reducible refine in_same ?_) | ((with_reducible refine in_other ?_ ?_); decide) | (with_reducible refine then_ret ?_) | (with_reducible refine in_ret ?_) | go_values | go_skip | go_guarded | go_step | go_upon | go_back)
  refine (rHigh_any _ _ _ _ qa.1 qa.2 qc.1 qc.2 _).mono ?_
  rintro e w' ⟨rfl, rfl⟩
  simp only []
  repeat (first | (with_reducible refine then_exit ?_) | (with_reducible refine in_same ?_) | ((with_reducible refine in_other ?_ ?_); decide) | (with_reducible refine then_ret ?_) | (with_reducible refine in_ret ?_) | go_values | go_skip | go_guarded | go_step | go_upon | go_back)
  go_ret2
  exact ⟨rfl, rfl⟩
set_option maxRecDepth 100000 in
set_option maxHeartbeats 1000000 in
theorem many_56 (a c : Int) (qa : InU a) (qc : InU c) (w : World) : Calls Tryd.prog 67 #[.int .i64 56, .int .u64 a, .int .u64 c] w fun e w' => e = .returned (.tuple #[.int .u64 (Hgh a c false false), .bool true]) ∧ w = w' := by
  go_enter Tryd.func67, Tryd.ntmps67
  repeat (first | (with_reducible refine then_exit ?_) | (with_reducible refine in_same ?_) | ((with_reducible refine in_other ?_ ?_); decide) | (with_reducible refine then_ret ?_) | (with_reducible refine in_ret ?_) | go_values | go_skip | go_guarded | go_step | go_upon | go_back)
  refine (rHigh_any _ _ _ _ qa.1 qa.2 qc.1 qc.2 _).mono ?_
  rintro e w' ⟨rfl, rfl⟩
  simp only []
  repeat (first | (with_reducible refine then_exit ?_) | (with_reducible refine in_same ?_) | ((with_reducible refine in_other ?_ ?_); decide) | (with_reducible refine then_ret ?_) | (with_reducible refine in_ret ?_) | go_values | go_skip | go_guarded | go_step | go_upon | go_back)
  go_ret2
  exact ⟨rfl, rfl⟩
set_option maxRecDepth 100000 in
set_option maxHeartbeats 1000000 in
theorem many_57 (a c : Int) (qa : InU a) (qc : InU c) (w : World) : Calls Tryd.prog 67 #[.int .i64 57, .int .u64 a, .int .u64 c] w fun e w' => e = .returned (.tuple #[.int .u64 (_root_.Go.Proofs.YtnifoghebnjonaaDoor.Quo a c true), .bool true]) ∧ w = w' := by
  go_enter Tryd.func67, Tryd.ntmps67
  repeat (first | (with_reducible refine then_exit ?_) | (with_reducible refine in_same ?_) | ((with_reducible refine in_other ?_ ?_); decide) | (with_reducible refine then_ret ?_) | (with_reducible refine in_ret ?_) | go_values | go_skip | go_guarded | go_step | go_upon | go_back)
  refine (rquo_any _ _ _ qa.1 qa.2 qc.1 qc.2 _).mono ?_
  rintro e w' ⟨rfl, rfl⟩
  simp only []
  repeat (first | (with_reducible refine then_exit ?_) | (with_reducible refine in_same ?_) | ((with_reducible refine in_other ?_ ?_); decide) | (with_reducible refine then_ret ?_) | (with_reducible refine in_ret ?_) | go_values | go_skip | go_guarded | go_step | go_upon | go_back)
  go_ret2
  exact ⟨rfl, rfl⟩
set_option maxRecDepth 100000 in
set_option maxHeartbeats 1000000 in
theorem many_58 (a c : Int) (qa : InU a) (qc : InU c) (w : World) : Calls Tryd.prog 67 #[.int .i64 58, .int .u64 a, .int .u64 c] w fun e w' => e = .returned (.tuple #[.int .u64 (_root_.Go.Proofs.YtnifoghebnjonaaDoor.Quo a c false), .bool true]) ∧ w = w' := by
  go_enter Tryd.func67, Tryd.ntmps67
  repeat (first | (with_reducible refine then_exit ?_) | (with_reducible refine in_same ?_) | ((with_reducible refine in_other ?_ ?_); decide) | (with_reducible refine then_ret ?_) | (with_reducible refine in_ret ?_) | go_values | go_skip | go_guarded | go_step | go_upon | go_back)
  refine (rquo_any _ _ _ qa.1 qa.2 qc.1 qc.2 _).mono ?_
  rintro e w' ⟨rfl, rfl⟩
  simp only []
  repeat (first | (with_reducible refine then_exit ?_) | (with_reducible refine in_same ?_) | ((with_reducible refine in_other ?_ ?_); decide) | (with_reducible refine then_ret ?_) | (with_reducible refine in_ret ?_) | go_values | go_skip | go_guarded | go_step | go_upon | go_back)
  go_ret2
  exact ⟨rfl, rfl⟩
set_option maxRecDepth 100000 in
set_option maxHeartbeats 1000000 in
theorem many_59 (a c : Int) (qa : InU a) (qc : InU c) (w : World) : Calls Tryd.prog 67 #[.int .i64 59, .int .u64 a, .int .u64 c] w fun e w' => e = .returned (.tuple #[.int .u64 (_root_.Go.Proofs.YtnifoghebnjonaaDoor.Rem a c true), .bool true]) ∧ w = w' := by
  go_enter Tryd.func67, Tryd.ntmps67
  repeat (first | (with_reducible refine then_exit ?_) | (with_reducible refine in_same ?_) | ((with_reducible refine in_other ?_ ?_); decide) | (with_reducible refine then_ret ?_) | (with_reducible refine in_ret ?_) | go_values | go_skip | go_guarded | go_step | go_upon | go_back)
  refine (rrem_any _ _ _ qa.1 qa.2 qc.1 qc.2 _).mono ?_
  rintro e w' ⟨rfl, rfl⟩
  simp only []
  repeat (first | (with_reducible refine then_exit ?_) | (with_reducible refine in_same ?_) | ((with_reducible refine in_other ?_ ?_); decide) | (with_reducible refine then_ret ?_) | (with_reducible refine in_ret ?_) | go_values | go_skip | go_guarded | go_step | go_upon | go_back)
  go_ret2
  exact ⟨rfl, rfl⟩
set_option maxRecDepth 100000 in
set_option maxHeartbeats 1000000 in
theorem many_60 (a c : Int) (qa : InU a) (qc : InU c) (w : World) : Calls Tryd.prog 67 #[.int .i64 60, .int .u64 a, .int .u64 c] w fun e w' => e = .returned (.tuple #[.int .u64 (_root_.Go.Proofs.YtnifoghebnjonaaDoor.Rem a c false), .bool true]) ∧ w = w' := by
  go_enter Tryd.func67, Tryd.ntmps67
  repeat (first | (with_reducible refine then_exit ?_) | (with_reducible refine in_same ?_) | ((with_reducible refine in_other ?_ ?_); decide) | (with_reducible refine then_ret ?_) | (with_reducible refine in_ret ?_) | go_values | go_skip | go_guarded | go_step | go_upon | go_back)
  refine (rrem_any _ _ _ qa.1 qa.2 qc.1 qc.2 _).mono ?_
  rintro e w' ⟨rfl, rfl⟩
  simp only []
  repeat (first | (with_reducible refine then_exit ?_) | (with_reducible refine in_same ?_) | ((with_reducible refine in_other ?_ ?_); decide) | (with_reducible refine then_ret ?_) | (with_reducible refine in_ret ?_) | go_values | go_skip | go_guarded | go_step | go_upon | go_back)
  go_ret2
  exact ⟨rfl, rfl⟩
set_option maxRecDepth 100000 in
set_option maxHeartbeats 1000000 in
theorem many_none (op a c : Int) (h : op ≠ 53 ∧ op ≠ 54 ∧ op ≠ 55 ∧ op ≠ 56 ∧ op ≠ 57 ∧ op ≠ 58 ∧ op ≠ 59 ∧ op ≠ 60) (qa : InU a) (qc : InU c) (w : World) : Calls Tryd.prog 67 #[.int .i64 op, .int .u64 a, .int .u64 c] w fun e w' => e = .returned (.tuple #[.int .u64 0, .bool false]) ∧ w = w' := by
  have e53 : (op == 53) = false := beq_eq_false_iff_ne.2 (by omega)
  have e54 : (op == 54) = false := beq_eq_false_iff_ne.2 (by omega)
  have e55 : (op == 55) = false := beq_eq_false_iff_ne.2 (by omega)
  have e56 : (op == 56) = false := beq_eq_false_iff_ne.2 (by omega)
  have e57 : (op == 57) = false := beq_eq_false_iff_ne.2 (by omega)
  have e58 : (op == 58) = false := beq_eq_false_iff_ne.2 (by omega)
  have e59 : (op == 59) = false := beq_eq_false_iff_ne.2 (by omega)
  have e60 : (op == 60) = false := beq_eq_false_iff_ne.2 (by omega)
  clear h
  go_enter Tryd.func67, Tryd.ntmps67
  repeat (first | (with_reducible refine then_exit ?_) | (with_reducible refine in_same ?_) | ((with_reducible refine in_other ?_ ?_); decide) | (with_reducible refine then_ret ?_) | (with_reducible refine in_ret ?_) | go_values | go_skip | go_guarded | go_step | go_upon | go_back)
  go_ret2
  exact ⟨rfl, rfl⟩
end Go.Proofs.YtnifoghebnjonaaDoor
