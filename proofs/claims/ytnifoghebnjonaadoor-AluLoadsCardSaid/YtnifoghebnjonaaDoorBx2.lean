/-
  Proved here: what the reference's operations of two numbers of 32 bits give. Conditions: the numbers are words.
-/
import Derived.Test.YtnifoghebnjonaaDoorBx1
namespace Go.Proofs.YtnifoghebnjonaaDoor
open Go.RowKit
set_option linter.unusedVariables false
set_option maxRecDepth 100000 in
set_option maxHeartbeats 1000000 in
theorem narrow_45 (a c : Int) (qa : InU a) (qc : InU c) (w : World) : Calls Tryd.prog 66 #[.int .i64 45, .int .u64 a, .int .u64 c] w fun e w' => e = .returned (.tuple #[.int .u64 (Sgn (IntKind.u64.wrap ((Sgn a 32) + (Sgn c 32))) 32), .bool true]) ∧ w = w' := by
  have HR : Hid (Sgn (IntKind.u64.wrap (a + c)) 32 = Sgn (IntKind.u64.wrap ((Sgn a 32) + (Sgn c 32))) 32) := Lib.hid (w_add a c qa qc)
  have m0 : 0 ≤ c % 32 := by omega
  have m1 : c % 32 ≤ 31 := by omega
  have hF := Lib.hid (fld5 c qc.1)
  go_enter Tryd.func66, Tryd.ntmps66
  repeat (first | (with_reducible refine then_exit ?_) | (with_reducible refine in_same ?_) | ((with_reducible refine in_other ?_ ?_); decide) | (with_reducible refine then_ret ?_) | (with_reducible refine in_ret ?_) | go_values | go_skip | go_guarded | go_step | go_upon | go_back)
  refine (rfield_any _ _ _ qc.1 qc.2 _).mono ?_
  rintro e w' ⟨rfl, rfl⟩
  rw [hF.out]
  simp only []
  repeat (first | (with_reducible refine then_exit ?_) | (with_reducible refine in_same ?_) | ((with_reducible refine in_other ?_ ?_); decide) | (with_reducible refine then_ret ?_) | (with_reducible refine in_ret ?_) | go_values | go_skip | go_guarded | go_step | go_upon | go_back)
  refine (rword_any _ (in_wrap _) _).mono ?_
  rintro e w' ⟨rfl, rfl⟩
  simp only []
  repeat (first | (with_reducible refine then_exit ?_) | (with_reducible refine in_same ?_) | ((with_reducible refine in_other ?_ ?_); decide) | (with_reducible refine then_ret ?_) | (with_reducible refine in_ret ?_) | go_values | go_skip | go_guarded | go_step | go_upon | go_back)
  go_ret2
  exact ⟨rett2 HR.out, rfl⟩
set_option maxRecDepth 100000 in
set_option maxHeartbeats 1000000 in
theorem narrow_41 (a c : Int) (qa : InU a) (qc : InU c) (w : World) : Calls Tryd.prog 66 #[.int .i64 41, .int .u64 a, .int .u64 c] w fun e w' => e = .returned (.tuple #[.int .u64 (Sgn (IntKind.u64.wrap ((Sgn a 32) + (Sgn c 32))) 32), .bool true]) ∧ w = w' := by
  have HR : Hid (Sgn (IntKind.u64.wrap (a + c)) 32 = Sgn (IntKind.u64.wrap ((Sgn a 32) + (Sgn c 32))) 32) := Lib.hid (w_add a c qa qc)
  have m0 : 0 ≤ c % 32 := by omega
  have m1 : c % 32 ≤ 31 := by omega
  have hF := Lib.hid (fld5 c qc.1)
  go_enter Tryd.func66, Tryd.ntmps66
  repeat (first | (with_reducible refine then_exit ?_) | (with_reducible refine in_same ?_) | ((with_reducible refine in_other ?_ ?_); decide) | (with_reducible refine then_ret ?_) | (with_reducible refine in_ret ?_) | go_values | go_skip | go_guarded | go_step | go_upon | go_back)
  refine (rfield_any _ _ _ qc.1 qc.2 _).mono ?_
  rintro e w' ⟨rfl, rfl⟩
  rw [hF.out]
  simp only []
  repeat (first | (with_reducible refine then_exit ?_) | (with_reducible refine in_same ?_) | ((with_reducible refine in_other ?_ ?_); decide) | (with_reducible refine then_ret ?_) | (with_reducible refine in_ret ?_) | go_values | go_skip | go_guarded | go_step | go_upon | go_back)
  refine (rword_any _ (in_wrap _) _).mono ?_
  rintro e w' ⟨rfl, rfl⟩
  simp only []
  repeat (first | (with_reducible refine then_exit ?_) | (with_reducible refine in_same ?_) | ((with_reducible refine in_other ?_ ?_); decide) | (with_reducible refine then_ret ?_) | (with_reducible refine in_ret ?_) | go_values | go_skip | go_guarded | go_step | go_upon | go_back)
  go_ret2
  exact ⟨rett2 HR.out, rfl⟩
set_option maxRecDepth 100000 in
set_option maxHeartbeats 1000000 in
theorem narrow_46 (a c : Int) (qa : InU a) (qc : InU c) (w : World) : Calls Tryd.prog 66 #[.int .i64 46, .int .u64 a, .int .u64 c] w fun e w' => e = .returned (.tuple #[.int .u64 (Sgn (IntKind.u64.wrap ((Sgn a 32) - (Sgn c 32))) 32), .bool true]) ∧ w = w' := by
  have HR : Hid (Sgn (IntKind.u64.wrap (a - c)) 32 = Sgn (IntKind.u64.wrap ((Sgn a 32) - (Sgn c 32))) 32) := Lib.hid (w_sub a c qa qc)
  have m0 : 0 ≤ c % 32 := by omega
  have m1 : c % 32 ≤ 31 := by omega
  have hF := Lib.hid (fld5 c qc.1)
  go_enter Tryd.func66, Tryd.ntmps66
  repeat (first | (with_reducible refine then_exit ?_) | (with_reducible refine in_same ?_) | ((with_reducible refine in_other ?_ ?_); decide) | (with_reducible refine then_ret ?_) | (with_reducible refine in_ret ?_) | go_values | go_skip | go_guarded | go_step | go_upon | go_back)
  refine (rfield_any _ _ _ qc.1 qc.2 _).mono ?_
  rintro e w' ⟨rfl, rfl⟩
  rw [hF.out]
  simp only []
  repeat (first | (with_reducible refine then_exit ?_) | (with_reducible refine in_same ?_) | ((with_reducible refine in_other ?_ ?_); decide) | (with_reducible refine then_ret ?_) | (with_reducible refine in_ret ?_) | go_values | go_skip | go_guarded | go_step | go_upon | go_back)
  refine (rword_any _ (in_wrap _) _).mono ?_
  rintro e w' ⟨rfl, rfl⟩
  simp only []
  repeat (first | (with_reducible refine then_exit ?_) | (with_reducible refine in_same ?_) | ((with_reducible refine in_other ?_ ?_); decide) | (with_reducible refine then_ret ?_) | (with_reducible refine in_ret ?_) | go_values | go_skip | go_guarded | go_step | go_upon | go_back)
  go_ret2
  exact ⟨rett2 HR.out, rfl⟩
set_option maxRecDepth 100000 in
set_option maxHeartbeats 1000000 in
theorem narrow_47 (a c : Int) (qa : InU a) (qc : InU c) (w : World) : Calls Tryd.prog 66 #[.int .i64 47, .int .u64 a, .int .u64 c] w fun e w' => e = .returned (.tuple #[.int .u64 (Sgn (IntKind.u64.wrap ((Fld a 0 32) * 2 ^ ((Fld c 0 32) % 32).toNat)) 32), .bool true]) ∧ w = w' := by
  have HR : Hid (Sgn (Shl a (c % 32).toNat) 32 = Sgn (IntKind.u64.wrap ((Fld a 0 32) * 2 ^ ((Fld c 0 32) % 32).toNat)) 32) := Lib.hid (w_shl a c qa qc)
  have m0 : 0 ≤ c % 32 := by omega
  have m1 : c % 32 ≤ 31 := by omega
  have hF := Lib.hid (fld5 c qc.1)
  go_enter Tryd.func66, Tryd.ntmps66
  repeat (first | (with_reducible refine then_exit ?_) | (with_reducible refine in_same ?_) | ((with_reducible refine in_other ?_ ?_); decide) | (with_reducible refine then_ret ?_) | (with_reducible refine in_ret ?_) | go_values | go_skip | go_guarded | go_step | go_upon | go_back)
  refine (rfield_any _ _ _ qc.1 qc.2 _).mono ?_
  rintro e w' ⟨rfl, rfl⟩
  rw [hF.out]
  simp only []
  repeat (first | (with_reducible refine then_exit ?_) | (with_reducible refine in_same ?_) | ((with_reducible refine in_other ?_ ?_); decide) | (with_reducible refine then_ret ?_) | (with_reducible refine in_ret ?_) | go_values | go_skip | go_guarded | go_step | go_upon | go_back)
  refine (rleft_any _ _ qa m0 (by omega) _).mono ?_
  rintro e w' ⟨rfl, rfl⟩
  simp only []
  repeat (first | (with_reducible refine then_exit ?_) | (with_reducible refine in_same ?_) | ((with_reducible refine in_other ?_ ?_); decide) | (with_reducible refine then_ret ?_) | (with_reducible refine in_ret ?_) | go_values | go_skip | go_guarded | go_step | go_upon | go_back)
  refine (rword_any _ (in_wrap _) _).mono ?_
  rintro e w' ⟨rfl, rfl⟩
  simp only []
  repeat (first | (with_reducible refine then_exit ?_) | (with_reducible refine in_same ?_) | ((with_reducible refine in_other ?_ ?_); decide) | (with_reducible refine then_ret ?_) | (with_reducible refine in_ret ?_) | go_values | go_skip | go_guarded | go_step | go_upon | go_back)
  go_ret2
  exact ⟨rett2 HR.out, rfl⟩
set_option maxRecDepth 100000 in
set_option maxHeartbeats 1000000 in
theorem narrow_42 (a c : Int) (qa : InU a) (qc : InU c) (w : World) : Calls Tryd.prog 66 #[.int .i64 42, .int .u64 a, .int .u64 c] w fun e w' => e = .returned (.tuple #[.int .u64 (Sgn (IntKind.u64.wrap ((Fld a 0 32) * 2 ^ ((Fld c 0 32) % 32).toNat)) 32), .bool true]) ∧ w = w' := by
  have HR : Hid (Sgn (Shl a (c % 32).toNat) 32 = Sgn (IntKind.u64.wrap ((Fld a 0 32) * 2 ^ ((Fld c 0 32) % 32).toNat)) 32) := Lib.hid (w_shl a c qa qc)
  have m0 : 0 ≤ c % 32 := by omega
  have m1 : c % 32 ≤ 31 := by omega
  have hF := Lib.hid (fld5 c qc.1)
  go_enter Tryd.func66, Tryd.ntmps66
  repeat (first | (with_reducible refine then_exit ?_) | (with_reducible refine in_same ?_) | ((with_reducible refine in_other ?_ ?_); decide) | (with_reducible refine then_ret ?_) | (with_reducible refine in_ret ?_) | go_values | go_skip | go_guarded | go_step | go_upon | go_back)
  refine (rfield_any _ _ _ qc.1 qc.2 _).mono ?_
  rintro e w' ⟨rfl, rfl⟩
  rw [hF.out]
  simp only []
  repeat (first | (with_reducible refine then_exit ?_) | (with_reducible refine in_same ?_) | ((with_reducible refine in_other ?_ ?_); decide) | (with_reducible refine then_ret ?_) | (with_reducible refine in_ret ?_) | go_values | go_skip | go_guarded | go_step | go_upon | go_back)
  refine (rleft_any _ _ qa m0 (by omega) _).mono ?_
  rintro e w' ⟨rfl, rfl⟩
  simp only []
  repeat (first | (with_reducible refine then_exit ?_) | (with_reducible refine in_same ?_) | ((with_reducible refine in_other ?_ ?_); decide) | (with_reducible refine then_ret ?_) | (with_reducible refine in_ret ?_) | go_values | go_skip | go_guarded | go_step | go_upon | go_back)
  refine (rword_any _ (in_wrap _) _).mono ?_
  rintro e w' ⟨rfl, rfl⟩
  simp only []
  repeat (first | (with_reducible refine then_exit ?_) | (with_reducible refine in_same ?_) | ((with_reducible refine in_other ?_ ?_); decide) | (with_reducible refine then_ret ?_) | (with_reducible refine in_ret ?_) | go_values | go_skip | go_guarded | go_step | go_upon | go_back)
  go_ret2
  exact ⟨rett2 HR.out, rfl⟩
set_option maxRecDepth 100000 in
set_option maxHeartbeats 1000000 in
theorem narrow_48 (a c : Int) (qa : InU a) (qc : InU c) (w : World) : Calls Tryd.prog 66 #[.int .i64 48, .int .u64 a, .int .u64 c] w fun e w' => e = .returned (.tuple #[.int .u64 (Sgn ((Fld a 0 32) / 2 ^ ((Fld c 0 32) % 32).toNat) 32), .bool true]) ∧ w = w' := by
  have HR : Hid (Sgn (Fld a 0 32 / 2 ^ (c % 32).toNat) 32 = Sgn ((Fld a 0 32) / 2 ^ ((Fld c 0 32) % 32).toNat) 32) := Lib.hid (w_shr a c qa qc)
  have m0 : 0 ≤ c % 32 := by omega
  have m1 : c % 32 ≤ 31 := by omega
  have hF := Lib.hid (fld5 c qc.1)
  go_enter Tryd.func66, Tryd.ntmps66
  repeat (first | (with_reducible refine then_exit ?_) | (with_reducible refine in_same ?_) | ((with_reducible refine in_other ?_ ?_); decide) | (with_reducible refine then_ret ?_) | (with_reducible refine in_ret ?_) | go_values | go_skip | go_guarded | go_step | go_upon | go_back)
  refine (rfield_any _ _ _ qc.1 qc.2 _).mono ?_
  rintro e w' ⟨rfl, rfl⟩
  rw [hF.out]
  simp only []
  repeat (first | (with_reducible refine then_exit ?_) | (with_reducible refine in_same ?_) | ((with_reducible refine in_other ?_ ?_); decide) | (with_reducible refine then_ret ?_) | (with_reducible refine in_ret ?_) | go_values | go_skip | go_guarded | go_step | go_upon | go_back)
  refine (rlow_any _ qa _).mono ?_
  rintro e w' ⟨rfl, rfl⟩
  simp only []
  repeat (first | (with_reducible refine then_exit ?_) | (with_reducible refine in_same ?_) | ((with_reducible refine in_other ?_ ?_); decide) | (with_reducible refine then_ret ?_) | (with_reducible refine in_ret ?_) | go_values | go_skip | go_guarded | go_step | go_upon | go_back)
  refine (rright0_any _ _ (in_fld _ 0 32 qa) m0 (by omega) _).mono ?_
  rintro e w' ⟨rfl, rfl⟩
  simp only []
  repeat (first | (with_reducible refine then_exit ?_) | (with_reducible refine in_same ?_) | ((with_reducible refine in_other ?_ ?_); decide) | (with_reducible refine then_ret ?_) | (with_reducible refine in_ret ?_) | go_values | go_skip | go_guarded | go_step | go_upon | go_back)
  refine (rword_any _ (shr_in _ _ (in_fld _ 0 32 qa)) _).mono ?_
  rintro e w' ⟨rfl, rfl⟩
  simp only []
  repeat (first | (with_reducible refine then_exit ?_) | (with_reducible refine in_same ?_) | ((with_reducible refine in_other ?_ ?_); decide) | (with_reducible refine then_ret ?_) | (with_reducible refine in_ret ?_) | go_values | go_skip | go_guarded | go_step | go_upon | go_back)
  go_ret2
  exact ⟨rett2 HR.out, rfl⟩
set_option maxRecDepth 100000 in
set_option maxHeartbeats 1000000 in
theorem narrow_43 (a c : Int) (qa : InU a) (qc : InU c) (w : World) : Calls Tryd.prog 66 #[.int .i64 43, .int .u64 a, .int .u64 c] w fun e w' => e = .returned (.tuple #[.int .u64 (Sgn ((Fld a 0 32) / 2 ^ ((Fld c 0 32) % 32).toNat) 32), .bool true]) ∧ w = w' := by
  have HR : Hid (Sgn (Fld a 0 32 / 2 ^ (c % 32).toNat) 32 = Sgn ((Fld a 0 32) / 2 ^ ((Fld c 0 32) % 32).toNat) 32) := Lib.hid (w_shr a c qa qc)
  have m0 : 0 ≤ c % 32 := by omega
  have m1 : c % 32 ≤ 31 := by omega
  have hF := Lib.hid (fld5 c qc.1)
  go_enter Tryd.func66, Tryd.ntmps66
  repeat (first | (with_reducible refine then_exit ?_) | (with_reducible refine in_same ?_) | ((with_reducible refine in_other ?_ ?_); decide) | (with_reducible refine then_ret ?_) | (with_reducible refine in_ret ?_) | go_values | go_skip | go_guarded | go_step | go_upon | go_back)
  refine (rfield_any _ _ _ qc.1 qc.2 _).mono ?_
  rintro e w' ⟨rfl, rfl⟩
  rw [hF.out]
  simp only []
  repeat (first | (with_reducible refine then_exit ?_) | (with_reducible refine in_same ?_) | ((with_reducible refine in_other ?_ ?_); decide) | (with_reducible refine then_ret ?_) | (with_reducible refine in_ret ?_) | go_values | go_skip | go_guarded | go_step | go_upon | go_back)
  refine (rlow_any _ qa _).mono ?_
  rintro e w' ⟨rfl, rfl⟩
  simp only []
  repeat (first | (with_reducible refine then_exit ?_) | (with_reducible refine in_same ?_) | ((with_reducible refine in_other ?_ ?_); decide) | (with_reducible refine then_ret ?_) | (with_reducible refine in_ret ?_) | go_values | go_skip | go_guarded | go_step | go_upon | go_back)
  refine (rright0_any _ _ (in_fld _ 0 32 qa) m0 (by omega) _).mono ?_
  rintro e w' ⟨rfl, rfl⟩
  simp only []
  repeat (first | (with_reducible refine then_exit ?_) | (with_reducible refine in_same ?_) | ((with_reducible refine in_other ?_ ?_); decide) | (with_reducible refine then_ret ?_) | (with_reducible refine in_ret ?_) | go_values | go_skip | go_guarded | go_step | go_upon | go_back)
  refine (rword_any _ (shr_in _ _ (in_fld _ 0 32 qa)) _).mono ?_
  rintro e w' ⟨rfl, rfl⟩
  simp only []
  repeat (first | (with_reducible refine then_exit ?_) | (with_reducible refine in_same ?_) | ((with_reducible refine in_other ?_ ?_); decide) | (with_reducible refine then_ret ?_) | (with_reducible refine in_ret ?_) | go_values | go_skip | go_guarded | go_step | go_upon | go_back)
  go_ret2
  exact ⟨rett2 HR.out, rfl⟩
set_option maxRecDepth 100000 in
set_option maxHeartbeats 1000000 in
theorem narrow_49 (a c : Int) (qa : InU a) (qc : InU c) (w : World) : Calls Tryd.prog 66 #[.int .i64 49, .int .u64 a, .int .u64 c] w fun e w' => e = .returned (.tuple #[.int .u64 (Sgn (Sar (Sgn a 32) (Sgn c 32) 32) 32), .bool true]) ∧ w = w' := by
  have HR : Hid (Sgn (Asr (Sgn a 32) (c % 32).toNat) 32 = Sgn (Sar (Sgn a 32) (Sgn c 32) 32) 32) := Lib.hid (w_sar a c qa qc)
  have m0 : 0 ≤ c % 32 := by omega
  have m1 : c % 32 ≤ 31 := by omega
  have hF := Lib.hid (fld5 c qc.1)
  have hT : Hid (Bt a 31 = Bt (Sgn a 32) 63) := Lib.hid (bt31 a qa)
  obtain ⟨t0, t1⟩ := bt31_range a qa
  go_enter Tryd.func66, Tryd.ntmps66
  repeat (first | (with_reducible refine then_exit ?_) | (with_reducible refine in_same ?_) | ((with_reducible refine in_other ?_ ?_); decide) | (with_reducible refine then_ret ?_) | (with_reducible refine in_ret ?_) | go_values | go_skip | go_guarded | go_step | go_upon | go_back)
  refine (rfield_any _ _ _ qc.1 qc.2 _).mono ?_
  rintro e w' ⟨rfl, rfl⟩
  rw [hF.out]
  simp only []
  repeat (first | (with_reducible refine then_exit ?_) | (with_reducible refine in_same ?_) | ((with_reducible refine in_other ?_ ?_); decide) | (with_reducible refine then_ret ?_) | (with_reducible refine in_ret ?_) | go_values | go_skip | go_guarded | go_step | go_upon | go_back)
  refine (rword_any _ qa _).mono ?_
  rintro e w' ⟨rfl, rfl⟩
  simp only []
  repeat (first | (with_reducible refine then_exit ?_) | (with_reducible refine in_same ?_) | ((with_reducible refine in_other ?_ ?_); decide) | (with_reducible refine then_ret ?_) | (with_reducible refine in_ret ?_) | go_values | go_skip | go_guarded | go_step | go_upon | go_back)
  refine (rbit_any _ _ qa.1 qa.2 (by decide) (by decide) _).mono ?_
  rintro e w' ⟨rfl, rfl⟩
  simp only []
  repeat (first | (with_reducible refine then_exit ?_) | (with_reducible refine in_same ?_) | ((with_reducible refine in_other ?_ ?_); decide) | (with_reducible refine then_ret ?_) | (with_reducible refine in_ret ?_) | go_values | go_skip | go_guarded | go_step | go_upon | go_back)
  refine (rrights_any _ _ _ (in_sgn _ 32 qa) hT t0 t1 m0 (by omega) _).mono ?_
  rintro e w' ⟨rfl, rfl⟩
  simp only []
  repeat (first | (with_reducible refine then_exit ?_) | (with_reducible refine in_same ?_) | ((with_reducible refine in_other ?_ ?_); decide) | (with_reducible refine then_ret ?_) | (with_reducible refine in_ret ?_) | go_values | go_skip | go_guarded | go_step | go_upon | go_back)
  refine (rword_any _ (asr_in _ _) _).mono ?_
  rintro e w' ⟨rfl, rfl⟩
  simp only []
  repeat (first | (with_reducible refine then_exit ?_) | (with_reducible refine in_same ?_) | ((with_reducible refine in_other ?_ ?_); decide) | (with_reducible refine then_ret ?_) | (with_reducible refine in_ret ?_) | go_values | go_skip | go_guarded | go_step | go_upon | go_back)
  go_ret2
  exact ⟨rett2 HR.out, rfl⟩
set_option maxRecDepth 100000 in
set_option maxHeartbeats 1000000 in
theorem narrow_44 (a c : Int) (qa : InU a) (qc : InU c) (w : World) : Calls Tryd.prog 66 #[.int .i64 44, .int .u64 a, .int .u64 c] w fun e w' => e = .returned (.tuple #[.int .u64 (Sgn (Sar (Sgn a 32) (Sgn c 32) 32) 32), .bool true]) ∧ w = w' := by
  have HR : Hid (Sgn (Asr (Sgn a 32) (c % 32).toNat) 32 = Sgn (Sar (Sgn a 32) (Sgn c 32) 32) 32) := Lib.hid (w_sar a c qa qc)
  have m0 : 0 ≤ c % 32 := by omega
  have m1 : c % 32 ≤ 31 := by omega
  have hF := Lib.hid (fld5 c qc.1)
  have hT : Hid (Bt a 31 = Bt (Sgn a 32) 63) := Lib.hid (bt31 a qa)
  obtain ⟨t0, t1⟩ := bt31_range a qa
  go_enter Tryd.func66, Tryd.ntmps66
  repeat (first | (with_reducible refine then_exit ?_) | (with_reducible refine in_same ?_) | ((with_reducible refine in_other ?_ ?_); decide) | (with_reducible refine then_ret ?_) | (with_reducible refine in_ret ?_) | go_values | go_skip | go_guarded | go_step | go_upon | go_back)
  refine (rfield_any _ _ _ qc.1 qc.2 _).mono ?_
  rintro e w' ⟨rfl, rfl⟩
  rw [hF.out]
  simp only []
  repeat (first | (with_reducible refine then_exit ?_) | (with_reducible refine in_same ?_) | ((with_reducible refine in_other ?_ ?_); decide) | (with_reducible refine then_ret ?_) | (with_reducible refine in_ret ?_) | go_values | go_skip | go_guarded | go_step | go_upon | go_back)
  refine (rword_any _ qa _).mono ?_
  rintro e w' ⟨rfl, rfl⟩
  simp only []
  repeat (first | (with_reducible refine then_exit ?_) | (with_reducible refine in_same ?_) | ((with_reducible refine in_other ?_ ?_); decide) | (with_reducible refine then_ret ?_) | (with_reducible refine in_ret ?_) | go_values | go_skip | go_guarded | go_step | go_upon | go_back)
  refine (rbit_any _ _ qa.1 qa.2 (by decide) (by decide) _).mono ?_
  rintro e w' ⟨rfl, rfl⟩
  simp only []
  repeat (first | (with_reducible refine then_exit ?_) | (with_reducible refine in_same ?_) | ((with_reducible refine in_other ?_ ?_); decide) | (with_reducible refine then_ret ?_) | (with_reducible refine in_ret ?_) | go_values | go_skip | go_guarded | go_step | go_upon | go_back)
  refine (rrights_any _ _ _ (in_sgn _ 32 qa) hT t0 t1 m0 (by omega) _).mono ?_
  rintro e w' ⟨rfl, rfl⟩
  simp only []
  repeat (first | (with_reducible refine then_exit ?_) | (with_reducible refine in_same ?_) | ((with_reducible refine in_other ?_ ?_); decide) | (with_reducible refine then_ret ?_) | (with_reducible refine in_ret ?_) | go_values | go_skip | go_guarded | go_step | go_upon | go_back)
  refine (rword_any _ (asr_in _ _) _).mono ?_
  rintro e w' ⟨rfl, rfl⟩
  simp only []
  repeat (first | (with_reducible refine then_exit ?_) | (with_reducible refine in_same ?_) | ((with_reducible refine in_other ?_ ?_); decide) | (with_reducible refine then_ret ?_) | (with_reducible refine in_ret ?_) | go_values | go_skip | go_guarded | go_step | go_upon | go_back)
  go_ret2
  exact ⟨rett2 HR.out, rfl⟩
set_option maxRecDepth 100000 in
set_option maxHeartbeats 1000000 in
theorem narrow_61 (a c : Int) (qa : InU a) (qc : InU c) (w : World) : Calls Tryd.prog 66 #[.int .i64 61, .int .u64 a, .int .u64 c] w fun e w' => e = .returned (.tuple #[.int .u64 (Sgn (IntKind.u64.wrap ((Sgn a 32) * (Sgn c 32))) 32), .bool true]) ∧ w = w' := by
  have HR : Hid (Sgn (IntKind.u64.wrap (a * c)) 32 = Sgn (IntKind.u64.wrap ((Sgn a 32) * (Sgn c 32))) 32) := Lib.hid (w_mul a c qa qc)
  have m0 : 0 ≤ c % 32 := by omega
  have m1 : c % 32 ≤ 31 := by omega
  have hF := Lib.hid (fld5 c qc.1)
  go_enter Tryd.func66, Tryd.ntmps66
  repeat (first | (with_reducible refine then_exit ?_) | (with_reducible refine in_same ?_) | ((with_reducible refine in_other ?_ ?_); decide) | (with_reducible refine then_ret ?_) | (with_reducible refine in_ret ?_) | go_values | go_skip | go_guarded | go_step | go_upon | go_back)
  refine (rfield_any _ _ _ qc.1 qc.2 _).mono ?_
  rintro e w' ⟨rfl, rfl⟩
  rw [hF.out]
  simp only []
  repeat (first | (with_reducible refine then_exit ?_) | (with_reducible refine in_same ?_) | ((with_reducible refine in_other ?_ ?_); decide) | (with_reducible refine then_ret ?_) | (with_reducible refine in_ret ?_) | go_values | go_skip | go_guarded | go_step | go_upon | go_back)
  refine (rword_any _ (in_wrap _) _).mono ?_
  rintro e w' ⟨rfl, rfl⟩
  simp only []
  repeat (first | (with_reducible refine then_exit ?_) | (with_reducible refine in_same ?_) | ((with_reducible refine in_other ?_ ?_); decide) | (with_reducible refine then_ret ?_) | (with_reducible refine in_ret ?_) | go_values | go_skip | go_guarded | go_step | go_upon | go_back)
  go_ret2
  exact ⟨rett2 HR.out, rfl⟩
set_option maxRecDepth 100000 in
set_option maxHeartbeats 1000000 in
theorem narrow_62 (a c : Int) (qa : InU a) (qc : InU c) (w : World) : Calls Tryd.prog 66 #[.int .i64 62, .int .u64 a, .int .u64 c] w fun e w' => e = .returned (.tuple #[.int .u64 (Sgn (_root_.Go.Proofs.YtnifoghebnjonaaDoor.Quo (Sgn a 32) (Sgn c 32) true) 32), .bool true]) ∧ w = w' := by
  have m0 : 0 ≤ c % 32 := by omega
  have m1 : c % 32 ≤ 31 := by omega
  have hF := Lib.hid (fld5 c qc.1)
  go_enter Tryd.func66, Tryd.ntmps66
  repeat (first | (with_reducible refine then_exit ?_) | (with_reducible refine in_same ?_) | ((with_reducible refine in_other ?_ ?_); decide) | (with_reducible refine then_ret ?_) | (with_reducible refine in_ret ?_) | go_values | go_skip | go_guarded | go_step | go_upon | go_back)
  refine (rfield_any _ _ _ qc.1 qc.2 _).mono ?_
  rintro e w' ⟨rfl, rfl⟩
  rw [hF.out]
  simp only []
  repeat (first | (with_reducible refine then_exit ?_) | (with_reducible refine in_same ?_) | ((with_reducible refine in_other ?_ ?_); decide) | (with_reducible refine then_ret ?_) | (with_reducible refine in_ret ?_) | go_values | go_skip | go_guarded | go_step | go_upon | go_back)
  refine (rword_any _ qa _).mono ?_
  rintro e w' ⟨rfl, rfl⟩
  simp only []
  repeat (first | (with_reducible refine then_exit ?_) | (with_reducible refine in_same ?_) | ((with_reducible refine in_other ?_ ?_); decide) | (with_reducible refine then_ret ?_) | (with_reducible refine in_ret ?_) | go_values | go_skip | go_guarded | go_step | go_upon | go_back)
  refine (rword_any _ qc _).mono ?_
  rintro e w' ⟨rfl, rfl⟩
  simp only []
  repeat (first | (with_reducible refine then_exit ?_) | (with_reducible refine in_same ?_) | ((with_reducible refine in_other ?_ ?_); decide) | (with_reducible refine then_ret ?_) | (with_reducible refine in_ret ?_) | go_values | go_skip | go_guarded | go_step | go_upon | go_back)
  refine (rquo_any _ _ _ (in_sgn _ 32 qa).1 (in_sgn _ 32 qa).2 (in_sgn _ 32 qc).1 (in_sgn _ 32 qc).2 _).mono ?_
  rintro e w' ⟨rfl, rfl⟩
  simp only []
  repeat (first | (with_reducible refine then_exit ?_) | (with_reducible refine in_same ?_) | ((with_reducible refine in_other ?_ ?_); decide) | (with_reducible refine then_ret ?_) | (with_reducible refine in_ret ?_) | go_values | go_skip | go_guarded | go_step | go_upon | go_back)
  refine (rword_any _ (res_quoSigned _ _ (in_sgn _ 32 qa) (in_sgn _ 32 qc)) _).mono ?_
  rintro e w' ⟨rfl, rfl⟩
  simp only []
  repeat (first | (with_reducible refine then_exit ?_) | (with_reducible refine in_same ?_) | ((with_reducible refine in_other ?_ ?_); decide) | (with_reducible refine then_ret ?_) | (with_reducible refine in_ret ?_) | go_values | go_skip | go_guarded | go_step | go_upon | go_back)
  go_ret2
  exact ⟨rfl, rfl⟩
set_option maxRecDepth 100000 in
set_option maxHeartbeats 1000000 in
theorem narrow_63 (a c : Int) (qa : InU a) (qc : InU c) (w : World) : Calls Tryd.prog 66 #[.int .i64 63, .int .u64 a, .int .u64 c] w fun e w' => e = .returned (.tuple #[.int .u64 (Sgn (_root_.Go.Proofs.YtnifoghebnjonaaDoor.Quo (Fld a 0 32) (Fld c 0 32) false) 32), .bool true]) ∧ w = w' := by
  have m0 : 0 ≤ c % 32 := by omega
  have m1 : c % 32 ≤ 31 := by omega
  have hF := Lib.hid (fld5 c qc.1)
  go_enter Tryd.func66, Tryd.ntmps66
  repeat (first | (with_reducible refine then_exit ?_) | (with_reducible refine in_same ?_) | ((with_reducible refine in_other ?_ ?_); decide) | (with_reducible refine then_ret ?_) | (with_reducible refine in_ret ?_) | go_values | go_skip | go_guarded | go_step | go_upon | go_back)
  refine (rfield_any _ _ _ qc.1 qc.2 _).mono ?_
  rintro e w' ⟨rfl, rfl⟩
  rw [hF.out]
  simp only []
  repeat (first | (with_reducible refine then_exit ?_) | (with_reducible refine in_same ?_) | ((with_reducible refine in_other ?_ ?_); decide) | (with_reducible refine then_ret ?_) | (with_reducible refine in_ret ?_) | go_values | go_skip | go_guarded | go_step | go_upon | go_back)
  refine (rlow_any _ qa _).mono ?_
  rintro e w' ⟨rfl, rfl⟩
  simp only []
  repeat (first | (with_reducible refine then_exit ?_) | (with_reducible refine in_same ?_) | ((with_reducible refine in_other ?_ ?_); decide) | (with_reducible refine then_ret ?_) | (with_reducible refine in_ret ?_) | go_values | go_skip | go_guarded | go_step | go_upon | go_back)
  refine (rlow_any _ qc _).mono ?_
  rintro e w' ⟨rfl, rfl⟩
  simp only []
  repeat (first | (with_reducible refine then_exit ?_) | (with_reducible refine in_same ?_) | ((with_reducible refine in_other ?_ ?_); decide) | (with_reducible refine then_ret ?_) | (with_reducible refine in_ret ?_) | go_values | go_skip | go_guarded | go_step | go_upon | go_back)
  refine (rquo_any _ _ _ (in_fld _ 0 32 qa).1 (in_fld _ 0 32 qa).2 (in_fld _ 0 32 qc).1 (in_fld _ 0 32 qc).2 _).mono ?_
  rintro e w' ⟨rfl, rfl⟩
  simp only []
  repeat (first | (with_reducible refine then_exit ?_) | (with_reducible refine in_same ?_) | ((with_reducible refine in_other ?_ ?_); decide) | (with_reducible refine then_ret ?_) | (with_reducible refine in_ret ?_) | go_values | go_skip | go_guarded | go_step | go_upon | go_back)
  refine (rword_any _ (res_quo _ _ (in_fld _ 0 32 qa) (in_fld _ 0 32 qc)) _).mono ?_
  rintro e w' ⟨rfl, rfl⟩
  simp only []
  repeat (first | (with_reducible refine then_exit ?_) | (with_reducible refine in_same ?_) | ((with_reducible refine in_other ?_ ?_); decide) | (with_reducible refine then_ret ?_) | (with_reducible refine in_ret ?_) | go_values | go_skip | go_guarded | go_step | go_upon | go_back)
  go_ret2
  exact ⟨rfl, rfl⟩
set_option maxRecDepth 100000 in
set_option maxHeartbeats 1000000 in
theorem narrow_64 (a c : Int) (qa : InU a) (qc : InU c) (w : World) : Calls Tryd.prog 66 #[.int .i64 64, .int .u64 a, .int .u64 c] w fun e w' => e = .returned (.tuple #[.int .u64 (Sgn (_root_.Go.Proofs.YtnifoghebnjonaaDoor.Rem (Sgn a 32) (Sgn c 32) true) 32), .bool true]) ∧ w = w' := by
  have m0 : 0 ≤ c % 32 := by omega
  have m1 : c % 32 ≤ 31 := by omega
  have hF := Lib.hid (fld5 c qc.1)
  go_enter Tryd.func66, Tryd.ntmps66
  repeat (first | (with_reducible refine then_exit ?_) | (with_reducible refine in_same ?_) | ((with_reducible refine in_other ?_ ?_); decide) | (with_reducible refine then_ret ?_) | (with_reducible refine in_ret ?_) | go_values | go_skip | go_guarded | go_step | go_upon | go_back)
  refine (rfield_any _ _ _ qc.1 qc.2 _).mono ?_
  rintro e w' ⟨rfl, rfl⟩
  rw [hF.out]
  simp only []
  repeat (first | (with_reducible refine then_exit ?_) | (with_reducible refine in_same ?_) | ((with_reducible refine in_other ?_ ?_); decide) | (with_reducible refine then_ret ?_) | (with_reducible refine in_ret ?_) | go_values | go_skip | go_guarded | go_step | go_upon | go_back)
  refine (rword_any _ qa _).mono ?_
  rintro e w' ⟨rfl, rfl⟩
  simp only []
  repeat (first | (with_reducible refine then_exit ?_) | (with_reducible refine in_same ?_) | ((with_reducible refine in_other ?_ ?_); decide) | (with_reducible refine then_ret ?_) | (with_reducible refine in_ret ?_) | go_values | go_skip | go_guarded | go_step | go_upon | go_back)
  refine (rword_any _ qc _).mono ?_
  rintro e w' ⟨rfl, rfl⟩
  simp only []
  repeat (first | (with_reducible refine then_exit ?_) | (with_reducible refine in_same ?_) | ((with_reducible refine in_other ?_ ?_); decide) | (with_reducible refine then_ret ?_) | (with_reducible refine in_ret ?_) | go_values | go_skip | go_guarded | go_step | go_upon | go_back)
  refine (rrem_any _ _ _ (in_sgn _ 32 qa).1 (in_sgn _ 32 qa).2 (in_sgn _ 32 qc).1 (in_sgn _ 32 qc).2 _).mono ?_
  rintro e w' ⟨rfl, rfl⟩
  simp only []
  repeat (first | (with_reducible refine then_exit ?_) | (with_reducible refine in_same ?_) | ((with_reducible refine in_other ?_ ?_); decide) | (with_reducible refine then_ret ?_) | (with_reducible refine in_ret ?_) | go_values | go_skip | go_guarded | go_step | go_upon | go_back)
  refine (rword_any _ (res_remSigned _ _ (in_sgn _ 32 qa) (in_sgn _ 32 qc)) _).mono ?_
  rintro e w' ⟨rfl, rfl⟩
  simp only []
  repeat (first | (with_reducible refine then_exit ?_) | (with_reducible refine in_same ?_) | ((with_reducible refine in_other ?_ ?_); decide) | (with_reducible refine then_ret ?_) | (with_reducible refine in_ret ?_) | go_values | go_skip | go_guarded | go_step | go_upon | go_back)
  go_ret2
  exact ⟨rfl, rfl⟩
set_option maxRecDepth 100000 in
set_option maxHeartbeats 1000000 in
theorem narrow_65 (a c : Int) (qa : InU a) (qc : InU c) (w : World) : Calls Tryd.prog 66 #[.int .i64 65, .int .u64 a, .int .u64 c] w fun e w' => e = .returned (.tuple #[.int .u64 (Sgn (_root_.Go.Proofs.YtnifoghebnjonaaDoor.Rem (Fld a 0 32) (Fld c 0 32) false) 32), .bool true]) ∧ w = w' := by
  have m0 : 0 ≤ c % 32 := by omega
  have m1 : c % 32 ≤ 31 := by omega
  have hF := Lib.hid (fld5 c qc.1)
  go_enter Tryd.func66, Tryd.ntmps66
  repeat (first | (with_reducible refine then_exit ?_) | (with_reducible refine in_same ?_) | ((with_reducible refine in_other ?_ ?_); decide) | (with_reducible refine then_ret ?_) | (with_reducible refine in_ret ?_) | go_values | go_skip | go_guarded | go_step | go_upon | go_back)
  refine (rfield_any _ _ _ qc.1 qc.2 _).mono ?_
  rintro e w' ⟨rfl, rfl⟩
  rw [hF.out]
  simp only []
  repeat (first | (with_reducible refine then_exit ?_) | (with_reducible refine in_same ?_) | ((with_reducible refine in_other ?_ ?_); decide) | (with_reducible refine then_ret ?_) | (with_reducible refine in_ret ?_) | go_values | go_skip | go_guarded | go_step | go_upon | go_back)
  refine (rlow_any _ qa _).mono ?_
  rintro e w' ⟨rfl, rfl⟩
  simp only []
  repeat (first | (with_reducible refine then_exit ?_) | (with_reducible refine in_same ?_) | ((with_reducible refine in_other ?_ ?_); decide) | (with_reducible refine then_ret ?_) | (with_reducible refine in_ret ?_) | go_values | go_skip | go_guarded | go_step | go_upon | go_back)
  refine (rlow_any _ qc _).mono ?_
  rintro e w' ⟨rfl, rfl⟩
  simp only []
  repeat (first | (with_reducible refine then_exit ?_) | (with_reducible refine in_same ?_) | ((with_reducible refine in_other ?_ ?_); decide) | (with_reducible refine then_ret ?_) | (with_reducible refine in_ret ?_) | go_values | go_skip | go_guarded | go_step | go_upon | go_back)
  refine (rrem_any _ _ _ (in_fld _ 0 32 qa).1 (in_fld _ 0 32 qa).2 (in_fld _ 0 32 qc).1 (in_fld _ 0 32 qc).2 _).mono ?_
  rintro e w' ⟨rfl, rfl⟩
  simp only []
  repeat (first | (with_reducible refine then_exit ?_) | (with_reducible refine in_same ?_) | ((with_reducible refine in_other ?_ ?_); decide) | (with_reducible refine then_ret ?_) | (with_reducible refine in_ret ?_) | go_values | go_skip | go_guarded | go_step | go_upon | go_back)
  refine (rword_any _ (res_rem _ _ (in_fld _ 0 32 qa) (in_fld _ 0 32 qc)) _).mono ?_
  rintro e w' ⟨rfl, rfl⟩
  simp only []
  repeat (first | (with_reducible refine then_exit ?_) | (with_reducible refine in_same ?_) | ((with_reducible refine in_other ?_ ?_); decide) | (with_reducible refine then_ret ?_) | (with_reducible refine in_ret ?_) | go_values | go_skip | go_guarded | go_step | go_upon | go_back)
  go_ret2
  exact ⟨rfl, rfl⟩
set_option maxRecDepth 100000 in
set_option maxHeartbeats 1000000 in
theorem narrow_none (op a c : Int) (h : op ≠ 45 ∧ op ≠ 41 ∧ op ≠ 46 ∧ op ≠ 47 ∧ op ≠ 42 ∧ op ≠ 48 ∧ op ≠ 43 ∧ op ≠ 49 ∧ op ≠ 44 ∧ op ≠ 61 ∧ op ≠ 62 ∧ op ≠ 63 ∧ op ≠ 64 ∧ op ≠ 65) (qa : InU a) (qc : InU c) (w : World) : Calls Tryd.prog 66 #[.int .i64 op, .int .u64 a, .int .u64 c] w fun e w' => e = .returned (.tuple #[.int .u64 0, .bool false]) ∧ w = w' := by
  have e45 : (op == 45) = false := beq_eq_false_iff_ne.2 (by omega)
  have e41 : (op == 41) = false := beq_eq_false_iff_ne.2 (by omega)
  have e46 : (op == 46) = false := beq_eq_false_iff_ne.2 (by omega)
  have e47 : (op == 47) = false := beq_eq_false_iff_ne.2 (by omega)
  have e42 : (op == 42) = false := beq_eq_false_iff_ne.2 (by omega)
  have e48 : (op == 48) = false := beq_eq_false_iff_ne.2 (by omega)
  have e43 : (op == 43) = false := beq_eq_false_iff_ne.2 (by omega)
  have e49 : (op == 49) = false := beq_eq_false_iff_ne.2 (by omega)
  have e44 : (op == 44) = false := beq_eq_false_iff_ne.2 (by omega)
  have e61 : (op == 61) = false := beq_eq_false_iff_ne.2 (by omega)
  have e62 : (op == 62) = false := beq_eq_false_iff_ne.2 (by omega)
  have e63 : (op == 63) = false := beq_eq_false_iff_ne.2 (by omega)
  have e64 : (op == 64) = false := beq_eq_false_iff_ne.2 (by omega)
  have e65 : (op == 65) = false := beq_eq_false_iff_ne.2 (by omega)
  clear h
  have m0 : 0 ≤ c % 32 := by omega
  have m1 : c % 32 ≤ 31 := by omega
  have hF := Lib.hid (fld5 c qc.1)
  go_enter Tryd.func66, Tryd.ntmps66
  repeat (first | (with_reducible refine then_exit ?_) | (with_reducible refine in_same ?_) | ((with_reducible refine in_other ?_ ?_); decide) | (with_reducible refine then_ret ?_) | (with_reducible refine in_ret ?_) | go_values | go_skip | go_guarded | go_step | go_upon | go_back)
  refine (rfield_any _ _ _ qc.1 qc.2 _).mono ?_
  rintro e w' ⟨rfl, rfl⟩
  rw [hF.out]
  simp only []
  repeat (first | (with_reducible refine then_exit ?_) | (with_reducible refine in_same ?_) | ((with_reducible refine in_other ?_ ?_); decide) | (with_reducible refine then_ret ?_) | (with_reducible refine in_ret ?_) | go_values | go_skip | go_guarded | go_step | go_upon | go_back)
  go_ret2
  exact ⟨rfl, rfl⟩
end Go.Proofs.YtnifoghebnjonaaDoor
