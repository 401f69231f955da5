/-
  Proved here: what loads give and what is stored, the code's answer and the reference's. Conditions: the numbers are words.
-/
import Derived.Test.YtmggichckhoomaaGreatDoorQbd
namespace Go.Proofs.YtmggichckhoomaaGreatDoor
open Go.RowKit
set_option linter.unusedVariables false
def LdB (op raw : Int) : Int := if LoadB op = true then (if 15 ≤ op ∧ op ≤ 17 then Fld raw 0 (8 * SizeI op) else Sgn raw (8 * SizeI op)) else 0
theorem size_range (op : Int) : 0 ≤ SizeI op ∧ SizeI op ≤ 8 := by unfold SizeI; repeat (first | split | omega)
set_option maxRecDepth 100000 in
set_option maxHeartbeats 1000000 in
theorem ld_no (op raw s : Int) (HL : Hid (∀ w, Calls Tryz.prog 56 #[.int .i64 op] w fun e w' => e = .returned (.bool false) ∧ w = w')) (w : World) :
    Calls Tryz.prog 60 #[.int .i64 op, .int .u64 raw] w fun e w' => e = .returned (.int .u64 (0)) ∧ w = w' := by
  go_enter Tryz.func60, Tryz.ntmps60
  repeat (first | (with_reducible refine then_exit ?_) | (with_reducible refine in_same ?_) | ((with_reducible refine in_other ?_ ?_); decide) | (with_reducible refine then_ret ?_) | (with_reducible refine in_ret ?_) | go_values | go_skip | go_guarded | go_step | go_upon | go_back)
  refine (HL.out _).mono ?_
  rintro e w' ⟨rfl, rfl⟩
  simp only []
  repeat (first | (with_reducible refine then_exit ?_) | (with_reducible refine in_same ?_) | ((with_reducible refine in_other ?_ ?_); decide) | (with_reducible refine then_ret ?_) | (with_reducible refine in_ret ?_) | go_values | go_skip | go_guarded | go_step | go_upon | go_back)
  go_ret
  exact ⟨rfl, rfl⟩
set_option maxRecDepth 100000 in
set_option maxHeartbeats 1000000 in
theorem ld_15 (raw s : Int) (qr : InU raw) (s0 : 0 ≤ s) (s1 : s ≤ 8) (HL : Hid (∀ w, Calls Tryz.prog 56 #[.int .i64 15] w fun e w' => e = .returned (.bool true) ∧ w = w')) (HS : Hid (∀ w, Calls Tryz.prog 23 #[.int .i64 15] w fun e w' => e = .returned (.int .i64 s) ∧ w = w')) (w : World) :
    Calls Tryz.prog 60 #[.int .i64 15, .int .u64 raw] w fun e w' => e = .returned (.int .u64 (Fld raw 0 (8 * s))) ∧ w = w' := by
  go_enter Tryz.func60, Tryz.ntmps60
  repeat (first | (with_reducible refine then_exit ?_) | (with_reducible refine in_same ?_) | ((with_reducible refine in_other ?_ ?_); decide) | (with_reducible refine then_ret ?_) | (with_reducible refine in_ret ?_) | go_values | go_skip | go_guarded | go_step | go_upon | go_back)
  refine (HL.out _).mono ?_
  rintro e w' ⟨rfl, rfl⟩
  simp only []
  repeat (first | (with_reducible refine then_exit ?_) | (with_reducible refine in_same ?_) | ((with_reducible refine in_other ?_ ?_); decide) | (with_reducible refine then_ret ?_) | (with_reducible refine in_ret ?_) | go_values | go_skip | go_guarded | go_step | go_upon | go_back)
  refine (HS.out _).mono ?_
  rintro e w' ⟨rfl, rfl⟩
  simp only []
  repeat (first | (with_reducible refine then_exit ?_) | (with_reducible refine in_same ?_) | ((with_reducible refine in_other ?_ ?_); decide) | (with_reducible refine then_ret ?_) | (with_reducible refine in_ret ?_) | go_values | go_skip | go_guarded | go_step | go_upon | go_back)
  refine (field_any _ _ _ qr.1 qr.2 _).mono ?_
  rintro e w' ⟨rfl, rfl⟩
  simp only []
  repeat (first | (with_reducible refine then_exit ?_) | (with_reducible refine in_same ?_) | ((with_reducible refine in_other ?_ ?_); decide) | (with_reducible refine then_ret ?_) | (with_reducible refine in_ret ?_) | go_values | go_skip | go_guarded | go_step | go_upon | go_back)
  go_ret
  exact ⟨rfl, rfl⟩
set_option maxRecDepth 100000 in
set_option maxHeartbeats 1000000 in
theorem ld_16 (raw s : Int) (qr : InU raw) (s0 : 0 ≤ s) (s1 : s ≤ 8) (HL : Hid (∀ w, Calls Tryz.prog 56 #[.int .i64 16] w fun e w' => e = .returned (.bool true) ∧ w = w')) (HS : Hid (∀ w, Calls Tryz.prog 23 #[.int .i64 16] w fun e w' => e = .returned (.int .i64 s) ∧ w = w')) (w : World) :
    Calls Tryz.prog 60 #[.int .i64 16, .int .u64 raw] w fun e w' => e = .returned (.int .u64 (Fld raw 0 (8 * s))) ∧ w = w' := by
  go_enter Tryz.func60, Tryz.ntmps60
  repeat (first | (with_reducible refine then_exit ?_) | (with_reducible refine in_same ?_) | ((with_reducible refine in_other ?_ ?_); decide) | (with_reducible refine then_ret ?_) | (with_reducible refine in_ret ?_) | go_values | go_skip | go_guarded | go_step | go_upon | go_back)
  refine (HL.out _).mono ?_
  rintro e w' ⟨rfl, rfl⟩
  simp only []
  repeat (first | (with_reducible refine then_exit ?_) | (with_reducible refine in_same ?_) | ((with_reducible refine in_other ?_ ?_); decide) | (with_reducible refine then_ret ?_) | (with_reducible refine in_ret ?_) | go_values | go_skip | go_guarded | go_step | go_upon | go_back)
  refine (HS.out _).mono ?_
  rintro e w' ⟨rfl, rfl⟩
  simp only []
  repeat (first | (with_reducible refine then_exit ?_) | (with_reducible refine in_same ?_) | ((with_reducible refine in_other ?_ ?_); decide) | (with_reducible refine then_ret ?_) | (with_reducible refine in_ret ?_) | go_values | go_skip | go_guarded | go_step | go_upon | go_back)
  refine (field_any _ _ _ qr.1 qr.2 _).mono ?_
  rintro e w' ⟨rfl, rfl⟩
  simp only []
  repeat (first | (with_reducible refine then_exit ?_) | (with_reducible refine in_same ?_) | ((with_reducible refine in_other ?_ ?_); decide) | (with_reducible refine then_ret ?_) | (with_reducible refine in_ret ?_) | go_values | go_skip | go_guarded | go_step | go_upon | go_back)
  go_ret
  exact ⟨rfl, rfl⟩
set_option maxRecDepth 100000 in
set_option maxHeartbeats 1000000 in
theorem ld_17 (raw s : Int) (qr : InU raw) (s0 : 0 ≤ s) (s1 : s ≤ 8) (HL : Hid (∀ w, Calls Tryz.prog 56 #[.int .i64 17] w fun e w' => e = .returned (.bool true) ∧ w = w')) (HS : Hid (∀ w, Calls Tryz.prog 23 #[.int .i64 17] w fun e w' => e = .returned (.int .i64 s) ∧ w = w')) (w : World) :
    Calls Tryz.prog 60 #[.int .i64 17, .int .u64 raw] w fun e w' => e = .returned (.int .u64 (Fld raw 0 (8 * s))) ∧ w = w' := by
  go_enter Tryz.func60, Tryz.ntmps60
  repeat (first | (with_reducible refine then_exit ?_) | (with_reducible refine in_same ?_) | ((with_reducible refine in_other ?_ ?_); decide) | (with_reducible refine then_ret ?_) | (with_reducible refine in_ret ?_) | go_values | go_skip | go_guarded | go_step | go_upon | go_back)
  refine (HL.out _).mono ?_
  rintro e w' ⟨rfl, rfl⟩
  simp only []
  repeat (first | (with_reducible refine then_exit ?_) | (with_reducible refine in_same ?_) | ((with_reducible refine in_other ?_ ?_); decide) | (with_reducible refine then_ret ?_) | (with_reducible refine in_ret ?_) | go_values | go_skip | go_guarded | go_step | go_upon | go_back)
  refine (HS.out _).mono ?_
  rintro e w' ⟨rfl, rfl⟩
  simp only []
  repeat (first | (with_reducible refine then_exit ?_) | (with_reducible refine in_same ?_) | ((with_reducible refine in_other ?_ ?_); decide) | (with_reducible refine then_ret ?_) | (with_reducible refine in_ret ?_) | go_values | go_skip | go_guarded | go_step | go_upon | go_back)
  refine (field_any _ _ _ qr.1 qr.2 _).mono ?_
  rintro e w' ⟨rfl, rfl⟩
  simp only []
  repeat (first | (with_reducible refine then_exit ?_) | (with_reducible refine in_same ?_) | ((with_reducible refine in_other ?_ ?_); decide) | (with_reducible refine then_ret ?_) | (with_reducible refine in_ret ?_) | go_values | go_skip | go_guarded | go_step | go_upon | go_back)
  go_ret
  exact ⟨rfl, rfl⟩
set_option maxRecDepth 100000 in
set_option maxHeartbeats 1000000 in
theorem ld_o (op raw s : Int) (h : op ≠ 15 ∧ op ≠ 16 ∧ op ≠ 17) (qr : InU raw) (s0 : 0 ≤ s) (s1 : s ≤ 8) (HL : Hid (∀ w, Calls Tryz.prog 56 #[.int .i64 op] w fun e w' => e = .returned (.bool true) ∧ w = w')) (HS : Hid (∀ w, Calls Tryz.prog 23 #[.int .i64 op] w fun e w' => e = .returned (.int .i64 s) ∧ w = w')) (w : World) :
    Calls Tryz.prog 60 #[.int .i64 op, .int .u64 raw] w fun e w' => e = .returned (.int .u64 (Sgn raw (8 * s))) ∧ w = w' := by
  have e15 : (op == 15) = false := beq_eq_false_iff_ne.2 (by omega)
  have e16 : (op == 16) = false := beq_eq_false_iff_ne.2 (by omega)
  have e17 : (op == 17) = false := beq_eq_false_iff_ne.2 (by omega)
  clear h
  go_enter Tryz.func60, Tryz.ntmps60
  repeat (first | (with_reducible refine then_exit ?_) | (with_reducible refine in_same ?_) | ((with_reducible refine in_other ?_ ?_); decide) | (with_reducible refine then_ret ?_) | (with_reducible refine in_ret ?_) | go_values | go_skip | go_guarded | go_step | go_upon | go_back)
  refine (HL.out _).mono ?_
  rintro e w' ⟨rfl, rfl⟩
  simp only []
  repeat (first | (with_reducible refine then_exit ?_) | (with_reducible refine in_same ?_) | ((with_reducible refine in_other ?_ ?_); decide) | (with_reducible refine then_ret ?_) | (with_reducible refine in_ret ?_) | go_values | go_skip | go_guarded | go_step | go_upon | go_back)
  refine (HS.out _).mono ?_
  rintro e w' ⟨rfl, rfl⟩
  simp only []
  repeat (first | (with_reducible refine then_exit ?_) | (with_reducible refine in_same ?_) | ((with_reducible refine in_other ?_ ?_); decide) | (with_reducible refine then_ret ?_) | (with_reducible refine in_ret ?_) | go_values | go_skip | go_guarded | go_step | go_upon | go_back)
  refine (sign_any _ _ qr.1 qr.2 _).mono ?_
  rintro e w' ⟨rfl, rfl⟩
  simp only []
  repeat (first | (with_reducible refine then_exit ?_) | (with_reducible refine in_same ?_) | ((with_reducible refine in_other ?_ ?_); decide) | (with_reducible refine then_ret ?_) | (with_reducible refine in_ret ?_) | go_values | go_skip | go_guarded | go_step | go_upon | go_back)
  go_ret
  exact ⟨rfl, rfl⟩
theorem ld_any (op raw : Int) (qr : InU raw) (w : World) : Calls Tryz.prog 60 #[.int .i64 op, .int .u64 raw] w fun e w' => e = .returned (.int .u64 (LdB op raw)) ∧ w = w' := by
  have HL := fun w => loads_any op w
  have HS := fun w => size_any op w
  obtain ⟨s0, s1⟩ := size_range op
  unfold LdB
  cases hl : LoadB op <;> rw [hl] at HL
  · exact ld_no op raw (SizeI op) (Lib.hid HL) w
  rw [if_pos rfl]
  by_cases h : op = 15 ∨ op = 16 ∨ op = 17
  · rw [if_pos (by omega)]
    rcases h with rfl | rfl | rfl
    · exact ld_15 raw _ qr s0 s1 (Lib.hid HL) (Lib.hid HS) w
    · exact ld_16 raw _ qr s0 s1 (Lib.hid HL) (Lib.hid HS) w
    · exact ld_17 raw _ qr s0 s1 (Lib.hid HL) (Lib.hid HS) w
  · rw [if_neg (by omega)]
    exact ld_o op raw _ (by omega) qr s0 s1 (Lib.hid HL) (Lib.hid HS) w
end Go.Proofs.YtmggichckhoomaaGreatDoor
