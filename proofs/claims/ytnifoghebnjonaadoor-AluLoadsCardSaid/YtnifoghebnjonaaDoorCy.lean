/-
  Proved here: where an instruction goes, the code's answer and the reference's. Conditions: the numbers are words.
-/
import Derived.Test.YtnifoghebnjonaaDoorCx
namespace Go.Proofs.YtnifoghebnjonaaDoor
open Go.RowKit
set_option linter.unusedVariables false
def TgB (op im pc a : Int) : Int := if op = 3 ∨ (5 ≤ op ∧ op ≤ 10) then IntKind.u64.wrap (pc + IntKind.u64.wrap im) else if op = 4 then Plc (IntKind.u64.wrap (a + IntKind.u64.wrap im)) 0 1 0 else IntKind.u64.wrap (pc + 4)
theorem plc_low (x : Int) (h : InU x) : bits .andNot .u64 x 1 = Plc x 0 1 0 := by
  obtain ⟨a, b⟩ := h
  have e1 : bits .andNot .u64 x 1 = x - x % 2 := by go_bits2
  rw [e1]
  obtain ⟨n, rfl⟩ := Int.eq_ofNat_of_zero_le a
  unfold Plc
  rw [show wid 0 1 = 1 from by decide]
  simp only [plc, Int.toNat_natCast, show ((0 : Int).toNat) = 0 from rfl, Nat.pow_zero, Nat.zero_add, Nat.pow_one]
  omega
set_option maxRecDepth 100000 in
set_option maxHeartbeats 1000000 in
theorem tgt_3 (rd rs1 rs2 im pc a : Int) (aq rl : Bool) (w : World) :
    Calls Tryd.prog 31 #[.agg #[.int .i64 3, .int .i64 rd, .int .i64 rs1, .int .i64 rs2, .int .i64 im, .bool aq, .bool rl], .int .u64 pc, .int .u64 a] w fun e w' => e = .returned (.int .u64 (IntKind.u64.wrap (pc + IntKind.u64.wrap im))) ∧ Nb w w' := by
  go_enter Tryd.func31, Tryd.ntmps31
  repeat (first | (with_reducible refine then_exit ?_) | (with_reducible refine in_same ?_) | ((with_reducible refine in_other ?_ ?_); decide) | (with_reducible refine then_ret ?_) | (with_reducible refine in_ret ?_) | go_values | go_skip | go_guarded | go_step | go_upon | go_back)
  go_ret
  exact ⟨rfl, (Nb.refl _).alloc _⟩
set_option maxRecDepth 100000 in
set_option maxHeartbeats 1000000 in
theorem tgt_5 (rd rs1 rs2 im pc a : Int) (aq rl : Bool) (w : World) :
    Calls Tryd.prog 31 #[.agg #[.int .i64 5, .int .i64 rd, .int .i64 rs1, .int .i64 rs2, .int .i64 im, .bool aq, .bool rl], .int .u64 pc, .int .u64 a] w fun e w' => e = .returned (.int .u64 (IntKind.u64.wrap (pc + IntKind.u64.wrap im))) ∧ Nb w w' := by
  go_enter Tryd.func31, Tryd.ntmps31
  repeat (first | (with_reducible refine then_exit ?_) | (with_reducible refine in_same ?_) | ((with_reducible refine in_other ?_ ?_); decide) | (with_reducible refine then_ret ?_) | (with_reducible refine in_ret ?_) | go_values | go_skip | go_guarded | go_step | go_upon | go_back)
  go_ret
  exact ⟨rfl, (Nb.refl _).alloc _⟩
set_option maxRecDepth 100000 in
set_option maxHeartbeats 1000000 in
theorem tgt_6 (rd rs1 rs2 im pc a : Int) (aq rl : Bool) (w : World) :
    Calls Tryd.prog 31 #[.agg #[.int .i64 6, .int .i64 rd, .int .i64 rs1, .int .i64 rs2, .int .i64 im, .bool aq, .bool rl], .int .u64 pc, .int .u64 a] w fun e w' => e = .returned (.int .u64 (IntKind.u64.wrap (pc + IntKind.u64.wrap im))) ∧ Nb w w' := by
  go_enter Tryd.func31, Tryd.ntmps31
  repeat (first | (with_reducible refine then_exit ?_) | (with_reducible refine in_same ?_) | ((with_reducible refine in_other ?_ ?_); decide) | (with_reducible refine then_ret ?_) | (with_reducible refine in_ret ?_) | go_values | go_skip | go_guarded | go_step | go_upon | go_back)
  go_ret
  exact ⟨rfl, (Nb.refl _).alloc _⟩
set_option maxRecDepth 100000 in
set_option maxHeartbeats 1000000 in
theorem tgt_7 (rd rs1 rs2 im pc a : Int) (aq rl : Bool) (w : World) :
    Calls Tryd.prog 31 #[.agg #[.int .i64 7, .int .i64 rd, .int .i64 rs1, .int .i64 rs2, .int .i64 im, .bool aq, .bool rl], .int .u64 pc, .int .u64 a] w fun e w' => e = .returned (.int .u64 (IntKind.u64.wrap (pc + IntKind.u64.wrap im))) ∧ Nb w w' := by
  go_enter Tryd.func31, Tryd.ntmps31
  repeat (first | (with_reducible refine then_exit ?_) | (with_reducible refine in_same ?_) | ((with_reducible refine in_other ?_ ?_); decide) | (with_reducible refine then_ret ?_) | (with_reducible refine in_ret ?_) | go_values | go_skip | go_guarded | go_step | go_upon | go_back)
  go_ret
  exact ⟨rfl, (Nb.refl _).alloc _⟩
set_option maxRecDepth 100000 in
set_option maxHeartbeats 1000000 in
theorem tgt_8 (rd rs1 rs2 im pc a : Int) (aq rl : Bool) (w : World) :
    Calls Tryd.prog 31 #[.agg #[.int .i64 8, .int .i64 rd, .int .i64 rs1, .int .i64 rs2, .int .i64 im, .bool aq, .bool rl], .int .u64 pc, .int .u64 a] w fun e w' => e = .returned (.int .u64 (IntKind.u64.wrap (pc + IntKind.u64.wrap im))) ∧ Nb w w' := by
  go_enter Tryd.func31, Tryd.ntmps31
  repeat (first | (with_reducible refine then_exit ?_) | (with_reducible refine in_same ?_) | ((with_reducible refine in_other ?_ ?_); decide) | (with_reducible refine then_ret ?_) | (with_reducible refine in_ret ?_) | go_values | go_skip | go_guarded | go_step | go_upon | go_back)
  go_ret
  exact ⟨rfl, (Nb.refl _).alloc _⟩
set_option maxRecDepth 100000 in
set_option maxHeartbeats 1000000 in
theorem tgt_9 (rd rs1 rs2 im pc a : Int) (aq rl : Bool) (w : World) :
    Calls Tryd.prog 31 #[.agg #[.int .i64 9, .int .i64 rd, .int .i64 rs1, .int .i64 rs2, .int .i64 im, .bool aq, .bool rl], .int .u64 pc, .int .u64 a] w fun e w' => e = .returned (.int .u64 (IntKind.u64.wrap (pc + IntKind.u64.wrap im))) ∧ Nb w w' := by
  go_enter Tryd.func31, Tryd.ntmps31
  repeat (first | (with_reducible refine then_exit ?_) | (with_reducible refine in_same ?_) | ((with_reducible refine in_other ?_ ?_); decide) | (with_reducible refine then_ret ?_) | (with_reducible refine in_ret ?_) | go_values | go_skip | go_guarded | go_step | go_upon | go_back)
  go_ret
  exact ⟨rfl, (Nb.refl _).alloc _⟩
set_option maxRecDepth 100000 in
set_option maxHeartbeats 1000000 in
theorem tgt_10 (rd rs1 rs2 im pc a : Int) (aq rl : Bool) (w : World) :
    Calls Tryd.prog 31 #[.agg #[.int .i64 10, .int .i64 rd, .int .i64 rs1, .int .i64 rs2, .int .i64 im, .bool aq, .bool rl], .int .u64 pc, .int .u64 a] w fun e w' => e = .returned (.int .u64 (IntKind.u64.wrap (pc + IntKind.u64.wrap im))) ∧ Nb w w' := by
  go_enter Tryd.func31, Tryd.ntmps31
  repeat (first | (with_reducible refine then_exit ?_) | (with_reducible refine in_same ?_) | ((with_reducible refine in_other ?_ ?_); decide) | (with_reducible refine then_ret ?_) | (with_reducible refine in_ret ?_) | go_values | go_skip | go_guarded | go_step | go_upon | go_back)
  go_ret
  exact ⟨rfl, (Nb.refl _).alloc _⟩
set_option maxRecDepth 100000 in
set_option maxHeartbeats 1000000 in
theorem tgt_4 (rd rs1 rs2 im pc a : Int) (aq rl : Bool) (w : World) :
    Calls Tryd.prog 31 #[.agg #[.int .i64 4, .int .i64 rd, .int .i64 rs1, .int .i64 rs2, .int .i64 im, .bool aq, .bool rl], .int .u64 pc, .int .u64 a] w fun e w' => e = .returned (.int .u64 (Plc (IntKind.u64.wrap (a + IntKind.u64.wrap im)) 0 1 0)) ∧ Nb w w' := by
  have HP := Lib.hid (plc_low _ (in_wrap (a + IntKind.u64.wrap im)))
  go_enter Tryd.func31, Tryd.ntmps31
  repeat (first | (with_reducible refine then_exit ?_) | (with_reducible refine in_same ?_) | ((with_reducible refine in_other ?_ ?_); decide) | (with_reducible refine then_ret ?_) | (with_reducible refine in_ret ?_) | go_values | go_skip | go_guarded | go_step | go_upon | go_back)
  go_ret
  exact ⟨ret_int HP.out, (Nb.refl _).alloc _⟩
set_option maxRecDepth 100000 in
set_option maxHeartbeats 1000000 in
theorem tgt_o (op rd rs1 rs2 im pc a : Int) (aq rl : Bool) (h : op ≠ 3 ∧ op ≠ 4 ∧ op ≠ 5 ∧ op ≠ 6 ∧ op ≠ 7 ∧ op ≠ 8 ∧ op ≠ 9 ∧ op ≠ 10) (w : World) :
    Calls Tryd.prog 31 #[.agg #[.int .i64 op, .int .i64 rd, .int .i64 rs1, .int .i64 rs2, .int .i64 im, .bool aq, .bool rl], .int .u64 pc, .int .u64 a] w fun e w' => e = .returned (.int .u64 (IntKind.u64.wrap (pc + 4))) ∧ Nb w w' := by
  have e3 : (op == 3) = false := beq_eq_false_iff_ne.2 (by omega)
  have e4 : (op == 4) = false := beq_eq_false_iff_ne.2 (by omega)
  have e5 : (op == 5) = false := beq_eq_false_iff_ne.2 (by omega)
  have e6 : (op == 6) = false := beq_eq_false_iff_ne.2 (by omega)
  have e7 : (op == 7) = false := beq_eq_false_iff_ne.2 (by omega)
  have e8 : (op == 8) = false := beq_eq_false_iff_ne.2 (by omega)
  have e9 : (op == 9) = false := beq_eq_false_iff_ne.2 (by omega)
  have e10 : (op == 10) = false := beq_eq_false_iff_ne.2 (by omega)
  clear h
  go_enter Tryd.func31, Tryd.ntmps31
  repeat (first | (with_reducible refine then_exit ?_) | (with_reducible refine in_same ?_) | ((with_reducible refine in_other ?_ ?_); decide) | (with_reducible refine then_ret ?_) | (with_reducible refine in_ret ?_) | go_values | go_skip | go_guarded | go_step | go_upon | go_back)
  go_ret
  exact ⟨rfl, (Nb.refl _).alloc _⟩
theorem tgt_any (op rd rs1 rs2 im pc a : Int) (aq rl : Bool) (w : World) :
    Calls Tryd.prog 31 #[.agg #[.int .i64 op, .int .i64 rd, .int .i64 rs1, .int .i64 rs2, .int .i64 im, .bool aq, .bool rl], .int .u64 pc, .int .u64 a] w fun e w' => e = .returned (.int .u64 (TgB op im pc a)) ∧ Nb w w' := by
  by_cases h : op = 3 ∨ op = 4 ∨ op = 5 ∨ op = 6 ∨ op = 7 ∨ op = 8 ∨ op = 9 ∨ op = 10
  · rcases h with rfl | rfl | rfl | rfl | rfl | rfl | rfl | rfl
    · exact tgt_3 rd rs1 rs2 im pc a aq rl w
    · exact tgt_4 rd rs1 rs2 im pc a aq rl w
    · exact tgt_5 rd rs1 rs2 im pc a aq rl w
    · exact tgt_6 rd rs1 rs2 im pc a aq rl w
    · exact tgt_7 rd rs1 rs2 im pc a aq rl w
    · exact tgt_8 rd rs1 rs2 im pc a aq rl w
    · exact tgt_9 rd rs1 rs2 im pc a aq rl w
    · exact tgt_10 rd rs1 rs2 im pc a aq rl w
  · have e : TgB op im pc a = IntKind.u64.wrap (pc + 4) := by unfold TgB; rw [if_neg (by omega), if_neg (by omega)]
    rw [e]
    exact tgt_o op rd rs1 rs2 im pc a aq rl (by omega) w
set_option maxRecDepth 100000 in
set_option maxHeartbeats 1000000 in
theorem rtgt_3 (rd rs1 rs2 im pc a : Int) (aq rl : Bool) (w : World) :
    Calls Tryd.prog 32 #[.agg #[.int .i64 3, .int .i64 rd, .int .i64 rs1, .int .i64 rs2, .int .i64 im, .bool aq, .bool rl], .int .u64 pc, .int .u64 a] w fun e w' => e = .returned (.int .u64 (IntKind.u64.wrap (pc + IntKind.u64.wrap im))) ∧ Nb w w' := by
  go_enter Tryd.func32, Tryd.ntmps32
  repeat (first | (with_reducible refine then_exit ?_) | (with_reducible refine in_same ?_) | ((with_reducible refine in_other ?_ ?_); decide) | (with_reducible refine then_ret ?_) | (with_reducible refine in_ret ?_) | go_values | go_skip | go_guarded | go_step | go_upon | go_back)
  go_ret
  exact ⟨rfl, (Nb.refl _).alloc _⟩
set_option maxRecDepth 100000 in
set_option maxHeartbeats 1000000 in
theorem rtgt_5 (rd rs1 rs2 im pc a : Int) (aq rl : Bool) (w : World) :
    Calls Tryd.prog 32 #[.agg #[.int .i64 5, .int .i64 rd, .int .i64 rs1, .int .i64 rs2, .int .i64 im, .bool aq, .bool rl], .int .u64 pc, .int .u64 a] w fun e w' => e = .returned (.int .u64 (IntKind.u64.wrap (pc + IntKind.u64.wrap im))) ∧ Nb w w' := by
  go_enter Tryd.func32, Tryd.ntmps32
  repeat (first | (with_reducible refine then_exit ?_) | (with_reducible refine in_same ?_) | ((with_reducible refine in_other ?_ ?_); decide) | (with_reducible refine then_ret ?_) | (with_reducible refine in_ret ?_) | go_values | go_skip | go_guarded | go_step | go_upon | go_back)
  go_ret
  exact ⟨rfl, (Nb.refl _).alloc _⟩
set_option maxRecDepth 100000 in
set_option maxHeartbeats 1000000 in
theorem rtgt_6 (rd rs1 rs2 im pc a : Int) (aq rl : Bool) (w : World) :
    Calls Tryd.prog 32 #[.agg #[.int .i64 6, .int .i64 rd, .int .i64 rs1, .int .i64 rs2, .int .i64 im, .bool aq, .bool rl], .int .u64 pc, .int .u64 a] w fun e w' => e = .returned (.int .u64 (IntKind.u64.wrap (pc + IntKind.u64.wrap im))) ∧ Nb w w' := by
  go_enter Tryd.func32, Tryd.ntmps32
  repeat (first | (with_reducible refine then_exit ?_) | (with_reducible refine in_same ?_) | ((with_reducible refine in_other ?_ ?_); decide) | (with_reducible refine then_ret ?_) | (with_reducible refine in_ret ?_) | go_values | go_skip | go_guarded | go_step | go_upon | go_back)
  go_ret
  exact ⟨rfl, (Nb.refl _).alloc _⟩
set_option maxRecDepth 100000 in
set_option maxHeartbeats 1000000 in
theorem rtgt_7 (rd rs1 rs2 im pc a : Int) (aq rl : Bool) (w : World) :
    Calls Tryd.prog 32 #[.agg #[.int .i64 7, .int .i64 rd, .int .i64 rs1, .int .i64 rs2, .int .i64 im, .bool aq, .bool rl], .int .u64 pc, .int .u64 a] w fun e w' => e = .returned (.int .u64 (IntKind.u64.wrap (pc + IntKind.u64.wrap im))) ∧ Nb w w' := by
  go_enter Tryd.func32, Tryd.ntmps32
  repeat (first | (with_reducible refine then_exit ?_) | (with_reducible refine in_same ?_) | ((with_reducible refine in_other ?_ ?_); decide) | (with_reducible refine then_ret ?_) | (with_reducible refine in_ret ?_) | go_values | go_skip | go_guarded | go_step | go_upon | go_back)
  go_ret
  exact ⟨rfl, (Nb.refl _).alloc _⟩
set_option maxRecDepth 100000 in
set_option maxHeartbeats 1000000 in
theorem rtgt_8 (rd rs1 rs2 im pc a : Int) (aq rl : Bool) (w : World) :
    Calls Tryd.prog 32 #[.agg #[.int .i64 8, .int .i64 rd, .int .i64 rs1, .int .i64 rs2, .int .i64 im, .bool aq, .bool rl], .int .u64 pc, .int .u64 a] w fun e w' => e = .returned (.int .u64 (IntKind.u64.wrap (pc + IntKind.u64.wrap im))) ∧ Nb w w' := by
  go_enter Tryd.func32, Tryd.ntmps32
  repeat (first | (with_reducible refine then_exit ?_) | (with_reducible refine in_same ?_) | ((with_reducible refine in_other ?_ ?_); decide) | (with_reducible refine then_ret ?_) | (with_reducible refine in_ret ?_) | go_values | go_skip | go_guarded | go_step | go_upon | go_back)
  go_ret
  exact ⟨rfl, (Nb.refl _).alloc _⟩
set_option maxRecDepth 100000 in
set_option maxHeartbeats 1000000 in
theorem rtgt_9 (rd rs1 rs2 im pc a : Int) (aq rl : Bool) (w : World) :
    Calls Tryd.prog 32 #[.agg #[.int .i64 9, .int .i64 rd, .int .i64 rs1, .int .i64 rs2, .int .i64 im, .bool aq, .bool rl], .int .u64 pc, .int .u64 a] w fun e w' => e = .returned (.int .u64 (IntKind.u64.wrap (pc + IntKind.u64.wrap im))) ∧ Nb w w' := by
  go_enter Tryd.func32, Tryd.ntmps32
  repeat (first | (with_reducible refine then_exit ?_) | (with_reducible refine in_same ?_) | ((with_reducible refine in_other ?_ ?_); decide) | (with_reducible refine then_ret ?_) | (with_reducible refine in_ret ?_) | go_values | go_skip | go_guarded | go_step | go_upon | go_back)
  go_ret
  exact ⟨rfl, (Nb.refl _).alloc _⟩
set_option maxRecDepth 100000 in
set_option maxHeartbeats 1000000 in
theorem rtgt_10 (rd rs1 rs2 im pc a : Int) (aq rl : Bool) (w : World) :
    Calls Tryd.prog 32 #[.agg #[.int .i64 10, .int .i64 rd, .int .i64 rs1, .int .i64 rs2, .int .i64 im, .bool aq, .bool rl], .int .u64 pc, .int .u64 a] w fun e w' => e = .returned (.int .u64 (IntKind.u64.wrap (pc + IntKind.u64.wrap im))) ∧ Nb w w' := by
  go_enter Tryd.func32, Tryd.ntmps32
  repeat (first | (with_reducible refine then_exit ?_) | (with_reducible refine in_same ?_) | ((with_reducible refine in_other ?_ ?_); decide) | (with_reducible refine then_ret ?_) | (with_reducible refine in_ret ?_) | go_values | go_skip | go_guarded | go_step | go_upon | go_back)
  go_ret
  exact ⟨rfl, (Nb.refl _).alloc _⟩
set_option maxRecDepth 100000 in
set_option maxHeartbeats 1000000 in
theorem rtgt_4 (rd rs1 rs2 im pc a : Int) (aq rl : Bool) (w : World) :
    Calls Tryd.prog 32 #[.agg #[.int .i64 4, .int .i64 rd, .int .i64 rs1, .int .i64 rs2, .int .i64 im, .bool aq, .bool rl], .int .u64 pc, .int .u64 a] w fun e w' => e = .returned (.int .u64 (Plc (IntKind.u64.wrap (a + IntKind.u64.wrap im)) 0 1 0)) ∧ Nb w w' := by
  obtain ⟨q0, q1⟩ := in_wrap (a + IntKind.u64.wrap im)
  go_enter Tryd.func32, Tryd.ntmps32
  repeat (first | (with_reducible refine then_exit ?_) | (with_reducible refine in_same ?_) | ((with_reducible refine in_other ?_ ?_); decide) | (with_reducible refine then_ret ?_) | (with_reducible refine in_ret ?_) | go_values | go_skip | go_guarded | go_step | go_upon | go_back)
  refine (rplace_any _ _ _ _ q0 q1 (by decide) (by decide) _).mono ?_
  rintro e w' ⟨rfl, rfl⟩
  simp only []
  repeat (first | (with_reducible refine then_exit ?_) | (with_reducible refine in_same ?_) | ((with_reducible refine in_other ?_ ?_); decide) | (with_reducible refine then_ret ?_) | (with_reducible refine in_ret ?_) | go_values | go_skip | go_guarded | go_step | go_upon | go_back)
  go_ret
  exact ⟨rfl, (Nb.refl _).alloc _⟩
set_option maxRecDepth 100000 in
set_option maxHeartbeats 1000000 in
theorem rtgt_olo (op rd rs1 rs2 im pc a : Int) (aq rl : Bool) (h : op ≠ 3 ∧ op ≠ 4 ∧ op < 5) (w : World) :
    Calls Tryd.prog 32 #[.agg #[.int .i64 op, .int .i64 rd, .int .i64 rs1, .int .i64 rs2, .int .i64 im, .bool aq, .bool rl], .int .u64 pc, .int .u64 a] w fun e w' => e = .returned (.int .u64 (IntKind.u64.wrap (pc + 4))) ∧ Nb w w' := by
  have e3 : (op == 3) = false := beq_eq_false_iff_ne.2 (by omega)
  have e4 : (op == 4) = false := beq_eq_false_iff_ne.2 (by omega)
  have e5 : ¬ 5 ≤ op := by omega
  clear h
  go_enter Tryd.func32, Tryd.ntmps32
  repeat (first | (with_reducible refine then_exit ?_) | (with_reducible refine in_same ?_) | ((with_reducible refine in_other ?_ ?_); decide) | (with_reducible refine then_ret ?_) | (with_reducible refine in_ret ?_) | go_values | go_skip | go_guarded | go_step | go_upon | go_back)
  go_ret
  exact ⟨rfl, (Nb.refl _).alloc _⟩
set_option maxRecDepth 100000 in
set_option maxHeartbeats 1000000 in
theorem rtgt_ohi (op rd rs1 rs2 im pc a : Int) (aq rl : Bool) (h : op ≠ 3 ∧ op ≠ 4 ∧ 10 < op) (w : World) :
    Calls Tryd.prog 32 #[.agg #[.int .i64 op, .int .i64 rd, .int .i64 rs1, .int .i64 rs2, .int .i64 im, .bool aq, .bool rl], .int .u64 pc, .int .u64 a] w fun e w' => e = .returned (.int .u64 (IntKind.u64.wrap (pc + 4))) ∧ Nb w w' := by
  have e3 : (op == 3) = false := beq_eq_false_iff_ne.2 (by omega)
  have e4 : (op == 4) = false := beq_eq_false_iff_ne.2 (by omega)
  have e5 : 5 ≤ op := by omega
  have e6 : ¬ op ≤ 10 := by omega
  clear h
  go_enter Tryd.func32, Tryd.ntmps32
  repeat (first | (with_reducible refine then_exit ?_) | (with_reducible refine in_same ?_) | ((with_reducible refine in_other ?_ ?_); decide) | (with_reducible refine then_ret ?_) | (with_reducible refine in_ret ?_) | go_values | go_skip | go_guarded | go_step | go_upon | go_back)
  go_ret
  exact ⟨rfl, (Nb.refl _).alloc _⟩
theorem rtgt_any (op rd rs1 rs2 im pc a : Int) (aq rl : Bool) (w : World) :
    Calls Tryd.prog 32 #[.agg #[.int .i64 op, .int .i64 rd, .int .i64 rs1, .int .i64 rs2, .int .i64 im, .bool aq, .bool rl], .int .u64 pc, .int .u64 a] w fun e w' => e = .returned (.int .u64 (TgB op im pc a)) ∧ Nb w w' := by
  by_cases h : op = 3 ∨ op = 4 ∨ op = 5 ∨ op = 6 ∨ op = 7 ∨ op = 8 ∨ op = 9 ∨ op = 10
  · rcases h with rfl | rfl | rfl | rfl | rfl | rfl | rfl | rfl
    · exact rtgt_3 rd rs1 rs2 im pc a aq rl w
    · exact rtgt_4 rd rs1 rs2 im pc a aq rl w
    · exact rtgt_5 rd rs1 rs2 im pc a aq rl w
    · exact rtgt_6 rd rs1 rs2 im pc a aq rl w
    · exact rtgt_7 rd rs1 rs2 im pc a aq rl w
    · exact rtgt_8 rd rs1 rs2 im pc a aq rl w
    · exact rtgt_9 rd rs1 rs2 im pc a aq rl w
    · exact rtgt_10 rd rs1 rs2 im pc a aq rl w
  · have e : TgB op im pc a = IntKind.u64.wrap (pc + 4) := by unfold TgB; rw [if_neg (by omega), if_neg (by omega)]
    rw [e]
    by_cases c : op < 5
    · exact rtgt_olo op rd rs1 rs2 im pc a aq rl (by omega) w
    · exact rtgt_ohi op rd rs1 rs2 im pc a aq rl (by omega) w
set_option maxRecDepth 100000 in
theorem alives_any (w : World) (hC : Cod w) : Calls Tryd.prog 28 #[] w fun e w' => e = .returned (.bool true) ∧ Nb w w' := by
  have H1 := Lib.hid (val_any 30 1 1 0 1 0 18446744073709551608 0 false false (by unfold InU; omega) (by unfold InU; omega) (by decide) (by decide))
  rw [show VX 30 1 1 0 1 false false 0 18446744073709551608 0 = 18446744073709551612 from by decide +kernel, show EX 30 1 1 0 1 false false = 0 from by decide +kernel] at H1
  have H2 := Lib.hid (val_any 41 1 1 0 1 0 2147483647 0 false false (by unfold InU; omega) (by unfold InU; omega) (by decide) (by decide))
  rw [show VX 41 1 1 0 1 false false 0 2147483647 0 = 18446744071562067968 from by decide +kernel, show EX 41 1 1 0 1 false false = 0 from by decide +kernel] at H2
  have H3 := Lib.hid (tgt_any 4 0 1 0 0 0 9 false false)
  rw [show TgB 4 0 0 9 = 8 from by decide +kernel] at H3
  go_enter Tryd.func28, Tryd.ntmps28
  go_wp2_with fail
  refine (H1.out _ hC).mono ?_
  rintro e w1 ⟨rfl, hn1⟩
  have hC1 := hC.of_nb hn1
  go_wp2_with fail
  refine (H2.out _ hC1).mono ?_
  rintro e w2 ⟨rfl, hn2⟩
  go_wp2_with fail
  refine (H3.out _).mono ?_
  rintro e w3 ⟨rfl, hn3⟩
  go_wp2_with fail
  go_ret
  exact ⟨rfl, (hn1.trans hn2).trans hn3⟩
end Go.Proofs.YtnifoghebnjonaaDoor
