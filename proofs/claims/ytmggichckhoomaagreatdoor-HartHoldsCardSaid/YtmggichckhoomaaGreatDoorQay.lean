/-
  Proved here: what alu.Value of the code gives, operation by operation, a part. Conditions: the numbers are words; the table of codes holds what its text lays.
-/
import Derived.Test.YtmggichckhoomaaGreatDoorQax
namespace Go.Proofs.YtmggichckhoomaaGreatDoor
open Go.RowKit
set_option linter.unusedVariables false
set_option maxRecDepth 100000 in
set_option maxHeartbeats 1000000 in
theorem val_45 (rd rs1 rs2 im pc a b : Int) (aq rl : Bool) (qa : InU a) (qb : InU b) (qi : InU (IntKind.u64.wrap im))
    (HG : Hid (∀ w, Cod w → Calls Tryz.prog 46 #[.agg #[.int .i64 45, .int .i64 rd, .int .i64 rs1, .int .i64 rs2, .int .i64 im, .bool aq, .bool rl]] w fun e w' => e = .returned (.bool true) ∧ Nb w w')) (w : World) (hC : Cod w) :
    Calls Tryz.prog 57 #[.agg #[.int .i64 45, .int .i64 rd, .int .i64 rs1, .int .i64 rs2, .int .i64 im, .bool aq, .bool rl], .int .u64 pc, .int .u64 a, .int .u64 b] w fun e w' => e = .returned (.tuple #[.int .u64 (Sgn (IntKind.u64.wrap ((Sgn a 32) + (Sgn b 32))) 32), .int .i64 0]) ∧ Nb w w' := by
  have HI := Lib.hid (imm_any 45)
  rw [show ImmB 45 = false from rfl] at HI
  have HK := Lib.hid (work_45 a b qa qb)
  have q0 : InU (Sgn a 32) := in_sgn _ 32 qa
  have q1 : InU (Sgn b 32) := in_sgn _ 32 qb
  have QV : InU (IntKind.u64.wrap ((Sgn a 32) + (Sgn b 32))) := res_sum (Sgn a 32) (Sgn b 32) q0 q1
  have hef := eql_fn
  unfold pairV at HK
  go_enter Tryz.func57, Tryz.ntmps57
  repeat (first | (with_reducible refine then_exit ?_) | (with_reducible refine in_same ?_) | ((with_reducible refine in_other ?_ ?_); decide) | (with_reducible refine then_ret ?_) | (with_reducible refine in_ret ?_) | go_values | go_skip | go_guarded | go_step | go_upon | go_back)
  obtain ⟨W1, hW⟩ : ∃ W1, w.alloc (.cells #[.int .i64 45, .int .i64 rd, .int .i64 rs1, .int .i64 rs2, .int .i64 im, .bool aq, .bool rl] 56) = W1 := ⟨_, rfl⟩
  have hb := blk_made w _ hW rfl
  have h2 : Nb w W1 := by rw [← hW]; exact (Nb.refl _).alloc _
  rw [hW]
  clear hW
  refine (HG.out _ (hC.of_nb h2)).mono ?_
  rintro e w1 ⟨rfl, hn⟩
  have hb1 := Nb.block hn hb
  obtain ⟨n1, c0, c1, c2, c3, c4, c5, c6⟩ := cells7 hb1
  clear hb
  simp only []
  repeat (first | (with_reducible refine then_exit ?_) | (with_reducible refine in_same ?_) | ((with_reducible refine in_other ?_ ?_); decide) | (with_reducible refine then_ret ?_) | (with_reducible refine in_ret ?_) | go_values | go_skip | go_guarded | go_step | go_upon | go_back)
  refine (HI.out _).mono ?_
  rintro e w' ⟨rfl, rfl⟩
  go_wp2_with fail
  refine (HK.out _).mono ?_
  rintro e w2 ⟨rfl, hn2⟩
  clear hb1 n1 c0 c1 c2 c3 c4 c5 c6
  go_wp2_with fail
  refine (sum_any _ _ _ _).mono ?_
  rintro e w3 ⟨rfl, hn3⟩
  go_wp2_with fail
  refine (sign_any _ _ QV.1 QV.2 _).mono ?_
  rintro e w' ⟨rfl, rfl⟩
  go_wp2_with fail
  go_ret2
  exact ⟨rfl, ((h2.trans hn).trans hn2).trans hn3⟩
set_option maxRecDepth 100000 in
set_option maxHeartbeats 1000000 in
theorem val_46 (rd rs1 rs2 im pc a b : Int) (aq rl : Bool) (qa : InU a) (qb : InU b) (qi : InU (IntKind.u64.wrap im))
    (HG : Hid (∀ w, Cod w → Calls Tryz.prog 46 #[.agg #[.int .i64 46, .int .i64 rd, .int .i64 rs1, .int .i64 rs2, .int .i64 im, .bool aq, .bool rl]] w fun e w' => e = .returned (.bool true) ∧ Nb w w')) (w : World) (hC : Cod w) :
    Calls Tryz.prog 57 #[.agg #[.int .i64 46, .int .i64 rd, .int .i64 rs1, .int .i64 rs2, .int .i64 im, .bool aq, .bool rl], .int .u64 pc, .int .u64 a, .int .u64 b] w fun e w' => e = .returned (.tuple #[.int .u64 (Sgn (IntKind.u64.wrap ((Sgn a 32) - (Sgn b 32))) 32), .int .i64 0]) ∧ Nb w w' := by
  have HI := Lib.hid (imm_any 46)
  rw [show ImmB 46 = false from rfl] at HI
  have HK := Lib.hid (work_46 a b qa qb)
  have q0 : InU (Sgn a 32) := in_sgn _ 32 qa
  have q1 : InU (Sgn b 32) := in_sgn _ 32 qb
  have QV : InU (IntKind.u64.wrap ((Sgn a 32) - (Sgn b 32))) := res_difference (Sgn a 32) (Sgn b 32) q0 q1
  have hef := eql_fn
  unfold pairV at HK
  go_enter Tryz.func57, Tryz.ntmps57
  repeat (first | (with_reducible refine then_exit ?_) | (with_reducible refine in_same ?_) | ((with_reducible refine in_other ?_ ?_); decide) | (with_reducible refine then_ret ?_) | (with_reducible refine in_ret ?_) | go_values | go_skip | go_guarded | go_step | go_upon | go_back)
  obtain ⟨W1, hW⟩ : ∃ W1, w.alloc (.cells #[.int .i64 46, .int .i64 rd, .int .i64 rs1, .int .i64 rs2, .int .i64 im, .bool aq, .bool rl] 56) = W1 := ⟨_, rfl⟩
  have hb := blk_made w _ hW rfl
  have h2 : Nb w W1 := by rw [← hW]; exact (Nb.refl _).alloc _
  rw [hW]
  clear hW
  refine (HG.out _ (hC.of_nb h2)).mono ?_
  rintro e w1 ⟨rfl, hn⟩
  have hb1 := Nb.block hn hb
  obtain ⟨n1, c0, c1, c2, c3, c4, c5, c6⟩ := cells7 hb1
  clear hb
  simp only []
  repeat (first | (with_reducible refine then_exit ?_) | (with_reducible refine in_same ?_) | ((with_reducible refine in_other ?_ ?_); decide) | (with_reducible refine then_ret ?_) | (with_reducible refine in_ret ?_) | go_values | go_skip | go_guarded | go_step | go_upon | go_back)
  refine (HI.out _).mono ?_
  rintro e w' ⟨rfl, rfl⟩
  go_wp2_with fail
  refine (HK.out _).mono ?_
  rintro e w2 ⟨rfl, hn2⟩
  clear hb1 n1 c0 c1 c2 c3 c4 c5 c6
  go_wp2_with fail
  refine (diff_any _ _ _ _).mono ?_
  rintro e w3 ⟨rfl, hn3⟩
  go_wp2_with fail
  refine (sign_any _ _ QV.1 QV.2 _).mono ?_
  rintro e w' ⟨rfl, rfl⟩
  go_wp2_with fail
  go_ret2
  exact ⟨rfl, ((h2.trans hn).trans hn2).trans hn3⟩
set_option maxRecDepth 100000 in
set_option maxHeartbeats 1000000 in
theorem val_33 (rd rs1 rs2 im pc a b : Int) (aq rl : Bool) (qa : InU a) (qb : InU b) (qi : InU (IntKind.u64.wrap im))
    (HG : Hid (∀ w, Cod w → Calls Tryz.prog 46 #[.agg #[.int .i64 33, .int .i64 rd, .int .i64 rs1, .int .i64 rs2, .int .i64 im, .bool aq, .bool rl]] w fun e w' => e = .returned (.bool true) ∧ Nb w w')) (w : World) (hC : Cod w) :
    Calls Tryz.prog 57 #[.agg #[.int .i64 33, .int .i64 rd, .int .i64 rs1, .int .i64 rs2, .int .i64 im, .bool aq, .bool rl], .int .u64 pc, .int .u64 a, .int .u64 b] w fun e w' => e = .returned (.tuple #[.int .u64 (IntKind.u64.wrap (a * 2 ^ (b % 64).toNat)), .int .i64 0]) ∧ Nb w w' := by
  have HI := Lib.hid (imm_any 33)
  rw [show ImmB 33 = false from rfl] at HI
  have HK := Lib.hid (work_33 a b qa qb)
  have q0 : InU a := qa
  have q1 : InU b := qb
  have QV : InU (IntKind.u64.wrap (a * 2 ^ (b % 64).toNat)) := res_shl a b 64 q0 q1
  have hef := eql_fn
  unfold pairV at HK
  go_enter Tryz.func57, Tryz.ntmps57
  repeat (first | (with_reducible refine then_exit ?_) | (with_reducible refine in_same ?_) | ((with_reducible refine in_other ?_ ?_); decide) | (with_reducible refine then_ret ?_) | (with_reducible refine in_ret ?_) | go_values | go_skip | go_guarded | go_step | go_upon | go_back)
  obtain ⟨W1, hW⟩ : ∃ W1, w.alloc (.cells #[.int .i64 33, .int .i64 rd, .int .i64 rs1, .int .i64 rs2, .int .i64 im, .bool aq, .bool rl] 56) = W1 := ⟨_, rfl⟩
  have hb := blk_made w _ hW rfl
  have h2 : Nb w W1 := by rw [← hW]; exact (Nb.refl _).alloc _
  rw [hW]
  clear hW
  refine (HG.out _ (hC.of_nb h2)).mono ?_
  rintro e w1 ⟨rfl, hn⟩
  have hb1 := Nb.block hn hb
  obtain ⟨n1, c0, c1, c2, c3, c4, c5, c6⟩ := cells7 hb1
  clear hb
  simp only []
  repeat (first | (with_reducible refine then_exit ?_) | (with_reducible refine in_same ?_) | ((with_reducible refine in_other ?_ ?_); decide) | (with_reducible refine then_ret ?_) | (with_reducible refine in_ret ?_) | go_values | go_skip | go_guarded | go_step | go_upon | go_back)
  refine (HI.out _).mono ?_
  rintro e w' ⟨rfl, rfl⟩
  go_wp2_with fail
  refine (HK.out _).mono ?_
  rintro e w2 ⟨B, rfl, hn2, hB⟩
  have HB := Lib.hid hB
  clear hB hb1 n1 c0 c1 c2 c3 c4 c5 c6
  go_wp2_with fail
  refine (shl64 _ _ _ q0.1 q0.2 q1.1 q1.2 _ HB.out).mono ?_
  rintro e w3 ⟨rfl, hn3⟩
  go_wp2_with fail
  refine (sign_any _ _ QV.1 QV.2 _).mono ?_
  rintro e w' ⟨rfl, rfl⟩
  rw [sgn64]
  go_wp2_with fail
  go_ret2
  exact ⟨rfl, ((h2.trans hn).trans hn2).trans hn3⟩
set_option maxRecDepth 100000 in
set_option maxHeartbeats 1000000 in
theorem val_37 (rd rs1 rs2 im pc a b : Int) (aq rl : Bool) (qa : InU a) (qb : InU b) (qi : InU (IntKind.u64.wrap im))
    (HG : Hid (∀ w, Cod w → Calls Tryz.prog 46 #[.agg #[.int .i64 37, .int .i64 rd, .int .i64 rs1, .int .i64 rs2, .int .i64 im, .bool aq, .bool rl]] w fun e w' => e = .returned (.bool true) ∧ Nb w w')) (w : World) (hC : Cod w) :
    Calls Tryz.prog 57 #[.agg #[.int .i64 37, .int .i64 rd, .int .i64 rs1, .int .i64 rs2, .int .i64 im, .bool aq, .bool rl], .int .u64 pc, .int .u64 a, .int .u64 b] w fun e w' => e = .returned (.tuple #[.int .u64 (a / 2 ^ (b % 64).toNat), .int .i64 0]) ∧ Nb w w' := by
  have HI := Lib.hid (imm_any 37)
  rw [show ImmB 37 = false from rfl] at HI
  have HK := Lib.hid (work_37 a b qa qb)
  have q0 : InU a := qa
  have q1 : InU b := qb
  have QV : InU (a / 2 ^ (b % 64).toNat) := res_shr a b 64 q0 q1
  have hef := eql_fn
  unfold pairV at HK
  go_enter Tryz.func57, Tryz.ntmps57
  repeat (first | (with_reducible refine then_exit ?_) | (with_reducible refine in_same ?_) | ((with_reducible refine in_other ?_ ?_); decide) | (with_reducible refine then_ret ?_) | (with_reducible refine in_ret ?_) | go_values | go_skip | go_guarded | go_step | go_upon | go_back)
  obtain ⟨W1, hW⟩ : ∃ W1, w.alloc (.cells #[.int .i64 37, .int .i64 rd, .int .i64 rs1, .int .i64 rs2, .int .i64 im, .bool aq, .bool rl] 56) = W1 := ⟨_, rfl⟩
  have hb := blk_made w _ hW rfl
  have h2 : Nb w W1 := by rw [← hW]; exact (Nb.refl _).alloc _
  rw [hW]
  clear hW
  refine (HG.out _ (hC.of_nb h2)).mono ?_
  rintro e w1 ⟨rfl, hn⟩
  have hb1 := Nb.block hn hb
  obtain ⟨n1, c0, c1, c2, c3, c4, c5, c6⟩ := cells7 hb1
  clear hb
  simp only []
  repeat (first | (with_reducible refine then_exit ?_) | (with_reducible refine in_same ?_) | ((with_reducible refine in_other ?_ ?_); decide) | (with_reducible refine then_ret ?_) | (with_reducible refine in_ret ?_) | go_values | go_skip | go_guarded | go_step | go_upon | go_back)
  refine (HI.out _).mono ?_
  rintro e w' ⟨rfl, rfl⟩
  go_wp2_with fail
  refine (HK.out _).mono ?_
  rintro e w2 ⟨B, rfl, hn2, hB⟩
  have HB := Lib.hid hB
  clear hB hb1 n1 c0 c1 c2 c3 c4 c5 c6
  go_wp2_with fail
  refine (shr64 _ _ _ q0.1 q0.2 q1.1 q1.2 _ HB.out).mono ?_
  rintro e w3 ⟨rfl, hn3⟩
  go_wp2_with fail
  refine (sign_any _ _ QV.1 QV.2 _).mono ?_
  rintro e w' ⟨rfl, rfl⟩
  rw [sgn64]
  go_wp2_with fail
  go_ret2
  exact ⟨rfl, ((h2.trans hn).trans hn2).trans hn3⟩
set_option maxRecDepth 100000 in
set_option maxHeartbeats 1000000 in
theorem val_38 (rd rs1 rs2 im pc a b : Int) (aq rl : Bool) (qa : InU a) (qb : InU b) (qi : InU (IntKind.u64.wrap im))
    (HG : Hid (∀ w, Cod w → Calls Tryz.prog 46 #[.agg #[.int .i64 38, .int .i64 rd, .int .i64 rs1, .int .i64 rs2, .int .i64 im, .bool aq, .bool rl]] w fun e w' => e = .returned (.bool true) ∧ Nb w w')) (w : World) (hC : Cod w) :
    Calls Tryz.prog 57 #[.agg #[.int .i64 38, .int .i64 rd, .int .i64 rs1, .int .i64 rs2, .int .i64 im, .bool aq, .bool rl], .int .u64 pc, .int .u64 a, .int .u64 b] w fun e w' => e = .returned (.tuple #[.int .u64 (Sar a b 64), .int .i64 0]) ∧ Nb w w' := by
  have HI := Lib.hid (imm_any 38)
  rw [show ImmB 38 = false from rfl] at HI
  have HK := Lib.hid (work_38 a b qa qb)
  have q0 : InU a := qa
  have q1 : InU b := qb
  have QV : InU (Sar a b 64) := res_sar a b 64 q0 q1
  have hef := eql_fn
  unfold pairV at HK
  go_enter Tryz.func57, Tryz.ntmps57
  repeat (first | (with_reducible refine then_exit ?_) | (with_reducible refine in_same ?_) | ((with_reducible refine in_other ?_ ?_); decide) | (with_reducible refine then_ret ?_) | (with_reducible refine in_ret ?_) | go_values | go_skip | go_guarded | go_step | go_upon | go_back)
  obtain ⟨W1, hW⟩ : ∃ W1, w.alloc (.cells #[.int .i64 38, .int .i64 rd, .int .i64 rs1, .int .i64 rs2, .int .i64 im, .bool aq, .bool rl] 56) = W1 := ⟨_, rfl⟩
  have hb := blk_made w _ hW rfl
  have h2 : Nb w W1 := by rw [← hW]; exact (Nb.refl _).alloc _
  rw [hW]
  clear hW
  refine (HG.out _ (hC.of_nb h2)).mono ?_
  rintro e w1 ⟨rfl, hn⟩
  have hb1 := Nb.block hn hb
  obtain ⟨n1, c0, c1, c2, c3, c4, c5, c6⟩ := cells7 hb1
  clear hb
  simp only []
  repeat (first | (with_reducible refine then_exit ?_) | (with_reducible refine in_same ?_) | ((with_reducible refine in_other ?_ ?_); decide) | (with_reducible refine then_ret ?_) | (with_reducible refine in_ret ?_) | go_values | go_skip | go_guarded | go_step | go_upon | go_back)
  refine (HI.out _).mono ?_
  rintro e w' ⟨rfl, rfl⟩
  go_wp2_with fail
  refine (HK.out _).mono ?_
  rintro e w2 ⟨B, rfl, hn2, hB⟩
  have HB := Lib.hid hB
  clear hB hb1 n1 c0 c1 c2 c3 c4 c5 c6
  go_wp2_with fail
  refine (sarI64 _ _ _ q0.1 q0.2 q1.1 q1.2 _ HB.out).mono ?_
  rintro e w3 ⟨rfl, hn3⟩
  go_wp2_with fail
  refine (sign_any _ _ QV.1 QV.2 _).mono ?_
  rintro e w' ⟨rfl, rfl⟩
  rw [sgn64]
  go_wp2_with fail
  go_ret2
  exact ⟨rfl, ((h2.trans hn).trans hn2).trans hn3⟩
set_option maxRecDepth 100000 in
set_option maxHeartbeats 1000000 in
theorem val_35 (rd rs1 rs2 im pc a b : Int) (aq rl : Bool) (qa : InU a) (qb : InU b) (qi : InU (IntKind.u64.wrap im))
    (HG : Hid (∀ w, Cod w → Calls Tryz.prog 46 #[.agg #[.int .i64 35, .int .i64 rd, .int .i64 rs1, .int .i64 rs2, .int .i64 im, .bool aq, .bool rl]] w fun e w' => e = .returned (.bool true) ∧ Nb w w')) (w : World) (hC : Cod w) :
    Calls Tryz.prog 57 #[.agg #[.int .i64 35, .int .i64 rd, .int .i64 rs1, .int .i64 rs2, .int .i64 im, .bool aq, .bool rl], .int .u64 pc, .int .u64 a, .int .u64 b] w fun e w' => e = .returned (.tuple #[.int .u64 (BitI (LtU a b)), .int .i64 0]) ∧ Nb w w' := by
  have HI := Lib.hid (imm_any 35)
  rw [show ImmB 35 = false from rfl] at HI
  have HK := Lib.hid (work_35 a b qa qb)
  have q0 : InU a := qa
  have q1 : InU b := qb
  have QV : InU (BitI (LtU a b)) := res_belowBit a b q0 q1
  have hef := eql_fn
  unfold pairV at HK
  go_enter Tryz.func57, Tryz.ntmps57
  repeat (first | (with_reducible refine then_exit ?_) | (with_reducible refine in_same ?_) | ((with_reducible refine in_other ?_ ?_); decide) | (with_reducible refine then_ret ?_) | (with_reducible refine in_ret ?_) | go_values | go_skip | go_guarded | go_step | go_upon | go_back)
  obtain ⟨W1, hW⟩ : ∃ W1, w.alloc (.cells #[.int .i64 35, .int .i64 rd, .int .i64 rs1, .int .i64 rs2, .int .i64 im, .bool aq, .bool rl] 56) = W1 := ⟨_, rfl⟩
  have hb := blk_made w _ hW rfl
  have h2 : Nb w W1 := by rw [← hW]; exact (Nb.refl _).alloc _
  rw [hW]
  clear hW
  refine (HG.out _ (hC.of_nb h2)).mono ?_
  rintro e w1 ⟨rfl, hn⟩
  have hb1 := Nb.block hn hb
  obtain ⟨n1, c0, c1, c2, c3, c4, c5, c6⟩ := cells7 hb1
  clear hb
  simp only []
  repeat (first | (with_reducible refine then_exit ?_) | (with_reducible refine in_same ?_) | ((with_reducible refine in_other ?_ ?_); decide) | (with_reducible refine then_ret ?_) | (with_reducible refine in_ret ?_) | go_values | go_skip | go_guarded | go_step | go_upon | go_back)
  refine (HI.out _).mono ?_
  rintro e w' ⟨rfl, rfl⟩
  go_wp2_with fail
  refine (HK.out _).mono ?_
  rintro e w2 ⟨rfl, hn2⟩
  clear hb1 n1 c0 c1 c2 c3 c4 c5 c6
  go_wp2_with fail
  refine (belowBitI _ _ _ _).mono ?_
  rintro e w3 ⟨rfl, hn3⟩
  go_wp2_with fail
  refine (sign_any _ _ QV.1 QV.2 _).mono ?_
  rintro e w' ⟨rfl, rfl⟩
  rw [sgn64]
  go_wp2_with fail
  go_ret2
  exact ⟨rfl, ((h2.trans hn).trans hn2).trans hn3⟩
set_option maxRecDepth 100000 in
set_option maxHeartbeats 1000000 in
theorem val_39 (rd rs1 rs2 im pc a b : Int) (aq rl : Bool) (qa : InU a) (qb : InU b) (qi : InU (IntKind.u64.wrap im))
    (HG : Hid (∀ w, Cod w → Calls Tryz.prog 46 #[.agg #[.int .i64 39, .int .i64 rd, .int .i64 rs1, .int .i64 rs2, .int .i64 im, .bool aq, .bool rl]] w fun e w' => e = .returned (.bool true) ∧ Nb w w')) (w : World) (hC : Cod w) :
    Calls Tryz.prog 57 #[.agg #[.int .i64 39, .int .i64 rd, .int .i64 rs1, .int .i64 rs2, .int .i64 im, .bool aq, .bool rl], .int .u64 pc, .int .u64 a, .int .u64 b] w fun e w' => e = .returned (.tuple #[.int .u64 (bits .or .u64 a b), .int .i64 0]) ∧ Nb w w' := by
  have HI := Lib.hid (imm_any 39)
  rw [show ImmB 39 = false from rfl] at HI
  have HK := Lib.hid (work_39 a b qa qb)
  have q0 : InU a := qa
  have q1 : InU b := qb
  have QV : InU (bits .or .u64 a b) := res_or a b q0 q1
  have hef := eql_fn
  unfold pairV at HK
  go_enter Tryz.func57, Tryz.ntmps57
  repeat (first | (with_reducible refine then_exit ?_) | (with_reducible refine in_same ?_) | ((with_reducible refine in_other ?_ ?_); decide) | (with_reducible refine then_ret ?_) | (with_reducible refine in_ret ?_) | go_values | go_skip | go_guarded | go_step | go_upon | go_back)
  obtain ⟨W1, hW⟩ : ∃ W1, w.alloc (.cells #[.int .i64 39, .int .i64 rd, .int .i64 rs1, .int .i64 rs2, .int .i64 im, .bool aq, .bool rl] 56) = W1 := ⟨_, rfl⟩
  have hb := blk_made w _ hW rfl
  have h2 : Nb w W1 := by rw [← hW]; exact (Nb.refl _).alloc _
  rw [hW]
  clear hW
  refine (HG.out _ (hC.of_nb h2)).mono ?_
  rintro e w1 ⟨rfl, hn⟩
  have hb1 := Nb.block hn hb
  obtain ⟨n1, c0, c1, c2, c3, c4, c5, c6⟩ := cells7 hb1
  clear hb
  simp only []
  repeat (first | (with_reducible refine then_exit ?_) | (with_reducible refine in_same ?_) | ((with_reducible refine in_other ?_ ?_); decide) | (with_reducible refine then_ret ?_) | (with_reducible refine in_ret ?_) | go_values | go_skip | go_guarded | go_step | go_upon | go_back)
  refine (HI.out _).mono ?_
  rintro e w' ⟨rfl, rfl⟩
  go_wp2_with fail
  refine (HK.out _).mono ?_
  rintro e w2 ⟨rfl, hn2⟩
  clear hb1 n1 c0 c1 c2 c3 c4 c5 c6
  go_wp2_with fail
  refine (or_any _ _ _ _).mono ?_
  rintro e w3 ⟨rfl, hn3⟩
  go_wp2_with fail
  refine (sign_any _ _ QV.1 QV.2 _).mono ?_
  rintro e w' ⟨rfl, rfl⟩
  rw [sgn64]
  go_wp2_with fail
  go_ret2
  exact ⟨rfl, ((h2.trans hn).trans hn2).trans hn3⟩
set_option maxRecDepth 100000 in
set_option maxHeartbeats 1000000 in
theorem val_61 (rd rs1 rs2 im pc a b : Int) (aq rl : Bool) (qa : InU a) (qb : InU b) (qi : InU (IntKind.u64.wrap im))
    (HG : Hid (∀ w, Cod w → Calls Tryz.prog 46 #[.agg #[.int .i64 61, .int .i64 rd, .int .i64 rs1, .int .i64 rs2, .int .i64 im, .bool aq, .bool rl]] w fun e w' => e = .returned (.bool true) ∧ Nb w w')) (w : World) (hC : Cod w) :
    Calls Tryz.prog 57 #[.agg #[.int .i64 61, .int .i64 rd, .int .i64 rs1, .int .i64 rs2, .int .i64 im, .bool aq, .bool rl], .int .u64 pc, .int .u64 a, .int .u64 b] w fun e w' => e = .returned (.tuple #[.int .u64 (Sgn (IntKind.u64.wrap ((Sgn a 32) * (Sgn b 32))) 32), .int .i64 0]) ∧ Nb w w' := by
  have HI := Lib.hid (imm_any 61)
  rw [show ImmB 61 = false from rfl] at HI
  have HK := Lib.hid (work_61 a b qa qb)
  have q0 : InU (Sgn a 32) := in_sgn _ 32 qa
  have q1 : InU (Sgn b 32) := in_sgn _ 32 qb
  have QV : InU (IntKind.u64.wrap ((Sgn a 32) * (Sgn b 32))) := res_product (Sgn a 32) (Sgn b 32) q0 q1
  have hef := eql_fn
  unfold pairV at HK
  go_enter Tryz.func57, Tryz.ntmps57
  repeat (first | (with_reducible refine then_exit ?_) | (with_reducible refine in_same ?_) | ((with_reducible refine in_other ?_ ?_); decide) | (with_reducible refine then_ret ?_) | (with_reducible refine in_ret ?_) | go_values | go_skip | go_guarded | go_step | go_upon | go_back)
  obtain ⟨W1, hW⟩ : ∃ W1, w.alloc (.cells #[.int .i64 61, .int .i64 rd, .int .i64 rs1, .int .i64 rs2, .int .i64 im, .bool aq, .bool rl] 56) = W1 := ⟨_, rfl⟩
  have hb := blk_made w _ hW rfl
  have h2 : Nb w W1 := by rw [← hW]; exact (Nb.refl _).alloc _
  rw [hW]
  clear hW
  refine (HG.out _ (hC.of_nb h2)).mono ?_
  rintro e w1 ⟨rfl, hn⟩
  have hb1 := Nb.block hn hb
  obtain ⟨n1, c0, c1, c2, c3, c4, c5, c6⟩ := cells7 hb1
  clear hb
  simp only []
  repeat (first | (with_reducible refine then_exit ?_) | (with_reducible refine in_same ?_) | ((with_reducible refine in_other ?_ ?_); decide) | (with_reducible refine then_ret ?_) | (with_reducible refine in_ret ?_) | go_values | go_skip | go_guarded | go_step | go_upon | go_back)
  refine (HI.out _).mono ?_
  rintro e w' ⟨rfl, rfl⟩
  go_wp2_with fail
  refine (HK.out _).mono ?_
  rintro e w2 ⟨rfl, hn2⟩
  clear hb1 n1 c0 c1 c2 c3 c4 c5 c6
  go_wp2_with fail
  refine (mul_any _ _ _ _).mono ?_
  rintro e w3 ⟨rfl, hn3⟩
  go_wp2_with fail
  refine (sign_any _ _ QV.1 QV.2 _).mono ?_
  rintro e w' ⟨rfl, rfl⟩
  go_wp2_with fail
  go_ret2
  exact ⟨rfl, ((h2.trans hn).trans hn2).trans hn3⟩
set_option maxRecDepth 100000 in
set_option maxHeartbeats 1000000 in
theorem val_56 (rd rs1 rs2 im pc a b : Int) (aq rl : Bool) (qa : InU a) (qb : InU b) (qi : InU (IntKind.u64.wrap im))
    (HG : Hid (∀ w, Cod w → Calls Tryz.prog 46 #[.agg #[.int .i64 56, .int .i64 rd, .int .i64 rs1, .int .i64 rs2, .int .i64 im, .bool aq, .bool rl]] w fun e w' => e = .returned (.bool true) ∧ Nb w w')) (w : World) (hC : Cod w) :
    Calls Tryz.prog 57 #[.agg #[.int .i64 56, .int .i64 rd, .int .i64 rs1, .int .i64 rs2, .int .i64 im, .bool aq, .bool rl], .int .u64 pc, .int .u64 a, .int .u64 b] w fun e w' => e = .returned (.tuple #[.int .u64 (Hgh a b false false), .int .i64 0]) ∧ Nb w w' := by
  have HI := Lib.hid (imm_any 56)
  rw [show ImmB 56 = false from rfl] at HI
  have HK := Lib.hid (work_56 a b qa qb)
  have q0 : InU a := qa
  have q1 : InU b := qb
  have QV : InU (Hgh a b false false) := res_high a b q0 q1
  have hef := eql_fn
  unfold pairV at HK
  go_enter Tryz.func57, Tryz.ntmps57
  repeat (first | (with_reducible refine then_exit ?_) | (with_reducible refine in_same ?_) | ((with_reducible refine in_other ?_ ?_); decide) | (with_reducible refine then_ret ?_) | (with_reducible refine in_ret ?_) | go_values | go_skip | go_guarded | go_step | go_upon | go_back)
  obtain ⟨W1, hW⟩ : ∃ W1, w.alloc (.cells #[.int .i64 56, .int .i64 rd, .int .i64 rs1, .int .i64 rs2, .int .i64 im, .bool aq, .bool rl] 56) = W1 := ⟨_, rfl⟩
  have hb := blk_made w _ hW rfl
  have h2 : Nb w W1 := by rw [← hW]; exact (Nb.refl _).alloc _
  rw [hW]
  clear hW
  refine (HG.out _ (hC.of_nb h2)).mono ?_
  rintro e w1 ⟨rfl, hn⟩
  have hb1 := Nb.block hn hb
  obtain ⟨n1, c0, c1, c2, c3, c4, c5, c6⟩ := cells7 hb1
  clear hb
  simp only []
  repeat (first | (with_reducible refine then_exit ?_) | (with_reducible refine in_same ?_) | ((with_reducible refine in_other ?_ ?_); decide) | (with_reducible refine then_ret ?_) | (with_reducible refine in_ret ?_) | go_values | go_skip | go_guarded | go_step | go_upon | go_back)
  refine (HI.out _).mono ?_
  rintro e w' ⟨rfl, rfl⟩
  go_wp2_with fail
  refine (HK.out _).mono ?_
  rintro e w2 ⟨rfl, hn2⟩
  clear hb1 n1 c0 c1 c2 c3 c4 c5 c6
  go_wp2_with fail
  refine (highN_any _ _ _ q0.1 q0.2 q1.1 q1.2 _).mono ?_
  rintro e w3 ⟨rfl, hn3⟩
  go_wp2_with fail
  refine (sign_any _ _ QV.1 QV.2 _).mono ?_
  rintro e w' ⟨rfl, rfl⟩
  rw [sgn64]
  go_wp2_with fail
  go_ret2
  exact ⟨rfl, ((h2.trans hn).trans hn2).trans hn3⟩
set_option maxRecDepth 100000 in
set_option maxHeartbeats 1000000 in
theorem val_58 (rd rs1 rs2 im pc a b : Int) (aq rl : Bool) (qa : InU a) (qb : InU b) (qi : InU (IntKind.u64.wrap im))
    (HG : Hid (∀ w, Cod w → Calls Tryz.prog 46 #[.agg #[.int .i64 58, .int .i64 rd, .int .i64 rs1, .int .i64 rs2, .int .i64 im, .bool aq, .bool rl]] w fun e w' => e = .returned (.bool true) ∧ Nb w w')) (w : World) (hC : Cod w) :
    Calls Tryz.prog 57 #[.agg #[.int .i64 58, .int .i64 rd, .int .i64 rs1, .int .i64 rs2, .int .i64 im, .bool aq, .bool rl], .int .u64 pc, .int .u64 a, .int .u64 b] w fun e w' => e = .returned (.tuple #[.int .u64 (_root_.Go.Proofs.YtmggichckhoomaaGreatDoor.Quo a b false), .int .i64 0]) ∧ Nb w w' := by
  have HI := Lib.hid (imm_any 58)
  rw [show ImmB 58 = false from rfl] at HI
  have HK := Lib.hid (work_58 a b qa qb)
  have q0 : InU a := qa
  have q1 : InU b := qb
  have QV : InU (_root_.Go.Proofs.YtmggichckhoomaaGreatDoor.Quo a b false) := res_quo a b q0 q1
  have hef := eql_fn
  unfold pairV at HK
  go_enter Tryz.func57, Tryz.ntmps57
  repeat (first | (with_reducible refine then_exit ?_) | (with_reducible refine in_same ?_) | ((with_reducible refine in_other ?_ ?_); decide) | (with_reducible refine then_ret ?_) | (with_reducible refine in_ret ?_) | go_values | go_skip | go_guarded | go_step | go_upon | go_back)
  obtain ⟨W1, hW⟩ : ∃ W1, w.alloc (.cells #[.int .i64 58, .int .i64 rd, .int .i64 rs1, .int .i64 rs2, .int .i64 im, .bool aq, .bool rl] 56) = W1 := ⟨_, rfl⟩
  have hb := blk_made w _ hW rfl
  have h2 : Nb w W1 := by rw [← hW]; exact (Nb.refl _).alloc _
  rw [hW]
  clear hW
  refine (HG.out _ (hC.of_nb h2)).mono ?_
  rintro e w1 ⟨rfl, hn⟩
  have hb1 := Nb.block hn hb
  obtain ⟨n1, c0, c1, c2, c3, c4, c5, c6⟩ := cells7 hb1
  clear hb
  simp only []
  repeat (first | (with_reducible refine then_exit ?_) | (with_reducible refine in_same ?_) | ((with_reducible refine in_other ?_ ?_); decide) | (with_reducible refine then_ret ?_) | (with_reducible refine in_ret ?_) | go_values | go_skip | go_guarded | go_step | go_upon | go_back)
  refine (HI.out _).mono ?_
  rintro e w' ⟨rfl, rfl⟩
  go_wp2_with fail
  refine (HK.out _).mono ?_
  rintro e w2 ⟨rfl, hn2⟩
  clear hb1 n1 c0 c1 c2 c3 c4 c5 c6
  go_wp2_with fail
  refine (quoN_any _ _ _ q0.1 q0.2 q1.1 q1.2 _).mono ?_
  rintro e w3 ⟨rfl, hn3⟩
  go_wp2_with fail
  refine (sign_any _ _ QV.1 QV.2 _).mono ?_
  rintro e w' ⟨rfl, rfl⟩
  rw [sgn64]
  go_wp2_with fail
  go_ret2
  exact ⟨rfl, ((h2.trans hn).trans hn2).trans hn3⟩
set_option maxRecDepth 100000 in
set_option maxHeartbeats 1000000 in
theorem val_60 (rd rs1 rs2 im pc a b : Int) (aq rl : Bool) (qa : InU a) (qb : InU b) (qi : InU (IntKind.u64.wrap im))
    (HG : Hid (∀ w, Cod w → Calls Tryz.prog 46 #[.agg #[.int .i64 60, .int .i64 rd, .int .i64 rs1, .int .i64 rs2, .int .i64 im, .bool aq, .bool rl]] w fun e w' => e = .returned (.bool true) ∧ Nb w w')) (w : World) (hC : Cod w) :
    Calls Tryz.prog 57 #[.agg #[.int .i64 60, .int .i64 rd, .int .i64 rs1, .int .i64 rs2, .int .i64 im, .bool aq, .bool rl], .int .u64 pc, .int .u64 a, .int .u64 b] w fun e w' => e = .returned (.tuple #[.int .u64 (_root_.Go.Proofs.YtmggichckhoomaaGreatDoor.Rem a b false), .int .i64 0]) ∧ Nb w w' := by
  have HI := Lib.hid (imm_any 60)
  rw [show ImmB 60 = false from rfl] at HI
  have HK := Lib.hid (work_60 a b qa qb)
  have q0 : InU a := qa
  have q1 : InU b := qb
  have QV : InU (_root_.Go.Proofs.YtmggichckhoomaaGreatDoor.Rem a b false) := res_rem a b q0 q1
  have hef := eql_fn
  unfold pairV at HK
  go_enter Tryz.func57, Tryz.ntmps57
  repeat (first | (with_reducible refine then_exit ?_) | (with_reducible refine in_same ?_) | ((with_reducible refine in_other ?_ ?_); decide) | (with_reducible refine then_ret ?_) | (with_reducible refine in_ret ?_) | go_values | go_skip | go_guarded | go_step | go_upon | go_back)
  obtain ⟨W1, hW⟩ : ∃ W1, w.alloc (.cells #[.int .i64 60, .int .i64 rd, .int .i64 rs1, .int .i64 rs2, .int .i64 im, .bool aq, .bool rl] 56) = W1 := ⟨_, rfl⟩
  have hb := blk_made w _ hW rfl
  have h2 : Nb w W1 := by rw [← hW]; exact (Nb.refl _).alloc _
  rw [hW]
  clear hW
  refine (HG.out _ (hC.of_nb h2)).mono ?_
  rintro e w1 ⟨rfl, hn⟩
  have hb1 := Nb.block hn hb
  obtain ⟨n1, c0, c1, c2, c3, c4, c5, c6⟩ := cells7 hb1
  clear hb
  simp only []
  repeat (first | (with_reducible refine then_exit ?_) | (with_reducible refine in_same ?_) | ((with_reducible refine in_other ?_ ?_); decide) | (with_reducible refine then_ret ?_) | (with_reducible refine in_ret ?_) | go_values | go_skip | go_guarded | go_step | go_upon | go_back)
  refine (HI.out _).mono ?_
  rintro e w' ⟨rfl, rfl⟩
  go_wp2_with fail
  refine (HK.out _).mono ?_
  rintro e w2 ⟨rfl, hn2⟩
  clear hb1 n1 c0 c1 c2 c3 c4 c5 c6
  go_wp2_with fail
  refine (remN_any _ _ _ q0.1 q0.2 q1.1 q1.2 _).mono ?_
  rintro e w3 ⟨rfl, hn3⟩
  go_wp2_with fail
  refine (sign_any _ _ QV.1 QV.2 _).mono ?_
  rintro e w' ⟨rfl, rfl⟩
  rw [sgn64]
  go_wp2_with fail
  go_ret2
  exact ⟨rfl, ((h2.trans hn).trans hn2).trans hn3⟩
end Go.Proofs.YtmggichckhoomaaGreatDoor
