/-
  Proved here: what alu.Value of the code gives, operation by operation, a part. Conditions: the numbers are words; the table of codes holds what its text lays.
-/
import Derived.Test.YtmggichckhoomaaGreatDoorQax
namespace Go.Proofs.YtmggichckhoomaaGreatDoor
open Go.RowKit
set_option linter.unusedVariables false
set_option maxRecDepth 100000 in
set_option maxHeartbeats 1000000 in
theorem val_41 (rd rs1 rs2 im pc a b : Int) (aq rl : Bool) (qa : InU a) (qb : InU b) (qi : InU (IntKind.u64.wrap im))
    (HG : Hid (∀ w, Cod w → Calls Tryz.prog 46 #[.agg #[.int .i64 41, .int .i64 rd, .int .i64 rs1, .int .i64 rs2, .int .i64 im, .bool aq, .bool rl]] w fun e w' => e = .returned (.bool true) ∧ Nb w w')) (w : World) (hC : Cod w) :
    Calls Tryz.prog 57 #[.agg #[.int .i64 41, .int .i64 rd, .int .i64 rs1, .int .i64 rs2, .int .i64 im, .bool aq, .bool rl], .int .u64 pc, .int .u64 a, .int .u64 b] w fun e w' => e = .returned (.tuple #[.int .u64 (Sgn (IntKind.u64.wrap ((Sgn a 32) + (Sgn (IntKind.u64.wrap im) 32))) 32), .int .i64 0]) ∧ Nb w w' := by
  have HI := Lib.hid (imm_any 41)
  rw [show ImmB 41 = true from rfl] at HI
  have HK := Lib.hid (work_41 a (IntKind.u64.wrap im) qa qi)
  have q0 : InU (Sgn a 32) := in_sgn _ 32 qa
  have q1 : InU (Sgn (IntKind.u64.wrap im) 32) := in_sgn _ 32 qi
  have QV : InU (IntKind.u64.wrap ((Sgn a 32) + (Sgn (IntKind.u64.wrap im) 32))) := res_sum (Sgn a 32) (Sgn (IntKind.u64.wrap im) 32) q0 q1
  have hef := eql_fn
  unfold pairV at HK
  go_enter Tryz.func57, Tryz.ntmps57
  repeat (first | (with_reducible refine then_exit ?_) | (with_reducible refine in_same ?_) | ((with_reducible refine in_other ?_ ?_); decide) | (with_reducible refine then_ret ?_) | (with_reducible refine in_ret ?_) | go_values | go_skip | go_guarded | go_step | go_upon | go_back)
  obtain ⟨W1, hW⟩ : ∃ W1, w.alloc (.cells #[.int .i64 41, .int .i64 rd, .int .i64 rs1, .int .i64 rs2, .int .i64 im, .bool aq, .bool rl] 56) = W1 := ⟨_, rfl⟩
  have hb := blk_made w _ hW rfl
  have h2 : Nb w W1 := by rw [← hW]; exact (Nb.refl _).alloc _
  rw [hW]
  clear hW
  refine (HG.out _ (hC.of_nb h2)).mono ?_
  rintro e w1 ⟨rfl, hn⟩
  have hb1 := Nb.block hn hb
  obtain ⟨n1, c0, c1, c2, c3, c4, c5, c6⟩ := cells7 hb1
  clear hb
  simp only []
  repeat (first | (with_reducible refine then_exit ?_) | (with_reducible refine in_same ?_) | ((with_reducible refine in_other ?_ ?_); decide) | (with_reducible refine then_ret ?_) | (with_reducible refine in_ret ?_) | go_values | go_skip | go_guarded | go_step | go_upon | go_back)
  refine (HI.out _).mono ?_
  rintro e w' ⟨rfl, rfl⟩
  go_wp2_with fail
  refine (HK.out _).mono ?_
  rintro e w2 ⟨rfl, hn2⟩
  clear hb1 n1 c0 c1 c2 c3 c4 c5 c6
  go_wp2_with fail
  refine (sum_any _ _ _ _).mono ?_
  rintro e w3 ⟨rfl, hn3⟩
  go_wp2_with fail
  refine (sign_any _ _ QV.1 QV.2 _).mono ?_
  rintro e w' ⟨rfl, rfl⟩
  go_wp2_with fail
  go_ret2
  exact ⟨rfl, ((h2.trans hn).trans hn2).trans hn3⟩
set_option maxRecDepth 100000 in
set_option maxHeartbeats 1000000 in
theorem val_32 (rd rs1 rs2 im pc a b : Int) (aq rl : Bool) (qa : InU a) (qb : InU b) (qi : InU (IntKind.u64.wrap im))
    (HG : Hid (∀ w, Cod w → Calls Tryz.prog 46 #[.agg #[.int .i64 32, .int .i64 rd, .int .i64 rs1, .int .i64 rs2, .int .i64 im, .bool aq, .bool rl]] w fun e w' => e = .returned (.bool true) ∧ Nb w w')) (w : World) (hC : Cod w) :
    Calls Tryz.prog 57 #[.agg #[.int .i64 32, .int .i64 rd, .int .i64 rs1, .int .i64 rs2, .int .i64 im, .bool aq, .bool rl], .int .u64 pc, .int .u64 a, .int .u64 b] w fun e w' => e = .returned (.tuple #[.int .u64 (IntKind.u64.wrap (a - b)), .int .i64 0]) ∧ Nb w w' := by
  have HI := Lib.hid (imm_any 32)
  rw [show ImmB 32 = false from rfl] at HI
  have HK := Lib.hid (work_32 a b qa qb)
  have q0 : InU a := qa
  have q1 : InU b := qb
  have QV : InU (IntKind.u64.wrap (a - b)) := res_difference a b q0 q1
  have hef := eql_fn
  unfold pairV at HK
  go_enter Tryz.func57, Tryz.ntmps57
  repeat (first | (with_reducible refine then_exit ?_) | (with_reducible refine in_same ?_) | ((with_reducible refine in_other ?_ ?_); decide) | (with_reducible refine then_ret ?_) | (with_reducible refine in_ret ?_) | go_values | go_skip | go_guarded | go_step | go_upon | go_back)
  obtain ⟨W1, hW⟩ : ∃ W1, w.alloc (.cells #[.int .i64 32, .int .i64 rd, .int .i64 rs1, .int .i64 rs2, .int .i64 im, .bool aq, .bool rl] 56) = W1 := ⟨_, rfl⟩
  have hb := blk_made w _ hW rfl
  have h2 : Nb w W1 := by rw [← hW]; exact (Nb.refl _).alloc _
  rw [hW]
  clear hW
  refine (HG.out _ (hC.of_nb h2)).mono ?_
  rintro e w1 ⟨rfl, hn⟩
  have hb1 := Nb.block hn hb
  obtain ⟨n1, c0, c1, c2, c3, c4, c5, c6⟩ := cells7 hb1
  clear hb
  simp only []
  repeat (first | (with_reducible refine then_exit ?_) | (with_reducible refine in_same ?_) | ((with_reducible refine in_other ?_ ?_); decide) | (with_reducible refine then_ret ?_) | (with_reducible refine in_ret ?_) | go_values | go_skip | go_guarded | go_step | go_upon | go_back)
  refine (HI.out _).mono ?_
  rintro e w' ⟨rfl, rfl⟩
  go_wp2_with fail
  refine (HK.out _).mono ?_
  rintro e w2 ⟨rfl, hn2⟩
  clear hb1 n1 c0 c1 c2 c3 c4 c5 c6
  go_wp2_with fail
  refine (diff_any _ _ _ _).mono ?_
  rintro e w3 ⟨rfl, hn3⟩
  go_wp2_with fail
  refine (sign_any _ _ QV.1 QV.2 _).mono ?_
  rintro e w' ⟨rfl, rfl⟩
  rw [sgn64]
  go_wp2_with fail
  go_ret2
  exact ⟨rfl, ((h2.trans hn).trans hn2).trans hn3⟩
set_option maxRecDepth 100000 in
set_option maxHeartbeats 1000000 in
theorem val_28 (rd rs1 rs2 im pc a b : Int) (aq rl : Bool) (qa : InU a) (qb : InU b) (qi : InU (IntKind.u64.wrap im))
    (HG : Hid (∀ w, Cod w → Calls Tryz.prog 46 #[.agg #[.int .i64 28, .int .i64 rd, .int .i64 rs1, .int .i64 rs2, .int .i64 im, .bool aq, .bool rl]] w fun e w' => e = .returned (.bool true) ∧ Nb w w')) (w : World) (hC : Cod w) :
    Calls Tryz.prog 57 #[.agg #[.int .i64 28, .int .i64 rd, .int .i64 rs1, .int .i64 rs2, .int .i64 im, .bool aq, .bool rl], .int .u64 pc, .int .u64 a, .int .u64 b] w fun e w' => e = .returned (.tuple #[.int .u64 (IntKind.u64.wrap (a * 2 ^ ((IntKind.u64.wrap im) % 64).toNat)), .int .i64 0]) ∧ Nb w w' := by
  have HI := Lib.hid (imm_any 28)
  rw [show ImmB 28 = true from rfl] at HI
  have HK := Lib.hid (work_28 a (IntKind.u64.wrap im) qa qi)
  have q0 : InU a := qa
  have q1 : InU (IntKind.u64.wrap im) := qi
  have QV : InU (IntKind.u64.wrap (a * 2 ^ ((IntKind.u64.wrap im) % 64).toNat)) := res_shl a (IntKind.u64.wrap im) 64 q0 q1
  have hef := eql_fn
  unfold pairV at HK
  go_enter Tryz.func57, Tryz.ntmps57
  repeat (first | (with_reducible refine then_exit ?_) | (with_reducible refine in_same ?_) | ((with_reducible refine in_other ?_ ?_); decide) | (with_reducible refine then_ret ?_) | (with_reducible refine in_ret ?_) | go_values | go_skip | go_guarded | go_step | go_upon | go_back)
  obtain ⟨W1, hW⟩ : ∃ W1, w.alloc (.cells #[.int .i64 28, .int .i64 rd, .int .i64 rs1, .int .i64 rs2, .int .i64 im, .bool aq, .bool rl] 56) = W1 := ⟨_, rfl⟩
  have hb := blk_made w _ hW rfl
  have h2 : Nb w W1 := by rw [← hW]; exact (Nb.refl _).alloc _
  rw [hW]
  clear hW
  refine (HG.out _ (hC.of_nb h2)).mono ?_
  rintro e w1 ⟨rfl, hn⟩
  have hb1 := Nb.block hn hb
  obtain ⟨n1, c0, c1, c2, c3, c4, c5, c6⟩ := cells7 hb1
  clear hb
  simp only []
  repeat (first | (with_reducible refine then_exit ?_) | (with_reducible refine in_same ?_) | ((with_reducible refine in_other ?_ ?_); decide) | (with_reducible refine then_ret ?_) | (with_reducible refine in_ret ?_) | go_values | go_skip | go_guarded | go_step | go_upon | go_back)
  refine (HI.out _).mono ?_
  rintro e w' ⟨rfl, rfl⟩
  go_wp2_with fail
  refine (HK.out _).mono ?_
  rintro e w2 ⟨B, rfl, hn2, hB⟩
  have HB := Lib.hid hB
  clear hB hb1 n1 c0 c1 c2 c3 c4 c5 c6
  go_wp2_with fail
  refine (shl64 _ _ _ q0.1 q0.2 q1.1 q1.2 _ HB.out).mono ?_
  rintro e w3 ⟨rfl, hn3⟩
  go_wp2_with fail
  refine (sign_any _ _ QV.1 QV.2 _).mono ?_
  rintro e w' ⟨rfl, rfl⟩
  rw [sgn64]
  go_wp2_with fail
  go_ret2
  exact ⟨rfl, ((h2.trans hn).trans hn2).trans hn3⟩
set_option maxRecDepth 100000 in
set_option maxHeartbeats 1000000 in
theorem val_29 (rd rs1 rs2 im pc a b : Int) (aq rl : Bool) (qa : InU a) (qb : InU b) (qi : InU (IntKind.u64.wrap im))
    (HG : Hid (∀ w, Cod w → Calls Tryz.prog 46 #[.agg #[.int .i64 29, .int .i64 rd, .int .i64 rs1, .int .i64 rs2, .int .i64 im, .bool aq, .bool rl]] w fun e w' => e = .returned (.bool true) ∧ Nb w w')) (w : World) (hC : Cod w) :
    Calls Tryz.prog 57 #[.agg #[.int .i64 29, .int .i64 rd, .int .i64 rs1, .int .i64 rs2, .int .i64 im, .bool aq, .bool rl], .int .u64 pc, .int .u64 a, .int .u64 b] w fun e w' => e = .returned (.tuple #[.int .u64 (a / 2 ^ ((IntKind.u64.wrap im) % 64).toNat), .int .i64 0]) ∧ Nb w w' := by
  have HI := Lib.hid (imm_any 29)
  rw [show ImmB 29 = true from rfl] at HI
  have HK := Lib.hid (work_29 a (IntKind.u64.wrap im) qa qi)
  have q0 : InU a := qa
  have q1 : InU (IntKind.u64.wrap im) := qi
  have QV : InU (a / 2 ^ ((IntKind.u64.wrap im) % 64).toNat) := res_shr a (IntKind.u64.wrap im) 64 q0 q1
  have hef := eql_fn
  unfold pairV at HK
  go_enter Tryz.func57, Tryz.ntmps57
  repeat (first | (with_reducible refine then_exit ?_) | (with_reducible refine in_same ?_) | ((with_reducible refine in_other ?_ ?_); decide) | (with_reducible refine then_ret ?_) | (with_reducible refine in_ret ?_) | go_values | go_skip | go_guarded | go_step | go_upon | go_back)
  obtain ⟨W1, hW⟩ : ∃ W1, w.alloc (.cells #[.int .i64 29, .int .i64 rd, .int .i64 rs1, .int .i64 rs2, .int .i64 im, .bool aq, .bool rl] 56) = W1 := ⟨_, rfl⟩
  have hb := blk_made w _ hW rfl
  have h2 : Nb w W1 := by rw [← hW]; exact (Nb.refl _).alloc _
  rw [hW]
  clear hW
  refine (HG.out _ (hC.of_nb h2)).mono ?_
  rintro e w1 ⟨rfl, hn⟩
  have hb1 := Nb.block hn hb
  obtain ⟨n1, c0, c1, c2, c3, c4, c5, c6⟩ := cells7 hb1
  clear hb
  simp only []
  repeat (first | (with_reducible refine then_exit ?_) | (with_reducible refine in_same ?_) | ((with_reducible refine in_other ?_ ?_); decide) | (with_reducible refine then_ret ?_) | (with_reducible refine in_ret ?_) | go_values | go_skip | go_guarded | go_step | go_upon | go_back)
  refine (HI.out _).mono ?_
  rintro e w' ⟨rfl, rfl⟩
  go_wp2_with fail
  refine (HK.out _).mono ?_
  rintro e w2 ⟨B, rfl, hn2, hB⟩
  have HB := Lib.hid hB
  clear hB hb1 n1 c0 c1 c2 c3 c4 c5 c6
  go_wp2_with fail
  refine (shr64 _ _ _ q0.1 q0.2 q1.1 q1.2 _ HB.out).mono ?_
  rintro e w3 ⟨rfl, hn3⟩
  go_wp2_with fail
  refine (sign_any _ _ QV.1 QV.2 _).mono ?_
  rintro e w' ⟨rfl, rfl⟩
  rw [sgn64]
  go_wp2_with fail
  go_ret2
  exact ⟨rfl, ((h2.trans hn).trans hn2).trans hn3⟩
set_option maxRecDepth 100000 in
set_option maxHeartbeats 1000000 in
theorem val_30 (rd rs1 rs2 im pc a b : Int) (aq rl : Bool) (qa : InU a) (qb : InU b) (qi : InU (IntKind.u64.wrap im))
    (HG : Hid (∀ w, Cod w → Calls Tryz.prog 46 #[.agg #[.int .i64 30, .int .i64 rd, .int .i64 rs1, .int .i64 rs2, .int .i64 im, .bool aq, .bool rl]] w fun e w' => e = .returned (.bool true) ∧ Nb w w')) (w : World) (hC : Cod w) :
    Calls Tryz.prog 57 #[.agg #[.int .i64 30, .int .i64 rd, .int .i64 rs1, .int .i64 rs2, .int .i64 im, .bool aq, .bool rl], .int .u64 pc, .int .u64 a, .int .u64 b] w fun e w' => e = .returned (.tuple #[.int .u64 (Sar a (IntKind.u64.wrap im) 64), .int .i64 0]) ∧ Nb w w' := by
  have HI := Lib.hid (imm_any 30)
  rw [show ImmB 30 = true from rfl] at HI
  have HK := Lib.hid (work_30 a (IntKind.u64.wrap im) qa qi)
  have q0 : InU a := qa
  have q1 : InU (IntKind.u64.wrap im) := qi
  have QV : InU (Sar a (IntKind.u64.wrap im) 64) := res_sar a (IntKind.u64.wrap im) 64 q0 q1
  have hef := eql_fn
  unfold pairV at HK
  go_enter Tryz.func57, Tryz.ntmps57
  repeat (first | (with_reducible refine then_exit ?_) | (with_reducible refine in_same ?_) | ((with_reducible refine in_other ?_ ?_); decide) | (with_reducible refine then_ret ?_) | (with_reducible refine in_ret ?_) | go_values | go_skip | go_guarded | go_step | go_upon | go_back)
  obtain ⟨W1, hW⟩ : ∃ W1, w.alloc (.cells #[.int .i64 30, .int .i64 rd, .int .i64 rs1, .int .i64 rs2, .int .i64 im, .bool aq, .bool rl] 56) = W1 := ⟨_, rfl⟩
  have hb := blk_made w _ hW rfl
  have h2 : Nb w W1 := by rw [← hW]; exact (Nb.refl _).alloc _
  rw [hW]
  clear hW
  refine (HG.out _ (hC.of_nb h2)).mono ?_
  rintro e w1 ⟨rfl, hn⟩
  have hb1 := Nb.block hn hb
  obtain ⟨n1, c0, c1, c2, c3, c4, c5, c6⟩ := cells7 hb1
  clear hb
  simp only []
  repeat (first | (with_reducible refine then_exit ?_) | (with_reducible refine in_same ?_) | ((with_reducible refine in_other ?_ ?_); decide) | (with_reducible refine then_ret ?_) | (with_reducible refine in_ret ?_) | go_values | go_skip | go_guarded | go_step | go_upon | go_back)
  refine (HI.out _).mono ?_
  rintro e w' ⟨rfl, rfl⟩
  go_wp2_with fail
  refine (HK.out _).mono ?_
  rintro e w2 ⟨B, rfl, hn2, hB⟩
  have HB := Lib.hid hB
  clear hB hb1 n1 c0 c1 c2 c3 c4 c5 c6
  go_wp2_with fail
  refine (sarI64 _ _ _ q0.1 q0.2 q1.1 q1.2 _ HB.out).mono ?_
  rintro e w3 ⟨rfl, hn3⟩
  go_wp2_with fail
  refine (sign_any _ _ QV.1 QV.2 _).mono ?_
  rintro e w' ⟨rfl, rfl⟩
  rw [sgn64]
  go_wp2_with fail
  go_ret2
  exact ⟨rfl, ((h2.trans hn).trans hn2).trans hn3⟩
set_option maxRecDepth 100000 in
set_option maxHeartbeats 1000000 in
theorem val_24 (rd rs1 rs2 im pc a b : Int) (aq rl : Bool) (qa : InU a) (qb : InU b) (qi : InU (IntKind.u64.wrap im))
    (HG : Hid (∀ w, Cod w → Calls Tryz.prog 46 #[.agg #[.int .i64 24, .int .i64 rd, .int .i64 rs1, .int .i64 rs2, .int .i64 im, .bool aq, .bool rl]] w fun e w' => e = .returned (.bool true) ∧ Nb w w')) (w : World) (hC : Cod w) :
    Calls Tryz.prog 57 #[.agg #[.int .i64 24, .int .i64 rd, .int .i64 rs1, .int .i64 rs2, .int .i64 im, .bool aq, .bool rl], .int .u64 pc, .int .u64 a, .int .u64 b] w fun e w' => e = .returned (.tuple #[.int .u64 (BitI (LtU a (IntKind.u64.wrap im))), .int .i64 0]) ∧ Nb w w' := by
  have HI := Lib.hid (imm_any 24)
  rw [show ImmB 24 = true from rfl] at HI
  have HK := Lib.hid (work_24 a (IntKind.u64.wrap im) qa qi)
  have q0 : InU a := qa
  have q1 : InU (IntKind.u64.wrap im) := qi
  have QV : InU (BitI (LtU a (IntKind.u64.wrap im))) := res_belowBit a (IntKind.u64.wrap im) q0 q1
  have hef := eql_fn
  unfold pairV at HK
  go_enter Tryz.func57, Tryz.ntmps57
  repeat (first | (with_reducible refine then_exit ?_) | (with_reducible refine in_same ?_) | ((with_reducible refine in_other ?_ ?_); decide) | (with_reducible refine then_ret ?_) | (with_reducible refine in_ret ?_) | go_values | go_skip | go_guarded | go_step | go_upon | go_back)
  obtain ⟨W1, hW⟩ : ∃ W1, w.alloc (.cells #[.int .i64 24, .int .i64 rd, .int .i64 rs1, .int .i64 rs2, .int .i64 im, .bool aq, .bool rl] 56) = W1 := ⟨_, rfl⟩
  have hb := blk_made w _ hW rfl
  have h2 : Nb w W1 := by rw [← hW]; exact (Nb.refl _).alloc _
  rw [hW]
  clear hW
  refine (HG.out _ (hC.of_nb h2)).mono ?_
  rintro e w1 ⟨rfl, hn⟩
  have hb1 := Nb.block hn hb
  obtain ⟨n1, c0, c1, c2, c3, c4, c5, c6⟩ := cells7 hb1
  clear hb
  simp only []
  repeat (first | (with_reducible refine then_exit ?_) | (with_reducible refine in_same ?_) | ((with_reducible refine in_other ?_ ?_); decide) | (with_reducible refine then_ret ?_) | (with_reducible refine in_ret ?_) | go_values | go_skip | go_guarded | go_step | go_upon | go_back)
  refine (HI.out _).mono ?_
  rintro e w' ⟨rfl, rfl⟩
  go_wp2_with fail
  refine (HK.out _).mono ?_
  rintro e w2 ⟨rfl, hn2⟩
  clear hb1 n1 c0 c1 c2 c3 c4 c5 c6
  go_wp2_with fail
  refine (belowBitI _ _ _ _).mono ?_
  rintro e w3 ⟨rfl, hn3⟩
  go_wp2_with fail
  refine (sign_any _ _ QV.1 QV.2 _).mono ?_
  rintro e w' ⟨rfl, rfl⟩
  rw [sgn64]
  go_wp2_with fail
  go_ret2
  exact ⟨rfl, ((h2.trans hn).trans hn2).trans hn3⟩
set_option maxRecDepth 100000 in
set_option maxHeartbeats 1000000 in
theorem val_26 (rd rs1 rs2 im pc a b : Int) (aq rl : Bool) (qa : InU a) (qb : InU b) (qi : InU (IntKind.u64.wrap im))
    (HG : Hid (∀ w, Cod w → Calls Tryz.prog 46 #[.agg #[.int .i64 26, .int .i64 rd, .int .i64 rs1, .int .i64 rs2, .int .i64 im, .bool aq, .bool rl]] w fun e w' => e = .returned (.bool true) ∧ Nb w w')) (w : World) (hC : Cod w) :
    Calls Tryz.prog 57 #[.agg #[.int .i64 26, .int .i64 rd, .int .i64 rs1, .int .i64 rs2, .int .i64 im, .bool aq, .bool rl], .int .u64 pc, .int .u64 a, .int .u64 b] w fun e w' => e = .returned (.tuple #[.int .u64 (bits .or .u64 a (IntKind.u64.wrap im)), .int .i64 0]) ∧ Nb w w' := by
  have HI := Lib.hid (imm_any 26)
  rw [show ImmB 26 = true from rfl] at HI
  have HK := Lib.hid (work_26 a (IntKind.u64.wrap im) qa qi)
  have q0 : InU a := qa
  have q1 : InU (IntKind.u64.wrap im) := qi
  have QV : InU (bits .or .u64 a (IntKind.u64.wrap im)) := res_or a (IntKind.u64.wrap im) q0 q1
  have hef := eql_fn
  unfold pairV at HK
  go_enter Tryz.func57, Tryz.ntmps57
  repeat (first | (with_reducible refine then_exit ?_) | (with_reducible refine in_same ?_) | ((with_reducible refine in_other ?_ ?_); decide) | (with_reducible refine then_ret ?_) | (with_reducible refine in_ret ?_) | go_values | go_skip | go_guarded | go_step | go_upon | go_back)
  obtain ⟨W1, hW⟩ : ∃ W1, w.alloc (.cells #[.int .i64 26, .int .i64 rd, .int .i64 rs1, .int .i64 rs2, .int .i64 im, .bool aq, .bool rl] 56) = W1 := ⟨_, rfl⟩
  have hb := blk_made w _ hW rfl
  have h2 : Nb w W1 := by rw [← hW]; exact (Nb.refl _).alloc _
  rw [hW]
  clear hW
  refine (HG.out _ (hC.of_nb h2)).mono ?_
  rintro e w1 ⟨rfl, hn⟩
  have hb1 := Nb.block hn hb
  obtain ⟨n1, c0, c1, c2, c3, c4, c5, c6⟩ := cells7 hb1
  clear hb
  simp only []
  repeat (first | (with_reducible refine then_exit ?_) | (with_reducible refine in_same ?_) | ((with_reducible refine in_other ?_ ?_); decide) | (with_reducible refine then_ret ?_) | (with_reducible refine in_ret ?_) | go_values | go_skip | go_guarded | go_step | go_upon | go_back)
  refine (HI.out _).mono ?_
  rintro e w' ⟨rfl, rfl⟩
  go_wp2_with fail
  refine (HK.out _).mono ?_
  rintro e w2 ⟨rfl, hn2⟩
  clear hb1 n1 c0 c1 c2 c3 c4 c5 c6
  go_wp2_with fail
  refine (or_any _ _ _ _).mono ?_
  rintro e w3 ⟨rfl, hn3⟩
  go_wp2_with fail
  refine (sign_any _ _ QV.1 QV.2 _).mono ?_
  rintro e w' ⟨rfl, rfl⟩
  rw [sgn64]
  go_wp2_with fail
  go_ret2
  exact ⟨rfl, ((h2.trans hn).trans hn2).trans hn3⟩
set_option maxRecDepth 100000 in
set_option maxHeartbeats 1000000 in
theorem val_53 (rd rs1 rs2 im pc a b : Int) (aq rl : Bool) (qa : InU a) (qb : InU b) (qi : InU (IntKind.u64.wrap im))
    (HG : Hid (∀ w, Cod w → Calls Tryz.prog 46 #[.agg #[.int .i64 53, .int .i64 rd, .int .i64 rs1, .int .i64 rs2, .int .i64 im, .bool aq, .bool rl]] w fun e w' => e = .returned (.bool true) ∧ Nb w w')) (w : World) (hC : Cod w) :
    Calls Tryz.prog 57 #[.agg #[.int .i64 53, .int .i64 rd, .int .i64 rs1, .int .i64 rs2, .int .i64 im, .bool aq, .bool rl], .int .u64 pc, .int .u64 a, .int .u64 b] w fun e w' => e = .returned (.tuple #[.int .u64 (IntKind.u64.wrap (a * b)), .int .i64 0]) ∧ Nb w w' := by
  have HI := Lib.hid (imm_any 53)
  rw [show ImmB 53 = false from rfl] at HI
  have HK := Lib.hid (work_53 a b qa qb)
  have q0 : InU a := qa
  have q1 : InU b := qb
  have QV : InU (IntKind.u64.wrap (a * b)) := res_product a b q0 q1
  have hef := eql_fn
  unfold pairV at HK
  go_enter Tryz.func57, Tryz.ntmps57
  repeat (first | (with_reducible refine then_exit ?_) | (with_reducible refine in_same ?_) | ((with_reducible refine in_other ?_ ?_); decide) | (with_reducible refine then_ret ?_) | (with_reducible refine in_ret ?_) | go_values | go_skip | go_guarded | go_step | go_upon | go_back)
  obtain ⟨W1, hW⟩ : ∃ W1, w.alloc (.cells #[.int .i64 53, .int .i64 rd, .int .i64 rs1, .int .i64 rs2, .int .i64 im, .bool aq, .bool rl] 56) = W1 := ⟨_, rfl⟩
  have hb := blk_made w _ hW rfl
  have h2 : Nb w W1 := by rw [← hW]; exact (Nb.refl _).alloc _
  rw [hW]
  clear hW
  refine (HG.out _ (hC.of_nb h2)).mono ?_
  rintro e w1 ⟨rfl, hn⟩
  have hb1 := Nb.block hn hb
  obtain ⟨n1, c0, c1, c2, c3, c4, c5, c6⟩ := cells7 hb1
  clear hb
  simp only []
  repeat (first | (with_reducible refine then_exit ?_) | (with_reducible refine in_same ?_) | ((with_reducible refine in_other ?_ ?_); decide) | (with_reducible refine then_ret ?_) | (with_reducible refine in_ret ?_) | go_values | go_skip | go_guarded | go_step | go_upon | go_back)
  refine (HI.out _).mono ?_
  rintro e w' ⟨rfl, rfl⟩
  go_wp2_with fail
  refine (HK.out _).mono ?_
  rintro e w2 ⟨rfl, hn2⟩
  clear hb1 n1 c0 c1 c2 c3 c4 c5 c6
  go_wp2_with fail
  refine (mul_any _ _ _ _).mono ?_
  rintro e w3 ⟨rfl, hn3⟩
  go_wp2_with fail
  refine (sign_any _ _ QV.1 QV.2 _).mono ?_
  rintro e w' ⟨rfl, rfl⟩
  rw [sgn64]
  go_wp2_with fail
  go_ret2
  exact ⟨rfl, ((h2.trans hn).trans hn2).trans hn3⟩
set_option maxRecDepth 100000 in
set_option maxHeartbeats 1000000 in
theorem val_62 (rd rs1 rs2 im pc a b : Int) (aq rl : Bool) (qa : InU a) (qb : InU b) (qi : InU (IntKind.u64.wrap im))
    (HG : Hid (∀ w, Cod w → Calls Tryz.prog 46 #[.agg #[.int .i64 62, .int .i64 rd, .int .i64 rs1, .int .i64 rs2, .int .i64 im, .bool aq, .bool rl]] w fun e w' => e = .returned (.bool true) ∧ Nb w w')) (w : World) (hC : Cod w) :
    Calls Tryz.prog 57 #[.agg #[.int .i64 62, .int .i64 rd, .int .i64 rs1, .int .i64 rs2, .int .i64 im, .bool aq, .bool rl], .int .u64 pc, .int .u64 a, .int .u64 b] w fun e w' => e = .returned (.tuple #[.int .u64 (Sgn (_root_.Go.Proofs.YtmggichckhoomaaGreatDoor.Quo (Sgn a 32) (Sgn b 32) true) 32), .int .i64 0]) ∧ Nb w w' := by
  have HI := Lib.hid (imm_any 62)
  rw [show ImmB 62 = false from rfl] at HI
  have HK := Lib.hid (work_62 a b qa qb)
  have q0 : InU (Sgn a 32) := in_sgn _ 32 qa
  have q1 : InU (Sgn b 32) := in_sgn _ 32 qb
  have QV : InU (_root_.Go.Proofs.YtmggichckhoomaaGreatDoor.Quo (Sgn a 32) (Sgn b 32) true) := res_quoSigned (Sgn a 32) (Sgn b 32) q0 q1
  have hef := eql_fn
  unfold pairV at HK
  go_enter Tryz.func57, Tryz.ntmps57
  repeat (first | (with_reducible refine then_exit ?_) | (with_reducible refine in_same ?_) | ((with_reducible refine in_other ?_ ?_); decide) | (with_reducible refine then_ret ?_) | (with_reducible refine in_ret ?_) | go_values | go_skip | go_guarded | go_step | go_upon | go_back)
  obtain ⟨W1, hW⟩ : ∃ W1, w.alloc (.cells #[.int .i64 62, .int .i64 rd, .int .i64 rs1, .int .i64 rs2, .int .i64 im, .bool aq, .bool rl] 56) = W1 := ⟨_, rfl⟩
  have hb := blk_made w _ hW rfl
  have h2 : Nb w W1 := by rw [← hW]; exact (Nb.refl _).alloc _
  rw [hW]
  clear hW
  refine (HG.out _ (hC.of_nb h2)).mono ?_
  rintro e w1 ⟨rfl, hn⟩
  have hb1 := Nb.block hn hb
  obtain ⟨n1, c0, c1, c2, c3, c4, c5, c6⟩ := cells7 hb1
  clear hb
  simp only []
  repeat (first | (with_reducible refine then_exit ?_) | (with_reducible refine in_same ?_) | ((with_reducible refine in_other ?_ ?_); decide) | (with_reducible refine then_ret ?_) | (with_reducible refine in_ret ?_) | go_values | go_skip | go_guarded | go_step | go_upon | go_back)
  refine (HI.out _).mono ?_
  rintro e w' ⟨rfl, rfl⟩
  go_wp2_with fail
  refine (HK.out _).mono ?_
  rintro e w2 ⟨rfl, hn2⟩
  clear hb1 n1 c0 c1 c2 c3 c4 c5 c6
  go_wp2_with fail
  refine (quoS_any _ _ _ q0.1 q0.2 q1.1 q1.2 _).mono ?_
  rintro e w3 ⟨rfl, hn3⟩
  go_wp2_with fail
  refine (sign_any _ _ QV.1 QV.2 _).mono ?_
  rintro e w' ⟨rfl, rfl⟩
  go_wp2_with fail
  go_ret2
  exact ⟨rfl, ((h2.trans hn).trans hn2).trans hn3⟩
set_option maxRecDepth 100000 in
set_option maxHeartbeats 1000000 in
theorem val_64 (rd rs1 rs2 im pc a b : Int) (aq rl : Bool) (qa : InU a) (qb : InU b) (qi : InU (IntKind.u64.wrap im))
    (HG : Hid (∀ w, Cod w → Calls Tryz.prog 46 #[.agg #[.int .i64 64, .int .i64 rd, .int .i64 rs1, .int .i64 rs2, .int .i64 im, .bool aq, .bool rl]] w fun e w' => e = .returned (.bool true) ∧ Nb w w')) (w : World) (hC : Cod w) :
    Calls Tryz.prog 57 #[.agg #[.int .i64 64, .int .i64 rd, .int .i64 rs1, .int .i64 rs2, .int .i64 im, .bool aq, .bool rl], .int .u64 pc, .int .u64 a, .int .u64 b] w fun e w' => e = .returned (.tuple #[.int .u64 (Sgn (_root_.Go.Proofs.YtmggichckhoomaaGreatDoor.Rem (Sgn a 32) (Sgn b 32) true) 32), .int .i64 0]) ∧ Nb w w' := by
  have HI := Lib.hid (imm_any 64)
  rw [show ImmB 64 = false from rfl] at HI
  have HK := Lib.hid (work_64 a b qa qb)
  have q0 : InU (Sgn a 32) := in_sgn _ 32 qa
  have q1 : InU (Sgn b 32) := in_sgn _ 32 qb
  have QV : InU (_root_.Go.Proofs.YtmggichckhoomaaGreatDoor.Rem (Sgn a 32) (Sgn b 32) true) := res_remSigned (Sgn a 32) (Sgn b 32) q0 q1
  have hef := eql_fn
  unfold pairV at HK
  go_enter Tryz.func57, Tryz.ntmps57
  repeat (first | (with_reducible refine then_exit ?_) | (with_reducible refine in_same ?_) | ((with_reducible refine in_other ?_ ?_); decide) | (with_reducible refine then_ret ?_) | (with_reducible refine in_ret ?_) | go_values | go_skip | go_guarded | go_step | go_upon | go_back)
  obtain ⟨W1, hW⟩ : ∃ W1, w.alloc (.cells #[.int .i64 64, .int .i64 rd, .int .i64 rs1, .int .i64 rs2, .int .i64 im, .bool aq, .bool rl] 56) = W1 := ⟨_, rfl⟩
  have hb := blk_made w _ hW rfl
  have h2 : Nb w W1 := by rw [← hW]; exact (Nb.refl _).alloc _
  rw [hW]
  clear hW
  refine (HG.out _ (hC.of_nb h2)).mono ?_
  rintro e w1 ⟨rfl, hn⟩
  have hb1 := Nb.block hn hb
  obtain ⟨n1, c0, c1, c2, c3, c4, c5, c6⟩ := cells7 hb1
  clear hb
  simp only []
  repeat (first | (with_reducible refine then_exit ?_) | (with_reducible refine in_same ?_) | ((with_reducible refine in_other ?_ ?_); decide) | (with_reducible refine then_ret ?_) | (with_reducible refine in_ret ?_) | go_values | go_skip | go_guarded | go_step | go_upon | go_back)
  refine (HI.out _).mono ?_
  rintro e w' ⟨rfl, rfl⟩
  go_wp2_with fail
  refine (HK.out _).mono ?_
  rintro e w2 ⟨rfl, hn2⟩
  clear hb1 n1 c0 c1 c2 c3 c4 c5 c6
  go_wp2_with fail
  refine (remS_any _ _ _ q0.1 q0.2 q1.1 q1.2 _).mono ?_
  rintro e w3 ⟨rfl, hn3⟩
  go_wp2_with fail
  refine (sign_any _ _ QV.1 QV.2 _).mono ?_
  rintro e w' ⟨rfl, rfl⟩
  go_wp2_with fail
  go_ret2
  exact ⟨rfl, ((h2.trans hn).trans hn2).trans hn3⟩
end Go.Proofs.YtmggichckhoomaaGreatDoor
