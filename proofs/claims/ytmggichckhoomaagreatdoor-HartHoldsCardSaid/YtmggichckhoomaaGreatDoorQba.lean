/-
  Proved here: what alu.Value of the code gives, operation by operation, a part. Conditions: the numbers are words; the table of codes holds what its text lays.
-/
import Derived.Test.YtmggichckhoomaaGreatDoorQax
namespace Go.Proofs.YtmggichckhoomaaGreatDoor
open Go.RowKit
set_option linter.unusedVariables false
set_option maxRecDepth 100000 in
set_option maxHeartbeats 1000000 in
theorem val_31 (rd rs1 rs2 im pc a b : Int) (aq rl : Bool) (qa : InU a) (qb : InU b) (qi : InU (IntKind.u64.wrap im))
    (HG : Hid (∀ w, Cod w → Calls Tryz.prog 46 #[.agg #[.int .i64 31, .int .i64 rd, .int .i64 rs1, .int .i64 rs2, .int .i64 im, .bool aq, .bool rl]] w fun e w' => e = .returned (.bool true) ∧ Nb w w')) (w : World) (hC : Cod w) :
    Calls Tryz.prog 57 #[.agg #[.int .i64 31, .int .i64 rd, .int .i64 rs1, .int .i64 rs2, .int .i64 im, .bool aq, .bool rl], .int .u64 pc, .int .u64 a, .int .u64 b] w fun e w' => e = .returned (.tuple #[.int .u64 (IntKind.u64.wrap (a + b)), .int .i64 0]) ∧ Nb w w' := by
  have HI := Lib.hid (imm_any 31)
  rw [show ImmB 31 = false from rfl] at HI
  have HK := Lib.hid (work_31 a b qa qb)
  have q0 : InU a := qa
  have q1 : InU b := qb
  have QV : InU (IntKind.u64.wrap (a + b)) := res_sum a b q0 q1
  have hef := eql_fn
  unfold pairV at HK
  go_enter Tryz.func57, Tryz.ntmps57
  repeat (first | (with_reducible refine then_exit ?_) | (with_reducible refine in_same ?_) | ((with_reducible refine in_other ?_ ?_); decide) | (with_reducible refine then_ret ?_) | (with_reducible refine in_ret ?_) | go_values | go_skip | go_guarded | go_step | go_upon | go_back)
  obtain ⟨W1, hW⟩ : ∃ W1, w.alloc (.cells #[.int .i64 31, .int .i64 rd, .int .i64 rs1, .int .i64 rs2, .int .i64 im, .bool aq, .bool rl] 56) = W1 := ⟨_, rfl⟩
  have hb := blk_made w _ hW rfl
  have h2 : Nb w W1 := by rw [← hW]; exact (Nb.refl _).alloc _
  rw [hW]
  clear hW
  refine (HG.out _ (hC.of_nb h2)).mono ?_
  rintro e w1 ⟨rfl, hn⟩
  have hb1 := Nb.block hn hb
  obtain ⟨n1, c0, c1, c2, c3, c4, c5, c6⟩ := cells7 hb1
  clear hb
  simp only []
  repeat (first | (with_reducible refine then_exit ?_) | (with_reducible refine in_same ?_) | ((with_reducible refine in_other ?_ ?_); decide) | (with_reducible refine then_ret ?_) | (with_reducible refine in_ret ?_) | go_values | go_skip | go_guarded | go_step | go_upon | go_back)
  refine (HI.out _).mono ?_
  rintro e w' ⟨rfl, rfl⟩
  go_wp2_with fail
  refine (HK.out _).mono ?_
  rintro e w2 ⟨rfl, hn2⟩
  clear hb1 n1 c0 c1 c2 c3 c4 c5 c6
  go_wp2_with fail
  refine (sum_any _ _ _ _).mono ?_
  rintro e w3 ⟨rfl, hn3⟩
  go_wp2_with fail
  refine (sign_any _ _ QV.1 QV.2 _).mono ?_
  rintro e w' ⟨rfl, rfl⟩
  rw [sgn64]
  go_wp2_with fail
  go_ret2
  exact ⟨rfl, ((h2.trans hn).trans hn2).trans hn3⟩
set_option maxRecDepth 100000 in
set_option maxHeartbeats 1000000 in
theorem val_47 (rd rs1 rs2 im pc a b : Int) (aq rl : Bool) (qa : InU a) (qb : InU b) (qi : InU (IntKind.u64.wrap im))
    (HG : Hid (∀ w, Cod w → Calls Tryz.prog 46 #[.agg #[.int .i64 47, .int .i64 rd, .int .i64 rs1, .int .i64 rs2, .int .i64 im, .bool aq, .bool rl]] w fun e w' => e = .returned (.bool true) ∧ Nb w w')) (w : World) (hC : Cod w) :
    Calls Tryz.prog 57 #[.agg #[.int .i64 47, .int .i64 rd, .int .i64 rs1, .int .i64 rs2, .int .i64 im, .bool aq, .bool rl], .int .u64 pc, .int .u64 a, .int .u64 b] w fun e w' => e = .returned (.tuple #[.int .u64 (Sgn (IntKind.u64.wrap ((Fld a 0 32) * 2 ^ ((Fld b 0 32) % 32).toNat)) 32), .int .i64 0]) ∧ Nb w w' := by
  have HI := Lib.hid (imm_any 47)
  rw [show ImmB 47 = false from rfl] at HI
  have HK := Lib.hid (work_47 a b qa qb)
  have q0 : InU (Fld a 0 32) := in_fld _ 0 32 qa
  have q1 : InU (Fld b 0 32) := in_fld _ 0 32 qb
  have QV : InU (IntKind.u64.wrap ((Fld a 0 32) * 2 ^ ((Fld b 0 32) % 32).toNat)) := res_shl (Fld a 0 32) (Fld b 0 32) 32 q0 q1
  have hef := eql_fn
  unfold pairV at HK
  go_enter Tryz.func57, Tryz.ntmps57
  repeat (first | (with_reducible refine then_exit ?_) | (with_reducible refine in_same ?_) | ((with_reducible refine in_other ?_ ?_); decide) | (with_reducible refine then_ret ?_) | (with_reducible refine in_ret ?_) | go_values | go_skip | go_guarded | go_step | go_upon | go_back)
  obtain ⟨W1, hW⟩ : ∃ W1, w.alloc (.cells #[.int .i64 47, .int .i64 rd, .int .i64 rs1, .int .i64 rs2, .int .i64 im, .bool aq, .bool rl] 56) = W1 := ⟨_, rfl⟩
  have hb := blk_made w _ hW rfl
  have h2 : Nb w W1 := by rw [← hW]; exact (Nb.refl _).alloc _
  rw [hW]
  clear hW
  refine (HG.out _ (hC.of_nb h2)).mono ?_
  rintro e w1 ⟨rfl, hn⟩
  have hb1 := Nb.block hn hb
  obtain ⟨n1, c0, c1, c2, c3, c4, c5, c6⟩ := cells7 hb1
  clear hb
  simp only []
  repeat (first | (with_reducible refine then_exit ?_) | (with_reducible refine in_same ?_) | ((with_reducible refine in_other ?_ ?_); decide) | (with_reducible refine then_ret ?_) | (with_reducible refine in_ret ?_) | go_values | go_skip | go_guarded | go_step | go_upon | go_back)
  refine (HI.out _).mono ?_
  rintro e w' ⟨rfl, rfl⟩
  go_wp2_with fail
  refine (HK.out _).mono ?_
  rintro e w2 ⟨B, rfl, hn2, hB⟩
  have HB := Lib.hid hB
  clear hB hb1 n1 c0 c1 c2 c3 c4 c5 c6
  go_wp2_with fail
  refine (shl32 _ _ _ q0.1 q0.2 q1.1 q1.2 _ HB.out).mono ?_
  rintro e w3 ⟨rfl, hn3⟩
  go_wp2_with fail
  refine (sign_any _ _ QV.1 QV.2 _).mono ?_
  rintro e w' ⟨rfl, rfl⟩
  go_wp2_with fail
  go_ret2
  exact ⟨rfl, ((h2.trans hn).trans hn2).trans hn3⟩
set_option maxRecDepth 100000 in
set_option maxHeartbeats 1000000 in
theorem val_48 (rd rs1 rs2 im pc a b : Int) (aq rl : Bool) (qa : InU a) (qb : InU b) (qi : InU (IntKind.u64.wrap im))
    (HG : Hid (∀ w, Cod w → Calls Tryz.prog 46 #[.agg #[.int .i64 48, .int .i64 rd, .int .i64 rs1, .int .i64 rs2, .int .i64 im, .bool aq, .bool rl]] w fun e w' => e = .returned (.bool true) ∧ Nb w w')) (w : World) (hC : Cod w) :
    Calls Tryz.prog 57 #[.agg #[.int .i64 48, .int .i64 rd, .int .i64 rs1, .int .i64 rs2, .int .i64 im, .bool aq, .bool rl], .int .u64 pc, .int .u64 a, .int .u64 b] w fun e w' => e = .returned (.tuple #[.int .u64 (Sgn ((Fld a 0 32) / 2 ^ ((Fld b 0 32) % 32).toNat) 32), .int .i64 0]) ∧ Nb w w' := by
  have HI := Lib.hid (imm_any 48)
  rw [show ImmB 48 = false from rfl] at HI
  have HK := Lib.hid (work_48 a b qa qb)
  have q0 : InU (Fld a 0 32) := in_fld _ 0 32 qa
  have q1 : InU (Fld b 0 32) := in_fld _ 0 32 qb
  have QV : InU ((Fld a 0 32) / 2 ^ ((Fld b 0 32) % 32).toNat) := res_shr (Fld a 0 32) (Fld b 0 32) 32 q0 q1
  have hef := eql_fn
  unfold pairV at HK
  go_enter Tryz.func57, Tryz.ntmps57
  repeat (first | (with_reducible refine then_exit ?_) | (with_reducible refine in_same ?_) | ((with_reducible refine in_other ?_ ?_); decide) | (with_reducible refine then_ret ?_) | (with_reducible refine in_ret ?_) | go_values | go_skip | go_guarded | go_step | go_upon | go_back)
  obtain ⟨W1, hW⟩ : ∃ W1, w.alloc (.cells #[.int .i64 48, .int .i64 rd, .int .i64 rs1, .int .i64 rs2, .int .i64 im, .bool aq, .bool rl] 56) = W1 := ⟨_, rfl⟩
  have hb := blk_made w _ hW rfl
  have h2 : Nb w W1 := by rw [← hW]; exact (Nb.refl _).alloc _
  rw [hW]
  clear hW
  refine (HG.out _ (hC.of_nb h2)).mono ?_
  rintro e w1 ⟨rfl, hn⟩
  have hb1 := Nb.block hn hb
  obtain ⟨n1, c0, c1, c2, c3, c4, c5, c6⟩ := cells7 hb1
  clear hb
  simp only []
  repeat (first | (with_reducible refine then_exit ?_) | (with_reducible refine in_same ?_) | ((with_reducible refine in_other ?_ ?_); decide) | (with_reducible refine then_ret ?_) | (with_reducible refine in_ret ?_) | go_values | go_skip | go_guarded | go_step | go_upon | go_back)
  refine (HI.out _).mono ?_
  rintro e w' ⟨rfl, rfl⟩
  go_wp2_with fail
  refine (HK.out _).mono ?_
  rintro e w2 ⟨B, rfl, hn2, hB⟩
  have HB := Lib.hid hB
  clear hB hb1 n1 c0 c1 c2 c3 c4 c5 c6
  go_wp2_with fail
  refine (shr32 _ _ _ q0.1 q0.2 q1.1 q1.2 _ HB.out).mono ?_
  rintro e w3 ⟨rfl, hn3⟩
  go_wp2_with fail
  refine (sign_any _ _ QV.1 QV.2 _).mono ?_
  rintro e w' ⟨rfl, rfl⟩
  go_wp2_with fail
  go_ret2
  exact ⟨rfl, ((h2.trans hn).trans hn2).trans hn3⟩
set_option maxRecDepth 100000 in
set_option maxHeartbeats 1000000 in
theorem val_49 (rd rs1 rs2 im pc a b : Int) (aq rl : Bool) (qa : InU a) (qb : InU b) (qi : InU (IntKind.u64.wrap im))
    (HG : Hid (∀ w, Cod w → Calls Tryz.prog 46 #[.agg #[.int .i64 49, .int .i64 rd, .int .i64 rs1, .int .i64 rs2, .int .i64 im, .bool aq, .bool rl]] w fun e w' => e = .returned (.bool true) ∧ Nb w w')) (w : World) (hC : Cod w) :
    Calls Tryz.prog 57 #[.agg #[.int .i64 49, .int .i64 rd, .int .i64 rs1, .int .i64 rs2, .int .i64 im, .bool aq, .bool rl], .int .u64 pc, .int .u64 a, .int .u64 b] w fun e w' => e = .returned (.tuple #[.int .u64 (Sgn (Sar (Sgn a 32) (Sgn b 32) 32) 32), .int .i64 0]) ∧ Nb w w' := by
  have HI := Lib.hid (imm_any 49)
  rw [show ImmB 49 = false from rfl] at HI
  have HK := Lib.hid (work_49 a b qa qb)
  have q0 : InU (Sgn a 32) := in_sgn _ 32 qa
  have q1 : InU (Sgn b 32) := in_sgn _ 32 qb
  have QV : InU (Sar (Sgn a 32) (Sgn b 32) 32) := res_sar (Sgn a 32) (Sgn b 32) 32 q0 q1
  have hef := eql_fn
  unfold pairV at HK
  go_enter Tryz.func57, Tryz.ntmps57
  repeat (first | (with_reducible refine then_exit ?_) | (with_reducible refine in_same ?_) | ((with_reducible refine in_other ?_ ?_); decide) | (with_reducible refine then_ret ?_) | (with_reducible refine in_ret ?_) | go_values | go_skip | go_guarded | go_step | go_upon | go_back)
  obtain ⟨W1, hW⟩ : ∃ W1, w.alloc (.cells #[.int .i64 49, .int .i64 rd, .int .i64 rs1, .int .i64 rs2, .int .i64 im, .bool aq, .bool rl] 56) = W1 := ⟨_, rfl⟩
  have hb := blk_made w _ hW rfl
  have h2 : Nb w W1 := by rw [← hW]; exact (Nb.refl _).alloc _
  rw [hW]
  clear hW
  refine (HG.out _ (hC.of_nb h2)).mono ?_
  rintro e w1 ⟨rfl, hn⟩
  have hb1 := Nb.block hn hb
  obtain ⟨n1, c0, c1, c2, c3, c4, c5, c6⟩ := cells7 hb1
  clear hb
  simp only []
  repeat (first | (with_reducible refine then_exit ?_) | (with_reducible refine in_same ?_) | ((with_reducible refine in_other ?_ ?_); decide) | (with_reducible refine then_ret ?_) | (with_reducible refine in_ret ?_) | go_values | go_skip | go_guarded | go_step | go_upon | go_back)
  refine (HI.out _).mono ?_
  rintro e w' ⟨rfl, rfl⟩
  go_wp2_with fail
  refine (HK.out _).mono ?_
  rintro e w2 ⟨B, rfl, hn2, hB⟩
  have HB := Lib.hid hB
  clear hB hb1 n1 c0 c1 c2 c3 c4 c5 c6
  go_wp2_with fail
  refine (sarI32 _ _ _ q0.1 q0.2 q1.1 q1.2 _ HB.out).mono ?_
  rintro e w3 ⟨rfl, hn3⟩
  go_wp2_with fail
  refine (sign_any _ _ QV.1 QV.2 _).mono ?_
  rintro e w' ⟨rfl, rfl⟩
  go_wp2_with fail
  go_ret2
  exact ⟨rfl, ((h2.trans hn).trans hn2).trans hn3⟩
set_option maxRecDepth 100000 in
set_option maxHeartbeats 1000000 in
theorem val_34 (rd rs1 rs2 im pc a b : Int) (aq rl : Bool) (qa : InU a) (qb : InU b) (qi : InU (IntKind.u64.wrap im))
    (HG : Hid (∀ w, Cod w → Calls Tryz.prog 46 #[.agg #[.int .i64 34, .int .i64 rd, .int .i64 rs1, .int .i64 rs2, .int .i64 im, .bool aq, .bool rl]] w fun e w' => e = .returned (.bool true) ∧ Nb w w')) (w : World) (hC : Cod w) :
    Calls Tryz.prog 57 #[.agg #[.int .i64 34, .int .i64 rd, .int .i64 rs1, .int .i64 rs2, .int .i64 im, .bool aq, .bool rl], .int .u64 pc, .int .u64 a, .int .u64 b] w fun e w' => e = .returned (.tuple #[.int .u64 (BitI (LtS a b)), .int .i64 0]) ∧ Nb w w' := by
  have HI := Lib.hid (imm_any 34)
  rw [show ImmB 34 = false from rfl] at HI
  have HK := Lib.hid (work_34 a b qa qb)
  have q0 : InU a := qa
  have q1 : InU b := qb
  have QV : InU (BitI (LtS a b)) := res_lessBit a b q0 q1
  have hef := eql_fn
  unfold pairV at HK
  go_enter Tryz.func57, Tryz.ntmps57
  repeat (first | (with_reducible refine then_exit ?_) | (with_reducible refine in_same ?_) | ((with_reducible refine in_other ?_ ?_); decide) | (with_reducible refine then_ret ?_) | (with_reducible refine in_ret ?_) | go_values | go_skip | go_guarded | go_step | go_upon | go_back)
  obtain ⟨W1, hW⟩ : ∃ W1, w.alloc (.cells #[.int .i64 34, .int .i64 rd, .int .i64 rs1, .int .i64 rs2, .int .i64 im, .bool aq, .bool rl] 56) = W1 := ⟨_, rfl⟩
  have hb := blk_made w _ hW rfl
  have h2 : Nb w W1 := by rw [← hW]; exact (Nb.refl _).alloc _
  rw [hW]
  clear hW
  refine (HG.out _ (hC.of_nb h2)).mono ?_
  rintro e w1 ⟨rfl, hn⟩
  have hb1 := Nb.block hn hb
  obtain ⟨n1, c0, c1, c2, c3, c4, c5, c6⟩ := cells7 hb1
  clear hb
  simp only []
  repeat (first | (with_reducible refine then_exit ?_) | (with_reducible refine in_same ?_) | ((with_reducible refine in_other ?_ ?_); decide) | (with_reducible refine then_ret ?_) | (with_reducible refine in_ret ?_) | go_values | go_skip | go_guarded | go_step | go_upon | go_back)
  refine (HI.out _).mono ?_
  rintro e w' ⟨rfl, rfl⟩
  go_wp2_with fail
  refine (HK.out _).mono ?_
  rintro e w2 ⟨rfl, hn2⟩
  clear hb1 n1 c0 c1 c2 c3 c4 c5 c6
  go_wp2_with fail
  refine (lessBitI _ _ _ _).mono ?_
  rintro e w3 ⟨rfl, hn3⟩
  go_wp2_with fail
  refine (sign_any _ _ QV.1 QV.2 _).mono ?_
  rintro e w' ⟨rfl, rfl⟩
  rw [sgn64]
  go_wp2_with fail
  go_ret2
  exact ⟨rfl, ((h2.trans hn).trans hn2).trans hn3⟩
set_option maxRecDepth 100000 in
set_option maxHeartbeats 1000000 in
theorem val_36 (rd rs1 rs2 im pc a b : Int) (aq rl : Bool) (qa : InU a) (qb : InU b) (qi : InU (IntKind.u64.wrap im))
    (HG : Hid (∀ w, Cod w → Calls Tryz.prog 46 #[.agg #[.int .i64 36, .int .i64 rd, .int .i64 rs1, .int .i64 rs2, .int .i64 im, .bool aq, .bool rl]] w fun e w' => e = .returned (.bool true) ∧ Nb w w')) (w : World) (hC : Cod w) :
    Calls Tryz.prog 57 #[.agg #[.int .i64 36, .int .i64 rd, .int .i64 rs1, .int .i64 rs2, .int .i64 im, .bool aq, .bool rl], .int .u64 pc, .int .u64 a, .int .u64 b] w fun e w' => e = .returned (.tuple #[.int .u64 (bits .xor .u64 a b), .int .i64 0]) ∧ Nb w w' := by
  have HI := Lib.hid (imm_any 36)
  rw [show ImmB 36 = false from rfl] at HI
  have HK := Lib.hid (work_36 a b qa qb)
  have q0 : InU a := qa
  have q1 : InU b := qb
  have QV : InU (bits .xor .u64 a b) := res_xor a b q0 q1
  have hef := eql_fn
  unfold pairV at HK
  go_enter Tryz.func57, Tryz.ntmps57
  repeat (first | (with_reducible refine then_exit ?_) | (with_reducible refine in_same ?_) | ((with_reducible refine in_other ?_ ?_); decide) | (with_reducible refine then_ret ?_) | (with_reducible refine in_ret ?_) | go_values | go_skip | go_guarded | go_step | go_upon | go_back)
  obtain ⟨W1, hW⟩ : ∃ W1, w.alloc (.cells #[.int .i64 36, .int .i64 rd, .int .i64 rs1, .int .i64 rs2, .int .i64 im, .bool aq, .bool rl] 56) = W1 := ⟨_, rfl⟩
  have hb := blk_made w _ hW rfl
  have h2 : Nb w W1 := by rw [← hW]; exact (Nb.refl _).alloc _
  rw [hW]
  clear hW
  refine (HG.out _ (hC.of_nb h2)).mono ?_
  rintro e w1 ⟨rfl, hn⟩
  have hb1 := Nb.block hn hb
  obtain ⟨n1, c0, c1, c2, c3, c4, c5, c6⟩ := cells7 hb1
  clear hb
  simp only []
  repeat (first | (with_reducible refine then_exit ?_) | (with_reducible refine in_same ?_) | ((with_reducible refine in_other ?_ ?_); decide) | (with_reducible refine then_ret ?_) | (with_reducible refine in_ret ?_) | go_values | go_skip | go_guarded | go_step | go_upon | go_back)
  refine (HI.out _).mono ?_
  rintro e w' ⟨rfl, rfl⟩
  go_wp2_with fail
  refine (HK.out _).mono ?_
  rintro e w2 ⟨rfl, hn2⟩
  clear hb1 n1 c0 c1 c2 c3 c4 c5 c6
  go_wp2_with fail
  refine (xor_any _ _ _ _).mono ?_
  rintro e w3 ⟨rfl, hn3⟩
  go_wp2_with fail
  refine (sign_any _ _ QV.1 QV.2 _).mono ?_
  rintro e w' ⟨rfl, rfl⟩
  rw [sgn64]
  go_wp2_with fail
  go_ret2
  exact ⟨rfl, ((h2.trans hn).trans hn2).trans hn3⟩
set_option maxRecDepth 100000 in
set_option maxHeartbeats 1000000 in
theorem val_40 (rd rs1 rs2 im pc a b : Int) (aq rl : Bool) (qa : InU a) (qb : InU b) (qi : InU (IntKind.u64.wrap im))
    (HG : Hid (∀ w, Cod w → Calls Tryz.prog 46 #[.agg #[.int .i64 40, .int .i64 rd, .int .i64 rs1, .int .i64 rs2, .int .i64 im, .bool aq, .bool rl]] w fun e w' => e = .returned (.bool true) ∧ Nb w w')) (w : World) (hC : Cod w) :
    Calls Tryz.prog 57 #[.agg #[.int .i64 40, .int .i64 rd, .int .i64 rs1, .int .i64 rs2, .int .i64 im, .bool aq, .bool rl], .int .u64 pc, .int .u64 a, .int .u64 b] w fun e w' => e = .returned (.tuple #[.int .u64 (bits .and .u64 a b), .int .i64 0]) ∧ Nb w w' := by
  have HI := Lib.hid (imm_any 40)
  rw [show ImmB 40 = false from rfl] at HI
  have HK := Lib.hid (work_40 a b qa qb)
  have q0 : InU a := qa
  have q1 : InU b := qb
  have QV : InU (bits .and .u64 a b) := res_and a b q0 q1
  have hef := eql_fn
  unfold pairV at HK
  go_enter Tryz.func57, Tryz.ntmps57
  repeat (first | (with_reducible refine then_exit ?_) | (with_reducible refine in_same ?_) | ((with_reducible refine in_other ?_ ?_); decide) | (with_reducible refine then_ret ?_) | (with_reducible refine in_ret ?_) | go_values | go_skip | go_guarded | go_step | go_upon | go_back)
  obtain ⟨W1, hW⟩ : ∃ W1, w.alloc (.cells #[.int .i64 40, .int .i64 rd, .int .i64 rs1, .int .i64 rs2, .int .i64 im, .bool aq, .bool rl] 56) = W1 := ⟨_, rfl⟩
  have hb := blk_made w _ hW rfl
  have h2 : Nb w W1 := by rw [← hW]; exact (Nb.refl _).alloc _
  rw [hW]
  clear hW
  refine (HG.out _ (hC.of_nb h2)).mono ?_
  rintro e w1 ⟨rfl, hn⟩
  have hb1 := Nb.block hn hb
  obtain ⟨n1, c0, c1, c2, c3, c4, c5, c6⟩ := cells7 hb1
  clear hb
  simp only []
  repeat (first | (with_reducible refine then_exit ?_) | (with_reducible refine in_same ?_) | ((with_reducible refine in_other ?_ ?_); decide) | (with_reducible refine then_ret ?_) | (with_reducible refine in_ret ?_) | go_values | go_skip | go_guarded | go_step | go_upon | go_back)
  refine (HI.out _).mono ?_
  rintro e w' ⟨rfl, rfl⟩
  go_wp2_with fail
  refine (HK.out _).mono ?_
  rintro e w2 ⟨rfl, hn2⟩
  clear hb1 n1 c0 c1 c2 c3 c4 c5 c6
  go_wp2_with fail
  refine (and_any _ _ _ _).mono ?_
  rintro e w3 ⟨rfl, hn3⟩
  go_wp2_with fail
  refine (sign_any _ _ QV.1 QV.2 _).mono ?_
  rintro e w' ⟨rfl, rfl⟩
  rw [sgn64]
  go_wp2_with fail
  go_ret2
  exact ⟨rfl, ((h2.trans hn).trans hn2).trans hn3⟩
set_option maxRecDepth 100000 in
set_option maxHeartbeats 1000000 in
theorem val_54 (rd rs1 rs2 im pc a b : Int) (aq rl : Bool) (qa : InU a) (qb : InU b) (qi : InU (IntKind.u64.wrap im))
    (HG : Hid (∀ w, Cod w → Calls Tryz.prog 46 #[.agg #[.int .i64 54, .int .i64 rd, .int .i64 rs1, .int .i64 rs2, .int .i64 im, .bool aq, .bool rl]] w fun e w' => e = .returned (.bool true) ∧ Nb w w')) (w : World) (hC : Cod w) :
    Calls Tryz.prog 57 #[.agg #[.int .i64 54, .int .i64 rd, .int .i64 rs1, .int .i64 rs2, .int .i64 im, .bool aq, .bool rl], .int .u64 pc, .int .u64 a, .int .u64 b] w fun e w' => e = .returned (.tuple #[.int .u64 (Hgh a b true true), .int .i64 0]) ∧ Nb w w' := by
  have HI := Lib.hid (imm_any 54)
  rw [show ImmB 54 = false from rfl] at HI
  have HK := Lib.hid (work_54 a b qa qb)
  have q0 : InU a := qa
  have q1 : InU b := qb
  have QV : InU (Hgh a b true true) := res_highSigned a b q0 q1
  have hef := eql_fn
  unfold pairV at HK
  go_enter Tryz.func57, Tryz.ntmps57
  repeat (first | (with_reducible refine then_exit ?_) | (with_reducible refine in_same ?_) | ((with_reducible refine in_other ?_ ?_); decide) | (with_reducible refine then_ret ?_) | (with_reducible refine in_ret ?_) | go_values | go_skip | go_guarded | go_step | go_upon | go_back)
  obtain ⟨W1, hW⟩ : ∃ W1, w.alloc (.cells #[.int .i64 54, .int .i64 rd, .int .i64 rs1, .int .i64 rs2, .int .i64 im, .bool aq, .bool rl] 56) = W1 := ⟨_, rfl⟩
  have hb := blk_made w _ hW rfl
  have h2 : Nb w W1 := by rw [← hW]; exact (Nb.refl _).alloc _
  rw [hW]
  clear hW
  refine (HG.out _ (hC.of_nb h2)).mono ?_
  rintro e w1 ⟨rfl, hn⟩
  have hb1 := Nb.block hn hb
  obtain ⟨n1, c0, c1, c2, c3, c4, c5, c6⟩ := cells7 hb1
  clear hb
  simp only []
  repeat (first | (with_reducible refine then_exit ?_) | (with_reducible refine in_same ?_) | ((with_reducible refine in_other ?_ ?_); decide) | (with_reducible refine then_ret ?_) | (with_reducible refine in_ret ?_) | go_values | go_skip | go_guarded | go_step | go_upon | go_back)
  refine (HI.out _).mono ?_
  rintro e w' ⟨rfl, rfl⟩
  go_wp2_with fail
  refine (HK.out _).mono ?_
  rintro e w2 ⟨rfl, hn2⟩
  clear hb1 n1 c0 c1 c2 c3 c4 c5 c6
  go_wp2_with fail
  refine (highS_any _ _ _ q0.1 q0.2 q1.1 q1.2 _).mono ?_
  rintro e w3 ⟨rfl, hn3⟩
  go_wp2_with fail
  refine (sign_any _ _ QV.1 QV.2 _).mono ?_
  rintro e w' ⟨rfl, rfl⟩
  rw [sgn64]
  go_wp2_with fail
  go_ret2
  exact ⟨rfl, ((h2.trans hn).trans hn2).trans hn3⟩
set_option maxRecDepth 100000 in
set_option maxHeartbeats 1000000 in
theorem val_57 (rd rs1 rs2 im pc a b : Int) (aq rl : Bool) (qa : InU a) (qb : InU b) (qi : InU (IntKind.u64.wrap im))
    (HG : Hid (∀ w, Cod w → Calls Tryz.prog 46 #[.agg #[.int .i64 57, .int .i64 rd, .int .i64 rs1, .int .i64 rs2, .int .i64 im, .bool aq, .bool rl]] w fun e w' => e = .returned (.bool true) ∧ Nb w w')) (w : World) (hC : Cod w) :
    Calls Tryz.prog 57 #[.agg #[.int .i64 57, .int .i64 rd, .int .i64 rs1, .int .i64 rs2, .int .i64 im, .bool aq, .bool rl], .int .u64 pc, .int .u64 a, .int .u64 b] w fun e w' => e = .returned (.tuple #[.int .u64 (_root_.Go.Proofs.YtmggichckhoomaaGreatDoor.Quo a b true), .int .i64 0]) ∧ Nb w w' := by
  have HI := Lib.hid (imm_any 57)
  rw [show ImmB 57 = false from rfl] at HI
  have HK := Lib.hid (work_57 a b qa qb)
  have q0 : InU a := qa
  have q1 : InU b := qb
  have QV : InU (_root_.Go.Proofs.YtmggichckhoomaaGreatDoor.Quo a b true) := res_quoSigned a b q0 q1
  have hef := eql_fn
  unfold pairV at HK
  go_enter Tryz.func57, Tryz.ntmps57
  repeat (first | (with_reducible refine then_exit ?_) | (with_reducible refine in_same ?_) | ((with_reducible refine in_other ?_ ?_); decide) | (with_reducible refine then_ret ?_) | (with_reducible refine in_ret ?_) | go_values | go_skip | go_guarded | go_step | go_upon | go_back)
  obtain ⟨W1, hW⟩ : ∃ W1, w.alloc (.cells #[.int .i64 57, .int .i64 rd, .int .i64 rs1, .int .i64 rs2, .int .i64 im, .bool aq, .bool rl] 56) = W1 := ⟨_, rfl⟩
  have hb := blk_made w _ hW rfl
  have h2 : Nb w W1 := by rw [← hW]; exact (Nb.refl _).alloc _
  rw [hW]
  clear hW
  refine (HG.out _ (hC.of_nb h2)).mono ?_
  rintro e w1 ⟨rfl, hn⟩
  have hb1 := Nb.block hn hb
  obtain ⟨n1, c0, c1, c2, c3, c4, c5, c6⟩ := cells7 hb1
  clear hb
  simp only []
  repeat (first | (with_reducible refine then_exit ?_) | (with_reducible refine in_same ?_) | ((with_reducible refine in_other ?_ ?_); decide) | (with_reducible refine then_ret ?_) | (with_reducible refine in_ret ?_) | go_values | go_skip | go_guarded | go_step | go_upon | go_back)
  refine (HI.out _).mono ?_
  rintro e w' ⟨rfl, rfl⟩
  go_wp2_with fail
  refine (HK.out _).mono ?_
  rintro e w2 ⟨rfl, hn2⟩
  clear hb1 n1 c0 c1 c2 c3 c4 c5 c6
  go_wp2_with fail
  refine (quoS_any _ _ _ q0.1 q0.2 q1.1 q1.2 _).mono ?_
  rintro e w3 ⟨rfl, hn3⟩
  go_wp2_with fail
  refine (sign_any _ _ QV.1 QV.2 _).mono ?_
  rintro e w' ⟨rfl, rfl⟩
  rw [sgn64]
  go_wp2_with fail
  go_ret2
  exact ⟨rfl, ((h2.trans hn).trans hn2).trans hn3⟩
set_option maxRecDepth 100000 in
set_option maxHeartbeats 1000000 in
theorem val_59 (rd rs1 rs2 im pc a b : Int) (aq rl : Bool) (qa : InU a) (qb : InU b) (qi : InU (IntKind.u64.wrap im))
    (HG : Hid (∀ w, Cod w → Calls Tryz.prog 46 #[.agg #[.int .i64 59, .int .i64 rd, .int .i64 rs1, .int .i64 rs2, .int .i64 im, .bool aq, .bool rl]] w fun e w' => e = .returned (.bool true) ∧ Nb w w')) (w : World) (hC : Cod w) :
    Calls Tryz.prog 57 #[.agg #[.int .i64 59, .int .i64 rd, .int .i64 rs1, .int .i64 rs2, .int .i64 im, .bool aq, .bool rl], .int .u64 pc, .int .u64 a, .int .u64 b] w fun e w' => e = .returned (.tuple #[.int .u64 (_root_.Go.Proofs.YtmggichckhoomaaGreatDoor.Rem a b true), .int .i64 0]) ∧ Nb w w' := by
  have HI := Lib.hid (imm_any 59)
  rw [show ImmB 59 = false from rfl] at HI
  have HK := Lib.hid (work_59 a b qa qb)
  have q0 : InU a := qa
  have q1 : InU b := qb
  have QV : InU (_root_.Go.Proofs.YtmggichckhoomaaGreatDoor.Rem a b true) := res_remSigned a b q0 q1
  have hef := eql_fn
  unfold pairV at HK
  go_enter Tryz.func57, Tryz.ntmps57
  repeat (first | (with_reducible refine then_exit ?_) | (with_reducible refine in_same ?_) | ((with_reducible refine in_other ?_ ?_); decide) | (with_reducible refine then_ret ?_) | (with_reducible refine in_ret ?_) | go_values | go_skip | go_guarded | go_step | go_upon | go_back)
  obtain ⟨W1, hW⟩ : ∃ W1, w.alloc (.cells #[.int .i64 59, .int .i64 rd, .int .i64 rs1, .int .i64 rs2, .int .i64 im, .bool aq, .bool rl] 56) = W1 := ⟨_, rfl⟩
  have hb := blk_made w _ hW rfl
  have h2 : Nb w W1 := by rw [← hW]; exact (Nb.refl _).alloc _
  rw [hW]
  clear hW
  refine (HG.out _ (hC.of_nb h2)).mono ?_
  rintro e w1 ⟨rfl, hn⟩
  have hb1 := Nb.block hn hb
  obtain ⟨n1, c0, c1, c2, c3, c4, c5, c6⟩ := cells7 hb1
  clear hb
  simp only []
  repeat (first | (with_reducible refine then_exit ?_) | (with_reducible refine in_same ?_) | ((with_reducible refine in_other ?_ ?_); decide) | (with_reducible refine then_ret ?_) | (with_reducible refine in_ret ?_) | go_values | go_skip | go_guarded | go_step | go_upon | go_back)
  refine (HI.out _).mono ?_
  rintro e w' ⟨rfl, rfl⟩
  go_wp2_with fail
  refine (HK.out _).mono ?_
  rintro e w2 ⟨rfl, hn2⟩
  clear hb1 n1 c0 c1 c2 c3 c4 c5 c6
  go_wp2_with fail
  refine (remS_any _ _ _ q0.1 q0.2 q1.1 q1.2 _).mono ?_
  rintro e w3 ⟨rfl, hn3⟩
  go_wp2_with fail
  refine (sign_any _ _ QV.1 QV.2 _).mono ?_
  rintro e w' ⟨rfl, rfl⟩
  rw [sgn64]
  go_wp2_with fail
  go_ret2
  exact ⟨rfl, ((h2.trans hn).trans hn2).trans hn3⟩
end Go.Proofs.YtmggichckhoomaaGreatDoor
