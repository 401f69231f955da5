/-
  Proved here: what alu.Value of the code gives, operation by operation, a part. Conditions: the numbers are words; the table of codes holds what its text lays.
-/
import Derived.Test.YtmggichckhoomaaGreatDoorQax
namespace Go.Proofs.YtmggichckhoomaaGreatDoor
open Go.RowKit
set_option linter.unusedVariables false
set_option maxRecDepth 100000 in
set_option maxHeartbeats 1000000 in
theorem val_22 (rd rs1 rs2 im pc a b : Int) (aq rl : Bool) (qa : InU a) (qb : InU b) (qi : InU (IntKind.u64.wrap im))
    (HG : Hid (∀ w, Cod w → Calls Tryz.prog 46 #[.agg #[.int .i64 22, .int .i64 rd, .int .i64 rs1, .int .i64 rs2, .int .i64 im, .bool aq, .bool rl]] w fun e w' => e = .returned (.bool true) ∧ Nb w w')) (w : World) (hC : Cod w) :
    Calls Tryz.prog 57 #[.agg #[.int .i64 22, .int .i64 rd, .int .i64 rs1, .int .i64 rs2, .int .i64 im, .bool aq, .bool rl], .int .u64 pc, .int .u64 a, .int .u64 b] w fun e w' => e = .returned (.tuple #[.int .u64 (IntKind.u64.wrap (a + (IntKind.u64.wrap im))), .int .i64 0]) ∧ Nb w w' := by
  have HI := Lib.hid (imm_any 22)
  rw [show ImmB 22 = true from rfl] at HI
  have HK := Lib.hid (work_22 a (IntKind.u64.wrap im) qa qi)
  have q0 : InU a := qa
  have q1 : InU (IntKind.u64.wrap im) := qi
  have QV : InU (IntKind.u64.wrap (a + (IntKind.u64.wrap im))) := res_sum a (IntKind.u64.wrap im) q0 q1
  have hef := eql_fn
  unfold pairV at HK
  go_enter Tryz.func57, Tryz.ntmps57
  repeat (first | (with_reducible refine then_exit ?_) | (with_reducible refine in_same ?_) | ((with_reducible refine in_other ?_ ?_); decide) | (with_reducible refine then_ret ?_) | (with_reducible refine in_ret ?_) | go_values | go_skip | go_guarded | go_step | go_upon | go_back)
  obtain ⟨W1, hW⟩ : ∃ W1, w.alloc (.cells #[.int .i64 22, .int .i64 rd, .int .i64 rs1, .int .i64 rs2, .int .i64 im, .bool aq, .bool rl] 56) = W1 := ⟨_, rfl⟩
  have hb := blk_made w _ hW rfl
  have h2 : Nb w W1 := by rw [← hW]; exact (Nb.refl _).alloc _
  rw [hW]
  clear hW
  refine (HG.out _ (hC.of_nb h2)).mono ?_
  rintro e w1 ⟨rfl, hn⟩
  have hb1 := Nb.block hn hb
  obtain ⟨n1, c0, c1, c2, c3, c4, c5, c6⟩ := cells7 hb1
  clear hb
  simp only []
  repeat (first | (with_reducible refine then_exit ?_) | (with_reducible refine in_same ?_) | ((with_reducible refine in_other ?_ ?_); decide) | (with_reducible refine then_ret ?_) | (with_reducible refine in_ret ?_) | go_values | go_skip | go_guarded | go_step | go_upon | go_back)
  refine (HI.out _).mono ?_
  rintro e w' ⟨rfl, rfl⟩
  go_wp2_with fail
  refine (HK.out _).mono ?_
  rintro e w2 ⟨rfl, hn2⟩
  clear hb1 n1 c0 c1 c2 c3 c4 c5 c6
  go_wp2_with fail
  refine (sum_any _ _ _ _).mono ?_
  rintro e w3 ⟨rfl, hn3⟩
  go_wp2_with fail
  refine (sign_any _ _ QV.1 QV.2 _).mono ?_
  rintro e w' ⟨rfl, rfl⟩
  rw [sgn64]
  go_wp2_with fail
  go_ret2
  exact ⟨rfl, ((h2.trans hn).trans hn2).trans hn3⟩
set_option maxRecDepth 100000 in
set_option maxHeartbeats 1000000 in
theorem val_42 (rd rs1 rs2 im pc a b : Int) (aq rl : Bool) (qa : InU a) (qb : InU b) (qi : InU (IntKind.u64.wrap im))
    (HG : Hid (∀ w, Cod w → Calls Tryz.prog 46 #[.agg #[.int .i64 42, .int .i64 rd, .int .i64 rs1, .int .i64 rs2, .int .i64 im, .bool aq, .bool rl]] w fun e w' => e = .returned (.bool true) ∧ Nb w w')) (w : World) (hC : Cod w) :
    Calls Tryz.prog 57 #[.agg #[.int .i64 42, .int .i64 rd, .int .i64 rs1, .int .i64 rs2, .int .i64 im, .bool aq, .bool rl], .int .u64 pc, .int .u64 a, .int .u64 b] w fun e w' => e = .returned (.tuple #[.int .u64 (Sgn (IntKind.u64.wrap ((Fld a 0 32) * 2 ^ ((Fld (IntKind.u64.wrap im) 0 32) % 32).toNat)) 32), .int .i64 0]) ∧ Nb w w' := by
  have HI := Lib.hid (imm_any 42)
  rw [show ImmB 42 = true from rfl] at HI
  have HK := Lib.hid (work_42 a (IntKind.u64.wrap im) qa qi)
  have q0 : InU (Fld a 0 32) := in_fld _ 0 32 qa
  have q1 : InU (Fld (IntKind.u64.wrap im) 0 32) := in_fld _ 0 32 qi
  have QV : InU (IntKind.u64.wrap ((Fld a 0 32) * 2 ^ ((Fld (IntKind.u64.wrap im) 0 32) % 32).toNat)) := res_shl (Fld a 0 32) (Fld (IntKind.u64.wrap im) 0 32) 32 q0 q1
  have hef := eql_fn
  unfold pairV at HK
  go_enter Tryz.func57, Tryz.ntmps57
  repeat (first | (with_reducible refine then_exit ?_) | (with_reducible refine in_same ?_) | ((with_reducible refine in_other ?_ ?_); decide) | (with_reducible refine then_ret ?_) | (with_reducible refine in_ret ?_) | go_values | go_skip | go_guarded | go_step | go_upon | go_back)
  obtain ⟨W1, hW⟩ : ∃ W1, w.alloc (.cells #[.int .i64 42, .int .i64 rd, .int .i64 rs1, .int .i64 rs2, .int .i64 im, .bool aq, .bool rl] 56) = W1 := ⟨_, rfl⟩
  have hb := blk_made w _ hW rfl
  have h2 : Nb w W1 := by rw [← hW]; exact (Nb.refl _).alloc _
  rw [hW]
  clear hW
  refine (HG.out _ (hC.of_nb h2)).mono ?_
  rintro e w1 ⟨rfl, hn⟩
  have hb1 := Nb.block hn hb
  obtain ⟨n1, c0, c1, c2, c3, c4, c5, c6⟩ := cells7 hb1
  clear hb
  simp only []
  repeat (first | (with_reducible refine then_exit ?_) | (with_reducible refine in_same ?_) | ((with_reducible refine in_other ?_ ?_); decide) | (with_reducible refine then_ret ?_) | (with_reducible refine in_ret ?_) | go_values | go_skip | go_guarded | go_step | go_upon | go_back)
  refine (HI.out _).mono ?_
  rintro e w' ⟨rfl, rfl⟩
  go_wp2_with fail
  refine (HK.out _).mono ?_
  rintro e w2 ⟨B, rfl, hn2, hB⟩
  have HB := Lib.hid hB
  clear hB hb1 n1 c0 c1 c2 c3 c4 c5 c6
  go_wp2_with fail
  refine (shl32 _ _ _ q0.1 q0.2 q1.1 q1.2 _ HB.out).mono ?_
  rintro e w3 ⟨rfl, hn3⟩
  go_wp2_with fail
  refine (sign_any _ _ QV.1 QV.2 _).mono ?_
  rintro e w' ⟨rfl, rfl⟩
  go_wp2_with fail
  go_ret2
  exact ⟨rfl, ((h2.trans hn).trans hn2).trans hn3⟩
set_option maxRecDepth 100000 in
set_option maxHeartbeats 1000000 in
theorem val_43 (rd rs1 rs2 im pc a b : Int) (aq rl : Bool) (qa : InU a) (qb : InU b) (qi : InU (IntKind.u64.wrap im))
    (HG : Hid (∀ w, Cod w → Calls Tryz.prog 46 #[.agg #[.int .i64 43, .int .i64 rd, .int .i64 rs1, .int .i64 rs2, .int .i64 im, .bool aq, .bool rl]] w fun e w' => e = .returned (.bool true) ∧ Nb w w')) (w : World) (hC : Cod w) :
    Calls Tryz.prog 57 #[.agg #[.int .i64 43, .int .i64 rd, .int .i64 rs1, .int .i64 rs2, .int .i64 im, .bool aq, .bool rl], .int .u64 pc, .int .u64 a, .int .u64 b] w fun e w' => e = .returned (.tuple #[.int .u64 (Sgn ((Fld a 0 32) / 2 ^ ((Fld (IntKind.u64.wrap im) 0 32) % 32).toNat) 32), .int .i64 0]) ∧ Nb w w' := by
  have HI := Lib.hid (imm_any 43)
  rw [show ImmB 43 = true from rfl] at HI
  have HK := Lib.hid (work_43 a (IntKind.u64.wrap im) qa qi)
  have q0 : InU (Fld a 0 32) := in_fld _ 0 32 qa
  have q1 : InU (Fld (IntKind.u64.wrap im) 0 32) := in_fld _ 0 32 qi
  have QV : InU ((Fld a 0 32) / 2 ^ ((Fld (IntKind.u64.wrap im) 0 32) % 32).toNat) := res_shr (Fld a 0 32) (Fld (IntKind.u64.wrap im) 0 32) 32 q0 q1
  have hef := eql_fn
  unfold pairV at HK
  go_enter Tryz.func57, Tryz.ntmps57
  repeat (first | (with_reducible refine then_exit ?_) | (with_reducible refine in_same ?_) | ((with_reducible refine in_other ?_ ?_); decide) | (with_reducible refine then_ret ?_) | (with_reducible refine in_ret ?_) | go_values | go_skip | go_guarded | go_step | go_upon | go_back)
  obtain ⟨W1, hW⟩ : ∃ W1, w.alloc (.cells #[.int .i64 43, .int .i64 rd, .int .i64 rs1, .int .i64 rs2, .int .i64 im, .bool aq, .bool rl] 56) = W1 := ⟨_, rfl⟩
  have hb := blk_made w _ hW rfl
  have h2 : Nb w W1 := by rw [← hW]; exact (Nb.refl _).alloc _
  rw [hW]
  clear hW
  refine (HG.out _ (hC.of_nb h2)).mono ?_
  rintro e w1 ⟨rfl, hn⟩
  have hb1 := Nb.block hn hb
  obtain ⟨n1, c0, c1, c2, c3, c4, c5, c6⟩ := cells7 hb1
  clear hb
  simp only []
  repeat (first | (with_reducible refine then_exit ?_) | (with_reducible refine in_same ?_) | ((with_reducible refine in_other ?_ ?_); decide) | (with_reducible refine then_ret ?_) | (with_reducible refine in_ret ?_) | go_values | go_skip | go_guarded | go_step | go_upon | go_back)
  refine (HI.out _).mono ?_
  rintro e w' ⟨rfl, rfl⟩
  go_wp2_with fail
  refine (HK.out _).mono ?_
  rintro e w2 ⟨B, rfl, hn2, hB⟩
  have HB := Lib.hid hB
  clear hB hb1 n1 c0 c1 c2 c3 c4 c5 c6
  go_wp2_with fail
  refine (shr32 _ _ _ q0.1 q0.2 q1.1 q1.2 _ HB.out).mono ?_
  rintro e w3 ⟨rfl, hn3⟩
  go_wp2_with fail
  refine (sign_any _ _ QV.1 QV.2 _).mono ?_
  rintro e w' ⟨rfl, rfl⟩
  go_wp2_with fail
  go_ret2
  exact ⟨rfl, ((h2.trans hn).trans hn2).trans hn3⟩
set_option maxRecDepth 100000 in
set_option maxHeartbeats 1000000 in
theorem val_44 (rd rs1 rs2 im pc a b : Int) (aq rl : Bool) (qa : InU a) (qb : InU b) (qi : InU (IntKind.u64.wrap im))
    (HG : Hid (∀ w, Cod w → Calls Tryz.prog 46 #[.agg #[.int .i64 44, .int .i64 rd, .int .i64 rs1, .int .i64 rs2, .int .i64 im, .bool aq, .bool rl]] w fun e w' => e = .returned (.bool true) ∧ Nb w w')) (w : World) (hC : Cod w) :
    Calls Tryz.prog 57 #[.agg #[.int .i64 44, .int .i64 rd, .int .i64 rs1, .int .i64 rs2, .int .i64 im, .bool aq, .bool rl], .int .u64 pc, .int .u64 a, .int .u64 b] w fun e w' => e = .returned (.tuple #[.int .u64 (Sgn (Sar (Sgn a 32) (Sgn (IntKind.u64.wrap im) 32) 32) 32), .int .i64 0]) ∧ Nb w w' := by
  have HI := Lib.hid (imm_any 44)
  rw [show ImmB 44 = true from rfl] at HI
  have HK := Lib.hid (work_44 a (IntKind.u64.wrap im) qa qi)
  have q0 : InU (Sgn a 32) := in_sgn _ 32 qa
  have q1 : InU (Sgn (IntKind.u64.wrap im) 32) := in_sgn _ 32 qi
  have QV : InU (Sar (Sgn a 32) (Sgn (IntKind.u64.wrap im) 32) 32) := res_sar (Sgn a 32) (Sgn (IntKind.u64.wrap im) 32) 32 q0 q1
  have hef := eql_fn
  unfold pairV at HK
  go_enter Tryz.func57, Tryz.ntmps57
  repeat (first | (with_reducible refine then_exit ?_) | (with_reducible refine in_same ?_) | ((with_reducible refine in_other ?_ ?_); decide) | (with_reducible refine then_ret ?_) | (with_reducible refine in_ret ?_) | go_values | go_skip | go_guarded | go_step | go_upon | go_back)
  obtain ⟨W1, hW⟩ : ∃ W1, w.alloc (.cells #[.int .i64 44, .int .i64 rd, .int .i64 rs1, .int .i64 rs2, .int .i64 im, .bool aq, .bool rl] 56) = W1 := ⟨_, rfl⟩
  have hb := blk_made w _ hW rfl
  have h2 : Nb w W1 := by rw [← hW]; exact (Nb.refl _).alloc _
  rw [hW]
  clear hW
  refine (HG.out _ (hC.of_nb h2)).mono ?_
  rintro e w1 ⟨rfl, hn⟩
  have hb1 := Nb.block hn hb
  obtain ⟨n1, c0, c1, c2, c3, c4, c5, c6⟩ := cells7 hb1
  clear hb
  simp only []
  repeat (first | (with_reducible refine then_exit ?_) | (with_reducible refine in_same ?_) | ((with_reducible refine in_other ?_ ?_); decide) | (with_reducible refine then_ret ?_) | (with_reducible refine in_ret ?_) | go_values | go_skip | go_guarded | go_step | go_upon | go_back)
  refine (HI.out _).mono ?_
  rintro e w' ⟨rfl, rfl⟩
  go_wp2_with fail
  refine (HK.out _).mono ?_
  rintro e w2 ⟨B, rfl, hn2, hB⟩
  have HB := Lib.hid hB
  clear hB hb1 n1 c0 c1 c2 c3 c4 c5 c6
  go_wp2_with fail
  refine (sarI32 _ _ _ q0.1 q0.2 q1.1 q1.2 _ HB.out).mono ?_
  rintro e w3 ⟨rfl, hn3⟩
  go_wp2_with fail
  refine (sign_any _ _ QV.1 QV.2 _).mono ?_
  rintro e w' ⟨rfl, rfl⟩
  go_wp2_with fail
  go_ret2
  exact ⟨rfl, ((h2.trans hn).trans hn2).trans hn3⟩
set_option maxRecDepth 100000 in
set_option maxHeartbeats 1000000 in
theorem val_23 (rd rs1 rs2 im pc a b : Int) (aq rl : Bool) (qa : InU a) (qb : InU b) (qi : InU (IntKind.u64.wrap im))
    (HG : Hid (∀ w, Cod w → Calls Tryz.prog 46 #[.agg #[.int .i64 23, .int .i64 rd, .int .i64 rs1, .int .i64 rs2, .int .i64 im, .bool aq, .bool rl]] w fun e w' => e = .returned (.bool true) ∧ Nb w w')) (w : World) (hC : Cod w) :
    Calls Tryz.prog 57 #[.agg #[.int .i64 23, .int .i64 rd, .int .i64 rs1, .int .i64 rs2, .int .i64 im, .bool aq, .bool rl], .int .u64 pc, .int .u64 a, .int .u64 b] w fun e w' => e = .returned (.tuple #[.int .u64 (BitI (LtS a (IntKind.u64.wrap im))), .int .i64 0]) ∧ Nb w w' := by
  have HI := Lib.hid (imm_any 23)
  rw [show ImmB 23 = true from rfl] at HI
  have HK := Lib.hid (work_23 a (IntKind.u64.wrap im) qa qi)
  have q0 : InU a := qa
  have q1 : InU (IntKind.u64.wrap im) := qi
  have QV : InU (BitI (LtS a (IntKind.u64.wrap im))) := res_lessBit a (IntKind.u64.wrap im) q0 q1
  have hef := eql_fn
  unfold pairV at HK
  go_enter Tryz.func57, Tryz.ntmps57
  repeat (first | (with_reducible refine then_exit ?_) | (with_reducible refine in_same ?_) | ((with_reducible refine in_other ?_ ?_); decide) | (with_reducible refine then_ret ?_) | (with_reducible refine in_ret ?_) | go_values | go_skip | go_guarded | go_step | go_upon | go_back)
  obtain ⟨W1, hW⟩ : ∃ W1, w.alloc (.cells #[.int .i64 23, .int .i64 rd, .int .i64 rs1, .int .i64 rs2, .int .i64 im, .bool aq, .bool rl] 56) = W1 := ⟨_, rfl⟩
  have hb := blk_made w _ hW rfl
  have h2 : Nb w W1 := by rw [← hW]; exact (Nb.refl _).alloc _
  rw [hW]
  clear hW
  refine (HG.out _ (hC.of_nb h2)).mono ?_
  rintro e w1 ⟨rfl, hn⟩
  have hb1 := Nb.block hn hb
  obtain ⟨n1, c0, c1, c2, c3, c4, c5, c6⟩ := cells7 hb1
  clear hb
  simp only []
  repeat (first | (with_reducible refine then_exit ?_) | (with_reducible refine in_same ?_) | ((with_reducible refine in_other ?_ ?_); decide) | (with_reducible refine then_ret ?_) | (with_reducible refine in_ret ?_) | go_values | go_skip | go_guarded | go_step | go_upon | go_back)
  refine (HI.out _).mono ?_
  rintro e w' ⟨rfl, rfl⟩
  go_wp2_with fail
  refine (HK.out _).mono ?_
  rintro e w2 ⟨rfl, hn2⟩
  clear hb1 n1 c0 c1 c2 c3 c4 c5 c6
  go_wp2_with fail
  refine (lessBitI _ _ _ _).mono ?_
  rintro e w3 ⟨rfl, hn3⟩
  go_wp2_with fail
  refine (sign_any _ _ QV.1 QV.2 _).mono ?_
  rintro e w' ⟨rfl, rfl⟩
  rw [sgn64]
  go_wp2_with fail
  go_ret2
  exact ⟨rfl, ((h2.trans hn).trans hn2).trans hn3⟩
set_option maxRecDepth 100000 in
set_option maxHeartbeats 1000000 in
theorem val_25 (rd rs1 rs2 im pc a b : Int) (aq rl : Bool) (qa : InU a) (qb : InU b) (qi : InU (IntKind.u64.wrap im))
    (HG : Hid (∀ w, Cod w → Calls Tryz.prog 46 #[.agg #[.int .i64 25, .int .i64 rd, .int .i64 rs1, .int .i64 rs2, .int .i64 im, .bool aq, .bool rl]] w fun e w' => e = .returned (.bool true) ∧ Nb w w')) (w : World) (hC : Cod w) :
    Calls Tryz.prog 57 #[.agg #[.int .i64 25, .int .i64 rd, .int .i64 rs1, .int .i64 rs2, .int .i64 im, .bool aq, .bool rl], .int .u64 pc, .int .u64 a, .int .u64 b] w fun e w' => e = .returned (.tuple #[.int .u64 (bits .xor .u64 a (IntKind.u64.wrap im)), .int .i64 0]) ∧ Nb w w' := by
  have HI := Lib.hid (imm_any 25)
  rw [show ImmB 25 = true from rfl] at HI
  have HK := Lib.hid (work_25 a (IntKind.u64.wrap im) qa qi)
  have q0 : InU a := qa
  have q1 : InU (IntKind.u64.wrap im) := qi
  have QV : InU (bits .xor .u64 a (IntKind.u64.wrap im)) := res_xor a (IntKind.u64.wrap im) q0 q1
  have hef := eql_fn
  unfold pairV at HK
  go_enter Tryz.func57, Tryz.ntmps57
  repeat (first | (with_reducible refine then_exit ?_) | (with_reducible refine in_same ?_) | ((with_reducible refine in_other ?_ ?_); decide) | (with_reducible refine then_ret ?_) | (with_reducible refine in_ret ?_) | go_values | go_skip | go_guarded | go_step | go_upon | go_back)
  obtain ⟨W1, hW⟩ : ∃ W1, w.alloc (.cells #[.int .i64 25, .int .i64 rd, .int .i64 rs1, .int .i64 rs2, .int .i64 im, .bool aq, .bool rl] 56) = W1 := ⟨_, rfl⟩
  have hb := blk_made w _ hW rfl
  have h2 : Nb w W1 := by rw [← hW]; exact (Nb.refl _).alloc _
  rw [hW]
  clear hW
  refine (HG.out _ (hC.of_nb h2)).mono ?_
  rintro e w1 ⟨rfl, hn⟩
  have hb1 := Nb.block hn hb
  obtain ⟨n1, c0, c1, c2, c3, c4, c5, c6⟩ := cells7 hb1
  clear hb
  simp only []
  repeat (first | (with_reducible refine then_exit ?_) | (with_reducible refine in_same ?_) | ((with_reducible refine in_other ?_ ?_); decide) | (with_reducible refine then_ret ?_) | (with_reducible refine in_ret ?_) | go_values | go_skip | go_guarded | go_step | go_upon | go_back)
  refine (HI.out _).mono ?_
  rintro e w' ⟨rfl, rfl⟩
  go_wp2_with fail
  refine (HK.out _).mono ?_
  rintro e w2 ⟨rfl, hn2⟩
  clear hb1 n1 c0 c1 c2 c3 c4 c5 c6
  go_wp2_with fail
  refine (xor_any _ _ _ _).mono ?_
  rintro e w3 ⟨rfl, hn3⟩
  go_wp2_with fail
  refine (sign_any _ _ QV.1 QV.2 _).mono ?_
  rintro e w' ⟨rfl, rfl⟩
  rw [sgn64]
  go_wp2_with fail
  go_ret2
  exact ⟨rfl, ((h2.trans hn).trans hn2).trans hn3⟩
set_option maxRecDepth 100000 in
set_option maxHeartbeats 1000000 in
theorem val_27 (rd rs1 rs2 im pc a b : Int) (aq rl : Bool) (qa : InU a) (qb : InU b) (qi : InU (IntKind.u64.wrap im))
    (HG : Hid (∀ w, Cod w → Calls Tryz.prog 46 #[.agg #[.int .i64 27, .int .i64 rd, .int .i64 rs1, .int .i64 rs2, .int .i64 im, .bool aq, .bool rl]] w fun e w' => e = .returned (.bool true) ∧ Nb w w')) (w : World) (hC : Cod w) :
    Calls Tryz.prog 57 #[.agg #[.int .i64 27, .int .i64 rd, .int .i64 rs1, .int .i64 rs2, .int .i64 im, .bool aq, .bool rl], .int .u64 pc, .int .u64 a, .int .u64 b] w fun e w' => e = .returned (.tuple #[.int .u64 (bits .and .u64 a (IntKind.u64.wrap im)), .int .i64 0]) ∧ Nb w w' := by
  have HI := Lib.hid (imm_any 27)
  rw [show ImmB 27 = true from rfl] at HI
  have HK := Lib.hid (work_27 a (IntKind.u64.wrap im) qa qi)
  have q0 : InU a := qa
  have q1 : InU (IntKind.u64.wrap im) := qi
  have QV : InU (bits .and .u64 a (IntKind.u64.wrap im)) := res_and a (IntKind.u64.wrap im) q0 q1
  have hef := eql_fn
  unfold pairV at HK
  go_enter Tryz.func57, Tryz.ntmps57
  repeat (first | (with_reducible refine then_exit ?_) | (with_reducible refine in_same ?_) | ((with_reducible refine in_other ?_ ?_); decide) | (with_reducible refine then_ret ?_) | (with_reducible refine in_ret ?_) | go_values | go_skip | go_guarded | go_step | go_upon | go_back)
  obtain ⟨W1, hW⟩ : ∃ W1, w.alloc (.cells #[.int .i64 27, .int .i64 rd, .int .i64 rs1, .int .i64 rs2, .int .i64 im, .bool aq, .bool rl] 56) = W1 := ⟨_, rfl⟩
  have hb := blk_made w _ hW rfl
  have h2 : Nb w W1 := by rw [← hW]; exact (Nb.refl _).alloc _
  rw [hW]
  clear hW
  refine (HG.out _ (hC.of_nb h2)).mono ?_
  rintro e w1 ⟨rfl, hn⟩
  have hb1 := Nb.block hn hb
  obtain ⟨n1, c0, c1, c2, c3, c4, c5, c6⟩ := cells7 hb1
  clear hb
  simp only []
  repeat (first | (with_reducible refine then_exit ?_) | (with_reducible refine in_same ?_) | ((with_reducible refine in_other ?_ ?_); decide) | (with_reducible refine then_ret ?_) | (with_reducible refine in_ret ?_) | go_values | go_skip | go_guarded | go_step | go_upon | go_back)
  refine (HI.out _).mono ?_
  rintro e w' ⟨rfl, rfl⟩
  go_wp2_with fail
  refine (HK.out _).mono ?_
  rintro e w2 ⟨rfl, hn2⟩
  clear hb1 n1 c0 c1 c2 c3 c4 c5 c6
  go_wp2_with fail
  refine (and_any _ _ _ _).mono ?_
  rintro e w3 ⟨rfl, hn3⟩
  go_wp2_with fail
  refine (sign_any _ _ QV.1 QV.2 _).mono ?_
  rintro e w' ⟨rfl, rfl⟩
  rw [sgn64]
  go_wp2_with fail
  go_ret2
  exact ⟨rfl, ((h2.trans hn).trans hn2).trans hn3⟩
set_option maxRecDepth 100000 in
set_option maxHeartbeats 1000000 in
theorem val_55 (rd rs1 rs2 im pc a b : Int) (aq rl : Bool) (qa : InU a) (qb : InU b) (qi : InU (IntKind.u64.wrap im))
    (HG : Hid (∀ w, Cod w → Calls Tryz.prog 46 #[.agg #[.int .i64 55, .int .i64 rd, .int .i64 rs1, .int .i64 rs2, .int .i64 im, .bool aq, .bool rl]] w fun e w' => e = .returned (.bool true) ∧ Nb w w')) (w : World) (hC : Cod w) :
    Calls Tryz.prog 57 #[.agg #[.int .i64 55, .int .i64 rd, .int .i64 rs1, .int .i64 rs2, .int .i64 im, .bool aq, .bool rl], .int .u64 pc, .int .u64 a, .int .u64 b] w fun e w' => e = .returned (.tuple #[.int .u64 (Hgh a b true false), .int .i64 0]) ∧ Nb w w' := by
  have HI := Lib.hid (imm_any 55)
  rw [show ImmB 55 = false from rfl] at HI
  have HK := Lib.hid (work_55 a b qa qb)
  have q0 : InU a := qa
  have q1 : InU b := qb
  have QV : InU (Hgh a b true false) := res_highMixed a b q0 q1
  have hef := eql_fn
  unfold pairV at HK
  go_enter Tryz.func57, Tryz.ntmps57
  repeat (first | (with_reducible refine then_exit ?_) | (with_reducible refine in_same ?_) | ((with_reducible refine in_other ?_ ?_); decide) | (with_reducible refine then_ret ?_) | (with_reducible refine in_ret ?_) | go_values | go_skip | go_guarded | go_step | go_upon | go_back)
  obtain ⟨W1, hW⟩ : ∃ W1, w.alloc (.cells #[.int .i64 55, .int .i64 rd, .int .i64 rs1, .int .i64 rs2, .int .i64 im, .bool aq, .bool rl] 56) = W1 := ⟨_, rfl⟩
  have hb := blk_made w _ hW rfl
  have h2 : Nb w W1 := by rw [← hW]; exact (Nb.refl _).alloc _
  rw [hW]
  clear hW
  refine (HG.out _ (hC.of_nb h2)).mono ?_
  rintro e w1 ⟨rfl, hn⟩
  have hb1 := Nb.block hn hb
  obtain ⟨n1, c0, c1, c2, c3, c4, c5, c6⟩ := cells7 hb1
  clear hb
  simp only []
  repeat (first | (with_reducible refine then_exit ?_) | (with_reducible refine in_same ?_) | ((with_reducible refine in_other ?_ ?_); decide) | (with_reducible refine then_ret ?_) | (with_reducible refine in_ret ?_) | go_values | go_skip | go_guarded | go_step | go_upon | go_back)
  refine (HI.out _).mono ?_
  rintro e w' ⟨rfl, rfl⟩
  go_wp2_with fail
  refine (HK.out _).mono ?_
  rintro e w2 ⟨rfl, hn2⟩
  clear hb1 n1 c0 c1 c2 c3 c4 c5 c6
  go_wp2_with fail
  refine (highM_any _ _ _ q0.1 q0.2 q1.1 q1.2 _).mono ?_
  rintro e w3 ⟨rfl, hn3⟩
  go_wp2_with fail
  refine (sign_any _ _ QV.1 QV.2 _).mono ?_
  rintro e w' ⟨rfl, rfl⟩
  rw [sgn64]
  go_wp2_with fail
  go_ret2
  exact ⟨rfl, ((h2.trans hn).trans hn2).trans hn3⟩
set_option maxRecDepth 100000 in
set_option maxHeartbeats 1000000 in
theorem val_63 (rd rs1 rs2 im pc a b : Int) (aq rl : Bool) (qa : InU a) (qb : InU b) (qi : InU (IntKind.u64.wrap im))
    (HG : Hid (∀ w, Cod w → Calls Tryz.prog 46 #[.agg #[.int .i64 63, .int .i64 rd, .int .i64 rs1, .int .i64 rs2, .int .i64 im, .bool aq, .bool rl]] w fun e w' => e = .returned (.bool true) ∧ Nb w w')) (w : World) (hC : Cod w) :
    Calls Tryz.prog 57 #[.agg #[.int .i64 63, .int .i64 rd, .int .i64 rs1, .int .i64 rs2, .int .i64 im, .bool aq, .bool rl], .int .u64 pc, .int .u64 a, .int .u64 b] w fun e w' => e = .returned (.tuple #[.int .u64 (Sgn (_root_.Go.Proofs.YtmggichckhoomaaGreatDoor.Quo (Fld a 0 32) (Fld b 0 32) false) 32), .int .i64 0]) ∧ Nb w w' := by
  have HI := Lib.hid (imm_any 63)
  rw [show ImmB 63 = false from rfl] at HI
  have HK := Lib.hid (work_63 a b qa qb)
  have q0 : InU (Fld a 0 32) := in_fld _ 0 32 qa
  have q1 : InU (Fld b 0 32) := in_fld _ 0 32 qb
  have QV : InU (_root_.Go.Proofs.YtmggichckhoomaaGreatDoor.Quo (Fld a 0 32) (Fld b 0 32) false) := res_quo (Fld a 0 32) (Fld b 0 32) q0 q1
  have hef := eql_fn
  unfold pairV at HK
  go_enter Tryz.func57, Tryz.ntmps57
  repeat (first | (with_reducible refine then_exit ?_) | (with_reducible refine in_same ?_) | ((with_reducible refine in_other ?_ ?_); decide) | (with_reducible refine then_ret ?_) | (with_reducible refine in_ret ?_) | go_values | go_skip | go_guarded | go_step | go_upon | go_back)
  obtain ⟨W1, hW⟩ : ∃ W1, w.alloc (.cells #[.int .i64 63, .int .i64 rd, .int .i64 rs1, .int .i64 rs2, .int .i64 im, .bool aq, .bool rl] 56) = W1 := ⟨_, rfl⟩
  have hb := blk_made w _ hW rfl
  have h2 : Nb w W1 := by rw [← hW]; exact (Nb.refl _).alloc _
  rw [hW]
  clear hW
  refine (HG.out _ (hC.of_nb h2)).mono ?_
  rintro e w1 ⟨rfl, hn⟩
  have hb1 := Nb.block hn hb
  obtain ⟨n1, c0, c1, c2, c3, c4, c5, c6⟩ := cells7 hb1
  clear hb
  simp only []
  repeat (first | (with_reducible refine then_exit ?_) | (with_reducible refine in_same ?_) | ((with_reducible refine in_other ?_ ?_); decide) | (with_reducible refine then_ret ?_) | (with_reducible refine in_ret ?_) | go_values | go_skip | go_guarded | go_step | go_upon | go_back)
  refine (HI.out _).mono ?_
  rintro e w' ⟨rfl, rfl⟩
  go_wp2_with fail
  refine (HK.out _).mono ?_
  rintro e w2 ⟨rfl, hn2⟩
  clear hb1 n1 c0 c1 c2 c3 c4 c5 c6
  go_wp2_with fail
  refine (quoN_any _ _ _ q0.1 q0.2 q1.1 q1.2 _).mono ?_
  rintro e w3 ⟨rfl, hn3⟩
  go_wp2_with fail
  refine (sign_any _ _ QV.1 QV.2 _).mono ?_
  rintro e w' ⟨rfl, rfl⟩
  go_wp2_with fail
  go_ret2
  exact ⟨rfl, ((h2.trans hn).trans hn2).trans hn3⟩
set_option maxRecDepth 100000 in
set_option maxHeartbeats 1000000 in
theorem val_65 (rd rs1 rs2 im pc a b : Int) (aq rl : Bool) (qa : InU a) (qb : InU b) (qi : InU (IntKind.u64.wrap im))
    (HG : Hid (∀ w, Cod w → Calls Tryz.prog 46 #[.agg #[.int .i64 65, .int .i64 rd, .int .i64 rs1, .int .i64 rs2, .int .i64 im, .bool aq, .bool rl]] w fun e w' => e = .returned (.bool true) ∧ Nb w w')) (w : World) (hC : Cod w) :
    Calls Tryz.prog 57 #[.agg #[.int .i64 65, .int .i64 rd, .int .i64 rs1, .int .i64 rs2, .int .i64 im, .bool aq, .bool rl], .int .u64 pc, .int .u64 a, .int .u64 b] w fun e w' => e = .returned (.tuple #[.int .u64 (Sgn (_root_.Go.Proofs.YtmggichckhoomaaGreatDoor.Rem (Fld a 0 32) (Fld b 0 32) false) 32), .int .i64 0]) ∧ Nb w w' := by
  have HI := Lib.hid (imm_any 65)
  rw [show ImmB 65 = false from rfl] at HI
  have HK := Lib.hid (work_65 a b qa qb)
  have q0 : InU (Fld a 0 32) := in_fld _ 0 32 qa
  have q1 : InU (Fld b 0 32) := in_fld _ 0 32 qb
  have QV : InU (_root_.Go.Proofs.YtmggichckhoomaaGreatDoor.Rem (Fld a 0 32) (Fld b 0 32) false) := res_rem (Fld a 0 32) (Fld b 0 32) q0 q1
  have hef := eql_fn
  unfold pairV at HK
  go_enter Tryz.func57, Tryz.ntmps57
  repeat (first | (with_reducible refine then_exit ?_) | (with_reducible refine in_same ?_) | ((with_reducible refine in_other ?_ ?_); decide) | (with_reducible refine then_ret ?_) | (with_reducible refine in_ret ?_) | go_values | go_skip | go_guarded | go_step | go_upon | go_back)
  obtain ⟨W1, hW⟩ : ∃ W1, w.alloc (.cells #[.int .i64 65, .int .i64 rd, .int .i64 rs1, .int .i64 rs2, .int .i64 im, .bool aq, .bool rl] 56) = W1 := ⟨_, rfl⟩
  have hb := blk_made w _ hW rfl
  have h2 : Nb w W1 := by rw [← hW]; exact (Nb.refl _).alloc _
  rw [hW]
  clear hW
  refine (HG.out _ (hC.of_nb h2)).mono ?_
  rintro e w1 ⟨rfl, hn⟩
  have hb1 := Nb.block hn hb
  obtain ⟨n1, c0, c1, c2, c3, c4, c5, c6⟩ := cells7 hb1
  clear hb
  simp only []
  repeat (first | (with_reducible refine then_exit ?_) | (with_reducible refine in_same ?_) | ((with_reducible refine in_other ?_ ?_); decide) | (with_reducible refine then_ret ?_) | (with_reducible refine in_ret ?_) | go_values | go_skip | go_guarded | go_step | go_upon | go_back)
  refine (HI.out _).mono ?_
  rintro e w' ⟨rfl, rfl⟩
  go_wp2_with fail
  refine (HK.out _).mono ?_
  rintro e w2 ⟨rfl, hn2⟩
  clear hb1 n1 c0 c1 c2 c3 c4 c5 c6
  go_wp2_with fail
  refine (remN_any _ _ _ q0.1 q0.2 q1.1 q1.2 _).mono ?_
  rintro e w3 ⟨rfl, hn3⟩
  go_wp2_with fail
  refine (sign_any _ _ QV.1 QV.2 _).mono ?_
  rintro e w' ⟨rfl, rfl⟩
  go_wp2_with fail
  go_ret2
  exact ⟨rfl, ((h2.trans hn).trans hn2).trans hn3⟩
end Go.Proofs.YtmggichckhoomaaGreatDoor
