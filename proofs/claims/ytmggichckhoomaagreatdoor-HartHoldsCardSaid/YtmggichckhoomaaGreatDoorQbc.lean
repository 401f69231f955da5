/-
  Proved here: what alu.Value of the code gives, all operations. Conditions: the numbers are words; the table of codes holds what its text lays.
-/
import Derived.Test.YtmggichckhoomaaGreatDoorQax
namespace Go.Proofs.YtmggichckhoomaaGreatDoor
open Go.RowKit
set_option linter.unusedVariables false
set_option maxRecDepth 100000 in
set_option maxHeartbeats 1000000 in
theorem val_1 (rd rs1 rs2 im pc a b : Int) (aq rl : Bool) (qa : InU a) (qb : InU b) (qi : InU (IntKind.u64.wrap im))
    (HG : Hid (∀ w, Cod w → Calls Tryz.prog 46 #[.agg #[.int .i64 1, .int .i64 rd, .int .i64 rs1, .int .i64 rs2, .int .i64 im, .bool aq, .bool rl]] w fun e w' => e = .returned (.bool true) ∧ Nb w w')) (w : World) (hC : Cod w) :
    Calls Tryz.prog 57 #[.agg #[.int .i64 1, .int .i64 rd, .int .i64 rs1, .int .i64 rs2, .int .i64 im, .bool aq, .bool rl], .int .u64 pc, .int .u64 a, .int .u64 b] w fun e w' => e = .returned (.tuple #[.int .u64 (IntKind.u64.wrap im), .int .i64 0]) ∧ Nb w w' := by
  go_enter Tryz.func57, Tryz.ntmps57
  repeat (first | (with_reducible refine then_exit ?_) | (with_reducible refine in_same ?_) | ((with_reducible refine in_other ?_ ?_); decide) | (with_reducible refine then_ret ?_) | (with_reducible refine in_ret ?_) | go_values | go_skip | go_guarded | go_step | go_upon | go_back)
  obtain ⟨W1, hW⟩ : ∃ W1, w.alloc (.cells #[.int .i64 1, .int .i64 rd, .int .i64 rs1, .int .i64 rs2, .int .i64 im, .bool aq, .bool rl] 56) = W1 := ⟨_, rfl⟩
  have hb := blk_made w _ hW rfl
  have h2 : Nb w W1 := by rw [← hW]; exact (Nb.refl _).alloc _
  rw [hW]
  clear hW
  refine (HG.out _ (hC.of_nb h2)).mono ?_
  rintro e w1 ⟨rfl, hn⟩
  have hb1 := Nb.block hn hb
  obtain ⟨n1, c0, c1, c2, c3, c4, c5, c6⟩ := cells7 hb1
  clear hb
  simp only []
  repeat (first | (with_reducible refine then_exit ?_) | (with_reducible refine in_same ?_) | ((with_reducible refine in_other ?_ ?_); decide) | (with_reducible refine then_ret ?_) | (with_reducible refine in_ret ?_) | go_values | go_skip | go_guarded | go_step | go_upon | go_back)
  go_ret2
  exact ⟨rfl, h2.trans hn⟩
set_option maxRecDepth 100000 in
set_option maxHeartbeats 1000000 in
theorem val_2 (rd rs1 rs2 im pc a b : Int) (aq rl : Bool) (qa : InU a) (qb : InU b) (qi : InU (IntKind.u64.wrap im))
    (HG : Hid (∀ w, Cod w → Calls Tryz.prog 46 #[.agg #[.int .i64 2, .int .i64 rd, .int .i64 rs1, .int .i64 rs2, .int .i64 im, .bool aq, .bool rl]] w fun e w' => e = .returned (.bool true) ∧ Nb w w')) (w : World) (hC : Cod w) :
    Calls Tryz.prog 57 #[.agg #[.int .i64 2, .int .i64 rd, .int .i64 rs1, .int .i64 rs2, .int .i64 im, .bool aq, .bool rl], .int .u64 pc, .int .u64 a, .int .u64 b] w fun e w' => e = .returned (.tuple #[.int .u64 (IntKind.u64.wrap (pc + IntKind.u64.wrap im)), .int .i64 0]) ∧ Nb w w' := by
  go_enter Tryz.func57, Tryz.ntmps57
  repeat (first | (with_reducible refine then_exit ?_) | (with_reducible refine in_same ?_) | ((with_reducible refine in_other ?_ ?_); decide) | (with_reducible refine then_ret ?_) | (with_reducible refine in_ret ?_) | go_values | go_skip | go_guarded | go_step | go_upon | go_back)
  obtain ⟨W1, hW⟩ : ∃ W1, w.alloc (.cells #[.int .i64 2, .int .i64 rd, .int .i64 rs1, .int .i64 rs2, .int .i64 im, .bool aq, .bool rl] 56) = W1 := ⟨_, rfl⟩
  have hb := blk_made w _ hW rfl
  have h2 : Nb w W1 := by rw [← hW]; exact (Nb.refl _).alloc _
  rw [hW]
  clear hW
  refine (HG.out _ (hC.of_nb h2)).mono ?_
  rintro e w1 ⟨rfl, hn⟩
  have hb1 := Nb.block hn hb
  obtain ⟨n1, c0, c1, c2, c3, c4, c5, c6⟩ := cells7 hb1
  clear hb
  simp only []
  repeat (first | (with_reducible refine then_exit ?_) | (with_reducible refine in_same ?_) | ((with_reducible refine in_other ?_ ?_); decide) | (with_reducible refine then_ret ?_) | (with_reducible refine in_ret ?_) | go_values | go_skip | go_guarded | go_step | go_upon | go_back)
  go_ret2
  exact ⟨rfl, h2.trans hn⟩
set_option maxRecDepth 100000 in
set_option maxHeartbeats 1000000 in
theorem val_3 (rd rs1 rs2 im pc a b : Int) (aq rl : Bool) (qa : InU a) (qb : InU b) (qi : InU (IntKind.u64.wrap im))
    (HG : Hid (∀ w, Cod w → Calls Tryz.prog 46 #[.agg #[.int .i64 3, .int .i64 rd, .int .i64 rs1, .int .i64 rs2, .int .i64 im, .bool aq, .bool rl]] w fun e w' => e = .returned (.bool true) ∧ Nb w w')) (w : World) (hC : Cod w) :
    Calls Tryz.prog 57 #[.agg #[.int .i64 3, .int .i64 rd, .int .i64 rs1, .int .i64 rs2, .int .i64 im, .bool aq, .bool rl], .int .u64 pc, .int .u64 a, .int .u64 b] w fun e w' => e = .returned (.tuple #[.int .u64 (IntKind.u64.wrap (pc + 4)), .int .i64 0]) ∧ Nb w w' := by
  go_enter Tryz.func57, Tryz.ntmps57
  repeat (first | (with_reducible refine then_exit ?_) | (with_reducible refine in_same ?_) | ((with_reducible refine in_other ?_ ?_); decide) | (with_reducible refine then_ret ?_) | (with_reducible refine in_ret ?_) | go_values | go_skip | go_guarded | go_step | go_upon | go_back)
  obtain ⟨W1, hW⟩ : ∃ W1, w.alloc (.cells #[.int .i64 3, .int .i64 rd, .int .i64 rs1, .int .i64 rs2, .int .i64 im, .bool aq, .bool rl] 56) = W1 := ⟨_, rfl⟩
  have hb := blk_made w _ hW rfl
  have h2 : Nb w W1 := by rw [← hW]; exact (Nb.refl _).alloc _
  rw [hW]
  clear hW
  refine (HG.out _ (hC.of_nb h2)).mono ?_
  rintro e w1 ⟨rfl, hn⟩
  have hb1 := Nb.block hn hb
  obtain ⟨n1, c0, c1, c2, c3, c4, c5, c6⟩ := cells7 hb1
  clear hb
  simp only []
  repeat (first | (with_reducible refine then_exit ?_) | (with_reducible refine in_same ?_) | ((with_reducible refine in_other ?_ ?_); decide) | (with_reducible refine then_ret ?_) | (with_reducible refine in_ret ?_) | go_values | go_skip | go_guarded | go_step | go_upon | go_back)
  go_ret2
  exact ⟨rfl, h2.trans hn⟩
set_option maxRecDepth 100000 in
set_option maxHeartbeats 1000000 in
theorem val_4 (rd rs1 rs2 im pc a b : Int) (aq rl : Bool) (qa : InU a) (qb : InU b) (qi : InU (IntKind.u64.wrap im))
    (HG : Hid (∀ w, Cod w → Calls Tryz.prog 46 #[.agg #[.int .i64 4, .int .i64 rd, .int .i64 rs1, .int .i64 rs2, .int .i64 im, .bool aq, .bool rl]] w fun e w' => e = .returned (.bool true) ∧ Nb w w')) (w : World) (hC : Cod w) :
    Calls Tryz.prog 57 #[.agg #[.int .i64 4, .int .i64 rd, .int .i64 rs1, .int .i64 rs2, .int .i64 im, .bool aq, .bool rl], .int .u64 pc, .int .u64 a, .int .u64 b] w fun e w' => e = .returned (.tuple #[.int .u64 (IntKind.u64.wrap (pc + 4)), .int .i64 0]) ∧ Nb w w' := by
  go_enter Tryz.func57, Tryz.ntmps57
  repeat (first | (with_reducible refine then_exit ?_) | (with_reducible refine in_same ?_) | ((with_reducible refine in_other ?_ ?_); decide) | (with_reducible refine then_ret ?_) | (with_reducible refine in_ret ?_) | go_values | go_skip | go_guarded | go_step | go_upon | go_back)
  obtain ⟨W1, hW⟩ : ∃ W1, w.alloc (.cells #[.int .i64 4, .int .i64 rd, .int .i64 rs1, .int .i64 rs2, .int .i64 im, .bool aq, .bool rl] 56) = W1 := ⟨_, rfl⟩
  have hb := blk_made w _ hW rfl
  have h2 : Nb w W1 := by rw [← hW]; exact (Nb.refl _).alloc _
  rw [hW]
  clear hW
  refine (HG.out _ (hC.of_nb h2)).mono ?_
  rintro e w1 ⟨rfl, hn⟩
  have hb1 := Nb.block hn hb
  obtain ⟨n1, c0, c1, c2, c3, c4, c5, c6⟩ := cells7 hb1
  clear hb
  simp only []
  repeat (first | (with_reducible refine then_exit ?_) | (with_reducible refine in_same ?_) | ((with_reducible refine in_other ?_ ?_); decide) | (with_reducible refine then_ret ?_) | (with_reducible refine in_ret ?_) | go_values | go_skip | go_guarded | go_step | go_upon | go_back)
  go_ret2
  exact ⟨rfl, h2.trans hn⟩
set_option maxRecDepth 100000 in
set_option maxHeartbeats 1000000 in
theorem val_bad (op rd rs1 rs2 im pc a b : Int) (aq rl : Bool) (qa : InU a) (qb : InU b) (qi : InU (IntKind.u64.wrap im))
    (HG : Hid (∀ w, Cod w → Calls Tryz.prog 46 #[.agg #[.int .i64 op, .int .i64 rd, .int .i64 rs1, .int .i64 rs2, .int .i64 im, .bool aq, .bool rl]] w fun e w' => e = .returned (.bool false) ∧ Nb w w')) (w : World) (hC : Cod w) :
    Calls Tryz.prog 57 #[.agg #[.int .i64 op, .int .i64 rd, .int .i64 rs1, .int .i64 rs2, .int .i64 im, .bool aq, .bool rl], .int .u64 pc, .int .u64 a, .int .u64 b] w fun e w' => e = .returned (.tuple #[.int .u64 (0), .int .i64 20]) ∧ Nb w w' := by
  go_enter Tryz.func57, Tryz.ntmps57
  repeat (first | (with_reducible refine then_exit ?_) | (with_reducible refine in_same ?_) | ((with_reducible refine in_other ?_ ?_); decide) | (with_reducible refine then_ret ?_) | (with_reducible refine in_ret ?_) | go_values | go_skip | go_guarded | go_step | go_upon | go_back)
  obtain ⟨W1, hW⟩ : ∃ W1, w.alloc (.cells #[.int .i64 op, .int .i64 rd, .int .i64 rs1, .int .i64 rs2, .int .i64 im, .bool aq, .bool rl] 56) = W1 := ⟨_, rfl⟩
  have hb := blk_made w _ hW rfl
  have h2 : Nb w W1 := by rw [← hW]; exact (Nb.refl _).alloc _
  rw [hW]
  clear hW
  refine (HG.out _ (hC.of_nb h2)).mono ?_
  rintro e w1 ⟨rfl, hn⟩
  clear hb
  simp only []
  repeat (first | (with_reducible refine then_exit ?_) | (with_reducible refine in_same ?_) | ((with_reducible refine in_other ?_ ?_); decide) | (with_reducible refine then_ret ?_) | (with_reducible refine in_ret ?_) | go_values | go_skip | go_guarded | go_step | go_upon | go_back)
  go_ret2
  exact ⟨rfl, h2.trans hn⟩
set_option maxRecDepth 100000 in
set_option maxHeartbeats 1000000 in
theorem val_none (op rd rs1 rs2 im pc a b : Int) (aq rl : Bool) (hno : HasB op = false) (qa : InU a) (qb : InU b) (qi : InU (IntKind.u64.wrap im))
    (HG : Hid (∀ w, Cod w → Calls Tryz.prog 46 #[.agg #[.int .i64 op, .int .i64 rd, .int .i64 rs1, .int .i64 rs2, .int .i64 im, .bool aq, .bool rl]] w fun e w' => e = .returned (.bool true) ∧ Nb w w')) (w : World) (hC : Cod w) :
    Calls Tryz.prog 57 #[.agg #[.int .i64 op, .int .i64 rd, .int .i64 rs1, .int .i64 rs2, .int .i64 im, .bool aq, .bool rl], .int .u64 pc, .int .u64 a, .int .u64 b] w fun e w' => e = .returned (.tuple #[.int .u64 (0), .int .i64 80]) ∧ Nb w w' := by
  have hop := hno
  unfold HasB at hop
  simp at hop
  have e1 : (op == 1) = false := beq_eq_false_iff_ne.2 (by omega)
  have e2 : (op == 2) = false := beq_eq_false_iff_ne.2 (by omega)
  have e3 : (op == 3) = false := beq_eq_false_iff_ne.2 (by omega)
  have e4 : (op == 4) = false := beq_eq_false_iff_ne.2 (by omega)
  have hi : ImmB op = false := by unfold ImmB; simp; omega
  have HI := Lib.hid (imm_any op)
  rw [hi] at HI
  have HK := Lib.hid (work_none op a b hno)
  clear hop hno hi
  have hnn := eql_nn
  unfold pairV at HK
  go_enter Tryz.func57, Tryz.ntmps57
  repeat (first | (with_reducible refine then_exit ?_) | (with_reducible refine in_same ?_) | ((with_reducible refine in_other ?_ ?_); decide) | (with_reducible refine then_ret ?_) | (with_reducible refine in_ret ?_) | go_values | go_skip | go_guarded | go_step | go_upon | go_back)
  obtain ⟨W1, hW⟩ : ∃ W1, w.alloc (.cells #[.int .i64 op, .int .i64 rd, .int .i64 rs1, .int .i64 rs2, .int .i64 im, .bool aq, .bool rl] 56) = W1 := ⟨_, rfl⟩
  have hb := blk_made w _ hW rfl
  have h2 : Nb w W1 := by rw [← hW]; exact (Nb.refl _).alloc _
  rw [hW]
  clear hW
  refine (HG.out _ (hC.of_nb h2)).mono ?_
  rintro e w1 ⟨rfl, hn⟩
  have hb1 := Nb.block hn hb
  obtain ⟨n1, c0, c1, c2, c3, c4, c5, c6⟩ := cells7 hb1
  clear hb
  simp only []
  repeat (first | (with_reducible refine then_exit ?_) | (with_reducible refine in_same ?_) | ((with_reducible refine in_other ?_ ?_); decide) | (with_reducible refine then_ret ?_) | (with_reducible refine in_ret ?_) | go_values | go_skip | go_guarded | go_step | go_upon | go_back)
  refine (HI.out _).mono ?_
  rintro e w' ⟨rfl, rfl⟩
  go_wp2_with fail
  refine (HK.out _).mono ?_
  rintro e w2 ⟨rfl, hn2⟩
  clear hb1 n1 c0 c1 c2 c3 c4 c5 c6
  go_wp2_with fail
  go_ret2
  exact ⟨rfl, (h2.trans hn).trans hn2⟩
end Go.Proofs.YtmggichckhoomaaGreatDoor
