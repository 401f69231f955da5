/-
  Proved here: whether a branch is taken, and where an instruction loads or stores, the code's answer and the reference's. Conditions: the numbers are words; the table of codes holds what its text lays.
-/
import Derived.Test.YtmggichckhoomaaGreatDoorQbd
namespace Go.Proofs.YtmggichckhoomaaGreatDoor
open Go.RowKit
set_option linter.unusedVariables false
def TakeB (op a b : Int) : Bool := if op = 5 then a == b else if op = 6 then a != b else if op = 7 then LtS a b else if op = 8 then !LtS a b else if op = 9 then LtU a b else if op = 10 then !LtU a b else false
def TkB (op rd rs1 rs2 im : Int) (aq rl : Bool) (a b : Int) : Bool := if GoodB op rd rs1 rs2 im aq rl = true then TakeB op a b else false
def AdB (op im a : Int) : Int := if AtomB op = true then a else if (LoadB op || StoreB op) = true then IntKind.u64.wrap (a + IntKind.u64.wrap im) else 0
set_option maxRecDepth 100000 in
set_option maxHeartbeats 1000000 in
theorem tk_5 (rd rs1 rs2 im a b : Int) (aq rl : Bool) (qa : InU a) (qb : InU b)
    (HG : Hid (∀ w, Cod w → Calls Tryz.prog 46 #[.agg #[.int .i64 5, .int .i64 rd, .int .i64 rs1, .int .i64 rs2, .int .i64 im, .bool aq, .bool rl]] w fun e w' => e = .returned (.bool true) ∧ Nb w w')) (w : World) (hC : Cod w) :
    Calls Tryz.prog 62 #[.agg #[.int .i64 5, .int .i64 rd, .int .i64 rs1, .int .i64 rs2, .int .i64 im, .bool aq, .bool rl], .int .u64 a, .int .u64 b] w fun e w' => e = .returned (.bool (a == b)) ∧ Nb w w' := by
  go_enter Tryz.func62, Tryz.ntmps62
  repeat (first | (with_reducible refine then_exit ?_) | (with_reducible refine in_same ?_) | ((with_reducible refine in_other ?_ ?_); decide) | (with_reducible refine then_ret ?_) | (with_reducible refine in_ret ?_) | go_values | go_skip | go_guarded | go_step | go_upon | go_back)
  obtain ⟨W1, hW⟩ : ∃ W1, w.alloc (.cells #[.int .i64 5, .int .i64 rd, .int .i64 rs1, .int .i64 rs2, .int .i64 im, .bool aq, .bool rl] 56) = W1 := ⟨_, rfl⟩
  have hb := blk_made w _ hW rfl
  have h2 : Nb w W1 := by rw [← hW]; exact (Nb.refl _).alloc _
  rw [hW]
  clear hW
  refine (HG.out _ (hC.of_nb h2)).mono ?_
  rintro e w1 ⟨rfl, hn⟩
  have hb1 := Nb.block hn hb
  obtain ⟨n1, c0, c1, c2, c3, c4, c5, c6⟩ := cells7 hb1
  clear hb1 hb
  simp only []
  repeat (first | (with_reducible refine then_exit ?_) | (with_reducible refine in_same ?_) | ((with_reducible refine in_other ?_ ?_); decide) | (with_reducible refine then_ret ?_) | (with_reducible refine in_ret ?_) | go_values | go_skip | go_guarded | go_step | go_upon | go_back)
  go_ret
  exact ⟨rfl, h2.trans (hn.alloc _)⟩
set_option maxRecDepth 100000 in
set_option maxHeartbeats 1000000 in
theorem tk_6 (rd rs1 rs2 im a b : Int) (aq rl : Bool) (qa : InU a) (qb : InU b)
    (HG : Hid (∀ w, Cod w → Calls Tryz.prog 46 #[.agg #[.int .i64 6, .int .i64 rd, .int .i64 rs1, .int .i64 rs2, .int .i64 im, .bool aq, .bool rl]] w fun e w' => e = .returned (.bool true) ∧ Nb w w')) (w : World) (hC : Cod w) :
    Calls Tryz.prog 62 #[.agg #[.int .i64 6, .int .i64 rd, .int .i64 rs1, .int .i64 rs2, .int .i64 im, .bool aq, .bool rl], .int .u64 a, .int .u64 b] w fun e w' => e = .returned (.bool (a != b)) ∧ Nb w w' := by
  go_enter Tryz.func62, Tryz.ntmps62
  repeat (first | (with_reducible refine then_exit ?_) | (with_reducible refine in_same ?_) | ((with_reducible refine in_other ?_ ?_); decide) | (with_reducible refine then_ret ?_) | (with_reducible refine in_ret ?_) | go_values | go_skip | go_guarded | go_step | go_upon | go_back)
  obtain ⟨W1, hW⟩ : ∃ W1, w.alloc (.cells #[.int .i64 6, .int .i64 rd, .int .i64 rs1, .int .i64 rs2, .int .i64 im, .bool aq, .bool rl] 56) = W1 := ⟨_, rfl⟩
  have hb := blk_made w _ hW rfl
  have h2 : Nb w W1 := by rw [← hW]; exact (Nb.refl _).alloc _
  rw [hW]
  clear hW
  refine (HG.out _ (hC.of_nb h2)).mono ?_
  rintro e w1 ⟨rfl, hn⟩
  have hb1 := Nb.block hn hb
  obtain ⟨n1, c0, c1, c2, c3, c4, c5, c6⟩ := cells7 hb1
  clear hb1 hb
  simp only []
  repeat (first | (with_reducible refine then_exit ?_) | (with_reducible refine in_same ?_) | ((with_reducible refine in_other ?_ ?_); decide) | (with_reducible refine then_ret ?_) | (with_reducible refine in_ret ?_) | go_values | go_skip | go_guarded | go_step | go_upon | go_back)
  go_ret
  exact ⟨rfl, h2.trans (hn.alloc _)⟩
set_option maxRecDepth 100000 in
set_option maxHeartbeats 1000000 in
theorem tk_7 (rd rs1 rs2 im a b : Int) (aq rl : Bool) (qa : InU a) (qb : InU b)
    (HG : Hid (∀ w, Cod w → Calls Tryz.prog 46 #[.agg #[.int .i64 7, .int .i64 rd, .int .i64 rs1, .int .i64 rs2, .int .i64 im, .bool aq, .bool rl]] w fun e w' => e = .returned (.bool true) ∧ Nb w w')) (w : World) (hC : Cod w) :
    Calls Tryz.prog 62 #[.agg #[.int .i64 7, .int .i64 rd, .int .i64 rs1, .int .i64 rs2, .int .i64 im, .bool aq, .bool rl], .int .u64 a, .int .u64 b] w fun e w' => e = .returned (.bool (LtS a b)) ∧ Nb w w' := by
  go_enter Tryz.func62, Tryz.ntmps62
  repeat (first | (with_reducible refine then_exit ?_) | (with_reducible refine in_same ?_) | ((with_reducible refine in_other ?_ ?_); decide) | (with_reducible refine then_ret ?_) | (with_reducible refine in_ret ?_) | go_values | go_skip | go_guarded | go_step | go_upon | go_back)
  obtain ⟨W1, hW⟩ : ∃ W1, w.alloc (.cells #[.int .i64 7, .int .i64 rd, .int .i64 rs1, .int .i64 rs2, .int .i64 im, .bool aq, .bool rl] 56) = W1 := ⟨_, rfl⟩
  have hb := blk_made w _ hW rfl
  have h2 : Nb w W1 := by rw [← hW]; exact (Nb.refl _).alloc _
  rw [hW]
  clear hW
  refine (HG.out _ (hC.of_nb h2)).mono ?_
  rintro e w1 ⟨rfl, hn⟩
  have hb1 := Nb.block hn hb
  obtain ⟨n1, c0, c1, c2, c3, c4, c5, c6⟩ := cells7 hb1
  clear hb1 hb
  simp only []
  repeat (first | (with_reducible refine then_exit ?_) | (with_reducible refine in_same ?_) | ((with_reducible refine in_other ?_ ?_); decide) | (with_reducible refine then_ret ?_) | (with_reducible refine in_ret ?_) | go_values | go_skip | go_guarded | go_step | go_upon | go_back)
  refine (less_any a b _ _).mono ?_
  rintro e w2 ⟨rfl, hn2⟩
  simp only []
  repeat (first | (with_reducible refine then_exit ?_) | (with_reducible refine in_same ?_) | ((with_reducible refine in_other ?_ ?_); decide) | (with_reducible refine then_ret ?_) | (with_reducible refine in_ret ?_) | go_values | go_skip | go_guarded | go_step | go_upon | go_back)
  go_ret
  exact ⟨rfl, (h2.trans (hn.alloc _)).trans hn2⟩
set_option maxRecDepth 100000 in
set_option maxHeartbeats 1000000 in
theorem tk_8 (rd rs1 rs2 im a b : Int) (aq rl : Bool) (qa : InU a) (qb : InU b)
    (HG : Hid (∀ w, Cod w → Calls Tryz.prog 46 #[.agg #[.int .i64 8, .int .i64 rd, .int .i64 rs1, .int .i64 rs2, .int .i64 im, .bool aq, .bool rl]] w fun e w' => e = .returned (.bool true) ∧ Nb w w')) (w : World) (hC : Cod w) :
    Calls Tryz.prog 62 #[.agg #[.int .i64 8, .int .i64 rd, .int .i64 rs1, .int .i64 rs2, .int .i64 im, .bool aq, .bool rl], .int .u64 a, .int .u64 b] w fun e w' => e = .returned (.bool (!LtS a b)) ∧ Nb w w' := by
  go_enter Tryz.func62, Tryz.ntmps62
  repeat (first | (with_reducible refine then_exit ?_) | (with_reducible refine in_same ?_) | ((with_reducible refine in_other ?_ ?_); decide) | (with_reducible refine then_ret ?_) | (with_reducible refine in_ret ?_) | go_values | go_skip | go_guarded | go_step | go_upon | go_back)
  obtain ⟨W1, hW⟩ : ∃ W1, w.alloc (.cells #[.int .i64 8, .int .i64 rd, .int .i64 rs1, .int .i64 rs2, .int .i64 im, .bool aq, .bool rl] 56) = W1 := ⟨_, rfl⟩
  have hb := blk_made w _ hW rfl
  have h2 : Nb w W1 := by rw [← hW]; exact (Nb.refl _).alloc _
  rw [hW]
  clear hW
  refine (HG.out _ (hC.of_nb h2)).mono ?_
  rintro e w1 ⟨rfl, hn⟩
  have hb1 := Nb.block hn hb
  obtain ⟨n1, c0, c1, c2, c3, c4, c5, c6⟩ := cells7 hb1
  clear hb1 hb
  simp only []
  repeat (first | (with_reducible refine then_exit ?_) | (with_reducible refine in_same ?_) | ((with_reducible refine in_other ?_ ?_); decide) | (with_reducible refine then_ret ?_) | (with_reducible refine in_ret ?_) | go_values | go_skip | go_guarded | go_step | go_upon | go_back)
  refine (less_any a b _ _).mono ?_
  rintro e w2 ⟨rfl, hn2⟩
  simp only []
  repeat (first | (with_reducible refine then_exit ?_) | (with_reducible refine in_same ?_) | ((with_reducible refine in_other ?_ ?_); decide) | (with_reducible refine then_ret ?_) | (with_reducible refine in_ret ?_) | go_values | go_skip | go_guarded | go_step | go_upon | go_back)
  go_ret
  exact ⟨rfl, (h2.trans (hn.alloc _)).trans hn2⟩
set_option maxRecDepth 100000 in
set_option maxHeartbeats 1000000 in
theorem tk_9 (rd rs1 rs2 im a b : Int) (aq rl : Bool) (qa : InU a) (qb : InU b)
    (HG : Hid (∀ w, Cod w → Calls Tryz.prog 46 #[.agg #[.int .i64 9, .int .i64 rd, .int .i64 rs1, .int .i64 rs2, .int .i64 im, .bool aq, .bool rl]] w fun e w' => e = .returned (.bool true) ∧ Nb w w')) (w : World) (hC : Cod w) :
    Calls Tryz.prog 62 #[.agg #[.int .i64 9, .int .i64 rd, .int .i64 rs1, .int .i64 rs2, .int .i64 im, .bool aq, .bool rl], .int .u64 a, .int .u64 b] w fun e w' => e = .returned (.bool (LtU a b)) ∧ Nb w w' := by
  go_enter Tryz.func62, Tryz.ntmps62
  repeat (first | (with_reducible refine then_exit ?_) | (with_reducible refine in_same ?_) | ((with_reducible refine in_other ?_ ?_); decide) | (with_reducible refine then_ret ?_) | (with_reducible refine in_ret ?_) | go_values | go_skip | go_guarded | go_step | go_upon | go_back)
  obtain ⟨W1, hW⟩ : ∃ W1, w.alloc (.cells #[.int .i64 9, .int .i64 rd, .int .i64 rs1, .int .i64 rs2, .int .i64 im, .bool aq, .bool rl] 56) = W1 := ⟨_, rfl⟩
  have hb := blk_made w _ hW rfl
  have h2 : Nb w W1 := by rw [← hW]; exact (Nb.refl _).alloc _
  rw [hW]
  clear hW
  refine (HG.out _ (hC.of_nb h2)).mono ?_
  rintro e w1 ⟨rfl, hn⟩
  have hb1 := Nb.block hn hb
  obtain ⟨n1, c0, c1, c2, c3, c4, c5, c6⟩ := cells7 hb1
  clear hb1 hb
  simp only []
  repeat (first | (with_reducible refine then_exit ?_) | (with_reducible refine in_same ?_) | ((with_reducible refine in_other ?_ ?_); decide) | (with_reducible refine then_ret ?_) | (with_reducible refine in_ret ?_) | go_values | go_skip | go_guarded | go_step | go_upon | go_back)
  refine (below_any a b _ _).mono ?_
  rintro e w2 ⟨rfl, hn2⟩
  simp only []
  repeat (first | (with_reducible refine then_exit ?_) | (with_reducible refine in_same ?_) | ((with_reducible refine in_other ?_ ?_); decide) | (with_reducible refine then_ret ?_) | (with_reducible refine in_ret ?_) | go_values | go_skip | go_guarded | go_step | go_upon | go_back)
  go_ret
  exact ⟨rfl, (h2.trans (hn.alloc _)).trans hn2⟩
set_option maxRecDepth 100000 in
set_option maxHeartbeats 1000000 in
theorem tk_10 (rd rs1 rs2 im a b : Int) (aq rl : Bool) (qa : InU a) (qb : InU b)
    (HG : Hid (∀ w, Cod w → Calls Tryz.prog 46 #[.agg #[.int .i64 10, .int .i64 rd, .int .i64 rs1, .int .i64 rs2, .int .i64 im, .bool aq, .bool rl]] w fun e w' => e = .returned (.bool true) ∧ Nb w w')) (w : World) (hC : Cod w) :
    Calls Tryz.prog 62 #[.agg #[.int .i64 10, .int .i64 rd, .int .i64 rs1, .int .i64 rs2, .int .i64 im, .bool aq, .bool rl], .int .u64 a, .int .u64 b] w fun e w' => e = .returned (.bool (!LtU a b)) ∧ Nb w w' := by
  go_enter Tryz.func62, Tryz.ntmps62
  repeat (first | (with_reducible refine then_exit ?_) | (with_reducible refine in_same ?_) | ((with_reducible refine in_other ?_ ?_); decide) | (with_reducible refine then_ret ?_) | (with_reducible refine in_ret ?_) | go_values | go_skip | go_guarded | go_step | go_upon | go_back)
  obtain ⟨W1, hW⟩ : ∃ W1, w.alloc (.cells #[.int .i64 10, .int .i64 rd, .int .i64 rs1, .int .i64 rs2, .int .i64 im, .bool aq, .bool rl] 56) = W1 := ⟨_, rfl⟩
  have hb := blk_made w _ hW rfl
  have h2 : Nb w W1 := by rw [← hW]; exact (Nb.refl _).alloc _
  rw [hW]
  clear hW
  refine (HG.out _ (hC.of_nb h2)).mono ?_
  rintro e w1 ⟨rfl, hn⟩
  have hb1 := Nb.block hn hb
  obtain ⟨n1, c0, c1, c2, c3, c4, c5, c6⟩ := cells7 hb1
  clear hb1 hb
  simp only []
  repeat (first | (with_reducible refine then_exit ?_) | (with_reducible refine in_same ?_) | ((with_reducible refine in_other ?_ ?_); decide) | (with_reducible refine then_ret ?_) | (with_reducible refine in_ret ?_) | go_values | go_skip | go_guarded | go_step | go_upon | go_back)
  refine (below_any a b _ _).mono ?_
  rintro e w2 ⟨rfl, hn2⟩
  simp only []
  repeat (first | (with_reducible refine then_exit ?_) | (with_reducible refine in_same ?_) | ((with_reducible refine in_other ?_ ?_); decide) | (with_reducible refine then_ret ?_) | (with_reducible refine in_ret ?_) | go_values | go_skip | go_guarded | go_step | go_upon | go_back)
  go_ret
  exact ⟨rfl, (h2.trans (hn.alloc _)).trans hn2⟩
set_option maxRecDepth 100000 in
set_option maxHeartbeats 1000000 in
theorem tk_o (op rd rs1 rs2 im a b : Int) (aq rl : Bool) (qa : InU a) (qb : InU b) (h : op ≠ 5 ∧ op ≠ 6 ∧ op ≠ 7 ∧ op ≠ 8 ∧ op ≠ 9 ∧ op ≠ 10)
    (HG : Hid (∀ w, Cod w → Calls Tryz.prog 46 #[.agg #[.int .i64 op, .int .i64 rd, .int .i64 rs1, .int .i64 rs2, .int .i64 im, .bool aq, .bool rl]] w fun e w' => e = .returned (.bool true) ∧ Nb w w')) (w : World) (hC : Cod w) :
    Calls Tryz.prog 62 #[.agg #[.int .i64 op, .int .i64 rd, .int .i64 rs1, .int .i64 rs2, .int .i64 im, .bool aq, .bool rl], .int .u64 a, .int .u64 b] w fun e w' => e = .returned (.bool (false)) ∧ Nb w w' := by
  have e5 : (op == 5) = false := beq_eq_false_iff_ne.2 (by omega)
  have e6 : (op == 6) = false := beq_eq_false_iff_ne.2 (by omega)
  have e7 : (op == 7) = false := beq_eq_false_iff_ne.2 (by omega)
  have e8 : (op == 8) = false := beq_eq_false_iff_ne.2 (by omega)
  have e9 : (op == 9) = false := beq_eq_false_iff_ne.2 (by omega)
  have e10 : (op == 10) = false := beq_eq_false_iff_ne.2 (by omega)
  clear h
  go_enter Tryz.func62, Tryz.ntmps62
  repeat (first | (with_reducible refine then_exit ?_) | (with_reducible refine in_same ?_) | ((with_reducible refine in_other ?_ ?_); decide) | (with_reducible refine then_ret ?_) | (with_reducible refine in_ret ?_) | go_values | go_skip | go_guarded | go_step | go_upon | go_back)
  obtain ⟨W1, hW⟩ : ∃ W1, w.alloc (.cells #[.int .i64 op, .int .i64 rd, .int .i64 rs1, .int .i64 rs2, .int .i64 im, .bool aq, .bool rl] 56) = W1 := ⟨_, rfl⟩
  have hb := blk_made w _ hW rfl
  have h2 : Nb w W1 := by rw [← hW]; exact (Nb.refl _).alloc _
  rw [hW]
  clear hW
  refine (HG.out _ (hC.of_nb h2)).mono ?_
  rintro e w1 ⟨rfl, hn⟩
  have hb1 := Nb.block hn hb
  obtain ⟨n1, c0, c1, c2, c3, c4, c5, c6⟩ := cells7 hb1
  clear hb1 hb
  simp only []
  repeat (first | (with_reducible refine then_exit ?_) | (with_reducible refine in_same ?_) | ((with_reducible refine in_other ?_ ?_); decide) | (with_reducible refine then_ret ?_) | (with_reducible refine in_ret ?_) | go_values | go_skip | go_guarded | go_step | go_upon | go_back)
  go_ret
  exact ⟨rfl, h2.trans (hn.alloc _)⟩
set_option maxRecDepth 100000 in
set_option maxHeartbeats 1000000 in
theorem tk_bad (op rd rs1 rs2 im a b : Int) (aq rl : Bool) (qa : InU a) (qb : InU b)
    (HG : Hid (∀ w, Cod w → Calls Tryz.prog 46 #[.agg #[.int .i64 op, .int .i64 rd, .int .i64 rs1, .int .i64 rs2, .int .i64 im, .bool aq, .bool rl]] w fun e w' => e = .returned (.bool false) ∧ Nb w w')) (w : World) (hC : Cod w) :
    Calls Tryz.prog 62 #[.agg #[.int .i64 op, .int .i64 rd, .int .i64 rs1, .int .i64 rs2, .int .i64 im, .bool aq, .bool rl], .int .u64 a, .int .u64 b] w fun e w' => e = .returned (.bool (false)) ∧ Nb w w' := by
  go_enter Tryz.func62, Tryz.ntmps62
  repeat (first | (with_reducible refine then_exit ?_) | (with_reducible refine in_same ?_) | ((with_reducible refine in_other ?_ ?_); decide) | (with_reducible refine then_ret ?_) | (with_reducible refine in_ret ?_) | go_values | go_skip | go_guarded | go_step | go_upon | go_back)
  obtain ⟨W1, hW⟩ : ∃ W1, w.alloc (.cells #[.int .i64 op, .int .i64 rd, .int .i64 rs1, .int .i64 rs2, .int .i64 im, .bool aq, .bool rl] 56) = W1 := ⟨_, rfl⟩
  have hb := blk_made w _ hW rfl
  have h2 : Nb w W1 := by rw [← hW]; exact (Nb.refl _).alloc _
  rw [hW]
  clear hW
  refine (HG.out _ (hC.of_nb h2)).mono ?_
  rintro e w1 ⟨rfl, hn⟩
  have hb1 := Nb.block hn hb
  obtain ⟨n1, c0, c1, c2, c3, c4, c5, c6⟩ := cells7 hb1
  clear hb1 hb
  simp only []
  repeat (first | (with_reducible refine then_exit ?_) | (with_reducible refine in_same ?_) | ((with_reducible refine in_other ?_ ?_); decide) | (with_reducible refine then_ret ?_) | (with_reducible refine in_ret ?_) | go_values | go_skip | go_guarded | go_step | go_upon | go_back)
  go_ret
  exact ⟨rfl, h2.trans hn⟩
theorem tk_any (op rd rs1 rs2 im a b : Int) (aq rl : Bool) (qa : InU a) (qb : InU b) (v0 : -9223372036854775808 ≤ im) (v1 : im < 9223372036854775808) (w : World) (hC : Cod w) :
    Calls Tryz.prog 62 #[.agg #[.int .i64 op, .int .i64 rd, .int .i64 rs1, .int .i64 rs2, .int .i64 im, .bool aq, .bool rl], .int .u64 a, .int .u64 b] w fun e w' => e = .returned (.bool (TkB op rd rs1 rs2 im aq rl a b)) ∧ Nb w w' := by
  have HG := fun w (hC : Cod w) => good_any op rd rs1 rs2 im aq rl v0 v1 w hC
  unfold TkB
  cases hg : GoodB op rd rs1 rs2 im aq rl <;> rw [hg] at HG
  · exact tk_bad op rd rs1 rs2 im a b aq rl qa qb (Lib.hid HG) w hC
  rw [if_pos rfl]
  clear hg
  by_cases h : op = 5 ∨ op = 6 ∨ op = 7 ∨ op = 8 ∨ op = 9 ∨ op = 10
  · rcases h with rfl | rfl | rfl | rfl | rfl | rfl
    · exact tk_5 rd rs1 rs2 im a b aq rl qa qb (Lib.hid HG) w hC
    · exact tk_6 rd rs1 rs2 im a b aq rl qa qb (Lib.hid HG) w hC
    · exact tk_7 rd rs1 rs2 im a b aq rl qa qb (Lib.hid HG) w hC
    · exact tk_8 rd rs1 rs2 im a b aq rl qa qb (Lib.hid HG) w hC
    · exact tk_9 rd rs1 rs2 im a b aq rl qa qb (Lib.hid HG) w hC
    · exact tk_10 rd rs1 rs2 im a b aq rl qa qb (Lib.hid HG) w hC
  · have e : TakeB op a b = false := by unfold TakeB; repeat rw [if_neg (by omega)]
    rw [e]
    exact tk_o op rd rs1 rs2 im a b aq rl qa qb (by omega) (Lib.hid HG) w hC
set_option maxRecDepth 100000 in
set_option maxHeartbeats 1000000 in
theorem adr_a (op rd rs1 rs2 im a : Int) (aq rl : Bool) (HA : Hid (∀ w, Calls Tryz.prog 47 #[.int .i64 op] w fun e w' => e = .returned (.bool true) ∧ w = w'))
    (HL : Hid (∀ w, Calls Tryz.prog 56 #[.int .i64 op] w fun e w' => e = .returned (.bool (LoadB op)) ∧ w = w')) (HS : Hid (∀ w, Calls Tryz.prog 22 #[.int .i64 op] w fun e w' => e = .returned (.bool (StoreB op)) ∧ w = w')) (w : World) :
    Calls Tryz.prog 58 #[.agg #[.int .i64 op, .int .i64 rd, .int .i64 rs1, .int .i64 rs2, .int .i64 im, .bool aq, .bool rl], .int .u64 a] w fun e w' => e = .returned (.int .u64 (a)) ∧ Nb w w' := by
  go_enter Tryz.func58, Tryz.ntmps58
  repeat (first | (with_reducible refine then_exit ?_) | (with_reducible refine in_same ?_) | ((with_reducible refine in_other ?_ ?_); decide) | (with_reducible refine then_ret ?_) | (with_reducible refine in_ret ?_) | go_values | go_skip | go_guarded | go_step | go_upon | go_back)
  obtain ⟨W1, hW⟩ : ∃ W1, w.alloc (.cells #[.int .i64 op, .int .i64 rd, .int .i64 rs1, .int .i64 rs2, .int .i64 im, .bool aq, .bool rl] 56) = W1 := ⟨_, rfl⟩
  have hb := blk_made w _ hW rfl
  have h2 : Nb w W1 := by rw [← hW]; exact (Nb.refl _).alloc _
  rw [hW]
  clear hW
  obtain ⟨n1, c0, c1, c2, c3, c4, c5, c6⟩ := cells7 hb
  clear hb
  refine (HA.out _).mono ?_
  rintro e w' ⟨rfl, rfl⟩
  simp only []
  repeat (first | (with_reducible refine then_exit ?_) | (with_reducible refine in_same ?_) | ((with_reducible refine in_other ?_ ?_); decide) | (with_reducible refine then_ret ?_) | (with_reducible refine in_ret ?_) | go_values | go_skip | go_guarded | go_step | go_upon | go_back)
  go_ret
  exact ⟨rfl, h2⟩
set_option maxRecDepth 100000 in
set_option maxHeartbeats 1000000 in
theorem adr_l (op rd rs1 rs2 im a : Int) (aq rl : Bool) (HA : Hid (∀ w, Calls Tryz.prog 47 #[.int .i64 op] w fun e w' => e = .returned (.bool false) ∧ w = w'))
    (HL : Hid (∀ w, Calls Tryz.prog 56 #[.int .i64 op] w fun e w' => e = .returned (.bool true) ∧ w = w')) (HS : Hid (∀ w, Calls Tryz.prog 22 #[.int .i64 op] w fun e w' => e = .returned (.bool (StoreB op)) ∧ w = w')) (w : World) :
    Calls Tryz.prog 58 #[.agg #[.int .i64 op, .int .i64 rd, .int .i64 rs1, .int .i64 rs2, .int .i64 im, .bool aq, .bool rl], .int .u64 a] w fun e w' => e = .returned (.int .u64 (IntKind.u64.wrap (a + IntKind.u64.wrap im))) ∧ Nb w w' := by
  go_enter Tryz.func58, Tryz.ntmps58
  repeat (first | (with_reducible refine then_exit ?_) | (with_reducible refine in_same ?_) | ((with_reducible refine in_other ?_ ?_); decide) | (with_reducible refine then_ret ?_) | (with_reducible refine in_ret ?_) | go_values | go_skip | go_guarded | go_step | go_upon | go_back)
  obtain ⟨W1, hW⟩ : ∃ W1, w.alloc (.cells #[.int .i64 op, .int .i64 rd, .int .i64 rs1, .int .i64 rs2, .int .i64 im, .bool aq, .bool rl] 56) = W1 := ⟨_, rfl⟩
  have hb := blk_made w _ hW rfl
  have h2 : Nb w W1 := by rw [← hW]; exact (Nb.refl _).alloc _
  rw [hW]
  clear hW
  obtain ⟨n1, c0, c1, c2, c3, c4, c5, c6⟩ := cells7 hb
  clear hb
  refine (HA.out _).mono ?_
  rintro e w' ⟨rfl, rfl⟩
  simp only []
  repeat (first | (with_reducible refine then_exit ?_) | (with_reducible refine in_same ?_) | ((with_reducible refine in_other ?_ ?_); decide) | (with_reducible refine then_ret ?_) | (with_reducible refine in_ret ?_) | go_values | go_skip | go_guarded | go_step | go_upon | go_back)
  refine (HL.out _).mono ?_
  rintro e w' ⟨rfl, rfl⟩
  simp only []
  repeat (first | (with_reducible refine then_exit ?_) | (with_reducible refine in_same ?_) | ((with_reducible refine in_other ?_ ?_); decide) | (with_reducible refine then_ret ?_) | (with_reducible refine in_ret ?_) | go_values | go_skip | go_guarded | go_step | go_upon | go_back)
  go_ret
  exact ⟨rfl, h2⟩
set_option maxRecDepth 100000 in
set_option maxHeartbeats 1000000 in
theorem adr_s (op rd rs1 rs2 im a : Int) (aq rl : Bool) (HA : Hid (∀ w, Calls Tryz.prog 47 #[.int .i64 op] w fun e w' => e = .returned (.bool false) ∧ w = w'))
    (HL : Hid (∀ w, Calls Tryz.prog 56 #[.int .i64 op] w fun e w' => e = .returned (.bool false) ∧ w = w')) (HS : Hid (∀ w, Calls Tryz.prog 22 #[.int .i64 op] w fun e w' => e = .returned (.bool true) ∧ w = w')) (w : World) :
    Calls Tryz.prog 58 #[.agg #[.int .i64 op, .int .i64 rd, .int .i64 rs1, .int .i64 rs2, .int .i64 im, .bool aq, .bool rl], .int .u64 a] w fun e w' => e = .returned (.int .u64 (IntKind.u64.wrap (a + IntKind.u64.wrap im))) ∧ Nb w w' := by
  go_enter Tryz.func58, Tryz.ntmps58
  repeat (first | (with_reducible refine then_exit ?_) | (with_reducible refine in_same ?_) | ((with_reducible refine in_other ?_ ?_); decide) | (with_reducible refine then_ret ?_) | (with_reducible refine in_ret ?_) | go_values | go_skip | go_guarded | go_step | go_upon | go_back)
  obtain ⟨W1, hW⟩ : ∃ W1, w.alloc (.cells #[.int .i64 op, .int .i64 rd, .int .i64 rs1, .int .i64 rs2, .int .i64 im, .bool aq, .bool rl] 56) = W1 := ⟨_, rfl⟩
  have hb := blk_made w _ hW rfl
  have h2 : Nb w W1 := by rw [← hW]; exact (Nb.refl _).alloc _
  rw [hW]
  clear hW
  obtain ⟨n1, c0, c1, c2, c3, c4, c5, c6⟩ := cells7 hb
  clear hb
  refine (HA.out _).mono ?_
  rintro e w' ⟨rfl, rfl⟩
  simp only []
  repeat (first | (with_reducible refine then_exit ?_) | (with_reducible refine in_same ?_) | ((with_reducible refine in_other ?_ ?_); decide) | (with_reducible refine then_ret ?_) | (with_reducible refine in_ret ?_) | go_values | go_skip | go_guarded | go_step | go_upon | go_back)
  refine (HL.out _).mono ?_
  rintro e w' ⟨rfl, rfl⟩
  simp only []
  repeat (first | (with_reducible refine then_exit ?_) | (with_reducible refine in_same ?_) | ((with_reducible refine in_other ?_ ?_); decide) | (with_reducible refine then_ret ?_) | (with_reducible refine in_ret ?_) | go_values | go_skip | go_guarded | go_step | go_upon | go_back)
  refine (HS.out _).mono ?_
  rintro e w' ⟨rfl, rfl⟩
  simp only []
  repeat (first | (with_reducible refine then_exit ?_) | (with_reducible refine in_same ?_) | ((with_reducible refine in_other ?_ ?_); decide) | (with_reducible refine then_ret ?_) | (with_reducible refine in_ret ?_) | go_values | go_skip | go_guarded | go_step | go_upon | go_back)
  go_ret
  exact ⟨rfl, h2⟩
set_option maxRecDepth 100000 in
set_option maxHeartbeats 1000000 in
theorem adr_n (op rd rs1 rs2 im a : Int) (aq rl : Bool) (HA : Hid (∀ w, Calls Tryz.prog 47 #[.int .i64 op] w fun e w' => e = .returned (.bool false) ∧ w = w'))
    (HL : Hid (∀ w, Calls Tryz.prog 56 #[.int .i64 op] w fun e w' => e = .returned (.bool false) ∧ w = w')) (HS : Hid (∀ w, Calls Tryz.prog 22 #[.int .i64 op] w fun e w' => e = .returned (.bool false) ∧ w = w')) (w : World) :
    Calls Tryz.prog 58 #[.agg #[.int .i64 op, .int .i64 rd, .int .i64 rs1, .int .i64 rs2, .int .i64 im, .bool aq, .bool rl], .int .u64 a] w fun e w' => e = .returned (.int .u64 (0)) ∧ Nb w w' := by
  go_enter Tryz.func58, Tryz.ntmps58
  repeat (first | (with_reducible refine then_exit ?_) | (with_reducible refine in_same ?_) | ((with_reducible refine in_other ?_ ?_); decide) | (with_reducible refine then_ret ?_) | (with_reducible refine in_ret ?_) | go_values | go_skip | go_guarded | go_step | go_upon | go_back)
  obtain ⟨W1, hW⟩ : ∃ W1, w.alloc (.cells #[.int .i64 op, .int .i64 rd, .int .i64 rs1, .int .i64 rs2, .int .i64 im, .bool aq, .bool rl] 56) = W1 := ⟨_, rfl⟩
  have hb := blk_made w _ hW rfl
  have h2 : Nb w W1 := by rw [← hW]; exact (Nb.refl _).alloc _
  rw [hW]
  clear hW
  obtain ⟨n1, c0, c1, c2, c3, c4, c5, c6⟩ := cells7 hb
  clear hb
  refine (HA.out _).mono ?_
  rintro e w' ⟨rfl, rfl⟩
  simp only []
  repeat (first | (with_reducible refine then_exit ?_) | (with_reducible refine in_same ?_) | ((with_reducible refine in_other ?_ ?_); decide) | (with_reducible refine then_ret ?_) | (with_reducible refine in_ret ?_) | go_values | go_skip | go_guarded | go_step | go_upon | go_back)
  refine (HL.out _).mono ?_
  rintro e w' ⟨rfl, rfl⟩
  simp only []
  repeat (first | (with_reducible refine then_exit ?_) | (with_reducible refine in_same ?_) | ((with_reducible refine in_other ?_ ?_); decide) | (with_reducible refine then_ret ?_) | (with_reducible refine in_ret ?_) | go_values | go_skip | go_guarded | go_step | go_upon | go_back)
  refine (HS.out _).mono ?_
  rintro e w' ⟨rfl, rfl⟩
  simp only []
  repeat (first | (with_reducible refine then_exit ?_) | (with_reducible refine in_same ?_) | ((with_reducible refine in_other ?_ ?_); decide) | (with_reducible refine then_ret ?_) | (with_reducible refine in_ret ?_) | go_values | go_skip | go_guarded | go_step | go_upon | go_back)
  go_ret
  exact ⟨rfl, h2⟩
theorem adr_any (op rd rs1 rs2 im a : Int) (aq rl : Bool) (w : World) :
    Calls Tryz.prog 58 #[.agg #[.int .i64 op, .int .i64 rd, .int .i64 rs1, .int .i64 rs2, .int .i64 im, .bool aq, .bool rl], .int .u64 a] w fun e w' => e = .returned (.int .u64 (AdB op im a)) ∧ Nb w w' := by
  have HA := fun w => atom_any op w
  have HL := fun w => loads_any op w
  have HS := fun w => stores_any op w
  unfold AdB
  cases ha : AtomB op <;> rw [ha] at HA
  · cases hl : LoadB op <;> rw [hl] at HL
    · cases hs : StoreB op <;> rw [hs] at HS
      · exact adr_n op rd rs1 rs2 im a aq rl (Lib.hid HA) (Lib.hid HL) (Lib.hid HS) w
      · exact adr_s op rd rs1 rs2 im a aq rl (Lib.hid HA) (Lib.hid HL) (Lib.hid HS) w
    · exact adr_l op rd rs1 rs2 im a aq rl (Lib.hid HA) (Lib.hid HL) (Lib.hid HS) w
  · exact adr_a op rd rs1 rs2 im a aq rl (Lib.hid HA) (Lib.hid HL) (Lib.hid HS) w
end Go.Proofs.YtmggichckhoomaaGreatDoor
