/-
  Proved here: what the reference's Value gives, operation by operation, a part. Conditions: the numbers are words.
-/
import Derived.Test.YtnifoghebnjonaaDoorBx2
import Derived.Test.YtnifoghebnjonaaDoorBx3
namespace Go.Proofs.YtnifoghebnjonaaDoor
open Go.RowKit
set_option linter.unusedVariables false
set_option maxRecDepth 100000 in
set_option maxHeartbeats 1000000 in
theorem rval_22 (rd rs1 rs2 im pc a b : Int) (aq rl : Bool) (qa : InU a) (qb : InU b) (qi : InU (IntKind.u64.wrap im))
    (HG : Hid (∀ w, Calls Tryd.prog 25 #[.agg #[.int .i64 22, .int .i64 rd, .int .i64 rs1, .int .i64 rs2, .int .i64 im, .bool aq, .bool rl]] w fun e w' => e = .returned (.bool true) ∧ Nb w w')) (w : World) :
    Calls Tryd.prog 27 #[.agg #[.int .i64 22, .int .i64 rd, .int .i64 rs1, .int .i64 rs2, .int .i64 im, .bool aq, .bool rl], .int .u64 pc, .int .u64 a, .int .u64 b] w fun e w' => e = .returned (.tuple #[.int .u64 (IntKind.u64.wrap (a + (IntKind.u64.wrap im))), .int .i64 0]) ∧ Nb w w' := by
  have HR := Lib.hid (row_any 22)
  rw [show refRow 22 = (3, 19, 0, 0) from rfl] at HR
  have hix : ∀ (x y z u : Int) (w : World), (Instr.index 66 (.agg #[.int .i64 x, .int .i64 y, .int .i64 z, .int .i64 u]) (.int .i64 0)).run Tryd.prog w = .ok (.int .i64 x) w := fun _ _ _ _ _ => by kernel_rfl
  go_enter Tryd.func27, Tryd.ntmps27
  repeat (first | (with_reducible refine then_exit ?_) | (with_reducible refine in_same ?_) | ((with_reducible refine in_other ?_ ?_); decide) | (with_reducible refine then_ret ?_) | (with_reducible refine in_ret ?_) | go_values | go_skip | go_guarded | go_step | go_upon | go_back)
  obtain ⟨W1, hW⟩ : ∃ W1, w.alloc (.cells #[.int .i64 22, .int .i64 rd, .int .i64 rs1, .int .i64 rs2, .int .i64 im, .bool aq, .bool rl] 23) = W1 := ⟨_, rfl⟩
  have hb := blk_made w _ hW rfl
  have h2 : Nb w W1 := by rw [← hW]; exact (Nb.refl _).alloc _
  rw [hW]
  clear hW
  refine (HG.out _).mono ?_
  rintro e w1 ⟨rfl, hn⟩
  have hb1 := Nb.block hn hb
  have HB1 := Lib.hid hb1
  obtain ⟨n1, c0, c1, c2, c3, c4, c5, c6⟩ := cells7 hb1
  clear hb hb1
  simp only []
  repeat (first | (with_reducible refine then_exit ?_) | (with_reducible refine in_same ?_) | ((with_reducible refine in_other ?_ ?_); decide) | (with_reducible refine then_ret ?_) | (with_reducible refine in_ret ?_) | go_values | go_skip | go_guarded | go_step | go_upon | go_back)
  refine (HR.out _).mono ?_
  rintro e w2 ⟨rfl, hr⟩
  clear n1 c0 c1 c2 c3 c4 c5 c6
  obtain ⟨n1, c0, c1, c2, c3, c4, c5, c6⟩ := cells7 (Nb.block (Nw.b hr) HB1.out)
  have h3 : Nb w w2 := (h2.trans hn).trans (Nw.b hr)
  clear hr hn h2 HB1
  simp only []
  repeat (first | (with_reducible refine then_exit ?_) | (with_reducible refine in_same ?_) | ((with_reducible refine in_other ?_ ?_); decide) | (with_reducible refine then_ret ?_) | (with_reducible refine in_ret ?_) | go_values | go_skip | go_guarded | go_step | go_upon | go_back)
  refine (plain_22 _ _ qa qi _).mono ?_
  rintro e w' ⟨rfl, rfl⟩
  simp only []
  repeat (first | (with_reducible refine then_exit ?_) | (with_reducible refine in_same ?_) | ((with_reducible refine in_other ?_ ?_); decide) | (with_reducible refine then_ret ?_) | (with_reducible refine in_ret ?_) | go_values | go_skip | go_guarded | go_step | go_upon | go_back)
  go_ret2
  exact ⟨rfl, h3⟩
set_option maxRecDepth 100000 in
set_option maxHeartbeats 1000000 in
theorem rval_42 (rd rs1 rs2 im pc a b : Int) (aq rl : Bool) (qa : InU a) (qb : InU b) (qi : InU (IntKind.u64.wrap im))
    (HG : Hid (∀ w, Calls Tryd.prog 25 #[.agg #[.int .i64 42, .int .i64 rd, .int .i64 rs1, .int .i64 rs2, .int .i64 im, .bool aq, .bool rl]] w fun e w' => e = .returned (.bool true) ∧ Nb w w')) (w : World) :
    Calls Tryd.prog 27 #[.agg #[.int .i64 42, .int .i64 rd, .int .i64 rs1, .int .i64 rs2, .int .i64 im, .bool aq, .bool rl], .int .u64 pc, .int .u64 a, .int .u64 b] w fun e w' => e = .returned (.tuple #[.int .u64 (Sgn (IntKind.u64.wrap ((Fld a 0 32) * 2 ^ ((Fld (IntKind.u64.wrap im) 0 32) % 32).toNat)) 32), .int .i64 0]) ∧ Nb w w' := by
  have HR := Lib.hid (row_any 42)
  rw [show refRow 42 = (7, 27, 1, 0) from rfl] at HR
  have hix : ∀ (x y z u : Int) (w : World), (Instr.index 66 (.agg #[.int .i64 x, .int .i64 y, .int .i64 z, .int .i64 u]) (.int .i64 0)).run Tryd.prog w = .ok (.int .i64 x) w := fun _ _ _ _ _ => by kernel_rfl
  go_enter Tryd.func27, Tryd.ntmps27
  repeat (first | (with_reducible refine then_exit ?_) | (with_reducible refine in_same ?_) | ((with_reducible refine in_other ?_ ?_); decide) | (with_reducible refine then_ret ?_) | (with_reducible refine in_ret ?_) | go_values | go_skip | go_guarded | go_step | go_upon | go_back)
  obtain ⟨W1, hW⟩ : ∃ W1, w.alloc (.cells #[.int .i64 42, .int .i64 rd, .int .i64 rs1, .int .i64 rs2, .int .i64 im, .bool aq, .bool rl] 23) = W1 := ⟨_, rfl⟩
  have hb := blk_made w _ hW rfl
  have h2 : Nb w W1 := by rw [← hW]; exact (Nb.refl _).alloc _
  rw [hW]
  clear hW
  refine (HG.out _).mono ?_
  rintro e w1 ⟨rfl, hn⟩
  have hb1 := Nb.block hn hb
  have HB1 := Lib.hid hb1
  obtain ⟨n1, c0, c1, c2, c3, c4, c5, c6⟩ := cells7 hb1
  clear hb hb1
  simp only []
  repeat (first | (with_reducible refine then_exit ?_) | (with_reducible refine in_same ?_) | ((with_reducible refine in_other ?_ ?_); decide) | (with_reducible refine then_ret ?_) | (with_reducible refine in_ret ?_) | go_values | go_skip | go_guarded | go_step | go_upon | go_back)
  refine (HR.out _).mono ?_
  rintro e w2 ⟨rfl, hr⟩
  clear n1 c0 c1 c2 c3 c4 c5 c6
  obtain ⟨n1, c0, c1, c2, c3, c4, c5, c6⟩ := cells7 (Nb.block (Nw.b hr) HB1.out)
  have h3 : Nb w w2 := (h2.trans hn).trans (Nw.b hr)
  clear hr hn h2 HB1
  simp only []
  repeat (first | (with_reducible refine then_exit ?_) | (with_reducible refine in_same ?_) | ((with_reducible refine in_other ?_ ?_); decide) | (with_reducible refine then_ret ?_) | (with_reducible refine in_ret ?_) | go_values | go_skip | go_guarded | go_step | go_upon | go_back)
  refine (plain_none 42 _ _ (by decide) qa qi _).mono ?_
  rintro e w' ⟨rfl, rfl⟩
  simp only []
  repeat (first | (with_reducible refine then_exit ?_) | (with_reducible refine in_same ?_) | ((with_reducible refine in_other ?_ ?_); decide) | (with_reducible refine then_ret ?_) | (with_reducible refine in_ret ?_) | go_values | go_skip | go_guarded | go_step | go_upon | go_back)
  refine (narrow_42 _ _ qa qi _).mono ?_
  rintro e w' ⟨rfl, rfl⟩
  simp only []
  repeat (first | (with_reducible refine then_exit ?_) | (with_reducible refine in_same ?_) | ((with_reducible refine in_other ?_ ?_); decide) | (with_reducible refine then_ret ?_) | (with_reducible refine in_ret ?_) | go_values | go_skip | go_guarded | go_step | go_upon | go_back)
  go_ret2
  exact ⟨rfl, h3⟩
set_option maxRecDepth 100000 in
set_option maxHeartbeats 1000000 in
theorem rval_43 (rd rs1 rs2 im pc a b : Int) (aq rl : Bool) (qa : InU a) (qb : InU b) (qi : InU (IntKind.u64.wrap im))
    (HG : Hid (∀ w, Calls Tryd.prog 25 #[.agg #[.int .i64 43, .int .i64 rd, .int .i64 rs1, .int .i64 rs2, .int .i64 im, .bool aq, .bool rl]] w fun e w' => e = .returned (.bool true) ∧ Nb w w')) (w : World) :
    Calls Tryd.prog 27 #[.agg #[.int .i64 43, .int .i64 rd, .int .i64 rs1, .int .i64 rs2, .int .i64 im, .bool aq, .bool rl], .int .u64 pc, .int .u64 a, .int .u64 b] w fun e w' => e = .returned (.tuple #[.int .u64 (Sgn ((Fld a 0 32) / 2 ^ ((Fld (IntKind.u64.wrap im) 0 32) % 32).toNat) 32), .int .i64 0]) ∧ Nb w w' := by
  have HR := Lib.hid (row_any 43)
  rw [show refRow 43 = (7, 27, 5, 0) from rfl] at HR
  have hix : ∀ (x y z u : Int) (w : World), (Instr.index 66 (.agg #[.int .i64 x, .int .i64 y, .int .i64 z, .int .i64 u]) (.int .i64 0)).run Tryd.prog w = .ok (.int .i64 x) w := fun _ _ _ _ _ => by kernel_rfl
  go_enter Tryd.func27, Tryd.ntmps27
  repeat (first | (with_reducible refine then_exit ?_) | (with_reducible refine in_same ?_) | ((with_reducible refine in_other ?_ ?_); decide) | (with_reducible refine then_ret ?_) | (with_reducible refine in_ret ?_) | go_values | go_skip | go_guarded | go_step | go_upon | go_back)
  obtain ⟨W1, hW⟩ : ∃ W1, w.alloc (.cells #[.int .i64 43, .int .i64 rd, .int .i64 rs1, .int .i64 rs2, .int .i64 im, .bool aq, .bool rl] 23) = W1 := ⟨_, rfl⟩
  have hb := blk_made w _ hW rfl
  have h2 : Nb w W1 := by rw [← hW]; exact (Nb.refl _).alloc _
  rw [hW]
  clear hW
  refine (HG.out _).mono ?_
  rintro e w1 ⟨rfl, hn⟩
  have hb1 := Nb.block hn hb
  have HB1 := Lib.hid hb1
  obtain ⟨n1, c0, c1, c2, c3, c4, c5, c6⟩ := cells7 hb1
  clear hb hb1
  simp only []
  repeat (first | (with_reducible refine then_exit ?_) | (with_reducible refine in_same ?_) | ((with_reducible refine in_other ?_ ?_); decide) | (with_reducible refine then_ret ?_) | (with_reducible refine in_ret ?_) | go_values | go_skip | go_guarded | go_step | go_upon | go_back)
  refine (HR.out _).mono ?_
  rintro e w2 ⟨rfl, hr⟩
  clear n1 c0 c1 c2 c3 c4 c5 c6
  obtain ⟨n1, c0, c1, c2, c3, c4, c5, c6⟩ := cells7 (Nb.block (Nw.b hr) HB1.out)
  have h3 : Nb w w2 := (h2.trans hn).trans (Nw.b hr)
  clear hr hn h2 HB1
  simp only []
  repeat (first | (with_reducible refine then_exit ?_) | (with_reducible refine in_same ?_) | ((with_reducible refine in_other ?_ ?_); decide) | (with_reducible refine then_ret ?_) | (with_reducible refine in_ret ?_) | go_values | go_skip | go_guarded | go_step | go_upon | go_back)
  refine (plain_none 43 _ _ (by decide) qa qi _).mono ?_
  rintro e w' ⟨rfl, rfl⟩
  simp only []
  repeat (first | (with_reducible refine then_exit ?_) | (with_reducible refine in_same ?_) | ((with_reducible refine in_other ?_ ?_); decide) | (with_reducible refine then_ret ?_) | (with_reducible refine in_ret ?_) | go_values | go_skip | go_guarded | go_step | go_upon | go_back)
  refine (narrow_43 _ _ qa qi _).mono ?_
  rintro e w' ⟨rfl, rfl⟩
  simp only []
  repeat (first | (with_reducible refine then_exit ?_) | (with_reducible refine in_same ?_) | ((with_reducible refine in_other ?_ ?_); decide) | (with_reducible refine then_ret ?_) | (with_reducible refine in_ret ?_) | go_values | go_skip | go_guarded | go_step | go_upon | go_back)
  go_ret2
  exact ⟨rfl, h3⟩
set_option maxRecDepth 100000 in
set_option maxHeartbeats 1000000 in
theorem rval_44 (rd rs1 rs2 im pc a b : Int) (aq rl : Bool) (qa : InU a) (qb : InU b) (qi : InU (IntKind.u64.wrap im))
    (HG : Hid (∀ w, Calls Tryd.prog 25 #[.agg #[.int .i64 44, .int .i64 rd, .int .i64 rs1, .int .i64 rs2, .int .i64 im, .bool aq, .bool rl]] w fun e w' => e = .returned (.bool true) ∧ Nb w w')) (w : World) :
    Calls Tryd.prog 27 #[.agg #[.int .i64 44, .int .i64 rd, .int .i64 rs1, .int .i64 rs2, .int .i64 im, .bool aq, .bool rl], .int .u64 pc, .int .u64 a, .int .u64 b] w fun e w' => e = .returned (.tuple #[.int .u64 (Sgn (Sar (Sgn a 32) (Sgn (IntKind.u64.wrap im) 32) 32) 32), .int .i64 0]) ∧ Nb w w' := by
  have HR := Lib.hid (row_any 44)
  rw [show refRow 44 = (7, 27, 5, 32) from rfl] at HR
  have hix : ∀ (x y z u : Int) (w : World), (Instr.index 66 (.agg #[.int .i64 x, .int .i64 y, .int .i64 z, .int .i64 u]) (.int .i64 0)).run Tryd.prog w = .ok (.int .i64 x) w := fun _ _ _ _ _ => by kernel_rfl
  go_enter Tryd.func27, Tryd.ntmps27
  repeat (first | (with_reducible refine then_exit ?_) | (with_reducible refine in_same ?_) | ((with_reducible refine in_other ?_ ?_); decide) | (with_reducible refine then_ret ?_) | (with_reducible refine in_ret ?_) | go_values | go_skip | go_guarded | go_step | go_upon | go_back)
  obtain ⟨W1, hW⟩ : ∃ W1, w.alloc (.cells #[.int .i64 44, .int .i64 rd, .int .i64 rs1, .int .i64 rs2, .int .i64 im, .bool aq, .bool rl] 23) = W1 := ⟨_, rfl⟩
  have hb := blk_made w _ hW rfl
  have h2 : Nb w W1 := by rw [← hW]; exact (Nb.refl _).alloc _
  rw [hW]
  clear hW
  refine (HG.out _).mono ?_
  rintro e w1 ⟨rfl, hn⟩
  have hb1 := Nb.block hn hb
  have HB1 := Lib.hid hb1
  obtain ⟨n1, c0, c1, c2, c3, c4, c5, c6⟩ := cells7 hb1
  clear hb hb1
  simp only []
  repeat (first | (with_reducible refine then_exit ?_) | (with_reducible refine in_same ?_) | ((with_reducible refine in_other ?_ ?_); decide) | (with_reducible refine then_ret ?_) | (with_reducible refine in_ret ?_) | go_values | go_skip | go_guarded | go_step | go_upon | go_back)
  refine (HR.out _).mono ?_
  rintro e w2 ⟨rfl, hr⟩
  clear n1 c0 c1 c2 c3 c4 c5 c6
  obtain ⟨n1, c0, c1, c2, c3, c4, c5, c6⟩ := cells7 (Nb.block (Nw.b hr) HB1.out)
  have h3 : Nb w w2 := (h2.trans hn).trans (Nw.b hr)
  clear hr hn h2 HB1
  simp only []
  repeat (first | (with_reducible refine then_exit ?_) | (with_reducible refine in_same ?_) | ((with_reducible refine in_other ?_ ?_); decide) | (with_reducible refine then_ret ?_) | (with_reducible refine in_ret ?_) | go_values | go_skip | go_guarded | go_step | go_upon | go_back)
  refine (plain_none 44 _ _ (by decide) qa qi _).mono ?_
  rintro e w' ⟨rfl, rfl⟩
  simp only []
  repeat (first | (with_reducible refine then_exit ?_) | (with_reducible refine in_same ?_) | ((with_reducible refine in_other ?_ ?_); decide) | (with_reducible refine then_ret ?_) | (with_reducible refine in_ret ?_) | go_values | go_skip | go_guarded | go_step | go_upon | go_back)
  refine (narrow_44 _ _ qa qi _).mono ?_
  rintro e w' ⟨rfl, rfl⟩
  simp only []
  repeat (first | (with_reducible refine then_exit ?_) | (with_reducible refine in_same ?_) | ((with_reducible refine in_other ?_ ?_); decide) | (with_reducible refine then_ret ?_) | (with_reducible refine in_ret ?_) | go_values | go_skip | go_guarded | go_step | go_upon | go_back)
  go_ret2
  exact ⟨rfl, h3⟩
set_option maxRecDepth 100000 in
set_option maxHeartbeats 1000000 in
theorem rval_23 (rd rs1 rs2 im pc a b : Int) (aq rl : Bool) (qa : InU a) (qb : InU b) (qi : InU (IntKind.u64.wrap im))
    (HG : Hid (∀ w, Calls Tryd.prog 25 #[.agg #[.int .i64 23, .int .i64 rd, .int .i64 rs1, .int .i64 rs2, .int .i64 im, .bool aq, .bool rl]] w fun e w' => e = .returned (.bool true) ∧ Nb w w')) (w : World) :
    Calls Tryd.prog 27 #[.agg #[.int .i64 23, .int .i64 rd, .int .i64 rs1, .int .i64 rs2, .int .i64 im, .bool aq, .bool rl], .int .u64 pc, .int .u64 a, .int .u64 b] w fun e w' => e = .returned (.tuple #[.int .u64 (BitI (LtS a (IntKind.u64.wrap im))), .int .i64 0]) ∧ Nb w w' := by
  have HR := Lib.hid (row_any 23)
  rw [show refRow 23 = (3, 19, 2, 0) from rfl] at HR
  have hix : ∀ (x y z u : Int) (w : World), (Instr.index 66 (.agg #[.int .i64 x, .int .i64 y, .int .i64 z, .int .i64 u]) (.int .i64 0)).run Tryd.prog w = .ok (.int .i64 x) w := fun _ _ _ _ _ => by kernel_rfl
  go_enter Tryd.func27, Tryd.ntmps27
  repeat (first | (with_reducible refine then_exit ?_) | (with_reducible refine in_same ?_) | ((with_reducible refine in_other ?_ ?_); decide) | (with_reducible refine then_ret ?_) | (with_reducible refine in_ret ?_) | go_values | go_skip | go_guarded | go_step | go_upon | go_back)
  obtain ⟨W1, hW⟩ : ∃ W1, w.alloc (.cells #[.int .i64 23, .int .i64 rd, .int .i64 rs1, .int .i64 rs2, .int .i64 im, .bool aq, .bool rl] 23) = W1 := ⟨_, rfl⟩
  have hb := blk_made w _ hW rfl
  have h2 : Nb w W1 := by rw [← hW]; exact (Nb.refl _).alloc _
  rw [hW]
  clear hW
  refine (HG.out _).mono ?_
  rintro e w1 ⟨rfl, hn⟩
  have hb1 := Nb.block hn hb
  have HB1 := Lib.hid hb1
  obtain ⟨n1, c0, c1, c2, c3, c4, c5, c6⟩ := cells7 hb1
  clear hb hb1
  simp only []
  repeat (first | (with_reducible refine then_exit ?_) | (with_reducible refine in_same ?_) | ((with_reducible refine in_other ?_ ?_); decide) | (with_reducible refine then_ret ?_) | (with_reducible refine in_ret ?_) | go_values | go_skip | go_guarded | go_step | go_upon | go_back)
  refine (HR.out _).mono ?_
  rintro e w2 ⟨rfl, hr⟩
  clear n1 c0 c1 c2 c3 c4 c5 c6
  obtain ⟨n1, c0, c1, c2, c3, c4, c5, c6⟩ := cells7 (Nb.block (Nw.b hr) HB1.out)
  have h3 : Nb w w2 := (h2.trans hn).trans (Nw.b hr)
  clear hr hn h2 HB1
  simp only []
  repeat (first | (with_reducible refine then_exit ?_) | (with_reducible refine in_same ?_) | ((with_reducible refine in_other ?_ ?_); decide) | (with_reducible refine then_ret ?_) | (with_reducible refine in_ret ?_) | go_values | go_skip | go_guarded | go_step | go_upon | go_back)
  refine (plain_23 _ _ qa qi _).mono ?_
  rintro e w' ⟨rfl, rfl⟩
  simp only []
  repeat (first | (with_reducible refine then_exit ?_) | (with_reducible refine in_same ?_) | ((with_reducible refine in_other ?_ ?_); decide) | (with_reducible refine then_ret ?_) | (with_reducible refine in_ret ?_) | go_values | go_skip | go_guarded | go_step | go_upon | go_back)
  go_ret2
  exact ⟨rfl, h3⟩
set_option maxRecDepth 100000 in
set_option maxHeartbeats 1000000 in
theorem rval_25 (rd rs1 rs2 im pc a b : Int) (aq rl : Bool) (qa : InU a) (qb : InU b) (qi : InU (IntKind.u64.wrap im))
    (HG : Hid (∀ w, Calls Tryd.prog 25 #[.agg #[.int .i64 25, .int .i64 rd, .int .i64 rs1, .int .i64 rs2, .int .i64 im, .bool aq, .bool rl]] w fun e w' => e = .returned (.bool true) ∧ Nb w w')) (w : World) :
    Calls Tryd.prog 27 #[.agg #[.int .i64 25, .int .i64 rd, .int .i64 rs1, .int .i64 rs2, .int .i64 im, .bool aq, .bool rl], .int .u64 pc, .int .u64 a, .int .u64 b] w fun e w' => e = .returned (.tuple #[.int .u64 (bits .xor .u64 a (IntKind.u64.wrap im)), .int .i64 0]) ∧ Nb w w' := by
  have HR := Lib.hid (row_any 25)
  rw [show refRow 25 = (3, 19, 4, 0) from rfl] at HR
  have hix : ∀ (x y z u : Int) (w : World), (Instr.index 66 (.agg #[.int .i64 x, .int .i64 y, .int .i64 z, .int .i64 u]) (.int .i64 0)).run Tryd.prog w = .ok (.int .i64 x) w := fun _ _ _ _ _ => by kernel_rfl
  go_enter Tryd.func27, Tryd.ntmps27
  repeat (first | (with_reducible refine then_exit ?_) | (with_reducible refine in_same ?_) | ((with_reducible refine in_other ?_ ?_); decide) | (with_reducible refine then_ret ?_) | (with_reducible refine in_ret ?_) | go_values | go_skip | go_guarded | go_step | go_upon | go_back)
  obtain ⟨W1, hW⟩ : ∃ W1, w.alloc (.cells #[.int .i64 25, .int .i64 rd, .int .i64 rs1, .int .i64 rs2, .int .i64 im, .bool aq, .bool rl] 23) = W1 := ⟨_, rfl⟩
  have hb := blk_made w _ hW rfl
  have h2 : Nb w W1 := by rw [← hW]; exact (Nb.refl _).alloc _
  rw [hW]
  clear hW
  refine (HG.out _).mono ?_
  rintro e w1 ⟨rfl, hn⟩
  have hb1 := Nb.block hn hb
  have HB1 := Lib.hid hb1
  obtain ⟨n1, c0, c1, c2, c3, c4, c5, c6⟩ := cells7 hb1
  clear hb hb1
  simp only []
  repeat (first | (with_reducible refine then_exit ?_) | (with_reducible refine in_same ?_) | ((with_reducible refine in_other ?_ ?_); decide) | (with_reducible refine then_ret ?_) | (with_reducible refine in_ret ?_) | go_values | go_skip | go_guarded | go_step | go_upon | go_back)
  refine (HR.out _).mono ?_
  rintro e w2 ⟨rfl, hr⟩
  clear n1 c0 c1 c2 c3 c4 c5 c6
  obtain ⟨n1, c0, c1, c2, c3, c4, c5, c6⟩ := cells7 (Nb.block (Nw.b hr) HB1.out)
  have h3 : Nb w w2 := (h2.trans hn).trans (Nw.b hr)
  clear hr hn h2 HB1
  simp only []
  repeat (first | (with_reducible refine then_exit ?_) | (with_reducible refine in_same ?_) | ((with_reducible refine in_other ?_ ?_); decide) | (with_reducible refine then_ret ?_) | (with_reducible refine in_ret ?_) | go_values | go_skip | go_guarded | go_step | go_upon | go_back)
  refine (plain_25 _ _ qa qi _).mono ?_
  rintro e w' ⟨rfl, rfl⟩
  simp only []
  repeat (first | (with_reducible refine then_exit ?_) | (with_reducible refine in_same ?_) | ((with_reducible refine in_other ?_ ?_); decide) | (with_reducible refine then_ret ?_) | (with_reducible refine in_ret ?_) | go_values | go_skip | go_guarded | go_step | go_upon | go_back)
  go_ret2
  exact ⟨rfl, h3⟩
set_option maxRecDepth 100000 in
set_option maxHeartbeats 1000000 in
theorem rval_27 (rd rs1 rs2 im pc a b : Int) (aq rl : Bool) (qa : InU a) (qb : InU b) (qi : InU (IntKind.u64.wrap im))
    (HG : Hid (∀ w, Calls Tryd.prog 25 #[.agg #[.int .i64 27, .int .i64 rd, .int .i64 rs1, .int .i64 rs2, .int .i64 im, .bool aq, .bool rl]] w fun e w' => e = .returned (.bool true) ∧ Nb w w')) (w : World) :
    Calls Tryd.prog 27 #[.agg #[.int .i64 27, .int .i64 rd, .int .i64 rs1, .int .i64 rs2, .int .i64 im, .bool aq, .bool rl], .int .u64 pc, .int .u64 a, .int .u64 b] w fun e w' => e = .returned (.tuple #[.int .u64 (bits .and .u64 a (IntKind.u64.wrap im)), .int .i64 0]) ∧ Nb w w' := by
  have HR := Lib.hid (row_any 27)
  rw [show refRow 27 = (3, 19, 7, 0) from rfl] at HR
  have hix : ∀ (x y z u : Int) (w : World), (Instr.index 66 (.agg #[.int .i64 x, .int .i64 y, .int .i64 z, .int .i64 u]) (.int .i64 0)).run Tryd.prog w = .ok (.int .i64 x) w := fun _ _ _ _ _ => by kernel_rfl
  go_enter Tryd.func27, Tryd.ntmps27
  repeat (first | (with_reducible refine then_exit ?_) | (with_reducible refine in_same ?_) | ((with_reducible refine in_other ?_ ?_); decide) | (with_reducible refine then_ret ?_) | (with_reducible refine in_ret ?_) | go_values | go_skip | go_guarded | go_step | go_upon | go_back)
  obtain ⟨W1, hW⟩ : ∃ W1, w.alloc (.cells #[.int .i64 27, .int .i64 rd, .int .i64 rs1, .int .i64 rs2, .int .i64 im, .bool aq, .bool rl] 23) = W1 := ⟨_, rfl⟩
  have hb := blk_made w _ hW rfl
  have h2 : Nb w W1 := by rw [← hW]; exact (Nb.refl _).alloc _
  rw [hW]
  clear hW
  refine (HG.out _).mono ?_
  rintro e w1 ⟨rfl, hn⟩
  have hb1 := Nb.block hn hb
  have HB1 := Lib.hid hb1
  obtain ⟨n1, c0, c1, c2, c3, c4, c5, c6⟩ := cells7 hb1
  clear hb hb1
  simp only []
  repeat (first | (with_reducible refine then_exit ?_) | (with_reducible refine in_same ?_) | ((with_reducible refine in_other ?_ ?_); decide) | (with_reducible refine then_ret ?_) | (with_reducible refine in_ret ?_) | go_values | go_skip | go_guarded | go_step | go_upon | go_back)
  refine (HR.out _).mono ?_
  rintro e w2 ⟨rfl, hr⟩
  clear n1 c0 c1 c2 c3 c4 c5 c6
  obtain ⟨n1, c0, c1, c2, c3, c4, c5, c6⟩ := cells7 (Nb.block (Nw.b hr) HB1.out)
  have h3 : Nb w w2 := (h2.trans hn).trans (Nw.b hr)
  clear hr hn h2 HB1
  simp only []
  repeat (first | (with_reducible refine then_exit ?_) | (with_reducible refine in_same ?_) | ((with_reducible refine in_other ?_ ?_); decide) | (with_reducible refine then_ret ?_) | (with_reducible refine in_ret ?_) | go_values | go_skip | go_guarded | go_step | go_upon | go_back)
  refine (plain_27 _ _ qa qi _).mono ?_
  rintro e w' ⟨rfl, rfl⟩
  simp only []
  repeat (first | (with_reducible refine then_exit ?_) | (with_reducible refine in_same ?_) | ((with_reducible refine in_other ?_ ?_); decide) | (with_reducible refine then_ret ?_) | (with_reducible refine in_ret ?_) | go_values | go_skip | go_guarded | go_step | go_upon | go_back)
  go_ret2
  exact ⟨rfl, h3⟩
set_option maxRecDepth 100000 in
set_option maxHeartbeats 1000000 in
theorem rval_55 (rd rs1 rs2 im pc a b : Int) (aq rl : Bool) (qa : InU a) (qb : InU b) (qi : InU (IntKind.u64.wrap im))
    (HG : Hid (∀ w, Calls Tryd.prog 25 #[.agg #[.int .i64 55, .int .i64 rd, .int .i64 rs1, .int .i64 rs2, .int .i64 im, .bool aq, .bool rl]] w fun e w' => e = .returned (.bool true) ∧ Nb w w')) (w : World) :
    Calls Tryd.prog 27 #[.agg #[.int .i64 55, .int .i64 rd, .int .i64 rs1, .int .i64 rs2, .int .i64 im, .bool aq, .bool rl], .int .u64 pc, .int .u64 a, .int .u64 b] w fun e w' => e = .returned (.tuple #[.int .u64 (Hgh a b true false), .int .i64 0]) ∧ Nb w w' := by
  have HR := Lib.hid (row_any 55)
  rw [show refRow 55 = (8, 51, 2, 1) from rfl] at HR
  have hix : ∀ (x y z u : Int) (w : World), (Instr.index 66 (.agg #[.int .i64 x, .int .i64 y, .int .i64 z, .int .i64 u]) (.int .i64 0)).run Tryd.prog w = .ok (.int .i64 x) w := fun _ _ _ _ _ => by kernel_rfl
  go_enter Tryd.func27, Tryd.ntmps27
  repeat (first | (with_reducible refine then_exit ?_) | (with_reducible refine in_same ?_) | ((with_reducible refine in_other ?_ ?_); decide) | (with_reducible refine then_ret ?_) | (with_reducible refine in_ret ?_) | go_values | go_skip | go_guarded | go_step | go_upon | go_back)
  obtain ⟨W1, hW⟩ : ∃ W1, w.alloc (.cells #[.int .i64 55, .int .i64 rd, .int .i64 rs1, .int .i64 rs2, .int .i64 im, .bool aq, .bool rl] 23) = W1 := ⟨_, rfl⟩
  have hb := blk_made w _ hW rfl
  have h2 : Nb w W1 := by rw [← hW]; exact (Nb.refl _).alloc _
  rw [hW]
  clear hW
  refine (HG.out _).mono ?_
  rintro e w1 ⟨rfl, hn⟩
  have hb1 := Nb.block hn hb
  have HB1 := Lib.hid hb1
  obtain ⟨n1, c0, c1, c2, c3, c4, c5, c6⟩ := cells7 hb1
  clear hb hb1
  simp only []
  repeat (first | (with_reducible refine then_exit ?_) | (with_reducible refine in_same ?_) | ((with_reducible refine in_other ?_ ?_); decide) | (with_reducible refine then_ret ?_) | (with_reducible refine in_ret ?_) | go_values | go_skip | go_guarded | go_step | go_upon | go_back)
  refine (HR.out _).mono ?_
  rintro e w2 ⟨rfl, hr⟩
  clear n1 c0 c1 c2 c3 c4 c5 c6
  obtain ⟨n1, c0, c1, c2, c3, c4, c5, c6⟩ := cells7 (Nb.block (Nw.b hr) HB1.out)
  have h3 : Nb w w2 := (h2.trans hn).trans (Nw.b hr)
  clear hr hn h2 HB1
  simp only []
  repeat (first | (with_reducible refine then_exit ?_) | (with_reducible refine in_same ?_) | ((with_reducible refine in_other ?_ ?_); decide) | (with_reducible refine then_ret ?_) | (with_reducible refine in_ret ?_) | go_values | go_skip | go_guarded | go_step | go_upon | go_back)
  refine (plain_none 55 _ _ (by decide) qa qb _).mono ?_
  rintro e w' ⟨rfl, rfl⟩
  simp only []
  repeat (first | (with_reducible refine then_exit ?_) | (with_reducible refine in_same ?_) | ((with_reducible refine in_other ?_ ?_); decide) | (with_reducible refine then_ret ?_) | (with_reducible refine in_ret ?_) | go_values | go_skip | go_guarded | go_step | go_upon | go_back)
  refine (narrow_none 55 _ _ (by decide) qa qb _).mono ?_
  rintro e w' ⟨rfl, rfl⟩
  simp only []
  repeat (first | (with_reducible refine then_exit ?_) | (with_reducible refine in_same ?_) | ((with_reducible refine in_other ?_ ?_); decide) | (with_reducible refine then_ret ?_) | (with_reducible refine in_ret ?_) | go_values | go_skip | go_guarded | go_step | go_upon | go_back)
  refine (many_55 _ _ qa qb _).mono ?_
  rintro e w' ⟨rfl, rfl⟩
  simp only []
  repeat (first | (with_reducible refine then_exit ?_) | (with_reducible refine in_same ?_) | ((with_reducible refine in_other ?_ ?_); decide) | (with_reducible refine then_ret ?_) | (with_reducible refine in_ret ?_) | go_values | go_skip | go_guarded | go_step | go_upon | go_back)
  go_ret2
  exact ⟨rfl, h3⟩
set_option maxRecDepth 100000 in
set_option maxHeartbeats 1000000 in
theorem rval_63 (rd rs1 rs2 im pc a b : Int) (aq rl : Bool) (qa : InU a) (qb : InU b) (qi : InU (IntKind.u64.wrap im))
    (HG : Hid (∀ w, Calls Tryd.prog 25 #[.agg #[.int .i64 63, .int .i64 rd, .int .i64 rs1, .int .i64 rs2, .int .i64 im, .bool aq, .bool rl]] w fun e w' => e = .returned (.bool true) ∧ Nb w w')) (w : World) :
    Calls Tryd.prog 27 #[.agg #[.int .i64 63, .int .i64 rd, .int .i64 rs1, .int .i64 rs2, .int .i64 im, .bool aq, .bool rl], .int .u64 pc, .int .u64 a, .int .u64 b] w fun e w' => e = .returned (.tuple #[.int .u64 (Sgn (_root_.Go.Proofs.YtnifoghebnjonaaDoor.Quo (Fld a 0 32) (Fld b 0 32) false) 32), .int .i64 0]) ∧ Nb w w' := by
  have HR := Lib.hid (row_any 63)
  rw [show refRow 63 = (8, 59, 5, 1) from rfl] at HR
  have hix : ∀ (x y z u : Int) (w : World), (Instr.index 66 (.agg #[.int .i64 x, .int .i64 y, .int .i64 z, .int .i64 u]) (.int .i64 0)).run Tryd.prog w = .ok (.int .i64 x) w := fun _ _ _ _ _ => by kernel_rfl
  go_enter Tryd.func27, Tryd.ntmps27
  repeat (first | (with_reducible refine then_exit ?_) | (with_reducible refine in_same ?_) | ((with_reducible refine in_other ?_ ?_); decide) | (with_reducible refine then_ret ?_) | (with_reducible refine in_ret ?_) | go_values | go_skip | go_guarded | go_step | go_upon | go_back)
  obtain ⟨W1, hW⟩ : ∃ W1, w.alloc (.cells #[.int .i64 63, .int .i64 rd, .int .i64 rs1, .int .i64 rs2, .int .i64 im, .bool aq, .bool rl] 23) = W1 := ⟨_, rfl⟩
  have hb := blk_made w _ hW rfl
  have h2 : Nb w W1 := by rw [← hW]; exact (Nb.refl _).alloc _
  rw [hW]
  clear hW
  refine (HG.out _).mono ?_
  rintro e w1 ⟨rfl, hn⟩
  have hb1 := Nb.block hn hb
  have HB1 := Lib.hid hb1
  obtain ⟨n1, c0, c1, c2, c3, c4, c5, c6⟩ := cells7 hb1
  clear hb hb1
  simp only []
  repeat (first | (with_reducible refine then_exit ?_) | (with_reducible refine in_same ?_) | ((with_reducible refine in_other ?_ ?_); decide) | (with_reducible refine then_ret ?_) | (with_reducible refine in_ret ?_) | go_values | go_skip | go_guarded | go_step | go_upon | go_back)
  refine (HR.out _).mono ?_
  rintro e w2 ⟨rfl, hr⟩
  clear n1 c0 c1 c2 c3 c4 c5 c6
  obtain ⟨n1, c0, c1, c2, c3, c4, c5, c6⟩ := cells7 (Nb.block (Nw.b hr) HB1.out)
  have h3 : Nb w w2 := (h2.trans hn).trans (Nw.b hr)
  clear hr hn h2 HB1
  simp only []
  repeat (first | (with_reducible refine then_exit ?_) | (with_reducible refine in_same ?_) | ((with_reducible refine in_other ?_ ?_); decide) | (with_reducible refine then_ret ?_) | (with_reducible refine in_ret ?_) | go_values | go_skip | go_guarded | go_step | go_upon | go_back)
  refine (plain_none 63 _ _ (by decide) qa qb _).mono ?_
  rintro e w' ⟨rfl, rfl⟩
  simp only []
  repeat (first | (with_reducible refine then_exit ?_) | (with_reducible refine in_same ?_) | ((with_reducible refine in_other ?_ ?_); decide) | (with_reducible refine then_ret ?_) | (with_reducible refine in_ret ?_) | go_values | go_skip | go_guarded | go_step | go_upon | go_back)
  refine (narrow_63 _ _ qa qb _).mono ?_
  rintro e w' ⟨rfl, rfl⟩
  simp only []
  repeat (first | (with_reducible refine then_exit ?_) | (with_reducible refine in_same ?_) | ((with_reducible refine in_other ?_ ?_); decide) | (with_reducible refine then_ret ?_) | (with_reducible refine in_ret ?_) | go_values | go_skip | go_guarded | go_step | go_upon | go_back)
  go_ret2
  exact ⟨rfl, h3⟩
set_option maxRecDepth 100000 in
set_option maxHeartbeats 1000000 in
theorem rval_65 (rd rs1 rs2 im pc a b : Int) (aq rl : Bool) (qa : InU a) (qb : InU b) (qi : InU (IntKind.u64.wrap im))
    (HG : Hid (∀ w, Calls Tryd.prog 25 #[.agg #[.int .i64 65, .int .i64 rd, .int .i64 rs1, .int .i64 rs2, .int .i64 im, .bool aq, .bool rl]] w fun e w' => e = .returned (.bool true) ∧ Nb w w')) (w : World) :
    Calls Tryd.prog 27 #[.agg #[.int .i64 65, .int .i64 rd, .int .i64 rs1, .int .i64 rs2, .int .i64 im, .bool aq, .bool rl], .int .u64 pc, .int .u64 a, .int .u64 b] w fun e w' => e = .returned (.tuple #[.int .u64 (Sgn (_root_.Go.Proofs.YtnifoghebnjonaaDoor.Rem (Fld a 0 32) (Fld b 0 32) false) 32), .int .i64 0]) ∧ Nb w w' := by
  have HR := Lib.hid (row_any 65)
  rw [show refRow 65 = (8, 59, 7, 1) from rfl] at HR
  have hix : ∀ (x y z u : Int) (w : World), (Instr.index 66 (.agg #[.int .i64 x, .int .i64 y, .int .i64 z, .int .i64 u]) (.int .i64 0)).run Tryd.prog w = .ok (.int .i64 x) w := fun _ _ _ _ _ => by kernel_rfl
  go_enter Tryd.func27, Tryd.ntmps27
  repeat (first | (with_reducible refine then_exit ?_) | (with_reducible refine in_same ?_) | ((with_reducible refine in_other ?_ ?_); decide) | (with_reducible refine then_ret ?_) | (with_reducible refine in_ret ?_) | go_values | go_skip | go_guarded | go_step | go_upon | go_back)
  obtain ⟨W1, hW⟩ : ∃ W1, w.alloc (.cells #[.int .i64 65, .int .i64 rd, .int .i64 rs1, .int .i64 rs2, .int .i64 im, .bool aq, .bool rl] 23) = W1 := ⟨_, rfl⟩
  have hb := blk_made w _ hW rfl
  have h2 : Nb w W1 := by rw [← hW]; exact (Nb.refl _).alloc _
  rw [hW]
  clear hW
  refine (HG.out _).mono ?_
  rintro e w1 ⟨rfl, hn⟩
  have hb1 := Nb.block hn hb
  have HB1 := Lib.hid hb1
  obtain ⟨n1, c0, c1, c2, c3, c4, c5, c6⟩ := cells7 hb1
  clear hb hb1
  simp only []
  repeat (first | (with_reducible refine then_exit ?_) | (with_reducible refine in_same ?_) | ((with_reducible refine in_other ?_ ?_); decide) | (with_reducible refine then_ret ?_) | (with_reducible refine in_ret ?_) | go_values | go_skip | go_guarded | go_step | go_upon | go_back)
  refine (HR.out _).mono ?_
  rintro e w2 ⟨rfl, hr⟩
  clear n1 c0 c1 c2 c3 c4 c5 c6
  obtain ⟨n1, c0, c1, c2, c3, c4, c5, c6⟩ := cells7 (Nb.block (Nw.b hr) HB1.out)
  have h3 : Nb w w2 := (h2.trans hn).trans (Nw.b hr)
  clear hr hn h2 HB1
  simp only []
  repeat (first | (with_reducible refine then_exit ?_) | (with_reducible refine in_same ?_) | ((with_reducible refine in_other ?_ ?_); decide) | (with_reducible refine then_ret ?_) | (with_reducible refine in_ret ?_) | go_values | go_skip | go_guarded | go_step | go_upon | go_back)
  refine (plain_none 65 _ _ (by decide) qa qb _).mono ?_
  rintro e w' ⟨rfl, rfl⟩
  simp only []
  repeat (first | (with_reducible refine then_exit ?_) | (with_reducible refine in_same ?_) | ((with_reducible refine in_other ?_ ?_); decide) | (with_reducible refine then_ret ?_) | (with_reducible refine in_ret ?_) | go_values | go_skip | go_guarded | go_step | go_upon | go_back)
  refine (narrow_65 _ _ qa qb _).mono ?_
  rintro e w' ⟨rfl, rfl⟩
  simp only []
  repeat (first | (with_reducible refine then_exit ?_) | (with_reducible refine in_same ?_) | ((with_reducible refine in_other ?_ ?_); decide) | (with_reducible refine then_ret ?_) | (with_reducible refine in_ret ?_) | go_values | go_skip | go_guarded | go_step | go_upon | go_back)
  go_ret2
  exact ⟨rfl, h3⟩
end Go.Proofs.YtnifoghebnjonaaDoor
