/-
  Proved here: what alu.Value of the code and of the reference gives: the same. Conditions: the numbers are words; the table of codes holds what its text lays.
-/
import Derived.Test.YtnifoghebnjonaaDoorAv1
import Derived.Test.YtnifoghebnjonaaDoorAv2
import Derived.Test.YtnifoghebnjonaaDoorAv3
import Derived.Test.YtnifoghebnjonaaDoorAv4
import Derived.Test.YtnifoghebnjonaaDoorAw
import Derived.Test.YtnifoghebnjonaaDoorBy1
import Derived.Test.YtnifoghebnjonaaDoorBy2
import Derived.Test.YtnifoghebnjonaaDoorBy3
import Derived.Test.YtnifoghebnjonaaDoorBy4
import Derived.Test.YtnifoghebnjonaaDoorBz
namespace Go.Proofs.YtnifoghebnjonaaDoor
open Go.RowKit
set_option linter.unusedVariables false
theorem has_list (op : Int) (h : HasB op = true) : op = 1 ∨ op = 2 ∨ op = 3 ∨ op = 4 ∨ op = 22 ∨ op = 23 ∨ op = 24 ∨ op = 25 ∨ op = 26 ∨ op = 27 ∨ op = 28 ∨ op = 29 ∨ op = 30 ∨ op = 31 ∨ op = 32 ∨ op = 33 ∨ op = 34 ∨ op = 35 ∨ op = 36 ∨ op = 37 ∨ op = 38 ∨ op = 39 ∨ op = 40 ∨ op = 41 ∨ op = 42 ∨ op = 43 ∨ op = 44 ∨ op = 45 ∨ op = 46 ∨ op = 47 ∨ op = 48 ∨ op = 49 ∨ op = 53 ∨ op = 54 ∨ op = 55 ∨ op = 56 ∨ op = 57 ∨ op = 58 ∨ op = 59 ∨ op = 60 ∨ op = 61 ∨ op = 62 ∨ op = 63 ∨ op = 64 ∨ op = 65 := by
  unfold HasB at h
  simp at h
  omega
def VX (op rd rs1 rs2 im : Int) (aq rl : Bool) (pc a b : Int) : Int := if GoodB op rd rs1 rs2 im aq rl = true then (if HasB op = true then VB op im pc a b else 0) else 0
def EX (op rd rs1 rs2 im : Int) (aq rl : Bool) : Int := if GoodB op rd rs1 rs2 im aq rl = true then (if HasB op = true then 0 else 80) else 20
theorem u_in (im : Int) : InU (IntKind.u64.wrap im) := in_wrap im
set_option maxRecDepth 100000 in
set_option maxHeartbeats 1000000 in
theorem val_yes (op rd rs1 rs2 im pc a b : Int) (aq rl : Bool) (qa : InU a) (qb : InU b) (hh : HasB op = true) (HG : Hid (∀ w, Cod w → Calls Tryd.prog 43 #[.agg #[.int .i64 op, .int .i64 rd, .int .i64 rs1, .int .i64 rs2, .int .i64 im, .bool aq, .bool rl]] w fun e w' => e = .returned (.bool true) ∧ Nb w w')) (w : World) (hC : Cod w) :
    Calls Tryd.prog 26 #[.agg #[.int .i64 op, .int .i64 rd, .int .i64 rs1, .int .i64 rs2, .int .i64 im, .bool aq, .bool rl], .int .u64 pc, .int .u64 a, .int .u64 b] w fun e w' => e = .returned (.tuple #[.int .u64 (VB op im pc a b), .int .i64 0]) ∧ Nb w w' := by
  have hl := has_list op hh
  clear hh
  rcases hl with rfl | rfl | rfl | rfl | rfl | rfl | rfl | rfl | rfl | rfl | rfl | rfl | rfl | rfl | rfl | rfl | rfl | rfl | rfl | rfl | rfl | rfl | rfl | rfl | rfl | rfl | rfl | rfl | rfl | rfl | rfl | rfl | rfl | rfl | rfl | rfl | rfl | rfl | rfl | rfl | rfl | rfl | rfl | rfl | rfl
  · exact val_1 rd rs1 rs2 im pc a b aq rl qa qb (u_in im) HG w hC
  · exact val_2 rd rs1 rs2 im pc a b aq rl qa qb (u_in im) HG w hC
  · exact val_3 rd rs1 rs2 im pc a b aq rl qa qb (u_in im) HG w hC
  · exact val_4 rd rs1 rs2 im pc a b aq rl qa qb (u_in im) HG w hC
  · exact val_22 rd rs1 rs2 im pc a b aq rl qa qb (u_in im) HG w hC
  · exact val_23 rd rs1 rs2 im pc a b aq rl qa qb (u_in im) HG w hC
  · exact val_24 rd rs1 rs2 im pc a b aq rl qa qb (u_in im) HG w hC
  · exact val_25 rd rs1 rs2 im pc a b aq rl qa qb (u_in im) HG w hC
  · exact val_26 rd rs1 rs2 im pc a b aq rl qa qb (u_in im) HG w hC
  · exact val_27 rd rs1 rs2 im pc a b aq rl qa qb (u_in im) HG w hC
  · exact val_28 rd rs1 rs2 im pc a b aq rl qa qb (u_in im) HG w hC
  · exact val_29 rd rs1 rs2 im pc a b aq rl qa qb (u_in im) HG w hC
  · exact val_30 rd rs1 rs2 im pc a b aq rl qa qb (u_in im) HG w hC
  · exact val_31 rd rs1 rs2 im pc a b aq rl qa qb (u_in im) HG w hC
  · exact val_32 rd rs1 rs2 im pc a b aq rl qa qb (u_in im) HG w hC
  · exact val_33 rd rs1 rs2 im pc a b aq rl qa qb (u_in im) HG w hC
  · exact val_34 rd rs1 rs2 im pc a b aq rl qa qb (u_in im) HG w hC
  · exact val_35 rd rs1 rs2 im pc a b aq rl qa qb (u_in im) HG w hC
  · exact val_36 rd rs1 rs2 im pc a b aq rl qa qb (u_in im) HG w hC
  · exact val_37 rd rs1 rs2 im pc a b aq rl qa qb (u_in im) HG w hC
  · exact val_38 rd rs1 rs2 im pc a b aq rl qa qb (u_in im) HG w hC
  · exact val_39 rd rs1 rs2 im pc a b aq rl qa qb (u_in im) HG w hC
  · exact val_40 rd rs1 rs2 im pc a b aq rl qa qb (u_in im) HG w hC
  · exact val_41 rd rs1 rs2 im pc a b aq rl qa qb (u_in im) HG w hC
  · exact val_42 rd rs1 rs2 im pc a b aq rl qa qb (u_in im) HG w hC
  · exact val_43 rd rs1 rs2 im pc a b aq rl qa qb (u_in im) HG w hC
  · exact val_44 rd rs1 rs2 im pc a b aq rl qa qb (u_in im) HG w hC
  · exact val_45 rd rs1 rs2 im pc a b aq rl qa qb (u_in im) HG w hC
  · exact val_46 rd rs1 rs2 im pc a b aq rl qa qb (u_in im) HG w hC
  · exact val_47 rd rs1 rs2 im pc a b aq rl qa qb (u_in im) HG w hC
  · exact val_48 rd rs1 rs2 im pc a b aq rl qa qb (u_in im) HG w hC
  · exact val_49 rd rs1 rs2 im pc a b aq rl qa qb (u_in im) HG w hC
  · exact val_53 rd rs1 rs2 im pc a b aq rl qa qb (u_in im) HG w hC
  · exact val_54 rd rs1 rs2 im pc a b aq rl qa qb (u_in im) HG w hC
  · exact val_55 rd rs1 rs2 im pc a b aq rl qa qb (u_in im) HG w hC
  · exact val_56 rd rs1 rs2 im pc a b aq rl qa qb (u_in im) HG w hC
  · exact val_57 rd rs1 rs2 im pc a b aq rl qa qb (u_in im) HG w hC
  · exact val_58 rd rs1 rs2 im pc a b aq rl qa qb (u_in im) HG w hC
  · exact val_59 rd rs1 rs2 im pc a b aq rl qa qb (u_in im) HG w hC
  · exact val_60 rd rs1 rs2 im pc a b aq rl qa qb (u_in im) HG w hC
  · exact val_61 rd rs1 rs2 im pc a b aq rl qa qb (u_in im) HG w hC
  · exact val_62 rd rs1 rs2 im pc a b aq rl qa qb (u_in im) HG w hC
  · exact val_63 rd rs1 rs2 im pc a b aq rl qa qb (u_in im) HG w hC
  · exact val_64 rd rs1 rs2 im pc a b aq rl qa qb (u_in im) HG w hC
  · exact val_65 rd rs1 rs2 im pc a b aq rl qa qb (u_in im) HG w hC
set_option maxRecDepth 100000 in
set_option maxHeartbeats 1000000 in
theorem rval_yes (op rd rs1 rs2 im pc a b : Int) (aq rl : Bool) (qa : InU a) (qb : InU b) (hh : HasB op = true) (HG : Hid (∀ w, Calls Tryd.prog 25 #[.agg #[.int .i64 op, .int .i64 rd, .int .i64 rs1, .int .i64 rs2, .int .i64 im, .bool aq, .bool rl]] w fun e w' => e = .returned (.bool true) ∧ Nb w w')) (w : World) :
    Calls Tryd.prog 27 #[.agg #[.int .i64 op, .int .i64 rd, .int .i64 rs1, .int .i64 rs2, .int .i64 im, .bool aq, .bool rl], .int .u64 pc, .int .u64 a, .int .u64 b] w fun e w' => e = .returned (.tuple #[.int .u64 (VB op im pc a b), .int .i64 0]) ∧ Nb w w' := by
  have hl := has_list op hh
  clear hh
  rcases hl with rfl | rfl | rfl | rfl | rfl | rfl | rfl | rfl | rfl | rfl | rfl | rfl | rfl | rfl | rfl | rfl | rfl | rfl | rfl | rfl | rfl | rfl | rfl | rfl | rfl | rfl | rfl | rfl | rfl | rfl | rfl | rfl | rfl | rfl | rfl | rfl | rfl | rfl | rfl | rfl | rfl | rfl | rfl | rfl | rfl
  · exact rval_1 rd rs1 rs2 im pc a b aq rl qa qb (u_in im) HG w
  · exact rval_2 rd rs1 rs2 im pc a b aq rl qa qb (u_in im) HG w
  · exact rval_3 rd rs1 rs2 im pc a b aq rl qa qb (u_in im) HG w
  · exact rval_4 rd rs1 rs2 im pc a b aq rl qa qb (u_in im) HG w
  · exact rval_22 rd rs1 rs2 im pc a b aq rl qa qb (u_in im) HG w
  · exact rval_23 rd rs1 rs2 im pc a b aq rl qa qb (u_in im) HG w
  · exact rval_24 rd rs1 rs2 im pc a b aq rl qa qb (u_in im) HG w
  · exact rval_25 rd rs1 rs2 im pc a b aq rl qa qb (u_in im) HG w
  · exact rval_26 rd rs1 rs2 im pc a b aq rl qa qb (u_in im) HG w
  · exact rval_27 rd rs1 rs2 im pc a b aq rl qa qb (u_in im) HG w
  · exact rval_28 rd rs1 rs2 im pc a b aq rl qa qb (u_in im) HG w
  · exact rval_29 rd rs1 rs2 im pc a b aq rl qa qb (u_in im) HG w
  · exact rval_30 rd rs1 rs2 im pc a b aq rl qa qb (u_in im) HG w
  · exact rval_31 rd rs1 rs2 im pc a b aq rl qa qb (u_in im) HG w
  · exact rval_32 rd rs1 rs2 im pc a b aq rl qa qb (u_in im) HG w
  · exact rval_33 rd rs1 rs2 im pc a b aq rl qa qb (u_in im) HG w
  · exact rval_34 rd rs1 rs2 im pc a b aq rl qa qb (u_in im) HG w
  · exact rval_35 rd rs1 rs2 im pc a b aq rl qa qb (u_in im) HG w
  · exact rval_36 rd rs1 rs2 im pc a b aq rl qa qb (u_in im) HG w
  · exact rval_37 rd rs1 rs2 im pc a b aq rl qa qb (u_in im) HG w
  · exact rval_38 rd rs1 rs2 im pc a b aq rl qa qb (u_in im) HG w
  · exact rval_39 rd rs1 rs2 im pc a b aq rl qa qb (u_in im) HG w
  · exact rval_40 rd rs1 rs2 im pc a b aq rl qa qb (u_in im) HG w
  · exact rval_41 rd rs1 rs2 im pc a b aq rl qa qb (u_in im) HG w
  · exact rval_42 rd rs1 rs2 im pc a b aq rl qa qb (u_in im) HG w
  · exact rval_43 rd rs1 rs2 im pc a b aq rl qa qb (u_in im) HG w
  · exact rval_44 rd rs1 rs2 im pc a b aq rl qa qb (u_in im) HG w
  · exact rval_45 rd rs1 rs2 im pc a b aq rl qa qb (u_in im) HG w
  · exact rval_46 rd rs1 rs2 im pc a b aq rl qa qb (u_in im) HG w
  · exact rval_47 rd rs1 rs2 im pc a b aq rl qa qb (u_in im) HG w
  · exact rval_48 rd rs1 rs2 im pc a b aq rl qa qb (u_in im) HG w
  · exact rval_49 rd rs1 rs2 im pc a b aq rl qa qb (u_in im) HG w
  · exact rval_53 rd rs1 rs2 im pc a b aq rl qa qb (u_in im) HG w
  · exact rval_54 rd rs1 rs2 im pc a b aq rl qa qb (u_in im) HG w
  · exact rval_55 rd rs1 rs2 im pc a b aq rl qa qb (u_in im) HG w
  · exact rval_56 rd rs1 rs2 im pc a b aq rl qa qb (u_in im) HG w
  · exact rval_57 rd rs1 rs2 im pc a b aq rl qa qb (u_in im) HG w
  · exact rval_58 rd rs1 rs2 im pc a b aq rl qa qb (u_in im) HG w
  · exact rval_59 rd rs1 rs2 im pc a b aq rl qa qb (u_in im) HG w
  · exact rval_60 rd rs1 rs2 im pc a b aq rl qa qb (u_in im) HG w
  · exact rval_61 rd rs1 rs2 im pc a b aq rl qa qb (u_in im) HG w
  · exact rval_62 rd rs1 rs2 im pc a b aq rl qa qb (u_in im) HG w
  · exact rval_63 rd rs1 rs2 im pc a b aq rl qa qb (u_in im) HG w
  · exact rval_64 rd rs1 rs2 im pc a b aq rl qa qb (u_in im) HG w
  · exact rval_65 rd rs1 rs2 im pc a b aq rl qa qb (u_in im) HG w
theorem val_any (op rd rs1 rs2 im pc a b : Int) (aq rl : Bool) (qa : InU a) (qb : InU b) (v0 : -9223372036854775808 ≤ im) (v1 : im < 9223372036854775808) (w : World) (hC : Cod w) :
    Calls Tryd.prog 26 #[.agg #[.int .i64 op, .int .i64 rd, .int .i64 rs1, .int .i64 rs2, .int .i64 im, .bool aq, .bool rl], .int .u64 pc, .int .u64 a, .int .u64 b] w fun e w' => e = .returned (.tuple #[.int .u64 (VX op rd rs1 rs2 im aq rl pc a b), .int .i64 (EX op rd rs1 rs2 im aq rl)]) ∧ Nb w w' := by
  have HG := fun w (hC : Cod w) => good_any op rd rs1 rs2 im aq rl v0 v1 w hC
  unfold VX EX
  cases hg : GoodB op rd rs1 rs2 im aq rl <;> rw [hg] at HG
  · exact val_bad op rd rs1 rs2 im pc a b aq rl qa qb (u_in im) (Lib.hid HG) w hC
  · cases hh : HasB op
    · exact val_none op rd rs1 rs2 im pc a b aq rl hh qa qb (u_in im) (Lib.hid HG) w hC
    · exact val_yes op rd rs1 rs2 im pc a b aq rl qa qb hh (Lib.hid HG) w hC
theorem rval_any (op rd rs1 rs2 im pc a b : Int) (aq rl : Bool) (qa : InU a) (qb : InU b) (v0 : -9223372036854775808 ≤ im) (v1 : im < 9223372036854775808) (w : World) :
    Calls Tryd.prog 27 #[.agg #[.int .i64 op, .int .i64 rd, .int .i64 rs1, .int .i64 rs2, .int .i64 im, .bool aq, .bool rl], .int .u64 pc, .int .u64 a, .int .u64 b] w fun e w' => e = .returned (.tuple #[.int .u64 (VX op rd rs1 rs2 im aq rl pc a b), .int .i64 (EX op rd rs1 rs2 im aq rl)]) ∧ Nb w w' := by
  have HG := fun w => rgoods op rd rs1 rs2 im aq rl v0 v1 w
  unfold VX EX
  cases hg : GoodB op rd rs1 rs2 im aq rl <;> rw [hg] at HG
  · exact rval_bad op rd rs1 rs2 im pc a b aq rl qa qb (u_in im) (Lib.hid HG) w
  · cases hh : HasB op
    · cases hf : ((refRow op).1 != 8)
      · exact rval_none8 op rd rs1 rs2 im pc a b aq rl qa qb (u_in im) hh _ _ _ _ hf (Lib.hid (row_any op)) (Lib.hid HG) w
      · exact rval_noneo op rd rs1 rs2 im pc a b aq rl qa qb (u_in im) hh _ _ _ _ hf (Lib.hid (row_any op)) (Lib.hid HG) w
    · exact rval_yes op rd rs1 rs2 im pc a b aq rl qa qb hh (Lib.hid HG) w
end Go.Proofs.YtnifoghebnjonaaDoor
