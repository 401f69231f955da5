/-
  Proved here: what word the reference has for every instruction: the code's, or none. Conditions: the numbers are ints.
-/
import Derived.Test.YtnifoghebnjonaaDoorRa
namespace Go.Proofs.YtnifoghebnjonaaDoor
open Go.RowKit
set_option linter.unusedVariables false
theorem rgoods (op rd rs1 rs2 im : Int) (aq rl : Bool) (v0 : -9223372036854775808 ≤ im) (v1 : im < 9223372036854775808) (w : World) :
    Calls Tryd.prog 25 #[.agg #[.int .i64 op, .int .i64 rd, .int .i64 rs1, .int .i64 rs2, .int .i64 im, .bool aq, .bool rl]] w fun e w' => e = .returned (.bool (GoodB op rd rs1 rs2 im aq rl)) ∧ Nb w w' := by
  rw [← rgood_is]
  exact rgood_any op rd rs1 rs2 im aq rl v0 v1 w
end Go.Proofs.YtnifoghebnjonaaDoor
