/-
  Proved here: what word the reference has for an instruction that may be, form by form. Conditions: the operation's row has that form.
-/
import Derived.Test.YtmggichckhoomaaGreatDoorQan
import Derived.Test.YtmggichckhoomaaGreatDoorQao
import Derived.Test.YtmggichckhoomaaGreatDoorQak
namespace Go.Proofs.YtmggichckhoomaaGreatDoor
open Go.RowKit
set_option linter.unusedVariables false
attribute [local go_sem ↓] ix52_0 ix52_1 ix52_2 ix52_3
theorem Nb.drewN {a b : World} (h : Nb a b) (n : Nat) : Nb a (b.drewN n) := Below.trans h ⟨rfl, rfl, rfl, Nat.le_refl _, fun _ _ => rfl⟩
end Go.Proofs.YtmggichckhoomaaGreatDoor
